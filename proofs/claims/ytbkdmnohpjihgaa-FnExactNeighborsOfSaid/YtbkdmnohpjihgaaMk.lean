/- Operations that make memory or write it do as is reckoned: rows that are made, cells of rows that are written. -/
import Derived.Test.YtbkdmnohpjihgaaMj
namespace Go.Proofs.Ytbkdmnohpjihgaa.M
open Go.RowKit Abs
set_option linter.unusedVariables false
set_option linter.unusedSimpArgs false

section
variable {P : Program} {T : Tab} {w0 w w1 : World} {B : Nat → Prop} {hd : Nat → Value} {S : AS} {a : Act} {val : Nat → Bd}
theorem alloc_lt (w : World) (c : Array Value) (e : TypeId) : w.heap.size < (w.alloc (.cells c e)).heap.size := by show w.heap.size < (w.heap.push _).size; simp
theorem new_row (hR : Rl w0 B hd S a w val) {e : TypeId} {t : Ty} {l : Unit → List t.den} {xs : List Value} {cur : Array Value} {cap : Nat} (hr : RepL (okF S.H val) w t (l ()) xs) (hn : (l ()).length ≤ cap) (hc : cap ≤ maxLen) (hs : cur.size = cap * t.n)
    (ht : cur.toList.take ((l ()).length * t.n) = xs) :
    Rl w0 B hd { S with H := S.H ++ [some (.row e t l)] } a (w.alloc (.cells cur e)) (upd val S.H.length ⟨.slice (some ⟨w.heap.size, 0, none⟩) (l ()).length cap, [], [w.heap.size]⟩) := by
  have hb : Below w.heap.size w (w.alloc (.cells cur e)) := (Below.refl _ _).alloc (Nat.le_refl _) _
  refine hR.fresh hb [] (fun g hg => .inl ?_) fun val' hv hd hok => ?_
  · simp only [List.mem_singleton] at hg
    subst hg
    exact ⟨Nat.le_refl _, alloc_lt _ _ _⟩
  · exact ⟨xs, ⟨hr.1, .inr ⟨w.heap.size, cap, cur, rfl, Nat.zero_le _, heap_alloc_new _ _, hn, hc, hs, ht⟩⟩, repL_keep hb.size hok hr, rfl⟩
/-- A new slice of slices, whose rows' values are these, out of blocks that it takes in. -/
theorem new_rows (hR : Rl w0 B hd S a w val) {e e2 : TypeId} {t : Ty} {l : Unit → List (List t.den)} {hs : List Value} {cur : Array Value} {cap : Nat} (C : List Nat)
    (hl : hs.length = (l ()).length) (hn : (l ()).length ≤ cap) (hc : cap ≤ maxLen) (hsz : cur.size = cap) (ht : cur.toList.take (l ()).length = hs)
    (hr : ∀ (i : Nat) (y : List t.den), (l ())[i]? = some y → ∃ h xs, hs[i]? = some h ∧ w.ownsRow 0 e2 t.n h y.length xs ∧ RepL (okF S.H val) w t y xs)
    (ho : ∀ h ∈ hs, ∀ g, ownB h = some g → ∃ c, c ∈ C ∧ (∃ b', S.H[c]? = some (some b')) ∧ g ∈ (val c).F)
    (ha : ∀ (i j : Nat) (h h' : Value) (g : Nat), hs[i]? = some h → hs[j]? = some h' → ownB h = some g → ownB h' = some g → i = j) :
    Rl w0 B hd { S with H := dropC C S.H ++ [some (.rows e e2 t l)] } a (w.alloc (.cells cur e)) (upd val S.H.length ⟨.slice (some ⟨w.heap.size, 0, none⟩) (l ()).length cap, hs, w.heap.size :: hs.filterMap ownB⟩) := by
  have hb : Below w.heap.size w (w.alloc (.cells cur e)) := (Below.refl _ _).alloc (Nat.le_refl _) _
  have hlt : ∀ h ∈ hs, ∀ g, ownB h = some g → g < w.heap.size := fun h hh g hg => by
    obtain ⟨c, _, ⟨b', hb'⟩, hc⟩ := ho h hh g hg
    exact hR.heap.lt c b' hb' g hc
  refine hR.fresh hb C (fun g hg => ?_) fun val' hv hd hok => ?_
  · rcases List.mem_cons.1 hg with rfl | hg
    · exact .inl ⟨Nat.le_refl _, alloc_lt _ _ _⟩
    · obtain ⟨h, hh, hg⟩ := List.mem_filterMap.1 hg
      exact .inr (ho h hh g hg)
  · refine ⟨⟨by simp [hl], .inr ⟨w.heap.size, cap, cur, rfl, Nat.zero_le _, heap_alloc_new _ _, hn, hc, by simpa using hsz, by simpa using ht⟩⟩, fun i y hy => ?_, fun g => ?_, ha, fun h hh g hg => ?_⟩
    · obtain ⟨h, xs, k1, k2, k3⟩ := hr i y hy
      exact ⟨h, xs, k1, ownsRow_keep k2 (fun g hg => hb.block g (hlt h (List.mem_of_getElem? k1) g (by simpa using hg))), repL_keep hb.size hok k3⟩
    · simp only [List.mem_cons, List.mem_filterMap]
      constructor
      · rintro (rfl | h)
        · exact .inl rfl
        · exact .inr h
      · rintro (h | h)
        · left; simpa [ownB] using h.symm
        · exact .inr h
    · have := hlt h hh g hg
      intro e'
      simp [ownB] at e'
      omega
theorem make_step (hT : TOk P T) (hR : Rl w0 B hd S a w val) {o : Oper} {t : TypeId} {l c : Operand} (hop : o.op = .makeSlice t l c) {S' : AS} {O : Ob} (h : makeF T S o.dst t (S.ev l) (S.ev c) = some (S', O)) (hO : O.holds) {next : Act → World → Prop} {Q : Exit → Act → World → Prop}
    (hn : ∀ a' w' val', Rl w0 B hd S' a' w' val' → next a' w') : o.wp P a w next Q := by
  unfold makeF at h
  have run : ∀ {e : TypeId} {tt : Ty} {p q : Unit → Int}, (tl T t).und = .slice e → (tl T e).ty = some tt → S.ev l = .int p → S.ev c = .int q → 0 ≤ p () → p () ≤ q () → q () ≤ 4294967296 →
      ∃ z : Array Value, z.toList = zcellsOf tt ∧ (execOp a.eval o).run P w = .ok (.value (.slice (some ⟨w.heap.size, 0, none⟩) (p ()).toNat (q ()).toNat)) (w.alloc (.cells (madeCells z ((q ()).toNat * tt.n)) e)) := by
    intro e tt p q hu ht hl hc h0 h1 h2
    obtain ⟨i, z, hi, hz, hsz, hby, hzc⟩ := elemOk_info (hT.ty ht).2.1
    have hlv := hR.ev l
    have hcv := hR.ev c
    rw [hl] at hlv
    rw [hc] at hcv
    simp only [VRel] at hlv hcv
    have hbc : (i.bytes : Int) * q () ≤ 281474976710656 := by
      have h3 : (i.bytes : Int) * q () ≤ 1024 * q () := Int.mul_le_mul_of_nonneg_right (by omega) (by omega)
      omega
    have hrun := run_make (P := P) w t e i z (slElem_und (hT.slice hu)) hi hz .i64 .i64 (p ()) (q ()) h0 h1 hbc (by omega)
    refine ⟨z.cells, hzc, ?_⟩
    obtain ⟨dst, op, type, pos, after, guard⟩ := o
    simp only at hop
    subst hop
    rw [hsz] at hrun
    simp [execOp, hlv, hcv, hrun]
  split at h
  · rename_i e p q hu hl hc
    split at h
    · rename_i e2 tt hu2 ht
      cases h
      obtain ⟨h0, h1, h2⟩ := hO
      obtain ⟨z, hz, hrun⟩ := run hu ht hl hc h0 h1 h2
      have hz1 : z = #[.slice none 0 0] := by apply Array.ext'; rw [hz]; rfl
      subst hz1
      have hnil : ∀ (i : Nat) (h : Value), (List.replicate (p ()).toNat (Value.slice none 0 0))[i]? = some h → h = .slice none 0 0 := fun i h hh => by
        rw [List.getElem?_replicate] at hh
        split at hh
        · cases hh; rfl
        · cases hh
      have hF := new_rows (e := e) (e2 := e2) (t := tt) (l := fun _ => List.replicate (p ()).toNat []) (hs := List.replicate (p ()).toNat (.slice none 0 0)) (cap := (q ()).toNat) (cur := madeCells #[.slice none 0 0] ((q ()).toNat * 1)) hR []
        (by simp) (by simp; omega) (by unfold maxLen; omega) (by simp [size_madeCells]) (by
          apply List.ext_getElem?
          intro j
          rw [List.getElem?_take, List.length_replicate, List.getElem?_replicate]
          split
          · have hlt : j < (q ()).toNat * 1 := by omega
            simp [madeCells, Nat.mod_one]
            exact ⟨j, by rw [List.getElem?_range (by omega)]⟩
          · rfl)
        (fun i y hy => by
          have hi : i < (p ()).toNat := by have := (List.getElem?_eq_some_iff.1 hy).1; simpa using this
          have hy' : y = [] := by rw [List.getElem?_replicate, if_pos hi] at hy; cases hy; rfl
          subst hy'
          exact ⟨.slice none 0 0, [], by rw [List.getElem?_replicate, if_pos hi], World.ownsRow_nil w 0 e2 tt.n, by simp, fun i y hy => by simp at hy⟩)
        (fun h hh g hg => by rw [(List.mem_replicate.1 hh).2] at hg; cases hg)
        (fun i j h h' g hi hj hg _ => by rw [hnil i h hi] at hg; cases hg)
      refine wp_of_value hrun (hn _ _ _ (hF.put o.dst ?_))
      simp only [VRel]
      exact ⟨by simp [dropC], by rw [upd_self]; simp⟩
    · cases h
    · rename_i tt ht _ _
      cases h
      obtain ⟨h0, h1, h2⟩ := hO
      obtain ⟨z, hz, hrun⟩ := run hu ht hl hc h0 h1 h2
      have hrow := made_row (ok := okF S.H val) (w := w) hz (p ()).toNat (q ()).toNat (by omega)
      have hF := new_row (e := e) (l := fun _ => List.replicate (p ()).toNat (zden tt)) (cap := (q ()).toNat) (cur := madeCells z ((q ()).toNat * tt.n)) hR hrow (by simp; omega) (by unfold maxLen; omega) (by simp [size_madeCells]) (by simp)
      refine wp_of_value hrun (hn _ _ _ (hF.put o.dst ?_))
      simp only [VRel]
      exact ⟨by simp, by rw [upd_self]; simp⟩
    · cases h
  · cases h
theorem storeRow_run {o : Oper} {t : TypeId} {p x : Operand} (hop : o.op = .store t p x) {g off : Nat} (hpe : a.eval p = .pointer (some ⟨g, off, none⟩)) {w1 : World} (hrun : (Instr.storeAt t (.pointer (some ⟨g, off, none⟩)) (a.eval x)).run P w = .ok () w1) :
    (execOp a.eval o).run P w = .ok .skip w1 := by
  obtain ⟨dst, op, type, pos, after, guard⟩ := o
  simp only at hop
  subst hop
  simp [execOp, hpe, hrun]
/-- A row of which one element is written. -/
theorem own_set {base : Nat} {e : TypeId} {t : Ty} {l : List t.den} {v : Value} {xs c : List Value} {g len cap : Nat} {ok : Nat → Prop} (h1 : w.ownsRow base e t.n v l.length xs) (h2 : RepL ok w t l xs) (hv : v = .slice (some ⟨g, 0, none⟩) len cap)
    {i : Nat} {y : t.den} (hi : i < l.length) (hrep : Rep ok w t y c) {u : TypeId} {x : Value} (hx : x.cells.toList = c) (hs : szOf P u = some t.n) :
    ∃ w1 xs', (Instr.storeAt u (.pointer (some ⟨g, i * t.n, none⟩)) x).run P w = .ok () w1 ∧ w1.heap.size = w.heap.size ∧ w1.os = w.os ∧ w1.tape = w.tape ∧ w1.output = w.output ∧ (∀ k, k ≠ g → w1.heap[k]? = w.heap[k]?) ∧
      w1.ownsRow base e t.n v (l.set i y).length xs' ∧ RepL ok w t (l.set i y) xs' := by
  have hlen : x.cells.size = t.n := by have := hrep.length; rw [← hx] at this; simpa using this
  rcases h1.2 with ⟨h3, _⟩ | ⟨g', cap', cur, h3, h4, h5, h6, h7, h8, h9⟩
  · rw [hv] at h3; cases h3
  · have h3' := h3
    rw [hv] at h3
    cases h3
    have hle : (i + 1) * t.n ≤ l.length * t.n := Nat.mul_le_mul_right _ (by omega)
    have hle2 : l.length * t.n ≤ cap * t.n := Nat.mul_le_mul_right _ h6
    rw [Nat.add_mul] at hle
    have hrun := store_run (P := P) (w := w) (t := u) (g := g) (o := i * t.n) (v := x) h5 (by rw [hs, hlen]) (by omega) (by rw [hx]; exact hrep.one)
    have fr := setRow_frame w g (cur.toList.take (i * t.n) ++ x.cells.toList ++ cur.toList.drop (i * t.n + x.cells.size)).toArray
    have hset := repl_set h2 hi hrep
    refine ⟨_, _, hrun, fr.1, fr.2.1, fr.2.2.1, fr.2.2.2, fun k hk => setRow_other _ _ _ _ hk, ?_, hset⟩
    refine ⟨by rw [hset.1, List.length_set], .inr ⟨g, cap, _, by rw [List.length_set]; exact h3', h4, setRow_heap w g cur _ e (0, 0) h5, by rw [List.length_set]; exact h6, h7, ?_, ?_⟩⟩
    · simp; omega
    · rw [List.length_set]
      subst h9
      have hxx := h1.1
      rw [List.length_take, Array.length_toList] at hxx
      apply List.ext_getElem?
      intro q
      rw [← hx]
      simp only [List.getElem?_take, List.getElem?_append, List.length_append, List.length_take, Array.length_toList, List.getElem?_drop, hlen]
      rw [show min (i * t.n) cur.size = i * t.n by omega, show min (l.length * t.n) cur.size = l.length * t.n by omega, show min (i * t.n) (l.length * t.n) = i * t.n by omega]
      by_cases q1 : q < i * t.n
      · have : q < l.length * t.n := by omega
        simp [q1, this, show q < i * t.n + t.n by omega]
      · by_cases q2 : q < i * t.n + t.n
        · have : q < l.length * t.n := by omega
          simp [q1, q2, this]
        · by_cases q3 : q < l.length * t.n
          · simp [q2, q3, show i * t.n + t.n + (q - (i * t.n + t.n)) = q by omega]
          · simp [q2, q3, show ¬ (i * t.n + t.n + (q - (i * t.n + t.n)) < l.length * t.n) by omega]
theorem viewD_data (hR : Rl w0 B hd S a w val) {t : Ty} {x : AV} {v : Value} {y : Unit → t.den} (hx : VRel (okF S.H val) w S.H.length val x v) (h : viewD [] t x = some y) : Rep (okF S.H val) w t (y ()) v.cells.toList :=
  (viewD_rep hR (H := []) (fun n b hn => by simp at hn) (fun _ h => h) hx h).2
theorem storeRow_step (hT : TOk P T) (hR : Rl w0 B hd S a w val) {o : Oper} {t : TypeId} {p x : Operand} (hop : o.op = .store t p x) {n : Nat} {i : Unit → Int} {e : TypeId} {tt : Ty} (hp : S.ev p = .eptr n i tt.n) {l : Unit → List tt.den} (hH : S.H[n]? = some (some (.row e tt l)))
    {y : Unit → tt.den} (hy : viewD [] tt (S.ev x) = some y) (hs : szOf P t = some tt.n) {next : Act → World → Prop} {Q : Exit → Act → World → Prop}
    (hn : ∀ a' w' val', Rl w0 B hd ({ S with H := S.H.set n (some (.row e tt fun _ => setI (l ()) (i ()) (y ()))) }.put o.dst .undef) a' w' val' → next a' w') : o.wp P a w next Q := by
  have hrep := viewD_data hR (hR.ev x) hy
  have hpv := hR.ev p
  rw [hp] at hpv
  simp only [VRel] at hpv
  obtain ⟨_, g, len, cap, hv, hi0, hi1, hpe⟩ := hpv
  obtain ⟨xs, h1, h2, h3⟩ := hR.heap.blk n _ hH
  have hlen := (row_at h1 h2 hv hi0 hi1).1
  obtain ⟨w1, xs', hrun, e1, e2, e3, e4, e5, e6, e7⟩ := own_set (P := P) (u := t) h1 h2 hv (i := (i ()).toNat) (by omega) hrep rfl hs
  have hW := hR.write (w1 := w1) (b' := .row e tt fun _ => setI (l ()) (i ()) (y ())) hH e1 e2 e3 e4 (fun k hk => e5 k fun e => hk (by rw [h3, hv, e]; simp [ownB]))
    (fun K => ⟨xs', e6, repL_keep K.size K.ok e7, h3⟩)
  exact wp_of_skip (storeRow_run hop hpe hrun) (hn _ _ _ (hW.put o.dst (by simp only [VRel]; rfl)))
/-- A cell of a row of a slice of slices is written. -/
theorem storeCell_step (hT : TOk P T) (hR : Rl w0 B hd S a w val) {o : Oper} {t : TypeId} {p x : Operand} (hop : o.op = .store t p x) {n : Nat} {i j : Unit → Int} {e e2 : TypeId} {tt : Ty} (hp : S.ev p = .eelem n i j tt.n) {l : Unit → List (List tt.den)} (hH : S.H[n]? = some (some (.rows e e2 tt l)))
    {y : Unit → tt.den} (hy : viewD [] tt (S.ev x) = some y) (hs : szOf P t = some tt.n) {next : Act → World → Prop} {Q : Exit → Act → World → Prop}
    (hn : ∀ a' w' val', Rl w0 B hd ({ S with H := S.H.set n (some (.rows e e2 tt fun _ => setR tt (l ()) (i ()) (j ()) (y ()))) }.put o.dst .undef) a' w' val' → next a' w') : o.wp P a w next Q := by
  have hrep := viewD_data hR (hR.ev x) hy
  have hpv := hR.ev p
  rw [hp] at hpv
  simp only [VRel] at hpv
  obtain ⟨_, hi0, g, len, cap, hv, hj0, hj1, hpe⟩ := hpv
  obtain ⟨k1, k2, k3, k4, k5⟩ := hR.heap.blk n _ hH
  have hhs : (val n).hs.length = (l ()).length := by have := k1.1; simpa using this
  have hlt : (i ()).toNat < (l ()).length := by rw [← hhs]; exact (List.getElem?_eq_some_iff.1 hv).1
  obtain ⟨h, xs, m1, m2, m3⟩ := k2 _ _ (getR_get (i := i ()) hi0 (by omega))
  rw [hv] at m1
  cases m1
  have hlen := (row_at m2 m3 rfl hj0 hj1).1
  obtain ⟨w1, xs', hrun, e1, e2', e3, e4, e5, e6, e7⟩ := own_set (P := P) (u := t) m2 m3 rfl (i := (j ()).toNat) (by omega) hrep rfl hs
  have hgF : ownB (Value.slice (some ⟨g, 0, none⟩) len cap) = some g := rfl
  have hW := hR.write (w1 := w1) (b' := .rows e e2 tt fun _ => setR tt (l ()) (i ()) (j ()) (y ())) hH e1 e2' e3 e4 (fun k hk => e5 k fun e => hk ((k3 k).2 (.inr ⟨_, List.mem_of_getElem? hv, by rw [e]; rfl⟩)))
    (fun K => by
      refine ⟨?_, fun q z hz => ?_, k3, k4, k5⟩
      · have e8 : (setR tt (l ()) (i ()) (j ()) (y ())).length = (l ()).length := by simp [setR]
        rw [e8]
        exact ownsRow_keep k1 fun k hk => e5 k fun e => k5 _ (List.mem_of_getElem? hv) g hgF (by subst e; simpa using hk)
      · by_cases hq : q = (i ()).toNat
        · subst hq
          rw [show setR tt (l ()) (i ()) (j ()) (y ()) = (l ()).set (i ()).toNat ((getR tt (l ()) (i ())).set (j ()).toNat (y ())) from rfl, List.getElem?_set_self hlt] at hz
          cases hz
          exact ⟨_, xs', hv, e6, repL_keep K.size K.ok e7⟩
        · rw [show setR tt (l ()) (i ()) (j ()) (y ()) = (l ()).set (i ()).toNat ((getR tt (l ()) (i ())).set (j ()).toNat (y ())) from rfl, List.getElem?_set_ne (Ne.symm hq)] at hz
          obtain ⟨h', xs2, n1, n2, n3⟩ := k2 q z hz
          refine ⟨h', xs2, n1, ownsRow_keep n2 fun k hk => e5 k fun e => hq ?_, repL_keep K.size K.ok n3⟩
          exact k4 q _ h' _ g n1 hv (by subst e; simpa using hk) hgF)
  exact wp_of_skip (storeRow_run hop hpe hrun) (hn _ _ _ (hW.put o.dst (by simp only [VRel]; rfl)))
end
end Go.Proofs.Ytbkdmnohpjihgaa.M
