/- Operations that make slices, and calls whose result is the caller's own. -/
import Derived.Test.YtbkdmnohpjihgaaAbs10
namespace Go.Proofs.Ytbkdmnohpjihgaa.Abs
open Go.RowKit
set_option linter.unusedVariables false

section
variable {P : Program} {w0 w w1 : World} {S : AS} {a : Act} {val : Nat → Value}
theorem ok_new {ok : Nat → Prop} {v : Value} {g : Nat} (hv : ownB v = some g) (hsz : w.heap.size ≤ g) {t : Ty} {x : t.den} {cs : List Value} {w1 : World} (hb : Below w.heap.size w w1) (h : Rep ok w t x cs) :
    Rep (fun b => ok b ∧ ownB v ≠ some b) w1 t x cs :=
  h.mono hb.size fun b hk hlt => ⟨⟨hk, fun e => by rw [hv] at e; cases e; omega⟩, hb.block b hlt⟩
/-- A block that has just been made, full of a row. -/
theorem new_row (hR : Rl w0 S a w val) {e : TypeId} {t : Ty} {l : List t.den} {xs : List Value} {cur : Array Value} {cap : Nat} (hr : RepL (okB S.H val) w t l xs) (hn : l.length ≤ cap) (hc : cap ≤ maxLen) (hs : cur.size = cap * t.n)
    (ht : cur.toList.take (l.length * t.n) = xs) :
    Rl w0 { S with H := S.H ++ [some (.row e t l)] } a (w.alloc (.cells cur e)) (upd val S.H.length (.slice (some ⟨w.heap.size, 0, none⟩) l.length cap)) := by
  have hb : Below w.heap.size w (w.alloc (.cells cur e)) := (Below.refl _ _).alloc (Nat.le_refl _) _
  exact hR.freshRow hb (xs := xs) ⟨hr.1, .inr ⟨w.heap.size, cap, cur, rfl, Nat.le_refl _, heap_alloc_new _ _, hn, hc, hs, ht⟩⟩
    ⟨hr.1, fun i y hy => ok_new (v := .slice (some ⟨w.heap.size, 0, none⟩) l.length cap) rfl (Nat.le_refl _) hb (hr.2 i y hy)⟩
theorem made_row {ok : Nat → Prop} {t : Ty} {z : Array Value} (hz : z.toList = zcellsOf t) (n m : Nat) (h : n ≤ m) :
    RepL ok w t (List.replicate n (zden t)) ((madeCells z (m * t.n)).toList.take (n * t.n)) := by
  have hzl : z.size = t.n := by have := (zrep (ok := fun _ => True) (w := default) t).length; rw [← hz] at this; simpa using this
  have hp := t.n_pos
  have hle : n * t.n ≤ m * t.n := Nat.mul_le_mul_right _ h
  refine ⟨by rw [List.length_take, Array.length_toList, size_madeCells, List.length_replicate]; omega, fun i y hy => ?_⟩
  have hi : i < n := by
    have := (List.getElem?_eq_some_iff.1 hy).1
    simpa using this
  have hyz : y = zden t := by
    rw [List.getElem?_replicate, if_pos hi] at hy
    cases hy; rfl
  subst hyz
  have hin : (i + 1) * t.n ≤ n * t.n := Nat.mul_le_mul_right _ (by omega)
  rw [Nat.add_mul] at hin
  have e : ((madeCells z (m * t.n)).toList.take (n * t.n) |>.drop (i * t.n)).take t.n = zcellsOf t := by
    rw [← hz]
    apply List.ext_getElem?
    intro q
    rw [List.getElem?_take]
    split
    · rename_i hq
      rw [List.getElem?_drop, List.getElem?_take, if_pos (by omega)]
      have hlt : i * t.n + q < m * t.n := by omega
      have hmod : (i * t.n + q) % z.size = q := by rw [hzl, Nat.mul_comm, Nat.mul_add_mod, Nat.mod_eq_of_lt (by omega)]
      have hqz : q < z.size := by omega
      simp [madeCells, hlt, hmod, hqz]
    · rw [List.getElem?_eq_none (by simp; omega)]
  rw [e]
  exact zrep t
theorem make_step (hR : Rl w0 S a w val) {o : Oper} {t : TypeId} {l c : Operand} (hop : o.op = .makeSlice t l c) {p q : Int} (hl : S.ev l = .int p) (hc : S.ev c = .int q) {e : TypeId} {tt : Ty} (hs : slElem P t = some e) (he : elemOk P e tt)
    (h0 : 0 ≤ p) (h1 : p ≤ q) (h2 : q ≤ 4294967296) {next : Act → World → Prop} {Q : Exit → Act → World → Prop}
    (hn : ∀ a' w' val', Rl w0 (S.new o.dst (.ref S.H.length) (.row e tt (List.replicate p.toNat (zden tt)))) a' w' val' → next a' w') : o.wp P a w next Q := by
  obtain ⟨i, z, hi, hz, hsz, hby, hzc⟩ := elemOk_info he
  have hlv := hR.ev l
  have hcv := hR.ev c
  rw [hl] at hlv
  rw [hc] at hcv
  have hlv' : a.eval l = .int .i64 p := hlv
  have hcv' : a.eval c = .int .i64 q := hcv
  have hbc : (i.bytes : Int) * q ≤ 281474976710656 := by
    have h3 : (i.bytes : Int) * q ≤ 1024 * q := Int.mul_le_mul_of_nonneg_right (by omega) (by omega)
    omega
  have hrun := run_make (P := P) w t e i z (slElem_und hs) hi hz .i64 .i64 p q h0 h1 hbc (by omega)
  have hrow := made_row (ok := okB S.H val) (w := w) hzc p.toNat q.toNat (by omega)
  have hF := new_row (e := e) (cap := q.toNat) (cur := madeCells z.cells (q.toNat * tt.n)) hR hrow (by simp; omega) (by unfold maxLen; omega) (by simp [size_madeCells]) (by simp)
  refine wp_of_value (v := .slice (some ⟨w.heap.size, 0, none⟩) p.toNat q.toNat) (w1 := w.alloc (.cells (madeCells z.cells (q.toNat * tt.n)) e)) ?_ (hn _ _ _ (hF.put o.dst (x := .ref S.H.length) ⟨by simp, ?_⟩))
  · obtain ⟨dst, op, type, pos, after, guard⟩ := o
    simp only at hop
    subst hop
    rw [hsz] at hrun
    simp [execOp, hlv', hcv', hrun]
  · rw [upd_self]; simp
theorem partVals_rel (hR : Rl w0 S a w val) {tt : Ty} : ∀ {i : Nat} {ps : List (Nat × Operand)} {l : List tt.den}, partVals S tt i ps = some l →
    l.length = ps.length ∧ (ps.map fun x => (x.1, a.eval x.2)) = (((ps.map fun (x : Nat × Operand) => a.eval x.2).zipIdx i).map fun x => (x.2, x.1)) ∧
    ∀ (j : Nat) (y : tt.den), l[j]? = some y → ∃ x, ps[j]? = some x ∧ Rep (okB S.H val) w tt y (a.eval x.2).cells.toList
  | i, [], l, h => by unfold partVals at h; cases h; exact ⟨rfl, rfl, fun j y hy => by simp at hy⟩
  | i, (j, x) :: r, l, h => by
    unfold partVals at h
    split at h
    · rename_i hij
      subst hij
      split at h
      · rename_i y l' hy hl
        cases h
        obtain ⟨h1, h2, h3⟩ := partVals_rel hR hl
        refine ⟨by simp [h1], by simp [h2], fun k z hz => ?_⟩
        cases k with
        | zero => simp at hz; subst hz; exact ⟨_, rfl, (unInj_rep hy (hR.ev x)).2⟩
        | succ k => simpa using h3 k z (by simpa using hz)
      · cases h
    · cases h
theorem buildSlice_step (hR : Rl w0 S a w val) {o : Oper} {t : TypeId} {len : Nat} {parts : Array (Nat × Operand)} (hop : o.op = .buildSlice t len parts) {e : TypeId} {tt : Ty} (hs : slElem P t = some e) (he : elemOk P e tt)
    {l : List tt.den} (hl : partVals S tt 0 parts.toList = some l) (hlen : l.length = len) (hsm : len * tt.n ≤ 16777216) {next : Act → World → Prop} {Q : Exit → Act → World → Prop}
    (hn : ∀ a' w' val', Rl w0 (S.new o.dst (.ref S.H.length) (.row e tt l)) a' w' val' → next a' w') : o.wp P a w next Q := by
  obtain ⟨i, z, hi, hz, hsz, hby, hzc⟩ := elemOk_info he
  have hp := tt.n_pos
  obtain ⟨h1, h2, h3⟩ := partVals_rel hR hl
  have hpl : parts.toList.length = len := by rw [← h1, hlen]
  have hcs : ∀ v ∈ (parts.toList.map fun (x : Nat × Operand) => a.eval x.2), v.cells.size = tt.n := by
    intro v hv
    obtain ⟨x, hx, rfl⟩ := List.mem_map.1 hv
    obtain ⟨j, hj⟩ := List.mem_iff_getElem?.1 hx
    have hlt : j < l.length := by rw [h1]; exact (List.getElem?_eq_some_iff.1 hj).1
    obtain ⟨x', hx', hr⟩ := h3 j l[j] (by simp [hlt])
    rw [hj] at hx'
    cases hx'
    have := hr.length
    simpa using this
  have hrow : RepL (okB S.H val) w tt l ((parts.toList.map fun (x : Nat × Operand) => (a.eval x.2).cells.toList).flatten) := by
    refine flat_repl (by simp [h1]) fun j y hy => ?_
    obtain ⟨x, hx, hr⟩ := h3 j y hy
    exact ⟨_, by rw [List.getElem?_map, hx]; rfl, hr⟩
  have hfm : ((parts.toList.map fun (x : Nat × Operand) => a.eval x.2).flatMap fun v => v.cells.toList) = (parts.toList.map fun (x : Nat × Operand) => (a.eval x.2).cells.toList).flatten := by
    rw [List.flatMap_def, List.map_map]; rfl
  have hF := new_row (e := e) (cap := len) (cur := ((parts.toList.map fun (x : Nat × Operand) => (a.eval x.2).cells.toList).flatten).toArray) hR hrow (by omega) (by
      unfold maxLen
      have : len ≤ len * tt.n := Nat.le_mul_of_pos_right _ hp
      omega) (by have := hrow.1; simp only [List.size_toArray]; rw [this, hlen]) (by
      rw [List.take_of_length_le (by have := hrow.1; simp only; omega)])
  refine wp_of_value (v := .slice (some ⟨w.heap.size, 0, none⟩) len len) (w1 := w.alloc (.cells ((parts.toList.map fun (x : Nat × Operand) => (a.eval x.2).cells.toList).flatten).toArray e)) ?_ (hn _ _ _ (hF.put o.dst (x := .ref S.H.length) ⟨by simp, ?_⟩))
  · have hbs : (Instr.buildSlice t len (parts.map fun (i, x) => (i, a.eval x))).run P w = .ok (.slice (some ⟨w.heap.size, 0, none⟩) len len) (w.alloc (.cells ((parts.toList.map fun (x : Nat × Operand) => (a.eval x.2).cells.toList).flatten).toArray e)) := by
      have hpt : (parts.map fun (i, x) => (i, a.eval x)).toList = ((parts.toList.map fun (x : Nat × Operand) => a.eval x.2).zipIdx 0).map fun x => (x.2, x.1) := by
        rw [Array.toList_map]; exact h2
      by_cases hz0 : len = 0
      · subst hz0
        have hnil : parts.toList = [] := List.eq_nil_of_length_eq_zero hpl
        have hparts : parts = #[] := by apply Array.ext'; simpa using hnil
        subst hparts
        simp [Instr.buildSlice, run_underlying (slElem_und hs), sizeOf, typeInfo, hi, Instr.fill, newRow]
        exact congrArg (fun c => w.alloc (.cells c e)) (Array.eq_empty_of_size_eq_zero (by simp))
      · have hpos : ¬ len * i.size = 0 := by rw [hsz]; exact Nat.mul_ne_zero hz0 (by omega)
        refine run_buildSlice w t e len _ _ i z (slElem_und hs) hi hz (by rw [hsz]; omega) hpos ?_
        rw [hpt, hsz, ← hfm]
        exact Great.fill_whole hp _ _ hcs (by simp only [List.length_map, Array.size_map, Array.size_range]; rw [hpl])
    obtain ⟨dst, op, type, pos, after, guard⟩ := o
    simp only at hop
    subst hop
    simp only [execOp, Sem.run_bind, hbs, Result.andThen_ok]
    rfl
  · rw [upd_self, hlen]

theorem run_append_none {t ty e : TypeId} {i : TypeInfo} (ht : P.underlying t = some (.slice e)) (hi : P.info? e = some i) {v u : Value} {n : Nat} {base : Nat} {xs : List Value}
    (ho : w.ownsRow base e i.size v n xs) (hu : ∃ ad c, u = .slice ad 0 c) : (Builtin.append_ #[t, t] ty #[v, u]).run P w = .ok v w := by
  obtain ⟨ad, c, rfl⟩ := hu
  have hv : ∃ b cap, v = .slice b n cap ∧ n ≤ cap := by
    rcases ho.2 with ⟨rfl, rfl⟩ | ⟨g, cap, cur, rfl, _, _, h, _⟩
    · exact ⟨none, 0, rfl, Nat.le_refl _⟩
    · exact ⟨_, cap, rfl, h⟩
  obtain ⟨b, cap, rfl, hle⟩ := hv
  cases ad <;> cases b <;> simp [Builtin.append_, run_underlying ht, sizeOf, typeInfo, hi, Builtin.lenOf, Builtin.firstCells, loadCells, loadCellsFrom, hle, storeCells]
/-- Where the row lies that an append hands back. -/
theorem append_where {base : Nat} {t ty e : TypeId} {i : TypeInfo} {z : Value} (ht : P.underlying t = some (.slice e)) (hi : P.info? e = some i) (hz : i.zero = some z)
    {v : Value} {n : Nat} {xs : List Value} (hown : w.ownsRow base e i.size v n xs)
    {ad : Addr} {m c : Nat} {news : List Value} (hl : news.length = m * i.size) (hnews : ∀ j u, news[j]? = some u → w.cell? (ad.add j) = some u) (h1 : ∀ u ∈ news, u.oneCell' = true)
    (h63 : n + m ≤ maxLen) (hbytes : (n + m) * i.bytes ≤ 140737488355328) (hm : 0 < m) {v' : Value} {w' : World}
    (hr : (Builtin.append_ #[t, t] ty #[v, .slice (some ad) m c]).run P w = .ok v' w') : ownB v' = ownB v ∨ ownB v' = some w.heap.size := by
  have hsmall : n + m ≤ 9223372036854775807 := by simp only [maxLen] at h63; omega
  rcases hown.2 with ⟨rfl, rfl⟩ | ⟨g, cap, cur, rfl, hbg, hg, hnc, hcm, hcs, htake⟩
  · have h := run_append_nil (P := P) w t ty e i z ht hi hz ad m c news hl hnews hm (by omega) (by have hb := hbytes; simp only [Nat.zero_add] at hb; omega)
    rw [h] at hr
    injection hr with h2 h3
    subst h2
    exact .inr rfl
  · by_cases hroom : n + m ≤ cap
    · have hle : (n + m) * i.size ≤ cap * i.size := Nat.mul_le_mul_right _ hroom
      rw [Nat.add_mul] at hle
      have hfit : n * i.size + news.length ≤ cur.size := by rw [hl, hcs]; exact hle
      have h := run_append_room (P := P) w t ty e i ht hi g n cap cur hg ad m c news hl hnews h1 hroom hfit
      rw [h] at hr
      injection hr with h2 h3
      subst h2
      exact .inl rfl
    · have holds : ∀ j u, xs[j]? = some u → w.cell? ((⟨g, 0, none⟩ : Addr).add j) = some u := hown.cells (g := g) rfl
      have h := run_append_grow (P := P) w t ty e i z ht hi hz ⟨g, 0, none⟩ n cap xs hown.1 holds ad m c news hl hnews (by omega) (by omega) (growslice_fits (by omega) hbytes)
      rw [h] at hr
      injection hr with h2 h3
      subst h2
      exact .inr rfl
/-- What is appended: a slice that reads as this list. -/
theorem src_rel (hR : Rl w0 S a w val) {tt : Ty} {x : AV} {u : Value} (hx : VRel (okB S.H val) w S.H.length val x u) {l : List tt.den} (h : srcOf S tt x = some l) :
    ∃ ad c, u = .slice ad l.length c ∧ (l = [] ∨ ∃ a0 news, ad = some a0 ∧ RepL (okB S.H val) w tt l news ∧ (∀ j v, news[j]? = some v → w.cell? (a0.add j) = some v) ∧ ∀ v ∈ news, v.oneCell' = true) := by
  have ones : ∀ {news : List Value}, RepL (okB S.H val) w tt l news → ∀ v ∈ news, v.oneCell' = true := by
    intro news hr v hv
    obtain ⟨j, hj⟩ := List.mem_iff_getElem?.1 hv
    have hp := tt.n_pos
    have hlt : j < l.length * tt.n := by rw [← hr.1]; exact (List.getElem?_eq_some_iff.1 hj).1
    have hq : j / tt.n < l.length := by rw [Nat.div_lt_iff_lt_mul hp]; exact hlt
    refine (hr.2 (j / tt.n) l[j / tt.n] (by simp [hq])).one v (List.mem_of_getElem? (i := j % tt.n) ?_)
    rw [List.getElem?_take, if_pos (Nat.mod_lt _ hp), List.getElem?_drop]
    rw [show j / tt.n * tt.n + j % tt.n = j by rw [Nat.mul_comm]; exact Nat.div_add_mod j tt.n]
    exact hj
  unfold srcOf at h
  split at h
  · split at h
    · rename_i t l' ht
      subst ht
      cases h
      have hx' : Rep _ w (.sl _) l' [u] := hx
      unfold Rep at hx'
      obtain ⟨ad, cap, he, _, _, h4⟩ := hx'
      simp at he
      refine ⟨ad, cap, he, ?_⟩
      rcases h4 with h4 | ⟨b, o, xs, rfl, _, _, h7, h8, h9⟩
      · exact .inl h4
      · exact .inr ⟨_, xs, rfl, ⟨h7, h9⟩, fun j v hj => by rw [Addr.add_lit]; exact h8 j v hj, ones ⟨h7, h9⟩⟩
    · cases h
  · cases h
    have e : u = .slice none 0 0 := hx
    exact ⟨none, 0, e, .inl rfl⟩
  · split at h
    · rename_i n e t l' hH
      split at h
      · rename_i ht
        subst ht
        cases h
        obtain ⟨xs, h1, h2⟩ := hR.heap _ _ hH
        rw [hx.2]
        rcases h1.2 with ⟨h3, h4⟩ | ⟨g, cap, cur, h3, _⟩
        · exact ⟨none, 0, by rw [h3, h4], .inl (List.eq_nil_of_length_eq_zero h4)⟩
        · exact ⟨_, cap, h3, .inr ⟨_, xs, rfl, h2, h1.cells (g := g) (by rw [h3]; rfl), ones h2⟩⟩
      · cases h
    · cases h
  · cases h
theorem own_as {v : Value} {base : Nat} {e : TypeId} {k n : Nat} {xs : List Value} (h : w.ownsRow base e k v n xs) : v.ownBlock = ownB v := by
  rcases h.2 with ⟨rfl, _⟩ | ⟨g, cap, cur, rfl, _⟩ <;> rfl
theorem app_run {o : Oper} {t : TypeId} {s x : Operand} (hop : o.op = .call { callee := .builtin .append, args := #[s, x], argTypes := #[t, t] }) {v : Value}
    (h : (Builtin.append_ #[t, t] o.type #[a.eval s, a.eval x]).run P w = .ok v w1) : (execOp a.eval o).run P w = .ok (.value v) w1 := by
  obtain ⟨dst, op, type, pos, after, guard⟩ := o
  simp only at hop h
  subst hop
  simp [execOp, resolve, invoke, builtin, h]
theorem append_ref (hR : Rl w0 S a w val) {o : Oper} {t : TypeId} {s x : Operand} (hop : o.op = .call { callee := .builtin .append, args := #[s, x], argTypes := #[t, t] }) {n : Nat} (hs : S.ev s = .ref n)
    {e : TypeId} {tt : Ty} {l l2 : List tt.den} (hH : S.H[n]? = some (some (.row e tt l))) (ht : slElem P t = some e) (he : elemOk P e tt) (hx : srcOf S tt (S.ev x) = some l2) (hlen : l.length + l2.length ≤ 4294967296)
    {next : Act → World → Prop} {Q : Exit → Act → World → Prop}
    (hn : ∀ a' w' val', Rl w0 ({ S with H := S.H.set n none ++ [some (Blk.row e tt (l ++ l2))] }.put o.dst (.ref S.H.length)) a' w' val' → next a' w') : o.wp P a w next Q := by
  obtain ⟨i, z, hi, hz, hsz, hby, hzc⟩ := elemOk_info he
  have hsv := hR.ev s
  rw [hs] at hsv
  obtain ⟨xs, h1, h2⟩ := hR.heap n _ hH
  obtain ⟨ad, c, hu, hsrc⟩ := src_rel hR (hR.ev x) hx
  have hzs : z.cells.size = tt.n := by have := (zrep (ok := fun _ => True) (w := w) tt).length; rw [← hzc] at this; simpa using this
  by_cases hnil : l2 = []
  · subst hnil
    have hrun := run_append_none (P := P) (w := w) (t := t) (ty := o.type) (u := a.eval x) (slElem_und ht) hi (by rw [hsz]; exact h1) ⟨ad, c, hu⟩
    have hF := hR.renew (w1 := w) (v := val n) hH ⟨rfl, rfl, rfl, Nat.le_refl _, fun _ _ _ => rfl⟩ (.inl rfl) (l := l) (xs := xs) h1 h2
    rw [List.append_nil] at hn
    refine wp_of_value (app_run hop (by rw [hsv.2]; exact hrun)) (hn _ _ _ (hF.put o.dst (x := .ref S.H.length) ⟨by simp, ?_⟩))
    rw [upd_self]
  · rcases hsrc with h | ⟨a0, news, rfl, k1, k2, k3⟩
    · exact (hnil h).elim
    · have hm : 0 < l2.length := List.length_pos_iff.2 hnil
      have hb : (l.length + l2.length) * i.bytes ≤ 140737488355328 := by
        have := Nat.mul_le_mul hlen hby
        omega
      have h63 : l.length + l2.length ≤ maxLen := by unfold maxLen; omega
      obtain ⟨v', w', r1, r2, r3, r4⟩ := run_append_own (P := P) w w0.heap.size t o.type e i z tt.n i.bytes (slElem_und ht) hi hz hsz rfl hzs tt.n_pos (val n) l.length xs h1 a0 l2.length c news k1.1 k2 k3 h63 hb hR.below.size
      have r5 := append_where (P := P) (ty := o.type) (slElem_und ht) hi hz (by rw [hsz]; exact h1) (by rw [hsz]; exact k1.1) k2 k3 h63 hb hm r1
      have hF := hR.renew (w1 := w') (v := v') hH (by rw [← own_as h1]; exact r3) (r5.imp id fun h g hg => by rw [h] at hg; cases hg; exact Nat.le_refl _) (l := l ++ l2) (xs := xs ++ news)
        (by rw [List.length_append]; exact r2) (repl_append h2 k1)
      refine wp_of_value (app_run hop (by rw [hsv.2, hu]; exact r1)) (hn _ _ _ (hF.put o.dst (x := .ref S.H.length) ⟨by simp, ?_⟩))
      rw [upd_self]
theorem append_nil_step (hR : Rl w0 S a w val) {o : Oper} {t : TypeId} {s x : Operand} (hop : o.op = .call { callee := .builtin .append, args := #[s, x], argTypes := #[t, t] }) (hs : S.ev s = .nilsl)
    {e : TypeId} {tt : Ty} {l2 : List tt.den} (ht : slElem P t = some e) (he : elemOk P e tt) (hx : srcOf S tt (S.ev x) = some l2) (hlen : l2.length ≤ 4294967296)
    {next : Act → World → Prop} {Q : Exit → Act → World → Prop}
    (hn : ∀ a' w' val', Rl w0 (S.new o.dst (.ref S.H.length) (.row e tt l2)) a' w' val' → next a' w') : o.wp P a w next Q := by
  obtain ⟨i, z, hi, hz, hsz, hby, hzc⟩ := elemOk_info he
  have hsv := hR.ev s
  rw [hs] at hsv
  have hsv' : a.eval s = .slice none 0 0 := hsv
  obtain ⟨ad, c, hu, hsrc⟩ := src_rel hR (hR.ev x) hx
  have hzs : z.cells.size = tt.n := by have := (zrep (ok := fun _ => True) (w := w) tt).length; rw [← hzc] at this; simpa using this
  have hown := World.ownsRow_nil w w.heap.size e tt.n
  by_cases hnil : l2 = []
  · subst hnil
    have hrun := run_append_none (P := P) (w := w) (t := t) (ty := o.type) (u := a.eval x) (slElem_und ht) hi (by rw [hsz]; exact hown) ⟨ad, c, hu⟩
    have hF := hR.freshRow (w1 := w) (v := .slice none 0 0) (Below.refl _ _) (l := []) (xs := []) hown ⟨by simp, fun i y hy => by simp at hy⟩
    refine wp_of_value (app_run hop (by rw [hsv']; exact hrun)) (hn _ _ _ (hF.put o.dst (x := .ref S.H.length) ⟨by simp, ?_⟩))
    rw [upd_self]
  · rcases hsrc with h | ⟨a0, news, rfl, k1, k2, k3⟩
    · exact (hnil h).elim
    · have hm : 0 < l2.length := List.length_pos_iff.2 hnil
      have hb : (0 + l2.length) * i.bytes ≤ 140737488355328 := by
        have := Nat.mul_le_mul hlen hby
        rw [Nat.zero_add]
        omega
      have h63 : 0 + l2.length ≤ maxLen := by unfold maxLen; omega
      obtain ⟨v', w', r1, r2, r3, r4⟩ := run_append_own (P := P) w w.heap.size t o.type e i z tt.n i.bytes (slElem_und ht) hi hz hsz rfl hzs tt.n_pos _ 0 [] hown a0 l2.length c news k1.1 k2 k3 h63 hb (Nat.le_refl _)
      have hbel : Below w.heap.size w w' := (Below.refl _ _).grown r3 (Nat.le_refl _) (fun k hk => by cases hk)
      have r5 := append_where (P := P) (ty := o.type) (slElem_und ht) hi hz (by rw [hsz]; exact hown) (by rw [hsz]; exact k1.1) k2 k3 h63 hb hm r1
      have hblk : ∀ g, ownB v' = some g → w.heap.size ≤ g := fun g hg => by
        rcases r5 with h | h
        · rw [h] at hg; cases hg
        · rw [h] at hg; cases hg; exact Nat.le_refl _
      have hF := hR.freshRow (w1 := w') (v := v') hbel (l := l2) (xs := news) (by simpa using r2)
        ⟨k1.1, fun i y hy => (k1.2 i y hy).mono hbel.size fun b hk hlt => ⟨⟨hk, fun e => by have := hblk b e; omega⟩, hbel.block b hlt⟩⟩
      refine wp_of_value (app_run hop (by rw [hsv', hu]; exact r1)) (hn _ _ _ (hF.put o.dst (x := .ref S.H.length) ⟨by simp, ?_⟩))
      rw [upd_self]
/-- A call whose one result is a row of the caller's own. -/
theorem call_own (hR : Rl w0 S a w val) {o : Oper} {f : Operand} {args : Array Operand} {ts : Array TypeId} (hop : o.op = .call { callee := .value f, args := args, argTypes := ts }) {f' : FuncId} {cap : List TV} (ef : S.ev f = .fn f' cap)
    {args' : List AV} {e : TypeId} {tt : Ty} {l : List tt.den} (h1 : argsOk S (args.toList.map S.ev) args') (hsp : Spec P f' (args' ++ cap.map fun c => .iptr c.1 c.2) [.own e tt l])
    {next : Act → World → Prop} {Q : Exit → Act → World → Prop}
    (hn : ∀ a' w' val', Rl w0 (S.new o.dst (.ref S.H.length) (.row e tt l)) a' w' val' → next a' w') : o.wp P a w next Q := by
  obtain ⟨hent, hsp⟩ := hsp
  have hf := hR.ev f
  rw [ef] at hf
  obtain ⟨cvs, hf1, hf2, hf3⟩ := hf
  obtain ⟨k1, k2⟩ := args_ok hR (vs := args.toList.map a.eval) h1 (by simp) (fun i x hx => by
    rw [List.getElem?_map] at hx ⊢
    cases hc : args.toList[i]? with
    | none => rw [hc] at hx; cases hx
    | some z => rw [hc] at hx; cases hx; exact ⟨_, rfl, hR.ev z⟩)
  have hcalls := hsp w (args.toList.map a.eval ++ cvs) (by simp [hf2]; simpa using k1) (fun i x hx => by
    by_cases hi : i < args'.length
    · rw [List.getElem?_append_left hi] at hx
      obtain ⟨u, hu, hv⟩ := k2 i x hx
      exact ⟨u, by rw [List.getElem?_append_left (by rw [k1]; exact hi)]; exact hu, hv⟩
    · rw [List.getElem?_append_right (by omega), List.getElem?_map] at hx
      cases hc : cap[i - args'.length]? with
      | none => rw [hc] at hx; cases hx
      | some z =>
        rw [hc] at hx; cases hx
        obtain ⟨u, hu, hp⟩ := hf3 _ z hc
        exact ⟨u, by rw [List.getElem?_append_right (by rw [k1]; omega), k1]; exact hu, PRel.weak (fun _ _ => trivial) hp⟩)
  have hrun : (execOp a.eval o).run P w = .ok (.enter f' (args.toList.map a.eval ++ cvs).toArray) w := by
    have e1 : args.map a.eval ++ cvs.toArray = (args.toList.map a.eval ++ cvs).toArray := by apply Array.ext'; simp
    have hc := run_callFunc (w := w) (args := (args.toList.map a.eval ++ cvs).toArray) hent
    rw [← e1] at hc
    obtain ⟨dst, op, type, pos, after, guard⟩ := o
    simp only at hop
    subst hop
    simp [execOp, resolve, hf1, Deferred.ofValue, invoke, hc, ← e1]
  unfold Oper.wp
  rw [hrun, Oper.upon_enter]
  refine hcalls.mono ?_
  rintro e' w' ⟨u, rfl, hb, h0, xs, h3, h4⟩
  have hF := hR.freshRow hb (v := u) (l := l) (xs := xs) h3 ⟨h4.1, fun i y hy => (h4.2 i y hy).weak fun b hb => ⟨fresh_ok hR hb.1, hb.2⟩⟩
  refine hn _ _ _ (hF.put o.dst (x := .ref S.H.length) ⟨by simp, ?_⟩)
  rw [upd_self]
/-- **A step goes as the rule says.** -/
theorem s_sound (hR : Rl w0 S a w val) {o : Oper} {K : AS → Prop} (h : sstep P S o K) {next : Act → World → Prop} {Q : Exit → Act → World → Prop}
    (hn : ∀ S' a' w' val', K S' → Rl w0 S' a' w' val' → next a' w') : o.wp P a w next Q := by
  have quiet : (∃ v, qval P S o v ∧ K (S.put o.dst v)) → o.wp P a w next Q := fun ⟨v, h1, h2⟩ => q_step hR h1 fun a' w' hR' => hn _ _ _ _ h2 hR'
  unfold sstep at h
  split at h
  · rename_i e x hop
    obtain ⟨cs, h1, h2⟩ := h
    exact box_step hR hop h1 fun a' w' val' hR' => hn _ _ _ _ h2 hR'
  · rename_i e hop
    obtain ⟨cs, h1, h2⟩ := h
    exact alloc_step hR hop h1 fun a' w' val' hR' => hn _ _ _ _ h2 hR'
  · rename_i t p x hop
    split at h
    · rename_i n i hp
      split at h
      · rename_i e cs hH
        obtain ⟨xs, h1, h2, h3, h4⟩ := h
        exact storeBox_step hR hop hp hH h1 h2 h3 fun a' w' val' hR' => hn _ _ _ _ h4 hR'
      · exact h.elim
    · rename_i n i k hp
      split at h
      · rename_i e tt l hH
        obtain ⟨rfl, h1, h2, y, h3, h4⟩ := h
        exact storeRow_step hR hop hp hH h3 h1 h2 fun a' w' val' hR' => hn _ _ _ _ h4 hR'
      · exact h.elim
    · exact h.elim
  · rename_i t len parts hop
    obtain ⟨e, tt, h1, _, h2, l, h3, h4, h5, h6⟩ := h
    exact buildSlice_step hR hop h1 h2 h3 h4 h5 fun a' w' val' hR' => hn _ _ _ _ h6 hR'
  · rename_i t l c hop
    split at h
    · rename_i p q hl hc
      obtain ⟨e, tt, h1, _, h2, h3, h4, h5, h6⟩ := h
      exact make_step hR hop hl hc h1 h2 h3 h4 h5 fun a' w' val' hR' => hn _ _ _ _ h6 hR'
    · exact h.elim
  · rename_i c hop
    obtain ⟨callee, args, ts⟩ := c
    simp only at h
    split at h
    · unfold appStep at h
      split at h
      · rename_i t t' s x hts hxs
        obtain ⟨rfl, h⟩ := h
        have hop' : o.op = .call { callee := .builtin .append, args := #[s, x], argTypes := #[t', t'] } := by
          rw [hop]
          have e1 : args = #[s, x] := by apply Array.ext'; simpa using hxs
          have e2 : ts = #[t', t'] := by apply Array.ext'; simpa using hts
          rw [e1, e2]
        split at h
        · rename_i hs
          obtain ⟨e, tt, h1, _, h2, l2, h3, h4, h5⟩ := h
          exact append_nil_step hR hop' hs h1 h2 h3 h4 fun a' w' val' hR' => hn _ _ _ _ h5 hR'
        · rename_i n hs
          split at h
          · rename_i e tt l hH
            obtain ⟨h1, h2, l2, h3, h4, h5⟩ := h
            exact append_ref hR hop' hs hH h1 h2 h3 h4 fun a' w' val' hR' => hn _ _ _ _ h5 hR'
          · exact h.elim
        · exact h.elim
      · exact h.elim
    · rename_i f
      rcases h with ⟨v, h1, h2⟩ | h
      · exact call_sound hR h1 fun a' w' hR' => hn _ _ _ _ h2 hR'
      · split at h
        · rename_i f' cap ef
          obtain ⟨args', e, tt, l, h1, h2, h3⟩ := h
          exact call_own hR hop ef h1 h2 fun a' w' val' hR' => hn _ _ _ _ h3 hR'
        · exact h.elim
    · exact quiet h
  · exact quiet h
end
end Go.Proofs.Ytbkdmnohpjihgaa.Abs
