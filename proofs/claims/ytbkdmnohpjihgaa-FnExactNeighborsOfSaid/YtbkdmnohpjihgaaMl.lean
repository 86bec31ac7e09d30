/- Operations that make memory or write it do as is reckoned: slices of slices, slices that are built, slices that grow. -/
import Derived.Test.YtbkdmnohpjihgaaMk
namespace Go.Proofs.Ytbkdmnohpjihgaa.M
open Go.RowKit Abs
set_option linter.unusedVariables false
set_option linter.unusedSimpArgs false

section
variable {P : Program} {T : Tab} {w0 w w1 : World} {B : Nat → Prop} {hd : Nat → Value} {S : AS} {a : Act} {val : Nat → Bd}
/-- A row that is handed over. -/
theorem part_rel (hR : Rl w0 B hd S a w val) {e2 : TypeId} {tt : Ty} {x : AV} {v : Value} {y : Unit → List tt.den} {C : List Nat} (hx : VRel (okF S.H val) w S.H.length val x v) (h : partR S.H e2 tt x = some (y, C)) :
    ∃ xs, w.ownsRow 0 e2 tt.n v (y ()).length xs ∧ RepL (okF S.H val) w tt (y ()) xs ∧ (∀ g, ownB v = some g → ∃ c, c ∈ C ∧ (∃ b', S.H[c]? = some (some b')) ∧ g ∈ (val c).F) := by
  unfold partR at h
  split at h
  · rename_i m
    simp only [VRel] at hx
    split at h
    · rename_i e' u l hH
      cases he : (e' == e2) with
      | true =>
        rw [he] at h
        simp only [↓reduceIte, Option.map_eq_some_iff, Prod.mk.injEq] at h
        obtain ⟨z, hz, rfl, rfl⟩ := h
        simp only [beq_iff_eq] at he
        subst he
        obtain ⟨rfl, rfl⟩ := castSl hz
        obtain ⟨xs, h1, h2, h3⟩ := hR.heap.blk m _ hH
        rw [hx.2]
        exact ⟨xs, h1, h2, fun g hg => ⟨m, by simp, ⟨_, hH⟩, by rw [h3, hg]; simp⟩⟩
      | false => rw [he] at h; cases h
    · cases h
  · cases h
    simp only [VRel] at hx
    subst hx
    exact ⟨[], World.ownsRow_nil w 0 e2 tt.n, ⟨by simp, fun i y hy => by simp at hy⟩, fun g hg => by cases hg⟩
  · cases h
theorem slice_cells {v : Value} {ad : Option Addr} {n c : Nat} (h : v = .slice ad n c) : v.cells = #[v] ∧ v.oneCell' = true := by subst h; exact ⟨rfl, rfl⟩
/-- The header of a row is stored. -/
theorem storeRows_step (hT : TOk P T) (hR : Rl w0 B hd S a w val) {o : Oper} {t : TypeId} {p x : Operand} (hop : o.op = .store t p x) {n : Nat} {i : Unit → Int} {e e2 : TypeId} {tt : Ty} (hp : S.ev p = .eptr n i 1) {l : Unit → List (List tt.den)} (hH : S.H[n]? = some (some (.rows e e2 tt l)))
    {y : Unit → List tt.den} {C : List Nat} (hy : partR S.H e2 tt (S.ev x) = some (y, C)) (hC : n ∉ C) (hs : szOf P t = some 1) {next : Act → World → Prop} {Q : Exit → Act → World → Prop}
    (hn : ∀ a' w' val', Rl w0 B hd (AS.put { S with tm := scrubL n false S.tm, H := (scrubH n false (dropC C S.H)).set n (some (.rows e e2 tt fun _ => setI (l ()) (i ()) (y ()))) } o.dst .undef) a' w' val' → next a' w') : o.wp P a w next Q := by
  obtain ⟨xs, r1, r2, r3⟩ := part_rel hR (hR.ev x) hy
  obtain ⟨ad, cp, hsl⟩ := row_slice r1
  obtain ⟨hcells, hone⟩ := slice_cells hsl
  have hpv := hR.ev p
  rw [hp] at hpv
  simp only [VRel] at hpv
  obtain ⟨_, g, len, cap, hv, hi0, hi1, hpe⟩ := hpv
  rw [Nat.mul_one] at hpe
  obtain ⟨k1, k2, k3, k4, k5⟩ := hR.heap.blk n _ hH
  have hhs : (val n).hs.length = (l ()).length := by have := k1.1; simpa using this
  rcases k1.2 with ⟨m1, _⟩ | ⟨g', cap', cur, m1, m2, m3, m4, m5, m6, m7⟩
  · rw [hv] at m1; cases m1
  have m1' := m1
  rw [hv] at m1
  cases m1
  have hlt : (i ()).toNat < (l ()).length := by omega
  have hcs : (l ()).length ≤ cur.size := by omega
  have hrun := store_run (P := P) (w := w) (t := t) (g := g) (o := (i ()).toNat) (v := a.eval x) m3 (by rw [hs, hcells]; rfl) (by rw [hcells]; simp; omega) (by rw [hcells]; intro u hu; simp at hu; subst hu; exact hone)
  have fr := setRow_frame w g (cur.toList.take (i ()).toNat ++ (a.eval x).cells.toList ++ cur.toList.drop ((i ()).toNat + (a.eval x).cells.size)).toArray
  have hF : ∀ q, q ≠ g → (w.setRow g (cur.toList.take (i ()).toNat ++ (a.eval x).cells.toList ++ cur.toList.drop ((i ()).toNat + (a.eval x).cells.size)).toArray).heap[q]? = w.heap[q]? := fun q hq => setRow_other _ _ _ _ hq
  have hnew : (w.setRow g (cur.toList.take (i ()).toNat ++ (a.eval x).cells.toList ++ cur.toList.drop ((i ()).toNat + (a.eval x).cells.size)).toArray).heap[g]? = some (.cells (cur.toList.take (i ()).toNat ++ (a.eval x).cells.toList ++ cur.toList.drop ((i ()).toNat + (a.eval x).cells.size)).toArray e (0, 0)) := setRow_heap w g cur _ e (0, 0) m3
  have fr1 := fr.1
  have fr2 := fr.2.1
  have fr3 := fr.2.2.1
  have fr4 := fr.2.2.2
  generalize w.setRow g (cur.toList.take (i ()).toNat ++ (a.eval x).cells.toList ++ cur.toList.drop ((i ()).toNat + (a.eval x).cells.size)).toArray = w1 at hrun hF hnew fr1 fr2 fr3 fr4
  rw [hcells] at hnew
  have hgF : g ∈ (val n).F := (k3 g).2 (.inl (by rw [hv]; rfl))
  have hnotg : ∀ h ∈ (val n).hs, ∀ q, ownB h = some q → q ≠ g := fun h hh q hq e => k5 h hh q hq (by rw [hv, e]; rfl)
  have hxg : ∀ q, ownB (a.eval x) = some q → q ≠ g ∧ q < w.heap.size ∧ ∀ h ∈ (val n).hs, ownB h ≠ some q := fun q hq => by
    obtain ⟨c, hc, ⟨b', hb'⟩, hcF⟩ := r3 q hq
    have hne : c ≠ n := fun e => hC (e ▸ hc)
    have hnF := hR.heap.apart c n b' _ hne hb' hH q hcF
    exact ⟨fun e => hnF (e ▸ hgF), hR.heap.lt c b' hb' q hcF, fun h hh he => hnF ((k3 q).2 (.inr ⟨h, hh, he⟩))⟩
  have hget : ∀ (j : Nat) (h : Value), ((val n).hs.set (i ()).toNat (a.eval x))[j]? = some h → (j = (i ()).toNat ∧ h = a.eval x) ∨ (j ≠ (i ()).toNat ∧ (val n).hs[j]? = some h) := fun j h hj => by
    by_cases hji : j = (i ()).toNat
    · subst hji
      rw [List.getElem?_set_self (by omega)] at hj
      cases hj; exact .inl ⟨rfl, rfl⟩
    · rw [List.getElem?_set_ne (Ne.symm hji)] at hj
      exact .inr ⟨hji, hj⟩
  have hW := hR.renew (w1 := w1) hH false C hC (d := ⟨(val n).v, (val n).hs.set (i ()).toNat (a.eval x), g :: ((val n).hs.set (i ()).toNat (a.eval x)).filterMap ownB⟩) (b' := .rows e e2 tt fun _ => setI (l ()) (i ()) (y ())) (fun _ => rfl) (fun h => by cases h)
    (by omega) fr2 fr3 fr4 (fun k hk hkF => hF k fun e => hkF (e ▸ hgF)) (fun q hq => by
      rcases List.mem_cons.1 hq with rfl | hq
      · exact .inr (.inl hgF)
      · obtain ⟨h, hh, hq⟩ := List.mem_filterMap.1 hq
        obtain ⟨j, hj⟩ := List.mem_iff_getElem?.1 hh
        rcases hget j h hj with ⟨_, rfl⟩ | ⟨_, hj'⟩
        · exact .inr (.inr (r3 q hq))
        · exact .inr (.inl ((k3 q).2 (.inr ⟨h, List.mem_of_getElem? hj', hq⟩))))
    (fun val' H' hv' hne' hok => by
      refine ⟨⟨by simp [setI, hhs], .inr ⟨g, cap, _, by simp [setI]; exact m1', Nat.zero_le _, hnew, by simp [setI]; exact m4, m5, ?_, ?_⟩⟩, fun q z hz => ?_, fun q => ?_, fun p q h h' b hp hq hb hb' => ?_, fun h hh q hq => ?_⟩
      · simp; omega
      · simp only [setI, List.length_set, Nat.mul_one]
        have m7' : (val n).hs = cur.toList.take (l ()).length := by have := m7.symm; simpa using this
        rw [m7']
        apply List.ext_getElem?
        intro q
        simp only [List.getElem?_take, List.getElem?_append, List.length_append, List.length_take, Array.length_toList, List.getElem?_drop, List.getElem?_set]
        rw [show min (i ()).toNat cur.size = (i ()).toNat by omega, show min (l ()).length cur.size = (l ()).length by omega]
        by_cases q1 : q < (i ()).toNat
        · have : q < (l ()).length := by omega
          simp [q1, this, show q < (i ()).toNat + 1 by omega, show ¬ (i ()).toNat = q by omega]
        · by_cases q2 : q = (i ()).toNat
          · subst q2
            simp [hlt]
          · by_cases q3 : q < (l ()).length
            · simp [q1, q3, show ¬ q < (i ()).toNat + 1 by omega, show ¬ (i ()).toNat = q by omega, show (i ()).toNat + 1 + (q - ((i ()).toNat + 1)) = q by omega]
            · simp [q1, q3, show ¬ (i ()).toNat = q by omega]
      · by_cases hqi : q = (i ()).toNat
        · subst hqi
          rw [show setI (l ()) (i ()) (y ()) = (l ()).set (i ()).toNat (y ()) from rfl, List.getElem?_set_self hlt] at hz
          cases hz
          exact ⟨a.eval x, xs, by simp only; rw [List.getElem?_set_self (by omega)], ownsRow_keep r1 (fun k hk => hF k (hxg k (by simpa using hk)).1), repL_keep (by omega) hok r2⟩
        · rw [show setI (l ()) (i ()) (y ()) = (l ()).set (i ()).toNat (y ()) from rfl, List.getElem?_set_ne (Ne.symm hqi)] at hz
          obtain ⟨h, xs2, n1, n2, n3⟩ := k2 q z hz
          exact ⟨h, xs2, by simp only; rw [List.getElem?_set_ne (Ne.symm hqi)]; exact n1, ownsRow_keep n2 (fun k hk => hF k (hnotg h (List.mem_of_getElem? n1) k (by simpa using hk))), repL_keep (by omega) hok n3⟩
      · simp only [List.mem_cons, List.mem_filterMap]
        constructor
        · rintro (rfl | h)
          · exact .inl (by rw [hv]; rfl)
          · exact .inr h
        · rintro (h | h)
          · left; rw [hv] at h; simpa [ownB] using h.symm
          · exact .inr h
      · rcases hget p h hp with ⟨rfl, rfl⟩ | ⟨n1, n2⟩ <;> rcases hget q h' hq with ⟨rfl, rfl⟩ | ⟨n3, n4⟩
        · rfl
        · exact ((hxg b hb).2.2 h' (List.mem_of_getElem? n4) hb').elim
        · exact ((hxg b hb').2.2 h (List.mem_of_getElem? n2) hb).elim
        · exact k4 p q h h' b n2 n4 hb hb'
      · obtain ⟨j, hj⟩ := List.mem_iff_getElem?.1 hh
        rcases hget j h hj with ⟨_, rfl⟩ | ⟨_, hj'⟩
        · intro e
          rw [hv] at e
          simp [ownB] at e
          exact (hxg q hq).1 e.symm
        · exact k5 h (List.mem_of_getElem? hj') q hq)
  exact wp_of_skip (storeRow_run hop hpe hrun) (hn _ _ _ (hW.put o.dst (by simp only [VRel]; rfl)))

/-- A row is handed back into its place. -/
theorem storeRowsH_step (hT : TOk P T) (hR : Rl w0 B hd S a w val) {o : Oper} {t : TypeId} {p x : Operand} (hop : o.op = .store t p x) {n : Nat} {i : Unit → Int} {e e2 : TypeId} {tt : Ty} (hp : S.ev p = .eptr n i 1) {l : Unit → List (List tt.den)} {jj : Unit → Int} (hH : S.H[n]? = some (some (.rowsH e e2 tt l jj))) (hij : (i ()).toNat = (jj ()).toNat)
    {y : Unit → List tt.den} {C : List Nat} (hy : partR S.H e2 tt (S.ev x) = some (y, C)) (hC : n ∉ C) (hs : szOf P t = some 1) {next : Act → World → Prop} {Q : Exit → Act → World → Prop}
    (hn : ∀ a' w' val', Rl w0 B hd (AS.put { S with tm := scrubL n false S.tm, H := (scrubH n false (dropC C S.H)).set n (some (.rows e e2 tt fun _ => setI (l ()) (i ()) (y ()))) } o.dst .undef) a' w' val' → next a' w') : o.wp P a w next Q := by
  obtain ⟨xs, r1, r2, r3⟩ := part_rel hR (hR.ev x) hy
  obtain ⟨ad, cp, hsl⟩ := row_slice r1
  obtain ⟨hcells, hone⟩ := slice_cells hsl
  have hpv := hR.ev p
  rw [hp] at hpv
  simp only [VRel] at hpv
  obtain ⟨_, g, len, cap, hv, hi0, hi1, hpe⟩ := hpv
  rw [Nat.mul_one] at hpe
  obtain ⟨k1, k2, k3, k4, k5⟩ := hR.heap.blk n _ hH
  have hhs : (val n).hs.length = (l ()).length := by have := k1.1; simpa using this
  rcases k1.2 with ⟨m1, _⟩ | ⟨g', cap', cur, m1, m2, m3, m4, m5, m6, m7⟩
  · rw [hv] at m1; cases m1
  have m1' := m1
  rw [hv] at m1
  cases m1
  have hlt : (i ()).toNat < (l ()).length := by omega
  have hcs : (l ()).length ≤ cur.size := by omega
  have hrun := store_run (P := P) (w := w) (t := t) (g := g) (o := (i ()).toNat) (v := a.eval x) m3 (by rw [hs, hcells]; rfl) (by rw [hcells]; simp; omega) (by rw [hcells]; intro u hu; simp at hu; subst hu; exact hone)
  have fr := setRow_frame w g (cur.toList.take (i ()).toNat ++ (a.eval x).cells.toList ++ cur.toList.drop ((i ()).toNat + (a.eval x).cells.size)).toArray
  have hF : ∀ q, q ≠ g → (w.setRow g (cur.toList.take (i ()).toNat ++ (a.eval x).cells.toList ++ cur.toList.drop ((i ()).toNat + (a.eval x).cells.size)).toArray).heap[q]? = w.heap[q]? := fun q hq => setRow_other _ _ _ _ hq
  have hnew : (w.setRow g (cur.toList.take (i ()).toNat ++ (a.eval x).cells.toList ++ cur.toList.drop ((i ()).toNat + (a.eval x).cells.size)).toArray).heap[g]? = some (.cells (cur.toList.take (i ()).toNat ++ (a.eval x).cells.toList ++ cur.toList.drop ((i ()).toNat + (a.eval x).cells.size)).toArray e (0, 0)) := setRow_heap w g cur _ e (0, 0) m3
  have fr1 := fr.1
  have fr2 := fr.2.1
  have fr3 := fr.2.2.1
  have fr4 := fr.2.2.2
  generalize w.setRow g (cur.toList.take (i ()).toNat ++ (a.eval x).cells.toList ++ cur.toList.drop ((i ()).toNat + (a.eval x).cells.size)).toArray = w1 at hrun hF hnew fr1 fr2 fr3 fr4
  rw [hcells] at hnew
  have hgF : g ∈ (val n).F := (k3 g).2 (.inl (by rw [hv]; rfl))
  have hnotg : ∀ (p : Nat) (h : Value), p ≠ (i ()).toNat → (val n).hs[p]? = some h → ∀ q, ownB h = some q → q ≠ g := fun p h hp hh q hq e => k5 p h (hij ▸ hp) hh q hq (by rw [hv, e]; rfl)
  have hxg : ∀ q, ownB (a.eval x) = some q → q ≠ g ∧ q < w.heap.size ∧ ∀ (p : Nat) (h : Value), p ≠ (i ()).toNat → (val n).hs[p]? = some h → ownB h ≠ some q := fun q hq => by
    obtain ⟨c, hc, ⟨b', hb'⟩, hcF⟩ := r3 q hq
    have hne : c ≠ n := fun e => hC (e ▸ hc)
    have hnF := hR.heap.apart c n b' _ hne hb' hH q hcF
    exact ⟨fun e => hnF (e ▸ hgF), hR.heap.lt c b' hb' q hcF, fun p h hp hh he => hnF ((k3 q).2 (.inr ⟨p, h, hij ▸ hp, hh, he⟩))⟩
  have hget : ∀ (j : Nat) (h : Value), ((val n).hs.set (i ()).toNat (a.eval x))[j]? = some h → (j = (i ()).toNat ∧ h = a.eval x) ∨ (j ≠ (i ()).toNat ∧ (val n).hs[j]? = some h) := fun j h hj => by
    by_cases hji : j = (i ()).toNat
    · subst hji
      rw [List.getElem?_set_self (by omega)] at hj
      cases hj; exact .inl ⟨rfl, rfl⟩
    · rw [List.getElem?_set_ne (Ne.symm hji)] at hj
      exact .inr ⟨hji, hj⟩
  have hW := hR.renew (w1 := w1) hH false C hC (d := ⟨(val n).v, (val n).hs.set (i ()).toNat (a.eval x), g :: ((val n).hs.set (i ()).toNat (a.eval x)).filterMap ownB⟩) (b' := .rows e e2 tt fun _ => setI (l ()) (i ()) (y ())) (fun _ => rfl) (fun h => by cases h)
    (by omega) fr2 fr3 fr4 (fun k hk hkF => hF k fun e => hkF (e ▸ hgF)) (fun q hq => by
      rcases List.mem_cons.1 hq with rfl | hq
      · exact .inr (.inl hgF)
      · obtain ⟨h, hh, hq⟩ := List.mem_filterMap.1 hq
        obtain ⟨j, hj⟩ := List.mem_iff_getElem?.1 hh
        rcases hget j h hj with ⟨_, rfl⟩ | ⟨hji, hj'⟩
        · exact .inr (.inr (r3 q hq))
        · exact .inr (.inl ((k3 q).2 (.inr ⟨j, h, hij ▸ hji, hj', hq⟩))))
    (fun val' H' hv' hne' hok => by
      refine ⟨⟨by simp [setI, hhs], .inr ⟨g, cap, _, by simp [setI]; exact m1', Nat.zero_le _, hnew, by simp [setI]; exact m4, m5, ?_, ?_⟩⟩, fun q z hz => ?_, fun q => ?_, fun p q h h' b hp hq hb hb' => ?_, fun h hh q hq => ?_⟩
      · simp; omega
      · simp only [setI, List.length_set, Nat.mul_one]
        have m7' : (val n).hs = cur.toList.take (l ()).length := by have := m7.symm; simpa using this
        rw [m7']
        apply List.ext_getElem?
        intro q
        simp only [List.getElem?_take, List.getElem?_append, List.length_append, List.length_take, Array.length_toList, List.getElem?_drop, List.getElem?_set]
        rw [show min (i ()).toNat cur.size = (i ()).toNat by omega, show min (l ()).length cur.size = (l ()).length by omega]
        by_cases q1 : q < (i ()).toNat
        · have : q < (l ()).length := by omega
          simp [q1, this, show q < (i ()).toNat + 1 by omega, show ¬ (i ()).toNat = q by omega]
        · by_cases q2 : q = (i ()).toNat
          · subst q2
            simp [hlt]
          · by_cases q3 : q < (l ()).length
            · simp [q1, q3, show ¬ q < (i ()).toNat + 1 by omega, show ¬ (i ()).toNat = q by omega, show (i ()).toNat + 1 + (q - ((i ()).toNat + 1)) = q by omega]
            · simp [q1, q3, show ¬ (i ()).toNat = q by omega]
      · by_cases hqi : q = (i ()).toNat
        · subst hqi
          rw [show setI (l ()) (i ()) (y ()) = (l ()).set (i ()).toNat (y ()) from rfl, List.getElem?_set_self hlt] at hz
          cases hz
          exact ⟨a.eval x, xs, by simp only; rw [List.getElem?_set_self (by omega)], ownsRow_keep r1 (fun k hk => hF k (hxg k (by simpa using hk)).1), repL_keep (by omega) hok r2⟩
        · rw [show setI (l ()) (i ()) (y ()) = (l ()).set (i ()).toNat (y ()) from rfl, List.getElem?_set_ne (Ne.symm hqi)] at hz
          obtain ⟨h, xs2, n1, n2, n3⟩ := k2 q z hz (hij ▸ hqi)
          exact ⟨h, xs2, by simp only; rw [List.getElem?_set_ne (Ne.symm hqi)]; exact n1, ownsRow_keep n2 (fun k hk => hF k (hnotg q h hqi n1 k (by simpa using hk))), repL_keep (by omega) hok n3⟩
      · simp only [List.mem_cons, List.mem_filterMap]
        constructor
        · rintro (rfl | h)
          · exact .inl (by rw [hv]; rfl)
          · exact .inr h
        · rintro (h | h)
          · left; rw [hv] at h; simpa [ownB] using h.symm
          · exact .inr h
      · rcases hget p h hp with ⟨rfl, rfl⟩ | ⟨n1, n2⟩ <;> rcases hget q h' hq with ⟨rfl, rfl⟩ | ⟨n3, n4⟩
        · rfl
        · exact ((hxg b hb).2.2 q h' n3 n4 hb').elim
        · exact ((hxg b hb').2.2 p h n1 n2 hb).elim
        · exact k4 p q h h' b (hij ▸ n1) (hij ▸ n3) n2 n4 hb hb'
      · obtain ⟨j, hj⟩ := List.mem_iff_getElem?.1 hh
        rcases hget j h hj with ⟨_, rfl⟩ | ⟨hji, hj'⟩
        · intro e
          rw [hv] at e
          simp [ownB] at e
          exact (hxg q hq).1 e.symm
        · exact k5 j h (hij ▸ hji) hj' q hq)
  exact wp_of_skip (storeRow_run hop hpe hrun) (hn _ _ _ (hW.put o.dst (by simp only [VRel]; rfl)))

theorem run_build {t e : TypeId} {tt : Ty} {len : Nat} {parts : Array (Nat × Operand)} (hs : slElem P t = some e) (he : elemOk P e tt) (hpl : parts.toList.length = len) (hsm : len * tt.n ≤ 16777216)
    (h2 : (parts.toList.map fun x => (x.1, a.eval x.2)) = (((parts.toList.map fun (x : Nat × Operand) => a.eval x.2).zipIdx 0).map fun x => (x.2, x.1)))
    (hcs : ∀ v ∈ (parts.toList.map fun (x : Nat × Operand) => a.eval x.2), v.cells.size = tt.n) :
    (Instr.buildSlice t len (parts.map fun (i, x) => (i, a.eval x))).run P w = .ok (.slice (some ⟨w.heap.size, 0, none⟩) len len) (w.alloc (.cells ((parts.toList.map fun (x : Nat × Operand) => (a.eval x.2).cells.toList).flatten).toArray e)) := by
  obtain ⟨i, z, hi, hz, hsz, hby, hzc⟩ := elemOk_info he
  have hp := tt.n_pos
  have hfm : ((parts.toList.map fun (x : Nat × Operand) => a.eval x.2).flatMap fun v => v.cells.toList) = (parts.toList.map fun (x : Nat × Operand) => (a.eval x.2).cells.toList).flatten := by
    rw [List.flatMap_def, List.map_map]; rfl
  have hpt : (parts.map fun (i, x) => (i, a.eval x)).toList = ((parts.toList.map fun (x : Nat × Operand) => a.eval x.2).zipIdx 0).map fun x => (x.2, x.1) := by
    rw [Array.toList_map]; exact h2
  by_cases hz0 : len = 0
  · subst hz0
    have hnil : parts.toList = [] := List.eq_nil_of_length_eq_zero hpl
    have hparts : parts = #[] := by apply Array.ext'; simpa using hnil
    subst hparts
    simp [Instr.buildSlice, run_underlying (slElem_und hs), sizeOf, typeInfo, hi, Instr.fill, newRow]
    exact congrArg (fun c => w.alloc (.cells c e)) (Array.eq_empty_of_size_eq_zero (by simp))
  · have hpos : ¬ len * i.size = 0 := by rw [hsz]; exact Nat.mul_ne_zero hz0 (by omega)
    refine run_buildSlice w t e len _ _ i z (slElem_und hs) hi hz (by rw [hsz]; omega) hpos ?_
    rw [hpt, hsz, ← hfm]
    exact Great.fill_whole hp _ _ hcs (by simp only [List.length_map, Array.size_map, Array.size_range]; rw [hpl])
theorem build_run {o : Oper} {t : TypeId} {len : Nat} {parts : Array (Nat × Operand)} (hop : o.op = .buildSlice t len parts) {v : Value} (h : (Instr.buildSlice t len (parts.map fun (i, x) => (i, a.eval x))).run P w = .ok v w1) : (execOp a.eval o).run P w = .ok (.value v) w1 := by
  obtain ⟨dst, op, type, pos, after, guard⟩ := o
  simp only at hop
  subst hop
  simp only [execOp, Sem.run_bind, h, Result.andThen_ok]
  rfl
theorem partsU_rel (hR : Rl w0 B hd S a w val) {tt : Ty} : ∀ {i : Nat} {ps : List (Nat × Operand)} {l : Unit → List tt.den}, partsU S tt i ps = some l →
    (l ()).length = ps.length ∧ (ps.map fun x => (x.1, a.eval x.2)) = (((ps.map fun (x : Nat × Operand) => a.eval x.2).zipIdx i).map fun x => (x.2, x.1)) ∧
    ∀ (j : Nat) (y : tt.den), (l ())[j]? = some y → ∃ x, ps[j]? = some x ∧ Rep (okF S.H val) w tt y (a.eval x.2).cells.toList
  | i, [], l, h => by unfold partsU at h; cases h; exact ⟨rfl, rfl, fun j y hy => by simp at hy⟩
  | i, (j, x) :: r, l, h => by
    unfold partsU at h
    cases hij : (i == j) with
    | false => rw [hij] at h; cases h
    | true =>
      rw [hij] at h
      simp only [↓reduceIte] at h
      simp only [beq_iff_eq] at hij
      subst hij
      split at h
      · rename_i y l' hy hl
        cases h
        obtain ⟨h1, h2, h3⟩ := partsU_rel hR hl
        refine ⟨by simp [h1], by simp [h2], fun k z hz => ?_⟩
        cases k with
        | zero => simp at hz; subst hz; exact ⟨_, rfl, viewD_data hR (hR.ev x) hy⟩
        | succ k => simpa using h3 k z (by simpa using hz)
      · cases h
theorem build_step (hT : TOk P T) (hR : Rl w0 B hd S a w val) {o : Oper} {t : TypeId} {len : Nat} {parts : Array (Nat × Operand)} (hop : o.op = .buildSlice t len parts) {S' : AS} (h : buildF T S o.dst t len parts.toList = some S') {next : Act → World → Prop} {Q : Exit → Act → World → Prop}
    (hn : ∀ a' w' val', Rl w0 B hd S' a' w' val' → next a' w') : o.wp P a w next Q := by
  unfold buildF at h
  split at h
  · rename_i e hu
    split at h
    · rename_i e2 tt hu2 ht
      have he := (hT.ty ht).2.1
      split at h
      · rename_i hps
        cases hl : (len == 0) with
        | false => rw [hl] at h; cases h
        | true =>
          rw [hl] at h
          cases h
          simp only [beq_iff_eq] at hl
          subst hl
          have hF := new_rows (e := e) (e2 := e2) (t := tt) (l := fun _ => []) (hs := []) (cap := 0) (cur := #[]) hR [] rfl (Nat.le_refl _) (by simp [maxLen]) rfl rfl (fun i y hy => by simp at hy) (fun h hh => by simp at hh) (fun i j h h' g hi => by simp at hi)
          have hrun := run_build (w := w) (a := a) (parts := parts) (len := 0) (hT.slice hu) he (by rw [hps]; rfl) (by simp) (by rw [hps]; rfl) (by rw [hps]; simp)
          rw [hps] at hrun
          refine wp_of_value (build_run hop hrun) (hn _ _ _ (hF.put o.dst ?_))
          simp only [VRel]
          exact ⟨by simp [dropC], by rw [upd_self]; rfl⟩
      · rename_i x hps
        cases hl : (len == 1) with
        | false => rw [hl] at h; cases h
        | true =>
          rw [hl] at h
          simp only [↓reduceIte] at h
          simp only [beq_iff_eq] at hl
          subst hl
          split at h
          · rename_i y C hy
            cases h
            obtain ⟨xs, r1, r2, r3⟩ := part_rel hR (hR.ev x) hy
            obtain ⟨ad, cp, hsl⟩ := row_slice r1
            obtain ⟨hcells, hone⟩ := slice_cells hsl
            have hF := new_rows (e := e) (e2 := e2) (t := tt) (l := fun _ => [y ()]) (hs := [a.eval x]) (cap := 1) (cur := #[a.eval x]) hR C rfl (Nat.le_refl _) (by simp [maxLen]) rfl rfl
              (fun i z hz => by
                match i, hz with
                | 0, hz => cases hz; exact ⟨_, xs, rfl, r1, r2⟩
                | i + 1, hz => simp at hz)
              (fun h hh g hg => by simp at hh; subst hh; exact r3 g hg)
              (fun i j h h' g hi hj _ _ => by
                have h1 := (List.getElem?_eq_some_iff.1 hi).1
                have h2 := (List.getElem?_eq_some_iff.1 hj).1
                simp at h1 h2
                omega)
            have hrun := run_build (w := w) (a := a) (parts := parts) (len := 1) (tt := .sl tt) (hT.slice hu) he (by rw [hps]; rfl) (by simp [Ty.n]) (by rw [hps]; rfl) (by rw [hps]; intro v hv; simp at hv; subst hv; rw [hcells]; rfl)
            rw [hps] at hrun
            simp only [List.map_cons, List.map_nil, List.flatten_cons, List.flatten_nil, List.append_nil, hcells] at hrun
            refine wp_of_value (build_run hop hrun) (hn _ _ _ (hF.put o.dst ?_))
            simp only [VRel]
            exact ⟨by simp [dropC_len], by rw [upd_self]; rfl⟩
          · cases h
      · cases h
    · cases h
    · rename_i tt ht _ _
      have he := (hT.ty ht).2.1
      cases hc : (parts.toList.length == len && (len * tt.n).ble 16777216) with
      | false => rw [hc] at h; cases h
      | true =>
        rw [hc] at h
        simp only [↓reduceIte, Option.map_eq_some_iff] at h
        obtain ⟨l, hl, rfl⟩ := h
        simp only [Bool.and_eq_true, beq_iff_eq] at hc
        obtain ⟨hpl, hsm⟩ := hc
        have hsm := Nat.le_of_ble_eq_true hsm
        obtain ⟨h1, h2, h3⟩ := partsU_rel hR hl
        have hp := tt.n_pos
        have hcs : ∀ v ∈ (parts.toList.map fun (x : Nat × Operand) => a.eval x.2), v.cells.size = tt.n := by
          intro v hv
          obtain ⟨x, hx, rfl⟩ := List.mem_map.1 hv
          obtain ⟨j, hj⟩ := List.mem_iff_getElem?.1 hx
          have hlt : j < (l ()).length := by rw [h1]; exact (List.getElem?_eq_some_iff.1 hj).1
          obtain ⟨x', hx', hr⟩ := h3 j (l ())[j] (by simp [hlt])
          rw [hj] at hx'
          cases hx'
          have := hr.length
          simpa using this
        have hrow : RepL (okF S.H val) w tt (l ()) ((parts.toList.map fun (x : Nat × Operand) => (a.eval x.2).cells.toList).flatten) := by
          refine flat_repl (by simp [h1]) fun j y hy => ?_
          obtain ⟨x, hx, hr⟩ := h3 j y hy
          exact ⟨_, by rw [List.getElem?_map, hx]; rfl, hr⟩
        have hF := new_row (e := e) (l := l) (cap := len) (cur := ((parts.toList.map fun (x : Nat × Operand) => (a.eval x.2).cells.toList).flatten).toArray) hR hrow (by omega) (by
            unfold maxLen
            have : len ≤ len * tt.n := Nat.le_mul_of_pos_right _ hp
            omega) (by have := hrow.1; simp only [List.size_toArray]; rw [this, h1, hpl]) (by
            rw [List.take_of_length_le (by have := hrow.1; simp only; omega)])
        have hrun := run_build (w := w) (a := a) (hT.slice hu) he hpl hsm h2 hcs
        refine wp_of_value (build_run hop hrun) (hn _ _ _ (hF.put o.dst ?_))
        simp only [VRel]
        exact ⟨by simp, by rw [upd_self, h1, hpl]⟩
    · cases h
  · cases h
end
end Go.Proofs.Ytbkdmnohpjihgaa.M
