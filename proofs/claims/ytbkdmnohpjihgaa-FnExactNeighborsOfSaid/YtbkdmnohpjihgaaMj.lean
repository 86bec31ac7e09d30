/- Operations that make memory or write it do as is reckoned: rows. -/
import Derived.Test.YtbkdmnohpjihgaaMi
namespace Go.Proofs.Ytbkdmnohpjihgaa.M
open Go.RowKit Abs
set_option linter.unusedVariables false
set_option linter.unusedSimpArgs false

section
variable {P : Program} {T : Tab} {w0 w w1 : World} {B : Nat → Prop} {hd : Nat → Value} {S : AS} {a : Act} {val : Nat → Bd}
theorem repL_ones {ok : Nat → Prop} {t : Ty} {l : List t.den} {news : List Value} (hr : RepL ok w t l news) : ∀ v ∈ news, v.oneCell' = true := by
  intro v hv
  obtain ⟨j, hj⟩ := List.mem_iff_getElem?.1 hv
  have hp := t.n_pos
  have hlt : j < l.length * t.n := by rw [← hr.1]; exact (List.getElem?_eq_some_iff.1 hj).1
  have hq : j / t.n < l.length := by rw [Nat.div_lt_iff_lt_mul hp]; exact hlt
  refine (hr.2 (j / t.n) l[j / t.n] (by simp [hq])).one v (List.mem_of_getElem? (i := j % t.n) ?_)
  rw [List.getElem?_take, if_pos (Nat.mod_lt _ hp), List.getElem?_drop]
  rw [show j / t.n * t.n + j % t.n = j by rw [Nat.mul_comm]; exact Nat.div_add_mod j t.n]
  exact hj
theorem src_rel (hR : Rl w0 B hd S a w val) {tt : Ty} {x : AV} {u : Value} (hx : VRel (okF S.H val) w S.H.length val x u) {y : Unit → List tt.den} (h : srcSl S.H tt x = some y) :
    ∃ ad c, u = .slice ad (y ()).length c ∧ (y () = [] ∨ ∃ a0 news, ad = some a0 ∧ RepL (okF S.H val) w tt (y ()) news ∧ (∀ j v, news[j]? = some v → w.cell? (a0.add j) = some v) ∧ ∀ v ∈ news, v.oneCell' = true) := by
  have own : ∀ {e : TypeId} {t : Ty} {l : List t.den} {v : Value} {xs : List Value}, w.ownsRow 0 e t.n v l.length xs → RepL (okF S.H val) w t l xs →
      ∃ ad c, v = .slice ad l.length c ∧ (l = [] ∨ ∃ a0 news, ad = some a0 ∧ RepL (okF S.H val) w t l news ∧ (∀ j v, news[j]? = some v → w.cell? (a0.add j) = some v) ∧ ∀ v ∈ news, v.oneCell' = true) := by
    intro e t l v xs h1 h2
    rcases h1.2 with ⟨h3, h4⟩ | ⟨g, cap, cur, h3, _⟩
    · exact ⟨none, 0, by rw [h3, h4], .inl (List.eq_nil_of_length_eq_zero h4)⟩
    · exact ⟨_, cap, h3, .inr ⟨_, xs, rfl, h2, h1.cells (g := g) (by rw [h3]; rfl), repL_ones h2⟩⟩
  unfold srcSl at h
  split at h
  · rename_i t l
    simp only [VRel] at hx
    obtain ⟨rfl, rfl⟩ := castSl h
    unfold Rep at hx
    obtain ⟨ad, cap, he, _, _, h4⟩ := hx
    simp at he
    refine ⟨ad, cap, he, ?_⟩
    rcases h4 with h4 | ⟨b, o, xs, rfl, _, _, h7, h8, h9⟩
    · exact .inl h4
    · exact .inr ⟨_, xs, rfl, ⟨h7, h9⟩, fun j v hj => by rw [Addr.add_lit]; exact h8 j v hj, repL_ones ⟨h7, h9⟩⟩
  · cases h
    simp only [VRel] at hx
    exact ⟨none, 0, hx, .inl rfl⟩
  · rename_i n
    split at h
    · rename_i e t l hH
      obtain ⟨rfl, rfl⟩ := castSl h
      simp only [VRel] at hx
      obtain ⟨xs, h1, h2, _⟩ := hR.heap.blk _ _ hH
      rw [hx.2]
      exact own h1 h2
    · cases h
  · rename_i n i
    split at h
    · rename_i e e2 t l hH
      obtain ⟨rfl, rfl⟩ := castSl h
      simp only [VRel] at hx
      obtain ⟨h1, h2, _⟩ := hR.heap.blk _ _ hH
      have hhs : (val n).hs.length = (l ()).length := by have := h1.1; simpa using this
      have hlt : (i ()).toNat < (l ()).length := by rw [← hhs]; exact (List.getElem?_eq_some_iff.1 hx.2.2).1
      obtain ⟨h, xs, m1, m2, m3⟩ := h2 _ _ (getR_get (i := i ()) hx.2.1 (by omega))
      rw [hx.2.2] at m1
      cases m1
      exact own m2 m3
    · cases h
  · cases h
/-- What is viewed as a datum: 'ok' blocks are those of the data, and those of the blocks that are looked into. -/
theorem viewSl_rep (hR : Rl w0 B hd S a w val) {H : Hp} {ok2 : Nat → Prop} (hH : ∀ n b, H[n]? = some (some b) → S.H[n]? = some (some b) ∧ ∀ g ∈ (val n).F, ok2 g) (hk : ∀ b, okF S.H val b → ok2 b)
    {t : Ty} {x : AV} {v : Value} {y : Unit → List t.den} (hx : VRel (okF S.H val) w S.H.length val x v) (h : viewSl H t x = some y) : Rep ok2 w (.sl t) (y ()) [v] := by
  unfold viewSl at h
  have rowR : ∀ {n : Nat} {e : TypeId} {u : Ty} {l : Unit → List u.den}, H[n]? = some (some (.row e u l)) → Rep ok2 w (.sl u) (l ()) [(val n).v] := by
    intro n e u l hn
    obtain ⟨h1, h2⟩ := hH _ _ hn
    obtain ⟨xs, k1, k2, k3⟩ := hR.heap.blk _ _ h1
    exact row_rep k1 ⟨k2.1, fun i z hz => (k2.2 i z hz).weak hk⟩ fun g hg => h2 g (by rw [k3, hg]; simp)
  split at h
  · rename_i n
    simp only [VRel] at hx
    split at h
    · rename_i e u l hn
      obtain ⟨rfl, rfl⟩ := castSl h
      rw [hx.2]
      exact rowR hn
    · rename_i e e2 u l hn
      obtain ⟨he, rfl⟩ := castSl h
      subst he
      rw [hx.2]
      obtain ⟨h1, h2⟩ := hH _ _ hn
      obtain ⟨k1, k2, k3, k4⟩ := hR.heap.blk _ _ h1
      have hhs : (val n).hs.length = (l ()).length := by have := k1.1; simpa using this
      refine row_rep (t := .sl u) (xs := (val n).hs) k1 ⟨by rw [hhs]; simp [Ty.n], fun i z hz => ?_⟩ fun g hg => h2 g ((k3 g).2 (.inl hg))
      obtain ⟨h, xs, m1, m2, m3⟩ := k2 i z hz
      have e1 : ((val n).hs.drop (i * (Ty.sl u).n)).take (Ty.sl u).n = [h] := by
        have hlt := (List.getElem?_eq_some_iff.1 m1)
        obtain ⟨hl, hg⟩ := hlt
        simp only [Ty.n, Nat.mul_one]
        rw [List.drop_eq_getElem_cons hl, hg]
        rfl
      rw [e1]
      exact row_rep m2 ⟨m3.1, fun i z hz => (m3.2 i z hz).weak hk⟩ fun g hg => h2 g ((k3 g).2 (.inr ⟨h, List.mem_of_getElem? m1, hg⟩))
    · cases h
  · unfold srcSl at h
    split at h
    · rename_i u l _
      simp only [VRel] at hx
      obtain ⟨rfl, rfl⟩ := castSl h
      exact hx.weak hk
    · cases h
      simp only [VRel] at hx
      subst hx
      unfold Rep
      exact ⟨none, 0, rfl, Nat.le_refl _, by simp [maxLen], .inl rfl⟩
    · rename_i hno
      exact absurd rfl (hno _)
    · rename_i n i _
      simp only [VRel] at hx
      split at h
      · rename_i e e2 u l hn
        obtain ⟨rfl, rfl⟩ := castSl h
        obtain ⟨h1, h2⟩ := hH _ _ hn
        obtain ⟨k1, k2, k3, k4⟩ := hR.heap.blk _ _ h1
        have hhs : (val n).hs.length = (l ()).length := by have := k1.1; simpa using this
        have hlt : (i ()).toNat < (l ()).length := by rw [← hhs]; exact (List.getElem?_eq_some_iff.1 hx.2.2).1
        obtain ⟨h, xs, m1, m2, m3⟩ := k2 _ _ (getR_get (i := i ()) hx.2.1 (by omega))
        rw [hx.2.2] at m1
        cases m1
        exact row_rep m2 ⟨m3.1, fun i z hz => (m3.2 i z hz).weak hk⟩ fun g hg => h2 g ((k3 g).2 (.inr ⟨v, List.mem_of_getElem? hx.2.2, hg⟩))
      · cases h
    · cases h
theorem viewC_rep (hR : Rl w0 B hd S a w val) {H : Hp} {ok2 : Nat → Prop} (hH : ∀ n b, H[n]? = some (some b) → S.H[n]? = some (some b) ∧ ∀ g ∈ (val n).F, ok2 g) (hk : ∀ b, okF S.H val b → ok2 b) :
    ∀ {t : Ty} {xs r : List AV} {y : Unit → t.den} {cs : List Value}, viewC H t xs = some (y, r) → VRelL (okF S.H val) w S.H.length val xs cs → ∃ c1 c2, cs = c1 ++ c2 ∧ Rep ok2 w t (y ()) c1 ∧ VRelL (okF S.H val) w S.H.length val r c2
  | .int, xs, r, y, cs, h, hx => by
    unfold viewC at h
    split at h
    · cases h
      match cs, hx with
      | v :: cs, hx => simp only [VRelL, VRel] at hx; exact ⟨[v], cs, rfl, by unfold Rep; rw [hx.1], hx.2⟩
      | [], hx => simp [VRelL] at hx
    · cases h
  | .str, xs, r, y, cs, h, hx => by
    unfold viewC at h
    split at h
    · cases h
      match cs, hx with
      | v :: cs, hx => simp only [VRelL, VRel] at hx; exact ⟨[v], cs, rfl, by unfold Rep; rw [hx.1], hx.2⟩
      | [], hx => simp [VRelL] at hx
    · cases h
  | .bool, xs, r, y, cs, h, hx => by
    unfold viewC at h
    split at h
    · simp only [Option.map_eq_some_iff, Prod.mk.injEq] at h
      obtain ⟨z, hz, rfl, rfl⟩ := h
      match cs, hx with
      | v :: cs, hx => simp only [VRelL] at hx; exact ⟨[v], cs, rfl, by unfold Rep; rw [asB_rel hz hx.1], hx.2⟩
      | [], hx => simp [VRelL] at hx
    · cases h
  | .sl t, xs, r, y, cs, h, hx => by
    unfold viewC at h
    split at h
    · simp only [Option.map_eq_some_iff, Prod.mk.injEq] at h
      obtain ⟨z, hz, rfl, rfl⟩ := h
      match cs, hx with
      | v :: cs, hx => simp only [VRelL] at hx; exact ⟨[v], cs, rfl, viewSl_rep hR hH hk hx.1 hz, hx.2⟩
      | [], hx => simp [VRelL] at hx
    · cases h
  | .pr p q, xs, r, y, cs, h, hx => by
    unfold viewC at h
    split at h
    · rename_i x1 r1 h1
      split at h
      · rename_i x2 r2 h2
        cases h
        obtain ⟨c1, c2, rfl, k1, k2⟩ := viewC_rep hR hH hk h1 hx
        obtain ⟨d1, d2, rfl, m1, m2⟩ := viewC_rep hR hH hk h2 k2
        exact ⟨c1 ++ d1, d2, by simp, by unfold Rep; exact ⟨c1, d1, rfl, k1, m1⟩, m2⟩
      · cases h
    · cases h
theorem VRelL.nil_r {ok : Nat → Prop} {N : Nat} {cs : List Value} (h : VRelL ok w N val [] cs) : cs = [] := by
  match cs, h with
  | [], _ => rfl
theorem viewD_rep (hR : Rl w0 B hd S a w val) {H : Hp} {ok2 : Nat → Prop} (hH : ∀ n b, H[n]? = some (some b) → S.H[n]? = some (some b) ∧ ∀ g ∈ (val n).F, ok2 g) (hk : ∀ b, okF S.H val b → ok2 b)
    {t : Ty} {x : AV} {v : Value} {y : Unit → t.den} (hx : VRel (okF S.H val) w S.H.length val x v) (h : viewD H t x = some y) : IRel ok2 w t (y ()) v ∧ Rep ok2 w t (y ()) v.cells.toList := by
  have notAgg : ∀ {cs : List Value} {u : Ty} {z : u.den}, Rep ok2 w u z cs → cs = [v] → u.isPr = false → IRel ok2 w u z v ∧ Rep ok2 w u z v.cells.toList := by
    intro cs u z hr hc hp
    subst hc
    have h1 := hr.one v (by simp)
    have h2 : v.cells = #[v] := by cases v <;> first | rfl | cases h1
    exact ⟨by unfold IRel; rw [if_neg (by rw [hp]; simp)]; exact hr, by rw [h2]; exact hr⟩
  unfold viewD at h
  split at h
  · rename_i u z
    cases hp : t.isPr with
    | false => rw [hp] at h; cases h
    | true =>
      rw [hp] at h
      simp only [↓reduceIte] at h
      obtain ⟨_, hc⟩ := castT_rep (ok := ok2) (w := w) h
      simp only [VRel] at hx
      obtain ⟨cs, rfl, hr⟩ := hx
      have hr2 := hc cs (hr.weak hk)
      exact ⟨by unfold IRel; rw [if_pos hp]; exact ⟨cs, rfl, hr2⟩, by simpa [Value.cells] using hr2⟩
  · rename_i l
    cases hp : t.isPr with
    | false => rw [hp] at h; cases h
    | true =>
      rw [hp] at h
      simp only [↓reduceIte] at h
      simp only [VRel] at hx
      obtain ⟨cs, rfl, hr, _⟩ := hx
      split at h
      · rename_i z hz
        cases h
        obtain ⟨c1, c2, rfl, k1, k2⟩ := viewC_rep hR hH hk hz hr
        rw [VRelL.nil_r k2, List.append_nil]
        exact ⟨by unfold IRel; rw [if_pos hp]; exact ⟨c1, rfl, k1⟩, by simpa [Value.cells] using k1⟩
      · cases h
  · cases hp : t.isPr with
    | true => rw [hp] at h; cases h
    | false =>
      rw [hp] at h
      simp only [Bool.false_eq_true, ↓reduceIte] at h
      split at h
      · rename_i z hz
        cases h
        obtain ⟨c1, c2, he, k1, k2⟩ := viewC_rep hR hH hk (cs := [v]) hz (by simp [VRelL]; exact hx)
        rw [VRelL.nil_r k2, List.append_nil] at he
        exact notAgg k1 he.symm hp
      · cases h
end
end Go.Proofs.Ytbkdmnohpjihgaa.M
