/- What the search by breadth finds (pure). -/
import Derived.Test.YtemdajfcfmefnaaBfQ
namespace Go.Proofs.Ytemdajfcfmefnaa.M
open Go.RowKit Abs
set_option linter.unusedSimpArgs false
set_option linter.unusedVariables false
set_option maxRecDepth 100000
set_option maxHeartbeats 4000000
structure BCore (near : List (List Int)) (q : Int → Bool) (i : Int) (n : Nat) (S : BS) : Prop where
  nd : S.2.Nodup
  all : ∀ v : Int, 0 ≤ v → v < near.length → 0 ≤ gi S.1 v → v ∈ S.2
  mono : S.2.Pairwise fun a b => gi S.1 a ≤ gi S.1 b
  done : ∀ (a : Nat) (p : Int), a < n → S.2[a]? = some p → ∀ v ∈ getR .int near p, q v = true → 0 ≤ gi S.1 v ∧ gi S.1 v ≤ gi S.1 p + 1
  pred : ∀ v ∈ S.2, v = i ∨ (q v = true ∧ ∃ u ∈ S.2, v ∈ getR .int near u ∧ gi S.1 v = gi S.1 u + 1)
  src : i ∈ S.2 ∧ gi S.1 i = 0
  le : n ≤ S.2.length
theorem visit_core {near : List (List Int)} {q : Int → Bool} {i d v p : Int} {n : Nat} {S : BS} (ho : BOk near.length S) (h : BCore near q i n S) (ht : ∀ u ∈ S.2, gi S.1 u ≤ d + 1) (hp : p ∈ S.2) (hd : gi S.1 p = d)
    (hv : v ∈ getR .int near p) (hv0 : 0 ≤ v) (hv1 : v < near.length) :
    BCore near q i n (visit q d S v) ∧ (∀ u ∈ (visit q d S v).2, gi (visit q d S v).1 u ≤ d + 1) ∧ (q v = true → 0 ≤ gi (visit q d S v).1 v ∧ gi (visit q d S v).1 v ≤ d + 1) ∧ S.2 <+: (visit q d S v).2 := by
  have hd0 : 0 ≤ d := by have := (ho.mem p hp).2.2; omega
  by_cases c : gi S.1 v < 0 ∧ q v = true
  · have hk : ∀ u : Int, 0 ≤ gi S.1 u → gi (setI S.1 v (d + 1)) u = gi S.1 u := fun u hu => by
      have := visit_keep (q := q) (d := d) (v := v) hu hv0
      rwa [visit_yes c.1 c.2] at this
    have hvv : gi (setI S.1 v (d + 1)) v = d + 1 := by rw [gi_set, if_pos ⟨rfl, by rw [ho.len]; omega⟩]
    have hm : ∀ u ∈ S.2, gi (setI S.1 v (d + 1)) u = gi S.1 u := fun u hu => hk u (ho.mem u hu).2.2
    have hvn : v ∉ S.2 := fun hc => by have := (ho.mem v hc).2.2; omega
    rw [visit_yes c.1 c.2]
    refine ⟨⟨?_, fun u u0 u1 hu => ?_, ?_, fun a w ha hw u hu hq => ?_, fun u hu => ?_, ?_, ?_⟩, fun u hu => ?_, fun _ => ?_, List.prefix_append _ _⟩
    · show (S.2 ++ [v]).Nodup
      rw [List.nodup_append]
      refine ⟨h.nd, by simp, fun a ha b hb => ?_⟩
      simp only [List.mem_singleton] at hb
      rintro rfl
      exact hvn (hb ▸ ha)
    · show u ∈ S.2 ++ [v]
      by_cases e : u = v
      · rw [e]; simp
      · replace hu : 0 ≤ gi (setI S.1 v (d + 1)) u := hu
        rw [gi_set, if_neg (by omega)] at hu
        exact List.mem_append.2 (.inl (h.all u u0 u1 hu))
    · show (S.2 ++ [v]).Pairwise _
      rw [List.pairwise_append]
      refine ⟨h.mono.imp_of_mem fun ha hb hab => ?_, by simp, fun a ha b hb => ?_⟩
      · show gi (setI S.1 v (d + 1)) _ ≤ gi (setI S.1 v (d + 1)) _
        rw [hm _ ha, hm _ hb]; exact hab
      · simp only [List.mem_singleton] at hb
        show gi (setI S.1 v (d + 1)) a ≤ gi (setI S.1 v (d + 1)) b
        rw [hb, hvv, hm _ ha]; exact ht a ha
    · replace hw : (S.2 ++ [v])[a]? = some w := hw
      have hle := h.le
      rw [List.getElem?_append_left (by omega)] at hw
      have := h.done a w ha hw u hu hq
      show 0 ≤ gi (setI S.1 v (d + 1)) u ∧ gi (setI S.1 v (d + 1)) u ≤ gi (setI S.1 v (d + 1)) w + 1
      rw [hk u this.1, hm w (List.mem_of_getElem? hw)]
      exact this
    · rcases List.mem_append.1 hu with hu | hu
      · rcases h.pred u hu with e | ⟨e1, w, hw, e2, e3⟩
        · exact .inl e
        · refine .inr ⟨e1, w, List.mem_append.2 (.inl hw), e2, ?_⟩
          show gi (setI S.1 v (d + 1)) u = gi (setI S.1 v (d + 1)) w + 1
          rw [hm u hu, hm w hw]; exact e3
      · simp only [List.mem_singleton] at hu
        subst hu
        refine .inr ⟨c.2, p, List.mem_append.2 (.inl hp), hv, ?_⟩
        show gi (setI S.1 u (d + 1)) u = gi (setI S.1 u (d + 1)) p + 1
        rw [hvv, hm p hp, hd]
    · refine ⟨List.mem_append.2 (.inl h.src.1), ?_⟩
      show gi (setI S.1 v (d + 1)) i = 0
      rw [hm i h.src.1]; exact h.src.2
    · have := h.le
      simp only [List.length_append, List.length_cons, List.length_nil]
      omega
    · show gi (setI S.1 v (d + 1)) u ≤ d + 1
      rcases List.mem_append.1 hu with hu | hu
      · rw [hm u hu]; exact ht u hu
      · simp only [List.mem_singleton] at hu
        rw [hu, hvv]; omega
    · show 0 ≤ gi (setI S.1 v (d + 1)) v ∧ gi (setI S.1 v (d + 1)) v ≤ d + 1
      rw [hvv]; omega
  · rw [visit_no c]
    refine ⟨h, ht, fun hq => ?_, List.prefix_refl _⟩
    have h0 : 0 ≤ gi S.1 v := by
      rcases Int.lt_or_le (gi S.1 v) 0 with x | x
      · exact absurd ⟨x, hq⟩ c
      · exact x
    exact ⟨h0, ht v (h.all v hv0 hv1 h0)⟩
theorem fold_keep {q : Int → Bool} {d p : Int} : ∀ {r : List Int} {S : BS}, (∀ v ∈ r, 0 ≤ v) → 0 ≤ gi S.1 p → gi (r.foldl (visit q d) S).1 p = gi S.1 p
  | [], S, _, _ => rfl
  | v :: r, S, hr, hp => by
    have hv := visit_keep (q := q) (d := d) (v := v) hp (hr v (by simp))
    rw [List.foldl_cons, fold_keep (fun u hu => hr u (by simp [hu])) (by rw [hv]; exact hp), hv]
theorem fold_core {near : List (List Int)} {q : Int → Bool} {i d p : Int} {n : Nat} : ∀ {r : List Int} {S : BS}, BOk near.length S → BCore near q i n S → (∀ u ∈ S.2, gi S.1 u ≤ d + 1) → p ∈ S.2 → gi S.1 p = d → d < (S.2.length : Int) →
    (∀ v ∈ r, v ∈ getR .int near p ∧ 0 ≤ v ∧ v < near.length) →
    BCore near q i n (r.foldl (visit q d) S) ∧ (∀ u ∈ (r.foldl (visit q d) S).2, gi (r.foldl (visit q d) S).1 u ≤ d + 1) ∧ (∀ v ∈ r, q v = true → 0 ≤ gi (r.foldl (visit q d) S).1 v ∧ gi (r.foldl (visit q d) S).1 v ≤ d + 1) ∧ S.2 <+: (r.foldl (visit q d) S).2
  | [], S, _, h, ht, _, _, _, _ => ⟨h, ht, fun v hv => by simp at hv, List.prefix_refl _⟩
  | v :: r, S, ho, h, ht, hp, hd, hl, hr => by
    obtain ⟨v1, v2, v3⟩ := hr v (by simp)
    have hd0 : 0 ≤ d := by have := (ho.mem p hp).2.2; omega
    obtain ⟨a1, a2, a3, a4⟩ := visit_core (v := v) ho h ht hp hd v1 v2 v3
    have hle := visit_le (q := q) (d := d) (v := v) (S := S)
    obtain ⟨b1, b2, b3, b4⟩ := fold_core (r := r) (S := visit q d S v) (visit_ok ho v2 v3 hd0 hl) a1 a2 (a4.subset hp) (by rw [visit_keep (by omega) v2, hd]) (by omega) fun u hu => hr u (by simp [hu])
    rw [List.foldl_cons]
    refine ⟨b1, b2, fun u hu hq => ?_, a4.trans b4⟩
    rcases List.mem_cons.1 hu with rfl | hu
    · have := a3 hq
      rw [fold_keep (fun w hw => (hr w (by simp [hw])).2.1) this.1]
      exact this
    · exact b3 u hu hq
/-- What holds ahead of the round n. -/
structure BOrd (near : List (List Int)) (q : Int → Bool) (i : Int) (n : Nat) (S : BS) : Prop where
  core : BCore near q i n S
  frt : ∀ p : Int, S.2[n]? = some p → ∀ v ∈ S.2, gi S.1 v ≤ gi S.1 p + 1
theorem BOrd.next {near : List (List Int)} {q : Int → Bool} {i : Int} {n : Nat} {S : BS} (h : BOrd near q i n S) (ho : BOk near.length S) (hi : near_in near.length near) (hn : n < S.2.length) : BOrd near q i (n + 1) (level near q n S) := by
  have hg : S.2[n]? = some (gi S.2 n) := by
    have := gi_get (l := S.2) (i := (n : Int)) (by omega) (by omega)
    rwa [Int.toNat_natCast] at this
  have hp : gi S.2 n ∈ S.2 := List.mem_of_getElem? hg
  obtain ⟨c1, c2, c3, c4⟩ := fold_core (p := gi S.2 n) (r := getR .int near (gi S.2 n)) ho h.core (h.frt _ hg) hp rfl (ho.up _) fun v hv => ⟨hv, near_row hi _ v hv⟩
  have hk := fold_keep (q := q) (d := gi S.1 (gi S.2 n)) (p := gi S.2 n) (r := getR .int near (gi S.2 n)) (S := S) (fun v hv => (near_row hi _ v hv).1) (ho.mem _ hp).2.2
  unfold level
  have hg2 : ((getR .int near (gi S.2 n)).foldl (visit q (gi S.1 (gi S.2 n))) S).2[n]? = some (gi S.2 n) := by
    obtain ⟨t, ht⟩ := c4
    rw [← ht, List.getElem?_append_left hn, hg]
  refine ⟨⟨c1.nd, c1.all, c1.mono, fun a w ha hw v hv hq => ?_, c1.pred, c1.src, ?_⟩, fun w hw v hv => ?_⟩
  · by_cases e : a = n
    · subst e
      rw [hg2] at hw
      cases hw
      rw [hk]
      exact c3 v hv hq
    · exact c1.done a w (by omega) hw v hv hq
  · have := c4.length_le
    omega
  · obtain ⟨x1, x2⟩ := List.getElem?_eq_some_iff.1 hg2
    obtain ⟨y1, y2⟩ := List.getElem?_eq_some_iff.1 hw
    have hmo := List.pairwise_iff_getElem.1 c1.mono n (n + 1) x1 y1 (by omega)
    rw [x2, y2, hk] at hmo
    have := c2 v hv
    omega
theorem start_ord {near : List (List Int)} {q : Int → Bool} {i : Int} (h0 : 0 ≤ i) (h1 : i < near.length) : BOrd near q i 0 (start near.length i) := by
  have hs : gi (start near.length i).1 i = 0 := by
    simp only [start]
    rw [gi_set, if_pos ⟨rfl, by simp; omega⟩]
  refine ⟨⟨by simp [start], fun v v0 v1 hv => ?_, by simp [start], fun a p ha => by omega, fun v hv => .inl (by simpa [start] using hv), ⟨by simp [start], hs⟩, by omega⟩, fun p hp v hv => ?_⟩
  · simp only [start] at hv ⊢
    rw [gi_set] at hv
    split at hv
    · rename_i e
      rw [List.mem_singleton]
      omega
    · rw [gi_repl, if_pos (by omega)] at hv
      omega
  · simp only [start, List.getElem?_cons_zero, Option.some.injEq] at hp
    have e : v = i := by simpa [start] using hv
    rw [e, ← hp]; omega
/-- What the search finds. -/
theorem search_core {near : List (List Int)} {q : Int → Bool} {i : Int} (h0 : 0 ≤ i) (h1 : i < near.length) (hi : near_in near.length near) : BCore near q i (search near q i).2.length (search near q i) := by
  have key : ∀ (f n : Nat) (S : BS), (near.length - n) + 1 = f → BInv near q (search near q i) n S → BOrd near q i n S → BCore near q i (search near q i).2.length (search near q i) := fun f => by
    induction f with
    | zero => intro n S hf; omega
    | succ f ih =>
      intro n S hf h ho
      by_cases hn : (n : Int) < (S.2.length : Int)
      · have h2 := h.next hi hn
        have h3 := ho.next h.ok hi (by omega)
        have := h.ok.cnt
        exact ih (n + 1) _ (by omega) (by simpa using h2) h3
      · have e := h.done hn
        have hh := h.hi
        rw [e]
        have := ho.core
        rwa [show n = S.2.length by omega] at this
  exact key _ 0 _ rfl (start_inv h0 h1) (start_ord h0 h1)
/-- A neighbor of a place that is found is found, no more than a step farther. -/
theorem search_step {near : List (List Int)} {q : Int → Bool} {i u v : Int} (h0 : 0 ≤ i) (h1 : i < near.length) (hi : near_in near.length near) (u0 : 0 ≤ u) (u1 : u < near.length) (hu : 0 ≤ gi (search near q i).1 u) (hv : v ∈ getR .int near u) (hq : q v = true) :
    0 ≤ gi (search near q i).1 v ∧ gi (search near q i).1 v ≤ gi (search near q i).1 u + 1 := by
  have c := search_core (q := q) h0 h1 hi
  obtain ⟨a, ha, e⟩ := List.mem_iff_getElem.1 (c.all u u0 u1 hu)
  exact c.done a u ha (by rw [List.getElem?_eq_getElem ha, e]) v hv hq
/-- Each place that is found, but the first, has a place before it. -/
theorem search_pred {near : List (List Int)} {q : Int → Bool} {i v : Int} (h0 : 0 ≤ i) (h1 : i < near.length) (hi : near_in near.length near) (v0 : 0 ≤ v) (v1 : v < near.length) (hv : 0 ≤ gi (search near q i).1 v) :
    v = i ∨ (q v = true ∧ ∃ u : Int, 0 ≤ u ∧ u < near.length ∧ 0 ≤ gi (search near q i).1 u ∧ v ∈ getR .int near u ∧ gi (search near q i).1 v = gi (search near q i).1 u + 1) := by
  have c := search_core (q := q) h0 h1 hi
  have o := search_inv (q := q) h0 h1 hi
  rcases c.pred v (c.all v v0 v1 hv) with e | ⟨e1, u, hu, e2, e3⟩
  · exact .inl e
  · have := o.mem u hu
    exact .inr ⟨e1, u, this.1, this.2.1, this.2.2, e2, e3⟩
end Go.Proofs.Ytemdajfcfmefnaa.M
