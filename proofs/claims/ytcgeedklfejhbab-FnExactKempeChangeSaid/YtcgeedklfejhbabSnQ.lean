/- Nodes that cannot have another colour, on both sides. -/
import Derived.Test.YtcgeedklfejhbabPwQ
import Derived.Test.YtcgeedklfejhbabQc
namespace Go.Proofs.Ytcgeedklfejhbab.M
open Go.RowKit Abs
set_option linter.unusedSimpArgs false
set_option linter.unusedVariables false
set_option maxRecDepth 100000
set_option maxHeartbeats 4000000
theorem allI_next {p : Int → Bool} {k : Int} (h0 : 0 ≤ k) : allI (k + 1).toNat p = (allI k.toNat p && p k) := by
  have e : (k + 1).toNat = k.toNat + 1 := by omega
  unfold allI
  rw [e, List.range_succ, List.all_append]
  simp only [List.all_cons, List.all_nil, Bool.and_true]
  rw [Int.toNat_of_nonneg h0]
theorem giv_in {n k : Int} {l : List (Int × Int)} {cs : List Int} (h : givB n l k cs = true) : (0 ≤ n ∧ n ≤ 8) ∧ (1 ≤ k ∧ k ≤ 5) ∧ (cs.length : Int) = n ∧ graphOk n l = true ∧ ∀ i : Int, 0 ≤ i → i < cs.length → 0 ≤ gi cs i ∧ gi cs i < k := by
  unfold givB at h
  simp only [Bool.and_eq_true] at h
  obtain ⟨hp, hq⟩ := h
  unfold palB at hp
  simp only [Bool.and_eq_true, decide_eq_true_eq] at hp
  unfold properB at hq
  simp only [Bool.and_eq_true, decide_eq_true_eq] at hq
  obtain ⟨⟨g0, g1⟩, _⟩ := graph_edges hp.1
  refine ⟨⟨g0, g1⟩, hp.2, hq.1, hp.1, fun i i0 i1 => ?_⟩
  have := allI_get hq.2.1 i0 i1
  unfold rangeB at this
  simp only [Bool.and_eq_true, decide_eq_true_eq] at this
  omega
def stX (n : Int) (l : List (Int × Int)) (k : Int) (cs : List Int) (x c : Int) : Bool := decide (c = gi cs x) || !properB n k l (setI cs x c)
def stI (n : Int) (l : List (Int × Int)) (k : Int) (cs : List Int) (x : Int) : Bool := allI k.toNat (stX n l k cs x)
theorem proper_set {n k x c : Int} {l : List (Int × Int)} {cs : List Int} (h : givB n l k cs = true) (x0 : 0 ≤ x) (x1 : x < n) (c0 : 0 ≤ c) (c1 : c < k) : properB n k l (setI cs x c) = !amongB (paintL cs) (getR .int (nearR l n) x) c := by
  obtain ⟨⟨g0, g1⟩, ⟨q0, q1⟩, hlen, hg, hin⟩ := giv_in h
  obtain ⟨_, g2, _⟩ := graph_edges hg
  have hd : allI l.length (diffB l cs) = true := by
    unfold givB properB at h
    simp only [Bool.and_eq_true] at h
    exact h.2.2.2
  rw [nearR_row x0 g2]
  have hset : ∀ v : Int, 0 ≤ v → gi (setI cs x c) v = if v = x then c else gi cs v := fun v v0 => by
    rw [gi_set]
    by_cases e : v = x
    · rw [if_pos e, if_pos ⟨by omega, by omega⟩]
    · rw [if_neg e, if_neg (by omega)]
  have hgi : ∀ (j : Nat) (hj : j < l.length), getI (.pr .int .int) l (j : Int) = l[j] := fun j hj => by
    have := getI_get (t := (.pr .int .int)) (l := l) (i := (j : Int)) (by omega) (by omega)
    simp only [Int.toNat_natCast] at this
    rw [List.getElem?_eq_getElem hj] at this
    exact (Option.some.inj this).symm
  rw [Bool.eq_iff_iff]
  constructor
  · intro hp
    unfold properB at hp
    simp only [Bool.and_eq_true] at hp
    rw [Bool.not_eq_true']
    unfold amongB
    rw [List.any_eq_false]
    intro v hv hq
    simp only [decide_eq_true_eq] at hq
    unfold rowV at hv
    rw [List.mem_filterMap] at hv
    obtain ⟨e, he, hv⟩ := hv
    have hr := g2 e he
    obtain ⟨j, hj, hej⟩ := List.mem_iff_getElem.1 he
    have h2 := allI_get hp.2.2 (k := (j : Int)) (by omega) (by omega)
    unfold diffB at h2
    rw [hgi j hj, hej, hset _ hr.1, hset _ (by omega)] at h2
    simp only [Bool.not_eq_true', decide_eq_false_iff_not] at h2
    split at hv
    · rename_i h3
      cases hv
      rw [paint_gi (by omega) (by omega) (by omega)] at hq
      rw [if_neg (by omega), if_pos h3] at h2
      exact h2 hq
    · split at hv
      · rename_i h3
        cases hv
        rw [paint_gi (by omega) (by omega) (by omega)] at hq
        rw [if_pos h3, if_neg (by omega)] at h2
        exact h2 hq.symm
      · cases hv
  · intro hp
    rw [Bool.not_eq_true'] at hp
    unfold amongB at hp
    rw [List.any_eq_false] at hp
    have hno : ∀ v : Int, v ∈ rowV x l → 0 ≤ v → v < n → gi cs v ≠ c := fun v hv v0 v1 e => by
      refine hp v hv ?_
      rw [paint_gi v0 (by omega) (by omega), e]
      simp
    unfold properB
    simp only [Bool.and_eq_true]
    refine ⟨by rw [setI_len]; exact decide_eq_true hlen, allI_good fun i i0 i1 => ?_, allI_good fun j j0 j1 => ?_⟩
    · rw [setI_len] at i1
      have := hin i i0 i1
      unfold rangeB
      rw [hset i i0]
      simp only [Bool.and_eq_true, decide_eq_true_eq]
      split <;> omega
    · have hm := List.mem_of_getElem? (getI_get (t := (.pr .int .int)) j0 j1)
      have hr := g2 _ hm
      have h2 := allI_get hd j0 j1
      unfold diffB at h2 ⊢
      rw [hset _ hr.1, hset _ (by omega)]
      simp only [Bool.not_eq_true', decide_eq_false_iff_not] at h2 ⊢
      by_cases a1 : (getI (.pr .int .int) l j).1 = x
      · have a3 : ¬ (getI (.pr .int .int) l j).2 = x := fun h => Int.lt_irrefl x (by have := hr.2.1; rw [a1, h] at this; exact this)
        rw [if_pos a1, if_neg a3]
        refine fun e => hno (getI (.pr .int .int) l j).2 ?_ (Int.le_of_lt (Int.lt_of_le_of_lt hr.1 hr.2.1)) hr.2.2 e.symm
        unfold rowV
        rw [List.mem_filterMap]
        exact ⟨_, hm, by rw [if_neg a3, if_pos a1]⟩
      · by_cases a2 : (getI (.pr .int .int) l j).2 = x
        · rw [if_neg a1, if_pos a2]
          refine hno (getI (.pr .int .int) l j).1 ?_ hr.1 (Int.lt_trans hr.2.1 hr.2.2)
          unfold rowV
          rw [List.mem_filterMap]
          exact ⟨_, hm, by rw [if_pos a2]⟩
        · rw [if_neg a1, if_neg a2]
          exact h2
theorem pref_nil {p : Int → Bool} {k : Nat} : decide ((pref p k).length = 0) = allI k fun c => !p c := by
  rw [Bool.eq_iff_iff, decide_eq_true_eq, List.length_eq_zero_iff]
  constructor
  · intro h
    refine allI_good fun c c0 c1 => ?_
    cases hp : p c with
    | false => rfl
    | true =>
      have : c ∈ pref p k := pref_mem.2 ⟨c0, c1, hp⟩
      rw [h] at this
      cases this
  · intro h
    cases hl : pref p k with
    | nil => rfl
    | cons a r =>
      have : a ∈ pref p k := by rw [hl]; simp
      obtain ⟨a0, a1, a2⟩ := pref_mem.1 this
      have := allI_get h a0 a1
      rw [a2] at this
      cases this
theorem still_eq {n k x : Int} {l : List (Int × Int)} {cs : List Int} (h : givB n l k cs = true) (x0 : 0 ≤ x) (x1 : x < n) : decide ((pref (chB (nearR l n) (paintL cs) x) k.toNat).length = 0) = stI n l k cs x := by
  obtain ⟨⟨g0, g1⟩, ⟨q0, q1⟩, hlen, hg, hin⟩ := giv_in h
  rw [pref_nil]
  unfold stI
  rw [Bool.eq_iff_iff]
  have key : ∀ c : Int, 0 ≤ c → c < k → (!chB (nearR l n) (paintL cs) x c) = stX n l k cs x c := fun c c0 c1 => by
    unfold chB stX
    rw [proper_set h x0 x1 c0 c1, paint_gi x0 (by omega) (by omega)]
    cases decide (c = gi cs x) <;> simp
  exact ⟨fun a => allI_good fun c c0 c1 => by rw [← key c c0 (by omega)]; exact allI_get a c0 c1, fun a => allI_good fun c c0 c1 => by rw [key c c0 (by omega)]; exact allI_get a c0 c1⟩
def snR (n : Int) (l : List (Int × Int)) (k : Int) (cs : List Int) : List Int := if givB n l k cs = true then pref (stI n l k cs) n.toNat else []
theorem sn_len (n : Int) (l : List (Int × Int)) (k : Int) (cs : List Int) : (snR n l k cs).length ≤ 1048576 := by
  unfold snR
  split
  · rename_i h
    obtain ⟨⟨g0, g1⟩, _⟩ := giv_in h
    have := pref_len (p := stI n l k cs) (k := n) g0
    omega
  · simp
theorem sp_given (n : Int) (l : List (Int × Int)) (k : Int) (cs : List Int) (hl : l.length ≤ 1048576) (hc : cs.length ≤ 1048576) : Spec2 Try.prog 124 [.agg (.pr .int (.sl (.pr .int .int))) fun _ => (n, l), .int fun _ => k, .sl .int fun _ => cs] [] [.bool fun _ => givB n l k cs] [] := by
  have h9 : givB n l k cs = _ := rfl
  conv at h9 => rhs; unfold givB
  refine fnS [] [6] Try.func124 rfl (by decide) rfl (by decide) (by kernel_rfl) rfl (by simp [Try.ntmps124]) ?_
  cbv
  repeat' (first | ((first | refine call_q (sp_ask n k l hl) (by cbv) ?_ | refine call_pure (sp_ask n k l hl) (by cbv) ?_); cbv; ((try simp only [IfP_iff, and_true, true_and, decide_eq_true_eq, decide_eq_false_iff_not]); (try simp only [natc, getI_gi, at2_0, at2_1]); (try dsimp only [Ty.den]); (try simp only [natc] at *); (repeat' (first | apply And.intro | intro _)))))
  all_goals (try (simp only [IfP_iff, EqU_iff, Obl_iff, and_true, true_and, inI_iff, decide_eq_true_eq, decide_eq_false_iff_not]; (try simp only [natc, getI_gi, at2_0, at2_1]); (try dsimp only [Ty.den]); try simp only [natc] at *))
  ((try simp only [IfP_iff, and_true, true_and, decide_eq_true_eq, decide_eq_false_iff_not]); (try simp only [natc, getI_gi, at2_0, at2_1]); (try dsimp only [Ty.den]); (try simp only [natc] at *); (repeat' (first | apply And.intro | intro _)))
  all_goals (repeat' (first | ((first | refine call_q (sp_proper n k l cs hl hc (by grind)) (by cbv) ?_ | refine call_pure (sp_proper n k l cs hl hc (by grind)) (by cbv) ?_); cbv; ((try simp only [IfP_iff, and_true, true_and, decide_eq_true_eq, decide_eq_false_iff_not]); (try simp only [natc, getI_gi, at2_0, at2_1]); (try dsimp only [Ty.den]); (try simp only [natc] at *); (repeat' (first | apply And.intro | intro _))))))
  all_goals (try (simp only [IfP_iff, EqU_iff, Obl_iff, and_true, true_and, inI_iff, decide_eq_true_eq, decide_eq_false_iff_not]; (try simp only [natc, getI_gi, at2_0, at2_1]); (try dsimp only [Ty.den]); try simp only [natc] at *))
  all_goals ((repeat' (first | apply And.intro | intro _)) <;> first | omega | (simp only [List.length_append, List.length_cons, List.length_nil]; omega) | grind)
theorem sp_own (s : List Int) (hs : s.length ≤ 1048576) : Spec2 Try.prog 71 [.sl .int fun _ => s] [] [.ref 0] [some (.row 3 .int fun _ => s)] := by
  refine fnS [0] [2] Try.func71 rfl (by decide) rfl (by decide) (by kernel_rfl) rfl (by simp [Try.ntmps71]) ?_
  cbv
  (simp only [IfP_iff, EqU_iff, Obl_iff, and_true, true_and, inI_iff, decide_eq_true_eq, decide_eq_false_iff_not]; (try simp only [natc, getI_gi, at2_0, at2_1]); (try dsimp only [Ty.den]); try simp only [natc] at *)
  all_goals ((repeat' (first | apply And.intro | intro _)) <;> first | omega | (simp only [List.length_append, List.length_cons, List.length_nil]; omega) | grind)
end Go.Proofs.Ytcgeedklfejhbab.M
