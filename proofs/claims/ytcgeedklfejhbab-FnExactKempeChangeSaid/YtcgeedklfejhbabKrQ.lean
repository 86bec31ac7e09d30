/- Kempe changes: the program. -/
import Derived.Test.YtcgeedklfejhbabKeQ
import Derived.Test.YtcgeedklfejhbabRcQ
import Derived.Test.YtcgeedklfejhbabGlQ
import Derived.Test.YtcgeedklfejhbabDfQ
import Derived.Test.YtcgeedklfejhbabRaQ
import Derived.Test.YtcgeedklfejhbabQc
namespace Go.Proofs.Ytcgeedklfejhbab.M
open Go.RowKit Abs
set_option linter.unusedSimpArgs false
set_option linter.unusedVariables false
set_option maxRecDepth 100000
set_option maxHeartbeats 4000000
theorem im_chain1 (P : List Int) (x c v : Int) (hP : P.length = 8) (x0 : 0 ≤ x) (x1 : x < 8) (v0 : 0 ≤ v) (v1 : v < 8) : Spec2 Try.prog 132 [.int fun _ => v, .iptr (.ar 7 .int) fun _ => P, .ibox [.int fun _ => c] 0, .ibox [.int fun _ => x] 0] [] [.bool fun _ => cqB P x c v] [] := by
  have h9 : cqB P x c v = (decide (gi P v = c) || decide (gi P v = gi P x)) := rfl
  refine fnS [] [5] Try.func132 rfl (by decide) rfl (by decide) (by kernel_rfl) rfl (by simp [Try.ntmps132]) ?_
  cbv
  ((try simp only [IfP_iff, and_true, true_and, decide_eq_true_eq, decide_eq_false_iff_not]); (try simp only [natc, getI_gi, at2_0, at2_1]); (try dsimp only [Ty.den]); (try simp only [natc] at *); (repeat' (first | apply And.intro | intro _)))
  all_goals (try (simp only [IfP_iff, EqU_iff, Obl_iff, and_true, true_and, inI_iff, decide_eq_true_eq, decide_eq_false_iff_not]; (try simp only [natc, getI_gi, at2_0, at2_1]); (try dsimp only [Ty.den]); try simp only [natc] at *))
  all_goals ((repeat' (first | apply And.intro | intro _)) <;> first | omega | (simp only [List.length_append, List.length_cons, List.length_nil]; omega) | grind)
theorem im_chainF (near : List (List Int)) (P : List Int) (x c : Int) (hP : P.length = 8) (hn : near.length ≤ 8) (x0 : 0 ≤ x) (x1 : x < near.length) : ∀ v : Int, 0 ≤ v → v < near.length → Fn1 Try.prog tab 132 (fun _ => ofCaps [.iptr (.ar 7 .int) fun _ => P, .ibox [.int fun _ => c] 0, .ibox [.int fun _ => x] 0]) [.int fun _ => v] [.bool fun _ => cqB P x c v] := fun v v0 v1 => ⟨_, rfl, fun _ => rfl, im_chain1 P x c v hP x0 (by omega) v0 (by omega)⟩
theorem im_chain (near : List (List Int)) (k : Int) (P : List Int) (x c : Int) (hP : P.length = 8) (hn : near.length ≤ 8) (hi : near_in near.length near) (hr : ∀ r ∈ near, r.length ≤ 1048576) (x0 : 0 ≤ x) (x1 : x < near.length) : Spec2 Try.prog 87 [.cells [.sl (.sl .int) fun _ => near, .int fun _ => k], .agg (.ar 7 .int) fun _ => P, .int fun _ => x, .int fun _ => c] [] [.ref 0] [some (.row 3 .int fun _ => (search near (cqB P x c) x).2)] := by
  have hn9 : near.length ≤ 1048576 := by omega
  refine fnS [4] [8] Try.func87 rfl (by decide) rfl (by decide) (by kernel_rfl) rfl (by simp [Try.ntmps87]) ?_
  cbv
  repeat' (first | ((first | refine call_q (im_reach near (cqB P x c) 132 (fun _ => ofCaps [.iptr (.ar 7 .int) fun _ => P, .ibox [.int fun _ => c] 0, .ibox [.int fun _ => x] 0]) x x0 x1 hn9 hi hr (im_chainF near P x c hP hn x0 x1)) (by cbv) ?_ | refine call_pure (im_reach near (cqB P x c) 132 (fun _ => ofCaps [.iptr (.ar 7 .int) fun _ => P, .ibox [.int fun _ => c] 0, .ibox [.int fun _ => x] 0]) x x0 x1 hn9 hi hr (im_chainF near P x c hP hn x0 x1)) (by cbv) ?_); cbv; ((try simp only [IfP_iff, and_true, true_and, decide_eq_true_eq, decide_eq_false_iff_not]); (try simp only [natc, getI_gi, at2_0, at2_1]); (try dsimp only [Ty.den]); (try simp only [natc] at *); (repeat' (first | apply And.intro | intro _)))))
  all_goals (try (simp only [IfP_iff, EqU_iff, Obl_iff, and_true, true_and, inI_iff, decide_eq_true_eq, decide_eq_false_iff_not]; (try simp only [natc, getI_gi, at2_0, at2_1]); (try dsimp only [Ty.den]); try simp only [natc] at *))
theorem im_exchange (near : List (List Int)) (k : Int) (P : List Int) (x c : Int) (hP : P.length = 8) (hn : near.length ≤ 8) (hi : near_in near.length near) (hr : ∀ r ∈ near, r.length ≤ 1048576) (x0 : 0 ≤ x) (x1 : x < near.length) (hQ : (search near (cqB P x c) x).2.length ≤ 1048576) (hin : ∀ v ∈ (search near (cqB P x c) x).2, 0 ≤ v ∧ v < 8) : Spec2 Try.prog 90 [.cells [.sl (.sl .int) fun _ => near, .int fun _ => k], .agg (.ar 7 .int) fun _ => P, .int fun _ => x, .int fun _ => c] [] [.agg (.ar 7 .int) fun _ => kfold (exP P x c) (search near (cqB P x c) x).2 P] [] := by
  refine fnA [] 8 8 91 Try.func90 rfl (by decide) rfl (by kernel_rfl) (by kernel_rfl) (by kernel_rfl) (Nat.zero_le _) (by simp [Try.ntmps90]) ?_
  cbv
  repeat' (first | ((first | refine call_q (Spec2.agg (t := .pr (.sl (.sl .int)) .int) (x := fun _ => (near, k)) (im_chain near k P x c hP hn hi hr x0 x1)) (by cbv) ?_ | refine call_pure (Spec2.agg (t := .pr (.sl (.sl .int)) .int) (x := fun _ => (near, k)) (im_chain near k P x c hP hn hi hr x0 x1)) (by cbv) ?_); cbv; ((try simp only [IfP_iff, and_true, true_and, decide_eq_true_eq, decide_eq_false_iff_not]); (try simp only [natc, getI_gi, at2_0, at2_1]); (try dsimp only [Ty.den]); (try simp only [natc] at *); (repeat' (first | apply And.intro | intro _)))))
  all_goals (try (simp only [IfP_iff, EqU_iff, Obl_iff, and_true, true_and, inI_iff, decide_eq_true_eq, decide_eq_false_iff_not]; (try simp only [natc, getI_gi, at2_0, at2_1]); (try dsimp only [Ty.den]); try simp only [natc] at *))
  refine loopP (by kernel_rfl) (fun i : Int => 0 ≤ i ∧ i ≤ (search near (cqB P x c) x).2.length) (fun i => [(19, .int fun _ => i)]) (fun i => [(3, some (.arr 91 7 .int fun _ => kfold (exP P x c) ((search near (cqB P x c) x).2.take i.toNat) P))]) (fun i => ((search near (cqB P x c) x).2.length - i).toNat) (· + 1) 0 (by omega) ?_ ?_
  · cbv
    (simp only [IfP_iff, EqU_iff, Obl_iff, and_true, true_and, inI_iff, decide_eq_true_eq, decide_eq_false_iff_not]; (try simp only [natc, getI_gi, at2_0, at2_1]); (try dsimp only [Ty.den]); try simp only [natc] at *)
    rfl
  · intro i hi2
    have h1 : i < ((search near (cqB P x c) x).2.length : Int) → kfold (exP P x c) ((search near (cqB P x c) x).2.take (i + 1).toNat) P = setI (kfold (exP P x c) ((search near (cqB P x c) x).2.take i.toNat) P) (gi (search near (cqB P x c) x).2 i) (exP P x c (gi (search near (cqB P x c) x).2 i)) := kfold_next hi2.1
    have h2 : i < ((search near (cqB P x c) x).2.length : Int) → 0 ≤ gi (search near (cqB P x c) x).2 i ∧ gi (search near (cqB P x c) x).2 i < 8 := fun h => hin _ (gi_mem hi2.1 h)
    have h3 : ¬ i < ((search near (cqB P x c) x).2.length : Int) → kfold (exP P x c) ((search near (cqB P x c) x).2.take i.toNat) P = kfold (exP P x c) (search near (cqB P x c) x).2 P := fun h => by
      rw [List.take_of_length_le (by omega)]
    have h4 : exP P x c (gi (search near (cqB P x c) x).2 i) = if gi P (gi (search near (cqB P x c) x).2 i) = c then gi P x else c := rfl
    have h5 : (kfold (exP P x c) ((search near (cqB P x c) x).2.take i.toNat) P).length = 8 := by rw [kfold_len, hP]
    clear hin hr hi
    cbv
    ((try simp only [IfP_iff, and_true, true_and, decide_eq_true_eq, decide_eq_false_iff_not]); (try simp only [natc, getI_gi, at2_0, at2_1]); (try dsimp only [Ty.den]); (try simp only [natc] at *); (repeat' (first | apply And.intro | intro _)))
    all_goals (try (simp only [IfP_iff, EqU_iff, Obl_iff, and_true, true_and, inI_iff, decide_eq_true_eq, decide_eq_false_iff_not]; (try simp only [natc, getI_gi, at2_0, at2_1]); (try dsimp only [Ty.den]); try simp only [natc] at *))
    all_goals ((repeat' (first | apply And.intro | intro _)) <;> first | omega | (exact h3 (by assumption)) | grind)
theorem im_list (near : List (List Int)) (k : Int) (P : List Int) (hP : P.length = 8) (hn : near.length ≤ 8) : Spec2 Try.prog 89 [.cells [.sl (.sl .int) fun _ => near, .int fun _ => k], .agg (.ar 7 .int) fun _ => P] [] [.ref 0] [some (.row 3 .int fun _ => P.take near.length)] := by
  have h1 : subL P 0 near.length = P.take near.length := by unfold subL; simp
  have h3 : (subL P 0 near.length).length ≤ 1048576 := by rw [h1, List.length_take]; omega
  refine fnS [2] [4] Try.func89 rfl (by decide) rfl (by decide) (by kernel_rfl) rfl (by simp [Try.ntmps89]) ?_
  cbv
  ((try simp only [IfP_iff, and_true, true_and, decide_eq_true_eq, decide_eq_false_iff_not]); (try simp only [natc, getI_gi, at2_0, at2_1]); (try dsimp only [Ty.den]); (try simp only [natc] at *); (repeat' (first | apply And.intro | intro _)))
  all_goals (repeat' (first | ((first | refine call_q (go_clone (subL P 0 near.length) h3) (by cbv) ?_ | refine call_pure (go_clone (subL P 0 near.length) h3) (by cbv) ?_); cbv; ((try simp only [IfP_iff, and_true, true_and, decide_eq_true_eq, decide_eq_false_iff_not]); (try simp only [natc, getI_gi, at2_0, at2_1]); (try dsimp only [Ty.den]); (try simp only [natc] at *); (repeat' (first | apply And.intro | intro _))))))
  all_goals (try (simp only [IfP_iff, EqU_iff, Obl_iff, and_true, true_and, inI_iff, decide_eq_true_eq, decide_eq_false_iff_not]; (try simp only [natc, getI_gi, at2_0, at2_1]); (try dsimp only [Ty.den]); try simp only [natc] at *))
  all_goals ((repeat' (first | apply And.intro | intro _)) <;> first | omega | exact h1 | grind)
theorem im_kem (n : Int) (l : List (Int × Int)) (k : Int) (cs : List Int) (x c : Int) (hl : l.length ≤ 1048576) (hc : cs.length ≤ 1048576) : Spec2 Try.prog 38 [.agg (.pr .int (.sl (.pr .int .int))) fun _ => (n, l), .int fun _ => k, .sl .int fun _ => cs, .int fun _ => x, .int fun _ => c] [] [.ref 0, .bool fun _ => kemB n l k cs x c] [some (.row 3 .int fun _ => kemR n l k cs x c)] := by
  have h9 : kemB n l k cs x c = _ := rfl
  conv at h9 => rhs; unfold kemB kspB
  have h8 : kemR n l k cs x c = _ := rfl
  conv at h8 => rhs; unfold kemR
  by_cases hb : givB n l k cs = true
  case neg =>
    rw [Bool.not_eq_true] at hb
    rw [hb] at h9
    have h7 : kemB n l k cs x c = false := by rw [h9]; rfl
    rw [h7] at h8
    have h6 : kemR n l k cs x c = [] := by rw [h8]; rfl
    rw [h7, h6]
    refine fnS [3] [10, 11] Try.func38 rfl (by decide) rfl (by decide) (by kernel_rfl) rfl (by simp [Try.ntmps38]) ?_
    cbv
    repeat' (first | ((first | refine call_q (im_palWith_bad n l k cs hl hc hb) (by cbv) ?_ | refine call_pure (im_palWith_bad n l k cs hl hc hb) (by cbv) ?_); cbv; ((try simp only [IfP_iff, and_true, true_and, decide_eq_true_eq, decide_eq_false_iff_not]); (try simp only [natc, getI_gi, at2_0, at2_1]); (try dsimp only [Ty.den]); (try simp only [natc] at *); (repeat' (first | apply And.intro | intro _)))))
    all_goals (try (simp only [IfP_iff, EqU_iff, Obl_iff, and_true, true_and, inI_iff, decide_eq_true_eq, decide_eq_false_iff_not]; (try simp only [natc, getI_gi, at2_0, at2_1]); (try dsimp only [Ty.den]); try simp only [natc] at *))
    all_goals (exact absurd (by assumption : (!false) = false) (by decide))
  obtain ⟨⟨g0, g1⟩, ⟨q0, q1⟩, hlen, hg, hin⟩ := giv_in hb
  obtain ⟨_, g2, _⟩ := graph_edges hg
  obtain ⟨k1, k2, k3⟩ := near_ok hg hl
  have hi := near_in_of g2 g0
  have hr : ∀ r ∈ nearR l n, r.length ≤ 1048576 := fun r h => (k3 r h).1
  have hP := paintL_len cs
  have hN : ((nearR l n).length : Int) = n := by omega
  have px : 0 ≤ x → x < n → gi (paintL cs) x = gi cs x := fun a b => paint_gi a (by omega) (by omega)
  by_cases hk : kemB n l k cs x c = true
  case neg =>
    rw [Bool.not_eq_true] at hk
    rw [hk] at h8
    have h6 : kemR n l k cs x c = [] := by rw [h8]; rfl
    rw [hk, h6]
    rw [hb, hk] at h9
    have hno : 0 ≤ x → x < n → 0 ≤ c → c < k → gi (paintL cs) x = c := fun a b a2 b2 => by
      rw [px a b]
      exact Classical.byContradiction fun hc => by simp [a, b, a2, b2, hc] at h9
    refine fnS [4] [10, 11] Try.func38 rfl (by decide) rfl (by decide) (by kernel_rfl) rfl (by simp [Try.ntmps38]) ?_
    cbv
    repeat' (first | ((first | refine call_q (im_palWith_ok n l k cs hl hc hb) (by cbv) ?_ | refine call_pure (im_palWith_ok n l k cs hl hc hb) (by cbv) ?_); cbv; ((try simp only [IfP_iff, and_true, true_and, decide_eq_true_eq, decide_eq_false_iff_not]); (try simp only [natc, getI_gi, at2_0, at2_1]); (try dsimp only [Ty.den]); (try simp only [natc] at *); (repeat' (first | apply And.intro | intro _)))))
    all_goals (try (simp only [IfP_iff, EqU_iff, Obl_iff, and_true, true_and, inI_iff, decide_eq_true_eq, decide_eq_false_iff_not]; (try simp only [natc, getI_gi, at2_0, at2_1]); (try dsimp only [Ty.den]); try simp only [natc] at *))
    all_goals (try (exact absurd (by assumption : (!true) = true) (by decide)))
    clear k3 hi hr hin g2
    all_goals (repeat' (first | ((first | refine call_q (im_isIndex _ _) (by cbv) ?_ | refine call_pure (im_isIndex _ _) (by cbv) ?_); cbv; ((try simp only [IfP_iff, and_true, true_and, decide_eq_true_eq, decide_eq_false_iff_not]); (try simp only [natc, getI_gi, at2_0, at2_1]); (try dsimp only [Ty.den]); (try simp only [natc] at *); (repeat' (first | apply And.intro | intro _))))))
    all_goals (try (simp only [IfP_iff, EqU_iff, Obl_iff, and_true, true_and, inI_iff, decide_eq_true_eq, decide_eq_false_iff_not]; (try simp only [natc, getI_gi, at2_0, at2_1]); (try dsimp only [Ty.den]); try simp only [natc] at *))
    all_goals (repeat' (first | ((first | refine call_q (im_isIndex _ _) (by cbv) ?_ | refine call_pure (im_isIndex _ _) (by cbv) ?_); cbv; ((try simp only [IfP_iff, and_true, true_and, decide_eq_true_eq, decide_eq_false_iff_not]); (try simp only [natc, getI_gi, at2_0, at2_1]); (try dsimp only [Ty.den]); (try simp only [natc] at *); (repeat' (first | apply And.intro | intro _))))))
    all_goals (try (simp only [IfP_iff, EqU_iff, Obl_iff, and_true, true_and, inI_iff, decide_eq_true_eq, decide_eq_false_iff_not]; (try simp only [natc, getI_gi, at2_0, at2_1]); (try dsimp only [Ty.den]); try simp only [natc] at *))
    · have hh : 0 ≤ x ∧ x < n := by simpa using (by assumption : (!(decide (0 ≤ x) && decide (x < n))) = false)
      exact ⟨hh.1, by show x < 8; omega⟩
    · exfalso
      have hh : 0 ≤ x ∧ x < n := by simpa using (by assumption : (!(decide (0 ≤ x) && decide (x < n))) = false)
      have h2 : 0 ≤ c ∧ c < k := by simpa using (by assumption : (!(decide (0 ≤ c) && decide (c < k))) = false)
      exact absurd (hno hh.1 hh.2 h2.1 h2.2) (by assumption)
  have hs : kspB n l k cs x c = true := by unfold kemB at hk; simp only [Bool.and_eq_true] at hk; exact hk.1
  obtain ⟨_, x0, x1, c0, c1⟩ := ksp_in hs
  have hQ : (search (nearR l n) (cqB (paintL cs) x c) x).2.length ≤ 1048576 := by
    have := (search_inv (q := cqB (paintL cs) x c) x0 (by omega) hi).cnt
    omega
  have hQ2 : ∀ v ∈ (search (nearR l n) (cqB (paintL cs) x c) x).2, 0 ≤ v ∧ v < 8 := fun v hv => by
    have := (search_inv (q := cqB (paintL cs) x c) x0 (by omega) hi).mem v hv
    omega
  have he : (kemP n l cs x c).take (nearR l n).length = kemV n l cs x c := by rw [k1]; exact kem_eq hb x0 x1
  have hKl : (kemP n l cs x c).length = 8 := by unfold kemP; rw [kfold_len, hP]
  have hne : ¬ gi cs x = c := fun e => by
    unfold kemB at hk
    simp [e] at hk
  have hX : Spec2 Try.prog 90 [.agg (.pr (.sl (.sl .int)) .int) fun _ => (nearR l n, k), .agg (.ar 7 .int) fun _ => paintL cs, .int fun _ => x, .int fun _ => c] [] [.agg (.ar 7 .int) fun _ => kemP n l cs x c] [] := Spec2.agg (t := .pr (.sl (.sl .int)) .int) (x := fun _ => (nearR l n, k)) (im_exchange (nearR l n) k (paintL cs) x c hP k2 hi hr x0 (by omega) hQ hQ2)
  have hLi : Spec2 Try.prog 89 [.agg (.pr (.sl (.sl .int)) .int) fun _ => (nearR l n, k), .agg (.ar 7 .int) fun _ => kemP n l cs x c] [] [.ref 0] [some (.row 3 .int fun _ => (kemP n l cs x c).take (nearR l n).length)] := Spec2.agg (t := .pr (.sl (.sl .int)) .int) (x := fun _ => (nearR l n, k)) (im_list (nearR l n) k (kemP n l cs x c) hKl k2)
  clear k3 hi hr hin g2 hQ hQ2
  rw [if_pos hk] at h8
  rw [hk, h8, ← he]
  refine fnE [4] [4] [10, 11] Try.func38 rfl (by decide) rfl (by decide) (by kernel_rfl) (by kernel_rfl) (by simp [Try.ntmps38]) ?_
  cbv
  repeat' (first | ((first | refine call_q (im_palWith_ok n l k cs hl hc hb) (by cbv) ?_ | refine call_pure (im_palWith_ok n l k cs hl hc hb) (by cbv) ?_); cbv; ((try simp only [IfP_iff, and_true, true_and, decide_eq_true_eq, decide_eq_false_iff_not]); (try simp only [natc, getI_gi, at2_0, at2_1]); (try dsimp only [Ty.den]); (try simp only [natc] at *); (repeat' (first | apply And.intro | intro _)))))
  all_goals (try (simp only [IfP_iff, EqU_iff, Obl_iff, and_true, true_and, inI_iff, decide_eq_true_eq, decide_eq_false_iff_not]; (try simp only [natc, getI_gi, at2_0, at2_1]); (try dsimp only [Ty.den]); try simp only [natc] at *))
  all_goals (try (exact absurd (by assumption : (!true) = true) (by decide)))
  all_goals (repeat' (first | ((first | refine call_q (im_isIndex _ _) (by cbv) ?_ | refine call_pure (im_isIndex _ _) (by cbv) ?_); cbv; ((try simp only [IfP_iff, and_true, true_and, decide_eq_true_eq, decide_eq_false_iff_not]); (try simp only [natc, getI_gi, at2_0, at2_1]); (try dsimp only [Ty.den]); (try simp only [natc] at *); (repeat' (first | apply And.intro | intro _))))))
  all_goals (try (simp only [IfP_iff, EqU_iff, Obl_iff, and_true, true_and, inI_iff, decide_eq_true_eq, decide_eq_false_iff_not]; (try simp only [natc, getI_gi, at2_0, at2_1]); (try dsimp only [Ty.den]); try simp only [natc] at *))
  all_goals (repeat' (first | ((first | refine call_q (im_isIndex _ _) (by cbv) ?_ | refine call_pure (im_isIndex _ _) (by cbv) ?_); cbv; ((try simp only [IfP_iff, and_true, true_and, decide_eq_true_eq, decide_eq_false_iff_not]); (try simp only [natc, getI_gi, at2_0, at2_1]); (try dsimp only [Ty.den]); (try simp only [natc] at *); (repeat' (first | apply And.intro | intro _))))))
  all_goals (try (simp only [IfP_iff, EqU_iff, Obl_iff, and_true, true_and, inI_iff, decide_eq_true_eq, decide_eq_false_iff_not]; (try simp only [natc, getI_gi, at2_0, at2_1]); (try dsimp only [Ty.den]); try simp only [natc] at *))
  all_goals (try (exact absurd (by assumption : (!(decide (0 ≤ x) && decide (x < n))) = true) (by simp [x0, x1])))
  all_goals (try (exact absurd (by assumption : (!(decide (0 ≤ c) && decide (c < k))) = true) (by simp [c0, c1])))
  all_goals (try (exact absurd (by assumption : gi (paintL cs) x = c) (by rw [px x0 x1]; exact hne)))
  · exact ⟨x0, by show x < 8; omega⟩
  · refine DrawL.layersS [(5, fun S => S.put (some 51) (.agg (.ar 7 .int) fun _ => kemP n l cs x c)), (6, fun S => S.new (some 52) (.ref S.H.length) (.row 3 .int fun _ => (kemP n l cs x c).take (nearR l n).length))] [3, 4] (fun _ _ => none) [([false, false, false, true, true, false, false, false, false], [0, 1, 2]), ([true, false, false, true, true, false, false, false, false], [1, 2]), ([false, true, false, true, true, false, false, false, false], [0, 2]), ([false, false, true, true, true, false, false, false, false], [0, 1]), ([true, true, false, true, true, false, false, false, false], [2]), ([true, false, true, true, true, false, false, false, false], [1]), ([false, true, true, true, true, false, false, false, false], [0, 5]), ([true, true, true, true, true, false, false, false, false], [5]), ([false, true, true, true, true, true, false, false, false], [0]), ([true, true, true, true, true, true, false, false, false], [6]), ([true, true, true, true, true, true, true, false, false], [7]), ([true, true, true, true, true, true, true, true, false], [8]), ([true, true, true, true, true, true, true, true, true], [])] (by kernel_rfl) (by rfl) ?_
    cbv
    (repeat' (first | apply And.intro | apply EqU.mk))
    all_goals (try trivial)
    all_goals (try (((first | refine call_q hX (by cbv) ?_ | refine call_pure hX (by cbv) ?_); cbv; ((try simp only [IfP_iff, and_true, true_and, decide_eq_true_eq, decide_eq_false_iff_not]); (try simp only [natc, getI_gi, at2_0, at2_1]); (try dsimp only [Ty.den]); (try simp only [natc] at *); (repeat' (first | apply And.intro | intro _))))))
    all_goals (try (((first | refine call_q hLi (by cbv) ?_ | refine call_pure hLi (by cbv) ?_); cbv; ((try simp only [IfP_iff, and_true, true_and, decide_eq_true_eq, decide_eq_false_iff_not]); (try simp only [natc, getI_gi, at2_0, at2_1]); (try dsimp only [Ty.den]); (try simp only [natc] at *); (repeat' (first | apply And.intro | intro _))))))
    all_goals (try (first | trivial | rfl))
    all_goals (try (simp only [IfP_iff, EqU_iff, Obl_iff, and_true, true_and, inI_iff, decide_eq_true_eq, decide_eq_false_iff_not]; (try simp only [natc, getI_gi, at2_0, at2_1]); (try dsimp only [Ty.den]); try simp only [natc] at *))
end Go.Proofs.Ytcgeedklfejhbab.M
