/- Kempe changes: the specification. -/
import Derived.Test.YtcgeedklfejhbabKeQ
import Derived.Test.YtcgeedklfejhbabRwQ
import Derived.Test.YtcgeedklfejhbabQc
namespace Go.Proofs.Ytcgeedklfejhbab.M
open Go.RowKit Abs
set_option linter.unusedSimpArgs false
set_option linter.unusedVariables false
set_option maxRecDepth 100000
set_option maxHeartbeats 4000000
theorem sp_spot (n : Int) (l : List (Int × Int)) (k : Int) (cs : List Int) (x c : Int) (hl : l.length ≤ 1048576) (hc : cs.length ≤ 1048576) : Spec2 Try.prog 82 [.agg (.pr .int (.sl (.pr .int .int))) fun _ => (n, l), .int fun _ => k, .sl .int fun _ => cs, .int fun _ => x, .int fun _ => c] [] [.bool fun _ => kspB n l k cs x c] [] := by
  have h9 : kspB n l k cs x c = _ := rfl
  conv at h9 => rhs; unfold kspB
  have hb : givB n l k cs = true → (0 ≤ n ∧ n ≤ 8) ∧ 1 ≤ k ∧ k ≤ 5 := fun h => by
    obtain ⟨a, b, _⟩ := giv_in h
    exact ⟨a, b⟩
  refine fnS [] [10] Try.func82 rfl (by decide) rfl (by decide) (by kernel_rfl) rfl (by simp [Try.ntmps82]) ?_
  cbv
  repeat' (first | ((first | refine call_q (sp_given n l k cs hl hc) (by cbv) ?_ | refine call_pure (sp_given n l k cs hl hc) (by cbv) ?_); cbv; ((try simp only [IfP_iff, and_true, true_and, decide_eq_true_eq, decide_eq_false_iff_not]); (try simp only [natc, getI_gi, at2_0, at2_1]); (try dsimp only [Ty.den]); (try simp only [natc] at *); (repeat' (first | apply And.intro | intro _)))))
  all_goals (try (simp only [IfP_iff, EqU_iff, Obl_iff, and_true, true_and, inI_iff, decide_eq_true_eq, decide_eq_false_iff_not]; (try simp only [natc, getI_gi, at2_0, at2_1]); (try dsimp only [Ty.den]); try simp only [natc] at *))
  ((try simp only [IfP_iff, and_true, true_and, decide_eq_true_eq, decide_eq_false_iff_not]); (try simp only [natc, getI_gi, at2_0, at2_1]); (try dsimp only [Ty.den]); (try simp only [natc] at *); (repeat' (first | apply And.intro | intro _)))
  all_goals (repeat' (first | ((first | refine call_q (sp_in _ _ _) (by cbv) ?_ | refine call_pure (sp_in _ _ _) (by cbv) ?_); cbv; ((try simp only [IfP_iff, and_true, true_and, decide_eq_true_eq, decide_eq_false_iff_not]); (try simp only [natc, getI_gi, at2_0, at2_1]); (try dsimp only [Ty.den]); (try simp only [natc] at *); (repeat' (first | apply And.intro | intro _))))))
  all_goals (try (simp only [IfP_iff, EqU_iff, Obl_iff, and_true, true_and, inI_iff, decide_eq_true_eq, decide_eq_false_iff_not]; (try simp only [natc, getI_gi, at2_0, at2_1]); (try dsimp only [Ty.den]); try simp only [natc] at *))
  all_goals ((repeat' (first | apply And.intro | intro _)) <;> first | omega | (simp only [List.length_append, List.length_cons, List.length_nil]; omega) | grind)
theorem sp_chain (n : Int) (l : List (Int × Int)) (cs : List Int) (x c : Int) (hl : l.length ≤ 1048576) (hn : (cs.length : Int) = n) (n8 : n ≤ 8) (x0 : 0 ≤ x) (x1 : x < n) : Spec2 Try.prog 83 [.agg (.pr .int (.sl (.pr .int .int))) fun _ => (n, l), .sl .int fun _ => cs, .int fun _ => x, .int fun _ => c] [] [.ref 0] [some (.row 3 .int fun _ => rch l (chS n cs x c) x)] := by
  refine fnS [2] [8] Try.func83 rfl (by decide) rfl (by decide) (by kernel_rfl) rfl (by simp [Try.ntmps83]) ?_
  cbv
  refine loopP (by kernel_rfl) (fun v : Int => 0 ≤ v ∧ v ≤ n) (fun v => [(10, .int fun _ => v), (9, .ref 1), (11, .junk)]) (fun v => [(1, some (.row 3 .int fun _ => pref (cqB cs x c) v.toNat))]) (fun v => (n - v).toNat) (· + 1) 0 (by omega) ?_ ?_
  · cbv
    (simp only [IfP_iff, EqU_iff, Obl_iff, and_true, true_and, inI_iff, decide_eq_true_eq, decide_eq_false_iff_not]; (try simp only [natc, getI_gi, at2_0, at2_1]); (try dsimp only [Ty.den]); try simp only [natc] at *)
    simp [pref]
  · intro v hv
    have h1 := pref_next (p := cqB cs x c) hv.1
    have h2 := pref_len (p := cqB cs x c) hv.1
    have h3 : ¬ v < n → rch l (pref (cqB cs x c) v.toNat) x = rch l (chS n cs x c) x := fun h => by
      unfold chS
      rw [show v = n by omega]
    have h4 : cqB cs x c v = (decide (gi cs v = c) || decide (gi cs v = gi cs x)) := rfl
    have h5 : (pref (cqB cs x c) v.toNat).length ≤ 1000 := by omega
    cbv
    ((try simp only [IfP_iff, and_true, true_and, decide_eq_true_eq, decide_eq_false_iff_not]); (try simp only [natc, getI_gi, at2_0, at2_1]); (try dsimp only [Ty.den]); (try simp only [natc] at *); (repeat' (first | apply And.intro | intro _)))
    all_goals (repeat' (first | ((first | refine call_q (sp_reach n l (pref (cqB cs x c) v.toNat) x hl h5) (by cbv) ?_ | refine call_pure (sp_reach n l (pref (cqB cs x c) v.toNat) x hl h5) (by cbv) ?_); cbv; ((try simp only [IfP_iff, and_true, true_and, decide_eq_true_eq, decide_eq_false_iff_not]); (try simp only [natc, getI_gi, at2_0, at2_1]); (try dsimp only [Ty.den]); (try simp only [natc] at *); (repeat' (first | apply And.intro | intro _))))))
    all_goals (try (simp only [IfP_iff, EqU_iff, Obl_iff, and_true, true_and, inI_iff, decide_eq_true_eq, decide_eq_false_iff_not]; (try simp only [natc, getI_gi, at2_0, at2_1]); (try dsimp only [Ty.den]); try simp only [natc] at *))
    all_goals ((repeat' (first | apply And.intro | intro _)) <;> first | omega | (exact h3 (by assumption)) | grind)
theorem sp_kempe (n : Int) (l : List (Int × Int)) (k : Int) (cs : List Int) (x c : Int) (hl : l.length ≤ 1048576) (hg : givB n l k cs = true) (x0 : 0 ≤ x) (x1 : x < n) (c0 : 0 ≤ c) (c1 : c < k) : Spec2 Try.prog 88 [.agg (.pr .int (.sl (.pr .int .int))) fun _ => (n, l), .sl .int fun _ => cs, .int fun _ => x, .int fun _ => c] [] [.ref 0] [some (.row 3 .int fun _ => kemV n l cs x c)] := by
  obtain ⟨⟨g0, g1⟩, ⟨q0, q1⟩, hlen, _, hin⟩ := giv_in hg
  have hx := hin x x0 (by omega)
  have hr : (rch l (chS n cs x c) x).length ≤ 1000 := by
    have h1 := rch_len (l := l) (ch_src (cs := cs) (c := c) x0 x1) (chS n cs x c).length
    have h2 := pref_len (p := cqB cs x c) g0
    unfold rch
    unfold chS at h1 ⊢
    omega
  have hcl : cs.length ≤ 1048576 := by omega
  refine fnS [1] [8] Try.func88 rfl (by decide) rfl (by decide) (by kernel_rfl) rfl (by simp [Try.ntmps88]) ?_
  cbv
  repeat' (first | ((first | refine call_q (sp_own cs hcl) (by cbv) ?_ | refine call_pure (sp_own cs hcl) (by cbv) ?_); cbv; ((try simp only [IfP_iff, and_true, true_and, decide_eq_true_eq, decide_eq_false_iff_not]); (try simp only [natc, getI_gi, at2_0, at2_1]); (try dsimp only [Ty.den]); (try simp only [natc] at *); (repeat' (first | apply And.intro | intro _)))) | ((first | refine call_q (sp_chain n l cs x c hl hlen g1 x0 x1) (by cbv) ?_ | refine call_pure (sp_chain n l cs x c hl hlen g1 x0 x1) (by cbv) ?_); cbv; ((try simp only [IfP_iff, and_true, true_and, decide_eq_true_eq, decide_eq_false_iff_not]); (try simp only [natc, getI_gi, at2_0, at2_1]); (try dsimp only [Ty.den]); (try simp only [natc] at *); (repeat' (first | apply And.intro | intro _)))))
  all_goals (try (simp only [IfP_iff, EqU_iff, Obl_iff, and_true, true_and, inI_iff, decide_eq_true_eq, decide_eq_false_iff_not]; (try simp only [natc, getI_gi, at2_0, at2_1]); (try dsimp only [Ty.den]); try simp only [natc] at *))
  refine loopP (by kernel_rfl) (fun i : Int => 0 ≤ i ∧ i ≤ (rch l (chS n cs x c) x).length) (fun i => [(11, .int fun _ => i)]) (fun i => [(1, some (.row 3 .int fun _ => kfold (exS cs x c) ((rch l (chS n cs x c) x).take i.toNat) cs))]) (fun i => ((rch l (chS n cs x c) x).length - i).toNat) (· + 1) 0 (by omega) ?_ ?_
  · cbv
    (simp only [IfP_iff, EqU_iff, Obl_iff, and_true, true_and, inI_iff, decide_eq_true_eq, decide_eq_false_iff_not]; (try simp only [natc, getI_gi, at2_0, at2_1]); (try dsimp only [Ty.den]); try simp only [natc] at *)
    rfl
  · intro i hi
    have h1 : i < ((rch l (chS n cs x c) x).length : Int) → kfold (exS cs x c) ((rch l (chS n cs x c) x).take (i + 1).toNat) cs = setI (kfold (exS cs x c) ((rch l (chS n cs x c) x).take i.toNat) cs) (gi (rch l (chS n cs x c) x) i) (exS cs x c (gi (rch l (chS n cs x c) x) i)) := kfold_next hi.1
    have h2 : i < ((rch l (chS n cs x c) x).length : Int) → 0 ≤ gi (rch l (chS n cs x c) x) i ∧ gi (rch l (chS n cs x c) x) i < n ∧ 0 ≤ gi cs (gi (rch l (chS n cs x c) x) i) ∧ gi cs (gi (rch l (chS n cs x c) x) i) < k := fun h => by
      have h3 := ch_in x0 x1 (gi_mem hi.1 h)
      have h4 := hin _ h3.1 (by omega)
      exact ⟨h3.1, h3.2.1, h4⟩
    have h3 : ¬ i < ((rch l (chS n cs x c) x).length : Int) → kfold (exS cs x c) ((rch l (chS n cs x c) x).take i.toNat) cs = kemV n l cs x c := fun h => by
      unfold kemV
      rw [List.take_of_length_le (by omega)]
    have h4 : exS cs x c (gi (rch l (chS n cs x c) x) i) = gi cs x + c - gi cs (gi (rch l (chS n cs x c) x) i) := rfl
    have h5 : (kfold (exS cs x c) ((rch l (chS n cs x c) x).take i.toNat) cs).length = cs.length := kfold_len
    clear hin hg
    cbv
    ((try simp only [IfP_iff, and_true, true_and, decide_eq_true_eq, decide_eq_false_iff_not]); (try simp only [natc, getI_gi, at2_0, at2_1]); (try dsimp only [Ty.den]); (try simp only [natc] at *); (repeat' (first | apply And.intro | intro _)))
    all_goals (try (simp only [IfP_iff, EqU_iff, Obl_iff, and_true, true_and, inI_iff, decide_eq_true_eq, decide_eq_false_iff_not]; (try simp only [natc, getI_gi, at2_0, at2_1]); (try dsimp only [Ty.den]); try simp only [natc] at *))
    all_goals ((repeat' (first | apply And.intro | intro _)) <;> first | omega | (exact h3 (by assumption)) | grind)
theorem sp_kem (n : Int) (l : List (Int × Int)) (k : Int) (cs : List Int) (x c : Int) (hl : l.length ≤ 1048576) (hc : cs.length ≤ 1048576) : Spec2 Try.prog 37 [.agg (.pr .int (.sl (.pr .int .int))) fun _ => (n, l), .int fun _ => k, .sl .int fun _ => cs, .int fun _ => x, .int fun _ => c] [] [.ref 0, .bool fun _ => kemB n l k cs x c] [some (.row 3 .int fun _ => kemR n l k cs x c)] := by
  have h9 : kemB n l k cs x c = _ := rfl
  conv at h9 => rhs; unfold kemB
  have h8 : kemR n l k cs x c = _ := rfl
  conv at h8 => rhs; unfold kemR
  by_cases hs : kspB n l k cs x c = true
  case neg =>
    rw [Bool.not_eq_true] at hs
    rw [hs] at h9
    have h7 : kemB n l k cs x c = false := by rw [h9]; rfl
    rw [h7] at h8
    have h6 : kemR n l k cs x c = [] := by rw [h8]; rfl
    rw [h7, h6]
    refine fnS [1] [10, 11] Try.func37 rfl (by decide) rfl (by decide) (by kernel_rfl) rfl (by simp [Try.ntmps37]) ?_
    cbv
    repeat' (first | ((first | refine call_q (sp_spot n l k cs x c hl hc) (by cbv) ?_ | refine call_pure (sp_spot n l k cs x c hl hc) (by cbv) ?_); cbv; ((try simp only [IfP_iff, and_true, true_and, decide_eq_true_eq, decide_eq_false_iff_not]); (try simp only [natc, getI_gi, at2_0, at2_1]); (try dsimp only [Ty.den]); (try simp only [natc] at *); (repeat' (first | apply And.intro | intro _)))))
    all_goals (try (simp only [IfP_iff, EqU_iff, Obl_iff, and_true, true_and, inI_iff, decide_eq_true_eq, decide_eq_false_iff_not]; (try simp only [natc, getI_gi, at2_0, at2_1]); (try dsimp only [Ty.den]); try simp only [natc] at *))
    ((try simp only [IfP_iff, and_true, true_and, decide_eq_true_eq, decide_eq_false_iff_not]); (try simp only [natc, getI_gi, at2_0, at2_1]); (try dsimp only [Ty.den]); (try simp only [natc] at *); (repeat' (first | apply And.intro | intro _)))
    all_goals (try (simp only [IfP_iff, EqU_iff, Obl_iff, and_true, true_and, inI_iff, decide_eq_true_eq, decide_eq_false_iff_not]; (try simp only [natc, getI_gi, at2_0, at2_1]); (try dsimp only [Ty.den]); try simp only [natc] at *))
    all_goals ((repeat' (first | apply And.intro | intro _)) <;> first | omega | (simp only [List.length_append, List.length_cons, List.length_nil]; omega) | grind)
  obtain ⟨hg, x0, x1, c0, c1⟩ := ksp_in hs
  obtain ⟨⟨g0, g1⟩, ⟨q0, q1⟩, hlen, _, hin⟩ := giv_in hg
  refine fnS [1] [10, 11] Try.func37 rfl (by decide) rfl (by decide) (by kernel_rfl) rfl (by simp [Try.ntmps37]) ?_
  cbv
  repeat' (first | ((first | refine call_q (sp_spot n l k cs x c hl hc) (by cbv) ?_ | refine call_pure (sp_spot n l k cs x c hl hc) (by cbv) ?_); cbv; ((try simp only [IfP_iff, and_true, true_and, decide_eq_true_eq, decide_eq_false_iff_not]); (try simp only [natc, getI_gi, at2_0, at2_1]); (try dsimp only [Ty.den]); (try simp only [natc] at *); (repeat' (first | apply And.intro | intro _)))))
  all_goals (try (simp only [IfP_iff, EqU_iff, Obl_iff, and_true, true_and, inI_iff, decide_eq_true_eq, decide_eq_false_iff_not]; (try simp only [natc, getI_gi, at2_0, at2_1]); (try dsimp only [Ty.den]); try simp only [natc] at *))
  ((try simp only [IfP_iff, and_true, true_and, decide_eq_true_eq, decide_eq_false_iff_not]); (try simp only [natc, getI_gi, at2_0, at2_1]); (try dsimp only [Ty.den]); (try simp only [natc] at *); (repeat' (first | apply And.intro | intro _)))
  all_goals (repeat' (first | ((first | refine call_q (sp_kempe n l k cs x c hl hg x0 x1 c0 c1) (by cbv) ?_ | refine call_pure (sp_kempe n l k cs x c hl hg x0 x1 c0 c1) (by cbv) ?_); cbv; ((try simp only [IfP_iff, and_true, true_and, decide_eq_true_eq, decide_eq_false_iff_not]); (try simp only [natc, getI_gi, at2_0, at2_1]); (try dsimp only [Ty.den]); (try simp only [natc] at *); (repeat' (first | apply And.intro | intro _))))))
  all_goals (try clear hin)
  all_goals (try (simp only [IfP_iff, EqU_iff, Obl_iff, and_true, true_and, inI_iff, decide_eq_true_eq, decide_eq_false_iff_not]; (try simp only [natc, getI_gi, at2_0, at2_1]); (try dsimp only [Ty.den]); try simp only [natc] at *))
  all_goals ((repeat' (first | apply And.intro | intro _)) <;> first | omega | (simp only [List.length_append, List.length_cons, List.length_nil]; omega) | grind)
end Go.Proofs.Ytcgeedklfejhbab.M
