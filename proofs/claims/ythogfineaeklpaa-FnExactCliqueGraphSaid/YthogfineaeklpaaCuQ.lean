/- The Graph of the pairs that are no neighbours: the walks. -/
import Derived.Test.YthogfineaeklpaaCqQ
import Derived.Test.YthogfineaeklpaaPfQ
import Derived.Test.YthogfineaeklpaaQg
namespace Go.Proofs.Ythogfineaeklpaa.M
open Go.RowKit Abs
set_option linter.unusedSimpArgs false
set_option linter.unusedVariables false
set_option maxRecDepth 100000
set_option maxHeartbeats 4000000
def cqP (l : List (Int × Int)) (x y : Int) : Bool := decide (x < y) && !nearB l x y
def cqRow (l : List (Int × Int)) (x : Int) (m : Nat) : List (Int × Int) := (pref (cqP l x) m).map fun y => (x, y)
def cqTo (l : List (Int × Int)) (n : Int) (k : Nat) : List (Int × Int) := ((List.range k).map Int.ofNat).flatMap fun x => cqRow l x n.toNat
theorem cqRow_next {l : List (Int × Int)} {x y : Int} (h0 : 0 ≤ y) : cqRow l x (y + 1).toNat = cqRow l x y.toNat ++ if cqP l x y = true then [(x, y)] else [] := by
  unfold cqRow
  rw [pref_next h0, List.map_append]
  split <;> rfl
theorem cqRow_start {l : List (Int × Int)} {x : Int} (h0 : 0 ≤ x) : cqRow l x (x + 1).toNat = [] := by
  unfold cqRow
  have : pref (cqP l x) (x + 1).toNat = pref (fun _ => false) (x + 1).toNat := pref_congr fun y a b => by
    unfold cqP
    rw [show decide (x < y) = false by rw [decide_eq_false_iff_not]; omega, Bool.false_and]
  rw [this]
  simp [pref]
theorem cqRow_len {l : List (Int × Int)} {x y : Int} (h0 : 0 ≤ y) : ((cqRow l x y.toNat).length : Int) ≤ y := by
  unfold cqRow
  rw [List.length_map]
  exact pref_len h0
theorem cqTo_next {l : List (Int × Int)} {n k : Int} (h0 : 0 ≤ k) : cqTo l n (k + 1).toNat = cqTo l n k.toNat ++ cqRow l k n.toNat := by
  unfold cqTo
  have e : (k + 1).toNat = k.toNat + 1 := by omega
  have e2 : Int.ofNat k.toNat = k := by simp; omega
  rw [e, List.range_succ, List.map_append, List.flatMap_append]
  simp only [List.map_cons, List.map_nil, List.flatMap_cons, List.flatMap_nil, List.append_nil, e2]
theorem cqTo_len {l : List (Int × Int)} {n : Int} (hn : 0 ≤ n) : ∀ k : Nat, ((cqTo l n k).length : Int) ≤ k * n
  | 0 => by simp [cqTo]
  | k + 1 => by
    have h1 := cqTo_next (l := l) (n := n) (k := (k : Int)) (by omega)
    rw [show ((k : Int) + 1).toNat = k + 1 by omega, Int.toNat_natCast] at h1
    have h2 := cqTo_len (l := l) hn k
    have h3 := cqRow_len (l := l) (x := (k : Int)) hn
    rw [h1, List.length_append]
    have : ((k + 1 : Nat) : Int) * n = k * n + n := by rw [Int.natCast_add, Int.add_mul]; simp
    omega
def cqF (n : Int) (l : List (Int × Int)) : List (Int × Int) := if graphOk n l = true then cqTo l n n.toNat else []
def cqN (n : Int) (l : List (Int × Int)) : Int := if graphOk n l = true then n else 0
theorem sp_clique_bad (n : Int) (l : List (Int × Int)) (hl : l.length ≤ 1048576) (hb : graphOk n l = false) : Spec2 Try.prog 31 [.agg (.pr .int (.sl (.pr .int .int))) fun _ => (n, l)] [] [.cells [.int fun _ => 0, .ref 0], .bool fun _ => false] [some (.row 70 (.pr .int .int) fun _ => [])] := by
  refine fnC 2 3 2 29 Try.func31 rfl (by decide) rfl (by kernel_rfl) (by kernel_rfl) (by kernel_rfl) (Nat.zero_le _) (by simp [Try.ntmps31]) ?_
  cbv
  repeat' (first | ((first | refine call_q (sp_good n l hl) (by cbv) ?_ | refine call_pure (sp_good n l hl) (by cbv) ?_); cbv; ((try simp only [IfP_iff, and_true, true_and, decide_eq_true_eq, decide_eq_false_iff_not]); (try simp only [natc, getI_gi, at2_0, at2_1]); (try dsimp only [Ty.den]); (try simp only [natc] at *); (repeat' (first | apply And.intro | intro _)))))
  all_goals (try (simp only [IfP_iff, EqU_iff, Obl_iff, and_true, true_and, inI_iff, decide_eq_true_eq, decide_eq_false_iff_not]; (try simp only [natc, getI_gi, at2_0, at2_1]); (try dsimp only [Ty.den]); try simp only [natc] at *))
  · refine EndC.nil 70 (.pr .int .int) [.box 1 1] [2] ?_
    cbv
    (simp only [IfP_iff, EqU_iff, Obl_iff, and_true, true_and, inI_iff, decide_eq_true_eq, decide_eq_false_iff_not]; (try simp only [natc, getI_gi, at2_0, at2_1]); (try dsimp only [Ty.den]); try simp only [natc] at *)
  all_goals (exfalso; rw [hb] at *; simp_all)
theorem im_clique_bad (n : Int) (l : List (Int × Int)) (hl : l.length ≤ 1048576) (hb : graphOk n l = false) : Spec2 Try.prog 32 [.agg (.pr .int (.sl (.pr .int .int))) fun _ => (n, l)] [] [.cells [.int fun _ => 0, .ref 0], .bool fun _ => false] [some (.row 70 (.pr .int .int) fun _ => [])] := by
  refine fnC 2 3 2 29 Try.func32 rfl (by decide) rfl (by kernel_rfl) (by kernel_rfl) (by kernel_rfl) (Nat.zero_le _) (by simp [Try.ntmps32]) ?_
  cbv
  repeat' (first | ((first | refine call_q (im_graph n l hl) (by cbv) ?_ | refine call_pure (im_graph n l hl) (by cbv) ?_); cbv; ((try simp only [IfP_iff, and_true, true_and, decide_eq_true_eq, decide_eq_false_iff_not]); (try simp only [natc, getI_gi, at2_0, at2_1]); (try dsimp only [Ty.den]); (try simp only [natc] at *); (repeat' (first | apply And.intro | intro _)))))
  all_goals (try (simp only [IfP_iff, EqU_iff, Obl_iff, and_true, true_and, inI_iff, decide_eq_true_eq, decide_eq_false_iff_not]; (try simp only [natc, getI_gi, at2_0, at2_1]); (try dsimp only [Ty.den]); try simp only [natc] at *))
  · refine EndC.nil 70 (.pr .int .int) [.box 1 1] [2] ?_
    cbv
    (simp only [IfP_iff, EqU_iff, Obl_iff, and_true, true_and, inI_iff, decide_eq_true_eq, decide_eq_false_iff_not]; (try simp only [natc, getI_gi, at2_0, at2_1]); (try dsimp only [Ty.den]); try simp only [natc] at *)
  all_goals (exfalso; rw [hb] at *; simp_all)
theorem sp_clique_ok (n : Int) (l : List (Int × Int)) (hl : l.length ≤ 1048576) (hb : graphOk n l = true) : Spec2 Try.prog 31 [.agg (.pr .int (.sl (.pr .int .int))) fun _ => (n, l)] [] [.cells [.int fun _ => n, .ref 0], .bool fun _ => true] [some (.row 70 (.pr .int .int) fun _ => cqTo l n n.toNat)] := by
  obtain ⟨⟨g0, g1⟩, _⟩ := graph_edges hb
  refine fnC 2 3 2 29 Try.func31 rfl (by decide) rfl (by kernel_rfl) (by kernel_rfl) (by kernel_rfl) (Nat.zero_le _) (by simp [Try.ntmps31]) ?_
  cbv
  repeat' (first | ((first | refine call_q (sp_good n l hl) (by cbv) ?_ | refine call_pure (sp_good n l hl) (by cbv) ?_); cbv; ((try simp only [IfP_iff, and_true, true_and, decide_eq_true_eq, decide_eq_false_iff_not]); (try simp only [natc, getI_gi, at2_0, at2_1]); (try dsimp only [Ty.den]); (try simp only [natc] at *); (repeat' (first | apply And.intro | intro _)))))
  rotate_right 1
  · refine loopP (by kernel_rfl) (fun x : Int => 0 ≤ x ∧ x ≤ n) (fun x => [(5, .int fun _ => x), (13, .junk), (14, .junk)]) (fun x => [(2, some (.row 70 (.pr .int .int) fun _ => cqTo l n x.toNat)), (3, some (.box 29 [.int fun _ => n, .ref 2]))]) (fun x => (n - x).toNat) (· + 1) 0 (by omega) ?_ ?_
    · cbv
      (simp only [IfP_iff, EqU_iff, Obl_iff, and_true, true_and, inI_iff, decide_eq_true_eq, decide_eq_false_iff_not]; (try simp only [natc, getI_gi, at2_0, at2_1]); (try dsimp only [Ty.den]); try simp only [natc] at *)
      exact rfl
    · intro x hx
      have c1 := cqTo_next (l := l) (n := n) hx.1
      have c2 := cqTo_len (l := l) g0 x.toNat
      have c3 := cqRow_start (l := l) hx.1
      have c4 : ((x.toNat : Nat) : Int) * n ≤ 8 * 8 := Int.mul_le_mul (by omega) g1 g0 (by omega)
      have c5 : ¬ x < n → x.toNat = n.toNat := by omega
      cbv
      ((try simp only [IfP_iff, and_true, true_and, decide_eq_true_eq, decide_eq_false_iff_not]); (try simp only [natc, getI_gi, at2_0, at2_1]); (try dsimp only [Ty.den]); (try simp only [natc] at *); (repeat' (first | apply And.intro | intro _)))
      rotate_left 1
      · refine loopP (by kernel_rfl) (fun y : Int => x + 1 ≤ y ∧ y ≤ n) (fun y => [(6, .int fun _ => y)]) (fun y => [(2, some (.row 70 (.pr .int .int) fun _ => cqTo l n x.toNat ++ cqRow l x y.toNat)), (3, some (.box 29 [.int fun _ => n, .ref 2]))]) (fun y => (n - y).toNat) (· + 1) (x + 1) (by omega) ?_ ?_
        · cbv
          (simp only [IfP_iff, EqU_iff, Obl_iff, and_true, true_and, inI_iff, decide_eq_true_eq, decide_eq_false_iff_not]; (try simp only [natc, getI_gi, at2_0, at2_1]); (try dsimp only [Ty.den]); try simp only [natc] at *)
          rw [c3, List.append_nil]
        · intro y hy
          have d1 := cqRow_next (l := l) (x := x) (y := y) (by omega)
          have d2 := cqRow_len (l := l) (x := x) (y := y) (by omega)
          have d3 : cqP l x y = !nearB l x y := by unfold cqP; rw [show decide (x < y) = true by rw [decide_eq_true_eq]; omega, Bool.true_and]
          have d4 : ¬ y < n → y.toNat = n.toNat := by omega
          have d5 : nearB l x y = false → cqRow l x (y + 1).toNat = cqRow l x y.toNat ++ [(x, y)] := fun a => by rw [d1, d3, a]; rfl
          have d6 : nearB l x y = true → cqRow l x (y + 1).toNat = cqRow l x y.toNat := fun a => by rw [d1, d3, a]; simp
          have d7 : (cqTo l n x.toNat ++ cqRow l x y.toNat).length ≤ 80 := by rw [List.length_append]; omega
          clear d1 c2 c4
          cbv
          ((try simp only [IfP_iff, and_true, true_and, decide_eq_true_eq, decide_eq_false_iff_not]); (try simp only [natc, getI_gi, at2_0, at2_1]); (try dsimp only [Ty.den]); (try simp only [natc] at *); (repeat' (first | apply And.intro | intro _)))
          all_goals (repeat' (first | ((first | refine call_q (sp_near n l _ _ hl) (by cbv) ?_ | refine call_pure (sp_near n l _ _ hl) (by cbv) ?_); cbv; ((try simp only [IfP_iff, and_true, true_and, decide_eq_true_eq, decide_eq_false_iff_not]); (try simp only [natc, getI_gi, at2_0, at2_1]); (try dsimp only [Ty.den]); (try simp only [natc] at *); (repeat' (first | apply And.intro | intro _))))))
          all_goals (try (simp only [IfP_iff, EqU_iff, Obl_iff, and_true, true_and, inI_iff, decide_eq_true_eq, decide_eq_false_iff_not]; (try simp only [natc, getI_gi, at2_0, at2_1]); (try dsimp only [Ty.den]); try simp only [natc] at *))
          all_goals ((repeat' (first | apply And.intro | intro _)) <;> first | omega | (rw [d6 (by simp_all)]; done) | (rw [d5 (by simp_all), List.append_assoc]; done) | (rw [c1, d4 (by assumption)]; done) | (simp only [List.length_cons, List.length_nil]; omega) | trace_state)
      · refine EndC.plain [2] ?_
        cbv
        (simp only [IfP_iff, EqU_iff, Obl_iff, and_true, true_and, inI_iff, decide_eq_true_eq, decide_eq_false_iff_not]; (try simp only [natc, getI_gi, at2_0, at2_1]); (try dsimp only [Ty.den]); try simp only [natc] at *)
        rw [c5 (by assumption)]
      all_goals (try (simp only [IfP_iff, EqU_iff, Obl_iff, and_true, true_and, inI_iff, decide_eq_true_eq, decide_eq_false_iff_not]; (try simp only [natc, getI_gi, at2_0, at2_1]); (try dsimp only [Ty.den]); try simp only [natc] at *))
      all_goals ((repeat' (first | apply And.intro | intro _)) <;> first | omega | trace_state)
  all_goals (try (simp only [IfP_iff, EqU_iff, Obl_iff, and_true, true_and, inI_iff, decide_eq_true_eq, decide_eq_false_iff_not]; (try simp only [natc, getI_gi, at2_0, at2_1]); (try dsimp only [Ty.den]); try simp only [natc] at *))
  all_goals (exfalso; rw [hb] at *; simp_all)
theorem im_clique_ok (n : Int) (l : List (Int × Int)) (hl : l.length ≤ 1048576) (hb : graphOk n l = true) : Spec2 Try.prog 32 [.agg (.pr .int (.sl (.pr .int .int))) fun _ => (n, l)] [] [.cells [.int fun _ => n, .ref 0], .bool fun _ => true] [some (.row 70 (.pr .int .int) fun _ => cqTo l n n.toNat)] := by
  obtain ⟨⟨g0, g1⟩, _⟩ := graph_edges hb
  refine fnC 2 3 2 29 Try.func32 rfl (by decide) rfl (by kernel_rfl) (by kernel_rfl) (by kernel_rfl) (Nat.zero_le _) (by simp [Try.ntmps32]) ?_
  cbv
  repeat' (first | ((first | refine call_q (im_graph n l hl) (by cbv) ?_ | refine call_pure (im_graph n l hl) (by cbv) ?_); cbv; ((try simp only [IfP_iff, and_true, true_and, decide_eq_true_eq, decide_eq_false_iff_not]); (try simp only [natc, getI_gi, at2_0, at2_1]); (try dsimp only [Ty.den]); (try simp only [natc] at *); (repeat' (first | apply And.intro | intro _)))))
  rotate_right 1
  · refine LoopL.nil 70 (.pr .int .int) [.box 2 1] ?_
    refine loopP (by kernel_rfl) (fun x : Int => 0 ≤ x ∧ x ≤ n) (fun x => [(16, .int fun _ => x)]) (fun x => [(3, some (.row 70 (.pr .int .int) fun _ => cqTo l n x.toNat)), (2, some (.box 29 [.int fun _ => n, .ref 3]))]) (fun x => (n - x).toNat) (· + 1) 0 (by omega) ?_ ?_
    · cbv
      (simp only [IfP_iff, EqU_iff, Obl_iff, and_true, true_and, inI_iff, decide_eq_true_eq, decide_eq_false_iff_not]; (try simp only [natc, getI_gi, at2_0, at2_1]); (try dsimp only [Ty.den]); try simp only [natc] at *)
      exact rfl
    · intro x hx
      have c1 := cqTo_next (l := l) (n := n) hx.1
      have c2 := cqTo_len (l := l) g0 x.toNat
      have c3 := cqRow_start (l := l) hx.1
      have c4 : ((x.toNat : Nat) : Int) * n ≤ 8 * 8 := Int.mul_le_mul (by omega) g1 g0 (by omega)
      have c5 : ¬ x < n → x.toNat = n.toNat := by omega
      cbv
      ((try simp only [IfP_iff, and_true, true_and, decide_eq_true_eq, decide_eq_false_iff_not]); (try simp only [natc, getI_gi, at2_0, at2_1]); (try dsimp only [Ty.den]); (try simp only [natc] at *); (repeat' (first | apply And.intro | intro _)))
      rotate_left 1
      · refine loopP (by kernel_rfl) (fun y : Int => x + 1 ≤ y ∧ y ≤ n) (fun y => [(6, .int fun _ => y)]) (fun y => [(3, some (.row 70 (.pr .int .int) fun _ => cqTo l n x.toNat ++ cqRow l x y.toNat)), (2, some (.box 29 [.int fun _ => n, .ref 3]))]) (fun y => (n - y).toNat) (· + 1) (x + 1) (by omega) ?_ ?_
        · cbv
          (simp only [IfP_iff, EqU_iff, Obl_iff, and_true, true_and, inI_iff, decide_eq_true_eq, decide_eq_false_iff_not]; (try simp only [natc, getI_gi, at2_0, at2_1]); (try dsimp only [Ty.den]); try simp only [natc] at *)
          rw [c3, List.append_nil]
        · intro y hy
          have d1 := cqRow_next (l := l) (x := x) (y := y) (by omega)
          have d2 := cqRow_len (l := l) (x := x) (y := y) (by omega)
          have d3 : cqP l x y = !nearB l x y := by unfold cqP; rw [show decide (x < y) = true by rw [decide_eq_true_eq]; omega, Bool.true_and]
          have d4 : ¬ y < n → y.toNat = n.toNat := by omega
          have d5 : nearB l x y = false → cqRow l x (y + 1).toNat = cqRow l x y.toNat ++ [(x, y)] := fun a => by rw [d1, d3, a]; rfl
          have d6 : nearB l x y = true → cqRow l x (y + 1).toNat = cqRow l x y.toNat := fun a => by rw [d1, d3, a]; simp
          have d7 : (cqTo l n x.toNat ++ cqRow l x y.toNat).length ≤ 80 := by rw [List.length_append]; omega
          clear d1 c2 c4
          cbv
          ((try simp only [IfP_iff, and_true, true_and, decide_eq_true_eq, decide_eq_false_iff_not]); (try simp only [natc, getI_gi, at2_0, at2_1]); (try dsimp only [Ty.den]); (try simp only [natc] at *); (repeat' (first | apply And.intro | intro _)))
          all_goals (repeat' (first | ((first | refine call_q (im_areNeighbors n l _ _ hl hb) (by cbv) ?_ | refine call_pure (im_areNeighbors n l _ _ hl hb) (by cbv) ?_); cbv; ((try simp only [IfP_iff, and_true, true_and, decide_eq_true_eq, decide_eq_false_iff_not]); (try simp only [natc, getI_gi, at2_0, at2_1]); (try dsimp only [Ty.den]); (try simp only [natc] at *); (repeat' (first | apply And.intro | intro _))))))
          all_goals (try (simp only [IfP_iff, EqU_iff, Obl_iff, and_true, true_and, inI_iff, decide_eq_true_eq, decide_eq_false_iff_not]; (try simp only [natc, getI_gi, at2_0, at2_1]); (try dsimp only [Ty.den]); try simp only [natc] at *))
          all_goals ((repeat' (first | apply And.intro | intro _)) <;> first | omega | (rw [d6 (by simp_all)]; done) | (rw [d5 (by simp_all), List.append_assoc]; done) | (rw [c1, d4 (by assumption)]; done) | (simp only [List.length_cons, List.length_nil]; omega) | trace_state)
      · refine EndC.plain [3] ?_
        cbv
        (simp only [IfP_iff, EqU_iff, Obl_iff, and_true, true_and, inI_iff, decide_eq_true_eq, decide_eq_false_iff_not]; (try simp only [natc, getI_gi, at2_0, at2_1]); (try dsimp only [Ty.den]); try simp only [natc] at *)
        rw [c5 (by assumption)]
      all_goals (try (simp only [IfP_iff, EqU_iff, Obl_iff, and_true, true_and, inI_iff, decide_eq_true_eq, decide_eq_false_iff_not]; (try simp only [natc, getI_gi, at2_0, at2_1]); (try dsimp only [Ty.den]); try simp only [natc] at *))
      all_goals ((repeat' (first | apply And.intro | intro _)) <;> first | omega | trace_state)
  all_goals (try (simp only [IfP_iff, EqU_iff, Obl_iff, and_true, true_and, inI_iff, decide_eq_true_eq, decide_eq_false_iff_not]; (try simp only [natc, getI_gi, at2_0, at2_1]); (try dsimp only [Ty.den]); try simp only [natc] at *))
  all_goals (exfalso; rw [hb] at *; simp_all)
end Go.Proofs.Ythogfineaeklpaa.M
