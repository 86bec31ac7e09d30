/- Paintings: the colours of a list as an array, in the program. -/
import Derived.Test.YthogfineaeklpaaQg
import Derived.Test.YthogfineaeklpaaRaQ
namespace Go.Proofs.Ythogfineaeklpaa.M
open Go.RowKit Abs
set_option linter.unusedSimpArgs false
set_option linter.unusedVariables false
set_option maxRecDepth 100000
set_option maxHeartbeats 4000000
def paintL (l : List Int) : List Int := l.take 8 ++ List.replicate (8 - l.length) (-1)
def pk (k : Int) : List Int := List.replicate k.toNat (-1) ++ List.replicate (8 - k.toNat) 0
theorem pk_len {k : Int} (h0 : 0 ≤ k) (h1 : k ≤ 8) : (pk k).length = 8 := by
  unfold pk
  rw [List.length_append, List.length_replicate, List.length_replicate]
  omega
theorem pk_set {k : Int} (h0 : 0 ≤ k) (h1 : k < 8) : setI (pk k) k (-1) = pk (k + 1) := by
  unfold pk setI
  have e : 8 - k.toNat = (8 - (k + 1).toNat) + 1 := by omega
  rw [e, List.replicate_succ, List.set_append_right _ _ (by simp), List.length_replicate, Nat.sub_self, List.set_cons_zero, show (k + 1).toNat = k.toNat + 1 by omega, List.replicate_succ', List.append_assoc]
  rfl
theorem pk_all : pk 8 = List.replicate 8 (-1) := rfl
theorem pk_zero : pk 0 = List.replicate 8 0 := rfl
theorem pk_copy (l : List Int) : cpy (pk 8) l 0 8 = paintL l := by
  unfold cpy paintL
  rw [pk_all]
  simp only [Int.sub_zero, Int.toNat_zero, List.take_zero, List.nil_append, Nat.zero_add, List.drop_replicate]
  rw [show (8 : Int).toNat = 8 from rfl, show 8 - min l.length 8 = 8 - l.length by omega]
theorem paintL_len (l : List Int) : (paintL l).length = 8 := by
  unfold paintL
  rw [List.length_append, List.length_take, List.length_replicate]
  omega
theorem im_paintingOf (l : List Int) (hl : l.length ≤ 1048576) : Spec2 Try.prog 89 [.sl .int fun _ => l] [] [.agg (.ar 7 .int) fun _ => paintL l] [] := by
  have e0 := pk_zero
  have e1 := pk_copy l
  refine fnA [] 2 8 82 Try.func89 rfl (by decide) rfl (by kernel_rfl) (by kernel_rfl) (by kernel_rfl) (Nat.zero_le _) (by simp [Try.ntmps89]) ?_
  cbv
  refine loopP (by kernel_rfl) (fun k : Int => 0 ≤ k ∧ k ≤ 8) (fun k => [(6, .int fun _ => k)]) (fun k => [(1, some (.arr 82 7 .int fun _ => pk k))]) (fun k => (8 - k).toNat) (· + 1) 0 (by omega) ?_ ?_
  · cbv
    (simp only [IfP_iff, EqU_iff, Obl_iff, and_true, true_and, inI_iff, decide_eq_true_eq, decide_eq_false_iff_not]; (try simp only [natc, getI_gi, at2_0, at2_1]); (try dsimp only [Ty.den]); try simp only [natc] at *)
    rfl
  · intro k hk
    have h1 : 0 ≤ k → k < 8 → setI (pk k) k (-1) = pk (k + 1) := pk_set
    have h2 := pk_len hk.1 hk.2
    cbv
    ((try simp only [IfP_iff, and_true, true_and, decide_eq_true_eq, decide_eq_false_iff_not]); (try simp only [natc, getI_gi, at2_0, at2_1]); (try dsimp only [Ty.den]); (try simp only [natc] at *); (repeat' (first | apply And.intro | intro _)))
    all_goals (try (simp only [IfP_iff, EqU_iff, Obl_iff, and_true, true_and, inI_iff, decide_eq_true_eq, decide_eq_false_iff_not]; (try simp only [natc, getI_gi, at2_0, at2_1]); (try dsimp only [Ty.den]); try simp only [natc] at *))
    all_goals ((repeat' (first | apply And.intro | intro _)) <;> first | omega | (simp only [List.length_append, List.length_cons, List.length_nil]; omega) | grind)
end Go.Proofs.Ythogfineaeklpaa.M
