/- Trees: the specification. -/
import Derived.Test.YtikclhackjjhfaaTaQ
import Derived.Test.YtikclhackjjhfaaRgQ
import Derived.Test.YtikclhackjjhfaaDeQ
import Derived.Test.YtikclhackjjhfaaDfQ
import Derived.Test.YtikclhackjjhfaaQe
import Derived.Test.YtikclhackjjhfaaQg
namespace Go.Proofs.Ytikclhackjjhfaa.M
open Go.RowKit Abs
set_option linter.unusedSimpArgs false
set_option linter.unusedVariables false
set_option maxRecDepth 100000
set_option maxHeartbeats 4000000
theorem shl_one {n : Int} (h0 : 0 ≤ n) (h1 : n ≤ 8) : inI (1 * 2 ^ (min n.toNat 64)) ∧ inI (1 * 2 ^ (min n.toNat 64) - 1) := by
  have : n = 0 ∨ n = 1 ∨ n = 2 ∨ n = 3 ∨ n = 4 ∨ n = 5 ∨ n = 6 ∨ n = 7 ∨ n = 8 := by omega
  rcases this with rfl | rfl | rfl | rfl | rfl | rfl | rfl | rfl | rfl <;> exact ⟨inI_iff.2 (by decide), inI_iff.2 (by decide)⟩
def bitAt (c i : Int) : Int := IntKind.i64.wrap (BitVec.ofInt 64 (c.fdiv (2 ^ (min i.toNat 64))) &&& BitVec.ofInt 64 1).toNat
theorem bit_all {n i : Int} (h0 : 0 ≤ n) (h1 : n ≤ 8) (i0 : 0 ≤ i) (i1 : i < n) : bitAt (1 * 2 ^ (min n.toNat 64) - 1) i = 1 := by
  have : n = 0 ∨ n = 1 ∨ n = 2 ∨ n = 3 ∨ n = 4 ∨ n = 5 ∨ n = 6 ∨ n = 7 ∨ n = 8 := by omega
  have h2 : i = 0 ∨ i = 1 ∨ i = 2 ∨ i = 3 ∨ i = 4 ∨ i = 5 ∨ i = 6 ∨ i = 7 := by omega
  rcases this with rfl | rfl | rfl | rfl | rfl | rfl | rfl | rfl | rfl <;> rcases h2 with rfl | rfl | rfl | rfl | rfl | rfl | rfl | rfl <;> first | omega | decide
theorem sp_bitsN (n c : Int) (h0 : 0 ≤ n) (h1 : n ≤ 8) (hc : c = 1 * 2 ^ (min n.toNat 64) - 1) : Spec2 Try.prog 95 [.int fun _ => n, .int fun _ => c] [] [.ref 0] [some (.row 3 .int fun _ => nodesL n)] := by
  have hb : ∀ i : Int, 0 ≤ i → i < n → bitAt c i = 1 := fun i a b => by rw [hc]; exact bit_all h0 h1 a b
  clear hc
  refine fnS [0] [4] Try.func95 rfl (by decide) rfl (by decide) (by kernel_rfl) rfl (by simp [Try.ntmps95]) ?_
  cbv
  refine loopP (by kernel_rfl) (fun i : Int => 0 ≤ i ∧ i ≤ n) (fun i => [(6, .int fun _ => i), (5, .ref 0), (7, .junk)]) (fun i => [(0, some (.row 3 .int fun _ => pref (fun _ => true) i.toNat))]) (fun i => (n - i).toNat) (· + 1) 0 (by omega) ?_ ?_
  · cbv
    (simp only [IfP_iff, EqU_iff, Obl_iff, and_true, true_and, inI_iff, decide_eq_true_eq, decide_eq_false_iff_not]; (try simp only [natc, getI_gi, at2_0, at2_1]); (try dsimp only [Ty.den]); try simp only [natc] at *)
    simp [pref]
  · intro i hi
    have h2 := pref_next (p := fun _ => true) hi.1
    have h3 := pref_len (p := fun _ => true) hi.1
    have h4 : ¬ i < n → pref (fun _ => true) i.toNat = nodesL n := fun h => by unfold nodesL; rw [show i = n by omega]
    have h5 : i < n → IntKind.i64.wrap (BitVec.ofInt 64 (c.fdiv (2 ^ (min i.toNat 64))) &&& BitVec.ofInt 64 1).toNat = 1 := fun h => hb i hi.1 h
    rw [if_pos rfl] at h2
    clear hb
    cbv
    ((try simp only [IfP_iff, and_true, true_and, decide_eq_true_eq, decide_eq_false_iff_not]); (try simp only [natc, getI_gi, at2_0, at2_1]); (try dsimp only [Ty.den]); (try simp only [natc] at *); (repeat' (first | apply And.intro | intro _)))
    all_goals (try (simp only [IfP_iff, EqU_iff, Obl_iff, and_true, true_and, inI_iff, decide_eq_true_eq, decide_eq_false_iff_not]; (try simp only [natc, getI_gi, at2_0, at2_1]); (try dsimp only [Ty.den]); try simp only [natc] at *))
    all_goals ((repeat' (first | apply And.intro | intro _)) <;> first | omega | (exact h4 (by assumption)) | (exact h2.symm) | (exact absurd (h5 (by assumption)) (by assumption)) | grind)
theorem nodesL_len {n : Int} (h0 : 0 ≤ n) (h1 : n ≤ 8) : (nodesL n).length ≤ 1000 := by
  have := pref_len (p := fun _ => true) h0
  unfold nodesL
  omega
theorem partL_len {l : List (Int × Int)} {es : List Int} : (partL l es).length = es.length := by simp [partL]
end Go.Proofs.Ytikclhackjjhfaa.M
