/- TokenSpace: the program. -/
import Derived.Test.YtoejmijcikehdaaWhQ
import Derived.Test.YtoejmijcikehdaaWaQ
import Derived.Test.YtoejmijcikehdaaJgQ
import Derived.Test.YtoejmijcikehdaaCqQ
import Derived.Test.YtoejmijcikehdaaQe
import Derived.Test.YtoejmijcikehdaaQg
namespace Go.Proofs.Ytoejmijcikehdaa.M
open Go.RowKit Abs
set_option linter.unusedSimpArgs false
set_option linter.unusedVariables false
set_option maxRecDepth 100000
set_option maxHeartbeats 4000000
def difB (l : List (Int × Int)) (a b : List Int) : Bool := decide (((apL a b).length : Int) = 2) && nearB l (gi (apL a b) 0) (gi (apL a b) 1)
theorem grv_row {n : Int} : ∀ (f : Nat) (l s : List Int), s ∈ grv n f l → s.length = l.length + f
  | 0, l, s, h => by
    rw [List.mem_singleton.1 h]
    rfl
  | f + 1, l, s, h => by
    obtain ⟨x, _, h2⟩ := List.mem_flatMap.1 h
    have := grv_row f (l ++ [x]) s h2
    rw [List.length_append, List.length_cons, List.length_nil] at this
    omega
def tspB (n : Int) (l : List (Int × Int)) : Bool := graphOk n l && decide (n ≤ 5)
def tspG (n : Int) (l : List (Int × Int)) : List (List Int) := if tspB n l = true then grv n n.toNat [] else []
def tspQ (n : Int) (l : List (Int × Int)) : List (Int × Int) := wTo (fun i j => difB l (getR .int (tspG n l) i) (getR .int (tspG n l) j)) (tspG n l).length (tspG n l).length
theorem tsp_row {n : Int} {l : List (Int × Int)} {k : Int} (h0 : 0 ≤ k) (h1 : k < (tspG n l).length) : ((getR .int (tspG n l) k).length : Int) = n ∧ n ≤ 5 := by
  unfold tspG at *
  split at h1
  · rename_i h
    rw [if_pos h]
    unfold tspB graphOk at h
    simp only [Bool.and_eq_true, decide_eq_true_eq] at h
    have := grv_row _ _ _ (List.mem_of_getElem? (getR_get (t := .int) (l := grv n n.toNat []) h0 h1))
    rw [List.length_nil] at this
    omega
  · simp at h1
    omega
theorem tsp_len (n : Int) (l : List (Int × Int)) : (tspG n l).length ≤ 3125 := by
  unfold tspG
  split
  · rename_i h
    unfold tspB graphOk at h
    simp only [Bool.and_eq_true, decide_eq_true_eq] at h
    have h1 := grv_len (n := n) (by omega) h.2 n.toNat []
    have h2 : 5 ^ n.toNat ≤ 5 ^ 5 := Nat.pow_le_pow_right (by decide) (by omega)
    omega
  · simp
theorem im_token1 (n : Int) (l : List (Int × Int)) (a b : List Int) (hl : l.length ≤ 1048576) (hg : graphOk n l = true) (ha : a.length ≤ 1048576) (hb : b.length = a.length) : Spec2 Try.prog 83 [.sl .int fun _ => a, .sl .int fun _ => b, .ibox [.int fun _ => n, .sl (.pr .int .int) fun _ => l] 0] [] [.bool fun _ => difB l a b] [] := by
  have s1 := im_apart a b ha hb
  have s2 := im_areNeighbors n l (gi (apL a b) 0) (gi (apL a b) 1) hl hg
  have h9 : difB l a b = _ := rfl
  conv at h9 => rhs; unfold difB
  generalize difB l a b = B at *
  generalize apL a b = A at *
  refine fnS [] [5] Try.func83 rfl (by decide) rfl (by decide) (by kernel_rfl) rfl (by simp [Try.ntmps83]) ?_
  cbv
  repeat' (first | ((first | refine call_q s1 (by cbv) ?_ | refine call_pure s1 (by cbv) ?_); cbv; ((try simp only [IfP_iff, and_true, true_and, decide_eq_true_eq, decide_eq_false_iff_not]); (try simp only [natc, getI_gi, at2_0, at2_1]); (try dsimp only [Ty.den]); (try simp only [natc] at *); (repeat' (first | apply And.intro | intro _)))) | ((first | refine call_q s2 (by cbv) ?_ | refine call_pure s2 (by cbv) ?_); cbv; ((try simp only [IfP_iff, and_true, true_and, decide_eq_true_eq, decide_eq_false_iff_not]); (try simp only [natc, getI_gi, at2_0, at2_1]); (try dsimp only [Ty.den]); (try simp only [natc] at *); (repeat' (first | apply And.intro | intro _)))))
  all_goals (try (simp only [IfP_iff, EqU_iff, Obl_iff, and_true, true_and, inI_iff, decide_eq_true_eq, decide_eq_false_iff_not]; (try simp only [natc, getI_gi, at2_0, at2_1]); (try dsimp only [Ty.den]); try simp only [natc] at *))
  all_goals ((repeat' (first | apply And.intro | intro _)) <;> first | omega | (simp only [List.length_append, List.length_cons, List.length_nil]; omega) | grind | trace_state)
end Go.Proofs.Ytoejmijcikehdaa.M
