/- Permutations grow by orderRule: impl.grown. -/
import Derived.Test.YtoejmijcikehdaaJlQ
import Derived.Test.YtoejmijcikehdaaJnQ
import Derived.Test.YtoejmijcikehdaaDnQ
import Derived.Test.YtoejmijcikehdaaWbQ
import Derived.Test.YtoejmijcikehdaaNqQ
import Derived.Test.YtoejmijcikehdaaQg
namespace Go.Proofs.Ytoejmijcikehdaa.M
open Go.RowKit Abs
set_option linter.unusedSimpArgs false
set_option linter.unusedVariables false
set_option maxRecDepth 100000
set_option maxHeartbeats 4000000
def chv (n : Int) (l : List Int) : List Int := pref (notB l) n.toNat
def grv (n : Int) : Nat → List Int → List (List Int)
  | 0, l => [l]
  | f + 1, l => (chv n l).flatMap fun x => grv n f (l ++ [x])
def grvP (n : Int) (f : Nat) (l : List Int) (k : Nat) : List (List Int) := ((chv n l).take k).flatMap fun x => grv n f (l ++ [x])
theorem grvP_next {n : Int} {f : Nat} {l : List Int} {k : Int} (h0 : 0 ≤ k) (h1 : k < ((chv n l).length : Int)) : grvP n f l (k + 1).toNat = grvP n f l k.toNat ++ grv n f (l ++ [gi (chv n l) k]) := by
  unfold grvP
  rw [take_gi h0 h1, List.flatMap_append]
  simp
theorem chv_len {n : Int} (n0 : 0 ≤ n) (l : List Int) : (chv n l).length ≤ n.toNat := by
  have := pref_len (p := notB l) n0
  unfold chv
  omega
theorem flatV_len (c : Nat) (g : Int → List (List Int)) : ∀ s : List Int, (∀ x ∈ s, (g x).length ≤ c) → (s.flatMap g).length ≤ s.length * c
  | [], _ => by simp
  | x :: s, h => by
    have h1 := h x (by simp)
    have h2 := flatV_len c g s fun y hy => h y (by simp [hy])
    simp only [List.flatMap_cons, List.length_append, List.length_cons, Nat.add_mul]
    omega
theorem grv_len {n : Int} (n0 : 0 ≤ n) (n1 : n ≤ 5) : ∀ (f : Nat) (l : List Int), (grv n f l).length ≤ 5 ^ f
  | 0, l => by simp [grv]
  | f + 1, l => by
    have h1 := flatV_len (5 ^ f) (fun x => grv n f (l ++ [x])) (chv n l) fun x _ => grv_len n0 n1 f _
    have h2 := Nat.mul_le_mul_right (5 ^ f) (Nat.le_trans (chv_len n0 l) (show n.toNat ≤ 5 by omega))
    show ((chv n l).flatMap fun x => grv n f (l ++ [x])).length ≤ 5 ^ (f + 1)
    rw [Nat.pow_succ]
    omega
theorem grvP_len {n : Int} (n0 : 0 ≤ n) (n1 : n ≤ 5) (f : Nat) (hf : f ≤ 5) (l : List Int) (k : Nat) : (grvP n f l k).length ≤ 15625 := by
  have h1 := flatV_len (5 ^ f) (fun x => grv n f (l ++ [x])) ((chv n l).take k) fun x _ => grv_len n0 n1 f _
  have h2 : ((chv n l).take k).length ≤ 5 := by rw [List.length_take]; have := chv_len n0 l; omega
  have h3 : 5 ^ f ≤ 5 ^ 5 := Nat.pow_le_pow_right (by decide) hf
  have h4 := Nat.mul_le_mul h2 h3
  unfold grvP
  omega
theorem only_pref {n : Int} {l : List Int} : onlyL (pref (fun _ => true) n.toNat) l = chv n l := by
  unfold onlyL chv pref
  rw [List.filter_filter]
  congr 1
  funext x
  simp [notB]
theorem im_oWhole (n : Int) (l : List Int) (hl : l.length ≤ 1048576) : Spec2 Try.prog 159 [.cells [.int fun _ => n], .sl .int fun _ => l] [] [.bool fun _ => decide ((l.length : Int) = n)] [] := by
  refine fnS [] [4] Try.func159 rfl (by decide) rfl (by decide) (by kernel_rfl) rfl (by simp [Try.ntmps159]) ?_
  cbv
  ((try simp only [IfP_iff, and_true, true_and, decide_eq_true_eq, decide_eq_false_iff_not]); (try simp only [natc, getI_gi, at2_0, at2_1]); (try dsimp only [Ty.den]); (try simp only [natc] at *); (repeat' (first | apply And.intro | intro _)))
  all_goals (try (simp only [IfP_iff, EqU_iff, Obl_iff, and_true, true_and, inI_iff, decide_eq_true_eq, decide_eq_false_iff_not]; (try simp only [natc, getI_gi, at2_0, at2_1]); (try dsimp only [Ty.den]); try simp only [natc] at *))
theorem im_oWith (n x : Int) (l : List Int) (hl : l.length ≤ 1000) : Spec2 Try.prog 160 [.cells [.int fun _ => n], .sl .int fun _ => l, .int fun _ => x] [] [.ref 0] [some (.row 3 .int fun _ => l ++ [x])] := by
  have s1 := go_concat l [x] (by omega) (by simp) (by simp)
  refine fnE [1] [3] [6] Try.func160 rfl (by decide) rfl (by decide) (by kernel_rfl) rfl (by simp [Try.ntmps160]) ?_
  cbv
  refine DrawL.seqZ [(3, [1])] ?_
  cbv
  repeat' (first | ((first | refine call_q s1 (by cbv) ?_ | refine call_pure s1 (by cbv) ?_); cbv; ((try simp only [IfP_iff, and_true, true_and, decide_eq_true_eq, decide_eq_false_iff_not]); (try simp only [natc, getI_gi, at2_0, at2_1]); (try dsimp only [Ty.den]); (try simp only [natc] at *); (repeat' (first | apply And.intro | intro _)))))
  all_goals (try (simp only [IfP_iff, EqU_iff, Obl_iff, and_true, true_and, inI_iff, decide_eq_true_eq, decide_eq_false_iff_not]; (try simp only [natc, getI_gi, at2_0, at2_1]); (try dsimp only [Ty.den]); try simp only [natc] at *))
theorem im_oChoices (n : Int) (l : List Int) (n0 : 0 ≤ n) (n1 : n ≤ 1000) (hl : l.length ≤ 1048576) : Spec2 Try.prog 158 [.cells [.int fun _ => n], .sl .int fun _ => l] [] [.ref 0] [some (.row 3 .int fun _ => chv n l)] := by
  have hpl := pref_len (p := fun _ => true) n0
  have s1 := im_below n n0 (by omega)
  have s2 := im_miss (pref (fun _ => true) n.toNat) l (by omega) hl
  rw [only_pref] at s2
  generalize chv n l = C at *
  generalize pref (fun _ => true) n.toNat = D at *
  refine fnS [2] [4] Try.func158 rfl (by decide) rfl (by decide) (by kernel_rfl) rfl (by simp [Try.ntmps158]) ?_
  cbv
  repeat' (first | ((first | refine call_q s1 (by cbv) ?_ | refine call_pure s1 (by cbv) ?_); cbv; ((try simp only [IfP_iff, and_true, true_and, decide_eq_true_eq, decide_eq_false_iff_not]); (try simp only [natc, getI_gi, at2_0, at2_1]); (try dsimp only [Ty.den]); (try simp only [natc] at *); (repeat' (first | apply And.intro | intro _)))) | ((first | refine call_q s2 (by cbv) ?_ | refine call_pure s2 (by cbv) ?_); cbv; ((try simp only [IfP_iff, and_true, true_and, decide_eq_true_eq, decide_eq_false_iff_not]); (try simp only [natc, getI_gi, at2_0, at2_1]); (try dsimp only [Ty.den]); (try simp only [natc] at *); (repeat' (first | apply And.intro | intro _)))))
  all_goals (try (simp only [IfP_iff, EqU_iff, Obl_iff, and_true, true_and, inI_iff, decide_eq_true_eq, decide_eq_false_iff_not]; (try simp only [natc, getI_gi, at2_0, at2_1]); (try dsimp only [Ty.den]); try simp only [natc] at *))
end Go.Proofs.Ytoejmijcikehdaa.M
