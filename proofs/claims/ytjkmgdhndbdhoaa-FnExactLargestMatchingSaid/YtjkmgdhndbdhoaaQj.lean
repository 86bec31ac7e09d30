/- Jb, Jc, Jd, Je, in one text. -/
import Derived.Test.YtjkmgdhndbdhoaaJaQ
import Derived.Test.YtjkmgdhndbdhoaaDfQ
import Derived.Test.YtjkmgdhndbdhoaaDdQ
import Derived.Test.YtjkmgdhndbdhoaaEdQ
import Derived.Test.YtjkmgdhndbdhoaaDgQ
import Derived.Test.YtjkmgdhndbdhoaaQg
import Derived.Test.YtjkmgdhndbdhoaaLpQ
/- Edges that exclude each other: the program's rule. -/
namespace Go.Proofs.Ytjkmgdhndbdhoaa.M
open Go.RowKit Abs
set_option linter.unusedSimpArgs false
set_option linter.unusedVariables false
set_option maxRecDepth 100000
set_option maxHeartbeats 4000000
def edgeX (l : List (Int × Int)) (x y : Int) : Bool := hasB [(getI (.pr .int .int) l y).1, (getI (.pr .int .int) l y).2] (getI (.pr .int .int) l x).1 || hasB [(getI (.pr .int .int) l y).1, (getI (.pr .int .int) l y).2] (getI (.pr .int .int) l x).2
theorem im_excludesE (n : Int) (l : List (Int × Int)) (x y : Int) (hl : l.length ≤ 1048576) (x0 : 0 ≤ x) (x1 : x < l.length) (y0 : 0 ≤ y) (y1 : y < l.length) : Spec2 Try.prog 74 [.agg (.pr .int (.sl (.pr .int .int))) fun _ => (n, l), .int fun _ => x, .int fun _ => y] [] [.bool fun _ => edgeX l x y] [] := by
  have h9 : edgeX l x y = _ := rfl
  conv at h9 => rhs; unfold edgeX
  have h2 : [(getI (.pr .int .int) l y).1, (getI (.pr .int .int) l y).2].length ≤ 1048576 := by rw [List.length_cons, List.length_cons, List.length_nil]; omega
  refine fnF [1, 2] [1] [] [6] Try.func74 rfl (by decide) rfl (by decide) (by kernel_rfl) rfl (by simp [Try.ntmps74]) ?_
  cbv
  refine DrawL.layersS [] [3, 9] (fun l i => if ((i == 12) && l.getD 13 false) = true then some [0, 2, 1] else none) [([false, false, false, true, false, false, false, false, false, true, false, false, false, false, false, false], [0, 6, 12, 13]), ([true, false, false, true, false, false, false, false, false, true, false, false, false, false, false, false], [1, 6, 12, 13]), ([false, false, false, true, false, false, true, false, false, true, false, false, false, false, false, false], [0, 7, 12, 13]), ([false, false, false, true, false, false, false, false, false, true, false, false, true, false, false, false], [0, 6, 13]), ([false, false, false, true, false, false, false, false, false, true, false, false, false, true, false, false], [0, 6, 12]), ([true, true, false, true, false, false, false, false, false, true, false, false, false, false, false, false], [2, 6, 12, 13]), ([true, false, false, true, false, false, true, false, false, true, false, false, false, false, false, false], [1, 7, 12, 13]), ([true, false, false, true, false, false, false, false, false, true, false, false, true, false, false, false], [1, 6, 13]), ([true, false, false, true, false, false, false, false, false, true, false, false, false, true, false, false], [1, 6, 12]), ([false, false, false, true, false, false, true, true, false, true, false, false, false, false, false, false], [0, 8, 12, 13]), ([false, false, false, true, false, false, true, false, false, true, false, false, true, false, false, false], [0, 7, 13]), ([false, false, false, true, false, false, true, false, false, true, false, false, false, true, false, false], [0, 7, 12]), ([false, false, false, true, false, false, false, false, false, true, false, false, true, true, false, false], [0, 6]), ([true, true, true, true, false, false, false, false, false, true, false, false, false, false, false, false], [4, 6, 12, 13]), ([true, true, false, true, false, false, true, false, false, true, false, false, false, false, false, false], [2, 7, 12, 13]), ([true, true, false, true, false, false, false, false, false, true, false, false, true, false, false, false], [2, 6, 13]), ([true, true, false, true, false, false, false, false, false, true, false, false, false, true, false, false], [2, 6, 12]), ([true, false, false, true, false, false, true, true, false, true, false, false, false, false, false, false], [1, 8, 12, 13]), ([true, false, false, true, false, false, true, false, false, true, false, false, true, false, false, false], [1, 7, 13]), ([true, false, false, true, false, false, true, false, false, true, false, false, false, true, false, false], [1, 7, 12]), ([true, false, false, true, false, false, false, false, false, true, false, false, true, true, false, false], [1, 6]), ([false, false, false, true, false, false, true, true, true, true, false, false, false, false, false, false], [0, 10, 12, 13]), ([false, false, false, true, false, false, true, true, false, true, false, false, true, false, false, false], [0, 8, 13]), ([false, false, false, true, false, false, true, true, false, true, false, false, false, true, false, false], [0, 8, 12]), ([false, false, false, true, false, false, true, false, false, true, false, false, true, true, false, false], [0, 7]), ([true, true, true, true, true, false, false, false, false, true, false, false, false, false, false, false], [5, 6, 12, 13]), ([true, true, true, true, false, false, true, false, false, true, false, false, false, false, false, false], [4, 7, 12, 13]), ([true, true, true, true, false, false, false, false, false, true, false, false, true, false, false, false], [4, 6, 13]), ([true, true, true, true, false, false, false, false, false, true, false, false, false, true, false, false], [4, 6, 12]), ([true, true, false, true, false, false, true, true, false, true, false, false, false, false, false, false], [2, 8, 12, 13]), ([true, true, false, true, false, false, true, false, false, true, false, false, true, false, false, false], [2, 7, 13]), ([true, true, false, true, false, false, true, false, false, true, false, false, false, true, false, false], [2, 7, 12]), ([true, true, false, true, false, false, false, false, false, true, false, false, true, true, false, false], [2, 6]), ([true, false, false, true, false, false, true, true, true, true, false, false, false, false, false, false], [1, 10, 12, 13]), ([true, false, false, true, false, false, true, true, false, true, false, false, true, false, false, false], [1, 8, 13]), ([true, false, false, true, false, false, true, true, false, true, false, false, false, true, false, false], [1, 8, 12]), ([true, false, false, true, false, false, true, false, false, true, false, false, true, true, false, false], [1, 7]), ([false, false, false, true, false, false, true, true, true, true, true, false, false, false, false, false], [0, 11, 12, 13]), ([false, false, false, true, false, false, true, true, true, true, false, false, true, false, false, false], [0, 10, 13]), ([false, false, false, true, false, false, true, true, true, true, false, false, false, true, false, false], [0, 10, 12]), ([false, false, false, true, false, false, true, true, false, true, false, false, true, true, false, false], [0, 8]), ([true, true, true, true, true, true, false, false, false, true, false, false, false, false, false, false], [6, 12, 13]), ([true, true, true, true, true, false, true, false, false, true, false, false, false, false, false, false], [5, 7, 12, 13]), ([true, true, true, true, true, false, false, false, false, true, false, false, true, false, false, false], [5, 6, 13]), ([true, true, true, true, true, false, false, false, false, true, false, false, false, true, false, false], [5, 6, 12]), ([true, true, true, true, false, false, true, true, false, true, false, false, false, false, false, false], [4, 8, 12, 13]), ([true, true, true, true, false, false, true, false, false, true, false, false, true, false, false, false], [4, 7, 13]), ([true, true, true, true, false, false, true, false, false, true, false, false, false, true, false, false], [4, 7, 12]), ([true, true, true, true, false, false, false, false, false, true, false, false, true, true, false, false], [4, 6]), ([true, true, false, true, false, false, true, true, true, true, false, false, false, false, false, false], [2, 10, 12, 13]), ([true, true, false, true, false, false, true, true, false, true, false, false, true, false, false, false], [2, 8, 13]), ([true, true, false, true, false, false, true, true, false, true, false, false, false, true, false, false], [2, 8, 12]), ([true, true, false, true, false, false, true, false, false, true, false, false, true, true, false, false], [2, 7]), ([true, false, false, true, false, false, true, true, true, true, true, false, false, false, false, false], [1, 11, 12, 13]), ([true, false, false, true, false, false, true, true, true, true, false, false, true, false, false, false], [1, 10, 13]), ([true, false, false, true, false, false, true, true, true, true, false, false, false, true, false, false], [1, 10, 12]), ([true, false, false, true, false, false, true, true, false, true, false, false, true, true, false, false], [1, 8]), ([false, false, false, true, false, false, true, true, true, true, true, true, false, false, false, false], [0, 12, 13]), ([false, false, false, true, false, false, true, true, true, true, true, false, true, false, false, false], [0, 11, 13]), ([false, false, false, true, false, false, true, true, true, true, true, false, false, true, false, false], [0, 11, 12]), ([false, false, false, true, false, false, true, true, true, true, false, false, true, true, false, false], [0, 10]), ([true, true, true, true, true, true, true, false, false, true, false, false, false, false, false, false], [7, 12, 13]), ([true, true, true, true, true, true, false, false, false, true, false, false, true, false, false, false], [6, 13]), ([true, true, true, true, true, true, false, false, false, true, false, false, false, true, false, false], [6, 12]), ([true, true, true, true, true, false, true, true, false, true, false, false, false, false, false, false], [5, 8, 12, 13]), ([true, true, true, true, true, false, true, false, false, true, false, false, true, false, false, false], [5, 7, 13]), ([true, true, true, true, true, false, true, false, false, true, false, false, false, true, false, false], [5, 7, 12]), ([true, true, true, true, true, false, false, false, false, true, false, false, true, true, false, false], [5, 6]), ([true, true, true, true, false, false, true, true, true, true, false, false, false, false, false, false], [4, 10, 12, 13]), ([true, true, true, true, false, false, true, true, false, true, false, false, true, false, false, false], [4, 8, 13]), ([true, true, true, true, false, false, true, true, false, true, false, false, false, true, false, false], [4, 8, 12]), ([true, true, true, true, false, false, true, false, false, true, false, false, true, true, false, false], [4, 7]), ([true, true, false, true, false, false, true, true, true, true, true, false, false, false, false, false], [2, 11, 12, 13]), ([true, true, false, true, false, false, true, true, true, true, false, false, true, false, false, false], [2, 10, 13]), ([true, true, false, true, false, false, true, true, true, true, false, false, false, true, false, false], [2, 10, 12]), ([true, true, false, true, false, false, true, true, false, true, false, false, true, true, false, false], [2, 8]), ([true, false, false, true, false, false, true, true, true, true, true, true, false, false, false, false], [1, 12, 13]), ([true, false, false, true, false, false, true, true, true, true, true, false, true, false, false, false], [1, 11, 13]), ([true, false, false, true, false, false, true, true, true, true, true, false, false, true, false, false], [1, 11, 12]), ([true, false, false, true, false, false, true, true, true, true, false, false, true, true, false, false], [1, 10]), ([false, false, false, true, false, false, true, true, true, true, true, true, true, false, false, false], [0, 13]), ([false, false, false, true, false, false, true, true, true, true, true, true, false, true, false, false], [0, 12]), ([false, false, false, true, false, false, true, true, true, true, true, false, true, true, false, false], [0, 11]), ([true, true, true, true, true, true, true, true, false, true, false, false, false, false, false, false], [8, 12, 13]), ([true, true, true, true, true, true, true, false, false, true, false, false, true, false, false, false], [7, 13]), ([true, true, true, true, true, true, true, false, false, true, false, false, false, true, false, false], [7, 12]), ([true, true, true, true, true, true, false, false, false, true, false, false, true, true, false, false], [6, 14]), ([true, true, true, true, true, false, true, true, true, true, false, false, false, false, false, false], [5, 10, 12, 13]), ([true, true, true, true, true, false, true, true, false, true, false, false, true, false, false, false], [5, 8, 13]), ([true, true, true, true, true, false, true, true, false, true, false, false, false, true, false, false], [5, 8, 12]), ([true, true, true, true, true, false, true, false, false, true, false, false, true, true, false, false], [5, 7]), ([true, true, true, true, false, false, true, true, true, true, true, false, false, false, false, false], [4, 11, 12, 13]), ([true, true, true, true, false, false, true, true, true, true, false, false, true, false, false, false], [4, 10, 13]), ([true, true, true, true, false, false, true, true, true, true, false, false, false, true, false, false], [4, 10, 12]), ([true, true, true, true, false, false, true, true, false, true, false, false, true, true, false, false], [4, 8]), ([true, true, false, true, false, false, true, true, true, true, true, true, false, false, false, false], [2, 12, 13]), ([true, true, false, true, false, false, true, true, true, true, true, false, true, false, false, false], [2, 11, 13]), ([true, true, false, true, false, false, true, true, true, true, true, false, false, true, false, false], [2, 11, 12]), ([true, true, false, true, false, false, true, true, true, true, false, false, true, true, false, false], [2, 10]), ([true, false, false, true, false, false, true, true, true, true, true, true, true, false, false, false], [1, 13]), ([true, false, false, true, false, false, true, true, true, true, true, true, false, true, false, false], [1, 12]), ([true, false, false, true, false, false, true, true, true, true, true, false, true, true, false, false], [1, 11]), ([false, false, false, true, false, false, true, true, true, true, true, true, true, true, false, false], [0]), ([true, true, true, true, true, true, true, true, true, true, false, false, false, false, false, false], [10, 12, 13]), ([true, true, true, true, true, true, true, true, false, true, false, false, true, false, false, false], [8, 13]), ([true, true, true, true, true, true, true, true, false, true, false, false, false, true, false, false], [8, 12]), ([true, true, true, true, true, true, true, false, false, true, false, false, true, true, false, false], [7, 14]), ([true, true, true, true, true, true, false, false, false, true, false, false, true, true, true, false], [6]), ([true, true, true, true, true, false, true, true, true, true, true, false, false, false, false, false], [5, 11, 12, 13]), ([true, true, true, true, true, false, true, true, true, true, false, false, true, false, false, false], [5, 10, 13]), ([true, true, true, true, true, false, true, true, true, true, false, false, false, true, false, false], [5, 10, 12]), ([true, true, true, true, true, false, true, true, false, true, false, false, true, true, false, false], [5, 8]), ([true, true, true, true, false, false, true, true, true, true, true, true, false, false, false, false], [4, 12, 13]), ([true, true, true, true, false, false, true, true, true, true, true, false, true, false, false, false], [4, 11, 13]), ([true, true, true, true, false, false, true, true, true, true, true, false, false, true, false, false], [4, 11, 12]), ([true, true, true, true, false, false, true, true, true, true, false, false, true, true, false, false], [4, 10]), ([true, true, false, true, false, false, true, true, true, true, true, true, true, false, false, false], [2, 13]), ([true, true, false, true, false, false, true, true, true, true, true, true, false, true, false, false], [2, 12]), ([true, true, false, true, false, false, true, true, true, true, true, false, true, true, false, false], [2, 11]), ([true, false, false, true, false, false, true, true, true, true, true, true, true, true, false, false], [1]), ([true, true, true, true, true, true, true, true, true, true, true, false, false, false, false, false], [11, 12, 13]), ([true, true, true, true, true, true, true, true, true, true, false, false, true, false, false, false], [10, 13]), ([true, true, true, true, true, true, true, true, true, true, false, false, false, true, false, false], [10, 12]), ([true, true, true, true, true, true, true, true, false, true, false, false, true, true, false, false], [8, 14]), ([true, true, true, true, true, true, true, false, false, true, false, false, true, true, true, false], [7]), ([true, true, true, true, true, false, true, true, true, true, true, true, false, false, false, false], [5, 12, 13]), ([true, true, true, true, true, false, true, true, true, true, true, false, true, false, false, false], [5, 11, 13]), ([true, true, true, true, true, false, true, true, true, true, true, false, false, true, false, false], [5, 11, 12]), ([true, true, true, true, true, false, true, true, true, true, false, false, true, true, false, false], [5, 10]), ([true, true, true, true, false, false, true, true, true, true, true, true, true, false, false, false], [4, 13]), ([true, true, true, true, false, false, true, true, true, true, true, true, false, true, false, false], [4, 12]), ([true, true, true, true, false, false, true, true, true, true, true, false, true, true, false, false], [4, 11]), ([true, true, false, true, false, false, true, true, true, true, true, true, true, true, false, false], [2]), ([true, true, true, true, true, true, true, true, true, true, true, true, false, false, false, false], [12, 13]), ([true, true, true, true, true, true, true, true, true, true, true, false, true, false, false, false], [11, 13]), ([true, true, true, true, true, true, true, true, true, true, true, false, false, true, false, false], [11, 12]), ([true, true, true, true, true, true, true, true, true, true, false, false, true, true, false, false], [10, 14]), ([true, true, true, true, true, true, true, true, false, true, false, false, true, true, true, false], [8]), ([true, true, true, true, true, false, true, true, true, true, true, true, true, false, false, false], [5, 13]), ([true, true, true, true, true, false, true, true, true, true, true, true, false, true, false, false], [5, 12]), ([true, true, true, true, true, false, true, true, true, true, true, false, true, true, false, false], [5, 11]), ([true, true, true, true, false, false, true, true, true, true, true, true, true, true, false, false], [4]), ([true, true, true, true, true, true, true, true, true, true, true, true, true, false, false, false], [13]), ([true, true, true, true, true, true, true, true, true, true, true, true, false, true, false, false], [12]), ([true, true, true, true, true, true, true, true, true, true, true, false, true, true, false, false], [11, 14]), ([true, true, true, true, true, true, true, true, true, true, false, false, true, true, true, false], [10]), ([true, true, true, true, true, false, true, true, true, true, true, true, true, true, false, false], [5]), ([true, true, true, true, true, true, true, true, true, true, true, true, true, true, false, false], [14]), ([true, true, true, true, true, true, true, true, true, true, true, false, true, true, true, false], [11]), ([true, true, true, true, true, true, true, true, true, true, true, true, true, true, true, false], [15]), ([true, true, true, true, true, true, true, true, true, true, true, true, true, true, true, true], [])] (by kernel_rfl) (by rfl) ?_
  cbv
  (repeat' (first | apply And.intro | apply EqU.mk))
  all_goals (try trivial)
  all_goals (try (first | trivial | rfl))
  all_goals (try (exact ⟨⟨x0, x1⟩⟩))
  all_goals (try (exact ⟨⟨y0, y1⟩⟩))
  all_goals (try ((try simp only [IfP_iff, and_true, true_and, decide_eq_true_eq, decide_eq_false_iff_not]); (try simp only [natc, getI_gi, at2_0, at2_1]); (try dsimp only [Ty.den]); (try simp only [natc] at *); (repeat' (first | apply And.intro | intro _))))
  all_goals (repeat' (first | ((first | refine call_q (go_contains [(getI (.pr .int .int) l y).1, (getI (.pr .int .int) l y).2] _ h2) (by cbv) ?_ | refine call_pure (go_contains [(getI (.pr .int .int) l y).1, (getI (.pr .int .int) l y).2] _ h2) (by cbv) ?_); cbv; ((try simp only [IfP_iff, and_true, true_and, decide_eq_true_eq, decide_eq_false_iff_not]); (try simp only [natc, getI_gi, at2_0, at2_1]); (try dsimp only [Ty.den]); (try simp only [natc] at *); (repeat' (first | apply And.intro | intro _))))))
  all_goals (try (simp only [IfP_iff, EqU_iff, Obl_iff, and_true, true_and, inI_iff, decide_eq_true_eq, decide_eq_false_iff_not]; (try simp only [natc, getI_gi, at2_0, at2_1]); (try dsimp only [Ty.den]); try simp only [natc] at *))
  all_goals (try ((try simp only [IfP_iff, and_true, true_and, decide_eq_true_eq, decide_eq_false_iff_not]); (try simp only [natc, getI_gi, at2_0, at2_1]); (try dsimp only [Ty.den]); (try simp only [natc] at *); (repeat' (first | apply And.intro | intro _))))
  all_goals (try (simp only [IfP_iff, EqU_iff, Obl_iff, and_true, true_and, inI_iff, decide_eq_true_eq, decide_eq_false_iff_not]; (try simp only [natc, getI_gi, at2_0, at2_1]); (try dsimp only [Ty.den]); try simp only [natc] at *))
  all_goals ((repeat' (first | apply And.intro | intro _)) <;> first | omega | (simp only [List.length_append, List.length_cons, List.length_nil]; omega) | grind)
def allN (l : List (Int × Int)) : List Int := pref (fun _ => true) l.length
theorem im_numbersE (n : Int) (l : List (Int × Int)) (hl : l.length ≤ 1048576) : Spec2 Try.prog 84 [.agg (.pr .int (.sl (.pr .int .int))) fun _ => (n, l)] [] [.ref 0] [some (.row 3 .int fun _ => allN l)] := by
  have h1 : ((l.length : Int)).toNat = l.length := by omega
  have s1 : Spec2 Try.prog 85 [.int fun _ => (l.length : Int)] [] [.ref 0] [some (.row 3 .int fun _ => allN l)] := by
    have s2 := im_below (l.length : Int) (by omega) (by omega)
    rw [h1] at s2
    exact s2
  refine fnS [1] [2] Try.func84 rfl (by decide) rfl (by decide) (by kernel_rfl) rfl (by simp [Try.ntmps84]) ?_
  cbv
  repeat' (first | ((first | refine call_q s1 (by cbv) ?_ | refine call_pure s1 (by cbv) ?_); cbv; ((try simp only [IfP_iff, and_true, true_and, decide_eq_true_eq, decide_eq_false_iff_not]); (try simp only [natc, getI_gi, at2_0, at2_1]); (try dsimp only [Ty.den]); (try simp only [natc] at *); (repeat' (first | apply And.intro | intro _)))))
  all_goals (try (simp only [IfP_iff, EqU_iff, Obl_iff, and_true, true_and, inI_iff, decide_eq_true_eq, decide_eq_false_iff_not]; (try simp only [natc, getI_gi, at2_0, at2_1]); (try dsimp only [Ty.den]); try simp only [natc] at *))
end Go.Proofs.Ytjkmgdhndbdhoaa.M
/- Matchings: the program's test of a list, of any numbers of edges. -/
namespace Go.Proofs.Ytjkmgdhndbdhoaa.M
open Go.RowKit Abs
set_option linter.unusedSimpArgs false
set_option linter.unusedVariables false
set_option maxRecDepth 100000
set_option maxHeartbeats 4000000
theorem mem_allN {l : List (Int × Int)} {x : Int} : x ∈ allN l ↔ 0 ≤ x ∧ x < (l.length : Int) := by
  unfold allN
  rw [pref_mem]
  simp
theorem allN_len (l : List (Int × Int)) : (allN l).length ≤ l.length := by
  have := pref_len (p := fun _ : Int => true) (k := (l.length : Int)) (by omega)
  rw [show ((l.length : Int)).toNat = l.length by omega] at this
  unfold allN
  omega
theorem im_fittingE (n : Int) (l : List (Int × Int)) (s : List Int) (hl : l.length ≤ 1048576) (hs : s.length ≤ 1048576) (hx : ∀ x ∈ s, 0 ≤ x ∧ x < (l.length : Int)) : Spec2 Try.prog 81 [.ifr 54 fun _ => ofBound [.cells [.int fun _ => n, .sl (.pr .int .int) fun _ => l]], .sl .int fun _ => s] [] [.ref 0] [some (.row 3 .int fun _ => fitL (allN l) (edgeX l) s)] := by
  have hdl := allN_len l
  have hd : ∀ x ∈ allN l, 0 ≤ x ∧ x < (l.length : Int) := fun x h => mem_allN.1 h
  refine fnS [0] [4] Try.func81 rfl (by decide) rfl (by decide) (by kernel_rfl) rfl (by simp [Try.ntmps81]) ?_
  cbv
  refine scope0 0 rfl (by kernel_rfl) (by kernel_rfl) ?_
  cbv
  repeat' (first | ((first | refine call_iq (by kernel_rfl) rfl (im_numbersE n l hl) (by cbv) ?_ | refine call_i (by kernel_rfl) rfl (im_numbersE n l hl) (by cbv) ?_); cbv; ((try simp only [IfP_iff, and_true, true_and, decide_eq_true_eq, decide_eq_false_iff_not]); (try simp only [natc, getI_gi, at2_0, at2_1]); (try dsimp only [Ty.den]); (try simp only [natc] at *); (repeat' (first | apply And.intro | intro _)))))
  all_goals (try (simp only [IfP_iff, EqU_iff, Obl_iff, and_true, true_and, inI_iff, decide_eq_true_eq, decide_eq_false_iff_not]; (try simp only [natc, getI_gi, at2_0, at2_1]); (try dsimp only [Ty.den]); try simp only [natc] at *))
  refine loopP (by kernel_rfl) (fun k : Int => 0 ≤ k ∧ k ≤ (allN l).length) (fun k => [(14, .int fun _ => k), (5, .ref 0), (10, .junk), (7, .junk)]) (fun k => [(0, some (.row 3 .int fun _ => fitL ((allN l).take k.toNat) (edgeX l) s))]) (fun k => ((allN l).length - k).toNat) (· + 1) 0 (by omega) ?_ ?_
  · cbv
    (simp only [IfP_iff, EqU_iff, Obl_iff, and_true, true_and, inI_iff, decide_eq_true_eq, decide_eq_false_iff_not]; (try simp only [natc, getI_gi, at2_0, at2_1]); (try dsimp only [Ty.den]); try simp only [natc] at *)
    rfl
  · intro k hk
    have h1 := fun h => fit_next (nums := (allN l)) (l := s) (ex := edgeX l) (k := k) hk.1 h
    have h2 : (fitL ((allN l).take k.toNat) (edgeX l) s).length ≤ 1048576 := Nat.le_trans (fit_len _ _ _) (by rw [List.length_take]; omega)
    have h3 : ¬ k < ((allN l).length : Int) → fitL ((allN l).take k.toNat) (edgeX l) s = fitL (allN l) (edgeX l) s := fun h => by rw [List.take_of_length_le (by omega)]
    have h4 : k < ((allN l).length : Int) → 0 ≤ gi (allN l) k ∧ gi (allN l) k < (l.length : Int) := fun h => hd _ (gi_mem hk.1 h)
    generalize hq : s.all (fun y => !(decide (y = gi (allN l) k) || edgeX l y (gi (allN l) k))) = q at h1
    cbv
    ((try simp only [IfP_iff, and_true, true_and, decide_eq_true_eq, decide_eq_false_iff_not]); (try simp only [natc, getI_gi, at2_0, at2_1]); (try dsimp only [Ty.den]); (try simp only [natc] at *); (repeat' (first | apply And.intro | intro _)))
    all_goals (try ((simp only [IfP_iff, EqU_iff, Obl_iff, and_true, true_and, inI_iff, decide_eq_true_eq, decide_eq_false_iff_not]; (try simp only [natc, getI_gi, at2_0, at2_1]); (try dsimp only [Ty.den]); try simp only [natc] at *); done))
    all_goals (try ((simp only [IfP_iff, EqU_iff, Obl_iff, and_true, true_and, inI_iff, decide_eq_true_eq, decide_eq_false_iff_not]; (try simp only [natc, getI_gi, at2_0, at2_1]); (try dsimp only [Ty.den]); try simp only [natc] at *); (repeat' (first | apply And.intro | intro _)) <;> first | omega | exact h3 (by assumption)))
    have hk2 : k < ((allN l).length : Int) := by assumption
    have i1 := h1 hk2
    have i4 := h4 hk2
    generalize gi (allN l) k = x at *
    have f1 : q = true → fitL ((allN l).take k.toNat) (edgeX l) s ++ [x] = fitL ((allN l).take (k + 1).toNat) (edgeX l) s := fun h => by rw [i1, if_pos h]
    have f2 : q = false → fitL ((allN l).take k.toNat) (edgeX l) s = fitL ((allN l).take (k + 1).toNat) (edgeX l) s := fun h => by rw [i1, if_neg (by rw [h]; decide), List.append_nil]
    clear h1 h3 h4 i1 hd
    refine loopP (by kernel_rfl) (fun j : Int => 0 ≤ j ∧ j ≤ s.length ∧ offB (edgeX l) s x j.toNat = true) (fun j => [(20, .int fun _ => j)]) (fun j => []) (fun j => (s.length - j).toNat) (· + 1) 0 (by simp [offB]) ?_ ?_
    · cbv
      (simp only [IfP_iff, EqU_iff, Obl_iff, and_true, true_and, inI_iff, decide_eq_true_eq, decide_eq_false_iff_not]; (try simp only [natc, getI_gi, at2_0, at2_1]); (try dsimp only [Ty.den]); try simp only [natc] at *)
    · intro j hj
      have g0 := hj.1
      have g1 := hj.2.1
      have g2 : j < (s.length : Int) → gi s j ∈ s := fun h => gi_mem hj.1 h
      have g3 : j < (s.length : Int) → 0 ≤ gi s j ∧ gi s j < (l.length : Int) := fun h => hx _ (g2 h)
      have g4 : j < (s.length : Int) → gi s j = x → q = false := fun h e => by
        rw [← hq, List.all_eq_false]
        exact ⟨_, g2 h, by simp [e]⟩
      have g5 : j < (s.length : Int) → edgeX l (gi s j) x = true → q = false := fun h e => by
        rw [← hq, List.all_eq_false]
        exact ⟨_, g2 h, by simp [e]⟩
      have g6 : j < (s.length : Int) → ¬ gi s j = x → edgeX l (gi s j) x = false → offB (edgeX l) s x (j + 1).toNat = true := fun h e1 e2 => by
        have h7 := hj.2.2
        unfold offB at h7 ⊢
        rw [take_gi hj.1 h, List.all_append, h7]
        simp [e1, e2]
      have g7 : ¬ j < (s.length : Int) → q = true := fun h => by
        have h7 := hj.2.2
        unfold offB at h7
        rw [List.take_of_length_le (by omega)] at h7
        rw [← hq]
        exact h7
      clear hq hj hx g2
      cbv
      ((try simp only [IfP_iff, and_true, true_and, decide_eq_true_eq, decide_eq_false_iff_not]); (try simp only [natc, getI_gi, at2_0, at2_1]); (try dsimp only [Ty.den]); (try simp only [natc] at *); (repeat' (first | apply And.intro | intro _)))
      all_goals (repeat' (first | ((first | refine call_iq (by kernel_rfl) rfl (im_excludesE n l (gi s j) x hl (g3 (by assumption)).1 (g3 (by assumption)).2 i4.1 i4.2) (by cbv) ?_ | refine call_i (by kernel_rfl) rfl (im_excludesE n l (gi s j) x hl (g3 (by assumption)).1 (g3 (by assumption)).2 i4.1 i4.2) (by cbv) ?_); cbv; ((try simp only [IfP_iff, and_true, true_and, decide_eq_true_eq, decide_eq_false_iff_not]); (try simp only [natc, getI_gi, at2_0, at2_1]); (try dsimp only [Ty.den]); (try simp only [natc] at *); (repeat' (first | apply And.intro | intro _))))))
      all_goals (try ((try simp only [IfP_iff, and_true, true_and, decide_eq_true_eq, decide_eq_false_iff_not]); (try simp only [natc, getI_gi, at2_0, at2_1]); (try dsimp only [Ty.den]); (try simp only [natc] at *); (repeat' (first | apply And.intro | intro _))))
      all_goals (try (simp only [IfP_iff, EqU_iff, Obl_iff, and_true, true_and, inI_iff, decide_eq_true_eq, decide_eq_false_iff_not]; (try simp only [natc, getI_gi, at2_0, at2_1]); (try dsimp only [Ty.den]); try simp only [natc] at *))
      all_goals ((repeat' (first | apply And.intro | intro _)) <;> first | omega | (exact g6 (by assumption) (by assumption) (by assumption)) | (exact f1 (g7 (by assumption))) | (exact f2 (g4 (by assumption) (by assumption))) | (exact f2 (g5 (by assumption) (by assumption))) | (rw [List.length_cons, List.length_nil]; omega) | trace_state)
theorem fit_inE {l : List (Int × Int)} {s : List Int} {k : Int} (k0 : 0 ≤ k) (k1 : k ≤ s.length) (h : ∀ j : Int, 0 ≤ j → j < k → hasB (allN l) (gi s j) = true) : ∀ x ∈ subL s 0 k, 0 ≤ x ∧ x < (l.length : Int) := fun x hx => by
  rw [subL_take] at hx
  obtain ⟨j, j0, j1, e⟩ := mem_at hx
  rw [List.length_take] at j1
  have h1 := h j j0 (by omega)
  have e1 : gi s j = x := by
    rw [← e]
    show gi s j = gi (s.take k.toNat) j
    unfold gi
    rw [List.getD_eq_getElem?_getD, List.getD_eq_getElem?_getD, List.getElem?_take, if_pos (by omega)]
  rw [e1] at h1
  exact mem_allN.1 (hasB_iff.1 h1)
end Go.Proofs.Ytjkmgdhndbdhoaa.M
/- Matchings, pure: the specification's test and the program's are the same. -/
namespace Go.Proofs.Ytjkmgdhndbdhoaa.M
open Go.RowKit Abs
set_option linter.unusedSimpArgs false
set_option linter.unusedVariables false
set_option maxRecDepth 100000
set_option maxHeartbeats 4000000
/-- The ends of edges, one edge's behind the other's. -/
def endsL (l : List (Int × Int)) : List Int → List Int
  | [] => []
  | x :: r => (getI (.pr .int .int) l x).1 :: (getI (.pr .int .int) l x).2 :: endsL l r
theorem ends_app (l : List (Int × Int)) : ∀ a b : List Int, endsL l (a ++ b) = endsL l a ++ endsL l b
  | [], b => rfl
  | x :: a, b => by
    show _ :: _ :: endsL l (a ++ b) = _
    rw [ends_app l a b]
    rfl
theorem ends_next {l : List (Int × Int)} {s : List Int} {k : Int} (h0 : 0 ≤ k) (h1 : k < (s.length : Int)) : endsL l (s.take (k + 1).toNat) = endsL l (s.take k.toNat) ++ [(getI (.pr .int .int) l (gi s k)).1] ++ [(getI (.pr .int .int) l (gi s k)).2] := by
  rw [take_gi h0 h1, ends_app, List.append_assoc]
  rfl
theorem ends_len (l : List (Int × Int)) : ∀ s : List Int, (endsL l s).length = 2 * s.length
  | [] => rfl
  | x :: s => by
    have := ends_len l s
    unfold endsL
    simp only [List.length_cons]
    omega
theorem mem_ends {l : List (Int × Int)} {v : Int} : ∀ {s : List Int}, v ∈ endsL l s ↔ ∃ y ∈ s, v = (getI (.pr .int .int) l y).1 ∨ v = (getI (.pr .int .int) l y).2
  | [] => by simp [endsL]
  | x :: s => by
    unfold endsL
    rw [List.mem_cons, List.mem_cons, mem_ends (s := s)]
    simp only [List.mem_cons, exists_eq_or_imp]
    constructor
    · rintro (h | h | h)
      · exact .inl (.inl h)
      · exact .inl (.inr h)
      · exact .inr h
    · rintro ((h | h) | h)
      · exact .inl h
      · exact .inr (.inl h)
      · exact .inr (.inr h)
def inN (m x : Int) : Bool := decide (0 ≤ x) && decide (x ≤ m - 1)
def metB (l : List (Int × Int)) (s : List Int) (k : Int) : Bool := hasB (endsL l (s.take k.toNat)) (getI (.pr .int .int) l (gi s k)).1 || hasB (endsL l (s.take k.toNat)) (getI (.pr .int .int) l (gi s k)).2
/-- What the specification asks of the k-th edge of a matching. -/
def spM (l : List (Int × Int)) (s : List Int) (k : Int) : Bool := inN l.length (gi s k) && (decide (k ≤ 0) || decide (gi s (k - 1) < gi s k)) && !metB l s k
def matB (l : List (Int × Int)) (s : List Int) : Bool := fitB (allN l) (edgeX l) s
theorem met_iff (l : List (Int × Int)) (s : List Int) (k : Int) : metB l s k = (s.take k.toNat).any fun y => edgeX l y (gi s k) := by
  rw [Bool.eq_iff_iff]
  unfold metB
  simp only [Bool.or_eq_true, hasB_iff, mem_ends, List.any_eq_true]
  unfold edgeX
  simp only [Bool.or_eq_true, hasB_iff, List.mem_cons, List.not_mem_nil, or_false]
  constructor
  · rintro (⟨y, hy, h | h⟩ | ⟨y, hy, h | h⟩)
    · exact ⟨y, hy, .inl (.inl h.symm)⟩
    · exact ⟨y, hy, .inr (.inl h.symm)⟩
    · exact ⟨y, hy, .inl (.inr h.symm)⟩
    · exact ⟨y, hy, .inr (.inr h.symm)⟩
  · rintro ⟨y, hy, (h | h) | (h | h)⟩
    · exact .inl ⟨y, hy, .inl h.symm⟩
    · exact .inr ⟨y, hy, .inl h.symm⟩
    · exact .inl ⟨y, hy, .inr h.symm⟩
    · exact .inr ⟨y, hy, .inr h.symm⟩
theorem mat_spec (l : List (Int × Int)) (s : List Int) : allI s.length (spM l s) = matB l s := by
  unfold matB fitB
  rw [Bool.eq_iff_iff]
  simp only [Bool.and_eq_true]
  constructor
  · intro h1
    have hinc : incB s = true := by
      refine allI_good fun k k0 k1 => ?_
      have := allI_get h1 k0 k1
      unfold spM at this
      simp only [Bool.and_eq_true] at this
      exact this.1.2
    refine ⟨allI_good fun k k0 k1 => ?_, hinc⟩
    have h3 := allI_get h1 k0 k1
    unfold spM at h3
    simp only [Bool.and_eq_true] at h3
    have hin := h3.1.1
    unfold inN at hin
    simp only [Bool.and_eq_true, decide_eq_true_eq] at hin
    have hm := h3.2
    rw [met_iff, Bool.not_eq_true', List.any_eq_false] at hm
    unfold fitOk
    rw [hasB_iff, fit_mem]
    refine ⟨mem_allN.2 ⟨hin.1, by omega⟩, fun y hy => ⟨?_, by simpa using hm y hy⟩⟩
    obtain ⟨i, hi, e⟩ := List.getElem_of_mem hy
    rw [List.getElem_take] at e
    rw [List.length_take] at hi
    have hi2 : (i : Int) < k := by omega
    have h4 := inc_lt hinc (a := i) (by omega) (d := (k - i - 1).toNat) (by omega)
    rw [show (i : Int) + ((k - i - 1).toNat : Int) + 1 = k by omega] at h4
    have e2 : gi s i = y := by
      rw [← e]
      unfold gi
      rw [show ((i : Int)).toNat = i by omega, List.getD_eq_getElem?_getD, List.getElem?_eq_getElem (by omega)]
      rfl
    rw [e2] at h4
    exact Int.ne_of_lt h4
  · rintro ⟨h1, hinc⟩
    refine allI_good fun k k0 k1 => ?_
    have h3 := allI_get h1 k0 k1
    unfold fitOk at h3
    rw [hasB_iff, fit_mem] at h3
    have h4 := allI_get hinc k0 k1
    have h5 := mem_allN.1 h3.1
    unfold spM
    simp only [Bool.and_eq_true]
    refine ⟨⟨by unfold inN; simp only [Bool.and_eq_true, decide_eq_true_eq]; omega, h4⟩, ?_⟩
    rw [met_iff, Bool.not_eq_true', List.any_eq_false]
    intro y hy
    have := (h3.2 y hy).2
    simp [this]
end Go.Proofs.Ytjkmgdhndbdhoaa.M
/- Matchings: the specification. -/
namespace Go.Proofs.Ytjkmgdhndbdhoaa.M
open Go.RowKit Abs
set_option linter.unusedSimpArgs false
set_option linter.unusedVariables false
set_option maxRecDepth 100000
set_option maxHeartbeats 4000000
theorem pw_len : ∀ (s : List Int) (a b : Int), a ≤ b → s.Pairwise (· < ·) → (∀ x ∈ s, a ≤ x ∧ x < b) → (s.length : Int) ≤ b - a
  | [], a, b, h, _, _ => by simp only [List.length_nil]; omega
  | x :: s, a, b, h, hp, hx => by
    have h1 := hx x (by simp)
    have h2 := List.pairwise_cons.1 hp
    have := pw_len s (x + 1) b (by omega) h2.2 fun y hy => by
      have k1 := h2.1 y hy
      have k2 := hx y (by simp [hy])
      omega
    simp only [List.length_cons]
    omega
theorem graph_len {n : Int} {l : List (Int × Int)} (h : graphOk n l = true) : l.length ≤ 64 := by
  obtain ⟨⟨g0, g1⟩, g2, g3⟩ := graph_edges h
  have h1 := pw_len (l.map fun e => 8 * e.1 + e.2) 0 64 (by omega) ?_ ?_
  · rw [List.length_map] at h1; omega
  · rw [List.pairwise_map]
    refine List.Pairwise.imp_of_mem (fun {p q} hp hq hlt => ?_) g3
    have k1 := g2 p hp
    have k2 := g2 q hq
    unfold edgeLt at hlt
    simp only [Bool.or_eq_true, Bool.and_eq_true, decide_eq_true_eq, beq_iff_eq] at hlt
    omega
  · intro x hx
    obtain ⟨e, he, rfl⟩ := List.mem_map.1 hx
    have := g2 e he
    omega
theorem spM_ge {l : List (Int × Int)} {s : List Int} {k : Int} (h : ∀ j : Int, 0 ≤ j → j < k → spM l s j = true) : ∀ j : Nat, (j : Int) < k → (j : Int) ≤ gi s j
  | 0, hj => by
    have h1 := h 0 (by omega) (by omega)
    unfold spM inN at h1
    simp only [Bool.and_eq_true, decide_eq_true_eq] at h1
    exact h1.1.1.1
  | j + 1, hj => by
    have h0 := spM_ge h j (by omega)
    have h1 := h (j + 1 : Nat) (by omega) hj
    unfold spM at h1
    simp only [Bool.and_eq_true, Bool.or_eq_true, decide_eq_true_eq] at h1
    have h2 := h1.1.2
    rw [show ((j + 1 : Nat) : Int) - 1 = (j : Int) by omega] at h2
    omega
theorem spM_le {l : List (Int × Int)} {s : List Int} {k : Int} (k0 : 0 ≤ k) (h : ∀ j : Int, 0 ≤ j → j < k → spM l s j = true) : k ≤ l.length := by
  by_cases hk : k = 0
  · omega
  · have h1 := spM_ge h (k - 1).toNat (by omega)
    have h2 := h (k - 1) (by omega) (by omega)
    unfold spM inN at h2
    simp only [Bool.and_eq_true, decide_eq_true_eq] at h2
    have h3 := h2.1.1.2
    rw [show (((k - 1).toNat : Nat) : Int) = k - 1 by omega] at h1
    omega
theorem sp_matches (n : Int) (l : List (Int × Int)) (s : List Int) (hl : l.length ≤ 1048576) (hs : s.length ≤ 1048576) (hg : graphOk n l = true) : Spec2 Try.prog 46 [.agg (.pr .int (.sl (.pr .int .int))) fun _ => (n, l), .sl .int fun _ => s] [] [.bool fun _ => matB l s] [] := by
  have hgl := graph_len hg
  have hts := mat_spec l s
  generalize matB l s = mb at hts ⊢
  refine fnE [7, 10] [] [4] Try.func46 rfl (by decide) rfl (by decide) (by kernel_rfl) rfl (by simp [Try.ntmps46]) ?_
  cbv
  refine loopXE [7, 10] (by kernel_rfl) (fun k : Int => 0 ≤ k ∧ k ≤ s.length ∧ ∀ j : Int, 0 ≤ j → j < k → spM l s j = true) (fun k => [(6, .int fun _ => k), (5, .ref 1), (7, .junk), (8, .junk)]) (fun k => [(1, some (.row 3 .int fun _ => endsL l (s.take k.toNat)))]) (fun k => (s.length - k).toNat) (· + 1) 0 (by refine ⟨by omega, by omega, fun j a b => absurd b (by omega)⟩) ?_ ?_
  · cbv
    (simp only [IfP_iff, EqU_iff, Obl_iff, and_true, true_and, inI_iff, decide_eq_true_eq, decide_eq_false_iff_not]; (try simp only [natc, getI_gi, at2_0, at2_1]); (try dsimp only [Ty.den]); try simp only [natc] at *)
    rfl
  · intro k hk
    have g0 := hk.1
    have g1 := hk.2.1
    have g2 := spM_le hk.1 hk.2.2
    have g3 : (endsL l (s.take k.toNat)).length ≤ 1000 := by rw [ends_len, List.length_take]; omega
    have g4 : (endsL l (s.take k.toNat)).length ≤ 1048576 := by omega
    have bad : k < (s.length : Int) → spM l s k = false → false = mb := fun h hb => by
      rw [← hts, allI_bad hk.1 h hb]
    have fin : ¬ k < (s.length : Int) → true = mb := fun h => by
      rw [← hts, allI_good fun j j0 j1 => hk.2.2 j j0 (by omega)]
    have e1 : spM l s k = (inN l.length (gi s k) && (decide (k ≤ 0) || decide (gi s (k - 1) < gi s k)) && !(hasB (endsL l (s.take k.toNat)) (getI (.pr .int .int) l (gi s k)).1 || hasB (endsL l (s.take k.toNat)) (getI (.pr .int .int) l (gi s k)).2)) := rfl
    have b1 : k < (s.length : Int) → (!(decide (0 ≤ gi s k) && decide (gi s k ≤ (l.length : Int) - 1))) = true → false = mb := fun h hb => bad h (by
      rw [e1, show inN l.length (gi s k) = false by unfold inN; simpa only [Bool.not_eq_true'] using hb]; rfl)
    have a1 : (!(decide (0 ≤ gi s k) && decide (gi s k ≤ (l.length : Int) - 1))) = false → 0 ≤ gi s k ∧ gi s k < (l.length : Int) := fun h => by
      simp only [Bool.not_eq_false', Bool.and_eq_true, decide_eq_true_eq] at h
      omega
    have b2 : k < (s.length : Int) → 0 < k → gi s k ≤ gi s (k - 1) → false = mb := fun h ha hb => bad h (by
      rw [e1, decide_eq_false (show ¬ k ≤ 0 by omega), decide_eq_false (show ¬ gi s (k - 1) < gi s k from Int.not_lt.2 hb)]; simp)
    have b3 : k < (s.length : Int) → hasB (endsL l (s.take k.toNat)) (getI (.pr .int .int) l (gi s k)).1 = true → false = mb := fun h hb => bad h (by
      rw [e1, hb]; simp)
    have b4 : k < (s.length : Int) → hasB (endsL l (s.take k.toNat)) (getI (.pr .int .int) l (gi s k)).2 = true → false = mb := fun h hb => bad h (by
      rw [e1, hb]; simp)
    have ok : (!(decide (0 ≤ gi s k) && decide (gi s k ≤ (l.length : Int) - 1))) = false → (¬ 0 < k ∨ ¬ gi s k ≤ gi s (k - 1)) → hasB (endsL l (s.take k.toNat)) (getI (.pr .int .int) l (gi s k)).1 = false → hasB (endsL l (s.take k.toNat)) (getI (.pr .int .int) l (gi s k)).2 = false → ∀ j : Int, 0 ≤ j → j < k + 1 → spM l s j = true := fun h1 h2 h3 h4 => upTo hk.2.2 (by
      have h5 := a1 h1
      rw [e1, h3, h4]
      unfold inN
      rw [decide_eq_true h5.1, decide_eq_true (show gi s k ≤ (l.length : Int) - 1 by omega)]
      rcases h2 with h2 | h2
      · rw [decide_eq_true (show k ≤ 0 by omega)]; rfl
      · rw [decide_eq_true (show gi s (k - 1) < gi s k from Int.not_le.1 h2), Bool.or_true]; rfl)
    have nx : k < (s.length : Int) → endsL l (s.take k.toNat) ++ [(getI (.pr .int .int) l (gi s k)).1] ++ [(getI (.pr .int .int) l (gi s k)).2] = endsL l (s.take (k + 1).toNat) := fun h => (ends_next hk.1 h).symm
    clear hk bad e1 hts
    cbv
    ((try simp only [IfP_iff, and_true, true_and, decide_eq_true_eq, decide_eq_false_iff_not]); (try simp only [natc, getI_gi, at2_0, at2_1]); (try dsimp only [Ty.den]); (try simp only [natc] at *); (repeat' (first | apply And.intro | intro _)))
    all_goals (repeat' (first | ((first | refine call_q (sp_in _ _ _) (by cbv) ?_ | refine call_pure (sp_in _ _ _) (by cbv) ?_); cbv; ((try simp only [IfP_iff, and_true, true_and, decide_eq_true_eq, decide_eq_false_iff_not]); (try simp only [natc, getI_gi, at2_0, at2_1]); (try dsimp only [Ty.den]); (try simp only [natc] at *); (repeat' (first | apply And.intro | intro _))))))
    all_goals (try ((try simp only [IfP_iff, and_true, true_and, decide_eq_true_eq, decide_eq_false_iff_not]); (try simp only [natc, getI_gi, at2_0, at2_1]); (try dsimp only [Ty.den]); (try simp only [natc] at *); (repeat' (first | apply And.intro | intro _))))
    all_goals (try (refine DrawL.layersS [] [2, 3] (fun _ _ => none) [([false, false, true, true, false, false, false, false, false, false], [0, 4, 8]), ([true, false, true, true, false, false, false, false, false, false], [1, 4, 8]), ([false, false, true, true, true, false, false, false, false, false], [0, 5, 8]), ([false, false, true, true, false, false, false, false, true, false], [0, 4]), ([true, true, true, true, false, false, false, false, false, false], [4, 8]), ([true, false, true, true, true, false, false, false, false, false], [1, 5, 8]), ([true, false, true, true, false, false, false, false, true, false], [1, 4]), ([false, false, true, true, true, true, false, false, false, false], [0, 8]), ([false, false, true, true, true, false, false, false, true, false], [0, 5]), ([true, true, true, true, true, false, false, false, false, false], [5, 8]), ([true, true, true, true, false, false, false, false, true, false], [4]), ([true, false, true, true, true, true, false, false, false, false], [1, 8]), ([true, false, true, true, true, false, false, false, true, false], [1, 5]), ([false, false, true, true, true, true, false, false, true, false], [0]), ([true, true, true, true, true, true, false, false, false, false], [6, 8]), ([true, true, true, true, true, false, false, false, true, false], [5]), ([true, false, true, true, true, true, false, false, true, false], [1]), ([true, true, true, true, true, true, true, false, false, false], [7, 8]), ([true, true, true, true, true, true, false, false, true, false], [6]), ([true, true, true, true, true, true, true, true, false, false], [8]), ([true, true, true, true, true, true, true, false, true, false], [7]), ([true, true, true, true, true, true, true, true, true, false], [9]), ([true, true, true, true, true, true, true, true, true, true], [])] (by kernel_rfl) (by rfl) ?_))
    all_goals (try (cbv; (repeat' (first | apply And.intro | apply EqU.mk)); all_goals (try (first | trivial | rfl))))
    all_goals (repeat' (first | ((first | refine call_q (sp_has (endsL l (s.take k.toNat)) _ g4) (by cbv) ?_ | refine call_pure (sp_has (endsL l (s.take k.toNat)) _ g4) (by cbv) ?_); cbv; ((try simp only [IfP_iff, and_true, true_and, decide_eq_true_eq, decide_eq_false_iff_not]); (try simp only [natc, getI_gi, at2_0, at2_1]); (try dsimp only [Ty.den]); (try simp only [natc] at *); (repeat' (first | apply And.intro | intro _))))))
    all_goals (try ((try simp only [IfP_iff, and_true, true_and, decide_eq_true_eq, decide_eq_false_iff_not]); (try simp only [natc, getI_gi, at2_0, at2_1]); (try dsimp only [Ty.den]); (try simp only [natc] at *); (repeat' (first | apply And.intro | intro _))))
    all_goals (try (refine DrawL.layersS [] [0] (fun l i => if ((i == 3) && l.getD 7 false) = true then some [0, 1, 2, 4, 3] else none) [([true, false, false, false, false, false, false, false, false, false], [1, 5]), ([true, true, false, false, false, false, false, false, false, false], [2, 5]), ([true, false, false, false, false, true, false, false, false, false], [1, 6]), ([true, true, true, false, false, false, false, false, false, false], [3, 5]), ([true, true, false, false, false, true, false, false, false, false], [2, 6]), ([true, false, false, false, false, true, true, false, false, false], [1, 7]), ([true, true, true, true, false, false, false, false, false, false], [4, 5]), ([true, true, true, false, false, true, false, false, false, false], [3, 6]), ([true, true, false, false, false, true, true, false, false, false], [2, 7]), ([true, false, false, false, false, true, true, true, false, false], [1]), ([true, true, true, true, true, false, false, false, false, false], [5]), ([true, true, true, true, false, true, false, false, false, false], [4, 6]), ([true, true, true, false, false, true, true, false, false, false], [3, 7]), ([true, true, false, false, false, true, true, true, false, false], [2]), ([true, true, true, true, true, true, false, false, false, false], [6]), ([true, true, true, true, false, true, true, false, false, false], [4, 7]), ([true, true, true, false, false, true, true, true, false, false], [3]), ([true, true, true, true, true, true, true, false, false, false], [7]), ([true, true, true, true, false, true, true, true, false, false], [4]), ([true, true, true, true, true, true, true, true, false, false], [8]), ([true, true, true, true, true, true, true, true, true, false], [9]), ([true, true, true, true, true, true, true, true, true, true], [])] (by kernel_rfl) (by rfl) ?_))
    all_goals (try (cbv; (repeat' (first | apply And.intro | apply EqU.mk)); all_goals (try (first | trivial | rfl))))
    all_goals (first
      | (refine RenL.mk ⟨[0, 1], ?_⟩
         cbv
         (simp only [IfP_iff, EqU_iff, Obl_iff, and_true, true_and, inI_iff, decide_eq_true_eq, decide_eq_false_iff_not]; (try simp only [natc, getI_gi, at2_0, at2_1]); (try dsimp only [Ty.den]); try simp only [natc] at *)
         exact nx (by assumption))
      | ((simp only [IfP_iff, EqU_iff, Obl_iff, and_true, true_and, inI_iff, decide_eq_true_eq, decide_eq_false_iff_not]; (try simp only [natc, getI_gi, at2_0, at2_1]); (try dsimp only [Ty.den]); try simp only [natc] at *); done)
      | ((try (simp only [IfP_iff, EqU_iff, Obl_iff, and_true, true_and, inI_iff, decide_eq_true_eq, decide_eq_false_iff_not]; (try simp only [natc, getI_gi, at2_0, at2_1]); (try dsimp only [Ty.den]); try simp only [natc] at *))
         (repeat' (first | apply And.intro | intro _)) <;> first | omega | (exact b1 (by assumption) (by assumption)) | (exact b2 (by assumption) (by assumption) (by assumption)) | (exact b3 (by assumption) (by assumption)) | (exact b4 (by assumption) (by assumption)) | (exact ok (by assumption) (.inl (by assumption)) (by assumption) (by assumption) _ (by omega) (by omega)) | (exact ok (by assumption) (.inr (by assumption)) (by assumption) (by assumption) _ (by omega) (by omega)) | (exact fin (by assumption)) | (exact nx (by assumption)) | (exact (a1 (by assumption)).1) | (exact (a1 (by assumption)).2) | (exact a1 (by assumption)) | (simp only [List.length_append, List.length_cons, List.length_nil]; omega) | trace_state)
      | trace_state)
end Go.Proofs.Ytjkmgdhndbdhoaa.M
