/- Polygon spaces: the program. -/
import Derived.Test.YtlfdimhnielleaaQjVPolygonSpace
import Derived.Test.YtlfdimhnielleaaJgQVPolygonSpace
import Derived.Test.YtlfdimhnielleaaJhQVPolygonSpace
import Derived.Test.YtlfdimhnielleaaNrQVPolygonSpace
import Derived.Test.YtlfdimhnielleaaNqQVPolygonSpace
import Derived.Test.YtlfdimhnielleaaQgVPolygonSpace
namespace Go.Proofs.Ytlfdimhnielleaa.M
open Go.RowKit Abs
set_option linter.unusedSimpArgs false
set_option linter.unusedVariables false
set_option maxRecDepth 100000
set_option maxHeartbeats 4000000
theorem EndG.via {k : Nat} {rs : List RK} {res : List AV} {post : Hp} {e : AX} {S S' : AS} (hv : ∀ w0 B hd a w val, Rl w0 B hd S a w val → ∃ val', Rl w0 B hd S' a w val') (h : EndG k rs res post e S') : EndG k rs res post e S :=
  ⟨h.out.1, fun w0 B hd a w val hR => by
    obtain ⟨val', hR'⟩ := hv w0 B hd a w val hR
    exact h.out.2 w0 B hd a w val' hR'⟩
theorem im_fitLists (n k : Int) (n0 : 3 ≤ n) (n1 : n ≤ 8) (hk : k = n - 3) : Spec2 Try.prog 32 [.ifr 59 fun _ => ofBound [.cells [.int fun _ => n]], .int fun _ => k] [] [.ref 0] [some (.rows 40 3 .int fun _ => gro n (n - 3).toNat [])] := by
  have sg := im_grown n n0 n1 (n - 3).toNat [] k (by simp only [List.length_nil]; omega) (by omega) (by simp)
  generalize gro n (n - 3).toNat [] = G at *
  refine fnS [2] [4] Try.func32 rfl (by decide) rfl (by decide) (by kernel_rfl) rfl (by simp [Try.ntmps32]) ?_
  cbv
  refine call_own 0 sg (by cbv) (by exact ⟨.inl rfl, .inr ⟨rfl, rfl⟩, .inl rfl, trivial⟩) ?_
  cbv
  all_goals (try (simp only [IfP_iff, EqU_iff, Obl_iff, and_true, true_and, inI_iff, decide_eq_true_eq, decide_eq_false_iff_not]; (try simp only [natc, getI_gi, at2_0, at2_1]); (try dsimp only [Ty.den]); try simp only [natc] at *))
def polG (n : Int) : List (List Int) := if polyB n = true then gro n (n - 3).toNat [] else []
def polQ (n : Int) : List (Int × Int) := wTo (fun i j => jmpB (getR .int (polG n) i) (getR .int (polG n) j)) (polG n).length (polG n).length
theorem im_polySpace (n : Int) (hb : (polG n).length ≤ 40000) (hr : ∀ k : Int, 0 ≤ k → k < (polG n).length → (getR .int (polG n) k).length ≤ 1048576) : Spec2 Try.prog 8 [.int fun _ => n] [] [.cells [.ref 0, .ref 1], .bool fun _ => polyB n] [some (.rows 40 3 .int fun _ => polG n), some (.row 85 (.pr .int .int) fun _ => polQ n)] := by
  by_cases hp : polyB n = true
  case neg =>
    have h8 : polG n = [] := by unfold polG; rw [if_neg hp]
    have h9 : polQ n = [] := by unfold polQ; rw [h8]; rfl
    rw [Bool.not_eq_true] at hp
    rw [hp, h9, h8]
    refine fnG [.cst 2 2 25, .tmp 3] Try.func8 rfl (by decide) rfl (by kernel_rfl) (.inr (.inl rfl)) (by kernel_rfl) (Nat.zero_le _) (by simp [Try.ntmps8]) ?_
    cbv
    repeat' (first | ((first | refine call_q (im_polygon n) (by cbv) ?_ | refine call_pure (im_polygon n) (by cbv) ?_); cbv; ((try simp only [IfP_iff, and_true, true_and, decide_eq_true_eq, decide_eq_false_iff_not]); (try simp only [natc, getI_gi, at2_0, at2_1]); (try dsimp only [Ty.den]); (try simp only [natc] at *); (repeat' (first | apply And.intro | intro _)))))
    all_goals (try (simp only [IfP_iff, EqU_iff, Obl_iff, and_true, true_and, inI_iff, decide_eq_true_eq, decide_eq_false_iff_not]; (try simp only [natc, getI_gi, at2_0, at2_1]); (try dsimp only [Ty.den]); try simp only [natc] at *))
    ((try simp only [IfP_iff, and_true, true_and, decide_eq_true_eq, decide_eq_false_iff_not]); (try simp only [natc, getI_gi, at2_0, at2_1]); (try dsimp only [Ty.den]); (try simp only [natc] at *); (repeat' (first | apply And.intro | intro _)))
    all_goals (try (exact absurd (by assumption : (!polyB n) = false) (by rw [hp]; decide)))
    all_goals (refine EndG.via (fun w0 B hd a w val hR => hR.nilR 40 3 .int [.box 0 0]) ?_)
    all_goals (refine EndG.nil 85 (.pr .int .int) [.box 0 1] [1, 2] ?_)
    all_goals cbv
    all_goals (try (simp only [IfP_iff, EqU_iff, Obl_iff, and_true, true_and, inI_iff, decide_eq_true_eq, decide_eq_false_iff_not]; (try simp only [natc, getI_gi, at2_0, at2_1]); (try dsimp only [Ty.den]); try simp only [natc] at *))
  have h8 : gro n (n - 3).toNat [] = polG n := by unfold polG; rw [if_pos hp]
  have h9 := hp
  unfold polyB at h9
  simp only [Bool.and_eq_true, decide_eq_true_eq] at h9
  have s1 := im_fitLists n (n - 3) h9.1 h9.2 rfl
  rw [h8] at s1
  have s2 := im_spaceWhere (polG n) 33 (fun _ => ofCaps []) (fun i j => jmpB (getR .int (polG n) i) (getR .int (polG n) j)) hb fun i j i0 i1 j0 j1 => ⟨[], rfl, fun _ => rfl, im_jump _ _ (hr i i0 i1) (hr j j0 j1)⟩
  rw [show wTo (fun i j => jmpB (getR .int (polG n) i) (getR .int (polG n) j)) (polG n).length (polG n).length = polQ n from rfl] at s2
  rw [hp]
  generalize polQ n = Q at *
  generalize polG n = R at *
  refine fnG [.cst 2 2 25, .tmp 3] Try.func8 rfl (by decide) rfl (by kernel_rfl) (.inr (.inl rfl)) (by kernel_rfl) (Nat.zero_le _) (by simp [Try.ntmps8]) ?_
  cbv
  repeat' (first | ((first | refine call_q (im_polygon n) (by cbv) ?_ | refine call_pure (im_polygon n) (by cbv) ?_); cbv; ((try simp only [IfP_iff, and_true, true_and, decide_eq_true_eq, decide_eq_false_iff_not]); (try simp only [natc, getI_gi, at2_0, at2_1]); (try dsimp only [Ty.den]); (try simp only [natc] at *); (repeat' (first | apply And.intro | intro _)))))
  all_goals (try (simp only [IfP_iff, EqU_iff, Obl_iff, and_true, true_and, inI_iff, decide_eq_true_eq, decide_eq_false_iff_not]; (try simp only [natc, getI_gi, at2_0, at2_1]); (try dsimp only [Ty.den]); try simp only [natc] at *))
  ((try simp only [IfP_iff, and_true, true_and, decide_eq_true_eq, decide_eq_false_iff_not]); (try simp only [natc, getI_gi, at2_0, at2_1]); (try dsimp only [Ty.den]); (try simp only [natc] at *); (repeat' (first | apply And.intro | intro _)))
  all_goals (try (exact absurd (by assumption : (!polyB n) = true) (by rw [hp]; decide)))
  all_goals (try omega)
  ((first | refine call_q s1 (by cbv) ?_ | refine call_pure s1 (by cbv) ?_); cbv; ((try simp only [IfP_iff, and_true, true_and, decide_eq_true_eq, decide_eq_false_iff_not]); (try simp only [natc, getI_gi, at2_0, at2_1]); (try dsimp only [Ty.den]); (try simp only [natc] at *); (repeat' (first | apply And.intro | intro _))))
  refine call_own 1 s2 (by cbv) (by exact ⟨.inr ⟨rfl, rfl⟩, .inl rfl, trivial⟩) ?_
  cbv
  refine EndG.plain [1, 2] ?_
  cbv
  all_goals (try (simp only [IfP_iff, EqU_iff, Obl_iff, and_true, true_and, inI_iff, decide_eq_true_eq, decide_eq_false_iff_not]; (try simp only [natc, getI_gi, at2_0, at2_1]); (try dsimp only [Ty.den]); try simp only [natc] at *))
end Go.Proofs.Ytlfdimhnielleaa.M
