/- TokenSpace: the program, whole. -/
import Derived.Test.YtoejmijcikehdaaWiQ
import Derived.Test.YtoejmijcikehdaaQg
namespace Go.Proofs.Ytoejmijcikehdaa.M
open Go.RowKit Abs
set_option linter.unusedSimpArgs false
set_option linter.unusedVariables false
set_option maxRecDepth 100000
set_option maxHeartbeats 4000000
theorem EndG.viaV {k : Nat} {rs : List RK} {res : List AV} {post : Hp} {e : AX} {S S' : AS} (hv : ∀ w0 B hd a w val, Rl w0 B hd S a w val → ∃ val', Rl w0 B hd S' a w val') (h : EndG k rs res post e S') : EndG k rs res post e S :=
  ⟨h.out.1, fun w0 B hd a w val hR => by
    obtain ⟨val', hR'⟩ := hv w0 B hd a w val hR
    exact h.out.2 w0 B hd a w val' hR'⟩
theorem im_tokenSpace (n : Int) (l : List (Int × Int)) (hl : l.length ≤ 1048576) : Spec2 Try.prog 48 [.agg (.pr .int (.sl (.pr .int .int))) fun _ => (n, l)] [] [.cells [.ref 0, .ref 1], .bool fun _ => tspB n l] [some (.rows 22 3 .int fun _ => tspG n l), some (.row 66 (.pr .int .int) fun _ => tspQ n l)] := by
  have hq := im_graph n l hl
  cases hp : tspB n l with
  | false =>
    have h8 : tspG n l = [] := by unfold tspG; rw [hp, if_neg (by decide)]
    have h9 : tspQ n l = [] := by unfold tspQ; rw [h8]; rfl
    have z : (!graphOk n l) = false → ¬ 5 < n → False := fun a b => by
      unfold tspB at hp
      rw [show graphOk n l = true by simpa using a, decide_eq_true (by omega)] at hp
      cases hp
    rw [h9, h8]
    refine fnG [.cst 2 2 58, .tmp 3] Try.func48 rfl (by decide) rfl (by kernel_rfl) (.inr (.inl rfl)) (by kernel_rfl) (Nat.zero_le _) (by simp [Try.ntmps48]) ?_
    cbv
    ((try simp only [IfP_iff, and_true, true_and, decide_eq_true_eq, decide_eq_false_iff_not]); (try simp only [natc, getI_gi, at2_0, at2_1]); (try dsimp only [Ty.den]); (try simp only [natc] at *); (repeat' (first | apply And.intro | intro _)))
    all_goals (repeat' (first | ((first | refine call_q hq (by cbv) ?_ | refine call_pure hq (by cbv) ?_); cbv; ((try simp only [IfP_iff, and_true, true_and, decide_eq_true_eq, decide_eq_false_iff_not]); (try simp only [natc, getI_gi, at2_0, at2_1]); (try dsimp only [Ty.den]); (try simp only [natc] at *); (repeat' (first | apply And.intro | intro _))))))
    all_goals (try (exact (z (by assumption) (by assumption)).elim))
    all_goals (refine EndG.viaV (fun w0 B hd a w val hR => hR.nilR 22 3 .int [.box 1 0]) ?_)
    all_goals (refine EndG.nil 66 (.pr .int .int) [.box 1 1] [2, 3] ?_)
    all_goals cbv
    all_goals (try (simp only [IfP_iff, EqU_iff, Obl_iff, and_true, true_and, inI_iff, decide_eq_true_eq, decide_eq_false_iff_not]; (try simp only [natc, getI_gi, at2_0, at2_1]); (try dsimp only [Ty.den]); try simp only [natc] at *))
  | true =>
    have hpb := hp
    unfold tspB at hpb
    simp only [Bool.and_eq_true, decide_eq_true_eq] at hpb
    have hn := (graph_edges hpb.1).1
    have s1 := im_grownO n hn.1 hpb.2 n.toNat [] (by simp only [List.length_nil]; omega)
    rw [show grv n n.toNat [] = tspG n l by unfold tspG; rw [hp, if_pos rfl]] at s1
    have hlen := tsp_len n l
    have s2 := im_spaceWhere (tspG n l) 83 (fun _ => ofCaps [.ibox [.int fun _ => n, .sl (.pr .int .int) fun _ => l] 0]) (fun i j => difB l (getR .int (tspG n l) i) (getR .int (tspG n l) j)) (by omega) fun i j i0 i1 j0 j1 => ⟨[.ibox [.int fun _ => n, .sl (.pr .int .int) fun _ => l] 0], rfl, fun _ => rfl, im_token1 n l _ _ hl hpb.1 (by have := tsp_row i0 i1; omega) (by have := tsp_row i0 i1; have := tsp_row j0 j1; omega)⟩
    rw [show wTo (fun i j => difB l (getR .int (tspG n l) i) (getR .int (tspG n l) j)) (tspG n l).length (tspG n l).length = tspQ n l from rfl] at s2
    have z1 : (!graphOk n l) = true → False := fun a => by rw [hpb.1] at a; cases a
    have z2 : 5 < n → False := fun a => by omega
    generalize tspQ n l = Q at *
    generalize tspG n l = R at *
    refine fnG [.cst 2 2 58, .tmp 3] Try.func48 rfl (by decide) rfl (by kernel_rfl) (.inr (.inl rfl)) (by kernel_rfl) (Nat.zero_le _) (by simp [Try.ntmps48]) ?_
    cbv
    ((try simp only [IfP_iff, and_true, true_and, decide_eq_true_eq, decide_eq_false_iff_not]); (try simp only [natc, getI_gi, at2_0, at2_1]); (try dsimp only [Ty.den]); (try simp only [natc] at *); (repeat' (first | apply And.intro | intro _)))
    all_goals (repeat' (first | ((first | refine call_q hq (by cbv) ?_ | refine call_pure hq (by cbv) ?_); cbv; ((try simp only [IfP_iff, and_true, true_and, decide_eq_true_eq, decide_eq_false_iff_not]); (try simp only [natc, getI_gi, at2_0, at2_1]); (try dsimp only [Ty.den]); (try simp only [natc] at *); (repeat' (first | apply And.intro | intro _))))))
    all_goals (try (exact (z1 (by assumption)).elim))
    all_goals (try (exact (z2 (by assumption)).elim))
    refine call_own 2 s1 (by cbv) (by exact ⟨.inl rfl, .inr ⟨rfl, rfl⟩, .inl rfl, trivial⟩) ?_
    cbv
    refine call_own 4 s2 (by cbv) (by exact ⟨.inr ⟨rfl, rfl⟩, .inl rfl, trivial⟩) ?_
    cbv
    refine EndG.plain [4, 5] ?_
    cbv
    all_goals (try (simp only [IfP_iff, EqU_iff, Obl_iff, and_true, true_and, inI_iff, decide_eq_true_eq, decide_eq_false_iff_not]; (try simp only [natc, getI_gi, at2_0, at2_1]); (try dsimp only [Ty.den]); try simp only [natc] at *))
end Go.Proofs.Ytoejmijcikehdaa.M
