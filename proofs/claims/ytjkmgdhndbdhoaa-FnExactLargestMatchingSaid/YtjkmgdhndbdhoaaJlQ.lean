/- slices.Grow of a nil slice, slices.Concat of two lists. -/
import Derived.Test.YtjkmgdhndbdhoaaQg
import Derived.Test.YtjkmgdhndbdhoaaLpQ
import Derived.Test.YtjkmgdhndbdhoaaGrowQ
namespace Go.Proofs.Ytjkmgdhndbdhoaa.M
open Go.RowKit Abs
set_option linter.unusedSimpArgs false
set_option linter.unusedVariables false
set_option maxRecDepth 100000
set_option maxHeartbeats 4000000
theorem go_grow (n : Int) (h0 : 1 ≤ n) (h1 : n ≤ 4294967296) : Spec2 Try.prog 55 [.nilsl, .int fun _ => n] [] [.ref 0] [some (.row 3 .int fun _ => [])] := by
  refine ⟨by kernel_rfl, Nat.zero_le _, fun w val vs hH hv => ?_⟩
  match vs, hv with
  | [v, u], hv =>
  simp only [VRelL, VRel, and_true] at hv
  obtain ⟨rfl, rfl⟩ := hv
  obtain ⟨i, z, hi, hz, hsz, hby, hzc⟩ := elemOk_info (TOk.ty (tabOk) (t := 3) (tt := .int) rfl).2.1
  have e1 : ((n.toNat : Nat) : Int) = n := by omega
  have hb : (0 + n.toNat) * i.bytes ≤ 140737488355328 := by
    have := Nat.mul_le_mul (show 0 + n.toNat ≤ 4294967296 by omega) hby
    omega
  have key := Any8.slices_Grow_grow Try.growI i z hi hz (by rw [hsz]; decide) none 0 0 n.toNat [] w (Nat.le_refl _) (by omega) hb (by omega) (by simp) (fun _ => rfl) (fun a h => by cases h)
  rw [e1] at key
  simp only [show Try.growI_ren.t 25 = 3 from rfl] at key
  refine key.mono ?_
  rintro e w' ⟨rfl, rfl⟩
  have hzs : z.cells.size = 1 := by
    have := congrArg List.length hzc
    simpa [zcellsOf] using this
  have hcap := grownCap_ge w (0 + n.toNat) 0 3
  have hmax := grownCap_le_maxLen w (0 + n.toNat) 0 3 (by unfold maxLen; omega)
  refine ⟨_, fun _ => ⟨.slice (some ⟨w.heap.size, 0, none⟩) 0 (grownCap w (0 + n.toNat) 0 3), [], [w.heap.size]⟩, rfl, ?_⟩
  have hbl : Below w.heap.size w (w.drew.alloc (.cells (([] : List Value).toArray ++ Builtin.zeroCells z.cells (0 + n.toNat - 0) ++ Builtin.zeroCells z.cells (grownCap w (0 + n.toNat) 0 3 - (0 + n.toNat))) 3)) := (Below.refl _ _).drew.alloc (Nat.le_refl _) _
  refine ⟨⟨hbl.os, hbl.tape, hbl.output, hbl.size, fun b hb _ => hbl.block b hb⟩, ⟨fun m B hB => ?_, fun m B hB g hg => ?_, fun m k B C hne hB hC => ?_⟩, fun m B hB g hg => ?_, fun m hm => absurd hm (Nat.not_lt_zero _), ?_⟩
  · match m, hB with
    | 0, hB =>
      cases hB
      refine ⟨[], ⟨by simp, .inr ⟨w.heap.size, _, _, rfl, Nat.zero_le _, heap_alloc_new _ _, Nat.zero_le _, hmax, ?_, by simp⟩⟩, ⟨by simp, fun i y hy => by simp at hy⟩, rfl⟩
      simp only [Array.size_append, size_zeroCells, hzs, List.size_toArray, List.length_nil]
      show _ = _ * 1
      omega
    | m + 1, hB => simp at hB
  · simp only [List.mem_singleton] at hg
    subst hg
    exact alloc_lt _ _ _
  · match m, hB, k, hC with
    | 0, hB, 0, hC => exact absurd rfl hne
    | m + 1, hB, _, _ => simp at hB
    | 0, _, k + 1, hC => simp at hC
  · simp only [List.mem_singleton] at hg
    subst hg
    exact .inl (Nat.le_refl _)
  · show VRel _ _ _ _ _ _
    simp only [VRel]
    exact ⟨by simp, trivial⟩
theorem call_as {P : Unit → Program} {T : Unit → Tab} {S : AS} {ts : List TypeId} {f' : FuncId} {xs us args' res : List AV} {post : Hp} {K : AV → AS → Prop} (h : Spec2 (P ()) f' args' [] res post)
    (ha : argsM [] (xs ++ []) (argVs (T ()) S.H ts (xs ++ [])) args') (hk : K (resA (rho [] S.H.length post.length) res) (S.after [] post)) : CallL P T S ts (.fn f' []) xs us K :=
  ⟨.inl ⟨f', [], [], args', [], res, post, ⟨rfl, rfl⟩, by simp, h, by simp [preM], by rw [dropC_nil]; exact ha, hk⟩⟩
def szC (a b : List Int) (k : Int) : Int := if k = 0 then 0 else if k = 1 then (a.length : Int) else (a.length : Int) + b.length
def apC (a b : List Int) (k : Int) : List Int := if k = 0 then [] else if k = 1 then a else a ++ b
theorem go_concat (a b : List Int) (ha : a.length ≤ 1048576) (hb : b.length ≤ 1048576) (hn : 1 ≤ a.length + b.length) : Spec2 Try.prog 52 [.sl (.sl .int) fun _ => [a, b]] [] [.ref 0] [some (.row 3 .int fun _ => a ++ b)] := by
  have h0 : getI (.sl .int) [a, b] 0 = a := rfl
  have h1 : getI (.sl .int) [a, b] 1 = b := rfl
  have hlen : (([a, b] : List (List Int)).length : Int) = 2 := rfl
  have s0 : szC a b 0 = 0 := rfl
  have z0 : apC a b 0 = [] := rfl
  generalize hL : ([a, b] : List (List Int)) = L at *
  refine fnS [0] [2] Try.func52 rfl (by decide) rfl (by decide) (by kernel_rfl) rfl (by simp [Try.ntmps52]) ?_
  cbv
  refine loopP (by kernel_rfl) (fun k : Int => 0 ≤ k ∧ k ≤ 2) (fun k => [(11, .int fun _ => k), (3, .int fun _ => szC a b k), (5, .junk)]) (fun k => []) (fun k => (2 - k).toNat) (· + 1) 0 (by omega) ?_ ?_
  · cbv
    (simp only [IfP_iff, EqU_iff, Obl_iff, and_true, true_and, inI_iff, decide_eq_true_eq, decide_eq_false_iff_not]; (try simp only [natc, getI_gi, at2_0, at2_1]); (try dsimp only [Ty.den]); try simp only [natc] at *)
    exact s0.symm
  · intro k hk
    have k0 : 0 ≤ k := hk.1
    have k1 : k ≤ 2 := hk.2
    have f0 : 0 ≤ szC a b k ∧ szC a b k ≤ 2097152 := by unfold szC; split <;> (try split) <;> omega
    have f3 : 0 ≤ szC a b (k + 1) ∧ szC a b (k + 1) ≤ 2097152 := by unfold szC; split <;> (try split) <;> omega
    have f1 : k < (2 : Int) → szC a b k + ((getI (.sl .int) L k : List Int).length : Int) = szC a b (k + 1) := fun h => by
      have : k = 0 ∨ k = 1 := by omega
      rcases this with rfl | rfl
      · rw [h0]; simp [szC]
      · rw [h1]; simp [szC]
    have f2 : ¬ k < (2 : Int) → szC a b k = (a.length : Int) + b.length := fun h => by
      rw [show k = 2 by omega]; rfl
    have sg := fun h => go_grow (szC a b k) (by rw [f2 h]; omega) (by omega)
    generalize szC a b k = x at *
    generalize szC a b (k + 1) = y at *
    cbv
    ((try simp only [IfP_iff, and_true, true_and, decide_eq_true_eq, decide_eq_false_iff_not]); (try simp only [natc, getI_gi, at2_0, at2_1]); (try dsimp only [Ty.den]); (try simp only [natc] at *); (repeat' (first | apply And.intro | intro _)))
    rotate_right 1
    · have hq : ¬ k < (2 : Int) := by rw [← hlen]; assumption
      refine call_as (sg hq) (by cbv; simp only [or_true, true_or, and_true]) ?_
      cbv
      refine loopP (by kernel_rfl) (fun j : Int => 0 ≤ j ∧ j ≤ 2) (fun j => [(27, .int fun _ => j), (6, .ref 0), (8, .junk), (24, .junk)]) (fun j => [(0, some (.row 3 .int fun _ => apC a b j))]) (fun j => (2 - j).toNat) (· + 1) 0 (by omega) ?_ ?_
      · cbv
        (try (simp only [IfP_iff, EqU_iff, Obl_iff, and_true, true_and, inI_iff, decide_eq_true_eq, decide_eq_false_iff_not]; (try simp only [natc, getI_gi, at2_0, at2_1]); (try dsimp only [Ty.den]); try simp only [natc] at *))
        first | exact z0.symm | rfl | trace_state
      · intro j hj
        have j0 : 0 ≤ j := hj.1
        have j1 : j ≤ 2 := hj.2
        have g0 : (apC a b j).length ≤ 2097152 := by
          unfold apC
          split
          · simp
          · split
            · omega
            · rw [List.length_append]; omega
        have g3 : j < (2 : Int) → ((getI (.sl .int) L j : List Int).length : Int) ≤ 1048576 := fun h => by
          have : j = 0 ∨ j = 1 := by omega
          rcases this with rfl | rfl
          · rw [h0]; omega
          · rw [h1]; omega
        have g1 : j < (2 : Int) → apC a b j ++ (getI (.sl .int) L j : List Int) = apC a b (j + 1) := fun h => by
          have : j = 0 ∨ j = 1 := by omega
          rcases this with rfl | rfl
          · rw [h0]; rfl
          · rw [h1]; rfl
        have g2 : ¬ j < (2 : Int) → apC a b j = a ++ b := fun h => by
          rw [show j = 2 by omega]; rfl
        generalize apC a b j = X at *
        generalize apC a b (j + 1) = Y at *
        cbv
        ((try simp only [IfP_iff, and_true, true_and, decide_eq_true_eq, decide_eq_false_iff_not]); (try simp only [natc, getI_gi, at2_0, at2_1]); (try dsimp only [Ty.den]); (try simp only [natc] at *); (repeat' (first | apply And.intro | intro _)))
        all_goals (try (simp only [IfP_iff, EqU_iff, Obl_iff, and_true, true_and, inI_iff, decide_eq_true_eq, decide_eq_false_iff_not]; (try simp only [natc, getI_gi, at2_0, at2_1]); (try dsimp only [Ty.den]); try simp only [natc] at *))
        all_goals (try (simp only [IfP_iff, EqU_iff, Obl_iff, and_true, true_and, inI_iff, decide_eq_true_eq, decide_eq_false_iff_not]; (try simp only [natc, getI_gi, at2_0, at2_1]); (try dsimp only [Ty.den]); try simp only [natc] at *))
        all_goals (try rw [hlen] at *)
        all_goals ((try (simp only [IfP_iff, EqU_iff, Obl_iff, and_true, true_and, inI_iff, decide_eq_true_eq, decide_eq_false_iff_not]; (try simp only [natc, getI_gi, at2_0, at2_1]); (try dsimp only [Ty.den]); try simp only [natc] at *)); (repeat' (first | apply And.intro | intro _)) <;> first | omega | (exact g1 (by omega)) | (exact g2 (by omega)) | (have := g3 (by omega); omega) | trace_state)
    all_goals (try (simp only [IfP_iff, EqU_iff, Obl_iff, and_true, true_and, inI_iff, decide_eq_true_eq, decide_eq_false_iff_not]; (try simp only [natc, getI_gi, at2_0, at2_1]); (try dsimp only [Ty.den]); try simp only [natc] at *))
    all_goals (try rw [hlen] at *)
    all_goals ((repeat' (first | apply And.intro | intro _)) <;> first | omega | (exact f1 (by omega)) | (have := f1 (by omega); omega) | trace_state)
end Go.Proofs.Ytjkmgdhndbdhoaa.M
