/- Jl, Jn, Jm, Jo, in one text. -/
import Derived.Test.YtlfdimhnielleaaQgVPolygonSpace
import Derived.Test.YtlfdimhnielleaaLpQVPolygonSpace
import Derived.Test.YtlfdimhnielleaaGrowQVPolygonSpace
import Derived.Test.YtlfdimhnielleaaJaQVPolygonSpace
import Derived.Test.YtlfdimhnielleaaDfQVPolygonSpace
import Derived.Test.YtlfdimhnielleaaDdQVPolygonSpace
import Derived.Test.YtlfdimhnielleaaDlQVPolygonSpace
/- slices.Grow of a nil slice, slices.Concat of two lists. -/
namespace Go.Proofs.Ytlfdimhnielleaa.M
open Go.RowKit Abs
set_option linter.unusedSimpArgs false
set_option linter.unusedVariables false
set_option maxRecDepth 100000
set_option maxHeartbeats 4000000
theorem go_grow (n : Int) (h0 : 1 ≤ n) (h1 : n ≤ 4294967296) : Spec2 Try.prog 123 [.nilsl, .int fun _ => n] [] [.ref 0] [some (.row 3 .int fun _ => [])] := by
  refine ⟨by kernel_rfl, Nat.zero_le _, fun w val vs hH hv => ?_⟩
  match vs, hv with
  | [v, u], hv =>
  simp only [VRelL, VRel, and_true] at hv
  obtain ⟨rfl, rfl⟩ := hv
  obtain ⟨i, z, hi, hz, hsz, hby, hzc⟩ := elemOk_info (TOk.ty (tabOk) (t := 3) (tt := .int) rfl).2.1
  have e1 : ((n.toNat : Nat) : Int) = n := by omega
  have hb : (0 + n.toNat) * i.bytes ≤ 140737488355328 := by
    have := Nat.mul_le_mul (show 0 + n.toNat ≤ 4294967296 by omega) hby
    omega
  have key := Any8.slices_Grow_grow Try.growI i z hi hz (by rw [hsz]; decide) none 0 0 n.toNat [] w (Nat.le_refl _) (by omega) hb (by omega) (by simp) (fun _ => rfl) (fun a h => by cases h)
  rw [e1] at key
  simp only [show Try.growI_ren.t 25 = 3 from rfl] at key
  refine key.mono ?_
  rintro e w' ⟨rfl, rfl⟩
  have hzs : z.cells.size = 1 := by
    have := congrArg List.length hzc
    simpa [zcellsOf] using this
  have hcap := grownCap_ge w (0 + n.toNat) 0 3
  have hmax := grownCap_le_maxLen w (0 + n.toNat) 0 3 (by unfold maxLen; omega)
  refine ⟨_, fun _ => ⟨.slice (some ⟨w.heap.size, 0, none⟩) 0 (grownCap w (0 + n.toNat) 0 3), [], [w.heap.size]⟩, rfl, ?_⟩
  have hbl : Below w.heap.size w (w.drew.alloc (.cells (([] : List Value).toArray ++ Builtin.zeroCells z.cells (0 + n.toNat - 0) ++ Builtin.zeroCells z.cells (grownCap w (0 + n.toNat) 0 3 - (0 + n.toNat))) 3)) := (Below.refl _ _).drew.alloc (Nat.le_refl _) _
  refine ⟨⟨hbl.os, hbl.tape, hbl.output, hbl.size, fun b hb _ => hbl.block b hb⟩, ⟨fun m B hB => ?_, fun m B hB g hg => ?_, fun m k B C hne hB hC => ?_⟩, fun m B hB g hg => ?_, fun m hm => absurd hm (Nat.not_lt_zero _), ?_⟩
  · match m, hB with
    | 0, hB =>
      cases hB
      refine ⟨[], ⟨by simp, .inr ⟨w.heap.size, _, _, rfl, Nat.zero_le _, heap_alloc_new _ _, Nat.zero_le _, hmax, ?_, by simp⟩⟩, ⟨by simp, fun i y hy => by simp at hy⟩, rfl⟩
      simp only [Array.size_append, size_zeroCells, hzs, List.size_toArray, List.length_nil]
      show _ = _ * 1
      omega
    | m + 1, hB => simp at hB
  · simp only [List.mem_singleton] at hg
    subst hg
    exact alloc_lt _ _ _
  · match m, hB, k, hC with
    | 0, hB, 0, hC => exact absurd rfl hne
    | m + 1, hB, _, _ => simp at hB
    | 0, _, k + 1, hC => simp at hC
  · simp only [List.mem_singleton] at hg
    subst hg
    exact .inl (Nat.le_refl _)
  · show VRel _ _ _ _ _ _
    simp only [VRel]
    exact ⟨by simp, trivial⟩
theorem call_as {P : Unit → Program} {T : Unit → Tab} {S : AS} {ts : List TypeId} {f' : FuncId} {xs us args' res : List AV} {post : Hp} {K : AV → AS → Prop} (h : Spec2 (P ()) f' args' [] res post)
    (ha : argsM [] (xs ++ []) (argVs (T ()) S.H ts (xs ++ [])) args') (hk : K (resA (rho [] S.H.length post.length) res) (S.after [] post)) : CallL P T S ts (.fn f' []) xs us K :=
  ⟨.inl ⟨f', [], [], args', [], res, post, ⟨rfl, rfl⟩, by simp, h, by simp [preM], by rw [dropC_nil]; exact ha, hk⟩⟩
def szC (a b : List Int) (k : Int) : Int := if k = 0 then 0 else if k = 1 then (a.length : Int) else (a.length : Int) + b.length
def apC (a b : List Int) (k : Int) : List Int := if k = 0 then [] else if k = 1 then a else a ++ b
theorem go_concat (a b : List Int) (ha : a.length ≤ 1048576) (hb : b.length ≤ 1048576) (hn : 1 ≤ a.length + b.length) : Spec2 Try.prog 98 [.sl (.sl .int) fun _ => [a, b]] [] [.ref 0] [some (.row 3 .int fun _ => a ++ b)] := by
  have h0 : getI (.sl .int) [a, b] 0 = a := rfl
  have h1 : getI (.sl .int) [a, b] 1 = b := rfl
  have hlen : (([a, b] : List (List Int)).length : Int) = 2 := rfl
  have s0 : szC a b 0 = 0 := rfl
  have z0 : apC a b 0 = [] := rfl
  generalize hL : ([a, b] : List (List Int)) = L at *
  refine fnS [0] [2] Try.func98 rfl (by decide) rfl (by decide) (by kernel_rfl) rfl (by simp [Try.ntmps98]) ?_
  cbv
  refine loopP (by kernel_rfl) (fun k : Int => 0 ≤ k ∧ k ≤ 2) (fun k => [(11, .int fun _ => k), (3, .int fun _ => szC a b k), (5, .junk)]) (fun k => []) (fun k => (2 - k).toNat) (· + 1) 0 (by omega) ?_ ?_
  · cbv
    (simp only [IfP_iff, EqU_iff, Obl_iff, and_true, true_and, inI_iff, decide_eq_true_eq, decide_eq_false_iff_not]; (try simp only [natc, getI_gi, at2_0, at2_1]); (try dsimp only [Ty.den]); try simp only [natc] at *)
    exact s0.symm
  · intro k hk
    have k0 : 0 ≤ k := hk.1
    have k1 : k ≤ 2 := hk.2
    have f0 : 0 ≤ szC a b k ∧ szC a b k ≤ 2097152 := by unfold szC; split <;> (try split) <;> omega
    have f3 : 0 ≤ szC a b (k + 1) ∧ szC a b (k + 1) ≤ 2097152 := by unfold szC; split <;> (try split) <;> omega
    have f1 : k < (2 : Int) → szC a b k + ((getI (.sl .int) L k : List Int).length : Int) = szC a b (k + 1) := fun h => by
      have : k = 0 ∨ k = 1 := by omega
      rcases this with rfl | rfl
      · rw [h0]; simp [szC]
      · rw [h1]; simp [szC]
    have f2 : ¬ k < (2 : Int) → szC a b k = (a.length : Int) + b.length := fun h => by
      rw [show k = 2 by omega]; rfl
    have sg := fun h => go_grow (szC a b k) (by rw [f2 h]; omega) (by omega)
    generalize szC a b k = x at *
    generalize szC a b (k + 1) = y at *
    cbv
    ((try simp only [IfP_iff, and_true, true_and, decide_eq_true_eq, decide_eq_false_iff_not]); (try simp only [natc, getI_gi, at2_0, at2_1]); (try dsimp only [Ty.den]); (try simp only [natc] at *); (repeat' (first | apply And.intro | intro _)))
    rotate_right 1
    · have hq : ¬ k < (2 : Int) := by rw [← hlen]; assumption
      refine call_as (sg hq) (by cbv; simp only [or_true, true_or, and_true]) ?_
      cbv
      refine loopP (by kernel_rfl) (fun j : Int => 0 ≤ j ∧ j ≤ 2) (fun j => [(27, .int fun _ => j), (6, .ref 0), (8, .junk), (24, .junk)]) (fun j => [(0, some (.row 3 .int fun _ => apC a b j))]) (fun j => (2 - j).toNat) (· + 1) 0 (by omega) ?_ ?_
      · cbv
        (try (simp only [IfP_iff, EqU_iff, Obl_iff, and_true, true_and, inI_iff, decide_eq_true_eq, decide_eq_false_iff_not]; (try simp only [natc, getI_gi, at2_0, at2_1]); (try dsimp only [Ty.den]); try simp only [natc] at *))
        first | exact z0.symm | rfl | trace_state
      · intro j hj
        have j0 : 0 ≤ j := hj.1
        have j1 : j ≤ 2 := hj.2
        have g0 : (apC a b j).length ≤ 2097152 := by
          unfold apC
          split
          · simp
          · split
            · omega
            · rw [List.length_append]; omega
        have g3 : j < (2 : Int) → ((getI (.sl .int) L j : List Int).length : Int) ≤ 1048576 := fun h => by
          have : j = 0 ∨ j = 1 := by omega
          rcases this with rfl | rfl
          · rw [h0]; omega
          · rw [h1]; omega
        have g1 : j < (2 : Int) → apC a b j ++ (getI (.sl .int) L j : List Int) = apC a b (j + 1) := fun h => by
          have : j = 0 ∨ j = 1 := by omega
          rcases this with rfl | rfl
          · rw [h0]; rfl
          · rw [h1]; rfl
        have g2 : ¬ j < (2 : Int) → apC a b j = a ++ b := fun h => by
          rw [show j = 2 by omega]; rfl
        generalize apC a b j = X at *
        generalize apC a b (j + 1) = Y at *
        cbv
        ((try simp only [IfP_iff, and_true, true_and, decide_eq_true_eq, decide_eq_false_iff_not]); (try simp only [natc, getI_gi, at2_0, at2_1]); (try dsimp only [Ty.den]); (try simp only [natc] at *); (repeat' (first | apply And.intro | intro _)))
        all_goals (try (simp only [IfP_iff, EqU_iff, Obl_iff, and_true, true_and, inI_iff, decide_eq_true_eq, decide_eq_false_iff_not]; (try simp only [natc, getI_gi, at2_0, at2_1]); (try dsimp only [Ty.den]); try simp only [natc] at *))
        all_goals (try (simp only [IfP_iff, EqU_iff, Obl_iff, and_true, true_and, inI_iff, decide_eq_true_eq, decide_eq_false_iff_not]; (try simp only [natc, getI_gi, at2_0, at2_1]); (try dsimp only [Ty.den]); try simp only [natc] at *))
        all_goals (try rw [hlen] at *)
        all_goals ((try (simp only [IfP_iff, EqU_iff, Obl_iff, and_true, true_and, inI_iff, decide_eq_true_eq, decide_eq_false_iff_not]; (try simp only [natc, getI_gi, at2_0, at2_1]); (try dsimp only [Ty.den]); try simp only [natc] at *)); (repeat' (first | apply And.intro | intro _)) <;> first | omega | (exact g1 (by omega)) | (exact g2 (by omega)) | (have := g3 (by omega); omega) | trace_state)
    all_goals (try (simp only [IfP_iff, EqU_iff, Obl_iff, and_true, true_and, inI_iff, decide_eq_true_eq, decide_eq_false_iff_not]; (try simp only [natc, getI_gi, at2_0, at2_1]); (try dsimp only [Ty.den]); try simp only [natc] at *))
    all_goals (try rw [hlen] at *)
    all_goals ((repeat' (first | apply And.intro | intro _)) <;> first | omega | (exact f1 (by omega)) | (have := f1 (by omega); omega) | trace_state)
end Go.Proofs.Ytlfdimhnielleaa.M
/- Rows of the call's own that are only read from some place on become data, in the midst of a region too. -/
namespace Go.Proofs.Ytlfdimhnielleaa.M
open Go.RowKit Abs
set_option linter.unusedSimpArgs false
set_option linter.unusedVariables false
set_option maxRecDepth 100000
set_option maxHeartbeats 4000000
def frR (n : Nat) (b : Blk) (v : AV) : AV :=
  match b, v with
  | .row _ t l, .ref m => if (m == n) = true then .sl t l else .ref m
  | .rows _ _ t l, .ref m => if (m == n) = true then .sl (.sl t) l else .ref m
  | _, v => v
def AS.frR (S : AS) (n : Nat) : AS :=
  match S.H[n]? with
  | some (some (.row e t l)) => ⟨S.tm.map (M.frR n (.row e t l)), dropC [n] S.H, S.k⟩
  | some (some (.rows e e2 t l)) => ⟨S.tm.map (M.frR n (.rows e e2 t l)), dropC [n] S.H, S.k⟩
  | _ => S
theorem Rl.frCore {w0 w : World} {B : Nat → Prop} {hd : Nat → Value} {S : AS} {a : Act} {val : Nat → Bd} (hR : Rl w0 B hd S a w val) (n : Nat) {b : Blk} (hH : S.H[n]? = some (some b)) (f : AV → AV) (hu : f .undef = .undef)
    (hf : ∀ (X : AV) (v : Value), VRel (okF (dropC [n] S.H) val) w (dropC [n] S.H).length val X v → BRel (okF S.H val) w S.H.length val (val n) b → (∀ g ∈ (val n).F, okF (dropC [n] S.H) val g) → (∀ g, okF S.H val g → okF (dropC [n] S.H) val g) → VRel (okF (dropC [n] S.H) val) w (dropC [n] S.H).length val (f X) v) : Rl w0 B hd ⟨S.tm.map f, dropC [n] S.H, S.k⟩ a w val := by
  have hok : ∀ b, okF S.H val b → okF (dropC [n] S.H) val b := fun b hk m X hX => hk m X (dropC_get hX).2
  have hokg : ∀ g ∈ (val n).F, okF (dropC [n] S.H) val g := fun g hgF m X hX hg => by
    obtain ⟨c1, c2⟩ := dropC_get hX
    exact hR.heap.apart n m _ X (fun e => c1 (by simp [e])) hH c2 g hgF hg
  have K : Keep0 (okF S.H val) (okF (dropC [n] S.H) val) w w S.H.length (dropC [n] S.H).length val val := ⟨Nat.le_refl _, fun b hk _ => ⟨hok b hk, rfl⟩, by rw [dropC_len]; exact Nat.le_refl _, fun _ _ => rfl, fun _ _ => rfl⟩
  refine ⟨hR.fr, by simpa using hR.len, hR.defers, fun t => ?_, ⟨fun m X hX => ?_, fun m X hX => hR.heap.lt m X (dropC_get hX).2, fun m k X Y hne hX hY => hR.heap.apart m k X Y hne (dropC_get hX).2 (dropC_get hY).2⟩, fun m X hX => hR.own m X (dropC_get hX).2, hR.kept, by simp only [dropC_len]; exact hR.kle⟩
  · have ht := (hR.tmps t).keep K
    have e : (S.tm.map f).getD t .undef = f (S.tm.getD t .undef) := by
      rw [List.getD_eq_getElem?_getD, List.getD_eq_getElem?_getD, List.getElem?_map]
      cases S.tm[t]? with
      | none => exact hu.symm
      | some y => rfl
    simp only [e]
    exact hf _ _ ht (hR.heap.blk n _ hH) hokg hok
  · rw [dropC_len]
    exact (by simpa [dropC_len] using (hR.heap.blk m X (dropC_get hX).2).keep K fun _ _ => rfl)
theorem Rl.frR {w0 w : World} {B : Nat → Prop} {hd : Nat → Value} {S : AS} {a : Act} {val : Nat → Bd} (hR : Rl w0 B hd S a w val) (n : Nat) : Rl w0 B hd (S.frR n) a w val := by
  unfold AS.frR
  split
  · rename_i e t l hH
    refine hR.frCore n hH _ rfl fun X v hX hb hF hk => ?_
    unfold M.frR
    split
    · rename_i m heq
      cases heq
      cases hmn : m == n with
      | false => simpa using hX
      | true =>
        simp only [beq_iff_eq] at hmn
        subst hmn
        simp only [↓reduceIte, VRel] at hX ⊢
        rw [hX.2]
        exact row_view hb hF hk
    · rename_i heq; cases heq
    · exact hX
  · rename_i e e2 t l hH
    refine hR.frCore n hH _ rfl fun X v hX hb hF hk => ?_
    unfold M.frR
    split
    · rename_i heq; cases heq
    · rename_i m heq
      cases heq
      cases hmn : m == n with
      | false => simpa using hX
      | true =>
        simp only [beq_iff_eq] at hmn
        subst hmn
        simp only [↓reduceIte, VRel] at hX ⊢
        rw [hX.2]
        exact rows_view hb hF hk
    · exact hX
  · exact hR
def frRs : List Nat → AS → AS
  | [], S => S
  | n :: r, S => frRs r (S.frR n)
theorem Rl.frRs {w0 w : World} {B : Nat → Prop} {hd : Nat → Value} {a : Act} {val : Nat → Bd} : ∀ (ns : List Nat) {S : AS}, Rl w0 B hd S a w val → Rl w0 B hd (M.frRs ns S) a w val
  | [], _, hR => hR
  | n :: r, _, hR => Rl.frRs r (hR.frR n)
/-- Operations in the text's order; ahead of the i-th, rows may become data. -/
def aseqZ (P : Unit → Program) (T : Unit → Tab) (fz : List (Nat × List Nat)) (Q : AS → Prop) : Nat → List Oper → AS → Prop
  | _, [], S => Q S
  | i, o :: r, S => if (o.guard.isNone) = true then stepP P T o (M.frRs ((fz.lookup i).getD []) S) (aseqZ P T fz Q (i + 1) r) else False
theorem aseqZ_sound {P : Unit → Program} {T : Unit → Tab} (hT : TOk (P ()) (T ())) {ops : Array Oper} {fz : List (Nat × List Nat)} {w0 : World} {B : Nat → Prop} {hd : Nat → Value} {Q : AX → AS → Prop} : ∀ (l : List Oper) (i : Nat) (S : AS) (a : Act) (w : World) (val : Nat → Bd), aseqZ P T fz (Q .normal) i l S → Rl w0 B hd S a w val → wpList (P ()) ops (CQ w0 B hd Q) l a w
  | [], i, S, a, w, val, h, hR => ⟨.normal, S, val, rfl, h, hR⟩
  | o :: r, i, S, a, w, val, h, hR => by
    unfold aseqZ at h
    cases hg : o.guard with
    | some g => rw [hg] at h; simp at h
    | none =>
      rw [hg] at h
      simp only [Option.isNone_none, ↓reduceIte] at h
      unfold wpList
      rw [wanted_none hg, if_pos rfl]
      exact .inl (stepP_sound hT (hR.frRs _) h fun S' a' w' val' h1 h2 => aseqZ_sound hT r (i + 1) S' a' w' val' h1 h2)
theorem DrawL.seqZ {id : Nat} {ops : Array Oper} {Q : AX → AS → Prop} {S : AS} (fz : List (Nat × List Nat)) (h : aseqZ (fun _ => Try.prog) (fun _ => tab) fz (Q .normal) 0 ops.toList S) : DrawL (fun _ => Try.prog) (fun _ => tab) id ops false Q S :=
  ⟨fun w0 B hd a w val hR => by
    have := wp_region_list (id := id) (aseqZ_sound (P := fun _ => Try.prog) (T := fun _ => tab) tabOk (ops := ops) (Q := Q) ops.toList 0 S a w val h hR)
    simpa using this⟩
end Go.Proofs.Ytlfdimhnielleaa.M
/- fittingRule: what it says of a list that grows. -/
namespace Go.Proofs.Ytlfdimhnielleaa.M
open Go.RowKit Abs
set_option linter.unusedSimpArgs false
set_option linter.unusedVariables false
set_option maxRecDepth 100000
set_option maxHeartbeats 4000000
theorem im_isWhole (n k : Int) (l : List Int) (hl : l.length ≤ 1048576) : Spec2 Try.prog 163 [.cells [.ifr 59 fun _ => ofBound [.cells [.int fun _ => n]], .int fun _ => k], .sl .int fun _ => l] [] [.bool fun _ => decide ((l.length : Int) = k)] [] := by
  refine fnS [] [4] Try.func163 rfl (by decide) rfl (by decide) (by kernel_rfl) rfl (by simp [Try.ntmps163]) ?_
  cbv
  ((try simp only [IfP_iff, and_true, true_and, decide_eq_true_eq, decide_eq_false_iff_not]); (try simp only [natc, getI_gi, at2_0, at2_1]); (try dsimp only [Ty.den]); (try simp only [natc] at *); (repeat' (first | apply And.intro | intro _)))
  all_goals (try (simp only [IfP_iff, EqU_iff, Obl_iff, and_true, true_and, inI_iff, decide_eq_true_eq, decide_eq_false_iff_not]; (try simp only [natc, getI_gi, at2_0, at2_1]); (try dsimp only [Ty.den]); try simp only [natc] at *))
theorem im_with (n k x : Int) (l : List Int) (hl : l.length ≤ 1000) : Spec2 Try.prog 164 [.cells [.ifr 59 fun _ => ofBound [.cells [.int fun _ => n]], .int fun _ => k], .sl .int fun _ => l, .int fun _ => x] [] [.ref 0] [some (.row 3 .int fun _ => l ++ [x])] := by
  have s1 := go_concat l [x] (by omega) (by simp) (by simp)
  refine fnE [1] [3] [6] Try.func164 rfl (by decide) rfl (by decide) (by kernel_rfl) rfl (by simp [Try.ntmps164]) ?_
  cbv
  refine DrawL.seqZ [(3, [1])] ?_
  cbv
  repeat' (first | ((first | refine call_q s1 (by cbv) ?_ | refine call_pure s1 (by cbv) ?_); cbv; ((try simp only [IfP_iff, and_true, true_and, decide_eq_true_eq, decide_eq_false_iff_not]); (try simp only [natc, getI_gi, at2_0, at2_1]); (try dsimp only [Ty.den]); (try simp only [natc] at *); (repeat' (first | apply And.intro | intro _)))))
  all_goals (try (simp only [IfP_iff, EqU_iff, Obl_iff, and_true, true_and, inI_iff, decide_eq_true_eq, decide_eq_false_iff_not]; (try simp only [natc, getI_gi, at2_0, at2_1]); (try dsimp only [Ty.den]); try simp only [natc] at *))
theorem im_choices1 (n k x : Int) (l : List Int) (hl : l.length ≤ 1000) : Spec2 Try.prog 165 [.int fun _ => x, .ibox [.ifr 59 fun _ => ofBound [.cells [.int fun _ => n]], .int fun _ => k] 0, .ibox [.sl .int fun _ => l] 0] [] [.bool fun _ => !incB (l ++ [x])] [] := by
  have h1 : (l ++ [x]).length ≤ 1048576 := by rw [List.length_append, List.length_cons, List.length_nil]; omega
  refine fnS [] [4] Try.func165 rfl (by decide) rfl (by decide) (by kernel_rfl) rfl (by simp [Try.ntmps165]) ?_
  cbv
  repeat' (first | ((first | refine call_q (im_with n k x l hl) (by cbv) ?_ | refine call_pure (im_with n k x l hl) (by cbv) ?_); cbv; ((try simp only [IfP_iff, and_true, true_and, decide_eq_true_eq, decide_eq_false_iff_not]); (try simp only [natc, getI_gi, at2_0, at2_1]); (try dsimp only [Ty.den]); (try simp only [natc] at *); (repeat' (first | apply And.intro | intro _)))) | ((first | refine call_q (im_isAscending (l ++ [x]) h1) (by cbv) ?_ | refine call_pure (im_isAscending (l ++ [x]) h1) (by cbv) ?_); cbv; ((try simp only [IfP_iff, and_true, true_and, decide_eq_true_eq, decide_eq_false_iff_not]); (try simp only [natc, getI_gi, at2_0, at2_1]); (try dsimp only [Ty.den]); (try simp only [natc] at *); (repeat' (first | apply And.intro | intro _)))))
  all_goals (try (simp only [IfP_iff, EqU_iff, Obl_iff, and_true, true_and, inI_iff, decide_eq_true_eq, decide_eq_false_iff_not]; (try simp only [natc, getI_gi, at2_0, at2_1]); (try dsimp only [Ty.den]); try simp only [natc] at *))
theorem im_choices (n k : Int) (l : List Int) (n0 : 3 ≤ n) (n1 : n ≤ 8) (hl : l.length ≤ 1000) (hx : ∀ x ∈ l, 0 ≤ x ∧ x < 100) : Spec2 Try.prog 162 [.cells [.ifr 59 fun _ => ofBound [.cells [.int fun _ => n]], .int fun _ => k], .sl .int fun _ => l] [] [.ref 0] [some (.row 3 .int fun _ => (fitL (diagL n) crossB l).filter fun x => !(!incB (l ++ [x])))] := by
  have hdl := diag_len (n := n) (by omega) n1
  have hfl := fit_len (diagL n) l crossB
  have hd := go_delF 165 (fun _ => ofCaps [.ibox [.ifr 59 fun _ => ofBound [.cells [.int fun _ => n]], .int fun _ => k] 0, .ibox [.sl .int fun _ => l] 0]) (fun x => !incB (l ++ [x])) (fitL (diagL n) crossB l) (by omega) fun x _ => ⟨_, rfl, fun _ => rfl, im_choices1 n k x l hl⟩
  refine fnS [3] [4] Try.func162 rfl (by decide) rfl (by decide) (by kernel_rfl) rfl (by simp [Try.ntmps162]) ?_
  cbv
  ((first | refine call_q (im_fitting n l n0 n1 (by omega) hx) (by cbv) ?_ | refine call_pure (im_fitting n l n0 n1 (by omega) hx) (by cbv) ?_); cbv; ((try simp only [IfP_iff, and_true, true_and, decide_eq_true_eq, decide_eq_false_iff_not]); (try simp only [natc, getI_gi, at2_0, at2_1]); (try dsimp only [Ty.den]); (try simp only [natc] at *); (repeat' (first | apply And.intro | intro _))))
  refine call_own 2 hd (by cbv) (by exact ⟨.inr ⟨rfl, rfl⟩, .inl rfl, trivial⟩) ?_
  cbv
  all_goals (try (simp only [IfP_iff, EqU_iff, Obl_iff, and_true, true_and, inI_iff, decide_eq_true_eq, decide_eq_false_iff_not]; (try simp only [natc, getI_gi, at2_0, at2_1]); (try dsimp only [Ty.den]); try simp only [natc] at *))
end Go.Proofs.Ytlfdimhnielleaa.M
/- Lists that grow by fittingRule: impl.grown. -/
namespace Go.Proofs.Ytlfdimhnielleaa.M
open Go.RowKit Abs
set_option linter.unusedSimpArgs false
set_option linter.unusedVariables false
set_option maxRecDepth 100000
set_option maxHeartbeats 4000000
def chs (n : Int) (l : List Int) : List Int := (fitL (diagL n) crossB l).filter fun x => !(!incB (l ++ [x]))
def gro (n : Int) : Nat → List Int → List (List Int)
  | 0, l => [l]
  | f + 1, l => (chs n l).flatMap fun x => gro n f (l ++ [x])
def groP (n : Int) (f : Nat) (l : List Int) (k : Nat) : List (List Int) := ((chs n l).take k).flatMap fun x => gro n f (l ++ [x])
theorem groP_next {n : Int} {f : Nat} {l : List Int} {k : Int} (h0 : 0 ≤ k) (h1 : k < ((chs n l).length : Int)) : groP n f l (k + 1).toNat = groP n f l k.toNat ++ gro n f (l ++ [gi (chs n l) k]) := by
  unfold groP
  rw [take_gi h0 h1, List.flatMap_append]
  simp
theorem chs_len {n : Int} (n0 : 3 ≤ n) (n1 : n ≤ 8) (l : List Int) : (chs n l).length ≤ 64 := by
  have h1 := diag_len (n := n) (by omega) n1
  have h2 := fit_len (diagL n) l crossB
  have h3 := List.length_filter_le (fun x => !(!incB (l ++ [x]))) (fitL (diagL n) crossB l)
  unfold chs
  omega
theorem flat_len (c : Nat) (g : Int → List (List Int)) : ∀ s : List Int, (∀ x ∈ s, (g x).length ≤ c) → (s.flatMap g).length ≤ s.length * c
  | [], _ => by simp
  | x :: s, h => by
    have h1 := h x (by simp)
    have h2 := flat_len c g s fun y hy => h y (by simp [hy])
    simp only [List.flatMap_cons, List.length_append, List.length_cons, Nat.add_mul]
    omega
theorem gro_len {n : Int} (n0 : 3 ≤ n) (n1 : n ≤ 8) : ∀ (f : Nat) (l : List Int), (gro n f l).length ≤ 64 ^ f
  | 0, l => by simp [gro]
  | f + 1, l => by
    have h1 := flat_len (64 ^ f) (fun x => gro n f (l ++ [x])) (chs n l) fun x _ => gro_len n0 n1 f _
    have h2 := Nat.mul_le_mul_right (64 ^ f) (chs_len n0 n1 l)
    show ((chs n l).flatMap fun x => gro n f (l ++ [x])).length ≤ 64 ^ (f + 1)
    rw [Nat.pow_succ]
    omega
theorem groP_len {n : Int} (n0 : 3 ≤ n) (n1 : n ≤ 8) (f : Nat) (hf : f ≤ 4) (l : List Int) (k : Nat) : (groP n f l k).length ≤ 1073741824 := by
  have h1 := flat_len (64 ^ f) (fun x => gro n f (l ++ [x])) ((chs n l).take k) fun x _ => gro_len n0 n1 f _
  have h2 : ((chs n l).take k).length ≤ 64 := by rw [List.length_take]; have := chs_len n0 n1 l; omega
  have h3 : 64 ^ f ≤ 64 ^ 4 := Nat.pow_le_pow_right (by decide) hf
  have h4 := Nat.mul_le_mul h2 h3
  unfold groP
  omega
theorem chs_in {n : Int} (n0 : 3 ≤ n) (n1 : n ≤ 8) {l : List Int} {x : Int} (h : x ∈ chs n l) : 0 ≤ x ∧ x < 100 := by
  unfold chs at h
  exact diag_in n0 n1 x (fit_mem.1 (List.mem_filter.1 h).1).1
theorem im_grown (n : Int) (n0 : 3 ≤ n) (n1 : n ≤ 8) : ∀ (f : Nat) (l : List Int) (k : Int), (l.length : Int) + f = k → k ≤ 5 → (∀ x ∈ l, 0 ≤ x ∧ x < 100) → Spec2 Try.prog 63 [.ifr 90 fun _ => ofBound [.cells [.ifr 59 fun _ => ofBound [.cells [.int fun _ => n]], .int fun _ => k]], .ref 0, .sl .int fun _ => l] [some (.row 3 .int fun _ => l)] [.ref 1] [none, some (.rows 40 3 .int fun _ => gro n f l)]
  | 0, l, k, hk, h5, hx => by
    have hl : l.length ≤ 1048576 := by omega
    have e1 : decide ((l.length : Int) = k) = true := by rw [decide_eq_true_eq]; omega
    have s1 := im_isWhole n k l hl
    rw [e1] at s1
    have e2 : [l] = gro n 0 l := rfl
    generalize gro n 0 l = G at *
    refine fnG [.tmp 6] Try.func63 rfl (by decide) rfl (by kernel_rfl) (.inl rfl) (by kernel_rfl) (by simp) (by simp [Try.ntmps63]) ?_
    cbv
    ((first | refine call_iq (by kernel_rfl) rfl s1 (by cbv) ?_ | refine call_i (by kernel_rfl) rfl s1 (by cbv) ?_); cbv; ((try simp only [IfP_iff, and_true, true_and, decide_eq_true_eq, decide_eq_false_iff_not]); (try simp only [natc, getI_gi, at2_0, at2_1]); (try dsimp only [Ty.den]); (try simp only [natc] at *); (repeat' (first | apply And.intro | intro _))))
    ((try simp only [IfP_iff, and_true, true_and, decide_eq_true_eq, decide_eq_false_iff_not]); (try simp only [natc, getI_gi, at2_0, at2_1]); (try dsimp only [Ty.den]); (try simp only [natc] at *); (repeat' (first | apply And.intro | intro _)))
    all_goals (first
      | (exfalso; simp_all; done)
      | (refine EndG.plain [0, 1] ?_
         cbv
         (simp only [IfP_iff, EqU_iff, Obl_iff, and_true, true_and, inI_iff, decide_eq_true_eq, decide_eq_false_iff_not]; (try simp only [natc, getI_gi, at2_0, at2_1]); (try dsimp only [Ty.den]); try simp only [natc] at *)
         exact e2)
      | trace_state)
  | f + 1, l, k, hk, h5, hx => by
    have hl : l.length ≤ 1000 := by omega
    have e1 : decide ((l.length : Int) = k) = false := by rw [decide_eq_false_iff_not]; omega
    have s1 := im_isWhole n k l (by omega)
    rw [e1] at s1
    have s2 := im_choices n k l n0 n1 hl hx
    have hcl := chs_len n0 n1 l
    have hin : ∀ x ∈ chs n l, 0 ≤ x ∧ x < 100 := fun x h => chs_in n0 n1 h
    have ih := fun x (h : x ∈ chs n l) => im_grown n n0 n1 f (l ++ [x]) k (by rw [List.length_append, List.length_cons, List.length_nil]; omega) h5 (fun y hy => by
      rcases List.mem_append.1 hy with h1 | h1
      · exact hx y h1
      · rw [List.mem_singleton.1 h1]; exact hin x h)
    have gl := groP_len n0 n1 f (by omega) l
    have gn := fun {i : Int} (h0 : 0 ≤ i) h1 => groP_next (n := n) (f := f) (l := l) (k := i) h0 h1
    have g0 : groP n f l 0 = [] := by simp [groP]
    have gE : groP n f l (chs n l).length = gro n (f + 1) l := by unfold groP; rw [List.take_of_length_le (Nat.le_refl _)]; rfl
    have gfl := fun x => gro_len n0 n1 f (l ++ [x])
    have h64 : 64 ^ f ≤ 64 ^ 4 := Nat.pow_le_pow_right (by decide) (by omega)
    rw [show ((fitL (diagL n) crossB l).filter fun x => !(!incB (l ++ [x]))) = chs n l from rfl] at s2
    generalize gro n (f + 1) l = G at *
    generalize chs n l = C at *
    refine fnGE [3, 7] [.tmp 6] Try.func63 rfl (by decide) rfl (by kernel_rfl) (.inl rfl) (by kernel_rfl) (by simp) (by simp [Try.ntmps63]) ?_
    cbv
    ((first | refine call_iq (by kernel_rfl) rfl s1 (by cbv) ?_ | refine call_i (by kernel_rfl) rfl s1 (by cbv) ?_); cbv; ((try simp only [IfP_iff, and_true, true_and, decide_eq_true_eq, decide_eq_false_iff_not]); (try simp only [natc, getI_gi, at2_0, at2_1]); (try dsimp only [Ty.den]); (try simp only [natc] at *); (repeat' (first | apply And.intro | intro _))))
    ((try simp only [IfP_iff, and_true, true_and, decide_eq_true_eq, decide_eq_false_iff_not]); (try simp only [natc, getI_gi, at2_0, at2_1]); (try dsimp only [Ty.den]); (try simp only [natc] at *); (repeat' (first | apply And.intro | intro _)))
    all_goals (try (exfalso; simp_all; done))
    refine DrawL.seqZ [(0, [0])] ?_
    cbv
    ((first | refine call_iq (by kernel_rfl) rfl s2 (by cbv) ?_ | refine call_i (by kernel_rfl) rfl s2 (by cbv) ?_); cbv; ((try simp only [IfP_iff, and_true, true_and, decide_eq_true_eq, decide_eq_false_iff_not]); (try simp only [natc, getI_gi, at2_0, at2_1]); (try dsimp only [Ty.den]); (try simp only [natc] at *); (repeat' (first | apply And.intro | intro _))))
    refine loopXE [3, 7] (by kernel_rfl) (fun i : Int => 0 ≤ i ∧ i ≤ C.length) (fun i => [(21, .int fun _ => i), (7, .ref 1), (16, .junk), (9, .junk), (10, .junk)]) (fun i => [(1, some (.rows 40 3 .int fun _ => groP n f l i.toNat))]) (fun i => (C.length - i).toNat) (· + 1) 0 (by omega) ?_ ?_
    · cbv
      (simp only [IfP_iff, EqU_iff, Obl_iff, and_true, true_and, inI_iff, decide_eq_true_eq, decide_eq_false_iff_not]; (try simp only [natc, getI_gi, at2_0, at2_1]); (try dsimp only [Ty.den]); try simp only [natc] at *)
      exact g0.symm
    · intro i hi
      have i0 : 0 ≤ i := hi.1
      have b1 : (groP n f l i.toNat).length ≤ 1073741824 := gl _
      have b2 : i < (C.length : Int) → gi C i ∈ C := fun h => gi_mem i0 h
      have b3 := fun h => gn (i := i) i0 h
      have b4 : ¬ i < (C.length : Int) → groP n f l i.toNat = G := fun h => by rw [show i.toNat = C.length by omega]; exact gE
      have b5 := gfl (gi C i)
      have sc := go_concat l [gi C i] (by omega) (by simp) (by simp)
      have sw := im_with n k (gi C i) l hl
      have sg := fun h => ih (gi C i) (b2 h)
      generalize groP n f l i.toNat = X at *
      generalize groP n f l (i + 1).toNat = Y at *
      generalize gro n f (l ++ [gi C i]) = Z at *
      clear ih gl gn gE gfl g0 s1 s2 hin hx
      cbv
      ((try simp only [IfP_iff, and_true, true_and, decide_eq_true_eq, decide_eq_false_iff_not]); (try simp only [natc, getI_gi, at2_0, at2_1]); (try dsimp only [Ty.den]); (try simp only [natc] at *); (repeat' (first | apply And.intro | intro _)))
      all_goals (try (refine EndG.plain [0, 1] ?_
                      cbv
                      (simp only [IfP_iff, EqU_iff, Obl_iff, and_true, true_and, inI_iff, decide_eq_true_eq, decide_eq_false_iff_not]; (try simp only [natc, getI_gi, at2_0, at2_1]); (try dsimp only [Ty.den]); try simp only [natc] at *)
                      exact b4 (by assumption)))
      all_goals (try (refine DrawL.seqZ [(3, [3])] ?_
                      cbv
                      ((first | refine call_q sc (by cbv) ?_ | refine call_pure sc (by cbv) ?_); cbv; ((try simp only [IfP_iff, and_true, true_and, decide_eq_true_eq, decide_eq_false_iff_not]); (try simp only [natc, getI_gi, at2_0, at2_1]); (try dsimp only [Ty.den]); (try simp only [natc] at *); (repeat' (first | apply And.intro | intro _))))))
      all_goals (try (((first | refine call_iq (by kernel_rfl) rfl sw (by cbv) ?_ | refine call_i (by kernel_rfl) rfl sw (by cbv) ?_); cbv; ((try simp only [IfP_iff, and_true, true_and, decide_eq_true_eq, decide_eq_false_iff_not]); (try simp only [natc, getI_gi, at2_0, at2_1]); (try dsimp only [Ty.den]); (try simp only [natc] at *); (repeat' (first | apply And.intro | intro _))))))
      all_goals (try (refine call_own 5 (sg (by assumption)) (by cbv) (by exact ⟨.inl rfl, .inr ⟨rfl, rfl⟩, .inl rfl, trivial⟩) ?_
                      cbv))
      all_goals (try ((try simp only [IfP_iff, and_true, true_and, decide_eq_true_eq, decide_eq_false_iff_not]); (try simp only [natc, getI_gi, at2_0, at2_1]); (try dsimp only [Ty.den]); (try simp only [natc] at *); (repeat' (first | apply And.intro | intro _))))
      all_goals (first
        | (refine RenL.mk ⟨[0, 1, 2], ?_⟩
           cbv
           (simp only [IfP_iff, EqU_iff, Obl_iff, and_true, true_and, inI_iff, decide_eq_true_eq, decide_eq_false_iff_not]; (try simp only [natc, getI_gi, at2_0, at2_1]); (try dsimp only [Ty.den]); try simp only [natc] at *)
           exact (b3 (by assumption)).symm)
        | ((try (simp only [IfP_iff, EqU_iff, Obl_iff, and_true, true_and, inI_iff, decide_eq_true_eq, decide_eq_false_iff_not]; (try simp only [natc, getI_gi, at2_0, at2_1]); (try dsimp only [Ty.den]); try simp only [natc] at *))
           (repeat' (first | apply And.intro | intro _)) <;> first | omega | (exact (b3 (by assumption)).symm) | (have := Nat.le_trans b5 h64; omega) | trace_state)
        | trace_state)
end Go.Proofs.Ytlfdimhnielleaa.M
