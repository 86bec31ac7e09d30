/- Vs, Vt, Vp, Vq, Vu, Vv, Vw, in one text. -/
import Derived.Test.YtoejmijcikehdaaLpQ
import Derived.Test.YtoejmijcikehdaaRgQ
import Derived.Test.YtoejmijcikehdaaNqQ
import Derived.Test.YtoejmijcikehdaaQg
import Derived.Test.YtoejmijcikehdaaYbQ
import Derived.Test.YtoejmijcikehdaaWlQ
import Derived.Test.YtoejmijcikehdaaViQ
import Derived.Test.YtoejmijcikehdaaPfQ
import Derived.Test.YtoejmijcikehdaaDfQ
/- nodeSpace: the Space whose steps are a Graph's edges; the edges stay the caller's block. -/
namespace Go.Proofs.Ytoejmijcikehdaa.M
open Go.RowKit Abs
set_option linter.unusedSimpArgs false
set_option linter.unusedVariables false
set_option maxRecDepth 100000
set_option maxHeartbeats 4000000
def nodR (k : Nat) : List (List Int) := (List.range k).map fun (i : Nat) => [(i : Int)]
theorem nodR_next {k : Int} (h0 : 0 ≤ k) : nodR (k + 1).toNat = nodR k.toNat ++ [[k]] := by
  unfold nodR
  rw [show (k + 1).toNat = k.toNat + 1 by omega, List.range_succ, List.map_append]
  show _ ++ [[((k.toNat : Nat) : Int)]] = _
  rw [Int.toNat_of_nonneg h0]
theorem nodR_len (k : Nat) : (nodR k).length = k := by unfold nodR; rw [List.length_map, List.length_range]
theorem LoopL.viaV {S S' : AS} {Q : AX → AS → Prop} {c : Code} (hv : ∀ w0 B hd a w val, Rl w0 B hd S a w val → ∃ val', Rl w0 B hd S' a w val') (h : LoopL (fun _ => Try.prog) (fun _ => tab) c Q S') : LoopL (fun _ => Try.prog) (fun _ => tab) c Q S :=
  ⟨fun w0 B hd a w val hR => by
    obtain ⟨val', hR'⟩ := hv w0 B hd a w val hR
    exact h.out w0 B hd a w val' hR'⟩
theorem im_nodeSpace (n : Int) (l : List (Int × Int)) (n0 : 0 ≤ n) (n1 : n ≤ 8) (hl : l.length ≤ 1048576) : Spec2 Try.prog 78 [.cells [.int fun _ => n, .ref 0]] [some (.row 66 (.pr .int .int) fun _ => l)] [.cells [.ref 1, .ref 0]] [some (.row 66 (.pr .int .int) fun _ => l), some (.rows 22 3 .int fun _ => nodR n.toNat)] := by
  refine fnG [.cst 2 2 58] Try.func78 rfl (by decide) rfl (by kernel_rfl) (.inl rfl) (by kernel_rfl) (by simp) (by simp [Try.ntmps78]) ?_
  cbv
  refine LoopL.viaV (fun w0 B hd a w val hR => hR.nilR 22 3 .int [.box 3 0]) ?_
  refine loopX (by kernel_rfl) (fun k : Int => 0 ≤ k ∧ k ≤ n) (fun k => [(10, .int fun _ => k)]) (fun k => [(4, some (.rows 22 3 .int fun _ => nodR k.toNat)), (3, some (.box 58 [.ref 4, .ref 0]))]) (fun k => (n - k).toNat) (· + 1) 0 (by omega) ?_ ?_
  · cbv
    (simp only [IfP_iff, EqU_iff, Obl_iff, and_true, true_and, inI_iff, decide_eq_true_eq, decide_eq_false_iff_not]; (try simp only [natc, getI_gi, at2_0, at2_1]); (try dsimp only [Ty.den]); try simp only [natc] at *)
    rfl
  · intro k hk
    have b1 := nodR_next hk.1
    have b2 := nodR_len k.toNat
    have b3 : ¬ k < n → nodR k.toNat = nodR n.toNat := fun h => by rw [show k = n by omega]
    cbv
    ((try simp only [IfP_iff, and_true, true_and, decide_eq_true_eq, decide_eq_false_iff_not]); (try simp only [natc, getI_gi, at2_0, at2_1]); (try dsimp only [Ty.den]); (try simp only [natc] at *); (repeat' (first | apply And.intro | intro _)))
    all_goals (try (show Obl _; (simp only [IfP_iff, EqU_iff, Obl_iff, and_true, true_and, inI_iff, decide_eq_true_eq, decide_eq_false_iff_not]; (try simp only [natc, getI_gi, at2_0, at2_1]); (try dsimp only [Ty.den]); try simp only [natc] at *); ((repeat' (first | apply And.intro | intro _)) <;> first | omega | (simp only [List.length_cons, List.length_nil]; omega))))
    · refine RenL.mk ⟨[0, 1, 2, 3, 4], ?_⟩
      cbv
      (simp only [IfP_iff, EqU_iff, Obl_iff, and_true, true_and, inI_iff, decide_eq_true_eq, decide_eq_false_iff_not]; (try simp only [natc, getI_gi, at2_0, at2_1]); (try dsimp only [Ty.den]); try simp only [natc] at *)
      exact b1.symm
    · refine EndG.plain [0, 4] ?_
      cbv
      (simp only [IfP_iff, EqU_iff, Obl_iff, and_true, true_and, inI_iff, decide_eq_true_eq, decide_eq_false_iff_not]; (try simp only [natc, getI_gi, at2_0, at2_1]); (try dsimp only [Ty.den]); try simp only [natc] at *)
      exact b3 (by assumption)
end Go.Proofs.Ytoejmijcikehdaa.M
/- IsEven, in the program: the Graph's edges are a block of the caller. -/
namespace Go.Proofs.Ytoejmijcikehdaa.M
open Go.RowKit Abs
set_option linter.unusedSimpArgs false
set_option linter.unusedVariables false
set_option maxRecDepth 100000
set_option maxHeartbeats 4000000
theorem nodR_get {n : Nat} {k : Int} (h0 : 0 ≤ k) (h1 : k < (n : Int)) : getI (.sl .int) (nodR n) k = [k] := by
  have h2 : k.toNat < n := by omega
  unfold nodR getI
  simp [List.getElem?_map, List.getElem?_range h2, Int.toNat_of_nonneg h0]
theorem nodR_state {n : Nat} (h : n ≤ 8) : statesOk (nodR n) = true := by
  have : ∀ k : Nat, k ≤ 8 → statesOk (nodR k) = true := by
    intro k hk
    match k, hk with
    | 0, _ => decide +kernel
    | 1, _ => decide +kernel
    | 2, _ => decide +kernel
    | 3, _ => decide +kernel
    | 4, _ => decide +kernel
    | 5, _ => decide +kernel
    | 6, _ => decide +kernel
    | 7, _ => decide +kernel
    | 8, _ => decide +kernel
  exact this n h
theorem nodR_row {n : Nat} : ∀ s ∈ nodR n, s.length = 1 := by
  intro s hs
  unfold nodR at hs
  obtain ⟨i, _, rfl⟩ := List.mem_map.1 hs
  rfl
def evB (n : Int) (l : List (Int × Int)) : Bool := graphOk n l && parB (nodR n.toNat) l
theorem im_isEven (n : Int) (l : List (Int × Int)) (hl : l.length ≤ 1048576) : Spec2 Try.prog 46 [.cells [.int fun _ => n, .ref 0]] [some (.row 66 (.pr .int .int) fun _ => l)] [.bool fun _ => evB n l, .bool fun _ => graphOk n l] [some (.row 66 (.pr .int .int) fun _ => l)] := by
  have hg : graphOk n l = true → 0 ≤ n ∧ n ≤ 8 := fun h => by
    simp only [graphOk, Bool.and_eq_true, decide_eq_true_eq] at h
    exact h.1
  have hm : ∀ s ∈ nodR n.toNat, s.length ≤ 1048576 := fun s hs => by rw [nodR_row s hs]; omega
  have hL : n ≤ 8 → (nodR n.toNat).length ≤ 1048576 := fun h => by rw [nodR_len]; omega
  have e1 : graphOk n l = true → evB n l = parB (nodR n.toNat) l := fun h => by unfold evB; rw [h]; rfl
  have e0 : graphOk n l = false → evB n l = false := fun h => by unfold evB; rw [h]; rfl
  refine fnG [.tmp 2, .tmp 3] Try.func46 rfl (by decide) rfl (by kernel_rfl) (.inr (.inl rfl)) (by kernel_rfl) (by simp) (by simp [Try.ntmps46]) ?_
  cbv
  ((first | refine call_q (im_graph n l hl) (by cbv) ?_ | refine call_pure (im_graph n l hl) (by cbv) ?_); cbv; ((try simp only [IfP_iff, and_true, true_and, decide_eq_true_eq, decide_eq_false_iff_not]); (try simp only [natc, getI_gi, at2_0, at2_1]); (try dsimp only [Ty.den]); (try simp only [natc] at *); (repeat' (first | apply And.intro | intro _))))
  all_goals (try (simp only [IfP_iff, EqU_iff, Obl_iff, and_true, true_and, inI_iff, decide_eq_true_eq, decide_eq_false_iff_not]; (try simp only [natc, getI_gi, at2_0, at2_1]); (try dsimp only [Ty.den]); try simp only [natc] at *))
  · refine EndG.plain [0] ?_
    cbv
    (simp only [IfP_iff, EqU_iff, Obl_iff, and_true, true_and, inI_iff, decide_eq_true_eq, decide_eq_false_iff_not]; (try simp only [natc, getI_gi, at2_0, at2_1]); (try dsimp only [Ty.den]); try simp only [natc] at *)
    have hgf : graphOk n l = false := by
      rename_i h
      cases h2 : graphOk n l with
      | false => rfl
      | true => rw [h2] at h; cases h
    exact ⟨(e0 hgf).symm, hgf.symm⟩
  · have hgt : graphOk n l = true := by rename_i h; cases h2 : graphOk n l; · rw [h2] at h; cases h
                                        · rfl
    have e1' := e1 hgt
    (refine call_own 0 (im_nodeSpace n l (hg hgt).1 (hg hgt).2 hl) (by cbv) (by cbv; simp only [or_true, true_or, and_true]) ?_; cbv; ((try simp only [IfP_iff, and_true, true_and, decide_eq_true_eq, decide_eq_false_iff_not]); (try simp only [natc, getI_gi, at2_0, at2_1]); (try dsimp only [Ty.den]); (try simp only [natc] at *); (repeat' (first | apply And.intro | intro _))))
    ((first | refine call_q (im_parity (nodR n.toNat) l (hL (hg hgt).2) hl hm) (by cbv) ?_ | refine call_pure (im_parity (nodR n.toNat) l (hL (hg hgt).2) hl hm) (by cbv) ?_); cbv; ((try simp only [IfP_iff, and_true, true_and, decide_eq_true_eq, decide_eq_false_iff_not]); (try simp only [natc, getI_gi, at2_0, at2_1]); (try dsimp only [Ty.den]); (try simp only [natc] at *); (repeat' (first | apply And.intro | intro _))))
    all_goals (try (simp only [IfP_iff, EqU_iff, Obl_iff, and_true, true_and, inI_iff, decide_eq_true_eq, decide_eq_false_iff_not]; (try simp only [natc, getI_gi, at2_0, at2_1]); (try dsimp only [Ty.den]); try simp only [natc] at *))
    refine EndG.plain [0] ?_
    cbv
    (simp only [IfP_iff, EqU_iff, Obl_iff, and_true, true_and, inI_iff, decide_eq_true_eq, decide_eq_false_iff_not]; (try simp only [natc, getI_gi, at2_0, at2_1]); (try dsimp only [Ty.den]); try simp only [natc] at *)
    exact ⟨e1'.symm, hgt.symm⟩
end Go.Proofs.Ytoejmijcikehdaa.M
/- Colourings in order, as the specification makes them: l5More. -/
namespace Go.Proofs.Ytoejmijcikehdaa.M
open Go.RowKit Abs
set_option linter.unusedSimpArgs false
set_option linter.unusedVariables false
set_option maxRecDepth 100000
set_option maxHeartbeats 4000000
def frB (l : List (Int × Int)) (b : List Int) (c y : Int) : Bool := !decide (gi b y = c) || !nearB l y b.length
def freeB (l : List (Int × Int)) (b : List Int) (c : Int) : Bool := allI b.length (frB l b c)
def upTo0 (k : Nat) : List Int := (List.range k).map Int.ofNat
def mrF (l : List (Int × Int)) (k : Int) : Nat → List Int → List (List Int) → List (List Int)
  | 0, b, L => L ++ [b]
  | f + 1, b, L => (upTo0 k.toNat).foldl (fun X c => if X.length ≤ 300 ∧ freeB l b c = true then mrF l k f (b ++ [c]) X else X) L
def mrP (l : List (Int × Int)) (k : Int) (f : Nat) (b : List Int) (L : List (List Int)) (j : Int) : List (List Int) := (upTo0 j.toNat).foldl (fun X c => if X.length ≤ 300 ∧ freeB l b c = true then mrF l k f (b ++ [c]) X else X) L
theorem upTo0_next {k : Nat} : upTo0 (k + 1) = upTo0 k ++ [(k : Int)] := by
  unfold upTo0
  rw [List.range_succ, List.map_append]
  rfl
theorem mrP_next {l : List (Int × Int)} {k j : Int} {f : Nat} {b : List Int} {L : List (List Int)} (h0 : 0 ≤ j) : mrP l k f b L (j + 1) = if (mrP l k f b L j).length ≤ 300 ∧ freeB l b j = true then mrF l k f (b ++ [j]) (mrP l k f b L j) else mrP l k f b L j := by
  unfold mrP
  rw [show (j + 1).toNat = j.toNat + 1 by omega, upTo0_next, List.foldl_append, Int.toNat_of_nonneg h0]
  rfl
theorem mrP_stop {l : List (Int × Int)} {k j : Int} {f : Nat} {b : List Int} {L : List (List Int)} (h0 : 0 ≤ j) (hl : ¬ (mrP l k f b L j).length ≤ 300) : ∀ d : Nat, mrP l k f b L (j + d) = mrP l k f b L j
  | 0 => by rw [show j + ((0 : Nat) : Int) = j by omega]
  | d + 1 => by
    rw [show j + ((d + 1 : Nat) : Int) = j + d + 1 by omega, mrP_next (by omega), mrP_stop h0 hl d, if_neg (fun c => hl c.1)]
theorem mr_len {l : List (Int × Int)} {k : Int} : ∀ (f : Nat) (b : List Int) (L : List (List Int)), L.length ≤ 300 → (mrF l k f b L).length ≤ 301
  | 0, b, L, h => by
    show (L ++ [b]).length ≤ 301
    rw [List.length_append, List.length_cons, List.length_nil]
    omega
  | f + 1, b, L, h => by
    have key : ∀ (s : List Int) (X : List (List Int)), X.length ≤ 301 → (s.foldl (fun X c => if X.length ≤ 300 ∧ freeB l b c = true then mrF l k f (b ++ [c]) X else X) X).length ≤ 301 := fun s => by
      induction s with
      | nil => exact fun X hX => hX
      | cons c s ih =>
        intro X hX
        rw [List.foldl_cons]
        refine ih _ ?_
        split
        · rename_i hc
          exact mr_len f _ _ hc.1
        · exact hX
    exact key _ L (by omega)
theorem mrP_len {l : List (Int × Int)} {k : Int} {f : Nat} {b : List Int} {L : List (List Int)} (h : L.length ≤ 300) : ∀ j : Nat, (mrP l k f b L j).length ≤ 301
  | 0 => by
    show L.length ≤ 301
    omega
  | j + 1 => by
    have := mrP_len (l := l) (k := k) (f := f) (b := b) h j
    rw [show ((j + 1 : Nat) : Int) = (j : Int) + 1 by omega, mrP_next (by omega)]
    split
    · rename_i hc
      exact mr_len f _ _ hc.1
    · exact this
theorem allV_next {p : Int → Bool} {k : Int} (h0 : 0 ≤ k) : allI (k + 1).toNat p = (allI k.toNat p && p k) := by
  unfold allI
  rw [show (k + 1).toNat = k.toNat + 1 by omega, List.range_succ, List.all_append]
  simp only [List.all_cons, List.all_nil, Bool.and_true]
  rw [Int.toNat_of_nonneg h0]
end Go.Proofs.Ytoejmijcikehdaa.M
/- Colourings in order: the walk of l5More. -/
namespace Go.Proofs.Ytoejmijcikehdaa.M
open Go.RowKit Abs
set_option linter.unusedSimpArgs false
set_option linter.unusedVariables false
set_option maxRecDepth 100000
set_option maxHeartbeats 4000000
theorem sp_more (n : Int) (l : List (Int × Int)) (k : Int) (hl : l.length ≤ 1048576) (n0 : 0 ≤ n) (n1 : n ≤ 8) (k1 : k ≤ 1000) : ∀ (f : Nat) (b : List Int) (L : List (List Int)), (b.length : Int) + f = n → L.length ≤ 300 → Spec2 Try.prog 96 [.agg (.pr .int (.sl (.pr .int .int))) fun _ => (n, l), .int fun _ => k, .sl .int fun _ => b, .ref 0] [some (.rows 22 3 .int fun _ => L)] [.ref 1] [none, some (.rows 22 3 .int fun _ => mrF l k f b L)]
  | 0, b, L, hk, hL => by
    have e2 : L ++ [b] = mrF l k 0 b L := rfl
    have e1 : (b.length : Int) = n := by omega
    have so := sp_ownV b (by omega)
    generalize mrF l k 0 b L = G at *
    refine fnGE [2, 12] [.tmp 8] Try.func96 rfl (by decide) rfl (by kernel_rfl) (.inl rfl) (by kernel_rfl) (by simp) (by simp [Try.ntmps96]) ?_
    cbv
    ((try simp only [IfP_iff, and_true, true_and, decide_eq_true_eq, decide_eq_false_iff_not]); (try simp only [natc, getI_gi, at2_0, at2_1]); (try dsimp only [Ty.den]); (try simp only [natc] at *); (repeat' (first | apply And.intro | intro _)))
    all_goals (try (exact absurd e1 (by assumption)))
    refine DrawL.takeB 0 ?_
    refine DrawL.seqZ [] ?_
    cbv
    ((first | refine call_q so (by cbv) ?_ | refine call_pure so (by cbv) ?_); cbv; ((try simp only [IfP_iff, and_true, true_and, decide_eq_true_eq, decide_eq_false_iff_not]); (try simp only [natc, getI_gi, at2_0, at2_1]); (try dsimp only [Ty.den]); (try simp only [natc] at *); (repeat' (first | apply And.intro | intro _))))
    all_goals (try ((try simp only [IfP_iff, and_true, true_and, decide_eq_true_eq, decide_eq_false_iff_not]); (try simp only [natc, getI_gi, at2_0, at2_1]); (try dsimp only [Ty.den]); (try simp only [natc] at *); (repeat' (first | apply And.intro | intro _))))
    all_goals (first
      | (refine EndG.plain [0, 2] ?_
         cbv
         (simp only [IfP_iff, EqU_iff, Obl_iff, and_true, true_and, inI_iff, decide_eq_true_eq, decide_eq_false_iff_not]; (try simp only [natc, getI_gi, at2_0, at2_1]); (try dsimp only [Ty.den]); try simp only [natc] at *)
         exact e2)
      | ((try (simp only [IfP_iff, EqU_iff, Obl_iff, and_true, true_and, inI_iff, decide_eq_true_eq, decide_eq_false_iff_not]; (try simp only [natc, getI_gi, at2_0, at2_1]); (try dsimp only [Ty.den]); try simp only [natc] at *)); (repeat' (first | apply And.intro | intro _)) <;> first | omega | (simp only [List.length_cons, List.length_nil]; omega) | trace_state)
      | trace_state)
  | f + 1, b, L, hk, hL => by
    have e1 : ¬ (b.length : Int) = n := by omega
    have hb : b.length ≤ 1048576 := by omega
    have so := sp_ownV b hb
    have gE : mrP l k f b L k = mrF l k (f + 1) b L := rfl
    have ih := fun (c : Int) (X : List (List Int)) (hX : X.length ≤ 300) => sp_more n l k hl n0 n1 k1 f (b ++ [c]) X (by rw [List.length_append, List.length_cons, List.length_nil]; omega) hX
    have hln : ∀ j : Int, 0 ≤ j → (mrP l k f b L j).length ≤ 301 := fun j a => by
      have := mrP_len (l := l) (k := k) (f := f) (b := b) hL j.toNat
      rw [Int.toNat_of_nonneg a] at this
      exact this
    have hnx : ∀ j : Int, 0 ≤ j → mrP l k f b L (j + 1) = if (mrP l k f b L j).length ≤ 300 ∧ freeB l b j = true then mrF l k f (b ++ [j]) (mrP l k f b L j) else mrP l k f b L j := fun j a => mrP_next a
    have hst : ∀ j : Int, 0 ≤ j → j ≤ k ∨ j = 0 → ¬ j < k → mrP l k f b L j = mrP l k f b L k := fun j a h2 h3 => by
      by_cases hk0 : 0 ≤ k
      · rw [show j = k by omega]
      · unfold mrP
        rw [show j.toNat = k.toNat by omega]
    have hs2 : ∀ j : Int, 0 ≤ j → j < k → ¬ (mrP l k f b L j).length ≤ 300 → mrP l k f b L j = mrP l k f b L k := fun j a h2 h3 => by
      have := mrP_stop (l := l) (k := k) (f := f) (b := b) a h3 (k - j).toNat
      rw [show j + (((k - j).toNat : Nat) : Int) = k by omega] at this
      exact this.symm
    have g0 : L = mrP l k f b L 0 := rfl
    rw [← gE]
    generalize mrP l k f b L k = W at *
    refine fnGE [2, 12] [.tmp 8] Try.func96 rfl (by decide) rfl (by kernel_rfl) (.inl rfl) (by kernel_rfl) (by simp) (by simp [Try.ntmps96]) ?_
    cbv
    ((try simp only [IfP_iff, and_true, true_and, decide_eq_true_eq, decide_eq_false_iff_not]); (try simp only [natc, getI_gi, at2_0, at2_1]); (try dsimp only [Ty.den]); (try simp only [natc] at *); (repeat' (first | apply And.intro | intro _)))
    all_goals (try (exact absurd (by assumption) e1))
    refine LoopL.takeB 0 ?_
    refine loopXE [2, 12] (by kernel_rfl) (fun j : Int => 0 ≤ j ∧ (j ≤ k ∨ j = 0)) (fun j => [(9, .int fun _ => j), (3, .ref 2)]) (fun j => [(2, some (.rows 22 3 .int fun _ => mrP l k f b L j))]) (fun j => (k - j).toNat) (· + 1) 0 (by omega) ?_ ?_
    · cbv
      (simp only [IfP_iff, EqU_iff, Obl_iff, and_true, true_and, inI_iff, decide_eq_true_eq, decide_eq_false_iff_not]; (try simp only [natc, getI_gi, at2_0, at2_1]); (try dsimp only [Ty.den]); try simp only [natc] at *)
      exact g0
    · intro j hj
      have j0 : 0 ≤ j := hj.1
      have b1 := hln j j0
      have b2 := hnx j j0
      have b3 : ¬ j < k → mrP l k f b L j = W := fun h => hst j j0 hj.2 h
      have b4 : j < k → ¬ ((mrP l k f b L j).length : Int) ≤ 300 → mrP l k f b L j = W := fun h h2 => hs2 j j0 h (by omega)
      have sg := fun h : ((mrP l k f b L j).length : Int) ≤ 300 => ih j (mrP l k f b L j) (by omega)
      have c1 : ((mrP l k f b L j).length : Int) ≤ 300 → freeB l b j = true → mrF l k f (b ++ [j]) (mrP l k f b L j) = mrP l k f b L (j + 1) := fun h h2 => by rw [b2, if_pos ⟨by omega, h2⟩]
      have c2 : freeB l b j = false → mrP l k f b L j = mrP l k f b L (j + 1) := fun h => by rw [b2, if_neg (fun c => by rw [h] at c; exact absurd c.2 (by decide))]
      have fr0 : freeB l b j = allI b.length (frB l b j) := rfl
      generalize mrP l k f b L j = X at *
      generalize mrP l k f b L (j + 1) = Y at *
      generalize mrF l k f (b ++ [j]) X = Z at *
      clear ih hln hnx hst hs2 g0 b2 gE
      cbv
      ((try simp only [IfP_iff, and_true, true_and, decide_eq_true_eq, decide_eq_false_iff_not]); (try simp only [natc, getI_gi, at2_0, at2_1]); (try dsimp only [Ty.den]); (try simp only [natc] at *); (repeat' (first | apply And.intro | intro _)))
      · refine loopX (by kernel_rfl) (fun y : Int => 0 ≤ y ∧ y ≤ b.length) (fun y => [(11, .int fun _ => y), (10, .bool fun _ => allI y.toNat (frB l b j))]) (fun _ => []) (fun y => (b.length - y).toNat) (· + 1) 0 (by omega) ?_ ?_
        · cbv
          (simp only [IfP_iff, EqU_iff, Obl_iff, and_true, true_and, inI_iff, decide_eq_true_eq, decide_eq_false_iff_not]; (try simp only [natc, getI_gi, at2_0, at2_1]); (try dsimp only [Ty.den]); try simp only [natc] at *)
          rfl
        · intro y hy
          have d0 := allV_next (p := frB l b j) hy.1
          have d1 : frB l b j y = (!decide (gi b y = j) || !nearB l y b.length) := rfl
          have d2 : ¬ y < (b.length : Int) → allI y.toNat (frB l b j) = freeB l b j := fun h => by rw [fr0, show y.toNat = b.length by omega]
          have sn := sp_near n l y b.length hl
          have E1 : allI y.toNat (frB l b j) = true → (!decide (gi b y = j)) = true → true = allI (y + 1).toNat (frB l b j) := fun a b => by rw [d0, a, d1, b]; rfl
          have E2 : allI y.toNat (frB l b j) = true → (!decide (gi b y = j)) = false → (!nearB l y b.length) = allI (y + 1).toNat (frB l b j) := fun a b => by rw [d0, a, d1, b]; rfl
          have E3 : allI y.toNat (frB l b j) = false → false = allI (y + 1).toNat (frB l b j) := fun a => by rw [d0, a]; rfl
          clear d0 d1
          generalize allI y.toNat (frB l b j) = A at *
          generalize allI (y + 1).toNat (frB l b j) = A' at *
          generalize freeB l b j = F at *
          clear fr0
          cbv
          ((try simp only [IfP_iff, and_true, true_and, decide_eq_true_eq, decide_eq_false_iff_not]); (try simp only [natc, getI_gi, at2_0, at2_1]); (try dsimp only [Ty.den]); (try simp only [natc] at *); (repeat' (first | apply And.intro | intro _)))
          all_goals (repeat' (first | ((first | refine call_q sn (by cbv) ?_ | refine call_pure sn (by cbv) ?_); cbv; ((try simp only [IfP_iff, and_true, true_and, decide_eq_true_eq, decide_eq_false_iff_not]); (try simp only [natc, getI_gi, at2_0, at2_1]); (try dsimp only [Ty.den]); (try simp only [natc] at *); (repeat' (first | apply And.intro | intro _))))))
          all_goals (try ((try simp only [IfP_iff, and_true, true_and, decide_eq_true_eq, decide_eq_false_iff_not]); (try simp only [natc, getI_gi, at2_0, at2_1]); (try dsimp only [Ty.den]); (try simp only [natc] at *); (repeat' (first | apply And.intro | intro _))))
          all_goals (try (show Obl _; (simp only [IfP_iff, EqU_iff, Obl_iff, and_true, true_and, inI_iff, decide_eq_true_eq, decide_eq_false_iff_not]; (try simp only [natc, getI_gi, at2_0, at2_1]); (try dsimp only [Ty.den]); try simp only [natc] at *); ((repeat' (first | apply And.intro | intro _)) <;> first | omega)))
          all_goals (try (refine RenL.mk ⟨[0, 1, 2], ?_⟩
                          cbv
                          (simp only [IfP_iff, EqU_iff, Obl_iff, and_true, true_and, inI_iff, decide_eq_true_eq, decide_eq_false_iff_not]; (try simp only [natc, getI_gi, at2_0, at2_1]); (try dsimp only [Ty.den]); try simp only [natc] at *)
                          first
                            | exact E1 (by assumption) (by assumption)
                            | exact E2 (by assumption) (by assumption)
                            | exact E3 (by assumption)
                            | exact c2 ((d2 (by assumption)).symm.trans (by assumption))))
          refine DrawL.layersS [(3, fun S => S.new (some 59) (.ref S.H.length) (.row 3 .int fun _ => b)), (8, fun S => (S.after [2] [none, some (.rows 22 3 .int fun _ => Z)]).put (some 64) (.ref S.H.length))] [1, 2, 4, 7] (fun l i => if ((i == 3) && l.getD 5 false) = true then some [0, 1, 2, 4, 3] else none) [([false, true, true, false, true, false, false, true, false, false], [0, 3, 5]), ([true, true, true, false, true, false, false, true, false, false], [3, 5]), ([false, true, true, true, true, false, false, true, false, false], [0, 5]), ([false, true, true, false, true, true, false, true, false, false], [0, 3]), ([true, true, true, true, true, false, false, true, false, false], [5]), ([true, true, true, false, true, true, false, true, false, false], [3]), ([false, true, true, true, true, true, false, true, false, false], [0, 6]), ([true, true, true, true, true, true, false, true, false, false], [6]), ([false, true, true, true, true, true, true, true, false, false], [0]), ([true, true, true, true, true, true, true, true, false, false], [8]), ([true, true, true, true, true, true, true, true, true, false], [9]), ([true, true, true, true, true, true, true, true, true, true], [])] (by kernel_rfl) (by rfl) ?_
          cbv
          (repeat' (first | apply And.intro | apply EqU.mk))
          all_goals (try (first | trivial | rfl))
          all_goals (try (((first | refine call_q so (by cbv) ?_ | refine call_pure so (by cbv) ?_); cbv; ((try simp only [IfP_iff, and_true, true_and, decide_eq_true_eq, decide_eq_false_iff_not]); (try simp only [natc, getI_gi, at2_0, at2_1]); (try dsimp only [Ty.den]); (try simp only [natc] at *); (repeat' (first | apply And.intro | intro _)))); (try (first | trivial | rfl))))
          all_goals (try (refine call_own 2 (sg (by assumption)) (by exact ⟨rfl, rfl, trivial⟩) (by exact ⟨.inl rfl, .inl rfl, .inl rfl, .inr ⟨rfl, rfl⟩, trivial⟩) ?_
                          cbv))
          all_goals (try (refine call_own 2 (sg (by assumption)) (by cbv) (by exact ⟨.inl rfl, .inl rfl, .inl rfl, .inr ⟨rfl, rfl⟩, trivial⟩) ?_
                          cbv))
          all_goals (try (repeat' (first | apply And.intro | apply EqU.mk)))
          all_goals (try (first | trivial | rfl))
          all_goals (try (show Obl _; (simp only [IfP_iff, EqU_iff, Obl_iff, and_true, true_and, inI_iff, decide_eq_true_eq, decide_eq_false_iff_not]; (try simp only [natc, getI_gi, at2_0, at2_1]); (try dsimp only [Ty.den]); try simp only [natc] at *); ((repeat' (first | apply And.intro | intro _)) <;> first | omega | (simp only [List.length_cons, List.length_nil]; omega))))
          all_goals (try (refine call_own 2 (sg (by assumption)) ?_ ?_ ?_))
          all_goals (first
            | (refine RenL.mk ⟨[0, 1, 5], ?_⟩
               cbv
               (simp only [IfP_iff, EqU_iff, Obl_iff, and_true, true_and, inI_iff, decide_eq_true_eq, decide_eq_false_iff_not]; (try simp only [natc, getI_gi, at2_0, at2_1]); (try dsimp only [Ty.den]); try simp only [natc] at *)
               exact c1 (by assumption) ((d2 (by assumption)).symm.trans (by assumption)))
            | (trace_state; fail))
      all_goals (refine EndG.plain [0, 2] ?_; cbv; (simp only [IfP_iff, EqU_iff, Obl_iff, and_true, true_and, inI_iff, decide_eq_true_eq, decide_eq_false_iff_not]; (try simp only [natc, getI_gi, at2_0, at2_1]); (try dsimp only [Ty.den]); try simp only [natc] at *))
      · exact b4 (by assumption) (by assumption)
      · exact b3 (by assumption)
end Go.Proofs.Ytoejmijcikehdaa.M
/- IsEven, in the specification. -/
namespace Go.Proofs.Ytoejmijcikehdaa.M
open Go.RowKit Abs
set_option linter.unusedSimpArgs false
set_option linter.unusedVariables false
set_option maxRecDepth 100000
set_option maxHeartbeats 4000000
theorem sp_l9Even (n : Int) (l : List (Int × Int)) (hl : l.length ≤ 1048576) (hg : graphOk n l = true) : Spec2 Try.prog 75 [.agg (.pr .int (.sl (.pr .int .int))) fun _ => (n, l)] [] [.bool fun _ => decide (0 < ((mrF l 2 n.toNat [] []).length : Int))] [] := by
  have h := hg
  simp only [graphOk, Bool.and_eq_true, decide_eq_true_eq] at h
  have h0 := h.1.1
  have h8 := h.1.2
  have hs := sp_more n l 2 hl h0 h8 (by omega) n.toNat [] [] (by simp; omega) (by simp)
  have hlen := mr_len (l := l) (k := 2) n.toNat [] [] (by simp)
  refine fnG [.tmp 2] Try.func75 rfl (by decide) rfl (by kernel_rfl) (.inl rfl) (by kernel_rfl) (by simp) (by simp [Try.ntmps75]) ?_
  cbv
  (refine call_own 2 (hs) (by cbv) (by cbv; simp only [or_true, true_or, and_true]) ?_; cbv; ((try simp only [IfP_iff, and_true, true_and, decide_eq_true_eq, decide_eq_false_iff_not]); (try simp only [natc, getI_gi, at2_0, at2_1]); (try dsimp only [Ty.den]); (try simp only [natc] at *); (repeat' (first | apply And.intro | intro _))))
  all_goals (try (simp only [IfP_iff, EqU_iff, Obl_iff, and_true, true_and, inI_iff, decide_eq_true_eq, decide_eq_false_iff_not]; (try simp only [natc, getI_gi, at2_0, at2_1]); (try dsimp only [Ty.den]); try simp only [natc] at *))
  · refine EndG.plain [] ?_
    cbv
    (simp only [IfP_iff, EqU_iff, Obl_iff, and_true, true_and, inI_iff, decide_eq_true_eq, decide_eq_false_iff_not]; (try simp only [natc, getI_gi, at2_0, at2_1]); (try dsimp only [Ty.den]); try simp only [natc] at *)
    done
theorem sp_isEven (n : Int) (l : List (Int × Int)) (hl : l.length ≤ 1048576) : Spec2 Try.prog 45 [.agg (.pr .int (.sl (.pr .int .int))) fun _ => (n, l)] [] [.bool fun _ => graphOk n l && decide (0 < ((mrF l 2 n.toNat [] []).length : Int)), .bool fun _ => graphOk n l] [] := by
  refine fnG [.tmp 2, .tmp 3] Try.func45 rfl (by decide) rfl (by kernel_rfl) (.inr (.inl rfl)) (by kernel_rfl) (by simp) (by simp [Try.ntmps45]) ?_
  have e1 : graphOk n l = true → (graphOk n l && decide (0 < ((mrF l 2 n.toNat [] []).length : Int))) = decide (0 < ((mrF l 2 n.toNat [] []).length : Int)) := fun h => by rw [h]; rfl
  have e0 : graphOk n l = false → (graphOk n l && decide (0 < ((mrF l 2 n.toNat [] []).length : Int))) = false := fun h => by rw [h]; rfl
  generalize hE : (graphOk n l && decide (0 < ((mrF l 2 n.toNat [] []).length : Int))) = E at *
  cbv
  ((first | refine call_q (sp_good n l hl) (by cbv) ?_ | refine call_pure (sp_good n l hl) (by cbv) ?_); cbv; ((try simp only [IfP_iff, and_true, true_and, decide_eq_true_eq, decide_eq_false_iff_not]); (try simp only [natc, getI_gi, at2_0, at2_1]); (try dsimp only [Ty.den]); (try simp only [natc] at *); (repeat' (first | apply And.intro | intro _))))
  all_goals (try (simp only [IfP_iff, EqU_iff, Obl_iff, and_true, true_and, inI_iff, decide_eq_true_eq, decide_eq_false_iff_not]; (try simp only [natc, getI_gi, at2_0, at2_1]); (try dsimp only [Ty.den]); try simp only [natc] at *))
  · refine EndG.plain [] ?_
    cbv
    (simp only [IfP_iff, EqU_iff, Obl_iff, and_true, true_and, inI_iff, decide_eq_true_eq, decide_eq_false_iff_not]; (try simp only [natc, getI_gi, at2_0, at2_1]); (try dsimp only [Ty.den]); try simp only [natc] at *)
    have hgf : graphOk n l = false := by
      rename_i h
      cases h2 : graphOk n l with
      | false => rfl
      | true => rw [h2] at h; cases h
    exact ⟨(e0 hgf).symm, hgf.symm⟩
  · have hgt : graphOk n l = true := by
      rename_i h
      cases h2 : graphOk n l with
      | true => rfl
      | false => rw [h2] at h; cases h
    have e1' := e1 hgt
    ((first | refine call_q (sp_l9Even n l hl hgt) (by cbv) ?_ | refine call_pure (sp_l9Even n l hl hgt) (by cbv) ?_); cbv; ((try simp only [IfP_iff, and_true, true_and, decide_eq_true_eq, decide_eq_false_iff_not]); (try simp only [natc, getI_gi, at2_0, at2_1]); (try dsimp only [Ty.den]); (try simp only [natc] at *); (repeat' (first | apply And.intro | intro _))))
    all_goals (try (simp only [IfP_iff, EqU_iff, Obl_iff, and_true, true_and, inI_iff, decide_eq_true_eq, decide_eq_false_iff_not]; (try simp only [natc, getI_gi, at2_0, at2_1]); (try dsimp only [Ty.den]); try simp only [natc] at *))
    refine EndG.plain [] ?_
    cbv
    (simp only [IfP_iff, EqU_iff, Obl_iff, and_true, true_and, inI_iff, decide_eq_true_eq, decide_eq_false_iff_not]; (try simp only [natc, getI_gi, at2_0, at2_1]); (try dsimp only [Ty.den]); try simp only [natc] at *)
    exact ⟨e1'.symm, hgt.symm⟩
end Go.Proofs.Ytoejmijcikehdaa.M
/- Colourings in order (pure): there is one iff the search finds one. -/
namespace Go.Proofs.Ytoejmijcikehdaa.M
open Go.RowKit Abs
set_option linter.unusedSimpArgs false
set_option linter.unusedVariables false
set_option maxRecDepth 100000
set_option maxHeartbeats 4000000
theorem mrS_mono {l : List (Int × Int)} {k : Int} {f : Nat} {b : List Int} (hm : ∀ (b : List Int) (X : List (List Int)), X ≠ [] → mrF l k f b X ≠ []) : ∀ (s : List Int) (X : List (List Int)), X ≠ [] → s.foldl (fun X c => if X.length ≤ 300 ∧ freeB l b c = true then mrF l k f (b ++ [c]) X else X) X ≠ [] := fun s => by
  induction s with
  | nil => exact fun X h => h
  | cons c s ih =>
    intro X h
    rw [List.foldl_cons]
    refine ih _ ?_
    split
    · exact hm _ _ h
    · exact h
theorem mr_mono {l : List (Int × Int)} {k : Int} : ∀ (f : Nat) (b : List Int) (X : List (List Int)), X ≠ [] → mrF l k f b X ≠ []
  | 0, b, X, h => by
    show X ++ [b] ≠ []
    simp
  | f + 1, b, X, h => mrS_mono (fun b X h => mr_mono f b X h) _ X h
def colP (l : List (Int × Int)) (k : Int) (m : Nat) (c : List Int) : Prop := ∀ j : Nat, m ≤ j → j < c.length → 0 ≤ gi c j ∧ gi c j < k ∧ freeB l (c.take j) (gi c j) = true
theorem take_snoc {c : List Int} {j : Nat} (h : j < c.length) : c.take (j + 1) = c.take j ++ [gi c j] := by
  have := gi_get (l := c) (i := (j : Int)) (by omega) (by omega)
  rw [Int.toNat_natCast] at this
  rw [List.take_add_one, this]
  rfl
theorem upTo0_mem {k x : Int} (h0 : 0 ≤ x) (h1 : x < k) : x ∈ upTo0 k.toNat := by
  unfold upTo0
  exact List.mem_map.2 ⟨x.toNat, List.mem_range.2 (by omega), by show ((x.toNat : Nat) : Int) = x; omega⟩
theorem mr_full {l : List (Int × Int)} {k : Int} {c : List Int} : ∀ (f : Nat) (b : List Int) (X : List (List Int)), c.length = b.length + f → c.take b.length = b → colP l k b.length c → mrF l k f b X ≠ []
  | 0, b, X, _, _, _ => by
    show X ++ [b] ≠ []
    simp
  | f + 1, b, X, h1, h2, h3 => by
    have hj : b.length < c.length := by omega
    have hc := h3 b.length (Nat.le_refl _) hj
    have ht := take_snoc hj
    rw [h2] at ht hc
    have hx := upTo0_mem hc.1 hc.2.1
    have ih := fun X => mr_full (l := l) (k := k) (c := c) f (b ++ [gi c b.length]) X (by simp; omega) (by simp only [List.length_append, List.length_cons, List.length_nil]; exact ht) (fun j a d => h3 j (by simp at a; omega) d)
    have key : ∀ (s : List Int), gi c b.length ∈ s → ∀ X : List (List Int), s.foldl (fun X c => if X.length ≤ 300 ∧ freeB l b c = true then mrF l k f (b ++ [c]) X else X) X ≠ [] := fun s => by
      induction s with
      | nil => intro h; simp at h
      | cons a s ihs =>
        intro h X
        rw [List.foldl_cons]
        rcases List.mem_cons.1 h with h | h
        · refine mrS_mono (fun b X h => mr_mono f b X h) s _ ?_
          rw [← h]
          split
          · exact ih X
          · rename_i hn
            intro hX
            subst hX
            exact hn ⟨by simp, hc.2.2⟩
        · exact ihs h _
    exact key _ hx X
theorem mr_sound {l : List (Int × Int)} {k : Int} : ∀ (f : Nat) (b : List Int) (X : List (List Int)), mrF l k f b X ≠ [] → X ≠ [] ∨ ∃ c : List Int, c.length = b.length + f ∧ c.take b.length = b ∧ colP l k b.length c
  | 0, b, X, _ => .inr ⟨b, by omega, List.take_length, fun j a d => by omega⟩
  | f + 1, b, X, h => by
    have key : ∀ (s : List Int), (∀ x ∈ s, 0 ≤ x ∧ x < k) → ∀ X : List (List Int), s.foldl (fun X c => if X.length ≤ 300 ∧ freeB l b c = true then mrF l k f (b ++ [c]) X else X) X ≠ [] → X ≠ [] ∨ ∃ c : List Int, c.length = b.length + (f + 1) ∧ c.take b.length = b ∧ colP l k b.length c := fun s => by
      induction s with
      | nil => exact fun _ X h => .inl h
      | cons a s ihs =>
        intro hs X h
        rw [List.foldl_cons] at h
        rcases ihs (fun x hx => hs x (List.mem_cons_of_mem _ hx)) _ h with h | h
        · split at h
          · rename_i hf
            rcases mr_sound f _ _ h with h | ⟨c, c1, c2, c3⟩
            · exact .inl h
            · simp only [List.length_append, List.length_cons, List.length_nil] at c1 c2 c3
              have hj : b.length < c.length := by omega
              have ht := take_snoc hj
              rw [c2] at ht
              have e := List.append_inj' ht rfl
              have e2 : a = gi c b.length := by simpa using e.2
              refine .inr ⟨c, by omega, e.1.symm, fun j j1 j2 => ?_⟩
              by_cases hjb : j = b.length
              · subst hjb
                rw [← e.1, ← e2]
                have := hs a List.mem_cons_self
                exact ⟨this.1, this.2, hf.2⟩
              · exact c3 j (by omega) j2
          · exact .inl h
        · exact .inr h
    refine key _ (fun x hx => ?_) X h
    unfold upTo0 at hx
    obtain ⟨i, hi, rfl⟩ := List.mem_map.1 hx
    have := List.mem_range.1 hi
    exact ⟨Int.natCast_nonneg i, by show (i : Int) < k; omega⟩
theorem gi_take {c : List Int} {j : Nat} {y : Int} (y0 : 0 ≤ y) (y1 : y < j) : gi (c.take j) y = gi c y := by
  unfold gi
  rw [List.getD_eq_getElem?_getD, List.getD_eq_getElem?_getD, List.getElem?_take_of_lt (by omega)]
theorem near_edge {l : List (Int × Int)} {a b : Int} : nearB l a b = true ↔ (a, b) ∈ l ∨ (b, a) ∈ l := by
  unfold nearB
  rw [List.any_eq_true]
  constructor
  · rintro ⟨⟨x, y⟩, hm, h⟩
    unfold hit at h
    simp at h
    grind
  · rintro (h | h)
    · exact ⟨_, h, by unfold hit; simp⟩
    · exact ⟨_, h, by unfold hit; simp⟩
theorem mr_iff {n : Int} {l : List (Int × Int)} {k : Int} (n0 : 0 ≤ n) (he : ∀ e ∈ l, 0 ≤ e.1 ∧ e.1 < e.2 ∧ e.2 < n) : mrF l k n.toNat [] [] ≠ [] ↔ ∃ c : List Int, c.length = n.toNat ∧ (∀ v : Int, 0 ≤ v → v < n → 0 ≤ gi c v ∧ gi c v < k) ∧ ∀ e ∈ l, gi c e.1 ≠ gi c e.2 := by
  constructor
  · intro h
    rcases mr_sound n.toNat [] [] h with h | ⟨c, c1, _, c3⟩
    · exact absurd rfl h
    · simp only [List.length_nil, Nat.zero_add] at c1 c3
      refine ⟨c, c1, fun v v0 v1 => ?_, fun e hm hc => ?_⟩
      · have := c3 v.toNat (by omega) (by omega)
        rw [Int.toNat_of_nonneg v0] at this
        exact ⟨this.1, this.2.1⟩
      · have h1 := he e hm
        have := (c3 e.2.toNat (by omega) (by omega)).2.2
        rw [Int.toNat_of_nonneg (by omega)] at this
        unfold freeB at this
        have h2 := allI_get this (k := e.1) h1.1 (by rw [List.length_take]; omega)
        unfold frB at h2
        rw [gi_take h1.1 (by omega), List.length_take, show ((min e.2.toNat c.length : Nat) : Int) = e.2 by omega, hc, near_edge.2 (.inl hm)] at h2
        simp at h2
  · rintro ⟨c, c1, c2, c3⟩
    refine mr_full n.toNat [] [] (by simp; omega) (by simp) fun j _ hj => ?_
    have h1 := c2 j (by omega) (by omega)
    refine ⟨h1.1, h1.2, ?_⟩
    unfold freeB
    refine allI_good fun y y0 y1 => ?_
    rw [List.length_take] at y1
    unfold frB
    rw [gi_take y0 (by omega), List.length_take, show ((min j c.length : Nat) : Int) = j by omega]
    by_cases hn : nearB l y j = true
    · have : gi c y ≠ gi c j := by
        rcases near_edge.1 hn with h | h
        · exact c3 _ h
        · exact fun a => c3 _ h a.symm
      simp [this]
    · simp [hn]
end Go.Proofs.Ytoejmijcikehdaa.M
/- IsEven, pure: the labels of the parts differ at the ends of each edge iff there is a colouring by two. -/
namespace Go.Proofs.Ytoejmijcikehdaa.M
open Go.RowKit Abs
set_option linter.unusedSimpArgs false
set_option linter.unusedVariables false
set_option maxRecDepth 100000
set_option maxHeartbeats 4000000
theorem putAll_get {f : Int → Int} {v : Int} : ∀ {p o : List Int}, 0 ≤ v → (∀ w ∈ p, 0 ≤ w ∧ w < (o.length : Int)) → gi (putAll f p o) v = if v ∈ p then f v else gi o v
  | [], o, v0, _ => by rw [if_neg (by simp)]; rfl
  | x :: p, o, v0, h => by
    have hx := h x List.mem_cons_self
    have ih := putAll_get (f := f) (v := v) (p := p) (o := setI o x (f x)) v0 (fun w hw => by rw [setI_len]; exact h w (List.mem_cons_of_mem _ hw))
    show gi (putAll f p (setI o x (f x))) v = _
    rw [ih, gi_set]
    by_cases hv : v ∈ p
    · rw [if_pos hv, if_pos (List.mem_cons_of_mem _ hv)]
    · rw [if_neg hv]
      by_cases hx2 : x = v
      · subst hx2
        rw [if_pos (by omega), if_pos List.mem_cons_self]
      · rw [if_neg (by omega), if_neg (by simp; exact ⟨fun a => hx2 a.symm, hv⟩)]
theorem putTo_last {F : Int → Int → Int} {P : List (List Int)} {o : List Int} {v : Int} (v0 : 0 ≤ v) (hP : ∀ p ∈ P, ∀ w ∈ p, 0 ≤ w ∧ w < (o.length : Int)) : ∀ k : Nat, k ≤ P.length → (∃ i : Int, 0 ≤ i ∧ i < k ∧ v ∈ getR .int P i) → ∃ i : Int, 0 ≤ i ∧ i < k ∧ v ∈ getR .int P i ∧ gi (putTo F P o k) v = F i v ∧ ∀ j : Int, i < j → j < k → v ∉ getR .int P j
  | 0, _, ⟨i, a, b, _⟩ => by omega
  | k + 1, hk, ⟨i, i0, i1, hi⟩ => by
    have e := putTo_next (F := F) (P := P) (o := o) (k := (k : Int)) (by omega)
    rw [show ((k : Int) + 1).toNat = k + 1 by omega, Int.toNat_natCast] at e
    have hp := putAll_get (f := F k) (v := v) (p := getR .int P k) (o := putTo F P o k) v0 (fun w hw => by rw [putTo_len]; exact hP _ (getR_mem (by omega) (by omega)) w hw)
    rw [e, hp]
    by_cases hv : v ∈ getR .int P k
    · exact ⟨k, by omega, by omega, hv, by rw [if_pos hv], fun j a b => by omega⟩
    · have hik : i ≠ k := fun c => hv (c ▸ hi)
      obtain ⟨m, m0, m1, m2, m3, m4⟩ := putTo_last v0 hP k (by omega) ⟨i, i0, by omega, hi⟩
      refine ⟨m, m0, by omega, m2, by rw [if_neg hv]; exact m3, fun j a b => ?_⟩
      by_cases hj : j = k
      · rw [hj]; exact hv
      · exact m4 j a (by omega)
structure PartsCov (L : List (List Int)) (l : List (Int × Int)) (S : PS) (k : Int) : Prop where
  src : ∀ p ∈ S.1, ∃ i : Int, 0 ≤ i ∧ i < L.length ∧ p = partL L l i
  has : ∀ v : Int, 0 ≤ v → v < L.length → gb S.2 v = true → ∃ p ∈ S.1, v ∈ p
  all : ∀ v : Int, 0 ≤ v → v < k → gb S.2 v = true
theorem parts_cov {L : List (List Int)} {l : List (Int × Int)} (hp : pairsOk l L.length = true) : ∀ k : Nat, k ≤ L.length → PartsCov L l (partsTo L l k) k
  | 0, _ => ⟨fun p h => by simp [partsTo] at h, fun v _ _ h => absurd (show gb (List.replicate L.length false) v = true from h) (by rw [gb_repl]; simp), fun v a b => by omega⟩
  | k + 1, hk => by
    have ih := parts_cov hp k (by omega)
    have ok := partsTo_ok hp k (by omega)
    have := partsTo_next (L := L) (l := l) (k := (k : Int)) (by omega)
    rw [show ((k : Int) + 1).toNat = k + 1 by omega, Int.toNat_natCast] at this
    rw [this]
    unfold pstep
    split
    · rename_i hs
      exact ⟨ih.src, ih.has, fun v a b => by
        by_cases hv : v = k
        · rw [hv]; exact hs
        · exact ih.all v a (by omega)⟩
    · refine ⟨fun p h => ?_, fun v a b h => ?_, fun v a b => ?_⟩
      · rcases List.mem_append.1 h with h | h
        · exact ih.src p h
        · rw [List.mem_singleton] at h
          exact ⟨k, by omega, by omega, h⟩
      · have h1 : gb (markP (fnd (distR L l k)) (partsTo L l k).2) v = true := h
        rw [markP_get a (by rw [ok.len]; exact b)] at h1
        rcases Bool.or_eq_true_iff.1 h1 with h1 | h1
        · obtain ⟨p, hp1, hp2⟩ := ih.has v a b h1
          exact ⟨p, List.mem_append.2 (.inl hp1), hp2⟩
        · exact ⟨_, List.mem_append.2 (.inr (List.mem_singleton.2 rfl)), pref_mem.2 ⟨a, by omega, h1⟩⟩
      · show gb (markP (fnd (distR L l k)) (partsTo L l k).2) v = true
        rw [markP_get a (by rw [ok.len]; omega)]
        by_cases hv : v = k
        · rw [hv]
          simp [fnd, (dist_zero hp (show (0 : Int) ≤ k by omega) (by omega)).1]
        · rw [ih.all v a (by omega)]
          rfl
theorem back_to {L : List (List Int)} {l : List (Int × Int)} (hp : pairsOk l L.length = true) {i r : Int} (i0 : 0 ≤ i) (i1 : i < L.length) (r0 : 0 ≤ r) (r1 : r < L.length) : ∀ (d : Nat) (w : Int), 0 ≤ w → w < L.length → gi (distR L l i) w = d → 0 ≤ gi (distR L l r) w → 0 ≤ gi (distR L l r) i
  | 0, w, w0, w1, hd, hw => by
    have := (dist_zero hp i0 i1).2 w w0 w1 (by omega)
    rw [← this]
    exact hw
  | d + 1, w, w0, w1, hd, hw => by
    have hn : w ≠ i := fun c => by
      have := (dist_zero hp i0 i1).1
      rw [c] at hd
      omega
    obtain ⟨u, u1, u2, u3⟩ := dist_pred hp i0 i1 w0 w1 (by omega) hn
    have h := dist_step hp r0 r1 w0 w1 hw u1
    exact back_to hp i0 i1 r0 r1 d u h.1 h.2.1 (by omega) h.2.2.1
theorem fore_to {L : List (List Int)} {l : List (Int × Int)} (hp : pairsOk l L.length = true) {i r : Int} (i0 : 0 ≤ i) (i1 : i < L.length) (r0 : 0 ≤ r) (r1 : r < L.length) (hr : 0 ≤ gi (distR L l r) i) : ∀ (d : Nat) (w : Int), 0 ≤ w → w < L.length → gi (distR L l i) w = d → 0 ≤ gi (distR L l r) w
  | 0, w, w0, w1, hd => by
    have := (dist_zero hp i0 i1).2 w w0 w1 (by omega)
    rw [this]
    exact hr
  | d + 1, w, w0, w1, hd => by
    have hn : w ≠ i := fun c => by
      have := (dist_zero hp i0 i1).1
      rw [c] at hd
      omega
    obtain ⟨u, u1, u2, u3⟩ := dist_pred hp i0 i1 w0 w1 (by omega) hn
    have h := dist_step hp i0 i1 w0 w1 (by omega) u1
    have ih := fore_to hp i0 i1 r0 r1 hr d u h.1 h.2.1 (by omega)
    exact (dist_step hp r0 r1 h.1 h.2.1 ih ((near_sym hp w0 h.1).1 u1)).2.2.1
theorem near_of {L : List (List Int)} {l : List (Int × Int)} (hp : pairsOk l L.length = true) {e : Int × Int} (he : e ∈ l) : e.2 ∈ getR .int (nearR l L.length) e.1 := by
  have h := (pairs_edges hp).1
  rw [nearR_row (h e he).1 h, rowV_mem hp]
  exact .inr he
theorem edge_of {L : List (List Int)} {l : List (Int × Int)} (hp : pairsOk l L.length = true) {u v : Int} (v0 : 0 ≤ v) (hu : u ∈ getR .int (nearR l L.length) v) : (u, v) ∈ l ∨ (v, u) ∈ l := by
  have h := (pairs_edges hp).1
  rwa [nearR_row v0 h, rowV_mem hp] at hu
theorem alt {L : List (List Int)} {l : List (Int × Int)} (hp : pairsOk l L.length = true) {r : Int} (r0 : 0 ≤ r) (r1 : r < L.length) {c : List Int} (hc : ∀ v : Int, 0 ≤ v → v < L.length → 0 ≤ gi c v ∧ gi c v < 2) (he : ∀ e ∈ l, gi c e.1 ≠ gi c e.2) : ∀ (d : Nat) (w : Int), 0 ≤ w → w < L.length → gi (distR L l r) w = d → gi c w = (gi c r + d) % 2
  | 0, w, w0, w1, hd => by
    have := (dist_zero hp r0 r1).2 w w0 w1 (by omega)
    have h := hc r r0 r1
    rw [this]
    omega
  | d + 1, w, w0, w1, hd => by
    have hn : w ≠ r := fun c => by
      have := (dist_zero hp r0 r1).1
      rw [c] at hd
      omega
    obtain ⟨u, u1, u2, u3⟩ := dist_pred hp r0 r1 w0 w1 (by omega) hn
    have h := dist_step hp r0 r1 w0 w1 (by omega) u1
    have ih := alt hp r0 r1 hc he d u h.1 h.2.1 (by omega)
    have h1 := hc w w0 w1
    have h2 := hc u h.1 h.2.1
    have h3 : gi c u ≠ gi c w := by
      rcases edge_of hp w0 u1 with a | a
      · exact he _ a
      · exact fun b => he _ a b.symm
    omega
/-- What a label is: the distance, modulo two, from a place of the same part. -/
theorem lab_of {L : List (List Int)} {l : List (Int × Int)} (hp : pairsOk l L.length = true) {a : Int} (a0 : 0 ≤ a) (a1 : a < L.length) : ∃ r : Int, 0 ≤ r ∧ r < L.length ∧ 0 ≤ gi (distR L l r) a ∧ gi (parR L l) a = (gi (distR L l r) a) % 2 ∧ ∀ b : Int, 0 ≤ b → b < L.length → 0 ≤ gi (distR L l r) b → gi (parR L l) b = (gi (distR L l r) b) % 2 := by
  have cv := parts_cov hp L.length (Nat.le_refl _)
  have hps := (parts_ok hp).2
  have conn : ∀ p ∈ partsR L l, ∀ x ∈ p, ∀ y : Int, 0 ≤ y → y < L.length → (y ∈ p ↔ 0 ≤ gi (distR L l x) y) := fun p hpm x hx y y0 y1 => by
    obtain ⟨i, i0, i1, rfl⟩ := cv.src p hpm
    have hx2 := pref_mem.1 hx
    have hxd : 0 ≤ gi (distR L l i) x := by have := hx2.2.2; unfold fnd at this; simpa using this
    have hb := back_to hp i0 i1 hx2.1 hx2.2.1 (gi (distR L l i) x).toNat x hx2.1 hx2.2.1 (by omega) (by rw [(dist_zero hp hx2.1 hx2.2.1).1]; omega)
    constructor
    · intro hy
      have hy2 := pref_mem.1 hy
      have hyd : 0 ≤ gi (distR L l i) y := by have := hy2.2.2; unfold fnd at this; simpa using this
      exact fore_to hp i0 i1 hx2.1 hx2.2.1 hb (gi (distR L l i) y).toNat y y0 y1 (by omega)
    · intro hy
      refine pref_mem.2 ⟨y0, y1, ?_⟩
      unfold fnd
      exact decide_eq_true (fore_to hp hx2.1 hx2.2.1 i0 i1 hxd (gi (distR L l x) y).toNat y y0 y1 (by omega))
  have hm : ∀ p ∈ partsR L l, ∀ w ∈ p, 0 ≤ w ∧ w < ((List.replicate L.length (0 : Int)).length : Int) := fun p h w hw => by
    rw [List.length_replicate]
    exact (hps p h).2.2 w hw
  have last : ∀ v : Int, 0 ≤ v → v < L.length → ∃ i : Int, 0 ≤ i ∧ i < (partsR L l).length ∧ v ∈ getR .int (partsR L l) i ∧ gi (parR L l) v = parG L l i v ∧ ∀ j : Int, i < j → j < (partsR L l).length → v ∉ getR .int (partsR L l) j := fun v v0 v1 => by
    obtain ⟨p, p1, p2⟩ := cv.has v v0 v1 (cv.all v v0 v1)
    obtain ⟨j, hj, e⟩ := List.mem_iff_getElem.1 (show p ∈ partsR L l from p1)
    rw [parR_eq]
    refine putTo_last v0 hm _ (Nat.le_refl _) ⟨j, by omega, by omega, ?_⟩
    have := getR_get (t := .int) (l := partsR L l) (i := (j : Int)) (by omega) (by omega)
    rw [Int.toNat_natCast, List.getElem?_eq_getElem hj, e] at this
    rw [← Option.some.inj this]
    exact p2
  obtain ⟨i, i0, i1, i2, i3, i4⟩ := last a a0 a1
  have hpm := getR_mem i0 i1
  have hne := hps _ hpm
  have hr := gi_mem (l := getR .int (partsR L l) i) (i := 0) (by omega) (by have := List.length_pos_iff.2 hne.1; omega)
  have hr2 := hne.2.2 _ hr
  have key : ∀ b : Int, 0 ≤ b → b < L.length → 0 ≤ gi (distR L l (gi (getR .int (partsR L l) i) 0)) b → gi (parR L l) b = (gi (distR L l (gi (getR .int (partsR L l) i) 0)) b) % 2 := fun b b0 b1 hb => by
    obtain ⟨j, j0, j1, j2, j3, j4⟩ := last b b0 b1
    have hbi := (conn _ hpm _ hr b b0 b1).2 hb
    have hpj := getR_mem j0 j1
    have hij : j = i := by
      rcases Int.lt_trichotomy i j with h | h | h
      · have h1 := (conn _ hpm _ hbi a a0 a1).1 i2
        exact absurd ((conn _ hpj _ j2 a a0 a1).2 h1) (i4 j h j1)
      · exact h.symm
      · exact absurd hbi (j4 i h i1)
    rw [j3, hij]
    unfold parG
    rw [Int.tmod_eq_emod_of_nonneg hb]
  have ha := (conn _ hpm _ hr a a0 a1).1 i2
  exact ⟨_, hr2.1, hr2.2, ha, key a a0 a1 ha, key⟩
theorem par_iff {L : List (List Int)} {l : List (Int × Int)} (hp : pairsOk l L.length = true) : parOk L l = true ↔ ∃ c : List Int, c.length = L.length ∧ (∀ v : Int, 0 ≤ v → v < L.length → 0 ≤ gi c v ∧ gi c v < 2) ∧ ∀ e ∈ l, gi c e.1 ≠ gi c e.2 := by
  have hE := (pairs_edges hp).1
  constructor
  · intro h
    refine ⟨parR L l, by rw [parR_eq, putTo_len, List.length_replicate], fun v v0 v1 => ?_, fun e he => ?_⟩
    · obtain ⟨r, _, _, r2, r3, _⟩ := lab_of hp v0 v1
      omega
    · unfold parOk at h
      have := List.all_eq_true.1 h e he
      unfold neB at this
      simpa using this
  · rintro ⟨c, c1, c2, c3⟩
    unfold parOk
    refine List.all_eq_true.2 fun e he => ?_
    have h := hE e he
    obtain ⟨r, r0, r1, r2, r3, r4⟩ := lab_of hp (a := e.1) h.1 (by omega)
    have h2 := dist_step hp r0 r1 h.1 (by omega) r2 (near_of hp he)
    have h3 := r4 e.2 h2.1 h2.2.1 h2.2.2.1
    have a1 := alt hp r0 r1 c2 c3 (gi (distR L l r) e.1).toNat e.1 h.1 (by omega) (by omega)
    have a2 := alt hp r0 r1 c2 c3 (gi (distR L l r) e.2).toNat e.2 (by omega) (by omega) (by omega)
    have a3 := c3 e he
    have a4 := c2 e.1 h.1 (by omega)
    have a5 := c2 e.2 (by omega) (by omega)
    unfold neB
    have : gi (parR L l) e.1 ≠ gi (parR L l) e.2 := by omega
    simp [this]
def prsE : List (Int × Int) := (List.range 8).flatMap fun (b : Nat) => (List.range b).map fun (a : Nat) => ((a : Int), (b : Int))
theorem graph_few {n : Int} {l : List (Int × Int)} (h : graphOk n l = true) : l.length ≤ 28 := by
  obtain ⟨g1, g2, g3⟩ := graph_edges h
  have hnd : l.Nodup := g3.imp fun {a b} hab e => by
    subst e
    unfold edgeLt at hab
    simp at hab
  have hs : l ⊆ prsE := fun e he => by
    have := g2 e he
    unfold prsE
    refine List.mem_flatMap.2 ⟨e.2.toNat, List.mem_range.2 (by omega), List.mem_map.2 ⟨e.1.toNat, List.mem_range.2 (by omega), ?_⟩⟩
    have a : ((e.1.toNat : Nat) : Int) = e.1 := by omega
    have b : ((e.2.toNat : Nat) : Int) = e.2 := by omega
    rw [a, b]
  have := List.Nodup.length_le_of_subset hnd hs
  have e : prsE.length = 28 := by decide +kernel
  omega
theorem even_eq (n : Int) (l : List (Int × Int)) : (graphOk n l && decide (0 < ((mrF l 2 n.toNat [] []).length : Int))) = evB n l := by
  unfold evB
  cases hg : graphOk n l with
  | false => rfl
  | true =>
    obtain ⟨g1, g2, g3⟩ := graph_edges hg
    have hp : pairsOk l ((nodR n.toNat).length : Nat) = true := by
      have h := hg
      simp only [graphOk, Bool.and_eq_true, decide_eq_true_eq] at h
      rw [nodR_len, Int.toNat_of_nonneg g1.1]
      exact h.2
    have hs : spaceOk (nodR n.toNat) l = true := by
      have := graph_few hg
      unfold spaceOk
      rw [hp, nodR_state (by omega), nodR_len]
      simp
      omega
    have h1 := mr_iff (k := 2) g1.1 g2
    have h2 := par_iff hp
    rw [nodR_len, Int.toNat_of_nonneg g1.1] at h2
    have h3 : parB (nodR n.toNat) l = parOk (nodR n.toNat) l := by unfold parB; rw [hs]; rfl
    rw [h3, Bool.true_and, Bool.true_and]
    rw [Bool.eq_iff_iff, decide_eq_true_eq, h2, ← h1]
    constructor
    · intro h c
      rw [c] at h
      simp at h
    · intro h
      have := List.length_pos_iff.2 h
      omega
end Go.Proofs.Ytoejmijcikehdaa.M
