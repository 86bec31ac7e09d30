/- Greedy tight sets, on both sides. -/
import Derived.Test.YtjmpfcpicgjceaaKvQ
import Derived.Test.YtjmpfcpicgjceaaQc
import Derived.Test.YtjmpfcpicgjceaaDeQ
namespace Go.Proofs.Ytjmpfcpicgjceaa.M
open Go.RowKit Abs
set_option linter.unusedSimpArgs false
set_option linter.unusedVariables false
set_option maxRecDepth 100000
set_option maxHeartbeats 4000000
/-- What is known behind a round, in some names. -/
structure RenL (S S' : AS) : Prop where
  out : ∃ ρ, renD ρ S S'
theorem loopX {S : AS} {Q : AX → AS → Prop} {c : Code} (hb : drawB c = true) {X : Type} (inv : X → Prop) (ps : X → List (Nat × AV)) (hs : X → List (Nat × Option Blk)) (m : X → Nat) (nx : X → X) (a : X) (h0 : inv a) (hw : weakD S (stL c S (ps a) (hs a)))
    (round : ∀ x, inv x → vc (fun _ => Try.prog) (fun _ => tab) c (seqQ (fun S' => Obl (fun _ => inv (nx x) ∧ m (nx x) < m x) ∧ RenL S' (stL c S (ps (nx x)) (hs (nx x)))) Q) (stL c S (ps x) (hs x))) : LoopL (fun _ => Try.prog) (fun _ => tab) c Q S := by
  refine ⟨fun w0 B hd a1 w val hR => ?_⟩
  refine wp_loop_ghost (fun (x : { x : X // inv x }) a w => ∃ val, Rl w0 B hd (stL c S (ps x.1) (hs x.1)) a w val) (fun x => m x.1) ⟨a, h0⟩ ⟨_, hR.weak hw.weak⟩ fun x a w ⟨val, hR⟩ => ?_
  refine wp_mono (vc_sound tabOk mixed c _ _ hb (round x.1 x.2) w0 B hd a w val hR) fun e a' w' ⟨y, S', val', h1, h2, h3⟩ => ?_
  subst h1
  cases y with
  | normal => obtain ⟨h4, ⟨ρ, h5⟩⟩ := h2; exact ⟨⟨nx x.1, h4.out.1⟩, ⟨_, h3.renD h5⟩, h4.out.2⟩
  | exit i => exact ⟨.exit i, S', val', rfl, h2, h3⟩
  | ret => exact ⟨.ret, S', val', rfl, h2, h3⟩
  | goto l => exact ⟨.goto l, S', val', rfl, h2, h3⟩
def gStep (kind : Int) (R : List Int) (m x : Int) : Int := if tightM kind R m x = true then flipM m x else m
def gRun (kind : Int) (R : List Int) (m0 : Int) : Nat → Int
  | 0 => m0
  | k + 1 => gStep kind R (gRun kind R m0 k) (k : Int)
theorem gRun_next {kind m0 x : Int} {R : List Int} (h : 0 ≤ x) : gRun kind R m0 (x + 1).toNat = gStep kind R (gRun kind R m0 x.toNat) x := by
  have e : (x + 1).toNat = x.toNat + 1 := by omega
  rw [e]
  show gStep _ _ _ ((x.toNat : Nat) : Int) = _
  rw [Int.toNat_of_nonneg h]
theorem gRun_in {n kind m0 : Int} {R : List Int} (g1 : n ≤ 8) (a : 0 ≤ m0) (b : m0 ≤ 255) (c : ∀ y : Int, n ≤ y → y < 8 → bitB m0 y = false) : ∀ k : Nat, (k : Int) ≤ n → 0 ≤ gRun kind R m0 k ∧ gRun kind R m0 k ≤ 255 ∧ ∀ y : Int, n ≤ y → y < 8 → bitB (gRun kind R m0 k) y = false
  | 0, _ => ⟨a, b, c⟩
  | k + 1, hk => by
    obtain ⟨i1, i2, i3⟩ := gRun_in g1 a b c k (by omega) (kind := kind) (R := R)
    show 0 ≤ gStep kind R (gRun kind R m0 k) k ∧ gStep kind R (gRun kind R m0 k) k ≤ 255 ∧ ∀ y : Int, n ≤ y → y < 8 → bitB (gStep kind R (gRun kind R m0 k) k) y = false
    unfold gStep
    split
    · obtain ⟨j1, j2⟩ := bxor_in (a := gRun kind R m0 k) (x := (k : Int)) i2 (by omega) (by omega)
      refine ⟨j1, j2, fun y y0 y1 => ?_⟩
      unfold flipM
      rw [bit_flip (by omega) (by omega) (by omega), i3 y y0 y1, show decide (y = (k : Int)) = false by rw [decide_eq_false_iff_not]; omega]
      rfl
    · exact ⟨i1, i2, i3⟩
def gtR (n : Int) (l : List (Int × Int)) (kind : Int) (s : List Int) : List Int := if hkR n l kind s = true then pref (bitB (gRun kind (nearS n l) (nset s) n.toNat)) n.toNat else []
theorem gt_len (n : Int) (l : List (Int × Int)) (kind : Int) (s : List Int) : (gtR n l kind s).length ≤ 1048576 := by
  unfold gtR
  split
  · rename_i h
    obtain ⟨⟨g0, g1⟩, _⟩ := okK_in (hkR_in h).1
    have := pref_len (p := bitB (gRun kind (nearS n l) (nset s) n.toNat)) (k := n) g0
    omega
  · simp
theorem nset_out {n : Int} {s : List Int} (g0 : 0 ≤ n) (g1 : n ≤ 8) (ha : ascB n s = true) : ∀ y : Int, n ≤ y → y < 8 → bitB (nset s) y = false := fun y y0 y1 => by
  obtain ⟨_, _, c⟩ := nset_in g1 ha
  rw [c y (by omega)]
  cases he : hasB s y with
  | false => rfl
  | true =>
    have := (asc_mem ha y (hasB_iff.1 he)).2
    omega
theorem im_greedy (n : Int) (l : List (Int × Int)) (kind : Int) (s : List Int) (hl : l.length ≤ 1048576) (hs : s.length ≤ 1048576) : Spec2 Try.prog 34 [.agg (.pr .int (.sl (.pr .int .int))) fun _ => (n, l), .int fun _ => kind, .sl .int fun _ => s] [] [.ref 0, .bool fun _ => hkR n l kind s] [some (.row 3 .int fun _ => gtR n l kind s)] := by
  have h2 : gtR n l kind s = _ := rfl
  conv at h2 => rhs; unfold gtR
  cases hb : hkR n l kind s with
  | false =>
    have hb2 : gtR n l kind s = [] := by rw [h2, hb]; rfl
    rw [hb2]
    refine fnS [2] [6, 7] Try.func34 rfl (by decide) rfl (by decide) (by kernel_rfl) rfl (by simp [Try.ntmps34]) ?_
    cbv
    repeat' (first | ((first | refine call_q (im_ruleSet_bad n l kind s hl hs hb) (by cbv) ?_ | refine call_pure (im_ruleSet_bad n l kind s hl hs hb) (by cbv) ?_); cbv; ((try simp only [IfP_iff, and_true, true_and, decide_eq_true_eq, decide_eq_false_iff_not]); (try simp only [natc, getI_gi, at2_0, at2_1]); (try dsimp only [Ty.den]); (try simp only [natc] at *); (repeat' (first | apply And.intro | intro _)))))
    all_goals (try (simp only [IfP_iff, EqU_iff, Obl_iff, and_true, true_and, inI_iff, decide_eq_true_eq, decide_eq_false_iff_not]; (try simp only [natc, getI_gi, at2_0, at2_1]); (try dsimp only [Ty.den]); try simp only [natc] at *))
    all_goals (try (exact absurd (by assumption : (!false) = false) (by decide)))
    all_goals (try rfl)
  | true =>
    obtain ⟨hk, ha⟩ := hkR_in hb
    obtain ⟨⟨g0, g1⟩, _⟩ := okK_in hk
    obtain ⟨k1, k2⟩ := okR_near hk
    obtain ⟨a, b, _⟩ := nset_in g1 ha
    have kg := gRun_in (kind := kind) (R := nearS n l) g1 a b (nset_out g0 g1 ha)
    have hb2 : gtR n l kind s = pref (bitB (gRun kind (nearS n l) (nset s) n.toNat)) 8 := by
      rw [h2, if_pos hb]
      exact (pref_more (by omega) fun x x0 x1 => (kg n.toNat (by omega)).2.2 x (by omega) (by omega)).symm
    rw [hb2]
    refine fnS [3] [6, 7] Try.func34 rfl (by decide) rfl (by decide) (by kernel_rfl) rfl (by simp [Try.ntmps34]) ?_
    cbv
    repeat' (first | ((first | refine call_q (im_ruleSet_ok n l kind s hl hs hb) (by cbv) ?_ | refine call_pure (im_ruleSet_ok n l kind s hl hs hb) (by cbv) ?_); cbv; ((try simp only [IfP_iff, and_true, true_and, decide_eq_true_eq, decide_eq_false_iff_not]); (try simp only [natc, getI_gi, at2_0, at2_1]); (try dsimp only [Ty.den]); (try simp only [natc] at *); (repeat' (first | apply And.intro | intro _)))))
    all_goals (try (simp only [IfP_iff, EqU_iff, Obl_iff, and_true, true_and, inI_iff, decide_eq_true_eq, decide_eq_false_iff_not]; (try simp only [natc, getI_gi, at2_0, at2_1]); (try dsimp only [Ty.den]); try simp only [natc] at *))
    all_goals (try (exact absurd (by assumption : (!true) = true) (by decide)))
    refine loopP (by kernel_rfl) (fun x : Int => 0 ≤ x ∧ x ≤ n) (fun x => [(25, .int fun _ => x), (9, .u64 fun _ => gRun kind (nearS n l) (nset s) x.toNat)]) (fun _ => []) (fun x => (n - x).toNat) (· + 1) 0 (by omega) ?_ ?_
    · cbv
      (simp only [IfP_iff, EqU_iff, Obl_iff, and_true, true_and, inI_iff, decide_eq_true_eq, decide_eq_false_iff_not]; (try simp only [natc, getI_gi, at2_0, at2_1]); (try dsimp only [Ty.den]); try simp only [natc] at *)
      rfl
    · intro x hx
      have h1 := gRun_next (kind := kind) (R := nearS n l) (m0 := nset s) hx.1
      have h3 : gStep kind (nearS n l) (gRun kind (nearS n l) (nset s) x.toNat) x = if tightM kind (nearS n l) (gRun kind (nearS n l) (nset s) x.toNat) x = true then bxor (gRun kind (nearS n l) (nset s) x.toNat) (1 * 2 ^ (min x.toNat 64)) else gRun kind (nearS n l) (nset s) x.toNat := rfl
      have h4 : ¬ x < n → x.toNat = n.toNat := by omega
      have c1 := (kg x.toNat (by omega)).1
      have c2 := (kg x.toNat (by omega)).2.1
      have h5 : tightM kind (nearS n l) (gRun kind (nearS n l) (nset s) x.toNat) x = true → gRun kind (nearS n l) (nset s) (x + 1).toNat = bxor (gRun kind (nearS n l) (nset s) x.toNat) (1 * 2 ^ (min x.toNat 64)) := fun h => by rw [h1, h3, if_pos h]
      have h6 : tightM kind (nearS n l) (gRun kind (nearS n l) (nset s) x.toNat) x = false → gRun kind (nearS n l) (nset s) (x + 1).toNat = gRun kind (nearS n l) (nset s) x.toNat := fun h => by rw [h1, h3, if_neg (by rw [h]; decide)]
      clear h2 kg h1 h3
      cbv
      ((try simp only [IfP_iff, and_true, true_and, decide_eq_true_eq, decide_eq_false_iff_not]); (try simp only [natc, getI_gi, at2_0, at2_1]); (try dsimp only [Ty.den]); (try simp only [natc] at *); (repeat' (first | apply And.intro | intro _)))
      all_goals (repeat' (first | ((first | refine call_q (im_change (gRun kind (nearS n l) (nset s) x.toNat) x c1 c2 hx.1 (by omega)) (by cbv) ?_ | refine call_pure (im_change (gRun kind (nearS n l) (nset s) x.toNat) x c1 c2 hx.1 (by omega)) (by cbv) ?_); cbv; ((try simp only [IfP_iff, and_true, true_and, decide_eq_true_eq, decide_eq_false_iff_not]); (try simp only [natc, getI_gi, at2_0, at2_1]); (try dsimp only [Ty.den]); (try simp only [natc] at *); (repeat' (first | apply And.intro | intro _)))) | ((first | refine call_q (im_list (gRun kind (nearS n l) (nset s) x.toNat) c1 (by omega)) (by cbv) ?_ | refine call_pure (im_list (gRun kind (nearS n l) (nset s) x.toNat) c1 (by omega)) (by cbv) ?_); cbv; ((try simp only [IfP_iff, and_true, true_and, decide_eq_true_eq, decide_eq_false_iff_not]); (try simp only [natc, getI_gi, at2_0, at2_1]); (try dsimp only [Ty.den]); (try simp only [natc] at *); (repeat' (first | apply And.intro | intro _)))) | ((first | refine call_q (Spec2.agg (t := .pr .int (.sl .u64)) (x := fun _ => (kind, nearS n l)) (im_tightens kind (nearS n l) (gRun kind (nearS n l) (nset s) x.toNat) x k1 k2 c1 c2 hx.1 (by omega))) (by cbv) ?_ | refine call_pure (Spec2.agg (t := .pr .int (.sl .u64)) (x := fun _ => (kind, nearS n l)) (im_tightens kind (nearS n l) (gRun kind (nearS n l) (nset s) x.toNat) x k1 k2 c1 c2 hx.1 (by omega))) (by cbv) ?_); cbv; ((try simp only [IfP_iff, and_true, true_and, decide_eq_true_eq, decide_eq_false_iff_not]); (try simp only [natc, getI_gi, at2_0, at2_1]); (try dsimp only [Ty.den]); (try simp only [natc] at *); (repeat' (first | apply And.intro | intro _))))))
      all_goals (try clear k2)
      all_goals (try (simp only [IfP_iff, EqU_iff, Obl_iff, and_true, true_and, inI_iff, decide_eq_true_eq, decide_eq_false_iff_not]; (try simp only [natc, getI_gi, at2_0, at2_1]); (try dsimp only [Ty.den]); try simp only [natc] at *))
      all_goals ((repeat' (first | apply And.intro | intro _)) <;> first | omega | (exact (h5 (by assumption)).symm) | (exact (h6 (by assumption)).symm) | (rw [h4 (by assumption)]; done) | grind)
end Go.Proofs.Ytjmpfcpicgjceaa.M
