/- Greedy tight sets: the specification. -/
import Derived.Test.YtjmpfcpicgjceaaKgQ
import Derived.Test.YtjmpfcpicgjceaaQc
namespace Go.Proofs.Ytjmpfcpicgjceaa.M
open Go.RowKit Abs
set_option linter.unusedSimpArgs false
set_option linter.unusedVariables false
set_option maxRecDepth 100000
set_option maxHeartbeats 4000000
theorem list_bits {n m x : Int} {s : List Int} (x0 : 0 ≤ x) (x1 : x < n) (g0 : 0 ≤ n) : hasB (pref (bitB m) n.toNat) x = bitB m x := pref_hasB x0 (by omega)
theorem nset_pref {n m : Int} (g0 : 0 ≤ n) (g1 : n ≤ 8) (a : 0 ≤ m) (b : m ≤ 255) (c : ∀ y : Int, n ≤ y → y < 8 → bitB m y = false) : nset (pref (bitB m) n.toNat) = m := by
  have ha := pref_ascB (bitB m) n
  obtain ⟨p, q, r⟩ := nset_in g1 ha
  have : (nset (pref (bitB m) n.toNat)).toNat = m.toNat := by
    refine Nat.eq_of_testBit_eq fun i => ?_
    by_cases hi : i < 8
    · have h1 := r (i : Int) (by omega)
      have h2 : hasB (pref (bitB m) n.toNat) (i : Int) = bitB m (i : Int) := by
        by_cases hn : (i : Int) < n
        · exact pref_hasB (by omega) (by omega)
        · rw [c i (by omega) (by omega)]
          cases he : hasB (pref (bitB m) n.toNat) (i : Int) with
          | false => rfl
          | true =>
            have := (pref_mem.1 (hasB_iff.1 he)).2.1
            omega
      rw [h2] at h1
      exact h1
    · have e1 : ∀ z : Int, 0 ≤ z → z ≤ 255 → z.toNat.testBit i = false := fun z z0 z1 => Nat.testBit_lt_two_pow (Nat.lt_of_lt_of_le (show z.toNat < 2 ^ 8 by omega) (Nat.pow_le_pow_right (by omega) (by omega)))
      rw [e1 _ p q, e1 _ a b]
  omega
theorem step_eq {n kind m x : Int} {l : List (Int × Int)} (h : okK n l kind = true) (a : 0 ≤ m) (b : m ≤ 255) (c : ∀ y : Int, n ≤ y → y < 8 → bitB m y = false) (x0 : 0 ≤ x) (x1 : x < n) : (decide (hasB (pref (bitB m) n.toNat) x = !decide (kind = 2)) && hasK n l kind (turnL (pref (bitB m) n.toNat) x)) = tightM kind (nearS n l) m x ∧ turnL (pref (bitB m) n.toNat) x = pref (bitB (flipM m x)) n.toNat := by
  obtain ⟨⟨g0, g1⟩, _⟩ := okK_in h
  have ha := pref_ascB (bitB m) n
  have h1 := loose_eq (x := x) h ha x0 x1
  rw [nset_pref g0 g1 a b c] at h1
  constructor
  · unfold looseM at h1
    revert h1
    cases tightM kind (nearS n l) m x <;> cases (decide (hasB (pref (bitB m) n.toNat) x = !decide (kind = 2)) && hasK n l kind (turnL (pref (bitB m) n.toNat) x)) <;> simp
  · rw [turn_eq ha x0 x1]
    refine pref_congr fun y y0 y1 => ?_
    unfold flipP flipM
    rw [bit_flip x0 (by omega) y0, pref_hasB y0 (by omega)]
theorem sp_own2 (s : List Int) (hs : s.length ≤ 1048576) : Spec2 Try.prog 76 [.sl .int fun _ => s] [] [.ref 0] [some (.row 3 .int fun _ => s)] := by
  refine fnS [0] [2] Try.func76 rfl (by decide) rfl (by decide) (by kernel_rfl) rfl (by simp [Try.ntmps76]) ?_
  cbv
  (simp only [IfP_iff, EqU_iff, Obl_iff, and_true, true_and, inI_iff, decide_eq_true_eq, decide_eq_false_iff_not]; (try simp only [natc, getI_gi, at2_0, at2_1]); (try dsimp only [Ty.den]); try simp only [natc] at *)
  all_goals ((repeat' (first | apply And.intro | intro _)) <;> first | omega | (simp only [List.length_append, List.length_cons, List.length_nil]; omega) | grind)
theorem sp_greedy (n : Int) (l : List (Int × Int)) (kind : Int) (s : List Int) (hl : l.length ≤ 1048576) (hs : s.length ≤ 1048576) : Spec2 Try.prog 33 [.agg (.pr .int (.sl (.pr .int .int))) fun _ => (n, l), .int fun _ => kind, .sl .int fun _ => s] [] [.ref 0, .bool fun _ => hkR n l kind s] [some (.row 3 .int fun _ => gtR n l kind s)] := by
  have h2 : gtR n l kind s = _ := rfl
  conv at h2 => rhs; unfold gtR
  by_cases hb : hkR n l kind s = true
  case neg =>
    rw [Bool.not_eq_true] at hb
    have hb2 : gtR n l kind s = [] := by rw [h2, hb]; rfl
    rw [hb2]
    refine fnS [1] [6, 7] Try.func33 rfl (by decide) rfl (by decide) (by kernel_rfl) rfl (by simp [Try.ntmps33]) ?_
    cbv
    repeat' (first | ((first | refine call_q (sp_one n l kind s hl hs) (by cbv) ?_ | refine call_pure (sp_one n l kind s hl hs) (by cbv) ?_); cbv; ((try simp only [IfP_iff, and_true, true_and, decide_eq_true_eq, decide_eq_false_iff_not]); (try simp only [natc, getI_gi, at2_0, at2_1]); (try dsimp only [Ty.den]); (try simp only [natc] at *); (repeat' (first | apply And.intro | intro _)))))
    all_goals (try (simp only [IfP_iff, EqU_iff, Obl_iff, and_true, true_and, inI_iff, decide_eq_true_eq, decide_eq_false_iff_not]; (try simp only [natc, getI_gi, at2_0, at2_1]); (try dsimp only [Ty.den]); try simp only [natc] at *))
    · first
        | exact hb.symm
        | simp_all
    · exact absurd (by assumption : (!hkR n l kind s) = false) (by rw [hb]; decide)
  obtain ⟨hk, ha⟩ := hkR_in hb
  obtain ⟨⟨g0, g1⟩, _⟩ := okK_in hk
  obtain ⟨a, b, c⟩ := nset_in g1 ha
  have kg := gRun_in (kind := kind) (R := nearS n l) g1 a b (nset_out g0 g1 ha)
  have hs0 : s = pref (bitB (nset s)) n.toNat := by
    conv => lhs; rw [asc_pref ha]
    exact pref_congr fun y y0 _ => (c y y0).symm
  have hb2 : gtR n l kind s = pref (bitB (gRun kind (nearS n l) (nset s) n.toNat)) n.toNat := by rw [h2, if_pos hb]
  have hz : gRun kind (nearS n l) (nset s) (Int.toNat 0) = nset s := rfl
  rw [hb2]
  refine fnS [1] [6, 7] Try.func33 rfl (by decide) rfl (by decide) (by kernel_rfl) rfl (by simp [Try.ntmps33]) ?_
  cbv
  repeat' (first | ((first | refine call_q (sp_one n l kind s hl hs) (by cbv) ?_ | refine call_pure (sp_one n l kind s hl hs) (by cbv) ?_); cbv; ((try simp only [IfP_iff, and_true, true_and, decide_eq_true_eq, decide_eq_false_iff_not]); (try simp only [natc, getI_gi, at2_0, at2_1]); (try dsimp only [Ty.den]); (try simp only [natc] at *); (repeat' (first | apply And.intro | intro _)))) | ((first | refine call_q (sp_own2 s hs) (by cbv) ?_ | refine call_pure (sp_own2 s hs) (by cbv) ?_); cbv; ((try simp only [IfP_iff, and_true, true_and, decide_eq_true_eq, decide_eq_false_iff_not]); (try simp only [natc, getI_gi, at2_0, at2_1]); (try dsimp only [Ty.den]); (try simp only [natc] at *); (repeat' (first | apply And.intro | intro _)))))
  all_goals (try (simp only [IfP_iff, EqU_iff, Obl_iff, and_true, true_and, inI_iff, decide_eq_true_eq, decide_eq_false_iff_not]; (try simp only [natc, getI_gi, at2_0, at2_1]); (try dsimp only [Ty.den]); try simp only [natc] at *))
  · exact absurd (by assumption : (!hkR n l kind s) = true) (by rw [hb]; decide)
  · exact absurd (by assumption : (!hkR n l kind s) = true) (by rw [hb]; decide)
  refine loopX (by kernel_rfl) (fun x : Int => 0 ≤ x ∧ x ≤ n) (fun x => [(9, .int fun _ => x), (8, .ref 1), (17, .junk)]) (fun x => [(1, some (.row 3 .int fun _ => pref (bitB (gRun kind (nearS n l) (nset s) x.toNat)) n.toNat))]) (fun x => (n - x).toNat) (· + 1) 0 (by omega) ?_ ?_
  · cbv
    (simp only [IfP_iff, EqU_iff, Obl_iff, and_true, true_and, inI_iff, decide_eq_true_eq, decide_eq_false_iff_not]; (try simp only [natc, getI_gi, at2_0, at2_1]); (try dsimp only [Ty.den]); try simp only [natc] at *)
    rw [hz]
    exact hs0
  · intro x hx
    have c1 := (kg x.toNat (by omega)).1
    have c2 := (kg x.toNat (by omega)).2.1
    have c3 := (kg x.toNat (by omega)).2.2
    have h1 := gRun_next (kind := kind) (R := nearS n l) (m0 := nset s) hx.1
    have h4 : ¬ x < n → x.toNat = n.toNat := by omega
    have h5 := fun h => step_eq (x := x) hk c1 c2 c3 hx.1 h
    have h6 := turn_len (pref (bitB (gRun kind (nearS n l) (nset s) x.toNat)) n.toNat) x
    have h7 := pref_len (p := bitB (gRun kind (nearS n l) (nset s) x.toNat)) (k := n) g0
    have hA : x < n → (hasB (pref (bitB (gRun kind (nearS n l) (nset s) x.toNat)) n.toNat) x == !decide (kind = 2)) = true → hasK n l kind (turnL (pref (bitB (gRun kind (nearS n l) (nset s) x.toNat)) n.toNat) x) = true → turnL (pref (bitB (gRun kind (nearS n l) (nset s) x.toNat)) n.toNat) x = pref (bitB (gRun kind (nearS n l) (nset s) (x + 1).toNat)) n.toNat := fun u v w => by
      have z := (h5 u).1
      rw [w, decide_eq_true (beq_iff_eq.1 v)] at z
      have z2 := (h5 u).2
      rw [h1]
      unfold gStep
      rw [if_pos (show tightM kind (nearS n l) (gRun kind (nearS n l) (nset s) x.toNat) x = true from z.symm)]
      exact z2
    have hB : x < n → ((hasB (pref (bitB (gRun kind (nearS n l) (nset s) x.toNat)) n.toNat) x == !decide (kind = 2)) = false ∨ hasK n l kind (turnL (pref (bitB (gRun kind (nearS n l) (nset s) x.toNat)) n.toNat) x) = false) → gRun kind (nearS n l) (nset s) (x + 1).toNat = gRun kind (nearS n l) (nset s) x.toNat := fun u v => by
      have z := (h5 u).1
      have y : tightM kind (nearS n l) (gRun kind (nearS n l) (nset s) x.toNat) x = false := by
        rw [← z]
        rcases v with v | v
        · rw [decide_eq_false (by intro e; rw [e] at v; simp at v)]
          rfl
        · rw [v, Bool.and_false]
      rw [h1]
      unfold gStep
      rw [if_neg (by rw [y]; decide)]
    clear h2 kg h1 h5
    cbv
    ((try simp only [IfP_iff, and_true, true_and, decide_eq_true_eq, decide_eq_false_iff_not]); (try simp only [natc, getI_gi, at2_0, at2_1]); (try dsimp only [Ty.den]); (try simp only [natc] at *); (repeat' (first | apply And.intro | intro _)))
    all_goals (repeat' (first | ((first | refine call_q (sp_has (pref (bitB (gRun kind (nearS n l) (nset s) x.toNat)) n.toNat) x (by omega)) (by cbv) ?_ | refine call_pure (sp_has (pref (bitB (gRun kind (nearS n l) (nset s) x.toNat)) n.toNat) x (by omega)) (by cbv) ?_); cbv; ((try simp only [IfP_iff, and_true, true_and, decide_eq_true_eq, decide_eq_false_iff_not]); (try simp only [natc, getI_gi, at2_0, at2_1]); (try dsimp only [Ty.den]); (try simp only [natc] at *); (repeat' (first | apply And.intro | intro _)))) | ((first | refine call_q (sp_turned (pref (bitB (gRun kind (nearS n l) (nset s) x.toNat)) n.toNat) x (by omega)) (by cbv) ?_ | refine call_pure (sp_turned (pref (bitB (gRun kind (nearS n l) (nset s) x.toNat)) n.toNat) x (by omega)) (by cbv) ?_); cbv; ((try simp only [IfP_iff, and_true, true_and, decide_eq_true_eq, decide_eq_false_iff_not]); (try simp only [natc, getI_gi, at2_0, at2_1]); (try dsimp only [Ty.den]); (try simp only [natc] at *); (repeat' (first | apply And.intro | intro _)))) | ((first | refine call_q (sp_l4Has n kind l (turnL (pref (bitB (gRun kind (nearS n l) (nset s) x.toNat)) n.toNat) x) g0 g1 hl (by omega)) (by cbv) ?_ | refine call_pure (sp_l4Has n kind l (turnL (pref (bitB (gRun kind (nearS n l) (nset s) x.toNat)) n.toNat) x) g0 g1 hl (by omega)) (by cbv) ?_); cbv; ((try simp only [IfP_iff, and_true, true_and, decide_eq_true_eq, decide_eq_false_iff_not]); (try simp only [natc, getI_gi, at2_0, at2_1]); (try dsimp only [Ty.den]); (try simp only [natc] at *); (repeat' (first | apply And.intro | intro _))))))
    all_goals (first
      | (refine RenL.mk ⟨[0, 2], ?_⟩
         cbv
         (simp only [IfP_iff, EqU_iff, Obl_iff, and_true, true_and, inI_iff, decide_eq_true_eq, decide_eq_false_iff_not]; (try simp only [natc, getI_gi, at2_0, at2_1]); (try dsimp only [Ty.den]); try simp only [natc] at *)
         exact hA (by assumption) (by assumption) (by assumption))
      | (refine RenL.mk ⟨[0, 1], ?_⟩
         cbv
         (simp only [IfP_iff, EqU_iff, Obl_iff, and_true, true_and, inI_iff, decide_eq_true_eq, decide_eq_false_iff_not]; (try simp only [natc, getI_gi, at2_0, at2_1]); (try dsimp only [Ty.den]); try simp only [natc] at *)
         exact congrArg (fun m => pref (bitB m) n.toNat) (hB (by assumption) (.inl (by assumption))).symm)
      | (refine RenL.mk ⟨[0, 1], ?_⟩
         cbv
         (simp only [IfP_iff, EqU_iff, Obl_iff, and_true, true_and, inI_iff, decide_eq_true_eq, decide_eq_false_iff_not]; (try simp only [natc, getI_gi, at2_0, at2_1]); (try dsimp only [Ty.den]); try simp only [natc] at *)
         exact congrArg (fun m => pref (bitB m) n.toNat) (hB (by assumption) (.inr (by assumption))).symm)
      | ((simp only [IfP_iff, EqU_iff, Obl_iff, and_true, true_and, inI_iff, decide_eq_true_eq, decide_eq_false_iff_not]; (try simp only [natc, getI_gi, at2_0, at2_1]); (try dsimp only [Ty.den]); try simp only [natc] at *)
         omega)
      | ((simp only [IfP_iff, EqU_iff, Obl_iff, and_true, true_and, inI_iff, decide_eq_true_eq, decide_eq_false_iff_not]; (try simp only [natc, getI_gi, at2_0, at2_1]); (try dsimp only [Ty.den]); try simp only [natc] at *)
         exact hb.symm)
      | ((simp only [IfP_iff, EqU_iff, Obl_iff, and_true, true_and, inI_iff, decide_eq_true_eq, decide_eq_false_iff_not]; (try simp only [natc, getI_gi, at2_0, at2_1]); (try dsimp only [Ty.den]); try simp only [natc] at *)
         rw [h4 (by assumption)])
      | trace_state)
end Go.Proofs.Ytjmpfcpicgjceaa.M
