/- Sets of nodes as binary digits; the nodes that are not in a set, on both sides. -/
import Derived.Test.YthogfineaeklpaaCtQ
import Derived.Test.YthogfineaeklpaaPfQ
import Derived.Test.YthogfineaeklpaaHsQ
namespace Go.Proofs.Ythogfineaeklpaa.M
open Go.RowKit Abs
set_option linter.unusedSimpArgs false
set_option linter.unusedVariables false
set_option maxRecDepth 100000
set_option maxHeartbeats 4000000
def bitB (a v : Int) : Bool := a.toNat.testBit v.toNat
theorem bit_eq {a v : Int} (h0 : 0 ≤ a) (h1 : 0 ≤ v) (h2 : v ≤ 64) : (band (a.fdiv (2 ^ (min v.toNat 64))) 1 = 1) ↔ bitB a v = true := by
  have e : min v.toNat 64 = v.toNat := by omega
  rw [e]
  unfold band bitB
  have e2 : a.fdiv (2 ^ v.toNat) = ((a.toNat / 2 ^ v.toNat : Nat) : Int) := by
    have hc : (a.toNat : Int) = a := by omega
    rw [Int.natCast_ediv, hc, Int.fdiv_eq_ediv_of_nonneg _ (Int.pow_nonneg (by omega))]
    simp
  rw [e2, Nat.testBit_eq_decide_div_mod_eq]
  simp only [Int.toNat_natCast, decide_eq_true_eq]
  rw [show (1 : Int).toNat = 1 from rfl, Nat.and_one_is_mod]
  omega
theorem bit_in {a v : Int} (h0 : 0 ≤ a) (h1 : a ≤ 18446744073709551615) : in64 (a.fdiv (2 ^ v.toNat)) := by
  have hp : (0 : Int) < 2 ^ v.toNat := Int.pow_pos (by omega)
  rw [Int.fdiv_eq_ediv_of_nonneg _ (Int.le_of_lt hp)]
  refine ⟨Int.ediv_nonneg h0 (Int.le_of_lt hp), ?_⟩
  exact Int.le_trans (Int.ediv_le_self _ h0) h1
theorem im_has (a v : Int) (h0 : 0 ≤ a) (h1 : a ≤ 18446744073709551615) (h2 : 0 ≤ v) (h3 : v ≤ 64) : Spec2 Try.prog 104 [.u64 fun _ => a, .int fun _ => v] [] [.bool fun _ => bitB a v] [] := by
  have g1 := bit_eq h0 h2 h3
  have g2 := bit_in (v := ((min v.toNat 64 : Nat) : Int)) h0 h1
  rw [Int.toNat_natCast] at g2
  refine fnS [] [4] Try.func104 rfl (by decide) rfl (by decide) (by kernel_rfl) rfl (by simp [Try.ntmps104]) ?_
  cbv
  ((try simp only [IfP_iff, and_true, true_and, decide_eq_true_eq, decide_eq_false_iff_not]); (try simp only [natc, at2_0, at2_1]); (try dsimp only [Ty.den]); (try simp only [natc] at *); (repeat' (first | apply And.intro | intro _)))
  all_goals (try (simp only [IfP_iff, EqU_iff, Obl_iff, and_true, true_and, inI_iff, decide_eq_true_eq, decide_eq_false_iff_not]; (try simp only [natc, at2_0, at2_1]); (try dsimp only [Ty.den]); try simp only [natc] at *))
  all_goals ((repeat' (first | apply And.intro | intro _)) <;> first | omega | (exact g2.1) | (exact g2.2) | grind)
def nset (s : List Int) : Int := s.foldl (fun a x => bor a (1 * 2 ^ (min x.toNat 64))) 0
theorem nset_next {s : List Int} {k : Int} (h0 : 0 ≤ k) (h1 : k < (s.length : Int)) : nset (s.take (k + 1).toNat) = bor (nset (s.take k.toNat)) (1 * 2 ^ (min (getI .int s k).toNat 64)) := by
  unfold nset
  rw [take_getI (t := .int) h0 h1, List.foldl_append]
  rfl
theorem two_nat (x : Int) : (1 : Int) * 2 ^ (min x.toNat 64) = ((2 ^ (min x.toNat 64) : Nat) : Int) := by simp
theorem sh_in (x : Int) (h0 : 0 ≤ x) (h1 : x < 8) : 0 ≤ (1 : Int) * 2 ^ (min x.toNat 64) ∧ (1 : Int) * 2 ^ (min x.toNat 64) ≤ 128 := by
  have e : min x.toNat 64 = x.toNat := by omega
  have hp : 2 ^ x.toNat ≤ 2 ^ 7 := Nat.pow_le_pow_right (by omega) (by omega)
  rw [two_nat, e]
  exact ⟨Int.natCast_nonneg _, Int.ofNat_le.2 (show 2 ^ x.toNat ≤ 128 from hp)⟩
theorem nset_fold : ∀ (s : List Int) (a : Nat), (∀ x ∈ s, 0 ≤ x ∧ x < 8) → a < 256 → ∃ b : Nat, s.foldl (fun a x => bor a (1 * 2 ^ (min x.toNat 64))) (a : Int) = (b : Int) ∧ b < 256 ∧ ∀ i : Nat, b.testBit i = (a.testBit i || s.any fun x => decide ((i : Int) = x))
  | [], a, _, ha => ⟨a, rfl, ha, fun i => by simp⟩
  | x :: s, a, h, ha => by
    obtain ⟨hx0, hx1⟩ := h x (by simp)
    have e : min x.toNat 64 = x.toNat := by omega
    have hp : 2 ^ x.toNat < 2 ^ 8 := Nat.pow_lt_pow_right (by omega) (by omega)
    have hb : a ||| 2 ^ x.toNat < 2 ^ 8 := Nat.or_lt_two_pow ha hp
    obtain ⟨b, h1, h2, h3⟩ := nset_fold s (a ||| 2 ^ x.toNat) (fun y hy => h y (by simp [hy])) hb
    refine ⟨b, ?_, h2, fun i => ?_⟩
    · rw [List.foldl_cons, ← h1, two_nat, e]
      rfl
    · rw [h3, Nat.testBit_or, Nat.testBit_two_pow, List.any_cons, Bool.or_assoc]
      congr 2
      rw [decide_eq_decide]
      omega
theorem nset_bits {s : List Int} (h : ∀ x ∈ s, 0 ≤ x ∧ x < 8) : 0 ≤ nset s ∧ nset s ≤ 255 ∧ ∀ v : Int, 0 ≤ v → bitB (nset s) v = hasB s v := by
  obtain ⟨b, h1, h2, h3⟩ := nset_fold s 0 h (by omega)
  have e : nset s = (b : Int) := h1
  rw [e]
  refine ⟨by omega, by omega, fun v hv => ?_⟩
  unfold bitB hasB
  rw [Int.toNat_natCast, h3, Nat.zero_testBit, Bool.false_or, Int.toNat_of_nonneg hv]
theorem asc_mem {n : Int} {s : List Int} (h : ascB n s = true) (x : Int) (hx : x ∈ s) : 0 ≤ x ∧ x < n := by
  obtain ⟨j, a, b, c⟩ := mem_at hx
  have := allI_get (p := nodeOk n s) h a b
  unfold nodeOk at this
  rw [c] at this
  simp only [Bool.and_eq_true, decide_eq_true_eq] at this
  exact this.1
theorem im_setOf (s : List Int) (hs : s.length ≤ 1048576) (h : ∀ x ∈ s, 0 ≤ x ∧ x < 8) : Spec2 Try.prog 61 [.sl .int fun _ => s] [] [.u64 fun _ => nset s] [] := by
  refine fnS [] [2] Try.func61 rfl (by decide) rfl (by decide) (by kernel_rfl) rfl (by simp [Try.ntmps61]) ?_
  cbv
  refine loopP (by kernel_rfl) (fun k : Int => 0 ≤ k ∧ k ≤ s.length) (fun k => [(8, .int fun _ => k), (3, .u64 fun _ => nset (s.take k.toNat))]) (fun _ => []) (fun k => (s.length - k).toNat) (· + 1) 0 (by simp) ?_ ?_
  · cbv
    (simp only [IfP_iff, EqU_iff, Obl_iff, and_true, true_and, inI_iff, decide_eq_true_eq, decide_eq_false_iff_not]; (try simp only [natc, at2_0, at2_1]); (try dsimp only [Ty.den]); try simp only [natc] at *)
    simp [nset]
  · intro k hk
    have g1 := nset_next (s := s) (k := k)
    have g2 := take_all (l := s) (i := k)
    obtain ⟨g3, g4, _⟩ := nset_bits (s := s.take k.toNat) fun x hx => h x (List.mem_of_mem_take hx)
    have g5 : 0 ≤ k → k < (s.length : Int) → 0 ≤ getI .int s k ∧ getI .int s k < 8 := fun a b => h _ (List.mem_of_getElem? (getI_get (t := .int) a b))
    have g6 : 0 ≤ k → k < (s.length : Int) → 0 ≤ (1 : Int) * 2 ^ (min (Int.toNat (getI .int s k)) 64) ∧ (1 : Int) * 2 ^ (min (Int.toNat (getI .int s k)) 64) ≤ 128 := fun a b => sh_in _ (g5 a b).1 (g5 a b).2
    cbv
    ((try simp only [IfP_iff, and_true, true_and, decide_eq_true_eq, decide_eq_false_iff_not]); (try simp only [natc, at2_0, at2_1]); (try dsimp only [Ty.den]); (try simp only [natc] at *); (repeat' (first | apply And.intro | intro _)))
    all_goals (try (simp only [IfP_iff, EqU_iff, Obl_iff, and_true, true_and, inI_iff, decide_eq_true_eq, decide_eq_false_iff_not]; (try simp only [natc, at2_0, at2_1]); (try dsimp only [Ty.den]); try simp only [natc] at *))
    all_goals ((repeat' (first | apply And.intro | intro _)) <;> first | omega | (simp only [List.length_append, List.length_cons, List.length_nil]; omega) | grind)
theorem sp_others (n : Int) (l : List (Int × Int)) (s : List Int) (g0 : 0 ≤ n) (g1 : n ≤ 8) (hs : s.length ≤ 1048576) : Spec2 Try.prog 66 [.agg (.pr .int (.sl (.pr .int .int))) fun _ => (n, l), .sl .int fun _ => s] [] [.ref 0] [some (.row 3 .int fun _ => pref (notB s) n.toNat)] := by
  refine fnS [1] [4] Try.func66 rfl (by decide) rfl (by decide) (by kernel_rfl) rfl (by simp [Try.ntmps66]) ?_
  cbv
  refine loopP (by kernel_rfl) (fun k : Int => 0 ≤ k ∧ k ≤ n) (fun k => [(6, .int fun _ => k), (5, .ref 1), (7, .junk)]) (fun k => [(1, some (.row 3 .int fun _ => pref (notB s) k.toNat))]) (fun k => (n - k).toNat) (· + 1) 0 (by omega) ?_ ?_
  · cbv
    (simp only [IfP_iff, EqU_iff, Obl_iff, and_true, true_and, inI_iff, decide_eq_true_eq, decide_eq_false_iff_not]; (try simp only [natc, at2_0, at2_1]); (try dsimp only [Ty.den]); try simp only [natc] at *)
    simp [pref]
  · intro k hk
    have h1 := pref_next (p := notB s) (k := k)
    have h2 := pref_len (p := notB s) (k := k)
    have h3 : ¬ k < n → k.toNat = n.toNat := by omega
    have h4 : notB s k = !hasB s k := rfl
    cbv
    ((try simp only [IfP_iff, and_true, true_and, decide_eq_true_eq, decide_eq_false_iff_not]); (try simp only [natc, at2_0, at2_1]); (try dsimp only [Ty.den]); (try simp only [natc] at *); (repeat' (first | apply And.intro | intro _)))
    all_goals (repeat' (first | ((first | refine call_q (sp_has s k hs) (by cbv) ?_ | refine call_pure (sp_has s k hs) (by cbv) ?_); cbv; ((try simp only [IfP_iff, and_true, true_and, decide_eq_true_eq, decide_eq_false_iff_not]); (try simp only [natc, at2_0, at2_1]); (try dsimp only [Ty.den]); (try simp only [natc] at *); (repeat' (first | apply And.intro | intro _))))))
    all_goals (try (simp only [IfP_iff, EqU_iff, Obl_iff, and_true, true_and, inI_iff, decide_eq_true_eq, decide_eq_false_iff_not]; (try simp only [natc, at2_0, at2_1]); (try dsimp only [Ty.den]); try simp only [natc] at *))
    all_goals ((repeat' (first | apply And.intro | intro _)) <;> first | omega | (simp only [List.length_append, List.length_cons, List.length_nil]; omega) | grind)
end Go.Proofs.Ythogfineaeklpaa.M
