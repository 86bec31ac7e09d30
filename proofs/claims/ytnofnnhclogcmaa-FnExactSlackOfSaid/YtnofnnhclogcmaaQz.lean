/- Za, Zc, Zd, in one text. -/
import Derived.Test.YtnofnnhclogcmaaQg
import Derived.Test.YtnofnnhclogcmaaQe
import Derived.Test.YtnofnnhclogcmaaLpQ
/- Closed walks around a cycle: what goes up and down, the heights, pure. -/
namespace Go.Proofs.Ytnofnnhclogcmaa.M
open Go.RowKit Abs
set_option linter.unusedSimpArgs false
set_option linter.unusedVariables false
set_option maxRecDepth 100000
set_option maxHeartbeats 4000000
def upW (n a b : Int) : Int := if (b - a + n).tmod n = n - 1 then -1 else (b - a + n).tmod n
def riseI (n a b : Int) : Int := if b = a then 0 else if b = (a + 1).tmod n then 1 else if b = (a + n - 1).tmod n then -1 else 0
def riseB (n a b : Int) : Bool := decide (b = a) || decide (b = (a + 1).tmod n) || decide (b = (a + n - 1).tmod n)
theorem tmod_in {x n : Int} (h0 : 0 ≤ x) (h1 : 0 < n) : 0 ≤ x.tmod n ∧ x.tmod n < n := by
  rw [Int.tmod_eq_emod_of_nonneg h0]
  exact ⟨Int.emod_nonneg _ (by omega), Int.emod_lt_of_pos _ h1⟩
theorem up_in {n a b : Int} (n3 : 3 ≤ n) (n8 : n ≤ 8) (a0 : 0 ≤ a) (a1 : a < n) (b0 : 0 ≤ b) (b1 : b < n) : -1 ≤ upW n a b ∧ upW n a b ≤ n - 2 := by
  have := tmod_in (x := b - a + n) (n := n) (by omega) (by omega)
  unfold upW
  split <;> omega
theorem rise_up {n a b : Int} (n3 : 3 ≤ n) (n8 : n ≤ 8) (a0 : 0 ≤ a) (a1 : a < n) (h : riseB n a b = true) : 0 ≤ b ∧ b < n ∧ upW n a b ≤ 1 ∧ riseI n a b = upW n a b := by
  have e1 : (a + 1).tmod n = if a + 1 = n then 0 else a + 1 := by
    rw [Int.tmod_eq_emod_of_nonneg (by omega)]
    split
    · rename_i h; rw [h]; exact Int.emod_self
    · exact Int.emod_eq_of_lt (by omega) (by omega)
  have e2 : (a + n - 1).tmod n = if a = 0 then n - 1 else a - 1 := by
    rw [Int.tmod_eq_emod_of_nonneg (by omega)]
    split
    · rename_i h; rw [h]; exact (congrArg (· % n) (by omega : (0 : Int) + n - 1 = n - 1)).trans (Int.emod_eq_of_lt (by omega) (by omega))
    · rw [show a + n - 1 = (a - 1) + n by omega, Int.add_emod_right]; exact Int.emod_eq_of_lt (by omega) (by omega)
  unfold riseB at h
  simp only [Bool.or_eq_true, decide_eq_true_eq] at h
  rw [e1, e2] at h
  have hb : 0 ≤ b ∧ b < n := by
    rcases h with (h | h) | h
    · omega
    · split at h <;> omega
    · split at h <;> omega
  have e3 : (b - a + n).tmod n = if b < a then b - a + n else b - a := by
    rw [Int.tmod_eq_emod_of_nonneg (by omega)]
    split
    · exact Int.emod_eq_of_lt (by omega) (by omega)
    · rw [Int.add_emod_right]; exact Int.emod_eq_of_lt (by omega) (by omega)
  refine ⟨hb.1, hb.2, ?_⟩
  unfold upW riseI
  rw [e1, e2, e3]
  rcases h with (h | h) | h
  · subst h; simp only [Int.lt_irrefl, if_false, if_true]; constructor <;> (repeat' split) <;> omega
  · constructor <;> (repeat' (first | omega | split at * ))
  · constructor <;> (repeat' (first | omega | split at * ))
theorem up_rise {n a b : Int} (n3 : 3 ≤ n) (n8 : n ≤ 8) (a0 : 0 ≤ a) (a1 : a < n) (b0 : 0 ≤ b) (b1 : b < n) (h : upW n a b ≤ 1) : riseB n a b = true := by
  have e1 : (a + 1).tmod n = if a + 1 = n then 0 else a + 1 := by
    rw [Int.tmod_eq_emod_of_nonneg (by omega)]
    split
    · rename_i h; rw [h]; exact Int.emod_self
    · exact Int.emod_eq_of_lt (by omega) (by omega)
  have e2 : (a + n - 1).tmod n = if a = 0 then n - 1 else a - 1 := by
    rw [Int.tmod_eq_emod_of_nonneg (by omega)]
    split
    · rename_i h; rw [h]; exact (congrArg (· % n) (by omega : (0 : Int) + n - 1 = n - 1)).trans (Int.emod_eq_of_lt (by omega) (by omega))
    · rw [show a + n - 1 = (a - 1) + n by omega, Int.add_emod_right]; exact Int.emod_eq_of_lt (by omega) (by omega)
  have e3 : (b - a + n).tmod n = if b < a then b - a + n else b - a := by
    rw [Int.tmod_eq_emod_of_nonneg (by omega)]
    split
    · exact Int.emod_eq_of_lt (by omega) (by omega)
    · rw [Int.add_emod_right]; exact Int.emod_eq_of_lt (by omega) (by omega)
  unfold upW at h
  rw [e3] at h
  unfold riseB
  simp only [Bool.or_eq_true, decide_eq_true_eq]
  rw [e1, e2]
  by_cases c1 : b = a
  · exact .inl (.inl c1)
  by_cases c2 : b = a + 1
  · exact .inl (.inr (by rw [if_neg (by omega)]; exact c2))
  by_cases c3 : b = a - 1
  · exact .inr (by rw [if_neg (by omega)]; exact c3)
  split at h <;> split at h <;> first | (exact .inl (.inr (by rw [if_pos (by omega)]; omega))) | (exact .inr (by rw [if_pos (by omega)]; omega)) | (exfalso; omega)
/-- The node behind a place, round. -/
def nxW (w : List Int) (k : Int) : Int := gi w ((k + 1).tmod (w.length : Int))
def inW (n : Int) (w : List Int) : Bool := w.all fun x => decide (0 ≤ x) && decide (x < n)
def okK (n : Int) (w : List Int) (lz : Bool) (k : Int) : Bool := decide (upW n (gi w k) (nxW w k) ≤ 1) && !(decide (upW n (gi w k) (nxW w k) = 0) && !lz)
def stW (n : Int) (w : List Int) (lz : Bool) (k : Nat) : Bool := (List.range k).all fun i => okK n w lz i
def cloW (n : Int) (w : List Int) (lz : Bool) : Bool := inW n w && stW n w lz w.length && (decide (3 ≤ (w.length : Int)) && decide ((w.length : Int) ≤ 24))
def hgt (n : Int) (w : List Int) : Nat → Int
  | 0 => gi w 0
  | k + 1 => hgt n w k + upW n (gi w k) (nxW w k)
def hgts (n : Int) (w : List Int) (k : Nat) : List Int := (List.range (k + 1)).map (hgt n w)
theorem hgts_zero (n : Int) (w : List Int) : hgts n w 0 = [gi w 0] := rfl
theorem hgts_succ (n : Int) (w : List Int) (k : Nat) : hgts n w (k + 1) = hgts n w k ++ [hgt n w k + upW n (gi w k) (nxW w k)] := by
  unfold hgts
  rw [List.range_succ, List.map_append]
  rfl
theorem hgts_len (n : Int) (w : List Int) (k : Nat) : (hgts n w k).length = k + 1 := by simp [hgts]
theorem hgts_at {n : Int} {w : List Int} {k : Nat} {i : Int} (h0 : 0 ≤ i) (h1 : i ≤ k) : gi (hgts n w k) i = hgt n w i.toNat := by
  unfold gi hgts
  rw [List.getD_eq_getElem?_getD, List.getElem?_map, List.getElem?_range (by omega)]
  rfl
theorem in_gi {n : Int} {w : List Int} (h : inW n w = true) {k : Int} (h0 : 0 ≤ k) (h1 : k < w.length) : 0 ≤ gi w k ∧ gi w k < n := by
  have := (List.all_eq_true.1 h) _ (gi_mem h0 h1)
  simpa using this
theorem nx_in {n : Int} {w : List Int} (h : inW n w = true) {k : Int} (h0 : 0 ≤ k) (h1 : k < w.length) : 0 ≤ nxW w k ∧ nxW w k < n := by
  have := tmod_in (x := k + 1) (n := (w.length : Int)) (by omega) (by omega)
  exact in_gi h this.1 this.2
theorem nx_lt {w : List Int} {k : Int} (h0 : 0 ≤ k) (h1 : k + 1 < w.length) : nxW w k = gi w (k + 1) := by
  unfold nxW
  rw [Int.tmod_eq_emod_of_nonneg (by omega), Int.emod_eq_of_lt (by omega) (by omega)]
/-- As far as a place all is as it should be. -/
def goodTo (n : Int) (w : List Int) (k : Nat) : Prop := (∀ i : Nat, i ≤ k → i < w.length → 0 ≤ gi w i ∧ gi w i < n) ∧ ∀ i : Nat, i < k → riseB n (gi w i) (nxW w i) = true
theorem good_zero {n : Int} {w : List Int} (h : 0 ≤ gi w 0 ∧ gi w 0 < n) : goodTo n w 0 := ⟨fun i hi _ => by rw [show i = 0 by omega]; exact h, fun i hi => by omega⟩
theorem good_succ {n : Int} {w : List Int} {k : Nat} (n3 : 3 ≤ n) (n8 : n ≤ 8) (h : goodTo n w k) (hk : k < w.length) (hr : riseB n (gi w k) (nxW w k) = true) : goodTo n w (k + 1) := by
  refine ⟨fun i hi hl => ?_, fun i hi => ?_⟩
  · by_cases e : i = k + 1
    · subst e
      have g := h.1 k (Nat.le_refl _) hk
      have := rise_up n3 n8 g.1 g.2 hr
      rw [nx_lt (by omega) (by omega)] at this
      exact ⟨this.1, this.2.1⟩
    · exact h.1 i (by omega) hl
  · by_cases e : i = k
    · subst e; exact hr
    · exact h.2 i (by omega)
theorem good_iff {n : Int} {w : List Int} (n3 : 3 ≤ n) (n8 : n ≤ 8) (l3 : 3 ≤ (w.length : Int)) (l24 : (w.length : Int) ≤ 24) : goodTo n w w.length ↔ cloW n w true = true := by
  constructor
  · intro h
    have hin : inW n w = true := List.all_eq_true.2 fun x hx => by
      obtain ⟨i, hi, rfl⟩ := List.mem_iff_getElem.1 hx
      have := h.1 i (by omega) hi
      unfold gi at this
      rw [List.getD_eq_getElem?_getD, Int.toNat_natCast, List.getElem?_eq_getElem hi] at this
      simpa using this
    unfold cloW
    rw [hin]
    simp only [Bool.true_and, Bool.and_eq_true, decide_eq_true_eq]
    refine ⟨List.all_eq_true.2 fun i hi => ?_, l3, l24⟩
    have hi' : i < w.length := List.mem_range.1 hi
    have g := in_gi hin (k := i) (by omega) (by omega)
    have := rise_up n3 n8 g.1 g.2 (h.2 i hi')
    unfold okK
    simp only [Bool.not_true, Bool.and_false, Bool.not_false, Bool.and_true, decide_eq_true_eq]
    exact this.2.2.1
  · intro h
    unfold cloW at h
    simp only [Bool.and_eq_true, decide_eq_true_eq] at h
    refine ⟨fun i _ hl => in_gi h.1.1 (by omega) (by omega), fun i hi => ?_⟩
    have h2 := (List.all_eq_true.1 h.1.2) i (List.mem_range.2 hi)
    unfold okK at h2
    simp only [Bool.not_true, Bool.and_false, Bool.not_false, Bool.and_true, decide_eq_true_eq] at h2
    have g := in_gi h.1.1 (k := i) (by omega) (by omega)
    have g' := nx_in h.1.1 (k := i) (by omega) (by omega)
    exact up_rise n3 n8 g.1 g.2 g'.1 g'.2 h2
theorem bad_clo {n : Int} {w : List Int} {k : Nat} (n3 : 3 ≤ n) (n8 : n ≤ 8) (hk : k < w.length) (hr : riseB n (gi w k) (nxW w k) = false) : cloW n w true = false := by
  rw [← Bool.not_eq_true]
  intro h
  have h' := h
  unfold cloW at h'
  simp only [Bool.and_eq_true, decide_eq_true_eq] at h'
  have := ((good_iff n3 n8 h'.2.1 h'.2.2).2 h).2 k hk
  rw [hr] at this
  cases this
/-- How far heights can be from the first one. -/
theorem hgt_in {n : Int} {w : List Int} (n3 : 3 ≤ n) (n8 : n ≤ 8) : ∀ {k : Nat}, goodTo n w k → k ≤ w.length → gi w 0 - k ≤ hgt n w k ∧ hgt n w k ≤ gi w 0 + k
  | 0, _, _ => by simp [hgt]
  | k + 1, h, hk => by
    have ih := hgt_in n3 n8 (k := k) ⟨fun i hi => h.1 i (by omega), fun i hi => h.2 i (by omega)⟩ (by omega)
    have g := h.1 k (by omega) (by omega)
    have hr := rise_up n3 n8 g.1 g.2 (h.2 k (by omega))
    have hu := up_in n3 n8 g.1 g.2 hr.1 hr.2.1
    simp only [hgt]
    omega
def clB (n : Int) (w : List Int) (lz : Bool) : Bool := decide (3 ≤ n) && decide (n ≤ 8) && cloW n w lz
def hgtR (n : Int) (w : List Int) : List Int := if clB n w true = true then hgts n w w.length else []
end Go.Proofs.Ytnofnnhclogcmaa.M
/- Closed walks: the specification's functions, and the program's small ones. -/
namespace Go.Proofs.Ytnofnnhclogcmaa.M
open Go.RowKit Abs
set_option linter.unusedSimpArgs false
set_option linter.unusedVariables false
set_option maxRecDepth 100000
set_option maxHeartbeats 4000000
theorem sp_l10N (n : Int) : Spec2 Try.prog 48 [.int fun _ => n] [] [.bool fun _ => decide (3 ≤ n) && decide (n ≤ 8)] [] := by
  refine fnS [] [2] Try.func48 rfl (by decide) rfl (by decide) (by kernel_rfl) rfl (by simp [Try.ntmps48]) ?_
  cbv
  ((try simp only [IfP_iff, and_true, true_and, decide_eq_true_eq, decide_eq_false_iff_not]); (try simp only [natc, getI_gi, at2_0, at2_1]); (try dsimp only [Ty.den]); (try simp only [natc] at *); (repeat' (first | apply And.intro | intro _)))
  ((first | refine call_q (sp_in n 3 8) (by cbv) ?_ | refine call_pure (sp_in n 3 8) (by cbv) ?_); cbv; ((try simp only [IfP_iff, and_true, true_and, decide_eq_true_eq, decide_eq_false_iff_not]); (try simp only [natc, getI_gi, at2_0, at2_1]); (try dsimp only [Ty.den]); (try simp only [natc] at *); (repeat' (first | apply And.intro | intro _))))
  all_goals (try (simp only [IfP_iff, EqU_iff, Obl_iff, and_true, true_and, inI_iff, decide_eq_true_eq, decide_eq_false_iff_not]; (try simp only [natc, getI_gi, at2_0, at2_1]); (try dsimp only [Ty.den]); try simp only [natc] at *))
  all_goals ((repeat' (first | apply And.intro | intro _)) <;> first | omega | (simp only [List.length_append, List.length_cons, List.length_nil]; omega) | grind)
theorem im_cycSize (n : Int) : Spec2 Try.prog 41 [.int fun _ => n] [] [.bool fun _ => decide (3 ≤ n) && decide (n ≤ 8)] [] := by
  refine fnS [] [2] Try.func41 rfl (by decide) rfl (by decide) (by kernel_rfl) rfl (by simp [Try.ntmps41]) ?_
  cbv
  ((try simp only [IfP_iff, and_true, true_and, decide_eq_true_eq, decide_eq_false_iff_not]); (try simp only [natc, getI_gi, at2_0, at2_1]); (try dsimp only [Ty.den]); (try simp only [natc] at *); (repeat' (first | apply And.intro | intro _)))
  all_goals (try (simp only [IfP_iff, EqU_iff, Obl_iff, and_true, true_and, inI_iff, decide_eq_true_eq, decide_eq_false_iff_not]; (try simp only [natc, getI_gi, at2_0, at2_1]); (try dsimp only [Ty.den]); try simp only [natc] at *))
  all_goals ((repeat' (first | apply And.intro | intro _)) <;> first | omega | (simp only [List.length_append, List.length_cons, List.length_nil]; omega) | grind)
theorem sp_l10Up (n a b : Int) (n3 : 3 ≤ n) (n8 : n ≤ 8) (a0 : 0 ≤ a) (a1 : a < n) (b0 : 0 ≤ b) (b1 : b < n) : Spec2 Try.prog 70 [.int fun _ => n, .int fun _ => a, .int fun _ => b] [] [.int fun _ => upW n a b] [] := by
  have h := tmod_in (x := b - a + n) (n := n) (by omega) (by omega)
  have e1 : (b - a + n).tmod n = n - 1 → upW n a b = -1 := fun h => by unfold upW; rw [if_pos h]
  have e2 : ¬ (b - a + n).tmod n = n - 1 → upW n a b = (b - a + n).tmod n := fun h => by unfold upW; rw [if_neg h]
  refine fnS [] [6] Try.func70 rfl (by decide) rfl (by decide) (by kernel_rfl) rfl (by simp [Try.ntmps70]) ?_
  cbv
  ((try simp only [IfP_iff, and_true, true_and, decide_eq_true_eq, decide_eq_false_iff_not]); (try simp only [natc, getI_gi, at2_0, at2_1]); (try dsimp only [Ty.den]); (try simp only [natc] at *); (repeat' (first | apply And.intro | intro _)))
  all_goals (try (simp only [IfP_iff, EqU_iff, Obl_iff, and_true, true_and, inI_iff, decide_eq_true_eq, decide_eq_false_iff_not]; (try simp only [natc, getI_gi, at2_0, at2_1]); (try dsimp only [Ty.den]); try simp only [natc] at *))
  all_goals ((repeat' (first | apply And.intro | intro _)) <;> first | omega | (exact (e1 (by assumption)).symm) | (exact (e2 (by assumption)).symm) | grind)
theorem im_riseTo (n a b : Int) (n3 : 3 ≤ n) (n8 : n ≤ 8) (a0 : 0 ≤ a) (a1 : a < n) : Spec2 Try.prog 44 [.int fun _ => n, .int fun _ => a, .int fun _ => b] [] [.int fun _ => riseI n a b, .bool fun _ => riseB n a b] [] := by
  have e1 : b = a → 0 = riseI n a b ∧ true = riseB n a b := fun h => by unfold riseI riseB; simp [h]
  have e2 : ¬ b = a → b = (a + 1).tmod n → 1 = riseI n a b ∧ true = riseB n a b := fun h h2 => by unfold riseI riseB; rw [if_neg h, if_pos h2]; simp [h2]
  have e3 : ¬ b = a → ¬ b = (a + 1).tmod n → b = (a + n - 1).tmod n → -1 = riseI n a b ∧ true = riseB n a b := fun h h2 h3 => by unfold riseI riseB; rw [if_neg h, if_neg h2, if_pos h3]; simp [h3]
  have e4 : ¬ b = a → ¬ b = (a + 1).tmod n → ¬ b = (a + n - 1).tmod n → 0 = riseI n a b ∧ false = riseB n a b := fun h h2 h3 => by unfold riseI riseB; rw [if_neg h, if_neg h2, if_neg h3]; simp [h, h2, h3]
  refine fnS [] [6, 7] Try.func44 rfl (by decide) rfl (by decide) (by kernel_rfl) rfl (by simp [Try.ntmps44]) ?_
  cbv
  ((try simp only [IfP_iff, and_true, true_and, decide_eq_true_eq, decide_eq_false_iff_not]); (try simp only [natc, getI_gi, at2_0, at2_1]); (try dsimp only [Ty.den]); (try simp only [natc] at *); (repeat' (first | apply And.intro | intro _)))
  all_goals (try (simp only [IfP_iff, EqU_iff, Obl_iff, and_true, true_and, inI_iff, decide_eq_true_eq, decide_eq_false_iff_not]; (try simp only [natc, getI_gi, at2_0, at2_1]); (try dsimp only [Ty.den]); try simp only [natc] at *))
  all_goals ((repeat' (first | apply And.intro | intro _)) <;> first | omega | (exact (e1 (by assumption)).1) | (exact (e1 (by assumption)).2) | (exact (e2 (by assumption) (by assumption)).1) | (exact (e2 (by assumption) (by assumption)).2) | (exact (e3 (by assumption) (by assumption) (by assumption)).1) | (exact (e3 (by assumption) (by assumption) (by assumption)).2) | (exact (e4 (by assumption) (by assumption) (by assumption)).1) | (exact (e4 (by assumption) (by assumption) (by assumption)).2) | trace_state)
theorem inW_snoc {n : Int} {w : List Int} {k : Int} (h0 : 0 ≤ k) (h1 : k < (w.length : Int)) : inW n (w.take (k + 1).toNat) = (inW n (w.take k.toNat) && (decide (0 ≤ gi w k) && decide (gi w k < n))) := by
  rw [take_gi h0 h1]
  unfold inW
  rw [List.all_append]
  simp
theorem inW_bad {n : Int} {w : List Int} {k : Int} (h0 : 0 ≤ k) (h1 : k < (w.length : Int)) (h : (decide (0 ≤ gi w k) && decide (gi w k ≤ n - 1)) = false) : inW n w = false := by
  rw [← Bool.not_eq_true]
  intro hc
  have := in_gi hc h0 h1
  simp only [Bool.and_eq_false_iff, decide_eq_false_iff_not] at h
  omega
theorem stW_succ {n : Int} {w : List Int} {lz : Bool} {k : Int} (h0 : 0 ≤ k) : stW n w lz (k + 1).toNat = (stW n w lz k.toNat && okK n w lz k) := by
  have e : (k + 1).toNat = k.toNat + 1 := by omega
  unfold stW
  rw [e, List.range_succ, List.all_append]
  simp only [List.all_cons, List.all_nil, Bool.and_true]
  rw [show ((k.toNat : Nat) : Int) = k by omega]
theorem stW_bad {n : Int} {w : List Int} {lz : Bool} {k : Int} (h0 : 0 ≤ k) (h1 : k < (w.length : Int)) (h : okK n w lz k = false) : stW n w lz w.length = false := by
  rw [← Bool.not_eq_true]
  intro hc
  have := (List.all_eq_true.1 hc) k.toNat (List.mem_range.2 (by omega))
  rw [show ((k.toNat : Nat) : Int) = k by omega, h] at this
  cases this
theorem sp_l10Walk (n : Int) (w : List Int) (lz : Bool) (n3 : 3 ≤ n) (n8 : n ≤ 8) (hw : w.length ≤ 1048576) : Spec2 Try.prog 49 [.int fun _ => n, .sl .int fun _ => w, .bool fun _ => lz] [] [.bool fun _ => cloW n w lz] [] := by
  refine fnS [] [6] Try.func49 rfl (by decide) rfl (by decide) (by kernel_rfl) rfl (by simp [Try.ntmps49]) ?_
  cbv
  ((try simp only [IfP_iff, and_true, true_and, decide_eq_true_eq, decide_eq_false_iff_not]); (try simp only [natc, getI_gi, at2_0, at2_1]); (try dsimp only [Ty.den]); (try simp only [natc] at *); (repeat' (first | apply And.intro | intro _)))
  refine loopP (by kernel_rfl) (fun k : Int => 0 ≤ k ∧ k ≤ w.length ∧ inW n (w.take k.toNat) = true) (fun k => [(7, .int fun _ => k)]) (fun _ => []) (fun k => (w.length - k).toNat) (· + 1) 0 (by refine ⟨by omega, by omega, rfl⟩) ?_ ?_
  · cbv
    (simp only [IfP_iff, EqU_iff, Obl_iff, and_true, true_and, inI_iff, decide_eq_true_eq, decide_eq_false_iff_not]; (try simp only [natc, getI_gi, at2_0, at2_1]); (try dsimp only [Ty.den]); try simp only [natc] at *)
  · intro k hk
    have c1 : k < (w.length : Int) → (decide (0 ≤ gi w k) && decide (gi w k ≤ n - 1)) = true → inW n (w.take (k + 1).toNat) = true := fun h1 h2 => by
      rw [inW_snoc hk.1 h1, hk.2.2]
      simp only [Bool.and_eq_true, decide_eq_true_eq] at h2 ⊢
      refine ⟨trivial, h2.1, by omega⟩
    have c2 : k < (w.length : Int) → (!(decide (0 ≤ gi w k) && decide (gi w k ≤ n - 1))) = true → false = cloW n w lz := fun h1 h2 => by
      unfold cloW
      rw [inW_bad hk.1 h1 (by simpa only [Bool.not_eq_true'] using h2)]
      rfl
    have c3 : ¬ k < (w.length : Int) → inW n w = true := fun h => by
      have := hk.2.2
      rwa [List.take_of_length_le (by omega)] at this
    have hk1 := hk.1
    have hk2 := hk.2.1
    clear hk
    cbv
    ((try simp only [IfP_iff, and_true, true_and, decide_eq_true_eq, decide_eq_false_iff_not]); (try simp only [natc, getI_gi, at2_0, at2_1]); (try dsimp only [Ty.den]); (try simp only [natc] at *); (repeat' (first | apply And.intro | intro _)))
    all_goals (repeat' (first | ((first | refine call_q (sp_in _ _ _) (by cbv) ?_ | refine call_pure (sp_in _ _ _) (by cbv) ?_); cbv; ((try simp only [IfP_iff, and_true, true_and, decide_eq_true_eq, decide_eq_false_iff_not]); (try simp only [natc, getI_gi, at2_0, at2_1]); (try dsimp only [Ty.den]); (try simp only [natc] at *); (repeat' (first | apply And.intro | intro _))))))
    all_goals (try (show Obl _; (simp only [IfP_iff, EqU_iff, Obl_iff, and_true, true_and, inI_iff, decide_eq_true_eq, decide_eq_false_iff_not]; (try simp only [natc, getI_gi, at2_0, at2_1]); (try dsimp only [Ty.den]); try simp only [natc] at *); ((repeat' (first | apply And.intro | intro _)) <;> first | omega | trace_state)))
    rotate_right 1
    · refine loopP (by kernel_rfl) (fun j : Int => 0 ≤ j ∧ j ≤ w.length ∧ stW n w lz j.toNat = true) (fun j => [(8, .int fun _ => j)]) (fun _ => []) (fun j => (w.length - j).toNat) (· + 1) 0 (by refine ⟨by omega, by omega, rfl⟩) ?_ ?_
      · cbv
        (simp only [IfP_iff, EqU_iff, Obl_iff, and_true, true_and, inI_iff, decide_eq_true_eq, decide_eq_false_iff_not]; (try simp only [natc, getI_gi, at2_0, at2_1]); (try dsimp only [Ty.den]); try simp only [natc] at *)
      · intro j hj
        have c3 := c3 (by assumption)
        have d0 : j < (w.length : Int) → (0 ≤ gi w j ∧ gi w j < n) ∧ (0 ≤ nxW w j ∧ nxW w j < n) := fun h => ⟨in_gi c3 hj.1 h, nx_in c3 hj.1 h⟩
        have d1 : j < (w.length : Int) → 0 ≤ (j + 1).tmod (w.length : Int) ∧ (j + 1).tmod (w.length : Int) < (w.length : Int) := fun h => tmod_in (by omega) (by omega)
        have d2 : j < (w.length : Int) → Spec2 Try.prog 70 [.int fun _ => n, .int fun _ => gi w j, .int fun _ => gi w ((j + 1).tmod (w.length : Int))] [] [.int fun _ => upW n (gi w j) (nxW w j)] [] := fun h => sp_l10Up n (gi w j) (nxW w j) n3 n8 (d0 h).1.1 (d0 h).1.2 (d0 h).2.1 (d0 h).2.2
        have e1 : j < (w.length : Int) → upW n (gi w j) (nxW w j) > 1 → false = cloW n w lz := fun h1 h2 => by
          unfold cloW
          rw [stW_bad hj.1 h1 (by unfold okK; rw [decide_eq_false (by omega)]; rfl)]
          simp
        have e2 : j < (w.length : Int) → upW n (gi w j) (nxW w j) = 0 → (!lz) = true → false = cloW n w lz := fun h1 h2 h3 => by
          unfold cloW
          rw [stW_bad hj.1 h1 (by unfold okK; rw [decide_eq_true h2, h3]; simp)]
          simp
        have e3 : j < (w.length : Int) → ¬ upW n (gi w j) (nxW w j) > 1 → ¬ (upW n (gi w j) (nxW w j) = 0 ∧ (!lz) = true) → stW n w lz (j + 1).toNat = true := fun h1 h2 h3 => by
          rw [stW_succ hj.1, hj.2.2]
          unfold okK
          rw [decide_eq_true (by omega)]
          simp only [Bool.true_and, Bool.not_eq_true', Bool.and_eq_false_iff, decide_eq_false_iff_not]
          by_cases c : upW n (gi w j) (nxW w j) = 0
          · right; simpa using fun h => h3 ⟨c, h⟩
          · left; exact c
        have e4 : ¬ j < (w.length : Int) → (decide (3 ≤ (w.length : Int)) && decide ((w.length : Int) ≤ 24)) = cloW n w lz := fun h => by
          have := hj.2.2
          rw [show j.toNat = w.length by omega] at this
          unfold cloW
          rw [c3, this]
          rfl
        have hj1 := hj.1
        have hj2 := hj.2.1
        clear hj c3 c1 c2
        cbv
        ((try simp only [IfP_iff, and_true, true_and, decide_eq_true_eq, decide_eq_false_iff_not]); (try simp only [natc, getI_gi, at2_0, at2_1]); (try dsimp only [Ty.den]); (try simp only [natc] at *); (repeat' (first | apply And.intro | intro _)))
        all_goals (repeat' (first | ((first | refine call_q (d2 (by assumption)) (by cbv) ?_ | refine call_pure (d2 (by assumption)) (by cbv) ?_); cbv; ((try simp only [IfP_iff, and_true, true_and, decide_eq_true_eq, decide_eq_false_iff_not]); (try simp only [natc, getI_gi, at2_0, at2_1]); (try dsimp only [Ty.den]); (try simp only [natc] at *); (repeat' (first | apply And.intro | intro _)))) | ((first | refine call_q (sp_in _ _ _) (by cbv) ?_ | refine call_pure (sp_in _ _ _) (by cbv) ?_); cbv; ((try simp only [IfP_iff, and_true, true_and, decide_eq_true_eq, decide_eq_false_iff_not]); (try simp only [natc, getI_gi, at2_0, at2_1]); (try dsimp only [Ty.den]); (try simp only [natc] at *); (repeat' (first | apply And.intro | intro _))))))
        all_goals (try clear d2)
        all_goals (try (simp only [IfP_iff, EqU_iff, Obl_iff, and_true, true_and, inI_iff, decide_eq_true_eq, decide_eq_false_iff_not]; (try simp only [natc, getI_gi, at2_0, at2_1]); (try dsimp only [Ty.den]); try simp only [natc] at *))
        all_goals ((repeat' (first | apply And.intro | intro _)) <;> first | omega | (exact e1 (by assumption) (by assumption)) | (exact e2 (by assumption) (by assumption) (by assumption)) | (exact e4 (by assumption)) | (exact e3 (by assumption) (by assumption) (by simp [*])) | (have := d1 (by assumption); omega) | trace_state)
    all_goals (try (simp only [IfP_iff, EqU_iff, Obl_iff, and_true, true_and, inI_iff, decide_eq_true_eq, decide_eq_false_iff_not]; (try simp only [natc, getI_gi, at2_0, at2_1]); (try dsimp only [Ty.den]); try simp only [natc] at *))
    all_goals ((repeat' (first | apply And.intro | intro _)) <;> first | omega | (exact c2 (by assumption) (by assumption)) | (exact c1 (by assumption) (by simp_all)) | grind | trace_state)
end Go.Proofs.Ytnofnnhclogcmaa.M
/- Heights, windings, slack: the specification. -/
namespace Go.Proofs.Ytnofnnhclogcmaa.M
open Go.RowKit Abs
set_option linter.unusedSimpArgs false
set_option linter.unusedVariables false
set_option maxRecDepth 100000
set_option maxHeartbeats 4000000
theorem sp_mstZ (a b : Int) : Spec2 Try.prog 72 [.int fun _ => a, .int fun _ => b] [] [.int fun _ => max a b] [] := by
  refine fnS [] [4] Try.func72 rfl (by decide) rfl (by decide) (by kernel_rfl) rfl (by simp [Try.ntmps72]) ?_
  cbv
  ((try simp only [IfP_iff, and_true, true_and, decide_eq_true_eq, decide_eq_false_iff_not]); (try simp only [natc, getI_gi, at2_0, at2_1]); (try dsimp only [Ty.den]); (try simp only [natc] at *); (repeat' (first | apply And.intro | intro _)))
  all_goals (try (simp only [IfP_iff, EqU_iff, Obl_iff, and_true, true_and, inI_iff, decide_eq_true_eq, decide_eq_false_iff_not]; (try simp only [natc, getI_gi, at2_0, at2_1]); (try dsimp only [Ty.den]); try simp only [natc] at *))
  all_goals ((repeat' (first | apply And.intro | intro _)) <;> omega)
theorem sp_l10Closed (n : Int) (w : List Int) (hw : w.length ≤ 1048576) : Spec2 Try.prog 39 [.int fun _ => n, .sl .int fun _ => w] [] [.bool fun _ => clB n w true] [] := by
  by_cases hn : (decide (3 ≤ n) && decide (n ≤ 8)) = true
  case pos =>
    have e : cloW n w true = clB n w true := by unfold clB; rw [hn]; rfl
    simp only [Bool.and_eq_true, decide_eq_true_eq] at hn
    have c := sp_l10Walk n w true hn.1 hn.2 hw
    rw [e] at c
    have e2 : (decide (3 ≤ n) && decide (n ≤ 8)) = true := by simp [hn.1, hn.2]
    refine fnS [] [4] Try.func39 rfl (by decide) rfl (by decide) (by kernel_rfl) rfl (by simp [Try.ntmps39]) ?_
    cbv
    ((try simp only [IfP_iff, and_true, true_and, decide_eq_true_eq, decide_eq_false_iff_not]); (try simp only [natc, getI_gi, at2_0, at2_1]); (try dsimp only [Ty.den]); (try simp only [natc] at *); (repeat' (first | apply And.intro | intro _)))
    all_goals (repeat' (first | ((first | refine call_q (sp_l10N n) (by cbv) ?_ | refine call_pure (sp_l10N n) (by cbv) ?_); cbv; ((try simp only [IfP_iff, and_true, true_and, decide_eq_true_eq, decide_eq_false_iff_not]); (try simp only [natc, getI_gi, at2_0, at2_1]); (try dsimp only [Ty.den]); (try simp only [natc] at *); (repeat' (first | apply And.intro | intro _)))) | ((first | refine call_q c (by cbv) ?_ | refine call_pure c (by cbv) ?_); cbv; ((try simp only [IfP_iff, and_true, true_and, decide_eq_true_eq, decide_eq_false_iff_not]); (try simp only [natc, getI_gi, at2_0, at2_1]); (try dsimp only [Ty.den]); (try simp only [natc] at *); (repeat' (first | apply And.intro | intro _))))))
    all_goals (try (exact absurd (by assumption : (decide (3 ≤ n) && decide (n ≤ 8)) = false) (by rw [e2]; decide)))
    all_goals (try (simp only [IfP_iff, EqU_iff, Obl_iff, and_true, true_and, inI_iff, decide_eq_true_eq, decide_eq_false_iff_not]; (try simp only [natc, getI_gi, at2_0, at2_1]); (try dsimp only [Ty.den]); try simp only [natc] at *))
  case neg =>
    have e : false = clB n w true := by unfold clB; rw [Bool.not_eq_true] at hn; rw [hn]; rfl
    refine fnS [] [4] Try.func39 rfl (by decide) rfl (by decide) (by kernel_rfl) rfl (by simp [Try.ntmps39]) ?_
    cbv
    ((try simp only [IfP_iff, and_true, true_and, decide_eq_true_eq, decide_eq_false_iff_not]); (try simp only [natc, getI_gi, at2_0, at2_1]); (try dsimp only [Ty.den]); (try simp only [natc] at *); (repeat' (first | apply And.intro | intro _)))
    all_goals (repeat' (first | ((first | refine call_q (sp_l10N n) (by cbv) ?_ | refine call_pure (sp_l10N n) (by cbv) ?_); cbv; ((try simp only [IfP_iff, and_true, true_and, decide_eq_true_eq, decide_eq_false_iff_not]); (try simp only [natc, getI_gi, at2_0, at2_1]); (try dsimp only [Ty.den]); (try simp only [natc] at *); (repeat' (first | apply And.intro | intro _))))))
    all_goals (try (exact absurd (by assumption) hn))
    all_goals (try (simp only [IfP_iff, EqU_iff, Obl_iff, and_true, true_and, inI_iff, decide_eq_true_eq, decide_eq_false_iff_not]; (try simp only [natc, getI_gi, at2_0, at2_1]); (try dsimp only [Ty.den]); try simp only [natc] at *))
    all_goals (first | exact e | trace_state)
/-- What a closed walk is. -/
theorem cl_get {n : Int} {w : List Int} {lz : Bool} (h : clB n w lz = true) : 3 ≤ n ∧ n ≤ 8 ∧ cloW n w lz = true ∧ 3 ≤ (w.length : Int) ∧ (w.length : Int) ≤ 24 ∧ inW n w = true := by
  unfold clB at h
  simp only [Bool.and_eq_true, decide_eq_true_eq] at h
  have h2 := h.2
  unfold cloW at h2
  simp only [Bool.and_eq_true, decide_eq_true_eq] at h2
  exact ⟨h.1.1, h.1.2, h.2, h2.2.1, h2.2.2, h2.1.1⟩
theorem cl_good {n : Int} {w : List Int} (h : clB n w true = true) : goodTo n w w.length := by
  obtain ⟨h1, h2, h3, h4, h5, _⟩ := cl_get h
  exact (good_iff h1 h2 h4 h5).2 h3
theorem cl_hgt {n : Int} {w : List Int} (h : clB n w true = true) {k : Nat} (hk : k ≤ w.length) : -24 ≤ hgt n w k ∧ hgt n w k ≤ 32 ∧ 0 ≤ gi w 0 ∧ gi w 0 ≤ 7 ∧ -24 ≤ hgt n w k - gi w 0 ∧ hgt n w k - gi w 0 ≤ 24 := by
  obtain ⟨h1, h2, h3, h4, h5, h6⟩ := cl_get h
  have g := cl_good h
  have := hgt_in h1 h2 (k := k) ⟨fun i hi => g.1 i (by omega), fun i hi => g.2 i (by omega)⟩ hk
  have := in_gi h6 (k := 0) (by omega) (by omega)
  omega
theorem sp_l10Heights (n : Int) (w : List Int) (h : clB n w true = true) : Spec2 Try.prog 40 [.int fun _ => n, .sl .int fun _ => w] [] [.ref 0] [some (.row 3 .int fun _ => hgts n w w.length)] := by
  obtain ⟨n3, n8, h3, l3, l24, h6⟩ := cl_get h
  refine fnS [0] [4] Try.func40 rfl (by decide) rfl (by decide) (by kernel_rfl) rfl (by simp [Try.ntmps40]) ?_
  cbv
  ((try simp only [IfP_iff, and_true, true_and, decide_eq_true_eq, decide_eq_false_iff_not]); (try simp only [natc, getI_gi, at2_0, at2_1]); (try dsimp only [Ty.den]); (try simp only [natc] at *); (repeat' (first | apply And.intro | intro _)))
  all_goals (try (show Obl _; (simp only [IfP_iff, EqU_iff, Obl_iff, and_true, true_and, inI_iff, decide_eq_true_eq, decide_eq_false_iff_not]; (try simp only [natc, getI_gi, at2_0, at2_1]); (try dsimp only [Ty.den]); try simp only [natc] at *); ((repeat' (first | apply And.intro | intro _)) <;> first | omega)))
  refine loopP (by kernel_rfl) (fun k : Int => 0 ≤ k ∧ k ≤ w.length) (fun k => [(6, .int fun _ => k), (5, .ref 0), (10, .junk)]) (fun k => [(0, some (.row 3 .int fun _ => hgts n w k.toNat))]) (fun k => (w.length - k).toNat) (· + 1) 0 (by omega) ?_ ?_
  · cbv
    (simp only [IfP_iff, EqU_iff, Obl_iff, and_true, true_and, inI_iff, decide_eq_true_eq, decide_eq_false_iff_not]; (try simp only [natc, getI_gi, at2_0, at2_1]); (try dsimp only [Ty.den]); try simp only [natc] at *)
    (repeat' (first | apply And.intro | intro _)) <;> first | omega | rfl
  · intro k hk
    have d0 : k < (w.length : Int) → (0 ≤ gi w k ∧ gi w k < n) ∧ (0 ≤ nxW w k ∧ nxW w k < n) := fun h => ⟨in_gi h6 hk.1 h, nx_in h6 hk.1 h⟩
    have d1 : k < (w.length : Int) → 0 ≤ (k + 1).tmod (w.length : Int) ∧ (k + 1).tmod (w.length : Int) < (w.length : Int) := fun h => tmod_in (by omega) (by omega)
    have d2 : k < (w.length : Int) → Spec2 Try.prog 70 [.int fun _ => n, .int fun _ => gi w k, .int fun _ => gi w ((k + 1).tmod (w.length : Int))] [] [.int fun _ => upW n (gi w k) (nxW w k)] [] := fun h => sp_l10Up n (gi w k) (nxW w k) n3 n8 (d0 h).1.1 (d0 h).1.2 (d0 h).2.1 (d0 h).2.2
    have d3 : k < (w.length : Int) → gi (hgts n w k.toNat) k = hgt n w k.toNat := fun h => hgts_at hk.1 (by omega)
    have d4 : k < (w.length : Int) → hgts n w k.toNat ++ [gi (hgts n w k.toNat) k + upW n (gi w k) (nxW w k)] = hgts n w (k + 1).toNat := fun h => by
      rw [d3 h, show (k + 1).toNat = k.toNat + 1 by omega, hgts_succ, show ((k.toNat : Nat) : Int) = k by omega]
    have d5 : (((hgts n w k.toNat).length : Nat) : Int) = k + 1 := by rw [hgts_len]; omega
    have d6 : k < (w.length : Int) → -24 ≤ gi (hgts n w k.toNat) k ∧ gi (hgts n w k.toNat) k ≤ 32 := fun hl => by
      rw [d3 hl]
      have := cl_hgt h (k := k.toNat) (by omega)
      omega
    have d7 : k < (w.length : Int) → -1 ≤ upW n (gi w k) (nxW w k) ∧ upW n (gi w k) (nxW w k) ≤ n - 2 := fun h => up_in n3 n8 (d0 h).1.1 (d0 h).1.2 (d0 h).2.1 (d0 h).2.2
    have d8 : ¬ k < (w.length : Int) → hgts n w k.toNat = hgts n w w.length := fun h => by rw [show k.toNat = w.length by omega]
    have hk1 := hk.1
    have hk2 := hk.2
    clear hk d3 d0
    cbv
    ((try simp only [IfP_iff, and_true, true_and, decide_eq_true_eq, decide_eq_false_iff_not]); (try simp only [natc, getI_gi, at2_0, at2_1]); (try dsimp only [Ty.den]); (try simp only [natc] at *); (repeat' (first | apply And.intro | intro _)))
    all_goals (repeat' (first | ((first | refine call_q (d2 (by assumption)) (by cbv) ?_ | refine call_pure (d2 (by assumption)) (by cbv) ?_); cbv; ((try simp only [IfP_iff, and_true, true_and, decide_eq_true_eq, decide_eq_false_iff_not]); (try simp only [natc, getI_gi, at2_0, at2_1]); (try dsimp only [Ty.den]); (try simp only [natc] at *); (repeat' (first | apply And.intro | intro _))))))
    all_goals (try clear d2)
    all_goals (try (simp only [IfP_iff, EqU_iff, Obl_iff, and_true, true_and, inI_iff, decide_eq_true_eq, decide_eq_false_iff_not]; (try simp only [natc, getI_gi, at2_0, at2_1]); (try dsimp only [Ty.den]); try simp only [natc] at *))
    all_goals ((repeat' (first | apply And.intro | intro _)) <;> first | omega | (exact d4 (by assumption)) | (exact d8 (by assumption)) | (have q1 := d1 (by assumption); have q2 := d6 (by assumption); have q3 := d7 (by assumption); omega) | (simp only [List.length_cons, List.length_nil]; omega) | trace_state)
theorem sp_heightsOf (n : Int) (w : List Int) (hw : w.length ≤ 1048576) : Spec2 Try.prog 12 [.int fun _ => n, .sl .int fun _ => w] [] [.ref 0, .bool fun _ => clB n w true] [some (.row 3 .int fun _ => hgtR n w)] := by
  have e0 := sp_l10Closed n w hw
  cases hc : clB n w true with
  | true =>
    rw [hc] at e0
    have e1 := sp_l10Heights n w hc
    rw [show hgtR n w = hgts n w w.length by unfold hgtR; rw [if_pos hc]]
    refine fnS [0] [4, 5] Try.func12 rfl (by decide) rfl (by decide) (by kernel_rfl) rfl (by simp [Try.ntmps12]) ?_
    cbv
    ((try simp only [IfP_iff, and_true, true_and, decide_eq_true_eq, decide_eq_false_iff_not]); (try simp only [natc, getI_gi, at2_0, at2_1]); (try dsimp only [Ty.den]); (try simp only [natc] at *); (repeat' (first | apply And.intro | intro _)))
    all_goals (repeat' (first | ((first | refine call_q e0 (by cbv) ?_ | refine call_pure e0 (by cbv) ?_); cbv; ((try simp only [IfP_iff, and_true, true_and, decide_eq_true_eq, decide_eq_false_iff_not]); (try simp only [natc, getI_gi, at2_0, at2_1]); (try dsimp only [Ty.den]); (try simp only [natc] at *); (repeat' (first | apply And.intro | intro _)))) | ((first | refine call_q e1 (by cbv) ?_ | refine call_pure e1 (by cbv) ?_); cbv; ((try simp only [IfP_iff, and_true, true_and, decide_eq_true_eq, decide_eq_false_iff_not]); (try simp only [natc, getI_gi, at2_0, at2_1]); (try dsimp only [Ty.den]); (try simp only [natc] at *); (repeat' (first | apply And.intro | intro _))))))
    all_goals (try (exact absurd (by assumption : (!true) = true) (by decide)))
    all_goals (try (simp only [IfP_iff, EqU_iff, Obl_iff, and_true, true_and, inI_iff, decide_eq_true_eq, decide_eq_false_iff_not]; (try simp only [natc, getI_gi, at2_0, at2_1]); (try dsimp only [Ty.den]); try simp only [natc] at *))
  | false =>
    rw [hc] at e0
    rw [show hgtR n w = [] by unfold hgtR; rw [hc]; rfl]
    refine fnS [0] [4, 5] Try.func12 rfl (by decide) rfl (by decide) (by kernel_rfl) rfl (by simp [Try.ntmps12]) ?_
    cbv
    ((try simp only [IfP_iff, and_true, true_and, decide_eq_true_eq, decide_eq_false_iff_not]); (try simp only [natc, getI_gi, at2_0, at2_1]); (try dsimp only [Ty.den]); (try simp only [natc] at *); (repeat' (first | apply And.intro | intro _)))
    all_goals (repeat' (first | ((first | refine call_q e0 (by cbv) ?_ | refine call_pure e0 (by cbv) ?_); cbv; ((try simp only [IfP_iff, and_true, true_and, decide_eq_true_eq, decide_eq_false_iff_not]); (try simp only [natc, getI_gi, at2_0, at2_1]); (try dsimp only [Ty.den]); (try simp only [natc] at *); (repeat' (first | apply And.intro | intro _))))))
    all_goals (try (exact absurd (by assumption : (!false) = false) (by decide)))
    all_goals (try (simp only [IfP_iff, EqU_iff, Obl_iff, and_true, true_and, inI_iff, decide_eq_true_eq, decide_eq_false_iff_not]; (try simp only [natc, getI_gi, at2_0, at2_1]); (try dsimp only [Ty.den]); try simp only [natc] at *))
def wndI (n : Int) (w : List Int) : Int := (hgt n w w.length - gi w 0).tdiv n
def wndR (n : Int) (w : List Int) : Int := if clB n w true = true then wndI n w else 0
def slkI (n : Int) (w : List Int) : Int := w.length - n * max (wndI n w) (0 - wndI n w)
def slkR (n : Int) (w : List Int) : Int := if clB n w true = true then slkI n w else 0
theorem tdiv_in {x n : Int} (n1 : 1 ≤ n) (h0 : -24 ≤ x) (h1 : x ≤ 24) : -24 ≤ x.tdiv n ∧ x.tdiv n ≤ 24 := by
  have h2 : (x.tdiv n).natAbs ≤ x.natAbs := by rw [Int.natAbs_tdiv]; exact Nat.div_le_self _ _
  omega
theorem wnd_in {n : Int} {w : List Int} (h : clB n w true = true) : -24 ≤ wndI n w ∧ wndI n w ≤ 24 := by
  have := cl_hgt h (k := w.length) (Nat.le_refl _)
  have := cl_get h
  exact tdiv_in (by omega) (by omega) (by omega)
theorem slk_in {n : Int} {w : List Int} (h : clB n w true = true) : 0 ≤ n * max (wndI n w) (0 - wndI n w) ∧ n * max (wndI n w) (0 - wndI n w) ≤ 192 := by
  have h1 := wnd_in h
  have h2 := cl_get h
  have m0 : 0 ≤ max (wndI n w) (0 - wndI n w) := by omega
  have m1 : max (wndI n w) (0 - wndI n w) ≤ 24 := by omega
  refine ⟨Int.mul_nonneg (by omega) m0, ?_⟩
  calc n * max (wndI n w) (0 - wndI n w) ≤ 8 * 24 := Int.mul_le_mul (by omega) m1 m0 (by omega)
    _ = 192 := by decide
theorem sp_l10Winding (n : Int) (w : List Int) (h : clB n w true = true) : Spec2 Try.prog 45 [.int fun _ => n, .sl .int fun _ => w] [] [.int fun _ => wndI n w] [] := by
  have e1 := sp_l10Heights n w h
  obtain ⟨n3, n8, h3, l3, l24, h6⟩ := cl_get h
  have d1 : gi (hgts n w w.length) (w.length : Int) = hgt n w w.length := hgts_at (by omega) (by omega)
  have d2 := cl_hgt h (k := w.length) (Nat.le_refl _)
  have d3 : (((hgts n w w.length).length : Nat) : Int) = w.length + 1 := by rw [hgts_len]; omega
  have d4 := wnd_in h
  have d5 : (gi (hgts n w w.length) (w.length : Int) - gi w 0).tdiv n = wndI n w := by rw [d1]; rfl
  rw [← d1] at d2
  refine fnS [] [4] Try.func45 rfl (by decide) rfl (by decide) (by kernel_rfl) rfl (by simp [Try.ntmps45]) ?_
  cbv
  ((try simp only [IfP_iff, and_true, true_and, decide_eq_true_eq, decide_eq_false_iff_not]); (try simp only [natc, getI_gi, at2_0, at2_1]); (try dsimp only [Ty.den]); (try simp only [natc] at *); (repeat' (first | apply And.intro | intro _)))
  all_goals (repeat' (first | ((first | refine call_q e1 (by cbv) ?_ | refine call_pure e1 (by cbv) ?_); cbv; ((try simp only [IfP_iff, and_true, true_and, decide_eq_true_eq, decide_eq_false_iff_not]); (try simp only [natc, getI_gi, at2_0, at2_1]); (try dsimp only [Ty.den]); (try simp only [natc] at *); (repeat' (first | apply And.intro | intro _))))))
  all_goals (try (simp only [IfP_iff, EqU_iff, Obl_iff, and_true, true_and, inI_iff, decide_eq_true_eq, decide_eq_false_iff_not]; (try simp only [natc, getI_gi, at2_0, at2_1]); (try dsimp only [Ty.den]); try simp only [natc] at *))
  all_goals ((repeat' (first | apply And.intro | intro _)) <;> first | omega | (exact d5) | trace_state)
theorem sp_winding (n : Int) (w : List Int) (hw : w.length ≤ 1048576) : Spec2 Try.prog 18 [.int fun _ => n, .sl .int fun _ => w] [] [.int fun _ => wndR n w, .bool fun _ => clB n w true] [] := by
  have e0 := sp_l10Closed n w hw
  cases hc : clB n w true with
  | true =>
    rw [hc] at e0
    have e1 := sp_l10Winding n w hc
    rw [show wndR n w = wndI n w by unfold wndR; rw [if_pos hc]]
    refine fnS [] [4, 5] Try.func18 rfl (by decide) rfl (by decide) (by kernel_rfl) rfl (by simp [Try.ntmps18]) ?_
    cbv
    ((try simp only [IfP_iff, and_true, true_and, decide_eq_true_eq, decide_eq_false_iff_not]); (try simp only [natc, getI_gi, at2_0, at2_1]); (try dsimp only [Ty.den]); (try simp only [natc] at *); (repeat' (first | apply And.intro | intro _)))
    all_goals (repeat' (first | ((first | refine call_q e0 (by cbv) ?_ | refine call_pure e0 (by cbv) ?_); cbv; ((try simp only [IfP_iff, and_true, true_and, decide_eq_true_eq, decide_eq_false_iff_not]); (try simp only [natc, getI_gi, at2_0, at2_1]); (try dsimp only [Ty.den]); (try simp only [natc] at *); (repeat' (first | apply And.intro | intro _)))) | ((first | refine call_q e1 (by cbv) ?_ | refine call_pure e1 (by cbv) ?_); cbv; ((try simp only [IfP_iff, and_true, true_and, decide_eq_true_eq, decide_eq_false_iff_not]); (try simp only [natc, getI_gi, at2_0, at2_1]); (try dsimp only [Ty.den]); (try simp only [natc] at *); (repeat' (first | apply And.intro | intro _))))))
    all_goals (try (exact absurd (by assumption : (!true) = true) (by decide)))
    all_goals (try (simp only [IfP_iff, EqU_iff, Obl_iff, and_true, true_and, inI_iff, decide_eq_true_eq, decide_eq_false_iff_not]; (try simp only [natc, getI_gi, at2_0, at2_1]); (try dsimp only [Ty.den]); try simp only [natc] at *))
  | false =>
    rw [hc] at e0
    rw [show wndR n w = 0 by unfold wndR; rw [hc]; rfl]
    refine fnS [] [4, 5] Try.func18 rfl (by decide) rfl (by decide) (by kernel_rfl) rfl (by simp [Try.ntmps18]) ?_
    cbv
    ((try simp only [IfP_iff, and_true, true_and, decide_eq_true_eq, decide_eq_false_iff_not]); (try simp only [natc, getI_gi, at2_0, at2_1]); (try dsimp only [Ty.den]); (try simp only [natc] at *); (repeat' (first | apply And.intro | intro _)))
    all_goals (repeat' (first | ((first | refine call_q e0 (by cbv) ?_ | refine call_pure e0 (by cbv) ?_); cbv; ((try simp only [IfP_iff, and_true, true_and, decide_eq_true_eq, decide_eq_false_iff_not]); (try simp only [natc, getI_gi, at2_0, at2_1]); (try dsimp only [Ty.den]); (try simp only [natc] at *); (repeat' (first | apply And.intro | intro _))))))
    all_goals (try (exact absurd (by assumption : (!false) = false) (by decide)))
    all_goals (try (simp only [IfP_iff, EqU_iff, Obl_iff, and_true, true_and, inI_iff, decide_eq_true_eq, decide_eq_false_iff_not]; (try simp only [natc, getI_gi, at2_0, at2_1]); (try dsimp only [Ty.den]); try simp only [natc] at *))
theorem sp_l10Slack (n : Int) (w : List Int) (h : clB n w true = true) : Spec2 Try.prog 46 [.int fun _ => n, .sl .int fun _ => w] [] [.int fun _ => slkI n w] [] := by
  have e1 := sp_l10Winding n w h
  have d1 := wnd_in h
  have d2 := slk_in h
  have d3 := cl_get h
  have d4 : (w.length : Int) - n * max (wndI n w) (0 - wndI n w) = slkI n w := rfl
  generalize hM : n * max (wndI n w) (0 - wndI n w) = M at d2 d4
  refine fnS [] [4] Try.func46 rfl (by decide) rfl (by decide) (by kernel_rfl) rfl (by simp [Try.ntmps46]) ?_
  cbv
  ((try simp only [IfP_iff, and_true, true_and, decide_eq_true_eq, decide_eq_false_iff_not]); (try simp only [natc, getI_gi, at2_0, at2_1]); (try dsimp only [Ty.den]); (try simp only [natc] at *); (repeat' (first | apply And.intro | intro _)))
  all_goals (repeat' (first | ((first | refine call_q e1 (by cbv) ?_ | refine call_pure e1 (by cbv) ?_); cbv; ((try simp only [IfP_iff, and_true, true_and, decide_eq_true_eq, decide_eq_false_iff_not]); (try simp only [natc, getI_gi, at2_0, at2_1]); (try dsimp only [Ty.den]); (try simp only [natc] at *); (repeat' (first | apply And.intro | intro _)))) | ((first | refine call_q (sp_mstZ _ _) (by cbv) ?_ | refine call_pure (sp_mstZ _ _) (by cbv) ?_); cbv; ((try simp only [IfP_iff, and_true, true_and, decide_eq_true_eq, decide_eq_false_iff_not]); (try simp only [natc, getI_gi, at2_0, at2_1]); (try dsimp only [Ty.den]); (try simp only [natc] at *); (repeat' (first | apply And.intro | intro _))))))
  all_goals (try (simp only [IfP_iff, EqU_iff, Obl_iff, and_true, true_and, inI_iff, decide_eq_true_eq, decide_eq_false_iff_not]; (try simp only [natc, getI_gi, at2_0, at2_1]); (try dsimp only [Ty.den]); try simp only [natc] at *))
  all_goals ((repeat' (first | apply And.intro | intro _)) <;> first | omega | (rw [hM]; omega) | (rw [hM]; exact d4) | trace_state)
theorem sp_slack (n : Int) (w : List Int) (hw : w.length ≤ 1048576) : Spec2 Try.prog 20 [.int fun _ => n, .sl .int fun _ => w] [] [.int fun _ => slkR n w, .bool fun _ => clB n w true] [] := by
  have e0 := sp_l10Closed n w hw
  cases hc : clB n w true with
  | true =>
    rw [hc] at e0
    have e1 := sp_l10Slack n w hc
    rw [show slkR n w = slkI n w by unfold slkR; rw [if_pos hc]]
    refine fnS [] [4, 5] Try.func20 rfl (by decide) rfl (by decide) (by kernel_rfl) rfl (by simp [Try.ntmps20]) ?_
    cbv
    ((try simp only [IfP_iff, and_true, true_and, decide_eq_true_eq, decide_eq_false_iff_not]); (try simp only [natc, getI_gi, at2_0, at2_1]); (try dsimp only [Ty.den]); (try simp only [natc] at *); (repeat' (first | apply And.intro | intro _)))
    all_goals (repeat' (first | ((first | refine call_q e0 (by cbv) ?_ | refine call_pure e0 (by cbv) ?_); cbv; ((try simp only [IfP_iff, and_true, true_and, decide_eq_true_eq, decide_eq_false_iff_not]); (try simp only [natc, getI_gi, at2_0, at2_1]); (try dsimp only [Ty.den]); (try simp only [natc] at *); (repeat' (first | apply And.intro | intro _)))) | ((first | refine call_q e1 (by cbv) ?_ | refine call_pure e1 (by cbv) ?_); cbv; ((try simp only [IfP_iff, and_true, true_and, decide_eq_true_eq, decide_eq_false_iff_not]); (try simp only [natc, getI_gi, at2_0, at2_1]); (try dsimp only [Ty.den]); (try simp only [natc] at *); (repeat' (first | apply And.intro | intro _))))))
    all_goals (try (exact absurd (by assumption : (!true) = true) (by decide)))
    all_goals (try (simp only [IfP_iff, EqU_iff, Obl_iff, and_true, true_and, inI_iff, decide_eq_true_eq, decide_eq_false_iff_not]; (try simp only [natc, getI_gi, at2_0, at2_1]); (try dsimp only [Ty.den]); try simp only [natc] at *))
  | false =>
    rw [hc] at e0
    rw [show slkR n w = 0 by unfold slkR; rw [hc]; rfl]
    refine fnS [] [4, 5] Try.func20 rfl (by decide) rfl (by decide) (by kernel_rfl) rfl (by simp [Try.ntmps20]) ?_
    cbv
    ((try simp only [IfP_iff, and_true, true_and, decide_eq_true_eq, decide_eq_false_iff_not]); (try simp only [natc, getI_gi, at2_0, at2_1]); (try dsimp only [Ty.den]); (try simp only [natc] at *); (repeat' (first | apply And.intro | intro _)))
    all_goals (repeat' (first | ((first | refine call_q e0 (by cbv) ?_ | refine call_pure e0 (by cbv) ?_); cbv; ((try simp only [IfP_iff, and_true, true_and, decide_eq_true_eq, decide_eq_false_iff_not]); (try simp only [natc, getI_gi, at2_0, at2_1]); (try dsimp only [Ty.den]); (try simp only [natc] at *); (repeat' (first | apply And.intro | intro _))))))
    all_goals (try (exact absurd (by assumption : (!false) = false) (by decide)))
    all_goals (try (simp only [IfP_iff, EqU_iff, Obl_iff, and_true, true_and, inI_iff, decide_eq_true_eq, decide_eq_false_iff_not]; (try simp only [natc, getI_gi, at2_0, at2_1]); (try dsimp only [Ty.den]); try simp only [natc] at *))
end Go.Proofs.Ytnofnnhclogcmaa.M
