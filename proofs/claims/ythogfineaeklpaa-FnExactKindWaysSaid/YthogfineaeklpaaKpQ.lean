/- Kinds of sets of nodes (pure): digits against lists. -/
import Derived.Test.YthogfineaeklpaaOsQ
import Derived.Test.YthogfineaeklpaaQe
import Derived.Test.YthogfineaeklpaaQg
namespace Go.Proofs.Ythogfineaeklpaa.M
open Go.RowKit Abs
set_option linter.unusedSimpArgs false
set_option linter.unusedVariables false
set_option maxRecDepth 100000
set_option maxHeartbeats 4000000
theorem row_near {v x : Int} {l : List (Int × Int)} (he : ∀ e ∈ l, e.1 < e.2) : hasB (rowV v l) x = nearB l x v := by
  rw [Bool.eq_iff_iff, hasB_iff]
  unfold rowV nearB
  rw [List.mem_filterMap, List.any_eq_true]
  constructor
  · rintro ⟨⟨a, b⟩, hm, h⟩
    refine ⟨(a, b), hm, ?_⟩
    simp only [hit, Bool.or_eq_true, Bool.and_eq_true, beq_iff_eq]
    simp only at h
    split at h
    · left; exact ⟨Option.some.inj h, by assumption⟩
    · split at h
      · right; exact ⟨by assumption, Option.some.inj h⟩
      · cases h
  · rintro ⟨⟨a, b⟩, hm, h⟩
    refine ⟨(a, b), hm, ?_⟩
    have hlt := he _ hm
    simp only [hit, Bool.or_eq_true, Bool.and_eq_true, beq_iff_eq] at h
    simp only at hlt ⊢
    rcases h with ⟨h1, h2⟩ | ⟨h1, h2⟩
    · rw [if_pos h2, h1]
    · rw [if_neg (by omega), if_pos h1, h2]
theorem near_comm {l : List (Int × Int)} {a b : Int} : nearB l a b = nearB l b a := by
  unfold nearB
  congr 1
  funext e
  unfold hit
  rw [Bool.or_comm]
theorem bit_zero {a : Int} (h0 : 0 ≤ a) (h1 : a ≤ 255) : decide (a = 0) = allI 8 fun y => !bitB a y := by
  rw [Bool.eq_iff_iff, decide_eq_true_eq]
  constructor
  · intro h
    refine allI_good fun y _ _ => ?_
    rw [h]
    unfold bitB
    simp
  · intro h
    have : a.toNat = 0 := by
      refine Nat.eq_of_testBit_eq fun i => ?_
      rw [Nat.zero_testBit]
      by_cases hi : i < 8
      · have := allI_get h (k := (i : Int)) (by omega) (by omega)
        unfold bitB at this
        simpa using this
      · exact Nat.testBit_lt_two_pow (Nat.lt_of_lt_of_le (show a.toNat < 2 ^ 8 by omega) (Nat.pow_le_pow_right (by omega) (by omega)))
    omega
theorem bit_and {a b y : Int} : bitB (band a b) y = (bitB a y && bitB b y) := by
  unfold bitB band
  rw [Int.toNat_natCast, Nat.testBit_and]
theorem bit_andn {a b y : Int} (h0 : 0 ≤ b) (h1 : b ≤ 255) (h2 : y < 8) : bitB (bandn a b) y = (bitB a y && !bitB b y) := by
  unfold bitB bandn
  rw [Int.toNat_natCast, Nat.testBit_and, show 18446744073709551615 - b.toNat = 2 ^ 64 - (b.toNat + 1) by omega, Nat.testBit_two_pow_sub_succ (by omega), show decide (y.toNat < 64) = true by simp; omega, Bool.true_and]
theorem bit_flip {a x y : Int} (h0 : 0 ≤ x) (h1 : x < 8) (h2 : 0 ≤ y) : bitB (bxor a (1 * 2 ^ (min x.toNat 64))) y = (bitB a y != decide (y = x)) := by
  have e : min x.toNat 64 = x.toNat := by omega
  unfold bitB bxor
  rw [two_nat, e, Int.toNat_natCast, Int.toNat_natCast, Nat.testBit_xor, Nat.testBit_two_pow]
  rw [show decide (x.toNat = y.toNat) = decide (y = x) by rw [decide_eq_decide]; omega]
theorem band_in {a b : Int} (h1 : a ≤ 255) : 0 ≤ band a b ∧ band a b ≤ 255 := by
  unfold band
  have : a.toNat &&& b.toNat ≤ a.toNat := Nat.and_le_left
  omega
theorem bandn_in {a b : Int} (h1 : a ≤ 255) : 0 ≤ bandn a b ∧ bandn a b ≤ 255 := by
  unfold bandn
  have : a.toNat &&& (18446744073709551615 - b.toNat) ≤ a.toNat := Nat.and_le_left
  omega
theorem bxor_in {a x : Int} (h0 : a ≤ 255) (h1 : 0 ≤ x) (h2 : x < 8) : 0 ≤ bxor a (1 * 2 ^ (min x.toNat 64)) ∧ bxor a (1 * 2 ^ (min x.toNat 64)) ≤ 255 := by
  have e : min x.toNat 64 = x.toNat := by omega
  unfold bxor
  rw [two_nat, e, Int.toNat_natCast]
  have hp : 2 ^ x.toNat < 2 ^ 8 := Nat.pow_lt_pow_right (by omega) (by omega)
  have : a.toNat ^^^ 2 ^ x.toNat < 2 ^ 8 := Nat.xor_lt_two_pow (by omega) hp
  omega
theorem allI_congr {n : Nat} {p q : Int → Bool} (h : ∀ k : Int, 0 ≤ k → k < (n : Int) → p k = q k) : allI n p = allI n q := by
  rw [Bool.eq_iff_iff]
  exact ⟨fun a => allI_good fun k k0 k1 => (h k k0 k1) ▸ allI_get a k0 k1, fun a => allI_good fun k k0 k1 => (h k k0 k1).symm ▸ allI_get a k0 k1⟩
/-- What a kind asks of a node. -/
def kindX (l : List (Int × Int)) (kind : Int) (p : Int → Bool) (x : Int) : Bool :=
  if kind = 1 then p x || allI 8 fun y => !(nearB l y x && !p y)
  else if kind = 2 then !p x || allI 8 fun y => !((p y != decide (y = x)) && !nearB l y x)
  else p x || !(allI 8 fun y => !(nearB l y x && p y))
def kindP (n : Int) (l : List (Int × Int)) (kind : Int) (p : Int → Bool) : Bool := allI n.toNat (kindX l kind p)
def flipP (p : Int → Bool) (x y : Int) : Bool := p y != decide (y = x)
theorem kindX_congr {l : List (Int × Int)} {kind x : Int} {p q : Int → Bool} (h0 : 0 ≤ x) (h1 : x < 8) (h : ∀ y : Int, 0 ≤ y → y < 8 → p y = q y) : kindX l kind p x = kindX l kind q x := by
  unfold kindX
  rw [h x h0 h1]
  have e1 : (allI 8 fun y => !(nearB l y x && !p y)) = allI 8 fun y => !(nearB l y x && !q y) := allI_congr fun y a b => by rw [h y a (by omega)]
  have e2 : (allI 8 fun y => !((p y != decide (y = x)) && !nearB l y x)) = allI 8 fun y => !((q y != decide (y = x)) && !nearB l y x) := allI_congr fun y a b => by rw [h y a (by omega)]
  have e3 : (allI 8 fun y => !(nearB l y x && p y)) = allI 8 fun y => !(nearB l y x && q y) := allI_congr fun y a b => by rw [h y a (by omega)]
  rw [e1, e2, e3]
theorem kindP_congr {n : Int} {l : List (Int × Int)} {kind : Int} {p q : Int → Bool} (g1 : n ≤ 8) (h : ∀ y : Int, 0 ≤ y → y < 8 → p y = q y) : kindP n l kind p = kindP n l kind q := allI_congr fun x a b => kindX_congr a (by omega) h
/-- The sets of neighbors. -/
def nearS (n : Int) (l : List (Int × Int)) : List Int := (nearR l n).map nset
theorem row_in {n v : Int} {l : List (Int × Int)} (g1 : n ≤ 8) (g2 : ∀ e ∈ l, 0 ≤ e.1 ∧ e.1 < e.2 ∧ e.2 < n) : ∀ x ∈ rowV v l, 0 ≤ x ∧ x < 8 := fun x hx => by
  unfold rowV at hx
  rw [List.mem_filterMap] at hx
  obtain ⟨p, hp, hx⟩ := hx
  have := g2 p hp
  split at hx
  · cases hx; omega
  · split at hx
    · cases hx; omega
    · cases hx
theorem nearS_len (n : Int) (l : List (Int × Int)) : (nearS n l).length = n.toNat := by
  unfold nearS
  rw [List.length_map, nearR_len]
theorem nearS_get {n x : Int} {l : List (Int × Int)} (g2 : ∀ e ∈ l, 0 ≤ e.1 ∧ e.1 < e.2 ∧ e.2 < n) (h0 : 0 ≤ x) (h1 : x < n) : getI .u64 (nearS n l) x = nset (rowV x l) := by
  have hR := nearR_row (n := n) h0 g2
  have h2 := getR_get (t := .int) (l := nearR l n) (i := x) h0 (by rw [nearR_len]; omega)
  rw [hR] at h2
  unfold getI nearS
  rw [List.getD_eq_getElem?_getD, List.getElem?_map, h2]
  rfl
theorem nearS_bits {n x : Int} {l : List (Int × Int)} (g1 : n ≤ 8) (g2 : ∀ e ∈ l, 0 ≤ e.1 ∧ e.1 < e.2 ∧ e.2 < n) (h0 : 0 ≤ x) (h1 : x < n) : 0 ≤ (getI .u64 (nearS n l) x : Int) ∧ (getI .u64 (nearS n l) x : Int) ≤ 255 ∧ ∀ y : Int, 0 ≤ y → bitB (getI .u64 (nearS n l) x) y = nearB l y x := by
  rw [nearS_get g2 h0 h1]
  obtain ⟨a, b, c⟩ := nset_bits (row_in (v := x) g1 g2)
  exact ⟨a, b, fun y hy => by rw [c y hy, row_near fun e he => (g2 e he).2.1]⟩
def allowsB (kind : Int) (R : List Int) (m x : Int) : Bool :=
  if kind = 1 then bitB m x || decide (bandn (getI .u64 R x) m = 0)
  else if kind = 2 then !bitB m x || decide (bandn (bxor m (1 * 2 ^ (min x.toNat 64))) (getI .u64 R x) = 0)
  else bitB m x || !decide (band (getI .u64 R x) m = 0)
theorem allows_eq {n kind m x : Int} {l : List (Int × Int)} (g1 : n ≤ 8) (g2 : ∀ e ∈ l, 0 ≤ e.1 ∧ e.1 < e.2 ∧ e.2 < n) (h0 : 0 ≤ x) (h1 : x < n) (m0 : 0 ≤ m) (m1 : m ≤ 255) : allowsB kind (nearS n l) m x = kindX l kind (bitB m) x := by
  obtain ⟨r0, r1, r2⟩ := nearS_bits (x := x) g1 g2 h0 h1
  unfold allowsB kindX
  rw [bit_zero (bandn_in r1).1 (bandn_in r1).2, bit_zero (bandn_in (bxor_in m1 h0 (by omega)).2).1 (bandn_in (bxor_in m1 h0 (by omega)).2).2, bit_zero (band_in r1).1 (band_in r1).2]
  have e1 : (allI 8 fun y => !bitB (bandn (getI .u64 (nearS n l) x) m) y) = allI 8 fun y => !(nearB l y x && !bitB m y) := allI_congr fun y a b => by rw [bit_andn m0 m1 (by omega), r2 y a]
  have e2 : (allI 8 fun y => !bitB (bandn (bxor m (1 * 2 ^ (min x.toNat 64))) (getI .u64 (nearS n l) x)) y) = allI 8 fun y => !((bitB m y != decide (y = x)) && !nearB l y x) := allI_congr fun y a b => by rw [bit_andn r0 r1 (by omega), r2 y a, bit_flip h0 (by omega) a]
  have e3 : (allI 8 fun y => !bitB (band (getI .u64 (nearS n l) x) m) y) = allI 8 fun y => !(nearB l y x && bitB m y) := allI_congr fun y a b => by rw [bit_and, r2 y a]
  rw [e1, e2, e3]
def holdsK (kind : Int) (R : List Int) (m : Int) : Bool := allI R.length (allowsB kind R m)
theorem holds_eq {n kind m : Int} {l : List (Int × Int)} (g0 : 0 ≤ n) (g1 : n ≤ 8) (g2 : ∀ e ∈ l, 0 ≤ e.1 ∧ e.1 < e.2 ∧ e.2 < n) (m0 : 0 ≤ m) (m1 : m ≤ 255) : holdsK kind (nearS n l) m = kindP n l kind (bitB m) := by
  unfold holdsK kindP
  rw [nearS_len]
  exact allI_congr fun x a b => allows_eq g1 g2 a (by omega) m0 m1
/-- The kinds, as the specification asks for them. -/
def covB (l : List (Int × Int)) (s : List Int) (i : Int) : Bool := hasB s (getI (.pr .int .int) l i).1 || hasB s (getI (.pr .int .int) l i).2
def cliX (l : List (Int × Int)) (s : List Int) (i k : Int) : Bool := nearB l (gi s i) (gi s k)
def cliB (l : List (Int × Int)) (s : List Int) (i : Int) : Bool := allI i.toNat (cliX l s i)
def domB (l : List (Int × Int)) (s : List Int) (x : Int) : Bool := hasB s x || s.any fun v => nearB l v x
def hasK (n : Int) (l : List (Int × Int)) (kind : Int) (s : List Int) : Bool := if kind = 1 then allI l.length (covB l s) else if kind = 2 then allI s.length (cliB l s) else allI n.toNat (domB l s)
theorem cov_eq {n : Int} {l : List (Int × Int)} {s : List Int} (g1 : n ≤ 8) (g2 : ∀ e ∈ l, 0 ≤ e.1 ∧ e.1 < e.2 ∧ e.2 < n) : allI l.length (covB l s) = kindP n l 1 (hasB s) := by
  rw [Bool.eq_iff_iff]
  constructor
  · intro h
    refine allI_good fun x x0 x1 => ?_
    unfold kindX
    rw [if_pos rfl, Bool.or_eq_true]
    by_cases hx : hasB s x = true
    · exact .inl hx
    · refine .inr (allI_good fun y y0 y1 => ?_)
      cases hn : nearB l y x with
      | false => rfl
      | true =>
        unfold nearB at hn
        rw [List.any_eq_true] at hn
        obtain ⟨e, he, hq⟩ := hn
        obtain ⟨j, hj, hej⟩ := List.mem_iff_getElem.1 he
        have h2 := allI_get h (k := (j : Int)) (by omega) (by omega)
        have hgi : getI (.pr .int .int) l (j : Int) = e := by
          have := getI_get (t := (.pr .int .int)) (l := l) (i := (j : Int)) (by omega) (by omega)
          simp only [Int.toNat_natCast] at this
          rw [List.getElem?_eq_getElem hj] at this
          rw [← Option.some.inj this, hej]
        unfold covB at h2
        rw [hgi] at h2
        simp only [hit, Bool.or_eq_true, Bool.and_eq_true, beq_iff_eq] at hq h2
        have : hasB s y = true := by
          rcases hq with ⟨a, b⟩ | ⟨a, b⟩
          · rw [a, b] at h2; exact h2.resolve_right hx
          · rw [a, b] at h2; exact h2.resolve_left hx
        rw [this]; rfl
  · intro h
    refine allI_good fun j j0 j1 => ?_
    have hm := List.mem_of_getElem? (getI_get (t := (.pr .int .int)) j0 j1)
    have he := g2 _ hm
    have h2 := allI_get h (k := (getI (.pr .int .int) l j).1) (by omega) (by omega)
    unfold kindX at h2
    rw [if_pos rfl, Bool.or_eq_true] at h2
    unfold covB
    rw [Bool.or_eq_true]
    rcases h2 with h2 | h2
    · exact .inl h2
    · have h3 := allI_get h2 (k := (getI (.pr .int .int) l j).2) (by omega) (by omega)
      have hn : nearB l (getI (.pr .int .int) l j).2 (getI (.pr .int .int) l j).1 = true := by
        unfold nearB
        rw [List.any_eq_true]
        exact ⟨_, hm, by simp [hit]⟩
      rw [hn] at h3
      right
      simpa using h3
theorem cli_eq {n : Int} {l : List (Int × Int)} {s : List Int} (g1 : n ≤ 8) (ha : ascB n s = true) : allI s.length (cliB l s) = kindP n l 2 (hasB s) := by
  rw [Bool.eq_iff_iff]
  constructor
  · intro h
    refine allI_good fun x x0 x1 => ?_
    unfold kindX
    rw [if_neg (by decide), if_pos rfl, Bool.or_eq_true]
    by_cases hx : hasB s x = true
    · refine .inr (allI_good fun y y0 y1 => ?_)
      by_cases hxy : y = x
      · rw [hxy, hx]; simp
      · by_cases hy : hasB s y = true
        · obtain ⟨a, a0, a1, a2⟩ := mem_at (hasB_iff.1 hx)
          obtain ⟨b, b0, b1, b2⟩ := mem_at (hasB_iff.1 hy)
          have hn : nearB l y x = true := by
            rcases Int.lt_trichotomy a b with c | c | c
            · have := allI_get (allI_get h b0 b1) (k := a) a0 (by omega)
              unfold cliX at this
              rwa [← getI_gi, ← getI_gi, a2, b2] at this
            · subst c; exact absurd (b2.symm.trans a2) hxy
            · have := allI_get (allI_get h a0 a1) (k := b) b0 (by omega)
              unfold cliX at this
              rw [← getI_gi, ← getI_gi, a2, b2, near_comm] at this
              exact this
          rw [hn]; simp
        · rw [Bool.not_eq_true] at hy
          rw [hy]; simp [hxy]
    · rw [Bool.not_eq_true] at hx
      rw [hx]; exact .inl rfl
  · intro h
    refine allI_good fun i i0 i1 => allI_good fun k k0 k1 => ?_
    have hi := getI_get (t := .int) (l := s) (i := i) i0 i1
    have hk := getI_get (t := .int) (l := s) (i := k) k0 (by omega)
    have mi := List.mem_of_getElem? hi
    have mk := List.mem_of_getElem? hk
    have ri := asc_mem ha _ mi
    have rk := asc_mem ha _ mk
    have hlt := asc_lt' ha k0 (by omega) i1
    have h2 := allI_get h (k := getI .int s k) rk.1 (by omega)
    unfold kindX at h2
    rw [if_neg (by decide), if_pos rfl, hasB_iff.2 mk, Bool.not_true, Bool.false_or] at h2
    have h3 := allI_get h2 (k := getI .int s i) ri.1 (by omega)
    rw [hasB_iff.2 mi, show decide (getI .int s i = getI .int s k) = false by rw [decide_eq_false_iff_not]; exact Int.ne_of_gt hlt] at h3
    unfold cliX
    rw [← getI_gi, ← getI_gi]
    simpa using h3
theorem dom_eq {n : Int} {l : List (Int × Int)} {s : List Int} {kind : Int} (g1 : n ≤ 8) (hk1 : kind ≠ 1) (hk2 : kind ≠ 2) (ha : ascB n s = true) : allI n.toNat (domB l s) = kindP n l kind (hasB s) := by
  refine allI_congr fun x x0 x1 => ?_
  unfold domB kindX
  rw [if_neg hk1, if_neg hk2]
  congr 1
  rw [Bool.eq_iff_iff]
  constructor
  · intro h
    rw [List.any_eq_true] at h
    obtain ⟨v, hv, hn⟩ := h
    have rv := asc_mem ha _ hv
    rw [allI_bad (k := v) rv.1 (by omega) (by rw [hn, hasB_iff.2 hv]; rfl)]
    rfl
  · intro h
    cases hc : s.any (fun v => nearB l v x) with
    | true => rfl
    | false =>
      rw [List.any_eq_false] at hc
      rw [allI_good fun y y0 y1 => by
        by_cases hy : hasB s y = true
        · have := hc y (hasB_iff.1 hy)
          rw [Bool.not_eq_true] at this
          rw [this]; rfl
        · rw [Bool.not_eq_true] at hy
          rw [hy]; simp] at h
      exact absurd h (by decide)
theorem hasK_eq {n : Int} {l : List (Int × Int)} {s : List Int} {kind : Int} (g1 : n ≤ 8) (g2 : ∀ e ∈ l, 0 ≤ e.1 ∧ e.1 < e.2 ∧ e.2 < n) (ha : ascB n s = true) : hasK n l kind s = kindP n l kind (hasB s) := by
  unfold hasK
  by_cases h1 : kind = 1
  · rw [if_pos h1, h1]; exact cov_eq g1 g2
  · rw [if_neg h1]
    by_cases h2 : kind = 2
    · rw [if_pos h2, h2]; exact cli_eq g1 ha
    · rw [if_neg h2]; exact dom_eq g1 h1 h2 ha
end Go.Proofs.Ythogfineaeklpaa.M
