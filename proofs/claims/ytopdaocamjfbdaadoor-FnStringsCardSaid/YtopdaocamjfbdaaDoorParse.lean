/- The walks of ParseInt: the lenient reading with its check on one side, the strict reading on the other. -/
import Derived.Test.YtopdaocamjfbdaaDoorFmt
import Derived.LoopTactic
import Derived.WalkMore
import Derived.Deep.LoopGhost
namespace Go.Proofs.YtopdaocamjfbdaaDoor
open Go.RowKit Go.Lib Go.Shelf Go.Sort Dec
set_option linter.unusedVariables false

/-- s is the text of no number in range. -/
def NoText (s : ByteArray) : Prop := ∀ m : Int, -999999 ≤ m → m ≤ 999999 → s ≠ intText m

theorem text_byte (m : Int) (k : Nat) (hk : k < (intText m).size) (b : UInt8) (h : (itoa m)[k]? = some b) : (intText m)[k] = b := by
  have h2 : (intText m).data.toList = itoa m := by simp [intText]
  have h3 : (intText m).data.toList[k]? = some b := by rw [h2]; exact h
  have : (intText m).data[k]? = some b := by simpa using h3
  obtain ⟨_, h4⟩ := Array.getElem?_eq_some_iff.1 this
  exact h4
theorem text_size (m : Int) : (intText m).size = (itoa m).length := by simp [intText, ByteArray.size]

/-- What the reader of a numeral holds behind k bytes. -/
def readN (m : Int) (k : Nat) : Int := ((m.natAbs / 10 ^ ((intText m).size - k) : Nat) : Int)
def readS (m : Int) (k : Nat) : Int := if m < 0 ∧ 0 < k then -1 else 1
theorem readN_bd (m : Int) (k : Nat) (h0 : -999999 ≤ m) (h1 : m ≤ 999999) : 0 ≤ readN m k ∧ readN m k ≤ 999999 := by
  unfold readN
  have := div_le (u := m.natAbs) (c := 999999) (j := (intText m).size - k) (by omega)
  exact ⟨Int.natCast_nonneg _, Int.ofNat_le.2 this⟩
theorem readN_zero (m : Int) : readN m 0 = 0 := by
  unfold readN; rw [text_size, Nat.sub_zero, (start_zero (m := m)).1]; rfl
theorem readN_one (m : Int) (h : m < 0) : readN m 1 = 0 := by
  unfold readN; rw [text_size, (start_zero (m := m)).2 h]; rfl
theorem readN_end (m : Int) : readN m (intText m).size = m.natAbs := by unfold readN; simp
theorem readN_next (m : Int) (k : Nat) (hk : k < (intText m).size) (hs : m < 0 → 1 ≤ k) :
    48 ≤ ((intText m)[k].toNat : Int) ∧ ((intText m)[k].toNat : Int) ≤ 57 ∧ 10 * readN m k + (((intText m)[k].toNat : Int) - 48) = readN m (k + 1) := by
  obtain ⟨b, h1, h2, h3, h4⟩ := byte_digit (m := m) rfl k (by rw [← text_size]; exact hk) hs
  rw [text_byte m k hk b h1]
  unfold readN
  rw [text_size]
  omega
theorem read_sign (m : Int) (h : m < 0) (hk : 0 < (intText m).size) : (intText m)[0] = 45 := text_byte m 0 hk 45 (byte_sign rfl h)

theorem readS_next (m : Int) (k : Nat) (h : m < 0 → 1 ≤ k) : readS m (k + 1) = readS m k := by
  unfold readS
  by_cases hm : m < 0
  · rw [if_pos ⟨hm, by omega⟩, if_pos ⟨hm, h hm⟩]
  · rw [if_neg (fun x => hm x.1), if_neg (fun x => hm x.1)]
set_option maxHeartbeats 1000000 in
theorem implParseYes (m : Int) (w : World) (ht : Tab w) (h0 : -999999 ≤ m) (h1 : m ≤ 999999) :
    Calls Tryd.prog 13 #[.string (intText m)] w fun e w' => e = .returned (.tuple #[.int .i64 m, .bool true]) ∧ Below w.heap.size w w' := by
  have hsz : (intText m).size ≤ 9 := int_size m (by omega) (by omega)
  have hpos : 0 < (intText m).size := by rw [text_size, itoa_len]; have := nDigits_pos m.natAbs; omega
  have c := implFmtYes m w ht h0 h1
  have C := Lib.hid c
  clear c
  go_enter Tryd.func13, Tryd.ntmps13
  go_wp2_with fail
  go_step3
  go_wp2_with fail
  go_step3
  go_wp2_with fail
  go_loop [4, 5, 12] (fun n sg i => ∃ k : Nat, k ≤ (intText m).size ∧ i = .int .i64 k ∧ n = .int .i64 (readN m k) ∧ sg = .int .i64 (readS m k)) (fun _ _ i => (intText m).size - (RowKit.intOf i).toNat)
  case atStart => exact ⟨0, Nat.zero_le _, rfl, by rw [readN_zero], by rw [readS, if_neg (by omega)]⟩
  case round =>
    obtain ⟨k, hk, rfl, rfl, rfl⟩ := hrel
    have hd := readN_bd m k h0 h1
    by_cases hlt : k < (intText m).size
    · by_cases hneg : m < 0 ∧ k = 0
      · obtain ⟨hm, rfl⟩ := hneg
        have hb := read_sign m hm hlt
        have hn0 := readN_zero m
        have hn1 := readN_one m hm
        have hs1 : readS m 1 = -1 := by rw [readS, if_pos ⟨hm, by omega⟩]
        have H1 := Lib.hid hn1
        have H2 := Lib.hid hs1
        clear hn1 hs1 hd
        go_wp2
        go_round
        case rel => exact ⟨1, by omega, by go_num, by rw [H1.out]; exact congrArg _ hn0, by rw [H2.out]⟩
        case measure => simp [RowKit.intOf]; omega
      · rcases Nat.eq_zero_or_pos k with rfl | hkp
        · obtain ⟨hb1, hb2, hb3⟩ := readN_next m 0 hlt (by omega)
          have H1 := Lib.hid hb3
          have hs1 := readS_next m 0 (by omega)
          have H2 := Lib.hid hs1
          clear hb3 hs1 hneg
          generalize hbb : (intText m)[0] = b at *
          have HB := Lib.hid hbb
          have hc : (b == 45) = false := by simp; intro h; subst h; simp at hb1
          generalize readN m 0 = n at *
          go_wp2
          go_round
          case rel => exact ⟨0 + 1, by omega, by go_num, by rw [← H1.out], by rw [H2.out]⟩
          case measure => simp [RowKit.intOf]; omega
        · obtain ⟨hb1, hb2, hb3⟩ := readN_next m k hlt (by omega)
          have H1 := Lib.hid hb3
          have hs1 := readS_next m k (by omega)
          have H2 := Lib.hid hs1
          clear hb3 hs1 hneg
          generalize hbb : (intText m)[k] = b at *
          have HB := Lib.hid hbb
          have hc : (b == 45) = false := by simp; intro h; subst h; simp at hb1
          generalize readN m k = n at *
          go_wp2
          go_round
          case rel => exact ⟨k + 1, by omega, by go_num, by rw [← H1.out], by rw [H2.out]⟩
          case measure => simp [RowKit.intOf]; omega
    · obtain rfl : k = (intText m).size := by omega
      have hend : readN m (intText m).size * readS m (intText m).size = m := by
        rw [readN_end]; unfold readS
        by_cases hm : m < 0
        · rw [if_pos ⟨hm, hpos⟩]; omega
        · rw [if_neg (fun h => hm h.1)]; omega
      generalize readN m (intText m).size = n at *
      generalize readS m (intText m).size = sg at *
      go_wp2_with fail
      refine C.out.mono ?_
      rintro e w1 ⟨rfl, hb1⟩
      go_wp2
      rw [Exit.noGoto_ret]
      go_ret2
      exact ⟨rfl, hb1⟩

def Sg (a : Int) : Prop := a = 1 ∨ a = -1
theorem sg_mul {a n : Int} (h : Sg a) (h0 : 0 ≤ n) (h1 : n ≤ 9999999) : -9999999 ≤ n * a ∧ n * a ≤ 9999999 := by
  rcases h with rfl | rfl <;> omega
theorem text_ne {s : ByteArray} (h : NoText s) (m : Int) (h0 : -999999 ≤ m) (h1 : m ≤ 999999) : ((intText m).toList == s.toList) = false := by
  rw [beq_eq_false_iff_ne]
  intro he
  refine h m h0 h1 ?_
  rw [ByteArray.toList_eq, ByteArray.toList_eq] at he
  apply ByteArray.ext
  apply Array.ext'
  exact he.symm

set_option maxHeartbeats 1000000 in
theorem implParseNo (s : ByteArray) (w : World) (ht : Tab w) (hs : s.size ≤ 9223372036854775807) (hno : NoText s) :
    Calls Tryd.prog 13 #[.string s] w fun e w' => e = .returned (.tuple #[.int .i64 0, .bool false]) ∧ Below w.heap.size w w' := by
  go_enter Tryd.func13, Tryd.ntmps13
  go_wp2_with fail
  go_step3
  go_wp2_with fail
  go_step3
  go_wp2_with fail
  go_loop [4, 5, 12] (fun sn ss i => ∃ (k : Nat) (n a : Int), k ≤ s.size ∧ i = .int .i64 k ∧ sn = .int .i64 n ∧ ss = .int .i64 a ∧ 0 ≤ n ∧ n ≤ 9999999 ∧ Sg a) (fun _ _ i => s.size - (RowKit.intOf i).toNat)
  case atStart => exact ⟨0, 0, 1, Nat.zero_le _, rfl, rfl, rfl, by decide, by decide, .inl rfl⟩
  case round =>
    obtain ⟨k, n, a, hk, rfl, rfl, rfl, hn0, hn1, hsg⟩ := hrel
    obtain ⟨hp0, hp1⟩ := sg_mul hsg hn0 hn1
    by_cases hr : -999999 ≤ n * a ∧ n * a ≤ 999999
    · have hne := text_ne hno (n * a) hr.1 hr.2
      have c := implFmtYes (n * a) w ht hr.1 hr.2
      have C := Lib.hid c
      clear c hr
      go_wp2_with (go_at_call 10; refine C.out.mono ?_; rintro e w1 ⟨rfl, hb1⟩)
      all_goals first
        | (rw [Exit.noGoto_ret]; go_ret2; exact ⟨rfl, hb1⟩)
        | (go_round
           case rel => first | exact ⟨1, _, _, by omega, rfl, rfl, rfl, by omega, by omega, by first | exact hsg | exact .inr rfl⟩ | exact ⟨k + 1, _, _, by omega, by go_num, rfl, rfl, by omega, by omega, by first | exact hsg | exact .inr rfl⟩
           case measure => simp [RowKit.intOf]; omega)
    · have hr' : n * a < -999999 ∨ 999999 < n * a := by omega
      have c := implFmtNo (n * a) w hr'
      have C := Lib.hid c
      clear c hr hr'
      go_wp2_with (go_at_call 10; refine C.out.mono ?_; rintro e w1 ⟨rfl, hb1⟩)
      all_goals first
        | (rw [Exit.noGoto_ret]; go_ret2; exact ⟨rfl, hb1⟩)
        | (go_round
           case rel => first | exact ⟨1, _, _, by omega, rfl, rfl, rfl, by omega, by omega, by first | exact hsg | exact .inr rfl⟩ | exact ⟨k + 1, _, _, by omega, by go_num, rfl, rfl, by omega, by omega, by first | exact hsg | exact .inr rfl⟩
           case measure => simp [RowKit.intOf]; omega)
end Go.Proofs.YtopdaocamjfbdaaDoor
