/- The walks of the strict reading of a number, and the law of ParseInt. -/
import Derived.Test.YtopdaocamjfbdaaDoorParse
import Derived.Lib.Strings
import Derived.Lib.IndexBytes
namespace Go.Proofs.YtopdaocamjfbdaaDoor
open Go.RowKit Go.Lib Go.Shelf Go.Sort Dec
set_option linter.unusedVariables false

def P10 (k : Nat) : Int := 10 ^ k
theorem P10_zero : P10 0 = 1 := rfl
theorem P10_succ (k : Nat) : P10 (k + 1) = 10 * P10 k := by unfold P10; rw [Int.pow_succ]; omega
theorem P10_le (k : Nat) (h : k ≤ 6) : P10 k ≤ 1000000 := by
  have : ∀ i : Fin 7, P10 i.val ≤ 1000000 := by decide
  exact this ⟨k, by omega⟩
theorem inYes (n : Int) (w : World) (h : 1 ≤ n ∧ n ≤ 6) : Calls Tryd.prog 24 #[.int .i64 n, .int .i64 1, .int .i64 6] w fun e w' => e = .returned (.bool true) ∧ w = w' := by
  have c := specIn n 1 6 w
  rwa [decide_eq_true h] at c
theorem inNo (n : Int) (w : World) (h : ¬ (1 ≤ n ∧ n ≤ 6)) : Calls Tryd.prog 24 #[.int .i64 n, .int .i64 1, .int .i64 6] w fun e w' => e = .returned (.bool false) ∧ w = w' := by
  have c := specIn n 1 6 w
  rwa [decide_eq_false h] at c
theorem strip_neg (m : Int) (h : m < 0) : (intText m).extract 1 (intText m).size = intText (-m) := by
  have h1 : (intText m).data.toList = 45 :: decDigits m.natAbs := by simp [intText, itoa_neg h]
  have h2 : (intText (-m)).data.toList = decDigits m.natAbs := by
    have e : (-m).natAbs = m.natAbs := by omega
    simp [intText, itoa_pos (show ¬ -m < 0 by omega), e]
  apply ByteArray.ext
  apply Array.ext'
  rw [Lib.extract_data, h1, h2, text_size, itoa_len, if_pos h]
  simp
  rw [List.take_of_length_le (by rw [decDigits_length]; omega)]
theorem extract_size (s : ByteArray) (h : 1 ≤ s.size) : (s.extract 1 s.size).size + 1 = s.size := by simp [ByteArray.size_extract]; omega

set_option maxHeartbeats 1000000 in
theorem readYesNeg (m : Int) (w : World) (h0 : -999999 ≤ m) (h1 : m ≤ 999999) (hsign : m < 0)  :
    Calls Tryd.prog 28 #[.string (intText m)] w fun e w' => e = .returned (.tuple #[.int .i64 m, .bool true]) ∧ ∃ q, w' = w.drewN q := by
  have hsz : (intText m).size ≤ 9 := int_size m (by omega) (by omega)
  have hl := itoa_len (m := m)
  have hn := nDigits_le (u := m.natAbs) 5 (by omega)
  have hn1 := nDigits_pos m.natAbs
  have hpos : 1 < (intText m).size := by rw [text_size, hl, if_pos hsign]; omega
  have hb := read_sign m hsign (by omega)
  have hx := strip_neg m hsign
  have hT := extract_size (intText m) (by omega)
  rw [hx] at hT
  have hT1 : 1 ≤ (intText (-m)).size ∧ (intText (-m)).size ≤ 6 := by
    have e : (-m).natAbs = m.natAbs := by omega
    rw [text_size, itoa_len, if_neg (by omega), e]; omega
  have hlt1 : (intText (-m)).size < (intText m).size := by omega
  have hd := readN_end (-m)
  have hneg : -readN (-m) (intText (-m)).size = m := by rw [hd]; omega
  have HNEG := Lib.hid hneg
  clear hneg hd hT hl
  have ci := fun W => inYes ((intText (-m)).size : Int) W (by omega)
  have CI := Lib.hid ci
  have CN := Lib.hid (fun W => specNum m W (by omega) (by omega))
  clear ci hn hn1
  go_enter Tryd.func28, Tryd.ntmps28
  go_wp2_with (go_at_call 24; refine (CI.out _).mono ?_; rintro e w' ⟨rfl, rfl⟩)
  go_loop [5, 6] (fun n i => ∃ k : Nat, k ≤ (intText (-m)).size ∧ i = .int .i64 k ∧ n = .int .i64 (readN (-m) k)) (fun _ i => (intText (-m)).size - (RowKit.intOf i).toNat)
  case atStart => exact ⟨0, Nat.zero_le _, rfl, by rw [readN_zero]⟩
  case round =>
    obtain ⟨k, hk, rfl, rfl⟩ := hrel
    have hd := readN_bd (-m) k (by omega) (by omega)
    by_cases hlt : k < (intText (-m)).size
    · obtain ⟨hb1, hb2, hb3⟩ := readN_next (-m) k hlt (by omega)
      have H1 := Lib.hid hb3
      clear hb3
      generalize readN (-m) k = n at *
      go_wp2
      go_round
      case rel => exact ⟨k + 1, by omega, by go_num, by rw [← H1.out]⟩
      case measure => simp [RowKit.intOf]; omega
    · obtain rfl : k = (intText (-m)).size := by omega
      have hneg := HNEG.out
      generalize readN (-m) (intText (-m)).size = n at *
      go_wp2_with (go_at_call 25; refine (CN.out _).mono ?_; rintro e w' ⟨rfl, q, rfl⟩)
      go_ret2
      exact ⟨rfl, q, rfl⟩

set_option maxHeartbeats 1000000 in
theorem readYesOne (m : Int) (w : World) (h0 : -999999 ≤ m) (h1 : m ≤ 999999) (hsign : ¬ m < 0) (hlen : (intText m).size ≤ 1) :
    Calls Tryd.prog 28 #[.string (intText m)] w fun e w' => e = .returned (.tuple #[.int .i64 m, .bool true]) ∧ ∃ q, w' = w.drewN q := by
  have hsz : (intText m).size ≤ 9 := int_size m (by omega) (by omega)
  have hl := itoa_len (m := m)
  have hn := nDigits_le (u := m.natAbs) 5 (by omega)
  have hn1 := nDigits_pos m.natAbs
  have hT1 : 1 ≤ (intText m).size ∧ (intText m).size ≤ 6 := by rw [text_size, hl, if_neg hsign]; omega
  have hb0 := (readN_next m 0 (by omega) (by omega)).1
  have hb : ((((intText m)[0].toNat : Nat) : Int) == 45) = false := by rw [beq_eq_false_iff_ne]; omega
  have hb' : ((intText m)[0] == 45) = false := by rw [beq_eq_false_iff_ne]; intro h; rw [h] at hb0; simp at hb0
  have hneg : readN m (intText m).size = m := by rw [readN_end]; omega
  have HNEG := Lib.hid hneg
  clear hneg hb0 hl
  have ci := fun W => inYes ((intText m).size : Int) W (by omega)
  have CI := Lib.hid ci
  have CN := Lib.hid (fun W => specNum m W (by omega) (by omega))
  clear ci hn hn1
  go_enter Tryd.func28, Tryd.ntmps28
  go_wp2_with (go_at_call 24; refine (CI.out _).mono ?_; rintro e w' ⟨rfl, rfl⟩)
  go_loop [5, 6] (fun n i => ∃ k : Nat, k ≤ (intText m).size ∧ i = .int .i64 k ∧ n = .int .i64 (readN m k)) (fun _ i => (intText m).size - (RowKit.intOf i).toNat)
  case atStart => exact ⟨0, Nat.zero_le _, rfl, by rw [readN_zero]⟩
  case round =>
    obtain ⟨k, hk, rfl, rfl⟩ := hrel
    have hd := readN_bd m k (by omega) (by omega)
    by_cases hlt : k < (intText m).size
    · obtain ⟨hb1, hb2, hb3⟩ := readN_next m k hlt (by omega)
      have H1 := Lib.hid hb3
      clear hb3 hb hb'
      generalize readN m k = n at *
      go_wp2
      go_round
      case rel => exact ⟨k + 1, by omega, by go_num, by rw [← H1.out]⟩
      case measure => simp [RowKit.intOf]; omega
    · obtain rfl : k = (intText m).size := by omega
      have hneg := HNEG.out
      generalize readN m (intText m).size = n at *
      go_wp2_with (go_at_call 25; refine (CN.out _).mono ?_; rintro e w' ⟨rfl, q, rfl⟩)
      go_ret2
      exact ⟨rfl, q, rfl⟩

set_option maxHeartbeats 1000000 in
theorem readYesPos (m : Int) (w : World) (h0 : -999999 ≤ m) (h1 : m ≤ 999999) (hsign : ¬ m < 0) (hlen : 1 < (intText m).size) :
    Calls Tryd.prog 28 #[.string (intText m)] w fun e w' => e = .returned (.tuple #[.int .i64 m, .bool true]) ∧ ∃ q, w' = w.drewN q := by
  have hsz : (intText m).size ≤ 9 := int_size m (by omega) (by omega)
  have hl := itoa_len (m := m)
  have hn := nDigits_le (u := m.natAbs) 5 (by omega)
  have hn1 := nDigits_pos m.natAbs
  have hT1 : 1 ≤ (intText m).size ∧ (intText m).size ≤ 6 := by rw [text_size, hl, if_neg hsign]; omega
  have hb0 := (readN_next m 0 (by omega) (by omega)).1
  have hb : ((((intText m)[0].toNat : Nat) : Int) == 45) = false := by rw [beq_eq_false_iff_ne]; omega
  have hb' : ((intText m)[0] == 45) = false := by rw [beq_eq_false_iff_ne]; intro h; rw [h] at hb0; simp at hb0
  have hneg : readN m (intText m).size = m := by rw [readN_end]; omega
  have HNEG := Lib.hid hneg
  clear hneg hb0 hl
  have ci := fun W => inYes ((intText m).size : Int) W (by omega)
  have CI := Lib.hid ci
  have CN := Lib.hid (fun W => specNum m W (by omega) (by omega))
  clear ci hn hn1
  go_enter Tryd.func28, Tryd.ntmps28
  go_wp2_with (go_at_call 24; refine (CI.out _).mono ?_; rintro e w' ⟨rfl, rfl⟩)
  go_loop [5, 6] (fun n i => ∃ k : Nat, k ≤ (intText m).size ∧ i = .int .i64 k ∧ n = .int .i64 (readN m k)) (fun _ i => (intText m).size - (RowKit.intOf i).toNat)
  case atStart => exact ⟨0, Nat.zero_le _, rfl, by rw [readN_zero]⟩
  case round =>
    obtain ⟨k, hk, rfl, rfl⟩ := hrel
    have hd := readN_bd m k (by omega) (by omega)
    by_cases hlt : k < (intText m).size
    · obtain ⟨hb1, hb2, hb3⟩ := readN_next m k hlt (by omega)
      have H1 := Lib.hid hb3
      clear hb3 hb hb'
      generalize readN m k = n at *
      go_wp2
      go_round
      case rel => exact ⟨k + 1, by omega, by go_num, by rw [← H1.out]⟩
      case measure => simp [RowKit.intOf]; omega
    · obtain rfl : k = (intText m).size := by omega
      have hneg := HNEG.out
      generalize readN m (intText m).size = n at *
      go_wp2_with (go_at_call 25; refine (CN.out _).mono ?_; rintro e w' ⟨rfl, q, rfl⟩)
      go_ret2
      exact ⟨rfl, q, rfl⟩

theorem specReadYes (m : Int) (w : World) (h0 : -999999 ≤ m) (h1 : m ≤ 999999) :
    Calls Tryd.prog 28 #[.string (intText m)] w fun e w' => e = .returned (.tuple #[.int .i64 m, .bool true]) ∧ ∃ q, w' = w.drewN q := by
  by_cases h : m < 0
  · exact readYesNeg m w h0 h1 h
  · by_cases hl : 1 < (intText m).size
    · exact readYesPos m w h0 h1 h hl
    · exact readYesOne m w h0 h1 h (by omega)

set_option maxHeartbeats 1000000 in
theorem readNoShort (s : ByteArray) (w : World) (hs : s.size ≤ 9223372036854775807) (hno : NoText s) (h1 : s.size ≤ 1) :
    Calls Tryd.prog 28 #[.string s] w fun e w' => e = .returned (.tuple #[.int .i64 0, .bool false]) ∧ ∃ q, w' = w.drewN q := by
  by_cases hin : 1 ≤ s.size ∧ s.size ≤ 6
  · have CI := Lib.hid (fun W => inYes (s.size : Int) W (by omega))
    go_enter Tryd.func28, Tryd.ntmps28
    go_wp2_with (go_at_call 24; refine (CI.out _).mono ?_; rintro e w' ⟨rfl, rfl⟩)
    go_loop [5, 6] (fun sn i => ∃ (k : Nat) (n : Int), k ≤ s.size ∧ i = .int .i64 k ∧ sn = .int .i64 n ∧ 0 ≤ n ∧ n < P10 k) (fun _ i => s.size - (RowKit.intOf i).toNat)
    case atStart => exact ⟨0, 0, Nat.zero_le _, rfl, rfl, by decide, by decide⟩
    case round =>
      obtain ⟨k, n, hk, rfl, rfl, hn0, hn1⟩ := hrel
      have hp := P10_le k (by omega)
      have hps := P10_succ k
      have HPS := Lib.hid hps
      clear hps
      by_cases hlt : k < s.size
      · have hbyte : (s[k].toNat : Int) ≤ 255 := by have := s[k].toNat_lt; omega
        go_wp2
        all_goals first
          | (go_ret2; exact ⟨rfl, 0, rfl⟩)
          | (go_round
             case rel => exact ⟨k + 1, _, by omega, by go_num, rfl, by omega, by rw [HPS.out]; omega⟩
             case measure => simp [RowKit.intOf]; omega)
      · have hne := text_ne hno (n) (by omega) (by omega)
        have CN := Lib.hid (fun W => specNum (n) W (by omega) (by omega))
        go_wp2_with (go_at_call 25; refine (CN.out _).mono ?_; rintro e w' ⟨rfl, q, rfl⟩)
        go_ret2
        exact ⟨rfl, q, rfl⟩
  · have CI := Lib.hid (fun W => inNo (s.size : Int) W (by omega))
    go_enter Tryd.func28, Tryd.ntmps28
    go_wp2_with (go_at_call 24; refine (CI.out _).mono ?_; rintro e w' ⟨rfl, rfl⟩)
    go_ret2
    exact ⟨rfl, 0, rfl⟩

set_option maxHeartbeats 1000000 in
theorem readNoPlain (s : ByteArray) (w : World) (hs : s.size ≤ 9223372036854775807) (hno : NoText s) (h1 : 1 < s.size) (h2 : s[0] ≠ 45) :
    Calls Tryd.prog 28 #[.string s] w fun e w' => e = .returned (.tuple #[.int .i64 0, .bool false]) ∧ ∃ q, w' = w.drewN q := by
  have hb : (((s[0].toNat : Nat) : Int) == 45) = false := by
    rw [beq_eq_false_iff_ne]; intro h; exact h2 (UInt8.toNat_inj.1 (by simpa using (by omega : s[0].toNat = 45)))
  have hb' : (s[0] == 45) = false := by rw [beq_eq_false_iff_ne]; exact h2
  clear h2
  by_cases hin : 1 ≤ s.size ∧ s.size ≤ 6
  · have CI := Lib.hid (fun W => inYes (s.size : Int) W (by omega))
    go_enter Tryd.func28, Tryd.ntmps28
    go_wp2_with (go_at_call 24; refine (CI.out _).mono ?_; rintro e w' ⟨rfl, rfl⟩)
    go_loop [5, 6] (fun sn i => ∃ (k : Nat) (n : Int), k ≤ s.size ∧ i = .int .i64 k ∧ sn = .int .i64 n ∧ 0 ≤ n ∧ n < P10 k) (fun _ i => s.size - (RowKit.intOf i).toNat)
    case atStart => exact ⟨0, 0, Nat.zero_le _, rfl, rfl, by decide, by decide⟩
    case round =>
      obtain ⟨k, n, hk, rfl, rfl, hn0, hn1⟩ := hrel
      have hp := P10_le k (by omega)
      have hps := P10_succ k
      have HPS := Lib.hid hps
      clear hps
      by_cases hlt : k < s.size
      · have hbyte : (s[k].toNat : Int) ≤ 255 := by have := s[k].toNat_lt; omega
        go_wp2
        all_goals first
          | (go_ret2; exact ⟨rfl, 0, rfl⟩)
          | (go_round
             case rel => exact ⟨k + 1, _, by omega, by go_num, rfl, by omega, by rw [HPS.out]; omega⟩
             case measure => simp [RowKit.intOf]; omega)
      · have hne := text_ne hno (n) (by omega) (by omega)
        have CN := Lib.hid (fun W => specNum (n) W (by omega) (by omega))
        go_wp2_with (go_at_call 25; refine (CN.out _).mono ?_; rintro e w' ⟨rfl, q, rfl⟩)
        go_ret2
        exact ⟨rfl, q, rfl⟩
  · have CI := Lib.hid (fun W => inNo (s.size : Int) W (by omega))
    go_enter Tryd.func28, Tryd.ntmps28
    go_wp2_with (go_at_call 24; refine (CI.out _).mono ?_; rintro e w' ⟨rfl, rfl⟩)
    go_ret2
    exact ⟨rfl, 0, rfl⟩

set_option maxHeartbeats 1000000 in
theorem readNoSign (s : ByteArray) (w : World) (hs : s.size ≤ 9223372036854775807) (hno : NoText s) (h1 : 1 < s.size) (hb : s[0] = 45) :
    Calls Tryd.prog 28 #[.string s] w fun e w' => e = .returned (.tuple #[.int .i64 0, .bool false]) ∧ ∃ q, w' = w.drewN q := by
  have hT := extract_size s (by omega)
  generalize hx : s.extract 1 s.size = T at *
  have hT1 : T.size < s.size := by omega
  clear hT
  by_cases hin : 1 ≤ T.size ∧ T.size ≤ 6
  · have CI := Lib.hid (fun W => inYes (T.size : Int) W (by omega))
    go_enter Tryd.func28, Tryd.ntmps28
    go_wp2_with (go_at_call 24; refine (CI.out _).mono ?_; rintro e w' ⟨rfl, rfl⟩)
    go_loop [5, 6] (fun sn i => ∃ (k : Nat) (n : Int), k ≤ T.size ∧ i = .int .i64 k ∧ sn = .int .i64 n ∧ 0 ≤ n ∧ n < P10 k) (fun _ i => T.size - (RowKit.intOf i).toNat)
    case atStart => exact ⟨0, 0, Nat.zero_le _, rfl, rfl, by decide, by decide⟩
    case round =>
      obtain ⟨k, n, hk, rfl, rfl, hn0, hn1⟩ := hrel
      have hp := P10_le k (by omega)
      have hps := P10_succ k
      have HPS := Lib.hid hps
      clear hps
      by_cases hlt : k < T.size
      · have hbyte : (T[k].toNat : Int) ≤ 255 := by have := T[k].toNat_lt; omega
        go_wp2
        all_goals first
          | (go_ret2; exact ⟨rfl, 0, rfl⟩)
          | (go_round
             case rel => exact ⟨k + 1, _, by omega, by go_num, rfl, by omega, by rw [HPS.out]; omega⟩
             case measure => simp [RowKit.intOf]; omega)
      · have hne := text_ne hno (-n) (by omega) (by omega)
        have CN := Lib.hid (fun W => specNum (-n) W (by omega) (by omega))
        go_wp2_with (go_at_call 25; refine (CN.out _).mono ?_; rintro e w' ⟨rfl, q, rfl⟩)
        go_ret2
        exact ⟨rfl, q, rfl⟩
  · have CI := Lib.hid (fun W => inNo (T.size : Int) W (by omega))
    go_enter Tryd.func28, Tryd.ntmps28
    go_wp2_with (go_at_call 24; refine (CI.out _).mono ?_; rintro e w' ⟨rfl, rfl⟩)
    go_ret2
    exact ⟨rfl, 0, rfl⟩

theorem specReadNo (s : ByteArray) (w : World) (hs : s.size ≤ 9223372036854775807) (hno : NoText s) :
    Calls Tryd.prog 28 #[.string s] w fun e w' => e = .returned (.tuple #[.int .i64 0, .bool false]) ∧ ∃ q, w' = w.drewN q := by
  by_cases h1 : s.size ≤ 1
  · exact readNoShort s w hs hno h1
  · by_cases h2 : s[0] = 45
    · exact readNoSign s w hs hno (by omega) h2
    · exact readNoPlain s w hs hno (by omega) h2

theorem specParseYes (m : Int) (w : World) (h0 : -999999 ≤ m) (h1 : m ≤ 999999) :
    Calls Tryd.prog 14 #[.string (intText m)] w fun e w' => e = .returned (.tuple #[.int .i64 m, .bool true]) ∧ Below w.heap.size w w' := by
  go_enter Tryd.func14, Tryd.ntmps14
  go_wp2_with fail
  refine (specReadYes m w h0 h1).mono ?_
  rintro e w' ⟨rfl, q, rfl⟩
  go_wp2
  go_ret2
  exact ⟨rfl, Go.below_drewN (Below.refl _ _) q⟩
theorem specParseNo (s : ByteArray) (w : World) (hs : s.size ≤ 9223372036854775807) (hno : NoText s) :
    Calls Tryd.prog 14 #[.string s] w fun e w' => e = .returned (.tuple #[.int .i64 0, .bool false]) ∧ Below w.heap.size w w' := by
  go_enter Tryd.func14, Tryd.ntmps14
  go_wp2_with fail
  refine (specReadNo s w hs hno).mono ?_
  rintro e w' ⟨rfl, q, rfl⟩
  go_wp2
  go_ret2
  exact ⟨rfl, Go.below_drewN (Below.refl _ _) q⟩

theorem FnExactParseInt_walk (a0 : ByteArray) (w0 : a0.size ≤ maxLen) (w : World) (ht : Tab w) :
    Calls Tryd.prog 5 #[.string a0] w fun e w' => e = .returned (.bool true) ∧ Below w.heap.size w w' := by
  unfold maxLen at w0
  by_cases hbig : a0.size ≤ 1048576
  · by_cases hno : NoText a0
    · go_enter Tryd.func5, Tryd.ntmps5
      go_wp2_with fail
      refine (specParseNo a0 w (by omega) hno).mono ?_
      rintro e w1 ⟨rfl, hb1⟩
      go_wp2_with fail
      refine (implParseNo a0 w1 (ht.below hb1) (by omega) hno).mono ?_
      rintro e w2 ⟨rfl, hb2⟩
      go_wp2
      go_ret
      exact ⟨rfl, hb1.trans (hb2.mono hb1.size)⟩
    · have hyes : ∃ m : Int, -999999 ≤ m ∧ m ≤ 999999 ∧ a0 = intText m := by
        refine Classical.byContradiction fun hn => hno fun m h0 h1 he => hn ⟨m, h0, h1, he⟩
      obtain ⟨m, h0, h1, rfl⟩ := hyes
      clear hno
      go_enter Tryd.func5, Tryd.ntmps5
      go_wp2_with fail
      refine (specParseYes m w h0 h1).mono ?_
      rintro e w1 ⟨rfl, hb1⟩
      go_wp2_with fail
      refine (implParseYes m w1 (ht.below hb1) h0 h1).mono ?_
      rintro e w2 ⟨rfl, hb2⟩
      go_wp2
      go_ret
      exact ⟨rfl, hb1.trans (hb2.mono hb1.size)⟩
  · go_enter Tryd.func5, Tryd.ntmps5
    go_wp2
    go_ret
    exact ⟨rfl, Below.refl _ _⟩

end Go.Proofs.YtopdaocamjfbdaaDoor
