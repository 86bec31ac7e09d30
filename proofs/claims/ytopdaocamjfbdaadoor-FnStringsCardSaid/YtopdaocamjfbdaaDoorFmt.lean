/- The walks of FormatInt: strconv.Itoa on one side, the reckoning digit by digit on the other. -/
import Derived.Test.YtopdaocamjfbdaaDoorProg
import Derived.Test.YtopdaocamjfbdaaDoorShelf
import Derived.Test.YtopdaocamjfbdaaDoorDec
import Derived.WalkKit
import Derived.WalkLawsBesides
import Derived.Below
import Derived.Deep.QuietTactic
import Derived.BigQuiet
import Derived.Lib.Hide
import Derived.Lib.SmallJoins
import Derived.Lib.ItoaMem
import Derived.Outline
import Derived.IntWalk
namespace Go.Proofs.YtopdaocamjfbdaaDoor
open Go.RowKit Go.Lib Go.Shelf Go.Sort Dec
set_option linter.unusedVariables false

/-- The table that strconv reads. -/
def Tab (w : World) : Prop := Lib.TabIs Tryd.prog w "internal/strconv.uint64pow10" .u64 Lib.pow10Tab
theorem tabName : Tryd.prog.globalNamed "internal/strconv.uint64pow10" = some 1 := by kernel_rfl
theorem Tab.below {w w' : World} (h : Tab w) (hb : Below w.heap.size w w') : Tab w' := Go.Joins.tab_stays tabName h hb (Nat.le_refl _)

theorem below_grow (w : World) (k : Nat) (os : Array Obj) : Below w.heap.size w (grow (w.drewN k) os) := by
  refine ⟨rfl, rfl, rfl, ?_, fun i hi => ?_⟩
  · show w.heap.size ≤ (w.heap ++ os).size
    simp
  · show (w.heap ++ os)[i]? = _
    rw [Array.getElem?_append_left hi]

theorem digit_piece (u : Nat) (h : u < 10) : (⟨#[48, 49, 50, 51, 52, 53, 54, 55, 56, 57]⟩ : ByteArray).extract u (u + 1) = ⟨#[UInt8.ofNat (48 + u)]⟩ := by
  have : ∀ i : Fin 10, (⟨#[48, 49, 50, 51, 52, 53, 54, 55, 56, 57]⟩ : ByteArray).extract i.val (i.val + 1) = ⟨#[UInt8.ofNat (48 + i.val)]⟩ := by decide +kernel
  exact this ⟨u, h⟩

/-- The text of one digit. -/
def one (i : Int) : ByteArray := ⟨#[UInt8.ofNat (48 + i.toNat)]⟩
theorem digit_slice (i : Int) (h0 : 0 ≤ i) (h9 : i ≤ 9) (w : World) :
    (Instr.slice 9 (.string ⟨#[48, 49, 50, 51, 52, 53, 54, 55, 56, 57]⟩) (some (.int .i64 i)) (some (.int .i64 (i + 1))) none).run Tryd.prog w = .ok (.string (one i)) w := by
  rw [run_slice_string w 9 _ .i64 .i64 i (i + 1) Tryd.underlying9 h0 (by omega) (by show i + 1 ≤ 10; omega), show (i + 1).toNat = i.toNat + 1 by omega, digit_piece i.toNat (by omega)]
  rfl
/-- The text of a number that is not negative. -/
def numText (n : Int) : ByteArray := ⟨(decDigits n.toNat).toArray⟩
theorem num_small (n : Int) (h : n ≤ 9) : one n = numText n := by unfold numText; rw [decDigits_one (by omega)]; rfl
theorem num_big (n : Int) (h : 10 ≤ n) : numText (n / 10) ++ one (n % 10) = numText n := by
  unfold numText
  rw [show decDigits n.toNat = decDigits (n.toNat / 10) ++ [UInt8.ofNat (48 + n.toNat % 10)] by rw [decDigits, dif_neg (by omega)], show (n / 10).toNat = n.toNat / 10 by omega, one, show (n % 10).toNat = n.toNat % 10 by omega]
  apply ByteArray.ext
  simp [ByteArray.data_append]
theorem num_size (n : Int) (h : n ≤ 99999999) : (numText n).size ≤ 8 := by
  show (decDigits n.toNat).toArray.size ≤ 8
  rw [List.size_toArray, decDigits_length]
  exact nDigits_le 7 (by omega)
theorem one_size (n : Int) : (one n).size = 1 := rfl

theorem specIn (n a b : Int) (w : World) :
    Calls Tryd.prog 24 #[.int .i64 n, .int .i64 a, .int .i64 b] w fun e w' => e = .returned (.bool (decide (a ≤ n ∧ n ≤ b))) ∧ w = w' := by
  by_cases h1 : a ≤ n
  · by_cases h2 : n ≤ b
    · go_enter Tryd.func24, Tryd.ntmps24
      go_wp2
      go_ret
      exact ⟨by simp [h2]; omega, rfl⟩
    · go_enter Tryd.func24, Tryd.ntmps24
      go_wp2
      go_ret
      exact ⟨by simp [h2], rfl⟩
  · go_enter Tryd.func24, Tryd.ntmps24
    go_wp2
    go_ret
    exact ⟨by simp; omega, rfl⟩

set_option maxHeartbeats 400000 in
theorem numUp (k : Nat) : ∀ (n : Int) (w : World), n ≤ k → 0 ≤ n → n ≤ 99999999 →
    Calls Tryd.prog 25 #[.int .i64 n] w fun e w' => e = .returned (.string (numText n)) ∧ ∃ m, w' = w.drewN m := by
  induction k with
  | zero =>
    intro n w hk h0 hb
    have hsl := fun W => digit_slice n (by omega) (by omega) W
    go_enter Tryd.func25, Tryd.ntmps25
    go_wp2
    go_ret
    exact ⟨congrArg (fun x => Ending.returned (Value.string x)) (num_small n (by omega)), 0, rfl⟩
  | succ k ih =>
    intro n w hk h0 hb
    by_cases h : n < 10
    · have hsl := fun W => digit_slice n (by omega) (by omega) W
      go_enter Tryd.func25, Tryd.ntmps25
      go_wp2
      go_ret
      exact ⟨congrArg (fun x => Ending.returned (Value.string x)) (num_small n (by omega)), 0, rfl⟩
    · have h' : 10 ≤ n := by omega
      have hsl := fun W => digit_slice (n % 10) (by omega) (by omega) W
      have ih' := fun W => ih (n / 10) W (by omega) (by omega) (by omega)
      clear ih
      have hd : n.tdiv 10 = n / 10 := Int.tdiv_eq_ediv_of_nonneg h0
      have hr : n.tmod 10 = n % 10 := Int.tmod_eq_emod_of_nonneg h0
      have hq : IntKind.i64.wrap (n / 10) = n / 10 := IntWalk.i64_in _ (by omega)
      have hm : IntKind.i64.wrap (n % 10) = n % 10 := IntWalk.i64_in _ (by omega)
      have hw : IntKind.i64.wrap (n % 10 + 1) = n % 10 + 1 := IntWalk.i64_in _ (by omega)
      have hsz : ((numText (n / 10)).size : Int) ≤ 8388608 := by have := num_size (n / 10) (by omega); omega
      have hs1 : ((one (n % 10)).size : Int) ≤ 8388608 := by rw [one_size]; decide
      go_enter Tryd.func25, Tryd.ntmps25
      go_wp2_with fail
      go_quiet ((go_at_call 25; exact Calls.quiet_of (ih' _)))
      go_wp2
      go_ret
      exact ⟨congrArg (fun x => Ending.returned (Value.string x)) (num_big n (by omega)), nq, rfl⟩

/-- The text of a number. -/
def intText (n : Int) : ByteArray := ⟨(itoa n).toArray⟩
theorem int_up (n : Int) (h : 0 ≤ n) : numText n = intText n := by unfold numText intText; rw [itoa_pos (by omega)]; congr 3; omega
theorem int_down (n : Int) (h : n < 0) : (⟨#[45]⟩ : ByteArray) ++ numText (-n) = intText n := by
  unfold numText intText
  rw [itoa_neg h, show (-n).toNat = n.natAbs by omega]
  apply ByteArray.ext
  simp [ByteArray.data_append]
theorem int_size (n : Int) (h0 : -99999999 ≤ n) (h : n ≤ 99999999) : (intText n).size ≤ 9 := by
  show (itoa n).toArray.size ≤ 9
  rw [List.size_toArray, itoa_len]
  have := nDigits_le (u := n.natAbs) 7 (by omega)
  split <;> omega

set_option maxHeartbeats 400000 in
theorem specNum (n : Int) (w : World) (h0 : -99999999 ≤ n) (hb : n ≤ 99999999) :
    Calls Tryd.prog 25 #[.int .i64 n] w fun e w' => e = .returned (.string (intText n)) ∧ ∃ m, w' = w.drewN m := by
  by_cases h : n < 0
  · have hsz : ((numText (-n)).size : Int) ≤ 8388608 := by have := num_size (-n) (by omega); omega
    have hs1 : (((⟨#[45]⟩ : ByteArray)).size : Int) ≤ 8388608 := by decide
    go_enter Tryd.func25, Tryd.ntmps25
    go_wp2_with fail
    refine (numUp (-n).toNat (-n) w (by omega) (by omega) (by omega)).mono ?_
    rintro e w' ⟨rfl, m, rfl⟩
    go_wp2
    go_ret
    exact ⟨congrArg (fun x => Ending.returned (Value.string x)) (int_down n h), m, rfl⟩
  · rw [← int_up n (by omega)]
    exact numUp n.toNat n w (by omega) (by omega) hb

theorem specFmtYes (n : Int) (w : World) (h0 : -999999 ≤ n) (hb : n ≤ 999999) :
    Calls Tryd.prog 11 #[.int .i64 n] w fun e w' => e = .returned (.tuple #[.string (intText n), .bool true]) ∧ Below w.heap.size w w' := by
  have hd : decide (-999999 ≤ n ∧ n ≤ 999999) = true := by simp; omega
  have c := specIn n (-999999) 999999 w
  rw [hd] at c
  clear hd
  go_enter Tryd.func11, Tryd.ntmps11
  go_wp2_with fail
  refine c.mono ?_
  rintro e w' ⟨rfl, rfl⟩
  go_wp2_with fail
  refine (specNum n w (by omega) (by omega)).mono ?_
  rintro e w' ⟨rfl, m, rfl⟩
  go_wp2
  go_ret2
  exact ⟨rfl, Go.below_drewN (Below.refl _ _) m⟩

theorem specFmtNo (n : Int) (w : World) (h : n < -999999 ∨ 999999 < n) :
    Calls Tryd.prog 11 #[.int .i64 n] w fun e w' => e = .returned (.tuple #[.string ⟨#[]⟩, .bool false]) ∧ Below w.heap.size w w' := by
  have hd : decide (-999999 ≤ n ∧ n ≤ 999999) = false := by simp; omega
  have c := specIn n (-999999) 999999 w
  rw [hd] at c
  clear hd
  go_enter Tryd.func11, Tryd.ntmps11
  go_wp2_with fail
  refine c.mono ?_
  rintro e w' ⟨rfl, rfl⟩
  go_wp2
  go_ret2
  exact ⟨rfl, Below.refl _ _⟩

theorem implFmtYes (n : Int) (w : World) (ht : Tab w) (h0 : -999999 ≤ n) (hb : n ≤ 999999) :
    Calls Tryd.prog 10 #[.int .i64 n] w fun e w' => e = .returned (.tuple #[.string (intText n), .bool true]) ∧ Below w.heap.size w w' := by
  go_enter Tryd.func10, Tryd.ntmps10
  go_wp2_with fail
  refine (Tryd.strconv_Itoa n (by omega) (by omega) w ht).mono ?_
  rintro e w' ⟨rfl, k, os, rfl⟩
  go_wp2
  go_ret2
  exact ⟨rfl, below_grow w k os⟩

theorem implFmtNo (n : Int) (w : World) (h : n < -999999 ∨ 999999 < n) :
    Calls Tryd.prog 10 #[.int .i64 n] w fun e w' => e = .returned (.tuple #[.string ⟨#[]⟩, .bool false]) ∧ Below w.heap.size w w' := by
  rcases h with h | h
  · go_enter Tryd.func10, Tryd.ntmps10
    go_wp2
    go_ret2
    exact ⟨rfl, Below.refl _ _⟩
  · have h' : ¬ n < -999999 := by omega
    go_enter Tryd.func10, Tryd.ntmps10
    go_wp2
    go_ret2
    exact ⟨rfl, Below.refl _ _⟩

theorem FnExactFormatInt_walk (a0 : Int) (w0 : (Lit.int .i64 a0).wf = true) (w : World) (ht : Tab w) :
    Calls Tryd.prog 4 #[.int .i64 a0] w fun e w' => e = .returned (.bool true) ∧ Below w.heap.size w w' := by
  by_cases h : -999999 ≤ a0 ∧ a0 ≤ 999999
  · go_enter Tryd.func4, Tryd.ntmps4
    go_wp2_with fail
    refine (specFmtYes a0 w h.1 h.2).mono ?_
    rintro e w1 ⟨rfl, hb1⟩
    go_wp2_with fail
    refine (implFmtYes a0 w1 (ht.below hb1) h.1 h.2).mono ?_
    rintro e w2 ⟨rfl, hb2⟩
    go_wp2
    go_ret
    exact ⟨rfl, hb1.trans (hb2.mono hb1.size)⟩
  · have h' : a0 < -999999 ∨ 999999 < a0 := by omega
    clear h
    have HH := Lib.hid h'
    clear h'
    go_enter Tryd.func4, Tryd.ntmps4
    go_wp2_with fail
    refine (specFmtNo a0 w HH.out).mono ?_
    rintro e w1 ⟨rfl, hb1⟩
    go_wp2_with fail
    refine (implFmtNo a0 w1 HH.out).mono ?_
    rintro e w2 ⟨rfl, hb2⟩
    go_wp2
    go_ret
    exact ⟨rfl, hb1.trans (hb2.mono hb1.size)⟩

end Go.Proofs.YtopdaocamjfbdaaDoor
