/- The walks of AppendChecksum. -/
import Derived.Test.YtopdaocamjfbdaaDoorFmt
import Derived.Test.YtopdaocamjfbdaaDoorSum
import Derived.Test.YtopdaocamjfbdaaDoorStands
namespace Go.Proofs.YtopdaocamjfbdaaDoor
open Go.RowKit
set_option linter.unusedVariables false

/-- The text with its mark and its sum. -/
def sealText (s : ByteArray) : ByteArray := (s ++ ⟨#[35]⟩) ++ intText (sumOf s.data.toList)
theorem seal_size (s : ByteArray) : (sealText s).size = s.size + 1 + (intText (sumOf s.data.toList)).size := by
  unfold sealText; simp [ByteArray.size_append]; rfl
def Sealable (s : ByteArray) : Prop := s.size ≤ 4000 ∧ (35 : UInt8) ∉ s.data.toList ∧ (sealText s).size ≤ 4000

theorem specSeal (s : ByteArray) (w : World) (hs : s.size ≤ 4000) :
    Calls Tryd.prog 33 #[.string s] w fun e w' => e = .returned (.string (sealText s)) ∧ ∃ q, w' = w.drewN q := by
  have hbd := sumOf_bd s.data.toList
  have hi := int_size (sumOf s.data.toList) (by omega) (by omega)
  have S := specSum s w (by omega)
  have H := Lib.hid (show (s ++ ⟨#[35]⟩) ++ intText (sumOf s.data.toList) = sealText s from rfl)
  have h1 : (s ++ (⟨#[35]⟩ : ByteArray)).size = s.size + 1 := by simp [ByteArray.size_append]; rfl
  have h2 : ((s ++ (⟨#[35]⟩ : ByteArray)).size : Int) ≤ 8388608 := by omega
  have h3 : (s.size : Int) ≤ 8388608 := by omega
  have h4 : ((intText (sumOf s.data.toList)).size : Int) ≤ 8388608 := by omega
  clear h1 hi
  generalize sumOf s.data.toList = x at *
  go_enter Tryd.func33, Tryd.ntmps33
  go_wp2_with (first | (go_at_call 39; refine S.mono ?_; rintro e w' ⟨rfl, rfl⟩) | (go_at_call 25; refine (specNum x _ (by omega) (by omega)).mono ?_; rintro e w' ⟨rfl, q, rfl⟩))
  go_ret
  exact ⟨by rw [← H.out]; rfl, q, rfl⟩

set_option maxHeartbeats 400000 in
theorem specAppendYes (s : ByteArray) (w : World) (h0 : s.size ≤ 4000) (hm : (35 : UInt8) ∉ s.data.toList) (hz : (sealText s).size ≤ 4000) :
    Calls Tryd.prog 17 #[.string s] w fun e w' => e = .returned (.tuple #[.string (sealText s), .bool true]) ∧ Below w.heap.size w w' := by
  have SE := Lib.hid (fun W => specSeal s W h0)
  go_enter Tryd.func17, Tryd.ntmps17
  go_wp2_with fail
  refine (standsNo s 35 35 rfl _ (by omega) hm).mono ?_
  rintro e w' ⟨rfl, rfl⟩
  go_wp2_with fail
  refine (SE.out _).mono ?_
  rintro e w' ⟨rfl, q, rfl⟩
  go_wp2_with fail
  refine (SE.out _).mono ?_
  rintro e w' ⟨rfl, q2, rfl⟩
  go_wp2
  go_ret2
  exact ⟨rfl, Go.below_drewN (Below.refl _ _) (q + q2)⟩

set_option maxHeartbeats 400000 in
theorem specAppendBig (s : ByteArray) (w : World) (h0 : ¬ s.size ≤ 4000) (hs : s.size ≤ 9223372036854775807) :
    Calls Tryd.prog 17 #[.string s] w fun e w' => e = .returned (.tuple #[.string ⟨#[]⟩, .bool false]) ∧ Below w.heap.size w w' := by
  go_enter Tryd.func17, Tryd.ntmps17
  go_wp2
  go_ret2
  exact ⟨rfl, Below.refl _ _⟩

set_option maxHeartbeats 400000 in
theorem specAppendMark (s : ByteArray) (w : World) (h0 : s.size ≤ 4000) (hm : (35 : UInt8) ∈ s.data.toList) :
    Calls Tryd.prog 17 #[.string s] w fun e w' => e = .returned (.tuple #[.string ⟨#[]⟩, .bool false]) ∧ Below w.heap.size w w' := by
  go_enter Tryd.func17, Tryd.ntmps17
  go_wp2_with fail
  refine (standsYes s 35 35 rfl _ (by omega) hm).mono ?_
  rintro e w' ⟨rfl, rfl⟩
  go_wp2
  go_ret2
  exact ⟨rfl, Below.refl _ _⟩

set_option maxHeartbeats 400000 in
theorem specAppendLong (s : ByteArray) (w : World) (h0 : s.size ≤ 4000) (hm : (35 : UInt8) ∉ s.data.toList) (hz : ¬ (sealText s).size ≤ 4000) (hz2 : (sealText s).size ≤ 8000) :
    Calls Tryd.prog 17 #[.string s] w fun e w' => e = .returned (.tuple #[.string ⟨#[]⟩, .bool false]) ∧ Below w.heap.size w w' := by
  have SE := Lib.hid (fun W => specSeal s W h0)
  go_enter Tryd.func17, Tryd.ntmps17
  go_wp2_with fail
  refine (standsNo s 35 35 rfl _ (by omega) hm).mono ?_
  rintro e w' ⟨rfl, rfl⟩
  go_wp2_with fail
  refine (SE.out _).mono ?_
  rintro e w' ⟨rfl, q, rfl⟩
  go_wp2
  go_ret2
  exact ⟨rfl, Go.below_drewN (Below.refl _ _) q⟩

theorem containsMark (s : ByteArray) (w : World) (h : (35 : UInt8) ∈ s.data.toList) :
    Calls Tryd.prog 31 #[.string s, .string ⟨#[35]⟩] w fun e w' => e = .returned (.bool true) ∧ w = w' := by
  have c := Tryd.strings_Contains_one s 35 w
  rw [decide_eq_true ((indexByte_mem _ _).2 h)] at c
  exact c.mono fun e w' ⟨he, hw⟩ => ⟨he, hw.symm⟩
theorem containsNone (s : ByteArray) (w : World) (h : (35 : UInt8) ∉ s.data.toList) :
    Calls Tryd.prog 31 #[.string s, .string ⟨#[35]⟩] w fun e w' => e = .returned (.bool false) ∧ w = w' := by
  have c := Tryd.strings_Contains_one s 35 w
  rw [decide_eq_false (fun h0 => h ((indexByte_mem _ _).1 h0))] at c
  exact c.mono fun e w' ⟨he, hw⟩ => ⟨he, hw.symm⟩

set_option maxHeartbeats 400000 in
theorem implAppendYes (s : ByteArray) (w : World) (ht : Tab w) (h0 : s.size ≤ 4000) (hm : (35 : UInt8) ∉ s.data.toList) (hz : (sealText s).size ≤ 4000) :
    Calls Tryd.prog 16 #[.string s] w fun e w' => e = .returned (.tuple #[.string (sealText s), .bool true]) ∧ Below w.heap.size w w' := by
  have hbd := sumOf_bd s.data.toList
  have hz0 := seal_size s
  have hi := int_size (sumOf s.data.toList) (by omega) (by omega)
  have H := Lib.hid (show (s ++ ⟨#[35]⟩) ++ intText (sumOf s.data.toList) = sealText s from rfl)
  have h1 : (s ++ (⟨#[35]⟩ : ByteArray)).size = s.size + 1 := by simp [ByteArray.size_append]; rfl
  have h2 : ((s ++ (⟨#[35]⟩ : ByteArray)).size : Int) ≤ 8388608 := by omega
  have h3 : (s.size : Int) ≤ 8388608 := by omega
  have h4 : ((intText (sumOf s.data.toList)).size : Int) ≤ 8388608 := by omega
  have h5 :  ((s.size : Int) + 1 + ((intText (sumOf s.data.toList)).size : Int) ≤ 4000) := by omega
  have h6 : ((s.size : Int) + 1 + ((intText (sumOf s.data.toList)).size : Int) ≤ 8000) := by omega
  have CK := Lib.hid (implSumYes s w h0)
  clear h1 hi hz0 hz
  generalize sumOf s.data.toList = x at *
  go_enter Tryd.func16, Tryd.ntmps16
  go_wp2_with fail
  refine CK.out.mono ?_
  rintro e w' ⟨rfl, rfl⟩
  go_wp2_with fail
  refine (containsNone s w hm).mono ?_
  rintro e w' ⟨rfl, rfl⟩
  go_wp2_with fail
  refine (implFmtYes x w ht (by omega) (by omega)).mono ?_
  rintro e w1 ⟨rfl, hb1⟩
  go_wp2
  go_ret2
  exact ⟨by rw [← H.out]; rfl, hb1⟩

set_option maxHeartbeats 400000 in
theorem implAppendLong (s : ByteArray) (w : World) (ht : Tab w) (h0 : s.size ≤ 4000) (hm : (35 : UInt8) ∉ s.data.toList) (hz : ¬ (sealText s).size ≤ 4000) :
    Calls Tryd.prog 16 #[.string s] w fun e w' => e = .returned (.tuple #[.string ⟨#[]⟩, .bool false]) ∧ Below w.heap.size w w' := by
  have hbd := sumOf_bd s.data.toList
  have hz0 := seal_size s
  have hi := int_size (sumOf s.data.toList) (by omega) (by omega)
  have h1 : (s ++ (⟨#[35]⟩ : ByteArray)).size = s.size + 1 := by simp [ByteArray.size_append]; rfl
  have h2 : ((s ++ (⟨#[35]⟩ : ByteArray)).size : Int) ≤ 8388608 := by omega
  have h3 : (s.size : Int) ≤ 8388608 := by omega
  have h4 : ((intText (sumOf s.data.toList)).size : Int) ≤ 8388608 := by omega
  have h5 : ¬ ((s.size : Int) + 1 + ((intText (sumOf s.data.toList)).size : Int) ≤ 4000) := by omega
  have h6 : ((s.size : Int) + 1 + ((intText (sumOf s.data.toList)).size : Int) ≤ 8000) := by omega
  have CK := Lib.hid (implSumYes s w h0)
  clear h1 hi hz0 hz
  generalize sumOf s.data.toList = x at *
  go_enter Tryd.func16, Tryd.ntmps16
  go_wp2_with fail
  refine CK.out.mono ?_
  rintro e w' ⟨rfl, rfl⟩
  go_wp2_with fail
  refine (containsNone s w hm).mono ?_
  rintro e w' ⟨rfl, rfl⟩
  go_wp2_with fail
  refine (implFmtYes x w ht (by omega) (by omega)).mono ?_
  rintro e w1 ⟨rfl, hb1⟩
  go_wp2
  go_ret2
  exact ⟨rfl, hb1⟩

set_option maxHeartbeats 400000 in
theorem implAppendMark (s : ByteArray) (w : World) (ht : Tab w) (h0 : s.size ≤ 4000) (hm : (35 : UInt8) ∈ s.data.toList) :
    Calls Tryd.prog 16 #[.string s] w fun e w' => e = .returned (.tuple #[.string ⟨#[]⟩, .bool false]) ∧ Below w.heap.size w w' := by
  have CK := Lib.hid (implSumYes s w h0)
  go_enter Tryd.func16, Tryd.ntmps16
  go_wp2_with fail
  refine CK.out.mono ?_
  rintro e w' ⟨rfl, rfl⟩
  go_wp2_with fail
  refine (containsMark s w hm).mono ?_
  rintro e w' ⟨rfl, rfl⟩
  go_wp2
  go_ret2
  exact ⟨rfl, Below.refl _ _⟩

set_option maxHeartbeats 400000 in
theorem implAppendBig (s : ByteArray) (w : World) (ht : Tab w) (h0 : ¬ s.size ≤ 4000) (hs : s.size ≤ 9223372036854775807) :
    Calls Tryd.prog 16 #[.string s] w fun e w' => e = .returned (.tuple #[.string ⟨#[]⟩, .bool false]) ∧ Below w.heap.size w w' := by
  have CK := Lib.hid (implSumNo s w h0 hs)
  go_enter Tryd.func16, Tryd.ntmps16
  go_wp2_with fail
  refine CK.out.mono ?_
  rintro e w' ⟨rfl, rfl⟩
  go_wp2
  go_ret2
  exact ⟨rfl, Below.refl _ _⟩

theorem seal_bound (s : ByteArray) (h0 : s.size ≤ 4000) : (sealText s).size ≤ 8000 := by
  have hbd := sumOf_bd s.data.toList
  have hi := int_size (sumOf s.data.toList) (by omega) (by omega)
  rw [seal_size]; omega

/-- Both answers, by the one question whether the text can be sealed. -/
theorem specAppendNo (s : ByteArray) (w : World) (hs : s.size ≤ 9223372036854775807) (h : ¬ Sealable s) :
    Calls Tryd.prog 17 #[.string s] w fun e w' => e = .returned (.tuple #[.string ⟨#[]⟩, .bool false]) ∧ Below w.heap.size w w' := by
  by_cases h0 : s.size ≤ 4000
  · by_cases hm : (35 : UInt8) ∈ s.data.toList
    · exact specAppendMark s w h0 hm
    · exact specAppendLong s w h0 hm (fun hz => h ⟨h0, hm, hz⟩) (seal_bound s h0)
  · exact specAppendBig s w h0 hs
theorem implAppendNo (s : ByteArray) (w : World) (ht : Tab w) (hs : s.size ≤ 9223372036854775807) (h : ¬ Sealable s) :
    Calls Tryd.prog 16 #[.string s] w fun e w' => e = .returned (.tuple #[.string ⟨#[]⟩, .bool false]) ∧ Below w.heap.size w w' := by
  by_cases h0 : s.size ≤ 4000
  · by_cases hm : (35 : UInt8) ∈ s.data.toList
    · exact implAppendMark s w ht h0 hm
    · exact implAppendLong s w ht h0 hm (fun hz => h ⟨h0, hm, hz⟩)
  · exact implAppendBig s w ht h0 hs

theorem FnExactAppendChecksum_walk (a0 : ByteArray) (w0 : a0.size ≤ maxLen) (w : World) (ht : Tab w) :
    Calls Tryd.prog 6 #[.string a0] w fun e w' => e = .returned (.bool true) ∧ Below w.heap.size w w' := by
  unfold maxLen at w0
  by_cases hbig : a0.size ≤ 1048576
  · by_cases hyes : Sealable a0
    · have H := Lib.hid hyes
      clear hyes
      go_enter Tryd.func6, Tryd.ntmps6
      go_wp2_with fail
      refine (specAppendYes a0 w H.out.1 H.out.2.1 H.out.2.2).mono ?_
      rintro e w1 ⟨rfl, hb1⟩
      go_wp2_with fail
      refine (implAppendYes a0 w1 (ht.below hb1) H.out.1 H.out.2.1 H.out.2.2).mono ?_
      rintro e w2 ⟨rfl, hb2⟩
      go_wp2
      go_ret
      exact ⟨rfl, hb1.trans (hb2.mono hb1.size)⟩
    · have H := Lib.hid hyes
      clear hyes
      go_enter Tryd.func6, Tryd.ntmps6
      go_wp2_with fail
      refine (specAppendNo a0 w (by omega) H.out).mono ?_
      rintro e w1 ⟨rfl, hb1⟩
      go_wp2_with fail
      refine (implAppendNo a0 w1 (ht.below hb1) (by omega) H.out).mono ?_
      rintro e w2 ⟨rfl, hb2⟩
      go_wp2
      go_ret
      exact ⟨rfl, hb1.trans (hb2.mono hb1.size)⟩
  · go_enter Tryd.func6, Tryd.ntmps6
    go_wp2
    go_ret
    exact ⟨rfl, Below.refl _ _⟩

end Go.Proofs.YtopdaocamjfbdaaDoor
