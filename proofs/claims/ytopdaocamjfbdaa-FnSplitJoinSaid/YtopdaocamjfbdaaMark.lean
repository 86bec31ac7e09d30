/- The walks of the marks that the laws write into slices of texts. -/
import Derived.Test.YtopdaocamjfbdaaTexts
import Derived.WalkSpells
import Derived.Lib.SlBytesConst
namespace Go.Proofs.Ytopdaocamjfbdaa
open Go.RowKit
set_option linter.unusedVariables false

def digB (n : Nat) : UInt8 := UInt8.ofNat (48 + n % 10)
def digS (n : Nat) : ByteArray := ⟨#[digB n]⟩
def digAcc : Nat → Nat → List UInt8 → List UInt8
  | 0, _, acc => acc
  | f + 1, n, acc => if n = 0 then acc else digAcc f (n / 10) (digB n :: acc)
/-- The mark of a number. -/
def markOf (k : Int) : ByteArray := if k ≤ 0 then ⟨#[109, 48]⟩ else ⟨#[109]⟩ ++ ⟨(digAcc 9 k.toNat []).toArray⟩

/-- The text of one digit, out of a slice of one byte. -/
theorem digit_conv (n : Nat) (w : World) : (convert 22 9 (.slice (some ⟨w.heap.size, 0, none⟩) 1 1)).run Try.prog (w.alloc (.cells #[.int .u8 (48 + (n : Int) % 10)] 5)) = .ok (.string (digS n)) (w.alloc (.cells #[.int .u8 (48 + (n : Int) % 10)] 5)) := by
  have e : ((digB n).toNat : Int) = 48 + (n : Int) % 10 := by
    unfold digB; rw [UInt8.toNat_ofNat']; omega
  refine run_convert_bytes_back (P := Try.prog) _ 22 9 5 ⟨w.heap.size, 0, none⟩ 1 [digB n] Try.underlying22 Try.underlying5 Try.underlying9 ?_
  intro j hj
  obtain rfl : j = 0 := by simpa using hj
  exact cell_one_new w _ _ 0 _ (by simp [e])
theorem dig_cat (n : Nat) (l : List UInt8) : digS n ++ ⟨l.toArray⟩ = ⟨(digB n :: l).toArray⟩ := by
  unfold digS; apply ByteArray.ext; simp [ByteArray.data_append]

set_option maxHeartbeats 1000000 in
theorem markText_any (k : Int) (w : World) (h0 : 0 < k) (h1 : k ≤ 9999999) :
    Calls Try.prog 34 #[.int .i64 k] w fun e w' => e = .returned (.string (markOf k)) ∧ Below w.heap.size w w' := by
  go_enter Try.func34, Try.ntmps34
  go_wp2
  go_loopw [0, 3] (fun kk out wr => ∃ (n f : Nat) (l : List UInt8), kk = .int .i64 n ∧ out = .string ⟨l.toArray⟩ ∧ Hid (digAcc f n l = digAcc 9 k.toNat []) ∧ Hid (n < 10 ^ f) ∧ n ≤ 9999999 ∧ f ≤ 9 ∧ l.length + f = 9 ∧ Below w.heap.size w wr) (fun kk _ _ => (intOf kk).toNat)
  case atStart => exact ⟨k.toNat, 9, [], by rw [Int.toNat_of_nonneg (by omega)], rfl, rfl, by show _ < _; omega, by omega, by omega, rfl, Below.refl _ _⟩
  case round =>
    obtain ⟨n, f, l, rfl, rfl, HD, HF, hn, hf, hl, hb⟩ := hrel
    by_cases hz : 0 < n
    · rcases f with _ | f
      · have := HF.out; simp at this; omega
      · have hcv := digit_conv n wr
        have hd : digAcc (f + 1) n l = digAcc f (n / 10) (digB n :: l) := by rw [digAcc, if_neg (by omega)]
        have HD2 := Lib.hid hd
        have hlt : n / 10 < 10 ^ f := by have := HF.out; rw [Nat.pow_succ] at this; omega
        have HF2 := Lib.hid hlt
        have HC := Lib.hid (dig_cat n l)
        have hs1 : ((digS n).size : Int) ≤ 8388608 := by show (1 : Int) ≤ _; decide
        have hs2 : ((⟨l.toArray⟩ : ByteArray).size : Int) ≤ 8388608 := by simp [ByteArray.size]; omega
        clear hd hlt
        go_wp2
        go_roundw
        case rel => exact ⟨n / 10, f, digB n :: l, by go_num, by rw [← HC.out], by show _ = _; rw [← HD2.out]; exact HD.out, HF2, by omega, by omega, by simp; omega, hb.alloc hb.size _⟩
        case measure => simp [intOf]; omega
    · obtain rfl : n = 0 := by omega
      have hend : digAcc 9 k.toNat [] = l := by rw [← HD.out]; cases f <;> simp [digAcc]
      have HE : Hid ((⟨#[109]⟩ : ByteArray) ++ ⟨l.toArray⟩ = markOf k) := by show _ = _; unfold markOf; rw [if_neg (by omega), hend]
      have hs2 : ((⟨l.toArray⟩ : ByteArray).size : Int) ≤ 8388608 := by simp [ByteArray.size]; omega
      have hs1 : ((⟨#[109]⟩ : ByteArray).size : Int) ≤ 8388608 := by decide
      clear hend
      go_wp2
      go_ret
      exact ⟨by rw [← HE.out]; rfl, hb⟩
end Go.Proofs.Ytopdaocamjfbdaa
