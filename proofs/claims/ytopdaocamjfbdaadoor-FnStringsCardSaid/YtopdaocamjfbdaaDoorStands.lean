/- The walks of l1Stands: whether a byte stands in a text. -/
import Derived.Test.YtopdaocamjfbdaaDoorProg
import Derived.WalkKit
import Derived.WalkLawsBesides
import Derived.Below
import Derived.Lib.Hide
import Derived.Lib.Bytealg
namespace Go.Proofs.YtopdaocamjfbdaaDoor
open Go.RowKit
set_option linter.unusedVariables false

theorem indexByte_mem (l : List UInt8) (c : UInt8) : 0 ≤ Lib.indexByte l c ↔ c ∈ l := by
  induction l with
  | nil => simp [Lib.indexByte]
  | cons b l ih =>
    have hge := Lib.indexByte_ge l c
    unfold Lib.indexByte
    by_cases hb : (b == c) = true
    · have e : b = c := by simpa using hb
      simp [e]
    · have e : b ≠ c := by simpa using hb
      rw [if_neg hb]
      by_cases hm : c ∈ l
      · have h0 := ih.2 hm
        have hne : ¬ (Lib.indexByte l c == -1) = true := by simp; omega
        rw [if_neg hne]
        simp [hm]; omega
      · have h0 : Lib.indexByte l c = -1 := by
          have : ¬ 0 ≤ Lib.indexByte l c := fun h => hm (ih.1 h)
          omega
        simp [h0, hm, Ne.symm e]

theorem byte_at (s : ByteArray) (k : Nat) (h : k < s.size) : s.data.toList[k]? = some s[k] := by
  rw [Array.getElem?_toList]
  exact Array.getElem?_eq_getElem (by simpa using h)

set_option maxHeartbeats 400000 in
theorem standsYes (s : ByteArray) (c : UInt8) (n : Int) (hn : (c.toNat : Int) = n) (w : World) (hs : s.size ≤ 9223372036854775807) (h : c ∈ s.data.toList) :
    Calls Tryd.prog 32 #[.string s, .int .u8 n] w fun e w' => e = .returned (.bool true) ∧ w = w' := by
  subst hn
  obtain ⟨j, hj⟩ := List.mem_iff_getElem?.1 h
  have hjl : j < s.size := by have := (List.getElem?_eq_some_iff.1 hj).1; simpa using this
  have hjc : s[j] = c := by have := byte_at s j hjl; rw [hj] at this; exact (Option.some.inj this).symm
  have HJ := Lib.hid hjc
  clear hj hjc h
  go_enter Tryd.func32, Tryd.ntmps32
  go_wp2
  go_loop [5] (fun i => ∃ k : Nat, k ≤ j ∧ i = .int .i64 k) (fun i => s.size - (intOf i).toNat)
  case atStart => exact ⟨0, Nat.zero_le _, rfl⟩
  case round =>
    obtain ⟨k, hk, rfl⟩ := hrel
    have hlt : k < s.size := by omega
    by_cases he : k = j
    · subst he
      have hjc := HJ.out
      go_wp2
      go_ret
      exact ⟨rfl, rfl⟩
    · go_wp2
      all_goals first
        | (go_ret; exact ⟨rfl, rfl⟩)
        | (go_round
           case rel => exact ⟨k + 1, by omega, by go_num⟩
           case measure => simp [intOf]; omega)

set_option maxHeartbeats 400000 in
theorem standsNo (s : ByteArray) (c : UInt8) (n : Int) (hn : (c.toNat : Int) = n) (w : World) (hs : s.size ≤ 9223372036854775807) (h : c ∉ s.data.toList) :
    Calls Tryd.prog 32 #[.string s, .int .u8 n] w fun e w' => e = .returned (.bool false) ∧ w = w' := by
  have hne : ∀ k (hk : k < s.size), ((s[k].toNat : Int) == n) = false := by
    intro k hk
    rw [beq_eq_false_iff_ne]
    intro he
    refine h (List.mem_iff_getElem?.2 ⟨k, ?_⟩)
    rw [byte_at s k hk]
    congr 1
    apply UInt8.toNat_inj.1
    omega
  have HN := Lib.hid hne
  clear hne h hn
  go_enter Tryd.func32, Tryd.ntmps32
  go_wp2
  go_loop [5] (fun i => ∃ k : Nat, k ≤ s.size ∧ i = .int .i64 k) (fun i => s.size - (intOf i).toNat)
  case atStart => exact ⟨0, Nat.zero_le _, rfl⟩
  case round =>
    obtain ⟨k, hk, rfl⟩ := hrel
    by_cases hlt : k < s.size
    · have hne := HN.out k hlt
      go_wp2
      go_round
      case rel => exact ⟨k + 1, by omega, by go_num⟩
      case measure => simp [intOf]; omega
    · go_wp2
      go_ret
      exact ⟨rfl, rfl⟩
end Go.Proofs.YtopdaocamjfbdaaDoor
