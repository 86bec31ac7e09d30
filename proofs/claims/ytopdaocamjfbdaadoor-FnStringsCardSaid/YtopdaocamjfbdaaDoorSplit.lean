/- The walk of l1Split: the pieces of a text between a byte. -/
import Derived.Test.YtopdaocamjfbdaaDoorStands
import Derived.Maps.AppendAt
import Derived.OwnWalk
import Derived.WalkSpells
import Derived.Outline
namespace Go.Proofs.YtopdaocamjfbdaaDoor
open Go.RowKit
set_option linter.unusedVariables false

/-- What has been cut off behind k bytes, and where the piece that is being read began. -/
def cutSt (s : ByteArray) (c : UInt8) : Nat → List ByteArray × Nat
  | 0 => ([], 0)
  | k + 1 => if s.data.toList[k]? = some c then ((cutSt s c k).1 ++ [s.extract (cutSt s c k).2 k], k + 1) else cutSt s c k
def splitOf (s : ByteArray) (c : UInt8) : List ByteArray := (cutSt s c s.size).1 ++ [s.extract (cutSt s c s.size).2 s.size]

theorem cutSt_le (s : ByteArray) (c : UInt8) (k : Nat) : (cutSt s c k).1.length ≤ k ∧ (cutSt s c k).2 ≤ k := by
  induction k with
  | zero => simp [cutSt]
  | succ k ih =>
    simp only [cutSt]
    split
    · simp; omega
    · omega
theorem cutSt_hit (s : ByteArray) (c : UInt8) (k : Nat) (hk : k < s.size) (h : s[k] = c) : cutSt s c (k + 1) = ((cutSt s c k).1 ++ [s.extract (cutSt s c k).2 k], k + 1) := by
  simp only [cutSt]; rw [if_pos (by rw [byte_at s k hk, h])]
theorem cutSt_miss (s : ByteArray) (c : UInt8) (k : Nat) (hk : k < s.size) (h : s[k] ≠ c) : cutSt s c (k + 1) = cutSt s c k := by
  simp only [cutSt]; rw [if_neg (by rw [byte_at s k hk]; intro e; exact h (Option.some.inj e))]

theorem infoStr : (Tryd.prog.info? 9).map (fun i => (i.zero, i.size, i.bytes)) = some (some (.string ByteArray.empty), 1, 16) := by kernel_rfl

/-- A slice of texts of the call's own. -/
def Texts (B : Nat) (v : Value) (l : List ByteArray) (w : World) : Prop := w.ownsRow B 9 1 v l.length (l.map Value.string)
def SplitEnd (l : List ByteArray) (w : World) (e : Ending) (w' : World) : Prop := ∃ v, e = .returned v ∧ Texts w.heap.size v l w' ∧ Below w.heap.size w w'

theorem texts_snoc {B : Nat} {v : Value} {l : List ByteArray} {x : ByteArray} {w : World} (h : w.ownsRow B 9 1 v (l.length + 1) (l.map Value.string ++ [.string x])) : Texts B v (l ++ [x]) w := by
  unfold Texts; simpa using h
set_option maxHeartbeats 1000000 in
theorem specSplit (s : ByteArray) (c : UInt8) (n : Int) (hn : (c.toNat : Int) = n) (w : World) (hs : s.size ≤ 8000) :
    Calls Tryd.prog 35 #[.string s, .int .u8 n] w (SplitEnd (splitOf s c) w) := by
  subst hn
  obtain ⟨i0, hi, hz0, hz1, hz2⟩ := info_parts infoStr
  go_enter Tryd.func35, Tryd.ntmps35
  go_wp2
  go_loopw [5, 6, 7] (fun out fr i wr => ∃ (k f : Nat) (done : List ByteArray), k ≤ s.size ∧ i = .int .i64 k ∧ Hid (cutSt s c k = (done, f)) ∧ fr = .int .i64 f ∧ Texts w.heap.size out done wr ∧ Below w.heap.size w wr) (fun _ _ i _ => s.size - (intOf i).toNat)
  case atStart => exact ⟨0, 0, [], Nat.zero_le _, rfl, rfl, rfl, World.ownsRow_made w #[] 0 (Nat.le_refl _) (by decide) rfl, (Below.refl _ _).alloc (Nat.le_refl _) _⟩
  case round =>
    obtain ⟨k, f, done, hk, rfl, HC, rfl, HT, hb⟩ := hrel
    have hle := cutSt_le s c k
    rw [HC.out] at hle
    obtain ⟨hl1, hl2⟩ := hle
    have hl1' : done.length ≤ k := hl1
    have hl2' : f ≤ k := hl2
    clear hl1 hl2
    have hown := HT
    unfold Texts at hown
    clear HT
    have hsz := hb.size
    by_cases hlt : k < s.size
    · by_cases hc : s[k] = c
      · have hnext := cutSt_hit s c k hlt hc
        rw [HC.out] at hnext
        have HN := Lib.hid hnext
        clear hnext
        have hceq : ((s[k].toNat : Int) == (c.toNat : Int)) = true := by rw [hc]; simp
        clear hc
        go_wp2_with (at_builtin; refine wpList_append_own _ rfl _ _ 44 rfl w.heap.size 9 i0 (.string ByteArray.empty) 1 16 Tryd.underlying44 hi hz0 hz1 hz2 rfl (by decide) _ _ _ rfl (hown.alloc _) ⟨wr.heap.size, 0, none⟩ 1 1 [.string (s.extract f k)] rfl rfl (cell_one_new _ _ _) (fun x hx => by simp at hx; subst hx; rfl) (by unfold maxLen; omega) (by omega) (by simp; omega) ?_; intro v' w3 hown' hgrow3 hnil3)
        go_roundw
        case rel => exact ⟨k + 1, k + 1, done ++ [s.extract f k], by omega, by go_num, HN.out, by go_num, texts_snoc hown', (hb.alloc hb.size _).grown hgrow3 (by simp; omega) (fun q hq => (hown.lt q hq).1)⟩
        case measure => simp [intOf]; omega
      · have hnext := cutSt_miss s c k hlt hc
        rw [HC.out] at hnext
        have HN := Lib.hid hnext
        have hne : ((s[k].toNat : Int) == (c.toNat : Int)) = false := by
          rw [beq_eq_false_iff_ne]; intro h; exact hc (UInt8.toNat_inj.1 (by omega))
        clear hnext hc
        go_wp2
        go_roundw
        case rel => exact ⟨k + 1, f, done, by omega, by go_num, HN.out, rfl, hown, hb⟩
        case measure => simp [intOf]; omega
    · obtain rfl : k = s.size := by omega
      go_wp2_with (at_builtin; refine wpList_append_own _ rfl _ _ 44 rfl w.heap.size 9 i0 (.string ByteArray.empty) 1 16 Tryd.underlying44 hi hz0 hz1 hz2 rfl (by decide) _ _ _ rfl (hown.alloc _) ⟨wr.heap.size, 0, none⟩ 1 1 [.string (s.extract f s.size)] rfl rfl (cell_one_new _ _ _) (fun x hx => by simp at hx; subst hx; rfl) (by unfold maxLen; omega) (by omega) (by simp; omega) ?_; intro v' w3 hown' hgrow3 hnil3)
      go_ret
      exact ⟨v', rfl, by unfold splitOf; rw [HC.out]; exact texts_snoc hown', (hb.alloc hb.size _).grown hgrow3 (by simp; omega) (fun q hq => (hown.lt q hq).1)⟩
end Go.Proofs.YtopdaocamjfbdaaDoor
