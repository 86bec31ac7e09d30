/- Both answers of SplitString for every separator, and the law of SplitString. -/
import Derived.Test.YtopdaocamjfbdaaSplit2
import Derived.Test.YtopdaocamjfbdaaJoin3
import Derived.Test.YtopdaocamjfbdaaHeld
namespace Go.Proofs.Ytopdaocamjfbdaa
open Go.RowKit
set_option linter.unusedVariables false

open Classical in
/-- What SplitString answers. -/
noncomputable def splitRes (s sep : ByteArray) : List ByteArray × Bool := if h : ∃ c, sep = ⟨#[c]⟩ ∧ s.size ≤ 4000 then (splitOf s (Classical.choose h), true) else ([], false)
theorem splitRes_yes (s : ByteArray) (c : UInt8) (hs : s.size ≤ 4000) : splitRes s ⟨#[c]⟩ = (splitOf s c, true) := by
  have h : ∃ d, (⟨#[c]⟩ : ByteArray) = ⟨#[d]⟩ ∧ s.size ≤ 4000 := ⟨c, rfl, hs⟩
  unfold splitRes
  rw [dif_pos h]
  have e := (Classical.choose_spec h).1
  have e' : c = Classical.choose h := by injection e with e; injection e with e; injection e
  rw [← e']
theorem splitRes_no (s sep : ByteArray) (h : sep.size ≠ 1 ∨ ¬ s.size ≤ 4000) : splitRes s sep = ([], false) := by
  unfold splitRes
  rw [dif_neg ?_]
  rintro ⟨c, rfl, hs⟩
  rcases h with h | h
  · exact h rfl
  · exact h hs
theorem splitRes_len (s sep : ByteArray) : (splitRes s sep).1.length ≤ 4001 := by
  by_cases h1 : sep.size = 1
  · by_cases h2 : s.size ≤ 4000
    · obtain ⟨c, rfl⟩ := one_byte sep h1
      rw [splitRes_yes s c h2]
      unfold splitOf; have := (cutSt_le s c s.size).1; simp; omega
    · rw [splitRes_no s sep (.inr h2)]; simp
  · rw [splitRes_no s sep (.inl h1)]; simp

/-- The answer's slice is the call's own. -/
def SplitSays (r : List ByteArray × Bool) (w : World) (e : Ending) (w' : World) : Prop :=
  ∃ g cap, e = .returned (.tuple #[.slice (some ⟨g, 0, none⟩) r.1.length cap, .bool r.2]) ∧ w'.ownsRow w.heap.size 9 1 (.slice (some ⟨g, 0, none⟩) r.1.length cap) r.1.length (r.1.map Value.string) ∧ Below w.heap.size w w'
theorem splitSays_of {s : ByteArray} {c : UInt8} {w w' : World} {v : Value} (hs : s.size ≤ 4000) (h : Texts w.heap.size v (splitOf s c) w') (hb : Below w.heap.size w w') :
    SplitSays (splitRes s ⟨#[c]⟩) w (.returned (.tuple #[v, .bool true])) w' := by
  rw [splitRes_yes s c hs]
  rcases h.2 with ⟨_, h0⟩ | ⟨g, cap, cur, rfl, _⟩
  · unfold splitOf at h0; simp at h0
  · exact ⟨g, cap, rfl, h, hb⟩
theorem splitSays_none {s sep : ByteArray} {w : World} (h : sep.size ≠ 1 ∨ ¬ s.size ≤ 4000) :
    SplitSays (splitRes s sep) w (.returned (.tuple #[.slice (some ⟨w.heap.size, 0, none⟩) 0 0, .bool false])) (w.alloc (.cells #[] 9)) := by
  rw [splitRes_no s sep h]
  exact ⟨_, _, rfl, World.ownsRow_made w #[] 0 (Nat.le_refl _) (by decide) rfl, (Below.refl _ _).alloc (Nat.le_refl _) _⟩

theorem implSplitYes (s : ByteArray) (c : UInt8) (hs : s.size ≤ 4000) (w : World) : Calls Try.prog 10 #[.string s, .string ⟨#[c]⟩] w (SplitSays (splitRes s ⟨#[c]⟩) w) :=
  (callsIn_wide.1 (implSplit_in 3 (by decide) s c hs w)).mono fun e w' ⟨v, he, hT, hb⟩ => by subst he; exact splitSays_of hs hT hb
theorem implSplitBig (s sep : ByteArray) (w : World) (h : ¬ s.size ≤ 4000) (hm : s.size ≤ 9223372036854775807) :
    Calls Try.prog 10 #[.string s, .string sep] w fun e w' => e = .returned (.tuple #[.slice (some ⟨w.heap.size, 0, none⟩) 0 0, .bool false]) ∧ w.alloc (.cells #[] 9) = w' := by
  go_enter Try.func10, Try.ntmps10
  go_wp2
  go_ret2
  exact ⟨rfl, rfl⟩
theorem implSplitSep (s sep : ByteArray) (w : World) (h : s.size ≤ 4000) (h1 : ((sep.size : Int) == 1) = false) (h2 : ((sep.size : Int) != 1) = true) :
    Calls Try.prog 10 #[.string s, .string sep] w fun e w' => e = .returned (.tuple #[.slice (some ⟨w.heap.size, 0, none⟩) 0 0, .bool false]) ∧ w.alloc (.cells #[] 9) = w' := by
  go_enter Try.func10, Try.ntmps10
  go_wp2
  go_ret2
  exact ⟨rfl, rfl⟩
theorem implSplitAll (s sep : ByteArray) (w : World) (hm : s.size ≤ 9223372036854775807) : Calls Try.prog 10 #[.string s, .string sep] w (SplitSays (splitRes s sep) w) := by
  by_cases hs : s.size ≤ 4000
  · by_cases h1 : sep.size = 1
    · obtain ⟨c, rfl⟩ := one_byte sep h1
      exact implSplitYes s c hs w
    · exact (implSplitSep s sep w hs (by rw [beq_eq_false_iff_ne]; omega) (by rw [bne_iff_ne]; omega)).mono fun e w' ⟨he, hw⟩ => by subst he hw; exact splitSays_none (.inl h1)
  · exact (implSplitBig s sep w hs hm).mono fun e w' ⟨he, hw⟩ => by subst he hw; exact splitSays_none (.inr hs)

theorem specSplitYes (s : ByteArray) (c : UInt8) (hs : s.size ≤ 4000) (w : World) : Calls Try.prog 17 #[.string s, .string ⟨#[c]⟩] w fun e w' => ∃ v, e = .returned (.tuple #[v, .bool true]) ∧ Texts w.heap.size v (splitOf s c) w' ∧ Below w.heap.size w w' := by
  go_enter Try.func17, Try.ntmps17
  go_wp2_with fail
  refine (specSplit s c _ rfl _ (by omega)).mono ?_
  rintro e w1 ⟨v, rfl, hT, hb⟩
  obtain ⟨g, cap, rfl⟩ : ∃ g cap, v = .slice (some ⟨g, 0, none⟩) (splitOf s c).length cap := by
    rcases hT.2 with ⟨_, h0⟩ | ⟨g, cap, cur, hv, _⟩
    · unfold splitOf at h0; simp at h0
    · exact ⟨g, cap, hv⟩
  go_wp2
  go_ret2
  exact ⟨_, rfl, hT, hb⟩
theorem specSplitSep (s sep : ByteArray) (w : World) (h1 : ((sep.size : Int) == 1) = false) (h2 : ((sep.size : Int) != 1) = true) :
    Calls Try.prog 17 #[.string s, .string sep] w fun e w' => e = .returned (.tuple #[.slice (some ⟨w.heap.size, 0, none⟩) 0 0, .bool false]) ∧ w.alloc (.cells #[] 9) = w' := by
  go_enter Try.func17, Try.ntmps17
  go_wp2
  go_ret2
  exact ⟨rfl, rfl⟩
theorem specSplitBig (s : ByteArray) (c : UInt8) (w : World) (h : ¬ s.size ≤ 4000) (hm : s.size ≤ 9223372036854775807) :
    Calls Try.prog 17 #[.string s, .string ⟨#[c]⟩] w fun e w' => e = .returned (.tuple #[.slice (some ⟨w.heap.size, 0, none⟩) 0 0, .bool false]) ∧ w.alloc (.cells #[] 9) = w' := by
  go_enter Try.func17, Try.ntmps17
  go_wp2
  go_ret2
  exact ⟨rfl, rfl⟩
theorem specSplitAll (s sep : ByteArray) (w : World) (hm : s.size ≤ 9223372036854775807) : Calls Try.prog 17 #[.string s, .string sep] w (SplitSays (splitRes s sep) w) := by
  by_cases h1 : sep.size = 1
  · obtain ⟨c, rfl⟩ := one_byte sep h1
    by_cases hs : s.size ≤ 4000
    · exact (specSplitYes s c hs w).mono fun e w' ⟨v, he, hT, hb⟩ => by subst he; exact splitSays_of hs hT hb
    · exact (specSplitBig s c w hs hm).mono fun e w' ⟨he, hw⟩ => by subst he hw; exact splitSays_none (.inr hs)
  · exact (specSplitSep s sep w (by rw [beq_eq_false_iff_ne]; omega) (by rw [bne_iff_ne]; omega)).mono fun e w' ⟨he, hw⟩ => by subst he hw; exact splitSays_none (.inl h1)

theorem at_of {B g cap : Nat} {l : List ByteArray} {w : World} (h : w.ownsRow B 9 1 (.slice (some ⟨g, 0, none⟩) l.length cap) l.length (l.map Value.string)) : TextsAt w (some ⟨g, 0, none⟩) l := by
  obtain ⟨a, c, hv, hat, _⟩ := OwnTexts.at (B := B) (v := .slice (some ⟨g, 0, none⟩) l.length cap) (l := l) (w := w) h
  injection hv with h1 h2 h3
  subst h1
  exact hat

set_option maxHeartbeats 2000000 in
theorem FnExactSplitString_walk (a0 a1 : ByteArray) (w0 : a0.size ≤ maxLen) (w1 : a1.size ≤ maxLen) (w : World) :
    Calls Try.prog 4 #[.string a0, .string a1] w fun e w' => e = .returned (.bool true) ∧ Below w.heap.size w w' := by
  unfold maxLen at w0 w1
  by_cases hb0 : a0.size ≤ 1048576
  · by_cases hb1 : a1.size ≤ 1048576
    · have hn := splitRes_len a0 a1
      have CS := Lib.hid fun W => specSplitAll a0 a1 W w0
      have CI := Lib.hid fun W => implSplitAll a0 a1 W w0
      generalize splitRes a0 a1 = r at *
      obtain ⟨l, b⟩ := r
      have hn' : l.length ≤ 4001 := hn
      clear hn
      go_enter Try.func4, Try.ntmps4
      go_wp2_with fail
      refine (CS.out _).mono ?_
      rintro e w2 ⟨g0, c0, rfl, ho0, hb2⟩
      have A0 := Lib.hid (at_of ho0)
      clear ho0
      go_wp2_with fail
      refine (CI.out _).mono ?_
      rintro e w3 ⟨g1, c1, rfl, ho1, hb3⟩
      have O1 := Lib.hid ho1
      clear ho1
      go_wp2_with fail
      refine (eqTexts w3 _ _ l c1 c0 (at_of O1.out) (A0.out.below hb3 (Nat.le_refl _)) (by omega)).mono ?_
      rintro e w4 ⟨rfl, hb4⟩
      have O2 := Lib.hid (O1.out.kept (grown_of_below hb4) (.inr (by simp [Value.ownBlock])))
      have h34 := below_step hb3 hb4
      clear O1
      go_wp2_with fail
      refine (markTexts w4 w2.heap.size g1 c1 l O2.out h34.size (by omega)).mono ?_
      rintro e w5 ⟨rfl, ho5, hb5⟩
      have hm5 : w5.ownsRow w2.heap.size 9 1 (.slice (some ⟨g1, 0, none⟩) (marks l.length).length c1) (marks l.length).length ((marks l.length).map Value.string) := by rw [marks_length]; exact ho5
      have A5 := Lib.hid (at_of hm5)
      have h25 := h34.trans hb5
      clear ho5 hm5 O2 hb5 h34
      go_wp2_with fail
      refine (heldTexts w5 _ l.length c1 A5.out (by omega)).mono ?_
      rintro e w6 ⟨rfl, hb6⟩
      go_wp2_with fail
      refine (CI.out _).mono ?_
      rintro e w7 ⟨g7, c7, rfl, ho7, hb7⟩
      have A7 := Lib.hid (at_of ho7)
      have h57 := below_step hb6 hb7
      have h27 := h25.trans (h57.mono h25.size)
      clear ho7
      go_wp2_with fail
      refine (eqTexts w7 _ _ l c7 c0 A7.out (A0.out.below h27 (Nat.le_refl _)) (by omega)).mono ?_
      rintro e w8 ⟨rfl, hb8⟩
      have h58 := below_step h57 hb8
      go_wp2_with fail
      refine (heldTexts w8 _ l.length c1 (A5.out.below h58 (Nat.le_refl _)) (by omega)).mono ?_
      rintro e w9 ⟨rfl, hb9⟩
      go_wp2
      go_ret
      exact ⟨rfl, below_step hb2 (h25.trans ((below_step h58 hb9).mono h25.size))⟩
    · go_enter Try.func4, Try.ntmps4
      go_wp2
      go_ret
      exact ⟨rfl, Below.refl _ _⟩
  · go_enter Try.func4, Try.ntmps4
    go_wp2
    go_ret
    exact ⟨rfl, Below.refl _ _⟩
end Go.Proofs.Ytopdaocamjfbdaa
