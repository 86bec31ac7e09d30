/- Both answers of JoinStrings for every separator, and the law of JoinStrings. -/
import Derived.Test.YtopdaocamjfbdaaJoin2
namespace Go.Proofs.Ytopdaocamjfbdaa
open Go.RowKit
set_option linter.unusedVariables false

open Classical in
/-- What JoinStrings answers. -/
noncomputable def joinRes (l : List ByteArray) (sep : ByteArray) : ByteArray × Bool := if ∃ c, sep = ⟨#[c]⟩ ∧ Joinable l c then (joinText l sep, true) else (⟨#[]⟩, false)
def JoinSays (l : List ByteArray) (sep : ByteArray) (w : World) (e : Ending) (w' : World) : Prop := e = .returned (.tuple #[.string (joinRes l sep).1, .bool (joinRes l sep).2]) ∧ Below w.heap.size w w'
theorem says_of_end {l : List ByteArray} {c : UInt8} {w w' : World} {e : Ending} (h : JoinEnd l c w e w') : JoinSays l ⟨#[c]⟩ w e w' := by
  rcases h with ⟨⟨hj, rfl⟩ | ⟨hj, rfl⟩, hb⟩
  · refine ⟨?_, hb⟩; unfold joinRes; rw [if_pos ⟨c, rfl, hj⟩]
  · refine ⟨?_, hb⟩
    unfold joinRes
    rw [if_neg ?_]
    rintro ⟨d, hd, hj'⟩
    have e : c = d := by injection hd with hd; injection hd with hd; injection hd
    subst e; exact hj hj'
theorem says_nil {l : List ByteArray} {sep : ByteArray} {w : World} (h : l = [] ∨ sep.size ≠ 1) : JoinSays l sep w (.returned (.tuple #[.string ⟨#[]⟩, .bool false])) w := by
  refine ⟨?_, Below.refl _ _⟩
  unfold joinRes
  rw [if_neg ?_]
  rintro ⟨d, rfl, hj⟩
  rcases h with h | h
  · exact hj.1 h
  · exact h rfl
theorem one_byte (sep : ByteArray) (h : sep.size = 1) : ∃ c, sep = ⟨#[c]⟩ := by
  rcases sep with ⟨⟨l⟩⟩
  match l, h with
  | [c], _ => exact ⟨c, rfl⟩
  | [], h => simp [ByteArray.size] at h
  | _ :: _ :: _, h => simp [ByteArray.size] at h

theorem specJoinSep (w : World) (a : Option Addr) (n cap : Nat) (sep : ByteArray) (h1 : ((sep.size : Int) == 1) = false) (h2 : ((sep.size : Int) != 1) = true) :
    Calls Try.prog 13 #[.slice a n cap, .string sep] w fun e w' => e = .returned (.tuple #[.string ⟨#[]⟩, .bool false]) ∧ w = w' := by
  go_enter Try.func13, Try.ntmps13
  go_wp2
  go_ret2
  exact ⟨rfl, rfl⟩
theorem specJoinNil (w : World) (a : Option Addr) (cap : Nat) (c : UInt8) :
    Calls Try.prog 13 #[.slice a 0 cap, .string ⟨#[c]⟩] w fun e w' => e = .returned (.tuple #[.string ⟨#[]⟩, .bool false]) ∧ w = w' := by
  go_enter Try.func13, Try.ntmps13
  go_wp2
  go_ret2
  exact ⟨rfl, rfl⟩
theorem implJoinNil (w : World) (a : Option Addr) (cap : Nat) (sep : ByteArray) :
    Calls Try.prog 12 #[.slice a 0 cap, .string sep] w fun e w' => e = .returned (.tuple #[.string ⟨#[]⟩, .bool false]) ∧ w = w' := by
  go_enter Try.func12, Try.ntmps12
  go_wp2
  go_ret2
  exact ⟨rfl, rfl⟩
theorem implJoinSep (w : World) (a : Option Addr) (n cap : Nat) (sep : ByteArray) (hn : ((n : Int) == 0) = false) (h1 : ((sep.size : Int) == 1) = false) (h2 : ((sep.size : Int) != 1) = true) :
    Calls Try.prog 12 #[.slice a n cap, .string sep] w fun e w' => e = .returned (.tuple #[.string ⟨#[]⟩, .bool false]) ∧ w = w' := by
  go_enter Try.func12, Try.ntmps12
  go_wp2
  go_ret2
  exact ⟨rfl, rfl⟩

theorem specJoinAll (w : World) (a : Option Addr) (l : List ByteArray) (cap : Nat) (sep : ByteArray) (h : TextsAt w a l) (hl : l.length ≤ 1048576) (hm : ∀ x ∈ l, x.size ≤ 1048576) :
    Calls Try.prog 13 #[.slice a l.length cap, .string sep] w (JoinSays l sep w) := by
  by_cases hs : sep.size = 1
  · obtain ⟨c, rfl⟩ := one_byte sep hs
    by_cases h0 : l = []
    · subst h0; exact (specJoinNil w a cap c).mono fun e w' ⟨he, hw⟩ => by subst he hw; exact says_nil (.inl rfl)
    · exact (specJoin w a l cap c h hl hm (List.length_pos_iff.2 h0)).mono fun e w' hh => says_of_end hh
  · exact (specJoinSep w a l.length cap sep (by rw [beq_eq_false_iff_ne]; omega) (by rw [bne_iff_ne]; omega)).mono fun e w' ⟨he, hw⟩ => by subst he hw; exact says_nil (.inr hs)
theorem implJoinAll (w : World) (a : Option Addr) (l : List ByteArray) (cap : Nat) (sep : ByteArray) (h : TextsAt w a l) (hcap : l.length ≤ cap) (hl : l.length ≤ 1048576) (hm : ∀ x ∈ l, x.size ≤ 1048576) :
    Calls Try.prog 12 #[.slice a l.length cap, .string sep] w (JoinSays l sep w) := by
  by_cases h0 : l = []
  · subst h0; exact (implJoinNil w a cap sep).mono fun e w' ⟨he, hw⟩ => by subst he hw; exact says_nil (.inl rfl)
  · by_cases hs : sep.size = 1
    · obtain ⟨c, rfl⟩ := one_byte sep hs
      exact (implJoin w a l cap c h hcap hl hm (List.length_pos_iff.2 h0)).mono fun e w' hh => says_of_end hh
    · have hp := List.length_pos_iff.2 h0
      exact (implJoinSep w a l.length cap sep (by rw [beq_eq_false_iff_ne]; omega) (by rw [beq_eq_false_iff_ne]; omega) (by rw [bne_iff_ne]; omega)).mono fun e w' ⟨he, hw⟩ => by subst he hw; exact says_nil (.inr hs)

theorem below_step {w w1 w2 : World} (h1 : Below w.heap.size w w1) (h2 : Below w1.heap.size w1 w2) : Below w.heap.size w w2 := h1.trans (h2.mono h1.size)
theorem le_tot {l : List ByteArray} {x : ByteArray} (h : x ∈ l) : x.size ≤ tot l := by
  induction l with
  | nil => cases h
  | cons y r ih =>
    have e : tot (y :: r) = y.size + tot r := by simp [tot]
    rcases List.mem_cons.1 h with rfl | h
    · omega
    · have := ih h; omega

set_option maxHeartbeats 2000000 in
theorem FnExactJoinStrings_walk (a0 : Option Addr) (l0 c0 : Nat) (z0 : List ByteArray) (a1 : ByteArray) (w : World) (w0 : IsTexts w a0 l0 c0 z0) (w1 : a1.size ≤ maxLen) :
    Calls Try.prog 5 #[.slice a0 l0 c0, .string a1] w fun e w' => e = .returned (.bool true) ∧ Below w.heap.size w w' := by
  unfold maxLen at w1
  obtain ⟨l, rfl, hat, hm, hlm⟩ := textsAt_of w0
  unfold maxLen at hm hlm
  have HM := Lib.hid hm
  have HA := Lib.hid hat
  clear hm hat w0
  by_cases hbig : a1.size ≤ 1048576
  · go_enter Try.func5, Try.ntmps5
    go_wp2_with fail
    refine (szTexts w a0 l c0 HA.out hlm HM.out).mono ?_
    rintro e w' ⟨r, rfl, hr, rfl⟩
    rcases hr with rfl | ⟨hr0, hr1⟩
    · go_wp2
      go_ret
      exact ⟨rfl, Below.refl _ _⟩
    · have hl2 : l.length ≤ 1048576 := by omega
      have HM2 : Hid (∀ x ∈ l, x.size ≤ 1048576) := fun x hx => by have := le_tot hx; omega
      clear hr1
      go_wp2_with fail
      refine (copyTexts w a0 l c0 HA.out hl2).mono ?_
      rintro e w2 ⟨v2, rfl, hown2, hb2⟩
      obtain ⟨a2, c2, rfl, hat2, hc2⟩ := hown2.at
      have HA2 := Lib.hid hat2
      clear hown2 hat2
      go_wp2_with fail
      refine (specJoinAll w2 a2 l c2 a1 HA2.out hl2 HM2.out).mono ?_
      rintro e w3 ⟨rfl, hb3⟩
      have hb3' := below_step hb2 hb3
      clear hb2 hb3 HA2
      go_wp2_with fail
      refine (copyTexts w3 a0 l c0 (HA.out.below hb3' (Nat.le_refl _)) hl2).mono ?_
      rintro e w4 ⟨v4, rfl, hown4, hb4⟩
      obtain ⟨a4, c4, rfl, hat4, hc4⟩ := hown4.at
      have HA4 := Lib.hid hat4
      clear hown4 hat4
      go_wp2_with fail
      refine (implJoinAll w4 a4 l c4 a1 HA4.out hc4 hl2 HM2.out).mono ?_
      rintro e w5 ⟨rfl, hb5⟩
      have hb5' := below_step hb3' (below_step hb4 hb5)
      generalize (joinRes l a1).1 = t
      generalize (joinRes l a1).2 = y
      go_wp2_with fail
      refine (copyTexts w5 a0 l c0 (HA.out.below hb5' (Nat.le_refl _)) hl2).mono ?_
      rintro e w6 ⟨v6, rfl, hown6, hb6⟩
      obtain ⟨a6, c6, rfl, hat6, hc6⟩ := hown6.at
      have HA6 := Lib.hid hat6
      have HA46 := Lib.hid (HA4.out.below (below_step hb5 hb6) (Nat.le_refl _))
      clear hown6 hat6
      go_wp2_with fail
      refine (eqTexts w6 a4 a6 l c4 c6 HA46.out HA6.out hlm).mono ?_
      rintro e w7 ⟨rfl, hb7⟩
      go_wp2
      go_ret
      exact ⟨rfl, below_step hb5' (below_step hb6 hb7)⟩
  · go_enter Try.func5, Try.ntmps5
    go_wp2
    go_ret
    exact ⟨rfl, Below.refl _ _⟩

end Go.Proofs.Ytopdaocamjfbdaa
