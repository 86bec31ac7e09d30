/- The walks of VerifyChecksum. -/
import Derived.Test.YtopdaocamjfbdaaDoorSeal
import Derived.Test.YtopdaocamjfbdaaDoorCut
namespace Go.Proofs.YtopdaocamjfbdaaDoor
open Go.RowKit
set_option linter.unusedVariables false

/-- s is the sealed form of its head. -/
def Sealed (s : ByteArray) : Prop := sealText (headOf s 35) = s ∧ s.size ≤ 4000
theorem sealed_able (s : ByteArray) (h : Sealed s) : Sealable (headOf s 35) := by
  have h1 := head_size s 35
  exact ⟨Nat.le_trans h1 h.2, head_free s 35, by rw [h.1]; exact h.2⟩
theorem able_ne (s : ByteArray) (h : ¬ Sealed s) (ha : Sealable (headOf s 35)) : ((sealText (headOf s 35)).toList == s.toList) = false := by
  rw [beq_eq_false_iff_ne]
  intro he
  rw [ByteArray.toList_eq, ByteArray.toList_eq] at he
  have e : sealText (headOf s 35) = s := ByteArray.ext (Array.ext' he)
  exact h ⟨e, by rw [← e]; exact ha.2.2⟩
theorem text_eq (a : ByteArray) (s : ByteArray) (h : a = s) : (a.toList == s.toList) = true := by rw [h]; simp
theorem text_neq (a : ByteArray) (s : ByteArray) (h : a ≠ s) : (a.toList == s.toList) = false := by
  rw [beq_eq_false_iff_ne]
  intro he
  rw [ByteArray.toList_eq, ByteArray.toList_eq] at he
  exact h (ByteArray.ext (Array.ext' he))

set_option maxHeartbeats 1000000 in
theorem implVerifyYes (s : ByteArray) (w : World) (ht : Tab w) (h : Sealed s) :
    Calls Tryd.prog 18 #[.string s] w fun e w' => e = .returned (.tuple #[.string (headOf s 35), .bool true]) ∧ Below w.heap.size w w' := by
  have hs := h.2
  have hab := sealed_able s h
  have C := Lib.hid (stringsCut s w (by omega))
  have D := Lib.hid fun W (hW : Tab W) => implAppendYes (headOf s 35) W hW hab.1 hab.2.1 hab.2.2
  have he := text_eq _ _ h.1
  clear hab h
  go_enter Tryd.func18, Tryd.ntmps18
  go_wp2_with fail
  refine C.out.mono ?_
  rintro e w' ⟨r, f, rfl, q, rfl⟩
  go_wp2_with fail
  refine (D.out _ (ht.below (Go.below_drewN (Below.refl _ _) q))).mono ?_
  rintro e w1 ⟨rfl, hb1⟩
  go_wp2
  go_ret2
  exact ⟨rfl, (Go.below_drewN (Below.refl _ _) q).trans hb1⟩

set_option maxHeartbeats 1000000 in
theorem implVerifyNo (s : ByteArray) (w : World) (ht : Tab w) (hs : s.size ≤ 9223372036854775806) (h : ¬ Sealed s) :
    Calls Tryd.prog 18 #[.string s] w fun e w' => e = .returned (.tuple #[.string ⟨#[]⟩, .bool false]) ∧ Below w.heap.size w w' := by
  have C := Lib.hid (stringsCut s w hs)
  have hh := head_size s 35
  by_cases hab : Sealable (headOf s 35)
  · have D := Lib.hid fun W (hW : Tab W) => implAppendYes (headOf s 35) W hW hab.1 hab.2.1 hab.2.2
    have he := able_ne s h hab
    clear hab h
    go_enter Tryd.func18, Tryd.ntmps18
    go_wp2_with fail
    refine C.out.mono ?_
    rintro e w' ⟨r, f, rfl, q, rfl⟩
    go_wp2_with fail
    refine (D.out _ (ht.below (Go.below_drewN (Below.refl _ _) q))).mono ?_
    rintro e w1 ⟨rfl, hb1⟩
    go_wp2
    go_ret2
    exact ⟨rfl, (Go.below_drewN (Below.refl _ _) q).trans hb1⟩
  · have D := Lib.hid fun W (hW : Tab W) => implAppendNo (headOf s 35) W hW (by omega) hab
    clear hab h
    go_enter Tryd.func18, Tryd.ntmps18
    go_wp2_with fail
    refine C.out.mono ?_
    rintro e w' ⟨r, f, rfl, q, rfl⟩
    go_wp2_with fail
    refine (D.out _ (ht.below (Go.below_drewN (Below.refl _ _) q))).mono ?_
    rintro e w1 ⟨rfl, hb1⟩
    go_wp2
    go_ret2
    exact ⟨rfl, (Go.below_drewN (Below.refl _ _) q).trans hb1⟩

/-- The first text of a slice of texts of the call's own. -/
theorem texts_first {B : Nat} {v : Value} {x : ByteArray} {r : List ByteArray} {w : World} (h : Texts B v (x :: r) w) :
    ∃ g cap, v = .slice (some ⟨g, 0, none⟩) (r.length + 1) cap ∧ w.cell? ⟨g, 0, none⟩ = some (.string x) := by
  rcases h.2 with ⟨_, h0⟩ | ⟨g, cap, cur, hv, hg, hh, hn, hc, hs, ht⟩
  · simp at h0
  · refine ⟨g, cap, hv, ?_⟩
    have := h.cells (g := g) (by rw [hv]; rfl) 0 (.string x) rfl
    simpa [Addr.add] using this

set_option maxHeartbeats 1000000 in
theorem specVerify (s : ByteArray) (w : World) (hs : s.size ≤ 4000) (yes : Bool) (h : ((sealText (headOf s 35)).toList == s.toList) = yes) :
    Calls Tryd.prog 20 #[.string s] w fun e w' => e = .returned (.tuple #[.string (if yes then headOf s 35 else ⟨#[]⟩), .bool yes]) ∧ Below w.heap.size w w' := by
  obtain ⟨r, hr⟩ := split_head s 35
  have c := specSplit s 35 35 rfl w (by omega)
  rw [hr] at c
  have C := Lib.hid c
  have hh := head_size s 35
  have D := Lib.hid fun W => specSeal (headOf s 35) W (by omega)
  clear hr c
  go_enter Tryd.func20, Tryd.ntmps20
  go_wp2_with fail
  refine C.out.mono ?_
  rintro e w1 ⟨v, rfl, hT, hb⟩
  obtain ⟨g, cap, rfl, hcell⟩ := texts_first hT
  have hpos : (0 : Int) < ((r.length + 1 : Nat) : Int) := by omega
  go_wp2_with fail
  refine (D.out _).mono ?_
  rintro e w2 ⟨rfl, q, rfl⟩
  cases yes
  · go_wp2
    go_ret2
    exact ⟨rfl, Go.below_drewN hb q⟩
  · go_wp2
    go_ret2
    exact ⟨rfl, Go.below_drewN hb q⟩

theorem specVerifyBig (s : ByteArray) (w : World) (h0 : ¬ s.size ≤ 4000) (hs : s.size ≤ 9223372036854775806) :
    Calls Tryd.prog 20 #[.string s] w fun e w' => e = .returned (.tuple #[.string ⟨#[]⟩, .bool false]) ∧ Below w.heap.size w w' := by
  go_enter Tryd.func20, Tryd.ntmps20
  go_wp2
  go_ret2
  exact ⟨rfl, Below.refl _ _⟩
theorem specVerifyYes (s : ByteArray) (w : World) (h : Sealed s) :
    Calls Tryd.prog 20 #[.string s] w fun e w' => e = .returned (.tuple #[.string (headOf s 35), .bool true]) ∧ Below w.heap.size w w' :=
  specVerify s w h.2 true (text_eq _ _ h.1)
theorem specVerifyNo (s : ByteArray) (w : World) (hs : s.size ≤ 9223372036854775806) (h : ¬ Sealed s) :
    Calls Tryd.prog 20 #[.string s] w fun e w' => e = .returned (.tuple #[.string ⟨#[]⟩, .bool false]) ∧ Below w.heap.size w w' := by
  by_cases h0 : s.size ≤ 4000
  · exact specVerify s w h0 false (text_neq _ _ fun e => h ⟨e, h0⟩)
  · exact specVerifyBig s w h0 hs

theorem FnExactVerifyChecksum_walk (a0 : ByteArray) (w0 : a0.size ≤ maxLen) (w : World) (ht : Tab w) :
    Calls Tryd.prog 7 #[.string a0] w fun e w' => e = .returned (.bool true) ∧ Below w.heap.size w w' := by
  unfold maxLen at w0
  by_cases hbig : a0.size ≤ 1048576
  · by_cases hyes : Sealed a0
    · have H := Lib.hid hyes
      clear hyes
      go_enter Tryd.func7, Tryd.ntmps7
      go_wp2_with fail
      refine (specVerifyYes a0 w H.out).mono ?_
      rintro e w1 ⟨rfl, hb1⟩
      go_wp2_with fail
      refine (implVerifyYes a0 w1 (ht.below hb1) H.out).mono ?_
      rintro e w2 ⟨rfl, hb2⟩
      go_wp2
      go_ret
      exact ⟨rfl, hb1.trans (hb2.mono hb1.size)⟩
    · have H := Lib.hid hyes
      clear hyes
      go_enter Tryd.func7, Tryd.ntmps7
      go_wp2_with fail
      refine (specVerifyNo a0 w (by omega) H.out).mono ?_
      rintro e w1 ⟨rfl, hb1⟩
      go_wp2_with fail
      refine (implVerifyNo a0 w1 (ht.below hb1) (by omega) H.out).mono ?_
      rintro e w2 ⟨rfl, hb2⟩
      go_wp2
      go_ret
      exact ⟨rfl, hb1.trans (hb2.mono hb1.size)⟩
  · go_enter Tryd.func7, Tryd.ntmps7
    go_wp2
    go_ret
    exact ⟨rfl, Below.refl _ _⟩

end Go.Proofs.YtopdaocamjfbdaaDoor
