/- Spaces: the walks of the laws' helpers over them. -/
import Derived.Test.YtpkdlgdjpoempaaGraph
import Derived.Test.YtpkdlgdjpoempaaGridCopy
namespace Go.Proofs.Ytpkdlgdjpoempaa
open Go.RowKit
set_option linter.unusedVariables false

abbrev spaceV (s e : Value) : Value := .agg #[s, e]
theorem sizeSpace : (Try.prog.info? 28).map (·.size) = some 2 := by kernel_rfl

def SzSpace (l : List (List Int)) (m : Nat) (left : Int) (w : World) (e : Ending) (w' : World) : Prop := ∃ r : Int, e = .returned (.int .i64 r) ∧ (r = -1 ∨ (0 ≤ r ∧ r + l.length + totI l + m = left)) ∧ Below w.heap.size w w'
set_option maxHeartbeats 1000000 in
theorem szSpace (w : World) (a : Option Addr) (l : List (List Int)) (cap : Nat) (a' : Option Addr) (m cap' : Nat) (left : Int) (h0 : 0 ≤ left) (h1 : left ≤ 1048576) (h : GridAt w a l) (hl : l.length ≤ 9223372036854775807) (hm : ∀ s ∈ l, s.length ≤ 9223372036854775807) (hn : m ≤ 9223372036854775807) :
    Calls Try.prog 11 #[spaceV (.slice a l.length cap) (.slice a' m cap'), .int .i64 left] w (SzSpace l m left w) := by
  have C1 : Hid (∀ W, Below w.heap.size w W → Calls Try.prog 35 #[.slice a l.length cap, .int .i64 left] W (SzGrid l left W)) := fun W hb => szRows W a l cap left h0 h1 (h.below hb (Nat.le_refl _)) hl hm
  have C2 : Hid (∀ r W, 0 ≤ r → r ≤ 1048576 → Calls Try.prog 36 #[.slice a' m cap', .int .i64 r] W fun e w' => e = .returned (.int .i64 (if (m : Int) ≤ r then r - m else -1)) ∧ w' = W) := fun r W h0 h1 => szPairs W a' m cap' r h0 h1 hn
  have hB : Hid (∀ o, Below w.heap.size w (w.alloc o)) := fun o => (Below.refl _ _).alloc (Nat.le_refl _) _
  clear h hm
  go_enter Try.func11, Try.ntmps11
  go_wp2_with fail
  refine (C1.out _ (hB.out _)).mono ?_
  rintro e w2 ⟨r, rfl, hr, rfl⟩
  rcases hr with rfl | ⟨hr0, hr1⟩
  · go_wp2
    go_ret
    exact ⟨-1, rfl, .inl rfl, hB.out _⟩
  · have hrl : r ≤ 1048576 := by omega
    have C := C2.out r
    have HR := Lib.hid hr1
    clear hr1
    by_cases hx : (m : Int) ≤ r
    · simp only [if_pos hx] at C
      have C := Lib.hid C
      go_wp2_with fail
      refine (C.out _ hr0 hrl).mono ?_
      rintro e w3 ⟨rfl, rfl⟩
      go_wp2
      go_ret
      exact ⟨_, rfl, .inr ⟨by omega, by have := HR.out; omega⟩, hB.out _⟩
    · simp only [if_neg hx] at C
      have C := Lib.hid C
      go_wp2_with fail
      refine (C.out _ hr0 hrl).mono ?_
      rintro e w3 ⟨rfl, rfl⟩
      go_wp2
      go_ret
      exact ⟨-1, rfl, .inl rfl, hB.out _⟩

set_option maxHeartbeats 1000000 in
theorem eqSpace (w : World) (a1 a2 b1 b2 : Option Addr) (l : List (List Int)) (m : List (Int × Int)) (c1 c2 d1 d2 : Nat) (h1 : GridAt w a1 l) (h2 : GridAt w a2 l) (k1 : PairsAt w b1 m) (k2 : PairsAt w b2 m)
    (hl : l.length ≤ 9223372036854775807) (hm : ∀ s ∈ l, s.length ≤ 9223372036854775807) (hn : m.length ≤ 9223372036854775807) :
    Calls Try.prog 15 #[spaceV (.slice a1 l.length c1) (.slice b1 m.length d1), spaceV (.slice a2 l.length c2) (.slice b2 m.length d2)] w fun e w' => e = .returned (.bool true) ∧ Below w.heap.size w w' := by
  have C1 : Hid (∀ W, Below w.heap.size w W → Calls Try.prog 42 #[.slice a1 l.length c1, .slice a2 l.length c2] W fun e w' => e = .returned (.bool true) ∧ Below W.heap.size W w') :=
    fun W hb => eqRows W a1 a2 l c1 c2 (h1.below hb (Nat.le_refl _)) (h2.below hb (Nat.le_refl _)) hl hm
  have C2 : Hid (∀ W, Below w.heap.size w W → Calls Try.prog 43 #[.slice b1 m.length d1, .slice b2 m.length d2] W fun e w' => e = .returned (.bool true) ∧ Below W.heap.size W w') :=
    fun W hb => eqPairs W b1 b2 m d1 d2 (k1.below hb (Nat.le_refl _)) (k2.below hb (Nat.le_refl _)) hn
  have HB : Hid (∀ o1 o2, Below w.heap.size w ((w.alloc o1).alloc o2)) := fun o1 o2 => ((Below.refl _ _).alloc (Nat.le_refl _) _).alloc (by simp) _
  have HZ : Hid (∀ o1 o2 : Obj, w.heap.size + 1 + 1 = ((w.alloc o1).alloc o2).heap.size) := fun o1 o2 => by simp
  clear h1 h2 k1 k2 hm
  go_enter Try.func15, Try.ntmps15
  go_wp2_with fail
  refine (C1.out _ (HB.out _ _)).mono ?_
  rintro e w2 ⟨rfl, hb2⟩
  have hb3 := (HB.out _ _).trans (hb2.mono (by simp; omega))
  have j1 := hb2.cell (p := ⟨w.heap.size, 1, none⟩) (by simp; omega)
  have j2 := hb2.cell (p := ⟨w.heap.size + 1, 1, none⟩) (by simp)
  simp at j1 j2
  clear hb2
  go_wp2_with fail
  refine (C2.out _ hb3).mono ?_
  rintro e w3 ⟨rfl, hb4⟩
  have hb5 := hb3.trans (hb4.mono hb3.size)
  go_wp2
  go_ret
  exact ⟨rfl, hb5⟩
end Go.Proofs.Ytpkdlgdjpoempaa
