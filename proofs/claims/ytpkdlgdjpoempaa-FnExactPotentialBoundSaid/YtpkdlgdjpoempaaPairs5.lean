/- Slices of pairs, and Graphs, compared with their like. -/
import Derived.Test.YtpkdlgdjpoempaaPairs3
import Derived.Test.YtpkdlgdjpoempaaPairs4
namespace Go.Proofs.Ytpkdlgdjpoempaa
open Go.RowKit
set_option linter.unusedVariables false

set_option maxHeartbeats 1000000 in
theorem eqPairs (w : World) (a1 a2 : Option Addr) (l : List (Int × Int)) (c1 c2 : Nat) (h1 : PairsAt w a1 l) (h2 : PairsAt w a2 l) (hl : l.length ≤ 9223372036854775807) :
    Calls Try.prog 43 #[.slice a1 l.length c1, .slice a2 l.length c2] w fun e w' => e = .returned (.bool true) ∧ Below w.heap.size w w' := by
  have H1 := Lib.hid h1
  have H2 := Lib.hid h2
  clear h1 h2
  go_enter Try.func43, Try.ntmps43
  go_wp2
  go_loopw [5] (fun i wr => ∃ k : Nat, k ≤ l.length ∧ i = .int .i64 k ∧ Below w.heap.size w wr) (fun i _ => l.length - (intOf i).toNat)
  case atStart => exact ⟨0, Nat.zero_le _, rfl, Below.refl _ _⟩
  case round =>
    obtain ⟨k, hk, rfl, hb⟩ := hrel
    by_cases hlt : k < l.length
    · obtain ⟨x, hx⟩ : ∃ x, l[k]? = some x := ⟨_, List.getElem?_eq_getElem hlt⟩
      obtain ⟨b1, o1, rfl, _, hp1, hq1⟩ := (H1.out.below hb (Nat.le_refl _)).cellAt hx
      obtain ⟨b2, o2, rfl, _, hp2, hq2⟩ := (H2.out.below hb (Nat.le_refl _)).cellAt hx
      have p1 := cell_regrown hp1
      have q1 := cell_regrown hq1
      have p2 := cell_regrown hp2
      have q2 := cell_regrown hq2
      have hk0 : (0 : Int) ≤ (k : Int) := by omega
      have hkl : (k : Int) < (l.length : Int) := by omega
      have cM := fun W => eqPair W x x
      simp only [decide_true] at cM
      obtain ⟨x0, x1⟩ := x
      unfold two at cM
      simp only at *
      clear hx hp1 hp2 hq1 hq2
      go_wp2_with fail
      refine wp_region_quiet_below (by kernel_rfl) (by kernel_rfl) ?_
      repeat (quiet_step ((go_at_call 72; exact Calls.regrown_of (cM _))))
      refine wpQuiet_nil ?_
      intro _ hw'
      obtain ⟨⟨dq, osq⟩, hw''⟩ := hw'
      subst hw''
      go_wp2
      go_roundw
      case rel => exact ⟨k + 1, by omega, by go_num, hb.trans ((below_regrown wr dq osq).mono hb.size)⟩
      case measure => simp [intOf]; omega
    · go_wp2
      go_ret
      exact ⟨rfl, hb⟩
end Go.Proofs.Ytpkdlgdjpoempaa
