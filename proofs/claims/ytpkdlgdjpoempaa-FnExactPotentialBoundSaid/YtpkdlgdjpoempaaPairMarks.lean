/- The marks that the laws write into slices of pairs: written, and found again. -/
import Derived.Test.YtpkdlgdjpoempaaPairs2
import Derived.Test.YtpkdlgdjpoempaaIntMarks
namespace Go.Proofs.Ytpkdlgdjpoempaa
open Go.RowKit
set_option linter.unusedVariables false

def flatI (l : List (Int × Int)) : List Int := l.flatMap fun p => [p.1, p.2]
theorem flatI_vals (l : List (Int × Int)) : vals (flatI l) = flat2 l := by
  induction l with
  | nil => rfl
  | cons p l ih => show vals ([_, _] ++ flatI l) = [_, _] ++ flat2 l; rw [← ih]; rfl
theorem flatI_length (l : List (Int × Int)) : (flatI l).length = l.length * 2 := by
  have := congrArg List.length (flatI_vals l)
  rw [flat2_length] at this
  simpa [vals] using this
/-- A slice of pairs of the call's own that is marked. -/
def OwnPairMarks (B : Nat) (v : Value) (k0 : Int) (n : Nat) (w : World) : Prop := w.ownsRow B 67 2 v n (vals (marksI k0 (n * 2)))
/-- The marks lie at a slice's address. -/
def PairMarksAt (w : World) (a : Option Addr) (k0 : Int) (n : Nat) : Prop := n = 0 ∨ ∃ b o, a = some ⟨b, o, none⟩ ∧ b < w.heap.size ∧ ∀ j, j < n * 2 → w.cell? ⟨b, o + j, none⟩ = some (.int .i64 (k0 + (j : Int)))
theorem PairMarksAt.below {w w' : World} {a : Option Addr} {k0 : Int} {n : Nat} {B : Nat} (h : PairMarksAt w a k0 n) (hb : Below B w w') (hB : w.heap.size ≤ B) : PairMarksAt w' a k0 n := by
  rcases h with h | ⟨b, o, rfl, h1, h2⟩
  · exact .inl h
  · exact .inr ⟨b, o, rfl, Nat.lt_of_lt_of_le h1 hb.size, fun j hj => (hb.cell (p := ⟨b, o + j, none⟩) (Nat.lt_of_lt_of_le h1 hB)).trans (h2 j hj)⟩
theorem OwnPairMarks.at {B : Nat} {v : Value} {k0 : Int} {n : Nat} {w : World} (h : OwnPairMarks B v k0 n w) : ∃ a cap, v = .slice a n cap ∧ PairMarksAt w a k0 n ∧ n ≤ cap := by
  rcases h.2 with ⟨h1, h2⟩ | ⟨g, cap, cur, hv, hg, hh, hn, hc, hs, ht⟩
  · exact ⟨none, 0, by rw [h1, h2], .inl h2, by omega⟩
  · refine ⟨some ⟨g, 0, none⟩, cap, hv, .inr ⟨g, 0, rfl, ?_, fun j hj => ?_⟩, hn⟩
    · rcases Nat.lt_or_ge g w.heap.size with h' | h'
      · exact h'
      · rw [Array.getElem?_eq_none h'] at hh; cases hh
    · have := h.cells (g := g) (by rw [hv]; rfl) j (.int .i64 (k0 + (j : Int))) (by unfold vals; rw [List.getElem?_map, marksI_get k0 _ j hj]; rfl)
      rw [addI] at this
      exact this

set_option maxHeartbeats 1000000 in
theorem markPairs_some (w : World) (B g cap : Nat) (l : List (Int × Int)) (k0 : Int) (h0 : 0 ≤ k0) (h1 : k0 ≤ 4000000000000000000) (h : w.ownsRow B 67 2 (.slice (some ⟨g, 0, none⟩) l.length cap) l.length (flat2 l)) (hl : l.length ≤ 1000000000000000000) :
    Calls Try.prog 62 #[.slice (some ⟨g, 0, none⟩) l.length cap, .int .i64 k0] w fun e w' => e = .returned (.int .i64 (k0 + l.length * 2)) ∧
      OwnPairMarks B (.slice (some ⟨g, 0, none⟩) l.length cap) k0 l.length w' ∧ w.grownBy w' (some g) := by
  rw [← flatI_vals] at h
  have HO := Lib.hid h
  have hfl := flatI_length l
  clear h
  generalize flatI l = L at *
  generalize l.length = n at *
  clear l
  go_enter Try.func62, Try.ntmps62
  go_wp2
  go_loopw [1, 5] (fun kk i wr => ∃ j : Nat, j ≤ n ∧ i = .int .i64 j ∧ kk = .int .i64 (k0 + j * 2) ∧ Hid (wr.ownsRow B 67 2 (.slice (some ⟨g, 0, none⟩) n cap) n (vals (ihalf k0 L (j * 2)))) ∧ Hid (w.grownBy wr (some g))) (fun _ i _ => n - (intOf i).toNat)
  case atStart => exact ⟨0, Nat.zero_le _, rfl, by simp, by rw [Nat.zero_mul, ihalf_zero]; exact HO.out, grown_refl _ _⟩
  case round =>
    obtain ⟨j, hj, rfl, rfl, HR, HG⟩ := hrel
    by_cases hlt : j < n
    · go_wp2
      go_loopw [1, 6] (fun kk i wr => ∃ q : Nat, q ≤ 2 ∧ i = .int .i64 q ∧ kk = .int .i64 (k0 + j * 2 + q) ∧ Hid (wr.ownsRow B 67 2 (.slice (some ⟨g, 0, none⟩) n cap) n (vals (ihalf k0 L (j * 2 + q)))) ∧ Hid (w.grownBy wr (some g))) (fun _ i _ => 2 - (intOf i).toNat)
      case atStart => exact ⟨0, Nat.zero_le _, rfl, by simp, HR.out, HG.out⟩
      case round =>
        clear HR HG
        obtain ⟨q, hq, rfl, rfl, HR, HG⟩ := hrel
        by_cases hq2 : q < 2
        · obtain ⟨x, hx⟩ : ∃ x, L[j * 2 + q]? = some x := ⟨_, List.getElem?_eq_getElem (by omega)⟩
          have hc1 : wr.cell? ⟨g, j * 2 + q, none⟩ = some (.int .i64 x) := (HR.out.cellAt (j * 2 + q) (by omega)).trans (ihalf_get k0 L (j * 2 + q) x hx)
          have hf1 := HR.out.frozenAt (j * 2 + q)
          have hst := (HR.out.stored (j * 2 + q) (.int .i64 (k0 + ((j * 2 + q : Nat) : Int)))).1
          rw [ihalf_set k0 L (j * 2 + q) (by omega)] at hst
          have HG2 := Lib.hid (grown_set HG.out (j * 2 + q) (.int .i64 (k0 + ((j * 2 + q : Nat) : Int))))
          have e3 : k0 + ((j * 2 + q : Nat) : Int) = k0 + (j : Int) * 2 + (q : Int) := by omega
          rw [e3] at hst HG2
          have HST := Lib.hid hst
          clear hst hx e3 HR HG
          go_wp2
          go_roundw
          case rel => exact ⟨q + 1, by omega, by go_num, by go_num, HST.out, HG2.out⟩
          case measure => simp [intOf]; omega
        · obtain rfl : q = 2 := by omega
          have HR2 : Hid (wr.ownsRow B 67 2 (.slice (some ⟨g, 0, none⟩) n cap) n (vals (ihalf k0 L ((j + 1) * 2)))) := by rw [show (j + 1) * 2 = j * 2 + 2 by omega]; exact HR
          clear HR
          go_wp2
          go_roundw
          case rel => exact ⟨j + 1, by omega, by go_num, by go_num, HR2.out, HG.out⟩
          case measure => simp [intOf]; omega
    · obtain rfl : j = n := by omega
      go_wp2
      go_ret
      exact ⟨rfl, by unfold OwnPairMarks; rw [← hfl, ← ihalf_end, hfl]; exact HR.out, HG.out⟩
end Go.Proofs.Ytpkdlgdjpoempaa
