/- The walks of the laws' marks over slices of texts: written, and found again. -/
import Derived.Test.YtopdaocamjfbdaaMark
import Derived.Lib.QuietBelow
namespace Go.Proofs.Ytopdaocamjfbdaa
open Go.RowKit
set_option linter.unusedVariables false

def marks (n : Nat) : List ByteArray := (List.range n).map fun i : Nat => markOf (1 + (i : Int))
theorem marks_length (n : Nat) : (marks n).length = n := by simp [marks]
theorem marks_get (n i : Nat) (h : i < n) : (marks n)[i]? = some (markOf (1 + (i : Int))) := by simp [marks, h]

theorem grown_of_below {w w' : World} (h : Below w.heap.size w w') : w.grownBy w' none := ⟨h.os, h.tape, h.output, h.size, fun k hk _ => h.block k hk⟩

/-- j texts marked, the others as they were. -/
def half (l : List ByteArray) (j : Nat) : List Value := ((marks l.length).take j ++ l.drop j).map Value.string
theorem half_get (l : List ByteArray) (j : Nat) (x : ByteArray) (h : l[j]? = some x) : (half l j)[j]? = some (.string x) := by
  have hj := (List.getElem?_eq_some_iff.1 h).1
  unfold half
  rw [List.getElem?_map, List.getElem?_append_right (by simp [marks_length]; omega)]
  simp [marks_length, Nat.min_eq_left (Nat.le_of_lt hj), List.getElem?_drop, h]
theorem half_set (l : List ByteArray) (j : Nat) (hj : j < l.length) : (half l j).set j (.string (markOf (1 + (j : Int)))) = half l (j + 1) := by
  unfold half
  have hm := List.getElem?_eq_some_iff.1 (marks_get l.length j hj)
  rw [List.take_succ_eq_append_getElem hm.1, hm.2, List.map_append, List.map_append, List.map_append, List.set_append_right _ _ (by simp [marks_length]; omega)]
  have e : l.drop j = l[j] :: l.drop (j + 1) := List.drop_eq_getElem_cons hj
  have hlen : (((marks l.length).take j).map Value.string).length = j := by simp [marks_length]; omega
  rw [e, List.map_cons, hlen, Nat.sub_self, List.set_cons_zero, List.append_assoc]
  rfl
theorem half_zero (l : List ByteArray) : half l 0 = l.map Value.string := by simp [half]
theorem half_end (l : List ByteArray) : half l l.length = (marks l.length).map Value.string := by
  unfold half; rw [List.take_of_length_le (by rw [marks_length]; exact Nat.le_refl _)]; simp

set_option maxHeartbeats 1000000 in
theorem markTexts (w : World) (B g cap : Nat) (l : List ByteArray) (h : w.ownsRow B 9 1 (.slice (some ⟨g, 0, none⟩) l.length cap) l.length (l.map Value.string)) (hB : B ≤ w.heap.size) (hl : l.length ≤ 9000) :
    Calls Try.prog 19 #[.slice (some ⟨g, 0, none⟩) l.length cap, .int .i64 1] w fun e w' => e = .returned (.int .i64 (1 + l.length)) ∧
      w'.ownsRow B 9 1 (.slice (some ⟨g, 0, none⟩) l.length cap) l.length ((marks l.length).map Value.string) ∧ Below B w w' := by
  have HO := Lib.hid h
  have hBg : B ≤ g := (h.lt g rfl).1
  clear h
  go_enter Try.func19, Try.ntmps19
  go_wp2
  go_loopw [1, 5] (fun kk i wr => ∃ j : Nat, j ≤ l.length ∧ i = .int .i64 j ∧ kk = .int .i64 (1 + j) ∧ Hid (wr.ownsRow B 9 1 (.slice (some ⟨g, 0, none⟩) l.length cap) l.length (half l j)) ∧ Below B w wr) (fun _ i _ => l.length - (intOf i).toNat)
  case atStart => exact ⟨0, Nat.zero_le _, rfl, rfl, by rw [half_zero]; exact HO.out, Below.refl _ _⟩
  case round =>
    obtain ⟨j, hj, rfl, rfl, HR, hb⟩ := hrel
    by_cases hlt : j < l.length
    · obtain ⟨x, hx⟩ : ∃ x, l[j]? = some x := ⟨_, List.getElem?_eq_getElem hlt⟩
      have CM := Lib.hid (markText_any (1 + (j : Int)) wr (by omega) (by omega))
      have HX := Lib.hid hx
      clear hx
      go_wp2_with fail
      refine CM.out.mono ?_
      rintro e w1 ⟨rfl, hb1⟩
      have hr1 := HR.out.kept (grown_of_below hb1) (.inr (by simp [Value.ownBlock]))
      have hc1 : w1.cell? ⟨g, j, none⟩ = some (.string x) := (hr1.cellAt j (by omega)).trans (half_get l j x HX.out)
      have hf1 := hr1.frozenAt j
      have hst := (hr1.stored j (.string (markOf (1 + (j : Int))))).1
      rw [half_set l j hlt] at hst
      have HST := Lib.hid hst
      have hb2 := hb.trans (hb1.mono (Nat.le_trans hB hb.size))
      clear hst hr1 hb1
      generalize markOf (1 + (j : Int)) = mk at *
      go_wp2
      go_roundw
      case rel => exact ⟨j + 1, by omega, by go_num, by go_num, HST.out, hb2.setCell (p := ⟨g, j, none⟩) hBg _⟩
      case measure => simp [intOf]; omega
    · obtain rfl : j = l.length := by omega
      go_wp2
      go_ret
      exact ⟨rfl, by rw [← half_end]; exact HR.out, hb⟩

theorem mark_same (s : ByteArray) : (s.toList == s.toList) = true := by simp

set_option maxHeartbeats 1000000 in
theorem heldTexts (w : World) (a : Option Addr) (n cap : Nat) (h : TextsAt w a (marks n)) (hl : n ≤ 9000) :
    Calls Try.prog 20 #[.slice a n cap, .int .i64 1] w fun e w' => e = .returned (.int .i64 (1 + n)) ∧ Below w.heap.size w w' := by
  have HT := Lib.hid h
  clear h
  go_enter Try.func20, Try.ntmps20
  go_wp2
  go_loopw [1, 5] (fun kk i wr => ∃ j : Nat, j ≤ n ∧ i = .int .i64 j ∧ kk = .int .i64 (1 + j) ∧ Below w.heap.size w wr) (fun _ i _ => n - (intOf i).toNat)
  case atStart => exact ⟨0, Nat.zero_le _, rfl, rfl, Below.refl _ _⟩
  case round =>
    obtain ⟨j, hj, rfl, rfl, hb⟩ := hrel
    by_cases hlt : j < n
    · have cM := fun W => markText_any (1 + (j : Int)) W (by omega) (by omega)
      obtain ⟨b, o, rfl, _, hcell⟩ := (HT.out.below hb (Nat.le_refl _)).cellAt (marks_get n j hlt)
      have hc := cell_regrown hcell
      have hj0 : (0 : Int) ≤ (j : Int) := by omega
      have hjn : (j : Int) < (n : Int) := by omega
      have hw1 : IntKind.i64.wrap (1 + (j : Int)) = 1 + (j : Int) := IntWalk.i64_in _ (by omega)
      clear hcell
      generalize hmk : markOf (1 + (j : Int)) = mk at *
      have HMK := Lib.hid hmk
      have hee := mark_same mk
      clear hmk
      go_wp2_with fail
      refine wp_region_quiet_below (by kernel_rfl) (by kernel_rfl) ?_
      repeat (quiet_step ((go_at_call 34; exact Calls.regrown_of (cM _))))
      refine wpQuiet_nil ?_
      intro _ hw'
      obtain ⟨⟨dq, osq⟩, hw''⟩ := hw'
      subst hw''
      go_wp2
      go_roundw
      case rel => exact ⟨j + 1, by omega, by go_num, by go_num, hb.trans ((below_regrown wr dq osq).mono hb.size)⟩
      case measure => simp [intOf]; omega
    · obtain rfl : j = n := by omega
      go_wp2
      go_ret
      exact ⟨rfl, hb⟩
end Go.Proofs.Ytopdaocamjfbdaa
