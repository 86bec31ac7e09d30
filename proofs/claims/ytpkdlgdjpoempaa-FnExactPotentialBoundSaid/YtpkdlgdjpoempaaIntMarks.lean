/- The marks that the laws write into slices of numbers: written, and found again. -/
import Derived.Test.YtpkdlgdjpoempaaInts
import Derived.Lib.QuietBelow
namespace Go.Proofs.Ytpkdlgdjpoempaa
open Go.RowKit
set_option linter.unusedVariables false

def marksI (k0 : Int) (n : Nat) : List Int := (List.range n).map fun i : Nat => k0 + (i : Int)
theorem marksI_length (k0 : Int) (n : Nat) : (marksI k0 n).length = n := by simp [marksI]
theorem marksI_get (k0 : Int) (n i : Nat) (h : i < n) : (marksI k0 n)[i]? = some (k0 + (i : Int)) := by simp [marksI, h]
def ihalf (k0 : Int) (l : List Int) (j : Nat) : List Int := (marksI k0 l.length).take j ++ l.drop j
theorem ihalf_get (k0 : Int) (l : List Int) (j : Nat) (x : Int) (h : l[j]? = some x) : (vals (ihalf k0 l j))[j]? = some (.int .i64 x) := by
  have hj := (List.getElem?_eq_some_iff.1 h).1
  unfold vals ihalf
  rw [List.getElem?_map, List.getElem?_append_right (by simp [marksI_length]; omega)]
  simp [marksI_length, Nat.min_eq_left (Nat.le_of_lt hj), List.getElem?_drop, h]
theorem ihalf_set (k0 : Int) (l : List Int) (j : Nat) (hj : j < l.length) : (vals (ihalf k0 l j)).set j (.int .i64 (k0 + (j : Int))) = vals (ihalf k0 l (j + 1)) := by
  unfold vals ihalf
  have hm := List.getElem?_eq_some_iff.1 (marksI_get k0 l.length j hj)
  have hlen : ((marksI k0 l.length).take j).length = j := by simp [marksI_length]; omega
  rw [← List.map_set, List.take_succ_eq_append_getElem hm.1, hm.2, List.set_append_right _ _ (by omega), hlen, Nat.sub_self, List.drop_eq_getElem_cons hj, List.set_cons_zero, List.append_assoc]
  rfl
theorem ihalf_zero (k0 : Int) (l : List Int) : ihalf k0 l 0 = l := by simp [ihalf]
theorem ihalf_end (k0 : Int) (l : List Int) : ihalf k0 l l.length = marksI k0 l.length := by
  unfold ihalf; rw [List.take_of_length_le (by rw [marksI_length]; exact Nat.le_refl _)]; simp
theorem grown_refl (w : World) (r : Option Nat) : w.grownBy w r := ⟨rfl, rfl, rfl, Nat.le_refl _, fun _ _ _ => rfl⟩
theorem grown_set {w w' : World} {g : Nat} (h : w.grownBy w' (some g)) (j : Nat) (v : Value) : w.grownBy (w'.setCell ⟨g, j, none⟩ v) (some g) :=
  ⟨h.os, h.tape, h.output, by simpa [World.setCell] using h.size, fun k hk hne => (Below.heap_setCell w' ⟨g, j, none⟩ v k (by rintro rfl; exact hne rfl)).trans (h.block k hk hne)⟩

set_option maxHeartbeats 1000000 in
theorem markInts_some (w : World) (B g cap : Nat) (l : List Int) (k0 : Int) (h0 : 0 ≤ k0) (h1 : k0 ≤ 4000000000000000000) (h : w.ownsRow B 3 1 (.slice (some ⟨g, 0, none⟩) l.length cap) l.length (vals l)) (hl : l.length ≤ 4000000000000000000) :
    Calls Try.prog 31 #[.slice (some ⟨g, 0, none⟩) l.length cap, .int .i64 k0] w fun e w' => e = .returned (.int .i64 (k0 + l.length)) ∧
      w'.ownsRow B 3 1 (.slice (some ⟨g, 0, none⟩) l.length cap) l.length (vals (marksI k0 l.length)) ∧ w.grownBy w' (some g) := by
  have HO := Lib.hid h
  clear h
  go_enter Try.func31, Try.ntmps31
  go_wp2
  go_loopw [1, 5] (fun kk i wr => ∃ j : Nat, j ≤ l.length ∧ i = .int .i64 j ∧ kk = .int .i64 (k0 + j) ∧ Hid (wr.ownsRow B 3 1 (.slice (some ⟨g, 0, none⟩) l.length cap) l.length (vals (ihalf k0 l j))) ∧ Hid (w.grownBy wr (some g))) (fun _ i _ => l.length - (intOf i).toNat)
  case atStart => exact ⟨0, Nat.zero_le _, rfl, by simp, by rw [ihalf_zero]; exact HO.out, grown_refl _ _⟩
  case round =>
    obtain ⟨j, hj, rfl, rfl, HR, HG⟩ := hrel
    by_cases hlt : j < l.length
    · obtain ⟨x, hx⟩ : ∃ x, l[j]? = some x := ⟨_, List.getElem?_eq_getElem hlt⟩
      have hc1 : wr.cell? ⟨g, j, none⟩ = some (.int .i64 x) := (HR.out.cellAt j (by omega)).trans (ihalf_get k0 l j x hx)
      have hf1 := HR.out.frozenAt j
      have hst := (HR.out.stored j (.int .i64 (k0 + (j : Int)))).1
      rw [ihalf_set k0 l j hlt] at hst
      have HST := Lib.hid hst
      have HG2 := Lib.hid (grown_set HG.out j (.int .i64 (k0 + (j : Int))))
      clear hst hx
      go_wp2
      go_roundw
      case rel => exact ⟨j + 1, by omega, by go_num, by go_num, HST.out, HG2.out⟩
      case measure => simp [intOf]; omega
    · obtain rfl : j = l.length := by omega
      go_wp2
      go_ret
      exact ⟨rfl, by rw [← ihalf_end]; exact HR.out, HG.out⟩
/-- .. whatever slice of the call's own it is. -/
theorem markInts (w : World) (B : Nat) (v : Value) (l : List Int) (k0 : Int) (h0 : 0 ≤ k0) (h1 : k0 ≤ 4000000000000000000) (h : OwnInts B v l w) (hl : l.length ≤ 4000000000000000000) :
    Calls Try.prog 31 #[v, .int .i64 k0] w fun e w' => e = .returned (.int .i64 (k0 + l.length)) ∧ OwnInts B v (marksI k0 l.length) w' ∧ w.grownBy w' v.ownBlock := by
  rcases h.2 with ⟨h2, h3⟩ | ⟨g, cap, cur, hv, _⟩
  · obtain rfl : l = [] := List.eq_nil_of_length_eq_zero h3
    subst h2
    have HO := Lib.hid h
    clear h h3
    go_enter Try.func31, Try.ntmps31
    go_wp2
    go_loopw [1, 5] (fun kk i wr => i = .int .i64 0 ∧ kk = .int .i64 k0 ∧ Hid (wr = w)) (fun _ i _ => 0)
    case atStart => exact ⟨rfl, rfl, rfl⟩
    case round =>
      obtain ⟨rfl, rfl, HW⟩ := hrel
      go_wp2
      go_ret
      have hw := HW.out
      subst hw
      exact ⟨by simp, by simpa [marksI] using HO.out, grown_refl _ _⟩
  · subst hv
    refine (markInts_some w B g cap l k0 h0 h1 h hl).mono ?_
    rintro e w' ⟨rfl, ho, hg⟩
    exact ⟨rfl, by unfold OwnInts; rw [marksI_length]; exact ho, hg⟩

set_option maxHeartbeats 1000000 in
theorem heldInts (w : World) (a : Option Addr) (n cap : Nat) (k0 : Int) (h0 : 0 ≤ k0) (h1 : k0 ≤ 4000000000000000000) (h : IntsAt w a (marksI k0 n)) (hl : n ≤ 4000000000000000000) :
    Calls Try.prog 32 #[.slice a n cap, .int .i64 k0] w fun e w' => e = .returned (.int .i64 (k0 + n)) ∧ w' = w := by
  have HT := Lib.hid h
  clear h
  go_enter Try.func32, Try.ntmps32
  go_wp2
  go_loopw [1, 5] (fun kk i wr => ∃ j : Nat, j ≤ n ∧ i = .int .i64 j ∧ kk = .int .i64 (k0 + j) ∧ Hid (wr = w)) (fun _ i _ => n - (intOf i).toNat)
  case atStart => exact ⟨0, Nat.zero_le _, rfl, by simp, rfl⟩
  case round =>
    obtain ⟨j, hj, rfl, rfl, HW⟩ := hrel
    have hw := HW.out
    subst hw
    clear HW
    by_cases hlt : j < n
    · obtain ⟨b, o, rfl, _, hcell⟩ := HT.out.cellAt (marksI_get k0 n j hlt)
      go_wp2
      go_roundw
      case rel => exact ⟨j + 1, by omega, by go_num, by go_num, Lib.hid trivial⟩
      case measure => simp [intOf]; omega
    · obtain rfl : j = n := by omega
      go_wp2
      go_ret
      exact ⟨rfl, rfl⟩
end Go.Proofs.Ytpkdlgdjpoempaa
