/- Slices of slices of numbers: what came in; the walks of the laws' helpers over them. -/
import Derived.Test.YtpkdlgdjpoempaaIntMarks
namespace Go.Proofs.Ytpkdlgdjpoempaa
open Go.RowKit
set_option linter.unusedVariables false

/-- The rows of a slice lie at its address, one a cell. -/
def GridAt (w : World) (a : Option Addr) (l : List (List Int)) : Prop :=
  l = [] ∨ ∃ b o, a = some ⟨b, o, none⟩ ∧ b < w.heap.size ∧ ∀ i r, l[i]? = some r → ∃ ra rc, w.cell? ⟨b, o + i, none⟩ = some (.slice ra r.length rc) ∧ IntsAt w ra r
theorem GridAt.below {w w' : World} {a : Option Addr} {l : List (List Int)} {B : Nat} (h : GridAt w a l) (hb : Below B w w') (hB : w.heap.size ≤ B) : GridAt w' a l := by
  rcases h with h | ⟨b, o, rfl, h1, h2⟩
  · exact .inl h
  · refine .inr ⟨b, o, rfl, Nat.lt_of_lt_of_le h1 hb.size, fun i r hr => ?_⟩
    obtain ⟨ra, rc, h3, h4⟩ := h2 i r hr
    exact ⟨ra, rc, (hb.cell (p := ⟨b, o + i, none⟩) (Nat.lt_of_lt_of_le h1 hB)).trans h3, h4.below hb hB⟩
theorem GridAt.cellAt {w : World} {a : Option Addr} {l : List (List Int)} (h : GridAt w a l) {k : Nat} {r : List Int} (hx : l[k]? = some r) :
    ∃ b o, a = some ⟨b, o, none⟩ ∧ b < w.heap.size ∧ ∃ ra rc, w.cell? ⟨b, o + k, none⟩ = some (.slice ra r.length rc) ∧ IntsAt w ra r := by
  rcases h with rfl | ⟨b, o, h1, h2, h3⟩
  · simp at hx
  · exact ⟨b, o, h1, h2, h3 k r hx⟩
/-- How many numbers all rows have. -/
def totI (l : List (List Int)) : Nat := (l.map (·.length)).sum
theorem totI_take (l : List (List Int)) (k : Nat) (x : List Int) (h : l[k]? = some x) : totI (l.take (k + 1)) = totI (l.take k) + x.length := by
  have := List.getElem?_eq_some_iff.1 h
  rw [List.take_succ_eq_append_getElem this.1, this.2]
  simp [totI]

def SzGrid (l : List (List Int)) (left : Int) (w : World) (e : Ending) (w' : World) : Prop := ∃ r : Int, e = .returned (.int .i64 r) ∧ (r = -1 ∨ (0 ≤ r ∧ r + l.length + totI l = left)) ∧ w = w'
set_option maxHeartbeats 1000000 in
theorem szRows (w : World) (a : Option Addr) (l : List (List Int)) (cap : Nat) (left : Int) (h0 : 0 ≤ left) (h1 : left ≤ 1048576) (h : GridAt w a l) (hl : l.length ≤ 9223372036854775807) (hm : ∀ s ∈ l, s.length ≤ 9223372036854775807) :
    Calls Try.prog 35 #[.slice a l.length cap, .int .i64 left] w (SzGrid l left w) := by
  by_cases hbig : (l.length : Int) ≤ left
  · have HM := Lib.hid hm
    have HT := Lib.hid h
    clear hm h
    go_enter Try.func35, Try.ntmps35
    go_wp2
    go_loopw [1, 5] (fun s i wr => ∃ (k : Nat) (r : Int), k ≤ l.length ∧ i = .int .i64 k ∧ s = .int .i64 r ∧ 0 ≤ r ∧ Hid (r + l.length + totI (l.take k) = left) ∧ Hid (wr = w)) (fun _ i _ => l.length - (intOf i).toNat)
    case atStart => exact ⟨0, _, Nat.zero_le _, rfl, rfl, by omega, by show _ = _; simp [totI], rfl⟩
    case round =>
      obtain ⟨k, r, hk, rfl, rfl, hr, HR, HW⟩ := hrel
      have hw := HW.out
      subst hw
      clear HW
      have hr2 : r ≤ 1048576 := by have := HR.out; omega
      by_cases hlt : k < l.length
      · obtain ⟨x, hx⟩ : ∃ x, l[k]? = some x := ⟨_, List.getElem?_eq_getElem hlt⟩
        have hxs := HM.out x (List.mem_of_getElem? hx)
        have HTT := Lib.hid (totI_take l k x hx)
        obtain ⟨b, o, rfl, hb, ra, rc, hcell, _⟩ := HT.out.cellAt hx
        have C := szInts wr ra x.length rc r hr hr2 hxs
        clear hx
        by_cases hx2 : (x.length : Int) ≤ r
        · rw [if_pos hx2] at C
          have C := Lib.hid C
          go_wp2_with fail
          refine C.out.mono ?_
          rintro e w2 ⟨rfl, rfl⟩
          go_wp2
          go_roundw
          case rel => exact ⟨k + 1, _, by omega, by go_num, rfl, by omega, by have h1 := HR.out; have h2 := HTT.out; show _ = _; omega, Lib.hid (by trivial)⟩
          case measure => simp [intOf]; omega
        · rw [if_neg hx2] at C
          have C := Lib.hid C
          go_wp2_with fail
          refine C.out.mono ?_
          rintro e w2 ⟨rfl, rfl⟩
          go_wp2
          go_ret
          exact ⟨-1, rfl, .inl rfl, rfl⟩
      · have h1 := HR.out
        rw [List.take_of_length_le (by omega)] at h1
        have H1 := Lib.hid h1
        clear h1
        go_wp2
        go_ret
        exact ⟨r, rfl, .inr ⟨hr, H1.out⟩, rfl⟩
  · go_enter Try.func35, Try.ntmps35
    go_wp2
    go_ret
    exact ⟨-1, rfl, .inl rfl, rfl⟩

set_option maxHeartbeats 1000000 in
theorem eqRows (w : World) (a1 a2 : Option Addr) (l : List (List Int)) (c1 c2 : Nat) (h1 : GridAt w a1 l) (h2 : GridAt w a2 l) (hl : l.length ≤ 9223372036854775807) (hm : ∀ s ∈ l, s.length ≤ 9223372036854775807) :
    Calls Try.prog 42 #[.slice a1 l.length c1, .slice a2 l.length c2] w fun e w' => e = .returned (.bool true) ∧ Below w.heap.size w w' := by
  have H1 := Lib.hid h1
  have H2 := Lib.hid h2
  have HM := Lib.hid hm
  clear h1 h2 hm
  go_enter Try.func42, Try.ntmps42
  go_wp2
  go_loopw [5] (fun i wr => ∃ k : Nat, k ≤ l.length ∧ i = .int .i64 k ∧ Below w.heap.size w wr) (fun i _ => l.length - (intOf i).toNat)
  case atStart => exact ⟨0, Nat.zero_le _, rfl, Below.refl _ _⟩
  case round =>
    obtain ⟨k, hk, rfl, hb⟩ := hrel
    by_cases hlt : k < l.length
    · obtain ⟨x, hx⟩ : ∃ x, l[k]? = some x := ⟨_, List.getElem?_eq_getElem hlt⟩
      obtain ⟨b1, o1, rfl, _, ra1, rc1, hc1, hi1⟩ := (H1.out.below hb (Nat.le_refl _)).cellAt hx
      obtain ⟨b2, o2, rfl, _, ra2, rc2, hc2, hi2⟩ := (H2.out.below hb (Nat.le_refl _)).cellAt hx
      have p1 := cell_regrown hc1
      have p2 := cell_regrown hc2
      have hk0 : (0 : Int) ≤ (k : Int) := by omega
      have hkl : (k : Int) < (l.length : Int) := by omega
      have cM := Lib.hid fun W (hW : Below wr.heap.size wr W) => eqInts W ra1 ra2 x rc1 rc2 (hi1.below hW (Nat.le_refl _)) (hi2.below hW (Nat.le_refl _)) (HM.out x (List.mem_of_getElem? hx))
      clear hx hc1 hc2 hi1 hi2
      go_wp2_with fail
      refine wp_region_quiet_below (by kernel_rfl) (by kernel_rfl) ?_
      repeat (quiet_step (fail))
      quiet_step (exact Calls.regrown_of (cM.out _ (below_regrown wr _ _)))
      repeat (quiet_step (fail))
      refine wpQuiet_nil ?_
      intro _ hw'
      obtain ⟨⟨dq, osq⟩, hw''⟩ := hw'
      subst hw''
      go_wp2
      go_roundw
      case rel => exact ⟨k + 1, by omega, by go_num, hb.trans ((below_regrown wr dq osq).mono hb.size)⟩
      case measure => simp [intOf]; omega
    · go_wp2
      go_ret
      exact ⟨rfl, hb⟩
end Go.Proofs.Ytpkdlgdjpoempaa
