/- Pairs, and slices of pairs, compared. -/
import Derived.Test.YtpkdlgdjpoempaaPairs2
import Derived.Lib.QuietBelow
namespace Go.Proofs.Ytpkdlgdjpoempaa
open Go.RowKit
set_option linter.unusedVariables false

set_option maxHeartbeats 1000000 in
theorem eqPair (w : World) (p q : Int × Int) :
    Calls Try.prog 72 #[two p, two q] w fun e w' => e = .returned (.bool (decide (p = q))) ∧ Below w.heap.size w w' := by
  obtain ⟨x, y⟩ := p
  obtain ⟨x', y'⟩ := q
  unfold two
  simp only
  have hb1 : Below w.heap.size w ((w.alloc (ofTwo x y)).alloc (ofTwo x' y')) := ((Below.refl _ _).alloc (Nat.le_refl _) _).alloc (by simp) _
  have F : Hid (((w.alloc (ofTwo x y)).alloc (ofTwo x' y')).cell? ⟨w.heap.size, 0, none⟩ = some (.int .i64 x) ∧ ((w.alloc (ofTwo x y)).alloc (ofTwo x' y')).cell? ⟨w.heap.size, 1, none⟩ = some (.int .i64 y) ∧
      ((w.alloc (ofTwo x y)).alloc (ofTwo x' y')).cell? ⟨w.heap.size + 1, 0, none⟩ = some (.int .i64 x') ∧ ((w.alloc (ofTwo x y)).alloc (ofTwo x' y')).cell? ⟨w.heap.size + 1, 1, none⟩ = some (.int .i64 y')) := by
    show _ ∧ _ ∧ _ ∧ _
    unfold ofTwo
    refine ⟨?_, ?_, ?_, ?_⟩ <;> simp
  go_enter Try.func72, Try.ntmps72
  go_wp2
  unfold ofTwo at F hb1
  generalize ((w.alloc (Obj.cells #[.int .i64 x, .int .i64 y] 67)).alloc (Obj.cells #[.int .i64 x', .int .i64 y'] 67)) = wb at *
  go_loopw [5] (fun i wr => Hid (∃ n, wr = wb.drewN n) ∧ (i = .int .i64 0 ∨ (i = .int .i64 1 ∧ Hid (x = x')) ∨ (i = .int .i64 2 ∧ Hid (x = x' ∧ y = y')))) (fun i _ => 2 - (intOf i).toNat)
  case atStart => exact ⟨⟨0, rfl⟩, .inl rfl⟩
  case round =>
    obtain ⟨HW, hrel⟩ := hrel
    have FF : wr.cell? ⟨w.heap.size, 0, none⟩ = some (.int .i64 x) ∧ wr.cell? ⟨w.heap.size, 1, none⟩ = some (.int .i64 y) ∧
      wr.cell? ⟨w.heap.size + 1, 0, none⟩ = some (.int .i64 x') ∧ wr.cell? ⟨w.heap.size + 1, 1, none⟩ = some (.int .i64 y') := by
      obtain ⟨n, hw⟩ := HW.out
      rw [hw]; exact F.out
    obtain ⟨F1, F2, F3, F4⟩ := FF
    have HB : Hid (∀ q, Below w.heap.size w (wr.drewN q)) := fun q => by
      obtain ⟨n, hw⟩ := HW.out
      rw [hw]; exact ⟨hb1.os, hb1.tape, hb1.output, hb1.size, hb1.block⟩
    have HD : Hid (∀ q, ∃ n, wr.drewN q = wb.drewN n) := fun q => by
      obtain ⟨n, hw⟩ := HW.out
      exact ⟨n + q, by rw [hw]; simp [World.drewN, Nat.add_assoc]⟩
    clear HW F hb1
    rcases hrel with rfl | ⟨rfl, E⟩ | ⟨rfl, E⟩
    · by_cases e : x = x'
      · subst e
        go_wp2
        go_quiet (fail)
        go_wp2
        go_roundw
        case rel => exact ⟨HD.out _, .inr (.inl ⟨rfl, Lib.hid trivial⟩)⟩
        case measure => simp [intOf]
      · go_wp2
        go_quiet (fail)
        go_wp2
        go_ret
        exact ⟨by simp [e], HB.out _⟩
    · have ex := E.out
      subst ex
      clear E
      by_cases e : y = y'
      · subst e
        go_wp2
        go_quiet (fail)
        go_wp2
        go_roundw
        case rel => exact ⟨HD.out _, .inr (.inr ⟨rfl, Lib.hid (by simp)⟩)⟩
        case measure => simp [intOf]
      · go_wp2
        go_quiet (fail)
        go_wp2
        go_ret
        exact ⟨by simp [e], HB.out _⟩
    · obtain ⟨ex, ey⟩ := E.out
      subst ex ey
      clear E
      go_wp2
      go_ret
      exact ⟨by simp, HB.out 0⟩
end Go.Proofs.Ytpkdlgdjpoempaa
