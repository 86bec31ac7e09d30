/- The lowest and the highest of a solution (pure). -/
import Derived.Test.YtcgeedklfejhbaaAxQ
import Derived.Test.YtcgeedklfejhbaaSiQ
import Derived.Test.YtcgeedklfejhbaaQc
namespace Go.Proofs.Ytcgeedklfejhbaa.M
open Go.RowKit Abs
set_option linter.unusedSimpArgs false
set_option linter.unusedVariables false
set_option maxRecDepth 100000
set_option maxHeartbeats 4000000
def iot (n : Nat) : List Int := (List.range n).map Int.ofNat
theorem iot_len (n : Nat) : (iot n).length = n := by simp [iot]
theorem iot_get {n : Nat} {k : Int} (h0 : 0 ≤ k) (h1 : k < n) : (getI .int (iot n) k : Int) = k := by
  unfold getI iot
  rw [List.getD_eq_getElem?_getD, List.getElem?_map, List.getElem?_range (by omega)]
  show Int.ofNat k.toNat = k
  simp; omega
def canB (L : List (List Int)) (num : Int) (r : List Int) (v : Int) : Bool := decide (gi r v = num) && solB L (flipV r v)
def nxtV (L : List (List Int)) (num n : Int) (r : List Int) : Int := findI (iot n.toNat) (canB L num r)
theorem nxt_hit {L : List (List Int)} {num n v : Int} {r : List Int} (h0 : 0 ≤ v) (h1 : v < n) (hc : canB L num r v = true) (hn : ∀ j : Int, 0 ≤ j → j < v → canB L num r j = false) : nxtV L num n r = v := by
  unfold nxtV
  refine findI_hit h0 (by rw [iot_len]; omega) ?_ fun j a b => ?_
  · rw [iot_get h0 (by omega)]; exact hc
  · rw [iot_get a (by omega)]; exact hn j a b
theorem nxt_none {L : List (List Int)} {num n : Int} {r : List Int} (hn : ∀ j : Int, 0 ≤ j → j < n → canB L num r j = false) : nxtV L num n r = -1 := by
  unfold nxtV
  refine findI_none fun j a b => ?_
  rw [iot_len] at b
  rw [iot_get a (by omega)]
  exact hn j a (by omega)
def downF (L : List (List Int)) (num n : Int) : Nat → List Int → List Int
  | 0, r => r
  | k + 1, r => if nxtV L num n r < 0 then r else downF L num n k (flipV r (nxtV L num n r))
def stepR (L : List (List Int)) (num n : Int) (x : Nat × List Int) : Nat × List Int := (x.1 - 1, flipV x.2 (nxtV L num n x.2))
def cntI (num : Int) (r : List Int) : Nat := r.countP fun x => decide (x = num)
theorem cntI_set {num : Int} : ∀ {r : List Int} {k : Nat} {y : Int}, (hk : k < r.length) → r[k] = num → y ≠ num → cntI num (r.set k y) + 1 = cntI num r
  | x :: r, 0, y, _, h, hy => by
    have h' : x = num := h
    unfold cntI
    rw [List.set_cons_zero, List.countP_cons, List.countP_cons, if_neg (by simpa using hy), if_pos (by simpa using h')]
  | x :: r, k + 1, y, hk, h, hy => by
    have := cntI_set (r := r) (k := k) (y := y) (by simpa using hk) (by simpa using h) hy
    unfold cntI at *
    rw [List.set_cons_succ, List.countP_cons, List.countP_cons]
    omega
theorem cnt_flip {num v : Int} {r : List Int} (h0 : 0 ≤ v) (h1 : v < (r.length : Int)) (hg : gi r v = num) (hb : num = 0 ∨ num = 1) : cntI num (flipV r v) + 1 = cntI num r := by
  have e := gi_get (l := r) h0 h1
  obtain ⟨e1, e2⟩ := List.getElem?_eq_some_iff.1 e
  unfold flipV setI
  exact cntI_set e1 (by rw [e2, hg]) (by rw [hg]; omega)
/-- What holds at each jump. -/
structure DownI (L : List (List Int)) (num n : Int) (R : List Int) (x : Nat × List Int) : Prop where
  asg : asgB n x.2 = true
  cnt : cntI num x.2 ≤ x.1
  res : R = downF L num n x.1 x.2
theorem down_none {L : List (List Int)} {num n : Int} {r : List Int} (h : nxtV L num n r = -1) (k : Nat) : downF L num n k r = r := by
  cases k with
  | zero => rfl
  | succ k =>
    show (if nxtV L num n r < 0 then r else _) = r
    rw [h, if_pos (by decide)]
theorem down_step {L : List (List Int)} {num n v : Int} {R : List Int} {x : Nat × List Int} (h : DownI L num n R x) (hb : num = 0 ∨ num = 1) (h0 : 0 ≤ v) (h1 : v < n) (hg : gi x.2 v = num) (hv : nxtV L num n x.2 = v) : DownI L num n R (stepR L num n x) ∧ (stepR L num n x).1 < x.1 ∧ (stepR L num n x).2 = flipV x.2 v := by
  obtain ⟨k, r⟩ := x
  obtain ⟨a, b, c⟩ := h
  simp only at *
  have hl := (asgB_in a).1
  have hcf := cnt_flip h0 (by omega) hg hb
  obtain ⟨m, rfl⟩ : ∃ m, k = m + 1 := ⟨k - 1, by omega⟩
  unfold stepR
  simp only [hv, Nat.add_sub_cancel]
  refine ⟨⟨asg_flip a h0 h1, by show cntI num (flipV r v) ≤ m; omega, ?_⟩, by omega, trivial⟩
  rw [c]
  show (if nxtV L num n r < 0 then r else downF L num n m (flipV r (nxtV L num n r))) = downF L num n m (flipV r v)
  rw [hv, if_neg (by omega)]
def lowR (L : List (List Int)) (num n : Int) (r : List Int) : List Int := downF L num n r.length r
theorem down_start {L : List (List Int)} {num n : Int} {r : List Int} (h : asgB n r = true) : DownI L num n (lowR L num n r) (r.length, r) := ⟨h, List.countP_le_length, rfl⟩
end Go.Proofs.Ytcgeedklfejhbaa.M
