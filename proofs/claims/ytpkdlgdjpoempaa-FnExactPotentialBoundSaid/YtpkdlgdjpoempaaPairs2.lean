/- Slices of pairs: what came in, what the call made. -/
import Derived.Test.YtpkdlgdjpoempaaPairs
namespace Go.Proofs.Ytpkdlgdjpoempaa
open Go.RowKit
set_option linter.unusedVariables false

/-- The pairs of a slice lie at its address, two cells each. -/
def PairsAt (w : World) (a : Option Addr) (l : List (Int × Int)) : Prop :=
  l = [] ∨ ∃ b o, a = some ⟨b, o, none⟩ ∧ b < w.heap.size ∧ ∀ i p, l[i]? = some p → w.cell? ⟨b, o + i * 2, none⟩ = some (.int .i64 p.1) ∧ w.cell? ⟨b, o + i * 2 + 1, none⟩ = some (.int .i64 p.2)
theorem PairsAt.below {w w' : World} {a : Option Addr} {l : List (Int × Int)} {B : Nat} (h : PairsAt w a l) (hb : Below B w w') (hB : w.heap.size ≤ B) : PairsAt w' a l := by
  rcases h with h | ⟨b, o, rfl, h1, h2⟩
  · exact .inl h
  · exact .inr ⟨b, o, rfl, Nat.lt_of_lt_of_le h1 hb.size, fun i x hx => ⟨(hb.cell (p := ⟨b, o + i * 2, none⟩) (Nat.lt_of_lt_of_le h1 hB)).trans (h2 i x hx).1, (hb.cell (p := ⟨b, o + i * 2 + 1, none⟩) (Nat.lt_of_lt_of_le h1 hB)).trans (h2 i x hx).2⟩⟩
theorem PairsAt.cellAt {w : World} {a : Option Addr} {l : List (Int × Int)} (h : PairsAt w a l) {k : Nat} {p : Int × Int} (hx : l[k]? = some p) :
    ∃ b o, a = some ⟨b, o, none⟩ ∧ b < w.heap.size ∧ w.cell? ⟨b, o + k * 2, none⟩ = some (.int .i64 p.1) ∧ w.cell? ⟨b, o + k * 2 + 1, none⟩ = some (.int .i64 p.2) := by
  rcases h with rfl | ⟨b, o, h1, h2, h3⟩
  · simp at hx
  · exact ⟨b, o, h1, h2, h3 k p hx⟩

set_option maxHeartbeats 1000000 in
theorem szPairs (w : World) (a : Option Addr) (n cap : Nat) (left : Int) (h0 : 0 ≤ left) (h1 : left ≤ 1048576) (hn : n ≤ 9223372036854775807) :
    Calls Try.prog 36 #[.slice a n cap, .int .i64 left] w fun e w' => e = .returned (.int .i64 (if (n : Int) ≤ left then left - n else -1)) ∧ w' = w := by
  by_cases hbig : (n : Int) ≤ left
  · rw [if_pos hbig]
    go_enter Try.func36, Try.ntmps36
    go_wp2
    go_ret
    exact ⟨rfl, rfl⟩
  · rw [if_neg hbig]
    go_enter Try.func36, Try.ntmps36
    go_wp2
    go_ret
    exact ⟨rfl, rfl⟩

def flat2 (l : List (Int × Int)) : List Value := l.flatMap fun p => [.int .i64 p.1, .int .i64 p.2]
theorem flat2_length (l : List (Int × Int)) : (flat2 l).length = l.length * 2 := by
  induction l with
  | nil => rfl
  | cons p l ih => show ([_, _] ++ flat2 l).length = _; rw [List.length_append, ih]; simp; omega
theorem flat2_get (l : List (Int × Int)) (k : Nat) (p : Int × Int) (h : l[k]? = some p) : (flat2 l)[k * 2]? = some (.int .i64 p.1) ∧ (flat2 l)[k * 2 + 1]? = some (.int .i64 p.2) := by
  induction l generalizing k with
  | nil => simp at h
  | cons q l ih =>
    show ([_, _] ++ flat2 l)[k * 2]? = _ ∧ ([_, _] ++ flat2 l)[k * 2 + 1]? = _
    cases k with
    | zero => simp at h; subst h; exact ⟨rfl, rfl⟩
    | succ k =>
      have := ih k (by simpa using h)
      rw [List.getElem?_append_right (by simp; omega), List.getElem?_append_right (by simp; omega)]
      have e1 : (k + 1) * 2 - [Value.int .i64 q.1, Value.int .i64 q.2].length = k * 2 := by simp; omega
      have e2 : (k + 1) * 2 + 1 - [Value.int .i64 q.1, Value.int .i64 q.2].length = k * 2 + 1 := by simp; omega
      rw [e1, e2]; exact this
theorem flat2_set (l : List (Int × Int)) (k : Nat) (p : Int × Int) : ((flat2 l).set (k * 2) (.int .i64 p.1)).set (k * 2 + 1) (.int .i64 p.2) = flat2 (l.set k p) := by
  induction l generalizing k with
  | nil => simp [flat2]
  | cons q l ih =>
    cases k with
    | zero => rfl
    | succ k =>
      show (([Value.int .i64 q.1, Value.int .i64 q.2] ++ flat2 l).set ((k + 1) * 2) _).set ((k + 1) * 2 + 1) _ = [Value.int .i64 q.1, Value.int .i64 q.2] ++ flat2 (l.set k p)
      rw [← ih k, List.set_append_right _ _ (by simp; omega), List.set_append_right _ _ (by simp; omega)]
      have e1 : (k + 1) * 2 - [Value.int .i64 q.1, Value.int .i64 q.2].length = k * 2 := by simp; omega
      have e2 : (k + 1) * 2 + 1 - [Value.int .i64 q.1, Value.int .i64 q.2].length = k * 2 + 1 := by simp; omega
      rw [e1, e2]
/-- A slice of pairs of the call's own. -/
def OwnPairs (B : Nat) (v : Value) (l : List (Int × Int)) (w : World) : Prop := w.ownsRow B 67 2 v l.length (flat2 l)
theorem OwnPairs.at {B : Nat} {v : Value} {l : List (Int × Int)} {w : World} (h : OwnPairs B v l w) : ∃ a cap, v = .slice a l.length cap ∧ PairsAt w a l ∧ l.length ≤ cap := by
  rcases h.2 with ⟨h1, h2⟩ | ⟨g, cap, cur, hv, hg, hh, hn, hc, hs, ht⟩
  · exact ⟨none, 0, by rw [h1, h2], .inl (List.eq_nil_of_length_eq_zero h2), by omega⟩
  · refine ⟨some ⟨g, 0, none⟩, cap, hv, .inr ⟨g, 0, rfl, ?_, fun i x hx => ?_⟩, hn⟩
    · rcases Nat.lt_or_ge g w.heap.size with h' | h'
      · exact h'
      · rw [Array.getElem?_eq_none h'] at hh; cases hh
    · have f := flat2_get l i x hx
      have c1 := h.cells (g := g) (by rw [hv]; rfl) (i * 2) _ f.1
      have c2 := h.cells (g := g) (by rw [hv]; rfl) (i * 2 + 1) _ f.2
      have e : ∀ j, (⟨g, 0, none⟩ : Addr).add j = ⟨g, 0 + j, none⟩ := by
        intro j
        by_cases h : j = 0
        · subst h; simp [Addr.add]
        · simp [Addr.add, h]
      rw [e] at c1 c2
      exact ⟨c1, c2⟩
end Go.Proofs.Ytpkdlgdjpoempaa
