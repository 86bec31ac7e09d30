/- A slice of slices of numbers is copied: each row in memory of its own. -/
import Derived.Test.YtpkdlgdjpoempaaGrid
namespace Go.Proofs.Ytpkdlgdjpoempaa
open Go.RowKit
set_option linter.unusedVariables false

theorem own_base {w : World} {base base' size n : Nat} {e : TypeId} {v : Value} {xs : List Value} (h : w.ownsRow base e size v n xs) (hb : base' ≤ base) : w.ownsRow base' e size v n xs := by
  refine ⟨h.1, ?_⟩
  rcases h.2 with h2 | ⟨g, cap, cur, hv, hg, hr⟩
  · exact .inl h2
  · exact .inr ⟨g, cap, cur, hv, Nat.le_trans hb hg, hr⟩
/-- Rows of the call's own, no two of them in one block. -/
def RowsOwn (B : Nat) (rs : List Value) (l : List (List Int)) (w : World) : Prop :=
  rs.length = l.length ∧ (∀ (i : Nat) (rv : Value) (r : List Int), rs[i]? = some rv → l[i]? = some r → OwnInts B rv r w) ∧ (∀ (i j : Nat) (ri rj : Value) (b : Nat), rs[i]? = some ri → rs[j]? = some rj → i < j → ri.ownBlock = some b → rj.ownBlock ≠ some b)
theorem RowsOwn.below {B : Nat} {rs : List Value} {l : List (List Int)} {w w' : World} (h : RowsOwn B rs l w) (hb : Below w.heap.size w w') : RowsOwn B rs l w' := by
  refine ⟨h.1, fun i rv r h1 h2 => ?_, h.2.2⟩
  refine World.ownsRow.kept (w' := w') (row := none) (h.2.1 i rv r h1 h2) ⟨hb.os, hb.tape, hb.output, hb.size, fun k hk _ => hb.block k hk⟩ ?_
  by_cases e : rv.ownBlock = none
  · exact .inl e
  · exact .inr e
theorem RowsOwn.store {B : Nat} {rs : List Value} {l : List (List Int)} {w : World} (h : RowsOwn B rs l w) {a : Addr} (ha : a.block < B) (u : Value) : RowsOwn B rs l (w.setCell a u) :=
  ⟨h.1, fun i rv r h1 h2 => ownsRow_setCell_below (h.2.1 i rv r h1 h2) ha u, h.2.2⟩
theorem RowsOwn.snoc {B : Nat} {rs : List Value} {l : List (List Int)} {w w' : World} {rv : Value} {r : List Int} (h : RowsOwn B rs l w) (hb : Below w.heap.size w w') (ho : OwnInts w.heap.size rv r w') (hB : B ≤ w.heap.size) : RowsOwn B (rs ++ [rv]) (l ++ [r]) w' := by
  have hk := h.below hb
  refine ⟨by simp [h.1], fun i rv' r' h1 h2 => ?_, fun i j ri rj b h1 h2 hij h3 => ?_⟩
  · by_cases hi : i < rs.length
    · rw [List.getElem?_append_left hi] at h1
      rw [List.getElem?_append_left (by rw [← h.1]; exact hi)] at h2
      exact hk.2.1 i rv' r' h1 h2
    · have hi2 : i = rs.length := by have := (List.getElem?_eq_some_iff.1 h1).1; simp at this; omega
      subst hi2
      rw [List.getElem?_append_right (Nat.le_refl _)] at h1
      rw [h.1, List.getElem?_append_right (Nat.le_refl _)] at h2
      simp at h1 h2
      subst h1 h2
      exact own_base ho hB
  · by_cases hj : j < rs.length
    · rw [List.getElem?_append_left hj] at h2
      rw [List.getElem?_append_left (by omega)] at h1
      exact h.2.2 i j ri rj b h1 h2 hij h3
    · have hj2 : j = rs.length := by have := (List.getElem?_eq_some_iff.1 h2).1; simp at this; omega
      subst hj2
      rw [List.getElem?_append_right (Nat.le_refl _)] at h2
      rw [List.getElem?_append_left hij] at h1
      simp at h2
      subst h2
      obtain ⟨r', hr'⟩ : ∃ r', l[i]? = some r' := ⟨_, List.getElem?_eq_getElem (by rw [← h.1]; exact hij)⟩
      have h5 := (World.ownsRow.lt (h.2.1 i ri r' h1 hr') b h3).2
      intro h6
      have h7 := (World.ownsRow.lt ho b h6).1
      omega
theorem infoRow : (Try.prog.info? 32).map (fun i => (i.zero, i.size, i.bytes)) = some (some (.slice none 0 0), 1, 24) := by kernel_rfl
/-- A slice of rows of the call's own: its rows lie in other blocks than itself. -/
def OwnGrid (B : Nat) (v : Value) (l : List (List Int)) (w : World) : Prop := ∃ (g : Nat) (rs : List Value), v = .slice (some ⟨g, 0, none⟩) l.length l.length ∧ B ≤ g ∧ w.ownsRow B 32 1 v l.length rs ∧ RowsOwn (g + 1) rs l w
theorem OwnGrid.at {B : Nat} {v : Value} {l : List (List Int)} {w : World} (h : OwnGrid B v l w) : ∃ g cap, v = .slice (some ⟨g, 0, none⟩) l.length cap ∧ GridAt w (some ⟨g, 0, none⟩) l := by
  obtain ⟨g, rs, rfl, hB, ho, hr⟩ := h
  refine ⟨g, _, rfl, .inr ⟨g, 0, rfl, (ho.lt g rfl).2, fun i r hi => ?_⟩⟩
  have hil := (List.getElem?_eq_some_iff.1 hi).1
  obtain ⟨rv, hrv⟩ : ∃ rv, rs[i]? = some rv := ⟨_, List.getElem?_eq_getElem (by rw [hr.1]; exact hil)⟩
  obtain ⟨ra, rc, e, h1, _⟩ := (hr.2.1 i rv r hrv hi).at
  have hc := ho.cells (g := g) rfl i _ hrv
  rw [addI, e] at hc
  exact ⟨ra, rc, hc, h1⟩

def gcells (rs : List Value) (n : Nat) : List Value := rs ++ List.replicate (n - rs.length) (.slice none 0 0)
theorem gcells_get (rs : List Value) (n : Nat) (h : rs.length < n) : (gcells rs n)[rs.length]? = some (.slice none 0 0) := by
  unfold gcells
  rw [List.getElem?_append_right (Nat.le_refl _)]
  simp [List.getElem?_replicate]; omega
theorem gcells_set (rs : List Value) (n : Nat) (v : Value) (h : rs.length < n) : (gcells rs n).set rs.length v = gcells (rs ++ [v]) n := by
  unfold gcells
  rw [List.set_append_right _ _ (Nat.le_refl _), Nat.sub_self]
  have e : n - rs.length = (n - (rs ++ [v]).length) + 1 := by simp; omega
  rw [e, List.replicate_succ]
  simp
def GridCopyEnd (l : List (List Int)) (w : World) (e : Ending) (w' : World) : Prop := ∃ v, e = .returned v ∧ OwnGrid w.heap.size v l w' ∧ Below w.heap.size w w'
set_option maxHeartbeats 1000000 in
theorem copyRows (w : World) (a : Option Addr) (l : List (List Int)) (cap : Nat) (h : GridAt w a l) (hl : l.length ≤ 1048576) (hm : ∀ s ∈ l, s.length ≤ 1048576) :
    Calls Try.prog 38 #[.slice a l.length cap] w (GridCopyEnd l w) := by
  obtain ⟨i0, hi, hz0, hz1, hz2⟩ := info_parts infoRow
  obtain ⟨w1, hmk, hown0, hg0⟩ := run_make_full (P := Try.prog) w w.heap.size 22 32 i0 (.slice none 0 0) 1 Try.underlying22 hi hz0 hz1 .i64 .i64 l.length (by rw [hz2]; omega) (by unfold maxLen; omega) (Nat.le_refl _)
  have hb0 : Below w.heap.size w w1 := (Below.refl _ _).grown hg0 (Nat.le_refl _) (by simp)
  have hstart : w1.ownsRow w.heap.size 32 1 (.slice (some ⟨w.heap.size, 0, none⟩) l.length l.length) l.length (gcells [] l.length) := by
    have e : (madeCells (Value.slice none 0 0).cells (l.length * 1)).toList = gcells [] l.length := by
      rw [Nat.mul_one]; show (madeCells #[Value.slice none 0 0] l.length).toList = _
      rw [toList_madeCells_one]; simp [gcells]
    rw [← e]; exact hown0
  have HT := Lib.hid h
  have HM := Lib.hid hm
  have HS := Lib.hid hstart
  have hgt : w.heap.size + 1 ≤ w1.heap.size := (hstart.lt _ rfl).2
  clear hown0 hg0 hstart h hi hz0 hz1 hz2 hm
  go_enter Try.func38, Try.ntmps38
  go_wp2
  clear hmk
  go_loopw [4] (fun i wr => ∃ (k : Nat) (rs : List Value), k ≤ l.length ∧ i = .int .i64 k ∧ rs.length = k ∧ Hid (wr.ownsRow w.heap.size 32 1 (.slice (some ⟨w.heap.size, 0, none⟩) l.length l.length) l.length (gcells rs l.length)) ∧ Hid (RowsOwn (w.heap.size + 1) rs (l.take k) wr) ∧ Below w.heap.size w wr ∧ w.heap.size + 1 ≤ wr.heap.size) (fun i _ => l.length - (intOf i).toNat)
  case atStart => exact ⟨0, [], Nat.zero_le _, rfl, rfl, HS.out, ⟨by simp, fun i rv r h => by simp at h, fun i j ri rj b h => by simp at h⟩, hb0, hgt⟩
  case round =>
    obtain ⟨k, rs, hk, rfl, hrs, HO, HR, hb, hg⟩ := hrel
    by_cases hlt : k < l.length
    · obtain ⟨x, hx⟩ : ∃ x, l[k]? = some x := ⟨_, List.getElem?_eq_getElem hlt⟩
      obtain ⟨b, o, rfl, hbl, ra, rc, hcell, hix⟩ := (HT.out.below hb (Nat.le_refl _)).cellAt hx
      have C := Lib.hid (copyInts wr ra x rc hix (HM.out x (List.mem_of_getElem? hx)))
      have HX := Lib.hid hx
      clear hx hix
      go_wp2_with fail
      refine C.out.mono ?_
      rintro e w2 ⟨rv, rfl, ho, hb2⟩
      have hr2 := HO.out.kept (w' := w2) (row := none) ⟨hb2.os, hb2.tape, hb2.output, hb2.size, fun k hk _ => hb2.block k hk⟩ (.inr (by simp [Value.ownBlock]))
      have hsn := HR.out.snoc hb2 ho hg
      have hxk := List.getElem?_eq_some_iff.1 HX.out
      have etk : l.take k ++ [x] = l.take (k + 1) := by rw [List.take_succ_eq_append_getElem hxk.1, hxk.2]
      rw [etk] at hsn
      have hc2 : w2.cell? ⟨w.heap.size, k, none⟩ = some (.slice none 0 0) := (hr2.cellAt k (by omega)).trans (by have := gcells_get rs l.length (by omega); rw [hrs] at this; exact this)
      have hf2 := hr2.frozenAt k
      have hst := (hr2.stored k rv).1
      have egs := gcells_set rs l.length rv (by omega)
      rw [hrs] at egs
      rw [egs] at hst
      have HST := Lib.hid hst
      have HSN := Lib.hid (hsn.store (a := ⟨w.heap.size, k, none⟩) (Nat.lt_succ_self _) rv)
      have hb3 := hb.trans (hb2.mono hb.size)
      have hg3 : w.heap.size + 1 ≤ w2.heap.size := Nat.le_trans hg hb2.size
      obtain ⟨va, vc, rfl, _, _⟩ := ho.at
      clear hst hr2 hb2 hsn ho hxk etk egs hcell C
      go_wp2
      go_roundw
      case rel => exact ⟨k + 1, rs ++ [Value.slice va x.length vc], by omega, by go_num, by simp [hrs], HST, HSN, hb3.setCell (p := ⟨w.heap.size, k, none⟩) (Nat.le_refl _) _, by simpa [World.setCell] using hg3⟩
      case measure => simp [intOf]; omega
    · obtain rfl : k = l.length := by omega
      have egc : gcells rs l.length = rs := by simp [gcells, hrs]
      rw [egc] at HO
      rw [List.take_length] at HR
      clear egc
      go_wp2
      go_ret
      exact ⟨_, rfl, ⟨_, rs, rfl, Nat.le_refl _, HO.out, HR.out⟩, hb⟩
end Go.Proofs.Ytpkdlgdjpoempaa
