/- A Space is copied: its slices in memory of their own. -/
import Derived.Test.YtpkdlgdjpoempaaSpace
namespace Go.Proofs.Ytpkdlgdjpoempaa
open Go.RowKit
set_option linter.unusedVariables false

/-- A slice of rows of the call's own, all of its blocks ahead of M. -/
def GridTo (B M : Nat) (v : Value) (l : List (List Int)) (w : World) : Prop :=
  ∃ (g : Nat) (rs : List Value), v = .slice (some ⟨g, 0, none⟩) l.length l.length ∧ B ≤ g ∧ g < M ∧ w.ownsRow B 32 1 v l.length rs ∧ RowsOwn (g + 1) rs l w ∧ ∀ (i : Nat) (rv : Value) (b : Nat), rs[i]? = some rv → rv.ownBlock = some b → b < M
theorem OwnGrid.to {B : Nat} {v : Value} {l : List (List Int)} {w : World} (h : OwnGrid B v l w) : GridTo B w.heap.size v l w := by
  obtain ⟨g, rs, rfl, hB, ho, hr⟩ := h
  refine ⟨g, rs, rfl, hB, (ho.lt g rfl).2, ho, hr, fun i rv b h1 h2 => ?_⟩
  obtain ⟨r, hr'⟩ : ∃ r, l[i]? = some r := ⟨_, List.getElem?_eq_getElem (by rw [← hr.1]; exact (List.getElem?_eq_some_iff.1 h1).1)⟩
  exact (World.ownsRow.lt (hr.2.1 i rv r h1 hr') b h2).2
theorem GridTo.grid {B M : Nat} {v : Value} {l : List (List Int)} {w : World} (h : GridTo B M v l w) : OwnGrid B v l w := by
  obtain ⟨g, rs, h1, h2, _, h3, h4, _⟩ := h
  exact ⟨g, rs, h1, h2, h3, h4⟩
theorem GridTo.below {B M : Nat} {v : Value} {l : List (List Int)} {w w' : World} (h : GridTo B M v l w) (hb : Below w.heap.size w w') : GridTo B M v l w' := by
  obtain ⟨g, rs, rfl, h2, h3, h4, h5, h6⟩ := h
  exact ⟨g, rs, rfl, h2, h3, h4.kept (w' := w') (row := none) ⟨hb.os, hb.tape, hb.output, hb.size, fun k hk _ => hb.block k hk⟩ (.inr (by simp [Value.ownBlock])), h5.below hb, h6⟩
theorem GridTo.store {B M : Nat} {v : Value} {l : List (List Int)} {w : World} (h : GridTo B M v l w) {a : Addr} (ha : a.block < B) (u : Value) : GridTo B M v l (w.setCell a u) := by
  obtain ⟨g, rs, h1, h2, h3, h4, h5, h6⟩ := h
  exact ⟨g, rs, h1, h2, h3, ownsRow_setCell_below h4 ha u, h5.store (by omega) u, h6⟩
theorem GridTo.le {B B' M : Nat} {v : Value} {l : List (List Int)} {w : World} (h : GridTo B M v l w) (hB : B' ≤ B) : GridTo B' M v l w := by
  obtain ⟨g, rs, h1, h2, h3, h4, h5, h6⟩ := h
  exact ⟨g, rs, h1, by omega, h3, own_base h4 hB, h5, h6⟩

def SpaceCopyEnd (l : List (List Int)) (m : List (Int × Int)) (w : World) (e : Ending) (w' : World) : Prop := ∃ v s M, e = .returned (spaceV v s) ∧ GridTo w.heap.size M v l w' ∧ OwnPairs M s m w' ∧ w.heap.size ≤ M ∧ Below w.heap.size w w'
set_option maxHeartbeats 2000000 in
theorem toSpace (w : World) (a : Option Addr) (l : List (List Int)) (cap : Nat) (a' : Option Addr) (m : List (Int × Int)) (cap' : Nat) (h : GridAt w a l) (hp : PairsAt w a' m) (hl : l.length ≤ 1048576) (hm : ∀ s ∈ l, s.length ≤ 1048576) (hn : m.length ≤ 1048576) :
    Calls Try.prog 13 #[spaceV (.slice a l.length cap) (.slice a' m.length cap')] w (SpaceCopyEnd l m w) := by
  have C1 : Hid (∀ W, Below w.heap.size w W → Calls Try.prog 38 #[.slice a l.length cap] W (GridCopyEnd l W)) := fun W hb => copyRows W a l cap (h.below hb (Nat.le_refl _)) hl hm
  have C2 : Hid (∀ W, Below w.heap.size w W → Calls Try.prog 39 #[.slice a' m.length cap'] W (PCopyEnd m W)) := fun W hb => copyPairs W a' m cap' (hp.below hb (Nat.le_refl _)) hn
  clear h hp hm
  have G1 := Lib.hid (alloc_first w (.cells #[.slice a l.length cap, .slice a' m.length cap'] 25) (.cells #[.slice none 0 0, .slice none 0 0] 28) (.cells #[.slice none 0 0, .slice none 0 0] 28))
  have G2 := Lib.hid (alloc_mid w (.cells #[.slice a l.length cap, .slice a' m.length cap'] 25) (.cells #[.slice none 0 0, .slice none 0 0] 28) (.cells #[.slice none 0 0, .slice none 0 0] 28))
  have G3 := Lib.hid (alloc_last w (.cells #[.slice a l.length cap, .slice a' m.length cap'] 25) (.cells #[.slice none 0 0, .slice none 0 0] 28) (.cells #[.slice none 0 0, .slice none 0 0] 28))
  have GB := Lib.hid (alloc_below w (.cells #[.slice a l.length cap, .slice a' m.length cap'] 25) (.cells #[.slice none 0 0, .slice none 0 0] 28) (.cells #[.slice none 0 0, .slice none 0 0] 28))
  go_enter Try.func13, Try.ntmps13
  go_wp2_with fail
  generalize ((w.alloc (.cells #[.slice a l.length cap, .slice a' m.length cap'] 25)).alloc (.cells #[.slice none 0 0, .slice none 0 0] 28)).alloc (.cells #[.slice none 0 0, .slice none 0 0] 28) = W1 at *
  refine (C1.out _ GB.out.1).mono ?_
  rintro e w2 ⟨v, rfl, ho, hb2⟩
  have hsz := GB.out.2
  have hbb := GB.out.1.trans (hb2.mono (by omega))
  have g1 : w2.heap[w.heap.size]? = some (.cells #[.slice a l.length cap, .slice a' m.length cap'] 25 (0, 0)) := (hb2.block _ (by omega)).trans G1.out
  have g2 : w2.heap[w.heap.size + 1]? = some (.cells #[.slice none 0 0, .slice none 0 0] 28 (0, 0)) := (hb2.block _ (by omega)).trans G2.out
  have g3 : w2.heap[w.heap.size + 1 + 1]? = some (.cells #[.slice none 0 0, .slice none 0 0] 28 (0, 0)) := (hb2.block _ (by omega)).trans G3.out
  obtain ⟨gv, vc, rfl, _⟩ := OwnGrid.at ho
  have k3a := cell_of_heap g3 0
  have f3a := frozen_of_heap g3 0
  have k1b := cell_of_heap g1 1
  simp at k3a k1b
  have HGr := Lib.hid ho.to
  have HB := Lib.hid hbb
  have HS := Lib.hid hsz
  have HS2 := Lib.hid hb2.size
  have HG2 := Lib.hid g2
  have HG3 := Lib.hid g3
  clear ho hbb hsz g1 g2 g3 G1 G2 G3 GB C1 hb2
  go_wp2_with fail
  have hb3 : Below w.heap.size w (w2.setCell ⟨w.heap.size + 1 + 1, 0, none⟩ (.slice (some ⟨gv, 0, none⟩) l.length vc)) := HB.out.setCell (p := ⟨w.heap.size + 1 + 1, 0, none⟩) (by simp only; omega) _
  have e2 : (w2.setCell ⟨w.heap.size + 1 + 1, 0, none⟩ (.slice (some ⟨gv, 0, none⟩) l.length vc)).heap[w.heap.size + 1]? = _ := (Below.heap_setCell w2 _ _ _ (by simp)).trans HG2.out
  have e3 := heap_set_same HG3.out 0 (.slice (some ⟨gv, 0, none⟩) l.length vc)
  have hgr : GridTo W1.heap.size w2.heap.size (.slice (some ⟨gv, 0, none⟩) l.length vc) l (w2.setCell ⟨w.heap.size + 1 + 1, 0, none⟩ (.slice (some ⟨gv, 0, none⟩) l.length vc)) := HGr.out.store (by have := HS.out; simp only; omega) _
  have hsz3 : (w2.setCell ⟨w.heap.size + 1 + 1, 0, none⟩ (.slice (some ⟨gv, 0, none⟩) l.length vc)).heap.size = w2.heap.size := by simp [World.setCell]
  refine (C2.out _ hb3).mono ?_
  rintro e w3 ⟨s, rfl, ho, hb4⟩
  have hszW : w2.heap.size ≤ w3.heap.size := by have := hb4.size; omega
  have h2lt : w.heap.size + 1 + 1 < w2.heap.size := by have := HS.out; have := HS2.out; omega
  have g2 := (hb4.block (w.heap.size + 1) (by omega)).trans e2
  have g3 := (hb4.block (w.heap.size + 1 + 1) (by omega)).trans e3
  have hg4 := hgr.below hb4
  have hb5 := hb3.trans (hb4.mono hb3.size)
  obtain ⟨va, vd, rfl, _, _⟩ := OwnPairs.at ho
  have k2a := cell_of_heap g2 0
  have k2b := cell_of_heap g2 1
  have k3a := cell_of_heap g3 0
  have k3b := cell_of_heap g3 1
  have f2a := frozen_of_heap g2 0
  have f2b := frozen_of_heap g2 1
  have f3b := frozen_of_heap g3 1
  simp at k2a k2b k3a k3b
  have HG4 := Lib.hid hg4
  have HB5 := Lib.hid hb5
  rw [hsz3] at ho
  have HO := Lib.hid ho
  have HE2 := Lib.hid g2
  have HLT := Lib.hid h2lt
  clear hg4 hb5 ho g2 g3 e2 e3 hgr hsz3 hszW h2lt hb4 HG2 HG3 C2 HGr HB
  go_wp2
  (try simp only [Exit.inBlock, Exit.then])
  have e1 : (w3.setCell ⟨w.heap.size + 1 + 1, 1, none⟩ (.slice va m.length vd)).heap[w.heap.size + 1]? = some (.cells #[.slice none 0 0, .slice none 0 0] 28 (0, 0)) := (Below.heap_setCell w3 _ _ _ (by simp)).trans HE2.out
  have e4 := heap_set_same (heap_set_same e1 0 (.slice (some ⟨gv, 0, none⟩) l.length vc)) 1 (.slice va m.length vd)
  have hs := HS.out
  have hs2 := HS2.out
  refine bodyPost_ret (results_cell_row rfl _ _ (w.heap.size + 1) 28 _ (0, 0) _ rfl e4 Try.underlying28 rfl sizeSpace) rfl ⟨_, _, w2.heap.size, rfl, ?_, ?_, by omega, ?_⟩
  · exact (((HG4.out.store (a := ⟨w.heap.size + 1 + 1, 1, none⟩) (by simp only; omega) _).store (a := ⟨w.heap.size + 1, 0, none⟩) (by simp only; omega) _).store (a := ⟨w.heap.size + 1, 1, none⟩) (by simp only; omega) _).le (by omega)
  · have o1 := ownsRow_setCell_below HO.out (a := ⟨w.heap.size + 1 + 1, 1, none⟩) (by simp only; omega) (.slice va m.length vd)
    have o2 := ownsRow_setCell_below o1 (a := ⟨w.heap.size + 1, 0, none⟩) (by simp only; omega) (.slice (some ⟨gv, 0, none⟩) l.length vc)
    exact ownsRow_setCell_below o2 (a := ⟨w.heap.size + 1, 1, none⟩) (by simp only; omega) (.slice va m.length vd)
  · exact ((HB5.out.setCell (p := ⟨w.heap.size + 1 + 1, 1, none⟩) (by simp only; omega) _).setCell (p := ⟨w.heap.size + 1, 0, none⟩) (by simp only; omega) _).setCell (p := ⟨w.heap.size + 1, 1, none⟩) (by simp only; omega) _
end Go.Proofs.Ytpkdlgdjpoempaa
