/- Graphs: the walks of the laws' helpers over them. -/
import Derived.Test.YtllmaggpglmaeaaPairs3
import Derived.Test.YtllmaggpglmaeaaPairs5
import Derived.Test.YtllmaggpglmaeaaPairMarks
namespace Go.Proofs.Ytllmaggpglmaeaa
open Go.RowKit
set_option linter.unusedVariables false

abbrev graphV (n : Int) (e : Value) : Value := .agg #[.int .i64 n, e]

set_option maxHeartbeats 1000000 in
theorem szGraph (w : World) (n : Int) (a : Option Addr) (len cap : Nat) (left : Int) (h0 : 0 ≤ left) (h1 : left ≤ 1048576) (hn : len ≤ 9223372036854775807) :
    Calls Try.prog 5 #[graphV n (.slice a len cap), .int .i64 left] w fun e w' => e = .returned (.int .i64 (if (len : Int) ≤ left then left - len else -1)) ∧ Below w.heap.size w w' := by
  have C := Lib.hid fun W => szPairs W a len cap left h0 h1 hn
  have hB : Hid (∀ o, Below w.heap.size w (w.alloc o)) := fun o => (Below.refl _ _).alloc (Nat.le_refl _) _
  by_cases hbig : (len : Int) ≤ left
  · rw [if_pos hbig] at C ⊢
    go_enter Try.func5, Try.ntmps5
    go_wp2_with fail
    refine (C.out _).mono ?_
    rintro e w2 ⟨rfl, rfl⟩
    go_wp2
    go_ret
    exact ⟨rfl, hB.out _⟩
  · rw [if_neg hbig] at C ⊢
    go_enter Try.func5, Try.ntmps5
    go_wp2_with fail
    refine (C.out _).mono ?_
    rintro e w2 ⟨rfl, rfl⟩
    go_wp2
    go_ret
    exact ⟨rfl, hB.out _⟩

theorem heap_set_same {w : World} {g : Nat} {c : Array Value} {t : TypeId} {f : Nat × Nat} (h : w.heap[g]? = some (.cells c t f)) (i : Nat) (v : Value) :
    (w.setCell ⟨g, i, none⟩ v).heap[g]? = some (.cells (c.setIfInBounds i v) t f) := by
  show (w.heap.modify g _)[g]? = _
  rw [Array.getElem?_modify, if_pos rfl, h]
  rfl
theorem cell_of_heap {w : World} {g : Nat} {c : Array Value} {t : TypeId} {f : Nat × Nat} (h : w.heap[g]? = some (.cells c t f)) (i : Nat) : w.cell? ⟨g, i, none⟩ = c[i]? := by
  simp [World.cell?, h]
theorem frozen_of_heap {w : World} {g : Nat} {c : Array Value} {t : TypeId} (h : w.heap[g]? = some (.cells c t (0, 0))) (i : Nat) : w.frozen? ⟨g, i, none⟩ = false := by
  simp [World.frozen?, h]
theorem sizeGraph : (Try.prog.info? 27).map (·.size) = some 2 := by kernel_rfl

theorem own_le {w : World} {base base' size n : Nat} {e : TypeId} {v : Value} {xs : List Value} (h : w.ownsRow base e size v n xs) (hb : base' ≤ base) : w.ownsRow base' e size v n xs := by
  refine ⟨h.1, ?_⟩
  rcases h.2 with h2 | ⟨g, cap, cur, hv, hg, hr⟩
  · exact .inl h2
  · exact .inr ⟨g, cap, cur, hv, Nat.le_trans hb hg, hr⟩
theorem alloc_first (w : World) (a b c : Obj) : (((w.alloc a).alloc b).alloc c).heap[w.heap.size]? = some a := by
  refine (Below.heap_alloc _ _ _ (by simp; omega)).trans ((Below.heap_alloc _ _ _ (by simp)).trans ?_)
  show (w.heap.push a)[w.heap.size]? = some a
  rw [Array.getElem?_push, if_pos rfl]
theorem alloc_last (w : World) (a b c : Obj) : (((w.alloc a).alloc b).alloc c).heap[w.heap.size + 1 + 1]? = some c := by
  show (((w.heap.push a).push b).push c)[w.heap.size + 1 + 1]? = some c
  rw [Array.getElem?_push, if_pos (by simp)]
theorem alloc_below (w : World) (a b c : Obj) : Below w.heap.size w (((w.alloc a).alloc b).alloc c) ∧ (((w.alloc a).alloc b).alloc c).heap.size = w.heap.size + 3 :=
  ⟨(((Below.refl _ _).alloc (Nat.le_refl _) _).alloc (by simp) _).alloc (by simp; omega) _, by simp⟩
def GCopyEnd (n : Int) (l : List (Int × Int)) (w : World) (e : Ending) (w' : World) : Prop := ∃ v, e = .returned (graphV n v) ∧ OwnPairs w.heap.size v l w' ∧ Below w.heap.size w w'
set_option maxHeartbeats 1000000 in
theorem toGraph (w : World) (n : Int) (a : Option Addr) (l : List (Int × Int)) (cap : Nat) (h : PairsAt w a l) (hl : l.length ≤ 1048576) :
    Calls Try.prog 7 #[graphV n (.slice a l.length cap)] w (GCopyEnd n l w) := by
  have C : Hid (∀ W, Below w.heap.size w W → Calls Try.prog 18 #[.slice a l.length cap] W (PCopyEnd l W)) := fun W hb => copyPairs W a l cap (h.below hb (Nat.le_refl _)) hl
  clear h
  have G2 := Lib.hid (alloc_mid w (.cells #[.int .i64 n, .slice a l.length cap] 24) (.cells #[.int .i64 0, .slice none 0 0] 27) (.cells #[.int .i64 n, .slice none 0 0] 27))
  have G3 := Lib.hid (alloc_last w (.cells #[.int .i64 n, .slice a l.length cap] 24) (.cells #[.int .i64 0, .slice none 0 0] 27) (.cells #[.int .i64 n, .slice none 0 0] 27))
  have GB := Lib.hid (alloc_below w (.cells #[.int .i64 n, .slice a l.length cap] 24) (.cells #[.int .i64 0, .slice none 0 0] 27) (.cells #[.int .i64 n, .slice none 0 0] 27))
  go_enter Try.func7, Try.ntmps7
  go_wp2_with fail
  generalize ((w.alloc (.cells #[.int .i64 n, .slice a l.length cap] 24)).alloc (.cells #[.int .i64 0, .slice none 0 0] 27)).alloc (.cells #[.int .i64 n, .slice none 0 0] 27) = W1 at *
  refine (C.out _ GB.out.1).mono ?_
  rintro e w2 ⟨v, rfl, ho, hb2⟩
  have hsz := GB.out.2
  have g2 : w2.heap[w.heap.size + 1]? = some (.cells #[.int .i64 0, .slice none 0 0] 27 (0, 0)) := (hb2.block _ (by omega)).trans G2.out
  have g3 : w2.heap[w.heap.size + 1 + 1]? = some (.cells #[.int .i64 n, .slice none 0 0] 27 (0, 0)) := (hb2.block _ (by omega)).trans G3.out
  have hbb := GB.out.1.trans (hb2.mono (by omega))
  obtain ⟨va, vc, rfl, _, _⟩ := OwnPairs.at ho
  clear G2 G3 GB C hb2
  have HO := Lib.hid ho
  have HB := Lib.hid hbb
  have HS := Lib.hid hsz
  clear ho hbb hsz
  have k2a := cell_of_heap g2 0
  have k2b := cell_of_heap g2 1
  have k3a := cell_of_heap g3 0
  have k3b := cell_of_heap g3 1
  have f2a := frozen_of_heap g2 0
  have f2b := frozen_of_heap g2 1
  have f3a := frozen_of_heap g3 0
  have f3b := frozen_of_heap g3 1
  simp at k2a k2b k3a k3b
  have HG2 := Lib.hid g2
  have HG3 := Lib.hid g3
  clear g2 g3
  go_wp2
  (try simp only [Exit.inBlock, Exit.then])
  have e1 : (w2.setCell ⟨w.heap.size + 1 + 1, 1, none⟩ (.slice va l.length vc)).heap[w.heap.size + 1]? = some (.cells #[.int .i64 0, .slice none 0 0] 27 (0, 0)) := (Below.heap_setCell w2 _ _ _ (by simp)).trans HG2.out
  have e2 := heap_set_same (heap_set_same e1 0 (.int .i64 n)) 1 (.slice va l.length vc)
  refine bodyPost_ret (results_cell_row rfl _ _ (w.heap.size + 1) 27 _ (0, 0) _ rfl e2 Try.underlying27 rfl sizeGraph) rfl ⟨_, rfl, ?_, ?_⟩
  · have hs := HS.out
    have o1 := ownsRow_setCell_below HO.out (a := ⟨w.heap.size + 1 + 1, 1, none⟩) (by simp only; omega) (.slice va l.length vc)
    have o2 := ownsRow_setCell_below o1 (a := ⟨w.heap.size + 1, 0, none⟩) (by simp only; omega) (.int .i64 n)
    have o3 := ownsRow_setCell_below o2 (a := ⟨w.heap.size + 1, 1, none⟩) (by simp only; omega) (.slice va l.length vc)
    exact own_le o3 (by omega)
  · exact ((HB.out.setCell (p := ⟨w.heap.size + 1 + 1, 1, none⟩) (by simp only; omega) _).setCell (p := ⟨w.heap.size + 1, 0, none⟩) (by simp only; omega) _).setCell (p := ⟨w.heap.size + 1, 1, none⟩) (by simp only; omega) _

set_option maxHeartbeats 1000000 in
theorem eqGraph (w : World) (n : Int) (a1 a2 : Option Addr) (l : List (Int × Int)) (c1 c2 : Nat) (h1 : PairsAt w a1 l) (h2 : PairsAt w a2 l) (hl : l.length ≤ 9223372036854775807) :
    Calls Try.prog 9 #[graphV n (.slice a1 l.length c1), graphV n (.slice a2 l.length c2)] w fun e w' => e = .returned (.bool true) ∧ Below w.heap.size w w' := by
  have C : Hid (∀ W, Below w.heap.size w W → Calls Try.prog 20 #[.slice a1 l.length c1, .slice a2 l.length c2] W fun e w' => e = .returned (.bool true) ∧ Below W.heap.size W w') :=
    fun W hb => eqPairs W a1 a2 l c1 c2 (h1.below hb (Nat.le_refl _)) (h2.below hb (Nat.le_refl _)) hl
  have HB : Hid (∀ o1 o2, Below w.heap.size w ((w.alloc o1).alloc o2)) := fun o1 o2 => ((Below.refl _ _).alloc (Nat.le_refl _) _).alloc (by simp) _
  clear h1 h2
  go_enter Try.func9, Try.ntmps9
  go_wp2_with fail
  refine (C.out _ (HB.out _ _)).mono ?_
  rintro e w2 ⟨rfl, hb2⟩
  have hb3 := (HB.out _ _).trans (hb2.mono (by simp; omega))
  go_wp2
  go_ret
  exact ⟨rfl, hb3⟩

set_option maxHeartbeats 1000000 in
/-- Whatever slice of pairs of the call's own it is. -/
theorem markPairs (w : World) (B : Nat) (v : Value) (l : List (Int × Int)) (k0 : Int) (h0 : 0 ≤ k0) (h1 : k0 ≤ 4000000000000000000) (h : OwnPairs B v l w) (hl : l.length ≤ 1000000000000000000) :
    Calls Try.prog 25 #[v, .int .i64 k0] w fun e w' => e = .returned (.int .i64 (k0 + l.length * 2)) ∧ OwnPairMarks B v k0 l.length w' ∧ w.grownBy w' v.ownBlock := by
  rcases h.2 with ⟨h2, h3⟩ | ⟨g, cap, cur, hv, _⟩
  · obtain rfl : l = [] := List.eq_nil_of_length_eq_zero h3
    subst h2
    have HO := Lib.hid h
    clear h h3
    go_enter Try.func25, Try.ntmps25
    go_wp2
    go_loopw [1, 5] (fun kk i wr => i = .int .i64 0 ∧ kk = .int .i64 k0 ∧ Hid (wr = w)) (fun _ i _ => 0)
    case atStart => exact ⟨rfl, rfl, rfl⟩
    case round =>
      obtain ⟨rfl, rfl, HW⟩ := hrel
      go_wp2
      go_ret
      have hw := HW.out
      subst hw
      exact ⟨by simp, by unfold OwnPairMarks; simpa [marksI, OwnPairs, flat2, vals] using HO.out, grown_refl _ _⟩
  · subst hv
    exact markPairs_some w B g cap l k0 h0 h1 h hl
theorem markGraph (w : World) (B : Nat) (n : Int) (v : Value) (l : List (Int × Int)) (k0 : Int) (h0 : 0 ≤ k0) (h1 : k0 ≤ 4000000000000000000) (h : OwnPairs B v l w) (hl : l.length ≤ 1000000000000000000) :
    Calls Try.prog 13 #[graphV n v, .int .i64 k0] w fun e w' => e = .returned (.int .i64 (k0 + l.length * 2)) ∧ w.grownBy w' v.ownBlock := by
  have C : Hid (∀ o, Calls Try.prog 25 #[v, .int .i64 k0] (w.alloc o) fun e w' => e = .returned (.int .i64 (k0 + l.length * 2)) ∧ OwnPairMarks B v k0 l.length w' ∧ (w.alloc o).grownBy w' v.ownBlock) :=
    fun o => markPairs (w.alloc o) B v l k0 h0 h1 (World.ownsRow.alloc h o) hl
  obtain ⟨va, vc, rfl, _, _⟩ := OwnPairs.at h
  clear h
  have HA : Hid (∀ o, w.grownBy (w.alloc o) (Value.slice va l.length vc).ownBlock) := fun o => ⟨rfl, rfl, rfl, by simp, fun k hk _ => Below.heap_alloc w o k hk⟩
  go_enter Try.func13, Try.ntmps13
  go_wp2_with fail
  refine (C.out _).mono ?_
  rintro e w2 ⟨rfl, _, hg⟩
  have HG := Lib.hid ((HA.out _).trans hg)
  clear hg HA C
  go_wp2
  go_ret
  exact ⟨rfl, HG.out⟩
end Go.Proofs.Ytllmaggpglmaeaa
