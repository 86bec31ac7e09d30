/- The draw of JoinStrings' arguments. -/
import Derived.Test.YtopdaocamjfbdaaDraw
namespace Go.Proofs.Ytopdaocamjfbdaa
open Go.RowKit
set_option linter.unusedVariables false

def signList : List ByteArray := [⟨#[44]⟩, ⟨#[59]⟩, ⟨#[59]⟩, ⟨#[]⟩, ⟨#[97, 98]⟩]
theorem signList_small : ∀ x ∈ signList, x.size ≤ 2 := by decide
theorem small_snoc {l : List ByteArray} {x : ByteArray} (h : ∀ y ∈ l, y.size ≤ 5000) (hx : x.size ≤ 5000) : ∀ y ∈ l ++ [x], y.size ≤ 5000 := by
  intro y hy
  rcases List.mem_append.1 hy with hy | hy
  · exact h y hy
  · simp at hy; rw [hy]; exact hx
def JoinDraw (w : World) (e : Ending) (w' : World) : Prop :=
  ∃ (v : Value) (l : List ByteArray) (sep : ByteArray), l.length ≤ 5 ∧ (∀ x ∈ l, x.size ≤ 5000) ∧ sep.size ≤ 2 ∧ e = .returned (.tuple #[v, .string sep]) ∧ OwnTexts w.heap.size v l w' ∧ Below w.heap.size w w'

set_option maxHeartbeats 2000000 in
theorem drawJoin (w : World) (a : Option Addr) (len cap : Nat) (h : CodeAt w.heap.size w a len) (hl : len ≤ 9223372036854775807) :
    Calls Try.prog 11 #[.slice a len cap] w (JoinDraw w) := by
  obtain ⟨i0, hi, hz0, hz1, hz2⟩ := info_parts infoText
  have hC0 := new_cursor cap h hl
  have hC := Lib.hid (hC0.kept (World.grownBy_alloc _ (.cells #[] 9) none))
  have hbel0 : Below w.heap.size w ((w.alloc (.cells #[.slice a len cap, .int .i64 0, .int .u64 0] 44)).alloc (.cells #[] 9)) := ((Below.refl _ w).alloc (Nat.le_refl _) _).alloc (by simp) _
  have hown0 : ((w.alloc (.cells #[.slice a len cap, .int .i64 0, .int .u64 0] 44)).alloc (.cells #[] 9)).ownsRow w.heap.size 9 1 (.slice (some ⟨w.heap.size + 1, 0, none⟩) 0 0) 0 [] := by
    have := World.ownsRow_made (base := w.heap.size) (e := 9) (size := 1) (w.alloc (.cells #[.slice a len cap, .int .i64 0, .int .u64 0] 44)) #[] 0 (by simp) (by decide) rfl
    simpa using this
  have HB0 := Lib.hid hbel0
  have HO0 := Lib.hid hown0
  clear h hC0 hbel0 hown0
  go_enter Try.func11, Try.ntmps11
  go_wp2_with fail
  refine (pick_any 4 hC.out (by omega) (by omega) (by omega)).mono ?_
  rintro e w1 ⟨r, rfl, hr0, hr1, hc1, hg1⟩
  obtain ⟨rn, rfl⟩ := Int.eq_ofNat_of_zero_le hr0
  have hrn : rn < 4 := by omega
  have ho1 := HO0.out.kept hg1 (.inr (own_ne_cur HO0.out hC.out.cur))
  have hb1 := HB0.out.grown hg1 (by simp; omega) (fun k e => by cases e; exact Nat.le_refl _)
  have HO1 := Lib.hid ho1
  have HC1 := Lib.hid hc1
  clear hg1 ho1 hc1 HO0 HB0 hC hr0 hr1
  go_wp2_with fail
  go_loopw [5, 7] (fun lv i wr => ∃ (k : Nat) (l : List ByteArray), k ≤ rn ∧ i = .int .i64 k ∧ Hid (l.length = k ∧ ∀ x ∈ l, x.size ≤ 5000) ∧ Hid (OwnTexts w.heap.size lv l wr) ∧ Hid (Cursor w.heap.size w.heap.size (10 + 2 * k) a len cap wr) ∧ Below w.heap.size w wr) (fun _ i _ => rn - (intOf i).toNat)
  case atStart => exact ⟨0, [], Nat.zero_le _, rfl, ⟨rfl, by simp⟩, HO1.out, HC1.out.more (by omega), hb1⟩
  case round =>
    obtain ⟨k, l, hk, rfl, HL, HO, HC, hb⟩ := hrel
    have hsz := hb.size
    have hlen : l.length ≤ 3 := by have := HL.out.1; omega
    by_cases hlt : k < rn
    · go_wp2_with fail
      refine (any1_any HC.out (by omega)).mono ?_
      rintro e w2 ⟨x, hx, rfl, hc2, hg2⟩
      have hown2 := HO.out.kept hg2 (.inr (own_ne_cur HO.out HC.out.cur))
      have hb2 := hb.grown hg2 hb.size (fun k e => by cases e; exact Nat.le_refl _)
      have hsz2 := hb2.size
      clear hg2
      go_wp2_with (at_builtin; refine wpList_append_own _ rfl _ _ 26 rfl w.heap.size 9 i0 (.string ByteArray.empty) 1 16 Try.underlying26 hi hz0 hz1 hz2 rfl (by decide) _ _ _ rfl (hown2.alloc _) ⟨w2.heap.size, 0, none⟩ 1 1 [.string x] rfl rfl (cell_one_new _ _ _) (fun x hx => by simp at hx; subst hx; rfl) (by unfold maxLen; omega) (by omega) (by simp; omega) ?_; intro v' w3 hown' hgrow3 hnil3)
      have hne := own_ne_cur (hown2.alloc (.cells #[.string x] 9)) (hc2.cur.kept (World.grownBy_alloc w2 _ none) (by simp))
      have hc3 := (hc2.kept (World.grownBy_alloc w2 (.cells #[.string x] 9) none)).other hgrow3 hne (fun k e => (hown2.lt k e).1)
      have hb3 := (hb2.alloc hb2.size (.cells #[.string x] 9)).grown hgrow3 (by simp; omega) (fun k e => (hown2.lt k e).1)
      go_roundw
      case rel => exact ⟨k + 1, l ++ [x], by omega, by go_num, ⟨by simp [HL.out.1], small_snoc HL.out.2 (by have := anyList_small x hx; omega)⟩, by show OwnTexts _ _ _ _; unfold OwnTexts; simpa using hown', hc3.more (by omega), hb3⟩
      case measure => simp [intOf]; omega
    · go_wp2_with fail
      refine (one_any 20 HC.out (by omega) (by omega) (by omega)).mono ?_
      rintro e w2 ⟨yes, rfl, hc2, hg2⟩
      have hown2 := HO.out.kept hg2 (.inr (own_ne_cur HO.out HC.out.cur))
      have hb2 := hb.grown hg2 hb.size (fun k e => by cases e; exact Nat.le_refl _)
      have hsz2 := hb2.size
      clear hg2
      cases yes
      · skip
        have hA := hc2.kept (World.grownBy_alloc w2 (.cells (signList.map Value.string).toArray 9) none)
        have C := Lib.hid (of_any hA (by omega) signList 5 w2.heap.size 5 rfl (by decide) (by decide) (by have := hc2.cur.lt; omega) (by simp) (news_at w2 signList 9))
        have hA0 := hA.cur
        clear hA
        go_wp2_with fail
        refine C.out.mono ?_
        rintro e w5 ⟨y, hy, rfl, hc5, hg5⟩
        obtain ⟨ga, ca, hv⟩ : ∃ a c, u5 = .slice a l.length c := by
          rcases hown2.2 with ⟨h1, h2⟩ | ⟨g, cp, cur, h1, _⟩
          · exact ⟨none, 0, by rw [h1, h2]⟩
          · exact ⟨_, _, h1⟩
        have ho5 := (hown2.alloc (.cells (signList.map Value.string).toArray 9)).kept hg5 (.inr (own_ne_cur (hown2.alloc (.cells (signList.map Value.string).toArray 9)) hA0))
        subst hv
        go_wp2
        go_ret2
        exact ⟨_, l, y, by omega, HL.out.2, signList_small y hy, rfl, ho5, (hb2.alloc hb2.size _).grown hg5 (by have := hb2.size; simp; omega) (fun k e => by cases e; exact Nat.le_refl _)⟩
      · go_wp2_with fail
        refine (pick_any 20 hc2 (by omega) (by omega) (by omega)).mono ?_
        rintro e w4 ⟨r4, rfl, hr40, hr41, hc4, hg4⟩
        obtain ⟨m, rfl⟩ := Int.eq_ofNat_of_zero_le hr40
        have hown4 := hown2.kept hg4 (.inr (own_ne_cur hown2 hc2.cur))
        have hb4 := hb2.grown hg4 hb2.size (fun k e => by cases e; exact Nat.le_refl _)
        obtain ⟨w6, hmk, hcv, hg6⟩ := make_zeros w4 (3990 + m) (by omega)
        have em : ((3990 + m : Nat) : Int) = 3990 + (m : Int) := by omega
        rw [em] at hmk
        have hown6 := hown4.kept hg6 (Classical.em _)
        have hc6 := hc4.kept hg6
        have hb6 := hb4.grown hg6 hb4.size (fun k e => by cases e)
        have hsz6 := hb6.size
        have hzs := zeros_size (3990 + m)
        generalize zeros (3990 + m) = z at *
        clear hg4 hg6 em hown4 hc4 hb4 hown2 hc2
        go_wp2_with (at_builtin; refine wpList_append_own _ rfl _ _ 26 rfl w.heap.size 9 i0 (.string ByteArray.empty) 1 16 Try.underlying26 hi hz0 hz1 hz2 rfl (by decide) _ _ _ rfl (hown6.alloc _) ⟨w6.heap.size, 0, none⟩ 1 1 [.string z] rfl rfl (cell_one_new _ _ _) (fun x hx => by simp at hx; subst hx; rfl) (by unfold maxLen; omega) (by omega) (by simp; omega) ?_; intro v' w3 hown' hgrow3 hnil3)
        have hne := own_ne_cur (hown6.alloc (.cells #[.string z] 9)) (hc6.cur.kept (World.grownBy_alloc w6 _ none) (by simp))
        have hc3 := (hc6.kept (World.grownBy_alloc w6 (.cells #[.string z] 9) none)).other hgrow3 hne (fun k e => (hown6.lt k e).1)
        have hb3 := (hb6.alloc hb6.size (.cells #[.string z] 9)).grown hgrow3 (by simp; omega) (fun k e => (hown6.lt k e).1)
        clear hmk hcv
        have hA := hc3.kept (World.grownBy_alloc w3 (.cells (signList.map Value.string).toArray 9) none)
        have C := Lib.hid (of_any hA (by omega) signList 5 w3.heap.size 5 rfl (by decide) (by decide) (by have := hc3.cur.lt; omega) (by simp) (news_at w3 signList 9))
        have hA0 := hA.cur
        clear hA
        go_wp2_with fail
        refine C.out.mono ?_
        rintro e w5 ⟨y, hy, rfl, hc5, hg5⟩
        obtain ⟨ga, ca, hv⟩ : ∃ a c, v' = .slice a (l.length + 1) c := by
          rcases hown'.2 with ⟨h1, h2⟩ | ⟨g, cp, cur, h1, _⟩
          · exact ⟨none, 0, by rw [h1, h2]⟩
          · exact ⟨_, _, h1⟩
        have ho5 := (hown'.alloc (.cells (signList.map Value.string).toArray 9)).kept hg5 (.inr (own_ne_cur (hown'.alloc (.cells (signList.map Value.string).toArray 9)) hA0))
        subst hv
        go_wp2
        go_ret2
        exact ⟨_, (l ++ [z]), y, by simp; omega, (small_snoc HL.out.2 (by omega)), signList_small y hy, rfl, (by unfold OwnTexts; simpa using ho5), (hb3.alloc hb3.size _).grown hg5 (by have := hb3.size; simp; omega) (fun k e => by cases e; exact Nat.le_refl _)⟩
end Go.Proofs.Ytopdaocamjfbdaa
