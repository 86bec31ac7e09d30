/- The walks of JoinStrings. -/
import Derived.Test.YtopdaocamjfbdaaTexts
import Derived.Test.YtopdaocamjfbdaaStands
import Derived.Test.YtopdaocamjfbdaaShelf
import Derived.Lib.Join
import Derived.Lib.Strings
namespace Go.Proofs.Ytopdaocamjfbdaa
open Go.RowKit
set_option linter.unusedVariables false

theorem quiet_left {P : Program} {f : FuncId} {args : Array Value} {w : World} {n : Nat} {v : Value}
    (h : Calls P f args (w.drewN n) fun e w' => e = .returned v ∧ w.drewN n = w') : Calls P f args (w.drewN n) fun e w'' => e = .returned v ∧ ∃ m, w'' = w.drewN m :=
  h.mono fun _ _ ⟨he, hm⟩ => ⟨he, n, hm.symm⟩
theorem text_eqq (s : ByteArray) : (s.toList == s.toList) = true := by simp

set_option maxHeartbeats 1000000 in
theorem eqTexts (w : World) (a b : Option Addr) (l : List ByteArray) (c d : Nat) (h1 : TextsAt w a l) (h2 : TextsAt w b l) (hl : l.length ≤ 9223372036854775807) :
    Calls Try.prog 18 #[.slice a l.length c, .slice b l.length d] w fun e w' => e = .returned (.bool true) ∧ Below w.heap.size w w' := by
  have H1 := Lib.hid h1
  have H2 := Lib.hid h2
  clear h1 h2
  go_enter Try.func18, Try.ntmps18
  go_wp2
  go_loopw [5] (fun i wr => ∃ k : Nat, k ≤ l.length ∧ i = .int .i64 k ∧ Below w.heap.size w wr) (fun i _ => l.length - (intOf i).toNat)
  case atStart => exact ⟨0, Nat.zero_le _, rfl, Below.refl _ _⟩
  case round =>
    obtain ⟨k, hk, rfl, hb⟩ := hrel
    by_cases hlt : k < l.length
    · obtain ⟨x, hx⟩ : ∃ x, l[k]? = some x := ⟨_, List.getElem?_eq_getElem hlt⟩
      obtain ⟨b1, o1, rfl, _, hc1⟩ := (H1.out.below hb (Nat.le_refl _)).cellAt hx
      obtain ⟨b2, o2, rfl, _, hc2⟩ := (H2.out.below hb (Nat.le_refl _)).cellAt hx
      have hk0 : (0 : Int) ≤ (k : Int) := by omega
      have hkl : (k : Int) < (l.length : Int) := by omega
      have hee := text_eqq x
      clear hx
      go_wp2_with fail
      go_quiet (fail)
      go_wp2
      go_roundw
      case rel => exact ⟨k + 1, by omega, by go_num, Go.below_drewN hb nq⟩
      case measure => simp [intOf]; omega
    · go_wp2
      go_ret
      exact ⟨rfl, hb⟩

/-- The texts one behind the other, the sign between them. -/
def joinText (l : List ByteArray) (sep : ByteArray) : ByteArray := ⟨(Lib.join (l.map (·.data.toList)) sep.data.toList).toArray⟩
theorem intercalate_snoc (sep : List UInt8) (l : List (List UInt8)) (x : List UInt8) (h : l ≠ []) : sep.intercalate (l ++ [x]) = sep.intercalate l ++ sep ++ x := by
  induction l with
  | nil => exact absurd rfl h
  | cons y r ih =>
    cases r with
    | nil => simp [List.intercalate, List.intersperse]
    | cons z r =>
      have := ih (by simp)
      simp only [List.intercalate, List.cons_append, List.intersperse, List.flatten_cons] at this ⊢
      simp [this]
theorem join_empty (sep : ByteArray) : joinText [] sep = ByteArray.empty := rfl
theorem join_single (x sep : ByteArray) : joinText [x] sep = x := by
  unfold joinText; rw [List.map_cons, List.map_nil, Lib.join_one, Lib.mk_data]
theorem join_snoc (l : List ByteArray) (x sep : ByteArray) (h : l ≠ []) : (joinText l sep ++ sep) ++ x = joinText (l ++ [x]) sep := by
  unfold joinText Lib.join
  rw [List.map_append, List.map_cons, List.map_nil, intercalate_snoc _ _ _ (by simpa using h)]
  apply ByteArray.ext
  apply Array.ext'
  simp [ByteArray.data_append]
theorem lens_tot (l : List ByteArray) : Lib.lens (l.map (·.data.toList)) = tot l := by
  induction l with
  | nil => rfl
  | cons x r ih => simp only [List.map_cons, Lib.lens, tot, List.sum_cons] at ih ⊢; rw [ih, ← Lib.size_eq]
theorem join_size (l : List ByteArray) (c : UInt8) (h : l ≠ []) : (joinText l ⟨#[c]⟩).size + 1 = tot l + l.length := by
  cases l with
  | nil => exact absurd rfl h
  | cons x r =>
    have e : (joinText (x :: r) ⟨#[c]⟩).size = (Lib.join ((x :: r).map (·.data.toList)) [c]).length := by simp [joinText, ByteArray.size]
    have hlt := lens_tot (x :: r)
    rw [List.map_cons] at hlt
    rw [e, List.map_cons, Lib.join_length, hlt]
    simp; omega
theorem join_take (l : List ByteArray) (k : Nat) (x sep : ByteArray) (h : l[k]? = some x) (hk : 0 < k) : (joinText (l.take k) sep ++ sep) ++ x = joinText (l.take (k + 1)) sep := by
  have h' := List.getElem?_eq_some_iff.1 h
  rw [List.take_succ_eq_append_getElem h'.1, h'.2]
  exact join_snoc _ x sep (by intro e; rcases List.take_eq_nil_iff.1 e with h0 | h0; · omega
                              · rw [h0] at h; simp at h)
theorem join_take_zero (l : List ByteArray) (x sep : ByteArray) (h : l[0]? = some x) : joinText (l.take 1) sep = x := by
  cases l with
  | nil => simp at h
  | cons y r => simp at h; subst h; simpa using join_single y sep
def Joinable (l : List ByteArray) (c : UInt8) : Prop := l ≠ [] ∧ (∀ x ∈ l, c ∉ x.data.toList) ∧ (joinText l ⟨#[c]⟩).size ≤ 4000

/-- What both loops know behind k texts. -/
def GoodTo (l : List ByteArray) (c : UInt8) (k : Nat) : Prop := (∀ x ∈ l.take k, c ∉ x.data.toList) ∧ (joinText (l.take k) ⟨#[c]⟩).size ≤ 4000
theorem good_zero (l : List ByteArray) (c : UInt8) : GoodTo l c 0 := ⟨by simp, by rw [List.take_zero, join_empty]; exact Nat.zero_le _⟩
theorem good_mem {l : List ByteArray} {c : UInt8} {k : Nat} {x : ByteArray} (h : GoodTo l c k) (hx : l[k]? = some x) (hc : c ∉ x.data.toList) : ∀ y ∈ l.take (k + 1), c ∉ y.data.toList := by
  have h' := List.getElem?_eq_some_iff.1 hx
  rw [List.take_succ_eq_append_getElem h'.1, h'.2]
  intro y hy
  rcases List.mem_append.1 hy with hy | hy
  · exact h.1 y hy
  · simp at hy; rw [hy]; exact hc
theorem good_all {l : List ByteArray} {c : UInt8} (h : GoodTo l c l.length) (h0 : l ≠ []) : Joinable l c := by
  unfold GoodTo at h; rw [List.take_length] at h; exact ⟨h0, h.1, h.2⟩
theorem joinable_good {l : List ByteArray} {c : UInt8} (h : Joinable l c) (k : Nat) : GoodTo l c k := by
  refine ⟨fun x hx => h.2.1 x (List.mem_of_mem_take hx), ?_⟩
  by_cases hk : l.take k = []
  · rw [hk, join_empty]; exact Nat.zero_le _
  · have h1 := join_size (l.take k) c hk
    have h2 := join_size l c h.1
    have h3 := tot_take_le l k
    have h4 := h.2.2
    have h5 : (l.take k).length ≤ l.length := List.length_take_le' _ _
    omega

def JoinEnd (l : List ByteArray) (c : UInt8) (w : World) (e : Ending) (w' : World) : Prop :=
  ((Joinable l c ∧ e = .returned (.tuple #[.string (joinText l ⟨#[c]⟩), .bool true])) ∨ (¬ Joinable l c ∧ e = .returned (.tuple #[.string ⟨#[]⟩, .bool false]))) ∧ Below w.heap.size w w'
theorem JoinEnd.yes {l : List ByteArray} {c : UInt8} {w w' : World} (h : Joinable l c) (hb : Below w.heap.size w w') : JoinEnd l c w (.returned (.tuple #[.string (joinText l ⟨#[c]⟩), .bool true])) w' := ⟨.inl ⟨h, rfl⟩, hb⟩
theorem JoinEnd.no {l : List ByteArray} {c : UInt8} {w w' : World} (h : ¬ Joinable l c) (hb : Below w.heap.size w w') : JoinEnd l c w (.returned (.tuple #[.string ⟨#[]⟩, .bool false])) w' := ⟨.inr ⟨h, rfl⟩, hb⟩

set_option maxHeartbeats 2000000 in
theorem specJoin (w : World) (a : Option Addr) (l : List ByteArray) (cap : Nat) (c : UInt8) (h : TextsAt w a l) (hl : l.length ≤ 1048576) (hm : ∀ x ∈ l, x.size ≤ 1048576) (hne : 0 < l.length) :
    Calls Try.prog 13 #[.slice a l.length cap, .string ⟨#[c]⟩] w (JoinEnd l c w) := by
  have HM := Lib.hid hm
  have HT := Lib.hid h
  have hlne : l ≠ [] := by intro e; rw [e] at hne; simp at hne
  have HL := Lib.hid hlne
  clear hm h hlne
  have hz : ((l.length : Int) == 0) = false := by rw [beq_eq_false_iff_ne]; omega
  go_enter Try.func13, Try.ntmps13
  go_wp2
  go_loopw [6, 7] (fun out i wr => ∃ k : Nat, k ≤ l.length ∧ i = .int .i64 k ∧ out = .string (joinText (l.take k) ⟨#[c]⟩) ∧ Hid (GoodTo l c k) ∧ Below w.heap.size w wr) (fun _ i _ => l.length - (intOf i).toNat)
  case atStart => exact ⟨0, Nat.zero_le _, rfl, rfl, good_zero l c, Below.refl _ _⟩
  case round =>
    obtain ⟨k, hk, rfl, rfl, HG, hb⟩ := hrel
    by_cases hlt : k < l.length
    · obtain ⟨x, hx⟩ : ∃ x, l[k]? = some x := ⟨_, List.getElem?_eq_getElem hlt⟩
      have hxs := HM.out x (List.mem_of_getElem? hx)
      have hjs : (joinText (l.take k) ⟨#[c]⟩).size ≤ 4000 := HG.out.2
      obtain ⟨b, o, rfl, _, hcell⟩ := (HT.out.below hb (Nat.le_refl _)).cellAt hx
      have hk0 : (0 : Int) ≤ (k : Int) := by omega
      have hkl : (k : Int) < (l.length : Int) := by omega
      by_cases hc : c ∈ x.data.toList
      · have CS := fun W => standsYes x c c.toNat rfl W (by omega) hc
        have HN : Hid (¬ Joinable l c) := fun hj => hj.2.1 x (List.mem_of_getElem? hx) hc
        clear hx hc
        go_wp2_with fail
        go_quiet ((go_at_call 32; exact quiet_left (CS _)))
        go_wp2
        go_ret2
        exact JoinEnd.no HN.out (Go.below_drewN hb nq)
      · have CS := fun W => standsNo x c c.toNat rfl W (by omega) hc
        rcases Nat.eq_zero_or_pos k with rfl | hkp
        · have hcell0 : wr.cell? ⟨b, o, none⟩ = some (.string x) := hcell
          have hj : joinText (l.take 0) ⟨#[c]⟩ ++ x = joinText (l.take (0 + 1)) ⟨#[c]⟩ := by
            rw [List.take_zero, join_empty, join_take_zero l x ⟨#[c]⟩ hx]; simp
          have hsz : (joinText (l.take (0 + 1)) ⟨#[c]⟩).size = (joinText (l.take 0) ⟨#[c]⟩).size + x.size := by rw [← hj, ByteArray.size_append]
          have HJ := Lib.hid hj
          by_cases hfit : (joinText (l.take (0 + 1)) ⟨#[c]⟩).size ≤ 4000
          · have HG2 : Hid (GoodTo l c (0 + 1)) := ⟨good_mem HG.out hx hc, hfit⟩
            have hf : ((joinText (l.take 0) ⟨#[c]⟩).size : Int) + (x.size : Int) ≤ 4000 := by omega
            clear hx hc hfit hj hsz
            generalize joinText (l.take 0) ⟨#[c]⟩ = out at *
            go_wp2_with fail
            go_quiet ((go_at_call 32; exact quiet_left (CS _)))
            go_wp2
            go_roundw
            case rel => exact ⟨0 + 1, by omega, by go_num, by rw [← HJ.out], HG2, Go.below_drewN hb nq⟩
            case measure => simp [intOf]; omega
          · have HN : Hid (¬ Joinable l c) := fun hj => hfit (joinable_good hj (0 + 1)).2
            have hf : ¬ ((joinText (l.take 0) ⟨#[c]⟩).size : Int) + (x.size : Int) ≤ 4000 := by omega
            clear hx hc hfit hj hsz
            generalize joinText (l.take 0) ⟨#[c]⟩ = out at *
            go_wp2_with fail
            go_quiet ((go_at_call 32; exact quiet_left (CS _)))
            go_wp2
            go_outline
            go_ret2
            exact JoinEnd.no HN.out (Go.below_drewN hb nq)
        · have hj := join_take l k x ⟨#[c]⟩ hx hkp
          have hsz : (joinText (l.take (k + 1)) ⟨#[c]⟩).size = (joinText (l.take k) ⟨#[c]⟩).size + 1 + x.size := by rw [← hj, ByteArray.size_append, ByteArray.size_append]; rfl
          have HJ := Lib.hid hj
          by_cases hfit : (joinText (l.take (k + 1)) ⟨#[c]⟩).size ≤ 4000
          · have HG2 : Hid (GoodTo l c (k + 1)) := ⟨good_mem HG.out hx hc, hfit⟩
            have hf : ((joinText (l.take k) ⟨#[c]⟩).size : Int) + 1 + (x.size : Int) ≤ 4000 := by omega
            clear hx hc hfit hj hsz
            generalize joinText (l.take k) ⟨#[c]⟩ = out at *
            go_wp2_with fail
            go_quiet ((go_at_call 32; exact quiet_left (CS _)))
            go_wp2
            go_roundw
            case rel => exact ⟨k + 1, by omega, by go_num, by rw [← HJ.out], HG2, Go.below_drewN hb nq⟩
            case measure => simp [intOf]; omega
          · have HN : Hid (¬ Joinable l c) := fun hj => hfit (joinable_good hj (k + 1)).2
            have hf : ¬ ((joinText (l.take k) ⟨#[c]⟩).size : Int) + 1 + (x.size : Int) ≤ 4000 := by omega
            clear hx hc hfit hj hsz
            generalize joinText (l.take k) ⟨#[c]⟩ = out at *
            go_wp2_with fail
            go_quiet ((go_at_call 32; exact quiet_left (CS _)))
            go_wp2
            go_outline
            go_ret2
            exact JoinEnd.no HN.out (Go.below_drewN hb nq)
    · obtain rfl : k = l.length := by omega
      have HY : Hid (Joinable l c) := good_all HG.out HL.out
      have ht : l.take l.length = l := List.take_length
      rw [ht] at *
      clear ht
      go_wp2
      go_ret2
      exact JoinEnd.yes HY.out hb
end Go.Proofs.Ytopdaocamjfbdaa
