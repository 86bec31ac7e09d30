/- The walk of impl.JoinStrings, and the law of JoinStrings. -/
import Derived.Test.YtopdaocamjfbdaaJoin
namespace Go.Proofs.Ytopdaocamjfbdaa
open Go.RowKit
set_option linter.unusedVariables false

theorem containsYes (s : ByteArray) (c : UInt8) (w : World) (h : c ∈ s.data.toList) :
    Calls Try.prog 30 #[.string s, .string ⟨#[c]⟩] w fun e w' => e = .returned (.bool true) ∧ w = w' := by
  have d := Try.strings_Contains_one s c w
  rw [decide_eq_true ((indexByte_mem _ _).2 h)] at d
  exact d.mono fun e w' ⟨he, hw⟩ => ⟨he, hw.symm⟩
theorem containsNo (s : ByteArray) (c : UInt8) (w : World) (h : c ∉ s.data.toList) :
    Calls Try.prog 30 #[.string s, .string ⟨#[c]⟩] w fun e w' => e = .returned (.bool false) ∧ w = w' := by
  have d := Try.strings_Contains_one s c w
  rw [decide_eq_false (fun h0 => h ((indexByte_mem _ _).1 h0))] at d
  exact d.mono fun e w' ⟨he, hw⟩ => ⟨he, hw.symm⟩

theorem joinable_tot {l : List ByteArray} {c : UInt8} (h : Joinable l c) : tot l + l.length ≤ 4001 := by
  have := join_size l c h.1; have := h.2.2; omega
theorem joinable_of {l : List ByteArray} {c : UInt8} (h0 : l ≠ []) (h1 : ∀ x ∈ l, c ∉ x.data.toList) (h2 : tot l + l.length ≤ 4001) : Joinable l c := by
  have := join_size l c h0; exact ⟨h0, h1, by omega⟩

set_option maxHeartbeats 2000000 in
theorem implJoin (w : World) (a : Option Addr) (l : List ByteArray) (cap : Nat) (c : UInt8) (h : TextsAt w a l) (hcap : l.length ≤ cap) (hl : l.length ≤ 1048576) (hm : ∀ x ∈ l, x.size ≤ 1048576) (hne : 0 < l.length) :
    Calls Try.prog 12 #[.slice a l.length cap, .string ⟨#[c]⟩] w (JoinEnd l c w) := by
  have HM := Lib.hid hm
  have HT := Lib.hid h
  have hlne : l ≠ [] := by intro e; rw [e] at hne; simp at hne
  have HL := Lib.hid hlne
  have hz : ((l.length : Int) == 0) = false := by rw [beq_eq_false_iff_ne]; omega
  have HJ : Hid (Joinable l c → Calls Try.prog 31 #[.slice a l.length cap, .string ⟨#[c]⟩] w fun e w' => e = .returned (.string (joinText l ⟨#[c]⟩)) ∧ Below w.heap.size w w') := by
    intro hj
    rcases h with h0 | ⟨b, o, rfl, hb, hc⟩
    · exact absurd h0 hlne
    · exact Try.strings_Join b o cap l ⟨#[c]⟩ w (fun j x hx => hc j x hx) hb (by omega) hcap (by have := hj.2.2; simp [joinText, ByteArray.size] at this; simp; omega)
  clear hm h hlne
  go_enter Try.func12, Try.ntmps12
  go_wp2
  go_loop [6, 22] (fun sz i => ∃ (k : Nat) (r : Int), k ≤ l.length ∧ i = .int .i64 k ∧ sz = .int .i64 r ∧ 0 ≤ r ∧ r ≤ 1048576 ∧ Hid (r + 1 = l.length + tot (l.take k) ∧ (0 < k → r ≤ 4000) ∧ ∀ x ∈ l.take k, c ∉ x.data.toList)) (fun _ i => l.length - (intOf i).toNat)
  case atStart => exact ⟨0, _, Nat.zero_le _, rfl, rfl, by omega, by omega, by refine ⟨?_, ?_, ?_⟩ <;> simp [tot]⟩
  case round =>
    obtain ⟨k, r, hk, rfl, rfl, hr0, hr1, HR⟩ := hrel
    by_cases hlt : k < l.length
    · obtain ⟨x, hx⟩ : ∃ x, l[k]? = some x := ⟨_, List.getElem?_eq_getElem hlt⟩
      have hxs : (x.size : Int) ≤ 1048576 := by have := HM.out x (List.mem_of_getElem? hx); omega
      obtain ⟨b, o, rfl, _, hcell⟩ := HT.out.cellAt hx
      have htk := tot_take l k x hx
      by_cases hfit : r + (x.size : Int) ≤ 4000
      · by_cases hc : c ∈ x.data.toList
        · have CS := fun W => containsYes x c W hc
          have HN : Hid (¬ Joinable l c) := fun hj => hj.2.1 x (List.mem_of_getElem? hx) hc
          clear hx hc htk
          go_wp2_with (go_at_call 30; refine (CS _).mono ?_; rintro e w' ⟨rfl, rfl⟩)
          go_ret2
          exact JoinEnd.no HN.out (Below.refl _ _)
        · have CS := fun W => containsNo x c W hc
          have h' := List.getElem?_eq_some_iff.1 hx
          have HR2 : Hid ((r + x.size) + 1 = l.length + tot (l.take (k + 1)) ∧ (0 < k + 1 → r + x.size ≤ 4000) ∧ ∀ y ∈ l.take (k + 1), c ∉ y.data.toList) := by
            refine ⟨by rw [htk]; have := HR.out.1; omega, fun _ => hfit, ?_⟩
            rw [List.take_succ_eq_append_getElem h'.1, h'.2]
            intro y hy
            rcases List.mem_append.1 hy with hy | hy
            · exact HR.out.2.2 y hy
            · simp at hy; rw [hy]; exact hc
          clear hx hc htk h'
          go_wp2_with (go_at_call 30; refine (CS _).mono ?_; rintro e w' ⟨rfl, rfl⟩)
          go_round
          case rel => exact ⟨k + 1, _, by omega, by go_num, rfl, by omega, by omega, HR2⟩
          case measure => simp [intOf]; omega
      · have HN : Hid (¬ Joinable l c) := fun hj => by
          have h1 := joinable_tot hj
          have h2 := tot_take_le l (k + 1)
          have h3 := HR.out.1
          omega
        clear hx htk
        go_wp2
        go_ret2
        exact JoinEnd.no HN.out (Below.refl _ _)
    · obtain rfl : k = l.length := by omega
      have hj : Joinable l c := by
        have h1 := HR.out
        rw [List.take_length] at h1
        exact joinable_of HL.out h1.2.2 (by have := h1.2.1 hne; omega)
      have CJ := HJ.out hj
      have HY := Lib.hid hj
      clear hj
      go_wp2_with (go_at_call 31; refine CJ.mono ?_; rintro e w1 ⟨rfl, hb1⟩)
      go_ret2
      exact JoinEnd.yes HY.out hb1
end Go.Proofs.Ytopdaocamjfbdaa
