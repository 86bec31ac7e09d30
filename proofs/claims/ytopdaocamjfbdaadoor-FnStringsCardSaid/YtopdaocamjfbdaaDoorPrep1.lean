/- What the law of strings asks for, in one answer for each function. -/
import Derived.Test.YtopdaocamjfbdaaDoorChange
import Derived.Test.YtopdaocamjfbdaaDoorRead
import Derived.Test.YtopdaocamjfbdaaDoorDrawD
import Derived.StillTailTactics
import Derived.Lib.ConvBytes
import Derived.Laws.BitsAllLaws
namespace Go.Proofs.YtopdaocamjfbdaaDoor
open Go.RowKit
set_option linter.unusedVariables false

theorem CodeAt.mono {B B' : Nat} {w : World} {a : Option Addr} {len : Nat} (h : CodeAt B w a len) (hB : B ≤ B') : CodeAt B' w a len := by
  rcases h with h | ⟨cb, co, h1, h2, h3⟩
  · exact .inl h
  · exact .inr ⟨cb, co, h1, by omega, h3⟩
theorem CodeAt.later {w w' : World} {a : Option Addr} {len : Nat} (h : CodeAt w.heap.size w a len) (hb : Below w.heap.size w w') : CodeAt w'.heap.size w' a len := (h.below hb).mono hb.size
theorem below_step {w w1 w2 : World} (h1 : Below w.heap.size w w1) (h2 : Below w1.heap.size w1 w2) : Below w.heap.size w w2 := h1.trans (h2.mono h1.size)
theorem vBig_any (w : World) (a : Option Addr) (len cap : Nat) (y : Bool) (h : decide ((65536 : Int) < (len : Int)) = y) :
    Calls Tryd.prog 8 #[.slice a len cap] w fun e w' => e = .returned (.bool y) ∧ w = w' := by
  subst h
  go_enter Tryd.func8, Tryd.ntmps8
  go_wp2
  go_ret
  exact ⟨rfl, rfl⟩
/-- 'vAt(code, i)' is one number, in every later world. -/
theorem vAt_all {w : World} {B : Nat} {a : Option Addr} {len : Nat} (cap : Nat) (hC : CodeAt B w a len) (i : Int) (hi0 : 0 ≤ i) (hi1 : i ≤ 1000) (hl : len ≤ 65536) :
    ∃ r : Int, 0 ≤ r ∧ r ≤ 255 ∧ ∀ W, Below B w W → Calls Tryd.prog 19 #[.slice a len cap, .int .i64 i] W fun e w' => e = .returned (.int .i64 r) ∧ w' = W := by
  by_cases hlt : i < (len : Int)
  · rcases hC with h0 | ⟨cb, co, rfl, h2, h3⟩
    · omega
    · obtain ⟨v, hv, hv0, hv1⟩ := h3 i.toNat (by omega)
      refine ⟨v, hv0, hv1, fun W hb => ?_⟩
      have hc : W.cell? ⟨cb, co + i.toNat, none⟩ = some (.int .u8 v) := (hb.cell (p := ⟨cb, co + i.toNat, none⟩) h2).trans hv
      clear h3 hv
      go_enter Tryd.func19, Tryd.ntmps19
      go_wp2
      go_ret
      exact ⟨rfl, rfl⟩
  · refine ⟨(i * 7 + len) % 256, by omega, by omega, fun W hb => ?_⟩
    go_enter Tryd.func19, Tryd.ntmps19
    go_wp2
    go_ret
    exact ⟨rfl, rfl⟩

open Classical in
noncomputable def fmtRes (n : Int) : ByteArray × Bool := if -999999 ≤ n ∧ n ≤ 999999 then (intText n, true) else (⟨#[]⟩, false)
theorem implFmtAll (n : Int) (w : World) (ht : Tab w) : Calls Tryd.prog 10 #[.int .i64 n] w fun e w' => e = .returned (.tuple #[.string (fmtRes n).1, .bool (fmtRes n).2]) ∧ Below w.heap.size w w' := by
  by_cases h : -999999 ≤ n ∧ n ≤ 999999
  · rw [fmtRes, if_pos h]; exact implFmtYes n w ht h.1 h.2
  · rw [fmtRes, if_neg h]; exact implFmtNo n w (by omega)
theorem specFmtAll (n : Int) (w : World) : Calls Tryd.prog 11 #[.int .i64 n] w fun e w' => e = .returned (.tuple #[.string (fmtRes n).1, .bool (fmtRes n).2]) ∧ Below w.heap.size w w' := by
  by_cases h : -999999 ≤ n ∧ n ≤ 999999
  · rw [fmtRes, if_pos h]; exact specFmtYes n w h.1 h.2
  · rw [fmtRes, if_neg h]; exact specFmtNo n w (by omega)

theorem text_of_not {s : ByteArray} (h : ¬ NoText s) : ∃ m : Int, -999999 ≤ m ∧ m ≤ 999999 ∧ s = intText m :=
  Classical.byContradiction fun hn => h fun m h0 h1 he => hn ⟨m, h0, h1, he⟩
open Classical in
noncomputable def parseRes (s : ByteArray) : Int × Bool := if h : NoText s then (0, false) else (Classical.choose (text_of_not h), true)
theorem implParseAll (s : ByteArray) (w : World) (ht : Tab w) (hs : s.size ≤ 9223372036854775807) : Calls Tryd.prog 13 #[.string s] w fun e w' => e = .returned (.tuple #[.int .i64 (parseRes s).1, .bool (parseRes s).2]) ∧ Below w.heap.size w w' := by
  by_cases h : NoText s
  · rw [parseRes, dif_pos h]; exact implParseNo s w ht hs h
  · have e := Classical.choose_spec (text_of_not h)
    rw [parseRes, dif_neg h]
    generalize Classical.choose (text_of_not h) = m at *
    obtain ⟨h0, h1, rfl⟩ := e
    exact implParseYes m w ht h0 h1
theorem specParseAll (s : ByteArray) (w : World) (hs : s.size ≤ 9223372036854775807) : Calls Tryd.prog 14 #[.string s] w fun e w' => e = .returned (.tuple #[.int .i64 (parseRes s).1, .bool (parseRes s).2]) ∧ Below w.heap.size w w' := by
  by_cases h : NoText s
  · rw [parseRes, dif_pos h]; exact specParseNo s w hs h
  · have e := Classical.choose_spec (text_of_not h)
    rw [parseRes, dif_neg h]
    generalize Classical.choose (text_of_not h) = m at *
    obtain ⟨h0, h1, rfl⟩ := e
    exact specParseYes m w h0 h1
theorem no_empty : NoText ⟨#[]⟩ := by
  intro m h0 h1 he
  have h2 := congrArg ByteArray.size he
  have hn := Lib.nDigits_pos m.natAbs
  rw [text_size, Dec.itoa_len] at h2
  have h3 : (⟨#[]⟩ : ByteArray).size = 0 := rfl
  omega

open Classical in
noncomputable def appRes (s : ByteArray) : ByteArray × Bool := if Sealable s then (sealText s, true) else (⟨#[]⟩, false)
theorem implAppAll (s : ByteArray) (w : World) (ht : Tab w) (hs : s.size ≤ 9223372036854775807) : Calls Tryd.prog 16 #[.string s] w fun e w' => e = .returned (.tuple #[.string (appRes s).1, .bool (appRes s).2]) ∧ Below w.heap.size w w' := by
  by_cases h : Sealable s
  · rw [appRes, if_pos h]; exact implAppendYes s w ht h.1 h.2.1 h.2.2
  · rw [appRes, if_neg h]; exact implAppendNo s w ht hs h
theorem specAppAll (s : ByteArray) (w : World) (hs : s.size ≤ 9223372036854775807) : Calls Tryd.prog 17 #[.string s] w fun e w' => e = .returned (.tuple #[.string (appRes s).1, .bool (appRes s).2]) ∧ Below w.heap.size w w' := by
  by_cases h : Sealable s
  · rw [appRes, if_pos h]; exact specAppendYes s w h.1 h.2.1 h.2.2
  · rw [appRes, if_neg h]; exact specAppendNo s w hs h

theorem seal_head (x : ByteArray) (h : Sealable x) : headOf (sealText x) 35 = x := by
  have e := seal_list x
  have hD := itoa_free _ (sumOf_bd x.data.toList).1
  rcases idx_spec (sealText x).data.toList 35 with ⟨_, h2⟩ | ⟨j, h1, h2, h3⟩
  · exfalso; apply h2; rw [e]; simp
  · rw [head_at _ _ j h1]
    rw [e] at h2
    have hj := mark_only h.2.1 hD j h2
    apply ByteArray.ext
    apply Array.ext'
    rw [Lib.extract_data, e, hj]
    simp
theorem seal_sealed (x : ByteArray) (h : Sealable x) : Sealed (sealText x) := ⟨by rw [seal_head x h], h.2.2⟩

/-- '[]byte(s)': a new row of the bytes, which may be written. -/
theorem bytes_of (w : World) (s : ByteArray) : ∃ cap w1, (convert 9 22 (.string s)).run Tryd.prog w = .ok (.slice (some ⟨w.heap.size, 0, none⟩) s.size cap) w1 ∧
    (∀ j (h : j < s.size), w1.cell? ⟨w.heap.size, j, none⟩ = some (.int .u8 (s[j].toNat : Int)) ∧ w1.frozen? ⟨w.heap.size, j, none⟩ = false) ∧ Below w.heap.size w w1 ∧ w.heap.size < w1.heap.size := by
  refine ⟨_, _, Lib.run_convert_string_bytes (P := Tryd.prog) w 9 22 5 s Tryd.underlying9 Tryd.underlying22 Tryd.underlying5, fun j h => ⟨?_, ?_⟩, ⟨rfl, rfl, rfl, ?_, fun k hk => Lib.bytesWorld_at_old w _ s k hk⟩, ?_⟩
  · rw [Lib.bytesWorld_cell w _ s j h]
    have := byte_at s j h
    rw [List.getD_eq_getElem?_getD, this]; rfl
  · have hh := Lib.bytesWorld_at_new w 5 s
    have hsz : s.size ≤ (Lib.bytesCells w 5 s).size := by unfold Lib.bytesCells; rw [Array.size_append, Array.size_map]; exact Nat.le_add_right _ _
    simp [World.frozen?, hh]
    omega
  · rw [Lib.bytesWorld_size]; omega
  · rw [Lib.bytesWorld_size]; omega
/-- What 'b[k] ^ d' leaves, for a d that is not 0. -/
theorem xor_byte (u : UInt8) (d : Int) (h0 : 1 ≤ d) (h1 : d ≤ 255) : ∃ v : UInt8, v ≠ u ∧ bits BinOp.xor .u8 (u.toNat : Int) d = (v.toNat : Int) := by
  refine ⟨u ^^^ UInt8.ofNat d.toNat, ?_, ?_⟩
  · intro e
    have h2 := congrArg UInt8.toNat e
    rw [UInt8.toNat_xor, UInt8.toNat_ofNat', Nat.mod_eq_of_lt (by omega)] at h2
    have h3 : u.toNat ^^^ (u.toNat ^^^ d.toNat) = u.toNat ^^^ u.toNat := by rw [h2]
    rw [← Nat.xor_assoc, Nat.xor_self, Nat.zero_xor] at h3
    omega
  · have hu := u.toNat_lt
    rw [u8_xor _ _ (by omega) (by omega) (by omega) (by omega), UInt8.toNat_xor, UInt8.toNat_ofNat', Nat.mod_eq_of_lt (by omega)]
    simp
def withByte (s : ByteArray) (k : Nat) (v : UInt8) : ByteArray := ⟨(s.data.toList.set k v).toArray⟩
/-- 'string(b)' behind the store. -/
theorem text_of (w1 : World) (g : Nat) (cap : Nat) (s : ByteArray) (k : Nat) (v : UInt8) (hk : k < s.size)
    (hc : ∀ j (h : j < s.size), w1.cell? ⟨g, j, none⟩ = some (.int .u8 (s[j].toNat : Int))) :
    (convert 22 9 (.slice (some ⟨g, 0, none⟩) s.size cap)).run Tryd.prog (w1.setCell ⟨g, k, none⟩ (.int .u8 (v.toNat : Int))) = .ok (.string (withByte s k v)) (w1.setCell ⟨g, k, none⟩ (.int .u8 (v.toNat : Int))) := by
  have hl : (s.data.toList.set k v).length = s.size := by rw [List.length_set, ← Lib.size_eq]
  have := run_convert_bytes_back (P := Tryd.prog) (w1.setCell ⟨g, k, none⟩ (.int .u8 (v.toNat : Int))) 22 9 5 ⟨g, 0, none⟩ cap (s.data.toList.set k v) Tryd.underlying22 Tryd.underlying5 Tryd.underlying9 (by
    intro j hj
    rw [hl] at hj
    rw [add_at, Nat.zero_add, List.getElem_set]
    by_cases e : k = j
    · subst e
      rw [if_pos rfl]
      exact World.cell?_setCell_same' _ _ _ (by rw [hc k hj]; rfl)
    · rw [if_neg e]
      have h2 := hc j hj
      have hb := byte_at s j hj
      have h3 := (List.getElem?_eq_some_iff.1 hb).2
      rw [h3]
      rw [← h2]
      exact World.cell?_setCell_other _ _ _ _ (fun e2 => e (by injection e2)))
  rw [hl] at this
  exact this
end Go.Proofs.YtopdaocamjfbdaaDoor
