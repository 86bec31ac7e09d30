/- The iterator over the pieces of a text, and the loop that collects them. -/
import Derived.RangeFuncNested
import Derived.RangeFuncBox
import Derived.RangeFuncCalls
import Derived.RangeFuncLeaves
import Derived.Shelf.Abstract
import Derived.Shelf.RegionOpen
import Derived.WalkKit
import Derived.OwnWalkIn
import Derived.TacticsInMore
import Derived.LoopNIn
import Derived.LoopIn
import Derived.Maps.AppendAt
import Derived.Sort.QuietIn
import Derived.Outline
import Derived.Test.YtopdaocamjfbdaaSplit
namespace Go.Proofs.Ytopdaocamjfbdaa
open Go.RowKit Go.Shelf
set_option linter.unusedVariables false

attribute [local go_sem] Oper.semAt_some

theorem cut_mono (s : ByteArray) (c : UInt8) (k d : Nat) : (cutSt s c k).1 <+: (cutSt s c (k + d)).1 := by
  induction d with
  | zero => exact List.prefix_refl _
  | succ d ih =>
    refine ih.trans ?_
    show _ <+: (cutSt s c (k + d + 1)).1
    simp only [cutSt]
    split
    · exact List.prefix_append _ _
    · exact List.prefix_refl _
theorem cut_prefix (s : ByteArray) (c : UInt8) (k : Nat) (hk : k ≤ s.size) : (cutSt s c k).1 <+: splitOf s c := by
  have h := cut_mono s c k (s.size - k)
  rw [show k + (s.size - k) = s.size by omega] at h
  exact h.trans (List.prefix_append _ _)
theorem cut_lt (s : ByteArray) (c : UInt8) (k : Nat) (hk : k ≤ s.size) : (cutSt s c k).1.length < (splitOf s c).length := by
  have h := cut_mono s c k (s.size - k)
  rw [show k + (s.size - k) = s.size by omega] at h
  have := h.length_le
  unfold splitOf
  simp; omega
/-- What a round keeps: what lay below n₀, and the two boxes. -/
def KeepS (n₀ Bs Bc : Nat) (W W' : World) : Prop := Below n₀ W W' ∧ W'.heap[Bs]? = W.heap[Bs]? ∧ W'.heap[Bc]? = W.heap[Bc]?
theorem KeepS.trans {n₀ Bs Bc : Nat} {X Y Z : World} (h : KeepS n₀ Bs Bc X Y) (k : KeepS n₀ Bs Bc Y Z) : KeepS n₀ Bs Bc X Z := ⟨h.1.trans k.1, k.2.1.trans h.2.1, k.2.2.trans h.2.2⟩
theorem KeepS.cells {n₀ Bs Bc : Nat} {W W' : World} (h : KeepS n₀ Bs Bc W W') : W'.cell? ⟨Bs, 0, none⟩ = W.cell? ⟨Bs, 0, none⟩ ∧ W'.cell? ⟨Bc, 0, none⟩ = W.cell? ⟨Bc, 0, none⟩ :=
  ⟨World.cell?_of_block (w := W) (a := ⟨Bs, 0, none⟩) h.2.1, World.cell?_of_block (w := W) (a := ⟨Bc, 0, none⟩) h.2.2⟩
theorem abides_draws {β : Type} {B : Nat} {J : β → World → Prop} (h : AbidesFrom B J) {s : β} {W : World} (n : Nat) (hj : J s W) : J s (W.drewN n) :=
  h s W (W.drewN n) none hj ⟨rfl, rfl, rfl, Nat.le_refl _, fun _ _ _ => rfl⟩ (fun r e => by cases e)

set_option maxRecDepth 100000 in
set_option maxHeartbeats 2000000 in
theorem parts1_in (n : Nat) (hn : 1 ≤ n) (l Bs Bc n₀ : Nat) (s : ByteArray) (c : UInt8) (hs : s.size ≤ 4000) (J Jx : List ByteArray → World → Prop)
    (W : World) (hJ : AbidesFrom W.heap.size J)
    (hY : ∀ pre x W, J pre W → pre.length < (splitOf s c).length → YieldAt Fence.wide (n - 1) Try.prog l #[.string x] W fun e W' =>
      (e = .returned (.bool true) ∧ J (pre ++ [x]) W' ∧ KeepS n₀ Bs Bc W W') ∨ (e = .returned (.bool false) ∧ Jx (pre ++ [x]) W'))
    (hcs : W.cell? ⟨Bs, 0, none⟩ = some (.string s)) (hcc : W.cell? ⟨Bc, 0, none⟩ = some (.int .u8 (c.toNat : Int))) (h0 : J [] W) :
    CallsIn Fence.wide n Try.prog 36 #[.func (.yield l) #[] #[], .pointer (some ⟨Bs, 0, none⟩), .pointer (some ⟨Bc, 0, none⟩)] W fun e W' => (∃ v, e = .returned v) ∧
      ((∃ ys, ys = splitOf s c ∧ J ys W') ∨ (∃ pre, pre <+: splitOf s c ∧ Jx pre W')) := by
  have HY := Lib.hid hY
  clear hY
  refine callsIn_of_wp Try.func36 rfl trivial ?_ rfl
  simp only [Try.ntmps36, List.size_toArray, List.length_cons, List.length_nil, Nat.reduceAdd, Nat.reduceSub, Array.replicate_succ, Array.replicate_zero, List.push_toArray, List.append_toArray, List.nil_append, List.cons_append]
  gi_wp2
  gi_loopw [4, 8] (fun st i wr => ∃ (k f : Nat) (done : List ByteArray), k ≤ s.size ∧ i = .int .i64 k ∧ Hid (cutSt s c k = (done, f)) ∧ st = .int .i64 f ∧ J done wr ∧ wr.cell? ⟨Bs, 0, none⟩ = some (.string s) ∧ wr.cell? ⟨Bc, 0, none⟩ = some (.int .u8 (c.toNat : Int)))
    (fun _ i _ => s.size - (intOf i).toNat)
  case atStart => exact ⟨0, 0, [], Nat.zero_le _, rfl, rfl, rfl, h0, hcs, hcc⟩
  case round =>
    obtain ⟨k, f, done, hk, rfl, HC, rfl, hJs, hcs2, hcc2⟩ := hrel
    have hle := cutSt_le s c k
    have hlen := cut_lt s c k hk
    rw [HC.out] at hle hlen
    have hl2 : f ≤ k := hle.2
    have HL : Hid (done.length < (splitOf s c).length) := hlen
    clear hle hlen
    by_cases hlt : k < s.size
    · by_cases hc : s[k] = c
      · have hnext := cutSt_hit s c k hlt hc
        rw [HC.out] at hnext
        have HN := Lib.hid hnext
        have hpre : done ++ [s.extract f k] <+: splitOf s c := by have := cut_prefix s c (k + 1) (by omega); rwa [hnext] at this
        have HP := Lib.hid hpre
        have hceq : ((s[k].toNat : Int) == (c.toNat : Int)) = true := by rw [hc]; simp
        have hceq2 : ((s[k].toNat : Int) != (c.toNat : Int)) = false := by rw [hc]; simp
        clear hnext hc hpre
        gi_wp2
        gi_quiet (fail)
        have hJq := abides_draws hJ nq hJs
        obtain ⟨fn, tmps, assign, body, hy, hR⟩ := HY.out done (s.extract f k) _ hJq HL.out
        gi_wp2
        refine hR.mono ?_
        rintro e W3 (⟨rfl, hJ3, hk3⟩ | ⟨rfl, hJx3⟩)
        · gi_wp2
          go_roundw
          case rel => exact ⟨k + 1, k + 1, done ++ [s.extract f k], by omega, by go_num, HN.out, by go_num, hJ3, hk3.cells.1.trans hcs2, hk3.cells.2.trans hcc2⟩
          case measure => simp [intOf]; omega
        · gi_wp2
          refine bodyPost_ret (results_none rfl _ _ _) rfl ?_
          exact ⟨⟨_, rfl⟩, .inr ⟨_, HP.out, hJx3⟩⟩
      · have hnext := cutSt_miss s c k hlt hc
        rw [HC.out] at hnext
        have HN := Lib.hid hnext
        have hne : ((s[k].toNat : Int) == (c.toNat : Int)) = false := by
          rw [beq_eq_false_iff_ne]; intro h; exact hc (UInt8.toNat_inj.1 (by omega))
        have hne2 : ((s[k].toNat : Int) != (c.toNat : Int)) = true := by
          rw [bne_iff_ne]; intro h; exact hc (UInt8.toNat_inj.1 (by omega))
        clear hnext hc
        gi_wp2
        gi_quiet (fail)
        gi_wp2
        go_roundw
        case rel => exact ⟨k + 1, f, done, by omega, by go_num, HN.out, rfl, abides_draws hJ nq hJs, hcs2, hcc2⟩
        case measure => simp [intOf]; omega
    · obtain rfl : k = s.size := by omega
      have hall : splitOf s c = done ++ [s.extract f s.size] := by unfold splitOf; rw [HC.out]
      have HA := Lib.hid hall
      clear hall
      obtain ⟨fn, tmps, assign, body, hy, hR⟩ := HY.out done (s.extract f s.size) _ hJs HL.out
      gi_wp2
      refine hR.mono ?_
      rintro e W3 (⟨rfl, hJ3, hk3⟩ | ⟨rfl, hJx3⟩)
      · gi_wp2
        go_end0
        exact ⟨⟨_, rfl⟩, .inl ⟨_, HA.out.symm, hJ3⟩⟩
      · gi_wp2
        go_end0
        exact ⟨⟨_, rfl⟩, .inr ⟨_, by rw [HA.out]; exact List.prefix_refl _, hJx3⟩⟩

/-- The iterator's maker: both parameters are boxed. -/
theorem parts_in (n : Nat) (s : ByteArray) (c : Int) (w : World) :
    CallsIn Fence.wide n Try.prog 27 #[.string s, .int .u8 c] w fun e w' => e = .returned (.func (.func 36) #[] #[.pointer (some ⟨w.heap.size, 0, none⟩), .pointer (some ⟨w.heap.size + 1, 0, none⟩)]) ∧ w' = (w.alloc (.cells #[.string s] 9)).alloc (.cells #[.int .u8 c] 5) := by
  refine callsIn_of_wp Try.func27 rfl trivial ?_ rfl
  simp only [Try.ntmps27, List.size_toArray, List.length_cons, List.length_nil, Nat.reduceAdd, Nat.reduceSub, Array.replicate_succ, Array.replicate_zero, List.push_toArray, List.append_toArray, List.nil_append, List.cons_append]
  gi_wp2
  go_ret
  exact ⟨rfl, rfl⟩

theorem parts_stops (n : Nat) (hn : 1 ≤ n) (Bs Bc n₀ : Nat) (s : ByteArray) (c : UInt8) (hs : s.size ≤ 4000) (w : World) (hbs : Bs < w.heap.size) (hbc : Bc < w.heap.size)
    (hcs : w.cell? ⟨Bs, 0, none⟩ = some (.string s)) (hcc : w.cell? ⟨Bc, 0, none⟩ = some (.int .u8 (c.toNat : Int))) :
    SeqStopsK Fence.wide n Try.prog 36 #[.pointer (some ⟨Bs, 0, none⟩), .pointer (some ⟨Bc, 0, none⟩)] (fun x : ByteArray => #[Value.string x]) (KeepS n₀ Bs Bc) (fun ys => ys = splitOf s c) (fun pre => pre <+: splitOf s c) (splitOf s c).length w := fun l J Jx W hW hJ _ hY h0 =>
  parts1_in n hn l Bs Bc n₀ s c hs J Jx W hJ hY ((hW.cell (p := ⟨Bs, 0, none⟩) hbs).trans hcs) ((hW.cell (p := ⟨Bc, 0, none⟩) hbc).trans hcc) h0

end Go.Proofs.Ytopdaocamjfbdaa
