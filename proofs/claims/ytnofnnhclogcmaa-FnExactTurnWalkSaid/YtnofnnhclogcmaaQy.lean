/- Zh, Zi, Zj, Zk, in one text. -/
import Derived.RangeFuncNested
import Derived.RangeFuncBox
import Derived.RangeFuncCalls
import Derived.RangeFuncLeaves
import Derived.Shelf.Abstract
import Derived.Shelf.RegionOpen
import Derived.WalkKit
import Derived.OwnWalkIn
import Derived.TacticsInMore
import Derived.LoopNIn
import Derived.LoopIn
import Derived.Maps.AppendAt
import Derived.Sort.QuietIn
import Derived.Outline
import Derived.Lib.Hide
import Derived.Test.YtnofnnhclogcmaaProg
import Derived.OwnWalk
import Derived.WalkSpells
import Derived.Deep.QuietTactic
/- Ranging over the legs of a round trip: the iterator's contract. -/
namespace Go.Proofs.Ytnofnnhclogcmaa.R
open Go.RowKit Go.Shelf
set_option linter.unusedVariables false

attribute [local go_sem] Oper.semAt_some

/-- The legs of a round trip, the first k of them. -/
def legsL (zs : List Int) (k : Nat) : List (Int × Int) := (List.range k).map fun j => (zs.getD j 0, zs.getD ((j + 1) % zs.length) 0)
theorem legsL_succ (zs : List Int) (k : Nat) : legsL zs (k + 1) = legsL zs k ++ [(zs.getD k 0, zs.getD ((k + 1) % zs.length) 0)] := by simp [legsL, List.range_succ]
theorem legsL_len (zs : List Int) (k : Nat) : (legsL zs k).length = k := by simp [legsL]
/-- What a round keeps: what lay below n₀, and the box. -/
def KeepL (n₀ Bs : Nat) (W W' : World) : Prop := Below n₀ W W' ∧ W'.heap[Bs]? = W.heap[Bs]?
theorem KeepL.trans {n₀ Bs : Nat} {X Y Z : World} (h : KeepL n₀ Bs X Y) (k : KeepL n₀ Bs Y Z) : KeepL n₀ Bs X Z := ⟨h.1.trans k.1, k.2.trans h.2⟩
theorem abides_draws {β : Type} {B : Nat} {J : β → World → Prop} (h : AbidesFrom B J) {s : β} {W : World} (n : Nat) (hj : J s W) : J s (W.drewN n) :=
  h s W (W.drewN n) none hj ⟨rfl, rfl, rfl, Nat.le_refl _, fun _ _ _ => rfl⟩ (fun r e => by cases e)
theorem goInt {n len : Nat} (h : n < len) (h2 : len ≤ 1048576) : ((n : Int) + 1).tmod (len : Int) = (((n + 1) % len : Nat) : Int) := by
  rw [Int.tmod_eq_emod_of_nonneg (by omega), Int.natCast_emod, Int.natCast_add]
  rfl

set_option maxRecDepth 100000 in
set_option maxHeartbeats 2000000 in
theorem legs1_in (n : Nat) (hn : 1 ≤ n) (l Bs n₀ b off cap : Nat) (zs : List Int) (hlen : zs.length ≤ 1048576) (h0l : 0 < zs.length) (hb : b < n₀) (J Jx : List (Int × Int) → World → Prop)
    (W : World) (hJ : AbidesFrom W.heap.size J)
    (hY : ∀ pre x W, J pre W → pre.length < zs.length → YieldAt Fence.wide (n - 1) Try.prog l #[.int .i64 x.1, .int .i64 x.2] W fun e W' =>
      (e = .returned (.bool true) ∧ J (pre ++ [x]) W' ∧ KeepL n₀ Bs W W') ∨ (e = .returned (.bool false) ∧ Jx (pre ++ [x]) W'))
    (hBs : W.cell? ⟨Bs, 0, none⟩ = some (.slice (some ⟨b, off, none⟩) zs.length cap)) (hc : ∀ j, j < zs.length → W.cell? ⟨b, off + j, none⟩ = some (.int .i64 (zs.getD j 0))) (h0 : J [] W) :
    CallsIn Fence.wide n Try.prog 71 #[.func (.yield l) #[] #[], .pointer (some ⟨Bs, 0, none⟩)] W fun e W' => (∃ v, e = .returned v) ∧
      ((∃ ys, ys = legsL zs zs.length ∧ J ys W') ∨ (∃ pre, (∃ k, k ≤ zs.length ∧ pre = legsL zs k) ∧ Jx pre W')) := by
  have HY := Lib.hid hY
  clear hY
  refine callsIn_of_wp Try.func71 rfl trivial ?_ rfl
  simp only [Try.ntmps71, List.size_toArray, List.length_cons, List.length_nil, Nat.reduceAdd, Nat.reduceSub, Array.replicate_succ, Array.replicate_zero, List.push_toArray, List.append_toArray, List.nil_append, List.cons_append]
  gi_wp2
  gi_loopw [7] (fun i wr => ∃ k : Nat, k ≤ zs.length ∧ i = .int .i64 k ∧ J (legsL zs k) wr ∧ KeepL n₀ Bs W wr)
    (fun i _ => zs.length - (intOf i).toNat)
  case atStart => exact ⟨0, Nat.zero_le _, rfl, h0, Below.refl _ _, rfl⟩
  case round =>
    obtain ⟨k, hk, rfl, hJs, hnx⟩ := hrel
    have hBx : wr.cell? ⟨Bs, 0, none⟩ = some (.slice (some ⟨b, off, none⟩) zs.length cap) := (World.cell?_of_block (w := W) (a := ⟨Bs, 0, none⟩) hnx.2).trans hBs
    have hcx : ∀ j, j < zs.length → wr.cell? ⟨b, off + j, none⟩ = some (.int .i64 (zs.getD j 0)) := fun j h => (hnx.1.cell (p := ⟨b, off + j, none⟩) hb).trans (hc j h)
    by_cases hlt : k < zs.length
    · have hm : (k + 1) % zs.length < zs.length := Nat.mod_lt _ h0l
      have ex1 : zs.getD k 0 = zs[k] := by simp [List.getD_eq_getElem?_getD, hlt]
      have ex2 : zs.getD ((k + 1) % zs.length) 0 = zs[(k + 1) % zs.length] := by simp [List.getD_eq_getElem?_getD, hm]
      have hcx1 : wr.cell? ⟨b, off + k, none⟩ = some (.int .i64 zs[k]) := by rw [← ex1]; exact hcx k hlt
      have hwr : IntKind.i64.wrap ((k : Int) + 1) = (k : Int) + 1 := by rw [IntKind.wrap_i64]; omega
      have hg1 : 0 ≤ ((k : Int) + 1).tmod (zs.length : Int) := by rw [goInt hlt hlen]; omega
      have hg2 : ((k : Int) + 1).tmod (zs.length : Int) < (zs.length : Int) := by rw [goInt hlt hlen]; omega
      have hcx2 : wr.cell? ⟨b, off + (((k : Int) + 1).tmod (zs.length : Int)).toNat, none⟩ = some (.int .i64 zs[(k + 1) % zs.length]) := by
        rw [goInt hlt hlen, Int.toNat_natCast, ← ex2]; exact hcx _ hm
      have hne : zs.length ≠ 0 := by omega
      have hkd : KeepL n₀ Bs wr wr.drew := ⟨(Below.refl n₀ wr).drew, rfl⟩
      have hmx : Try.prog.follows .mixedOrders = true := by kernel_rfl
      have hJq : J (legsL zs k) wr.drew := hJ _ wr wr.drew none hJs ⟨rfl, rfl, rfl, Nat.le_refl _, fun _ _ _ => rfl⟩ (fun r e => by cases e)
      obtain ⟨fn, tmps, assign, body, hy, hR⟩ := HY.out _ (zs[k], zs[(k + 1) % zs.length]) _ hJq (by rw [legsL_len]; exact hlt)
      dsimp only at hy
      replace hR := hR.mono (R' := fun e W' => ∃ b, e = .returned (.bool b) ∧ Hid ((b = true → J (legsL zs (k + 1)) W' ∧ KeepL n₀ Bs wr.drew W') ∧ (b = false → Jx (legsL zs (k + 1)) W'))) (by
        rintro e W3 (⟨rfl, hJ3, hk3⟩ | ⟨rfl, hJx3⟩)
        · exact ⟨true, rfl, ⟨fun _ => ⟨by rw [legsL_succ, ex1, ex2]; exact hJ3, hk3⟩, fun h => absurd h (by decide)⟩⟩
        · exact ⟨false, rfl, ⟨fun h => absurd h (by decide), fun _ => by rw [legsL_succ, ex1, ex2]; exact hJx3⟩⟩)
      clear hcx hc
      gi_wp2
      gi_region_with_o (first | rw [if_pos ⟨hg1, hg2⟩] | (refine hR.mono ?_; rintro e W3 ⟨bb, rfl, HP⟩))
      all_goals (cases bb)
      all_goals gi_wp2
      all_goals (first
        | (refine bodyPost_ret (results_none rfl _ _ _) rfl ?_
           exact ⟨⟨_, rfl⟩, .inr ⟨_, ⟨k + 1, by omega, rfl⟩, HP.out.2 (by simp)⟩⟩)
        | (go_roundw
           case rel => exact ⟨k + 1, by omega, by simp, (HP.out.1 (by simp)).1, hnx.trans (hkd.trans (HP.out.1 (by simp)).2)⟩
           case measure => simp [intOf]; omega))
    · obtain rfl : k = zs.length := by omega
      gi_wp2
      go_end0
      exact ⟨⟨_, rfl⟩, .inl ⟨_, rfl, hJs⟩⟩
end Go.Proofs.Ytnofnnhclogcmaa.R
/- The heights of a closed walk: the program's walk. -/
namespace Go.Proofs.Ytnofnnhclogcmaa.R
open Go.RowKit Go.Shelf
set_option linter.unusedVariables false
set_option linter.unusedSimpArgs false

attribute [local go_sem] Oper.semAt_some

def riseG (m a b : Int) : Int × Bool :=
  if b = a then (0, true) else if b = (IntKind.i64.wrap (a + 1)).tmod m then (1, true) else if b = (IntKind.i64.wrap (IntKind.i64.wrap (a + m) - 1)).tmod m then (-1, true) else (0, false)
theorem cyc_in (m : Int) (w : World) (h : 3 ≤ m ∧ m ≤ 8) : Calls Try.prog 41 #[.int .i64 m] w fun e w' => e = .returned (.bool true) ∧ w' = w := by
  have h1 := h.1
  have h2 := h.2
  go_enter Try.func41, Try.ntmps41
  go_wp2
  go_ret
  exact ⟨rfl, rfl⟩
theorem idx_in (a b : Int) (w : World) (h : 0 ≤ a ∧ a < b) : Calls Try.prog 42 #[.int .i64 a, .int .i64 b] w fun e w' => e = .returned (.bool true) ∧ w' = w := by
  have h1 := h.1
  have h2 := h.2
  go_enter Try.func42, Try.ntmps42
  go_wp2
  go_ret
  exact ⟨rfl, rfl⟩
set_option maxHeartbeats 1000000 in
theorem rise_in (m a b : Int) (w : World) (h : 3 ≤ m ∧ m ≤ 8) : Calls Try.prog 44 #[.int .i64 m, .int .i64 a, .int .i64 b] w fun e w' => e = .returned (.tuple #[.int .i64 (riseG m a b).1, .bool (riseG m a b).2]) ∧ w' = w := by
  have hm : m ≠ 0 := by omega
  have h3 : (m == 0) = false := by simpa using hm
  have g : riseG m a b = if (b == a) = true then (0, true) else if (b == (wrap64 (a + 1)).tmod m) = true then (1, true) else if (b == (wrap64 (wrap64 (a + m) - 1)).tmod m) = true then (-1, true) else (0, false) := by
    unfold riseG
    simp only [beq_iff_eq, wrap64, IntKind.wrap_i64]
  clear h
  cases d1 : (b == a) with
  | true =>
    rw [d1] at g
    have e1 : riseG m a b = (0, true) := g
    rw [e1]
    clear g e1
    go_enter Try.func44, Try.ntmps44
    go_wp2
    go_ret2
    exact ⟨rfl, rfl⟩
  | false =>
    cases d2 : (b == (wrap64 (a + 1)).tmod m) with
    | true =>
      rw [d1, d2] at g
      have e1 : riseG m a b = (1, true) := g
      rw [e1]
      clear g e1
      go_enter Try.func44, Try.ntmps44
      go_wp2
      go_ret2
      exact ⟨rfl, rfl⟩
    | false =>
      cases d3 : (b == (wrap64 (wrap64 (a + m) - 1)).tmod m) with
      | true =>
        rw [d1, d2, d3] at g
        have e1 : riseG m a b = (-1, true) := g
        rw [e1]
        clear g e1
        go_enter Try.func44, Try.ntmps44
        go_wp2
        go_ret2
        exact ⟨rfl, rfl⟩
      | false =>
        rw [d1, d2, d3] at g
        have e1 : riseG m a b = (0, false) := g
        rw [e1]
        clear g e1
        go_enter Try.func44, Try.ntmps44
        go_wp2
        go_ret2
        exact ⟨rfl, rfl⟩
theorem legs_in (n : Nat) (a : Option Addr) (len cap : Nat) (w : World) :
    CallsIn Fence.wide n Try.prog 43 #[.slice a len cap] w fun e w' => e = .returned (.func (.func 71) #[] #[.pointer (some ⟨w.heap.size, 0, none⟩)]) ∧ w' = w.alloc (.cells #[.slice a len cap] 22) := by
  refine callsIn_of_wp Try.func43 rfl trivial ?_ rfl
  simp only [Try.ntmps43, List.size_toArray, List.length_cons, List.length_nil, Nat.reduceAdd, Nat.reduceSub, Array.replicate_succ, Array.replicate_zero, List.push_toArray, List.append_toArray, List.nil_append, List.cons_append]
  gi_wp2
  go_ret
  exact ⟨rfl, rfl⟩
theorem legs_stops (n : Nat) (hn : 1 ≤ n) (Bs n₀ b off cap : Nat) (zs : List Int) (hlen : zs.length ≤ 1048576) (h0l : 0 < zs.length) (hb : b < n₀) (w : World) (hbs : Bs < w.heap.size) (hn₀ : n₀ ≤ w.heap.size)
    (hBs : w.cell? ⟨Bs, 0, none⟩ = some (.slice (some ⟨b, off, none⟩) zs.length cap)) (hc : ∀ j, j < zs.length → w.cell? ⟨b, off + j, none⟩ = some (.int .i64 (zs.getD j 0))) :
    SeqStopsK Fence.wide n Try.prog 71 #[.pointer (some ⟨Bs, 0, none⟩)] (fun x : Int × Int => #[Value.int .i64 x.1, Value.int .i64 x.2]) (KeepL n₀ Bs) (fun ys => ys = legsL zs zs.length) (fun pre => ∃ k, k ≤ zs.length ∧ pre = legsL zs k) zs.length w := fun l J Jx W hW hJ _ hY h0 =>
  legs1_in n hn l Bs n₀ b off cap zs hlen h0l hb J Jx W hJ hY ((hW.cell (p := ⟨Bs, 0, none⟩) hbs).trans hBs) (fun j hj => (hW.cell (p := ⟨b, off + j, none⟩) (Nat.lt_of_lt_of_le hb hn₀)).trans (hc j hj)) h0

/-- What has come, all of it fit; the height behind it; the heights. -/
def okP (m : Int) (pre : List (Int × Int)) : Prop := ∀ p ∈ pre, (riseG m p.1 p.2).2 = true
def sumP (m z : Int) (pre : List (Int × Int)) : Int := pre.foldl (fun s p => s + (riseG m p.1 p.2).1) z
def htsP (m z : Int) (pre : List (Int × Int)) : List Int := (List.range (pre.length + 1)).map fun k => sumP m z (pre.take k)
theorem sumP_snoc (m z : Int) (pre : List (Int × Int)) (x : Int × Int) : sumP m z (pre ++ [x]) = sumP m z pre + (riseG m x.1 x.2).1 := by simp [sumP, List.foldl_append]
theorem htsP_snoc (m z : Int) (pre : List (Int × Int)) (x : Int × Int) : htsP m z (pre ++ [x]) = htsP m z pre ++ [sumP m z (pre ++ [x])] := by
  unfold htsP
  rw [List.length_append, List.length_singleton, List.range_succ, List.map_append]
  congr 1
  · refine List.map_congr_left fun k hk => ?_
    rw [List.take_append_of_le_length (by have := List.mem_range.1 hk; omega)]
  · simp only [List.map_cons, List.map_nil]
    rw [List.take_of_length_le (by simp)]
theorem htsP_len (m z : Int) (pre : List (Int × Int)) : (htsP m z pre).length = pre.length + 1 := by simp [htsP]
theorem rise_one (m a b : Int) : -1 ≤ (riseG m a b).1 ∧ (riseG m a b).1 ≤ 1 := by
  unfold riseG
  split
  · decide
  · split
    · decide
    · split <;> decide
theorem sumP_in (m : Int) : ∀ (pre : List (Int × Int)) (z : Int), z - pre.length ≤ sumP m z pre ∧ sumP m z pre ≤ z + pre.length
  | [], z => by simp [sumP]
  | x :: r, z => by
    have ih := sumP_in m r (z + (riseG m x.1 x.2).1)
    have := rise_one m x.1 x.2
    have e : sumP m z (x :: r) = sumP m (z + (riseG m x.1 x.2).1) r := rfl
    rw [e, List.length_cons]
    omega
theorem okP_nil (m : Int) : okP m [] := fun p hp => by cases hp
theorem okP_snoc {m : Int} {pre : List (Int × Int)} {x : Int × Int} (h : okP m pre) (hx : (riseG m x.1 x.2).2 = true) : okP m (pre ++ [x]) := fun p hp => by
  rcases List.mem_append.1 hp with hp | hp
  · exact h p hp
  · rw [List.mem_singleton.1 hp]; exact hx
end Go.Proofs.Ytnofnnhclogcmaa.R
/- The heights of a closed walk: the loop over the legs. -/
namespace Go.Proofs.Ytnofnnhclogcmaa.R
open Go.RowKit Go.Shelf
set_option linter.unusedVariables false
set_option linter.unusedSimpArgs false

attribute [local go_sem] Oper.semAt_some

/-- An append's slice lies in its own row or in a new block. -/
theorem append_block {P : Program} (w : World) (base : Nat) (t ty e : TypeId) (i : TypeInfo) (z : Value) (bytes : Nat) (ht : P.underlying t = some (.slice e)) (hi : P.info? e = some i) (hz : i.zero = some z)
    (hsize : i.size = 1) (hby : i.bytes = bytes) (v : Value) (n : Nat) (xs : List Value) (hown : w.ownsRow base e 1 v n xs)
    (a : Addr) (m c : Nat) (news : List Value) (hl : news.length = m * 1) (hnews : ∀ j u, news[j]? = some u → w.cell? (a.add j) = some u) (h1 : ∀ u ∈ news, u.oneCell' = true)
    (h63 : n + m ≤ maxLen) (hbytes : (n + m) * bytes ≤ 140737488355328) (hm : 0 < m) {v' : Value} {w' : World}
    (hr : (Builtin.append_ #[t, t] ty #[v, .slice (some a) m c]).run P w = .ok v' w') : v'.ownBlock = v.ownBlock ∨ v'.ownBlock = some w.heap.size := by
  subst hby
  have hsmall : n + m ≤ 9223372036854775807 := by simp only [maxLen] at h63; omega
  have hl' : news.length = m * i.size := by rw [hsize]; exact hl
  rcases hown.2 with ⟨rfl, rfl⟩ | ⟨g, cap, cur, rfl, hbg, hg, hnc, hcm, hcs, htake⟩
  · have h := run_append_nil (P := P) w t ty e i z ht hi hz a m c news hl' hnews hm (by omega) (by have hb := hbytes; simp only [Nat.zero_add] at hb; omega)
    rw [h] at hr
    injection hr with h2 h3
    subst h2
    exact .inr rfl
  · by_cases hroom : n + m ≤ cap
    · have hfit : n * i.size + news.length ≤ cur.size := by rw [hl', hcs, hsize]; omega
      have h := run_append_room (P := P) w t ty e i ht hi g n cap cur hg a m c news hl' hnews h1 hroom hfit
      rw [h] at hr
      injection hr with h2 h3
      subst h2
      exact .inl rfl
    · have holds : ∀ j u, xs[j]? = some u → w.cell? ((⟨g, 0, none⟩ : Addr).add j) = some u := hown.cells (g := g) rfl
      have h := run_append_grow (P := P) w t ty e i z ht hi hz ⟨g, 0, none⟩ n cap xs (by rw [hsize]; exact hown.1) holds a m c news hl' hnews (by omega) (by omega) (growslice_fits (by omega) hbytes)
      rw [h] at hr
      injection hr with h2 h3
      subst h2
      exact .inr rfl

/-- The append law inside a fence, with the block of what comes out. -/
theorem wpListIn_append_where {F : Fence} {n : Nat} {P : Program} (w : World) {ops : Array Oper} {rest : List Oper} {o : Oper} {a : Act} {Q : Exit → Act → World → Prop}
    (hg : o.guard = none) (s x : Operand) (t : TypeId) (hop : o.op = Op.call { callee := Callee.builtin Builtin.append, args := #[s, x], argTypes := #[t, t] })
    (base : Nat) (e : TypeId) (i : TypeInfo) (z : Value) (bytes : Nat) (h1 : P.underlying t = some (.slice e)) (h2 : P.info? e = some i) (h3 : i.zero = some z) (h4 : i.size = 1) (h5 : i.bytes = bytes) (h6 : z.cells.size = 1)
    (v : Value) (k : Nat) (xs : List Value) (hs : a.eval s = v) (hown : w.ownsRow base e 1 v k xs) (ad : Addr) (m c : Nat) (news : List Value) (hx : a.eval x = .slice (some ad) m c) (hn : news.length = m * 1)
    (hc : ∀ j u, news[j]? = some u → w.cell? (ad.add j) = some u) (h1c : ∀ u ∈ news, u.oneCell' = true) (b1 : k + m ≤ maxLen) (b2 : (k + m) * bytes ≤ 140737488355328) (b3 : base ≤ w.heap.size) (hm : 0 < m)
    (hK : ∀ v' w', w'.ownsRow base e 1 v' (k + m) (xs ++ news) → w.grownBy w' v.ownBlock → (v'.ownBlock = v.ownBlock ∨ v'.ownBlock = some w.heap.size) → wpListIn F n P ops Q rest (a.put o.dst v') w') :
    wpListIn F n P ops Q (o :: rest) a w := by
  refine wpListIn_plain hg fun K hK' => ?_
  obtain ⟨v', w', hrun, r1, r2, r3⟩ := run_append_own (P := P) w base t o.type e i z 1 bytes h1 h2 h3 h4 h5 h6 (by decide) v k xs hown ad m c news hn hc h1c b1 b2 b3
  have r4 := append_block w base t o.type e i z bytes h1 h2 h3 h4 h5 v k xs hown ad m c news hn hc h1c b1 b2 hm hrun
  unfold Oper.wpIn
  refine ⟨?_, ?_⟩
  · simp [Oper.about, hop, resolve, Target.leads, Sem.run_pure]
  · rw [Oper.semAt_plain F _ _ (by rw [hop]; intro c hc'; cases hc')]
    simp [execOp, hop, resolve, invoke, builtin, hs, hx, hrun, Result.andThen]
    exact hK' _ _ (hK v' w' r1 r2 r4)

theorem infoInt : (Try.prog.info? 3).map (fun i => (i.zero, i.size, i.bytes)) = some (some (.int .i64 0), 1, 8) := by kernel_rfl

/-- What stands between two rounds: the number, the two results, the height, the heights' row. -/
structure Mid (w0 : World) (m z : Int) (sv : Value) (pre : List (Int × Int)) (W : World) : Prop where
  bn : Boxed W w0.heap.size 3 (.int .i64 m)
  b4 : Boxed W (w0.heap.size + 1) 22 (.slice none 0 0)
  b5 : Boxed W (w0.heap.size + 2) 4 (.bool false)
  b6 : Boxed W (w0.heap.size + 3) 3 (.int .i64 (sumP m z pre))
  row : ∃ v, Boxed W (w0.heap.size + 5) 22 v ∧ W.ownsRow w0.heap.size 3 1 v (htsP m z pre).length ((htsP m z pre).map (Value.int .i64)) ∧ v.ownBlock ≠ some w0.heap.size ∧ v.ownBlock ≠ some (w0.heap.size + 3)
  bs : Boxed W (w0.heap.size + 6) 22 sv
  ok : okP m pre
  below : Below w0.heap.size w0 W
  size : w0.heap.size + 7 ≤ W.heap.size
theorem mid_own (w0 : World) (m z : Int) (sv : Value) (B : Nat) (hB : w0.heap.size ≤ B) : OwnFrom B (fun pre W => Mid w0 m z sv pre W) := fun pre X Y row hs hg hr => by
  have kb : ∀ {b : Nat} {t : TypeId} {v : Value}, Boxed X b t v → Boxed Y b t v := fun {b t v} h => h.kept hg fun e => by
    obtain ⟨_, o, ho, hc⟩ := hr b e.symm
    rw [show X.heap[b]? = _ from h] at ho; cases ho; cases hc
  obtain ⟨v, h1, h2, h3⟩ := hs.row
  refine ⟨kb hs.bn, kb hs.b4, kb hs.b5, kb hs.b6, ⟨v, kb h1, h2.kept hg ?_, h3⟩, kb hs.bs, hs.ok, ownFrom_below (β := Unit) (Nat.le_refl _) hB () X Y row hs.below hg hr, Nat.le_trans hs.size hg.size⟩
  rcases h2.2 with ⟨rfl, _⟩ | ⟨g, cap, cur, rfl, _, hgb, _⟩
  · exact .inl rfl
  · refine .inr fun e => ?_
    obtain ⟨_, o, ho, hc⟩ := hr g (by simpa [Value.ownBlock] using e.symm)
    rw [hgb] at ho; cases ho; cases hc

theorem res_cells {fn : Func} {p u : Tmp} {t1 t2 : TypeId} (h : fn.results = #[.cell p t1, .cell u t2]) {tmps : Array Value} {P : Program} {w : World} {a1 a2 : Addr} {v1 v2 : Value} (hp : tmps.getD p undef = .pointer (some a1)) (hu : tmps.getD u undef = .pointer (some a2))
    (h1 : (loadVar t1 a1).run P w = .ok v1 w) (h2 : (loadVar t2 a2).run P w = .ok v2 w) : (results fn tmps).run P w = .ok (.tuple #[v1, v2]) w := by
  rw [Array.getD_eq_getD_getElem?] at hp hu
  simp only [results, h]
  simp [Sem.run_bind, hp, hu, asAddr, h1, h2, Result.andThen]
/-- The world in which the loop begins. -/
def Wst (w : World) (m z : Int) (q b off len cap : Nat) : World :=
  (((((((w.alloc (.cells #[.int .i64 m] 3)).alloc (.cells #[.slice none 0 0] 22)).alloc (.cells #[.bool false] 4)).drewN q).alloc (.cells #[.int .i64 z] 3)).alloc (.cells #[.int .i64 z] 3)).alloc (.cells #[.slice (some ⟨w.heap.size + 1 + 1 + 1 + 1, 0, none⟩) 1 1] 22)).alloc (.cells #[.slice (some ⟨b, off, none⟩) len cap] 22)
theorem size_drewN (w : World) (q : Nat) : (w.drewN q).heap.size = w.heap.size := rfl
theorem Wst_size (w : World) (m z : Int) (q b off len cap : Nat) : (Wst w m z q b off len cap).heap.size = w.heap.size + 7 := by
  unfold Wst
  simp only [World.size_alloc, size_drewN]
theorem below_drewN {n₀ : Nat} {w W : World} (h : Below n₀ w W) (q : Nat) : Below n₀ w (W.drewN q) := ⟨h.os, h.tape, h.output, h.size, h.block⟩
theorem Wst_below (w : World) (m z : Int) (q b off len cap : Nat) : Below w.heap.size w (Wst w m z q b off len cap) := by
  have h3 : Below w.heap.size w ((((w.alloc (.cells #[.int .i64 m] 3)).alloc (.cells #[.slice none 0 0] 22)).alloc (.cells #[.bool false] 4)).drewN q) := below_drewN ((((Below.refl _ w).alloc (Nat.le_refl _) _).alloc (by simp) _).alloc (by simp; omega) _) q
  unfold Wst
  exact (((h3.alloc (by simp only [World.size_alloc, size_drewN]; omega) _).alloc (by simp only [World.size_alloc, size_drewN]; omega) _).alloc (by simp only [World.size_alloc, size_drewN]; omega) _).alloc (by simp only [World.size_alloc, size_drewN]; omega) _
theorem boxed_drewN {W : World} {B : Nat} {t : TypeId} {v : Value} (h : Boxed W B t v) (q : Nat) : Boxed (W.drewN q) B t v := h
theorem Wst_mid (w : World) (m z : Int) (q b off len cap : Nat) : Mid w m z (.slice (some ⟨b, off, none⟩) len cap) [] (Wst w m z q b off len cap) ∧ Boxed (Wst w m z q b off len cap) (w.heap.size + 6) 22 (.slice (some ⟨b, off, none⟩) len cap) := by
  have bn := Boxed.new w 3 (.int .i64 m)
  have b4 := Boxed.new (w.alloc (.cells #[.int .i64 m] 3)) 22 (.slice none 0 0)
  have b5 := Boxed.new ((w.alloc (.cells #[.int .i64 m] 3)).alloc (.cells #[.slice none 0 0] 22)) 4 (.bool false)
  obtain ⟨W3, hW3⟩ : ∃ W3, W3 = ((w.alloc (.cells #[.int .i64 m] 3)).alloc (.cells #[.slice none 0 0] 22)).alloc (.cells #[.bool false] 4) := ⟨_, rfl⟩
  have s3 : (W3.drewN q).heap.size = w.heap.size + 3 := by rw [hW3]; simp only [World.size_alloc, size_drewN]
  have b6 := Boxed.new (W3.drewN q) 3 (.int .i64 z)
  have hr0 := World.ownsRow_made (base := w.heap.size) (size := 1) (e := 3) ((W3.drewN q).alloc (.cells #[.int .i64 z] 3)) #[.int .i64 z] 1 (by rw [World.size_alloc, s3]; omega) (by decide) rfl
  have b7 := Boxed.new (((W3.drewN q).alloc (.cells #[.int .i64 z] 3)).alloc (.cells #[.int .i64 z] 3)) 22 (.slice (some ⟨w.heap.size + 1 + 1 + 1 + 1, 0, none⟩) 1 1)
  have bs := Boxed.new ((((W3.drewN q).alloc (.cells #[.int .i64 z] 3)).alloc (.cells #[.int .i64 z] 3)).alloc (.cells #[.slice (some ⟨w.heap.size + 1 + 1 + 1 + 1, 0, none⟩) 1 1] 22)) 22 (.slice (some ⟨b, off, none⟩) len cap)
  simp only [World.size_alloc, s3] at b4 b5 b6 b7 bs hr0
  have hr : (((W3.drewN q).alloc (.cells #[.int .i64 z] 3)).alloc (.cells #[.int .i64 z] 3)).ownsRow w.heap.size 3 1 (.slice (some ⟨w.heap.size + 3 + 1, 0, none⟩) 1 1) 1 [.int .i64 z] := by
    refine ⟨rfl, .inr ⟨w.heap.size + 3 + 1, 1, #[.int .i64 z], rfl, by omega, ?_, Nat.le_refl _, by decide, rfl, rfl⟩⟩
    have := World.alloc_heap_new ((W3.drewN q).alloc (.cells #[.int .i64 z] 3)) (.cells #[.int .i64 z] 3)
    rwa [World.size_alloc, s3] at this
  have e : Wst w m z q b off len cap = ((((W3.drewN q).alloc (.cells #[.int .i64 z] 3)).alloc (.cells #[.int .i64 z] 3)).alloc (.cells #[.slice (some ⟨w.heap.size + 1 + 1 + 1 + 1, 0, none⟩) 1 1] 22)).alloc (.cells #[.slice (some ⟨b, off, none⟩) len cap] 22) := by rw [hW3]; rfl
  have hB := Wst_below w m z q b off len cap
  have hS := Wst_size w m z q b off len cap
  rw [e] at hB hS ⊢
  have bn3 : Boxed W3 w.heap.size 3 (.int .i64 m) := by rw [hW3]; exact (bn.alloc _).alloc _
  have b43 : Boxed W3 (w.heap.size + 1) 22 (.slice none 0 0) := by rw [hW3]; exact b4.alloc _
  have b53 : Boxed W3 (w.heap.size + 2) 4 (.bool false) := by rw [hW3]; exact b5
  refine ⟨⟨((((boxed_drewN bn3 q).alloc _).alloc _).alloc _).alloc _, ((((boxed_drewN b43 q).alloc _).alloc _).alloc _).alloc _, ((((boxed_drewN b53 q).alloc _).alloc _).alloc _).alloc _, ((b6.alloc _).alloc _).alloc _,
    ⟨_, b7.alloc _, (hr.alloc _).alloc _, (by simp [Value.ownBlock] <;> omega), (by simp [Value.ownBlock] <;> omega)⟩, bs, okP_nil m, hB, by omega⟩, bs⟩
/-- A round has left the loop. -/
structure Out (w0 : World) (m : Int) (c : Code) (pre : List (Int × Int)) (W : World) : Prop where
  c : c = .ret
  pre : ∃ q x, pre = q ++ [x] ∧ okP m q ∧ (riseG m x.1 x.2).2 = false
  b4 : ∃ v, Boxed W (w0.heap.size + 1) 22 v ∧ W.ownsRow w0.heap.size 3 1 v 0 []
  b5 : Boxed W (w0.heap.size + 2) 4 (.bool false)
  below : Below w0.heap.size w0 W
theorem out_own (w0 : World) (m : Int) (c : Code) (B : Nat) (hB : w0.heap.size ≤ B) : OwnFrom B (fun pre W => Out w0 m c pre W) := fun pre X Y row hs hg hr => by
  have kb : ∀ {b : Nat} {t : TypeId} {v : Value}, Boxed X b t v → Boxed Y b t v := fun {b t v} h => h.kept hg fun e => by
    obtain ⟨_, o, ho, hc⟩ := hr b e.symm
    rw [show X.heap[b]? = _ from h] at ho; cases ho; cases hc
  obtain ⟨v, h1, h2⟩ := hs.b4
  refine ⟨hs.c, hs.pre, ⟨v, kb h1, h2.kept hg ?_⟩, kb hs.b5, ownFrom_below (β := Unit) (Nat.le_refl _) hB () X Y row hs.below hg hr⟩
  rcases h2.2 with ⟨rfl, _⟩ | ⟨g, cap, cur, rfl, _, hgb, _⟩
  · exact .inl rfl
  · refine .inr fun e => ?_
    obtain ⟨_, o, ho, hc⟩ := hr g (by simpa [Value.ownBlock] using e.symm)
    rw [hgb] at ho; cases ho; cases hc
/-- What the function ends with. -/
def HEnd (w0 : World) (l : List Int) (b : Bool) (e : Ending) (W : World) : Prop := ∃ v, e = .returned (.tuple #[v, .bool b]) ∧ W.ownsRow w0.heap.size 3 1 v l.length (l.map (Value.int .i64)) ∧ Below w0.heap.size w0 W
set_option maxRecDepth 100000 in
set_option maxHeartbeats 4000000 in
theorem heights_in (n : Nat) (hn : 3 ≤ n) (m : Int) (b off cap : Nat) (zs : List Int) (w : World) (hm : 3 ≤ m ∧ m ≤ 8) (h3 : 3 ≤ zs.length) (h24 : zs.length ≤ 24) (hz : 0 ≤ zs.getD 0 0 ∧ zs.getD 0 0 < m) (hb : b < w.heap.size)
    (hc : ∀ j, j < zs.length → w.cell? ⟨b, off + j, none⟩ = some (.int .i64 (zs.getD j 0))) :
    CallsIn Fence.wide n Try.prog 14 #[.int .i64 m, .slice (some ⟨b, off, none⟩) zs.length cap] w fun e W =>
      (okP m (legsL zs zs.length) ∧ HEnd w (htsP m (zs.getD 0 0) (legsL zs zs.length)) true e W) ∨ ((∃ k, k < zs.length ∧ okP m (legsL zs k) ∧ (riseG m (zs.getD k 0) (zs.getD ((k + 1) % zs.length) 0)).2 = false) ∧ HEnd w [] false e W) := by
  have h1 : 1 ≤ n := by omega
  obtain ⟨z, hzz⟩ : ∃ z, z = zs.getD 0 0 := ⟨_, rfl⟩
  rw [← hzz] at hz ⊢
  obtain ⟨i0, hi, hz0, hz1, hz2⟩ := info_parts infoInt
  have hmx : Try.prog.follows .mixedOrders = true := by kernel_rfl
  have hc0 : w.cell? ⟨b, off, none⟩ = some (.int .i64 z) := by rw [hzz]; exact hc 0 (by omega)
  have hm1 := hm.1
  have hm2 := hm.2
  have cyc := fun W => cyc_in m W hm
  have idx := fun W => idx_in z m W hz
  have hC := Lib.hid hc
  have HZ := Lib.hid hzz
  clear hzz
  have h0l : 0 < zs.length := by omega
  have h0i : (0 : Int) < (zs.length : Int) := by omega
  have el3 : ¬ ((zs.length : Int) < 3) := by omega
  have el24 : ¬ ((24 : Int) < (zs.length : Int)) := by omega
  clear hc
  refine callsIn_of_wp_marks Try.func14 rfl trivial ?_ rfl
  simp only [Try.ntmps14, List.size_toArray, List.length_cons, List.length_nil, Nat.reduceAdd, Nat.reduceSub, Array.replicate_succ, Array.replicate_zero, List.push_toArray, List.append_toArray, List.nil_append, List.cons_append]
  gi_wp2
  have hB3 : Below w.heap.size w (((w.alloc (.cells #[.int .i64 m] 3)).alloc (.cells #[.slice none 0 0] 22)).alloc (.cells #[.bool false] 4)) := (((Below.refl _ w).alloc (Nat.le_refl _) _).alloc (by simp) _).alloc (by simp; omega) _
  have hc3 := (hB3.cell (p := ⟨b, off, none⟩) hb).trans hc0
  clear hB3
  refine wpIn_wide.2 ?_
  refine wp_region_quiet_lit (by kernel_rfl) (by kernel_rfl) ?_
  repeat (quiet_step (fail))
  quiet_step (exact Calls.quiet_of_same (cyc _))
  repeat (quiet_step (fail))
  quiet_step (exact Calls.quiet_of_same (idx _))
  repeat (quiet_step (fail))
  refine wpQuiet_nil ?_
  intro _ hw'
  obtain ⟨nq, hw''⟩ := hw'
  subst hw''
  gi_wp2_with (refine ⟨trivial, ?_⟩; gi_at_call 43; refine (legs_in (n - 1) _ _ _ _).mono ?_; rintro e w' ⟨rfl, rfl⟩)
  obtain ⟨hM0, hS0⟩ := Wst_mid w m z nq b off zs.length cap
  have hsz0 := Wst_size w m z nq b off zs.length cap
  have hB0 := Wst_below w m z nq b off zs.length cap
  have hC0 : ∀ j, j < zs.length → (Wst w m z nq b off zs.length cap).cell? ⟨b, off + j, none⟩ = some (.int .i64 (zs.getD j 0)) := fun j hj => (hB0.cell (p := ⟨b, off + j, none⟩) hb).trans (hC.out j hj)
  change Code.wpIn _ _ _ _ _ _ (Wst w m z nq b off zs.length cap)
  generalize Wst w m z nq b off zs.length cap = W1 at hM0 hS0 hsz0 hB0 hC0 ⊢
  refine wpIn_rangeFunc_ownG rfl h1 (gf := 71) (lb := #[.pointer (some ⟨w.heap.size + 1 + 1 + 1 + 1 + 1 + 1, 0, none⟩)]) rfl trivial (enters_of Try.func71 (by kernel_rfl) rfl)
    (legs_stops (n - 1) (by omega) (w.heap.size + 6) w.heap.size b off cap zs (by omega) h0l hb W1 (by omega) (by omega) hS0.cell hC0)
    (fun h k => h.trans k) ?keepb (Below.refl _ _) (fun _ => rfl)
    (fun pre W => Mid w m z (.slice (some ⟨b, off, none⟩) zs.length cap) pre W) (fun c pre W => Out w m c pre W)
    (mid_own w m z _ _ (by omega)) (fun c => out_own w m c _ (by omega)) hM0 ?a1 ?assign ?body ?done ?stop
  case keepb =>
    intro W l o o' hl ho h1 h2
    refine ⟨(belowK_b (w := W1) (by omega)) W l o o' hl ho h1 h2, ?_⟩
    simp only [World.putObj]; rw [Array.getElem?_setIfInBounds, if_neg (by omega)]
  case assign =>
    intro l x W K hK
    gi_wp2
    exact hK
  case body =>
    rintro l pre x W hM hlt
    have hd : 1 ≤ n - 1 - 1 := by omega
    obtain ⟨bn, b4, b5, b6, ⟨v, b7, hrow, n1, n2⟩, bs, hok, hB, hsz⟩ := hM
    have cn := bn.cell
    have c4 := b4.cell
    have f4 := b4.frozen
    have c5 : W.cell? ⟨w.heap.size + 1 + 1, 0, none⟩ = some (.bool false) := b5.cell
    have f5 : W.frozen? ⟨w.heap.size + 1 + 1, 0, none⟩ = false := b5.frozen
    have c6 : W.cell? ⟨w.heap.size + 1 + 1 + 1, 0, none⟩ = some (.int .i64 (sumP m z pre)) := b6.cell
    have f6 : W.frozen? ⟨w.heap.size + 1 + 1 + 1, 0, none⟩ = false := b6.frozen
    have c7 : W.cell? ⟨w.heap.size + 1 + 1 + 1 + 1 + 1, 0, none⟩ = some v := b7.cell
    have f7 : W.frozen? ⟨w.heap.size + 1 + 1 + 1 + 1 + 1, 0, none⟩ = false := b7.frozen
    have hri := fun W => rise_in m x.1 x.2 W hm
    have hsum := sumP_in m pre z
    have hone := rise_one m x.1 x.2
    obtain ⟨r, hr⟩ : ∃ r, r = (riseG m x.1 x.2).1 := ⟨_, rfl⟩
    obtain ⟨bb, hbb⟩ : ∃ bb, bb = (riseG m x.1 x.2).2 := ⟨_, rfl⟩
    rw [← hr, ← hbb] at hri
    rw [← hr] at hone
    have HR := Lib.hid hr
    have HBB := Lib.hid hbb
    clear hr hbb
    cases bb with
    | false =>
      have b4a := b4.alloc (.cells #[] 3)
      have b5a := (b5.alloc (.cells #[] 3)).other (B' := w.heap.size + 1) (by omega) (.slice (some ⟨W.heap.size, 0, none⟩) 0 0)
      have b4b := b4a.set (.slice (some ⟨W.heap.size, 0, none⟩) 0 0)
      have b5b := b5a.set (.bool false)
      have b4c := b4b.other (B' := w.heap.size + 2) (by omega) (.bool false)
      have c4a := b4a.cell
      have f4a := b4a.frozen
      have c5a : ((W.alloc (.cells #[] 3)).setCell ⟨w.heap.size + 1, 0, none⟩ (.slice (some ⟨W.heap.size, 0, none⟩) 0 0)).cell? ⟨w.heap.size + 1 + 1, 0, none⟩ = some (.bool false) := b5a.cell
      have f5a : ((W.alloc (.cells #[] 3)).setCell ⟨w.heap.size + 1, 0, none⟩ (.slice (some ⟨W.heap.size, 0, none⟩) 0 0)).frozen? ⟨w.heap.size + 1 + 1, 0, none⟩ = false := b5a.frozen
      have hr0 : (W.alloc (.cells #[] 3)).ownsRow w.heap.size 3 1 (.slice (some ⟨W.heap.size, 0, none⟩) 0 0) 0 [] := World.ownsRow_made W #[] 0 (by omega) (by decide) rfl
      have hr1 := hr0.kept (grownBy_setCell' _ (w.heap.size + 1) (.slice (some ⟨W.heap.size, 0, none⟩) 0 0)) (.inr (b4a.not_row (by decide) hr0).symm)
      have hr2 := hr1.kept (grownBy_setCell' _ (w.heap.size + 2) (.bool false)) (.inr (b5a.not_row (by decide) hr1).symm)
      have H := Lib.hid (And.intro b4c (And.intro b5b hr2))
      clear b4a b5a b4b b5b b4c hr0 hr1 hr2
      gi_wp2_with (refine ⟨trivial, ?_⟩; gi_at_call 44; refine (CallsIn.inRound l (callsIn_wide.2 (hri _))).mono ?_; rintro e w' ⟨rfl, hw'⟩; subst hw')
      refine ⟨((KeepsOthers.alloc _ _).trans ((KeepsOthers.setCell _ _ _).trans (KeepsOthers.setCell _ _ _))).from _, rfl, ⟨pre, x, rfl, hok, HBB.out.symm⟩, ⟨_, H.out.1, H.out.2.2⟩, H.out.2.1, hB.trans ((((Below.refl _ _).alloc (by omega) _).setCell (p := ⟨w.heap.size + 1, 0, none⟩) (by simp) _).setCell (p := ⟨w.heap.size + 1 + 1, 0, none⟩) (by simp; omega) _)⟩
    | true =>
      obtain ⟨Wa, hWa⟩ : ∃ Wa, Wa = W.setCell ⟨w.heap.size + 1 + 1 + 1, 0, none⟩ (.int .i64 (sumP m z pre + r)) := ⟨_, rfl⟩
      have sa : Wa.heap.size = W.heap.size := by rw [hWa]; simp
      have b7a : Boxed Wa (w.heap.size + 5) 22 v := by rw [hWa]; exact b7.other (by omega) _
      have b6a : Boxed Wa (w.heap.size + 3) 3 (.int .i64 (sumP m z pre + r)) := by rw [hWa]; exact b6.set _
      have bna : Boxed Wa w.heap.size 3 (.int .i64 m) := by rw [hWa]; exact bn.other (by omega) _
      have b4a : Boxed Wa (w.heap.size + 1) 22 (.slice none 0 0) := by rw [hWa]; exact b4.other (by omega) _
      have b5a : Boxed Wa (w.heap.size + 2) 4 (.bool false) := by rw [hWa]; exact b5.other (by omega) _
      have hrowa : Wa.ownsRow w.heap.size 3 1 v (htsP m z pre).length ((htsP m z pre).map (Value.int .i64)) := by
        rw [hWa]; exact hrow.kept (grownBy_setCell' W (w.heap.size + 1 + 1 + 1) _) (.inr n2)
      have c7a : Wa.cell? ⟨w.heap.size + 1 + 1 + 1 + 1 + 1, 0, none⟩ = some v := b7a.cell
      have c6a : Wa.cell? ⟨w.heap.size + 1 + 1 + 1, 0, none⟩ = some (.int .i64 (sumP m z pre + r)) := b6a.cell
      have hBa : Below w.heap.size W Wa := by rw [hWa]; exact (Below.refl _ _).setCell (p := ⟨w.heap.size + 1 + 1 + 1, 0, none⟩) (by simp; omega) _
      have hKa : KeepsOthers W Wa := by rw [hWa]; exact KeepsOthers.setCell _ _ _
      have hlen : (htsP m z pre).length ≤ 25 := by rw [htsP_len]; omega
      have sb : w.heap.size + 7 ≤ Wa.heap.size := by omega
      subst hWa
      gi_wp2_with (first
        | (gi_at_builtin; refine wpListIn_append_where _ rfl _ _ 22 rfl w.heap.size 3 i0 (.int .i64 0) 8 Try.underlying22 hi hz0 hz1 hz2 rfl _ _ _ rfl (hrowa.alloc _) ⟨W.heap.size, 0, none⟩ 1 1 [.int .i64 (sumP m z pre + r)] (by rw [← sa]; rfl) rfl (by rw [← sa]; exact cell_one_new _ _ _) (by simp [Value.oneCell']) (by unfold maxLen; omega) (by omega) (by simp; omega) (by decide) ?_; intro v' w1 hown' hgrow hblk; obtain ⟨g', cap', rfl⟩ := ownsRow_succ hown'; obtain ⟨hv1, hv2, hr2, hk2, hb2⟩ := b7a.appended (by decide) hrowa (by omega) (by omega) hown' hgrow; have hc1 := hv1.cell; have hf1 := hv1.frozen)
        | (refine ⟨trivial, ?_⟩; gi_at_call 44; refine (CallsIn.inRound l (callsIn_wide.2 (hri _))).mono ?_; rintro e w' ⟨rfl, hw'⟩; have hw2 := hw'.symm; subst hw2))
      have bsa : Boxed (W.setCell ⟨w.heap.size + 1 + 1 + 1, 0, none⟩ (.int .i64 (sumP m z pre + r))) (w.heap.size + 6) 22 (.slice (some ⟨b, off, none⟩) zs.length cap) := bs.other (by omega) _
      have bs1 := ((bsa.alloc _).kept hgrow (bsa.not_row (by decide) hrowa)).other (B' := w.heap.size + 1 + 1 + 1 + 1 + 1) (by omega) (.slice (some ⟨g', 0, none⟩) ((htsP m z pre).length + 1) cap')
      have eh : htsP m z (pre ++ [x]) = htsP m z pre ++ [sumP m z pre + r] := by rw [htsP_snoc, sumP_snoc, ← HR.out]
      have hsz1 : w.heap.size + 7 ≤ w1.heap.size := by have := hgrow.size; simp at this; omega
      have hne : ∀ b, b < W.heap.size → v.ownBlock ≠ some b → (Value.slice (some ⟨g', 0, none⟩) ((htsP m z pre).length + 1) cap').ownBlock ≠ some b := by
        intro b hb hn
        rcases hblk with h | h
        · rw [h]; exact hn
        · rw [h]; simp; omega
      refine ⟨(hKa.trans hk2).from _, ⟨hBa.trans hb2, (show _ = _ from bs1).trans (show _ = _ from bs).symm⟩,
        (((bna.alloc _).kept hgrow (Ne.symm n1)).other (by omega) _), (((b4a.alloc _).kept hgrow (b4a.not_row (by decide) hrowa)).other (by omega) _), (((b5a.alloc _).kept hgrow (b5a.not_row (by decide) hrowa)).other (by omega) _),
        ?_, ⟨_, hv2, ?_, hne _ (by omega) n1, hne _ (by omega) n2⟩, bs1, okP_snoc hok HBB.out.symm, hB.trans (hBa.trans hb2), by simpa [World.setCell] using hsz1⟩
      · rw [sumP_snoc, ← HR.out]
        exact ((b6a.alloc _).kept hgrow (Ne.symm n2)).other (by omega) _
      · rw [eh, List.length_append, List.length_singleton, List.map_append]
        exact hr2
  case done =>
    rintro D ys W hD rfl hM hK
    obtain ⟨bn, b4, b5, b6, ⟨v, b7, hrow, n1, n2⟩, bs, hok, hB, hsz⟩ := hM
    have hl : (htsP m z (legsL zs zs.length)).length = zs.length + 1 := by rw [htsP_len, legsL_len]
    rw [hl] at hrow
    obtain ⟨g', cap', rfl⟩ := ownsRow_succ hrow
    have b4b := b4.set (.slice (some ⟨g', 0, none⟩) (zs.length + 1) cap')
    have b5a := b5.other (B' := w.heap.size + 1) (by omega) (.slice (some ⟨g', 0, none⟩) (zs.length + 1) cap')
    have b5b := b5a.set (.bool true)
    have b4c := b4b.other (B' := w.heap.size + 2) (by omega) (.bool true)
    have hr1 := hrow.kept (grownBy_setCell' _ (w.heap.size + 1) (.slice (some ⟨g', 0, none⟩) (zs.length + 1) cap')) (.inr (b4.not_row (by decide) hrow).symm)
    have hr2 := hr1.kept (grownBy_setCell' _ (w.heap.size + 2) (.bool true)) (.inr (b5a.not_row (by decide) hr1).symm)
    have c4 := b4.cell
    have f4 := b4.frozen
    have c5 : (W.setCell ⟨w.heap.size + 1, 0, none⟩ (.slice (some ⟨g', 0, none⟩) (zs.length + 1) cap')).cell? ⟨w.heap.size + 1 + 1, 0, none⟩ = some (.bool false) := b5a.cell
    have f5 : (W.setCell ⟨w.heap.size + 1, 0, none⟩ (.slice (some ⟨g', 0, none⟩) (zs.length + 1) cap')).frozen? ⟨w.heap.size + 1 + 1, 0, none⟩ = false := b5a.frozen
    have c7 : W.cell? ⟨w.heap.size + 1 + 1 + 1 + 1 + 1, 0, none⟩ = some (.slice (some ⟨g', 0, none⟩) (zs.length + 1) cap') := b7.cell
    have hK2 : ((W.setCell ⟨w.heap.size + 1, 0, none⟩ (.slice (some ⟨g', 0, none⟩) (zs.length + 1) cap')).setCell ⟨w.heap.size + 1 + 1, 0, none⟩ (.bool true)).heap[D]? = some (.deferred (some [])) := ((KeepsOthers.setCell _ _ _).trans (KeepsOthers.setCell _ _ _)).same D _ hK rfl
    have H := Lib.hid (And.intro b4c (And.intro b5b hr2))
    clear b4b b5a b5b b4c hr1 hr2 hK
    gi_wp2
    refine ⟨by simp, .inl ⟨_, _, rfl, run_takeDeferred hK2, ?_⟩⟩
    have hg1 := grownBy_putObj' ((W.setCell ⟨w.heap.size + 1, 0, none⟩ (.slice (some ⟨g', 0, none⟩) (zs.length + 1) cap')).setCell ⟨w.heap.size + 1 + 1, 0, none⟩ (.bool true)) D (.deferred none)
    have kb : ∀ {b : Nat} {t : TypeId} {v : Value}, Boxed ((W.setCell ⟨w.heap.size + 1, 0, none⟩ (.slice (some ⟨g', 0, none⟩) (zs.length + 1) cap')).setCell ⟨w.heap.size + 1 + 1, 0, none⟩ (.bool true)) b t v → Boxed (((W.setCell ⟨w.heap.size + 1, 0, none⟩ (.slice (some ⟨g', 0, none⟩) (zs.length + 1) cap')).setCell ⟨w.heap.size + 1 + 1, 0, none⟩ (.bool true)).putObj D (.deferred none)) b t v := fun {b t v} h => h.kept hg1 fun e => by
      cases e
      have := (show _ = _ from h).symm.trans hK2
      cases this
    have r4 := (kb H.out.1).cell
    have r5 := (kb H.out.2.1).cell
    refine ⟨.tuple #[.slice (some ⟨g', 0, none⟩) (zs.length + 1) cap', .bool true], res_cells rfl rfl rfl (by go_simp) (by go_simp), .inl ⟨hok, _, rfl, ?_, ?_⟩⟩
    · rw [hl]
      exact ownsRow_putObj H.out.2.2 _ hK2 rfl
    · exact (hB.trans (((Below.refl _ _).setCell (p := ⟨w.heap.size + 1, 0, none⟩) (by simp) _).setCell (p := ⟨w.heap.size + 1 + 1, 0, none⟩) (by simp; omega) _)).trans (belowK_b (w := w) (Nat.le_refl _) _ D _ _ (by omega) hK2 rfl rfl)
  case stop =>
    rintro D c pre W hD ⟨k, hk, rfl⟩ hO hK
    obtain ⟨rfl, ⟨q, x, hq, hok, hx⟩, ⟨v, b4, hrow⟩, b5, hB⟩ := hO
    have hg1 := grownBy_putObj' W D (.deferred none)
    have kb : ∀ {b : Nat} {t : TypeId} {v : Value}, Boxed W b t v → Boxed (W.putObj D (.deferred none)) b t v := fun {b t v} h => h.kept hg1 fun e => by
      cases e
      have := (show _ = _ from h).symm.trans hK
      cases this
    have r4 := (kb b4).cell
    have r5 : (W.putObj D (.deferred none)).cell? ⟨w.heap.size + 1 + 1, 0, none⟩ = some (.bool false) := (kb b5).cell
    have hex : ∃ k, k < zs.length ∧ okP m (legsL zs k) ∧ (riseG m (zs.getD k 0) (zs.getD ((k + 1) % zs.length) 0)).2 = false := by
      cases k with
      | zero => simp [legsL] at hq
      | succ k =>
        rw [legsL_succ] at hq
        obtain ⟨e1, e2⟩ := List.append_inj' hq rfl
        simp only [List.cons.injEq, and_true] at e2
        rw [← e1] at hok
        rw [← e2] at hx
        exact ⟨k, by omega, hok, hx⟩
    gi_wp2
    refine ⟨by simp, .inl ⟨_, _, rfl, run_takeDeferred hK, ?_⟩⟩
    refine ⟨.tuple #[v, .bool false], res_cells rfl rfl rfl (by go_simp) (by go_simp), .inr ⟨hex, _, rfl, ?_, ?_⟩⟩
    · exact ownsRow_putObj hrow _ hK rfl
    · exact hB.trans (belowK_b (w := w) (Nat.le_refl _) _ D _ _ (by omega) hK rfl rfl)
end Go.Proofs.Ytnofnnhclogcmaa.R
/- The heights of no closed walk: the program's first test; what the function answers. -/
namespace Go.Proofs.Ytnofnnhclogcmaa.R
open Go.RowKit Go.Shelf
set_option linter.unusedVariables false
set_option linter.unusedSimpArgs false

attribute [local go_sem] Oper.semAt_some

theorem cyc_no (m : Int) (w : World) (h : ¬ (3 ≤ m ∧ m ≤ 8)) : Calls Try.prog 41 #[.int .i64 m] w fun e w' => e = .returned (.bool false) ∧ w' = w := by
  by_cases h1 : 3 ≤ m
  · have h2 : ¬ m ≤ 8 := fun c => h ⟨h1, c⟩
    clear h
    go_enter Try.func41, Try.ntmps41
    go_wp2
    go_ret
    exact ⟨rfl, rfl⟩
  · clear h
    go_enter Try.func41, Try.ntmps41
    go_wp2
    go_ret
    exact ⟨rfl, rfl⟩
theorem idx_no (a b : Int) (w : World) (h : ¬ (0 ≤ a ∧ a < b)) : Calls Try.prog 42 #[.int .i64 a, .int .i64 b] w fun e w' => e = .returned (.bool false) ∧ w' = w := by
  by_cases h1 : 0 ≤ a
  · have h2 : ¬ a < b := fun c => h ⟨h1, c⟩
    clear h
    go_enter Try.func42, Try.ntmps42
    go_wp2
    go_ret
    exact ⟨rfl, rfl⟩
  · clear h
    go_enter Try.func42, Try.ntmps42
    go_wp2
    go_ret
    exact ⟨rfl, rfl⟩
theorem bad_end (w : World) (m : Int) (q : Nat) : HEnd w [] false (.returned (.tuple #[.slice (some ⟨w.heap.size + 1 + 1 + 1, 0, none⟩) 0 0, .bool false]))
    (((((((w.alloc (.cells #[.int .i64 m] 3)).alloc (.cells #[.slice none 0 0] 22)).alloc (.cells #[.bool false] 4)).drewN q).setCell ⟨w.heap.size + 1, 0, none⟩ (.slice (some ⟨w.heap.size + 1 + 1 + 1, 0, none⟩) 0 0)).setCell ⟨w.heap.size + 1 + 1, 0, none⟩ (.bool false)).alloc (.cells #[] 3)) := by
  obtain ⟨W3, hW3⟩ : ∃ W3, W3 = (((w.alloc (.cells #[.int .i64 m] 3)).alloc (.cells #[.slice none 0 0] 22)).alloc (.cells #[.bool false] 4)).drewN q := ⟨_, rfl⟩
  have s3 : W3.heap.size = w.heap.size + 3 := by rw [hW3]; simp only [World.size_alloc, size_drewN]
  have hB3 : Below w.heap.size w W3 := by rw [hW3]; exact below_drewN ((((Below.refl _ w).alloc (Nat.le_refl _) _).alloc (by simp) _).alloc (by simp; omega) _) q
  rw [← hW3]
  have s5 : ((W3.setCell ⟨w.heap.size + 1, 0, none⟩ (.slice (some ⟨w.heap.size + 1 + 1 + 1, 0, none⟩) 0 0)).setCell ⟨w.heap.size + 1 + 1, 0, none⟩ (.bool false)).heap.size = w.heap.size + 3 := by simp [s3]
  have hr := World.ownsRow_made (base := w.heap.size) (size := 1) (e := 3) ((W3.setCell ⟨w.heap.size + 1, 0, none⟩ (.slice (some ⟨w.heap.size + 1 + 1 + 1, 0, none⟩) 0 0)).setCell ⟨w.heap.size + 1 + 1, 0, none⟩ (.bool false)) #[] 0 (by omega) (by decide) rfl
  rw [s5] at hr
  exact ⟨_, rfl, hr, ((hB3.setCell (p := ⟨w.heap.size + 1, 0, none⟩) (by simp) _).setCell (p := ⟨w.heap.size + 1 + 1, 0, none⟩) (by simp; omega) _).alloc (by omega) _⟩
set_option maxRecDepth 100000 in
set_option maxHeartbeats 2000000 in
theorem heights_badA (n : Nat) (hn : 3 ≤ n) (m : Int) (a : Option Addr) (len cap : Nat) (w : World) (hm : ¬ (3 ≤ m ∧ m ≤ 8)) :
    CallsIn Fence.wide n Try.prog 14 #[.int .i64 m, .slice a len cap] w fun e W => HEnd w [] false e W := by
  have hmx : Try.prog.follows .mixedOrders = true := by kernel_rfl
  have cyc := fun W => cyc_no m W hm
  clear hm
  refine callsIn_of_wp Try.func14 rfl trivial ?_ rfl
  simp only [Try.ntmps14, List.size_toArray, List.length_cons, List.length_nil, Nat.reduceAdd, Nat.reduceSub, Array.replicate_succ, Array.replicate_zero, List.push_toArray, List.append_toArray, List.nil_append, List.cons_append]
  gi_wp2
  refine wpIn_wide.2 ?_
  refine wp_region_quiet_lit (by kernel_rfl) (by kernel_rfl) ?_
  repeat (quiet_step (fail))
  quiet_step (exact Calls.quiet_of_same (cyc _))
  repeat (quiet_step (fail))
  refine wpQuiet_nil ?_
  intro _ hw'
  obtain ⟨nq, hw''⟩ := hw'
  subst hw''
  gi_wp2
  refine bodyPost_ret (res_cells (v1 := .slice (some ⟨w.heap.size + 1 + 1 + 1, 0, none⟩) 0 0) (v2 := .bool false) rfl rfl rfl (by go_simp) (by go_simp)) rfl ?_
  exact bad_end w m nq
set_option maxRecDepth 100000 in
set_option maxHeartbeats 2000000 in
theorem heights_badB (n : Nat) (hn : 3 ≤ n) (m : Int) (a : Option Addr) (len cap : Nat) (w : World) (hm : 3 ≤ m ∧ m ≤ 8) (hl : (len : Int) < 3) :
    CallsIn Fence.wide n Try.prog 14 #[.int .i64 m, .slice a len cap] w fun e W => HEnd w [] false e W := by
  have hmx : Try.prog.follows .mixedOrders = true := by kernel_rfl
  have cyc := fun W => cyc_in m W hm
  refine callsIn_of_wp Try.func14 rfl trivial ?_ rfl
  simp only [Try.ntmps14, List.size_toArray, List.length_cons, List.length_nil, Nat.reduceAdd, Nat.reduceSub, Array.replicate_succ, Array.replicate_zero, List.push_toArray, List.append_toArray, List.nil_append, List.cons_append]
  gi_wp2
  refine wpIn_wide.2 ?_
  refine wp_region_quiet_lit (by kernel_rfl) (by kernel_rfl) ?_
  repeat (quiet_step (fail))
  quiet_step (exact Calls.quiet_of_same (cyc _))
  repeat (quiet_step (fail))
  refine wpQuiet_nil ?_
  intro _ hw'
  obtain ⟨nq, hw''⟩ := hw'
  subst hw''
  gi_wp2
  refine bodyPost_ret (res_cells (v1 := .slice (some ⟨w.heap.size + 1 + 1 + 1, 0, none⟩) 0 0) (v2 := .bool false) rfl rfl rfl (by go_simp) (by go_simp)) rfl ?_
  exact bad_end w m nq
set_option maxRecDepth 100000 in
set_option maxHeartbeats 2000000 in
theorem heights_badC (n : Nat) (hn : 3 ≤ n) (m : Int) (a : Option Addr) (len cap : Nat) (w : World) (hm : 3 ≤ m ∧ m ≤ 8) (hl : (24 : Int) < (len : Int)) :
    CallsIn Fence.wide n Try.prog 14 #[.int .i64 m, .slice a len cap] w fun e W => HEnd w [] false e W := by
  have hmx : Try.prog.follows .mixedOrders = true := by kernel_rfl
  have cyc := fun W => cyc_in m W hm
  have el3 : ¬ ((len : Int) < 3) := by omega
  refine callsIn_of_wp Try.func14 rfl trivial ?_ rfl
  simp only [Try.ntmps14, List.size_toArray, List.length_cons, List.length_nil, Nat.reduceAdd, Nat.reduceSub, Array.replicate_succ, Array.replicate_zero, List.push_toArray, List.append_toArray, List.nil_append, List.cons_append]
  gi_wp2
  refine wpIn_wide.2 ?_
  refine wp_region_quiet_lit (by kernel_rfl) (by kernel_rfl) ?_
  repeat (quiet_step (fail))
  quiet_step (exact Calls.quiet_of_same (cyc _))
  repeat (quiet_step (fail))
  refine wpQuiet_nil ?_
  intro _ hw'
  obtain ⟨nq, hw''⟩ := hw'
  subst hw''
  gi_wp2
  refine bodyPost_ret (res_cells (v1 := .slice (some ⟨w.heap.size + 1 + 1 + 1, 0, none⟩) 0 0) (v2 := .bool false) rfl rfl rfl (by go_simp) (by go_simp)) rfl ?_
  exact bad_end w m nq
set_option maxRecDepth 100000 in
set_option maxHeartbeats 2000000 in
theorem heights_badD (n : Nat) (hn : 3 ≤ n) (m : Int) (b off len cap : Nat) (z : Int) (w : World) (hm : 3 ≤ m ∧ m ≤ 8) (h3 : 3 ≤ len) (h24 : len ≤ 24) (hz : ¬ (0 ≤ z ∧ z < m)) (hb : b < w.heap.size) (hc0 : w.cell? ⟨b, off, none⟩ = some (.int .i64 z)) :
    CallsIn Fence.wide n Try.prog 14 #[.int .i64 m, .slice (some ⟨b, off, none⟩) len cap] w fun e W => HEnd w [] false e W := by
  have hmx : Try.prog.follows .mixedOrders = true := by kernel_rfl
  have cyc := fun W => cyc_in m W hm
  have idx := fun W => idx_no z m W hz
  have el3 : ¬ ((len : Int) < 3) := by omega
  have el24 : ¬ ((24 : Int) < (len : Int)) := by omega
  have h0l : 0 < len := by omega
  have h0i : (0 : Int) < (len : Int) := by omega
  have hB3 : Below w.heap.size w (((w.alloc (.cells #[.int .i64 m] 3)).alloc (.cells #[.slice none 0 0] 22)).alloc (.cells #[.bool false] 4)) := (((Below.refl _ w).alloc (Nat.le_refl _) _).alloc (by simp) _).alloc (by simp; omega) _
  have hc3 := (hB3.cell (p := ⟨b, off, none⟩) hb).trans hc0
  clear hB3 hz
  refine callsIn_of_wp Try.func14 rfl trivial ?_ rfl
  simp only [Try.ntmps14, List.size_toArray, List.length_cons, List.length_nil, Nat.reduceAdd, Nat.reduceSub, Array.replicate_succ, Array.replicate_zero, List.push_toArray, List.append_toArray, List.nil_append, List.cons_append]
  gi_wp2
  refine wpIn_wide.2 ?_
  refine wp_region_quiet_lit (by kernel_rfl) (by kernel_rfl) ?_
  repeat (quiet_step (fail))
  quiet_step (exact Calls.quiet_of_same (cyc _))
  repeat (quiet_step (fail))
  quiet_step (exact Calls.quiet_of_same (idx _))
  repeat (quiet_step (fail))
  refine wpQuiet_nil ?_
  intro _ hw'
  obtain ⟨nq, hw''⟩ := hw'
  subst hw''
  gi_wp2
  refine bodyPost_ret (res_cells (v1 := .slice (some ⟨w.heap.size + 1 + 1 + 1, 0, none⟩) 0 0) (v2 := .bool false) rfl rfl rfl (by go_simp) (by go_simp)) rfl ?_
  exact bad_end w m nq
end Go.Proofs.Ytnofnnhclogcmaa.R
