/- Zl, Zm, Zn, in one text. -/
import Derived.Test.YtnofnnhclogcmaaQy
import Derived.Test.YtnofnnhclogcmaaQz
import Derived.Test.YtnofnnhclogcmaaQg
import Derived.Test.YtnofnnhclogcmaaShelf
/- HeightsOf: what the program answers. -/
namespace Go.Proofs.Ytnofnnhclogcmaa.M
open Go.RowKit Abs
set_option linter.unusedSimpArgs false
set_option linter.unusedVariables false
set_option maxRecDepth 100000
set_option maxHeartbeats 4000000
open R (riseG okP sumP htsP legsL legsL_succ HEnd)
theorem leg_fst (zs : List Int) (k : Nat) : zs.getD k 0 = gi zs (k : Int) := by unfold gi; rw [Int.toNat_natCast]
theorem leg_snd {zs : List Int} {k : Nat} (hk : k < zs.length) (hl : zs.length ≤ 1048576) : zs.getD ((k + 1) % zs.length) 0 = nxW zs (k : Int) := by
  unfold nxW
  rw [R.goInt hk hl]
  unfold gi
  rw [Int.toNat_natCast]
theorem riseG_eq {n a b : Int} (n3 : 3 ≤ n) (n8 : n ≤ 8) (a0 : 0 ≤ a) (a1 : a < n) : riseG n a b = (riseI n a b, riseB n a b) := by
  have e1 : IntKind.i64.wrap (a + 1) = a + 1 := by rw [IntKind.wrap_i64]; omega
  have e2 : IntKind.i64.wrap (a + n) = a + n := by rw [IntKind.wrap_i64]; omega
  have e3 : IntKind.i64.wrap (a + n - 1) = a + n - 1 := by rw [IntKind.wrap_i64]; omega
  unfold riseG riseI riseB
  rw [e2, e1, e3]
  by_cases c1 : b = a
  · rw [if_pos c1, if_pos c1]; simp [c1]
  · rw [if_neg c1, if_neg c1]
    by_cases c2 : b = (a + 1).tmod n
    · rw [if_pos c2, if_pos c2]; simp [c2]
    · rw [if_neg c2, if_neg c2]
      by_cases c3 : b = (a + n - 1).tmod n
      · rw [if_pos c3, if_pos c3]; simp [c3]
      · rw [if_neg c3, if_neg c3]; simp [c1, c2, c3]
theorem okP_legs {n : Int} {zs : List Int} (n3 : 3 ≤ n) (n8 : n ≤ 8) (hl : zs.length ≤ 1048576) (h0 : 0 ≤ gi zs 0 ∧ gi zs 0 < n) : ∀ {k : Nat}, k ≤ zs.length → okP n (legsL zs k) → goodTo n zs k ∧ sumP n (gi zs 0) (legsL zs k) = hgt n zs k
  | 0, _, _ => ⟨good_zero h0, rfl⟩
  | k + 1, hk, h => by
    rw [legsL_succ] at h
    have ih := okP_legs n3 n8 hl h0 (k := k) (by omega) (fun p hp => h p (by simp [hp]))
    have g := ih.1.1 k (Nat.le_refl _) (by omega)
    have hx := h (zs.getD k 0, zs.getD ((k + 1) % zs.length) 0) (by simp)
    simp only at hx
    rw [leg_fst, leg_snd (by omega) hl, riseG_eq n3 n8 g.1 g.2] at hx
    refine ⟨good_succ n3 n8 ih.1 (by omega) hx, ?_⟩
    rw [legsL_succ, R.sumP_snoc, ih.2]
    simp only
    rw [leg_fst, leg_snd (by omega) hl, riseG_eq n3 n8 g.1 g.2]
    simp only [hgt]
    rw [(rise_up n3 n8 g.1 g.2 hx).2.2.2]
theorem hts_legs {n : Int} {zs : List Int} (n3 : 3 ≤ n) (n8 : n ≤ 8) (hl : zs.length ≤ 1048576) (h0 : 0 ≤ gi zs 0 ∧ gi zs 0 < n) : ∀ {k : Nat}, k ≤ zs.length → okP n (legsL zs k) → htsP n (gi zs 0) (legsL zs k) = hgts n zs k
  | 0, _, _ => rfl
  | k + 1, hk, h => by
    have h1 := okP_legs n3 n8 hl h0 hk h
    rw [legsL_succ] at h ⊢
    have ih := hts_legs n3 n8 hl h0 (k := k) (by omega) (fun p hp => h p (by simp [hp]))
    rw [R.htsP_snoc, ih, ← legsL_succ, h1.2, hgts_succ]
    rfl
theorem row_ints2 {ok : Nat → Prop} {w : World} {l : List Int} {xs : List Value} (h2 : ∀ (i : Nat) (y : Int), l[i]? = some y → Rep ok w .int y ((xs.drop (i * 1)).take 1)) (j : Nat) (hj : j < l.length) : xs[j]? = some (.int .i64 (l.getD j 0)) := by
  have h7 := h2 j l[j] (List.getElem?_eq_getElem hj)
  unfold Rep at h7
  have : ((xs.drop (j * 1)).take 1)[0]? = some (.int .i64 l[j]) := by rw [h7]; rfl
  rw [List.getElem?_take, List.getElem?_drop] at this
  rw [List.getD_eq_getElem?_getD, List.getElem?_eq_getElem hj]
  simpa using this
theorem ints_rep2 {ok : Nat → Prop} {w : World} (l : List Int) : RepL ok w .int l (l.map (Value.int .i64)) := by
  refine ⟨by simp [Ty.n], fun i y hy => ?_⟩
  unfold Rep
  have e : ((l.map (Value.int .i64)).drop (i * Ty.int.n)).take Ty.int.n = [.int .i64 y] := by
    simp only [Ty.n, Nat.mul_one]
    obtain ⟨h1, h2⟩ := List.getElem?_eq_some_iff.1 hy
    rw [List.drop_eq_getElem_cons (by simpa using h1), List.getElem_map, h2]
    rfl
  rw [e]
/-- A fresh row of numbers and a truth value, as a contract's end. -/
theorem end_row {w W : World} {val : Nat → Bd} {l : List Int} {b : Bool} {e : Ending} (h : HEnd w l b e W) : ∃ v val', e = .returned v ∧ SPost [] val [.ref 0, .bool fun _ => b] [some (.row 3 .int fun _ => l)] w v W val' := by
  obtain ⟨v, rfl, hr, hB⟩ := h
  refine ⟨_, fun _ => ⟨v, [], (ownB v).toList⟩, rfl, ⟨⟨hB.os, hB.tape, hB.output, hB.size, fun k hk _ => hB.block k hk⟩, ⟨fun n B h => ?_, fun n B h g hg => ?_, fun n m B C hne h h' => ?_⟩, fun n B h g hg => ?_, fun n hn => by simp at hn, ?_⟩⟩
  · match n, h with
    | 0, h =>
      cases h
      exact ⟨l.map (Value.int .i64), ⟨hr.1, hr.2.imp id fun ⟨g, cap, cur, h1, h2, h3⟩ => ⟨g, cap, cur, h1, Nat.zero_le _, h3⟩⟩, ints_rep2 l, rfl⟩
  · match n, h with
    | 0, h =>
      have hg' : ownB v = some g := by simpa using hg
      rcases hr.2 with ⟨hz, _⟩ | ⟨g2, cap, cur, hz, _, hc, _⟩
      · rw [hz] at hg'; simp [ownB] at hg'
      · rw [hz] at hg'
        simp [ownB] at hg'
        rw [← hg']
        exact (Array.getElem?_eq_some_iff.1 hc).1
  · match n, m, h, h' with
    | 0, 0, _, _ => exact (hne rfl).elim
  · match n, h with
    | 0, h =>
      have hg' : ownB v = some g := by simpa using hg
      rcases hr.2 with ⟨hz, _⟩ | ⟨g2, cap, cur, hz, hbase, hc, _⟩
      · rw [hz] at hg'; simp [ownB] at hg'
      · rw [hz] at hg'
        simp [ownB] at hg'
        exact .inl (by omega)
  · simp only [ResV]
    exact ⟨[v, .bool b], rfl, by simp [VRelL, VRel]⟩
theorem im_heightsOf (n : Int) (u : List Int) (hu : u.length ≤ 1048576) : Spec2 Try.prog 14 [.int fun _ => n, .sl .int fun _ => u] [] [.ref 0, .bool fun _ => clB n u true] [some (.row 3 .int fun _ => hgtR n u)] := by
  refine ⟨by kernel_rfl, Nat.zero_le _, fun w val vs hH hv => ?_⟩
  match vs, hv with
  | [v1, v2], hv =>
  simp only [VRelL, VRel, and_true] at hv
  obtain ⟨rfl, hv2⟩ := hv
  unfold Rep at hv2
  obtain ⟨a, cap, h1, hlc, hlm, h2⟩ := hv2
  simp only [List.cons.injEq, and_true] at h1
  subst h1
  have bad : clB n u true = false → CallsIn Fence.wide 3 Try.prog 14 #[.int .i64 n, .slice a u.length cap] w (fun e W => HEnd w [] false e W) → Calls Try.prog 14 #[.int .i64 n, .slice a u.length cap] w (fun e w' => ∃ v val', e = .returned v ∧ SPost [] val [.ref 0, .bool fun _ => clB n u true] [some (.row 3 .int fun _ => hgtR n u)] w v w' val') := fun hb hc => by
    rw [hb, show hgtR n u = [] by unfold hgtR; rw [hb]; rfl]
    exact (callsIn_wide.1 hc).mono fun e W h => end_row h
  by_cases hm : 3 ≤ n ∧ n ≤ 8
  case neg => exact bad (by rw [← Bool.not_eq_true]; intro h; have := cl_get h; omega) (R.heights_badA 3 (by omega) n a u.length cap w hm)
  by_cases h3 : (u.length : Int) < 3
  case pos => exact bad (by rw [← Bool.not_eq_true]; intro h; have := cl_get h; omega) (R.heights_badB 3 (by omega) n a u.length cap w hm h3)
  by_cases h24 : (24 : Int) < (u.length : Int)
  case pos => exact bad (by rw [← Bool.not_eq_true]; intro h; have := cl_get h; omega) (R.heights_badC 3 (by omega) n a u.length cap w hm h24)
  rcases h2 with h2 | ⟨b, o, xs, rfl, hok, hb, hxl, hcell, hrep⟩
  · rw [h2] at h3; simp at h3
  have hxs := row_ints2 hrep
  have hc : ∀ j, j < u.length → w.cell? ⟨b, o + j, none⟩ = some (.int .i64 (u.getD j 0)) := fun j hj => hcell j _ (hxs j hj)
  by_cases hz : 0 ≤ u.getD 0 0 ∧ u.getD 0 0 < n
  case neg =>
    refine bad ?_ (R.heights_badD 3 (by omega) n b o u.length cap (u.getD 0 0) w hm (by omega) (by omega) hz hb (hc 0 (by omega)))
    rw [← Bool.not_eq_true]
    intro h
    have := in_gi (cl_get h).2.2.2.2.2 (k := 0) (by omega) (by omega)
    exact hz this
  have hz' : 0 ≤ gi u 0 ∧ gi u 0 < n := hz
  refine (callsIn_wide.1 (R.heights_in 3 (by omega) n b o cap u w hm (by omega) (by omega) hz hb hc)).mono fun e W h => ?_
  rcases h with ⟨hk, h⟩ | ⟨⟨k, hk, hkk, hx⟩, h⟩
  · have hg := okP_legs hm.1 hm.2 hu hz' (Nat.le_refl _) hk
    have hcl : clB n u true = true := by
      unfold clB
      rw [(good_iff hm.1 hm.2 (by omega) (by omega)).1 hg.1, decide_eq_true hm.1, decide_eq_true hm.2]
      rfl
    rw [hcl, show hgtR n u = hgts n u u.length by unfold hgtR; rw [if_pos hcl], ← hts_legs hm.1 hm.2 hu hz' (Nat.le_refl _) hk]
    exact end_row h
  · have hg := okP_legs hm.1 hm.2 hu hz' (by omega) hkk
    have g := hg.1.1 k (Nat.le_refl _) hk
    rw [leg_fst, leg_snd hk hu, riseG_eq hm.1 hm.2 g.1 g.2] at hx
    have hcl : clB n u true = false := by
      unfold clB
      rw [bad_clo hm.1 hm.2 hk hx]
      simp
    rw [hcl, show hgtR n u = [] by unfold hgtR; rw [hcl]; rfl]
    exact end_row h
end Go.Proofs.Ytnofnnhclogcmaa.M
/- slices.Reverse, slices.Compact of a row of numbers of the call's own; slices.Equal. -/
namespace Go.Proofs.Ytnofnnhclogcmaa.M
open Go.RowKit Abs
set_option linter.unusedSimpArgs false
set_option linter.unusedVariables false
set_option maxRecDepth 100000
set_option maxHeartbeats 4000000
theorem put_take2 {n : Nat} {d : List Int} {cur : Array Value} (hd : d.length = n) (hn : n ≤ cur.size) : (Go.Sort.putCells (Value.int .i64) 0 d.toArray cur).toList.take n = d.map (Value.int .i64) := by
  refine List.ext_getElem? fun i => ?_
  rw [List.getElem?_take, List.getElem?_map]
  by_cases h : i < n
  · rw [if_pos h, Array.getElem?_toList]
    unfold Go.Sort.putCells
    rw [Array.getElem?_mapIdx, Array.getElem?_eq_getElem (by omega)]
    simp only [Option.map_some]
    rw [if_pos ⟨Nat.zero_le _, by simp [hd]; exact h⟩, List.getElem?_eq_getElem (by omega)]
    simp only [Nat.sub_zero, Option.map_some]
    rw [getElem!_pos _ _ (by simpa [hd] using h)]
    simp
  · rw [if_neg h, List.getElem?_eq_none (by omega)]; rfl
theorem row_ints3 {ok : Nat → Prop} {w : World} {l : List Int} {xs : List Value} (h : RepL ok w .int l xs) (j : Nat) (hj : j < l.length) : xs[j]? = some (.int .i64 l[j]) := by
  have h7 := h.2 j l[j] (List.getElem?_eq_getElem hj)
  unfold Rep at h7
  have : ((xs.drop (j * Ty.int.n)).take Ty.int.n)[0]? = some (.int .i64 l[j]) := by rw [h7]; rfl
  rw [List.getElem?_take, List.getElem?_drop] at this
  simpa [Ty.n] using this
/-- A function of the library that lays a row of as many numbers in the place of a row of the call's own. -/
theorem lay_row (f : FuncId) (hf : enters Try.prog f = true) (l d : List Int) (hd : d.length = l.length) (res : List AV) (hl : l.length ≤ 1048576)
    (h0 : ∀ (w : World), l = [] → Calls Try.prog f #[.slice none 0 0] w fun e w' => ∃ v, e = .returned v ∧ w' = w ∧ (∀ val' : Nat → Bd, (val' 0).v = .slice none 0 0 → ResV w' 1 val' res v))
    (h1 : ∀ (blk cap : Nat) (w : World), Go.Sort.Holds (Value.int .i64) w blk 0 l.toArray → l.length ≤ cap → Calls Try.prog f #[.slice (some ⟨blk, 0, none⟩) l.length cap] w fun e w' => ∃ v, e = .returned v ∧ (∃ n, w' = Go.Sort.putRow (Value.int .i64) (Go.Sort.ahead w n) blk 0 d.toArray) ∧ (∀ val' : Nat → Bd, (val' 0).v = .slice (some ⟨blk, 0, none⟩) l.length cap → ResV w' 1 val' res v)) :
    Spec2 Try.prog f [.ref 0] [some (.row 3 .int fun _ => l)] res [some (.row 3 .int fun _ => d)] := by
  refine ⟨hf, Nat.le_refl _, fun w val vs hH hv => ?_⟩
  match vs, hv with
  | [v], hv =>
  simp only [VRelL, VRel, and_true] at hv
  obtain ⟨_, hv0⟩ := hv
  subst hv0
  obtain ⟨xs, k1, k2, k3⟩ := hH.blk 0 _ rfl
  replace k1 : w.ownsRow 0 3 1 (val 0).v l.length xs := k1
  replace k2 : RepL (okF [some (Blk.row 3 Ty.int fun x => l)] val) w .int l xs := k2
  have hlt0 := hH.lt 0 _ rfl
  have hx := row_ints3 k2
  have k1l := k1.1
  rcases k1.2 with ⟨hz, hn⟩ | ⟨g, cap, cur, hz, _, hc, hcap, hmax, hsz, htk⟩
  · have e : l = [] := List.length_eq_zero_iff.1 hn
    have ed : d = [] := List.length_eq_zero_iff.1 (by rw [hd]; exact hn)
    rw [hz]
    refine (h0 w e).mono ?_
    rintro e w' ⟨v, rfl, rfl, hres⟩
    refine ⟨_, val, rfl, ⟨⟨rfl, rfl, rfl, Nat.le_refl _, fun _ _ _ => rfl⟩, ⟨fun n B h => ?_, fun n B h g hg => ?_, fun n m B C hne h h' => ?_⟩, fun n B h g hg => ?_, fun n _ => rfl, hres _ hz⟩⟩
    · match n, h with
      | 0, h =>
        cases h
        exact ⟨[], by rw [ed, hz]; exact World.ownsRow_nil _ _ _ _, by rw [ed]; exact ints_rep2 [], k3⟩
    · match n, h with
      | 0, h => exact hlt0 g hg
    · match n, m, h, h' with
      | 0, 0, _, _ => exact (hne rfl).elim
    · match n, h with
      | 0, h => exact .inr ⟨0, _, rfl, hg⟩
  · have hF : ∀ b, b ∈ (val 0).F ↔ b = g := fun b => by rw [k3, hz]; simp [ownB]
    have hgl : g < w.heap.size := hlt0 g ((hF g).2 rfl)
    have hcl : l.length ≤ cur.size := by omega
    have hH2 : Go.Sort.Holds (Value.int .i64) w g 0 l.toArray := fun j hj => by
      have hj' : j < l.length := by simpa using hj
      have e1 : cur[j]? = some (.int .i64 l[j]) := by
        have := hx j hj'
        rw [← htk, List.getElem?_take, if_pos (by omega), Array.getElem?_toList] at this
        exact this
      refine ⟨?_, ?_⟩
      · simp only [World.cell?, hc, Nat.zero_add]
        rw [e1, getElem!_pos l.toArray j hj]
        simp
      · simp [World.frozen?, hc]
    rw [hz]
    refine (h1 g cap w hH2 hcap).mono ?_
    rintro e w' ⟨v, rfl, ⟨n, hw'⟩, hres⟩
    subst hw'
    have hw : ∀ k, k < w.heap.size → (Go.Sort.putRow (Value.int .i64) (Go.Sort.ahead w n) g 0 d.toArray).heap[k]? = if k = g then some (.cells (Go.Sort.putCells (Value.int .i64) 0 d.toArray cur) 3 (0, 0)) else w.heap[k]? := fun k hk => by
      simp only [Go.Sort.putRow, Go.Sort.mapBlock, Go.Sort.heap_ahead, Array.getElem?_modify]
      by_cases e : g = k
      · rw [if_pos e, if_pos e.symm, ← e, hc]; rfl
      · rw [if_neg e, if_neg (Ne.symm e)]
    refine ⟨_, val, rfl, ⟨⟨rfl, rfl, rfl, ?_, fun b hb hB => ?_⟩, ⟨fun n B h => ?_, fun n B h g' hg => ?_, fun n m B C hne h h' => ?_⟩, fun n B h g hg => ?_, fun n _ => rfl, hres _ hz⟩⟩
    · simp [Go.Sort.putRow, Go.Sort.mapBlock]
    · rw [hw b hb, if_neg fun e => hB ⟨0, _, rfl, (hF b).2 e⟩]
    · match n, h with
      | 0, h =>
        cases h
        refine ⟨d.map (Value.int .i64), ⟨by simp [Ty.n], .inr ⟨g, cap, _, by rw [hz, hd], Nat.zero_le _, by rw [hw g hgl, if_pos rfl], by rw [hd]; exact hcap, hmax, by simpa [Go.Sort.putCells, Ty.n] using hsz, ?_⟩⟩, ints_rep2 _, k3⟩
        simp only [Ty.n, Nat.mul_one]
        exact put_take2 rfl (by rw [hd]; exact hcl)
    · match n, h with
      | 0, h =>
        rw [(hF g').1 hg]
        simp [Go.Sort.putRow, Go.Sort.mapBlock]
        omega
    · match n, m, h, h' with
      | 0, 0, _, _ => exact (hne rfl).elim
    · match n, h with
      | 0, h => exact .inr ⟨0, _, rfl, hg⟩
theorem go_reverse (l : List Int) (hl : l.length ≤ 1048576) : Spec2 Try.prog 53 [.ref 0] [some (.row 3 .int fun _ => l)] [] [some (.row 3 .int fun _ => l.reverse)] := by
  refine lay_row _ (by kernel_rfl) l l.reverse (by simp) [] hl (fun w he => ?_) (fun blk cap w hH hcap => ?_)
  · refine (Try.slices_Reverse_int_empty none 0 w).mono ?_
    rintro e w' ⟨rfl, rfl⟩
    exact ⟨_, rfl, rfl, fun _ _ => ⟨[], rfl, by simp [VRelL]⟩⟩
  · refine (Try.slices_Reverse_int blk 0 cap l w hH (by omega)).mono ?_
    rintro e w' ⟨rfl, hn⟩
    exact ⟨_, rfl, hn, fun _ _ => ⟨[], rfl, by simp [VRelL]⟩⟩
theorem compact_le (l : List Int) : (Go.Lib.compact l).length ≤ l.length := Go.Lib.compact_length_le l
theorem go_compact (l : List Int) (hl : l.length ≤ 1048576) (hne : l ≠ []) : Spec2 Try.prog 50 [.ref 0] [some (.row 3 .int fun _ => l)] [.sub 0 (fun _ => 0) (fun _ => ((Go.Lib.compact l).length : Int)) 1] [some (.row 3 .int fun _ => Go.Lib.compact l ++ List.replicate (l.length - (Go.Lib.compact l).length) 0)] := by
  have hle := compact_le l
  refine lay_row _ (by kernel_rfl) l _ (by rw [List.length_append, List.length_replicate]; omega) _ hl (fun w he => absurd he hne) (fun blk cap w hH hcap => ?_)
  refine (Try.slices_Compact_int blk 0 cap l w hH (by omega) hcap).mono ?_
  rintro e w' ⟨rfl, hn⟩
  refine ⟨_, rfl, hn, fun val' h => ?_⟩
  simp only [ResV, VRel]
  refine ⟨Nat.zero_lt_one, Int.le_refl _, by omega, _, _, _, h, by omega, ?_⟩
  have : cap ≠ 0 := by
    have := List.length_pos_iff.2 hne
    omega
  simp [this, Addr.add]
theorem go_equal (a b : List Int) (ha : a.length ≤ 1048576) (hb : b.length ≤ 1048576) : Spec2 Try.prog 55 [.sl .int fun _ => a, .sl .int fun _ => b] [] [.bool fun _ => decide (a = b)] [] := by
  by_cases hl : a.length = b.length
  case neg =>
    have e : false = decide (a = b) := by rw [decide_eq_false]; intro h; exact hl (by rw [h])
    have hl' : ¬ (a.length : Int) = (b.length : Int) := by omega
    refine fnS [] [4] Try.func55 rfl (by decide) rfl (by decide) (by kernel_rfl) rfl (by simp [Try.ntmps55]) ?_
    cbv
    ((try simp only [IfP_iff, and_true, true_and, decide_eq_true_eq, decide_eq_false_iff_not]); (try simp only [natc, getI_gi, at2_0, at2_1]); (try dsimp only [Ty.den]); (try simp only [natc] at *); (repeat' (first | apply And.intro | intro _)))
    all_goals (try (exact absurd (by assumption) (by omega)))
    all_goals (try (simp only [IfP_iff, EqU_iff, Obl_iff, and_true, true_and, inI_iff, decide_eq_true_eq, decide_eq_false_iff_not]; (try simp only [natc, getI_gi, at2_0, at2_1]); (try dsimp only [Ty.den]); try simp only [natc] at *))
    all_goals ((repeat' (first | apply And.intro | intro _)) <;> first | exact e | omega | grind | trace_state)
  refine fnS [] [4] Try.func55 rfl (by decide) rfl (by decide) (by kernel_rfl) rfl (by simp [Try.ntmps55]) ?_
  cbv
  ((try simp only [IfP_iff, and_true, true_and, decide_eq_true_eq, decide_eq_false_iff_not]); (try simp only [natc, getI_gi, at2_0, at2_1]); (try dsimp only [Ty.den]); (try simp only [natc] at *); (repeat' (first | apply And.intro | intro _)))
  all_goals (try (exfalso; simp_all; done))
  refine loopP (by kernel_rfl) (fun k : Int => 0 ≤ k ∧ k ≤ a.length ∧ a.take k.toNat = b.take k.toNat) (fun k => [(13, .int fun _ => k)]) (fun _ => []) (fun k => (a.length - k).toNat) (· + 1) 0 (by refine ⟨by omega, by omega, rfl⟩) ?_ ?_
  · cbv
    (simp only [IfP_iff, EqU_iff, Obl_iff, and_true, true_and, inI_iff, decide_eq_true_eq, decide_eq_false_iff_not]; (try simp only [natc, getI_gi, at2_0, at2_1]); (try dsimp only [Ty.den]); try simp only [natc] at *)
  · intro k hk
    have e1 : ¬ k < (a.length : Int) → true = decide (a = b) := fun h => by
      have := hk.2.2
      rw [List.take_of_length_le (by omega), List.take_of_length_le (by omega)] at this
      rw [this]; simp
    have e2 : k < (a.length : Int) → ¬ gi a k = gi b k → false = decide (a = b) := fun h h2 => by
      rw [decide_eq_false]; intro hab; exact h2 (by rw [hab])
    have e3 : k < (a.length : Int) → gi a k = gi b k → a.take (k + 1).toNat = b.take (k + 1).toNat := fun h h2 => by
      rw [take_gi hk.1 h, take_gi hk.1 (by omega), hk.2.2, h2]
    have e4 : k < (a.length : Int) → (!decide (gi a k = gi b k)) = true → false = decide (a = b) := fun h h2 => e2 h (by simpa using h2)
    have e5 : k < (a.length : Int) → (!decide (gi a k = gi b k)) = false → a.take (k + 1).toNat = b.take (k + 1).toNat := fun h h2 => e3 h (by simpa using h2)
    have hk1 := hk.1
    have hk2 := hk.2.1
    clear hk
    cbv
    ((try simp only [IfP_iff, and_true, true_and, decide_eq_true_eq, decide_eq_false_iff_not]); (try simp only [natc, getI_gi, at2_0, at2_1]); (try dsimp only [Ty.den]); (try simp only [natc] at *); (repeat' (first | apply And.intro | intro _)))
    all_goals (try (simp only [IfP_iff, EqU_iff, Obl_iff, and_true, true_and, inI_iff, decide_eq_true_eq, decide_eq_false_iff_not]; (try simp only [natc, getI_gi, at2_0, at2_1]); (try dsimp only [Ty.den]); try simp only [natc] at *))
    all_goals ((repeat' (first | apply And.intro | intro _)) <;> first | omega | (exact e1 (by assumption)) | (exact e2 (by assumption) (by assumption)) | (exact e3 (by assumption) (by assumption)) | (exact e4 (by assumption) (by assumption)) | (exact e5 (by assumption) (by assumption)) | trace_state)
end Go.Proofs.Ytnofnnhclogcmaa.M
/- HeightsOf: how long the answer is. -/
namespace Go.Proofs.Ytnofnnhclogcmaa.M
open Go.RowKit Abs
set_option linter.unusedSimpArgs false
set_option linter.unusedVariables false
set_option maxRecDepth 100000
set_option maxHeartbeats 4000000
theorem hgtR_len (n : Int) (u : List Int) (hu : u.length ≤ 1048576) : (hgtR n u).length ≤ 1048576 := by
  unfold hgtR
  split
  · rename_i h
    have := cl_get h
    rw [hgts_len]
    omega
  · simp
end Go.Proofs.Ytnofnnhclogcmaa.M
