/- What a law's arguments are: their numbers are in range. -/
import Derived.Test.YtcgeedklfejhbaaQd
import Derived.ChangeOld
import Derived.WideShapes
namespace Go.Proofs.Ytcgeedklfejhbaa.Abs
open Go.RowKit
set_option linter.unusedVariables false
/-- Numbers in range, lists no longer than Go's. -/
def Ty.good : (t : Ty) → t.den → Prop
  | .int, x => -9223372036854775808 ≤ x ∧ x ≤ 9223372036854775807
  | .bool, _ => True
  | .str, _ => True
  | .u64, _ => True
  | .sl t, l => List.length l ≤ maxLen ∧ ∀ y ∈ l, Ty.good t y
  | .pr a b, x => Ty.good a x.1 ∧ Ty.good b x.2
  | .ar _ _, _ => True
theorem good_int {n : Int} (h : (Lit.int .i64 n).wf = true) : (Ty.int).good n := by
  have : -9223372036854775808 ≤ n ∧ n ≤ 9223372036854775807 := by simpa [Lit.wf, show IntKind.i64.min = -9223372036854775808 from by decide, show IntKind.i64.max = 9223372036854775807 from by decide] using h
  exact this
section
variable {H : Type} {enc : TypeId × Value → H} {P : Program} {w : World} {base : Nat} {spare : Nat → Bool} {held : Bool}
theorem open_good : ∀ {tt : Ty} {fuel : Nat} {t : TypeId} {cs : List Value} {x : DataW H × List MemPlace}, isTy P tt t → DataW.trod enc P w base spare held fuel t cs = some x → P.cellsOf t = tt.n → cs.length = tt.n →
    ∃ y, Rep (fun _ => True) w tt y cs ∧ tt.good y
  | _, 0, _, _, _, _, h, _, _ => by unfold DataW.trod at h; cases h
  | .int, fuel + 1, t, cs, x, ht, h, _, hl => by
    unfold isTy at ht
    match cs, hl with
    | [c], _ =>
      unfold DataW.trod at h
      rw [ht] at h
      cases c <;> simp at h
      rename_i k n _
      obtain ⟨⟨rfl, hw⟩, _⟩ := h
      exact ⟨n, by unfold Rep; rfl, good_int hw⟩
  | .bool, fuel + 1, t, cs, x, ht, h, _, hl => by
    unfold isTy at ht
    match cs, hl with
    | [c], _ =>
      unfold DataW.trod at h
      rw [ht] at h
      cases c <;> simp at h
      rename_i b _
      exact ⟨b, by unfold Rep; rfl, trivial⟩
  | .ar k a, fuel + 1, t, cs, x, ht, h, _, hl => by unfold isTy at ht; exact ht.elim
  | .u64, fuel + 1, t, cs, x, ht, h, _, hl => by unfold isTy at ht; exact ht.elim
  | .str, fuel + 1, t, cs, x, ht, h, _, hl => by
    unfold isTy at ht
    match cs, hl with
    | [c], _ =>
      unfold DataW.trod at h
      rw [ht] at h
      cases c <;> simp at h
      rename_i s _
      exact ⟨s, by unfold Rep; rfl, trivial⟩
  | .sl a, fuel + 1, t, cs, x, ht, h, _, hl => by
    unfold isTy at ht
    obtain ⟨e, ht, hc, he⟩ := ht
    match cs, hl with
    | [c], _ =>
      unfold DataW.trod at h
      rw [ht] at h
      cases c <;> simp only [reduceCtorEq] at h
      rename_i ad len cap _
      cases ad with
      | none =>
        have h0 : len = 0 ∧ cap = 0 := by
          cases len <;> cases cap <;> simp at h <;> exact ⟨rfl, rfl⟩
        obtain ⟨rfl, rfl⟩ := h0
        refine ⟨[], ?_, by simp [Ty.good]⟩
        unfold Rep
        exact ⟨none, 0, rfl, Nat.le_refl _, by simp [maxLen], .inl rfl⟩
      | some ad =>
        simp only at h
        split at h
        · rename_i hb
          simp only [Option.bind_eq_some_iff] at h
          obtain ⟨elems, hel, _⟩ := h
          have each : ∀ i, i < len → ∃ y : a.den × List Value, (Rep (fun _ => True) w a y.1 y.2 ∧ w.cells? base (ad.add (i * P.cellsOf e)) (P.cellsOf e) = some y.2) ∧ a.good y.1 := fun i hi => by
            obtain ⟨z, _, hz⟩ := mapM_idx hel i i (by simp [hi])
            simp only [Option.bind_eq_some_iff] at hz
            obtain ⟨cs', h1, h2⟩ := hz
            obtain ⟨y, hy, hyg⟩ := open_good he h2 hc (by rw [← hc]; exact (World.cells?_some h1).2.1)
            exact ⟨(y, cs'), ⟨hy, h1⟩, hyg⟩
          obtain ⟨L, hL, hLq⟩ := choose_list len each
          have hLp := fun i z h => (hLq i z h).1
          refine ⟨L.map (·.1), ?_, ?_⟩
          rotate_left 1
          · refine ⟨by simp [hL]; exact Nat.le_trans hb.2.1 hb.2.2, fun y hy => ?_⟩
            obtain ⟨z, hz, rfl⟩ := List.mem_map.1 hy
            obtain ⟨i, hi, rfl⟩ := List.mem_iff_getElem.1 hz
            exact (hLq i _ (List.getElem?_eq_getElem hi)).2
          unfold Rep
          refine ⟨some ad, cap, by simp [hL], by simp [hL]; exact hb.2.1, by simp [hL]; exact Nat.le_trans hb.2.1 hb.2.2, ?_⟩
          by_cases hne : L = []
          · left; rw [hne]; rfl
          · right
            have hp := a.n_pos
            have hLpos : 0 < L.length := List.length_pos_iff.2 hne
            have hspot : ad.spot = none := by
              obtain ⟨k1, k2⟩ := hLp 0 _ (List.getElem?_eq_getElem hLpos)
              have k3 := (World.cells?_some k2).2.2 0 (by omega)
              rw [Nat.zero_mul] at k3
              have k4 : w.cell? ad = (L[0]).2[0]? := by simpa [Addr.add] using k3
              have k5 : (L[0]).2[0]? ≠ none := by
                rw [List.getElem?_eq_getElem (by have := k1.length; omega)]; simp
              rw [← k4] at k5
              unfold World.cell? at k5
              cases hsp : ad.spot with
              | none => rfl
              | some s =>
                rw [hsp] at k5
                exfalso; apply k5
                split <;> simp
            have hRL := flat_repl (w := w) (ok := fun _ => True) (t := a) (l := L.map (·.1)) (vs := L.map (·.2)) (by simp) (fun i y hy => by
              rw [List.getElem?_map] at hy ⊢
              cases hc : L[i]? with
              | none => rw [hc] at hy; cases hy
              | some z => rw [hc] at hy; cases hy; exact ⟨_, rfl, (hLp i z hc).1⟩)
            have hcells : ∀ (i : Nat) (z : a.den × List Value), L[i]? = some z → ∀ j u, z.2[j]? = some u → w.cell? ⟨ad.block, ad.off + i * a.n + j, none⟩ = some u := fun i z hz j u hu => by
              obtain ⟨k1, k2⟩ := hLp i z hz
              have hj : j < P.cellsOf e := by rw [hc, ← k1.length]; exact (List.getElem?_eq_some_iff.1 hu).1
              have k3 := (World.cells?_some k2).2.2 j hj
              rw [hu, hc] at k3
              have e1 : ad = ⟨ad.block, ad.off, none⟩ := by cases ad; simp at hspot; subst hspot; rfl
              rw [e1, Addr.add_lit, Addr.add_lit] at k3
              exact k3
            have hblk : ad.block < w.heap.size := by
              obtain ⟨k1, k2⟩ := hLp 0 _ (List.getElem?_eq_getElem hLpos)
              have := World.cells?_block k2 (by rw [hc]; exact hp)
              rw [Nat.zero_mul] at this
              simpa [Addr.add] using this
            refine ⟨ad.block, ad.off, (L.map (·.2)).flatten, ?_, trivial, hblk, by rw [hRL.1], fun j v hj => ?_, hRL.2⟩
            · cases ad; simp at hspot; subst hspot; rfl
            · have hlt : j < L.length * a.n := by
                have := (List.getElem?_eq_some_iff.1 hj).1
                rw [hRL.1] at this
                simpa using this
              have hq : j / a.n < L.length := by rw [Nat.div_lt_iff_lt_mul hp]; exact hlt
              have hrep := hRL.2 (j / a.n) (L[j / a.n]).1 (by simp [hq])
              have hz : L[j / a.n]? = some L[j / a.n] := List.getElem?_eq_getElem hq
              have hpick : ∀ (vs : List (List Value)) (n q : Nat), (∀ (i : Nat) (c : List Value), vs[i]? = some c → c.length = n) → q < vs.length → ((vs.flatten).drop (q * n)).take n = vs.getD q [] := by
                intro vs
                induction vs with
                | nil => intro n q _ hq; simp at hq
                | cons c vs ih =>
                  intro n q hlen hq
                  have hcn := hlen 0 c rfl
                  cases q with
                  | zero => simp only [Nat.zero_mul, List.drop_zero, List.flatten_cons]; rw [List.take_append_of_le_length (by omega), List.take_of_length_le (by omega)]; rfl
                  | succ q =>
                    rw [List.flatten_cons, show (q + 1) * n = c.length + q * n by rw [Nat.add_mul, hcn]; omega, List.drop_append, List.drop_eq_nil_of_le (by omega : c.length ≤ c.length + q * n), List.nil_append, Nat.add_sub_cancel_left]
                    rw [ih n q (fun i c hc => hlen (i + 1) c (by simpa using hc)) (by simpa using hq)]
                    rfl
              have hpk := hpick (L.map (·.2)) a.n (j / a.n) (fun i c hc => by
                rw [List.getElem?_map] at hc
                cases hci : L[i]? with
                | none => rw [hci] at hc; cases hc
                | some z => rw [hci] at hc; cases hc; exact (hLp i z hci).1.length) (by simpa using hq)
              have hjv : (L[j / a.n]).2[j % a.n]? = some v := by
                have e2 : (L.map (·.2)).getD (j / a.n) [] = (L[j / a.n]).2 := by simp [hq]
                rw [← e2, ← hpk, List.getElem?_take, if_pos (Nat.mod_lt _ hp), List.getElem?_drop, show j / a.n * a.n + j % a.n = j by rw [Nat.mul_comm]; exact Nat.div_add_mod j a.n]
                exact hj
              have := hcells _ _ hz _ _ hjv
              rw [Nat.add_assoc, show j / a.n * a.n + j % a.n = j by rw [Nat.mul_comm]; exact Nat.div_add_mod j a.n] at this
              exact this
        · cases h
  | .pr a b, fuel + 1, t, cs, x, ht, h, hct, hl => by
    have fin : ∀ {xa xb : DataW H × List MemPlace} {ta tb : TypeId}, isTy P a ta → isTy P b tb → P.cellsOf ta = a.n → P.cellsOf tb = b.n →
        DataW.trod enc P w base spare held fuel ta (cs.take a.n) = some xa → DataW.trod enc P w base spare held fuel tb ((cs.drop a.n).take b.n) = some xb → ∃ y, Rep (fun _ => True) w (.pr a b) y cs ∧ (Ty.pr a b).good y := by
      intro xa xb ta tb ia ib ca cb ha hb
      have hl' : cs.length = a.n + b.n := hl
      obtain ⟨y1, h1, z1⟩ := open_good ia ha ca (by rw [List.length_take]; omega)
      obtain ⟨y2, h2, z2⟩ := open_good ib hb cb (by rw [List.length_take, List.length_drop]; omega)
      refine ⟨(y1, y2), ?_, z1, z2⟩
      unfold Rep
      refine ⟨cs.take a.n, cs.drop a.n, (List.take_append_drop _ _).symm, h1, ?_⟩
      rw [List.take_of_length_le (by rw [List.length_drop]; omega)] at h2
      exact h2
    unfold isTy at ht
    unfold DataW.trod at h
    rcases ht with ⟨e, hu, c1, c2, i1, i2⟩ | ⟨f0, f1, hu, o0, o1, c1, c2, i1, i2⟩
    · rw [hu] at h
      have h' : (if cs.length = P.cellsOf t then ((List.range 2).mapM fun i => DataW.trod enc P w base spare held fuel e ((cs.drop (i * P.cellsOf e)).take (P.cellsOf e))).map fun xs => (.agg (xs.map (·.1)), xs.flatMap (·.2)) else none) = some x := by
        rcases cs with _ | ⟨c, _ | ⟨c', r⟩⟩ <;> simpa using h
      rw [if_pos (by rw [hl, hct]), Option.map_eq_some_iff] at h'
      obtain ⟨xs, hxs, _⟩ := h'
      obtain ⟨xa, _, ha⟩ := mapM_idx hxs 0 0 rfl
      obtain ⟨xb, _, hb⟩ := mapM_idx hxs 1 1 rfl
      rw [Nat.zero_mul, List.drop_zero, c1] at ha
      rw [Nat.one_mul] at hb
      exact fin i1 i2 c1 c2 ha (by rw [c2] at hb; rw [← c1, c2]; exact hb)
    · rw [hu] at h
      have h' : (if cs.length = P.cellsOf t then ([f0, f1].mapM fun f => DataW.trod enc P w base spare held fuel f.type ((cs.drop f.offset).take (P.cellsOf f.type))).map fun xs => (.agg (xs.map (·.1)), xs.flatMap (·.2)) else none) = some x := by
        rcases cs with _ | ⟨c, _ | ⟨c', r⟩⟩ <;> simpa using h
      rw [if_pos (by rw [hl, hct]), Option.map_eq_some_iff] at h'
      obtain ⟨xs, hxs, _⟩ := h'
      obtain ⟨xa, _, ha⟩ := mapM_idx hxs 0 f0 rfl
      obtain ⟨xb, _, hb⟩ := mapM_idx hxs 1 f1 rfl
      rw [o0, List.drop_zero, c1] at ha
      rw [o1, c2] at hb
      exact fin i1 i2 c1 c2 ha hb
end
end Go.Proofs.Ytcgeedklfejhbaa.Abs
