/- Functions whose one result is an array, in a cell. -/
import Derived.Test.YthogfineaeklpaaQg
import Derived.Laws.ResultCell
import Derived.Laws.Rows
namespace Go.Proofs.Ythogfineaeklpaa.M
open Go.RowKit Abs
set_option linter.unusedSimpArgs false
set_option linter.unusedVariables false
set_option maxRecDepth 100000
set_option maxHeartbeats 4000000
def endAP (k : Nat) (ρ : List Nat) (p n : Nat) (res : List AV) (post : Hp) (e : AX) (S : AS) : Prop :=
  goodX e ∧ (match S.tm.getD p .undef with
    | .eptr nb _ 0 => (match S.H[nb]? with
      | some (some (.arr _ q t l)) => (if ((q + 1) * t.n == n) = true then True else False) ∧ AVleL S.H.length [.agg (.ar q t) l] (renL ρ res)
      | _ => False)
    | _ => False) ∧ postP S.H.length ρ S.H ρ post ∧ (if (S.k == k && okB k ρ res post) = true then True else False)
theorem endAP.get {k : Nat} {ρ : List Nat} {p n : Nat} {res : List AV} {post : Hp} {e : AX} {S : AS} (h : endAP k ρ p n res post e S) : goodX e ∧ okB k ρ res post = true ∧ S.k = k ∧
    (∃ nb i0 e0 q t l, S.tm.getD p .undef = .eptr nb i0 0 ∧ S.H[nb]? = some (some (.arr e0 q t l)) ∧ (q + 1) * t.n = n ∧ AVleL S.H.length [.agg (.ar q t) l] (renL ρ res)) ∧ postP S.H.length ρ S.H ρ post := by
  obtain ⟨h0, h1, h2, h3⟩ := h
  have h4 := if_true_iff h3
  simp only [Bool.and_eq_true, beq_iff_eq] at h4
  refine ⟨h0, h4.2, h4.1, ?_, h2⟩
  split at h1
  · rename_i nb i0 hp
    split at h1
    · rename_i e0 q t l hb
      have h5 := if_true_iff h1.1
      exact ⟨nb, i0, e0, q, t, l, hp, hb, by simpa using h5, h1.2⟩
    · exact h1.elim
  · exact h1.elim
theorem Spec2.ofCA {P : Unit → Program} {T : Unit → Tab} {f : FuncId} {fn : Func} {c : Code} {args : List AV} {pre : Hp} {res : List AV} {post : Hp} (ρ : List Nat) (p n : Nat) (ty : TypeId)
    (hf : (P ()).funcs[f]? = some fn) (hb : fn.body = some c) (hname : (fn.name != "runtime.NumGoroutine") = true) (hres : fn.results = #[.cell p ty]) (hag : isAggB (P ()) ty = some true) (hsz : szOf (P ()) ty = some n) (hpl : pre.length ≤ post.length) (hnt : args.length ≤ fn.ntmps)
    (h : AWp (P ()) c (endAP pre.length ρ p n res post) ⟨args ++ List.replicate (fn.ntmps - args.length) .undef, pre, pre.length⟩) : Spec2 (P ()) f args pre res post := by
  refine ⟨by simp [enters, hf, hb]; simpa using hname, hpl, fun w val vs hH hv => ?_⟩
  have hvl := hv.len
  have hE : Rl w (pBlk pre val) (fun n => (val n).v) ⟨args ++ List.replicate (fn.ntmps - args.length) .undef, pre, pre.length⟩ { tmps := vs.toArray ++ Array.replicate (fn.ntmps - vs.toArray.size) undef, defers := [] } w val := by
    refine ⟨Frame0.refl _ _, by simp [hvl], rfl, fun t => ?_, hH, fun n b hn g hg => .inr ⟨n, b, hn, hg⟩, fun _ _ => rfl, Nat.le_refl _⟩
    rw [List.getD_eq_getElem?_getD, Array.getD_eq_getD_getElem?]
    by_cases ht : t < args.length
    · obtain ⟨v, hv1, hv2⟩ := hv.get (i := t) (x := args[t]) (by simp [ht])
      rw [List.getElem?_append_left ht, List.getElem?_eq_getElem ht, Array.getElem?_append_left (by simp; omega)]
      simp only [Option.getD_some]
      rw [show vs.toArray[t]? = some v by simpa using hv1]
      exact hv2
    · rw [List.getElem?_append_right (by omega), Array.getElem?_append_right (by simp; omega)]
      by_cases h2 : t - args.length < fn.ntmps - args.length
      · rw [List.getElem?_replicate, if_pos h2, Array.getElem?_replicate, if_pos (by simp; omega)]
        simp only [Option.getD_some, VRel]; rfl
      · rw [List.getElem?_replicate, if_neg h2, Array.getElem?_replicate, if_neg (by simp; omega)]
        simp only [Option.getD_none, VRel]; rfl
  refine calls_of_wp hf hb (wp_mono (h w _ _ _ w _ hE) ?_)
  rintro e a w' ⟨x, S, val', rfl, hx, hR0⟩
  obtain ⟨hxe, hok, hk, ⟨nb, i0, e0, q, tt, l, hp, hbx, hn, h1⟩, h2⟩ := hx.get
  have hR := hR0
  simp only [okB, Bool.and_eq_true, beq_iff_eq] at hok
  obtain ⟨⟨⟨⟨⟨⟨o1, o2⟩, o3⟩, o4⟩, o5⟩, o6⟩, o7⟩ := hok
  have hnd := nodupB_spec o2
  have hkp := Nat.le_of_ble_eq_true o4
  have hfirst : ∀ i, i < pre.length → nth ρ i = i := fun i hi => by
    simp only [firstB, List.all_eq_true, beq_iff_eq] at o3
    exact o3 i (List.mem_of_getElem? (i := i) (by rw [upFrom_get, if_pos hi]; simp))
  have hblk : ∀ i b, post[i]? = some (some b) → flatB b = true ∧ ltB post.length b = true := fun i b hb => by
    have := (List.all_eq_true.1 o7) _ (List.mem_of_getElem? hb)
    simpa using this
  have core : a.defers = [] ∧ ∃ v, (results fn a.tmps).run (P ()) w' = .ok v w' ∧ ∃ v2 val2, Ending.returned v = .returned v2 ∧ SPost pre val res post w v2 w' val2 := by
    have get : ∀ {i : Nat} {b : Blk}, post[i]? = some (some b) → ∃ c, S.H[nth ρ i]? = some (some c) ∧ BLe S.H.length c (renB ρ b) := fun {i b} hb => by
      obtain ⟨n, c, k1, k2, k3⟩ := postP_get o1 h2 hb
      exact ⟨c, by rw [nth_of k1]; exact k2, k3⟩
    obtain ⟨g, xs, b1, b2, b3, b4, b5, b6⟩ := arr_at (hR.heap.blk nb _ hbx)
    have htp := hR.tmps p
    rw [hp] at htp
    simp only [VRel] at htp
    obtain ⟨_, g', len, cap, t1, _, _, t2⟩ := htp
    rw [b1] at t1
    cases t1
    rw [Nat.mul_zero] at t2
    rcases b2.2 with ⟨q1, _⟩ | ⟨g2, cap2, cur, q1, q2, q3, q4, q5, q6, q7⟩
    · rw [q1] at b1; cases b1
    have hq : g2 = g ∧ cap2 = q + 1 := by
      rw [b1] at q1
      simp only [Value.slice.injEq, Option.some.injEq, Addr.mk.injEq] at q1
      exact ⟨q1.1.1.symm, q1.2.2.symm⟩
    obtain ⟨rfl, rfl⟩ := hq
    have hcx : cur.toList = xs := by
      rw [← q7, b4, List.take_of_length_le (by rw [Array.length_toList, q6]; exact Nat.le_refl _)]
    have hcur : cur.size = n := by rw [q6]; exact hn
    have hrun : (results fn a.tmps).run (P ()) w' = .ok (.agg cur) w' := by
      have hsz' : ((P ()).info? ty).map (·.size) = some cur.size := by rw [hcur]; exact hsz
      unfold isAggB at hag
      split at hag
      · rename_i hu; exact results_cell_row hres _ _ g2 e0 cur (0, 0) _ t2 q3 hu rfl hsz'
      · rename_i hu; exact results_cell_row hres _ _ g2 e0 cur (0, 0) _ t2 q3 hu rfl hsz'
      · cases hag
      · cases hag
    refine ⟨hR.defers, _, hrun, _, fun i => val' (nth ρ i), rfl, ⟨hR.fr, ⟨fun i b hb => ?_, fun i b hb g hg => ?_, fun i j b c hij hb hc g hg hg' => ?_⟩, fun i b hb g hg => ?_, fun i hi => ?_, ?_⟩⟩
    · obtain ⟨c, k1, k2⟩ := get hb
      have k3 := (hR.heap.blk _ _ k1).le k2
      obtain ⟨f1, f2⟩ := hblk i b hb
      have k4 : BRel (okF S.H val') w' post.length (fun i => val' (nth ρ i)) (val' (nth ρ i)) b := k3.unren (fun _ h => h) (fun n _ => ⟨rfl, rfl⟩) f2
      cases b with
      | row e t l => obtain ⟨xs, m1, m2, m3⟩ := k4; exact ⟨xs, m1, ⟨m2.1, fun i y hy => (m2.2 i y hy).flat f1⟩, m3⟩
      | rows e e2 t l =>
        obtain ⟨m1, m2, m3⟩ := k4
        refine ⟨m1, fun i y hy => ?_, m3⟩
        obtain ⟨h, xs, n1, n2, n3⟩ := m2 i y hy
        exact ⟨h, xs, n1, n2, n3.1, fun i y hy => (n3.2 i y hy).flat f1⟩
      | rowsH e e2 t l k => cases f1
      | arr e k t l => cases f1
      | ext s F => cases f1
      | box e cs => obtain ⟨g, cur, m1, m2, m3, m4⟩ := k4; exact ⟨g, cur, m1, m2, m3.flat f1, m4⟩
    · obtain ⟨c, k1, k2⟩ := get hb
      exact hR.heap.lt _ _ k1 g hg
    · obtain ⟨c1, k1, _⟩ := get hb
      obtain ⟨c2, k2, _⟩ := get hc
      refine hR.heap.apart _ _ _ _ (fun e => hij ?_) k1 k2 g hg hg'
      have hi : i < ρ.length := by rw [o1]; exact (List.getElem?_eq_some_iff.1 hb).1
      have hj : j < ρ.length := by rw [o1]; exact (List.getElem?_eq_some_iff.1 hc).1
      have e1 := nth_get hi
      have e2 := nth_get hj
      rw [e] at e1
      exact (List.getElem_inj (h₀ := hi) (h₁ := hj) hnd).1 (by rw [(List.getElem?_eq_some_iff.1 e1).2, (List.getElem?_eq_some_iff.1 e2).2])
    · obtain ⟨c, k1, _⟩ := get hb
      exact hR.own _ _ k1 g hg
    · have := hR.kept (nth ρ i)
      rw [hfirst i hi] at this
      rw [hfirst i hi]
      exact this (by rw [hk]; exact hi)
    · have m1 : VRelL (okF S.H val') w' S.H.length val' [.agg (.ar q tt) l] [.agg cur] := by
        simp only [VRelL, VRel, and_true]
        exact ⟨cur.toList, by simp, by rw [hcx]; exact b5⟩
      have m2 : VRelL NoB w' post.length (fun i => val' (nth ρ i)) res [.agg cur] := (VRelL.unren (N := post.length) (val := fun i => val' (nth ρ i)) (fun n _ => ⟨rfl, rfl⟩) o6 (m1.le h1)).flat o5
      have m3 := m2.len
      unfold ResV
      match res, m2, m3 with
      | [r], m2, m3 => simp only [VRelL, and_true] at m2; exact m2
      | [], m2, m3 => simp at m3
      | r :: r' :: rs, m2, m3 => simp at m3
  cases x with
  | normal => exact core
  | ret => exact core
  | exit i => exact hxe.elim
  | goto l => exact hxe.elim
theorem fnA (ρ : List Nat) (p n : Nat) (ty : TypeId) {f : FuncId} {fn : Func} {c : Code} {args : List AV} {pre : Hp} {res : List AV} {post : Hp}
    (hf : Try.prog.funcs[f]? = some fn) (hb : fn.body = some c) (hname : (fn.name != "runtime.NumGoroutine") = true) (hres : fn.results = #[.cell p ty]) (hag : isAggB Try.prog ty = some true) (hsz : szOf Try.prog ty = some n) (hdr : drawB c = true) (hpl : pre.length ≤ post.length) (hnt : args.length ≤ fn.ntmps)
    (h : vc (fun _ => Try.prog) (fun _ => tab) c (endAP pre.length ρ p n res post) ⟨args ++ List.replicate (fn.ntmps - args.length) .undef, pre, pre.length⟩) : Spec2 Try.prog f args pre res post :=
  Spec2.ofCA (P := fun _ => Try.prog) (T := fun _ => tab) ρ p n ty hf hb hname hres hag hsz hpl hnt (vc_sound tabOk mixed c _ _ hdr h)
end Go.Proofs.Ythogfineaeklpaa.M
