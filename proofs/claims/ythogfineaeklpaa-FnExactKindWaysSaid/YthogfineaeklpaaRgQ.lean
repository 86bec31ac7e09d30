/- Functions whose results are temporaries, structs in cells and arrays in cells, in whatever mix of at most three. -/
import Derived.Test.YthogfineaeklpaaQg
import Derived.Test.YthogfineaeklpaaRaQ
import Derived.Laws.ResultCell
import Derived.Laws.Rows
namespace Go.Proofs.Ythogfineaeklpaa.M
open Go.RowKit Abs
set_option linter.unusedSimpArgs false
set_option linter.unusedVariables false
set_option maxRecDepth 100000
set_option maxHeartbeats 4000000
inductive RK where
  | tmp (t : Tmp)
  | cst (p n : Nat) (ty : TypeId)
  | car (p n : Nat) (ty : TypeId)
  /-- A struct of a number and an array of r + 1 numbers. -/
  | csq (p r : Nat) (ty : TypeId)
def RK.var : RK → ResultVar
  | .tmp t => .tmp t
  | .cst p _ ty => .cell p ty
  | .car p _ ty => .cell p ty
  | .csq p _ ty => .cell p ty
def RK.okB (P : Program) : RK → Bool
  | .tmp _ => true
  | .cst _ n ty => isAggB P ty == some true && szOf P ty == some n
  | .car _ n ty => isAggB P ty == some true && szOf P ty == some n
  | .csq _ r ty => isAggB P ty == some true && szOf P ty == some (r + 1 + 1)
def outA (S : AS) : RK → Option AV
  | .tmp t => some (S.tm.getD t .undef)
  | .cst p n _ => (match S.tm.getD p .undef with
    | .ptr nb 0 => (match S.H[nb]? with
      | some (some (.box _ cs)) => if (cs.length == n) = true then some (.cells cs) else none
      | _ => none)
    | _ => none)
  | .car p n _ => (match S.tm.getD p .undef with
    | .eptr nb _ 0 => (match S.H[nb]? with
      | some (some (.arr _ q t l)) => if ((q + 1) * t.n == n) = true then some (.agg (.ar q t) l) else none
      | _ => none)
    | _ => none)
  | .csq p r _ => (match S.tm.getD p .undef with
    | .eptr nb _ 0 => (match S.H[nb]? with
      | some (some (.arr _ q .int l)) => if (q == r + 1) = true then some (.agg (.pr .int (.ar r .int)) fun _ => (getI .int (l ()) 0, List.drop 1 (l ()))) else none
      | _ => none)
    | _ => none)
def outsA (S : AS) : List RK → Option (List AV)
  | [] => some []
  | r :: rs => (match outA S r with
    | some x => (match outsA S rs with
      | some xs => some (x :: xs)
      | none => none)
    | none => none)
def rvS (tmps : Array Value) : ResultVar → Sem Value
  | .tmp t => pure (tmps.getD t undef)
  | .cell a t => do loadVar t (← asAddr (tmps.getD a undef))
theorem results_eq (fn : Func) (tmps : Array Value) : results fn tmps = (do let vs ← fn.results.mapM (rvS tmps); pure (if h : vs.size = 1 then vs[0] else .tuple vs)) := by
  unfold results
  congr 1
theorem results_1 {fn : Func} {r : ResultVar} {v : Value} {tmps : Array Value} {P : Program} {w : World} (h : fn.results = #[r]) (h1 : (rvS tmps r).run P w = .ok v w) : (results fn tmps).run P w = .ok v w := by
  rw [results_eq, h]
  simp [Sem.run_bind, h1]
theorem results_2 {fn : Func} {r s : ResultVar} {v u : Value} {tmps : Array Value} {P : Program} {w : World} (h : fn.results = #[r, s]) (h1 : (rvS tmps r).run P w = .ok v w) (h2 : (rvS tmps s).run P w = .ok u w) : (results fn tmps).run P w = .ok (.tuple #[v, u]) w := by
  rw [results_eq, h]
  simp [Sem.run_bind, h1, h2]
theorem results_3 {fn : Func} {r s q : ResultVar} {v u y : Value} {tmps : Array Value} {P : Program} {w : World} (h : fn.results = #[r, s, q]) (h1 : (rvS tmps r).run P w = .ok v w) (h2 : (rvS tmps s).run P w = .ok u w) (h3 : (rvS tmps q).run P w = .ok y w) : (results fn tmps).run P w = .ok (.tuple #[v, u, y]) w := by
  rw [results_eq, h]
  simp [Sem.run_bind, h1, h2, h3]
theorem run_rvS_cell {P : Program} {w : World} {tmps : Array Value} {p : Tmp} {ty e0 : TypeId} {g : Nat} {cur : Array Value} {n : Nat} (hp : tmps.getD p undef = .pointer (some ⟨g, 0, none⟩)) (hb : w.heap[g]? = some (.cells cur e0 (0, 0))) (hag : isAggB P ty = some true) (hsz : szOf P ty = some n) (hn : cur.size = n) : (rvS tmps (.cell p ty)).run P w = .ok (.agg cur) w := by
  have hload : (loadVar ty ⟨g, 0, none⟩).run P w = .ok (.agg cur) w := by
    have hsz' : (P.info? ty).map (·.size) = some cur.size := by rw [hn]; exact hsz
    unfold isAggB at hag
    split at hag
    · rename_i hu; exact run_loadVar_row w g e0 ty cur (0, 0) _ hb hu rfl hsz'
    · rename_i hu; exact run_loadVar_row w g e0 ty cur (0, 0) _ hb hu rfl hsz'
    · cases hag
    · cases hag
  have e0' : rvS tmps (.cell p ty) = (do loadVar ty (← asAddr (tmps.getD p undef))) := rfl
  rw [e0', hp]
  have e1 : (asAddr (.pointer (some ⟨g, 0, none⟩))).run P w = .ok ⟨g, 0, none⟩ w := by simp [asAddr]
  rw [Sem.run_bind, e1]
  simp only [Result.andThen_ok]
  exact hload
theorem rk_run {P : Program} {w0 w : World} {B : Nat → Prop} {hd : Nat → Value} {S : AS} {a : Act} {val : Nat → Bd} {r : RK} {x : AV} (hR : Rl w0 B hd S a w val) (hk : r.okB P = true) (hx : outA S r = some x) : ∃ v, (rvS a.tmps r.var).run P w = .ok v w ∧ VRel (okF S.H val) w S.H.length val x v := by
  cases r with
  | tmp t =>
    simp only [outA, Option.some.injEq] at hx
    subst hx
    exact ⟨_, rfl, hR.tmps t⟩
  | cst p n ty =>
    simp only [RK.okB, Bool.and_eq_true, beq_iff_eq] at hk
    simp only [outA] at hx
    split at hx
    · rename_i nb hp
      split at hx
      · rename_i e0 cs hbx
        split at hx
        · rename_i hn
          cases hx
          obtain ⟨g, cur, b1, b2, b3, b4, _⟩ := hR.heap.blk nb _ hbx
          have htp := hR.tmps p
          rw [hp] at htp
          simp only [VRel] at htp
          obtain ⟨_, g', t1, t2⟩ := htp
          rw [b1] at t1
          cases t1
          have hcur : cur.size = n := by have := b3.len; simp only [Array.length_toList] at this; have := (beq_iff_eq).1 hn; omega
          refine ⟨.agg cur, run_rvS_cell t2 b2 hk.1 hk.2 hcur, ?_⟩
          simp only [VRel]
          exact ⟨cur.toList, by simp, b3, b4⟩
        · cases hx
      · cases hx
    · cases hx
  | car p n ty =>
    simp only [RK.okB, Bool.and_eq_true, beq_iff_eq] at hk
    simp only [outA] at hx
    split at hx
    · rename_i nb i0 hp
      split at hx
      · rename_i e0 q tt l hbx
        split at hx
        · rename_i hn
          cases hx
          obtain ⟨g, xs, b1, b2, b3, b4, b5, b6⟩ := arr_at (hR.heap.blk nb _ hbx)
          have htp := hR.tmps p
          rw [hp] at htp
          simp only [VRel] at htp
          obtain ⟨_, g', len, cap, t1, _, _, t2⟩ := htp
          rw [b1] at t1
          cases t1
          rw [Nat.mul_zero] at t2
          rcases b2.2 with ⟨q1, _⟩ | ⟨g2, cap2, cur, q1, q2, q3, q4, q5, q6, q7⟩
          · rw [q1] at b1; cases b1
          have hq : g2 = g ∧ cap2 = q + 1 := by
            rw [b1] at q1
            simp only [Value.slice.injEq, Option.some.injEq, Addr.mk.injEq] at q1
            exact ⟨q1.1.1.symm, q1.2.2.symm⟩
          obtain ⟨rfl, rfl⟩ := hq
          have hcx : cur.toList = xs := by
            rw [← q7, b4, List.take_of_length_le (by rw [Array.length_toList, q6]; exact Nat.le_refl _)]
          have hcur : cur.size = n := by rw [q6]; exact (beq_iff_eq).1 hn
          refine ⟨.agg cur, run_rvS_cell t2 q3 hk.1 hk.2 hcur, ?_⟩
          simp only [VRel]
          exact ⟨cur.toList, by simp, by rw [hcx]; exact b5⟩
        · cases hx
      · cases hx
    · cases hx
  | csq p r ty =>
    simp only [RK.okB, Bool.and_eq_true, beq_iff_eq] at hk
    simp only [outA] at hx
    split at hx
    · rename_i nb i0 hp
      split at hx
      · rename_i e0 q l hbx
        split at hx
        · rename_i hn
          cases hx
          obtain ⟨g, xs, b1, b2, b3, b4, b5, b6⟩ := arr_at (hR.heap.blk nb _ hbx)
          have hn' : q = r + 1 := (beq_iff_eq).1 hn
          subst hn'
          have htp := hR.tmps p
          rw [hp] at htp
          simp only [VRel] at htp
          obtain ⟨_, g', len, cap, t1, _, _, t2⟩ := htp
          rw [b1] at t1
          cases t1
          rw [Nat.mul_zero] at t2
          rcases b2.2 with ⟨q1, _⟩ | ⟨g2, cap2, cur, q1, q2, q3, q4, q5, q6, q7⟩
          · rw [q1] at b1; cases b1
          have hq : g2 = g ∧ cap2 = r + 1 + 1 := by
            rw [b1] at q1
            simp only [Value.slice.injEq, Option.some.injEq, Addr.mk.injEq] at q1
            exact ⟨q1.1.1.symm, q1.2.2.symm⟩
          obtain ⟨rfl, rfl⟩ := hq
          have hcx : cur.toList = xs := by
            rw [← q7, b4, List.take_of_length_le (by rw [Array.length_toList, q6]; exact Nat.le_refl _)]
          have hcur : cur.size = r + 1 + 1 := by rw [q6]; simp [Ty.n]
          refine ⟨.agg cur, run_rvS_cell t2 q3 hk.1 hk.2 hcur, ?_⟩
          simp only [VRel]
          exact ⟨cur.toList, by simp, by rw [hcx, ints_of b3]; exact rep_sq b4⟩
        · cases hx
      · cases hx
    · cases hx
theorem rks_run {P : Program} {w0 w : World} {B : Nat → Prop} {hd : Nat → Value} {S : AS} {a : Act} {val : Nat → Bd} : ∀ {rs : List RK} {xs : List AV}, Rl w0 B hd S a w val → rs.all (RK.okB P) = true → outsA S rs = some xs → ∃ vs, VRelL (okF S.H val) w S.H.length val xs vs ∧ vs.length = rs.length ∧ ∀ (i : Nat) (r : RK) (v : Value), rs[i]? = some r → vs[i]? = some v → (rvS a.tmps r.var).run P w = .ok v w
  | [], xs, hR, hk, hx => by
    simp only [outsA, Option.some.injEq] at hx
    subst hx
    exact ⟨[], by simp [VRelL], rfl, fun i r v h => by simp at h⟩
  | r :: rs, xs, hR, hk, hx => by
    simp only [List.all_cons, Bool.and_eq_true] at hk
    simp only [outsA] at hx
    split at hx
    · rename_i x h1
      split at hx
      · rename_i ys h2
        cases hx
        obtain ⟨v, k1, k2⟩ := rk_run hR hk.1 h1
        obtain ⟨vs, m1, m2, m3⟩ := rks_run hR hk.2 h2
        refine ⟨v :: vs, by simp only [VRelL]; exact ⟨k2, m1⟩, by simp [m2], fun i q u hq hu => ?_⟩
        cases i with
        | zero => simp at hq hu; subst hq; subst hu; exact k1
        | succ i => exact m3 i q u (by simpa using hq) (by simpa using hu)
      · cases hx
    · cases hx
def endGP (k : Nat) (ρ : List Nat) (rs : List RK) (res : List AV) (post : Hp) (e : AX) (S : AS) : Prop :=
  goodX e ∧ (match outsA S rs with
    | some xs => AVleL S.H.length xs (renL ρ res)
    | none => False) ∧ postP S.H.length ρ S.H ρ post ∧ (if (S.k == k && okB k ρ res post) = true then True else False)
structure EndG (k : Nat) (rs : List RK) (res : List AV) (post : Hp) (e : AX) (S : AS) : Prop where
  out : (∀ x, e = x → goodX x) ∧ ∀ (w0 : World) (B : Nat → Prop) (hd : Nat → Value) (a : Act) (w : World) (val : Nat → Bd), Rl w0 B hd S a w val → ∃ S' val', Rl w0 B hd S' a w val' ∧ ∃ ρ, okB k ρ res post = true ∧ S'.k = k ∧
    (∃ xs, outsA S' rs = some xs ∧ AVleL S'.H.length xs (renL ρ res)) ∧ postP S'.H.length ρ S'.H ρ post
theorem endGP.get {k : Nat} {ρ : List Nat} {rs : List RK} {res : List AV} {post : Hp} {e : AX} {S : AS} (h : endGP k ρ rs res post e S) : goodX e ∧ okB k ρ res post = true ∧ S.k = k ∧ (∃ xs, outsA S rs = some xs ∧ AVleL S.H.length xs (renL ρ res)) ∧ postP S.H.length ρ S.H ρ post := by
  obtain ⟨h0, h1, h2, h3⟩ := h
  have h4 := if_true_iff h3
  simp only [Bool.and_eq_true, beq_iff_eq] at h4
  refine ⟨h0, h4.2, h4.1, ?_, h2⟩
  split at h1
  · rename_i xs hx; exact ⟨xs, hx, h1⟩
  · exact h1.elim
theorem EndG.plain {k : Nat} (ρ : List Nat) {rs : List RK} {res : List AV} {post : Hp} {e : AX} {S : AS} (h : endGP k ρ rs res post e S) : EndG k rs res post e S := by
  obtain ⟨h0, h1, h2, h3, h4⟩ := h.get
  exact ⟨fun x hx => hx ▸ h0, fun w0 B hd a w val hR => ⟨S, val, hR, ρ, h1, h2, h3, h4⟩⟩
theorem EndG.nil {k : Nat} (e0 : TypeId) (t : Ty) (ps : List At) (ρ : List Nat) {rs : List RK} {res : List AV} {post : Hp} {e : AX} {S : AS} (h : endGP k ρ rs res post e (S.nil e0 t ps)) : EndG k rs res post e S := by
  obtain ⟨h0, h1, h2, h3, h4⟩ := h.get
  exact ⟨fun x hx => hx ▸ h0, fun w0 B hd a w val hR => by
    obtain ⟨val', hR'⟩ := hR.nil e0 t ps
    exact ⟨_, val', hR', ρ, h1, h2, h3, h4⟩⟩
theorem Spec2.ofG {P : Unit → Program} {T : Unit → Tab} {f : FuncId} {fn : Func} {c : Code} {args : List AV} {pre : Hp} {res : List AV} {post : Hp} (rs : List RK)
    (hf : (P ()).funcs[f]? = some fn) (hb : fn.body = some c) (hname : (fn.name != "runtime.NumGoroutine") = true) (hres : fn.results = (rs.map RK.var).toArray) (hrk : rs.all (RK.okB (P ())) = true) (hl : rs.length = 1 ∨ rs.length = 2 ∨ rs.length = 3) (hpl : pre.length ≤ post.length) (hnt : args.length ≤ fn.ntmps)
    (h : AWp (P ()) c (EndG pre.length rs res post) ⟨args ++ List.replicate (fn.ntmps - args.length) .undef, pre, pre.length⟩) : Spec2 (P ()) f args pre res post := by
  refine ⟨by simp [enters, hf, hb]; simpa using hname, hpl, fun w val vs hH hv => ?_⟩
  have hvl := hv.len
  have hE : Rl w (pBlk pre val) (fun n => (val n).v) ⟨args ++ List.replicate (fn.ntmps - args.length) .undef, pre, pre.length⟩ { tmps := vs.toArray ++ Array.replicate (fn.ntmps - vs.toArray.size) undef, defers := [] } w val := by
    refine ⟨Frame0.refl _ _, by simp [hvl], rfl, fun t => ?_, hH, fun n b hn g hg => .inr ⟨n, b, hn, hg⟩, fun _ _ => rfl, Nat.le_refl _⟩
    rw [List.getD_eq_getElem?_getD, Array.getD_eq_getD_getElem?]
    by_cases ht : t < args.length
    · obtain ⟨v, hv1, hv2⟩ := hv.get (i := t) (x := args[t]) (by simp [ht])
      rw [List.getElem?_append_left ht, List.getElem?_eq_getElem ht, Array.getElem?_append_left (by simp; omega)]
      simp only [Option.getD_some]
      rw [show vs.toArray[t]? = some v by simpa using hv1]
      exact hv2
    · rw [List.getElem?_append_right (by omega), Array.getElem?_append_right (by simp; omega)]
      by_cases h2 : t - args.length < fn.ntmps - args.length
      · rw [List.getElem?_replicate, if_pos h2, Array.getElem?_replicate, if_pos (by simp; omega)]
        simp only [Option.getD_some, VRel]; rfl
      · rw [List.getElem?_replicate, if_neg h2, Array.getElem?_replicate, if_neg (by simp; omega)]
        simp only [Option.getD_none, VRel]; rfl
  refine calls_of_wp hf hb (wp_mono (h w _ _ _ w _ hE) ?_)
  rintro e a w' ⟨x, S0, val0, rfl, hx, hR0⟩
  obtain ⟨hxe, hx2⟩ := hx.out
  obtain ⟨S, val', hR, ρ, hok, hk, ⟨xs, hxs, h1⟩, h2⟩ := hx2 _ _ _ _ _ _ hR0
  simp only [M.okB, Bool.and_eq_true, beq_iff_eq] at hok
  obtain ⟨⟨⟨⟨⟨⟨o1, o2⟩, o3⟩, o4⟩, o5⟩, o6⟩, o7⟩ := hok
  have hnd := nodupB_spec o2
  have hkp := Nat.le_of_ble_eq_true o4
  have hfirst : ∀ i, i < pre.length → nth ρ i = i := fun i hi => by
    simp only [firstB, List.all_eq_true, beq_iff_eq] at o3
    exact o3 i (List.mem_of_getElem? (i := i) (by rw [upFrom_get, if_pos hi]; simp))
  have hblk : ∀ i b, post[i]? = some (some b) → flatB b = true ∧ ltB post.length b = true := fun i b hb => by
    have := (List.all_eq_true.1 o7) _ (List.mem_of_getElem? hb)
    simpa using this
  have core : a.defers = [] ∧ ∃ v, (results fn a.tmps).run (P ()) w' = .ok v w' ∧ ∃ v2 val2, Ending.returned v = .returned v2 ∧ SPost pre val res post w v2 w' val2 := by
    have get : ∀ {i : Nat} {b : Blk}, post[i]? = some (some b) → ∃ c, S.H[nth ρ i]? = some (some c) ∧ BLe S.H.length c (renB ρ b) := fun {i b} hb => by
      obtain ⟨n, c, k1, k2, k3⟩ := postP_get o1 h2 hb
      exact ⟨c, by rw [nth_of k1]; exact k2, k3⟩
    obtain ⟨us, m1, m0, mr⟩ := rks_run hR hrk hxs
    have m2 : VRelL NoB w' post.length (fun i => val' (nth ρ i)) res us := (VRelL.unren (N := post.length) (val := fun i => val' (nth ρ i)) (fun n _ => ⟨rfl, rfl⟩) o6 (m1.le h1)).flat o5
    have hrun : ∃ v, (results fn a.tmps).run (P ()) w' = .ok v w' ∧ ResV w' post.length (fun i => val' (nth ρ i)) res v := by
      have m3 := m2.len
      match rs, us, hl, m0, hres, mr with
      | [r], [u], _, _, hres, mr =>
        refine ⟨u, results_1 hres (mr 0 r u rfl rfl), ?_⟩
        unfold ResV
        match res, m2, m3 with
        | [q], m2, _ => simp only [VRelL] at m2; exact m2.1
        | [], m2, m3 => simp at m3
        | _ :: _ :: _, m2, m3 => simp at m3
      | [r, r'], [u, u'], _, _, hres, mr =>
        refine ⟨_, results_2 hres (mr 0 r u rfl rfl) (mr 1 r' u' rfl rfl), ?_⟩
        unfold ResV
        match res, m2, m3 with
        | [q], m2, m3 => simp at m3
        | [], m2, m3 => simp at m3
        | _ :: _ :: _, m2, m3 => exact ⟨_, rfl, m2⟩
      | [r, r', r''], [u, u', u''], _, _, hres, mr =>
        refine ⟨_, results_3 hres (mr 0 r u rfl rfl) (mr 1 r' u' rfl rfl) (mr 2 r'' u'' rfl rfl), ?_⟩
        unfold ResV
        match res, m2, m3 with
        | [q], m2, m3 => simp at m3
        | [], m2, m3 => simp at m3
        | _ :: _ :: _, m2, m3 => exact ⟨_, rfl, m2⟩
    obtain ⟨v, hv1, hv2⟩ := hrun
    refine ⟨hR.defers, v, hv1, _, fun i => val' (nth ρ i), rfl, ⟨hR.fr, ⟨fun i b hb => ?_, fun i b hb g hg => ?_, fun i j b c hij hb hc g hg hg' => ?_⟩, fun i b hb g hg => ?_, fun i hi => ?_, hv2⟩⟩
    · obtain ⟨c, k1, k2⟩ := get hb
      have k3 := (hR.heap.blk _ _ k1).le k2
      obtain ⟨f1, f2⟩ := hblk i b hb
      have k4 : BRel (okF S.H val') w' post.length (fun i => val' (nth ρ i)) (val' (nth ρ i)) b := k3.unren (fun _ h => h) (fun n _ => ⟨rfl, rfl⟩) f2
      cases b with
      | row e t l => obtain ⟨xs, m1, m2, m3⟩ := k4; exact ⟨xs, m1, ⟨m2.1, fun i y hy => (m2.2 i y hy).flat f1⟩, m3⟩
      | rows e e2 t l =>
        obtain ⟨m1, m2, m3⟩ := k4
        refine ⟨m1, fun i y hy => ?_, m3⟩
        obtain ⟨h, xs, n1, n2, n3⟩ := m2 i y hy
        exact ⟨h, xs, n1, n2, n3.1, fun i y hy => (n3.2 i y hy).flat f1⟩
      | rowsH e e2 t l k => cases f1
      | arr e k t l => cases f1
      | ext s F => cases f1
      | box e cs => obtain ⟨g, cur, m1, m2, m3, m4⟩ := k4; exact ⟨g, cur, m1, m2, m3.flat f1, m4⟩
    · obtain ⟨c, k1, k2⟩ := get hb
      exact hR.heap.lt _ _ k1 g hg
    · obtain ⟨c1, k1, _⟩ := get hb
      obtain ⟨c2, k2, _⟩ := get hc
      refine hR.heap.apart _ _ _ _ (fun e => hij ?_) k1 k2 g hg hg'
      have hi : i < ρ.length := by rw [o1]; exact (List.getElem?_eq_some_iff.1 hb).1
      have hj : j < ρ.length := by rw [o1]; exact (List.getElem?_eq_some_iff.1 hc).1
      have e1 := nth_get hi
      have e2 := nth_get hj
      rw [e] at e1
      exact (List.getElem_inj (h₀ := hi) (h₁ := hj) hnd).1 (by rw [(List.getElem?_eq_some_iff.1 e1).2, (List.getElem?_eq_some_iff.1 e2).2])
    · obtain ⟨c, k1, _⟩ := get hb
      exact hR.own _ _ k1 g hg
    · have := hR.kept (nth ρ i)
      rw [hfirst i hi] at this
      rw [hfirst i hi]
      exact this (by rw [hk]; exact hi)
  cases x with
  | normal => exact core
  | ret => exact core
  | exit i => exact (hxe (.exit i) rfl).elim
  | goto l => exact (hxe (.goto l) rfl).elim
theorem fnG (rs : List RK) {f : FuncId} {fn : Func} {c : Code} {args : List AV} {pre : Hp} {res : List AV} {post : Hp}
    (hf : Try.prog.funcs[f]? = some fn) (hb : fn.body = some c) (hname : (fn.name != "runtime.NumGoroutine") = true) (hres : fn.results = (rs.map RK.var).toArray) (hrk : rs.all (RK.okB Try.prog) = true) (hl : rs.length = 1 ∨ rs.length = 2 ∨ rs.length = 3) (hdr : drawB c = true) (hpl : pre.length ≤ post.length) (hnt : args.length ≤ fn.ntmps)
    (h : vc (fun _ => Try.prog) (fun _ => tab) c (EndG pre.length rs res post) ⟨args ++ List.replicate (fn.ntmps - args.length) .undef, pre, pre.length⟩) : Spec2 Try.prog f args pre res post :=
  Spec2.ofG (P := fun _ => Try.prog) (T := fun _ => tab) rs hf hb hname hres hrk hl hpl hnt (vc_sound tabOk mixed c _ _ hdr h)
end Go.Proofs.Ythogfineaeklpaa.M
