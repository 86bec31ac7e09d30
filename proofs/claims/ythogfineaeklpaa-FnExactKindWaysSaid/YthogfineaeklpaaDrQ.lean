/- Drawn regions in which several operations make memory: by what is known behind each set of them. -/
import Derived.Test.YthogfineaeklpaaQg
namespace Go.Proofs.Ythogfineaeklpaa.M
open Go.RowKit Abs
set_option linter.unusedSimpArgs false
set_option linter.unusedVariables false
set_option maxRecDepth 100000
set_option maxHeartbeats 4000000
/-- A drawn region. -/
structure DrawL (P : Unit → Program) (T : Unit → Tab) (id : Nat) (ops : Array Oper) (d : Bool) (Q : AX → AS → Prop) (S : AS) : Prop where
  out : AWp (P ()) (.region id ops d) Q S
def vcD (P : Unit → Program) (T : Unit → Tab) (bad : List Nat) : Code → (AX → AS → Prop) → AS → Prop
  | .region id ops d, Q, S => if (bad.contains id) = true then DrawL P T id ops d Q S else vc P T (.region id ops d) Q S
  | .seq a b, Q, S => vcD P T bad a (seqQ (vcD P T bad b Q) Q) S
  | .cond c x y, Q, S => (match S.ev c with
    | .lit true => vcD P T bad x Q S
    | .lit false => vcD P T bad y Q S
    | .bool b => IfP b (vcD P T bad x Q S) (vcD P T bad y Q S)
    | _ => BadC)
  | .block id c, Q, S => vcD P T bad c (blkQ id Q) S
  | .skip, Q, S => vc P T .skip Q S
  | .loop c, Q, S => vc P T (.loop c) Q S
  | .exit id, Q, S => vc P T (.exit id) Q S
  | .ret, Q, S => vc P T .ret Q S
  | _, _, _ => BadC
def drawD (bad : List Nat) : Code → Bool
  | .region id ops d => bad.contains id || drawB (.region id ops d)
  | .seq a b => drawD bad a && drawD bad b
  | .cond _ a b => drawD bad a && drawD bad b
  | .block _ c => drawD bad c
  | .loop c => drawB c
  | _ => true
theorem vcD_sound {P : Unit → Program} {T : Unit → Tab} {bad : List Nat} (hT : TOk (P ()) (T ())) (hm : (P ()).follows .mixedOrders = true) : ∀ (c : Code) (Q : AX → AS → Prop) (S : AS), drawD bad c = true → vcD P T bad c Q S → AWp (P ()) c Q S
  | .region id ops d, Q, S, hb, h => by
    unfold vcD at h
    unfold drawD at hb
    cases hc : bad.contains id with
    | true => rw [hc] at h; exact h.out
    | false => rw [hc] at h hb; exact vc_sound hT hm _ Q S (by simpa using hb) h
  | .seq x y, Q, S, hb, h => fun w0 B hd a w val hR => by
    simp only [drawD, Bool.and_eq_true] at hb
    refine wp_seq (wp_mono (vcD_sound hT hm x _ S hb.1 h w0 B hd a w val hR) fun e a' w' ⟨k, S', val', h1, h2, h3⟩ => ?_)
    subst h1
    cases k with
    | normal => exact vcD_sound hT hm y Q S' hb.2 h2 w0 B hd a' w' val' h3
    | exit i => exact ⟨.exit i, S', val', rfl, h2, h3⟩
    | ret => exact ⟨.ret, S', val', rfl, h2, h3⟩
    | goto l => exact ⟨.goto l, S', val', rfl, h2, h3⟩
  | .cond c x y, Q, S, hb, h => fun w0 B hd a w val hR => by
    simp only [drawD, Bool.and_eq_true] at hb
    unfold vcD at h
    have hc := hR.ev c
    split at h
    · rename_i e
      rw [e] at hc
      simp only [VRel] at hc
      exact wp_cond (t := true) hc (vcD_sound hT hm x Q S hb.1 h w0 B hd a w val hR)
    · rename_i e
      rw [e] at hc
      simp only [VRel] at hc
      exact wp_cond (t := false) hc (vcD_sound hT hm y Q S hb.2 h w0 B hd a w val hR)
    · rename_i b e
      rw [e] at hc
      simp only [VRel] at hc
      cases hbv : b () with
      | true => rw [hbv] at hc; exact wp_cond (t := true) hc (vcD_sound hT hm x Q S hb.1 (h.t hbv) w0 B hd a w val hR)
      | false => rw [hbv] at hc; exact wp_cond (t := false) hc (vcD_sound hT hm y Q S hb.2 (h.f hbv) w0 B hd a w val hR)
    · cases h
  | .block id c, Q, S, hb, h => fun w0 B hd a w val hR => by
    refine wp_block (wp_mono (vcD_sound hT hm c _ S hb h w0 B hd a w val hR) fun e a' w' ⟨x, S', val', h1, h2, h3⟩ => ?_)
    subst h1
    cases x with
    | normal => exact ⟨.normal, S', val', rfl, h2, h3⟩
    | exit i =>
      show (if i = id then CQ w0 B hd Q .normal a' w' else CQ w0 B hd Q (.exit i) a' w')
      simp only [blkQ] at h2
      by_cases hi : i = id
      · rw [if_pos hi]
        rw [show (i == id) = true by simpa using hi] at h2
        exact ⟨.normal, S', val', rfl, h2, h3⟩
      · rw [if_neg hi]
        rw [show (i == id) = false by simpa using hi] at h2
        exact ⟨.exit i, S', val', rfl, h2, h3⟩
    | ret => exact ⟨.ret, S', val', rfl, h2, h3⟩
    | goto l => exact ⟨.goto l, S', val', rfl, h2, h3⟩
  | .skip, Q, S, _, h => vc_sound hT hm _ Q S rfl h
  | .loop c, Q, S, hb, h => vc_sound hT hm _ Q S hb h
  | .exit id, Q, S, _, h => vc_sound hT hm _ Q S rfl h
  | .ret, Q, S, _, h => vc_sound hT hm _ Q S rfl h
  | .label _, Q, S, _, h => by cases h
  | .rangeFunc _ _ _ _, Q, S, _, h => by cases h
  | .scope _, Q, S, _, h => by cases h
  | .goto _, Q, S, _, h => by cases h
  | .refuse _, Q, S, _, h => by cases h
theorem Spec2.ofA {P : Unit → Program} {T : Unit → Tab} (hT : TOk (P ()) (T ())) (hm : (P ()).follows .mixedOrders = true) {f : FuncId} {fn : Func} {c : Code} {args : List AV} {pre : Hp} {res : List AV} {post : Hp} (ρ : List Nat) (ts : List Tmp)
    (hf : (P ()).funcs[f]? = some fn) (hb : fn.body = some c) (hname : (fn.name != "runtime.NumGoroutine") = true) (hres : fn.results = (ts.map .tmp).toArray) (hl3 : ts.length ≤ 3) (hok : okB pre.length ρ res post = true) (hnt : args.length ≤ fn.ntmps)
    (h : AWp (P ()) c (endP pre.length ρ ts res post) ⟨args ++ List.replicate (fn.ntmps - args.length) .undef, pre, pre.length⟩) : Spec2 (P ()) f args pre res post := by
  simp only [okB, Bool.and_eq_true, beq_iff_eq] at hok
  obtain ⟨⟨⟨⟨⟨⟨o1, o2⟩, o3⟩, o4⟩, o5⟩, o6⟩, o7⟩ := hok
  have hnd := nodupB_spec o2
  have hkp := Nat.le_of_ble_eq_true o4
  have hfirst : ∀ i, i < pre.length → nth ρ i = i := fun i hi => by
    simp only [firstB, List.all_eq_true, beq_iff_eq] at o3
    exact o3 i (List.mem_of_getElem? (i := i) (by rw [upFrom_get, if_pos hi]; simp))
  have hblk : ∀ i b, post[i]? = some (some b) → flatB b = true ∧ ltB post.length b = true := fun i b hb => by
    have := (List.all_eq_true.1 o7) _ (List.mem_of_getElem? hb)
    simpa using this
  refine ⟨by simp [enters, hf, hb]; simpa using hname, hkp, fun w val vs hH hv => ?_⟩
  have hvl := hv.len
  have hE : Rl w (pBlk pre val) (fun n => (val n).v) ⟨args ++ List.replicate (fn.ntmps - args.length) .undef, pre, pre.length⟩ { tmps := vs.toArray ++ Array.replicate (fn.ntmps - vs.toArray.size) undef, defers := [] } w val := by
    refine ⟨Frame0.refl _ _, by simp [hvl], rfl, fun t => ?_, hH, fun n b hn g hg => .inr ⟨n, b, hn, hg⟩, fun _ _ => rfl, Nat.le_refl _⟩
    rw [List.getD_eq_getElem?_getD, Array.getD_eq_getD_getElem?]
    by_cases ht : t < args.length
    · obtain ⟨v, hv1, hv2⟩ := hv.get (i := t) (x := args[t]) (by simp [ht])
      rw [List.getElem?_append_left ht, List.getElem?_eq_getElem ht, Array.getElem?_append_left (by simp; omega)]
      simp only [Option.getD_some]
      rw [show vs.toArray[t]? = some v by simpa using hv1]
      exact hv2
    · rw [List.getElem?_append_right (by omega), Array.getElem?_append_right (by simp; omega)]
      by_cases h2 : t - args.length < fn.ntmps - args.length
      · rw [List.getElem?_replicate, if_pos h2, Array.getElem?_replicate, if_pos (by simp; omega)]
        simp only [Option.getD_some, VRel]; rfl
      · rw [List.getElem?_replicate, if_neg h2, Array.getElem?_replicate, if_neg (by simp; omega)]
        simp only [Option.getD_none, VRel]; rfl
  refine calls_of_wp hf hb (wp_mono (h w _ _ _ w _ hE) ?_)
  rintro e a w' ⟨x, S, val', rfl, hx, hR⟩
  have core : (AVleL S.H.length (ts.map fun t => S.tm.getD t .undef) (renL ρ res) ∧ postP S.H.length ρ S.H ρ post ∧ (if (S.k == pre.length) = true then True else False)) → a.defers = [] ∧ ∃ v, (results fn a.tmps).run (P ()) w' = .ok v w' ∧ ∃ v2 val2, Ending.returned v = .returned v2 ∧ SPost pre val res post w v2 w' val2 := by
    rintro ⟨h1, h2, h3⟩
    have hk : S.k = pre.length := by
      cases hb : (S.k == pre.length) with
      | true => simpa using hb
      | false => rw [hb] at h3; exact h3.elim
    have get : ∀ {i : Nat} {b : Blk}, post[i]? = some (some b) → ∃ c, S.H[nth ρ i]? = some (some c) ∧ BLe S.H.length c (renB ρ b) := fun {i b} hb => by
      obtain ⟨n, c, k1, k2, k3⟩ := postP_get o1 h2 hb
      exact ⟨c, by rw [nth_of k1]; exact k2, k3⟩
    have noOk : ∀ b, NoB b → okF S.H val' b := fun b h => h.elim
    refine ⟨hR.defers, _, results_run hres hl3 _ _ _, _, fun i => val' (nth ρ i), rfl, ⟨hR.fr, ⟨fun i b hb => ?_, fun i b hb g hg => ?_, fun i j b c hij hb hc g hg hg' => ?_⟩, fun i b hb g hg => ?_, fun i hi => ?_, ?_⟩⟩
    · obtain ⟨c, k1, k2⟩ := get hb
      have k3 := (hR.heap.blk _ _ k1).le k2
      obtain ⟨f1, f2⟩ := hblk i b hb
      have k4 : BRel (okF S.H val') w' post.length (fun i => val' (nth ρ i)) (val' (nth ρ i)) b := k3.unren (fun _ h => h) (fun n _ => ⟨rfl, rfl⟩) f2
      cases b with
      | row e t l => obtain ⟨xs, m1, m2, m3⟩ := k4; exact ⟨xs, m1, ⟨m2.1, fun i y hy => (m2.2 i y hy).flat f1⟩, m3⟩
      | rows e e2 t l =>
        obtain ⟨m1, m2, m3⟩ := k4
        refine ⟨m1, fun i y hy => ?_, m3⟩
        obtain ⟨h, xs, n1, n2, n3⟩ := m2 i y hy
        exact ⟨h, xs, n1, n2, n3.1, fun i y hy => (n3.2 i y hy).flat f1⟩
      | rowsH e e2 t l k => cases f1
      | arr e k t l => cases f1
      | ext s F => cases f1
      | box e cs => obtain ⟨g, cur, m1, m2, m3, m4⟩ := k4; exact ⟨g, cur, m1, m2, m3.flat f1, m4⟩
    · obtain ⟨c, k1, k2⟩ := get hb
      exact hR.heap.lt _ _ k1 g hg
    · obtain ⟨c1, k1, _⟩ := get hb
      obtain ⟨c2, k2, _⟩ := get hc
      refine hR.heap.apart _ _ _ _ (fun e => hij ?_) k1 k2 g hg hg'
      have hi : i < ρ.length := by rw [o1]; exact (List.getElem?_eq_some_iff.1 hb).1
      have hj : j < ρ.length := by rw [o1]; exact (List.getElem?_eq_some_iff.1 hc).1
      have e1 := nth_get hi
      have e2 := nth_get hj
      rw [e] at e1
      exact (List.getElem_inj (h₀ := hi) (h₁ := hj) hnd).1 (by rw [(List.getElem?_eq_some_iff.1 e1).2, (List.getElem?_eq_some_iff.1 e2).2])
    · obtain ⟨c, k1, _⟩ := get hb
      exact hR.own _ _ k1 g hg
    · have := hR.kept (nth ρ i)
      rw [hfirst i hi] at this
      rw [hfirst i hi]
      exact this (by rw [hk]; exact hi)
    · have m1 : VRelL (okF S.H val') w' S.H.length val' (ts.map fun t => S.tm.getD t .undef) (ts.map fun t => a.tmps.getD t undef) :=
        VRelL.of (by simp) fun i x hi => by
          rw [List.getElem?_map] at hi ⊢
          cases ht : ts[i]? with
          | none => rw [ht] at hi; cases hi
          | some t => rw [ht] at hi; cases hi; exact ⟨_, rfl, hR.tmps t⟩
      have m2 : VRelL NoB w' post.length (fun i => val' (nth ρ i)) res (ts.map fun t => a.tmps.getD t undef) := (VRelL.unren (N := post.length) (val := fun i => val' (nth ρ i)) (fun n _ => ⟨rfl, rfl⟩) o6 (m1.le h1)).flat o5
      have m3 := m2.len
      unfold ResV resultsV
      match res, ts, m2, m3 with
      | [r], [t], m2, _ => simp only [List.map_cons, List.map_nil, VRelL] at m2; exact m2.1
      | [], [], m2, _ => exact ⟨_, rfl, m2⟩
      | r :: r' :: rs, t :: t' :: ts, m2, _ => exact ⟨_, rfl, m2⟩
      | [], _ :: _, m2, m3 => simp at m3
      | [_], [], m2, m3 => simp at m3
      | [_], _ :: _ :: _, m2, m3 => simp at m3
      | _ :: _ :: _, [], m2, m3 => simp at m3
      | _ :: _ :: _, [_], m2, m3 => simp at m3
  cases x with
  | normal => exact core hx
  | ret => exact core hx
  | exit i => exact hx.elim
  | goto l => exact hx.elim
theorem fnD (bad : List Nat) {f : FuncId} {fn : Func} {c : Code} {args : List AV} {pre : Hp} {res : List AV} {post : Hp} (ρ : List Nat) (ts : List Tmp)
    (hf : Try.prog.funcs[f]? = some fn) (hb : fn.body = some c) (hname : (fn.name != "runtime.NumGoroutine") = true) (hres : fn.results = (ts.map .tmp).toArray) (hl3 : ts.length ≤ 3) (hdr : drawD bad c = true) (hok : okB pre.length ρ res post = true) (hnt : args.length ≤ fn.ntmps)
    (h : vcD (fun _ => Try.prog) (fun _ => tab) bad c (endP pre.length ρ ts res post) ⟨args ++ List.replicate (fn.ntmps - args.length) .undef, pre, pre.length⟩) : Spec2 Try.prog f args pre res post :=
  Spec2.ofA (P := fun _ => Try.prog) (T := fun _ => tab) tabOk mixed ρ ts hf hb hname hres hl3 hok hnt (vcD_sound tabOk mixed c _ _ hdr h)
def setD : List (Nat × AV) → List Bool → List AV → List AV
  | (t, v) :: vs, b :: l, tm => setD vs l (if (b) = true then tm.set t v else tm)
  | _, _, tm => tm
/-- What is known when some operations (l) have come up: their values vs; blocks bs, each made by an operation. -/
def stD (S : AS) (vs : List (Nat × AV)) (bs : List (Nat × Blk)) (l : List Bool) : AS := ⟨setD vs l S.tm, S.H ++ bs.map (fun p => if (l.getD p.1 false) = true then some p.2 else none), S.k⟩
def stepsD (P : Unit → Program) (T : Unit → Tab) (ops : Array Oper) (st : List Bool → AS) (ρ : Nat → List Nat) (l : List Bool) : List Nat → Prop
  | [] => True
  | i :: r => (match ops[i]? with | some o => stepP P T o (st l) (fun S' => M.renD (ρ i) S' (st (l.set i true))) | none => False) ∧ stepsD P T ops st ρ l r
def layP (P : Unit → Program) (T : Unit → Tab) (ops : Array Oper) (K : AS → Prop) (st : List Bool → AS) (ρ : Nat → List Nat) : List (List Bool × List Nat) → Prop
  | [] => True
  | (l, is) :: r => (match is with | [] => K (st l) | i :: is => stepsD P T ops st ρ l (i :: is)) ∧ layP P T ops K st ρ r
def layOk (ops : Array Oper) (Ls : List (List Bool × List Nat)) : Bool :=
  Ls.all (fun p => p.1.length == ops.size && Region.ready .any ops p.1.toArray == p.2 && p.2.all (fun i => Ls.any fun q => q.1 == p.1.set i true)) && Ls.any (fun q => q.1 == List.replicate ops.size false) && ops.toList.all (fun o => o.guard.isNone)
theorem cnt_set : ∀ {l : List Bool} {i : Nat}, l[i]? = some false → (l.set i true).count false + 1 = l.count false
  | [], i, h => by simp at h
  | b :: l, 0, h => by simp at h; subst h; simp
  | b :: l, i + 1, h => by
    have := cnt_set (l := l) (i := i) (by simpa using h)
    cases b <;> simp [List.count_cons] <;> omega
theorem stepsD_get {P : Unit → Program} {T : Unit → Tab} {ops : Array Oper} {st : List Bool → AS} {ρ : Nat → List Nat} {l : List Bool} : ∀ {is : List Nat} {i : Nat}, stepsD P T ops st ρ l is → i ∈ is → ∃ o, ops[i]? = some o ∧ stepP P T o (st l) (fun S' => M.renD (ρ i) S' (st (l.set i true)))
  | [], i, _, h => by simp at h
  | j :: is, i, h, hi => by
    simp only [stepsD] at h
    rcases List.mem_cons.1 hi with rfl | hi
    · have h1 := h.1
      split at h1
      · rename_i o ho; exact ⟨o, ho, h1⟩
      · exact h1.elim
    · exact stepsD_get h.2 hi
theorem layP_get {P : Unit → Program} {T : Unit → Tab} {ops : Array Oper} {K : AS → Prop} {st : List Bool → AS} {ρ : Nat → List Nat} : ∀ {Ls : List (List Bool × List Nat)} {l : List Bool} {is : List Nat}, layP P T ops K st ρ Ls → (l, is) ∈ Ls → (is = [] → K (st l)) ∧ stepsD P T ops st ρ l is
  | [], _, _, _, h => by simp at h
  | (l', is') :: r, l, is, h, hm => by
    simp only [layP] at h
    rcases List.mem_cons.1 hm with e | hm
    · cases e
      cases is' with
      | nil => exact ⟨fun _ => h.1, trivial⟩
      | cons i is => exact ⟨fun e => (by cases e), h.1⟩
    · exact layP_get h.2 hm
theorem DrawL.layers {id : Nat} {ops : Array Oper} {Q : AX → AS → Prop} {S : AS} (vs : List (Nat × AV)) (bs : List (Nat × Blk)) (ρ0 : List Nat) (ρ : Nat → List Nat) (Ls : List (List Bool × List Nat)) (hok : layOk ops Ls = true)
    (h0 : M.renD ρ0 S (stD S vs bs (List.replicate ops.size false))) (h : layP (fun _ => Try.prog) (fun _ => tab) ops (Q .normal) (stD S vs bs) ρ Ls) : DrawL (fun _ => Try.prog) (fun _ => tab) id ops true Q S := by
  simp only [layOk, Bool.and_eq_true, List.all_eq_true, List.any_eq_true, beq_iff_eq] at hok
  obtain ⟨⟨k1, k2⟩, k3⟩ := hok
  refine ⟨fun w0 B hd a w val hR => wp_region_any mixed ?_⟩
  have key : ∀ (fuel : Nat) (l : List Bool) (is : List Nat) (a : Act) (w : World) (val : Nat → Bd), (l, is) ∈ Ls → l.count false ≤ fuel → Rl w0 B hd (stD S vs bs l) a w val → wpAny Try.prog .any ops (CQ w0 B hd Q) fuel l.toArray a w := fun fuel => by
    induction fuel with
    | zero =>
      intro l is a w val hm hc hR
      obtain ⟨⟨e1, e2⟩, e3⟩ := k1 _ hm
      simp only at e1 e2 e3
      have hz : is = [] := by
        cases is with
        | nil => rfl
        | cons i is =>
          exfalso
          have hi : i ∈ Region.ready .any ops l.toArray := by rw [e2]; simp
          obtain ⟨hu, o, ho, _⟩ := mem_ready.1 hi
          have hlt : i < l.length := by rw [e1]; exact (Array.getElem?_eq_some_iff.1 ho).1
          have : l[i]? = some false := by
            rw [List.getElem?_eq_getElem hlt]
            simpa [hlt] using hu
          have := cnt_set this
          omega
      subst hz
      exact ⟨e2, .normal, _, val, rfl, (layP_get h hm).1 rfl, hR⟩
    | succ fuel ih =>
      intro l is a w val hm hc hR
      obtain ⟨⟨e1, e2⟩, e3⟩ := k1 _ hm
      simp only at e1 e2 e3
      obtain ⟨g1, g2⟩ := layP_get h hm
      refine ⟨fun hr => ⟨.normal, _, val, rfl, g1 (by rw [← e2]; exact hr), hR⟩, fun i hi => ?_⟩
      obtain ⟨hu, _⟩ := mem_ready.1 hi
      rw [e2] at hi
      obtain ⟨o, ho, hs⟩ := stepsD_get g2 hi
      have hlt : i < l.length := by rw [e1]; exact (Array.getElem?_eq_some_iff.1 ho).1
      have hl : l[i]? = some false := by
        rw [List.getElem?_eq_getElem hlt]
        simpa [hlt] using hu
      obtain ⟨⟨l', is'⟩, hm', hl'⟩ := e3 i hi
      simp only at hl'
      have hg : o.guard = none := by
        have := k3 o (by simpa using Array.mem_of_getElem? ho)
        simpa using this
      unfold wpOp
      rw [ho]
      simp only
      rw [wanted_none hg, if_pos rfl]
      refine .inl (stepP_sound tabOk hR hs fun S' a' w' val' h1 h2 => ?_)
      have := ih l' is' a' w' _ hm' (by have := cnt_set hl; rw [hl']; omega) (by rw [hl']; exact h2.renD h1)
      rw [hl'] at this
      simpa using this
  obtain ⟨⟨l, is⟩, hm, hl⟩ := k2
  simp only at hl
  have := key ops.size l is a _ _ hm (by rw [hl]; simp) (by rw [hl]; exact keep_draw (hR.renD h0))
  rw [hl] at this
  simpa using this
end Go.Proofs.Ythogfineaeklpaa.M
