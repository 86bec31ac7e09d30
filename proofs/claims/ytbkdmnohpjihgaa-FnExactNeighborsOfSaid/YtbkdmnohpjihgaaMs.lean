/- Code, loops, functions: what is to be shown, by reckoning. -/
import Derived.Test.YtbkdmnohpjihgaaMr
namespace Go.Proofs.Ytbkdmnohpjihgaa.M
open Go.RowKit Abs
set_option linter.unusedVariables false
set_option linter.unusedSimpArgs false

def quietO (o : Oper) : Bool :=
  match o.op with
  | .box _ _ => false
  | .alloc _ => false
  | .store _ _ _ => false
  | .buildSlice _ _ _ => false
  | .makeSlice _ _ _ => false
  | .call c => (match c.callee with | .builtin .append => false | _ => true)
  | _ => true
def quietN : List Oper → Nat
  | [] => 0
  | o :: r => if (quietO o) = true then quietN r + 1 else 0
def drawB : Code → Bool
  | .region _ ops true => if (quietN ops.toList == ops.toList.length) = true then anyB ops.toList.toArray else tailB ops.toList.toArray (quietN ops.toList)
  | .seq a b => drawB a && drawB b
  | .cond _ a b => drawB a && drawB b
  | .block _ c => drawB c
  | .loop c => drawB c
  | _ => true
inductive BadC : Prop
/-- A loop. -/
structure LoopL (P : Unit → Program) (T : Unit → Tab) (c : Code) (Q : AX → AS → Prop) (S : AS) : Prop where
  out : AWp (P ()) (.loop c) Q S
def seqQ (K : AS → Prop) (Q : AX → AS → Prop) : AX → AS → Prop
  | .normal, S => K S
  | .exit i, S => Q (.exit i) S
  | .ret, S => Q .ret S
  | .goto l, S => Q (.goto l) S
def blkQ (id : Nat) (Q : AX → AS → Prop) : AX → AS → Prop
  | .exit i, S => if (i == id) = true then Q .normal S else Q (.exit i) S
  | .normal, S => Q .normal S
  | .ret, S => Q .ret S
  | .goto l, S => Q (.goto l) S
def vc (P : Unit → Program) (T : Unit → Tab) : Code → (AX → AS → Prop) → AS → Prop
  | .skip, Q, S => Q .normal S
  | .region _ ops d, Q, S => if (d) = true then aqui P T ops.toList (aseq P T ops.toList (Q .normal) (ops.toList.drop (quietN ops.toList))) (ops.toList.take (quietN ops.toList)) S
      else aseq P T ops.toList (Q .normal) ops.toList S
  | .seq a b, Q, S => vc P T a (seqQ (vc P T b Q) Q) S
  | .cond c x y, Q, S => (match S.ev c with
    | .lit true => vc P T x Q S
    | .lit false => vc P T y Q S
    | .bool b => IfP b (vc P T x Q S) (vc P T y Q S)
    | _ => BadC)
  | .block id c, Q, S => vc P T c (blkQ id Q) S
  | .loop c, Q, S => LoopL P T c Q S
  | .exit id, Q, S => Q (.exit id) S
  | .ret, Q, S => Q .ret S
  | .label _, Q, S => Q .normal S
  | _, _, _ => BadC
section
variable {P : Unit → Program} {T : Unit → Tab} {S : AS} {Q : AX → AS → Prop}
theorem AWp.mono {P : Program} {c : Code} {Q' : AX → AS → Prop} (h : AWp P c Q S) (hq : ∀ e S, Q e S → Q' e S) : AWp P c Q' S :=
  fun w0 B hd a w val hR => wp_mono (h w0 B hd a w val hR) fun e a' w' ⟨x, S', val', h1, h2, h3⟩ => ⟨x, S', val', h1, hq _ _ h2, h3⟩
theorem vc_sound (hT : TOk (P ()) (T ())) (hm : (P ()).follows .mixedOrders = true) : ∀ (c : Code) (Q : AX → AS → Prop) (S : AS), drawB c = true → vc P T c Q S → AWp (P ()) c Q S
  | .skip, Q, S, _, h => fun w0 B hd a w val hR => wp_skip ⟨.normal, S, val, rfl, h, hR⟩
  | .region id ops d, Q, S, hb, h => by
    cases d with
    | false => exact AWp.region hT h
    | true =>
      unfold vc at h
      simp only [↓reduceIte] at h
      unfold drawB at hb
      have e : ops = ops.toList.toArray := by simp
      cases hq : (quietN ops.toList == ops.toList.length) with
      | true =>
        rw [hq] at hb
        simp only [↓reduceIte] at hb
        simp only [beq_iff_eq] at hq
        rw [hq, List.drop_length, List.take_length] at h
        rw [e]
        refine AWp.any hT hm hb ?_
        have e2 : aseq P T ops.toList (Q .normal) [] = Q .normal := by funext S; simp [aseq]
        rw [e2] at h
        exact h
      | false =>
        rw [hq] at hb
        rw [e]
        exact AWp.tail hT _ hm hb h
  | .seq x y, Q, S, hb, h => fun w0 B hd a w val hR => by
    simp only [drawB, Bool.and_eq_true] at hb
    refine wp_seq (wp_mono (vc_sound hT hm x _ S hb.1 h w0 B hd a w val hR) fun e a' w' ⟨k, S', val', h1, h2, h3⟩ => ?_)
    subst h1
    cases k with
    | normal => exact vc_sound hT hm y Q S' hb.2 h2 w0 B hd a' w' val' h3
    | exit i => exact ⟨.exit i, S', val', rfl, h2, h3⟩
    | ret => exact ⟨.ret, S', val', rfl, h2, h3⟩
    | goto l => exact ⟨.goto l, S', val', rfl, h2, h3⟩
  | .cond c x y, Q, S, hb, h => fun w0 B hd a w val hR => by
    simp only [drawB, Bool.and_eq_true] at hb
    unfold vc at h
    have hc := hR.ev c
    split at h
    · rename_i e
      rw [e] at hc
      simp only [VRel] at hc
      exact wp_cond (t := true) hc (vc_sound hT hm x Q S hb.1 h w0 B hd a w val hR)
    · rename_i e
      rw [e] at hc
      simp only [VRel] at hc
      exact wp_cond (t := false) hc (vc_sound hT hm y Q S hb.2 h w0 B hd a w val hR)
    · rename_i b e
      rw [e] at hc
      simp only [VRel] at hc
      cases hbv : b () with
      | true => rw [hbv] at hc; exact wp_cond (t := true) hc (vc_sound hT hm x Q S hb.1 (h.t hbv) w0 B hd a w val hR)
      | false => rw [hbv] at hc; exact wp_cond (t := false) hc (vc_sound hT hm y Q S hb.2 (h.f hbv) w0 B hd a w val hR)
    · cases h
  | .block id c, Q, S, hb, h => fun w0 B hd a w val hR => by
    refine wp_block (wp_mono (vc_sound hT hm c _ S hb h w0 B hd a w val hR) fun e a' w' ⟨x, S', val', h1, h2, h3⟩ => ?_)
    subst h1
    cases x with
    | normal => exact ⟨.normal, S', val', rfl, h2, h3⟩
    | exit i =>
      show (if i = id then CQ w0 B hd Q .normal a' w' else CQ w0 B hd Q (.exit i) a' w')
      simp only [blkQ] at h2
      by_cases hi : i = id
      · rw [if_pos hi]
        rw [show (i == id) = true by simpa using hi] at h2
        exact ⟨.normal, S', val', rfl, h2, h3⟩
      · rw [if_neg hi]
        rw [show (i == id) = false by simpa using hi] at h2
        exact ⟨.exit i, S', val', rfl, h2, h3⟩
    | ret => exact ⟨.ret, S', val', rfl, h2, h3⟩
    | goto l => exact ⟨.goto l, S', val', rfl, h2, h3⟩
  | .loop c, Q, S, hb, h => h.out
  | .exit id, Q, S, _, h => fun w0 B hd a w val hR => wp_exit ⟨.exit id, S, val, rfl, h, hR⟩
  | .ret, Q, S, _, h => fun w0 B hd a w val hR => wp_ret ⟨.ret, S, val, rfl, h, hR⟩
  | .label l, Q, S, _, h => fun w0 B hd a w val hR => wp_label ⟨.normal, S, val, rfl, h, hR⟩
  | .rangeFunc _ _ _ _, Q, S, _, h => by cases h
  | .scope _, Q, S, _, h => by cases h
  | .goto _, Q, S, _, h => by cases h
  | .refuse _, Q, S, _, h => by cases h
end
/-- The second state says no more than the first: by reckoning. -/
def weakD (S S' : AS) : Prop := AVleL S'.H.length S.tm S'.tm ∧ HLe S'.H.length S.H S'.H ∧ (if (S.k == S'.k && S'.k.ble S'.H.length) = true then True else False)
theorem weakD.weak {S S' : AS} (h : weakD S S') : Weak S S' := by
  obtain ⟨h1, h2, h3⟩ := h
  refine ⟨h1, h2, ?_⟩
  cases hb : (S.k == S'.k && S'.k.ble S'.H.length) with
  | true => rfl
  | false => rw [hb] at h3; exact h3.elim
theorem LoopL.intro {P : Unit → Program} {T : Unit → Tab} {S : AS} {Q : AX → AS → Prop} {c : Code} (hT : TOk (P ()) (T ())) (hm : (P ()).follows .mixedOrders = true) (hb : drawB c = true) {X : Type} (st : X → AS) (m : X → Nat) (x0 : X) (hw : weakD S (st x0))
    (round : ∀ x, vc P T c (seqQ (fun S' => ∃ y, m y < m x ∧ weakD S' (st y)) Q) (st x)) : LoopL P T c Q S := by
  refine ⟨fun w0 B hd a w val hR => ?_⟩
  refine wp_loop_ghost (fun x a w => ∃ val, Rl w0 B hd (st x) a w val) m x0 ⟨_, hR.weak hw.weak⟩ fun x a w ⟨val, hR⟩ => ?_
  refine wp_mono (vc_sound hT hm c _ _ hb (round x) w0 B hd a w val hR) fun e a' w' ⟨y, S', val', h1, h2, h3⟩ => ?_
  subst h1
  cases y with
  | normal => obtain ⟨y, h4, h5⟩ := h2; exact ⟨y, ⟨_, h3.weak h5.weak⟩, h4⟩
  | exit i => exact ⟨.exit i, S', val', rfl, h2, h3⟩
  | ret => exact ⟨.ret, S', val', rfl, h2, h3⟩
  | goto l => exact ⟨.goto l, S', val', rfl, h2, h3⟩
def nodupB : List Nat → Bool
  | [] => true
  | x :: r => !(r.contains x) && nodupB r
theorem nodupB_spec : ∀ {l : List Nat}, nodupB l = true → l.Nodup
  | [], _ => List.nodup_nil
  | x :: r, h => by
    simp only [nodupB, Bool.and_eq_true, Bool.not_eq_true'] at h
    exact List.nodup_cons.2 ⟨by simpa using h.1, nodupB_spec h.2⟩
def firstB (k : Nat) (ρ : List Nat) : Bool := (upFrom 0 k).all fun i => nth ρ i == i
def okB (k : Nat) (ρ : List Nat) (res : List AV) (post : Hp) : Bool :=
  ρ.length == post.length && nodupB ρ && firstB k ρ && k.ble post.length && flatL res && ltL post.length res && post.all fun x => match x with | some b => flatB b && ltB post.length b | none => true
def postP (N : Nat) (ρ : List Nat) (H : Hp) : List Nat → Hp → Prop
  | n :: r, x :: post => (match x with
    | some b => (match H[n]? with | some (some c) => BLe N c (renB ρ b) | _ => False)
    | none => True) ∧ postP N ρ H r post
  | _, _ => True
/-- The function's end. -/
def endP (k : Nat) (ρ : List Nat) (ts : List Tmp) (res : List AV) (post : Hp) (e : AX) (S : AS) : Prop :=
  match e with
  | .normal => AVleL S.H.length (ts.map fun t => S.tm.getD t .undef) (renL ρ res) ∧ postP S.H.length ρ S.H ρ post ∧ (if (S.k == k) = true then True else False)
  | .ret => AVleL S.H.length (ts.map fun t => S.tm.getD t .undef) (renL ρ res) ∧ postP S.H.length ρ S.H ρ post ∧ (if (S.k == k) = true then True else False)
  | _ => False
theorem postP_get {N : Nat} {ρ : List Nat} {H : Hp} : ∀ {σ : List Nat} {post : Hp} {i : Nat} {b : Blk}, σ.length = post.length → postP N ρ H σ post → post[i]? = some (some b) → ∃ n c, σ[i]? = some n ∧ H[n]? = some (some c) ∧ BLe N c (renB ρ b)
  | [], [], i, b, _, _, h => by simp at h
  | [], _ :: _, _, _, hl, _, _ => by simp at hl
  | _ :: _, [], _, _, hl, _, _ => by simp at hl
  | n :: σ, x :: post, 0, b, _, h, hx => by
    simp at hx
    subst hx
    simp only [postP] at h
    obtain ⟨h1, _⟩ := h
    split at h1
    · rename_i c hc
      exact ⟨n, c, rfl, hc, h1⟩
    · exact h1.elim
  | n :: σ, x :: post, i + 1, b, hl, h, hx => by simp only [postP] at h; simpa using postP_get (by simpa using hl) h.2 (by simpa using hx)
def resultsV (ts : List Tmp) (tmps : Array Value) : Value :=
  match ts with
  | [t] => tmps.getD t undef
  | ts => .tuple (ts.map fun t => tmps.getD t undef).toArray
theorem results_run {fn : Func} {ts : List Tmp} (h : fn.results = (ts.map .tmp).toArray) (hl : ts.length ≤ 3) (tmps : Array Value) (P : Program) (w : World) : (results fn tmps).run P w = .ok (resultsV ts tmps) w := by
  match ts, hl with
  | [], _ => exact results_none h tmps P w
  | [t], _ => exact results_tmp h tmps P w
  | [t, u], _ => exact results_tmp2 h tmps P w
  | [t, u, v], _ => exact results_tmp3 h tmps P w
  | _ :: _ :: _ :: _ :: _, hl => simp at hl
/-- **What a function is known to answer: shown by what is reckoned of its code.** -/
theorem Spec2.of {P : Unit → Program} {T : Unit → Tab} (hT : TOk (P ()) (T ())) (hm : (P ()).follows .mixedOrders = true) {f : FuncId} {fn : Func} {c : Code} {args : List AV} {pre : Hp} {res : List AV} {post : Hp} (ρ : List Nat) (ts : List Tmp)
    (hf : (P ()).funcs[f]? = some fn) (hb : fn.body = some c) (hname : (fn.name != "runtime.NumGoroutine") = true) (hres : fn.results = (ts.map .tmp).toArray) (hl3 : ts.length ≤ 3) (hdr : drawB c = true) (hok : okB pre.length ρ res post = true) (hnt : args.length ≤ fn.ntmps)
    (h : vc P T c (endP pre.length ρ ts res post) ⟨args ++ List.replicate (fn.ntmps - args.length) .undef, pre, pre.length⟩) : Spec2 (P ()) f args pre res post := by
  simp only [okB, Bool.and_eq_true, beq_iff_eq] at hok
  obtain ⟨⟨⟨⟨⟨⟨o1, o2⟩, o3⟩, o4⟩, o5⟩, o6⟩, o7⟩ := hok
  have hnd := nodupB_spec o2
  have hkp := Nat.le_of_ble_eq_true o4
  have hfirst : ∀ i, i < pre.length → nth ρ i = i := fun i hi => by
    simp only [firstB, List.all_eq_true, beq_iff_eq] at o3
    exact o3 i (List.mem_of_getElem? (i := i) (by rw [upFrom_get, if_pos hi]; simp))
  have hblk : ∀ i b, post[i]? = some (some b) → flatB b = true ∧ ltB post.length b = true := fun i b hb => by
    have := (List.all_eq_true.1 o7) _ (List.mem_of_getElem? hb)
    simpa using this
  refine ⟨by simp [enters, hf, hb]; simpa using hname, hkp, fun w val vs hH hv => ?_⟩
  have hvl := hv.len
  have hE : Rl w (pBlk pre val) (fun n => (val n).v) ⟨args ++ List.replicate (fn.ntmps - args.length) .undef, pre, pre.length⟩ { tmps := vs.toArray ++ Array.replicate (fn.ntmps - vs.toArray.size) undef, defers := [] } w val := by
    refine ⟨Frame0.refl _ _, by simp [hvl], rfl, fun t => ?_, hH, fun n b hn g hg => .inr ⟨n, b, hn, hg⟩, fun _ _ => rfl, Nat.le_refl _⟩
    rw [List.getD_eq_getElem?_getD, Array.getD_eq_getD_getElem?]
    by_cases ht : t < args.length
    · obtain ⟨v, hv1, hv2⟩ := hv.get (i := t) (x := args[t]) (by simp [ht])
      rw [List.getElem?_append_left ht, List.getElem?_eq_getElem ht, Array.getElem?_append_left (by simp; omega)]
      simp only [Option.getD_some]
      rw [show vs.toArray[t]? = some v by simpa using hv1]
      exact hv2
    · rw [List.getElem?_append_right (by omega), Array.getElem?_append_right (by simp; omega)]
      by_cases h2 : t - args.length < fn.ntmps - args.length
      · rw [List.getElem?_replicate, if_pos h2, Array.getElem?_replicate, if_pos (by simp; omega)]
        simp only [Option.getD_some, VRel]; rfl
      · rw [List.getElem?_replicate, if_neg h2, Array.getElem?_replicate, if_neg (by simp; omega)]
        simp only [Option.getD_none, VRel]; rfl
  refine calls_of_wp hf hb (wp_mono (vc_sound hT hm c _ _ hdr h w _ _ _ w _ hE) ?_)
  rintro e a w' ⟨x, S, val', rfl, hx, hR⟩
  have core : (AVleL S.H.length (ts.map fun t => S.tm.getD t .undef) (renL ρ res) ∧ postP S.H.length ρ S.H ρ post ∧ (if (S.k == pre.length) = true then True else False)) → a.defers = [] ∧ ∃ v, (results fn a.tmps).run (P ()) w' = .ok v w' ∧ ∃ v2 val2, Ending.returned v = .returned v2 ∧ SPost pre val res post w v2 w' val2 := by
    rintro ⟨h1, h2, h3⟩
    have hk : S.k = pre.length := by
      cases hb : (S.k == pre.length) with
      | true => simpa using hb
      | false => rw [hb] at h3; exact h3.elim
    have get : ∀ {i : Nat} {b : Blk}, post[i]? = some (some b) → ∃ c, S.H[nth ρ i]? = some (some c) ∧ BLe S.H.length c (renB ρ b) := fun {i b} hb => by
      obtain ⟨n, c, k1, k2, k3⟩ := postP_get o1 h2 hb
      exact ⟨c, by rw [nth_of k1]; exact k2, k3⟩
    have noOk : ∀ b, NoB b → okF S.H val' b := fun b h => h.elim
    refine ⟨hR.defers, _, results_run hres hl3 _ _ _, _, fun i => val' (nth ρ i), rfl, ⟨hR.fr, ⟨fun i b hb => ?_, fun i b hb g hg => ?_, fun i j b c hij hb hc g hg hg' => ?_⟩, fun i b hb g hg => ?_, fun i hi => ?_, ?_⟩⟩
    · obtain ⟨c, k1, k2⟩ := get hb
      have k3 := (hR.heap.blk _ _ k1).le k2
      obtain ⟨f1, f2⟩ := hblk i b hb
      have k4 : BRel (okF S.H val') w' post.length (fun i => val' (nth ρ i)) (val' (nth ρ i)) b := k3.unren (fun _ h => h) (fun n _ => ⟨rfl, rfl⟩) f2
      cases b with
      | row e t l => obtain ⟨xs, m1, m2, m3⟩ := k4; exact ⟨xs, m1, ⟨m2.1, fun i y hy => (m2.2 i y hy).flat f1⟩, m3⟩
      | rows e e2 t l =>
        obtain ⟨m1, m2, m3⟩ := k4
        refine ⟨m1, fun i y hy => ?_, m3⟩
        obtain ⟨h, xs, n1, n2, n3⟩ := m2 i y hy
        exact ⟨h, xs, n1, n2, n3.1, fun i y hy => (n3.2 i y hy).flat f1⟩
      | rowsH e e2 t l k => cases f1
      | box e cs => obtain ⟨g, cur, m1, m2, m3, m4⟩ := k4; exact ⟨g, cur, m1, m2, m3.flat f1, m4⟩
    · obtain ⟨c, k1, k2⟩ := get hb
      exact hR.heap.lt _ _ k1 g hg
    · obtain ⟨c1, k1, _⟩ := get hb
      obtain ⟨c2, k2, _⟩ := get hc
      refine hR.heap.apart _ _ _ _ (fun e => hij ?_) k1 k2 g hg hg'
      have hi : i < ρ.length := by rw [o1]; exact (List.getElem?_eq_some_iff.1 hb).1
      have hj : j < ρ.length := by rw [o1]; exact (List.getElem?_eq_some_iff.1 hc).1
      have e1 := nth_get hi
      have e2 := nth_get hj
      rw [e] at e1
      exact (List.getElem_inj (h₀ := hi) (h₁ := hj) hnd).1 (by rw [(List.getElem?_eq_some_iff.1 e1).2, (List.getElem?_eq_some_iff.1 e2).2])
    · obtain ⟨c, k1, _⟩ := get hb
      exact hR.own _ _ k1 g hg
    · have := hR.kept (nth ρ i)
      rw [hfirst i hi] at this
      rw [hfirst i hi]
      exact this (by rw [hk]; exact hi)
    · have m1 : VRelL (okF S.H val') w' S.H.length val' (ts.map fun t => S.tm.getD t .undef) (ts.map fun t => a.tmps.getD t undef) :=
        VRelL.of (by simp) fun i x hi => by
          rw [List.getElem?_map] at hi ⊢
          cases ht : ts[i]? with
          | none => rw [ht] at hi; cases hi
          | some t => rw [ht] at hi; cases hi; exact ⟨_, rfl, hR.tmps t⟩
      have m2 : VRelL NoB w' post.length (fun i => val' (nth ρ i)) res (ts.map fun t => a.tmps.getD t undef) := (VRelL.unren (N := post.length) (val := fun i => val' (nth ρ i)) (fun n _ => ⟨rfl, rfl⟩) o6 (m1.le h1)).flat o5
      have m3 := m2.len
      unfold ResV resultsV
      match res, ts, m2, m3 with
      | [r], [t], m2, _ => simp only [List.map_cons, List.map_nil, VRelL] at m2; exact m2.1
      | [], [], m2, _ => exact ⟨_, rfl, m2⟩
      | r :: r' :: rs, t :: t' :: ts, m2, _ => exact ⟨_, rfl, m2⟩
      | [], _ :: _, m2, m3 => simp at m3
      | [_], [], m2, m3 => simp at m3
      | [_], _ :: _ :: _, m2, m3 => simp at m3
      | _ :: _ :: _, [], m2, m3 => simp at m3
      | _ :: _ :: _, [_], m2, m3 => simp at m3
  cases x with
  | normal => exact core hx
  | ret => exact core hx
  | exit i => exact hx.elim
  | goto l => exact hx.elim
section
variable {P : Unit → Program} {T : Unit → Tab}
theorem obP_mono {O : Ob} {k k' : Prop} (h : obP O k) (hk : k → k') : obP O k' := by
  cases O with
  | none => exact hk h
  | some p => exact ⟨h.1, hk h.2⟩
theorem stepP_mono {o : Oper} {S : AS} {K K' : AS → Prop} (h : stepP P T o S K) (hk : ∀ S, K S → K' S) : stepP P T o S K' := by
  unfold stepP at h ⊢
  split at h
  · split at h
    · exact ⟨let ⟨a, b, c, d, e, f, g, h1, h2, h3, h4, h5, h6⟩ := h.out; ⟨a, b, c, d, e, f, g, h1, h2, h3, h4, h5, hk _ h6⟩⟩
    · split at h
      · exact obP_mono h (hk _)
      · cases h
    · split at h
      · exact obP_mono h (hk _)
      · cases h
    · cases h
  all_goals
    split at h
    · exact obP_mono h (hk _)
    · cases h
theorem aseq_mono {ops : List Oper} {Q Q' : AS → Prop} (hq : ∀ S, Q S → Q' S) : ∀ (l : List Oper) (S : AS), aseq P T ops Q l S → aseq P T ops Q' l S
  | [], S, h => by unfold aseq at h ⊢; exact hq _ h
  | o :: r, S, h => by
    have ih := aseq_mono (ops := ops) hq r
    unfold aseq at h ⊢
    cases hg : o.guard with
    | none => simp only [hg] at h ⊢; exact stepP_mono h ih
    | some g =>
      obtain ⟨j, want⟩ := g
      simp only [hg] at h ⊢
      cases ht : (ops[j]?).bind (·.dst) with
      | none => simp only [ht] at h; cases h
      | some t =>
        simp only [ht] at h ⊢
        cases hv : S.tm[t]? with
        | none => simp only [hv] at h; cases h
        | some x =>
          simp only [hv] at h ⊢
          cases x <;> simp only at h ⊢ <;> (try (cases h; done))
          · rename_i b
            cases hb : (b == want) with
            | true => rw [hb] at h; exact stepP_mono h ih
            | false => rw [hb] at h; exact ih _ h
          · cases want with
            | true => exact ⟨fun hc => stepP_mono (h.t hc) ih, fun hc => ih _ (h.f hc)⟩
            | false => exact ⟨fun hc => ih _ (h.t hc), fun hc => stepP_mono (h.f hc) ih⟩
          · exact ih _ h
theorem litP_mono {ops : List Oper} {d : Option Tmp} {v : AV} {K K' : AV → Prop} (h : litP ops d v K) (hk : ∀ v, K v → K' v) : litP ops d v K' := by
  unfold litP at h ⊢
  split at h
  · cases hg : isGuard ops d with
    | true => rw [hg] at h; exact ⟨fun hc => hk _ (h.t hc), fun hc => hk _ (h.f hc)⟩
    | false => rw [hg] at h; exact hk _ h
  · exact hk _ h
theorem aqui_mono {ops : List Oper} {Q Q' : AS → Prop} (hq : ∀ S, Q S → Q' S) : ∀ (l : List Oper) (S : AS), aqui P T ops Q l S → aqui P T ops Q' l S
  | [], S, h => by unfold aqui at h ⊢; exact hq _ h
  | o :: r, S, h => by
    have ih := aqui_mono (ops := ops) hq r
    unfold aqui at h ⊢
    split at h
    · split at h
      · split at h
        · exact ⟨let ⟨a, b, c, d, e, h1, h2, h3, h4⟩ := h.out; ⟨a, b, c, d, e, h1, h2, h3, litP_mono h4 fun v hv => ih _ hv⟩⟩
        · cases h
        · split at h
          · exact obP_mono h fun h => litP_mono h fun v hv => ih _ hv
          · cases h
        · cases h
      · split at h
        · exact obP_mono h fun h => litP_mono h fun v hv => ih _ hv
        · cases h
    · exact ih _ h
    · cases h
theorem vc_mono : ∀ (c : Code) {Q Q' : AX → AS → Prop} {S : AS}, vc P T c Q S → (∀ e S, Q e S → Q' e S) → vc P T c Q' S
  | .skip, Q, Q', S, h, hq => hq _ _ h
  | .region id ops d, Q, Q', S, h, hq => by
    unfold vc at h ⊢
    cases d with
    | true => exact aqui_mono (fun S => aseq_mono (hq .normal) _ S) _ _ h
    | false => exact aseq_mono (hq .normal) _ _ h
  | .seq x y, Q, Q', S, h, hq => vc_mono x (S := S) h fun e S => by
    cases e with
    | normal => exact fun h => vc_mono y h hq
    | exit i => exact hq _ _
    | ret => exact hq _ _
    | goto l => exact hq _ _
  | .cond c x y, Q, Q', S, h, hq => by
    unfold vc at h ⊢
    split at h
    · exact vc_mono x h hq
    · exact vc_mono y h hq
    · exact ⟨fun hc => vc_mono x (h.t hc) hq, fun hc => vc_mono y (h.f hc) hq⟩
    · cases h
  | .block id c, Q, Q', S, h, hq => vc_mono c (S := S) h fun e S => by
    cases e with
    | normal => exact hq _ _
    | exit i =>
      simp only [blkQ]
      cases (i == id) with
      | true => exact hq _ _
      | false => exact hq _ _
    | ret => exact hq _ _
    | goto l => exact hq _ _
  | .loop c, Q, Q', S, h, hq => ⟨AWp.mono h.out hq⟩
  | .exit id, Q, Q', S, h, hq => hq _ _ h
  | .ret, Q, Q', S, h, hq => hq _ _ h
  | .label l, Q, Q', S, h, hq => hq _ _ h
  | .rangeFunc _ _ _ _, _, _, _, h, _ => by cases h
  | .scope _, _, _, _, h, _ => by cases h
  | .goto _, _, _, _, h, _ => by cases h
  | .refuse _, _, _, _, h, _ => by cases h
end
end Go.Proofs.Ytbkdmnohpjihgaa.M
