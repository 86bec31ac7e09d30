/- Ms, Mt, Mu, Mv, Mw, Mx, My, Rt, Mz, in one text. -/
import Derived.Test.YthogfineaeklpaaQc
import Derived.ScopeJumps
import Derived.Laws.ResultCell
import Derived.Laws.Rows
/- Code, loops, functions: what is to be shown, by reckoning. -/
namespace Go.Proofs.Ythogfineaeklpaa.M
open Go.RowKit Abs
set_option linter.unusedVariables false
set_option linter.unusedSimpArgs false

def quietO (o : Oper) : Bool :=
  match o.op with
  | .build _ _ => false
  | .box _ _ => false
  | .alloc _ => false
  | .store _ _ _ => false
  | .buildSlice _ _ _ => false
  | .makeSlice _ _ _ => false
  | .call c => (match c.callee with | .builtin .append => false | .builtin .copy => false | _ => true)
  | _ => true
def quietN : List Oper → Nat
  | [] => 0
  | o :: r => if (quietO o) = true then quietN r + 1 else 0
def moveN : List Oper → Nat
  | [] => 0
  | o :: r => if (isMove o) = true then moveN r + 1 else 0
def drawB : Code → Bool
  | .region _ ops true => if (quietN ops.toList == ops.toList.length) = true then anyB ops.toList.toArray else tailB ops.toList.toArray (quietN ops.toList) || tailF ops.toList.toArray (moveN ops.toList) (quietN ops.toList)
  | .seq a b => drawB a && drawB b
  | .cond _ a b => drawB a && drawB b
  | .block _ c => drawB c
  | .loop c => drawB c
  | _ => true
inductive BadC : Prop
/-- A loop. -/
structure LoopL (P : Unit → Program) (T : Unit → Tab) (c : Code) (Q : AX → AS → Prop) (S : AS) : Prop where
  out : AWp (P ()) (.loop c) Q S
/-- A scope with a label. -/
structure ScopeL (P : Unit → Program) (T : Unit → Tab) (c : Code) (Q : AX → AS → Prop) (S : AS) : Prop where
  out : AWp (P ()) (.scope c) Q S
def seqQ (K : AS → Prop) (Q : AX → AS → Prop) : AX → AS → Prop
  | .normal, S => K S
  | .exit i, S => Q (.exit i) S
  | .ret, S => Q .ret S
  | .goto l, S => Q (.goto l) S
def blkQ (id : Nat) (Q : AX → AS → Prop) : AX → AS → Prop
  | .exit i, S => if (i == id) = true then Q .normal S else Q (.exit i) S
  | .normal, S => Q .normal S
  | .ret, S => Q .ret S
  | .goto l, S => Q (.goto l) S
def vc (P : Unit → Program) (T : Unit → Tab) : Code → (AX → AS → Prop) → AS → Prop
  | .skip, Q, S => Q .normal S
  | .region _ ops d, Q, S => if (d) = true then aqui P T ops.toList (aseq P T ops.toList (Q .normal) (ops.toList.drop (quietN ops.toList))) (ops.toList.take (quietN ops.toList)) S
      else aseq P T ops.toList (Q .normal) ops.toList S
  | .seq a b, Q, S => vc P T a (seqQ (vc P T b Q) Q) S
  | .cond c x y, Q, S => (match S.ev c with
    | .lit true => vc P T x Q S
    | .lit false => vc P T y Q S
    | .bool b => IfP b (vc P T x Q S) (vc P T y Q S)
    | _ => BadC)
  | .block id c, Q, S => vc P T c (blkQ id Q) S
  | .loop c, Q, S => LoopL P T c Q S
  | .exit id, Q, S => Q (.exit id) S
  | .ret, Q, S => Q .ret S
  | .label _, Q, S => Q .normal S
  | .scope c, Q, S => ScopeL P T c Q S
  | .goto l, Q, S => Q (.goto l) S
  | _, _, _ => BadC
section
variable {P : Unit → Program} {T : Unit → Tab} {S : AS} {Q : AX → AS → Prop}
theorem AWp.mono {P : Program} {c : Code} {Q' : AX → AS → Prop} (h : AWp P c Q S) (hq : ∀ e S, Q e S → Q' e S) : AWp P c Q' S :=
  fun w0 B hd a w val hR => wp_mono (h w0 B hd a w val hR) fun e a' w' ⟨x, S', val', h1, h2, h3⟩ => ⟨x, S', val', h1, hq _ _ h2, h3⟩
theorem vc_sound (hT : TOk (P ()) (T ())) (hm : (P ()).follows .mixedOrders = true) : ∀ (c : Code) (Q : AX → AS → Prop) (S : AS), drawB c = true → vc P T c Q S → AWp (P ()) c Q S
  | .skip, Q, S, _, h => fun w0 B hd a w val hR => wp_skip ⟨.normal, S, val, rfl, h, hR⟩
  | .region id ops d, Q, S, hb, h => by
    cases d with
    | false => exact AWp.region hT h
    | true =>
      unfold vc at h
      simp only [↓reduceIte] at h
      unfold drawB at hb
      have e : ops = ops.toList.toArray := by simp
      cases hq : (quietN ops.toList == ops.toList.length) with
      | true =>
        rw [hq] at hb
        simp only [↓reduceIte] at hb
        simp only [beq_iff_eq] at hq
        rw [hq, List.drop_length, List.take_length] at h
        rw [e]
        refine AWp.any hT hm hb ?_
        have e2 : aseq P T ops.toList (Q .normal) [] = Q .normal := by funext S; simp [aseq]
        rw [e2] at h
        exact h
      | false =>
        rw [hq] at hb
        simp only [Bool.false_eq_true, ↓reduceIte, Bool.or_eq_true] at hb
        rw [e]
        rcases hb with hb | hb
        · exact AWp.tail hT _ hm hb h
        · exact AWp.tailF hT _ _ hm hb h
  | .seq x y, Q, S, hb, h => fun w0 B hd a w val hR => by
    simp only [drawB, Bool.and_eq_true] at hb
    refine wp_seq (wp_mono (vc_sound hT hm x _ S hb.1 h w0 B hd a w val hR) fun e a' w' ⟨k, S', val', h1, h2, h3⟩ => ?_)
    subst h1
    cases k with
    | normal => exact vc_sound hT hm y Q S' hb.2 h2 w0 B hd a' w' val' h3
    | exit i => exact ⟨.exit i, S', val', rfl, h2, h3⟩
    | ret => exact ⟨.ret, S', val', rfl, h2, h3⟩
    | goto l => exact ⟨.goto l, S', val', rfl, h2, h3⟩
  | .cond c x y, Q, S, hb, h => fun w0 B hd a w val hR => by
    simp only [drawB, Bool.and_eq_true] at hb
    unfold vc at h
    have hc := hR.ev c
    split at h
    · rename_i e
      rw [e] at hc
      simp only [VRel] at hc
      exact wp_cond (t := true) hc (vc_sound hT hm x Q S hb.1 h w0 B hd a w val hR)
    · rename_i e
      rw [e] at hc
      simp only [VRel] at hc
      exact wp_cond (t := false) hc (vc_sound hT hm y Q S hb.2 h w0 B hd a w val hR)
    · rename_i b e
      rw [e] at hc
      simp only [VRel] at hc
      cases hbv : b () with
      | true => rw [hbv] at hc; exact wp_cond (t := true) hc (vc_sound hT hm x Q S hb.1 (h.t hbv) w0 B hd a w val hR)
      | false => rw [hbv] at hc; exact wp_cond (t := false) hc (vc_sound hT hm y Q S hb.2 (h.f hbv) w0 B hd a w val hR)
    · cases h
  | .block id c, Q, S, hb, h => fun w0 B hd a w val hR => by
    refine wp_block (wp_mono (vc_sound hT hm c _ S hb h w0 B hd a w val hR) fun e a' w' ⟨x, S', val', h1, h2, h3⟩ => ?_)
    subst h1
    cases x with
    | normal => exact ⟨.normal, S', val', rfl, h2, h3⟩
    | exit i =>
      show (if i = id then CQ w0 B hd Q .normal a' w' else CQ w0 B hd Q (.exit i) a' w')
      simp only [blkQ] at h2
      by_cases hi : i = id
      · rw [if_pos hi]
        rw [show (i == id) = true by simpa using hi] at h2
        exact ⟨.normal, S', val', rfl, h2, h3⟩
      · rw [if_neg hi]
        rw [show (i == id) = false by simpa using hi] at h2
        exact ⟨.exit i, S', val', rfl, h2, h3⟩
    | ret => exact ⟨.ret, S', val', rfl, h2, h3⟩
    | goto l => exact ⟨.goto l, S', val', rfl, h2, h3⟩
  | .loop c, Q, S, hb, h => h.out
  | .exit id, Q, S, _, h => fun w0 B hd a w val hR => wp_exit ⟨.exit id, S, val, rfl, h, hR⟩
  | .ret, Q, S, _, h => fun w0 B hd a w val hR => wp_ret ⟨.ret, S, val, rfl, h, hR⟩
  | .label l, Q, S, _, h => fun w0 B hd a w val hR => wp_label ⟨.normal, S, val, rfl, h, hR⟩
  | .rangeFunc _ _ _ _, Q, S, _, h => by cases h
  | .scope c, Q, S, _, h => h.out
  | .goto l, Q, S, _, h => fun w0 B hd a w val hR => wp_goto ⟨.goto l, S, val, rfl, h, hR⟩
  | .refuse _, Q, S, _, h => by cases h
end
/-- The second state says no more than the first: by reckoning. -/
def weakD (S S' : AS) : Prop := AVleL S'.H.length S.tm S'.tm ∧ HLe S'.H.length S.H S'.H ∧ (if (S.k == S'.k && S'.k.ble S'.H.length) = true then True else False)
theorem weakD.weak {S S' : AS} (h : weakD S S') : Weak S S' := by
  obtain ⟨h1, h2, h3⟩ := h
  refine ⟨h1, h2, ?_⟩
  cases hb : (S.k == S'.k && S'.k.ble S'.H.length) with
  | true => rfl
  | false => rw [hb] at h3; exact h3.elim
theorem LoopL.intro {P : Unit → Program} {T : Unit → Tab} {S : AS} {Q : AX → AS → Prop} {c : Code} (hT : TOk (P ()) (T ())) (hm : (P ()).follows .mixedOrders = true) (hb : drawB c = true) {X : Type} (st : X → AS) (m : X → Nat) (x0 : X) (hw : weakD S (st x0))
    (round : ∀ x, vc P T c (seqQ (fun S' => ∃ y, m y < m x ∧ weakD S' (st y)) Q) (st x)) : LoopL P T c Q S := by
  refine ⟨fun w0 B hd a w val hR => ?_⟩
  refine wp_loop_ghost (fun x a w => ∃ val, Rl w0 B hd (st x) a w val) m x0 ⟨_, hR.weak hw.weak⟩ fun x a w ⟨val, hR⟩ => ?_
  refine wp_mono (vc_sound hT hm c _ _ hb (round x) w0 B hd a w val hR) fun e a' w' ⟨y, S', val', h1, h2, h3⟩ => ?_
  subst h1
  cases y with
  | normal => obtain ⟨y, h4, h5⟩ := h2; exact ⟨y, ⟨_, h3.weak h5.weak⟩, h4⟩
  | exit i => exact ⟨.exit i, S', val', rfl, h2, h3⟩
  | ret => exact ⟨.ret, S', val', rfl, h2, h3⟩
  | goto l => exact ⟨.goto l, S', val', rfl, h2, h3⟩
/-- By a jump to the label: K. -/
def jumpQ (l : Nat) (K : AS → Prop) (Q : AX → AS → Prop) : AX → AS → Prop
  | .goto i, S => if (i == l) = true then K S else False
  | .normal, S => Q .normal S
  | .ret, S => Q .ret S
  | .exit i, S => Q (.exit i) S
theorem wp_scope_ghost {P : Program} {a : Act} {w : World} {Q : Exit → Act → World → Prop} {X : Type} {c rest : Code} (l : Nat) (J : X → Act → World → Prop) (μ : X → Nat) (hf : findLabel c l = some rest)
    (first : c.wp P (Exit.jump l (fun a' w' => ∃ x, J x a' w') Q) a w)
    (pass : ∀ x a w, J x a w → rest.wp P (Exit.jump l (fun a' w' => ∃ y, μ y < μ x ∧ J y a' w') Q) a w) : (Code.scope c).wp P Q a w := by
  intro b k cs
  have hg : gotoIn l (.inScope c :: k) = some (.code rest :: .inScope c :: k) := by simp [gotoIn, hf]
  have key : ∀ n x a w, μ x = n → J x a w → ∃ e a' w', Q e a' w' ∧ Arrives P (lone (b.at a (.code rest :: .inScope c :: k)) cs w) b k cs e a' w' := by
    intro n
    induction n using Nat.strongRecOn with
    | _ n ih =>
      intro x a w hn hJ
      obtain ⟨e, a₁, w₁, hq, harr⟩ := pass x a w hJ b (.inScope c :: k) cs
      cases e with
      | normal => exact ⟨.normal, a₁, w₁, hq, Steps.trans harr (.one step_inScope)⟩
      | exit id => exact ⟨.exit id, a₁, w₁, hq, fun k' hk => harr k' (by simp [exitTo, hk])⟩
      | goto l' =>
        obtain ⟨rfl, y, hlt, hJ'⟩ := hq
        obtain ⟨e₂, a₂, w₂, hq₂, harr₂⟩ := ih _ (by omega) y a₁ w₁ rfl hJ'
        exact ⟨e₂, a₂, w₂, hq₂, .of_steps (harr _ hg) harr₂⟩
      | ret => exact ⟨_, a₁, w₁, hq, harr⟩
      | panic ch => exact ⟨_, a₁, w₁, hq, harr⟩
      | outgrown => exact ⟨_, a₁, w₁, hq, harr⟩
  obtain ⟨e, a₁, w₁, hq, harr⟩ := first b (.inScope c :: k) cs
  cases e with
  | normal => exact ⟨.normal, a₁, w₁, hq, .head step_scope (Steps.trans harr (.one step_inScope))⟩
  | exit id => exact ⟨.exit id, a₁, w₁, hq, fun k' hk => .head step_scope (harr k' (by simp [exitTo, hk]))⟩
  | goto l' =>
    obtain ⟨rfl, y, hJ'⟩ := hq
    obtain ⟨e₂, a₂, w₂, hq₂, harr₂⟩ := key _ y a₁ w₁ rfl hJ'
    exact ⟨e₂, a₂, w₂, hq₂, .of_steps (.head step_scope (harr _ hg)) harr₂⟩
  | ret => exact ⟨_, a₁, w₁, hq, .of_steps (.one step_scope) harr⟩
  | panic ch => exact ⟨_, a₁, w₁, hq, .of_steps (.one step_scope) harr⟩
  | outgrown => exact ⟨_, a₁, w₁, hq, .of_steps (.one step_scope) harr⟩
theorem ScopeL.intro {P : Unit → Program} {T : Unit → Tab} {S : AS} {Q : AX → AS → Prop} {c rest : Code} (hT : TOk (P ()) (T ())) (hm : (P ()).follows .mixedOrders = true) (l : Nat) (hf : findLabel c l = some rest) (hb : drawB c = true) (hbr : drawB rest = true) {X : Type} (st : X → AS) (m : X → Nat)
    (first : vc P T c (jumpQ l (fun S' => ∃ y, weakD S' (st y)) Q) S)
    (pass : ∀ x, vc P T rest (jumpQ l (fun S' => ∃ y, m y < m x ∧ weakD S' (st y)) Q) (st x)) : ScopeL P T c Q S := by
  refine ⟨fun w0 B hd a w val hR => ?_⟩
  refine wp_scope_ghost l (fun x a w => ∃ val, Rl w0 B hd (st x) a w val) m hf ?_ fun x a w ⟨val, hR⟩ => ?_
  · refine wp_mono (vc_sound hT hm c _ _ hb first w0 B hd a w val hR) fun e a' w' ⟨y, S', val', h1, h2, h3⟩ => ?_
    subst h1
    cases y with
    | normal => exact ⟨.normal, S', val', rfl, h2, h3⟩
    | exit i => exact ⟨.exit i, S', val', rfl, h2, h3⟩
    | ret => exact ⟨.ret, S', val', rfl, h2, h3⟩
    | goto i =>
      simp only [jumpQ] at h2
      cases hi : (i == l) with
      | true =>
        rw [hi] at h2
        simp only [↓reduceIte] at h2
        obtain ⟨y, h5⟩ := h2
        simp only [beq_iff_eq] at hi
        exact ⟨hi, y, _, h3.weak h5.weak⟩
      | false => rw [hi] at h2; exact absurd h2 (by simp)
  · refine wp_mono (vc_sound hT hm rest _ _ hbr (pass x) w0 B hd a w val hR) fun e a' w' ⟨y, S', val', h1, h2, h3⟩ => ?_
    subst h1
    cases y with
    | normal => exact ⟨.normal, S', val', rfl, h2, h3⟩
    | exit i => exact ⟨.exit i, S', val', rfl, h2, h3⟩
    | ret => exact ⟨.ret, S', val', rfl, h2, h3⟩
    | goto i =>
      simp only [jumpQ] at h2
      cases hi : (i == l) with
      | true =>
        rw [hi] at h2
        simp only [↓reduceIte] at h2
        obtain ⟨y, h5, h6⟩ := h2
        simp only [beq_iff_eq] at hi
        exact ⟨hi, y, h5, _, h3.weak h6.weak⟩
      | false => rw [hi] at h2; exact absurd h2 (by simp)
def nodupB : List Nat → Bool
  | [] => true
  | x :: r => !(r.contains x) && nodupB r
theorem nodupB_spec : ∀ {l : List Nat}, nodupB l = true → l.Nodup
  | [], _ => List.nodup_nil
  | x :: r, h => by
    simp only [nodupB, Bool.and_eq_true, Bool.not_eq_true'] at h
    exact List.nodup_cons.2 ⟨by simpa using h.1, nodupB_spec h.2⟩
def firstB (k : Nat) (ρ : List Nat) : Bool := (upFrom 0 k).all fun i => nth ρ i == i
def okB (k : Nat) (ρ : List Nat) (res : List AV) (post : Hp) : Bool :=
  ρ.length == post.length && nodupB ρ && firstB k ρ && k.ble post.length && flatL res && ltL post.length res && post.all fun x => match x with | some b => flatB b && ltB post.length b | none => true
def postP (N : Nat) (ρ : List Nat) (H : Hp) : List Nat → Hp → Prop
  | n :: r, x :: post => (match x with
    | some b => (match H[n]? with | some (some c) => BLe N c (renB ρ b) | _ => False)
    | none => True) ∧ postP N ρ H r post
  | _, _ => True
/-- The function's end. -/
def endP (k : Nat) (ρ : List Nat) (ts : List Tmp) (res : List AV) (post : Hp) (e : AX) (S : AS) : Prop :=
  match e with
  | .normal => AVleL S.H.length (ts.map fun t => S.tm.getD t .undef) (renL ρ res) ∧ postP S.H.length ρ S.H ρ post ∧ (if (S.k == k) = true then True else False)
  | .ret => AVleL S.H.length (ts.map fun t => S.tm.getD t .undef) (renL ρ res) ∧ postP S.H.length ρ S.H ρ post ∧ (if (S.k == k) = true then True else False)
  | _ => False
theorem postP_get {N : Nat} {ρ : List Nat} {H : Hp} : ∀ {σ : List Nat} {post : Hp} {i : Nat} {b : Blk}, σ.length = post.length → postP N ρ H σ post → post[i]? = some (some b) → ∃ n c, σ[i]? = some n ∧ H[n]? = some (some c) ∧ BLe N c (renB ρ b)
  | [], [], i, b, _, _, h => by simp at h
  | [], _ :: _, _, _, hl, _, _ => by simp at hl
  | _ :: _, [], _, _, hl, _, _ => by simp at hl
  | n :: σ, x :: post, 0, b, _, h, hx => by
    simp at hx
    subst hx
    simp only [postP] at h
    obtain ⟨h1, _⟩ := h
    split at h1
    · rename_i c hc
      exact ⟨n, c, rfl, hc, h1⟩
    · exact h1.elim
  | n :: σ, x :: post, i + 1, b, hl, h, hx => by simp only [postP] at h; simpa using postP_get (by simpa using hl) h.2 (by simpa using hx)
def resultsV (ts : List Tmp) (tmps : Array Value) : Value :=
  match ts with
  | [t] => tmps.getD t undef
  | ts => .tuple (ts.map fun t => tmps.getD t undef).toArray
theorem results_run {fn : Func} {ts : List Tmp} (h : fn.results = (ts.map .tmp).toArray) (hl : ts.length ≤ 3) (tmps : Array Value) (P : Program) (w : World) : (results fn tmps).run P w = .ok (resultsV ts tmps) w := by
  match ts, hl with
  | [], _ => exact results_none h tmps P w
  | [t], _ => exact results_tmp h tmps P w
  | [t, u], _ => exact results_tmp2 h tmps P w
  | [t, u, v], _ => exact results_tmp3 h tmps P w
  | _ :: _ :: _ :: _ :: _, hl => simp at hl
/-- **What a function is known to answer: shown by what is reckoned of its code.** -/
theorem Spec2.of {P : Unit → Program} {T : Unit → Tab} (hT : TOk (P ()) (T ())) (hm : (P ()).follows .mixedOrders = true) {f : FuncId} {fn : Func} {c : Code} {args : List AV} {pre : Hp} {res : List AV} {post : Hp} (ρ : List Nat) (ts : List Tmp)
    (hf : (P ()).funcs[f]? = some fn) (hb : fn.body = some c) (hname : (fn.name != "runtime.NumGoroutine") = true) (hres : fn.results = (ts.map .tmp).toArray) (hl3 : ts.length ≤ 3) (hdr : drawB c = true) (hok : okB pre.length ρ res post = true) (hnt : args.length ≤ fn.ntmps)
    (h : vc P T c (endP pre.length ρ ts res post) ⟨args ++ List.replicate (fn.ntmps - args.length) .undef, pre, pre.length⟩) : Spec2 (P ()) f args pre res post := by
  simp only [okB, Bool.and_eq_true, beq_iff_eq] at hok
  obtain ⟨⟨⟨⟨⟨⟨o1, o2⟩, o3⟩, o4⟩, o5⟩, o6⟩, o7⟩ := hok
  have hnd := nodupB_spec o2
  have hkp := Nat.le_of_ble_eq_true o4
  have hfirst : ∀ i, i < pre.length → nth ρ i = i := fun i hi => by
    simp only [firstB, List.all_eq_true, beq_iff_eq] at o3
    exact o3 i (List.mem_of_getElem? (i := i) (by rw [upFrom_get, if_pos hi]; simp))
  have hblk : ∀ i b, post[i]? = some (some b) → flatB b = true ∧ ltB post.length b = true := fun i b hb => by
    have := (List.all_eq_true.1 o7) _ (List.mem_of_getElem? hb)
    simpa using this
  refine ⟨by simp [enters, hf, hb]; simpa using hname, hkp, fun w val vs hH hv => ?_⟩
  have hvl := hv.len
  have hE : Rl w (pBlk pre val) (fun n => (val n).v) ⟨args ++ List.replicate (fn.ntmps - args.length) .undef, pre, pre.length⟩ { tmps := vs.toArray ++ Array.replicate (fn.ntmps - vs.toArray.size) undef, defers := [] } w val := by
    refine ⟨Frame0.refl _ _, by simp [hvl], rfl, fun t => ?_, hH, fun n b hn g hg => .inr ⟨n, b, hn, hg⟩, fun _ _ => rfl, Nat.le_refl _⟩
    rw [List.getD_eq_getElem?_getD, Array.getD_eq_getD_getElem?]
    by_cases ht : t < args.length
    · obtain ⟨v, hv1, hv2⟩ := hv.get (i := t) (x := args[t]) (by simp [ht])
      rw [List.getElem?_append_left ht, List.getElem?_eq_getElem ht, Array.getElem?_append_left (by simp; omega)]
      simp only [Option.getD_some]
      rw [show vs.toArray[t]? = some v by simpa using hv1]
      exact hv2
    · rw [List.getElem?_append_right (by omega), Array.getElem?_append_right (by simp; omega)]
      by_cases h2 : t - args.length < fn.ntmps - args.length
      · rw [List.getElem?_replicate, if_pos h2, Array.getElem?_replicate, if_pos (by simp; omega)]
        simp only [Option.getD_some, VRel]; rfl
      · rw [List.getElem?_replicate, if_neg h2, Array.getElem?_replicate, if_neg (by simp; omega)]
        simp only [Option.getD_none, VRel]; rfl
  refine calls_of_wp hf hb (wp_mono (vc_sound hT hm c _ _ hdr h w _ _ _ w _ hE) ?_)
  rintro e a w' ⟨x, S, val', rfl, hx, hR⟩
  have core : (AVleL S.H.length (ts.map fun t => S.tm.getD t .undef) (renL ρ res) ∧ postP S.H.length ρ S.H ρ post ∧ (if (S.k == pre.length) = true then True else False)) → a.defers = [] ∧ ∃ v, (results fn a.tmps).run (P ()) w' = .ok v w' ∧ ∃ v2 val2, Ending.returned v = .returned v2 ∧ SPost pre val res post w v2 w' val2 := by
    rintro ⟨h1, h2, h3⟩
    have hk : S.k = pre.length := by
      cases hb : (S.k == pre.length) with
      | true => simpa using hb
      | false => rw [hb] at h3; exact h3.elim
    have get : ∀ {i : Nat} {b : Blk}, post[i]? = some (some b) → ∃ c, S.H[nth ρ i]? = some (some c) ∧ BLe S.H.length c (renB ρ b) := fun {i b} hb => by
      obtain ⟨n, c, k1, k2, k3⟩ := postP_get o1 h2 hb
      exact ⟨c, by rw [nth_of k1]; exact k2, k3⟩
    have noOk : ∀ b, NoB b → okF S.H val' b := fun b h => h.elim
    refine ⟨hR.defers, _, results_run hres hl3 _ _ _, _, fun i => val' (nth ρ i), rfl, ⟨hR.fr, ⟨fun i b hb => ?_, fun i b hb g hg => ?_, fun i j b c hij hb hc g hg hg' => ?_⟩, fun i b hb g hg => ?_, fun i hi => ?_, ?_⟩⟩
    · obtain ⟨c, k1, k2⟩ := get hb
      have k3 := (hR.heap.blk _ _ k1).le k2
      obtain ⟨f1, f2⟩ := hblk i b hb
      have k4 : BRel (okF S.H val') w' post.length (fun i => val' (nth ρ i)) (val' (nth ρ i)) b := k3.unren (fun _ h => h) (fun n _ => ⟨rfl, rfl⟩) f2
      cases b with
      | row e t l => obtain ⟨xs, m1, m2, m3⟩ := k4; exact ⟨xs, m1, ⟨m2.1, fun i y hy => (m2.2 i y hy).flat f1⟩, m3⟩
      | rows e e2 t l =>
        obtain ⟨m1, m2, m3⟩ := k4
        refine ⟨m1, fun i y hy => ?_, m3⟩
        obtain ⟨h, xs, n1, n2, n3⟩ := m2 i y hy
        exact ⟨h, xs, n1, n2, n3.1, fun i y hy => (n3.2 i y hy).flat f1⟩
      | rowsH e e2 t l k => cases f1
      | arr e k t l => cases f1
      | ext s F => cases f1
      | box e cs => obtain ⟨g, cur, m1, m2, m3, m4⟩ := k4; exact ⟨g, cur, m1, m2, m3.flat f1, m4⟩
    · obtain ⟨c, k1, k2⟩ := get hb
      exact hR.heap.lt _ _ k1 g hg
    · obtain ⟨c1, k1, _⟩ := get hb
      obtain ⟨c2, k2, _⟩ := get hc
      refine hR.heap.apart _ _ _ _ (fun e => hij ?_) k1 k2 g hg hg'
      have hi : i < ρ.length := by rw [o1]; exact (List.getElem?_eq_some_iff.1 hb).1
      have hj : j < ρ.length := by rw [o1]; exact (List.getElem?_eq_some_iff.1 hc).1
      have e1 := nth_get hi
      have e2 := nth_get hj
      rw [e] at e1
      exact (List.getElem_inj (h₀ := hi) (h₁ := hj) hnd).1 (by rw [(List.getElem?_eq_some_iff.1 e1).2, (List.getElem?_eq_some_iff.1 e2).2])
    · obtain ⟨c, k1, _⟩ := get hb
      exact hR.own _ _ k1 g hg
    · have := hR.kept (nth ρ i)
      rw [hfirst i hi] at this
      rw [hfirst i hi]
      exact this (by rw [hk]; exact hi)
    · have m1 : VRelL (okF S.H val') w' S.H.length val' (ts.map fun t => S.tm.getD t .undef) (ts.map fun t => a.tmps.getD t undef) :=
        VRelL.of (by simp) fun i x hi => by
          rw [List.getElem?_map] at hi ⊢
          cases ht : ts[i]? with
          | none => rw [ht] at hi; cases hi
          | some t => rw [ht] at hi; cases hi; exact ⟨_, rfl, hR.tmps t⟩
      have m2 : VRelL NoB w' post.length (fun i => val' (nth ρ i)) res (ts.map fun t => a.tmps.getD t undef) := (VRelL.unren (N := post.length) (val := fun i => val' (nth ρ i)) (fun n _ => ⟨rfl, rfl⟩) o6 (m1.le h1)).flat o5
      have m3 := m2.len
      unfold ResV resultsV
      match res, ts, m2, m3 with
      | [r], [t], m2, _ => simp only [List.map_cons, List.map_nil, VRelL] at m2; exact m2.1
      | [], [], m2, _ => exact ⟨_, rfl, m2⟩
      | r :: r' :: rs, t :: t' :: ts, m2, _ => exact ⟨_, rfl, m2⟩
      | [], _ :: _, m2, m3 => simp at m3
      | [_], [], m2, m3 => simp at m3
      | [_], _ :: _ :: _, m2, m3 => simp at m3
      | _ :: _ :: _, [], m2, m3 => simp at m3
      | _ :: _ :: _, [_], m2, m3 => simp at m3
  cases x with
  | normal => exact core hx
  | ret => exact core hx
  | exit i => exact hx.elim
  | goto l => exact hx.elim
section
variable {P : Unit → Program} {T : Unit → Tab}
theorem obP_mono {O : Ob} {k k' : Prop} (h : obP O k) (hk : k → k') : obP O k' := by
  cases O with
  | none => exact hk h
  | some p => exact ⟨h.1, hk h.2⟩
theorem stepP_mono {o : Oper} {S : AS} {K K' : AS → Prop} (h : stepP P T o S K) (hk : ∀ S, K S → K' S) : stepP P T o S K' := by
  unfold stepP at h ⊢
  split at h
  · split at h
    · rcases h.out with h | h | h
      · exact ⟨.inl ⟨let ⟨a, b, c, d, e, f, g, h1, h2, h3, h4, h5, h6⟩ := h.out; ⟨a, b, c, d, e, f, g, h1, h2, h3, h4, h5, hk _ h6⟩⟩⟩
      · exact ⟨.inr (.inl ⟨let ⟨a, b, c, d, e, h1, h2, h3, h4, h5⟩ := h.out; ⟨a, b, c, d, e, h1, h2, h3, h4, hk _ h5⟩⟩)⟩
      · exact ⟨.inr (.inr ⟨let ⟨f', cap, h1, h2, h3⟩ := h.out; ⟨f', cap, h1, h2, fun w0 B hd a w val vs hR hv => (h3 w0 B hd a w val vs hR hv).mono fun e w' ⟨v, x, S', val', k1, k2, k3⟩ => ⟨v, x, S', val', k1, hk _ k2, k3⟩⟩⟩)⟩
    · exact ⟨let ⟨a, b, c, d, e, f, g, i, j, h1, h2, h3, h4, h5, h6, h7, h8⟩ := h.out; ⟨a, b, c, d, e, f, g, i, j, h1, h2, h3, h4, h5, h6, h7, hk _ h8⟩⟩
    all_goals
      split at h
      · exact obP_mono h (hk _)
      · cases h
  all_goals
    split at h
    · exact obP_mono h (hk _)
    · cases h
theorem aseq_mono {ops : List Oper} {Q Q' : AS → Prop} (hq : ∀ S, Q S → Q' S) : ∀ (l : List Oper) (S : AS), aseq P T ops Q l S → aseq P T ops Q' l S
  | [], S, h => by unfold aseq at h ⊢; exact hq _ h
  | o :: r, S, h => by
    have ih := aseq_mono (ops := ops) hq r
    unfold aseq at h ⊢
    cases hg : o.guard with
    | none => simp only [hg] at h ⊢; exact stepP_mono h ih
    | some g =>
      obtain ⟨j, want⟩ := g
      simp only [hg] at h ⊢
      cases ht : (ops[j]?).bind (·.dst) with
      | none => simp only [ht] at h; cases h
      | some t =>
        simp only [ht] at h ⊢
        cases hv : S.tm[t]? with
        | none => simp only [hv] at h; cases h
        | some x =>
          simp only [hv] at h ⊢
          cases x <;> simp only at h ⊢ <;> (try (cases h; done))
          · rename_i b
            cases hb : (b == want) with
            | true => rw [hb] at h; exact stepP_mono h ih
            | false => rw [hb] at h; exact ih _ h
          · cases want with
            | true => exact ⟨fun hc => stepP_mono (h.t hc) ih, fun hc => ih _ (h.f hc)⟩
            | false => exact ⟨fun hc => ih _ (h.t hc), fun hc => stepP_mono (h.f hc) ih⟩
          · exact ih _ h
theorem litP_mono {ops : List Oper} {d : Option Tmp} {v : AV} {K K' : AV → Prop} (h : litP ops d v K) (hk : ∀ v, K v → K' v) : litP ops d v K' := by
  unfold litP at h ⊢
  split at h
  · cases hg : isGuard ops d with
    | true => rw [hg] at h; exact ⟨fun hc => hk _ (h.t hc), fun hc => hk _ (h.f hc)⟩
    | false => rw [hg] at h; exact hk _ h
  · exact hk _ h
theorem aqui_mono {ops : List Oper} {Q Q' : AS → Prop} (hq : ∀ S, Q S → Q' S) : ∀ (l : List Oper) (S : AS), aqui P T ops Q l S → aqui P T ops Q' l S
  | [], S, h => by unfold aqui at h ⊢; exact hq _ h
  | o :: r, S, h => by
    have ih := aqui_mono (ops := ops) hq r
    unfold aqui at h ⊢
    split at h
    · split at h
      · split at h
        · exact ⟨let ⟨a, b, c, d, e, h1, h2, h3, h4⟩ := h.out; ⟨a, b, c, d, e, h1, h2, h3, litP_mono h4 fun v hv => ih _ hv⟩⟩
        · exact ⟨let ⟨a, b, c, d, e, f, g, h1, h2, h3, h4, h5, h6⟩ := h.out; ⟨a, b, c, d, e, f, g, h1, h2, h3, h4, h5, litP_mono h6 fun v hv => ih _ hv⟩⟩
        · cases h
        · split at h
          · exact obP_mono h fun h => litP_mono h fun v hv => ih _ hv
          · cases h
      · split at h
        · exact obP_mono h fun h => litP_mono h fun v hv => ih _ hv
        · cases h
    · exact ih _ h
    · cases h
theorem vc_mono : ∀ (c : Code) {Q Q' : AX → AS → Prop} {S : AS}, vc P T c Q S → (∀ e S, Q e S → Q' e S) → vc P T c Q' S
  | .skip, Q, Q', S, h, hq => hq _ _ h
  | .region id ops d, Q, Q', S, h, hq => by
    unfold vc at h ⊢
    cases d with
    | true => exact aqui_mono (fun S => aseq_mono (hq .normal) _ S) _ _ h
    | false => exact aseq_mono (hq .normal) _ _ h
  | .seq x y, Q, Q', S, h, hq => vc_mono x (S := S) h fun e S => by
    cases e with
    | normal => exact fun h => vc_mono y h hq
    | exit i => exact hq _ _
    | ret => exact hq _ _
    | goto l => exact hq _ _
  | .cond c x y, Q, Q', S, h, hq => by
    unfold vc at h ⊢
    split at h
    · exact vc_mono x h hq
    · exact vc_mono y h hq
    · exact ⟨fun hc => vc_mono x (h.t hc) hq, fun hc => vc_mono y (h.f hc) hq⟩
    · cases h
  | .block id c, Q, Q', S, h, hq => vc_mono c (S := S) h fun e S => by
    cases e with
    | normal => exact hq _ _
    | exit i =>
      simp only [blkQ]
      cases (i == id) with
      | true => exact hq _ _
      | false => exact hq _ _
    | ret => exact hq _ _
    | goto l => exact hq _ _
  | .loop c, Q, Q', S, h, hq => ⟨AWp.mono h.out hq⟩
  | .exit id, Q, Q', S, h, hq => hq _ _ h
  | .ret, Q, Q', S, h, hq => hq _ _ h
  | .label l, Q, Q', S, h, hq => hq _ _ h
  | .rangeFunc _ _ _ _, _, _, _, h, _ => by cases h
  | .scope c, Q, Q', S, h, hq => ⟨AWp.mono h.out hq⟩
  | .goto l, Q, Q', S, h, hq => hq _ _ h
  | .refuse _, _, _, _, h, _ => by cases h
end
end Go.Proofs.Ythogfineaeklpaa.M
/- The types of this program, as a table. -/
namespace Go.Proofs.Ythogfineaeklpaa.M
open Go.RowKit Abs
set_option linter.unusedVariables false
def tree : TT :=
  .node 66 ⟨.other, 1, false, none⟩
  (.node 31 ⟨.other, 1, false, none⟩
  (.node 15 ⟨.other, 1, false, none⟩
  (.node 8 ⟨.struct [(0, 2), (1, 3), (2, 4), (3, 6)], 4, true, none⟩
  (.node 4 ⟨.bool, 1, false, some .bool⟩
  (.node 2 ⟨.int .i64, 1, false, some .int⟩
  (.node 1 ⟨.other, 1, false, none⟩
  (.leaf)
  (.leaf))
  (.node 3 ⟨.int .i64, 1, false, some .int⟩
  (.leaf)
  (.leaf)))
  (.node 6 ⟨.int .u8, 1, false, none⟩
  (.node 5 ⟨.int .u8, 1, false, none⟩
  (.leaf)
  (.leaf))
  (.node 7 ⟨.struct [(0, 2), (1, 3), (2, 4), (3, 6)], 4, true, none⟩
  (.leaf)
  (.leaf))))
  (.node 12 ⟨.int .u64, 1, false, some .u64⟩
  (.node 10 ⟨.string, 1, false, some .str⟩
  (.node 9 ⟨.string, 1, false, some .str⟩
  (.leaf)
  (.leaf))
  (.node 11 ⟨.string, 1, false, some .str⟩
  (.leaf)
  (.leaf)))
  (.node 14 ⟨.struct [(0, 9), (1, 12)], 2, true, some (.pr .str .u64)⟩
  (.node 13 ⟨.struct [(0, 9), (1, 12)], 2, true, some (.pr .str .u64)⟩
  (.leaf)
  (.leaf))
  (.leaf))))
  (.node 23 ⟨.struct [(0, 3), (1, 22)], 2, true, some (.pr .int (.sl (.pr .int .int)))⟩
  (.node 19 ⟨.struct [(0, 17)], 1, true, none⟩
  (.node 17 ⟨.other, 1, false, none⟩
  (.node 16 ⟨.other, 1, false, none⟩
  (.leaf)
  (.leaf))
  (.node 18 ⟨.struct [(0, 17)], 1, true, none⟩
  (.leaf)
  (.leaf)))
  (.node 21 ⟨.int .i32, 1, false, none⟩
  (.node 20 ⟨.other, 1, false, none⟩
  (.leaf)
  (.leaf))
  (.node 22 ⟨.slice 70, 1, false, some (.sl (.pr .int .int))⟩
  (.leaf)
  (.leaf))))
  (.node 28 ⟨.other, 1, false, none⟩
  (.node 25 ⟨.slice 3, 1, false, some (.sl .int)⟩
  (.node 24 ⟨.struct [(0, 3), (1, 22)], 2, true, some (.pr .int (.sl (.pr .int .int)))⟩
  (.leaf)
  (.leaf))
  (.node 26 ⟨.other, 1, false, none⟩
  (.leaf)
  (.leaf)))
  (.node 30 ⟨.other, 1, false, none⟩
  (.node 29 ⟨.struct [(0, 3), (1, 22)], 2, true, some (.pr .int (.sl (.pr .int .int)))⟩
  (.leaf)
  (.leaf))
  (.leaf)))))
  (.node 49 ⟨.other, 1, false, none⟩
  (.node 40 ⟨.other, 1, false, none⟩
  (.node 35 ⟨.other, 1, false, none⟩
  (.node 33 ⟨.other, 1, false, none⟩
  (.node 32 ⟨.other, 1, false, none⟩
  (.leaf)
  (.leaf))
  (.node 34 ⟨.other, 1, false, none⟩
  (.leaf)
  (.leaf)))
  (.node 38 ⟨.other, 1, false, none⟩
  (.node 36 ⟨.other, 1, false, none⟩
  (.leaf)
  (.leaf))
  (.node 39 ⟨.other, 1, false, none⟩
  (.leaf)
  (.leaf))))
  (.node 46 ⟨.other, 1, false, none⟩
  (.node 43 ⟨.other, 1, false, none⟩
  (.node 42 ⟨.other, 1, false, none⟩
  (.leaf)
  (.leaf))
  (.node 44 ⟨.other, 1, false, none⟩
  (.leaf)
  (.leaf)))
  (.node 48 ⟨.other, 1, false, none⟩
  (.node 47 ⟨.other, 1, false, none⟩
  (.leaf)
  (.leaf))
  (.leaf))))
  (.node 57 ⟨.struct [(0, 3), (1, 56)], 2, true, some (.pr .int (.sl .u64))⟩
  (.node 53 ⟨.other, 1, false, none⟩
  (.node 51 ⟨.other, 1, false, none⟩
  (.node 50 ⟨.other, 1, false, none⟩
  (.leaf)
  (.leaf))
  (.node 52 ⟨.other, 1, false, none⟩
  (.leaf)
  (.leaf)))
  (.node 55 ⟨.other, 1, false, none⟩
  (.node 54 ⟨.other, 1, false, none⟩
  (.leaf)
  (.leaf))
  (.node 56 ⟨.slice 63, 1, false, some (.sl .u64)⟩
  (.leaf)
  (.leaf))))
  (.node 62 ⟨.int .u64, 1, false, some .u64⟩
  (.node 60 ⟨.other, 1, false, none⟩
  (.node 58 ⟨.struct [(0, 3), (1, 56)], 2, true, some (.pr .int (.sl .u64))⟩
  (.leaf)
  (.leaf))
  (.node 61 ⟨.other, 1, false, none⟩
  (.leaf)
  (.leaf)))
  (.node 64 ⟨.other, 1, false, none⟩
  (.node 63 ⟨.int .u64, 1, false, some .u64⟩
  (.leaf)
  (.leaf))
  (.leaf))))))
  (.node 100 ⟨.other, 1, false, none⟩
  (.node 82 ⟨.array 8 3, 8, true, some (.ar 7 .int)⟩
  (.node 74 ⟨.other, 1, false, none⟩
  (.node 70 ⟨.array 2 3, 2, true, some (.pr .int .int)⟩
  (.node 68 ⟨.other, 1, false, none⟩
  (.node 67 ⟨.other, 1, false, none⟩
  (.leaf)
  (.leaf))
  (.node 69 ⟨.other, 1, false, none⟩
  (.leaf)
  (.leaf)))
  (.node 72 ⟨.other, 1, false, none⟩
  (.node 71 ⟨.other, 1, false, none⟩
  (.leaf)
  (.leaf))
  (.node 73 ⟨.other, 1, false, none⟩
  (.leaf)
  (.leaf))))
  (.node 79 ⟨.other, 1, false, none⟩
  (.node 76 ⟨.struct [(0, 75), (1, 3)], 2, true, some (.pr (.sl (.sl .int)) .int)⟩
  (.node 75 ⟨.slice 25, 1, false, some (.sl (.sl .int))⟩
  (.leaf)
  (.leaf))
  (.node 77 ⟨.struct [(0, 75), (1, 3)], 2, true, some (.pr (.sl (.sl .int)) .int)⟩
  (.leaf)
  (.leaf)))
  (.node 81 ⟨.array 8 3, 8, true, some (.ar 7 .int)⟩
  (.node 80 ⟨.other, 1, false, none⟩
  (.leaf)
  (.leaf))
  (.leaf))))
  (.node 93 ⟨.other, 1, false, none⟩
  (.node 88 ⟨.other, 1, false, none⟩
  (.node 85 ⟨.other, 1, false, none⟩
  (.node 84 ⟨.other, 1, false, none⟩
  (.leaf)
  (.leaf))
  (.node 87 ⟨.other, 1, false, none⟩
  (.leaf)
  (.leaf)))
  (.node 91 ⟨.other, 1, false, none⟩
  (.node 90 ⟨.other, 1, false, none⟩
  (.leaf)
  (.leaf))
  (.node 92 ⟨.other, 1, false, none⟩
  (.leaf)
  (.leaf))))
  (.node 97 ⟨.other, 1, false, none⟩
  (.node 95 ⟨.other, 1, false, none⟩
  (.node 94 ⟨.other, 1, false, none⟩
  (.leaf)
  (.leaf))
  (.node 96 ⟨.other, 1, false, none⟩
  (.leaf)
  (.leaf)))
  (.node 99 ⟨.other, 1, false, none⟩
  (.node 98 ⟨.other, 1, false, none⟩
  (.leaf)
  (.leaf))
  (.leaf)))))
  (.node 118 ⟨.other, 1, false, none⟩
  (.node 108 ⟨.other, 1, false, none⟩
  (.node 104 ⟨.other, 1, false, none⟩
  (.node 102 ⟨.other, 1, false, none⟩
  (.node 101 ⟨.other, 1, false, none⟩
  (.leaf)
  (.leaf))
  (.node 103 ⟨.other, 1, false, none⟩
  (.leaf)
  (.leaf)))
  (.node 106 ⟨.other, 1, false, none⟩
  (.node 105 ⟨.other, 1, false, none⟩
  (.leaf)
  (.leaf))
  (.node 107 ⟨.other, 1, false, none⟩
  (.leaf)
  (.leaf))))
  (.node 112 ⟨.other, 1, false, none⟩
  (.node 110 ⟨.other, 1, false, none⟩
  (.node 109 ⟨.other, 1, false, none⟩
  (.leaf)
  (.leaf))
  (.node 111 ⟨.other, 1, false, none⟩
  (.leaf)
  (.leaf)))
  (.node 114 ⟨.struct [(0, 17), (1, 17), (2, 17), (3, 9)], 4, true, none⟩
  (.node 113 ⟨.struct [(0, 17), (1, 17), (2, 17), (3, 9)], 4, true, none⟩
  (.leaf)
  (.leaf))
  (.leaf))))
  (.node 125 ⟨.int .i32, 1, false, none⟩
  (.node 122 ⟨.other, 1, false, none⟩
  (.node 120 ⟨.int .u8, 1, false, none⟩
  (.node 119 ⟨.int .u32, 1, false, none⟩
  (.leaf)
  (.leaf))
  (.node 121 ⟨.int .u8, 1, false, none⟩
  (.leaf)
  (.leaf)))
  (.node 124 ⟨.int .i32, 1, false, none⟩
  (.node 123 ⟨.other, 1, false, none⟩
  (.leaf)
  (.leaf))
  (.leaf)))
  (.node 130 ⟨.other, 1, false, none⟩
  (.node 127 ⟨.struct [(0, 12), (1, 12), (2, 119), (3, 120), (4, 5), (5, 5), (6, 121), (7, 122), (8, 123), (9, 124), (10, 125)], 11, true, none⟩
  (.node 126 ⟨.struct [(0, 12), (1, 12), (2, 119), (3, 120), (4, 5), (5, 5), (6, 121), (7, 122), (8, 123), (9, 124), (10, 125)], 11, true, none⟩
  (.leaf)
  (.leaf))
  (.node 128 ⟨.other, 1, false, none⟩
  (.leaf)
  (.leaf)))
  (.node 132 ⟨.other, 1, false, none⟩
  (.node 131 ⟨.other, 1, false, none⟩
  (.leaf)
  (.leaf))
  (.leaf))))))
def tab (t : TypeId) : TI :=
  if t < 66 then (if t < 31 then (if t < 15 then (if t < 8 then (if t < 4 then (if t < 2 then (if t < 1 then (⟨.other, 0, false, none⟩) else if t = 1 then ⟨.other, 1, false, none⟩ else (⟨.other, 0, false, none⟩)) else if t = 2 then ⟨.int .i64, 1, false, some .int⟩ else (if t < 3 then (⟨.other, 0, false, none⟩) else if t = 3 then ⟨.int .i64, 1, false, some .int⟩ else (⟨.other, 0, false, none⟩))) else if t = 4 then ⟨.bool, 1, false, some .bool⟩ else (if t < 6 then (if t < 5 then (⟨.other, 0, false, none⟩) else if t = 5 then ⟨.int .u8, 1, false, none⟩ else (⟨.other, 0, false, none⟩)) else if t = 6 then ⟨.int .u8, 1, false, none⟩ else (if t < 7 then (⟨.other, 0, false, none⟩) else if t = 7 then ⟨.struct [(0, 2), (1, 3), (2, 4), (3, 6)], 4, true, none⟩ else (⟨.other, 0, false, none⟩)))) else if t = 8 then ⟨.struct [(0, 2), (1, 3), (2, 4), (3, 6)], 4, true, none⟩ else (if t < 12 then (if t < 10 then (if t < 9 then (⟨.other, 0, false, none⟩) else if t = 9 then ⟨.string, 1, false, some .str⟩ else (⟨.other, 0, false, none⟩)) else if t = 10 then ⟨.string, 1, false, some .str⟩ else (if t < 11 then (⟨.other, 0, false, none⟩) else if t = 11 then ⟨.string, 1, false, some .str⟩ else (⟨.other, 0, false, none⟩))) else if t = 12 then ⟨.int .u64, 1, false, some .u64⟩ else (if t < 14 then (if t < 13 then (⟨.other, 0, false, none⟩) else if t = 13 then ⟨.struct [(0, 9), (1, 12)], 2, true, some (.pr .str .u64)⟩ else (⟨.other, 0, false, none⟩)) else if t = 14 then ⟨.struct [(0, 9), (1, 12)], 2, true, some (.pr .str .u64)⟩ else (⟨.other, 0, false, none⟩)))) else if t = 15 then ⟨.other, 1, false, none⟩ else (if t < 23 then (if t < 19 then (if t < 17 then (if t < 16 then (⟨.other, 0, false, none⟩) else if t = 16 then ⟨.other, 1, false, none⟩ else (⟨.other, 0, false, none⟩)) else if t = 17 then ⟨.other, 1, false, none⟩ else (if t < 18 then (⟨.other, 0, false, none⟩) else if t = 18 then ⟨.struct [(0, 17)], 1, true, none⟩ else (⟨.other, 0, false, none⟩))) else if t = 19 then ⟨.struct [(0, 17)], 1, true, none⟩ else (if t < 21 then (if t < 20 then (⟨.other, 0, false, none⟩) else if t = 20 then ⟨.other, 1, false, none⟩ else (⟨.other, 0, false, none⟩)) else if t = 21 then ⟨.int .i32, 1, false, none⟩ else (if t < 22 then (⟨.other, 0, false, none⟩) else if t = 22 then ⟨.slice 70, 1, false, some (.sl (.pr .int .int))⟩ else (⟨.other, 0, false, none⟩)))) else if t = 23 then ⟨.struct [(0, 3), (1, 22)], 2, true, some (.pr .int (.sl (.pr .int .int)))⟩ else (if t < 28 then (if t < 25 then (if t < 24 then (⟨.other, 0, false, none⟩) else if t = 24 then ⟨.struct [(0, 3), (1, 22)], 2, true, some (.pr .int (.sl (.pr .int .int)))⟩ else (⟨.other, 0, false, none⟩)) else if t = 25 then ⟨.slice 3, 1, false, some (.sl .int)⟩ else (if t < 26 then (⟨.other, 0, false, none⟩) else if t = 26 then ⟨.other, 1, false, none⟩ else (⟨.other, 0, false, none⟩))) else if t = 28 then ⟨.other, 1, false, none⟩ else (if t < 30 then (if t < 29 then (⟨.other, 0, false, none⟩) else if t = 29 then ⟨.struct [(0, 3), (1, 22)], 2, true, some (.pr .int (.sl (.pr .int .int)))⟩ else (⟨.other, 0, false, none⟩)) else if t = 30 then ⟨.other, 1, false, none⟩ else (⟨.other, 0, false, none⟩))))) else if t = 31 then ⟨.other, 1, false, none⟩ else (if t < 49 then (if t < 40 then (if t < 35 then (if t < 33 then (if t < 32 then (⟨.other, 0, false, none⟩) else if t = 32 then ⟨.other, 1, false, none⟩ else (⟨.other, 0, false, none⟩)) else if t = 33 then ⟨.other, 1, false, none⟩ else (if t < 34 then (⟨.other, 0, false, none⟩) else if t = 34 then ⟨.other, 1, false, none⟩ else (⟨.other, 0, false, none⟩))) else if t = 35 then ⟨.other, 1, false, none⟩ else (if t < 38 then (if t < 36 then (⟨.other, 0, false, none⟩) else if t = 36 then ⟨.other, 1, false, none⟩ else (⟨.other, 0, false, none⟩)) else if t = 38 then ⟨.other, 1, false, none⟩ else (if t < 39 then (⟨.other, 0, false, none⟩) else if t = 39 then ⟨.other, 1, false, none⟩ else (⟨.other, 0, false, none⟩)))) else if t = 40 then ⟨.other, 1, false, none⟩ else (if t < 46 then (if t < 43 then (if t < 42 then (⟨.other, 0, false, none⟩) else if t = 42 then ⟨.other, 1, false, none⟩ else (⟨.other, 0, false, none⟩)) else if t = 43 then ⟨.other, 1, false, none⟩ else (if t < 44 then (⟨.other, 0, false, none⟩) else if t = 44 then ⟨.other, 1, false, none⟩ else (⟨.other, 0, false, none⟩))) else if t = 46 then ⟨.other, 1, false, none⟩ else (if t < 48 then (if t < 47 then (⟨.other, 0, false, none⟩) else if t = 47 then ⟨.other, 1, false, none⟩ else (⟨.other, 0, false, none⟩)) else if t = 48 then ⟨.other, 1, false, none⟩ else (⟨.other, 0, false, none⟩)))) else if t = 49 then ⟨.other, 1, false, none⟩ else (if t < 57 then (if t < 53 then (if t < 51 then (if t < 50 then (⟨.other, 0, false, none⟩) else if t = 50 then ⟨.other, 1, false, none⟩ else (⟨.other, 0, false, none⟩)) else if t = 51 then ⟨.other, 1, false, none⟩ else (if t < 52 then (⟨.other, 0, false, none⟩) else if t = 52 then ⟨.other, 1, false, none⟩ else (⟨.other, 0, false, none⟩))) else if t = 53 then ⟨.other, 1, false, none⟩ else (if t < 55 then (if t < 54 then (⟨.other, 0, false, none⟩) else if t = 54 then ⟨.other, 1, false, none⟩ else (⟨.other, 0, false, none⟩)) else if t = 55 then ⟨.other, 1, false, none⟩ else (if t < 56 then (⟨.other, 0, false, none⟩) else if t = 56 then ⟨.slice 63, 1, false, some (.sl .u64)⟩ else (⟨.other, 0, false, none⟩)))) else if t = 57 then ⟨.struct [(0, 3), (1, 56)], 2, true, some (.pr .int (.sl .u64))⟩ else (if t < 62 then (if t < 60 then (if t < 58 then (⟨.other, 0, false, none⟩) else if t = 58 then ⟨.struct [(0, 3), (1, 56)], 2, true, some (.pr .int (.sl .u64))⟩ else (⟨.other, 0, false, none⟩)) else if t = 60 then ⟨.other, 1, false, none⟩ else (if t < 61 then (⟨.other, 0, false, none⟩) else if t = 61 then ⟨.other, 1, false, none⟩ else (⟨.other, 0, false, none⟩))) else if t = 62 then ⟨.int .u64, 1, false, some .u64⟩ else (if t < 64 then (if t < 63 then (⟨.other, 0, false, none⟩) else if t = 63 then ⟨.int .u64, 1, false, some .u64⟩ else (⟨.other, 0, false, none⟩)) else if t = 64 then ⟨.other, 1, false, none⟩ else (⟨.other, 0, false, none⟩)))))) else if t = 66 then ⟨.other, 1, false, none⟩ else (if t < 100 then (if t < 82 then (if t < 74 then (if t < 70 then (if t < 68 then (if t < 67 then (⟨.other, 0, false, none⟩) else if t = 67 then ⟨.other, 1, false, none⟩ else (⟨.other, 0, false, none⟩)) else if t = 68 then ⟨.other, 1, false, none⟩ else (if t < 69 then (⟨.other, 0, false, none⟩) else if t = 69 then ⟨.other, 1, false, none⟩ else (⟨.other, 0, false, none⟩))) else if t = 70 then ⟨.array 2 3, 2, true, some (.pr .int .int)⟩ else (if t < 72 then (if t < 71 then (⟨.other, 0, false, none⟩) else if t = 71 then ⟨.other, 1, false, none⟩ else (⟨.other, 0, false, none⟩)) else if t = 72 then ⟨.other, 1, false, none⟩ else (if t < 73 then (⟨.other, 0, false, none⟩) else if t = 73 then ⟨.other, 1, false, none⟩ else (⟨.other, 0, false, none⟩)))) else if t = 74 then ⟨.other, 1, false, none⟩ else (if t < 79 then (if t < 76 then (if t < 75 then (⟨.other, 0, false, none⟩) else if t = 75 then ⟨.slice 25, 1, false, some (.sl (.sl .int))⟩ else (⟨.other, 0, false, none⟩)) else if t = 76 then ⟨.struct [(0, 75), (1, 3)], 2, true, some (.pr (.sl (.sl .int)) .int)⟩ else (if t < 77 then (⟨.other, 0, false, none⟩) else if t = 77 then ⟨.struct [(0, 75), (1, 3)], 2, true, some (.pr (.sl (.sl .int)) .int)⟩ else (⟨.other, 0, false, none⟩))) else if t = 79 then ⟨.other, 1, false, none⟩ else (if t < 81 then (if t < 80 then (⟨.other, 0, false, none⟩) else if t = 80 then ⟨.other, 1, false, none⟩ else (⟨.other, 0, false, none⟩)) else if t = 81 then ⟨.array 8 3, 8, true, some (.ar 7 .int)⟩ else (⟨.other, 0, false, none⟩)))) else if t = 82 then ⟨.array 8 3, 8, true, some (.ar 7 .int)⟩ else (if t < 93 then (if t < 88 then (if t < 85 then (if t < 84 then (⟨.other, 0, false, none⟩) else if t = 84 then ⟨.other, 1, false, none⟩ else (⟨.other, 0, false, none⟩)) else if t = 85 then ⟨.other, 1, false, none⟩ else (if t < 87 then (⟨.other, 0, false, none⟩) else if t = 87 then ⟨.other, 1, false, none⟩ else (⟨.other, 0, false, none⟩))) else if t = 88 then ⟨.other, 1, false, none⟩ else (if t < 91 then (if t < 90 then (⟨.other, 0, false, none⟩) else if t = 90 then ⟨.other, 1, false, none⟩ else (⟨.other, 0, false, none⟩)) else if t = 91 then ⟨.other, 1, false, none⟩ else (if t < 92 then (⟨.other, 0, false, none⟩) else if t = 92 then ⟨.other, 1, false, none⟩ else (⟨.other, 0, false, none⟩)))) else if t = 93 then ⟨.other, 1, false, none⟩ else (if t < 97 then (if t < 95 then (if t < 94 then (⟨.other, 0, false, none⟩) else if t = 94 then ⟨.other, 1, false, none⟩ else (⟨.other, 0, false, none⟩)) else if t = 95 then ⟨.other, 1, false, none⟩ else (if t < 96 then (⟨.other, 0, false, none⟩) else if t = 96 then ⟨.other, 1, false, none⟩ else (⟨.other, 0, false, none⟩))) else if t = 97 then ⟨.other, 1, false, none⟩ else (if t < 99 then (if t < 98 then (⟨.other, 0, false, none⟩) else if t = 98 then ⟨.other, 1, false, none⟩ else (⟨.other, 0, false, none⟩)) else if t = 99 then ⟨.other, 1, false, none⟩ else (⟨.other, 0, false, none⟩))))) else if t = 100 then ⟨.other, 1, false, none⟩ else (if t < 118 then (if t < 108 then (if t < 104 then (if t < 102 then (if t < 101 then (⟨.other, 0, false, none⟩) else if t = 101 then ⟨.other, 1, false, none⟩ else (⟨.other, 0, false, none⟩)) else if t = 102 then ⟨.other, 1, false, none⟩ else (if t < 103 then (⟨.other, 0, false, none⟩) else if t = 103 then ⟨.other, 1, false, none⟩ else (⟨.other, 0, false, none⟩))) else if t = 104 then ⟨.other, 1, false, none⟩ else (if t < 106 then (if t < 105 then (⟨.other, 0, false, none⟩) else if t = 105 then ⟨.other, 1, false, none⟩ else (⟨.other, 0, false, none⟩)) else if t = 106 then ⟨.other, 1, false, none⟩ else (if t < 107 then (⟨.other, 0, false, none⟩) else if t = 107 then ⟨.other, 1, false, none⟩ else (⟨.other, 0, false, none⟩)))) else if t = 108 then ⟨.other, 1, false, none⟩ else (if t < 112 then (if t < 110 then (if t < 109 then (⟨.other, 0, false, none⟩) else if t = 109 then ⟨.other, 1, false, none⟩ else (⟨.other, 0, false, none⟩)) else if t = 110 then ⟨.other, 1, false, none⟩ else (if t < 111 then (⟨.other, 0, false, none⟩) else if t = 111 then ⟨.other, 1, false, none⟩ else (⟨.other, 0, false, none⟩))) else if t = 112 then ⟨.other, 1, false, none⟩ else (if t < 114 then (if t < 113 then (⟨.other, 0, false, none⟩) else if t = 113 then ⟨.struct [(0, 17), (1, 17), (2, 17), (3, 9)], 4, true, none⟩ else (⟨.other, 0, false, none⟩)) else if t = 114 then ⟨.struct [(0, 17), (1, 17), (2, 17), (3, 9)], 4, true, none⟩ else (⟨.other, 0, false, none⟩)))) else if t = 118 then ⟨.other, 1, false, none⟩ else (if t < 125 then (if t < 122 then (if t < 120 then (if t < 119 then (⟨.other, 0, false, none⟩) else if t = 119 then ⟨.int .u32, 1, false, none⟩ else (⟨.other, 0, false, none⟩)) else if t = 120 then ⟨.int .u8, 1, false, none⟩ else (if t < 121 then (⟨.other, 0, false, none⟩) else if t = 121 then ⟨.int .u8, 1, false, none⟩ else (⟨.other, 0, false, none⟩))) else if t = 122 then ⟨.other, 1, false, none⟩ else (if t < 124 then (if t < 123 then (⟨.other, 0, false, none⟩) else if t = 123 then ⟨.other, 1, false, none⟩ else (⟨.other, 0, false, none⟩)) else if t = 124 then ⟨.int .i32, 1, false, none⟩ else (⟨.other, 0, false, none⟩))) else if t = 125 then ⟨.int .i32, 1, false, none⟩ else (if t < 130 then (if t < 127 then (if t < 126 then (⟨.other, 0, false, none⟩) else if t = 126 then ⟨.struct [(0, 12), (1, 12), (2, 119), (3, 120), (4, 5), (5, 5), (6, 121), (7, 122), (8, 123), (9, 124), (10, 125)], 11, true, none⟩ else (⟨.other, 0, false, none⟩)) else if t = 127 then ⟨.struct [(0, 12), (1, 12), (2, 119), (3, 120), (4, 5), (5, 5), (6, 121), (7, 122), (8, 123), (9, 124), (10, 125)], 11, true, none⟩ else (if t < 128 then (⟨.other, 0, false, none⟩) else if t = 128 then ⟨.other, 1, false, none⟩ else (⟨.other, 0, false, none⟩))) else if t = 130 then ⟨.other, 1, false, none⟩ else (if t < 132 then (if t < 131 then (⟨.other, 0, false, none⟩) else if t = 131 then ⟨.other, 1, false, none⟩ else (⟨.other, 0, false, none⟩)) else if t = 132 then ⟨.other, 1, false, none⟩ else (⟨.other, 0, false, none⟩))))))
theorem tab_eq : tab = tlt tree := by funext t; rfl
theorem tabOk : TOk Try.prog tab := by rw [tab_eq]; exact tab_ok (by kernel_rfl)
theorem mixed : Try.prog.follows .mixedOrders = true := by kernel_rfl
theorem fnS {f : FuncId} {fn : Func} {c : Code} {args : List AV} {pre : Hp} {res : List AV} {post : Hp} (ρ : List Nat) (ts : List Tmp)
    (hf : Try.prog.funcs[f]? = some fn) (hb : fn.body = some c) (hname : (fn.name != "runtime.NumGoroutine") = true) (hres : fn.results = (ts.map .tmp).toArray) (hl3 : ts.length ≤ 3) (hdr : drawB c = true) (hok : okB pre.length ρ res post = true) (hnt : args.length ≤ fn.ntmps)
    (h : vc (fun _ => Try.prog) (fun _ => tab) c (endP pre.length ρ ts res post) ⟨args ++ List.replicate (fn.ntmps - args.length) .undef, pre, pre.length⟩) : Spec2 Try.prog f args pre res post :=
  Spec2.of (P := fun _ => Try.prog) (T := fun _ => tab) tabOk mixed ρ ts hf hb hname hres hl3 hdr hok hnt h
theorem vcMono {P : Unit → Program} {T : Unit → Tab} {c : Code} {K K' : AS → Prop} {Q : AX → AS → Prop} {S : AS} (h : vc P T c (seqQ K Q) S) (hk : ∀ S, K S → K' S) : vc P T c (seqQ K' Q) S := vc_mono c h fun e S => by
  cases e with
  | normal => exact hk S
  | exit i => exact id
  | ret => exact id
  | goto l => exact id
theorem loop1 {S : AS} {Q : AX → AS → Prop} {c : Code} (hb : drawB c = true) {X1 : Type} (inv : X1 → Prop) (st : X1 → AS) (m : X1 → Nat) (a1 : X1) (h0 : inv a1) (hw : weakD S (st a1))
    (round : ∀ x1, inv x1 → vc (fun _ => Try.prog) (fun _ => tab) c (seqQ (fun S' => ∃ y1, inv y1 ∧ m y1 < m x1 ∧ weakD S' (st y1)) Q) (st x1)) : LoopL (fun _ => Try.prog) (fun _ => tab) c Q S :=
  LoopL.intro (P := fun _ => Try.prog) (T := fun _ => tab) tabOk mixed hb (X := { p : X1 // inv p }) (fun p => st p.1) (fun p => m p.1) ⟨a1, h0⟩ hw fun ⟨p, hp⟩ =>
    vcMono (round p hp) fun S' ⟨y1, h1, h2, h3⟩ => ⟨⟨y1, h1⟩, h2, h3⟩
theorem loop2 {S : AS} {Q : AX → AS → Prop} {c : Code} (hb : drawB c = true) {X1 X2 : Type} (inv : X1 → X2 → Prop) (st : X1 → X2 → AS) (m : X1 → X2 → Nat) (a1 : X1) (a2 : X2) (h0 : inv a1 a2) (hw : weakD S (st a1 a2))
    (round : ∀ x1 x2, inv x1 x2 → vc (fun _ => Try.prog) (fun _ => tab) c (seqQ (fun S' => ∃ y1 y2, inv y1 y2 ∧ m y1 y2 < m x1 x2 ∧ weakD S' (st y1 y2)) Q) (st x1 x2)) : LoopL (fun _ => Try.prog) (fun _ => tab) c Q S :=
  LoopL.intro (P := fun _ => Try.prog) (T := fun _ => tab) tabOk mixed hb (X := { p : X1 × X2 // inv p.1 p.2 }) (fun p => st p.1.1 p.1.2) (fun p => m p.1.1 p.1.2) ⟨⟨a1, a2⟩, h0⟩ hw fun ⟨p, hp⟩ =>
    vcMono (round p.1 p.2 hp) fun S' ⟨y1, y2, h1, h2, h3⟩ => ⟨⟨⟨y1, y2⟩, h1⟩, h2, h3⟩
theorem loop3 {S : AS} {Q : AX → AS → Prop} {c : Code} (hb : drawB c = true) {X1 X2 X3 : Type} (inv : X1 → X2 → X3 → Prop) (st : X1 → X2 → X3 → AS) (m : X1 → X2 → X3 → Nat) (a1 : X1) (a2 : X2) (a3 : X3) (h0 : inv a1 a2 a3) (hw : weakD S (st a1 a2 a3))
    (round : ∀ x1 x2 x3, inv x1 x2 x3 → vc (fun _ => Try.prog) (fun _ => tab) c (seqQ (fun S' => ∃ y1 y2 y3, inv y1 y2 y3 ∧ m y1 y2 y3 < m x1 x2 x3 ∧ weakD S' (st y1 y2 y3)) Q) (st x1 x2 x3)) : LoopL (fun _ => Try.prog) (fun _ => tab) c Q S :=
  LoopL.intro (P := fun _ => Try.prog) (T := fun _ => tab) tabOk mixed hb (X := { p : X1 × X2 × X3 // inv p.1 p.2.1 p.2.2 }) (fun p => st p.1.1 p.1.2.1 p.1.2.2) (fun p => m p.1.1 p.1.2.1 p.1.2.2) ⟨⟨a1, a2, a3⟩, h0⟩ hw fun ⟨p, hp⟩ =>
    vcMono (round p.1 p.2.1 p.2.2 hp) fun S' ⟨y1, y2, y3, h1, h2, h3⟩ => ⟨⟨⟨y1, y2, y3⟩, h1⟩, h2, h3⟩
theorem loop4 {S : AS} {Q : AX → AS → Prop} {c : Code} (hb : drawB c = true) {X1 X2 X3 X4 : Type} (inv : X1 → X2 → X3 → X4 → Prop) (st : X1 → X2 → X3 → X4 → AS) (m : X1 → X2 → X3 → X4 → Nat) (a1 : X1) (a2 : X2) (a3 : X3) (a4 : X4) (h0 : inv a1 a2 a3 a4) (hw : weakD S (st a1 a2 a3 a4))
    (round : ∀ x1 x2 x3 x4, inv x1 x2 x3 x4 → vc (fun _ => Try.prog) (fun _ => tab) c (seqQ (fun S' => ∃ y1 y2 y3 y4, inv y1 y2 y3 y4 ∧ m y1 y2 y3 y4 < m x1 x2 x3 x4 ∧ weakD S' (st y1 y2 y3 y4)) Q) (st x1 x2 x3 x4)) : LoopL (fun _ => Try.prog) (fun _ => tab) c Q S :=
  LoopL.intro (P := fun _ => Try.prog) (T := fun _ => tab) tabOk mixed hb (X := { p : X1 × X2 × X3 × X4 // inv p.1 p.2.1 p.2.2.1 p.2.2.2 }) (fun p => st p.1.1 p.1.2.1 p.1.2.2.1 p.1.2.2.2) (fun p => m p.1.1 p.1.2.1 p.1.2.2.1 p.1.2.2.2) ⟨⟨a1, a2, a3, a4⟩, h0⟩ hw fun ⟨p, hp⟩ =>
    vcMono (round p.1 p.2.1 p.2.2.1 p.2.2.2 hp) fun S' ⟨y1, y2, y3, y4, h1, h2, h3⟩ => ⟨⟨⟨y1, y2, y3, y4⟩, h1⟩, h2, h3⟩
theorem loop5 {S : AS} {Q : AX → AS → Prop} {c : Code} (hb : drawB c = true) {X1 X2 X3 X4 X5 : Type} (inv : X1 → X2 → X3 → X4 → X5 → Prop) (st : X1 → X2 → X3 → X4 → X5 → AS) (m : X1 → X2 → X3 → X4 → X5 → Nat) (a1 : X1) (a2 : X2) (a3 : X3) (a4 : X4) (a5 : X5) (h0 : inv a1 a2 a3 a4 a5) (hw : weakD S (st a1 a2 a3 a4 a5))
    (round : ∀ x1 x2 x3 x4 x5, inv x1 x2 x3 x4 x5 → vc (fun _ => Try.prog) (fun _ => tab) c (seqQ (fun S' => ∃ y1 y2 y3 y4 y5, inv y1 y2 y3 y4 y5 ∧ m y1 y2 y3 y4 y5 < m x1 x2 x3 x4 x5 ∧ weakD S' (st y1 y2 y3 y4 y5)) Q) (st x1 x2 x3 x4 x5)) : LoopL (fun _ => Try.prog) (fun _ => tab) c Q S :=
  LoopL.intro (P := fun _ => Try.prog) (T := fun _ => tab) tabOk mixed hb (X := { p : X1 × X2 × X3 × X4 × X5 // inv p.1 p.2.1 p.2.2.1 p.2.2.2.1 p.2.2.2.2 }) (fun p => st p.1.1 p.1.2.1 p.1.2.2.1 p.1.2.2.2.1 p.1.2.2.2.2) (fun p => m p.1.1 p.1.2.1 p.1.2.2.1 p.1.2.2.2.1 p.1.2.2.2.2) ⟨⟨a1, a2, a3, a4, a5⟩, h0⟩ hw fun ⟨p, hp⟩ =>
    vcMono (round p.1 p.2.1 p.2.2.1 p.2.2.2.1 p.2.2.2.2 hp) fun S' ⟨y1, y2, y3, y4, y5, h1, h2, h3⟩ => ⟨⟨⟨y1, y2, y3, y4, y5⟩, h1⟩, h2, h3⟩
theorem IfP_iff {b : Unit → Bool} {p q : Prop} : IfP b p q ↔ (b () = true → p) ∧ (b () = false → q) := ⟨fun h => ⟨h.t, h.f⟩, fun h => ⟨h.1, h.2⟩⟩
theorem EqU_iff {α : Type} {x y : Unit → α} : EqU x y ↔ x () = y () := ⟨fun h => h.out, fun h => ⟨h⟩⟩
theorem Obl_iff {p : Unit → Prop} : Obl p ↔ p () := ⟨fun h => h.out, fun h => ⟨h⟩⟩
/-- A state out of what is known. -/
def mkG : Nat → Nat → List (Nat × AV) → List AV
  | 0, _, _ => []
  | n + 1, i, [] => .junk :: mkG n (i + 1) []
  | n + 1, i, x :: r => if x.1 = i then x.2 :: mkG n (i + 1) r else .junk :: mkG n (i + 1) (x :: r)
def mkT (n : Nat) (l : List (Nat × AV)) : List AV := mkG n 0 l
end Go.Proofs.Ythogfineaeklpaa.M
/- Calls whose arguments are only looked at; law-side conversions. -/
namespace Go.Proofs.Ythogfineaeklpaa.M
open Go.RowKit Abs
set_option linter.unusedVariables false
set_option linter.unusedSimpArgs false

theorem argVs_len {T : Tab} {H : Hp} : ∀ {ts : List TypeId} {xs : List AV}, (argVs T H ts xs).length = xs.length
  | ts, [] => by cases ts <;> simp [argVs]
  | [], x :: xs => by simp [argVs, argVs_len]
  | t :: ts, x :: xs => by simp [argVs, argVs_len]
theorem argsM_self {σ : List Nat} : ∀ {xs us : List AV}, us.length = xs.length → argsM σ xs us us
  | [], [], _ => by simp [argsM]
  | x :: xs, u :: us, h => by simp only [argsM, true_or, true_and]; exact argsM_self (by simpa using h)
  | [], _ :: _, h => by simp at h
  | _ :: _, [], h => by simp at h
theorem dropC_nil {H : Hp} : dropC [] H = H := rfl
theorem call_pure {P : Unit → Program} {T : Unit → Tab} {S : AS} {ts : List TypeId} {f' : FuncId} {cap xs us res : List AV} {post : Hp} {K : AV → AS → Prop} (h : Spec2 (P ()) f' us [] res post)
    (he : argVs (T ()) S.H ts (xs ++ cap) = us) (hk : K (resA (rho [] S.H.length post.length) res) (S.after [] post)) : CallL P T S ts (.fn f' cap) xs us K :=
  ⟨.inl ⟨f', cap, [], us, [], res, post, ⟨rfl, rfl⟩, List.nodup_nil, h, by simp [preM], by rw [dropC_nil, he]; exact argsM_self (by rw [← he, argVs_len]), hk⟩⟩
theorem call_q {P : Unit → Program} {T : Unit → Tab} {S : AS} {ts : List TypeId} {f' : FuncId} {cap xs us res : List AV} {post : Hp} {K : AV → Prop} (h : Spec2 (P ()) f' us [] res post)
    (he : argVs (T ()) S.H ts (xs ++ cap) = us) (hk : K (frz post (res1 res))) : CallQ P T S ts (.fn f' cap) xs us K :=
  ⟨f', cap, us, res, post, ⟨rfl, rfl⟩, h, he, hk⟩
theorem at2_0 (p : Int × Int) : at2 p 0 = p.1 := rfl
theorem at2_1 (p : Int × Int) : at2 p 1 = p.2 := rfl
theorem len_pp (l : List (Int × Int)) : @List.length (Ty.den (.pr .int .int)) l = @List.length (Int × Int) l := rfl
theorem len_i (l : List Int) : @List.length (Ty.den .int) l = @List.length Int l := rfl
theorem len_sl (l : List (List Int)) : @List.length (Ty.den (.sl .int)) l = @List.length (List Int) l := rfl
theorem len_sm (l : List (List Int)) : @List.length (List (Ty.den .int)) l = @List.length (List Int) l := rfl
theorem argVs_app {T : Tab} {H : Hp} : ∀ {ts : List TypeId} {xs ys : List AV}, ts.length = xs.length → argVs T H ts (xs ++ ys) = argVs T H ts xs ++ argVs T H [] ys
  | [], [], ys, _ => by simp [argVs]
  | t :: ts, x :: xs, ys, h => by simp only [List.cons_append, argVs, argVs_app (ts := ts) (xs := xs) (ys := ys) (by simpa using h)]
  | [], _ :: _, _, h => by simp at h
  | _ :: _, [], _, h => by simp at h
/-- What a function that is handed over answers. -/
def Fn1 (P : Program) (T : Tab) (f : FuncId) (c : Unit → CapR) (xs : List AV) (r : List AV) : Prop :=
  ∃ cap, c () = ofCaps cap ∧ (∀ H, argVs T H [] cap = cap) ∧ Spec2 P f (xs ++ cap) [] r []
theorem call_fn {P : Unit → Program} {T : Unit → Tab} {S : AS} {ts : List TypeId} {f' : FuncId} {c : Unit → CapR} {xs us ys res : List AV} {K : AV → AS → Prop} (h : Fn1 (P ()) (T ()) f' c ys res)
    (hl : ts.length = xs.length) (he : argVs (T ()) S.H ts xs = ys) (hk : K (resA (rho [] S.H.length 0) res) (S.after [] [])) : CallL P T S ts (.fnr f' c) xs us K := by
  obtain ⟨cap, h1, h2, h3⟩ := h
  exact ⟨.inl ⟨f', cap, [], ys ++ cap, [], res, [], ⟨rfl, h1⟩, List.nodup_nil, h3, by simp [preM], by rw [dropC_nil, argVs_app hl, he, h2]; exact argsM_self (by rw [← he, List.length_append, List.length_append, argVs_len]), hk⟩⟩
theorem call_fnq {P : Unit → Program} {T : Unit → Tab} {S : AS} {ts : List TypeId} {f' : FuncId} {c : Unit → CapR} {xs us ys res : List AV} {K : AV → Prop} (h : Fn1 (P ()) (T ()) f' c ys res)
    (hl : ts.length = xs.length) (he : argVs (T ()) S.H ts xs = ys) (hk : K (frz [] (res1 res))) : CallQ P T S ts (.fnr f' c) xs us K := by
  obtain ⟨cap, h1, h2, h3⟩ := h
  exact ⟨f', cap, ys ++ cap, res, [], ⟨rfl, h1⟩, h3, by rw [argVs_app hl, he, h2], hk⟩
/-- A function with values ahead of its arguments, as data. -/
def FnB (P : Program) (T : Tab) (f : FuncId) (c : Unit → CapR) (xs : List AV) (r : List AV) : Prop :=
  ∃ fst, c () = ofBound fst ∧ (∀ H, argVs T H [] fst = fst) ∧ Spec2 P f (fst ++ xs) [] r []
theorem argVs_app0 {T : Tab} {H : Hp} : ∀ {xs ys : List AV}, argVs T H [] (xs ++ ys) = argVs T H [] xs ++ argVs T H [] ys
  | [], ys => by simp [argVs]
  | x :: xs, ys => by simp [argVs, argVs_app0 (xs := xs)]
theorem call_fnB {P : Unit → Program} {T : Unit → Tab} {S : AS} {ts : List TypeId} {f' : FuncId} {c : Unit → CapR} {xs us ys res : List AV} {K : AV → AS → Prop} (h : FnB (P ()) (T ()) f' c ys res)
    (he : argVs (T ()) S.H [] xs = ys) (hk : K (resA (rho [] S.H.length 0) res) (S.after [] [])) : CallL P T S ts (.fnr f' c) xs us K := by
  obtain ⟨fst, h1, h2, h3⟩ := h
  exact ⟨.inr (.inl ⟨f', c, fst, fst ++ ys, res, rfl, h1, h3, by rw [dropC_nil, argVs_app0, h2, he]; exact argsM_self (by rw [← he, List.length_append, List.length_append, argVs_len]), hk⟩)⟩
/-- A call through an interface whose value is known. -/
theorem call_i {P : Unit → Program} {T : Unit → Tab} {S : AS} {ts : List TypeId} {t : TypeId} {c : Unit → CapR} {m : String} {X : AV} {f' : FuncId} {xs us res : List AV} {post : Hp} {K : AV → AS → Prop} (hm : methB (P ()) t m = some f') (ec : c () = ofBound [X]) (h : Spec2 (P ()) f' us [] res post)
    (he : argVs (T ()) S.H (t :: ts) (X :: xs) = us) (hk : K (resA (rho [] S.H.length post.length) res) (S.after [] post)) : CallI P T S ts (.ifr t c) m xs K :=
  ⟨t, c, X, f', [], us, [], res, post, rfl, ec, hm, List.nodup_nil, h, by simp [preM], by rw [dropC_nil, he]; exact argsM_self (by rw [← he, argVs_len]), hk⟩
theorem call_iq {P : Unit → Program} {T : Unit → Tab} {S : AS} {ts : List TypeId} {t : TypeId} {c : Unit → CapR} {m : String} {X : AV} {f' : FuncId} {xs us res : List AV} {post : Hp} {K : AV → Prop} (hm : methB (P ()) t m = some f') (ec : c () = ofBound [X]) (h : Spec2 (P ()) f' us [] res post)
    (he : argVs (T ()) S.H (t :: ts) (X :: xs) = us) (hk : K (frz post (res1 res))) : CallIQ P T S ts (.ifr t c) m xs K :=
  ⟨t, c, X, f', us, res, post, rfl, ec, hm, h, he, hk⟩
theorem loopK {S : AS} {Q : AX → AS → Prop} {c : Code} (hb : drawB c = true) {X : Type} (inv : X → Prop) (st : X → AS) (m : X → Nat) (nx : X → X) (a : X) (h0 : inv a) (hw : weakD S (st a))
    (round : ∀ x, inv x → vc (fun _ => Try.prog) (fun _ => tab) c (seqQ (fun S' => Obl (fun _ => inv (nx x) ∧ m (nx x) < m x) ∧ weakD S' (st (nx x))) Q) (st x)) : LoopL (fun _ => Try.prog) (fun _ => tab) c Q S :=
  loop1 hb inv st m a h0 hw fun x hx => vcMono (round x hx) fun S' h => ⟨nx x, h.1.out.1, h.1.out.2, h.2⟩
theorem inI_iff {x : Int} : inI x ↔ -9223372036854775808 ≤ x ∧ x ≤ 9223372036854775807 := by unfold inI; omega
theorem take_getI {t : Ty} {l : List t.den} {i : Int} (h0 : 0 ≤ i) (h1 : i < (l.length : Int)) : l.take (i + 1).toNat = l.take i.toNat ++ [getI t l i] := by
  have h2 : (i + 1).toNat = i.toNat + 1 := by omega
  rw [h2, List.take_add_one, getI_get h0 h1]
  rfl
theorem take_all {t : Type} {l : List t} {i : Int} (h1 : ¬ i < (l.length : Int)) : l.take i.toNat = l := List.take_of_length_le (by omega)
end Go.Proofs.Ythogfineaeklpaa.M
/- Between the two ways to say what a function answers, where all is data. -/
namespace Go.Proofs.Ythogfineaeklpaa.M
open Go.RowKit Abs
set_option linter.unusedVariables false
set_option linter.unusedSimpArgs false

def ofA : Abs.AV → AV
  | .int x => .int fun _ => x | .bool b => .bool fun _ => b | .str s => .str fun _ => s | .u8 x => .u8 fun _ => x | .u64 x => .u64 fun _ => x
  | .sl t l => .sl t fun _ => l | .agg t x => .agg t fun _ => x
  | _ => .junk
def isD : Abs.AV → Bool
  | .int _ | .bool _ | .str _ | .u8 _ | .u64 _ | .sl _ _ | .agg _ _ => true
  | _ => false
theorem ofA_arg {ok : Nat → Prop} {w : World} {N : Nat} {val : Nat → Bd} {x : Abs.AV} {v : Value} (hd : isD x = true) (h : VRel ok w N val (ofA x) v) : Abs.ArgRel w x v := by
  cases x <;> simp only [isD, Bool.false_eq_true] at hd <;> simp only [ofA, VRel] at h <;> simp only [Abs.ArgRel, Abs.VRel]
  case sl t l => exact Rep.weak (fun _ _ => trivial) h
  case agg t d => obtain ⟨cs, h1, h2⟩ := h; exact ⟨cs, h1, Rep.weak (fun _ _ => trivial) h2⟩
  all_goals exact h
theorem arg_ofA {ok : Nat → Prop} {w : World} {N : Nat} {val : Nat → Bd} (hk : ∀ b, ok b) {x : Abs.AV} {v : Value} (h : Abs.ArgRel w x v) : VRel ok w N val (ofA x) v := by
  cases x <;> simp only [Abs.ArgRel, Abs.VRel] at h <;> simp only [ofA, VRel]
  case sl t l => exact Rep.weak (fun _ _ => hk _) h
  case agg t d => obtain ⟨cs, h1, h2⟩ := h; exact ⟨cs, h1, Rep.weak (fun _ _ => hk _) h2⟩
  all_goals exact h
theorem toSpec {P : Program} {f : FuncId} {args : List Abs.AV} {res : AV} {t : Ty} {x : t.den} (h : Spec2 P f (args.map ofA) [] [res] []) (hr : ∀ (ok : Nat → Prop) w N val v, VRel NoB w N val res v → IRel ok w t x v) : Abs.Spec P f args [.im t x] := by
  refine ⟨h.1, fun w vs hl hv => ?_⟩
  have hH : HRel w (fun _ => default) ([] : Hp) := ⟨fun n B h => by simp at h, fun n B h => by simp at h, fun n m B C _ h => by simp at h⟩
  have hk : ∀ b, okF [] (fun _ => (default : Bd)) b := fun b n B h => by simp at h
  refine (h.2.2 w (fun _ => default) vs hH (VRelL.of (by simpa using hl) fun i y hy => ?_)).mono fun e w' ⟨v, val', he, hp⟩ => ?_
  · rw [List.getElem?_map] at hy
    obtain ⟨z, hz, rfl⟩ := Option.map_eq_some_iff.1 hy
    obtain ⟨u, hu, ha⟩ := hv i z hz
    exact ⟨u, hu, arg_ofA hk ha⟩
  · refine ⟨v, he, ⟨hp.fr.os, hp.fr.tape, hp.fr.output, hp.fr.size, fun b hb => hp.fr.same b hb fun ⟨n, B, hB, _⟩ => by simp at hB⟩, ?_⟩
    exact hr _ _ _ _ _ hp.res
theorem toSpec2 {P : Program} {f : FuncId} {args : List Abs.AV} {res : AV} {t : Ty} {x : t.den} (h : Abs.Spec P f args [.im t x]) (hd : args.all isD = true) (hr : ∀ (ok : Nat → Prop) w val v, IRel ok w t x v → VRel NoB w 0 val res v) : Spec2 P f (args.map ofA) [] [res] [] := by
  refine ⟨h.1, Nat.le_refl _, fun w val vs hH hv => ?_⟩
  refine (h.2 w vs (by have := hv.len; simpa using this) fun i y hy => ?_).mono fun e w' ⟨v, he, hb, hv⟩ => ⟨v, val, he, ⟨hb.os, hb.tape, hb.output, hb.size, fun b hb' _ => hb.block b hb'⟩, ⟨fun n B h => by simp at h, fun n B h => by simp at h, fun n m B C _ h => by simp at h⟩, fun n B h => by simp at h, fun n h => by simp at h, ?_⟩
  · obtain ⟨u, hu, hx⟩ := hv.get (i := i) (x := ofA y) (by rw [List.getElem?_map, hy]; rfl)
    exact ⟨u, hu, ofA_arg (List.all_eq_true.1 hd _ (List.mem_of_getElem? hy)) hx⟩
  · exact hr _ _ _ _ hv
theorem rInt {b : Int} (ok : Nat → Prop) (w : World) (N : Nat) (val : Nat → Bd) (v : Value) (h : VRel NoB w N val (.int fun _ => b) v) : IRel ok w .int b v := by
  simp only [VRel] at h
  simp only [IRel, Ty.isPr]
  show Rep ok w .int b [v]
  unfold Rep
  rw [h]
theorem rBool {b : Bool} (ok : Nat → Prop) (w : World) (N : Nat) (val : Nat → Bd) (v : Value) (h : VRel NoB w N val (.bool fun _ => b) v) : IRel ok w .bool b v := by
  simp only [VRel] at h
  simp only [IRel, Ty.isPr]
  show Rep ok w .bool b [v]
  unfold Rep
  rw [h]
theorem iInt {b : Int} (ok : Nat → Prop) (w : World) (val : Nat → Bd) (v : Value) (h : IRel ok w .int b v) : VRel NoB w 0 val (.int fun _ => b) v := by
  have h2 : Rep ok w .int b [v] := h
  unfold Rep at h2
  simp only [VRel]
  simpa using h2
end Go.Proofs.Ythogfineaeklpaa.M
/- A row of rows that a call changes; calls that change a block of the caller's. -/
namespace Go.Proofs.Ythogfineaeklpaa.M
open Go.RowKit Abs
set_option linter.unusedSimpArgs false
set_option linter.unusedVariables false
/-- What a function does to a row, it does to a row of rows. -/
theorem Spec2.elem {P : Program} {f : FuncId} {e e2 : TypeId} {t : Ty} {L : List (List t.den)} {i : Int} {l l' : List t.den} {k r : Int} (ht : t.flat = true) (hi0 : 0 ≤ i) (hi1 : i < (L.length : Int)) (hl : getR t L i = l)
    (h : Spec2 P f [.ref 0, .int fun _ => k] [some (.row e2 t fun _ => l)] [.int fun _ => r] [some (.row e2 t fun _ => l')]) :
    Spec2 P f [.elem 0 fun _ => i, .int fun _ => k] [some (.rows e e2 t fun _ => L)] [.int fun _ => r] [some (.rows e e2 t fun _ => setI L i l')] := by
  refine ⟨h.1, by simp, fun w val vs hH hv => ?_⟩
  match vs, hv with
  | [v, u], hv =>
  simp only [VRelL, VRel, and_true] at hv
  obtain ⟨⟨_, _, hi⟩, rfl⟩ := hv
  have hB0 := hH.blk 0 _ rfl
  have hlt0 := hH.lt 0 _ rfl
  have hB := hB0
  obtain ⟨k1, k2, k3, k4, k5⟩ := hB
  have hgi : L[i.toNat]? = some l := by rw [← hl]; exact getR_get hi0 hi1
  obtain ⟨hv', xs, m1, m2, m3⟩ := k2 i.toNat l hgi
  rw [hi] at m1
  cases m1
  have inF : ∀ g, ownB v = some g → g ∈ (val 0).F := fun g hg => (k3 g).2 (.inr ⟨v, List.mem_of_getElem? hi, hg⟩)
  have hok : ∀ b, okF [some (.rows e e2 t fun _ => L)] val b → okF [some (.row e2 t fun _ => l)] (fun _ => (⟨v, [], (ownB v).toList⟩ : Bd)) b := fun b hb n B hn hg => by
    cases n with
    | succ n => simp at hn
    | zero => exact hb 0 _ rfl (inF b (by simpa using hg))
  have hH' : HRel w (fun _ => (⟨v, [], (ownB v).toList⟩ : Bd)) [some (.row e2 t fun _ => l)] := by
    refine ⟨fun n B hn => ?_, fun n B hn g hg => ?_, fun n m B C hne hn hm => ?_⟩
    · cases n with
      | succ n => simp at hn
      | zero => cases hn; exact ⟨xs, m2, ⟨m3.1, fun i z hz => (m3.2 i z hz).weak hok⟩, rfl⟩
    · cases n with
      | succ n => simp at hn
      | zero => exact hlt0 g (inF g (by simpa using hg))
    · cases n with
      | succ n => simp at hn
      | zero => cases m with
        | succ m => simp at hm
        | zero => exact (hne rfl).elim
  refine (h.2.2 w _ [v, .int .i64 k] hH' (by simp [VRelL, VRel])).mono fun x w' ⟨v', val', he, hp⟩ => ?_
  have hpB : ∀ b, pBlk [some (.row e2 t fun _ => l)] (fun _ => (⟨v, [], (ownB v).toList⟩ : Bd)) b → ownB v = some b := fun b ⟨n, B, hn, hb⟩ => by
    cases n with
    | succ n => simp at hn
    | zero => simpa using hb
  have hsame : ∀ g, g ∈ (val 0).F → ownB v ≠ some g → w'.heap[g]? = w.heap[g]? := fun g hg hne => hp.fr.same g (hlt0 g hg) fun hb => hne (hpB g hb)
  obtain ⟨xs', n1, n2, n3⟩ := hp.heap.blk 0 _ rfl
  have hv0 : (val' 0).v = v := hp.head 0 (by simp)
  rw [hv0] at n1 n3
  refine ⟨v', val, he, ⟨hp.fr.os, hp.fr.tape, hp.fr.output, hp.fr.size, fun b hb hnb => hp.fr.same b hb fun hq => hnb ⟨0, _, rfl, inF b (hpB b hq)⟩⟩, ⟨fun n B hn => ?_, fun n B hn g hg => ?_, fun n m B C hne hn hm => ?_⟩, fun n B hn g hg => ?_, fun n hn => rfl, ?_⟩
  · cases n with
    | succ n => simp at hn
    | zero =>
      cases hn
      have hlen : (setI L i l').length = L.length := by simp [setI]
      refine ⟨?_, fun j y hj => ?_, k3, k4, k5⟩
      · show w'.ownsRow 0 e 1 (val 0).v (setI L i l').length (val 0).hs
        rw [hlen]
        exact ownsRow_keep k1 fun g hg => hsame g ((k3 g).2 (.inl (by simpa using hg))) fun hvg => k5 v (List.mem_of_getElem? hi) g hvg (by simpa using hg)
      · by_cases hji : j = i.toNat
        · subst hji
          have e1 : (setI L i l')[i.toNat]? = some l' := by unfold setI; exact List.getElem?_set_self (by omega)
          have hj' : (setI L i l')[i.toNat]? = some y := hj
          rw [e1] at hj'
          cases hj'
          exact ⟨v, xs', hi, n1, n2⟩
        · have e1 : (setI L i l')[j]? = L[j]? := by unfold setI; exact List.getElem?_set_ne (Ne.symm hji)
          have hj' : (setI L i l')[j]? = some y := hj
          rw [e1] at hj'
          obtain ⟨h2, ys, q1, q2, q3⟩ := k2 j y hj'
          refine ⟨h2, ys, q1, ownsRow_keep q2 fun g hg => hsame g ((k3 g).2 (.inr ⟨h2, List.mem_of_getElem? q1, by simpa using hg⟩)) fun hvg => hji (k4 j i.toNat h2 v g q1 hi (by simpa using hg) hvg), q3.1, fun a z hz => ?_⟩
          exact ((q3.2 a z hz).mono hp.fr.size (ok' := fun _ => True) fun b hb hlt => ⟨trivial, hp.fr.same b hlt fun hq => hb 0 _ rfl (inF b (hpB b hq))⟩).flat ht
  · cases n with
    | succ n => simp at hn
    | zero => exact Nat.lt_of_lt_of_le (hlt0 g hg) hp.fr.size
  · cases n with
    | succ n => simp at hn
    | zero => cases m with
      | succ m => simp at hm
      | zero => exact (hne rfl).elim
  · cases n with
    | succ n => simp at hn
    | zero => exact .inr ⟨0, _, rfl, hg⟩
  · have := hp.res
    simp only [ResV, VRel] at this ⊢
    exact this
theorem call_own {P : Unit → Program} {T : Unit → Tab} {S : AS} {ts : List TypeId} {f' : FuncId} {xs us args' res : List AV} {post : Hp} {K : AV → AS → Prop} {b : Blk} (n : Nat) (h : Spec2 (P ()) f' args' [some b] res post)
    (hH : preM S.H [n] [n] [some b]) (ha : argsM [n] (xs ++ []) (argVs (T ()) (dropC [n] S.H) ts (xs ++ [])) args') (hk : K (resA (rho [n] S.H.length post.length) res) (S.after [n] post)) : CallL P T S ts (.fn f' []) xs us K :=
  ⟨.inl ⟨f', [], [n], args', [some b], res, post, ⟨rfl, rfl⟩, by simp, h, hH, ha, hk⟩⟩
theorem call_own2 {P : Unit → Program} {T : Unit → Tab} {S : AS} {ts : List TypeId} {f' : FuncId} {xs us args' res : List AV} {post : Hp} {K : AV → AS → Prop} {b c : Blk} (n m : Nat) (hnm : n ≠ m) (h : Spec2 (P ()) f' args' [some b, some c] res post)
    (hH : preM S.H [n, m] [n, m] [some b, some c]) (ha : argsM [n, m] (xs ++ []) (argVs (T ()) (dropC [n, m] S.H) ts (xs ++ [])) args') (hk : K (resA (rho [n, m] S.H.length post.length) res) (S.after [n, m] post)) : CallL P T S ts (.fn f' []) xs us K :=
  ⟨.inl ⟨f', [], [n, m], args', [some b, some c], res, post, ⟨rfl, rfl⟩, by simp [hnm], h, hH, ha, hk⟩⟩
end Go.Proofs.Ythogfineaeklpaa.M
/- Loops, of which only what a round changes is told. -/
namespace Go.Proofs.Ythogfineaeklpaa.M
open Go.RowKit Abs
set_option linter.unusedSimpArgs false
set_option linter.unusedVariables false
set_option maxRecDepth 100000
set_option maxHeartbeats 4000000
def asg : Code → List Nat
  | .region _ ops _ => ops.toList.filterMap (·.dst)
  | .seq a b => asg a ++ asg b
  | .cond _ a b => asg a ++ asg b
  | .block _ c => asg c
  | .loop c => asg c
  | _ => []
def killT : List Nat → List AV → List AV
  | [], l => l
  | i :: r, l => killT r (l.set i .junk)
def setTs : List (Nat × AV) → List AV → List AV
  | [], l => l
  | (i, v) :: r, l => setTs r (l.set i v)
def setHs : List (Nat × Option Blk) → Hp → Hp
  | [], l => l
  | (i, v) :: r, l => setHs r (l.set i v)
def stL (c : Code) (S : AS) (ps : List (Nat × AV)) (hs : List (Nat × Option Blk)) : AS := ⟨setTs ps (killT (asg c) S.tm), setHs hs S.H, S.k⟩
theorem loopP {S : AS} {Q : AX → AS → Prop} {c : Code} (hb : drawB c = true) {X : Type} (inv : X → Prop) (ps : X → List (Nat × AV)) (hs : X → List (Nat × Option Blk)) (m : X → Nat) (nx : X → X) (a : X) (h0 : inv a) (hw : weakD S (stL c S (ps a) (hs a)))
    (round : ∀ x, inv x → vc (fun _ => Try.prog) (fun _ => tab) c (seqQ (fun S' => Obl (fun _ => inv (nx x) ∧ m (nx x) < m x) ∧ weakD S' (stL c S (ps (nx x)) (hs (nx x)))) Q) (stL c S (ps x) (hs x))) : LoopL (fun _ => Try.prog) (fun _ => tab) c Q S :=
  loopK hb inv (fun x => stL c S (ps x) (hs x)) m nx a h0 hw round
theorem natc (n : Nat) : @NatCast.natCast Int instNatCastInt n = (n : Int) := rfl
end Go.Proofs.Ythogfineaeklpaa.M
/- Names that change at a round's end; nil slices as rows of the call's own; ends with names of their own. -/
namespace Go.Proofs.Ythogfineaeklpaa.M
open Go.RowKit Abs
set_option linter.unusedSimpArgs false
set_option linter.unusedVariables false
set_option maxRecDepth 100000
set_option maxHeartbeats 4000000
def ltO (N : Nat) : Option Blk → Bool
  | some b => ltB N b
  | none => true
def renOk (ρ : List Nat) (S S' : AS) : Bool := ρ.length == S'.H.length && nodupB ρ && firstB S'.k ρ && S'.k.ble S'.H.length && S.k == S'.k && ltL S'.H.length S'.tm && S'.H.all (ltO S'.H.length)
def renD (ρ : List Nat) (S S' : AS) : Prop := AVleL S.H.length S.tm (renL ρ S'.tm) ∧ postP S.H.length ρ S.H ρ S'.H ∧ (if (renOk ρ S S') = true then True else False)
theorem renL_len (ρ : List Nat) : ∀ l : List AV, (renL ρ l).length = l.length
  | [] => rfl
  | x :: l => by simp [renL, renL_len ρ l]
theorem renL_get (ρ : List Nat) : ∀ (l : List AV) (t : Nat), (renL ρ l).getD t .undef = ren ρ (l.getD t .undef)
  | [], t => by simp [renL, ren]
  | x :: l, 0 => by simp [renL]
  | x :: l, t + 1 => by simpa [renL] using renL_get ρ l t
theorem ltL_get {N : Nat} : ∀ {l : List AV} {t : Nat}, ltL N l = true → ltA N (l.getD t .undef) = true
  | [], t, _ => by simp [ltA]
  | x :: l, 0, h => by simp only [ltL, Bool.and_eq_true] at h; simpa using h.1
  | x :: l, t + 1, h => by simp only [ltL, Bool.and_eq_true] at h; simpa using ltL_get (t := t) h.2
theorem Rl.renD {w0 w : World} {B : Nat → Prop} {hd : Nat → Value} {S S' : AS} {a : Act} {val : Nat → Bd} {ρ : List Nat} (hR : Rl w0 B hd S a w val) (h : M.renD ρ S S') : Rl w0 B hd S' a w (fun i => val (nth ρ i)) := by
  obtain ⟨h1, h2, h3⟩ := h
  have hb : renOk ρ S S' = true := by
    cases hb : renOk ρ S S' with
    | true => rfl
    | false => rw [hb] at h3; exact h3.elim
  simp only [renOk, Bool.and_eq_true, beq_iff_eq] at hb
  obtain ⟨⟨⟨⟨⟨⟨o1, o2⟩, o3⟩, o4⟩, o5⟩, o6⟩, o7⟩ := hb
  have hnd := nodupB_spec o2
  have hfirst : ∀ i, i < S'.k → nth ρ i = i := fun i hi => by
    simp only [firstB, List.all_eq_true, beq_iff_eq] at o3
    exact o3 i (List.mem_of_getElem? (i := i) (by rw [upFrom_get, if_pos hi]; simp))
  have get : ∀ {i : Nat} {b : Blk}, S'.H[i]? = some (some b) → ∃ c, S.H[nth ρ i]? = some (some c) ∧ BLe S.H.length c (renB ρ b) := fun {i b} hb => by
    obtain ⟨n, c, k1, k2, k3⟩ := postP_get o1 h2 hb
    exact ⟨c, by rw [nth_of k1]; exact k2, k3⟩
  have hk : ∀ b, okF S.H val b → okF S'.H (fun i => val (nth ρ i)) b := fun b hb n c hc => by
    obtain ⟨c1, k1, _⟩ := get hc
    exact hb _ _ k1
  have hlt : ∀ i b, S'.H[i]? = some (some b) → ltB S'.H.length b = true := fun i b hb => by
    have := List.all_eq_true.1 o7 _ (List.mem_of_getElem? hb)
    simpa [ltO] using this
  refine ⟨hR.fr, by rw [hR.len, h1.len, renL_len], hR.defers, fun t => ?_, ⟨fun i b hb => ?_, fun i b hb g hg => ?_, fun i j b c hij hb hc g hg hg' => ?_⟩, fun i b hb g hg => ?_, fun i hi => ?_, Nat.le_of_ble_eq_true o4⟩
  · have m1 := (hR.tmps t).le (h1.get t)
    rw [renL_get] at m1
    exact (VRel.unren (N := S'.H.length) (val := fun i => val (nth ρ i)) (fun n _ => ⟨rfl, rfl⟩) (ltL_get o6) m1).keep ⟨Nat.le_refl _, fun b hb _ => ⟨hk b hb, rfl⟩, Nat.le_refl _, fun _ _ => rfl, fun _ _ => rfl⟩
  · obtain ⟨c, k1, k2⟩ := get hb
    exact BRel.unren hk (fun n _ => ⟨rfl, rfl⟩) (hlt i b hb) ((hR.heap.blk _ _ k1).le k2)
  · obtain ⟨c, k1, k2⟩ := get hb
    exact hR.heap.lt _ _ k1 g hg
  · obtain ⟨c1, k1, _⟩ := get hb
    obtain ⟨c2, k2, _⟩ := get hc
    refine hR.heap.apart _ _ _ _ (fun e => hij ?_) k1 k2 g hg hg'
    have hi : i < ρ.length := by rw [o1]; exact (List.getElem?_eq_some_iff.1 hb).1
    have hj : j < ρ.length := by rw [o1]; exact (List.getElem?_eq_some_iff.1 hc).1
    have e1 := nth_get hi
    have e2 := nth_get hj
    rw [e] at e1
    exact (List.getElem_inj (h₀ := hi) (h₁ := hj) hnd).1 (by rw [(List.getElem?_eq_some_iff.1 e1).2, (List.getElem?_eq_some_iff.1 e2).2])
  · obtain ⟨c, k1, _⟩ := get hb
    exact hR.own _ _ k1 g hg
  · have := hR.kept (nth ρ i)
    rw [hfirst i hi] at this
    rw [hfirst i hi]
    exact this (by rw [o5]; exact hi)
/-- A loop whose rounds end with other names. -/
theorem loopR {S : AS} {Q : AX → AS → Prop} {c : Code} (hb : drawB c = true) (ρ : List Nat) {X : Type} (inv : X → Prop) (ps : X → List (Nat × AV)) (hs : X → List (Nat × Option Blk)) (m : X → Nat) (nx : X → X) (a : X) (h0 : inv a) (hw : weakD S (stL c S (ps a) (hs a)))
    (round : ∀ x, inv x → vc (fun _ => Try.prog) (fun _ => tab) c (seqQ (fun S' => Obl (fun _ => inv (nx x) ∧ m (nx x) < m x) ∧ renD ρ S' (stL c S (ps (nx x)) (hs (nx x)))) Q) (stL c S (ps x) (hs x))) : LoopL (fun _ => Try.prog) (fun _ => tab) c Q S := by
  refine ⟨fun w0 B hd a1 w val hR => ?_⟩
  refine wp_loop_ghost (fun (x : { x : X // inv x }) a w => ∃ val, Rl w0 B hd (stL c S (ps x.1) (hs x.1)) a w val) (fun x => m x.1) ⟨a, h0⟩ ⟨_, hR.weak hw.weak⟩ fun x a w ⟨val, hR⟩ => ?_
  refine wp_mono (vc_sound tabOk mixed c _ _ hb (round x.1 x.2) w0 B hd a w val hR) fun e a' w' ⟨y, S', val', h1, h2, h3⟩ => ?_
  subst h1
  cases y with
  | normal => obtain ⟨h4, h5⟩ := h2; exact ⟨⟨nx x.1, h4.out.1⟩, ⟨_, h3.renD h5⟩, h4.out.2⟩
  | exit i => exact ⟨.exit i, S', val', rfl, h2, h3⟩
  | ret => exact ⟨.ret, S', val', rfl, h2, h3⟩
  | goto l => exact ⟨.goto l, S', val', rfl, h2, h3⟩
/-- What is known ahead of a loop may be said in other names, or of fewer of them. -/
theorem LoopL.ren {S S' : AS} {Q : AX → AS → Prop} {c : Code} (ρ : List Nat) (h : renD ρ S S') (hl : LoopL (fun _ => Try.prog) (fun _ => tab) c Q S') : LoopL (fun _ => Try.prog) (fun _ => tab) c Q S :=
  ⟨fun w0 B hd a w val hR => hl.out w0 B hd a w _ (hR.renD h)⟩
def nilA (n : Nat) : AV → AV
  | .nilsl => .ref n
  | x => x
theorem nilA_rel {ok : Nat → Prop} {w : World} {N : Nat} {val : Nat → Bd} {n : Nat} {x : AV} {v : Value} (hn : n < N) (hv : (val n).v = .slice none 0 0) (h : VRel ok w N val x v) : VRel ok w N val (nilA n x) v := by
  unfold nilA
  split
  · simp only [VRel] at h ⊢; exact ⟨hn, by rw [h, hv]⟩
  · exact h
def nilT (n : Nat) : List Nat → List AV → List AV
  | [], l => l
  | i :: r, l => nilT n r (l.set i (nilA n (l.getD i .undef)))
theorem nilT_len (n : Nat) : ∀ (r : List Nat) (l : List AV), (nilT n r l).length = l.length
  | [], l => rfl
  | i :: r, l => by rw [nilT, nilT_len n r, List.length_set]
theorem nilT_rel {ok : Nat → Prop} {w : World} {N : Nat} {val : Nat → Bd} {n : Nat} {g : Nat → Value} (hn : n < N) (hv : (val n).v = .slice none 0 0) : ∀ (r : List Nat) {l : List AV}, (∀ t, VRel ok w N val (l.getD t .undef) (g t)) → ∀ t, VRel ok w N val ((nilT n r l).getD t .undef) (g t)
  | [], l, h, t => h t
  | i :: r, l, h, t => by
    refine nilT_rel hn hv r (l := l.set i (nilA n (l.getD i .undef))) (fun t => ?_) t
    have h1 := h t
    simp only [List.getD_eq_getElem?_getD, List.getElem?_set] at h1 ⊢
    by_cases e : i = t
    · subst e
      by_cases e2 : i < l.length
      · rw [if_pos rfl, if_pos e2]
        exact nilA_rel hn hv h1
      · rw [if_pos rfl, if_neg e2]
        rw [List.getElem?_eq_none (by omega)] at h1
        exact h1
    · rw [if_neg e]; exact h1
def nilC (n : Nat) (js : List Nat) : AV → AV
  | .cells l => .cells (nilT n js l)
  | x => x
theorem VRelL.getD {ok : Nat → Prop} {w : World} {N : Nat} {val : Nat → Bd} : ∀ {l : List AV} {vs : List Value}, VRelL ok w N val l vs → vs.length = l.length ∧ ∀ t, VRel ok w N val (l.getD t .undef) (vs.getD t undef)
  | [], [], _ => ⟨rfl, fun t => by simp only [List.getD_eq_getElem?_getD, List.getElem?_nil, Option.getD_none, VRel]; rfl⟩
  | [], _ :: _, h => by simp [VRelL] at h
  | _ :: _, [], h => by simp [VRelL] at h
  | x :: l, v :: vs, h => by
    simp only [VRelL] at h
    obtain ⟨a, b⟩ := VRelL.getD h.2
    refine ⟨by simp [a], fun t => ?_⟩
    cases t with
    | zero => simpa using h.1
    | succ t => simpa using b t
theorem VRelL.ofD {ok : Nat → Prop} {w : World} {N : Nat} {val : Nat → Bd} : ∀ {l : List AV} {vs : List Value}, vs.length = l.length → (∀ t, VRel ok w N val (l.getD t .undef) (vs.getD t undef)) → VRelL ok w N val l vs
  | [], [], _, _ => by simp [VRelL]
  | [], _ :: _, h, _ => by simp at h
  | _ :: _, [], h, _ => by simp at h
  | x :: l, v :: vs, h, hr => by
    simp only [VRelL]
    exact ⟨by simpa using hr 0, VRelL.ofD (by simpa using h) fun t => by simpa using hr (t + 1)⟩
theorem nilL_rel {ok : Nat → Prop} {w : World} {N : Nat} {val : Nat → Bd} {n : Nat} {js : List Nat} {l : List AV} {vs : List Value} (hn : n < N) (hv : (val n).v = .slice none 0 0) (h : VRelL ok w N val l vs) : VRelL ok w N val (nilT n js l) vs := by
  obtain ⟨a, b⟩ := h.getD
  exact VRelL.ofD (by rw [nilT_len, a]) (nilT_rel hn hv js b)
theorem nilC_rel {ok : Nat → Prop} {w : World} {N : Nat} {val : Nat → Bd} {n : Nat} {js : List Nat} {x : AV} {v : Value} (hn : n < N) (hv : (val n).v = .slice none 0 0) (h : VRel ok w N val x v) : VRel ok w N val (nilC n js x) v := by
  unfold nilC
  split
  · simp only [VRel] at h ⊢
    obtain ⟨cs, h1, h2, h3⟩ := h
    exact ⟨cs, h1, nilL_rel hn hv h2, h3⟩
  · exact h
/-- Where a nil slice stands: in a temporary, in a cell of a temporary, in a cell of a block. -/
inductive At where
  | tmp (t : Nat)
  | cell (t j : Nat)
  | box (n j : Nat)
def nilBx (m j : Nat) : Option Blk → Option Blk
  | some (.box e cs) => some (.box e (nilT m [j] cs))
  | x => x
def AS.nil1 (S : AS) (m : Nat) : At → AS
  | .tmp t => { S with tm := nilT m [t] S.tm }
  | .cell t j => { S with tm := S.tm.set t (nilC m [j] (S.tm.getD t .undef)) }
  | .box n j => { S with H := S.H.set n (nilBx m j (S.H.getD n none)) }
def AS.nilAll (S : AS) (m : Nat) : List At → AS
  | [] => S
  | p :: r => (S.nil1 m p).nilAll m r
/-- The nil slices at these places as one row of the call's own. -/
def AS.nil (S : AS) (e : TypeId) (t : Ty) (ps : List At) : AS := AS.nilAll { S with H := S.H ++ [some (.row e t fun _ => [])] } S.H.length ps
theorem Rl.nil1 {w0 w : World} {B : Nat → Prop} {hd : Nat → Value} {S : AS} {a : Act} {val : Nat → Bd} {m : Nat} (hR : Rl w0 B hd S a w val) (hm : m < S.H.length) (hv : (val m).v = .slice none 0 0) : ∀ p : At, Rl w0 B hd (S.nil1 m p) a w val ∧ (S.nil1 m p).H.length = S.H.length
  | .tmp t => by
    refine ⟨⟨hR.fr, by rw [hR.len]; exact (nilT_len m [t] S.tm).symm, hR.defers, nilT_rel hm hv [t] hR.tmps, hR.heap, hR.own, hR.kept, hR.kle⟩, rfl⟩
  | .cell t j => by
    refine ⟨⟨hR.fr, by rw [hR.len]; simp [AS.nil1], hR.defers, fun u => ?_, hR.heap, hR.own, hR.kept, hR.kle⟩, rfl⟩
    have h1 := hR.tmps u
    simp only [AS.nil1, List.getD_eq_getElem?_getD, List.getElem?_set] at h1 ⊢
    by_cases e : t = u
    · subst e
      by_cases e2 : t < S.tm.length
      · rw [if_pos rfl, if_pos e2]
        exact nilC_rel hm hv h1
      · rw [if_pos rfl, if_neg e2]
        rw [List.getElem?_eq_none (by omega)] at h1
        exact h1
    · rw [if_neg e]; exact h1
  | .box n j => by
    have hl : (S.nil1 m (.box n j)).H.length = S.H.length := by simp [AS.nil1]
    have back : ∀ (i : Nat) (b : Blk), (S.nil1 m (.box n j)).H[i]? = some (some b) → ∃ c, S.H[i]? = some (some c) ∧ (c = b ∨ ∃ e cs, c = Blk.box e cs ∧ b = Blk.box e (nilT m [j] cs)) := fun i b hb => by
      replace hb : (List.set (α := Option Blk) S.H n (nilBx m j (S.H.getD n none)))[i]? = some (some b) := hb
      rw [List.getElem?_set] at hb
      by_cases e : n = i
      · subst e
        by_cases e2 : n < S.H.length
        · rw [if_pos rfl, if_pos e2] at hb
          simp only [Option.some.injEq] at hb
          rw [List.getD_eq_getElem?_getD, List.getElem?_eq_getElem e2, Option.getD_some] at hb
          rw [List.getElem?_eq_getElem e2]
          unfold nilBx at hb
          split at hb
          · rename_i e cs he
            rw [he]
            simp only [Option.some.injEq] at hb
            exact ⟨_, rfl, .inr ⟨e, cs, rfl, hb.symm⟩⟩
          · rw [hb]; exact ⟨b, rfl, .inl rfl⟩
        · rw [if_pos rfl, if_neg e2] at hb; cases hb
      · rw [if_neg e] at hb; exact ⟨b, hb, .inl rfl⟩
    have hk : ∀ g, okF S.H val g → okF (S.nil1 m (.box n j)).H val g := fun g hg i b hb => by
      obtain ⟨c, hc, _⟩ := back i b hb
      exact hg i c hc
    have K : Keep0 (okF S.H val) (okF (S.nil1 m (.box n j)).H val) w w S.H.length S.H.length val val := ⟨Nat.le_refl _, fun b hb _ => ⟨hk b hb, rfl⟩, Nat.le_refl _, fun _ _ => rfl, fun _ _ => rfl⟩
    refine ⟨⟨hR.fr, hR.len, hR.defers, fun t => by rw [hl]; exact (hR.tmps t).keep K, ⟨fun i b hb => ?_, fun i b hb => ?_, fun i i' b b' hne hb hb' => ?_⟩, fun i b hb => ?_, hR.kept, by rw [hl]; exact hR.kle⟩, hl⟩
    · obtain ⟨c, hc, h⟩ := back i b hb
      have h1 := (hR.heap.blk i c hc).keep K fun _ _ => rfl
      rw [hl]
      rcases h with rfl | ⟨e, cs, rfl, rfl⟩
      · exact h1
      · obtain ⟨g, cur, k1, k2, k3, k4⟩ := h1
        exact ⟨g, cur, k1, k2, nilL_rel hm hv k3, k4⟩
    · obtain ⟨c, hc, _⟩ := back i b hb
      exact hR.heap.lt i c hc
    · obtain ⟨c, hc, _⟩ := back i b hb
      obtain ⟨c', hc', _⟩ := back i' b' hb'
      exact hR.heap.apart i i' c c' hne hc hc'
    · obtain ⟨c, hc, _⟩ := back i b hb
      exact hR.own i c hc
theorem Rl.nilAll {w0 w : World} {B : Nat → Prop} {hd : Nat → Value} {a : Act} {val : Nat → Bd} {m : Nat} (hv : (val m).v = .slice none 0 0) : ∀ (ps : List At) {S : AS}, Rl w0 B hd S a w val → m < S.H.length → Rl w0 B hd (S.nilAll m ps) a w val
  | [], S, hR, _ => hR
  | p :: r, S, hR, hm => by
    obtain ⟨h1, h2⟩ := hR.nil1 hm hv p
    exact Rl.nilAll hv r h1 (by rw [h2]; exact hm)
theorem Rl.nil {w0 w : World} {B : Nat → Prop} {hd : Nat → Value} {S : AS} {a : Act} {val : Nat → Bd} (hR : Rl w0 B hd S a w val) (e : TypeId) (t : Ty) (ps : List At) : ∃ val', Rl w0 B hd (S.nil e t ps) a w val' := by
  have hF := hR.fresh (Below.refl _ w) [] (d := ⟨.slice none 0 0, [], []⟩) (b := .row e t fun _ => []) (fun g hg => by simp at hg)
    (fun val' _ _ hok => ⟨[], World.ownsRow_nil w 0 e t.n, ⟨by simp, fun i y hy => by simp at hy⟩, by simp [ownB]⟩)
  exact ⟨_, Rl.nilAll (by simp [upd_self]) ps hF (by simp [dropC])⟩
theorem LoopL.nil {S : AS} {Q : AX → AS → Prop} {c : Code} (e : TypeId) (t : Ty) (ps : List At) (hl : LoopL (fun _ => Try.prog) (fun _ => tab) c Q (S.nil e t ps)) : LoopL (fun _ => Try.prog) (fun _ => tab) c Q S :=
  ⟨fun w0 B hd a w val hR => by obtain ⟨val', h⟩ := hR.nil e t ps; exact hl.out w0 B hd a w val' h⟩
end Go.Proofs.Ythogfineaeklpaa.M
/- Functions whose first result lies in a cell; nil slices in results. -/
namespace Go.Proofs.Ythogfineaeklpaa.M
open Go.RowKit Abs
set_option linter.unusedSimpArgs false
set_option linter.unusedVariables false
set_option maxRecDepth 100000
set_option maxHeartbeats 4000000
def goodX : AX → Prop
  | .normal => True
  | .ret => True
  | _ => False
/-- The function's end: its first result (n cells) lies where p leads to, the second is u. -/
structure EndC (k p u n : Nat) (res : List AV) (post : Hp) (e : AX) (S : AS) : Prop where
  out : (∀ x, e = x → goodX x) ∧ ∀ (w0 : World) (B : Nat → Prop) (hd : Nat → Value) (a : Act) (w : World) (val : Nat → Bd), Rl w0 B hd S a w val → ∃ S' val', Rl w0 B hd S' a w val' ∧ ∃ ρ, okB k ρ res post = true ∧ S'.k = k ∧
    (∃ nb e0 cs, S'.tm.getD p .undef = .ptr nb 0 ∧ S'.H[nb]? = some (some (.box e0 cs)) ∧ cs.length = n ∧ AVleL S'.H.length [.cells cs, S'.tm.getD u .undef] (renL ρ res)) ∧ postP S'.H.length ρ S'.H ρ post
def endCP (k : Nat) (ρ : List Nat) (p u n : Nat) (res : List AV) (post : Hp) (e : AX) (S : AS) : Prop :=
  goodX e ∧ (match S.tm.getD p .undef with
    | .ptr nb 0 => (match S.H[nb]? with
      | some (some (.box _ cs)) => (if (cs.length == n) = true then True else False) ∧ AVleL S.H.length [.cells cs, S.tm.getD u .undef] (renL ρ res)
      | _ => False)
    | _ => False) ∧ postP S.H.length ρ S.H ρ post ∧ (if (S.k == k && okB k ρ res post) = true then True else False)
theorem if_true_iff {b : Bool} (h : if b = true then True else False) : b = true := by
  cases b with
  | true => rfl
  | false => exact h.elim
theorem endCP.get {k : Nat} {ρ : List Nat} {p u n : Nat} {res : List AV} {post : Hp} {e : AX} {S : AS} (h : endCP k ρ p u n res post e S) : goodX e ∧ okB k ρ res post = true ∧ S.k = k ∧
    (∃ nb e0 cs, S.tm.getD p .undef = .ptr nb 0 ∧ S.H[nb]? = some (some (.box e0 cs)) ∧ cs.length = n ∧ AVleL S.H.length [.cells cs, S.tm.getD u .undef] (renL ρ res)) ∧ postP S.H.length ρ S.H ρ post := by
  obtain ⟨h0, h1, h2, h3⟩ := h
  have h4 := if_true_iff h3
  simp only [Bool.and_eq_true, beq_iff_eq] at h4
  refine ⟨h0, h4.2, h4.1, ?_, h2⟩
  split at h1
  · rename_i nb hp
    split at h1
    · rename_i e0 cs hb
      have h5 := if_true_iff h1.1
      exact ⟨nb, e0, cs, hp, hb, by simpa using h5, h1.2⟩
    · exact h1.elim
  · exact h1.elim
theorem EndC.plain {k : Nat} (ρ : List Nat) {p u n : Nat} {res : List AV} {post : Hp} {e : AX} {S : AS} (h : endCP k ρ p u n res post e S) : EndC k p u n res post e S := by
  obtain ⟨h0, h1, h2, h3, h4⟩ := h.get
  exact ⟨fun x hx => hx ▸ h0, fun w0 B hd a w val hR => ⟨S, val, hR, ρ, h1, h2, h3, h4⟩⟩
theorem EndC.nil {k : Nat} (e0 : TypeId) (t : Ty) (ps : List At) (ρ : List Nat) {p u n : Nat} {res : List AV} {post : Hp} {e : AX} {S : AS} (h : endCP k ρ p u n res post e (S.nil e0 t ps)) : EndC k p u n res post e S := by
  obtain ⟨h0, h1, h2, h3, h4⟩ := h.get
  exact ⟨fun x hx => hx ▸ h0, fun w0 B hd a w val hR => by
    obtain ⟨val', hR'⟩ := hR.nil e0 t ps
    exact ⟨_, val', hR', ρ, h1, h2, h3, h4⟩⟩
theorem Spec2.ofC {P : Unit → Program} {T : Unit → Tab} {f : FuncId} {fn : Func} {c : Code} {args : List AV} {pre : Hp} {res : List AV} {post : Hp} (p u n : Nat) (ty : TypeId)
    (hf : (P ()).funcs[f]? = some fn) (hb : fn.body = some c) (hname : (fn.name != "runtime.NumGoroutine") = true) (hres : fn.results = #[.cell p ty, .tmp u]) (hag : isAggB (P ()) ty = some true) (hsz : szOf (P ()) ty = some n) (hpl : pre.length ≤ post.length) (hnt : args.length ≤ fn.ntmps)
    (h : AWp (P ()) c (EndC pre.length p u n res post) ⟨args ++ List.replicate (fn.ntmps - args.length) .undef, pre, pre.length⟩) : Spec2 (P ()) f args pre res post := by
  refine ⟨by simp [enters, hf, hb]; simpa using hname, hpl, fun w val vs hH hv => ?_⟩
  have hvl := hv.len
  have hE : Rl w (pBlk pre val) (fun n => (val n).v) ⟨args ++ List.replicate (fn.ntmps - args.length) .undef, pre, pre.length⟩ { tmps := vs.toArray ++ Array.replicate (fn.ntmps - vs.toArray.size) undef, defers := [] } w val := by
    refine ⟨Frame0.refl _ _, by simp [hvl], rfl, fun t => ?_, hH, fun n b hn g hg => .inr ⟨n, b, hn, hg⟩, fun _ _ => rfl, Nat.le_refl _⟩
    rw [List.getD_eq_getElem?_getD, Array.getD_eq_getD_getElem?]
    by_cases ht : t < args.length
    · obtain ⟨v, hv1, hv2⟩ := hv.get (i := t) (x := args[t]) (by simp [ht])
      rw [List.getElem?_append_left ht, List.getElem?_eq_getElem ht, Array.getElem?_append_left (by simp; omega)]
      simp only [Option.getD_some]
      rw [show vs.toArray[t]? = some v by simpa using hv1]
      exact hv2
    · rw [List.getElem?_append_right (by omega), Array.getElem?_append_right (by simp; omega)]
      by_cases h2 : t - args.length < fn.ntmps - args.length
      · rw [List.getElem?_replicate, if_pos h2, Array.getElem?_replicate, if_pos (by simp; omega)]
        simp only [Option.getD_some, VRel]; rfl
      · rw [List.getElem?_replicate, if_neg h2, Array.getElem?_replicate, if_neg (by simp; omega)]
        simp only [Option.getD_none, VRel]; rfl
  refine calls_of_wp hf hb (wp_mono (h w _ _ _ w _ hE) ?_)
  rintro e a w' ⟨x, S0, val0, rfl, hx, hR0⟩
  obtain ⟨hxe, hx2⟩ := hx.out
  obtain ⟨S, val', hR, ρ, hok, hk, ⟨nb, e0, cs, hp, hbx, hn, h1⟩, h2⟩ := hx2 _ _ _ _ _ _ hR0
  simp only [okB, Bool.and_eq_true, beq_iff_eq] at hok
  obtain ⟨⟨⟨⟨⟨⟨o1, o2⟩, o3⟩, o4⟩, o5⟩, o6⟩, o7⟩ := hok
  have hnd := nodupB_spec o2
  have hkp := Nat.le_of_ble_eq_true o4
  have hfirst : ∀ i, i < pre.length → nth ρ i = i := fun i hi => by
    simp only [firstB, List.all_eq_true, beq_iff_eq] at o3
    exact o3 i (List.mem_of_getElem? (i := i) (by rw [upFrom_get, if_pos hi]; simp))
  have hblk : ∀ i b, post[i]? = some (some b) → flatB b = true ∧ ltB post.length b = true := fun i b hb => by
    have := (List.all_eq_true.1 o7) _ (List.mem_of_getElem? hb)
    simpa using this
  have core : a.defers = [] ∧ ∃ v, (results fn a.tmps).run (P ()) w' = .ok v w' ∧ ∃ v2 val2, Ending.returned v = .returned v2 ∧ SPost pre val res post w v2 w' val2 := by
    have get : ∀ {i : Nat} {b : Blk}, post[i]? = some (some b) → ∃ c, S.H[nth ρ i]? = some (some c) ∧ BLe S.H.length c (renB ρ b) := fun {i b} hb => by
      obtain ⟨n, c, k1, k2, k3⟩ := postP_get o1 h2 hb
      exact ⟨c, by rw [nth_of k1]; exact k2, k3⟩
    obtain ⟨g, cur, b1, b2, b3, b4, _⟩ := hR.heap.blk nb _ hbx
    have htp := hR.tmps p
    rw [hp] at htp
    simp only [VRel] at htp
    obtain ⟨_, g', t1, t2⟩ := htp
    rw [b1] at t1
    cases t1
    have hcur : cur.size = n := by have := b3.len; simp only [Array.length_toList] at this; omega
    have hload : (loadVar ty ⟨g, 0, none⟩).run (P ()) w' = .ok (.agg cur) w' := by
      have hsz' : ((P ()).info? ty).map (·.size) = some cur.size := by rw [hcur]; exact hsz
      unfold isAggB at hag
      split at hag
      · rename_i hu; exact run_loadVar_row w' g e0 ty cur (0, 0) _ b2 hu rfl hsz'
      · rename_i hu; exact run_loadVar_row w' g e0 ty cur (0, 0) _ b2 hu rfl hsz'
      · cases hag
      · cases hag
    have hrun : (results fn a.tmps).run (P ()) w' = .ok (.tuple #[.agg cur, a.tmps.getD u undef]) w' := by
      rw [results_cell_tmp hres, t2]
      have e1 : (asAddr (.pointer (some ⟨g, 0, none⟩))).run (P ()) w' = .ok ⟨g, 0, none⟩ w' := by simp [asAddr]
      rw [e1, Result.andThen_ok, hload, Result.andThen_ok]
    refine ⟨hR.defers, _, hrun, _, fun i => val' (nth ρ i), rfl, ⟨hR.fr, ⟨fun i b hb => ?_, fun i b hb g hg => ?_, fun i j b c hij hb hc g hg hg' => ?_⟩, fun i b hb g hg => ?_, fun i hi => ?_, ?_⟩⟩
    · obtain ⟨c, k1, k2⟩ := get hb
      have k3 := (hR.heap.blk _ _ k1).le k2
      obtain ⟨f1, f2⟩ := hblk i b hb
      have k4 : BRel (okF S.H val') w' post.length (fun i => val' (nth ρ i)) (val' (nth ρ i)) b := k3.unren (fun _ h => h) (fun n _ => ⟨rfl, rfl⟩) f2
      cases b with
      | row e t l => obtain ⟨xs, m1, m2, m3⟩ := k4; exact ⟨xs, m1, ⟨m2.1, fun i y hy => (m2.2 i y hy).flat f1⟩, m3⟩
      | rows e e2 t l =>
        obtain ⟨m1, m2, m3⟩ := k4
        refine ⟨m1, fun i y hy => ?_, m3⟩
        obtain ⟨h, xs, n1, n2, n3⟩ := m2 i y hy
        exact ⟨h, xs, n1, n2, n3.1, fun i y hy => (n3.2 i y hy).flat f1⟩
      | rowsH e e2 t l k => cases f1
      | arr e k t l => cases f1
      | ext s F => cases f1
      | box e cs => obtain ⟨g, cur, m1, m2, m3, m4⟩ := k4; exact ⟨g, cur, m1, m2, m3.flat f1, m4⟩
    · obtain ⟨c, k1, k2⟩ := get hb
      exact hR.heap.lt _ _ k1 g hg
    · obtain ⟨c1, k1, _⟩ := get hb
      obtain ⟨c2, k2, _⟩ := get hc
      refine hR.heap.apart _ _ _ _ (fun e => hij ?_) k1 k2 g hg hg'
      have hi : i < ρ.length := by rw [o1]; exact (List.getElem?_eq_some_iff.1 hb).1
      have hj : j < ρ.length := by rw [o1]; exact (List.getElem?_eq_some_iff.1 hc).1
      have e1 := nth_get hi
      have e2 := nth_get hj
      rw [e] at e1
      exact (List.getElem_inj (h₀ := hi) (h₁ := hj) hnd).1 (by rw [(List.getElem?_eq_some_iff.1 e1).2, (List.getElem?_eq_some_iff.1 e2).2])
    · obtain ⟨c, k1, _⟩ := get hb
      exact hR.own _ _ k1 g hg
    · have := hR.kept (nth ρ i)
      rw [hfirst i hi] at this
      rw [hfirst i hi]
      exact this (by rw [hk]; exact hi)
    · have m1 : VRelL (okF S.H val') w' S.H.length val' [.cells cs, S.tm.getD u .undef] [.agg cur, a.tmps.getD u undef] := by
        simp only [VRelL, VRel, and_true]
        exact ⟨⟨cur.toList, by simp, b3, b4⟩, hR.tmps u⟩
      have m2 : VRelL NoB w' post.length (fun i => val' (nth ρ i)) res [.agg cur, a.tmps.getD u undef] := (VRelL.unren (N := post.length) (val := fun i => val' (nth ρ i)) (fun n _ => ⟨rfl, rfl⟩) o6 (m1.le h1)).flat o5
      have m3 := m2.len
      unfold ResV
      match res, m2, m3 with
      | [r], m2, m3 => simp at m3
      | [], m2, m3 => simp at m3
      | r :: r' :: rs, m2, _ => exact ⟨_, rfl, m2⟩
  cases x with
  | normal => exact core
  | ret => exact core
  | exit i => exact (hxe (.exit i) rfl).elim
  | goto l => exact (hxe (.goto l) rfl).elim
theorem fnC (p u n : Nat) (ty : TypeId) {f : FuncId} {fn : Func} {c : Code} {args : List AV} {pre : Hp} {res : List AV} {post : Hp}
    (hf : Try.prog.funcs[f]? = some fn) (hb : fn.body = some c) (hname : (fn.name != "runtime.NumGoroutine") = true) (hres : fn.results = #[.cell p ty, .tmp u]) (hag : isAggB Try.prog ty = some true) (hsz : szOf Try.prog ty = some n) (hdr : drawB c = true) (hpl : pre.length ≤ post.length) (hnt : args.length ≤ fn.ntmps)
    (h : vc (fun _ => Try.prog) (fun _ => tab) c (EndC pre.length p u n res post) ⟨args ++ List.replicate (fn.ntmps - args.length) .undef, pre, pre.length⟩) : Spec2 Try.prog f args pre res post :=
  Spec2.ofC (P := fun _ => Try.prog) (T := fun _ => tab) p u n ty hf hb hname hres hag hsz hpl hnt (vc_sound tabOk mixed c _ _ hdr h)
end Go.Proofs.Ythogfineaeklpaa.M
/- Numbers in rows, as numbers. -/
namespace Go.Proofs.Ythogfineaeklpaa.M
open Go.RowKit Abs
set_option linter.unusedSimpArgs false
set_option linter.unusedVariables false
set_option maxRecDepth 100000
set_option maxHeartbeats 4000000
def gi (l : List Int) (i : Int) : Int := l.getD i.toNat 0
theorem getI_gi (l : List Int) (i : Int) : (getI .int l i : Int) = gi l i := rfl
theorem gi_get {l : List Int} {i : Int} (h0 : 0 ≤ i) (h1 : i < (l.length : Int)) : l[i.toNat]? = some (gi l i) := getI_get (t := .int) h0 h1
theorem gi_mem {l : List Int} {i : Int} (h0 : 0 ≤ i) (h1 : i < (l.length : Int)) : gi l i ∈ l := List.mem_of_getElem? (gi_get h0 h1)
theorem take_gi {l : List Int} {i : Int} (h0 : 0 ≤ i) (h1 : i < (l.length : Int)) : l.take (i + 1).toNat = l.take i.toNat ++ [gi l i] := take_getI (t := .int) h0 h1
theorem gi_set {l : List Int} {i j x : Int} : gi (setI l i x) j = if i.toNat = j.toNat ∧ i.toNat < l.length then x else gi l j := by
  unfold gi setI
  rw [List.getD_eq_getElem?_getD, List.getD_eq_getElem?_getD, List.getElem?_set]
  by_cases h : i.toNat = j.toNat
  · by_cases h2 : i.toNat < l.length
    · rw [if_pos h, if_pos h2, if_pos ⟨h, h2⟩]; rfl
    · rw [if_pos h, if_neg h2, if_neg (fun c => h2 c.2), List.getElem?_eq_none (by omega)]
  · rw [if_neg h, if_neg (fun c => h c.1)]
theorem setI_len {α : Type} (L : List α) (i : Int) (y : α) : (setI L i y).length = L.length := by simp [setI]
end Go.Proofs.Ythogfineaeklpaa.M
