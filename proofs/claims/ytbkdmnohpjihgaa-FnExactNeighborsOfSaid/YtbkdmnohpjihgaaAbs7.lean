/- Calls: what a function is known to answer, and what a caller knows behind a call. -/
import Derived.Test.YtbkdmnohpjihgaaAbs6
namespace Go.Proofs.Ytbkdmnohpjihgaa.Abs
open Go.RowKit
set_option linter.unusedVariables false

inductive Res where
  | im (t : Ty) (x : t.den)
  | own (e : TypeId) (t : Ty) (l : List t.den)
def ResRel (ok : Nat → Prop) (base : Nat) (w : World) : Res → Value → Prop
  | .im t x, v => IRel ok w t x v
  | .own e t l, v => (∀ g, ownB v = some g → ok g) ∧ ∃ xs, w.ownsRow base e t.n v l.length xs ∧ RepL (fun b => ok b ∧ ownB v ≠ some b) w t l xs
def Res.isOwn : Res → Bool
  | .own _ _ _ => true
  | _ => false
/-- What stands behind a call: one result, or several. -/
def SpecPost (res : List Res) (w : World) (e : Ending) (w' : World) : Prop :=
  ∃ v, e = .returned v ∧ Below w.heap.size w w' ∧
    (match res with
     | [r] => ResRel (fun b => w.heap.size ≤ b) w.heap.size w' r v
     | rs => ∃ vs : List Value, v = .tuple vs.toArray ∧ vs.length = rs.length ∧ ∀ (i : Nat) (r : Res), rs[i]? = some r → ∃ u, vs[i]? = some u ∧
        ResRel (fun b => w.heap.size ≤ b ∧ ∀ (j : Nat) (r' : Res) (u' : Value), j ≠ i → rs[j]? = some r' → r'.isOwn = true → vs[j]? = some u' → ownB u' ≠ some b) w.heap.size w' r u)
def enters (P : Program) (f : FuncId) : Bool :=
  match P.funcs[f]? with
  | some fn => fn.body.isSome && fn.name != "runtime.NumGoroutine"
  | none => false
def ArgRel (w : World) (x : AV) (v : Value) : Prop := VRel (fun _ => True) w 0 (fun _ => undef) x v
/-- For all arguments that read so, in whatever world: the call returns, with these results; nothing that was there has changed. -/
def Spec (P : Program) (f : FuncId) (args : List AV) (res : List Res) : Prop :=
  enters P f = true ∧ ∀ (w : World) (vs : List Value), vs.length = args.length → (∀ (i : Nat) (x : AV), args[i]? = some x → ∃ v, vs[i]? = some v ∧ ArgRel w x v) → Calls P f vs.toArray w (SpecPost res w)
/-- A caller's value as an argument. -/
def argOf (S : AS) : AV → AV
  | .ref n => (match S.H[n]? with
    | some (some (.row _ t l)) => .sl t l
    | _ => .junk)
  | .tup _ => .junk
  | .ptr _ _ => .junk
  | .eptr _ _ _ => .junk
  | x => x
def Res.av : Res → AV
  | .im t x => inj t x
  | .own _ t l => .sl t l
def Res.ra : Res → RA
  | .im t x => .v t x
  | .own _ t l => .v (.sl t) l
def resAV : List Res → AV
  | [r] => r.av
  | rs => .tup (rs.map Res.ra)
def argsOk (S : AS) : List AV → List AV → Prop
  | [], [] => True
  | x :: xs, y :: ys => (y = argOf S x ∨ (x = .nilsl ∧ ∃ t, y = .sl t [])) ∧ argsOk S xs ys
  | _, _ => False
def qcall (P : Program) (S : AS) (o : Oper) (v : AV) : Prop :=
  match o.op with
  | .call c => (match c.callee with
    | .value f => (match S.ev f with
      | .fn f cap => ∃ args res, argsOk S (c.args.toList.map S.ev) args ∧ Spec P f (args ++ cap.map fun c => .iptr c.1 c.2) res ∧ v = resAV res
      | .fn2 g f cap => ∃ args res, argsOk S (c.args.toList.map S.ev) args ∧ Spec P g (args ++ [.ifn f cap]) res ∧ v = resAV res
      | _ => False)
    | _ => False)
  | _ => False
section
variable {P : Program} {w0 w : World} {S : AS} {a : Act} {val : Nat → Value}
theorem keep_arg {ok : Nat → Prop} {N : Nat} : Keep ok (fun _ => True) w w 0 0 (fun _ => undef) (fun _ => undef) := ⟨Nat.le_refl _, fun _ _ _ => ⟨trivial, rfl⟩, Nat.le_refl _, fun _ _ => rfl⟩
theorem PRel.weak {ok ok' : Nat → Prop} (h : ∀ b, ok b → ok' b) {t : Ty} {x : t.den} {v : Value} (hp : PRel ok w t x v) : PRel ok' w t x v :=
  PRel.keep (N := 0) (N' := 0) (val := fun _ => undef) (val' := fun _ => undef) ⟨Nat.le_refl _, fun b hb _ => ⟨h b hb, rfl⟩, Nat.le_refl _, fun _ _ => rfl⟩ hp
theorem IFRel.weak {ok ok' : Nat → Prop} (h : ∀ b, ok b → ok' b) {f : FuncId} {cap : List TV} {v : Value} (hp : IFRel ok w f cap v) : IFRel ok' w f cap v :=
  IFRel.keep (N := 0) (N' := 0) (val := fun _ => undef) (val' := fun _ => undef) ⟨Nat.le_refl _, fun b hb _ => ⟨h b hb, rfl⟩, Nat.le_refl _, fun _ _ => rfl⟩ hp
theorem Rep.weak {ok ok' : Nat → Prop} (h : ∀ b, ok b → ok' b) {t : Ty} {x : t.den} {cs : List Value} (hp : Rep ok w t x cs) : Rep ok' w t x cs :=
  Rep.mono (Nat.le_refl _) (fun b hb _ => ⟨h b hb, rfl⟩) hp
theorem IRel.weak {ok ok' : Nat → Prop} (h : ∀ b, ok b → ok' b) {t : Ty} {x : t.den} {v : Value} (hp : IRel ok w t x v) : IRel ok' w t x v :=
  IRel.keep (N := 0) (N' := 0) (val := fun _ => undef) (val' := fun _ => undef) ⟨Nat.le_refl _, fun b hb _ => ⟨h b hb, rfl⟩, Nat.le_refl _, fun _ _ => rfl⟩ hp
/-- A row of the call's own reads as a slice. -/
theorem row_rep {ok : Nat → Prop} {base : Nat} {e : TypeId} {t : Ty} {l : List t.den} {v : Value} {xs : List Value} (ho : w.ownsRow base e t.n v l.length xs) (hr : RepL ok w t l xs)
    (hg : ∀ g, ownB v = some g → ok g) : Rep ok w (.sl t) l [v] := by
  unfold Rep
  rcases ho.2 with ⟨rfl, hl⟩ | ⟨g, cap, cur, rfl, hb, hgg, hn, hc, hs, ht⟩
  · have : l = [] := List.eq_nil_of_length_eq_zero hl
    subst this
    exact ⟨none, 0, rfl, Nat.le_refl _, by simp [maxLen], .inl rfl⟩
  · refine ⟨_, cap, rfl, hn, Nat.le_trans hn hc, ?_⟩
    by_cases hl : l = []
    · exact .inl hl
    · refine .inr ⟨g, 0, xs, rfl, hg g rfl, (Array.getElem?_eq_some_iff.1 hgg).1, hr.1, fun j u hu => ?_, hr.2⟩
      have := ho.cells (g := g) rfl j u hu
      rw [Addr.add_lit] at this
      exact this
theorem arg_ok (hR : Rl w0 S a w val) {x y : AV} {v : Value} (hx : VRel (okB S.H val) w S.H.length val x v) (hy : y = argOf S x ∨ (x = .nilsl ∧ ∃ t, y = .sl t [])) : ArgRel w y v := by
  rcases hy with rfl | ⟨rfl, t, rfl⟩
  · unfold ArgRel
    cases x with
    | ref n =>
      unfold argOf
      simp only
      split
      · rename_i e t l hH
        obtain ⟨xs, h1, h2⟩ := hR.heap n _ hH
        rw [hx.2]
        exact row_rep h1 ⟨h2.1, fun i y hy => (h2.2 i y hy).weak fun _ _ => trivial⟩ fun _ _ => trivial
      · trivial
    | tup l => trivial
    | ptr n i => trivial
    | eptr n i k => trivial
    | int x => exact hx
    | bool x => exact hx
    | str x => exact hx
    | u8 x => exact hx
    | u64 x => exact hx
    | sl t l => exact Rep.weak (fun _ _ => trivial) hx
    | agg t d => obtain ⟨cs, h1, h2⟩ := hx; exact ⟨cs, h1, h2.weak fun _ _ => trivial⟩
    | iptr t d => exact PRel.weak (fun _ _ => trivial) hx
    | fn f cap =>
      obtain ⟨vs, h1, h2, h3⟩ := hx
      exact ⟨vs, h1, h2, fun i r hr => let ⟨u, hu, hp⟩ := h3 i r hr; ⟨u, hu, PRel.weak (fun _ _ => trivial) hp⟩⟩
    | ifn f cap => exact IFRel.weak (fun _ _ => trivial) hx
    | fn2 g f cap => obtain ⟨p, h1, h2⟩ := hx; exact ⟨p, h1, IFRel.weak (fun _ _ => trivial) h2⟩
    | nilsl => exact hx
    | undef => exact hx
    | junk => trivial
  · have e : v = .slice none 0 0 := hx
    subst e
    show Rep _ w (.sl t) [] _
    unfold Rep
    exact ⟨none, 0, rfl, Nat.le_refl _, by simp [maxLen], .inl rfl⟩
theorem args_ok (hR : Rl w0 S a w val) : ∀ {xs ys : List AV} {vs : List Value}, argsOk S xs ys → xs.length = vs.length → (∀ (i : Nat) (x : AV), xs[i]? = some x → ∃ v, vs[i]? = some v ∧ VRel (okB S.H val) w S.H.length val x v) →
    vs.length = ys.length ∧ ∀ (i : Nat) (y : AV), ys[i]? = some y → ∃ v, vs[i]? = some v ∧ ArgRel w y v
  | [], [], vs, _, hl, _ => ⟨hl.symm, fun i y hy => by simp at hy⟩
  | [], _ :: _, _, h, _, _ => h.elim
  | _ :: _, [], _, h, _, _ => h.elim
  | x :: xs, y :: ys, [], h, hl, _ => by simp at hl
  | x :: xs, y :: ys, v :: vs, h, hl, hr => by
    obtain ⟨h1, h2⟩ := args_ok hR h.2 (vs := vs) (by simpa using hl) (fun i x hx => by simpa using hr (i + 1) x (by simpa using hx))
    refine ⟨by simp [h1], fun i z hz => ?_⟩
    cases i with
    | zero =>
      simp at hz
      subst hz
      obtain ⟨u, hu, hv⟩ := hr 0 x rfl
      simp at hu
      subst hu
      exact ⟨_, rfl, arg_ok hR hv h.1⟩
    | succ i => simpa using h2 i z (by simpa using hz)
theorem fresh_ok (hR : Rl w0 S a w val) {b : Nat} (hb : w.heap.size ≤ b) : okB S.H val b := by
  intro n B hB hg
  have hH := hR.heap n B hB
  cases B with
  | row e t l =>
    obtain ⟨xs, h1, _⟩ := hH
    rcases h1.2 with ⟨h2, _⟩ | ⟨g', cap, cur, hv, _, hgg, _⟩
    · rw [h2] at hg; cases hg
    · rw [hv] at hg; cases hg
      have := (Array.getElem?_eq_some_iff.1 hgg).1
      simp only at hb; omega
  | box e cs =>
    obtain ⟨g', cur, hv, _, hgg, _⟩ := hH
    rw [hv] at hg; cases hg
    have := (Array.getElem?_eq_some_iff.1 hgg).1
    simp only at hb; omega
theorem res_irel {ok ok' : Nat → Prop} {base : Nat} {r : Res} {v : Value} (hk : ∀ b, ok b → ok' b) (h : ResRel ok base w r v) : RRel ok' w 0 (fun _ => undef) r.ra v := by
  cases r with
  | im t x => exact IRel.weak hk h
  | own e t l =>
    obtain ⟨h0, xs, h1, h2⟩ := h
    show IRel ok' w (.sl t) l v
    unfold IRel
    simp only [Ty.isPr]
    exact row_rep h1 ⟨h2.1, fun i y hy => (h2.2 i y hy).weak fun b hb => hk b hb.1⟩ fun g hg => hk g (h0 g hg)
theorem rrel_any {ok : Nat → Prop} {r : Res} {v : Value} {N : Nat} {val : Nat → Value} (h : RRel ok w 0 (fun _ => undef) r.ra v) : RRel ok w N val r.ra v := by cases r <;> exact h
theorem run_callFunc {f : FuncId} {args : Array Value} (h : enters P f = true) : (callFunc f args).run P w = .ok (.enter f args) w := by
  unfold enters at h
  cases hfn : P.funcs[f]? with
  | none => rw [hfn] at h; cases h
  | some fn =>
    rw [hfn] at h
    simp only [Bool.and_eq_true] at h
    obtain ⟨hb, hname⟩ := h
    have hb' : fn.body.isNone = false := by cases hfb : fn.body <;> simp_all
    have hn' : (fn.name == "runtime.NumGoroutine") = false := by simpa using hname
    unfold callFunc
    rw [Sem.run_bind, run_program]
    simp only [Result.andThen_ok, hfn, hn', hb', Bool.false_eq_true, if_false]
    rfl
/-- **A call, its results taken as values.** -/
theorem call_sound (hR : Rl w0 S a w val) {o : Oper} {v : AV} (h : qcall P S o v) {next : Act → World → Prop} {Q : Exit → Act → World → Prop}
    (hn : ∀ a' w', Rl w0 (S.put o.dst v) a' w' val → next a' w') : o.wp P a w next Q := by
  obtain ⟨dst, op, type, pos, after, guard⟩ := o
  unfold qcall at h
  simp only at h
  split at h
  · rename_i c
    obtain ⟨callee, args, ts⟩ := c
    simp only at h
    split at h
    · rename_i f
      have hf := hR.ev f
      have core : ∀ (f' : FuncId) (caps : List AV) (cvs : List Value), a.eval f = .func (.func f') #[] cvs.toArray → cvs.length = caps.length → (∀ (i : Nat) (c : AV), caps[i]? = some c → ∃ u, cvs[i]? = some u ∧ ArgRel w c u) →
          (∃ args' res, argsOk S (args.toList.map S.ev) args' ∧ Spec P f' (args' ++ caps) res ∧ v = resAV res) → Oper.wp P { dst := dst, op := .call { callee := .value f, args := args, argTypes := ts }, type := type, pos := pos, after := after, guard := guard } a w next Q := by
        intro f' caps cvs hf1 hf2 hf3 h
        obtain ⟨args', res, h1, ⟨hent, hsp⟩, rfl⟩ := h
        obtain ⟨k1, k2⟩ := args_ok hR (vs := args.toList.map a.eval) h1 (by simp) (fun i x hx => by
          rw [List.getElem?_map] at hx ⊢
          cases hc : args.toList[i]? with
          | none => rw [hc] at hx; cases hx
          | some z => rw [hc] at hx; cases hx; exact ⟨_, rfl, hR.ev z⟩)
        have hcalls := hsp w (args.toList.map a.eval ++ cvs) (by simp [hf2]; simpa using k1) (fun i x hx => by
          by_cases hi : i < args'.length
          · rw [List.getElem?_append_left hi] at hx
            obtain ⟨u, hu, hv⟩ := k2 i x hx
            exact ⟨u, by rw [List.getElem?_append_left (by rw [k1]; exact hi)]; exact hu, hv⟩
          · rw [List.getElem?_append_right (by omega)] at hx
            obtain ⟨u, hu, hp⟩ := hf3 _ x hx
            exact ⟨u, by rw [List.getElem?_append_right (by rw [k1]; omega), k1]; exact hu, hp⟩)
        have hrun : (execOp a.eval { dst := dst, op := .call { callee := .value f, args := args, argTypes := ts }, type := type, pos := pos, after := after, guard := guard }).run P w = .ok (.enter f' (args.toList.map a.eval ++ cvs).toArray) w := by
          have e1 : args.map a.eval ++ cvs.toArray = (args.toList.map a.eval ++ cvs).toArray := by apply Array.ext'; simp
          have hc := run_callFunc (w := w) (args := (args.toList.map a.eval ++ cvs).toArray) hent
          rw [← e1] at hc
          simp [execOp, resolve, hf1, Deferred.ofValue, invoke, hc, ← e1]
        unfold Oper.wp
        rw [hrun, Oper.upon_enter]
        refine hcalls.mono ?_
        rintro e w' ⟨u, rfl, hb, hres⟩
        refine hn _ _ ((hR.grow hb).put dst ?_)
        have hk : ∀ b, w.heap.size ≤ b → okB S.H val b := fun b hb => fresh_ok hR hb
        have one : ∀ (r : Res) (u : Value) (ok' : Nat → Prop), (∀ b, ok' b → w.heap.size ≤ b) → ResRel ok' w.heap.size w' r u → RRel (okB S.H val) w' S.H.length val r.ra u := fun r u ok' h1 h2 =>
          rrel_any (res_irel (fun b hb => hk b (h1 b hb)) h2)
        have multi : ∀ rs : List Res, (∃ vs : List Value, u = .tuple vs.toArray ∧ vs.length = rs.length ∧ ∀ (i : Nat) (r : Res), rs[i]? = some r → ∃ u, vs[i]? = some u ∧
            ResRel (fun b => w.heap.size ≤ b ∧ ∀ (j : Nat) (r' : Res) (u' : Value), j ≠ i → rs[j]? = some r' → r'.isOwn = true → vs[j]? = some u' → ownB u' ≠ some b) w.heap.size w' r u) →
            VRel (okB S.H val) w' S.H.length val (.tup (rs.map Res.ra)) u := by
          rintro rs ⟨vs, m1, m2, m3⟩
          refine ⟨vs, m1, by simp [m2], fun i r hr => ?_⟩
          rw [List.getElem?_map] at hr
          cases hc : rs[i]? with
          | none => rw [hc] at hr; cases hr
          | some z =>
            rw [hc] at hr
            cases hr
            obtain ⟨u, hu, hv⟩ := m3 i z hc
            exact ⟨u, hu, one _ _ _ (fun b hb => hb.1) hv⟩
        match res, hres with
        | [], hres => exact multi [] hres
        | [r], hres =>
          have := one r u _ (fun b hb => hb) hres
          cases r with
          | im t x => exact inj_rel this
          | own e t l =>
            have h2 : IRel (okB S.H val) w' (.sl t) l u := this
            simp only [IRel, Ty.isPr] at h2
            exact h2
        | r :: r' :: rs, hres => exact multi (r :: r' :: rs) hres
      split at h
      · rename_i f' cap ef
        rw [ef] at hf
        obtain ⟨cvs, hf1, hf2, hf3⟩ := hf
        exact core f' (cap.map fun c => .iptr c.1 c.2) cvs hf1 (by simp [hf2]) (fun i c hc => by
          rw [List.getElem?_map] at hc
          cases hz : cap[i]? with
          | none => rw [hz] at hc; cases hc
          | some z => rw [hz] at hc; cases hc; obtain ⟨u, hu, hp⟩ := hf3 i z hz; exact ⟨u, hu, PRel.weak (fun _ _ => trivial) hp⟩) h
      · rename_i g f' cap ef
        rw [ef] at hf
        obtain ⟨p, hf1, hf2⟩ := hf
        exact core g [.ifn f' cap] [p] hf1 rfl (fun i c hc => by
          match i, hc with
          | 0, hc => cases hc; exact ⟨p, rfl, IFRel.weak (fun _ _ => trivial) hf2⟩
          | i + 1, hc => simp at hc) h
      · exact h.elim
    · exact h.elim
  · exact h.elim
end
end Go.Proofs.Ytbkdmnohpjihgaa.Abs
