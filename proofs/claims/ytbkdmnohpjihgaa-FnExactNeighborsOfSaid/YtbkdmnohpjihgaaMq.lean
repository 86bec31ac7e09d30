/- Regions: operations one behind the other, and operations whose order is drawn. -/
import Derived.Test.YtbkdmnohpjihgaaMp
namespace Go.Proofs.Ytbkdmnohpjihgaa.M
open Go.RowKit Abs
set_option linter.unusedVariables false
set_option linter.unusedSimpArgs false

structure IfP (b : Unit → Bool) (p q : Prop) : Prop where
  t : b () = true → p
  f : b () = false → q
structure Obl (p : Unit → Prop) : Prop where
  out : p ()
def obP : Ob → Prop → Prop
  | none, k => k
  | some p, k => Obl p ∧ k
theorem obP_out {O : Ob} {k : Prop} (h : obP O k) : O.holds ∧ k := by
  cases O with
  | none => exact ⟨trivial, h⟩
  | some p => exact ⟨h.1.out, h.2⟩
inductive Bad (o : Oper) : Prop
/-- A call: by what is known of its function. -/
structure CallL (P : Unit → Program) (T : Unit → Tab) (S : AS) (ts : List TypeId) (fv : AV) (xs us : List AV) (K : AV → AS → Prop) : Prop where
  out : ∃ f' cap σ args' pre res post, fv = .fn f' cap ∧ σ.Nodup ∧ Spec2 (P ()) f' args' pre res post ∧ preM S.H σ σ pre ∧ argsM σ (xs ++ cap) (argVs (T ()) (dropC σ S.H) ts (xs ++ cap)) args' ∧ K (resA (rho σ S.H.length post.length) res) (S.after σ post)
mutual
/-- What is handed back, as a datum. -/
def frz (post : Hp) : AV → AV
  | .ref n => (match post[n]? with
    | some (some (.row _ t l)) => .sl t l
    | some (some (.rows _ _ t l)) => .sl (.sl t) l
    | _ => .junk)
  | .cells l => .cells (frzL post l)
  | .tup l => .tup (frzL post l)
  | .int x => .int x | .lit b => .lit b | .bool b => .bool b | .str s => .str s | .u8 x => .u8 x | .u64 x => .u64 x
  | .nilsl => .nilsl | .undef => .undef
  | .agg t x => if (t.flat) = true then .agg t x else .junk
  | _ => .junk
def frzL (post : Hp) : List AV → List AV
  | [] => []
  | x :: xs => frz post x :: frzL post xs
end
def res1 : List AV → AV
  | [r] => r
  | rs => .tup rs
/-- A call whose results are taken as data. -/
structure CallQ (P : Unit → Program) (T : Unit → Tab) (S : AS) (ts : List TypeId) (fv : AV) (xs us : List AV) (K : AV → Prop) : Prop where
  out : ∃ f' cap args' res post, fv = .fn f' cap ∧ Spec2 (P ()) f' args' [] res post ∧ argVs (T ()) S.H ts (xs ++ cap) = args' ∧ K (frz post (res1 res))
def capOf : AV → List AV
  | .fn _ cap => cap
  | _ => []
def stepP (P : Unit → Program) (T : Unit → Tab) (o : Oper) (S : AS) (K : AS → Prop) : Prop :=
  match o.op with
  | .call c => (match c.callee with
    | .value f => CallL P T S c.argTypes.toList (S.ev f) (c.args.toList.map S.ev) (argVs (T ()) S.H c.argTypes.toList (c.args.toList.map S.ev ++ capOf (S.ev f))) fun v S' => K (S'.put o.dst v)
    | .builtin .append => (match memF (T ()) S o with | some (S', O) => obP O (K S') | none => Bad o)
    | .builtin _ => (match qv (T ()) S o with | some (v, O) => obP O (K (S.put o.dst v)) | none => Bad o)
    | _ => Bad o)
  | .box _ _ => (match memF (T ()) S o with | some (S', O) => obP O (K S') | none => Bad o)
  | .alloc _ => (match memF (T ()) S o with | some (S', O) => obP O (K S') | none => Bad o)
  | .store _ _ _ => (match memF (T ()) S o with | some (S', O) => obP O (K S') | none => Bad o)
  | .buildSlice _ _ _ => (match memF (T ()) S o with | some (S', O) => obP O (K S') | none => Bad o)
  | .makeSlice _ _ _ => (match memF (T ()) S o with | some (S', O) => obP O (K S') | none => Bad o)
  | _ => (match qv (T ()) S o with | some (v, O) => obP O (K (S.put o.dst v)) | none => Bad o)
def AS.setT (S : AS) (t : Tmp) (v : AV) : AS := { S with tm := S.tm.set t v }
def aseq (P : Unit → Program) (T : Unit → Tab) (ops : List Oper) (Q : AS → Prop) : List Oper → AS → Prop
  | [], S => Q S
  | o :: r, S => (match o.guard with
    | none => stepP P T o S (aseq P T ops Q r)
    | some (j, want) => (match (ops[j]?).bind (·.dst) with
      | some t => (match S.tm[t]? with
        | some (.lit b) => if (b == want) = true then stepP P T o S (aseq P T ops Q r) else aseq P T ops Q r (S.put o.dst .undef)
        | some .undef => aseq P T ops Q r (S.put o.dst .undef)
        | some (.bool b) => if (want) = true then IfP b (stepP P T o (S.setT t (.lit true)) (aseq P T ops Q r)) (aseq P T ops Q r ((S.setT t (.lit false)).put o.dst .undef))
            else IfP b (aseq P T ops Q r ((S.setT t (.lit true)).put o.dst .undef)) (stepP P T o (S.setT t (.lit false)) (aseq P T ops Q r))
        | _ => Bad o)
      | none => Bad o))
def gd (S : AS) (ops : List Oper) (o : Oper) : Option Bool :=
  match o.guard with
  | none => some true
  | some (j, want) => (match (ops[j]?).bind (·.dst) with
    | some t => (match S.tm[t]? with
      | some (.lit b) => some (b == want)
      | some .undef => some false
      | _ => none)
    | none => none)
def isGuard (ops : List Oper) (d : Option Tmp) : Bool := ops.any fun q => match q.guard with
  | some (j, _) => (match (ops[j]?).bind (·.dst), d with | some t, some u => t == u | _, _ => false)
  | none => false
def litP (ops : List Oper) (d : Option Tmp) (v : AV) (K : AV → Prop) : Prop :=
  match v with
  | .bool b => if (isGuard ops d) = true then IfP b (K (.lit true)) (K (.lit false)) else K (.bool b)
  | v => K v
def aqui (P : Unit → Program) (T : Unit → Tab) (ops : List Oper) (Q : AS → Prop) : List Oper → AS → Prop
  | [], S => Q S
  | o :: r, S => (match gd S ops o with
    | some true => (match o.op with
      | .call c => (match c.callee with
        | .value f => CallQ P T S c.argTypes.toList (S.ev f) (c.args.toList.map S.ev) (argVs (T ()) S.H c.argTypes.toList (c.args.toList.map S.ev ++ capOf (S.ev f))) fun v => litP ops o.dst v fun v' => aqui P T ops Q r (S.put o.dst v')
        | .builtin .append => Bad o
        | .builtin _ => (match qv (T ()) S o with | some (v, O) => obP O (litP ops o.dst v fun v' => aqui P T ops Q r (S.put o.dst v')) | none => Bad o)
        | _ => Bad o)
      | _ => (match qv (T ()) S o with | some (v, O) => obP O (litP ops o.dst v fun v' => aqui P T ops Q r (S.put o.dst v')) | none => Bad o))
    | some false => aqui P T ops Q r (S.put o.dst .undef)
    | none => Bad o)

section
variable {P : Unit → Program} {T : Unit → Tab} {w0 w w1 : World} {B : Nat → Prop} {hd : Nat → Value} {S : AS} {a : Act} {val : Nat → Bd} {ops : Array Oper}
theorem q_step (hT : TOk (P ()) (T ())) (hR : Rl w0 B hd S a w val) {o : Oper} {v : AV} {O : Ob} (h : qv (T ()) S o = some (v, O)) (hO : O.holds) {next : Act → World → Prop} {Q : Exit → Act → World → Prop}
    (hn : ∀ a' w', (∀ v', (v' = v ∨ ∃ b, v = .bool b ∧ v' = .lit (b ())) → Rl w0 B hd (S.put o.dst v') a' w' val) → next a' w') : o.wp (P ()) a w next Q := by
  obtain ⟨u, h1, h2⟩ := q_sound hT hR h hO
  refine wp_of_value h1 (hn _ _ fun v' hv' => hR.put o.dst ?_)
  rcases hv' with rfl | ⟨b, rfl, rfl⟩
  · exact h2
  · simpa [VRel] using h2
theorem Rl.getTmp (hR : Rl w0 B hd S a w val) {t : Nat} {x : AV} (h : S.tm[t]? = some x) : ∃ u, a.tmps[t]? = some u ∧ VRel (okF S.H val) w S.H.length val x u := by
  have hlt : t < a.tmps.size := by rw [hR.len]; exact (List.getElem?_eq_some_iff.1 h).1
  refine ⟨a.tmps[t], by simp [hlt], ?_⟩
  have := hR.tmps t
  simpa [List.getD_eq_getElem?_getD, h, hlt] using this
theorem wanted_of {o : Oper} {j : Nat} {want : Bool} (hg : o.guard = some (j, want)) {t : Tmp} (ht : (ops.toList[j]?).bind (·.dst) = some t) {u : Value} (hu : a.tmps[t]? = some u) {b : Bool} (hb : (u = .bool b)) : Region.wanted o (yielded ops a.tmps) = (b == want) := by
  unfold Region.wanted
  rw [hg]
  simp only
  unfold yielded
  have ht' : (ops[j]?).bind (·.dst) = some t := by simpa using ht
  rw [ht']
  simp only [Option.bind_some]
  rw [hu, hb]
  cases b <;> cases want <;> rfl
theorem wanted_undef {o : Oper} {j : Nat} {want : Bool} (hg : o.guard = some (j, want)) {t : Tmp} (ht : (ops.toList[j]?).bind (·.dst) = some t) (hu : a.tmps[t]? = some (.tuple #[])) : Region.wanted o (yielded ops a.tmps) = false := by
  unfold Region.wanted
  rw [hg]
  simp only
  unfold yielded
  have ht' : (ops[j]?).bind (·.dst) = some t := by simpa using ht
  rw [ht']
  simp only [Option.bind_some]
  rw [hu]
  rfl
theorem wanted_none {o : Oper} (hg : o.guard = none) (f : Nat → Option Bool) : Region.wanted o f = true := by
  unfold Region.wanted; rw [hg]
theorem Rl.setT (hR : Rl w0 B hd S a w val) {t : Tmp} {b : Unit → Bool} (h : S.tm[t]? = some (.bool b)) {c : Bool} (hb : b () = c) : Rl w0 B hd (S.setT t (.lit c)) a w val := by
  refine ⟨hR.fr, by simp [AS.setT, hR.len], hR.defers, fun u => ?_, hR.heap, hR.own, hR.kept, hR.kle⟩
  have := hR.tmps u
  simp only [AS.setT, List.getD_eq_getElem?_getD] at this ⊢
  by_cases hut : t = u
  · subst hut
    rw [List.getElem?_set_self (List.getElem?_eq_some_iff.1 h).1]
    rw [h] at this
    simp only [Option.getD_some, VRel] at this ⊢
    rw [this, hb]
  · rw [List.getElem?_set_ne hut]; exact this
theorem undef_rel {ok : Nat → Prop} {N : Nat} : VRel ok w N val .undef undef := by simp only [VRel]; rfl
theorem stepP_sound (hT : TOk (P ()) (T ())) (hR : Rl w0 B hd S a w val) {o : Oper} {K : AS → Prop} (h : stepP P T o S K) {next : Act → World → Prop} {Q : Exit → Act → World → Prop}
    (hn : ∀ S' a' w' val', K S' → Rl w0 B hd S' a' w' val' → next a' w') : o.wp (P ()) a w next Q := by
  have quiet : (match qv (T ()) S o with | some (v, O) => obP O (K (S.put o.dst v)) | none => Bad o) → o.wp (P ()) a w next Q := by
    intro h
    split at h
    · rename_i v O hq
      obtain ⟨h1, h2⟩ := obP_out h
      exact q_step hT hR hq h1 fun a' w' hR' => hn _ _ _ _ h2 (hR' v (.inl rfl))
    · cases h
  have mem : (match memF (T ()) S o with | some (S', O) => obP O (K S') | none => Bad o) → o.wp (P ()) a w next Q := by
    intro h
    split at h
    · rename_i S' O hq
      obtain ⟨h1, h2⟩ := obP_out h
      exact mem_sound hT hR hq h1 fun a' w' val' hR' => hn _ _ _ _ h2 hR'
    · cases h
  unfold stepP at h
  split at h
  · rename_i c hop
    obtain ⟨callee, args, ts⟩ := c
    simp only at h
    split at h
    · rename_i f
      obtain ⟨f', cap, σ, args', pre, res, post, h1, h2, h3, h4, h5, h6⟩ := h.out
      exact call_step hT hR hop h1 h2 h3 h4 h5 fun a' w' val' hR' => hn _ _ _ _ h6 hR'
    · exact mem h
    · exact quiet h
    · cases h
  · exact mem h
  · exact mem h
  · exact mem h
  · exact mem h
  · exact mem h
  · exact quiet h
theorem aseq_sound (hT : TOk (P ()) (T ())) {K : AS → Prop} {Q : Exit → Act → World → Prop} (hK : ∀ S' a' w' val', K S' → Rl w0 B hd S' a' w' val' → Q .normal a' w') : ∀ (l : List Oper) (k : Nat) (S : AS) (a : Act) (w : World) (val : Nat → Bd),
    (∀ j, l[j]? = ops[k + j]?) → aseq P T ops.toList K l S → Rl w0 B hd S a w val → wpList (P ()) ops Q l a w
  | [], k, S, a, w, val, _, h, hR => hK _ _ _ _ (by simpa [aseq] using h) hR
  | o :: l, k, S, a, w, val, hl, h, hR => by
    have hl' : ∀ j, l[j]? = ops[k + 1 + j]? := fun j => by have := hl (j + 1); simpa [Nat.add_assoc, Nat.add_comm 1 j] using this
    have yes : ∀ {S : AS}, Rl w0 B hd S a w val → Region.wanted o (yielded ops a.tmps) = true → stepP P T o S (aseq P T ops.toList K l) → wpList (P ()) ops Q (o :: l) a w := fun hR hw h => by
      unfold wpList
      rw [hw, if_pos rfl]
      exact .inl (stepP_sound hT hR h fun S' a' w' val' h1 h2 => aseq_sound hT hK l (k + 1) S' a' w' val' hl' h1 h2)
    have no : ∀ {S : AS}, Rl w0 B hd S a w val → Region.wanted o (yielded ops a.tmps) = false → aseq P T ops.toList K l (S.put o.dst .undef) → wpList (P ()) ops Q (o :: l) a w := fun hR hw h => by
      unfold wpList
      rw [hw]
      exact aseq_sound hT hK l (k + 1) _ _ _ _ hl' h (hR.put o.dst undef_rel)
    unfold aseq at h
    split at h
    · rename_i hg
      exact yes hR (wanted_none hg _) h
    · rename_i j want hg
      split at h
      · rename_i t ht
        split at h
        · rename_i b hb
          obtain ⟨u, hu, hv⟩ := hR.getTmp hb
          simp only [VRel] at hv
          have hw := wanted_of hg ht hu hv
          cases hbw : (b == want) with
          | true => rw [hbw] at h hw; exact yes hR hw h
          | false => rw [hbw] at h hw; exact no hR hw h
        · rename_i hb
          obtain ⟨u, hu, hv⟩ := hR.getTmp hb
          simp only [VRel] at hv
          subst hv
          exact no hR (wanted_undef hg ht hu) h
        · rename_i b hb
          obtain ⟨u, hu, hv⟩ := hR.getTmp hb
          simp only [VRel] at hv
          have hw := wanted_of hg ht hu hv
          cases hwt : want with
          | true =>
            rw [hwt] at h hw
            simp only [↓reduceIte] at h
            cases hc : b () with
            | true => rw [hc] at hw; exact yes (hR.setT hb hc) hw (h.t hc)
            | false => rw [hc] at hw; exact no (hR.setT hb hc) hw (h.f hc)
          | false =>
            rw [hwt] at h hw
            simp only [Bool.false_eq_true, ↓reduceIte] at h
            cases hc : b () with
            | true => rw [hc] at hw; exact no (hR.setT hb hc) hw (h.t hc)
            | false => rw [hc] at hw; exact yes (hR.setT hb hc) hw (h.f hc)
        · cases h
      · cases h
mutual
theorem frz_rel {ok2 : Nat → Prop} {N N' : Nat} {val' val2 : Nat → Bd} {post : Hp} (hp : HRelK NoB w post.length val' post) (hok : ∀ n b, post[n]? = some (some b) → ∀ g ∈ (val' n).F, ok2 g) : ∀ {x : AV} {v : Value}, VRel NoB w N val' x v → VRel ok2 w N' val2 (frz post x) v := fun {x v} h => by
  have NoOk : ∀ b, NoB b → ok2 b := fun b h => h.elim
  cases x <;> simp only [frz] <;> simp only [VRel] at h <;> (try (simp [VRel]; done))
  case ref n =>
    split
    · rename_i e t l hn
      simp only [VRel]
      rw [h.2]
      exact row_view (hp.blk n _ hn) (hok n _ hn) NoOk
    · rename_i e e2 t l hn
      simp only [VRel]
      rw [h.2]
      exact rows_view (hp.blk n _ hn) (hok n _ hn) NoOk
    · simp [VRel]
  case cells l => obtain ⟨cs, h1, h2, h3⟩ := h; simp only [VRel]; exact ⟨cs, h1, frzL_rel hp hok h2, h3⟩
  case tup l => obtain ⟨cs, h1, h2⟩ := h; simp only [VRel]; exact ⟨cs, h1, frzL_rel hp hok h2⟩
  case agg t d =>
    cases hf : t.flat with
    | true => obtain ⟨cs, h1, h2⟩ := h; simp only [↓reduceIte, VRel]; exact ⟨cs, h1, h2.flat hf⟩
    | false => simp [VRel]
  all_goals (simp only [VRel]; exact h)
theorem frzL_rel {ok2 : Nat → Prop} {N N' : Nat} {val' val2 : Nat → Bd} {post : Hp} (hp : HRelK NoB w post.length val' post) (hok : ∀ n b, post[n]? = some (some b) → ∀ g ∈ (val' n).F, ok2 g) : ∀ {xs : List AV} {vs : List Value}, VRelL NoB w N val' xs vs → VRelL ok2 w N' val2 (frzL post xs) vs
  | [], [], _ => by simp [VRelL, frzL]
  | [], _ :: _, h => by simp [VRelL] at h
  | _ :: _, [], h => by simp [VRelL] at h
  | x :: xs, v :: vs, h => by simp only [VRelL, frzL] at h ⊢; exact ⟨frz_rel hp hok h.1, frzL_rel hp hok h.2⟩
end
def qcall (P : Unit → Program) (T : Unit → Tab) (S : AS) (o : Oper) (v : AV) : Prop :=
  ∃ f args ts f' cap res post, o.op = .call { callee := .value f, args := args, argTypes := ts } ∧ S.ev f = .fn f' cap ∧ Spec2 (P ()) f' (argVs (T ()) S.H ts.toList (args.toList.map S.ev ++ cap)) [] res post ∧ v = frz post (res1 res)
theorem qcall_step (hR : Rl w0 B hd S a w val) {o : Oper} {v : AV} (h : qcall P T S o v) {next : Act → World → Prop} {Q : Exit → Act → World → Prop}
    (hn : ∀ a' w', (∀ v', (v' = v ∨ ∃ b, v = .bool b ∧ v' = .lit (b ())) → Rl w0 B hd (S.put o.dst v') a' w' val) → next a' w') : o.wp (P ()) a w next Q := by
  obtain ⟨f, args, ts, f', cap, res, post, hop, ef, ⟨hent, _, hsp⟩, rfl⟩ := h
  have hf := hR.ev f
  rw [ef] at hf
  simp only [VRel] at hf
  obtain ⟨cvs, hf1, hf2⟩ := hf
  have hxs := VRelL.app (VRelL.map hR args.toList) hf2
  have hus := argVs_rel (T := T ()) hR (H := S.H) (ok2 := okF [] val) (fun n b h => ⟨h, fun g _ m C hC => by simp at hC⟩) (fun b _ m C hC => by simp at hC) (N' := 0) (val' := val) (ts := ts.toList) hxs
  have hcalls := hsp w val _ ⟨fun n C hC => by simp at hC, fun n C hC => by simp at hC, fun n m C D _ hC => by simp at hC⟩ hus
  have hrun : (execOp a.eval o).run (P ()) w = .ok (.enter f' (args.toList.map a.eval ++ cvs).toArray) w := by
    have e1 : args.map a.eval ++ cvs.toArray = (args.toList.map a.eval ++ cvs).toArray := by apply Array.ext'; simp
    have hc := run_callFunc (w := w) (args := (args.toList.map a.eval ++ cvs).toArray) hent
    rw [← e1] at hc
    obtain ⟨dst, op, type, pos, after, guard⟩ := o
    simp only at hop
    subst hop
    simp [execOp, resolve, hf1, Deferred.ofValue, invoke, hc, ← e1]
  unfold Oper.wp
  rw [hrun, Oper.upon_enter]
  refine hcalls.mono ?_
  rintro e' w' ⟨u, val', rfl, hp⟩
  have hnop : ∀ g, ¬ pBlk [] val g := fun g ⟨n, C, hC, _⟩ => by simp at hC
  have hb : Below w.heap.size w w' := ⟨hp.fr.os, hp.fr.tape, hp.fr.output, hp.fr.size, fun k hk => hp.fr.same k hk (hnop k)⟩
  have hR' := hR.grow hb
  have hok : ∀ n b, post[n]? = some (some b) → ∀ g ∈ (val' n).F, okF S.H val g := fun n b hnb g hg m C hC hgF => by
    rcases hp.own n b hnb g hg with h | h
    · have := hR.heap.lt m C hC g hgF; omega
    · exact hnop g h
  have hres : VRel (okF S.H val) w' S.H.length val (frz post (res1 res)) u := by
    have h := hp.res
    unfold ResV at h
    unfold res1
    split at h
    · exact frz_rel hp.heap hok h
    · rename_i rs hno
      obtain ⟨vs, rfl, h2⟩ := h
      split
      · exact (hno _ rfl).elim
      · simp only [frz, VRel]
        exact ⟨vs, rfl, frzL_rel hp.heap hok h2⟩
  refine hn _ _ fun v' hv' => hR'.put o.dst ?_
  rcases hv' with rfl | ⟨b, h1, rfl⟩
  · exact hres
  · rw [h1] at hres; simpa [VRel] using hres
end
end Go.Proofs.Ytbkdmnohpjihgaa.M
