/- Regions: in the order of the text, and in whatever order. -/
import Derived.Test.YtbkdmnohpjihgaaAbs11
import Derived.StillTail
namespace Go.Proofs.Ytbkdmnohpjihgaa.Abs
open Go.RowKit
set_option linter.unusedVariables false

def qstep (P : Program) (S : AS) (o : Oper) (v : AV) : Prop := qval P S o v ∨ qcall P S o v
def gd (S : AS) (ops : List Oper) (o : Oper) : Option Bool :=
  match o.guard with
  | none => some true
  | some (j, want) => (match (ops[j]?).bind (·.dst) with
    | some t => (match S.tm[t]? with
      | some (.bool b) => some (b == want)
      | some .undef => some false
      | _ => none)
    | none => none)
def aseq (P : Program) (ops : List Oper) (Q : AS → Prop) : List Oper → AS → Prop
  | [], S => Q S
  | o :: r, S => (match gd S ops o with
    | some true => sstep P S o (aseq P ops Q r)
    | some false => aseq P ops Q r (S.put o.dst .undef)
    | none => False)
def aqui (P : Program) (ops : List Oper) (Q : AS → Prop) : List Oper → AS → Prop
  | [], S => Q S
  | o :: r, S => (match gd S ops o with
    | some true => ∃ v, qstep P S o v ∧ aqui P ops Q r (S.put o.dst v)
    | some false => aqui P ops Q r (S.put o.dst .undef)
    | none => False)
section
variable {P : Program} {w0 w w1 : World} {S : AS} {a : Act} {val : Nat → Value} {ops : Array Oper}
theorem Rl.getTmp (hR : Rl w0 S a w val) {t : Nat} {x : AV} (h : S.tm[t]? = some x) : ∃ u, a.tmps[t]? = some u ∧ VRel (okB S.H val) w S.H.length val x u := by
  have hlt : t < a.tmps.size := by rw [hR.len]; exact (List.getElem?_eq_some_iff.1 h).1
  refine ⟨a.tmps[t], by simp [hlt], ?_⟩
  have := hR.tmps t
  simpa [List.getD_eq_getElem?_getD, h, hlt] using this
theorem gd_sound (hR : Rl w0 S a w val) {o : Oper} {b : Bool} (h : gd S ops.toList o = some b) : Region.wanted o (yielded ops a.tmps) = b := by
  unfold gd at h
  unfold Region.wanted
  split at h
  · rename_i hg; rw [hg]; cases h; rfl
  · rename_i j want hg
    rw [hg]
    simp only
    unfold yielded
    split at h
    · rename_i t ht
      have ht' : (ops[j]?).bind (·.dst) = some t := by simpa using ht
      rw [ht']
      simp only [Option.bind_some]
      split at h
      · rename_i c hc
        obtain ⟨u, hu, hv⟩ := hR.getTmp hc
        have e : u = .bool c := hv
        subst e
        rw [hu]
        cases h
        cases c <;> cases want <;> rfl
      · rename_i hc
        obtain ⟨u, hu, hv⟩ := hR.getTmp hc
        have e : u = .tuple #[] := hv
        subst e
        rw [hu]
        cases h
        rfl
      · cases h
    · cases h
theorem aseq_sound {K : AS → Prop} {Q : Exit → Act → World → Prop} (hK : ∀ S' a' w' val', K S' → Rl w0 S' a' w' val' → Q .normal a' w') : ∀ (l : List Oper) (k : Nat) (S : AS) (a : Act) (w : World) (val : Nat → Value),
    (∀ j, l[j]? = ops[k + j]?) → aseq P ops.toList K l S → Rl w0 S a w val → wpList P ops Q l a w
  | [], k, S, a, w, val, _, h, hR => hK _ _ _ _ h hR
  | o :: l, k, S, a, w, val, hl, h, hR => by
    have h0 : ops[k]? = some o := by simpa using (hl 0).symm
    have hl' : ∀ j, l[j]? = ops[k + 1 + j]? := fun j => by have := hl (j + 1); simpa [Nat.add_assoc, Nat.add_comm 1 j] using this
    unfold aseq at h
    unfold wpList
    split at h
    · rename_i hg
      have hw := gd_sound hR hg
      rw [hw, if_pos rfl]
      exact .inl (s_sound hR h fun S' a' w' val' h1 h2 => aseq_sound hK l (k + 1) S' a' w' val' hl' h1 h2)
    · rename_i hg
      have hw := gd_sound hR hg
      rw [hw]
      exact aseq_sound hK l (k + 1) _ _ _ _ hl' h (hR.put o.dst rfl)
    · exact h.elim
theorem region_seq {id : Nat} {l : List Oper} {K : AS → Prop} {Q : Exit → Act → World → Prop} (hK : ∀ S' a' w' val', K S' → Rl w0 S' a' w' val' → Q .normal a' w') (h : aseq P l K l S) (hR : Rl w0 S a w val) :
    (Code.region id l.toArray false).wp P Q a w :=
  wp_region_list (aseq_sound (ops := l.toArray) hK l 0 S a w val (fun j => by simp) (by simpa using h) hR)

theorem ev_put {d : Option Tmp} {v : AV} {x : Operand} (h : ∀ t, d = some t → x ≠ .tmp t) : (S.put d v).ev x = S.ev x := by
  cases d with
  | none => rfl
  | some t =>
    cases x with
    | tmp u =>
      have hne : t ≠ u := fun e => h t rfl (e ▸ rfl)
      simp [AS.ev, AS.put, List.getD_eq_getElem?_getD, List.getElem?_set_ne hne]
    | const c => rfl
    | global g => rfl
    | func f => rfl
theorem put_H {d : Option Tmp} {v : AV} : (S.put d v).H = S.H := by cases d <;> rfl
theorem put_comm {x y : Option Tmp} (v u : AV) (h : ∀ d, x = some d → y ≠ some d) : (S.put x v).put y u = (S.put y u).put x v := by
  cases x with
  | none => rfl
  | some d =>
    cases y with
    | none => rfl
    | some e =>
      have hne : d ≠ e := fun he => h d rfl (he ▸ rfl)
      simp [AS.put, List.set_comm _ _ hne]
theorem map_ev_congr {S S' : AS} {l : List Operand} (h : ∀ x ∈ l, S.ev x = S'.ev x) : l.map S.ev = l.map S'.ev := List.map_congr_left h
theorem qval_congr {S S' : AS} {o : Oper} {v : AV} (hH : S.H = S'.H) (h : ∀ x ∈ o.op.operands, S.ev x = S'.ev x) (hq : qval P S o v) : qval P S' o v := by
  obtain ⟨dst, op, type, pos, after, guard⟩ := o
  simp only at h
  unfold qval at hq ⊢
  simp only at hq ⊢
  cases op <;> simp only [Op.operands] at h <;> (try simp only at hq ⊢) <;> (try exact hq)
  case slice t x lo hi mx =>
    cases mx with
    | some m => exact hq
    | none =>
      have hx := h x (by simp)
      have h1 : optI S lo = optI S' lo := by cases lo with
        | none => rfl
        | some y => simp only [optI, h y (by simp)]
      have h2 : optI S hi = optI S' hi := by cases hi with
        | none => rfl
        | some y => simp only [optI, h y (by simp)]
      simp only at hq ⊢
      rw [← hx, ← h1, ← h2]; exact hq
  case makeFunc fn first caps =>
    cases fn <;> simp only at hq ⊢ <;> (try exact hq)
    rw [← map_ev_congr (S := S) (S' := S') fun x hx => h x (by simp; exact .inr (by simpa using hx))]
    exact hq
  case call c =>
    obtain ⟨callee, args, ts⟩ := c
    cases callee <;> simp only at hq ⊢ <;> (try exact hq)
    rename_i b
    have ha : ∀ x ∈ args.toList, S.ev x = S'.ev x := fun x hx => h x (by simp [Call.operands]; simpa using hx)
    unfold qbuiltin at hq ⊢
    cases b <;> simp only at hq ⊢ <;> (try exact hq)
    all_goals
      split at hq
      · rename_i hxs
        rw [hxs] at ha
        first
          | (rw [← ha _ (by simp), ← ha _ (by simp)]; exact hq)
          | (cases hts : ts.toList with
             | nil => rw [hts] at hq; exact hq.elim
             | cons t r => rw [hts] at hq; simp only at hq ⊢; unfold lenAV at hq ⊢; rw [← ha _ (by simp), ← hH]; exact hq)
      · exact hq.elim
  all_goals (first
    | (rw [← h _ (by simp)]; exact hq)
    | (rw [← h _ (by simp), ← h _ (by simp)]; exact hq)
    | (rw [← h _ (by simp), ← hH]; exact hq)
    | (rw [← h _ (by simp), ← h _ (by simp), ← hH]; exact hq)
    | (rw [← h _ (by simp), ← h _ (by simp), ← h _ (by simp)]; exact hq))
theorem argOf_congr {S S' : AS} (hH : S.H = S'.H) (x : AV) : argOf S x = argOf S' x := by
  cases x <;> simp [argOf, hH]
theorem argsOk_congr {S S' : AS} (hH : S.H = S'.H) : ∀ {xs ys : List AV}, argsOk S xs ys → argsOk S' xs ys
  | [], [], h => trivial
  | [], _ :: _, h => h.elim
  | _ :: _, [], h => h.elim
  | x :: xs, y :: ys, h => ⟨by rw [← argOf_congr hH]; exact h.1, argsOk_congr hH h.2⟩
theorem qcall_congr {S S' : AS} {o : Oper} {v : AV} (hH : S.H = S'.H) (h : ∀ x ∈ o.op.operands, S.ev x = S'.ev x) (hq : qcall P S o v) : qcall P S' o v := by
  obtain ⟨dst, op, type, pos, after, guard⟩ := o
  simp only at h
  unfold qcall at hq ⊢
  simp only at hq ⊢
  cases op <;> (try exact hq)
  case call c =>
    obtain ⟨callee, args, ts⟩ := c
    cases callee <;> (try exact hq)
    rename_i f
    simp only at hq ⊢
    have hf := h f (by simp [Op.operands, Call.operands])
    have ha : ∀ x ∈ args.toList, S.ev x = S'.ev x := fun x hx => h x (by simp [Op.operands, Call.operands]; right; simpa using hx)
    rw [← hf, ← map_ev_congr ha]
    split at hq
    · obtain ⟨args', res, h1, h2⟩ := hq
      exact ⟨args', res, argsOk_congr hH h1, h2⟩
    · obtain ⟨args', res, h1, h2⟩ := hq
      exact ⟨args', res, argsOk_congr hH h1, h2⟩
    · exact hq.elim
theorem qstep_congr {S S' : AS} {o : Oper} {v : AV} (hH : S.H = S'.H) (h : ∀ x ∈ o.op.operands, S.ev x = S'.ev x) (hq : qstep P S o v) : qstep P S' o v :=
  hq.imp (qval_congr hH h) (qcall_congr hH h)
theorem ev_of_looks {o : Oper} {d : Option Tmp} {v : AV} (h : ∀ t, d = some t → t ∉ o.looksAt ops) {x : Operand} (hx : x ∈ o.op.operands) : (S.put d v).ev x = S.ev x :=
  ev_put fun t hd hxt => h t hd (by
    subst hxt
    simp only [Oper.looksAt, List.mem_append, List.mem_filterMap]
    exact .inl ⟨_, by simpa using hx, rfl⟩)
theorem gd_put {o : Oper} {d : Option Tmp} {v : AV} (h : ∀ t, d = some t → t ∉ o.looksAt ops) : gd (S.put d v) ops.toList o = gd S ops.toList o := by
  unfold gd
  cases hg : o.guard with
  | none => rfl
  | some g =>
    obtain ⟨j, want⟩ := g
    simp only
    cases hj : (ops.toList[j]?).bind (·.dst) with
    | none => rfl
    | some t =>
      simp only
      have hne : ∀ u, d = some u → u ≠ t := fun u hu e => h u hu (by
        subst e
        simp only [Oper.looksAt, List.mem_append, hg]
        refine .inr ?_
        have : (ops[j]?).bind (·.dst) = some u := by simpa using hj
        simp [this])
      cases d with
      | none => rfl
      | some u => simp only [AS.put]; rw [List.getElem?_set_ne (hne u rfl)]

/-- Operation number i comes up. -/
def qOpA (P : Program) (ops : Array Oper) (i : Nat) (K : AS → Prop) (S : AS) : Prop :=
  match ops[i]? with
  | none => K S
  | some o => (match gd S ops.toList o with
    | some true => ∃ v, qstep P S o v ∧ K (S.put o.dst v)
    | some false => K (S.put o.dst .undef)
    | none => False)
def YA (P : Program) (ops : Array Oper) (o : Oper) (v : AV) (S : AS) : Prop :=
  (gd S ops.toList o = some true ∧ qstep P S o v) ∨ (gd S ops.toList o = some false ∧ v = .undef)
def wpAnyB (P : Program) (ops : Array Oper) (n : Nat) (L : Array Bool → AS → Prop) : Nat → Array Bool → AS → Prop
  | 0, listed, S => L listed S
  | f + 1, listed, S => Region.ready .any ops listed ≠ [] ∧ ∀ i ∈ Region.ready .any ops listed, i < n ∧ qOpA P ops i (wpAnyB P ops n L f (listed.setIfInBounds i true)) S
theorem qOpA_mono {i : Nat} {K K' : AS → Prop} (h : ∀ S, K S → K' S) (hh : qOpA P ops i K S) : qOpA P ops i K' S := by
  unfold qOpA at *
  cases ho : ops[i]? with
  | none => rw [ho] at hh; exact h _ hh
  | some o =>
    rw [ho] at hh
    simp only at hh ⊢
    cases hg : gd S ops.toList o with
    | none => rw [hg] at hh; exact hh
    | some b =>
      rw [hg] at hh
      cases b
      · exact h _ hh
      · obtain ⟨v, h1, h2⟩ := hh; exact ⟨v, h1, h _ h2⟩
theorem YA.op {i : Nat} {o : Oper} {v : AV} (hi : ops[i]? = some o) (hy : YA P ops o v S) {K : AS → Prop} (h : K (S.put o.dst v)) : qOpA P ops i K S := by
  unfold qOpA
  rw [hi]
  simp only
  rcases hy with ⟨h1, h2⟩ | ⟨h1, rfl⟩
  · rw [h1]; exact ⟨v, h2, h⟩
  · rw [h1]; exact h
theorem ya_of {i : Nat} {o : Oper} {K : AS → Prop} (hi : ops[i]? = some o) (h : qOpA P ops i K S) : ∃ v, YA P ops o v S ∧ K (S.put o.dst v) := by
  unfold qOpA at h
  rw [hi] at h
  simp only at h
  cases hg : gd S ops.toList o with
  | none => rw [hg] at h; exact h.elim
  | some b =>
    rw [hg] at h
    cases b
    · exact ⟨.undef, .inr ⟨hg, rfl⟩, h⟩
    · obtain ⟨v, h1, h2⟩ := h; exact ⟨v, .inl ⟨hg, h1⟩, h2⟩
theorem YA.put {o : Oper} {v : AV} (hy : YA P ops o v S) {d : Option Tmp} {u : AV} (h : ∀ t, d = some t → t ∉ o.looksAt ops) : YA P ops o v (S.put d u) := by
  unfold YA at *
  rw [gd_put h]
  exact hy.imp (fun ⟨h1, h2⟩ => ⟨h1, qstep_congr put_H.symm (fun x hx => (ev_of_looks h hx).symm) h2⟩) id
theorem qOpA_put {j : Nat} {oi oj : Oper} {v : AV} (hj : ops[j]? = some oj) (hap : oi.apart ops oj = true) {K : AS → Prop} (hy : YA P ops oi v S) (h : qOpA P ops j K (S.put oi.dst v)) :
    qOpA P ops j (fun S' => YA P ops oi v S' ∧ K (S'.put oi.dst v)) S := by
  obtain ⟨h1, h2, h3⟩ := Oper.apart_spec hap
  obtain ⟨u, hu, hK⟩ := ya_of hj h
  have hu' : YA P ops oj u S := by
    unfold YA at hu ⊢
    rw [gd_put h1] at hu
    exact hu.imp (fun ⟨k1, k2⟩ => ⟨k1, qstep_congr put_H (fun x hx => ev_of_looks h1 hx) k2⟩) id
  exact hu'.op hj ⟨hy.put h3, by rw [← put_comm v u h2]; exact hK⟩
theorem wpAnyB_first {n i : Nat} {oi : Oper} {v : AV} {L : Array Bool → AS → Prop} (Inv : Array Bool → Prop) (hset : ∀ listed j, Inv listed → j ∈ Region.ready .any ops listed → j < n → Inv (listed.setIfInBounds j true))
    (hhead : ∀ listed, Inv listed → i ∈ Region.ready .any ops listed → ∀ j ∈ Region.ready .any ops listed, j < n) (hi : ops[i]? = some oi)
    (hdone : ∀ listed S, L listed S → ∀ j ∈ Region.ready .any ops listed, n ≤ j) :
    ∀ (f : Nat) (listed : Array Bool) (S : AS), Inv listed →
      (∀ j oj, ops[j]? = some oj → j ≠ i → listed.getD j true = false → (∀ e ∈ oj.after, Region.binds .any e = true → e.on ≠ i) → oi.apart ops oj = true) →
      i ∈ Region.ready .any ops listed → YA P ops oi v S →
      wpAnyB P ops n L f (listed.setIfInBounds i true) (S.put oi.dst v) → wpAnyB P ops n L (f + 1) listed S := by
  intro f
  induction f with
  | zero =>
    intro listed S inv _ hr hy H
    refine ⟨fun h => (by rw [h] at hr; cases hr), fun j hj => ?_⟩
    have hjn := hhead listed inv hr j hj
    refine ⟨hjn, ?_⟩
    by_cases hji : j = i
    · subst hji; exact hy.op hi H
    · have := hdone _ _ H j (ready_mono hj hji)
      omega
  | succ f ih =>
    intro listed S inv hfree hr hy H
    have hun := (mem_ready.1 hr).1
    refine ⟨fun h => (by rw [h] at hr; cases hr), fun j hj => ?_⟩
    have hjn := hhead listed inv hr j hj
    refine ⟨hjn, ?_⟩
    by_cases hji : j = i
    · subst hji; exact hy.op hi H
    · have h1 := (H.2 j (ready_mono hj hji)).2
      obtain ⟨hjun, oj, hoj, hall⟩ := mem_ready.1 hj
      have hnot : ∀ e ∈ oj.after, Region.binds .any e = true → e.on ≠ i := fun e he hb heq => by
        have h1 := hall e he hb
        rw [heq, getD_both hun] at h1
        cases h1
      have h2 := qOpA_put hoj (hfree j oj hoj hji hjun hnot) hy h1
      have hfree' : ∀ k ok, ops[k]? = some ok → k ≠ i → (listed.setIfInBounds j true).getD k true = false →
          (∀ e ∈ ok.after, Region.binds .any e = true → e.on ≠ i) → oi.apart ops ok = true := fun k ok hk hki hun hno => by
        refine hfree k ok hk hki ?_ hno
        by_cases hjk : j = k
        · subst hjk; exact hjun
        · rw [getD_set_ne true hjk] at hun; exact hun
      refine qOpA_mono (fun S' h3 => ih (listed.setIfInBounds j true) S' (hset _ _ inv hj hjn) hfree' (ready_mono hr (Ne.symm hji)) h3.1 ?_) h2
      rw [Array.setIfInBounds_comm _ _ hji]
      exact h3.2
theorem wpOp_of_qOpA (hR : Rl w0 S a w val) {i : Nat} {K : AS → Prop} {K' : Act → World → Prop} {Q : Exit → Act → World → Prop} (hn : ∀ S' a' w', K S' → Rl w0 S' a' w' val → K' a' w') (h : qOpA P ops i K S) : wpOp P ops Q i K' a w := by
  unfold qOpA at h
  unfold wpOp
  cases ho : ops[i]? with
  | none => rw [ho] at h; exact hn _ _ _ h hR
  | some o =>
    rw [ho] at h
    simp only at h ⊢
    cases hg : gd S ops.toList o with
    | none => rw [hg] at h; exact h.elim
    | some b =>
      rw [hg] at h
      rw [gd_sound hR hg]
      cases b
      · exact hn _ _ _ h (hR.put o.dst rfl)
      · obtain ⟨v, h1, h2⟩ := h
        refine .inl ?_
        rcases h1 with h1 | h1
        · exact q_step hR h1 fun a' w' hR' => hn _ _ _ h2 hR'
        · exact call_sound hR h1 fun a' w' hR' => hn _ _ _ h2 hR'
theorem wpAny_of_B {n g : Nat} {L : Array Bool → AS → Prop} {Q : Exit → Act → World → Prop} (hL : ∀ listed S a w, L listed S → Rl w0 S a w val → wpAny P .any ops Q g listed a w) :
    ∀ (f : Nat) (listed : Array Bool) (S : AS) (a : Act) (w : World), Rl w0 S a w val → wpAnyB P ops n L f listed S → wpAny P .any ops Q (f + g) listed a w
  | 0, listed, S, a, w, hR, h => by rw [Nat.zero_add]; exact hL _ _ _ _ h hR
  | f + 1, listed, S, a, w, hR, h => by
    rw [show f + 1 + g = (f + g) + 1 by omega]
    exact ⟨fun h0 => absurd h0 h.1, fun i hi => wpOp_of_qOpA hR (fun S' a' w' h' hR' => wpAny_of_B hL f _ S' a' w' hR' h') (h.2 i hi).2⟩
end
end Go.Proofs.Ytbkdmnohpjihgaa.Abs
