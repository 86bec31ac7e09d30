/- Regions whose order is drawn: any order gives what one gives. -/
import Derived.Test.YtbkdmnohpjihgaaMq
import Derived.Test.YtbkdmnohpjihgaaAbs13
namespace Go.Proofs.Ytbkdmnohpjihgaa.M
open Go.RowKit Abs
set_option linter.unusedVariables false
set_option linter.unusedSimpArgs false

section
variable {P : Unit → Program} {T : Unit → Tab} {w0 w w1 : World} {B : Nat → Prop} {hd : Nat → Value} {S : AS} {a : Act} {val : Nat → Bd} {ops : Array Oper}
theorem ev_put {d : Option Tmp} {v : AV} {x : Operand} (h : ∀ t, d = some t → x ≠ .tmp t) : (S.put d v).ev x = S.ev x := by
  cases d with
  | none => rfl
  | some t =>
    cases x with
    | tmp u =>
      have hne : t ≠ u := fun e => h t rfl (e ▸ rfl)
      simp [AS.ev, AS.put, List.getD_eq_getElem?_getD, List.getElem?_set_ne hne]
    | const c => rfl
    | global g => rfl
    | func f => rfl
theorem put_H {d : Option Tmp} {v : AV} : (S.put d v).H = S.H := by cases d <;> rfl
theorem put_comm {x y : Option Tmp} (v u : AV) (h : ∀ d, x = some d → y ≠ some d) : (S.put x v).put y u = (S.put y u).put x v := by
  cases x with
  | none => rfl
  | some d =>
    cases y with
    | none => rfl
    | some e =>
      have hne : d ≠ e := fun he => h d rfl (he ▸ rfl)
      simp [AS.put, List.set_comm _ _ hne]
theorem qv_congr {T : Tab} {S S' : AS} {o : Oper} (hH : S.H = S'.H) (h : ∀ x ∈ o.op.operands, S.ev x = S'.ev x) : qv T S o = qv T S' o := by
  obtain ⟨dst, op, type, pos, after, guard⟩ := o
  simp only at h
  unfold qv
  simp only
  cases op <;> simp only [Op.operands] at h <;> (try rfl) <;> (try simp only)
  case slice t x lo hi mx =>
    cases mx with
    | some m => rfl
    | none =>
      have hx := h x (by simp)
      have h1 : optU S lo = optU S' lo := by cases lo with
        | none => rfl
        | some y => simp only [optU, h y (by simp)]
      have h2 : optU S hi = optU S' hi := by cases hi with
        | none => rfl
        | some y => simp only [optU, h y (by simp)]
      simp only [sliceF]
      rw [hx, h1, h2]
  case makeFunc fn first caps =>
    cases fn <;> simp only
    rw [List.map_congr_left (f := S.ev) (g := S'.ev) fun x hx => h x (by simp; exact .inr (by simpa using hx))]
  case call c =>
    obtain ⟨callee, args, ts⟩ := c
    cases callee <;> simp only
    rename_i b
    have ha : ∀ x ∈ args.toList, S.ev x = S'.ev x := fun x hx => h x (by simp [Call.operands]; simpa using hx)
    unfold bltF
    cases b <;> simp only
    all_goals
      split
      · rename_i hxs
        rw [hxs] at ha
        first
          | (rw [ha _ (by simp), ha _ (by simp)])
          | (split
             · rw [ha _ (by simp), hH]
             · rfl)
      · rfl
  all_goals (first
    | (rw [h _ (by simp)]; done)
    | (rw [h _ (by simp), h _ (by simp)]; done)
    | (rw [h _ (by simp), hH]; done)
    | (rw [h _ (by simp), h _ (by simp), hH]; done)
    | (rw [h _ (by simp), h _ (by simp), h _ (by simp)]; done))
theorem qcall_congr {S S' : AS} {o : Oper} {v : AV} (hH : S.H = S'.H) (h : ∀ x ∈ o.op.operands, S.ev x = S'.ev x) (hq : qcall P T S o v) : qcall P T S' o v := by
  obtain ⟨f, args, ts, f', cap, res, post, hop, ef, hs, rfl⟩ := hq
  rw [hop] at h
  simp only [Op.operands, Call.operands] at h
  refine ⟨f, args, ts, f', cap, res, post, hop, by rw [← h f (by simp)]; exact ef, ?_, rfl⟩
  rw [← hH, ← List.map_congr_left (f := S.ev) (g := S'.ev) fun x hx => h x (by simp; right; simpa using hx)]
  exact hs
def qstep (P : Unit → Program) (T : Unit → Tab) (S : AS) (o : Oper) (v : AV) : Prop :=
  ∃ v0, ((∃ O : Ob, qv (T ()) S o = some (v0, O) ∧ O.holds) ∨ qcall P T S o v0) ∧ (v = v0 ∨ ∃ b, v0 = .bool b ∧ v = .lit (b ()))
theorem qstep_congr {S S' : AS} {o : Oper} {v : AV} (hH : S.H = S'.H) (h : ∀ x ∈ o.op.operands, S.ev x = S'.ev x) (hq : qstep P T S o v) : qstep P T S' o v := by
  obtain ⟨v0, h1, h2⟩ := hq
  refine ⟨v0, ?_, h2⟩
  rcases h1 with ⟨O, h3, h4⟩ | h1
  · exact .inl ⟨O, by rw [← qv_congr hH h]; exact h3, h4⟩
  · exact .inr (qcall_congr hH h h1)
theorem ev_of_looks {o : Oper} {d : Option Tmp} {v : AV} (h : ∀ t, d = some t → t ∉ o.looksAt ops) {x : Operand} (hx : x ∈ o.op.operands) : (S.put d v).ev x = S.ev x :=
  ev_put fun t hd hxt => h t hd (by
    subst hxt
    simp only [Oper.looksAt, List.mem_append, List.mem_filterMap]
    exact .inl ⟨_, by simpa using hx, rfl⟩)
theorem gd_put {o : Oper} {d : Option Tmp} {v : AV} (h : ∀ t, d = some t → t ∉ o.looksAt ops) : gd (S.put d v) ops.toList o = gd S ops.toList o := by
  unfold gd
  cases hg : o.guard with
  | none => rfl
  | some g =>
    obtain ⟨j, want⟩ := g
    simp only
    cases hj : (ops.toList[j]?).bind (·.dst) with
    | none => rfl
    | some t =>
      simp only
      have hne : ∀ u, d = some u → u ≠ t := fun u hu e => h u hu (by
        subst e
        simp only [Oper.looksAt, List.mem_append, hg]
        refine .inr ?_
        have : (ops[j]?).bind (·.dst) = some u := by simpa using hj
        simp [this])
      cases d with
      | none => rfl
      | some u => simp only [AS.put]; rw [List.getElem?_set_ne (hne u rfl)]
theorem gd_sound (hR : Rl w0 B hd S a w val) {o : Oper} {b : Bool} (h : gd S ops.toList o = some b) : Region.wanted o (yielded ops a.tmps) = b := by
  unfold gd at h
  split at h
  · rename_i hg; cases h; exact wanted_none hg _
  · rename_i j want hg
    split at h
    · rename_i t ht
      split at h
      · rename_i c hc
        obtain ⟨u, hu, hv⟩ := hR.getTmp hc
        simp only [VRel] at hv
        cases h
        exact wanted_of hg ht hu hv
      · rename_i hc
        obtain ⟨u, hu, hv⟩ := hR.getTmp hc
        simp only [VRel] at hv
        subst hv
        cases h
        exact wanted_undef hg ht hu
      · cases h
    · cases h
/-- Operation number i comes up. -/
def qOpA (P : Unit → Program) (T : Unit → Tab) (ops : Array Oper) (i : Nat) (K : AS → Prop) (S : AS) : Prop :=
  match ops[i]? with
  | none => K S
  | some o => (match gd S ops.toList o with
    | some true => ∃ v, qstep P T S o v ∧ K (S.put o.dst v)
    | some false => K (S.put o.dst .undef)
    | none => False)
def YA (P : Unit → Program) (T : Unit → Tab) (ops : Array Oper) (o : Oper) (v : AV) (S : AS) : Prop :=
  (gd S ops.toList o = some true ∧ qstep P T S o v) ∨ (gd S ops.toList o = some false ∧ v = .undef)
def wpAnyB (P : Unit → Program) (T : Unit → Tab) (ops : Array Oper) (n : Nat) (L : Array Bool → AS → Prop) : Nat → Array Bool → AS → Prop
  | 0, listed, S => L listed S
  | f + 1, listed, S => Region.ready .any ops listed ≠ [] ∧ ∀ i ∈ Region.ready .any ops listed, i < n ∧ qOpA P T ops i (wpAnyB P T ops n L f (listed.setIfInBounds i true)) S
theorem qOpA_mono {i : Nat} {K K' : AS → Prop} (h : ∀ S, K S → K' S) (hh : qOpA P T ops i K S) : qOpA P T ops i K' S := by
  unfold qOpA at *
  cases ho : ops[i]? with
  | none => rw [ho] at hh; exact h _ hh
  | some o =>
    rw [ho] at hh
    simp only at hh ⊢
    cases hg : gd S ops.toList o with
    | none => rw [hg] at hh; exact hh
    | some b =>
      rw [hg] at hh
      cases b
      · exact h _ hh
      · obtain ⟨v, h1, h2⟩ := hh; exact ⟨v, h1, h _ h2⟩
theorem YA.op {i : Nat} {o : Oper} {v : AV} (hi : ops[i]? = some o) (hy : YA P T ops o v S) {K : AS → Prop} (h : K (S.put o.dst v)) : qOpA P T ops i K S := by
  unfold qOpA
  rw [hi]
  simp only
  rcases hy with ⟨h1, h2⟩ | ⟨h1, rfl⟩
  · rw [h1]; exact ⟨v, h2, h⟩
  · rw [h1]; exact h
theorem ya_of {i : Nat} {o : Oper} {K : AS → Prop} (hi : ops[i]? = some o) (h : qOpA P T ops i K S) : ∃ v, YA P T ops o v S ∧ K (S.put o.dst v) := by
  unfold qOpA at h
  rw [hi] at h
  simp only at h
  cases hg : gd S ops.toList o with
  | none => rw [hg] at h; exact h.elim
  | some b =>
    rw [hg] at h
    cases b
    · exact ⟨.undef, .inr ⟨hg, rfl⟩, h⟩
    · obtain ⟨v, h1, h2⟩ := h; exact ⟨v, .inl ⟨hg, h1⟩, h2⟩
theorem YA.put {o : Oper} {v : AV} (hy : YA P T ops o v S) {d : Option Tmp} {u : AV} (h : ∀ t, d = some t → t ∉ o.looksAt ops) : YA P T ops o v (S.put d u) := by
  unfold YA at *
  rw [gd_put h]
  exact hy.imp (fun ⟨h1, h2⟩ => ⟨h1, qstep_congr put_H.symm (fun x hx => (ev_of_looks h hx).symm) h2⟩) id
theorem qOpA_put {j : Nat} {oi oj : Oper} {v : AV} (hj : ops[j]? = some oj) (hap : oi.apart ops oj = true) {K : AS → Prop} (hy : YA P T ops oi v S) (h : qOpA P T ops j K (S.put oi.dst v)) :
    qOpA P T ops j (fun S' => YA P T ops oi v S' ∧ K (S'.put oi.dst v)) S := by
  obtain ⟨h1, h2, h3⟩ := Oper.apart_spec hap
  obtain ⟨u, hu, hK⟩ := ya_of hj h
  have hu' : YA P T ops oj u S := by
    unfold YA at hu ⊢
    rw [gd_put h1] at hu
    exact hu.imp (fun ⟨k1, k2⟩ => ⟨k1, qstep_congr put_H (fun x hx => ev_of_looks h1 hx) k2⟩) id
  exact hu'.op hj ⟨hy.put h3, by rw [← put_comm v u h2]; exact hK⟩
theorem wpAnyB_first {n i : Nat} {oi : Oper} {v : AV} {L : Array Bool → AS → Prop} (Inv : Array Bool → Prop) (hset : ∀ listed j, Inv listed → j ∈ Region.ready .any ops listed → j < n → Inv (listed.setIfInBounds j true))
    (hhead : ∀ listed, Inv listed → i ∈ Region.ready .any ops listed → ∀ j ∈ Region.ready .any ops listed, j < n) (hi : ops[i]? = some oi)
    (hdone : ∀ listed S, L listed S → ∀ j ∈ Region.ready .any ops listed, n ≤ j) :
    ∀ (f : Nat) (listed : Array Bool) (S : AS), Inv listed →
      (∀ j oj, ops[j]? = some oj → j ≠ i → listed.getD j true = false → (∀ e ∈ oj.after, Region.binds .any e = true → e.on ≠ i) → oi.apart ops oj = true) →
      i ∈ Region.ready .any ops listed → YA P T ops oi v S →
      wpAnyB P T ops n L f (listed.setIfInBounds i true) (S.put oi.dst v) → wpAnyB P T ops n L (f + 1) listed S := by
  intro f
  induction f with
  | zero =>
    intro listed S inv _ hr hy H
    refine ⟨fun h => (by rw [h] at hr; cases hr), fun j hj => ?_⟩
    have hjn := hhead listed inv hr j hj
    refine ⟨hjn, ?_⟩
    by_cases hji : j = i
    · subst hji; exact hy.op hi H
    · have := hdone _ _ H j (ready_mono hj hji)
      omega
  | succ f ih =>
    intro listed S inv hfree hr hy H
    have hun := (mem_ready.1 hr).1
    refine ⟨fun h => (by rw [h] at hr; cases hr), fun j hj => ?_⟩
    have hjn := hhead listed inv hr j hj
    refine ⟨hjn, ?_⟩
    by_cases hji : j = i
    · subst hji; exact hy.op hi H
    · have h1 := (H.2 j (ready_mono hj hji)).2
      obtain ⟨hjun, oj, hoj, hall⟩ := mem_ready.1 hj
      have hnot : ∀ e ∈ oj.after, Region.binds .any e = true → e.on ≠ i := fun e he hb heq => by
        have h1 := hall e he hb
        rw [heq, getD_both hun] at h1
        cases h1
      have h2 := qOpA_put hoj (hfree j oj hoj hji hjun hnot) hy h1
      have hfree' : ∀ k ok, ops[k]? = some ok → k ≠ i → (listed.setIfInBounds j true).getD k true = false →
          (∀ e ∈ ok.after, Region.binds .any e = true → e.on ≠ i) → oi.apart ops ok = true := fun k ok hk hki hun hno => by
        refine hfree k ok hk hki ?_ hno
        by_cases hjk : j = k
        · subst hjk; exact hjun
        · rw [getD_set_ne true hjk] at hun; exact hun
      refine qOpA_mono (fun S' h3 => ih (listed.setIfInBounds j true) S' (hset _ _ inv hj hjn) hfree' (ready_mono hr (Ne.symm hji)) h3.1 ?_) h2
      rw [Array.setIfInBounds_comm _ _ hji]
      exact h3.2
theorem wpOp_of_qOpA (hT : TOk (P ()) (T ())) (hR : Rl w0 B hd S a w val) {i : Nat} {K : AS → Prop} {K' : Act → World → Prop} {Q : Exit → Act → World → Prop} (hn : ∀ S' a' w', K S' → Rl w0 B hd S' a' w' val → K' a' w') (h : qOpA P T ops i K S) : wpOp (P ()) ops Q i K' a w := by
  unfold qOpA at h
  unfold wpOp
  cases ho : ops[i]? with
  | none => rw [ho] at h; exact hn _ _ _ h hR
  | some o =>
    rw [ho] at h
    simp only at h ⊢
    cases hg : gd S ops.toList o with
    | none => rw [hg] at h; exact h.elim
    | some b =>
      rw [hg] at h
      rw [gd_sound hR hg]
      cases b
      · exact hn _ _ _ h (hR.put o.dst undef_rel)
      · obtain ⟨v, ⟨v0, h1, hv⟩, h2⟩ := h
        refine .inl ?_
        rcases h1 with ⟨O, h1, hO⟩ | h1
        · exact q_step hT hR h1 hO fun a' w' hR' => hn _ _ _ h2 (hR' v hv)
        · exact qcall_step hR h1 fun a' w' hR' => hn _ _ _ h2 (hR' v hv)
theorem wpAny_of_B (hT : TOk (P ()) (T ())) {n g : Nat} {L : Array Bool → AS → Prop} {Q : Exit → Act → World → Prop} (hL : ∀ listed S a w, L listed S → Rl w0 B hd S a w val → wpAny (P ()) .any ops Q g listed a w) :
    ∀ (f : Nat) (listed : Array Bool) (S : AS) (a : Act) (w : World), Rl w0 B hd S a w val → wpAnyB P T ops n L f listed S → wpAny (P ()) .any ops Q (f + g) listed a w
  | 0, listed, S, a, w, hR, h => by rw [Nat.zero_add]; exact hL _ _ _ _ h hR
  | f + 1, listed, S, a, w, hR, h => by
    rw [show f + 1 + g = (f + g) + 1 by omega]
    exact ⟨fun h0 => absurd h0 h.1, fun i hi => wpOp_of_qOpA hT hR (fun S' a' w' h' hR' => wpAny_of_B hT hL f _ S' a' w' hR' h') (h.2 i hi).2⟩
/-- What is reckoned in the text's order gives a way to go on, whatever the guards' values. -/
theorem aqui_ya {o : Oper} {Q : AS → Prop} {r : List Oper} (h : aqui P T ops.toList Q (o :: r) S) : ∃ v, YA P T ops o v S ∧ aqui P T ops.toList Q r (S.put o.dst v) := by
  have lit : ∀ {v : AV} {K : AV → Prop}, litP ops.toList o.dst v K → ∃ v', (v' = v ∨ ∃ b, v = .bool b ∧ v' = .lit (b ())) ∧ K v' := by
    intro v K h
    unfold litP at h
    split at h
    · rename_i b
      cases hg : isGuard ops.toList o.dst with
      | true =>
        rw [hg] at h
        simp only [↓reduceIte] at h
        refine ⟨.lit (b ()), .inr ⟨b, rfl, rfl⟩, ?_⟩
        cases hb : b () with
        | true => exact h.t hb
        | false => exact h.f hb
      | false => rw [hg] at h; exact ⟨_, .inl rfl, h⟩
    · exact ⟨_, .inl rfl, h⟩
  have quiet : gd S ops.toList o = some true → (match qv (T ()) S o with | some (v, O) => obP O (litP ops.toList o.dst v fun v' => aqui P T ops.toList Q r (S.put o.dst v')) | none => Bad o) → ∃ v, YA P T ops o v S ∧ aqui P T ops.toList Q r (S.put o.dst v) := by
    intro hg h
    split at h
    · rename_i v O hq
      obtain ⟨h1, h2⟩ := obP_out h
      obtain ⟨v', hv, hK⟩ := lit h2
      exact ⟨v', .inl ⟨hg, v, .inl ⟨O, hq, h1⟩, hv⟩, hK⟩
    · cases h
  unfold aqui at h
  split at h
  · rename_i hg
    split at h
    · rename_i c hop
      obtain ⟨callee, args, ts⟩ := c
      simp only at h
      split at h
      · rename_i f
        obtain ⟨f', cap, args', res, post, h1, h2, h3, h4⟩ := h.out
        obtain ⟨v', hv, hK⟩ := lit h4
        exact ⟨v', .inl ⟨hg, _, .inr ⟨f, args, ts, f', cap, res, post, hop, h1, by rw [h3]; exact h2, rfl⟩, hv⟩, hK⟩
      · cases h
      · exact quiet hg h
      · cases h
    · exact quiet hg h
  · rename_i hg
    exact ⟨.undef, .inr ⟨hg, rfl⟩, h⟩
  · cases h
theorem lexB_go {n : Nat} {Lq : AS → Prop} {e : Array Bool → Bool} (Inv : Array Bool → Prop) (hset : ∀ listed j, Inv listed → j ∈ Region.ready .any ops listed → j < n → Inv (listed.setIfInBounds j true))
    (hhead : ∀ listed i, i < n → Inv listed → i ∈ Region.ready .any ops listed → ∀ j ∈ Region.ready .any ops listed, j < n) (hend : ∀ listed, e listed = true → ∀ j ∈ Region.ready .any ops listed, n ≤ j) :
    ∀ (l : List Oper) (k : Nat) (listed : Array Bool) (S : AS), (∀ j, j < l.length → l[j]? = ops[k + j]?) → k + l.length = n → Inv listed →
    lexG ops e l.length k listed = true → aqui P T ops.toList Lq l S → wpAnyB P T ops n (fun listed' S' => e listed' = true ∧ Lq S') l.length listed S
  | [], k, listed, S, _, _, _, hB, h => ⟨hB, by simpa [aqui] using h⟩
  | o :: l, k, listed, S, hl, hk, inv, hB, h => by
    have h0 : ops[k]? = some o := by simpa using (hl 0 (by simp)).symm
    simp only [List.length_cons, lexG, Bool.and_eq_true] at hB
    obtain ⟨⟨hr, hf⟩, hB'⟩ := hB
    have hkn : k < n := by simp only [List.length_cons] at hk; omega
    have hr' : k ∈ Region.ready .any ops listed := by simpa using hr
    obtain ⟨v, hy, hK⟩ := aqui_ya h
    exact wpAnyB_first Inv hset (fun listed inv hi => hhead listed k hkn inv hi) h0 (fun listed' S' hL => hend listed' hL.1) l.length listed S inv (Region.free_spec h0 hf) hr' hy
      (lexB_go Inv hset hhead hend l (k + 1) _ _ (fun j hj => by have := hl (j + 1) (by simp; omega); simpa [Nat.add_assoc, Nat.add_comm 1 j] using this) (by simp only [List.length_cons] at hk; omega) (hset _ _ inv hr' hkn) hB' hK)
theorem keep_draw (hR : Rl w0 B hd S a w val) : Rl w0 B hd S a { w with drawn := w.drawn + 1 } val := hR.grow ⟨rfl, rfl, rfl, Nat.le_refl _, fun _ _ => rfl⟩
/-- What holds behind a piece of code. -/
def CQ (w0 : World) (B : Nat → Prop) (hd : Nat → Value) (Q : AX → AS → Prop) (e : Exit) (a : Act) (w : World) : Prop := ∃ x S val, e = AX.out x ∧ Q x S ∧ Rl w0 B hd S a w val
def AWp (P : Program) (c : Code) (Q : AX → AS → Prop) (S : AS) : Prop := ∀ w0 B hd a w val, Rl w0 B hd S a w val → c.wp P (CQ w0 B hd Q) a w
variable {Q : AX → AS → Prop}
theorem AWp.region (hT : TOk (P ()) (T ())) {id : Nat} {ops : Array Oper} (h : aseq P T ops.toList (Q .normal) ops.toList S) : AWp (P ()) (.region id ops false) Q S := fun w0 B hd a w val hR => by
  have := wp_region_list (aseq_sound hT (ops := ops) (Q := CQ w0 B hd Q) (fun S' a' w' val' hK hR' => ⟨.normal, S', val', rfl, hK, hR'⟩) ops.toList 0 S a w val (fun j => by simp) h hR) (id := id)
  simpa using this
theorem AWp.any (hT : TOk (P ()) (T ())) {id : Nat} {l : List Oper} (hm : (P ()).follows .mixedOrders = true) (hB : anyB l.toArray = true) (h : aqui P T l (Q .normal) l S) : AWp (P ()) (.region id l.toArray true) Q S := by
  intro w0 B hd a w val hR
  refine wp_region_any hm ?_
  have H := lexB_go (P := P) (T := T) (ops := l.toArray) (n := l.length) (Lq := Q .normal) (fun _ => True) (fun _ _ _ _ _ => trivial) (fun listed i _ _ _ j hj => by
      obtain ⟨_, oj, hoj, _⟩ := mem_ready.1 hj
      exact (Array.getElem?_eq_some_iff.1 hoj).1) (e := fun l' => (Region.ready .any l.toArray l').isEmpty) (fun listed he j hj => by
      have he' : Region.ready .any l.toArray listed = [] := by simpa using he
      rw [he'] at hj; cases hj) l 0 _ S (fun j _ => by simp) (by simp) trivial hB (by simpa using h)
  exact wpAny_of_B hT (g := 0) (Q := CQ w0 B hd Q) (fun listed S' a' w' hL hR' => ⟨by simpa using hL.1, .normal, S', val, rfl, hL.2, hR'⟩) _ _ S a _ (keep_draw hR) H
theorem AWp.tail (hT : TOk (P ()) (T ())) {id : Nat} {l : List Oper} (n : Nat) (hm : (P ()).follows .mixedOrders = true) (hB : tailB l.toArray n = true) (h : aqui P T l (aseq P T l (Q .normal) (l.drop n)) (l.take n) S) : AWp (P ()) (.region id l.toArray true) Q S := by
  intro w0 B hd a w val hR
  simp only [tailB, Bool.and_eq_true, decide_eq_true_eq] at hB
  obtain ⟨⟨⟨hn, hs⟩, hc⟩, hlex⟩ := hB
  have hn' : n < l.length := by simpa using hn
  have htl : (l.take n).length = n := by simp; omega
  have hdl : (l.drop n).length = l.toArray.size - n := by simp
  have inv0 : HeadInv .any l.toArray n (Array.replicate l.toArray.size false) :=
    ⟨by simp, fun j oj _ hl => (by rw [getD_replicate_false] at hl; cases hl), fun t _ ht => getD_in (by simpa using ht) (getD_replicate_false _ _)⟩
  have H := lexB_go (P := P) (T := T) (ops := l.toArray) (n := n) (Lq := aseq P T l (Q .normal) (l.drop n)) (HeadInv .any l.toArray n) (fun listed j inv hj hjn => inv.set hj hjn) (fun listed i hin inv hi j hj => by
      rcases Nat.lt_or_ge j n with h | h
      · exact h
      · exact absurd hj (tail_waits hs hc hn inv _ i rfl hin (mem_ready.1 hi).1 j h)) (e := fun l' => Region.seqB .any l.toArray (l.toArray.size - n) n l') (fun listed he => seqB_ready he) (l.take n) 0 _ S (fun j hj => by
    have hj' : j < n := by rw [htl] at hj; exact hj
    simp [hj']) (by simpa using htl) inv0 (by rw [htl]; exact hlex) (by simpa using h)
  refine wp_region_any hm ?_
  have := wpAny_of_B hT (Q := CQ w0 B hd Q) (g := l.toArray.size - n) (fun listed S' a' w' hL hR' => by
    have hseq := aseq_sound (P := P) (T := T) hT (w0 := w0) (B := B) (hd := hd) (ops := l.toArray) (K := Q .normal) (Q := CQ w0 B hd Q) (fun S2 a2 w2 val2 hK h2 => ⟨.normal, S2, val2, rfl, hK, h2⟩) (l.drop n) n S' a' w' val (fun j => by simp [List.getElem?_drop]) (by simpa using hL.2) hR'
    have := wpAny_of_seq (md := .any) (Q' := CQ w0 B hd Q) (l.drop n) n listed a' w' (fun j => by simp [List.getElem?_drop]) (by rw [hdl]; exact hL.1) hseq
    rwa [hdl] at this) _ _ S a _ (keep_draw hR) H
  rw [htl, show n + (l.toArray.size - n) = l.toArray.size by omega] at this
  exact this
end
end Go.Proofs.Ytbkdmnohpjihgaa.M
