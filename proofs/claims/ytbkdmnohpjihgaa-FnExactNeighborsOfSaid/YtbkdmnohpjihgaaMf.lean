/- An operation that makes no memory yields what is reckoned: parts of slices, and all of them together. -/
import Derived.Test.YtbkdmnohpjihgaaMe
namespace Go.Proofs.Ytbkdmnohpjihgaa.M
open Go.RowKit Abs
set_option linter.unusedVariables false
set_option linter.unusedSimpArgs false

section
variable {P : Program} {T : Tab} {w0 w : World} {B : Nat → Prop} {hd : Nat → Value} {S : AS} {a : Act} {val : Nat → Bd}
theorem optU_eval (hR : Rl w0 B hd S a w val) {y : Option Operand} {k : Option (Unit → Int)} (h : optU S y = some k) : y.map a.eval = (k.map fun k => k ()).map (.int .i64) := by
  cases y with
  | none => simp [optU] at h; subst h; rfl
  | some z =>
    unfold optU at h
    simp only at h
    have hz := hR.ev z
    split at h
    · rename_i q e
      cases h
      rw [e] at hz
      simp only [VRel] at hz
      simp [hz]
    · cases h
theorem slice_sound (hT : TOk P T) (hR : Rl w0 B hd S a w val) {xt : TypeId} {X V : AV} {O : Ob} {v : Value} {lo hi : Option Operand} (hx : VRel (okF S.H val) w S.H.length val X v) (h : sliceF T S xt X lo hi = some (V, O)) (hO : O.holds) :
    ∃ u, (Instr.sliceAt xt v (lo.map a.eval) (hi.map a.eval) none).run P w = .ok u w ∧ VRel (okF S.H val) w S.H.length val V u := by
  unfold sliceF at h
  split at h
  · rename_i e tt l lo' hi' hu hlo hhi
    rw [optU_eval hR hlo, optU_eval hR hhi]
    cases hs : ((tl T e).size == tt.n) with
    | true =>
      rw [hs] at h
      simp only [↓reduceIte] at h
      simp only [beq_iff_eq] at hs
      have hE := EOk.of_size hT (t := e) (by have := tt.n_pos; omega)
      have hsz : szOf P e = some tt.n := by rw [hE.size, hs]
      simp only [VRel] at hx
      have core : ∀ (p q : Option Int), 0 ≤ p.getD 0 → p.getD 0 ≤ q.getD (l ()).length → q.getD (l ()).length ≤ (l ()).length → ∀ L : Unit → List tt.den, L () = subL (l ()) (p.getD 0) (q.getD (l ()).length) →
          ∃ u, (Instr.sliceAt xt v (p.map (.int .i64)) (q.map (.int .i64)) none).run P w = .ok u w ∧ VRel (okF S.H val) w S.H.length val (.sl tt L) u := by
        intro p q h1 h2 h3 L hL
        obtain ⟨u, k1, k2⟩ := slice_ok (P := P) (lo := p) (hi := q) (hT.slice hu) hsz hx h1 h2 h3
        refine ⟨u, k1, ?_⟩
        simp only [VRel]
        rw [hL]
        exact k2
      split at h <;> simp only [Option.some.injEq, Prod.mk.injEq] at h <;> obtain ⟨rfl, rfl⟩ := h
      · exact core none none (by simp) (by simp) (by simp) _ rfl
      · rename_i x
        have o1 : 0 ≤ x () := hO.1
        have o2 : x () ≤ ((l ()).length : Int) := hO.2
        exact core (some (x ())) none o1 o2 (by simp) _ rfl
      · rename_i x
        have o1 : 0 ≤ x () := hO.1
        have o2 : x () ≤ ((l ()).length : Int) := hO.2
        exact core none (some (x ())) (by simp) o1 o2 _ rfl
      · rename_i x y
        have o1 : 0 ≤ x () := hO.1
        have o2 : x () ≤ y () := hO.2.1
        have o3 : y () ≤ ((l ()).length : Int) := hO.2.2
        exact core (some (x ())) (some (y ())) o1 o2 o3 _ rfl
    | false => rw [hs] at h; cases h
  · rename_i e d hu hlo hhi
    rw [optU_eval hR hlo, optU_eval hR hhi]
    cases hs : ((tl T e).size == 1) with
    | true =>
      rw [hs] at h
      simp only [↓reduceIte, Option.some.injEq, Prod.mk.injEq] at h
      obtain ⟨rfl, rfl⟩ := h
      simp only [beq_iff_eq] at hs
      have hE := EOk.of_size hT (t := e) (by omega)
      simp only [VRel] at hx
      obtain ⟨b, o, cs, rfl, h3, h4, h5, h6⟩ := hx
      refine ⟨.slice (some ⟨b, o, none⟩) 2 2, ?_, ?_⟩
      · simp [Instr.sliceAt, run_underlying (arElem_und (hT.array hu)) w, Instr.sureAddr, Instr.sliceBounds, run_sz (w := w) (show szOf P e = some 1 by rw [hE.size, hs]), Addr.add_lit]
      · simp only [VRel]
        unfold Rep at h5
        obtain ⟨c1, c2, rfl, r1, r2⟩ := h5
        unfold Rep at r1 r2
        subst r1 r2
        unfold Rep
        refine ⟨_, 2, rfl, by simp, by simp [maxLen], .inr ⟨b, o, _, rfl, h3, h4, by simp [Ty.n], fun j u hu => h6 j u hu, fun i y hy => ?_⟩⟩
        match i, hy with
        | 0, hy => simp at hy; subst hy; simp [Ty.n, Rep]
        | 1, hy => simp at hy; subst hy; simp [Ty.n, Rep]
        | i + 2, hy => simp at hy
    | false => rw [hs] at h; cases h
  · cases h
theorem pick_rel {ok : Nat → Prop} {N : Nat} {C X Y V : AV} {O : Ob} {c x y : Value} (hc : VRel ok w N val C c) (hx : VRel ok w N val X x) (hy : VRel ok w N val Y y) (h : pickF C X Y = some (V, O)) :
    ∃ b, c = .bool b ∧ VRel ok w N val V (if b then x else y) := by
  unfold pickF at h
  split at h
  · simp only [Option.some.injEq, Prod.mk.injEq] at h
    obtain ⟨rfl, rfl⟩ := h
    simp only [VRel] at hc
    exact ⟨true, hc, hx⟩
  · simp only [Option.some.injEq, Prod.mk.injEq] at h
    obtain ⟨rfl, rfl⟩ := h
    simp only [VRel] at hc
    exact ⟨false, hc, hy⟩
  · rename_i b
    simp only [VRel] at hc
    refine ⟨b (), hc, ?_⟩
    split at h
    · rename_i p q
      simp only [Option.some.injEq, Prod.mk.injEq] at h
      obtain ⟨rfl, rfl⟩ := h
      simp only [VRel] at hx hy ⊢
      cases b () <;> simp [hx, hy]
    · split at h
      · rename_i p q ha hb
        simp only [Option.some.injEq, Prod.mk.injEq] at h
        obtain ⟨rfl, rfl⟩ := h
        have h1 := asB_rel ha hx
        have h2 := asB_rel hb hy
        simp only [VRel]
        cases b () <;> simp [h1, h2]
      · cases h
  · cases h
theorem blt_sound (hT : TOk P T) (hR : Rl w0 B hd S a w val) {b : Builtin} {ts : Array TypeId} {args : Array Operand} {V : AV} {O : Ob} (h : bltF T S b ts.toList args.toList = some (V, O)) (dst : Option Tmp) (type : TypeId) (pos : String) (after : Array Edge) (guard : Option (Nat × Bool)) :
    Yl P w a { dst := dst, op := .call { callee := .builtin b, args := args, argTypes := ts }, type := type, pos := pos, after := after, guard := guard } (VRel (okF S.H val) w S.H.length val V) := by
  have hargs : ∀ xs : List Operand, args.toList = xs → args.map a.eval = (xs.map a.eval).toArray := fun xs hx => by
    apply Array.ext'
    simp [← hx]
  unfold bltF at h
  split at h
  · split at h
    · rename_i x hxs
      split at h
      · rename_i t r ht
        obtain ⟨u, h1, h2⟩ := len_sound hT hR (ty := type) (ts := r) (hR.ev x) h
        refine ⟨u, ?_, h2⟩
        have e1 : ts = (t :: r).toArray := by apply Array.ext'; simpa using ht
        simp [execOp, resolve, invoke, builtin, hargs _ hxs, e1] at h1 ⊢
        simp [h1]
      · cases h
    · cases h
  · split at h
    · rename_i x y hxs
      split at h
      · rename_i p q ex ey
        have hx := hR.ev x
        have hy := hR.ev y
        rw [ex] at hx
        rw [ey] at hy
        simp only [VRel] at hx hy
        cases h
        exact ⟨.int .i64 (if q () < p () then q () else p ()), by simp [execOp, resolve, invoke, builtin, hargs _ hxs, hx, hy, Builtin.min_, Builtin.min2], by simp only [VRel]⟩
      · cases h
    · cases h
  · split at h
    · rename_i x y hxs
      split at h
      · rename_i p q ex ey
        have hx := hR.ev x
        have hy := hR.ev y
        rw [ex] at hx
        rw [ey] at hy
        simp only [VRel] at hx hy
        cases h
        exact ⟨.int .i64 (if p () < q () then q () else p ()), by simp [execOp, resolve, invoke, builtin, hargs _ hxs, hx, hy, Builtin.max_, Builtin.max2], by simp only [VRel]⟩
      · cases h
    · cases h
  · cases h
theorem VRelL.map (hR : Rl w0 B hd S a w val) : ∀ xs : List Operand, VRelL (okF S.H val) w S.H.length val (xs.map S.ev) (xs.map a.eval)
  | [] => by simp [VRelL]
  | x :: xs => by simp only [List.map_cons, VRelL]; exact ⟨hR.ev x, VRelL.map hR xs⟩

/-- **An operation that makes no memory yields what is reckoned.** -/
theorem q_sound (hT : TOk P T) (hR : Rl w0 B hd S a w val) {o : Oper} {V : AV} {O : Ob} (h : qv T S o = some (V, O)) (hO : O.holds) : Yl P w a o (VRel (okF S.H val) w S.H.length val V) := by
  obtain ⟨dst, op, type, pos, after, guard⟩ := o
  unfold qv at h
  simp only at h
  split at h
  · rename_i x; cases h; exact ⟨_, rfl, hR.ev x⟩
  · rename_i x; cases h; exact ⟨_, rfl, hR.ev x⟩
  · rename_i c x y
    obtain ⟨b, h1, h2⟩ := pick_rel (hR.ev c) (hR.ev x) (hR.ev y) h
    refine ⟨_, by simp [execOp, h1, asBool]; rfl, ?_⟩
    cases b <;> exact h2
  · rename_i x
    have hx := hR.ev x
    split at h
    · rename_i n i e
      cases h
      rw [e] at hx
      simp only [VRel] at hx
      obtain ⟨k0, g, h1, h2⟩ := hx
      exact ⟨_, by simp [execOp, h2]; rfl, by simp only [VRel]; exact ⟨k0, g, h1, rfl⟩⟩
    · rename_i t d e
      cases h
      rw [e] at hx
      simp only [VRel] at hx
      obtain ⟨b, o, cs, h2, h3⟩ := hx
      exact ⟨_, by simp [execOp, h2]; rfl, by simp only [VRel]; exact ⟨b, o, cs, rfl, h3⟩⟩
    · rename_i n i k e
      cases h
      rw [e] at hx
      simp only [VRel] at hx
      obtain ⟨k0, g, l, c, h1, h2, h3, h4⟩ := hx
      exact ⟨_, by simp [execOp, h4]; rfl, by simp only [VRel]; exact ⟨k0, g, l, c, h1, h2, h3, rfl⟩⟩
    · rename_i n i j k e
      cases h
      rw [e] at hx
      simp only [VRel] at hx
      obtain ⟨k0, k00, g, l, c, h1, h2, h3, h4⟩ := hx
      exact ⟨_, by simp [execOp, h4]; rfl, by simp only [VRel]; exact ⟨k0, k00, g, l, c, h1, h2, h3, rfl⟩⟩
    · rename_i cs i e
      cases h
      rw [e] at hx
      simp only [VRel] at hx
      obtain ⟨g, us, h1, h2⟩ := hx
      exact ⟨_, by simp [execOp, h1]; rfl, by simp only [VRel]; exact ⟨g, us, rfl, h2⟩⟩
    · cases h
  · rename_i op xt x y yt
    obtain ⟨u, h1, h2⟩ := bin_sound hT op xt x y (hR.ev x) (hR.ev y) h hO
    exact yl_of rfl ⟨u, h1, h2⟩
  · rename_i op t x
    have hx := hR.ev x
    unfold unF at h
    split at h
    · rename_i b e
      rw [e] at hx
      cases h
      simp only [VRel] at hx
      exact ⟨_, by simp [execOp, hx, Op.unary]; rfl, by simp only [VRel]⟩
    · rename_i b e
      rw [e] at hx
      cases h
      simp only [VRel] at hx
      exact ⟨_, by simp [execOp, hx, Op.unary]; rfl, by simp only [VRel]⟩
    · rename_i k e
      rw [e] at hx
      cases h
      simp only [VRel] at hx
      exact ⟨_, by simp [execOp, hx, Op.unary, Op.intArith]; rfl, by simp only [VRel]; rw [← Int.zero_sub, wrap_in hO]⟩
    · cases h
  · rename_i t x; exact yl_of rfl (load_sound hT hR (hR.ev x) h)
  · rename_i t x i; exact yl_of rfl (idx_sound hT hR (hR.ev x) (hR.ev i) h hO)
  · rename_i s x f; exact yl_of rfl (fld_sound hT hR (hR.ev x) h)
  · rename_i s x f; exact yl_of rfl (field_sound hT hR (hR.ev x) h)
  · rename_i s x i; exact yl_of rfl (index_sound hT hR (hR.ev x) (hR.ev i) h hO)
  · rename_i t i
    have hx := hR.ev t
    refine yl_of rfl ?_
    split at h
    · rename_i l e
      rw [e] at hx
      simp only [VRel] at hx
      obtain ⟨vs, h1, h2⟩ := hx
      simp only [Option.map_eq_some_iff, Prod.mk.injEq] at h
      obtain ⟨y, hy, rfl, rfl⟩ := h
      obtain ⟨u, hu, hv⟩ := h2.get hy
      exact ⟨u, by simp [Instr.extract, h1, hu], hv⟩
    · cases h
  · rename_i xt x lo hi; exact yl_of rfl (slice_sound hT hR (hR.ev x) h hO)
  · rename_i f first caps
    cases hf : (first.size == 0) with
    | true =>
      rw [hf] at h
      simp only [↓reduceIte, Option.some.injEq, Prod.mk.injEq] at h
      obtain ⟨rfl, rfl⟩ := h
      have h1' : first = #[] := Array.eq_empty_of_size_eq_zero (by simpa using hf)
      subst h1'
      refine yl_of rfl ⟨_, rfl, ?_⟩
      simp only [VRel]
      refine ⟨caps.toList.map a.eval, ?_, VRelL.map hR _⟩
      have hc : Array.map a.eval caps = (List.map a.eval caps.toList).toArray := by apply Array.ext'; simp
      rw [hc]; simp
    | false => rw [hf] at h; cases h
  · rename_i s d x; exact yl_of rfl (conv_sound hT (hR.ev x) h hO)
  · rename_i c
    obtain ⟨callee, args, ts⟩ := c
    simp only at h
    split at h
    · exact blt_sound hT hR h _ _ _ _ _
    · cases h
  · cases h
end
end Go.Proofs.Ytbkdmnohpjihgaa.M
