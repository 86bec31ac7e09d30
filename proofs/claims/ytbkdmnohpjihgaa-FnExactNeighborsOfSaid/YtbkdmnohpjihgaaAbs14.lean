/- Loops, forgetting, and contracts of functions. -/
import Derived.Test.YtbkdmnohpjihgaaAbs13
namespace Go.Proofs.Ytbkdmnohpjihgaa.Abs
open Go.RowKit
set_option linter.unusedVariables false

/-- A loop whose relation bears a ghost. -/
theorem wp_loop_ghost {P : Program} {Q : Exit → Act → World → Prop} {a : Act} {w : World} {c : Code} {X : Type} (I : X → Act → World → Prop) (μ : X → Nat) (x0 : X) (h0 : I x0 a w)
    (round : ∀ x a w, I x a w → c.wp P (Exit.then (fun a' w' => ∃ y, I y a' w' ∧ μ y < μ x) Q) a w) : (Code.loop c).wp P Q a w := by
  intro b k cs
  have key : ∀ n x a w, μ x = n → I x a w → ∃ e a' w', Q e a' w' ∧ Arrives P (lone (b.at a (.code c :: .inLoop c :: k)) cs w) b k cs e a' w' := by
    intro n
    induction n using Nat.strongRecOn with
    | _ n ih =>
      intro x a w hn hI
      obtain ⟨e, a₁, w₁, hq, harr⟩ := round x a w hI b (.inLoop c :: k) cs
      cases e with
      | normal =>
        obtain ⟨y, hI₁, hlt⟩ := hq
        obtain ⟨e₂, a₂, w₂, hq₂, harr₂⟩ := ih (μ y) (hn ▸ hlt) y a₁ w₁ rfl hI₁
        exact ⟨e₂, a₂, w₂, hq₂, .of_steps (Steps.trans harr (.one step_inLoop)) harr₂⟩
      | exit id => exact ⟨_, a₁, w₁, hq, .pass (x := .inLoop c) rfl (fun _ _ => .inl (by simp)) harr⟩
      | goto l => exact ⟨_, a₁, w₁, hq, .pass (x := .inLoop c) rfl (fun _ _ => .inl (by simp)) harr⟩
      | ret => exact ⟨_, a₁, w₁, hq, .pass (x := .inLoop c) rfl (fun _ _ => .inl (by simp)) harr⟩
      | panic ch => exact ⟨_, a₁, w₁, hq, .pass (x := .inLoop c) rfl (fun _ _ => .inl (by simp)) harr⟩
      | outgrown => exact ⟨_, a₁, w₁, hq, .pass (x := .inLoop c) rfl (fun _ _ => .inl (by simp)) harr⟩
  obtain ⟨e, a', w', hq, harr⟩ := key _ x0 a w rfl h0
  exact ⟨e, a', w', hq, .of_steps (.one step_loop) harr⟩

def AV.ren (σ : List Nat) : AV → AV
  | .ref n => .ref (σ.getD n 0)
  | .ptr n i => .ptr (σ.getD n 0) i
  | .eptr n i k => .eptr (σ.getD n 0) i k
  | x => x
def AV.lt (N : Nat) : AV → Prop
  | .ref n => n < N
  | .ptr n _ => n < N
  | .eptr n _ _ => n < N
  | .tup _ => False
  | _ => True
/-- Less is known of these values: some are forgotten, the names are others. -/
def weakL (σ : List Nat) : List AV → List AV → Prop
  | [], [] => True
  | x :: xs, y :: ys => (y = .junk ∨ (y.lt σ.length ∧ x = y.ren σ)) ∧ weakL σ xs ys
  | _, _ => False
def blkW (σ : List Nat) (B B' : Blk) : Prop :=
  match B' with
  | .row e t l => B = .row e t l
  | .box e cs' => ∃ cs, B = .box e cs ∧ weakL σ cs cs'
def weakH (σ : List Nat) (H : Hp) : List Nat → Hp → Prop
  | [], [] => True
  | n :: s, B' :: r => (B' = none ∨ ∃ B C, H[n]? = some (some B) ∧ B' = some C ∧ blkW σ B C) ∧ weakH σ H s r
  | _, _ => False
structure Weak (σ : List Nat) (S S' : AS) : Prop where
  nd : σ.Nodup
  tm : weakL σ S.tm S'.tm
  H : weakH σ S.H σ S'.H
theorem weakL_get {σ : List Nat} : ∀ {xs ys : List AV} {i : Nat} {y : AV}, weakL σ xs ys → ys[i]? = some y → ∃ x, xs[i]? = some x ∧ (y = .junk ∨ (y.lt σ.length ∧ x = y.ren σ))
  | [], [], i, y, _, h => by simp at h
  | [], _ :: _, _, _, h, _ => h.elim
  | _ :: _, [], _, _, h, _ => h.elim
  | x :: xs, y' :: ys, i, y, h, hy => by
    cases i with
    | zero => simp at hy; subst hy; exact ⟨x, rfl, h.1⟩
    | succ i => simpa using weakL_get h.2 (by simpa using hy)
theorem weakL_len {σ : List Nat} : ∀ {xs ys : List AV}, weakL σ xs ys → xs.length = ys.length
  | [], [], _ => rfl
  | [], _ :: _, h => h.elim
  | _ :: _, [], h => h.elim
  | x :: xs, y' :: ys, h => by simp [weakL_len h.2]
theorem weakH_get {σ : List Nat} {H : Hp} : ∀ {s : List Nat} {r : Hp} {i : Nat} {C : Blk}, weakH σ H s r → r[i]? = some (some C) → ∃ n B, s[i]? = some n ∧ H[n]? = some (some B) ∧ blkW σ B C
  | [], [], i, C, _, h => by simp at h
  | [], _ :: _, _, _, h, _ => h.elim
  | _ :: _, [], _, _, h, _ => h.elim
  | n :: s, B' :: r, i, C, h, hC => by
    cases i with
    | zero =>
      simp at hC
      subst hC
      rcases h.1 with h1 | ⟨B, C', h1, h2, h3⟩
      · cases h1
      · cases h2; exact ⟨n, B, rfl, h1, h3⟩
    | succ i => simpa using weakH_get h.2 (by simpa using hC)
theorem weakH_len {σ : List Nat} {H : Hp} : ∀ {s : List Nat} {r : Hp}, weakH σ H s r → s.length = r.length
  | [], [], _ => rfl
  | [], _ :: _, h => h.elim
  | _ :: _, [], h => h.elim
  | n :: s, B' :: r, h => by simp [weakH_len h.2]
section
variable {P : Program} {w0 w w1 : World} {S S' : AS} {a : Act} {val : Nat → Value}
def valR (val : Nat → Value) (σ : List Nat) (n : Nat) : Value := val (σ.getD n 0)
theorem vrel_ren {ok ok' : Nat → Prop} {N : Nat} {σ : List Nat} (hk : ∀ b, ok b → ok' b) {x y : AV} {v : Value} (hw : y = .junk ∨ (y.lt σ.length ∧ x = y.ren σ)) (h : VRel ok w N val x v) : VRel ok' w σ.length (valR val σ) y v := by
  rcases hw with rfl | ⟨hlt, rfl⟩
  · trivial
  · cases y with
    | ref n => exact ⟨hlt, h.2⟩
    | ptr n i => obtain ⟨_, g, h1, h2⟩ := h; exact ⟨hlt, g, h1, h2⟩
    | eptr n i k => obtain ⟨_, g, l, c, h1, h2⟩ := h; exact ⟨hlt, g, l, c, h1, h2⟩
    | tup l => exact hlt.elim
    | int x => exact h
    | bool x => exact h
    | str x => exact h
    | u8 x => exact h
    | u64 x => exact h
    | sl t l => exact Rep.weak hk h
    | agg t d => obtain ⟨cs, h1, h2⟩ := h; exact ⟨cs, h1, h2.weak hk⟩
    | iptr t d => exact PRel.weak hk h
    | fn f cap =>
      obtain ⟨vs, h1, h2, h3⟩ := h
      exact ⟨vs, h1, h2, fun i r hr => let ⟨u, hu, hp⟩ := h3 i r hr; ⟨u, hu, PRel.weak hk hp⟩⟩
    | ifn f cap => exact IFRel.weak hk h
    | fn2 g f cap => obtain ⟨p, h1, h2⟩ := h; exact ⟨p, h1, IFRel.weak hk h2⟩
    | nilsl => exact h
    | undef => exact h
    | junk => trivial
theorem Rl.weak {σ : List Nat} (hR : Rl w0 S a w val) (hw : Weak σ S S') : Rl w0 S' a w (valR val σ) := by
  have hlen := weakH_len hw.H
  have src : ∀ {n : Nat} {C : Blk}, S'.H[n]? = some (some C) → ∃ m B, σ[n]? = some m ∧ σ.getD n 0 = m ∧ S.H[m]? = some (some B) ∧ blkW σ B C := fun {n C} hC => by
    obtain ⟨m, B, h1, h2, h3⟩ := weakH_get hw.H hC
    exact ⟨m, B, h1, by simp [List.getD_eq_getElem?_getD, h1], h2, h3⟩
  have hk : ∀ b, okB S.H val b → okB S'.H (valR val σ) b := fun b hb n C hC hg => by
    obtain ⟨m, B, _, h2, h3, _⟩ := src hC
    unfold valR at hg
    rw [h2] at hg
    exact hb m B h3 hg
  refine ⟨hR.below, by rw [hR.len]; exact weakL_len hw.tm, hR.defers, fun t => ?_, fun n C hC => ?_, fun n m C D g hC hD hg hg' => ?_⟩
  · have h := hR.tmps t
    cases ht : S'.tm[t]? with
    | none =>
      have hl := weakL_len hw.tm
      have h1 : S'.tm.length ≤ t := by
        rcases Nat.lt_or_ge t S'.tm.length with h' | h'
        · rw [List.getElem?_eq_getElem h'] at ht; cases ht
        · exact h'
      rw [List.getD_eq_getElem?_getD, List.getElem?_eq_none (by omega)] at h
      rw [List.getD_eq_getElem?_getD, ht]
      exact h
    | some y =>
      obtain ⟨x, hx, hxy⟩ := weakL_get hw.tm ht
      rw [List.getD_eq_getElem?_getD, hx] at h
      rw [List.getD_eq_getElem?_getD, ht, ← hlen]
      exact vrel_ren hk hxy h
  · obtain ⟨m, B, _, h2, h3, h4⟩ := src hC
    have hH := hR.heap m B h3
    unfold blkW at h4
    cases C with
    | row e t l =>
      simp only at h4
      subst h4
      obtain ⟨xs, k1, k2⟩ := hH
      refine ⟨xs, ?_, k2.1, fun i y hy => (k2.2 i y hy).weak hk⟩
      unfold valR
      rw [h2]; exact k1
    | box e cs' =>
      obtain ⟨cs, rfl, h5⟩ := h4
      obtain ⟨g, cur, k1, k2, k3, k4, k5⟩ := hH
      refine ⟨g, cur, by unfold valR; rw [h2]; exact k1, k2, k3, by rw [k4]; exact weakL_len h5, fun i c hc => ?_⟩
      obtain ⟨x, hx, hxy⟩ := weakL_get h5 hc
      obtain ⟨u, hu, ho, hv⟩ := k5 i x hx
      exact ⟨u, hu, ho, by rw [← hlen]; exact vrel_ren hk hxy hv⟩
  · obtain ⟨p, B, a1, a2, a3, _⟩ := src hC
    obtain ⟨q, B', b1, b2, b3, _⟩ := src hD
    unfold valR at hg hg'
    rw [a2] at hg
    rw [b2] at hg'
    have hpq := hR.apart p q B B' g a3 b3 hg hg'
    subst hpq
    have hn : n < σ.length := (List.getElem?_eq_some_iff.1 a1).1
    have hm : m < σ.length := (List.getElem?_eq_some_iff.1 b1).1
    exact (List.getElem_inj (h₀ := hn) (h₁ := hm) hw.nd).1 (by rw [(List.getElem?_eq_some_iff.1 a1).2, (List.getElem?_eq_some_iff.1 b1).2])
end
section
variable {P : Program} {Q : AX → AS → Prop} {S : AS}
theorem AWp.weak {c : Code} {S' : AS} (σ : List Nat) (hw : Weak σ S S') (h : AWp P c Q S') : AWp P c Q S := fun w0 a w val hR => h w0 a w _ (hR.weak hw)
theorem AWp.loop {c : Code} {X : Type} (st : X → AS) (m : X → Nat) (x0 : X) (σ : List Nat) (hw : Weak σ S (st x0))
    (round : ∀ x, AWp P c (AX.seqd (fun S' => ∃ y σ, m y < m x ∧ Weak σ S' (st y)) Q) (st x)) : AWp P (.loop c) Q S := by
  intro w0 a w val hR
  refine wp_loop_ghost (fun x a w => ∃ val, Rl w0 (st x) a w val) m x0 ⟨_, hR.weak hw⟩ fun x a w ⟨val, hR⟩ => ?_
  refine wp_mono (round x w0 a w val hR) fun e a' w' ⟨y, S', val', h1, h2, h3⟩ => ?_
  subst h1
  cases y with
  | normal => obtain ⟨y, σ, h4, h5⟩ := h2; exact ⟨y, ⟨_, h3.weak h5⟩, h4⟩
  | exit i => exact ⟨.exit i, S', val', rfl, h2, h3⟩
  | ret => exact ⟨.ret, S', val', rfl, h2, h3⟩
  | goto l => exact ⟨.goto l, S', val', rfl, h2, h3⟩
end
def Ty.flat : Ty → Bool
  | .sl _ => false
  | .pr a b => a.flat && b.flat
  | _ => true
theorem Rep.flat {ok ok' : Nat → Prop} {w w' : World} : ∀ {t : Ty} {x : t.den} {cs : List Value}, t.flat = true → Rep ok w t x cs → Rep ok' w' t x cs
  | .int, _, _, _, h => by unfold Rep at h ⊢; exact h
  | .bool, _, _, _, h => by unfold Rep at h ⊢; exact h
  | .str, _, _, _, h => by unfold Rep at h ⊢; exact h
  | .sl t, _, _, hf, _ => by cases hf
  | .pr a b, _, _, hf, h => by
    unfold Rep at h ⊢
    simp only [Ty.flat, Bool.and_eq_true] at hf
    obtain ⟨c1, c2, h1, h2, h3⟩ := h
    exact ⟨c1, c2, h1, h2.flat hf.1, h3.flat hf.2⟩
/-- What a function hands back. -/
def resV (S : AS) (x : AV) : Res → Prop
  | .im t y => t.flat = true ∧ unInj t x = some y
  | .own e t l => t.flat = true ∧ (match x with
    | .ref n => S.H[n]? = some (some (.row e t l))
    | .nilsl => l = []
    | _ => False)
section
variable {P : Program} {w0 w w1 : World} {S : AS} {a : Act} {val : Nat → Value}
theorem res_ok (hR : Rl w0 S a w val) {x : AV} {v : Value} {r : Res} {ok : Nat → Prop} (hv : VRel (okB S.H val) w S.H.length val x v) (h : resV S x r)
    (hok : ∀ n B g, x = .ref n → S.H[n]? = some (some B) → ownB (val n) = some g → ok g) : ResRel ok w0.heap.size w r v := by
  cases r with
  | im t y =>
    obtain ⟨hf, hu⟩ := h
    obtain ⟨h1, _⟩ := unInj_rep hu hv
    show IRel ok w t y v
    unfold IRel at h1 ⊢
    split
    · rename_i hp; rw [if_pos hp] at h1; obtain ⟨cs, h2, h3⟩ := h1; exact ⟨cs, h2, h3.flat hf⟩
    · rename_i hp; rw [if_neg hp] at h1; exact h1.flat hf
  | own e t l =>
    obtain ⟨hf, hu⟩ := h
    split at hu
    · rename_i n
      obtain ⟨xs, h1, h2⟩ := hR.heap n _ hu
      rw [hv.2]
      exact ⟨fun g hg => hok n _ g rfl hu hg, xs, h1, h2.1, fun i y hy => (h2.2 i y hy).flat hf⟩
    · subst hu
      have e' : v = .slice none 0 0 := hv
      subst e'
      exact ⟨fun g hg => (by cases hg), [], World.ownsRow_nil w _ e t.n, by simp, fun i y hy => by simp at hy⟩
    · exact hu.elim
theorem entry {f : FuncId} {fn : Func} {c : Code} {args : List AV} {vs : List Value} {w : World} (hl : vs.length = args.length) (hv : ∀ (i : Nat) (x : AV), args[i]? = some x → ∃ v, vs[i]? = some v ∧ ArgRel w x v) (hnt : args.length ≤ fn.ntmps) :
    Rl w ⟨args ++ List.replicate (fn.ntmps - args.length) .undef, []⟩ { tmps := vs.toArray ++ Array.replicate (fn.ntmps - vs.toArray.size) undef, defers := [] } w (fun _ => undef) := by
  refine ⟨Below.refl _ _, by simp [hl], rfl, fun t => ?_, fun n B h => by simp at h, fun n m B C g h => by simp at h⟩
  rw [List.getD_eq_getElem?_getD, Array.getD_eq_getD_getElem?]
  by_cases ht : t < args.length
  · obtain ⟨v, hv1, hv2⟩ := hv t args[t] (by simp [ht])
    rw [List.getElem?_append_left ht, List.getElem?_eq_getElem ht, Array.getElem?_append_left (by simp; omega)]
    simp only [Option.getD_some]
    rw [show vs.toArray[t]? = some v by simpa using hv1]
    refine VRel.keep ⟨Nat.le_refl _, fun b _ _ => ⟨fun n B h => by simp at h, rfl⟩, Nat.le_refl _, fun _ _ => rfl⟩ hv2
  · rw [List.getElem?_append_right (by omega), Array.getElem?_append_right (by simp; omega)]
    by_cases h2 : t - args.length < fn.ntmps - args.length
    · rw [List.getElem?_replicate, if_pos h2, Array.getElem?_replicate, if_pos (by simp; omega)]
      rfl
    · rw [List.getElem?_replicate, if_neg h2, Array.getElem?_replicate, if_neg (by simp; omega)]
      rfl
theorem Spec.of1 {f : FuncId} {fn : Func} {c : Code} {args : List AV} {t : Tmp} {r : Res} (hf : P.funcs[f]? = some fn) (hb : fn.body = some c) (hname : (fn.name != "runtime.NumGoroutine") = true) (hnt : args.length ≤ fn.ntmps) (hres : fn.results = #[.tmp t])
    (h : AWp P c (fun e S => (e = .normal ∨ e = .ret) ∧ resV S (S.tm.getD t .undef) r) ⟨args ++ List.replicate (fn.ntmps - args.length) .undef, []⟩) : Spec P f args [r] := by
  refine ⟨by simp [enters, hf, hb]; simpa using hname, fun w vs hl hv => ?_⟩
  have hE := entry (f := f) (fn := fn) (c := c) hl hv hnt
  refine calls_of_wp hf hb (wp_mono (h w _ w _ hE) ?_)
  rintro e a w' ⟨x, S, val, rfl, ⟨hx, hr⟩, hR⟩
  have hpost : a.defers = [] ∧ ∃ v, (results fn a.tmps).run P w' = .ok v w' ∧ SpecPost [r] w (.returned v) w' :=
    ⟨hR.defers, _, results_tmp hres _ _ _, _, rfl, hR.below, res_ok hR (hR.tmps t) hr fun n B g _ hB hg => (own_lt hR hB hg).2⟩
  rcases hx with rfl | rfl
  · exact hpost
  · exact hpost
theorem Spec.of2 {f : FuncId} {fn : Func} {c : Code} {args : List AV} {t u : Tmp} {r1 r2 : Res} (hf : P.funcs[f]? = some fn) (hb : fn.body = some c) (hname : (fn.name != "runtime.NumGoroutine") = true) (hnt : args.length ≤ fn.ntmps)
    (hres : fn.results = #[.tmp t, .tmp u])
    (h : AWp P c (fun e S => (e = .normal ∨ e = .ret) ∧ resV S (S.tm.getD t .undef) r1 ∧ resV S (S.tm.getD u .undef) r2 ∧ (∀ n, S.tm.getD t .undef = .ref n → S.tm.getD u .undef ≠ .ref n)) ⟨args ++ List.replicate (fn.ntmps - args.length) .undef, []⟩) :
    Spec P f args [r1, r2] := by
  refine ⟨by simp [enters, hf, hb]; simpa using hname, fun w vs hl hv => ?_⟩
  have hE := entry (f := f) (fn := fn) (c := c) hl hv hnt
  refine calls_of_wp hf hb (wp_mono (h w _ w _ hE) ?_)
  rintro e a w' ⟨x, S, val, rfl, ⟨hx, hr1, hr2, hne⟩, hR⟩
  have hown : ∀ {x : AV} {v : Value} {r : Res} {g : Nat}, VRel (okB S.H val) w' S.H.length val x v → resV S x r → r.isOwn = true → ownB v = some g → ∃ n B, x = .ref n ∧ S.H[n]? = some (some B) ∧ ownB (val n) = some g := by
    intro x v r g hv hr hi hg
    cases r with
    | im t y => cases hi
    | own e t l =>
      obtain ⟨_, hr⟩ := hr
      split at hr
      · rename_i n; exact ⟨n, _, rfl, hr, by rw [← hv.2]; exact hg⟩
      · have e' : v = .slice none 0 0 := hv
        subst e'; cases hg
      · exact hr.elim
  have hpost : a.defers = [] ∧ ∃ v, (results fn a.tmps).run P w' = .ok v w' ∧ SpecPost [r1, r2] w (.returned v) w' := by
    refine ⟨hR.defers, _, results_tmp2 hres _ _ _, _, rfl, hR.below, [a.tmps.getD t undef, a.tmps.getD u undef], rfl, rfl, fun i r hi => ?_⟩
    match i, hi with
    | 0, hi =>
      cases hi
      refine ⟨_, rfl, res_ok hR (hR.tmps t) hr1 fun n B g hx hB hg => ⟨(own_lt hR hB hg).2, fun j r' u' hj hr' hio hu' hou => ?_⟩⟩
      match j, hj, hr', hu' with
      | 1, _, hr', hu' =>
        cases hr'; cases hu'
        obtain ⟨m, C, h1, h2, h3⟩ := hown (hR.tmps u) hr2 hio hou
        have := hR.apart n m B C g hB h2 hg h3
        subst this
        exact hne n hx h1
      | j + 2, _, hr', _ => simp at hr'
    | 1, hi =>
      cases hi
      refine ⟨_, rfl, res_ok hR (hR.tmps u) hr2 fun n B g hx hB hg => ⟨(own_lt hR hB hg).2, fun j r' u' hj hr' hio hu' hou => ?_⟩⟩
      match j, hj, hr', hu' with
      | 0, _, hr', hu' =>
        cases hr'; cases hu'
        obtain ⟨m, C, h1, h2, h3⟩ := hown (hR.tmps t) hr1 hio hou
        have := hR.apart m n C B g h2 hB h3 hg
        subst this
        exact hne m h1 hx
      | 1, hj, _, _ => exact (hj rfl).elim
      | j + 2, _, hr', _ => simp at hr'
    | i + 2, hi => simp at hi
  rcases hx with rfl | rfl
  · exact hpost
  · exact hpost
end
end Go.Proofs.Ytbkdmnohpjihgaa.Abs
