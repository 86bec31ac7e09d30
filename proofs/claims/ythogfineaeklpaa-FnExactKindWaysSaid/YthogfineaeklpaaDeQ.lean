/- Drawn regions anywhere, also in loops: the moves ahead, then what is known behind each set of the rest, told by the text's order. -/
import Derived.Test.YthogfineaeklpaaDqQ
import Derived.Test.YthogfineaeklpaaRgQ
namespace Go.Proofs.Ythogfineaeklpaa.M
open Go.RowKit Abs
set_option linter.unusedSimpArgs false
set_option linter.unusedVariables false
set_option maxRecDepth 100000
set_option maxHeartbeats 4000000
def drawE (bad : List Nat) : Code → Bool
  | .region id ops d => bad.contains id || drawB (.region id ops d)
  | .seq a b => drawE bad a && drawE bad b
  | .cond _ a b => drawE bad a && drawE bad b
  | .block _ c => drawE bad c
  | .loop _ => true
  | _ => true
theorem vcE_sound {P : Unit → Program} {T : Unit → Tab} {bad : List Nat} (hT : TOk (P ()) (T ())) (hm : (P ()).follows .mixedOrders = true) : ∀ (c : Code) (Q : AX → AS → Prop) (S : AS), drawE bad c = true → vcD P T bad c Q S → AWp (P ()) c Q S
  | .region id ops d, Q, S, hb, h => by
    unfold vcD at h
    unfold drawE at hb
    cases hc : bad.contains id with
    | true => rw [hc] at h; exact h.out
    | false => rw [hc] at h hb; exact vc_sound hT hm _ Q S (by simpa using hb) h
  | .seq x y, Q, S, hb, h => fun w0 B hd a w val hR => by
    simp only [drawE, Bool.and_eq_true] at hb
    refine wp_seq (wp_mono (vcE_sound hT hm x _ S hb.1 h w0 B hd a w val hR) fun e a' w' ⟨k, S', val', h1, h2, h3⟩ => ?_)
    subst h1
    cases k with
    | normal => exact vcE_sound hT hm y Q S' hb.2 h2 w0 B hd a' w' val' h3
    | exit i => exact ⟨.exit i, S', val', rfl, h2, h3⟩
    | ret => exact ⟨.ret, S', val', rfl, h2, h3⟩
    | goto l => exact ⟨.goto l, S', val', rfl, h2, h3⟩
  | .cond c x y, Q, S, hb, h => fun w0 B hd a w val hR => by
    unfold vcD at h
    simp only [drawE, Bool.and_eq_true] at hb
    have hc := hR.ev c
    split at h
    · rename_i hs
      rw [hs] at hc
      simp only [VRel] at hc
      exact wp_cond (t := true) hc (vcE_sound hT hm x Q S hb.1 h w0 B hd a w val hR)
    · rename_i hs
      rw [hs] at hc
      simp only [VRel] at hc
      exact wp_cond (t := false) hc (vcE_sound hT hm y Q S hb.2 h w0 B hd a w val hR)
    · rename_i b hs
      rw [hs] at hc
      simp only [VRel] at hc
      cases hbv : b () with
      | true => rw [hbv] at hc; exact wp_cond (t := true) hc (vcE_sound hT hm x Q S hb.1 (h.t hbv) w0 B hd a w val hR)
      | false => rw [hbv] at hc; exact wp_cond (t := false) hc (vcE_sound hT hm y Q S hb.2 (h.f hbv) w0 B hd a w val hR)
    · cases h
  | .block id c, Q, S, hb, h => fun w0 B hd a w val hR => by
    refine wp_block (wp_mono (vcE_sound hT hm c _ S hb h w0 B hd a w val hR) fun e a' w' ⟨x, S', val', h1, h2, h3⟩ => ?_)
    subst h1
    cases x with
    | normal => exact ⟨.normal, S', val', rfl, h2, h3⟩
    | exit i =>
      show (if i = id then CQ w0 B hd Q .normal a' w' else CQ w0 B hd Q (.exit i) a' w')
      simp only [blkQ] at h2
      by_cases hi : i = id
      · rw [if_pos hi]
        rw [show (i == id) = true by simpa using hi] at h2
        exact ⟨.normal, S', val', rfl, h2, h3⟩
      · rw [if_neg hi]
        rw [show (i == id) = false by simpa using hi] at h2
        exact ⟨.exit i, S', val', rfl, h2, h3⟩
    | ret => exact ⟨.ret, S', val', rfl, h2, h3⟩
    | goto l => exact ⟨.goto l, S', val', rfl, h2, h3⟩
  | .skip, Q, S, _, h => vc_sound hT hm _ Q S rfl h
  | .loop c, Q, S, _, h => h.out
  | .exit id, Q, S, _, h => vc_sound hT hm _ Q S rfl h
  | .ret, Q, S, _, h => vc_sound hT hm _ Q S rfl h
  | .label _, Q, S, _, h => by cases h
  | .rangeFunc _ _ _ _, Q, S, _, h => by cases h
  | .scope _, Q, S, _, h => by cases h
  | .goto _, Q, S, _, h => by cases h
  | .refuse _, Q, S, _, h => by cases h
/-- Loops in which such regions stand. -/
theorem loopE (bad : List Nat) {S : AS} {Q : AX → AS → Prop} {c : Code} (hb : drawE bad c = true) {X : Type} (inv : X → Prop) (ps : X → List (Nat × AV)) (hs : X → List (Nat × Option Blk)) (m : X → Nat) (nx : X → X) (a : X) (h0 : inv a) (hw : weakD S (stL c S (ps a) (hs a)))
    (round : ∀ x, inv x → vcD (fun _ => Try.prog) (fun _ => tab) bad c (seqQ (fun S' => Obl (fun _ => inv (nx x) ∧ m (nx x) < m x) ∧ weakD S' (stL c S (ps (nx x)) (hs (nx x)))) Q) (stL c S (ps x) (hs x))) : LoopL (fun _ => Try.prog) (fun _ => tab) c Q S := by
  refine ⟨fun w0 B hd a1 w val hR => ?_⟩
  refine wp_loop_ghost (fun (x : { x : X // inv x }) a w => ∃ val, Rl w0 B hd (stL c S (ps x.1) (hs x.1)) a w val) (fun x => m x.1) ⟨a, h0⟩ ⟨_, hR.weak hw.weak⟩ fun x a w ⟨val, hR⟩ => ?_
  refine wp_mono (vcE_sound tabOk mixed c _ _ hb (round x.1 x.2) w0 B hd a w val hR) fun e a' w' ⟨y, S', val', h1, h2, h3⟩ => ?_
  subst h1
  cases y with
  | normal => obtain ⟨h4, h5⟩ := h2; exact ⟨⟨nx x.1, h4.out.1⟩, ⟨_, h3.weak h5.weak⟩, h4.out.2⟩
  | exit i => exact ⟨.exit i, S', val', rfl, h2, h3⟩
  | ret => exact ⟨.ret, S', val', rfl, h2, h3⟩
  | goto l => exact ⟨.goto l, S', val', rfl, h2, h3⟩
theorem fnE (bad : List Nat) {f : FuncId} {fn : Func} {c : Code} {args : List AV} {pre : Hp} {res : List AV} {post : Hp} (ρ : List Nat) (ts : List Tmp)
    (hf : Try.prog.funcs[f]? = some fn) (hb : fn.body = some c) (hname : (fn.name != "runtime.NumGoroutine") = true) (hres : fn.results = (ts.map .tmp).toArray) (hl3 : ts.length ≤ 3) (hdr : drawE bad c = true) (hok : M.okB pre.length ρ res post = true) (hnt : args.length ≤ fn.ntmps)
    (h : vcD (fun _ => Try.prog) (fun _ => tab) bad c (endP pre.length ρ ts res post) ⟨args ++ List.replicate (fn.ntmps - args.length) .undef, pre, pre.length⟩) : Spec2 Try.prog f args pre res post :=
  Spec2.ofA (P := fun _ => Try.prog) (T := fun _ => tab) tabOk mixed ρ ts hf hb hname hres hl3 hok hnt (vcE_sound tabOk mixed c _ _ hdr h)
theorem fnGE (bad : List Nat) (rs : List RK) {f : FuncId} {fn : Func} {c : Code} {args : List AV} {pre : Hp} {res : List AV} {post : Hp}
    (hf : Try.prog.funcs[f]? = some fn) (hb : fn.body = some c) (hname : (fn.name != "runtime.NumGoroutine") = true) (hres : fn.results = (rs.map RK.var).toArray) (hrk : rs.all (RK.okB Try.prog) = true) (hl : rs.length = 1 ∨ rs.length = 2 ∨ rs.length = 3) (hdr : drawE bad c = true) (hpl : pre.length ≤ post.length) (hnt : args.length ≤ fn.ntmps)
    (h : vcD (fun _ => Try.prog) (fun _ => tab) bad c (EndG pre.length rs res post) ⟨args ++ List.replicate (fn.ntmps - args.length) .undef, pre, pre.length⟩) : Spec2 Try.prog f args pre res post :=
  Spec2.ofG (P := fun _ => Try.prog) (T := fun _ => tab) rs hf hb hname hres hrk hl hpl hnt (vcE_sound tabOk mixed c _ _ hdr h)
/-- What is known behind some operations (l), in the text's order: calls by vs. -/
def stepF (T : Tab) (vs : List (Nat × AV)) (S : AS) (i : Nat) (o : Oper) : AS :=
  match vs.lookup i with
  | some v => S.put o.dst v
  | none => (match memF T S o with
    | some (S', _) => S'
    | none => (match qv T S o with
      | some (v, _) => S.put o.dst v
      | none => S))
def runD (T : Tab) (vs : List (Nat × AV)) : Nat → List Oper → List Bool → AS → AS
  | i, o :: ops, b :: l, S => runD T vs (i + 1) ops l (if (b) = true then stepF T vs S i o else S)
  | _, _, _, S => S
def movS (ops : Array Oper) : List Nat → AS → AS
  | [], S => S
  | i :: js, S => movS ops js (match ops[i]? with
    | some o => (match o.op with | .move x => S.put o.dst (S.ev x) | _ => S)
    | none => S)
def setAll : List Nat → List Bool → List Bool
  | [], l => l
  | i :: js, l => setAll js (l.set i true)
def takesB (ops : Array Oper) : List Nat → List Bool → Bool
  | [], _ => true
  | i :: js, l => (match ops[i]? with | some o => isMove o | none => false) && (Region.ready .any ops l.toArray).contains i && Region.free .any ops l.toArray i && takesB ops js (l.set i true)
theorem takes_sound {w0 : World} {B : Nat → Prop} {hd : Nat → Value} {Q : AX → AS → Prop} {ops : Array Oper} (hs : Region.noSelect ops = true) {w : World} {val : Nat → Bd} {G : Nat} : ∀ (js : List Nat) (l : List Bool) (S : AS) (a : Act), takesB ops js l = true → Rl w0 B hd S a w val →
    (∀ a', Rl w0 B hd (movS ops js S) a' w val → wpAny Try.prog .any ops (CQ w0 B hd Q) G (setAll js l).toArray a' w) → wpAny Try.prog .any ops (CQ w0 B hd Q) (G + js.length) l.toArray a w
  | [], l, S, a, _, hR, hk => hk a hR
  | i :: js, l, S, a, ht, hR, hk => by
    simp only [takesB, Bool.and_eq_true] at ht
    obtain ⟨⟨⟨hm, hr⟩, hf⟩, ht⟩ := ht
    cases ho : ops[i]? with
    | none => rw [ho] at hm; cases hm
    | some o =>
      rw [ho] at hm
      simp only [isMove, Bool.and_eq_true, Option.isNone_iff_eq_none] at hm
      obtain ⟨hg, hm⟩ := hm
      obtain ⟨dst, op, type, pos, after, guard⟩ := o
      simp only at hg hm
      subst hg
      cases op <;> (try (cases hm; done))
      rename_i x
      have hy : Yields Try.prog ops ⟨dst, .move x, type, pos, after, none⟩ (a.eval x) a := .inl ⟨rfl, fun w => by simp [execOp]⟩
      rw [show G + (i :: js).length = (G + js.length) + 1 by simp only [List.length_cons]; omega]
      refine wpAny_take ho hs hf hr (fun _ _ _ h => (CQ_panic h).elim) hy ?_
      have := takes_sound hs js (l.set i true) (S.put dst (S.ev x)) (a.put dst (a.eval x)) ht (hR.put dst (hR.ev x)) (fun a' hR' => by
        have := hk a'
        simp only [movS, ho, setAll] at this
        exact this hR')
      simpa using this
def stepsR (P : Unit → Program) (T : Unit → Tab) (ops : Array Oper) (st : List Bool → AS) (ρ : List Bool → Nat → Option (List Nat)) (l : List Bool) : List Nat → Prop
  | [] => True
  | i :: r => (match ops[i]? with | some o => stepP P T o (st l) (fun S' => renQ (ρ l i) S' (st (l.set i true))) | none => False) ∧ stepsR P T ops st ρ l r
def layR (P : Unit → Program) (T : Unit → Tab) (ops : Array Oper) (K : AS → Prop) (st : List Bool → AS) (ρ : List Bool → Nat → Option (List Nat)) : List (List Bool × List Nat) → Prop
  | [] => True
  | (l, is) :: r => (match is with | [] => K (st l) | i :: is => stepsR P T ops st ρ l (i :: is)) ∧ layR P T ops K st ρ r
theorem stepsR_get {P : Unit → Program} {T : Unit → Tab} {ops : Array Oper} {st : List Bool → AS} {ρ : List Bool → Nat → Option (List Nat)} {l : List Bool} : ∀ {is : List Nat} {i : Nat}, stepsR P T ops st ρ l is → i ∈ is → ∃ o, ops[i]? = some o ∧ stepP P T o (st l) (fun S' => renQ (ρ l i) S' (st (l.set i true)))
  | [], i, _, h => by simp at h
  | j :: is, i, h, hi => by
    simp only [stepsR] at h
    rcases List.mem_cons.1 hi with rfl | hi
    · have h1 := h.1
      split at h1
      · rename_i o ho; exact ⟨o, ho, h1⟩
      · exact h1.elim
    · exact stepsR_get h.2 hi
theorem layR_get {P : Unit → Program} {T : Unit → Tab} {ops : Array Oper} {K : AS → Prop} {st : List Bool → AS} {ρ : List Bool → Nat → Option (List Nat)} : ∀ {Ls : List (List Bool × List Nat)} {l : List Bool} {is : List Nat}, layR P T ops K st ρ Ls → (l, is) ∈ Ls → (is = [] → K (st l)) ∧ stepsR P T ops st ρ l is
  | [], _, _, _, h => by simp at h
  | (l', is') :: r, l, is, h, hm => by
    simp only [layR] at h
    rcases List.mem_cons.1 hm with e | hm
    · cases e
      cases is' with
      | nil => exact ⟨fun _ => h.1, trivial⟩
      | cons i is => exact ⟨fun e => (by cases e), h.1⟩
    · exact layR_get h.2 hm
def layOkR (ops : Array Oper) (js : List Nat) (Ls : List (List Bool × List Nat)) : Bool :=
  Ls.all (fun p => p.1.length == ops.size && Region.ready .any ops p.1.toArray == p.2 && p.2.all (fun i => Ls.any fun q => q.1 == p.1.set i true)) && Ls.any (fun q => q.1 == setAll js (List.replicate ops.size false)) && ops.toList.all (fun o => o.guard.isNone) && Region.noSelect ops && takesB ops js (List.replicate ops.size false) && ((setAll js (List.replicate ops.size false)).count false + js.length == ops.size)
/-- The sets that can have come up behind those in which the moves js have, each with those that can come next. -/
def setsR (ops : Array Oper) : Nat → List (List Bool) → List (List Bool × List Nat) → List (List Bool × List Nat)
  | 0, _, acc => acc.reverse
  | _ + 1, [], acc => acc.reverse
  | n + 1, l :: todo, acc => if (acc.any fun p => p.1 == l) = true then setsR ops n todo acc
      else setsR ops n (todo ++ (Region.ready .any ops l.toArray).map fun i => l.set i true) ((l, Region.ready .any ops l.toArray) :: acc)
theorem DrawL.layersR {id : Nat} {ops : Array Oper} {Q : AX → AS → Prop} {S : AS} (vs : List (Nat × AV)) (js : List Nat) (ρ : List Bool → Nat → Option (List Nat)) (Ls : List (List Bool × List Nat)) (hok : layOkR ops js Ls = true)
    (h0 : movS ops js S = runD tab vs 0 ops.toList (setAll js (List.replicate ops.size false)) S) (h : layR (fun _ => Try.prog) (fun _ => tab) ops (Q .normal) (fun l => runD tab vs 0 ops.toList l S) ρ Ls) : DrawL (fun _ => Try.prog) (fun _ => tab) id ops true Q S := by
  simp only [layOkR, Bool.and_eq_true, List.all_eq_true, List.any_eq_true, beq_iff_eq] at hok
  obtain ⟨⟨⟨⟨⟨k1, k2⟩, k3⟩, k4⟩, k5⟩, k6⟩ := hok
  refine ⟨fun w0 B hd a w val hR => wp_region_any mixed ?_⟩
  have key : ∀ (fuel : Nat) (l : List Bool) (is : List Nat) (a : Act) (w : World) (val : Nat → Bd), (l, is) ∈ Ls → l.count false ≤ fuel → Rl w0 B hd (runD tab vs 0 ops.toList l S) a w val → wpAny Try.prog .any ops (CQ w0 B hd Q) fuel l.toArray a w := fun fuel => by
    induction fuel with
    | zero =>
      intro l is a w val hm hc hR
      obtain ⟨⟨e1, e2⟩, e3⟩ := k1 _ hm
      simp only at e1 e2 e3
      have hz : is = [] := by
        cases is with
        | nil => rfl
        | cons i is =>
          exfalso
          have hi : i ∈ Region.ready .any ops l.toArray := by rw [e2]; simp
          obtain ⟨hu, o, ho, _⟩ := mem_ready.1 hi
          have hlt : i < l.length := by rw [e1]; exact (Array.getElem?_eq_some_iff.1 ho).1
          have : l[i]? = some false := by
            rw [List.getElem?_eq_getElem hlt]
            simpa [hlt] using hu
          have := cnt_set this
          omega
      subst hz
      exact ⟨e2, .normal, _, val, rfl, (layR_get h hm).1 rfl, hR⟩
    | succ fuel ih =>
      intro l is a w val hm hc hR
      obtain ⟨⟨e1, e2⟩, e3⟩ := k1 _ hm
      simp only at e1 e2 e3
      obtain ⟨g1, g2⟩ := layR_get h hm
      refine ⟨fun hr => ⟨.normal, _, val, rfl, g1 (by rw [← e2]; exact hr), hR⟩, fun i hi => ?_⟩
      obtain ⟨hu, _⟩ := mem_ready.1 hi
      rw [e2] at hi
      obtain ⟨o, ho, hs⟩ := stepsR_get g2 hi
      have hlt : i < l.length := by rw [e1]; exact (Array.getElem?_eq_some_iff.1 ho).1
      have hl : l[i]? = some false := by
        rw [List.getElem?_eq_getElem hlt]
        simpa [hlt] using hu
      obtain ⟨⟨l', is'⟩, hm', hl'⟩ := e3 i hi
      simp only at hl'
      have hg : o.guard = none := by
        have := k3 o (by simpa using Array.mem_of_getElem? ho)
        simpa using this
      unfold wpOp
      rw [ho]
      simp only
      rw [wanted_none hg, if_pos rfl]
      refine .inl (stepP_sound tabOk hR hs fun S' a' w' val' h1 h2 => ?_)
      obtain ⟨v2, h3⟩ := h2.toQ h1
      have := ih l' is' a' w' v2 hm' (by have := cnt_set hl; rw [hl']; omega) (by rw [hl']; exact h3)
      rw [hl'] at this
      simpa using this
  obtain ⟨⟨l, is⟩, hm, hl⟩ := k2
  simp only at hl
  have hst := takes_sound (Q := Q) (G := (setAll js (List.replicate ops.size false)).count false) k4 js (List.replicate ops.size false) S a k5 (keep_draw hR) (fun a' hR' => by
    rw [h0] at hR'
    have := key _ l is a' _ _ hm (by rw [hl]; exact Nat.le_refl _) (by rw [hl]; exact hR')
    rw [hl] at this
    exact this)
  rw [k6] at hst
  simpa using hst
end Go.Proofs.Ythogfineaeklpaa.M
