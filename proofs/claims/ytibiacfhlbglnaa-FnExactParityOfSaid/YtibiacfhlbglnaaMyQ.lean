/- Names that change at a round's end; nil slices as rows of the call's own; ends with names of their own. -/
import Derived.Test.YtibiacfhlbglnaaQc
namespace Go.Proofs.Ytibiacfhlbglnaa.M
open Go.RowKit Abs
set_option linter.unusedSimpArgs false
set_option linter.unusedVariables false
set_option maxRecDepth 100000
set_option maxHeartbeats 4000000
def ltO (N : Nat) : Option Blk → Bool
  | some b => ltB N b
  | none => true
def renOk (ρ : List Nat) (S S' : AS) : Bool := ρ.length == S'.H.length && nodupB ρ && firstB S'.k ρ && S'.k.ble S'.H.length && S.k == S'.k && ltL S'.H.length S'.tm && S'.H.all (ltO S'.H.length)
def renD (ρ : List Nat) (S S' : AS) : Prop := AVleL S.H.length S.tm (renL ρ S'.tm) ∧ postP S.H.length ρ S.H ρ S'.H ∧ (if (renOk ρ S S') = true then True else False)
theorem renL_len (ρ : List Nat) : ∀ l : List AV, (renL ρ l).length = l.length
  | [] => rfl
  | x :: l => by simp [renL, renL_len ρ l]
theorem renL_get (ρ : List Nat) : ∀ (l : List AV) (t : Nat), (renL ρ l).getD t .undef = ren ρ (l.getD t .undef)
  | [], t => by simp [renL, ren]
  | x :: l, 0 => by simp [renL]
  | x :: l, t + 1 => by simpa [renL] using renL_get ρ l t
theorem ltL_get {N : Nat} : ∀ {l : List AV} {t : Nat}, ltL N l = true → ltA N (l.getD t .undef) = true
  | [], t, _ => by simp [ltA]
  | x :: l, 0, h => by simp only [ltL, Bool.and_eq_true] at h; simpa using h.1
  | x :: l, t + 1, h => by simp only [ltL, Bool.and_eq_true] at h; simpa using ltL_get (t := t) h.2
theorem Rl.renD {w0 w : World} {B : Nat → Prop} {hd : Nat → Value} {S S' : AS} {a : Act} {val : Nat → Bd} {ρ : List Nat} (hR : Rl w0 B hd S a w val) (h : M.renD ρ S S') : Rl w0 B hd S' a w (fun i => val (nth ρ i)) := by
  obtain ⟨h1, h2, h3⟩ := h
  have hb : renOk ρ S S' = true := by
    cases hb : renOk ρ S S' with
    | true => rfl
    | false => rw [hb] at h3; exact h3.elim
  simp only [renOk, Bool.and_eq_true, beq_iff_eq] at hb
  obtain ⟨⟨⟨⟨⟨⟨o1, o2⟩, o3⟩, o4⟩, o5⟩, o6⟩, o7⟩ := hb
  have hnd := nodupB_spec o2
  have hfirst : ∀ i, i < S'.k → nth ρ i = i := fun i hi => by
    simp only [firstB, List.all_eq_true, beq_iff_eq] at o3
    exact o3 i (List.mem_of_getElem? (i := i) (by rw [upFrom_get, if_pos hi]; simp))
  have get : ∀ {i : Nat} {b : Blk}, S'.H[i]? = some (some b) → ∃ c, S.H[nth ρ i]? = some (some c) ∧ BLe S.H.length c (renB ρ b) := fun {i b} hb => by
    obtain ⟨n, c, k1, k2, k3⟩ := postP_get o1 h2 hb
    exact ⟨c, by rw [nth_of k1]; exact k2, k3⟩
  have hk : ∀ b, okF S.H val b → okF S'.H (fun i => val (nth ρ i)) b := fun b hb n c hc => by
    obtain ⟨c1, k1, _⟩ := get hc
    exact hb _ _ k1
  have hlt : ∀ i b, S'.H[i]? = some (some b) → ltB S'.H.length b = true := fun i b hb => by
    have := List.all_eq_true.1 o7 _ (List.mem_of_getElem? hb)
    simpa [ltO] using this
  refine ⟨hR.fr, by rw [hR.len, h1.len, renL_len], hR.defers, fun t => ?_, ⟨fun i b hb => ?_, fun i b hb g hg => ?_, fun i j b c hij hb hc g hg hg' => ?_⟩, fun i b hb g hg => ?_, fun i hi => ?_, Nat.le_of_ble_eq_true o4⟩
  · have m1 := (hR.tmps t).le (h1.get t)
    rw [renL_get] at m1
    exact (VRel.unren (N := S'.H.length) (val := fun i => val (nth ρ i)) (fun n _ => ⟨rfl, rfl⟩) (ltL_get o6) m1).keep ⟨Nat.le_refl _, fun b hb _ => ⟨hk b hb, rfl⟩, Nat.le_refl _, fun _ _ => rfl, fun _ _ => rfl⟩
  · obtain ⟨c, k1, k2⟩ := get hb
    exact BRel.unren hk (fun n _ => ⟨rfl, rfl⟩) (hlt i b hb) ((hR.heap.blk _ _ k1).le k2)
  · obtain ⟨c, k1, k2⟩ := get hb
    exact hR.heap.lt _ _ k1 g hg
  · obtain ⟨c1, k1, _⟩ := get hb
    obtain ⟨c2, k2, _⟩ := get hc
    refine hR.heap.apart _ _ _ _ (fun e => hij ?_) k1 k2 g hg hg'
    have hi : i < ρ.length := by rw [o1]; exact (List.getElem?_eq_some_iff.1 hb).1
    have hj : j < ρ.length := by rw [o1]; exact (List.getElem?_eq_some_iff.1 hc).1
    have e1 := nth_get hi
    have e2 := nth_get hj
    rw [e] at e1
    exact (List.getElem_inj (h₀ := hi) (h₁ := hj) hnd).1 (by rw [(List.getElem?_eq_some_iff.1 e1).2, (List.getElem?_eq_some_iff.1 e2).2])
  · obtain ⟨c, k1, _⟩ := get hb
    exact hR.own _ _ k1 g hg
  · have := hR.kept (nth ρ i)
    rw [hfirst i hi] at this
    rw [hfirst i hi]
    exact this (by rw [o5]; exact hi)
/-- A loop whose rounds end with other names. -/
theorem loopR {S : AS} {Q : AX → AS → Prop} {c : Code} (hb : drawB c = true) (ρ : List Nat) {X : Type} (inv : X → Prop) (ps : X → List (Nat × AV)) (hs : X → List (Nat × Option Blk)) (m : X → Nat) (nx : X → X) (a : X) (h0 : inv a) (hw : weakD S (stL c S (ps a) (hs a)))
    (round : ∀ x, inv x → vc (fun _ => Try.prog) (fun _ => tab) c (seqQ (fun S' => Obl (fun _ => inv (nx x) ∧ m (nx x) < m x) ∧ renD ρ S' (stL c S (ps (nx x)) (hs (nx x)))) Q) (stL c S (ps x) (hs x))) : LoopL (fun _ => Try.prog) (fun _ => tab) c Q S := by
  refine ⟨fun w0 B hd a1 w val hR => ?_⟩
  refine wp_loop_ghost (fun (x : { x : X // inv x }) a w => ∃ val, Rl w0 B hd (stL c S (ps x.1) (hs x.1)) a w val) (fun x => m x.1) ⟨a, h0⟩ ⟨_, hR.weak hw.weak⟩ fun x a w ⟨val, hR⟩ => ?_
  refine wp_mono (vc_sound tabOk mixed c _ _ hb (round x.1 x.2) w0 B hd a w val hR) fun e a' w' ⟨y, S', val', h1, h2, h3⟩ => ?_
  subst h1
  cases y with
  | normal => obtain ⟨h4, h5⟩ := h2; exact ⟨⟨nx x.1, h4.out.1⟩, ⟨_, h3.renD h5⟩, h4.out.2⟩
  | exit i => exact ⟨.exit i, S', val', rfl, h2, h3⟩
  | ret => exact ⟨.ret, S', val', rfl, h2, h3⟩
  | goto l => exact ⟨.goto l, S', val', rfl, h2, h3⟩
/-- What is known ahead of a loop may be said in other names, or of fewer of them. -/
theorem LoopL.ren {S S' : AS} {Q : AX → AS → Prop} {c : Code} (ρ : List Nat) (h : renD ρ S S') (hl : LoopL (fun _ => Try.prog) (fun _ => tab) c Q S') : LoopL (fun _ => Try.prog) (fun _ => tab) c Q S :=
  ⟨fun w0 B hd a w val hR => hl.out w0 B hd a w _ (hR.renD h)⟩
def nilA (n : Nat) : AV → AV
  | .nilsl => .ref n
  | x => x
theorem nilA_rel {ok : Nat → Prop} {w : World} {N : Nat} {val : Nat → Bd} {n : Nat} {x : AV} {v : Value} (hn : n < N) (hv : (val n).v = .slice none 0 0) (h : VRel ok w N val x v) : VRel ok w N val (nilA n x) v := by
  unfold nilA
  split
  · simp only [VRel] at h ⊢; exact ⟨hn, by rw [h, hv]⟩
  · exact h
def nilT (n : Nat) : List Nat → List AV → List AV
  | [], l => l
  | i :: r, l => nilT n r (l.set i (nilA n (l.getD i .undef)))
theorem nilT_len (n : Nat) : ∀ (r : List Nat) (l : List AV), (nilT n r l).length = l.length
  | [], l => rfl
  | i :: r, l => by rw [nilT, nilT_len n r, List.length_set]
theorem nilT_rel {ok : Nat → Prop} {w : World} {N : Nat} {val : Nat → Bd} {n : Nat} {g : Nat → Value} (hn : n < N) (hv : (val n).v = .slice none 0 0) : ∀ (r : List Nat) {l : List AV}, (∀ t, VRel ok w N val (l.getD t .undef) (g t)) → ∀ t, VRel ok w N val ((nilT n r l).getD t .undef) (g t)
  | [], l, h, t => h t
  | i :: r, l, h, t => by
    refine nilT_rel hn hv r (l := l.set i (nilA n (l.getD i .undef))) (fun t => ?_) t
    have h1 := h t
    simp only [List.getD_eq_getElem?_getD, List.getElem?_set] at h1 ⊢
    by_cases e : i = t
    · subst e
      by_cases e2 : i < l.length
      · rw [if_pos rfl, if_pos e2]
        exact nilA_rel hn hv h1
      · rw [if_pos rfl, if_neg e2]
        rw [List.getElem?_eq_none (by omega)] at h1
        exact h1
    · rw [if_neg e]; exact h1
def nilC (n : Nat) (js : List Nat) : AV → AV
  | .cells l => .cells (nilT n js l)
  | x => x
theorem VRelL.getD {ok : Nat → Prop} {w : World} {N : Nat} {val : Nat → Bd} : ∀ {l : List AV} {vs : List Value}, VRelL ok w N val l vs → vs.length = l.length ∧ ∀ t, VRel ok w N val (l.getD t .undef) (vs.getD t undef)
  | [], [], _ => ⟨rfl, fun t => by simp only [List.getD_eq_getElem?_getD, List.getElem?_nil, Option.getD_none, VRel]; rfl⟩
  | [], _ :: _, h => by simp [VRelL] at h
  | _ :: _, [], h => by simp [VRelL] at h
  | x :: l, v :: vs, h => by
    simp only [VRelL] at h
    obtain ⟨a, b⟩ := VRelL.getD h.2
    refine ⟨by simp [a], fun t => ?_⟩
    cases t with
    | zero => simpa using h.1
    | succ t => simpa using b t
theorem VRelL.ofD {ok : Nat → Prop} {w : World} {N : Nat} {val : Nat → Bd} : ∀ {l : List AV} {vs : List Value}, vs.length = l.length → (∀ t, VRel ok w N val (l.getD t .undef) (vs.getD t undef)) → VRelL ok w N val l vs
  | [], [], _, _ => by simp [VRelL]
  | [], _ :: _, h, _ => by simp at h
  | _ :: _, [], h, _ => by simp at h
  | x :: l, v :: vs, h, hr => by
    simp only [VRelL]
    exact ⟨by simpa using hr 0, VRelL.ofD (by simpa using h) fun t => by simpa using hr (t + 1)⟩
theorem nilL_rel {ok : Nat → Prop} {w : World} {N : Nat} {val : Nat → Bd} {n : Nat} {js : List Nat} {l : List AV} {vs : List Value} (hn : n < N) (hv : (val n).v = .slice none 0 0) (h : VRelL ok w N val l vs) : VRelL ok w N val (nilT n js l) vs := by
  obtain ⟨a, b⟩ := h.getD
  exact VRelL.ofD (by rw [nilT_len, a]) (nilT_rel hn hv js b)
theorem nilC_rel {ok : Nat → Prop} {w : World} {N : Nat} {val : Nat → Bd} {n : Nat} {js : List Nat} {x : AV} {v : Value} (hn : n < N) (hv : (val n).v = .slice none 0 0) (h : VRel ok w N val x v) : VRel ok w N val (nilC n js x) v := by
  unfold nilC
  split
  · simp only [VRel] at h ⊢
    obtain ⟨cs, h1, h2, h3⟩ := h
    exact ⟨cs, h1, nilL_rel hn hv h2, h3⟩
  · exact h
/-- Where a nil slice stands: in a temporary, in a cell of a temporary, in a cell of a block. -/
inductive At where
  | tmp (t : Nat)
  | cell (t j : Nat)
  | box (n j : Nat)
def nilBx (m j : Nat) : Option Blk → Option Blk
  | some (.box e cs) => some (.box e (nilT m [j] cs))
  | x => x
def AS.nil1 (S : AS) (m : Nat) : At → AS
  | .tmp t => { S with tm := nilT m [t] S.tm }
  | .cell t j => { S with tm := S.tm.set t (nilC m [j] (S.tm.getD t .undef)) }
  | .box n j => { S with H := S.H.set n (nilBx m j (S.H.getD n none)) }
def AS.nilAll (S : AS) (m : Nat) : List At → AS
  | [] => S
  | p :: r => (S.nil1 m p).nilAll m r
/-- The nil slices at these places as one row of the call's own. -/
def AS.nil (S : AS) (e : TypeId) (t : Ty) (ps : List At) : AS := AS.nilAll { S with H := S.H ++ [some (.row e t fun _ => [])] } S.H.length ps
theorem Rl.nil1 {w0 w : World} {B : Nat → Prop} {hd : Nat → Value} {S : AS} {a : Act} {val : Nat → Bd} {m : Nat} (hR : Rl w0 B hd S a w val) (hm : m < S.H.length) (hv : (val m).v = .slice none 0 0) : ∀ p : At, Rl w0 B hd (S.nil1 m p) a w val ∧ (S.nil1 m p).H.length = S.H.length
  | .tmp t => by
    refine ⟨⟨hR.fr, by rw [hR.len]; exact (nilT_len m [t] S.tm).symm, hR.defers, nilT_rel hm hv [t] hR.tmps, hR.heap, hR.own, hR.kept, hR.kle⟩, rfl⟩
  | .cell t j => by
    refine ⟨⟨hR.fr, by rw [hR.len]; simp [AS.nil1], hR.defers, fun u => ?_, hR.heap, hR.own, hR.kept, hR.kle⟩, rfl⟩
    have h1 := hR.tmps u
    simp only [AS.nil1, List.getD_eq_getElem?_getD, List.getElem?_set] at h1 ⊢
    by_cases e : t = u
    · subst e
      by_cases e2 : t < S.tm.length
      · rw [if_pos rfl, if_pos e2]
        exact nilC_rel hm hv h1
      · rw [if_pos rfl, if_neg e2]
        rw [List.getElem?_eq_none (by omega)] at h1
        exact h1
    · rw [if_neg e]; exact h1
  | .box n j => by
    have hl : (S.nil1 m (.box n j)).H.length = S.H.length := by simp [AS.nil1]
    have back : ∀ (i : Nat) (b : Blk), (S.nil1 m (.box n j)).H[i]? = some (some b) → ∃ c, S.H[i]? = some (some c) ∧ (c = b ∨ ∃ e cs, c = Blk.box e cs ∧ b = Blk.box e (nilT m [j] cs)) := fun i b hb => by
      replace hb : (List.set (α := Option Blk) S.H n (nilBx m j (S.H.getD n none)))[i]? = some (some b) := hb
      rw [List.getElem?_set] at hb
      by_cases e : n = i
      · subst e
        by_cases e2 : n < S.H.length
        · rw [if_pos rfl, if_pos e2] at hb
          simp only [Option.some.injEq] at hb
          rw [List.getD_eq_getElem?_getD, List.getElem?_eq_getElem e2, Option.getD_some] at hb
          rw [List.getElem?_eq_getElem e2]
          unfold nilBx at hb
          split at hb
          · rename_i e cs he
            rw [he]
            simp only [Option.some.injEq] at hb
            exact ⟨_, rfl, .inr ⟨e, cs, rfl, hb.symm⟩⟩
          · rw [hb]; exact ⟨b, rfl, .inl rfl⟩
        · rw [if_pos rfl, if_neg e2] at hb; cases hb
      · rw [if_neg e] at hb; exact ⟨b, hb, .inl rfl⟩
    have hk : ∀ g, okF S.H val g → okF (S.nil1 m (.box n j)).H val g := fun g hg i b hb => by
      obtain ⟨c, hc, _⟩ := back i b hb
      exact hg i c hc
    have K : Keep0 (okF S.H val) (okF (S.nil1 m (.box n j)).H val) w w S.H.length S.H.length val val := ⟨Nat.le_refl _, fun b hb _ => ⟨hk b hb, rfl⟩, Nat.le_refl _, fun _ _ => rfl, fun _ _ => rfl⟩
    refine ⟨⟨hR.fr, hR.len, hR.defers, fun t => by rw [hl]; exact (hR.tmps t).keep K, ⟨fun i b hb => ?_, fun i b hb => ?_, fun i i' b b' hne hb hb' => ?_⟩, fun i b hb => ?_, hR.kept, by rw [hl]; exact hR.kle⟩, hl⟩
    · obtain ⟨c, hc, h⟩ := back i b hb
      have h1 := (hR.heap.blk i c hc).keep K fun _ _ => rfl
      rw [hl]
      rcases h with rfl | ⟨e, cs, rfl, rfl⟩
      · exact h1
      · obtain ⟨g, cur, k1, k2, k3, k4⟩ := h1
        exact ⟨g, cur, k1, k2, nilL_rel hm hv k3, k4⟩
    · obtain ⟨c, hc, _⟩ := back i b hb
      exact hR.heap.lt i c hc
    · obtain ⟨c, hc, _⟩ := back i b hb
      obtain ⟨c', hc', _⟩ := back i' b' hb'
      exact hR.heap.apart i i' c c' hne hc hc'
    · obtain ⟨c, hc, _⟩ := back i b hb
      exact hR.own i c hc
theorem Rl.nilAll {w0 w : World} {B : Nat → Prop} {hd : Nat → Value} {a : Act} {val : Nat → Bd} {m : Nat} (hv : (val m).v = .slice none 0 0) : ∀ (ps : List At) {S : AS}, Rl w0 B hd S a w val → m < S.H.length → Rl w0 B hd (S.nilAll m ps) a w val
  | [], S, hR, _ => hR
  | p :: r, S, hR, hm => by
    obtain ⟨h1, h2⟩ := hR.nil1 hm hv p
    exact Rl.nilAll hv r h1 (by rw [h2]; exact hm)
theorem Rl.nil {w0 w : World} {B : Nat → Prop} {hd : Nat → Value} {S : AS} {a : Act} {val : Nat → Bd} (hR : Rl w0 B hd S a w val) (e : TypeId) (t : Ty) (ps : List At) : ∃ val', Rl w0 B hd (S.nil e t ps) a w val' := by
  have hF := hR.fresh (Below.refl _ w) [] (d := ⟨.slice none 0 0, [], []⟩) (b := .row e t fun _ => []) (fun g hg => by simp at hg)
    (fun val' _ _ hok => ⟨[], World.ownsRow_nil w 0 e t.n, ⟨by simp, fun i y hy => by simp at hy⟩, by simp [ownB]⟩)
  exact ⟨_, Rl.nilAll (by simp [upd_self]) ps hF (by simp [dropC])⟩
theorem LoopL.nil {S : AS} {Q : AX → AS → Prop} {c : Code} (e : TypeId) (t : Ty) (ps : List At) (hl : LoopL (fun _ => Try.prog) (fun _ => tab) c Q (S.nil e t ps)) : LoopL (fun _ => Try.prog) (fun _ => tab) c Q S :=
  ⟨fun w0 B hd a w val hR => by obtain ⟨val', h⟩ := hR.nil e t ps; exact hl.out w0 B hd a w val' h⟩
end Go.Proofs.Ytibiacfhlbglnaa.M
