/- Operations that make memory or write it do as is reckoned: variables and cells. -/
import Derived.Test.YtbkdmnohpjihgaaMh
namespace Go.Proofs.Ytbkdmnohpjihgaa.M
open Go.RowKit Abs
set_option linter.unusedVariables false
set_option linter.unusedSimpArgs false

theorem castSl {u t : Ty} {l : Unit → List u.den} {y : Unit → List t.den} (h : castT (.sl u) (.sl t) l = some y) : ∃ e : u = t, y = fun _ => (e ▸ l () : List t.den) := by
  obtain ⟨e, rfl⟩ := castT_eq h
  cases e
  exact ⟨rfl, rfl⟩
section
variable {P : Program} {T : Tab} {w0 w w1 : World} {B : Nat → Prop} {hd : Nat → Value} {S : AS} {a : Act} {val : Nat → Bd}
theorem VRelL.app {ok : Nat → Prop} {N : Nat} : ∀ {xs ys : List AV} {vs us : List Value}, VRelL ok w N val xs vs → VRelL ok w N val ys us → VRelL ok w N val (xs ++ ys) (vs ++ us)
  | [], ys, [], us, _, h => h
  | [], _, _ :: _, _, h, _ => by simp [VRelL] at h
  | _ :: _, _, [], _, h, _ => by simp [VRelL] at h
  | x :: xs, ys, v :: vs, us, h, h' => by simp only [List.cons_append, VRelL] at h ⊢; exact ⟨h.1, VRelL.app h.2 h'⟩
theorem rep_cellsU {ok : Nat → Prop} {N : Nat} : ∀ {t : Ty} {x : Unit → t.den} {cs : List Value}, Rep ok w t (x ()) cs → VRelL ok w N val (cellsU t x) cs
  | .int, x, cs, h => by unfold Rep at h; subst h; simp [cellsU, VRelL, VRel]
  | .bool, x, cs, h => by unfold Rep at h; subst h; simp [cellsU, VRelL, VRel]
  | .str, x, cs, h => by unfold Rep at h; subst h; simp [cellsU, VRelL, VRel]
  | .sl t, x, cs, h => by
    have hl := h.length
    match cs, hl with
    | [v], _ => simp only [cellsU, VRelL, VRel]; exact ⟨h, trivial⟩
  | .pr a b, x, cs, h => by
    unfold Rep at h
    obtain ⟨c1, c2, rfl, h1, h2⟩ := h
    unfold cellsU
    exact VRelL.app (rep_cellsU (x := fun _ => (x ()).1) h1) (rep_cellsU (x := fun _ => (x ()).2) h2)
theorem row_slice {base : Nat} {e : TypeId} {k : Nat} {v : Value} {n : Nat} {xs : List Value} (h : w.ownsRow base e k v n xs) : ∃ ad cap, v = .slice ad n cap := by
  rcases h.2 with ⟨h2, h3⟩ | ⟨g, cap, cur, h2, _⟩
  · exact ⟨_, _, by rw [h2, h3]⟩
  · exact ⟨_, _, h2⟩
theorem cells_rel (hR : Rl w0 B hd S a w val) {x : AV} {v : Value} {cs : List AV} (hx : VRel (okF S.H val) w S.H.length val x v) (hc : cellsOf S.H x = some cs) :
    VRelL (okF S.H val) w S.H.length val cs v.cells.toList ∧ ∀ u ∈ v.cells.toList, u.oneCell' = true := by
  have one : ∀ (y : AV), VRel (okF S.H val) w S.H.length val y v → v.oneCell' = true → v.cells = #[v] → cs = [y] →
      VRelL (okF S.H val) w S.H.length val cs v.cells.toList ∧ ∀ u ∈ v.cells.toList, u.oneCell' = true := by
    intro y hy h1 h2 h3
    subst h3
    rw [h2]
    exact ⟨by simp [VRelL]; exact hy, fun u hu => by simp at hu; subst hu; exact h1⟩
  cases x <;> simp only [cellsOf, Option.some.injEq] at hc <;> (try (cases hc; done))
  case agg t d =>
    simp only [VRel] at hx
    obtain ⟨vs, rfl, hr⟩ := hx
    subst hc
    exact ⟨by simp only [Value.cells]; exact rep_cellsU hr, fun u hu => hr.one u (by simpa [Value.cells] using hu)⟩
  case cells l =>
    simp only [VRel] at hx
    obtain ⟨vs, rfl, hr, h1⟩ := hx
    subst hc
    exact ⟨by simpa [Value.cells] using hr, fun u hu => h1 u (by simpa [Value.cells] using hu)⟩
  case int k => have hx' := hx; simp only [VRel] at hx'; exact one _ hx (by rw [hx']; rfl) (by rw [hx']; rfl) hc.symm
  case lit k => have hx' := hx; simp only [VRel] at hx'; exact one _ hx (by rw [hx']; rfl) (by rw [hx']; rfl) hc.symm
  case bool k => have hx' := hx; simp only [VRel] at hx'; exact one _ hx (by rw [hx']; rfl) (by rw [hx']; rfl) hc.symm
  case str k => have hx' := hx; simp only [VRel] at hx'; exact one _ hx (by rw [hx']; rfl) (by rw [hx']; rfl) hc.symm
  case u8 k => have hx' := hx; simp only [VRel] at hx'; exact one _ hx (by rw [hx']; rfl) (by rw [hx']; rfl) hc.symm
  case sl t l =>
    have hx' := hx
    simp only [VRel] at hx'
    have h1 := hx'.one v (by simp)
    have e : ∃ ad n c, v = .slice ad n c := by
      unfold Rep at hx'
      obtain ⟨ad, cap, he, _⟩ := hx'
      simp at he
      exact ⟨_, _, _, he⟩
    obtain ⟨ad, n, c, e⟩ := e
    exact one _ hx h1 (by rw [e]; rfl) hc.symm
  case ref n =>
    have hx' := hx
    simp only [VRel] at hx'
    split at hc
    · rename_i e t l hH
      cases hc
      obtain ⟨xs, h1, _⟩ := hR.heap.blk n _ hH
      obtain ⟨ad, c, e⟩ := row_slice h1
      exact one _ hx (by rw [hx'.2, e]; rfl) (by rw [hx'.2, e]; rfl) rfl
    · rename_i e e2 t l hH
      cases hc
      obtain ⟨h1, _⟩ := hR.heap.blk n _ hH
      obtain ⟨ad, c, e⟩ := row_slice h1
      exact one _ hx (by rw [hx'.2, e]; rfl) (by rw [hx'.2, e]; rfl) rfl
    · cases hc
  case elem n i =>
    have hx' := hx
    simp only [VRel] at hx'
    split at hc
    · rename_i e e2 t l hH
      cases hc
      obtain ⟨h1, h2, _⟩ := hR.heap.blk n _ hH
      have hhs : (val n).hs.length = (l ()).length := by have := h1.1; simpa using this
      have hlt : (i ()).toNat < (l ()).length := by rw [← hhs]; exact (List.getElem?_eq_some_iff.1 hx'.2.2).1
      obtain ⟨h, xs, m1, m2, m3⟩ := h2 _ _ (getR_get (i := i ()) hx'.2.1 (by omega))
      rw [hx'.2.2] at m1
      cases m1
      obtain ⟨ad, c, e⟩ := row_slice m2
      exact one _ hx (by rw [e]; rfl) (by rw [e]; rfl) rfl
    · cases hc
  case ptr n i => have hx' := hx; simp only [VRel] at hx'; obtain ⟨_, g, _, e⟩ := hx'; exact one _ hx (by rw [e]; rfl) (by rw [e]; rfl) hc.symm
  case eptr n i k => have hx' := hx; simp only [VRel] at hx'; obtain ⟨h0, g, l, c, h1, _, _, e⟩ := hx'; exact one _ hx (by rw [e]; rfl) (by rw [e]; rfl) hc.symm
  case eelem n i j k => have hx' := hx; simp only [VRel] at hx'; obtain ⟨h0, h00, g, l, c, h1, _, _, e⟩ := hx'; exact one _ hx (by rw [e]; rfl) (by rw [e]; rfl) hc.symm
  case iptr t d => have hx' := hx; simp only [VRel] at hx'; obtain ⟨b, o, cs', e, _⟩ := hx'; exact one _ hx (by rw [e]; rfl) (by rw [e]; rfl) hc.symm
  case ibox l i => have hx' := hx; simp only [VRel] at hx'; obtain ⟨b, us, e, _⟩ := hx'; exact one _ hx (by rw [e]; rfl) (by rw [e]; rfl) hc.symm
  case fn f cap => have hx' := hx; simp only [VRel] at hx'; obtain ⟨vs, e, _⟩ := hx'; exact one _ hx (by rw [e]; rfl) (by rw [e]; rfl) hc.symm
  case nilsl => have hx' := hx; simp only [VRel] at hx'; exact one _ hx (by rw [hx']; rfl) (by rw [hx']; rfl) hc.symm
theorem zc_rel {ok : Nat → Prop} {N : Nat} : ∀ t : Ty, VRelL ok w N val (zcU t) (zcellsOf t) ∧ ∀ u ∈ zcellsOf t, u.oneCell' = true
  | .int => by simp [zcU, zcellsOf, VRelL, VRel]; rfl
  | .bool => by simp [zcU, zcellsOf, VRelL, VRel]; rfl
  | .str => by simp [zcU, zcellsOf, VRelL, VRel]; rfl
  | .sl t => by simp [zcU, zcellsOf, VRelL, VRel]; rfl
  | .pr a b => by
    unfold zcU zcellsOf
    exact ⟨VRelL.app (zc_rel a).1 (zc_rel b).1, fun u hu => by exact (List.mem_append.1 hu).elim ((zc_rel (ok := ok) (N := N) a).2 u) ((zc_rel (ok := ok) (N := N) b).2 u)⟩
theorem fresh_box (hR : Rl w0 B hd S a w val) {e : TypeId} {cs : List AV} {cur : Array Value} (h1 : VRelL (okF S.H val) w S.H.length val cs cur.toList) (h2 : ∀ u ∈ cur.toList, u.oneCell' = true) :
    Rl w0 B hd { S with H := S.H ++ [some (.box e cs)] } a (w.alloc (.cells cur e)) (upd val S.H.length ⟨.pointer (some ⟨w.heap.size, 0, none⟩), [], [w.heap.size]⟩) := by
  have hb : Below w.heap.size w (w.alloc (.cells cur e)) := (Below.refl _ _).alloc (Nat.le_refl _) _
  refine hR.fresh hb [] (fun g hg => .inl ?_) fun val' hv hd hok => ?_
  · simp only [List.mem_singleton] at hg
    subst hg
    exact ⟨Nat.le_refl _, by show w.heap.size < (w.heap.push _).size; simp⟩
  · refine ⟨w.heap.size, cur, rfl, heap_alloc_new _ _, h1.keep ⟨hb.size, hok, by omega, fun m hm => by rw [hv m hm], fun m hm => by rw [hv m hm]⟩, h2, rfl⟩
theorem box_step (hR : Rl w0 B hd S a w val) {o : Oper} {e : TypeId} {x : Operand} (hop : o.op = .box e x) {cs : List AV} (hc : cellsOf S.H (S.ev x) = some cs) {next : Act → World → Prop} {Q : Exit → Act → World → Prop}
    (hn : ∀ a' w' val', Rl w0 B hd (S.new o.dst (.ptr S.H.length 0) (.box e cs)) a' w' val' → next a' w') : o.wp P a w next Q := by
  obtain ⟨h1, h2⟩ := cells_rel hR (hR.ev x) hc
  have hF := fresh_box hR (e := e) h1 h2
  refine wp_of_value (v := .pointer (some ⟨w.heap.size, 0, none⟩)) (w1 := w.alloc (.cells (a.eval x).cells e)) ?_ (hn _ _ _ (hF.put o.dst (by simp only [VRel]; exact ⟨by simp, w.heap.size, by rw [upd_self], rfl⟩)))
  obtain ⟨dst, op, type, pos, after, guard⟩ := o
  simp only at hop
  subst hop
  simp [execOp, Instr.box, newVar, newRow]
theorem alloc_step (hT : TOk P T) (hR : Rl w0 B hd S a w val) {o : Oper} {e : TypeId} (hop : o.op = .alloc e) {tt : Ty} (ht : (tl T e).ty = some tt) {next : Act → World → Prop} {Q : Exit → Act → World → Prop}
    (hn : ∀ a' w' val', Rl w0 B hd (S.new o.dst (.ptr S.H.length 0) (.box e (zcU tt))) a' w' val' → next a' w') : o.wp P a w next Q := by
  obtain ⟨i, z, hi, hz, hsz, hby, hzc⟩ := elemOk_info (hT.ty ht).2.1
  obtain ⟨h1, h2⟩ := zc_rel (w := w) (ok := okF S.H val) (N := S.H.length) (val := val) tt
  rw [← hzc] at h1 h2
  have hF := fresh_box hR (e := e) h1 h2
  refine wp_of_value (v := .pointer (some ⟨w.heap.size, 0, none⟩)) (w1 := w.alloc (.cells z.cells e)) ?_ (hn _ _ _ (hF.put o.dst (by simp only [VRel]; exact ⟨by simp, w.heap.size, by rw [upd_self], rfl⟩)))
  obtain ⟨dst, op, type, pos, after, guard⟩ := o
  simp only at hop
  subst hop
  simp [execOp, Instr.alloc, newVar, newRow, zeroValue, typeInfo, hi, hz]
theorem VRelL.drop {ok : Nat → Prop} {N : Nat} : ∀ {xs : List AV} {vs : List Value} (i : Nat), VRelL ok w N val xs vs → VRelL ok w N val (xs.drop i) (vs.drop i)
  | xs, vs, 0, h => h
  | [], [], i + 1, _ => by simp [VRelL]
  | [], _ :: _, _ + 1, h => by simp [VRelL] at h
  | _ :: _, [], _ + 1, h => by simp [VRelL] at h
  | x :: xs, v :: vs, i + 1, h => by simp only [VRelL] at h; simpa using VRelL.drop i h.2
theorem VRelL.take {ok : Nat → Prop} {N : Nat} : ∀ {xs : List AV} {vs : List Value} (i : Nat), VRelL ok w N val xs vs → VRelL ok w N val (xs.take i) (vs.take i)
  | xs, vs, 0, h => by simp [VRelL]
  | [], [], i + 1, _ => by simp [VRelL]
  | [], _ :: _, _ + 1, h => by simp [VRelL] at h
  | _ :: _, [], _ + 1, h => by simp [VRelL] at h
  | x :: xs, v :: vs, i + 1, h => by simp only [VRelL] at h; simp only [List.take_succ_cons, VRelL]; exact ⟨h.1, VRelL.take i h.2⟩
theorem storeBox_step (hT : TOk P T) (hR : Rl w0 B hd S a w val) {o : Oper} {t : TypeId} {p x : Operand} (hop : o.op = .store t p x) {n i : Nat} (hp : S.ev p = .ptr n i) {e : TypeId} {cs xs : List AV} (hH : S.H[n]? = some (some (.box e cs)))
    (hc : cellsOf S.H (S.ev x) = some xs) (hs : szOf P t = some xs.length) (hl : i + xs.length ≤ cs.length) {next : Act → World → Prop} {Q : Exit → Act → World → Prop}
    (hn : ∀ a' w' val', Rl w0 B hd ({ S with H := S.H.set n (some (.box e (splice cs i xs))) }.put o.dst .undef) a' w' val' → next a' w') : o.wp P a w next Q := by
  obtain ⟨h1, h2⟩ := cells_rel hR (hR.ev x) hc
  have hpv := hR.ev p
  rw [hp] at hpv
  simp only [VRel] at hpv
  obtain ⟨_, g, hv, hpe⟩ := hpv
  obtain ⟨g', cur, k1, k2, k3, k4, k5⟩ := hR.heap.blk n _ hH
  rw [hv] at k1
  cases k1
  have hl1 : (a.eval x).cells.size = xs.length := by have := h1.len; simpa using this
  have hl3 : cur.size = cs.length := by have := k3.len; simpa using this
  have hrun := store_run (P := P) (w := w) (t := t) (g := g) (o := i) (v := a.eval x) k2 (by rw [hs, hl1]) (by omega) h2
  have fr := setRow_frame w g (cur.toList.take i ++ (a.eval x).cells.toList ++ cur.toList.drop (i + (a.eval x).cells.size)).toArray
  have hW := hR.write (w1 := w.setRow g (cur.toList.take i ++ (a.eval x).cells.toList ++ cur.toList.drop (i + (a.eval x).cells.size)).toArray) (b' := .box e (splice cs i xs)) hH
    fr.1 fr.2.1 fr.2.2.1 fr.2.2.2 (fun k hk => setRow_other _ _ _ _ (fun e => hk (by rw [k5, e]; simp))) (fun K => by
      refine ⟨g, _, hv, setRow_heap w g cur _ e (0, 0) k2, ?_, ?_, k5⟩
      · refine VRelL.keep K ?_
        unfold splice
        rw [← hl1]
        exact VRelL.app (VRelL.app (k3.take i) h1) (k3.drop _)
      · intro u hu
        simp only [List.mem_append] at hu
        rcases hu with (hu | hu) | hu
        · exact k4 u (List.mem_of_mem_take hu)
        · exact h2 u hu
        · exact k4 u (List.mem_of_mem_drop hu))
  refine wp_of_skip (w1 := w.setRow g (cur.toList.take i ++ (a.eval x).cells.toList ++ cur.toList.drop (i + (a.eval x).cells.size)).toArray) ?_ (hn _ _ _ (hW.put o.dst (by simp only [VRel]; rfl)))
  obtain ⟨dst, op, type, pos, after, guard⟩ := o
  simp only at hop
  subst hop
  simp [execOp, hpe, hrun]
end
end Go.Proofs.Ytbkdmnohpjihgaa.M
