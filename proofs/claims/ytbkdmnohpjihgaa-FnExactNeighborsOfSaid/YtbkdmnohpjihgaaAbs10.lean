/- Operations that make memory or write it: what a step may do. -/
import Derived.Test.YtbkdmnohpjihgaaAbs9
namespace Go.Proofs.Ytbkdmnohpjihgaa.Abs
open Go.RowKit
set_option linter.unusedVariables false

def partVals (S : AS) (tt : Ty) : Nat → List (Nat × Operand) → Option (List tt.den)
  | _, [] => some []
  | i, (j, x) :: r => if i = j then (match unInj tt (S.ev x), partVals S tt (i + 1) r with
    | some y, some l => some (y :: l)
    | _, _ => none) else none
def appStep (P : Program) (S : AS) (dst : Option Tmp) (ts : List TypeId) (xs : List Operand) (K : AS → Prop) : Prop :=
  match ts, xs with
  | [t, t'], [s, x] => t' = t ∧ (match S.ev s with
    | .nilsl => ∃ e tt, slElem P t = some e ∧ tyOf P 8 e = some tt ∧ elemOk P e tt ∧ ∃ l2, srcOf S tt (S.ev x) = some l2 ∧ l2.length ≤ 4294967296 ∧ K (S.new dst (.ref S.H.length) (.row e tt l2))
    | .ref n => (match S.H[n]? with
      | some (some (.row e tt l)) => slElem P t = some e ∧ elemOk P e tt ∧ ∃ l2, srcOf S tt (S.ev x) = some l2 ∧ l.length + l2.length ≤ 4294967296 ∧
        K ({ S with H := S.H.set n none ++ [some (Blk.row e tt (l ++ l2))] }.put dst (.ref S.H.length))
      | _ => False)
    | _ => False)
  | _, _ => False
def sstep (P : Program) (S : AS) (o : Oper) (K : AS → Prop) : Prop :=
  match o.op with
  | .box e x => ∃ cs, cellsOfAV S.H (S.ev x) = some cs ∧ K (S.new o.dst (.ptr S.H.length 0) (.box e cs))
  | .alloc e => ∃ cs, zAVs P e = some cs ∧ K (S.new o.dst (.ptr S.H.length 0) (.box e cs))
  | .store t a x => (match S.ev a with
    | .ptr n i => (match S.H[n]? with
      | some (some (.box e cs)) => ∃ xs, cellsOfAV S.H (S.ev x) = some xs ∧ szOf P t = some xs.length ∧ i + xs.length ≤ cs.length ∧ K ({ S with H := S.H.set n (some (.box e (splice cs i xs))) }.put o.dst .undef)
      | _ => False)
    | .eptr n i k => (match S.H[n]? with
      | some (some (.row e tt l)) => k = tt.n ∧ szOf P t = some tt.n ∧ i < l.length ∧ ∃ y, unInj tt (S.ev x) = some y ∧ K ({ S with H := S.H.set n (some (.row e tt (l.set i y))) }.put o.dst .undef)
      | _ => False)
    | _ => False)
  | .buildSlice t len parts => ∃ e tt, slElem P t = some e ∧ tyOf P 8 e = some tt ∧ elemOk P e tt ∧ ∃ l, partVals S tt 0 parts.toList = some l ∧ l.length = len ∧ len * tt.n ≤ 16777216 ∧
      K (S.new o.dst (.ref S.H.length) (.row e tt l))
  | .makeSlice t l c => (match S.ev l, S.ev c with
    | .int p, .int q => ∃ e tt, slElem P t = some e ∧ tyOf P 8 e = some tt ∧ elemOk P e tt ∧ 0 ≤ p ∧ p ≤ q ∧ q ≤ 4294967296 ∧ K (S.new o.dst (.ref S.H.length) (.row e tt (List.replicate p.toNat (zden tt))))
    | _, _ => False)
  | .call c => (match c.callee with
    | .builtin .append => appStep P S o.dst c.argTypes.toList c.args.toList K
    | .value f => (∃ v, qcall P S o v ∧ K (S.put o.dst v)) ∨ (match S.ev f with
      | .fn f cap => ∃ args e tt l, argsOk S (c.args.toList.map S.ev) args ∧ Spec P f (args ++ cap.map fun c => .iptr c.1 c.2) [.own e tt l] ∧ K (S.new o.dst (.ref S.H.length) (.row e tt l))
      | _ => False)
    | _ => ∃ v, qval P S o v ∧ K (S.put o.dst v))
  | _ => ∃ v, qval P S o v ∧ K (S.put o.dst v)

section
variable {P : Program} {w0 w w1 : World} {S : AS} {a : Act} {val : Nat → Value}
theorem wp_of_value {o : Oper} {v : Value} {next : Act → World → Prop} {Q : Exit → Act → World → Prop} (h : (execOp a.eval o).run P w = .ok (.value v) w1) (hn : next (a.put o.dst v) w1) : o.wp P a w next Q := by
  unfold Oper.wp
  rw [h]
  exact hn
theorem wp_of_skip {o : Oper} {next : Act → World → Prop} {Q : Exit → Act → World → Prop} (h : (execOp a.eval o).run P w = .ok .skip w1) (hn : next (a.put o.dst undef) w1) : o.wp P a w next Q := by
  unfold Oper.wp
  rw [h]
  exact hn
theorem q_step (hR : Rl w0 S a w val) {o : Oper} {v : AV} (h : qval P S o v) {next : Act → World → Prop} {Q : Exit → Act → World → Prop}
    (hn : ∀ a' w', Rl w0 (S.put o.dst v) a' w' val → next a' w') : o.wp P a w next Q := by
  obtain ⟨u, h1, h2⟩ := q_sound hR h
  exact wp_of_value h1 (hn _ _ (hR.put o.dst h2))
theorem box_step (hR : Rl w0 S a w val) {o : Oper} {e : TypeId} {x : Operand} (hop : o.op = .box e x) {cs : List AV} (hc : cellsOfAV S.H (S.ev x) = some cs) {next : Act → World → Prop} {Q : Exit → Act → World → Prop}
    (hn : ∀ a' w' val', Rl w0 (S.new o.dst (.ptr S.H.length 0) (.box e cs)) a' w' val' → next a' w') : o.wp P a w next Q := by
  obtain ⟨h1, h2⟩ := cells_rel hR (hR.ev x) hc
  have hF := hR.freshBox (e := e) h1 h2
  refine wp_of_value (v := .pointer (some ⟨w.heap.size, 0, none⟩)) (w1 := w.alloc (.cells (a.eval x).cells e)) ?_ (hn _ _ _ (hF.put o.dst ⟨by simp, _, upd_self _ _ _, rfl⟩))
  obtain ⟨dst, op, type, pos, after, guard⟩ := o
  simp only at hop
  subst hop
  simp [execOp, Instr.box, newVar, newRow]
theorem zav_rel {ok : Nat → Prop} {N : Nat} : ∀ {vs : List Value} {cs : List AV}, vs.mapM cvz = some cs → vs.length = cs.length ∧ ∀ (i : Nat) (c : AV), cs[i]? = some c → ∃ u, vs[i]? = some u ∧ u.oneCell' = true ∧ VRel ok w N val c u
  | [], cs, h => by simp at h; subst h; exact ⟨rfl, fun i c hc => by simp at hc⟩
  | v :: vs, cs, h => by
    simp only [List.mapM_cons, Option.bind_eq_bind, Option.bind_eq_some_iff] at h
    obtain ⟨c, hc, cs', hcs, h⟩ := h
    cases h
    obtain ⟨h1, h2⟩ := zav_rel hcs
    refine ⟨by simp [h1], fun i d hd => ?_⟩
    cases i with
    | zero =>
      simp at hd
      subst hd
      refine ⟨v, rfl, ?_⟩
      unfold cvz at hc
      split at hc <;> cases hc <;> exact ⟨rfl, rfl⟩
    | succ i => simpa using h2 i d (by simpa using hd)
theorem alloc_step (hR : Rl w0 S a w val) {o : Oper} {e : TypeId} (hop : o.op = .alloc e) {cs : List AV} (hc : zAVs P e = some cs) {next : Act → World → Prop} {Q : Exit → Act → World → Prop}
    (hn : ∀ a' w' val', Rl w0 (S.new o.dst (.ptr S.H.length 0) (.box e cs)) a' w' val' → next a' w') : o.wp P a w next Q := by
  unfold zAVs at hc
  simp only [Option.bind_eq_some_iff] at hc
  obtain ⟨z, ⟨i, hi, hz⟩, hm⟩ := hc
  obtain ⟨h1, h2⟩ := zav_rel (w := w) (ok := okB S.H val) (N := S.H.length) (val := val) hm
  have hF := hR.freshBox (e := e) (cur := z.cells) (by simpa using h1) (fun i c hi => by simpa using h2 i c hi)
  refine wp_of_value (v := .pointer (some ⟨w.heap.size, 0, none⟩)) (w1 := w.alloc (.cells z.cells e)) ?_ (hn _ _ _ (hF.put o.dst ⟨by simp, _, upd_self _ _ _, rfl⟩))
  obtain ⟨dst, op, type, pos, after, guard⟩ := o
  simp only at hop
  subst hop
  simp [execOp, Instr.alloc, newVar, newRow, zeroValue, typeInfo, hi, hz]
theorem splice_get {cs xs : List AV} {i j : Nat} {c : AV} (hl : i + xs.length ≤ cs.length) (h : (splice cs i xs)[j]? = some c) : (i ≤ j ∧ j < i + xs.length ∧ xs[j - i]? = some c) ∨ ((j < i ∨ i + xs.length ≤ j) ∧ cs[j]? = some c) := by
  have gen : (cs.take i ++ xs ++ cs.drop (i + xs.length))[j]? = some c → (i ≤ j ∧ j < i + xs.length ∧ xs[j - i]? = some c) ∨ ((j < i ∨ i + xs.length ≤ j) ∧ cs[j]? = some c) := by
    intro h
    have h0 : (cs.take i).length = i := by rw [List.length_take]; omega
    rcases Nat.lt_or_ge j i with h1 | h1
    · rw [List.append_assoc, List.getElem?_append_left (by omega), List.getElem?_take, if_pos h1] at h
      exact .inr ⟨.inl h1, h⟩
    · rcases Nat.lt_or_ge j (i + xs.length) with h2 | h2
      · rw [List.append_assoc, List.getElem?_append_right (by omega), List.getElem?_append_left (by omega), h0] at h
        exact .inl ⟨h1, h2, h⟩
      · rw [List.getElem?_append_right (by rw [List.length_append]; omega), List.getElem?_drop, List.length_append, h0] at h
        refine .inr ⟨.inr h2, ?_⟩
        rw [← h]; congr 1; omega
  unfold splice at h
  split at h
  · rename_i x
    simp only [List.length_singleton] at hl ⊢
    by_cases hj : i = j
    · subst hj
      rw [List.getElem?_set_self (by omega)] at h
      cases h
      exact .inl ⟨Nat.le_refl _, by omega, by simp⟩
    · rw [List.getElem?_set_ne hj] at h
      exact .inr ⟨by omega, h⟩
  · exact gen h
theorem length_splice {cs xs : List AV} {i : Nat} (hl : i + xs.length ≤ cs.length) : (splice cs i xs).length = cs.length := by
  unfold splice
  split
  · simp
  · simp; omega
theorem store_run {t : TypeId} {g o : Nat} {e : TypeId} {cur : Array Value} {v : Value} (hg : w.heap[g]? = some (.cells cur e (0, 0))) (hs : szOf P t = some v.cells.size) (hf : o + v.cells.size ≤ cur.size)
    (h1 : ∀ u ∈ v.cells.toList, u.oneCell' = true) :
    (Instr.storeAt t (.pointer (some ⟨g, o, none⟩)) v).run P w = .ok () (w.setRow g (cur.toList.take o ++ v.cells.toList ++ cur.toList.drop (o + v.cells.size)).toArray) := by
  have := run_storeCells_at P g o e v.cells.toList 0 cur w hg (by simpa using hf) h1
  simp only [Nat.add_zero, Array.length_toList] at this
  simp [Instr.storeAt, Instr.sureAddr, storeVar, run_sz hs, this]
theorem setRow_frame (w : World) (g : Nat) (c : Array Value) : (w.setRow g c).heap.size = w.heap.size ∧ (w.setRow g c).os = w.os ∧ (w.setRow g c).tape = w.tape ∧ (w.setRow g c).output = w.output := by
  unfold World.setRow; simp
theorem storeBox_step (hR : Rl w0 S a w val) {o : Oper} {t : TypeId} {p x : Operand} (hop : o.op = .store t p x) {n i : Nat} (hp : S.ev p = .ptr n i) {e : TypeId} {cs xs : List AV} (hH : S.H[n]? = some (some (.box e cs)))
    (hc : cellsOfAV S.H (S.ev x) = some xs) (hs : szOf P t = some xs.length) (hl : i + xs.length ≤ cs.length) {next : Act → World → Prop} {Q : Exit → Act → World → Prop}
    (hn : ∀ a' w' val', Rl w0 ({ S with H := S.H.set n (some (.box e (splice cs i xs))) }.put o.dst .undef) a' w' val' → next a' w') : o.wp P a w next Q := by
  obtain ⟨h1, h2⟩ := cells_rel hR (hR.ev x) hc
  have hpv := hR.ev p
  rw [hp] at hpv
  obtain ⟨_, g, hv, hpe⟩ := hpv
  obtain ⟨g', cur, k1, k2, k3, k4, k5⟩ := hR.heap n _ hH
  rw [hv] at k1
  cases k1
  have hrun := store_run (P := P) (w := w) (t := t) (g := g) (o := i) (v := a.eval x) k3 (by rw [hs, h1]) (by omega) (fun u hu => by
    obtain ⟨j, hj⟩ := List.mem_iff_getElem?.1 hu
    have hj' : (a.eval x).cells[j]? = some u := by simpa using hj
    have hlt : j < xs.length := by rw [← h1]; exact (Array.getElem?_eq_some_iff.1 hj').1
    obtain ⟨u', hu', ho, _⟩ := h2 j xs[j] (by simp [hlt])
    rw [hj'] at hu'
    cases hu'
    exact ho)
  have fr := setRow_frame w g (cur.toList.take i ++ (a.eval x).cells.toList ++ cur.toList.drop (i + (a.eval x).cells.size)).toArray
  have hW := hR.write (w1 := w.setRow g (cur.toList.take i ++ (a.eval x).cells.toList ++ cur.toList.drop (i + (a.eval x).cells.size)).toArray) (B' := .box e (splice cs i xs)) hH (g := g) (by rw [hv]; rfl)
    fr.1 fr.2.1 fr.2.2.1 fr.2.2.2 (fun k hk => setRow_other _ _ _ _ hk) (fun K => by
      refine ⟨g, _, hv, k2, setRow_heap w g cur _ e (0, 0) k3, ?_, fun j c hj => ?_⟩
      · rw [length_splice hl]
        simp
        omega
      · rcases splice_get hl hj with ⟨m1, m2, m3⟩ | ⟨m1, m3⟩
        · obtain ⟨u, hu, ho, hr⟩ := h2 _ c m3
          refine ⟨u, ?_, ho, hr.keep K⟩
          simp only [List.getElem?_toArray]
          rw [List.append_assoc, List.getElem?_append_right (by simp; omega), List.getElem?_append_left (by simp; omega)]
          simp only [List.length_take, Array.length_toList]
          rw [show min i cur.size = i by omega]
          simpa using hu
        · obtain ⟨u, hu, ho, hr⟩ := k5 j c m3
          refine ⟨u, ?_, ho, hr.keep K⟩
          simp only [List.getElem?_toArray]
          rcases m1 with m1 | m1
          · rw [List.append_assoc, List.getElem?_append_left (by simp; omega), List.getElem?_take, if_pos m1]
            simpa using hu
          · rw [List.getElem?_append_right (by simp; omega), List.getElem?_drop]
            simp only [List.length_append, List.length_take, Array.length_toList]
            rw [show i + (a.eval x).cells.size + (j - (min i cur.size + (a.eval x).cells.size)) = j by omega]
            simpa using hu)
  refine wp_of_skip (w1 := w.setRow g (cur.toList.take i ++ (a.eval x).cells.toList ++ cur.toList.drop (i + (a.eval x).cells.size)).toArray) ?_ (hn _ _ _ (hW.put o.dst rfl))
  obtain ⟨dst, op, type, pos, after, guard⟩ := o
  simp only at hop
  subst hop
  simp [execOp, hpe, hrun]
theorem storeRow_step (hR : Rl w0 S a w val) {o : Oper} {t : TypeId} {p x : Operand} (hop : o.op = .store t p x) {n i : Nat} {e : TypeId} {tt : Ty} (hp : S.ev p = .eptr n i tt.n) {l : List tt.den} (hH : S.H[n]? = some (some (.row e tt l)))
    {y : tt.den} (hy : unInj tt (S.ev x) = some y) (hs : szOf P t = some tt.n) (hi : i < l.length) {next : Act → World → Prop} {Q : Exit → Act → World → Prop}
    (hn : ∀ a' w' val', Rl w0 ({ S with H := S.H.set n (some (.row e tt (l.set i y))) }.put o.dst .undef) a' w' val' → next a' w') : o.wp P a w next Q := by
  obtain ⟨_, hrep⟩ := unInj_rep hy (hR.ev x)
  have hlen : (a.eval x).cells.size = tt.n := by have := hrep.length; simpa using this
  have hpv := hR.ev p
  rw [hp] at hpv
  obtain ⟨_, g, len, cap, hv, hpe⟩ := hpv
  obtain ⟨xs, h1, h2⟩ := hR.heap n _ hH
  rcases h1.2 with ⟨h3, _⟩ | ⟨g', cap', cur, h3, h4, h5, h6, h7, h8, h9⟩
  · rw [hv] at h3; cases h3
  · have h3' := h3
    rw [hv] at h3
    cases h3
    have hle : (i + 1) * tt.n ≤ l.length * tt.n := Nat.mul_le_mul_right _ (by omega)
    have hle2 : l.length * tt.n ≤ cap * tt.n := Nat.mul_le_mul_right _ h6
    rw [Nat.add_mul] at hle
    have hrun := store_run (P := P) (w := w) (t := t) (g := g) (o := i * tt.n) (v := a.eval x) h5 (by rw [hs, hlen]) (by omega) hrep.one
    have fr := setRow_frame w g (cur.toList.take (i * tt.n) ++ (a.eval x).cells.toList ++ cur.toList.drop (i * tt.n + (a.eval x).cells.size)).toArray
    have hW := hR.write (w1 := w.setRow g (cur.toList.take (i * tt.n) ++ (a.eval x).cells.toList ++ cur.toList.drop (i * tt.n + (a.eval x).cells.size)).toArray) (B' := .row e tt (l.set i y)) hH (g := g) (by rw [hv]; rfl)
      fr.1 fr.2.1 fr.2.2.1 fr.2.2.2 (fun k hk => setRow_other _ _ _ _ hk) (fun K => by
        have hset := repl_set h2 hi hrep
        refine ⟨xs.take (i * tt.n) ++ (a.eval x).cells.toList ++ xs.drop (i * tt.n + (a.eval x).cells.toList.length), ?_, hset.1, fun j z hz => (hset.2 j z hz).mono K.size K.ok⟩
        refine ⟨by rw [hset.1, List.length_set], .inr ⟨g, cap, _, by rw [List.length_set]; exact h3', h4, setRow_heap w g cur _ e (0, 0) h5, by rw [List.length_set]; exact h6, h7, ?_, ?_⟩⟩
        · simp; omega
        · rw [List.length_set]
          subst h9
          have hx := h1.1
          rw [List.length_take, Array.length_toList] at hx
          apply List.ext_getElem?
          intro q
          simp only [List.getElem?_take, List.getElem?_append, List.length_append, List.length_take, Array.length_toList, List.getElem?_drop, hlen]
          rw [show min (i * tt.n) cur.size = i * tt.n by omega, show min (l.length * tt.n) cur.size = l.length * tt.n by omega, show min (i * tt.n) (l.length * tt.n) = i * tt.n by omega]
          by_cases q1 : q < i * tt.n
          · have : q < l.length * tt.n := by omega
            simp [q1, this, show q < i * tt.n + tt.n by omega]
          · by_cases q2 : q < i * tt.n + tt.n
            · have : q < l.length * tt.n := by omega
              simp [q1, q2, this]
            · by_cases q3 : q < l.length * tt.n
              · simp [q2, q3, show i * tt.n + tt.n + (q - (i * tt.n + tt.n)) = q by omega]
              · simp [q2, q3, show ¬ (i * tt.n + tt.n + (q - (i * tt.n + tt.n)) < l.length * tt.n) by omega])
    refine wp_of_skip (w1 := w.setRow g (cur.toList.take (i * tt.n) ++ (a.eval x).cells.toList ++ cur.toList.drop (i * tt.n + (a.eval x).cells.size)).toArray) ?_ (hn _ _ _ (hW.put o.dst rfl))
    obtain ⟨dst, op, type, pos, after, guard⟩ := o
    simp only at hop
    subst hop
    simp [execOp, hpe, hrun]
end
end Go.Proofs.Ytbkdmnohpjihgaa.Abs
