/- A call, by what its function is known to answer. -/
import Derived.Test.YtbkdmnohpjihgaaMo
namespace Go.Proofs.Ytbkdmnohpjihgaa.M
open Go.RowKit Abs
set_option linter.unusedVariables false
set_option linter.unusedSimpArgs false

mutual
def scrubD (D : List Nat) : AV → AV
  | .elem m i => if (D.contains m) = true then .junk else .elem m i
  | .eelem m i j k => if (D.contains m) = true then .junk else .eelem m i j k
  | .cells l => .cells (scrubDL D l)
  | .tup l => .tup (scrubDL D l)
  | .fn f l => .fn f (scrubDL D l)
  | .ibox l i => .ibox (scrubDL D l) i
  | x => x
def scrubDL (D : List Nat) : List AV → List AV
  | [] => []
  | x :: xs => scrubD D x :: scrubDL D xs
end
def scrubDB (D : List Nat) : Blk → Blk
  | .box e cs => .box e (scrubDL D cs)
  | b => b
def scrubDO (D : List Nat) : Option Blk → Option Blk
  | some b => some (scrubDB D b)
  | none => none
def upFrom : Nat → Nat → List Nat
  | _, 0 => []
  | n, k + 1 => n :: upFrom (n + 1) k
def rho (σ : List Nat) (N M : Nat) : List Nat := σ ++ upFrom N (M - σ.length)
def setPost (ρ : List Nat) : List Nat → Hp → Hp → Hp
  | n :: σ, b :: post, H => setPost ρ σ post (H.set n (renO ρ b))
  | _, _, H => H
def AS.after (S : AS) (σ : List Nat) (post : Hp) : AS :=
  match σ with
  | [] => { S with H := S.H ++ post.map (renO (rho [] S.H.length post.length)) }
  | n :: r => { S with tm := scrubDL (n :: r) S.tm, H := setPost (rho (n :: r) S.H.length post.length) (n :: r) post (S.H.map (scrubDO (n :: r))) ++ (post.drop (n :: r).length).map (renO (rho (n :: r) S.H.length post.length)) }
def resA (ρ : List Nat) : List AV → AV
  | [r] => ren ρ r
  | rs => .tup (renL ρ rs)
def pos : List Nat → Nat → Option Nat
  | [], _ => none
  | c :: r, m => if c = m then some 0 else (pos r m).map (· + 1)
def aft (σ : List Nat) (N : Nat) (val val' : Nat → Bd) (m : Nat) : Bd :=
  if m < N then (match pos σ m with | some i => val' i | none => val m) else val' (σ.length + (m - N))
theorem pos_of : ∀ {σ : List Nat} {i m : Nat}, σ.Nodup → σ[i]? = some m → pos σ m = some i
  | [], i, m, _, h => by simp at h
  | c :: r, 0, m, _, h => by simp at h; subst h; simp [pos]
  | c :: r, i + 1, m, hn, h => by
    have h' : r[i]? = some m := by simpa using h
    have hne : c ≠ m := fun e => (List.nodup_cons.1 hn).1 (e ▸ List.mem_of_getElem? h')
    simp [pos, hne, pos_of (List.nodup_cons.1 hn).2 h']
theorem pos_none : ∀ {σ : List Nat} {m : Nat}, m ∉ σ → pos σ m = none
  | [], m, _ => rfl
  | c :: r, m, h => by simp only [List.mem_cons, not_or] at h; simp [pos, Ne.symm h.1, pos_none h.2]
theorem upFrom_get : ∀ (n k i : Nat), (upFrom n k)[i]? = if i < k then some (n + i) else none
  | n, 0, i => by simp [upFrom]
  | n, k + 1, 0 => by simp [upFrom]
  | n, k + 1, i + 1 => by simp [upFrom, upFrom_get (n + 1) k i]; split <;> simp <;> omega
theorem upFrom_len : ∀ (n k : Nat), (upFrom n k).length = k
  | _, 0 => rfl
  | n, k + 1 => by simp [upFrom, upFrom_len]
theorem rho_lt {σ : List Nat} {N M i : Nat} (h : i < σ.length) : nth (rho σ N M) i = nth σ i := by
  unfold nth rho
  rw [List.getD_eq_getElem?_getD, List.getD_eq_getElem?_getD, List.getElem?_append_left h]
theorem rho_ge {σ : List Nat} {N M i : Nat} (h : σ.length ≤ i) (hM : i < M) : nth (rho σ N M) i = N + (i - σ.length) := by
  unfold nth rho
  rw [List.getD_eq_getElem?_getD, List.getElem?_append_right h, upFrom_get, if_pos (by omega)]
  rfl
theorem nth_of {σ : List Nat} {i m : Nat} (h : σ[i]? = some m) : nth σ i = m := by
  unfold nth
  rw [List.getD_eq_getElem?_getD, h]; rfl
theorem nth_get {σ : List Nat} {i : Nat} (h : i < σ.length) : σ[i]? = some (nth σ i) := by
  unfold nth
  rw [List.getD_eq_getElem?_getD, List.getElem?_eq_getElem h]; rfl
theorem setPost_len (ρ : List Nat) : ∀ (σ : List Nat) (post H : Hp), (setPost ρ σ post H).length = H.length
  | [], _, _ => by simp [setPost]
  | _ :: _, [], _ => by simp [setPost]
  | n :: σ, b :: post, H => by simp [setPost, setPost_len ρ σ post]
theorem setPost_get {ρ : List Nat} : ∀ {σ : List Nat} {post H : Hp} {m : Nat} {X : Blk}, σ.length ≤ post.length → (setPost ρ σ post H)[m]? = some (some X) → (m ∉ σ ∧ H[m]? = some (some X)) ∨ ∃ (i : Nat) (b : Blk), σ[i]? = some m ∧ post[i]? = some (some b) ∧ X = renB ρ b
  | [], post, H, m, X, _, h => by simp [setPost] at h; exact .inl ⟨by simp, h⟩
  | n :: σ, [], H, m, X, hl, _ => by simp at hl
  | n :: σ, b :: post, H, m, X, hl, h => by
    rcases setPost_get (σ := σ) (post := post) (by simpa using hl) (by simpa [setPost] using h) with ⟨h1, h2⟩ | ⟨i, c, h1, h2, h3⟩
    · rcases get_set h2 with ⟨rfl, h3⟩ | ⟨h3, h4⟩
      · cases b with
        | none => cases h3
        | some b => cases h3; exact .inr ⟨0, b, rfl, rfl, rfl⟩
      · exact .inl ⟨by simp [h1, h3], h4⟩
    · exact .inr ⟨i + 1, c, by simpa using h1, by simpa using h2, h3⟩
section
variable {P : Program} {T : Tab} {w0 w w1 : World} {B : Nat → Prop} {hd : Nat → Value} {S : AS} {a : Act} {val : Nat → Bd}
theorem scrubDL_len (D : List Nat) : ∀ l : List AV, (scrubDL D l).length = l.length
  | [] => rfl
  | x :: xs => by simp [scrubDL, scrubDL_len D xs]
theorem scrubDL_get (D : List Nat) : ∀ (l : List AV) (i : Nat), (scrubDL D l)[i]? = (l[i]?).map (scrubD D)
  | [], i => by simp [scrubDL]
  | x :: xs, 0 => by simp [scrubDL]
  | x :: xs, i + 1 => by simp [scrubDL, scrubDL_get D xs i]
structure KeepD (ok ok' : Nat → Prop) (w w' : World) (N N' : Nat) (val val' : Nat → Bd) (D : List Nat) : Prop where
  size : w.heap.size ≤ w'.heap.size
  ok : ∀ b, ok b → b < w.heap.size → ok' b ∧ w'.heap[b]? = w.heap[b]?
  le : N ≤ N'
  hv : ∀ m, m < N → (val' m).v = (val m).v
  hh : ∀ m, m < N → m ∉ D → (val' m).hs = (val m).hs
section
variable {ok ok' : Nat → Prop} {w' : World} {N N' : Nat} {val' : Nat → Bd} {D : List Nat}
mutual
theorem VRel.scrubD (K : KeepD ok ok' w w' N N' val val' D) : ∀ {x : AV} {v : Value}, VRel ok w N val x v → VRel ok' w' N' val' (scrubD D x) v := fun {x v} h => by
  cases x <;> simp only [M.scrubD] <;> simp only [VRel] at h <;> (try simp only [VRel])
  case sl t l => exact Rep.mono K.size K.ok h
  case agg t d => obtain ⟨cs, h1, h2⟩ := h; exact ⟨cs, h1, h2.mono K.size K.ok⟩
  case cells l => obtain ⟨cs, h1, h2, h3⟩ := h; exact ⟨cs, h1, VRelL.scrubD K h2, h3⟩
  case tup l => obtain ⟨cs, h1, h2⟩ := h; exact ⟨cs, h1, VRelL.scrubD K h2⟩
  case fn f l => obtain ⟨cs, h1, h2⟩ := h; exact ⟨cs, h1, VRelL.scrubD K h2⟩
  case iptr t d =>
    obtain ⟨b, o, cs, h1, h2, h3, h4, h5⟩ := h
    obtain ⟨k1, k2⟩ := K.ok b h2 h3
    exact ⟨b, o, cs, h1, k1, Nat.lt_of_lt_of_le h3 K.size, h4.mono K.size K.ok, fun j u hu => (World.cell?_of_block (a := ⟨b, o + j, none⟩) k2).trans (h5 j u hu)⟩
  case ibox l i =>
    obtain ⟨b, us, h1, h2, h3, h4, h5, h6⟩ := h
    obtain ⟨k1, k2⟩ := K.ok b h2 h3
    exact ⟨b, us, h1, k1, Nat.lt_of_lt_of_le h3 K.size, fun j u hu => (World.cell?_of_block (a := ⟨b, j, none⟩) k2).trans (h4 j u hu), VRelL.scrubD K h5, h6⟩
  case ref m => exact ⟨Nat.lt_of_lt_of_le h.1 K.le, by rw [K.hv m h.1]; exact h.2⟩
  case ptr m i => obtain ⟨h0, g, h1, h2⟩ := h; exact ⟨Nat.lt_of_lt_of_le h0 K.le, g, by rw [K.hv m h0]; exact h1, h2⟩
  case eptr m i k => obtain ⟨h0, g, l, c, h1, h2⟩ := h; exact ⟨Nat.lt_of_lt_of_le h0 K.le, g, l, c, by rw [K.hv m h0]; exact h1, h2⟩
  case elem m i =>
    cases hc : D.contains m with
    | true => simp [VRel]
    | false => simp only [Bool.false_eq_true, ↓reduceIte, VRel]; exact ⟨Nat.lt_of_lt_of_le h.1 K.le, h.2.1, by rw [K.hh m h.1 (by simpa using hc)]; exact h.2.2⟩
  case eelem m i j k =>
    cases hc : D.contains m with
    | true => simp [VRel]
    | false => simp only [Bool.false_eq_true, ↓reduceIte, VRel]; obtain ⟨h0, h00, g, l, c, h1, h2⟩ := h; exact ⟨Nat.lt_of_lt_of_le h0 K.le, h00, g, l, c, by rw [K.hh m h0 (by simpa using hc)]; exact h1, h2⟩
  all_goals exact h
theorem VRelL.scrubD (K : KeepD ok ok' w w' N N' val val' D) : ∀ {xs : List AV} {vs : List Value}, VRelL ok w N val xs vs → VRelL ok' w' N' val' (scrubDL D xs) vs
  | [], [], _ => by simp [VRelL, scrubDL]
  | [], _ :: _, h => by simp [VRelL] at h
  | _ :: _, [], h => by simp [VRelL] at h
  | x :: xs, v :: vs, h => by simp only [VRelL, scrubDL] at h ⊢; exact ⟨VRel.scrubD K h.1, VRelL.scrubD K h.2⟩
end
theorem BRel.scrubD (K : KeepD ok ok' w w' N N' val val' D) {d : Bd} {b : Blk} (hh : ∀ g ∈ d.F, w'.heap[g]? = w.heap[g]?) (h : BRel ok w N val d b) : BRel ok' w' N' val' d (scrubDB D b) := by
  cases b with
  | row e t l =>
    obtain ⟨xs, h1, h2, h3⟩ := h
    exact ⟨xs, ownsRow_keep h1 (fun g hg => hh g (by rw [h3]; exact hg)), repL_keep K.size K.ok h2, h3⟩
  | rows e e2 t l =>
    obtain ⟨h1, h2, h3, h4⟩ := h
    refine ⟨ownsRow_keep h1 (fun g hg => hh g ((h3 g).2 (.inl (by simpa using hg)))), fun i y hy => ?_, h3, h4⟩
    obtain ⟨h, xs, k1, k2, k3⟩ := h2 i y hy
    exact ⟨h, xs, k1, ownsRow_keep k2 (fun g hg => hh g ((h3 g).2 (.inr ⟨h, List.mem_of_getElem? k1, by simpa using hg⟩))), repL_keep K.size K.ok k3⟩
  | rowsH e e2 t l k =>
    obtain ⟨h1, h2, h3, h4⟩ := h
    refine ⟨ownsRow_keep h1 (fun g hg => hh g ((h3 g).2 (.inl (by simpa using hg)))), fun i y hy hi => ?_, h3, h4⟩
    obtain ⟨h, xs, k1, k2, k3⟩ := h2 i y hy hi
    exact ⟨h, xs, k1, ownsRow_keep k2 (fun g hg => hh g ((h3 g).2 (.inr ⟨i, h, hi, k1, by simpa using hg⟩))), repL_keep K.size K.ok k3⟩
  | box e cs =>
    obtain ⟨g, cur, h1, h2, h3, h4, h5⟩ := h
    exact ⟨g, cur, h1, by rw [hh g (by rw [h5]; simp)]; exact h2, h3.scrubD K, h4, h5⟩
end
mutual
theorem scrubD_nil : ∀ x : AV, scrubD [] x = x
  | .cells l => by simp only [scrubD, scrubDL_nil l]
  | .tup l => by simp only [scrubD, scrubDL_nil l]
  | .fn f l => by simp only [scrubD, scrubDL_nil l]
  | .ibox l i => by simp only [scrubD, scrubDL_nil l]
  | .elem m i => by simp [scrubD]
  | .eelem m i j k => by simp [scrubD]
  | .int _ => rfl | .lit _ => rfl | .bool _ => rfl | .str _ => rfl | .u8 _ => rfl | .u64 _ => rfl | .sl _ _ => rfl | .agg _ _ => rfl
  | .ref _ => rfl | .ptr _ _ => rfl | .eptr _ _ _ => rfl | .iptr _ _ => rfl | .nilsl => rfl | .undef => rfl | .junk => rfl
theorem scrubDL_nil : ∀ l : List AV, scrubDL [] l = l
  | [] => rfl
  | x :: xs => by simp only [scrubDL, scrubD_nil x, scrubDL_nil xs]
end
theorem scrubDO_nil (x : Option Blk) : scrubDO [] x = x := by
  cases x with
  | none => rfl
  | some b => cases b <;> simp [scrubDO, scrubDB, scrubDL_nil]
/-- The state behind a call, by one rule. -/
theorem after_eq (S : AS) (σ : List Nat) (post : Hp) : S.after σ post = { S with tm := scrubDL σ S.tm, H := setPost (rho σ S.H.length post.length) σ post (S.H.map (scrubDO σ)) ++ (post.drop σ.length).map (renO (rho σ S.H.length post.length)) } := by
  cases σ with
  | nil =>
    have e : scrubDO [] = id := by funext x; exact scrubDO_nil x
    simp [AS.after, scrubDL_nil, setPost, e]
  | cons n r => rfl
theorem after_get {σ : List Nat} {post : Hp} (hl : σ.length ≤ post.length) {m : Nat} {X : Blk} (h : (S.after σ post).H[m]? = some (some X)) :
    (m < S.H.length ∧ m ∉ σ ∧ ∃ Y, S.H[m]? = some (some Y) ∧ X = scrubDB σ Y) ∨ ∃ (i : Nat) (b : Blk), i < post.length ∧ (i < σ.length → σ[i]? = some m) ∧ (σ.length ≤ i → m = S.H.length + (i - σ.length)) ∧ post[i]? = some (some b) ∧ X = renB (rho σ S.H.length post.length) b := by
  rw [after_eq] at h
  simp only at h
  by_cases hm : m < S.H.length
  · rw [List.getElem?_append_left (by rw [setPost_len]; simpa using hm)] at h
    rcases setPost_get hl h with ⟨h1, h2⟩ | ⟨i, b, h1, h2, h3⟩
    · rw [List.getElem?_map] at h2
      cases hx : S.H[m]? with
      | none => rw [hx] at h2; cases h2
      | some x =>
        rw [hx] at h2
        cases x with
        | none => cases h2
        | some Y => cases h2; exact .inl ⟨hm, h1, Y, rfl, rfl⟩
    · have hi : i < σ.length := (List.getElem?_eq_some_iff.1 h1).1
      exact .inr ⟨i, b, by omega, fun _ => h1, fun h => by omega, h2, h3⟩
  · rw [List.getElem?_append_right (by rw [setPost_len]; simp; omega), setPost_len, List.getElem?_map, List.getElem?_drop] at h
    simp only [List.length_map] at h
    cases hx : post[σ.length + (m - S.H.length)]? with
    | none => rw [hx] at h; cases h
    | some x =>
      rw [hx] at h
      cases x with
      | none => cases h
      | some b =>
        cases h
        exact .inr ⟨_, b, (List.getElem?_eq_some_iff.1 hx).1, fun h => by omega, fun _ => by omega, hx, rfl⟩
theorem after_len {σ : List Nat} {post : Hp} : (S.after σ post).H.length = S.H.length + (post.length - σ.length) := by
  rw [after_eq]; simp [setPost_len]
theorem after_rel (hR : Rl w0 B hd S a w val) {σ : List Nat} (hnd : σ.Nodup) {pre post : Hp} (hpre : preM S.H σ σ pre) (hlen : pre.length ≤ post.length) {res : List AV} {v : Value} {w' : World} {val' : Nat → Bd}
    (hp : SPost pre (fun i => val (nth σ i)) res post w v w' val') :
    Rl w0 B hd (S.after σ post) a w' (aft σ S.H.length val val') ∧ VRel (okF (S.after σ post).H (aft σ S.H.length val val')) w' (S.after σ post).H.length (aft σ S.H.length val val') (resA (rho σ S.H.length post.length) res) v := by
  have hpl := preM_len hpre
  have hN := after_len (S := S) (σ := σ) (post := post)
  have hin : ∀ i, i < σ.length → ∃ b, S.H[nth σ i]? = some (some b) ∧ nth σ i < S.H.length := fun i hi => by
    obtain ⟨n, b, h1, _, h3, _⟩ := preM_get hpre (i := i) (x := pre[i]'(by omega)) (List.getElem?_eq_getElem (by omega))
    rw [nth_of h1]
    exact ⟨_, h3, lt_of_some h3⟩
  have hpos : ∀ i, i < σ.length → pos σ (nth σ i) = some i := fun i hi => pos_of hnd (nth_get hi)
  have aft_new : ∀ i, i < post.length → aft σ S.H.length val val' (nth (rho σ S.H.length post.length) i) = val' i ∧ nth (rho σ S.H.length post.length) i < (S.after σ post).H.length := fun i hi => by
    by_cases hk : i < σ.length
    · rw [rho_lt hk]
      obtain ⟨b, _, hlt⟩ := hin i hk
      exact ⟨by unfold aft; rw [if_pos hlt, hpos i hk], by omega⟩
    · rw [rho_ge (by omega) hi]
      exact ⟨by unfold aft; rw [if_neg (by omega)]; congr 1; omega, by omega⟩
  have aft_old : ∀ m, m < S.H.length → m ∉ σ → aft σ S.H.length val val' m = val m := fun m hm hs => by unfold aft; rw [if_pos hm, pos_none hs]
  have aft_v : ∀ m, m < S.H.length → (aft σ S.H.length val val' m).v = (val m).v := fun m hm => by
    by_cases hs : m ∈ σ
    · obtain ⟨i, hi⟩ := List.mem_iff_getElem?.1 hs
      have hlt := (List.getElem?_eq_some_iff.1 hi).1
      unfold aft
      rw [if_pos hm, pos_of hnd hi]
      have := hp.head i (by omega)
      simp only at this ⊢
      rw [this, nth_of hi]
    · rw [aft_old m hm hs]
  have pb : ∀ g, pBlk pre (fun i => val (nth σ i)) g → ∃ m b, m ∈ σ ∧ S.H[m]? = some (some b) ∧ g ∈ (val m).F := fun g ⟨n, C, hn, hg⟩ => by
    obtain ⟨m, b, h1, _, h3, _⟩ := preM_get hpre hn
    simp only [nth_of h1] at hg
    exact ⟨m, _, List.mem_of_getElem? h1, h3, hg⟩
  have same : ∀ g, g < w.heap.size → (∀ m b, m ∈ σ → S.H[m]? = some (some b) → g ∉ (val m).F) → w'.heap[g]? = w.heap[g]? := fun g hg hno =>
    hp.fr.same g hg fun hb => by obtain ⟨m, b, h1, h2, h3⟩ := pb g hb; exact hno m b h1 h2 h3
  have newF : ∀ {i : Nat} {b : Blk} {g : Nat}, post[i]? = some (some b) → g ∈ (val' i).F → w.heap.size ≤ g ∨ ∃ m b, m ∈ σ ∧ S.H[m]? = some (some b) ∧ g ∈ (val m).F := fun {i b g} hb hg =>
    (hp.own i b hb g hg).imp id fun h => pb g h
  have getA : ∀ {m : Nat} {X : Blk}, (S.after σ post).H[m]? = some (some X) → (m < S.H.length ∧ m ∉ σ ∧ aft σ S.H.length val val' m = val m ∧ ∃ Y, S.H[m]? = some (some Y) ∧ X = scrubDB σ Y) ∨ ∃ (i : Nat) (b : Blk), i < post.length ∧ nth (rho σ S.H.length post.length) i = m ∧ aft σ S.H.length val val' m = val' i ∧ post[i]? = some (some b) ∧ X = renB (rho σ S.H.length post.length) b := fun {m X} h => by
    rcases after_get (by omega) h with ⟨h1, h2, h3⟩ | ⟨i, b, h1, h2, h3, h4, h5⟩
    · exact .inl ⟨h1, h2, aft_old m h1 h2, h3⟩
    · have hm : nth (rho σ S.H.length post.length) i = m := by
        by_cases hk : i < σ.length
        · rw [rho_lt hk, nth_of (h2 hk)]
        · rw [rho_ge (by omega) h1, h3 (by omega)]
      exact .inr ⟨i, b, h1, hm, by rw [← hm]; exact (aft_new i h1).1, h4, h5⟩
  have hok : ∀ b, okF S.H val b → b < w.heap.size → okF (S.after σ post).H (aft σ S.H.length val val') b ∧ w'.heap[b]? = w.heap[b]? := fun g hk hl => by
    refine ⟨fun m X hX hg => ?_, same g hl fun m b h1 h2 => hk m b h2⟩
    rcases getA hX with ⟨h1, h2, h3, Y, h4, _⟩ | ⟨i, b, h1, h2, h3, h4, _⟩
    · rw [h3] at hg; exact hk m Y h4 hg
    · rw [h3] at hg
      rcases newF h4 hg with h | ⟨m', b', _, h6, h7⟩
      · omega
      · exact hk m' b' h6 h7
  have K : KeepD (okF S.H val) (okF (S.after σ post).H (aft σ S.H.length val val')) w w' S.H.length (S.after σ post).H.length val (aft σ S.H.length val val') σ :=
    ⟨hp.fr.size, hok, by omega, aft_v, fun m hm hs => by rw [aft_old m hm hs]⟩
  have hren : ∀ n, n < post.length → nth (rho σ S.H.length post.length) n < (S.after σ post).H.length ∧ (aft σ S.H.length val val' (nth (rho σ S.H.length post.length) n)).v = (val' n).v ∧ (aft σ S.H.length val val' (nth (rho σ S.H.length post.length) n)).hs = (val' n).hs := fun n hn => by
    obtain ⟨h1, h2⟩ := aft_new n hn
    exact ⟨h2, by rw [h1], by rw [h1]⟩
  have NoOk : ∀ b, NoB b → okF (S.after σ post).H (aft σ S.H.length val val') b := fun b h => h.elim
  refine ⟨⟨⟨hp.fr.os.trans hR.fr.os, hp.fr.tape.trans hR.fr.tape, hp.fr.output.trans hR.fr.output, Nat.le_trans hR.fr.size hp.fr.size, fun g hg hgB => ?_⟩, ?_, hR.defers, fun t => ?_, ⟨fun m X hX => ?_, fun m X hX g hg => ?_, fun m k X Y hmk hX hY g hg hg' => ?_⟩, fun m X hX g hg => ?_, fun m hm => ?_, ?_⟩, ?_⟩
  · have := hR.fr.size
    rw [same g (by omega) fun m b h1 h2 hgF => ?_]
    · exact hR.fr.same g hg hgB
    · rcases hR.own m b h2 g hgF with h | h
      · omega
      · exact hgB h
  · rw [hR.len, after_eq]; simp [scrubDL_len]
  · have h := (hR.tmps t).scrubD K
    have e : (S.after σ post).tm.getD t .undef = scrubD σ (S.tm.getD t .undef) := by
      rw [after_eq]
      simp only
      rw [List.getD_eq_getElem?_getD, List.getD_eq_getElem?_getD, scrubDL_get]
      cases S.tm[t]? <;> simp [scrubD]
    rw [e]
    exact h
  · rcases getA hX with ⟨h1, h2, h3, Y, h4, rfl⟩ | ⟨i, b, h1, h2, h3, h4, rfl⟩
    · rw [h3]
      exact (hR.heap.blk m Y h4).scrubD K fun g hg => same g (hR.heap.lt m Y h4 g hg) fun m' b' h5 h6 h7 => hR.heap.apart m m' Y b' (fun e => h2 (e ▸ h5)) h4 h6 g hg h7
    · rw [h3]
      exact (hp.heap.blk i b h4).ren NoOk hren
  · rcases getA hX with ⟨h1, h2, h3, Y, h4, _⟩ | ⟨i, b, h1, h2, h3, h4, _⟩
    · rw [h3] at hg; exact Nat.lt_of_lt_of_le (hR.heap.lt m Y h4 g hg) hp.fr.size
    · rw [h3] at hg; exact hp.heap.lt i b h4 g hg
  · rcases getA hX with ⟨h1, h2, h3, Y1, h4, _⟩ | ⟨i, b, h1, h2, h3, h4, _⟩ <;> rcases getA hY with ⟨k1, k2, k3, Y2, k4, _⟩ | ⟨j, c, k1, k2, k3, k4, _⟩
    · rw [h3] at hg; rw [k3] at hg'; exact hR.heap.apart m k Y1 Y2 hmk h4 k4 g hg hg'
    · rw [h3] at hg; rw [k3] at hg'
      rcases newF k4 hg' with h | ⟨m', b', h5, h6, h7⟩
      · have := hR.heap.lt m Y1 h4 g hg; omega
      · exact hR.heap.apart m m' Y1 b' (fun e => h2 (e ▸ h5)) h4 h6 g hg h7
    · rw [h3] at hg; rw [k3] at hg'
      rcases newF h4 hg with h | ⟨m', b', h5, h6, h7⟩
      · have := hR.heap.lt k Y2 k4 g hg'; omega
      · exact hR.heap.apart k m' Y2 b' (fun e => k2 (e ▸ h5)) k4 h6 g hg' h7
    · rw [h3] at hg; rw [k3] at hg'
      refine hp.heap.apart i j b c (fun e => hmk ?_) h4 k4 g hg hg'
      rw [← h2, ← k2, e]
  · rcases getA hX with ⟨h1, h2, h3, Y, h4, _⟩ | ⟨i, b, h1, h2, h3, h4, _⟩
    · rw [h3] at hg; exact hR.own m Y h4 g hg
    · rw [h3] at hg
      rcases newF h4 hg with h | ⟨m', b', _, h6, h7⟩
      · exact .inl (Nat.le_trans hR.fr.size h)
      · exact hR.own m' b' h6 g h7
  · have hm' : m < S.k := by rw [after_eq] at hm; exact hm
    rw [aft_v m (Nat.lt_of_lt_of_le hm' hR.kle)]
    exact hR.kept m hm'
  · have := hR.kle
    rw [hN]
    rw [after_eq]
    simp only
    omega
  · have h := hp.res
    unfold ResV at h
    unfold resA
    have toOk : ∀ {x : AV} {u : Value}, VRel NoB w' post.length val' x u → VRel (okF (S.after σ post).H (aft σ S.H.length val val')) w' post.length val' x u := fun hx =>
      hx.keep ⟨Nat.le_refl _, fun b hb _ => ⟨NoOk b hb, rfl⟩, Nat.le_refl _, fun _ _ => rfl, fun _ _ => rfl⟩
    have toOkL : ∀ {x : List AV} {u : List Value}, VRelL NoB w' post.length val' x u → VRelL (okF (S.after σ post).H (aft σ S.H.length val val')) w' post.length val' x u := fun hx =>
      hx.keep ⟨Nat.le_refl _, fun b hb _ => ⟨NoOk b hb, rfl⟩, Nat.le_refl _, fun _ _ => rfl, fun _ _ => rfl⟩
    split at h
    · exact (toOk h).ren hren
    · rename_i rs hno
      obtain ⟨vs, rfl, h2⟩ := h
      split
      · exact (hno _ rfl).elim
      · simp only [VRel]
        exact ⟨vs, rfl, (toOkL h2).ren hren⟩
/-- **A call.** -/
theorem call_step (hT : TOk P T) (hR : Rl w0 B hd S a w val) {o : Oper} {f : Operand} {args : Array Operand} {ts : Array TypeId} (hop : o.op = .call { callee := .value f, args := args, argTypes := ts }) {f' : FuncId} {cap : List AV} (ef : S.ev f = .fn f' cap)
    {σ : List Nat} (hnd : σ.Nodup) {args' : List AV} {pre : Hp} {res : List AV} {post : Hp} (hs : Spec2 P f' args' pre res post) (hpre : preM S.H σ σ pre)
    (hargs : argsM σ (args.toList.map S.ev ++ cap) (argVs T (dropC σ S.H) ts.toList (args.toList.map S.ev ++ cap)) args') {next : Act → World → Prop} {Q : Exit → Act → World → Prop}
    (hn : ∀ a' w' val', Rl w0 B hd ((S.after σ post).put o.dst (resA (rho σ S.H.length post.length) res)) a' w' val' → next a' w') : o.wp P a w next Q := by
  obtain ⟨hent, hlen, hsp⟩ := hs
  have hpl := preM_len hpre
  have hf := hR.ev f
  rw [ef] at hf
  simp only [VRel] at hf
  obtain ⟨cvs, hf1, hf2⟩ := hf
  have hxs := VRelL.app (VRelL.map hR args.toList) hf2
  have hk : ∀ b, okF S.H val b → okF pre (fun i => val (nth σ i)) b := fun b hb n C hn hg => by
    obtain ⟨m, c, h1, _, h3, _⟩ := preM_get hpre hn
    simp only [nth_of h1] at hg
    exact hb m _ h3 hg
  have hH : ∀ n b, (dropC σ S.H)[n]? = some (some b) → S.H[n]? = some (some b) ∧ ∀ g ∈ (val n).F, okF pre (fun i => val (nth σ i)) g := fun n b hnb => by
    obtain ⟨h1, h2⟩ := dropC_get hnb
    refine ⟨h2, fun g hg m C hm hg' => ?_⟩
    obtain ⟨m', c, h3, _, h5, _⟩ := preM_get hpre hm
    simp only [nth_of h3] at hg'
    exact hR.heap.apart n m' b _ (fun e => h1 (e ▸ List.mem_of_getElem? h3)) h2 h5 g hg hg'
  have hus := argVs_rel (T := T) hR hH hk (N' := pre.length) (val' := fun i => val (nth σ i)) (ts := ts.toList) hxs
  have hy := argsM_rel hargs hus (fun x y v hx hxy hl => by
    subst hxy
    refine VRel.unren (N := pre.length) (fun n _ => ⟨rfl, rfl⟩) (by rw [hpl]; exact hl) (hx.keep ⟨Nat.le_refl _, fun b hb _ => ⟨hk b hb, rfl⟩, Nat.le_refl _, fun _ _ => rfl, fun _ _ => rfl⟩)) hxs
  have hheap : HRel w (fun i => val (nth σ i)) pre := by
    refine ⟨fun n C hC => ?_, fun n C hC g hg => ?_, fun n m C D hne hC hD g hg hg' => ?_⟩
    · obtain ⟨m, c, h1, h2, h3, h4⟩ := preM_get hpre hC
      cases h2
      simp only [nth_of h1]
      exact BRel.unren (N := pre.length) hk (fun n _ => ⟨rfl, rfl⟩) (by rw [hpl]; exact h4) (hR.heap.blk m _ h3)
    · obtain ⟨m, c, h1, h2, h3, h4⟩ := preM_get hpre hC
      simp only [nth_of h1] at hg
      exact hR.heap.lt m _ h3 g hg
    · obtain ⟨p, c, h1, h2, h3, h4⟩ := preM_get hpre hC
      obtain ⟨q, c', k1, k2, k3, k4⟩ := preM_get hpre hD
      simp only [nth_of h1] at hg
      simp only [nth_of k1] at hg'
      refine hR.heap.apart p q _ _ (fun e => hne ?_) h3 k3 g hg hg'
      subst e
      exact (List.getElem_inj (h₀ := (List.getElem?_eq_some_iff.1 h1).1) (h₁ := (List.getElem?_eq_some_iff.1 k1).1) hnd).1 (by rw [(List.getElem?_eq_some_iff.1 h1).2, (List.getElem?_eq_some_iff.1 k1).2])
  have hcalls := hsp w (fun i => val (nth σ i)) _ hheap hy
  have hrun : (execOp a.eval o).run P w = .ok (.enter f' (args.toList.map a.eval ++ cvs).toArray) w := by
    have e1 : args.map a.eval ++ cvs.toArray = (args.toList.map a.eval ++ cvs).toArray := by apply Array.ext'; simp
    have hc := run_callFunc (w := w) (args := (args.toList.map a.eval ++ cvs).toArray) hent
    rw [← e1] at hc
    obtain ⟨dst, op, type, pos, after, guard⟩ := o
    simp only at hop
    subst hop
    simp [execOp, resolve, hf1, Deferred.ofValue, invoke, hc, ← e1]
  unfold Oper.wp
  rw [hrun, Oper.upon_enter]
  refine hcalls.mono ?_
  rintro e' w' ⟨v, val', rfl, hp⟩
  obtain ⟨h1, h2⟩ := after_rel hR hnd hpre hlen hp
  exact hn _ _ _ (h1.put o.dst h2)
end
end Go.Proofs.Ytbkdmnohpjihgaa.M
