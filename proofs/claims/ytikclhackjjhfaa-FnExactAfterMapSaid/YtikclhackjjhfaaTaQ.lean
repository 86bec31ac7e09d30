/- Forests as arrays of least nodes, against the pieces of a Graph (pure). -/
import Derived.Test.YtikclhackjjhfaaPlQ
import Derived.Test.YtikclhackjjhfaaQg
namespace Go.Proofs.Ytikclhackjjhfaa.M
open Go.RowKit Abs
set_option linter.unusedSimpArgs false
set_option linter.unusedVariables false
set_option maxRecDepth 100000
set_option maxHeartbeats 4000000
theorem bool_ext {a b : Bool} (h : a = true ↔ b = true) : a = b := Bool.eq_iff_iff.2 h
/-- There is one piece if and only if all of the set are in what the first one reaches. -/
structure OneP (l : List (Int × Int)) (set : List Int) (s : Int) (k : Nat) : Prop where
  out : ((pcs l set k).1.length = 1 ∧ (∀ v, v ∈ (pcs l set k).2 ↔ v ∈ rch l set s) ∧ ∀ v ∈ set.take k, v ∈ rch l set s) ∨ (2 ≤ (pcs l set k).1.length ∧ ∃ v ∈ set, v ∉ rch l set s)
theorem one_step {l : List (Int × Int)} {set : List Int} {s : Int} (h0 : set[0]? = some s) : ∀ (k : Nat), k + 1 ≤ set.length → OneP l set s (k + 1)
  | 0, hk => by
    have e := pcs_next (l := l) (set := set) (i := 0) (by omega) (by omega)
    have hs : gi set 0 = s := by
      unfold gi
      rw [List.getD_eq_getElem?_getD, show (0 : Int).toNat = 0 from rfl, h0]
      rfl
    have hp : pcs l set 0 = ([], []) := rfl
    rw [hp] at e
    unfold stepPc at e
    rw [if_neg (by simp [hasB]), hs] at e
    have hc : pcs l set ((0 + 1 : Nat) : Int) = ([rch l set s], putAll (rch l set s) []) := e
    refine ⟨.inl ⟨by rw [hc]; rfl, fun v => by rw [hc, putAll_mem]; simp, fun v hv => ?_⟩⟩
    have : set.take (0 + 1) = [s] := by
      rw [List.take_add_one, List.take_zero, h0]
      rfl
    rw [this, List.mem_singleton] at hv
    rw [hv]
    exact rr_src _
  | k + 1, hk => by
    have ih := (one_step (l := l) (s := s) h0 k (by omega)).out
    have e := pcs_next (l := l) (set := set) (i := ((k + 1 : Nat) : Int)) (by omega) (by omega)
    have hm : gi set ((k + 1 : Nat) : Int) ∈ set := gi_mem (by omega) (by omega)
    have ht : set.take (k + 1 + 1) = set.take (k + 1) ++ [gi set ((k + 1 : Nat) : Int)] := by
      have := take_gi (l := set) (i := ((k + 1 : Nat) : Int)) (by omega) (by omega)
      rw [show (((k + 1 : Nat) : Int) + 1).toNat = k + 1 + 1 by omega, show (((k + 1 : Nat) : Int)).toNat = k + 1 by omega] at this
      exact this
    have hc : pcs l set ((k + 1 + 1 : Nat) : Int) = stepPc l set (pcs l set ((k + 1 : Nat) : Int)) (gi set ((k + 1 : Nat) : Int)) := e
    constructor
    rw [hc, ht]
    unfold stepPc
    by_cases hb : hasB (pcs l set ((k + 1 : Nat) : Int)).2 (gi set ((k + 1 : Nat) : Int)) = true
    · rw [if_pos hb]
      rcases ih with ⟨a, b, c⟩ | h
      · refine .inl ⟨a, b, fun v hv => ?_⟩
        rcases List.mem_append.1 hv with hv | hv
        · exact c v hv
        · rw [List.mem_singleton] at hv
          rw [hv]
          exact (b _).1 (hasB_iff.1 hb)
      · exact .inr h
    · rw [if_neg hb]
      right
      rcases ih with ⟨a, b, _⟩ | ⟨a, b⟩
      · refine ⟨by rw [List.length_append, a]; simp, _, hm, fun hc => hb (hasB_iff.2 ((b _).2 hc))⟩
      · exact ⟨by rw [List.length_append]; omega, b⟩
theorem one_piece {l : List (Int × Int)} {set : List Int} {s : Int} (h0 : set[0]? = some s) : (pcs l set set.length).1.length = 1 ↔ ∀ v ∈ set, v ∈ rch l set s := by
  have hl : 1 ≤ set.length := by
    have := (List.getElem?_eq_some_iff.1 h0).1
    omega
  have h := (one_step (l := l) h0 (set.length - 1) (by omega)).out
  rw [show set.length - 1 + 1 = set.length by omega, List.take_length] at h
  rcases h with ⟨a, _, c⟩ | ⟨a, v, hv, hn⟩
  · exact ⟨fun _ => c, fun _ => a⟩
  · exact ⟨fun e => by omega, fun e => absurd (e v hv) hn⟩
def mxI (a b : Int) : Int := if a < b then b else a
def mnI (a b : Int) : Int := if b < a then b else a
def joinG (a b y : Int) : Int := if y = mxI a b then mnI a b else y
def joinF (f : List Int) (a b : Int) : List Int := f.map (joinG (gi f a) (gi f b))
def bareL : List Int := [0, 1, 2, 3, 4, 5, 6, 7]
def forF (p : List (Int × Int)) : List Int := p.foldl (fun f e => joinF f e.1 e.2) bareL
theorem joinF_len {f : List Int} {a b : Int} : (joinF f a b).length = f.length := by simp [joinF]
theorem gi_map {f : List Int} {g : Int → Int} {v : Int} (h0 : 0 ≤ v) (h1 : v < (f.length : Int)) : gi (f.map g) v = g (gi f v) := by
  unfold gi
  rw [List.getD_eq_getElem?_getD, List.getD_eq_getElem?_getD, List.getElem?_map]
  have : f[v.toNat]? = some f[v.toNat] := List.getElem?_eq_getElem (by omega)
  rw [this]
  rfl
/-- Connected: in each set that is closed under the edges. -/
def Conn (p : List (Int × Int)) (u v : Int) : Prop := ∀ A : Int → Prop, (∀ a b : Int, nearB p a b = true → A a → A b) → A u → A v
theorem Conn.refl (p : List (Int × Int)) (u : Int) : Conn p u u := fun _ _ h => h
theorem Conn.trans {p : List (Int × Int)} {u v w : Int} (h1 : Conn p u v) (h2 : Conn p v w) : Conn p u w := fun A hc h => h2 A hc (h1 A hc h)
theorem Conn.edge {p : List (Int × Int)} {u v : Int} (h : nearB p u v = true) : Conn p u v := fun A hc ha => hc u v h ha
theorem Conn.symm {p : List (Int × Int)} {u v : Int} (h : Conn p u v) : Conn p v u :=
  h (fun w => Conn p w u) (fun a b hn hc => (Conn.edge (near_swap hn)).trans hc) (Conn.refl p u)
/-- What holds of a forest of some of the edges. -/
structure ForI (p q : List (Int × Int)) (f : List Int) : Prop where
  len : f.length = 8
  lo : ∀ v : Int, 0 ≤ v → v < 8 → 0 ≤ gi f v ∧ gi f v ≤ v
  con : ∀ v : Int, 0 ≤ v → v < 8 → Conn p v (gi f v)
  edge : ∀ e ∈ q, gi f e.1 = gi f e.2
theorem bare_for (p : List (Int × Int)) : ForI p [] bareL := by
  have h : ∀ v : Int, 0 ≤ v → v < 8 → gi bareL v = v := fun v a b => by
    have : v = 0 ∨ v = 1 ∨ v = 2 ∨ v = 3 ∨ v = 4 ∨ v = 5 ∨ v = 6 ∨ v = 7 := by omega
    rcases this with rfl | rfl | rfl | rfl | rfl | rfl | rfl | rfl <;> rfl
  refine ⟨rfl, fun v a b => by rw [h v a b]; omega, fun v a b => by rw [h v a b]; exact Conn.refl p v, fun e he => by simp at he⟩
theorem join_for {p q : List (Int × Int)} {f : List Int} {a b : Int} (h : ForI p q f) (a0 : 0 ≤ a) (a1 : a < 8) (b0 : 0 ≤ b) (b1 : b < 8) (hq : ∀ e ∈ q, (0 ≤ e.1 ∧ e.1 < 8) ∧ 0 ≤ e.2 ∧ e.2 < 8) (hn : nearB p a b = true) : ForI p (q ++ [(a, b)]) (joinF f a b) := by
  have hg : ∀ v : Int, 0 ≤ v → v < 8 → gi (joinF f a b) v = joinG (gi f a) (gi f b) (gi f v) := fun v v0 v1 => gi_map v0 (by rw [h.len]; exact v1)
  have ha := h.lo a a0 a1
  have hb := h.lo b b0 b1
  have ca := h.con a a0 a1
  have cb := h.con b b0 b1
  have cab : Conn p (gi f a) (gi f b) := ca.symm.trans ((Conn.edge hn).trans cb)
  refine ⟨by rw [joinF_len]; exact h.len, fun v v0 v1 => ?_, fun v v0 v1 => ?_, fun e he => ?_⟩
  · have hv := h.lo v v0 v1
    rw [hg v v0 v1]
    unfold joinG mxI mnI
    split <;> split <;> (try split at *) <;> omega
  · have cv := h.con v v0 v1
    rw [hg v v0 v1]
    unfold joinG
    split
    · rename_i hm
      rw [hm] at cv
      refine cv.trans ?_
      unfold mxI mnI
      by_cases h1 : gi f a < gi f b
      · rw [if_pos h1, if_neg (by omega)]
        exact cab.symm
      · rw [if_neg h1]
        by_cases h2 : gi f b < gi f a
        · rw [if_pos h2]
          exact cab
        · rw [if_neg h2]
          exact Conn.refl p _
    · exact cv
  · rcases List.mem_append.1 he with he | he
    · obtain ⟨⟨r1, r2⟩, r3, r4⟩ := hq e he
      rw [hg _ r1 r2, hg _ r3 r4, h.edge e he]
    · rw [List.mem_singleton] at he
      subst he
      rw [hg _ a0 a1, hg _ b0 b1]
      unfold joinG
      by_cases h1 : gi f a < gi f b
      · have e1 : mxI (gi f a) (gi f b) = gi f b := if_pos h1
        have e2 : mnI (gi f a) (gi f b) = gi f a := if_neg (by omega)
        rw [e1, e2, if_pos (rfl : gi f b = gi f b)]
        split <;> rfl
      · have e1 : mxI (gi f a) (gi f b) = gi f a := if_neg h1
        rw [e1, if_pos (rfl : gi f a = gi f a)]
        by_cases h2 : gi f b < gi f a
        · have e2 : mnI (gi f a) (gi f b) = gi f b := if_pos h2
          rw [e2]
          split <;> rfl
        · rw [if_pos (by omega : gi f b = gi f a)]
theorem for_all {p : List (Int × Int)} (hp : ∀ e ∈ p, (0 ≤ e.1 ∧ e.1 < 8) ∧ 0 ≤ e.2 ∧ e.2 < 8) : ∀ (r q : List (Int × Int)) (f : List Int), (∀ e ∈ r, e ∈ p) → (∀ e ∈ q, e ∈ p) → ForI p q f → ForI p (q ++ r) (r.foldl (fun f e => joinF f e.1 e.2) f)
  | [], q, f, _, _, h => by simpa using h
  | e :: r, q, f, hr, hq, h => by
    have he := hp e (hr e (by simp))
    have hn : nearB p e.1 e.2 = true := List.any_eq_true.2 ⟨e, hr e (by simp), by simp [hit]⟩
    have h2 := join_for h he.1.1 he.1.2 he.2.1 he.2.2 (fun x hx => hp x (hq x hx)) hn
    have h3 := for_all hp r (q ++ [(e.1, e.2)]) (joinF f e.1 e.2) (fun x hx => hr x (by simp [hx])) (fun x hx => by
      rcases List.mem_append.1 hx with hx | hx
      · exact hq x hx
      · rw [List.mem_singleton] at hx
        rw [hx]
        exact hr e (by simp)) h2
    simpa using h3
theorem forF_for {p : List (Int × Int)} (hp : ∀ e ∈ p, (0 ≤ e.1 ∧ e.1 < 8) ∧ 0 ≤ e.2 ∧ e.2 < 8) : ForI p p (forF p) := by
  have := for_all hp p [] bareL (fun _ h => h) (fun _ h => by simp at h) (bare_for p)
  rw [List.nil_append] at this
  exact this
def nodesL (n : Int) : List Int := pref (fun _ => true) n.toNat
theorem nodesL_0 {n : Int} (h : 0 < n) : (nodesL n)[0]? = some 0 := by
  unfold nodesL pref
  obtain ⟨m, hm⟩ : ∃ m, n.toNat = m + 1 := ⟨n.toNat - 1, by omega⟩
  rw [hm, List.range_succ_eq_map]
  simp
def allZ (f : List Int) (n : Int) : Bool := (f.take n.toNat).all fun y => decide (y = 0)
theorem tree_eq {n : Int} {p : List (Int × Int)} (n0 : 0 < n) (n8 : n ≤ 8) (hp : ∀ e ∈ p, 0 ≤ e.1 ∧ e.1 < e.2 ∧ e.2 < n) : decide ((pcs p (nodesL n) (nodesL n).length).1.length = 1) = allZ (forF p) n := by
  have hf := forF_for (p := p) (fun e he => by have := hp e he; omega)
  have hx : (0 : Int) ∈ nodesL n := pref_mem.2 ⟨by omega, by omega, rfl⟩
  have hz : gi (forF p) 0 = 0 := by have := hf.lo 0 (by omega) (by omega); omega
  have hnode : ∀ {u w : Int}, nearB p u w = true → (0 ≤ u ∧ u < n) ∧ 0 ≤ w ∧ w < n ∧ gi (forF p) u = gi (forF p) w := fun {u w} h => by
    unfold nearB at h
    rw [List.any_eq_true] at h
    obtain ⟨e, he, hh⟩ := h
    have h3 := hp e he
    have h4 := hf.edge e he
    unfold hit at hh
    simp only [Bool.or_eq_true, Bool.and_eq_true, beq_iff_eq] at hh
    rcases hh with ⟨a, b⟩ | ⟨a, b⟩
    · rw [← a, ← b]; exact ⟨by omega, by omega, by omega, h4⟩
    · rw [← a, ← b]; exact ⟨by omega, by omega, by omega, h4.symm⟩
  refine bool_ext ?_
  rw [decide_eq_true_eq, one_piece (nodesL_0 n0)]
  unfold allZ
  rw [List.all_eq_true]
  constructor
  · intro h y hy
    obtain ⟨i, hi, rfl⟩ := List.mem_iff_getElem.1 hy
    rw [List.length_take, hf.len] at hi
    have hm := h (i : Int) (pref_mem.2 ⟨by omega, by omega, rfl⟩)
    rw [rch_iff hx] at hm
    have := hm (fun v => gi (forF p) v = 0) (fun u w hu _ hn => by rw [← (hnode hn).2.2.2]; exact hu) hz
    have e : gi (forF p) (i : Int) = (List.take n.toNat (forF p))[i] := by
      unfold gi
      rw [List.getD_eq_getElem?_getD, List.getElem_take, Int.toNat_natCast, List.getElem?_eq_getElem (by rw [hf.len]; omega)]
      rfl
    rw [← e]
    exact decide_eq_true this
  · intro h v hv
    obtain ⟨v0, v1, _⟩ := pref_mem.1 hv
    have e : gi (forF p) v ∈ List.take n.toNat (forF p) := by
      have h1 : (List.take n.toNat (forF p))[v.toNat]? = some (gi (forF p) v) := by
        unfold gi
        rw [List.getElem?_take, if_pos (by omega), List.getD_eq_getElem?_getD, List.getElem?_eq_getElem (by rw [hf.len]; omega)]
        rfl
      exact List.mem_of_getElem? h1
    have hz2 : gi (forF p) v = 0 := of_decide_eq_true (h _ e)
    have hc := hf.con v v0 (by omega)
    rw [hz2] at hc
    rw [rch_iff hx]
    intro A hA h0
    exact hc.symm A (fun a b hn ha => hA a b ha (pref_mem.2 ⟨(hnode hn).2.1, by have := (hnode hn).2.2.1; omega, rfl⟩) hn) h0
theorem ext_at {a b : List Int} (hl : a.length = b.length) (h : ∀ j : Int, 0 ≤ j → j < (a.length : Int) → gi a j = gi b j) : a = b :=
  List.ext_getElem hl fun i h1 h2 => by
    have := h i (by omega) (by omega)
    unfold gi at this
    simpa [List.getD_eq_getElem?_getD, h1, h2] using this
def mixL (P Q : List Int) (k : Int) : List Int := P.take k.toNat ++ Q.drop k.toNat
theorem mixL_len {P Q : List Int} {k : Int} (h : P.length = Q.length) : (mixL P Q k).length = Q.length := by
  unfold mixL
  rw [List.length_append, List.length_take, List.length_drop]
  omega
theorem mixL_gi {P Q : List Int} {k j : Int} (h : P.length = Q.length) (k0 : 0 ≤ k) (k1 : k ≤ Q.length) (j0 : 0 ≤ j) : gi (mixL P Q k) j = if j < k then gi P j else gi Q j := by
  unfold mixL gi
  rw [List.getD_eq_getElem?_getD, List.getD_eq_getElem?_getD, List.getD_eq_getElem?_getD]
  by_cases hj : j < k
  · rw [if_pos hj, List.getElem?_append_left (by rw [List.length_take]; omega), List.getElem?_take, if_pos (by omega)]
  · rw [if_neg hj, List.getElem?_append_right (by rw [List.length_take]; omega), List.getElem?_drop, List.length_take]
    congr 2
    omega
theorem mixL_next {P Q : List Int} {k : Int} (h : P.length = Q.length) (k0 : 0 ≤ k) (k1 : k < Q.length) : mixL P Q (k + 1) = setI (mixL P Q k) k (gi P k) := by
  refine ext_at (by rw [setI_len, mixL_len h, mixL_len h]) fun j j0 j1 => ?_
  rw [mixL_gi h (by omega) (by omega) j0, gi_set, mixL_gi h k0 (by omega) j0, mixL_len h]
  by_cases e : j = k
  · subst e
    rw [if_pos (by omega), if_pos ⟨rfl, by omega⟩]
  · rw [if_neg (c := k.toNat = j.toNat ∧ k.toNat < Q.length) (by omega)]
    by_cases hj : j < k
    · rw [if_pos hj, if_pos (by omega)]
    · rw [if_neg hj, if_neg (by omega)]
theorem mixL_same {P Q : List Int} {k : Int} (h : P.length = Q.length) (k0 : 0 ≤ k) (k1 : k < Q.length) (e : gi P k = gi Q k) : mixL P Q (k + 1) = mixL P Q k := by
  refine ext_at (by rw [mixL_len h, mixL_len h]) fun j j0 j1 => ?_
  rw [mixL_gi h (by omega) (by omega) j0, mixL_gi h k0 (by omega) j0]
  by_cases e2 : j = k
  · subst e2
    rw [if_pos (by omega), if_neg (by omega), e]
  · by_cases hj : j < k
    · rw [if_pos hj, if_pos (by omega)]
    · rw [if_neg hj, if_neg (by omega)]
theorem mixL_0 {P Q : List Int} : mixL P Q 0 = Q := by simp [mixL]
theorem mixL_all {P Q : List Int} {k : Int} (h : P.length = Q.length) (hk : k = Q.length) : mixL P Q k = P := by
  unfold mixL
  rw [List.take_of_length_le (by omega), List.drop_eq_nil_of_le (by omega), List.append_nil]
def partL (l : List (Int × Int)) (es : List Int) : List (Int × Int) := es.map fun e => getI (.pr .int .int) l e
theorem partL_next {l : List (Int × Int)} {es : List Int} {k : Int} (h0 : 0 ≤ k) (h1 : k < (es.length : Int)) : partL l (es.take (k + 1).toNat) = partL l (es.take k.toNat) ++ [getI (.pr .int .int) l (gi es k)] := by
  unfold partL
  rw [take_gi h0 h1, List.map_append]
  rfl
theorem forF_next {l : List (Int × Int)} {es : List Int} {k : Int} (h0 : 0 ≤ k) (h1 : k < (es.length : Int)) : forF (partL l (es.take (k + 1).toNat)) = joinF (forF (partL l (es.take k.toNat))) (getI (.pr .int .int) l (gi es k)).1 (getI (.pr .int .int) l (gi es k)).2 := by
  rw [partL_next h0 h1]
  unfold forF
  rw [List.foldl_append]
  rfl
theorem forF_len (p : List (Int × Int)) : (forF p).length = 8 := by
  unfold forF
  have : ∀ (p : List (Int × Int)) (f : List Int), f.length = 8 → (p.foldl (fun f e => joinF f e.1 e.2) f).length = 8 := fun p => by
    induction p with
    | nil => intro f h; exact h
    | cons e p ih => intro f h; exact ih _ (by rw [joinF_len]; exact h)
  exact this p _ rfl
def treeB (n : Int) (l : List (Int × Int)) (es : List Int) : Bool := decide ((es.length : Int) = n - 1) && ascB l.length es && allZ (forF (partL l es)) n
def someB (n : Int) (l : List (Int × Int)) : Bool := graphOk n l && decide (0 < n)
theorem part_in {n : Int} {l : List (Int × Int)} {es : List Int} (hg : graphOk n l = true) (ha : ascB l.length es = true) : ∀ e ∈ partL l es, 0 ≤ e.1 ∧ e.1 < e.2 ∧ e.2 < n := by
  obtain ⟨_, g2, _⟩ := graph_edges hg
  intro e he
  unfold partL at he
  rw [List.mem_map] at he
  obtain ⟨i, hi, rfl⟩ := he
  obtain ⟨j, j0, j1, e2⟩ := mem_at hi
  have h := allI_get (p := nodeOk l.length es) ha j0 j1
  unfold nodeOk at h
  simp only [Bool.and_eq_true, decide_eq_true_eq] at h
  rw [e2] at h
  exact g2 _ (List.mem_of_getElem? (getI_get (t := (.pr .int .int)) h.1.1 h.1.2))
theorem asc_at {m : Int} {es : List Int} (ha : ascB m es = true) {j : Int} (j0 : 0 ≤ j) (j1 : j < es.length) : 0 ≤ gi es j ∧ gi es j < m := by
  have h := allI_get (p := nodeOk m es) ha j0 j1
  unfold nodeOk at h
  simp only [Bool.and_eq_true, decide_eq_true_eq] at h
  exact h.1
end Go.Proofs.Ytikclhackjjhfaa.M
