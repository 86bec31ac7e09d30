/- The search by breadth, on both sides. -/
import Derived.Test.YtemdajfcfmefnaaQg
namespace Go.Proofs.Ytemdajfcfmefnaa.M
open Go.RowKit Abs
set_option linter.unusedSimpArgs false
set_option linter.unusedVariables false
set_option maxRecDepth 100000
set_option maxHeartbeats 4000000
abbrev BS := List Int × List Int
def visit (q : Int → Bool) (d : Int) (S : BS) (v : Int) : BS := if gi S.1 v < 0 ∧ q v = true then (setI S.1 v (d + 1), S.2 ++ [v]) else S
def level (near : List (List Int)) (q : Int → Bool) (n : Int) (S : BS) : BS := (getR .int near (gi S.2 n)).foldl (visit q (gi S.1 (gi S.2 n))) S
def bfs (near : List (List Int)) (q : Int → Bool) : Nat → Int → BS → BS
  | 0, _, S => S
  | f + 1, n, S => if n < (S.2.length : Int) then bfs near q f (n + 1) (level near q n S) else S
def neg (D : List Int) : Nat := D.countP fun x => decide (x < 0)
structure BOk (N : Nat) (S : BS) : Prop where
  len : S.1.length = N
  cnt : S.2.length + neg S.1 = N
  mem : ∀ v ∈ S.2, 0 ≤ v ∧ v < N ∧ 0 ≤ gi S.1 v
  up : ∀ v : Int, gi S.1 v < S.2.length
theorem neg_set {l : List Int} {i x : Int} (h0 : 0 ≤ i) (h1 : i < (l.length : Int)) (hn : gi l i < 0) (hx : 0 ≤ x) : neg (setI l i x) + 1 = neg l := by
  have hi : i.toNat < l.length := by omega
  have hg : l[i.toNat] = gi l i := (List.getElem?_eq_some_iff.1 (gi_get h0 h1)).2
  unfold neg setI
  rw [List.countP_set hi]
  have hpos : 0 < l.countP fun x => decide (x < 0) := List.countP_pos_iff.2 ⟨_, List.getElem_mem hi, by rw [hg]; simpa using hn⟩
  simp only [hg, decide_eq_true_eq]
  rw [if_pos hn, if_neg (by omega)]
  omega
theorem visit_ok {N : Nat} {q : Int → Bool} {d v : Int} {S : BS} (h : BOk N S) (hv0 : 0 ≤ v) (hv1 : v < (N : Int)) (hd0 : 0 ≤ d) (hd1 : d < (S.2.length : Int)) : BOk N (visit q d S v) := by
  unfold visit
  split
  · rename_i c
    have hl := h.len
    refine ⟨by rw [setI_len]; exact h.len, ?_, fun u hu => ?_, fun u => ?_⟩
    · have := neg_set (l := S.1) (x := d + 1) hv0 (by omega) c.1 (by omega)
      have := h.cnt
      simp only [List.length_append, List.length_cons, List.length_nil]
      omega
    · rw [gi_set]
      rcases List.mem_append.1 hu with hu | hu
      · have := h.mem u hu
        refine ⟨this.1, this.2.1, ?_⟩
        split
        · omega
        · exact this.2.2
      · simp only [List.mem_singleton] at hu
        subst hu
        exact ⟨hv0, hv1, by rw [if_pos ⟨rfl, by omega⟩]; omega⟩
    · rw [gi_set]
      have := h.up u
      simp only [List.length_append, List.length_cons, List.length_nil]
      split <;> omega
  · exact h
theorem visit_keep {q : Int → Bool} {d v p : Int} {S : BS} (hp : 0 ≤ gi S.1 p) (hv0 : 0 ≤ v) : gi (visit q d S v).1 p = gi S.1 p := by
  unfold visit
  split
  · rename_i c
    rw [gi_set]
    split
    · rename_i e
      exfalso
      have : gi S.1 v = gi S.1 p := by unfold gi; rw [e.1]
      omega
    · rfl
  · rfl
theorem visit_le {q : Int → Bool} {d v : Int} {S : BS} : S.2.length ≤ (visit q d S v).2.length := by
  unfold visit
  split
  · simp
  · exact Nat.le_refl _
theorem fold_ok {N : Nat} {q : Int → Bool} {d p : Int} : ∀ {r : List Int} {S : BS}, BOk N S → (∀ v ∈ r, 0 ≤ v ∧ v < (N : Int)) → 0 ≤ d → d < (S.2.length : Int) → gi S.1 p = d →
    BOk N (r.foldl (visit q d) S) ∧ gi (r.foldl (visit q d) S).1 p = d ∧ S.2.length ≤ (r.foldl (visit q d) S).2.length
  | [], S, h, _, _, _, hp => ⟨h, hp, Nat.le_refl _⟩
  | v :: r, S, h, hr, h0, h1, hp => by
    have hv := hr v (by simp)
    have hle := visit_le (q := q) (d := d) (v := v) (S := S)
    have := fold_ok (q := q) (p := p) (r := r) (visit_ok (q := q) h hv.1 hv.2 h0 h1) (fun u hu => hr u (by simp [hu])) h0 (by omega) (by rw [visit_keep (by omega) hv.1, hp])
    rw [List.foldl_cons]
    exact ⟨this.1, this.2.1, by omega⟩
def near_in (N : Nat) (near : List (List Int)) : Prop := ∀ r ∈ near, ∀ v ∈ r, 0 ≤ v ∧ v < (N : Int)
theorem near_row {N : Nat} {near : List (List Int)} (h : near_in N near) (i : Int) : ∀ v ∈ getR .int near i, 0 ≤ v ∧ v < (N : Int) := by
  intro v hv
  unfold getR at hv
  rw [List.getD_eq_getElem?_getD] at hv
  cases hi : near[i.toNat]? with
  | none => rw [hi] at hv; simp at hv
  | some r => rw [hi] at hv; exact h r (List.mem_of_getElem? hi) v hv
/-- What holds ahead of each round. -/
structure BInv (near : List (List Int)) (q : Int → Bool) (R : BS) (n : Int) (S : BS) : Prop where
  ok : BOk near.length S
  lo : 0 ≤ n
  hi : n ≤ S.2.length
  res : R = bfs near q ((near.length - n).toNat + 1) n S
theorem BInv.place {near : List (List Int)} {q : Int → Bool} {R : BS} {n : Int} {S : BS} (h : BInv near q R n S) (hn : n < (S.2.length : Int)) :
    (0 ≤ gi S.2 n ∧ gi S.2 n < near.length) ∧ 0 ≤ gi S.1 (gi S.2 n) ∧ gi S.1 (gi S.2 n) < S.2.length := by
  have hm := h.ok.mem _ (List.mem_of_getElem? (gi_get h.lo hn))
  exact ⟨⟨hm.1, hm.2.1⟩, hm.2.2, h.ok.up _⟩
theorem BInv.next {near : List (List Int)} {q : Int → Bool} {R : BS} {n : Int} {S : BS} (h : BInv near q R n S) (hi : near_in near.length near) (hn : n < (S.2.length : Int)) : BInv near q R (n + 1) (level near q n S) := by
  obtain ⟨_, p2, p3⟩ := h.place hn
  have hf := fold_ok (q := q) (p := gi S.2 n) (r := getR .int near (gi S.2 n)) h.ok (near_row hi _) p2 p3 rfl
  have hc := h.ok.cnt
  have hlo := h.lo
  refine ⟨hf.1, by omega, ?_, ?_⟩
  · have := hf.2.2
    show n + 1 ≤ ((level near q n S).2.length : Int)
    unfold level
    omega
  · rw [h.res, show (near.length - n).toNat + 1 = (near.length - (n + 1)).toNat + 1 + 1 by omega]
    show (if n < (S.2.length : Int) then _ else _) = _
    rw [if_pos hn]
theorem BInv.done {near : List (List Int)} {q : Int → Bool} {R : BS} {n : Int} {S : BS} (h : BInv near q R n S) (hn : ¬ n < (S.2.length : Int)) : R = S := by
  rw [h.res]
  show (if n < (S.2.length : Int) then _ else _) = _
  rw [if_neg hn]
def start (N : Nat) (i : Int) : BS := (setI (List.replicate N (-1)) i 0, [i])
def search (near : List (List Int)) (q : Int → Bool) (i : Int) : BS := bfs near q (near.length + 1) 0 (start near.length i)
theorem gi_repl {N : Nat} {v : Int} : gi (List.replicate N (-1)) v = if v.toNat < N then -1 else 0 := by
  unfold gi
  rw [List.getD_eq_getElem?_getD]
  by_cases h : v.toNat < N
  · rw [if_pos h, List.getElem?_replicate_of_lt h]; rfl
  · rw [if_neg h, List.getElem?_eq_none (by simp; omega)]; rfl
theorem start_inv {near : List (List Int)} {q : Int → Bool} {i : Int} (h0 : 0 ≤ i) (h1 : i < near.length) : BInv near q (search near q i) 0 (start near.length i) := by
  refine ⟨⟨?_, ?_, fun v hv => ?_, fun v => ?_⟩, Int.le_refl _, by simp [start], ?_⟩
  · simp [start, setI_len]
  · have := neg_set (l := List.replicate near.length (-1)) (i := i) (x := 0) h0 (by simpa using h1) (by rw [gi_repl, if_pos (by omega)]; omega) (by omega)
    have e : neg (List.replicate near.length (-1)) = near.length := by simp [neg, List.countP_replicate]
    simp only [start, List.length_cons, List.length_nil]
    omega
  · simp only [start, List.mem_singleton] at hv
    subst hv
    exact ⟨h0, h1, by simp only [start]; rw [gi_set, if_pos ⟨rfl, by simp; omega⟩]; omega⟩
  · simp only [start]
    rw [gi_set, gi_repl]
    split
    · simp
    · split <;> simp
  · simp [search]
theorem fold_next {q : Int → Bool} {d k : Int} {r : List Int} {S : BS} (h0 : 0 ≤ k) (h1 : k < (r.length : Int)) : (r.take (k + 1).toNat).foldl (visit q d) S = visit q d ((r.take k.toNat).foldl (visit q d) S) (gi r k) := by
  rw [take_gi h0 h1, List.foldl_append]; rfl
theorem search_inv {near : List (List Int)} {q : Int → Bool} {i : Int} (h0 : 0 ≤ i) (h1 : i < near.length) (hi : near_in near.length near) : BOk near.length (search near q i) := by
  have key : ∀ (f : Nat) (n : Int) (S : BS), (near.length - n).toNat + 1 = f → BInv near q (search near q i) n S → BOk near.length (search near q i) := fun f => by
    induction f with
    | zero => intro n S hf; omega
    | succ f ih =>
      intro n S hf h
      by_cases hn : n < (S.2.length : Int)
      · have h2 := h.next hi hn
        have := h.ok.cnt
        exact ih _ _ (by omega) h2
      · rw [h.done hn]; exact h.ok
  exact key _ _ _ rfl (start_inv h0 h1)
theorem im_any (x : Int) : Spec2 Try.prog 65 [.int fun _ => x] [] [.bool fun _ => true] [] := by
  refine fnS [] [2] Try.func65 rfl (by decide) rfl (by decide) (by kernel_rfl) rfl (by simp [Try.ntmps65]) ?_
  cbv
  (simp only [IfP_iff, EqU_iff, Obl_iff, and_true, true_and, inI_iff, decide_eq_true_eq, decide_eq_false_iff_not]; (try simp only [natc, getI_gi, at2_0, at2_1]); (try dsimp only [Ty.den]); try simp only [natc] at *)
/-- What the walks ask of the state within a round. -/
theorem inner {near : List (List Int)} {q : Int → Bool} {R : BS} {n : Int} {D Q : List Int} (h : BInv near q R n (D, Q)) (hi : near_in near.length near) (hn : n < (Q.length : Int)) (k : Int) :
    let r := getR .int near (gi Q n); let d := gi D (gi Q n); let S := (r.take k.toNat).foldl (visit q d) (D, Q)
    S.1.length = near.length ∧ gi S.1 (gi Q n) = d ∧ S.2.length ≤ near.length ∧ (0 ≤ d ∧ d ≤ near.length) := by
  obtain ⟨p1, p2, p3⟩ := h.place hn
  have p2' : 0 ≤ gi D (gi Q n) := p2
  have p3' : gi D (gi Q n) < Q.length := p3
  have hf := fold_ok (q := q) (d := gi D (gi Q n)) (p := gi Q n) (r := (getR .int near (gi Q n)).take k.toNat) h.ok (fun v hv => near_row hi _ v (List.mem_of_mem_take hv)) p2' p3' rfl
  have hc := hf.1.cnt
  have hc2 : Q.length + neg D = near.length := h.ok.cnt
  exact ⟨hf.1.len, hf.2.1, by omega, p2', by omega⟩
theorem visit_yes {q : Int → Bool} {d v : Int} {S : BS} (h : gi S.1 v < 0) (hq : q v = true) : visit q d S v = (setI S.1 v (d + 1), S.2 ++ [v]) := by unfold visit; rw [if_pos ⟨h, hq⟩]
theorem visit_no {q : Int → Bool} {d v : Int} {S : BS} (h : ¬ (gi S.1 v < 0 ∧ q v = true)) : visit q d S v = S := by unfold visit; rw [if_neg h]
theorem rounds {near : List (List Int)} {q : Int → Bool} {R : BS} {n : Int} {D Q : List Int} (h : BInv near q R n (D, Q)) (hi : near_in near.length near) (hn : n < (Q.length : Int)) :
    ∃ sA sB : Int → List Int, (sA 0 = D ∧ sB 0 = Q) ∧ (∀ k, (sA k).length = near.length ∧ gi (sA k) (gi Q n) = gi D (gi Q n) ∧ (sB k).length ≤ near.length ∧ Q.length ≤ (sB k).length ∧ gi (sB k) n = gi Q n) ∧
      (∀ k : Int, 0 ≤ k → k < (getI (.sl .int) near (gi Q n)).length → (0 ≤ gi (getI (.sl .int) near (gi Q n)) k ∧ gi (getI (.sl .int) near (gi Q n)) k < near.length)) ∧
      (∀ k : Int, 0 ≤ k → k < (getI (.sl .int) near (gi Q n)).length → gi (sA k) (gi (getI (.sl .int) near (gi Q n)) k) < 0 → q (gi (getI (.sl .int) near (gi Q n)) k) = true → sA (k + 1) = setI (sA k) (gi (getI (.sl .int) near (gi Q n)) k) (gi D (gi Q n) + 1) ∧ sB (k + 1) = sB k ++ [gi (getI (.sl .int) near (gi Q n)) k]) ∧
      (∀ k : Int, 0 ≤ k → k < (getI (.sl .int) near (gi Q n)).length → ¬ (gi (sA k) (gi (getI (.sl .int) near (gi Q n)) k) < 0 ∧ q (gi (getI (.sl .int) near (gi Q n)) k) = true) → sA (k + 1) = sA k ∧ sB (k + 1) = sB k) ∧
      (∀ k : Int, ¬ k < (getI (.sl .int) near (gi Q n)).length → (level near q n (D, Q)).1 = sA k ∧ (level near q n (D, Q)).2 = sB k) ∧ (0 ≤ gi Q n ∧ gi Q n < near.length) ∧ (0 ≤ gi D (gi Q n) ∧ gi D (gi Q n) ≤ near.length) := by
  have hlo := h.lo
  have pre : ∀ (r : List Int) (d : Int) (S : BS), n < (S.2.length : Int) → gi (r.foldl (visit q d) S).2 n = gi S.2 n := fun r d => by
    induction r with
    | nil => intro S _; rfl
    | cons v r ih =>
      intro S hS
      rw [List.foldl_cons, ih _ (by have := visit_le (q := q) (d := d) (v := v) (S := S); omega)]
      unfold visit
      split
      · unfold gi
        simp only
        rw [List.getD_eq_getElem?_getD, List.getD_eq_getElem?_getD, List.getElem?_append_left (by omega)]
      · rfl
  have inn := fun k => inner h hi hn k
  obtain ⟨p1, _, _⟩ := h.place hn
  refine ⟨fun k => (((getR .int near (gi Q n)).take k.toNat).foldl (visit q (gi D (gi Q n))) (D, Q)).1, fun k => (((getR .int near (gi Q n)).take k.toNat).foldl (visit q (gi D (gi Q n))) (D, Q)).2, ⟨rfl, rfl⟩, fun k => ?_, fun k a b => near_row hi _ _ (gi_mem a b), fun k a b c d => ?_, fun k a b c => ?_, fun k a => ?_, p1, (inn 0).2.2.2⟩
  · have f1 : ∀ (r : List Int) (d : Int) (S : BS), S.2.length ≤ (r.foldl (visit q d) S).2.length := fun r d => by
      induction r with
      | nil => intro S; exact Nat.le_refl _
      | cons v r ih => intro S; rw [List.foldl_cons]; exact Nat.le_trans visit_le (ih _)
    exact ⟨(inn k).1, (inn k).2.1, (inn k).2.2.1, f1 _ _ (D, Q), pre _ _ (D, Q) hn⟩
  · have := fold_next (q := q) (d := gi D (gi Q n)) (S := (D, Q)) (r := getR .int near (gi Q n)) a b
    simp only [this]
    have c' := visit_yes (q := q) (d := gi D (gi Q n)) (S := ((getR .int near (gi Q n)).take k.toNat).foldl (visit q (gi D (gi Q n))) (D, Q)) c d
    exact ⟨congrArg Prod.fst c', congrArg Prod.snd c'⟩
  · have := fold_next (q := q) (d := gi D (gi Q n)) (S := (D, Q)) (r := getR .int near (gi Q n)) a b
    simp only [this]
    have c' := visit_no (q := q) (d := gi D (gi Q n)) (S := ((getR .int near (gi Q n)).take k.toNat).foldl (visit q (gi D (gi Q n))) (D, Q)) c
    exact ⟨congrArg Prod.fst c', congrArg Prod.snd c'⟩
  · have e : (getR .int near (gi Q n)).take k.toNat = getR .int near (gi Q n) := List.take_of_length_le (by have a' : ¬ k < ((getR .int near (gi Q n)).length : Int) := a; omega)
    simp only [e]
    exact ⟨rfl, rfl⟩
def rpn (n : Nat) (k : Int) : List Int := List.replicate k.toNat (-1) ++ List.replicate (n - k.toNat) 0
theorem rpn_zero (n : Nat) : rpn n 0 = List.replicate n 0 := by simp [rpn]
theorem rpn_end (n : Nat) : rpn n n = List.replicate n (-1) := by simp [rpn]
theorem rpn_len {n : Nat} {k : Int} (h : k ≤ n) : (rpn n k).length = n := by simp [rpn]; omega
theorem rpn_set {n : Nat} {k : Int} (h0 : 0 ≤ k) (h1 : k < (n : Int)) : setI (rpn n k) k (-1) = rpn n (k + 1) := by
  unfold rpn setI
  obtain ⟨m, hm⟩ : ∃ m, n - k.toNat = m + 1 := ⟨n - k.toNat - 1, by omega⟩
  rw [hm, List.set_append, if_neg (by simp), List.length_replicate, Nat.sub_self, List.replicate_succ, List.set_cons_zero, show (k + 1).toNat = k.toNat + 1 by omega, List.replicate_succ', List.append_assoc, show n - (k.toNat + 1) = m by omega]
  rfl
end Go.Proofs.Ytemdajfcfmefnaa.M
