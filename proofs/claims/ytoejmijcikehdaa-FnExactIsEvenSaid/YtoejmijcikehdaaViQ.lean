/- SwapPlaces, on both sides. -/
import Derived.Test.YtoejmijcikehdaaVhQ
import Derived.Test.YtoejmijcikehdaaQg
namespace Go.Proofs.Ytoejmijcikehdaa.M
open Go.RowKit Abs
set_option linter.unusedSimpArgs false
set_option linter.unusedVariables false
set_option maxRecDepth 100000
set_option maxHeartbeats 4000000
theorem sp_ownV (s : List Int) (hs : s.length ≤ 1048576) : Spec2 Try.prog 61 [.sl .int fun _ => s] [] [.ref 0] [some (.row 3 .int fun _ => s)] := by
  refine fnS [0] [2] Try.func61 rfl (by decide) rfl (by decide) (by kernel_rfl) rfl (by simp [Try.ntmps61]) ?_
  cbv
  (simp only [IfP_iff, EqU_iff, Obl_iff, and_true, true_and, inI_iff, decide_eq_true_eq, decide_eq_false_iff_not]; (try simp only [natc, getI_gi, at2_0, at2_1]); (try dsimp only [Ty.den]); try simp only [natc] at *)
  all_goals ((repeat' (first | apply And.intro | intro _)) <;> first | omega | (simp only [List.length_append, List.length_cons, List.length_nil]; omega) | grind)
theorem sp_swap (p : List Int) (a b : Int) (hp : p.length ≤ 1048576) (a0 : 0 ≤ a) (a1 : a < p.length) (b0 : 0 ≤ b) (b1 : b < p.length) : Spec2 Try.prog 56 [.sl .int fun _ => p, .int fun _ => a, .int fun _ => b] [] [.ref 0] [some (.row 3 .int fun _ => swp p a b)] := by
  have e : setI (setI p a (gi p b)) b (gi p a) = swp p a b := rfl
  have e1 : (setI p a (gi p b)).length = p.length := setI_len _ _ _
  refine fnS [0] [6] Try.func56 rfl (by decide) rfl (by decide) (by kernel_rfl) rfl (by simp [Try.ntmps56]) ?_
  cbv
  repeat' (first | ((first | refine call_q (sp_ownV p hp) (by cbv) ?_ | refine call_pure (sp_ownV p hp) (by cbv) ?_); cbv; ((try simp only [IfP_iff, and_true, true_and, decide_eq_true_eq, decide_eq_false_iff_not]); (try simp only [natc, getI_gi, at2_0, at2_1]); (try dsimp only [Ty.den]); (try simp only [natc] at *); (repeat' (first | apply And.intro | intro _)))))
  all_goals (try (simp only [IfP_iff, EqU_iff, Obl_iff, and_true, true_and, inI_iff, decide_eq_true_eq, decide_eq_false_iff_not]; (try simp only [natc, getI_gi, at2_0, at2_1]); (try dsimp only [Ty.den]); try simp only [natc] at *))
  all_goals ((repeat' (first | apply And.intro | intro _)) <;> first | omega | exact e | grind)
def swsP (p : List Int) (l : List (Int × Int)) (k : Int) : List Int := (l.take k.toNat).foldl (fun s q => swp s q.1 q.2) p
def swsB (p : List Int) (l : List (Int × Int)) : Bool := permB p && allI l.length fun k => pairB p.length (getI (.pr .int .int) l k)
def swsR (p : List Int) (l : List (Int × Int)) : List Int := if swsB p l = true then swsP p l l.length else []
theorem swsP_next {p : List Int} {l : List (Int × Int)} {k : Int} (h0 : 0 ≤ k) (h1 : k < (l.length : Int)) : swsP p l (k + 1) = swp (swsP p l k) (getI (.pr .int .int) l k).1 (getI (.pr .int .int) l k).2 := by
  unfold swsP
  rw [take_getI (t := (.pr .int .int)) h0 h1, List.foldl_append]
  rfl
theorem swsF_len : ∀ (l : List (Int × Int)) (p : List Int), (l.foldl (fun s q => swp s q.1 q.2) p).length = p.length
  | [], p => rfl
  | q :: l, p => by
    rw [List.foldl_cons, swsF_len l, swp_len]
theorem swsP_len {p : List Int} {l : List (Int × Int)} {k : Int} : (swsP p l k).length = p.length := swsF_len _ _
theorem swsR_len (p : List Int) (l : List (Int × Int)) : (swsR p l).length ≤ 1048576 := by
  unfold swsR
  split
  · rename_i h
    unfold swsB at h
    rw [Bool.and_eq_true] at h
    have := (perm_ok h.1).1
    rw [swsP_len]
    omega
  · simp
theorem pairB_in {n : Int} {q : Int × Int} (h : pairB n q = true) : 0 ≤ q.1 ∧ q.1 < q.2 ∧ q.2 < n := by
  unfold pairB at h
  simp only [Bool.and_eq_true, decide_eq_true_eq] at h
  exact ⟨h.1.1, h.1.2, h.2⟩
theorem sws_bad {p : List Int} {l : List (Int × Int)} {k : Int} (h0 : 0 ≤ k) (h1 : k < (l.length : Int)) (h : pairB p.length (getI (.pr .int .int) l k) = false) : swsB p l = false ∧ swsR p l = [] := by
  have : swsB p l = false := by unfold swsB; rw [allI_bad h0 h1 h, Bool.and_false]
  exact ⟨this, by unfold swsR; rw [this, if_neg (by decide)]⟩
theorem sws_good {p : List Int} {l : List (Int × Int)} (hb : permB p = true) (h : ∀ j : Int, 0 ≤ j → j < (l.length : Int) → pairB p.length (getI (.pr .int .int) l j) = true) : swsB p l = true ∧ swsR p l = swsP p l l.length := by
  have : swsB p l = true := by unfold swsB; rw [hb, allI_good h]; rfl
  exact ⟨this, by unfold swsR; rw [this, if_pos rfl]⟩
theorem sws_none {p : List Int} {l : List (Int × Int)} (hb : permB p = false) : swsB p l = false ∧ swsR p l = [] := by
  have : swsB p l = false := by unfold swsB; rw [hb]; rfl
  exact ⟨this, by unfold swsR; rw [this, if_neg (by decide)]⟩
theorem im_swapped2 (n : Int) (l : List Int) (q : Int × Int) (hl : l.length = 8) (a0 : 0 ≤ q.1) (a1 : q.1 < 8) (b0 : 0 ≤ q.2) (b1 : q.2 < 8) : Spec2 Try.prog 59 [.agg (.pr .int (.ar 7 .int)) fun _ => (gi (n :: l) 0, List.drop 1 (n :: l)), .agg (.pr .int .int) fun _ => q] [] [.agg (.pr .int (.ar 7 .int)) fun _ => (n, swp l q.1 q.2)] [] := im_swapped n l q hl a0 a1 b0 b1
theorem im_permList2 (n : Int) (l : List Int) (hl : l.length = 8) (h0 : 0 ≤ n) (h1 : n ≤ 8) : Spec2 Try.prog 64 [.agg (.pr .int (.ar 7 .int)) fun _ => (gi (n :: l) 0, List.drop 1 (n :: l))] [] [.ref 0] [some (.row 3 .int fun _ => l.take n.toNat)] := im_permList n l hl h0 h1
theorem im_swappedB (n m : Int) (l : List Int) (q : Int × Int) (hl : l.length = 8) (hm : m ≤ 8) (h : (!pairB m q) = false) : Spec2 Try.prog 59 [.agg (.pr .int (.ar 7 .int)) fun _ => (gi (n :: l) 0, List.drop 1 (n :: l)), .agg (.pr .int .int) fun _ => q] [] [.agg (.pr .int (.ar 7 .int)) fun _ => (n, swp l q.1 q.2)] [] := by
  have := pairB_in (n := m) (q := q) (by simpa using h)
  exact im_swapped2 n l q hl this.1 (by omega) (by omega) (by omega)
theorem swp_padB {r : List Int} {q : Int × Int} (h : pairB r.length q = true) : swp (padO r) q.1 q.2 = padO (swp r q.1 q.2) := by
  have := pairB_in h
  exact swp_pad this.1 (by omega) (by omega) this.2.2
theorem im_swapPlaces (p : List Int) (l : List (Int × Int)) (hp : p.length ≤ 1048576) (hl : l.length ≤ 1048576) : Spec2 Try.prog 35 [.sl .int fun _ => p, .sl (.pr .int .int) fun _ => l] [] [.ref 0, .bool fun _ => swsB p l] [some (.row 3 .int fun _ => swsR p l)] := by
  have hq := im_permOf p hp
  cases hb : permB p with
  | false =>
    rw [hb, show permV p = (0, List.replicate 8 0) by unfold permV; rw [hb, if_neg (by decide)]] at hq
    obtain ⟨n1, n2⟩ := sws_none (l := l) hb
    rw [n1, n2]
    clear n1 n2
    refine fnS [1] [4, 5] Try.func35 rfl (by decide) rfl (by decide) (by kernel_rfl) rfl (by simp [Try.ntmps35]) ?_
    cbv
    ((try simp only [IfP_iff, and_true, true_and, decide_eq_true_eq, decide_eq_false_iff_not]); (try simp only [natc, getI_gi, at2_0, at2_1]); (try dsimp only [Ty.den]); (try simp only [natc] at *); (repeat' (first | apply And.intro | intro _)))
    all_goals (repeat' (first | ((first | refine call_q hq (by cbv) ?_ | refine call_pure hq (by cbv) ?_); cbv; ((try simp only [IfP_iff, and_true, true_and, decide_eq_true_eq, decide_eq_false_iff_not]); (try simp only [natc, getI_gi, at2_0, at2_1]); (try dsimp only [Ty.den]); (try simp only [natc] at *); (repeat' (first | apply And.intro | intro _))))))
    all_goals (try (exact absurd (by assumption : (!false) = false) (by decide)))
    all_goals (try (simp only [IfP_iff, EqU_iff, Obl_iff, and_true, true_and, inI_iff, decide_eq_true_eq, decide_eq_false_iff_not]; (try simp only [natc, getI_gi, at2_0, at2_1]); (try dsimp only [Ty.den]); try simp only [natc] at *))
    all_goals (first | exact ⟨rfl, rfl⟩ | rfl | trace_state)
  | true =>
    rw [hb, show permV p = ((p.length : Int), padO p) by unfold permV; rw [hb, if_pos rfl]] at hq
    have h8 := (perm_ok hb).1
    refine fnG [.tmp 4, .tmp 5] Try.func35 rfl (by decide) rfl (by kernel_rfl) (.inr (.inl rfl)) (by kernel_rfl) (Nat.zero_le _) (by simp [Try.ntmps35]) ?_
    cbv
    ((try simp only [IfP_iff, and_true, true_and, decide_eq_true_eq, decide_eq_false_iff_not]); (try simp only [natc, getI_gi, at2_0, at2_1]); (try dsimp only [Ty.den]); (try simp only [natc] at *); (repeat' (first | apply And.intro | intro _)))
    all_goals (repeat' (first | ((first | refine call_q hq (by cbv) ?_ | refine call_pure hq (by cbv) ?_); cbv; ((try simp only [IfP_iff, and_true, true_and, decide_eq_true_eq, decide_eq_false_iff_not]); (try simp only [natc, getI_gi, at2_0, at2_1]); (try dsimp only [Ty.den]); (try simp only [natc] at *); (repeat' (first | apply And.intro | intro _))))))
    all_goals (try (exact absurd (by assumption : (!true) = true) (by decide)))
    refine loopX (by kernel_rfl) (fun k : Int => 0 ≤ k ∧ k ≤ l.length ∧ ∀ j : Int, 0 ≤ j → j < k → pairB p.length (getI (.pr .int .int) l j) = true) (fun k => [(20, .int fun _ => k)]) (fun k => [(0, some (.arr 70 8 .int fun _ => (p.length : Int) :: padO (swsP p l k)))]) (fun k => (l.length - k).toNat) (· + 1) 0 (by grind) ?_ ?_
    · cbv
      (simp only [IfP_iff, EqU_iff, Obl_iff, and_true, true_and, inI_iff, decide_eq_true_eq, decide_eq_false_iff_not]; (try simp only [natc, getI_gi, at2_0, at2_1]); (try dsimp only [Ty.den]); try simp only [natc] at *)
      rfl
    · intro k hk
      have i1 := upTo (p := fun j => pairB p.length (getI (.pr .int .int) l j)) (k := k) hk.2.2
      have i2 := swsP_next (p := p) (l := l) hk.1
      have i3 : (swsP p l k).length = p.length := swsP_len
      have i4 : (padO (swsP p l k)).length = 8 := padO_len (by omega)
      have i5 : k < (l.length : Int) → (!pairB p.length (getI (.pr .int .int) l k)) = true → swsR p l = [] ∧ swsB p l = false := fun a b => (sws_bad hk.1 a (by simpa using b)).symm
      have i6 : ¬ k < (l.length : Int) → swsR p l = swsP p l k ∧ swsB p l = true := fun h => by
        have e : k = l.length := by omega
        have := sws_good (l := l) hb fun j a b => hk.2.2 j a (by omega)
        rw [← e] at this
        exact this.symm
      have i9 : k < (l.length : Int) → (!pairB p.length (getI (.pr .int .int) l k)) = false → swp (padO (swsP p l k)) (getI (.pr .int .int) l k).1 (getI (.pr .int .int) l k).2 = padO (swsP p l (k + 1)) := fun h0 h => by
        rw [i2 h0, swp_padB (by rw [i3]; simpa using h)]
      have i10 := im_isPair (getI (.pr .int .int) l k) (gi ((p.length : Int) :: padO (swsP p l k)) ((0 : Nat) : Int))
      have i11 := im_permList2 (p.length : Int) (padO (swsP p l k)) i4 (by omega) (by omega)
      have i12 : (padO (swsP p l k)).take ((p.length : Int)).toNat = swsP p l k := by
        rw [← i3, Int.toNat_natCast]
        exact padO_take
      have i13 : ∀ {b : Bool}, (!pairB (gi ((p.length : Int) :: padO (swsP p l k)) ((0 : Nat) : Int)) (getI (.pr .int .int) l k)) = b → (!pairB p.length (getI (.pr .int .int) l k)) = b := fun h => h
      have i14 : ∀ {j : Int}, (!pairB p.length (getI (.pr .int .int) l k)) = false → 0 ≤ j → j < k + 1 → pairB p.length (getI (.pr .int .int) l j) = true := fun h => i1 (by simpa using h) _
      clear i2
      cbv
      ((try simp only [IfP_iff, and_true, true_and, decide_eq_true_eq, decide_eq_false_iff_not]); (try simp only [natc, getI_gi, at2_0, at2_1]); (try dsimp only [Ty.den]); (try simp only [natc] at *); (repeat' (first | apply And.intro | intro _)))
      all_goals (repeat' (first | ((first | refine call_q i10 (by cbv) ?_ | refine call_pure i10 (by cbv) ?_); cbv; ((try simp only [IfP_iff, and_true, true_and, decide_eq_true_eq, decide_eq_false_iff_not]); (try simp only [natc, getI_gi, at2_0, at2_1]); (try dsimp only [Ty.den]); (try simp only [natc] at *); (repeat' (first | apply And.intro | intro _)))) | ((first | refine call_q i11 (by cbv) ?_ | refine call_pure i11 (by cbv) ?_); cbv; ((try simp only [IfP_iff, and_true, true_and, decide_eq_true_eq, decide_eq_false_iff_not]); (try simp only [natc, getI_gi, at2_0, at2_1]); (try dsimp only [Ty.den]); (try simp only [natc] at *); (repeat' (first | apply And.intro | intro _)))) | ((first | refine call_q (im_swappedB (p.length : Int) (p.length : Int) (padO (swsP p l k)) (getI (.pr .int .int) l k) i4 (by omega) (i13 (by assumption))) (by cbv) ?_ | refine call_pure (im_swappedB (p.length : Int) (p.length : Int) (padO (swsP p l k)) (getI (.pr .int .int) l k) i4 (by omega) (i13 (by assumption))) (by cbv) ?_); cbv; ((try simp only [IfP_iff, and_true, true_and, decide_eq_true_eq, decide_eq_false_iff_not]); (try simp only [natc, getI_gi, at2_0, at2_1]); (try dsimp only [Ty.den]); (try simp only [natc] at *); (repeat' (first | apply And.intro | intro _))))))
      all_goals (try have j1 := i13 (by assumption))
      all_goals (try clear i10 i11 i13)
      all_goals (try (show Obl _; (simp only [IfP_iff, EqU_iff, Obl_iff, and_true, true_and, inI_iff, decide_eq_true_eq, decide_eq_false_iff_not]; (try simp only [natc, getI_gi, at2_0, at2_1]); (try dsimp only [Ty.den]); try simp only [natc] at *); ((repeat' (first | apply And.intro | intro _)) <;> first | omega | (exact i14 (by assumption) (by assumption) (by omega)))))
      · refine EndG.plain [2] ?_
        cbv
        (simp only [IfP_iff, EqU_iff, Obl_iff, and_true, true_and, inI_iff, decide_eq_true_eq, decide_eq_false_iff_not]; (try simp only [natc, getI_gi, at2_0, at2_1]); (try dsimp only [Ty.den]); try simp only [natc] at *)
        have := i5 (by assumption) j1
        exact ⟨this.2.symm, this.1.symm⟩
      · refine RenL.mk ⟨[0], ?_⟩
        cbv
        (simp only [IfP_iff, EqU_iff, Obl_iff, and_true, true_and, inI_iff, decide_eq_true_eq, decide_eq_false_iff_not]; (try simp only [natc, getI_gi, at2_0, at2_1]); (try dsimp only [Ty.den]); try simp only [natc] at *)
        rw [← i9 (by assumption) j1]
      · refine EndG.plain [1] ?_
        cbv
        (simp only [IfP_iff, EqU_iff, Obl_iff, and_true, true_and, inI_iff, decide_eq_true_eq, decide_eq_false_iff_not]; (try simp only [natc, getI_gi, at2_0, at2_1]); (try dsimp only [Ty.den]); try simp only [natc] at *)
        have := i6 (by assumption)
        rw [this.1, this.2]
        exact ⟨rfl, i12⟩
theorem pairB_no {n : Int} {q : Int × Int} (h : q.1 < 0 ∨ q.2 ≤ q.1 ∨ n ≤ q.2) : pairB n q = false := by
  cases hb : pairB n q with
  | false => rfl
  | true =>
    have := pairB_in hb
    omega
theorem pairB_yes {n : Int} {q : Int × Int} (h0 : ¬ q.1 < 0) (h1 : ¬ q.2 ≤ q.1) (h2 : ¬ n ≤ q.2) : pairB n q = true := by
  unfold pairB
  simp only [Bool.and_eq_true, decide_eq_true_eq]
  omega
theorem sp_swapQ (p : List Int) (q : Int × Int) (hp : p.length ≤ 1048576) (h0 : ¬ q.1 < 0) (h1 : ¬ q.2 ≤ q.1) (h2 : ¬ (p.length : Int) ≤ q.2) : Spec2 Try.prog 56 [.sl .int fun _ => p, .int fun _ => q.1, .int fun _ => q.2] [] [.ref 0] [some (.row 3 .int fun _ => swp p q.1 q.2)] :=
  sp_swap p q.1 q.2 hp (by omega) (by omega) (by omega) (by omega)
theorem sp_swapPlaces (p : List Int) (l : List (Int × Int)) (hp : p.length ≤ 1048576) (hl : l.length ≤ 1048576) : Spec2 Try.prog 33 [.sl .int fun _ => p, .sl (.pr .int .int) fun _ => l] [] [.ref 0, .bool fun _ => swsB p l] [some (.row 3 .int fun _ => swsR p l)] := by
  have hq := sp_perm p hp
  cases hb : permB p with
  | false =>
    rw [hb] at hq
    obtain ⟨n1, n2⟩ := sws_none (l := l) hb
    rw [n1, n2]
    clear n1 n2
    refine fnS [0] [4, 5] Try.func33 rfl (by decide) rfl (by decide) (by kernel_rfl) rfl (by simp [Try.ntmps33]) ?_
    cbv
    ((try simp only [IfP_iff, and_true, true_and, decide_eq_true_eq, decide_eq_false_iff_not]); (try simp only [natc, getI_gi, at2_0, at2_1]); (try dsimp only [Ty.den]); (try simp only [natc] at *); (repeat' (first | apply And.intro | intro _)))
    all_goals (repeat' (first | ((first | refine call_q hq (by cbv) ?_ | refine call_pure hq (by cbv) ?_); cbv; ((try simp only [IfP_iff, and_true, true_and, decide_eq_true_eq, decide_eq_false_iff_not]); (try simp only [natc, getI_gi, at2_0, at2_1]); (try dsimp only [Ty.den]); (try simp only [natc] at *); (repeat' (first | apply And.intro | intro _))))))
    all_goals (try (exact absurd (by assumption : (!false) = false) (by decide)))
    all_goals (try (simp only [IfP_iff, EqU_iff, Obl_iff, and_true, true_and, inI_iff, decide_eq_true_eq, decide_eq_false_iff_not]; (try simp only [natc, getI_gi, at2_0, at2_1]); (try dsimp only [Ty.den]); try simp only [natc] at *))
    all_goals (first | exact ⟨rfl, rfl⟩ | rfl | trace_state)
  | true =>
    rw [hb] at hq
    have h8 := (perm_ok hb).1
    have ho := sp_ownV p hp
    refine fnG [.tmp 4, .tmp 5] Try.func33 rfl (by decide) rfl (by kernel_rfl) (.inr (.inl rfl)) (by kernel_rfl) (Nat.zero_le _) (by simp [Try.ntmps33]) ?_
    cbv
    ((try simp only [IfP_iff, and_true, true_and, decide_eq_true_eq, decide_eq_false_iff_not]); (try simp only [natc, getI_gi, at2_0, at2_1]); (try dsimp only [Ty.den]); (try simp only [natc] at *); (repeat' (first | apply And.intro | intro _)))
    all_goals (repeat' (first | ((first | refine call_q hq (by cbv) ?_ | refine call_pure hq (by cbv) ?_); cbv; ((try simp only [IfP_iff, and_true, true_and, decide_eq_true_eq, decide_eq_false_iff_not]); (try simp only [natc, getI_gi, at2_0, at2_1]); (try dsimp only [Ty.den]); (try simp only [natc] at *); (repeat' (first | apply And.intro | intro _)))) | ((first | refine call_q ho (by cbv) ?_ | refine call_pure ho (by cbv) ?_); cbv; ((try simp only [IfP_iff, and_true, true_and, decide_eq_true_eq, decide_eq_false_iff_not]); (try simp only [natc, getI_gi, at2_0, at2_1]); (try dsimp only [Ty.den]); (try simp only [natc] at *); (repeat' (first | apply And.intro | intro _))))))
    all_goals (try (exact absurd (by assumption : (!true) = true) (by decide)))
    refine loopX (by kernel_rfl) (fun k : Int => 0 ≤ k ∧ k ≤ l.length ∧ ∀ j : Int, 0 ≤ j → j < k → pairB p.length (getI (.pr .int .int) l j) = true) (fun k => [(7, .int fun _ => k), (6, .ref 0), (15, .junk)]) (fun k => [(0, some (.row 3 .int fun _ => swsP p l k))]) (fun k => (l.length - k).toNat) (· + 1) 0 (by grind) ?_ ?_
    · cbv
      (simp only [IfP_iff, EqU_iff, Obl_iff, and_true, true_and, inI_iff, decide_eq_true_eq, decide_eq_false_iff_not]; (try simp only [natc, getI_gi, at2_0, at2_1]); (try dsimp only [Ty.den]); try simp only [natc] at *)
      rfl
    · intro k hk
      have i1 := upTo (p := fun j => pairB p.length (getI (.pr .int .int) l j)) (k := k) hk.2.2
      have i2 := swsP_next (p := p) (l := l) hk.1
      have i3 : (swsP p l k).length = p.length := swsP_len
      have i0 : pairB p.length (getI (.pr .int .int) l k) = (decide (0 ≤ at2 (getI (.pr .int .int) l k) 0) && decide (at2 (getI (.pr .int .int) l k) 0 < at2 (getI (.pr .int .int) l k) 1) && decide (at2 (getI (.pr .int .int) l k) 1 < (p.length : Int))) := rfl
      have i00 : at2 (getI (.pr .int .int) l k) 0 = (getI (.pr .int .int) l k).1 := rfl
      have i01 : at2 (getI (.pr .int .int) l k) 1 = (getI (.pr .int .int) l k).2 := rfl
      have i5 : k < (l.length : Int) → pairB p.length (getI (.pr .int .int) l k) = false → swsR p l = [] ∧ swsB p l = false := fun a b => (sws_bad hk.1 a b).symm
      have i6 : ¬ k < (l.length : Int) → swsR p l = swsP p l k ∧ swsB p l = true := fun h => by
        have e : k = l.length := by omega
        have := sws_good (l := l) hb fun j a b => hk.2.2 j a (by omega)
        rw [← e] at this
        exact this.symm
      have i7 : (swsP p l k).length ≤ 1048576 := by omega
      have i8 : k < (l.length : Int) → ¬ (getI (.pr .int .int) l k).1 < 0 → ¬ (getI (.pr .int .int) l k).2 ≤ (getI (.pr .int .int) l k).1 → ¬ (p.length : Int) ≤ (getI (.pr .int .int) l k).2 → (∀ j : Int, 0 ≤ j → j < k + 1 → pairB p.length (getI (.pr .int .int) l j) = true) ∧ swp (swsP p l k) (getI (.pr .int .int) l k).1 (getI (.pr .int .int) l k).2 = swsP p l (k + 1) := fun a b c d => ⟨i1 (pairB_yes b c d), (i2 a).symm⟩
      clear i0 i00 i01 i1 i2
      cbv
      ((try simp only [IfP_iff, and_true, true_and, decide_eq_true_eq, decide_eq_false_iff_not]); (try simp only [natc, getI_gi, at2_0, at2_1]); (try dsimp only [Ty.den]); (try simp only [natc] at *); (repeat' (first | apply And.intro | intro _)))
      all_goals (repeat' (first | ((first | refine call_q (sp_swapQ (swsP p l k) (getI (.pr .int .int) l k) i7 (by assumption) (by assumption) (by rw [i3]; assumption)) (by cbv) ?_ | refine call_pure (sp_swapQ (swsP p l k) (getI (.pr .int .int) l k) i7 (by assumption) (by assumption) (by rw [i3]; assumption)) (by cbv) ?_); cbv; ((try simp only [IfP_iff, and_true, true_and, decide_eq_true_eq, decide_eq_false_iff_not]); (try simp only [natc, getI_gi, at2_0, at2_1]); (try dsimp only [Ty.den]); (try simp only [natc] at *); (repeat' (first | apply And.intro | intro _))))))
      all_goals (try (show Obl _; (simp only [IfP_iff, EqU_iff, Obl_iff, and_true, true_and, inI_iff, decide_eq_true_eq, decide_eq_false_iff_not]; (try simp only [natc, getI_gi, at2_0, at2_1]); (try dsimp only [Ty.den]); try simp only [natc] at *); ((repeat' (first | apply And.intro | intro _)) <;> first | omega | (exact (i8 (by assumption) (by assumption) (by assumption) (by assumption)).1 _ (by assumption) (by assumption)))))
      all_goals (first
        | (refine EndG.plain [1] ?_
           cbv
           (simp only [IfP_iff, EqU_iff, Obl_iff, and_true, true_and, inI_iff, decide_eq_true_eq, decide_eq_false_iff_not]; (try simp only [natc, getI_gi, at2_0, at2_1]); (try dsimp only [Ty.den]); try simp only [natc] at *)
           have := i5 (by assumption) (pairB_no (by first | (left; assumption) | (right; left; assumption) | (right; right; assumption)))
           exact ⟨this.2.symm, this.1.symm⟩)
        | (refine RenL.mk ⟨[1], ?_⟩
           cbv
           (simp only [IfP_iff, EqU_iff, Obl_iff, and_true, true_and, inI_iff, decide_eq_true_eq, decide_eq_false_iff_not]; (try simp only [natc, getI_gi, at2_0, at2_1]); (try dsimp only [Ty.den]); try simp only [natc] at *)
           exact (i8 (by assumption) (by assumption) (by assumption) (by assumption)).2)
        | (refine EndG.plain [0] ?_
           cbv
           (simp only [IfP_iff, EqU_iff, Obl_iff, and_true, true_and, inI_iff, decide_eq_true_eq, decide_eq_false_iff_not]; (try simp only [natc, getI_gi, at2_0, at2_1]); (try dsimp only [Ty.den]); try simp only [natc] at *)
           have := i6 (by assumption)
           exact ⟨this.2.symm, this.1.symm⟩)
        | (trace_state; fail))
end Go.Proofs.Ytoejmijcikehdaa.M
