/- Xa, Xb, Xf, Xg, in one text. -/
import Derived.Test.YtjkmgdhndbdhoaaQh
import Derived.Test.YtjkmgdhndbdhoaaQg
import Derived.Test.YtjkmgdhndbdhoaaWlQ
import Derived.Test.YtjkmgdhndbdhoaaQe
/- Matchings of any number of edges: the program's lists. -/
namespace Go.Proofs.Ytjkmgdhndbdhoaa.M
open Go.RowKit Abs
set_option linter.unusedSimpArgs false
set_option linter.unusedVariables false
set_option maxRecDepth 100000
set_option maxHeartbeats 4000000
theorem mat_ch {l : List (Int × Int)} {b : List Int} {x : Int} (h : matB l b = true) (hx : x ∈ chE l b) : matB l (b ++ [x]) = true := by
  rw [← chE_spec h] at hx
  exact (pref_mem.1 hx).2.2
theorem grE_cap {n : Int} {l : List (Int × Int)} {b : List Int} (hg : graphOk n l = true) (h : matB l b = true) (f : Nat) : (grE l f b).length ≤ 614656 := by
  cases hs : grE l f b with
  | nil => simp
  | cons s r =>
    have m := grE_mem f b s h (by rw [hs]; simp)
    have z := mat_size hg m.1
    have hn := (graph_edges hg).1
    have h1 := grE_28 (graph_28 hg) f b
    have h2 : 28 ^ f ≤ 28 ^ 4 := Nat.pow_le_pow_right (by decide) (by omega)
    rw [hs] at h1
    omega
theorem grEP_cap {n : Int} {l : List (Int × Int)} {b : List Int} (hg : graphOk n l = true) (h : matB l b = true) (f : Nat) (j : Nat) : (grEP l f b j).length ≤ 614656 := by
  have a := grE_cap hg h (f + 1)
  have e : grE l (f + 1) b = grEP l f b j ++ ((chE l b).drop j).flatMap fun x => grE l f (b ++ [x]) := by
    unfold grEP
    rw [← List.flatMap_append, List.take_append_drop]
    rfl
  rw [e, List.length_append] at a
  omega
theorem exP_mono {l : List (Int × Int)} {f : Nat} {b : List Int} {j : Int} (j0 : 0 ≤ j) : ∀ d : Nat, (exP l f b j).length ≤ (exP l f b (j + d)).length
  | 0 => by rw [show j + ((0 : Nat) : Int) = j by omega]; exact Nat.le_refl _
  | d + 1 => by
    have := exP_mono (l := l) (f := f) (b := b) j0 d
    rw [show j + ((d + 1 : Nat) : Int) = j + d + 1 by omega, exP_next (by omega), List.length_append]
    omega
theorem exP_cap {n : Int} {l : List (Int × Int)} {b : List Int} (hg : graphOk n l = true) (h : matB l b = true) (f : Nat) {j : Int} (j0 : 0 ≤ j) (j1 : j ≤ l.length) : (exP l f b j).length ≤ 614656 := by
  have a := exP_mono (l := l) (f := f) (b := b) j0 (l.length - j).toNat
  rw [show j + (((l.length - j : Int).toNat : Nat) : Int) = l.length by omega, exP_all h] at a
  have := grE_cap hg h (f + 1)
  omega
theorem im_grownM (n : Int) (l : List (Int × Int)) (hg : graphOk n l = true) : ∀ (f : Nat) (b : List Int) (k : Int), (b.length : Int) + f = k → k ≤ 8 → matB l b = true → Spec2 Try.prog 43 [.ifr 68 fun _ => ofBound [.cells [.ifr 54 fun _ => ofBound [.cells [.int fun _ => n, .sl (.pr .int .int) fun _ => l]], .int fun _ => k]], .ref 0, .sl .int fun _ => b] [some (.row 3 .int fun _ => b)] [.ref 1] [none, some (.rows 43 3 .int fun _ => grE l f b)]
  | 0, b, k, hk, h5, hx => by
    have hl : b.length ≤ 1048576 := by omega
    have e1 : decide ((b.length : Int) = k) = true := by rw [decide_eq_true_eq]; omega
    have s1 := im_isWholeE n k l b hl
    rw [e1] at s1
    have e2 : [b] = grE l 0 b := rfl
    generalize grE l 0 b = G at *
    refine fnG [.tmp 6] Try.func43 rfl (by decide) rfl (by kernel_rfl) (.inl rfl) (by kernel_rfl) (by simp) (by simp [Try.ntmps43]) ?_
    cbv
    ((first | refine call_iq (by kernel_rfl) rfl s1 (by cbv) ?_ | refine call_i (by kernel_rfl) rfl s1 (by cbv) ?_); cbv; ((try simp only [IfP_iff, and_true, true_and, decide_eq_true_eq, decide_eq_false_iff_not]); (try simp only [natc, getI_gi, at2_0, at2_1]); (try dsimp only [Ty.den]); (try simp only [natc] at *); (repeat' (first | apply And.intro | intro _))))
    ((try simp only [IfP_iff, and_true, true_and, decide_eq_true_eq, decide_eq_false_iff_not]); (try simp only [natc, getI_gi, at2_0, at2_1]); (try dsimp only [Ty.den]); (try simp only [natc] at *); (repeat' (first | apply And.intro | intro _)))
    all_goals (first
      | (exfalso; simp_all; done)
      | (refine EndG.plain [0, 1] ?_
         cbv
         (simp only [IfP_iff, EqU_iff, Obl_iff, and_true, true_and, inI_iff, decide_eq_true_eq, decide_eq_false_iff_not]; (try simp only [natc, getI_gi, at2_0, at2_1]); (try dsimp only [Ty.den]); try simp only [natc] at *)
         exact e2)
      | trace_state)
  | f + 1, b, k, hk, h5, hx => by
    have hl : b.length ≤ 1000 := by omega
    have e1 : decide ((b.length : Int) = k) = false := by rw [decide_eq_false_iff_not]; omega
    have s1 := im_isWholeE n k l b (by omega)
    rw [e1] at s1
    have s2 := im_choicesE n k l b (by have := graph_28 hg; omega) hl (mat_in hx)
    have hcl := chE_len (show l.length ≤ 64 by have := graph_28 hg; omega) b
    have hin : ∀ x ∈ chE l b, matB l (b ++ [x]) = true := fun x h => mat_ch hx h
    have ih := fun x (h : x ∈ chE l b) => im_grownM n l hg f (b ++ [x]) k (by rw [List.length_append, List.length_cons, List.length_nil]; omega) h5 (hin x h)
    have gl := fun j => grEP_cap hg hx f j
    have gn := fun {i : Int} (h0 : 0 ≤ i) h1 => grEP_next (l := l) (f := f) (b := b) (k := i) h0 h1
    have g0 : grEP l f b 0 = [] := by simp [grEP]
    have gE : grEP l f b (chE l b).length = grE l (f + 1) b := by unfold grEP; rw [List.take_of_length_le (Nat.le_refl _)]; rfl
    have gfl := fun x (h : x ∈ chE l b) => grE_cap hg (hin x h) f
    rw [show ((fitL (allN l) (edgeX l) b).filter fun x => !(!incB (b ++ [x]))) = chE l b from rfl] at s2
    generalize grE l (f + 1) b = G at *
    generalize chE l b = C at *
    refine fnGE [3, 7] [.tmp 6] Try.func43 rfl (by decide) rfl (by kernel_rfl) (.inl rfl) (by kernel_rfl) (by simp) (by simp [Try.ntmps43]) ?_
    cbv
    ((first | refine call_iq (by kernel_rfl) rfl s1 (by cbv) ?_ | refine call_i (by kernel_rfl) rfl s1 (by cbv) ?_); cbv; ((try simp only [IfP_iff, and_true, true_and, decide_eq_true_eq, decide_eq_false_iff_not]); (try simp only [natc, getI_gi, at2_0, at2_1]); (try dsimp only [Ty.den]); (try simp only [natc] at *); (repeat' (first | apply And.intro | intro _))))
    ((try simp only [IfP_iff, and_true, true_and, decide_eq_true_eq, decide_eq_false_iff_not]); (try simp only [natc, getI_gi, at2_0, at2_1]); (try dsimp only [Ty.den]); (try simp only [natc] at *); (repeat' (first | apply And.intro | intro _)))
    all_goals (try (exfalso; simp_all; done))
    refine DrawL.seqZ [(0, [0])] ?_
    cbv
    ((first | refine call_iq (by kernel_rfl) rfl s2 (by cbv) ?_ | refine call_i (by kernel_rfl) rfl s2 (by cbv) ?_); cbv; ((try simp only [IfP_iff, and_true, true_and, decide_eq_true_eq, decide_eq_false_iff_not]); (try simp only [natc, getI_gi, at2_0, at2_1]); (try dsimp only [Ty.den]); (try simp only [natc] at *); (repeat' (first | apply And.intro | intro _))))
    refine loopXE [3, 7] (by kernel_rfl) (fun i : Int => 0 ≤ i ∧ i ≤ C.length) (fun i => [(21, .int fun _ => i), (7, .ref 1), (16, .junk), (9, .junk), (10, .junk)]) (fun i => [(1, some (.rows 43 3 .int fun _ => grEP l f b i.toNat))]) (fun i => (C.length - i).toNat) (· + 1) 0 (by omega) ?_ ?_
    · cbv
      (simp only [IfP_iff, EqU_iff, Obl_iff, and_true, true_and, inI_iff, decide_eq_true_eq, decide_eq_false_iff_not]; (try simp only [natc, getI_gi, at2_0, at2_1]); (try dsimp only [Ty.den]); try simp only [natc] at *)
      exact g0.symm
    · intro i hi
      have i0 : 0 ≤ i := hi.1
      have b1 : (grEP l f b i.toNat).length ≤ 614656 := gl _
      have b2 : i < (C.length : Int) → gi C i ∈ C := fun h => gi_mem i0 h
      have b3 := fun h => gn (i := i) i0 h
      have b4 : ¬ i < (C.length : Int) → grEP l f b i.toNat = G := fun h => by rw [show i.toNat = C.length by omega]; exact gE
      have b5 := fun h => gfl (gi C i) (b2 h)
      have sc := go_concat b [gi C i] (by omega) (by simp) (by simp)
      have sw := im_withE n k (gi C i) l b hl
      have sg := fun h => ih (gi C i) (b2 h)
      generalize grEP l f b i.toNat = X at *
      generalize grEP l f b (i + 1).toNat = Y at *
      generalize grE l f (b ++ [gi C i]) = Z at *
      clear ih gl gn gE gfl g0 s1 s2 hin hx
      cbv
      ((try simp only [IfP_iff, and_true, true_and, decide_eq_true_eq, decide_eq_false_iff_not]); (try simp only [natc, getI_gi, at2_0, at2_1]); (try dsimp only [Ty.den]); (try simp only [natc] at *); (repeat' (first | apply And.intro | intro _)))
      all_goals (try (refine EndG.plain [0, 1] ?_
                      cbv
                      (simp only [IfP_iff, EqU_iff, Obl_iff, and_true, true_and, inI_iff, decide_eq_true_eq, decide_eq_false_iff_not]; (try simp only [natc, getI_gi, at2_0, at2_1]); (try dsimp only [Ty.den]); try simp only [natc] at *)
                      exact b4 (by assumption)))
      all_goals (try (refine DrawL.seqZ [(3, [3])] ?_
                      cbv
                      ((first | refine call_q sc (by cbv) ?_ | refine call_pure sc (by cbv) ?_); cbv; ((try simp only [IfP_iff, and_true, true_and, decide_eq_true_eq, decide_eq_false_iff_not]); (try simp only [natc, getI_gi, at2_0, at2_1]); (try dsimp only [Ty.den]); (try simp only [natc] at *); (repeat' (first | apply And.intro | intro _))))))
      all_goals (try (((first | refine call_iq (by kernel_rfl) rfl sw (by cbv) ?_ | refine call_i (by kernel_rfl) rfl sw (by cbv) ?_); cbv; ((try simp only [IfP_iff, and_true, true_and, decide_eq_true_eq, decide_eq_false_iff_not]); (try simp only [natc, getI_gi, at2_0, at2_1]); (try dsimp only [Ty.den]); (try simp only [natc] at *); (repeat' (first | apply And.intro | intro _))))))
      all_goals (try (refine call_own 5 (sg (by assumption)) (by cbv) (by exact ⟨.inl rfl, .inr ⟨rfl, rfl⟩, .inl rfl, trivial⟩) ?_
                      cbv))
      all_goals (try ((try simp only [IfP_iff, and_true, true_and, decide_eq_true_eq, decide_eq_false_iff_not]); (try simp only [natc, getI_gi, at2_0, at2_1]); (try dsimp only [Ty.den]); (try simp only [natc] at *); (repeat' (first | apply And.intro | intro _))))
      all_goals (first
        | (refine RenL.mk ⟨[0, 1, 2], ?_⟩
           cbv
           (simp only [IfP_iff, EqU_iff, Obl_iff, and_true, true_and, inI_iff, decide_eq_true_eq, decide_eq_false_iff_not]; (try simp only [natc, getI_gi, at2_0, at2_1]); (try dsimp only [Ty.den]); try simp only [natc] at *)
           exact (b3 (by assumption)).symm)
        | ((try (simp only [IfP_iff, EqU_iff, Obl_iff, and_true, true_and, inI_iff, decide_eq_true_eq, decide_eq_false_iff_not]; (try simp only [natc, getI_gi, at2_0, at2_1]); (try dsimp only [Ty.den]); try simp only [natc] at *))
           (repeat' (first | apply And.intro | intro _)) <;> first | omega | (exact (b3 (by assumption)).symm) | (have := b5 (by assumption); omega) | trace_state)
        | trace_state)
theorem im_fitListsM (n k : Int) (l : List (Int × Int)) (hg : graphOk n l = true) (k0 : 0 ≤ k) (hk : k ≤ 8) : Spec2 Try.prog 30 [.ifr 54 fun _ => ofBound [.cells [.int fun _ => n, .sl (.pr .int .int) fun _ => l]], .int fun _ => k] [] [.ref 0] [some (.rows 43 3 .int fun _ => grE l k.toNat [])] := by
  have sg := im_grownM n l hg k.toNat [] k (by simp only [List.length_nil]; omega) hk (by rfl)
  generalize grE l k.toNat [] = G at *
  refine fnS [2] [4] Try.func30 rfl (by decide) rfl (by decide) (by kernel_rfl) rfl (by simp [Try.ntmps30]) ?_
  cbv
  refine call_own 0 sg (by cbv) (by exact ⟨.inl rfl, .inr ⟨rfl, rfl⟩, .inl rfl, trivial⟩) ?_
  cbv
  all_goals (try (simp only [IfP_iff, EqU_iff, Obl_iff, and_true, true_and, inI_iff, decide_eq_true_eq, decide_eq_false_iff_not]; (try simp only [natc, getI_gi, at2_0, at2_1]); (try dsimp only [Ty.den]); try simp only [natc] at *))
end Go.Proofs.Ytjkmgdhndbdhoaa.M
/- Matchings of any number of edges: the specification's lists. -/
namespace Go.Proofs.Ytjkmgdhndbdhoaa.M
open Go.RowKit Abs
set_option linter.unusedSimpArgs false
set_option linter.unusedVariables false
set_option maxRecDepth 100000
set_option maxHeartbeats 4000000
theorem sp_extendM (n : Int) (l : List (Int × Int)) (hl : l.length ≤ 1048576) (hg : graphOk n l = true) : ∀ (f : Nat) (b : List Int) (k : Int), (b.length : Int) + f = k → k ≤ 8 → matB l b = true → Spec2 Try.prog 34 [.agg (.pr .int (.sl (.pr .int .int))) fun _ => (n, l), .ref 0, .int fun _ => k] [some (.row 3 .int fun _ => b)] [.ref 1] [none, some (.rows 43 3 .int fun _ => grE l f b)]
  | 0, b, k, hk, h5, hb => by
    have e2 : [b] = grE l 0 b := rfl
    have e1 : (b.length : Int) = k := by omega
    generalize grE l 0 b = G at *
    refine fnG [.tmp 6] Try.func34 rfl (by decide) rfl (by kernel_rfl) (.inl rfl) (by kernel_rfl) (by simp) (by simp [Try.ntmps34]) ?_
    cbv
    ((try simp only [IfP_iff, and_true, true_and, decide_eq_true_eq, decide_eq_false_iff_not]); (try simp only [natc, getI_gi, at2_0, at2_1]); (try dsimp only [Ty.den]); (try simp only [natc] at *); (repeat' (first | apply And.intro | intro _)))
    all_goals (try (exact absurd e1 (by assumption)))
    all_goals (first
      | (refine EndG.plain [0, 2] ?_
         cbv
         (simp only [IfP_iff, EqU_iff, Obl_iff, and_true, true_and, inI_iff, decide_eq_true_eq, decide_eq_false_iff_not]; (try simp only [natc, getI_gi, at2_0, at2_1]); (try dsimp only [Ty.den]); try simp only [natc] at *)
         exact e2)
      | (trace_state; fail))
  | f + 1, b, k, hk, h5, hb => by
    have e1 : ¬ (b.length : Int) = k := by omega
    have hbl : b.length ≤ 1048576 := by omega
    have so := sp_ownW b hbl
    have gE : exP l f b l.length = grE l (f + 1) b := exP_all hb
    have ih := fun (x : Int) (hx : matB l (b ++ [x]) = true) => sp_extendM n l hl hg f (b ++ [x]) k (by rw [List.length_append, List.length_cons, List.length_nil]; omega) h5 hx
    have hln : ∀ j : Int, 0 ≤ j → j ≤ l.length → (exP l f b j).length ≤ 614656 := fun j a c => exP_cap hg hb f a c
    have hnx : ∀ j : Int, 0 ≤ j → exP l f b (j + 1) = exP l f b j ++ if matB l (b ++ [j]) = true then grE l f (b ++ [j]) else [] := fun j a => exP_next a
    have g0 : [] = exP l f b 0 := rfl
    have g1 : 0 < (b.length : Int) → [] = exP l f b (gi b ((b.length : Int) - 1) + 1) := fun h => (exP_from fun e e0 e1 => by
      cases hm : matB l (b ++ [e]) with
      | false => rfl
      | true =>
        have := mat_last hm h
        omega).symm
    have g2 : 0 < (b.length : Int) → 0 ≤ gi b ((b.length : Int) - 1) ∧ gi b ((b.length : Int) - 1) < l.length := fun h => mat_in hb _ (gi_mem (by omega) (by omega))
    have gfl := fun x (h : matB l (b ++ [x]) = true) => grE_cap hg h f
    have h28 := graph_28 hg
    generalize grE l (f + 1) b = G at *
    refine fnG [.tmp 6] Try.func34 rfl (by decide) rfl (by kernel_rfl) (.inl rfl) (by kernel_rfl) (by simp) (by simp [Try.ntmps34]) ?_
    cbv
    ((try simp only [IfP_iff, and_true, true_and, decide_eq_true_eq, decide_eq_false_iff_not]); (try simp only [natc, getI_gi, at2_0, at2_1]); (try dsimp only [Ty.den]); (try simp only [natc] at *); (repeat' (first | apply And.intro | intro _)))
    all_goals (try (exact absurd (by assumption) e1))
    all_goals (try (show Obl _; (simp only [IfP_iff, EqU_iff, Obl_iff, and_true, true_and, inI_iff, decide_eq_true_eq, decide_eq_false_iff_not]; (try simp only [natc, getI_gi, at2_0, at2_1]); (try dsimp only [Ty.den]); try simp only [natc] at *); ((repeat' (first | apply And.intro | intro _)) <;> first | omega | (have := g2 (by assumption); omega))))
    · have p1 := g1 (by assumption)
      have p2 := g2 (by assumption)
      clear g1 g2
      refine loopX (by kernel_rfl) (fun j : Int => 0 ≤ j ∧ j ≤ l.length) (fun j => [(9, .int fun _ => j), (8, .ref 2), (17, .junk)]) (fun j => [(2, some (.rows 43 3 .int fun _ => exP l f b j))]) (fun j => (l.length - j).toNat) (· + 1) (gi b ((b.length : Int) - 1) + 1) (by omega) ?_ ?_
      · cbv
        (simp only [IfP_iff, EqU_iff, Obl_iff, and_true, true_and, inI_iff, decide_eq_true_eq, decide_eq_false_iff_not]; (try simp only [natc, getI_gi, at2_0, at2_1]); (try dsimp only [Ty.den]); try simp only [natc] at *)
        exact p1
      · intro j hj
        have j0 : 0 ≤ j := hj.1
        have b1 : (exP l f b j).length ≤ 614656 := hln j j0 hj.2
        have b2 := hnx j j0
        have b3 : ¬ j < (l.length : Int) → exP l f b j = G := fun h => by rw [← gE, show j = (l.length : Int) by omega]
        have sg := ih j
        have b5 := gfl j
        have c1 : matB l (b ++ [j]) = true → exP l f b j ++ grE l f (b ++ [j]) = exP l f b (j + 1) := fun h => by rw [b2, if_pos h]
        have c2 : matB l (b ++ [j]) = false → exP l f b j = exP l f b (j + 1) := fun h => by rw [b2, if_neg (by rw [h]; decide), List.append_nil]
        have sm := sp_matches n l (b ++ [j]) hl (by rw [List.length_append, List.length_cons, List.length_nil]; omega) hg
        have b6 := b5
        generalize matB l (b ++ [j]) = m at *
        generalize exP l f b j = X at *
        generalize exP l f b (j + 1) = Y at *
        generalize grE l f (b ++ [j]) = Z at *
        clear ih hln hnx g0 gE gfl b2 b5
        cbv
        ((try simp only [IfP_iff, and_true, true_and, decide_eq_true_eq, decide_eq_false_iff_not]); (try simp only [natc, getI_gi, at2_0, at2_1]); (try dsimp only [Ty.den]); (try simp only [natc] at *); (repeat' (first | apply And.intro | intro _)))
        all_goals (repeat' (first | ((first | refine call_q so (by cbv) ?_ | refine call_pure so (by cbv) ?_); cbv; ((try simp only [IfP_iff, and_true, true_and, decide_eq_true_eq, decide_eq_false_iff_not]); (try simp only [natc, getI_gi, at2_0, at2_1]); (try dsimp only [Ty.den]); (try simp only [natc] at *); (repeat' (first | apply And.intro | intro _)))) | ((first | refine call_q sm (by cbv) ?_ | refine call_pure sm (by cbv) ?_); cbv; ((try simp only [IfP_iff, and_true, true_and, decide_eq_true_eq, decide_eq_false_iff_not]); (try simp only [natc, getI_gi, at2_0, at2_1]); (try dsimp only [Ty.den]); (try simp only [natc] at *); (repeat' (first | apply And.intro | intro _))))))
        all_goals (try ((try simp only [IfP_iff, and_true, true_and, decide_eq_true_eq, decide_eq_false_iff_not]); (try simp only [natc, getI_gi, at2_0, at2_1]); (try dsimp only [Ty.den]); (try simp only [natc] at *); (repeat' (first | apply And.intro | intro _))))
        all_goals (try (refine call_own 3 (sg (by assumption)) (by cbv) (by exact ⟨.inl rfl, .inr ⟨rfl, rfl⟩, .inl rfl, trivial⟩) ?_
                        cbv))
        all_goals (try ((try simp only [IfP_iff, and_true, true_and, decide_eq_true_eq, decide_eq_false_iff_not]); (try simp only [natc, getI_gi, at2_0, at2_1]); (try dsimp only [Ty.den]); (try simp only [natc] at *); (repeat' (first | apply And.intro | intro _))))
        all_goals (try (show Obl _; (simp only [IfP_iff, EqU_iff, Obl_iff, and_true, true_and, inI_iff, decide_eq_true_eq, decide_eq_false_iff_not]; (try simp only [natc, getI_gi, at2_0, at2_1]); (try dsimp only [Ty.den]); try simp only [natc] at *); ((repeat' (first | apply And.intro | intro _)) <;> first | omega | (simp only [List.length_cons, List.length_nil]; omega) | (have := b6 (by assumption); omega))))
        all_goals (first
          | (refine RenL.mk ⟨[0, 1, 2], ?_⟩
             cbv
             (simp only [IfP_iff, EqU_iff, Obl_iff, and_true, true_and, inI_iff, decide_eq_true_eq, decide_eq_false_iff_not]; (try simp only [natc, getI_gi, at2_0, at2_1]); (try dsimp only [Ty.den]); try simp only [natc] at *)
             first | exact c1 (by assumption) | exact c2 (by assumption))
          | (refine EndG.plain [0, 2] ?_
             cbv
             (simp only [IfP_iff, EqU_iff, Obl_iff, and_true, true_and, inI_iff, decide_eq_true_eq, decide_eq_false_iff_not]; (try simp only [natc, getI_gi, at2_0, at2_1]); (try dsimp only [Ty.den]); try simp only [natc] at *)
             exact b3 (by assumption))
          | (trace_state; fail))
    · refine loopX (by kernel_rfl) (fun j : Int => 0 ≤ j ∧ j ≤ l.length) (fun j => [(9, .int fun _ => j), (8, .ref 2), (17, .junk)]) (fun j => [(2, some (.rows 43 3 .int fun _ => exP l f b j))]) (fun j => (l.length - j).toNat) (· + 1) 0 (by omega) ?_ ?_
      · cbv
        (simp only [IfP_iff, EqU_iff, Obl_iff, and_true, true_and, inI_iff, decide_eq_true_eq, decide_eq_false_iff_not]; (try simp only [natc, getI_gi, at2_0, at2_1]); (try dsimp only [Ty.den]); try simp only [natc] at *)
        exact g0
      · intro j hj
        have j0 : 0 ≤ j := hj.1
        have b1 : (exP l f b j).length ≤ 614656 := hln j j0 hj.2
        have b2 := hnx j j0
        have b3 : ¬ j < (l.length : Int) → exP l f b j = G := fun h => by rw [← gE, show j = (l.length : Int) by omega]
        have sg := ih j
        have b5 := gfl j
        have c1 : matB l (b ++ [j]) = true → exP l f b j ++ grE l f (b ++ [j]) = exP l f b (j + 1) := fun h => by rw [b2, if_pos h]
        have c2 : matB l (b ++ [j]) = false → exP l f b j = exP l f b (j + 1) := fun h => by rw [b2, if_neg (by rw [h]; decide), List.append_nil]
        have sm := sp_matches n l (b ++ [j]) hl (by rw [List.length_append, List.length_cons, List.length_nil]; omega) hg
        have b6 := b5
        generalize matB l (b ++ [j]) = m at *
        generalize exP l f b j = X at *
        generalize exP l f b (j + 1) = Y at *
        generalize grE l f (b ++ [j]) = Z at *
        clear ih hln hnx g0 gE gfl b2 b5
        cbv
        ((try simp only [IfP_iff, and_true, true_and, decide_eq_true_eq, decide_eq_false_iff_not]); (try simp only [natc, getI_gi, at2_0, at2_1]); (try dsimp only [Ty.den]); (try simp only [natc] at *); (repeat' (first | apply And.intro | intro _)))
        all_goals (repeat' (first | ((first | refine call_q so (by cbv) ?_ | refine call_pure so (by cbv) ?_); cbv; ((try simp only [IfP_iff, and_true, true_and, decide_eq_true_eq, decide_eq_false_iff_not]); (try simp only [natc, getI_gi, at2_0, at2_1]); (try dsimp only [Ty.den]); (try simp only [natc] at *); (repeat' (first | apply And.intro | intro _)))) | ((first | refine call_q sm (by cbv) ?_ | refine call_pure sm (by cbv) ?_); cbv; ((try simp only [IfP_iff, and_true, true_and, decide_eq_true_eq, decide_eq_false_iff_not]); (try simp only [natc, getI_gi, at2_0, at2_1]); (try dsimp only [Ty.den]); (try simp only [natc] at *); (repeat' (first | apply And.intro | intro _))))))
        all_goals (try ((try simp only [IfP_iff, and_true, true_and, decide_eq_true_eq, decide_eq_false_iff_not]); (try simp only [natc, getI_gi, at2_0, at2_1]); (try dsimp only [Ty.den]); (try simp only [natc] at *); (repeat' (first | apply And.intro | intro _))))
        all_goals (try (refine call_own 3 (sg (by assumption)) (by cbv) (by exact ⟨.inl rfl, .inr ⟨rfl, rfl⟩, .inl rfl, trivial⟩) ?_
                        cbv))
        all_goals (try ((try simp only [IfP_iff, and_true, true_and, decide_eq_true_eq, decide_eq_false_iff_not]); (try simp only [natc, getI_gi, at2_0, at2_1]); (try dsimp only [Ty.den]); (try simp only [natc] at *); (repeat' (first | apply And.intro | intro _))))
        all_goals (try (show Obl _; (simp only [IfP_iff, EqU_iff, Obl_iff, and_true, true_and, inI_iff, decide_eq_true_eq, decide_eq_false_iff_not]; (try simp only [natc, getI_gi, at2_0, at2_1]); (try dsimp only [Ty.den]); try simp only [natc] at *); ((repeat' (first | apply And.intro | intro _)) <;> first | omega | (simp only [List.length_cons, List.length_nil]; omega) | (have := b6 (by assumption); omega))))
        all_goals (first
          | (refine RenL.mk ⟨[0, 1, 2], ?_⟩
             cbv
             (simp only [IfP_iff, EqU_iff, Obl_iff, and_true, true_and, inI_iff, decide_eq_true_eq, decide_eq_false_iff_not]; (try simp only [natc, getI_gi, at2_0, at2_1]); (try dsimp only [Ty.den]); try simp only [natc] at *)
             first | exact c1 (by assumption) | exact c2 (by assumption))
          | (refine EndG.plain [0, 2] ?_
             cbv
             (simp only [IfP_iff, EqU_iff, Obl_iff, and_true, true_and, inI_iff, decide_eq_true_eq, decide_eq_false_iff_not]; (try simp only [natc, getI_gi, at2_0, at2_1]); (try dsimp only [Ty.den]); try simp only [natc] at *)
             exact b3 (by assumption))
          | (trace_state; fail))
end Go.Proofs.Ytjkmgdhndbdhoaa.M
/- A row of rows becomes a row of the call's own; the rest is given up. -/
namespace Go.Proofs.Ytjkmgdhndbdhoaa.M
open Go.RowKit Abs
set_option linter.unusedSimpArgs false
set_option linter.unusedVariables false
set_option maxRecDepth 100000
set_option maxHeartbeats 4000000
def AS.pickB (S : AS) (x : Nat) : AS :=
  match S.tm[x]? with
  | some (.elem n i) => (match S.H[n]? with
    | some (some (.rows _ e2 t l)) => ⟨S.tm.set x (.ref S.H.length), dropC [n] S.H ++ [some (.row e2 t fun _ => getR t (l ()) (i ()))], S.k⟩
    | _ => S)
  | _ => S
theorem Rl.pickB {w0 w : World} {B : Nat → Prop} {hd : Nat → Value} {S : AS} {a : Act} {val : Nat → Bd} (hR : Rl w0 B hd S a w val) (x : Nat) : ∃ val', Rl w0 B hd (S.pickB x) a w val' := by
  unfold AS.pickB
  split
  case h_2 => exact ⟨val, hR⟩
  rename_i n i hx
  split
  case h_2 => exact ⟨val, hR⟩
  rename_i e e2 t l hH
  have hxt := hR.tmps x
  rw [List.getD_eq_getElem?_getD, hx] at hxt
  simp only [Option.getD_some, VRel] at hxt
  generalize hu : a.tmps.getD x undef = u at hxt
  obtain ⟨hnN, hi0, hi1⟩ := hxt
  obtain ⟨k1, k2, k3, k4⟩ := hR.heap.blk n _ hH
  have hhs : (val n).hs.length = (l ()).length := by have := k1.1; simpa using this
  have hlt : (i ()).toNat < (l ()).length := by rw [← hhs]; exact (List.getElem?_eq_some_iff.1 hi1).1
  obtain ⟨h', xs, m1, m2, m3⟩ := k2 _ _ (getR_get (i := i ()) hi0 (by omega))
  rw [hi1] at m1
  cases m1
  have inF : ∀ g, ownB u = some g → g ∈ (val n).F := fun g hg => (k3 g).2 (.inr ⟨u, List.mem_of_getElem? hi1, hg⟩)
  have hlen : (dropC [n] S.H ++ [some (Blk.row e2 t fun _ => getR t (l ()) (i ()))]).length = S.H.length + 1 := by rw [List.length_append, dropC_len]; rfl
  have get : ∀ {j : Nat} {X : Blk}, (dropC [n] S.H ++ [some (Blk.row e2 t fun _ => getR t (l ()) (i ()))])[j]? = some (some X) → (j < S.H.length ∧ j ≠ n ∧ S.H[j]? = some (some X)) ∨ (j = S.H.length ∧ X = Blk.row e2 t fun _ => getR t (l ()) (i ())) := fun {j X} h => by
    by_cases hj : j < S.H.length
    · rw [List.getElem?_append_left (by rw [dropC_len]; exact hj)] at h
      obtain ⟨c1, c2⟩ := dropC_get h
      exact .inl ⟨hj, fun e => c1 (by simp [e]), c2⟩
    · rw [List.getElem?_append_right (by rw [dropC_len]; omega), dropC_len] at h
      by_cases he : j = S.H.length
      · rw [he, Nat.sub_self] at h
        refine .inr ⟨he, ?_⟩
        simpa using h.symm
      · rw [List.getElem?_eq_none (by simp; omega)] at h
        cases h
  refine ⟨fun j => if j = S.H.length then ⟨u, [], (ownB u).toList⟩ else val j, ?_⟩
  have hok : ∀ g, okF S.H val g → okF (dropC [n] S.H ++ [some (Blk.row e2 t fun _ => getR t (l ()) (i ()))]) (fun j => if j = S.H.length then ⟨u, [], (ownB u).toList⟩ else val j) g := fun g hk m X hX => by
    rcases get hX with ⟨g1, _, g3⟩ | ⟨g1, _⟩
    · simp only [if_neg (show ¬ m = S.H.length by omega)]
      exact hk m X g3
    · simp only [if_pos g1]
      intro hg
      exact hk n _ hH (inF g (by simpa using hg))
  have K : Keep0 (okF S.H val) (okF (dropC [n] S.H ++ [some (Blk.row e2 t fun _ => getR t (l ()) (i ()))]) (fun j => if j = S.H.length then ⟨u, [], (ownB u).toList⟩ else val j)) w w S.H.length (dropC [n] S.H ++ [some (Blk.row e2 t fun _ => getR t (l ()) (i ()))]).length val (fun j => if j = S.H.length then ⟨u, [], (ownB u).toList⟩ else val j) :=
    ⟨Nat.le_refl _, fun g hk _ => ⟨hok g hk, rfl⟩, by rw [hlen]; omega, fun m hm => by rw [if_neg (by omega)], fun m hm => by rw [if_neg (by omega)]⟩
  refine ⟨hR.fr, by simpa using hR.len, hR.defers, fun y => ?_, ⟨fun m X hX => ?_, fun m X hX => ?_, fun m k X Y hne hX hY => ?_⟩, fun m X hX => ?_, fun m hm => ?_, ?_⟩
  · by_cases hy : y = x
    · subst hy
      have e : (S.tm.set y (.ref S.H.length)).getD y .undef = .ref S.H.length := by
        rw [List.getD_eq_getElem?_getD, List.getElem?_set_self (List.getElem?_eq_some_iff.1 hx).1]
        rfl
      simp only [e, VRel, hu, ↓reduceIte]
      exact ⟨by rw [hlen]; omega, trivial⟩
    · have e : (S.tm.set x (.ref S.H.length)).getD y .undef = S.tm.getD y .undef := by
        rw [List.getD_eq_getElem?_getD, List.getD_eq_getElem?_getD, List.getElem?_set_ne (Ne.symm hy)]
      simp only [e]
      exact (hR.tmps y).keep K
  · rcases get hX with ⟨g1, _, g3⟩ | ⟨g1, g2⟩
    · have := (hR.heap.blk m X g3).keep K fun _ _ => rfl
      simp only [if_neg (show ¬ m = S.H.length by omega)]
      exact this
    · subst g2
      simp only [if_pos g1]
      exact ⟨xs, m2, repL_keep K.size K.ok m3, rfl⟩
  · rcases get hX with ⟨g1, _, g3⟩ | ⟨g1, _⟩
    · simp only [if_neg (show ¬ m = S.H.length by omega)]
      exact hR.heap.lt m X g3
    · simp only [if_pos g1]
      exact fun g hg => hR.heap.lt n _ hH g (inF g (by simpa using hg))
  · rcases get hX with ⟨g1, g1n, g3⟩ | ⟨g1, _⟩ <;> rcases get hY with ⟨h1, h1n, h3⟩ | ⟨h1, _⟩
    · simp only [if_neg (show ¬ m = S.H.length by omega), if_neg (show ¬ k = S.H.length by omega)]
      exact hR.heap.apart m k X Y hne g3 h3
    · simp only [if_neg (show ¬ m = S.H.length by omega), if_pos h1]
      exact fun g hg hg2 => hR.heap.apart m n X _ g1n g3 hH g hg (inF g (by simpa using hg2))
    · simp only [if_pos g1, if_neg (show ¬ k = S.H.length by omega)]
      exact fun g hg hg2 => hR.heap.apart n k _ Y (Ne.symm h1n) hH h3 g (inF g (by simpa using hg)) hg2
    · exact absurd (g1.trans h1.symm) hne
  · rcases get hX with ⟨g1, _, g3⟩ | ⟨g1, _⟩
    · simp only [if_neg (show ¬ m = S.H.length by omega)]
      exact hR.own m X g3
    · simp only [if_pos g1]
      exact fun g hg => hR.own n _ hH g (inF g (by simpa using hg))
  · have h1 := hR.kle
    have h2 : m < S.k := hm
    simp only [if_neg (show ¬ m = S.H.length by omega)]
    exact hR.kept m hm
  · have := hR.kle
    show S.k ≤ (dropC [n] S.H ++ [some (Blk.row e2 t fun _ => getR t (l ()) (i ()))]).length
    omega
theorem DrawL.pickB {S : AS} {Q : AX → AS → Prop} {id : Nat} {ops : Array Oper} {d : Bool} (x : Nat) (h : DrawL (fun _ => Try.prog) (fun _ => tab) id ops d Q (S.pickB x)) : DrawL (fun _ => Try.prog) (fun _ => tab) id ops d Q S :=
  ⟨fun w0 B hd a w val hR => by
    obtain ⟨val', hR'⟩ := hR.pickB x
    exact h.out w0 B hd a w val' hR'⟩
end Go.Proofs.Ytjkmgdhndbdhoaa.M
/- LargestMatching: both sides. -/
namespace Go.Proofs.Ytjkmgdhndbdhoaa.M
open Go.RowKit Abs
set_option linter.unusedSimpArgs false
set_option linter.unusedVariables false
set_option maxRecDepth 100000
set_option maxHeartbeats 4000000
def lgN (l : List (Int × Int)) : Nat → List Int
  | 0 => []
  | j + 1 => if 0 < (grE l (j + 1) []).length then getR .int (grE l (j + 1) []) 0 else lgN l j
def lgP (l : List (Int × Int)) (k : Int) : List Int := lgN l k.toNat
theorem lgP_next {l : List (Int × Int)} {k : Int} (h0 : 1 ≤ k) : lgP l k = if 0 < ((grE l k.toNat []).length : Int) then getR .int (grE l k.toNat []) 0 else lgP l (k - 1) := by
  unfold lgP
  obtain ⟨j, hj⟩ : ∃ j : Nat, k.toNat = j + 1 := ⟨k.toNat - 1, by omega⟩
  rw [hj, show (k - 1).toNat = j by omega]
  show (if 0 < (grE l (j + 1) []).length then getR .int (grE l (j + 1) []) 0 else lgN l j) = _
  by_cases h : 0 < (grE l (j + 1) []).length
  · rw [if_pos h, if_pos (by omega)]
  · rw [if_neg h, if_neg (by omega)]
theorem lgN_len {l : List (Int × Int)} : ∀ k : Nat, (lgN l k).length ≤ k
  | 0 => Nat.le_refl _
  | j + 1 => by
    have ih := lgN_len (l := l) j
    show (if 0 < (grE l (j + 1) []).length then getR .int (grE l (j + 1) []) 0 else lgN l j).length ≤ _
    split
    · rename_i h
      have hm := List.mem_of_getElem? (getR_get (t := .int) (l := grE l (j + 1) []) (i := 0) (Int.le_refl 0) (by omega))
      have := (grE_mem _ [] _ (by rfl) hm).2
      rw [List.length_nil] at this
      omega
    · omega
def lgR (n : Int) (l : List (Int × Int)) : List Int := if graphOk n l = true then lgP l (n.tdiv 2) else []
theorem lgR_len (n : Int) (l : List (Int × Int)) : (lgR n l).length ≤ 1048576 := by
  unfold lgR
  split
  · rename_i h
    have hn := (graph_edges h).1
    have := lgN_len (l := l) (n.tdiv 2).toNat
    have e : n.tdiv 2 = n / 2 := Int.tdiv_eq_ediv_of_nonneg hn.1
    unfold lgP
    omega
  · simp
theorem im_largest (n : Int) (l : List (Int × Int)) (hl : l.length ≤ 1048576) : Spec2 Try.prog 21 [.agg (.pr .int (.sl (.pr .int .int))) fun _ => (n, l)] [] [.ref 0, .bool fun _ => graphOk n l] [some (.row 3 .int fun _ => lgR n l)] := by
  have hq := im_graph n l hl
  have h2 : lgR n l = _ := rfl
  conv at h2 => rhs; unfold lgR
  cases hb : graphOk n l with
  | false =>
    rw [hb, if_neg (by decide)] at h2
    rw [hb] at hq
    rw [h2]
    refine fnS [1] [2, 3] Try.func21 rfl (by decide) rfl (by decide) (by kernel_rfl) rfl (by simp [Try.ntmps21]) ?_
    cbv
    ((try simp only [IfP_iff, and_true, true_and, decide_eq_true_eq, decide_eq_false_iff_not]); (try simp only [natc, getI_gi, at2_0, at2_1]); (try dsimp only [Ty.den]); (try simp only [natc] at *); (repeat' (first | apply And.intro | intro _)))
    all_goals (repeat' (first | ((first | refine call_q hq (by cbv) ?_ | refine call_pure hq (by cbv) ?_); cbv; ((try simp only [IfP_iff, and_true, true_and, decide_eq_true_eq, decide_eq_false_iff_not]); (try simp only [natc, getI_gi, at2_0, at2_1]); (try dsimp only [Ty.den]); (try simp only [natc] at *); (repeat' (first | apply And.intro | intro _))))))
    all_goals (try (exact absurd (by assumption : (!false) = false) (by decide)))
    all_goals (try (simp only [IfP_iff, EqU_iff, Obl_iff, and_true, true_and, inI_iff, decide_eq_true_eq, decide_eq_false_iff_not]; (try simp only [natc, getI_gi, at2_0, at2_1]); (try dsimp only [Ty.den]); try simp only [natc] at *))
    all_goals (first | exact ⟨rfl, rfl⟩ | rfl | trace_state)
  | true =>
    rw [hb, if_pos rfl] at h2
    rw [hb] at hq
    rw [h2]
    have hn := (graph_edges hb).1
    have e1 : n.tdiv 2 = n / 2 := Int.tdiv_eq_ediv_of_nonneg hn.1
    refine fnGE [6] [.tmp 2, .tmp 3] Try.func21 rfl (by decide) rfl (by kernel_rfl) (.inr (.inl rfl)) (by kernel_rfl) (Nat.zero_le _) (by simp [Try.ntmps21]) ?_
    cbv
    ((try simp only [IfP_iff, and_true, true_and, decide_eq_true_eq, decide_eq_false_iff_not]); (try simp only [natc, getI_gi, at2_0, at2_1]); (try dsimp only [Ty.den]); (try simp only [natc] at *); (repeat' (first | apply And.intro | intro _)))
    all_goals (repeat' (first | ((first | refine call_q hq (by cbv) ?_ | refine call_pure hq (by cbv) ?_); cbv; ((try simp only [IfP_iff, and_true, true_and, decide_eq_true_eq, decide_eq_false_iff_not]); (try simp only [natc, getI_gi, at2_0, at2_1]); (try dsimp only [Ty.den]); (try simp only [natc] at *); (repeat' (first | apply And.intro | intro _))))))
    all_goals (try (exact absurd (by assumption : (!true) = true) (by decide)))
    refine loopXE [6] (by kernel_rfl) (fun k : Int => 1 ≤ k ∧ 2 * (k - 1) ≤ n) (fun k => [(5, .int fun _ => k), (4, .ref 1), (11, .junk)]) (fun k => [(1, some (.row 3 .int fun _ => lgP l (k - 1)))]) (fun k => (n - k).toNat) (· + 1) 1 (by omega) ?_ ?_
    · cbv
      (simp only [IfP_iff, EqU_iff, Obl_iff, and_true, true_and, inI_iff, decide_eq_true_eq, decide_eq_false_iff_not]; (try simp only [natc, getI_gi, at2_0, at2_1]); (try dsimp only [Ty.den]); try simp only [natc] at *)
      rfl
    · intro k hk
      have b1 := lgP_next (l := l) hk.1
      have b2 : ¬ 2 * k ≤ n → lgP l (k - 1) = lgP l (n.tdiv 2) := fun h => by rw [show k - 1 = n.tdiv 2 by omega]
      have s1 : 2 * k ≤ n → Spec2 Try.prog 30 [.ifr 54 fun _ => ofBound [.cells [.int fun _ => n, .sl (.pr .int .int) fun _ => l]], .int fun _ => k] [] [.ref 0] [some (.rows 43 3 .int fun _ => grE l k.toNat [])] := fun h => im_fitListsM n k l hb (by omega) (by omega)
      have b3 : 0 < ((grE l k.toNat []).length : Int) → getR .int (grE l k.toNat []) 0 = lgP l (k + 1 - 1) := fun h => by rw [show k + 1 - 1 = k by omega, b1, if_pos h]
      have b4 : ¬ 0 < ((grE l k.toNat []).length : Int) → lgP l (k - 1) = lgP l (k + 1 - 1) := fun h => by rw [show k + 1 - 1 = k by omega, b1, if_neg h]
      have b5 : -9223372036854775808 ≤ 2 * k ∧ 2 * k ≤ 9223372036854775807 := by omega
      have b6 : 2 * k ≤ n → (1 ≤ k + 1 ∧ 2 * (k + 1 - 1) ≤ n) ∧ (n - (k + 1)).toNat < (n - k).toNat := fun h => by omega
      generalize lgP l (k - 1) = X at *
      generalize lgP l (k + 1 - 1) = Y at *
      generalize grE l k.toNat [] = R at *
      clear b1
      cbv
      ((try simp only [IfP_iff, and_true, true_and, decide_eq_true_eq, decide_eq_false_iff_not]); (try simp only [natc, getI_gi, at2_0, at2_1]); (try dsimp only [Ty.den]); (try simp only [natc] at *); (repeat' (first | apply And.intro | intro _)))
      all_goals (repeat' (first | ((first | refine call_q (s1 (by assumption)) (by cbv) ?_ | refine call_pure (s1 (by assumption)) (by cbv) ?_); cbv; ((try simp only [IfP_iff, and_true, true_and, decide_eq_true_eq, decide_eq_false_iff_not]); (try simp only [natc, getI_gi, at2_0, at2_1]); (try dsimp only [Ty.den]); (try simp only [natc] at *); (repeat' (first | apply And.intro | intro _))))))
      all_goals (try ((try simp only [IfP_iff, and_true, true_and, decide_eq_true_eq, decide_eq_false_iff_not]); (try simp only [natc, getI_gi, at2_0, at2_1]); (try dsimp only [Ty.den]); (try simp only [natc] at *); (repeat' (first | apply And.intro | intro _))))
      all_goals (try (show Obl _; (simp only [IfP_iff, EqU_iff, Obl_iff, and_true, true_and, inI_iff, decide_eq_true_eq, decide_eq_false_iff_not]; (try simp only [natc, getI_gi, at2_0, at2_1]); (try dsimp only [Ty.den]); try simp only [natc] at *); ((repeat' (first | apply And.intro | intro _)) <;> first | omega | exact b5)))
      · refine DrawL.pickB 4 ?_
        refine DrawL.seqZ [] ?_
        cbv
        ((try simp only [IfP_iff, and_true, true_and, decide_eq_true_eq, decide_eq_false_iff_not]); (try simp only [natc, getI_gi, at2_0, at2_1]); (try dsimp only [Ty.den]); (try simp only [natc] at *); (repeat' (first | apply And.intro | intro _)))
        all_goals (try (show Obl _; (simp only [IfP_iff, EqU_iff, Obl_iff, and_true, true_and, inI_iff, decide_eq_true_eq, decide_eq_false_iff_not]; (try simp only [natc, getI_gi, at2_0, at2_1]); (try dsimp only [Ty.den]); try simp only [natc] at *); ((repeat' (first | apply And.intro | intro _)) <;> first | omega | (have := b6 (by assumption); omega))))
        refine RenL.mk ⟨[0, 3], ?_⟩
        cbv
        (simp only [IfP_iff, EqU_iff, Obl_iff, and_true, true_and, inI_iff, decide_eq_true_eq, decide_eq_false_iff_not]; (try simp only [natc, getI_gi, at2_0, at2_1]); (try dsimp only [Ty.den]); try simp only [natc] at *)
        exact b3 (by assumption)
      · refine DrawL.seqZ [] ?_
        cbv
        ((try simp only [IfP_iff, and_true, true_and, decide_eq_true_eq, decide_eq_false_iff_not]); (try simp only [natc, getI_gi, at2_0, at2_1]); (try dsimp only [Ty.den]); (try simp only [natc] at *); (repeat' (first | apply And.intro | intro _)))
        all_goals (try (show Obl _; (simp only [IfP_iff, EqU_iff, Obl_iff, and_true, true_and, inI_iff, decide_eq_true_eq, decide_eq_false_iff_not]; (try simp only [natc, getI_gi, at2_0, at2_1]); (try dsimp only [Ty.den]); try simp only [natc] at *); ((repeat' (first | apply And.intro | intro _)) <;> first | omega | (have := b6 (by assumption); omega))))
        refine RenL.mk ⟨[0, 1], ?_⟩
        cbv
        (simp only [IfP_iff, EqU_iff, Obl_iff, and_true, true_and, inI_iff, decide_eq_true_eq, decide_eq_false_iff_not]; (try simp only [natc, getI_gi, at2_0, at2_1]); (try dsimp only [Ty.den]); try simp only [natc] at *)
        exact b4 (by assumption)
      · refine EndG.plain [1] ?_
        cbv
        (simp only [IfP_iff, EqU_iff, Obl_iff, and_true, true_and, inI_iff, decide_eq_true_eq, decide_eq_false_iff_not]; (try simp only [natc, getI_gi, at2_0, at2_1]); (try dsimp only [Ty.den]); try simp only [natc] at *)
        exact b2 (by assumption)
theorem sp_largestT (n : Int) (l : List (Int × Int)) (hl : l.length ≤ 1048576) (hb : graphOk n l = true) : ∃ R : List (List Int), getR .int R 0 = lgP l (n.tdiv 2) ∧ Spec2 Try.prog 20 [.agg (.pr .int (.sl (.pr .int .int))) fun _ => (n, l)] [] [.elem 0 fun _ => 0, .bool fun _ => true] [some (.rows 43 3 .int fun _ => R)] := by
  have hn := (graph_edges hb).1
  have e1 : n.tdiv 2 = n / 2 := Int.tdiv_eq_ediv_of_nonneg hn.1
  have hq := sp_good n l hl
  rw [hb] at hq
  -- the greatest number of edges for which there is a matching
  have ex : ∀ m : Nat, ∃ g : Nat, g ≤ m ∧ 0 < (grE l g []).length ∧ (∀ j : Nat, g < j → j ≤ m → (grE l j []).length = 0) ∧ lgN l m = getR .int (grE l g []) 0 := fun m => by
    induction m with
    | zero => exact ⟨0, Nat.le_refl _, by simp [grE], fun j a c => by omega, rfl⟩
    | succ m ih =>
      by_cases h : 0 < (grE l (m + 1) []).length
      · refine ⟨m + 1, Nat.le_refl _, h, fun j a c => by omega, ?_⟩
        show (if 0 < (grE l (m + 1) []).length then getR .int (grE l (m + 1) []) 0 else lgN l m) = _
        rw [if_pos h]
      · obtain ⟨g, g1, g2, g3, g4⟩ := ih
        refine ⟨g, by omega, g2, fun j a c => ?_, ?_⟩
        · by_cases hj : j = m + 1
          · rw [hj]; omega
          · exact g3 j a (by omega)
        · show (if 0 < (grE l (m + 1) []).length then getR .int (grE l (m + 1) []) 0 else lgN l m) = _
          rw [if_neg h, g4]
  obtain ⟨g, g1, g2, g3, g4⟩ := ex (n.tdiv 2).toNat
  refine ⟨grE l g [], g4.symm, ?_⟩
  have s1 : ∀ k : Int, 0 ≤ k → k ≤ 8 → Spec2 Try.prog 34 [.agg (.pr .int (.sl (.pr .int .int))) fun _ => (n, l), .ref 0, .int fun _ => k] [some (.row 3 .int fun _ => [])] [.ref 1] [none, some (.rows 43 3 .int fun _ => grE l k.toNat [])] := fun k a c => sp_extendM n l hl hb k.toNat [] k (by simp only [List.length_nil]; omega) c (by rfl)
  have i2 : inI (n.tdiv 2) := inI_iff.2 (by omega)
  refine fnS [4] [2, 3] Try.func20 rfl (by decide) rfl (by decide) (by kernel_rfl) rfl (by simp [Try.ntmps20]) ?_
  cbv
  ((try simp only [IfP_iff, and_true, true_and, decide_eq_true_eq, decide_eq_false_iff_not]); (try simp only [natc, getI_gi, at2_0, at2_1]); (try dsimp only [Ty.den]); (try simp only [natc] at *); (repeat' (first | apply And.intro | intro _)))
  all_goals (repeat' (first | ((first | refine call_q hq (by cbv) ?_ | refine call_pure hq (by cbv) ?_); cbv; ((try simp only [IfP_iff, and_true, true_and, decide_eq_true_eq, decide_eq_false_iff_not]); (try simp only [natc, getI_gi, at2_0, at2_1]); (try dsimp only [Ty.den]); (try simp only [natc] at *); (repeat' (first | apply And.intro | intro _))))))
  all_goals (try (exact absurd (by assumption : (!true) = true) (by decide)))
  all_goals (try (show Obl _; (simp only [IfP_iff, EqU_iff, Obl_iff, and_true, true_and, inI_iff, decide_eq_true_eq, decide_eq_false_iff_not]; (try simp only [natc, getI_gi, at2_0, at2_1]); (try dsimp only [Ty.den]); try simp only [natc] at *); ((repeat' (first | apply And.intro | intro _)) <;> first | omega | exact inI_iff.1 i2 | decide)))
  refine loopX (by kernel_rfl) (fun k : Int => (g : Int) ≤ k ∧ k ≤ n.tdiv 2) (fun k => [(4, .int fun _ => k)]) (fun _ => []) (fun k => k.toNat) (· - 1) (n.tdiv 2) (by omega) ?_ ?_
  · cbv
    (simp only [IfP_iff, EqU_iff, Obl_iff, and_true, true_and, inI_iff, decide_eq_true_eq, decide_eq_false_iff_not]; (try simp only [natc, getI_gi, at2_0, at2_1]); (try dsimp only [Ty.den]); try simp only [natc] at *)
  · intro k hk
    have k0 : 0 ≤ k := by omega
    have sk := s1 k k0 (by omega)
    have b1 : ((grE l k.toNat []).length : Int) = 0 → ((g : Int) ≤ k - 1 ∧ k - 1 ≤ n.tdiv 2) ∧ (k - 1).toNat < k.toNat := fun h => by
      have : k.toNat ≠ g := fun e => by rw [e] at h; omega
      omega
    have b2 : ¬ ((grE l k.toNat []).length : Int) = 0 → grE l k.toNat [] = grE l g [] := fun h => by
      by_cases hg : g < k.toNat
      · have := g3 k.toNat hg (by omega)
        omega
      · rw [show k.toNat = g by omega]
    have b3 : -9223372036854775808 ≤ k - 1 ∧ k - 1 ≤ 9223372036854775807 := by omega
    generalize grE l k.toNat [] = R at *
    clear s1 ex g3 g4
    generalize grE l g [] = W at *
    cbv
    ((try simp only [IfP_iff, and_true, true_and, decide_eq_true_eq, decide_eq_false_iff_not]); (try simp only [natc, getI_gi, at2_0, at2_1]); (try dsimp only [Ty.den]); (try simp only [natc] at *); (repeat' (first | apply And.intro | intro _)))
    all_goals (try (refine call_own 1 sk (by cbv) (by exact ⟨.inl rfl, .inr ⟨rfl, rfl⟩, .inl rfl, trivial⟩) ?_
                    cbv))
    all_goals (try ((try simp only [IfP_iff, and_true, true_and, decide_eq_true_eq, decide_eq_false_iff_not]); (try simp only [natc, getI_gi, at2_0, at2_1]); (try dsimp only [Ty.den]); (try simp only [natc] at *); (repeat' (first | apply And.intro | intro _))))
    all_goals (try (refine call_own 3 sk (by cbv) (by exact ⟨.inl rfl, .inr ⟨rfl, rfl⟩, .inl rfl, trivial⟩) ?_
                    cbv))
    all_goals (try ((try simp only [IfP_iff, and_true, true_and, decide_eq_true_eq, decide_eq_false_iff_not]); (try simp only [natc, getI_gi, at2_0, at2_1]); (try dsimp only [Ty.den]); (try simp only [natc] at *); (repeat' (first | apply And.intro | intro _))))
    all_goals (try (show Obl _; (simp only [IfP_iff, EqU_iff, Obl_iff, and_true, true_and, inI_iff, decide_eq_true_eq, decide_eq_false_iff_not]; (try simp only [natc, getI_gi, at2_0, at2_1]); (try dsimp only [Ty.den]); try simp only [natc] at *); ((repeat' (first | apply And.intro | intro _)) <;> first | omega | exact b3 | exact b1 (by assumption))))
    all_goals (first
      | ((simp only [IfP_iff, EqU_iff, Obl_iff, and_true, true_and, inI_iff, decide_eq_true_eq, decide_eq_false_iff_not]; (try simp only [natc, getI_gi, at2_0, at2_1]); (try dsimp only [Ty.den]); try simp only [natc] at *); done)
      | (refine RenL.mk ⟨[0], ?_⟩
         cbv
         done)
      | (refine RenL.mk ⟨[0], ?_⟩
         cbv
         (simp only [IfP_iff, EqU_iff, Obl_iff, and_true, true_and, inI_iff, decide_eq_true_eq, decide_eq_false_iff_not]; (try simp only [natc, getI_gi, at2_0, at2_1]); (try dsimp only [Ty.den]); try simp only [natc] at *)
         done)
      | ((simp only [IfP_iff, EqU_iff, Obl_iff, and_true, true_and, inI_iff, decide_eq_true_eq, decide_eq_false_iff_not]; (try simp only [natc, getI_gi, at2_0, at2_1]); (try dsimp only [Ty.den]); try simp only [natc] at *)
         have h2 := b2 (by assumption)
         rw [h2]
         first | exact ⟨by omega, by omega⟩ | omega | rfl | trace_state)
      | ((simp only [IfP_iff, EqU_iff, Obl_iff, and_true, true_and, inI_iff, decide_eq_true_eq, decide_eq_false_iff_not]; (try simp only [natc, getI_gi, at2_0, at2_1]); (try dsimp only [Ty.den]); try simp only [natc] at *)
         exact b2 (by assumption))
      | ((simp only [IfP_iff, EqU_iff, Obl_iff, and_true, true_and, inI_iff, decide_eq_true_eq, decide_eq_false_iff_not]; (try simp only [natc, getI_gi, at2_0, at2_1]); (try dsimp only [Ty.den]); try simp only [natc] at *)
         (repeat' (first | apply And.intro | intro _)) <;> first | omega | exact b2 (by assumption) | (have h2 := b2 (by assumption); rw [h2]; omega) | trace_state))
theorem sp_largest (n : Int) (l : List (Int × Int)) (hl : l.length ≤ 1048576) : Spec2 Try.prog 20 [.agg (.pr .int (.sl (.pr .int .int))) fun _ => (n, l)] [] [.ref 0, .bool fun _ => graphOk n l] [some (.row 3 .int fun _ => lgR n l)] := by
  have hq := sp_good n l hl
  have h2 : lgR n l = _ := rfl
  conv at h2 => rhs; unfold lgR
  cases hb : graphOk n l with
  | false =>
    rw [hb, if_neg (by decide)] at h2
    rw [hb] at hq
    rw [h2]
    refine fnS [1] [2, 3] Try.func20 rfl (by decide) rfl (by decide) (by kernel_rfl) rfl (by simp [Try.ntmps20]) ?_
    cbv
    ((try simp only [IfP_iff, and_true, true_and, decide_eq_true_eq, decide_eq_false_iff_not]); (try simp only [natc, getI_gi, at2_0, at2_1]); (try dsimp only [Ty.den]); (try simp only [natc] at *); (repeat' (first | apply And.intro | intro _)))
    all_goals (repeat' (first | ((first | refine call_q hq (by cbv) ?_ | refine call_pure hq (by cbv) ?_); cbv; ((try simp only [IfP_iff, and_true, true_and, decide_eq_true_eq, decide_eq_false_iff_not]); (try simp only [natc, getI_gi, at2_0, at2_1]); (try dsimp only [Ty.den]); (try simp only [natc] at *); (repeat' (first | apply And.intro | intro _))))))
    all_goals (try (exact absurd (by assumption : (!false) = false) (by decide)))
    all_goals (try (simp only [IfP_iff, EqU_iff, Obl_iff, and_true, true_and, inI_iff, decide_eq_true_eq, decide_eq_false_iff_not]; (try simp only [natc, getI_gi, at2_0, at2_1]); (try dsimp only [Ty.den]); try simp only [natc] at *))
    all_goals (first | exact ⟨rfl, rfl⟩ | rfl | trace_state)
  | true =>
    rw [hb, if_pos rfl] at h2
    obtain ⟨R, r1, r2⟩ := sp_largestT n l hl hb
    have h := r2.pick
    simp only [r1, ← h2] at h
    exact h
end Go.Proofs.Ytjkmgdhndbdhoaa.M
