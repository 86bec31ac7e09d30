/- Xa, Xb, Xc, Xd, Xe, in one text. -/
import Derived.Test.YtjkmgdhndbdhoaaQh
import Derived.Test.YtjkmgdhndbdhoaaQg
import Derived.Test.YtjkmgdhndbdhoaaJgQ
import Derived.Test.YtjkmgdhndbdhoaaQk
import Derived.Test.YtjkmgdhndbdhoaaOlQ
/- Matchings of any number of edges: the program's lists. -/
namespace Go.Proofs.Ytjkmgdhndbdhoaa.M
open Go.RowKit Abs
set_option linter.unusedSimpArgs false
set_option linter.unusedVariables false
set_option maxRecDepth 100000
set_option maxHeartbeats 4000000
theorem mat_ch {l : List (Int × Int)} {b : List Int} {x : Int} (h : matB l b = true) (hx : x ∈ chE l b) : matB l (b ++ [x]) = true := by
  rw [← chE_spec h] at hx
  exact (pref_mem.1 hx).2.2
theorem grE_cap {n : Int} {l : List (Int × Int)} {b : List Int} (hg : graphOk n l = true) (h : matB l b = true) (f : Nat) : (grE l f b).length ≤ 614656 := by
  cases hs : grE l f b with
  | nil => simp
  | cons s r =>
    have m := grE_mem f b s h (by rw [hs]; simp)
    have z := mat_size hg m.1
    have hn := (graph_edges hg).1
    have h1 := grE_28 (graph_28 hg) f b
    have h2 : 28 ^ f ≤ 28 ^ 4 := Nat.pow_le_pow_right (by decide) (by omega)
    rw [hs] at h1
    omega
theorem grEP_cap {n : Int} {l : List (Int × Int)} {b : List Int} (hg : graphOk n l = true) (h : matB l b = true) (f : Nat) (j : Nat) : (grEP l f b j).length ≤ 614656 := by
  have a := grE_cap hg h (f + 1)
  have e : grE l (f + 1) b = grEP l f b j ++ ((chE l b).drop j).flatMap fun x => grE l f (b ++ [x]) := by
    unfold grEP
    rw [← List.flatMap_append, List.take_append_drop]
    rfl
  rw [e, List.length_append] at a
  omega
theorem exP_mono {l : List (Int × Int)} {f : Nat} {b : List Int} {j : Int} (j0 : 0 ≤ j) : ∀ d : Nat, (exP l f b j).length ≤ (exP l f b (j + d)).length
  | 0 => by rw [show j + ((0 : Nat) : Int) = j by omega]; exact Nat.le_refl _
  | d + 1 => by
    have := exP_mono (l := l) (f := f) (b := b) j0 d
    rw [show j + ((d + 1 : Nat) : Int) = j + d + 1 by omega, exP_next (by omega), List.length_append]
    omega
theorem exP_cap {n : Int} {l : List (Int × Int)} {b : List Int} (hg : graphOk n l = true) (h : matB l b = true) (f : Nat) {j : Int} (j0 : 0 ≤ j) (j1 : j ≤ l.length) : (exP l f b j).length ≤ 614656 := by
  have a := exP_mono (l := l) (f := f) (b := b) j0 (l.length - j).toNat
  rw [show j + (((l.length - j : Int).toNat : Nat) : Int) = l.length by omega, exP_all h] at a
  have := grE_cap hg h (f + 1)
  omega
theorem im_grownM (n : Int) (l : List (Int × Int)) (hg : graphOk n l = true) : ∀ (f : Nat) (b : List Int) (k : Int), (b.length : Int) + f = k → k ≤ 8 → matB l b = true → Spec2 Try.prog 43 [.ifr 68 fun _ => ofBound [.cells [.ifr 54 fun _ => ofBound [.cells [.int fun _ => n, .sl (.pr .int .int) fun _ => l]], .int fun _ => k]], .ref 0, .sl .int fun _ => b] [some (.row 3 .int fun _ => b)] [.ref 1] [none, some (.rows 43 3 .int fun _ => grE l f b)]
  | 0, b, k, hk, h5, hx => by
    have hl : b.length ≤ 1048576 := by omega
    have e1 : decide ((b.length : Int) = k) = true := by rw [decide_eq_true_eq]; omega
    have s1 := im_isWholeE n k l b hl
    rw [e1] at s1
    have e2 : [b] = grE l 0 b := rfl
    generalize grE l 0 b = G at *
    refine fnG [.tmp 6] Try.func43 rfl (by decide) rfl (by kernel_rfl) (.inl rfl) (by kernel_rfl) (by simp) (by simp [Try.ntmps43]) ?_
    cbv
    ((first | refine call_iq (by kernel_rfl) rfl s1 (by cbv) ?_ | refine call_i (by kernel_rfl) rfl s1 (by cbv) ?_); cbv; ((try simp only [IfP_iff, and_true, true_and, decide_eq_true_eq, decide_eq_false_iff_not]); (try simp only [natc, getI_gi, at2_0, at2_1]); (try dsimp only [Ty.den]); (try simp only [natc] at *); (repeat' (first | apply And.intro | intro _))))
    ((try simp only [IfP_iff, and_true, true_and, decide_eq_true_eq, decide_eq_false_iff_not]); (try simp only [natc, getI_gi, at2_0, at2_1]); (try dsimp only [Ty.den]); (try simp only [natc] at *); (repeat' (first | apply And.intro | intro _)))
    all_goals (first
      | (exfalso; simp_all; done)
      | (refine EndG.plain [0, 1] ?_
         cbv
         (simp only [IfP_iff, EqU_iff, Obl_iff, and_true, true_and, inI_iff, decide_eq_true_eq, decide_eq_false_iff_not]; (try simp only [natc, getI_gi, at2_0, at2_1]); (try dsimp only [Ty.den]); try simp only [natc] at *)
         exact e2)
      | trace_state)
  | f + 1, b, k, hk, h5, hx => by
    have hl : b.length ≤ 1000 := by omega
    have e1 : decide ((b.length : Int) = k) = false := by rw [decide_eq_false_iff_not]; omega
    have s1 := im_isWholeE n k l b (by omega)
    rw [e1] at s1
    have s2 := im_choicesE n k l b (by have := graph_28 hg; omega) hl (mat_in hx)
    have hcl := chE_len (show l.length ≤ 64 by have := graph_28 hg; omega) b
    have hin : ∀ x ∈ chE l b, matB l (b ++ [x]) = true := fun x h => mat_ch hx h
    have ih := fun x (h : x ∈ chE l b) => im_grownM n l hg f (b ++ [x]) k (by rw [List.length_append, List.length_cons, List.length_nil]; omega) h5 (hin x h)
    have gl := fun j => grEP_cap hg hx f j
    have gn := fun {i : Int} (h0 : 0 ≤ i) h1 => grEP_next (l := l) (f := f) (b := b) (k := i) h0 h1
    have g0 : grEP l f b 0 = [] := by simp [grEP]
    have gE : grEP l f b (chE l b).length = grE l (f + 1) b := by unfold grEP; rw [List.take_of_length_le (Nat.le_refl _)]; rfl
    have gfl := fun x (h : x ∈ chE l b) => grE_cap hg (hin x h) f
    rw [show ((fitL (allN l) (edgeX l) b).filter fun x => !(!incB (b ++ [x]))) = chE l b from rfl] at s2
    generalize grE l (f + 1) b = G at *
    generalize chE l b = C at *
    refine fnGE [3, 7] [.tmp 6] Try.func43 rfl (by decide) rfl (by kernel_rfl) (.inl rfl) (by kernel_rfl) (by simp) (by simp [Try.ntmps43]) ?_
    cbv
    ((first | refine call_iq (by kernel_rfl) rfl s1 (by cbv) ?_ | refine call_i (by kernel_rfl) rfl s1 (by cbv) ?_); cbv; ((try simp only [IfP_iff, and_true, true_and, decide_eq_true_eq, decide_eq_false_iff_not]); (try simp only [natc, getI_gi, at2_0, at2_1]); (try dsimp only [Ty.den]); (try simp only [natc] at *); (repeat' (first | apply And.intro | intro _))))
    ((try simp only [IfP_iff, and_true, true_and, decide_eq_true_eq, decide_eq_false_iff_not]); (try simp only [natc, getI_gi, at2_0, at2_1]); (try dsimp only [Ty.den]); (try simp only [natc] at *); (repeat' (first | apply And.intro | intro _)))
    all_goals (try (exfalso; simp_all; done))
    refine DrawL.seqZ [(0, [0])] ?_
    cbv
    ((first | refine call_iq (by kernel_rfl) rfl s2 (by cbv) ?_ | refine call_i (by kernel_rfl) rfl s2 (by cbv) ?_); cbv; ((try simp only [IfP_iff, and_true, true_and, decide_eq_true_eq, decide_eq_false_iff_not]); (try simp only [natc, getI_gi, at2_0, at2_1]); (try dsimp only [Ty.den]); (try simp only [natc] at *); (repeat' (first | apply And.intro | intro _))))
    refine loopXE [3, 7] (by kernel_rfl) (fun i : Int => 0 ≤ i ∧ i ≤ C.length) (fun i => [(21, .int fun _ => i), (7, .ref 1), (16, .junk), (9, .junk), (10, .junk)]) (fun i => [(1, some (.rows 43 3 .int fun _ => grEP l f b i.toNat))]) (fun i => (C.length - i).toNat) (· + 1) 0 (by omega) ?_ ?_
    · cbv
      (simp only [IfP_iff, EqU_iff, Obl_iff, and_true, true_and, inI_iff, decide_eq_true_eq, decide_eq_false_iff_not]; (try simp only [natc, getI_gi, at2_0, at2_1]); (try dsimp only [Ty.den]); try simp only [natc] at *)
      exact g0.symm
    · intro i hi
      have i0 : 0 ≤ i := hi.1
      have b1 : (grEP l f b i.toNat).length ≤ 614656 := gl _
      have b2 : i < (C.length : Int) → gi C i ∈ C := fun h => gi_mem i0 h
      have b3 := fun h => gn (i := i) i0 h
      have b4 : ¬ i < (C.length : Int) → grEP l f b i.toNat = G := fun h => by rw [show i.toNat = C.length by omega]; exact gE
      have b5 := fun h => gfl (gi C i) (b2 h)
      have sc := go_concat b [gi C i] (by omega) (by simp) (by simp)
      have sw := im_withE n k (gi C i) l b hl
      have sg := fun h => ih (gi C i) (b2 h)
      generalize grEP l f b i.toNat = X at *
      generalize grEP l f b (i + 1).toNat = Y at *
      generalize grE l f (b ++ [gi C i]) = Z at *
      clear ih gl gn gE gfl g0 s1 s2 hin hx
      cbv
      ((try simp only [IfP_iff, and_true, true_and, decide_eq_true_eq, decide_eq_false_iff_not]); (try simp only [natc, getI_gi, at2_0, at2_1]); (try dsimp only [Ty.den]); (try simp only [natc] at *); (repeat' (first | apply And.intro | intro _)))
      all_goals (try (refine EndG.plain [0, 1] ?_
                      cbv
                      (simp only [IfP_iff, EqU_iff, Obl_iff, and_true, true_and, inI_iff, decide_eq_true_eq, decide_eq_false_iff_not]; (try simp only [natc, getI_gi, at2_0, at2_1]); (try dsimp only [Ty.den]); try simp only [natc] at *)
                      exact b4 (by assumption)))
      all_goals (try (refine DrawL.seqZ [(3, [3])] ?_
                      cbv
                      ((first | refine call_q sc (by cbv) ?_ | refine call_pure sc (by cbv) ?_); cbv; ((try simp only [IfP_iff, and_true, true_and, decide_eq_true_eq, decide_eq_false_iff_not]); (try simp only [natc, getI_gi, at2_0, at2_1]); (try dsimp only [Ty.den]); (try simp only [natc] at *); (repeat' (first | apply And.intro | intro _))))))
      all_goals (try (((first | refine call_iq (by kernel_rfl) rfl sw (by cbv) ?_ | refine call_i (by kernel_rfl) rfl sw (by cbv) ?_); cbv; ((try simp only [IfP_iff, and_true, true_and, decide_eq_true_eq, decide_eq_false_iff_not]); (try simp only [natc, getI_gi, at2_0, at2_1]); (try dsimp only [Ty.den]); (try simp only [natc] at *); (repeat' (first | apply And.intro | intro _))))))
      all_goals (try (refine call_own 5 (sg (by assumption)) (by cbv) (by exact ⟨.inl rfl, .inr ⟨rfl, rfl⟩, .inl rfl, trivial⟩) ?_
                      cbv))
      all_goals (try ((try simp only [IfP_iff, and_true, true_and, decide_eq_true_eq, decide_eq_false_iff_not]); (try simp only [natc, getI_gi, at2_0, at2_1]); (try dsimp only [Ty.den]); (try simp only [natc] at *); (repeat' (first | apply And.intro | intro _))))
      all_goals (first
        | (refine RenL.mk ⟨[0, 1, 2], ?_⟩
           cbv
           (simp only [IfP_iff, EqU_iff, Obl_iff, and_true, true_and, inI_iff, decide_eq_true_eq, decide_eq_false_iff_not]; (try simp only [natc, getI_gi, at2_0, at2_1]); (try dsimp only [Ty.den]); try simp only [natc] at *)
           exact (b3 (by assumption)).symm)
        | ((try (simp only [IfP_iff, EqU_iff, Obl_iff, and_true, true_and, inI_iff, decide_eq_true_eq, decide_eq_false_iff_not]; (try simp only [natc, getI_gi, at2_0, at2_1]); (try dsimp only [Ty.den]); try simp only [natc] at *))
           (repeat' (first | apply And.intro | intro _)) <;> first | omega | (exact (b3 (by assumption)).symm) | (have := b5 (by assumption); omega) | trace_state)
        | trace_state)
theorem im_fitListsM (n k : Int) (l : List (Int × Int)) (hg : graphOk n l = true) (k0 : 0 ≤ k) (hk : k ≤ 8) : Spec2 Try.prog 30 [.ifr 54 fun _ => ofBound [.cells [.int fun _ => n, .sl (.pr .int .int) fun _ => l]], .int fun _ => k] [] [.ref 0] [some (.rows 43 3 .int fun _ => grE l k.toNat [])] := by
  have sg := im_grownM n l hg k.toNat [] k (by simp only [List.length_nil]; omega) hk (by rfl)
  generalize grE l k.toNat [] = G at *
  refine fnS [2] [4] Try.func30 rfl (by decide) rfl (by decide) (by kernel_rfl) rfl (by simp [Try.ntmps30]) ?_
  cbv
  refine call_own 0 sg (by cbv) (by exact ⟨.inl rfl, .inr ⟨rfl, rfl⟩, .inl rfl, trivial⟩) ?_
  cbv
  all_goals (try (simp only [IfP_iff, EqU_iff, Obl_iff, and_true, true_and, inI_iff, decide_eq_true_eq, decide_eq_false_iff_not]; (try simp only [natc, getI_gi, at2_0, at2_1]); (try dsimp only [Ty.den]); try simp only [natc] at *))
end Go.Proofs.Ytjkmgdhndbdhoaa.M
/- Matchings of any number of edges: the specification's lists. -/
namespace Go.Proofs.Ytjkmgdhndbdhoaa.M
open Go.RowKit Abs
set_option linter.unusedSimpArgs false
set_option linter.unusedVariables false
set_option maxRecDepth 100000
set_option maxHeartbeats 4000000
theorem sp_extendM (n : Int) (l : List (Int × Int)) (hl : l.length ≤ 1048576) (hg : graphOk n l = true) : ∀ (f : Nat) (b : List Int) (k : Int), (b.length : Int) + f = k → k ≤ 8 → matB l b = true → Spec2 Try.prog 34 [.agg (.pr .int (.sl (.pr .int .int))) fun _ => (n, l), .ref 0, .int fun _ => k] [some (.row 3 .int fun _ => b)] [.ref 1] [none, some (.rows 43 3 .int fun _ => grE l f b)]
  | 0, b, k, hk, h5, hb => by
    have e2 : [b] = grE l 0 b := rfl
    have e1 : (b.length : Int) = k := by omega
    generalize grE l 0 b = G at *
    refine fnG [.tmp 6] Try.func34 rfl (by decide) rfl (by kernel_rfl) (.inl rfl) (by kernel_rfl) (by simp) (by simp [Try.ntmps34]) ?_
    cbv
    ((try simp only [IfP_iff, and_true, true_and, decide_eq_true_eq, decide_eq_false_iff_not]); (try simp only [natc, getI_gi, at2_0, at2_1]); (try dsimp only [Ty.den]); (try simp only [natc] at *); (repeat' (first | apply And.intro | intro _)))
    all_goals (try (exact absurd e1 (by assumption)))
    all_goals (first
      | (refine EndG.plain [0, 2] ?_
         cbv
         (simp only [IfP_iff, EqU_iff, Obl_iff, and_true, true_and, inI_iff, decide_eq_true_eq, decide_eq_false_iff_not]; (try simp only [natc, getI_gi, at2_0, at2_1]); (try dsimp only [Ty.den]); try simp only [natc] at *)
         exact e2)
      | (trace_state; fail))
  | f + 1, b, k, hk, h5, hb => by
    have e1 : ¬ (b.length : Int) = k := by omega
    have hbl : b.length ≤ 1048576 := by omega
    have so := sp_ownW b hbl
    have gE : exP l f b l.length = grE l (f + 1) b := exP_all hb
    have ih := fun (x : Int) (hx : matB l (b ++ [x]) = true) => sp_extendM n l hl hg f (b ++ [x]) k (by rw [List.length_append, List.length_cons, List.length_nil]; omega) h5 hx
    have hln : ∀ j : Int, 0 ≤ j → j ≤ l.length → (exP l f b j).length ≤ 614656 := fun j a c => exP_cap hg hb f a c
    have hnx : ∀ j : Int, 0 ≤ j → exP l f b (j + 1) = exP l f b j ++ if matB l (b ++ [j]) = true then grE l f (b ++ [j]) else [] := fun j a => exP_next a
    have g0 : [] = exP l f b 0 := rfl
    have g1 : 0 < (b.length : Int) → [] = exP l f b (gi b ((b.length : Int) - 1) + 1) := fun h => (exP_from fun e e0 e1 => by
      cases hm : matB l (b ++ [e]) with
      | false => rfl
      | true =>
        have := mat_last hm h
        omega).symm
    have g2 : 0 < (b.length : Int) → 0 ≤ gi b ((b.length : Int) - 1) ∧ gi b ((b.length : Int) - 1) < l.length := fun h => mat_in hb _ (gi_mem (by omega) (by omega))
    have gfl := fun x (h : matB l (b ++ [x]) = true) => grE_cap hg h f
    have h28 := graph_28 hg
    generalize grE l (f + 1) b = G at *
    refine fnG [.tmp 6] Try.func34 rfl (by decide) rfl (by kernel_rfl) (.inl rfl) (by kernel_rfl) (by simp) (by simp [Try.ntmps34]) ?_
    cbv
    ((try simp only [IfP_iff, and_true, true_and, decide_eq_true_eq, decide_eq_false_iff_not]); (try simp only [natc, getI_gi, at2_0, at2_1]); (try dsimp only [Ty.den]); (try simp only [natc] at *); (repeat' (first | apply And.intro | intro _)))
    all_goals (try (exact absurd (by assumption) e1))
    all_goals (try (show Obl _; (simp only [IfP_iff, EqU_iff, Obl_iff, and_true, true_and, inI_iff, decide_eq_true_eq, decide_eq_false_iff_not]; (try simp only [natc, getI_gi, at2_0, at2_1]); (try dsimp only [Ty.den]); try simp only [natc] at *); ((repeat' (first | apply And.intro | intro _)) <;> first | omega | (have := g2 (by assumption); omega))))
    · have p1 := g1 (by assumption)
      have p2 := g2 (by assumption)
      clear g1 g2
      refine loopX (by kernel_rfl) (fun j : Int => 0 ≤ j ∧ j ≤ l.length) (fun j => [(9, .int fun _ => j), (8, .ref 2), (17, .junk)]) (fun j => [(2, some (.rows 43 3 .int fun _ => exP l f b j))]) (fun j => (l.length - j).toNat) (· + 1) (gi b ((b.length : Int) - 1) + 1) (by omega) ?_ ?_
      · cbv
        (simp only [IfP_iff, EqU_iff, Obl_iff, and_true, true_and, inI_iff, decide_eq_true_eq, decide_eq_false_iff_not]; (try simp only [natc, getI_gi, at2_0, at2_1]); (try dsimp only [Ty.den]); try simp only [natc] at *)
        exact p1
      · intro j hj
        have j0 : 0 ≤ j := hj.1
        have b1 : (exP l f b j).length ≤ 614656 := hln j j0 hj.2
        have b2 := hnx j j0
        have b3 : ¬ j < (l.length : Int) → exP l f b j = G := fun h => by rw [← gE, show j = (l.length : Int) by omega]
        have sg := ih j
        have b5 := gfl j
        have c1 : matB l (b ++ [j]) = true → exP l f b j ++ grE l f (b ++ [j]) = exP l f b (j + 1) := fun h => by rw [b2, if_pos h]
        have c2 : matB l (b ++ [j]) = false → exP l f b j = exP l f b (j + 1) := fun h => by rw [b2, if_neg (by rw [h]; decide), List.append_nil]
        have sm := sp_matches n l (b ++ [j]) hl (by rw [List.length_append, List.length_cons, List.length_nil]; omega) hg
        have b6 := b5
        generalize matB l (b ++ [j]) = m at *
        generalize exP l f b j = X at *
        generalize exP l f b (j + 1) = Y at *
        generalize grE l f (b ++ [j]) = Z at *
        clear ih hln hnx g0 gE gfl b2 b5
        cbv
        ((try simp only [IfP_iff, and_true, true_and, decide_eq_true_eq, decide_eq_false_iff_not]); (try simp only [natc, getI_gi, at2_0, at2_1]); (try dsimp only [Ty.den]); (try simp only [natc] at *); (repeat' (first | apply And.intro | intro _)))
        all_goals (repeat' (first | ((first | refine call_q so (by cbv) ?_ | refine call_pure so (by cbv) ?_); cbv; ((try simp only [IfP_iff, and_true, true_and, decide_eq_true_eq, decide_eq_false_iff_not]); (try simp only [natc, getI_gi, at2_0, at2_1]); (try dsimp only [Ty.den]); (try simp only [natc] at *); (repeat' (first | apply And.intro | intro _)))) | ((first | refine call_q sm (by cbv) ?_ | refine call_pure sm (by cbv) ?_); cbv; ((try simp only [IfP_iff, and_true, true_and, decide_eq_true_eq, decide_eq_false_iff_not]); (try simp only [natc, getI_gi, at2_0, at2_1]); (try dsimp only [Ty.den]); (try simp only [natc] at *); (repeat' (first | apply And.intro | intro _))))))
        all_goals (try ((try simp only [IfP_iff, and_true, true_and, decide_eq_true_eq, decide_eq_false_iff_not]); (try simp only [natc, getI_gi, at2_0, at2_1]); (try dsimp only [Ty.den]); (try simp only [natc] at *); (repeat' (first | apply And.intro | intro _))))
        all_goals (try (refine call_own 3 (sg (by assumption)) (by cbv) (by exact ⟨.inl rfl, .inr ⟨rfl, rfl⟩, .inl rfl, trivial⟩) ?_
                        cbv))
        all_goals (try ((try simp only [IfP_iff, and_true, true_and, decide_eq_true_eq, decide_eq_false_iff_not]); (try simp only [natc, getI_gi, at2_0, at2_1]); (try dsimp only [Ty.den]); (try simp only [natc] at *); (repeat' (first | apply And.intro | intro _))))
        all_goals (try (show Obl _; (simp only [IfP_iff, EqU_iff, Obl_iff, and_true, true_and, inI_iff, decide_eq_true_eq, decide_eq_false_iff_not]; (try simp only [natc, getI_gi, at2_0, at2_1]); (try dsimp only [Ty.den]); try simp only [natc] at *); ((repeat' (first | apply And.intro | intro _)) <;> first | omega | (simp only [List.length_cons, List.length_nil]; omega) | (have := b6 (by assumption); omega))))
        all_goals (first
          | (refine RenL.mk ⟨[0, 1, 2], ?_⟩
             cbv
             (simp only [IfP_iff, EqU_iff, Obl_iff, and_true, true_and, inI_iff, decide_eq_true_eq, decide_eq_false_iff_not]; (try simp only [natc, getI_gi, at2_0, at2_1]); (try dsimp only [Ty.den]); try simp only [natc] at *)
             first | exact c1 (by assumption) | exact c2 (by assumption))
          | (refine EndG.plain [0, 2] ?_
             cbv
             (simp only [IfP_iff, EqU_iff, Obl_iff, and_true, true_and, inI_iff, decide_eq_true_eq, decide_eq_false_iff_not]; (try simp only [natc, getI_gi, at2_0, at2_1]); (try dsimp only [Ty.den]); try simp only [natc] at *)
             exact b3 (by assumption))
          | (trace_state; fail))
    · refine loopX (by kernel_rfl) (fun j : Int => 0 ≤ j ∧ j ≤ l.length) (fun j => [(9, .int fun _ => j), (8, .ref 2), (17, .junk)]) (fun j => [(2, some (.rows 43 3 .int fun _ => exP l f b j))]) (fun j => (l.length - j).toNat) (· + 1) 0 (by omega) ?_ ?_
      · cbv
        (simp only [IfP_iff, EqU_iff, Obl_iff, and_true, true_and, inI_iff, decide_eq_true_eq, decide_eq_false_iff_not]; (try simp only [natc, getI_gi, at2_0, at2_1]); (try dsimp only [Ty.den]); try simp only [natc] at *)
        exact g0
      · intro j hj
        have j0 : 0 ≤ j := hj.1
        have b1 : (exP l f b j).length ≤ 614656 := hln j j0 hj.2
        have b2 := hnx j j0
        have b3 : ¬ j < (l.length : Int) → exP l f b j = G := fun h => by rw [← gE, show j = (l.length : Int) by omega]
        have sg := ih j
        have b5 := gfl j
        have c1 : matB l (b ++ [j]) = true → exP l f b j ++ grE l f (b ++ [j]) = exP l f b (j + 1) := fun h => by rw [b2, if_pos h]
        have c2 : matB l (b ++ [j]) = false → exP l f b j = exP l f b (j + 1) := fun h => by rw [b2, if_neg (by rw [h]; decide), List.append_nil]
        have sm := sp_matches n l (b ++ [j]) hl (by rw [List.length_append, List.length_cons, List.length_nil]; omega) hg
        have b6 := b5
        generalize matB l (b ++ [j]) = m at *
        generalize exP l f b j = X at *
        generalize exP l f b (j + 1) = Y at *
        generalize grE l f (b ++ [j]) = Z at *
        clear ih hln hnx g0 gE gfl b2 b5
        cbv
        ((try simp only [IfP_iff, and_true, true_and, decide_eq_true_eq, decide_eq_false_iff_not]); (try simp only [natc, getI_gi, at2_0, at2_1]); (try dsimp only [Ty.den]); (try simp only [natc] at *); (repeat' (first | apply And.intro | intro _)))
        all_goals (repeat' (first | ((first | refine call_q so (by cbv) ?_ | refine call_pure so (by cbv) ?_); cbv; ((try simp only [IfP_iff, and_true, true_and, decide_eq_true_eq, decide_eq_false_iff_not]); (try simp only [natc, getI_gi, at2_0, at2_1]); (try dsimp only [Ty.den]); (try simp only [natc] at *); (repeat' (first | apply And.intro | intro _)))) | ((first | refine call_q sm (by cbv) ?_ | refine call_pure sm (by cbv) ?_); cbv; ((try simp only [IfP_iff, and_true, true_and, decide_eq_true_eq, decide_eq_false_iff_not]); (try simp only [natc, getI_gi, at2_0, at2_1]); (try dsimp only [Ty.den]); (try simp only [natc] at *); (repeat' (first | apply And.intro | intro _))))))
        all_goals (try ((try simp only [IfP_iff, and_true, true_and, decide_eq_true_eq, decide_eq_false_iff_not]); (try simp only [natc, getI_gi, at2_0, at2_1]); (try dsimp only [Ty.den]); (try simp only [natc] at *); (repeat' (first | apply And.intro | intro _))))
        all_goals (try (refine call_own 3 (sg (by assumption)) (by cbv) (by exact ⟨.inl rfl, .inr ⟨rfl, rfl⟩, .inl rfl, trivial⟩) ?_
                        cbv))
        all_goals (try ((try simp only [IfP_iff, and_true, true_and, decide_eq_true_eq, decide_eq_false_iff_not]); (try simp only [natc, getI_gi, at2_0, at2_1]); (try dsimp only [Ty.den]); (try simp only [natc] at *); (repeat' (first | apply And.intro | intro _))))
        all_goals (try (show Obl _; (simp only [IfP_iff, EqU_iff, Obl_iff, and_true, true_and, inI_iff, decide_eq_true_eq, decide_eq_false_iff_not]; (try simp only [natc, getI_gi, at2_0, at2_1]); (try dsimp only [Ty.den]); try simp only [natc] at *); ((repeat' (first | apply And.intro | intro _)) <;> first | omega | (simp only [List.length_cons, List.length_nil]; omega) | (have := b6 (by assumption); omega))))
        all_goals (first
          | (refine RenL.mk ⟨[0, 1, 2], ?_⟩
             cbv
             (simp only [IfP_iff, EqU_iff, Obl_iff, and_true, true_and, inI_iff, decide_eq_true_eq, decide_eq_false_iff_not]; (try simp only [natc, getI_gi, at2_0, at2_1]); (try dsimp only [Ty.den]); try simp only [natc] at *)
             first | exact c1 (by assumption) | exact c2 (by assumption))
          | (refine EndG.plain [0, 2] ?_
             cbv
             (simp only [IfP_iff, EqU_iff, Obl_iff, and_true, true_and, inI_iff, decide_eq_true_eq, decide_eq_false_iff_not]; (try simp only [natc, getI_gi, at2_0, at2_1]); (try dsimp only [Ty.den]); try simp only [natc] at *)
             exact b3 (by assumption))
          | (trace_state; fail))
end Go.Proofs.Ytjkmgdhndbdhoaa.M
/- Matching spaces: jumps between matchings, pure; l4Lone. -/
namespace Go.Proofs.Ytjkmgdhndbdhoaa.M
open Go.RowKit Abs
set_option linter.unusedSimpArgs false
set_option linter.unusedVariables false
set_option maxRecDepth 100000
set_option maxHeartbeats 4000000
theorem sp_loneX (a b : List Int) (ha : a.length ≤ 1048576) (hb : b.length ≤ 1048576) : Spec2 Try.prog 35 [.sl .int fun _ => a, .sl .int fun _ => b] [] [.ref 0] [some (.row 3 .int fun _ => onlyL a b)] := by
  refine fnS [0] [4] Try.func35 rfl (by decide) rfl (by decide) (by kernel_rfl) rfl (by simp [Try.ntmps35]) ?_
  cbv
  refine loopP (by kernel_rfl) (fun k : Int => 0 ≤ k ∧ k ≤ a.length) (fun k => [(6, .int fun _ => k), (5, .ref 0), (7, .junk)]) (fun k => [(0, some (.row 3 .int fun _ => onlyL (a.take k.toNat) b))]) (fun k => (a.length - k).toNat) (· + 1) 0 (by omega) ?_ ?_
  · cbv
    (simp only [IfP_iff, EqU_iff, Obl_iff, and_true, true_and, inI_iff, decide_eq_true_eq, decide_eq_false_iff_not]; (try simp only [natc, getI_gi, at2_0, at2_1]); (try dsimp only [Ty.den]); try simp only [natc] at *)
    rfl
  · intro k hk
    have h1 := fun h => only_next (a := a) (b := b) (k := k) hk.1 h
    have h2 : (onlyL (a.take k.toNat) b).length ≤ 1048576 := Nat.le_trans (List.length_filter_le _ _) (by rw [List.length_take]; omega)
    have h3 : ¬ k < (a.length : Int) → onlyL (a.take k.toNat) b = onlyL a b := fun h => by rw [List.take_of_length_le (by omega)]
    have h4 : k < (a.length : Int) → (!hasB b (gi a k)) = true → onlyL (a.take k.toNat) b ++ [gi a k] = onlyL (a.take (k + 1).toNat) b := fun h e => by rw [h1 h, if_neg (by simpa using e)]
    have h5 : k < (a.length : Int) → (!hasB b (gi a k)) = false → onlyL (a.take k.toNat) b = onlyL (a.take (k + 1).toNat) b := fun h e => by rw [h1 h, if_pos (by simpa using e), List.append_nil]
    generalize onlyL (a.take k.toNat) b = X at *
    generalize onlyL (a.take (k + 1).toNat) b = Y at *
    clear h1
    cbv
    ((try simp only [IfP_iff, and_true, true_and, decide_eq_true_eq, decide_eq_false_iff_not]); (try simp only [natc, getI_gi, at2_0, at2_1]); (try dsimp only [Ty.den]); (try simp only [natc] at *); (repeat' (first | apply And.intro | intro _)))
    all_goals (repeat' (first | ((first | refine call_q (sp_has b (gi a k) hb) (by cbv) ?_ | refine call_pure (sp_has b (gi a k) hb) (by cbv) ?_); cbv; ((try simp only [IfP_iff, and_true, true_and, decide_eq_true_eq, decide_eq_false_iff_not]); (try simp only [natc, getI_gi, at2_0, at2_1]); (try dsimp only [Ty.den]); (try simp only [natc] at *); (repeat' (first | apply And.intro | intro _))))))
    all_goals (try ((try simp only [IfP_iff, and_true, true_and, decide_eq_true_eq, decide_eq_false_iff_not]); (try simp only [natc, getI_gi, at2_0, at2_1]); (try dsimp only [Ty.den]); (try simp only [natc] at *); (repeat' (first | apply And.intro | intro _))))
    all_goals (try (simp only [IfP_iff, EqU_iff, Obl_iff, and_true, true_and, inI_iff, decide_eq_true_eq, decide_eq_false_iff_not]; (try simp only [natc, getI_gi, at2_0, at2_1]); (try dsimp only [Ty.den]); try simp only [natc] at *))
    all_goals ((repeat' (first | apply And.intro | intro _)) <;> first | omega | (exact h3 (by assumption)) | (exact h4 (by assumption) (by assumption)) | (exact h5 (by assumption) (by assumption)) | (rw [List.length_cons, List.length_nil]; omega) | trace_state)
theorem im_cmX (a b : List Int) (ha : a.length ≤ 1048576) (hb : b.length ≤ 1048576) : Spec2 Try.prog 48 [.sl .int fun _ => a, .sl .int fun _ => b] [] [.int fun _ => ((onlyL a b).length : Int)] [] := by
  refine fnS [] [4] Try.func48 rfl (by decide) rfl (by decide) (by kernel_rfl) rfl (by simp [Try.ntmps48]) ?_
  cbv
  refine loopP (by kernel_rfl) (fun k : Int => 0 ≤ k ∧ k ≤ a.length) (fun k => [(10, .int fun _ => k), (5, .int fun _ => ((onlyL (a.take k.toNat) b).length : Int)), (7, .junk)]) (fun _ => []) (fun k => (a.length - k).toNat) (· + 1) 0 (by omega) ?_ ?_
  · cbv
    (simp only [IfP_iff, EqU_iff, Obl_iff, and_true, true_and, inI_iff, decide_eq_true_eq, decide_eq_false_iff_not]; (try simp only [natc, getI_gi, at2_0, at2_1]); (try dsimp only [Ty.den]); try simp only [natc] at *)
    rfl
  · intro k hk
    have h1 := fun h => only_next (a := a) (b := b) (k := k) hk.1 h
    have h2 : (onlyL (a.take k.toNat) b).length ≤ 1048576 := Nat.le_trans (List.length_filter_le _ _) (by rw [List.length_take]; omega)
    have h3 : ¬ k < (a.length : Int) → ((onlyL (a.take k.toNat) b).length : Int) = ((onlyL a b).length : Int) := fun h => by rw [List.take_of_length_le (by omega)]
    have h4 : k < (a.length : Int) → (!hasB b (gi a k)) = true → ((onlyL (a.take (k + 1).toNat) b).length : Int) = ((onlyL (a.take k.toNat) b).length : Int) + 1 := fun h e => by rw [h1 h, if_neg (by simpa using e), List.length_append]; simp
    have h5 : k < (a.length : Int) → (!hasB b (gi a k)) = false → ((onlyL (a.take (k + 1).toNat) b).length : Int) = ((onlyL (a.take k.toNat) b).length : Int) := fun h e => by rw [h1 h, if_pos (by simpa using e), List.append_nil]
    clear h1
    cbv
    ((try simp only [IfP_iff, and_true, true_and, decide_eq_true_eq, decide_eq_false_iff_not]); (try simp only [natc, getI_gi, at2_0, at2_1]); (try dsimp only [Ty.den]); (try simp only [natc] at *); (repeat' (first | apply And.intro | intro _)))
    all_goals (repeat' (first | ((first | refine call_q (go_contains b (gi a k) hb) (by cbv) ?_ | refine call_pure (go_contains b (gi a k) hb) (by cbv) ?_); cbv; ((try simp only [IfP_iff, and_true, true_and, decide_eq_true_eq, decide_eq_false_iff_not]); (try simp only [natc, getI_gi, at2_0, at2_1]); (try dsimp only [Ty.den]); (try simp only [natc] at *); (repeat' (first | apply And.intro | intro _))))))
    all_goals (try ((try simp only [IfP_iff, and_true, true_and, decide_eq_true_eq, decide_eq_false_iff_not]); (try simp only [natc, getI_gi, at2_0, at2_1]); (try dsimp only [Ty.den]); (try simp only [natc] at *); (repeat' (first | apply And.intro | intro _))))
    all_goals (try (simp only [IfP_iff, EqU_iff, Obl_iff, and_true, true_and, inI_iff, decide_eq_true_eq, decide_eq_false_iff_not]; (try simp only [natc, getI_gi, at2_0, at2_1]); (try dsimp only [Ty.den]); try simp only [natc] at *))
    all_goals ((repeat' (first | apply And.intro | intro _)) <;> first | omega | (exact h3 (by assumption)) | (have q := h4 (by assumption) (by assumption); omega) | (have q := h5 (by assumption) (by assumption); omega) | trace_state)
def jmX (a b : List Int) : Bool := decide (((onlyL a b).length : Int) = 1) && decide (((onlyL b a).length : Int) = 1)
theorem im_jumpX (a b : List Int) (ha : a.length ≤ 1048576) (hb : b.length ≤ 1048576) : Spec2 Try.prog 38 [.sl .int fun _ => a, .sl .int fun _ => b] [] [.bool fun _ => jmX a b] [] := by
  have h9 : jmX a b = _ := rfl
  conv at h9 => rhs; unfold jmX
  refine fnS [] [4] Try.func38 rfl (by decide) rfl (by decide) (by kernel_rfl) rfl (by simp [Try.ntmps38]) ?_
  cbv
  ((try simp only [IfP_iff, and_true, true_and, decide_eq_true_eq, decide_eq_false_iff_not]); (try simp only [natc, getI_gi, at2_0, at2_1]); (try dsimp only [Ty.den]); (try simp only [natc] at *); (repeat' (first | apply And.intro | intro _)))
  all_goals (repeat' (first | ((first | refine call_q (im_cmX a b ha hb) (by cbv) ?_ | refine call_pure (im_cmX a b ha hb) (by cbv) ?_); cbv; ((try simp only [IfP_iff, and_true, true_and, decide_eq_true_eq, decide_eq_false_iff_not]); (try simp only [natc, getI_gi, at2_0, at2_1]); (try dsimp only [Ty.den]); (try simp only [natc] at *); (repeat' (first | apply And.intro | intro _)))) | ((first | refine call_q (im_cmX b a hb ha) (by cbv) ?_ | refine call_pure (im_cmX b a hb ha) (by cbv) ?_); cbv; ((try simp only [IfP_iff, and_true, true_and, decide_eq_true_eq, decide_eq_false_iff_not]); (try simp only [natc, getI_gi, at2_0, at2_1]); (try dsimp only [Ty.den]); (try simp only [natc] at *); (repeat' (first | apply And.intro | intro _))))))
  all_goals (try ((try simp only [IfP_iff, and_true, true_and, decide_eq_true_eq, decide_eq_false_iff_not]); (try simp only [natc, getI_gi, at2_0, at2_1]); (try dsimp only [Ty.den]); (try simp only [natc] at *); (repeat' (first | apply And.intro | intro _))))
  all_goals (repeat' (first | ((first | refine call_q (im_cmX a b ha hb) (by cbv) ?_ | refine call_pure (im_cmX a b ha hb) (by cbv) ?_); cbv; ((try simp only [IfP_iff, and_true, true_and, decide_eq_true_eq, decide_eq_false_iff_not]); (try simp only [natc, getI_gi, at2_0, at2_1]); (try dsimp only [Ty.den]); (try simp only [natc] at *); (repeat' (first | apply And.intro | intro _)))) | ((first | refine call_q (im_cmX b a hb ha) (by cbv) ?_ | refine call_pure (im_cmX b a hb ha) (by cbv) ?_); cbv; ((try simp only [IfP_iff, and_true, true_and, decide_eq_true_eq, decide_eq_false_iff_not]); (try simp only [natc, getI_gi, at2_0, at2_1]); (try dsimp only [Ty.den]); (try simp only [natc] at *); (repeat' (first | apply And.intro | intro _))))))
  all_goals (try (simp only [IfP_iff, EqU_iff, Obl_iff, and_true, true_and, inI_iff, decide_eq_true_eq, decide_eq_false_iff_not]; (try simp only [natc, getI_gi, at2_0, at2_1]); (try dsimp only [Ty.den]); try simp only [natc] at *))
  all_goals ((repeat' (first | apply And.intro | intro _)) <;> first | omega | (simp only [List.length_append, List.length_cons, List.length_nil]; omega) | grind)
theorem inc_ndX {s : List Int} (h : incB s = true) : s.Nodup := by
  unfold List.Nodup
  rw [List.pairwise_iff_getElem]
  intro i j hi hj hij
  have h1 := inc_lt h (a := (i : Int)) (by omega) (d := j - i - 1) (by omega)
  rw [show (i : Int) + ((j - i - 1 : Nat) : Int) + 1 = (j : Int) by omega] at h1
  have e1 : ∀ k (hk : k < s.length), gi s (k : Int) = s[k] := fun k hk => by
    unfold gi
    rw [List.getD_eq_getElem?_getD, show ((k : Int)).toNat = k by omega, List.getElem?_eq_getElem hk]
    rfl
  rw [e1 i hi, e1 j hj] at h1
  intro e
  rw [e] at h1
  omega
theorem len_splitX (p : Int → Bool) : ∀ l : List Int, l.length = (l.filter p).length + (l.filter fun x => !p x).length
  | [] => rfl
  | x :: l => by
    have h := len_splitX p l
    rw [List.filter_cons, List.filter_cons]
    cases hp : p x <;> simp <;> omega
theorem lone_symX {a b : List Int} (ha : a.Nodup) (hb : b.Nodup) (hl : a.length = b.length) : (onlyL a b).length = (onlyL b a).length := by
  have p : (a.filter (hasB b)).Perm (b.filter (hasB a)) := by
    rw [List.perm_ext_iff_of_nodup (ha.filter _) (hb.filter _)]
    intro x
    rw [List.mem_filter, List.mem_filter, hasB_iff, hasB_iff]
    exact And.comm
  have l1 := len_splitX (hasB b) a
  have l2 := len_splitX (hasB a) b
  have l3 := p.length_eq
  unfold onlyL
  omega
theorem jmX_lone {a b : List Int} (ha : a.Nodup) (hb : b.Nodup) (hl : a.length = b.length) : decide (((onlyL a b).length : Int) = 1) = jmX a b := by
  have h := lone_symX ha hb hl
  unfold jmX
  rw [h, Bool.and_self]
def mspB (n : Int) (l : List (Int × Int)) (k : Int) : Bool := graphOk n l && (decide (0 ≤ k) && decide (k ≤ 8)) && decide (((grE l k.toNat []).length : Int) ≤ 300)
def mspG (n : Int) (l : List (Int × Int)) (k : Int) : List (List Int) := if mspB n l k = true then grE l k.toNat [] else []
def mspQ (n : Int) (l : List (Int × Int)) (k : Int) : List (Int × Int) := wTo (fun i j => jmX (getR .int (mspG n l k) i) (getR .int (mspG n l k) j)) (mspG n l k).length (mspG n l k).length
theorem msp_row {n k : Int} {l : List (Int × Int)} : ∀ s ∈ mspG n l k, s.Nodup ∧ (s.length : Int) = k ∧ k ≤ 8 := fun s hs => by
  unfold mspG at hs
  split at hs
  · rename_i h
    unfold mspB at h
    simp only [Bool.and_eq_true, decide_eq_true_eq] at h
    have m := grE_mem _ [] s (by rfl) hs
    have m1 := m.1
    unfold matB fitB at m1
    rw [Bool.and_eq_true] at m1
    have m2 := m.2
    rw [List.length_nil] at m2
    exact ⟨inc_ndX m1.2, by omega, h.1.2.2⟩
  · simp at hs
theorem msp_len (n k : Int) (l : List (Int × Int)) : (mspG n l k).length ≤ 300 := by
  unfold mspG
  split
  · rename_i h
    unfold mspB at h
    simp only [Bool.and_eq_true, decide_eq_true_eq] at h
    omega
  · simp
theorem wRowX_congr {q q' : Int → Int → Bool} {i : Int} : ∀ k : Nat, (∀ j : Int, i + 1 ≤ j → j < i + 1 + k → q i j = q' i j) → wRow q i k = wRow q' i k
  | 0, _ => rfl
  | k + 1, h => by
    unfold wRow
    rw [wRowX_congr k fun j j0 j1 => h j j0 (by omega), h (i + 1 + k) (by omega) (by omega)]
theorem wToX_congr {q q' : Int → Int → Bool} {m : Int} (h : ∀ i j : Int, 0 ≤ i → i < m → 0 ≤ j → j < m → q i j = q' i j) : ∀ k : Nat, (k : Int) ≤ m → wTo q m k = wTo q' m k
  | 0, _ => rfl
  | k + 1, hk => by
    unfold wTo
    rw [wToX_congr h k (by omega), wRowX_congr _ fun j j0 j1 => h k j (by omega) (by omega) (by omega) (by omega)]
theorem wToX_len (q : Int → Int → Bool) {m : Int} (h : m ≤ 300) : ∀ k, (wTo q m k).length ≤ 300 * k
  | 0 => Nat.le_refl _
  | k + 1 => by
    have := wToX_len q h k
    have := wRow_len q k (m - ((k : Int) + 1)).toNat
    unfold wTo
    rw [List.length_append]
    omega
theorem msp_same (n k : Int) (l : List (Int × Int)) : wTo (fun i j => decide (((onlyL (getR .int (mspG n l k) i) (getR .int (mspG n l k) j)).length : Int) = 1)) (mspG n l k).length (mspG n l k).length = mspQ n l k := by
  unfold mspQ
  refine wToX_congr (fun i j i0 i1 j0 j1 => ?_) _ (Int.le_refl _)
  have a := msp_row _ (getR_mem i0 i1)
  have b := msp_row _ (getR_mem j0 j1)
  exact jmX_lone a.1 b.1 (by omega)
theorem msp_bound (n k : Int) (l : List (Int × Int)) : (mspG n l k).length ≤ 1048576 ∧ (∀ j : Int, 0 ≤ j → j < (mspG n l k).length → (getR .int (mspG n l k) j).length ≤ 1048576) ∧ totR (mspG n l k) ≤ 100000000 ∧ (mspQ n l k).length ≤ 1048576 := by
  have a := msp_len n k l
  have b := totU_le (L := mspG n l k) fun s hs => by have := msp_row s hs; omega
  have c := wToX_len (fun i j => jmX (getR .int (mspG n l k) i) (getR .int (mspG n l k) j)) (m := ((mspG n l k).length : Int)) (by omega) (mspG n l k).length
  refine ⟨by omega, fun j j0 j1 => by have := msp_row _ (getR_mem j0 j1); omega, by omega, ?_⟩
  unfold mspQ
  omega
end Go.Proofs.Ytjkmgdhndbdhoaa.M
/- MatchingSpace: the program. -/
namespace Go.Proofs.Ytjkmgdhndbdhoaa.M
open Go.RowKit Abs
set_option linter.unusedSimpArgs false
set_option linter.unusedVariables false
set_option maxRecDepth 100000
set_option maxHeartbeats 4000000
theorem EndG.viaX {k : Nat} {rs : List RK} {res : List AV} {post : Hp} {e : AX} {S S' : AS} (hv : ∀ w0 B hd a w val, Rl w0 B hd S a w val → ∃ val', Rl w0 B hd S' a w val') (h : EndG k rs res post e S') : EndG k rs res post e S :=
  ⟨h.out.1, fun w0 B hd a w val hR => by
    obtain ⟨val', hR'⟩ := hv w0 B hd a w val hR
    exact h.out.2 w0 B hd a w val' hR'⟩
theorem im_numNodes (k : Int) : Spec2 Try.prog 36 [.int fun _ => k] [] [.bool fun _ => decide (0 ≤ k) && decide (k ≤ 8)] [] := by
  refine fnS [] [2] Try.func36 rfl (by decide) rfl (by decide) (by kernel_rfl) rfl (by simp [Try.ntmps36]) ?_
  cbv
  ((try simp only [IfP_iff, and_true, true_and, decide_eq_true_eq, decide_eq_false_iff_not]); (try simp only [natc, getI_gi, at2_0, at2_1]); (try dsimp only [Ty.den]); (try simp only [natc] at *); (repeat' (first | apply And.intro | intro _)))
  all_goals (try (simp only [IfP_iff, EqU_iff, Obl_iff, and_true, true_and, inI_iff, decide_eq_true_eq, decide_eq_false_iff_not]; (try simp only [natc, getI_gi, at2_0, at2_1]); (try dsimp only [Ty.den]); try simp only [natc] at *))
  all_goals ((repeat' (first | apply And.intro | intro _)) <;> first | omega | (simp only [List.length_append, List.length_cons, List.length_nil]; omega) | grind)
theorem msp_no {n k : Int} {l : List (Int × Int)} (h : mspB n l k = false) : mspG n l k = [] ∧ mspQ n l k = [] := by
  have h8 : mspG n l k = [] := by unfold mspG; rw [h, if_neg (by decide)]
  exact ⟨h8, by unfold mspQ; rw [h8]; rfl⟩
theorem im_matSpace (n : Int) (l : List (Int × Int)) (k : Int) (hl : l.length ≤ 1048576) : Spec2 Try.prog 16 [.agg (.pr .int (.sl (.pr .int .int))) fun _ => (n, l), .int fun _ => k] [] [.cells [.ref 0, .ref 1], .bool fun _ => mspB n l k] [some (.rows 43 3 .int fun _ => mspG n l k), some (.row 59 (.pr .int .int) fun _ => mspQ n l k)] := by
  have hq := im_graph n l hl
  have hk := im_numNodes k
  have z1 : (!graphOk n l) = true → mspB n l k = false := fun h => by
    unfold mspB
    rw [show graphOk n l = false by simpa using h]
    rfl
  have z2 : (!(decide (0 ≤ k) && decide (k ≤ 8))) = true → mspB n l k = false := fun h => by
    unfold mspB
    rw [show (decide (0 ≤ k) && decide (k ≤ 8)) = false by rw [Bool.not_eq_true'] at h; exact h]
    simp
  have z3 : 300 < ((grE l k.toNat []).length : Int) → mspB n l k = false := fun h => by
    unfold mspB
    rw [decide_eq_false (show ¬ ((grE l k.toNat []).length : Int) ≤ 300 by omega)]
    simp
  have z4 : (!graphOk n l) = false → (!(decide (0 ≤ k) && decide (k ≤ 8))) = false → ¬ 300 < ((grE l k.toNat []).length : Int) → mspB n l k = true := fun a b c => by
    unfold mspB
    rw [show graphOk n l = true by simpa using a, show (decide (0 ≤ k) && decide (k ≤ 8)) = true by rw [Bool.not_eq_false'] at b; exact b, decide_eq_true (show ((grE l k.toNat []).length : Int) ≤ 300 by omega)]
    rfl
  have s1 : (!graphOk n l) = false → (!(decide (0 ≤ k) && decide (k ≤ 8))) = false → Spec2 Try.prog 30 [.ifr 54 fun _ => ofBound [.cells [.int fun _ => n, .sl (.pr .int .int) fun _ => l]], .int fun _ => k] [] [.ref 0] [some (.rows 43 3 .int fun _ => grE l k.toNat [])] := fun a b => by
    have b : (decide (0 ≤ k) && decide (k ≤ 8)) = true := by rw [Bool.not_eq_false'] at b; exact b
    simp only [Bool.and_eq_true, decide_eq_true_eq] at b
    exact im_fitListsM n k l (by simpa using a) b.1 b.2
  have e3 : mspB n l k = true → grE l k.toNat [] = mspG n l k := fun h => by unfold mspG; rw [h, if_pos rfl]
  have s2 : mspB n l k = true → Spec2 Try.prog 37 [.ref 0, .fnr 38 fun _ => ofCaps []] [some (.rows 43 3 .int fun _ => grE l k.toNat [])] [.cells [.ref 0, .ref 1]] [some (.rows 43 3 .int fun _ => mspG n l k), some (.row 59 (.pr .int .int) fun _ => mspQ n l k)] := fun h => by
    rw [e3 h]
    have hlen := msp_len n k l
    exact im_spaceWhere (mspG n l k) 38 (fun _ => ofCaps []) (fun i j => jmX (getR .int (mspG n l k) i) (getR .int (mspG n l k) j)) (by omega) fun i j i0 i1 j0 j1 => ⟨[], rfl, fun _ => rfl, im_jumpX _ _ (by have := msp_row _ (getR_mem i0 i1); omega) (by have := msp_row _ (getR_mem j0 j1); omega)⟩
  have hno := fun h => @msp_no n k l h
  generalize mspQ n l k = Q at *
  generalize mspG n l k = W at *
  generalize mspB n l k = B at *
  generalize grE l k.toNat [] = R at *
  clear e3
  refine fnG [.cst 4 2 37, .tmp 5] Try.func16 rfl (by decide) rfl (by kernel_rfl) (.inr (.inl rfl)) (by kernel_rfl) (Nat.zero_le _) (by simp [Try.ntmps16]) ?_
  cbv
  ((try simp only [IfP_iff, and_true, true_and, decide_eq_true_eq, decide_eq_false_iff_not]); (try simp only [natc, getI_gi, at2_0, at2_1]); (try dsimp only [Ty.den]); (try simp only [natc] at *); (repeat' (first | apply And.intro | intro _)))
  all_goals (repeat' (first | ((first | refine call_q hq (by cbv) ?_ | refine call_pure hq (by cbv) ?_); cbv; ((try simp only [IfP_iff, and_true, true_and, decide_eq_true_eq, decide_eq_false_iff_not]); (try simp only [natc, getI_gi, at2_0, at2_1]); (try dsimp only [Ty.den]); (try simp only [natc] at *); (repeat' (first | apply And.intro | intro _)))) | ((first | refine call_q hk (by cbv) ?_ | refine call_pure hk (by cbv) ?_); cbv; ((try simp only [IfP_iff, and_true, true_and, decide_eq_true_eq, decide_eq_false_iff_not]); (try simp only [natc, getI_gi, at2_0, at2_1]); (try dsimp only [Ty.den]); (try simp only [natc] at *); (repeat' (first | apply And.intro | intro _)))) | ((first | refine call_q (s1 (by assumption) (by assumption)) (by cbv) ?_ | refine call_pure (s1 (by assumption) (by assumption)) (by cbv) ?_); cbv; ((try simp only [IfP_iff, and_true, true_and, decide_eq_true_eq, decide_eq_false_iff_not]); (try simp only [natc, getI_gi, at2_0, at2_1]); (try dsimp only [Ty.den]); (try simp only [natc] at *); (repeat' (first | apply And.intro | intro _))))))
  all_goals (try ((try simp only [IfP_iff, and_true, true_and, decide_eq_true_eq, decide_eq_false_iff_not]); (try simp only [natc, getI_gi, at2_0, at2_1]); (try dsimp only [Ty.den]); (try simp only [natc] at *); (repeat' (first | apply And.intro | intro _))))
  · have hB := z1 (by assumption)
    have hW := hno hB
    rw [hB, hW.1, hW.2]
    refine EndG.viaX (fun w0 B hd a w val hR => hR.nilR 43 3 .int [.box 1 0]) ?_
    refine EndG.nil 59 (.pr .int .int) [.box 1 1] [2, 3] ?_
    cbv
    all_goals (try (simp only [IfP_iff, EqU_iff, Obl_iff, and_true, true_and, inI_iff, decide_eq_true_eq, decide_eq_false_iff_not]; (try simp only [natc, getI_gi, at2_0, at2_1]); (try dsimp only [Ty.den]); try simp only [natc] at *))
  · have hB := z2 (by assumption)
    have hW := hno hB
    rw [hB, hW.1, hW.2]
    refine EndG.viaX (fun w0 B hd a w val hR => hR.nilR 43 3 .int [.box 1 0]) ?_
    refine EndG.nil 59 (.pr .int .int) [.box 1 1] [2, 3] ?_
    cbv
    all_goals (try (simp only [IfP_iff, EqU_iff, Obl_iff, and_true, true_and, inI_iff, decide_eq_true_eq, decide_eq_false_iff_not]; (try simp only [natc, getI_gi, at2_0, at2_1]); (try dsimp only [Ty.den]); try simp only [natc] at *))
  · have hB := z3 (by assumption)
    have hW := hno hB
    rw [hB, hW.1, hW.2]
    refine EndG.viaX (fun w0 B hd a w val hR => hR.nilR 43 3 .int [.box 1 0]) ?_
    refine EndG.nil 59 (.pr .int .int) [.box 1 1] [3, 4] ?_
    cbv
    all_goals (try (simp only [IfP_iff, EqU_iff, Obl_iff, and_true, true_and, inI_iff, decide_eq_true_eq, decide_eq_false_iff_not]; (try simp only [natc, getI_gi, at2_0, at2_1]); (try dsimp only [Ty.den]); try simp only [natc] at *))
  · have hB := z4 (by assumption) (by assumption) (by assumption)
    have s2 := s2 hB
    rw [hB]
    refine call_own 2 s2 (by cbv) (by exact ⟨.inr ⟨rfl, rfl⟩, .inl rfl, trivial⟩) ?_
    cbv
    refine EndG.plain [2, 3] ?_
    cbv
    all_goals (try (simp only [IfP_iff, EqU_iff, Obl_iff, and_true, true_and, inI_iff, decide_eq_true_eq, decide_eq_false_iff_not]; (try simp only [natc, getI_gi, at2_0, at2_1]); (try dsimp only [Ty.den]); try simp only [natc] at *))
end Go.Proofs.Ytjkmgdhndbdhoaa.M
/- MatchingSpace: the specification. -/
namespace Go.Proofs.Ytjkmgdhndbdhoaa.M
open Go.RowKit Abs
set_option linter.unusedSimpArgs false
set_option linter.unusedVariables false
set_option maxRecDepth 100000
set_option maxHeartbeats 4000000
theorem sp_matSpace (n : Int) (l : List (Int × Int)) (k : Int) (hl : l.length ≤ 1048576) : Spec2 Try.prog 15 [.agg (.pr .int (.sl (.pr .int .int))) fun _ => (n, l), .int fun _ => k] [] [.cells [.ref 0, .ref 1], .bool fun _ => mspB n l k] [some (.rows 43 3 .int fun _ => mspG n l k), some (.row 59 (.pr .int .int) fun _ => mspQ n l k)] := by
  have hq := sp_good n l hl
  have hk := sp_in k 0 8
  have z1 : (!graphOk n l) = true → mspB n l k = false := fun h => by
    unfold mspB
    rw [show graphOk n l = false by simpa using h]
    rfl
  have z2 : (!(decide (0 ≤ k) && decide (k ≤ 8))) = true → mspB n l k = false := fun h => by
    unfold mspB
    rw [show (decide (0 ≤ k) && decide (k ≤ 8)) = false by rw [Bool.not_eq_true'] at h; exact h]
    simp
  have z3 : 300 < ((grE l k.toNat []).length : Int) → mspB n l k = false := fun h => by
    unfold mspB
    rw [decide_eq_false (show ¬ ((grE l k.toNat []).length : Int) ≤ 300 by omega)]
    simp
  have z4 : (!graphOk n l) = false → (!(decide (0 ≤ k) && decide (k ≤ 8))) = false → ¬ 300 < ((grE l k.toNat []).length : Int) → mspB n l k = true := fun a b c => by
    unfold mspB
    rw [show graphOk n l = true by simpa using a, show (decide (0 ≤ k) && decide (k ≤ 8)) = true by rw [Bool.not_eq_false'] at b; exact b, decide_eq_true (show ((grE l k.toNat []).length : Int) ≤ 300 by omega)]
    rfl
  have s1 : (!graphOk n l) = false → (!(decide (0 ≤ k) && decide (k ≤ 8))) = false → Spec2 Try.prog 34 [.agg (.pr .int (.sl (.pr .int .int))) fun _ => (n, l), .ref 0, .int fun _ => k] [some (.row 3 .int fun _ => [])] [.ref 1] [none, some (.rows 43 3 .int fun _ => grE l k.toNat [])] := fun a b => by
    have b : (decide (0 ≤ k) && decide (k ≤ 8)) = true := by rw [Bool.not_eq_false'] at b; exact b
    simp only [Bool.and_eq_true, decide_eq_true_eq] at b
    exact sp_extendM n l hl (by simpa using a) k.toNat [] k (by simp only [List.length_nil]; omega) b.2 (by rfl)
  have e3 : mspB n l k = true → grE l k.toNat [] = mspG n l k := fun h => by unfold mspG; rw [h, if_pos rfl]
  have hsame := msp_same n k l
  have hrow : ∀ j : Int, 0 ≤ j → j < (mspG n l k).length → (getR .int (mspG n l k) j).length ≤ 1048576 := fun j j0 j1 => by have := msp_row _ (getR_mem j0 j1); omega
  have hlen := msp_len n k l
  have hno := fun h => @msp_no n k l h
  have hqq : ∀ i j, decide (((onlyL (getR .int (mspG n l k) i) (getR .int (mspG n l k) j)).length : Int) = 1) = (fun i j => decide (((onlyL (getR .int (mspG n l k) i) (getR .int (mspG n l k) j)).length : Int) = 1)) i j := fun _ _ => rfl
  generalize (fun i j => decide (((onlyL (getR .int (mspG n l k) i) (getR .int (mspG n l k) j)).length : Int) = 1)) = q at *
  generalize mspQ n l k = Q at *
  generalize mspG n l k = W at *
  generalize mspB n l k = B at *
  generalize grE l k.toNat [] = R at *
  refine fnG [.cst 4 2 37, .tmp 5] Try.func15 rfl (by decide) rfl (by kernel_rfl) (.inr (.inl rfl)) (by kernel_rfl) (Nat.zero_le _) (by simp [Try.ntmps15]) ?_
  cbv
  ((try simp only [IfP_iff, and_true, true_and, decide_eq_true_eq, decide_eq_false_iff_not]); (try simp only [natc, getI_gi, at2_0, at2_1]); (try dsimp only [Ty.den]); (try simp only [natc] at *); (repeat' (first | apply And.intro | intro _)))
  all_goals (repeat' (first | ((first | refine call_q hq (by cbv) ?_ | refine call_pure hq (by cbv) ?_); cbv; ((try simp only [IfP_iff, and_true, true_and, decide_eq_true_eq, decide_eq_false_iff_not]); (try simp only [natc, getI_gi, at2_0, at2_1]); (try dsimp only [Ty.den]); (try simp only [natc] at *); (repeat' (first | apply And.intro | intro _)))) | ((first | refine call_q hk (by cbv) ?_ | refine call_pure hk (by cbv) ?_); cbv; ((try simp only [IfP_iff, and_true, true_and, decide_eq_true_eq, decide_eq_false_iff_not]); (try simp only [natc, getI_gi, at2_0, at2_1]); (try dsimp only [Ty.den]); (try simp only [natc] at *); (repeat' (first | apply And.intro | intro _))))))
  all_goals (try ((try simp only [IfP_iff, and_true, true_and, decide_eq_true_eq, decide_eq_false_iff_not]); (try simp only [natc, getI_gi, at2_0, at2_1]); (try dsimp only [Ty.den]); (try simp only [natc] at *); (repeat' (first | apply And.intro | intro _))))
  all_goals (try (refine call_own 2 (s1 (by assumption) (by assumption)) (by cbv) (by exact ⟨.inl rfl, .inr ⟨rfl, rfl⟩, .inl rfl, trivial⟩) ?_
                  cbv))
  all_goals (try ((try simp only [IfP_iff, and_true, true_and, decide_eq_true_eq, decide_eq_false_iff_not]); (try simp only [natc, getI_gi, at2_0, at2_1]); (try dsimp only [Ty.den]); (try simp only [natc] at *); (repeat' (first | apply And.intro | intro _))))
  · have hB := z1 (by assumption)
    have hW := hno hB
    rw [hB, hW.1, hW.2]
    refine EndG.viaX (fun w0 B hd a w val hR => hR.nilR 43 3 .int [.box 1 0]) ?_
    refine EndG.nil 59 (.pr .int .int) [.box 1 1] [2, 3] ?_
    cbv
    all_goals (try (simp only [IfP_iff, EqU_iff, Obl_iff, and_true, true_and, inI_iff, decide_eq_true_eq, decide_eq_false_iff_not]; (try simp only [natc, getI_gi, at2_0, at2_1]); (try dsimp only [Ty.den]); try simp only [natc] at *))
  · have hB := z2 (by assumption)
    have hW := hno hB
    rw [hB, hW.1, hW.2]
    refine EndG.viaX (fun w0 B hd a w val hR => hR.nilR 43 3 .int [.box 1 0]) ?_
    refine EndG.nil 59 (.pr .int .int) [.box 1 1] [2, 3] ?_
    cbv
    all_goals (try (simp only [IfP_iff, EqU_iff, Obl_iff, and_true, true_and, inI_iff, decide_eq_true_eq, decide_eq_false_iff_not]; (try simp only [natc, getI_gi, at2_0, at2_1]); (try dsimp only [Ty.den]); try simp only [natc] at *))
  · have hB := z3 (by assumption)
    have hW := hno hB
    rw [hB, hW.1, hW.2]
    refine EndG.viaX (fun w0 B hd a w val hR => hR.nilR 43 3 .int [.box 1 0]) ?_
    refine EndG.nil 59 (.pr .int .int) [.box 1 1] [6, 7] ?_
    cbv
    all_goals (try (simp only [IfP_iff, EqU_iff, Obl_iff, and_true, true_and, inI_iff, decide_eq_true_eq, decide_eq_false_iff_not]; (try simp only [natc, getI_gi, at2_0, at2_1]); (try dsimp only [Ty.den]); try simp only [natc] at *))
  · have hB := z4 (by assumption) (by assumption) (by assumption)
    have hR := e3 hB
    clear s1 z1 z2 z3 z4 hno e3
    subst hR
    rw [hB]
    refine loopP (by kernel_rfl) (fun i : Int => 0 ≤ i ∧ i ≤ R.length) (fun i => [(7, .int fun _ => i), (22, .junk), (23, .junk)]) (fun i => [(4, some (.row 59 (.pr .int .int) fun _ => wTo q R.length i.toNat)), (5, some (.box 37 [.ref 3, .ref 4]))]) (fun i => (R.length - i).toNat) (· + 1) 0 (by omega) ?_ ?_
    · cbv
      (simp only [IfP_iff, EqU_iff, Obl_iff, and_true, true_and, inI_iff, decide_eq_true_eq, decide_eq_false_iff_not]; (try simp only [natc, getI_gi, at2_0, at2_1]); (try dsimp only [Ty.den]); try simp only [natc] at *)
      exact rfl
    · intro i hi
      have c1 := wTo_next (q := q) (m := R.length) hi.1
      have c2 := wTo_len q (m := (R.length : Int)) (by omega) i.toNat
      have c3 : wRow q i (i + 1 - (i + 1)).toNat = [] := by rw [show (i + 1 - (i + 1)).toNat = 0 by omega]; rfl
      have c5 : ¬ i < (R.length : Int) → wTo q R.length i.toNat = Q := fun h => by rw [← hsame, show i.toNat = R.length by omega]
      have c6 : (wTo q R.length i.toNat).length ≤ 1600000000 := by omega
      have i0 : 0 ≤ i := hi.1
      clear c2
      cbv
      ((try simp only [IfP_iff, and_true, true_and, decide_eq_true_eq, decide_eq_false_iff_not]); (try simp only [natc, getI_gi, at2_0, at2_1]); (try dsimp only [Ty.den]); (try simp only [natc] at *); (repeat' (first | apply And.intro | intro _)))
      rotate_left 1
      · refine loopP (by kernel_rfl) (fun j : Int => i + 1 ≤ j ∧ (j ≤ R.length ∨ j = i + 1)) (fun j => [(8, .int fun _ => j)]) (fun j => [(4, some (.row 59 (.pr .int .int) fun _ => wTo q R.length i.toNat ++ wRow q i (j - (i + 1)).toNat)), (5, some (.box 37 [.ref 3, .ref 4]))]) (fun j => (R.length - j).toNat) (· + 1) (i + 1) (by omega) ?_ ?_
        · cbv
          (simp only [IfP_iff, EqU_iff, Obl_iff, and_true, true_and, inI_iff, decide_eq_true_eq, decide_eq_false_iff_not]; (try simp only [natc, getI_gi, at2_0, at2_1]); (try dsimp only [Ty.den]); try simp only [natc] at *)
          rw [c3, List.append_nil]
        · intro j hj
          have d1 := wRow_next (q := q) hj.1
          have d2 := wRow_len q i (j - (i + 1)).toNat
          have d4 : ¬ j < (R.length : Int) → wTo q R.length i.toNat ++ wRow q i (j - (i + 1)).toNat = wTo q R.length (i + 1).toNat := fun h => by
            rw [c1, show j = (R.length : Int) by omega]
          have d5 : ((onlyL (getR .int R i) (getR .int R j)).length : Int) = 1 → wTo q R.length i.toNat ++ wRow q i (j - (i + 1)).toNat ++ [(i, j)] = wTo q R.length i.toNat ++ wRow q i (j + 1 - (i + 1)).toNat := fun a => by rw [d1, if_pos (by rw [← hqq, decide_eq_true_eq]; exact a), List.append_assoc]
          have d6 : ¬ ((onlyL (getR .int R i) (getR .int R j)).length : Int) = 1 → wTo q R.length i.toNat ++ wRow q i (j - (i + 1)).toNat = wTo q R.length i.toNat ++ wRow q i (j + 1 - (i + 1)).toNat := fun a => by rw [d1, if_neg (by rw [← hqq, decide_eq_true_eq]; exact a), List.append_nil]
          have d7 : (wTo q R.length i.toNat ++ wRow q i (j - (i + 1)).toNat).length ≤ 1600080000 := by rw [List.length_append]; omega
          have d8 : j < (R.length : Int) → (onlyL (getR .int R i) (getR .int R j)).length ≤ 1048576 := fun h => Nat.le_trans (List.length_filter_le _ _) (hrow i i0 (by omega))
          have sl := fun h : j < (R.length : Int) => sp_loneX (getR .int R i) (getR .int R j) (hrow i i0 (by omega)) (hrow j (by omega) h)
          clear d1 d2 c1 c3 c5 c6 hqq hq hk hrow hsame
          cbv
          ((try simp only [IfP_iff, and_true, true_and, decide_eq_true_eq, decide_eq_false_iff_not]); (try simp only [natc, getI_gi, at2_0, at2_1]); (try dsimp only [Ty.den]); (try simp only [natc] at *); (repeat' (first | apply And.intro | intro _)))
          all_goals (repeat' (first | ((first | refine call_q (sl (by assumption)) (by cbv) ?_ | refine call_pure (sl (by assumption)) (by cbv) ?_); cbv; ((try simp only [IfP_iff, and_true, true_and, decide_eq_true_eq, decide_eq_false_iff_not]); (try simp only [natc, getI_gi, at2_0, at2_1]); (try dsimp only [Ty.den]); (try simp only [natc] at *); (repeat' (first | apply And.intro | intro _))))))
          all_goals (try ((try simp only [IfP_iff, and_true, true_and, decide_eq_true_eq, decide_eq_false_iff_not]); (try simp only [natc, getI_gi, at2_0, at2_1]); (try dsimp only [Ty.den]); (try simp only [natc] at *); (repeat' (first | apply And.intro | intro _))))
          all_goals (try (simp only [IfP_iff, EqU_iff, Obl_iff, and_true, true_and, inI_iff, decide_eq_true_eq, decide_eq_false_iff_not]; (try simp only [natc, getI_gi, at2_0, at2_1]); (try dsimp only [Ty.den]); try simp only [natc] at *))
          all_goals ((repeat' (first | apply And.intro | intro _)) <;> first | omega | (exact d4 (by assumption)) | (exact d5 (by assumption)) | (exact d6 (by assumption)) | (simp only [List.length_cons, List.length_nil] at *; omega) | trace_state)
      · refine EndG.plain [3, 4] ?_
        cbv
        (simp only [IfP_iff, EqU_iff, Obl_iff, and_true, true_and, inI_iff, decide_eq_true_eq, decide_eq_false_iff_not]; (try simp only [natc, getI_gi, at2_0, at2_1]); (try dsimp only [Ty.den]); try simp only [natc] at *)
        exact c5 (by assumption)
      all_goals (try (simp only [IfP_iff, EqU_iff, Obl_iff, and_true, true_and, inI_iff, decide_eq_true_eq, decide_eq_false_iff_not]; (try simp only [natc, getI_gi, at2_0, at2_1]); (try dsimp only [Ty.den]); try simp only [natc] at *))
      all_goals ((repeat' (first | apply And.intro | intro _)) <;> first | omega | trace_state)
end Go.Proofs.Ytjkmgdhndbdhoaa.M
