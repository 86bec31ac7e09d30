/- Parities, in the specification. -/
import Derived.Test.YtibiacfhlbglnaaYbQ
import Derived.Test.YtibiacfhlbglnaaDqQ
import Derived.Test.YtibiacfhlbglnaaQc
namespace Go.Proofs.Ytibiacfhlbglnaa.M
open Go.RowKit Abs
set_option linter.unusedSimpArgs false
set_option linter.unusedVariables false
set_option maxRecDepth 100000
set_option maxHeartbeats 4000000
theorem sp_parity_bad (L : List (List Int)) (l : List (Int × Int)) (hL : L.length ≤ 1048576) (hl : l.length ≤ 1048576) (hm : ∀ s ∈ L, s.length ≤ 1048576) (hb : spaceOk L l = false) : Spec2 Try.prog 26 [.agg (.pr (.sl (.sl .int)) (.sl (.pr .int .int))) fun _ => (L, l)] [] [.ref 0, .bool fun _ => false] [some (.row 3 .int fun _ => [])] := by
  refine fnD [3] [1] [2, 3] Try.func26 rfl (by decide) rfl (by decide) (by kernel_rfl) rfl (by simp [Try.ntmps26]) ?_
  cbv
  repeat' (first | ((first | refine call_q (sp_space L l hL hl hm) (by cbv) ?_ | refine call_pure (sp_space L l hL hl hm) (by cbv) ?_); cbv; ((try simp only [IfP_iff, and_true, true_and, decide_eq_true_eq, decide_eq_false_iff_not]); (try simp only [natc, getI_gi, at2_0, at2_1]); (try dsimp only [Ty.den]); (try simp only [natc] at *); (repeat' (first | apply And.intro | intro _)))))
  all_goals (try (simp only [IfP_iff, EqU_iff, Obl_iff, and_true, true_and, inI_iff, decide_eq_true_eq, decide_eq_false_iff_not]; (try simp only [natc, getI_gi, at2_0, at2_1]); (try dsimp only [Ty.den]); try simp only [natc] at *))
  all_goals (first | omega | (exfalso; clear hm; grind) | skip)
theorem sp_parity_ok (L : List (List Int)) (l : List (Int × Int)) (hL : L.length ≤ 1048576) (hl : l.length ≤ 1048576) (hm : ∀ s ∈ L, s.length ≤ 1048576) (hb : spaceOk L l = true) (r : Nat) (R : List Int) (b : Bool) (hr1 : parOk L l = true → r = 1 ∧ R = parR L l ∧ b = true) (hr2 : parOk L l = false → r = 4 ∧ R = [] ∧ b = false) : Spec2 Try.prog 26 [.agg (.pr (.sl (.sl .int)) (.sl (.pr .int .int))) fun _ => (L, l)] [] [.ref 0, .bool fun _ => b] [some (.row 3 .int fun _ => R)] := by
  have hp := (space_parts hb).2.2.2
  have hn := (space_parts hb).1
  have hps := (parts_ok hp).1
  obtain ⟨n1, n2, n3⟩ := near_ok hp
  have hin := fun i k a b c d => part_in (L := L) (l := l) hp (i := i) (k := k) a b c d
  have hlen : ∀ i : Int, 0 ≤ i → i < ((partsR L l).length : Int) → ((getR .int (partsR L l) i).length : Int) ≤ L.length ∧ 0 < ((getR .int (partsR L l) i).length : Int) := fun i a b => by
    have := (parts_ok hp).2 _ (getR_mem a b)
    have h2 := List.length_pos_iff.2 this.1
    exact ⟨this.2.1, by omega⟩
  have hz := zero_row (n := L.length) (m := (L.length : Int)) (by simp)
  have hs : ∀ i : Int, 0 ≤ i → i < L.length → Spec2 Try.prog 74 [.sl (.sl .int) fun _ => nearR l L.length, .int fun _ => i] [] [.ref 0] [some (.row 3 .int fun _ => distR L l i)] := fun i h0 h1 => sp_spread (nearR l L.length) i h0 (by omega) (by omega) n2 (fun r hr => Nat.le_trans (n3 r hr) hl)
  have hpl : (parR L l).length = L.length := by rw [parR_eq, putTo_len, List.length_replicate]
  have hed : ∀ k : Int, 0 ≤ k → k < (l.length : Int) → (0 ≤ (getI (.pr .int .int) l k).1 ∧ (getI (.pr .int .int) l k).1 < L.length) ∧ (0 ≤ (getI (.pr .int .int) l k).2 ∧ (getI (.pr .int .int) l k).2 < L.length) := fun k a b => by
    have := (pairs_edges hp).1 _ (List.mem_of_getElem? (getI_get (t := (.pr .int .int)) a b))
    exact ⟨⟨this.1, Int.lt_trans this.2.1 this.2.2⟩, ⟨Int.le_trans this.1 (Int.le_of_lt this.2.1), this.2.2⟩⟩
  have hal : parOk L l = true → ∀ k : Int, 0 ≤ k → k < (l.length : Int) → ¬ gi (parR L l) (getI (.pr .int .int) l k).1 = gi (parR L l) (getI (.pr .int .int) l k).2 := fun h k a b => by
    have := List.all_eq_true.1 h _ (List.mem_of_getElem? (getI_get (t := (.pr .int .int)) a b))
    simpa [neB] using this
  have hno : (∀ k : Int, 0 ≤ k → k < (l.length : Int) → ¬ gi (parR L l) (getI (.pr .int .int) l k).1 = gi (parR L l) (getI (.pr .int .int) l k).2) → parOk L l = true := fun h => by
    refine List.all_eq_true.2 fun e he => ?_
    obtain ⟨j, hj, rfl⟩ := List.mem_iff_getElem.1 he
    have h2 := (List.getElem?_eq_some_iff.1 (getI_get (t := (.pr .int .int)) (l := l) (i := (j : Int)) (by omega) (by omega))).2
    simp only [Int.toNat_natCast] at h2
    have := h j (by omega) (by omega)
    rw [← h2] at this
    simpa [neB] using this
  cases hc : parOk L l with
  | true =>
    obtain ⟨rfl, rfl, rfl⟩ := hr1 hc
    refine fnD [3] [1] [2, 3] Try.func26 rfl (by decide) rfl (by decide) (by kernel_rfl) rfl (by simp [Try.ntmps26]) ?_
    cbv
    repeat' (first | ((first | refine call_q (sp_space L l hL hl hm) (by cbv) ?_ | refine call_pure (sp_space L l hL hl hm) (by cbv) ?_); cbv; ((try simp only [IfP_iff, and_true, true_and, decide_eq_true_eq, decide_eq_false_iff_not]); (try simp only [natc, getI_gi, at2_0, at2_1]); (try dsimp only [Ty.den]); (try simp only [natc] at *); (repeat' (first | apply And.intro | intro _)))))
    rotate_right 1
    · refine DrawL.layers2 [(15, .ptr 0 0), (16, .sl (.sl .int) fun _ => L), (17, .int fun _ => L.length), (18, .ref 1), (19, .cells [.sl (.sl .int) fun _ => L, .sl (.pr .int .int) fun _ => l]), (20, .ref 2), (21, .cells [.sl (.sl .int) fun _ => L, .sl (.pr .int .int) fun _ => l]), (22, .ref 3), (4, .ref 1), (5, .ref 2), (6, .ref 3)] [(3, .row 3 .int fun _ => List.replicate (L.length : Int).toNat (zden Ty.int)), (5, .rows 27 3 .int fun _ => nearR l L.length), (7, .rows 27 3 .int fun _ => partsR L l)] [0, 1, 2, 3] (fun i => if i = 3 then some [0, 4, 2, 3] else if i = 5 then some [0, 1, 4, 3] else if i = 7 then some [0, 1, 2, 4] else none)
        [([false, false, false, false, false, false, false, false, false, false, false], [0, 4, 6]), ([true, false, false, false, false, false, false, false, false, false, false], [1, 4, 6]), ([false, false, false, false, true, false, false, false, false, false, false], [0, 5, 6]), ([false, false, false, false, false, false, true, false, false, false, false], [0, 4]), ([true, true, false, false, false, false, false, false, false, false, false], [2, 4, 6]), ([true, false, false, false, true, false, false, false, false, false, false], [1, 5, 6]), ([true, false, false, false, false, false, true, false, false, false, false], [1, 4]), ([false, false, false, false, true, true, false, false, false, false, false], [0, 6]), ([false, false, false, false, true, false, true, false, false, false, false], [0, 5]), ([true, true, true, false, false, false, false, false, false, false, false], [3, 4, 6]), ([true, true, false, false, true, false, false, false, false, false, false], [2, 5, 6]), ([true, true, false, false, false, false, true, false, false, false, false], [2, 4]), ([true, false, false, false, true, true, false, false, false, false, false], [1, 6]), ([true, false, false, false, true, false, true, false, false, false, false], [1, 5]), ([false, false, false, false, true, true, true, false, false, false, false], [0, 7]), ([true, true, true, true, false, false, false, false, false, false, false], [4, 6]), ([true, true, true, false, true, false, false, false, false, false, false], [3, 5, 6]), ([true, true, true, false, false, false, true, false, false, false, false], [3, 4]), ([true, true, false, false, true, true, false, false, false, false, false], [2, 6]), ([true, true, false, false, true, false, true, false, false, false, false], [2, 5]), ([true, false, false, false, true, true, true, false, false, false, false], [1, 7]), ([false, false, false, false, true, true, true, true, false, false, false], [0]), ([true, true, true, true, true, false, false, false, false, false, false], [5, 6]), ([true, true, true, true, false, false, true, false, false, false, false], [4]), ([true, true, true, false, true, true, false, false, false, false, false], [3, 6]), ([true, true, true, false, true, false, true, false, false, false, false], [3, 5]), ([true, true, false, false, true, true, true, false, false, false, false], [2, 7]), ([true, false, false, false, true, true, true, true, false, false, false], [1]), ([true, true, true, true, true, true, false, false, false, false, false], [6]), ([true, true, true, true, true, false, true, false, false, false, false], [5]), ([true, true, true, false, true, true, true, false, false, false, false], [3, 7]), ([true, true, false, false, true, true, true, true, false, false, false], [2]), ([true, true, true, true, true, true, true, false, false, false, false], [7]), ([true, true, true, false, true, true, true, true, false, false, false], [3]), ([true, true, true, true, true, true, true, true, false, false, false], [8]), ([true, true, true, true, true, true, true, true, true, false, false], [9]), ([true, true, true, true, true, true, true, true, true, true, false], [10]), ([true, true, true, true, true, true, true, true, true, true, true], [])] (by kernel_rfl) ?_ ?_
      · cbv
        (simp only [IfP_iff, EqU_iff, Obl_iff, and_true, true_and, inI_iff, decide_eq_true_eq, decide_eq_false_iff_not]; (try simp only [natc, getI_gi, at2_0, at2_1]); (try dsimp only [Ty.den]); try simp only [natc] at *)
      · cbv
        (repeat' (first | apply And.intro | apply EqU.mk))
        all_goals (try (first | trivial | (with_reducible rfl)))
        all_goals (try ((first | refine call_pure (sp_parts L l hL hl hp) (by cbv) ?_ | refine call_pure (sp_lists L l hL hl hp) (by cbv) ?_); cbv; (repeat' (first | apply And.intro | apply EqU.mk)); all_goals (try (first | trivial | (with_reducible rfl)))))
        all_goals (try (simp only [IfP_iff, EqU_iff, Obl_iff, and_true, true_and, inI_iff, decide_eq_true_eq, decide_eq_false_iff_not]; (try simp only [natc, getI_gi, at2_0, at2_1]); (try dsimp only [Ty.den]); try simp only [natc] at *))
        rotate_right 1
        · refine loopP (by kernel_rfl) (fun i : Int => 0 ≤ i ∧ i ≤ (partsR L l).length) (fun i => [(7, .int fun _ => i)]) (fun i => [(1, some (.row 3 .int fun _ => putTo (parG L l) (partsR L l) (List.replicate L.length 0) i.toNat))]) (fun i => ((partsR L l).length - i).toNat) (· + 1) 0 (by simp) ?_ ?_
          · cbv
            (simp only [IfP_iff, EqU_iff, Obl_iff, and_true, true_and, inI_iff, decide_eq_true_eq, decide_eq_false_iff_not]; (try simp only [natc, getI_gi, at2_0, at2_1]); (try dsimp only [Ty.den]); try simp only [natc] at *)
            rw [putTo_zero]
            exact hz
          · intro i hi
            have e1 := putTo_next (F := parG L l) (P := partsR L l) (o := List.replicate L.length 0) hi.1
            have e2 := putTo_len (F := parG L l) (P := partsR L l) (o := List.replicate L.length 0) i.toNat
            have e3 : ¬ i < ((partsR L l).length : Int) → putTo (parG L l) (partsR L l) (List.replicate L.length 0) i.toNat = parR L l := fun a => by
              rw [parR_eq, show i.toNat = (partsR L l).length by omega]
            have e4 := hlen i hi.1
            have e5 := hin i
            rw [List.length_replicate] at e2
            cbv
            ((try simp only [IfP_iff, and_true, true_and, decide_eq_true_eq, decide_eq_false_iff_not]); (try simp only [natc, getI_gi, at2_0, at2_1]); (try dsimp only [Ty.den]); (try simp only [natc] at *); (repeat' (first | apply And.intro | intro _)))
            rotate_left 2
            · have hin2 : i < ((partsR L l).length : Int) := by omega
              have g5 := e4 hin2
              have g6 := e5 0 hi.1 hin2 (by omega) (by omega)
              have g8 := (dist_ok (i := gi (getR .int (partsR L l) i) 0) hp g6.1 g6.2).1
              ((first | refine call_q (hs (gi (getR .int (partsR L l) i) 0) g6.1 g6.2) (by cbv) ?_ | refine call_pure (hs (gi (getR .int (partsR L l) i) 0) g6.1 g6.2) (by cbv) ?_); cbv; ((try simp only [IfP_iff, and_true, true_and, decide_eq_true_eq, decide_eq_false_iff_not]); (try simp only [natc, getI_gi, at2_0, at2_1]); (try dsimp only [Ty.den]); (try simp only [natc] at *); (repeat' (first | apply And.intro | intro _))))
              refine loopP (by kernel_rfl) (fun k : Int => 0 ≤ k ∧ k ≤ (getR .int (partsR L l) i).length) (fun k => [(9, .int fun _ => k)]) (fun k => [(1, some (.row 3 .int fun _ => putAll (parG L l i) ((getR .int (partsR L l) i).take k.toNat) (putTo (parG L l) (partsR L l) (List.replicate L.length 0) i.toNat)))]) (fun k => ((getR .int (partsR L l) i).length - k).toNat) (· + 1) 0 (by simp) ?_ ?_
              · cbv
                (simp only [IfP_iff, EqU_iff, Obl_iff, and_true, true_and, inI_iff, decide_eq_true_eq, decide_eq_false_iff_not]; (try simp only [natc, getI_gi, at2_0, at2_1]); (try dsimp only [Ty.den]); try simp only [natc] at *)
                rw [putAll_zero]
              · intro k hk
                have g1 := putAll_next (f := parG L l i) (p := getR .int (partsR L l) i) (o := putTo (parG L l) (partsR L l) (List.replicate L.length 0) i.toNat) hk.1
                have g2 := putAll_len (f := parG L l i) (p := (getR .int (partsR L l) i).take k.toNat) (o := putTo (parG L l) (partsR L l) (List.replicate L.length 0) i.toNat)
                have g3 := take_all (l := getR .int (partsR L l) i) (i := k)
                have g4 := fun b => e5 k hi.1 hin2 hk.1 b
                clear e4 e5 hin hlen hs hr1 hr2 n2 n3 hm hed hal hno
                cbv
                ((try simp only [IfP_iff, and_true, true_and, decide_eq_true_eq, decide_eq_false_iff_not]); (try simp only [natc, getI_gi, at2_0, at2_1]); (try dsimp only [Ty.den]); (try simp only [natc] at *); (repeat' (first | apply And.intro | intro _)))
                all_goals (try (simp only [IfP_iff, EqU_iff, Obl_iff, and_true, true_and, inI_iff, decide_eq_true_eq, decide_eq_false_iff_not]; (try simp only [natc, getI_gi, at2_0, at2_1]); (try dsimp only [Ty.den]); try simp only [natc] at *))
                all_goals ((repeat' (first | apply And.intro | intro _)) <;> first | omega | exact (g1 (by omega)).symm | (rw [e1, g3 (by omega)]; done) | (have := g4 (by omega); omega) | trace_state)
            · rw [e3 (by omega)]
              refine loopP (by kernel_rfl) (fun k : Int => (0 ≤ k ∧ k ≤ l.length) ∧ ∀ j : Int, 0 ≤ j → j < k → ¬ gi (parR L l) (getI (.pr .int .int) l j).1 = gi (parR L l) (getI (.pr .int .int) l j).2) (fun k => [(10, .int fun _ => k)]) (fun _ => []) (fun k => (l.length - k).toNat) (· + 1) 0 ⟨by simp, fun j a b => by omega⟩ ?_ ?_
              · cbv
                (simp only [IfP_iff, EqU_iff, Obl_iff, and_true, true_and, inI_iff, decide_eq_true_eq, decide_eq_false_iff_not]; (try simp only [natc, getI_gi, at2_0, at2_1]); (try dsimp only [Ty.den]); try simp only [natc] at *)
              · intro k hk
                have k0 := hk.1.1
                have k1 := hk.1.2
                have d1 := hed k k0
                have d2 := hpl
                have d3 : ¬ gi (parR L l) (getI (.pr .int .int) l k).1 = gi (parR L l) (getI (.pr .int .int) l k).2 → ∀ j : Int, 0 ≤ j → j < k + 1 → ¬ gi (parR L l) (getI (.pr .int .int) l j).1 = gi (parR L l) (getI (.pr .int .int) l j).2 := fun h j j0 j1 => by
                  by_cases e : j = k
                  · rw [e]; exact h
                  · exact hk.2 j j0 (by omega)
                have d4 : ¬ k < (l.length : Int) → parOk L l = true := fun a => hno fun j j0 j1 => hk.2 j j0 (by omega)
                have d5 := fun h => hal h k k0
                clear e4 e5 hin hlen hs hr1 hr2 n2 n3 hm hed hal hno
                cbv
                ((try simp only [IfP_iff, and_true, true_and, decide_eq_true_eq, decide_eq_false_iff_not]); (try simp only [natc, getI_gi, at2_0, at2_1]); (try dsimp only [Ty.den]); (try simp only [natc] at *); (repeat' (first | apply And.intro | intro _)))
                all_goals (try (simp only [IfP_iff, EqU_iff, Obl_iff, and_true, true_and, inI_iff, decide_eq_true_eq, decide_eq_false_iff_not]; (try simp only [natc, getI_gi, at2_0, at2_1]); (try dsimp only [Ty.den]); try simp only [natc] at *))
                all_goals (try (exact ⟨⟨⟨by omega, by omega⟩, d3 (by assumption)⟩, by omega⟩))
                all_goals ((repeat' (first | apply And.intro | intro _)) <;> first | omega | (rw [d2]; exact (d1 (by assumption)).1.1) | (rw [d2]; exact (d1 (by assumption)).1.2) | (rw [d2]; exact (d1 (by assumption)).2.2) | exact (d1 (by assumption)).1.1 | exact (d1 (by assumption)).2.1 | exact absurd (by assumption) (d5 hc (by assumption)) | (exfalso; have h0 := d4 (by assumption); rw [hc] at h0; exact absurd h0 (by decide)) | trace_state)
            all_goals (try (simp only [IfP_iff, EqU_iff, Obl_iff, and_true, true_and, inI_iff, decide_eq_true_eq, decide_eq_false_iff_not]; (try simp only [natc, getI_gi, at2_0, at2_1]); (try dsimp only [Ty.den]); try simp only [natc] at *))
            all_goals ((repeat' (first | apply And.intro | intro _)) <;> first | omega | (have := e4 (by omega); omega) | trace_state)
        all_goals (try (simp only [IfP_iff, EqU_iff, Obl_iff, and_true, true_and, inI_iff, decide_eq_true_eq, decide_eq_false_iff_not]; (try simp only [natc, getI_gi, at2_0, at2_1]); (try dsimp only [Ty.den]); try simp only [natc] at *))
        all_goals ((repeat' (first | apply And.intro | intro _)) <;> first | omega | trace_state)
    all_goals (try (simp only [IfP_iff, EqU_iff, Obl_iff, and_true, true_and, inI_iff, decide_eq_true_eq, decide_eq_false_iff_not]; (try simp only [natc, getI_gi, at2_0, at2_1]); (try dsimp only [Ty.den]); try simp only [natc] at *))
    all_goals ((repeat' (first | apply And.intro | intro _)) <;> first | omega | (exfalso; rw [hb] at *; simp_all; done) | trace_state)
  | false =>
    obtain ⟨rfl, rfl, rfl⟩ := hr2 hc
    refine fnD [3] [4] [2, 3] Try.func26 rfl (by decide) rfl (by decide) (by kernel_rfl) rfl (by simp [Try.ntmps26]) ?_
    cbv
    repeat' (first | ((first | refine call_q (sp_space L l hL hl hm) (by cbv) ?_ | refine call_pure (sp_space L l hL hl hm) (by cbv) ?_); cbv; ((try simp only [IfP_iff, and_true, true_and, decide_eq_true_eq, decide_eq_false_iff_not]); (try simp only [natc, getI_gi, at2_0, at2_1]); (try dsimp only [Ty.den]); (try simp only [natc] at *); (repeat' (first | apply And.intro | intro _)))))
    rotate_right 1
    · refine DrawL.layers2 [(15, .ptr 0 0), (16, .sl (.sl .int) fun _ => L), (17, .int fun _ => L.length), (18, .ref 1), (19, .cells [.sl (.sl .int) fun _ => L, .sl (.pr .int .int) fun _ => l]), (20, .ref 2), (21, .cells [.sl (.sl .int) fun _ => L, .sl (.pr .int .int) fun _ => l]), (22, .ref 3), (4, .ref 1), (5, .ref 2), (6, .ref 3)] [(3, .row 3 .int fun _ => List.replicate (L.length : Int).toNat (zden Ty.int)), (5, .rows 27 3 .int fun _ => nearR l L.length), (7, .rows 27 3 .int fun _ => partsR L l)] [0, 1, 2, 3] (fun i => if i = 3 then some [0, 4, 2, 3] else if i = 5 then some [0, 1, 4, 3] else if i = 7 then some [0, 1, 2, 4] else none)
        [([false, false, false, false, false, false, false, false, false, false, false], [0, 4, 6]), ([true, false, false, false, false, false, false, false, false, false, false], [1, 4, 6]), ([false, false, false, false, true, false, false, false, false, false, false], [0, 5, 6]), ([false, false, false, false, false, false, true, false, false, false, false], [0, 4]), ([true, true, false, false, false, false, false, false, false, false, false], [2, 4, 6]), ([true, false, false, false, true, false, false, false, false, false, false], [1, 5, 6]), ([true, false, false, false, false, false, true, false, false, false, false], [1, 4]), ([false, false, false, false, true, true, false, false, false, false, false], [0, 6]), ([false, false, false, false, true, false, true, false, false, false, false], [0, 5]), ([true, true, true, false, false, false, false, false, false, false, false], [3, 4, 6]), ([true, true, false, false, true, false, false, false, false, false, false], [2, 5, 6]), ([true, true, false, false, false, false, true, false, false, false, false], [2, 4]), ([true, false, false, false, true, true, false, false, false, false, false], [1, 6]), ([true, false, false, false, true, false, true, false, false, false, false], [1, 5]), ([false, false, false, false, true, true, true, false, false, false, false], [0, 7]), ([true, true, true, true, false, false, false, false, false, false, false], [4, 6]), ([true, true, true, false, true, false, false, false, false, false, false], [3, 5, 6]), ([true, true, true, false, false, false, true, false, false, false, false], [3, 4]), ([true, true, false, false, true, true, false, false, false, false, false], [2, 6]), ([true, true, false, false, true, false, true, false, false, false, false], [2, 5]), ([true, false, false, false, true, true, true, false, false, false, false], [1, 7]), ([false, false, false, false, true, true, true, true, false, false, false], [0]), ([true, true, true, true, true, false, false, false, false, false, false], [5, 6]), ([true, true, true, true, false, false, true, false, false, false, false], [4]), ([true, true, true, false, true, true, false, false, false, false, false], [3, 6]), ([true, true, true, false, true, false, true, false, false, false, false], [3, 5]), ([true, true, false, false, true, true, true, false, false, false, false], [2, 7]), ([true, false, false, false, true, true, true, true, false, false, false], [1]), ([true, true, true, true, true, true, false, false, false, false, false], [6]), ([true, true, true, true, true, false, true, false, false, false, false], [5]), ([true, true, true, false, true, true, true, false, false, false, false], [3, 7]), ([true, true, false, false, true, true, true, true, false, false, false], [2]), ([true, true, true, true, true, true, true, false, false, false, false], [7]), ([true, true, true, false, true, true, true, true, false, false, false], [3]), ([true, true, true, true, true, true, true, true, false, false, false], [8]), ([true, true, true, true, true, true, true, true, true, false, false], [9]), ([true, true, true, true, true, true, true, true, true, true, false], [10]), ([true, true, true, true, true, true, true, true, true, true, true], [])] (by kernel_rfl) ?_ ?_
      · cbv
        (simp only [IfP_iff, EqU_iff, Obl_iff, and_true, true_and, inI_iff, decide_eq_true_eq, decide_eq_false_iff_not]; (try simp only [natc, getI_gi, at2_0, at2_1]); (try dsimp only [Ty.den]); try simp only [natc] at *)
      · cbv
        (repeat' (first | apply And.intro | apply EqU.mk))
        all_goals (try (first | trivial | (with_reducible rfl)))
        all_goals (try ((first | refine call_pure (sp_parts L l hL hl hp) (by cbv) ?_ | refine call_pure (sp_lists L l hL hl hp) (by cbv) ?_); cbv; (repeat' (first | apply And.intro | apply EqU.mk)); all_goals (try (first | trivial | (with_reducible rfl)))))
        all_goals (try (simp only [IfP_iff, EqU_iff, Obl_iff, and_true, true_and, inI_iff, decide_eq_true_eq, decide_eq_false_iff_not]; (try simp only [natc, getI_gi, at2_0, at2_1]); (try dsimp only [Ty.den]); try simp only [natc] at *))
        rotate_right 1
        · refine loopP (by kernel_rfl) (fun i : Int => 0 ≤ i ∧ i ≤ (partsR L l).length) (fun i => [(7, .int fun _ => i)]) (fun i => [(1, some (.row 3 .int fun _ => putTo (parG L l) (partsR L l) (List.replicate L.length 0) i.toNat))]) (fun i => ((partsR L l).length - i).toNat) (· + 1) 0 (by simp) ?_ ?_
          · cbv
            (simp only [IfP_iff, EqU_iff, Obl_iff, and_true, true_and, inI_iff, decide_eq_true_eq, decide_eq_false_iff_not]; (try simp only [natc, getI_gi, at2_0, at2_1]); (try dsimp only [Ty.den]); try simp only [natc] at *)
            rw [putTo_zero]
            exact hz
          · intro i hi
            have e1 := putTo_next (F := parG L l) (P := partsR L l) (o := List.replicate L.length 0) hi.1
            have e2 := putTo_len (F := parG L l) (P := partsR L l) (o := List.replicate L.length 0) i.toNat
            have e3 : ¬ i < ((partsR L l).length : Int) → putTo (parG L l) (partsR L l) (List.replicate L.length 0) i.toNat = parR L l := fun a => by
              rw [parR_eq, show i.toNat = (partsR L l).length by omega]
            have e4 := hlen i hi.1
            have e5 := hin i
            rw [List.length_replicate] at e2
            cbv
            ((try simp only [IfP_iff, and_true, true_and, decide_eq_true_eq, decide_eq_false_iff_not]); (try simp only [natc, getI_gi, at2_0, at2_1]); (try dsimp only [Ty.den]); (try simp only [natc] at *); (repeat' (first | apply And.intro | intro _)))
            rotate_left 2
            · have hin2 : i < ((partsR L l).length : Int) := by omega
              have g5 := e4 hin2
              have g6 := e5 0 hi.1 hin2 (by omega) (by omega)
              have g8 := (dist_ok (i := gi (getR .int (partsR L l) i) 0) hp g6.1 g6.2).1
              ((first | refine call_q (hs (gi (getR .int (partsR L l) i) 0) g6.1 g6.2) (by cbv) ?_ | refine call_pure (hs (gi (getR .int (partsR L l) i) 0) g6.1 g6.2) (by cbv) ?_); cbv; ((try simp only [IfP_iff, and_true, true_and, decide_eq_true_eq, decide_eq_false_iff_not]); (try simp only [natc, getI_gi, at2_0, at2_1]); (try dsimp only [Ty.den]); (try simp only [natc] at *); (repeat' (first | apply And.intro | intro _))))
              refine loopP (by kernel_rfl) (fun k : Int => 0 ≤ k ∧ k ≤ (getR .int (partsR L l) i).length) (fun k => [(9, .int fun _ => k)]) (fun k => [(1, some (.row 3 .int fun _ => putAll (parG L l i) ((getR .int (partsR L l) i).take k.toNat) (putTo (parG L l) (partsR L l) (List.replicate L.length 0) i.toNat)))]) (fun k => ((getR .int (partsR L l) i).length - k).toNat) (· + 1) 0 (by simp) ?_ ?_
              · cbv
                (simp only [IfP_iff, EqU_iff, Obl_iff, and_true, true_and, inI_iff, decide_eq_true_eq, decide_eq_false_iff_not]; (try simp only [natc, getI_gi, at2_0, at2_1]); (try dsimp only [Ty.den]); try simp only [natc] at *)
                rw [putAll_zero]
              · intro k hk
                have g1 := putAll_next (f := parG L l i) (p := getR .int (partsR L l) i) (o := putTo (parG L l) (partsR L l) (List.replicate L.length 0) i.toNat) hk.1
                have g2 := putAll_len (f := parG L l i) (p := (getR .int (partsR L l) i).take k.toNat) (o := putTo (parG L l) (partsR L l) (List.replicate L.length 0) i.toNat)
                have g3 := take_all (l := getR .int (partsR L l) i) (i := k)
                have g4 := fun b => e5 k hi.1 hin2 hk.1 b
                clear e4 e5 hin hlen hs hr1 hr2 n2 n3 hm hed hal hno
                cbv
                ((try simp only [IfP_iff, and_true, true_and, decide_eq_true_eq, decide_eq_false_iff_not]); (try simp only [natc, getI_gi, at2_0, at2_1]); (try dsimp only [Ty.den]); (try simp only [natc] at *); (repeat' (first | apply And.intro | intro _)))
                all_goals (try (simp only [IfP_iff, EqU_iff, Obl_iff, and_true, true_and, inI_iff, decide_eq_true_eq, decide_eq_false_iff_not]; (try simp only [natc, getI_gi, at2_0, at2_1]); (try dsimp only [Ty.den]); try simp only [natc] at *))
                all_goals ((repeat' (first | apply And.intro | intro _)) <;> first | omega | exact (g1 (by omega)).symm | (rw [e1, g3 (by omega)]; done) | (have := g4 (by omega); omega) | trace_state)
            · rw [e3 (by omega)]
              refine loopP (by kernel_rfl) (fun k : Int => (0 ≤ k ∧ k ≤ l.length) ∧ ∀ j : Int, 0 ≤ j → j < k → ¬ gi (parR L l) (getI (.pr .int .int) l j).1 = gi (parR L l) (getI (.pr .int .int) l j).2) (fun k => [(10, .int fun _ => k)]) (fun _ => []) (fun k => (l.length - k).toNat) (· + 1) 0 ⟨by simp, fun j a b => by omega⟩ ?_ ?_
              · cbv
                (simp only [IfP_iff, EqU_iff, Obl_iff, and_true, true_and, inI_iff, decide_eq_true_eq, decide_eq_false_iff_not]; (try simp only [natc, getI_gi, at2_0, at2_1]); (try dsimp only [Ty.den]); try simp only [natc] at *)
              · intro k hk
                have k0 := hk.1.1
                have k1 := hk.1.2
                have d1 := hed k k0
                have d2 := hpl
                have d3 : ¬ gi (parR L l) (getI (.pr .int .int) l k).1 = gi (parR L l) (getI (.pr .int .int) l k).2 → ∀ j : Int, 0 ≤ j → j < k + 1 → ¬ gi (parR L l) (getI (.pr .int .int) l j).1 = gi (parR L l) (getI (.pr .int .int) l j).2 := fun h j j0 j1 => by
                  by_cases e : j = k
                  · rw [e]; exact h
                  · exact hk.2 j j0 (by omega)
                have d4 : ¬ k < (l.length : Int) → parOk L l = true := fun a => hno fun j j0 j1 => hk.2 j j0 (by omega)
                have d5 := fun h => hal h k k0
                clear e4 e5 hin hlen hs hr1 hr2 n2 n3 hm hed hal hno
                cbv
                ((try simp only [IfP_iff, and_true, true_and, decide_eq_true_eq, decide_eq_false_iff_not]); (try simp only [natc, getI_gi, at2_0, at2_1]); (try dsimp only [Ty.den]); (try simp only [natc] at *); (repeat' (first | apply And.intro | intro _)))
                all_goals (try (simp only [IfP_iff, EqU_iff, Obl_iff, and_true, true_and, inI_iff, decide_eq_true_eq, decide_eq_false_iff_not]; (try simp only [natc, getI_gi, at2_0, at2_1]); (try dsimp only [Ty.den]); try simp only [natc] at *))
                all_goals (try (exact ⟨⟨⟨by omega, by omega⟩, d3 (by assumption)⟩, by omega⟩))
                all_goals ((repeat' (first | apply And.intro | intro _)) <;> first | omega | (rw [d2]; exact (d1 (by assumption)).1.1) | (rw [d2]; exact (d1 (by assumption)).1.2) | (rw [d2]; exact (d1 (by assumption)).2.2) | exact (d1 (by assumption)).1.1 | exact (d1 (by assumption)).2.1 | exact absurd (by assumption) (d5 hc (by assumption)) | (exfalso; have h0 := d4 (by assumption); rw [hc] at h0; exact absurd h0 (by decide)) | trace_state)
            all_goals (try (simp only [IfP_iff, EqU_iff, Obl_iff, and_true, true_and, inI_iff, decide_eq_true_eq, decide_eq_false_iff_not]; (try simp only [natc, getI_gi, at2_0, at2_1]); (try dsimp only [Ty.den]); try simp only [natc] at *))
            all_goals ((repeat' (first | apply And.intro | intro _)) <;> first | omega | (have := e4 (by omega); omega) | trace_state)
        all_goals (try (simp only [IfP_iff, EqU_iff, Obl_iff, and_true, true_and, inI_iff, decide_eq_true_eq, decide_eq_false_iff_not]; (try simp only [natc, getI_gi, at2_0, at2_1]); (try dsimp only [Ty.den]); try simp only [natc] at *))
        all_goals ((repeat' (first | apply And.intro | intro _)) <;> first | omega | trace_state)
    all_goals (try (simp only [IfP_iff, EqU_iff, Obl_iff, and_true, true_and, inI_iff, decide_eq_true_eq, decide_eq_false_iff_not]; (try simp only [natc, getI_gi, at2_0, at2_1]); (try dsimp only [Ty.den]); try simp only [natc] at *))
    all_goals ((repeat' (first | apply And.intro | intro _)) <;> first | omega | (exfalso; rw [hb] at *; simp_all; done) | trace_state)
theorem sp_parity (L : List (List Int)) (l : List (Int × Int)) (hL : L.length ≤ 1048576) (hl : l.length ≤ 1048576) (hm : ∀ s ∈ L, s.length ≤ 1048576) : Spec2 Try.prog 26 [.agg (.pr (.sl (.sl .int)) (.sl (.pr .int .int))) fun _ => (L, l)] [] [.ref 0, .bool fun _ => parB L l] [some (.row 3 .int fun _ => parF L l)] := by
  unfold parF
  cases h : spaceOk L l with
  | false =>
    have e : parB L l = false := by unfold parB; rw [h]; rfl
    rw [e, if_neg (by simp)]
    exact sp_parity_bad L l hL hl hm h
  | true =>
    have e : parB L l = parOk L l := by unfold parB; rw [h]; rfl
    rw [e]
    cases hc : parOk L l with
    | true => exact sp_parity_ok L l hL hl hm h 1 _ _ (fun _ => ⟨rfl, rfl, rfl⟩) (fun a => by rw [hc] at a; cases a)
    | false => exact sp_parity_ok L l hL hl hm h 4 _ _ (fun a => by rw [hc] at a; cases a) (fun _ => ⟨rfl, rfl, rfl⟩)
theorem par_bound {L : List (List Int)} {l : List (Int × Int)} : (parF L l).length ≤ 1048576 := by
  unfold parF
  split
  · rename_i h
    unfold parB at h
    rw [Bool.and_eq_true] at h
    have := (space_parts h.1).1
    rw [parR_eq, putTo_len, List.length_replicate]
    omega
  · simp
end Go.Proofs.Ytibiacfhlbglnaa.M
