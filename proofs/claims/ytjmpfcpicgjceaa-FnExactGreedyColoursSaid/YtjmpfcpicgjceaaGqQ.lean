/- Greedy colours, on both sides. -/
import Derived.Test.YtjmpfcpicgjceaaGpQ
import Derived.Test.YtjmpfcpicgjceaaGlQ
import Derived.Test.YtjmpfcpicgjceaaRnQ
import Derived.Test.YtjmpfcpicgjceaaQc
namespace Go.Proofs.Ytjmpfcpicgjceaa.M
open Go.RowKit Abs
set_option linter.unusedSimpArgs false
set_option linter.unusedVariables false
set_option maxRecDepth 100000
set_option maxHeartbeats 4000000
theorem ord_in {n : Int} {od : List Int} (h : ordOk n od) : ∀ v ∈ od, 0 ≤ v ∧ v < n := fun v hv => by
  by_cases hc : 0 ≤ v ∧ v < n
  · exact hc
  · exfalso
    have h2 := cover_len n.toNat (od.erase v) fun c c0 c1 => (List.mem_erase_of_ne (by omega)).2 (h.2 c c0 (by omega))
    rw [List.length_erase_of_mem hv] at h2
    have : 0 < od.length := List.length_pos_of_mem hv
    have := h.1
    omega
theorem each_ord {n : Int} {od : List Int} (h : eachB od n = true) : ordOk n od := by
  unfold eachB at h
  simp only [Bool.and_eq_true, decide_eq_true_eq] at h
  exact ⟨h.1, fun c c0 c1 => hasB_iff.1 (allI_get h.2 c0 (by omega))⟩
theorem gi_self {o : List Int} {x c : Int} (h0 : 0 ≤ x) (h1 : x < o.length) : gi (setI o x c) x = c := by
  rw [gi_set, if_pos ⟨rfl, by omega⟩]
theorem set_set {o : List Int} {x c d : Int} : setI (setI o x c) x d = setI o x d := by
  unfold setI
  rw [List.set_set]
theorem set_same {o : List Int} {x c : Int} (h0 : 0 ≤ x) (h1 : x < o.length) (h : gi o x = c) : setI o x c = o := by
  unfold setI
  refine List.ext_getElem (by simp) fun i a b => ?_
  rw [List.getElem_set]
  by_cases e : x.toNat = i
  · rw [if_pos e, ← h]
    have := gi_get (l := o) h0 h1
    rw [e, List.getElem?_eq_getElem b] at this
    exact (Option.some.inj this).symm
  · rw [if_neg e]
def gcOk (n : Int) (l : List (Int × Int)) (od : List Int) : Bool := graphOk n l && eachB od n
def gcR (n : Int) (l : List (Int × Int)) (od : List Int) : List Int := if gcOk n l od = true then oAt n l od od.length else []
structure GFacts (n : Int) (l : List (Int × Int)) (od : List Int) : Prop where
  g0 : 0 ≤ n
  g1 : n ≤ 8
  g2 : ∀ e ∈ l, 0 ≤ e.1 ∧ e.1 < e.2 ∧ e.2 < n
  gr : graphOk n l = true
  ea : eachB od n = true
  ord : ordOk n od
  rg : ∀ v ∈ od, 0 ≤ v ∧ v < n
  inv : ∀ k : Nat, k ≤ od.length → GInv n l od k
theorem gc_in {n : Int} {l : List (Int × Int)} {od : List Int} (h : gcOk n l od = true) : GFacts n l od := by
  unfold gcOk at h
  rw [Bool.and_eq_true] at h
  obtain ⟨⟨g0, g1⟩, g2, _⟩ := graph_edges h.1
  have ho := each_ord h.2
  exact ⟨g0, g1, g2, h.1, h.2, ho, ord_in ho, ginv_all g0 g1 g2 ho (ord_in ho)⟩
theorem gc_len (n : Int) (l : List (Int × Int)) (od : List Int) : (gcR n l od).length ≤ 1048576 := by
  unfold gcR
  split
  · rename_i h
    have F := gc_in h
    have := (F.inv od.length (Nat.le_refl _)).lo
    have := F.g1
    omega
  · simp
theorem take_eq {n : Int} {l : List (Int × Int)} {od : List Int} (F : GFacts n l od) : subL (pAt l od od.length) 0 n = oAt n l od od.length := by
  have I := F.inv od.length (Nat.le_refl _)
  have h1 := I.lp
  have h2 := I.lo
  have h3 := F.g1
  have h4 := F.g0
  unfold subL
  rw [show (0 : Int).toNat = 0 from rfl, List.drop_zero]
  refine List.ext_getElem (by rw [List.length_take]; omega) fun i a b => ?_
  rw [List.getElem_take]
  have hm : (i : Int) ∈ od.take od.length := by rw [List.take_length]; exact F.ord.2 (i : Int) (by omega) (by omega)
  have hs := (I.same (i : Int) hm).1
  have e1 := gi_get (l := pAt l od od.length) (i := (i : Int)) (by omega) (by omega)
  have e2 := gi_get (l := oAt n l od od.length) (i := (i : Int)) (by omega) (by omega)
  simp only [Int.toNat_natCast] at e1 e2
  rw [List.getElem?_eq_getElem (by omega)] at e1 e2
  rw [Option.some.inj e1, Option.some.inj e2, hs]
theorem paint_nil : paintL [] = pAt [] [] 0 := rfl
theorem pAt_next {l : List (Int × Int)} {od : List Int} {i : Int} (h : 0 ≤ i) : pAt l od (i + 1).toNat = setI (pAt l od i.toNat) (gi od i) (LC (amongB (pAt l od i.toNat) (rowV (gi od i) l))) := by
  have e : (i + 1).toNat = i.toNat + 1 := by omega
  rw [e]
  show setI _ (gi od ((i.toNat : Nat) : Int)) _ = _
  rw [Int.toNat_of_nonneg h]
theorem oAt_next {n : Int} {l : List (Int × Int)} {od : List Int} {i : Int} (h : 0 ≤ i) : oAt n l od (i + 1).toNat = setI (oAt n l od i.toNat) (gi od i) (LC (hasB (usedL l od (oAt n l od i.toNat) (gi od i) i.toNat))) := by
  have e : (i + 1).toNat = i.toNat + 1 := by omega
  rw [e]
  show setI _ (gi od ((i.toNat : Nat) : Int)) _ = _
  rw [Int.toNat_of_nonneg h]
theorem im_greedyC (n : Int) (l : List (Int × Int)) (od : List Int) (hl : l.length ≤ 1048576) (hd : od.length ≤ 1048576) : Spec2 Try.prog 40 [.agg (.pr .int (.sl (.pr .int .int))) fun _ => (n, l), .sl .int fun _ => od] [] [.ref 0, .bool fun _ => gcOk n l od] [some (.row 3 .int fun _ => gcR n l od)] := by
  have h9 : gcOk n l od = (graphOk n l && eachB od n) := rfl
  have h2 : gcR n l od = _ := rfl
  conv at h2 => rhs; unfold gcR
  by_cases hb : gcOk n l od = true
  case neg =>
    rw [Bool.not_eq_true] at hb
    have hb2 : gcR n l od = [] := by rw [h2, hb]; rfl
    rw [hb2, hb]
    refine fnS [1] [4, 5] Try.func40 rfl (by decide) rfl (by decide) (by kernel_rfl) rfl (by simp [Try.ntmps40]) ?_
    cbv
    repeat' (first | ((first | refine call_q (im_graph n l hl) (by cbv) ?_ | refine call_pure (im_graph n l hl) (by cbv) ?_); cbv; ((try simp only [IfP_iff, and_true, true_and, decide_eq_true_eq, decide_eq_false_iff_not]); (try simp only [natc, getI_gi, at2_0, at2_1]); (try dsimp only [Ty.den]); (try simp only [natc] at *); (repeat' (first | apply And.intro | intro _)))) | ((first | refine call_q (im_eachOnce od n hd) (by cbv) ?_ | refine call_pure (im_eachOnce od n hd) (by cbv) ?_); cbv; ((try simp only [IfP_iff, and_true, true_and, decide_eq_true_eq, decide_eq_false_iff_not]); (try simp only [natc, getI_gi, at2_0, at2_1]); (try dsimp only [Ty.den]); (try simp only [natc] at *); (repeat' (first | apply And.intro | intro _)))))
    all_goals (try (simp only [IfP_iff, EqU_iff, Obl_iff, and_true, true_and, inI_iff, decide_eq_true_eq, decide_eq_false_iff_not]; (try simp only [natc, getI_gi, at2_0, at2_1]); (try dsimp only [Ty.den]); try simp only [natc] at *))
    all_goals (exfalso; rw [hb] at h9; simp_all)
  have F := gc_in hb
  have g0 := F.g0
  have g1 := F.g1
  have g2 := F.g2
  have hgr := F.gr
  have hea := F.ea
  have hln := F.ord.1
  have hb2 : gcR n l od = oAt n l od od.length := by rw [h2, if_pos hb]
  have hz : paintL [] = pAt l od 0 := rfl
  rw [hb2, hb]
  refine fnS [3] [4, 5] Try.func40 rfl (by decide) rfl (by decide) (by kernel_rfl) rfl (by simp [Try.ntmps40]) ?_
  cbv
  repeat' (first | ((first | refine call_q (im_graph n l hl) (by cbv) ?_ | refine call_pure (im_graph n l hl) (by cbv) ?_); cbv; ((try simp only [IfP_iff, and_true, true_and, decide_eq_true_eq, decide_eq_false_iff_not]); (try simp only [natc, getI_gi, at2_0, at2_1]); (try dsimp only [Ty.den]); (try simp only [natc] at *); (repeat' (first | apply And.intro | intro _)))) | ((first | refine call_q (im_eachOnce od n hd) (by cbv) ?_ | refine call_pure (im_eachOnce od n hd) (by cbv) ?_); cbv; ((try simp only [IfP_iff, and_true, true_and, decide_eq_true_eq, decide_eq_false_iff_not]); (try simp only [natc, getI_gi, at2_0, at2_1]); (try dsimp only [Ty.den]); (try simp only [natc] at *); (repeat' (first | apply And.intro | intro _)))) | ((first | refine call_q (im_nearLists l n g0 (by omega) hl g2) (by cbv) ?_ | refine call_pure (im_nearLists l n g0 (by omega) hl g2) (by cbv) ?_); cbv; ((try simp only [IfP_iff, and_true, true_and, decide_eq_true_eq, decide_eq_false_iff_not]); (try simp only [natc, getI_gi, at2_0, at2_1]); (try dsimp only [Ty.den]); (try simp only [natc] at *); (repeat' (first | apply And.intro | intro _)))) | ((first | refine call_q (im_paintingOf [] (by simp)) (by cbv) ?_ | refine call_pure (im_paintingOf [] (by simp)) (by cbv) ?_); cbv; ((try simp only [IfP_iff, and_true, true_and, decide_eq_true_eq, decide_eq_false_iff_not]); (try simp only [natc, getI_gi, at2_0, at2_1]); (try dsimp only [Ty.den]); (try simp only [natc] at *); (repeat' (first | apply And.intro | intro _)))))
  all_goals (try (simp only [IfP_iff, EqU_iff, Obl_iff, and_true, true_and, inI_iff, decide_eq_true_eq, decide_eq_false_iff_not]; (try simp only [natc, getI_gi, at2_0, at2_1]); (try dsimp only [Ty.den]); try simp only [natc] at *))
  rotate_right 1
  · refine loopP (by kernel_rfl) (fun i : Int => 0 ≤ i ∧ i ≤ od.length) (fun i => [(30, .int fun _ => i)]) (fun i => [(2, some (.arr 83 7 .int fun _ => pAt l od i.toNat))]) (fun i => (od.length - i).toNat) (· + 1) 0 (by omega) ?_ ?_
    · cbv
      (simp only [IfP_iff, EqU_iff, Obl_iff, and_true, true_and, inI_iff, decide_eq_true_eq, decide_eq_false_iff_not]; (try simp only [natc, getI_gi, at2_0, at2_1]); (try dsimp only [Ty.den]); try simp only [natc] at *)
      exact hz
    · intro i hi
      have a1 := pAt_next (l := l) (od := od) hi.1
      have a2 := (F.inv i.toNat (by omega)).lp
      have a3 : i < (od.length : Int) → 0 ≤ gi od i ∧ gi od i < n := fun h => F.rg _ (gi_mem hi.1 h)
      have a4 : i < (od.length : Int) → getR .int (nearR l n) (gi od i) = rowV (gi od i) l := fun h => nearR_row (a3 h).1 g2
      have a5 : i < (od.length : Int) → (getR .int (nearR l n) (gi od i)).length ≤ 1048576 ∧ ∀ v ∈ getR .int (nearR l n) (gi od i), 0 ≤ v ∧ v < 8 := fun h => by
        rw [a4 h]
        exact ⟨Nat.le_trans (rowV_len _ _) hl, row_in g1 g2⟩
      have a6 : ∀ c : Int, 0 ≤ c → amongB (pAt l od i.toNat) (rowV (gi od i) l) c = true → c < i := fun c c0 h => by
        have := among_lt g1 g2 (F.inv i.toNat (by omega)) c0 h
        omega
      have a7 : ¬ i < (od.length : Int) → subL (pAt l od i.toNat) 0 n = oAt n l od od.length := fun h => by
        rw [show i.toNat = od.length by omega]
        exact take_eq F
      have a8 := nearR_len l n
      clear h2 h9
      cbv
      ((try simp only [IfP_iff, and_true, true_and, decide_eq_true_eq, decide_eq_false_iff_not]); (try simp only [natc, getI_gi, at2_0, at2_1]); (try dsimp only [Ty.den]); (try simp only [natc] at *); (repeat' (first | apply And.intro | intro _)))
      · (simp only [IfP_iff, EqU_iff, Obl_iff, and_true, true_and, inI_iff, decide_eq_true_eq, decide_eq_false_iff_not]; (try simp only [natc, getI_gi, at2_0, at2_1]); (try dsimp only [Ty.den]); try simp only [natc] at *)
        omega
      · have b1 := a3 (by assumption)
        have b2 := a4 (by assumption)
        have b3 := a5 (by assumption)
        refine loopP (by kernel_rfl) (fun c : Int => 0 ≤ c ∧ c ≤ i ∧ lc (amongB (pAt l od i.toNat) (rowV (gi od i) l)) (9 - c).toNat c = LC (amongB (pAt l od i.toNat) (rowV (gi od i) l))) (fun c => [(10, .int fun _ => c)]) (fun _ => []) (fun c => (9 - c).toNat) (· + 1) 0 ⟨Int.le_refl _, hi.1, rfl⟩ ?_ ?_
        · cbv
          (simp only [IfP_iff, EqU_iff, Obl_iff, and_true, true_and, inI_iff, decide_eq_true_eq, decide_eq_false_iff_not]; (try simp only [natc, getI_gi, at2_0, at2_1]); (try dsimp only [Ty.den]); try simp only [natc] at *)
        · intro c hc
          have c1 := a6 c hc.1
          have c2 : amongB (pAt l od i.toNat) (getR .int (nearR l n) (gi od i)) c = amongB (pAt l od i.toNat) (rowV (gi od i) l) c := by rw [b2]
          have c3 : c < 9 := by omega
          have c4 : amongB (pAt l od i.toNat) (rowV (gi od i) l) c = true → lc (amongB (pAt l od i.toNat) (rowV (gi od i) l)) (9 - (c + 1)).toNat (c + 1) = LC (amongB (pAt l od i.toNat) (rowV (gi od i) l)) := fun h => (lc_next hc.1 c3 h).symm.trans hc.2.2
          have c5 : amongB (pAt l od i.toNat) (rowV (gi od i) l) c = false → pAt l od (i + 1).toNat = setI (pAt l od i.toNat) (gi od i) c := fun h => by
            rw [a1, ← hc.2.2, lc_stop c3 h]
          clear a1 a3 a4 a5 a6 a7
          cbv
          ((try simp only [IfP_iff, and_true, true_and, decide_eq_true_eq, decide_eq_false_iff_not]); (try simp only [natc, getI_gi, at2_0, at2_1]); (try dsimp only [Ty.den]); (try simp only [natc] at *); (repeat' (first | apply And.intro | intro _)))
          all_goals (repeat' (first | ((first | refine call_q (im_among (pAt l od i.toNat) (getR .int (nearR l n) (gi od i)) c a2 b3.2 b3.1) (by cbv) ?_ | refine call_pure (im_among (pAt l od i.toNat) (getR .int (nearR l n) (gi od i)) c a2 b3.2 b3.1) (by cbv) ?_); cbv; ((try simp only [IfP_iff, and_true, true_and, decide_eq_true_eq, decide_eq_false_iff_not]); (try simp only [natc, getI_gi, at2_0, at2_1]); (try dsimp only [Ty.den]); (try simp only [natc] at *); (repeat' (first | apply And.intro | intro _))))))
          all_goals (try clear b3)
          all_goals (try (simp only [IfP_iff, EqU_iff, Obl_iff, and_true, true_and, inI_iff, decide_eq_true_eq, decide_eq_false_iff_not]; (try simp only [natc, getI_gi, at2_0, at2_1]); (try dsimp only [Ty.den]); try simp only [natc] at *))
          all_goals (try rw [c2] at *)
          all_goals ((repeat' (first | apply And.intro | intro _)) <;> first | omega | (exact c4 (by assumption)) | (exact (c5 (by assumption)).symm) | grind)
      · (simp only [IfP_iff, EqU_iff, Obl_iff, and_true, true_and, inI_iff, decide_eq_true_eq, decide_eq_false_iff_not]; (try simp only [natc, getI_gi, at2_0, at2_1]); (try dsimp only [Ty.den]); try simp only [natc] at *)
        omega
      all_goals (repeat' (first | ((first | refine call_q (go_clone (subL (pAt l od i.toNat) 0 n) (by rw [a7 (by assumption)]; have := (F.inv od.length (Nat.le_refl _)).lo; omega)) (by cbv) ?_ | refine call_pure (go_clone (subL (pAt l od i.toNat) 0 n) (by rw [a7 (by assumption)]; have := (F.inv od.length (Nat.le_refl _)).lo; omega)) (by cbv) ?_); cbv; ((try simp only [IfP_iff, and_true, true_and, decide_eq_true_eq, decide_eq_false_iff_not]); (try simp only [natc, getI_gi, at2_0, at2_1]); (try dsimp only [Ty.den]); (try simp only [natc] at *); (repeat' (first | apply And.intro | intro _))))))
      all_goals (try (simp only [IfP_iff, EqU_iff, Obl_iff, and_true, true_and, inI_iff, decide_eq_true_eq, decide_eq_false_iff_not]; (try simp only [natc, getI_gi, at2_0, at2_1]); (try dsimp only [Ty.den]); try simp only [natc] at *))
      all_goals ((repeat' (first | apply And.intro | intro _)) <;> first | omega | (rw [a7 (by assumption)]; done) | (exact a7 (by assumption)) | trace_state)
  all_goals (exfalso; simp_all)
end Go.Proofs.Ytjmpfcpicgjceaa.M
