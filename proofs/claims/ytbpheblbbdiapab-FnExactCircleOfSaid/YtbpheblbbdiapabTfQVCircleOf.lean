/- Cuts: the specification. -/
import Derived.Test.YtbpheblbbdiapabTeQVCircleOf
import Derived.Test.YtbpheblbbdiapabTcQVCircleOf
import Derived.Test.YtbpheblbbdiapabQgVCircleOf
namespace Go.Proofs.Ytbpheblbbdiapab.M
open Go.RowKit Abs
set_option linter.unusedSimpArgs false
set_option linter.unusedVariables false
set_option maxRecDepth 100000
set_option maxHeartbeats 4000000
def cutD (n : Int) (l : List (Int × Int)) (es : List Int) (d : Int) : List Int := (search (farN n (partL l (onlyL es [d]))) (fun _ => true) (getI (.pr .int .int) l d).1).1
def crB (D : List Int) (l : List (Int × Int)) (e : Int) : Bool := !(decide (gi D (getI (.pr .int .int) l e).1 < 0) == decide (gi D (getI (.pr .int .int) l e).2 < 0))
theorem sp_cut (n : Int) (l : List (Int × Int)) (es : List Int) (d : Int) (hl : l.length ≤ 1048576) (he : es.length ≤ 1048576) (hg : graphOk n l = true) (ha : ascB l.length (onlyL es [d]) = true) (d0 : 0 ≤ d) (d1 : d < l.length) : Spec2 Try.prog 41 [.agg (.pr .int (.sl (.pr .int .int))) fun _ => (n, l), .sl .int fun _ => es, .int fun _ => d] [] [.ref 0] [some (.row 3 .int fun _ => pref (crB (cutD n l es d) l) l.length)] := by
  obtain ⟨⟨g0, g1⟩, g2, _⟩ := graph_edges hg
  have t := g2 _ (List.mem_of_getElem? (getI_get (t := (.pr .int .int)) d0 d1))
  have x0 : 0 ≤ (getI (.pr .int .int) l d).1 := t.1
  have x1 : (getI (.pr .int .int) l d).1 < n := Int.lt_trans t.2.1 t.2.2
  have ho : (onlyL es [d]).length ≤ 1048576 := Nat.le_trans (List.length_filter_le _ _) he
  have hd1 : [d].length ≤ 1048576 := by rw [List.length_cons, List.length_nil]; omega
  have hp : (partL l (onlyL es [d])).length ≤ 1048576 := by rw [partL_len]; exact ho
  refine fnE [2] [1] [6] Try.func41 rfl (by decide) rfl (by decide) (by kernel_rfl) (by kernel_rfl) (by simp [Try.ntmps41]) ?_
  cbv
  refine DrawL.layersS [(4, fun S => S.new (some 15) (.ref S.H.length) (.row 3 .int fun _ => onlyL es [d])), (5, fun S => S.new (some 16) (.cells [.int fun _ => n, .ref S.H.length]) (.row 61 (.pr .int .int) fun _ => partL l (onlyL es [d]))), (12, fun S => S.new (some 23) (.ref S.H.length) (.row 3 .int fun _ => cutD n l es d))] [1, 2, 8] (fun _ _ => none) [([false, true, true, false, false, false, false, false, true, false, false, false, false, false], [0, 3, 6]), ([true, true, true, false, false, false, false, false, true, false, false, false, false, false], [3, 6]), ([false, true, true, true, false, false, false, false, true, false, false, false, false, false], [0, 4, 6]), ([false, true, true, false, false, false, true, false, true, false, false, false, false, false], [0, 3, 7]), ([true, true, true, true, false, false, false, false, true, false, false, false, false, false], [4, 6]), ([true, true, true, false, false, false, true, false, true, false, false, false, false, false], [3, 7]), ([false, true, true, true, true, false, false, false, true, false, false, false, false, false], [0, 6]), ([false, true, true, true, false, false, true, false, true, false, false, false, false, false], [0, 4, 7]), ([false, true, true, false, false, false, true, true, true, false, false, false, false, false], [0, 3, 9]), ([true, true, true, true, true, false, false, false, true, false, false, false, false, false], [5, 6]), ([true, true, true, true, false, false, true, false, true, false, false, false, false, false], [4, 7]), ([true, true, true, false, false, false, true, true, true, false, false, false, false, false], [3, 9]), ([false, true, true, true, true, false, true, false, true, false, false, false, false, false], [0, 7]), ([false, true, true, true, false, false, true, true, true, false, false, false, false, false], [0, 4, 9]), ([false, true, true, false, false, false, true, true, true, true, false, false, false, false], [0, 3, 10]), ([true, true, true, true, true, true, false, false, true, false, false, false, false, false], [6]), ([true, true, true, true, true, false, true, false, true, false, false, false, false, false], [5, 7]), ([true, true, true, true, false, false, true, true, true, false, false, false, false, false], [4, 9]), ([true, true, true, false, false, false, true, true, true, true, false, false, false, false], [3, 10]), ([false, true, true, true, true, false, true, true, true, false, false, false, false, false], [0, 9]), ([false, true, true, true, false, false, true, true, true, true, false, false, false, false], [0, 4, 10]), ([false, true, true, false, false, false, true, true, true, true, true, false, false, false], [0, 3, 11]), ([true, true, true, true, true, true, true, false, true, false, false, false, false, false], [7]), ([true, true, true, true, true, false, true, true, true, false, false, false, false, false], [5, 9]), ([true, true, true, true, false, false, true, true, true, true, false, false, false, false], [4, 10]), ([true, true, true, false, false, false, true, true, true, true, true, false, false, false], [3, 11]), ([false, true, true, true, true, false, true, true, true, true, false, false, false, false], [0, 10]), ([false, true, true, true, false, false, true, true, true, true, true, false, false, false], [0, 4, 11]), ([false, true, true, false, false, false, true, true, true, true, true, true, false, false], [0, 3]), ([true, true, true, true, true, true, true, true, true, false, false, false, false, false], [9]), ([true, true, true, true, true, false, true, true, true, true, false, false, false, false], [5, 10]), ([true, true, true, true, false, false, true, true, true, true, true, false, false, false], [4, 11]), ([true, true, true, false, false, false, true, true, true, true, true, true, false, false], [3]), ([false, true, true, true, true, false, true, true, true, true, true, false, false, false], [0, 11]), ([false, true, true, true, false, false, true, true, true, true, true, true, false, false], [0, 4]), ([true, true, true, true, true, true, true, true, true, true, false, false, false, false], [10]), ([true, true, true, true, true, false, true, true, true, true, true, false, false, false], [5, 11]), ([true, true, true, true, false, false, true, true, true, true, true, true, false, false], [4]), ([false, true, true, true, true, false, true, true, true, true, true, true, false, false], [0]), ([true, true, true, true, true, true, true, true, true, true, true, false, false, false], [11]), ([true, true, true, true, true, false, true, true, true, true, true, true, false, false], [5]), ([true, true, true, true, true, true, true, true, true, true, true, true, false, false], [12]), ([true, true, true, true, true, true, true, true, true, true, true, true, true, false], [13]), ([true, true, true, true, true, true, true, true, true, true, true, true, true, true], [])] (by kernel_rfl) (by rfl) ?_
  cbv
  (repeat' (first | apply And.intro | apply EqU.mk))
  all_goals (try trivial)
  all_goals (try (((first | refine call_q (sp_only es [d] he hd1) (by cbv) ?_ | refine call_pure (sp_only es [d] he hd1) (by cbv) ?_); cbv; ((try simp only [IfP_iff, and_true, true_and, decide_eq_true_eq, decide_eq_false_iff_not]); (try simp only [natc, getI_gi, at2_0, at2_1]); (try dsimp only [Ty.den]); (try simp only [natc] at *); (repeat' (first | apply And.intro | intro _))))))
  all_goals (try (((first | refine call_q (sp_part n l (onlyL es [d]) hl ho ha) (by cbv) ?_ | refine call_pure (sp_part n l (onlyL es [d]) hl ho ha) (by cbv) ?_); cbv; ((try simp only [IfP_iff, and_true, true_and, decide_eq_true_eq, decide_eq_false_iff_not]); (try simp only [natc, getI_gi, at2_0, at2_1]); (try dsimp only [Ty.den]); (try simp only [natc] at *); (repeat' (first | apply And.intro | intro _))))))
  all_goals (try (((first | refine call_q (sp_far n (partL l (onlyL es [d])) (getI (.pr .int .int) l d).1 g0 g1 hp x0 x1) (by cbv) ?_ | refine call_pure (sp_far n (partL l (onlyL es [d])) (getI (.pr .int .int) l d).1 g0 g1 hp x0 x1) (by cbv) ?_); cbv; ((try simp only [IfP_iff, and_true, true_and, decide_eq_true_eq, decide_eq_false_iff_not]); (try simp only [natc, getI_gi, at2_0, at2_1]); (try dsimp only [Ty.den]); (try simp only [natc] at *); (repeat' (first | apply And.intro | intro _))))))
  all_goals (try (first | trivial | rfl))
  all_goals (try (exact ⟨⟨d0, d1⟩⟩))
  all_goals (try (exact ⟨⟨by decide, by decide⟩⟩))
  have hD : (cutD n l es d).length = n.toNat := by
    have h9 := search_inv (near := farN n (partL l (onlyL es [d]))) (q := fun _ => true) x0 (by rw [farN_len]; omega) farN_in
    unfold cutD
    rw [h9.len, farN_len]
  refine loopP (by kernel_rfl) (fun e : Int => 0 ≤ e ∧ e ≤ l.length) (fun e => [(9, .int fun _ => e), (7, .ref 1), (10, .junk)]) (fun e => [(1, some (.row 3 .int fun _ => pref (crB (cutD n l es d) l) e.toNat))]) (fun e => (l.length - e).toNat) (· + 1) 0 (by omega) ?_ ?_
  · cbv
    (simp only [IfP_iff, EqU_iff, Obl_iff, and_true, true_and, inI_iff, decide_eq_true_eq, decide_eq_false_iff_not]; (try simp only [natc, getI_gi, at2_0, at2_1]); (try dsimp only [Ty.den]); try simp only [natc] at *)
    simp [pref]
  · intro e hi
    have h1 := pref_next (p := crB (cutD n l es d) l) hi.1
    have h2 := pref_len (p := crB (cutD n l es d) l) hi.1
    have h3 : e < (l.length : Int) → 0 ≤ (getI (.pr .int .int) l e).1 ∧ (getI (.pr .int .int) l e).1 < n ∧ 0 ≤ (getI (.pr .int .int) l e).2 ∧ (getI (.pr .int .int) l e).2 < n := fun h => by
      have t := g2 _ (List.mem_of_getElem? (getI_get (t := (.pr .int .int)) hi.1 h))
      exact ⟨t.1, Int.lt_trans t.2.1 t.2.2, Int.le_of_lt (Int.lt_of_le_of_lt t.1 t.2.1), t.2.2⟩
    have h4 : ¬ e < (l.length : Int) → e.toNat = l.length := by omega
    have h5 : ((cutD n l es d).length : Int) = n := by omega
    have h6 : crB (cutD n l es d) l e = !(decide (gi (cutD n l es d) (getI (.pr .int .int) l e).1 < 0) == decide (gi (cutD n l es d) (getI (.pr .int .int) l e).2 < 0)) := rfl
    have h7 : ¬ e < (l.length : Int) → pref (crB (cutD n l es d) l) e.toNat = pref (crB (cutD n l es d) l) l.length := fun h => by rw [h4 h]
    rw [h6] at h1
    have h8 : (!(decide (gi (cutD n l es d) (getI (.pr .int .int) l e).1 < 0) == decide (gi (cutD n l es d) (getI (.pr .int .int) l e).2 < 0))) = true → pref (crB (cutD n l es d) l) (e + 1).toNat = pref (crB (cutD n l es d) l) e.toNat ++ [e] := fun h => by rw [h1, if_pos h]
    have h9 : (!(decide (gi (cutD n l es d) (getI (.pr .int .int) l e).1 < 0) == decide (gi (cutD n l es d) (getI (.pr .int .int) l e).2 < 0))) = false → pref (crB (cutD n l es d) l) (e + 1).toNat = pref (crB (cutD n l es d) l) e.toNat := fun h => by rw [h1, if_neg (by rw [h]; decide), List.append_nil]
    clear g2 ha
    cbv
    ((try simp only [IfP_iff, and_true, true_and, decide_eq_true_eq, decide_eq_false_iff_not]); (try simp only [natc, getI_gi, at2_0, at2_1]); (try dsimp only [Ty.den]); (try simp only [natc] at *); (repeat' (first | apply And.intro | intro _)))
    all_goals (try (simp only [IfP_iff, EqU_iff, Obl_iff, and_true, true_and, inI_iff, decide_eq_true_eq, decide_eq_false_iff_not]; (try simp only [natc, getI_gi, at2_0, at2_1]); (try dsimp only [Ty.den]); try simp only [natc] at *))
    all_goals ((repeat' (first | apply And.intro | intro _)) <;> first | omega | (exact h7 (by assumption)) | (exact ⟨(h3 (by assumption)).1, by rw [h5]; exact (h3 (by assumption)).2.1⟩) | (exact ⟨(h3 (by assumption)).2.2.1, by rw [h5]; exact (h3 (by assumption)).2.2.2⟩) | (exact (h8 (by assumption)).symm) | (exact (h9 (by assumption)).symm) | (rw [List.length_cons, List.length_nil]; omega) | decide | trace_state)
end Go.Proofs.Ytbpheblbbdiapab.M
