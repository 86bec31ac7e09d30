/- Distances in a Graph, on the side of the specification. -/
import Derived.Test.YtoejmijcikehdaaRcQ
import Derived.Test.YtoejmijcikehdaaHsQ
import Derived.Test.YtoejmijcikehdaaQg
namespace Go.Proofs.Ytoejmijcikehdaa.M
open Go.RowKit Abs
set_option linter.unusedSimpArgs false
set_option linter.unusedVariables false
set_option maxRecDepth 100000
set_option maxHeartbeats 4000000
def farN (n : Int) (l : List (Int × Int)) : List (List Int) := (List.range n.toNat).map fun (i : Nat) => nbrs l (i : Int) n.toNat
def farK (n : Int) (l : List (Int × Int)) (k : Int) : List (List Int) := (farN n l).take k.toNat ++ List.replicate (n - k).toNat []
theorem far_set {n k : Int} {l : List (Int × Int)} (h0 : 0 ≤ k) (h1 : k < n) : setI (farK n l k) k (nbrs l k n.toNat) = farK n l (k + 1) := by
  unfold farK setI
  have e : (n - k).toNat = (n - (k + 1)).toNat + 1 := by omega
  have hl : ((farN n l).take k.toNat).length = k.toNat := by rw [List.length_take]; unfold farN; rw [List.length_map, List.length_range]; omega
  have hg : (farN n l)[k.toNat]? = some (nbrs l k n.toNat) := by
    unfold farN
    rw [List.getElem?_map, List.getElem?_range (show k.toNat < n.toNat by omega)]
    show some (nbrs l ((k.toNat : Nat) : Int) n.toNat) = _
    rw [Int.toNat_of_nonneg h0]
  rw [e, List.replicate_succ, List.set_append_right _ _ (by omega), hl, Nat.sub_self, List.set_cons_zero, show (k + 1).toNat = k.toNat + 1 by omega, List.take_add_one, hg]
  simp
theorem farN_len {n : Int} {l : List (Int × Int)} : (farN n l).length = n.toNat := by simp [farN]
theorem farN_in {n : Int} {l : List (Int × Int)} : near_in (farN n l).length (farN n l) := fun r hr v hv => by
  rw [farN_len]
  unfold farN at hr
  rw [List.mem_map] at hr
  obtain ⟨i, _, rfl⟩ := hr
  unfold nbrs at hv
  rw [List.mem_filter, List.mem_map] at hv
  obtain ⟨⟨a, ha, rfl⟩, _⟩ := hv
  rw [List.mem_range] at ha
  exact ⟨by simp, by simp only [Int.ofNat_eq_natCast]; omega⟩
theorem farN_rows {n : Int} {l : List (Int × Int)} (h : n ≤ 8) : ∀ r ∈ farN n l, r.length ≤ 1048576 := fun r hr => by
  unfold farN at hr
  rw [List.mem_map] at hr
  obtain ⟨i, _, rfl⟩ := hr
  have : (nbrs l (i : Int) n.toNat).length ≤ n.toNat := by
    unfold nbrs
    exact Nat.le_trans (List.length_filter_le _ _) (by simp)
  omega
theorem sp_far (n : Int) (l : List (Int × Int)) (x : Int) (g0 : 0 ≤ n) (g1 : n ≤ 8) (hl : l.length ≤ 1048576) (x0 : 0 ≤ x) (x1 : x < n) : Spec2 Try.prog 66 [.agg (.pr .int (.sl (.pr .int .int))) fun _ => (n, l), .int fun _ => x] [] [.ref 0] [some (.row 3 .int fun _ => (search (farN n l) (fun _ => true) x).1)] := by
  have f1 := farN_len (n := n) (l := l)
  have f2 := farN_in (n := n) (l := l)
  have f3 := farN_rows (n := n) (l := l) g1
  have f4 : farK n l 0 = List.replicate n.toNat [] := by simp [farK]
  have f5 : farK n l n = farN n l := by
    unfold farK
    rw [List.take_of_length_le (by omega), Int.sub_self]
    simp
  refine fnS [2] [4] Try.func66 rfl (by decide) rfl (by decide) (by kernel_rfl) rfl (by simp [Try.ntmps66]) ?_
  cbv
  ((try simp only [IfP_iff, and_true, true_and, decide_eq_true_eq, decide_eq_false_iff_not]); (try simp only [natc, getI_gi, at2_0, at2_1]); (try dsimp only [Ty.den]); (try simp only [natc] at *); (repeat' (first | apply And.intro | intro _)))
  all_goals (try ((simp only [IfP_iff, EqU_iff, Obl_iff, and_true, true_and, inI_iff, decide_eq_true_eq, decide_eq_false_iff_not]; (try simp only [natc, getI_gi, at2_0, at2_1]); (try dsimp only [Ty.den]); try simp only [natc] at *); done))
  all_goals (try ((simp only [IfP_iff, EqU_iff, Obl_iff, and_true, true_and, inI_iff, decide_eq_true_eq, decide_eq_false_iff_not]; (try simp only [natc, getI_gi, at2_0, at2_1]); (try dsimp only [Ty.den]); try simp only [natc] at *); omega))
  refine loopP (by kernel_rfl) (fun k : Int => 0 ≤ k ∧ k ≤ n) (fun k => [(6, .int fun _ => k)]) (fun k => [(1, some (.rows 22 3 .int fun _ => farK n l k))]) (fun k => (n - k).toNat) (· + 1) 0 (by omega) ?_ ?_
  · cbv
    (simp only [IfP_iff, EqU_iff, Obl_iff, and_true, true_and, inI_iff, decide_eq_true_eq, decide_eq_false_iff_not]; (try simp only [natc, getI_gi, at2_0, at2_1]); (try dsimp only [Ty.den]); try simp only [natc] at *)
    exact f4.symm
  · intro k hk
    have e1 : k < n → setI (farK n l k) k (nbrs l k n.toNat) = farK n l (k + 1) := far_set hk.1
    have e2 : ((farK n l k).length : Int) = n := by
      unfold farK
      rw [List.length_append, List.length_take, List.length_replicate, f1]
      omega
    have e3 : ¬ k < n → farK n l k = farN n l := fun h => by rw [show k = n by omega]; exact f5
    have e4 : ¬ k < n → near_in (farK n l k).length (farK n l k) ∧ (∀ r ∈ farK n l k, r.length ≤ 1048576) ∧ (search (farK n l k) (fun _ => true) x).1 = (search (farN n l) (fun _ => true) x).1 := fun h => by rw [e3 h]; exact ⟨f2, f3, rfl⟩
    have e5 : x < ((farK n l k).length : Int) := by omega
    have e6 : (farK n l k).length ≤ 1048576 := by omega
    have e7 : n ≤ 1048576 := by omega
    clear f1 f2 f3 f4 f5 e3
    cbv
    ((try simp only [IfP_iff, and_true, true_and, decide_eq_true_eq, decide_eq_false_iff_not]); (try simp only [natc, getI_gi, at2_0, at2_1]); (try dsimp only [Ty.den]); (try simp only [natc] at *); (repeat' (first | apply And.intro | intro _)))
    all_goals (repeat' (first | ((first | refine call_q (sp_neighbors n l k e7 hl) (by cbv) ?_ | refine call_pure (sp_neighbors n l k e7 hl) (by cbv) ?_); cbv; ((try simp only [IfP_iff, and_true, true_and, decide_eq_true_eq, decide_eq_false_iff_not]); (try simp only [natc, getI_gi, at2_0, at2_1]); (try dsimp only [Ty.den]); (try simp only [natc] at *); (repeat' (first | apply And.intro | intro _)))) | ((first | refine call_q (sp_spread (farK n l k) x x0 e5 e6 (e4 (by assumption)).1 (e4 (by assumption)).2.1) (by cbv) ?_ | refine call_pure (sp_spread (farK n l k) x x0 e5 e6 (e4 (by assumption)).1 (e4 (by assumption)).2.1) (by cbv) ?_); cbv; ((try simp only [IfP_iff, and_true, true_and, decide_eq_true_eq, decide_eq_false_iff_not]); (try simp only [natc, getI_gi, at2_0, at2_1]); (try dsimp only [Ty.den]); (try simp only [natc] at *); (repeat' (first | apply And.intro | intro _))))))
    all_goals (try (simp only [IfP_iff, EqU_iff, Obl_iff, and_true, true_and, inI_iff, decide_eq_true_eq, decide_eq_false_iff_not]; (try simp only [natc, getI_gi, at2_0, at2_1]); (try dsimp only [Ty.den]); try simp only [natc] at *))
    all_goals ((repeat' (first | apply And.intro | intro _)) <;> first | omega | (exact e1 (by assumption)) | (exact (e4 (by assumption)).2.2) | grind)
end Go.Proofs.Ytoejmijcikehdaa.M
