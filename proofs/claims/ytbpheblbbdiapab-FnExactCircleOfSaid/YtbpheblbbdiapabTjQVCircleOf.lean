/- Cuts on both sides are one (pure). -/
import Derived.Test.YtbpheblbbdiapabTdQVCircleOf
import Derived.Test.YtbpheblbbdiapabTgQVCircleOf
import Derived.Test.YtbpheblbbdiapabBsQVCircleOf
import Derived.Test.YtbpheblbbdiapabQgVCircleOf
namespace Go.Proofs.Ytbpheblbbdiapab.M
open Go.RowKit Abs
set_option linter.unusedSimpArgs false
set_option linter.unusedVariables false
set_option maxRecDepth 100000
set_option maxHeartbeats 4000000
theorem farN_row {n : Int} {p : List (Int × Int)} {u v : Int} (u0 : 0 ≤ u) (u1 : u < n) (v0 : 0 ≤ v) (v1 : v < n) : v ∈ getR .int (farN n p) u ↔ nearB p u v = true := by
  have e : getR .int (farN n p) u = nbrs p u n.toNat := by
    have h := getR_get (t := .int) (l := farN n p) (i := u) u0 (by rw [farN_len]; omega)
    have h2 : (farN n p)[u.toNat]? = some (nbrs p u n.toNat) := by
      unfold farN
      rw [List.getElem?_map, List.getElem?_range (show u.toNat < n.toNat by omega)]
      show some (nbrs p ((u.toNat : Nat) : Int) n.toNat) = _
      rw [Int.toNat_of_nonneg u0]
    rw [h2] at h
    exact (Option.some.inj h).symm
  rw [e]
  unfold nbrs
  rw [List.mem_filter, List.mem_map]
  constructor
  · exact fun h => h.2
  · exact fun h => ⟨⟨v.toNat, by rw [List.mem_range]; omega, by simp only [Int.ofNat_eq_natCast]; omega⟩, h⟩
theorem far_conn {n : Int} {p : List (Int × Int)} {a v : Int} (hp : ∀ e ∈ p, 0 ≤ e.1 ∧ e.1 < e.2 ∧ e.2 < n) (a0 : 0 ≤ a) (a1 : a < n) (v0 : 0 ≤ v) (v1 : v < n) : 0 ≤ gi (search (farN n p) (fun _ => true) a).1 v ↔ Conn p a v := by
  have hN : ((farN n p).length : Int) = n := by rw [farN_len]; omega
  have hi := farN_in (n := n) (l := p)
  have cc := search_core (q := fun _ => true) (near := farN n p) a0 (by omega) hi
  constructor
  · intro hv A hc hA
    have key : ∀ (m : Nat) (v : Int), 0 ≤ v → v < n → gi (search (farN n p) (fun _ => true) a).1 v = m → A v := fun m => by
      induction m using Nat.strongRecOn with
      | _ m ih =>
        intro v v0 v1 hm
        rcases search_pred (q := fun _ => true) (near := farN n p) a0 (by omega) hi v0 (by omega) (by omega) with rfl | ⟨_, u, u0, u1, u2, u3, u4⟩
        · exact hA
        · exact hc u v ((farN_row u0 (by omega) v0 v1).1 u3) (ih (gi (search (farN n p) (fun _ => true) a).1 u).toNat (by omega) u u0 (by omega) (by omega))
    exact key (gi (search (farN n p) (fun _ => true) a).1 v).toNat v v0 v1 (by omega)
  · intro h
    refine (h (fun w => (0 ≤ w ∧ w < n) ∧ 0 ≤ gi (search (farN n p) (fun _ => true) a).1 w) (fun u w hn hu => ?_) ⟨⟨a0, a1⟩, by rw [cc.src.2]; omega⟩).2
    have hw : 0 ≤ w ∧ w < n := by
      unfold nearB at hn
      rw [List.any_eq_true] at hn
      obtain ⟨e, he, hh⟩ := hn
      have h3 := hp e he
      unfold hit at hh
      simp only [Bool.or_eq_true, Bool.and_eq_true, beq_iff_eq] at hh
      omega
    exact ⟨hw, (search_step (q := fun _ => true) (near := farN n p) a0 (by omega) hi hu.1.1 (by omega) hu.2 ((farN_row hu.1.1 hu.1.2 hw.1 hw.2).2 hn) rfl).1⟩
def crP (f : List Int) (l : List (Int × Int)) (e : Int) : Bool := !decide (gi f (getI (.pr .int .int) l e).1 = gi f (getI (.pr .int .int) l e).2)
theorem only_filter {es : List Int} {d : Int} : onlyL es [d] = es.filter fun e => !decide (e = d) := by
  unfold onlyL
  refine List.filter_congr fun x _ => ?_
  simp [hasB]
theorem cut_same {n : Int} {l : List (Int × Int)} {es : List Int} {d : Int} (h : cutOk n l es d = true) : pref (crP (forF (partL l (onlyL es [d]))) l) l.length = pref (crB (cutD n l es d) l) l.length := by
  unfold cutOk at h
  simp only [Bool.and_eq_true] at h
  obtain ⟨ht, hh⟩ := h
  obtain ⟨hg, n0, ha, hz, d0, d1⟩ := two_in ht
  obtain ⟨⟨g0, g1⟩, g2, _⟩ := graph_edges hg
  have ha2 : ascB l.length (onlyL es [d]) = true := asc_filter _ ha
  have hp := part_in hg ha2
  have td := g2 _ (List.mem_of_getElem? (getI_get (t := (.pr .int .int)) d0 d1))
  have a1 : (getI (.pr .int .int) l d).1 < n := Int.lt_trans td.2.1 td.2.2
  refine pref_congr fun e e0 e1 => ?_
  have te := g2 _ (List.mem_of_getElem? (getI_get (t := (.pr .int .int)) e0 e1))
  have u1 : (getI (.pr .int .int) l e).1 < n := Int.lt_trans te.2.1 te.2.2
  have v0 : 0 ≤ (getI (.pr .int .int) l e).2 := Int.le_of_lt (Int.lt_of_le_of_lt te.1 te.2.1)
  have hc := cut_iff n0 g1 hg ha hz (hasB_iff.1 hh) te.1 u1 v0 te.2.2
  rw [← only_filter] at hc
  have f1 := far_conn hp td.1 a1 te.1 u1
  have f2 := far_conn hp td.1 a1 v0 te.2.2
  rw [← f1, ← f2] at hc
  unfold crP crB cutD
  congr 1
  rw [Bool.eq_iff_iff, decide_eq_true_eq, beq_iff_eq, decide_eq_decide, hc]
  constructor
  · intro h
    constructor <;> intro h2 <;> exact Int.not_le.1 fun h3 => absurd h2 (Int.not_lt.2 (by first | exact h.2 h3 | exact h.1 h3))
  · intro h
    constructor <;> intro h2 <;> exact Int.not_lt.1 fun h3 => absurd h2 (Int.not_le.2 (by first | exact h.2 h3 | exact h.1 h3))
theorem cut_ok_eq (n : Int) (l : List (Int × Int)) (es : List Int) (d : Int) : cutOk n l es d = ((someB n l && treeB n l es) && hasB es d) := by
  unfold cutOk twoB
  cases h : (someB n l && treeB n l es) with
  | false => rfl
  | true =>
    cases hh : hasB es d with
    | false => rw [Bool.and_false, Bool.and_false]
    | true =>
      unfold treeB at h
      simp only [Bool.and_eq_true, decide_eq_true_eq] at h
      obtain ⟨j, j0, j1, e⟩ := mem_at (hasB_iff.1 hh)
      have := asc_at h.2.1.2 j0 j1
      have e2 : gi es j = d := e
      rw [e2] at this
      rw [Bool.and_true, Bool.and_true, Bool.true_and, Bool.and_eq_true, decide_eq_true_eq, decide_eq_true_eq]
      omega
end Go.Proofs.Ytbpheblbbdiapab.M
