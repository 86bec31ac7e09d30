/- The laws' helpers, as contracts of the abstract walk. -/
import Derived.Test.YtpkdlgdjpoempaaTab
import Derived.Test.YtpkdlgdjpoempaaSpaceCopy
namespace Go.Proofs.Ytpkdlgdjpoempaa.Abs
open Go.RowKit
set_option linter.unusedVariables false
set_option linter.unusedSimpArgs false
set_option maxHeartbeats 4000000

abbrev TP : Ty := .pr .int .int
abbrev TG : Ty := .pr .int (.sl TP)
abbrev TS : Ty := .pr (.sl (.sl .int)) (.sl TP)
theorem rep_ints {ok : Nat → Prop} {w : World} {l : List Int} {v : Value} (h : Rep ok w (.sl .int) l [v]) : ∃ a cap, v = .slice a l.length cap ∧ IntsAt w a l ∧ l.length ≤ 9223372036854775807 := by
  unfold Rep at h
  obtain ⟨a, cap, he, _, h3, h4⟩ := h
  simp at he
  refine ⟨a, cap, he, ?_, by unfold maxLen at h3; omega⟩
  rcases h4 with h4 | ⟨b, o, xs, rfl, _, h5, h6, h7, h8⟩
  · exact .inl h4
  · refine .inr ⟨b, o, rfl, h5, fun i x hx => ?_⟩
    obtain ⟨cs, hr, hc⟩ := rep_cells h6 h7 h8 hx
    unfold Rep at hr
    subst hr
    simpa [Ty.n] using hc 0 _ rfl
theorem rep_pairs {ok : Nat → Prop} {w : World} {l : List (Int × Int)} {v : Value} (h : Rep ok w (.sl TP) l [v]) : ∃ a cap, v = .slice a l.length cap ∧ PairsAt w a l ∧ l.length ≤ 9223372036854775807 := by
  unfold Rep at h
  obtain ⟨a, cap, he, _, h3, h4⟩ := h
  simp at he
  refine ⟨a, cap, he, ?_, by unfold maxLen at h3; omega⟩
  rcases h4 with h4 | ⟨b, o, xs, rfl, _, h5, h6, h7, h8⟩
  · exact .inl h4
  · refine .inr ⟨b, o, rfl, h5, fun i x hx => ?_⟩
    obtain ⟨cs, hr, hc⟩ := rep_cells h6 h7 h8 hx
    unfold Rep at hr
    obtain ⟨c1, c2, rfl, k1, k2⟩ := hr
    unfold Rep at k1 k2
    subst k1
    subst k2
    exact ⟨by simpa [Ty.n] using hc 0 _ rfl, by simpa [Ty.n] using hc 1 _ rfl⟩
theorem rep_grid {ok : Nat → Prop} {w : World} {l : List (List Int)} {v : Value} (h : Rep ok w (.sl (.sl .int)) l [v]) :
    ∃ a cap, v = .slice a l.length cap ∧ GridAt w a l ∧ l.length ≤ 9223372036854775807 ∧ ∀ s ∈ l, s.length ≤ 9223372036854775807 := by
  unfold Rep at h
  obtain ⟨a, cap, he, _, h3, h4⟩ := h
  simp at he
  rcases h4 with rfl | ⟨b, o, xs, rfl, _, h5, h6, h7, h8⟩
  · exact ⟨a, cap, he, .inl rfl, by unfold maxLen at h3; omega, fun s hs => by simp at hs⟩
  · have one : ∀ (i : Nat) (r : List Int), l[i]? = some r → ∃ ra rc, w.cell? ⟨b, o + i, none⟩ = some (.slice ra r.length rc) ∧ IntsAt w ra r ∧ r.length ≤ 9223372036854775807 := fun i r hr => by
      obtain ⟨cs, hR, hc⟩ := rep_cells h6 h7 h8 hr
      have hlen := hR.length
      match cs, hlen with
      | [u], _ =>
        obtain ⟨ra, rc, rfl, k1, k2⟩ := rep_ints hR
        exact ⟨ra, rc, by simpa [Ty.n] using hc 0 _ rfl, k1, k2⟩
    refine ⟨_, cap, he, .inr ⟨b, o, rfl, h5, fun i r hr => ?_⟩, by unfold maxLen at h3; omega, fun s hs => ?_⟩
    · obtain ⟨ra, rc, k1, k2, _⟩ := one i r hr
      exact ⟨ra, rc, k1, k2⟩
    · obtain ⟨i, hi⟩ := List.mem_iff_getElem?.1 hs
      obtain ⟨_, _, _, _, k⟩ := one i s hi
      exact k
theorem own_blk {w : World} {base : Nat} {e : TypeId} {k : Nat} {v : Value} {n : Nat} {xs : List Value} (h : w.ownsRow base e k v n xs) : ∀ g, ownB v = some g → base ≤ g := fun g hg => by
  rcases h.2 with ⟨rfl, _⟩ | ⟨g', cap, cur, rfl, hb, _⟩
  · cases hg
  · cases hg; exact hb
theorem own_ints {B : Nat} {v : Value} {l : List Int} {w : World} (h : OwnInts B v l w) : Rep (fun b => B ≤ b) w (.sl .int) l [v] :=
  row_rep (xs := vals l) h ⟨by simp [vals, Ty.n], fun i y hy => by
    unfold Rep
    have : (vals l)[i]? = some (.int .i64 y) := by simp [vals, hy]
    have hlt := (List.getElem?_eq_some_iff.1 this)
    simp only [Ty.n, Nat.mul_one]
    rw [List.drop_eq_getElem_cons hlt.1, hlt.2]; rfl⟩ (own_blk h)
theorem own_pairs {B : Nat} {v : Value} {l : List (Int × Int)} {w : World} (h : OwnPairs B v l w) : Rep (fun b => B ≤ b) w (.sl TP) l [v] :=
  row_rep (xs := flat2 l) h ⟨by rw [flat2_length]; rfl, fun i y hy => by
    unfold Rep
    refine ⟨[.int .i64 y.1], [.int .i64 y.2], ?_, rfl, rfl⟩
    obtain ⟨h1, h2⟩ := flat2_get l i y hy
    have l1 := List.getElem?_eq_some_iff.1 h1
    have l2 := List.getElem?_eq_some_iff.1 h2
    show ((flat2 l).drop (i * 2)).take 2 = _
    rw [List.drop_eq_getElem_cons l1.1, l1.2, List.drop_eq_getElem_cons l2.1, l2.2]; rfl⟩ (own_blk h)
theorem own_grid {B : Nat} {v : Value} {l : List (List Int)} {w : World} (h : OwnGrid B v l w) : Rep (fun b => B ≤ b) w (.sl (.sl .int)) l [v] := by
  obtain ⟨g, rs, rfl, hB, ho, hr⟩ := h
  refine row_rep (t := .sl .int) (xs := rs) ho ⟨by rw [hr.1]; simp [Ty.n], fun i y hy => ?_⟩ (own_blk ho)
  obtain ⟨rv, hrv⟩ : ∃ rv, rs[i]? = some rv := ⟨_, List.getElem?_eq_getElem (by rw [hr.1]; exact (List.getElem?_eq_some_iff.1 hy).1)⟩
  have hrep := own_ints (hr.2.1 i rv y hrv hy)
  have l1 := List.getElem?_eq_some_iff.1 hrv
  simp only [Ty.n, Nat.mul_one]
  rw [List.drop_eq_getElem_cons l1.1, l1.2]
  exact Rep.weak (fun b hb => by omega) hrep
theorem arg1 {w : World} {x : AV} {vs : List Value} (hl : vs.length = 1) (hv : ∀ (i : Nat) (y : AV), [x][i]? = some y → ∃ v, vs[i]? = some v ∧ ArgRel w y v) : ∃ v, vs = [v] ∧ ArgRel w x v := by
  match vs, hl with
  | [v], _ => obtain ⟨u, hu, h⟩ := hv 0 x rfl; cases hu; exact ⟨_, rfl, h⟩
theorem arg2 {w : World} {x y : AV} {vs : List Value} (hl : vs.length = 2) (hv : ∀ (i : Nat) (z : AV), [x, y][i]? = some z → ∃ v, vs[i]? = some v ∧ ArgRel w z v) : ∃ v u, vs = [v, u] ∧ ArgRel w x v ∧ ArgRel w y u := by
  match vs, hl with
  | [v, u], _ =>
    obtain ⟨v', hv', h⟩ := hv 0 x rfl
    obtain ⟨u', hu', h'⟩ := hv 1 y rfl
    cases hv'; cases hu'
    exact ⟨_, _, rfl, h, h'⟩
theorem arg_graph {w : World} {g : Int × List (Int × Int)} {v : Value} (h : ArgRel w (.agg TG g) v) : ∃ a cap, v = graphV g.1 (.slice a g.2.length cap) ∧ PairsAt w a g.2 ∧ g.2.length ≤ 9223372036854775807 := by
  obtain ⟨cs, rfl, hr⟩ := h
  unfold Rep at hr
  obtain ⟨c1, c2, rfl, k1, k2⟩ := hr
  unfold Rep at k1
  subst k1
  have hlen := k2.length
  match c2, hlen with
  | [u], _ =>
    obtain ⟨a, cap, rfl, h1, h2⟩ := rep_pairs k2
    exact ⟨a, cap, rfl, h1, h2⟩
theorem arg_space {w : World} {x : List (List Int) × List (Int × Int)} {v : Value} (h : ArgRel w (.agg TS x) v) :
    ∃ a cap a' cap', v = spaceV (.slice a x.1.length cap) (.slice a' x.2.length cap') ∧ GridAt w a x.1 ∧ PairsAt w a' x.2 ∧ x.1.length ≤ 9223372036854775807 ∧ (∀ s ∈ x.1, s.length ≤ 9223372036854775807) ∧ x.2.length ≤ 9223372036854775807 := by
  obtain ⟨cs, rfl, hr⟩ := h
  unfold Rep at hr
  obtain ⟨c1, c2, rfl, k1, k2⟩ := hr
  have hlen1 := k1.length
  have hlen := k2.length
  match c1, hlen1, c2, hlen with
  | [p], _, [u], _ =>
    obtain ⟨a, cap, rfl, h1, h2, h3⟩ := rep_grid k1
    obtain ⟨a', cap', rfl, h4, h5⟩ := rep_pairs k2
    exact ⟨a, cap, a', cap', rfl, h1, h4, h2, h3, h5⟩
theorem post_one {w w' : World} {v : Value} {t : Ty} {x : t.den} (hb : Below w.heap.size w w') (h : IRel (fun b => w.heap.size ≤ b) w' t x v) : SpecPost [.im t x] w (.returned v) w' := ⟨v, rfl, hb, h⟩
theorem irel_bool {ok : Nat → Prop} {w : World} (b : Bool) : IRel ok w .bool b (.bool b) := by simp [IRel, Ty.isPr, Rep]
theorem irel_int {ok : Nat → Prop} {w : World} (x : Int) : IRel ok w .int x (.int .i64 x) := by simp [IRel, Ty.isPr, Rep]

end Go.Proofs.Ytpkdlgdjpoempaa.Abs