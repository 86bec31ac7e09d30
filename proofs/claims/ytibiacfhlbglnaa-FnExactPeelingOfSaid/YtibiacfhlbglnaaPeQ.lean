/- The peeling of a Graph (pure). -/
import Derived.Test.YtibiacfhlbglnaaQe
import Derived.Test.YtibiacfhlbglnaaHsQ
import Derived.Test.YtibiacfhlbglnaaPfQ
import Derived.Test.YtibiacfhlbglnaaDmQ
namespace Go.Proofs.Ytibiacfhlbglnaa.M
open Go.RowKit Abs
set_option linter.unusedSimpArgs false
set_option linter.unusedVariables false
set_option maxRecDepth 100000
set_option maxHeartbeats 4000000
def dg (l : List (Int × Int)) (n : Int) (away : List Int) (x : Int) : Int := ((nbrs l x n.toNat).filter (notB away)).length
def stS (l : List (Int × Int)) (n : Int) (away : List Int) (s : Int × Int) (x : Int) : Int × Int := if notB away x = true ∧ (s.1 < 0 ∨ dg l n away x < s.2) then (x, dg l n away x) else s
def stI (l : List (Int × Int)) (n : Int) (away : List Int) (s : Int × Int) (x : Int) : Int × Int := if dg l n away x < s.2 ∧ notB away x = true then (x, dg l n away x) else s
def scS (l : List (Int × Int)) (n : Int) (away : List Int) (k : Nat) : Int × Int := ((List.range k).map Int.ofNat).foldl (stS l n away) (-1, 0)
def scI (l : List (Int × Int)) (n : Int) (away : List Int) (k : Nat) : Int × Int := ((List.range k).map Int.ofNat).foldl (stI l n away) (0, n)
theorem rng_next {k : Int} (h0 : 0 ≤ k) : (List.range (k + 1).toNat).map Int.ofNat = (List.range k.toNat).map Int.ofNat ++ [k] := by
  have e : (k + 1).toNat = k.toNat + 1 := by omega
  have e2 : Int.ofNat k.toNat = k := by simp; omega
  rw [e, List.range_succ, List.map_append, List.map_cons, List.map_nil, e2]
theorem scS_next {l : List (Int × Int)} {n : Int} {away : List Int} {k : Int} (h0 : 0 ≤ k) : scS l n away (k + 1).toNat = stS l n away (scS l n away k.toNat) k := by
  unfold scS
  rw [rng_next h0, List.foldl_append]; rfl
theorem scI_next {l : List (Int × Int)} {n : Int} {away : List Int} {k : Int} (h0 : 0 ≤ k) : scI l n away (k + 1).toNat = stI l n away (scI l n away k.toNat) k := by
  unfold scI
  rw [rng_next h0, List.foldl_append]; rfl
theorem nbrs_lt {l : List (Int × Int)} {n x : Int} (h0 : 0 ≤ x) (h1 : x < n) (hx : nearB l x x = false) : ((nbrs l x n.toNat).length : Int) < n := by
  have : (nbrs l x n.toNat).length < ((List.range n.toNat).map Int.ofNat).length := by
    unfold nbrs
    refine List.length_filter_lt_length_iff_exists.2 ⟨x, ?_, by simp [hx]⟩
    rw [List.mem_map]
    exact ⟨x.toNat, by rw [List.mem_range]; omega, by simp; omega⟩
  simp only [List.length_map, List.length_range] at this
  omega
theorem self_far {l : List (Int × Int)} {n x : Int} (h : graphOk n l = true) : nearB l x x = false := by
  obtain ⟨_, he, _⟩ := graph_edges h
  cases hb : nearB l x x with
  | false => rfl
  | true =>
    obtain ⟨e, hm, hh⟩ := List.any_eq_true.1 hb
    have := he e hm
    simp only [hit, Bool.or_eq_true, Bool.and_eq_true, beq_iff_eq] at hh
    omega
theorem dg_ok {l : List (Int × Int)} {n x : Int} {away : List Int} (h : graphOk n l = true) (h0 : 0 ≤ x) (h1 : x < n) : 0 ≤ dg l n away x ∧ dg l n away x < n := by
  have a := nbrs_lt h0 h1 (self_far h)
  have b := List.length_filter_le (notB away) (nbrs l x n.toNat)
  unfold dg
  omega
theorem full_le : ∀ {n : Nat} {away : List Int}, (∀ x : Int, 0 ≤ x → x < n → x ∈ away) → n ≤ away.length
  | 0, _, _ => Nat.zero_le _
  | n + 1, away, h => by
    have hm := h n (by omega) (by omega)
    have := full_le (n := n) (away := away.erase n) fun x x0 x1 => (List.mem_erase_of_ne (by omega)).2 (h x x0 (by omega))
    rw [List.length_erase_of_mem hm] at this
    have := List.length_pos_of_mem hm
    omega
theorem sc_rel {l : List (Int × Int)} {n : Int} {away : List Int} (h : graphOk n l = true) : ∀ k : Nat, (k : Int) ≤ n →
    ((scS l n away k).1 = -1 ∧ (scS l n away k).2 = 0 ∧ scI l n away k = (0, n) ∧ ∀ x : Int, 0 ≤ x → x < k → x ∈ away) ∨ (0 ≤ (scS l n away k).1 ∧ (scS l n away k).1 < n ∧ 0 ≤ (scS l n away k).2 ∧ (scS l n away k).2 < n ∧ scS l n away k = scI l n away k)
  | 0, _ => .inl ⟨rfl, rfl, rfl, fun x a b => by omega⟩
  | k + 1, hk => by
    have e1 := scS_next (l := l) (n := n) (away := away) (k := (k : Int)) (by omega)
    have e2 := scI_next (l := l) (n := n) (away := away) (k := (k : Int)) (by omega)
    rw [show ((k : Int) + 1).toNat = k + 1 by omega, Int.toNat_natCast] at e1 e2
    have d := dg_ok (away := away) (x := (k : Int)) h (by omega) (by omega)
    rw [e1, e2]
    rcases sc_rel h k (by omega) with ⟨a, a2, b, c⟩ | ⟨a, b, c, d2, e⟩
    · rw [b]
      unfold stS stI
      cases hb : notB away k with
      | true => right; rw [if_pos ⟨rfl, .inl (by omega)⟩, if_pos ⟨by simpa using d.2, rfl⟩]; exact ⟨by simp, by simp; omega, d.1, d.2, rfl⟩
      | false =>
        left
        rw [if_neg (by simp), if_neg (by simp)]
        refine ⟨a, a2, rfl, fun x x0 x1 => ?_⟩
        by_cases e : x = k
        · subst e
          unfold notB at hb
          exact hasB_iff.1 (by simpa using hb)
        · exact c x x0 (by omega)
    · right
      rw [← e]
      unfold stS stI
      cases hb : notB away k with
      | false => rw [if_neg (by simp), if_neg (by simp)]; exact ⟨a, b, c, d2, rfl⟩
      | true =>
        by_cases hl : dg l n away k < (scS l n away k).2
        · rw [if_pos ⟨rfl, .inr hl⟩, if_pos ⟨hl, rfl⟩]; exact ⟨by simp, by simp; omega, d.1, d.2, rfl⟩
        · rw [if_neg (fun z => by rcases z.2 with z | z <;> omega), if_neg (fun z => hl z.1)]; exact ⟨a, b, c, d2, rfl⟩
theorem sc_eq {l : List (Int × Int)} {n : Int} {away : List Int} (h : graphOk n l = true) (ha : (away.length : Int) < n) : scS l n away n.toNat = scI l n away n.toNat ∧ (0 ≤ (scI l n away n.toNat).1 ∧ (scI l n away n.toNat).1 < n) ∧ 0 ≤ (scI l n away n.toNat).2 ∧ (scI l n away n.toNat).2 < n := by
  rcases sc_rel (away := away) h n.toNat (by omega) with ⟨_, _, _, c⟩ | ⟨a, b, c, d, e⟩
  · have := full_le c
    omega
  · rw [← e]; exact ⟨rfl, ⟨a, b⟩, c, d⟩
theorem scI_ok {l : List (Int × Int)} {n : Int} {away : List Int} (h : graphOk n l = true) {k : Int} (h0 : 0 ≤ k) (hk : k ≤ n) : (0 ≤ (scI l n away k.toNat).1 ∧ (scI l n away k.toNat).1 ≤ n) ∧ 0 ≤ (scI l n away k.toNat).2 ∧ (scI l n away k.toNat).2 ≤ n := by
  rcases sc_rel (away := away) h k.toNat (by omega) with ⟨_, _, b, _⟩ | ⟨a, b, c, d, e⟩
  · rw [b]; simp; omega
  · rw [← e]; omega
theorem scS_ok {l : List (Int × Int)} {n : Int} {away : List Int} (h : graphOk n l = true) {k : Int} (h0 : 0 ≤ k) (hk : k ≤ n) : (-1 ≤ (scS l n away k.toNat).1 ∧ (scS l n away k.toNat).1 ≤ n) ∧ 0 ≤ (scS l n away k.toNat).2 ∧ (scS l n away k.toNat).2 ≤ n := by
  rcases sc_rel (away := away) h k.toNat (by omega) with ⟨a, a2, b, _⟩ | ⟨a, b, c, d, e⟩
  · omega
  · omega
def peel (l : List (Int × Int)) (n : Int) : Nat → List Int × Int
  | 0 => ([], -1)
  | r + 1 => ((peel l n r).1 ++ [(scI l n (peel l n r).1 n.toNat).1], mx (peel l n r).2 (scI l n (peel l n r).1 n.toNat).2)
theorem peel_len (l : List (Int × Int)) (n : Int) : ∀ r : Nat, (peel l n r).1.length = r
  | 0 => rfl
  | r + 1 => by simp [peel, peel_len l n r]
theorem peel_next {l : List (Int × Int)} {n k : Int} (h0 : 0 ≤ k) : peel l n (k + 1).toNat = ((peel l n k.toNat).1 ++ [(scI l n (peel l n k.toNat).1 n.toNat).1], mx (peel l n k.toNat).2 (scI l n (peel l n k.toNat).1 n.toNat).2) := by
  rw [show (k + 1).toNat = k.toNat + 1 by omega]; rfl
theorem peel_ok {l : List (Int × Int)} {n : Int} (h : graphOk n l = true) : ∀ r : Nat, (r : Int) ≤ n → -1 ≤ (peel l n r).2 ∧ (peel l n r).2 ≤ n
  | 0, _ => by simp [peel]; omega
  | r + 1, hr => by
    have ih := peel_ok h r (by omega)
    have := (sc_eq (away := (peel l n r).1) h (by rw [peel_len]; omega)).2.2
    show -1 ≤ mx _ _ ∧ mx _ _ ≤ n
    unfold mx
    split <;> omega
end Go.Proofs.Ytibiacfhlbglnaa.M
