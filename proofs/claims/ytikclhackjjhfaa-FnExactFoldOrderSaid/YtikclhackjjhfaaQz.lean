/- Ua, Ub, Uc, Ud, in one text. -/
import Derived.Test.YtikclhackjjhfaaOlQ
import Derived.Test.YtikclhackjjhfaaTaQ
import Derived.Test.YtikclhackjjhfaaQe
import Derived.Test.YtikclhackjjhfaaCqQ
import Derived.Test.YtikclhackjjhfaaSiQ
import Derived.Test.YtikclhackjjhfaaDnQ
import Derived.Test.YtikclhackjjhfaaWbQ
import Derived.Test.YtikclhackjjhfaaLpQ
import Derived.Test.YtikclhackjjhfaaQg
import Derived.Test.YtikclhackjjhfaaTcQ
import Derived.Test.YtikclhackjjhfaaTuQ
import Derived.Test.YtikclhackjjhfaaRgQ
import Derived.Test.YtikclhackjjhfaaJnQ
/- Folding, pure. -/
namespace Go.Proofs.Ytikclhackjjhfaa.M
open Go.RowKit Abs
set_option linter.unusedSimpArgs false
set_option linter.unusedVariables false
set_option maxRecDepth 100000
set_option maxHeartbeats 4000000
def takB (l : List (Int × Int)) (L : List Int) (x y : Int) : Bool := nearB l x y && !L.any (fun z => (!decide (z = y) && nearB l z x) && !nearB l z y)
def covX (l : List (Int × Int)) (L : List Int) (x y : Int) : Bool := !L.any (fun z => ((decide (z = x) || nearB l x z) && !decide (z = y)) && !nearB l y z)
theorem hit_turn (a b : Int) (e : Int × Int) : hit a b e = hit b a e := by unfold hit; rw [Bool.or_comm]
theorem near_turn (l : List (Int × Int)) (a b : Int) : nearB l a b = nearB l b a := by
  unfold nearB
  congr 1
  funext e
  exact hit_turn a b e
theorem near_self {n : Int} {l : List (Int × Int)} (hg : graphOk n l = true) (x : Int) : nearB l x x = false := by
  obtain ⟨_, he, _⟩ := graph_edges hg
  unfold nearB
  rw [List.any_eq_false]
  intro e hm
  have := he e hm
  simp only [hit, Bool.or_eq_true, Bool.and_eq_true, beq_iff_eq]
  omega
theorem cov_tak {n : Int} {l : List (Int × Int)} {L : List Int} {x y : Int} (hg : graphOk n l = true) (hx : x ∈ L) : (!decide (x = y) && covX l L x y) = takB l L x y := by
  by_cases hxy : x = y
  · subst hxy
    unfold takB
    rw [near_self hg]
    simp
  · rw [Bool.eq_iff_iff]
    unfold covX takB
    simp only [Bool.and_eq_true, Bool.not_eq_true', List.any_eq_false, decide_eq_false_iff_not, Bool.or_eq_true, decide_eq_true_eq, not_and, Bool.not_eq_false]
    constructor
    · rintro ⟨_, h⟩
      have hxx : nearB l y x = true := h x hx ⟨.inl rfl, hxy⟩
      refine ⟨by rw [near_turn]; exact hxx, fun z hz h1 => ?_⟩
      rw [near_turn]
      exact h z hz ⟨.inr (by rw [near_turn]; exact h1.2), h1.1⟩
    · rintro ⟨h1, h2⟩
      refine ⟨hxy, fun z hz h3 => ?_⟩
      obtain ⟨h3, h4⟩ := h3
      rcases h3 with e | h3
      · rw [e, near_turn]; exact h1
      · rw [near_turn]
        exact h2 z hz ⟨h4, by rw [near_turn]; exact h3⟩
/-- The first pair, row by row. -/
def rowO (P : Int → Int → Bool) (L : List Int) (x : Int) : Option (Int × Int) := (L.find? (P x)).map fun y => (x, y)
def rOut (P : Int → Int → Bool) (L : List Int) (i : Int) : Option (Int × Int) := (L.drop i.toNat).findSome? (rowO P L)
def rIn (P : Int → Int → Bool) (L : List Int) (i k : Int) : Option (Int × Int) := ((L.drop k.toNat).find? (P (gi L i))).map (fun y => (gi L i, y)) |>.or (rOut P L (i + 1))
theorem drop_gi {L : List Int} {k : Int} (h0 : 0 ≤ k) (h1 : k < (L.length : Int)) : L.drop k.toNat = gi L k :: L.drop (k + 1).toNat := by
  rw [List.drop_eq_getElem_cons (by omega), show (k + 1).toNat = k.toNat + 1 by omega]
  congr 1
  unfold gi
  rw [List.getD_eq_getElem?_getD, List.getElem?_eq_getElem (by omega)]
  rfl
theorem rOut_in {P : Int → Int → Bool} {L : List Int} {i : Int} (h0 : 0 ≤ i) (h1 : i < (L.length : Int)) : rOut P L i = rIn P L i 0 := by
  unfold rOut rIn
  rw [drop_gi h0 h1, List.findSome?_cons]
  rw [show L.drop (Int.toNat 0) = L from rfl]
  unfold rowO rOut
  cases L.find? (P (gi L i)) <;> rfl
theorem rOut_end {P : Int → Int → Bool} {L : List Int} {i : Int} (h1 : ¬ i < (L.length : Int)) : rOut P L i = none := by
  unfold rOut
  rw [List.drop_eq_nil_of_le (by omega)]
  rfl
theorem rIn_hit {P : Int → Int → Bool} {L : List Int} {i k : Int} (h0 : 0 ≤ k) (h1 : k < (L.length : Int)) (h : P (gi L i) (gi L k) = true) : rIn P L i k = some (gi L i, gi L k) := by
  unfold rIn
  rw [drop_gi h0 h1, List.find?_cons, h]
  rfl
theorem rIn_miss {P : Int → Int → Bool} {L : List Int} {i k : Int} (h0 : 0 ≤ k) (h1 : k < (L.length : Int)) (h : P (gi L i) (gi L k) = false) : rIn P L i k = rIn P L i (k + 1) := by
  unfold rIn
  rw [drop_gi h0 h1, List.find?_cons, h]
theorem rIn_end {P : Int → Int → Bool} {L : List Int} {i k : Int} (h1 : ¬ k < (L.length : Int)) : rIn P L i k = rOut P L (i + 1) := by
  unfold rIn
  rw [List.drop_eq_nil_of_le (by omega)]
  rfl
def stpF (l : List (Int × Int)) (L : List Int) : Option (Int × Int) := rOut (takB l L) L 0
theorem stp_mem {l : List (Int × Int)} {L : List Int} {p : Int × Int} (h : stpF l L = some p) : p.1 ∈ L ∧ p.2 ∈ L := by
  unfold stpF rOut at h
  obtain ⟨x, hx, hf⟩ := List.exists_of_findSome?_eq_some h
  unfold rowO at hf
  rw [Option.map_eq_some_iff] at hf
  obtain ⟨y, h1, h2⟩ := hf
  subst h2
  exact ⟨List.mem_of_mem_drop hx, List.mem_of_find?_eq_some h1⟩
def foX (l : List (Int × Int)) (L : List Int) : Int := match stpF l L with | some p => p.1 | none => 0
def foY (l : List (Int × Int)) (L : List Int) : Int := match stpF l L with | some p => p.2 | none => 0
def foB (l : List (Int × Int)) (L : List Int) : Bool := (stpF l L).isSome
/-- All pairs of folding. -/
def foldR (l : List (Int × Int)) : Nat → List Int → List (Int × Int)
  | 0, _ => []
  | k + 1, L => if foB l L = true then (foX l L, foY l L) :: foldR l k (onlyL L [foX l L]) else []
theorem fo_mem {l : List (Int × Int)} {L : List Int} (h : foB l L = true) : foX l L ∈ L ∧ foY l L ∈ L := by
  unfold foB at h
  obtain ⟨p, hp⟩ := Option.isSome_iff_exists.1 h
  have := stp_mem hp
  unfold foX foY
  rw [hp]
  exact this
theorem only_less {L : List Int} {x : Int} (h : x ∈ L) : (onlyL L [x]).length < L.length := by
  unfold onlyL
  refine List.length_filter_lt_length_iff_exists.2 ⟨x, h, ?_⟩
  rw [show hasB [x] x = true by rw [hasB_iff]; simp]
  decide
theorem fold_len (l : List (Int × Int)) : ∀ (k : Nat) (L : List Int), (foldR l k L).length ≤ k
  | 0, _ => Nat.le_refl _
  | k + 1, L => by
    rw [foldR]
    split
    · rw [List.length_cons]
      have := fold_len l k (onlyL L [foX l L])
      omega
    · simp
theorem fold_more (l : List (Int × Int)) : ∀ (k j : Nat) (L : List Int), L.length ≤ k → L.length ≤ j → foldR l k L = foldR l j L
  | 0, j, L, h, _ => by
    have e : L = [] := List.length_eq_zero_iff.1 (by omega)
    subst e
    cases j with
    | zero => rfl
    | succ j =>
      rw [foldR, foldR, if_neg]
      intro hb
      exact absurd (fo_mem hb).1 (by simp)
  | k + 1, 0, L, _, h => by
    have e : L = [] := List.length_eq_zero_iff.1 (by omega)
    subst e
    rw [foldR, foldR, if_neg]
    intro hb
    exact absurd (fo_mem hb).1 (by simp)
  | k + 1, j + 1, L, h, h2 => by
    rw [foldR, foldR]
    by_cases hb : foB l L = true
    · rw [if_pos hb, if_pos hb]
      have := only_less (fo_mem hb).1
      rw [fold_more l k j _ (by omega) (by omega)]
    · rw [if_neg hb, if_neg hb]
def foldsL (n : Int) (l : List (Int × Int)) : List (Int × Int) := foldR l (nodesL n).length (nodesL n)
/-- What holds between two pairs: the pairs so far and what is left. -/
structure FoI (n : Int) (l : List (Int × Int)) (s : List (Int × Int) × List Int) : Prop where
  asc : s.2.Pairwise (· < ·)
  rng : ∀ x ∈ s.2, 0 ≤ x ∧ x < n
  len : s.1.length + s.2.length ≤ 8
  res : s.1 ++ foldR l s.2.length s.2 = foldsL n l
def foN (l : List (Int × Int)) (s : List (Int × Int) × List Int) : List (Int × Int) × List Int := (s.1 ++ [(foX l s.2, foY l s.2)], onlyL s.2 [foX l s.2])
theorem fo_next {n : Int} {l : List (Int × Int)} {s : List (Int × Int) × List Int} (h : FoI n l s) (hb : foB l s.2 = true) : FoI n l (foN l s) ∧ (foN l s).2.length < s.2.length := by
  have h1 := only_less (fo_mem hb).1
  refine ⟨⟨h.asc.filter _, fun x hx => h.rng x (List.mem_filter.1 hx).1, ?_, ?_⟩, h1⟩
  · show (s.1 ++ [_]).length + (onlyL s.2 [foX l s.2]).length ≤ 8
    rw [List.length_append]
    have := h.len
    simp only [List.length_cons, List.length_nil]
    omega
  · show (s.1 ++ [_]) ++ foldR l (onlyL s.2 [foX l s.2]).length (onlyL s.2 [foX l s.2]) = _
    rw [List.append_assoc, ← h.res]
    congr 1
    have e : foldR l s.2.length s.2 = foldR l (s.2.length - 1 + 1) s.2 := by rw [show s.2.length - 1 + 1 = s.2.length by omega]
    rw [e, foldR, if_pos hb, List.singleton_append, fold_more l (s.2.length - 1) (onlyL s.2 [foX l s.2]).length _ (by omega) (Nat.le_refl _)]
theorem fo_end {n : Int} {l : List (Int × Int)} {s : List (Int × Int) × List Int} (h : FoI n l s) (hb : foB l s.2 = false) : s.1 = foldsL n l := by
  rw [← h.res]
  have e : foldR l s.2.length s.2 = [] := by
    cases hl : s.2.length with
    | zero => rfl
    | succ k => rw [foldR, hb, if_neg (by decide)]
  rw [e, List.append_nil]
theorem fo_start {n : Int} {l : List (Int × Int)} (h0 : 0 ≤ n) (h8 : n ≤ 8) : FoI n l ([], nodesL n) := by
  have hlen : (nodesL n).length ≤ 8 := by
    unfold nodesL pref
    refine Nat.le_trans (List.length_filter_le _ _) ?_
    rw [List.length_map, List.length_range]
    omega
  refine ⟨?_, ?_, ?_, rfl⟩
  · show (nodesL n).Pairwise _
    unfold nodesL pref
    refine List.Pairwise.filter _ ?_
    rw [List.pairwise_map]
    refine List.Pairwise.imp ?_ List.pairwise_lt_range
    intro a b hab
    exact Int.ofNat_lt.2 hab
  · intro x hx
    have hx2 : x ∈ nodesL n := hx
    have := pref_mem.1 hx2
    omega
  · show 0 + (nodesL n).length ≤ 8
    omega
theorem folds_len {n : Int} {l : List (Int × Int)} (h0 : 0 ≤ n) (h8 : n ≤ 8) : (foldsL n l).length ≤ 8 := by
  have h := (fo_start (l := l) h0 h8).len
  have := fold_len l (nodesL n).length (nodesL n)
  unfold foldsL
  have : ([] : List (Int × Int)).length + (nodesL n).length ≤ 8 := h
  simp only [List.length_nil] at this
  omega
end Go.Proofs.Ytikclhackjjhfaa.M
/- Folding: the program. -/
namespace Go.Proofs.Ytikclhackjjhfaa.M
open Go.RowKit Abs
set_option linter.unusedSimpArgs false
set_option linter.unusedVariables false
set_option maxRecDepth 100000
set_option maxHeartbeats 4000000
theorem im_take1 (n : Int) (l : List (Int × Int)) (x y z : Int) (hl : l.length ≤ 1048576) (hg : graphOk n l = true) : Spec2 Try.prog 143 [.int fun _ => z, .ibox [.int fun _ => y] 0, .ibox [.int fun _ => n, .sl (.pr .int .int) fun _ => l] 0, .ibox [.int fun _ => x] 0] [] [.bool fun _ => (!decide (z = y) && nearB l z x) && !nearB l z y] [] := by
  have e1 := im_areNeighbors n l z x hl hg
  have e2 := im_areNeighbors n l z y hl hg
  generalize nearB l z x = p at *
  generalize nearB l z y = q at *
  refine fnS [] [5] Try.func143 rfl (by decide) rfl (by decide) (by kernel_rfl) rfl (by simp [Try.ntmps143]) ?_
  cbv
  ((try simp only [IfP_iff, and_true, true_and, decide_eq_true_eq, decide_eq_false_iff_not]); (try simp only [natc, getI_gi, at2_0, at2_1]); (try dsimp only [Ty.den]); (try simp only [natc] at *); (repeat' (first | apply And.intro | intro _)))
  all_goals (repeat' (first | ((first | refine call_q e1 (by cbv) ?_ | refine call_pure e1 (by cbv) ?_); cbv; ((try simp only [IfP_iff, and_true, true_and, decide_eq_true_eq, decide_eq_false_iff_not]); (try simp only [natc, getI_gi, at2_0, at2_1]); (try dsimp only [Ty.den]); (try simp only [natc] at *); (repeat' (first | apply And.intro | intro _)))) | ((first | refine call_q e2 (by cbv) ?_ | refine call_pure e2 (by cbv) ?_); cbv; ((try simp only [IfP_iff, and_true, true_and, decide_eq_true_eq, decide_eq_false_iff_not]); (try simp only [natc, getI_gi, at2_0, at2_1]); (try dsimp only [Ty.den]); (try simp only [natc] at *); (repeat' (first | apply And.intro | intro _))))))
  all_goals (try (simp only [IfP_iff, EqU_iff, Obl_iff, and_true, true_and, inI_iff, decide_eq_true_eq, decide_eq_false_iff_not]; (try simp only [natc, getI_gi, at2_0, at2_1]); (try dsimp only [Ty.den]); try simp only [natc] at *))
  all_goals ((repeat' (first | apply And.intro | intro _)) <;> first | omega | (simp_all; done) | trace_state)
theorem im_take (n : Int) (l : List (Int × Int)) (L : List Int) (x y : Int) (hl : l.length ≤ 1048576) (hg : graphOk n l = true) (hL : L.length ≤ 1048576) : Spec2 Try.prog 100 [.agg (.pr .int (.sl (.pr .int .int))) fun _ => (n, l), .sl .int fun _ => L, .int fun _ => x, .int fun _ => y] [] [.bool fun _ => takB l L x y] [] := by
  have e1 := im_areNeighbors n l x y hl hg
  have e2 := go_containsF 143 (fun _ => ofCaps [.ibox [.int fun _ => y] 0, .ibox [.int fun _ => n, .sl (.pr .int .int) fun _ => l] 0, .ibox [.int fun _ => x] 0]) (fun z => (!decide (z = y) && nearB l z x) && !nearB l z y) L hL fun z _ => ⟨_, rfl, fun _ => rfl, im_take1 n l x y z hl hg⟩
  have t : takB l L x y = (nearB l x y && !L.any (fun z => (!decide (z = y) && nearB l z x) && !nearB l z y)) := rfl
  generalize takB l L x y = r at *
  generalize nearB l x y = p at *
  generalize (L.any (fun z => (!decide (z = y) && nearB l z x) && !nearB l z y)) = q at *
  refine fnS [] [8] Try.func100 rfl (by decide) rfl (by decide) (by kernel_rfl) rfl (by simp [Try.ntmps100]) ?_
  cbv
  ((try simp only [IfP_iff, and_true, true_and, decide_eq_true_eq, decide_eq_false_iff_not]); (try simp only [natc, getI_gi, at2_0, at2_1]); (try dsimp only [Ty.den]); (try simp only [natc] at *); (repeat' (first | apply And.intro | intro _)))
  all_goals (repeat' (first | ((first | refine call_q e1 (by cbv) ?_ | refine call_pure e1 (by cbv) ?_); cbv; ((try simp only [IfP_iff, and_true, true_and, decide_eq_true_eq, decide_eq_false_iff_not]); (try simp only [natc, getI_gi, at2_0, at2_1]); (try dsimp only [Ty.den]); (try simp only [natc] at *); (repeat' (first | apply And.intro | intro _)))) | ((first | refine call_q e2 (by cbv) ?_ | refine call_pure e2 (by cbv) ?_); cbv; ((try simp only [IfP_iff, and_true, true_and, decide_eq_true_eq, decide_eq_false_iff_not]); (try simp only [natc, getI_gi, at2_0, at2_1]); (try dsimp only [Ty.den]); (try simp only [natc] at *); (repeat' (first | apply And.intro | intro _))))))
  all_goals (try (simp only [IfP_iff, EqU_iff, Obl_iff, and_true, true_and, inI_iff, decide_eq_true_eq, decide_eq_false_iff_not]; (try simp only [natc, getI_gi, at2_0, at2_1]); (try dsimp only [Ty.den]); try simp only [natc] at *))
  all_goals ((repeat' (first | apply And.intro | intro _)) <;> first | omega | (simp_all; done) | trace_state)
theorem im_fstFold (n : Int) (l : List (Int × Int)) (L : List Int) (hl : l.length ≤ 1048576) (hg : graphOk n l = true) (hL : L.length ≤ 1048576) : Spec2 Try.prog 59 [.agg (.pr .int (.sl (.pr .int .int))) fun _ => (n, l), .sl .int fun _ => L] [] [.int fun _ => foX l L, .int fun _ => foY l L, .bool fun _ => foB l L] [] := by
  have s0 : rOut (takB l L) L 0 = stpF l L := rfl
  have d1 : stpF l L = none → 0 = foX l L ∧ 0 = foY l L ∧ false = foB l L := fun h => by unfold foX foY foB; rw [h]; exact ⟨rfl, rfl, rfl⟩
  have d2 : ∀ a b, stpF l L = some (a, b) → a = foX l L ∧ b = foY l L ∧ true = foB l L := fun a b h => by unfold foX foY foB; rw [h]; exact ⟨rfl, rfl, rfl⟩
  have e1 := fun x y => im_take n l L x y hl hg hL
  generalize stpF l L = r at *
  generalize foX l L = X at *
  generalize foY l L = Y at *
  generalize foB l L = B at *
  generalize takB l L = P at *
  refine fnS [] [4, 5, 6] Try.func59 rfl (by decide) rfl (by decide) (by kernel_rfl) rfl (by simp [Try.ntmps59]) ?_
  cbv
  refine loopP (by kernel_rfl) (fun i : Int => 0 ≤ i ∧ i ≤ L.length ∧ rOut P L i = r) (fun i => [(13, .int fun _ => i)]) (fun _ => []) (fun i => (L.length - i).toNat) (· + 1) 0 (by refine ⟨by omega, by omega, s0⟩) ?_ ?_
  · cbv
    (simp only [IfP_iff, EqU_iff, Obl_iff, and_true, true_and, inI_iff, decide_eq_true_eq, decide_eq_false_iff_not]; (try simp only [natc, getI_gi, at2_0, at2_1]); (try dsimp only [Ty.den]); try simp only [natc] at *)
  · intro i hi
    have a1 : ¬ i < (L.length : Int) → 0 = X ∧ 0 = Y ∧ false = B := fun h => d1 (by rw [← hi.2.2]; exact rOut_end h)
    have a2 : i < (L.length : Int) → rIn P L i 0 = r := fun h => by rw [← rOut_in hi.1 h]; exact hi.2.2
    have i0 := hi.1
    have i1 := hi.2.1
    clear hi
    cbv
    ((try simp only [IfP_iff, and_true, true_and, decide_eq_true_eq, decide_eq_false_iff_not]); (try simp only [natc, getI_gi, at2_0, at2_1]); (try dsimp only [Ty.den]); (try simp only [natc] at *); (repeat' (first | apply And.intro | intro _)))
    all_goals (try (show Obl _; (simp only [IfP_iff, EqU_iff, Obl_iff, and_true, true_and, inI_iff, decide_eq_true_eq, decide_eq_false_iff_not]; (try simp only [natc, getI_gi, at2_0, at2_1]); (try dsimp only [Ty.den]); try simp only [natc] at *); ((repeat' (first | apply And.intro | intro _)) <;> first | omega)))
    · refine loopP (by kernel_rfl) (fun k : Int => 0 ≤ k ∧ k ≤ L.length ∧ rIn P L i k = r) (fun k => [(19, .int fun _ => k)]) (fun _ => []) (fun k => (L.length - k).toNat) (· + 1) 0 (by refine ⟨by omega, by omega, a2 (by assumption)⟩) ?_ ?_
      · cbv
        (simp only [IfP_iff, EqU_iff, Obl_iff, and_true, true_and, inI_iff, decide_eq_true_eq, decide_eq_false_iff_not]; (try simp only [natc, getI_gi, at2_0, at2_1]); (try dsimp only [Ty.den]); try simp only [natc] at *)
      · intro k hk
        have b1 : ¬ k < (L.length : Int) → rOut P L (i + 1) = r := fun h => by rw [← rIn_end h]; exact hk.2.2
        have b2 : k < (L.length : Int) → P (gi L i) (gi L k) = true → gi L i = X ∧ gi L k = Y ∧ true = B := fun h h2 => d2 _ _ (by rw [← hk.2.2]; exact rIn_hit hk.1 h h2)
        have b3 : k < (L.length : Int) → P (gi L i) (gi L k) = false → rIn P L i (k + 1) = r := fun h h2 => by rw [← rIn_miss hk.1 h h2]; exact hk.2.2
        have k0 := hk.1
        have k1 := hk.2.1
        have e2 := e1 (gi L i) (gi L k)
        clear hk d1 d2 e1 a1 a2
        cbv
        ((try simp only [IfP_iff, and_true, true_and, decide_eq_true_eq, decide_eq_false_iff_not]); (try simp only [natc, getI_gi, at2_0, at2_1]); (try dsimp only [Ty.den]); (try simp only [natc] at *); (repeat' (first | apply And.intro | intro _)))
        all_goals (repeat' (first | ((first | refine call_q e2 (by cbv) ?_ | refine call_pure e2 (by cbv) ?_); cbv; ((try simp only [IfP_iff, and_true, true_and, decide_eq_true_eq, decide_eq_false_iff_not]); (try simp only [natc, getI_gi, at2_0, at2_1]); (try dsimp only [Ty.den]); (try simp only [natc] at *); (repeat' (first | apply And.intro | intro _))))))
        all_goals (try ((try simp only [IfP_iff, and_true, true_and, decide_eq_true_eq, decide_eq_false_iff_not]); (try simp only [natc, getI_gi, at2_0, at2_1]); (try dsimp only [Ty.den]); (try simp only [natc] at *); (repeat' (first | apply And.intro | intro _))))
        all_goals (try (simp only [IfP_iff, EqU_iff, Obl_iff, and_true, true_and, inI_iff, decide_eq_true_eq, decide_eq_false_iff_not]; (try simp only [natc, getI_gi, at2_0, at2_1]); (try dsimp only [Ty.den]); try simp only [natc] at *))
        all_goals ((repeat' (first | apply And.intro | intro _)) <;> first | omega | exact (b2 (by assumption) (by assumption)).1 | exact (b2 (by assumption) (by assumption)).2.1 | exact (b2 (by assumption) (by assumption)).2.2 | exact b3 (by assumption) (by assumption) | exact b1 (by assumption) | trace_state)
    all_goals (try (simp only [IfP_iff, EqU_iff, Obl_iff, and_true, true_and, inI_iff, decide_eq_true_eq, decide_eq_false_iff_not]; (try simp only [natc, getI_gi, at2_0, at2_1]); (try dsimp only [Ty.den]); try simp only [natc] at *))
    all_goals ((repeat' (first | apply And.intro | intro _)) <;> first | omega | exact (a1 (by assumption)).1 | exact (a1 (by assumption)).2.1 | exact (a1 (by assumption)).2.2 | trace_state)
end Go.Proofs.Ytikclhackjjhfaa.M
/- Folding: the specification. -/
namespace Go.Proofs.Ytikclhackjjhfaa.M
open Go.RowKit Abs
set_option linter.unusedSimpArgs false
set_option linter.unusedVariables false
set_option maxRecDepth 100000
set_option maxHeartbeats 4000000
theorem sp_withoutF (l : List Int) (d : Int) (hl : l.length ≤ 1048576) : Spec2 Try.prog 97 [.sl .int fun _ => l, .int fun _ => d] [] [.ref 0] [some (.row 3 .int fun _ => onlyL l [d])] := by
  have e : onlyL l [d] = l.filter (outX d) := by
    unfold onlyL
    refine List.filter_congr fun x _ => ?_
    have e1 : hasB [d] x = decide (x = d) := by rw [Bool.eq_iff_iff, hasB_iff]; simp
    rw [e1]; rfl
  rw [e]
  exact sp_without l d hl
theorem any_step {L : List Int} {Q : Int → Bool} {k : Int} (h0 : 0 ≤ k) (h1 : k < (L.length : Int)) : (L.drop k.toNat).any Q = (Q (gi L k) || (L.drop (k + 1).toNat).any Q) := by
  rw [drop_gi h0 h1, List.any_cons]
theorem gi_lt {L : List Int} (h : L.Pairwise (· < ·)) {i k : Int} (i0 : 0 ≤ i) (ik : i < k) (k1 : k < (L.length : Int)) : gi L i < gi L k := by
  have := List.pairwise_iff_getElem.1 h i.toNat k.toNat (by omega) (by omega) (by omega)
  unfold gi
  rw [List.getD_eq_getElem?_getD, List.getElem?_eq_getElem (by omega), List.getD_eq_getElem?_getD, List.getElem?_eq_getElem (by omega)]
  exact this
theorem sp_covers (n : Int) (l : List (Int × Int)) (L : List Int) (x y : Int) (hl : l.length ≤ 1048576) (hL : L.length ≤ 1048576) : Spec2 Try.prog 139 [.agg (.pr .int (.sl (.pr .int .int))) fun _ => (n, l), .sl .int fun _ => L, .int fun _ => x, .int fun _ => y] [] [.bool fun _ => covX l L x y] [] := by
  obtain ⟨Q, hQ⟩ : ∃ Q : Int → Bool, Q = fun z => ((decide (z = x) || nearB l x z) && !decide (z = y)) && !nearB l y z := ⟨_, rfl⟩
  have q1 : ∀ z, (z = x ∨ nearB l x z = true) → ¬ z = y → nearB l y z = false → Q z = true := fun z h1 h2 h3 => by
    rw [hQ]
    simp [h1, h2, h3]
  have q2 : ∀ z, (¬ z = x ∧ nearB l x z = false) ∨ z = y ∨ nearB l y z = true → Q z = false := fun z h => by
    rw [hQ]
    rcases h with h | h | h
    · simp [h.1, h.2]
    · simp [h]
    · simp [h]
  have t : covX l L x y = !L.any Q := by unfold covX; rw [hQ]
  generalize covX l L x y = r at *
  have e1 := fun z => sp_near n l x z hl
  have e2 := fun z => sp_near n l y z hl
  generalize nearB l x = p at *
  generalize nearB l y = q at *
  clear hQ
  refine fnS [] [8] Try.func139 rfl (by decide) rfl (by decide) (by kernel_rfl) rfl (by simp [Try.ntmps139]) ?_
  cbv
  refine loopP (by kernel_rfl) (fun k : Int => 0 ≤ k ∧ k ≤ L.length ∧ (L.drop k.toNat).any Q = L.any Q) (fun k => [(9, .int fun _ => k)]) (fun _ => []) (fun k => (L.length - k).toNat) (· + 1) 0 (by refine ⟨by omega, by omega, rfl⟩) ?_ ?_
  · cbv
    (simp only [IfP_iff, EqU_iff, Obl_iff, and_true, true_and, inI_iff, decide_eq_true_eq, decide_eq_false_iff_not]; (try simp only [natc, getI_gi, at2_0, at2_1]); (try dsimp only [Ty.den]); try simp only [natc] at *)
  · intro k hk
    have a1 : k < (L.length : Int) → Q (gi L k) = true → false = r := fun h h2 => by rw [t, ← hk.2.2, any_step hk.1 h, h2]; rfl
    have a2 : ¬ k < (L.length : Int) → true = r := fun h => by rw [t, ← hk.2.2, List.drop_eq_nil_of_le (by omega)]; rfl
    have a3 : k < (L.length : Int) → Q (gi L k) = false → (L.drop (k + 1).toNat).any Q = L.any Q := fun h h2 => by rw [← hk.2.2, any_step hk.1 h, h2]; rfl
    have k0 := hk.1
    have k1 := hk.2.1
    have f1 := e1 (gi L k)
    have f2 := e2 (gi L k)
    have b1 : k < (L.length : Int) → (gi L k = x ∨ p (gi L k) = true) → ¬ gi L k = y → q (gi L k) = false → false = r := fun h h2 h3 h4 => a1 h (q1 _ h2 h3 h4)
    have b2 : k < (L.length : Int) → (¬ gi L k = x ∧ p (gi L k) = false) ∨ gi L k = y ∨ q (gi L k) = true → (L.drop (k + 1).toNat).any Q = L.any Q := fun h h2 => a3 h (q2 _ h2)
    clear hk a1 a3 e1 e2 q1 q2 t
    generalize p (gi L k) = pk at *
    generalize q (gi L k) = qk at *
    cbv
    ((try simp only [IfP_iff, and_true, true_and, decide_eq_true_eq, decide_eq_false_iff_not]); (try simp only [natc, getI_gi, at2_0, at2_1]); (try dsimp only [Ty.den]); (try simp only [natc] at *); (repeat' (first | apply And.intro | intro _)))
    all_goals (repeat' (first | ((first | refine call_q f1 (by cbv) ?_ | refine call_pure f1 (by cbv) ?_); cbv; ((try simp only [IfP_iff, and_true, true_and, decide_eq_true_eq, decide_eq_false_iff_not]); (try simp only [natc, getI_gi, at2_0, at2_1]); (try dsimp only [Ty.den]); (try simp only [natc] at *); (repeat' (first | apply And.intro | intro _)))) | ((first | refine call_q f2 (by cbv) ?_ | refine call_pure f2 (by cbv) ?_); cbv; ((try simp only [IfP_iff, and_true, true_and, decide_eq_true_eq, decide_eq_false_iff_not]); (try simp only [natc, getI_gi, at2_0, at2_1]); (try dsimp only [Ty.den]); (try simp only [natc] at *); (repeat' (first | apply And.intro | intro _))))))
    all_goals (try ((try simp only [IfP_iff, and_true, true_and, decide_eq_true_eq, decide_eq_false_iff_not]); (try simp only [natc, getI_gi, at2_0, at2_1]); (try dsimp only [Ty.den]); (try simp only [natc] at *); (repeat' (first | apply And.intro | intro _))))
    all_goals (try (simp only [IfP_iff, EqU_iff, Obl_iff, and_true, true_and, inI_iff, decide_eq_true_eq, decide_eq_false_iff_not]; (try simp only [natc, getI_gi, at2_0, at2_1]); (try dsimp only [Ty.den]); try simp only [natc] at *))
    all_goals ((repeat' (first | apply And.intro | intro _)) <;> first | omega | exact a2 (by assumption) | exact b1 (by assumption) (by simp_all) (by simp_all) (by simp_all) | exact b2 (by assumption) (by simp_all) | trace_state)
def foXs (l : List (Int × Int)) (L : List Int) : Int := match stpF l L with | some p => p.1 | none => -1
def foYs (l : List (Int × Int)) (L : List Int) : Int := match stpF l L with | some p => p.2 | none => -1
theorem sp_fold1 (n : Int) (l : List (Int × Int)) (L : List Int) (hl : l.length ≤ 1048576) (hg : graphOk n l = true) (hL : L.length ≤ 1048576) (ha : L.Pairwise (· < ·)) : Spec2 Try.prog 96 [.agg (.pr .int (.sl (.pr .int .int))) fun _ => (n, l), .sl .int fun _ => L] [] [.cells [.int fun _ => foXs l L, .int fun _ => foYs l L]] [] := by
  have s0 : rOut (takB l L) L 0 = stpF l L := rfl
  have d1 : stpF l L = none → -1 = foXs l L ∧ -1 = foYs l L := fun h => by unfold foXs foYs; rw [h]; exact ⟨rfl, rfl⟩
  have d2 : ∀ a b, stpF l L = some (a, b) → a = foXs l L ∧ b = foYs l L := fun a b h => by unfold foXs foYs; rw [h]; exact ⟨rfl, rfl⟩
  have e1 := fun x y => sp_covers n l L x y hl hL
  have ct : ∀ i k : Int, 0 ≤ i → i < (L.length : Int) → 0 ≤ k → k < (L.length : Int) → (!decide (i = k) && covX l L (gi L i) (gi L k)) = takB l L (gi L i) (gi L k) := fun i k i0 i1 k0 k1 => by
    rw [← cov_tak hg (gi_mem i0 i1)]
    congr 2
    rw [decide_eq_decide]
    constructor
    · intro h; rw [h]
    · intro h
      rcases Int.lt_trichotomy i k with h2 | h2 | h2
      · have := gi_lt ha i0 h2 k1; omega
      · exact h2
      · have := gi_lt ha k0 h2 i1; omega
  generalize stpF l L = r at *
  generalize foXs l L = X at *
  generalize foYs l L = Y at *
  generalize takB l L = P at *
  generalize covX l L = C at *
  refine fnG [.cst 4 2 68] Try.func96 rfl (by decide) rfl (by kernel_rfl) (.inl rfl) (by kernel_rfl) (Nat.zero_le _) (by simp [Try.ntmps96]) ?_
  cbv
  refine loopP (by kernel_rfl) (fun i : Int => 0 ≤ i ∧ i ≤ L.length ∧ rOut P L i = r) (fun i => [(5, .int fun _ => i)]) (fun _ => []) (fun i => (L.length - i).toNat) (· + 1) 0 (by refine ⟨by omega, by omega, s0⟩) ?_ ?_
  · cbv
    (simp only [IfP_iff, EqU_iff, Obl_iff, and_true, true_and, inI_iff, decide_eq_true_eq, decide_eq_false_iff_not]; (try simp only [natc, getI_gi, at2_0, at2_1]); (try dsimp only [Ty.den]); try simp only [natc] at *)
  · intro i hi
    have a1 : ¬ i < (L.length : Int) → -1 = X ∧ -1 = Y := fun h => d1 (by rw [← hi.2.2]; exact rOut_end h)
    have a2 : i < (L.length : Int) → rIn P L i 0 = r := fun h => by rw [← rOut_in hi.1 h]; exact hi.2.2
    have i0 := hi.1
    have i1 := hi.2.1
    clear hi
    cbv
    ((try simp only [IfP_iff, and_true, true_and, decide_eq_true_eq, decide_eq_false_iff_not]); (try simp only [natc, getI_gi, at2_0, at2_1]); (try dsimp only [Ty.den]); (try simp only [natc] at *); (repeat' (first | apply And.intro | intro _)))
    all_goals (try (show Obl _; (simp only [IfP_iff, EqU_iff, Obl_iff, and_true, true_and, inI_iff, decide_eq_true_eq, decide_eq_false_iff_not]; (try simp only [natc, getI_gi, at2_0, at2_1]); (try dsimp only [Ty.den]); try simp only [natc] at *); ((repeat' (first | apply And.intro | intro _)) <;> first | omega)))
    · have i2 : i < (L.length : Int) := by assumption
      refine loopP (by kernel_rfl) (fun k : Int => 0 ≤ k ∧ k ≤ L.length ∧ rIn P L i k = r) (fun k => [(6, .int fun _ => k)]) (fun _ => []) (fun k => (L.length - k).toNat) (· + 1) 0 (by refine ⟨by omega, by omega, a2 (by assumption)⟩) ?_ ?_
      · cbv
        (simp only [IfP_iff, EqU_iff, Obl_iff, and_true, true_and, inI_iff, decide_eq_true_eq, decide_eq_false_iff_not]; (try simp only [natc, getI_gi, at2_0, at2_1]); (try dsimp only [Ty.den]); try simp only [natc] at *)
      · intro k hk
        have b1 : ¬ k < (L.length : Int) → rOut P L (i + 1) = r := fun h => by rw [← rIn_end h]; exact hk.2.2
        have b2 : k < (L.length : Int) → ¬ i = k → C (gi L i) (gi L k) = true → gi L i = X ∧ gi L k = Y := fun h h2 h3 => d2 _ _ (by rw [← hk.2.2]; exact rIn_hit hk.1 h (by rw [← ct i k i0 i2 hk.1 h, decide_eq_false h2, h3]; rfl))
        have b3 : k < (L.length : Int) → i = k ∨ C (gi L i) (gi L k) = false → rIn P L i (k + 1) = r := fun h h2 => by
          rw [← rIn_miss hk.1 h (by
            rw [← ct i k i0 i2 hk.1 h]
            rcases h2 with h2 | h2
            · rw [decide_eq_true h2]; rfl
            · rw [h2, Bool.and_false])]
          exact hk.2.2
        have k0 := hk.1
        have k1 := hk.2.1
        have e2 := e1 (gi L i) (gi L k)
        clear hk d1 d2 e1 a1 a2 ct
        generalize C (gi L i) (gi L k) = ck at *
        cbv
        ((try simp only [IfP_iff, and_true, true_and, decide_eq_true_eq, decide_eq_false_iff_not]); (try simp only [natc, getI_gi, at2_0, at2_1]); (try dsimp only [Ty.den]); (try simp only [natc] at *); (repeat' (first | apply And.intro | intro _)))
        all_goals (repeat' (first | ((first | refine call_q e2 (by cbv) ?_ | refine call_pure e2 (by cbv) ?_); cbv; ((try simp only [IfP_iff, and_true, true_and, decide_eq_true_eq, decide_eq_false_iff_not]); (try simp only [natc, getI_gi, at2_0, at2_1]); (try dsimp only [Ty.den]); (try simp only [natc] at *); (repeat' (first | apply And.intro | intro _))))))
        all_goals (try ((try simp only [IfP_iff, and_true, true_and, decide_eq_true_eq, decide_eq_false_iff_not]); (try simp only [natc, getI_gi, at2_0, at2_1]); (try dsimp only [Ty.den]); (try simp only [natc] at *); (repeat' (first | apply And.intro | intro _))))
        all_goals (try (show Obl _; (simp only [IfP_iff, EqU_iff, Obl_iff, and_true, true_and, inI_iff, decide_eq_true_eq, decide_eq_false_iff_not]; (try simp only [natc, getI_gi, at2_0, at2_1]); (try dsimp only [Ty.den]); try simp only [natc] at *); ((repeat' (first | apply And.intro | intro _)) <;> first | omega)))
        all_goals (try (refine EndG.plain [] ?_; cbv; (simp only [IfP_iff, EqU_iff, Obl_iff, and_true, true_and, inI_iff, decide_eq_true_eq, decide_eq_false_iff_not]; (try simp only [natc, getI_gi, at2_0, at2_1]); (try dsimp only [Ty.den]); try simp only [natc] at *); exact b2 (by assumption) (by simp_all) (by simp_all)))
        all_goals (try (simp only [IfP_iff, EqU_iff, Obl_iff, and_true, true_and, inI_iff, decide_eq_true_eq, decide_eq_false_iff_not]; (try simp only [natc, getI_gi, at2_0, at2_1]); (try dsimp only [Ty.den]); try simp only [natc] at *))
        all_goals ((repeat' (first | apply And.intro | intro _)) <;> first | omega | exact b3 (by assumption) (by simp_all) | exact b1 (by assumption) | trace_state)
    all_goals (try (refine EndG.plain [] ?_; cbv; (simp only [IfP_iff, EqU_iff, Obl_iff, and_true, true_and, inI_iff, decide_eq_true_eq, decide_eq_false_iff_not]; (try simp only [natc, getI_gi, at2_0, at2_1]); (try dsimp only [Ty.den]); try simp only [natc] at *); exact a1 (by assumption)))
    all_goals (try (simp only [IfP_iff, EqU_iff, Obl_iff, and_true, true_and, inI_iff, decide_eq_true_eq, decide_eq_false_iff_not]; (try simp only [natc, getI_gi, at2_0, at2_1]); (try dsimp only [Ty.den]); try simp only [natc] at *))
    all_goals ((repeat' (first | apply And.intro | intro _)) <;> first | omega | trace_state)
end Go.Proofs.Ytikclhackjjhfaa.M
/- FoldOrder, CanFold: both sides. -/
namespace Go.Proofs.Ytikclhackjjhfaa.M
open Go.RowKit Abs
set_option linter.unusedSimpArgs false
set_option linter.unusedVariables false
set_option maxRecDepth 100000
set_option maxHeartbeats 4000000
def fldR (n : Int) (l : List (Int × Int)) : List (Int × Int) := if (graphOk n l && !decide (n = 0)) = true then foldsL n l else []
def fldB (n : Int) (l : List (Int × Int)) : Bool := graphOk n l && !decide (n = 0)
theorem fldR_len (n : Int) (l : List (Int × Int)) : (fldR n l).length ≤ 1048576 := by
  unfold fldR
  split
  · rename_i h
    simp only [Bool.and_eq_true] at h
    have := (graph_edges h.1).1
    have := folds_len (l := l) this.1 this.2
    omega
  · simp
theorem foXs_eq {l : List (Int × Int)} {L : List Int} (h : foB l L = true) : foXs l L = foX l L ∧ foYs l L = foY l L := by
  unfold foB at h
  obtain ⟨p, hp⟩ := Option.isSome_iff_exists.1 h
  unfold foXs foYs foX foY
  rw [hp]
  exact ⟨rfl, rfl⟩
theorem foXs_no {l : List (Int × Int)} {L : List Int} (h : foB l L = false) : foXs l L = -1 := by
  unfold foB at h
  have : stpF l L = none := by simpa using h
  unfold foXs
  rw [this]
theorem im_foldOrder (n : Int) (l : List (Int × Int)) (hl : l.length ≤ 1048576) : Spec2 Try.prog 17 [.agg (.pr .int (.sl (.pr .int .int))) fun _ => (n, l)] [] [.ref 0, .bool fun _ => fldB n l] [some (.row 68 (.pr .int .int) fun _ => fldR n l)] := by
  have e0 := im_graph n l hl
  have hb : fldB n l = (graphOk n l && !decide (n = 0)) := rfl
  have hr : fldR n l = if fldB n l = true then foldsL n l else [] := rfl
  cases hc : fldB n l with
  | false =>
    rw [hr, hc, if_neg (by decide)]
    rw [hc] at hb
    have hno : (!graphOk n l) = false → n = 0 := fun h => by
      have h2 : graphOk n l = true := by simpa using h
      rw [h2] at hb
      simpa using hb.symm
    clear hb hr
    generalize graphOk n l = g at *
    refine fnS [1] [2, 3] Try.func17 rfl (by decide) rfl (by decide) (by kernel_rfl) rfl (by simp [Try.ntmps17]) ?_
    cbv
    ((try simp only [IfP_iff, and_true, true_and, decide_eq_true_eq, decide_eq_false_iff_not]); (try simp only [natc, getI_gi, at2_0, at2_1]); (try dsimp only [Ty.den]); (try simp only [natc] at *); (repeat' (first | apply And.intro | intro _)))
    all_goals (repeat' (first | ((first | refine call_q e0 (by cbv) ?_ | refine call_pure e0 (by cbv) ?_); cbv; ((try simp only [IfP_iff, and_true, true_and, decide_eq_true_eq, decide_eq_false_iff_not]); (try simp only [natc, getI_gi, at2_0, at2_1]); (try dsimp only [Ty.den]); (try simp only [natc] at *); (repeat' (first | apply And.intro | intro _))))))
    all_goals (try (exact absurd (hno (by assumption)) (by assumption)))
    all_goals (try (simp only [IfP_iff, EqU_iff, Obl_iff, and_true, true_and, inI_iff, decide_eq_true_eq, decide_eq_false_iff_not]; (try simp only [natc, getI_gi, at2_0, at2_1]); (try dsimp only [Ty.den]); try simp only [natc] at *))
    all_goals (first | rfl | exact ⟨rfl, rfl⟩ | trace_state)
  | true =>
    rw [hr, hc, if_pos rfl]
    rw [hc] at hb
    have hg : graphOk n l = true ∧ ¬ n = 0 := by
      have := hb.symm
      simpa [Bool.and_eq_true] using this
    obtain ⟨hg, n0⟩ := hg
    have g := (graph_edges hg).1
    rw [hg] at e0
    have st := fo_start (l := l) g.1 g.2
    have e1 := im_below n g.1 (by omega)
    rw [show pref (fun _ => true) n.toNat = nodesL n from rfl] at e1
    clear hb hr
    refine fnS [1] [2, 3] Try.func17 rfl (by decide) rfl (by decide) (by kernel_rfl) rfl (by simp [Try.ntmps17]) ?_
    cbv
    ((try simp only [IfP_iff, and_true, true_and, decide_eq_true_eq, decide_eq_false_iff_not]); (try simp only [natc, getI_gi, at2_0, at2_1]); (try dsimp only [Ty.den]); (try simp only [natc] at *); (repeat' (first | apply And.intro | intro _)))
    all_goals (repeat' (first | ((first | refine call_q e0 (by cbv) ?_ | refine call_pure e0 (by cbv) ?_); cbv; ((try simp only [IfP_iff, and_true, true_and, decide_eq_true_eq, decide_eq_false_iff_not]); (try simp only [natc, getI_gi, at2_0, at2_1]); (try dsimp only [Ty.den]); (try simp only [natc] at *); (repeat' (first | apply And.intro | intro _)))) | ((first | refine call_q e1 (by cbv) ?_ | refine call_pure e1 (by cbv) ?_); cbv; ((try simp only [IfP_iff, and_true, true_and, decide_eq_true_eq, decide_eq_false_iff_not]); (try simp only [natc, getI_gi, at2_0, at2_1]); (try dsimp only [Ty.den]); (try simp only [natc] at *); (repeat' (first | apply And.intro | intro _))))))
    all_goals (try (exact absurd (by assumption : (!true) = true) (by decide)))
    all_goals (try (exact absurd (by assumption) n0))
    refine loopX (by kernel_rfl) (fun s : List (Int × Int) × List Int => FoI n l s) (fun s => [(4, .ref 1), (5, .ref 2), (18, .junk), (21, .junk)]) (fun s => [(1, some (.row 68 (.pr .int .int) fun _ => s.1)), (2, some (.row 3 .int fun _ => s.2))]) (fun s => s.2.length) (foN l) ([], nodesL n) st ?_ ?_
    · cbv
      (simp only [IfP_iff, EqU_iff, Obl_iff, and_true, true_and, inI_iff, decide_eq_true_eq, decide_eq_false_iff_not]; (try simp only [natc, getI_gi, at2_0, at2_1]); (try dsimp only [Ty.den]); try simp only [natc] at *)
    · intro s hs
      have a1 := fun h => fo_next hs h
      have a2 := fun h => fo_end hs h
      have l2 : s.2.length ≤ 1048576 := by have := hs.len; omega
      have l1 : s.1.length ≤ 8 := by have := hs.len; omega
      have e2 := im_fstFold n l s.2 hl hg l2
      have e3 := im_miss s.2 [foX l s.2] l2 (by rw [List.length_cons, List.length_nil]; omega)
      have t : foN l s = (s.1 ++ [(foX l s.2, foY l s.2)], onlyL s.2 [foX l s.2]) := rfl
      clear hs st
      generalize foN l s = s2 at *
      generalize foB l s.2 = b at *
      generalize foX l s.2 = X at *
      generalize foY l s.2 = Y at *
      cbv
      ((try simp only [IfP_iff, and_true, true_and, decide_eq_true_eq, decide_eq_false_iff_not]); (try simp only [natc, getI_gi, at2_0, at2_1]); (try dsimp only [Ty.den]); (try simp only [natc] at *); (repeat' (first | apply And.intro | intro _)))
      all_goals (repeat' (first | ((first | refine call_q e2 (by cbv) ?_ | refine call_pure e2 (by cbv) ?_); cbv; ((try simp only [IfP_iff, and_true, true_and, decide_eq_true_eq, decide_eq_false_iff_not]); (try simp only [natc, getI_gi, at2_0, at2_1]); (try dsimp only [Ty.den]); (try simp only [natc] at *); (repeat' (first | apply And.intro | intro _)))) | ((first | refine call_q e3 (by cbv) ?_ | refine call_pure e3 (by cbv) ?_); cbv; ((try simp only [IfP_iff, and_true, true_and, decide_eq_true_eq, decide_eq_false_iff_not]); (try simp only [natc, getI_gi, at2_0, at2_1]); (try dsimp only [Ty.den]); (try simp only [natc] at *); (repeat' (first | apply And.intro | intro _))))))
      all_goals (try (show Obl _; (simp only [IfP_iff, EqU_iff, Obl_iff, and_true, true_and, inI_iff, decide_eq_true_eq, decide_eq_false_iff_not]; (try simp only [natc, getI_gi, at2_0, at2_1]); (try dsimp only [Ty.den]); try simp only [natc] at *); ((repeat' (first | apply And.intro | intro _)) <;> first | omega | (simp only [List.length_cons, List.length_nil]; omega))))
      all_goals (try (refine RenL.mk ⟨[0, 1, 5], ?_⟩; cbv; (simp only [IfP_iff, EqU_iff, Obl_iff, and_true, true_and, inI_iff, decide_eq_true_eq, decide_eq_false_iff_not]; (try simp only [natc, getI_gi, at2_0, at2_1]); (try dsimp only [Ty.den]); try simp only [natc] at *); rw [t]; exact ⟨rfl, rfl⟩))
      all_goals (try (simp only [IfP_iff, EqU_iff, Obl_iff, and_true, true_and, inI_iff, decide_eq_true_eq, decide_eq_false_iff_not]; (try simp only [natc, getI_gi, at2_0, at2_1]); (try dsimp only [Ty.den]); try simp only [natc] at *))
      all_goals ((repeat' (first | apply And.intro | intro _)) <;> first | omega | exact a2 (by simp_all) | exact (a1 (by simp_all)).1 | exact (a1 (by simp_all)).2 | trace_state)
theorem sp_folds (n : Int) (l : List (Int × Int)) (hl : l.length ≤ 1048576) (hg : graphOk n l = true) : Spec2 Try.prog 55 [.agg (.pr .int (.sl (.pr .int .int))) fun _ => (n, l)] [] [.ref 0] [some (.row 68 (.pr .int .int) fun _ => foldsL n l)] := by
  have g := (graph_edges hg).1
  have st := fo_start (l := l) g.1 g.2
  obtain ⟨s1, s2⟩ := shl_one g.1 g.2
  have hlen : (nodesL n).length ≤ 1048576 := by have := st.len; have : ([] : List (Int × Int)).length + (nodesL n).length ≤ 8 := this; simp only [List.length_nil] at this; omega
  refine fnE [1] [1] [2] Try.func55 rfl (by decide) rfl (by decide) (by kernel_rfl) rfl (by simp [Try.ntmps55]) ?_
  cbv
  refine DrawL.layersS [(7, fun S => S.new (some 13) (.ref S.H.length) (.row 3 .int fun _ => nodesL n))] [] (fun l i => if ((i == 0) && l.getD 7 false) = true then some [0, 2, 1] else none) [([false, false, false, false, false, false, false, false, false, false], [0, 1, 3]), ([true, false, false, false, false, false, false, false, false, false], [1, 3]), ([false, true, false, false, false, false, false, false, false, false], [0, 2, 3]), ([false, false, false, true, false, false, false, false, false, false], [0, 1, 4]), ([true, true, false, false, false, false, false, false, false, false], [2, 3]), ([true, false, false, true, false, false, false, false, false, false], [1, 4]), ([false, true, true, false, false, false, false, false, false, false], [0, 3]), ([false, true, false, true, false, false, false, false, false, false], [0, 2, 4]), ([false, false, false, true, true, false, false, false, false, false], [0, 1, 5]), ([true, true, true, false, false, false, false, false, false, false], [3]), ([true, true, false, true, false, false, false, false, false, false], [2, 4]), ([true, false, false, true, true, false, false, false, false, false], [1, 5]), ([false, true, true, true, false, false, false, false, false, false], [0, 4]), ([false, true, false, true, true, false, false, false, false, false], [0, 2, 5]), ([false, false, false, true, true, true, false, false, false, false], [0, 1, 6]), ([true, true, true, true, false, false, false, false, false, false], [4]), ([true, true, false, true, true, false, false, false, false, false], [2, 5]), ([true, false, false, true, true, true, false, false, false, false], [1, 6]), ([false, true, true, true, true, false, false, false, false, false], [0, 5]), ([false, true, false, true, true, true, false, false, false, false], [0, 2, 6]), ([false, false, false, true, true, true, true, false, false, false], [0, 1]), ([true, true, true, true, true, false, false, false, false, false], [5]), ([true, true, false, true, true, true, false, false, false, false], [2, 6]), ([true, false, false, true, true, true, true, false, false, false], [1]), ([false, true, true, true, true, true, false, false, false, false], [0, 6]), ([false, true, false, true, true, true, true, false, false, false], [0, 2]), ([true, true, true, true, true, true, false, false, false, false], [6]), ([true, true, false, true, true, true, true, false, false, false], [2]), ([false, true, true, true, true, true, true, false, false, false], [0, 7]), ([true, true, true, true, true, true, true, false, false, false], [7]), ([false, true, true, true, true, true, true, true, false, false], [0]), ([true, true, true, true, true, true, true, true, false, false], [8]), ([true, true, true, true, true, true, true, true, true, false], [9]), ([true, true, true, true, true, true, true, true, true, true], [])] (by kernel_rfl) (by rfl) ?_
  cbv
  (repeat' (first | apply And.intro | apply EqU.mk))
  all_goals (try trivial)
  all_goals (try (((first | refine call_q (sp_bitsN n _ g.1 g.2 rfl) (by cbv) ?_ | refine call_pure (sp_bitsN n _ g.1 g.2 rfl) (by cbv) ?_); cbv; ((try simp only [IfP_iff, and_true, true_and, decide_eq_true_eq, decide_eq_false_iff_not]); (try simp only [natc, getI_gi, at2_0, at2_1]); (try dsimp only [Ty.den]); (try simp only [natc] at *); (repeat' (first | apply And.intro | intro _))))))
  all_goals (try (first | trivial | rfl))
  all_goals (try (exact ⟨⟨g.1, s1⟩⟩))
  all_goals (try (exact ⟨s2⟩))
  have e0 := sp_fold1 n l (nodesL n) hl hg hlen st.asc
  all_goals (repeat' (first | ((first | refine call_q e0 (by cbv) ?_ | refine call_pure e0 (by cbv) ?_); cbv; ((try simp only [IfP_iff, and_true, true_and, decide_eq_true_eq, decide_eq_false_iff_not]); (try simp only [natc, getI_gi, at2_0, at2_1]); (try dsimp only [Ty.den]); (try simp only [natc] at *); (repeat' (first | apply And.intro | intro _))))))
  all_goals (try (simp only [IfP_iff, EqU_iff, Obl_iff, and_true, true_and, inI_iff, decide_eq_true_eq, decide_eq_false_iff_not]; (try simp only [natc, getI_gi, at2_0, at2_1]); (try dsimp only [Ty.den]); try simp only [natc] at *))
  refine loopX (by kernel_rfl) (fun s : List (Int × Int) × List Int => FoI n l s) (fun s => [(3, .ref 1), (4, .ref 2), (5, .ptr 3 0), (6, .junk), (13, .junk), (15, .junk)]) (fun s => [(1, some (.row 68 (.pr .int .int) fun _ => s.1)), (2, some (.row 3 .int fun _ => s.2)), (3, some (.box 68 [.int fun _ => foXs l s.2, .int fun _ => foYs l s.2]))]) (fun s => s.2.length) (foN l) ([], nodesL n) st ?_ ?_
  · cbv
    (simp only [IfP_iff, EqU_iff, Obl_iff, and_true, true_and, inI_iff, decide_eq_true_eq, decide_eq_false_iff_not]; (try simp only [natc, getI_gi, at2_0, at2_1]); (try dsimp only [Ty.den]); try simp only [natc] at *)
  · intro s hs
    have a1 := fun h => fo_next hs h
    have a2 := fun h => fo_end hs h
    have l2 : s.2.length ≤ 1048576 := by have := hs.len; omega
    have l1 : s.1.length ≤ 8 := by have := hs.len; omega
    have e3 := sp_withoutF s.2 (foXs l s.2) l2
    have ge : foXs l s.2 ≥ 0 → foB l s.2 = true := fun h => by
      cases hb : foB l s.2 with
      | true => rfl
      | false => rw [foXs_no hb] at h; omega
    have lt : ¬ foXs l s.2 ≥ 0 → foB l s.2 = false := fun h => by
      cases hb : foB l s.2 with
      | false => rfl
      | true =>
        rw [(foXs_eq hb).1] at h
        have := hs.rng _ (fo_mem hb).1
        omega
    have t : foXs l s.2 ≥ 0 → foN l s = (s.1 ++ [(foXs l s.2, foYs l s.2)], onlyL s.2 [foXs l s.2]) := fun h => by
      rw [(foXs_eq (ge h)).1, (foXs_eq (ge h)).2]
      rfl
    have l3 : (onlyL s.2 [foXs l s.2]).length ≤ 1048576 := by
      have : (onlyL s.2 [foXs l s.2]).length ≤ s.2.length := List.length_filter_le _ _
      omega
    have e4 := sp_fold1 n l (onlyL s.2 [foXs l s.2]) hl hg l3 (hs.asc.filter _)
    have t3 : foXs l s.2 ≥ 0 → foXs l (onlyL s.2 [foXs l s.2]) = foXs l (foN l s).2 ∧ foYs l (onlyL s.2 [foXs l s.2]) = foYs l (foN l s).2 := fun h => by rw [t h]; exact ⟨rfl, rfl⟩
    have b1 : foXs l s.2 ≥ 0 → FoI n l (foN l s) ∧ (foN l s).2.length < s.2.length := fun h => a1 (ge h)
    have b2 : ¬ foXs l s.2 ≥ 0 → s.1 = foldsL n l := fun h => a2 (lt h)
    clear hs st ge lt a1 a2 e0
    generalize foXs l (foN l s).2 = X3 at *
    generalize foYs l (foN l s).2 = Y3 at *
    generalize foN l s = s2 at *
    generalize foXs l (onlyL s.2 [foXs l s.2]) = X2 at *
    generalize foYs l (onlyL s.2 [foXs l s.2]) = Y2 at *
    generalize foXs l s.2 = X at *
    generalize foYs l s.2 = Y at *
    cbv
    ((try simp only [IfP_iff, and_true, true_and, decide_eq_true_eq, decide_eq_false_iff_not]); (try simp only [natc, getI_gi, at2_0, at2_1]); (try dsimp only [Ty.den]); (try simp only [natc] at *); (repeat' (first | apply And.intro | intro _)))
    all_goals (repeat' (first | ((first | refine call_q e3 (by cbv) ?_ | refine call_pure e3 (by cbv) ?_); cbv; ((try simp only [IfP_iff, and_true, true_and, decide_eq_true_eq, decide_eq_false_iff_not]); (try simp only [natc, getI_gi, at2_0, at2_1]); (try dsimp only [Ty.den]); (try simp only [natc] at *); (repeat' (first | apply And.intro | intro _)))) | ((first | refine call_q e4 (by cbv) ?_ | refine call_pure e4 (by cbv) ?_); cbv; ((try simp only [IfP_iff, and_true, true_and, decide_eq_true_eq, decide_eq_false_iff_not]); (try simp only [natc, getI_gi, at2_0, at2_1]); (try dsimp only [Ty.den]); (try simp only [natc] at *); (repeat' (first | apply And.intro | intro _))))))
    all_goals (try (show Obl _; (simp only [IfP_iff, EqU_iff, Obl_iff, and_true, true_and, inI_iff, decide_eq_true_eq, decide_eq_false_iff_not]; (try simp only [natc, getI_gi, at2_0, at2_1]); (try dsimp only [Ty.den]); try simp only [natc] at *); ((repeat' (first | apply And.intro | intro _)) <;> first | omega | (simp only [List.length_cons, List.length_nil]; omega))))
    all_goals (try (refine RenL.mk ⟨[0, 1, 5, 6], ?_⟩; cbv; (simp only [IfP_iff, EqU_iff, Obl_iff, and_true, true_and, inI_iff, decide_eq_true_eq, decide_eq_false_iff_not]; (try simp only [natc, getI_gi, at2_0, at2_1]); (try dsimp only [Ty.den]); try simp only [natc] at *); have q := t (by assumption); have q3 := t3 (by assumption); rw [← q3.1, ← q3.2, q]; exact ⟨rfl, rfl, rfl, rfl⟩))
    all_goals (try (simp only [IfP_iff, EqU_iff, Obl_iff, and_true, true_and, inI_iff, decide_eq_true_eq, decide_eq_false_iff_not]; (try simp only [natc, getI_gi, at2_0, at2_1]); (try dsimp only [Ty.den]); try simp only [natc] at *))
    all_goals (first | exact b1 (by assumption) | exact b2 (by assumption) | trace_state)
theorem sp_foldOrder (n : Int) (l : List (Int × Int)) (hl : l.length ≤ 1048576) : Spec2 Try.prog 15 [.agg (.pr .int (.sl (.pr .int .int))) fun _ => (n, l)] [] [.ref 0, .bool fun _ => fldB n l] [some (.row 68 (.pr .int .int) fun _ => fldR n l)] := by
  have e0 := sp_good n l hl
  have hb : fldB n l = (graphOk n l && !decide (n = 0)) := rfl
  have hr : fldR n l = if fldB n l = true then foldsL n l else [] := rfl
  cases hc : fldB n l with
  | false =>
    rw [hr, hc, if_neg (by decide)]
    rw [hc] at hb
    have hno : (!graphOk n l) = false → n = 0 := fun h => by
      have h2 : graphOk n l = true := by simpa using h
      rw [h2] at hb
      simpa using hb.symm
    clear hb hr
    generalize graphOk n l = g at *
    refine fnS [1] [2, 3] Try.func15 rfl (by decide) rfl (by decide) (by kernel_rfl) rfl (by simp [Try.ntmps15]) ?_
    cbv
    ((try simp only [IfP_iff, and_true, true_and, decide_eq_true_eq, decide_eq_false_iff_not]); (try simp only [natc, getI_gi, at2_0, at2_1]); (try dsimp only [Ty.den]); (try simp only [natc] at *); (repeat' (first | apply And.intro | intro _)))
    all_goals (repeat' (first | ((first | refine call_q e0 (by cbv) ?_ | refine call_pure e0 (by cbv) ?_); cbv; ((try simp only [IfP_iff, and_true, true_and, decide_eq_true_eq, decide_eq_false_iff_not]); (try simp only [natc, getI_gi, at2_0, at2_1]); (try dsimp only [Ty.den]); (try simp only [natc] at *); (repeat' (first | apply And.intro | intro _))))))
    all_goals (try (exact absurd (hno (by assumption)) (by assumption)))
    all_goals (try (simp only [IfP_iff, EqU_iff, Obl_iff, and_true, true_and, inI_iff, decide_eq_true_eq, decide_eq_false_iff_not]; (try simp only [natc, getI_gi, at2_0, at2_1]); (try dsimp only [Ty.den]); try simp only [natc] at *))
    all_goals (first | rfl | exact ⟨rfl, rfl⟩ | trace_state)
  | true =>
    rw [hr, hc, if_pos rfl]
    rw [hc] at hb
    have hg : graphOk n l = true ∧ ¬ n = 0 := by
      have := hb.symm
      simpa [Bool.and_eq_true] using this
    obtain ⟨hg, n0⟩ := hg
    rw [hg] at e0
    have e1 := sp_folds n l hl hg
    clear hb hr
    refine fnS [1] [2, 3] Try.func15 rfl (by decide) rfl (by decide) (by kernel_rfl) rfl (by simp [Try.ntmps15]) ?_
    cbv
    ((try simp only [IfP_iff, and_true, true_and, decide_eq_true_eq, decide_eq_false_iff_not]); (try simp only [natc, getI_gi, at2_0, at2_1]); (try dsimp only [Ty.den]); (try simp only [natc] at *); (repeat' (first | apply And.intro | intro _)))
    all_goals (repeat' (first | ((first | refine call_q e0 (by cbv) ?_ | refine call_pure e0 (by cbv) ?_); cbv; ((try simp only [IfP_iff, and_true, true_and, decide_eq_true_eq, decide_eq_false_iff_not]); (try simp only [natc, getI_gi, at2_0, at2_1]); (try dsimp only [Ty.den]); (try simp only [natc] at *); (repeat' (first | apply And.intro | intro _)))) | ((first | refine call_q e1 (by cbv) ?_ | refine call_pure e1 (by cbv) ?_); cbv; ((try simp only [IfP_iff, and_true, true_and, decide_eq_true_eq, decide_eq_false_iff_not]); (try simp only [natc, getI_gi, at2_0, at2_1]); (try dsimp only [Ty.den]); (try simp only [natc] at *); (repeat' (first | apply And.intro | intro _))))))
    all_goals (try (exact absurd (by assumption : (!true) = true) (by decide)))
    all_goals (try (exact absurd (by assumption) n0))
    all_goals (try (simp only [IfP_iff, EqU_iff, Obl_iff, and_true, true_and, inI_iff, decide_eq_true_eq, decide_eq_false_iff_not]; (try simp only [natc, getI_gi, at2_0, at2_1]); (try dsimp only [Ty.den]); try simp only [natc] at *))
def canB (n : Int) (l : List (Int × Int)) : Bool := fldB n l && decide (((fldR n l).length : Int) = n - 1)
theorem im_canFold (n : Int) (l : List (Int × Int)) (hl : l.length ≤ 1048576) : Spec2 Try.prog 24 [.agg (.pr .int (.sl (.pr .int .int))) fun _ => (n, l)] [] [.bool fun _ => canB n l, .bool fun _ => fldB n l] [] := by
  have e0 := im_foldOrder n l hl
  have t : canB n l = (fldB n l && decide (((fldR n l).length : Int) = n - 1)) := rfl
  have h1 : fldB n l = true → 0 ≤ n ∧ n ≤ 8 := fun h => by
    unfold fldB at h
    simp only [Bool.and_eq_true] at h
    exact (graph_edges h.1).1
  have h2 := fldR_len n l
  generalize canB n l = r at *
  generalize fldB n l = b at *
  generalize fldR n l = R at *
  refine fnS [] [2, 3] Try.func24 rfl (by decide) rfl (by decide) (by kernel_rfl) rfl (by simp [Try.ntmps24]) ?_
  cbv
  ((try simp only [IfP_iff, and_true, true_and, decide_eq_true_eq, decide_eq_false_iff_not]); (try simp only [natc, getI_gi, at2_0, at2_1]); (try dsimp only [Ty.den]); (try simp only [natc] at *); (repeat' (first | apply And.intro | intro _)))
  all_goals (repeat' (first | ((first | refine call_q e0 (by cbv) ?_ | refine call_pure e0 (by cbv) ?_); cbv; ((try simp only [IfP_iff, and_true, true_and, decide_eq_true_eq, decide_eq_false_iff_not]); (try simp only [natc, getI_gi, at2_0, at2_1]); (try dsimp only [Ty.den]); (try simp only [natc] at *); (repeat' (first | apply And.intro | intro _))))))
  all_goals (try (simp only [IfP_iff, EqU_iff, Obl_iff, and_true, true_and, inI_iff, decide_eq_true_eq, decide_eq_false_iff_not]; (try simp only [natc, getI_gi, at2_0, at2_1]); (try dsimp only [Ty.den]); try simp only [natc] at *))
  all_goals ((repeat' (first | apply And.intro | intro _)) <;> first | omega | (have q := h1 (by assumption); omega) | (rw [t]; simp [*]; done) | trace_state)
theorem sp_canFold (n : Int) (l : List (Int × Int)) (hl : l.length ≤ 1048576) : Spec2 Try.prog 23 [.agg (.pr .int (.sl (.pr .int .int))) fun _ => (n, l)] [] [.bool fun _ => canB n l, .bool fun _ => fldB n l] [] := by
  have e0 := sp_good n l hl
  have hb : fldB n l = (graphOk n l && !decide (n = 0)) := rfl
  have hr : fldR n l = if fldB n l = true then foldsL n l else [] := rfl
  have t : canB n l = (fldB n l && decide (((fldR n l).length : Int) = n - 1)) := rfl
  cases hc : fldB n l with
  | false =>
    rw [hc] at hb t
    rw [t]
    have hno : (!graphOk n l) = false → n = 0 := fun h => by
      have h2 : graphOk n l = true := by simpa using h
      rw [h2] at hb
      simpa using hb.symm
    clear hb hr t
    generalize graphOk n l = g at *
    refine fnS [] [2, 3] Try.func23 rfl (by decide) rfl (by decide) (by kernel_rfl) rfl (by simp [Try.ntmps23]) ?_
    cbv
    ((try simp only [IfP_iff, and_true, true_and, decide_eq_true_eq, decide_eq_false_iff_not]); (try simp only [natc, getI_gi, at2_0, at2_1]); (try dsimp only [Ty.den]); (try simp only [natc] at *); (repeat' (first | apply And.intro | intro _)))
    all_goals (repeat' (first | ((first | refine call_q e0 (by cbv) ?_ | refine call_pure e0 (by cbv) ?_); cbv; ((try simp only [IfP_iff, and_true, true_and, decide_eq_true_eq, decide_eq_false_iff_not]); (try simp only [natc, getI_gi, at2_0, at2_1]); (try dsimp only [Ty.den]); (try simp only [natc] at *); (repeat' (first | apply And.intro | intro _))))))
    all_goals (try (exact absurd (hno (by assumption)) (by assumption)))
    all_goals (try (simp only [IfP_iff, EqU_iff, Obl_iff, and_true, true_and, inI_iff, decide_eq_true_eq, decide_eq_false_iff_not]; (try simp only [natc, getI_gi, at2_0, at2_1]); (try dsimp only [Ty.den]); try simp only [natc] at *))
    all_goals (first | rfl | exact ⟨rfl, rfl⟩ | trace_state)
  | true =>
    rw [hc] at hb t
    rw [hr, hc, if_pos rfl] at t
    have hg : graphOk n l = true ∧ ¬ n = 0 := by
      have := hb.symm
      simpa [Bool.and_eq_true] using this
    obtain ⟨hg, n0⟩ := hg
    have g := (graph_edges hg).1
    rw [hg] at e0
    have e1 := sp_folds n l hl hg
    have h2 := folds_len (l := l) g.1 g.2
    clear hb hr
    generalize canB n l = r at *
    generalize foldsL n l = R at *
    refine fnS [] [2, 3] Try.func23 rfl (by decide) rfl (by decide) (by kernel_rfl) rfl (by simp [Try.ntmps23]) ?_
    cbv
    ((try simp only [IfP_iff, and_true, true_and, decide_eq_true_eq, decide_eq_false_iff_not]); (try simp only [natc, getI_gi, at2_0, at2_1]); (try dsimp only [Ty.den]); (try simp only [natc] at *); (repeat' (first | apply And.intro | intro _)))
    all_goals (repeat' (first | ((first | refine call_q e0 (by cbv) ?_ | refine call_pure e0 (by cbv) ?_); cbv; ((try simp only [IfP_iff, and_true, true_and, decide_eq_true_eq, decide_eq_false_iff_not]); (try simp only [natc, getI_gi, at2_0, at2_1]); (try dsimp only [Ty.den]); (try simp only [natc] at *); (repeat' (first | apply And.intro | intro _)))) | ((first | refine call_q e1 (by cbv) ?_ | refine call_pure e1 (by cbv) ?_); cbv; ((try simp only [IfP_iff, and_true, true_and, decide_eq_true_eq, decide_eq_false_iff_not]); (try simp only [natc, getI_gi, at2_0, at2_1]); (try dsimp only [Ty.den]); (try simp only [natc] at *); (repeat' (first | apply And.intro | intro _))))))
    all_goals (try (exact absurd (by assumption : (!true) = true) (by decide)))
    all_goals (try (exact absurd (by assumption) n0))
    all_goals (try (simp only [IfP_iff, EqU_iff, Obl_iff, and_true, true_and, inI_iff, decide_eq_true_eq, decide_eq_false_iff_not]; (try simp only [natc, getI_gi, at2_0, at2_1]); (try dsimp only [Ty.den]); try simp only [natc] at *))
    all_goals ((repeat' (first | apply And.intro | intro _)) <;> first | omega | (rw [t]; rfl) | (rw [t]; simp [*]; done) | trace_state)
end Go.Proofs.Ytikclhackjjhfaa.M
