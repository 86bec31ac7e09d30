/- What can be reached within a set: the specification. -/
import Derived.Test.YtikclhackjjhfaaRhQ
import Derived.Test.YtikclhackjjhfaaHsQ
import Derived.Test.YtikclhackjjhfaaLpQ
import Derived.Test.YtikclhackjjhfaaQg
namespace Go.Proofs.Ytikclhackjjhfaa.M
open Go.RowKit Abs
set_option linter.unusedSimpArgs false
set_option linter.unusedVariables false
set_option maxRecDepth 100000
set_option maxHeartbeats 4000000
def part (l : List (Int × Int)) (set : List Int) (o : List Int) (i : Int) : List Int := (set.take i.toNat).foldl (visR l) o
theorem part_next {l : List (Int × Int)} {set o : List Int} {i : Int} (h0 : 0 ≤ i) (h1 : i < (set.length : Int)) : part l set o (i + 1) = visR l (part l set o i) (gi set i) := by
  unfold part
  rw [take_gi h0 h1, List.foldl_append]
  rfl
theorem part_len {l : List (Int × Int)} {set : List Int} {x : Int} (k : Nat) (i : Int) : (part l set (rr l set x k) i).length ≤ set.length + 1 := by
  have h1 : (part l set (rr l set x k) i).Nodup := asc_nodup (rnd_asc (set := set.take i.toNat) (rr_asc k))
  have := List.Nodup.length_le_of_subset h1 (fun v hv => by
    rcases rnd_in (set := set.take i.toNat) hv with h | h
    · rcases rr_in k h with h | h
      · rw [h]; simp
      · simp [h]
    · simp [List.mem_of_mem_take h] : (part l set (rr l set x k) i) ⊆ x :: set)
  simpa using this
/-- What holds in the innermost loop. -/
structure InR (l : List (Int × Int)) (o : List Int) (s : Int) (j : Int) (out : List Int) : Prop where
  lo : 0 ≤ j
  hi : j ≤ o.length
  st : (out = o ∧ ∀ i : Int, 0 ≤ i → i < j → nearB l (gi o i) s = false) ∨ (out = visR l o s ∧ hasB out s = true)
theorem InR.start {l : List (Int × Int)} {o : List Int} {s : Int} : InR l o s 0 o := ⟨by omega, by omega, .inl ⟨rfl, fun i a b => by omega⟩⟩
theorem InR.stop1 {l : List (Int × Int)} {o out : List Int} {s j : Int} (h : InR l o s j out) (hc : hasB out s = true) : out = visR l o s := by
  rcases h.st with ⟨e, _⟩ | ⟨e, _⟩
  · subst e
    unfold visR
    rw [if_pos hc]
  · exact e
theorem InR.stop2 {l : List (Int × Int)} {o out : List Int} {s j : Int} (h : InR l o s j out) (hc : ¬ j < (out.length : Int)) : out = visR l o s := by
  rcases h.st with ⟨e, hn⟩ | ⟨e, _⟩
  · subst e
    unfold visR
    split
    · rfl
    · rw [if_neg]
      intro ha
      obtain ⟨u, hu, hh⟩ := List.any_eq_true.1 ha
      obtain ⟨i, a, b, e⟩ := mem_at hu
      have := hn i a (by omega)
      have e2 : gi out i = u := e
      rw [e2, hh] at this
      cases this
  · exact e
theorem InR.go {l : List (Int × Int)} {o out : List Int} {s j : Int} (h : InR l o s j out) (hc : hasB out s = false) : out = o := by
  rcases h.st with ⟨e, _⟩ | ⟨_, e⟩
  · exact e
  · rw [hc] at e; cases e
theorem InR.put {l : List (Int × Int)} {o out : List Int} {s j : Int} (h : InR l o s j out) (hc : hasB out s = false) (hj : j < (out.length : Int)) (hn : nearB l (gi out j) s = true) : InR l o s (j + 1) (putI out s) := by
  have e := h.go hc
  subst e
  have h2 := h.lo
  refine ⟨by omega, by omega, .inr ⟨?_, hasB_iff.2 (putI_mem.2 (.inl rfl))⟩⟩
  unfold visR
  rw [if_neg (by rw [hc]; decide), if_pos (List.any_eq_true.2 ⟨_, gi_mem h2 hj, hn⟩)]
theorem InR.no {l : List (Int × Int)} {o out : List Int} {s j : Int} (h : InR l o s j out) (hc : hasB out s = false) (hj : j < (out.length : Int)) (hn : nearB l (gi out j) s = false) : InR l o s (j + 1) out := by
  have e := h.go hc
  have h2 := h.lo
  rcases h.st with ⟨_, hh⟩ | ⟨_, e2⟩
  · subst e
    refine ⟨by omega, by omega, .inl ⟨rfl, fun i a b => ?_⟩⟩
    by_cases hi : i < j
    · exact hh i a hi
    · rw [show i = j by omega]; exact hn
  · rw [hc] at e2; cases e2
def inNx (l : List (Int × Int)) (s : Int) (x : Int × List Int) : Int × List Int := (x.1 + 1, if nearB l (gi x.2 x.1) s = true then putI x.2 s else x.2)
theorem sp_reach (n : Int) (l : List (Int × Int)) (set : List Int) (x : Int) (hl : l.length ≤ 1048576) (hs : set.length ≤ 1000) : Spec2 Try.prog 147 [.agg (.pr .int (.sl (.pr .int .int))) fun _ => (n, l), .sl .int fun _ => set, .int fun _ => x] [] [.ref 0] [some (.row 3 .int fun _ => rch l set x)] := by
  refine fnS [1] [6] Try.func147 rfl (by decide) rfl (by decide) (by kernel_rfl) rfl (by simp [Try.ntmps147]) ?_
  cbv
  refine loopP (by kernel_rfl) (fun k : Nat => k ≤ set.length) (fun k => [(8, .int fun _ => (k : Int)), (7, .ref 1), (12, .junk)]) (fun k => [(1, some (.row 3 .int fun _ => rr l set x k))]) (fun k => set.length - k) (· + 1) 0 (by omega) ?_ ?_
  · cbv
    (simp only [IfP_iff, EqU_iff, Obl_iff, and_true, true_and, inI_iff, decide_eq_true_eq, decide_eq_false_iff_not]; (try simp only [natc, getI_gi, at2_0, at2_1]); (try dsimp only [Ty.den]); try simp only [natc] at *)
    exact ⟨rfl, rfl⟩
  · intro k hk
    have d1 := part_len (l := l) (set := set) (x := x) k
    have d2 : ¬ (k : Int) < (set.length : Int) → rr l set x k = rch l set x := fun h => by rw [show k = set.length by omega]; rfl
    have d3 : part l set (rr l set x k) set.length = rr l set x (k + 1) := by
      unfold part
      rw [Int.toNat_natCast, List.take_length]
      rfl
    have d4 : part l set (rr l set x k) 0 = rr l set x k := rfl
    cbv
    ((try simp only [IfP_iff, and_true, true_and, decide_eq_true_eq, decide_eq_false_iff_not]); (try simp only [natc, getI_gi, at2_0, at2_1]); (try dsimp only [Ty.den]); (try simp only [natc] at *); (repeat' (first | apply And.intro | intro _)))
    · refine loopP (by kernel_rfl) (fun i : Int => 0 ≤ i ∧ i ≤ set.length) (fun i => [(9, .int fun _ => i), (7, .ref 1)]) (fun i => [(1, some (.row 3 .int fun _ => part l set (rr l set x k) i))]) (fun i => (set.length - i).toNat) (· + 1) 0 (by omega) ?_ ?_
      · cbv
        (simp only [IfP_iff, EqU_iff, Obl_iff, and_true, true_and, inI_iff, decide_eq_true_eq, decide_eq_false_iff_not]; (try simp only [natc, getI_gi, at2_0, at2_1]); (try dsimp only [Ty.den]); try simp only [natc] at *)
        exact d4.symm
      · intro i hi
        have e1 := d1 i
        have e2 := part_next (l := l) (set := set) (o := rr l set x k) hi.1
        have e5 := d1 (i + 1)
        have e3 : ¬ i < (set.length : Int) → part l set (rr l set x k) i = rr l set x (k + 1) := fun h => by rw [show i = (set.length : Int) by omega, d3]
        clear d1 d2 d3 d4
        cbv
        ((try simp only [IfP_iff, and_true, true_and, decide_eq_true_eq, decide_eq_false_iff_not]); (try simp only [natc, getI_gi, at2_0, at2_1]); (try dsimp only [Ty.den]); (try simp only [natc] at *); (repeat' (first | apply And.intro | intro _)))
        · have e4 := e2 (by assumption)
          refine loopX (by kernel_rfl) (fun y : Int × List Int => InR l (part l set (rr l set x k) i) (gi set i) y.1 y.2) (fun y => [(10, .int fun _ => y.1), (7, .ref 1)]) (fun y => [(1, some (.row 3 .int fun _ => y.2))]) (fun y => ((part l set (rr l set x k) i).length - y.1).toNat) (inNx l (gi set i)) (0, part l set (rr l set x k) i) InR.start ?_ ?_
          · cbv
            (simp only [IfP_iff, EqU_iff, Obl_iff, and_true, true_and, inI_iff, decide_eq_true_eq, decide_eq_false_iff_not]; (try simp only [natc, getI_gi, at2_0, at2_1]); (try dsimp only [Ty.den]); try simp only [natc] at *)
          · intro y hI
            have f1 := hI.lo
            have f2 := hI.hi
            have f3 : y.2.length ≤ 1048576 := by
              rcases hI.st with ⟨e, _⟩ | ⟨e, _⟩
              · rw [e]; omega
              · rw [e, ← e4]; omega
            have f4 : hasB y.2 (gi set i) = true → y.2 = part l set (rr l set x k) (i + 1) := fun h => by rw [e4]; exact hI.stop1 h
            have f5 : ¬ y.1 < (y.2.length : Int) → y.2 = part l set (rr l set x k) (i + 1) := fun h => by rw [e4]; exact hI.stop2 h
            have f6 : hasB y.2 (gi set i) = false → y.1 < (y.2.length : Int) → nearB l (gi y.2 y.1) (gi set i) = true → InR l (part l set (rr l set x k) i) (gi set i) (inNx l (gi set i) y).1 (inNx l (gi set i) y).2 ∧ ((part l set (rr l set x k) i).length - (inNx l (gi set i) y).1).toNat < ((part l set (rr l set x k) i).length - y.1).toNat ∧ y.1 + 1 = (inNx l (gi set i) y).1 ∧ putI y.2 (gi set i) = (inNx l (gi set i) y).2 := fun a b c => by
              have h := hI.put a b c
              have e : inNx l (gi set i) y = (y.1 + 1, putI y.2 (gi set i)) := by unfold inNx; rw [if_pos c]
              have hg := congrArg List.length (hI.go a)
              rw [e]
              exact ⟨h, by show (_ - (y.1 + 1)).toNat < _; omega, rfl, rfl⟩
            have f7 : hasB y.2 (gi set i) = false → y.1 < (y.2.length : Int) → nearB l (gi y.2 y.1) (gi set i) = false → InR l (part l set (rr l set x k) i) (gi set i) (inNx l (gi set i) y).1 (inNx l (gi set i) y).2 ∧ ((part l set (rr l set x k) i).length - (inNx l (gi set i) y).1).toNat < ((part l set (rr l set x k) i).length - y.1).toNat ∧ y.1 + 1 = (inNx l (gi set i) y).1 ∧ y.2 = (inNx l (gi set i) y).2 := fun a b c => by
              have h := hI.no a b c
              have e : inNx l (gi set i) y = (y.1 + 1, y.2) := by unfold inNx; rw [if_neg (by rw [c]; decide)]
              have hg := congrArg List.length (hI.go a)
              rw [e]
              exact ⟨h, by show (_ - (y.1 + 1)).toNat < _; omega, rfl, rfl⟩
            have g4 : (!hasB y.2 (gi set i)) = false → y.2 = part l set (rr l set x k) (i + 1) := fun h => f4 (by simpa using h)
            have g5 : (!hasB y.2 (gi set i)) = true → hasB y.2 (gi set i) = false := fun h => by simpa using h
            have g6 := fun h => f6 (g5 h)
            have g7 := fun h => f7 (g5 h)
            clear hI e2 e3 e4 f4 f6 f7
            cbv
            ((try simp only [IfP_iff, and_true, true_and, decide_eq_true_eq, decide_eq_false_iff_not]); (try simp only [natc, getI_gi, at2_0, at2_1]); (try dsimp only [Ty.den]); (try simp only [natc] at *); (repeat' (first | apply And.intro | intro _)))
            all_goals (repeat' (first | ((first | refine call_q (sp_has y.2 (gi set i) f3) (by cbv) ?_ | refine call_pure (sp_has y.2 (gi set i) f3) (by cbv) ?_); cbv; ((try simp only [IfP_iff, and_true, true_and, decide_eq_true_eq, decide_eq_false_iff_not]); (try simp only [natc, getI_gi, at2_0, at2_1]); (try dsimp only [Ty.den]); (try simp only [natc] at *); (repeat' (first | apply And.intro | intro _)))) | ((first | refine call_q (sp_near n l (gi y.2 y.1) (gi set i) hl) (by cbv) ?_ | refine call_pure (sp_near n l (gi y.2 y.1) (gi set i) hl) (by cbv) ?_); cbv; ((try simp only [IfP_iff, and_true, true_and, decide_eq_true_eq, decide_eq_false_iff_not]); (try simp only [natc, getI_gi, at2_0, at2_1]); (try dsimp only [Ty.den]); (try simp only [natc] at *); (repeat' (first | apply And.intro | intro _)))) | ((first | refine call_q (sp_put y.2 (gi set i) f3 (g5 (by assumption))) (by cbv) ?_ | refine call_pure (sp_put y.2 (gi set i) f3 (g5 (by assumption))) (by cbv) ?_); cbv; ((try simp only [IfP_iff, and_true, true_and, decide_eq_true_eq, decide_eq_false_iff_not]); (try simp only [natc, getI_gi, at2_0, at2_1]); (try dsimp only [Ty.den]); (try simp only [natc] at *); (repeat' (first | apply And.intro | intro _))))))
            all_goals (first
              | (refine RenL.mk ⟨[0, 2], ?_⟩
                 cbv
                 (simp only [IfP_iff, EqU_iff, Obl_iff, and_true, true_and, inI_iff, decide_eq_true_eq, decide_eq_false_iff_not]; (try simp only [natc, getI_gi, at2_0, at2_1]); (try dsimp only [Ty.den]); try simp only [natc] at *)
                 exact (g6 (by assumption) (by assumption) (by assumption)).2.2)
              | (refine RenL.mk ⟨[0, 1], ?_⟩
                 cbv
                 (simp only [IfP_iff, EqU_iff, Obl_iff, and_true, true_and, inI_iff, decide_eq_true_eq, decide_eq_false_iff_not]; (try simp only [natc, getI_gi, at2_0, at2_1]); (try dsimp only [Ty.den]); try simp only [natc] at *)
                 exact (g7 (by assumption) (by assumption) (by assumption)).2.2)
              | ((simp only [IfP_iff, EqU_iff, Obl_iff, and_true, true_and, inI_iff, decide_eq_true_eq, decide_eq_false_iff_not]; (try simp only [natc, getI_gi, at2_0, at2_1]); (try dsimp only [Ty.den]); try simp only [natc] at *)
                 done)
              | ((simp only [IfP_iff, EqU_iff, Obl_iff, and_true, true_and, inI_iff, decide_eq_true_eq, decide_eq_false_iff_not]; (try simp only [natc, getI_gi, at2_0, at2_1]); (try dsimp only [Ty.den]); try simp only [natc] at *)
                 (repeat' (first | apply And.intro | intro _)) <;> first | omega | exact (g6 (by assumption) (by assumption) (by assumption)).1 | exact (g6 (by assumption) (by assumption) (by assumption)).2.1 | exact (g7 (by assumption) (by assumption) (by assumption)).1 | exact (g7 (by assumption) (by assumption) (by assumption)).2.1 | exact f5 (by assumption) | exact g4 (by assumption) | grind | (trace_state; fail))
              | (trace_state; fail))
        all_goals (try (simp only [IfP_iff, EqU_iff, Obl_iff, and_true, true_and, inI_iff, decide_eq_true_eq, decide_eq_false_iff_not]; (try simp only [natc, getI_gi, at2_0, at2_1]); (try dsimp only [Ty.den]); try simp only [natc] at *))
        all_goals ((repeat' (first | apply And.intro | intro _)) <;> first | omega | exact e3 (by assumption) | grind | (trace_state; fail))
    all_goals (try (simp only [IfP_iff, EqU_iff, Obl_iff, and_true, true_and, inI_iff, decide_eq_true_eq, decide_eq_false_iff_not]; (try simp only [natc, getI_gi, at2_0, at2_1]); (try dsimp only [Ty.den]); try simp only [natc] at *))
    all_goals ((repeat' (first | apply And.intro | intro _)) <;> first | omega | exact d2 (by assumption) | grind | (trace_state; fail))
end Go.Proofs.Ytikclhackjjhfaa.M
