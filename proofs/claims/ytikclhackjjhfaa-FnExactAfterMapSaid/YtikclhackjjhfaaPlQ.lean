/- The pieces of a Graph: the specification. -/
import Derived.Test.YtikclhackjjhfaaRwQ
import Derived.Test.YtikclhackjjhfaaPfQ
import Derived.Test.YtikclhackjjhfaaDfQ
import Derived.Test.YtikclhackjjhfaaQg
namespace Go.Proofs.Ytikclhackjjhfaa.M
open Go.RowKit Abs
set_option linter.unusedSimpArgs false
set_option linter.unusedVariables false
set_option maxRecDepth 100000
set_option maxHeartbeats 4000000
theorem near_swap {l : List (Int × Int)} {a b : Int} (h : nearB l a b = true) : nearB l b a = true := by
  unfold nearB at *
  obtain ⟨e, he, h2⟩ := List.any_eq_true.1 h
  refine List.any_eq_true.2 ⟨e, he, ?_⟩
  unfold hit at *
  rw [Bool.or_comm]
  exact h2
def putAll (p s : List Int) : List Int := p.foldl putI s
theorem putAll_mem : ∀ {p s : List Int} {v : Int}, v ∈ putAll p s ↔ v ∈ p ∨ v ∈ s
  | [], s, v => by simp [putAll]
  | x :: p, s, v => by
    show v ∈ putAll p (putI s x) ↔ _
    rw [putAll_mem, putI_mem, List.mem_cons]
    constructor
    · rintro (h | h | h)
      · exact .inl (.inr h)
      · exact .inl (.inl h)
      · exact .inr h
    · rintro ((h | h) | h)
      · exact .inr (.inl h)
      · exact .inl h
      · exact .inr (.inr h)
theorem putI_len (s : List Int) (x : Int) : (putI s x).length = s.length + 1 := by
  unfold putI
  rw [List.length_append, List.length_append, List.length_take, List.length_drop, List.length_cons, List.length_nil]
  have := kOf_spec s x
  omega
theorem putAll_len : ∀ (p s : List Int), (putAll p s).length = s.length + p.length
  | [], s => by simp [putAll]
  | x :: p, s => by
    show (putAll p (putI s x)).length = _
    rw [putAll_len p, putI_len, List.length_cons]
    omega
theorem putAll_next {p s : List Int} {k : Int} (h0 : 0 ≤ k) (h1 : k < (p.length : Int)) : putAll (p.take (k + 1).toNat) s = putI (putAll (p.take k.toNat) s) (gi p k) := by
  unfold putAll
  rw [take_gi h0 h1, List.foldl_append]
  rfl
abbrev PS2 := List (List Int) × List Int
def stepPc (l : List (Int × Int)) (set : List Int) (S : PS2) (s : Int) : PS2 := if hasB S.2 s = true then S else (S.1 ++ [rch l set s], putAll (rch l set s) S.2)
def pcs (l : List (Int × Int)) (set : List Int) (i : Int) : PS2 := (set.take i.toNat).foldl (stepPc l set) ([], [])
theorem pcs_next {l : List (Int × Int)} {set : List Int} {i : Int} (h0 : 0 ≤ i) (h1 : i < (set.length : Int)) : pcs l set (i + 1) = stepPc l set (pcs l set i) (gi set i) := by
  unfold pcs
  rw [take_gi h0 h1, List.foldl_append]
  rfl
/-- What is known of the nodes that were seen. -/
structure SeenI (l : List (Int × Int)) (set seen : List Int) : Prop where
  clos : closR l set seen
  sub : ∀ v ∈ seen, v ∈ set
  len : seen.length ≤ set.length
  nd : seen.Nodup
theorem seen_apart {l : List (Int × Int)} {set seen : List Int} {s : Int} (h : SeenI l set seen) (hs : s ∈ set) (hn : s ∉ seen) : ∀ v ∈ rch l set s, v ∉ seen := fun v hv => by
  have := rr_min (l := l) (set := set) (x := s) (A := fun v => v ∈ set ∧ v ∉ seen) (fun u w hu hw hnr => ⟨hw, fun hc => hu.2 (h.clos w hc u hu.1 (near_swap hnr))⟩) ⟨hs, hn⟩ _ v hv
  exact this.2
theorem rch_sub {l : List (Int × Int)} {set : List Int} {s : Int} (hs : s ∈ set) : ∀ v ∈ rch l set s, v ∈ set := fun v hv => (rr_in _ hv).elim (fun e => e ▸ hs) id
theorem putI_nodup {s : List Int} {x : Int} (h : s.Nodup) (hx : x ∉ s) : (putI s x).Nodup := by
  have : (putI s x).Perm (x :: s) := by
    unfold putI
    rw [List.append_assoc]
    refine List.perm_middle.trans ?_
    show (x :: (s.take (kOf s x).toNat ++ s.drop (kOf s x).toNat)).Perm (x :: s)
    rw [List.take_append_drop]
  exact (this.nodup_iff).2 (List.nodup_cons.2 ⟨hx, h⟩)
theorem putAll_nodup : ∀ {p s : List Int}, p.Nodup → s.Nodup → (∀ v ∈ p, v ∉ s) → (putAll p s).Nodup
  | [], s, _, h, _ => h
  | x :: p, s, hp, h, hd => by
    rw [List.nodup_cons] at hp
    refine putAll_nodup (p := p) (s := putI s x) hp.2 (putI_nodup h (hd x (by simp))) fun v hv hc => ?_
    rcases putI_mem.1 hc with rfl | hc
    · exact hp.1 hv
    · exact hd v (by simp [hv]) hc
theorem seen_next {l : List (Int × Int)} {set seen : List Int} {s : Int} (h : SeenI l set seen) (hs : s ∈ set) (hn : s ∉ seen) : SeenI l set (putAll (rch l set s) seen) := by
  have hnd := putAll_nodup (asc_nodup (rr_asc (l := l) (set := set) (x := s) set.length)) h.nd (seen_apart h hs hn)
  have hsub : ∀ v ∈ putAll (rch l set s) seen, v ∈ set := fun v hv => (putAll_mem.1 hv).elim (rch_sub hs v) (h.sub v)
  refine ⟨fun u hu v hv hnr => ?_, hsub, List.Nodup.length_le_of_subset hnd hsub, hnd⟩
  rcases putAll_mem.1 hu with hu | hu
  · exact putAll_mem.2 (.inl (rch_clos hs u hu v hv hnr))
  · exact putAll_mem.2 (.inr (h.clos u hu v hv hnr))
theorem pcs_seen {l : List (Int × Int)} {set : List Int} : ∀ (k : Nat), k ≤ set.length → SeenI l set (pcs l set k).2 ∧ (pcs l set k).1.length ≤ k ∧ ∀ r ∈ (pcs l set k).1, r.length ≤ set.length
  | 0, _ => ⟨⟨fun u hu => by simp [pcs] at hu, fun v hv => by simp [pcs] at hv, by simp [pcs], by simp [pcs]⟩, by simp [pcs], fun r hr => by simp [pcs] at hr⟩
  | k + 1, hk => by
    obtain ⟨h1, h2, h3⟩ := pcs_seen (l := l) (set := set) k (by omega)
    have e := pcs_next (l := l) (set := set) (i := (k : Int)) (by omega) (by omega)
    have hm : gi set (k : Int) ∈ set := gi_mem (by omega) (by omega)
    rw [show ((k + 1 : Nat) : Int) = (k : Int) + 1 by omega, e]
    unfold stepPc
    split
    · exact ⟨h1, by omega, h3⟩
    · rename_i hn
      refine ⟨seen_next h1 hm fun hc => hn (hasB_iff.2 hc), by simp only [List.length_append, List.length_cons, List.length_nil]; omega, fun r hr => ?_⟩
      rcases List.mem_append.1 hr with hr | hr
      · exact h3 r hr
      · rw [List.mem_singleton] at hr
        rw [hr]
        exact rch_len hm _
theorem sp_pieces (n : Int) (l : List (Int × Int)) (set : List Int) (hl : l.length ≤ 1048576) (hs : set.length ≤ 1000) : Spec2 Try.prog 109 [.agg (.pr .int (.sl (.pr .int .int))) fun _ => (n, l), .sl .int fun _ => set] [] [.ref 0] [some (.rows 37 3 .int fun _ => (pcs l set set.length).1)] := by
  have hP : ∀ i : Int, 0 ≤ i → i ≤ set.length → SeenI l set (pcs l set i).2 ∧ ((pcs l set i).1.length : Int) ≤ i := fun i a b => by
    have := pcs_seen (l := l) (set := set) i.toNat (by omega)
    rw [Int.toNat_of_nonneg a] at this
    exact ⟨this.1, by have := this.2.1; omega⟩
  refine fnE [6] [1] [4] Try.func109 rfl (by decide) rfl (by decide) (by kernel_rfl) (by kernel_rfl) (by simp [Try.ntmps109]) ?_
  cbv
  refine loopXE [6] (by kernel_rfl) (fun i : Int => 0 ≤ i ∧ i ≤ set.length) (fun i => [(7, .int fun _ => i), (5, .ref 1), (6, .ref 2), (10, .junk), (11, .junk)]) (fun i => [(1, some (.rows 37 3 .int fun _ => (pcs l set i).1)), (2, some (.row 3 .int fun _ => (pcs l set i).2))]) (fun i => (set.length - i).toNat) (· + 1) 0 (by omega) ?_ ?_
  · cbv
    (simp only [IfP_iff, EqU_iff, Obl_iff, and_true, true_and, inI_iff, decide_eq_true_eq, decide_eq_false_iff_not]; (try simp only [natc, getI_gi, at2_0, at2_1]); (try dsimp only [Ty.den]); try simp only [natc] at *)
    exact ⟨rfl, rfl⟩
  · intro i hi
    have a1 := (hP i hi.1 hi.2).1
    have a2 := (hP i hi.1 hi.2).2
    have a3 := pcs_next (l := l) (set := set) hi.1
    have a4 : ¬ i < (set.length : Int) → pcs l set i = pcs l set set.length := fun h => by rw [show i = (set.length : Int) by omega]
    have a5 : i < (set.length : Int) → gi set i ∈ set := fun h => gi_mem hi.1 h
    have a6 : (pcs l set i).2.length ≤ 1000 := by have := a1.len; omega
    have a7 : (pcs l set i).2.length ≤ 1048576 := by omega
    have b1 : i < (set.length : Int) → hasB (pcs l set i).2 (gi set i) = true → (pcs l set i).1 = (pcs l set (i + 1)).1 ∧ (pcs l set i).2 = (pcs l set (i + 1)).2 := fun h hb => by
      rw [a3 h]
      unfold stepPc
      rw [if_pos hb]
      exact ⟨rfl, rfl⟩
    have b2 : i < (set.length : Int) → hasB (pcs l set i).2 (gi set i) = false → (pcs l set i).1 ++ [rch l set (gi set i)] = (pcs l set (i + 1)).1 ∧ putAll (rch l set (gi set i)) (pcs l set i).2 = (pcs l set (i + 1)).2 := fun h hb => by
      rw [a3 h]
      unfold stepPc
      rw [if_neg (by rw [hb]; decide)]
      exact ⟨rfl, rfl⟩
    have c0 : i < (set.length : Int) → (rch l set (gi set i)).length ≤ 1000 := fun h => by
      have := rch_len (l := l) (a5 h) set.length
      unfold rch
      omega
    have c1 : i < (set.length : Int) → hasB (pcs l set i).2 (gi set i) = false → ∀ j : Int, 0 ≤ j → j < (rch l set (gi set i)).length → hasB (putAll ((rch l set (gi set i)).take j.toNat) (pcs l set i).2) (gi (rch l set (gi set i)) j) = false := fun h hb j j0 j1 => by
      have hn : gi set i ∉ (pcs l set i).2 := fun hc => by rw [hasB_iff.2 hc] at hb; cases hb
      cases he : hasB (putAll ((rch l set (gi set i)).take j.toNat) (pcs l set i).2) (gi (rch l set (gi set i)) j) with
      | false => rfl
      | true =>
        rcases putAll_mem.1 (hasB_iff.1 he) with hm | hm
        · have hnd := asc_nodup (rr_asc (l := l) (set := set) (x := gi set i) set.length)
          have h3 := getI_get (t := .int) (l := rch l set (gi set i)) j0 j1
          have h4 : (rch l set (gi set i)).take (j + 1).toNat = (rch l set (gi set i)).take j.toNat ++ [gi (rch l set (gi set i)) j] := take_gi j0 j1
          have h5 := List.Nodup.sublist (List.take_sublist (j + 1).toNat (rch l set (gi set i))) hnd
          rw [h4, List.nodup_append] at h5
          exact absurd rfl (h5.2.2 _ hm _ (by simp))
        · exact absurd hm (seen_apart a1 (a5 h) hn _ (gi_mem j0 j1))
    have c3 : i < (set.length : Int) → ∀ j : Int, (putAll ((rch l set (gi set i)).take j.toNat) (pcs l set i).2).length ≤ 1048576 := fun h j => by
      have := c0 h
      rw [putAll_len, List.length_take]
      omega
    clear hP a1 a3
    cbv
    ((try simp only [IfP_iff, and_true, true_and, decide_eq_true_eq, decide_eq_false_iff_not]); (try simp only [natc, getI_gi, at2_0, at2_1]); (try dsimp only [Ty.den]); (try simp only [natc] at *); (repeat' (first | apply And.intro | intro _)))
    all_goals (repeat' (first | ((first | refine call_q (sp_has (pcs l set i).2 (gi set i) a7) (by cbv) ?_ | refine call_pure (sp_has (pcs l set i).2 (gi set i) a7) (by cbv) ?_); cbv; ((try simp only [IfP_iff, and_true, true_and, decide_eq_true_eq, decide_eq_false_iff_not]); (try simp only [natc, getI_gi, at2_0, at2_1]); (try dsimp only [Ty.den]); (try simp only [natc] at *); (repeat' (first | apply And.intro | intro _))))))
    all_goals (try ((try simp only [IfP_iff, and_true, true_and, decide_eq_true_eq, decide_eq_false_iff_not]); (try simp only [natc, getI_gi, at2_0, at2_1]); (try dsimp only [Ty.den]); (try simp only [natc] at *); (repeat' (first | apply And.intro | intro _))))
    all_goals (first
      | (refine RenL.mk ⟨[0, 1, 2], ?_⟩
         cbv
         (simp only [IfP_iff, EqU_iff, Obl_iff, and_true, true_and, inI_iff, decide_eq_true_eq, decide_eq_false_iff_not]; (try simp only [natc, getI_gi, at2_0, at2_1]); (try dsimp only [Ty.den]); try simp only [natc] at *)
         exact b1 (by assumption) (by assumption))
      | ((simp only [IfP_iff, EqU_iff, Obl_iff, and_true, true_and, inI_iff, decide_eq_true_eq, decide_eq_false_iff_not]; (try simp only [natc, getI_gi, at2_0, at2_1]); (try dsimp only [Ty.den]); try simp only [natc] at *); done)
      | ((simp only [IfP_iff, EqU_iff, Obl_iff, and_true, true_and, inI_iff, decide_eq_true_eq, decide_eq_false_iff_not]; (try simp only [natc, getI_gi, at2_0, at2_1]); (try dsimp only [Ty.den]); try simp only [natc] at *)
         (repeat' (first | apply And.intro | intro _)) <;> first | omega | (rw [a4 (by assumption)]; done) | grind)
      | skip)
    have e1 := b2 (by assumption) (by assumption)
    have e2 := c1 (by assumption) (by assumption)
    have e3 := c3 (by assumption)
    have e4 := c0 (by assumption)
    clear b1 b2 c0 c1 c3 a4 a5
    refine DrawL.layersS [(6, fun S => S.new (some 30) (.ref S.H.length) (.row 3 .int fun _ => rch l set (gi set i)))] [1, 2, 3] (fun _ _ => none) [([false, true, true, true, false, false, false, false], [0, 4]), ([true, true, true, true, false, false, false, false], [4]), ([false, true, true, true, true, false, false, false], [0, 5]), ([true, true, true, true, true, false, false, false], [5]), ([false, true, true, true, true, true, false, false], [0]), ([true, true, true, true, true, true, false, false], [6]), ([true, true, true, true, true, true, true, false], [7]), ([true, true, true, true, true, true, true, true], [])] (by kernel_rfl) (by rfl) ?_
    cbv
    (repeat' (first | apply And.intro | apply EqU.mk))
    all_goals (try trivial)
    all_goals (try (((first | refine call_q (sp_reach n l set (gi set i) hl hs) (by cbv) ?_ | refine call_pure (sp_reach n l set (gi set i) hl hs) (by cbv) ?_); cbv; ((try simp only [IfP_iff, and_true, true_and, decide_eq_true_eq, decide_eq_false_iff_not]); (try simp only [natc, getI_gi, at2_0, at2_1]); (try dsimp only [Ty.den]); (try simp only [natc] at *); (repeat' (first | apply And.intro | intro _))))))
    all_goals (try (first | trivial | rfl))
    iterate 2
      · exact ⟨⟨hi.1, by assumption⟩⟩
    refine loopX (by kernel_rfl) (fun j : Int => 0 ≤ j ∧ j ≤ (rch l set (gi set i)).length) (fun j => [(9, .int fun _ => j), (6, .ref 2), (18, .junk)]) (fun j => [(2, some (.row 3 .int fun _ => putAll ((rch l set (gi set i)).take j.toNat) (pcs l set i).2))]) (fun j => ((rch l set (gi set i)).length - j).toNat) (· + 1) 0 (by omega) ?_ ?_
    · cbv
      (simp only [IfP_iff, EqU_iff, Obl_iff, and_true, true_and, inI_iff, decide_eq_true_eq, decide_eq_false_iff_not]; (try simp only [natc, getI_gi, at2_0, at2_1]); (try dsimp only [Ty.den]); try simp only [natc] at *)
      rfl
    · intro j hj
      have f1 := e2 j hj.1
      have f2 := e3 j
      have f3 := putAll_next (p := rch l set (gi set i)) (s := (pcs l set i).2) hj.1
      have f4 : ¬ j < ((rch l set (gi set i)).length : Int) → putAll ((rch l set (gi set i)).take j.toNat) (pcs l set i).2 = (pcs l set (i + 1)).2 := fun h => by
        rw [← e1.2, show j.toNat = (rch l set (gi set i)).length by omega, List.take_length]
      have f5 := e1.1
      clear e1 e2 e3
      cbv
      ((try simp only [IfP_iff, and_true, true_and, decide_eq_true_eq, decide_eq_false_iff_not]); (try simp only [natc, getI_gi, at2_0, at2_1]); (try dsimp only [Ty.den]); (try simp only [natc] at *); (repeat' (first | apply And.intro | intro _)))
      all_goals (repeat' (first | ((first | refine call_q (sp_put (putAll ((rch l set (gi set i)).take j.toNat) (pcs l set i).2) (gi (rch l set (gi set i)) j) f2 (f1 (by assumption))) (by cbv) ?_ | refine call_pure (sp_put (putAll ((rch l set (gi set i)).take j.toNat) (pcs l set i).2) (gi (rch l set (gi set i)) j) f2 (f1 (by assumption))) (by cbv) ?_); cbv; ((try simp only [IfP_iff, and_true, true_and, decide_eq_true_eq, decide_eq_false_iff_not]); (try simp only [natc, getI_gi, at2_0, at2_1]); (try dsimp only [Ty.den]); (try simp only [natc] at *); (repeat' (first | apply And.intro | intro _))))))
      all_goals (first
        | (refine RenL.mk ⟨[0, 1, 4, 3], ?_⟩
           cbv
           (simp only [IfP_iff, EqU_iff, Obl_iff, and_true, true_and, inI_iff, decide_eq_true_eq, decide_eq_false_iff_not]; (try simp only [natc, getI_gi, at2_0, at2_1]); (try dsimp only [Ty.den]); try simp only [natc] at *)
           exact (f3 (by assumption)).symm)
        | (refine RenL.mk ⟨[0, 1, 2], ?_⟩
           cbv
           (simp only [IfP_iff, EqU_iff, Obl_iff, and_true, true_and, inI_iff, decide_eq_true_eq, decide_eq_false_iff_not]; (try simp only [natc, getI_gi, at2_0, at2_1]); (try dsimp only [Ty.den]); try simp only [natc] at *)
           exact ⟨f5, f4 (by assumption)⟩)
        | ((simp only [IfP_iff, EqU_iff, Obl_iff, and_true, true_and, inI_iff, decide_eq_true_eq, decide_eq_false_iff_not]; (try simp only [natc, getI_gi, at2_0, at2_1]); (try dsimp only [Ty.den]); try simp only [natc] at *); done)
        | ((simp only [IfP_iff, EqU_iff, Obl_iff, and_true, true_and, inI_iff, decide_eq_true_eq, decide_eq_false_iff_not]; (try simp only [natc, getI_gi, at2_0, at2_1]); (try dsimp only [Ty.den]); try simp only [natc] at *)
           (repeat' (first | apply And.intro | intro _)) <;> first | omega | (simp only [List.length_append, List.length_cons, List.length_nil]; omega) | grind)
        | trace_state)
end Go.Proofs.Ytikclhackjjhfaa.M
