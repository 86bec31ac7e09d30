/- Jq, Jr, Js, in one text. -/
import Derived.Test.YtlfdimhnielleaaQjVPolygonSpace
import Derived.Test.YtlfdimhnielleaaOlQVPolygonSpace
import Derived.Test.YtlfdimhnielleaaDgQVPolygonSpace
import Derived.Test.YtlfdimhnielleaaNrQVPolygonSpace
import Derived.Test.YtlfdimhnielleaaNqQVPolygonSpace
import Derived.Test.YtlfdimhnielleaaQgVPolygonSpace
import Derived.Test.YtlfdimhnielleaaJpQVPolygonSpace
import Derived.Test.YtlfdimhnielleaaQeVPolygonSpace
/- Polygon spaces: the specification's search for triangulations. -/
namespace Go.Proofs.Ytlfdimhnielleaa.M
open Go.RowKit Abs
set_option linter.unusedSimpArgs false
set_option linter.unusedVariables false
set_option maxRecDepth 100000
set_option maxHeartbeats 4000000
theorem gi_left {l : List Int} {x : Int} {i : Int} (h0 : 0 ≤ i) (h1 : i < (l.length : Int)) : gi (l ++ [x]) i = gi l i := by
  unfold gi
  rw [List.getD_eq_getElem?_getD, List.getD_eq_getElem?_getD, List.getElem?_append_left (by omega)]
theorem gi_end {l : List Int} {x : Int} : gi (l ++ [x]) (l.length : Int) = x := by
  unfold gi
  rw [List.getD_eq_getElem?_getD, show ((l.length : Int)).toNat = l.length by omega, List.getElem?_append_right (Nat.le_refl _)]
  simp
theorem len_snoc (l : List Int) (x : Int) : (l ++ [x]).length = l.length + 1 := by simp
/-- What the specification keeps of the diagonals. -/
def keepB (l : List Int) (x : Int) : Bool := !(decide (0 < (l.length : Int)) && decide (x ≤ gi l ((l.length : Int) - 1))) && apartB l x
theorem inc_snoc {l : List Int} {x : Int} (h : incB l = true) (hc : ¬ (0 < (l.length : Int) ∧ x ≤ gi l ((l.length : Int) - 1))) : incB (l ++ [x]) = true := by
  refine allI_good fun k k0 k1 => ?_
  rw [len_snoc] at k1
  unfold incOk
  simp only [Bool.or_eq_true, decide_eq_true_eq]
  by_cases h2 : k < (l.length : Int)
  · have h3 := allI_get h k0 h2
    unfold incOk at h3
    simp only [Bool.or_eq_true, decide_eq_true_eq] at h3
    rcases h3 with h3 | h3
    · exact .inl h3
    · by_cases h4 : k ≤ 0
      · exact .inl h4
      · right
        show gi (l ++ [x]) (k - 1) < gi (l ++ [x]) k
        rw [gi_left (by omega) (by omega), gi_left k0 h2]
        exact h3
  · have h3 : k = (l.length : Int) := by omega
    by_cases h4 : k ≤ 0
    · exact .inl h4
    · right
      show gi (l ++ [x]) (k - 1) < gi (l ++ [x]) k
      rw [h3, gi_end, gi_left (by omega) (by omega)]
      have : ¬ x ≤ gi l ((l.length : Int) - 1) := fun h5 => hc ⟨by omega, h5⟩
      omega
theorem inc_not {l : List Int} {x : Int} (h0 : 0 < (l.length : Int)) (h1 : x ≤ gi l ((l.length : Int) - 1)) : incB (l ++ [x]) = false := by
  rw [Bool.eq_false_iff]
  intro h
  have h3 := allI_get h (k := (l.length : Int)) (by omega) (by rw [len_snoc]; omega)
  unfold incOk at h3
  simp only [Bool.or_eq_true, decide_eq_true_eq] at h3
  rcases h3 with h3 | h3
  · omega
  · have h4 : gi (l ++ [x]) ((l.length : Int) - 1) < gi (l ++ [x]) (l.length : Int) := h3
    rw [gi_end, gi_left (by omega) (by omega)] at h4
    omega
theorem inc_ne {l : List Int} {x y : Int} (h : incB (l ++ [x]) = true) (hy : y ∈ l) : y ≠ x := by
  obtain ⟨i, i0, i1, e⟩ := mem_at hy
  have h1 := inc_lt h i0 (d := ((l.length : Int) - i - 1).toNat) (by rw [len_snoc]; omega)
  rw [show i + ((((l.length : Int) - i - 1).toNat : Nat) : Int) + 1 = (l.length : Int) by omega, gi_end, gi_left i0 i1] at h1
  rw [show gi l i = y from e] at h1
  omega
theorem all_mem {l : List Int} {p q : Int → Bool} (h : ∀ x ∈ l, p x = q x) : l.all p = l.all q := by
  induction l with
  | nil => rfl
  | cons x l ih =>
    rw [List.all_cons, List.all_cons, h x (by simp), ih fun y hy => h y (by simp [hy])]
theorem chs_spec {n : Int} {l : List Int} (h : incB l = true) : chs n l = (diagL n).filter (keepB l) := by
  unfold chs fitL
  rw [List.filter_filter]
  refine List.filter_congr fun x _ => ?_
  unfold keepB
  by_cases hc : 0 < (l.length : Int) ∧ x ≤ gi l ((l.length : Int) - 1)
  · rw [inc_not hc.1 hc.2, decide_eq_true hc.1, decide_eq_true hc.2]
    simp
  · have h1 := inc_snoc h hc
    have h2 : (decide (0 < (l.length : Int)) && decide (x ≤ gi l ((l.length : Int) - 1))) = false := by
      rw [Bool.eq_false_iff]
      intro h3
      simp only [Bool.and_eq_true, decide_eq_true_eq] at h3
      exact hc h3
    rw [h1, h2]
    unfold apartB
    simp only [Bool.not_true, Bool.not_false, Bool.true_and]
    exact all_mem fun y hy => by rw [decide_eq_false (inc_ne h1 hy), Bool.false_or]
theorem sp_ownJ (s : List Int) (hs : s.length ≤ 1048576) : Spec2 Try.prog 96 [.sl .int fun _ => s] [] [.ref 0] [some (.row 3 .int fun _ => s)] := by
  refine fnS [0] [2] Try.func96 rfl (by decide) rfl (by decide) (by kernel_rfl) rfl (by simp [Try.ntmps96]) ?_
  cbv
  (simp only [IfP_iff, EqU_iff, Obl_iff, and_true, true_and, inI_iff, decide_eq_true_eq, decide_eq_false_iff_not]; (try simp only [natc, getI_gi, at2_0, at2_1]); (try dsimp only [Ty.den]); try simp only [natc] at *)
  all_goals ((repeat' (first | apply And.intro | intro _)) <;> first | omega | (simp only [List.length_append, List.length_cons, List.length_nil]; omega) | grind)
def filP (n : Int) (f : Nat) (l : List Int) (k : Nat) : List (List Int) := (((diagL n).take k).filter (keepB l)).flatMap fun x => gro n f (l ++ [x])
theorem filP_next {n : Int} {f : Nat} {l : List Int} {k : Int} (h0 : 0 ≤ k) (h1 : k < ((diagL n).length : Int)) : filP n f l (k + 1).toNat = filP n f l k.toNat ++ if keepB l (gi (diagL n) k) = true then gro n f (l ++ [gi (diagL n) k]) else [] := by
  unfold filP
  rw [take_gi h0 h1, List.filter_append, List.flatMap_append]
  by_cases h : keepB l (gi (diagL n) k) = true
  · rw [if_pos h, List.filter_cons, if_pos h]; simp
  · rw [if_neg h, List.filter_cons, if_neg h]; simp
theorem filP_len {n : Int} (n0 : 3 ≤ n) (n1 : n ≤ 8) (f : Nat) (hf : f ≤ 4) (l : List Int) (k : Nat) : (filP n f l k).length ≤ 1073741824 := by
  have h1 := flat_len (64 ^ f) (fun x => gro n f (l ++ [x])) (((diagL n).take k).filter (keepB l)) fun x _ => gro_len n0 n1 f _
  have h2 : (((diagL n).take k).filter (keepB l)).length ≤ 64 := by
    have := List.length_filter_le (keepB l) ((diagL n).take k)
    rw [List.length_take] at this
    have := diag_len (n := n) (by omega) n1
    omega
  have h3 : 64 ^ f ≤ 64 ^ 4 := Nat.pow_le_pow_right (by decide) hf
  have h4 := Nat.mul_le_mul h2 h3
  unfold filP
  omega
theorem sp_fill (n : Int) (n0 : 3 ≤ n) (n1 : n ≤ 8) : ∀ (f : Nat) (l : List Int), (l.length : Int) + f = n - 3 → incB l = true → (∀ x ∈ l, 0 ≤ x ∧ x < 100) → Spec2 Try.prog 60 [.int fun _ => n, .sl .int fun _ => diagL n, .ref 0] [some (.row 3 .int fun _ => l)] [.ref 1] [none, some (.rows 40 3 .int fun _ => gro n f l)]
  | 0, l, hk, hi, hx => by
    have e2 : [l] = gro n 0 l := rfl
    have e1 : (l.length : Int) = n - 3 := by omega
    generalize gro n 0 l = G at *
    refine fnGE [8] [.tmp 6] Try.func60 rfl (by decide) rfl (by kernel_rfl) (.inl rfl) (by kernel_rfl) (by simp) (by simp [Try.ntmps60]) ?_
    cbv
    ((try simp only [IfP_iff, and_true, true_and, decide_eq_true_eq, decide_eq_false_iff_not]); (try simp only [natc, getI_gi, at2_0, at2_1]); (try dsimp only [Ty.den]); (try simp only [natc] at *); (repeat' (first | apply And.intro | intro _)))
    all_goals (first
      | (exact absurd e1 (by assumption))
      | (refine EndG.plain [0, 1] ?_
         cbv
         (simp only [IfP_iff, EqU_iff, Obl_iff, and_true, true_and, inI_iff, decide_eq_true_eq, decide_eq_false_iff_not]; (try simp only [natc, getI_gi, at2_0, at2_1]); (try dsimp only [Ty.den]); try simp only [natc] at *)
         exact e2)
      | ((try (simp only [IfP_iff, EqU_iff, Obl_iff, and_true, true_and, inI_iff, decide_eq_true_eq, decide_eq_false_iff_not]; (try simp only [natc, getI_gi, at2_0, at2_1]); (try dsimp only [Ty.den]); try simp only [natc] at *)); (repeat' (first | apply And.intro | intro _)) <;> first | omega | trace_state)
      | trace_state)
  | f + 1, l, hk, hi, hx => by
    have e1 : ¬ (l.length : Int) = n - 3 := by omega
    have hl : l.length ≤ 1048576 := by omega
    have hdl := diag_len (n := n) (by omega) n1
    have hdi := diag_in n0 n1
    have ih := fun x (h : x ∈ diagL n) (hkp : keepB l x = true) => sp_fill n n0 n1 f (l ++ [x]) (by rw [len_snoc]; omega) (inc_snoc hi fun hc => by
      unfold keepB at hkp
      rw [decide_eq_true hc.1, decide_eq_true hc.2] at hkp
      simp at hkp) (fun y hy => by
      rcases List.mem_append.1 hy with h1 | h1
      · exact hx y h1
      · rw [List.mem_singleton.1 h1]; exact hdi x h)
    have gl := filP_len n0 n1 f (by omega) l
    have gn := fun {i : Int} (h0 : 0 ≤ i) h1 => filP_next (n := n) (f := f) (l := l) (k := i) h0 h1
    have g0 : filP n f l 0 = [] := by simp [filP]
    have gE : filP n f l (diagL n).length = gro n (f + 1) l := by
      unfold filP
      rw [List.take_of_length_le (Nat.le_refl _), ← chs_spec hi]
      rfl
    have gfl := fun x => gro_len n0 n1 f (l ++ [x])
    have h64 : 64 ^ f ≤ 64 ^ 4 := Nat.pow_le_pow_right (by decide) (by omega)
    have so := sp_ownJ l hl
    have kB : ∀ x, keepB l x = (!(decide (0 < (l.length : Int)) && decide (x ≤ gi l ((l.length : Int) - 1))) && apartB l x) := fun _ => rfl
    generalize gro n (f + 1) l = G at *
    generalize diagL n = D at *
    refine fnGE [8] [.tmp 6] Try.func60 rfl (by decide) rfl (by kernel_rfl) (.inl rfl) (by kernel_rfl) (by simp) (by simp [Try.ntmps60]) ?_
    cbv
    ((try simp only [IfP_iff, and_true, true_and, decide_eq_true_eq, decide_eq_false_iff_not]); (try simp only [natc, getI_gi, at2_0, at2_1]); (try dsimp only [Ty.den]); (try simp only [natc] at *); (repeat' (first | apply And.intro | intro _)))
    all_goals (try (exact absurd (by assumption) e1))
    all_goals (try (exact ⟨inI_iff.2 ⟨by omega, by omega⟩⟩))
    all_goals (try omega)
    refine loopXE [8] (by kernel_rfl) (fun i : Int => 0 ≤ i ∧ i ≤ D.length) (fun i => [(8, .int fun _ => i), (7, .ref 1), (16, .junk)]) (fun i => [(1, some (.rows 40 3 .int fun _ => filP n f l i.toNat))]) (fun i => (D.length - i).toNat) (· + 1) 0 (by omega) ?_ ?_
    · cbv
      (simp only [IfP_iff, EqU_iff, Obl_iff, and_true, true_and, inI_iff, decide_eq_true_eq, decide_eq_false_iff_not]; (try simp only [natc, getI_gi, at2_0, at2_1]); (try dsimp only [Ty.den]); try simp only [natc] at *)
      exact g0.symm
    · intro i hi2
      have i0 : 0 ≤ i := hi2.1
      have b1 : (filP n f l i.toNat).length ≤ 1073741824 := gl _
      have b2 : i < (D.length : Int) → gi D i ∈ D := fun h => gi_mem i0 h
      have b3 := fun h => gn (i := i) i0 h
      have b4 : ¬ i < (D.length : Int) → filP n f l i.toNat = G := fun h => by rw [show i.toNat = D.length by omega]; exact gE
      have b5 := gfl (gi D i)
      have b6 : i < (D.length : Int) → 0 ≤ gi D i ∧ gi D i < 100 := fun h => hdi _ (b2 h)
      have sg := fun h hkp => ih (gi D i) (b2 h) hkp
      have kx := kB (gi D i)
      have c1 : i < (D.length : Int) → keepB l (gi D i) = true → filP n f l i.toNat ++ gro n f (l ++ [gi D i]) = filP n f l (i + 1).toNat := fun h e => by rw [b3 h, if_pos e]
      have c2 : i < (D.length : Int) → keepB l (gi D i) = false → filP n f l i.toNat = filP n f l (i + 1).toNat := fun h e => by rw [b3 h, if_neg (by rw [e]; decide), List.append_nil]
      have k1 : ¬ 0 < (l.length : Int) → (!apartB l (gi D i)) = false → keepB l (gi D i) = true := fun h1 h2 => by
        rw [kx, decide_eq_false h1, show apartB l (gi D i) = true by simpa using h2]; rfl
      have k2 : ¬ gi D i ≤ gi l ((l.length : Int) - 1) → (!apartB l (gi D i)) = false → keepB l (gi D i) = true := fun h1 h2 => by
        rw [kx, decide_eq_false h1, show apartB l (gi D i) = true by simpa using h2, Bool.and_false]; rfl
      have k3 : 0 < (l.length : Int) → gi D i ≤ gi l ((l.length : Int) - 1) → keepB l (gi D i) = false := fun h1 h2 => by
        rw [kx, decide_eq_true h1, decide_eq_true h2]; rfl
      have k4 : (!apartB l (gi D i)) = true → keepB l (gi D i) = false := fun h2 => by
        rw [kx, show apartB l (gi D i) = false by simpa using h2, Bool.and_false]
      generalize keepB l (gi D i) = kb at *
      generalize filP n f l i.toNat = X at *
      generalize filP n f l (i + 1).toNat = Y at *
      generalize gro n f (l ++ [gi D i]) = Z at *
      clear ih gl gn gE gfl g0 hdi b3 kB kx
      have sa := fun h => sp_dapart l (gi D i) hl hx (b6 h).1 (b6 h).2
      cbv
      ((try simp only [IfP_iff, and_true, true_and, decide_eq_true_eq, decide_eq_false_iff_not]); (try simp only [natc, getI_gi, at2_0, at2_1]); (try dsimp only [Ty.den]); (try simp only [natc] at *); (repeat' (first | apply And.intro | intro _)))
      all_goals (repeat' (first | ((first | refine call_q (sa (by assumption)) (by cbv) ?_ | refine call_pure (sa (by assumption)) (by cbv) ?_); cbv; ((try simp only [IfP_iff, and_true, true_and, decide_eq_true_eq, decide_eq_false_iff_not]); (try simp only [natc, getI_gi, at2_0, at2_1]); (try dsimp only [Ty.den]); (try simp only [natc] at *); (repeat' (first | apply And.intro | intro _))))))
      all_goals (try ((try simp only [IfP_iff, and_true, true_and, decide_eq_true_eq, decide_eq_false_iff_not]); (try simp only [natc, getI_gi, at2_0, at2_1]); (try dsimp only [Ty.den]); (try simp only [natc] at *); (repeat' (first | apply And.intro | intro _))))
      all_goals (try (refine DrawL.layersS [(4, fun S => S.new (some 52) (.ref S.H.length) (.row 3 .int fun _ => l)), (11, fun S => (S.after [2] [none, some (.rows 40 3 .int fun _ => Z)]).put (some 59) (.ref S.H.length))] [0, 1, 2, 3, 5, 6] (fun l i => if ((i == 4) && l.getD 9 false) = true then some [0, 1, 3, 2] else none) [([true, true, true, true, false, true, true, false, false, false, false, false, false, false], [4, 7]), ([true, true, true, true, true, true, true, false, false, false, false, false, false, false], [7]), ([true, true, true, true, false, true, true, true, false, false, false, false, false, false], [4, 8]), ([true, true, true, true, true, true, true, true, false, false, false, false, false, false], [8]), ([true, true, true, true, false, true, true, true, true, false, false, false, false, false], [4, 9]), ([true, true, true, true, true, true, true, true, true, false, false, false, false, false], [9]), ([true, true, true, true, false, true, true, true, true, true, false, false, false, false], [4]), ([true, true, true, true, true, true, true, true, true, true, false, false, false, false], [10]), ([true, true, true, true, true, true, true, true, true, true, true, false, false, false], [11]), ([true, true, true, true, true, true, true, true, true, true, true, true, false, false], [12]), ([true, true, true, true, true, true, true, true, true, true, true, true, true, false], [13]), ([true, true, true, true, true, true, true, true, true, true, true, true, true, true], [])] (by kernel_rfl) (by rfl) ?_))
      all_goals (try (cbv; (repeat' (first | apply And.intro | apply EqU.mk)); all_goals (try (first | trivial | rfl))))
      all_goals (try (((first | refine call_q so (by cbv) ?_ | refine call_pure so (by cbv) ?_); cbv; ((try simp only [IfP_iff, and_true, true_and, decide_eq_true_eq, decide_eq_false_iff_not]); (try simp only [natc, getI_gi, at2_0, at2_1]); (try dsimp only [Ty.den]); (try simp only [natc] at *); (repeat' (first | apply And.intro | intro _)))); (try (first | trivial | rfl))))
      all_goals (try (refine call_own 2 (sg (by assumption) (k1 (by assumption) (by assumption))) (by exact ⟨rfl, rfl, trivial⟩) (by exact ⟨.inl rfl, .inl rfl, .inr ⟨rfl, rfl⟩, trivial⟩) ?_
                      cbv))
      all_goals (try (refine call_own 2 (sg (by assumption) (k2 (by assumption) (by assumption))) (by exact ⟨rfl, rfl, trivial⟩) (by exact ⟨.inl rfl, .inl rfl, .inr ⟨rfl, rfl⟩, trivial⟩) ?_
                      cbv))
      all_goals (try (repeat' (first | apply And.intro | apply EqU.mk)))
      all_goals (try (first | trivial | rfl))
      all_goals (first
        | (refine EndG.plain [0, 1] ?_
           cbv
           (simp only [IfP_iff, EqU_iff, Obl_iff, and_true, true_and, inI_iff, decide_eq_true_eq, decide_eq_false_iff_not]; (try simp only [natc, getI_gi, at2_0, at2_1]); (try dsimp only [Ty.den]); try simp only [natc] at *)
           exact b4 (by assumption))
        | (refine RenL.mk ⟨[0, 1], ?_⟩
           cbv
           (simp only [IfP_iff, EqU_iff, Obl_iff, and_true, true_and, inI_iff, decide_eq_true_eq, decide_eq_false_iff_not]; (try simp only [natc, getI_gi, at2_0, at2_1]); (try dsimp only [Ty.den]); try simp only [natc] at *)
           first
             | exact (c1 (by assumption) (k1 (by assumption) (by assumption))).symm
             | exact (c1 (by assumption) (k2 (by assumption) (by assumption))).symm
             | exact (c2 (by assumption) (k3 (by assumption) (by assumption))).symm
             | exact (c2 (by assumption) (k4 (by assumption))).symm
             | exact c1 (by assumption) (k1 (by assumption) (by assumption))
             | exact c1 (by assumption) (k2 (by assumption) (by assumption))
             | exact c2 (by assumption) (k3 (by assumption) (by assumption))
             | exact c2 (by assumption) (k4 (by assumption)))
        | ((try (simp only [IfP_iff, EqU_iff, Obl_iff, and_true, true_and, inI_iff, decide_eq_true_eq, decide_eq_false_iff_not]; (try simp only [natc, getI_gi, at2_0, at2_1]); (try dsimp only [Ty.den]); try simp only [natc] at *))
           (repeat' (first | apply And.intro | intro _)) <;> first | omega | (have := Nat.le_trans b5 h64; omega) | (simp only [List.length_cons, List.length_nil]; omega) | trace_state)
        | trace_state)
end Go.Proofs.Ytlfdimhnielleaa.M
/- Polygon spaces: the specification; both are one. -/
namespace Go.Proofs.Ytlfdimhnielleaa.M
open Go.RowKit Abs
set_option linter.unusedSimpArgs false
set_option linter.unusedVariables false
set_option maxRecDepth 100000
set_option maxHeartbeats 4000000
theorem sp_lone (a b : List Int) (ha : a.length ≤ 1048576) (hb : b.length ≤ 1048576) : Spec2 Try.prog 62 [.sl .int fun _ => a, .sl .int fun _ => b] [] [.ref 0] [some (.row 3 .int fun _ => onlyL a b)] := by
  refine fnS [0] [4] Try.func62 rfl (by decide) rfl (by decide) (by kernel_rfl) rfl (by simp [Try.ntmps62]) ?_
  cbv
  refine loopP (by kernel_rfl) (fun k : Int => 0 ≤ k ∧ k ≤ a.length) (fun k => [(6, .int fun _ => k), (5, .ref 0), (7, .junk)]) (fun k => [(0, some (.row 3 .int fun _ => onlyL (a.take k.toNat) b))]) (fun k => (a.length - k).toNat) (· + 1) 0 (by omega) ?_ ?_
  · cbv
    (simp only [IfP_iff, EqU_iff, Obl_iff, and_true, true_and, inI_iff, decide_eq_true_eq, decide_eq_false_iff_not]; (try simp only [natc, getI_gi, at2_0, at2_1]); (try dsimp only [Ty.den]); try simp only [natc] at *)
    rfl
  · intro k hk
    have h1 := fun h => only_next (a := a) (b := b) (k := k) hk.1 h
    have h2 : (onlyL (a.take k.toNat) b).length ≤ 1048576 := Nat.le_trans (List.length_filter_le _ _) (by rw [List.length_take]; omega)
    have h3 : ¬ k < (a.length : Int) → onlyL (a.take k.toNat) b = onlyL a b := fun h => by rw [List.take_of_length_le (by omega)]
    have h4 : k < (a.length : Int) → (!hasB b (gi a k)) = true → onlyL (a.take k.toNat) b ++ [gi a k] = onlyL (a.take (k + 1).toNat) b := fun h e => by rw [h1 h, if_neg (by simpa using e)]
    have h5 : k < (a.length : Int) → (!hasB b (gi a k)) = false → onlyL (a.take k.toNat) b = onlyL (a.take (k + 1).toNat) b := fun h e => by rw [h1 h, if_pos (by simpa using e), List.append_nil]
    generalize onlyL (a.take k.toNat) b = X at *
    generalize onlyL (a.take (k + 1).toNat) b = Y at *
    clear h1
    cbv
    ((try simp only [IfP_iff, and_true, true_and, decide_eq_true_eq, decide_eq_false_iff_not]); (try simp only [natc, getI_gi, at2_0, at2_1]); (try dsimp only [Ty.den]); (try simp only [natc] at *); (repeat' (first | apply And.intro | intro _)))
    all_goals (repeat' (first | ((first | refine call_q (sp_has b (gi a k) hb) (by cbv) ?_ | refine call_pure (sp_has b (gi a k) hb) (by cbv) ?_); cbv; ((try simp only [IfP_iff, and_true, true_and, decide_eq_true_eq, decide_eq_false_iff_not]); (try simp only [natc, getI_gi, at2_0, at2_1]); (try dsimp only [Ty.den]); (try simp only [natc] at *); (repeat' (first | apply And.intro | intro _))))))
    all_goals (try ((try simp only [IfP_iff, and_true, true_and, decide_eq_true_eq, decide_eq_false_iff_not]); (try simp only [natc, getI_gi, at2_0, at2_1]); (try dsimp only [Ty.den]); (try simp only [natc] at *); (repeat' (first | apply And.intro | intro _))))
    all_goals (try (simp only [IfP_iff, EqU_iff, Obl_iff, and_true, true_and, inI_iff, decide_eq_true_eq, decide_eq_false_iff_not]; (try simp only [natc, getI_gi, at2_0, at2_1]); (try dsimp only [Ty.den]); try simp only [natc] at *))
    all_goals ((repeat' (first | apply And.intro | intro _)) <;> first | omega | (exact h3 (by assumption)) | (exact h4 (by assumption) (by assumption)) | (exact h5 (by assumption) (by assumption)) | (rw [List.length_cons, List.length_nil]; omega) | trace_state)
def lonB (a b : List Int) : Bool := decide (((onlyL a b).length : Int) = 1)
theorem sp_polygon (n : Int) (n0 : 3 ≤ n) (n1 : n ≤ 8) (R : List (List Int)) (hR : gro n (n - 3).toNat [] = R) (hb : R.length ≤ 40000) (hr : ∀ k : Int, 0 ≤ k → k < R.length → (getR .int R k).length ≤ 1048576) : Spec2 Try.prog 29 [.int fun _ => n] [] [.cells [.ref 0, .ref 1]] [some (.rows 40 3 .int fun _ => R), some (.row 85 (.pr .int .int) fun _ => wTo (fun i j => lonB (getR .int R i) (getR .int R j)) R.length R.length)] := by
  have s1 := sp_diagonals n (by omega) n1
  have s2 := sp_fill n n0 n1 (n - 3).toNat [] (by simp only [List.length_nil]; omega) (by rfl) (by simp)
  rw [hR] at s2
  have hq : ∀ i j, (fun i j => lonB (getR .int R i) (getR .int R j)) i j = decide (((onlyL (getR .int R i) (getR .int R j)).length : Int) = 1) := fun _ _ => rfl
  generalize (fun i j => lonB (getR .int R i) (getR .int R j)) = q at *
  generalize diagL n = D at *
  refine fnG [.cst 2 2 25] Try.func29 rfl (by decide) rfl (by kernel_rfl) (.inl rfl) (by kernel_rfl) (Nat.zero_le _) (by simp [Try.ntmps29]) ?_
  cbv
  ((first | refine call_q s1 (by cbv) ?_ | refine call_pure s1 (by cbv) ?_); cbv; ((try simp only [IfP_iff, and_true, true_and, decide_eq_true_eq, decide_eq_false_iff_not]); (try simp only [natc, getI_gi, at2_0, at2_1]); (try dsimp only [Ty.den]); (try simp only [natc] at *); (repeat' (first | apply And.intro | intro _))))
  refine call_own 2 s2 (by exact ⟨rfl, rfl, trivial⟩) (by exact ⟨.inl rfl, .inl rfl, .inr ⟨rfl, rfl⟩, trivial⟩) ?_
  cbv
  refine loopP (by kernel_rfl) (fun i : Int => 0 ≤ i ∧ i ≤ R.length) (fun i => [(4, .int fun _ => i), (11, .junk), (12, .junk)]) (fun i => [(4, some (.row 85 (.pr .int .int) fun _ => wTo q R.length i.toNat)), (5, some (.box 25 [.ref 3, .ref 4]))]) (fun i => (R.length - i).toNat) (· + 1) 0 (by omega) ?_ ?_
  · cbv
    (simp only [IfP_iff, EqU_iff, Obl_iff, and_true, true_and, inI_iff, decide_eq_true_eq, decide_eq_false_iff_not]; (try simp only [natc, getI_gi, at2_0, at2_1]); (try dsimp only [Ty.den]); try simp only [natc] at *)
    exact rfl
  · intro i hi
    have c1 := wTo_next (q := q) (m := R.length) hi.1
    have c2 := wTo_len q (m := (R.length : Int)) (by omega) i.toNat
    have c3 : wRow q i (i + 1 - (i + 1)).toNat = [] := by rw [show (i + 1 - (i + 1)).toNat = 0 by omega]; rfl
    have c5 : ¬ i < (R.length : Int) → wTo q R.length i.toNat = wTo q R.length R.length := fun h => by rw [show i.toNat = R.length by omega]
    have c6 : (wTo q R.length i.toNat).length ≤ 1600000000 := by omega
    have i0 : 0 ≤ i := hi.1
    clear c2
    cbv
    ((try simp only [IfP_iff, and_true, true_and, decide_eq_true_eq, decide_eq_false_iff_not]); (try simp only [natc, getI_gi, at2_0, at2_1]); (try dsimp only [Ty.den]); (try simp only [natc] at *); (repeat' (first | apply And.intro | intro _)))
    rotate_left 1
    · refine loopP (by kernel_rfl) (fun j : Int => i + 1 ≤ j ∧ (j ≤ R.length ∨ j = i + 1)) (fun j => [(5, .int fun _ => j)]) (fun j => [(4, some (.row 85 (.pr .int .int) fun _ => wTo q R.length i.toNat ++ wRow q i (j - (i + 1)).toNat)), (5, some (.box 25 [.ref 3, .ref 4]))]) (fun j => (R.length - j).toNat) (· + 1) (i + 1) (by omega) ?_ ?_
      · cbv
        (simp only [IfP_iff, EqU_iff, Obl_iff, and_true, true_and, inI_iff, decide_eq_true_eq, decide_eq_false_iff_not]; (try simp only [natc, getI_gi, at2_0, at2_1]); (try dsimp only [Ty.den]); try simp only [natc] at *)
        rw [c3, List.append_nil]
      · intro j hj
        have d1 := wRow_next (q := q) hj.1
        have d2 := wRow_len q i (j - (i + 1)).toNat
        have d4 : ¬ j < (R.length : Int) → wTo q R.length i.toNat ++ wRow q i (j - (i + 1)).toNat = wTo q R.length (i + 1).toNat := fun h => by
          rw [c1, show j = (R.length : Int) by omega]
        have d5 : ((onlyL (getR .int R i) (getR .int R j)).length : Int) = 1 → wTo q R.length i.toNat ++ wRow q i (j - (i + 1)).toNat ++ [(i, j)] = wTo q R.length i.toNat ++ wRow q i (j + 1 - (i + 1)).toNat := fun a => by rw [d1, if_pos (by rw [hq, decide_eq_true_eq]; exact a), List.append_assoc]
        have d6 : ¬ ((onlyL (getR .int R i) (getR .int R j)).length : Int) = 1 → wTo q R.length i.toNat ++ wRow q i (j - (i + 1)).toNat = wTo q R.length i.toNat ++ wRow q i (j + 1 - (i + 1)).toNat := fun a => by rw [d1, if_neg (by rw [hq, decide_eq_true_eq]; exact a), List.append_nil]
        have d7 : (wTo q R.length i.toNat ++ wRow q i (j - (i + 1)).toNat).length ≤ 1600080000 := by rw [List.length_append]; omega
        have d8 : j < (R.length : Int) → (onlyL (getR .int R i) (getR .int R j)).length ≤ 1048576 := fun h => Nat.le_trans (List.length_filter_le _ _) (hr i i0 (by omega))
        have sl := fun h : j < (R.length : Int) => sp_lone (getR .int R i) (getR .int R j) (hr i i0 (by omega)) (hr j (by omega) h)
        clear d1 d2 c1 c3 c5 c6 s1 s2 hq
        cbv
        ((try simp only [IfP_iff, and_true, true_and, decide_eq_true_eq, decide_eq_false_iff_not]); (try simp only [natc, getI_gi, at2_0, at2_1]); (try dsimp only [Ty.den]); (try simp only [natc] at *); (repeat' (first | apply And.intro | intro _)))
        all_goals (repeat' (first | ((first | refine call_q (sl (by assumption)) (by cbv) ?_ | refine call_pure (sl (by assumption)) (by cbv) ?_); cbv; ((try simp only [IfP_iff, and_true, true_and, decide_eq_true_eq, decide_eq_false_iff_not]); (try simp only [natc, getI_gi, at2_0, at2_1]); (try dsimp only [Ty.den]); (try simp only [natc] at *); (repeat' (first | apply And.intro | intro _))))))
        all_goals (try ((try simp only [IfP_iff, and_true, true_and, decide_eq_true_eq, decide_eq_false_iff_not]); (try simp only [natc, getI_gi, at2_0, at2_1]); (try dsimp only [Ty.den]); (try simp only [natc] at *); (repeat' (first | apply And.intro | intro _))))
        all_goals (try (simp only [IfP_iff, EqU_iff, Obl_iff, and_true, true_and, inI_iff, decide_eq_true_eq, decide_eq_false_iff_not]; (try simp only [natc, getI_gi, at2_0, at2_1]); (try dsimp only [Ty.den]); try simp only [natc] at *))
        all_goals ((repeat' (first | apply And.intro | intro _)) <;> first | omega | (exact d4 (by assumption)) | (exact d5 (by assumption)) | (exact d6 (by assumption)) | (simp only [List.length_cons, List.length_nil] at *; omega) | trace_state)
    · refine EndG.plain [3, 4] ?_
      cbv
      (simp only [IfP_iff, EqU_iff, Obl_iff, and_true, true_and, inI_iff, decide_eq_true_eq, decide_eq_false_iff_not]; (try simp only [natc, getI_gi, at2_0, at2_1]); (try dsimp only [Ty.den]); try simp only [natc] at *)
      exact c5 (by assumption)
    all_goals (try (simp only [IfP_iff, EqU_iff, Obl_iff, and_true, true_and, inI_iff, decide_eq_true_eq, decide_eq_false_iff_not]; (try simp only [natc, getI_gi, at2_0, at2_1]); (try dsimp only [Ty.den]); try simp only [natc] at *))
    all_goals ((repeat' (first | apply And.intro | intro _)) <;> first | omega | trace_state)
end Go.Proofs.Ytlfdimhnielleaa.M
/- Polygon spaces: both are one. -/
namespace Go.Proofs.Ytlfdimhnielleaa.M
open Go.RowKit Abs
set_option linter.unusedSimpArgs false
set_option linter.unusedVariables false
set_option maxRecDepth 100000
set_option maxHeartbeats 4000000
theorem inc_nd {s : List Int} (h : incB s = true) : s.Nodup := by
  unfold List.Nodup
  rw [List.pairwise_iff_getElem]
  intro i j hi hj hij
  have h1 := inc_lt h (a := (i : Int)) (by omega) (d := j - i - 1) (by omega)
  rw [show (i : Int) + ((j - i - 1 : Nat) : Int) + 1 = (j : Int) by omega] at h1
  have e1 : ∀ k (hk : k < s.length), gi s (k : Int) = s[k] := fun k hk => by
    unfold gi
    rw [List.getD_eq_getElem?_getD, show ((k : Int)).toNat = k by omega, List.getElem?_eq_getElem hk]
    rfl
  rw [e1 i hi, e1 j hj] at h1
  intro e
  rw [e] at h1
  omega
theorem gro_mem {n : Int} : ∀ (f : Nat) (l : List Int), incB l = true → ∀ s ∈ gro n f l, incB s = true ∧ s.length = l.length + f
  | 0, l, hi, s, hs => by
    have e : s = l := by simpa [gro] using hs
    rw [e]
    exact ⟨hi, rfl⟩
  | f + 1, l, hi, s, hs => by
    obtain ⟨x, hx, h⟩ := List.mem_flatMap.1 (show s ∈ (chs n l).flatMap fun x => gro n f (l ++ [x]) from hs)
    have h2 := (List.mem_filter.1 (show x ∈ (fitL (diagL n) crossB l).filter fun x => !(!incB (l ++ [x])) from hx)).2
    have h3 := gro_mem f (l ++ [x]) (by simpa using h2) s h
    rw [len_snoc] at h3
    exact ⟨h3.1, by omega⟩
theorem len_split (p : Int → Bool) : ∀ l : List Int, l.length = (l.filter p).length + (l.filter fun x => !p x).length
  | [] => rfl
  | x :: l => by
    have h := len_split p l
    rw [List.filter_cons, List.filter_cons]
    cases hp : p x <;> simp <;> omega
theorem lone_sym {a b : List Int} (ha : a.Nodup) (hb : b.Nodup) (hl : a.length = b.length) : (onlyL a b).length = (onlyL b a).length := by
  have p : (a.filter (hasB b)).Perm (b.filter (hasB a)) := by
    rw [List.perm_ext_iff_of_nodup (ha.filter _) (hb.filter _)]
    intro x
    rw [List.mem_filter, List.mem_filter, hasB_iff, hasB_iff]
    exact And.comm
  have l1 := len_split (hasB b) a
  have l2 := len_split (hasB a) b
  have l3 := p.length_eq
  unfold onlyL
  omega
theorem jmp_lone {a b : List Int} (ha : a.Nodup) (hb : b.Nodup) (hl : a.length = b.length) : jmpB a b = lonB a b := by
  have h := lone_sym ha hb hl
  have e : ∀ a b : List Int, cntB a (fun x => !hasB b x) a.length = ((onlyL a b).length : Int) := fun a b => by
    unfold cntB onlyL
    rw [List.take_of_length_le (Nat.le_refl _)]
  unfold jmpB lonB
  rw [e a b, e b a, h, Bool.and_self]
theorem wRow_congr {q q' : Int → Int → Bool} {i : Int} : ∀ k : Nat, (∀ j : Int, i + 1 ≤ j → j < i + 1 + k → q i j = q' i j) → wRow q i k = wRow q' i k
  | 0, _ => rfl
  | k + 1, h => by
    unfold wRow
    rw [wRow_congr k fun j j0 j1 => h j j0 (by omega), h (i + 1 + k) (by omega) (by omega)]
theorem wTo_congr {q q' : Int → Int → Bool} {m : Int} (h : ∀ i j : Int, 0 ≤ i → i < m → 0 ≤ j → j < m → q i j = q' i j) : ∀ k : Nat, (k : Int) ≤ m → wTo q m k = wTo q' m k
  | 0, _ => rfl
  | k + 1, hk => by
    unfold wTo
    rw [wTo_congr h k (by omega), wRow_congr _ fun j j0 j1 => h k j (by omega) (by omega) (by omega) (by omega)]
theorem wTo_len2 (q : Int → Int → Bool) {m : Int} (h : m ≤ 200) : ∀ k, (wTo q m k).length ≤ 200 * k
  | 0 => Nat.le_refl _
  | k + 1 => by
    have := wTo_len2 q h k
    have := wRow_len q k (m - ((k : Int) + 1)).toNat
    unfold wTo
    rw [List.length_append]
    omega
theorem pol_small (n : Int) (h0 : 3 ≤ n) (h1 : n ≤ 8) : (gro n (n - 3).toNat []).length ≤ 200 := by
  have h : n = 3 ∨ n = 4 ∨ n = 5 ∨ n = 6 ∨ n = 7 ∨ n = 8 := by omega
  rcases h with rfl | rfl | rfl | rfl | rfl | rfl <;> decide +kernel
theorem tot_small : ∀ L : List (List Int), (∀ s ∈ L, s.length ≤ 5) → totR L ≤ 5 * (L.length : Int)
  | [], _ => by simp [totR]
  | s :: L, h => by
    have h1 := h s (by simp)
    have h2 := tot_small L fun y hy => h y (by simp [hy])
    simp only [totR, List.length_cons]
    omega
theorem polG_facts (n : Int) : (polG n).length ≤ 200 ∧ (∀ s ∈ polG n, s.Nodup ∧ s.length = (n - 3).toNat ∧ s.length ≤ 5) := by
  unfold polG
  by_cases hp : polyB n = true
  · rw [if_pos hp]
    unfold polyB at hp
    simp only [Bool.and_eq_true, decide_eq_true_eq] at hp
    refine ⟨pol_small n hp.1 hp.2, fun s hs => ?_⟩
    have h := gro_mem (n - 3).toNat [] (by rfl) s hs
    rw [List.length_nil] at h
    exact ⟨inc_nd h.1, by omega, by omega⟩
  · rw [if_neg hp]
    exact ⟨by simp, fun s hs => by simp at hs⟩
theorem pol_same (n : Int) : wTo (fun i j => lonB (getR .int (polG n) i) (getR .int (polG n) j)) (polG n).length (polG n).length = polQ n := by
  obtain ⟨h1, h2⟩ := polG_facts n
  refine (wTo_congr (fun i j i0 i1 j0 j1 => ?_) _ (by omega)).symm
  have a := h2 _ (getR_mem i0 i1)
  have b := h2 _ (getR_mem j0 j1)
  exact jmp_lone a.1 b.1 (by omega)
theorem sp_polySpace (n : Int) (hb : (polG n).length ≤ 40000) (hr : ∀ k : Int, 0 ≤ k → k < (polG n).length → (getR .int (polG n) k).length ≤ 1048576) : Spec2 Try.prog 7 [.int fun _ => n] [] [.cells [.ref 0, .ref 1], .bool fun _ => polyB n] [some (.rows 40 3 .int fun _ => polG n), some (.row 85 (.pr .int .int) fun _ => polQ n)] := by
  by_cases hp : polyB n = true
  case neg =>
    have h8 : polG n = [] := by unfold polG; rw [if_neg hp]
    have h9 : polQ n = [] := by unfold polQ; rw [h8]; rfl
    rw [Bool.not_eq_true] at hp
    rw [hp, h9, h8]
    refine fnG [.cst 2 2 25, .tmp 3] Try.func7 rfl (by decide) rfl (by kernel_rfl) (.inr (.inl rfl)) (by kernel_rfl) (Nat.zero_le _) (by simp [Try.ntmps7]) ?_
    cbv
    repeat' (first | ((first | refine call_q (sp_corners n) (by cbv) ?_ | refine call_pure (sp_corners n) (by cbv) ?_); cbv; ((try simp only [IfP_iff, and_true, true_and, decide_eq_true_eq, decide_eq_false_iff_not]); (try simp only [natc, getI_gi, at2_0, at2_1]); (try dsimp only [Ty.den]); (try simp only [natc] at *); (repeat' (first | apply And.intro | intro _)))))
    all_goals (try (simp only [IfP_iff, EqU_iff, Obl_iff, and_true, true_and, inI_iff, decide_eq_true_eq, decide_eq_false_iff_not]; (try simp only [natc, getI_gi, at2_0, at2_1]); (try dsimp only [Ty.den]); try simp only [natc] at *))
    ((try simp only [IfP_iff, and_true, true_and, decide_eq_true_eq, decide_eq_false_iff_not]); (try simp only [natc, getI_gi, at2_0, at2_1]); (try dsimp only [Ty.den]); (try simp only [natc] at *); (repeat' (first | apply And.intro | intro _)))
    all_goals (try (exact absurd (by assumption : (!polyB n) = false) (by rw [hp]; decide)))
    all_goals (refine EndG.via (fun w0 B hd a w val hR => hR.nilR 40 3 .int [.box 0 0]) ?_)
    all_goals (refine EndG.nil 85 (.pr .int .int) [.box 0 1] [1, 2] ?_)
    all_goals cbv
    all_goals (try (simp only [IfP_iff, EqU_iff, Obl_iff, and_true, true_and, inI_iff, decide_eq_true_eq, decide_eq_false_iff_not]; (try simp only [natc, getI_gi, at2_0, at2_1]); (try dsimp only [Ty.den]); try simp only [natc] at *))
  have h8 : gro n (n - 3).toNat [] = polG n := by unfold polG; rw [if_pos hp]
  have h9 := hp
  unfold polyB at h9
  simp only [Bool.and_eq_true, decide_eq_true_eq] at h9
  have s1 := sp_polygon n h9.1 h9.2 (polG n) h8 hb hr
  rw [pol_same n] at s1
  rw [hp]
  generalize polQ n = Q at *
  generalize polG n = R at *
  refine fnG [.cst 2 2 25, .tmp 3] Try.func7 rfl (by decide) rfl (by kernel_rfl) (.inr (.inl rfl)) (by kernel_rfl) (Nat.zero_le _) (by simp [Try.ntmps7]) ?_
  cbv
  repeat' (first | ((first | refine call_q (sp_corners n) (by cbv) ?_ | refine call_pure (sp_corners n) (by cbv) ?_); cbv; ((try simp only [IfP_iff, and_true, true_and, decide_eq_true_eq, decide_eq_false_iff_not]); (try simp only [natc, getI_gi, at2_0, at2_1]); (try dsimp only [Ty.den]); (try simp only [natc] at *); (repeat' (first | apply And.intro | intro _)))))
  all_goals (try (simp only [IfP_iff, EqU_iff, Obl_iff, and_true, true_and, inI_iff, decide_eq_true_eq, decide_eq_false_iff_not]; (try simp only [natc, getI_gi, at2_0, at2_1]); (try dsimp only [Ty.den]); try simp only [natc] at *))
  ((try simp only [IfP_iff, and_true, true_and, decide_eq_true_eq, decide_eq_false_iff_not]); (try simp only [natc, getI_gi, at2_0, at2_1]); (try dsimp only [Ty.den]); (try simp only [natc] at *); (repeat' (first | apply And.intro | intro _)))
  all_goals (try (exact absurd (by assumption : (!polyB n) = true) (by rw [hp]; decide)))
  ((first | refine call_q s1 (by cbv) ?_ | refine call_pure s1 (by cbv) ?_); cbv; ((try simp only [IfP_iff, and_true, true_and, decide_eq_true_eq, decide_eq_false_iff_not]); (try simp only [natc, getI_gi, at2_0, at2_1]); (try dsimp only [Ty.den]); (try simp only [natc] at *); (repeat' (first | apply And.intro | intro _))))
  refine EndG.plain [1, 2] ?_
  cbv
  all_goals (try (simp only [IfP_iff, EqU_iff, Obl_iff, and_true, true_and, inI_iff, decide_eq_true_eq, decide_eq_false_iff_not]; (try simp only [natc, getI_gi, at2_0, at2_1]); (try dsimp only [Ty.den]); try simp only [natc] at *))
end Go.Proofs.Ytlfdimhnielleaa.M
