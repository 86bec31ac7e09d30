/- Wo, Wp, Wr, Wq, Ws, Wt, Wu, in one text. -/
import Derived.Test.YtjkmgdhndbdhoaaJlQ
import Derived.Test.YtjkmgdhndbdhoaaQj
import Derived.Test.YtjkmgdhndbdhoaaDlQ
import Derived.Test.YtjkmgdhndbdhoaaJnQ
import Derived.Test.YtjkmgdhndbdhoaaQg
import Derived.Test.YtjkmgdhndbdhoaaLpQ
import Derived.Test.YtjkmgdhndbdhoaaRgQ
import Derived.Test.YtjkmgdhndbdhoaaQe
/- fittingRule with edges: what it says of a list that grows. -/
namespace Go.Proofs.Ytjkmgdhndbdhoaa.M
open Go.RowKit Abs
set_option linter.unusedSimpArgs false
set_option linter.unusedVariables false
set_option maxRecDepth 100000
set_option maxHeartbeats 4000000
theorem im_isWholeE (n k : Int) (l : List (Int × Int)) (b : List Int) (hl : b.length ≤ 1048576) : Spec2 Try.prog 76 [.cells [.ifr 54 fun _ => ofBound [.cells [.int fun _ => n, .sl (.pr .int .int) fun _ => l]], .int fun _ => k], .sl .int fun _ => b] [] [.bool fun _ => decide ((b.length : Int) = k)] [] := by
  refine fnS [] [4] Try.func76 rfl (by decide) rfl (by decide) (by kernel_rfl) rfl (by simp [Try.ntmps76]) ?_
  cbv
  ((try simp only [IfP_iff, and_true, true_and, decide_eq_true_eq, decide_eq_false_iff_not]); (try simp only [natc, getI_gi, at2_0, at2_1]); (try dsimp only [Ty.den]); (try simp only [natc] at *); (repeat' (first | apply And.intro | intro _)))
  all_goals (try (simp only [IfP_iff, EqU_iff, Obl_iff, and_true, true_and, inI_iff, decide_eq_true_eq, decide_eq_false_iff_not]; (try simp only [natc, getI_gi, at2_0, at2_1]); (try dsimp only [Ty.den]); try simp only [natc] at *))
theorem im_withE (n k x : Int) (l : List (Int × Int)) (b : List Int) (hl : b.length ≤ 1000) : Spec2 Try.prog 77 [.cells [.ifr 54 fun _ => ofBound [.cells [.int fun _ => n, .sl (.pr .int .int) fun _ => l]], .int fun _ => k], .sl .int fun _ => b, .int fun _ => x] [] [.ref 0] [some (.row 3 .int fun _ => b ++ [x])] := by
  have s1 := go_concat b [x] (by omega) (by simp) (by simp)
  refine fnE [1] [3] [6] Try.func77 rfl (by decide) rfl (by decide) (by kernel_rfl) rfl (by simp [Try.ntmps77]) ?_
  cbv
  refine DrawL.seqZ [(3, [1])] ?_
  cbv
  repeat' (first | ((first | refine call_q s1 (by cbv) ?_ | refine call_pure s1 (by cbv) ?_); cbv; ((try simp only [IfP_iff, and_true, true_and, decide_eq_true_eq, decide_eq_false_iff_not]); (try simp only [natc, getI_gi, at2_0, at2_1]); (try dsimp only [Ty.den]); (try simp only [natc] at *); (repeat' (first | apply And.intro | intro _)))))
  all_goals (try (simp only [IfP_iff, EqU_iff, Obl_iff, and_true, true_and, inI_iff, decide_eq_true_eq, decide_eq_false_iff_not]; (try simp only [natc, getI_gi, at2_0, at2_1]); (try dsimp only [Ty.den]); try simp only [natc] at *))
theorem im_choicesE1 (n k x : Int) (l : List (Int × Int)) (b : List Int) (hl : b.length ≤ 1000) : Spec2 Try.prog 78 [.int fun _ => x, .ibox [.ifr 54 fun _ => ofBound [.cells [.int fun _ => n, .sl (.pr .int .int) fun _ => l]], .int fun _ => k] 0, .ibox [.sl .int fun _ => b] 0] [] [.bool fun _ => !incB (b ++ [x])] [] := by
  have h1 : (b ++ [x]).length ≤ 1048576 := by rw [List.length_append, List.length_cons, List.length_nil]; omega
  refine fnS [] [4] Try.func78 rfl (by decide) rfl (by decide) (by kernel_rfl) rfl (by simp [Try.ntmps78]) ?_
  cbv
  repeat' (first | ((first | refine call_q (im_withE n k x l b hl) (by cbv) ?_ | refine call_pure (im_withE n k x l b hl) (by cbv) ?_); cbv; ((try simp only [IfP_iff, and_true, true_and, decide_eq_true_eq, decide_eq_false_iff_not]); (try simp only [natc, getI_gi, at2_0, at2_1]); (try dsimp only [Ty.den]); (try simp only [natc] at *); (repeat' (first | apply And.intro | intro _)))) | ((first | refine call_q (im_isAscending (b ++ [x]) h1) (by cbv) ?_ | refine call_pure (im_isAscending (b ++ [x]) h1) (by cbv) ?_); cbv; ((try simp only [IfP_iff, and_true, true_and, decide_eq_true_eq, decide_eq_false_iff_not]); (try simp only [natc, getI_gi, at2_0, at2_1]); (try dsimp only [Ty.den]); (try simp only [natc] at *); (repeat' (first | apply And.intro | intro _)))))
  all_goals (try (simp only [IfP_iff, EqU_iff, Obl_iff, and_true, true_and, inI_iff, decide_eq_true_eq, decide_eq_false_iff_not]; (try simp only [natc, getI_gi, at2_0, at2_1]); (try dsimp only [Ty.den]); try simp only [natc] at *))
theorem im_choicesE (n k : Int) (l : List (Int × Int)) (b : List Int) (hl : l.length ≤ 1048576) (hb : b.length ≤ 1000) (hx : ∀ x ∈ b, 0 ≤ x ∧ x < (l.length : Int)) : Spec2 Try.prog 75 [.cells [.ifr 54 fun _ => ofBound [.cells [.int fun _ => n, .sl (.pr .int .int) fun _ => l]], .int fun _ => k], .sl .int fun _ => b] [] [.ref 0] [some (.row 3 .int fun _ => (fitL (allN l) (edgeX l) b).filter fun x => !(!incB (b ++ [x])))] := by
  have hdl := allN_len l
  have hfl := fit_len (allN l) b (edgeX l)
  have hd := go_delF 78 (fun _ => ofCaps [.ibox [.ifr 54 fun _ => ofBound [.cells [.int fun _ => n, .sl (.pr .int .int) fun _ => l]], .int fun _ => k] 0, .ibox [.sl .int fun _ => b] 0]) (fun x => !incB (b ++ [x])) (fitL (allN l) (edgeX l) b) (by omega) fun x _ => ⟨_, rfl, fun _ => rfl, im_choicesE1 n k x l b hb⟩
  refine fnS [3] [4] Try.func75 rfl (by decide) rfl (by decide) (by kernel_rfl) rfl (by simp [Try.ntmps75]) ?_
  cbv
  ((first | refine call_q (im_fittingE n l b hl (by omega) hx) (by cbv) ?_ | refine call_pure (im_fittingE n l b hl (by omega) hx) (by cbv) ?_); cbv; ((try simp only [IfP_iff, and_true, true_and, decide_eq_true_eq, decide_eq_false_iff_not]); (try simp only [natc, getI_gi, at2_0, at2_1]); (try dsimp only [Ty.den]); (try simp only [natc] at *); (repeat' (first | apply And.intro | intro _))))
  refine call_own 2 hd (by cbv) (by exact ⟨.inr ⟨rfl, rfl⟩, .inl rfl, trivial⟩) ?_
  cbv
  all_goals (try (simp only [IfP_iff, EqU_iff, Obl_iff, and_true, true_and, inI_iff, decide_eq_true_eq, decide_eq_false_iff_not]; (try simp only [natc, getI_gi, at2_0, at2_1]); (try dsimp only [Ty.den]); try simp only [natc] at *))
end Go.Proofs.Ytjkmgdhndbdhoaa.M
/- Lists that grow by fittingRule with edges: impl.grown. -/
namespace Go.Proofs.Ytjkmgdhndbdhoaa.M
open Go.RowKit Abs
set_option linter.unusedSimpArgs false
set_option linter.unusedVariables false
set_option maxRecDepth 100000
set_option maxHeartbeats 4000000
def chE (l : List (Int × Int)) (b : List Int) : List Int := (fitL (allN l) (edgeX l) b).filter fun x => !(!incB (b ++ [x]))
def grE (l : List (Int × Int)) : Nat → List Int → List (List Int)
  | 0, b => [b]
  | f + 1, b => (chE l b).flatMap fun x => grE l f (b ++ [x])
def grEP (l : List (Int × Int)) (f : Nat) (b : List Int) (k : Nat) : List (List Int) := ((chE l b).take k).flatMap fun x => grE l f (b ++ [x])
theorem grEP_next {l : List (Int × Int)} {f : Nat} {b : List Int} {k : Int} (h0 : 0 ≤ k) (h1 : k < ((chE l b).length : Int)) : grEP l f b (k + 1).toNat = grEP l f b k.toNat ++ grE l f (b ++ [gi (chE l b) k]) := by
  unfold grEP
  rw [take_gi h0 h1, List.flatMap_append]
  simp
theorem chE_len {l : List (Int × Int)} (h : l.length ≤ 64) (b : List Int) : (chE l b).length ≤ 64 := by
  have h1 := allN_len l
  have h2 := fit_len (allN l) b (edgeX l)
  have h3 := List.length_filter_le (fun x => !(!incB (b ++ [x]))) (fitL (allN l) (edgeX l) b)
  unfold chE
  omega
theorem chE_in {l : List (Int × Int)} {b : List Int} {x : Int} (h : x ∈ chE l b) : 0 ≤ x ∧ x < (l.length : Int) := by
  unfold chE at h
  exact mem_allN.1 (fit_mem.1 (List.mem_filter.1 h).1).1
theorem flatE_len (c : Nat) (g : Int → List (List Int)) : ∀ s : List Int, (∀ x ∈ s, (g x).length ≤ c) → (s.flatMap g).length ≤ s.length * c
  | [], _ => by simp
  | x :: s, h => by
    have h1 := h x (by simp)
    have h2 := flatE_len c g s fun y hy => h y (by simp [hy])
    simp only [List.flatMap_cons, List.length_append, List.length_cons, Nat.add_mul]
    omega
theorem grE_len {l : List (Int × Int)} (h : l.length ≤ 64) : ∀ (f : Nat) (b : List Int), (grE l f b).length ≤ 64 ^ f
  | 0, b => by simp [grE]
  | f + 1, b => by
    have h1 := flatE_len (64 ^ f) (fun x => grE l f (b ++ [x])) (chE l b) fun x _ => grE_len h f _
    have h2 := Nat.mul_le_mul_right (64 ^ f) (chE_len h b)
    show ((chE l b).flatMap fun x => grE l f (b ++ [x])).length ≤ 64 ^ (f + 1)
    rw [Nat.pow_succ]
    omega
theorem grEP_len {l : List (Int × Int)} (h : l.length ≤ 64) (f : Nat) (hf : f ≤ 4) (b : List Int) (k : Nat) : (grEP l f b k).length ≤ 1073741824 := by
  have h1 := flatE_len (64 ^ f) (fun x => grE l f (b ++ [x])) ((chE l b).take k) fun x _ => grE_len h f _
  have h2 : ((chE l b).take k).length ≤ 64 := by rw [List.length_take]; have := chE_len h b; omega
  have h3 : 64 ^ f ≤ 64 ^ 4 := Nat.pow_le_pow_right (by decide) hf
  have h4 := Nat.mul_le_mul h2 h3
  unfold grEP
  omega
theorem im_grownE (n : Int) (l : List (Int × Int)) (h64 : l.length ≤ 64) : ∀ (f : Nat) (b : List Int) (k : Int), (b.length : Int) + f = k → k ≤ 5 → (∀ x ∈ b, 0 ≤ x ∧ x < (l.length : Int)) → Spec2 Try.prog 43 [.ifr 68 fun _ => ofBound [.cells [.ifr 54 fun _ => ofBound [.cells [.int fun _ => n, .sl (.pr .int .int) fun _ => l]], .int fun _ => k]], .ref 0, .sl .int fun _ => b] [some (.row 3 .int fun _ => b)] [.ref 1] [none, some (.rows 43 3 .int fun _ => grE l f b)]
  | 0, b, k, hk, h5, hx => by
    have hl : b.length ≤ 1048576 := by omega
    have e1 : decide ((b.length : Int) = k) = true := by rw [decide_eq_true_eq]; omega
    have s1 := im_isWholeE n k l b hl
    rw [e1] at s1
    have e2 : [b] = grE l 0 b := rfl
    generalize grE l 0 b = G at *
    refine fnG [.tmp 6] Try.func43 rfl (by decide) rfl (by kernel_rfl) (.inl rfl) (by kernel_rfl) (by simp) (by simp [Try.ntmps43]) ?_
    cbv
    ((first | refine call_iq (by kernel_rfl) rfl s1 (by cbv) ?_ | refine call_i (by kernel_rfl) rfl s1 (by cbv) ?_); cbv; ((try simp only [IfP_iff, and_true, true_and, decide_eq_true_eq, decide_eq_false_iff_not]); (try simp only [natc, getI_gi, at2_0, at2_1]); (try dsimp only [Ty.den]); (try simp only [natc] at *); (repeat' (first | apply And.intro | intro _))))
    ((try simp only [IfP_iff, and_true, true_and, decide_eq_true_eq, decide_eq_false_iff_not]); (try simp only [natc, getI_gi, at2_0, at2_1]); (try dsimp only [Ty.den]); (try simp only [natc] at *); (repeat' (first | apply And.intro | intro _)))
    all_goals (first
      | (exfalso; simp_all; done)
      | (refine EndG.plain [0, 1] ?_
         cbv
         (simp only [IfP_iff, EqU_iff, Obl_iff, and_true, true_and, inI_iff, decide_eq_true_eq, decide_eq_false_iff_not]; (try simp only [natc, getI_gi, at2_0, at2_1]); (try dsimp only [Ty.den]); try simp only [natc] at *)
         exact e2)
      | trace_state)
  | f + 1, b, k, hk, h5, hx => by
    have hl : b.length ≤ 1000 := by omega
    have e1 : decide ((b.length : Int) = k) = false := by rw [decide_eq_false_iff_not]; omega
    have s1 := im_isWholeE n k l b (by omega)
    rw [e1] at s1
    have s2 := im_choicesE n k l b (by omega) hl hx
    have hcl := chE_len h64 b
    have hin : ∀ x ∈ chE l b, 0 ≤ x ∧ x < (l.length : Int) := fun x h => chE_in h
    have ih := fun x (h : x ∈ chE l b) => im_grownE n l h64 f (b ++ [x]) k (by rw [List.length_append, List.length_cons, List.length_nil]; omega) h5 (fun y hy => by
      rcases List.mem_append.1 hy with h1 | h1
      · exact hx y h1
      · rw [List.mem_singleton.1 h1]; exact hin x h)
    have gl := grEP_len h64 f (by omega) b
    have gn := fun {i : Int} (h0 : 0 ≤ i) h1 => grEP_next (l := l) (f := f) (b := b) (k := i) h0 h1
    have g0 : grEP l f b 0 = [] := by simp [grEP]
    have gE : grEP l f b (chE l b).length = grE l (f + 1) b := by unfold grEP; rw [List.take_of_length_le (Nat.le_refl _)]; rfl
    have gfl := fun x => grE_len h64 f (b ++ [x])
    have h65 : 64 ^ f ≤ 64 ^ 4 := Nat.pow_le_pow_right (by decide) (by omega)
    rw [show ((fitL (allN l) (edgeX l) b).filter fun x => !(!incB (b ++ [x]))) = chE l b from rfl] at s2
    generalize grE l (f + 1) b = G at *
    generalize chE l b = C at *
    refine fnGE [3, 7] [.tmp 6] Try.func43 rfl (by decide) rfl (by kernel_rfl) (.inl rfl) (by kernel_rfl) (by simp) (by simp [Try.ntmps43]) ?_
    cbv
    ((first | refine call_iq (by kernel_rfl) rfl s1 (by cbv) ?_ | refine call_i (by kernel_rfl) rfl s1 (by cbv) ?_); cbv; ((try simp only [IfP_iff, and_true, true_and, decide_eq_true_eq, decide_eq_false_iff_not]); (try simp only [natc, getI_gi, at2_0, at2_1]); (try dsimp only [Ty.den]); (try simp only [natc] at *); (repeat' (first | apply And.intro | intro _))))
    ((try simp only [IfP_iff, and_true, true_and, decide_eq_true_eq, decide_eq_false_iff_not]); (try simp only [natc, getI_gi, at2_0, at2_1]); (try dsimp only [Ty.den]); (try simp only [natc] at *); (repeat' (first | apply And.intro | intro _)))
    all_goals (try (exfalso; simp_all; done))
    refine DrawL.seqZ [(0, [0])] ?_
    cbv
    ((first | refine call_iq (by kernel_rfl) rfl s2 (by cbv) ?_ | refine call_i (by kernel_rfl) rfl s2 (by cbv) ?_); cbv; ((try simp only [IfP_iff, and_true, true_and, decide_eq_true_eq, decide_eq_false_iff_not]); (try simp only [natc, getI_gi, at2_0, at2_1]); (try dsimp only [Ty.den]); (try simp only [natc] at *); (repeat' (first | apply And.intro | intro _))))
    refine loopXE [3, 7] (by kernel_rfl) (fun i : Int => 0 ≤ i ∧ i ≤ C.length) (fun i => [(21, .int fun _ => i), (7, .ref 1), (16, .junk), (9, .junk), (10, .junk)]) (fun i => [(1, some (.rows 43 3 .int fun _ => grEP l f b i.toNat))]) (fun i => (C.length - i).toNat) (· + 1) 0 (by omega) ?_ ?_
    · cbv
      (simp only [IfP_iff, EqU_iff, Obl_iff, and_true, true_and, inI_iff, decide_eq_true_eq, decide_eq_false_iff_not]; (try simp only [natc, getI_gi, at2_0, at2_1]); (try dsimp only [Ty.den]); try simp only [natc] at *)
      exact g0.symm
    · intro i hi
      have i0 : 0 ≤ i := hi.1
      have b1 : (grEP l f b i.toNat).length ≤ 1073741824 := gl _
      have b2 : i < (C.length : Int) → gi C i ∈ C := fun h => gi_mem i0 h
      have b3 := fun h => gn (i := i) i0 h
      have b4 : ¬ i < (C.length : Int) → grEP l f b i.toNat = G := fun h => by rw [show i.toNat = C.length by omega]; exact gE
      have b5 := gfl (gi C i)
      have sc := go_concat b [gi C i] (by omega) (by simp) (by simp)
      have sw := im_withE n k (gi C i) l b hl
      have sg := fun h => ih (gi C i) (b2 h)
      generalize grEP l f b i.toNat = X at *
      generalize grEP l f b (i + 1).toNat = Y at *
      generalize grE l f (b ++ [gi C i]) = Z at *
      clear ih gl gn gE gfl g0 s1 s2 hin hx
      cbv
      ((try simp only [IfP_iff, and_true, true_and, decide_eq_true_eq, decide_eq_false_iff_not]); (try simp only [natc, getI_gi, at2_0, at2_1]); (try dsimp only [Ty.den]); (try simp only [natc] at *); (repeat' (first | apply And.intro | intro _)))
      all_goals (try (refine EndG.plain [0, 1] ?_
                      cbv
                      (simp only [IfP_iff, EqU_iff, Obl_iff, and_true, true_and, inI_iff, decide_eq_true_eq, decide_eq_false_iff_not]; (try simp only [natc, getI_gi, at2_0, at2_1]); (try dsimp only [Ty.den]); try simp only [natc] at *)
                      exact b4 (by assumption)))
      all_goals (try (refine DrawL.seqZ [(3, [3])] ?_
                      cbv
                      ((first | refine call_q sc (by cbv) ?_ | refine call_pure sc (by cbv) ?_); cbv; ((try simp only [IfP_iff, and_true, true_and, decide_eq_true_eq, decide_eq_false_iff_not]); (try simp only [natc, getI_gi, at2_0, at2_1]); (try dsimp only [Ty.den]); (try simp only [natc] at *); (repeat' (first | apply And.intro | intro _))))))
      all_goals (try (((first | refine call_iq (by kernel_rfl) rfl sw (by cbv) ?_ | refine call_i (by kernel_rfl) rfl sw (by cbv) ?_); cbv; ((try simp only [IfP_iff, and_true, true_and, decide_eq_true_eq, decide_eq_false_iff_not]); (try simp only [natc, getI_gi, at2_0, at2_1]); (try dsimp only [Ty.den]); (try simp only [natc] at *); (repeat' (first | apply And.intro | intro _))))))
      all_goals (try (refine call_own 5 (sg (by assumption)) (by cbv) (by exact ⟨.inl rfl, .inr ⟨rfl, rfl⟩, .inl rfl, trivial⟩) ?_
                      cbv))
      all_goals (try ((try simp only [IfP_iff, and_true, true_and, decide_eq_true_eq, decide_eq_false_iff_not]); (try simp only [natc, getI_gi, at2_0, at2_1]); (try dsimp only [Ty.den]); (try simp only [natc] at *); (repeat' (first | apply And.intro | intro _))))
      all_goals (first
        | (refine RenL.mk ⟨[0, 1, 2], ?_⟩
           cbv
           (simp only [IfP_iff, EqU_iff, Obl_iff, and_true, true_and, inI_iff, decide_eq_true_eq, decide_eq_false_iff_not]; (try simp only [natc, getI_gi, at2_0, at2_1]); (try dsimp only [Ty.den]); try simp only [natc] at *)
           exact (b3 (by assumption)).symm)
        | ((try (simp only [IfP_iff, EqU_iff, Obl_iff, and_true, true_and, inI_iff, decide_eq_true_eq, decide_eq_false_iff_not]; (try simp only [natc, getI_gi, at2_0, at2_1]); (try dsimp only [Ty.den]); try simp only [natc] at *))
           (repeat' (first | apply And.intro | intro _)) <;> first | omega | (exact (b3 (by assumption)).symm) | (have := Nat.le_trans b5 h65; omega) | trace_state)
        | trace_state)
end Go.Proofs.Ytjkmgdhndbdhoaa.M
/- Perfect matchings: what the specification's way of making them says, pure. -/
namespace Go.Proofs.Ytjkmgdhndbdhoaa.M
open Go.RowKit Abs
set_option linter.unusedSimpArgs false
set_option linter.unusedVariables false
set_option maxRecDepth 100000
set_option maxHeartbeats 4000000
theorem fit_last {l : List (Int × Int)} {b : List Int} {x : Int} (h : matB l b = true) : matB l (b ++ [x]) = (hasB (fitL (allN l) (edgeX l) b) x && incB (b ++ [x])) := by
  unfold matB fitB at h ⊢
  rw [Bool.and_eq_true] at h
  have e : allI (b ++ [x]).length (fitOk (allN l) (edgeX l) (b ++ [x])) = hasB (fitL (allN l) (edgeX l) b) x := by
    have hl : (b ++ [x]).length = b.length + 1 := by simp
    have hlast : fitOk (allN l) (edgeX l) (b ++ [x]) b.length = hasB (fitL (allN l) (edgeX l) b) x := by
      unfold fitOk
      rw [show ((b.length : Int)).toNat = b.length by omega, List.take_left]
      congr 1
      unfold gi
      rw [show ((b.length : Int)).toNat = b.length by omega, List.getD_eq_getElem?_getD, List.getElem?_append_right (Nat.le_refl _), Nat.sub_self]
      rfl
    have hpre : ∀ k : Int, 0 ≤ k → k < b.length → fitOk (allN l) (edgeX l) (b ++ [x]) k = fitOk (allN l) (edgeX l) b k := fun k k0 k1 => by
      unfold fitOk
      rw [List.take_append_of_le_length (by omega)]
      congr 1
      unfold gi
      rw [List.getD_eq_getElem?_getD, List.getD_eq_getElem?_getD, List.getElem?_append_left (by omega)]
    cases hx : hasB (fitL (allN l) (edgeX l) b) x with
    | true =>
      refine allI_good fun k k0 k1 => ?_
      by_cases hk : k < b.length
      · rw [hpre k k0 hk]
        exact allI_get h.1 k0 hk
      · rw [show k = b.length by omega, hlast, hx]
    | false => exact allI_bad (k := (b.length : Int)) (by omega) (by omega) (by rw [hlast, hx])
  rw [e]
def exP (l : List (Int × Int)) (f : Nat) (b : List Int) (j : Int) : List (List Int) := (pref (fun e => matB l (b ++ [e])) j.toNat).flatMap fun x => grE l f (b ++ [x])
theorem exP_next {l : List (Int × Int)} {f : Nat} {b : List Int} {j : Int} (h0 : 0 ≤ j) : exP l f b (j + 1) = exP l f b j ++ if matB l (b ++ [j]) = true then grE l f (b ++ [j]) else [] := by
  unfold exP
  rw [pref_next h0, List.flatMap_append]
  split <;> simp
theorem chE_spec {l : List (Int × Int)} {b : List Int} (h : matB l b = true) : pref (fun e => matB l (b ++ [e])) l.length = chE l b := by
  have e : pref (fun e => matB l (b ++ [e])) l.length = (allN l).filter fun e => matB l (b ++ [e]) := by
    unfold allN pref
    rw [List.filter_filter]
    simp
  rw [e]
  unfold chE fitL
  rw [List.filter_filter]
  refine List.filter_congr fun x hx => ?_
  rw [fit_last h, Bool.not_not, Bool.and_comm]
  congr 1
  rw [Bool.eq_iff_iff, hasB_iff]
  unfold fitL
  rw [List.mem_filter]
  exact ⟨fun c => c.2, fun c => ⟨hx, c⟩⟩
theorem exP_all {l : List (Int × Int)} {f : Nat} {b : List Int} (h : matB l b = true) : exP l f b l.length = grE l (f + 1) b := by
  unfold exP
  rw [show ((l.length : Int)).toNat = l.length by omega, chE_spec h]
  rfl
theorem exP_from {l : List (Int × Int)} {f : Nat} {b : List Int} {j : Int} (h : ∀ e : Int, 0 ≤ e → e < j → matB l (b ++ [e]) = false) : exP l f b j = [] := by
  unfold exP
  have : pref (fun e => matB l (b ++ [e])) j.toNat = [] := by
    cases hp : pref (fun e => matB l (b ++ [e])) j.toNat with
    | nil => rfl
    | cons x r =>
      have hx : x ∈ pref (fun e => matB l (b ++ [e])) j.toNat := by rw [hp]; simp
      have := pref_mem.1 hx
      have h2 := h x this.1 (by omega)
      have h3 : matB l (b ++ [x]) = true := this.2.2
      rw [h2] at h3
      cases h3
  rw [this]
  rfl
theorem exP_len {l : List (Int × Int)} (h : l.length ≤ 64) (f : Nat) (hf : f ≤ 4) (b : List Int) {j : Int} (j0 : 0 ≤ j) (j1 : j ≤ 64) : (exP l f b j).length ≤ 1073741824 := by
  have h1 := flatE_len (64 ^ f) (fun x => grE l f (b ++ [x])) (pref (fun e => matB l (b ++ [e])) j.toNat) fun x _ => grE_len h f _
  have h2 := pref_len (p := fun e => matB l (b ++ [e])) j0
  have h3 : 64 ^ f ≤ 64 ^ 4 := Nat.pow_le_pow_right (by decide) hf
  have h4 := Nat.mul_le_mul (show (pref (fun e => matB l (b ++ [e])) j.toNat).length ≤ 64 by omega) h3
  unfold exP
  omega
theorem mat_last {l : List (Int × Int)} {b : List Int} {e : Int} (h : matB l (b ++ [e]) = true) (hb : 0 < (b.length : Int)) : gi b ((b.length : Int) - 1) < e := by
  unfold matB fitB at h
  rw [Bool.and_eq_true] at h
  have := inc_lt h.2 (a := (b.length : Int) - 1) (by omega) (d := 0) (by rw [List.length_append, List.length_cons, List.length_nil]; omega)
  rw [show (b.length : Int) - 1 + ((0 : Nat) : Int) + 1 = b.length by omega] at this
  unfold gi at this ⊢
  rw [List.getD_eq_getElem?_getD, List.getD_eq_getElem?_getD, List.getElem?_append_left (by omega), List.getElem?_append_right (by omega), show ((b.length : Int)).toNat - b.length = 0 by omega] at this
  rw [List.getD_eq_getElem?_getD]
  exact this
end Go.Proofs.Ytjkmgdhndbdhoaa.M
/- PerfectMatchings: the program. -/
namespace Go.Proofs.Ytjkmgdhndbdhoaa.M
open Go.RowKit Abs
set_option linter.unusedSimpArgs false
set_option linter.unusedVariables false
set_option maxRecDepth 100000
set_option maxHeartbeats 4000000
theorem im_fitListsE (n k : Int) (l : List (Int × Int)) (h64 : l.length ≤ 64) (k0 : 0 ≤ k) (hk : k ≤ 5) : Spec2 Try.prog 30 [.ifr 54 fun _ => ofBound [.cells [.int fun _ => n, .sl (.pr .int .int) fun _ => l]], .int fun _ => k] [] [.ref 0] [some (.rows 43 3 .int fun _ => grE l k.toNat [])] := by
  have sg := im_grownE n l h64 k.toNat [] k (by simp only [List.length_nil]; omega) hk (by simp)
  generalize grE l k.toNat [] = G at *
  refine fnS [2] [4] Try.func30 rfl (by decide) rfl (by decide) (by kernel_rfl) rfl (by simp [Try.ntmps30]) ?_
  cbv
  refine call_own 0 sg (by cbv) (by exact ⟨.inl rfl, .inr ⟨rfl, rfl⟩, .inl rfl, trivial⟩) ?_
  cbv
  all_goals (try (simp only [IfP_iff, EqU_iff, Obl_iff, and_true, true_and, inI_iff, decide_eq_true_eq, decide_eq_false_iff_not]; (try simp only [natc, getI_gi, at2_0, at2_1]); (try dsimp only [Ty.den]); try simp only [natc] at *))
def pmR (n : Int) (l : List (Int × Int)) : List (List Int) := if graphOk n l = true then grE l ((n + 1).tdiv 2).toNat [] else []
theorem im_perfect (n : Int) (l : List (Int × Int)) (hl : l.length ≤ 1048576) : Spec2 Try.prog 9 [.agg (.pr .int (.sl (.pr .int .int))) fun _ => (n, l)] [] [.ref 0, .bool fun _ => graphOk n l] [some (.rows 43 3 .int fun _ => pmR n l)] := by
  have hq := im_graph n l hl
  have h2 : pmR n l = _ := rfl
  conv at h2 => rhs; unfold pmR
  cases hb : graphOk n l with
  | false =>
    rw [hb, if_neg (by decide)] at h2
    rw [hb] at hq
    rw [h2]
    refine fnS [1] [2, 3] Try.func9 rfl (by decide) rfl (by decide) (by kernel_rfl) rfl (by simp [Try.ntmps9]) ?_
    cbv
    ((try simp only [IfP_iff, and_true, true_and, decide_eq_true_eq, decide_eq_false_iff_not]); (try simp only [natc, getI_gi, at2_0, at2_1]); (try dsimp only [Ty.den]); (try simp only [natc] at *); (repeat' (first | apply And.intro | intro _)))
    all_goals (repeat' (first | ((first | refine call_q hq (by cbv) ?_ | refine call_pure hq (by cbv) ?_); cbv; ((try simp only [IfP_iff, and_true, true_and, decide_eq_true_eq, decide_eq_false_iff_not]); (try simp only [natc, getI_gi, at2_0, at2_1]); (try dsimp only [Ty.den]); (try simp only [natc] at *); (repeat' (first | apply And.intro | intro _))))))
    all_goals (try (exact absurd (by assumption : (!false) = false) (by decide)))
    all_goals (try (simp only [IfP_iff, EqU_iff, Obl_iff, and_true, true_and, inI_iff, decide_eq_true_eq, decide_eq_false_iff_not]; (try simp only [natc, getI_gi, at2_0, at2_1]); (try dsimp only [Ty.den]); try simp only [natc] at *))
    all_goals (first | exact ⟨rfl, rfl⟩ | rfl | trace_state)
  | true =>
    rw [hb, if_pos rfl] at h2
    rw [hb] at hq
    rw [h2]
    have hn := (graph_edges hb).1
    have e : (n + 1).tdiv 2 = (n + 1) / 2 := Int.tdiv_eq_ediv_of_nonneg (by omega)
    have s1 := im_fitListsE n ((n + 1).tdiv 2) l (graph_len hb) (by omega) (by omega)
    have i1 : inI (n + 1) := inI_iff.2 (by omega)
    have i2 : inI ((n + 1).tdiv 2) := inI_iff.2 (by omega)
    generalize grE l ((n + 1).tdiv 2).toNat [] = G at *
    refine fnS [1] [2, 3] Try.func9 rfl (by decide) rfl (by decide) (by kernel_rfl) rfl (by simp [Try.ntmps9]) ?_
    cbv
    ((try simp only [IfP_iff, and_true, true_and, decide_eq_true_eq, decide_eq_false_iff_not]); (try simp only [natc, getI_gi, at2_0, at2_1]); (try dsimp only [Ty.den]); (try simp only [natc] at *); (repeat' (first | apply And.intro | intro _)))
    all_goals (repeat' (first | ((first | refine call_q hq (by cbv) ?_ | refine call_pure hq (by cbv) ?_); cbv; ((try simp only [IfP_iff, and_true, true_and, decide_eq_true_eq, decide_eq_false_iff_not]); (try simp only [natc, getI_gi, at2_0, at2_1]); (try dsimp only [Ty.den]); (try simp only [natc] at *); (repeat' (first | apply And.intro | intro _))))))
    all_goals (try (exact absurd (by assumption : (!true) = true) (by decide)))
    all_goals (repeat' (first | ((first | refine call_q s1 (by cbv) ?_ | refine call_pure s1 (by cbv) ?_); cbv; ((try simp only [IfP_iff, and_true, true_and, decide_eq_true_eq, decide_eq_false_iff_not]); (try simp only [natc, getI_gi, at2_0, at2_1]); (try dsimp only [Ty.den]); (try simp only [natc] at *); (repeat' (first | apply And.intro | intro _))))))
    all_goals (try (simp only [IfP_iff, EqU_iff, Obl_iff, and_true, true_and, inI_iff, decide_eq_true_eq, decide_eq_false_iff_not]; (try simp only [natc, getI_gi, at2_0, at2_1]); (try dsimp only [Ty.den]); try simp only [natc] at *))
    all_goals ((repeat' (first | apply And.intro | intro _)) <;> first | exact i1 | exact i2 | exact inI_iff.1 i1 | exact inI_iff.1 i2 | omega | rfl | trace_state)
end Go.Proofs.Ytjkmgdhndbdhoaa.M
/- Perfect matchings: no matching has more edges than half of the nodes. -/
namespace Go.Proofs.Ytjkmgdhndbdhoaa.M
open Go.RowKit Abs
set_option linter.unusedSimpArgs false
set_option linter.unusedVariables false
set_option maxRecDepth 100000
set_option maxHeartbeats 4000000
theorem grE_mem {l : List (Int × Int)} : ∀ (f : Nat) (b s : List Int), matB l b = true → s ∈ grE l f b → matB l s = true ∧ s.length = b.length + f
  | 0, b, s, h, hs => by
    rw [List.mem_singleton.1 hs]
    exact ⟨h, rfl⟩
  | f + 1, b, s, h, hs => by
    obtain ⟨x, hx, h2⟩ := List.mem_flatMap.1 hs
    rw [← chE_spec h] at hx
    have := grE_mem f (b ++ [x]) s (pref_mem.1 hx).2.2 h2
    rw [List.length_append, List.length_cons, List.length_nil] at this
    exact ⟨this.1, by omega⟩
theorem ends_nd {n : Int} {l : List (Int × Int)} {s : List Int} (hg : graphOk n l = true) (h : matB l s = true) : ∀ k : Nat, k ≤ s.length → (endsL l (s.take k)).Nodup ∧ ∀ v ∈ endsL l (s.take k), 0 ≤ v ∧ v < n
  | 0, _ => by simp [endsL]
  | k + 1, hk => by
    obtain ⟨i1, i2⟩ := ends_nd hg h k (by omega)
    rw [← mat_spec] at h
    have hs := allI_get h (k := (k : Int)) (by omega) (by omega)
    unfold spM inN at hs
    simp only [Bool.and_eq_true, decide_eq_true_eq, Bool.not_eq_true'] at hs
    have hx : getI (.pr .int .int) l (gi s k) ∈ l := List.mem_of_getElem? (getI_get (t := (.pr .int .int)) hs.1.1.1 (by omega))
    have he := (graph_edges hg).2.1 _ hx
    have hm := hs.2
    unfold metB at hm
    rw [Bool.or_eq_false_iff, show ((k : Int)).toNat = k by omega] at hm
    have n1 : (getI (.pr .int .int) l (gi s k)).1 ∉ endsL l (s.take k) := fun c => by rw [hasB_iff.2 c] at hm; exact absurd hm.1 (by decide)
    have n2 : (getI (.pr .int .int) l (gi s k)).2 ∉ endsL l (s.take k) := fun c => by rw [hasB_iff.2 c] at hm; exact absurd hm.2 (by decide)
    have hn := ends_next (l := l) (s := s) (k := (k : Int)) (by omega) (by omega)
    rw [show ((k : Int) + 1).toNat = k + 1 by omega, show ((k : Int)).toNat = k by omega] at hn
    rw [hn]
    generalize getI (.pr .int .int) l (gi s k) = e at *
    refine ⟨?_, fun v hv => ?_⟩
    · rw [List.append_assoc, List.nodup_append]
      refine ⟨i1, ?_, fun a ha c hc e1 => ?_⟩
      · simp only [List.cons_append, List.nil_append, List.nodup_cons, List.mem_singleton, List.not_mem_nil, not_false_iff, List.nodup_nil, and_true]
        intro c
        have h1 := he.2.1
        rw [c] at h1
        exact absurd h1 (Int.lt_irrefl _)
      · subst e1
        simp only [List.cons_append, List.nil_append, List.mem_cons, List.not_mem_nil, or_false] at hc
        rcases hc with hc | hc
        · rw [hc] at ha; exact n1 ha
        · rw [hc] at ha; exact n2 ha
    · simp only [List.mem_append, List.mem_singleton] at hv
      rcases hv with (hv | hv) | hv
      · exact i2 v hv
      · rw [hv]; exact ⟨he.1, Int.lt_trans he.2.1 he.2.2⟩
      · rw [hv]; exact ⟨Int.le_trans he.1 (Int.le_of_lt he.2.1), he.2.2⟩
theorem mat_size {n : Int} {l : List (Int × Int)} {s : List Int} (hg : graphOk n l = true) (h : matB l s = true) : 2 * (s.length : Int) ≤ n := by
  have hn := (graph_edges hg).1
  obtain ⟨i1, i2⟩ := ends_nd hg h s.length (Nat.le_refl _)
  rw [List.take_length] at i1 i2
  have hs : endsL l s ⊆ (List.range n.toNat).map Int.ofNat := fun v hv => by
    have := i2 v hv
    exact List.mem_map.2 ⟨v.toNat, List.mem_range.2 (by omega), by show ((v.toNat : Nat) : Int) = v; omega⟩
  have h2 := List.Nodup.length_le_of_subset i1 hs
  rw [ends_len, List.length_map, List.length_range] at h2
  omega
theorem grE_odd {n : Int} {l : List (Int × Int)} (hg : graphOk n l = true) (f : Nat) (hf : n < 2 * (f : Int)) : grE l f [] = [] := by
  cases h : grE l f [] with
  | nil => rfl
  | cons s r =>
    have := grE_mem f [] s (by rfl) (by rw [h]; simp)
    have h2 := mat_size hg this.1
    rw [this.2] at h2
    simp at h2
    omega
end Go.Proofs.Ytjkmgdhndbdhoaa.M
/- Perfect matchings: the specification's walk, l8Extend. -/
namespace Go.Proofs.Ytjkmgdhndbdhoaa.M
open Go.RowKit Abs
set_option linter.unusedSimpArgs false
set_option linter.unusedVariables false
set_option maxRecDepth 100000
set_option maxHeartbeats 4000000
theorem sp_ownW (s : List Int) (hs : s.length ≤ 1048576) : Spec2 Try.prog 45 [.sl .int fun _ => s] [] [.ref 0] [some (.row 3 .int fun _ => s)] := by
  refine fnS [0] [2] Try.func45 rfl (by decide) rfl (by decide) (by kernel_rfl) rfl (by simp [Try.ntmps45]) ?_
  cbv
  (simp only [IfP_iff, EqU_iff, Obl_iff, and_true, true_and, inI_iff, decide_eq_true_eq, decide_eq_false_iff_not]; (try simp only [natc, getI_gi, at2_0, at2_1]); (try dsimp only [Ty.den]); try simp only [natc] at *)
  all_goals ((repeat' (first | apply And.intro | intro _)) <;> first | omega | (simp only [List.length_append, List.length_cons, List.length_nil]; omega) | grind)
theorem mat_in {l : List (Int × Int)} {b : List Int} (h : matB l b = true) : ∀ x ∈ b, 0 ≤ x ∧ x < (l.length : Int) := fun x hx => by
  unfold matB fitB at h
  rw [Bool.and_eq_true] at h
  obtain ⟨j, j0, j1, e⟩ := mem_at hx
  have := allI_get h.1 j0 j1
  unfold fitOk at this
  have h2 := (fit_mem.1 (hasB_iff.1 this)).1
  have e : gi b j = x := e
  rw [e] at h2
  exact mem_allN.1 h2
theorem sp_extend (n : Int) (l : List (Int × Int)) (hl : l.length ≤ 1048576) (hg : graphOk n l = true) (h64 : l.length ≤ 64) : ∀ (f : Nat) (b : List Int) (k : Int), (b.length : Int) + f = k → k ≤ 5 → matB l b = true → Spec2 Try.prog 34 [.agg (.pr .int (.sl (.pr .int .int))) fun _ => (n, l), .ref 0, .int fun _ => k] [some (.row 3 .int fun _ => b)] [.ref 1] [none, some (.rows 43 3 .int fun _ => grE l f b)]
  | 0, b, k, hk, h5, hb => by
    have e2 : [b] = grE l 0 b := rfl
    have e1 : (b.length : Int) = k := by omega
    generalize grE l 0 b = G at *
    refine fnG [.tmp 6] Try.func34 rfl (by decide) rfl (by kernel_rfl) (.inl rfl) (by kernel_rfl) (by simp) (by simp [Try.ntmps34]) ?_
    cbv
    ((try simp only [IfP_iff, and_true, true_and, decide_eq_true_eq, decide_eq_false_iff_not]); (try simp only [natc, getI_gi, at2_0, at2_1]); (try dsimp only [Ty.den]); (try simp only [natc] at *); (repeat' (first | apply And.intro | intro _)))
    all_goals (try (exact absurd e1 (by assumption)))
    all_goals (first
      | (refine EndG.plain [0, 2] ?_
         cbv
         (simp only [IfP_iff, EqU_iff, Obl_iff, and_true, true_and, inI_iff, decide_eq_true_eq, decide_eq_false_iff_not]; (try simp only [natc, getI_gi, at2_0, at2_1]); (try dsimp only [Ty.den]); try simp only [natc] at *)
         exact e2)
      | (trace_state; fail))
  | f + 1, b, k, hk, h5, hb => by
    have e1 : ¬ (b.length : Int) = k := by omega
    have hbl : b.length ≤ 1048576 := by omega
    have so := sp_ownW b hbl
    have gE : exP l f b l.length = grE l (f + 1) b := exP_all hb
    have ih := fun (x : Int) (hx : matB l (b ++ [x]) = true) => sp_extend n l hl hg h64 f (b ++ [x]) k (by rw [List.length_append, List.length_cons, List.length_nil]; omega) h5 hx
    have hln : ∀ j : Int, 0 ≤ j → j ≤ l.length → (exP l f b j).length ≤ 1073741824 := fun j a c => exP_len h64 f (by omega) b a (by omega)
    have hnx : ∀ j : Int, 0 ≤ j → exP l f b (j + 1) = exP l f b j ++ if matB l (b ++ [j]) = true then grE l f (b ++ [j]) else [] := fun j a => exP_next a
    have g0 : [] = exP l f b 0 := rfl
    have g1 : 0 < (b.length : Int) → [] = exP l f b (gi b ((b.length : Int) - 1) + 1) := fun h => (exP_from fun e e0 e1 => by
      cases hm : matB l (b ++ [e]) with
      | false => rfl
      | true =>
        have := mat_last hm h
        omega).symm
    have g2 : 0 < (b.length : Int) → 0 ≤ gi b ((b.length : Int) - 1) ∧ gi b ((b.length : Int) - 1) < l.length := fun h => mat_in hb _ (gi_mem (by omega) (by omega))
    have gfl := fun x => grE_len h64 f (b ++ [x])
    have h65 : 64 ^ f ≤ 64 ^ 4 := Nat.pow_le_pow_right (by decide) (by omega)
    generalize grE l (f + 1) b = G at *
    refine fnG [.tmp 6] Try.func34 rfl (by decide) rfl (by kernel_rfl) (.inl rfl) (by kernel_rfl) (by simp) (by simp [Try.ntmps34]) ?_
    cbv
    ((try simp only [IfP_iff, and_true, true_and, decide_eq_true_eq, decide_eq_false_iff_not]); (try simp only [natc, getI_gi, at2_0, at2_1]); (try dsimp only [Ty.den]); (try simp only [natc] at *); (repeat' (first | apply And.intro | intro _)))
    all_goals (try (exact absurd (by assumption) e1))
    all_goals (try (show Obl _; (simp only [IfP_iff, EqU_iff, Obl_iff, and_true, true_and, inI_iff, decide_eq_true_eq, decide_eq_false_iff_not]; (try simp only [natc, getI_gi, at2_0, at2_1]); (try dsimp only [Ty.den]); try simp only [natc] at *); ((repeat' (first | apply And.intro | intro _)) <;> first | omega | (have := g2 (by assumption); omega))))
    · have p1 := g1 (by assumption)
      have p2 := g2 (by assumption)
      clear g1 g2
      refine loopX (by kernel_rfl) (fun j : Int => 0 ≤ j ∧ j ≤ l.length) (fun j => [(9, .int fun _ => j), (8, .ref 2), (17, .junk)]) (fun j => [(2, some (.rows 43 3 .int fun _ => exP l f b j))]) (fun j => (l.length - j).toNat) (· + 1) (gi b ((b.length : Int) - 1) + 1) (by omega) ?_ ?_
      · cbv
        (simp only [IfP_iff, EqU_iff, Obl_iff, and_true, true_and, inI_iff, decide_eq_true_eq, decide_eq_false_iff_not]; (try simp only [natc, getI_gi, at2_0, at2_1]); (try dsimp only [Ty.den]); try simp only [natc] at *)
        exact p1
      · intro j hj
        have j0 : 0 ≤ j := hj.1
        have b1 : (exP l f b j).length ≤ 1073741824 := hln j j0 hj.2
        have b2 := hnx j j0
        have b3 : ¬ j < (l.length : Int) → exP l f b j = G := fun h => by rw [← gE, show j = (l.length : Int) by omega]
        have sg := ih j
        have b5 := gfl j
        have c1 : matB l (b ++ [j]) = true → exP l f b j ++ grE l f (b ++ [j]) = exP l f b (j + 1) := fun h => by rw [b2, if_pos h]
        have c2 : matB l (b ++ [j]) = false → exP l f b j = exP l f b (j + 1) := fun h => by rw [b2, if_neg (by rw [h]; decide), List.append_nil]
        have sm := sp_matches n l (b ++ [j]) hl (by rw [List.length_append, List.length_cons, List.length_nil]; omega) hg
        have b6 := Nat.le_trans b5 h65
        generalize matB l (b ++ [j]) = m at *
        generalize exP l f b j = X at *
        generalize exP l f b (j + 1) = Y at *
        generalize grE l f (b ++ [j]) = Z at *
        clear ih hln hnx g0 gE gfl b2 b5
        cbv
        ((try simp only [IfP_iff, and_true, true_and, decide_eq_true_eq, decide_eq_false_iff_not]); (try simp only [natc, getI_gi, at2_0, at2_1]); (try dsimp only [Ty.den]); (try simp only [natc] at *); (repeat' (first | apply And.intro | intro _)))
        all_goals (repeat' (first | ((first | refine call_q so (by cbv) ?_ | refine call_pure so (by cbv) ?_); cbv; ((try simp only [IfP_iff, and_true, true_and, decide_eq_true_eq, decide_eq_false_iff_not]); (try simp only [natc, getI_gi, at2_0, at2_1]); (try dsimp only [Ty.den]); (try simp only [natc] at *); (repeat' (first | apply And.intro | intro _)))) | ((first | refine call_q sm (by cbv) ?_ | refine call_pure sm (by cbv) ?_); cbv; ((try simp only [IfP_iff, and_true, true_and, decide_eq_true_eq, decide_eq_false_iff_not]); (try simp only [natc, getI_gi, at2_0, at2_1]); (try dsimp only [Ty.den]); (try simp only [natc] at *); (repeat' (first | apply And.intro | intro _))))))
        all_goals (try ((try simp only [IfP_iff, and_true, true_and, decide_eq_true_eq, decide_eq_false_iff_not]); (try simp only [natc, getI_gi, at2_0, at2_1]); (try dsimp only [Ty.den]); (try simp only [natc] at *); (repeat' (first | apply And.intro | intro _))))
        all_goals (try (refine call_own 3 (sg (by assumption)) (by cbv) (by exact ⟨.inl rfl, .inr ⟨rfl, rfl⟩, .inl rfl, trivial⟩) ?_
                        cbv))
        all_goals (try ((try simp only [IfP_iff, and_true, true_and, decide_eq_true_eq, decide_eq_false_iff_not]); (try simp only [natc, getI_gi, at2_0, at2_1]); (try dsimp only [Ty.den]); (try simp only [natc] at *); (repeat' (first | apply And.intro | intro _))))
        all_goals (try (show Obl _; (simp only [IfP_iff, EqU_iff, Obl_iff, and_true, true_and, inI_iff, decide_eq_true_eq, decide_eq_false_iff_not]; (try simp only [natc, getI_gi, at2_0, at2_1]); (try dsimp only [Ty.den]); try simp only [natc] at *); ((repeat' (first | apply And.intro | intro _)) <;> first | omega | (simp only [List.length_cons, List.length_nil]; omega))))
        all_goals (first
          | (refine RenL.mk ⟨[0, 1, 2], ?_⟩
             cbv
             (simp only [IfP_iff, EqU_iff, Obl_iff, and_true, true_and, inI_iff, decide_eq_true_eq, decide_eq_false_iff_not]; (try simp only [natc, getI_gi, at2_0, at2_1]); (try dsimp only [Ty.den]); try simp only [natc] at *)
             first | exact c1 (by assumption) | exact c2 (by assumption))
          | (refine EndG.plain [0, 2] ?_
             cbv
             (simp only [IfP_iff, EqU_iff, Obl_iff, and_true, true_and, inI_iff, decide_eq_true_eq, decide_eq_false_iff_not]; (try simp only [natc, getI_gi, at2_0, at2_1]); (try dsimp only [Ty.den]); try simp only [natc] at *)
             exact b3 (by assumption))
          | (trace_state; fail))
    · refine loopX (by kernel_rfl) (fun j : Int => 0 ≤ j ∧ j ≤ l.length) (fun j => [(9, .int fun _ => j), (8, .ref 2), (17, .junk)]) (fun j => [(2, some (.rows 43 3 .int fun _ => exP l f b j))]) (fun j => (l.length - j).toNat) (· + 1) 0 (by omega) ?_ ?_
      · cbv
        (simp only [IfP_iff, EqU_iff, Obl_iff, and_true, true_and, inI_iff, decide_eq_true_eq, decide_eq_false_iff_not]; (try simp only [natc, getI_gi, at2_0, at2_1]); (try dsimp only [Ty.den]); try simp only [natc] at *)
        exact g0
      · intro j hj
        have j0 : 0 ≤ j := hj.1
        have b1 : (exP l f b j).length ≤ 1073741824 := hln j j0 hj.2
        have b2 := hnx j j0
        have b3 : ¬ j < (l.length : Int) → exP l f b j = G := fun h => by rw [← gE, show j = (l.length : Int) by omega]
        have sg := ih j
        have b5 := gfl j
        have c1 : matB l (b ++ [j]) = true → exP l f b j ++ grE l f (b ++ [j]) = exP l f b (j + 1) := fun h => by rw [b2, if_pos h]
        have c2 : matB l (b ++ [j]) = false → exP l f b j = exP l f b (j + 1) := fun h => by rw [b2, if_neg (by rw [h]; decide), List.append_nil]
        have sm := sp_matches n l (b ++ [j]) hl (by rw [List.length_append, List.length_cons, List.length_nil]; omega) hg
        have b6 := Nat.le_trans b5 h65
        generalize matB l (b ++ [j]) = m at *
        generalize exP l f b j = X at *
        generalize exP l f b (j + 1) = Y at *
        generalize grE l f (b ++ [j]) = Z at *
        clear ih hln hnx g0 gE gfl b2 b5
        cbv
        ((try simp only [IfP_iff, and_true, true_and, decide_eq_true_eq, decide_eq_false_iff_not]); (try simp only [natc, getI_gi, at2_0, at2_1]); (try dsimp only [Ty.den]); (try simp only [natc] at *); (repeat' (first | apply And.intro | intro _)))
        all_goals (repeat' (first | ((first | refine call_q so (by cbv) ?_ | refine call_pure so (by cbv) ?_); cbv; ((try simp only [IfP_iff, and_true, true_and, decide_eq_true_eq, decide_eq_false_iff_not]); (try simp only [natc, getI_gi, at2_0, at2_1]); (try dsimp only [Ty.den]); (try simp only [natc] at *); (repeat' (first | apply And.intro | intro _)))) | ((first | refine call_q sm (by cbv) ?_ | refine call_pure sm (by cbv) ?_); cbv; ((try simp only [IfP_iff, and_true, true_and, decide_eq_true_eq, decide_eq_false_iff_not]); (try simp only [natc, getI_gi, at2_0, at2_1]); (try dsimp only [Ty.den]); (try simp only [natc] at *); (repeat' (first | apply And.intro | intro _))))))
        all_goals (try ((try simp only [IfP_iff, and_true, true_and, decide_eq_true_eq, decide_eq_false_iff_not]); (try simp only [natc, getI_gi, at2_0, at2_1]); (try dsimp only [Ty.den]); (try simp only [natc] at *); (repeat' (first | apply And.intro | intro _))))
        all_goals (try (refine call_own 3 (sg (by assumption)) (by cbv) (by exact ⟨.inl rfl, .inr ⟨rfl, rfl⟩, .inl rfl, trivial⟩) ?_
                        cbv))
        all_goals (try ((try simp only [IfP_iff, and_true, true_and, decide_eq_true_eq, decide_eq_false_iff_not]); (try simp only [natc, getI_gi, at2_0, at2_1]); (try dsimp only [Ty.den]); (try simp only [natc] at *); (repeat' (first | apply And.intro | intro _))))
        all_goals (try (show Obl _; (simp only [IfP_iff, EqU_iff, Obl_iff, and_true, true_and, inI_iff, decide_eq_true_eq, decide_eq_false_iff_not]; (try simp only [natc, getI_gi, at2_0, at2_1]); (try dsimp only [Ty.den]); try simp only [natc] at *); ((repeat' (first | apply And.intro | intro _)) <;> first | omega | (simp only [List.length_cons, List.length_nil]; omega))))
        all_goals (first
          | (refine RenL.mk ⟨[0, 1, 2], ?_⟩
             cbv
             (simp only [IfP_iff, EqU_iff, Obl_iff, and_true, true_and, inI_iff, decide_eq_true_eq, decide_eq_false_iff_not]; (try simp only [natc, getI_gi, at2_0, at2_1]); (try dsimp only [Ty.den]); try simp only [natc] at *)
             first | exact c1 (by assumption) | exact c2 (by assumption))
          | (refine EndG.plain [0, 2] ?_
             cbv
             (simp only [IfP_iff, EqU_iff, Obl_iff, and_true, true_and, inI_iff, decide_eq_true_eq, decide_eq_false_iff_not]; (try simp only [natc, getI_gi, at2_0, at2_1]); (try dsimp only [Ty.den]); try simp only [natc] at *)
             exact b3 (by assumption))
          | (trace_state; fail))
end Go.Proofs.Ytjkmgdhndbdhoaa.M
/- PerfectMatchings: the specification; what the law asks of the result. -/
namespace Go.Proofs.Ytjkmgdhndbdhoaa.M
open Go.RowKit Abs
set_option linter.unusedSimpArgs false
set_option linter.unusedVariables false
set_option maxRecDepth 100000
set_option maxHeartbeats 4000000
def prs28 : List (Int × Int) := (List.range 8).flatMap fun (b : Nat) => (List.range b).map fun (a : Nat) => ((a : Int), (b : Int))
theorem graph_28 {n : Int} {l : List (Int × Int)} (h : graphOk n l = true) : l.length ≤ 28 := by
  obtain ⟨g1, g2, g3⟩ := graph_edges h
  have hnd : l.Nodup := g3.imp fun {a b} hab e => by
    subst e
    unfold edgeLt at hab
    simp at hab
  have hs : l ⊆ prs28 := fun e he => by
    have := g2 e he
    unfold prs28
    refine List.mem_flatMap.2 ⟨e.2.toNat, List.mem_range.2 (by omega), List.mem_map.2 ⟨e.1.toNat, List.mem_range.2 (by omega), ?_⟩⟩
    have a : ((e.1.toNat : Nat) : Int) = e.1 := by omega
    have b : ((e.2.toNat : Nat) : Int) = e.2 := by omega
    rw [a, b]
  have := List.Nodup.length_le_of_subset hnd hs
  have e : prs28.length = 28 := by decide +kernel
  omega
theorem grE_28 {l : List (Int × Int)} (h : l.length ≤ 28) : ∀ (f : Nat) (b : List Int), (grE l f b).length ≤ 28 ^ f
  | 0, b => by simp [grE]
  | f + 1, b => by
    have h0 : (chE l b).length ≤ 28 := by
      have h1 := allN_len l
      have h2 := fit_len (allN l) b (edgeX l)
      have h3 := List.length_filter_le (fun x => !(!incB (b ++ [x]))) (fitL (allN l) (edgeX l) b)
      unfold chE
      omega
    have h1 := flatE_len (28 ^ f) (fun x => grE l f (b ++ [x])) (chE l b) fun x _ => grE_28 h f _
    have h2 := Nat.mul_le_mul_right (28 ^ f) h0
    show ((chE l b).flatMap fun x => grE l f (b ++ [x])).length ≤ 28 ^ (f + 1)
    rw [Nat.pow_succ]
    omega
theorem totU_le : ∀ {L : List (List Int)}, (∀ s ∈ L, s.length ≤ 8) → totR L ≤ 8 * L.length
  | [], _ => by simp [totR]
  | s :: L, h => by
    have a := totU_le (L := L) fun t ht => h t (List.mem_cons_of_mem _ ht)
    have b := h s List.mem_cons_self
    simp only [totR, List.length_cons] at *
    omega
theorem pm_half {n : Int} {l : List (Int × Int)} (h : graphOk n l = true) : ((n + 1).tdiv 2).toNat ≤ 4 := by
  have hn := (graph_edges h).1
  rw [Int.tdiv_eq_ediv_of_nonneg (by omega)]
  omega
theorem pm_row {n : Int} {l : List (Int × Int)} : ∀ s ∈ pmR n l, s.length ≤ 8 := fun s hs => by
  unfold pmR at hs
  split at hs
  · rename_i h
    have := grE_mem _ [] s (by rfl) hs
    have := pm_half h
    simp at *
    omega
  · simp at hs
theorem pm_len (n : Int) (l : List (Int × Int)) : (pmR n l).length ≤ 614656 := by
  unfold pmR
  split
  · rename_i h
    have h1 := grE_28 (graph_28 h) ((n + 1).tdiv 2).toNat []
    have h2 : 28 ^ ((n + 1).tdiv 2).toNat ≤ 28 ^ 4 := Nat.pow_le_pow_right (by decide) (pm_half h)
    omega
  · simp
theorem pm_bound (n : Int) (l : List (Int × Int)) : (pmR n l).length ≤ 1048576 ∧ (∀ k : Int, 0 ≤ k → k < (pmR n l).length → (getR .int (pmR n l) k).length ≤ 1048576) ∧ totR (pmR n l) ≤ 100000000 := by
  have a := pm_len n l
  have b := totU_le (L := pmR n l) pm_row
  exact ⟨by omega, fun k k0 k1 => by have := pm_row _ (getR_mem k0 k1); omega, by omega⟩
theorem sp_perf (n : Int) (l : List (Int × Int)) (hl : l.length ≤ 1048576) (hg : graphOk n l = true) : Spec2 Try.prog 27 [.agg (.pr .int (.sl (.pr .int .int))) fun _ => (n, l)] [] [.ref 0] [some (.rows 43 3 .int fun _ => pmR n l)] := by
  have hn := (graph_edges hg).1
  have e0 : n.tmod 2 = n % 2 := Int.tmod_eq_emod_of_nonneg hn.1
  have e1 : n.tdiv 2 = n / 2 := Int.tdiv_eq_ediv_of_nonneg hn.1
  have e2 : (n + 1).tdiv 2 = (n + 1) / 2 := Int.tdiv_eq_ediv_of_nonneg (by omega)
  have e3 : pmR n l = grE l ((n + 1).tdiv 2).toNat [] := by unfold pmR; rw [hg, if_pos rfl]
  have p1 : (!decide (n.tmod 2 = 0)) = true → [] = pmR n l := fun h => by
    have h : ¬ n.tmod 2 = 0 := by simpa using h
    rw [e3, grE_odd hg]
    omega
  have p2 : (!decide (n.tmod 2 = 0)) = false → grE l (n.tdiv 2).toNat [] = pmR n l := fun h => by
    have h : n.tmod 2 = 0 := by simpa using h
    rw [e3, show ((n + 1).tdiv 2).toNat = (n.tdiv 2).toNat by omega]
  have s1 := sp_extend n l hl hg (graph_len hg) (n.tdiv 2).toNat [] (n.tdiv 2) (by simp only [List.length_nil]; omega) (by omega) (by rfl)
  have i1 : inI (n.tmod 2) := inI_iff.2 (by omega)
  have i2 : inI (n.tdiv 2) := inI_iff.2 (by omega)
  generalize pmR n l = W at *
  generalize grE l (n.tdiv 2).toNat [] = Z at *
  refine fnG [.tmp 2] Try.func27 rfl (by decide) rfl (by kernel_rfl) (.inl rfl) (by kernel_rfl) (Nat.zero_le _) (by simp [Try.ntmps27]) ?_
  cbv
  ((try simp only [IfP_iff, and_true, true_and, decide_eq_true_eq, decide_eq_false_iff_not]); (try simp only [natc, getI_gi, at2_0, at2_1]); (try dsimp only [Ty.den]); (try simp only [natc] at *); (repeat' (first | apply And.intro | intro _)))
  all_goals (try (refine call_own 1 s1 (by cbv) (by exact ⟨.inl rfl, .inr ⟨rfl, rfl⟩, .inl rfl, trivial⟩) ?_
                  cbv))
  all_goals (try ((try simp only [IfP_iff, and_true, true_and, decide_eq_true_eq, decide_eq_false_iff_not]); (try simp only [natc, getI_gi, at2_0, at2_1]); (try dsimp only [Ty.den]); (try simp only [natc] at *); (repeat' (first | apply And.intro | intro _))))
  all_goals (try (show Obl _; (simp only [IfP_iff, EqU_iff, Obl_iff, and_true, true_and, inI_iff, decide_eq_true_eq, decide_eq_false_iff_not]; (try simp only [natc, getI_gi, at2_0, at2_1]); (try dsimp only [Ty.den]); try simp only [natc] at *); ((repeat' (first | apply And.intro | intro _)) <;> first | omega | exact inI_iff.1 i1 | exact inI_iff.1 i2 | exact i1 | exact i2 | decide)))
  · refine EndG.plain [1] ?_
    cbv
    (simp only [IfP_iff, EqU_iff, Obl_iff, and_true, true_and, inI_iff, decide_eq_true_eq, decide_eq_false_iff_not]; (try simp only [natc, getI_gi, at2_0, at2_1]); (try dsimp only [Ty.den]); try simp only [natc] at *)
    exact p1 (by assumption)
  · refine EndG.plain [2] ?_
    cbv
    (simp only [IfP_iff, EqU_iff, Obl_iff, and_true, true_and, inI_iff, decide_eq_true_eq, decide_eq_false_iff_not]; (try simp only [natc, getI_gi, at2_0, at2_1]); (try dsimp only [Ty.den]); try simp only [natc] at *)
    exact p2 (by assumption)
theorem sp_perfect (n : Int) (l : List (Int × Int)) (hl : l.length ≤ 1048576) : Spec2 Try.prog 7 [.agg (.pr .int (.sl (.pr .int .int))) fun _ => (n, l)] [] [.ref 0, .bool fun _ => graphOk n l] [some (.rows 43 3 .int fun _ => pmR n l)] := by
  have hq := sp_good n l hl
  cases hb : graphOk n l with
  | false =>
    have h2 : pmR n l = [] := by unfold pmR; rw [hb, if_neg (by decide)]
    rw [hb] at hq
    rw [h2]
    refine fnS [1] [2, 3] Try.func7 rfl (by decide) rfl (by decide) (by kernel_rfl) rfl (by simp [Try.ntmps7]) ?_
    cbv
    ((try simp only [IfP_iff, and_true, true_and, decide_eq_true_eq, decide_eq_false_iff_not]); (try simp only [natc, getI_gi, at2_0, at2_1]); (try dsimp only [Ty.den]); (try simp only [natc] at *); (repeat' (first | apply And.intro | intro _)))
    all_goals (repeat' (first | ((first | refine call_q hq (by cbv) ?_ | refine call_pure hq (by cbv) ?_); cbv; ((try simp only [IfP_iff, and_true, true_and, decide_eq_true_eq, decide_eq_false_iff_not]); (try simp only [natc, getI_gi, at2_0, at2_1]); (try dsimp only [Ty.den]); (try simp only [natc] at *); (repeat' (first | apply And.intro | intro _))))))
    all_goals (try (exact absurd (by assumption : (!false) = false) (by decide)))
    all_goals (try (simp only [IfP_iff, EqU_iff, Obl_iff, and_true, true_and, inI_iff, decide_eq_true_eq, decide_eq_false_iff_not]; (try simp only [natc, getI_gi, at2_0, at2_1]); (try dsimp only [Ty.den]); try simp only [natc] at *))
    all_goals (first | exact ⟨rfl, rfl⟩ | rfl | trace_state)
  | true =>
    rw [hb] at hq
    have s1 := sp_perf n l hl hb
    generalize pmR n l = W at *
    refine fnS [1] [2, 3] Try.func7 rfl (by decide) rfl (by decide) (by kernel_rfl) rfl (by simp [Try.ntmps7]) ?_
    cbv
    ((try simp only [IfP_iff, and_true, true_and, decide_eq_true_eq, decide_eq_false_iff_not]); (try simp only [natc, getI_gi, at2_0, at2_1]); (try dsimp only [Ty.den]); (try simp only [natc] at *); (repeat' (first | apply And.intro | intro _)))
    all_goals (repeat' (first | ((first | refine call_q hq (by cbv) ?_ | refine call_pure hq (by cbv) ?_); cbv; ((try simp only [IfP_iff, and_true, true_and, decide_eq_true_eq, decide_eq_false_iff_not]); (try simp only [natc, getI_gi, at2_0, at2_1]); (try dsimp only [Ty.den]); (try simp only [natc] at *); (repeat' (first | apply And.intro | intro _)))) | ((first | refine call_q s1 (by cbv) ?_ | refine call_pure s1 (by cbv) ?_); cbv; ((try simp only [IfP_iff, and_true, true_and, decide_eq_true_eq, decide_eq_false_iff_not]); (try simp only [natc, getI_gi, at2_0, at2_1]); (try dsimp only [Ty.den]); (try simp only [natc] at *); (repeat' (first | apply And.intro | intro _))))))
    all_goals (try (exact absurd (by assumption : (!true) = true) (by decide)))
    all_goals (try (simp only [IfP_iff, EqU_iff, Obl_iff, and_true, true_and, inI_iff, decide_eq_true_eq, decide_eq_false_iff_not]; (try simp only [natc, getI_gi, at2_0, at2_1]); (try dsimp only [Ty.den]); try simp only [natc] at *))
    all_goals (first | exact ⟨rfl, rfl⟩ | rfl | trace_state)
end Go.Proofs.Ytjkmgdhndbdhoaa.M
