/- Da, Db, Dc, in one text. -/
import Derived.Test.YtlfdimhnielleaaQgVPolygonSpace
import Derived.Test.YtlfdimhnielleaaHsQVPolygonSpace
import Derived.Test.YtlfdimhnielleaaLpQVPolygonSpace
/- Diagonals of polygons, pure: all of them in order, which of them cross, triangulations. -/
namespace Go.Proofs.Ytlfdimhnielleaa.M
open Go.RowKit Abs
set_option linter.unusedSimpArgs false
set_option linter.unusedVariables false
set_option maxRecDepth 100000
set_option maxHeartbeats 4000000
def dOk (n a b : Int) : Bool := decide (0 < a) || decide (b < n - 1)
/-- The diagonals at a corner a, to the first k corners behind the next one. -/
def dRow (n a : Int) : Nat → List Int
  | 0 => []
  | k + 1 => dRow n a k ++ if dOk n a (a + 2 + k) = true then [10 * a + (a + 2 + k)] else []
def dTo (n : Int) : Nat → List Int
  | 0 => []
  | a + 1 => dTo n a ++ dRow n a (n - ((a : Int) + 2)).toNat
def diagL (n : Int) : List Int := dTo n n.toNat
theorem dRow_next {n a b : Int} (h : a + 2 ≤ b) : dRow n a (b + 1 - (a + 2)).toNat = dRow n a (b - (a + 2)).toNat ++ if dOk n a b = true then [10 * a + b] else [] := by
  obtain ⟨k, hk⟩ : ∃ k : Nat, b = a + 2 + k := ⟨(b - (a + 2)).toNat, by omega⟩
  subst hk
  rw [show (a + 2 + (k : Int) + 1 - (a + 2)).toNat = k + 1 by omega, show (a + 2 + (k : Int) - (a + 2)).toNat = k by omega]
  rfl
theorem dTo_next {n a : Int} (h : 0 ≤ a) : dTo n (a + 1).toNat = dTo n a.toNat ++ dRow n a (n - (a + 2)).toNat := by
  obtain ⟨k, hk⟩ : ∃ k : Nat, a = k := ⟨a.toNat, by omega⟩
  subst hk
  rw [show ((k : Int) + 1).toNat = k + 1 by omega, show (k : Int).toNat = k by omega]
  rfl
theorem dRow_len (n a : Int) : ∀ k, (dRow n a k).length ≤ k
  | 0 => Nat.le_refl _
  | k + 1 => by
    have := dRow_len n a k
    unfold dRow
    split <;> simp <;> omega
theorem dTo_len {n : Int} (h0 : 0 ≤ n) (h : n ≤ 8) : ∀ k, (dTo n k).length ≤ 8 * k
  | 0 => Nat.le_refl _
  | k + 1 => by
    have := dTo_len h0 h k
    have := dRow_len n k (n - ((k : Int) + 2)).toNat
    unfold dTo
    rw [List.length_append]
    omega
theorem diag_len {n : Int} (h0 : 0 ≤ n) (h : n ≤ 8) : (diagL n).length ≤ 64 := by
  have := dTo_len h0 h n.toNat
  unfold diagL
  omega
def crossB (x y : Int) : Bool := (decide (x.tdiv 10 < y.tdiv 10) && decide (y.tdiv 10 < x.tmod 10) && decide (x.tmod 10 < y.tmod 10)) || (decide (y.tdiv 10 < x.tdiv 10) && decide (x.tdiv 10 < y.tmod 10) && decide (y.tmod 10 < x.tmod 10))
def apartB (l : List Int) (x : Int) : Bool := l.all fun y => !crossB y x
/-- The numbers of a rule that fit to a list. -/
def fitL (nums : List Int) (ex : Int → Int → Bool) (l : List Int) : List Int := nums.filter fun x => l.all fun y => !(decide (y = x) || ex y x)
def fitOk (nums : List Int) (ex : Int → Int → Bool) (l : List Int) (k : Int) : Bool := hasB (fitL nums ex (l.take k.toNat)) (gi l k)
/-- All fit, and they are ascending. -/
def fitB (nums : List Int) (ex : Int → Int → Bool) (l : List Int) : Bool := allI l.length (fitOk nums ex l) && incB l
def triB (n : Int) (l : List Int) : Bool := decide ((l.length : Int) = n - 3) && fitB (diagL n) crossB l
def polyB (n : Int) : Bool := decide (3 ≤ n) && decide (n ≤ 8)
def triV (n : Int) (l : List Int) : Bool := polyB n && triB n l
theorem fit_mem {nums : List Int} {ex : Int → Int → Bool} {l : List Int} {x : Int} : x ∈ fitL nums ex l ↔ x ∈ nums ∧ ∀ y ∈ l, y ≠ x ∧ ex y x = false := by
  unfold fitL
  rw [List.mem_filter, List.all_eq_true]
  constructor
  · rintro ⟨h1, h2⟩
    refine ⟨h1, fun y hy => ?_⟩
    have := h2 y hy
    simp only [Bool.not_eq_true', Bool.or_eq_false_iff, decide_eq_false_iff_not] at this
    exact this
  · rintro ⟨h1, h2⟩
    refine ⟨h1, fun y hy => ?_⟩
    obtain ⟨h3, h4⟩ := h2 y hy
    simp [h3, h4]
/-- What the specification asks of the k-th number of a triangulation. -/
def spOk (n : Int) (l : List Int) (k : Int) : Bool := hasB (diagL n) (gi l k) && (decide (k ≤ 0) || decide (gi l (k - 1) < gi l k)) && apartB (l.take k.toNat) (gi l k)
theorem inc_lt {s : List Int} (h : incB s = true) {a : Int} (h0 : 0 ≤ a) : ∀ {d : Nat}, a + d + 1 < (s.length : Int) → gi s a < gi s (a + d + 1)
  | 0, hl => by
    have h1 := allI_get h (k := a + 1) (by omega) (by omega)
    unfold incOk at h1
    simp only [Bool.or_eq_true, decide_eq_true_eq] at h1
    rcases h1 with h1 | h1
    · omega
    · have e : a + ((0 : Nat) : Int) + 1 = a + 1 := by omega
      rw [e]
      rw [show a + 1 - 1 = a by omega] at h1
      exact h1
  | d + 1, hl => by
    have h1 := inc_lt h h0 (d := d) (by omega)
    have h2 := allI_get h (k := a + d + 2) (by omega) (by omega)
    unfold incOk at h2
    simp only [Bool.or_eq_true, decide_eq_true_eq] at h2
    rcases h2 with h2 | h2
    · omega
    · rw [show a + (d : Int) + 2 - 1 = a + d + 1 by omega] at h2
      have e : a + ((d + 1 : Nat) : Int) + 1 = a + d + 2 := by omega
      rw [e]
      exact Int.lt_trans h1 h2
end Go.Proofs.Ytlfdimhnielleaa.M
/- Diagonals: the program's and the specification's functions of numbers. -/
namespace Go.Proofs.Ytlfdimhnielleaa.M
open Go.RowKit Abs
set_option linter.unusedSimpArgs false
set_option linter.unusedVariables false
set_option maxRecDepth 100000
set_option maxHeartbeats 4000000
theorem td_in {x : Int} (h0 : 0 ≤ x) (h1 : x < 100) : 0 ≤ x.tdiv 10 ∧ x.tdiv 10 ≤ 9 := by
  rw [Int.tdiv_eq_ediv_of_nonneg h0]; omega
theorem im_corners (x : Int) (h0 : 0 ≤ x) (h1 : x < 100) : Spec2 Try.prog 161 [.int fun _ => x] [] [.int fun _ => x.tdiv 10, .int fun _ => x.tmod 10] [] := by
  have h2 := td_in h0 h1
  refine fnS [] [2, 3] Try.func161 rfl (by decide) rfl (by decide) (by kernel_rfl) rfl (by simp [Try.ntmps161]) ?_
  cbv
  (simp only [IfP_iff, EqU_iff, Obl_iff, and_true, true_and, inI_iff, decide_eq_true_eq, decide_eq_false_iff_not]; (try simp only [natc, getI_gi, at2_0, at2_1]); (try dsimp only [Ty.den]); try simp only [natc] at *)
  (repeat' (first | apply And.intro | intro _)) <;> omega
theorem im_cross (x y : Int) (x0 : 0 ≤ x) (x1 : x < 100) (y0 : 0 ≤ y) (y1 : y < 100) : Spec2 Try.prog 159 [.int fun _ => x, .int fun _ => y] [] [.bool fun _ => crossB x y] [] := by
  refine fnS [] [4] Try.func159 rfl (by decide) rfl (by decide) (by kernel_rfl) rfl (by simp [Try.ntmps159]) ?_
  cbv
  repeat' (first | ((first | refine call_q (im_corners x x0 x1) (by cbv) ?_ | refine call_pure (im_corners x x0 x1) (by cbv) ?_); cbv; ((try simp only [IfP_iff, and_true, true_and, decide_eq_true_eq, decide_eq_false_iff_not]); (try simp only [natc, getI_gi, at2_0, at2_1]); (try dsimp only [Ty.den]); (try simp only [natc] at *); (repeat' (first | apply And.intro | intro _)))))
  all_goals (try (simp only [IfP_iff, EqU_iff, Obl_iff, and_true, true_and, inI_iff, decide_eq_true_eq, decide_eq_false_iff_not]; (try simp only [natc, getI_gi, at2_0, at2_1]); (try dsimp only [Ty.den]); try simp only [natc] at *))
  repeat' (first | ((first | refine call_q (im_corners y y0 y1) (by cbv) ?_ | refine call_pure (im_corners y y0 y1) (by cbv) ?_); cbv; ((try simp only [IfP_iff, and_true, true_and, decide_eq_true_eq, decide_eq_false_iff_not]); (try simp only [natc, getI_gi, at2_0, at2_1]); (try dsimp only [Ty.den]); (try simp only [natc] at *); (repeat' (first | apply And.intro | intro _)))))
  all_goals (try (simp only [IfP_iff, EqU_iff, Obl_iff, and_true, true_and, inI_iff, decide_eq_true_eq, decide_eq_false_iff_not]; (try simp only [natc, getI_gi, at2_0, at2_1]); (try dsimp only [Ty.den]); try simp only [natc] at *))
  ((try simp only [IfP_iff, and_true, true_and, decide_eq_true_eq, decide_eq_false_iff_not]); (try simp only [natc, getI_gi, at2_0, at2_1]); (try dsimp only [Ty.den]); (try simp only [natc] at *); (repeat' (first | apply And.intro | intro _)))
  all_goals (try (simp only [IfP_iff, EqU_iff, Obl_iff, and_true, true_and, inI_iff, decide_eq_true_eq, decide_eq_false_iff_not]; (try simp only [natc, getI_gi, at2_0, at2_1]); (try dsimp only [Ty.den]); try simp only [natc] at *))
  all_goals ((repeat' (first | apply And.intro | intro _)) <;> (unfold crossB; simp [*] <;> omega))
theorem im_excludes (n x y : Int) (x0 : 0 ≤ x) (x1 : x < 100) (y0 : 0 ≤ y) (y1 : y < 100) : Spec2 Try.prog 157 [.cells [.int fun _ => n], .int fun _ => x, .int fun _ => y] [] [.bool fun _ => crossB x y] [] := by
  refine fnS [] [6] Try.func157 rfl (by decide) rfl (by decide) (by kernel_rfl) rfl (by simp [Try.ntmps157]) ?_
  cbv
  repeat' (first | ((first | refine call_q (im_cross x y x0 x1 y0 y1) (by cbv) ?_ | refine call_pure (im_cross x y x0 x1 y0 y1) (by cbv) ?_); cbv; ((try simp only [IfP_iff, and_true, true_and, decide_eq_true_eq, decide_eq_false_iff_not]); (try simp only [natc, getI_gi, at2_0, at2_1]); (try dsimp only [Ty.den]); (try simp only [natc] at *); (repeat' (first | apply And.intro | intro _)))))
  all_goals (try (simp only [IfP_iff, EqU_iff, Obl_iff, and_true, true_and, inI_iff, decide_eq_true_eq, decide_eq_false_iff_not]; (try simp only [natc, getI_gi, at2_0, at2_1]); (try dsimp only [Ty.den]); try simp only [natc] at *))
theorem im_diagAt (a b : Int) (a0 : 0 ≤ a) (a1 : a < 10) (b0 : 0 ≤ b) (b1 : b < 10) : Spec2 Try.prog 160 [.int fun _ => a, .int fun _ => b] [] [.int fun _ => 10 * min a b + max a b] [] := by
  refine fnS [] [4] Try.func160 rfl (by decide) rfl (by decide) (by kernel_rfl) rfl (by simp [Try.ntmps160]) ?_
  cbv
  (simp only [IfP_iff, EqU_iff, Obl_iff, and_true, true_and, inI_iff, decide_eq_true_eq, decide_eq_false_iff_not]; (try simp only [natc, getI_gi, at2_0, at2_1]); (try dsimp only [Ty.den]); try simp only [natc] at *)
  (repeat' (first | apply And.intro | intro _)) <;> omega
def atB (x c : Int) : Bool := decide (x.tdiv 10 = c) || decide (x.tmod 10 = c)
theorem im_polygon (n : Int) : Spec2 Try.prog 30 [.int fun _ => n] [] [.bool fun _ => polyB n] [] := by
  refine fnS [] [2] Try.func30 rfl (by decide) rfl (by decide) (by kernel_rfl) rfl (by simp [Try.ntmps30]) ?_
  cbv
  ((try simp only [IfP_iff, and_true, true_and, decide_eq_true_eq, decide_eq_false_iff_not]); (try simp only [natc, getI_gi, at2_0, at2_1]); (try dsimp only [Ty.den]); (try simp only [natc] at *); (repeat' (first | apply And.intro | intro _)))
  all_goals (try (simp only [IfP_iff, EqU_iff, Obl_iff, and_true, true_and, inI_iff, decide_eq_true_eq, decide_eq_false_iff_not]; (try simp only [natc, getI_gi, at2_0, at2_1]); (try dsimp only [Ty.den]); try simp only [natc] at *))
  all_goals ((repeat' (first | apply And.intro | intro _)) <;> (unfold polyB; simp [*]))
theorem sp_corners (n : Int) : Spec2 Try.prog 28 [.int fun _ => n] [] [.bool fun _ => polyB n] [] := by
  refine fnS [] [2] Try.func28 rfl (by decide) rfl (by decide) (by kernel_rfl) rfl (by simp [Try.ntmps28]) ?_
  cbv
  repeat' (first | ((first | refine call_q (sp_in _ _ _) (by cbv) ?_ | refine call_pure (sp_in _ _ _) (by cbv) ?_); cbv; ((try simp only [IfP_iff, and_true, true_and, decide_eq_true_eq, decide_eq_false_iff_not]); (try simp only [natc, getI_gi, at2_0, at2_1]); (try dsimp only [Ty.den]); (try simp only [natc] at *); (repeat' (first | apply And.intro | intro _)))))
  all_goals (try (simp only [IfP_iff, EqU_iff, Obl_iff, and_true, true_and, inI_iff, decide_eq_true_eq, decide_eq_false_iff_not]; (try simp only [natc, getI_gi, at2_0, at2_1]); (try dsimp only [Ty.den]); try simp only [natc] at *))
  all_goals ((repeat' (first | apply And.intro | intro _)) <;> first | rfl | (unfold polyB; simp [*]))
theorem sp_cross (x y : Int) (x0 : 0 ≤ x) (x1 : x < 100) (y0 : 0 ≤ y) (y1 : y < 100) : Spec2 Try.prog 122 [.int fun _ => x, .int fun _ => y] [] [.bool fun _ => crossB x y] [] := by
  have h1 := td_in x0 x1
  have h2 := td_in y0 y1
  refine fnS [] [4] Try.func122 rfl (by decide) rfl (by decide) (by kernel_rfl) rfl (by simp [Try.ntmps122]) ?_
  cbv
  ((try simp only [IfP_iff, and_true, true_and, decide_eq_true_eq, decide_eq_false_iff_not]); (try simp only [natc, getI_gi, at2_0, at2_1]); (try dsimp only [Ty.den]); (try simp only [natc] at *); (repeat' (first | apply And.intro | intro _)))
  all_goals (try (simp only [IfP_iff, EqU_iff, Obl_iff, and_true, true_and, inI_iff, decide_eq_true_eq, decide_eq_false_iff_not]; (try simp only [natc, getI_gi, at2_0, at2_1]); (try dsimp only [Ty.den]); try simp only [natc] at *))
  all_goals ((repeat' (first | apply And.intro | intro _)) <;> first | omega | (unfold crossB; simp [*] <;> omega))
end Go.Proofs.Ytlfdimhnielleaa.M
/- Diagonals: the lists of all of them, on both sides. -/
namespace Go.Proofs.Ytlfdimhnielleaa.M
open Go.RowKit Abs
set_option linter.unusedSimpArgs false
set_option linter.unusedVariables false
set_option maxRecDepth 100000
set_option maxHeartbeats 4000000
theorem sp_diagonals (n : Int) (n0 : 0 ≤ n) (n1 : n ≤ 8) : Spec2 Try.prog 61 [.int fun _ => n] [] [.ref 0] [some (.row 3 .int fun _ => diagL n)] := by
  refine fnS [0] [2] Try.func61 rfl (by decide) rfl (by decide) (by kernel_rfl) rfl (by simp [Try.ntmps61]) ?_
  cbv
  refine loopP (by kernel_rfl) (fun a : Int => 0 ≤ a ∧ a ≤ n) (fun a => [(4, .int fun _ => a), (3, .ref 0), (6, .junk)]) (fun a => [(0, some (.row 3 .int fun _ => dTo n a.toNat))]) (fun a => (n - a).toNat) (· + 1) 0 (by omega) ?_ ?_
  · cbv
    (simp only [IfP_iff, EqU_iff, Obl_iff, and_true, true_and, inI_iff, decide_eq_true_eq, decide_eq_false_iff_not]; (try simp only [natc, at2_0, at2_1]); (try dsimp only [Ty.den]); try simp only [natc] at *)
    rfl
  · intro a ha
    have h1 := dTo_next (n := n) ha.1
    have h2 := dTo_len n0 n1 a.toNat
    have h3 : ¬ a < n → dTo n a.toNat = diagL n := fun h => by unfold diagL; rw [show a = n by omega]
    cbv
    ((try simp only [IfP_iff, and_true, true_and, decide_eq_true_eq, decide_eq_false_iff_not]); (try simp only [natc, at2_0, at2_1]); (try dsimp only [Ty.den]); (try simp only [natc] at *); (repeat' (first | apply And.intro | intro _)))
    all_goals (try ((simp only [IfP_iff, EqU_iff, Obl_iff, and_true, true_and, inI_iff, decide_eq_true_eq, decide_eq_false_iff_not]; (try simp only [natc, at2_0, at2_1]); (try dsimp only [Ty.den]); try simp only [natc] at *); done))
    all_goals (try ((simp only [IfP_iff, EqU_iff, Obl_iff, and_true, true_and, inI_iff, decide_eq_true_eq, decide_eq_false_iff_not]; (try simp only [natc, at2_0, at2_1]); (try dsimp only [Ty.den]); try simp only [natc] at *); (repeat' (first | apply And.intro | intro _)) <;> first | omega | exact h3 (by assumption)))
    rotate_right 1
    refine loopP (by kernel_rfl) (fun b : Int => a + 2 ≤ b ∧ (b ≤ n ∨ b = a + 2)) (fun b => [(5, .int fun _ => b), (3, .ref 0)]) (fun b => [(0, some (.row 3 .int fun _ => dTo n a.toNat ++ dRow n a (b - (a + 2)).toNat))]) (fun b => (n - b).toNat) (· + 1) (a + 2) (by omega) ?_ ?_
    · cbv
      (simp only [IfP_iff, EqU_iff, Obl_iff, and_true, true_and, inI_iff, decide_eq_true_eq, decide_eq_false_iff_not]; (try simp only [natc, at2_0, at2_1]); (try dsimp only [Ty.den]); try simp only [natc] at *)
      rw [show (a + 2 - (a + 2)).toNat = 0 by omega]
      exact (List.append_nil _).symm
    · intro b hb
      have g1 := dRow_next (n := n) hb.1
      have g2 := dRow_len n a (b - (a + 2)).toNat
      have g3 : ((dTo n a.toNat ++ dRow n a (b - (a + 2)).toNat).length : Int) ≤ 1000 := by rw [List.length_append]; omega
      have g4 : dOk n a b = true → (dTo n a.toNat ++ dRow n a (b - (a + 2)).toNat) ++ [10 * a + b] = dTo n a.toNat ++ dRow n a (b + 1 - (a + 2)).toNat := fun h => by rw [g1, if_pos h, List.append_assoc]
      have g5 : dOk n a b = false → dTo n a.toNat ++ dRow n a (b - (a + 2)).toNat = dTo n a.toNat ++ dRow n a (b + 1 - (a + 2)).toNat := fun h => by rw [g1, if_neg (by rw [h]; decide), List.append_nil]
      have g6 : ¬ b < n → dTo n a.toNat ++ dRow n a (b - (a + 2)).toNat = dTo n (a + 1).toNat := fun h => by
        rw [h1]
        rcases hb.2 with q | q
        · rw [show b = n by omega]
        · rw [q, show (a + 2 - (a + 2)).toNat = 0 by omega, show (n - (a + 2)).toNat = 0 by omega]
      clear h1 g1 g2 h2 h3
      cbv
      ((try simp only [IfP_iff, and_true, true_and, decide_eq_true_eq, decide_eq_false_iff_not]); (try simp only [natc, at2_0, at2_1]); (try dsimp only [Ty.den]); (try simp only [natc] at *); (repeat' (first | apply And.intro | intro _)))
      all_goals (try (simp only [IfP_iff, EqU_iff, Obl_iff, and_true, true_and, inI_iff, decide_eq_true_eq, decide_eq_false_iff_not]; (try simp only [natc, at2_0, at2_1]); (try dsimp only [Ty.den]); try simp only [natc] at *))
      all_goals ((repeat' (first | apply And.intro | intro _)) <;> first | omega | (exact g6 (by assumption)) | (rw [List.length_cons, List.length_nil]; omega) | (exact g4 (by unfold dOk; simp [*])) | (exact g5 (by unfold dOk; simp only [Bool.or_eq_false_iff, decide_eq_false_iff_not]; exact ⟨by assumption, by assumption⟩)) | (refine Int.le_trans (Int.add_le_add_right g3 _) ?_; rw [List.length_cons, List.length_nil]; omega) | trace_state)
theorem im_numbers (n : Int) (n0 : 0 ≤ n) (n1 : n ≤ 8) : Spec2 Try.prog 158 [.cells [.int fun _ => n]] [] [.ref 0] [some (.row 3 .int fun _ => diagL n)] := by
  refine fnS [1] [2] Try.func158 rfl (by decide) rfl (by decide) (by kernel_rfl) rfl (by simp [Try.ntmps158]) ?_
  cbv
  refine loopP (by kernel_rfl) (fun a : Int => 0 ≤ a ∧ a ≤ n) (fun a => [(9, .int fun _ => a), (3, .ref 1), (6, .junk)]) (fun a => [(1, some (.row 3 .int fun _ => dTo n a.toNat))]) (fun a => (n - a).toNat) (· + 1) 0 (by omega) ?_ ?_
  · cbv
    (simp only [IfP_iff, EqU_iff, Obl_iff, and_true, true_and, inI_iff, decide_eq_true_eq, decide_eq_false_iff_not]; (try simp only [natc, at2_0, at2_1]); (try dsimp only [Ty.den]); try simp only [natc] at *)
    rfl
  · intro a ha
    have h1 := dTo_next (n := n) ha.1
    have h2 := dTo_len n0 n1 a.toNat
    have h3 : ¬ a < n → dTo n a.toNat = diagL n := fun h => by unfold diagL; rw [show a = n by omega]
    cbv
    ((try simp only [IfP_iff, and_true, true_and, decide_eq_true_eq, decide_eq_false_iff_not]); (try simp only [natc, at2_0, at2_1]); (try dsimp only [Ty.den]); (try simp only [natc] at *); (repeat' (first | apply And.intro | intro _)))
    all_goals (try ((simp only [IfP_iff, EqU_iff, Obl_iff, and_true, true_and, inI_iff, decide_eq_true_eq, decide_eq_false_iff_not]; (try simp only [natc, at2_0, at2_1]); (try dsimp only [Ty.den]); try simp only [natc] at *); done))
    all_goals (try ((simp only [IfP_iff, EqU_iff, Obl_iff, and_true, true_and, inI_iff, decide_eq_true_eq, decide_eq_false_iff_not]; (try simp only [natc, at2_0, at2_1]); (try dsimp only [Ty.den]); try simp only [natc] at *); (repeat' (first | apply And.intro | intro _)) <;> first | omega | exact h3 (by assumption)))
    rotate_right 1
    refine loopP (by kernel_rfl) (fun b : Int => a + 2 ≤ b ∧ (b ≤ n ∨ b = a + 2)) (fun b => [(5, .int fun _ => b), (3, .ref 1)]) (fun b => [(1, some (.row 3 .int fun _ => dTo n a.toNat ++ dRow n a (b - (a + 2)).toNat))]) (fun b => (n - b).toNat) (· + 1) (a + 2) (by omega) ?_ ?_
    · cbv
      (simp only [IfP_iff, EqU_iff, Obl_iff, and_true, true_and, inI_iff, decide_eq_true_eq, decide_eq_false_iff_not]; (try simp only [natc, at2_0, at2_1]); (try dsimp only [Ty.den]); try simp only [natc] at *)
      rw [show (a + 2 - (a + 2)).toNat = 0 by omega]
      exact (List.append_nil _).symm
    · intro b hb
      have g1 := dRow_next (n := n) hb.1
      have g2 := dRow_len n a (b - (a + 2)).toNat
      have g3 : ((dTo n a.toNat ++ dRow n a (b - (a + 2)).toNat).length : Int) ≤ 1000 := by rw [List.length_append]; omega
      have g7 : 10 * min a b + max a b = 10 * a + b := by omega
      have g4 : dOk n a b = true → (dTo n a.toNat ++ dRow n a (b - (a + 2)).toNat) ++ [10 * min a b + max a b] = dTo n a.toNat ++ dRow n a (b + 1 - (a + 2)).toNat := fun h => by rw [g1, if_pos h, List.append_assoc, g7]
      have g5 : dOk n a b = false → dTo n a.toNat ++ dRow n a (b - (a + 2)).toNat = dTo n a.toNat ++ dRow n a (b + 1 - (a + 2)).toNat := fun h => by rw [g1, if_neg (by rw [h]; decide), List.append_nil]
      have g6 : ¬ b < n → dTo n a.toNat ++ dRow n a (b - (a + 2)).toNat = dTo n (a + 1).toNat := fun h => by
        rw [h1]
        rcases hb.2 with q | q
        · rw [show b = n by omega]
        · rw [q, show (a + 2 - (a + 2)).toNat = 0 by omega, show (n - (a + 2)).toNat = 0 by omega]
      clear h1 g1 g2 h2 h3 g7
      cbv
      ((try simp only [IfP_iff, and_true, true_and, decide_eq_true_eq, decide_eq_false_iff_not]); (try simp only [natc, at2_0, at2_1]); (try dsimp only [Ty.den]); (try simp only [natc] at *); (repeat' (first | apply And.intro | intro _)))
      all_goals (repeat' (first | ((first | refine call_q (im_diagAt a b (by omega) (by omega) (by omega) (by omega)) (by cbv) ?_ | refine call_pure (im_diagAt a b (by omega) (by omega) (by omega) (by omega)) (by cbv) ?_); cbv; ((try simp only [IfP_iff, and_true, true_and, decide_eq_true_eq, decide_eq_false_iff_not]); (try simp only [natc, at2_0, at2_1]); (try dsimp only [Ty.den]); (try simp only [natc] at *); (repeat' (first | apply And.intro | intro _))))))
      all_goals (try ((try simp only [IfP_iff, and_true, true_and, decide_eq_true_eq, decide_eq_false_iff_not]); (try simp only [natc, at2_0, at2_1]); (try dsimp only [Ty.den]); (try simp only [natc] at *); (repeat' (first | apply And.intro | intro _))))
      all_goals (try (simp only [IfP_iff, EqU_iff, Obl_iff, and_true, true_and, inI_iff, decide_eq_true_eq, decide_eq_false_iff_not]; (try simp only [natc, at2_0, at2_1]); (try dsimp only [Ty.den]); try simp only [natc] at *))
      all_goals ((repeat' (first | apply And.intro | intro _)) <;> first | omega | (exact g6 (by assumption)) | (rw [List.length_cons, List.length_nil]; omega) | (exact g4 (by unfold dOk; simp [*])) | (exact g5 (by unfold dOk; simp only [Bool.or_eq_false_iff, decide_eq_false_iff_not]; exact ⟨by assumption, by assumption⟩)) | (refine Int.le_trans (Int.add_le_add_right g3 _) ?_; rw [List.length_cons, List.length_nil]; omega) | trace_state)
end Go.Proofs.Ytlfdimhnielleaa.M
