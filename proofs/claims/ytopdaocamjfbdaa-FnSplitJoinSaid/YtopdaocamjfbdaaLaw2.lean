/- The law of splitting and joining. -/
import Derived.Test.YtopdaocamjfbdaaBack
import Derived.Test.YtopdaocamjfbdaaDraw2
import Derived.Test.YtopdaocamjfbdaaLess
namespace Go.Proofs.Ytopdaocamjfbdaa
open Go.RowKit
set_option linter.unusedVariables false

theorem CodeAt.mono {B B' : Nat} {w : World} {a : Option Addr} {len : Nat} (h : CodeAt B w a len) (hB : B ≤ B') : CodeAt B' w a len := by
  rcases h with h | ⟨cb, co, h1, h2, h3⟩
  · exact .inl h
  · exact .inr ⟨cb, co, h1, by omega, h3⟩
theorem CodeAt.later {w w' : World} {a : Option Addr} {len : Nat} (h : CodeAt w.heap.size w a len) (hb : Below w.heap.size w w') : CodeAt w'.heap.size w' a len := (h.below hb).mono hb.size
theorem vBig_any (w : World) (a : Option Addr) (len cap : Nat) (y : Bool) (h : decide ((65536 : Int) < (len : Int)) = y) :
    Calls Try.prog 8 #[.slice a len cap] w fun e w' => e = .returned (.bool y) ∧ w = w' := by
  subst h
  go_enter Try.func8, Try.ntmps8
  go_wp2
  go_ret
  exact ⟨rfl, rfl⟩
theorem split_small (s : ByteArray) (c : UInt8) (hs : s.size ≤ 4000) : (splitOf s c).length ≤ 4001 ∧ ∀ x ∈ splitOf s c, x.size ≤ 1048576 := by
  have h := joinable_tot (split_joinable s c hs)
  exact ⟨by omega, fun x hx => by have := le_tot hx; omega⟩

set_option maxHeartbeats 4000000 in
theorem FnSplitJoin_walk (a0 : Option Addr) (l0 c0 : Nat) (z0 : List Int) (w : World) (w0 : IsRow .u8 w a0 l0 c0 z0) :
    Calls Try.prog 3 #[.slice a0 l0 c0] w fun e w' => e = .returned (.bool true) ∧ Below w.heap.size w w' := by
  have hcode := codeAt_of w0
  by_cases hbig : l0 ≤ 65536
  · have HC := Lib.hid hcode
    have V := Lib.hid (vBig_any w a0 l0 c0 false (by simp; omega))
    clear hcode w0
    go_enter Try.func3, Try.ntmps3
    go_wp2_with fail
    refine V.out.mono ?_
    rintro e w' ⟨rfl, rfl⟩
    go_wp2_with fail
    refine (drawSplit w a0 l0 c0 HC.out (by omega)).mono ?_
    rintro e w1 ⟨s, sep, ⟨hs, hsep⟩, rfl, hb1⟩
    have H1 := Lib.hid (HC.out.later hb1)
    go_wp2_with fail
    refine (implSplitAll s sep w1 (by omega)).mono ?_
    rintro e w2 ⟨g, cp, rfl, ho2, hb2⟩
    have A2 := Lib.hid (at_of ho2)
    have hcp : (splitRes s sep).1.length ≤ cp := by
      rcases ho2.2 with ⟨h, _⟩ | ⟨g', cap', cur, h, _, _, hle, _⟩
      · cases h
      · injection h with _ _ h3; rw [h3]; exact hle
    have H2 := Lib.hid (H1.out.later hb2)
    have hb12 := below_step hb1 hb2
    clear ho2 hb1
    go_wp2_with fail
    refine (drawJoin w2 a0 l0 c0 H2.out (by omega)).mono ?_
    rintro e w3 ⟨v, k, mark, hk, hks, hmk, rfl, ho3, hb3⟩
    obtain ⟨ak, ck, rfl, A3, hck⟩ := ho3.at
    have HA3 := Lib.hid A3
    have H3 := Lib.hid (H2.out.later hb3)
    have HKS : Hid (∀ x ∈ k, x.size ≤ 1048576) := fun x hx => by have := hks x hx; omega
    clear ho3 A3 hks
    go_wp2_with fail
    refine (implJoinAll w3 ak k ck mark HA3.out hck (by omega) HKS.out).mono ?_
    rintro e w4 ⟨rfl, hb4⟩
    go_wp2_with fail
    refine (specJoinAll w4 ak k ck mark (HA3.out.below hb4 (Nat.le_refl _)) (by omega) HKS.out).mono ?_
    rintro e w5 ⟨rfl, hb5⟩
    have hb35 := below_step hb4 hb5
    have H5 := Lib.hid (H3.out.later hb35)
    generalize (joinRes k mark).1 = t
    generalize (joinRes k mark).2 = y
    clear hb4 hb5
    go_wp2_with fail
    refine (drawLess w5 a0 l0 c0 H5.out (by omega)).mono ?_
    rintro e w6 ⟨p, q, _, rfl, hb6⟩
    have hb26 := below_step hb3 (below_step hb35 hb6)
    have hb16 := below_step hb12 hb26
    have A6 := Lib.hid (A2.out.below hb26 (Nat.le_refl _))
    have LI := Lib.hid fun W => implLess p q W
    have LS := Lib.hid fun W => specLess p q W
    have LQ := Lib.hid fun W => implLess q p W
    have hno := less_asymm p.toList q.toList
    generalize Op.bytesLess p.toList q.toList = pq at *
    generalize Op.bytesLess q.toList p.toList = qp at *
    clear hb3 hb35 hb6 hb12 A2 HA3
    go_wp2_with fail
    refine (LI.out _).mono ?_
    rintro e w' ⟨rfl, rfl⟩
    go_wp2_with fail
    refine (LS.out _).mono ?_
    rintro e w' ⟨rfl, rfl⟩
    by_cases h1 : sep.size = 1
    · obtain ⟨c, rfl⟩ := one_byte sep h1
      have hr := splitRes_yes s c (by omega)
      rw [hr] at A6 hcp
      have hspl := split_small s c (by omega)
      have CJ := implJoinAll w6 (some ⟨g, 0, none⟩) (splitOf s c) cp ⟨#[c]⟩ A6.out hcp (by omega) hspl.2
      unfold JoinSays at CJ
      rw [split_res s c (by omega)] at CJ
      have HCJ := Lib.hid CJ
      rw [hr]
      clear hr hspl CJ A6 h1
      cases pq
      · go_wp2_with fail
        refine (LI.out _).mono ?_
        rintro e w' ⟨rfl, rfl⟩
        go_wp2_with fail
        refine HCJ.out.mono ?_
        rintro e w8 ⟨rfl, hb8⟩
        go_wp2
        go_ret
        exact ⟨rfl, below_step hb16 hb8⟩
      · have hqp := hno rfl
        subst hqp
        go_wp2_with fail
        refine (LI.out _).mono ?_
        rintro e w' ⟨rfl, rfl⟩
        go_wp2_with fail
        refine (LQ.out _).mono ?_
        rintro e w' ⟨rfl, rfl⟩
        go_wp2_with fail
        refine HCJ.out.mono ?_
        rintro e w8 ⟨rfl, hb8⟩
        go_wp2
        go_ret
        exact ⟨rfl, below_step hb16 hb8⟩
    · have hr := splitRes_no s sep (.inl h1)
      have n1 : ((sep.size : Int) == 1) = false := by rw [beq_eq_false_iff_ne]; omega
      have n2 : ((sep.size : Int) != 1) = true := by rw [bne_iff_ne]; omega
      rw [hr]
      clear hr h1 A6 hcp
      cases pq
      · go_wp2_with fail
        refine (LI.out _).mono ?_
        rintro e w' ⟨rfl, rfl⟩
        go_wp2
        go_ret
        exact ⟨rfl, hb16⟩
      · have hqp := hno rfl
        subst hqp
        go_wp2_with fail
        refine (LI.out _).mono ?_
        rintro e w' ⟨rfl, rfl⟩
        go_wp2_with fail
        refine (LQ.out _).mono ?_
        rintro e w' ⟨rfl, rfl⟩
        go_wp2
        go_ret
        exact ⟨rfl, hb16⟩
  · have V := Lib.hid (vBig_any w a0 l0 c0 true (by simp; omega))
    clear hcode w0
    go_enter Try.func3, Try.ntmps3
    go_wp2_with fail
    refine V.out.mono ?_
    rintro e w' ⟨rfl, rfl⟩
    go_wp2
    go_ret
    exact ⟨rfl, Below.refl _ _⟩
end Go.Proofs.Ytopdaocamjfbdaa
