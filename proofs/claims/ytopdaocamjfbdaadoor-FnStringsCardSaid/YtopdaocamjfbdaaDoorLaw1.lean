/- The law of strings. -/
import Derived.Test.YtopdaocamjfbdaaDoorPrep1
import Derived.Outline
namespace Go.Proofs.YtopdaocamjfbdaaDoor
open Go.RowKit
set_option linter.unusedVariables false

set_option maxRecDepth 8000 in
def itoaL (n : Int) : List UInt8 := Lib.itoa n
theorem itoa_all (m n : Int) (h : itoaL m = itoaL n) : m = n := by
  unfold itoaL at h
  by_cases hm : m < 0
  · by_cases hn : n < 0
    · have e : Lib.itoa (-m) = Lib.itoa (-n) := by
        rw [Dec.itoa_neg hm, Dec.itoa_neg hn] at h
        rw [Dec.itoa_pos (show ¬ -m < 0 by omega), Dec.itoa_pos (show ¬ -n < 0 by omega), show (-m).natAbs = m.natAbs by omega, show (-n).natAbs = n.natAbs by omega]
        exact (List.cons.inj h).2
      have := itoa_inj (-m) (-n) (by omega) (by omega) e
      omega
    · have h1 := Dec.byte_sign (m := m) rfl hm
      obtain ⟨b, h2, h3, h4, _⟩ := Dec.byte_digit (m := n) (l := Lib.itoa m) h 0 (by rw [Dec.itoa_len]; have := Lib.nDigits_pos m.natAbs; omega) (by omega)
      rw [h1] at h2
      obtain rfl := Option.some.inj h2
      simp at h3
  · by_cases hn : n < 0
    · have h1 := Dec.byte_sign (m := n) rfl hn
      obtain ⟨b, h2, h3, h4, _⟩ := Dec.byte_digit (m := m) (l := Lib.itoa n) h.symm 0 (by rw [Dec.itoa_len]; have := Lib.nDigits_pos n.natAbs; omega) (by omega)
      rw [h1] at h2
      obtain rfl := Option.some.inj h2
      simp at h3
    · exact itoa_inj m n (by omega) (by omega) h
theorem parse_text (n : Int) (h0 : -999999 ≤ n) (h1 : n ≤ 999999) : parseRes (intText n) = (n, true) := by
  have hno : ¬ NoText (intText n) := fun h => h n h0 h1 rfl
  have e := Classical.choose_spec (text_of_not hno)
  rw [parseRes, dif_neg hno]
  generalize Classical.choose (text_of_not hno) = m at *
  obtain ⟨g0, g1, g2⟩ := e
  have h2 : (intText n).data.toList = itoaL n := by simp [intText, itoaL]
  have h3 : (intText m).data.toList = itoaL m := by simp [intText, itoaL]
  rw [g2, h3] at h2
  rw [itoa_all m n h2]
set_option maxRecDepth 8000 in
set_option maxHeartbeats 4000000 in
theorem FnStrings_walk (a0 : Option Addr) (l0 c0 : Nat) (z0 : List Int) (w : World) (w0 : IsRow .u8 w a0 l0 c0 z0) (ht : Tab w) :
    Calls Tryd.prog 3 #[.slice a0 l0 c0] w fun e w' => e = .returned (.bool true) ∧ Below w.heap.size w w' := by
  have hcode := codeAt_of w0
  by_cases hbig : l0 ≤ 65536
  · have HC := Lib.hid hcode
    have V := Lib.hid (vBig_any w a0 l0 c0 false (by simp; omega))
    have HTAB : Hid (∀ W, Below w.heap.size w W → Tab W) := fun W hb => ht.below hb
    obtain ⟨r9, h90, h91, c9⟩ := vAt_all c0 hcode 9 (by omega) (by omega) hbig
    obtain ⟨r10, h100, h101, c10⟩ := vAt_all c0 hcode 10 (by omega) (by omega) hbig
    have C9 := Lib.hid c9
    have C10 := Lib.hid c10
    clear hcode w0 ht c9 c10
    go_enter Tryd.func3, Tryd.ntmps3
    go_wp2_with fail
    refine V.out.mono ?_
    rintro e w' ⟨rfl, rfl⟩
    go_wp2_with fail
    refine (drawFmt w a0 l0 c0 HC.out (by omega)).mono ?_
    rintro e w1 ⟨n, hn, rfl, hb1⟩
    have HN := Lib.hid hn
    clear hn
    go_wp2_with fail
    refine (implFmtAll n w1 (HTAB.out _ hb1)).mono ?_
    rintro e w2 ⟨rfl, hb2⟩
    go_wp2_with fail
    refine (specFmtAll n w2).mono ?_
    rintro e w3 ⟨rfl, hb3⟩
    have hb3' := below_step hb1 (below_step hb2 hb3)
    clear hb1 hb2 hb3
    go_wp2_with fail
    refine (drawParse w3 a0 l0 c0 (HC.out.later hb3') (by omega)).mono ?_
    rintro e w4 ⟨t, hts, rfl, hb4⟩
    have hb4' := below_step hb3' hb4
    go_wp2_with fail
    refine (implParseAll t w4 (HTAB.out _ hb4') (by omega)).mono ?_
    rintro e w5 ⟨rfl, hb5⟩
    go_wp2_with fail
    refine (specParseAll t w5 (by omega)).mono ?_
    rintro e w6 ⟨rfl, hb6⟩
    have hb6' := below_step hb4' (below_step hb5 hb6)
    generalize (parseRes t).1 = tm
    generalize (parseRes t).2 = tf
    clear hb3' hb4 hb4' hb5 hb6 hts
    go_wp2_with fail
    refine (drawAppend w6 a0 l0 c0 (HC.out.later hb6') (by omega)).mono ?_
    rintro e w7 ⟨x, hxs, rfl, hb7⟩
    have hb7' := below_step hb6' hb7
    go_wp2_with fail
    refine (implAppAll x w7 (HTAB.out _ hb7') (by omega)).mono ?_
    rintro e w8 ⟨rfl, hb8⟩
    go_wp2_with fail
    refine (specAppAll x w8 (by omega)).mono ?_
    rintro e w9 ⟨rfl, hb9⟩
    have hb9' := below_step hb7' (below_step hb8 hb9)
    clear hb6' hb7 hb7' hb8 hb9
    have hfl : (fmtRes n).1.size ≤ 9223372036854775807 := by
      unfold fmtRes
      split
      · rename_i h; have := int_size n (by omega) (by omega); show (intText n).size ≤ _; omega
      · show (0 : Nat) ≤ _; omega
    have CB := Lib.hid fun W (hW : Tab W) => implParseAll (fmtRes n).1 W hW hfl
    clear hfl
    by_cases hr : -999999 ≤ n ∧ n ≤ 999999
    · have ef : fmtRes n = (intText n, true) := by rw [fmtRes, if_pos hr]
      have ep : parseRes (intText n) = (n, true) := parse_text n hr.1 hr.2
      rw [ef] at CB ⊢
      have CB2 := Lib.hid fun W hW => by have := CB.out W hW; rw [ep] at this; exact this
      clear ef ep CB hr
      go_wp2_with fail
      refine (CB2.out _ (HTAB.out _ hb9')).mono ?_
      rintro e w10 ⟨rfl, hb10⟩
      have hb10' := below_step hb9' hb10
      clear CB2 hb9' hb10
      by_cases hs : Sealable x
      · have ea : appRes x = (sealText x, true) := by rw [appRes, if_pos hs]
        have hy := seal_sealed x hs
        have hhd := seal_head x hs
        have VY0 := fun W hW => implVerifyYes (sealText x) W hW hy
        rw [hhd] at VY0
        have VY := Lib.hid VY0
        have HCH := Lib.hid fun y' k v => changed x y' k v hs.2.1
        have hsz1 : 1 ≤ (sealText x).size := by rw [seal_size]; omega
        have hsz2 := hy.2
        rw [ea]
        clear ea hy hhd VY0 hs
        generalize sealText x = Y at *
        go_wp2_with fail
        refine (VY.out _ (HTAB.out _ hb10')).mono ?_
        rintro e w12 ⟨rfl, hb12⟩
        have hb12' := below_step hb10' hb12
        obtain ⟨cp, w13, hcv, hcells, hb13, hg13⟩ := bytes_of w12 Y
        have hb13' := below_step hb12' hb13
        have HCELLS := Lib.hid hcells
        have hg : w.heap.size ≤ w12.heap.size := hb12'.size
        clear hcells hb12
        go_wp2_with fail
        refine (C9.out _ hb13').mono ?_
        rintro e w' ⟨rfl, hw⟩
        subst hw
        have hm0 : 0 ≤ r9 % (Y.size : Int) := Int.emod_nonneg _ (by omega)
        have hm1 : r9 % (Y.size : Int) < (Y.size : Int) := Int.emod_lt_of_pos _ (by omega)
        go_wp2_with fail
        generalize hq : r9 % (Y.size : Int) = q at *
        have HQ := Lib.hid hq
        clear hq hcv
        obtain ⟨kk, rfl⟩ := Int.eq_ofNat_of_zero_le hm0
        have hkk : kk < Y.size := by omega
        obtain ⟨hck, hfk⟩ := HCELLS.out kk hkk
        obtain ⟨v, hvne, hxor⟩ := xor_byte Y[kk] (1 + r10 % 255) (by omega) (by omega)
        have HV := Lib.hid hvne
        have hbyte : ((Y[kk].toNat : Nat) : Int) ≤ 255 := by have := Y[kk].toNat_lt; omega
        clear hvne
        refine wp_region_still_tail 13 (by kernel_rfl) (by kernel_rfl) ?_
        simp only [List.take_succ_cons, List.take_zero, List.drop_succ_cons, List.drop_zero]
        repeat still_step
        still_call (C10.out _ hb13'.drew)
        repeat still_step
        refine wpStill_nil ?_
        change wpList _ _ _ _ _ w'.drew
        have e1 : r10.tmod 255 = r10 % 255 := Int.tmod_eq_emod_of_nonneg h100
        have e2 : IntKind.i64.wrap (1 + r10 % 255) = 1 + r10 % 255 := IntWalk.i64_in _ (by omega)
        have e3 : IntKind.u8.wrap (1 + r10 % 255) = 1 + r10 % 255 := IntWalk.u8_in _ (by omega)
        simp only [e1, e2, e3, hxor]
        have hbd := hb13'.drew
        have HCD : Hid (∀ j (h : j < Y.size), w'.drew.cell? ⟨w12.heap.size, j, none⟩ = some (.int .u8 (Y[j].toNat : Int)) ∧ w'.drew.frozen? ⟨w12.heap.size, j, none⟩ = false) := Lib.hid fun j h => HCELLS.out j h
        obtain ⟨hckd, hfkd⟩ := HCD.out kk hkk
        clear hxor e1 e2 e3 HCELLS hck hfk hb13 hg13 C9 C10 VY HC V hb10' hb12'
        generalize w'.drew = wd at *
        have HB := hbd.setCell (p := ⟨w12.heap.size, kk, none⟩) hg (.int .u8 (v.toNat : Int))
        have hcv2 := text_of wd w12.heap.size cp Y kk v hkk (fun j h => (HCD.out j h).1)
        have VN := implVerifyNo (withByte Y kk v) _ (HTAB.out _ HB) (by rw [Lib.size_eq]; show (Y.data.toList.set kk v).length ≤ _; rw [List.length_set, ← Lib.size_eq]; omega) (HCH.out (withByte Y kk v) kk v (by rw [← Lib.size_eq]; exact hkk) HV.out rfl)
        clear HCD HCH HV HTAB
        go_wp2_with fail
        refine VN.mono ?_
        rintro e w14 ⟨rfl, hb14⟩
        go_wp2
        go_ret
        exact ⟨rfl, below_step HB hb14⟩
      · have ea : appRes x = (⟨#[]⟩, false) := by rw [appRes, if_neg hs]
        rw [ea]
        clear ea hs
        go_wp2
        go_ret
        exact ⟨rfl, hb10'⟩
    · have ef : fmtRes n = (⟨#[]⟩, false) := by rw [fmtRes, if_neg hr]
      have ep : parseRes ⟨#[]⟩ = (0, false) := by rw [parseRes, dif_pos no_empty]
      rw [ef] at CB ⊢
      have CB2 := Lib.hid fun W hW => by have := CB.out W hW; rw [ep] at this; exact this
      clear ef ep CB hr
      go_wp2_with fail
      refine (CB2.out _ (HTAB.out _ hb9')).mono ?_
      rintro e w10 ⟨rfl, hb10⟩
      have hb10' := below_step hb9' hb10
      clear CB2 hb9' hb10
      by_cases hs : Sealable x
      · have ea : appRes x = (sealText x, true) := by rw [appRes, if_pos hs]
        have hy := seal_sealed x hs
        have hhd := seal_head x hs
        have VY0 := fun W hW => implVerifyYes (sealText x) W hW hy
        rw [hhd] at VY0
        have VY := Lib.hid VY0
        have HCH := Lib.hid fun y' k v => changed x y' k v hs.2.1
        have hsz1 : 1 ≤ (sealText x).size := by rw [seal_size]; omega
        have hsz2 := hy.2
        rw [ea]
        clear ea hy hhd VY0 hs
        generalize sealText x = Y at *
        go_wp2_with fail
        refine (VY.out _ (HTAB.out _ hb10')).mono ?_
        rintro e w12 ⟨rfl, hb12⟩
        have hb12' := below_step hb10' hb12
        obtain ⟨cp, w13, hcv, hcells, hb13, hg13⟩ := bytes_of w12 Y
        have hb13' := below_step hb12' hb13
        have HCELLS := Lib.hid hcells
        have hg : w.heap.size ≤ w12.heap.size := hb12'.size
        clear hcells hb12
        go_wp2_with fail
        refine (C9.out _ hb13').mono ?_
        rintro e w' ⟨rfl, hw⟩
        subst hw
        have hm0 : 0 ≤ r9 % (Y.size : Int) := Int.emod_nonneg _ (by omega)
        have hm1 : r9 % (Y.size : Int) < (Y.size : Int) := Int.emod_lt_of_pos _ (by omega)
        go_wp2_with fail
        generalize hq : r9 % (Y.size : Int) = q at *
        have HQ := Lib.hid hq
        clear hq hcv
        obtain ⟨kk, rfl⟩ := Int.eq_ofNat_of_zero_le hm0
        have hkk : kk < Y.size := by omega
        obtain ⟨hck, hfk⟩ := HCELLS.out kk hkk
        obtain ⟨v, hvne, hxor⟩ := xor_byte Y[kk] (1 + r10 % 255) (by omega) (by omega)
        have HV := Lib.hid hvne
        have hbyte : ((Y[kk].toNat : Nat) : Int) ≤ 255 := by have := Y[kk].toNat_lt; omega
        clear hvne
        refine wp_region_still_tail 13 (by kernel_rfl) (by kernel_rfl) ?_
        simp only [List.take_succ_cons, List.take_zero, List.drop_succ_cons, List.drop_zero]
        repeat still_step
        still_call (C10.out _ hb13'.drew)
        repeat still_step
        refine wpStill_nil ?_
        change wpList _ _ _ _ _ w'.drew
        have e1 : r10.tmod 255 = r10 % 255 := Int.tmod_eq_emod_of_nonneg h100
        have e2 : IntKind.i64.wrap (1 + r10 % 255) = 1 + r10 % 255 := IntWalk.i64_in _ (by omega)
        have e3 : IntKind.u8.wrap (1 + r10 % 255) = 1 + r10 % 255 := IntWalk.u8_in _ (by omega)
        simp only [e1, e2, e3, hxor]
        have hbd := hb13'.drew
        have HCD : Hid (∀ j (h : j < Y.size), w'.drew.cell? ⟨w12.heap.size, j, none⟩ = some (.int .u8 (Y[j].toNat : Int)) ∧ w'.drew.frozen? ⟨w12.heap.size, j, none⟩ = false) := Lib.hid fun j h => HCELLS.out j h
        obtain ⟨hckd, hfkd⟩ := HCD.out kk hkk
        clear hxor e1 e2 e3 HCELLS hck hfk hb13 hg13 C9 C10 VY HC V hb10' hb12'
        generalize w'.drew = wd at *
        have HB := hbd.setCell (p := ⟨w12.heap.size, kk, none⟩) hg (.int .u8 (v.toNat : Int))
        have hcv2 := text_of wd w12.heap.size cp Y kk v hkk (fun j h => (HCD.out j h).1)
        have VN := implVerifyNo (withByte Y kk v) _ (HTAB.out _ HB) (by rw [Lib.size_eq]; show (Y.data.toList.set kk v).length ≤ _; rw [List.length_set, ← Lib.size_eq]; omega) (HCH.out (withByte Y kk v) kk v (by rw [← Lib.size_eq]; exact hkk) HV.out rfl)
        clear HCD HCH HV HTAB
        go_wp2_with fail
        refine VN.mono ?_
        rintro e w14 ⟨rfl, hb14⟩
        go_wp2
        go_ret
        exact ⟨rfl, below_step HB hb14⟩
      · have ea : appRes x = (⟨#[]⟩, false) := by rw [appRes, if_neg hs]
        rw [ea]
        clear ea hs
        go_wp2
        go_ret
        exact ⟨rfl, hb10'⟩
  · have V := Lib.hid (vBig_any w a0 l0 c0 true (by simp; omega))
    clear hcode w0 ht
    go_enter Tryd.func3, Tryd.ntmps3
    go_wp2_with fail
    refine V.out.mono ?_
    rintro e w' ⟨rfl, rfl⟩
    go_wp2
    go_ret
    exact ⟨rfl, Below.refl _ _⟩
end Go.Proofs.YtopdaocamjfbdaaDoor
