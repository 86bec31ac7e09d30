/- An operation that makes no memory yields what is reckoned: the others, and all of them. -/
import Derived.Test.YtbkdmnohpjihgaaMd
namespace Go.Proofs.Ytbkdmnohpjihgaa.M
open Go.RowKit Abs
set_option linter.unusedVariables false
set_option linter.unusedSimpArgs false

section
variable {P : Program} {T : Tab} {w0 w : World} {B : Nat → Prop} {hd : Nat → Value} {S : AS} {a : Act} {val : Nat → Bd}
theorem fld_sound (hT : TOk P T) (hR : Rl w0 B hd S a w val) {s : TypeId} {X V : AV} {O : Ob} {v : Value} {f : Nat} (hx : VRel (okF S.H val) w S.H.length val X v) (h : fldF T s X f = some (V, O)) :
    ∃ u, (Instr.fieldAt s v f).run P w = .ok u w ∧ VRel (okF S.H val) w S.H.length val V u := by
  unfold fldF at h
  split at h
  · rename_i fs hu
    split at h
    · rename_i off ft hf
      cases hs : ((tl T ft).size == 0) with
      | true => rw [hs] at h; cases h
      | false =>
        rw [hs] at h
        simp only [Bool.false_eq_true, ↓reduceIte] at h
        have hs' : (tl T ft).size ≠ 0 := by simpa using hs
        have hE := EOk.of_size hT hs'
        have hfo := hT.field hu hf
        split at h
        · rename_i n j
          simp only [Option.some.injEq, Prod.mk.injEq] at h
          obtain ⟨rfl, rfl⟩ := h
          simp only [VRel] at hx
          obtain ⟨hn, g, hv, rfl⟩ := hx
          exact ⟨_, fieldAddr_ok hfo hE.size hs', by simp only [VRel]; exact ⟨hn, g, hv, rfl⟩⟩
        · rename_i cs j
          simp only [Option.some.injEq, Prod.mk.injEq] at h
          obtain ⟨rfl, rfl⟩ := h
          simp only [VRel] at hx
          obtain ⟨g, us, rfl, hr⟩ := hx
          exact ⟨_, fieldAddr_ok hfo hE.size hs', by simp only [VRel]; exact ⟨g, us, rfl, hr⟩⟩
        · rename_i tt d
          simp only [Option.map_eq_some_iff, Prod.mk.injEq] at h
          obtain ⟨c, hc, rfl, rfl⟩ := h
          simp only [VRel] at hx
          obtain ⟨b, o, cs, rfl, h3, h4, h5, h6⟩ := hx
          exact ⟨_, fieldAddr_ok hfo hE.size hs', by simp only [VRel]; exact comp_prel (compU_comp hc) h3 h4 h5 h6⟩
        · cases h
    · cases h
  · cases h
theorem field_sound (hT : TOk P T) (hR : Rl w0 B hd S a w val) {s : TypeId} {X V : AV} {O : Ob} {v : Value} {f : Nat} (hx : VRel (okF S.H val) w S.H.length val X v) (h : fieldF T s X f = some (V, O)) :
    ∃ u, (Instr.field s v f).run P w = .ok u w ∧ VRel (okF S.H val) w S.H.length val V u := by
  unfold fieldF at h
  split at h
  · rename_i fs hu
    split at h
    · rename_i off ft hf
      have hfo := hT.field hu hf
      split at h
      · rename_i tt d
        split at h
        · rename_i c tt' hc hty
          simp only [Option.map_eq_some_iff, Prod.mk.injEq] at h
          obtain ⟨y, hy, rfl, rfl⟩ := h
          simp only [VRel] at hx
          obtain ⟨cs, rfl, hr⟩ := hx
          obtain ⟨h1, h2, hE⟩ := hT.ty hty
          obtain ⟨he, hcast⟩ := castT_rep (ok := okF S.H val) (w := w) hy
          have hc' := compU_comp hc
          have hn : c.1.n = (tl T ft).size := (comp_rep hc' hr).2
          obtain ⟨u, h3, h4⟩ := field_ok (P := P) (w := w) (c := ⟨c.1, c.2 ()⟩) hfo (by rw [hn]; exact hc') (by simp only; rw [he]; exact h1) hr
          refine ⟨u, h3, injT_rel ?_⟩
          obtain ⟨e, hye⟩ := castT_eq hy
          obtain ⟨ct, cx⟩ := c
          simp only at e
          subst e
          rw [hye]
          exact h4
        · cases h
      · rename_i l
        simp only [VRel] at hx
        obtain ⟨cs, rfl, hr, hone⟩ := hx
        have hlen := hr.len
        obtain ⟨gs, fd, hgs, hfd, rfl, rfl⟩ := fieldOf_spec hfo
        cases hle : (fd.offset + (tl T fd.type).size).ble l.length with
        | true =>
          rw [hle] at h
          simp only [↓reduceIte] at h
          have hle' := Nat.le_of_ble_eq_true hle
          cases hag : (tl T fd.type).agg with
          | true =>
            rw [hag] at h
            simp only [↓reduceIte, Option.some.injEq, Prod.mk.injEq] at h
            obtain ⟨rfl, rfl⟩ := h
            have hE := EOk.of_agg hT hag
            have hs := run_sz (w := w) hE.size
            have ha := run_agg (w := w) (b := true) (by rw [hE.agg, hag])
            refine ⟨.agg ((cs.drop fd.offset).take (tl T fd.type).size).toArray, ?_, ?_⟩
            · simp [Instr.field, run_underlying hgs w, hfd, asAgg, part, ha, hs, List.take_drop]
            · simp only [VRel]
              refine ⟨_, rfl, VRelL.of (by simp only [List.length_take, List.length_drop]; omega) fun j x hj => ?_, fun u hu => hone u (List.mem_of_mem_drop (List.mem_of_mem_take hu))⟩
              rw [List.getElem?_take] at hj ⊢
              split at hj
              · rename_i hjl
                rw [List.getElem?_drop] at hj ⊢
                obtain ⟨u, hu, hr'⟩ := hr.get hj
                exact ⟨u, by simpa [hjl] using hu, hr'⟩
              · cases hj
          | false =>
            rw [hag] at h
            simp only [Bool.false_eq_true, ↓reduceIte] at h
            cases hsz : ((tl T fd.type).size == 1) with
            | true =>
              rw [hsz] at h
              simp only [↓reduceIte, Option.map_eq_some_iff, Prod.mk.injEq] at h
              obtain ⟨y, hy, rfl, rfl⟩ := h
              have hE := EOk.of_size hT (t := fd.type) (by simp at hsz; omega)
              obtain ⟨u, hu, hr'⟩ := hr.get hy
              refine ⟨u, ?_, hr'⟩
              have hlt : fd.offset < cs.length := (List.getElem?_eq_some_iff.1 hu).1
              have hge := (List.getElem?_eq_some_iff.1 hu).2
              simp [Instr.field, run_underlying hgs w, hfd, asAgg, part, run_agg (P := P) (w := w) (b := false) (by rw [hE.agg, hag]), hlt, hge]
            | false => rw [hsz] at h; cases h
        | false => rw [hle] at h; cases h
      · cases h
    · cases h
  · cases h
theorem index_sound (hT : TOk P T) (hR : Rl w0 B hd S a w val) {s : TypeId} {X I V : AV} {O : Ob} {v i : Value} (hx : VRel (okF S.H val) w S.H.length val X v) (hi : VRel (okF S.H val) w S.H.length val I i) (h : indexF T s X I = some (V, O)) (hO : O.holds) :
    ∃ u, (Instr.index s v i).run P w = .ok u w ∧ VRel (okF S.H val) w S.H.length val V u := by
  unfold indexF at h
  split at h
  · rename_i d k
    simp only [VRel] at hx hi
    subst hi
    obtain ⟨cs, rfl, hr⟩ := hx
    split at h
    · rename_i e hu
      split at h
      · rename_i hty
        simp only [Option.some.injEq, Prod.mk.injEq] at h
        obtain ⟨rfl, rfl⟩ := h
        obtain ⟨h1, h2, hE⟩ := hT.ty hty
        have hk0 : 0 ≤ k () := hO.1
        have hk1 : k () < 2 := hO.2
        have hc : comp (.pr .int .int) (d ()) ((k ()).toNat * 1) 1 = some ⟨.int, at2 (d ()) (k ())⟩ := by
          have hk : k () = 0 ∨ k () = 1 := by omega
          rcases hk with hk | hk <;> rw [hk] <;> rfl
        obtain ⟨u, h3, h4⟩ := index_ok (P := P) (w := w) (c := ⟨.int, at2 (d ()) (k ())⟩) (hT.array hu) hk0 hk1 hc h1 hr
        exact ⟨u, h3, injT_rel (t := .int) (x := fun _ => at2 (d ()) (k ())) h4⟩
      · cases h
    · cases h
  · rename_i l k
    simp only [VRel] at hx hi
    subst hi
    obtain ⟨cs, rfl, hr, _⟩ := hx
    split at h
    · rename_i len e hu
      cases hc : ((tl T e).size == 1 && !(tl T e).agg && l.length == len) with
      | true =>
        rw [hc] at h
        simp only [↓reduceIte, Option.map_eq_some_iff, Prod.mk.injEq] at h
        obtain ⟨y, hy, rfl, rfl⟩ := h
        simp only [Bool.and_eq_true, beq_iff_eq, Bool.not_eq_true'] at hc
        obtain ⟨⟨hs1, hag⟩, hlen⟩ := hc
        have hE := EOk.of_size hT (t := e) (by omega)
        have hk0 : 0 ≤ k () := hO.1
        have hk1 : k () < (len : Int) := hO.2
        obtain ⟨u, hu', hr'⟩ := hr.get hy
        refine ⟨u, ?_, hr'⟩
        have hlt : (k ()).toNat < cs.length := (List.getElem?_eq_some_iff.1 hu').1
        have hge := (List.getElem?_eq_some_iff.1 hu').2
        simp [Instr.index, asIntOf, run_underlying (arElem_und (hT.array hu)) w, hk0, hk1, run_sz (w := w) (show szOf P e = some 1 by rw [hE.size, hs1]), asAgg, part, run_agg (P := P) (w := w) (b := false) (by rw [hE.agg, hag]), hlt, hge]
      | false => rw [hc] at h; cases h
    · cases h
  · rename_i s' k
    simp only [VRel] at hx hi
    subst hi
    subst hx
    split at h
    · rename_i hu
      simp only [Option.some.injEq, Prod.mk.injEq] at h
      obtain ⟨rfl, rfl⟩ := h
      have hk0 : 0 ≤ k () := hO.1
      have hk1 : k () < ((s' ()).size : Int) := hO.2
      have hlt : (k ()).toNat < (s' ()).size := by omega
      refine ⟨_, indexStr_ok (hT.string hu) hk0 (c := (s' ())[(k ()).toNat]) (by simp [hlt]), ?_⟩
      simp only [VRel]
      simp [hlt]
    · cases h
  · cases h
theorem len_sound (hT : TOk P T) (hR : Rl w0 B hd S a w val) {t ty : TypeId} {ts : List TypeId} {X V : AV} {O : Ob} {v : Value} (hx : VRel (okF S.H val) w S.H.length val X v) (h : lenF T S.H t X = some (V, O)) :
    ∃ u, (Builtin.len_ (t :: ts).toArray ty #[v]).run P w = .ok u w ∧ VRel (okF S.H val) w S.H.length val V u := by
  unfold lenF at h
  have key : ∀ {e : TypeId} {ad : Option Addr} {n cap : Nat}, (tl T t).und = .slice e → v = .slice ad n cap → (Builtin.len_ (t :: ts).toArray ty #[v]).run P w = .ok (.int .i64 n) w := by
    intro e ad n cap hu hv
    simp [Builtin.len_, run_underlying (slElem_und (hT.slice hu)) w, hv]
    rfl
  split at h
  · rename_i e tt l hu
    simp only [Option.some.injEq, Prod.mk.injEq] at h
    obtain ⟨rfl, rfl⟩ := h
    simp only [VRel] at hx
    have hx' := hx
    unfold Rep at hx'
    obtain ⟨ad, cap, h1, _⟩ := hx'
    simp at h1
    exact ⟨_, key hu h1, by simp only [VRel]⟩
  · rename_i e hu
    simp only [Option.some.injEq, Prod.mk.injEq] at h
    obtain ⟨rfl, rfl⟩ := h
    simp only [VRel] at hx
    exact ⟨_, key hu hx, by simp only [VRel]; rfl⟩
  · rename_i e n hu
    simp only [VRel] at hx
    split at h
    · rename_i e' tt l hH
      simp only [Option.some.injEq, Prod.mk.injEq] at h
      obtain ⟨rfl, rfl⟩ := h
      obtain ⟨xs, k1, _⟩ := hR.heap.blk n _ hH
      have h3 : ∃ ad cap, v = .slice ad (l ()).length cap := by
        rw [hx.2]
        rcases k1.2 with ⟨h4, h5⟩ | ⟨g, cap, cur, h4, _⟩
        · rw [h4, h5]; exact ⟨_, _, rfl⟩
        · rw [h4]; exact ⟨_, _, rfl⟩
      obtain ⟨ad, cap, h3⟩ := h3
      exact ⟨_, key hu h3, by simp only [VRel]⟩
    · rename_i e' e2 tt l hH
      simp only [Option.some.injEq, Prod.mk.injEq] at h
      obtain ⟨rfl, rfl⟩ := h
      obtain ⟨k1, _⟩ := hR.heap.blk n _ hH
      have h3 : ∃ ad cap, v = .slice ad (l ()).length cap := by
        rw [hx.2]
        rcases k1.2 with ⟨h4, h5⟩ | ⟨g, cap, cur, h4, _⟩
        · rw [h4, h5]; exact ⟨_, _, rfl⟩
        · rw [h4]; exact ⟨_, _, rfl⟩
      obtain ⟨ad, cap, h3⟩ := h3
      exact ⟨_, key hu h3, by simp only [VRel]⟩
    · cases h
  · rename_i e n i hu
    simp only [VRel] at hx
    obtain ⟨hn, h0, hv⟩ := hx
    split at h
    · rename_i e' e2 tt l hH
      simp only [Option.some.injEq, Prod.mk.injEq] at h
      obtain ⟨rfl, rfl⟩ := h
      obtain ⟨k1, k2, k3, k4⟩ := hR.heap.blk n _ hH
      have hhs : (val n).hs.length = (l ()).length := by have := k1.1; simpa using this
      have hlt : (i ()).toNat < (l ()).length := by rw [← hhs]; exact (List.getElem?_eq_some_iff.1 hv).1
      obtain ⟨h, xs, m1, m2, m3⟩ := k2 _ _ (getR_get (i := i ()) h0 (by omega))
      rw [hv] at m1
      cases m1
      have h3 : ∃ ad cap, v = .slice ad (getR tt (l ()) (i ())).length cap := by
        rcases m2.2 with ⟨h4, h5⟩ | ⟨g, cap, cur, h4, _⟩
        · rw [h4, h5]; exact ⟨_, _, rfl⟩
        · rw [h4]; exact ⟨_, _, rfl⟩
      obtain ⟨ad, cap, h3⟩ := h3
      exact ⟨_, key hu h3, by simp only [VRel]⟩
    · cases h
  · rename_i s hu
    simp only [Option.some.injEq, Prod.mk.injEq] at h
    obtain ⟨rfl, rfl⟩ := h
    simp only [VRel] at hx
    subst hx
    exact ⟨.int .i64 ((s ()).size : Int), by simp [Builtin.len_, run_underlying (hT.string hu) w, goInt], by simp only [VRel]⟩
  · cases h
theorem conv_sound (hT : TOk P T) {ok : Nat → Prop} {N : Nat} {s d : TypeId} {X V : AV} {O : Ob} {v : Value} (hx : VRel ok w N val X v) (h : convF T s d X = some (V, O)) (hO : O.holds) :
    ∃ u, (convert s d v).run P w = .ok u w ∧ VRel ok w N val V u := by
  unfold convF at h
  split at h
  · rename_i k hs hd
    simp only [Option.some.injEq, Prod.mk.injEq] at h
    obtain ⟨rfl, rfl⟩ := h
    simp only [VRel] at hx
    subst hx
    refine ⟨_, by simp [convert, run_underlying (hT.int hs) w, run_underlying (hT.int hd) w, Conv.intToInt]; rfl, ?_⟩
    simp only [VRel]
    rw [wrap_in hO]
  · rename_i k hs hd
    simp only [Option.some.injEq, Prod.mk.injEq] at h
    obtain ⟨rfl, rfl⟩ := h
    simp only [VRel] at hx
    subst hx
    have h0 : 0 ≤ k () := hO.1
    have h1 : k () ≤ 9223372036854775807 := hO.2
    refine ⟨_, by simp [convert, run_underlying (hT.int hs) w, run_underlying (hT.int hd) w, Conv.intToInt]; rfl, ?_⟩
    simp only [VRel]
    have h2 : (2 : Int) ^ IntKind.u64.bits = 18446744073709551616 := by decide
    have e : IntKind.u64.wrap (k ()) = k () := by
      unfold IntKind.wrap
      simp only [IntKind.signed, h2]
      have : k () % 18446744073709551616 = k () := by omega
      simp [this]
    rw [e]
  · rename_i k hs hd
    simp only [Option.some.injEq, Prod.mk.injEq] at h
    obtain ⟨rfl, rfl⟩ := h
    simp only [VRel] at hx
    subst hx
    refine ⟨_, by simp [convert, run_underlying (hT.int hs) w, run_underlying (hT.int hd) w, Conv.intToInt]; rfl, ?_⟩
    simp only [VRel]
    rw [wrap_in hO]
  · rename_i k hs hd
    simp only [Option.some.injEq, Prod.mk.injEq] at h
    obtain ⟨rfl, rfl⟩ := h
    simp only [VRel] at hx
    subst hx
    refine ⟨_, by simp [convert, run_underlying (hT.int hs) w, run_underlying (hT.int hd) w, Conv.intToInt]; rfl, ?_⟩
    simp only [VRel]
    rw [wrap_in hO]
  · cases h
end
end Go.Proofs.Ytbkdmnohpjihgaa.M
