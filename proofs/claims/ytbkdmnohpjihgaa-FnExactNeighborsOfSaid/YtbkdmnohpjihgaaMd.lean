/- An operation that makes no memory yields what is reckoned. -/
import Derived.Test.YtbkdmnohpjihgaaMc
namespace Go.Proofs.Ytbkdmnohpjihgaa.M
open Go.RowKit Abs
set_option linter.unusedVariables false
set_option linter.unusedSimpArgs false

section
variable {P : Program} {T : Tab} {w0 w : World} {B : Nat → Prop} {hd : Nat → Value} {S : AS} {a : Act} {val : Nat → Bd}
theorem EOk.of_size (hT : TOk P T) {t : TypeId} (h : (tl T t).size ≠ 0) : EOk P t (tl T t) := by
  rcases hT t with h1 | h1
  · rw [h1] at h; exact (h rfl).elim
  · exact h1
theorem EOk.of_agg (hT : TOk P T) {t : TypeId} (h : (tl T t).agg = true) : EOk P t (tl T t) := by
  rcases hT t with h1 | h1
  · rw [h1] at h; cases h
  · exact h1
theorem row_at {ok : Nat → Prop} {e : TypeId} {t : Ty} {l : List t.den} {v : Value} {xs : List Value} (h : w.ownsRow 0 e t.n v l.length xs) (hr : RepL ok w t l xs) {g len cap : Nat} (hv : v = .slice (some ⟨g, 0, none⟩) len cap) {i : Int} (h0 : 0 ≤ i) (h1 : i < (len : Int)) :
    len = l.length ∧ ∃ cs, Rep ok w t (getI t l i) cs ∧ ∀ j u, cs[j]? = some u → w.cell? ⟨g, i.toNat * t.n + j, none⟩ = some u := by
  rcases h.2 with ⟨h2, _⟩ | ⟨g', cap', cur, h2, h3, h4, h5⟩
  · rw [hv] at h2; cases h2
  · have h2' := h2
    rw [hv] at h2
    cases h2
    refine ⟨rfl, _, hr.2 _ _ (getI_get h0 h1), fun j u hu => ?_⟩
    rw [List.getElem?_take] at hu
    split at hu
    · rw [List.getElem?_drop] at hu
      have := h.cells (g := g) (by rw [h2']; rfl) _ u hu
      rw [Addr.add_lit] at this
      simpa using this
    · cases hu
theorem load_sound (hT : TOk P T) (hR : Rl w0 B hd S a w val) {t : TypeId} {X V : AV} {O : Ob} {v : Value} (hx : VRel (okF S.H val) w S.H.length val X v) (h : loadF T S.H t X = some (V, O)) :
    ∃ u, (Instr.loadAt t v).run P w = .ok u w ∧ VRel (okF S.H val) w S.H.length val V u := by
  unfold loadF at h
  split at h
  · rename_i tt x
    simp only [VRel] at hx
    split at h
    · rename_i tt' hty
      simp only [Option.map_eq_some_iff, Prod.mk.injEq] at h
      obtain ⟨y, hy, rfl, rfl⟩ := h
      obtain ⟨b, o, cs, rfl, h2, h3, h4, h5⟩ := hx
      obtain ⟨_, hc⟩ := castT_rep (ok := okF S.H val) (w := w) hy
      obtain ⟨u, h6, h7⟩ := load_ok (hT.ty hty).1 (hc cs h4) h5
      exact ⟨u, h6, injT_rel h7⟩
    · cases h
  · rename_i n i
    simp only [VRel] at hx
    obtain ⟨hn, g, hv, rfl⟩ := hx
    split at h
    · rename_i e cs hH
      obtain ⟨g', cur, k1, k2, k3, k4, k5⟩ := hR.heap.blk n _ hH
      rw [hv] at k1
      cases k1
      cases hag : (tl T t).agg with
      | true =>
        rw [hag] at h
        simp only [↓reduceIte] at h
        cases hle : (i + (tl T t).size).ble cs.length with
        | true =>
          rw [hle] at h
          simp only [↓reduceIte, Option.some.injEq, Prod.mk.injEq] at h
          obtain ⟨rfl, rfl⟩ := h
          have hle' := Nat.le_of_ble_eq_true hle
          have hE := EOk.of_agg hT hag
          have hlen := k3.len
          have hs := run_sz (w := w) hE.size
          have ha := run_agg (w := w) (b := true) (by rw [hE.agg, hag])
          have hld := run_loadCells_list (P := P) w ⟨g, i, none⟩ ((cur.toList.drop i).take (tl T t).size) (fun j v hj => by
            rw [List.getElem?_take] at hj
            split at hj
            · rw [List.getElem?_drop] at hj
              rw [Addr.add_lit]
              simp [World.cell?, k2]
              simpa using hj
            · cases hj)
          have hl2 : ((cur.toList.drop i).take (tl T t).size).length = (tl T t).size := by
            rw [List.length_take, List.length_drop]; omega
          rw [hl2] at hld
          refine ⟨.agg ((cur.toList.drop i).take (tl T t).size).toArray, ?_, ?_⟩
          · unfold Instr.loadAt Instr.sureAddr loadVar
            simp [ha, hs, hld]
          · simp only [VRel]
            refine ⟨_, rfl, VRelL.of ?_ fun j x hj => ?_, fun u hu => k4 u (List.mem_of_mem_drop (List.mem_of_mem_take hu))⟩
            · rw [hl2, List.length_take, List.length_drop]; omega
            · rw [List.getElem?_take] at hj ⊢
              split at hj
              · rename_i hjl
                rw [List.getElem?_drop] at hj ⊢
                obtain ⟨u, hu, hr⟩ := k3.get hj
                exact ⟨u, by simpa [hjl] using hu, hr⟩
              · cases hj
        | false => rw [hle] at h; cases h
      | false =>
        rw [hag] at h
        simp only [Bool.false_eq_true, ↓reduceIte] at h
        cases hsz : ((tl T t).size == 1) with
        | true =>
          rw [hsz] at h
          simp only [↓reduceIte, Option.map_eq_some_iff, Prod.mk.injEq] at h
          obtain ⟨y, hy, rfl, rfl⟩ := h
          have hE := EOk.of_size hT (t := t) (by simp at hsz; omega)
          obtain ⟨u, hu, hr⟩ := k3.get hy
          refine ⟨u, ?_, hr⟩
          have hc : w.cell? ⟨g, i, none⟩ = some u := by simp [World.cell?, k2]; simpa using hu
          simp [Instr.loadAt, Instr.sureAddr, loadVar, run_agg (P := P) (w := w) (b := false) (by rw [hE.agg, hag]), hc]
        | false => rw [hsz] at h; cases h
    · cases h
  · rename_i cs i
    simp only [VRel] at hx
    obtain ⟨g, us, rfl, hok, hlt, hcell, k3, k4⟩ := hx
    cases hag : (tl T t).agg with
    | true =>
      rw [hag] at h
      simp only [↓reduceIte] at h
      cases hle : (i + (tl T t).size).ble cs.length with
      | true =>
        rw [hle] at h
        simp only [↓reduceIte, Option.some.injEq, Prod.mk.injEq] at h
        obtain ⟨rfl, rfl⟩ := h
        have hle' := Nat.le_of_ble_eq_true hle
        have hE := EOk.of_agg hT hag
        have hlen := k3.len
        have hs := run_sz (w := w) hE.size
        have ha := run_agg (w := w) (b := true) (by rw [hE.agg, hag])
        have hld := run_loadCells_list (P := P) w ⟨g, i, none⟩ ((us.drop i).take (tl T t).size) (fun j v hj => by
          rw [List.getElem?_take] at hj
          split at hj
          · rw [List.getElem?_drop] at hj
            rw [Addr.add_lit]
            exact hcell _ v hj
          · cases hj)
        have hl2 : ((us.drop i).take (tl T t).size).length = (tl T t).size := by
          rw [List.length_take, List.length_drop]; omega
        rw [hl2] at hld
        refine ⟨.agg ((us.drop i).take (tl T t).size).toArray, ?_, ?_⟩
        · unfold Instr.loadAt Instr.sureAddr loadVar
          simp [ha, hs, hld]
        · simp only [VRel]
          refine ⟨_, rfl, VRelL.of ?_ fun j x hj => ?_, fun u hu => k4 u (List.mem_of_mem_drop (List.mem_of_mem_take hu))⟩
          · rw [hl2, List.length_take, List.length_drop]; omega
          · rw [List.getElem?_take] at hj ⊢
            split at hj
            · rename_i hjl
              rw [List.getElem?_drop] at hj ⊢
              obtain ⟨u, hu, hr⟩ := k3.get hj
              exact ⟨u, by simpa [hjl] using hu, hr⟩
            · cases hj
      | false => rw [hle] at h; cases h
    | false =>
      rw [hag] at h
      simp only [Bool.false_eq_true, ↓reduceIte] at h
      cases hsz : ((tl T t).size == 1) with
      | true =>
        rw [hsz] at h
        simp only [↓reduceIte, Option.map_eq_some_iff, Prod.mk.injEq] at h
        obtain ⟨y, hy, rfl, rfl⟩ := h
        have hE := EOk.of_size hT (t := t) (by simp at hsz; omega)
        obtain ⟨u, hu, hr⟩ := k3.get hy
        exact ⟨u, by simp [Instr.loadAt, Instr.sureAddr, loadVar, run_agg (P := P) (w := w) (b := false) (by rw [hE.agg, hag]), hcell i u hu], hr⟩
      | false => rw [hsz] at h; cases h
  · rename_i n i k
    simp only [VRel] at hx
    obtain ⟨hn, g, len, cap, hv, h0, h1, rfl⟩ := hx
    split at h
    · rename_i e tt l hH
      cases hk : (k == tt.n) with
      | true =>
        rw [hk] at h
        simp only [↓reduceIte] at h
        simp only [beq_iff_eq] at hk
        subst hk
        split at h
        · rename_i tt' hty
          simp only [Option.map_eq_some_iff, Prod.mk.injEq] at h
          obtain ⟨y, hy, rfl, rfl⟩ := h
          obtain ⟨xs, k1, k2, k3⟩ := hR.heap.blk n _ hH
          obtain ⟨rfl, cs, hrep, hcell⟩ := row_at k1 k2 hv h0 h1
          obtain ⟨_, hc⟩ := castT_rep (ok := okF S.H val) (w := w) hy
          obtain ⟨u, h6, h7⟩ := load_ok (hT.ty hty).1 (hc cs hrep) hcell
          exact ⟨u, h6, injT_rel h7⟩
        · cases h
      | false => rw [hk] at h; cases h
    · rename_i e e2 tt l hH
      cases hk : (k == 1 && (tl T t).size == 1 && !(tl T t).agg) with
      | true =>
        rw [hk] at h
        simp only [↓reduceIte, Option.some.injEq, Prod.mk.injEq] at h
        obtain ⟨rfl, rfl⟩ := h
        simp only [Bool.and_eq_true, beq_iff_eq, Bool.not_eq_true'] at hk
        obtain ⟨⟨rfl, hs1⟩, hag⟩ := hk
        have hE := EOk.of_size hT (t := t) (by omega)
        obtain ⟨k1, k2, k3, k4⟩ := hR.heap.blk n _ hH
        rcases k1.2 with ⟨m1, _⟩ | ⟨g', cap', cur, m1, m2, m3, m4⟩
        · rw [hv] at m1; cases m1
        · have m1' := m1
          rw [hv] at m1
          cases m1
          have hhs : (val n).hs.length = (l ()).length := by have := k1.1; simpa using this
          obtain ⟨u, hu⟩ : ∃ u, (val n).hs[(i ()).toNat]? = some u := ⟨_, List.getElem?_eq_getElem (by omega)⟩
          have := k1.cells (g := g) (by rw [m1']; rfl) _ u hu
          rw [Addr.add_lit] at this
          refine ⟨u, ?_, by simp only [VRel]; exact ⟨hn, h0, hu⟩⟩
          have hc : w.cell? ⟨g, (i ()).toNat * 1, none⟩ = some u := by simpa using this
          simp [Instr.loadAt, Instr.sureAddr, loadVar, run_agg (P := P) (w := w) (b := false) (by rw [hE.agg, hag])]
          rw [Nat.mul_one] at hc
          rw [hc]
      | false => rw [hk] at h; cases h
    · cases h
  · rename_i n i j k
    simp only [VRel] at hx
    obtain ⟨hn, h0, g, len, cap, hv, h1, h2, rfl⟩ := hx
    split at h
    · rename_i e e2 tt l hH
      cases hk : (k == tt.n) with
      | true =>
        rw [hk] at h
        simp only [↓reduceIte] at h
        simp only [beq_iff_eq] at hk
        subst hk
        split at h
        · rename_i tt' hty
          simp only [Option.map_eq_some_iff, Prod.mk.injEq] at h
          obtain ⟨y, hy, rfl, rfl⟩ := h
          obtain ⟨k1, k2, k3, k4⟩ := hR.heap.blk n _ hH
          have hhs : (val n).hs.length = (l ()).length := by have := k1.1; simpa using this
          have hlt : (i ()).toNat < (l ()).length := by rw [← hhs]; exact (List.getElem?_eq_some_iff.1 hv).1
          obtain ⟨h, xs, m1, m2, m3⟩ := k2 _ _ (getR_get (i := i ()) h0 (by omega))
          rw [hv] at m1
          cases m1
          obtain ⟨_, cs, hrep, hcell⟩ := row_at m2 m3 rfl h1 h2
          obtain ⟨_, hc⟩ := castT_rep (ok := okF S.H val) (w := w) hy
          obtain ⟨u, h6, h7⟩ := load_ok (hT.ty hty).1 (hc cs hrep) hcell
          exact ⟨u, h6, injT_rel h7⟩
        · cases h
      | false => rw [hk] at h; cases h
    · cases h
  · cases h
theorem idx_sound (hT : TOk P T) (hR : Rl w0 B hd S a w val) {t : TypeId} {X I V : AV} {O : Ob} {v i : Value} (hx : VRel (okF S.H val) w S.H.length val X v) (hi : VRel (okF S.H val) w S.H.length val I i) (h : idxF T S.H t X I = some (V, O)) (hO : O.holds) :
    ∃ u, (Instr.indexAt t v i).run P w = .ok u w ∧ VRel (okF S.H val) w S.H.length val V u := by
  unfold idxF at h
  split at h
  · rename_i k
    simp only [VRel] at hi
    subst hi
    split at h
    · rename_i e tt l hu
      simp only [VRel] at hx
      cases hs : ((tl T e).size == tt.n) with
      | true =>
        rw [hs] at h
        simp only [↓reduceIte, Option.some.injEq, Prod.mk.injEq] at h
        obtain ⟨rfl, rfl⟩ := h
        simp only [beq_iff_eq] at hs
        have hE := EOk.of_size hT (t := e) (by have := tt.n_pos; omega)
        obtain ⟨u, h1, h2⟩ := indexAddr_sl (hT.slice hu) (by rw [hE.size, hs]) hx hO.1 (getI_get hO.1 hO.2)
        exact ⟨u, h1, by simp only [VRel]; exact h2⟩
      | false => rw [hs] at h; cases h
    · rename_i e n hu
      simp only [VRel] at hx
      obtain ⟨hn, rfl⟩ := hx
      split at h
      · rename_i e' tt l hH
        cases hs : ((tl T e).size == tt.n) with
        | true =>
          rw [hs] at h
          simp only [↓reduceIte, Option.some.injEq, Prod.mk.injEq] at h
          obtain ⟨rfl, rfl⟩ := h
          simp only [beq_iff_eq] at hs
          have hE := EOk.of_size hT (t := e) (by have := tt.n_pos; omega)
          obtain ⟨xs, k1, k2, k3⟩ := hR.heap.blk n _ hH
          have hk0 : 0 ≤ k () := hO.1
          have hk1 : k () < ((l ()).length : Int) := hO.2
          rcases k1.2 with ⟨_, m1⟩ | ⟨g, cap, cur, m1, _⟩
          · rw [m1] at hk1; simp at hk1; omega
          · refine ⟨_, ?_, by simp only [VRel]; exact ⟨hn, g, _, _, m1, hk0, hk1, rfl⟩⟩
            rw [m1]
            simp [Instr.indexAt, asIntOf, run_underlying (slElem_und (hT.slice hu)) w, hk0, hk1, run_sz (w := w) (show szOf P e = some tt.n by rw [hE.size, hs]), Addr.add_lit]
        | false => rw [hs] at h; cases h
      · rename_i e' e2 tt l hH
        cases hs : ((tl T e).size == 1) with
        | true =>
          rw [hs] at h
          simp only [↓reduceIte, Option.some.injEq, Prod.mk.injEq] at h
          obtain ⟨rfl, rfl⟩ := h
          simp only [beq_iff_eq] at hs
          have hE := EOk.of_size hT (t := e) (by omega)
          obtain ⟨k1, k2, k3, k4⟩ := hR.heap.blk n _ hH
          have hk0 : 0 ≤ k () := hO.1
          have hk1 : k () < ((l ()).length : Int) := hO.2
          rcases k1.2 with ⟨_, m1⟩ | ⟨g, cap, cur, m1, _⟩
          · rw [m1] at hk1; simp at hk1; omega
          · refine ⟨_, ?_, by simp only [VRel]; exact ⟨hn, g, _, _, m1, hk0, hk1, rfl⟩⟩
            rw [m1]
            simp [Instr.indexAt, asIntOf, run_underlying (slElem_und (hT.slice hu)) w, hk0, hk1, run_sz (w := w) (show szOf P e = some 1 by rw [hE.size, hs]), Addr.add_lit]
        | false => rw [hs] at h; cases h
      · rename_i e' e2 tt l kk hH
        cases hs : ((tl T e).size == 1) with
        | true =>
          rw [hs] at h
          simp only [↓reduceIte, Option.some.injEq, Prod.mk.injEq] at h
          obtain ⟨rfl, rfl⟩ := h
          simp only [beq_iff_eq] at hs
          have hE := EOk.of_size hT (t := e) (by omega)
          obtain ⟨k1, k2, k3, k4⟩ := hR.heap.blk n _ hH
          have hk0 : 0 ≤ k () := hO.1
          have hk1 : k () < ((l ()).length : Int) := hO.2
          rcases k1.2 with ⟨_, m1⟩ | ⟨g, cap, cur, m1, _⟩
          · rw [m1] at hk1; simp at hk1; omega
          · refine ⟨_, ?_, by simp only [VRel]; exact ⟨hn, g, _, _, m1, hk0, hk1, rfl⟩⟩
            rw [m1]
            simp [Instr.indexAt, asIntOf, run_underlying (slElem_und (hT.slice hu)) w, hk0, hk1, run_sz (w := w) (show szOf P e = some 1 by rw [hE.size, hs]), Addr.add_lit]
        | false => rw [hs] at h; cases h
      · cases h
    · rename_i e n i hu
      simp only [VRel] at hx
      obtain ⟨hn, h0, hv⟩ := hx
      split at h
      · rename_i e' e2 tt l hH
        cases hs : ((tl T e).size == tt.n) with
        | true =>
          rw [hs] at h
          simp only [↓reduceIte, Option.some.injEq, Prod.mk.injEq] at h
          obtain ⟨rfl, rfl⟩ := h
          simp only [beq_iff_eq] at hs
          have hE := EOk.of_size hT (t := e) (by have := tt.n_pos; omega)
          obtain ⟨k1, k2, k3, k4⟩ := hR.heap.blk n _ hH
          have hk0 : 0 ≤ k () := hO.1
          have hk1 : k () < ((getR tt (l ()) (i ())).length : Int) := hO.2
          have hhs : (val n).hs.length = (l ()).length := by have := k1.1; simpa using this
          have hlt : (i ()).toNat < (l ()).length := by rw [← hhs]; exact (List.getElem?_eq_some_iff.1 hv).1
          obtain ⟨h, xs, m1, m2, m3⟩ := k2 _ _ (getR_get (i := i ()) h0 (by omega))
          rw [hv] at m1
          cases m1
          rcases m2.2 with ⟨_, m4⟩ | ⟨g, cap, cur, m4, _⟩
          · rw [m4] at hk1; simp at hk1; omega
          · refine ⟨_, ?_, by simp only [VRel]; exact ⟨hn, h0, g, _, _, by rw [hv, m4], hk0, hk1, rfl⟩⟩
            rw [m4]
            simp [Instr.indexAt, asIntOf, run_underlying (slElem_und (hT.slice hu)) w, hk0, hk1, run_sz (w := w) (show szOf P e = some tt.n by rw [hE.size, hs]), Addr.add_lit]
        | false => rw [hs] at h; cases h
      · cases h
    · rename_i len e n j hu
      simp only [VRel] at hx
      obtain ⟨hn, g, hv, rfl⟩ := hx
      cases hs : ((tl T e).size == 0) with
      | true => rw [hs] at h; cases h
      | false =>
        rw [hs] at h
        simp only [Bool.false_eq_true, ↓reduceIte, Option.some.injEq, Prod.mk.injEq] at h
        obtain ⟨rfl, rfl⟩ := h
        have hE := EOk.of_size hT (t := e) (by simpa using hs)
        have hk0 : 0 ≤ k () := hO.1
        have hk1 : k () < (len : Int) := hO.2
        refine ⟨_, ?_, by simp only [VRel]; exact ⟨hn, g, hv, rfl⟩⟩
        simp [Instr.indexAt, asIntOf, run_underlying (arElem_und (hT.array hu)) w, Instr.sureAddr, hk0, hk1, run_sz hE.size, Addr.add_lit]
    · rename_i len e cs j hu
      simp only [VRel] at hx
      obtain ⟨g, us, rfl, hr⟩ := hx
      cases hs : ((tl T e).size == 0) with
      | true => rw [hs] at h; cases h
      | false =>
        rw [hs] at h
        simp only [Bool.false_eq_true, ↓reduceIte, Option.some.injEq, Prod.mk.injEq] at h
        obtain ⟨rfl, rfl⟩ := h
        have hE := EOk.of_size hT (t := e) (by simpa using hs)
        have hk0 : 0 ≤ k () := hO.1
        have hk1 : k () < (len : Int) := hO.2
        refine ⟨_, ?_, by simp only [VRel]; exact ⟨g, us, rfl, hr⟩⟩
        simp [Instr.indexAt, asIntOf, run_underlying (arElem_und (hT.array hu)) w, Instr.sureAddr, hk0, hk1, run_sz hE.size, Addr.add_lit]
    · rename_i e d hu
      simp only [VRel] at hx
      obtain ⟨b, o, cs, rfl, h3, h4, h5, h6⟩ := hx
      cases hs : ((tl T e).size == 1) with
      | true =>
        rw [hs] at h
        simp only [↓reduceIte, Option.some.injEq, Prod.mk.injEq] at h
        obtain ⟨rfl, rfl⟩ := h
        simp only [beq_iff_eq] at hs
        have hE := EOk.of_size hT (t := e) (by omega)
        have hk0 : 0 ≤ k () := hO.1
        have hk1 : k () < 2 := hO.2
        have hc : comp (.pr .int .int) (d ()) ((k ()).toNat * 1) 1 = some ⟨.int, at2 (d ()) (k ())⟩ := by
          have hk : k () = 0 ∨ k () = 1 := by omega
          rcases hk with hk | hk <;> rw [hk] <;> rfl
        refine ⟨_, ?_, by simp only [VRel]; exact comp_prel hc h3 h4 h5 h6⟩
        simp [Instr.indexAt, asIntOf, run_underlying (arElem_und (hT.array hu)) w, Instr.sureAddr, hk0, hk1, run_sz (w := w) (show szOf P e = some 1 by rw [hE.size, hs]), Addr.add_lit]
      | false => rw [hs] at h; cases h
    · cases h
  · cases h
end
end Go.Proofs.Ytbkdmnohpjihgaa.M
