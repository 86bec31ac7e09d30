/- Operations that make no memory: addresses, loads, parts, lengths, slices. -/
import Derived.Test.YtbkdmnohpjihgaaAbs3
namespace Go.Proofs.Ytbkdmnohpjihgaa.Abs
open Go.RowKit
set_option linter.unusedVariables false

theorem inj_rel {ok : Nat → Prop} {w : World} {N : Nat} {val : Nat → Value} {t : Ty} {x : t.den} {v : Value} (h : IRel ok w t x v) : VRel ok w N val (inj t x) v := by
  cases t with
  | pr a b => exact (by simpa [IRel, Ty.isPr] using h : ∃ cs : List Value, v = .agg cs.toArray ∧ Rep ok w (.pr a b) x cs)
  | int => simp [IRel, Ty.isPr] at h; unfold Rep at h; simp at h; exact h
  | bool => simp [IRel, Ty.isPr] at h; unfold Rep at h; simp at h; exact h
  | str => simp [IRel, Ty.isPr] at h; unfold Rep at h; simp at h; exact h
  | sl t => simp [IRel, Ty.isPr] at h; exact h
theorem irel_of {ok : Nat → Prop} {w : World} {t : Ty} {x : t.den} {cs : List Value} (h : Rep ok w t x cs) : IRel ok w t x (if t.isPr then .agg cs.toArray else cs.headD undef) := by
  unfold IRel
  split
  · exact ⟨cs, rfl, h⟩
  · rename_i ht
    have hl := h.length
    have h1 : t.n = 1 := by cases t <;> simp_all [Ty.isPr, Ty.n]
    rw [h1] at hl
    match cs, hl with
    | [c], _ => exact h
section
variable {P : Program} {w : World} {ok : Nat → Prop} {N : Nat} {val : Nat → Value}
/-- A variable whose cells read as a value, loaded. -/
theorem load_ok {b o : Nat} {t : TypeId} {tt : Ty} {x : tt.den} {cs : List Value} (hf : fits P t tt = true) (hr : Rep ok w tt x cs)
    (hc : ∀ j u, cs[j]? = some u → w.cell? ⟨b, o + j, none⟩ = some u) : ∃ v, (Instr.loadAt t (.pointer (some ⟨b, o, none⟩))).run P w = .ok v w ∧ IRel ok w tt x v := by
  have hs := run_sz (w := w) (fits_size hf)
  have ha := run_agg (w := w) (fits_agg hf)
  have hl := hr.length
  refine ⟨_, ?_, irel_of hr⟩
  unfold Instr.loadAt Instr.sureAddr loadVar
  by_cases hp : tt.isPr = true
  · have hld := run_loadCells_list (P := P) w ⟨b, o, none⟩ cs (fun j v hv => by rw [Addr.add_lit]; exact hc j v hv)
    rw [hl] at hld
    simp [ha, hp, hs, hld]
  · have h1 : tt.n = 1 := by cases tt <;> simp_all [Ty.isPr, Ty.n]
    rw [h1] at hl
    match cs, hl with
    | [c], _ =>
      have := hc 0 c rfl
      rw [Nat.add_zero] at this
      simp [ha, hp, this]
theorem part_ok {t : TypeId} {tt : Ty} {x : tt.den} {cs : List Value} {off : Nat} (hf : fits P t tt = true) (hr : Rep ok w tt x ((cs.drop off).take tt.n)) :
    ∃ v, (part t cs.toArray off).run P w = .ok v w ∧ IRel ok w tt x v := by
  have hs := run_sz (w := w) (fits_size hf)
  have ha := run_agg (w := w) (fits_agg hf)
  have hl := hr.length
  refine ⟨_, ?_, irel_of hr⟩
  unfold part
  by_cases hp : tt.isPr = true
  · simp [ha, hp, hs, List.take_drop]
  · have h1 : tt.n = 1 := by cases tt <;> simp_all [Ty.isPr, Ty.n]
    rw [h1] at hl ⊢
    simp [List.length_take, List.length_drop] at hl
    have hlt : off < cs.length := by omega
    have e : (cs.drop off).take 1 = [cs[off]] := by rw [List.drop_eq_getElem_cons hlt]; rfl
    simp [ha, hp, hlt, e]
theorem rep_cells {t : Ty} {l : List t.den} {b o : Nat} {xs : List Value} {i : Nat} {y : t.den} (hl : xs.length = l.length * t.n) (hc : ∀ j v, xs[j]? = some v → w.cell? ⟨b, o + j, none⟩ = some v)
    (he : ∀ (i : Nat) (y : t.den), l[i]? = some y → Rep ok w t y ((xs.drop (i * t.n)).take t.n)) (hy : l[i]? = some y) :
    ∃ cs, Rep ok w t y cs ∧ ∀ j u, cs[j]? = some u → w.cell? ⟨b, o + i * t.n + j, none⟩ = some u := by
  refine ⟨_, he i y hy, fun j u hu => ?_⟩
  rw [List.getElem?_take] at hu
  split at hu
  · rw [List.getElem?_drop] at hu
    rw [Nat.add_assoc]
    exact hc _ u hu
  · cases hu
theorem indexAddr_sl {t e : TypeId} {tt : Ty} {l : List tt.den} {v : Value} {k : Int} {y : tt.den} (ht : slElem P t = some e) (hs : szOf P e = some tt.n) (hv : Rep ok w (.sl tt) l [v])
    (h0 : 0 ≤ k) (hy : l[k.toNat]? = some y) : ∃ u, (Instr.indexAt t v (.int .i64 k)).run P w = .ok u w ∧ PRel ok w tt y u := by
  unfold Rep at hv
  obtain ⟨a, cap, he, h1, h2, h3⟩ := hv
  rcases h3 with rfl | ⟨b, o, xs, rfl, h4, h5, h6, h7, h8⟩
  · simp at hy
  · simp at he
    subst he
    obtain ⟨cs, hR, hC⟩ := rep_cells h6 h7 h8 hy
    have hlt : k.toNat < l.length := (List.getElem?_eq_some_iff.1 hy).1
    have hlt' : k < (l.length : Int) := by omega
    refine ⟨.pointer (some ⟨b, o + k.toNat * tt.n, none⟩), ?_, ⟨b, o + k.toNat * tt.n, cs, rfl, h4, h5, hR, hC⟩⟩
    simp [Instr.indexAt, asIntOf, run_underlying (slElem_und ht) w, h0, hlt', run_sz hs, Addr.add_lit]
theorem fieldPlace_ok {f : Field} {b o n : Nat} (hs : szOf P f.type = some n) (hn : n ≠ 0) : (fieldPlace ⟨b, o, none⟩ f).run P w = .ok ⟨b, o + f.offset, none⟩ w := by
  simp [fieldPlace, run_sz hs, hn, Addr.add_lit]
theorem fieldOf_spec {xt : TypeId} {f off : Nat} {ft : TypeId} (h : fieldOf P xt f = some (off, ft)) : ∃ fs fd, P.underlying xt = some (.struct fs) ∧ fs[f]? = some fd ∧ fd.offset = off ∧ fd.type = ft := by
  unfold fieldOf at h
  split at h
  · rename_i fs hfs
    cases hf : fs[f]? with
    | none => rw [hf] at h; cases h
    | some fd => rw [hf] at h; cases h; exact ⟨fs, fd, hfs, hf, rfl, rfl⟩
  · cases h
theorem fieldAddr_ok {xt ft : TypeId} {f off n b o : Nat} (h : fieldOf P xt f = some (off, ft)) (hs : szOf P ft = some n) (hn : n ≠ 0) :
    (Instr.fieldAt xt (.pointer (some ⟨b, o, none⟩)) f).run P w = .ok (.pointer (some ⟨b, o + off, none⟩)) w := by
  obtain ⟨fs, fd, h1, h2, rfl, rfl⟩ := fieldOf_spec h
  simp [Instr.fieldAt, run_underlying h1 w, h2, Instr.sureAddr, fieldPlace_ok hs hn]
theorem comp_prel {tt : Ty} {x : tt.den} {off sz : Nat} {c : TV} {b o : Nat} {cs : List Value} (hc : comp tt x off sz = some c) (hb : ok b) (hlt : b < w.heap.size) (hr : Rep ok w tt x cs)
    (hcell : ∀ j u, cs[j]? = some u → w.cell? ⟨b, o + j, none⟩ = some u) : PRel ok w c.1 c.2 (.pointer (some ⟨b, o + off, none⟩)) := by
  refine ⟨b, o + off, _, rfl, hb, hlt, (comp_rep hc hr).1, fun j u hu => ?_⟩
  rw [List.getElem?_take] at hu
  split at hu
  · rw [List.getElem?_drop] at hu
    rw [Nat.add_assoc]
    exact hcell _ u hu
  · cases hu
theorem field_ok {xt ft : TypeId} {f off : Nat} {tt : Ty} {x : tt.den} {cs : List Value} {c : TV} (h : fieldOf P xt f = some (off, ft)) (hc : comp tt x off c.1.n = some c) (hf : fits P ft c.1 = true) (hr : Rep ok w tt x cs) :
    ∃ v, (Instr.field xt (.agg cs.toArray) f).run P w = .ok v w ∧ IRel ok w c.1 c.2 v := by
  obtain ⟨fs, fd, h1, h2, rfl, rfl⟩ := fieldOf_spec h
  obtain ⟨v, h3, h4⟩ := part_ok (w := w) (off := fd.offset) (cs := cs) hf (comp_rep hc hr).1
  exact ⟨v, by simp [Instr.field, run_underlying h1 w, h2, asAgg, h3], h4⟩
theorem index_ok {xt e : TypeId} {len : Nat} {k : Int} {tt : Ty} {x : tt.den} {cs : List Value} {c : TV} (h : arElem P xt = some (len, e)) (h0 : 0 ≤ k) (hk : k < len)
    (hc : comp tt x (k.toNat * c.1.n) c.1.n = some c) (hf : fits P e c.1 = true) (hr : Rep ok w tt x cs) :
    ∃ v, (Instr.index xt (.agg cs.toArray) (.int .i64 k)).run P w = .ok v w ∧ IRel ok w c.1 c.2 v := by
  obtain ⟨v, h3, h4⟩ := part_ok (w := w) (off := k.toNat * c.1.n) (cs := cs) hf (comp_rep hc hr).1
  exact ⟨v, by simp [Instr.index, asIntOf, run_underlying (arElem_und h) w, h0, hk, run_sz (fits_size hf), h3], h4⟩
theorem indexStr_ok {xt : TypeId} {s : ByteArray} {k : Int} {c : UInt8} (hu : P.underlying xt = some .string) (h0 : 0 ≤ k) (hc : s[k.toNat]? = some c) :
    (Instr.index xt (.string s) (.int .i64 k)).run P w = .ok (.int .u8 c.toNat) w := by
  simp [Instr.index, asIntOf, run_underlying hu w, h0, hc]
theorem drop_mul {α : Type} (xs : List α) (a b k n : Nat) (h : b ≤ a) : ((xs.drop (b * n)).drop ((a - b) * n)).take k = (xs.drop (a * n)).take k := by
  rw [List.drop_drop]
  congr 2
  rw [← Nat.add_mul]; congr 1; omega
/-- A slice of an immutable slice. -/
theorem slice_ok {xt e : TypeId} {tt : Ty} {l : List tt.den} {v : Value} {lo hi : Option Int} (ht : slElem P xt = some e) (hs : szOf P e = some tt.n) (hv : Rep ok w (.sl tt) l [v])
    (h1 : 0 ≤ lo.getD 0) (h2 : lo.getD 0 ≤ hi.getD l.length) (h3 : hi.getD l.length ≤ l.length) :
    ∃ u, (Instr.sliceAt xt v (lo.map (.int .i64)) (hi.map (.int .i64)) none).run P w = .ok u w ∧ Rep ok w (.sl tt) ((l.take (hi.getD l.length).toNat).drop (lo.getD 0).toNat) [u] := by
  unfold Rep at hv
  obtain ⟨a, cap, he, k1, k2, k3⟩ := hv
  simp at he
  subst he
  obtain ⟨h, hh, hhe⟩ : ∃ h : Nat, hi.getD l.length = h ∧ h ≤ l.length := ⟨(hi.getD l.length).toNat, by omega, by omega⟩
  obtain ⟨g, hg, hgh⟩ : ∃ g : Nat, lo.getD 0 = g ∧ g ≤ h := ⟨(lo.getD 0).toNat, by omega, by omega⟩
  rw [hh, hg]
  simp only [Int.toNat_natCast]
  have hrun : (Instr.sliceAt xt (.slice a l.length cap) (lo.map (.int .i64)) (hi.map (.int .i64)) none).run P w =
      .ok (.slice (if cap = g then a else a.map (·.add (g * tt.n))) (h - g) (cap - g)) w := by
    have hb : (Instr.sliceBounds true l.length cap (lo.map (.int .i64)) (hi.map (.int .i64)) none).run P w = .ok (g, h, cap) w := by
      unfold Instr.sliceBounds Instr.sliceBound
      cases lo <;> cases hi <;> simp only [Option.getD_none, Option.getD_some, Option.map_none, Option.map_some] at hh hg ⊢
      · obtain rfl : l.length = h := by omega
        obtain rfl : g = 0 := by omega
        simp
      · subst hh
        obtain rfl : g = 0 := by omega
        simp [asIntOf, show h ≤ cap by omega]
      · subst hg
        obtain rfl : l.length = h := by omega
        simp [asIntOf, hgh]
      · subst hh; subst hg; simp [asIntOf, show h ≤ cap by omega, hgh]
    unfold Instr.sliceAt
    simp [run_underlying (slElem_und ht) w, Instr.slice, hb, run_sz hs]
  refine ⟨_, hrun, ?_⟩
  have hlen : ((l.take h).drop g).length = h - g := by simp; omega
  unfold Rep
  refine ⟨_, _, by rw [hlen], by rw [hlen]; omega, by rw [hlen]; omega, ?_⟩
  rcases k3 with rfl | ⟨b, o, xs, rfl, k4, k5, k6, k7, k8⟩
  · left; simp
  · by_cases hne : g = h
    · left; apply List.eq_nil_of_length_eq_zero; rw [hlen]; omega
    · right
      have hcap : cap ≠ g := by omega
      refine ⟨b, o + g * tt.n, (xs.drop (g * tt.n)).take ((h - g) * tt.n), by simp [hcap, Addr.add_lit], k4, k5, ?_, fun j u hu => ?_, fun i y hy => ?_⟩
      · rw [hlen, List.length_take, List.length_drop, k6, ← Nat.sub_mul, Nat.min_eq_left]
        exact Nat.mul_le_mul_right _ (by omega)
      · rw [List.getElem?_take] at hu
        split at hu
        · rw [List.getElem?_drop] at hu
          rw [Nat.add_assoc]
          exact k7 _ u hu
        · cases hu
      · rw [List.getElem?_drop, List.getElem?_take] at hy
        split at hy
        · rename_i hlt
          have := k8 _ y hy
          have hin : (i + 1) * tt.n ≤ (h - g) * tt.n := Nat.mul_le_mul_right _ (by omega)
          rw [List.drop_take, List.take_take, Nat.min_eq_left (by rw [Nat.add_mul] at hin; omega), List.drop_drop]
          rw [Nat.add_mul] at this
          exact this
        · cases hy
end
end Go.Proofs.Ytbkdmnohpjihgaa.Abs
