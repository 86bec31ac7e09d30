/- Operations that make memory or write it do as is reckoned: slices that grow, and all of them together. -/
import Derived.Test.YtbkdmnohpjihgaaMl
namespace Go.Proofs.Ytbkdmnohpjihgaa.M
open Go.RowKit Abs
set_option linter.unusedVariables false
set_option linter.unusedSimpArgs false

section
variable {P : Program} {T : Tab} {w0 w w1 : World} {B : Nat → Prop} {hd : Nat → Value} {S : AS} {a : Act} {val : Nat → Bd}
/-- What an append to a row of the call's own does to the world. -/
theorem app_own {t ty e : TypeId} {tt : Ty} {v u : Value} {n m : Nat} {xs news : List Value} (ht : slElem P t = some e) (he : elemOk P e tt) (h1 : w.ownsRow 0 e tt.n v n xs)
    (hu : ∃ ad c, u = .slice ad m c ∧ (m = 0 ∧ news = [] ∨ ∃ a0, ad = some a0 ∧ (∀ j v, news[j]? = some v → w.cell? (a0.add j) = some v) ∧ ∀ v ∈ news, v.oneCell' = true)) (hnl : news.length = m * tt.n) (hlen : n + m ≤ 4294967296) :
    ∃ v' w', (Builtin.append_ #[t, t] ty #[v, u]).run P w = .ok v' w' ∧ w'.ownsRow 0 e tt.n v' (n + m) (xs ++ news) ∧ w.heap.size ≤ w'.heap.size ∧ w'.os = w.os ∧ w'.tape = w.tape ∧ w'.output = w.output ∧
      (∀ k, k < w.heap.size → some k ≠ ownB v → w'.heap[k]? = w.heap[k]?) ∧ (ownB v' = ownB v ∨ (ownB v' = some w.heap.size ∧ w.heap.size < w'.heap.size)) := by
  obtain ⟨i, z, hi, hz, hsz, hby, hzc⟩ := elemOk_info he
  obtain ⟨ad, c, rfl, hsrc⟩ := hu
  have hzs : z.cells.size = tt.n := by have := (zrep (ok := fun _ => True) (w := w) tt).length; rw [← hzc] at this; simpa using this
  by_cases hm0 : m = 0
  · subst hm0
    have hnil : news = [] := List.eq_nil_of_length_eq_zero (by simpa using hnl)
    subst hnil
    have hrun := run_append_none (P := P) (w := w) (t := t) (ty := ty) (u := .slice ad 0 c) (slElem_und ht) hi (by rw [hsz]; exact h1) ⟨ad, c, rfl⟩
    exact ⟨v, w, hrun, by simpa using h1, Nat.le_refl _, rfl, rfl, rfl, fun _ _ _ => rfl, .inl rfl⟩
  · rcases hsrc with h | ⟨a0, rfl, k2, k3⟩
    · exact (hm0 h.1).elim
    · have hm : 0 < m := Nat.pos_of_ne_zero hm0
      have hb : (n + m) * i.bytes ≤ 140737488355328 := by
        have := Nat.mul_le_mul hlen hby
        omega
      have h63 : n + m ≤ maxLen := by unfold maxLen; omega
      obtain ⟨v', w', r1, r2, r3, r4⟩ := run_append_own (P := P) w 0 t ty e i z tt.n i.bytes (slElem_und ht) hi hz hsz rfl hzs tt.n_pos v n xs h1 a0 m c news hnl k2 k3 h63 hb (Nat.zero_le _)
      have r5 := append_where (P := P) (ty := ty) (slElem_und ht) hi hz (by rw [hsz]; exact h1) (by rw [hsz]; exact hnl) k2 k3 h63 hb hm r1
      rw [own_as h1] at r3
      refine ⟨v', w', r1, r2, r3.size, r3.os, r3.tape, r3.output, r3.block, ?_⟩
      rcases r5 with h | h
      · exact .inl h
      · refine .inr ⟨h, ?_⟩
        rcases r2.2 with ⟨hv, _⟩ | ⟨g', cap', cur', hv, _, hg', _⟩
        · rw [hv] at h; cases h
        · rw [hv] at h
          simp [ownB] at h
          subst h
          exact (Array.getElem?_eq_some_iff.1 hg').1
theorem append_row (hT : TOk P T) (hR : Rl w0 B hd S a w val) {o : Oper} {t : TypeId} {s x : Operand} (hop : o.op = .call { callee := .builtin .append, args := #[s, x], argTypes := #[t, t] }) {n : Nat} (hkn : S.k ≤ n) (hs : S.ev s = .ref n)
    {e : TypeId} {tt : Ty} {l : Unit → List tt.den} (hH : S.H[n]? = some (some (.row e tt l))) (ht : slElem P t = some e) (he : elemOk P e tt) {l2 : Unit → List tt.den} (hx : srcSl S.H tt (S.ev x) = some l2) (hlen : (l ()).length + (l2 ()).length ≤ 4294967296)
    {next : Act → World → Prop} {Q : Exit → Act → World → Prop}
    (hn : ∀ a' w' val', Rl w0 B hd (AS.put { S with tm := scrubL n true S.tm, H := (scrubH n true (dropC [] S.H)).set n (some (.row e tt fun _ => l () ++ l2 ())) } o.dst (.ref n)) a' w' val' → next a' w') : o.wp P a w next Q := by
  have hsv := hR.ev s
  rw [hs] at hsv
  simp only [VRel] at hsv
  obtain ⟨xs, h1, h2, h3⟩ := hR.heap.blk n _ hH
  obtain ⟨ad, c, hu, hsrc⟩ := src_rel hR (hR.ev x) hx
  obtain ⟨news, hnr, hsrc'⟩ : ∃ news, RepL (okF S.H val) w tt (l2 ()) news ∧ ((l2 ()).length = 0 ∧ news = [] ∨ ∃ a0, ad = some a0 ∧ (∀ j v, news[j]? = some v → w.cell? (a0.add j) = some v) ∧ ∀ v ∈ news, v.oneCell' = true) := by
    rcases hsrc with h | ⟨a0, news, k0, k1, k2, k3⟩
    · rw [h]; exact ⟨[], ⟨by simp, fun i y hy => by simp at hy⟩, .inl ⟨rfl, rfl⟩⟩
    · exact ⟨news, k1, .inr ⟨a0, k0, k2, k3⟩⟩
  obtain ⟨v', w', r1, r2, r3, r4, r5, r6, r7, r8⟩ := app_own (P := P) (ty := o.type) ht he h1 ⟨ad, c, hu, hsrc'⟩ hnr.1 hlen
  have hF := hR.renew (w1 := w') hH true [] (by simp) (d := ⟨v', [], (ownB v').toList⟩) (b' := .row e tt fun _ => l () ++ l2 ()) (fun h => by cases h) (fun _ => hkn) r3 r4 r5 r6
    (fun k hk hkF => r7 k hk fun e => hkF (by rw [h3, ← e]; simp)) (fun g hg => by
      rcases r8 with h | ⟨h, hlt⟩
      · rw [h] at hg; exact .inr (.inl (by rw [h3]; exact hg))
      · rw [h] at hg; simp at hg; subst hg; exact .inl ⟨Nat.le_refl _, hlt⟩)
    (fun val' H' _ _ hok => ⟨xs ++ news, by simpa using r2, repl_append (repL_keep r3 hok h2) (repL_keep r3 hok hnr), rfl⟩)
  refine wp_of_value (app_run hop (by rw [hsv.2]; exact r1)) (hn _ _ _ (hF.put o.dst ?_))
  simp only [VRel]
  exact ⟨by have := lt_of_some hH; simp [dropC, scrubH_len]; exact this, by rw [upd_self]⟩
/-- An append to a row that came in: it has a new name. -/
theorem append_in (hT : TOk P T) (hR : Rl w0 B hd S a w val) {o : Oper} {t : TypeId} {s x : Operand} (hop : o.op = .call { callee := .builtin .append, args := #[s, x], argTypes := #[t, t] }) {n : Nat} (hs : S.ev s = .ref n)
    {e : TypeId} {tt : Ty} {l : Unit → List tt.den} (hH : S.H[n]? = some (some (.row e tt l))) (ht : slElem P t = some e) (he : elemOk P e tt) {l2 : Unit → List tt.den} (hx : srcSl S.H tt (S.ev x) = some l2) (hlen : (l ()).length + (l2 ()).length ≤ 4294967296)
    {next : Act → World → Prop} {Q : Exit → Act → World → Prop}
    (hn : ∀ a' w' val', Rl w0 B hd (AS.put { S with H := dropC [n] S.H ++ [some (.row e tt fun _ => l () ++ l2 ())] } o.dst (.ref S.H.length)) a' w' val' → next a' w') : o.wp P a w next Q := by
  have hsv := hR.ev s
  rw [hs] at hsv
  simp only [VRel] at hsv
  obtain ⟨xs, h1, h2, h3⟩ := hR.heap.blk n _ hH
  obtain ⟨ad, c, hu, hsrc⟩ := src_rel hR (hR.ev x) hx
  obtain ⟨news, hnr, hsrc'⟩ : ∃ news, RepL (okF S.H val) w tt (l2 ()) news ∧ ((l2 ()).length = 0 ∧ news = [] ∨ ∃ a0, ad = some a0 ∧ (∀ j v, news[j]? = some v → w.cell? (a0.add j) = some v) ∧ ∀ v ∈ news, v.oneCell' = true) := by
    rcases hsrc with h | ⟨a0, news, k0, k1, k2, k3⟩
    · rw [h]; exact ⟨[], ⟨by simp, fun i y hy => by simp at hy⟩, .inl ⟨rfl, rfl⟩⟩
    · exact ⟨news, k1, .inr ⟨a0, k0, k2, k3⟩⟩
  obtain ⟨v', w', r1, r2, r3, r4, r5, r6, r7, r8⟩ := app_own (P := P) (ty := o.type) ht he h1 ⟨ad, c, hu, hsrc'⟩ hnr.1 hlen
  have hF := hR.take (w1 := w') hH (d := ⟨v', [], (ownB v').toList⟩) (b := .row e tt fun _ => l () ++ l2 ()) r3 r4 r5 r6
    (fun k hk hkF => r7 k hk fun e => hkF (by rw [h3, ← e]; simp)) (fun g hg => by
      rcases r8 with h | ⟨h, hlt⟩
      · rw [h] at hg; exact .inr (by rw [h3]; exact hg)
      · rw [h] at hg; simp at hg; subst hg; exact .inl ⟨Nat.le_refl _, hlt⟩)
    (fun val' H' _ _ hok => ⟨xs ++ news, by simpa using r2, repl_append (repL_keep r3 hok h2) (repL_keep r3 hok hnr), rfl⟩)
  refine wp_of_value (app_run hop (by rw [hsv.2]; exact r1)) (hn _ _ _ (hF.put o.dst ?_))
  simp only [VRel]
  exact ⟨by simp [dropC], by rw [upd_self]⟩
theorem append_rows (hT : TOk P T) (hR : Rl w0 B hd S a w val) {o : Oper} {t : TypeId} {s x : Operand} (hop : o.op = .call { callee := .builtin .append, args := #[s, x], argTypes := #[t, t] }) {n m : Nat} (hkn : S.k ≤ n) (hs : S.ev s = .ref n) (hx : S.ev x = .ref m) (hmn : m ≠ n)
    {e e2 : TypeId} {tt : Ty} {l l2 : Unit → List (List tt.den)} (hH : S.H[n]? = some (some (.rows e e2 tt l))) (hM : S.H[m]? = some (some (.rows e e2 tt l2))) (ht : slElem P t = some e) {t2 : Ty} (he : elemOk P e (.sl t2)) (hlen : (l ()).length + (l2 ()).length ≤ 4294967296)
    {next : Act → World → Prop} {Q : Exit → Act → World → Prop}
    (hn : ∀ a' w' val', Rl w0 B hd (AS.put { S with tm := scrubL n true S.tm, H := (scrubH n true (dropC [m] S.H)).set n (some (.rows e e2 tt fun _ => l () ++ l2 ())) } o.dst (.ref n)) a' w' val' → next a' w') : o.wp P a w next Q := by
  have hsv := hR.ev s
  rw [hs] at hsv
  simp only [VRel] at hsv
  have hxv := hR.ev x
  rw [hx] at hxv
  simp only [VRel] at hxv
  obtain ⟨k1, k2, k3, k4, k5⟩ := hR.heap.blk n _ hH
  obtain ⟨m1, m2, m3, m4, m5⟩ := hR.heap.blk m _ hM
  have hhs : (val n).hs.length = (l ()).length := by have := k1.1; simpa using this
  have hhm : (val m).hs.length = (l2 ()).length := by have := m1.1; simpa using this
  have hhead : ∀ h ∈ (val m).hs, h.oneCell' = true := fun h hh => by
    obtain ⟨j, hj⟩ := List.mem_iff_getElem?.1 hh
    have hlt : j < (l2 ()).length := by rw [← hhm]; exact (List.getElem?_eq_some_iff.1 hj).1
    obtain ⟨h', xs, n1, n2, _⟩ := m2 j _ (List.getElem?_eq_getElem hlt)
    rw [hj] at n1
    cases n1
    obtain ⟨ad, c, e'⟩ := row_slice n2
    exact (slice_cells e').2
  have hsrc : ∃ ad c, a.eval x = .slice ad (l2 ()).length c ∧ ((l2 ()).length = 0 ∧ (val m).hs = [] ∨ ∃ a0, ad = some a0 ∧ (∀ j v, (val m).hs[j]? = some v → w.cell? (a0.add j) = some v) ∧ ∀ v ∈ (val m).hs, v.oneCell' = true) := by
    rw [hxv.2]
    rcases m1.2 with ⟨h3, h4⟩ | ⟨g, cap, cur, h3, _⟩
    · exact ⟨none, 0, by rw [h3, h4], .inl ⟨h4, List.eq_nil_of_length_eq_zero (by omega)⟩⟩
    · exact ⟨_, cap, h3, .inr ⟨_, rfl, m1.cells (g := g) (by rw [h3]; rfl), hhead⟩⟩
  obtain ⟨v', w', r1, r2, r3, r4, r5, r6, r7, r8⟩ := app_own (P := P) (ty := o.type) (tt := .sl t2) (news := (val m).hs) ht he (by simpa [Ty.n] using k1) hsrc (by simp [Ty.n, hhm]) hlen
  have hC : ∀ g ∈ (val m).F, g < w.heap.size := hR.heap.lt m _ hM
  have hD : ∀ g ∈ (val n).F, g < w.heap.size := hR.heap.lt n _ hH
  have hap : ∀ g ∈ (val n).F, g ∉ (val m).F := hR.heap.apart n m _ _ (Ne.symm hmn) hH hM
  have inN : ∀ h ∈ (val n).hs, ∀ g, ownB h = some g → g ∈ (val n).F := fun h hh g hg => (k3 g).2 (.inr ⟨h, hh, hg⟩)
  have inM : ∀ h ∈ (val m).hs, ∀ g, ownB h = some g → g ∈ (val m).F := fun h hh g hg => (m3 g).2 (.inr ⟨h, hh, hg⟩)
  have notOwn : ∀ h ∈ (val n).hs ++ (val m).hs, ∀ g, ownB h = some g → g < w.heap.size ∧ some g ≠ ownB (val n).v := fun h hh g hg => by
    rcases List.mem_append.1 hh with hh | hh
    · exact ⟨hD g (inN h hh g hg), fun e => k5 h hh g hg e.symm⟩
    · exact ⟨hC g (inM h hh g hg), fun e => hap g ((k3 g).2 (.inl e.symm)) (inM h hh g hg)⟩
  have hF := hR.renew (w1 := w') hH true [m] (by simp [Ne.symm hmn]) (d := ⟨v', (val n).hs ++ (val m).hs, (ownB v').toList ++ ((val n).hs ++ (val m).hs).filterMap ownB⟩) (b' := .rows e e2 tt fun _ => l () ++ l2 ()) (fun h => by cases h) (fun _ => hkn) r3 r4 r5 r6
    (fun k hk hkF => r7 k hk fun e => hkF ((k3 k).2 (.inl e.symm))) (fun g hg => by
      rcases List.mem_append.1 hg with hg | hg
      · rcases r8 with h | ⟨h, hlt⟩
        · rw [h] at hg; exact .inr (.inl ((k3 g).2 (.inl (by simpa using hg))))
        · rw [h] at hg; simp at hg; subst hg; exact .inl ⟨Nat.le_refl _, hlt⟩
      · obtain ⟨h, hh, hg⟩ := List.mem_filterMap.1 hg
        rcases List.mem_append.1 hh with hh | hh
        · exact .inr (.inl (inN h hh g hg))
        · exact .inr (.inr ⟨m, by simp, ⟨_, hM⟩, inM h hh g hg⟩))
    (fun val' H' _ _ hok => by
      refine ⟨by simpa [Ty.n] using r2, fun i y hy => ?_, fun g => ?_, fun i j h h' g hi hj hg hg' => ?_, fun h hh g hg => ?_⟩
      · by_cases hi : i < (l ()).length
        · rw [List.getElem?_append_left hi] at hy
          obtain ⟨h, xs, n1, n2, n3⟩ := k2 i y hy
          refine ⟨h, xs, by simp only; rw [List.getElem?_append_left (by omega)]; exact n1, ownsRow_keep n2 fun k hk => ?_, repL_keep r3 hok n3⟩
          have := notOwn h (List.mem_append.2 (.inl (List.mem_of_getElem? n1))) k (by simpa using hk)
          exact r7 k this.1 this.2
        · rw [List.getElem?_append_right (by omega)] at hy
          obtain ⟨h, xs, n1, n2, n3⟩ := m2 _ y hy
          refine ⟨h, xs, by simp only; rw [List.getElem?_append_right (by omega), hhs]; exact n1, ownsRow_keep n2 fun k hk => ?_, repL_keep r3 hok n3⟩
          have := notOwn h (List.mem_append.2 (.inr (List.mem_of_getElem? n1))) k (by simpa using hk)
          exact r7 k this.1 this.2
      · simp only [List.mem_append, List.mem_filterMap, Option.mem_toList]
      · have aux : ∀ {i : Nat} {h : Value}, ((val n).hs ++ (val m).hs)[i]? = some h → (i < (l ()).length ∧ (val n).hs[i]? = some h) ∨ ((l ()).length ≤ i ∧ (val m).hs[i - (l ()).length]? = some h) := fun {i h} hi => by
          by_cases hlt : i < (l ()).length
          · rw [List.getElem?_append_left (by omega)] at hi; exact .inl ⟨hlt, hi⟩
          · rw [List.getElem?_append_right (by omega), hhs] at hi; exact .inr ⟨by omega, hi⟩
        rcases aux hi with ⟨p1, p2⟩ | ⟨p1, p2⟩ <;> rcases aux hj with ⟨q1, q2⟩ | ⟨q1, q2⟩
        · exact k4 i j h h' g p2 q2 hg hg'
        · exact (hap g (inN h (List.mem_of_getElem? p2) g hg) (inM h' (List.mem_of_getElem? q2) g hg')).elim
        · exact (hap g (inN h' (List.mem_of_getElem? q2) g hg') (inM h (List.mem_of_getElem? p2) g hg)).elim
        · have := m4 _ _ h h' g p2 q2 hg hg'
          omega
      · have := notOwn h hh g hg
        rcases r8 with h8 | ⟨h8, _⟩
        · rw [h8]; exact fun e => this.2 e.symm
        · rw [h8]; intro e; cases e; omega)
  refine wp_of_value (app_run hop (by rw [hsv.2]; exact r1)) (hn _ _ _ (hF.put o.dst ?_))
  simp only [VRel]
  exact ⟨by have := lt_of_some hH; simp [dropC_len, scrubH_len]; exact this, by rw [upd_self]⟩
/-- An append to a row of rows: the row is handed out. -/
theorem append_elem (hT : TOk P T) (hR : Rl w0 B hd S a w val) {o : Oper} {t : TypeId} {s x : Operand} (hop : o.op = .call { callee := .builtin .append, args := #[s, x], argTypes := #[t, t] }) {n : Nat} {i : Unit → Int} (hs : S.ev s = .elem n i)
    {e e2 : TypeId} {tt : Ty} {l : Unit → List (List tt.den)} (hH : S.H[n]? = some (some (.rows e e2 tt l))) (ht : slElem P t = some e2) (he : elemOk P e2 tt) {l2 : Unit → List tt.den} (hx : srcSl S.H tt (S.ev x) = some l2) (hlen : (getR tt (l ()) (i ())).length + (l2 ()).length ≤ 4294967296)
    {next : Act → World → Prop} {Q : Exit → Act → World → Prop}
    (hn : ∀ a' w' val', Rl w0 B hd (AS.put { S with tm := scrubL n false S.tm, H := (scrubH n false S.H).set n (some (.rowsH e e2 tt l i)) ++ [some (.row e2 tt fun _ => getR tt (l ()) (i ()) ++ l2 ())] } o.dst (.ref S.H.length)) a' w' val' → next a' w') : o.wp P a w next Q := by
  have hsv := hR.ev s
  rw [hs] at hsv
  simp only [VRel] at hsv
  obtain ⟨hnl, hi0, hvi⟩ := hsv
  obtain ⟨k1, k2, k3, k4, k5⟩ := hR.heap.blk n _ hH
  have hhs : (val n).hs.length = (l ()).length := by have := k1.1; simpa using this
  have hlt : (i ()).toNat < (l ()).length := by rw [← hhs]; exact (List.getElem?_eq_some_iff.1 hvi).1
  obtain ⟨h, xs, m1, m2, m3⟩ := k2 _ _ (getR_get (i := i ()) hi0 (by omega))
  rw [hvi] at m1
  cases m1
  obtain ⟨ad, c, hu, hsrc⟩ := src_rel hR (hR.ev x) hx
  obtain ⟨news, hnr, hsrc'⟩ : ∃ news, RepL (okF S.H val) w tt (l2 ()) news ∧ ((l2 ()).length = 0 ∧ news = [] ∨ ∃ a0, ad = some a0 ∧ (∀ j v, news[j]? = some v → w.cell? (a0.add j) = some v) ∧ ∀ v ∈ news, v.oneCell' = true) := by
    rcases hsrc with h | ⟨a0, news, k0, k1, k2, k3⟩
    · rw [h]; exact ⟨[], ⟨by simp, fun i y hy => by simp at hy⟩, .inl ⟨rfl, rfl⟩⟩
    · exact ⟨news, k1, .inr ⟨a0, k0, k2, k3⟩⟩
  obtain ⟨v', w', r1, r2, r3, r4, r5, r6, r7, r8⟩ := app_own (P := P) (ty := o.type) ht he m2 ⟨ad, c, hu, hsrc'⟩ hnr.1 hlen
  have inF : ∀ {q : Nat} {h : Value} {g : Nat}, (val n).hs[q]? = some h → ownB h = some g → g ∈ (val n).F := fun {q h g} hq hg => (k3 g).2 (.inr ⟨h, List.mem_of_getElem? hq, hg⟩)
  have outer : ∀ g, ownB (val n).v = some g → ownB (a.eval s) ≠ some g := fun g hg e => k5 _ (List.mem_of_getElem? hvi) g e hg
  have other : ∀ {q : Nat} {h : Value} {g : Nat}, q ≠ (i ()).toNat → (val n).hs[q]? = some h → ownB h = some g → ownB (a.eval s) ≠ some g := fun {q h g} hq hh hg e => hq (k4 q _ h _ g hh hvi hg e)
  have same : ∀ {g : Nat}, g ∈ (val n).F → ownB (a.eval s) ≠ some g → w'.heap[g]? = w.heap[g]? := fun {g} hg hne => r7 g (hR.heap.lt n _ hH g hg) fun e => hne e.symm
  have hF := hR.split (w1 := w') hH (d1 := ⟨(val n).v, (val n).hs, (val n).F.filter fun g => decide (ownB (a.eval s) ≠ some g)⟩) (d2 := ⟨v', [], (ownB v').toList⟩) (b1 := .rowsH e e2 tt l i) (b2 := .row e2 tt fun _ => getR tt (l ()) (i ()) ++ l2 ()) rfl r3 r4 r5 r6
    (fun k hk hkF => r7 k hk fun e => hkF (inF hvi e.symm)) (fun g hg => (List.mem_filter.1 hg).1) (fun g hg => by
      rcases r8 with h | ⟨h, hlt⟩
      · rw [h] at hg; exact .inr (inF hvi (by simpa using hg))
      · rw [h] at hg; simp at hg; subst hg; exact .inl ⟨Nat.le_refl _, hlt⟩) (fun g hg hg' => by
      have h0 := (List.mem_filter.1 hg)
      simp only [decide_eq_true_eq] at h0
      rcases r8 with h | ⟨h, hlt⟩
      · rw [h] at hg'; exact h0.2 (by simpa using hg')
      · rw [h] at hg'; simp at hg'; have := hR.heap.lt n _ hH g h0.1; omega)
    (fun val' H' N' hok => by
      refine ⟨ownsRow_keep k1 fun g hg => same ((k3 g).2 (.inl (by simpa using hg))) (outer g (by simpa using hg)), fun q y hy hq => ?_, fun g => ?_, fun p q h h' g hp hq hh hh' => k4 p q h h' g hh hh', fun p h hp hh => k5 h (List.mem_of_getElem? hh)⟩
      · obtain ⟨h, xs, n1, n2, n3⟩ := k2 q y hy
        exact ⟨h, xs, n1, ownsRow_keep n2 (fun g hg => same (inF n1 (by simpa using hg)) (other hq n1 (by simpa using hg))), repL_keep r3 hok n3⟩
      · simp only [List.mem_filter, decide_eq_true_eq]
        constructor
        · rintro ⟨h1, h2⟩
          rcases (k3 g).1 h1 with h3 | ⟨h, h3, h4⟩
          · exact .inl h3
          · obtain ⟨q, hq⟩ := List.mem_iff_getElem?.1 h3
            exact .inr ⟨q, h, fun e => h2 (by rw [e, hvi] at hq; cases hq; exact h4), hq, h4⟩
        · rintro (h1 | ⟨q, h, h1, h2, h3⟩)
          · exact ⟨(k3 g).2 (.inl h1), outer g h1⟩
          · exact ⟨inF h2 h3, other h1 h2 h3⟩)
    (fun val' H' N' hok => ⟨xs ++ news, by simpa using r2, repl_append (repL_keep r3 hok m3) (repL_keep r3 hok hnr), rfl⟩)
  refine wp_of_value (app_run hop r1) (hn _ _ _ (hF.put o.dst ?_))
  simp only [VRel]
  exact ⟨by simp [scrubH_len], by rw [upd_self]⟩
theorem append_nil (hT : TOk P T) (hR : Rl w0 B hd S a w val) {o : Oper} {t : TypeId} {s x : Operand} (hop : o.op = .call { callee := .builtin .append, args := #[s, x], argTypes := #[t, t] }) (hs : S.ev s = .nilsl)
    {e : TypeId} {tt : Ty} (ht : slElem P t = some e) (he : elemOk P e tt) {l2 : Unit → List tt.den} (hx : srcSl S.H tt (S.ev x) = some l2) (hlen : (l2 ()).length ≤ 4294967296)
    {next : Act → World → Prop} {Q : Exit → Act → World → Prop}
    (hn : ∀ a' w' val', Rl w0 B hd (S.new o.dst (.ref S.H.length) (.row e tt l2)) a' w' val' → next a' w') : o.wp P a w next Q := by
  have hsv := hR.ev s
  rw [hs] at hsv
  simp only [VRel] at hsv
  obtain ⟨ad, c, hu, hsrc⟩ := src_rel hR (hR.ev x) hx
  obtain ⟨news, hnr, hsrc'⟩ : ∃ news, RepL (okF S.H val) w tt (l2 ()) news ∧ ((l2 ()).length = 0 ∧ news = [] ∨ ∃ a0, ad = some a0 ∧ (∀ j v, news[j]? = some v → w.cell? (a0.add j) = some v) ∧ ∀ v ∈ news, v.oneCell' = true) := by
    rcases hsrc with h | ⟨a0, news, k0, k1, k2, k3⟩
    · rw [h]; exact ⟨[], ⟨by simp, fun i y hy => by simp at hy⟩, .inl ⟨rfl, rfl⟩⟩
    · exact ⟨news, k1, .inr ⟨a0, k0, k2, k3⟩⟩
  obtain ⟨v', w', r1, r2, r3, r4, r5, r6, r7, r8⟩ := app_own (P := P) (ty := o.type) ht he (World.ownsRow_nil w 0 e tt.n) ⟨ad, c, hu, hsrc'⟩ hnr.1 (by omega)
  have hb : Below w.heap.size w w' := ⟨r4, r5, r6, r3, fun k hk => r7 k hk (by simp [ownB])⟩
  have hF := hR.fresh hb [] (d := ⟨v', [], (ownB v').toList⟩) (b := .row e tt l2) (fun g hg => by
      rcases r8 with h | ⟨h, hlt⟩
      · rw [h] at hg; simp [ownB] at hg
      · rw [h] at hg; simp at hg; subst hg; exact .inl ⟨Nat.le_refl _, hlt⟩)
    (fun val' _ _ hok => ⟨news, by simpa using r2, repL_keep r3 hok hnr, rfl⟩)
  refine wp_of_value (app_run hop (by rw [hsv]; exact r1)) (hn _ _ _ (hF.put o.dst ?_))
  simp only [VRel]
  exact ⟨by simp [dropC], by rw [upd_self]⟩
/-- **An operation that makes memory or writes it does as is reckoned.** -/
theorem mem_sound (hT : TOk P T) (hR : Rl w0 B hd S a w val) {o : Oper} {S' : AS} {O : Ob} (h : memF T S o = some (S', O)) (hO : O.holds) {next : Act → World → Prop} {Q : Exit → Act → World → Prop}
    (hn : ∀ a' w' val', Rl w0 B hd S' a' w' val' → next a' w') : o.wp P a w next Q := by
  unfold memF at h
  split at h
  · rename_i e x hop
    simp only [Option.map_eq_some_iff, Prod.mk.injEq] at h
    obtain ⟨cs, hc, rfl, rfl⟩ := h
    exact box_step hR hop hc hn
  · rename_i e hop
    split at h
    · rename_i tt ht
      cases h
      exact alloc_step hT hR hop ht hn
    · cases h
  · rename_i t p x hop
    split at h
    · rename_i r hr
      cases h
      unfold storeH at hr
      split at hr
      · rename_i n i k hp
        split at hr
        · rename_i e e2 tt l jj hH
          cases hb : (k == 1 && (tl T t).size == 1) with
          | false => rw [hb] at hr; cases hr
          | true =>
            rw [hb] at hr
            simp only [↓reduceIte] at hr
            simp only [Bool.and_eq_true, beq_iff_eq] at hb
            obtain ⟨rfl, h1⟩ := hb
            have hE := EOk.of_size hT (t := t) (by omega)
            split at hr
            · rename_i y C hy
              cases hC : C.contains n with
              | true => rw [hC] at hr; cases hr
              | false =>
                rw [hC] at hr
                cases hr
                exact storeRowsH_step hT hR hop hp hH hO hy (by simpa using hC) (by rw [hE.size, h1]) hn
            · cases hr
        · cases hr
      · cases hr
    simp only [Option.map_eq_some_iff, Prod.mk.injEq] at h
    obtain ⟨S1, hc, rfl, rfl⟩ := h
    unfold storeF at hc
    split at hc
    · rename_i n i hp
      split at hc
      · rename_i e cs hH
        split at hc
        · rename_i xs hxs
          cases hb : ((tl T t).size == xs.length && (i + xs.length).ble cs.length && !xs.isEmpty) with
          | false => rw [hb] at hc; cases hc
          | true =>
            rw [hb] at hc
            cases hc
            simp only [Bool.and_eq_true, beq_iff_eq, Bool.not_eq_true'] at hb
            obtain ⟨⟨h1, h2⟩, h3⟩ := hb
            have hE := EOk.of_size hT (t := t) (by
              rw [h1]
              cases xs
              · cases h3
              · simp)
            exact storeBox_step hT hR hop hp hH hxs (by rw [hE.size, h1]) (Nat.le_of_ble_eq_true h2) hn
        · cases hc
      · cases hc
    · rename_i n i k hp
      split at hc
      · rename_i e tt l hH
        cases hb : (k == tt.n && (tl T t).size == tt.n) with
        | false => rw [hb] at hc; cases hc
        | true =>
          rw [hb] at hc
          simp only [↓reduceIte, Option.map_eq_some_iff] at hc
          obtain ⟨y, hy, rfl⟩ := hc
          simp only [Bool.and_eq_true, beq_iff_eq] at hb
          obtain ⟨rfl, h1⟩ := hb
          have hE := EOk.of_size hT (t := t) (by have := tt.n_pos; omega)
          exact storeRow_step hT hR hop hp hH hy (by rw [hE.size, h1]) hn
      · rename_i e e2 tt l hH
        cases hb : (k == 1 && (tl T t).size == 1) with
        | false => rw [hb] at hc; cases hc
        | true =>
          rw [hb] at hc
          simp only [↓reduceIte] at hc
          simp only [Bool.and_eq_true, beq_iff_eq] at hb
          obtain ⟨rfl, h1⟩ := hb
          have hE := EOk.of_size hT (t := t) (by omega)
          split at hc
          · rename_i y C hy
            cases hC : C.contains n with
            | true => rw [hC] at hc; cases hc
            | false =>
              rw [hC] at hc
              cases hc
              exact storeRows_step hT hR hop hp hH hy (by simpa using hC) (by rw [hE.size, h1]) hn
          · cases hc
      · cases hc
    · rename_i n i j k hp
      split at hc
      · rename_i e e2 tt l hH
        cases hb : (k == tt.n && (tl T t).size == tt.n) with
        | false => rw [hb] at hc; cases hc
        | true =>
          rw [hb] at hc
          simp only [↓reduceIte, Option.map_eq_some_iff] at hc
          obtain ⟨y, hy, rfl⟩ := hc
          simp only [Bool.and_eq_true, beq_iff_eq] at hb
          obtain ⟨rfl, h1⟩ := hb
          have hE := EOk.of_size hT (t := t) (by have := tt.n_pos; omega)
          exact storeCell_step hT hR hop hp hH hy (by rw [hE.size, h1]) hn
      · cases hc
    · cases hc
  · rename_i t len parts hop
    simp only [Option.map_eq_some_iff, Prod.mk.injEq] at h
    obtain ⟨S1, hc, rfl, rfl⟩ := h
    exact build_step hT hR hop hc hn
  · rename_i t l c hop
    exact make_step hT hR hop h hO hn
  · rename_i c hop
    obtain ⟨callee, args, ts⟩ := c
    simp only at h
    split at h
    · rename_i t t' s x hts hxs
      cases htt : (t == t') with
      | false => rw [htt] at h; cases h
      | true =>
        rw [htt] at h
        simp only [↓reduceIte] at h
        simp only [beq_iff_eq] at htt
        subst htt
        have hop' : o.op = .call { callee := .builtin .append, args := #[s, x], argTypes := #[t, t] } := by
          rw [hop]
          have e1 : args = #[s, x] := by apply Array.ext'; simpa using hxs
          have e2 : ts = #[t, t] := by apply Array.ext'; simpa using hts
          rw [e1, e2]
        unfold appF at h
        split at h
        · rename_i e0 n hu hs
          split at h
          · rename_i e tt l hH
            cases he0 : (e0 == e) with
            | false => rw [he0] at h; cases h
            | true =>
              rw [he0] at h
              simp only [↓reduceIte] at h
              simp only [beq_iff_eq] at he0
              subst he0
              split at h
              · rename_i tt' hty
                split at h
                · rename_i z l2 hz hl2
                  cases h
                  obtain ⟨he, _⟩ := castT_rep (ok := fun _ => True) (w := w) hz
                  subst he
                  cases hb : n.blt S.k with
                  | true =>
                    rw [hb] at hn
                    exact append_in hT hR hop' hs hH (hT.slice hu) (hT.ty hty).2.1 hl2 hO hn
                  | false =>
                    rw [hb] at hn
                    exact append_row hT hR hop' (by have h2 : ¬ n < S.k := by rw [← Nat.blt_eq, hb]; simp
                                                    omega) hs hH (hT.slice hu) (hT.ty hty).2.1 hl2 hO hn
                · cases h
              · cases h
          · rename_i e e2 tt l hH
            cases he0 : (e0 == e) with
            | false => rw [he0] at h; cases h
            | true =>
              rw [he0] at h
              simp only [↓reduceIte] at h
              simp only [beq_iff_eq] at he0
              subst he0
              split at h
              · rename_i m hx
                split at h
                · rename_i e' e2' u l2 hM
                  cases hb : (e' == e0 && e2' == e2 && !(m == n)) with
                  | false => rw [hb] at h; cases h
                  | true =>
                    rw [hb] at h
                    simp only [↓reduceIte] at h
                    simp only [Bool.and_eq_true, beq_iff_eq, Bool.not_eq_true', beq_eq_false_iff_ne] at hb
                    obtain ⟨⟨rfl, rfl⟩, hmn⟩ := hb
                    split at h
                    · rename_i l3 t2 hl3 hty
                      cases hb : n.blt S.k with
                      | true => rw [hb] at h; cases h
                      | false =>
                      rw [hb] at h
                      cases h
                      obtain ⟨he, rfl⟩ := castSl hl3
                      cases he
                      exact append_rows hT hR hop' (by have h2 : ¬ n < S.k := by rw [← Nat.blt_eq, hb]; simp
                                                       omega) hs hx hmn hH hM (hT.slice hu) (hT.ty hty).2.1 hO hn
                    · cases h
                · cases h
              · cases h
          · cases h
        · rename_i e0 n i hu hs
          split at h
          · rename_i e e2 tt l hH
            cases he0 : (e0 == e2) with
            | false => rw [he0] at h; cases h
            | true =>
              rw [he0] at h
              simp only [↓reduceIte] at h
              simp only [beq_iff_eq] at he0
              subst he0
              split at h
              · rename_i tt' hty
                split at h
                · rename_i z l2 hz hl2
                  cases h
                  obtain ⟨he, _⟩ := castT_rep (ok := fun _ => True) (w := w) hz
                  subst he
                  exact append_elem hT hR hop' hs hH (hT.slice hu) (hT.ty hty).2.1 hl2 hO hn
                · cases h
              · cases h
          · cases h
        · rename_i e hu hs
          split at h
          · cases h
          · rename_i tt hty _
            split at h
            · rename_i l2 hl2
              cases h
              exact append_nil hT hR hop' hs (hT.slice hu) (hT.ty hty).2.1 hl2 hO hn
            · cases h
          · cases h
        · cases h
    · cases h
  · cases h
end
end Go.Proofs.Ytbkdmnohpjihgaa.M
