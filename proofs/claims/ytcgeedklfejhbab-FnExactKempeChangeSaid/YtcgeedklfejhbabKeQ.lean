/- Chains of two colours, found in two ways; their exchange (pure). -/
import Derived.Test.YtcgeedklfejhbabSnQ
import Derived.Test.YtcgeedklfejhbabBsQ
import Derived.Test.YtcgeedklfejhbabRhQ
import Derived.Test.YtcgeedklfejhbabQc
namespace Go.Proofs.Ytcgeedklfejhbab.M
open Go.RowKit Abs
set_option linter.unusedSimpArgs false
set_option linter.unusedVariables false
set_option maxRecDepth 100000
set_option maxHeartbeats 4000000
theorem rowNearB {n : Int} {l : List (Int × Int)} (h : ∀ e ∈ l, 0 ≤ e.1 ∧ e.1 < e.2 ∧ e.2 < n) {u v : Int} (u0 : 0 ≤ u) : v ∈ getR .int (nearR l n) u ↔ nearB l u v = true := by
  rw [nearR_row u0 h]
  unfold rowV nearB
  rw [List.mem_filterMap, List.any_eq_true]
  constructor
  · rintro ⟨e, he, hv⟩
    refine ⟨e, he, ?_⟩
    unfold hit
    split at hv
    · rename_i h2
      cases hv
      simp [h2]
    · split at hv
      · rename_i h3
        cases hv
        simp [h3]
      · cases hv
  · rintro ⟨e, he, hh⟩
    have h3 := (h e he).2.1
    refine ⟨e, he, ?_⟩
    unfold hit at hh
    simp only [Bool.or_eq_true, Bool.and_eq_true, beq_iff_eq] at hh
    rcases hh with ⟨a, b⟩ | ⟨a, b⟩
    · rw [if_neg (by omega), if_pos a, b]
    · rw [if_pos b, a]
theorem near_in_of {n : Int} {l : List (Int × Int)} (h : ∀ e ∈ l, 0 ≤ e.1 ∧ e.1 < e.2 ∧ e.2 < n) (g0 : 0 ≤ n) : near_in (nearR l n).length (nearR l n) := fun r hr v hv => by
  obtain ⟨i, hi, rfl⟩ := List.mem_iff_getElem.1 hr
  have h2 := (List.getElem?_eq_some_iff.1 (getR_get (t := .int) (l := nearR l n) (i := (i : Int)) (by omega) (by omega))).2
  simp only [Int.toNat_natCast] at h2
  rw [h2, rowNearB h (by omega)] at hv
  unfold nearB at hv
  rw [List.any_eq_true] at hv
  obtain ⟨e, he, hh⟩ := hv
  have h3 := h e he
  unfold hit at hh
  simp only [Bool.or_eq_true, Bool.and_eq_true, beq_iff_eq] at hh
  rw [nearR_len]
  omega
def kfold (f : Int → Int) (s base : List Int) : List Int := s.foldl (fun o v => setI o v (f v)) base
theorem kfold_len {f : Int → Int} : ∀ {s base : List Int}, (kfold f s base).length = base.length
  | [], base => rfl
  | v :: s, base => by
    show (kfold f s (setI base v (f v))).length = _
    rw [kfold_len, setI_len]
theorem kfold_gi {f : Int → Int} {j : Int} (j0 : 0 ≤ j) : ∀ {s base : List Int}, (∀ v ∈ s, 0 ≤ v ∧ v < (base.length : Int)) → gi (kfold f s base) j = if j ∈ s then f j else gi base j
  | [], base, _ => by simp [kfold]
  | v :: s, base, h => by
    show gi (kfold f s (setI base v (f v))) j = _
    rw [kfold_gi j0 (fun u hu => by rw [setI_len]; exact h u (by simp [hu]))]
    have hv := h v (by simp)
    by_cases hj : j ∈ s
    · rw [if_pos hj, if_pos (by simp [hj])]
    · rw [if_neg hj, gi_set]
      by_cases e : j = v
      · subst e
        rw [if_pos ⟨rfl, by omega⟩, if_pos (by simp)]
      · rw [if_neg (by omega), if_neg (by simp [e, hj])]
theorem kfold_next {f : Int → Int} {s base : List Int} {k : Int} (h0 : 0 ≤ k) (h1 : k < (s.length : Int)) : kfold f (s.take (k + 1).toNat) base = setI (kfold f (s.take k.toNat) base) (gi s k) (f (gi s k)) := by
  unfold kfold
  rw [take_gi h0 h1, List.foldl_append]
  rfl
theorem ext_gi {a b : List Int} (hl : a.length = b.length) (h : ∀ j : Int, 0 ≤ j → j < (a.length : Int) → gi a j = gi b j) : a = b :=
  List.ext_getElem hl fun i h1 h2 => by
    have := h i (by omega) (by omega)
    unfold gi at this
    simpa [List.getD_eq_getElem?_getD, h1, h2] using this
theorem gi_take {l : List Int} {n : Nat} {j : Int} (j0 : 0 ≤ j) (j1 : j < n) : gi (l.take n) j = gi l j := by
  unfold gi
  rw [List.getD_eq_getElem?_getD, List.getD_eq_getElem?_getD, List.getElem?_take, if_pos (by omega)]
def cqB (P : List Int) (x c v : Int) : Bool := decide (gi P v = c) || decide (gi P v = gi P x)
def chS (n : Int) (cs : List Int) (x c : Int) : List Int := pref (cqB cs x c) n.toNat
def chQ (n : Int) (l : List (Int × Int)) (cs : List Int) (x c : Int) : List Int := (search (nearR l n) (cqB (paintL cs) x c) x).2
theorem ch_src {n x c : Int} {cs : List Int} (x0 : 0 ≤ x) (x1 : x < n) : x ∈ chS n cs x c := pref_mem.2 ⟨x0, by omega, by simp [cqB]⟩
theorem ch_q {n k c x v : Int} {l : List (Int × Int)} {cs : List Int} (h : givB n l k cs = true) (x0 : 0 ≤ x) (x1 : x < n) (v0 : 0 ≤ v) (v1 : v < n) : cqB (paintL cs) x c v = cqB cs x c v := by
  obtain ⟨⟨g0, g1⟩, _, hlen, _⟩ := giv_in h
  unfold cqB
  rw [paint_gi v0 (by omega) (by omega), paint_gi x0 (by omega) (by omega)]
theorem chain_mem {n k c x : Int} {l : List (Int × Int)} {cs : List Int} (h : givB n l k cs = true) (x0 : 0 ≤ x) (x1 : x < n) (v : Int) : v ∈ chQ n l cs x c ↔ v ∈ rch l (chS n cs x c) x := by
  obtain ⟨⟨g0, g1⟩, _, hlen, hg, _⟩ := giv_in h
  obtain ⟨_, g2, _⟩ := graph_edges hg
  have hi := near_in_of g2 g0
  have hN : ((nearR l n).length : Int) = n := by rw [nearR_len]; omega
  have hx := ch_src (cs := cs) (c := c) x0 x1
  have o := search_inv (q := cqB (paintL cs) x c) x0 (by omega) hi
  have cc := search_core (q := cqB (paintL cs) x c) x0 (by omega) hi
  constructor
  · intro hv
    rw [rch_iff hx]
    intro A hc hA
    have key : ∀ (m : Nat) (v : Int), 0 ≤ v → v < n → gi (search (nearR l n) (cqB (paintL cs) x c) x).1 v = m → A v := fun m => by
      induction m using Nat.strongRecOn with
      | _ m ih =>
        intro v v0 v1 hm
        rcases search_pred (q := cqB (paintL cs) x c) x0 (by omega) hi v0 (by omega) (by omega) with rfl | ⟨hq, u, u0, u1, u2, u3, u4⟩
        · exact hA
        · have hu := ih (gi (search (nearR l n) (cqB (paintL cs) x c) x).1 u).toNat (by omega) u u0 (by omega) (by omega)
          exact hc u v hu (pref_mem.2 ⟨v0, by omega, by rw [← ch_q h x0 x1 v0 v1]; exact hq⟩) ((rowNearB g2 u0).1 u3)
    obtain ⟨v0, v1, v2⟩ := o.mem v hv
    exact key (gi (search (nearR l n) (cqB (paintL cs) x c) x).1 v).toNat v v0 (by omega) (by omega)
  · intro hv
    rw [rch_iff hx] at hv
    refine hv (fun v => v ∈ chQ n l cs x c) (fun u w hu hw hn => ?_) cc.src.1
    obtain ⟨u0, u1, u2⟩ := o.mem u hu
    obtain ⟨w0, w1, w2⟩ := pref_mem.1 hw
    have := search_step (q := cqB (paintL cs) x c) x0 (by omega) hi u0 u1 u2 ((rowNearB g2 u0).2 hn) (by rw [ch_q h x0 x1 w0 (by omega)]; exact w2)
    exact cc.all w w0 (by omega) this.1
def exS (cs : List Int) (x c v : Int) : Int := gi cs x + c - gi cs v
def exP (P : List Int) (x c v : Int) : Int := if gi P v = c then gi P x else c
def kemV (n : Int) (l : List (Int × Int)) (cs : List Int) (x c : Int) : List Int := kfold (exS cs x c) (rch l (chS n cs x c) x) cs
def kemP (n : Int) (l : List (Int × Int)) (cs : List Int) (x c : Int) : List Int := kfold (exP (paintL cs) x c) (chQ n l cs x c) (paintL cs)
theorem ch_in {n c x v : Int} {l : List (Int × Int)} {cs : List Int} (x0 : 0 ≤ x) (x1 : x < n) (hv : v ∈ rch l (chS n cs x c) x) : 0 ≤ v ∧ v < n ∧ cqB cs x c v = true := by
  have hm : v ∈ chS n cs x c := (rr_in _ hv).elim (fun e => by rw [e]; exact ch_src x0 x1) id
  have := pref_mem.1 hm
  exact ⟨this.1, by omega, this.2.2⟩
theorem kem_eq {n k c x : Int} {l : List (Int × Int)} {cs : List Int} (h : givB n l k cs = true) (x0 : 0 ≤ x) (x1 : x < n) : (kemP n l cs x c).take n.toNat = kemV n l cs x c := by
  obtain ⟨⟨g0, g1⟩, _, hlen, hg, _⟩ := giv_in h
  have hp := paintL_len cs
  have hQ : ∀ v ∈ chQ n l cs x c, 0 ≤ v ∧ v < ((paintL cs).length : Int) := fun v hv => by
    have := ch_in x0 x1 ((chain_mem h x0 x1 v).1 hv)
    omega
  have hR : ∀ v ∈ rch l (chS n cs x c) x, 0 ≤ v ∧ v < (cs.length : Int) := fun v hv => by
    have := ch_in x0 x1 hv
    omega
  refine ext_gi ?_ fun j j0 j1 => ?_
  · unfold kemP kemV
    rw [List.length_take, kfold_len, kfold_len]
    omega
  · have j2 : j < n := by rw [List.length_take] at j1; omega
    rw [gi_take j0 (by omega)]
    unfold kemP kemV
    rw [kfold_gi j0 hQ, kfold_gi j0 hR]
    by_cases hj : j ∈ rch l (chS n cs x c) x
    · rw [if_pos ((chain_mem h x0 x1 j).2 hj), if_pos hj]
      have hc := (ch_in x0 x1 hj).2.2
      unfold exP exS
      rw [paint_gi j0 (by omega) (by omega), paint_gi x0 (by omega) (by omega)]
      unfold cqB at hc
      simp only [Bool.or_eq_true, decide_eq_true_eq] at hc
      split <;> omega
    · rw [if_neg (fun hc => hj ((chain_mem h x0 x1 j).1 hc)), if_neg hj, paint_gi j0 (by omega) (by omega)]
def kspB (n : Int) (l : List (Int × Int)) (k : Int) (cs : List Int) (x c : Int) : Bool := givB n l k cs && (decide (0 ≤ x) && decide (x < n)) && (decide (0 ≤ c) && decide (c < k))
def kemB (n : Int) (l : List (Int × Int)) (k : Int) (cs : List Int) (x c : Int) : Bool := kspB n l k cs x c && !decide (gi cs x = c)
def kemR (n : Int) (l : List (Int × Int)) (k : Int) (cs : List Int) (x c : Int) : List Int := if kemB n l k cs x c = true then kemV n l cs x c else []
theorem ksp_in {n k x c : Int} {l : List (Int × Int)} {cs : List Int} (h : kspB n l k cs x c = true) : givB n l k cs = true ∧ 0 ≤ x ∧ x < n ∧ 0 ≤ c ∧ c < k := by
  unfold kspB at h
  simp only [Bool.and_eq_true, decide_eq_true_eq] at h
  exact ⟨h.1.1, h.1.2.1, h.1.2.2, h.2.1, h.2.2⟩
theorem kemR_len (n : Int) (l : List (Int × Int)) (k : Int) (cs : List Int) (x c : Int) (hc : cs.length ≤ 1048576) : (kemR n l k cs x c).length ≤ 1048576 := by
  unfold kemR
  split
  · unfold kemV
    rw [kfold_len]
    exact hc
  · simp
end Go.Proofs.Ytcgeedklfejhbab.M
