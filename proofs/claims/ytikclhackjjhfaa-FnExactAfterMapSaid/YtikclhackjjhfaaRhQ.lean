/- What can be reached within a set, round by round (pure). -/
import Derived.Test.YtikclhackjjhfaaTuQ
import Derived.Test.YtikclhackjjhfaaQg
namespace Go.Proofs.Ytikclhackjjhfaa.M
open Go.RowKit Abs
set_option linter.unusedSimpArgs false
set_option linter.unusedVariables false
set_option maxRecDepth 100000
set_option maxHeartbeats 4000000
def visR (l : List (Int × Int)) (out : List Int) (s : Int) : List Int := if hasB out s = true then out else if (out.any fun u => nearB l u s) = true then putI out s else out
def rndR (l : List (Int × Int)) (set out : List Int) : List Int := set.foldl (visR l) out
def rr (l : List (Int × Int)) (set : List Int) (x : Int) : Nat → List Int
  | 0 => [x]
  | k + 1 => rndR l set (rr l set x k)
def rch (l : List (Int × Int)) (set : List Int) (x : Int) : List Int := rr l set x set.length
theorem vis_mem {l : List (Int × Int)} {out : List Int} {s v : Int} : v ∈ visR l out s → v ∈ out ∨ (v = s ∧ ∃ u ∈ out, nearB l u s = true) := by
  unfold visR
  split
  · exact .inl
  · split
    · rename_i h
      intro hv
      rcases putI_mem.1 hv with rfl | hv
      · obtain ⟨u, hu, hn⟩ := List.any_eq_true.1 h
        exact .inr ⟨rfl, u, hu, hn⟩
      · exact .inl hv
    · exact .inl
theorem vis_keep {l : List (Int × Int)} {out : List Int} {s v : Int} (h : v ∈ out) : v ∈ visR l out s := by
  unfold visR
  split
  · exact h
  · split
    · exact putI_mem.2 (.inr h)
    · exact h
theorem vis_put {l : List (Int × Int)} {out : List Int} {s u : Int} (h : u ∈ out) (hn : nearB l u s = true) : s ∈ visR l out s := by
  unfold visR
  split
  · rename_i h2; exact hasB_iff.1 h2
  · rw [if_pos (List.any_eq_true.2 ⟨u, h, hn⟩)]
    exact putI_mem.2 (.inl rfl)
theorem vis_asc {l : List (Int × Int)} {out : List Int} {s : Int} (h : out.Pairwise (· < ·)) : (visR l out s).Pairwise (· < ·) := by
  unfold visR
  split
  · exact h
  · rename_i h2
    split
    · exact putI_asc h fun hc => h2 (hasB_iff.2 hc)
    · exact h
theorem rnd_keep {l : List (Int × Int)} : ∀ {set out : List Int} {v : Int}, v ∈ out → v ∈ rndR l set out
  | [], _, _, h => h
  | s :: set, out, v, h => rnd_keep (set := set) (vis_keep h)
theorem rnd_asc {l : List (Int × Int)} : ∀ {set out : List Int}, out.Pairwise (· < ·) → (rndR l set out).Pairwise (· < ·)
  | [], _, h => h
  | s :: set, out, h => rnd_asc (set := set) (vis_asc h)
theorem rnd_in {l : List (Int × Int)} : ∀ {set out : List Int} {v : Int}, v ∈ rndR l set out → v ∈ out ∨ v ∈ set
  | [], _, _, h => .inl h
  | s :: set, out, v, h => by
    rcases rnd_in (set := set) h with h | h
    · rcases vis_mem h with h | ⟨rfl, _⟩
      · exact .inl h
      · exact .inr (by simp)
    · exact .inr (by simp [h])
theorem rnd_min {l : List (Int × Int)} {A : Int → Prop} : ∀ {set out : List Int}, (∀ u v : Int, A u → v ∈ set → nearB l u v = true → A v) → (∀ u ∈ out, A u) → ∀ v ∈ rndR l set out, A v
  | [], _, _, h => h
  | s :: set, out, hc, h => rnd_min (set := set) (fun u v a b c => hc u v a (by simp [b]) c) fun u hu => by
    rcases vis_mem hu with hu | ⟨rfl, w, hw, hn⟩
    · exact h u hu
    · exact hc w u (h w hw) (by simp) hn
theorem rnd_step {l : List (Int × Int)} : ∀ {set out : List Int} {u v : Int}, u ∈ out → v ∈ set → nearB l u v = true → v ∈ rndR l set out
  | [], _, _, _, _, h, _ => by simp at h
  | s :: set, out, u, v, hu, hv, hn => by
    rcases List.mem_cons.1 hv with rfl | hv
    · exact rnd_keep (set := set) (vis_put hu hn)
    · exact rnd_step (set := set) (vis_keep hu) hv hn
theorem rr_asc {l : List (Int × Int)} {set : List Int} {x : Int} : ∀ k : Nat, (rr l set x k).Pairwise (· < ·)
  | 0 => List.pairwise_singleton _ _
  | k + 1 => rnd_asc (rr_asc k)
theorem rr_in {l : List (Int × Int)} {set : List Int} {x v : Int} : ∀ k : Nat, v ∈ rr l set x k → v = x ∨ v ∈ set
  | 0, h => .inl (by simpa [rr] using h)
  | k + 1, h => by
    rcases rnd_in h with h | h
    · exact rr_in k h
    · exact .inr h
theorem rr_src {l : List (Int × Int)} {set : List Int} {x : Int} : ∀ k : Nat, x ∈ rr l set x k
  | 0 => by simp [rr]
  | k + 1 => rnd_keep (rr_src k)
theorem rr_min {l : List (Int × Int)} {set : List Int} {x : Int} {A : Int → Prop} (hc : ∀ u v : Int, A u → v ∈ set → nearB l u v = true → A v) (hx : A x) : ∀ (k : Nat), ∀ v ∈ rr l set x k, A v
  | 0, v, h => by have : v = x := by simpa [rr] using h
                  exact this ▸ hx
  | k + 1, v, h => rnd_min hc (rr_min hc hx k) v h
theorem asc_nodup {s : List Int} (h : s.Pairwise (· < ·)) : s.Nodup := h.imp fun h => by omega
theorem nodup_full {l m : List Int} (hl : l.Nodup) (h : ∀ v ∈ l, v ∈ m) (hm : m.length ≤ l.length) : ∀ v ∈ m, v ∈ l := fun v hv => by
  refine Classical.byContradiction fun hn => ?_
  have h2 : (v :: l).Nodup := List.nodup_cons.2 ⟨hn, hl⟩
  have := List.Nodup.length_le_of_subset h2 (fun u hu => by
    rcases List.mem_cons.1 hu with rfl | hu
    · exact hv
    · exact h u hu : (v :: l) ⊆ m)
  simp only [List.length_cons] at this
  omega
/-- Closed: a neighbour in the set is in it. -/
def closR (l : List (Int × Int)) (set A : List Int) : Prop := ∀ u ∈ A, ∀ v ∈ set, nearB l u v = true → v ∈ A
theorem clos_step {l : List (Int × Int)} {set A : List Int} (h : closR l set A) : ∀ v ∈ rndR l set A, v ∈ A := rnd_min (A := fun v => v ∈ A) (fun u v hu hv hn => h u hu v hv hn) fun _ h => h
theorem rr_grow {l : List (Int × Int)} {set : List Int} {x : Int} : ∀ k : Nat, closR l set (rr l set x k) ∨ k + 1 ≤ (rr l set x k).length
  | 0 => .inr (by simp [rr])
  | k + 1 => by
    rcases rr_grow (l := l) (set := set) (x := x) k with h | h
    · left
      have h2 := clos_step h
      intro u hu v hv hn
      exact rnd_keep (h u (h2 u hu) v hv hn)
    · by_cases hl : (rr l set x (k + 1)).length ≤ (rr l set x k).length
      · left
        have hf := nodup_full (asc_nodup (rr_asc (l := l) (set := set) (x := x) k)) (fun v hv => rnd_keep hv) hl
        intro u hu v hv hn
        exact rnd_step (hf u hu) hv hn
      · right; omega
theorem rch_clos {l : List (Int × Int)} {set : List Int} {x : Int} (hx : x ∈ set) : closR l set (rch l set x) := by
  rcases rr_grow (l := l) (set := set) (x := x) set.length with h | h
  · exact h
  · have := List.Nodup.length_le_of_subset (asc_nodup (rr_asc (l := l) (set := set) (x := x) set.length)) (fun v hv => (rr_in _ hv).elim (fun e => e ▸ hx) id : (rr l set x set.length) ⊆ set)
    omega
theorem rch_len {l : List (Int × Int)} {set : List Int} {x : Int} (hx : x ∈ set) (k : Nat) : (rr l set x k).length ≤ set.length :=
  List.Nodup.length_le_of_subset (asc_nodup (rr_asc (l := l) (set := set) (x := x) k)) (fun v hv => (rr_in _ hv).elim (fun e => e ▸ hx) id : (rr l set x k) ⊆ set)
theorem rch_iff {l : List (Int × Int)} {set : List Int} {x v : Int} (hx : x ∈ set) : v ∈ rch l set x ↔ ∀ A : Int → Prop, (∀ u w : Int, A u → w ∈ set → nearB l u w = true → A w) → A x → A v :=
  ⟨fun h A hc ha => rr_min hc ha _ v h, fun h => h (fun v => v ∈ rch l set x) (fun u w hu hw hn => rch_clos hx u hu w hw hn) (rr_src _)⟩
end Go.Proofs.Ytikclhackjjhfaa.M
