/- A row whose first elements are handed out: the row is given up, a new one is there. -/
import Derived.Test.YtikclhackjjhfaaRgQ
import Derived.Test.YtikclhackjjhfaaQg
namespace Go.Proofs.Ytikclhackjjhfaa.M
open Go.RowKit Abs
set_option linter.unusedSimpArgs false
set_option linter.unusedVariables false
set_option maxRecDepth 100000
set_option maxHeartbeats 4000000
def AS.cut (S : AS) (t n : Nat) : AS :=
  match S.tm[t]?, S.H[n]? with
  | some (.sub m _ hi k), some (some (.row e tt l)) => if (m == n && k == tt.n) = true then ⟨S.tm.set t (.ref S.H.length), dropC [n] S.H ++ [some (.row e tt fun _ => (l ()).take (hi ()).toNat)], S.k⟩ else S
  | some (.ref m), some (some (.row e tt l)) => if (m == n) = true then ⟨S.tm.set t (.ref S.H.length), dropC [n] S.H ++ [some (.row e tt l)], S.k⟩ else S
  | _, _ => S
def cutAt (S : AS) (t : Nat) : Prop :=
  match S.tm[t]? with
  | some (.sub _ lo _ _) => lo () = 0
  | _ => True
theorem tms_cut {w0 w : World} {B : Nat → Prop} {hd : Nat → Value} {S : AS} {H : Hp} {a : Act} {val : Nat → Bd} {t : Nat} {x y : AV} (hR : Rl w0 B hd { S with H := H } a w val) (h : S.tm[t]? = some x) (hy : VRel (okF H val) w H.length val y (a.tmps.getD t undef)) : Rl w0 B hd ⟨S.tm.set t y, H, S.k⟩ a w val := by
  refine ⟨hR.fr, by simpa using hR.len, hR.defers, fun u => ?_, hR.heap, hR.own, hR.kept, hR.kle⟩
  have h2 := hR.tmps u
  simp only [List.getD_eq_getElem?_getD] at h2 ⊢
  by_cases hut : t = u
  · subst hut
    rw [List.getElem?_set_self (List.getElem?_eq_some_iff.1 h).1]
    exact hy
  · rw [List.getElem?_set_ne hut]; exact h2
theorem Rl.cut {w0 w : World} {B : Nat → Prop} {hd : Nat → Value} {S : AS} {a : Act} {val : Nat → Bd} (hR : Rl w0 B hd S a w val) (t n : Nat) (hc : cutAt S t) : ∃ val', Rl w0 B hd (S.cut t n) a w val' := by
  unfold AS.cut
  split
  · rename_i m lo hi k e tt l ht hH
    unfold cutAt at hc
    rw [ht] at hc
    simp only at hc
    cases hb : (m == n && k == tt.n) with
    | false => exact ⟨val, by simpa using hR⟩
    | true =>
      simp only [Bool.and_eq_true, beq_iff_eq] at hb
      obtain ⟨rfl, rfl⟩ := hb
      simp only [↓reduceIte]
      obtain ⟨xs, h1, h2, h3⟩ := hR.heap.blk m _ hH
      have hv := hR.tmps t
      rw [List.getD_eq_getElem?_getD, ht] at hv
      simp only [Option.getD_some, VRel] at hv
      obtain ⟨hlt, l0, lh, ad, len, cap, hd0, hhi, hv⟩ := hv
      have hlen : len = (l ()).length := by
        rcases h1.2 with ⟨q1, q2⟩ | ⟨g, c, cur, q1, _⟩
        · rw [hd0] at q1; cases q1; exact q2.symm
        · rw [hd0] at q1; cases q1; rfl
      subst hlen
      have hv2 : a.tmps.getD t undef = .slice ad (hi ()).toNat cap := by
        rw [hv, hc]
        have e0 : (ad.map fun x => x.add ((0 : Int).toNat * tt.n)) = ad := by
          rcases h1.2 with ⟨q1, q2⟩ | ⟨g, c, cur, q1, _⟩
          · rw [hd0] at q1; simp only [Value.slice.injEq] at q1; rw [q1.1]; rfl
          · rw [hd0] at q1; simp only [Value.slice.injEq] at q1; rw [q1.1]; simp [Addr.add_lit]
        simp only [Int.toNat_zero, Nat.sub_zero] at e0 ⊢
        rw [e0]
        split <;> rfl
      have htk : ((l ()).take (hi ()).toNat).length = (hi ()).toNat := by rw [List.length_take]; omega
      have hown : w.ownsRow 0 e tt.n (.slice ad (hi ()).toNat cap) ((l ()).take (hi ()).toNat).length (xs.take ((hi ()).toNat * tt.n)) := by
        rw [htk]
        refine ⟨by rw [List.length_take, h1.1]; exact Nat.min_eq_left (Nat.mul_le_mul_right _ (by omega)), ?_⟩
        rcases h1.2 with ⟨q1, q2⟩ | ⟨g, c, cur, q1, q3, q4, q5, q6, q7, q8⟩
        · rw [hd0] at q1
          simp only [Value.slice.injEq] at q1
          exact .inl ⟨by rw [q1.1, q1.2.2, show (hi ()).toNat = 0 by omega], by omega⟩
        · rw [hd0] at q1
          simp only [Value.slice.injEq] at q1
          obtain ⟨q1, _, rfl⟩ := q1
          exact .inr ⟨g, cap, cur, by rw [q1], q3, q4, by omega, q6, q7, by rw [← q8, List.take_take, Nat.min_eq_left (Nat.mul_le_mul_right _ (by omega))]⟩
      have hrep : RepL (okF S.H val) w tt ((l ()).take (hi ()).toNat) (xs.take ((hi ()).toNat * tt.n)) := by
        have := repL_sub h2 (lo := 0) (hi := hi ()) (Int.le_refl _) (by omega) hhi
        simpa [subL] using this
      have hF : (ownB (.slice ad (hi ()).toNat cap)).toList = (val m).F := by
        rw [h3, hd0]
        cases ad <;> rfl
      have hT := hR.take (w1 := w) (b := .row e tt fun _ => (l ()).take (hi ()).toNat) (d := ⟨.slice ad (hi ()).toNat cap, [], (val m).F⟩) hH (Nat.le_refl _) rfl rfl rfl (fun _ _ _ => rfl) (fun g hg => .inr hg)
        (fun val' H' _ _ hk => ⟨_, hown, ⟨hrep.1, fun i y hy => (hrep.2 i y hy).mono (Nat.le_refl _) hk⟩, hF.symm⟩)
      exact ⟨_, tms_cut hT ht (by simp only [VRel]; exact ⟨by simp [dropC_len], by rw [upd_self, hv2]⟩)⟩
  · rename_i m e tt l ht hH
    cases hb : (m == n) with
    | false => exact ⟨val, by simpa using hR⟩
    | true =>
      simp only [beq_iff_eq] at hb
      subst hb
      simp only [↓reduceIte]
      obtain ⟨xs, h1, h2, h3⟩ := hR.heap.blk m _ hH
      have hv := hR.tmps t
      rw [List.getD_eq_getElem?_getD, ht] at hv
      simp only [Option.getD_some, VRel] at hv
      have hT := hR.take (w1 := w) (b := .row e tt l) (d := ⟨(val m).v, [], (val m).F⟩) hH (Nat.le_refl _) rfl rfl rfl (fun _ _ _ => rfl) (fun g hg => .inr hg)
        (fun val' H' _ _ hk => ⟨xs, h1, ⟨h2.1, fun i y hy => (h2.2 i y hy).mono (Nat.le_refl _) hk⟩, h3⟩)
      exact ⟨_, tms_cut hT ht (by simp only [VRel]; exact ⟨by simp [dropC_len], by rw [upd_self, hv.2]⟩)⟩
  · exact ⟨val, hR⟩
theorem EndG.cut {k : Nat} (t n : Nat) (ρ : List Nat) {rs : List RK} {res : List AV} {post : Hp} {e : AX} {S : AS} (hc : cutAt S t) (h : endGP k ρ rs res post e (S.cut t n)) : EndG k rs res post e S := by
  obtain ⟨h0, h1, h2, h3, h4⟩ := h.get
  exact ⟨fun x hx => hx ▸ h0, fun w0 B hd a w val hR => by
    obtain ⟨val', hR'⟩ := hR.cut t n hc
    exact ⟨_, val', hR', ρ, h1, h2, h3, h4⟩⟩
end Go.Proofs.Ytikclhackjjhfaa.M
