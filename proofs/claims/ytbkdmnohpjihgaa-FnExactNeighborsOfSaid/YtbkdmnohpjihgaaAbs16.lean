/- A variable that is written no more. -/
import Derived.Test.YtbkdmnohpjihgaaAbs15
namespace Go.Proofs.Ytbkdmnohpjihgaa.Abs
open Go.RowKit
set_option linter.unusedVariables false

def AV.ice (n : Nat) (t : Ty) (d : t.den) : AV → AV
  | .ptr m i => if m = n then (if i = 0 then .iptr t d else .junk) else .ptr m i
  | x => x
def AV.icy (n : Nat) : AV → Bool
  | .ptr m _ => m != n
  | _ => true
def AS.freeze (S : AS) (n : Nat) (t : Ty) (d : t.den) : AS := ⟨S.tm.map (AV.ice n t d), S.H.set n none⟩
section
variable {P : Program} {w0 w : World} {S : AS} {a : Act} {val : Nat → Value}
theorem Rl.freeze (hR : Rl w0 S a w val) {n : Nat} {e : TypeId} {cs : List AV} {t : Ty} {d : t.den} (hH : S.H[n]? = some (some (.box e cs))) (hp : pack t cs = some (d, [])) : Rl w0 (S.freeze n t d) a w val := by
  have hk : ∀ b, okB S.H val b → okB (S.H.set n none) val b := fun b hb m C hC hg => by
    rcases get_set hC with ⟨_, h⟩ | ⟨_, h⟩
    · cases h
    · exact hb m C h hg
  have K : Keep (okB S.H val) (okB (S.H.set n none) val) w w S.H.length (S.H.set n none).length val val := ⟨Nat.le_refl _, fun b hb _ => ⟨hk b hb, rfl⟩, by simp, fun _ _ => rfl⟩
  obtain ⟨g, cur, h1, h2, h3, h4, h5⟩ := hR.heap n _ hH
  have hrep : Rep (okB (S.H.set n none) val) w t d cur.toList := by
    refine (pack_all (ok := okB S.H val) (N := S.H.length) (val := val) hp (by simpa using h4.symm) fun i c hc => ?_).weak hk
    obtain ⟨u, hu, _, hv⟩ := h5 i c hc
    exact ⟨u, by simpa using hu, hv⟩
  have hg : okB (S.H.set n none) val g := fun m C hC hgm => by
    rcases get_set hC with ⟨_, h⟩ | ⟨hne, h⟩
    · cases h
    · exact hne (hR.apart m n C _ g h hH hgm (by rw [h1]; rfl))
  have hP : PRel (okB (S.H.set n none) val) w t d (.pointer (some ⟨g, 0, none⟩)) := ⟨g, 0, cur.toList, rfl, hg, (Array.getElem?_eq_some_iff.1 h3).1, hrep, fun j u hu => by
    simp only [World.cell?, h3]
    simpa using hu⟩
  refine ⟨hR.below, by simp [AS.freeze, hR.len], hR.defers, fun u => ?_, fun m C hC => ?_, fun m k C D q hC hD => ?_⟩
  · have hu := hR.tmps u
    rw [List.getD_eq_getElem?_getD] at hu ⊢
    simp only [AS.freeze, List.getElem?_map]
    cases hx : S.tm[u]? with
    | none => rw [hx] at hu; exact hu
    | some x =>
      rw [hx] at hu
      simp only [Option.map_some, Option.getD_some] at hu ⊢
      cases x with
      | ptr m i =>
        unfold AV.ice
        by_cases hm : m = n
        · subst hm
          by_cases hi : i = 0
          · subst hi
            simp only [if_true]
            obtain ⟨_, g', k1, k2⟩ := hu
            rw [h1] at k1
            cases k1
            rw [k2]
            exact hP
          · simp only [if_true, if_neg hi]; trivial
        · simp only [if_neg hm]
          exact hu.keep K
      | int x => exact hu
      | bool x => exact hu
      | str x => exact hu
      | u8 x => exact hu
      | u64 x => exact hu
      | sl t l => exact hu.keep K
      | agg t x => exact hu.keep K
      | ref m => exact hu.keep K
      | eptr m i k => exact hu.keep K
      | iptr t x => exact hu.keep K
      | tup l => exact hu.keep K
      | fn f c => exact hu.keep K
      | ifn f c => exact hu.keep K
      | fn2 g f c => exact hu.keep K
      | nilsl => exact hu
      | undef => exact hu
      | junk => trivial
  · rcases get_set hC with ⟨_, h⟩ | ⟨_, h⟩
    · cases h
    · exact (hR.heap m C h).keep K (lt_of_some h) fun g _ => rfl
  · have f : ∀ {x : Nat} {X : Blk}, (S.H.set n none)[x]? = some (some X) → S.H[x]? = some (some X) := fun {x X} hX => by
      rcases get_set hX with ⟨_, h⟩ | ⟨_, h⟩
      · cases h
      · exact h
    exact hR.apart m k C D q (f hC) (f hD)
theorem W.freeze {c : Code} {Q : AX → AS → Prop} (n : Nat) {e : TypeId} {cs : List AV} {t : Ty} {d : t.den} (hH : S.H[n]? = some (some (.box e cs))) (hp : pack t cs = some (d, [])) (h : W P c Q (S.freeze n t d)) : W P c Q S :=
  ⟨fun w0 a w val hR => h.out w0 a w val (hR.freeze hH hp)⟩
theorem slice_q {o : Oper} {xt e : TypeId} {x : Operand} {tt t : Ty} {d : tt.den} {len sz : Nat} {l : List t.den} (hop : o.op = .slice xt x none none none) (hx : S.ev x = .iptr tt d) (har : arElem P xt = some (len, e)) (hsz : szOf P e = some sz)
    (hl : arrL tt d len sz t = some l) (hn : t.n = sz) (hlen : l.length = len) (hle : len ≤ 16777216) : qval P S o (.sl t l) := by
  unfold qval
  rw [hop]
  simp only [hx]
  exact ⟨trivial, trivial, len, e, sz, har, hsz, t, l, hl, hn, hlen, hle, rfl⟩
theorem aqui_v {ops r : List Oper} {o : Oper} {Q : AS → Prop} {v : AV} (hv : qval P S o v) (hg : gd S ops o = some true) (h : ∀ K : AS → Prop, (∀ S', Quis P ops Q r S' → K S') → K (S.put o.dst v)) : Quis P ops Q (o :: r) S := by
  constructor
  unfold aqui
  rw [hg]
  exact ⟨_, .inl hv, h _ fun _ h => h.out⟩
end
end Go.Proofs.Ytbkdmnohpjihgaa.Abs
