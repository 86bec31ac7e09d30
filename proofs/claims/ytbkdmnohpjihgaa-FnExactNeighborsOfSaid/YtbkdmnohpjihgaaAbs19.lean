/- A variable that holds a function and is written no more; calls of closures over it. -/
import Derived.Test.YtbkdmnohpjihgaaAbs18
namespace Go.Proofs.Ytbkdmnohpjihgaa.Abs
open Go.RowKit
set_option linter.unusedVariables false
def AV.iceF (n : Nat) (f : FuncId) (cap : List TV) : AV → AV
  | .ptr m i => if m = n then (if i = 0 then .ifn f cap else .junk) else .ptr m i
  | x => x
def AS.freezeF (S : AS) (n : Nat) (f : FuncId) (cap : List TV) : AS := ⟨S.tm.map (AV.iceF n f cap), S.H.set n none⟩
section
variable {P : Program} {w0 w : World} {S : AS} {a : Act} {val : Nat → Value}
theorem Rl.freezeF (hR : Rl w0 S a w val) {n : Nat} {e : TypeId} {f : FuncId} {cap : List TV} (hH : S.H[n]? = some (some (.box e [.fn f cap]))) : Rl w0 (S.freezeF n f cap) a w val := by
  have hk : ∀ b, okB S.H val b → okB (S.H.set n none) val b := fun b hb m C hC hg => by
    rcases get_set hC with ⟨_, h⟩ | ⟨_, h⟩
    · cases h
    · exact hb m C h hg
  have K : Keep (okB S.H val) (okB (S.H.set n none) val) w w S.H.length (S.H.set n none).length val val := ⟨Nat.le_refl _, fun b hb _ => ⟨hk b hb, rfl⟩, by simp, fun _ _ => rfl⟩
  obtain ⟨g, cur, h1, h2, h3, h4, h5⟩ := hR.heap n _ hH
  have hg : okB (S.H.set n none) val g := fun m C hC hgm => by
    rcases get_set hC with ⟨_, h⟩ | ⟨hne, h⟩
    · cases h
    · exact hne (hR.apart m n C _ g h hH hgm (by rw [h1]; rfl))
  have hP : IFRel (okB (S.H.set n none) val) w f cap (.pointer (some ⟨g, 0, none⟩)) := by
    obtain ⟨u, hu, _, hv⟩ := h5 0 (.fn f cap) rfl
    have hv' : VRel (okB (S.H.set n none) val) w (S.H.set n none).length val (.fn f cap) u := hv.keep K
    obtain ⟨vs, e1, e2, e3⟩ := hv'
    exact ⟨g, u, rfl, hg, (Array.getElem?_eq_some_iff.1 h3).1, by simp [World.cell?, h3, hu], vs, e1, e2, e3⟩
  refine ⟨hR.below, by simp [AS.freezeF, hR.len], hR.defers, fun u => ?_, fun m C hC => ?_, fun m k C D q hC hD => ?_⟩
  · have hu := hR.tmps u
    rw [List.getD_eq_getElem?_getD] at hu ⊢
    simp only [AS.freezeF, List.getElem?_map]
    cases hx : S.tm[u]? with
    | none => rw [hx] at hu; exact hu
    | some x =>
      rw [hx] at hu
      simp only [Option.map_some, Option.getD_some] at hu ⊢
      cases x with
      | ptr m i =>
        unfold AV.iceF
        by_cases hm : m = n
        · subst hm
          by_cases hi : i = 0
          · subst hi
            simp only [if_true]
            obtain ⟨_, g', k1, k2⟩ := hu
            rw [h1] at k1
            cases k1
            rw [k2]
            exact hP
          · simp only [if_true, if_neg hi]; trivial
        · simp only [if_neg hm]
          exact hu.keep K
      | int x => exact hu
      | bool x => exact hu
      | str x => exact hu
      | u8 x => exact hu
      | u64 x => exact hu
      | sl t l => exact hu.keep K
      | agg t x => exact hu.keep K
      | ref m => exact hu.keep K
      | eptr m i k => exact hu.keep K
      | iptr t x => exact hu.keep K
      | tup l => exact hu.keep K
      | fn f c => exact hu.keep K
      | ifn f c => exact hu.keep K
      | fn2 g f c => exact hu.keep K
      | nilsl => exact hu
      | undef => exact hu
      | junk => trivial
  · rcases get_set hC with ⟨_, h⟩ | ⟨_, h⟩
    · cases h
    · exact (hR.heap m C h).keep K (lt_of_some h) fun g _ => rfl
  · have f : ∀ {x : Nat} {X : Blk}, (S.H.set n none)[x]? = some (some X) → S.H[x]? = some (some X) := fun {x X} hX => by
      rcases get_set hX with ⟨_, h⟩ | ⟨_, h⟩
      · cases h
      · exact h
    exact hR.apart m k C D q (f hC) (f hD)
theorem W.freezeF {c : Code} {Q : AX → AS → Prop} (n : Nat) {e : TypeId} {f : FuncId} {cap : List TV} (hH : S.H[n]? = some (some (.box e [.fn f cap]))) (h : W P c Q (S.freezeF n f cap)) : W P c Q S :=
  ⟨fun w0 a w val hR => h.out w0 a w val (hR.freezeF hH)⟩
end
section
variable {P : Program} {Q : AS → Prop} {S : AS} {ops r : List Oper} {o : Oper}
theorem call_q2 {c : Call} {fo : Operand} {g f : FuncId} {cap : List TV} {args : List AV} {res : List Res} (hop : o.op = .call c) (hc : c.callee = .value fo) (hf : S.ev fo = .fn2 g f cap) (hs : Spec P g (args ++ [.ifn f cap]) res)
    (ha : argsOk S (c.args.toList.map S.ev) args) : qcall P S o (resAV res) := by
  unfold qcall
  rw [hop]
  simp only [hc, hf]
  exact ⟨args, res, ha, hs, rfl⟩
theorem aqui_c2 {c : Call} {fo : Operand} {g f : FuncId} {cap : List TV} {args : List AV} {res : List Res} (hs : Spec P g (args ++ [.ifn f cap]) res) (hg : gd S ops o = some true) (hop : o.op = .call c) (hc : c.callee = .value fo) (hf : S.ev fo = .fn2 g f cap)
    (ha : argsOk S (c.args.toList.map S.ev) args) (h : ∀ K : AS → Prop, (∀ S', Quis P ops Q r S' → K S') → K (S.put o.dst (resAV res))) : Quis P ops Q (o :: r) S := by
  constructor
  unfold aqui
  rw [hg]
  exact ⟨_, .inr (call_q2 hop hc hf hs ha), h _ fun _ h => h.out⟩
theorem aseq_c2 {c : Call} {fo : Operand} {g f : FuncId} {cap : List TV} {args : List AV} {res : List Res} (hs : Spec P g (args ++ [.ifn f cap]) res) (hg : gd S ops o = some true) (hop : o.op = .call c) (hc : c.callee = .value fo) (hf : S.ev fo = .fn2 g f cap)
    (ha : argsOk S (c.args.toList.map S.ev) args) (h : ∀ K : AS → Prop, (∀ S', Seqs P ops Q r S' → K S') → K (S.put o.dst (resAV res))) : Seqs P ops Q (o :: r) S := by
  constructor
  unfold aseq
  rw [hg]
  simp only
  unfold sstep
  rw [hop]
  simp only [hc]
  exact .inl ⟨_, call_q2 hop hc hf hs ha, h _ fun _ h => h.out⟩
theorem fn2_q {g f : FuncId} {first caps : Array Operand} {x : Operand} {cap : List TV} (hop : o.op = .makeFunc (.func g) first caps) (h1 : first = #[]) (hc : caps = #[x]) (hx : S.ev x = .ifn f cap) : qval P S o (.fn2 g f cap) := by
  subst h1
  subst hc
  unfold qval
  rw [hop]
  have e : capAV [AV.ifn f cap] = none := rfl
  simp [hx, e]
theorem aseq_m {g : FuncId} {first caps : Array Operand} {v : AV} (hop : o.op = .makeFunc (.func g) first caps) (hv : qval P S o v) (hg : gd S ops o = some true) (h : ∀ K : AS → Prop, (∀ S', Seqs P ops Q r S' → K S') → K (S.put o.dst v)) : Seqs P ops Q (o :: r) S := by
  constructor
  unfold aseq
  rw [hg]
  simp only
  unfold sstep
  rw [hop]
  exact ⟨_, hv, h _ fun _ h => h.out⟩
end
end Go.Proofs.Ytbkdmnohpjihgaa.Abs
