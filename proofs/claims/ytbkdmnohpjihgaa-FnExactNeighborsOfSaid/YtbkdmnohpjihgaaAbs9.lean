/- Operations that make memory or write it: the rules, and that they hold. -/
import Derived.Test.YtbkdmnohpjihgaaAbs8
namespace Go.Proofs.Ytbkdmnohpjihgaa.Abs
open Go.RowKit
set_option linter.unusedVariables false

def zden : (t : Ty) → t.den
  | .int => (0 : Int)
  | .bool => false
  | .str => ByteArray.empty
  | .sl t => ([] : List t.den)
  | .pr a b => (zden a, zden b)
def zcellsOf : Ty → List Value
  | .int => [.int .i64 0]
  | .bool => [.bool false]
  | .str => [.string ByteArray.empty]
  | .sl _ => [.slice none 0 0]
  | .pr a b => zcellsOf a ++ zcellsOf b
theorem zrep {ok : Nat → Prop} {w : World} : ∀ t : Ty, Rep ok w t (zden t) (zcellsOf t)
  | .int => by unfold Rep; rfl
  | .bool => by unfold Rep; rfl
  | .str => by unfold Rep; rfl
  | .sl t => by unfold Rep; exact ⟨none, 0, rfl, Nat.le_refl _, by simp [zden, maxLen], .inl rfl⟩
  | .pr a b => by unfold Rep; exact ⟨_, _, rfl, zrep a, zrep b⟩
/-- Elements of this type are laid so. -/
def elemOk (P : Program) (e : TypeId) (t : Ty) : Prop :=
  (P.info? e).map (fun i => (i.size, i.zero.map (·.cells.toList))) = some (t.n, some (zcellsOf t)) ∧ (P.info? e).map (fun i => decide (i.bytes ≤ 1024)) = some true
theorem elemOk_info {P : Program} {e : TypeId} {t : Ty} (h : elemOk P e t) : ∃ i z, P.info? e = some i ∧ i.zero = some z ∧ i.size = t.n ∧ i.bytes ≤ 1024 ∧ z.cells.toList = zcellsOf t := by
  obtain ⟨h1, h2⟩ := h
  cases hi : P.info? e with
  | none => rw [hi] at h1; cases h1
  | some i =>
    rw [hi] at h1 h2
    simp at h1 h2
    obtain ⟨h3, z, h4, h5⟩ := h1
    exact ⟨i, z, rfl, h4, h3, h2, h5⟩
def cellsOfAV (H : Hp) : AV → Option (List AV)
  | .agg t x => some (cellsAV t x)
  | .int x => some [.int x]
  | .bool x => some [.bool x]
  | .str x => some [.str x]
  | .u8 x => some [.u8 x]
  | .sl t l => some [.sl t l]
  | .ref n => (match H[n]? with
    | some (some (.row _ _ _)) => some [.ref n]
    | _ => none)
  | .ptr n i => some [.ptr n i]
  | .eptr n i k => some [.eptr n i k]
  | .iptr t x => some [.iptr t x]
  | .fn f c => some [.fn f c]
  | .nilsl => some [.nilsl]
  | _ => none
def cvz : Value → Option AV
  | .int .i64 x => some (.int x)
  | .int .u8 x => some (.u8 x)
  | .bool b => some (.bool b)
  | .string s => some (.str s)
  | .slice none 0 0 => some .nilsl
  | _ => none
def zAVs (P : Program) (e : TypeId) : Option (List AV) := ((P.info? e).bind (·.zero)).bind fun z => z.cells.toList.mapM cvz
def splice (cs : List AV) (i : Nat) : List AV → List AV
  | [x] => cs.set i x
  | xs => cs.take i ++ xs ++ cs.drop (i + xs.length)
def AS.new (S : AS) (d : Option Tmp) (x : AV) (B : Blk) : AS := { S with H := S.H ++ [some B] }.put d x
def srcOf (S : AS) (tt : Ty) : AV → Option (List tt.den)
  | .sl t l => if h : t = tt then some (h ▸ l) else none
  | .nilsl => some []
  | .ref n => (match S.H[n]? with
    | some (some (.row _ t l)) => if h : t = tt then some (h ▸ l) else none
    | _ => none)
  | _ => none
section
variable {P : Program} {w0 w w1 : World} {S : AS} {a : Act} {val : Nat → Value}
theorem cell_vrel {ok : Nat → Prop} {N : Nat} {t : Ty} {x : t.den} {cs : List Value} (h : Rep ok w t x cs) : ∀ (i : Nat) (c : AV), (cellsAV t x)[i]? = some c → ∃ u, cs[i]? = some u ∧ u.oneCell' = true ∧ VRel ok w N val c u := fun i c hc => by
  obtain ⟨u, hu, hv⟩ := (rep_cellsAV (N := N) (val := val) h).2 i c hc
  exact ⟨u, hu, h.one u (List.mem_of_getElem? hu), hv⟩
theorem cells_rel (hR : Rl w0 S a w val) {x : AV} {v : Value} {cs : List AV} (hx : VRel (okB S.H val) w S.H.length val x v) (hc : cellsOfAV S.H x = some cs) :
    v.cells.size = cs.length ∧ ∀ (i : Nat) (c : AV), cs[i]? = some c → ∃ u, v.cells[i]? = some u ∧ u.oneCell' = true ∧ VRel (okB S.H val) w S.H.length val c u := by
  have one : ∀ (y : AV), VRel (okB S.H val) w S.H.length val y v → v.oneCell' = true → v.cells = #[v] → cs = [y] →
      v.cells.size = cs.length ∧ ∀ (i : Nat) (c : AV), cs[i]? = some c → ∃ u, v.cells[i]? = some u ∧ u.oneCell' = true ∧ VRel (okB S.H val) w S.H.length val c u := by
    intro y hy h1 h2 h3
    subst h3
    rw [h2]
    refine ⟨rfl, fun i c hi => ?_⟩
    cases i with
    | zero => simp at hi; subst hi; exact ⟨v, rfl, h1, hy⟩
    | succ i => simp at hi
  cases x <;> simp only [cellsOfAV, Option.some.injEq] at hc <;> (try (cases hc; done))
  case agg t d =>
    obtain ⟨vs, rfl, hr⟩ := hx
    subst hc
    refine ⟨?_, fun i c hi => ?_⟩
    · simp [Value.cells, (rep_cellsAV (N := 0) (val := val) hr).1]
    · obtain ⟨u, hu, h1, h2⟩ := cell_vrel (N := S.H.length) (val := val) hr i c hi
      exact ⟨u, by simpa [Value.cells] using hu, h1, h2⟩
  case int k => have e : v = .int .i64 k := hx; exact one _ hx (by rw [e]; rfl) (by rw [e]; rfl) hc.symm
  case bool k => have e : v = .bool k := hx; exact one _ hx (by rw [e]; rfl) (by rw [e]; rfl) hc.symm
  case str k => have e : v = .string k := hx; exact one _ hx (by rw [e]; rfl) (by rw [e]; rfl) hc.symm
  case u8 k => have e : v = .int .u8 k := hx; exact one _ hx (by rw [e]; rfl) (by rw [e]; rfl) hc.symm
  case sl t l =>
    have hx' : Rep _ w (.sl t) l [v] := hx
    have h1 := hx'.one v (by simp)
    have e : ∃ ad n c, v = .slice ad n c := by
      unfold Rep at hx'
      obtain ⟨ad, cap, he, _⟩ := hx'
      simp at he
      exact ⟨_, _, _, he⟩
    obtain ⟨ad, n, c, e⟩ := e
    exact one _ hx h1 (by rw [e]; rfl) hc.symm
  case ref n =>
    split at hc
    · rename_i e t l hH
      cases hc
      obtain ⟨xs, h1, _⟩ := hR.heap n _ hH
      have e : ∃ ad n c, v = .slice ad n c := by
        rw [hx.2]
        rcases h1.2 with ⟨h2, _⟩ | ⟨g, cap, cur, h2, _⟩
        · exact ⟨_, _, _, h2⟩
        · exact ⟨_, _, _, h2⟩
      obtain ⟨ad, n, c, e⟩ := e
      exact one _ hx (by rw [e]; rfl) (by rw [e]; rfl) rfl
    · cases hc
  case ptr n i => have hx0 := hx; obtain ⟨_, g, _, e⟩ := hx; exact one _ hx0 (by rw [e]; rfl) (by rw [e]; rfl) hc.symm
  case eptr n i k => have hx0 := hx; obtain ⟨h0, g, l, c, h1, e⟩ := hx; exact one _ hx0 (by rw [e]; rfl) (by rw [e]; rfl) hc.symm
  case iptr t d => have hx0 := hx; obtain ⟨b, o, cs', e, _⟩ := hx; exact one _ hx0 (by rw [e]; rfl) (by rw [e]; rfl) hc.symm
  case fn f cap => have hx0 := hx; obtain ⟨vs, e, _⟩ := hx; exact one _ hx0 (by rw [e]; rfl) (by rw [e]; rfl) hc.symm
  case nilsl => have e : v = .slice none 0 0 := hx; exact one _ hx (by rw [e]; rfl) (by rw [e]; rfl) hc.symm

/-- A row, its values elementwise. -/
theorem flat_repl {ok : Nat → Prop} {t : Ty} : ∀ {l : List t.den} {vs : List (List Value)}, vs.length = l.length → (∀ (i : Nat) (y : t.den), l[i]? = some y → ∃ cs, vs[i]? = some cs ∧ Rep ok w t y cs) →
    RepL ok w t l vs.flatten
  | [], [], _, _ => ⟨by simp, fun i y hy => by simp at hy⟩
  | [], _ :: _, h, _ => by simp at h
  | _ :: _, [], h, _ => by simp at h
  | x :: l, c :: vs, hl, h => by
    obtain ⟨h1, h2⟩ := flat_repl (l := l) (vs := vs) (by simpa using hl) (fun i y hy => by simpa using h (i + 1) y (by simpa using hy))
    obtain ⟨c', hc', hr⟩ := h 0 x rfl
    simp at hc'
    subst hc'
    have hlen := hr.length
    refine ⟨by simp [h1, hlen, Nat.add_mul]; omega, fun i y hy => ?_⟩
    rw [List.flatten_cons]
    cases i with
    | zero =>
      simp at hy
      subst hy
      simp only [Nat.zero_mul, List.drop_zero]
      rw [List.take_append_of_le_length (by omega), List.take_of_length_le (by omega)]
      exact hr
    | succ i =>
      have e : (i + 1) * t.n = c.length + i * t.n := by rw [Nat.add_mul, hlen]; omega
      rw [e, List.drop_append]
      rw [List.drop_eq_nil_of_le (by omega : c.length ≤ c.length + i * t.n), List.nil_append, Nat.add_sub_cancel_left]
      exact h2 i y (by simpa using hy)
theorem repl_append {ok : Nat → Prop} {t : Ty} {l m : List t.den} {xs ys : List Value} (h1 : RepL ok w t l xs) (h2 : RepL ok w t m ys) : RepL ok w t (l ++ m) (xs ++ ys) := by
  refine ⟨by rw [List.length_append, h1.1, h2.1, List.length_append, Nat.add_mul], fun i y hy => ?_⟩
  by_cases hi : i < l.length
  · rw [List.getElem?_append_left hi] at hy
    have hle : (i + 1) * t.n ≤ l.length * t.n := Nat.mul_le_mul_right _ (by omega)
    rw [Nat.add_mul] at hle
    have hx := h1.1
    rw [List.drop_append_of_le_length (by omega), List.take_append_of_le_length (by rw [List.length_drop]; omega)]
    exact h1.2 i y hy
  · rw [List.getElem?_append_right (by omega)] at hy
    have hx := h1.1
    have hle : l.length * t.n ≤ i * t.n := Nat.mul_le_mul_right _ (by omega)
    rw [List.drop_append, List.drop_eq_nil_of_le (by omega : xs.length ≤ i * t.n), List.nil_append, hx, ← Nat.sub_mul]
    exact h2.2 _ y hy
theorem repl_set {ok : Nat → Prop} {t : Ty} {l : List t.den} {xs c : List Value} {i : Nat} {y : t.den} (h : RepL ok w t l xs) (hi : i < l.length) (hy : Rep ok w t y c) :
    RepL ok w t (l.set i y) (xs.take (i * t.n) ++ c ++ xs.drop (i * t.n + c.length)) := by
  have hc := hy.length
  have hx := h.1
  have hle : (i + 1) * t.n ≤ l.length * t.n := Nat.mul_le_mul_right _ (by omega)
  rw [Nat.add_mul] at hle
  have hl1 : (xs.take (i * t.n)).length = i * t.n := by rw [List.length_take]; omega
  refine ⟨by simp [hc]; omega, fun j z hz => ?_⟩
  by_cases hj : j = i
  · subst hj
    rw [List.getElem?_set_self hi] at hz
    cases hz
    rw [List.append_assoc, List.drop_append, List.drop_eq_nil_of_le (by omega : (xs.take (j * t.n)).length ≤ j * t.n), List.nil_append, hl1, Nat.sub_self, List.drop_zero,
      List.take_append_of_le_length (by omega), List.take_of_length_le (by omega)]
    exact hy
  · rw [List.getElem?_set_ne (Ne.symm hj)] at hz
    have := h.2 j z hz
    have hjl : j < l.length := (List.getElem?_eq_some_iff.1 hz).1
    refine (congrArg (Rep ok w t z) ?_).mpr this
    apply List.ext_getElem?
    intro q
    rw [List.getElem?_take, List.getElem?_take]
    split
    · rename_i hq
      rw [List.getElem?_drop, List.getElem?_drop]
      rcases Nat.lt_or_ge j i with hlt | hge
      · have : (j + 1) * t.n ≤ i * t.n := Nat.mul_le_mul_right _ (by omega)
        rw [Nat.add_mul] at this
        rw [List.append_assoc, List.getElem?_append_left (by omega), List.getElem?_take, if_pos (by omega)]
      · have : (i + 1) * t.n ≤ j * t.n := Nat.mul_le_mul_right _ (by omega)
        rw [Nat.add_mul] at this
        rw [List.getElem?_append_right (by rw [List.length_append]; omega), List.getElem?_drop]
        congr 1
        rw [List.length_append]; omega
    · rfl
end
end Go.Proofs.Ytbkdmnohpjihgaa.Abs
