/- Code: the rules over abstract states, and a function's contract out of them. -/
import Derived.Test.YtbkdmnohpjihgaaAbs12
namespace Go.Proofs.Ytbkdmnohpjihgaa.Abs
open Go.RowKit
set_option linter.unusedVariables false

def lexG (ops : Array Oper) (e : Array Bool → Bool) : Nat → Nat → Array Bool → Bool
  | 0, _, listed => e listed
  | f + 1, k, listed => (Region.ready .any ops listed).contains k && Region.free .any ops listed k && lexG ops e f (k + 1) (listed.setIfInBounds k true)
def anyB (ops : Array Oper) : Bool := lexG ops (fun l => (Region.ready .any ops l).isEmpty) ops.size 0 (Array.replicate ops.size false)
def tailB (ops : Array Oper) (n : Nat) : Bool :=
  decide (n < ops.size) && Region.sinkB .any ops n && Region.chainB .any ops n && lexG ops (fun l => Region.seqB .any ops (ops.size - n) n l) n 0 (Array.replicate ops.size false)

inductive AX where
  | normal
  | exit (id : Nat)
  | ret
  | goto (l : Nat)
def AX.out : AX → Exit
  | .normal => .normal
  | .exit i => .exit i
  | .ret => .ret
  | .goto l => .goto l
/-- What holds behind a piece of code. -/
def CQ (w0 : World) (Q : AX → AS → Prop) (e : Exit) (a : Act) (w : World) : Prop := ∃ x S val, e = AX.out x ∧ Q x S ∧ Rl w0 S a w val
def AWp (P : Program) (c : Code) (Q : AX → AS → Prop) (S : AS) : Prop := ∀ w0 a w val, Rl w0 S a w val → c.wp P (CQ w0 Q) a w
def AX.seqd (K : AS → Prop) (Q : AX → AS → Prop) : AX → AS → Prop
  | .normal, S => K S
  | e, S => Q e S
def AX.blk (id : Nat) (Q : AX → AS → Prop) : AX → AS → Prop
  | .exit i, S => if i = id then Q .normal S else Q (.exit i) S
  | e, S => Q e S
section
variable {P : Program} {Q : AX → AS → Prop} {S : AS}
theorem AWp.mono {c : Code} {Q' : AX → AS → Prop} (h : AWp P c Q S) (hq : ∀ e S, Q e S → Q' e S) : AWp P c Q' S :=
  fun w0 a w val hR => wp_mono (h w0 a w val hR) fun e a' w' ⟨x, S', val', h1, h2, h3⟩ => ⟨x, S', val', h1, hq _ _ h2, h3⟩
theorem AWp.skip (h : Q .normal S) : AWp P .skip Q S := fun w0 a w val hR => wp_skip ⟨.normal, S, val, rfl, h, hR⟩
theorem AWp.exit {id : Nat} (h : Q (.exit id) S) : AWp P (.exit id) Q S := fun w0 a w val hR => wp_exit ⟨.exit id, S, val, rfl, h, hR⟩
theorem AWp.ret (h : Q .ret S) : AWp P .ret Q S := fun w0 a w val hR => wp_ret ⟨.ret, S, val, rfl, h, hR⟩
theorem AWp.label {l : Nat} (h : Q .normal S) : AWp P (.label l) Q S := fun w0 a w val hR => wp_label ⟨.normal, S, val, rfl, h, hR⟩
theorem AWp.seq {x y : Code} (h : ∀ K : AS → Prop, (∀ S', AWp P y Q S' → K S') → AWp P x (AX.seqd K Q) S) : AWp P (.seq x y) Q S :=
  fun w0 a w val hR => wp_seq (wp_mono (h (AWp P y Q) (fun _ h => h) w0 a w val hR) fun e a' w' ⟨x, S', val', h1, h2, h3⟩ => by
    subst h1
    cases x with
    | normal => exact h2 w0 a' w' val' h3
    | exit i => exact ⟨.exit i, S', val', rfl, h2, h3⟩
    | ret => exact ⟨.ret, S', val', rfl, h2, h3⟩
    | goto l => exact ⟨.goto l, S', val', rfl, h2, h3⟩)
theorem AWp.cond {c : Operand} {x y : Code} {t : Bool} (hc : S.ev c = .bool t) (h : AWp P (if t then x else y) Q S) : AWp P (.cond c x y) Q S :=
  fun w0 a w val hR => wp_cond (by have := hR.ev c; rw [hc] at this; exact this) (h w0 a w val hR)
theorem AWp.cond_t {c : Operand} {x y : Code} (hc : S.ev c = .bool true) (h : AWp P x Q S) : AWp P (.cond c x y) Q S := AWp.cond hc h
theorem AWp.cond_f {c : Operand} {x y : Code} (hc : S.ev c = .bool false) (h : AWp P y Q S) : AWp P (.cond c x y) Q S := AWp.cond hc h
theorem AWp.block {id : Nat} {c : Code} (h : AWp P c (AX.blk id Q) S) : AWp P (.block id c) Q S :=
  fun w0 a w val hR => wp_block (wp_mono (h w0 a w val hR) fun e a' w' ⟨x, S', val', h1, h2, h3⟩ => by
    subst h1
    cases x with
    | normal => exact ⟨.normal, S', val', rfl, h2, h3⟩
    | exit i =>
      show (if i = id then CQ w0 Q .normal a' w' else CQ w0 Q (.exit i) a' w')
      simp only [AX.blk] at h2
      by_cases hi : i = id
      · rw [if_pos hi] at h2 ⊢; exact ⟨.normal, S', val', rfl, h2, h3⟩
      · rw [if_neg hi] at h2 ⊢; exact ⟨.exit i, S', val', rfl, h2, h3⟩
    | ret => exact ⟨.ret, S', val', rfl, h2, h3⟩
    | goto l => exact ⟨.goto l, S', val', rfl, h2, h3⟩)
theorem AWp.region {id : Nat} {l : List Oper} (h : aseq P l (Q .normal) l S) : AWp P (.region id l.toArray false) Q S :=
  fun w0 a w val hR => region_seq (fun S' a' w' val' hK hR' => ⟨.normal, S', val', rfl, hK, hR'⟩) h hR
theorem lexB_go {ops : Array Oper} {n : Nat} {Lq : AS → Prop} {e : Array Bool → Bool} (Inv : Array Bool → Prop) (hset : ∀ listed j, Inv listed → j ∈ Region.ready .any ops listed → j < n → Inv (listed.setIfInBounds j true))
    (hhead : ∀ listed i, i < n → Inv listed → i ∈ Region.ready .any ops listed → ∀ j ∈ Region.ready .any ops listed, j < n) (hend : ∀ listed, e listed = true → ∀ j ∈ Region.ready .any ops listed, n ≤ j) :
    ∀ (l : List Oper) (k : Nat) (listed : Array Bool) (S : AS), (∀ j, j < l.length → l[j]? = ops[k + j]?) → k + l.length = n → Inv listed →
    lexG ops e l.length k listed = true → aqui P ops.toList Lq l S → wpAnyB P ops n (fun listed' S' => e listed' = true ∧ Lq S') l.length listed S
  | [], k, listed, S, _, _, _, hB, h => ⟨hB, h⟩
  | o :: l, k, listed, S, hl, hk, inv, hB, h => by
    have h0 : ops[k]? = some o := by simpa using (hl 0 (by simp)).symm
    simp only [List.length_cons, lexG, Bool.and_eq_true] at hB
    obtain ⟨⟨hr, hf⟩, hB'⟩ := hB
    have hkn : k < n := by simp only [List.length_cons] at hk; omega
    have hr' : k ∈ Region.ready .any ops listed := by simpa using hr
    have hst : qOpA P ops k (aqui P ops.toList Lq l) S := by unfold qOpA; rw [h0]; exact h
    obtain ⟨v, hy, hK⟩ := ya_of h0 hst
    exact wpAnyB_first Inv hset (fun listed inv hi => hhead listed k hkn inv hi) h0 (fun listed' S' hL => hend listed' hL.1) l.length listed S inv (Region.free_spec h0 hf) hr' hy
      (lexB_go Inv hset hhead hend l (k + 1) _ _ (fun j hj => by have := hl (j + 1) (by simp; omega); simpa [Nat.add_assoc, Nat.add_comm 1 j] using this) (by simp only [List.length_cons] at hk; omega) (hset _ _ inv hr' hkn) hB' hK)
theorem keep_draw {w0 w : World} {a : Act} {val : Nat → Value} (hR : Rl w0 S a w val) : Rl w0 S a { w with drawn := w.drawn + 1 } val := hR.grow ⟨rfl, rfl, rfl, Nat.le_refl _, fun _ _ => rfl⟩
/-- A region that draws its order, whose operations make no memory of the call's own and write none. -/
theorem AWp.any {id : Nat} {l : List Oper} (hm : P.follows .mixedOrders = true) (hB : anyB l.toArray = true) (h : aqui P l (Q .normal) l S) : AWp P (.region id l.toArray true) Q S := by
  intro w0 a w val hR
  refine wp_region_any hm ?_
  have hsz : l.toArray.size = l.length := rfl
  have H := lexB_go (P := P) (ops := l.toArray) (n := l.length) (Lq := Q .normal) (fun _ => True) (fun _ _ _ _ _ => trivial) (fun listed i _ _ _ j hj => by
      obtain ⟨_, oj, hoj, _⟩ := mem_ready.1 hj
      exact (Array.getElem?_eq_some_iff.1 hoj).1) (e := fun l' => (Region.ready .any l.toArray l').isEmpty) (fun listed he j hj => by
      have he' : Region.ready .any l.toArray listed = [] := by simpa using he
      rw [he'] at hj; cases hj) l 0 _ S (fun j _ => by simp) (by simp) trivial hB (by simpa using h)
  exact wpAny_of_B (g := 0) (Q := CQ w0 Q) (fun listed S' a' w' hL hR' => ⟨by simpa using hL.1, .normal, S', val, rfl, hL.2, hR'⟩) _ _ S a _ (keep_draw hR) H
/-- The same, with operations behind them that may do anything, one behind the other. -/
theorem AWp.tail {id : Nat} {l : List Oper} (n : Nat) (hm : P.follows .mixedOrders = true) (hB : tailB l.toArray n = true) (h : aqui P l (aseq P l (Q .normal) (l.drop n)) (l.take n) S) : AWp P (.region id l.toArray true) Q S := by
  intro w0 a w val hR
  simp only [tailB, Bool.and_eq_true, decide_eq_true_eq] at hB
  obtain ⟨⟨⟨hn, hs⟩, hc⟩, hlex⟩ := hB
  have hn' : n < l.length := by simpa using hn
  have htl : (l.take n).length = n := by simp; omega
  have hdl : (l.drop n).length = l.toArray.size - n := by simp
  have inv0 : HeadInv .any l.toArray n (Array.replicate l.toArray.size false) :=
    ⟨by simp, fun j oj _ hl => (by rw [getD_replicate_false] at hl; cases hl), fun t _ ht => getD_in (by simpa using ht) (getD_replicate_false _ _)⟩
  have H := lexB_go (P := P) (ops := l.toArray) (n := n) (Lq := aseq P l (Q .normal) (l.drop n)) (HeadInv .any l.toArray n) (fun listed j inv hj hjn => inv.set hj hjn) (fun listed i hin inv hi j hj => by
      rcases Nat.lt_or_ge j n with h | h
      · exact h
      · exact absurd hj (tail_waits hs hc hn inv _ i rfl hin (mem_ready.1 hi).1 j h)) (e := fun l' => Region.seqB .any l.toArray (l.toArray.size - n) n l') (fun listed he => seqB_ready he) (l.take n) 0 _ S (fun j hj => by
    have hj' : j < n := by rw [htl] at hj; exact hj
    simp [hj']) (by simpa using htl) inv0 (by rw [htl]; exact hlex) (by simpa using h)
  refine wp_region_any hm ?_
  have := wpAny_of_B (Q := CQ w0 Q) (g := l.toArray.size - n) (fun listed S' a' w' hL hR' => by
    have hseq := aseq_sound (P := P) (w0 := w0) (ops := l.toArray) (K := Q .normal) (Q := CQ w0 Q) (fun S2 a2 w2 val2 hK h2 => ⟨.normal, S2, val2, rfl, hK, h2⟩) (l.drop n) n S' a' w' val (fun j => by simp [List.getElem?_drop]) (by simpa using hL.2) hR'
    have := wpAny_of_seq (md := .any) (Q' := CQ w0 Q) (l.drop n) n listed a' w' (fun j => by simp [List.getElem?_drop]) (by rw [hdl]; exact hL.1) hseq
    rwa [hdl] at this) _ _ S a _ (keep_draw hR) H
  rw [htl, show n + (l.toArray.size - n) = l.toArray.size by omega] at this
  exact this
end
end Go.Proofs.Ytbkdmnohpjihgaa.Abs
