/- What an operation that makes no memory yields: the rules, and that they hold. -/
import Derived.Test.YtbkdmnohpjihgaaAbs5
namespace Go.Proofs.Ytbkdmnohpjihgaa.Abs
open Go.RowKit
set_option linter.unusedVariables false

def tyOf (P : Program) : Nat → TypeId → Option Ty
  | 0, _ => none
  | d + 1, t => match P.underlying t with
    | some (.int .i64) => some .int
    | some .bool => some .bool
    | some .string => some .str
    | some (.slice e) => (tyOf P d e).map .sl
    | some (.array 2 e) => (tyOf P d e).map fun t => .pr t t
    | some (.array 3 e) => (tyOf P d e).map fun t => .pr t (.pr t t)
    | some (.struct fs) => (fs.toList.mapM fun f => tyOf P d f.type).bind fun ts =>
      match ts.reverse with
      | [] => none
      | t :: r => some (r.foldl (fun acc t => .pr t acc) t)
    | _ => none
def lenAV (P : Program) (S : AS) (t : TypeId) (x : AV) (v : AV) : Prop :=
  match x with
  | .sl _ l => (∃ e, slElem P t = some e) ∧ v = .int l.length
  | .nilsl => (∃ e, slElem P t = some e) ∧ v = .int 0
  | .str s => P.underlying t = some .string ∧ v = .int s.size
  | .ref n => (∃ e, slElem P t = some e) ∧ (match S.H[n]? with | some (some (.row _ _ l)) => v = .int l.length | _ => False)
  | _ => False
def optI (S : AS) : Option Operand → Option (Option Int)
  | none => some none
  | some x => match S.ev x with
    | .int k => some (some k)
    | _ => none
/-- The elements of an array, from its first on. -/
def arrL (tt : Ty) (d : tt.den) (len sz : Nat) (t : Ty) : Option (List t.den) :=
  (List.range len).mapM fun i => (comp tt d (i * sz) sz).bind fun c => if h : c.1 = t then some (h ▸ c.2) else none
def capAV : List AV → Option (List TV)
  | [] => some []
  | .iptr t x :: r => (capAV r).map (⟨t, x⟩ :: ·)
  | _ => none
def qbuiltin (P : Program) (S : AS) (b : Builtin) (ts : Array TypeId) (xs : List Operand) (v : AV) : Prop :=
  match b with
  | .len => (match xs with
    | [x] => (match ts.toList with | t :: _ => lenAV P S t (S.ev x) v | _ => False)
    | _ => False)
  | .min => (match xs with
    | [x, y] => (match S.ev x, S.ev y with | .int a, .int b => v = .int (if b < a then b else a) | _, _ => False)
    | _ => False)
  | .max => (match xs with
    | [x, y] => (match S.ev x, S.ev y with | .int a, .int b => v = .int (if a < b then b else a) | _, _ => False)
    | _ => False)
  | _ => False
def qval (P : Program) (S : AS) (o : Oper) (v : AV) : Prop :=
  match o.op with
  | .move x => v = S.ev x
  | .assign x => v = S.ev x
  | .pick c a b => (match S.ev c with | .bool t => v = (if t then S.ev a else S.ev b) | _ => False)
  | .nilCheck x => (match S.ev x with | .ptr n i => v = .ptr n i | .iptr t d => v = .iptr t d | .eptr n i k => v = .eptr n i k | _ => False)
  | .binOp op xt x y _ => binV P op xt (S.ev x) (S.ev y) v
  | .unOp op _ x => (match op, S.ev x with | .not, .bool b => v = .bool (!b) | .neg, .int k => v = .int (IntKind.i64.wrap (0 - k)) | _, _ => False)
  | .load t a => (match S.ev a with
    | .iptr tt x => fits P t tt = true ∧ v = inj tt x
    | .ptr n i => (match S.H[n]? with
      | some (some (.box _ cs)) => (match isAggB P t with
        | some false => cs[i]? = some v
        | _ => ∃ tt, tyOf P 8 t = some tt ∧ fits P t tt = true ∧ i + tt.n ≤ cs.length ∧ ∃ x, pack tt ((cs.drop i).take tt.n) = some (x, []) ∧ v = inj tt x)
      | _ => False)
    | .eptr n i k => (match S.H[n]? with
      | some (some (.row _ tt l)) => k = tt.n ∧ fits P t tt = true ∧ ∃ y, l[i]? = some y ∧ v = inj tt y
      | _ => False)
    | .ifn f cap => isAggB P t = some false ∧ v = .fn f cap
    | _ => False)
  | .indexAddr t x i => (match S.ev i with
    | .int k => 0 ≤ k ∧ (match S.ev x with
      | .sl tt l => (∃ e, slElem P t = some e ∧ szOf P e = some tt.n) ∧ ∃ y, l[k.toNat]? = some y ∧ v = .iptr tt y
      | .ref n => (match S.H[n]? with
        | some (some (.row _ tt l)) => (∃ e, slElem P t = some e ∧ szOf P e = some tt.n) ∧ k < l.length ∧ v = .eptr n k.toNat tt.n
        | _ => False)
      | .ptr n j => ∃ len e sz, arElem P t = some (len, e) ∧ k < (len : Nat) ∧ szOf P e = some sz ∧ v = .ptr n (j + k.toNat * sz)
      | .iptr tt d => ∃ len e sz, arElem P t = some (len, e) ∧ k < (len : Nat) ∧ szOf P e = some sz ∧ ∃ c : TV, comp tt d (k.toNat * sz) sz = some c ∧ v = .iptr c.1 c.2
      | _ => False)
    | _ => False)
  | .fieldAddr s x f => (match S.ev x with
    | .ptr n j => ∃ off ft sz, fieldOf P s f = some (off, ft) ∧ szOf P ft = some sz ∧ sz ≠ 0 ∧ v = .ptr n (j + off)
    | .iptr tt d => ∃ off ft sz, fieldOf P s f = some (off, ft) ∧ szOf P ft = some sz ∧ sz ≠ 0 ∧ ∃ c : TV, comp tt d off sz = some c ∧ v = .iptr c.1 c.2
    | _ => False)
  | .field xt x f => (match S.ev x with
    | .agg tt d => ∃ off ft sz, fieldOf P xt f = some (off, ft) ∧ szOf P ft = some sz ∧ ∃ c : TV, comp tt d off sz = some c ∧ fits P ft c.1 = true ∧ v = inj c.1 c.2
    | _ => False)
  | .index xt x i => (match S.ev x, S.ev i with
    | .agg tt d, .int k => 0 ≤ k ∧ ∃ len e sz, arElem P xt = some (len, e) ∧ k < (len : Nat) ∧ szOf P e = some sz ∧ ∃ c : TV, comp tt d (k.toNat * sz) sz = some c ∧ fits P e c.1 = true ∧ v = inj c.1 c.2
    | .str s, .int k => P.underlying xt = some .string ∧ 0 ≤ k ∧ ∃ c, s[k.toNat]? = some c ∧ v = .u8 c.toNat
    | _, _ => False)
  | .extract t i => (match S.ev t with | .tup l => ∃ r, l[i]? = some r ∧ v = r.av | _ => False)
  | .slice xt x lo hi none => (match S.ev x with
    | .sl tt l => (∃ e, slElem P xt = some e ∧ szOf P e = some tt.n) ∧ ∃ lo' hi', optI S lo = some lo' ∧ optI S hi = some hi' ∧ 0 ≤ lo'.getD 0 ∧ lo'.getD 0 ≤ hi'.getD l.length ∧ hi'.getD l.length ≤ l.length ∧
      v = .sl tt ((l.take (hi'.getD l.length).toNat).drop (lo'.getD 0).toNat)
    | .iptr tt d => lo = none ∧ hi = none ∧ ∃ len e sz, arElem P xt = some (len, e) ∧ szOf P e = some sz ∧ ∃ t l, arrL tt d len sz t = some l ∧ t.n = sz ∧ l.length = len ∧ len ≤ 16777216 ∧ v = .sl t l
    | .str s => P.underlying xt = some .string ∧ ∃ lo' hi', optI S lo = some lo' ∧ optI S hi = some hi' ∧ 0 ≤ lo'.getD 0 ∧ lo'.getD 0 ≤ hi'.getD s.size ∧ hi'.getD s.size ≤ s.size ∧ v = .str (s.extract (lo'.getD 0).toNat (hi'.getD s.size).toNat)
    | _ => False)
  | .makeFunc (.func f) first caps => first.size = 0 ∧ (match capAV (caps.toList.map S.ev) with
    | some c => v = .fn f c
    | none => (match caps.toList.map S.ev with
      | [.ifn f' cap] => v = .fn2 f f' cap
      | _ => False))
  | .convert src dst x => (∃ d, P.underlying src = some d) ∧ (match S.ev x with
    | .int k => (P.underlying dst = some (.int .i64) ∧ v = .int (IntKind.i64.wrap k)) ∨ (P.underlying dst = some (.int .u64) ∧ v = .u64 (IntKind.u64.wrap k))
    | .u8 k => P.underlying dst = some (.int .i64) ∧ v = .int (IntKind.i64.wrap k)
    | .u64 k => P.underlying dst = some (.int .i64) ∧ v = .int (IntKind.i64.wrap k)
    | _ => False)
  | .call c => (match c.callee with
    | .builtin b => qbuiltin P S b c.argTypes c.args.toList v
    | _ => False)
  | _ => False

section
variable {P : Program} {w0 w : World} {S : AS} {a : Act} {val : Nat → Value}
theorem cap_rel {ok : Nat → Prop} {N : Nat} : ∀ {avs : List AV} {vs : List Value} {c : List TV}, capAV avs = some c → avs.length = vs.length → (∀ (i : Nat) (x : AV), avs[i]? = some x → ∃ u, vs[i]? = some u ∧ VRel ok w N val x u) →
    vs.length = c.length ∧ ∀ (i : Nat) (d : TV), c[i]? = some d → ∃ u, vs[i]? = some u ∧ PRel ok w d.1 d.2 u
  | [], vs, c, h, hl, _ => by cases h; exact ⟨hl.symm, fun i d hd => by simp at hd⟩
  | x :: r, [], c, h, hl, _ => by simp at hl
  | x :: r, v :: vs, c, h, hl, hr => by
    unfold capAV at h
    split at h
    · rename_i heq; cases heq
    · rename_i t y r' heq
      cases heq
      cases hc : capAV r with
      | none => rw [hc] at h; cases h
      | some c' =>
        rw [hc] at h
        cases h
        obtain ⟨h1, h2⟩ := cap_rel hc (by simpa using hl) (fun i x hx => by simpa using hr (i + 1) x (by simpa using hx))
        refine ⟨by simp [h1], fun i d hd => ?_⟩
        cases i with
        | zero =>
          obtain ⟨u, hu, hv⟩ := hr 0 _ rfl
          simp at hd hu
          subst hd
          subst hu
          exact ⟨_, rfl, hv⟩
        | succ i => simpa using h2 i d (by simpa using hd)
    · cases h
theorem mapM_get {α β : Type} {f : α → Option β} : ∀ {xs : List α} {ys : List β}, xs.mapM f = some ys → ys.length = xs.length ∧ ∀ (i : Nat) (y : β), ys[i]? = some y → ∃ x, xs[i]? = some x ∧ f x = some y
  | [], ys, h => by simp at h; subst h; exact ⟨rfl, fun i y hy => by simp at hy⟩
  | x :: xs, ys, h => by
    simp only [List.mapM_cons, Option.bind_eq_bind, Option.bind_eq_some_iff] at h
    obtain ⟨y, hy, ys', hys, h⟩ := h
    cases h
    obtain ⟨h1, h2⟩ := mapM_get hys
    refine ⟨by simp [h1], fun i z hz => ?_⟩
    cases i with
    | zero => simp at hz; subst hz; exact ⟨x, rfl, hy⟩
    | succ i => simpa using h2 i z (by simpa using hz)
theorem arrL_get {tt : Ty} {d : tt.den} {len sz : Nat} {t : Ty} {l : List t.den} (h : arrL tt d len sz t = some l) {i : Nat} {y : t.den} (hy : l[i]? = some y) : comp tt d (i * sz) sz = some ⟨t, y⟩ := by
  obtain ⟨_, h2⟩ := mapM_get h
  obtain ⟨x, hx, hf⟩ := h2 i y hy
  have hxi : x = i := by
    rw [List.getElem?_eq_some_iff] at hx
    obtain ⟨hlt, hx⟩ := hx
    rw [← hx]; simp
  subst hxi
  simp only [Option.bind_eq_some_iff] at hf
  obtain ⟨c, hc, hf⟩ := hf
  split at hf
  · rename_i ht
    subst ht
    cases hf
    exact hc
  · cases hf
theorem len_ok (hR : Rl w0 S a w val) {t : TypeId} {ts : List TypeId} {x : Operand} {v : AV} {ty : TypeId} (h : lenAV P S t (S.ev x) v) :
    ∃ u, (Builtin.len_ (t :: ts).toArray ty #[a.eval x]).run P w = .ok u w ∧ VRel (okB S.H val) w S.H.length val v u := by
  have hx := hR.ev x
  unfold lenAV at h
  split at h
  · rename_i e
    obtain ⟨⟨e', he⟩, rfl⟩ := h
    rw [e] at hx
    have hx' : Rep _ w _ _ [a.eval x] := hx
    unfold Rep at hx'
    obtain ⟨ad, cap, h1, _⟩ := hx'
    simp at h1
    exact ⟨_, by simp [Builtin.len_, run_underlying (slElem_und he) w, h1]; rfl, rfl⟩
  · rename_i e
    obtain ⟨⟨e', he⟩, rfl⟩ := h
    rw [e] at hx
    have h1 : a.eval x = .slice none 0 0 := hx
    exact ⟨_, by simp [Builtin.len_, run_underlying (slElem_und he) w, h1]; rfl, rfl⟩
  · rename_i s e
    obtain ⟨hu, rfl⟩ := h
    rw [e] at hx
    have h1 : a.eval x = .string s := hx
    exact ⟨_, by simp [Builtin.len_, run_underlying hu w, h1]; rfl, rfl⟩
  · rename_i n e
    obtain ⟨⟨e', he⟩, h⟩ := h
    split at h
    · rename_i e2 t2 l2 hH
      subst h
      rw [e] at hx
      obtain ⟨xs, h1, h2⟩ := hR.heap n _ hH
      have h3 : ∃ ad cap, a.eval x = .slice ad l2.length cap := by
        rw [hx.2]
        rcases h1.2 with ⟨h4, h5⟩ | ⟨g, cap, cur, h4, _⟩
        · rw [h4, h5]; exact ⟨_, _, rfl⟩
        · rw [h4]; exact ⟨_, _, rfl⟩
      obtain ⟨ad, cap, h3⟩ := h3
      exact ⟨_, by simp [Builtin.len_, run_underlying (slElem_und he) w, h3]; rfl, rfl⟩
    · exact h.elim
  · exact h.elim
def Yl (P : Program) (w : World) (a : Act) (o : Oper) (R : Value → Prop) : Prop := ∃ u, (execOp a.eval o).run P w = .ok (.value u) w ∧ R u
theorem yl_of {s : Sem Value} {o : Oper} {R : Value → Prop} (he : execOp a.eval o = (do pure (.value (← s)))) (h : ∃ u, s.run P w = .ok u w ∧ R u) : Yl P w a o R := by
  obtain ⟨u, h1, h2⟩ := h
  exact ⟨u, by rw [he]; simp [h1], h2⟩

/-- **An operation that makes no memory yields what the rule says.** -/
theorem q_sound (hR : Rl w0 S a w val) {o : Oper} {v : AV} (h : qval P S o v) : Yl P w a o (VRel (okB S.H val) w S.H.length val v) := by
  obtain ⟨dst, op, type, pos, after, guard⟩ := o
  unfold qval at h
  simp only at h
  split at h
  case h_1 x => subst h; exact ⟨_, rfl, hR.ev x⟩
  case h_2 x => subst h; exact ⟨_, rfl, hR.ev x⟩
  case h_3 c x y =>
    have hc := hR.ev c
    split at h
    · rename_i t e
      rw [e] at hc
      have h1 : a.eval c = .bool t := hc
      subst h
      refine ⟨_, by simp [execOp, h1, asBool]; rfl, ?_⟩
      cases t
      · exact hR.ev y
      · exact hR.ev x
    · exact h.elim
  case h_4 x =>
    have hx := hR.ev x
    split at h
    · rename_i n i e
      rw [e] at hx
      obtain ⟨k0, g, h1, h2⟩ := hx
      subst h
      exact ⟨_, by simp [execOp, h2], k0, g, h1, rfl⟩
    · rename_i t d e
      rw [e] at hx
      obtain ⟨b, o, cs, h2, h3⟩ := hx
      subst h
      exact ⟨_, by simp [execOp, h2], b, o, cs, rfl, h3⟩
    · rename_i n i k e
      rw [e] at hx
      obtain ⟨k0, g, l, c, h1, h2⟩ := hx
      subst h
      exact ⟨_, by simp [execOp, h2], k0, g, l, c, h1, rfl⟩
    · exact h.elim
  case h_5 op xt x y yt =>
    obtain ⟨u, h1, h2⟩ := bin_ok (P := P) (w := w) op xt x y (hR.ev x) (hR.ev y) h
    exact yl_of rfl ⟨u, h1, h2⟩
  case h_6 op xt x =>
    have hx := hR.ev x
    split at h
    · rename_i b e
      rw [e] at hx
      have h1 : a.eval x = .bool b := hx
      subst h
      exact ⟨_, by simp [execOp, h1, Op.unary], rfl⟩
    · rename_i k e
      rw [e] at hx
      have h1 : a.eval x = .int .i64 k := hx
      subst h
      exact ⟨_, by simp [execOp, h1, Op.unary, Op.intArith], rfl⟩
    · exact h.elim
  case h_7 t x =>
    have hx := hR.ev x
    refine yl_of rfl ?_
    split at h
    · rename_i tt d e
      rw [e] at hx
      obtain ⟨hf, rfl⟩ := h
      obtain ⟨b, o, cs, h1, h2, h3, h4, h5⟩ := hx
      obtain ⟨u, h6, h7⟩ := load_ok hf h4 h5
      exact ⟨u, by rw [h1]; exact h6, inj_rel h7⟩
    · rename_i n i e
      rw [e] at hx
      obtain ⟨k0, g, h1, h2⟩ := hx
      split at h
      · rename_i e' cs hH
        obtain ⟨g', cur, h3, h4, h5, h6, h7⟩ := hR.heap n _ hH
        rw [h1] at h3
        cases h3
        split at h
        · rename_i hagg
          obtain ⟨u, hu, _, hv⟩ := h7 i v h
          refine ⟨u, ?_, hv⟩
          rw [h2]
          have hc : w.cell? ⟨g, i, none⟩ = some u := by simp [World.cell?, h5, hu]
          simp [Instr.loadAt, Instr.sureAddr, loadVar, run_agg hagg, hc]
        · obtain ⟨tt, _, hf, hle, x', hp, rfl⟩ := h
          have hR' : Rep (okB S.H val) w tt x' ((cur.toList.drop i).take tt.n) := by
            refine pack_all (N := S.H.length) (val := val) hp (by simp; omega) fun j c hc => ?_
            rw [List.getElem?_take] at hc ⊢
            split at hc
            · rename_i hj
              rw [List.getElem?_drop] at hc ⊢
              obtain ⟨u, hu, _, hv⟩ := h7 _ c hc
              exact ⟨u, by simpa [hj] using hu, hv⟩
            · cases hc
          obtain ⟨u, k6, k7⟩ := load_ok (b := g) (o := i) hf hR' (fun j u hu => by
            rw [List.getElem?_take] at hu
            split at hu
            · rw [List.getElem?_drop] at hu
              simp [World.cell?, h5]
              simpa using hu
            · cases hu)
          exact ⟨u, by rw [h2]; exact k6, inj_rel k7⟩
      · exact h.elim
    · rename_i n i k e
      rw [e] at hx
      obtain ⟨k0, g, len, cap, h1, h2⟩ := hx
      split at h
      · rename_i e' tt l hH
        obtain ⟨rfl, hf, y, hy, rfl⟩ := h
        obtain ⟨xs, h3, h4, h5⟩ := hR.heap n _ hH
        obtain ⟨u, k6, k7⟩ := load_ok (b := g) (o := i * tt.n) hf (h5 i y hy) (fun j u hu => by
          rw [List.getElem?_take] at hu
          split at hu
          · rw [List.getElem?_drop] at hu
            have := h3.cells (g := g) (by rw [h1]; rfl) _ u hu
            rw [Addr.add_lit] at this
            simpa using this
          · cases hu)
        exact ⟨u, by rw [h2]; exact k6, inj_rel k7⟩
      · exact h.elim
    · rename_i f cap e
      rw [e] at hx
      obtain ⟨hagg, rfl⟩ := h
      obtain ⟨b, u, h1, h2, h3, h4, h5⟩ := hx
      refine ⟨u, ?_, h5⟩
      rw [h1]
      simp [Instr.loadAt, Instr.sureAddr, loadVar, run_agg hagg, h4]
    · exact h.elim
  case h_8 t x i =>
    have hx := hR.ev x
    have hi := hR.ev i
    refine yl_of rfl ?_
    split at h
    · rename_i k ei
      rw [ei] at hi
      have hi' : a.eval i = .int .i64 k := hi
      rw [hi']
      obtain ⟨h0, h⟩ := h
      split at h
      · rename_i tt l e
        rw [e] at hx
        obtain ⟨⟨e', h1, h2⟩, y, hy, rfl⟩ := h
        exact indexAddr_sl h1 h2 hx h0 hy
      · rename_i n e
        rw [e] at hx
        split at h
        · rename_i e' tt l hH
          obtain ⟨⟨e', h1, h2⟩, hk, rfl⟩ := h
          obtain ⟨xs, h3, h4, h5⟩ := hR.heap n _ hH
          rcases h3.2 with ⟨h6, h7⟩ | ⟨g, cap, cur, h6, _⟩
          · have : k < 0 := by rw [h7] at hk; simpa using hk
            omega
          · refine ⟨_, ?_, hx.1, g, _, _, h6, rfl⟩
            rw [hx.2, h6]
            simp [Instr.indexAt, asIntOf, run_underlying (slElem_und h1) w, h0, hk, run_sz h2, Addr.add_lit]
        · exact h.elim
      · rename_i n j e
        rw [e] at hx
        obtain ⟨k0, g, h1, h2⟩ := hx
        obtain ⟨len, e', sz, h3, h4, h5, rfl⟩ := h
        refine ⟨_, ?_, k0, g, h1, rfl⟩
        rw [h2]
        simp [Instr.indexAt, asIntOf, run_underlying (arElem_und h3) w, Instr.sureAddr, h0, h4, run_sz h5, Addr.add_lit]
      · rename_i tt d e
        rw [e] at hx
        obtain ⟨b, o, cs, h2, h3, h4, h5, h6⟩ := hx
        obtain ⟨len, e', sz, k1, k2, k3, c, k4, rfl⟩ := h
        refine ⟨_, ?_, comp_prel k4 h3 h4 h5 h6⟩
        rw [h2]
        simp [Instr.indexAt, asIntOf, run_underlying (arElem_und k1) w, Instr.sureAddr, h0, k2, run_sz k3, Addr.add_lit]
      · exact h.elim
    · exact h.elim
  case h_9 s x f =>
    have hx := hR.ev x
    refine yl_of rfl ?_
    split at h
    · rename_i n j e
      rw [e] at hx
      obtain ⟨k0, g, h1, h2⟩ := hx
      obtain ⟨off, ft, sz, h3, h4, h5, rfl⟩ := h
      exact ⟨_, by rw [h2]; exact fieldAddr_ok h3 h4 h5, k0, g, h1, rfl⟩
    · rename_i tt d e
      rw [e] at hx
      obtain ⟨b, o, cs, h2, h3, h4, h5, h6⟩ := hx
      obtain ⟨off, ft, sz, k1, k2, k3, c, k4, rfl⟩ := h
      exact ⟨_, by rw [h2]; exact fieldAddr_ok k1 k2 k3, comp_prel k4 h3 h4 h5 h6⟩
    · exact h.elim
  case h_10 xt x f =>
    have hx := hR.ev x
    refine yl_of rfl ?_
    split at h
    · rename_i tt d e
      rw [e] at hx
      obtain ⟨cs, h1, h2⟩ := hx
      obtain ⟨off, ft, sz, k1, k2, c, k3, k4, rfl⟩ := h
      have hn : c.1.n = sz := (comp_rep k3 h2).2
      obtain ⟨u, h3, h4⟩ := field_ok (c := c) k1 (by rw [hn]; exact k3) k4 h2
      exact ⟨u, by rw [h1]; exact h3, inj_rel h4⟩
    · exact h.elim
  case h_11 xt x i =>
    have hx := hR.ev x
    have hi := hR.ev i
    refine yl_of rfl ?_
    split at h
    · rename_i tt d k e ei
      rw [e] at hx
      rw [ei] at hi
      have hi' : a.eval i = .int .i64 k := hi
      obtain ⟨cs, h1, h2⟩ := hx
      obtain ⟨h0, len, e', sz, k1, k2, k3, c, k4, k5, rfl⟩ := h
      have hn : c.1.n = sz := (comp_rep k4 h2).2
      obtain ⟨u, h3, h4⟩ := index_ok (c := c) k1 h0 k2 (by rw [hn]; exact k4) k5 h2
      exact ⟨u, by rw [h1, hi']; exact h3, inj_rel h4⟩
    · rename_i s k e ei
      rw [e] at hx
      rw [ei] at hi
      have hi' : a.eval i = .int .i64 k := hi
      have hx' : a.eval x = .string s := hx
      obtain ⟨hu, h0, c, hc, rfl⟩ := h
      exact ⟨_, by rw [hx', hi']; exact indexStr_ok hu h0 hc, rfl⟩
    · exact h.elim
  case h_12 t i =>
    have hx := hR.ev t
    refine yl_of rfl ?_
    split at h
    · rename_i l e
      rw [e] at hx
      obtain ⟨vs, h1, h2, h3⟩ := hx
      obtain ⟨r, hr, rfl⟩ := h
      obtain ⟨u, hu, hv⟩ := h3 i r hr
      refine ⟨u, by simp [Instr.extract, h1, hu], ?_⟩
      cases r with
      | v t x => exact inj_rel hv
      | r n => exact hv
    · exact h.elim
  case h_13 xt x lo hi =>
    have hx := hR.ev x
    refine yl_of rfl ?_
    have hopt : ∀ {y : Option Operand} {k : Option Int}, optI S y = some k → y.map a.eval = k.map (.int .i64) := by
      intro y k hy
      cases y with
      | none => simp [optI] at hy; subst hy; rfl
      | some z =>
        unfold optI at hy
        simp only at hy
        have hz := hR.ev z
        split at hy
        · rename_i q e
          cases hy
          rw [e] at hz
          exact congrArg some hz
        · cases hy
    split at h
    · rename_i tt l e
      rw [e] at hx
      obtain ⟨⟨e', h1, h2⟩, lo', hi', h3, h4, h5, h6, h7, rfl⟩ := h
      obtain ⟨u, k1, k2⟩ := slice_ok (lo := lo') (hi := hi') h1 h2 hx h5 h6 h7
      exact ⟨u, by rw [hopt h3, hopt h4]; exact k1, k2⟩
    · rename_i tt d e
      rw [e] at hx
      obtain ⟨b, o, cs, h1, h2, h3, h4, h5⟩ := hx
      obtain ⟨rfl, rfl, len, e', sz, k1, k2, t, l, k3, k4, k5, k6, rfl⟩ := h
      have ht := t.n_pos
      refine ⟨.slice (some ⟨b, o, none⟩) len len, ?_, ?_⟩
      · rw [h1]
        simp [Instr.sliceAt, run_underlying (arElem_und k1) w, Instr.sureAddr, Instr.sliceBounds, run_sz k2, Addr.add_lit]
      · show Rep _ w (.sl t) l _
        unfold Rep
        refine ⟨some ⟨b, o, none⟩, len, by rw [k5], by omega, by unfold maxLen; omega, ?_⟩
        by_cases hl : l = []
        · exact .inl hl
        · refine .inr ⟨b, o, cs.take (len * sz), rfl, h2, h3, ?_, fun j u hu => ?_, fun i y hy => ?_⟩
          · have hlast : ∃ y, l[len - 1]? = some y := by
              have : 0 < l.length := List.length_pos_iff.2 hl
              exact ⟨l[len - 1]'(by omega), List.getElem?_eq_getElem (by omega)⟩
            obtain ⟨y, hy⟩ := hlast
            have hr := (comp_rep (arrL_get k3 hy) h4).1.length
            rw [List.length_take, List.length_drop] at hr
            simp only [k4] at hr
            have hpos : 0 < l.length := List.length_pos_iff.2 hl
            have : (len - 1) * sz + sz = len * sz := by
              rw [← Nat.succ_mul]; congr 1; omega
            rw [List.length_take, k5, k4]
            omega
          · rw [List.getElem?_take] at hu
            split at hu
            · exact h5 j u hu
            · cases hu
          · have hlt : i < l.length := (List.getElem?_eq_some_iff.1 hy).1
            have hin : (i + 1) * sz ≤ len * sz := Nat.mul_le_mul_right _ (by omega)
            rw [Nat.add_mul] at hin
            have := (comp_rep (arrL_get k3 hy) h4).1
            rw [k4, List.drop_take, List.take_take, Nat.min_eq_left (by omega)]
            exact this
    · rename_i s e
      rw [e] at hx
      have hx' : a.eval x = .string s := hx
      obtain ⟨hu, lo', hi', h3, h4, h5, h6, h7, rfl⟩ := h
      obtain ⟨h, hh, hhe⟩ : ∃ h : Nat, hi'.getD s.size = h ∧ h ≤ s.size := ⟨(hi'.getD s.size).toNat, by omega, by omega⟩
      obtain ⟨g, hg, hgh⟩ : ∃ g : Nat, lo'.getD 0 = g ∧ g ≤ h := ⟨(lo'.getD 0).toNat, by omega, by omega⟩
      rw [hh, hg]
      simp only [Int.toNat_natCast]
      refine ⟨.string (s.extract g h), ?_, rfl⟩
      have hb : (Instr.sliceBounds false s.size s.size (lo'.map (.int .i64)) (hi'.map (.int .i64)) none).run P w = .ok (g, h, s.size) w := by
        unfold Instr.sliceBounds Instr.sliceBound
        cases lo' <;> cases hi' <;> simp only [Option.getD_none, Option.getD_some, Option.map_none, Option.map_some] at hh hg ⊢
        · obtain rfl : s.size = h := by omega
          obtain rfl : g = 0 := by omega
          simp
        · subst hh
          obtain rfl : g = 0 := by omega
          simp [asIntOf, hhe]
        · subst hg
          obtain rfl : s.size = h := by omega
          simp [asIntOf, hgh]
        · subst hh; subst hg; simp [asIntOf, hhe, hgh]
      rw [hx', hopt h3, hopt h4]
      simp [Instr.sliceAt, run_underlying hu w, Instr.slice, hb]
    · exact h.elim
  case h_14 f first caps =>
    obtain ⟨h1, h⟩ := h
    have h1' : first = #[] := Array.eq_empty_of_size_eq_zero h1
    subst h1'
    have hc : Array.map a.eval caps = (List.map a.eval caps.toList).toArray := by apply Array.ext'; simp
    have hrel : ∀ (i : Nat) (x : AV), (caps.toList.map S.ev)[i]? = some x → ∃ u, (caps.toList.map a.eval)[i]? = some u ∧ VRel (okB S.H val) w S.H.length val x u := fun i x hx => by
      rw [List.getElem?_map] at hx ⊢
      cases hc : caps.toList[i]? with
      | none => rw [hc] at hx; cases hx
      | some z => rw [hc] at hx; cases hx; exact ⟨_, rfl, hR.ev z⟩
    split at h
    · rename_i c h2
      subst h
      obtain ⟨k1, k2⟩ := cap_rel (ok := okB S.H val) (w := w) (N := S.H.length) (val := val) (vs := caps.toList.map a.eval) h2 (by simp) hrel
      exact yl_of rfl ⟨_, rfl, caps.toList.map a.eval, by rw [hc]; simp, k1, k2⟩
    · split at h
      · rename_i f' cap e2
        subst h
        obtain ⟨u, hu, hv⟩ := hrel 0 (.ifn f' cap) (by rw [e2]; rfl)
        have hl : (caps.toList.map a.eval).length = 1 := by have := congrArg List.length e2; simpa using this
        obtain ⟨u', hu'⟩ := List.length_eq_one_iff.1 hl
        have e3 : u' = u := by rw [hu'] at hu; simpa using hu
        subst e3
        refine yl_of rfl ⟨_, rfl, u', ?_, hv⟩
        rw [hc, hu']
        simp
      · exact h.elim
  case h_15 src dst x =>
    have hx := hR.ev x
    obtain ⟨⟨d, hd⟩, h⟩ := h
    refine yl_of rfl ?_
    split at h
    · rename_i k e
      rw [e] at hx
      have h1 : a.eval x = .int .i64 k := hx
      rcases h with ⟨hu, rfl⟩ | ⟨hu, rfl⟩
      · exact ⟨_, by rw [h1]; simp [convert, run_underlying hd w, run_underlying hu w, Conv.intToInt], rfl⟩
      · exact ⟨_, by rw [h1]; simp [convert, run_underlying hd w, run_underlying hu w, Conv.intToInt], rfl⟩
    · rename_i k e
      rw [e] at hx
      have h1 : a.eval x = .int .u8 k := hx
      obtain ⟨hu, rfl⟩ := h
      exact ⟨_, by rw [h1]; simp [convert, run_underlying hd w, run_underlying hu w, Conv.intToInt], rfl⟩
    · rename_i k e
      rw [e] at hx
      have h1 : a.eval x = .int .u64 k := hx
      obtain ⟨hu, rfl⟩ := h
      exact ⟨_, by rw [h1]; simp [convert, run_underlying hd w, run_underlying hu w, Conv.intToInt], rfl⟩
    · exact h.elim
  case h_16 c =>
    obtain ⟨callee, args, ts⟩ := c
    simp only at h
    split at h
    · rename_i b
      have hargs : ∀ xs : List Operand, args.toList = xs → args.map a.eval = (xs.map a.eval).toArray := fun xs hx => by
        apply Array.ext'
        simp [← hx]
      unfold qbuiltin at h
      split at h
      · split at h
        · rename_i x hxs
          split at h
          · rename_i t r ht
            obtain ⟨u, h1, h2⟩ := len_ok hR (ty := type) (ts := r) h
            refine ⟨u, ?_, h2⟩
            have e1 : ts = (t :: r).toArray := by apply Array.ext'; simpa using ht
            simp [execOp, resolve, invoke, builtin, hargs _ hxs, e1] at h1 ⊢
            simp [h1]
          · exact h.elim
        · exact h.elim
      · split at h
        · rename_i x y hxs
          split at h
          · rename_i p q ex ey
            have hx := hR.ev x
            have hy := hR.ev y
            rw [ex] at hx
            rw [ey] at hy
            have hx' : a.eval x = .int .i64 p := hx
            have hy' : a.eval y = .int .i64 q := hy
            subst h
            exact ⟨_, by simp [execOp, resolve, invoke, builtin, hargs _ hxs, hx', hy', Builtin.min_, Builtin.min2], rfl⟩
          · exact h.elim
        · exact h.elim
      · split at h
        · rename_i x y hxs
          split at h
          · rename_i p q ex ey
            have hx := hR.ev x
            have hy := hR.ev y
            rw [ex] at hx
            rw [ey] at hy
            have hx' : a.eval x = .int .i64 p := hx
            have hy' : a.eval y = .int .i64 q := hy
            subst h
            exact ⟨_, by simp [execOp, resolve, invoke, builtin, hargs _ hxs, hx', hy', Builtin.max_, Builtin.max2], rfl⟩
          · exact h.elim
        · exact h.elim
      · exact h.elim
    · exact h.elim
  case h_17 => exact h.elim
end
end Go.Proofs.Ytbkdmnohpjihgaa.Abs
