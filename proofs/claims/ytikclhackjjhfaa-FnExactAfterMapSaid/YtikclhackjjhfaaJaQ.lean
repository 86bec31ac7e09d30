/- A variable of two numbers that is only read from some place on: there it becomes data. -/
import Derived.Test.YtikclhackjjhfaaDeQ
import Derived.Test.YtikclhackjjhfaaQg
namespace Go.Proofs.Ytikclhackjjhfaa.M
open Go.RowKit Abs
set_option linter.unusedSimpArgs false
set_option linter.unusedVariables false
set_option maxRecDepth 100000
set_option maxHeartbeats 4000000
def frT (n : Nat) (x y : Unit → Int) : AV → AV
  | .ptr m 0 => if (m == n) = true then .iptr (.pr .int .int) fun _ => (x (), y ()) else .ptr m 0
  | v => v
def AS.frz (S : AS) (n : Nat) : AS :=
  match S.H[n]? with
  | some (some (.box _ [.int x, .int y])) => ⟨S.tm.map (frT n x y), dropC [n] S.H, S.k⟩
  | _ => S
theorem Rl.frz {w0 w : World} {B : Nat → Prop} {hd : Nat → Value} {S : AS} {a : Act} {val : Nat → Bd} (hR : Rl w0 B hd S a w val) (n : Nat) : Rl w0 B hd (S.frz n) a w val := by
  unfold AS.frz
  split
  · rename_i e x y hH
    obtain ⟨g, cur, h1, h2, h3, h4, h5⟩ := hR.heap.blk n _ hH
    have hcur : cur.toList = [.int .i64 (x ()), .int .i64 (y ())] := by
      have hl := h3.len
      match hc : cur.toList, hl with
      | [u, v], _ =>
        rw [hc] at h3
        simp only [VRelL, VRel, and_true] at h3
        rw [h3.1, h3.2]
    have hok : ∀ b, okF S.H val b → okF (dropC [n] S.H) val b := fun b hk m X hX => hk m X (dropC_get hX).2
    have hokg : okF (dropC [n] S.H) val g := fun m X hX hg => by
      obtain ⟨c1, c2⟩ := dropC_get hX
      exact hR.heap.apart n m _ X (fun e => c1 (by simp [e])) hH c2 g (by rw [h5]; simp) hg
    have hglt : g < w.heap.size := hR.heap.lt n _ hH g (by rw [h5]; simp)
    have K : Keep0 (okF S.H val) (okF (dropC [n] S.H) val) w w S.H.length (dropC [n] S.H).length val val := ⟨Nat.le_refl _, fun b hk _ => ⟨hok b hk, rfl⟩, by rw [dropC_len]; exact Nat.le_refl _, fun _ _ => rfl, fun _ _ => rfl⟩
    refine ⟨hR.fr, by simpa using hR.len, hR.defers, fun t => ?_, ⟨fun m X hX => ?_, fun m X hX => hR.heap.lt m X (dropC_get hX).2, fun m k X Y hne hX hY => hR.heap.apart m k X Y hne (dropC_get hX).2 (dropC_get hY).2⟩, fun m X hX => hR.own m X (dropC_get hX).2, hR.kept, by simp only [dropC_len]; exact hR.kle⟩
    · have ht := (hR.tmps t).keep K
      have e : (S.tm.map (frT n x y)).getD t .undef = frT n x y (S.tm.getD t .undef) := by
        rw [List.getD_eq_getElem?_getD, List.getD_eq_getElem?_getD, List.getElem?_map]
        cases S.tm[t]? <;> rfl
      simp only [e]
      generalize S.tm.getD t .undef = X at ht ⊢
      unfold frT
      split
      · rename_i m
        cases hmn : m == n with
        | false => simpa using ht
        | true =>
          simp only [beq_iff_eq] at hmn
          subst hmn
          simp only [↓reduceIte, VRel] at ht ⊢
          obtain ⟨_, g', k1, k2⟩ := ht
          rw [h1] at k1
          cases k1
          refine ⟨g, 0, [.int .i64 (x ()), .int .i64 (y ())], k2, hokg, hglt, ?_, fun j u hu => ?_⟩
          · unfold Rep
            exact ⟨[.int .i64 (x ())], [.int .i64 (y ())], rfl, by unfold Rep; rfl, by unfold Rep; rfl⟩
          · rw [← hcur] at hu
            simp only [Array.getElem?_toList] at hu
            have hlt := (Array.getElem?_eq_some_iff.1 hu).1
            simp [World.cell?, h2, hu]
      · exact ht
    · rw [dropC_len]
      exact (by simpa [dropC_len] using (hR.heap.blk m X (dropC_get hX).2).keep K fun _ _ => rfl)
  · exact hR
def frzs : List Nat → AS → AS
  | [], S => S
  | n :: r, S => frzs r (S.frz n)
theorem Rl.frzs {w0 w : World} {B : Nat → Prop} {hd : Nat → Value} {a : Act} {val : Nat → Bd} : ∀ (ns : List Nat) {S : AS}, Rl w0 B hd S a w val → Rl w0 B hd (M.frzs ns S) a w val
  | [], _, hR => hR
  | n :: r, _, hR => Rl.frzs r (hR.frz n)
/-- A function in whose third part the variables ns are only read. -/
theorem fnF (ns : List Nat) (bad : List Nat) {f : FuncId} {fn : Func} {c0 c1 c2 : Code} {args : List AV} {pre : Hp} {res : List AV} {post : Hp} (ρ : List Nat) (ts : List Tmp)
    (hf : Try.prog.funcs[f]? = some fn) (hb : fn.body = some (.seq c0 (.seq c1 c2))) (hname : (fn.name != "runtime.NumGoroutine") = true) (hres : fn.results = (ts.map .tmp).toArray) (hl3 : ts.length ≤ 3) (hdr : (drawE bad c0 && (drawE bad c1 && drawE bad c2)) = true) (hok : M.okB pre.length ρ res post = true) (hnt : args.length ≤ fn.ntmps)
    (h : vcD (fun _ => Try.prog) (fun _ => tab) bad (.seq c0 c1) (seqQ (fun S1 => vcD (fun _ => Try.prog) (fun _ => tab) bad c2 (endP pre.length ρ ts res post) (frzs ns S1)) (endP pre.length ρ ts res post)) ⟨args ++ List.replicate (fn.ntmps - args.length) .undef, pre, pre.length⟩) : Spec2 Try.prog f args pre res post := by
  simp only [Bool.and_eq_true] at hdr
  refine Spec2.ofA (P := fun _ => Try.prog) (T := fun _ => tab) tabOk mixed ρ ts hf hb hname hres hl3 hok hnt fun w0 B hd a w val hR => ?_
  refine wp_seq (wp_mono (vcE_sound tabOk mixed c0 _ _ hdr.1 h w0 B hd a w val hR) fun e a' w' ⟨k, S', val', e1, e2, e3⟩ => ?_)
  subst e1
  cases k with
  | normal =>
    refine wp_seq (wp_mono (vcE_sound tabOk mixed c1 _ S' hdr.2.1 e2 w0 B hd a' w' val' e3) fun e a'' w'' ⟨k, S'', val'', g1, g2, g3⟩ => ?_)
    subst g1
    cases k with
    | normal => exact vcE_sound tabOk mixed c2 _ _ hdr.2.2 g2 w0 B hd a'' w'' val'' (g3.frzs ns)
    | exit i => exact ⟨.exit i, S'', val'', rfl, g2, g3⟩
    | ret => exact ⟨.ret, S'', val'', rfl, g2, g3⟩
    | goto l => exact ⟨.goto l, S'', val'', rfl, g2, g3⟩
  | exit i => exact ⟨.exit i, S', val', rfl, e2, e3⟩
  | ret => exact ⟨.ret, S', val', rfl, e2, e3⟩
  | goto l => exact ⟨.goto l, S', val', rfl, e2, e3⟩
end Go.Proofs.Ytikclhackjjhfaa.M
