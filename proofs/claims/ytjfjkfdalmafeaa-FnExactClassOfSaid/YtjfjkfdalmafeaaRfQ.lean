/- Functions with four results. -/
import Derived.Test.YtjfjkfdalmafeaaRgQ
import Derived.Laws.ResultCell
import Derived.Laws.Rows
namespace Go.Proofs.Ytjfjkfdalmafeaa.M
open Go.RowKit Abs
set_option linter.unusedSimpArgs false
set_option linter.unusedVariables false
set_option maxRecDepth 100000
set_option maxHeartbeats 4000000
theorem results_4 {fn : Func} {r s q p : ResultVar} {v u y z : Value} {tmps : Array Value} {P : Program} {w : World} (h : fn.results = #[r, s, q, p]) (h1 : (rvS tmps r).run P w = .ok v w) (h2 : (rvS tmps s).run P w = .ok u w) (h3 : (rvS tmps q).run P w = .ok y w) (h4 : (rvS tmps p).run P w = .ok z w) : (results fn tmps).run P w = .ok (.tuple #[v, u, y, z]) w := by
  rw [results_eq, h]
  simp [Sem.run_bind, h1, h2, h3, h4]
theorem Spec2.ofG4 {P : Unit → Program} {T : Unit → Tab} {f : FuncId} {fn : Func} {c : Code} {args : List AV} {pre : Hp} {res : List AV} {post : Hp} (rs : List RK)
    (hf : (P ()).funcs[f]? = some fn) (hb : fn.body = some c) (hname : (fn.name != "runtime.NumGoroutine") = true) (hres : fn.results = (rs.map RK.var).toArray) (hrk : rs.all (RK.okB (P ())) = true) (hl : rs.length = 4) (hpl : pre.length ≤ post.length) (hnt : args.length ≤ fn.ntmps)
    (h : AWp (P ()) c (EndG pre.length rs res post) ⟨args ++ List.replicate (fn.ntmps - args.length) .undef, pre, pre.length⟩) : Spec2 (P ()) f args pre res post := by
  refine ⟨by simp [enters, hf, hb]; simpa using hname, hpl, fun w val vs hH hv => ?_⟩
  have hvl := hv.len
  have hE : Rl w (pBlk pre val) (fun n => (val n).v) ⟨args ++ List.replicate (fn.ntmps - args.length) .undef, pre, pre.length⟩ { tmps := vs.toArray ++ Array.replicate (fn.ntmps - vs.toArray.size) undef, defers := [] } w val := by
    refine ⟨Frame0.refl _ _, by simp [hvl], rfl, fun t => ?_, hH, fun n b hn g hg => .inr ⟨n, b, hn, hg⟩, fun _ _ => rfl, Nat.le_refl _⟩
    rw [List.getD_eq_getElem?_getD, Array.getD_eq_getD_getElem?]
    by_cases ht : t < args.length
    · obtain ⟨v, hv1, hv2⟩ := hv.get (i := t) (x := args[t]) (by simp [ht])
      rw [List.getElem?_append_left ht, List.getElem?_eq_getElem ht, Array.getElem?_append_left (by simp; omega)]
      simp only [Option.getD_some]
      rw [show vs.toArray[t]? = some v by simpa using hv1]
      exact hv2
    · rw [List.getElem?_append_right (by omega), Array.getElem?_append_right (by simp; omega)]
      by_cases h2 : t - args.length < fn.ntmps - args.length
      · rw [List.getElem?_replicate, if_pos h2, Array.getElem?_replicate, if_pos (by simp; omega)]
        simp only [Option.getD_some, VRel]; rfl
      · rw [List.getElem?_replicate, if_neg h2, Array.getElem?_replicate, if_neg (by simp; omega)]
        simp only [Option.getD_none, VRel]; rfl
  refine calls_of_wp hf hb (wp_mono (h w _ _ _ w _ hE) ?_)
  rintro e a w' ⟨x, S0, val0, rfl, hx, hR0⟩
  obtain ⟨hxe, hx2⟩ := hx.out
  obtain ⟨S, val', hR, ρ, hok, hk, ⟨xs, hxs, h1⟩, h2⟩ := hx2 _ _ _ _ _ _ hR0
  simp only [M.okB, Bool.and_eq_true, beq_iff_eq] at hok
  obtain ⟨⟨⟨⟨⟨⟨o1, o2⟩, o3⟩, o4⟩, o5⟩, o6⟩, o7⟩ := hok
  have hnd := nodupB_spec o2
  have hkp := Nat.le_of_ble_eq_true o4
  have hfirst : ∀ i, i < pre.length → nth ρ i = i := fun i hi => by
    simp only [firstB, List.all_eq_true, beq_iff_eq] at o3
    exact o3 i (List.mem_of_getElem? (i := i) (by rw [upFrom_get, if_pos hi]; simp))
  have hblk : ∀ i b, post[i]? = some (some b) → flatB b = true ∧ ltB post.length b = true := fun i b hb => by
    have := (List.all_eq_true.1 o7) _ (List.mem_of_getElem? hb)
    simpa using this
  have core : a.defers = [] ∧ ∃ v, (results fn a.tmps).run (P ()) w' = .ok v w' ∧ ∃ v2 val2, Ending.returned v = .returned v2 ∧ SPost pre val res post w v2 w' val2 := by
    have get : ∀ {i : Nat} {b : Blk}, post[i]? = some (some b) → ∃ c, S.H[nth ρ i]? = some (some c) ∧ BLe S.H.length c (renB ρ b) := fun {i b} hb => by
      obtain ⟨n, c, k1, k2, k3⟩ := postP_get o1 h2 hb
      exact ⟨c, by rw [nth_of k1]; exact k2, k3⟩
    obtain ⟨us, m1, m0, mr⟩ := rks_run hR hrk hxs
    have m2 : VRelL NoB w' post.length (fun i => val' (nth ρ i)) res us := (VRelL.unren (N := post.length) (val := fun i => val' (nth ρ i)) (fun n _ => ⟨rfl, rfl⟩) o6 (m1.le h1)).flat o5
    have hrun : ∃ v, (results fn a.tmps).run (P ()) w' = .ok v w' ∧ ResV w' post.length (fun i => val' (nth ρ i)) res v := by
      have m3 := m2.len
      match rs, us, hl, m0, hres, mr with
      | [r, r', r'', r3], [u, u', u'', u3], _, _, hres, mr =>
        refine ⟨_, results_4 hres (mr 0 r u rfl rfl) (mr 1 r' u' rfl rfl) (mr 2 r'' u'' rfl rfl) (mr 3 r3 u3 rfl rfl), ?_⟩
        unfold ResV
        match res, m2, m3 with
        | [q], m2, m3 => simp at m3
        | [], m2, m3 => simp at m3
        | _ :: _ :: _, m2, m3 => exact ⟨_, rfl, m2⟩
    obtain ⟨v, hv1, hv2⟩ := hrun
    refine ⟨hR.defers, v, hv1, _, fun i => val' (nth ρ i), rfl, ⟨hR.fr, ⟨fun i b hb => ?_, fun i b hb g hg => ?_, fun i j b c hij hb hc g hg hg' => ?_⟩, fun i b hb g hg => ?_, fun i hi => ?_, hv2⟩⟩
    · obtain ⟨c, k1, k2⟩ := get hb
      have k3 := (hR.heap.blk _ _ k1).le k2
      obtain ⟨f1, f2⟩ := hblk i b hb
      have k4 : BRel (okF S.H val') w' post.length (fun i => val' (nth ρ i)) (val' (nth ρ i)) b := k3.unren (fun _ h => h) (fun n _ => ⟨rfl, rfl⟩) f2
      cases b with
      | row e t l => obtain ⟨xs, m1, m2, m3⟩ := k4; exact ⟨xs, m1, ⟨m2.1, fun i y hy => (m2.2 i y hy).flat f1⟩, m3⟩
      | rows e e2 t l =>
        obtain ⟨m1, m2, m3⟩ := k4
        refine ⟨m1, fun i y hy => ?_, m3⟩
        obtain ⟨h, xs, n1, n2, n3⟩ := m2 i y hy
        exact ⟨h, xs, n1, n2, n3.1, fun i y hy => (n3.2 i y hy).flat f1⟩
      | rowsH e e2 t l k => cases f1
      | arr e k t l => cases f1
      | box e cs => obtain ⟨g, cur, m1, m2, m3, m4⟩ := k4; exact ⟨g, cur, m1, m2, m3.flat f1, m4⟩
    · obtain ⟨c, k1, k2⟩ := get hb
      exact hR.heap.lt _ _ k1 g hg
    · obtain ⟨c1, k1, _⟩ := get hb
      obtain ⟨c2, k2, _⟩ := get hc
      refine hR.heap.apart _ _ _ _ (fun e => hij ?_) k1 k2 g hg hg'
      have hi : i < ρ.length := by rw [o1]; exact (List.getElem?_eq_some_iff.1 hb).1
      have hj : j < ρ.length := by rw [o1]; exact (List.getElem?_eq_some_iff.1 hc).1
      have e1 := nth_get hi
      have e2 := nth_get hj
      rw [e] at e1
      exact (List.getElem_inj (h₀ := hi) (h₁ := hj) hnd).1 (by rw [(List.getElem?_eq_some_iff.1 e1).2, (List.getElem?_eq_some_iff.1 e2).2])
    · obtain ⟨c, k1, _⟩ := get hb
      exact hR.own _ _ k1 g hg
    · have := hR.kept (nth ρ i)
      rw [hfirst i hi] at this
      rw [hfirst i hi]
      exact this (by rw [hk]; exact hi)
  cases x with
  | normal => exact core
  | ret => exact core
  | exit i => exact (hxe (.exit i) rfl).elim
  | goto l => exact (hxe (.goto l) rfl).elim
theorem fnG4 (rs : List RK) {f : FuncId} {fn : Func} {c : Code} {args : List AV} {pre : Hp} {res : List AV} {post : Hp}
    (hf : Try.prog.funcs[f]? = some fn) (hb : fn.body = some c) (hname : (fn.name != "runtime.NumGoroutine") = true) (hres : fn.results = (rs.map RK.var).toArray) (hrk : rs.all (RK.okB Try.prog) = true) (hl : rs.length = 4) (hdr : drawB c = true) (hpl : pre.length ≤ post.length) (hnt : args.length ≤ fn.ntmps)
    (h : vc (fun _ => Try.prog) (fun _ => tab) c (EndG pre.length rs res post) ⟨args ++ List.replicate (fn.ntmps - args.length) .undef, pre, pre.length⟩) : Spec2 Try.prog f args pre res post :=
  Spec2.ofG4 (P := fun _ => Try.prog) (T := fun _ => tab) rs hf hb hname hres hrk hl hpl hnt (vc_sound tabOk mixed c _ _ hdr h)
end Go.Proofs.Ytjfjkfdalmafeaa.M
