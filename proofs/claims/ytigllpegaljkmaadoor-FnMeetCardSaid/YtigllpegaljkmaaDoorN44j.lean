import Derived.Test.YtigllpegaljkmaaDoorN41j
import Derived.Great.BuildSlice
namespace Go.Proofs.YtigllpegaljkmaaDoor
open Go.RowKit Go.Maps Go.WideMaps Go.ChangeShapes Go.WideShapes Go.MapKept Go.ChangeMaps Go.WideElems
set_option linter.unusedVariables false
set_option linter.unusedSimpArgs false
set_option maxRecDepth 100000

/-! steps of a drawn region -/
theorem dag_start {P : Program} {md : Region.Mode} {ops : Array Oper} {Q : Exit → Act → World → Prop} {S : World → Prop} {n : Nat} {l : Array Bool} {a : Act} {w : World} (h : ∀ (G : Nat → Array Bool → Act → World → Prop) (a0 : Act), G = wpAnyH P md ops Q S → a0 = a → G n l a0 w) : wpAnyH P md ops Q S n l a w := h _ _ rfl rfl
theorem dag_to {P : Program} {md : Region.Mode} {ops : Array Oper} {Q : Exit → Act → World → Prop} {S : World → Prop} {n n' : Nat} {l l' : Array Bool} {a a' : Act} {w : World} {G : Nat → Array Bool → Act → World → Prop} (hG : G = wpAnyH P md ops Q S) (h : G n' l' a' w) (hn : n = n') (hl : l = l') (ha : a = a') : wpAnyH P md ops Q S n l a w := by
  subst hn hl ha; rw [← hG]; exact h
theorem step_exec {P : Program} {ops : Array Oper} {o : Oper} {a : Act} {w w' : World} {K : Act → World → Prop} {Q : Exit → Act → World → Prop} {E : Prop} {v : Value} (hg : o.guard = none) {d0 : Option Nat} (hd : o.dst = d0) (hr : (execOp a.eval o).run P w = .ok (.value v) w') (hK : K (a.put d0 v) w') :
    if Region.wanted o (yielded ops a.tmps) = true then Oper.wp P o a w K Q else E := by
  have hw : Region.wanted o (yielded ops a.tmps) = true := by simp [Region.wanted, hg]
  rw [if_pos hw]
  unfold Oper.wp
  rw [← hd] at hK
  simp [hr]
  exact hK
theorem rng2 : Array.range 2 = #[0, 1] := by apply Array.toList_inj.1; simp; rfl
theorem exec_bs2 {P : Program} {t e : TypeId} {i : TypeInfo} {z : Value} (hu : P.underlying t = some (.slice e)) (hi : P.info? e = some i) (hz : i.zero = some z) (hn : i.size = 2) (ρ : Operand → Value) (o : Oper) (x : Operand) (u0 u1 : Value) (hv : ρ x = .agg #[u0, u1]) (ho : o.op = .buildSlice t 1 #[(0, x)]) (w : World) : (execOp ρ o).run P w = .ok (.value (.slice (some ⟨w.heap.size, 0, none⟩) 1 1)) (w.alloc (.cells #[u0, u1] e)) := by
  have hf : Instr.fill (fun j => some (j * i.size, i.size)) ((Array.range (1 * i.size)).map (z.cells[· % z.cells.size]!)) ((#[(0, x)] : Array (Nat × Operand)).map fun (j, x) => (j, ρ x)).toList = some #[u0, u1] := by
    rw [hn]
    simp [hv, Instr.fill, Value.cells, rng2]
  have hr := run_buildSlice (P := P) w t e 1 ((#[(0, x)] : Array (Nat × Operand)).map fun (j, x) => (j, ρ x)) _ i z hu hi hz (by rw [hn]; decide) (by rw [hn]; decide) hf
  simp only [execOp, ho, Sem.run_bind, hr, Result.andThen_ok, Sem.run_pure]
section
variable {ops : Array Oper} {o : Oper} {a : Act} {w : World} {K : Act → World → Prop} {Q : Exit → Act → World → Prop} {E : Prop}
theorem step_bsU (hg : o.guard = none) {d0 : Option Nat} (hd : o.dst = d0) (x : Operand) (ho : o.op = .buildSlice 79 1 #[(0, x)]) (u0 u1 : Value) (hx : a.eval x = .agg #[u0, u1])
    (hK : ∀ k w', Blk w' k #[u0, u1] 78 → w.heap.size = k → Below w.heap.size w w' → K (a.put d0 (.slice (some ⟨k, 0, none⟩) 1 1)) w') :
    if Region.wanted o (yielded ops a.tmps) = true then Oper.wp Tryd.prog o a w K Q else E := by
  obtain ⟨ie, hie, he0, he1, he2⟩ := info_parts Tryd.infoU
  exact step_exec hg hd (exec_bs2 Tryd.underlying79 hie he0 he1 _ o x u0 u1 hx ho w) (hK _ _ (Blk.new w _ _) rfl (bl_alloc (Below.refl _ _) _))
theorem step_bsM (hg : o.guard = none) {d0 : Option Nat} (hd : o.dst = d0) (x : Operand) (ho : o.op = .buildSlice 27 1 #[(0, x)]) (u0 u1 : Value) (hx : a.eval x = .agg #[u0, u1])
    (hK : ∀ k w', Blk w' k #[u0, u1] 62 → w.heap.size = k → Below w.heap.size w w' → K (a.put d0 (.slice (some ⟨k, 0, none⟩) 1 1)) w') :
    if Region.wanted o (yielded ops a.tmps) = true then Oper.wp Tryd.prog o a w K Q else E := by
  obtain ⟨ie, hie, he0, he1, he2⟩ := info_parts Tryd.infoMove
  exact step_exec hg hd (exec_bs2 Tryd.underlying27 hie he0 he1 _ o x u0 u1 hx ho w) (hK _ _ (Blk.new w _ _) rfl (bl_alloc (Below.refl _ _) _))
theorem step_place (hg : o.guard = none) {d0 : Option Nat} (hd : o.dst = d0) (s x : Operand) (ho : o.op = .call { callee := .builtin .append, args := #[s, x], argTypes := #[79, 79] })
    (B : Nat) (v : Value) (F : List (Int × Int)) (hs : a.eval s = v) (hv : URow w B v F) (sb : Nat) (p q : Int) (hx : a.eval x = .slice (some ⟨sb, 0, none⟩) 1 1) (hz : Blk w sb #[.int .u16 p, .int .u16 q] 78) (hl : F.length ≤ 1048576) (hB : B ≤ w.heap.size)
    (hK : ∀ v' w', URow w' B v' (F ++ [(p, q)]) → w.grownBy w' v.ownBlock → K (a.put d0 v') w') :
    if Region.wanted o (yielded ops a.tmps) = true then Oper.wp Tryd.prog o a w K Q else E := by
  obtain ⟨ie, hie, he0, he1, he2⟩ := info_parts Tryd.infoU
  obtain ⟨v', w', hrun, h2, h3, _, _⟩ := run_append_own_at (P := Tryd.prog) w B 79 o.type 78 ie (.agg #[.int .u16 0, .int .u16 0]) 2 4 Tryd.underlying79 hie he0 he1 he2 rfl (by decide) v F.length (ucells F) hv ⟨sb, 0, none⟩ 1 1 [.int .u16 p, .int .u16 q] rfl (by
    intro j u hj
    match j, hj with
    | 0, hj => simp at hj; subst hj; simpa [Addr.add] using hz.two.1
    | 1, hj => simp at hj; subst hj; simpa [Addr.add] using hz.two.2.1) (by
    intro u hu
    simp at hu
    rcases hu with rfl | rfl <;> rfl) (by unfold maxLen; omega) (by omega) hB
  refine step_exec hg hd (v := v') (w' := w') ?_ (hK v' w' ?_ h3)
  · simp [execOp, ho, resolve, invoke, builtin, hs, hx, hrun, Result.andThen]
  · unfold URow
    rw [List.length_append, List.length_singleton, ucells_app]
    exact h2
theorem step_move (hg : o.guard = none) {d0 : Option Nat} (hd : o.dst = d0) (s x : Operand) (ho : o.op = .call { callee := .builtin .append, args := #[s, x], argTypes := #[27, 27] })
    (B : Nat) (v : Value) (F : List (Int × Int)) (hs : a.eval s = v) (hv : MRow w B v F) (sb : Nat) (p q : Int) (hx : a.eval x = .slice (some ⟨sb, 0, none⟩) 1 1) (hz : Blk w sb #[.int .i64 p, .int .i64 q] 62) (hl : F.length ≤ 1048576) (hB : B ≤ w.heap.size)
    (hK : ∀ v' w', MRow w' B v' (F ++ [(p, q)]) → w.grownBy w' v.ownBlock → K (a.put d0 v') w') :
    if Region.wanted o (yielded ops a.tmps) = true then Oper.wp Tryd.prog o a w K Q else E := by
  obtain ⟨ie, hie, he0, he1, he2⟩ := info_parts Tryd.infoMove
  obtain ⟨v', w', hrun, h2, h3, _, _⟩ := run_append_own_at (P := Tryd.prog) w B 27 o.type 62 ie (.agg #[.int .i64 0, .int .i64 0]) 2 16 Tryd.underlying27 hie he0 he1 he2 rfl (by decide) v F.length (ecells F) hv ⟨sb, 0, none⟩ 1 1 [.int .i64 p, .int .i64 q] rfl (by
    intro j u hj
    match j, hj with
    | 0, hj => simp at hj; subst hj; simpa [Addr.add] using hz.two.1
    | 1, hj => simp at hj; subst hj; simpa [Addr.add] using hz.two.2.1) (by
    intro u hu
    simp at hu
    rcases hu with rfl | rfl <;> rfl) (by unfold maxLen; omega) (by omega) hB
  refine step_exec hg hd (v := v') (w' := w') ?_ (hK v' w' ?_ h3)
  · simp [execOp, ho, resolve, invoke, builtin, hs, hx, hrun, Result.andThen]
  · unfold MRow
    rw [List.length_append, List.length_singleton, ecells_app]
    exact h2
end

/-! blocks of unlike kinds -/
theorem URow.noBlk {w : World} {B k : Nat} {v : Value} {L : List (Int × Int)} {c : Array Value} {t : TypeId} (h : URow w B v L) (hk : Blk w k c t) (ht : ¬ t = 78) : ¬ v.ownBlock = some k := by
  intro e
  rcases h.2 with ⟨rfl, _⟩ | ⟨g, cap, cur, rfl, _, hg, _⟩
  · simp [Value.ownBlock] at e
  · simp only [Value.ownBlock, Option.some.injEq] at e
    subst e
    unfold Blk at hk
    rw [hg] at hk
    simp at hk
    exact ht hk.2.symm
theorem MRow.noBlk {w : World} {B k : Nat} {v : Value} {L : List (Int × Int)} {c : Array Value} {t : TypeId} (h : MRow w B v L) (hk : Blk w k c t) (ht : ¬ t = 62) : ¬ v.ownBlock = some k := by
  intro e
  rcases h.2 with ⟨rfl, _⟩ | ⟨g, cap, cur, rfl, _, hg, _⟩
  · simp [Value.ownBlock] at e
  · simp only [Value.ownBlock, Option.some.injEq] at e
    subst e
    unfold Blk at hk
    rw [hg] at hk
    simp at hk
    exact ht hk.2.symm
theorem URow.noBox {w : World} {B k : Nat} {v : Value} {L : List (Int × Int)} {a b : Value} {t : TypeId} (h : URow w B v L) (hk : Blk w k #[a, b] t) (h2 : 2 ≤ L.length) : ¬ v.ownBlock = some k := by
  intro e
  rcases h.2 with ⟨rfl, _⟩ | ⟨g, cap, cur, rfl, _, hg, hc, _, hs, _⟩
  · simp [Value.ownBlock] at e
  · simp only [Value.ownBlock, Option.some.injEq] at e
    subst e
    unfold Blk at hk
    rw [hg] at hk
    simp at hk
    have := congrArg Array.size hk.1
    simp at this
    omega
theorem Blk.keptO {w w' : World} {n : Nat} {c : Array Value} {t : TypeId} {r : Option Nat} (h : Blk w n c t) (hg : w.grownBy w' r) (hr : ¬ r = some n) : Blk w' n c t := by
  unfold Blk
  rw [hg.block n h.lt (fun e => hr e.symm)]
  exact h
theorem grown_ur {B : Nat} {W X Y : World} {v : Value} {L : List (Int × Int)} (hb : Below B W X) (hB : B ≤ X.heap.size) (hv : URow X B v L) (hg : X.grownBy Y v.ownBlock) : Below B W Y :=
  hb.grown hg hB (fun q hq => (hv.lt q hq).1)

/-! the map, laid open: what it holds, and that all of its lists are old -/
structure WF (w : World) (B E b : Nat) (Q : List Way) (f : Int × Int → Option Value) : Prop where
  map : PM w b Q.length f
  way : ∀ q ∈ Q, ∃ u, f (pkey q.1) = some u ∧ MRow w B u q.2 ∧ ∀ k, u.ownBlock = some k → k < E
  non : ∀ e, bU e → (∀ q ∈ Q, ¬ pkey q.1 = e) → f e = none
theorem WM.wf {w : World} {B b : Nat} {Q : List Way} (h : WM w B b Q) : ∃ f, WF w B w.heap.size b Q f := by
  obtain ⟨f, h1, h2, h3⟩ := h
  refine ⟨f, h1, fun q hq => ?_, h3⟩
  obtain ⟨u, e1, e2⟩ := h2 q hq
  exact ⟨u, e1, e2, fun k hk => (e2.lt k hk).2⟩
theorem WF.wm {w : World} {B E b : Nat} {Q : List Way} {f : Int × Int → Option Value} (h : WF w B E b Q f) : WM w B b Q :=
  ⟨f, h.map, fun q hq => by obtain ⟨u, e1, e2, _⟩ := h.way q hq; exact ⟨u, e1, e2⟩, h.non⟩
theorem WF.later {w w' : World} {B E b : Nat} {Q : List Way} {f : Int × Int → Option Value} (h : WF w B E b Q f) (hb : Below w.heap.size w w') : WF w' B E b Q f :=
  ⟨h.map.later hb, fun q hq => by obtain ⟨u, e1, e2, e3⟩ := h.way q hq; exact ⟨u, e1, e2.later hb, e3⟩, h.non⟩
theorem WF.placed {w w' : World} {B C E b : Nat} {Q : List Way} {f : Int × Int → Option Value} {v : Value} {L : List (Int × Int)} (h : WF w B E b Q f) (hv : URow w C v L) (hg : w.grownBy w' v.ownBlock) : WF w' B E b Q f :=
  ⟨h.map.keptO hg (hv.noMap h.map), fun q hq => by obtain ⟨u, e1, e2, e3⟩ := h.way q hq; exact ⟨u, e1, e2.keptO hg (hv.noMove e2), e3⟩, h.non⟩
theorem WF.moved {w w' : World} {B E b : Nat} {Q : List Way} {f : Int × Int → Option Value} {v : Value} {L : List (Int × Int)} (h : WF w B E b Q f) (hv : MRow w E v L) (hg : w.grownBy w' v.ownBlock) : WF w' B E b Q f :=
  ⟨h.map.keptO hg (hv.noMap h.map), fun q hq => by
    obtain ⟨u, e1, e2, e3⟩ := h.way q hq
    exact ⟨u, e1, e2.keptO hg (fun k hk e => by have := e3 k hk; have := (hv.lt k e).1; omega), e3⟩, h.non⟩

/-! what stands while a place is added -/
structure Wk (w g : World) (B E b hp h9 h11 h12 : Nat) (P : Array Value) (x0 x1 y0 y1 p1 p2 : Int) (vM : Value) (M : List (Int × Int)) (Q : List Way) (f : Int × Int → Option Value) : Prop where
  bl : Below B w g
  sz : E ≤ g.heap.size
  be : B ≤ E
  wf : WF g B E b Q f
  bp : Blk g hp P 51
  b9 : Blk g h9 #[.int .u16 x0, .int .u16 x1] 78
  b11 : Blk g h11 #[.int .i64 p1, .int .i64 p2] 62
  b12 : Blk g h12 #[.int .u16 y0, .int .u16 y1] 78
  mm : MRow g B vM M
  mo : ∀ k, vM.ownBlock = some k → k < E
  lp : hp < E
  l9 : h9 < E
  l11 : h11 < E
  l12 : h12 < E
section
variable {w g g' : World} {B E b hp h9 h11 h12 : Nat} {P : Array Value} {x0 x1 y0 y1 p1 p2 : Int} {vM : Value} {M : List (Int × Int)} {Q : List Way} {f : Int × Int → Option Value}
theorem Wk.later (h : Wk w g B E b hp h9 h11 h12 P x0 x1 y0 y1 p1 p2 vM M Q f) (hb : Below g.heap.size g g') : Wk w g' B E b hp h9 h11 h12 P x0 x1 y0 y1 p1 p2 vM M Q f :=
  ⟨h.bl.trans (hb.mono (Nat.le_trans h.be h.sz)), Nat.le_trans h.sz hb.size, h.be, h.wf.later hb, h.bp.later hb, h.b9.later hb, h.b11.later hb, h.b12.later hb, h.mm.later hb, h.mo, h.lp, h.l9, h.l11, h.l12⟩
theorem Wk.placed {v : Value} {L : List (Int × Int)} (h : Wk w g B E b hp h9 h11 h12 P x0 x1 y0 y1 p1 p2 vM M Q f) (hv : URow g B v L) (n9 : ¬ v.ownBlock = some h9) (n12 : ¬ v.ownBlock = some h12) (hg : g.grownBy g' v.ownBlock) : Wk w g' B E b hp h9 h11 h12 P x0 x1 y0 y1 p1 p2 vM M Q f :=
  ⟨grown_ur h.bl (Nat.le_trans h.be h.sz) hv hg, Nat.le_trans h.sz hg.size, h.be, h.wf.placed hv hg, h.bp.keptO hg (hv.noBlk h.bp (by decide)), h.b9.keptO hg n9, h.b11.keptO hg (hv.noBlk h.b11 (by decide)), h.b12.keptO hg n12, h.mm.keptO hg (hv.noMove h.mm), h.mo, h.lp, h.l9, h.l11, h.l12⟩
theorem Wk.moved {v : Value} {L : List (Int × Int)} (h : Wk w g B E b hp h9 h11 h12 P x0 x1 y0 y1 p1 p2 vM M Q f) (hv : MRow g E v L) (hg : g.grownBy g' v.ownBlock) : Wk w g' B E b hp h9 h11 h12 P x0 x1 y0 y1 p1 p2 vM M Q f := by
  have no : ∀ k, k < E → ¬ v.ownBlock = some k := fun k hk e => by have := (hv.lt k e).1; omega
  exact ⟨grown_mr h.bl (Nat.le_trans h.be h.sz) (hv.mono h.be) hg, Nat.le_trans h.sz hg.size, h.be, h.wf.moved hv hg, h.bp.keptO hg (no _ h.lp), h.b9.keptO hg (no _ h.l9), h.b11.keptO hg (no _ h.l11), h.b12.keptO hg (no _ h.l12), h.mm.keptO hg (fun k hk => no k (h.mo k hk)), h.mo, h.lp, h.l9, h.l11, h.l12⟩
end

/-- behind the taking of an entry all other keys tell what they told. -/
theorem PM.entryW {w : World} {b n : Nat} {f : Int × Int → Option Value} (h : PM w b n f) (hn : n < maxLen) {e : Int × Int} (he : bU e) {r : Value} {w1 : World} (hr : (Instr.mapEntry 80 (.map (some b)) (.agg #[.int .u16 e.1, .int .u16 e.2])).run Tryd.prog w = .ok r w1) :
    ∃ n' f', PM w1 b n' f' ∧ ∀ x, ¬ x = e → f' x = f x := by
  have hp := h
  obtain ⟨D, h1, h2⟩ := h
  obtain ⟨es, clock, hb, F, hs, hD⟩ := h1
  rcases ulaw.find w (keyOfU e he) es.toList F.keys with ⟨q1, q2⟩ | ⟨j, e0, q1, q2, q3⟩
  · obtain ⟨w', hrun', hp', _⟩ := hp.put hn he (.slice none 0 0)
    have e1 : (Instr.mapEntry 80 (.map (some b)) (.agg #[.int .u16 e.1, .int .u16 e.2])).run Tryd.prog w = .ok (.tuple #[.slice none 0 0, goInt clock]) (setBlock w b (.map (es.push ⟨.agg #[.int .u16 e.1, .int .u16 e.2], .slice none 0 0, clock⟩) (clock + 1))) := by
      simp [Instr.mapEntry, run_underlying Tryd.underlying80, MapKept.run_getObj_map hb, ulaw.check w false (keyOfU e he), q1, zeroMv, MapKept.run_setObj_map _ hb, Result.andThen, setBlock]
    have e2 : (Instr.mapUpdate 80 (.map (some b)) (.agg #[.int .u16 e.1, .int .u16 e.2]) (.slice none 0 0)).run Tryd.prog w = .ok () (setBlock w b (.map (es.push ⟨.agg #[.int .u16 e.1, .int .u16 e.2], .slice none 0 0, clock⟩) (clock + 1))) := by
      simp [Instr.mapUpdate, run_underlying Tryd.underlying80, MapKept.run_getObj_map hb, ulaw.check w false (keyOfU e he), q1, MapKept.run_setObj_map _ hb, Result.andThen, setBlock]
    rw [e1] at hr
    rw [e2] at hrun'
    injection hr with _ hr
    injection hrun' with _ hrun'
    rw [← hr, hrun']
    exact ⟨_, _, hp', fun x hx => by simp [pmSet, hx]⟩
  · have hj : es[j]? = some e0 := by simpa using q2
    have hsame : es.modify j (fun x => { x with key := .agg #[.int .u16 e.1, .int .u16 e.2] }) = es := by
      apply Array.ext'
      rw [Array.toList_modify, modify_eq_set _ _ _ _ q2]
      have : ({ e0 with key := .agg #[.int .u16 e.1, .int .u16 e.2] } : MapEntry) = e0 := by rw [← q3]
      rw [this]
      exact set_self _ _ _ q2
    have e1 : (Instr.mapEntry 80 (.map (some b)) (.agg #[.int .u16 e.1, .int .u16 e.2])).run Tryd.prog w = .ok (.tuple #[e0.val, goInt e0.born]) (setBlock w b (.map es clock)) := by
      simp [Instr.mapEntry, run_underlying Tryd.underlying80, MapKept.run_getObj_map hb, ulaw.check w false (keyOfU e he), q1, hj, q3, ulaw.stays w (keyOfU e he), hsame, MapKept.run_setObj_map _ hb, Result.andThen, setBlock]
    rw [e1] at hr
    injection hr with _ hr
    rw [← hr]
    exact ⟨n, f, ⟨D, ⟨es, clock, heap_setBlock_same hb _, F, hs, hD⟩, h2⟩, fun x _ => rfl⟩
end Go.Proofs.YtigllpegaljkmaaDoor
namespace Go.Proofs.YtigllpegaljkmaaDoor
open Go.RowKit Go.Maps Go.WideMaps
set_option linter.unusedVariables false
set_option linter.unusedSimpArgs false
set_option maxRecDepth 100000

theorem Blk.noMap {w : World} {b k n : Nat} {c : Array Value} {t : TypeId} {f : Int × Int → Option Value} (h : Blk w k c t) (hm : PM w b n f) : ¬ some b = some k := by
  obtain ⟨D, ⟨es, clock, hb, _⟩, _⟩ := hm
  intro e
  injection e with e
  subst e
  unfold Blk at h
  rw [hb] at h
  simp at h
/-- what is looked at in the region. -/
def RS (b h9 h11 h12 : Nat) (x0 x1 y0 y1 p1 p2 : Int) (u : Value) (W : World) : Prop :=
  Blk W h9 #[.int .u16 x0, .int .u16 x1] 78 ∧ Blk W h11 #[.int .i64 p1, .int .i64 p2] 62 ∧ Blk W h12 #[.int .u16 y0, .int .u16 y1] 78 ∧
    (Instr.lookup 80 (.map (some b)) (.agg #[.int .u16 x0, .int .u16 x1]) false).run Tryd.prog W = .ok u W
section
variable {w g g' : World} {B E b hp h9 h11 h12 : Nat} {P : Array Value} {y0 y1 p1 p2 : Int} {vM u : Value} {M R : List (Int × Int)} {Q : List Way} {f : Int × Int → Option Value} {A A2 : List Int}
theorem Wk.held (h : Wk w g B E b hp h9 h11 h12 P (nb (fB A)) (nb (fD A)) y0 y1 p1 p2 vM M Q f) (fu : f (pkey A) = some u) : RS b h9 h11 h12 (nb (fB A)) (nb (fD A)) y0 y1 p1 p2 u g := by
  refine ⟨h.b9, h.b11, h.b12, ?_⟩
  have := h.wf.map.look1 (pkey_b A)
  rw [fu] at this
  exact this
theorem Wk.way {x0 x1 : Int} (h : Wk w g B E b hp h9 h11 h12 P x0 x1 y0 y1 p1 p2 vM M Q f) (hq : (A, R) ∈ Q) (fu : f (pkey A) = some u) : MRow g B u R := by
  obtain ⟨u', e1, e2, _⟩ := h.wf.way _ hq
  rw [fu] at e1
  injection e1 with e1
  subst e1
  exact e2
theorem Wk.store {n : Nat} {vC : Value} {MC : List (Int × Int)} (h : Wk w g B E b hp h9 h11 h12 P (nb (fB A)) (nb (fD A)) (nb (fB A2)) (nb (fD A2)) p1 p2 vM M Q f) (hb : B ≤ b) (hQ : QOk n Q) (hn : n ≤ 16) (hl : Q.length < maxLen) (hA2 : Thr A2) (la2 : A2.length = n) (hno : (Q.any fun q => decide (q.1 = A2)) = false) (hq : (A, R) ∈ Q) (fu : f (pkey A) = some u) (hu : MRow g E vC MC) :
    ∃ (z : Value) (st : Nat) (w1 w3 : World), (Instr.mapEntry 80 (.map (some b)) (.agg #[.int .u16 (nb (fB A2)), .int .u16 (nb (fD A2))])).run Tryd.prog g = .ok (.tuple #[z, goInt st]) w1 ∧ RS b h9 h11 h12 (nb (fB A)) (nb (fD A)) (nb (fB A2)) (nb (fD A2)) p1 p2 u w1 ∧
      (Instr.entryStore 80 (.map (some b)) (goInt st) vC).run Tryd.prog w1 = .ok () w3 ∧ RS b h9 h11 h12 (nb (fB A)) (nb (fD A)) (nb (fB A2)) (nb (fD A2)) p1 p2 u w3 ∧
      WM w3 B b (Q ++ [(A2, MC)]) ∧ g.mapTurned w3 b ∧ Below B w w3 ∧ Blk w3 hp P 51 ∧ Blk w3 h9 #[.int .u16 (nb (fB A)), .int .u16 (nb (fD A))] 78 ∧ MRow w3 B vM M := by
  have hne : ¬ pkey A = pkey A2 := fun e => by
    have e := pkey_inj (hQ.st _ hq).1 hA2 (hQ.st _ hq).2.1 la2 hn e
    exact List.any_eq_false.1 hno _ hq (by simp only [decide_eq_true_eq]; exact e)
  have hw := h.wf.map
  obtain ⟨st, w1, r1, t1, hst⟩ := hw.entry hl (pkey_b A2)
  obtain ⟨w3, r3, p3, t3⟩ := hst w1 vC rfl
  obtain ⟨n', f', q1, q2⟩ := hw.entryW hl (pkey_b A2) r1
  have t := t1.trans t3
  have l1 : (Instr.lookup 80 (.map (some b)) (.agg #[.int .u16 (nb (fB A)), .int .u16 (nb (fD A))]) false).run Tryd.prog w1 = .ok u w1 := by
    have := q1.look1 (pkey_b A)
    rw [q2 _ hne, fu] at this
    exact this
  have l3 : (Instr.lookup 80 (.map (some b)) (.agg #[.int .u16 (nb (fB A)), .int .u16 (nb (fD A))]) false).run Tryd.prog w3 = .ok u w3 := by
    have := p3.look1 (pkey_b A)
    simp only [pmSet, hne, if_false, fu] at this
    exact this
  refine ⟨_, st, w1, w3, r1, ⟨h.b9.keptO t1.grown (h.b9.noMap hw), h.b11.keptO t1.grown (h.b11.noMap hw), h.b12.keptO t1.grown (h.b12.noMap hw), l1⟩, r3, ⟨h.b9.keptO t.grown (h.b9.noMap hw), h.b11.keptO t.grown (h.b11.noMap hw), h.b12.keptO t.grown (h.b12.noMap hw), l3⟩, ?_, t, ?_, h.bp.keptO t.grown (h.bp.noMap hw), h.b9.keptO t.grown (h.b9.noMap hw), h.mm.turned hw t⟩
  · refine ⟨pmSet f (pkey A2) vC, by rw [List.length_append]; exact p3, fun q hq => ?_, fun e he hall => ?_⟩
    · rcases List.mem_append.1 hq with hq | hq
      · obtain ⟨x, e1, e2, _⟩ := h.wf.way q hq
        have hne : ¬ pkey q.1 = pkey A2 := fun e => by
          have e := pkey_inj (hQ.st q hq).1 hA2 (hQ.st q hq).2.1 la2 hn e
          have := List.any_eq_false.1 hno q hq
          simp [e] at this
        exact ⟨x, by simp [pmSet, hne, e1], e2.turned hw t⟩
      · simp only [List.mem_singleton] at hq
        subst hq
        exact ⟨vC, by simp [pmSet], (hu.mono h.be).turned hw t⟩
    · have hne : ¬ e = pkey A2 := fun q => hall (A2, MC) (by simp) q.symm
      simp only [pmSet, hne, if_false]
      exact h.wf.non e he fun q hq => hall q (by simp [hq])
  · exact h.bl.grown t.grown (Nat.le_trans h.be h.sz) (fun q hq => by cases hq; exact hb)
end
theorem step_skip {P : Program} {ops : Array Oper} {o : Oper} {a : Act} {w w' : World} {K : Act → World → Prop} {Q : Exit → Act → World → Prop} {E : Prop} (hg : o.guard = none) (hd : o.dst = none) (hr : (execOp a.eval o).run P w = .ok .skip w') (hK : K (a.put none undef) w') :
    if Region.wanted o (yielded ops a.tmps) = true then Oper.wp P o a w K Q else E := by
  have hw : Region.wanted o (yielded ops a.tmps) = true := by simp [Region.wanted, hg]
  rw [if_pos hw]
  unfold Oper.wp
  rw [← hd] at hK
  simp [hr]
  exact hK
theorem exec_entry {t : TypeId} {o : Oper} {a : Act} {w w1 : World} {x k : Operand} {vx vk r : Value} (ho : o.op = .mapEntry t x k) (hx : a.eval x = vx) (hk : a.eval k = vk) (hr : (Instr.mapEntry t vx vk).run Tryd.prog w = .ok r w1) : (execOp a.eval o).run Tryd.prog w = .ok (.value r) w1 := by
  subst hx hk
  simp [execOp, ho, hr, Result.andThen]
theorem exec_estore {t : TypeId} {o : Oper} {a : Act} {w w1 : World} {x k v : Operand} {vx vk vv : Value} (ho : o.op = .entryStore t x k v) (hx : a.eval x = vx) (hk : a.eval k = vk) (hv : a.eval v = vv) (hr : (Instr.entryStore t vx vk vv).run Tryd.prog w = .ok () w1) : (execOp a.eval o).run Tryd.prog w = .ok .skip w1 := by
  subst hx hk hv
  simp [execOp, ho, hr, Result.andThen]
theorem exec_lookup {t : TypeId} {o : Oper} {a : Act} {w w1 : World} {x k : Operand} {c : Bool} {vx vk r : Value} (ho : o.op = .lookup t x k c) (hx : a.eval x = vx) (hk : a.eval k = vk) (hr : (Instr.lookup t vx vk c).run Tryd.prog w = .ok r w1) : (execOp a.eval o).run Tryd.prog w = .ok (.value r) w1 := by
  subst hx hk
  simp [execOp, ho, hr, Result.andThen]
end Go.Proofs.YtigllpegaljkmaaDoor
