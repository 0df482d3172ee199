import Derived.Test.YtmoohgafljepdaaDoorN42
namespace Go.Proofs.YtmoohgafljepdaaDoor
open Go.RowKit Go.Maps Go.WideMaps
set_option linter.unusedVariables false
set_option linter.unusedSimpArgs false
set_option maxRecDepth 100000

theorem Blk.noMap {w : World} {b k n : Nat} {c : Array Value} {t : TypeId} {f : Int × Int → Option Value} (h : Blk w k c t) (hm : PM w b n f) : ¬ some b = some k := by
  obtain ⟨D, ⟨es, clock, hb, _⟩, _⟩ := hm
  intro e
  injection e with e
  subst e
  unfold Blk at h
  rw [hb] at h
  simp at h
/-- what is looked at in the region. -/
def RS (b h9 h11 h12 : Nat) (x0 x1 y0 y1 p1 p2 : Int) (u : Value) (W : World) : Prop :=
  Blk W h9 #[.int .u16 x0, .int .u16 x1] 66 ∧ Blk W h11 #[.int .i64 p1, .int .i64 p2] 38 ∧ Blk W h12 #[.int .u16 y0, .int .u16 y1] 66 ∧
    (Instr.lookup 68 (.map (some b)) (.agg #[.int .u16 x0, .int .u16 x1]) false).run Tryd.prog W = .ok u W
section
variable {w g g' : World} {B E b hp h9 h11 h12 : Nat} {P : Array Value} {y0 y1 p1 p2 : Int} {vM u : Value} {M R : List (Int × Int)} {Q : List Way} {f : Int × Int → Option Value} {A A2 : List Int}
theorem Wk.held (h : Wk w g B E b hp h9 h11 h12 P (nb (fB A)) (nb (fD A)) y0 y1 p1 p2 vM M Q f) (fu : f (pkey A) = some u) : RS b h9 h11 h12 (nb (fB A)) (nb (fD A)) y0 y1 p1 p2 u g := by
  refine ⟨h.b9, h.b11, h.b12, ?_⟩
  have := h.wf.map.look1 (pkey_b A)
  rw [fu] at this
  exact this
theorem Wk.way {x0 x1 : Int} (h : Wk w g B E b hp h9 h11 h12 P x0 x1 y0 y1 p1 p2 vM M Q f) (hq : (A, R) ∈ Q) (fu : f (pkey A) = some u) : MRow g B u R := by
  obtain ⟨u', e1, e2, _⟩ := h.wf.way _ hq
  rw [fu] at e1
  injection e1 with e1
  subst e1
  exact e2
theorem Wk.store {n : Nat} {vC : Value} {MC : List (Int × Int)} (h : Wk w g B E b hp h9 h11 h12 P (nb (fB A)) (nb (fD A)) (nb (fB A2)) (nb (fD A2)) p1 p2 vM M Q f) (hb : B ≤ b) (hQ : QOk n Q) (hn : n ≤ 16) (hl : Q.length < maxLen) (hA2 : Thr A2) (la2 : A2.length = n) (hno : (Q.any fun q => decide (q.1 = A2)) = false) (hq : (A, R) ∈ Q) (fu : f (pkey A) = some u) (hu : MRow g E vC MC) :
    ∃ (z : Value) (st : Nat) (w1 w3 : World), (Instr.mapEntry 68 (.map (some b)) (.agg #[.int .u16 (nb (fB A2)), .int .u16 (nb (fD A2))])).run Tryd.prog g = .ok (.tuple #[z, goInt st]) w1 ∧ RS b h9 h11 h12 (nb (fB A)) (nb (fD A)) (nb (fB A2)) (nb (fD A2)) p1 p2 u w1 ∧
      (Instr.entryStore 68 (.map (some b)) (goInt st) vC).run Tryd.prog w1 = .ok () w3 ∧ RS b h9 h11 h12 (nb (fB A)) (nb (fD A)) (nb (fB A2)) (nb (fD A2)) p1 p2 u w3 ∧
      WM w3 B b (Q ++ [(A2, MC)]) ∧ g.mapTurned w3 b ∧ Below B w w3 ∧ Blk w3 hp P 54 ∧ Blk w3 h9 #[.int .u16 (nb (fB A)), .int .u16 (nb (fD A))] 66 ∧ MRow w3 B vM M := by
  have hne : ¬ pkey A = pkey A2 := fun e => by
    have e := pkey_inj (hQ.st _ hq).1 hA2 (hQ.st _ hq).2.1 la2 hn e
    exact List.any_eq_false.1 hno _ hq (by simp only [decide_eq_true_eq]; exact e)
  have hw := h.wf.map
  obtain ⟨st, w1, r1, t1, hst⟩ := hw.entry hl (pkey_b A2)
  obtain ⟨w3, r3, p3, t3⟩ := hst w1 vC rfl
  obtain ⟨n', f', q1, q2⟩ := hw.entryW hl (pkey_b A2) r1
  have t := t1.trans t3
  have l1 : (Instr.lookup 68 (.map (some b)) (.agg #[.int .u16 (nb (fB A)), .int .u16 (nb (fD A))]) false).run Tryd.prog w1 = .ok u w1 := by
    have := q1.look1 (pkey_b A)
    rw [q2 _ hne, fu] at this
    exact this
  have l3 : (Instr.lookup 68 (.map (some b)) (.agg #[.int .u16 (nb (fB A)), .int .u16 (nb (fD A))]) false).run Tryd.prog w3 = .ok u w3 := by
    have := p3.look1 (pkey_b A)
    simp only [pmSet, hne, if_false, fu] at this
    exact this
  refine ⟨_, st, w1, w3, r1, ⟨h.b9.keptO t1.grown (h.b9.noMap hw), h.b11.keptO t1.grown (h.b11.noMap hw), h.b12.keptO t1.grown (h.b12.noMap hw), l1⟩, r3, ⟨h.b9.keptO t.grown (h.b9.noMap hw), h.b11.keptO t.grown (h.b11.noMap hw), h.b12.keptO t.grown (h.b12.noMap hw), l3⟩, ?_, t, ?_, h.bp.keptO t.grown (h.bp.noMap hw), h.b9.keptO t.grown (h.b9.noMap hw), h.mm.turned hw t⟩
  · refine ⟨pmSet f (pkey A2) vC, by rw [List.length_append]; exact p3, fun q hq => ?_, fun e he hall => ?_⟩
    · rcases List.mem_append.1 hq with hq | hq
      · obtain ⟨x, e1, e2, _⟩ := h.wf.way q hq
        have hne : ¬ pkey q.1 = pkey A2 := fun e => by
          have e := pkey_inj (hQ.st q hq).1 hA2 (hQ.st q hq).2.1 la2 hn e
          have := List.any_eq_false.1 hno q hq
          simp [e] at this
        exact ⟨x, by simp [pmSet, hne, e1], e2.turned hw t⟩
      · simp only [List.mem_singleton] at hq
        subst hq
        exact ⟨vC, by simp [pmSet], (hu.mono h.be).turned hw t⟩
    · have hne : ¬ e = pkey A2 := fun q => hall (A2, MC) (by simp) q.symm
      simp only [pmSet, hne, if_false]
      exact h.wf.non e he fun q hq => hall q (by simp [hq])
  · exact h.bl.grown t.grown (Nat.le_trans h.be h.sz) (fun q hq => by cases hq; exact hb)
end
theorem step_skip {P : Program} {ops : Array Oper} {o : Oper} {a : Act} {w w' : World} {K : Act → World → Prop} {Q : Exit → Act → World → Prop} {E : Prop} (hg : o.guard = none) (hd : o.dst = none) (hr : (execOp a.eval o).run P w = .ok .skip w') (hK : K (a.put none undef) w') :
    if Region.wanted o (yielded ops a.tmps) = true then Oper.wp P o a w K Q else E := by
  have hw : Region.wanted o (yielded ops a.tmps) = true := by simp [Region.wanted, hg]
  rw [if_pos hw]
  unfold Oper.wp
  rw [← hd] at hK
  simp [hr]
  exact hK
theorem exec_entry {t : TypeId} {o : Oper} {a : Act} {w w1 : World} {x k : Operand} {vx vk r : Value} (ho : o.op = .mapEntry t x k) (hx : a.eval x = vx) (hk : a.eval k = vk) (hr : (Instr.mapEntry t vx vk).run Tryd.prog w = .ok r w1) : (execOp a.eval o).run Tryd.prog w = .ok (.value r) w1 := by
  subst hx hk
  simp [execOp, ho, hr, Result.andThen]
theorem exec_estore {t : TypeId} {o : Oper} {a : Act} {w w1 : World} {x k v : Operand} {vx vk vv : Value} (ho : o.op = .entryStore t x k v) (hx : a.eval x = vx) (hk : a.eval k = vk) (hv : a.eval v = vv) (hr : (Instr.entryStore t vx vk vv).run Tryd.prog w = .ok () w1) : (execOp a.eval o).run Tryd.prog w = .ok .skip w1 := by
  subst hx hk hv
  simp [execOp, ho, hr, Result.andThen]
theorem exec_lookup {t : TypeId} {o : Oper} {a : Act} {w w1 : World} {x k : Operand} {c : Bool} {vx vk r : Value} (ho : o.op = .lookup t x k c) (hx : a.eval x = vx) (hk : a.eval k = vk) (hr : (Instr.lookup t vx vk c).run Tryd.prog w = .ok r w1) : (execOp a.eval o).run Tryd.prog w = .ok (.value r) w1 := by
  subst hx hk
  simp [execOp, ho, hr, Result.andThen]
end Go.Proofs.YtmoohgafljepdaaDoor
