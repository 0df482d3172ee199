import Derived.Test.YtgiclehfhjjalaaRl
namespace Go.Proofs.Ytgiclehfhjjalaa
open Go.RowKit
set_option linter.unusedVariables false
set_option linter.unusedSimpArgs false

theorem Code.later' {w w' : World} {sl : Option Addr} {len : Nat} (h : Code w sl len) (hb : Below w.heap.size w w') : Code w' sl len := by
  rcases h with h | ⟨pb, po, e, hp, hc⟩
  · exact Or.inl h
  · refine Or.inr ⟨pb, po, e, Nat.lt_of_lt_of_le hp hb.size, fun j hj => ?_⟩
    obtain ⟨c, c1, c2, h3⟩ := hc j hj
    exact ⟨c, c1, c2, (hb.cell (p := ⟨pb, po + j, none⟩) hp).trans h3⟩

/-- the stream in its box, what was sent and what was heard. -/
structure Hr (w X : World) (f : Int) (s1 : Option Addr) (c1 : Nat) (s2 : Option Addr) (c2 : Nat) (O N : List V4) (v5 : Value) (sent : List V4) (v6 : Value) (heard : List V4) : Prop where
  l : Below w.heap.size w X
  k : Blk X w.heap.size #[.int .i64 f, .slice s1 O.length c1, .slice s2 N.length c2] 26
  o : OV X (w.heap.size + 1) (.slice s1 O.length c1) O
  n : OV X (w.heap.size + 1) (.slice s2 N.length c2) N
  s : OV X (w.heap.size + 1) v5 sent
  h : OV X (w.heap.size + 1) v6 heard
  a1 : Ap v5 v6
  a2 : Ap v5 (.slice s1 O.length c1)
  a3 : Ap v5 (.slice s2 N.length c2)
  a4 : Ap v6 (.slice s1 O.length c1)
  a5 : Ap v6 (.slice s2 N.length c2)
section
variable {w X : World} {f : Int} {s1 : Option Addr} {c1 : Nat} {s2 : Option Addr} {c2 : Nat} {O N : List V4} {v5 : Value} {sent : List V4} {v6 : Value} {heard : List V4}
theorem Hr.later {Y : World} (h : Hr w X f s1 c1 s2 c2 O N v5 sent v6 heard) (hb : Below X.heap.size X Y) : Hr w Y f s1 c1 s2 c2 O N v5 sent v6 heard :=
  ⟨bl_trans h.l hb, h.k.later hb, h.o.later hb, h.n.later hb, h.s.later hb, h.h.later hb, h.a1, h.a2, h.a3, h.a4, h.a5⟩
theorem Hr.put {Y : World} (h : Hr w X f s1 c1 s2 c2 O N v5 sent v6 heard) (hb : Below X.heap.size X Y) {f' : Int} {t1 : Option Addr} {e1 : Nat} {t2 : Option Addr} {e2 : Nat} {O' N' : List V4} (oa : OV Y X.heap.size (.slice t1 O'.length e1) O') (on : OV Y X.heap.size (.slice t2 N'.length e2) N') :
    Hr w (((Y.setCell ⟨w.heap.size, 0, none⟩ (.int .i64 f')).setCell ⟨w.heap.size, 1, none⟩ (.slice t1 O'.length e1)).setCell ⟨w.heap.size, 2, none⟩ (.slice t2 N'.length e2)) f' t1 e1 t2 e2 O' N' v5 sent v6 heard := by
  have hk := h.k.lt
  have hY := (h.k.later hb).lt
  have hS := fun q hq => (h.s.lt q hq).2
  have hH := fun q hq => (h.h.lt q hq).2
  have hA := fun q hq => (oa.lt q hq).1
  have hN := fun q hq => (on.lt q hq).1
  exact ⟨(((bl_trans h.l hb).setCell (Nat.le_refl _) _).setCell (Nat.le_refl _) _).setCell (Nat.le_refl _) _,
    (((h.k.later hb).set 0 (.int .i64 f')).set 1 (.slice t1 O'.length e1)).set 2 (.slice t2 N'.length e2),
    (oa.mono (by omega)).kept (keptUnder hY _ _ _), (on.mono (by omega)).kept (keptUnder hY _ _ _), (h.s.later hb).kept (keptUnder hY _ _ _), (h.h.later hb).kept (keptUnder hY _ _ _), h.a1,
    fun q e1 e2 => by have := hS q e1; have := hA q e2; omega, fun q e1 e2 => by have := hS q e1; have := hN q e2; omega, fun q e1 e2 => by have := hH q e1; have := hA q e2; omega, fun q e1 e2 => by have := hH q e1; have := hN q e2; omega⟩
theorem Hr.appS {Y : World} (h : Hr w X f s1 c1 s2 c2 O N v5 sent v6 heard) {v' : Value} {M : List V4} (hO : OV Y (w.heap.size + 1) v' M) (hg : X.grownBy Y v5.ownBlock) (hn : Near X v5 v') : Hr w Y f s1 c1 s2 c2 O N v' M v6 heard := by
  have hb := fun q hq => (h.s.lt q hq).1
  have fresh : ∀ {u : Value} {L : List V4}, OV X (w.heap.size + 1) u L → Ap v5 u → Ap v' u := fun hu ha q e1 e2 => by
    rcases hn q e1 with e | e
    · exact ha q e e2
    · have := (hu.lt q e2).2; omega
  exact ⟨h.l.grown hg h.l.size (fun q hq => by have := hb q hq; omega), h.k.kept' hg (fun e => by have := hb _ e; omega), h.o.grown hg (fun q hq e => h.a2 q e hq), h.n.grown hg (fun q hq e => h.a3 q e hq), hO, h.h.grown hg (fun q hq e => h.a1 q e hq),
    fresh h.h h.a1, fresh h.o h.a2, fresh h.n h.a3, h.a4, h.a5⟩
theorem Hr.appH {Y : World} (h : Hr w X f s1 c1 s2 c2 O N v5 sent v6 heard) {v' : Value} {M : List V4} (hO : OV Y (w.heap.size + 1) v' M) (hg : X.grownBy Y v6.ownBlock) (hn : Near X v6 v') : Hr w Y f s1 c1 s2 c2 O N v5 sent v' M := by
  have hb := fun q hq => (h.h.lt q hq).1
  have fresh : ∀ {u : Value} {L : List V4}, OV X (w.heap.size + 1) u L → Ap v6 u → Ap v' u := fun hu ha q e1 e2 => by
    rcases hn q e1 with e | e
    · exact ha q e e2
    · have := (hu.lt q e2).2; omega
  have ha1 : Ap v6 v5 := fun q e1 e2 => h.a1 q e2 e1
  have hf := fresh h.s ha1
  exact ⟨h.l.grown hg h.l.size (fun q hq => by have := hb q hq; omega), h.k.kept' hg (fun e => by have := hb _ e; omega), h.o.grown hg (fun q hq e => h.a4 q e hq), h.n.grown hg (fun q hq e => h.a5 q e hq), h.s.grown hg (fun q hq e => h.a1 q hq e), hO,
    fun q e1 e2 => hf q e2 e1, h.a2, h.a3, fresh h.o h.a4, fresh h.n h.a5⟩
end

/-- what a reader that has read up to cur has heard. -/
structure Pu (i : Nat) (f cur : Int) (O N sent heard : List V4) (m q : Nat) : Prop where
  f : f = (m : Int)
  c : cur = (q : Int)
  d : O ++ N = sent.drop m
  mq : m ≤ q
  ql : q ≤ sent.length
  h : heard = sent.take q
  i : sent.length ≤ i
  v : ∀ x ∈ sent, vofB 1 x = true ∧ okV x
section
variable {i : Nat} {f cur : Int} {O N sent heard : List V4} {m q : Nat}
theorem Pu.len (p : Pu i f cur O N sent heard m q) : O.length + N.length + m = sent.length := by
  have h1 := congrArg List.length p.d
  have h2 := p.mq
  have h3 := p.ql
  simp at h1; omega
theorem Pu.ok (p : Pu i f cur O N sent heard m q) : ∀ x ∈ O ++ N, vofB 1 x = true ∧ okV x := fun x hx => p.v x (by rw [p.d] at hx; exact List.mem_of_mem_drop hx)
theorem Pu.send (p : Pu i f cur O N sent heard m q) {x : V4} (hx : vofB 1 x = true ∧ okV x) : Pu (i + 1) f cur O (N ++ [x]) (sent ++ [x]) heard m q := by
  have h2 := p.mq
  have h3 := p.ql
  refine ⟨p.f, p.c, ?_, p.mq, by simp; omega, ?_, by have := p.i; simp; omega, fun y hy => (List.mem_append.1 hy).elim (p.v y) (fun e => by simp at e; subst e; exact hx)⟩
  · rw [← List.append_assoc, p.d, List.drop_append_of_le_length (by omega)]
  · rw [p.h, List.take_append_of_le_length (by omega)]
theorem Pu.snB (p : Pu i f cur O N sent heard m q) (hi : i ≤ 50) {x : V4} (hx : vofB 1 x = true) : snB 1 f O N x = true := by
  have h1 := p.len
  have h2 := p.i
  have h3 := p.f
  have hall : (O ++ N).all (vofB 1) = true := List.all_eq_true.2 fun y hy => (p.ok y hy).1
  refine sn_yes ?_ hx (by omega)
  rw [stB_t (by simp; omega) (by omega) (by omega)]
  exact hall
theorem Pu.okF (p : Pu i f cur O N sent heard m q) (hi : i ≤ 50) : okF f = true := by
  have h1 := p.len
  have h2 := p.i
  have h3 := p.f
  simp [Go.Proofs.Ytgiclehfhjjalaa.okF]; omega
theorem Pu.unL (p : Pu i f cur O N sent heard m q) (hi : i ≤ 50) : unL cur f O N = sent.drop q := by
  have h1 := p.mq
  have h2 := p.f
  have h3 := p.c
  unfold Go.Proofs.Ytgiclehfhjjalaa.unL
  rw [if_pos (p.okF hi), p.d, List.drop_drop]
  congr 1; omega
theorem Pu.unN (p : Pu i f cur O N sent heard m q) (hi : i ≤ 50) : unN f O N = (sent.length : Int) := by
  have h1 := p.len
  have h2 := p.f
  unfold Go.Proofs.Ytgiclehfhjjalaa.unN
  rw [if_pos (p.okF hi)]; omega
theorem Pu.unM (p : Pu i f cur O N sent heard m q) (hi : i ≤ 50) : unM cur f = 0 := by
  have h1 := p.mq
  have h2 := p.f
  have h3 := p.c
  unfold Go.Proofs.Ytgiclehfhjjalaa.unM
  rw [if_pos (p.okF hi)]
  by_cases e : f < cur
  · exact mis2 (by omega) e
  · rw [mis3 (by omega) e]; omega
theorem Pu.read (p : Pu i f cur O N sent heard m q) : Pu i f (sent.length : Int) O N sent (heard ++ sent.drop q) m sent.length :=
  ⟨p.f, rfl, p.d, by have := p.mq; have := p.ql; omega, Nat.le_refl _, by rw [p.h, List.take_append_drop, List.take_length], p.i, p.v⟩
theorem Pu.turn (p : Pu i f cur O N sent heard m sent.length) (hi : i ≤ 50) : Pu i (fb f O.length) cur N [] sent heard (m + O.length) sent.length := by
  have h1 := p.len
  have h2 := p.f
  have h3 := p.i
  refine ⟨?_, p.c, ?_, by omega, p.ql, p.h, p.i, p.v⟩
  · unfold fb; rw [if_pos (by omega)]; omega
  · rw [List.append_nil, ← List.drop_drop, ← p.d, List.drop_left]
theorem Pu.next (p : Pu i f cur O N sent heard m q) : Pu (i + 1) f cur O N sent heard m q := ⟨p.f, p.c, p.d, p.mq, p.ql, p.h, by have := p.i; omega, p.v⟩
end
end Go.Proofs.Ytgiclehfhjjalaa
