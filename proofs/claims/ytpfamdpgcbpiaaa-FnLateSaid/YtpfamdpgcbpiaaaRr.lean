import Derived.Test.YtpfamdpgcbpiaaaRq
namespace Go.Proofs.Ytpfamdpgcbpiaaa
open Go.RowKit
set_option linter.unusedVariables false
set_option linter.unusedSimpArgs false

theorem Keep.block {n k : Nat} {a b : World} (h : Keep n a b) (hk : ¬ k = n) (hl : k < a.heap.size) : b.heap[k]? = a.heap[k]? := h.heap hk hl
theorem Keep.later {n : Nat} {a b : World} (hn : n ≤ a.heap.size) (h : Below a.heap.size a b) : Keep n a b := ⟨h.mono hn, fun k _ hl => h.block k hl⟩

/-- a stream being drawn: the cursor at n, the stream's box at sb, its lists its own. -/
structure Ds (n : Nat) (W X : World) (sb : Nat) (f : Int) (s1 : Option Addr) (c1 : Nat) (s2 : Option Addr) (c2 : Nat) (O N : List V4) : Prop where
  kp : Keep n W X
  cu : Cur n X
  nw : n < W.heap.size
  sw : W.heap.size ≤ sb
  k : Blk X sb #[.int .i64 f, .slice s1 O.length c1, .slice s2 N.length c2] 26
  o : OV X (sb + 1) (.slice s1 O.length c1) O
  m : OV X (sb + 1) (.slice s2 N.length c2) N
  ap : Ap (.slice s1 O.length c1) (.slice s2 N.length c2)
  okO : ∀ v ∈ O, okV v
  okN : ∀ v ∈ N, okV v
section
variable {n : Nat} {W X : World} {sb : Nat} {f : Int} {s1 : Option Addr} {c1 : Nat} {s2 : Option Addr} {c2 : Nat} {O N : List V4}
theorem Ds.call {Y : World} (h : Ds n W X sb f s1 c1 s2 c2 O N) (hk : Keep n X Y) (hc : Cur n Y) : Ds n W Y sb f s1 c1 s2 c2 O N := by
  have h1 := h.nw
  have h2 := h.sw
  have h3 := h.k.lt
  exact ⟨h.kp.trans hk, hc, h.nw, h.sw, h.k.same (hk.block (by omega) h3), h.o.same (fun g hg hl => hk.block (by have := (h.o.lt g hg).1; omega) hl), h.m.same (fun g hg hl => hk.block (by have := (h.m.lt g hg).1; omega) hl), h.ap, h.okO, h.okN⟩
theorem Ds.alloc (h : Ds n W X sb f s1 c1 s2 c2 O N) (b : Obj) : Ds n W (X.alloc b) sb f s1 c1 s2 c2 O N := by
  have h1 := h.cu.lt
  exact h.call ((Keep.refl n X).alloc (Nat.le_of_lt h1) b) (h.cu.alloc b)
/-- an append onto Old, and the store into its field. -/
theorem Ds.old {Y : World} (h : Ds n W X sb f s1 c1 s2 c2 O N) {s' : Option Addr} {c' : Nat} {M : List V4} (hO : OV Y (sb + 1) (.slice s' M.length c') M) (hg : X.grownBy Y (Value.slice s1 O.length c1).ownBlock) (hn : Near X (.slice s1 O.length c1) (.slice s' M.length c')) (okM : ∀ v ∈ M, okV v) :
    Ds n W (Y.setCell ⟨sb, 1, none⟩ (.slice s' M.length c')) sb f s' c' s2 c2 M N := by
  have h1 := h.nw
  have h2 := h.sw
  have h3 := h.k.lt
  have h4 := h.cu.lt
  have hb := fun q hq => (h.o.lt q hq).1
  have kY := h.k.kept' hg (fun e => by have := hb _ e; omega)
  have bY : Below (n + 1) X Y := (Below.refl _ _).grown hg (by omega) (fun q hq => by have := hb q hq; omega)
  have kp : Keep n W Y := ⟨h.kp.1.trans (bY.mono (by omega)), fun k hk hl => (hg.block k (by omega) (fun e => by have := hb k e.symm; omega)).trans (h.kp.2 k hk hl)⟩
  have KS : Kept (sb + 1) Y (Y.setCell ⟨sb, 1, none⟩ (.slice s' M.length c')) := Kept.set Y (by simp) _
  have mY : OV Y (sb + 1) (.slice s2 N.length c2) N := h.m.grown hg (fun q hq e => h.ap q e hq)
  refine ⟨kp.setNew (by simpa using h2) (by simp; omega) _, (h.cu.below bY).set (by simp; omega) _, h.nw, h.sw, kY.set 1 _, hO.kept KS, mY.kept KS, ?_, okM, h.okN⟩
  intro q e1 e2
  rcases hn q e1 with e | e
  · exact h.ap q e e2
  · have := (h.m.lt q e2).2; omega
/-- .. onto New. -/
theorem Ds.new {Y : World} (h : Ds n W X sb f s1 c1 s2 c2 O N) {s' : Option Addr} {c' : Nat} {M : List V4} (hO : OV Y (sb + 1) (.slice s' M.length c') M) (hg : X.grownBy Y (Value.slice s2 N.length c2).ownBlock) (hn : Near X (.slice s2 N.length c2) (.slice s' M.length c')) (okM : ∀ v ∈ M, okV v) :
    Ds n W (Y.setCell ⟨sb, 2, none⟩ (.slice s' M.length c')) sb f s1 c1 s' c' O M := by
  have h1 := h.nw
  have h2 := h.sw
  have h3 := h.k.lt
  have h4 := h.cu.lt
  have hb := fun q hq => (h.m.lt q hq).1
  have kY := h.k.kept' hg (fun e => by have := hb _ e; omega)
  have bY : Below (n + 1) X Y := (Below.refl _ _).grown hg (by omega) (fun q hq => by have := hb q hq; omega)
  have kp : Keep n W Y := ⟨h.kp.1.trans (bY.mono (by omega)), fun k hk hl => (hg.block k (by omega) (fun e => by have := hb k e.symm; omega)).trans (h.kp.2 k hk hl)⟩
  have KS : Kept (sb + 1) Y (Y.setCell ⟨sb, 2, none⟩ (.slice s' M.length c')) := Kept.set Y (by simp) _
  have oY : OV Y (sb + 1) (.slice s1 O.length c1) O := h.o.grown hg (fun q hq e => h.ap q hq e)
  refine ⟨kp.setNew (by simpa using h2) (by simp; omega) _, (h.cu.below bY).set (by simp; omega) _, h.nw, h.sw, kY.set 2 _, oY.kept KS, hO.kept KS, ?_, h.okO, okM⟩
  intro q e1 e2
  rcases hn q e2 with e | e
  · exact h.ap q e1 e
  · have := (h.o.lt q e1).2; omega
theorem Ds.drew (h : Ds n W X sb f s1 c1 s2 c2 O N) : Ds n W X.drew sb f s1 c1 s2 c2 O N := h.call ((Keep.refl n X).drew) h.cu.drew
end
theorem step_append_near {ops : Array Oper} {o : Oper} {a : Act} {w : World} {K : Act → World → Prop} {Q : Exit → Act → World → Prop} {E : Prop}
    (hg : o.guard = none) (s x : Operand) (hop : o.op = Op.call { callee := Callee.builtin Builtin.append, args := #[s, x], argTypes := #[24, 24] })
    (Bs : Nat) (s0 : Option Addr) (c0 : Nat) (L : List V4) (hs : a.eval s = .slice s0 L.length c0) (hv : OV w Bs (.slice s0 L.length c0) L) (Bu : Nat) (t : Option Addr) (d : Nat) (M : List V4) (hx : a.eval x = .slice t M.length d) (hu : OV w Bu (.slice t M.length d) M) (okM : ∀ v ∈ M, okV v) (R : List V4) (hR : L ++ M = R) (hl : L.length + M.length ≤ 4194304) (hB : Bs ≤ w.heap.size)
    (hK : ∀ s' c' w', OV w' Bs (.slice s' R.length c') R → w.grownBy w' (Value.slice s0 L.length c0).ownBlock → Near w (.slice s0 L.length c0) (.slice s' R.length c') → K (a.put o.dst (.slice s' R.length c')) w') :
    if Region.wanted o (yielded ops a.tmps) = true then Oper.wp Try.prog o a w K Q else E := by
  have hw : Region.wanted o (yielded ops a.tmps) = true := by simp [Region.wanted, hg]
  rw [if_pos hw]
  obtain ⟨s', c', w', hrun, h1, h2, h3⟩ := append_run w o.type Bs s0 c0 L hv Bu t d M hu okM hl hB
  rw [hR] at hrun h1 h3
  unfold Oper.wp
  simp [execOp, hop, resolve, invoke, builtin, hs, hx, hrun, Result.andThen]
  exact hK _ _ w' h1 h2 h3
end Go.Proofs.Ytpfamdpgcbpiaaa
