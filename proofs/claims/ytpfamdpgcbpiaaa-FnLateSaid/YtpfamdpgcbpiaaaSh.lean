import Derived.Test.YtpfamdpgcbpiaaaSg
import Derived.Test.YtpfamdpgcbpiaaaSk
namespace Go.Proofs.Ytpfamdpgcbpiaaa
open Go.RowKit
set_option linter.unusedVariables false
set_option linter.unusedSimpArgs false

theorem Blk.kept' {w w' : World} {n : Nat} {c : Array Value} {t : TypeId} {r : Option Nat} (h : Blk w n c t) (hg : w.grownBy w' r) (hr : ¬ r = some n) : Blk w' n c t := by
  unfold Blk; rw [hg.block n h.lt (fun e => hr e.symm)]; exact h
theorem Blk.drew {w : World} {n : Nat} {c : Array Value} {t : TypeId} (h : Blk w n c t) : Blk w.drew n c t := h
theorem own0 {w : World} {B n : Nat} (h : Blk w n #[] 64) (hB : B ≤ n) : OV w B (.slice (some ⟨n, 0, none⟩) 0 0) [] :=
  ⟨by simp, Or.inr ⟨n, 0, #[], rfl, hB, h, Nat.le_refl _, by unfold maxLen; omega, by simp, by simp⟩⟩

theorem step_append_newv {ops : Array Oper} {o : Oper} {a : Act} {w : World} {K : Act → World → Prop} {Q : Exit → Act → World → Prop} {E : Prop}
    (hg : o.guard = none) (s x : Operand) (hop : o.op = Op.call { callee := Callee.builtin Builtin.append, args := #[s, x], argTypes := #[24, 24] })
    (n : Nat) (hs : a.eval s = .slice (some ⟨n, 0, none⟩) 0 0) (hB : Blk w n #[] 64)
    (pb po c : Nat) (G : List V4) (hx : a.eval x = .slice (some ⟨pb, po, none⟩) G.length c) (B0 : Nat) (hG : Els 4 cVal w B0 (some ⟨pb, po, none⟩) G) (hl : G.length ≤ 1048576)
    (hK : ∀ g c' w', OV w' 0 (.slice (some ⟨g, 0, none⟩) G.length c') G → w.grownBy w' (some n) → (g = n ∨ w.heap.size ≤ g) → g < w'.heap.size → K (a.put o.dst (.slice (some ⟨g, 0, none⟩) G.length c')) w') :
    if Region.wanted o (yielded ops a.tmps) = true then Oper.wp Try.prog o a w K Q else E := by
  have hw : Region.wanted o (yielded ops a.tmps) = true := by simp [Region.wanted, hg]
  rw [if_pos hw]
  obtain ⟨i0, hi, hz0, hz1, hz2⟩ := info_parts Try.infoV
  by_cases he : G = []
  · subst he
    obtain ⟨w', hrun, r1, r2⟩ := run_append_fits (P := Try.prog) w 0 24 o.type 64 i0 4 Try.underlying24 hi hz1 n 0 0 [] (own0 hB (Nat.zero_le _)) ⟨pb, po, none⟩ 0 c [] rfl (by simp) (by simp) (by omega)
    have hx' : a.eval x = .slice (some ⟨pb, po, none⟩) 0 c := hx
    unfold Oper.wp
    simp [execOp, hop, resolve, invoke, builtin, hs, hx', hrun, Result.andThen]
    exact hK n 0 w' r1 r2 (Or.inl rfl) (World.ownsRow.lt r1 n rfl).2
  · have hpos : 0 < G.length := List.length_pos_iff.2 he
    obtain ⟨v', w', hrun, r1, r2⟩ := run_append_arg_grows (P := Try.prog) w 24 o.type 64 i0 (.agg #[.int .i64 0, .int .i64 0, .float .f64 0, .float .f64 0]) 4 32 Try.underlying24 hi hz0 hz1 hz2 rfl (by decide) ⟨n, 0, none⟩ 0 0 [] rfl (by simp) ⟨pb, po, none⟩ G.length c (G.flatMap vcells) (flat_len vcells_len G) (els_some hG) (by omega) (by unfold maxLen; omega) (by omega)
    rw [Nat.zero_add, List.nil_append] at r1
    rcases r1.2 with ⟨_, h0⟩ | ⟨g, cap, cur, rfl, hb, hgg, r⟩
    · omega
    unfold Oper.wp
    simp [execOp, hop, resolve, invoke, builtin, hs, hx, hrun, Result.andThen]
    exact hK g cap w' (OV.mono r1 (Nat.zero_le _)) ⟨r2.os, r2.tape, r2.output, r2.size, fun k hk _ => r2.block k hk (by simp)⟩ (Or.inr hb) (World.ownsRow.lt r1 g rfl).2

/-- the boxes of an argument and of a result, both Ents. -/
structure St (w : World) (A : Array Value) (X : World) : Prop where
  l : Below w.heap.size w X
  k : Blk X w.heap.size A 26
  j : Blk X (w.heap.size + 1) #[.int .i64 0, .slice none 0 0, .slice none 0 0] 26
  s : w.heap.size + 2 ≤ X.heap.size
theorem St.alloc {w X : World} {A : Array Value} (h : St w A X) (o : Obj) : St w A (X.alloc o) := ⟨bl_alloc h.l o, h.k.alloc o, h.j.alloc o, by simp; have := h.s; omega⟩
theorem St.drew {w X : World} {A : Array Value} (h : St w A X) : St w A X.drew := ⟨bl_drew h.l, h.k, h.j, h.s⟩
theorem St.grow {w X Y : World} {A : Array Value} {n : Nat} (h : St w A X) (hg : X.grownBy Y (some n)) (hn : w.heap.size + 2 ≤ n) : St w A Y :=
  ⟨h.l.grown hg h.l.size (fun k e => by simp at e; omega), h.k.kept' hg (by simp; omega), h.j.kept' hg (by simp; omega), Nat.le_trans h.s hg.size⟩

/-- an empty block that is new. -/
structure New (w : World) (X : World) (n : Nat) : Prop where
  b : Blk X n #[] 64
  s : w.heap.size + 2 ≤ n
theorem New.new {w X : World} {A : Array Value} (h : St w A X) : New w (X.alloc (.cells #[] 64)) X.heap.size := ⟨Blk.new _ _ _, h.s⟩
theorem New.new1 {w X : World} {A : Array Value} (h : St w A X) (o : Obj) : New w ((X.alloc o).alloc (.cells #[] 64)) (X.heap.size + 1) := ⟨Blk.new' _ _ _ (by simp), by have := h.s; omega⟩
theorem New.alloc {w X : World} {n : Nat} (h : New w X n) (o : Obj) : New w (X.alloc o) n := ⟨h.b.alloc o, h.s⟩
theorem New.drew {w X : World} {n : Nat} (h : New w X n) : New w X.drew n := ⟨h.b, h.s⟩
theorem New.kept {w X Y : World} {n m : Nat} (h : New w X n) (hg : X.grownBy Y (some m)) (hn : ¬ m = n) : New w Y n := ⟨h.b.kept' hg (by simp; exact hn), h.s⟩

theorem OV.alloc {w : World} {B : Nat} {v : Value} {G : List V4} (h : OV w B v G) (o : Obj) : OV (w.alloc o) B v G := h.later (bl_alloc (Below.refl _ w) o)
theorem OV.grown {w w' : World} {B : Nat} {v : Value} {G : List V4} {r : Option Nat} (h : OV w B v G) (hg : w.grownBy w' r) (hn : ∀ k, v.ownBlock = some k → ¬ r = some k) : OV w' B v G :=
  h.same fun g hg' hl => hg.block g hl (fun e => hn g hg' e.symm)
theorem grown_setCell (w : World) (n o : Nat) (u : Value) : w.grownBy (w.setCell ⟨n, o, none⟩ u) (some n) :=
  ⟨rfl, rfl, rfl, by simp, fun k hk hne => Below.heap_setCell w ⟨n, o, none⟩ u k (by dsimp only; exact fun e => hne (by rw [e]))⟩
theorem OV.other {w : World} {B : Nat} {v : Value} {G : List V4} (h : OV w B v G) {n : Nat} (hn : ¬ v.ownBlock = some n) (o : Nat) (u : Value) : OV (w.setCell ⟨n, o, none⟩ u) B v G :=
  h.grown (grown_setCell w n o u) (fun k hk e => hn (by cases e; exact hk))
theorem OV.keptS {w w' : World} {B g n len c : Nat} {G : List V4} (h : OV w B (.slice (some ⟨g, 0, none⟩) len c) G) (hg : w.grownBy w' (some n)) (hn : ¬ g = n) : OV w' B (.slice (some ⟨g, 0, none⟩) len c) G :=
  h.grown hg (fun k hk e => hn (by simp [Value.ownBlock] at hk e; omega))
theorem OV.raise {w : World} {B B' g len c : Nat} {G : List V4} (h : OV w B (.slice (some ⟨g, 0, none⟩) len c) G) (hB : B' ≤ g) : OV w B' (.slice (some ⟨g, 0, none⟩) len c) G := by
  refine ⟨h.1, ?_⟩
  rcases h.2 with h' | ⟨g', cap', cur, h', hb, r⟩
  · exact Or.inl h'
  · have e := h'
    simp only [Value.slice.injEq, Option.some.injEq, Addr.mk.injEq, and_true] at e
    exact Or.inr ⟨g', cap', cur, h', by omega, r⟩

theorem own0v {w : World} {B n : Nat} (h : Blk w n #[] 64) (hB : B ≤ n) : w.ownsRow B 64 4 (.slice (some ⟨n, 0, none⟩) 0 0) 0 [] := own0 h hB

end Go.Proofs.Ytpfamdpgcbpiaaa
