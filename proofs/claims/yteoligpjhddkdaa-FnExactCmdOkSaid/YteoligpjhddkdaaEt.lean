import Derived.Test.YteoligpjhddkdaaEj
import Derived.Deep.RegionLaw
import Derived.Laws.AppendOwn
namespace Go.Proofs.Yteoligpjhddkdaa
open Go.RowKit
set_option linter.unusedVariables false

/-- a slice value of the call's own. -/
def VRow (w : World) (B : Nat) (v : Value) (G : List Int) : Prop := w.ownsRow B 3 1 v G.length (G.map (Value.int .i64))
theorem VRow.later {w w' : World} {B : Nat} {v : Value} {G : List Int} (h : VRow w B v G) (hb : Below w.heap.size w w') : VRow w' B v G := by
  refine World.ownsRow.kept h (show w.grownBy w' none from ⟨hb.os, hb.tape, hb.output, hb.size, fun k hk _ => hb.block k hk⟩) ?_
  cases v.ownBlock with
  | none => exact Or.inl rfl
  | some b => exact Or.inr (by simp)
theorem VRow.mono {w : World} {B B' : Nat} {v : Value} {G : List Int} (h : VRow w B v G) (hB : B' ≤ B) : VRow w B' v G := by
  refine ⟨h.1, ?_⟩
  rcases h.2 with h' | ⟨g, cap', cur, h', hb, r⟩
  · exact Or.inl h'
  · exact Or.inr ⟨g, cap', cur, h', Nat.le_trans hB hb, r⟩
theorem VRow.lt {w : World} {B : Nat} {v : Value} {G : List Int} (h : VRow w B v G) : ∀ k, v.ownBlock = some k → B ≤ k ∧ k < w.heap.size := World.ownsRow.lt h
theorem VRow.form {w : World} {B : Nat} {v : Value} {G : List Int} (h : VRow w B v G) : (v = .slice none 0 0 ∧ G = []) ∨ ∃ g cap, v = .slice (some ⟨g, 0, none⟩) G.length cap ∧ G.length ≤ cap ∧ Row w B (some ⟨g, 0, none⟩) G.length cap G := by
  rcases h.2 with ⟨h1, h2⟩ | ⟨g, cap, cur, rfl, hb, hg, hc, r⟩
  · exact Or.inl ⟨h1, List.length_eq_zero_iff.1 h2⟩
  · exact Or.inr ⟨g, cap, rfl, hc, h⟩
theorem VRow.slice {w : World} {B : Nat} {v : Value} {G : List Int} (h : VRow w B v G) : ∃ s c, v = .slice s G.length c ∧ Ints w s G := by
  rcases h.form with ⟨rfl, rfl⟩ | ⟨g, cap, rfl, _, hr⟩
  · exact ⟨none, 0, rfl, Or.inl rfl⟩
  · exact ⟨_, cap, rfl, hr.ints.1⟩

theorem ints_cells {w : World} {pb po : Nat} {G : List Int} (h : Ints w (some ⟨pb, po, none⟩) G) : ∀ j u, (G.map (Value.int .i64))[j]? = some u → w.cell? ((⟨pb, po, none⟩ : Addr).add j) = some u := by
  intro j u hu
  have hj : j < G.length := by
    have := (List.getElem?_eq_some_iff.1 hu).1
    simpa using this
  rcases h with rfl | ⟨pb', po', he, _, hc⟩
  · simp at hj
  · simp only [Option.some.injEq, Addr.mk.injEq, and_true] at he
    obtain ⟨rfl, rfl⟩ := he
    have e : (⟨pb, po, none⟩ : Addr).add j = ⟨pb, po + j, none⟩ := by simp [Addr.add]
    rw [e, hc j hj]
    simp [hj] at hu
    subst hu
    simp [hj]
theorem ints_one (G : List Int) : ∀ u ∈ G.map (Value.int .i64), u.oneCell' = true := by
  intro u hu
  obtain ⟨x, _, rfl⟩ := List.mem_map.1 hu
  rfl

theorem step_append_ints {ops : Array Oper} {o : Oper} {a : Act} {w : World} {K : Act → World → Prop} {Q : Exit → Act → World → Prop} {E : Prop}
    (hg : o.guard = none) (s x : Operand) (hop : o.op = Op.call { callee := Callee.builtin Builtin.append, args := #[s, x], argTypes := #[25, 25] })
    (base : Nat) (v : Value) (A : List Int) (hs : a.eval s = v) (hown : VRow w base v A)
    (pb po c : Nat) (G : List Int) (hx : a.eval x = .slice (some ⟨pb, po, none⟩) G.length c) (hG : Ints w (some ⟨pb, po, none⟩) G)
    (hl : A.length + G.length ≤ 16777216) (hb : base ≤ w.heap.size)
    (hK : ∀ v' w', VRow w' base v' (A ++ G) → w.grownBy w' v.ownBlock → (v' = .slice none 0 0 ↔ v = .slice none 0 0 ∧ G.length = 0) → K (a.put o.dst v') w') :
    if Region.wanted o (yielded ops a.tmps) = true then Oper.wp Try.prog o a w K Q else E := by
  have hw : Region.wanted o (yielded ops a.tmps) = true := by simp [Region.wanted, hg]
  rw [if_pos hw]
  obtain ⟨i0, hi, hz0, hz1, hz2⟩ := info_parts Try.infoI
  obtain ⟨v', w', hrun, r1, r2, r3⟩ := run_append_own (P := Try.prog) w base 25 o.type 3 i0 (.int .i64 0) 1 8 Try.underlying25 hi hz0 hz1 hz2 rfl (by decide) v A.length (A.map (Value.int .i64)) hown ⟨pb, po, none⟩ G.length c (G.map (Value.int .i64)) (by simp) (ints_cells hG) (ints_one G) (by unfold maxLen; omega) (by omega) hb
  unfold Oper.wp
  simp [execOp, hop, resolve, invoke, builtin, hs, hx, hrun, Result.andThen]
  refine hK v' w' ?_ r2 r3
  unfold VRow
  rw [List.length_append, List.map_append]
  exact r1

end Go.Proofs.Yteoligpjhddkdaa
