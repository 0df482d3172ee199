import Derived.Test.YtcllkmdlheggkaaEu
namespace Go.Proofs.Ytcllkmdlheggkaa
open Go.RowKit
set_option linter.unusedVariables false

theorem wpList_append_one (w : World) {ops : Array Oper} {rest : List Oper} {o : Oper} {a : Act} {Q : Exit → Act → World → Prop}
    (hg : o.guard = none) (s x : Operand) (hop : o.op = Op.call { callee := Callee.builtin Builtin.append, args := #[s, x], argTypes := #[24, 24] })
    (B : Nat) (v : Value) (F : List Int) (hs : a.eval s = v) (hv : VRow w B v F) (sb : Nat) (z : Int) (hx : a.eval x = .slice (some ⟨sb, 0, none⟩) 1 1) (hz : w.cell? ⟨sb, 0, none⟩ = some (.int .i64 z)) (hl : F.length ≤ 1048576)
    (hK : ∀ g d w', VRow w' 0 (.slice (some ⟨g, 0, none⟩) (F.length + 1) d) (F ++ [z]) → w.grownBy w' v.ownBlock → (v.ownBlock = some g ∨ w.heap.size ≤ g) → g < w'.heap.size → wpList Try.prog ops Q rest (a.put o.dst (.slice (some ⟨g, 0, none⟩) (F.length + 1) d)) w') :
    wpList Try.prog ops Q (o :: rest) a w := by
  refine wpList_plain hg fun K hK' => ?_
  obtain ⟨i0, hi, hz0, hz1, hz2⟩ := info_parts Try.infoI
  have hnews : ∀ j u, [Value.int .i64 z][j]? = some u → w.cell? ((⟨sb, 0, none⟩ : Addr).add j) = some u := by
    intro j u hj
    match j, hj with
    | 0, hj => simp at hj; subst hj; simpa [Addr.add] using hz
  have hone : ∀ u ∈ [Value.int .i64 z], u.oneCell' = true := by intro u hu; simp at hu; subst hu; rfl
  have fin : ∀ (w' : World) (g d : Nat), w'.ownsRow 0 3 1 (.slice (some ⟨g, 0, none⟩) (F.length + 1) d) (F.length + 1) (F.map (Value.int .i64) ++ [Value.int .i64 z]) → VRow w' 0 (.slice (some ⟨g, 0, none⟩) (F.length + 1) d) (F ++ [z]) := by
    intro w' g d h
    unfold VRow
    rw [List.length_append, List.map_append]
    exact h
  have low : ∀ {w' : World} {b : Nat} {u : Value} {n : Nat} {xs : List Value}, w'.ownsRow b 3 1 u n xs → w'.ownsRow 0 3 1 u n xs := by
    intro w' b u n xs h
    refine ⟨h.1, ?_⟩
    rcases h.2 with h' | ⟨g, cap', cur, h', hb, r⟩
    · exact Or.inl h'
    · exact Or.inr ⟨g, cap', cur, h', Nat.zero_le _, r⟩
  have new : ∀ {w' : World} {u : Value}, w'.ownsRow w.heap.size 3 1 u (F.length + 1) (F.map (Value.int .i64) ++ [Value.int .i64 z]) → ∃ g d, u = .slice (some ⟨g, 0, none⟩) (F.length + 1) d ∧ w.heap.size ≤ g ∧ g < w'.heap.size := by
    intro w' u h
    rcases h.2 with ⟨_, h0⟩ | ⟨g, cap, cur, rfl, hb, hgg, r⟩
    · omega
    · exact ⟨g, cap, rfl, hb, (Array.getElem?_eq_some_iff.1 hgg).1⟩
  rcases hv.form with ⟨rfl, rfl⟩ | ⟨g, cap, rfl, hcap, hr⟩
  · obtain ⟨v', w', hrun, r1, r2, _⟩ := run_append_own (P := Try.prog) w w.heap.size 24 o.type 3 i0 (.int .i64 0) 1 8 Try.underlying24 hi hz0 hz1 hz2 rfl (by decide) (.slice none 0 0) 0 [] (World.ownsRow_nil _ _ _ _) ⟨sb, 0, none⟩ 1 1 [.int .i64 z] rfl hnews hone (by unfold maxLen; omega) (by omega) (Nat.le_refl _)
    obtain ⟨g, d, rfl, e1, e2⟩ := new (by simpa using r1)
    unfold Oper.wp
    simp [execOp, hop, resolve, invoke, builtin, hs, hx, hrun, Result.andThen]
    exact hK' _ _ (hK g d w' (fin w' g d (low (by simpa using r1))) r2 (Or.inr e1) e2)
  · by_cases hroom : F.length + 1 ≤ cap
    · obtain ⟨w', hrun, r1, r2⟩ := run_append_fits (P := Try.prog) w 0 24 o.type 3 i0 1 Try.underlying24 hi hz1 g F.length cap (F.map (Value.int .i64)) (low hr) ⟨sb, 0, none⟩ 1 1 [.int .i64 z] rfl hnews hone hroom
      unfold Oper.wp
      simp [execOp, hop, resolve, invoke, builtin, hs, hx, hrun, Result.andThen]
      exact hK' _ _ (hK g cap w' (fin w' g cap r1) r2 (Or.inl rfl) (World.ownsRow.lt r1 g rfl).2)
    · obtain ⟨v', w', hrun, r1, r2⟩ := run_append_arg_grows (P := Try.prog) w 24 o.type 3 i0 (.int .i64 0) 1 8 Try.underlying24 hi hz0 hz1 hz2 rfl (by decide) ⟨g, 0, none⟩ F.length cap (F.map (Value.int .i64)) (by simp) (ints_cells hr.ints.1) ⟨sb, 0, none⟩ 1 1 [.int .i64 z] rfl hnews (by omega) (by unfold maxLen; omega) (by omega)
      obtain ⟨g', d, rfl, e1, e2⟩ := new r1
      unfold Oper.wp
      simp [execOp, hop, resolve, invoke, builtin, hs, hx, hrun, Result.andThen]
      exact hK' _ _ (hK g' d w' (fin w' g' d (low r1)) ⟨r2.os, r2.tape, r2.output, r2.size, fun k hk _ => r2.block k hk (by simp)⟩ (Or.inr e1) e2)
end Go.Proofs.Ytcllkmdlheggkaa
