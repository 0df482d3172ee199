import Derived.Test.YtigllpegaljkmaaDoorG10j
import Derived.Laws.AppendOwn
namespace Go.Proofs.YtigllpegaljkmaaDoor
open Go.RowKit
set_option linter.unusedVariables false
set_option linter.unusedSimpArgs false

theorem grown_setCell (w : World) (g m : Nat) (u : Value) : w.grownBy (w.setCell ⟨g, m, none⟩ u) (some g) :=
  ⟨rfl, rfl, rfl, by simp, fun k _ hk => Below.heap_setCell w _ u k (by simpa using hk)⟩
/-- a slice value of the call's own. -/
def VRow (w : World) (B : Nat) (v : Value) (G : List Int) : Prop := w.ownsRow B 3 1 v G.length (G.map (Value.int .i64))
theorem VRow.later {w w' : World} {B : Nat} {v : Value} {G : List Int} (h : VRow w B v G) (hb : Below w.heap.size w w') : VRow w' B v G := by
  refine World.ownsRow.kept h (show w.grownBy w' none from ⟨hb.os, hb.tape, hb.output, hb.size, fun k hk _ => hb.block k hk⟩) ?_
  cases v.ownBlock with
  | none => exact Or.inl rfl
  | some b => exact Or.inr (by simp)
theorem VRow.mono {w : World} {B B' : Nat} {v : Value} {G : List Int} (h : VRow w B v G) (hB : B' ≤ B) : VRow w B' v G := by
  refine ⟨h.1, ?_⟩
  rcases h.2 with h' | ⟨g, cap', cur, h', hb, r⟩
  · exact Or.inl h'
  · exact Or.inr ⟨g, cap', cur, h', Nat.le_trans hB hb, r⟩
theorem VRow.lt {w : World} {B : Nat} {v : Value} {G : List Int} (h : VRow w B v G) : ∀ k, v.ownBlock = some k → B ≤ k ∧ k < w.heap.size := World.ownsRow.lt h
theorem VRow.form {w : World} {B : Nat} {v : Value} {G : List Int} (h : VRow w B v G) : (v = .slice none 0 0 ∧ G = []) ∨ ∃ g cap, v = .slice (some ⟨g, 0, none⟩) G.length cap ∧ G.length ≤ cap ∧ Row w B (some ⟨g, 0, none⟩) G.length cap G := by
  rcases h.2 with ⟨h1, h2⟩ | ⟨g, cap, cur, rfl, hb, hg, hc, r⟩
  · exact Or.inl ⟨h1, List.length_eq_zero_iff.1 h2⟩
  · exact Or.inr ⟨g, cap, rfl, hc, h⟩
theorem VRow.slice {w : World} {B : Nat} {v : Value} {G : List Int} (h : VRow w B v G) : ∃ s c, v = .slice s G.length c ∧ Ints w s G := by
  rcases h.form with ⟨rfl, rfl⟩ | ⟨g, cap, rfl, _, hr⟩
  · exact ⟨none, 0, rfl, Or.inl rfl⟩
  · exact ⟨_, cap, rfl, hr.ints.1⟩
theorem ints_cells {w : World} {pb po : Nat} {G : List Int} (h : Ints w (some ⟨pb, po, none⟩) G) : ∀ j u, (G.map (Value.int .i64))[j]? = some u → w.cell? ((⟨pb, po, none⟩ : Addr).add j) = some u := by
  intro j u hu
  have hj : j < G.length := by
    have := (List.getElem?_eq_some_iff.1 hu).1
    simpa using this
  rcases h with rfl | ⟨pb', po', he, _, hc⟩
  · simp at hj
  · simp only [Option.some.injEq, Addr.mk.injEq, and_true] at he
    obtain ⟨rfl, rfl⟩ := he
    have e : (⟨pb, po, none⟩ : Addr).add j = ⟨pb, po + j, none⟩ := by simp [Addr.add]
    rw [e, hc j hj]
    simp [hj] at hu
    subst hu
    simp [hj]
theorem ints_one (G : List Int) : ∀ u ∈ G.map (Value.int .i64), u.oneCell' = true := by
  intro u hu
  obtain ⟨x, _, rfl⟩ := List.mem_map.1 hu
  rfl
theorem wpList_append_one (w : World) {ops : Array Oper} {rest : List Oper} {o : Oper} {a : Act} {Q : Exit → Act → World → Prop}
    (hg : o.guard = none) (s x : Operand) (hop : o.op = Op.call { callee := Callee.builtin Builtin.append, args := #[s, x], argTypes := #[30, 30] })
    (B : Nat) (v : Value) (F : List Int) (hs : a.eval s = v) (hv : VRow w B v F) (sb : Nat) (z : Int) (hx : a.eval x = .slice (some ⟨sb, 0, none⟩) 1 1) (hz : w.cell? ⟨sb, 0, none⟩ = some (.int .i64 z)) (hl : F.length ≤ 1048576)
    (hK : ∀ g d w', VRow w' 0 (.slice (some ⟨g, 0, none⟩) (F.length + 1) d) (F ++ [z]) → w.grownBy w' v.ownBlock → (v.ownBlock = some g ∨ w.heap.size ≤ g) → g < w'.heap.size → wpList Tryd.prog ops Q rest (a.put o.dst (.slice (some ⟨g, 0, none⟩) (F.length + 1) d)) w') :
    wpList Tryd.prog ops Q (o :: rest) a w := by
  refine wpList_plain hg fun K hK' => ?_
  obtain ⟨i0, hi, hz0, hz1, hz2⟩ := info_parts Tryd.infoI
  have hnews : ∀ j u, [Value.int .i64 z][j]? = some u → w.cell? ((⟨sb, 0, none⟩ : Addr).add j) = some u := by
    intro j u hj
    match j, hj with
    | 0, hj => simp at hj; subst hj; simpa [Addr.add] using hz
  have hone : ∀ u ∈ [Value.int .i64 z], u.oneCell' = true := by intro u hu; simp at hu; subst hu; rfl
  have fin : ∀ (w' : World) (g d : Nat), w'.ownsRow 0 3 1 (.slice (some ⟨g, 0, none⟩) (F.length + 1) d) (F.length + 1) (F.map (Value.int .i64) ++ [Value.int .i64 z]) → VRow w' 0 (.slice (some ⟨g, 0, none⟩) (F.length + 1) d) (F ++ [z]) := by
    intro w' g d h
    unfold VRow
    rw [List.length_append, List.map_append]
    exact h
  have low : ∀ {w' : World} {b : Nat} {u : Value} {n : Nat} {xs : List Value}, w'.ownsRow b 3 1 u n xs → w'.ownsRow 0 3 1 u n xs := by
    intro w' b u n xs h
    refine ⟨h.1, ?_⟩
    rcases h.2 with h' | ⟨g, cap', cur, h', hb, r⟩
    · exact Or.inl h'
    · exact Or.inr ⟨g, cap', cur, h', Nat.zero_le _, r⟩
  have new : ∀ {w' : World} {u : Value}, w'.ownsRow w.heap.size 3 1 u (F.length + 1) (F.map (Value.int .i64) ++ [Value.int .i64 z]) → ∃ g d, u = .slice (some ⟨g, 0, none⟩) (F.length + 1) d ∧ w.heap.size ≤ g ∧ g < w'.heap.size := by
    intro w' u h
    rcases h.2 with ⟨_, h0⟩ | ⟨g, cap, cur, rfl, hb, hgg, r⟩
    · omega
    · exact ⟨g, cap, rfl, hb, (Array.getElem?_eq_some_iff.1 hgg).1⟩
  rcases hv.form with ⟨rfl, rfl⟩ | ⟨g, cap, rfl, hcap, hr⟩
  · obtain ⟨v', w', hrun, r1, r2, _⟩ := run_append_own (P := Tryd.prog) w w.heap.size 30 o.type 3 i0 (.int .i64 0) 1 8 Tryd.underlying30 hi hz0 hz1 hz2 rfl (by decide) (.slice none 0 0) 0 [] (World.ownsRow_nil _ _ _ _) ⟨sb, 0, none⟩ 1 1 [.int .i64 z] rfl hnews hone (by unfold maxLen; omega) (by omega) (Nat.le_refl _)
    obtain ⟨g, d, rfl, e1, e2⟩ := new (by simpa using r1)
    unfold Oper.wp
    simp [execOp, hop, resolve, invoke, builtin, hs, hx, hrun, Result.andThen]
    exact hK' _ _ (hK g d w' (fin w' g d (low (by simpa using r1))) r2 (Or.inr e1) e2)
  · by_cases hroom : F.length + 1 ≤ cap
    · obtain ⟨w', hrun, r1, r2⟩ := run_append_fits (P := Tryd.prog) w 0 30 o.type 3 i0 1 Tryd.underlying30 hi hz1 g F.length cap (F.map (Value.int .i64)) (low hr) ⟨sb, 0, none⟩ 1 1 [.int .i64 z] rfl hnews hone hroom
      unfold Oper.wp
      simp [execOp, hop, resolve, invoke, builtin, hs, hx, hrun, Result.andThen]
      exact hK' _ _ (hK g cap w' (fin w' g cap r1) r2 (Or.inl rfl) (World.ownsRow.lt r1 g rfl).2)
    · obtain ⟨v', w', hrun, r1, r2⟩ := run_append_arg_grows (P := Tryd.prog) w 30 o.type 3 i0 (.int .i64 0) 1 8 Tryd.underlying30 hi hz0 hz1 hz2 rfl (by decide) ⟨g, 0, none⟩ F.length cap (F.map (Value.int .i64)) (by simp) (ints_cells hr.ints.1) ⟨sb, 0, none⟩ 1 1 [.int .i64 z] rfl hnews (by omega) (by unfold maxLen; omega) (by omega)
      obtain ⟨g', d, rfl, e1, e2⟩ := new r1
      unfold Oper.wp
      simp [execOp, hop, resolve, invoke, builtin, hs, hx, hrun, Result.andThen]
      exact hK' _ _ (hK g' d w' (fin w' g' d (low r1)) ⟨r2.os, r2.tape, r2.output, r2.size, fun k hk _ => r2.block k hk (by simp)⟩ (Or.inr e1) e2)
/-- k, k + 1 and so on. -/
def iota (k : Int) : Nat → List Int
  | 0 => []
  | n + 1 => iota k n ++ [k + n]
theorem iota_len (k : Int) : ∀ n, (iota k n).length = n
  | 0 => rfl
  | n + 1 => by simp [iota, iota_len k n]
theorem iota_get (k : Int) : ∀ (n j : Nat), j < n → (iota k n)[j]? = some (k + j)
  | n + 1, j, h => by
    by_cases e : j < n
    · rw [iota, List.getElem?_append_left (by rw [iota_len]; exact e), iota_get k n j e]
    · have : j = n := by omega
      subst this
      rw [iota, List.getElem?_append_right (by rw [iota_len]; omega), iota_len]; simp
theorem mark_step (G : List Int) (k : Int) (m : Nat) (h : m < G.length) : (iota k m ++ G.drop m).set m (k + m) = iota k (m + 1) ++ G.drop (m + 1) := by
  rw [List.set_append_right _ _ (by rw [iota_len]; omega), iota_len, Nat.sub_self, List.drop_eq_getElem_cons h, List.set_cons_zero, iota]
  simp
end Go.Proofs.YtigllpegaljkmaaDoor
