import Derived.Test.YtnbckfeclfbafabG10
import Derived.Laws.AppendOwn
namespace Go.Proofs.Ytnbckfeclfbafab
open Go.RowKit
set_option linter.unusedVariables false
set_option linter.unusedSimpArgs false

theorem grown_setCell (w : World) (g m : Nat) (u : Value) : w.grownBy (w.setCell ⟨g, m, none⟩ u) (some g) :=
  ⟨rfl, rfl, rfl, by simp, fun k _ hk => Below.heap_setCell w _ u k (by simpa using hk)⟩
/-- a slice value of the call's own. -/
def VRow (w : World) (B : Nat) (v : Value) (G : List Int) : Prop := w.ownsRow B 3 1 v G.length (G.map (Value.int .i64))
theorem VRow.later {w w' : World} {B : Nat} {v : Value} {G : List Int} (h : VRow w B v G) (hb : Below w.heap.size w w') : VRow w' B v G := by
  refine World.ownsRow.kept h (show w.grownBy w' none from ⟨hb.os, hb.tape, hb.output, hb.size, fun k hk _ => hb.block k hk⟩) ?_
  cases v.ownBlock with
  | none => exact Or.inl rfl
  | some b => exact Or.inr (by simp)
theorem VRow.mono {w : World} {B B' : Nat} {v : Value} {G : List Int} (h : VRow w B v G) (hB : B' ≤ B) : VRow w B' v G := by
  refine ⟨h.1, ?_⟩
  rcases h.2 with h' | ⟨g, cap', cur, h', hb, r⟩
  · exact Or.inl h'
  · exact Or.inr ⟨g, cap', cur, h', Nat.le_trans hB hb, r⟩
theorem VRow.lt {w : World} {B : Nat} {v : Value} {G : List Int} (h : VRow w B v G) : ∀ k, v.ownBlock = some k → B ≤ k ∧ k < w.heap.size := World.ownsRow.lt h
theorem VRow.form {w : World} {B : Nat} {v : Value} {G : List Int} (h : VRow w B v G) : (v = .slice none 0 0 ∧ G = []) ∨ ∃ g cap, v = .slice (some ⟨g, 0, none⟩) G.length cap ∧ G.length ≤ cap ∧ Row w B (some ⟨g, 0, none⟩) G.length cap G := by
  rcases h.2 with ⟨h1, h2⟩ | ⟨g, cap, cur, rfl, hb, hg, hc, r⟩
  · exact Or.inl ⟨h1, List.length_eq_zero_iff.1 h2⟩
  · exact Or.inr ⟨g, cap, rfl, hc, h⟩
theorem VRow.slice {w : World} {B : Nat} {v : Value} {G : List Int} (h : VRow w B v G) : ∃ s c, v = .slice s G.length c ∧ Ints w s G := by
  rcases h.form with ⟨rfl, rfl⟩ | ⟨g, cap, rfl, _, hr⟩
  · exact ⟨none, 0, rfl, Or.inl rfl⟩
  · exact ⟨_, cap, rfl, hr.ints.1⟩
theorem ints_cells {w : World} {pb po : Nat} {G : List Int} (h : Ints w (some ⟨pb, po, none⟩) G) : ∀ j u, (G.map (Value.int .i64))[j]? = some u → w.cell? ((⟨pb, po, none⟩ : Addr).add j) = some u := by
  intro j u hu
  have hj : j < G.length := by
    have := (List.getElem?_eq_some_iff.1 hu).1
    simpa using this
  rcases h with rfl | ⟨pb', po', he, _, hc⟩
  · simp at hj
  · simp only [Option.some.injEq, Addr.mk.injEq, and_true] at he
    obtain ⟨rfl, rfl⟩ := he
    have e : (⟨pb, po, none⟩ : Addr).add j = ⟨pb, po + j, none⟩ := by simp [Addr.add]
    rw [e, hc j hj]
    simp [hj] at hu
    subst hu
    simp [hj]
theorem ints_one (G : List Int) : ∀ u ∈ G.map (Value.int .i64), u.oneCell' = true := by
  intro u hu
  obtain ⟨x, _, rfl⟩ := List.mem_map.1 hu
  rfl
/-- k, k + 1 and so on. -/
def iota (k : Int) : Nat → List Int
  | 0 => []
  | n + 1 => iota k n ++ [k + n]
theorem iota_len (k : Int) : ∀ n, (iota k n).length = n
  | 0 => rfl
  | n + 1 => by simp [iota, iota_len k n]
theorem iota_get (k : Int) : ∀ (n j : Nat), j < n → (iota k n)[j]? = some (k + j)
  | n + 1, j, h => by
    by_cases e : j < n
    · rw [iota, List.getElem?_append_left (by rw [iota_len]; exact e), iota_get k n j e]
    · have : j = n := by omega
      subst this
      rw [iota, List.getElem?_append_right (by rw [iota_len]; omega), iota_len]; simp
theorem mark_step (G : List Int) (k : Int) (m : Nat) (h : m < G.length) : (iota k m ++ G.drop m).set m (k + m) = iota k (m + 1) ++ G.drop (m + 1) := by
  rw [List.set_append_right _ _ (by rw [iota_len]; omega), iota_len, Nat.sub_self, List.drop_eq_getElem_cons h, List.set_cons_zero, iota]
  simp
end Go.Proofs.Ytnbckfeclfbafab
