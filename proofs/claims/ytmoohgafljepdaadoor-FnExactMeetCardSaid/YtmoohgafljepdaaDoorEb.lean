import Derived.Test.YtmoohgafljepdaaDoorEa
namespace Go.Proofs.YtmoohgafljepdaaDoor
open Go.RowKit
set_option linter.unusedVariables false

theorem ret_int {a b : Int} (h : a = b) : Ending.returned (.int .i64 a) = .returned (.int .i64 b) := by rw [h]
theorem ret_bool' {a b : Bool} (h : a = b) : Ending.returned (.bool a) = .returned (.bool b) := by rw [h]

theorem Tryd.infoI : (Tryd.prog.info? 3).map (fun i => (i.zero, i.size, i.bytes)) = some (some (.int .i64 0), 1, 8) := by kernel_rfl

/-- the first k of G, noughts behind them. -/
def part (G : List Int) (k : Nat) : List Int := G.take k ++ List.replicate (G.length - k) 0
theorem part_zero (G : List Int) : part G 0 = List.replicate G.length 0 := by simp [part]
theorem part_all (G : List Int) : part G G.length = G := by simp [part]
theorem part_set (G : List Int) (k : Nat) (h : k < G.length) : (part G k).set k (G[k]?.getD 0) = part G (k + 1) := by
  unfold part
  rw [take_succ' G k h, List.set_append_right _ _ (by simp; omega)]
  have e : G.length - k = (G.length - (k + 1)) + 1 := by omega
  rw [e, List.replicate_succ, List.length_take, Nat.min_eq_left (by omega), Nat.sub_self, List.set_cons_zero]
  simp

theorem Row.set {w : World} {B g n cap : Nat} {G : List Int} (h : Row w B (some ⟨g, 0, none⟩) n cap G) (j : Nat) (x : Int) : Row (w.setCell ⟨g, j, none⟩ (.int .i64 x)) B (some ⟨g, 0, none⟩) n cap (G.set j x) := by
  have := (World.ownsRow.stored h j (.int .i64 x)).1
  unfold Row
  rw [List.map_set]; exact this

theorem Row.cell {w : World} {B g n cap : Nat} {G : List Int} (h : Row w B (some ⟨g, 0, none⟩) n cap G) (j : Nat) (hj : j < n) : w.cell? ⟨g, j, none⟩ = some (.int .i64 (G[j]?.getD 0)) ∧ w.frozen? ⟨g, j, none⟩ = false := by
  have hl : n = G.length := by have := h.1; simp at this; omega
  refine ⟨?_, World.ownsRow.frozenAt h j⟩
  rw [World.ownsRow.cellAt h j (by omega)]
  have : j < G.length := by omega
  simp [this]

theorem Ints.get {w : World} {sl : Option Addr} {G : List Int} (h : Ints w sl G) {k : Nat} (hk : k < G.length) :
    ∃ pb po, sl = some ⟨pb, po, none⟩ ∧ pb < w.heap.size ∧ ∀ j, j < G.length → w.cell? ⟨pb, po + j, none⟩ = some (.int .i64 (G[j]?.getD 0)) := by
  rcases h with h0 | ⟨pb, po, h0, h1, h2⟩
  · subst h0; simp at hk
  · exact ⟨pb, po, h0, h1, fun j hj => by rw [h2 j hj]; simp⟩

end Go.Proofs.YtmoohgafljepdaaDoor
