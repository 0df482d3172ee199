import Derived.Test.YtknallkcengbbaaGreatDoorEa
namespace Go.Proofs.YtknallkcengbbaaGreatDoor
open Go.RowKit
set_option linter.unusedVariables false

theorem ret_int {a b : Int} (h : a = b) : Ending.returned (.int .i64 a) = .returned (.int .i64 b) := by rw [h]
theorem ret_bool' {a b : Bool} (h : a = b) : Ending.returned (.bool a) = .returned (.bool b) := by rw [h]

set_option maxHeartbeats 1000000 in
theorem szInts_neg (sl : Option Addr) (n cap : Nat) (left : Int) (w : World) (h0 : 0 ≤ left) (h1 : left ≤ 1048576) (hn : n ≤ 9223372036854775807) (h : left < n) :
    Calls Tryz.prog 18 #[.slice sl n cap, .int .i64 left] w fun e w' => e = .returned (.int .i64 (-1)) ∧ w' = w := by
  go_enter Tryz.func18, Tryz.ntmps18
  go_wp2
  go_ret
  exact ⟨rfl, rfl⟩

set_option maxHeartbeats 1000000 in
theorem szInts_pos (sl : Option Addr) (n cap : Nat) (left : Int) (w : World) (h0 : 0 ≤ left) (h1 : left ≤ 1048576) (hn : n ≤ 9223372036854775807) (h : ¬ left < n) :
    Calls Tryz.prog 18 #[.slice sl n cap, .int .i64 left] w fun e w' => e = .returned (.int .i64 (left - n)) ∧ w' = w := by
  go_enter Tryz.func18, Tryz.ntmps18
  go_wp2
  go_ret
  exact ⟨rfl, rfl⟩

theorem Tryz.infoI : (Tryz.prog.info? 3).map (fun i => (i.zero, i.size, i.bytes)) = some (some (.int .i64 0), 1, 8) := by kernel_rfl

/-- the first k of G, noughts behind them. -/
def part (G : List Int) (k : Nat) : List Int := G.take k ++ List.replicate (G.length - k) 0
theorem part_zero (G : List Int) : part G 0 = List.replicate G.length 0 := by simp [part]
theorem part_all (G : List Int) : part G G.length = G := by simp [part]
theorem part_set (G : List Int) (k : Nat) (h : k < G.length) : (part G k).set k (G[k]?.getD 0) = part G (k + 1) := by
  unfold part
  rw [take_succ' G k h, List.set_append_right _ _ (by simp; omega)]
  have e : G.length - k = (G.length - (k + 1)) + 1 := by omega
  rw [e, List.replicate_succ, List.length_take, Nat.min_eq_left (by omega), Nat.sub_self, List.set_cons_zero]
  simp

theorem Row.set {w : World} {B g n cap : Nat} {G : List Int} (h : Row w B (some ⟨g, 0, none⟩) n cap G) (j : Nat) (x : Int) : Row (w.setCell ⟨g, j, none⟩ (.int .i64 x)) B (some ⟨g, 0, none⟩) n cap (G.set j x) := by
  have := (World.ownsRow.stored h j (.int .i64 x)).1
  unfold Row
  rw [List.map_set]; exact this

theorem Row.cell {w : World} {B g n cap : Nat} {G : List Int} (h : Row w B (some ⟨g, 0, none⟩) n cap G) (j : Nat) (hj : j < n) : w.cell? ⟨g, j, none⟩ = some (.int .i64 (G[j]?.getD 0)) ∧ w.frozen? ⟨g, j, none⟩ = false := by
  have hl : n = G.length := by have := h.1; simp at this; omega
  refine ⟨?_, World.ownsRow.frozenAt h j⟩
  rw [World.ownsRow.cellAt h j (by omega)]
  have : j < G.length := by omega
  simp [this]

theorem Ints.get {w : World} {sl : Option Addr} {G : List Int} (h : Ints w sl G) {k : Nat} (hk : k < G.length) :
    ∃ pb po, sl = some ⟨pb, po, none⟩ ∧ pb < w.heap.size ∧ ∀ j, j < G.length → w.cell? ⟨pb, po + j, none⟩ = some (.int .i64 (G[j]?.getD 0)) := by
  rcases h with h0 | ⟨pb, po, h0, h1, h2⟩
  · subst h0; simp at hk
  · exact ⟨pb, po, h0, h1, fun j hj => by rw [h2 j hj]; simp⟩

set_option maxHeartbeats 2000000 in
theorem toInts_any (sl : Option Addr) (cap : Nat) (G : List Int) (w : World) (hG : Ints w sl G) (hl : G.length ≤ 1048576) :
    Calls Tryz.prog 22 #[.slice sl G.length cap] w fun e w' => e = .returned (.slice (some ⟨w.heap.size, 0, none⟩) G.length G.length) ∧ Row w' w.heap.size (some ⟨w.heap.size, 0, none⟩) G.length G.length G ∧ Below w.heap.size w w' := by
  obtain ⟨i0, hi, hz0, hz1, hz2⟩ := info_parts Tryz.infoI
  go_enter Tryz.func22, Tryz.ntmps22
  go_wp2_with (at_make; refine wpList_make_full _ rfl _ _ 23 rfl w.heap.size 3 i0 (.int .i64 0) 1 Tryz.underlying23 hi hz0 hz1 .i64 .i64 _ _ G.length rfl rfl rfl rfl (by rw [hz2]; omega) (by unfold maxLen; omega) (Nat.le_refl _) ?_)
  intro w1 hown hgrow
  have hrow : Hid (Row w1 w.heap.size (some ⟨w.heap.size, 0, none⟩) G.length G.length (part G 0)) := by
    show World.ownsRow _ _ _ _ _ _ _
    rw [part_zero, List.map_replicate]
    rw [toList_madeCells_one] at hown
    exact hown
  have hbel : Hid (Below w.heap.size w w1) := (Below.refl _ w).grown hgrow (Nat.le_refl _) (fun k h => by cases h)
  clear hown hgrow hi hz0 hz1 hz2
  go_wp2
  go_loopw [4] (fun i wr => ∃ k : Nat, k ≤ G.length ∧ i = .int .i64 k ∧ Hid (Row wr w.heap.size (some ⟨w.heap.size, 0, none⟩) G.length G.length (part G k)) ∧ Hid (Below w.heap.size w wr)) (fun i _ => G.length - (intOf i).toNat)
  case atStart => exact ⟨0, Nat.zero_le _, rfl, hrow, hbel⟩
  case round =>
    obtain ⟨k, hk, rfl, hrow, hbel⟩ := hrel
    by_cases hlt : k < G.length
    · obtain ⟨pb, po, rfl, hp, hc⟩ := hG.get hlt
      obtain ⟨x, hx⟩ : ∃ x, Hid (G[k]?.getD 0 = x) := ⟨_, rfl⟩
      have c1 : wr.cell? ⟨pb, po + k, none⟩ = some (.int .i64 x) := by rw [← hx.out]; exact (hbel.out.cell (p := ⟨pb, po + k, none⟩) hp).trans (hc k hlt)
      obtain ⟨y, hy⟩ : ∃ y, wr.cell? ⟨w.heap.size, k, none⟩ = some (.int .i64 y) := ⟨_, (hrow.out.cell k hlt).1⟩
      have f2 := (hrow.out.cell k hlt).2
      clear hc hG
      go_wp2
      go_roundw
      case rel =>
        refine ⟨k + 1, by omega, by go_num, ?_, ?_⟩
        · have := hrow.out.set k x
          rw [← hx.out, part_set G k hlt, hx.out] at this
          exact this
        · exact hbel.out.setCell (Nat.le_refl _) _
      case measure => simp [intOf]; omega
    · have hk' : k = G.length := by omega
      go_wp2
      go_ret
      have := hrow.out
      rw [hk', part_all] at this
      exact ⟨rfl, this, hbel.out⟩
end Go.Proofs.YtknallkcengbbaaGreatDoor
