import Derived.Test.YtmhiddepddgfgaaDoorWdv
namespace Go.Proofs.YtmhiddepddgfgaaDoor
open Go.RowKit
set_option linter.unusedSimpArgs false
set_option linter.unusedVariables false

set_option maxHeartbeats 2000000 in
theorem pickInt6_any (n : Nat) (pb po : Nat) (w : World) (hC : Cur n w) (hcell : ∀ j, j < 6 → ∃ x : Int, w.cell? ⟨pb, po + j, none⟩ = some (.int .i64 x)) (hp : ¬ pb = n) :
    Calls Tryd.prog 15 #[.pointer (some ⟨n, 0, none⟩), .slice (some ⟨pb, po, none⟩) 6 6] w fun e w' => ∃ r : Int, e = .returned (.int .i64 r) ∧ Keep n w w' ∧ Cur n w' := by
  go_enter Tryd.func15, Tryd.ntmps15
  go_wp2_with (go_at_call 14; refine (l1Below_any n 6 _ hC (by omega)).mono ?_; rintro e w1 ⟨r, rfl, r1, r2, hK, hC1⟩; obtain ⟨q, rfl⟩ : ∃ q : Nat, r = (q : Int) := ⟨r.toNat, by omega⟩; have hq : q < 6 := (by omega); obtain ⟨x, hx⟩ := hcell q hq; have hc1 := hK.cell hp hx; have hqI : (q : Int) < 6 := (by omega); clear hcell r2)
  go_ret
  exact ⟨_, rfl, hK, hC1⟩

set_option maxHeartbeats 4000000 in
theorem drawTurn_any (sl : Option Addr) (len cap : Nat) (w : World) (hl : len ≤ 1048576) (hC : Code w sl len) :
    Calls Tryd.prog 5 #[.slice sl len cap] w fun e w' => ∃ (op k i : Int) (x y : Nat), e = .returned (.tuple #[.int .i64 op, .agg #[.int .i64 k, .int .i64 i, .float .f64 x, .float .f64 y]]) ∧ (0 ≤ op ∧ op ≤ 7) ∧
      (-9223372036854775808 ≤ i ∧ i ≤ 9223372036854775807) ∧ x < 18446744073709551616 ∧ y < 18446744073709551616 ∧ Below w.heap.size w w' := by
  have hCW : Code (w.alloc (.cells #[.int .i64 0, .int .i64 0, .float .f64 0, .float .f64 0] 26)) sl len := hC.alloc _
  go_enter Tryd.func5, Tryd.ntmps5
  go_wp2_with fail
  refine (l1New_any sl len cap _ hl hCW).mono ?_
  rintro e w1 ⟨n, rfl, hn, hb1, hC1⟩
  have hn2 : w.heap.size < n := by simp at hn; omega
  have m0 : ¬ w.heap.size = n := by omega
  have Zr0 : Zb w.heap.size w1 := Zb.later (Zb.new w 26) hb1
  have hl1 : Below w.heap.size w w1 := by (repeat (first | with_reducible exact Below.refl _ _ | with_reducible refine bl_alloc ?_ _ | with_reducible refine bl_drewN ?_ _ | with_reducible refine bl_drew ?_ | with_reducible refine bl_setCell ?_ (by first | exact Nat.le_refl _ | (dsimp only; omega) | (simp <;> omega)) _ | with_reducible refine bl_trans ?_ (by with_reducible assumption)))
  go_wp2_with fail
  refine (l1Below_any n _ _ hC1 (by omega)).mono ?_
  rintro e w2 ⟨op, rfl, r1, r2, hK2, hC2⟩
  have lt2 := hC2.lt
  go_wp2_with fail
  refine (pickInt6_any n w2.heap.size 0 _ (hC2.alloc _) ?_ (by omega)).mono ?_
  · intro j hj
    have : j = 0 ∨ j = 1 ∨ j = 2 ∨ j = 3 ∨ j = 4 ∨ j = 5 := by omega
    rcases this with rfl | rfl | rfl | rfl | rfl | rfl <;> exact ⟨_, by simp; rfl⟩
  rintro e w3 ⟨kd, rfl, hK3, hC3⟩
  have K3 := (hK2.alloc (by omega) _).trans hK3
  go_wp2_with fail
  refine (l1Once_any n _ _ hC3 (by omega)).mono ?_
  rintro e w4 ⟨b, rfl, hK4, hC4⟩
  have K4 := K3.trans hK4
  clear hK2 hK3 hK4 K3 hC1 hC2 hC3
  cases b
  · go_wp2_with fail
    refine (l1Val_any n kd _ hC4).mono ?_
    rintro e w5 ⟨i, x, y, rfl, hi, lx, ly, hK5, hC5⟩
    have K5 := K4.trans hK5
    have R0 := Zr0.keep K5 m0
    have hl5 : Below w.heap.size w w5 := K5.below hl1 (by omega)
    obtain ⟨hcA, hfA⟩ := kcell K5
    have y0 : w.heap.size < w1.heap.size := by have := hb1.size; simp at this; omega
    obtain ⟨hcW, hfW⟩ := bcell hb1
    obtain ⟨s0, s1, s2, s3⟩ := R0
    go_wp2_with fail
    refine bodyPost_ret (v := .tuple #[.int .i64 op, .agg #[.int .i64 kd, .int .i64 i, .float .f64 x, .float .f64 y]]) (by simp [results, Tryd.results5, go_sem, s0, s1, s2, s3]) rfl ⟨op, kd, i, x, y, rfl, by omega, hi, lx, ly, ?_⟩
    (repeat (first | with_reducible exact Below.refl _ _ | with_reducible refine bl_alloc ?_ _ | with_reducible refine bl_drewN ?_ _ | with_reducible refine bl_drew ?_ | with_reducible refine bl_setCell ?_ (by first | exact Nat.le_refl _ | (dsimp only; omega) | (simp <;> omega)) _ | with_reducible refine bl_trans ?_ (by with_reducible assumption)))
  · go_wp2_with fail
    refine (l1Any_any n _ hC4).mono ?_
    rintro e w5 ⟨k, i, x, y, rfl, hk, hi, lx, ly, hK5, hC5⟩
    have K5 := K4.trans hK5
    have R0 := Zr0.keep K5 m0
    have hl5 : Below w.heap.size w w5 := K5.below hl1 (by omega)
    obtain ⟨hcA, hfA⟩ := kcell K5
    have y0 : w.heap.size < w1.heap.size := by have := hb1.size; simp at this; omega
    obtain ⟨hcW, hfW⟩ := bcell hb1
    obtain ⟨s0, s1, s2, s3⟩ := R0
    go_wp2_with fail
    refine bodyPost_ret (v := .tuple #[.int .i64 op, .agg #[.int .i64 k, .int .i64 i, .float .f64 x, .float .f64 y]]) (by simp [results, Tryd.results5, go_sem, s0, s1, s2, s3]) rfl ⟨op, k, i, x, y, rfl, by omega, hi, lx, ly, ?_⟩
    (repeat (first | with_reducible exact Below.refl _ _ | with_reducible refine bl_alloc ?_ _ | with_reducible refine bl_drewN ?_ _ | with_reducible refine bl_drew ?_ | with_reducible refine bl_setCell ?_ (by first | exact Nat.le_refl _ | (dsimp only; omega) | (simp <;> omega)) _ | with_reducible refine bl_trans ?_ (by with_reducible assumption)))
end Go.Proofs.YtmhiddepddgfgaaDoor
