import Derived.Test.YtmhiddepddgfgaaDoorWds
namespace Go.Proofs.YtmhiddepddgfgaaDoor
open Go.RowKit

theorem kcell {n : Nat} {W w1 : World} (h : Keep n W w1) : (∀ b o, ¬ b = n → b < W.heap.size → w1.cell? ⟨b, o, none⟩ = W.cell? ⟨b, o, none⟩) ∧ (∀ b o, ¬ b = n → b < W.heap.size → w1.frozen? ⟨b, o, none⟩ = W.frozen? ⟨b, o, none⟩) :=
  ⟨fun _ _ hb hl => World.cell?_of_block (w := W) (h.heap hb hl), fun _ _ hb hl => World.frozen?_of_block (w := W) (h.heap hb hl)⟩

theorem Cur.lt {n : Nat} {w : World} (h : Cur n w) : n < w.heap.size := by
  obtain ⟨sl, len, cap, i, hh, c0, _⟩ := h
  exact World.block_lt_of_cell? _ _ c0

theorem Cur.below {n : Nat} {w w' : World} (h : Cur n w) (hb : Below (n + 1) w w') : Cur n w' := by
  have cl : ∀ {k o : Nat} {v : Value}, k < n + 1 → w.cell? ⟨k, o, none⟩ = some v → w'.cell? ⟨k, o, none⟩ = some v := fun {k o v} hk hc => (hb.cell (p := ⟨k, o, none⟩) hk).trans hc
  obtain ⟨sl, len, cap, i, hh, c0, c1, c2, f1, f2, hi, hlen, hby⟩ := h
  refine ⟨sl, len, cap, i, hh, cl (by omega) c0, cl (by omega) c1, cl (by omega) c2, (hb.frozen (p := ⟨n, 1, none⟩) (by dsimp only; omega)).trans f1, (hb.frozen (p := ⟨n, 2, none⟩) (by dsimp only; omega)).trans f2, hi, hlen, ?_⟩
  rcases hby with h0 | ⟨pb, po, h0, h1, h2⟩
  · exact Or.inl h0
  · refine Or.inr ⟨pb, po, h0, h1, fun j hj => ?_⟩
    obtain ⟨c, a1, a2, a3⟩ := h2 j hj
    exact ⟨c, a1, a2, cl (by omega) a3⟩
theorem Cur.alloc {n : Nat} {w : World} (h : Cur n w) (o : Obj) : Cur n (w.alloc o) := h.below ((Below.refl _ _).alloc h.lt o)
theorem Cur.set {n : Nat} {w : World} (h : Cur n w) {p : Addr} (hp : n < p.block) (u : Value) : Cur n (w.setCell p u) := h.below ((Below.refl _ _).setCell hp u)
theorem Cur.drew {n : Nat} {w : World} (h : Cur n w) : Cur n w.drew := h

set_option maxHeartbeats 1000000 in
theorem l1ValOf_any (n : Nat) (k : Int) (w : World) (hC : Cur n w) :
    Calls Tryd.prog 34 #[.pointer (some ⟨n, 0, none⟩), .int .i64 k] w fun e w' => ∃ (r : Int) (x y : Nat), e = .returned (.tuple #[.int .i64 r, .float .f64 x, .float .f64 y]) ∧ (-9223372036854775808 ≤ r ∧ r ≤ 9223372036854775807) ∧ x < 18446744073709551616 ∧ y < 18446744073709551616 ∧ Keep n w w' ∧ Cur n w' := by
  by_cases h1 : k = 1
  · subst h1
    go_enter Tryd.func34, Tryd.ntmps34
    go_wp2_with (go_at_call 42; refine (l1Whole_any n _ hC).mono ?_; rintro e w1 ⟨r, rfl, hr, hK, hC1⟩)
    go_ret3
    exact ⟨_, _, _, rfl, hr, by decide, by decide, hK, hC1⟩
  by_cases h2 : k = 2
  · subst h2
    go_enter Tryd.func34, Tryd.ntmps34
    go_wp2_with (go_at_call 43; refine (l1Float_any n _ hC).mono ?_; rintro e w1 ⟨x, rfl, lx, hK, hC1⟩)
    go_ret3
    exact ⟨_, _, _, rfl, by omega, lx, by decide, hK, hC1⟩
  by_cases h3 : k = 3
  · subst h3
    go_enter Tryd.func34, Tryd.ntmps34
    go_wp2_with fail
    refine (l1Float_any n _ hC).mono ?_
    rintro e w1 ⟨x, rfl, lx, hK, hC1⟩
    go_wp2_with fail
    refine (l1Float_any n _ hC1).mono ?_
    rintro e w2 ⟨y, rfl, ly, hK2, hC2⟩
    go_wp2_with fail
    go_ret3
    exact ⟨_, _, _, rfl, by omega, lx, ly, hK.trans hK2, hC2⟩
  have g1 : (k == 1) = false := beq_eq_false_iff_ne.2 h1
  have g2 : (k == 2) = false := beq_eq_false_iff_ne.2 h2
  have g3 : (k == 3) = false := beq_eq_false_iff_ne.2 h3
  go_enter Tryd.func34, Tryd.ntmps34
  go_wp2_with (go_at_call 14; refine (l1Below_any n _ _ hC (by omega)).mono ?_; rintro e w1 ⟨r, rfl, r1, r2, hK, hC1⟩)
  go_ret3
  exact ⟨_, _, _, rfl, by omega, by decide, by decide, hK, hC1⟩

set_option maxHeartbeats 1000000 in
theorem l1Val_any (n : Nat) (k : Int) (w : World) (hC : Cur n w) :
    Calls Tryd.prog 18 #[.pointer (some ⟨n, 0, none⟩), .int .i64 k] w fun e w' => ∃ (i : Int) (x y : Nat), e = .returned (.agg #[.int .i64 k, .int .i64 i, .float .f64 x, .float .f64 y]) ∧ (-9223372036854775808 ≤ i ∧ i ≤ 9223372036854775807) ∧ x < 18446744073709551616 ∧ y < 18446744073709551616 ∧ Keep n w w' ∧ Cur n w' := by
  have hl := hC.lt
  have hne : ¬ w.heap.size = n := by omega
  go_enter Tryd.func18, Tryd.ntmps18
  go_wp2_with fail
  refine (l1ValOf_any n k _ (hC.alloc _)).mono ?_
  rintro e w1 ⟨i, x, y, rfl, hi, lx, ly, hK, hC1⟩
  obtain ⟨hc, hf⟩ := kcell hK
  go_wp2_with fail
  refine bodyPost_ret (v := .agg #[.int .i64 k, .int .i64 i, .float .f64 x, .float .f64 y]) (by simp [results, Tryd.results18, go_sem, hc, hne]) rfl ⟨i, x, y, rfl, hi, lx, ly, ?_, ?_⟩
  · exact (((((((Keep.refl n w).alloc (by omega) _).trans hK).setNew (Nat.le_refl _) (by dsimp only; omega) _).setNew (Nat.le_refl _) (by dsimp only; omega) _).setNew (Nat.le_refl _) (by dsimp only; omega) _).setNew (Nat.le_refl _) (by dsimp only; omega) _)
  · exact (((hC1.set (by dsimp only; omega) _).set (by dsimp only; omega) _).set (by dsimp only; omega) _).set (by dsimp only; omega) _

/-- a box with noughts. -/
def Zb (m : Nat) (W : World) : Prop := W.cell? ⟨m, 0, none⟩ = some (.int .i64 0) ∧ W.cell? ⟨m, 1, none⟩ = some (.int .i64 0) ∧ W.cell? ⟨m, 2, none⟩ = some (.float .f64 0) ∧ W.cell? ⟨m, 3, none⟩ = some (.float .f64 0)
theorem Zb.new (w : World) (t : TypeId) : Zb w.heap.size (w.alloc (.cells #[.int .i64 0, .int .i64 0, .float .f64 0, .float .f64 0] t)) := by
  refine ⟨?_, ?_, ?_, ?_⟩ <;> simp
theorem Zb.keep {m n : Nat} {W w1 : World} (h : Zb m W) (hK : Keep n W w1) (hm : ¬ m = n) : Zb m w1 := ⟨hK.cell hm h.1, hK.cell hm h.2.1, hK.cell hm h.2.2.1, hK.cell hm h.2.2.2⟩
theorem Zb.alloc {m : Nat} {W : World} (h : Zb m W) (o : Obj) : Zb m (W.alloc o) :=
  ⟨cell_later (bl_alloc (Below.refl _ W) o) h.1, cell_later (bl_alloc (Below.refl _ W) o) h.2.1, cell_later (bl_alloc (Below.refl _ W) o) h.2.2.1, cell_later (bl_alloc (Below.refl _ W) o) h.2.2.2⟩

set_option maxHeartbeats 2000000 in
theorem l1Any_any (n : Nat) (w : World) (hC : Cur n w) :
    Calls Tryd.prog 17 #[.pointer (some ⟨n, 0, none⟩)] w fun e w' => ∃ (k i : Int) (x y : Nat), e = .returned (.agg #[.int .i64 k, .int .i64 i, .float .f64 x, .float .f64 y]) ∧ (-9223372036854775808 ≤ k ∧ k ≤ 9223372036854775807) ∧ (-9223372036854775808 ≤ i ∧ i ≤ 9223372036854775807) ∧ x < 18446744073709551616 ∧ y < 18446744073709551616 ∧ Keep n w w' ∧ Cur n w' := by
  have hl := hC.lt
  have hne : ¬ w.heap.size = n := by omega
  have hm := fun t x y w => run_float_any (P := Tryd.prog) .mul rfl t x y w
  have hn := run_neg
  go_enter Tryd.func17, Tryd.ntmps17
  go_wp2_with fail
  refine (l1Below_any n _ _ (hC.alloc _) (by omega)).mono ?_
  rintro e w1 ⟨r, rfl, r1, r2, hK1, hC1⟩
  obtain ⟨hc1, hf1⟩ := kcell hK1
  have z1 : w.heap.size < w1.heap.size := by have := hK1.1.size; simp at this; omega
  go_wp2_with fail
  refine (l1Val_any n _ _ hC1).mono ?_
  rintro e w2 ⟨i, x, y, rfl, hi, lx, ly, hK2, hC2⟩
  obtain ⟨hc2, hf2⟩ := kcell hK2
  have z2 : w.heap.size < w2.heap.size := by have := hK2.1.size; omega
  have hl2 := hC2.lt
  have hne2 : ¬ w2.heap.size = n := by omega
  go_wp2_with fail
  refine (l1Once_any n _ _ (hC2.alloc _) (by omega)).mono ?_
  rintro e w3 ⟨b, rfl, hK3, hC3⟩
  obtain ⟨hc3, hf3⟩ := kcell hK3
  have z3 : w.heap.size < w3.heap.size := by have := hK3.1.size; simp at this; omega
  have y3 : w2.heap.size < w3.heap.size := by have := hK3.1.size; simp at this; omega
  have Z3 := (((((Zb.new w 26).keep hK1 hne).keep hK2 hne).alloc _).keep hK3 hne)
  cases b
  · obtain ⟨q0, q1, q2, q3⟩ := Z3
    go_wp2_with fail
    refine bodyPost_ret (v := .agg #[.int .i64 (1 + r), .int .i64 i, .float .f64 x, .float .f64 y]) (by simp [results, Tryd.results17, go_sem, q0, q1, q2, q3]) rfl ⟨1 + r, i, x, y, rfl, by omega, hi, lx, ly, ?_, ?_⟩
    · exact (((((((((Keep.refl n w).alloc (by omega) _).trans hK1).trans hK2).alloc (by omega) _).trans hK3).setNew (Nat.le_refl _) (by dsimp only; omega) _).setNew (Nat.le_refl _) (by dsimp only; omega) _).setNew (Nat.le_refl _) (by dsimp only; omega) _).setNew (Nat.le_refl _) (by dsimp only; omega) _
    · exact (((hC3.set (by dsimp only; omega) _).set (by dsimp only; omega) _).set (by dsimp only; omega) _).set (by dsimp only; omega) _
  · go_wp2_with fail
    refine (l1Below_any n _ _ hC3 (by omega)).mono ?_
    rintro e w4 ⟨s, rfl, s1, s2, hK4, hC4⟩
    obtain ⟨hc4, hf4⟩ := kcell hK4
    have z4 : w.heap.size < w4.heap.size := by have := hK4.1.size; omega
    have y4 : w2.heap.size < w4.heap.size := by have := hK4.1.size; omega
    have Z4 := Z3.keep hK4 hne
    go_wp2_with (go_at_call 14; refine (l1Below_any n _ _ hC4 (by omega)).mono ?_; rintro e w5 ⟨u, rfl, u1, u2, hK5, hC5⟩; obtain ⟨hc5, hf5⟩ := kcell hK5)
    · obtain ⟨q0, q1, q2, q3⟩ := Z4.keep hK5 hne
      refine bodyPost_ret (v := .agg #[.int .i64 (u - 2), .int .i64 i, .float .f64 x, .float .f64 y]) (by simp [results, Tryd.results17, go_sem, q0, q1, q2, q3]) rfl ⟨u - 2, i, x, y, rfl, by omega, hi, lx, ly, ?_, ?_⟩
      · exact ((((((((((((Keep.refl n w).alloc (by omega) _).trans hK1).trans hK2).alloc (by omega) _).trans hK3).trans hK4).trans hK5).setNew (by dsimp only; omega) (by dsimp only; omega) _).setNew (Nat.le_refl _) (by dsimp only; omega) _).setNew (Nat.le_refl _) (by dsimp only; omega) _).setNew (Nat.le_refl _) (by dsimp only; omega) _).setNew (Nat.le_refl _) (by dsimp only; omega) _
      · exact ((((hC5.set (by dsimp only; omega) _).set (by dsimp only; omega) _).set (by dsimp only; omega) _).set (by dsimp only; omega) _).set (by dsimp only; omega) _
    · obtain ⟨q0, q1, q2, q3⟩ := Z4.keep hK5 hne
      refine bodyPost_ret (v := .agg #[.int .i64 (1 + r), .int .i64 (u - 1), .float .f64 x, .float .f64 y]) (by simp [results, Tryd.results17, go_sem, q0, q1, q2, q3]) rfl ⟨1 + r, u - 1, x, y, rfl, by omega, by omega, lx, ly, ?_, ?_⟩
      · exact ((((((((((((Keep.refl n w).alloc (by omega) _).trans hK1).trans hK2).alloc (by omega) _).trans hK3).trans hK4).trans hK5).setNew (by dsimp only; omega) (by dsimp only; omega) _).setNew (Nat.le_refl _) (by dsimp only; omega) _).setNew (Nat.le_refl _) (by dsimp only; omega) _).setNew (Nat.le_refl _) (by dsimp only; omega) _).setNew (Nat.le_refl _) (by dsimp only; omega) _
      · exact ((((hC5.set (by dsimp only; omega) _).set (by dsimp only; omega) _).set (by dsimp only; omega) _).set (by dsimp only; omega) _).set (by dsimp only; omega) _
    · obtain ⟨q0, q1, q2, q3⟩ := Z4.keep hK5 hne
      refine bodyPost_ret (v := .agg #[.int .i64 (1 + r), .int .i64 i, .float .f64 x, .float .f64 (negF (fres .mul 4602678819172646912 (floatOfInt .f64 u) w5))]) (by simp [results, Tryd.results17, go_sem, q0, q1, q2, q3]) rfl ⟨1 + r, i, x, _, rfl, by omega, hi, lx, negF_lt (fres_lt _ _ _ _), ?_, ?_⟩
      · exact (((((((((((((Keep.refl n w).alloc (by omega) _).trans hK1).trans hK2).alloc (by omega) _).trans hK3).trans hK4).trans hK5).drewN _).setNew (by dsimp only; omega) (by dsimp only; omega) _).setNew (Nat.le_refl _) (by dsimp only; omega) _).setNew (Nat.le_refl _) (by dsimp only; omega) _).setNew (Nat.le_refl _) (by dsimp only; omega) _).setNew (Nat.le_refl _) (by dsimp only; omega) _
      · exact (((((hC5.drewN _).set (by dsimp only; omega) _).set (by dsimp only; omega) _).set (by dsimp only; omega) _).set (by dsimp only; omega) _).set (by dsimp only; omega) _
    · obtain ⟨q0, q1, q2, q3⟩ := Z4
      refine bodyPost_ret (v := .agg #[.int .i64 (1 + r), .int .i64 i, .float .f64 4607182418800017408, .float .f64 y]) (by simp [results, Tryd.results17, go_sem, q0, q1, q2, q3]) rfl ⟨1 + r, i, _, y, rfl, by omega, hi, by decide, ly, ?_, ?_⟩
      · exact (((((((((((Keep.refl n w).alloc (by omega) _).trans hK1).trans hK2).alloc (by omega) _).trans hK3).trans hK4).setNew (by dsimp only; omega) (by dsimp only; omega) _).setNew (Nat.le_refl _) (by dsimp only; omega) _).setNew (Nat.le_refl _) (by dsimp only; omega) _).setNew (Nat.le_refl _) (by dsimp only; omega) _).setNew (Nat.le_refl _) (by dsimp only; omega) _
      · exact ((((hC4.set (by dsimp only; omega) _).set (by dsimp only; omega) _).set (by dsimp only; omega) _).set (by dsimp only; omega) _).set (by dsimp only; omega) _
end Go.Proofs.YtmhiddepddgfgaaDoor
