import Derived.Test.YtijgkpkakkjkgaaWta
namespace Go.Proofs.Ytijgkpkakkjkgaa
open Go.RowKit
set_option linter.unusedVariables false

theorem implOpC_any (O : V × Int) (c op k i : Int) (x y : Nat) (l j : Int) (u v : Nat) (w : World) (hO : opOut op k i x y l j u v = O) (hc : O.2 = c) :
    Calls Try.prog 22 #[.int .i64 op, .agg #[.int .i64 k, .int .i64 i, .float .f64 x, .float .f64 y], .agg #[.int .i64 l, .int .i64 j, .float .f64 u, .float .f64 v]] w fun e w' => ∃ (k' i' : Int) (x' y' : Nat), e = .returned (.tuple #[.agg #[.int .i64 k', .int .i64 i', .float .f64 x', .float .f64 y'], .int .i64 c]) ∧ VIs O.1 k' i' x' y' ∧ Below w.heap.size w w' := by
  subst hO hc
  exact implOp_any op k i x y l j u v w

theorem specOpC_any (O : V × Int) (c op k i : Int) (x y : Nat) (l j : Int) (u v : Nat) (w : World) (lx : x < 18446744073709551616) (ly : y < 18446744073709551616) (lu : u < 18446744073709551616) (lv : v < 18446744073709551616) (hi : -9223372036854775808 ≤ i ∧ i ≤ 9223372036854775807) (hO : opOut op k i x y l j u v = O) (hc : O.2 = c) :
    Calls Try.prog 23 #[.int .i64 op, .agg #[.int .i64 k, .int .i64 i, .float .f64 x, .float .f64 y], .agg #[.int .i64 l, .int .i64 j, .float .f64 u, .float .f64 v]] w fun e w' => ∃ (k' i' : Int) (x' y' : Nat), e = .returned (.tuple #[.agg #[.int .i64 k', .int .i64 i', .float .f64 x', .float .f64 y'], .int .i64 c]) ∧ VIs O.1 k' i' x' y' ∧ Below w.heap.size w w' := by
  subst hO hc
  exact specOp_any op k i x y l j u v w lx ly lu lv hi

theorem bcell2 {W w1 : World} (hb : Below W.heap.size W w1) : (∀ b o, (W.cell? ⟨b, o, none⟩).isSome = true → w1.cell? ⟨b, o, none⟩ = W.cell? ⟨b, o, none⟩) ∧ (∀ b o, (W.cell? ⟨b, o, none⟩).isSome = true → w1.frozen? ⟨b, o, none⟩ = W.frozen? ⟨b, o, none⟩) := by
  refine ⟨fun b o h => ?_, fun b o h => ?_⟩
  · obtain ⟨v, hv⟩ := Option.isSome_iff_exists.1 h
    exact hb.cell (p := ⟨b, o, none⟩) (World.block_lt_of_cell? _ _ hv)
  · obtain ⟨v, hv⟩ := Option.isSome_iff_exists.1 h
    exact hb.frozen (p := ⟨b, o, none⟩) (World.block_lt_of_cell? _ _ hv)
theorem alloc_old (W : World) (ob : Obj) (b o : Nat) (h : (W.cell? ⟨b, o, none⟩).isSome = true) : (W.alloc ob).cell? ⟨b, o, none⟩ = W.cell? ⟨b, o, none⟩ :=
  (bcell2 (bl_alloc (Below.refl _ W) ob)).1 b o h
theorem alloc_oldf (W : World) (ob : Obj) (b o : Nat) (h : (W.cell? ⟨b, o, none⟩).isSome = true) : (W.alloc ob).frozen? ⟨b, o, none⟩ = W.frozen? ⟨b, o, none⟩ :=
  (bcell2 (bl_alloc (Below.refl _ W) ob)).2 b o h
theorem Bx.later {m : Nat} {W w1 : World} {k i : Int} {x y : Nat} (h : Bx m W k i x y) (hb : Below W.heap.size W w1) : Bx m w1 k i x y := ⟨cell_later hb h.1, cell_later hb h.2.1, cell_later hb h.2.2.1, cell_later hb h.2.2.2⟩

theorem specSameT_any (k i : Int) (x y : Nat) (l j : Int) (u v : Nat) (w : World) (lx : x < 18446744073709551616) (ly : y < 18446744073709551616) (lu : u < 18446744073709551616) (lv : v < 18446744073709551616) (h : eqB k i x y l j u v = true) :
    Calls Try.prog 24 #[.agg #[.int .i64 k, .int .i64 i, .float .f64 x, .float .f64 y], .agg #[.int .i64 l, .int .i64 j, .float .f64 u, .float .f64 v]] w fun e w' => e = .returned (.bool true) ∧ Below w.heap.size w w' := by
  refine (specSame_any k i x y l j u v w lx ly lu lv).mono ?_
  rintro e w' ⟨rfl, rfl⟩
  rw [h]
  refine ⟨rfl, ?_⟩
  (repeat (first | with_reducible exact Below.refl _ _ | with_reducible refine bl_alloc ?_ _ | with_reducible refine bl_drewN ?_ _ | with_reducible refine bl_drew ?_ | with_reducible refine bl_setCell ?_ (by first | exact Nat.le_refl _ | (dsimp only; omega) | (simp <;> omega)) _ | with_reducible refine bl_trans ?_ (by with_reducible assumption)))

theorem implOkT_any (k i : Int) (x y : Nat) (w : World) (h : okB k i x y = true) :
    Calls Try.prog 25 #[.agg #[.int .i64 k, .int .i64 i, .float .f64 x, .float .f64 y]] w fun e w' => e = .returned (.bool true) ∧ Below w.heap.size w w' := by
  refine (implOk_any k i x y w).mono ?_
  rintro e w' ⟨rfl, rfl⟩
  rw [h]
  refine ⟨rfl, ?_⟩
  (repeat (first | with_reducible exact Below.refl _ _ | with_reducible refine bl_alloc ?_ _ | with_reducible refine bl_drewN ?_ _ | with_reducible refine bl_drew ?_ | with_reducible refine bl_setCell ?_ (by first | exact Nat.le_refl _ | (dsimp only; omega) | (simp <;> omega)) _ | with_reducible refine bl_trans ?_ (by with_reducible assumption)))

set_option maxHeartbeats 4000000 in
theorem turnabout_any (sl : Option Addr) (len cap : Nat) (w : World) (hC : Code w sl len) :
    Calls Try.prog 5 #[.slice sl len cap] w fun e w' => e = .returned (.bool true) ∧ Below w.heap.size w w' := by
  have hal := alloc_old
  have haf := alloc_oldf
  by_cases hl : len ≤ 1048576
  · have hb : decide (1048576 < (len : Int)) = false := by simp; omega
    go_enter Try.func5, Try.ntmps5
    go_wp2_with fail
    refine (big_any sl len cap _).mono ?_
    rintro e w0 ⟨rfl, hw0⟩
    subst hw0
    rw [hb]
    go_wp2_with fail
    refine (drawOp_any sl len cap _ hl hC).mono ?_
    rintro e w1 ⟨op, k, i, x, y, l, j, u, v, rfl, hi, hj, lx, ly, lu, lv, hb1⟩
    obtain ⟨O, hO⟩ : ∃ O, Hid (opOut op k i x y l j u v = O) := ⟨_, rfl⟩
    obtain ⟨c, hc⟩ : ∃ c, Hid (O.2 = c) := ⟨_, rfl⟩
    have hfine : Hid (c = 0 → Fine O.1) := fun h => by have := opOut_fine op k i x y l j u v; rw [hO.out] at this; exact this (by rw [hc.out, h])
    have hcomm : Hid (op = 1 ∨ op = 3 ∨ op = 7 ∨ op = 8 ∨ op = 9 → opOut op l j u v k i x y = O) := fun h => by rw [← hO.out]; exact (opOut_comm op k i x y l j u v lx ly lu lv h).symm
    have hbi : Hid (-9223372036854775808 ≤ i ∧ i ≤ 9223372036854775807) := hi
    clear hi hj
    go_wp2_with fail
    refine (implOpC_any O c op k i x y l j u v _ hO.out hc.out).mono ?_
    rintro e w2 ⟨k2, i2, x2, y2, rfl, hv2, hb2⟩
    have hT := two_later hb2 (two_new w1 k i x y l j u v 43)
    obtain ⟨a0, a1, a2, a3, b0, b1, b2, b3⟩ := hT
    have hX := Bx.new w2 k2 i2 x2 y2 43
    go_wp2_with fail
    obtain ⟨O', hO'⟩ : ∃ O, Hid (opOut op l j u v k i x y = O) := ⟨_, rfl⟩
    obtain ⟨c', hc'⟩ : ∃ c, Hid (O'.2 = c) := ⟨_, rfl⟩
    refine (implOpC_any O' c' op l j u v k i x y _ hO'.out hc'.out).mono ?_
    rintro e w3 ⟨k3, i3, x3, y3, rfl, hv3, hb3⟩
    obtain ⟨c0, c1, c2, c3, d0, d1, d2, d3⟩ : Two w1.heap.size w3 k i x y l j u v := two_later (show Below _ w2 w3 by (repeat (first | with_reducible exact Below.refl _ _ | with_reducible refine bl_alloc ?_ _ | with_reducible refine bl_drewN ?_ _ | with_reducible refine bl_drew ?_ | with_reducible refine bl_setCell ?_ (by first | exact Nat.le_refl _ | (dsimp only; omega) | (simp <;> omega)) _ | with_reducible refine bl_trans ?_ (by with_reducible assumption)))) ⟨a0, a1, a2, a3, b0, b1, b2, b3⟩
    have hX3 := hX.later (show Below _ _ w3 by (repeat (first | with_reducible exact Below.refl _ _ | with_reducible refine bl_alloc ?_ _ | with_reducible refine bl_drewN ?_ _ | with_reducible refine bl_drew ?_ | with_reducible refine bl_setCell ?_ (by first | exact Nat.le_refl _ | (dsimp only; omega) | (simp <;> omega)) _ | with_reducible refine bl_trans ?_ (by with_reducible assumption))))
    obtain ⟨p0, p1, p2, p3⟩ := hX3
    have hY := Bx.new w3 k3 i3 x3 y3 43
    go_wp2_with fail
    refine (specOpC_any O c op k i x y l j u v _ lx ly lu lv hbi.out hO.out hc.out).mono ?_
    rintro e w4 ⟨k4, i4, x4, y4, rfl, hv4, hb4⟩
    have hT4 : Two w1.heap.size w4 k i x y l j u v := two_later (show Below _ w3 w4 by (repeat (first | with_reducible exact Below.refl _ _ | with_reducible refine bl_alloc ?_ _ | with_reducible refine bl_drewN ?_ _ | with_reducible refine bl_drew ?_ | with_reducible refine bl_setCell ?_ (by first | exact Nat.le_refl _ | (dsimp only; omega) | (simp <;> omega)) _ | with_reducible refine bl_trans ?_ (by with_reducible assumption)))) ⟨c0, c1, c2, c3, d0, d1, d2, d3⟩
    obtain ⟨q0, q1, q2, q3⟩ := (show Bx w2.heap.size w3 k2 i2 x2 y2 from ⟨p0, p1, p2, p3⟩).later (show Below _ w3 w4 by (repeat (first | with_reducible exact Below.refl _ _ | with_reducible refine bl_alloc ?_ _ | with_reducible refine bl_drewN ?_ _ | with_reducible refine bl_drew ?_ | with_reducible refine bl_setCell ?_ (by first | exact Nat.le_refl _ | (dsimp only; omega) | (simp <;> omega)) _ | with_reducible refine bl_trans ?_ (by with_reducible assumption))))
    obtain ⟨r0, r1, r2, r3⟩ := hY.later (show Below _ _ w4 by (repeat (first | with_reducible exact Below.refl _ _ | with_reducible refine bl_alloc ?_ _ | with_reducible refine bl_drewN ?_ _ | with_reducible refine bl_drew ?_ | with_reducible refine bl_setCell ?_ (by first | exact Nat.le_refl _ | (dsimp only; omega) | (simp <;> omega)) _ | with_reducible refine bl_trans ?_ (by with_reducible assumption))))
    have hZ := Bx.new w4 k4 i4 x4 y4 43
    have E1 : eqB k2 i2 x2 y2 k4 i4 x4 y4 = true := vis_same hv2 hv4
    have E2 : Hid (O' = O → eqB k2 i2 x2 y2 k3 i3 x3 y3 = true) := fun h => by rw [h] at hv3; exact vis_same hv2 hv3
    have E3 : Hid (c = 0 → okB k2 i2 x2 y2 = true) := fun h => (hfine.out h).ok hv2
    have bx2 := hv2.2.2.1.1
    have by2 := hv2.2.2.2.1
    have bx3 := hv3.2.2.1.1
    have by3 := hv3.2.2.2.1
    have bx4 := hv4.2.2.1.1
    have by4 := hv4.2.2.2.1
    clear hv2 hv3 hv4 hfine hbi
    have hBX : Hid (Bx w2.heap.size w4 k2 i2 x2 y2) := ⟨q0, q1, q2, q3⟩
    have hBY : Hid (Bx w3.heap.size w4 k3 i3 x3 y3) := ⟨r0, r1, r2, r3⟩
    have hl4 : Below w0.heap.size w0 w4 := by (repeat (first | with_reducible exact Below.refl _ _ | with_reducible refine bl_alloc ?_ _ | with_reducible refine bl_drewN ?_ _ | with_reducible refine bl_drew ?_ | with_reducible refine bl_setCell ?_ (by first | exact Nat.le_refl _ | (dsimp only; omega) | (simp <;> omega)) _ | with_reducible refine bl_trans ?_ (by with_reducible assumption)))
    clear hb1 hb2 hb3 hb4 a0 a1 a2 a3 b0 b1 b2 b3 c0 c1 c2 c3 d0 d1 d2 d3 p0 p1 p2 p3 hX hY hT4
    go_wp2_with fail
    refine (specSameT_any k2 i2 x2 y2 k4 i4 x4 y4 _ bx2 by2 bx4 by4 E1).mono ?_
    rintro e w5 ⟨rfl, hb5⟩
    have l45 : Below w4.heap.size w4 w5 := bl_trans (bl_alloc (Below.refl _ w4) _) hb5
    have hl5 : Below w0.heap.size w0 w5 := bl_trans hl4 l45
    clear q0 q1 q2 q3 r0 r1 r2 r3 hb5 hZ
    obtain ⟨q0, q1, q2, q3⟩ := hBX.out.later l45
    obtain ⟨r0, r1, r2, r3⟩ := hBY.out.later l45
    by_cases h0 : c = 0
    · have E4 : Hid (okB k2 i2 x2 y2 = true) := E3.out h0
      have g0 : (c == 0) = true := beq_iff_eq.2 h0
      clear h0
      go_wp2_with fail
      refine (implOkT_any k2 i2 x2 y2 _ E4.out).mono ?_
      rintro e w6 ⟨rfl, hb6⟩
      have hl6 : Below w0.heap.size w0 w6 := by (repeat (first | with_reducible exact Below.refl _ _ | with_reducible refine bl_alloc ?_ _ | with_reducible refine bl_drewN ?_ _ | with_reducible refine bl_drew ?_ | with_reducible refine bl_setCell ?_ (by first | exact Nat.le_refl _ | (dsimp only; omega) | (simp <;> omega)) _ | with_reducible refine bl_trans ?_ (by with_reducible assumption)))
      clear q0 q1 q2 q3 r0 r1 r2 r3
      obtain ⟨q0, q1, q2, q3⟩ := hBX.out.later (l45.trans (hb6.mono l45.size))
      obtain ⟨r0, r1, r2, r3⟩ := hBY.out.later (l45.trans (hb6.mono l45.size))
      clear hb6
      by_cases hop : op = 1 ∨ op = 3 ∨ op = 7 ∨ op = 8 ∨ op = 9
      · have eO : O' = O := by rw [← hO'.out]; exact hcomm.out hop
        have ec : c' = c := by rw [← hc'.out, eO, hc.out]
        have E5 := E2.out eO
        subst ec
        clear E2 eO hO hO' hcomm hc hc'
        rcases hop with rfl | rfl | rfl | rfl | rfl
        all_goals
          go_wp2_with fail
          refine (specSameT_any k2 i2 x2 y2 k3 i3 x3 y3 _ bx2 by2 bx3 by3 E5).mono ?_
          rintro e w7 ⟨rfl, hb7⟩
          go_wp2_with fail
          go_ret
          refine ⟨rfl, ?_⟩
          (repeat (first | with_reducible exact Below.refl _ _ | with_reducible refine bl_alloc ?_ _ | with_reducible refine bl_drewN ?_ _ | with_reducible refine bl_drew ?_ | with_reducible refine bl_setCell ?_ (by first | exact Nat.le_refl _ | (dsimp only; omega) | (simp <;> omega)) _ | with_reducible refine bl_trans ?_ (by with_reducible assumption)))
      · have o1 : (op == 1) = false := by simp; omega
        have o3 : (op == 3) = false := by simp; omega
        have o7 : (op == 7) = false := by simp; omega
        have o8 : (op == 8) = false := by simp; omega
        have o9 : (op == 9) = false := by simp; omega
        clear hop
        go_wp2_with fail
        go_ret
        refine ⟨rfl, ?_⟩
        (repeat (first | with_reducible exact Below.refl _ _ | with_reducible refine bl_alloc ?_ _ | with_reducible refine bl_drewN ?_ _ | with_reducible refine bl_drew ?_ | with_reducible refine bl_setCell ?_ (by first | exact Nat.le_refl _ | (dsimp only; omega) | (simp <;> omega)) _ | with_reducible refine bl_trans ?_ (by with_reducible assumption)))
    · have g0 : (c == 0) = false := beq_eq_false_iff_ne.2 h0
      clear h0
      by_cases hop : op = 1 ∨ op = 3 ∨ op = 7 ∨ op = 8 ∨ op = 9
      · have eO : O' = O := by rw [← hO'.out]; exact hcomm.out hop
        have ec : c' = c := by rw [← hc'.out, eO, hc.out]
        have E5 := E2.out eO
        subst ec
        clear E2 eO hO hO' hcomm hc hc'
        rcases hop with rfl | rfl | rfl | rfl | rfl
        all_goals
          go_wp2_with fail
          refine (specSameT_any k2 i2 x2 y2 k3 i3 x3 y3 _ bx2 by2 bx3 by3 E5).mono ?_
          rintro e w7 ⟨rfl, hb7⟩
          go_wp2_with fail
          go_ret
          refine ⟨rfl, ?_⟩
          (repeat (first | with_reducible exact Below.refl _ _ | with_reducible refine bl_alloc ?_ _ | with_reducible refine bl_drewN ?_ _ | with_reducible refine bl_drew ?_ | with_reducible refine bl_setCell ?_ (by first | exact Nat.le_refl _ | (dsimp only; omega) | (simp <;> omega)) _ | with_reducible refine bl_trans ?_ (by with_reducible assumption)))
      · have o1 : (op == 1) = false := by simp; omega
        have o3 : (op == 3) = false := by simp; omega
        have o7 : (op == 7) = false := by simp; omega
        have o8 : (op == 8) = false := by simp; omega
        have o9 : (op == 9) = false := by simp; omega
        clear hop
        go_wp2_with fail
        go_ret
        refine ⟨rfl, ?_⟩
        (repeat (first | with_reducible exact Below.refl _ _ | with_reducible refine bl_alloc ?_ _ | with_reducible refine bl_drewN ?_ _ | with_reducible refine bl_drew ?_ | with_reducible refine bl_setCell ?_ (by first | exact Nat.le_refl _ | (dsimp only; omega) | (simp <;> omega)) _ | with_reducible refine bl_trans ?_ (by with_reducible assumption)))
  · have hb : decide (1048576 < (len : Int)) = true := by simp; omega
    go_enter Try.func5, Try.ntmps5
    go_wp2_with fail
    refine (big_any sl len cap _).mono ?_
    rintro e w' ⟨rfl, rfl⟩
    rw [hb]
    go_wp2_with fail
    go_ret
    exact ⟨rfl, Below.refl _ _⟩
end Go.Proofs.Ytijgkpkakkjkgaa
