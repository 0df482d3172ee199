import Derived.Test.YtijgkpkakkjkgaaWuc
namespace Go.Proofs.Ytijgkpkakkjkgaa
open Go.RowKit
set_option linter.unusedVariables false

theorem neq_self' {x : Nat} (h : nanB x = false) : (FloatKind.f64.format.order x x != some Ordering.eq) = false := by
  rw [bne, eq_self' h]; rfl

/-- one turn on. -/
theorem turn_on {x y k : Nat} (hx : xOk x = true) (hy : yOk y = true) (hk : k < 4) : Step (PA x y k) (PB x y k) (PA x y (k + 1)) (PB x y (k + 1)) := by
  obtain ⟨h0, h1, h2, h3⟩ := steps hx hy
  match k, hk with
  | 0, _ => exact h0
  | 1, _ => exact h1
  | 2, _ => exact h2
  | 3, _ => exact h3
theorem size_on {x y t k : Nat} (h0 : sizeF x y = some t) (h1 : sizeF (negF y) x = some t) (h2 : sizeF (negF x) (negF y) = some t) (h3 : sizeF y (negF x) = some t) (hk : k < 4) : sizeF (PA x y (k + 1)) (PB x y (k + 1)) = some t := by
  match k, hk with
  | 0, _ => exact h1
  | 1, _ => exact h2
  | 2, _ => exact h3
  | 3, _ => exact h0
theorem lt_on {x y k : Nat} (lx : x < 18446744073709551616) (ly : y < 18446744073709551616) (hk : k < 4) : PA x y (k + 1) < 18446744073709551616 ∧ PB x y (k + 1) < 18446744073709551616 := by
  match k, hk with
  | 0, _ => exact ⟨negF_lt ly, lx⟩
  | 1, _ => exact ⟨negF_lt lx, negF_lt ly⟩
  | 2, _ => exact ⟨ly, negF_lt lx⟩
  | 3, _ => exact ⟨lx, ly⟩

set_option maxRecDepth 100000 in
set_option maxHeartbeats 8000000 in
theorem turns_any (sl : Option Addr) (len cap : Nat) (w : World) (hC : Code w sl len) :
    Calls Try.prog 6 #[.slice sl len cap] w fun e w' => e = .returned (.bool true) ∧ Below w.heap.size w w' := by
  have hal := alloc_old
  have haf := alloc_oldf
  have hn := run_neg
  by_cases hl : len ≤ 1048576
  · have hb : decide (1048576 < (len : Int)) = false := by simp; omega
    go_enter Try.func6, Try.ntmps6
    go_wp2_with fail
    refine (big_any sl len cap _).mono ?_
    rintro e w0 ⟨rfl, hw0⟩
    subst hw0
    rw [hb]
    go_wp2_with fail
    refine (at_any sl len cap 0 _ (by omega) hl hC).mono ?_
    rintro e w1 ⟨r, rfl, r1, r2, hw1⟩
    subst hw1
    go_wp2_with fail
    refine (at_any sl len cap 1 _ (by omega) hl hC).mono ?_
    rintro e w2 ⟨s, rfl, s1, s2, hw2⟩
    subst hw2
    have hx0 := x_ok r1 r2
    have hy0 := y_ok s1 s2
    obtain ⟨x, hx⟩ : ∃ x, floatOfInt FloatKind.f64 (r - 100) = x := ⟨_, rfl⟩
    obtain ⟨y, hy⟩ : ∃ y, floatOfInt FloatKind.f64 (s + 1) = y := ⟨_, rfl⟩
    have lx : x < 18446744073709551616 := by rw [← hx]; exact ofInt_lt _
    have ly : y < 18446744073709551616 := by rw [← hy]; exact ofInt_lt _
    rw [hx] at hx0
    rw [hy] at hy0
    obtain ⟨t, ht, q0, q1, q2, q3, nx, ny, nny⟩ := sizes hx0 hy0
    have HX : Hid (xOk x = true) := hx0
    have HY : Hid (yOk y = true) := hy0
    have HT : Hid (nanB t = false) := ht
    have Q0 : Hid (sizeF x y = some t) := q0
    have QS : Hid (∀ k, k < 4 → sizeF (PA x y (k + 1)) (PB x y (k + 1)) = some t) := fun k hk => size_on q0 q1 q2 q3 hk
    have NX : Hid (nanB x = false) := nx
    have NY : Hid (nanB y = false) := ny
    have e1 := neq_self' nx
    have e2 := neq_self' nny
    clear hx0 hy0 ht q0 q1 q2 q3 nx ny nny
    go_wp2_with fail
    go_loopw [6] (fun i wr => ∃ k A B : Nat, k ≤ 4 ∧ i = .int .i64 k ∧ Hid (A = PA x y k ∧ B = PB x y k) ∧ Blk wr w2.heap.size #[.int .i64 3, .int .i64 0, .float .f64 x, .float .f64 y] 43 ∧ Blk wr (w2.heap.size + 1) #[.int .i64 3, .int .i64 0, .float .f64 0, .float .f64 4607182418800017408] 43 ∧ Blk wr (w2.heap.size + 1 + 1) #[.int .i64 3, .int .i64 0, .float .f64 A, .float .f64 B] 43 ∧ Below w2.heap.size w2 wr) (fun i _ => 4 - (intOf i).toNat)
    case atStart =>
      refine ⟨0, x, y, by omega, rfl, ⟨rfl, rfl⟩, ?_, ?_, ?_, ?_⟩
      · exact ((Blk.new' _ _ _ rfl).alloc _).alloc _
      · exact (Blk.new' _ _ _ (by simp)).alloc _
      · exact Blk.new' _ _ _ (by simp)
      · (repeat (first | with_reducible exact Below.refl _ _ | with_reducible refine bl_alloc ?_ _ | with_reducible refine bl_drewN ?_ _ | with_reducible refine bl_drew ?_ | with_reducible refine bl_setCell ?_ (by first | exact Nat.le_refl _ | (dsimp only; omega) | (simp <;> omega)) _ | with_reducible refine bl_trans ?_ (by with_reducible assumption)))
    case round =>
      obtain ⟨k, A, B, hk, rfl, hAB, v0, t0, b0, hbel⟩ := hrel
      by_cases hk4 : k < 4
      · obtain ⟨hc1, hc2⟩ := lt_on (k := k) lx ly hk4
        have hst0 := turn_on (k := k) HX.out HY.out hk4
        have hsz0 := QS.out k hk4
        rw [← hAB.out.1, ← hAB.out.2] at hst0
        by_cases hk0 : k = 0
        · subst hk0
          have lC : negF y < 18446744073709551616 := hc1
          have lD : x < 18446744073709551616 := hc2
          have hst : Hid (Step A B (negF y) x) := hst0
          have hsz : Hid (sizeF (negF y) x = some t) := hsz0
          clear hst0 hsz0 hc1 hc2
          obtain ⟨v00, v01, v02, v03, v0f⟩ := v0.four
          obtain ⟨t00, t01, t02, t03, t0f⟩ := t0.four
          obtain ⟨b00, b01, b02, b03, b0f⟩ := b0.four
          go_wp2_with fail
          refine (mul_any _ _ (negF y) x _ hst.out).mono ?_
          rintro e w3 ⟨rfl, hb3⟩
          have n3 := Blk.new w3 #[.int .i64 3, .int .i64 0, .float .f64 (negF y), .float .f64 x] 43
          have v3 := (v0.later hb3).alloc (.cells #[.int .i64 3, .int .i64 0, .float .f64 (negF y), .float .f64 x] 43)
          have t3 := (t0.later hb3).alloc (.cells #[.int .i64 3, .int .i64 0, .float .f64 (negF y), .float .f64 x] 43)
          have b3 := (b0.later hb3).alloc (.cells #[.int .i64 3, .int .i64 0, .float .f64 (negF y), .float .f64 x] 43)
          have l3 := bl_alloc (bl_trans hbel hb3) (.cells #[.int .i64 3, .int .i64 0, .float .f64 (negF y), .float .f64 x] 43)
          clear v00 v01 v02 v03 v0f t00 t01 t02 t03 t0f b00 b01 b02 b03 b0f
          go_wp2_with fail
          refine (size_any (negF y) x t _ lC lD hsz.out).mono ?_
          rintro e w4 ⟨rfl, hb4⟩
          have a4 := Blk.new w4 #[.int .i64 2, .int .i64 0, .float .f64 t, .float .f64 0] 43
          have n4 := (n3.later hb4).alloc (.cells #[.int .i64 2, .int .i64 0, .float .f64 t, .float .f64 0] 43)
          have v4 := (v3.later hb4).alloc (.cells #[.int .i64 2, .int .i64 0, .float .f64 t, .float .f64 0] 43)
          have t4 := (t3.later hb4).alloc (.cells #[.int .i64 2, .int .i64 0, .float .f64 t, .float .f64 0] 43)
          have b4 := (b3.later hb4).alloc (.cells #[.int .i64 2, .int .i64 0, .float .f64 t, .float .f64 0] 43)
          have l4 := bl_alloc (bl_trans l3 hb4) (.cells #[.int .i64 2, .int .i64 0, .float .f64 t, .float .f64 0] 43)
          clear n3 v3 t3 b3 l3
          obtain ⟨v40, v41, v42, v43, v4f⟩ := (v0.later (show Below _ _ w4 by (repeat (first | with_reducible exact Below.refl _ _ | with_reducible refine bl_alloc ?_ _ | with_reducible refine bl_drewN ?_ _ | with_reducible refine bl_drew ?_ | with_reducible refine bl_setCell ?_ (by first | exact Nat.le_refl _ | (dsimp only; omega) | (simp <;> omega)) _ | with_reducible refine bl_trans ?_ (by with_reducible assumption))))).four
          go_wp2_with fail
          refine (ssize_any x y t _ lx ly Q0.out).mono ?_
          rintro e w5 ⟨rfl, hb5⟩
          have a5 := a4.later hb5
          have n5 := n4.later hb5
          have v5 := v4.later hb5
          have t5 := t4.later hb5
          have b5 := b4.later hb5
          have l5 := bl_trans l4 hb5
          clear v40 v41 v42 v43 v4f a4 n4 v4 t4 b4 l4
          obtain ⟨a50, a51, a52, a53, a5f⟩ := a5.four
          go_wp2_with fail
          refine (same2_any t _ HT.out).mono ?_
          rintro e w6 ⟨rfl, hb6⟩
          have m5 := bl_trans (bl_alloc (Below.refl _ w5) _) hb6
          have a6 := a5.later m5
          have n6 := n5.later m5
          have v6 := v5.later m5
          have t6 := t5.later m5
          have b6 := b5.later m5
          have l6 := bl_trans l5 m5
          clear a50 a51 a52 a53 a5f a5 n5 v5 t5 b5 l5
          obtain ⟨n60, n61, n62, n63, n6f⟩ := n6.four
          obtain ⟨v60, v61, v62, v63, v6f⟩ := v6.four
          obtain ⟨b60, b61, b62, b63, b6f⟩ := b6.four
          go_wp2_with fail
          go_roundw
          case rel =>
            refine ⟨1, negF y, x, by omega, by go_num, ⟨rfl, rfl⟩, ?_, ?_, ?_, ?_⟩
            · exact ((((v6.alloc _).other (by omega) _ _).other (by omega) _ _).other (by omega) _ _).other (by omega) _ _
            · exact ((((t6.alloc _).other (by omega) _ _).other (by omega) _ _).other (by omega) _ _).other (by omega) _ _
            · exact ((((b6.alloc _).set _ _).set _ _).set _ _).set _ _
            · (repeat (first | with_reducible exact Below.refl _ _ | with_reducible refine bl_alloc ?_ _ | with_reducible refine bl_drewN ?_ _ | with_reducible refine bl_drew ?_ | with_reducible refine bl_setCell ?_ (by first | exact Nat.le_refl _ | (dsimp only; omega) | (simp <;> omega)) _ | with_reducible refine bl_trans ?_ (by with_reducible assumption)))
          case measure => simp [intOf]
        · obtain ⟨C, hCe⟩ : ∃ C, Hid (C = PA x y (k + 1)) := ⟨_, rfl⟩
          obtain ⟨D, hDe⟩ : ∃ D, Hid (D = PB x y (k + 1)) := ⟨_, rfl⟩
          rw [← hCe.out] at hc1 hst0 hsz0
          rw [← hDe.out] at hc2 hst0 hsz0
          have lC := hc1
          have lD := hc2
          have hst : Hid (Step A B C D) := hst0
          have hsz : Hid (sizeF C D = some t) := hsz0
          have gk : ((k : Int) == 0) = false := by simp; omega
          clear hst0 hsz0 hc1 hc2
          obtain ⟨v00, v01, v02, v03, v0f⟩ := v0.four
          obtain ⟨t00, t01, t02, t03, t0f⟩ := t0.four
          obtain ⟨b00, b01, b02, b03, b0f⟩ := b0.four
          go_wp2_with fail
          refine (mul_any _ _ C D _ hst.out).mono ?_
          rintro e w3 ⟨rfl, hb3⟩
          have n3 := Blk.new w3 #[.int .i64 3, .int .i64 0, .float .f64 C, .float .f64 D] 43
          have v3 := (v0.later hb3).alloc (.cells #[.int .i64 3, .int .i64 0, .float .f64 C, .float .f64 D] 43)
          have t3 := (t0.later hb3).alloc (.cells #[.int .i64 3, .int .i64 0, .float .f64 C, .float .f64 D] 43)
          have b3 := (b0.later hb3).alloc (.cells #[.int .i64 3, .int .i64 0, .float .f64 C, .float .f64 D] 43)
          have l3 := bl_alloc (bl_trans hbel hb3) (.cells #[.int .i64 3, .int .i64 0, .float .f64 C, .float .f64 D] 43)
          clear v00 v01 v02 v03 v0f t00 t01 t02 t03 t0f b00 b01 b02 b03 b0f
          go_wp2_with fail
          refine (size_any C D t _ lC lD hsz.out).mono ?_
          rintro e w4 ⟨rfl, hb4⟩
          have a4 := Blk.new w4 #[.int .i64 2, .int .i64 0, .float .f64 t, .float .f64 0] 43
          have n4 := (n3.later hb4).alloc (.cells #[.int .i64 2, .int .i64 0, .float .f64 t, .float .f64 0] 43)
          have v4 := (v3.later hb4).alloc (.cells #[.int .i64 2, .int .i64 0, .float .f64 t, .float .f64 0] 43)
          have t4 := (t3.later hb4).alloc (.cells #[.int .i64 2, .int .i64 0, .float .f64 t, .float .f64 0] 43)
          have b4 := (b3.later hb4).alloc (.cells #[.int .i64 2, .int .i64 0, .float .f64 t, .float .f64 0] 43)
          have l4 := bl_alloc (bl_trans l3 hb4) (.cells #[.int .i64 2, .int .i64 0, .float .f64 t, .float .f64 0] 43)
          clear n3 v3 t3 b3 l3
          obtain ⟨v40, v41, v42, v43, v4f⟩ := (v0.later (show Below _ _ w4 by (repeat (first | with_reducible exact Below.refl _ _ | with_reducible refine bl_alloc ?_ _ | with_reducible refine bl_drewN ?_ _ | with_reducible refine bl_drew ?_ | with_reducible refine bl_setCell ?_ (by first | exact Nat.le_refl _ | (dsimp only; omega) | (simp <;> omega)) _ | with_reducible refine bl_trans ?_ (by with_reducible assumption))))).four
          go_wp2_with fail
          refine (ssize_any x y t _ lx ly Q0.out).mono ?_
          rintro e w5 ⟨rfl, hb5⟩
          have a5 := a4.later hb5
          have n5 := n4.later hb5
          have v5 := v4.later hb5
          have t5 := t4.later hb5
          have b5 := b4.later hb5
          have l5 := bl_trans l4 hb5
          clear v40 v41 v42 v43 v4f a4 n4 v4 t4 b4 l4
          obtain ⟨a50, a51, a52, a53, a5f⟩ := a5.four
          go_wp2_with fail
          refine (same2_any t _ HT.out).mono ?_
          rintro e w6 ⟨rfl, hb6⟩
          have m5 := bl_trans (bl_alloc (Below.refl _ w5) _) hb6
          have a6 := a5.later m5
          have n6 := n5.later m5
          have v6 := v5.later m5
          have t6 := t5.later m5
          have b6 := b5.later m5
          have l6 := bl_trans l5 m5
          clear a50 a51 a52 a53 a5f a5 n5 v5 t5 b5 l5
          obtain ⟨n60, n61, n62, n63, n6f⟩ := n6.four
          obtain ⟨v60, v61, v62, v63, v6f⟩ := v6.four
          obtain ⟨b60, b61, b62, b63, b6f⟩ := b6.four
          go_wp2_with fail
          go_roundw
          case rel =>
            refine ⟨k + 1, C, D, by omega, by go_num, ⟨hCe.out, hDe.out⟩, ?_, ?_, ?_, ?_⟩
            · exact ((((v6.alloc _).other (by omega) _ _).other (by omega) _ _).other (by omega) _ _).other (by omega) _ _
            · exact ((((t6.alloc _).other (by omega) _ _).other (by omega) _ _).other (by omega) _ _).other (by omega) _ _
            · exact ((((b6.alloc _).set _ _).set _ _).set _ _).set _ _
            · (repeat (first | with_reducible exact Below.refl _ _ | with_reducible refine bl_alloc ?_ _ | with_reducible refine bl_drewN ?_ _ | with_reducible refine bl_drew ?_ | with_reducible refine bl_setCell ?_ (by first | exact Nat.le_refl _ | (dsimp only; omega) | (simp <;> omega)) _ | with_reducible refine bl_trans ?_ (by with_reducible assumption)))
          case measure => simp [intOf]; omega
      · have hk' : k = 4 := by omega
        subst hk'
        have eA : A = x := hAB.out.1
        have eB : B = y := hAB.out.2
        subst eA eB
        obtain ⟨v00, v01, v02, v03, v0f⟩ := v0.four
        obtain ⟨b00, b01, b02, b03, b0f⟩ := b0.four
        go_wp2_with fail
        refine (same3_any _ _ _ NX.out NY.out).mono ?_
        rintro e w3 ⟨rfl, hb3⟩
        go_wp2_with fail
        go_ret
        refine ⟨rfl, ?_⟩
        (repeat (first | with_reducible exact Below.refl _ _ | with_reducible refine bl_alloc ?_ _ | with_reducible refine bl_drewN ?_ _ | with_reducible refine bl_drew ?_ | with_reducible refine bl_setCell ?_ (by first | exact Nat.le_refl _ | (dsimp only; omega) | (simp <;> omega)) _ | with_reducible refine bl_trans ?_ (by with_reducible assumption)))
  · have hb : decide (1048576 < (len : Int)) = true := by simp; omega
    go_enter Try.func6, Try.ntmps6
    go_wp2_with fail
    refine (big_any sl len cap _).mono ?_
    rintro e w' ⟨rfl, rfl⟩
    rw [hb]
    go_wp2_with fail
    go_ret
    exact ⟨rfl, Below.refl _ _⟩
end Go.Proofs.Ytijgkpkakkjkgaa
