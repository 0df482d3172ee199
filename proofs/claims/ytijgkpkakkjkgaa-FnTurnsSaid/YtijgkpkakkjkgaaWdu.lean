import Derived.Test.YtijgkpkakkjkgaaWdt
import Derived.RegionTactic
import Derived.BigRegion
namespace Go.Proofs.Ytijgkpkakkjkgaa
open Go.RowKit
set_option linter.unusedSimpArgs false
set_option linter.unusedVariables false

/-- bytes that can be read. -/
def Code (w : World) (sl : Option Addr) (len : Nat) : Prop :=
  len = 0 ∨ ∃ pb po, sl = some ⟨pb, po, none⟩ ∧ pb < w.heap.size ∧ ∀ j, j < len → ∃ c : Int, 0 ≤ c ∧ c ≤ 255 ∧ w.cell? ⟨pb, po + j, none⟩ = some (.int .u8 c)

theorem i64_and30 (n : Int) : bits .and .i64 n 1073741823 = n % 1073741824 := by
  have h : (BitVec.ofInt 64 1073741823).toNat = 2 ^ 30 - 1 := by decide
  have key : (BitVec.ofInt 64 n &&& BitVec.ofInt 64 1073741823).toNat = (n % ((2 ^ 64 : Nat) : Int)).toNat % 2 ^ 30 := by
    rw [BitVec.toNat_and, BitVec.toNat_ofInt, h, Nat.and_two_pow_sub_one_eq_mod]
  show IntKind.i64.wrap ((BitVec.ofInt 64 n &&& BitVec.ofInt 64 1073741823).toNat : Nat) = n % 1073741824
  rw [key, IntKind.wrap_i64]
  omega

theorem cur_new (w : World) (sl : Option Addr) (len cap : Nat) (H : Int) (t : TypeId) (hl : len ≤ 1048576) (hC : Code w sl len) : Cur w.heap.size (w.alloc (.cells #[.slice sl len cap, .int .i64 0, .int .i64 H] t)) := by
  refine ⟨sl, len, cap, 0, H, by simp, by simp, by simp, by simp, by simp, by omega, by omega, ?_⟩
  rcases hC with h0 | ⟨pb, po, h0, h1, h2⟩
  · exact Or.inl h0
  · refine Or.inr ⟨pb, po, h0, h1, fun j hj => ?_⟩
    obtain ⟨c, a1, a2, a3⟩ := h2 j hj
    exact ⟨c, a1, a2, cell_later (bl_alloc (Below.refl _ w) _) a3⟩

set_option maxRecDepth 100000 in
set_option maxHeartbeats 2000000 in
theorem l1New_any (sl : Option Addr) (len cap : Nat) (w : World) (hl : len ≤ 1048576) (hC : Code w sl len) :
    Calls Try.prog 30 #[.slice sl len cap] w fun e w' => ∃ n, e = .returned (.pointer (some ⟨n, 0, none⟩)) ∧ w.heap.size ≤ n ∧ Below w.heap.size w w' ∧ Cur n w' := by
  go_enter Try.func30, Try.ntmps30
  go_wp2
  go_loop [3, 4] (fun h i => ∃ (k : Nat) (H : Int), 0 ≤ H ∧ H ≤ 1073741823 ∧ k ≤ len ∧ i = .int .i64 k ∧ h = .int .i64 H) (fun _ i => len - (intOf i).toNat)
  case atStart => exact ⟨0, 70070 + (len : Int), by omega, by omega, Nat.zero_le _, rfl, rfl⟩
  case round =>
    obtain ⟨k, H, h1, h2, hk, rfl, rfl⟩ := hrel
    by_cases hlt : k < len
    · obtain ⟨pb, po, rfl, hp, hby⟩ : ∃ pb po, sl = some ⟨pb, po, none⟩ ∧ pb < w.heap.size ∧ ∀ j, j < len → ∃ c : Int, 0 ≤ c ∧ c ≤ 255 ∧ w.cell? ⟨pb, po + j, none⟩ = some (.int .u8 c) := by
        rcases hC with h0 | h0
        · omega
        · exact h0
      obtain ⟨c, c1, c2, hc⟩ := hby k hlt
      have hH : Hid (∀ j, j < len → ∃ c : Int, 0 ≤ c ∧ c ≤ 255 ∧ w.cell? ⟨pb, po + j, none⟩ = some (.int .u8 c)) := hby
      clear hby hC
      by_cases h4 : k < 4000
      · go_wp2
        refine ⟨⟨k + 1, _, ?_, ?_, by omega, by go_num, rfl⟩, ?_⟩
        · rw [i64_and30]; omega
        · rw [i64_and30]; omega
        · simp [intOf]; omega
      · go_wp2
        go_ret
        exact ⟨_, rfl, Nat.le_refl _, bl_alloc (Below.refl _ _) _, cur_new w _ len cap H _ hl (Or.inr ⟨pb, po, rfl, hp, hH.out⟩)⟩
    · go_wp2
      go_ret
      exact ⟨_, rfl, Nat.le_refl _, bl_alloc (Below.refl _ _) _, cur_new w sl len cap H _ hl hC⟩

theorem Zb.later {m : Nat} {W w1 : World} (h : Zb m W) (hb : Below W.heap.size W w1) : Zb m w1 := ⟨cell_later hb h.1, cell_later hb h.2.1, cell_later hb h.2.2.1, cell_later hb h.2.2.2⟩

theorem Code.alloc {w : World} {sl : Option Addr} {len : Nat} (h : Code w sl len) (o : Obj) : Code (w.alloc o) sl len := by
  rcases h with h0 | ⟨pb, po, h0, h1, h2⟩
  · exact Or.inl h0
  · refine Or.inr ⟨pb, po, h0, by simp; omega, fun j hj => ?_⟩
    obtain ⟨c, a1, a2, a3⟩ := h2 j hj
    exact ⟨c, a1, a2, cell_later (bl_alloc (Below.refl _ w) _) a3⟩

/-- the box of a value, in a world with a cursor. -/
def Bx (n : Nat) (W : World) (k i : Int) (x y : Nat) : Prop :=
  W.cell? ⟨n, 0, none⟩ = some (.int .i64 k) ∧ W.cell? ⟨n, 1, none⟩ = some (.int .i64 i) ∧ W.cell? ⟨n, 2, none⟩ = some (.float .f64 x) ∧ W.cell? ⟨n, 3, none⟩ = some (.float .f64 y)
theorem Bx.new (w : World) (k i : Int) (x y : Nat) (t : TypeId) : Bx w.heap.size (w.alloc (.cells #[.int .i64 k, .int .i64 i, .float .f64 x, .float .f64 y] t)) k i x y := by
  refine ⟨?_, ?_, ?_, ?_⟩ <;> simp
theorem Bx.alloc {m : Nat} {W : World} {k i : Int} {x y : Nat} (h : Bx m W k i x y) (o : Obj) : Bx m (W.alloc o) k i x y :=
  ⟨cell_later (bl_alloc (Below.refl _ W) o) h.1, cell_later (bl_alloc (Below.refl _ W) o) h.2.1, cell_later (bl_alloc (Below.refl _ W) o) h.2.2.1, cell_later (bl_alloc (Below.refl _ W) o) h.2.2.2⟩
theorem Bx.keep {m n : Nat} {W w1 : World} {k i : Int} {x y : Nat} (h : Bx m W k i x y) (hK : Keep n W w1) (hm : ¬ m = n) : Bx m w1 k i x y := ⟨hK.cell hm h.1, hK.cell hm h.2.1, hK.cell hm h.2.2.1, hK.cell hm h.2.2.2⟩

set_option maxHeartbeats 4000000 in
theorem drawOp_any (sl : Option Addr) (len cap : Nat) (w : World) (hl : len ≤ 1048576) (hC : Code w sl len) :
    Calls Try.prog 21 #[.slice sl len cap] w fun e w' => ∃ (op k i : Int) (x y : Nat) (l j : Int) (u v : Nat), e = .returned (.tuple #[.int .i64 op, .agg #[.int .i64 k, .int .i64 i, .float .f64 x, .float .f64 y], .agg #[.int .i64 l, .int .i64 j, .float .f64 u, .float .f64 v]]) ∧
      (-9223372036854775808 ≤ i ∧ i ≤ 9223372036854775807) ∧ (-9223372036854775808 ≤ j ∧ j ≤ 9223372036854775807) ∧ x < 18446744073709551616 ∧ y < 18446744073709551616 ∧ u < 18446744073709551616 ∧ v < 18446744073709551616 ∧ Below w.heap.size w w' := by
  have hCW : Code ((w.alloc (.cells #[.int .i64 0, .int .i64 0, .float .f64 0, .float .f64 0] 43)).alloc (.cells #[.int .i64 0, .int .i64 0, .float .f64 0, .float .f64 0] 43)) sl len := (hC.alloc _).alloc _
  go_enter Try.func21, Try.ntmps21
  go_wp2_with fail
  refine (l1New_any sl len cap _ hl hCW).mono ?_
  rintro e w1 ⟨n, rfl, hn, hb1, hC1⟩
  have hn2 : w.heap.size + 1 < n := by simp at hn; omega
  have m0 : ¬ w.heap.size = n := by omega
  have m1 : ¬ w.heap.size + 1 = n := by omega
  obtain ⟨hcW, hfW⟩ := bcell hb1
  have y0 : w.heap.size < w1.heap.size := by have := hb1.size; simp at this; omega
  have y1 : w.heap.size + 1 < w1.heap.size := by have := hb1.size; simp at this; omega
  have Zr0 : Zb w.heap.size w1 := Zb.later ((Zb.new w 43).alloc _) hb1
  have Zr1 : Zb (w.heap.size + 1) w1 := by
    have := Zb.new (w.alloc (.cells #[.int .i64 0, .int .i64 0, .float .f64 0, .float .f64 0] 43)) 43
    simp only [World.size_alloc] at this
    exact Zb.later this hb1
  go_wp2_with fail
  refine (l1Below_any n _ _ hC1 (by omega)).mono ?_
  rintro e w2 ⟨r, rfl, r1, r2, hK2, hC2⟩
  go_wp2_with fail
  refine (l1Once_any n _ _ hC2 (by omega)).mono ?_
  rintro e w3 ⟨b, rfl, hK3, hC3⟩
  have K3 := hK2.trans hK3
  cases b
  · clear hK2 hK3 hC2
    go_wp2_with fail
    refine (l1Any_any n _ hC3).mono ?_
    rintro e w5 ⟨k, i, x, y, rfl, hk, hi, lx, ly, hK5, hC5⟩
    have K5 := K3.trans hK5
    obtain ⟨hc5, hf5⟩ := kcell hK5
    have n5 : ¬ w5.heap.size = n := by have := hC5.lt; omega
    have hA := Bx.new w5 k i x y 43
    go_wp2_with fail
    refine (l1Val_any n _ _ (hC5.alloc _)).mono ?_
    rintro e w6 ⟨j, u, v, rfl, hj, lu, lv, hK6, hC6⟩
    have K6 := (K5.alloc (by have := hC5.lt; omega) _).trans hK6
    obtain ⟨hc6, hf6⟩ := kcell hK6
    have hA6 := hA.keep hK6 n5
    have n6 : ¬ w6.heap.size = n := by have := hC6.lt; omega
    have hB := Bx.new w6 k j u v 43
    obtain ⟨p0, p1, p2, p3⟩ := hA6
    go_wp2_with fail
    refine (l1Once_any n _ _ (hC6.alloc _) (by omega)).mono ?_
    rintro e w7 ⟨b2, rfl, hK7, hC7⟩
    have K7 := (K6.alloc (by have := hC6.lt; omega) _).trans hK7
    have hA7 := ((Bx.alloc ⟨p0, p1, p2, p3⟩ _).keep hK7 n5)
    have hB7 := hB.keep hK7 n6
    have hl1 : Below w.heap.size w w1 := by (repeat (first | with_reducible exact Below.refl _ _ | with_reducible refine bl_alloc ?_ _ | with_reducible refine bl_drewN ?_ _ | with_reducible refine bl_drew ?_ | with_reducible refine bl_setCell ?_ (by first | exact Nat.le_refl _ | (dsimp only; omega) | (simp <;> omega)) _ | with_reducible refine bl_trans ?_ (by with_reducible assumption)))
    have hl7 : Below w.heap.size w w7 := K7.below hl1 (by omega)
    have R0 := Zr0.keep K7 m0
    have R1 := Zr1.keep K7 m1
    have g5 : w.heap.size + 1 < w5.heap.size := by have := K5.1.size; omega
    have g6 : w5.heap.size < w6.heap.size := by have := hK6.1.size; simp at this; omega
    have d1 : ¬ w5.heap.size = w.heap.size := by omega
    have d2 : ¬ w.heap.size = w5.heap.size := by omega
    have d3 : ¬ w5.heap.size = w.heap.size + 1 := by omega
    have d4 : ¬ w.heap.size + 1 = w5.heap.size := by omega
    have d5 : ¬ w6.heap.size = w.heap.size := by omega
    have d6 : ¬ w.heap.size = w6.heap.size := by omega
    have d7 : ¬ w6.heap.size = w.heap.size + 1 := by omega
    have d8 : ¬ w.heap.size + 1 = w6.heap.size := by omega
    have d9 : ¬ w5.heap.size = w6.heap.size := by omega
    have dd : ¬ w6.heap.size = w5.heap.size := by omega
    clear hc5 hf5 hc6 hf6
    cases b2
    · obtain ⟨hcA, hfA⟩ := kcell K7
      obtain ⟨a0, a1, a2, a3⟩ := hA7
      obtain ⟨b0, b1, b2, b3⟩ := hB7
      obtain ⟨s0, s1, s2, s3⟩ := R0
      obtain ⟨t0, t1, t2, t3⟩ := R1
      go_wp2_with fail
      go_region
      go_wp2_with fail
      refine bodyPost_ret (v := .tuple #[.int .i64 (1 + r), .agg #[.int .i64 k, .int .i64 i, .float .f64 x, .float .f64 y], .agg #[.int .i64 k, .int .i64 j, .float .f64 u, .float .f64 v]]) (by simp [results, Try.results21, go_sem, s0, s1, s2, s3, t0, t1, t2, t3, b0, b1, b2, b3]) rfl ⟨_, k, i, x, y, k, j, u, v, rfl, hi, hj, lx, ly, lu, lv, ?_⟩
      (repeat (first | with_reducible exact Below.refl _ _ | with_reducible refine bl_alloc ?_ _ | with_reducible refine bl_drewN ?_ _ | with_reducible refine bl_drew ?_ | with_reducible refine bl_setCell ?_ (by first | exact Nat.le_refl _ | (dsimp only; omega) | (simp <;> omega)) _ | with_reducible refine bl_trans ?_ (by with_reducible assumption)))
    · go_wp2_with fail
      refine (l1Any_any n _ hC7).mono ?_
      rintro e w8 ⟨l', j', u', v', rfl, hl', hj', lu', lv', hK8, hC8⟩
      have hl8 : Below w.heap.size w w8 := (K7.trans hK8).below hl1 (by omega)
      obtain ⟨hcA, hfA⟩ := kcell (K7.trans hK8)
      obtain ⟨hcB, hfB⟩ := kcell (hK7.trans hK8)
      obtain ⟨a0, a1, a2, a3⟩ := hA7.keep hK8 n5
      obtain ⟨b0, b1, b2, b3⟩ := hB7.keep hK8 n6
      obtain ⟨s0, s1, s2, s3⟩ := R0.keep hK8 m0
      obtain ⟨t0, t1, t2, t3⟩ := R1.keep hK8 m1
      go_wp2_with fail
      go_region
      go_wp2_with fail
      refine bodyPost_ret (v := .tuple #[.int .i64 (1 + r), .agg #[.int .i64 k, .int .i64 i, .float .f64 x, .float .f64 y], .agg #[.int .i64 l', .int .i64 j', .float .f64 u', .float .f64 v']]) (by simp [results, Try.results21, go_sem, s0, s1, s2, s3, t0, t1, t2, t3, b0, b1, b2, b3]) rfl ⟨_, k, i, x, y, l', j', u', v', rfl, hi, hj', lx, ly, lu', lv', ?_⟩
      (repeat (first | with_reducible exact Below.refl _ _ | with_reducible refine bl_alloc ?_ _ | with_reducible refine bl_drewN ?_ _ | with_reducible refine bl_drew ?_ | with_reducible refine bl_setCell ?_ (by first | exact Nat.le_refl _ | (dsimp only; omega) | (simp <;> omega)) _ | with_reducible refine bl_trans ?_ (by with_reducible assumption)))
  · go_wp2_with fail
    refine (l1Below_any n _ _ hC3 (by omega)).mono ?_
    rintro e w4 ⟨s, rfl, s1, s2, hK4, hC4⟩
    have K4 := K3.trans hK4
    clear hK2 hK3 hC2 K3 hC3 hK4
    go_wp2_with fail
    refine (l1Any_any n _ hC4).mono ?_
    rintro e w5 ⟨k, i, x, y, rfl, hk, hi, lx, ly, hK5, hC5⟩
    have K5 := K4.trans hK5
    obtain ⟨hc5, hf5⟩ := kcell hK5
    have n5 : ¬ w5.heap.size = n := by have := hC5.lt; omega
    have hA := Bx.new w5 k i x y 43
    go_wp2_with fail
    refine (l1Val_any n _ _ (hC5.alloc _)).mono ?_
    rintro e w6 ⟨j, u, v, rfl, hj, lu, lv, hK6, hC6⟩
    have K6 := (K5.alloc (by have := hC5.lt; omega) _).trans hK6
    obtain ⟨hc6, hf6⟩ := kcell hK6
    have hA6 := hA.keep hK6 n5
    have n6 : ¬ w6.heap.size = n := by have := hC6.lt; omega
    have hB := Bx.new w6 k j u v 43
    obtain ⟨p0, p1, p2, p3⟩ := hA6
    go_wp2_with fail
    refine (l1Once_any n _ _ (hC6.alloc _) (by omega)).mono ?_
    rintro e w7 ⟨b2, rfl, hK7, hC7⟩
    have K7 := (K6.alloc (by have := hC6.lt; omega) _).trans hK7
    have hA7 := ((Bx.alloc ⟨p0, p1, p2, p3⟩ _).keep hK7 n5)
    have hB7 := hB.keep hK7 n6
    have hl1 : Below w.heap.size w w1 := by (repeat (first | with_reducible exact Below.refl _ _ | with_reducible refine bl_alloc ?_ _ | with_reducible refine bl_drewN ?_ _ | with_reducible refine bl_drew ?_ | with_reducible refine bl_setCell ?_ (by first | exact Nat.le_refl _ | (dsimp only; omega) | (simp <;> omega)) _ | with_reducible refine bl_trans ?_ (by with_reducible assumption)))
    have hl7 : Below w.heap.size w w7 := K7.below hl1 (by omega)
    have R0 := Zr0.keep K7 m0
    have R1 := Zr1.keep K7 m1
    have g5 : w.heap.size + 1 < w5.heap.size := by have := K5.1.size; omega
    have g6 : w5.heap.size < w6.heap.size := by have := hK6.1.size; simp at this; omega
    have d1 : ¬ w5.heap.size = w.heap.size := by omega
    have d2 : ¬ w.heap.size = w5.heap.size := by omega
    have d3 : ¬ w5.heap.size = w.heap.size + 1 := by omega
    have d4 : ¬ w.heap.size + 1 = w5.heap.size := by omega
    have d5 : ¬ w6.heap.size = w.heap.size := by omega
    have d6 : ¬ w.heap.size = w6.heap.size := by omega
    have d7 : ¬ w6.heap.size = w.heap.size + 1 := by omega
    have d8 : ¬ w.heap.size + 1 = w6.heap.size := by omega
    have d9 : ¬ w5.heap.size = w6.heap.size := by omega
    have dd : ¬ w6.heap.size = w5.heap.size := by omega
    clear hc5 hf5 hc6 hf6
    cases b2
    · obtain ⟨hcA, hfA⟩ := kcell K7
      obtain ⟨a0, a1, a2, a3⟩ := hA7
      obtain ⟨b0, b1, b2, b3⟩ := hB7
      obtain ⟨s0, s1, s2, s3⟩ := R0
      obtain ⟨t0, t1, t2, t3⟩ := R1
      go_wp2_with fail
      go_region
      go_wp2_with fail
      refine bodyPost_ret (v := .tuple #[.int .i64 (s - 2), .agg #[.int .i64 k, .int .i64 i, .float .f64 x, .float .f64 y], .agg #[.int .i64 k, .int .i64 j, .float .f64 u, .float .f64 v]]) (by simp [results, Try.results21, go_sem, s0, s1, s2, s3, t0, t1, t2, t3, b0, b1, b2, b3]) rfl ⟨_, k, i, x, y, k, j, u, v, rfl, hi, hj, lx, ly, lu, lv, ?_⟩
      (repeat (first | with_reducible exact Below.refl _ _ | with_reducible refine bl_alloc ?_ _ | with_reducible refine bl_drewN ?_ _ | with_reducible refine bl_drew ?_ | with_reducible refine bl_setCell ?_ (by first | exact Nat.le_refl _ | (dsimp only; omega) | (simp <;> omega)) _ | with_reducible refine bl_trans ?_ (by with_reducible assumption)))
    · go_wp2_with fail
      refine (l1Any_any n _ hC7).mono ?_
      rintro e w8 ⟨l', j', u', v', rfl, hl', hj', lu', lv', hK8, hC8⟩
      have hl8 : Below w.heap.size w w8 := (K7.trans hK8).below hl1 (by omega)
      obtain ⟨hcA, hfA⟩ := kcell (K7.trans hK8)
      obtain ⟨hcB, hfB⟩ := kcell (hK7.trans hK8)
      obtain ⟨a0, a1, a2, a3⟩ := hA7.keep hK8 n5
      obtain ⟨b0, b1, b2, b3⟩ := hB7.keep hK8 n6
      obtain ⟨s0, s1, s2, s3⟩ := R0.keep hK8 m0
      obtain ⟨t0, t1, t2, t3⟩ := R1.keep hK8 m1
      go_wp2_with fail
      go_region
      go_wp2_with fail
      refine bodyPost_ret (v := .tuple #[.int .i64 (s - 2), .agg #[.int .i64 k, .int .i64 i, .float .f64 x, .float .f64 y], .agg #[.int .i64 l', .int .i64 j', .float .f64 u', .float .f64 v']]) (by simp [results, Try.results21, go_sem, s0, s1, s2, s3, t0, t1, t2, t3, b0, b1, b2, b3]) rfl ⟨_, k, i, x, y, l', j', u', v', rfl, hi, hj', lx, ly, lu', lv', ?_⟩
      (repeat (first | with_reducible exact Below.refl _ _ | with_reducible refine bl_alloc ?_ _ | with_reducible refine bl_drewN ?_ _ | with_reducible refine bl_drew ?_ | with_reducible refine bl_setCell ?_ (by first | exact Nat.le_refl _ | (dsimp only; omega) | (simp <;> omega)) _ | with_reducible refine bl_trans ?_ (by with_reducible assumption)))
end Go.Proofs.Ytijgkpkakkjkgaa
