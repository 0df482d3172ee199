import Derived.Test.YtaakjcjhmeeclaaQe
import Derived.Test.YtaakjcjhmeeclaaTd
namespace Go.Proofs.Ytaakjcjhmeeclaa
open Go.RowKit
set_option linter.unusedVariables false
set_option linter.unusedSimpArgs false

/-- an effect: eight lists and two flags. -/
structure Ef where
  l0 : List Int
  l1 : List Int
  l2 : List Int
  l3 : List Int
  l4 : List Int
  l5 : List Int
  l6 : List Int
  l7 : List Int
  sp : Bool
  kl : Bool
def mEf (e : Ef) : Prop := e.l0.length ≤ 9223372036854775807 ∧ e.l1.length ≤ 9223372036854775807 ∧ e.l2.length ≤ 9223372036854775807 ∧ e.l3.length ≤ 9223372036854775807 ∧ e.l4.length ≤ 9223372036854775807 ∧ e.l5.length ≤ 9223372036854775807 ∧ e.l6.length ≤ 9223372036854775807 ∧ e.l7.length ≤ 9223372036854775807
def kEf (e : Ef) : Prop := e.l0.length ≤ 1048576 ∧ e.l1.length ≤ 1048576 ∧ e.l2.length ≤ 1048576 ∧ e.l3.length ≤ 1048576 ∧ e.l4.length ≤ 1048576 ∧ e.l5.length ≤ 1048576 ∧ e.l6.length ≤ 1048576 ∧ e.l7.length ≤ 1048576
structure InE (w : World) (B : Nat) (s0 s1 s2 s3 s4 s5 s6 s7 : Option Addr) (e : Ef) : Prop where
  p0 : Els 1 cInt w B s0 e.l0
  p1 : Els 1 cInt w B s1 e.l1
  p2 : Els 1 cInt w B s2 e.l2
  p3 : Els 1 cInt w B s3 e.l3
  p4 : Els 1 cInt w B s4 e.l4
  p5 : Els 1 cInt w B s5 e.l5
  p6 : Els 1 cInt w B s6 e.l6
  p7 : Els 1 cInt w B s7 e.l7
theorem InE.later {w w' : World} {B : Nat} {s0 s1 s2 s3 s4 s5 s6 s7 : Option Addr} {e : Ef} (h : InE w B s0 s1 s2 s3 s4 s5 s6 s7 e) (hb : Below w.heap.size w w') : InE w' B s0 s1 s2 s3 s4 s5 s6 s7 e := ⟨h.p0.later cInt_keeps hb, h.p1.later cInt_keeps hb, h.p2.later cInt_keeps hb, h.p3.later cInt_keeps hb, h.p4.later cInt_keeps hb, h.p5.later cInt_keeps hb, h.p6.later cInt_keeps hb, h.p7.later cInt_keeps hb⟩
theorem InE.kept {w w' : World} {B : Nat} {s0 s1 s2 s3 s4 s5 s6 s7 : Option Addr} {e : Ef} (h : InE w B s0 s1 s2 s3 s4 s5 s6 s7 e) (hb : Kept B w w') : InE w' B s0 s1 s2 s3 s4 s5 s6 s7 e := ⟨h.p0.kept cInt_keeps hb, h.p1.kept cInt_keeps hb, h.p2.kept cInt_keeps hb, h.p3.kept cInt_keeps hb, h.p4.kept cInt_keeps hb, h.p5.kept cInt_keeps hb, h.p6.kept cInt_keeps hb, h.p7.kept cInt_keeps hb⟩
theorem InE.drop {w : World} {B B' : Nat} {s0 s1 s2 s3 s4 s5 s6 s7 : Option Addr} {e : Ef} (h : InE w B s0 s1 s2 s3 s4 s5 s6 s7 e) (hB : B' ≤ B) : InE w B' s0 s1 s2 s3 s4 s5 s6 s7 e := ⟨h.p0.drop cInt_drops hB, h.p1.drop cInt_drops hB, h.p2.drop cInt_drops hB, h.p3.drop cInt_drops hB, h.p4.drop cInt_drops hB, h.p5.drop cInt_drops hB, h.p6.drop cInt_drops hB, h.p7.drop cInt_drops hB⟩
theorem Blk.ten {w : World} {n : Nat} {v0 v1 v2 v3 v4 v5 v6 v7 v8 v9 : Value} {t : TypeId} (h : Blk w n #[v0, v1, v2, v3, v4, v5, v6, v7, v8, v9] t) : w.cell? ⟨n, 0, none⟩ = some v0 ∧ w.cell? ⟨n, 1, none⟩ = some v1 ∧ w.cell? ⟨n, 2, none⟩ = some v2 ∧ w.cell? ⟨n, 3, none⟩ = some v3 ∧ w.cell? ⟨n, 4, none⟩ = some v4 ∧ w.cell? ⟨n, 5, none⟩ = some v5 ∧ w.cell? ⟨n, 6, none⟩ = some v6 ∧ w.cell? ⟨n, 7, none⟩ = some v7 ∧ w.cell? ⟨n, 8, none⟩ = some v8 ∧ w.cell? ⟨n, 9, none⟩ = some v9 ∧ ∀ o, w.frozen? ⟨n, o, none⟩ = false := ⟨h.cell 0, h.cell 1, h.cell 2, h.cell 3, h.cell 4, h.cell 5, h.cell 6, h.cell 7, h.cell 8, h.cell 9, h.frozen⟩
set_option maxHeartbeats 2000000 in
theorem eqI_more (s t : Option Addr) (c d : Nat) (R : List Int) (B C : Nat) (w : World) (hs : Els 1 cInt w B s R) (ht : Els 1 cInt w C t R) (hl : R.length ≤ 4398046511104) :
    Calls Try.prog 24 #[.slice s R.length c, .slice t R.length d] w fun e w' => e = .returned (.bool true) ∧ Below w.heap.size w w' := by
  have H1 : Hid (Els 1 cInt w B s R) := hs
  have H2 : Hid (Els 1 cInt w C t R) := ht
  clear hs ht
  go_enter Try.func24, Try.ntmps24
  go_wp2
  go_loopw [5] (fun i wr => ∃ k : Nat, k ≤ R.length ∧ i = .int .i64 k ∧ Hid (Below w.heap.size w wr)) (fun i _ => R.length - (intOf i).toNat)
  case atStart => exact ⟨0, Nat.zero_le _, rfl, Below.refl _ _⟩
  case round =>
    obtain ⟨k, hk, rfl, hbel⟩ := hrel
    by_cases hlt : k < R.length
    · obtain ⟨x, hx⟩ := get_some hlt
      obtain ⟨b, o, rfl, _, hb, d1⟩ := eInt_cells (H1.out.later cInt_keeps hbel.out) hx
      obtain ⟨b2, o2, rfl, _, hb2, d2⟩ := eInt_cells (H2.out.later cInt_keeps hbel.out) hx
      have g : (x != x) = false := by simp
      clear hx
      go_wp2
      go_region
      go_wp2
      go_roundw
      case rel => exact ⟨k + 1, by omega, by go_num, bl_drewN hbel.out _⟩
      case measure => simp [intOf]; omega
    · go_wp2
      go_ret
      exact ⟨rfl, hbel.out⟩
theorem blkTwoE (w : World) (c d : Array Value) (t u : TypeId) : Blk ((w.alloc (.cells c t)).alloc (.cells d u)) w.heap.size c t ∧ Blk ((w.alloc (.cells c t)).alloc (.cells d u)) (w.heap.size + 1) d u ∧ Below w.heap.size w ((w.alloc (.cells c t)).alloc (.cells d u)) :=
  ⟨(Blk.new w c t).alloc _, Blk.new' _ d u (by simp), by (repeat (first | with_reducible exact Below.refl _ _ | with_reducible refine bl_alloc ?_ _ | with_reducible refine bl_drewN ?_ _ | with_reducible refine bl_drew ?_ | with_reducible refine bl_setCell ?_ (by first | exact Nat.le_refl _ | (dsimp only; omega) | (simp <;> omega)) _ | with_reducible refine bl_trans ?_ (by with_reducible assumption)))⟩
theorem blkThreeE (w : World) (c d e : Array Value) (t u v : TypeId) : Blk (((w.alloc (.cells c t)).alloc (.cells d u)).alloc (.cells e v)) w.heap.size c t ∧ Blk (((w.alloc (.cells c t)).alloc (.cells d u)).alloc (.cells e v)) (w.heap.size + 1) d u ∧ Blk (((w.alloc (.cells c t)).alloc (.cells d u)).alloc (.cells e v)) (w.heap.size + 1 + 1) e v ∧ Below w.heap.size w (((w.alloc (.cells c t)).alloc (.cells d u)).alloc (.cells e v)) :=
  ⟨((Blk.new w c t).alloc _).alloc _, (Blk.new' _ d u (by simp)).alloc _, Blk.new' _ e v (by simp), by (repeat (first | with_reducible exact Below.refl _ _ | with_reducible refine bl_alloc ?_ _ | with_reducible refine bl_drewN ?_ _ | with_reducible refine bl_drew ?_ | with_reducible refine bl_setCell ?_ (by first | exact Nat.le_refl _ | (dsimp only; omega) | (simp <;> omega)) _ | with_reducible refine bl_trans ?_ (by with_reducible assumption)))⟩

set_option maxHeartbeats 8000000 in
theorem szEffect_gen (s0 s1 s2 s3 s4 s5 s6 s7 : Option Addr) (c0 c1 c2 c3 c4 c5 c6 c7 : Nat) (e : Ef) (left : Int) (w : World) (hm : mEf e) (h0 : 0 ≤ left) (h1 : left ≤ 1048576) :
    Calls Try.prog 29 #[.agg #[.slice s0 e.l0.length c0, .slice s1 e.l1.length c1, .slice s2 e.l2.length c2, .slice s3 e.l3.length c3, .slice s4 e.l4.length c4, .slice s5 e.l5.length c5, .slice s6 e.l6.length c6, .slice s7 e.l7.length c7, .bool e.sp, .bool e.kl], .int .i64 left] w fun z w' => Szd left (kEf e) z ∧ Below w.heap.size w w' := by
  obtain ⟨m0, m1, m2, m3, m4, m5, m6, m7⟩ := hm
  have L0 : Below w.heap.size w (w.alloc (.cells #[.slice s0 e.l0.length c0, .slice s1 e.l1.length c1, .slice s2 e.l2.length c2, .slice s3 e.l3.length c3, .slice s4 e.l4.length c4, .slice s5 e.l5.length c5, .slice s6 e.l6.length c6, .slice s7 e.l7.length c7, .bool e.sp, .bool e.kl] 55)) := bl_alloc (Below.refl _ _) _
  obtain ⟨x0, x1, x2, x3, x4, x5, x6, x7, x8, x9, xf⟩ := (Blk.new w #[.slice s0 e.l0.length c0, .slice s1 e.l1.length c1, .slice s2 e.l2.length c2, .slice s3 e.l3.length c3, .slice s4 e.l4.length c4, .slice s5 e.l5.length c5, .slice s6 e.l6.length c6, .slice s7 e.l7.length c7, .bool e.sp, .bool e.kl] 55).ten
  go_enter Try.func29, Try.ntmps29
  go_wp2_with fail
  refine (szInts_gen s0 _ c0 left _ h0 (by omega) m0).mono ?_
  rintro z w' ⟨⟨r0, rfl, hr⟩, rfl⟩
  rcases hr with rfl | ⟨a0, b0, n0⟩
  · go_wp2_with fail
    go_ret
    exact ⟨⟨_, rfl, Or.inl rfl⟩, L0⟩
  have t0 : decide (r0 < 0) = false := by simp; omega
  go_wp2_with fail
  refine (szInts_gen s1 _ c1 r0 _ a0 (by omega) m1).mono ?_
  rintro z w' ⟨⟨r1, rfl, hr⟩, rfl⟩
  rcases hr with rfl | ⟨a1, b1, n1⟩
  · go_wp2_with fail
    go_ret
    exact ⟨⟨_, rfl, Or.inl rfl⟩, L0⟩
  have t1 : decide (r1 < 0) = false := by simp; omega
  go_wp2_with fail
  refine (szInts_gen s2 _ c2 r1 _ a1 (by omega) m2).mono ?_
  rintro z w' ⟨⟨r2, rfl, hr⟩, rfl⟩
  rcases hr with rfl | ⟨a2, b2, n2⟩
  · go_wp2_with fail
    go_ret
    exact ⟨⟨_, rfl, Or.inl rfl⟩, L0⟩
  have t2 : decide (r2 < 0) = false := by simp; omega
  go_wp2_with fail
  refine (szInts_gen s3 _ c3 r2 _ a2 (by omega) m3).mono ?_
  rintro z w' ⟨⟨r3, rfl, hr⟩, rfl⟩
  rcases hr with rfl | ⟨a3, b3, n3⟩
  · go_wp2_with fail
    go_ret
    exact ⟨⟨_, rfl, Or.inl rfl⟩, L0⟩
  have t3 : decide (r3 < 0) = false := by simp; omega
  go_wp2_with fail
  refine (szInts_gen s4 _ c4 r3 _ a3 (by omega) m4).mono ?_
  rintro z w' ⟨⟨r4, rfl, hr⟩, rfl⟩
  rcases hr with rfl | ⟨a4, b4, n4⟩
  · go_wp2_with fail
    go_ret
    exact ⟨⟨_, rfl, Or.inl rfl⟩, L0⟩
  have t4 : decide (r4 < 0) = false := by simp; omega
  go_wp2_with fail
  refine (szInts_gen s5 _ c5 r4 _ a4 (by omega) m5).mono ?_
  rintro z w' ⟨⟨r5, rfl, hr⟩, rfl⟩
  rcases hr with rfl | ⟨a5, b5, n5⟩
  · go_wp2_with fail
    go_ret
    exact ⟨⟨_, rfl, Or.inl rfl⟩, L0⟩
  have t5 : decide (r5 < 0) = false := by simp; omega
  go_wp2_with fail
  refine (szInts_gen s6 _ c6 r5 _ a5 (by omega) m6).mono ?_
  rintro z w' ⟨⟨r6, rfl, hr⟩, rfl⟩
  rcases hr with rfl | ⟨a6, b6, n6⟩
  · go_wp2_with fail
    go_ret
    exact ⟨⟨_, rfl, Or.inl rfl⟩, L0⟩
  have t6 : decide (r6 < 0) = false := by simp; omega
  go_wp2_with fail
  refine (szInts_gen s7 _ c7 r6 _ a6 (by omega) m7).mono ?_
  rintro z w' ⟨⟨r7, rfl, hr⟩, rfl⟩
  rcases hr with rfl | ⟨a7, b7, n7⟩
  · go_wp2_with fail
    go_ret
    exact ⟨⟨_, rfl, Or.inl rfl⟩, L0⟩
  have t7 : decide (r7 < 0) = false := by simp; omega
  go_wp2_with fail
  go_ret
  exact ⟨⟨_, rfl, Or.inr ⟨a7, by omega, n0, n1, n2, n3, n4, n5, n6, n7⟩⟩, L0⟩

set_option maxRecDepth 100000 in
set_option maxHeartbeats 16000000 in
theorem toEffect_made (s0 s1 s2 s3 s4 s5 s6 s7 : Option Addr) (c0 c1 c2 c3 c4 c5 c6 c7 : Nat) (e : Ef) (B : Nat) (w : World) (hE : InE w B s0 s1 s2 s3 s4 s5 s6 s7 e) (hk : kEf e) :
    Calls Try.prog 31 #[.agg #[.slice s0 e.l0.length c0, .slice s1 e.l1.length c1, .slice s2 e.l2.length c2, .slice s3 e.l3.length c3, .slice s4 e.l4.length c4, .slice s5 e.l5.length c5, .slice s6 e.l6.length c6, .slice s7 e.l7.length c7, .bool e.sp, .bool e.kl]] w fun z w' => (∃ g0 g1 g2 g3 g4 g5 g6 g7 : Nat, z = .returned (.agg #[.slice (some ⟨g0, 0, none⟩) e.l0.length e.l0.length, .slice (some ⟨g1, 0, none⟩) e.l1.length e.l1.length, .slice (some ⟨g2, 0, none⟩) e.l2.length e.l2.length, .slice (some ⟨g3, 0, none⟩) e.l3.length e.l3.length, .slice (some ⟨g4, 0, none⟩) e.l4.length e.l4.length, .slice (some ⟨g5, 0, none⟩) e.l5.length e.l5.length, .slice (some ⟨g6, 0, none⟩) e.l6.length e.l6.length, .slice (some ⟨g7, 0, none⟩) e.l7.length e.l7.length, .bool e.sp, .bool e.kl]) ∧ InE w' w.heap.size (some ⟨g0, 0, none⟩) (some ⟨g1, 0, none⟩) (some ⟨g2, 0, none⟩) (some ⟨g3, 0, none⟩) (some ⟨g4, 0, none⟩) (some ⟨g5, 0, none⟩) (some ⟨g6, 0, none⟩) (some ⟨g7, 0, none⟩) e) ∧ Below w.heap.size w w' := by
  obtain ⟨m0, m1, m2, m3, m4, m5, m6, m7⟩ := hk
  have HE : Hid (InE w B s0 s1 s2 s3 s4 s5 s6 s7 e) := hE
  clear hE
  obtain ⟨k0, k1, k2, LX⟩ := blkThreeE w #[.slice s0 e.l0.length c0, .slice s1 e.l1.length c1, .slice s2 e.l2.length c2, .slice s3 e.l3.length c3, .slice s4 e.l4.length c4, .slice s5 e.l5.length c5, .slice s6 e.l6.length c6, .slice s7 e.l7.length c7, .bool e.sp, .bool e.kl] #[.slice none 0 0, .slice none 0 0, .slice none 0 0, .slice none 0 0, .slice none 0 0, .slice none 0 0, .slice none 0 0, .slice none 0 0, .bool false, .bool false] #[.slice none 0 0, .slice none 0 0, .slice none 0 0, .slice none 0 0, .slice none 0 0, .slice none 0 0, .slice none 0 0, .slice none 0 0, .bool false, .bool false] 55 45 45
  go_enter Try.func31, Try.ntmps31
  go_wp2_with fail
  generalize hX : ((w.alloc (.cells #[.slice s0 e.l0.length c0, .slice s1 e.l1.length c1, .slice s2 e.l2.length c2, .slice s3 e.l3.length c3, .slice s4 e.l4.length c4, .slice s5 e.l5.length c5, .slice s6 e.l6.length c6, .slice s7 e.l7.length c7, .bool e.sp, .bool e.kl] 55)).alloc (.cells #[.slice none 0 0, .slice none 0 0, .slice none 0 0, .slice none 0 0, .slice none 0 0, .slice none 0 0, .slice none 0 0, .slice none 0 0, .bool false, .bool false] 45)).alloc (.cells #[.slice none 0 0, .slice none 0 0, .slice none 0 0, .slice none 0 0, .slice none 0 0, .slice none 0 0, .slice none 0 0, .slice none 0 0, .bool false, .bool false] 45) = X0 at k0 k1 k2 LX ⊢
  clear hX
  refine (toInts_made s0 c0 e.l0 B _ (HE.out.p0.later cInt_keeps LX) m0).mono ?_
  rintro z w1 ⟨g0, rfl, e1, d0, hb1⟩
  have lz : w.heap.size + 1 + 1 < X0.heap.size := k2.lt
  replace d0 := d0.drop cInt_drops (B' := w.heap.size + 1 + 1 + 1) (by omega)
  replace LX := bl_trans LX hb1
  replace k0 := k0.later hb1
  replace k1 := k1.later hb1
  replace k2 := k2.later hb1
  have P0 := k0.other (m := w.heap.size + 1 + 1) (by omega) 0 (.slice (some ⟨g0, 0, none⟩) e.l0.length e.l0.length)
  have P1 := k1.other (m := w.heap.size + 1 + 1) (by omega) 0 (.slice (some ⟨g0, 0, none⟩) e.l0.length e.l0.length)
  have P2 : Blk (w1.setCell ⟨w.heap.size + 1 + 1, 0, none⟩ (.slice (some ⟨g0, 0, none⟩) e.l0.length e.l0.length)) (w.heap.size + 1 + 1) #[.slice (some ⟨g0, 0, none⟩) e.l0.length e.l0.length, .slice none 0 0, .slice none 0 0, .slice none 0 0, .slice none 0 0, .slice none 0 0, .slice none 0 0, .slice none 0 0, .bool false, .bool false] 45 := k2.set 0 (.slice (some ⟨g0, 0, none⟩) e.l0.length e.l0.length)
  have LY := LX.setCell (p := ⟨w.heap.size + 1 + 1, 0, none⟩) (by simp; omega) (.slice (some ⟨g0, 0, none⟩) e.l0.length e.l0.length)
  replace d0 := d0.kept cInt_keeps (Kept.set w1 (p := ⟨w.heap.size + 1 + 1, 0, none⟩) (by simp) (.slice (some ⟨g0, 0, none⟩) e.l0.length e.l0.length))
  obtain ⟨z0, z1, z2, z3, z4, z5, z6, z7, z8, z9, zf⟩ := k2.ten
  obtain ⟨x0, x1, x2, x3, x4, x5, x6, x7, x8, x9, xf⟩ := k0.ten
  have n0 : ¬ w.heap.size = w.heap.size + 1 + 1 := by omega
  clear k0 k1 k2 hb1 LX e1
  go_wp2_with fail
  clear x0 x1 x2 x3 x4 x5 x6 x7 x8 x9 xf z0 z1 z2 z3 z4 z5 z6 z7 z8 z9 zf
  clear lz n0
  generalize hX : w1.setCell ⟨w.heap.size + 1 + 1, 0, none⟩ (.slice (some ⟨g0, 0, none⟩) e.l0.length e.l0.length) = X1 at P0 P1 P2 LY d0 ⊢
  clear hX
  clear w1
  clear X0
  have k0 := P0
  have k1 := P1
  have k2 := P2
  replace LX := LY
  clear P0 P1 P2 LY
  refine (toInts_made s1 c1 e.l1 B _ (HE.out.p1.later cInt_keeps LX) m1).mono ?_
  rintro z w1 ⟨g1, rfl, e1, d1, hb1⟩
  have lz : w.heap.size + 1 + 1 < X1.heap.size := k2.lt
  replace d1 := d1.drop cInt_drops (B' := w.heap.size + 1 + 1 + 1) (by omega)
  replace LX := bl_trans LX hb1
  replace k0 := k0.later hb1
  replace k1 := k1.later hb1
  replace k2 := k2.later hb1
  replace d0 := d0.later cInt_keeps hb1
  have P0 := k0.other (m := w.heap.size + 1 + 1) (by omega) 1 (.slice (some ⟨g1, 0, none⟩) e.l1.length e.l1.length)
  have P1 := k1.other (m := w.heap.size + 1 + 1) (by omega) 1 (.slice (some ⟨g1, 0, none⟩) e.l1.length e.l1.length)
  have P2 : Blk (w1.setCell ⟨w.heap.size + 1 + 1, 1, none⟩ (.slice (some ⟨g1, 0, none⟩) e.l1.length e.l1.length)) (w.heap.size + 1 + 1) #[.slice (some ⟨g0, 0, none⟩) e.l0.length e.l0.length, .slice (some ⟨g1, 0, none⟩) e.l1.length e.l1.length, .slice none 0 0, .slice none 0 0, .slice none 0 0, .slice none 0 0, .slice none 0 0, .slice none 0 0, .bool false, .bool false] 45 := k2.set 1 (.slice (some ⟨g1, 0, none⟩) e.l1.length e.l1.length)
  have LY := LX.setCell (p := ⟨w.heap.size + 1 + 1, 1, none⟩) (by simp; omega) (.slice (some ⟨g1, 0, none⟩) e.l1.length e.l1.length)
  replace d0 := d0.kept cInt_keeps (Kept.set w1 (p := ⟨w.heap.size + 1 + 1, 1, none⟩) (by simp) (.slice (some ⟨g1, 0, none⟩) e.l1.length e.l1.length))
  replace d1 := d1.kept cInt_keeps (Kept.set w1 (p := ⟨w.heap.size + 1 + 1, 1, none⟩) (by simp) (.slice (some ⟨g1, 0, none⟩) e.l1.length e.l1.length))
  obtain ⟨z0, z1, z2, z3, z4, z5, z6, z7, z8, z9, zf⟩ := k2.ten
  obtain ⟨x0, x1, x2, x3, x4, x5, x6, x7, x8, x9, xf⟩ := k0.ten
  have n0 : ¬ w.heap.size = w.heap.size + 1 + 1 := by omega
  clear k0 k1 k2 hb1 LX e1
  go_wp2_with fail
  clear x0 x1 x2 x3 x4 x5 x6 x7 x8 x9 xf z0 z1 z2 z3 z4 z5 z6 z7 z8 z9 zf
  clear lz n0
  generalize hX : w1.setCell ⟨w.heap.size + 1 + 1, 1, none⟩ (.slice (some ⟨g1, 0, none⟩) e.l1.length e.l1.length) = X2 at P0 P1 P2 LY d0 d1 ⊢
  clear hX
  clear w1
  clear X1
  have k0 := P0
  have k1 := P1
  have k2 := P2
  replace LX := LY
  clear P0 P1 P2 LY
  refine (toInts_made s2 c2 e.l2 B _ (HE.out.p2.later cInt_keeps LX) m2).mono ?_
  rintro z w1 ⟨g2, rfl, e1, d2, hb1⟩
  have lz : w.heap.size + 1 + 1 < X2.heap.size := k2.lt
  replace d2 := d2.drop cInt_drops (B' := w.heap.size + 1 + 1 + 1) (by omega)
  replace LX := bl_trans LX hb1
  replace k0 := k0.later hb1
  replace k1 := k1.later hb1
  replace k2 := k2.later hb1
  replace d0 := d0.later cInt_keeps hb1
  replace d1 := d1.later cInt_keeps hb1
  have P0 := k0.other (m := w.heap.size + 1 + 1) (by omega) 2 (.slice (some ⟨g2, 0, none⟩) e.l2.length e.l2.length)
  have P1 := k1.other (m := w.heap.size + 1 + 1) (by omega) 2 (.slice (some ⟨g2, 0, none⟩) e.l2.length e.l2.length)
  have P2 : Blk (w1.setCell ⟨w.heap.size + 1 + 1, 2, none⟩ (.slice (some ⟨g2, 0, none⟩) e.l2.length e.l2.length)) (w.heap.size + 1 + 1) #[.slice (some ⟨g0, 0, none⟩) e.l0.length e.l0.length, .slice (some ⟨g1, 0, none⟩) e.l1.length e.l1.length, .slice (some ⟨g2, 0, none⟩) e.l2.length e.l2.length, .slice none 0 0, .slice none 0 0, .slice none 0 0, .slice none 0 0, .slice none 0 0, .bool false, .bool false] 45 := k2.set 2 (.slice (some ⟨g2, 0, none⟩) e.l2.length e.l2.length)
  have LY := LX.setCell (p := ⟨w.heap.size + 1 + 1, 2, none⟩) (by simp; omega) (.slice (some ⟨g2, 0, none⟩) e.l2.length e.l2.length)
  replace d0 := d0.kept cInt_keeps (Kept.set w1 (p := ⟨w.heap.size + 1 + 1, 2, none⟩) (by simp) (.slice (some ⟨g2, 0, none⟩) e.l2.length e.l2.length))
  replace d1 := d1.kept cInt_keeps (Kept.set w1 (p := ⟨w.heap.size + 1 + 1, 2, none⟩) (by simp) (.slice (some ⟨g2, 0, none⟩) e.l2.length e.l2.length))
  replace d2 := d2.kept cInt_keeps (Kept.set w1 (p := ⟨w.heap.size + 1 + 1, 2, none⟩) (by simp) (.slice (some ⟨g2, 0, none⟩) e.l2.length e.l2.length))
  obtain ⟨z0, z1, z2, z3, z4, z5, z6, z7, z8, z9, zf⟩ := k2.ten
  obtain ⟨x0, x1, x2, x3, x4, x5, x6, x7, x8, x9, xf⟩ := k0.ten
  have n0 : ¬ w.heap.size = w.heap.size + 1 + 1 := by omega
  clear k0 k1 k2 hb1 LX e1
  go_wp2_with fail
  clear x0 x1 x2 x3 x4 x5 x6 x7 x8 x9 xf z0 z1 z2 z3 z4 z5 z6 z7 z8 z9 zf
  clear lz n0
  generalize hX : w1.setCell ⟨w.heap.size + 1 + 1, 2, none⟩ (.slice (some ⟨g2, 0, none⟩) e.l2.length e.l2.length) = X3 at P0 P1 P2 LY d0 d1 d2 ⊢
  clear hX
  clear w1
  clear X2
  have k0 := P0
  have k1 := P1
  have k2 := P2
  replace LX := LY
  clear P0 P1 P2 LY
  refine (toInts_made s3 c3 e.l3 B _ (HE.out.p3.later cInt_keeps LX) m3).mono ?_
  rintro z w1 ⟨g3, rfl, e1, d3, hb1⟩
  have lz : w.heap.size + 1 + 1 < X3.heap.size := k2.lt
  replace d3 := d3.drop cInt_drops (B' := w.heap.size + 1 + 1 + 1) (by omega)
  replace LX := bl_trans LX hb1
  replace k0 := k0.later hb1
  replace k1 := k1.later hb1
  replace k2 := k2.later hb1
  replace d0 := d0.later cInt_keeps hb1
  replace d1 := d1.later cInt_keeps hb1
  replace d2 := d2.later cInt_keeps hb1
  have P0 := k0.other (m := w.heap.size + 1 + 1) (by omega) 3 (.slice (some ⟨g3, 0, none⟩) e.l3.length e.l3.length)
  have P1 := k1.other (m := w.heap.size + 1 + 1) (by omega) 3 (.slice (some ⟨g3, 0, none⟩) e.l3.length e.l3.length)
  have P2 : Blk (w1.setCell ⟨w.heap.size + 1 + 1, 3, none⟩ (.slice (some ⟨g3, 0, none⟩) e.l3.length e.l3.length)) (w.heap.size + 1 + 1) #[.slice (some ⟨g0, 0, none⟩) e.l0.length e.l0.length, .slice (some ⟨g1, 0, none⟩) e.l1.length e.l1.length, .slice (some ⟨g2, 0, none⟩) e.l2.length e.l2.length, .slice (some ⟨g3, 0, none⟩) e.l3.length e.l3.length, .slice none 0 0, .slice none 0 0, .slice none 0 0, .slice none 0 0, .bool false, .bool false] 45 := k2.set 3 (.slice (some ⟨g3, 0, none⟩) e.l3.length e.l3.length)
  have LY := LX.setCell (p := ⟨w.heap.size + 1 + 1, 3, none⟩) (by simp; omega) (.slice (some ⟨g3, 0, none⟩) e.l3.length e.l3.length)
  replace d0 := d0.kept cInt_keeps (Kept.set w1 (p := ⟨w.heap.size + 1 + 1, 3, none⟩) (by simp) (.slice (some ⟨g3, 0, none⟩) e.l3.length e.l3.length))
  replace d1 := d1.kept cInt_keeps (Kept.set w1 (p := ⟨w.heap.size + 1 + 1, 3, none⟩) (by simp) (.slice (some ⟨g3, 0, none⟩) e.l3.length e.l3.length))
  replace d2 := d2.kept cInt_keeps (Kept.set w1 (p := ⟨w.heap.size + 1 + 1, 3, none⟩) (by simp) (.slice (some ⟨g3, 0, none⟩) e.l3.length e.l3.length))
  replace d3 := d3.kept cInt_keeps (Kept.set w1 (p := ⟨w.heap.size + 1 + 1, 3, none⟩) (by simp) (.slice (some ⟨g3, 0, none⟩) e.l3.length e.l3.length))
  obtain ⟨z0, z1, z2, z3, z4, z5, z6, z7, z8, z9, zf⟩ := k2.ten
  obtain ⟨x0, x1, x2, x3, x4, x5, x6, x7, x8, x9, xf⟩ := k0.ten
  have n0 : ¬ w.heap.size = w.heap.size + 1 + 1 := by omega
  clear k0 k1 k2 hb1 LX e1
  go_wp2_with fail
  clear x0 x1 x2 x3 x4 x5 x6 x7 x8 x9 xf z0 z1 z2 z3 z4 z5 z6 z7 z8 z9 zf
  clear lz n0
  generalize hX : w1.setCell ⟨w.heap.size + 1 + 1, 3, none⟩ (.slice (some ⟨g3, 0, none⟩) e.l3.length e.l3.length) = X4 at P0 P1 P2 LY d0 d1 d2 d3 ⊢
  clear hX
  clear w1
  clear X3
  have k0 := P0
  have k1 := P1
  have k2 := P2
  replace LX := LY
  clear P0 P1 P2 LY
  refine (toInts_made s4 c4 e.l4 B _ (HE.out.p4.later cInt_keeps LX) m4).mono ?_
  rintro z w1 ⟨g4, rfl, e1, d4, hb1⟩
  have lz : w.heap.size + 1 + 1 < X4.heap.size := k2.lt
  replace d4 := d4.drop cInt_drops (B' := w.heap.size + 1 + 1 + 1) (by omega)
  replace LX := bl_trans LX hb1
  replace k0 := k0.later hb1
  replace k1 := k1.later hb1
  replace k2 := k2.later hb1
  replace d0 := d0.later cInt_keeps hb1
  replace d1 := d1.later cInt_keeps hb1
  replace d2 := d2.later cInt_keeps hb1
  replace d3 := d3.later cInt_keeps hb1
  have P0 := k0.other (m := w.heap.size + 1 + 1) (by omega) 4 (.slice (some ⟨g4, 0, none⟩) e.l4.length e.l4.length)
  have P1 := k1.other (m := w.heap.size + 1 + 1) (by omega) 4 (.slice (some ⟨g4, 0, none⟩) e.l4.length e.l4.length)
  have P2 : Blk (w1.setCell ⟨w.heap.size + 1 + 1, 4, none⟩ (.slice (some ⟨g4, 0, none⟩) e.l4.length e.l4.length)) (w.heap.size + 1 + 1) #[.slice (some ⟨g0, 0, none⟩) e.l0.length e.l0.length, .slice (some ⟨g1, 0, none⟩) e.l1.length e.l1.length, .slice (some ⟨g2, 0, none⟩) e.l2.length e.l2.length, .slice (some ⟨g3, 0, none⟩) e.l3.length e.l3.length, .slice (some ⟨g4, 0, none⟩) e.l4.length e.l4.length, .slice none 0 0, .slice none 0 0, .slice none 0 0, .bool false, .bool false] 45 := k2.set 4 (.slice (some ⟨g4, 0, none⟩) e.l4.length e.l4.length)
  have LY := LX.setCell (p := ⟨w.heap.size + 1 + 1, 4, none⟩) (by simp; omega) (.slice (some ⟨g4, 0, none⟩) e.l4.length e.l4.length)
  replace d0 := d0.kept cInt_keeps (Kept.set w1 (p := ⟨w.heap.size + 1 + 1, 4, none⟩) (by simp) (.slice (some ⟨g4, 0, none⟩) e.l4.length e.l4.length))
  replace d1 := d1.kept cInt_keeps (Kept.set w1 (p := ⟨w.heap.size + 1 + 1, 4, none⟩) (by simp) (.slice (some ⟨g4, 0, none⟩) e.l4.length e.l4.length))
  replace d2 := d2.kept cInt_keeps (Kept.set w1 (p := ⟨w.heap.size + 1 + 1, 4, none⟩) (by simp) (.slice (some ⟨g4, 0, none⟩) e.l4.length e.l4.length))
  replace d3 := d3.kept cInt_keeps (Kept.set w1 (p := ⟨w.heap.size + 1 + 1, 4, none⟩) (by simp) (.slice (some ⟨g4, 0, none⟩) e.l4.length e.l4.length))
  replace d4 := d4.kept cInt_keeps (Kept.set w1 (p := ⟨w.heap.size + 1 + 1, 4, none⟩) (by simp) (.slice (some ⟨g4, 0, none⟩) e.l4.length e.l4.length))
  obtain ⟨z0, z1, z2, z3, z4, z5, z6, z7, z8, z9, zf⟩ := k2.ten
  obtain ⟨x0, x1, x2, x3, x4, x5, x6, x7, x8, x9, xf⟩ := k0.ten
  have n0 : ¬ w.heap.size = w.heap.size + 1 + 1 := by omega
  clear k0 k1 k2 hb1 LX e1
  go_wp2_with fail
  clear x0 x1 x2 x3 x4 x5 x6 x7 x8 x9 xf z0 z1 z2 z3 z4 z5 z6 z7 z8 z9 zf
  clear lz n0
  generalize hX : w1.setCell ⟨w.heap.size + 1 + 1, 4, none⟩ (.slice (some ⟨g4, 0, none⟩) e.l4.length e.l4.length) = X5 at P0 P1 P2 LY d0 d1 d2 d3 d4 ⊢
  clear hX
  clear w1
  clear X4
  have k0 := P0
  have k1 := P1
  have k2 := P2
  replace LX := LY
  clear P0 P1 P2 LY
  refine (toInts_made s5 c5 e.l5 B _ (HE.out.p5.later cInt_keeps LX) m5).mono ?_
  rintro z w1 ⟨g5, rfl, e1, d5, hb1⟩
  have lz : w.heap.size + 1 + 1 < X5.heap.size := k2.lt
  replace d5 := d5.drop cInt_drops (B' := w.heap.size + 1 + 1 + 1) (by omega)
  replace LX := bl_trans LX hb1
  replace k0 := k0.later hb1
  replace k1 := k1.later hb1
  replace k2 := k2.later hb1
  replace d0 := d0.later cInt_keeps hb1
  replace d1 := d1.later cInt_keeps hb1
  replace d2 := d2.later cInt_keeps hb1
  replace d3 := d3.later cInt_keeps hb1
  replace d4 := d4.later cInt_keeps hb1
  have P0 := k0.other (m := w.heap.size + 1 + 1) (by omega) 5 (.slice (some ⟨g5, 0, none⟩) e.l5.length e.l5.length)
  have P1 := k1.other (m := w.heap.size + 1 + 1) (by omega) 5 (.slice (some ⟨g5, 0, none⟩) e.l5.length e.l5.length)
  have P2 : Blk (w1.setCell ⟨w.heap.size + 1 + 1, 5, none⟩ (.slice (some ⟨g5, 0, none⟩) e.l5.length e.l5.length)) (w.heap.size + 1 + 1) #[.slice (some ⟨g0, 0, none⟩) e.l0.length e.l0.length, .slice (some ⟨g1, 0, none⟩) e.l1.length e.l1.length, .slice (some ⟨g2, 0, none⟩) e.l2.length e.l2.length, .slice (some ⟨g3, 0, none⟩) e.l3.length e.l3.length, .slice (some ⟨g4, 0, none⟩) e.l4.length e.l4.length, .slice (some ⟨g5, 0, none⟩) e.l5.length e.l5.length, .slice none 0 0, .slice none 0 0, .bool false, .bool false] 45 := k2.set 5 (.slice (some ⟨g5, 0, none⟩) e.l5.length e.l5.length)
  have LY := LX.setCell (p := ⟨w.heap.size + 1 + 1, 5, none⟩) (by simp; omega) (.slice (some ⟨g5, 0, none⟩) e.l5.length e.l5.length)
  replace d0 := d0.kept cInt_keeps (Kept.set w1 (p := ⟨w.heap.size + 1 + 1, 5, none⟩) (by simp) (.slice (some ⟨g5, 0, none⟩) e.l5.length e.l5.length))
  replace d1 := d1.kept cInt_keeps (Kept.set w1 (p := ⟨w.heap.size + 1 + 1, 5, none⟩) (by simp) (.slice (some ⟨g5, 0, none⟩) e.l5.length e.l5.length))
  replace d2 := d2.kept cInt_keeps (Kept.set w1 (p := ⟨w.heap.size + 1 + 1, 5, none⟩) (by simp) (.slice (some ⟨g5, 0, none⟩) e.l5.length e.l5.length))
  replace d3 := d3.kept cInt_keeps (Kept.set w1 (p := ⟨w.heap.size + 1 + 1, 5, none⟩) (by simp) (.slice (some ⟨g5, 0, none⟩) e.l5.length e.l5.length))
  replace d4 := d4.kept cInt_keeps (Kept.set w1 (p := ⟨w.heap.size + 1 + 1, 5, none⟩) (by simp) (.slice (some ⟨g5, 0, none⟩) e.l5.length e.l5.length))
  replace d5 := d5.kept cInt_keeps (Kept.set w1 (p := ⟨w.heap.size + 1 + 1, 5, none⟩) (by simp) (.slice (some ⟨g5, 0, none⟩) e.l5.length e.l5.length))
  obtain ⟨z0, z1, z2, z3, z4, z5, z6, z7, z8, z9, zf⟩ := k2.ten
  obtain ⟨x0, x1, x2, x3, x4, x5, x6, x7, x8, x9, xf⟩ := k0.ten
  have n0 : ¬ w.heap.size = w.heap.size + 1 + 1 := by omega
  clear k0 k1 k2 hb1 LX e1
  go_wp2_with fail
  clear x0 x1 x2 x3 x4 x5 x6 x7 x8 x9 xf z0 z1 z2 z3 z4 z5 z6 z7 z8 z9 zf
  clear lz n0
  generalize hX : w1.setCell ⟨w.heap.size + 1 + 1, 5, none⟩ (.slice (some ⟨g5, 0, none⟩) e.l5.length e.l5.length) = X6 at P0 P1 P2 LY d0 d1 d2 d3 d4 d5 ⊢
  clear hX
  clear w1
  clear X5
  have k0 := P0
  have k1 := P1
  have k2 := P2
  replace LX := LY
  clear P0 P1 P2 LY
  refine (toInts_made s6 c6 e.l6 B _ (HE.out.p6.later cInt_keeps LX) m6).mono ?_
  rintro z w1 ⟨g6, rfl, e1, d6, hb1⟩
  have lz : w.heap.size + 1 + 1 < X6.heap.size := k2.lt
  replace d6 := d6.drop cInt_drops (B' := w.heap.size + 1 + 1 + 1) (by omega)
  replace LX := bl_trans LX hb1
  replace k0 := k0.later hb1
  replace k1 := k1.later hb1
  replace k2 := k2.later hb1
  replace d0 := d0.later cInt_keeps hb1
  replace d1 := d1.later cInt_keeps hb1
  replace d2 := d2.later cInt_keeps hb1
  replace d3 := d3.later cInt_keeps hb1
  replace d4 := d4.later cInt_keeps hb1
  replace d5 := d5.later cInt_keeps hb1
  have P0 := k0.other (m := w.heap.size + 1 + 1) (by omega) 6 (.slice (some ⟨g6, 0, none⟩) e.l6.length e.l6.length)
  have P1 := k1.other (m := w.heap.size + 1 + 1) (by omega) 6 (.slice (some ⟨g6, 0, none⟩) e.l6.length e.l6.length)
  have P2 : Blk (w1.setCell ⟨w.heap.size + 1 + 1, 6, none⟩ (.slice (some ⟨g6, 0, none⟩) e.l6.length e.l6.length)) (w.heap.size + 1 + 1) #[.slice (some ⟨g0, 0, none⟩) e.l0.length e.l0.length, .slice (some ⟨g1, 0, none⟩) e.l1.length e.l1.length, .slice (some ⟨g2, 0, none⟩) e.l2.length e.l2.length, .slice (some ⟨g3, 0, none⟩) e.l3.length e.l3.length, .slice (some ⟨g4, 0, none⟩) e.l4.length e.l4.length, .slice (some ⟨g5, 0, none⟩) e.l5.length e.l5.length, .slice (some ⟨g6, 0, none⟩) e.l6.length e.l6.length, .slice none 0 0, .bool false, .bool false] 45 := k2.set 6 (.slice (some ⟨g6, 0, none⟩) e.l6.length e.l6.length)
  have LY := LX.setCell (p := ⟨w.heap.size + 1 + 1, 6, none⟩) (by simp; omega) (.slice (some ⟨g6, 0, none⟩) e.l6.length e.l6.length)
  replace d0 := d0.kept cInt_keeps (Kept.set w1 (p := ⟨w.heap.size + 1 + 1, 6, none⟩) (by simp) (.slice (some ⟨g6, 0, none⟩) e.l6.length e.l6.length))
  replace d1 := d1.kept cInt_keeps (Kept.set w1 (p := ⟨w.heap.size + 1 + 1, 6, none⟩) (by simp) (.slice (some ⟨g6, 0, none⟩) e.l6.length e.l6.length))
  replace d2 := d2.kept cInt_keeps (Kept.set w1 (p := ⟨w.heap.size + 1 + 1, 6, none⟩) (by simp) (.slice (some ⟨g6, 0, none⟩) e.l6.length e.l6.length))
  replace d3 := d3.kept cInt_keeps (Kept.set w1 (p := ⟨w.heap.size + 1 + 1, 6, none⟩) (by simp) (.slice (some ⟨g6, 0, none⟩) e.l6.length e.l6.length))
  replace d4 := d4.kept cInt_keeps (Kept.set w1 (p := ⟨w.heap.size + 1 + 1, 6, none⟩) (by simp) (.slice (some ⟨g6, 0, none⟩) e.l6.length e.l6.length))
  replace d5 := d5.kept cInt_keeps (Kept.set w1 (p := ⟨w.heap.size + 1 + 1, 6, none⟩) (by simp) (.slice (some ⟨g6, 0, none⟩) e.l6.length e.l6.length))
  replace d6 := d6.kept cInt_keeps (Kept.set w1 (p := ⟨w.heap.size + 1 + 1, 6, none⟩) (by simp) (.slice (some ⟨g6, 0, none⟩) e.l6.length e.l6.length))
  obtain ⟨z0, z1, z2, z3, z4, z5, z6, z7, z8, z9, zf⟩ := k2.ten
  obtain ⟨x0, x1, x2, x3, x4, x5, x6, x7, x8, x9, xf⟩ := k0.ten
  have n0 : ¬ w.heap.size = w.heap.size + 1 + 1 := by omega
  clear k0 k1 k2 hb1 LX e1
  go_wp2_with fail
  clear x0 x1 x2 x3 x4 x5 x6 x7 x8 x9 xf z0 z1 z2 z3 z4 z5 z6 z7 z8 z9 zf
  clear lz n0
  generalize hX : w1.setCell ⟨w.heap.size + 1 + 1, 6, none⟩ (.slice (some ⟨g6, 0, none⟩) e.l6.length e.l6.length) = X7 at P0 P1 P2 LY d0 d1 d2 d3 d4 d5 d6 ⊢
  clear hX
  clear w1
  clear X6
  have k0 := P0
  have k1 := P1
  have k2 := P2
  replace LX := LY
  clear P0 P1 P2 LY
  refine (toInts_made s7 c7 e.l7 B _ (HE.out.p7.later cInt_keeps LX) m7).mono ?_
  rintro z w1 ⟨g7, rfl, e1, d7, hb1⟩
  have lz : w.heap.size + 1 + 1 < X7.heap.size := k2.lt
  replace d7 := d7.drop cInt_drops (B' := w.heap.size + 1 + 1 + 1) (by omega)
  replace LX := bl_trans LX hb1
  replace k0 := k0.later hb1
  replace k1 := k1.later hb1
  replace k2 := k2.later hb1
  replace d0 := d0.later cInt_keeps hb1
  replace d1 := d1.later cInt_keeps hb1
  replace d2 := d2.later cInt_keeps hb1
  replace d3 := d3.later cInt_keeps hb1
  replace d4 := d4.later cInt_keeps hb1
  replace d5 := d5.later cInt_keeps hb1
  replace d6 := d6.later cInt_keeps hb1
  have P0 := k0.other (m := w.heap.size + 1 + 1) (by omega) 7 (.slice (some ⟨g7, 0, none⟩) e.l7.length e.l7.length)
  have P1 := k1.other (m := w.heap.size + 1 + 1) (by omega) 7 (.slice (some ⟨g7, 0, none⟩) e.l7.length e.l7.length)
  have P2 : Blk (w1.setCell ⟨w.heap.size + 1 + 1, 7, none⟩ (.slice (some ⟨g7, 0, none⟩) e.l7.length e.l7.length)) (w.heap.size + 1 + 1) #[.slice (some ⟨g0, 0, none⟩) e.l0.length e.l0.length, .slice (some ⟨g1, 0, none⟩) e.l1.length e.l1.length, .slice (some ⟨g2, 0, none⟩) e.l2.length e.l2.length, .slice (some ⟨g3, 0, none⟩) e.l3.length e.l3.length, .slice (some ⟨g4, 0, none⟩) e.l4.length e.l4.length, .slice (some ⟨g5, 0, none⟩) e.l5.length e.l5.length, .slice (some ⟨g6, 0, none⟩) e.l6.length e.l6.length, .slice (some ⟨g7, 0, none⟩) e.l7.length e.l7.length, .bool false, .bool false] 45 := k2.set 7 (.slice (some ⟨g7, 0, none⟩) e.l7.length e.l7.length)
  have LY := LX.setCell (p := ⟨w.heap.size + 1 + 1, 7, none⟩) (by simp; omega) (.slice (some ⟨g7, 0, none⟩) e.l7.length e.l7.length)
  replace d0 := d0.kept cInt_keeps (Kept.set w1 (p := ⟨w.heap.size + 1 + 1, 7, none⟩) (by simp) (.slice (some ⟨g7, 0, none⟩) e.l7.length e.l7.length))
  replace d1 := d1.kept cInt_keeps (Kept.set w1 (p := ⟨w.heap.size + 1 + 1, 7, none⟩) (by simp) (.slice (some ⟨g7, 0, none⟩) e.l7.length e.l7.length))
  replace d2 := d2.kept cInt_keeps (Kept.set w1 (p := ⟨w.heap.size + 1 + 1, 7, none⟩) (by simp) (.slice (some ⟨g7, 0, none⟩) e.l7.length e.l7.length))
  replace d3 := d3.kept cInt_keeps (Kept.set w1 (p := ⟨w.heap.size + 1 + 1, 7, none⟩) (by simp) (.slice (some ⟨g7, 0, none⟩) e.l7.length e.l7.length))
  replace d4 := d4.kept cInt_keeps (Kept.set w1 (p := ⟨w.heap.size + 1 + 1, 7, none⟩) (by simp) (.slice (some ⟨g7, 0, none⟩) e.l7.length e.l7.length))
  replace d5 := d5.kept cInt_keeps (Kept.set w1 (p := ⟨w.heap.size + 1 + 1, 7, none⟩) (by simp) (.slice (some ⟨g7, 0, none⟩) e.l7.length e.l7.length))
  replace d6 := d6.kept cInt_keeps (Kept.set w1 (p := ⟨w.heap.size + 1 + 1, 7, none⟩) (by simp) (.slice (some ⟨g7, 0, none⟩) e.l7.length e.l7.length))
  replace d7 := d7.kept cInt_keeps (Kept.set w1 (p := ⟨w.heap.size + 1 + 1, 7, none⟩) (by simp) (.slice (some ⟨g7, 0, none⟩) e.l7.length e.l7.length))
  obtain ⟨y0, y1, y2, y3, y4, y5, y6, y7, y8, y9, yf⟩ := k1.ten
  have n1 : ¬ w.heap.size + 1 = w.heap.size + 1 + 1 := by omega
  obtain ⟨z0, z1, z2, z3, z4, z5, z6, z7, z8, z9, zf⟩ := k2.ten
  obtain ⟨x0, x1, x2, x3, x4, x5, x6, x7, x8, x9, xf⟩ := k0.ten
  have n0 : ¬ w.heap.size = w.heap.size + 1 + 1 := by omega
  clear k0 k1 k2 hb1 LX e1
  go_wp2_with fail
  refine bodyPost_ret (v := .agg #[.slice (some ⟨g0, 0, none⟩) e.l0.length e.l0.length, .slice (some ⟨g1, 0, none⟩) e.l1.length e.l1.length, .slice (some ⟨g2, 0, none⟩) e.l2.length e.l2.length, .slice (some ⟨g3, 0, none⟩) e.l3.length e.l3.length, .slice (some ⟨g4, 0, none⟩) e.l4.length e.l4.length, .slice (some ⟨g5, 0, none⟩) e.l5.length e.l5.length, .slice (some ⟨g6, 0, none⟩) e.l6.length e.l6.length, .slice (some ⟨g7, 0, none⟩) e.l7.length e.l7.length, .bool e.sp, .bool e.kl]) (by simp [results, Try.results31, go_sem, y0, y1, y2, y3, y4, y5, y6, y7, y8, y9]) rfl ⟨⟨g0, g1, g2, g3, g4, g5, g6, g7, rfl, ?_⟩, ?_⟩
  · refine InE.drop (B := w.heap.size + 1 + 1 + 1) (InE.kept (w := w1.setCell ⟨w.heap.size + 1 + 1, 7, none⟩ (.slice (some ⟨g7, 0, none⟩) e.l7.length e.l7.length)) ⟨d0, d1, d2, d3, d4, d5, d6, d7⟩ ?_) (by omega)
    repeat (first | with_reducible exact Kept.refl _ _ | with_reducible refine Kept.trans ?_ (Kept.set _ (by simp <;> omega) _))
  · repeat (first | with_reducible exact LY | with_reducible refine Below.setCell ?_ (by simp <;> omega) _)

set_option maxRecDepth 100000 in
set_option maxHeartbeats 16000000 in
theorem eqEffect_self (s0 s1 s2 s3 s4 s5 s6 s7 t0 t1 t2 t3 t4 t5 t6 t7 : Option Addr) (c0 c1 c2 c3 c4 c5 c6 c7 d0 d1 d2 d3 d4 d5 d6 d7 : Nat) (e : Ef) (B C : Nat) (w : World) (hs : InE w B s0 s1 s2 s3 s4 s5 s6 s7 e) (ht : InE w C t0 t1 t2 t3 t4 t5 t6 t7 e) (hk : e.l0.length ≤ 4398046511104 ∧ e.l1.length ≤ 4398046511104 ∧ e.l2.length ≤ 4398046511104 ∧ e.l3.length ≤ 4398046511104 ∧ e.l4.length ≤ 4398046511104 ∧ e.l5.length ≤ 4398046511104 ∧ e.l6.length ≤ 4398046511104 ∧ e.l7.length ≤ 4398046511104) :
    Calls Try.prog 35 #[.agg #[.slice s0 e.l0.length c0, .slice s1 e.l1.length c1, .slice s2 e.l2.length c2, .slice s3 e.l3.length c3, .slice s4 e.l4.length c4, .slice s5 e.l5.length c5, .slice s6 e.l6.length c6, .slice s7 e.l7.length c7, .bool e.sp, .bool e.kl], .agg #[.slice t0 e.l0.length d0, .slice t1 e.l1.length d1, .slice t2 e.l2.length d2, .slice t3 e.l3.length d3, .slice t4 e.l4.length d4, .slice t5 e.l5.length d5, .slice t6 e.l6.length d6, .slice t7 e.l7.length d7, .bool e.sp, .bool e.kl]] w fun z w' => z = .returned (.bool true) ∧ Below w.heap.size w w' := by
  obtain ⟨m0, m1, m2, m3, m4, m5, m6, m7⟩ := hk
  have HS : Hid (InE w B s0 s1 s2 s3 s4 s5 s6 s7 e) := hs
  have HT : Hid (InE w C t0 t1 t2 t3 t4 t5 t6 t7 e) := ht
  clear hs ht
  obtain ⟨k0, k1, LX⟩ := blkTwoE w #[.slice s0 e.l0.length c0, .slice s1 e.l1.length c1, .slice s2 e.l2.length c2, .slice s3 e.l3.length c3, .slice s4 e.l4.length c4, .slice s5 e.l5.length c5, .slice s6 e.l6.length c6, .slice s7 e.l7.length c7, .bool e.sp, .bool e.kl] #[.slice t0 e.l0.length d0, .slice t1 e.l1.length d1, .slice t2 e.l2.length d2, .slice t3 e.l3.length d3, .slice t4 e.l4.length d4, .slice t5 e.l5.length d5, .slice t6 e.l6.length d6, .slice t7 e.l7.length d7, .bool e.sp, .bool e.kl] 45 45
  obtain ⟨x0, x1, x2, x3, x4, x5, x6, x7, x8, x9, xf⟩ := k0.ten
  obtain ⟨y0, y1, y2, y3, y4, y5, y6, y7, y8, y9, yf⟩ := k1.ten
  go_enter Try.func35, Try.ntmps35
  go_wp2_with fail
  refine (eqI_more s0 t0 c0 d0 e.l0 B C _ (HS.out.p0.later cInt_keeps LX) (HT.out.p0.later cInt_keeps LX) m0).mono ?_
  rintro z w1 ⟨rfl, hb1⟩
  replace LX := bl_trans LX hb1
  replace k0 := k0.later hb1
  replace k1 := k1.later hb1
  clear x0 x1 x2 x3 x4 x5 x6 x7 x8 x9 xf y0 y1 y2 y3 y4 y5 y6 y7 y8 y9 yf hb1
  obtain ⟨x0, x1, x2, x3, x4, x5, x6, x7, x8, x9, xf⟩ := k0.ten
  obtain ⟨y0, y1, y2, y3, y4, y5, y6, y7, y8, y9, yf⟩ := k1.ten
  go_wp2_with fail
  refine (eqI_more s1 t1 c1 d1 e.l1 B C _ (HS.out.p1.later cInt_keeps LX) (HT.out.p1.later cInt_keeps LX) m1).mono ?_
  rintro z w2 ⟨rfl, hb1⟩
  replace LX := bl_trans LX hb1
  replace k0 := k0.later hb1
  replace k1 := k1.later hb1
  clear x0 x1 x2 x3 x4 x5 x6 x7 x8 x9 xf y0 y1 y2 y3 y4 y5 y6 y7 y8 y9 yf hb1
  obtain ⟨x0, x1, x2, x3, x4, x5, x6, x7, x8, x9, xf⟩ := k0.ten
  obtain ⟨y0, y1, y2, y3, y4, y5, y6, y7, y8, y9, yf⟩ := k1.ten
  go_wp2_with fail
  refine (eqI_more s2 t2 c2 d2 e.l2 B C _ (HS.out.p2.later cInt_keeps LX) (HT.out.p2.later cInt_keeps LX) m2).mono ?_
  rintro z w3 ⟨rfl, hb1⟩
  replace LX := bl_trans LX hb1
  replace k0 := k0.later hb1
  replace k1 := k1.later hb1
  clear x0 x1 x2 x3 x4 x5 x6 x7 x8 x9 xf y0 y1 y2 y3 y4 y5 y6 y7 y8 y9 yf hb1
  obtain ⟨x0, x1, x2, x3, x4, x5, x6, x7, x8, x9, xf⟩ := k0.ten
  obtain ⟨y0, y1, y2, y3, y4, y5, y6, y7, y8, y9, yf⟩ := k1.ten
  go_wp2_with fail
  refine (eqI_more s3 t3 c3 d3 e.l3 B C _ (HS.out.p3.later cInt_keeps LX) (HT.out.p3.later cInt_keeps LX) m3).mono ?_
  rintro z w4 ⟨rfl, hb1⟩
  replace LX := bl_trans LX hb1
  replace k0 := k0.later hb1
  replace k1 := k1.later hb1
  clear x0 x1 x2 x3 x4 x5 x6 x7 x8 x9 xf y0 y1 y2 y3 y4 y5 y6 y7 y8 y9 yf hb1
  obtain ⟨x0, x1, x2, x3, x4, x5, x6, x7, x8, x9, xf⟩ := k0.ten
  obtain ⟨y0, y1, y2, y3, y4, y5, y6, y7, y8, y9, yf⟩ := k1.ten
  go_wp2_with fail
  refine (eqI_more s4 t4 c4 d4 e.l4 B C _ (HS.out.p4.later cInt_keeps LX) (HT.out.p4.later cInt_keeps LX) m4).mono ?_
  rintro z w5 ⟨rfl, hb1⟩
  replace LX := bl_trans LX hb1
  replace k0 := k0.later hb1
  replace k1 := k1.later hb1
  clear x0 x1 x2 x3 x4 x5 x6 x7 x8 x9 xf y0 y1 y2 y3 y4 y5 y6 y7 y8 y9 yf hb1
  obtain ⟨x0, x1, x2, x3, x4, x5, x6, x7, x8, x9, xf⟩ := k0.ten
  obtain ⟨y0, y1, y2, y3, y4, y5, y6, y7, y8, y9, yf⟩ := k1.ten
  go_wp2_with fail
  refine (eqI_more s5 t5 c5 d5 e.l5 B C _ (HS.out.p5.later cInt_keeps LX) (HT.out.p5.later cInt_keeps LX) m5).mono ?_
  rintro z w6 ⟨rfl, hb1⟩
  replace LX := bl_trans LX hb1
  replace k0 := k0.later hb1
  replace k1 := k1.later hb1
  clear x0 x1 x2 x3 x4 x5 x6 x7 x8 x9 xf y0 y1 y2 y3 y4 y5 y6 y7 y8 y9 yf hb1
  obtain ⟨x0, x1, x2, x3, x4, x5, x6, x7, x8, x9, xf⟩ := k0.ten
  obtain ⟨y0, y1, y2, y3, y4, y5, y6, y7, y8, y9, yf⟩ := k1.ten
  go_wp2_with fail
  refine (eqI_more s6 t6 c6 d6 e.l6 B C _ (HS.out.p6.later cInt_keeps LX) (HT.out.p6.later cInt_keeps LX) m6).mono ?_
  rintro z w7 ⟨rfl, hb1⟩
  replace LX := bl_trans LX hb1
  replace k0 := k0.later hb1
  replace k1 := k1.later hb1
  clear x0 x1 x2 x3 x4 x5 x6 x7 x8 x9 xf y0 y1 y2 y3 y4 y5 y6 y7 y8 y9 yf hb1
  obtain ⟨x0, x1, x2, x3, x4, x5, x6, x7, x8, x9, xf⟩ := k0.ten
  obtain ⟨y0, y1, y2, y3, y4, y5, y6, y7, y8, y9, yf⟩ := k1.ten
  go_wp2_with fail
  refine (eqI_more s7 t7 c7 d7 e.l7 B C _ (HS.out.p7.later cInt_keeps LX) (HT.out.p7.later cInt_keeps LX) m7).mono ?_
  rintro z w8 ⟨rfl, hb1⟩
  replace LX := bl_trans LX hb1
  replace k0 := k0.later hb1
  replace k1 := k1.later hb1
  clear x0 x1 x2 x3 x4 x5 x6 x7 x8 x9 xf y0 y1 y2 y3 y4 y5 y6 y7 y8 y9 yf hb1
  obtain ⟨x0, x1, x2, x3, x4, x5, x6, x7, x8, x9, xf⟩ := k0.ten
  obtain ⟨y0, y1, y2, y3, y4, y5, y6, y7, y8, y9, yf⟩ := k1.ten
  have u1 : (e.sp != e.sp) = false := by simp
  have u2 : (e.kl != e.kl) = false := by simp
  go_wp2_with fail
  go_ret
  exact ⟨rfl, LX⟩
end Go.Proofs.Ytaakjcjhmeeclaa
