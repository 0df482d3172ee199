import Derived.Test.YtgiclehfhjjalaaSd
namespace Go.Proofs.Ytgiclehfhjjalaa
open Go.RowKit
set_option linter.unusedVariables false
set_option linter.unusedSimpArgs false

/-- First behind the old events. -/
def fb (f : Int) (n : Nat) : Int := if 0 ≤ f ∧ f ≤ 1000000000000 - (n : Int) then f + (n : Int) else 0
theorem ret_int' {a b : Int} (h : a = b) : Ending.returned (.int .i64 a) = .returned (.int .i64 b) := by rw [h]
theorem blk3u (w : World) (c d e : Array Value) (t u v : TypeId) : Blk (((w.alloc (.cells c t)).alloc (.cells d u)).alloc (.cells e v)) w.heap.size c t ∧ Blk (((w.alloc (.cells c t)).alloc (.cells d u)).alloc (.cells e v)) (w.heap.size + 1) d u ∧ Blk (((w.alloc (.cells c t)).alloc (.cells d u)).alloc (.cells e v)) (w.heap.size + 1 + 1) e v :=
  ⟨((blk2 w c d t u).1).alloc _, ((blk2 w c d t u).2).alloc _, Blk.new' _ _ _ (by simp)⟩

set_option maxHeartbeats 1000000 in
theorem szStream_gen (f : Int) (s1 s2 : Option Addr) (n1 n2 c1 c2 : Nat) (left : Int) (w : World) (h0 : 0 ≤ left) (h9 : left ≤ 1048576) (h1 : n1 ≤ 9223372036854775807) (h2 : n2 ≤ 9223372036854775807) :
    Calls Try.prog 17 #[.agg #[.int .i64 f, .slice s1 n1 c1, .slice s2 n2 c2], .int .i64 left] w fun e w' => Szd left (n1 ≤ 1048576 ∧ n2 ≤ 1048576) e ∧ Below w.heap.size w w' := by
  obtain ⟨x0, x1, x2, x3⟩ := (Blk.new w #[.int .i64 f, .slice s1 n1 c1, .slice s2 n2 c2] 41).three'
  go_enter Try.func17, Try.ntmps17
  go_wp2_with fail
  refine (szValS_gen s1 n1 c1 left _ h0 h9 h1).mono ?_
  rintro e w' ⟨⟨r, rfl, hr⟩, rfl⟩
  rcases hr with rfl | ⟨r0, r1, rn⟩
  · go_wp2_with fail
    go_ret
    refine ⟨⟨_, rfl, Or.inl rfl⟩, ?_⟩
    (repeat (first | with_reducible exact Below.refl _ _ | with_reducible refine bl_alloc ?_ _ | with_reducible refine bl_drewN ?_ _ | with_reducible refine bl_drew ?_ | with_reducible refine bl_setCell ?_ (by first | exact Nat.le_refl _ | (dsimp only; omega) | (simp <;> omega)) _ | with_reducible refine bl_trans ?_ (by with_reducible assumption)))
  · have t1 : decide (r < 0) = false := by simp; omega
    go_wp2_with fail
    refine (szValS_gen s2 n2 c2 r _ r0 (by omega) h2).mono ?_
    rintro e w' ⟨⟨q, rfl, hq⟩, rfl⟩
    rcases hq with rfl | ⟨q0, q1, qn⟩
    · go_wp2_with fail
      go_ret
      refine ⟨⟨_, rfl, Or.inl rfl⟩, ?_⟩
      (repeat (first | with_reducible exact Below.refl _ _ | with_reducible refine bl_alloc ?_ _ | with_reducible refine bl_drewN ?_ _ | with_reducible refine bl_drew ?_ | with_reducible refine bl_setCell ?_ (by first | exact Nat.le_refl _ | (dsimp only; omega) | (simp <;> omega)) _ | with_reducible refine bl_trans ?_ (by with_reducible assumption)))
    · have t2 : decide (q < 0) = false := by simp; omega
      go_wp2_with fail
      go_ret
      refine ⟨⟨_, rfl, Or.inr ⟨q0, by omega, rn, qn⟩⟩, ?_⟩
      (repeat (first | with_reducible exact Below.refl _ _ | with_reducible refine bl_alloc ?_ _ | with_reducible refine bl_drewN ?_ _ | with_reducible refine bl_drew ?_ | with_reducible refine bl_setCell ?_ (by first | exact Nat.le_refl _ | (dsimp only; omega) | (simp <;> omega)) _ | with_reducible refine bl_trans ?_ (by with_reducible assumption)))

set_option maxHeartbeats 2000000 in
theorem toStream_own (f : Int) (s1 s2 : Option Addr) (c1 c2 : Nat) (O N : List V4) (B : Nat) (w : World) (h1 : Els 4 cVal w B s1 O) (h2 : Els 4 cVal w B s2 N) (l1 : O.length ≤ 1048576) (l2 : N.length ≤ 1048576) :
    Calls Try.prog 19 #[.agg #[.int .i64 f, .slice s1 O.length c1, .slice s2 N.length c2]] w fun e w' =>
      (∃ a c b d : Nat, e = .returned (.agg #[.int .i64 f, .slice (some ⟨a, 0, none⟩) O.length c, .slice (some ⟨b, 0, none⟩) N.length d]) ∧ OV w' w.heap.size (.slice (some ⟨a, 0, none⟩) O.length c) O ∧ OV w' w.heap.size (.slice (some ⟨b, 0, none⟩) N.length d) N ∧ ¬ a = b) ∧ Below w.heap.size w w' := by
  have hal := alloc_old
  have haf := alloc_oldf
  obtain ⟨P0, P1, P2⟩ := blk3u w #[.int .i64 f, .slice s1 O.length c1, .slice s2 N.length c2] #[.int .i64 0, .slice none 0 0, .slice none 0 0] #[.int .i64 f, .slice none 0 0, .slice none 0 0] 41 26 26
  have LX := bl_alloc (bl_alloc (bl_alloc (Below.refl _ w) (.cells #[.int .i64 f, .slice s1 O.length c1, .slice s2 N.length c2] 41)) (.cells #[.int .i64 0, .slice none 0 0, .slice none 0 0] 26)) (.cells #[.int .i64 f, .slice none 0 0, .slice none 0 0] 26)
  go_enter Try.func19, Try.ntmps19
  go_wp2_with fail
  generalize hX : ((w.alloc (.cells #[.int .i64 f, .slice s1 O.length c1, .slice s2 N.length c2] 41)).alloc (.cells #[.int .i64 0, .slice none 0 0, .slice none 0 0] 26)).alloc (.cells #[.int .i64 f, .slice none 0 0, .slice none 0 0] 26) = X at P0 P1 P2 LX ⊢
  clear hX
  refine (toValS_own s1 c1 O B _ (h1.later cVal_keeps LX) l1).mono ?_
  rintro e w1 ⟨a, c, rfl, d1, _, hb1⟩
  have L1 : Below w.heap.size w w1 := bl_trans LX hb1
  have lx : w.heap.size + 1 + 1 < X.heap.size := P2.lt
  have a1 : X.heap.size ≤ a ∧ a < w1.heap.size := World.ownsRow.lt d1 a rfl
  have D1 := (d1.mono (B' := w.heap.size + 1 + 1 + 1) (by omega)).kept (Kept.set w1 (p := ⟨w.heap.size + 1 + 1, 1, none⟩) (by simp) (.slice (some ⟨a, 0, none⟩) O.length c))
  have Q0 := (P0.later hb1).other (m := w.heap.size + 1 + 1) (by omega) 1 (.slice (some ⟨a, 0, none⟩) O.length c)
  have Q1 := (P1.later hb1).other (m := w.heap.size + 1 + 1) (by omega) 1 (.slice (some ⟨a, 0, none⟩) O.length c)
  have Q2 := (P2.later hb1).set 1 (.slice (some ⟨a, 0, none⟩) O.length c)
  have LY := L1.setCell (p := ⟨w.heap.size + 1 + 1, 1, none⟩) (by simp; omega) (.slice (some ⟨a, 0, none⟩) O.length c)
  have sY : (w1.setCell ⟨w.heap.size + 1 + 1, 1, none⟩ (.slice (some ⟨a, 0, none⟩) O.length c)).heap.size = w1.heap.size := by simp
  obtain ⟨x0, x1, x2, x3⟩ := (P0.later hb1).three'
  obtain ⟨z0, z1, z2, z3⟩ := (P2.later hb1).three'
  have n0 : ¬ w.heap.size = w.heap.size + 1 + 1 := by omega
  clear P0 P1 P2 hb1 d1 L1 LX
  go_wp2_with fail
  clear x0 x1 x2 x3 z0 z1 z2 z3
  generalize hY : w1.setCell ⟨w.heap.size + 1 + 1, 1, none⟩ (.slice (some ⟨a, 0, none⟩) O.length c) = Y at Q0 Q1 Q2 D1 LY sY ⊢
  clear hY
  have Q2 : Blk Y (w.heap.size + 1 + 1) #[.int .i64 f, .slice (some ⟨a, 0, none⟩) O.length c, .slice none 0 0] 26 := Q2
  refine (toValS_own s2 c2 N B _ (h2.later cVal_keeps LY) l2).mono ?_
  rintro e w2 ⟨b, d, rfl, d2, _, hb2⟩
  have a2 : Y.heap.size ≤ b ∧ b < w2.heap.size := World.ownsRow.lt d2 b rfl
  have D2 := d2.mono (B' := w.heap.size + 1 + 1 + 1) (by omega)
  have L2 := bl_trans LY hb2
  have R1 := Q1.later hb2
  have R2 := Q2.later hb2
  have G1 := D1.later hb2
  clear Q0 Q1 Q2 D1 LY hb2 d2
  obtain ⟨z0, z1, z2, z3⟩ := R2.three'
  obtain ⟨y0, y1, y2, y3⟩ := R1.three'
  have n1 : ¬ w.heap.size + 1 = w.heap.size + 1 + 1 := by omega
  have hab : ¬ a = b := by omega
  clear sY
  have K4 : ∀ (u0 u1 u2 u3 : Value), Kept (w.heap.size + 1 + 1 + 1) w2 ((((w2.setCell ⟨w.heap.size + 1 + 1, 2, none⟩ u0).setCell ⟨w.heap.size + 1, 0, none⟩ u1).setCell ⟨w.heap.size + 1, 1, none⟩ u2).setCell ⟨w.heap.size + 1, 2, none⟩ u3) :=
    fun _ _ _ _ => (((Kept.set _ (by simp) _).trans (Kept.set _ (by simp <;> omega) _)).trans (Kept.set _ (by simp <;> omega) _)).trans (Kept.set _ (by simp <;> omega) _)
  go_wp2_with fail
  refine bodyPost_ret (v := .agg #[.int .i64 f, .slice (some ⟨a, 0, none⟩) O.length c, .slice (some ⟨b, 0, none⟩) N.length d]) (by simp [results, Try.results19, go_sem, y0, y1, y2]) rfl ⟨⟨a, c, b, d, rfl, ?_, ?_, hab⟩, ?_⟩
  · exact (G1.kept (K4 _ _ _ _)).mono (by omega)
  · exact (D2.kept (K4 _ _ _ _)).mono (by omega)
  · exact (((L2.setCell (by simp <;> omega) _).setCell (by simp <;> omega) _).setCell (by simp <;> omega) _).setCell (by simp <;> omega) _

set_option maxHeartbeats 2000000 in
theorem eqStream_gen (f : Int) (a1 a2 b1 b2 : Option Addr) (c1 c2 d1 d2 : Nat) (O N : List V4) (B C : Nat) (w : World) (hO : Els 4 cVal w B a1 O) (hN : Els 4 cVal w B a2 N) (hP : Els 4 cVal w C b1 O) (hQ : Els 4 cVal w C b2 N) (l1 : O.length ≤ 1048576) (l2 : N.length ≤ 1048576) :
    Calls Try.prog 21 #[.agg #[.int .i64 f, .slice a1 O.length c1, .slice a2 N.length c2], .agg #[.int .i64 f, .slice b1 O.length d1, .slice b2 N.length d2]] w fun e w' => e = .returned (.bool true) ∧ Below w.heap.size w w' := by
  have hal := alloc_old
  have haf := alloc_oldf
  obtain ⟨k0, k1, L0⟩ := boxTwo w #[.int .i64 f, .slice a1 O.length c1, .slice a2 N.length c2] #[.int .i64 f, .slice b1 O.length d1, .slice b2 N.length d2] 26 26
  obtain ⟨x0, x1, x2, x3⟩ := k0.three'
  obtain ⟨y0, y1, y2, y3⟩ := k1.three'
  go_enter Try.func21, Try.ntmps21
  go_wp2_with fail
  refine (eqValS_gen a1 b1 c1 d1 O B C _ (hO.later cVal_keeps L0) (hP.later cVal_keeps L0) l1).mono ?_
  rintro e w1 ⟨rfl, hb1⟩
  replace L0 := bl_trans L0 hb1
  replace k0 := k0.later hb1
  replace k1 := k1.later hb1
  clear x0 x1 x2 x3 y0 y1 y2 y3 hb1
  obtain ⟨x0, x1, x2, x3⟩ := k0.three'
  obtain ⟨y0, y1, y2, y3⟩ := k1.three'
  go_wp2_with fail
  refine (eqValS_gen a2 b2 c2 d2 N B C _ (hN.later cVal_keeps L0) (hQ.later cVal_keeps L0) l2).mono ?_
  rintro e w2 ⟨rfl, hb2⟩
  go_wp2_with fail
  go_ret
  exact ⟨rfl, bl_trans L0 hb2⟩
end Go.Proofs.Ytgiclehfhjjalaa
