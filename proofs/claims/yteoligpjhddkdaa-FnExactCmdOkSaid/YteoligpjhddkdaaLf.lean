import Derived.Test.YteoligpjhddkdaaLc
import Derived.Test.YteoligpjhddkdaaLh
namespace Go.Proofs.Yteoligpjhddkdaa
open Go.RowKit Go.Maps Go.WideMaps
set_option linter.unusedVariables false
set_option linter.unusedSimpArgs false
set_option maxRecDepth 100000

set_option maxHeartbeats 2000000 in
theorem szReg_le (s1 s2 s3 : Option Addr) (c1 c2 c3 : Nat) (A B C : List (ByteArray × Int)) (w : World) (hA : Decls w s1 A) (hB : Decls w s2 B) (hC : Decls w s3 C) (nA : Nms A) (nB : Nms B) (nC : Nms C) (mA : A.length ≤ maxLen) (mB : B.length ≤ maxLen) (mC : C.length ≤ maxLen) :
    Calls Try.prog 6 #[.agg #[.slice s1 A.length c1, .slice s2 B.length c2, .slice s3 C.length c3], .int .i64 1048576] w fun e w' => (∃ r : Int, e = .returned (.int .i64 r) ∧ (r = -1 ∨ (0 ≤ r ∧ r ≤ 1048576 ∧ A.length ≤ 1048576 ∧ B.length ≤ 1048576 ∧ C.length ≤ 1048576))) ∧ Below w.heap.size w w' := by
  have hal := alloc_old
  have haf := alloc_oldf
  have k0 := Blk.new w #[.slice s1 A.length c1, .slice s2 B.length c2, .slice s3 C.length c3] 24
  go_enter Try.func6, Try.ntmps6
  go_wp2_with fail
  refine (szDeclS_any s1 c1 A 1048576 _ (hA.later (by (repeat (first | with_reducible exact Below.refl _ _ | with_reducible refine bl_alloc ?_ _ | with_reducible refine bl_drewN ?_ _ | with_reducible refine bl_drew ?_ | with_reducible refine bl_setCell ?_ (by first | exact Nat.le_refl _ | (dsimp only; omega) | (simp <;> omega)) _ | with_reducible refine bl_trans ?_ (by with_reducible assumption))))) nA mA (by omega) (by omega)).mono ?_
  rintro e w1 ⟨⟨r, rfl, hr⟩, hb1⟩
  have L1 : Below w.heap.size w w1 := by (repeat (first | with_reducible exact Below.refl _ _ | with_reducible refine bl_alloc ?_ _ | with_reducible refine bl_drewN ?_ _ | with_reducible refine bl_drew ?_ | with_reducible refine bl_setCell ?_ (by first | exact Nat.le_refl _ | (dsimp only; omega) | (simp <;> omega)) _ | with_reducible refine bl_trans ?_ (by with_reducible assumption)))
  have K1 := k0.later hb1
  clear k0 hb1
  obtain ⟨x0, x1, x2, x3⟩ := K1.three
  rcases hr with rfl | ⟨r0, r1, lA⟩
  · go_wp2_with fail
    go_ret
    exact ⟨⟨_, rfl, Or.inl rfl⟩, L1⟩
  · have t2 : decide (r < 0) = false := by simp; omega
    go_wp2_with fail
    refine (szDeclS_any s2 c2 B r _ (hB.later L1) nB mB r0 r1).mono ?_
    rintro e w2 ⟨⟨q, rfl, hq⟩, hb2⟩
    have L2 := bl_trans L1 hb2
    have K2 := K1.later hb2
    clear K1 hb2 x0 x1 x2 x3
    obtain ⟨x0, x1, x2, x3⟩ := K2.three
    rcases hq with rfl | ⟨q0, q1, lB⟩
    · go_wp2_with fail
      go_ret
      exact ⟨⟨_, rfl, Or.inl rfl⟩, L2⟩
    · have t3 : decide (q < 0) = false := by simp; omega
      go_wp2_with fail
      refine (szDeclS_any s3 c3 C q _ (hC.later L2) nC mC q0 (by omega)).mono ?_
      rintro e w3 ⟨⟨p, rfl, hp⟩, hb3⟩
      have L3 := bl_trans L2 hb3
      clear hb3 x0 x1 x2 x3
      rcases hp with rfl | ⟨p0, p1, lC⟩
      · go_wp2_with fail
        go_ret
        exact ⟨⟨_, rfl, Or.inl rfl⟩, L3⟩
      · have t4 : decide (p < 0) = false := by simp; omega
        go_wp2_with fail
        go_ret
        exact ⟨⟨_, rfl, Or.inr ⟨p0, by omega, lA, lB, lC⟩⟩, L3⟩


theorem okR_12 {A B C : List (ByteArray × Int)} (h : okR A B C = true) : A.length ≤ 12 := by
  simp only [okR, Bool.and_eq_true, decide_eq_true_eq] at h
  exact h.1.1.1

set_option maxHeartbeats 4000000 in
theorem specCmdOk_any (p1 q1 c1 p2 q2 c2 p3 q3 c3 : Nat) (A B C : List (ByteArray × Int)) (s : Option Addr) (cap : Nat) (c : Cm) (Bs : Nat) (w : World) (hA : Decls w (some ⟨p1, q1, none⟩) A) (hB : Decls w (some ⟨p2, q2, none⟩) B) (hC : Decls w (some ⟨p3, q3, none⟩) C) (hL : Els 5 cCell w Bs s c.list) (hl : c.list.length ≤ 1048576) (ok : okV c.val) :
    Calls Try.prog 20 #[.agg #[.slice (some ⟨p1, q1, none⟩) A.length c1, .slice (some ⟨p2, q2, none⟩) B.length c2, .slice (some ⟨p3, q3, none⟩) C.length c3], .agg #[.int .i64 c.kind, .int .i64 c.who.1, .int .i64 c.who.2, .int .i64 c.comp, .int .i64 c.val.1, .int .i64 c.val.2.1, .float .f64 c.val.2.2.1, .float .f64 c.val.2.2.2, .slice s c.list.length cap]] w fun e w' => e = .returned (.bool (okR A B C && cmdB A c)) ∧ Below w.heap.size w w' := by
  have hal := alloc_old
  have haf := alloc_oldf
  obtain ⟨k0, k1, L0⟩ := boxTwo w #[.slice (some ⟨p1, q1, none⟩) A.length c1, .slice (some ⟨p2, q2, none⟩) B.length c2, .slice (some ⟨p3, q3, none⟩) C.length c3] #[.int .i64 c.kind, .int .i64 c.who.1, .int .i64 c.who.2, .int .i64 c.comp, .int .i64 c.val.1, .int .i64 c.val.2.1, .float .f64 c.val.2.2.1, .float .f64 c.val.2.2.2, .slice s c.list.length cap] 37 66
  have HO : Hid (okV c.val) := ok
  clear ok
  go_enter Try.func20, Try.ntmps20
  go_wp2_with fail
  refine (specRegOk_any p1 q1 c1 p2 q2 c2 p3 q3 c3 A B C _ (hA.later L0) (hB.later L0) (hC.later L0)).mono ?_
  rintro e w1 ⟨rfl, hb1⟩
  have L1 := bl_trans L0 hb1
  obtain ⟨x0, x1, x2, x3⟩ := (k0.later hb1).three'
  obtain ⟨y0, y1, y2, y3, y4, y5, y6, y7, y8, y9⟩ := (k1.later hb1).nine
  have LH : Hid (Below w.heap.size w w1) := L1
  have HA : Hid (Decls w1 (some ⟨p1, q1, none⟩) A) := hA.later L1
  have HL : Hid (Els 5 cCell w1 Bs s c.list) := hL.later cCell_keeps L1
  clear k0 k1 L0 hb1 hA hB hC hL L1
  cases hok : okR A B C
  · go_wp2_with fail
    go_ret
    exact ⟨ret_bool' (by rw [hok]; rfl), LH.out⟩
  · have l12 := okR_12 hok
    have HK : Hid (okR A B C = true) := hok
    clear hok
    rcases kinds c with hk | hk | hk | hk | ⟨hk1, hk2, hk3, hk4⟩
    · have E : Hid (sortB A c.list = (okR A B C && cmdB A c)) := by show _ = _; rw [HK.out, sort_cells]; simp [cmdB, hk.out]
      rw [hk.out] at y0
      go_wp2_with fail
      refine (l4Sorted_any _ _ _ _ _ _ A B C s cap c.list Bs _ HA.out HL.out l12 hl).mono ?_
      rintro e w2 ⟨⟨v, rfl⟩, hb2⟩
      have L2 := bl_trans LH.out hb2
      go_wp2_with fail
      go_ret
      exact ⟨ret_bool' E.out, L2⟩
    · have E : Hid (true = (okR A B C && cmdB A c)) := by show _ = _; rw [HK.out]; simp [cmdB, hk.out]
      rw [hk.out] at y0
      go_wp2_with fail
      go_ret
      exact ⟨ret_bool' E.out, LH.out⟩
    · have E : Hid (fitB A c.comp c.val = (okR A B C && cmdB A c)) := by show _ = _; rw [HK.out]; simp [cmdB, hk.out]
      rw [hk.out] at y0
      go_wp2_with fail
      refine (l4Fits_any _ _ _ _ _ _ A B C c.comp c.val _ HA.out (by omega) HO.out).mono ?_
      rintro e w2 ⟨rfl, hb2⟩
      have L2 := bl_trans LH.out hb2
      go_wp2_with fail
      go_ret
      exact ⟨ret_bool' E.out, L2⟩
    · have E : Hid (cmpB A c.comp = (okR A B C && cmdB A c)) := by show _ = _; rw [HK.out]; simp [cmdB, hk.out]
      have tw : IntKind.i64.wrap ((A.length : Int) - 1) = (A.length : Int) - 1 := by rw [IntKind.wrap_i64]; omega
      rw [hk.out] at y0
      go_wp2_with fail
      refine (l1In_any c.comp 0 ((A.length : Int) - 1) _).mono ?_
      rintro e w2 ⟨rfl, rfl⟩
      rw [in_cmp A]
      go_wp2_with fail
      go_ret
      exact ⟨ret_bool' E.out, LH.out⟩
    · have E : Hid (false = (okR A B C && cmdB A c)) := by show _ = _; rw [HK.out]; simp [cmdB, hk1.out, hk2.out, hk3.out, hk4.out]
      have u1 : (c.kind == 1) = false := by simp [hk1.out]
      have u2 : (c.kind == 2) = false := by simp [hk2.out]
      have u3 : (c.kind == 3) = false := by simp [hk3.out]
      have u4 : (c.kind == 4) = false := by simp [hk4.out]
      go_wp2_with fail
      go_ret
      exact ⟨ret_bool' E.out, LH.out⟩
end Go.Proofs.Yteoligpjhddkdaa
