import Derived.Test.YtpfamdpgcbpiaabMm
import Derived.Test.YtpfamdpgcbpiaabMo
namespace Go.Proofs.Ytpfamdpgcbpiaab
open Go.RowKit Go.Maps Go.WideMaps
set_option linter.unusedVariables false
set_option linter.unusedSimpArgs false

set_option maxHeartbeats 4000000 in
theorem exactRegKind_any (s1 s2 s3 : Option Addr) (c1 c2 c3 : Nat) (A B C : List (ByteArray × Int)) (sort at0 : Int) (w : World) (gA : Dc w s1 A) (gB : Dc w s2 B) (gC : Dc w s3 C) (wn : -9223372036854775808 ≤ sort ∧ sort ≤ 9223372036854775807) (wn2 : -9223372036854775808 ≤ at0 ∧ at0 ≤ 9223372036854775807) :
    Calls Try.prog 3 #[.agg #[.slice s1 A.length c1, .slice s2 B.length c2, .slice s3 C.length c3], .int .i64 sort, .int .i64 at0] w fun e w' => e = .returned (.bool true) ∧ Below w.heap.size w w' := by
  have hal := alloc_old
  have haf := alloc_oldf
  obtain ⟨hA, nA, mA⟩ := gA
  obtain ⟨hB, nB, mB⟩ := gB
  obtain ⟨hC, nC, mC⟩ := gC
  have nm := nms3 nA nB nC
  have k0 := Blk.new w #[.slice s1 A.length c1, .slice s2 B.length c2, .slice s3 C.length c3] 24
  obtain ⟨x0, x1, x2, x3⟩ := k0.three
  clear wn wn2
  go_enter Try.func3, Try.ntmps3
  go_wp2_with fail
  refine (szReg_any s1 s2 s3 c1 c2 c3 A B C _ (hA.later (by (repeat (first | with_reducible exact Below.refl _ _ | with_reducible refine bl_alloc ?_ _ | with_reducible refine bl_drewN ?_ _ | with_reducible refine bl_drew ?_ | with_reducible refine bl_setCell ?_ (by first | exact Nat.le_refl _ | (dsimp only; omega) | (simp <;> omega)) _ | with_reducible refine bl_trans ?_ (by with_reducible assumption))))) (hB.later (by (repeat (first | with_reducible exact Below.refl _ _ | with_reducible refine bl_alloc ?_ _ | with_reducible refine bl_drewN ?_ _ | with_reducible refine bl_drew ?_ | with_reducible refine bl_setCell ?_ (by first | exact Nat.le_refl _ | (dsimp only; omega) | (simp <;> omega)) _ | with_reducible refine bl_trans ?_ (by with_reducible assumption))))) (hC.later (by (repeat (first | with_reducible exact Below.refl _ _ | with_reducible refine bl_alloc ?_ _ | with_reducible refine bl_drewN ?_ _ | with_reducible refine bl_drew ?_ | with_reducible refine bl_setCell ?_ (by first | exact Nat.le_refl _ | (dsimp only; omega) | (simp <;> omega)) _ | with_reducible refine bl_trans ?_ (by with_reducible assumption))))) nA nB nC mA mB mC).mono ?_
  rintro e w1 ⟨⟨r, rfl, hr⟩, hb1⟩
  have K1 := k0.later hb1
  have L1 : Below w.heap.size w w1 := by (repeat (first | with_reducible exact Below.refl _ _ | with_reducible refine bl_alloc ?_ _ | with_reducible refine bl_drewN ?_ _ | with_reducible refine bl_drew ?_ | with_reducible refine bl_setCell ?_ (by first | exact Nat.le_refl _ | (dsimp only; omega) | (simp <;> omega)) _ | with_reducible refine bl_trans ?_ (by with_reducible assumption)))
  clear k0 x0 x1 x2 x3 hb1
  obtain ⟨x0, x1, x2, x3⟩ := K1.three
  rcases hr with rfl | ⟨r0, lA, lB, lC⟩
  · go_wp2_with fail
    go_ret
    exact ⟨rfl, L1⟩
  · have t2 : decide (r < 0) = false := by simp; omega
    clear mA mB mC nA nB nC
    go_wp2_with fail
    refine (toReg_any s1 s2 s3 c1 c2 c3 A B C _ (hA.later L1) (hB.later L1) (hC.later L1) lA lB lC).mono ?_
    rintro e w2 ⟨⟨a2, b2, d2, rfl, dA2, dB2, dC2⟩, hb2⟩
    have L2 := bl_trans L1 hb2
    have K2 := K1.later hb2
    clear x0 x1 x2 x3 K1 L1 hb2
    obtain ⟨x0, x1, x2, x3⟩ := K2.three
    go_wp2_with fail
    refine (specRegKind_any a2 0 A.length b2 0 B.length d2 0 C.length A B C sort at0 _ dA2 dB2 dC2 lA lB lC).mono ?_
    rintro e w3 ⟨rfl, hb3⟩
    have L3 := bl_trans L2 hb3
    have K3 := K2.later hb3
    clear x0 x1 x2 x3 K2 L2 hb3 dA2 dB2 dC2
    obtain ⟨x0, x1, x2, x3⟩ := K3.three
    go_wp2_with fail
    refine (toReg_any s1 s2 s3 c1 c2 c3 A B C _ (hA.later L3) (hB.later L3) (hC.later L3) lA lB lC).mono ?_
    rintro e w4 ⟨⟨a4, b4, d4, rfl, dA4, dB4, dC4⟩, hb4⟩
    have B4 := bl_trans hb4 (bl_alloc (Below.refl _ w4) (.cells #[.slice (some ⟨a4, 0, none⟩) A.length A.length, .slice (some ⟨b4, 0, none⟩) B.length B.length, .slice (some ⟨d4, 0, none⟩) C.length C.length] 29))
    have L4 := bl_trans L3 B4
    have K4 := K3.later B4
    have J4 := Blk.new w4 #[.slice (some ⟨a4, 0, none⟩) A.length A.length, .slice (some ⟨b4, 0, none⟩) B.length B.length, .slice (some ⟨d4, 0, none⟩) C.length C.length] 29
    have dA4 := dA4.later (bl_alloc (Below.refl _ w4) (.cells #[.slice (some ⟨a4, 0, none⟩) A.length A.length, .slice (some ⟨b4, 0, none⟩) B.length B.length, .slice (some ⟨d4, 0, none⟩) C.length C.length] 29))
    have dB4 := dB4.later (bl_alloc (Below.refl _ w4) (.cells #[.slice (some ⟨a4, 0, none⟩) A.length A.length, .slice (some ⟨b4, 0, none⟩) B.length B.length, .slice (some ⟨d4, 0, none⟩) C.length C.length] 29))
    have dC4 := dC4.later (bl_alloc (Below.refl _ w4) (.cells #[.slice (some ⟨a4, 0, none⟩) A.length A.length, .slice (some ⟨b4, 0, none⟩) B.length B.length, .slice (some ⟨d4, 0, none⟩) C.length C.length] 29))
    clear x0 x1 x2 x3 K3 L3 hb4 B4
    go_wp2_with fail
    generalize hX : w4.alloc (.cells #[.slice (some ⟨a4, 0, none⟩) A.length A.length, .slice (some ⟨b4, 0, none⟩) B.length B.length, .slice (some ⟨d4, 0, none⟩) C.length C.length] 29) = X at L4 K4 J4 dA4 dB4 dC4 ⊢
    clear hX
    refine (implRegKind_any _ _ _ _ _ _ A B C sort at0 _ dA4 dB4 dC4 nm lA lB lC).mono ?_
    rintro e w5 ⟨rfl, hb5⟩
    have L5 := bl_trans L4 hb5
    have K5 := K4.later hb5
    have J5 := J4.later hb5
    have dA5 := dA4.later hb5
    have dB5 := dB4.later hb5
    have dC5 := dC4.later hb5
    clear K4 J4 L4 dA4 dB4 dC4 hb5
    obtain ⟨x0, x1, x2, x3⟩ := K5.three
    obtain ⟨y0, y1, y2, y3⟩ := J5.three
    have hq : (kindB A B C sort at0 != kindB A B C sort at0) = false := by simp
    go_wp2_with fail
    go_region_with (first
      | (go_at_call 6; refine (toReg_any s1 s2 s3 c1 c2 c3 A B C _ (hA.later (by (repeat (first | with_reducible exact Below.refl _ _ | with_reducible refine bl_alloc ?_ _ | with_reducible refine bl_drewN ?_ _ | with_reducible refine bl_drew ?_ | with_reducible refine bl_setCell ?_ (by first | exact Nat.le_refl _ | (dsimp only; omega) | (simp <;> omega)) _ | with_reducible refine bl_trans ?_ (by with_reducible assumption))))) (hB.later (by (repeat (first | with_reducible exact Below.refl _ _ | with_reducible refine bl_alloc ?_ _ | with_reducible refine bl_drewN ?_ _ | with_reducible refine bl_drew ?_ | with_reducible refine bl_setCell ?_ (by first | exact Nat.le_refl _ | (dsimp only; omega) | (simp <;> omega)) _ | with_reducible refine bl_trans ?_ (by with_reducible assumption))))) (hC.later (by (repeat (first | with_reducible exact Below.refl _ _ | with_reducible refine bl_alloc ?_ _ | with_reducible refine bl_drewN ?_ _ | with_reducible refine bl_drew ?_ | with_reducible refine bl_setCell ?_ (by first | exact Nat.le_refl _ | (dsimp only; omega) | (simp <;> omega)) _ | with_reducible refine bl_trans ?_ (by with_reducible assumption))))) lA lB lC).mono ?_; rintro e w6 ⟨⟨a6, b6, d6, rfl, dA6, dB6, dC6⟩, hb6⟩; have l6 : Below w5.heap.size w5 w6 := (by (repeat (first | with_reducible exact Below.refl _ _ | with_reducible refine bl_alloc ?_ _ | with_reducible refine bl_drewN ?_ _ | with_reducible refine bl_drew ?_ | with_reducible refine bl_setCell ?_ (by first | exact Nat.le_refl _ | (dsimp only; omega) | (simp <;> omega)) _ | with_reducible refine bl_trans ?_ (by with_reducible assumption)))); have dA5 := dA5.later l6; have dB5 := dB5.later l6; have dC5 := dC5.later l6; obtain ⟨z0, z1, z2, z3⟩ := (J5.later l6).three)
      | (go_at_call 8; refine (eqReg_same _ _ _ _ _ _ _ _ _ _ _ _ A B C _ dA5 dB5 dC5 dA6 dB6 dC6 lA lB lC).mono ?_; rintro e w7 ⟨rfl, hb7⟩))
    all_goals
      go_wp2_with fail
      go_ret
      refine ⟨rfl, ?_⟩
      (repeat (first | with_reducible exact Below.refl _ _ | with_reducible refine bl_alloc ?_ _ | with_reducible refine bl_drewN ?_ _ | with_reducible refine bl_drew ?_ | with_reducible refine bl_setCell ?_ (by first | exact Nat.le_refl _ | (dsimp only; omega) | (simp <;> omega)) _ | with_reducible refine bl_trans ?_ (by with_reducible assumption)))

end Go.Proofs.Ytpfamdpgcbpiaab
