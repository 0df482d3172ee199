import Derived.Test.YtgfchpbdoebmbaaC7
import Derived.Deep.RegionHeld3
namespace Go.Proofs.Ytgfchpbdoebmbaa
open Go.RowKit
set_option linter.unusedVariables false
set_option linter.unusedSimpArgs false

set_option maxRecDepth 100000 in
set_option maxHeartbeats 16000000 in
theorem implStrictly_any (a0 a1 a2 a3 a4 a5 a6 a7 : Option Addr) (c0 c1 c2 c3 c4 c5 c6 c7 : Nat) (V : Ef) (b0 b1 b2 b3 b4 b5 b6 b7 : Option Addr) (d0 d1 d2 d3 d4 d5 d6 d7 : Nat) (U : Ef) (n : Int) (B C : Nat) (w : World) (hV : InE w B a0 a1 a2 a3 a4 a5 a6 a7 V) (hU : InE w C b0 b1 b2 b3 b4 b5 b6 b7 U) (kV : kEf V) (kU : kEf U) :
    Calls Try.prog 17 #[.agg #[.slice a0 V.l0.length c0, .slice a1 V.l1.length c1, .slice a2 V.l2.length c2, .slice a3 V.l3.length c3, .slice a4 V.l4.length c4, .slice a5 V.l5.length c5, .slice a6 V.l6.length c6, .slice a7 V.l7.length c7, .bool V.sp, .bool V.kl], .agg #[.slice b0 U.l0.length d0, .slice b1 U.l1.length d1, .slice b2 U.l2.length d2, .slice b3 U.l3.length d3, .slice b4 U.l4.length d4, .slice b5 U.l5.length d5, .slice b6 U.l6.length d6, .slice b7 U.l7.length d7, .bool U.sp, .bool U.kl], .int .i64 n] w fun e w' => (∃ s' c', e = .returned (.slice s' (stB V U n).length c') ∧ KRow w' w.heap.size (.slice s' (stB V U n).length c') (stB V U n)) ∧ Below w.heap.size w w' := by
  have HV := Hid.mk2 hV
  have HU := Hid.mk2 hU
  have KV := Hid.mk2 kV
  have KU := Hid.mk2 kU
  clear hV hU kV kU
  obtain ⟨k0, k1, L0⟩ := blkTwoE w #[.slice a0 V.l0.length c0, .slice a1 V.l1.length c1, .slice a2 V.l2.length c2, .slice a3 V.l3.length c3, .slice a4 V.l4.length c4, .slice a5 V.l5.length c5, .slice a6 V.l6.length c6, .slice a7 V.l7.length c7, .bool V.sp, .bool V.kl] #[.slice b0 U.l0.length d0, .slice b1 U.l1.length d1, .slice b2 U.l2.length d2, .slice b3 U.l3.length d3, .slice b4 U.l4.length d4, .slice b5 U.l5.length d5, .slice b6 U.l6.length d6, .slice b7 U.l7.length d7, .bool U.sp, .bool U.kl] 28 28
  by_cases hn : ¬ (0 ≤ n ∧ n ≤ 12)
  · have hE : Hid (stB V U n = []) := if_neg hn
    have dd : decide (n < 0) = true ∨ (decide (n < 0) = false ∧ decide (n > 12) = true) := by
      by_cases h0 : n < 0
      · exact Or.inl (decide_eq_true h0)
      · exact Or.inr ⟨decide_eq_false h0, decide_eq_true (by omega)⟩
    clear hn
    rcases dd with d1 | ⟨d1, d2⟩
    · go_enter Try.func17, Try.ntmps17
      go_wp2_with fail
      go_ret
      have e9 := hE.out
      rw [e9]
      exact ⟨⟨none, 0, rfl, KRow.nil _ _⟩, L0⟩
    · go_enter Try.func17, Try.ntmps17
      go_wp2_with fail
      go_ret
      have e9 := hE.out
      rw [e9]
      exact ⟨⟨none, 0, rfl, KRow.nil _ _⟩, L0⟩
  replace hn := Decidable.not_not.1 hn
  obtain ⟨m, rfl⟩ : ∃ m : Nat, n = (m : Int) := ⟨n.toNat, by omega⟩
  have hm : m ≤ 12 := by omega
  have hE : Hid (stB V U m = clB V U ++ ofSort 4 (cmB V U m)) := if_pos hn
  clear hn
  have lt1 : ∀ {R : List Int}, R = tgL V m → R.length ≤ 4294967296 := fun h => by rw [h]; have := tgL_len V m; have := KV.out.2.2.2.2.2.2.2; omega
  have lt2 : ∀ {R : List Int}, R = tgL U m → R.length ≤ 4294967296 := fun h => by rw [h]; have := tgL_len U m; have := KU.out.2.2.2.2.2.2.2; omega
  have la1 : ∀ {R : List Int}, R = askL V → R.length ≤ 4294967296 := fun h => by rw [h]; obtain ⟨m0, m1, m2, m3, m4, m5, m6, m7⟩ := KV.out; simp [askL]; omega
  have la2 : ∀ {R : List Int}, R = askL U → R.length ≤ 4294967296 := fun h => by rw [h]; obtain ⟨m0, m1, m2, m3, m4, m5, m6, m7⟩ := KU.out; simp [askL]; omega
  obtain ⟨x0, x1, x2, x3, x4, x5, x6, x7, x8, x9, xf⟩ := k0.ten
  obtain ⟨y0, y1, y2, y3, y4, y5, y6, y7, y8, y9, yf⟩ := k1.ten
  go_enter Try.func17, Try.ntmps17
  go_wp2_with fail
  generalize (w.alloc (.cells #[.slice a0 V.l0.length c0, .slice a1 V.l1.length c1, .slice a2 V.l2.length c2, .slice a3 V.l3.length c3, .slice a4 V.l4.length c4, .slice a5 V.l5.length c5, .slice a6 V.l6.length c6, .slice a7 V.l7.length c7, .bool V.sp, .bool V.kl] 28)).alloc (.cells #[.slice b0 U.l0.length d0, .slice b1 U.l1.length d1, .slice b2 U.l2.length d2, .slice b3 U.l3.length d3, .slice b4 U.l4.length d4, .slice b5 U.l5.length d5, .slice b6 U.l6.length d6, .slice b7 U.l7.length d7, .bool U.sp, .bool U.kl] 28) = X0 at k0 k1 L0 x0 x1 x2 x3 x4 x5 x6 x7 x8 x9 xf y0 y1 y2 y3 y4 y5 y6 y7 y8 y9 yf ⊢
  have K0 := Hid.mk2 k0
  have K1 := Hid.mk2 k1
  have LL := Hid.mk2 L0
  clear k0 k1 L0
  go_region_held3 (fun w' => w'.cell? ⟨w.heap.size, 0, none⟩ = some (.slice a0 V.l0.length c0) ∧ w'.cell? ⟨w.heap.size, 1, none⟩ = some (.slice a1 V.l1.length c1) ∧ w'.cell? ⟨w.heap.size, 2, none⟩ = some (.slice a2 V.l2.length c2) ∧ w'.cell? ⟨w.heap.size, 3, none⟩ = some (.slice a3 V.l3.length c3) ∧ w'.cell? ⟨w.heap.size, 4, none⟩ = some (.slice a4 V.l4.length c4) ∧ w'.cell? ⟨w.heap.size, 5, none⟩ = some (.slice a5 V.l5.length c5) ∧ w'.cell? ⟨w.heap.size, 6, none⟩ = some (.slice a6 V.l6.length c6) ∧ w'.cell? ⟨w.heap.size, 7, none⟩ = some (.slice a7 V.l7.length c7) ∧ w'.cell? ⟨w.heap.size, 8, none⟩ = some (.bool V.sp) ∧ w'.cell? ⟨w.heap.size, 9, none⟩ = some (.bool V.kl) ∧ w'.cell? ⟨w.heap.size + 1, 0, none⟩ = some (.slice b0 U.l0.length d0) ∧ w'.cell? ⟨w.heap.size + 1, 1, none⟩ = some (.slice b1 U.l1.length d1) ∧ w'.cell? ⟨w.heap.size + 1, 2, none⟩ = some (.slice b2 U.l2.length d2) ∧ w'.cell? ⟨w.heap.size + 1, 3, none⟩ = some (.slice b3 U.l3.length d3) ∧ w'.cell? ⟨w.heap.size + 1, 4, none⟩ = some (.slice b4 U.l4.length d4) ∧ w'.cell? ⟨w.heap.size + 1, 5, none⟩ = some (.slice b5 U.l5.length d5) ∧ w'.cell? ⟨w.heap.size + 1, 6, none⟩ = some (.slice b6 U.l6.length d6) ∧ w'.cell? ⟨w.heap.size + 1, 7, none⟩ = some (.slice b7 U.l7.length d7) ∧ w'.cell? ⟨w.heap.size + 1, 8, none⟩ = some (.bool U.sp) ∧ w'.cell? ⟨w.heap.size + 1, 9, none⟩ = some (.bool U.kl)) (simp [x0, x1, x2, x3, x4, x5, x6, x7, x8, x9, y0, y1, y2, y3, y4, y5, y6, y7, y8, y9])
    (first
      | (go_at_call 28; refine (clashing_any t1 t2 t3 t4 q1 q2 q3 q4 P T Q Y _ _ _ _ w4 (o1.later (bl_trans (bl_trans hb2 hb3) hb4)).els (o2.later (bl_trans hb3 hb4)).els (o3.later hb4).els o4.els (lt1 hP.out) (la1 hT.out) (lt2 hQ.out) (la2 hY.out)).mono ?_; rintro e w5 ⟨⟨t5, q5, rfl, o5⟩, hb5⟩; have hw5 : Below X0.heap.size X0 w5 := bl_trans hw4 hb5; obtain ⟨x0, x1, x2, x3, x4, x5, x6, x7, x8, x9, xf⟩ := (K0.out.later hw5).ten; obtain ⟨y0, y1, y2, y3, y4, y5, y6, y7, y8, y9, yf⟩ := (K1.out.later hw5).ten)
      | (go_at_call 36; first
          | (refine (commandTargets_any b0 b1 b2 b3 b4 b5 b6 b7 d0 d1 d2 d3 d4 d5 d6 d7 U m hm C w2 (HU.out.later (bl_trans LL.out hw2)) KU.out).mono ?_; rintro e w3 ⟨⟨t3, q3, Q, rfl, o3, hQ1⟩, hb3⟩; have hQ := Hid.mk2 hQ1; clear hQ1; have hw3 : Below X0.heap.size X0 w3 := bl_trans hw2 hb3; obtain ⟨x0, x1, x2, x3, x4, x5, x6, x7, x8, x9, xf⟩ := (K0.out.later hw3).ten; obtain ⟨y0, y1, y2, y3, y4, y5, y6, y7, y8, y9, yf⟩ := (K1.out.later hw3).ten)
          | (refine (commandTargets_any a0 a1 a2 a3 a4 a5 a6 a7 c0 c1 c2 c3 c4 c5 c6 c7 V m hm B _ (HV.out.later (bl_drew LL.out)) KV.out).mono ?_; rintro e w1 ⟨⟨t1, q1, P, rfl, o1, hP1⟩, hb1⟩; have hP := Hid.mk2 hP1; clear hP1; have hw1 : Below X0.heap.size X0 w1 := bl_trans (bl_drew (Below.refl _ _)) hb1; obtain ⟨x0, x1, x2, x3, x4, x5, x6, x7, x8, x9, xf⟩ := (K0.out.later hw1).ten; obtain ⟨y0, y1, y2, y3, y4, y5, y6, y7, y8, y9, yf⟩ := (K1.out.later hw1).ten))
      | (go_at_call 37; first
          | (refine (askedColumns_any b0 b1 b2 b3 b4 b5 b6 b7 d0 d1 d2 d3 d4 d5 d6 d7 U C w3 (HU.out.later (bl_trans LL.out hw3)) KU.out).mono ?_; rintro e w4 ⟨⟨t4, q4, Y, rfl, o4, hY1⟩, hb4⟩; have hY := Hid.mk2 hY1; clear hY1; have hw4 : Below X0.heap.size X0 w4 := bl_trans hw3 hb4; obtain ⟨x0, x1, x2, x3, x4, x5, x6, x7, x8, x9, xf⟩ := (K0.out.later hw4).ten; obtain ⟨y0, y1, y2, y3, y4, y5, y6, y7, y8, y9, yf⟩ := (K1.out.later hw4).ten)
          | (refine (askedColumns_any a0 a1 a2 a3 a4 a5 a6 a7 c0 c1 c2 c3 c4 c5 c6 c7 V B w1 (HV.out.later (bl_trans LL.out hw1)) KV.out).mono ?_; rintro e w2 ⟨⟨t2, q2, T, rfl, o2, hT1⟩, hb2⟩; have hT := Hid.mk2 hT1; clear hT1; have hw2 : Below X0.heap.size X0 w2 := bl_trans hw1 hb2; obtain ⟨x0, x1, x2, x3, x4, x5, x6, x7, x8, x9, xf⟩ := (K0.out.later hw2).ten; obtain ⟨y0, y1, y2, y3, y4, y5, y6, y7, y8, y9, yf⟩ := (K1.out.later hw2).ten)))
  have L5 := Hid.mk2 (bl_trans LL.out hw5)
  have HH : Hid (hts P T Q Y = cmB V U m) := by show _ = _; rw [hP.out, hT.out, hQ.out, hY.out]; rfl
  have lc : Hid ((cmB V U m).length ≤ 16777216) := by have h1 : (cmB V U m).length ≤ 2 * (tgL V m).length + 2 * (tgL U m).length := hts_len _ _ _ _; have := tgL_len V m; have := tgL_len U m; have := KV.out.2.2.2.2.2.2.2; have := KU.out.2.2.2.2.2.2.2; show _ ≤ _; omega
  rw [HH.out] at o5 ⊢
  have O5 := Hid.mk2 o5
  have K5 := Hid.mk2 (K0.out.later hw5)
  have K6 := Hid.mk2 (K1.out.later hw5)
  clear o1 o2 o3 o4 o5 hb1 hb2 hb3 hb4 hb5 hw1 hw2 hw3 hw4 hw5 hP hT hQ hY K0 K1 LL lt1 lt2 la1 la2
  go_wp2_with fail
  clear x0 x1 x2 x3 x4 x5 x6 x7 x8 x9 xf y0 y1 y2 y3 y4 y5 y6 y7 y8 y9 yf
  refine (implClashes_any a0 a1 a2 a3 a4 a5 a6 a7 c0 c1 c2 c3 c4 c5 c6 c7 V b0 b1 b2 b3 b4 b5 b6 b7 d0 d1 d2 d3 d4 d5 d6 d7 U B C w5 (HV.out.later L5.out) (HU.out.later L5.out) KV.out KU.out).mono ?_
  rintro e w6 ⟨⟨t6, q6, rfl, k6⟩, hb6⟩
  have lcl := Hid.mk2 (clB_len V U KV.out KU.out)
  have L6 := Hid.mk2 (bl_trans L5.out hb6)
  have KR6 := Hid.mk2 k6
  have O6 := Hid.mk2 (O5.out.later hb6)
  clear k6 hb6 O5 L5 K5 K6
  go_wp2_with fail
  refine (clashesAt_any 4 t5 q5 (cmB V U m) _ w6 O6.out (by have := lc.out; omega)).mono ?_
  rintro e w7 ⟨⟨t7, q7, R7, rfl, k7, h7⟩, hb7⟩
  have H7 := Hid.mk2 h7
  have l7 : R7.length ≤ 16777216 := by rw [h7, ofSort_len]; exact lc.out
  obtain ⟨G, hG⟩ : ∃ G, Hid (clB V U = G) := ⟨_, rfl⟩
  rw [hG.out] at KR6 lcl hE ⊢
  have b8 : Below w7.heap.size w7 (w7.alloc (.cells #[.slice t6 G.length q6, .slice t7 R7.length q7] 26)) := bl_alloc (Below.refl _ _) _
  have E8 := Hid.mk2 (twoK (Blk.new w7 #[.slice t6 G.length q6, .slice t7 R7.length q7] 26) ((((KR6.out.later hb7).later b8).mono (Nat.zero_le _)).els) (((k7.later b8).mono (Nat.zero_le _)).els))
  have L8 := Hid.mk2 (bl_trans (bl_trans L6.out hb7) b8)
  have lF : ([G, R7].flatten).length ≤ 1099511627776 := by have := lcl.out; simp; omega
  clear h7 k7 hb7 b8 L6 KR6 O6
  go_wp2_with fail
  refine (concatK_any (some ⟨w7.heap.size, 0, none⟩) 2 [G, R7] 0 _ E8.out (by simp) lF).mono ?_
  rintro e w9 ⟨⟨s9, c9, R, rfl, hO, hR⟩, b9⟩
  have HR : Hid (R = stB V U m) := by show R = _; rw [hR, hE.out, H7.out]; simp
  have HO : Hid (KRow w9 w.heap.size (.slice s9 R.length c9) R) := hO.mono L8.out.size
  have L9 := Hid.mk2 (bl_trans L8.out b9)
  clear hR hO b9 L8 E8 lF hE
  go_wp2_with fail
  go_ret
  have e9 := HR.out
  subst e9
  exact ⟨⟨s9, c9, rfl, HO.out⟩, L9.out⟩
end Go.Proofs.Ytgfchpbdoebmbaa
