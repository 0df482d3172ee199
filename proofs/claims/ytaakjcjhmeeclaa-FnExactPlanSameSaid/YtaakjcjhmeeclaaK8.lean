import Derived.Test.YtaakjcjhmeeclaaK7
namespace Go.Proofs.Ytaakjcjhmeeclaa
open Go.RowKit
set_option linter.unusedVariables false
set_option linter.unusedSimpArgs false
set_option maxRecDepth 100000

theorem eB_no {a b : Ef} {j : Nat} (hj : j < 8) (h : ¬ a.lst j = b.lst j) : false = eB a b := by
  symm
  simp only [eB, decide_eq_false_iff_not]
  rintro ⟨g0, g1, g2, g3, g4, g5, g6, g7, _, _⟩
  match j, hj with
  | 0, _ => exact h g0
  | 1, _ => exact h g1
  | 2, _ => exact h g2
  | 3, _ => exact h g3
  | 4, _ => exact h g4
  | 5, _ => exact h g5
  | 6, _ => exact h g6
  | 7, _ => exact h g7
theorem eB_yes {a b : Ef} (h : ∀ j, j < 8 → a.lst j = b.lst j) : decide (flg a.sp a.kl = flg b.sp b.kl) = eB a b := by
  have h0 : a.l0 = b.l0 := h 0 (by omega)
  have h1 : a.l1 = b.l1 := h 1 (by omega)
  have h2 : a.l2 = b.l2 := h 2 (by omega)
  have h3 : a.l3 = b.l3 := h 3 (by omega)
  have h4 : a.l4 = b.l4 := h 4 (by omega)
  have h5 : a.l5 = b.l5 := h 5 (by omega)
  have h6 : a.l6 = b.l6 := h 6 (by omega)
  have h7 : a.l7 = b.l7 := h 7 (by omega)
  rw [Bool.eq_iff_iff, decide_eq_true_eq, flg_inj]
  simp [eB, h0, h1, h2, h3, h4, h5, h6, h7]

set_option maxHeartbeats 8000000 in
theorem effectSame_any (s0 s1 s2 s3 s4 s5 s6 s7 t0 t1 t2 t3 t4 t5 t6 t7 : Option Addr) (c0 c1 c2 c3 c4 c5 c6 c7 d0 d1 d2 d3 d4 d5 d6 d7 : Nat) (a b : Ef) (B C : Nat) (w : World) (hs : InE w B s0 s1 s2 s3 s4 s5 s6 s7 a) (ht : InE w C t0 t1 t2 t3 t4 t5 t6 t7 b) (ka : kEf a) (kb : kEf b) :
    Calls Try.prog 23 #[.agg #[.slice s0 a.l0.length c0, .slice s1 a.l1.length c1, .slice s2 a.l2.length c2, .slice s3 a.l3.length c3, .slice s4 a.l4.length c4, .slice s5 a.l5.length c5, .slice s6 a.l6.length c6, .slice s7 a.l7.length c7, .bool a.sp, .bool a.kl], .agg #[.slice t0 b.l0.length d0, .slice t1 b.l1.length d1, .slice t2 b.l2.length d2, .slice t3 b.l3.length d3, .slice t4 b.l4.length d4, .slice t5 b.l5.length d5, .slice t6 b.l6.length d6, .slice t7 b.l7.length d7, .bool b.sp, .bool b.kl]] w fun z w' => z = .returned (.bool (eB a b)) ∧ Below w.heap.size w w' := by
  have hal := alloc_old
  have haf := alloc_oldf
  obtain ⟨K0, K1, L0⟩ := blkTwoE w #[.slice s0 a.l0.length c0, .slice s1 a.l1.length c1, .slice s2 a.l2.length c2, .slice s3 a.l3.length c3, .slice s4 a.l4.length c4, .slice s5 a.l5.length c5, .slice s6 a.l6.length c6, .slice s7 a.l7.length c7, .bool a.sp, .bool a.kl] #[.slice t0 b.l0.length d0, .slice t1 b.l1.length d1, .slice t2 b.l2.length d2, .slice t3 b.l3.length d3, .slice t4 b.l4.length d4, .slice t5 b.l5.length d5, .slice t6 b.l6.length d6, .slice t7 b.l7.length d7, .bool b.sp, .bool b.kl] 45 45
  have HS : Hid (InE w B s0 s1 s2 s3 s4 s5 s6 s7 a) := hs
  have HT : Hid (InE w C t0 t1 t2 t3 t4 t5 t6 t7 b) := ht
  have KA : Hid (kEf a) := ka
  have KB : Hid (kEf b) := kb
  clear hs ht ka kb
  obtain ⟨x0, x1, x2, x3, x4, x5, x6, x7, x8, x9, xf⟩ := K0.ten
  obtain ⟨y0, y1, y2, y3, y4, y5, y6, y7, y8, y9, yf⟩ := K1.ten
  go_enter Try.func23, Try.ntmps23
  go_wp2_with fail
  generalize hX : (w.alloc (.cells #[.slice s0 a.l0.length c0, .slice s1 a.l1.length c1, .slice s2 a.l2.length c2, .slice s3 a.l3.length c3, .slice s4 a.l4.length c4, .slice s5 a.l5.length c5, .slice s6 a.l6.length c6, .slice s7 a.l7.length c7, .bool a.sp, .bool a.kl] 45)).alloc (.cells #[.slice t0 b.l0.length d0, .slice t1 b.l1.length d1, .slice t2 b.l2.length d2, .slice t3 b.l3.length d3, .slice t4 b.l4.length d4, .slice t5 b.l5.length d5, .slice t6 b.l6.length d6, .slice t7 b.l7.length d7, .bool b.sp, .bool b.kl] 45) = X at K0 K1 L0 x0 x1 x2 x3 x4 x5 x6 x7 x8 x9 xf y0 y1 y2 y3 y4 y5 y6 y7 y8 y9 yf ⊢
  clear hX
  refine (listsOf_any t0 t1 t2 t3 t4 t5 t6 t7 d0 d1 d2 d3 d4 d5 d6 d7 b _).mono ?_
  rintro z w1 ⟨rfl, hb1⟩
  have L1 := bl_trans L0 hb1
  have K2 := Blk.new w1 #[.slice t0 b.l0.length d0, .slice t1 b.l1.length d1, .slice t2 b.l2.length d2, .slice t3 b.l3.length d3, .slice t4 b.l4.length d4, .slice t5 b.l5.length d5, .slice t6 b.l6.length d6, .slice t7 b.l7.length d7] 59
  have LY : Below w1.heap.size w1 (w1.alloc (.cells #[.slice t0 b.l0.length d0, .slice t1 b.l1.length d1, .slice t2 b.l2.length d2, .slice t3 b.l3.length d3, .slice t4 b.l4.length d4, .slice t5 b.l5.length d5, .slice t6 b.l6.length d6, .slice t7 b.l7.length d7] 59)) := bl_alloc (Below.refl _ _) _
  replace K0 := (K0.later hb1).later LY
  replace K1 := (K1.later hb1).later LY
  replace L1 := bl_trans L1 LY
  clear x0 x1 x2 x3 x4 x5 x6 x7 x8 x9 xf y0 y1 y2 y3 y4 y5 y6 y7 y8 y9 yf hb1 L0 LY
  obtain ⟨x0, x1, x2, x3, x4, x5, x6, x7, x8, x9, xf⟩ := K0.ten
  go_wp2_with (refine wpList_store_new rfl 59 (.tmp 5) (.tmp 9) rfl _ #[.slice t0 b.l0.length d0, .slice t1 b.l1.length d1, .slice t2 b.l2.length d2, .slice t3 b.l3.length d3, .slice t4 b.l4.length d4, .slice t5 b.l5.length d5, .slice t6 b.l6.length d6, .slice t7 b.l7.length d7] rfl rfl (by rw [Try.infoLs]; rfl) (by rfl) one8 ?_)
  generalize hY : w1.alloc (.cells #[.slice t0 b.l0.length d0, .slice t1 b.l1.length d1, .slice t2 b.l2.length d2, .slice t3 b.l3.length d3, .slice t4 b.l4.length d4, .slice t5 b.l5.length d5, .slice t6 b.l6.length d6, .slice t7 b.l7.length d7] 59) = Y at K0 K1 K2 L1 x0 x1 x2 x3 x4 x5 x6 x7 x8 x9 xf ⊢
  clear hY
  refine (listsOf_any s0 s1 s2 s3 s4 s5 s6 s7 c0 c1 c2 c3 c4 c5 c6 c7 a _).mono ?_
  rintro z w2 ⟨rfl, hb2⟩
  have LC : Hid (Below w.heap.size w w2) := bl_trans L1 hb2
  have H0 : Hid (Blk w2 w.heap.size #[.slice s0 a.l0.length c0, .slice s1 a.l1.length c1, .slice s2 a.l2.length c2, .slice s3 a.l3.length c3, .slice s4 a.l4.length c4, .slice s5 a.l5.length c5, .slice s6 a.l6.length c6, .slice s7 a.l7.length c7, .bool a.sp, .bool a.kl] 45) := K0.later hb2
  have H1 : Hid (Blk w2 (w.heap.size + 1) #[.slice t0 b.l0.length d0, .slice t1 b.l1.length d1, .slice t2 b.l2.length d2, .slice t3 b.l3.length d3, .slice t4 b.l4.length d4, .slice t5 b.l5.length d5, .slice t6 b.l6.length d6, .slice t7 b.l7.length d7, .bool b.sp, .bool b.kl] 45) := K1.later hb2
  have H2 : Hid (Blk w2 w1.heap.size #[.slice t0 b.l0.length d0, .slice t1 b.l1.length d1, .slice t2 b.l2.length d2, .slice t3 b.l3.length d3, .slice t4 b.l4.length d4, .slice t5 b.l5.length d5, .slice t6 b.l6.length d6, .slice t7 b.l7.length d7] 59) := K2.later hb2
  clear K0 K1 K2 L1 hb2 x0 x1 x2 x3 x4 x5 x6 x7 x8 x9 xf
  go_wp2_with fail
  go_loopw [12] (fun v wr => ∃ k : Nat, k ≤ 8 ∧ v = .int .i64 k ∧ Hid (∀ j, j < k → a.lst j = b.lst j) ∧ Hid (Below w2.heap.size w2 wr)) (fun v _ => 8 - (intOf v).toNat)
  case atStart => exact ⟨0, by omega, rfl, (fun j hj => by omega), Below.refl _ _⟩
  case round =>
    obtain ⟨k, hk, rfl, hq, hb⟩ := hrel
    by_cases h8 : k < 8
    · obtain ⟨s1', c1', r1, E1⟩ := HS.out.at c0 c1 c2 c3 c4 c5 c6 c7 h8
      obtain ⟨s2', c2', r2, E2⟩ := HT.out.at d0 d1 d2 d3 d4 d5 d6 d7 h8
      have hix := idx_row _ k h8 _ _ _ r1
      have ea : wr.cell? ⟨w1.heap.size, k, none⟩ = some (.slice s2' (b.lst k).length c2') := by rw [(H2.out.later hb.out).cell]; exact r2
      have lA := Ef.lst_len KA.out k
      have lB := Ef.lst_len KB.out k
      have E1 : Hid (Els 1 cInt wr B s1' (a.lst k)) := E1.later cInt_keeps (bl_trans LC.out hb.out)
      have E2 : Hid (Els 1 cInt wr C s2' (b.lst k)) := E2.later cInt_keeps (bl_trans LC.out hb.out)
      have HF : Hid (¬ a.lst k = b.lst k → false = eB a b) := fun h => eB_no h8 h
      have HT2 : Hid (a.lst k = b.lst k → ∀ j, j < k + 1 → a.lst j = b.lst j) := fun h j hj => by
        by_cases e : j = k
        · subst e; exact h
        · exact hq.out j (by omega)
      have i8 : decide ((k : Int) < 8) = true := by simp; omega
      have i8' : (k : Int) < 8 := by omega
      clear r1 r2 hq
      generalize a.lst k = A at hix lA E1 HF HT2
      generalize b.lst k = Bl at ea lB E2 HF HT2
      go_wp2_with fail
      refine (equalI_any s1' s2' c1' c2' A Bl B C wr E1.out E2.out lA lB).mono ?_
      rintro z w3 ⟨rfl, hb3⟩
      rw [sl_same]
      have LD : Hid (Below w2.heap.size w2 w3) := bl_trans hb.out hb3
      clear E1 E2 ea hix hb3
      by_cases hc : A = Bl
      · have hN : Hid (∀ j, j < k + 1 → a.lst j = b.lst j) := HT2.out hc
        rw [decide_eq_true hc]
        clear HF HT2 hc
        go_wp2_with fail
        go_roundw
        case rel => exact ⟨k + 1, by omega, by go_num, hN, LD⟩
        case measure => simp [intOf]; omega
      · have HFF : Hid (false = eB a b) := HF.out hc
        rw [decide_eq_false hc]
        clear HF HT2 hc
        go_wp2_with fail
        go_ret
        exact ⟨congrArg (fun b => Ending.returned (.bool b)) HFF.out, bl_trans LC.out LD.out⟩
    · have hk8 : k = 8 := by omega
      subst hk8
      have HE : Hid (decide (flg a.sp a.kl = flg b.sp b.kl) = eB a b) := eB_yes hq.out
      have i8 : decide ((8 : Int) < 8) = false := by simp
      have G0 : Hid (Blk wr w.heap.size #[.slice s0 a.l0.length c0, .slice s1 a.l1.length c1, .slice s2 a.l2.length c2, .slice s3 a.l3.length c3, .slice s4 a.l4.length c4, .slice s5 a.l5.length c5, .slice s6 a.l6.length c6, .slice s7 a.l7.length c7, .bool a.sp, .bool a.kl] 45) := H0.out.later hb.out
      have G1 : Hid (Blk wr (w.heap.size + 1) #[.slice t0 b.l0.length d0, .slice t1 b.l1.length d1, .slice t2 b.l2.length d2, .slice t3 b.l3.length d3, .slice t4 b.l4.length d4, .slice t5 b.l5.length d5, .slice t6 b.l6.length d6, .slice t7 b.l7.length d7, .bool b.sp, .bool b.kl] 45) := H1.out.later hb.out
      have hcmp : ∀ W : World, (Op.equalIn 10000 64 (.agg (tch (flg a.sp a.kl))) (.agg (tch (flg b.sp b.kl)))).run Try.prog W = .ok (decide (flg a.sp a.kl = flg b.sp b.kl)) W := fun W => sets_equal _ _ (flg_len _ _) (flg_len _ _) W
      have FA : Hid (∀ W, Calls Try.prog 33 #[.agg #[.slice s0 a.l0.length c0, .slice s1 a.l1.length c1, .slice s2 a.l2.length c2, .slice s3 a.l3.length c3, .slice s4 a.l4.length c4, .slice s5 a.l5.length c5, .slice s6 a.l6.length c6, .slice s7 a.l7.length c7, .bool a.sp, .bool a.kl]] W fun z w' => z = .returned (.agg (tch (flg a.sp a.kl))) ∧ Below W.heap.size W w') := fun W => flagsOf_any s0 s1 s2 s3 s4 s5 s6 s7 c0 c1 c2 c3 c4 c5 c6 c7 a W
      have FB : Hid (∀ W, Calls Try.prog 33 #[.agg #[.slice t0 b.l0.length d0, .slice t1 b.l1.length d1, .slice t2 b.l2.length d2, .slice t3 b.l3.length d3, .slice t4 b.l4.length d4, .slice t5 b.l5.length d5, .slice t6 b.l6.length d6, .slice t7 b.l7.length d7, .bool b.sp, .bool b.kl]] W fun z w' => z = .returned (.agg (tch (flg b.sp b.kl))) ∧ Below W.heap.size W w') := fun W => flagsOf_any t0 t1 t2 t3 t4 t5 t6 t7 d0 d1 d2 d3 d4 d5 d6 d7 b W
      generalize decide (flg a.sp a.kl = flg b.sp b.kl) = q at HE hcmp
      generalize tch (flg a.sp a.kl) = T1 at FA hcmp
      generalize tch (flg b.sp b.kl) = T2 at FB hcmp
      have LF := bl_trans LC.out hb.out
      obtain ⟨x0, x1, x2, x3, x4, x5, x6, x7, x8, x9, xf⟩ := G0.out.ten
      obtain ⟨y0, y1, y2, y3, y4, y5, y6, y7, y8, y9, yf⟩ := G1.out.ten
      clear hq hk H2
      go_wp2_with fail
      go_region_held3 (fun w' => w'.cell? ⟨w.heap.size, 0, none⟩ = some (.slice s0 a.l0.length c0) ∧ w'.cell? ⟨w.heap.size, 1, none⟩ = some (.slice s1 a.l1.length c1) ∧ w'.cell? ⟨w.heap.size, 2, none⟩ = some (.slice s2 a.l2.length c2) ∧ w'.cell? ⟨w.heap.size, 3, none⟩ = some (.slice s3 a.l3.length c3) ∧ w'.cell? ⟨w.heap.size, 4, none⟩ = some (.slice s4 a.l4.length c4) ∧ w'.cell? ⟨w.heap.size, 5, none⟩ = some (.slice s5 a.l5.length c5) ∧ w'.cell? ⟨w.heap.size, 6, none⟩ = some (.slice s6 a.l6.length c6) ∧ w'.cell? ⟨w.heap.size, 7, none⟩ = some (.slice s7 a.l7.length c7) ∧ w'.cell? ⟨w.heap.size, 8, none⟩ = some (.bool a.sp) ∧ w'.cell? ⟨w.heap.size, 9, none⟩ = some (.bool a.kl) ∧ w'.cell? ⟨w.heap.size + 1, 0, none⟩ = some (.slice t0 b.l0.length d0) ∧ w'.cell? ⟨w.heap.size + 1, 1, none⟩ = some (.slice t1 b.l1.length d1) ∧ w'.cell? ⟨w.heap.size + 1, 2, none⟩ = some (.slice t2 b.l2.length d2) ∧ w'.cell? ⟨w.heap.size + 1, 3, none⟩ = some (.slice t3 b.l3.length d3) ∧ w'.cell? ⟨w.heap.size + 1, 4, none⟩ = some (.slice t4 b.l4.length d4) ∧ w'.cell? ⟨w.heap.size + 1, 5, none⟩ = some (.slice t5 b.l5.length d5) ∧ w'.cell? ⟨w.heap.size + 1, 6, none⟩ = some (.slice t6 b.l6.length d6) ∧ w'.cell? ⟨w.heap.size + 1, 7, none⟩ = some (.slice t7 b.l7.length d7) ∧ w'.cell? ⟨w.heap.size + 1, 8, none⟩ = some (.bool b.sp) ∧ w'.cell? ⟨w.heap.size + 1, 9, none⟩ = some (.bool b.kl)) (simp [x0, x1, x2, x3, x4, x5, x6, x7, x8, x9, xf, y0, y1, y2, y3, y4, y5, y6, y7, y8, y9, yf])
        (first
          | (go_at_call 33; refine (FB.out wg).mono ?_; rintro e wh ⟨rfl, hbh⟩; have hwA := hwg; have hwh : Below wr.heap.size wr wh := bl_trans hwg hbh; obtain ⟨x0, x1, x2, x3, x4, x5, x6, x7, x8, x9, xf⟩ := (G0.out.later hwh).ten; obtain ⟨y0, y1, y2, y3, y4, y5, y6, y7, y8, y9, yf⟩ := (G1.out.later hwh).ten)
          | (go_at_call 33; refine (FA.out wg).mono ?_; rintro e wh ⟨rfl, hbh⟩; have hwh : Below wr.heap.size wr wh := bl_trans hwg hbh; obtain ⟨x0, x1, x2, x3, x4, x5, x6, x7, x8, x9, xf⟩ := (G0.out.later hwh).ten; obtain ⟨y0, y1, y2, y3, y4, y5, y6, y7, y8, y9, yf⟩ := (G1.out.later hwh).ten)
          | (go_at_call 33; refine (FA.out _).mono ?_; rintro e wg ⟨rfl, hbg⟩; have hwg : Below wr.heap.size wr wg := bl_trans (bl_drew (Below.refl _ _)) hbg; obtain ⟨x0, x1, x2, x3, x4, x5, x6, x7, x8, x9, xf⟩ := (G0.out.later hwg).ten; obtain ⟨y0, y1, y2, y3, y4, y5, y6, y7, y8, y9, yf⟩ := (G1.out.later hwg).ten)
          | (go_at_call 33; refine (FB.out _).mono ?_; rintro e wg ⟨rfl, hbg⟩; have hwg : Below wr.heap.size wr wg := bl_trans (bl_drew (Below.refl _ _)) hbg; obtain ⟨x0, x1, x2, x3, x4, x5, x6, x7, x8, x9, xf⟩ := (G0.out.later hwg).ten; obtain ⟨y0, y1, y2, y3, y4, y5, y6, y7, y8, y9, yf⟩ := (G1.out.later hwg).ten))
      all_goals
        clear x0 x1 x2 x3 x4 x5 x6 x7 x8 x9 xf y0 y1 y2 y3 y4 y5 y6 y7 y8 y9 yf
        go_wp2_with fail
        go_ret
        exact ⟨congrArg (fun b => Ending.returned (.bool b)) HE.out, bl_trans LF hwh⟩
end Go.Proofs.Ytaakjcjhmeeclaa
