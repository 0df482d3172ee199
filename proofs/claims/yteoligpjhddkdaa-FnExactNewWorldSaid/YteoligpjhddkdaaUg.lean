import Derived.Test.YteoligpjhddkdaaUf
import Derived.Deep.RegionHeld3
namespace Go.Proofs.Yteoligpjhddkdaa
open Go.RowKit Go.Maps Go.WideMaps
set_option linter.unusedVariables false
set_option linter.unusedSimpArgs false

theorem nwL_len (A B C : List (ByteArray × Int)) : (nwL A B C).length ≤ 12 := by
  unfold nwL
  split
  · rename_i h
    have := (okR_good h).1.2.1
    rw [zs_len (Nat.le_refl _)]; exact this
  · simp

set_option maxRecDepth 100000 in
set_option maxHeartbeats 4000000 in
theorem exactNewWorld_any (s1 s2 s3 : Option Addr) (c1 c2 c3 : Nat) (A B C : List (ByteArray × Int)) (w : World) (gA : Dc w s1 A) (gB : Dc w s2 B) (gC : Dc w s3 C) :
    Calls Try.prog 4 #[.agg #[.slice s1 A.length c1, .slice s2 B.length c2, .slice s3 C.length c3]] w fun e w' => e = .returned (.bool true) ∧ Below w.heap.size w w' := by
  have hal := alloc_old
  have haf := alloc_oldf
  obtain ⟨hA, nA, mA⟩ := gA
  obtain ⟨hB0, nB, mB⟩ := gB
  obtain ⟨hC, nC, mC⟩ := gC
  have nm := nms3 nA nB nC
  have L : Below w.heap.size w (w.alloc (.cells #[.slice s1 A.length c1, .slice s2 B.length c2, .slice s3 C.length c3] 24)) := bl_alloc (Below.refl _ _) _
  have KR := Blk.new w #[.slice s1 A.length c1, .slice s2 B.length c2, .slice s3 C.length c3] 24
  obtain ⟨x0, x1, x2, x3⟩ := KR.three'
  go_enter Try.func4, Try.ntmps4
  go_wp2_with fail
  refine (szReg_any s1 s2 s3 c1 c2 c3 A B C _ (hA.later L) (hB0.later L) (hC.later L) nA nB nC mA mB mC).mono ?_
  rintro e w1 ⟨⟨r, rfl, hr⟩, hb1⟩
  replace L := bl_trans L hb1
  replace KR := KR.later hb1
  clear x0 x1 x2 x3
  clear hb1
  rcases hr with rfl | ⟨r0, lA, lB, lC⟩
  · go_wp2_with fail
    go_ret
    exact ⟨rfl, L⟩
  have t2 : decide (r < 0) = false := by simp; omega
  have hN12 : (nwL A B C).length ≤ 12 := nwL_len A B C
  have okN := okV_nw A B C
  obtain ⟨N, hN⟩ : ∃ N, Hid (N = nwL A B C) := ⟨_, rfl⟩
  have kN : kW (nW N) := kNew (by rw [hN.out]; omega)
  clear mA mB mC nA nB nC
  obtain ⟨x0, x1, x2, x3⟩ := KR.three'
  go_wp2_with fail
  refine (toReg_any s1 s2 s3 c1 c2 c3 A B C _ (hA.later L) (hB0.later L) (hC.later L) lA lB lC).mono ?_
  rintro e w2 ⟨⟨a2, b2, d2, rfl, dA2, dB2, dC2⟩, hb2⟩
  replace L := bl_trans L hb2
  replace KR := KR.later hb2
  clear x0 x1 x2 x3
  go_wp2_with fail
  refine (specNewWorld_any a2 b2 d2 A.length B.length C.length A B C _ dA2 dB2 dC2 lA lB lC).mono ?_
  rintro e w3 ⟨sw, cw, rfl, hO3, hb3⟩
  rw [← hN.out] at hO3 okN hN12 ⊢
  have OW : OV w3 w2.heap.size (.slice sw N.length cw) N := hO3
  replace L := bl_trans L hb3
  replace KR := KR.later hb3
  clear hO3 hb3 dA2 dB2 dC2 hb2
  have owl : ∀ g, (Value.slice sw N.length cw).ownBlock = some g → g < w3.heap.size := fun g hg => (World.ownsRow.lt OW g hg).2
  have hB : Below w3.heap.size w3 (w3.alloc (.cells #[.slice none 0 0, .slice none 0 0, .slice none 0 0, .slice sw N.length cw] 43)) := bl_alloc (Below.refl _ _) _
  have sz : (w3.alloc (.cells #[.slice none 0 0, .slice none 0 0, .slice none 0 0, .slice sw N.length cw] 43)).heap.size = w3.heap.size + 1 := by simp
  replace L := bl_trans L hB
  replace KR := KR.later hB
  replace OW := OW.later hB
  have KW := Blk.new w3 #[.slice none 0 0, .slice none 0 0, .slice none 0 0, .slice sw N.length cw] 43
  obtain ⟨x0, x1, x2, x3⟩ := KR.three'
  go_wp2_with fail
  generalize hX : w3.alloc (.cells #[.slice none 0 0, .slice none 0 0, .slice none 0 0, .slice sw N.length cw] 43) = P at sz L KR KW OW x0 x1 x2 x3 ⊢
  clear hX hB
  have sP := sz
  clear sz
  have ltP := KR.lt
  refine (toReg_dd s1 s2 s3 c1 c2 c3 A B C _ (hA.later L) (hB0.later L) (hC.later L) lA lB lC).mono ?_
  rintro e w5 ⟨⟨a, b, c, rfl, DA, DB, DC, pa, pb, pc, ab, ac, bc⟩, hb5⟩
  have qa := DA.2.1
  have qb := DB.2.1
  have qc := DC.2.1
  replace L := bl_trans L hb5
  replace KR := KR.later hb5
  replace KW := KW.later hb5
  replace OW := OW.later hb5
  clear x0 x1 x2 x3
  have s5 := hb5.size
  clear hb5
  have hB : Below w5.heap.size w5 (w5.alloc (.cells #[.slice (some ⟨a, 0, none⟩) A.length A.length, .slice (some ⟨b, 0, none⟩) B.length B.length, .slice (some ⟨c, 0, none⟩) C.length C.length] 37)) := bl_alloc (Below.refl _ _) _
  have sz : (w5.alloc (.cells #[.slice (some ⟨a, 0, none⟩) A.length A.length, .slice (some ⟨b, 0, none⟩) B.length B.length, .slice (some ⟨c, 0, none⟩) C.length C.length] 37)).heap.size = w5.heap.size + 1 := by simp
  replace L := bl_trans L hB
  replace KR := KR.later hB
  replace KW := KW.later hB
  replace OW := OW.later hB
  replace DA := DA.later hB
  replace DB := DB.later hB
  replace DC := DC.later hB
  have KX := Blk.new w5 #[.slice (some ⟨a, 0, none⟩) A.length A.length, .slice (some ⟨b, 0, none⟩) B.length B.length, .slice (some ⟨c, 0, none⟩) C.length C.length] 37
  obtain ⟨x0, x1, x2, x3⟩ := KX.three'
  go_wp2_with fail
  generalize hX : w5.alloc (.cells #[.slice (some ⟨a, 0, none⟩) A.length A.length, .slice (some ⟨b, 0, none⟩) B.length B.length, .slice (some ⟨c, 0, none⟩) C.length C.length] 37) = Q at sz L KR KW KX OW DA DB DC x0 x1 x2 x3 ⊢
  clear hX hB
  have sQ := sz
  clear sz
  refine (implNewWorld_any _ _ _ _ _ _ A B C _ DA.1 DB.1 DC.1 nm lA lB lC).mono ?_
  rintro e w7 ⟨sg, cg, rfl, hO7, hb7⟩
  rw [← hN.out] at hO7 ⊢
  have OG : OV w7 Q.heap.size (.slice sg N.length cg) N := hO7
  have s7 := hb7.size
  replace L := bl_trans L hb7
  replace KR := KR.later hb7
  replace KW := KW.later hb7
  replace KX := KX.later hb7
  replace OW := OW.later hb7
  replace DA := DA.later hb7
  replace DB := DB.later hb7
  replace DC := DC.later hb7
  clear x0 x1 x2 x3
  clear hO7 hb7
  have ogl : ∀ g, (Value.slice sg N.length cg).ownBlock = some g → Q.heap.size ≤ g ∧ g < w7.heap.size := fun g hg => World.ownsRow.lt OG g hg
  have hB : Below w7.heap.size w7 (w7.alloc (.cells #[.slice none 0 0, .slice none 0 0, .slice none 0 0, .slice sg N.length cg] 43)) := bl_alloc (Below.refl _ _) _
  have sz : (w7.alloc (.cells #[.slice none 0 0, .slice none 0 0, .slice none 0 0, .slice sg N.length cg] 43)).heap.size = w7.heap.size + 1 := by simp
  replace L := bl_trans L hB
  replace KR := KR.later hB
  replace KW := KW.later hB
  replace KX := KX.later hB
  replace OW := OW.later hB
  replace OG := OG.later hB
  replace DA := DA.later hB
  replace DB := DB.later hB
  replace DC := DC.later hB
  have KG := Blk.new w7 #[.slice none 0 0, .slice none 0 0, .slice none 0 0, .slice sg N.length cg] 43
  obtain ⟨x0, x1, x2, x3, x4⟩ := KG.four'
  obtain ⟨y0, y1, y2, y3, y4⟩ := KW.four'
  go_wp2_with fail
  generalize hX : w7.alloc (.cells #[.slice none 0 0, .slice none 0 0, .slice none 0 0, .slice sg N.length cg] 43) = R at sz L KR KW KX KG OW OG DA DB DC x0 x1 x2 x3 x4 y0 y1 y2 y3 y4 ⊢
  clear hX hB
  have sR := sz
  clear sz
  refine (eqWorld_gen none none none sg none none none sw 0 0 0 cg 0 0 0 cw (nW N) _ _ _ (inNew OG okN) (inNew OW okN) kN).mono ?_
  rintro e w9 ⟨rfl, hb9⟩
  replace L := bl_trans L hb9
  replace KR := KR.later hb9
  replace KW := KW.later hb9
  replace KX := KX.later hb9
  replace KG := KG.later hb9
  replace OW := OW.later hb9
  replace OG := OG.later hb9
  replace DA := DA.later hb9
  replace DB := DB.later hb9
  replace DC := DC.later hb9
  have s9 := hb9.size
  clear hb9
  clear x0 x1 x2 x3 x4
  clear y0 y1 y2 y3 y4
  obtain ⟨x0, x1, x2, x3⟩ := KX.three'
  obtain ⟨y0, y1, y2, y3⟩ := KR.three'
  have KXH : Hid (Blk w9 w5.heap.size #[.slice (some ⟨a, 0, none⟩) A.length A.length, .slice (some ⟨b, 0, none⟩) B.length B.length, .slice (some ⟨c, 0, none⟩) C.length C.length] 37) := KX
  have KRH : Hid (Blk w9 w.heap.size #[.slice s1 A.length c1, .slice s2 B.length c2, .slice s3 C.length c3] 24) := KR
  go_wp2_with fail
  go_region_held3 (fun w' => w'.cell? ⟨w5.heap.size, 0, none⟩ = some (.slice (some ⟨a, 0, none⟩) A.length A.length) ∧ w'.cell? ⟨w5.heap.size, 1, none⟩ = some (.slice (some ⟨b, 0, none⟩) B.length B.length) ∧ w'.cell? ⟨w5.heap.size, 2, none⟩ = some (.slice (some ⟨c, 0, none⟩) C.length C.length) ∧ w'.cell? ⟨w.heap.size, 0, none⟩ = some (.slice s1 A.length c1) ∧ w'.cell? ⟨w.heap.size, 1, none⟩ = some (.slice s2 B.length c2) ∧ w'.cell? ⟨w.heap.size, 2, none⟩ = some (.slice s3 C.length c3)) (simp [x0, x1, x2, y0, y1, y2])
    (first
      | (go_at_call 9; refine (toReg_any s1 s2 s3 c1 c2 c3 A B C _ (hA.later (bl_trans L (bl_drew (Below.refl _ _)))) (hB0.later (bl_trans L (bl_drew (Below.refl _ _)))) (hC.later (bl_trans L (bl_drew (Below.refl _ _)))) lA lB lC).mono ?_; rintro e wa ⟨⟨a3, b3, d3, rfl, dA3, dB3, dC3⟩, hba⟩; have hwa : Below w9.heap.size w9 wa := bl_trans (bl_drew (Below.refl _ _)) hba; obtain ⟨x0, x1, x2, x3⟩ := (KXH.out.later hwa).three'; obtain ⟨y0, y1, y2, y3⟩ := (KRH.out.later hwa).three')
      | (go_at_call 12; refine (eqReg_same _ _ _ _ _ _ _ _ _ _ _ _ A B C wa (DA.1.later hwa) (DB.1.later hwa) (DC.1.later hwa) dA3 dB3 dC3 lA lB lC).mono ?_; rintro e wb ⟨rfl, hbb⟩; have hwb : Below w9.heap.size w9 wb := bl_trans hwa hbb; obtain ⟨x0, x1, x2, x3⟩ := (KXH.out.later hwb).three'; obtain ⟨y0, y1, y2, y3⟩ := (KRH.out.later hwb).three'))
  replace L := bl_trans L hwb
  replace KR := KR.later hwb
  replace KW := KW.later hwb
  replace KX := KX.later hwb
  replace KG := KG.later hwb
  replace OW := OW.later hwb
  replace OG := OG.later hwb
  replace DA := DA.later hwb
  replace DB := DB.later hwb
  replace DC := DC.later hwb
  have sb := hwb.size
  clear hwa hwb hba hbb dA3 dB3 dC3 KXH KRH
  clear x0 x1 x2 x3
  clear y0 y1 y2 y3
  obtain ⟨x0, x1, x2, x3⟩ := KX.three'
  go_wp2_with fail
  refine (markReg_any a b c A.length B.length C.length _ _ _ _ DA.2 DB.2 DC.2 lA lB lC ab ac bc).mono ?_
  rintro e wc ⟨⟨k, rfl, hk0⟩, sc, hBel, hSame⟩
  have kneg : decide (k < 0) = false := by simp; omega
  have klt : ¬ k < 0 := by omega
  have wlt := KR.lt
  have LP : Below P.heap.size wb wc := hBel wb P.heap.size (by omega) (by omega) (by omega) (Below.refl _ _)
  have w0lt : w.heap.size < P.heap.size := ltP
  replace L := L.trans (LP.mono (Nat.le_of_lt w0lt))
  replace KR := KR.same (LP.block _ w0lt)
  replace KW := KW.same (LP.block _ (by omega))
  replace KX := KX.same (hSame _ (by omega) (by omega) (by omega) KX.lt)
  replace KG := KG.same (hSame _ (by omega) (by omega) (by omega) KG.lt)
  replace OW := OW.under LP (fun g hg => by have := owl g hg; omega)
  replace OG := OG.kept ⟨sc, fun k hk hl => hSame k (by omega) (by omega) (by omega) hl⟩
  clear DA DB DC hBel hSame LP
  clear x0 x1 x2 x3
  obtain ⟨x0, x1, x2, x3, x4⟩ := KG.four'
  obtain ⟨y0, y1, y2, y3, y4⟩ := KW.four'
  go_wp2_with fail
  refine (eqWorld_gen none none none sg none none none sw 0 0 0 cg 0 0 0 cw (nW N) _ _ _ (inNew OG okN) (inNew OW okN) kN).mono ?_
  rintro e wd ⟨rfl, hbd⟩
  replace L := bl_trans L hbd
  replace KR := KR.later hbd
  replace KW := KW.later hbd
  replace KX := KX.later hbd
  replace KG := KG.later hbd
  replace OW := OW.later hbd
  replace OG := OG.later hbd
  have sd := hbd.size
  clear hbd
  clear x0 x1 x2 x3 x4
  clear y0 y1 y2 y3 y4
  obtain ⟨x0, x1, x2, x3, x4⟩ := KG.four'
  go_wp2_with fail
  refine (markWorld_new Q.heap.size _ N _ OG (by omega) (by omega)).mono ?_
  rintro e we ⟨rfl, OG', J⟩
  have kr := KR.lt
  have kw := KW.lt
  have kg := KG.lt
  replace L := L.trans (J.1.mono (by omega))
  replace KR := KR.same (J.1.block _ (by omega))
  replace KW := KW.same (J.1.block _ (by omega))
  replace KG := KG.same (J.2 _ (fun e => by have := ogl _ e; omega) KG.lt)
  replace OW := OW.under J.1 (fun g hg => by have := owl g hg; omega)
  have se := J.1.size
  clear OG KX J
  have OG : OV we Q.heap.size (.slice sg N.length cg) (mVs 1 N.length) := OG'
  clear OG'
  have h128 : 1 + 4 * (N.length : Int) < 128 := by omega
  have hneg : decide (1 + 4 * (N.length : Int) < 0) = false := by simp; omega
  clear x0 x1 x2 x3 x4
  obtain ⟨x0, x1, x2, x3, x4⟩ := KG.four'
  go_wp2_with fail
  refine (heldWorld_new Q.heap.size sg N.length cg _ OG h128).mono ?_
  rintro e wf ⟨rfl, hbf⟩
  replace L := bl_trans L hbf
  replace KR := KR.later hbf
  replace KW := KW.later hbf
  replace KG := KG.later hbf
  replace OW := OW.later hbf
  replace OG := OG.later hbf
  have sf := hbf.size
  clear hbf
  clear x0 x1 x2 x3 x4
  obtain ⟨x0, x1, x2, x3⟩ := KR.three'
  go_wp2_with fail
  refine (toReg_any s1 s2 s3 c1 c2 c3 A B C _ (hA.later L) (hB0.later L) (hC.later L) lA lB lC).mono ?_
  rintro e wg ⟨⟨a4, b4, d4, rfl, dA4, dB4, dC4⟩, hbg⟩
  replace L := bl_trans L hbg
  replace KR := KR.later hbg
  replace KW := KW.later hbg
  replace KG := KG.later hbg
  replace OW := OW.later hbg
  replace OG := OG.later hbg
  clear hbg
  clear x0 x1 x2 x3
  go_wp2_with fail
  refine (implNewWorld_any _ _ _ _ _ _ A B C _ dA4 dB4 dC4 nm lA lB lC).mono ?_
  rintro e wh ⟨sh, ch, rfl, hO9, hbh⟩
  rw [← hN.out] at hO9 ⊢
  have OH : OV wh wg.heap.size (.slice sh N.length ch) N := hO9
  replace L := bl_trans L hbh
  replace KR := KR.later hbh
  replace KW := KW.later hbh
  replace KG := KG.later hbh
  replace OW := OW.later hbh
  replace OG := OG.later hbh
  clear hO9 hbh dA4 dB4 dC4
  have hB : Below wh.heap.size wh (wh.alloc (.cells #[.slice none 0 0, .slice none 0 0, .slice none 0 0, .slice sh N.length ch] 43)) := bl_alloc (Below.refl _ _) _
  have sz : (wh.alloc (.cells #[.slice none 0 0, .slice none 0 0, .slice none 0 0, .slice sh N.length ch] 43)).heap.size = wh.heap.size + 1 := by simp
  replace L := bl_trans L hB
  replace KR := KR.later hB
  replace KW := KW.later hB
  replace KG := KG.later hB
  replace OW := OW.later hB
  replace OG := OG.later hB
  replace OH := OH.later hB
  have KH := Blk.new wh #[.slice none 0 0, .slice none 0 0, .slice none 0 0, .slice sh N.length ch] 43
  obtain ⟨x0, x1, x2, x3, x4⟩ := KH.four'
  obtain ⟨y0, y1, y2, y3, y4⟩ := KW.four'
  go_wp2_with fail
  generalize hX : wh.alloc (.cells #[.slice none 0 0, .slice none 0 0, .slice none 0 0, .slice sh N.length ch] 43) = S at sz L KR KW KG KH OW OG OH x0 x1 x2 x3 x4 y0 y1 y2 y3 y4 ⊢
  clear hX hB
  clear sz
  refine (eqWorld_gen none none none sh none none none sw 0 0 0 ch 0 0 0 cw (nW N) _ _ _ (inNew OH okN) (inNew OW okN) kN).mono ?_
  rintro e wi ⟨rfl, hbi⟩
  replace L := bl_trans L hbi
  replace KR := KR.later hbi
  replace KW := KW.later hbi
  replace KG := KG.later hbi
  replace KH := KH.later hbi
  replace OW := OW.later hbi
  replace OG := OG.later hbi
  replace OH := OH.later hbi
  clear hbi
  clear x0 x1 x2 x3 x4
  clear y0 y1 y2 y3 y4
  obtain ⟨x0, x1, x2, x3, x4⟩ := KG.four'
  go_wp2_with fail
  refine (heldWorld_new Q.heap.size sg N.length cg _ OG h128).mono ?_
  rintro e wj ⟨rfl, hbj⟩
  go_wp2_with fail
  go_ret
  exact ⟨rfl, bl_trans L hbj⟩

end Go.Proofs.Yteoligpjhddkdaa
