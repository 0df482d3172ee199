import Derived.Test.YtgiclehfhjjalaaSi
import Derived.Deep.RegionHeld3
namespace Go.Proofs.Ytgiclehfhjjalaa
open Go.RowKit
set_option linter.unusedVariables false
set_option linter.unusedSimpArgs false

theorem OV.sameS {w w' : World} {B g n c : Nat} {L : List V4} (h : OV w B (.slice (some ⟨g, 0, none⟩) n c) L) (hs : g < w.heap.size → w'.heap[g]? = w.heap[g]?) : OV w' B (.slice (some ⟨g, 0, none⟩) n c) L :=
  h.same fun k hk hl => by
    simp only [Value.ownBlock, Option.some.injEq] at hk
    subst hk
    exact hs hl
/-- the mark behind the last one. -/
def mk (n m : Nat) : Int := 1 + 4 * (n : Int) + 4 * (m : Int)
theorem mk_pos (n m : Nat) : 0 ≤ mk n m := by unfold mk; omega
theorem ap_of {a b n m c d : Nat} (h : ¬ a = b) : Ap (.slice (some ⟨a, 0, none⟩) n c) (.slice (some ⟨b, 0, none⟩) m d) := fun g e1 e2 => by
  simp [Value.ownBlock] at e1 e2; omega
theorem ne_own {a k n c : Nat} (h : ¬ k = a) : ¬ (Value.slice (some ⟨a, 0, none⟩) n c).ownBlock = some k := fun e => by
  simp [Value.ownBlock] at e; omega
theorem markStream_one (f : Int) (B : Nat) (s1 s2 : Option Addr) (c1 c2 : Nat) (O N : List V4) (w : World) (h1 : OV w B (.slice s1 O.length c1) O) (h2 : OV w B (.slice s2 N.length c2) N) (hap : Ap (.slice s1 O.length c1) (.slice s2 N.length c2)) (hB : B ≤ w.heap.size) (l1 : O.length ≤ 1048576) (l2 : N.length ≤ 1048576) :
    Calls Try.prog 24 #[.agg #[.int .i64 f, .slice s1 O.length c1, .slice s2 N.length c2], .int .i64 1] w fun e w' => e = .returned (.int .i64 (mk O.length N.length)) ∧ OV w' B (.slice s1 O.length c1) (mVs 1 O.length) ∧ OV w' B (.slice s2 N.length c2) (mVs (1 + 4 * (O.length : Int)) N.length) ∧ Just2 (.slice s1 O.length c1) (.slice s2 N.length c2) B w w' :=
  markStream_any f B s1 s2 c1 c2 O N 1 w h1 h2 hap hB l1 l2 (by omega) (by omega)
theorem heldStream_one (f : Int) (B : Nat) (s1 s2 : Option Addr) (n1 n2 c1 c2 : Nat) (w : World) (h1 : OV w B (.slice s1 n1 c1) (mVs 1 n1)) (h2 : OV w B (.slice s2 n2 c2) (mVs (1 + 4 * (n1 : Int)) n2)) (l1 : n1 ≤ 1048576) (l2 : n2 ≤ 1048576) :
    Calls Try.prog 25 #[.agg #[.int .i64 f, .slice s1 n1 c1, .slice s2 n2 c2], .int .i64 1] w fun e w' => e = .returned (.int .i64 (mk n1 n2)) ∧ Below w.heap.size w w' :=
  heldStream_any f B s1 s2 n1 n2 c1 c2 1 w h1 h2 l1 l2 (by omega) (by omega)

set_option maxRecDepth 100000 in
set_option maxHeartbeats 4000000 in
theorem exactTurn_any (f : Int) (s1 s2 : Option Addr) (c1 c2 : Nat) (O N : List V4) (w : World) (bf : -9223372036854775808 ≤ f ∧ f ≤ 9223372036854775807) (hO : Els 4 cVal w 0 s1 O) (hN : Els 4 cVal w 0 s2 N) (mO : O.length ≤ 9223372036854775807) (mN : N.length ≤ 9223372036854775807) :
    Calls Try.prog 7 #[.agg #[.int .i64 f, .slice s1 O.length c1, .slice s2 N.length c2]] w fun e w' => e = .returned (.bool true) ∧ Below w.heap.size w w' := by
  have hal := alloc_old
  have haf := alloc_oldf
  have okO := els_ok hO
  have okN := els_ok hN
  have L : Below w.heap.size w (w.alloc (.cells #[.int .i64 f, .slice s1 O.length c1, .slice s2 N.length c2] 41)) := bl_alloc (Below.refl _ _) _
  have KA := Blk.new w #[.int .i64 f, .slice s1 O.length c1, .slice s2 N.length c2] 41
  obtain ⟨x0, x1, x2, x3⟩ := KA.three'
  go_enter Try.func7, Try.ntmps7
  go_wp2_with fail
  refine (szStream_gen f s1 s2 O.length N.length c1 c2 1048576 _ (by omega) (by omega) mO mN).mono ?_
  rintro e w1 ⟨⟨r, rfl, hr⟩, hb1⟩
  replace L := bl_trans L hb1
  replace KA := KA.later hb1
  clear x0 x1 x2 x3
  clear hb1
  rcases hr with rfl | ⟨r0, r1, lO, lN⟩
  · go_wp2_with fail
    go_ret
    exact ⟨rfl, L⟩
  have t2 : decide (r < 0) = false := by simp; omega
  have tr : ¬ r < 0 := by omega
  clear mO mN
  obtain ⟨x0, x1, x2, x3⟩ := KA.three'
  go_wp2_with fail
  refine (toStream_own f s1 s2 c1 c2 O N 0 _ (hO.later cVal_keeps L) (hN.later cVal_keeps L) lO lN).mono ?_
  rintro e w2 ⟨⟨a2, e2, b2, d2, rfl, oA2, oB2, n2⟩, hb2⟩
  replace L := bl_trans L hb2
  replace KA := KA.later hb2
  clear x0 x1 x2 x3
  go_wp2_with fail
  refine (specTurn_any f _ b2 0 O.length e2 d2 N _ _ (oB2.els okN) lO lN).mono ?_
  rintro e w3 ⟨gw, cw, rfl, OW, _, hb3⟩
  replace L := bl_trans L hb3
  replace KA := KA.later hb3
  clear oA2 oB2 hb2 hb3 n2
  have owl : gw < w3.heap.size := (OW.lt gw rfl).2
  have hB : Below w3.heap.size w3 (w3.alloc (.cells #[.int .i64 (fb f O.length), .slice (some ⟨gw, 0, none⟩) N.length cw, .slice none 0 0] 26)) := bl_alloc (Below.refl _ _) _
  have sz : (w3.alloc (.cells #[.int .i64 (fb f O.length), .slice (some ⟨gw, 0, none⟩) N.length cw, .slice none 0 0] 26)).heap.size = w3.heap.size + 1 := by simp
  replace L := bl_trans L hB
  replace KA := KA.later hB
  replace OW := OW.later hB
  have KW := Blk.new w3 #[.int .i64 (fb f O.length), .slice (some ⟨gw, 0, none⟩) N.length cw, .slice none 0 0] 26
  obtain ⟨x0, x1, x2, x3⟩ := KA.three'
  go_wp2_with fail
  generalize hX : w3.alloc (.cells #[.int .i64 (fb f O.length), .slice (some ⟨gw, 0, none⟩) N.length cw, .slice none 0 0] 26) = P at sz L KA OW KW x0 x1 x2 x3 ⊢
  clear hX hB
  have sP := sz
  clear sz
  have ltP := KA.lt
  refine (toStream_own f s1 s2 c1 c2 O N 0 _ (hO.later cVal_keeps L) (hN.later cVal_keeps L) lO lN).mono ?_
  rintro e w5 ⟨⟨a, c, b, d, rfl, OXo, OXn, nab⟩, hb5⟩
  replace L := bl_trans L hb5
  replace KA := KA.later hb5
  replace OW := OW.later hb5
  replace KW := KW.later hb5
  clear x0 x1 x2 x3
  have pa := OXo.lt a rfl
  have pb := OXn.lt b rfl
  have s5 := hb5.size
  clear hb5
  have hB : Below w5.heap.size w5 (w5.alloc (.cells #[.int .i64 f, .slice (some ⟨a, 0, none⟩) O.length c, .slice (some ⟨b, 0, none⟩) N.length d] 26)) := bl_alloc (Below.refl _ _) _
  have sz : (w5.alloc (.cells #[.int .i64 f, .slice (some ⟨a, 0, none⟩) O.length c, .slice (some ⟨b, 0, none⟩) N.length d] 26)).heap.size = w5.heap.size + 1 := by simp
  replace L := bl_trans L hB
  replace KA := KA.later hB
  replace OW := OW.later hB
  replace KW := KW.later hB
  replace OXo := OXo.later hB
  replace OXn := OXn.later hB
  have KX := Blk.new w5 #[.int .i64 f, .slice (some ⟨a, 0, none⟩) O.length c, .slice (some ⟨b, 0, none⟩) N.length d] 26
  obtain ⟨x0, x1, x2, x3⟩ := KX.three'
  go_wp2_with fail
  generalize hX : w5.alloc (.cells #[.int .i64 f, .slice (some ⟨a, 0, none⟩) O.length c, .slice (some ⟨b, 0, none⟩) N.length d] 26) = Q at sz L KA OW KW OXo OXn KX x0 x1 x2 x3 ⊢
  clear hX hB
  have sQ := sz
  clear sz
  refine (implTurn_any f _ b 0 O.length c d N _ _ (OXn.els okN) lO lN).mono ?_
  rintro e w7 ⟨gg, cg, rfl, OG, _, hb7⟩
  have s7 := hb7.size
  replace L := bl_trans L hb7
  replace KA := KA.later hb7
  replace OW := OW.later hb7
  replace KW := KW.later hb7
  replace OXo := OXo.later hb7
  replace OXn := OXn.later hb7
  replace KX := KX.later hb7
  clear x0 x1 x2 x3
  clear hb7
  have ogl := OG.lt gg rfl
  have hB : Below w7.heap.size w7 (w7.alloc (.cells #[.int .i64 (fb f O.length), .slice (some ⟨gg, 0, none⟩) N.length cg, .slice none 0 0] 26)) := bl_alloc (Below.refl _ _) _
  have sz : (w7.alloc (.cells #[.int .i64 (fb f O.length), .slice (some ⟨gg, 0, none⟩) N.length cg, .slice none 0 0] 26)).heap.size = w7.heap.size + 1 := by simp
  replace L := bl_trans L hB
  replace KA := KA.later hB
  replace OW := OW.later hB
  replace KW := KW.later hB
  replace OXo := OXo.later hB
  replace OXn := OXn.later hB
  replace KX := KX.later hB
  replace OG := OG.later hB
  have KG := Blk.new w7 #[.int .i64 (fb f O.length), .slice (some ⟨gg, 0, none⟩) N.length cg, .slice none 0 0] 26
  obtain ⟨x0, x1, x2, x3⟩ := KG.three'
  obtain ⟨y0, y1, y2, y3⟩ := KW.three'
  go_wp2_with fail
  generalize hX : w7.alloc (.cells #[.int .i64 (fb f O.length), .slice (some ⟨gg, 0, none⟩) N.length cg, .slice none 0 0] 26) = R at sz L KA OW KW OXo OXn KX OG KG x0 x1 x2 x3 y0 y1 y2 y3 ⊢
  clear hX hB
  have sR := sz
  clear sz
  refine (eqStream_gen (fb f O.length) (some ⟨gg, 0, none⟩) none (some ⟨gw, 0, none⟩) none cg 0 cw 0 N [] _ _ _ (OG.els okN) Els.nil (OW.els okN) Els.nil lN (by simp)).mono ?_
  rintro e w9 ⟨rfl, hb9⟩
  replace L := bl_trans L hb9
  replace KA := KA.later hb9
  replace OW := OW.later hb9
  replace KW := KW.later hb9
  replace OXo := OXo.later hb9
  replace OXn := OXn.later hb9
  replace KX := KX.later hb9
  replace OG := OG.later hb9
  replace KG := KG.later hb9
  have s9 := hb9.size
  clear hb9
  clear x0 x1 x2 x3
  clear y0 y1 y2 y3
  obtain ⟨x0, x1, x2, x3⟩ := KX.three'
  obtain ⟨y0, y1, y2, y3⟩ := KA.three'
  have KXH : Hid (Blk w9 w5.heap.size #[.int .i64 f, .slice (some ⟨a, 0, none⟩) O.length c, .slice (some ⟨b, 0, none⟩) N.length d] 26) := KX
  have KAH : Hid (Blk w9 w.heap.size #[.int .i64 f, .slice s1 O.length c1, .slice s2 N.length c2] 41) := KA
  go_wp2_with fail
  go_region_held3 (fun w' => w'.cell? ⟨w5.heap.size, 0, none⟩ = some (.int .i64 f) ∧ w'.cell? ⟨w5.heap.size, 1, none⟩ = some (.slice (some ⟨a, 0, none⟩) O.length c) ∧ w'.cell? ⟨w5.heap.size, 2, none⟩ = some (.slice (some ⟨b, 0, none⟩) N.length d) ∧ w'.cell? ⟨w.heap.size, 0, none⟩ = some (.int .i64 f) ∧ w'.cell? ⟨w.heap.size, 1, none⟩ = some (.slice s1 O.length c1) ∧ w'.cell? ⟨w.heap.size, 2, none⟩ = some (.slice s2 N.length c2)) (simp [x0, x1, x2, y0, y1, y2])
    (first
      | (go_at_call 19; refine (toStream_own f s1 s2 c1 c2 O N 0 _ (hO.later cVal_keeps (bl_trans L (bl_drew (Below.refl _ _)))) (hN.later cVal_keeps (bl_trans L (bl_drew (Below.refl _ _)))) lO lN).mono ?_; rintro e wa ⟨⟨a3, e3, b3, d3, rfl, oA3, oB3, n3⟩, hba⟩; have hwa : Below w9.heap.size w9 wa := bl_trans (bl_drew (Below.refl _ _)) hba; obtain ⟨x0, x1, x2, x3⟩ := (KXH.out.later hwa).three'; obtain ⟨y0, y1, y2, y3⟩ := (KAH.out.later hwa).three')
      | (go_at_call 21; refine (eqStream_gen f _ _ _ _ _ _ _ _ O N _ _ wa ((OXo.later hwa).els okO) ((OXn.later hwa).els okN) (oA3.els okO) (oB3.els okN) lO lN).mono ?_; rintro e wb ⟨rfl, hbb⟩; have hwb : Below w9.heap.size w9 wb := bl_trans hwa hbb; obtain ⟨x0, x1, x2, x3⟩ := (KXH.out.later hwb).three'; obtain ⟨y0, y1, y2, y3⟩ := (KAH.out.later hwb).three'))
  replace L := bl_trans L hwb
  replace KA := KA.later hwb
  replace OW := OW.later hwb
  replace KW := KW.later hwb
  replace OXo := OXo.later hwb
  replace OXn := OXn.later hwb
  replace KX := KX.later hwb
  replace OG := OG.later hwb
  replace KG := KG.later hwb
  have sb := hwb.size
  clear hwa hwb hba hbb oA3 oB3 n3 KXH KAH
  clear x0 x1 x2 x3
  clear y0 y1 y2 y3
  obtain ⟨x0, x1, x2, x3⟩ := KX.three'
  go_wp2_with fail
  refine (markStream_one f P.heap.size (some ⟨a, 0, none⟩) (some ⟨b, 0, none⟩) c d O N _ OXo OXn (ap_of nab) (by omega) lO lN).mono ?_
  rintro e wc ⟨rfl, _, _, J⟩
  have kneg : decide (mk O.length N.length < 0) = false := by simp; exact mk_pos _ _
  have klt : ¬ mk O.length N.length < 0 := Int.not_lt.2 (mk_pos _ _)
  have sc := J.1.size
  replace L := L.trans (J.1.mono (by omega))
  replace KA := KA.same (J.1.block _ (by omega))
  replace KW := KW.same (J.1.block _ (by omega))
  replace KX := KX.same (J.2 _ (ne_own (by omega)) (ne_own (by omega)) KX.lt)
  replace KG := KG.same (J.2 _ (ne_own (by omega)) (ne_own (by omega)) KG.lt)
  replace OW := OW.sameS (fun hl => J.1.block _ (by omega))
  replace OG := OG.sameS (fun hl => J.2 _ (ne_own (by omega)) (ne_own (by omega)) hl)
  clear OXo OXn J
  clear x0 x1 x2 x3
  obtain ⟨x0, x1, x2, x3⟩ := KG.three'
  obtain ⟨y0, y1, y2, y3⟩ := KW.three'
  go_wp2_with fail
  refine (eqStream_gen (fb f O.length) (some ⟨gg, 0, none⟩) none (some ⟨gw, 0, none⟩) none cg 0 cw 0 N [] _ _ _ (OG.els okN) Els.nil (OW.els okN) Els.nil lN (by simp)).mono ?_
  rintro e wd ⟨rfl, hbd⟩
  replace L := bl_trans L hbd
  replace KA := KA.later hbd
  replace OW := OW.later hbd
  replace KW := KW.later hbd
  replace KX := KX.later hbd
  replace OG := OG.later hbd
  replace KG := KG.later hbd
  have sd := hbd.size
  clear hbd
  clear x0 x1 x2 x3
  clear y0 y1 y2 y3
  obtain ⟨x0, x1, x2, x3⟩ := KG.three'
  go_wp2_with fail
  refine (markStream_one (fb f O.length) Q.heap.size (some ⟨gg, 0, none⟩) none cg 0 N [] _ OG (World.ownsRow_nil _ _ _ _) (fun _ _ => by simp [Value.ownBlock]) (by omega) lN (by simp)).mono ?_
  rintro e we ⟨rfl, OG', _, J⟩
  have se := J.1.size
  replace L := L.trans (J.1.mono (by omega))
  replace KA := KA.same (J.1.block _ (by omega))
  replace KW := KW.same (J.1.block _ (by omega))
  replace KG := KG.same (J.2 _ (ne_own (by omega)) (by simp [Value.ownBlock]) KG.lt)
  replace OW := OW.sameS (fun hl => J.1.block _ (by omega))
  clear OG KX J
  have OG : OV we Q.heap.size (.slice (some ⟨gg, 0, none⟩) N.length cg) (mVs 1 N.length) := OG'
  clear OG'
  have e0 : mk N.length ([] : List V4).length = mk N.length 0 := rfl
  rw [e0]
  clear e0
  have hneg : decide (mk N.length 0 < 0) = false := by simp; exact mk_pos _ _
  have hneg' : ¬ mk N.length 0 < 0 := Int.not_lt.2 (mk_pos _ _)
  clear x0 x1 x2 x3
  obtain ⟨x0, x1, x2, x3⟩ := KG.three'
  go_wp2_with fail
  refine (heldStream_one (fb f O.length) Q.heap.size (some ⟨gg, 0, none⟩) none N.length 0 cg 0 _ OG (World.ownsRow_nil _ _ _ _) lN (by simp)).mono ?_
  rintro e wf ⟨rfl, hbf⟩
  replace L := bl_trans L hbf
  replace KA := KA.later hbf
  replace OW := OW.later hbf
  replace KW := KW.later hbf
  replace OG := OG.later hbf
  replace KG := KG.later hbf
  have sf := hbf.size
  clear hbf
  clear x0 x1 x2 x3
  obtain ⟨x0, x1, x2, x3⟩ := KA.three'
  go_wp2_with fail
  refine (toStream_own f s1 s2 c1 c2 O N 0 _ (hO.later cVal_keeps L) (hN.later cVal_keeps L) lO lN).mono ?_
  rintro e wg ⟨⟨a4, e4, b4, d4, rfl, oA4, oB4, n4⟩, hbg⟩
  replace L := bl_trans L hbg
  replace KA := KA.later hbg
  replace OW := OW.later hbg
  replace KW := KW.later hbg
  replace OG := OG.later hbg
  replace KG := KG.later hbg
  clear hbg
  clear x0 x1 x2 x3
  go_wp2_with fail
  refine (implTurn_any f _ b4 0 O.length e4 d4 N _ _ (oB4.els okN) lO lN).mono ?_
  rintro e wh ⟨gh, ch, rfl, OH, _, hbh⟩
  replace L := bl_trans L hbh
  replace KA := KA.later hbh
  replace OW := OW.later hbh
  replace KW := KW.later hbh
  replace OG := OG.later hbh
  replace KG := KG.later hbh
  clear hbh oA4 oB4 n4
  have hB : Below wh.heap.size wh (wh.alloc (.cells #[.int .i64 (fb f O.length), .slice (some ⟨gh, 0, none⟩) N.length ch, .slice none 0 0] 26)) := bl_alloc (Below.refl _ _) _
  have sz : (wh.alloc (.cells #[.int .i64 (fb f O.length), .slice (some ⟨gh, 0, none⟩) N.length ch, .slice none 0 0] 26)).heap.size = wh.heap.size + 1 := by simp
  replace L := bl_trans L hB
  replace KA := KA.later hB
  replace OW := OW.later hB
  replace KW := KW.later hB
  replace OG := OG.later hB
  replace KG := KG.later hB
  replace OH := OH.later hB
  have KH := Blk.new wh #[.int .i64 (fb f O.length), .slice (some ⟨gh, 0, none⟩) N.length ch, .slice none 0 0] 26
  obtain ⟨x0, x1, x2, x3⟩ := KH.three'
  obtain ⟨y0, y1, y2, y3⟩ := KW.three'
  go_wp2_with fail
  generalize hX : wh.alloc (.cells #[.int .i64 (fb f O.length), .slice (some ⟨gh, 0, none⟩) N.length ch, .slice none 0 0] 26) = S at sz L KA OW KW OG KG OH KH x0 x1 x2 x3 y0 y1 y2 y3 ⊢
  clear hX hB
  have sS := sz
  clear sz
  clear sS
  refine (eqStream_gen (fb f O.length) (some ⟨gh, 0, none⟩) none (some ⟨gw, 0, none⟩) none ch 0 cw 0 N [] _ _ _ (OH.els okN) Els.nil (OW.els okN) Els.nil lN (by simp)).mono ?_
  rintro e wi ⟨rfl, hbi⟩
  replace L := bl_trans L hbi
  replace KA := KA.later hbi
  replace OW := OW.later hbi
  replace KW := KW.later hbi
  replace OG := OG.later hbi
  replace KG := KG.later hbi
  replace OH := OH.later hbi
  replace KH := KH.later hbi
  clear hbi
  clear x0 x1 x2 x3
  clear y0 y1 y2 y3
  obtain ⟨x0, x1, x2, x3⟩ := KG.three'
  go_wp2_with fail
  refine (heldStream_one (fb f O.length) Q.heap.size (some ⟨gg, 0, none⟩) none N.length 0 cg 0 _ OG (World.ownsRow_nil _ _ _ _) lN (by simp)).mono ?_
  rintro e wj ⟨rfl, hbj⟩
  go_wp2_with fail
  go_ret
  exact ⟨rfl, bl_trans L hbj⟩

end Go.Proofs.Ytgiclehfhjjalaa
