import Derived.Test.YtgiclehfhjjalaaRc
import Derived.Deep.RegionHeld3
namespace Go.Proofs.Ytgiclehfhjjalaa
open Go.RowKit
set_option linter.unusedVariables false
set_option linter.unusedSimpArgs false

set_option maxRecDepth 100000 in
set_option maxHeartbeats 4000000 in
theorem exactStreamOk_any (k : Int) (f : Int) (s1 s2 : Option Addr) (c1 c2 : Nat) (O N : List V4) (w : World) (bk : -9223372036854775808 ≤ k ∧ k ≤ 9223372036854775807) (bf : -9223372036854775808 ≤ f ∧ f ≤ 9223372036854775807) (hO : Els 4 cVal w 0 s1 O) (hN : Els 4 cVal w 0 s2 N) (mO : O.length ≤ 9223372036854775807) (mN : N.length ≤ 9223372036854775807) :
    Calls Try.prog 5 #[.int .i64 k, .agg #[.int .i64 f, .slice s1 O.length c1, .slice s2 N.length c2]] w fun e w' => e = .returned (.bool true) ∧ Below w.heap.size w w' := by
  have hal := alloc_old
  have haf := alloc_oldf
  have okO := els_ok hO
  have okN := els_ok hN
  have L : Below w.heap.size w (w.alloc (.cells #[.int .i64 f, .slice s1 O.length c1, .slice s2 N.length c2] 41)) := bl_alloc (Below.refl _ _) _
  have KA := Blk.new w #[.int .i64 f, .slice s1 O.length c1, .slice s2 N.length c2] 41
  obtain ⟨x0, x1, x2, x3⟩ := KA.three'
  go_enter Try.func5, Try.ntmps5
  go_wp2_with fail
  refine (szStream_gen f s1 s2 O.length N.length c1 c2 1048576 _ (by omega) (by omega) mO mN).mono ?_
  rintro e w1 ⟨⟨r, rfl, hr⟩, hb1⟩
  replace L := bl_trans L hb1
  replace KA := KA.later hb1
  clear x0 x1 x2 x3
  clear hb1
  rcases hr with rfl | ⟨r0, r1, lO, lN⟩
  · go_wp2_with fail
    go_ret
    exact ⟨rfl, L⟩
  have t2 : decide (r < 0) = false := by simp; omega
  have tr : ¬ r < 0 := by omega
  clear mO mN
  obtain ⟨x0, x1, x2, x3⟩ := KA.three'
  go_wp2_with fail
  refine (toStream_own f s1 s2 c1 c2 O N 0 _ (hO.later cVal_keeps L) (hN.later cVal_keeps L) lO lN).mono ?_
  rintro e w2 ⟨⟨a2, e2, b2, d2, rfl, oA2, oB2, n2⟩, hb2⟩
  replace L := bl_trans L hb2
  replace KA := KA.later hb2
  clear x0 x1 x2 x3
  go_wp2_with fail
  refine (specStreamOk_any k f _ _ e2 d2 O N _ _ (oA2.els okO) (oB2.els okN) lO lN).mono ?_
  rintro e w3 ⟨rfl, hb3⟩
  replace L := bl_trans L hb3
  replace KA := KA.later hb3
  clear oA2 oB2 hb2 hb3 n2
  obtain ⟨x0, x1, x2, x3⟩ := KA.three'
  go_wp2_with fail
  refine (toStream_own f s1 s2 c1 c2 O N 0 _ (hO.later cVal_keeps L) (hN.later cVal_keeps L) lO lN).mono ?_
  rintro e w5 ⟨⟨a, c, b, d, rfl, OXo, OXn, nab⟩, hb5⟩
  replace L := bl_trans L hb5
  replace KA := KA.later hb5
  clear x0 x1 x2 x3
  clear hb5
  have hB : Below w5.heap.size w5 (w5.alloc (.cells #[.int .i64 f, .slice (some ⟨a, 0, none⟩) O.length c, .slice (some ⟨b, 0, none⟩) N.length d] 26)) := bl_alloc (Below.refl _ _) _
  have sz : (w5.alloc (.cells #[.int .i64 f, .slice (some ⟨a, 0, none⟩) O.length c, .slice (some ⟨b, 0, none⟩) N.length d] 26)).heap.size = w5.heap.size + 1 := by simp
  replace L := bl_trans L hB
  replace KA := KA.later hB
  replace OXo := OXo.later hB
  replace OXn := OXn.later hB
  have KX := Blk.new w5 #[.int .i64 f, .slice (some ⟨a, 0, none⟩) O.length c, .slice (some ⟨b, 0, none⟩) N.length d] 26
  obtain ⟨x0, x1, x2, x3⟩ := KX.three'
  go_wp2_with fail
  generalize hX : w5.alloc (.cells #[.int .i64 f, .slice (some ⟨a, 0, none⟩) O.length c, .slice (some ⟨b, 0, none⟩) N.length d] 26) = Q at sz L KA OXo OXn KX x0 x1 x2 x3 ⊢
  clear hX hB
  have sQ := sz
  clear sz
  refine (implStreamOk_any k f _ _ c d O N _ _ (OXo.els okO) (OXn.els okN) lO lN).mono ?_
  rintro e w9 ⟨rfl, hb7⟩
  replace L := bl_trans L hb7
  replace KA := KA.later hb7
  replace OXo := OXo.later hb7
  replace OXn := OXn.later hb7
  replace KX := KX.later hb7
  clear x0 x1 x2 x3
  clear hb7
  obtain ⟨x0, x1, x2, x3⟩ := KX.three'
  obtain ⟨y0, y1, y2, y3⟩ := KA.three'
  have KXH : Hid (Blk w9 w5.heap.size #[.int .i64 f, .slice (some ⟨a, 0, none⟩) O.length c, .slice (some ⟨b, 0, none⟩) N.length d] 26) := KX
  have KAH : Hid (Blk w9 w.heap.size #[.int .i64 f, .slice s1 O.length c1, .slice s2 N.length c2] 41) := KA
  go_wp2_with fail
  go_region_held3 (fun w' => w'.cell? ⟨w5.heap.size, 0, none⟩ = some (.int .i64 f) ∧ w'.cell? ⟨w5.heap.size, 1, none⟩ = some (.slice (some ⟨a, 0, none⟩) O.length c) ∧ w'.cell? ⟨w5.heap.size, 2, none⟩ = some (.slice (some ⟨b, 0, none⟩) N.length d) ∧ w'.cell? ⟨w.heap.size, 0, none⟩ = some (.int .i64 f) ∧ w'.cell? ⟨w.heap.size, 1, none⟩ = some (.slice s1 O.length c1) ∧ w'.cell? ⟨w.heap.size, 2, none⟩ = some (.slice s2 N.length c2)) (simp [x0, x1, x2, y0, y1, y2])
    (first
      | (go_at_call 19; refine (toStream_own f s1 s2 c1 c2 O N 0 _ (hO.later cVal_keeps (bl_trans L (bl_drew (Below.refl _ _)))) (hN.later cVal_keeps (bl_trans L (bl_drew (Below.refl _ _)))) lO lN).mono ?_; rintro e wa ⟨⟨a3, e3, b3, d3, rfl, oA3, oB3, n3⟩, hba⟩; have hwa : Below w9.heap.size w9 wa := bl_trans (bl_drew (Below.refl _ _)) hba; obtain ⟨x0, x1, x2, x3⟩ := (KXH.out.later hwa).three'; obtain ⟨y0, y1, y2, y3⟩ := (KAH.out.later hwa).three')
      | (go_at_call 21; refine (eqStream_gen f _ _ _ _ _ _ _ _ O N _ _ wa ((OXo.later hwa).els okO) ((OXn.later hwa).els okN) (oA3.els okO) (oB3.els okN) lO lN).mono ?_; rintro e wb ⟨rfl, hbb⟩; have hwb : Below w9.heap.size w9 wb := bl_trans hwa hbb; obtain ⟨x0, x1, x2, x3⟩ := (KXH.out.later hwb).three'; obtain ⟨y0, y1, y2, y3⟩ := (KAH.out.later hwb).three'))
  go_wp2_with fail
  go_ret
  exact ⟨rfl, bl_trans L hwb⟩

end Go.Proofs.Ytgiclehfhjjalaa
