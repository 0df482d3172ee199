import Derived.Test.YtgiclehfhjjalaaRf
import Derived.Deep.RegionHeld3
namespace Go.Proofs.Ytgiclehfhjjalaa
open Go.RowKit
set_option linter.unusedVariables false
set_option linter.unusedSimpArgs false

set_option maxHeartbeats 4000000 in
theorem eqValS_big (s t : Option Addr) (c d : Nat) (L : List V4) (B C : Nat) (w : World) (hs : Els 4 cVal w B s L) (ht : Els 4 cVal w C t L) (hl : L.length ≤ 4194304) :
    Calls Try.prog 27 #[.slice s L.length c, .slice t L.length d] w fun e w' => e = .returned (.bool true) ∧ Below w.heap.size w w' := by
  have hal := alloc_old
  have haf := alloc_oldf
  go_enter Try.func27, Try.ntmps27
  go_wp2_with fail
  go_loopw [5] (fun i wr => ∃ k : Nat, k ≤ L.length ∧ i = .int .i64 k ∧ Below w.heap.size w wr) (fun i _ => L.length - (intOf i).toNat)
  case atStart => exact ⟨0, Nat.zero_le _, rfl, Below.refl _ _⟩
  case round =>
    obtain ⟨k, hk, rfl, hb⟩ := hrel
    by_cases hlt : k < L.length
    · obtain ⟨a, ha⟩ := get_some hlt
      obtain ⟨b, o, rfl, _, hp, hok, e1, e2, e3, e4⟩ := eVal_cells (hs.later cVal_keeps hb) ha
      obtain ⟨b', o', rfl, _, hp', _, f1, f2, f3, f4⟩ := eVal_cells (ht.later cVal_keeps hb) ha
      obtain ⟨p1, p2, p3, p4⟩ := a
      have HX : Hid (p3 < 18446744073709551616) := hok.2.1
      have HY : Hid (p4 < 18446744073709551616) := hok.2.2
      clear hs ht ha hok
      go_wp2_with fail
      go_region_with (first
        | (go_at_call 48; refine (eqVal_any p1 p2 p3 p4 p1 p2 p3 p4 _ HX.out HY.out HX.out HY.out).mono ?_; rintro e w2 ⟨rfl, hb2⟩; rw [eqB_self]))
      all_goals
        go_wp2_with fail
        go_roundw
        case rel =>
          refine ⟨k + 1, by omega, by go_num, ?_⟩
          (repeat (first | with_reducible exact Below.refl _ _ | with_reducible refine bl_alloc ?_ _ | with_reducible refine bl_drewN ?_ _ | with_reducible refine bl_drew ?_ | with_reducible refine bl_setCell ?_ (by first | exact Nat.le_refl _ | (dsimp only; omega) | (simp <;> omega)) _ | with_reducible refine bl_trans ?_ (by with_reducible assumption)))
        case measure => simp [intOf]; omega
    · go_wp2_with fail
      go_ret
      exact ⟨rfl, hb⟩

set_option maxHeartbeats 2000000 in
theorem markValS_big (B g cap : Nat) (L : List V4) (k : Int) (w : World) (h : VR w B g L.length cap L) (hl : L.length ≤ 4194304) (h0 : 0 ≤ k) (h1 : k ≤ 100000000) :
    Calls Try.prog 28 #[.slice (some ⟨g, 0, none⟩) L.length cap, .int .i64 k] w fun e w' => e = .returned (.int .i64 (k + 4 * (L.length : Int))) ∧ VR w' B g L.length cap (mVs k L.length) ∧ Only g w w' := by
  go_enter Try.func28, Try.ntmps28
  go_wp2_with fail
  go_loopw [1, 5] (fun x i wr => ∃ m : Nat, m ≤ L.length ∧ i = .int .i64 m ∧ x = .int .i64 (k + 4 * (m : Int)) ∧ Hid (VR wr B g L.length cap (mVs k m ++ L.drop m)) ∧ Hid (Only g w wr)) (fun _ i _ => L.length - (intOf i).toNat)
  case atStart => exact ⟨0, Nat.zero_le _, rfl, by simp, by simpa [mVs, Hid] using h, Only.refl _ _⟩
  case round =>
    obtain ⟨m, hm, rfl, rfl, hrow, hon⟩ := hrel
    by_cases hlt : m < L.length
    · obtain ⟨p, hp⟩ := get_some hlt
      have ed : L.drop m = p :: L.drop (m + 1) := by rw [List.drop_eq_getElem_cons hlt]; congr 1; simpa [hlt] using hp
      have hr := hrow.out
      rw [ed] at hr
      obtain ⟨c0, c1, c2, c3, fz⟩ := hr.cells (j := m) (a := p) (by simp [mVs_len]; omega) (by rw [List.getElem?_append_right (by simp [mVs_len])]; simp [mVs_len])
      have hput := hr.put (q := mV1 (k + 4 * (m : Int)))
      rw [mVs_len] at hput
      have e3 : mVs k m ++ mV1 (k + 4 * (m : Int)) :: L.drop (m + 1) = mVs k (m + 1) ++ L.drop (m + 1) := by rw [mVs_succ]; simp
      rw [e3] at hput
      have HP : Hid (VR ((((wr.setCell ⟨g, m * 4, none⟩ (.int .i64 (k + 4 * (m : Int)))).setCell ⟨g, m * 4 + 1, none⟩ (.int .i64 (k + 4 * (m : Int) + 1))).setCell ⟨g, m * 4 + 2, none⟩ (.float .f64 (floatOfInt .f64 (k + 4 * (m : Int) + 1 + 1)))).setCell ⟨g, m * 4 + 3, none⟩ (.float .f64 (floatOfInt .f64 (k + 4 * (m : Int) + 1 + 1 + 1)))) B g L.length cap (mVs k (m + 1) ++ L.drop (m + 1))) := hput
      have HO : Hid (Only g w ((((wr.setCell ⟨g, m * 4, none⟩ (.int .i64 (k + 4 * (m : Int)))).setCell ⟨g, m * 4 + 1, none⟩ (.int .i64 (k + 4 * (m : Int) + 1))).setCell ⟨g, m * 4 + 2, none⟩ (.float .f64 (floatOfInt .f64 (k + 4 * (m : Int) + 1 + 1)))).setCell ⟨g, m * 4 + 3, none⟩ (.float .f64 (floatOfInt .f64 (k + 4 * (m : Int) + 1 + 1 + 1))))) := (((hon.out.set _ _).set _ _).set _ _).set _ _
      clear hput hr hrow hon ed e3 hp h
      go_wp2_with fail
      refine ⟨⟨m + 1, by omega, by go_num, ?_, HP, HO⟩, by simp [intOf]; omega⟩
      congr 1; simp; omega
    · have hm' : m = L.length := by omega
      subst hm'
      have hr := hrow.out
      simp at hr
      go_wp2_with fail
      go_ret
      exact ⟨rfl, hr, hon.out⟩

/-- marks in an own list. -/
theorem markV_big (B : Nat) (s : Option Addr) (c : Nat) (L : List V4) (k : Int) (w : World) (h : OV w B (.slice s L.length c) L) (hl : L.length ≤ 4194304) (h0 : 0 ≤ k) (h1 : k ≤ 100000000) :
    Calls Try.prog 28 #[.slice s L.length c, .int .i64 k] w fun e w' => e = .returned (.int .i64 (k + 4 * (L.length : Int))) ∧ OV w' B (.slice s L.length c) (mVs k L.length) ∧ Just (.slice s L.length c) B w w' := by
  rcases h.form with ⟨h2, rfl⟩ | ⟨g, cap, h2, hg, hr⟩
  · simp only [Value.slice.injEq] at h2
    obtain ⟨rfl, _, rfl⟩ := h2
    refine (markVals_nil k w).mono fun e w' ⟨he, hw⟩ => ?_
    subst he hw
    exact ⟨by simp, World.ownsRow_nil _ _ _ _, Just.refl _ _ _⟩
  · simp only [Value.slice.injEq] at h2
    obtain ⟨rfl, _, rfl⟩ := h2
    refine (markValS_big B g c L k w hr hl h0 h1).mono fun e w' ⟨he, hv, ho⟩ => ?_
    subst he
    refine ⟨rfl, ?_, ho.2.2.1 w B hg (Below.refl _ _), fun j hj hl => ho.2.2.2 j (fun e => hj (by rw [e]; rfl)) hl⟩
    unfold OV
    rw [mVs_len]
    exact hv
theorem markV_one (B : Nat) (s : Option Addr) (c : Nat) (L : List V4) (w : World) (h : OV w B (.slice s L.length c) L) (hl : L.length ≤ 4194304) :
    Calls Try.prog 28 #[.slice s L.length c, .int .i64 1] w fun e w' => e = .returned (.int .i64 (mk L.length 0)) ∧ OV w' B (.slice s L.length c) (mVs 1 L.length) ∧ Just (.slice s L.length c) B w w' :=
  (markV_big B s c L 1 w h hl (by omega) (by omega)).mono fun e w' ⟨h1, h2, h3⟩ => ⟨by rw [h1]; simp [mk], h2, h3⟩
theorem heldV_one (B : Nat) (s : Option Addr) (n c : Nat) (w : World) (h : OV w B (.slice s n c) (mVs 1 n)) (hl : n ≤ 4194304) :
    Calls Try.prog 29 #[.slice s n c, .int .i64 1] w fun e w' => e = .returned (.int .i64 (mk n 0)) ∧ w' = w :=
  (heldV_any B s n c 1 w h (by omega) (by omega)).mono fun e w' ⟨h1, h2⟩ => ⟨by rw [h1]; simp [mk], h2⟩

set_option maxRecDepth 100000 in
set_option maxHeartbeats 4000000 in
theorem exactUnread_any (f : Int) (s1 s2 : Option Addr) (c1 c2 : Nat) (O N : List V4) (cur : Int) (w : World) (bf : -9223372036854775808 ≤ f ∧ f ≤ 9223372036854775807) (hO : Els 4 cVal w 0 s1 O) (hN : Els 4 cVal w 0 s2 N) (mO : O.length ≤ 9223372036854775807) (mN : N.length ≤ 9223372036854775807) (bc : -9223372036854775808 ≤ cur ∧ cur ≤ 9223372036854775807) :
    Calls Try.prog 8 #[.agg #[.int .i64 f, .slice s1 O.length c1, .slice s2 N.length c2], .int .i64 cur] w fun e w' => e = .returned (.bool true) ∧ Below w.heap.size w w' := by
  have hal := alloc_old
  have haf := alloc_oldf
  have okO := els_ok hO
  have okN := els_ok hN
  have L : Below w.heap.size w (w.alloc (.cells #[.int .i64 f, .slice s1 O.length c1, .slice s2 N.length c2] 41)) := bl_alloc (Below.refl _ _) _
  have KA := Blk.new w #[.int .i64 f, .slice s1 O.length c1, .slice s2 N.length c2] 41
  obtain ⟨x0, x1, x2, x3⟩ := KA.three'
  go_enter Try.func8, Try.ntmps8
  go_wp2_with fail
  refine (szStream_gen f s1 s2 O.length N.length c1 c2 1048576 _ (by omega) (by omega) mO mN).mono ?_
  rintro e w1 ⟨⟨r, rfl, hr⟩, hb1⟩
  replace L := bl_trans L hb1
  replace KA := KA.later hb1
  clear x0 x1 x2 x3
  clear hb1
  rcases hr with rfl | ⟨r0, r1, lO, lN⟩
  · go_wp2_with fail
    go_ret
    exact ⟨rfl, L⟩
  have t2 : decide (r < 0) = false := by simp; omega
  have tr : ¬ r < 0 := by omega
  clear mO mN
  obtain ⟨U, hU⟩ : ∃ U : List V4, Hid (U = unL cur f O N) := ⟨_, rfl⟩
  have okU : ∀ v ∈ U, okV v := by
    intro v hv
    rw [hU.out] at hv
    unfold unL at hv
    split at hv
    · exact (List.mem_append.1 (List.mem_of_mem_drop hv)).elim (okO v) (okN v)
    · simp at hv
  have lU : U.length ≤ 4194304 := by
    rw [hU.out]; unfold unL
    split
    · simp; omega
    · simp
  obtain ⟨nx, hnx⟩ : ∃ nx, Hid (nx = unN f O N) := ⟨_, rfl⟩
  obtain ⟨ms, hms⟩ : ∃ ms, Hid (ms = unM cur f) := ⟨_, rfl⟩
  obtain ⟨x0, x1, x2, x3⟩ := KA.three'
  go_wp2_with fail
  refine (toStream_own f s1 s2 c1 c2 O N 0 _ (hO.later cVal_keeps L) (hN.later cVal_keeps L) lO lN).mono ?_
  rintro e w2 ⟨⟨a2, e2, b2, d2, rfl, oA2, oB2, n2⟩, hb2⟩
  replace L := bl_trans L hb2
  replace KA := KA.later hb2
  clear x0 x1 x2 x3
  go_wp2_with fail
  refine (specUnread_any cur f a2 0 b2 0 e2 d2 O N _ _ (oA2.els okO) (oB2.els okN) lO lN bc).mono ?_
  rintro e w3 ⟨vw, rfl, OW, hb3⟩
  rw [← hU.out] at OW
  rw [← hnx.out, ← hms.out]
  obtain ⟨sw, cw, rfl⟩ := OW.shape
  replace L := bl_trans L hb3
  replace KA := KA.later hb3
  clear oA2 oB2 hb2 hb3 n2
  have owl : ∀ g, (Value.slice sw U.length cw).ownBlock = some g → g < w3.heap.size := fun g hg => (OW.lt g hg).2
  have ltP := KA.lt
  obtain ⟨x0, x1, x2, x3⟩ := KA.three'
  go_wp2_with fail
  refine (toStream_own f s1 s2 c1 c2 O N 0 _ (hO.later cVal_keeps L) (hN.later cVal_keeps L) lO lN).mono ?_
  rintro e w5 ⟨⟨a, c, b, d, rfl, OXo, OXn, nab⟩, hb5⟩
  replace L := bl_trans L hb5
  replace KA := KA.later hb5
  replace OW := OW.later hb5
  clear x0 x1 x2 x3
  have pa := OXo.lt a rfl
  have pb := OXn.lt b rfl
  have s5 := hb5.size
  clear hb5
  have hB : Below w5.heap.size w5 (w5.alloc (.cells #[.int .i64 f, .slice (some ⟨a, 0, none⟩) O.length c, .slice (some ⟨b, 0, none⟩) N.length d] 26)) := bl_alloc (Below.refl _ _) _
  have sz : (w5.alloc (.cells #[.int .i64 f, .slice (some ⟨a, 0, none⟩) O.length c, .slice (some ⟨b, 0, none⟩) N.length d] 26)).heap.size = w5.heap.size + 1 := by simp
  replace L := bl_trans L hB
  replace KA := KA.later hB
  replace OW := OW.later hB
  replace OXo := OXo.later hB
  replace OXn := OXn.later hB
  have KX := Blk.new w5 #[.int .i64 f, .slice (some ⟨a, 0, none⟩) O.length c, .slice (some ⟨b, 0, none⟩) N.length d] 26
  obtain ⟨x0, x1, x2, x3⟩ := KX.three'
  go_wp2_with fail
  generalize hX : w5.alloc (.cells #[.int .i64 f, .slice (some ⟨a, 0, none⟩) O.length c, .slice (some ⟨b, 0, none⟩) N.length d] 26) = Q at sz L KA OW OXo OXn KX x0 x1 x2 x3 ⊢
  clear hX hB
  have sQ := sz
  clear sz
  refine (implUnread_any cur f _ _ c d O N _ _ (OXo.els okO) (OXn.els okN) lO lN bc).mono ?_
  rintro e w7 ⟨vg, rfl, OG, hb7⟩
  rw [← hU.out] at OG
  rw [← hnx.out, ← hms.out]
  obtain ⟨sg, cg, rfl⟩ := OG.shape
  have s7 := hb7.size
  replace L := bl_trans L hb7
  replace KA := KA.later hb7
  replace OW := OW.later hb7
  replace OXo := OXo.later hb7
  replace OXn := OXn.later hb7
  replace KX := KX.later hb7
  clear x0 x1 x2 x3
  clear hb7
  have ogl : ∀ g, (Value.slice sg U.length cg).ownBlock = some g → Q.heap.size ≤ g := fun g hg => (OG.lt g hg).1
  go_wp2_with fail
  refine (eqValS_big sg sw cg cw U _ _ _ (OG.els okU) (OW.els okU) lU).mono ?_
  rintro e w9 ⟨rfl, hb9⟩
  replace L := bl_trans L hb9
  replace KA := KA.later hb9
  replace OW := OW.later hb9
  replace OXo := OXo.later hb9
  replace OXn := OXn.later hb9
  replace KX := KX.later hb9
  replace OG := OG.later hb9
  have s9 := hb9.size
  clear hb9
  obtain ⟨x0, x1, x2, x3⟩ := KX.three'
  obtain ⟨y0, y1, y2, y3⟩ := KA.three'
  have KXH : Hid (Blk w9 w5.heap.size #[.int .i64 f, .slice (some ⟨a, 0, none⟩) O.length c, .slice (some ⟨b, 0, none⟩) N.length d] 26) := KX
  have KAH : Hid (Blk w9 w.heap.size #[.int .i64 f, .slice s1 O.length c1, .slice s2 N.length c2] 41) := KA
  go_wp2_with fail
  go_region_held3 (fun w' => w'.cell? ⟨w5.heap.size, 0, none⟩ = some (.int .i64 f) ∧ w'.cell? ⟨w5.heap.size, 1, none⟩ = some (.slice (some ⟨a, 0, none⟩) O.length c) ∧ w'.cell? ⟨w5.heap.size, 2, none⟩ = some (.slice (some ⟨b, 0, none⟩) N.length d) ∧ w'.cell? ⟨w.heap.size, 0, none⟩ = some (.int .i64 f) ∧ w'.cell? ⟨w.heap.size, 1, none⟩ = some (.slice s1 O.length c1) ∧ w'.cell? ⟨w.heap.size, 2, none⟩ = some (.slice s2 N.length c2)) (simp [x0, x1, x2, y0, y1, y2])
    (first
      | (go_at_call 19; refine (toStream_own f s1 s2 c1 c2 O N 0 _ (hO.later cVal_keeps (bl_trans L (bl_drew (Below.refl _ _)))) (hN.later cVal_keeps (bl_trans L (bl_drew (Below.refl _ _)))) lO lN).mono ?_; rintro e wa ⟨⟨a3, e3, b3, d3, rfl, oA3, oB3, n3⟩, hba⟩; have hwa : Below w9.heap.size w9 wa := bl_trans (bl_drew (Below.refl _ _)) hba; obtain ⟨x0, x1, x2, x3⟩ := (KXH.out.later hwa).three'; obtain ⟨y0, y1, y2, y3⟩ := (KAH.out.later hwa).three')
      | (go_at_call 21; refine (eqStream_gen f _ _ _ _ _ _ _ _ O N _ _ wa ((OXo.later hwa).els okO) ((OXn.later hwa).els okN) (oA3.els okO) (oB3.els okN) lO lN).mono ?_; rintro e wb ⟨rfl, hbb⟩; have hwb : Below w9.heap.size w9 wb := bl_trans hwa hbb; obtain ⟨x0, x1, x2, x3⟩ := (KXH.out.later hwb).three'; obtain ⟨y0, y1, y2, y3⟩ := (KAH.out.later hwb).three'))
  replace L := bl_trans L hwb
  replace KA := KA.later hwb
  replace OW := OW.later hwb
  replace OXo := OXo.later hwb
  replace OXn := OXn.later hwb
  replace KX := KX.later hwb
  replace OG := OG.later hwb
  have sb := hwb.size
  clear hwa hwb hba hbb oA3 oB3 n3 KXH KAH
  clear x0 x1 x2 x3
  clear y0 y1 y2 y3
  obtain ⟨x0, x1, x2, x3⟩ := KX.three'
  go_wp2_with fail
  refine (markStream_one f w3.heap.size (some ⟨a, 0, none⟩) (some ⟨b, 0, none⟩) c d O N _ OXo OXn (ap_of nab) (by omega) lO lN).mono ?_
  rintro e wc ⟨rfl, _, _, J⟩
  have kneg : decide (mk O.length N.length < 0) = false := by simp; exact mk_pos _ _
  have klt : ¬ mk O.length N.length < 0 := Int.not_lt.2 (mk_pos _ _)
  have sc := J.1.size
  replace L := L.trans (J.1.mono (by omega))
  replace KA := KA.same (J.1.block _ (by omega))
  replace OW := OW.same (fun g hg hl => J.1.block _ (owl g hg))
  replace OG := OG.same (fun g hg hl => J.2 _ (ne_own (by have := ogl g hg; omega)) (ne_own (by have := ogl g hg; omega)) hl)
  clear OXo OXn J KX
  clear x0 x1 x2 x3
  go_wp2_with fail
  refine (eqValS_big sg sw cg cw U _ _ _ (OG.els okU) (OW.els okU) lU).mono ?_
  rintro e wd ⟨rfl, hbd⟩
  replace L := bl_trans L hbd
  replace KA := KA.later hbd
  replace OW := OW.later hbd
  replace OG := OG.later hbd
  have sd := hbd.size
  clear hbd
  go_wp2_with fail
  refine (markV_one Q.heap.size sg cg U _ OG lU).mono ?_
  rintro e we ⟨rfl, OG', J⟩
  have se := J.1.size
  replace L := L.trans (J.1.mono (by omega))
  replace KA := KA.same (J.1.block _ (by omega))
  replace OW := OW.same (fun g hg hl => J.1.block _ (by have := owl g hg; omega))
  clear OG J
  have OG : OV we Q.heap.size (.slice sg U.length cg) (mVs 1 U.length) := OG'
  clear OG'
  have hneg : decide (mk U.length 0 < 0) = false := by simp; exact mk_pos _ _
  have hneg' : ¬ mk U.length 0 < 0 := Int.not_lt.2 (mk_pos _ _)
  go_wp2_with fail
  refine (heldV_one Q.heap.size sg U.length cg _ OG lU).mono ?_
  rintro e wf ⟨rfl, rfl⟩
  obtain ⟨x0, x1, x2, x3⟩ := KA.three'
  go_wp2_with fail
  refine (toStream_own f s1 s2 c1 c2 O N 0 _ (hO.later cVal_keeps L) (hN.later cVal_keeps L) lO lN).mono ?_
  rintro e wg ⟨⟨a4, e4, b4, d4, rfl, oA4, oB4, n4⟩, hbg⟩
  replace L := bl_trans L hbg
  replace KA := KA.later hbg
  replace OW := OW.later hbg
  replace OG := OG.later hbg
  clear hbg
  clear x0 x1 x2 x3
  go_wp2_with fail
  refine (implUnread_any cur f _ _ e4 d4 O N _ _ (oA4.els okO) (oB4.els okN) lO lN bc).mono ?_
  rintro e wh ⟨vh, rfl, OH, hbh⟩
  rw [← hU.out] at OH
  rw [← hnx.out, ← hms.out]
  obtain ⟨sh, ch, rfl⟩ := OH.shape
  replace L := bl_trans L hbh
  replace KA := KA.later hbh
  replace OW := OW.later hbh
  replace OG := OG.later hbh
  clear hbh oA4 oB4 n4
  go_wp2_with fail
  refine (eqValS_big sh sw ch cw U _ _ _ (OH.els okU) (OW.els okU) lU).mono ?_
  rintro e wi ⟨rfl, hbi⟩
  replace L := bl_trans L hbi
  replace KA := KA.later hbi
  replace OW := OW.later hbi
  replace OG := OG.later hbi
  replace OH := OH.later hbi
  clear hbi
  go_wp2_with fail
  refine (heldV_one Q.heap.size sg U.length cg _ OG lU).mono ?_
  rintro e wj ⟨rfl, rfl⟩
  go_wp2_with fail
  go_ret
  exact ⟨rfl, L⟩

end Go.Proofs.Ytgiclehfhjjalaa
