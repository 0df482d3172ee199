import Derived.Test.YtkihhadcoclnaaaGreatSl25
namespace Go.Proofs.YtkihhadcoclnaaaGreat
open Go.RowKit
set_option linter.unusedVariables false
set_option linter.unusedSimpArgs false
set_option maxRecDepth 100000
set_option maxHeartbeats 4000000 in
theorem heldVV_o (s : Option Addr) (c : Nat) (C : List (List V4)) (B : Nat) (k : Int) (w : World) (h : Els 1 cVals w B s (wC k C)) (hk : kLL C) (k0 : 0 ≤ k) (k1 : k + cC C ≤ 9000000000000000000) :
  Calls Tryz.prog 99 #[.slice s C.length c, .int .i64 k] w fun e w' => e = .returned (.int .i64 (k + cC C)) ∧ w' = w := by
 obtain ⟨hl, hls⟩ := hk
 have HLS := Hid.mk' hls
 have K1 := Hid.mk' k1
 have H := Hid.mk' h
 clear hls k1 h
 go_enter Tryz.func99, Tryz.ntmps99
 go_wp2_with fail
 go_loopw [1, 5] (fun x i wr => ∃ (m : Nat) (q : Int), m ≤ C.length ∧ i = .int .i64 m ∧ x = .int .i64 q ∧ Hid (q = k + cC (C.take m)) ∧ wr = w) (fun _ i _ => C.length - (intOf i).toNat)
 case atStart => exact ⟨0, k, Nat.zero_le _, rfl, rfl, by show _ = _; simp [cC], rfl⟩
 case round =>
  obtain ⟨m, q, hm, rfl, rfl, hq, rfl⟩ := hrel
  by_cases hlt : m < C.length
  ·
   obtain ⟨L, hL⟩ := get_some hlt
   obtain ⟨b, o, rfl, _, hp, s', c', e1, EL⟩ := eVals_cells H.out (wC_get k C m L hL)
   rw [wV_len] at e1
   have hLl := HLS.out L (List.mem_of_getElem? hL)
   have q0 : 0 ≤ q := by rw [hq.out]; have := cC_nn (C.take m); omega
   have q1 : q ≤ 9000000000000000000 := by rw [hq.out]; have := cC_takeLe C m; have := K1.out; omega
   have q2 : ¬ (q + 4 * (L.length : Int) < 0) := by omega
   have HL := Hid.mk' hL
   rw [← hq.out] at EL
   clear hL
   go_wp2_with fail
   refine (heldV_o s' c' L.length B q _ EL hLl q0 q1).mono ?_
   rintro e w2 ⟨rfl, rfl⟩
   have hq' : Hid (q + 4 * (L.length : Int) = k + cC (C.take (m + 1))) := by show _ = _; rw [hq.out, cC_take C m L HL.out]; omega
   clear EL
   go_wp2_with fail
   go_roundw
   case rel => exact ⟨m + 1, _, by omega, by go_num, rfl, hq', trivial⟩
   case measure => simp [intOf]; omega
  ·
   have hm' : m = C.length := by omega
   subst hm'
   have e := hq.out
   rw [List.take_length] at e
   subst e
   go_wp2_with fail
   go_ret
   exact ⟨rfl, rfl⟩
set_option maxHeartbeats 4000000 in
theorem heldTs_o (s : Option Addr) (c : Nat) (C : List Tab) (B : Nat) (k : Int) (w : World) (h : Els 3 cTab w B s (wTs k C)) (hk : kTabs C) (k0 : 0 ≤ k) (k1 : k + cTs C ≤ 9000000000000000000) :
  Calls Tryz.prog 52 #[.slice s C.length c, .int .i64 k] w fun e w' => e = .returned (.int .i64 (k + cTs C)) ∧ w' = w := by
 obtain ⟨hl, hls⟩ := hk
 have HLS := Hid.mk' hls
 have K1 := Hid.mk' k1
 have H := Hid.mk' h
 clear hls k1 h
 go_enter Tryz.func52, Tryz.ntmps52
 go_wp2_with fail
 go_loopw [1, 5] (fun x i wr => ∃ (m : Nat) (q : Int), m ≤ C.length ∧ i = .int .i64 m ∧ x = .int .i64 q ∧ Hid (q = k + cTs (C.take m)) ∧ wr = w) (fun _ i _ => C.length - (intOf i).toNat)
 case atStart => exact ⟨0, k, Nat.zero_le _, rfl, rfl, by show _ = _; simp [cTs], rfl⟩
 case round =>
  obtain ⟨m, q, hm, rfl, rfl, hq, rfl⟩ := hrel
  by_cases hlt : m < C.length
  ·
   obtain ⟨T, hT⟩ := get_some hlt
   obtain ⟨b, o, rfl, _, hp, s1, c1, s2, c2, s3, c3, e1, e2, e3, F1, F2, F3⟩ := eTab_cells H.out (wTs_get k C m T hT)
   rw [← hq.out] at e1 e2 e3 F1 F2 F3
   dsimp only [wT] at e1 e2 e3 F1 F2 F3
   rw [wI_len] at e1
   rw [wE_len] at e2
   rw [wC_len] at e3
   obtain ⟨kt1, kt2, kt3⟩ := HLS.out T (List.mem_of_getElem? hT)
   have KT3 := Hid.mk' kt3
   have hcc := cC_nn T.cells
   have q0 : 0 ≤ q := by rw [hq.out]; have := cTs_nn (C.take m); omega
   have q9 : q + ((T.cols.length : Int) + 2 * (T.rows.length : Int) + cC T.cells) ≤ 9000000000000000000 := by
    have h1 := cTs_take C m T hT
    have h2 := cTs_takeLe C (m + 1)
    have h3 := K1.out
    have h4 := hq.out
    unfold cT at h1
    omega
   have F1 := Hid.mk' F1
   have F2 := Hid.mk' F2
   have F3 := Hid.mk' F3
   have n1 : ¬ (q + (T.cols.length : Int) < 0) := by omega
   have n2 : ¬ (q + (T.cols.length : Int) + 2 * (T.rows.length : Int) < 0) := by omega
   have n3 : ¬ (q + (T.cols.length : Int) + 2 * (T.rows.length : Int) + cC T.cells < 0) := by omega
   have hq' : Hid (q + (T.cols.length : Int) + 2 * (T.rows.length : Int) + cC T.cells = k + cTs (C.take (m + 1))) := by show _ = _; rw [hq.out, cTs_take C m T hT]; unfold cT; omega
   clear hT kt3
   go_wp2_with fail
   refine (heldI_o s1 c1 T.cols.length B q _ F1.out kt1 q0 (by omega)).mono ?_
   rintro e w2 ⟨rfl, rfl⟩
   go_wp2_with fail
   refine (heldE_o s2 c2 T.rows.length B (q + (T.cols.length : Int)) _ F2.out kt2 (by omega) (by omega)).mono ?_
   rintro e w2 ⟨rfl, rfl⟩
   go_wp2_with fail
   refine (heldVV_o s3 c3 T.cells B (q + (T.cols.length : Int) + 2 * (T.rows.length : Int)) _ F3.out KT3.out (by omega) (by omega)).mono ?_
   rintro e w2 ⟨rfl, rfl⟩
   go_wp2_with fail
   go_roundw
   case rel => exact ⟨m + 1, _, by omega, by go_num, rfl, hq', trivial⟩
   case measure => simp [intOf]; omega
  ·
   have hm' : m = C.length := by omega
   subst hm'
   have e := hq.out
   rw [List.take_length] at e
   subst e
   go_wp2_with fail
   go_ret
   exact ⟨rfl, rfl⟩
set_option maxHeartbeats 4000000 in
theorem heldEnts_o (s1 : Option Addr) (c1 : Nat) (s2 : Option Addr) (c2 n1 n2 : Nat) (B : Nat) (k : Int) (w : World) (h1 : Els 1 cInt w B s1 (wI k n1)) (h2 : Els 1 cInt w B s2 (wI (k + (n1 : Int)) n2)) (l1 : n1 ≤ 1048576) (l2 : n2 ≤ 1048576) (k0 : 0 ≤ k) (k1 : k ≤ 8000000000000000000) :
  Calls Tryz.prog 51 #[.agg #[.slice s1 n1 c1, .slice s2 n2 c2], .int .i64 k] w fun e w' => e = .returned (.int .i64 (k + (n1 : Int) + (n2 : Int))) ∧ Below w.heap.size w w' := by
 have k0' := Blk.new w #[.slice s1 n1 c1, .slice s2 n2 c2] 36
 have L0 : Below w.heap.size w (w.alloc (.cells #[.slice s1 n1 c1, .slice s2 n2 c2] 36)) := bl_alloc (Below.refl _ _) _
 obtain ⟨x0, x1, x2⟩ := k0'.two
 have t1 : ¬ (k + (n1 : Int) < 0) := by omega
 have t2 : ¬ (k + (n1 : Int) + (n2 : Int) < 0) := by omega
 go_enter Tryz.func51, Tryz.ntmps51
 go_wp2_with fail
 refine (heldI_o s1 c1 n1 B k _ (h1.later cInt_keeps L0) l1 k0 (by omega)).mono ?_
 rintro e w2 ⟨rfl, rfl⟩
 go_wp2_with fail
 refine (heldI_o s2 c2 n2 B (k + (n1 : Int)) _ (h2.later cInt_keeps L0) l2 (by omega) (by omega)).mono ?_
 rintro e w2 ⟨rfl, rfl⟩
 go_wp2_with fail
 go_ret
 exact ⟨rfl, L0⟩
set_option maxHeartbeats 4000000 in
theorem heldW_o (B : Nat) (V : WV) (W : Wd) (w : World) (h : OW w B V (wW 1 W)) (hk : kW W) :
  Calls Tryz.prog 17 #[.agg #[V.g, V.f, V.t, V.r], .int .i64 1] w fun e w' => e = .returned (.int .i64 (1 + cW W)) ∧ Below w.heap.size w w' := by
 have hcw := cW_le hk
 obtain ⟨m1, m2, m3, m4⟩ := hk
 have M3 := Hid.mk' m3
 have hct := cTs_nn W.tabs
 obtain ⟨a1, c1, a2, c2, a3, c3, a4, c4, e1, e2, e3, e4, hI⟩ := h.inW
 obtain ⟨Vg, Vf, Vt, Vr, ts⟩ := V
 dsimp only [wW] at e1 e2 e3 e4
 rw [wI_len] at e1 e2
 rw [wTs_len] at e3
 rw [wV_len] at e4
 subst e1 e2 e3 e4
 have e9 : Hid (1 + cW W = 1 + (W.gens.length : Int) + (W.free.length : Int) + cTs W.tabs + 4 * (W.res.length : Int)) := by show _ = _; unfold cW; omega
 have hcw' : 1 + (W.gens.length : Int) + (W.free.length : Int) + cTs W.tabs + 4 * (W.res.length : Int) ≤ 4800000000000000000 := by unfold cW at hcw; omega
 have k0 := Blk.new w #[.slice a1 W.gens.length c1, .slice a2 W.free.length c2, .slice a3 W.tabs.length c3, .slice a4 W.res.length c4] 40
 have L0 : Below w.heap.size w (w.alloc (.cells #[.slice a1 W.gens.length c1, .slice a2 W.free.length c2, .slice a3 W.tabs.length c3, .slice a4 W.res.length c4] 40)) := bl_alloc (Below.refl _ _) _
 have HI := Hid.mk' hI
 clear h hI hcw m3
 go_enter Tryz.func17, Tryz.ntmps17
 go_wp2_with fail
 generalize hY : w.alloc (.cells #[.slice a1 W.gens.length c1, .slice a2 W.free.length c2, .slice a3 W.tabs.length c3, .slice a4 W.res.length c4] 40) = Y at k0 L0 ⊢
 clear hY
 refine (heldEnts_o a1 c1 a2 c2 W.gens.length W.free.length B 1 _ (HI.out.g.later cInt_keeps L0) (HI.out.f.later cInt_keeps L0) m1 m2 (by omega) (by omega)).mono ?_
 rintro e w2 ⟨rfl, hb2⟩
 have L2 := bl_trans L0 hb2
 have K2 := k0.later hb2
 obtain ⟨x0, x1, x2, x3, x4⟩ := K2.four'
 have t1 : ¬ (1 + (W.gens.length : Int) + (W.free.length : Int) < 0) := by omega
 have t2 : ¬ (1 + (W.gens.length : Int) + (W.free.length : Int) + cTs W.tabs < 0) := by omega
 have t3 : ¬ (1 + (W.gens.length : Int) + (W.free.length : Int) + cTs W.tabs + 4 * (W.res.length : Int) < 0) := by omega
 clear k0 hb2
 go_wp2_with fail
 refine (heldTs_o a3 c3 W.tabs B (1 + (W.gens.length : Int) + (W.free.length : Int)) _ (HI.out.t.later cTab_keeps L2) M3.out (by omega) (by omega)).mono ?_
 rintro e w3 ⟨rfl, rfl⟩
 go_wp2_with fail
 refine (heldV_o a4 c4 W.res.length B (1 + (W.gens.length : Int) + (W.free.length : Int) + cTs W.tabs) _ (HI.out.r.later cVal_keeps L2) m4 (by omega) (by omega)).mono ?_
 rintro e w4 ⟨rfl, rfl⟩
 go_wp2_with fail
 go_ret
 refine ⟨?_, L2⟩
 rw [e9.out]
 rfl
end Go.Proofs.YtkihhadcoclnaaaGreat
