import Derived.Test.YtofpkbnocbmgkaaTe
namespace Go.Proofs.Ytofpkbnocbmgkaa
open Go.RowKit
set_option linter.unusedVariables false
set_option linter.unusedSimpArgs false

theorem eqB_self (k i : Int) (x y : Nat) : eqB k i x y k i x y = true := by simp [eqB, sameB_refl]

set_option maxHeartbeats 2000000 in
theorem eqEntS_gen (s t : Option Addr) (c d : Nat) (L : List E2) (B C : Nat) (w : World) (hs : Els 2 cEnt w B s L) (ht : Els 2 cEnt w C t L) (hl : L.length ≤ 1048576) :
    Calls Try.prog 19 #[.slice s L.length c, .slice t L.length d] w fun e w' => e = .returned (.bool true) ∧ Below w.heap.size w w' := by
  have hal := alloc_old
  have haf := alloc_oldf
  go_enter Try.func19, Try.ntmps19
  go_wp2_with fail
  go_loopw [5] (fun i wr => ∃ k : Nat, k ≤ L.length ∧ i = .int .i64 k ∧ Below w.heap.size w wr) (fun i _ => L.length - (intOf i).toNat)
  case atStart => exact ⟨0, Nat.zero_le _, rfl, Below.refl _ _⟩
  case round =>
    obtain ⟨k, hk, rfl, hb⟩ := hrel
    by_cases hlt : k < L.length
    · obtain ⟨a, ha⟩ := get_some hlt
      obtain ⟨b, o, rfl, _, hp, e1, e2⟩ := eEnt_cells (hs.later cEnt_keeps hb) ha
      obtain ⟨b', o', rfl, _, hp', e3, e4⟩ := eEnt_cells (ht.later cEnt_keeps hb) ha
      obtain ⟨p1, p2⟩ := a
      clear hs ht ha
      go_wp2_with fail
      go_region_with (first
        | (go_at_call 52; refine (eqEnt_any p1 p2 p1 p2 _).mono ?_; rintro e w2 ⟨rfl, hb2⟩; rw [show (p1 == p1 && p2 == p2) = true by simp]))
      all_goals
        go_wp2_with fail
        go_roundw
        case rel =>
          refine ⟨k + 1, by omega, by go_num, ?_⟩
          (repeat (first | with_reducible exact Below.refl _ _ | with_reducible refine bl_alloc ?_ _ | with_reducible refine bl_drewN ?_ _ | with_reducible refine bl_drew ?_ | with_reducible refine bl_setCell ?_ (by first | exact Nat.le_refl _ | (dsimp only; omega) | (simp <;> omega)) _ | with_reducible refine bl_trans ?_ (by with_reducible assumption)))
        case measure => simp [intOf]; omega
    · go_wp2_with fail
      go_ret
      exact ⟨rfl, hb⟩

set_option maxHeartbeats 4000000 in
theorem eqValS_gen (s t : Option Addr) (c d : Nat) (L : List V4) (B C : Nat) (w : World) (hs : Els 4 cVal w B s L) (ht : Els 4 cVal w C t L) (hl : L.length ≤ 1048576) :
    Calls Try.prog 50 #[.slice s L.length c, .slice t L.length d] w fun e w' => e = .returned (.bool true) ∧ Below w.heap.size w w' := by
  have hal := alloc_old
  have haf := alloc_oldf
  go_enter Try.func50, Try.ntmps50
  go_wp2_with fail
  go_loopw [5] (fun i wr => ∃ k : Nat, k ≤ L.length ∧ i = .int .i64 k ∧ Below w.heap.size w wr) (fun i _ => L.length - (intOf i).toNat)
  case atStart => exact ⟨0, Nat.zero_le _, rfl, Below.refl _ _⟩
  case round =>
    obtain ⟨k, hk, rfl, hb⟩ := hrel
    by_cases hlt : k < L.length
    · obtain ⟨a, ha⟩ := get_some hlt
      obtain ⟨b, o, rfl, _, hp, hok, e1, e2, e3, e4⟩ := eVal_cells (hs.later cVal_keeps hb) ha
      obtain ⟨b', o', rfl, _, hp', _, f1, f2, f3, f4⟩ := eVal_cells (ht.later cVal_keeps hb) ha
      obtain ⟨p1, p2, p3, p4⟩ := a
      have HX : Hid (p3 < 18446744073709551616) := hok.2.1
      have HY : Hid (p4 < 18446744073709551616) := hok.2.2
      clear hs ht ha hok
      go_wp2_with fail
      go_region_with (first
        | (go_at_call 13; refine (eqVal_any p1 p2 p3 p4 p1 p2 p3 p4 _ HX.out HY.out HX.out HY.out).mono ?_; rintro e w2 ⟨rfl, hb2⟩; rw [eqB_self]))
      all_goals
        go_wp2_with fail
        go_roundw
        case rel =>
          refine ⟨k + 1, by omega, by go_num, ?_⟩
          (repeat (first | with_reducible exact Below.refl _ _ | with_reducible refine bl_alloc ?_ _ | with_reducible refine bl_drewN ?_ _ | with_reducible refine bl_drew ?_ | with_reducible refine bl_setCell ?_ (by first | exact Nat.le_refl _ | (dsimp only; omega) | (simp <;> omega)) _ | with_reducible refine bl_trans ?_ (by with_reducible assumption)))
        case measure => simp [intOf]; omega
    · go_wp2_with fail
      go_ret
      exact ⟨rfl, hb⟩

set_option maxHeartbeats 4000000 in
theorem eqValSS_gen (s t : Option Addr) (c d : Nat) (L : List (List V4)) (B C : Nat) (w : World) (hs : Els 1 cVals w B s L) (ht : Els 1 cVals w C t L) (hl : kLL L) :
    Calls Try.prog 114 #[.slice s L.length c, .slice t L.length d] w fun e w' => e = .returned (.bool true) ∧ Below w.heap.size w w' := by
  have hal := alloc_old
  have haf := alloc_oldf
  obtain ⟨hl, hls⟩ := hl
  have HLS : Hid (∀ l ∈ L, l.length ≤ 1048576) := hls
  clear hls
  go_enter Try.func114, Try.ntmps114
  go_wp2_with fail
  go_loopw [5] (fun i wr => ∃ k : Nat, k ≤ L.length ∧ i = .int .i64 k ∧ Below w.heap.size w wr) (fun i _ => L.length - (intOf i).toNat)
  case atStart => exact ⟨0, Nat.zero_le _, rfl, Below.refl _ _⟩
  case round =>
    obtain ⟨k, hk, rfl, hb⟩ := hrel
    by_cases hlt : k < L.length
    · obtain ⟨a, ha⟩ := get_some hlt
      obtain ⟨b, o, rfl, _, hp, s1, c1, e1, e2⟩ := eVals_cells (hs.later cVals_keeps hb) ha
      obtain ⟨b', o', rfl, _, hp', s2, c2, f1, f2⟩ := eVals_cells (ht.later cVals_keeps hb) ha
      have hal1 := HLS.out a (List.mem_of_getElem? ha)
      have E2' : Hid (Els 4 cVal wr B s1 a) := e2
      have F2' : Hid (Els 4 cVal wr C s2 a) := f2
      clear hs ht ha e2 f2
      go_wp2_with fail
      go_region_with (first
        | (go_at_call 50; refine (eqValS_gen s1 s2 c1 c2 a B C _ (E2'.out.later cVal_keeps (bl_drew (Below.refl _ _))) (F2'.out.later cVal_keeps (bl_drew (Below.refl _ _))) hal1).mono ?_; rintro e w2 ⟨rfl, hb2⟩))
      all_goals
        go_wp2_with fail
        go_roundw
        case rel =>
          refine ⟨k + 1, by omega, by go_num, ?_⟩
          (repeat (first | with_reducible exact Below.refl _ _ | with_reducible refine bl_alloc ?_ _ | with_reducible refine bl_drewN ?_ _ | with_reducible refine bl_drew ?_ | with_reducible refine bl_setCell ?_ (by first | exact Nat.le_refl _ | (dsimp only; omega) | (simp <;> omega)) _ | with_reducible refine bl_trans ?_ (by with_reducible assumption)))
        case measure => simp [intOf]; omega
    · go_wp2_with fail
      go_ret
      exact ⟨rfl, hb⟩

set_option maxHeartbeats 4000000 in
theorem eqTable_gen (s1 s2 s3 t1 t2 t3 : Option Addr) (c1 c2 c3 d1 d2 d3 : Nat) (t : Tab) (B C : Nat) (w : World) (hA : Els 1 cInt w B s1 t.cols) (hB : Els 2 cEnt w B s2 t.rows) (hC : Els 1 cVals w B s3 t.cells) (gA : Els 1 cInt w C t1 t.cols) (gB : Els 2 cEnt w C t2 t.rows) (gC : Els 1 cVals w C t3 t.cells) (hk : kTab t) :
    Calls Try.prog 87 #[.agg #[.slice s1 t.cols.length c1, .slice s2 t.rows.length c2, .slice s3 t.cells.length c3], .agg #[.slice t1 t.cols.length d1, .slice t2 t.rows.length d2, .slice t3 t.cells.length d3]] w fun e w' => e = .returned (.bool true) ∧ Below w.heap.size w w' := by
  have hal := alloc_old
  have haf := alloc_oldf
  obtain ⟨l1, l2, l3⟩ := hk
  obtain ⟨k0, k1⟩ := blk2 w #[.slice s1 t.cols.length c1, .slice s2 t.rows.length c2, .slice s3 t.cells.length c3] #[.slice t1 t.cols.length d1, .slice t2 t.rows.length d2, .slice t3 t.cells.length d3] 84 84
  have L0 : Below w.heap.size w ((w.alloc (.cells #[.slice s1 t.cols.length c1, .slice s2 t.rows.length c2, .slice s3 t.cells.length c3] 84)).alloc (.cells #[.slice t1 t.cols.length d1, .slice t2 t.rows.length d2, .slice t3 t.cells.length d3] 84)) := by (repeat (first | with_reducible exact Below.refl _ _ | with_reducible refine bl_alloc ?_ _ | with_reducible refine bl_drewN ?_ _ | with_reducible refine bl_drew ?_ | with_reducible refine bl_setCell ?_ (by first | exact Nat.le_refl _ | (dsimp only; omega) | (simp <;> omega)) _ | with_reducible refine bl_trans ?_ (by with_reducible assumption)))
  obtain ⟨x0, x1, x2, x3⟩ := k0.three'
  obtain ⟨y0, y1, y2, y3⟩ := k1.three'
  go_enter Try.func87, Try.ntmps87
  go_wp2_with fail
  refine (eqInts_any s1 t1 c1 d1 t.cols t.cols _ (hA.later cInt_keeps L0).ints (gA.later cInt_keeps L0).ints l1).mono ?_
  rintro e w1 ⟨rfl, hb1⟩
  rw [show decide (t.cols = t.cols) = true by simp]
  have L1 := bl_trans L0 hb1
  have K0 := k0.later hb1
  have K1 := k1.later hb1
  clear k0 k1 x0 x1 x2 x3 y0 y1 y2 y3 hb1
  obtain ⟨x0, x1, x2, x3⟩ := K0.three'
  obtain ⟨y0, y1, y2, y3⟩ := K1.three'
  go_wp2_with fail
  refine (eqEntS_gen s2 t2 c2 d2 t.rows B C _ (hB.later cEnt_keeps L1) (gB.later cEnt_keeps L1) l2).mono ?_
  rintro e w2 ⟨rfl, hb2⟩
  have L2 := bl_trans L1 hb2
  have N0 := K0.later hb2
  have N1 := K1.later hb2
  clear K0 K1 x0 x1 x2 x3 y0 y1 y2 y3 hb2
  obtain ⟨x0, x1, x2, x3⟩ := N0.three'
  obtain ⟨y0, y1, y2, y3⟩ := N1.three'
  go_wp2_with fail
  refine (eqValSS_gen s3 t3 c3 d3 t.cells B C _ (hC.later cVals_keeps L2) (gC.later cVals_keeps L2) l3).mono ?_
  rintro e w3 ⟨rfl, hb3⟩
  go_wp2_with fail
  go_ret
  exact ⟨rfl, bl_trans L2 hb3⟩

set_option maxHeartbeats 4000000 in
theorem eqTableS_gen (s t : Option Addr) (c d : Nat) (L : List Tab) (B C : Nat) (w : World) (hs : Els 3 cTab w B s L) (ht : Els 3 cTab w C t L) (hl : kTabs L) :
    Calls Try.prog 49 #[.slice s L.length c, .slice t L.length d] w fun e w' => e = .returned (.bool true) ∧ Below w.heap.size w w' := by
  have hal := alloc_old
  have haf := alloc_oldf
  obtain ⟨hl, hls⟩ := hl
  have HLS : Hid (∀ l ∈ L, kTab l) := hls
  clear hls
  go_enter Try.func49, Try.ntmps49
  go_wp2_with fail
  go_loopw [5] (fun i wr => ∃ k : Nat, k ≤ L.length ∧ i = .int .i64 k ∧ Below w.heap.size w wr) (fun i _ => L.length - (intOf i).toNat)
  case atStart => exact ⟨0, Nat.zero_le _, rfl, Below.refl _ _⟩
  case round =>
    obtain ⟨k, hk, rfl, hb⟩ := hrel
    by_cases hlt : k < L.length
    · obtain ⟨a, ha⟩ := get_some hlt
      obtain ⟨b, o, rfl, _, hp, s1, c1, s2, c2, s3, c3, e1, e2, e3, p1, p2, p3⟩ := eTab_cells (hs.later cTab_keeps hb) ha
      obtain ⟨b', o', rfl, _, hp', t1, d1, t2, d2, t3, d3, f1, f2, f3, q1, q2, q3⟩ := eTab_cells (ht.later cTab_keeps hb) ha
      have hal1 := HLS.out a (List.mem_of_getElem? ha)
      have PH : Hid (Els 1 cInt wr B s1 a.cols ∧ Els 2 cEnt wr B s2 a.rows ∧ Els 1 cVals wr B s3 a.cells) := ⟨p1, p2, p3⟩
      have QH : Hid (Els 1 cInt wr C t1 a.cols ∧ Els 2 cEnt wr C t2 a.rows ∧ Els 1 cVals wr C t3 a.cells) := ⟨q1, q2, q3⟩
      clear hs ht ha p1 p2 p3 q1 q2 q3
      go_wp2_with fail
      go_region_with (first
        | (go_at_call 87; refine (eqTable_gen s1 s2 s3 t1 t2 t3 c1 c2 c3 d1 d2 d3 a B C _ (PH.out.1.later cInt_keeps (bl_drew (Below.refl _ _))) (PH.out.2.1.later cEnt_keeps (bl_drew (Below.refl _ _))) (PH.out.2.2.later cVals_keeps (bl_drew (Below.refl _ _))) (QH.out.1.later cInt_keeps (bl_drew (Below.refl _ _))) (QH.out.2.1.later cEnt_keeps (bl_drew (Below.refl _ _))) (QH.out.2.2.later cVals_keeps (bl_drew (Below.refl _ _))) hal1).mono ?_; rintro e w2 ⟨rfl, hb2⟩))
      all_goals
        go_wp2_with fail
        go_roundw
        case rel =>
          refine ⟨k + 1, by omega, by go_num, ?_⟩
          (repeat (first | with_reducible exact Below.refl _ _ | with_reducible refine bl_alloc ?_ _ | with_reducible refine bl_drewN ?_ _ | with_reducible refine bl_drew ?_ | with_reducible refine bl_setCell ?_ (by first | exact Nat.le_refl _ | (dsimp only; omega) | (simp <;> omega)) _ | with_reducible refine bl_trans ?_ (by with_reducible assumption)))
        case measure => simp [intOf]; omega
    · go_wp2_with fail
      go_ret
      exact ⟨rfl, hb⟩

set_option maxHeartbeats 4000000 in
theorem eqWorld_gen (a1 a2 a3 a4 b1 b2 b3 b4 : Option Addr) (c1 c2 c3 c4 d1 d2 d3 d4 : Nat) (W : Wd) (B C : Nat) (w : World) (hW : InW w B a1 a2 a3 a4 W) (gW : InW w C b1 b2 b3 b4 W) (hk : kW W) :
    Calls Try.prog 15 #[.agg #[.slice a1 W.gens.length c1, .slice a2 W.free.length c2, .slice a3 W.tabs.length c3, .slice a4 W.res.length c4], .agg #[.slice b1 W.gens.length d1, .slice b2 W.free.length d2, .slice b3 W.tabs.length d3, .slice b4 W.res.length d4]] w fun e w' => e = .returned (.bool true) ∧ Below w.heap.size w w' := by
  have hal := alloc_old
  have haf := alloc_oldf
  obtain ⟨l1, l2, l3, l4⟩ := hk
  obtain ⟨k0, k1⟩ := blk2 w #[.slice a1 W.gens.length c1, .slice a2 W.free.length c2, .slice a3 W.tabs.length c3, .slice a4 W.res.length c4] #[.slice b1 W.gens.length d1, .slice b2 W.free.length d2, .slice b3 W.tabs.length d3, .slice b4 W.res.length d4] 49 49
  have L0 : Below w.heap.size w ((w.alloc (.cells #[.slice a1 W.gens.length c1, .slice a2 W.free.length c2, .slice a3 W.tabs.length c3, .slice a4 W.res.length c4] 49)).alloc (.cells #[.slice b1 W.gens.length d1, .slice b2 W.free.length d2, .slice b3 W.tabs.length d3, .slice b4 W.res.length d4] 49)) := by (repeat (first | with_reducible exact Below.refl _ _ | with_reducible refine bl_alloc ?_ _ | with_reducible refine bl_drewN ?_ _ | with_reducible refine bl_drew ?_ | with_reducible refine bl_setCell ?_ (by first | exact Nat.le_refl _ | (dsimp only; omega) | (simp <;> omega)) _ | with_reducible refine bl_trans ?_ (by with_reducible assumption)))
  obtain ⟨x0, x1, x2, x3, x4⟩ := k0.four'
  obtain ⟨y0, y1, y2, y3, y4⟩ := k1.four'
  go_enter Try.func15, Try.ntmps15
  go_wp2_with fail
  refine (eqEnts_any a1 a2 b1 b2 c1 c2 d1 d2 W.gens W.free W.gens W.free _ (hW.g.later cInt_keeps L0).ints (hW.f.later cInt_keeps L0).ints (gW.g.later cInt_keeps L0).ints (gW.f.later cInt_keeps L0).ints l1 l2).mono ?_
  rintro e w1 ⟨rfl, hb1⟩
  rw [show decide (W.gens = W.gens ∧ W.free = W.free) = true by simp]
  have L1 := bl_trans L0 hb1
  have K0 := k0.later hb1
  have K1 := k1.later hb1
  clear k0 k1 x0 x1 x2 x3 x4 y0 y1 y2 y3 y4 hb1
  obtain ⟨x0, x1, x2, x3, x4⟩ := K0.four'
  obtain ⟨y0, y1, y2, y3, y4⟩ := K1.four'
  go_wp2_with fail
  refine (eqTableS_gen a3 b3 c3 d3 W.tabs B C _ (hW.t.later cTab_keeps L1) (gW.t.later cTab_keeps L1) l3).mono ?_
  rintro e w2 ⟨rfl, hb2⟩
  have L2 := bl_trans L1 hb2
  have N0 := K0.later hb2
  have N1 := K1.later hb2
  clear K0 K1 x0 x1 x2 x3 x4 y0 y1 y2 y3 y4 hb2
  obtain ⟨x0, x1, x2, x3, x4⟩ := N0.four'
  obtain ⟨y0, y1, y2, y3, y4⟩ := N1.four'
  go_wp2_with fail
  refine (eqValS_gen a4 b4 c4 d4 W.res B C _ (hW.r.later cVal_keeps L2) (gW.r.later cVal_keeps L2) l4).mono ?_
  rintro e w3 ⟨rfl, hb3⟩
  go_wp2_with fail
  go_ret
  exact ⟨rfl, bl_trans L2 hb3⟩
end Go.Proofs.Ytofpkbnocbmgkaa
