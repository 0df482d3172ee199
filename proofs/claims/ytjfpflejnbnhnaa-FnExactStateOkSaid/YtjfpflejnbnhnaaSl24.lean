import Derived.Test.YtjfpflejnbnhnaaSl08
import Derived.Test.YtjfpflejnbnhnaaSl23
namespace Go.Proofs.Ytjfpflejnbnhnaa
section
open Go.RowKit
set_option linter.unusedVariables false
set_option linter.unusedSimpArgs false
theorem eqB_self (k i : Int) (x y : Nat) : eqB k i x y k i x y = true := by simp [eqB, sameB_refl]
set_option maxHeartbeats 2000000 in
theorem eqEntS_gen (s t : Option Addr) (c d : Nat) (L : List E2) (B C : Nat) (w : World) (hs : Els 2 cEnt w B s L) (ht : Els 2 cEnt w C t L) (hl : L.length ≤ 1048576) :
  Calls Try.prog 86 #[.slice s L.length c, .slice t L.length d] w fun e w' => e = .returned (.bool true) ∧ Below w.heap.size w w' := by
 have hal := alloc_old
 have haf := alloc_oldf
 go_enter Try.func86, Try.ntmps86
 go_wp2_with fail
 go_loopw [5] (fun i wr => ∃ k : Nat, k ≤ L.length ∧ i = .int .i64 k ∧ Below w.heap.size w wr) (fun i _ => L.length - (intOf i).toNat)
 case atStart => exact ⟨0, Nat.zero_le _, rfl, Below.refl _ _⟩
 case round =>
  obtain ⟨k, hk, rfl, hb⟩ := hrel
  by_cases hlt : k < L.length
  ·
   obtain ⟨a, ha⟩ := get_some hlt
   obtain ⟨b, o, rfl, _, hp, e1, e2⟩ := eEnt_cells (hs.later cEnt_keeps hb) ha
   obtain ⟨b', o', rfl, _, hp', e3, e4⟩ := eEnt_cells (ht.later cEnt_keeps hb) ha
   obtain ⟨p1, p2⟩ := a
   clear hs ht ha
   go_wp2_with fail
   go_region_with (first
    | (go_at_call 96; refine (eqEnt_any p1 p2 p1 p2 _).mono ?_; rintro e w2 ⟨rfl, hb2⟩; rw [show (p1 == p1 && p2 == p2) = true by simp]))
   all_goals
    go_wp2_with fail
    go_roundw
    case rel =>
     refine ⟨k + 1, by omega, by go_num, ?_⟩
     (repeat (first | with_reducible exact Below.refl _ _ | with_reducible refine bl_alloc ?_ _ | with_reducible refine bl_drewN ?_ _ | with_reducible refine bl_drew ?_ | with_reducible refine bl_setCell ?_ (by first | exact Nat.le_refl _ | (dsimp only; omega) | (simp <;> omega)) _ | with_reducible refine bl_trans ?_ (by with_reducible assumption)))
    case measure => simp [intOf]; omega
  ·
   go_wp2_with fail
   go_ret
   exact ⟨rfl, hb⟩
set_option maxHeartbeats 4000000 in
theorem eqValS_gen (s t : Option Addr) (c d : Nat) (L : List V4) (B C : Nat) (w : World) (hs : Els 4 cVal w B s L) (ht : Els 4 cVal w C t L) (hl : L.length ≤ 1048576) :
  Calls Try.prog 51 #[.slice s L.length c, .slice t L.length d] w fun e w' => e = .returned (.bool true) ∧ Below w.heap.size w w' := by
 have hal := alloc_old
 have haf := alloc_oldf
 go_enter Try.func51, Try.ntmps51
 go_wp2_with fail
 go_loopw [5] (fun i wr => ∃ k : Nat, k ≤ L.length ∧ i = .int .i64 k ∧ Below w.heap.size w wr) (fun i _ => L.length - (intOf i).toNat)
 case atStart => exact ⟨0, Nat.zero_le _, rfl, Below.refl _ _⟩
 case round =>
  obtain ⟨k, hk, rfl, hb⟩ := hrel
  by_cases hlt : k < L.length
  ·
   obtain ⟨a, ha⟩ := get_some hlt
   obtain ⟨b, o, rfl, _, hp, hok, e1, e2, e3, e4⟩ := eVal_cells (hs.later cVal_keeps hb) ha
   obtain ⟨b', o', rfl, _, hp', _, f1, f2, f3, f4⟩ := eVal_cells (ht.later cVal_keeps hb) ha
   obtain ⟨p1, p2, p3, p4⟩ := a
   have HX : Hid (p3 < 18446744073709551616) := hok.2.1
   have HY : Hid (p4 < 18446744073709551616) := hok.2.2
   clear hs ht ha hok
   go_wp2_with fail
   go_region_with (first
    | (go_at_call 71; refine (eqVal_any p1 p2 p3 p4 p1 p2 p3 p4 _ HX.out HY.out HX.out HY.out).mono ?_; rintro e w2 ⟨rfl, hb2⟩; rw [eqB_self]))
   all_goals
    go_wp2_with fail
    go_roundw
    case rel =>
     refine ⟨k + 1, by omega, by go_num, ?_⟩
     (repeat (first | with_reducible exact Below.refl _ _ | with_reducible refine bl_alloc ?_ _ | with_reducible refine bl_drewN ?_ _ | with_reducible refine bl_drew ?_ | with_reducible refine bl_setCell ?_ (by first | exact Nat.le_refl _ | (dsimp only; omega) | (simp <;> omega)) _ | with_reducible refine bl_trans ?_ (by with_reducible assumption)))
    case measure => simp [intOf]; omega
  ·
   go_wp2_with fail
   go_ret
   exact ⟨rfl, hb⟩
set_option maxHeartbeats 4000000 in
theorem eqValSS_gen (s t : Option Addr) (c d : Nat) (L : List (List V4)) (B C : Nat) (w : World) (hs : Els 1 cVals w B s L) (ht : Els 1 cVals w C t L) (hl : kLL L) :
  Calls Try.prog 87 #[.slice s L.length c, .slice t L.length d] w fun e w' => e = .returned (.bool true) ∧ Below w.heap.size w w' := by
 have hal := alloc_old
 have haf := alloc_oldf
 obtain ⟨hl, hls⟩ := hl
 have HLS : Hid (∀ l ∈ L, l.length ≤ 1048576) := hls
 clear hls
 go_enter Try.func87, Try.ntmps87
 go_wp2_with fail
 go_loopw [5] (fun i wr => ∃ k : Nat, k ≤ L.length ∧ i = .int .i64 k ∧ Below w.heap.size w wr) (fun i _ => L.length - (intOf i).toNat)
 case atStart => exact ⟨0, Nat.zero_le _, rfl, Below.refl _ _⟩
 case round =>
  obtain ⟨k, hk, rfl, hb⟩ := hrel
  by_cases hlt : k < L.length
  ·
   obtain ⟨a, ha⟩ := get_some hlt
   obtain ⟨b, o, rfl, _, hp, s1, c1, e1, e2⟩ := eVals_cells (hs.later cVals_keeps hb) ha
   obtain ⟨b', o', rfl, _, hp', s2, c2, f1, f2⟩ := eVals_cells (ht.later cVals_keeps hb) ha
   have hal1 := HLS.out a (List.mem_of_getElem? ha)
   have E2' : Hid (Els 4 cVal wr B s1 a) := e2
   have F2' : Hid (Els 4 cVal wr C s2 a) := f2
   clear hs ht ha e2 f2
   go_wp2_with fail
   go_region_with (first
    | (go_at_call 51; refine (eqValS_gen s1 s2 c1 c2 a B C _ (E2'.out.later cVal_keeps (bl_drew (Below.refl _ _))) (F2'.out.later cVal_keeps (bl_drew (Below.refl _ _))) hal1).mono ?_; rintro e w2 ⟨rfl, hb2⟩))
   all_goals
    go_wp2_with fail
    go_roundw
    case rel =>
     refine ⟨k + 1, by omega, by go_num, ?_⟩
     (repeat (first | with_reducible exact Below.refl _ _ | with_reducible refine bl_alloc ?_ _ | with_reducible refine bl_drewN ?_ _ | with_reducible refine bl_drew ?_ | with_reducible refine bl_setCell ?_ (by first | exact Nat.le_refl _ | (dsimp only; omega) | (simp <;> omega)) _ | with_reducible refine bl_trans ?_ (by with_reducible assumption)))
    case measure => simp [intOf]; omega
  ·
   go_wp2_with fail
   go_ret
   exact ⟨rfl, hb⟩
set_option maxHeartbeats 4000000 in
theorem eqTable_gen (s1 s2 s3 t1 t2 t3 : Option Addr) (c1 c2 c3 d1 d2 d3 : Nat) (t : Tab) (B C : Nat) (w : World) (hA : Els 1 cInt w B s1 t.cols) (hB : Els 2 cEnt w B s2 t.rows) (hC : Els 1 cVals w B s3 t.cells) (gA : Els 1 cInt w C t1 t.cols) (gB : Els 2 cEnt w C t2 t.rows) (gC : Els 1 cVals w C t3 t.cells) (hk : kTab t) :
  Calls Try.prog 70 #[.agg #[.slice s1 t.cols.length c1, .slice s2 t.rows.length c2, .slice s3 t.cells.length c3], .agg #[.slice t1 t.cols.length d1, .slice t2 t.rows.length d2, .slice t3 t.cells.length d3]] w fun e w' => e = .returned (.bool true) ∧ Below w.heap.size w w' := by
 have hal := alloc_old
 have haf := alloc_oldf
 obtain ⟨l1, l2, l3⟩ := hk
 obtain ⟨k0, k1⟩ := blk2 w #[.slice s1 t.cols.length c1, .slice s2 t.rows.length c2, .slice s3 t.cells.length c3] #[.slice t1 t.cols.length d1, .slice t2 t.rows.length d2, .slice t3 t.cells.length d3] 93 93
 have L0 : Below w.heap.size w ((w.alloc (.cells #[.slice s1 t.cols.length c1, .slice s2 t.rows.length c2, .slice s3 t.cells.length c3] 93)).alloc (.cells #[.slice t1 t.cols.length d1, .slice t2 t.rows.length d2, .slice t3 t.cells.length d3] 93)) := by (repeat (first | with_reducible exact Below.refl _ _ | with_reducible refine bl_alloc ?_ _ | with_reducible refine bl_drewN ?_ _ | with_reducible refine bl_drew ?_ | with_reducible refine bl_setCell ?_ (by first | exact Nat.le_refl _ | (dsimp only; omega) | (simp <;> omega)) _ | with_reducible refine bl_trans ?_ (by with_reducible assumption)))
 obtain ⟨x0, x1, x2, x3⟩ := k0.three'
 obtain ⟨y0, y1, y2, y3⟩ := k1.three'
 go_enter Try.func70, Try.ntmps70
 go_wp2_with fail
 refine (eqInts_any s1 t1 c1 d1 t.cols t.cols _ (hA.later cInt_keeps L0).ints (gA.later cInt_keeps L0).ints l1).mono ?_
 rintro e w1 ⟨rfl, hb1⟩
 rw [show decide (t.cols = t.cols) = true by simp]
 have L1 := bl_trans L0 hb1
 have K0 := k0.later hb1
 have K1 := k1.later hb1
 clear k0 k1 x0 x1 x2 x3 y0 y1 y2 y3 hb1
 obtain ⟨x0, x1, x2, x3⟩ := K0.three'
 obtain ⟨y0, y1, y2, y3⟩ := K1.three'
 go_wp2_with fail
 refine (eqEntS_gen s2 t2 c2 d2 t.rows B C _ (hB.later cEnt_keeps L1) (gB.later cEnt_keeps L1) l2).mono ?_
 rintro e w2 ⟨rfl, hb2⟩
 have L2 := bl_trans L1 hb2
 have N0 := K0.later hb2
 have N1 := K1.later hb2
 clear K0 K1 x0 x1 x2 x3 y0 y1 y2 y3 hb2
 obtain ⟨x0, x1, x2, x3⟩ := N0.three'
 obtain ⟨y0, y1, y2, y3⟩ := N1.three'
 go_wp2_with fail
 refine (eqValSS_gen s3 t3 c3 d3 t.cells B C _ (hC.later cVals_keeps L2) (gC.later cVals_keeps L2) l3).mono ?_
 rintro e w3 ⟨rfl, hb3⟩
 go_wp2_with fail
 go_ret
 exact ⟨rfl, bl_trans L2 hb3⟩
set_option maxHeartbeats 4000000 in
theorem eqTableS_gen (s t : Option Addr) (c d : Nat) (L : List Tab) (B C : Nat) (w : World) (hs : Els 3 cTab w B s L) (ht : Els 3 cTab w C t L) (hl : kTabs L) :
  Calls Try.prog 50 #[.slice s L.length c, .slice t L.length d] w fun e w' => e = .returned (.bool true) ∧ Below w.heap.size w w' := by
 have hal := alloc_old
 have haf := alloc_oldf
 obtain ⟨hl, hls⟩ := hl
 have HLS : Hid (∀ l ∈ L, kTab l) := hls
 clear hls
 go_enter Try.func50, Try.ntmps50
 go_wp2_with fail
 go_loopw [5] (fun i wr => ∃ k : Nat, k ≤ L.length ∧ i = .int .i64 k ∧ Below w.heap.size w wr) (fun i _ => L.length - (intOf i).toNat)
 case atStart => exact ⟨0, Nat.zero_le _, rfl, Below.refl _ _⟩
 case round =>
  obtain ⟨k, hk, rfl, hb⟩ := hrel
  by_cases hlt : k < L.length
  ·
   obtain ⟨a, ha⟩ := get_some hlt
   obtain ⟨b, o, rfl, _, hp, s1, c1, s2, c2, s3, c3, e1, e2, e3, p1, p2, p3⟩ := eTab_cells (hs.later cTab_keeps hb) ha
   obtain ⟨b', o', rfl, _, hp', t1, d1, t2, d2, t3, d3, f1, f2, f3, q1, q2, q3⟩ := eTab_cells (ht.later cTab_keeps hb) ha
   have hal1 := HLS.out a (List.mem_of_getElem? ha)
   have PH : Hid (Els 1 cInt wr B s1 a.cols ∧ Els 2 cEnt wr B s2 a.rows ∧ Els 1 cVals wr B s3 a.cells) := ⟨p1, p2, p3⟩
   have QH : Hid (Els 1 cInt wr C t1 a.cols ∧ Els 2 cEnt wr C t2 a.rows ∧ Els 1 cVals wr C t3 a.cells) := ⟨q1, q2, q3⟩
   clear hs ht ha p1 p2 p3 q1 q2 q3
   go_wp2_with fail
   go_region_with (first
    | (go_at_call 70; refine (eqTable_gen s1 s2 s3 t1 t2 t3 c1 c2 c3 d1 d2 d3 a B C _ (PH.out.1.later cInt_keeps (bl_drew (Below.refl _ _))) (PH.out.2.1.later cEnt_keeps (bl_drew (Below.refl _ _))) (PH.out.2.2.later cVals_keeps (bl_drew (Below.refl _ _))) (QH.out.1.later cInt_keeps (bl_drew (Below.refl _ _))) (QH.out.2.1.later cEnt_keeps (bl_drew (Below.refl _ _))) (QH.out.2.2.later cVals_keeps (bl_drew (Below.refl _ _))) hal1).mono ?_; rintro e w2 ⟨rfl, hb2⟩))
   all_goals
    go_wp2_with fail
    go_roundw
    case rel =>
     refine ⟨k + 1, by omega, by go_num, ?_⟩
     (repeat (first | with_reducible exact Below.refl _ _ | with_reducible refine bl_alloc ?_ _ | with_reducible refine bl_drewN ?_ _ | with_reducible refine bl_drew ?_ | with_reducible refine bl_setCell ?_ (by first | exact Nat.le_refl _ | (dsimp only; omega) | (simp <;> omega)) _ | with_reducible refine bl_trans ?_ (by with_reducible assumption)))
    case measure => simp [intOf]; omega
  ·
   go_wp2_with fail
   go_ret
   exact ⟨rfl, hb⟩
set_option maxHeartbeats 4000000 in
theorem eqWorld_gen (a1 a2 a3 a4 b1 b2 b3 b4 : Option Addr) (c1 c2 c3 c4 d1 d2 d3 d4 : Nat) (W : Wd) (B C : Nat) (w : World) (hW : InW w B a1 a2 a3 a4 W) (gW : InW w C b1 b2 b3 b4 W) (hk : kW W) :
  Calls Try.prog 25 #[.agg #[.slice a1 W.gens.length c1, .slice a2 W.free.length c2, .slice a3 W.tabs.length c3, .slice a4 W.res.length c4], .agg #[.slice b1 W.gens.length d1, .slice b2 W.free.length d2, .slice b3 W.tabs.length d3, .slice b4 W.res.length d4]] w fun e w' => e = .returned (.bool true) ∧ Below w.heap.size w w' := by
 have hal := alloc_old
 have haf := alloc_oldf
 obtain ⟨l1, l2, l3, l4⟩ := hk
 obtain ⟨k0, k1⟩ := blk2 w #[.slice a1 W.gens.length c1, .slice a2 W.free.length c2, .slice a3 W.tabs.length c3, .slice a4 W.res.length c4] #[.slice b1 W.gens.length d1, .slice b2 W.free.length d2, .slice b3 W.tabs.length d3, .slice b4 W.res.length d4] 46 46
 have L0 : Below w.heap.size w ((w.alloc (.cells #[.slice a1 W.gens.length c1, .slice a2 W.free.length c2, .slice a3 W.tabs.length c3, .slice a4 W.res.length c4] 46)).alloc (.cells #[.slice b1 W.gens.length d1, .slice b2 W.free.length d2, .slice b3 W.tabs.length d3, .slice b4 W.res.length d4] 46)) := by (repeat (first | with_reducible exact Below.refl _ _ | with_reducible refine bl_alloc ?_ _ | with_reducible refine bl_drewN ?_ _ | with_reducible refine bl_drew ?_ | with_reducible refine bl_setCell ?_ (by first | exact Nat.le_refl _ | (dsimp only; omega) | (simp <;> omega)) _ | with_reducible refine bl_trans ?_ (by with_reducible assumption)))
 obtain ⟨x0, x1, x2, x3, x4⟩ := k0.four'
 obtain ⟨y0, y1, y2, y3, y4⟩ := k1.four'
 go_enter Try.func25, Try.ntmps25
 go_wp2_with fail
 refine (eqEnts_any a1 a2 b1 b2 c1 c2 d1 d2 W.gens W.free W.gens W.free _ (hW.g.later cInt_keeps L0).ints (hW.f.later cInt_keeps L0).ints (gW.g.later cInt_keeps L0).ints (gW.f.later cInt_keeps L0).ints l1 l2).mono ?_
 rintro e w1 ⟨rfl, hb1⟩
 rw [show decide (W.gens = W.gens ∧ W.free = W.free) = true by simp]
 have L1 := bl_trans L0 hb1
 have K0 := k0.later hb1
 have K1 := k1.later hb1
 clear k0 k1 x0 x1 x2 x3 x4 y0 y1 y2 y3 y4 hb1
 obtain ⟨x0, x1, x2, x3, x4⟩ := K0.four'
 obtain ⟨y0, y1, y2, y3, y4⟩ := K1.four'
 go_wp2_with fail
 refine (eqTableS_gen a3 b3 c3 d3 W.tabs B C _ (hW.t.later cTab_keeps L1) (gW.t.later cTab_keeps L1) l3).mono ?_
 rintro e w2 ⟨rfl, hb2⟩
 have L2 := bl_trans L1 hb2
 have N0 := K0.later hb2
 have N1 := K1.later hb2
 clear K0 K1 x0 x1 x2 x3 x4 y0 y1 y2 y3 y4 hb2
 obtain ⟨x0, x1, x2, x3, x4⟩ := N0.four'
 obtain ⟨y0, y1, y2, y3, y4⟩ := N1.four'
 go_wp2_with fail
 refine (eqValS_gen a4 b4 c4 d4 W.res B C _ (hW.r.later cVal_keeps L2) (gW.r.later cVal_keeps L2) l4).mono ?_
 rintro e w3 ⟨rfl, hb3⟩
 go_wp2_with fail
 go_ret
 exact ⟨rfl, bl_trans L2 hb3⟩
end
section
open Go.RowKit Go.Maps Go.WideMaps
set_option linter.unusedVariables false
set_option linter.unusedSimpArgs false
set_option maxRecDepth 100000
theorem getD_at {α : Type} {L : List α} {j : Nat} {d : α} (h : j < L.length) : L[j]? = some (L.getD j d) := by simp [List.getD, h]
theorem risA_iff {L : List Int} {n j : Nat} (hj : j < L.length) : risA L n j = true ↔ (0 ≤ L.getD j 0 ∧ L.getD j 0 < (n : Int)) ∧ (j = 0 ∨ L.getD (j - 1) 0 < L.getD j 0) := by
 unfold risA
 rw [getD_at (d := 0) hj]
 simp only [Option.elim]
 rw [getD_at (L := L) (j := j - 1) (d := 0) (by omega)]
 simp only [Option.elim, Bool.and_eq_true, Bool.not_eq_true', decide_eq_true_eq, Bool.and_eq_false_iff, decide_eq_false_iff_not]
 omega
theorem cmpB_iff {A : List (ByteArray × Int)} {c : Int} : cmpB A c = true ↔ 0 ≤ c ∧ c < (A.length : Int) := by simp [cmpB]
theorem colB_iff {A : List (ByteArray × Int)} {t : Tab} {j : Nat} : colB A t j = true ↔ cmpB A (t.cols.getD j 0) = true ∧ (j = 0 ∨ t.cols.getD (j - 1) 0 < t.cols.getD j 0) ∧ (t.cells.getD j []).length = t.rows.length ∧ ∀ v ∈ t.cells.getD j [], vofB (dAt A (t.cols.getD j 0).toNat).2 v = true := by
 simp only [colB, Bool.and_eq_true, Bool.or_eq_true, decide_eq_true_eq, List.all_eq_true]
 constructor
 ·
  rintro ⟨⟨⟨h1, h2⟩, h3⟩, h4⟩; exact ⟨h1, h2, h3, h4⟩
 ·
  rintro ⟨h1, h2, h3, h4⟩; exact ⟨⟨⟨h1, h2⟩, h3⟩, h4⟩
theorem scolA_iff {A : List (ByteArray × Int)} {t : Tab} {j : Nat} : scolA A t j = true ↔ (t.cells.getD j []).length = t.rows.length ∧ ∀ v ∈ t.cells.getD j [], cmpB A (t.cols.getD j 0) = true ∧ vofB (dAt A (t.cols.getD j 0).toNat).2 v = true := by
 simp only [scolA, fitB, Bool.and_eq_true, decide_eq_true_eq, List.all_eq_true]
theorem rise_ge {L : List Int} (h : ∀ j, j < L.length → 0 ≤ L.getD j 0 ∧ (j = 0 ∨ L.getD (j - 1) 0 < L.getD j 0)) : ∀ j : Nat, j < L.length → (j : Int) ≤ L.getD j 0
 | 0, hj => by have := (h 0 hj).1; omega
 | j + 1, hj => by
  have h1 := rise_ge h j (by omega)
  rcases (h (j + 1) hj).2 with h2 | h2
  ·
   omega
  ·
   have e : j + 1 - 1 = j := by omega
   rw [e] at h2
   omega
theorem stab_tab {A : List (ByteArray × Int)} (t : Tab) (hA : A.length ≤ 12) : stabB A t = (tabB A t && decide (t.rows.length ≤ 2000)) := by
 rw [Bool.eq_iff_iff]
 simp only [stabB, tabB, risB, Bool.and_eq_true, decide_eq_true_eq, List.all_eq_true, List.mem_range]
 constructor
 ·
  rintro ⟨⟨⟨⟨h1, h2⟩, h3⟩, h4⟩, h5⟩
  refine ⟨⟨h3, fun j hj => ?_⟩, h4⟩
  have r := (risA_iff hj).1 (h2 j hj)
  have s := scolA_iff.1 (h5 j (by omega))
  exact colB_iff.2 ⟨cmpB_iff.2 r.1, r.2, s.1, fun v hv => (s.2 v hv).2⟩
 ·
  rintro ⟨⟨h3, h5⟩, h4⟩
  have hr : ∀ j, j < t.cols.length → 0 ≤ t.cols.getD j 0 ∧ (j = 0 ∨ t.cols.getD (j - 1) 0 < t.cols.getD j 0) := fun j hj => ⟨(cmpB_iff.1 (colB_iff.1 (h5 j hj)).1).1, (colB_iff.1 (h5 j hj)).2.1⟩
  have hl : t.cols.length ≤ 12 := by
   by_cases e : t.cols.length = 0
   ·
    omega
   ·
    have h6 := rise_ge hr (t.cols.length - 1) (by omega)
    have h7 := (cmpB_iff.1 (colB_iff.1 (h5 (t.cols.length - 1) (by omega))).1).2
    omega
  refine ⟨⟨⟨⟨hl, fun j hj => ?_⟩, h3⟩, h4⟩, fun j hj => ?_⟩
  ·
   exact (risA_iff hj).2 ⟨cmpB_iff.1 (colB_iff.1 (h5 j hj)).1, (colB_iff.1 (h5 j hj)).2.1⟩
  ·
   have c := colB_iff.1 (h5 j (by omega))
   exact scolA_iff.2 ⟨c.2.2.1, fun v hv => ⟨c.1, c.2.2.2 v hv⟩⟩
theorem rows_le {T : List Tab} {j : Nat} {t : Tab} (h : T[j]? = some t) : t.rows.length ≤ (rowsOf T).length := by
 rw [rows_pre h]
 simp
 omega
theorem spec_stand (A B C : List (ByteArray × Int)) (W : Wd) : specB A B C W = standB A B C W := by
 cases h1 : okR A B C
 ·
  simp [specB, standB, h1]
 ·
  have hA := okR_l12 h1
  cases h2 : onceB (listB W.gens W.free) W.tabs
  ·
   simp [specB, standB, h2]
  ·
   have e : (List.range W.tabs.length).all (stbA A W.tabs) = tabsB A W.tabs := by
    rw [Bool.eq_iff_iff]
    simp only [tabsB, List.all_eq_true, List.mem_range]
    have key : ∀ j, j < W.tabs.length → stbA A W.tabs j = tabA A W.tabs j := by
     intro j hj
     have ht := List.getElem?_eq_getElem hj
     rw [stbA_eq ht, tabA_eq ht, stab_tab _ hA]
     have hr := rows_le ht
     simp only [onceB, decide_eq_true_eq] at h2
     have hl := listB_len (G := W.gens) (F := W.free)
     have : decide ((W.tabs[j]).rows.length ≤ 2000) = true := by rw [decide_eq_true_eq]; omega
     rw [this, Bool.and_true]
    constructor
    ·
     intro h j hj; rw [← key j hj]; exact h j hj
    ·
     intro h j hj; rw [key j hj]; exact h j hj
   unfold specB standB
   rw [e, h1, h2]
   cases okE W.gens W.free <;> cases resB B W.res <;> cases decide (W.tabs.length ≤ 40) <;> cases tabsB A W.tabs <;> rfl
set_option maxHeartbeats 2000000 in
theorem szReg_top (s1 s2 s3 : Option Addr) (c1 c2 c3 : Nat) (A B C : List (ByteArray × Int)) (w : World) (hA : Decls w s1 A) (hB : Decls w s2 B) (hC : Decls w s3 C) (nA : Nms A) (nB : Nms B) (nC : Nms C) (mA : A.length ≤ maxLen) (mB : B.length ≤ maxLen) (mC : C.length ≤ maxLen) :
  Calls Try.prog 4 #[.agg #[.slice s1 A.length c1, .slice s2 B.length c2, .slice s3 C.length c3], .int .i64 1048576] w fun e w' => (∃ r : Int, e = .returned (.int .i64 r) ∧ (r = -1 ∨ (0 ≤ r ∧ r ≤ 1048576 ∧ A.length ≤ 1048576 ∧ B.length ≤ 1048576 ∧ C.length ≤ 1048576))) ∧ Below w.heap.size w w' := by
 have hal := alloc_old
 have haf := alloc_oldf
 have k0 := Blk.new w #[.slice s1 A.length c1, .slice s2 B.length c2, .slice s3 C.length c3] 24
 go_enter Try.func4, Try.ntmps4
 go_wp2_with fail
 refine (szDeclS_any s1 c1 A 1048576 _ (hA.later (by (repeat (first | with_reducible exact Below.refl _ _ | with_reducible refine bl_alloc ?_ _ | with_reducible refine bl_drewN ?_ _ | with_reducible refine bl_drew ?_ | with_reducible refine bl_setCell ?_ (by first | exact Nat.le_refl _ | (dsimp only; omega) | (simp <;> omega)) _ | with_reducible refine bl_trans ?_ (by with_reducible assumption))))) nA mA (by omega) (by omega)).mono ?_
 rintro e w1 ⟨⟨r, rfl, hr⟩, hb1⟩
 have L1 : Below w.heap.size w w1 := by (repeat (first | with_reducible exact Below.refl _ _ | with_reducible refine bl_alloc ?_ _ | with_reducible refine bl_drewN ?_ _ | with_reducible refine bl_drew ?_ | with_reducible refine bl_setCell ?_ (by first | exact Nat.le_refl _ | (dsimp only; omega) | (simp <;> omega)) _ | with_reducible refine bl_trans ?_ (by with_reducible assumption)))
 have K1 := k0.later hb1
 clear k0 hb1
 obtain ⟨x0, x1, x2, x3⟩ := K1.three
 rcases hr with rfl | ⟨r0, r1, lA⟩
 ·
  go_wp2_with fail
  go_ret
  exact ⟨⟨_, rfl, Or.inl rfl⟩, L1⟩
 ·
  have t2 : decide (r < 0) = false := by simp; omega
  go_wp2_with fail
  refine (szDeclS_any s2 c2 B r _ (hB.later L1) nB mB r0 r1).mono ?_
  rintro e w2 ⟨⟨q, rfl, hq⟩, hb2⟩
  have L2 := bl_trans L1 hb2
  have K2 := K1.later hb2
  clear K1 hb2 x0 x1 x2 x3
  obtain ⟨x0, x1, x2, x3⟩ := K2.three
  rcases hq with rfl | ⟨q0, q1, lB⟩
  ·
   go_wp2_with fail
   go_ret
   exact ⟨⟨_, rfl, Or.inl rfl⟩, L2⟩
  ·
   have t3 : decide (q < 0) = false := by simp; omega
   go_wp2_with fail
   refine (szDeclS_any s3 c3 C q _ (hC.later L2) nC mC q0 (by omega)).mono ?_
   rintro e w3 ⟨⟨p, rfl, hp⟩, hb3⟩
   have L3 := bl_trans L2 hb3
   clear hb3 x0 x1 x2 x3
   rcases hp with rfl | ⟨p0, p1, lC⟩
   ·
    go_wp2_with fail
    go_ret
    exact ⟨⟨_, rfl, Or.inl rfl⟩, L3⟩
   ·
    have t4 : decide (p < 0) = false := by simp; omega
    go_wp2_with fail
    go_ret
    exact ⟨⟨_, rfl, Or.inr ⟨p0, by omega, lA, lB, lC⟩⟩, L3⟩
set_option maxHeartbeats 2000000 in
theorem implWorldOk_any (s1 s2 s3 : Option Addr) (c1 c2 c3 : Nat) (A B C : List (ByteArray × Int)) (a1 a2 a3 a4 : Option Addr) (b1 b2 b3 b4 : Nat) (W : Wd) (w : World) (hA : Decls w s1 A) (hB : Decls w s2 B) (hC : Decls w s3 C) (nm : ∀ i, i < (A ++ B ++ C).length → (dAt (A ++ B ++ C) i).1.size ≤ maxLen) (l1 : A.length ≤ 1048576) (l2 : B.length ≤ 1048576) (l3 : C.length ≤ 1048576)
  (hW : InW w 0 a1 a2 a3 a4 W) (hk : kW W) (hcap : W.tabs.length ≤ b3) (bR : ∀ t ∈ W.tabs, ∀ x ∈ t.rows, bE x) :
  Calls Try.prog 22 #[.agg #[.slice s1 A.length c1, .slice s2 B.length c2, .slice s3 C.length c3], .agg #[.slice a1 W.gens.length b1, .slice a2 W.free.length b2, .slice a3 W.tabs.length b3, .slice a4 W.res.length b4]] w fun e w' => e = .returned (.bool (standB A B C W)) ∧ Below w.heap.size w w' := by
 have hal := alloc_old
 have haf := alloc_oldf
 obtain ⟨k0, k1, L0⟩ := boxTwo w #[.slice s1 A.length c1, .slice s2 B.length c2, .slice s3 C.length c3] #[.slice a1 W.gens.length b1, .slice a2 W.free.length b2, .slice a3 W.tabs.length b3, .slice a4 W.res.length b4] 40 46
 go_enter Try.func22, Try.ntmps22
 go_wp2_with fail
 refine (standsOf_any s1 s2 s3 c1 c2 c3 A B C a1 a2 a3 a4 b1 b2 b3 b4 W _ (hA.later L0) (hB.later L0) (hC.later L0) nm l1 l2 l3 (hW.later L0) hk hcap bR).mono ?_
 rintro e w2 ⟨⟨v, rfl, _⟩, hb2⟩
 have L2 := bl_trans L0 hb2
 go_wp2_with fail
 go_ret
 exact ⟨rfl, L2⟩
end
end Go.Proofs.Ytjfpflejnbnhnaa
