import Derived.Test.YtnockfpobpidgaaGreatSl07
import Derived.Lib.SmallJoins
import Derived.Maps.AppendAt
import Derived.Test.YtnockfpobpidgaaGreatSl06
namespace Go.Proofs.YtnockfpobpidgaaGreat
section
open Go.RowKit
set_option linter.unusedVariables false
set_option linter.unusedSimpArgs false
theorem eqB_self (k i : Int) (x y : Nat) : eqB k i x y k i x y = true := by simp [eqB, sameB_refl]
set_option maxHeartbeats 2000000 in
theorem eqEntS_gen (s t : Option Addr) (c d : Nat) (L : List E2) (B C : Nat) (w : World) (hs : Els 2 cEnt w B s L) (ht : Els 2 cEnt w C t L) (hl : L.length ≤ 1048576) :
  Calls Tryz.prog 142 #[.slice s L.length c, .slice t L.length d] w fun e w' => e = .returned (.bool true) ∧ Below w.heap.size w w' := by
 have hal := alloc_old
 have haf := alloc_oldf
 go_enter Tryz.func142, Tryz.ntmps142
 go_wp2_with fail
 go_loopw [5] (fun i wr => ∃ k : Nat, k ≤ L.length ∧ i = .int .i64 k ∧ Below w.heap.size w wr) (fun i _ => L.length - (intOf i).toNat)
 case atStart => exact ⟨0, Nat.zero_le _, rfl, Below.refl _ _⟩
 case round =>
  obtain ⟨k, hk, rfl, hb⟩ := hrel
  by_cases hlt : k < L.length
  ·
   obtain ⟨a, ha⟩ := get_some hlt
   obtain ⟨b, o, rfl, _, hp, e1, e2⟩ := eEnt_cells (hs.later cEnt_keeps hb) ha
   obtain ⟨b', o', rfl, _, hp', e3, e4⟩ := eEnt_cells (ht.later cEnt_keeps hb) ha
   obtain ⟨p1, p2⟩ := a
   clear hs ht ha
   go_wp2_with fail
   go_region_with (first
    | (go_at_call 28; refine (eqEnt_any p1 p2 p1 p2 _).mono ?_; rintro e w2 ⟨rfl, hb2⟩; rw [show (p1 == p1 && p2 == p2) = true by simp]))
   all_goals
    go_wp2_with fail
    go_roundw
    case rel =>
     refine ⟨k + 1, by omega, by go_num, ?_⟩
     (repeat (first | with_reducible exact Below.refl _ _ | with_reducible refine bl_alloc ?_ _ | with_reducible refine bl_drewN ?_ _ | with_reducible refine bl_drew ?_ | with_reducible refine bl_setCell ?_ (by first | exact Nat.le_refl _ | (dsimp only; omega) | (simp <;> omega)) _ | with_reducible refine bl_trans ?_ (by with_reducible assumption)))
    case measure => simp [intOf]; omega
  ·
   go_wp2_with fail
   go_ret
   exact ⟨rfl, hb⟩
set_option maxHeartbeats 4000000 in
theorem eqValS_gen (s t : Option Addr) (c d : Nat) (L : List V4) (B C : Nat) (w : World) (hs : Els 4 cVal w B s L) (ht : Els 4 cVal w C t L) (hl : L.length ≤ 1048576) :
  Calls Tryz.prog 46 #[.slice s L.length c, .slice t L.length d] w fun e w' => e = .returned (.bool true) ∧ Below w.heap.size w w' := by
 have hal := alloc_old
 have haf := alloc_oldf
 go_enter Tryz.func46, Tryz.ntmps46
 go_wp2_with fail
 go_loopw [5] (fun i wr => ∃ k : Nat, k ≤ L.length ∧ i = .int .i64 k ∧ Below w.heap.size w wr) (fun i _ => L.length - (intOf i).toNat)
 case atStart => exact ⟨0, Nat.zero_le _, rfl, Below.refl _ _⟩
 case round =>
  obtain ⟨k, hk, rfl, hb⟩ := hrel
  by_cases hlt : k < L.length
  ·
   obtain ⟨a, ha⟩ := get_some hlt
   obtain ⟨b, o, rfl, _, hp, hok, e1, e2, e3, e4⟩ := eVal_cells (hs.later cVal_keeps hb) ha
   obtain ⟨b', o', rfl, _, hp', _, f1, f2, f3, f4⟩ := eVal_cells (ht.later cVal_keeps hb) ha
   obtain ⟨p1, p2, p3, p4⟩ := a
   have HX : Hid (p3 < 18446744073709551616) := hok.2.1
   have HY : Hid (p4 < 18446744073709551616) := hok.2.2
   clear hs ht ha hok
   go_wp2_with fail
   go_region_with (first
    | (go_at_call 93; refine (eqVal_any p1 p2 p3 p4 p1 p2 p3 p4 _ HX.out HY.out HX.out HY.out).mono ?_; rintro e w2 ⟨rfl, hb2⟩; rw [eqB_self]))
   all_goals
    go_wp2_with fail
    go_roundw
    case rel =>
     refine ⟨k + 1, by omega, by go_num, ?_⟩
     (repeat (first | with_reducible exact Below.refl _ _ | with_reducible refine bl_alloc ?_ _ | with_reducible refine bl_drewN ?_ _ | with_reducible refine bl_drew ?_ | with_reducible refine bl_setCell ?_ (by first | exact Nat.le_refl _ | (dsimp only; omega) | (simp <;> omega)) _ | with_reducible refine bl_trans ?_ (by with_reducible assumption)))
    case measure => simp [intOf]; omega
  ·
   go_wp2_with fail
   go_ret
   exact ⟨rfl, hb⟩
set_option maxHeartbeats 4000000 in
theorem eqValSS_gen (s t : Option Addr) (c d : Nat) (L : List (List V4)) (B C : Nat) (w : World) (hs : Els 1 cVals w B s L) (ht : Els 1 cVals w C t L) (hl : kLL L) :
  Calls Tryz.prog 143 #[.slice s L.length c, .slice t L.length d] w fun e w' => e = .returned (.bool true) ∧ Below w.heap.size w w' := by
 have hal := alloc_old
 have haf := alloc_oldf
 obtain ⟨hl, hls⟩ := hl
 have HLS : Hid (∀ l ∈ L, l.length ≤ 1048576) := hls
 clear hls
 go_enter Tryz.func143, Tryz.ntmps143
 go_wp2_with fail
 go_loopw [5] (fun i wr => ∃ k : Nat, k ≤ L.length ∧ i = .int .i64 k ∧ Below w.heap.size w wr) (fun i _ => L.length - (intOf i).toNat)
 case atStart => exact ⟨0, Nat.zero_le _, rfl, Below.refl _ _⟩
 case round =>
  obtain ⟨k, hk, rfl, hb⟩ := hrel
  by_cases hlt : k < L.length
  ·
   obtain ⟨a, ha⟩ := get_some hlt
   obtain ⟨b, o, rfl, _, hp, s1, c1, e1, e2⟩ := eVals_cells (hs.later cVals_keeps hb) ha
   obtain ⟨b', o', rfl, _, hp', s2, c2, f1, f2⟩ := eVals_cells (ht.later cVals_keeps hb) ha
   have hal1 := HLS.out a (List.mem_of_getElem? ha)
   have E2' : Hid (Els 4 cVal wr B s1 a) := e2
   have F2' : Hid (Els 4 cVal wr C s2 a) := f2
   clear hs ht ha e2 f2
   go_wp2_with fail
   go_region_with (first
    | (go_at_call 46; refine (eqValS_gen s1 s2 c1 c2 a B C _ (E2'.out.later cVal_keeps (bl_drew (Below.refl _ _))) (F2'.out.later cVal_keeps (bl_drew (Below.refl _ _))) hal1).mono ?_; rintro e w2 ⟨rfl, hb2⟩))
   all_goals
    go_wp2_with fail
    go_roundw
    case rel =>
     refine ⟨k + 1, by omega, by go_num, ?_⟩
     (repeat (first | with_reducible exact Below.refl _ _ | with_reducible refine bl_alloc ?_ _ | with_reducible refine bl_drewN ?_ _ | with_reducible refine bl_drew ?_ | with_reducible refine bl_setCell ?_ (by first | exact Nat.le_refl _ | (dsimp only; omega) | (simp <;> omega)) _ | with_reducible refine bl_trans ?_ (by with_reducible assumption)))
    case measure => simp [intOf]; omega
  ·
   go_wp2_with fail
   go_ret
   exact ⟨rfl, hb⟩
set_option maxHeartbeats 4000000 in
theorem eqTable_gen (s1 s2 s3 t1 t2 t3 : Option Addr) (c1 c2 c3 d1 d2 d3 : Nat) (t : Tab) (B C : Nat) (w : World) (hA : Els 1 cInt w B s1 t.cols) (hB : Els 2 cEnt w B s2 t.rows) (hC : Els 1 cVals w B s3 t.cells) (gA : Els 1 cInt w C t1 t.cols) (gB : Els 2 cEnt w C t2 t.rows) (gC : Els 1 cVals w C t3 t.cells) (hk : kTab t) :
  Calls Tryz.prog 92 #[.agg #[.slice s1 t.cols.length c1, .slice s2 t.rows.length c2, .slice s3 t.cells.length c3], .agg #[.slice t1 t.cols.length d1, .slice t2 t.rows.length d2, .slice t3 t.cells.length d3]] w fun e w' => e = .returned (.bool true) ∧ Below w.heap.size w w' := by
 have hal := alloc_old
 have haf := alloc_oldf
 obtain ⟨l1, l2, l3⟩ := hk
 obtain ⟨k0, k1⟩ := blk2 w #[.slice s1 t.cols.length c1, .slice s2 t.rows.length c2, .slice s3 t.cells.length c3] #[.slice t1 t.cols.length d1, .slice t2 t.rows.length d2, .slice t3 t.cells.length d3] 138 138
 have L0 : Below w.heap.size w ((w.alloc (.cells #[.slice s1 t.cols.length c1, .slice s2 t.rows.length c2, .slice s3 t.cells.length c3] 138)).alloc (.cells #[.slice t1 t.cols.length d1, .slice t2 t.rows.length d2, .slice t3 t.cells.length d3] 138)) := by (repeat (first | with_reducible exact Below.refl _ _ | with_reducible refine bl_alloc ?_ _ | with_reducible refine bl_drewN ?_ _ | with_reducible refine bl_drew ?_ | with_reducible refine bl_setCell ?_ (by first | exact Nat.le_refl _ | (dsimp only; omega) | (simp <;> omega)) _ | with_reducible refine bl_trans ?_ (by with_reducible assumption)))
 obtain ⟨x0, x1, x2, x3⟩ := k0.three'
 obtain ⟨y0, y1, y2, y3⟩ := k1.three'
 go_enter Tryz.func92, Tryz.ntmps92
 go_wp2_with fail
 refine (eqInts_any s1 t1 c1 d1 t.cols t.cols _ (hA.later cInt_keeps L0).ints (gA.later cInt_keeps L0).ints l1).mono ?_
 rintro e w1 ⟨rfl, hb1⟩
 rw [show decide (t.cols = t.cols) = true by simp]
 have L1 := bl_trans L0 hb1
 have K0 := k0.later hb1
 have K1 := k1.later hb1
 clear k0 k1 x0 x1 x2 x3 y0 y1 y2 y3 hb1
 obtain ⟨x0, x1, x2, x3⟩ := K0.three'
 obtain ⟨y0, y1, y2, y3⟩ := K1.three'
 go_wp2_with fail
 refine (eqEntS_gen s2 t2 c2 d2 t.rows B C _ (hB.later cEnt_keeps L1) (gB.later cEnt_keeps L1) l2).mono ?_
 rintro e w2 ⟨rfl, hb2⟩
 have L2 := bl_trans L1 hb2
 have N0 := K0.later hb2
 have N1 := K1.later hb2
 clear K0 K1 x0 x1 x2 x3 y0 y1 y2 y3 hb2
 obtain ⟨x0, x1, x2, x3⟩ := N0.three'
 obtain ⟨y0, y1, y2, y3⟩ := N1.three'
 go_wp2_with fail
 refine (eqValSS_gen s3 t3 c3 d3 t.cells B C _ (hC.later cVals_keeps L2) (gC.later cVals_keeps L2) l3).mono ?_
 rintro e w3 ⟨rfl, hb3⟩
 go_wp2_with fail
 go_ret
 exact ⟨rfl, bl_trans L2 hb3⟩
set_option maxHeartbeats 4000000 in
theorem eqTableS_gen (s t : Option Addr) (c d : Nat) (L : List Tab) (B C : Nat) (w : World) (hs : Els 3 cTab w B s L) (ht : Els 3 cTab w C t L) (hl : kTabs L) :
  Calls Tryz.prog 45 #[.slice s L.length c, .slice t L.length d] w fun e w' => e = .returned (.bool true) ∧ Below w.heap.size w w' := by
 have hal := alloc_old
 have haf := alloc_oldf
 obtain ⟨hl, hls⟩ := hl
 have HLS : Hid (∀ l ∈ L, kTab l) := hls
 clear hls
 go_enter Tryz.func45, Tryz.ntmps45
 go_wp2_with fail
 go_loopw [5] (fun i wr => ∃ k : Nat, k ≤ L.length ∧ i = .int .i64 k ∧ Below w.heap.size w wr) (fun i _ => L.length - (intOf i).toNat)
 case atStart => exact ⟨0, Nat.zero_le _, rfl, Below.refl _ _⟩
 case round =>
  obtain ⟨k, hk, rfl, hb⟩ := hrel
  by_cases hlt : k < L.length
  ·
   obtain ⟨a, ha⟩ := get_some hlt
   obtain ⟨b, o, rfl, _, hp, s1, c1, s2, c2, s3, c3, e1, e2, e3, p1, p2, p3⟩ := eTab_cells (hs.later cTab_keeps hb) ha
   obtain ⟨b', o', rfl, _, hp', t1, d1, t2, d2, t3, d3, f1, f2, f3, q1, q2, q3⟩ := eTab_cells (ht.later cTab_keeps hb) ha
   have hal1 := HLS.out a (List.mem_of_getElem? ha)
   have PH : Hid (Els 1 cInt wr B s1 a.cols ∧ Els 2 cEnt wr B s2 a.rows ∧ Els 1 cVals wr B s3 a.cells) := ⟨p1, p2, p3⟩
   have QH : Hid (Els 1 cInt wr C t1 a.cols ∧ Els 2 cEnt wr C t2 a.rows ∧ Els 1 cVals wr C t3 a.cells) := ⟨q1, q2, q3⟩
   clear hs ht ha p1 p2 p3 q1 q2 q3
   go_wp2_with fail
   go_region_with (first
    | (go_at_call 92; refine (eqTable_gen s1 s2 s3 t1 t2 t3 c1 c2 c3 d1 d2 d3 a B C _ (PH.out.1.later cInt_keeps (bl_drew (Below.refl _ _))) (PH.out.2.1.later cEnt_keeps (bl_drew (Below.refl _ _))) (PH.out.2.2.later cVals_keeps (bl_drew (Below.refl _ _))) (QH.out.1.later cInt_keeps (bl_drew (Below.refl _ _))) (QH.out.2.1.later cEnt_keeps (bl_drew (Below.refl _ _))) (QH.out.2.2.later cVals_keeps (bl_drew (Below.refl _ _))) hal1).mono ?_; rintro e w2 ⟨rfl, hb2⟩))
   all_goals
    go_wp2_with fail
    go_roundw
    case rel =>
     refine ⟨k + 1, by omega, by go_num, ?_⟩
     (repeat (first | with_reducible exact Below.refl _ _ | with_reducible refine bl_alloc ?_ _ | with_reducible refine bl_drewN ?_ _ | with_reducible refine bl_drew ?_ | with_reducible refine bl_setCell ?_ (by first | exact Nat.le_refl _ | (dsimp only; omega) | (simp <;> omega)) _ | with_reducible refine bl_trans ?_ (by with_reducible assumption)))
    case measure => simp [intOf]; omega
  ·
   go_wp2_with fail
   go_ret
   exact ⟨rfl, hb⟩
set_option maxHeartbeats 4000000 in
theorem eqWorld_gen (a1 a2 a3 a4 b1 b2 b3 b4 : Option Addr) (c1 c2 c3 c4 d1 d2 d3 d4 : Nat) (W : Wd) (B C : Nat) (w : World) (hW : InW w B a1 a2 a3 a4 W) (gW : InW w C b1 b2 b3 b4 W) (hk : kW W) :
  Calls Tryz.prog 14 #[.agg #[.slice a1 W.gens.length c1, .slice a2 W.free.length c2, .slice a3 W.tabs.length c3, .slice a4 W.res.length c4], .agg #[.slice b1 W.gens.length d1, .slice b2 W.free.length d2, .slice b3 W.tabs.length d3, .slice b4 W.res.length d4]] w fun e w' => e = .returned (.bool true) ∧ Below w.heap.size w w' := by
 have hal := alloc_old
 have haf := alloc_oldf
 obtain ⟨l1, l2, l3, l4⟩ := hk
 obtain ⟨k0, k1⟩ := blk2 w #[.slice a1 W.gens.length c1, .slice a2 W.free.length c2, .slice a3 W.tabs.length c3, .slice a4 W.res.length c4] #[.slice b1 W.gens.length d1, .slice b2 W.free.length d2, .slice b3 W.tabs.length d3, .slice b4 W.res.length d4] 40 40
 have L0 : Below w.heap.size w ((w.alloc (.cells #[.slice a1 W.gens.length c1, .slice a2 W.free.length c2, .slice a3 W.tabs.length c3, .slice a4 W.res.length c4] 40)).alloc (.cells #[.slice b1 W.gens.length d1, .slice b2 W.free.length d2, .slice b3 W.tabs.length d3, .slice b4 W.res.length d4] 40)) := by (repeat (first | with_reducible exact Below.refl _ _ | with_reducible refine bl_alloc ?_ _ | with_reducible refine bl_drewN ?_ _ | with_reducible refine bl_drew ?_ | with_reducible refine bl_setCell ?_ (by first | exact Nat.le_refl _ | (dsimp only; omega) | (simp <;> omega)) _ | with_reducible refine bl_trans ?_ (by with_reducible assumption)))
 obtain ⟨x0, x1, x2, x3, x4⟩ := k0.four'
 obtain ⟨y0, y1, y2, y3, y4⟩ := k1.four'
 go_enter Tryz.func14, Tryz.ntmps14
 go_wp2_with fail
 refine (eqEnts_any a1 a2 b1 b2 c1 c2 d1 d2 W.gens W.free W.gens W.free _ (hW.g.later cInt_keeps L0).ints (hW.f.later cInt_keeps L0).ints (gW.g.later cInt_keeps L0).ints (gW.f.later cInt_keeps L0).ints l1 l2).mono ?_
 rintro e w1 ⟨rfl, hb1⟩
 rw [show decide (W.gens = W.gens ∧ W.free = W.free) = true by simp]
 have L1 := bl_trans L0 hb1
 have K0 := k0.later hb1
 have K1 := k1.later hb1
 clear k0 k1 x0 x1 x2 x3 x4 y0 y1 y2 y3 y4 hb1
 obtain ⟨x0, x1, x2, x3, x4⟩ := K0.four'
 obtain ⟨y0, y1, y2, y3, y4⟩ := K1.four'
 go_wp2_with fail
 refine (eqTableS_gen a3 b3 c3 d3 W.tabs B C _ (hW.t.later cTab_keeps L1) (gW.t.later cTab_keeps L1) l3).mono ?_
 rintro e w2 ⟨rfl, hb2⟩
 have L2 := bl_trans L1 hb2
 have N0 := K0.later hb2
 have N1 := K1.later hb2
 clear K0 K1 x0 x1 x2 x3 x4 y0 y1 y2 y3 y4 hb2
 obtain ⟨x0, x1, x2, x3, x4⟩ := N0.four'
 obtain ⟨y0, y1, y2, y3, y4⟩ := N1.four'
 go_wp2_with fail
 refine (eqValS_gen a4 b4 c4 d4 W.res B C _ (hW.r.later cVal_keeps L2) (gW.r.later cVal_keeps L2) l4).mono ?_
 rintro e w3 ⟨rfl, hb3⟩
 go_wp2_with fail
 go_ret
 exact ⟨rfl, bl_trans L2 hb3⟩
end
section
open Go.RowKit
set_option linter.unusedVariables false
set_option linter.unusedSimpArgs false
structure OR where
 T : TypeId
 k : Nat
 v : Value
 n : Nat
 cs : List Value
def OR.on (w : World) (B : Nat) (r : OR) : Prop := w.ownsRow B r.T r.k r.v r.n r.cs
def blks (R : List OR) : List Nat := R.filterMap fun r => r.v.ownBlock
structure Owns (w : World) (B : Nat) (R : List OR) : Prop where
 on : ∀ r ∈ R, r.on w B
 nd : (blks R).Nodup
theorem OR.on.lt {w : World} {B : Nat} {r : OR} (h : r.on w B) : ∀ g, r.v.ownBlock = some g → B ≤ g ∧ g < w.heap.size := World.ownsRow.lt h
theorem OR.on.same {w w' : World} {B : Nat} {r : OR} (h : r.on w B) (hs : ∀ g, r.v.ownBlock = some g → w'.heap[g]? = w.heap[g]?) : r.on w' B := by
 refine ⟨h.1, ?_⟩
 rcases h.2 with h' | ⟨g, cap', cur, h', hb, hg, r'⟩
 ·
  exact Or.inl h'
 ·
  exact Or.inr ⟨g, cap', cur, h', hb, (hs g (by rw [h']; rfl)).trans hg, r'⟩
theorem OR.on.mono {w : World} {B B' : Nat} {r : OR} (h : r.on w B) (hB : B' ≤ B) : r.on w B' := Go.Joins.ownsRow_le h hB
theorem mem_blks {R : List OR} {g : Nat} : g ∈ blks R ↔ ∃ r ∈ R, r.v.ownBlock = some g := by simp [blks]
theorem blks_cons (r : OR) (R : List OR) : blks (r :: R) = r.v.ownBlock.toList ++ blks R := by
 unfold blks
 rw [List.filterMap_cons]
 cases h : r.v.ownBlock <;> simp
theorem blks_append (R S : List OR) : blks (R ++ S) = blks R ++ blks S := by simp [blks]
theorem Owns.nil (w : World) (B : Nat) : Owns w B [] := ⟨fun r h => by simp at h, by simp [blks]⟩
theorem Owns.perm {w : World} {B : Nat} {R S : List OR} (h : Owns w B R) (hp : R.Perm S) : Owns w B S :=
 ⟨fun r hr => h.on r (hp.mem_iff.2 hr), (hp.filterMap _).nodup_iff.1 h.nd⟩
theorem Owns.mono {w : World} {B B' : Nat} {R : List OR} (h : Owns w B R) (hB : B' ≤ B) : Owns w B' R := ⟨fun r hr => (h.on r hr).mono hB, h.nd⟩
theorem Owns.lt {w : World} {B : Nat} {R : List OR} (h : Owns w B R) {g : Nat} (hg : g ∈ blks R) : B ≤ g ∧ g < w.heap.size := by
 obtain ⟨r, hr, e⟩ := mem_blks.1 hg
 exact (h.on r hr).lt g e
theorem Owns.same {w w' : World} {B : Nat} {R : List OR} (h : Owns w B R) (hs : ∀ g, g ∈ blks R → w'.heap[g]? = w.heap[g]?) : Owns w' B R :=
 ⟨fun r hr => (h.on r hr).same fun g hg => hs g (mem_blks.2 ⟨r, hr, hg⟩), h.nd⟩
theorem Owns.later {w w' : World} {B : Nat} {R : List OR} (h : Owns w B R) (hb : Below w.heap.size w w') : Owns w' B R :=
 h.same fun g hg => hb.block g (h.lt hg).2
theorem Owns.kept {w w' : World} {B : Nat} {R : List OR} (h : Owns w B R) (hk : Kept B w w') : Owns w' B R :=
 h.same fun g hg => hk.2 g (h.lt hg).1 (h.lt hg).2
theorem Owns.grown {w w' : World} {B : Nat} {R : List OR} {r : Option Nat} (h : Owns w B R) (hg : w.grownBy w' r) (hn : ∀ g, r = some g → ¬ g ∈ blks R) : Owns w' B R :=
 h.same fun g hg' => hg.block g (h.lt hg').2 (fun e => hn g e.symm hg')
theorem Owns.tail {w : World} {B : Nat} {r : OR} {R : List OR} (h : Owns w B (r :: R)) : Owns w B R := by
 refine ⟨fun q hq => h.on q (by simp [hq]), ?_⟩
 have := h.nd
 rw [blks_cons] at this
 exact (List.nodup_append.1 this).2.1
theorem Owns.head {w : World} {B : Nat} {r : OR} {R : List OR} (h : Owns w B (r :: R)) : r.on w B := h.on r (by simp)
theorem Owns.off {w : World} {B : Nat} {r : OR} {R : List OR} (h : Owns w B (r :: R)) {g : Nat} (hg : r.v.ownBlock = some g) : ¬ g ∈ blks R := by
 have := h.nd
 rw [blks_cons, hg] at this
 intro hm
 exact (List.nodup_append.1 this).2.2 g (by simp) g hm rfl
theorem Owns.left {w : World} {B : Nat} {R S : List OR} (h : Owns w B (R ++ S)) : Owns w B R := by
 refine ⟨fun q hq => h.on q (by simp [hq]), ?_⟩
 have := h.nd
 rw [blks_append] at this
 exact (List.nodup_append.1 this).1
theorem Owns.right {w : World} {B : Nat} {R S : List OR} (h : Owns w B (R ++ S)) : Owns w B S := by
 refine ⟨fun q hq => h.on q (by simp [hq]), ?_⟩
 have := h.nd
 rw [blks_append] at this
 exact (List.nodup_append.1 this).2.1
theorem Owns.join {w : World} {B : Nat} {R S : List OR} (h : Owns w B R) (g : Owns w B S) (ha : ∀ b, b ∈ blks R → ¬ b ∈ blks S) : Owns w B (R ++ S) := by
 refine ⟨fun q hq => ?_, ?_⟩
 ·
  rcases List.mem_append.1 hq with h' | h'
  ·
   exact h.on q h'
  ·
   exact g.on q h'
 ·
  rw [blks_append]
  exact List.nodup_append.2 ⟨h.nd, g.nd, fun a ha' b hb e => ha a ha' (e ▸ hb)⟩
theorem Owns.add {w w' : World} {B : Nat} {R S : List OR} (h : Owns w B R) (hb : Below w.heap.size w w') (g : Owns w' w.heap.size S) (hB : B ≤ w.heap.size) : Owns w' B (R ++ S) :=
 (h.later hb).join (g.mono hB) fun b h1 h2 => by
  have := (h.lt h1).2
  have := (g.lt h2).1
  omega
theorem Owns.one {w : World} {B : Nat} {r : OR} (h : r.on w B) : Owns w B [r] := by
 refine ⟨fun q hq => ?_, ?_⟩
 ·
  simp at hq; subst hq; exact h
 ·
  rw [blks_cons]; cases r.v.ownBlock <;> simp [blks]
theorem Owns.turn {w w' : World} {B : Nat} {r r' : OR} {R : List OR} (h : Owns w B (r :: R)) (hg : w.grownBy w' r.v.ownBlock) (hr : r'.on w' B) (hn : ∀ g, r'.v.ownBlock = some g → r.v.ownBlock = some g ∨ w.heap.size ≤ g) : Owns w' B (r' :: R) := by
 have ht := h.tail.grown hg (fun g e => h.off e)
 refine (Owns.one hr).join ht fun b h1 h2 => ?_
 obtain ⟨q, hq, e⟩ := mem_blks.1 h1
 simp at hq
 subst hq
 rcases hn b e with e' | e'
 ·
  exact h.off e' h2
 ·
  have := (h.tail.lt h2).2
  omega
end
section
open Go.RowKit
set_option linter.unusedVariables false
set_option linter.unusedSimpArgs false
structure TV where
 c : Value
 r : Value
 x : Value
 xs : List Value
structure WV where
 g : Value
 f : Value
 t : Value
 r : Value
 ts : List TV
def rI (v : Value) (L : List Int) : OR := ⟨3, 1, v, L.length, L.map (Value.int .i64)⟩
def rE (v : Value) (L : List E2) : OR := ⟨48, 2, v, L.length, ecells L⟩
def rV (v : Value) (L : List V4) : OR := ⟨61, 4, v, L.length, L.flatMap vcells⟩
def rS (v : Value) (xs : List Value) : OR := ⟨38, 1, v, xs.length, xs⟩
def tc (t : TV) : List Value := [t.c, t.r, t.x]
def rT (v : Value) (ts : List TV) : OR := ⟨138, 3, v, ts.length, ts.flatMap tc⟩
def rVs (xs : List Value) (C : List (List V4)) : List OR := List.zipWith rV xs C
def rTab (t : TV) (T : Tab) : List OR := rI t.c T.cols :: rE t.r T.rows :: rS t.x t.xs :: rVs t.xs T.cells
def rTabs (ts : List TV) (Ts : List Tab) : List OR := (List.zipWith rTab ts Ts).flatten
def rW (V : WV) (W : Wd) : List OR := rI V.g W.gens :: rI V.f W.free :: rT V.t V.ts :: rV V.r W.res :: rTabs V.ts W.tabs
def okVs (L : List V4) : Prop := ∀ v ∈ L, okV v
structure OTb (w : World) (B : Nat) (t : TV) (T : Tab) : Prop where
 own : Owns w B (rTab t T)
 len : t.xs.length = T.cells.length
 ok : ∀ L ∈ T.cells, okVs L
structure OW (w : World) (B : Nat) (V : WV) (W : Wd) : Prop where
 own : Owns w B (rW V W)
 len : V.ts.length = W.tabs.length
 lens : ∀ (j : Nat) t T, V.ts[j]? = some t → W.tabs[j]? = some T → t.xs.length = T.cells.length
 okc : ∀ T ∈ W.tabs, ∀ L ∈ T.cells, okVs L
 okr : okVs W.res
theorem els_own {α : Type} {k : Nat} {E : World → Nat → List Value → α → Prop} {f : α → List Value} (hf : ∀ a, (f a).length = k) {w : World} {B : Nat} {T : TypeId} {s : Option Addr} {c : Nat} {L : List α} (h : w.ownsRow B T k (.slice s L.length c) L.length (L.flatMap f)) (hE : ∀ a ∈ L, E w B (f a) a) : Els k E w B s L := by
 rcases Go.Joins.ownsRow_forms h with ⟨_, h0⟩ | ⟨g, cap, e⟩
 ·
  exact Or.inl (List.length_eq_zero_iff.1 h0)
 ·
  cases e; exact els_of_row hf h hE
theorem OR.on.shape {w : World} {B : Nat} {r : OR} (h : r.on w B) : ∃ s c, r.v = .slice s r.n c := by
 rcases Go.Joins.ownsRow_forms h with ⟨e, h0⟩ | ⟨g, cap, e⟩
 ·
  exact ⟨_, _, by rw [e, h0]⟩
 ·
  exact ⟨_, _, e⟩
theorem map_flat (L : List Int) : L.map (Value.int .i64) = L.flatMap fun n => [Value.int .i64 n] := by
 induction L with
 | nil => rfl
 | cons a L ih => rw [List.map_cons, List.flatMap_cons, ih]; rfl
theorem rI_els {w : World} {B : Nat} {s : Option Addr} {c : Nat} {L : List Int} (h : (rI (.slice s L.length c) L).on w B) : Els 1 cInt w B s L := by
 refine els_own (f := fun n => [Value.int .i64 n]) (fun _ => rfl) (T := 3) (c := c) ?_ (fun a _ => rfl)
 rw [← map_flat]; exact h
theorem rE_els {w : World} {B : Nat} {s : Option Addr} {c : Nat} {L : List E2} (h : (rE (.slice s L.length c) L).on w B) : Els 2 cEnt w B s L :=
 els_own (α := E2) (f := fun p => [.int .i64 p.1, .int .i64 p.2]) (fun _ => rfl) (T := 48) (c := c) h (fun a _ => rfl)
theorem rV_els {w : World} {B : Nat} {s : Option Addr} {c : Nat} {L : List V4} (h : (rV (.slice s L.length c) L).on w B) (ok : okVs L) : Els 4 cVal w B s L :=
 els_own (f := vcells) (fun _ => rfl) (T := 61) (c := c) h (fun a ha => ⟨rfl, ok a ha⟩)
theorem mem_zipWith {α β γ : Type} {f : α → β → γ} {A : List α} {C : List β} {j : Nat} {a : α} {c : β} (h1 : A[j]? = some a) (h2 : C[j]? = some c) : f a c ∈ List.zipWith f A C := by
 refine List.mem_of_getElem? (i := j) ?_
 rw [List.getElem?_zipWith, h1, h2]
theorem rS_els {w : World} {B : Nat} {s : Option Addr} {c : Nat} {xs : List Value} {C : List (List V4)} (hl : xs.length = C.length) (h : (rS (.slice s C.length c) xs).on w B) (ho : ∀ (j : Nat) v L, xs[j]? = some v → C[j]? = some L → (rV v L).on w B) (ok : ∀ L ∈ C, okVs L) : Els 1 cVals w B s C := by
 have h' : w.ownsRow B 38 1 (.slice s C.length c) C.length xs := by rw [← hl]; rw [← hl] at h; exact h
 rcases Go.Joins.ownsRow_forms h' with ⟨_, h0⟩ | ⟨g, cap, e⟩
 ·
  exact Or.inl (List.length_eq_zero_iff.1 h0)
 ·
  cases e
  have hlt := World.ownsRow.lt h' g rfl
  refine Or.inr ⟨g, 0, rfl, hlt.1, hlt.2, fun j L hL => ?_, fun _ j => World.ownsRow.frozenAt h' j⟩
  have hj : j < C.length := (List.getElem?_eq_some_iff.1 hL).1
  obtain ⟨v, hv⟩ := get_some (L := xs) (k := j) (by omega)
  have hr := ho j v L hv hL
  obtain ⟨s', c', e'⟩ := hr.shape
  refine ⟨[v], rfl, fun i u hu => ?_, s', c', by rw [show v = _ from e']; rfl, ?_⟩
  ·
   match i, hu with
   | 0, hu =>
    simp at hu; subst hu
    rw [Nat.zero_add, Nat.mul_one, Nat.add_zero, World.ownsRow.cellAt h' j (by omega), hv]
  ·
   refine rV_els (c := c') ?_ (ok L (List.mem_of_getElem? hL))
   have e2 : v = .slice s' L.length c' := e'
   rw [← e2]; exact hr
theorem rVs_on {w : World} {B : Nat} {xs : List Value} {C : List (List V4)} (h : ∀ r ∈ rVs xs C, r.on w B) : ∀ (j : Nat) v L, xs[j]? = some v → C[j]? = some L → (rV v L).on w B :=
 fun j v L h1 h2 => h _ (mem_zipWith h1 h2)
theorem OTb.tab {w : World} {B : Nat} {t : TV} {T : Tab} (h : OTb w B t T) : cTab w B (tc t) T := by
 have hc := h.own.on _ (show rI t.c T.cols ∈ rTab t T by simp [rTab])
 have hr := h.own.on _ (show rE t.r T.rows ∈ rTab t T by simp [rTab])
 have hx := h.own.on _ (show rS t.x t.xs ∈ rTab t T by simp [rTab])
 obtain ⟨s1, c1, e1⟩ := hc.shape
 obtain ⟨s2, c2, e2⟩ := hr.shape
 obtain ⟨s3, c3, e3⟩ := hx.shape
 have e1 : t.c = .slice s1 T.cols.length c1 := e1
 have e2 : t.r = .slice s2 T.rows.length c2 := e2
 have e3 : t.x = .slice s3 T.cells.length c3 := by rw [← h.len]; exact e3
 rw [e1] at hc
 rw [e2] at hr
 rw [e3] at hx
 exact ⟨s1, c1, s2, c2, s3, c3, by rw [tc, e1, e2, e3], rI_els hc, rE_els hr, rS_els h.len hx (rVs_on fun r hr => h.own.on r (by simp [rTab, hr])) h.ok⟩
theorem rTabs_split {ts : List TV} {Ts : List Tab} {j : Nat} {t : TV} {T : Tab} (h1 : ts[j]? = some t) (h2 : Ts[j]? = some T) :
  rTabs ts Ts = rTabs (ts.take j) (Ts.take j) ++ (rTab t T ++ rTabs (ts.drop (j + 1)) (Ts.drop (j + 1))) := by
 have e1 : ts = ts.take j ++ t :: ts.drop (j + 1) := by
  have := (List.getElem?_eq_some_iff.1 h1)
  obtain ⟨hj, rfl⟩ := this
  rw [List.getElem_cons_drop, List.take_append_drop]
 have e2 : Ts = Ts.take j ++ T :: Ts.drop (j + 1) := by
  have := (List.getElem?_eq_some_iff.1 h2)
  obtain ⟨hj, rfl⟩ := this
  rw [List.getElem_cons_drop, List.take_append_drop]
 have hl : (ts.take j).length = (Ts.take j).length := by
  have := (List.getElem?_eq_some_iff.1 h1).1
  have := (List.getElem?_eq_some_iff.1 h2).1
  simp; omega
 conv => lhs; rw [e1, e2]
 unfold rTabs
 rw [List.zipWith_append hl, List.flatten_append, List.zipWith_cons_cons, List.flatten_cons]
theorem rTabs_mem {ts : List TV} {Ts : List Tab} {j : Nat} {t : TV} {T : Tab} (h1 : ts[j]? = some t) (h2 : Ts[j]? = some T) : ∀ r ∈ rTab t T, r ∈ rTabs ts Ts := by
 intro r hr
 rw [rTabs_split h1 h2]
 simp [hr]
theorem OW.tab {w : World} {B : Nat} {V : WV} {W : Wd} (h : OW w B V W) {j : Nat} {t : TV} {T : Tab} (h1 : V.ts[j]? = some t) (h2 : W.tabs[j]? = some T) : OTb w B t T := by
 refine ⟨?_, h.lens j t T h1 h2, h.okc T (List.mem_of_getElem? h2)⟩
 have := h.own
 unfold rW at this
 rw [rTabs_split h1 h2] at this
 exact this.tail.tail.tail.tail.right.left
theorem els_tabs {w : World} {B : Nat} {s : Option Addr} {c : Nat} {ts : List TV} {Ts : List Tab} (hl : ts.length = Ts.length) (h : (rT (.slice s Ts.length c) ts).on w B) (ho : ∀ (j : Nat) t T, ts[j]? = some t → Ts[j]? = some T → OTb w B t T) : Els 3 cTab w B s Ts := by
 have h' : w.ownsRow B 138 3 (.slice s Ts.length c) Ts.length (ts.flatMap tc) := by rw [← hl]; rw [← hl] at h; exact h
 rcases Go.Joins.ownsRow_forms h' with ⟨_, h0⟩ | ⟨g, cap, e⟩
 ·
  exact Or.inl (List.length_eq_zero_iff.1 h0)
 ·
  cases e
  have hlt := World.ownsRow.lt h' g rfl
  refine Or.inr ⟨g, 0, rfl, hlt.1, hlt.2, fun j T hT => ?_, fun _ j => World.ownsRow.frozenAt h' j⟩
  have hj : j < Ts.length := (List.getElem?_eq_some_iff.1 hT).1
  obtain ⟨t, ht⟩ := get_some (L := ts) (k := j) (by omega)
  refine ⟨tc t, rfl, fun i u hu => ?_, (ho j t T ht hT).tab⟩
  have hi : i < 3 := (List.getElem?_eq_some_iff.1 hu).1
  rw [Nat.zero_add, World.ownsRow.cellAt h' (j * 3 + i) (by omega), flat_get (k := 3) (f := tc) (fun _ => rfl) ts j t ht i hi, hu]
theorem OW.inW {w : World} {B : Nat} {V : WV} {W : Wd} (h : OW w B V W) : ∃ a1 c1 a2 c2 a3 c3 a4 c4, V.g = .slice a1 W.gens.length c1 ∧ V.f = .slice a2 W.free.length c2 ∧ V.t = .slice a3 W.tabs.length c3 ∧ V.r = .slice a4 W.res.length c4 ∧ InW w B a1 a2 a3 a4 W := by
 have hg := h.own.on _ (show rI V.g W.gens ∈ rW V W by simp [rW])
 have hf := h.own.on _ (show rI V.f W.free ∈ rW V W by simp [rW])
 have ht := h.own.on _ (show rT V.t V.ts ∈ rW V W by simp [rW])
 have hr := h.own.on _ (show rV V.r W.res ∈ rW V W by simp [rW])
 obtain ⟨a1, c1, e1⟩ := hg.shape
 obtain ⟨a2, c2, e2⟩ := hf.shape
 obtain ⟨a3, c3, e3⟩ := ht.shape
 obtain ⟨a4, c4, e4⟩ := hr.shape
 have e1 : V.g = .slice a1 W.gens.length c1 := e1
 have e2 : V.f = .slice a2 W.free.length c2 := e2
 have e3 : V.t = .slice a3 W.tabs.length c3 := by rw [← h.len]; exact e3
 have e4 : V.r = .slice a4 W.res.length c4 := e4
 rw [e1] at hg
 rw [e2] at hf
 rw [e3] at ht
 rw [e4] at hr
 exact ⟨a1, c1, a2, c2, a3, c3, a4, c4, e1, e2, e3, e4, rI_els hg, rI_els hf, els_tabs h.len ht (fun j t T h1 h2 => h.tab h1 h2), rV_els hr h.okr⟩
theorem OW.later {w w' : World} {B : Nat} {V : WV} {W : Wd} (h : OW w B V W) (hb : Below w.heap.size w w') : OW w' B V W := ⟨h.own.later hb, h.len, h.lens, h.okc, h.okr⟩
theorem OW.kept {w w' : World} {B : Nat} {V : WV} {W : Wd} (h : OW w B V W) (hk : Kept B w w') : OW w' B V W := ⟨h.own.kept hk, h.len, h.lens, h.okc, h.okr⟩
theorem OW.mono {w : World} {B B' : Nat} {V : WV} {W : Wd} (h : OW w B V W) (hB : B' ≤ B) : OW w B' V W := ⟨h.own.mono hB, h.len, h.lens, h.okc, h.okr⟩
theorem OTb.later {w w' : World} {B : Nat} {V : TV} {W : Tab} (h : OTb w B V W) (hb : Below w.heap.size w w') : OTb w' B V W := ⟨h.own.later hb, h.len, h.ok⟩
theorem OTb.kept {w w' : World} {B : Nat} {V : TV} {W : Tab} (h : OTb w B V W) (hk : Kept B w w') : OTb w' B V W := ⟨h.own.kept hk, h.len, h.ok⟩
theorem OTb.mono {w : World} {B B' : Nat} {V : TV} {W : Tab} (h : OTb w B V W) (hB : B' ≤ B) : OTb w B' V W := ⟨h.own.mono hB, h.len, h.ok⟩
end
section
open Go.RowKit
set_option linter.unusedVariables false
def liveB (G F : List Int) (a g : Int) : Bool := okE G F && l2B G F a g
end
end Go.Proofs.YtnockfpobpidgaaGreat
