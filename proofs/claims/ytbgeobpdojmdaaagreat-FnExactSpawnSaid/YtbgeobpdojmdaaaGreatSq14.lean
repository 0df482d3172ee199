import Derived.Test.YtbgeobpdojmdaaaGreatSq08
import Derived.Maps.AppendAt
namespace Go.Proofs.YtbgeobpdojmdaaaGreat
set_option linter.unusedVariables false
set_option linter.unusedSimpArgs false
section
open Go.RowKit
theorem eqB_self (k i : Int) (x y : Nat) : eqB k i x y k i x y = true := by simp [eqB, sameB_refl]
set_option maxHeartbeats 2000000 in
theorem eqEntS_gen (s t : Option Addr) (c d : Nat) (L : List E2) (B C : Nat) (w : World) (hs : Els 2 cEnt w B s L) (ht : Els 2 cEnt w C t L) (hl : L.length ≤ 1048576) :
  Calls Tryz.prog 113 #[.slice s L.length c, .slice t L.length d] w fun e w' => e = .returned (.bool true) ∧ Below w.heap.size w w' := by
 have hal := alloc_old
 have haf := alloc_oldf
 go_enter Tryz.func113, Tryz.ntmps113
 go_wp2_with fail; go_loopw [5] (fun i wr => ∃ k : Nat, k ≤ L.length ∧ i = .int .i64 k ∧ Below w.heap.size w wr) (fun i _ => L.length - (intOf i).toNat)
 case atStart => exact ⟨0, Nat.zero_le _, rfl, Below.refl _ _⟩
 obtain ⟨k, hk, rfl, hb⟩ := hrel
 by_cases hlt : k < L.length
 ·
  obtain ⟨a, ha⟩ := get_some hlt
  obtain ⟨b, o, rfl, _, hp, e1, e2⟩ := eEnt_cells (hs.later cEnt_keeps hb) ha
  obtain ⟨b', o', rfl, _, hp', e3, e4⟩ := eEnt_cells (ht.later cEnt_keeps hb) ha
  obtain ⟨p1, p2⟩ := a
  clear hs ht ha; go_wp2_with fail; go_region_with (first
   | (go_at_call 13; refine (eqEnt_any p1 p2 p1 p2 _).mono ?_; rintro e w2 ⟨rfl, hb2⟩; rw [show (p1 == p1 && p2 == p2) = true by simp]))
  all_goals
   go_wp2_with fail; go_roundw
   case rel =>
    refine ⟨k + 1, by omega, by go_num, ?_⟩
    exact blq
   case measure => simp [intOf]; omega
 go_wp2_with fail; go_ret; exact ⟨rfl, hb⟩
set_option maxHeartbeats 4000000 in
theorem eqValS_gen (s t : Option Addr) (c d : Nat) (L : List V4) (B C : Nat) (w : World) (hs : Els 4 cVal w B s L) (ht : Els 4 cVal w C t L) (hl : L.length ≤ 1048576) :
  Calls Tryz.prog 38 #[.slice s L.length c, .slice t L.length d] w fun e w' => e = .returned (.bool true) ∧ Below w.heap.size w w' := by
 have hal := alloc_old
 have haf := alloc_oldf
 go_enter Tryz.func38, Tryz.ntmps38
 go_wp2_with fail; go_loopw [5] (fun i wr => ∃ k : Nat, k ≤ L.length ∧ i = .int .i64 k ∧ Below w.heap.size w wr) (fun i _ => L.length - (intOf i).toNat)
 case atStart => exact ⟨0, Nat.zero_le _, rfl, Below.refl _ _⟩
 obtain ⟨k, hk, rfl, hb⟩ := hrel
 by_cases hlt : k < L.length
 ·
  obtain ⟨a, ha⟩ := get_some hlt
  obtain ⟨b, o, rfl, _, hp, hok, e1, e2, e3, e4⟩ := eVal_cells (hs.later cVal_keeps hb) ha
  obtain ⟨b', o', rfl, _, hp', _, f1, f2, f3, f4⟩ := eVal_cells (ht.later cVal_keeps hb) ha
  obtain ⟨p1, p2, p3, p4⟩ := a
  have HX : Hid (p3 < 18446744073709551616) := hok.2.1
  have HY : Hid (p4 < 18446744073709551616) := hok.2.2
  clear hs ht ha hok; go_wp2_with fail; go_region_with (first
   | (go_at_call 80; refine (eqVal_any p1 p2 p3 p4 p1 p2 p3 p4 _ HX.out HY.out HX.out HY.out).mono ?_; rintro e w2 ⟨rfl, hb2⟩; rw [eqB_self]))
  all_goals
   go_wp2_with fail; go_roundw
   case rel =>
    refine ⟨k + 1, by omega, by go_num, ?_⟩
    exact blq
   case measure => simp [intOf]; omega
 go_wp2_with fail; go_ret; exact ⟨rfl, hb⟩
set_option maxHeartbeats 4000000 in
theorem eqValSS_gen (s t : Option Addr) (c d : Nat) (L : List (List V4)) (B C : Nat) (w : World) (hs : Els 1 cVals w B s L) (ht : Els 1 cVals w C t L) (hl : kLL L) :
  Calls Tryz.prog 114 #[.slice s L.length c, .slice t L.length d] w fun e w' => e = .returned (.bool true) ∧ Below w.heap.size w w' := by
 have hal := alloc_old
 have haf := alloc_oldf
 obtain ⟨hl, hls⟩ := hl
 have HLS : Hid (∀ l ∈ L, l.length ≤ 1048576) := hls
 clear hls; go_enter Tryz.func114, Tryz.ntmps114
 go_wp2_with fail; go_loopw [5] (fun i wr => ∃ k : Nat, k ≤ L.length ∧ i = .int .i64 k ∧ Below w.heap.size w wr) (fun i _ => L.length - (intOf i).toNat)
 case atStart => exact ⟨0, Nat.zero_le _, rfl, Below.refl _ _⟩
 obtain ⟨k, hk, rfl, hb⟩ := hrel
 by_cases hlt : k < L.length
 ·
  obtain ⟨a, ha⟩ := get_some hlt
  obtain ⟨b, o, rfl, _, hp, s1, c1, e1, e2⟩ := eVals_cells (hs.later cVals_keeps hb) ha
  obtain ⟨b', o', rfl, _, hp', s2, c2, f1, f2⟩ := eVals_cells (ht.later cVals_keeps hb) ha
  have hal1 := HLS.out a (List.mem_of_getElem? ha)
  have E2' : Hid (Els 4 cVal wr B s1 a) := e2
  have F2' : Hid (Els 4 cVal wr C s2 a) := f2
  clear hs ht ha e2 f2; go_wp2_with fail; go_region_with (first
   | (go_at_call 38; refine (eqValS_gen s1 s2 c1 c2 a B C _ (E2'.out.later cVal_keeps (bl_drew (Below.refl _ _))) (F2'.out.later cVal_keeps (bl_drew (Below.refl _ _))) hal1).mono ?_; rintro e w2 ⟨rfl, hb2⟩))
  all_goals
   go_wp2_with fail; go_roundw
   case rel =>
    refine ⟨k + 1, by omega, by go_num, ?_⟩
    exact blq
   case measure => simp [intOf]; omega
 go_wp2_with fail; go_ret; exact ⟨rfl, hb⟩
set_option maxHeartbeats 4000000 in
theorem eqTable_gen (s1 s2 s3 t1 t2 t3 : Option Addr) (c1 c2 c3 d1 d2 d3 : Nat) (t : Tab) (B C : Nat) (w : World) (hA : Els 1 cInt w B s1 t.cols) (hB : Els 2 cEnt w B s2 t.rows) (hC : Els 1 cVals w B s3 t.cells) (gA : Els 1 cInt w C t1 t.cols) (gB : Els 2 cEnt w C t2 t.rows) (gC : Els 1 cVals w C t3 t.cells) (hk : kTab t) :
  Calls Tryz.prog 79 #[.agg #[.slice s1 t.cols.length c1, .slice s2 t.rows.length c2, .slice s3 t.cells.length c3], .agg #[.slice t1 t.cols.length d1, .slice t2 t.rows.length d2, .slice t3 t.cells.length d3]] w fun e w' => e = .returned (.bool true) ∧ Below w.heap.size w w' := by
 have hal := alloc_old
 have haf := alloc_oldf
 obtain ⟨l1, l2, l3⟩ := hk
 obtain ⟨k0, k1⟩ := blk2 w #[.slice s1 t.cols.length c1, .slice s2 t.rows.length c2, .slice s3 t.cells.length c3] #[.slice t1 t.cols.length d1, .slice t2 t.rows.length d2, .slice t3 t.cells.length d3] 119 119
 have L0 : Below w.heap.size w ((w.alloc (.cells #[.slice s1 t.cols.length c1, .slice s2 t.rows.length c2, .slice s3 t.cells.length c3] 119)).alloc (.cells #[.slice t1 t.cols.length d1, .slice t2 t.rows.length d2, .slice t3 t.cells.length d3] 119)) := blq
 obtain ⟨x0, x1, x2, x3⟩ := k0.three'
 obtain ⟨y0, y1, y2, y3⟩ := k1.three'
 go_enter Tryz.func79, Tryz.ntmps79
 go_wp2_with fail; refine (eqInts_any s1 t1 c1 d1 t.cols t.cols _ (hA.later cInt_keeps L0).ints (gA.later cInt_keeps L0).ints l1).mono ?_
 rintro e w1 ⟨rfl, hb1⟩
 rw [show decide (t.cols = t.cols) = true by simp]
 have L1 := bl_trans L0 hb1
 have K0 := k0.later hb1
 have K1 := k1.later hb1
 clear k0 k1 x0 x1 x2 x3 y0 y1 y2 y3 hb1; obtain ⟨x0, x1, x2, x3⟩ := K0.three'
 obtain ⟨y0, y1, y2, y3⟩ := K1.three'
 go_wp2_with fail; refine (eqEntS_gen s2 t2 c2 d2 t.rows B C _ (hB.later cEnt_keeps L1) (gB.later cEnt_keeps L1) l2).mono ?_
 rintro e w2 ⟨rfl, hb2⟩
 have L2 := bl_trans L1 hb2
 have N0 := K0.later hb2
 have N1 := K1.later hb2
 clear K0 K1 x0 x1 x2 x3 y0 y1 y2 y3 hb2; obtain ⟨x0, x1, x2, x3⟩ := N0.three'
 obtain ⟨y0, y1, y2, y3⟩ := N1.three'
 go_wp2_with fail; refine (eqValSS_gen s3 t3 c3 d3 t.cells B C _ (hC.later cVals_keeps L2) (gC.later cVals_keeps L2) l3).mono ?_
 rintro e w3 ⟨rfl, hb3⟩
 go_wp2_with fail; go_ret; exact ⟨rfl, bl_trans L2 hb3⟩
set_option maxHeartbeats 4000000 in
theorem eqTableS_gen (s t : Option Addr) (c d : Nat) (L : List Tab) (B C : Nat) (w : World) (hs : Els 3 cTab w B s L) (ht : Els 3 cTab w C t L) (hl : kTabs L) :
  Calls Tryz.prog 37 #[.slice s L.length c, .slice t L.length d] w fun e w' => e = .returned (.bool true) ∧ Below w.heap.size w w' := by
 have hal := alloc_old
 have haf := alloc_oldf
 obtain ⟨hl, hls⟩ := hl
 have HLS : Hid (∀ l ∈ L, kTab l) := hls
 clear hls; go_enter Tryz.func37, Tryz.ntmps37
 go_wp2_with fail; go_loopw [5] (fun i wr => ∃ k : Nat, k ≤ L.length ∧ i = .int .i64 k ∧ Below w.heap.size w wr) (fun i _ => L.length - (intOf i).toNat)
 case atStart => exact ⟨0, Nat.zero_le _, rfl, Below.refl _ _⟩
 obtain ⟨k, hk, rfl, hb⟩ := hrel
 by_cases hlt : k < L.length
 ·
  obtain ⟨a, ha⟩ := get_some hlt
  obtain ⟨b, o, rfl, _, hp, s1, c1, s2, c2, s3, c3, e1, e2, e3, p1, p2, p3⟩ := eTab_cells (hs.later cTab_keeps hb) ha
  obtain ⟨b', o', rfl, _, hp', t1, d1, t2, d2, t3, d3, f1, f2, f3, q1, q2, q3⟩ := eTab_cells (ht.later cTab_keeps hb) ha
  have hal1 := HLS.out a (List.mem_of_getElem? ha)
  have PH : Hid (Els 1 cInt wr B s1 a.cols ∧ Els 2 cEnt wr B s2 a.rows ∧ Els 1 cVals wr B s3 a.cells) := ⟨p1, p2, p3⟩
  have QH : Hid (Els 1 cInt wr C t1 a.cols ∧ Els 2 cEnt wr C t2 a.rows ∧ Els 1 cVals wr C t3 a.cells) := ⟨q1, q2, q3⟩
  clear hs ht ha p1 p2 p3 q1 q2 q3; go_wp2_with fail; go_region_with (first
   | (go_at_call 79; refine (eqTable_gen s1 s2 s3 t1 t2 t3 c1 c2 c3 d1 d2 d3 a B C _ (PH.out.1.later cInt_keeps (bl_drew (Below.refl _ _))) (PH.out.2.1.later cEnt_keeps (bl_drew (Below.refl _ _))) (PH.out.2.2.later cVals_keeps (bl_drew (Below.refl _ _))) (QH.out.1.later cInt_keeps (bl_drew (Below.refl _ _))) (QH.out.2.1.later cEnt_keeps (bl_drew (Below.refl _ _))) (QH.out.2.2.later cVals_keeps (bl_drew (Below.refl _ _))) hal1).mono ?_; rintro e w2 ⟨rfl, hb2⟩))
  all_goals
   go_wp2_with fail; go_roundw
   case rel =>
    refine ⟨k + 1, by omega, by go_num, ?_⟩
    exact blq
   case measure => simp [intOf]; omega
 go_wp2_with fail; go_ret; exact ⟨rfl, hb⟩
set_option maxHeartbeats 4000000 in
theorem eqWorld_gen (a1 a2 a3 a4 b1 b2 b3 b4 : Option Addr) (c1 c2 c3 c4 d1 d2 d3 d4 : Nat) (W : Wd) (B C : Nat) (w : World) (hW : InW w B a1 a2 a3 a4 W) (gW : InW w C b1 b2 b3 b4 W) (hk : kW W) :
  Calls Tryz.prog 12 #[.agg #[.slice a1 W.gens.length c1, .slice a2 W.free.length c2, .slice a3 W.tabs.length c3, .slice a4 W.res.length c4], .agg #[.slice b1 W.gens.length d1, .slice b2 W.free.length d2, .slice b3 W.tabs.length d3, .slice b4 W.res.length d4]] w fun e w' => e = .returned (.bool true) ∧ Below w.heap.size w w' := by
 have hal := alloc_old
 have haf := alloc_oldf
 obtain ⟨l1, l2, l3, l4⟩ := hk
 obtain ⟨k0, k1⟩ := blk2 w #[.slice a1 W.gens.length c1, .slice a2 W.free.length c2, .slice a3 W.tabs.length c3, .slice a4 W.res.length c4] #[.slice b1 W.gens.length d1, .slice b2 W.free.length d2, .slice b3 W.tabs.length d3, .slice b4 W.res.length d4] 40 40
 have L0 : Below w.heap.size w ((w.alloc (.cells #[.slice a1 W.gens.length c1, .slice a2 W.free.length c2, .slice a3 W.tabs.length c3, .slice a4 W.res.length c4] 40)).alloc (.cells #[.slice b1 W.gens.length d1, .slice b2 W.free.length d2, .slice b3 W.tabs.length d3, .slice b4 W.res.length d4] 40)) := blq
 obtain ⟨x0, x1, x2, x3, x4⟩ := k0.four'
 obtain ⟨y0, y1, y2, y3, y4⟩ := k1.four'
 go_enter Tryz.func12, Tryz.ntmps12
 go_wp2_with fail; refine (eqEnts_any a1 a2 b1 b2 c1 c2 d1 d2 W.gens W.free W.gens W.free _ (hW.g.later cInt_keeps L0).ints (hW.f.later cInt_keeps L0).ints (gW.g.later cInt_keeps L0).ints (gW.f.later cInt_keeps L0).ints l1 l2).mono ?_
 rintro e w1 ⟨rfl, hb1⟩
 rw [show decide (W.gens = W.gens ∧ W.free = W.free) = true by simp]
 have L1 := bl_trans L0 hb1
 have K0 := k0.later hb1
 have K1 := k1.later hb1
 clear k0 k1 x0 x1 x2 x3 x4 y0 y1 y2 y3 y4 hb1; obtain ⟨x0, x1, x2, x3, x4⟩ := K0.four'
 obtain ⟨y0, y1, y2, y3, y4⟩ := K1.four'
 go_wp2_with fail; refine (eqTableS_gen a3 b3 c3 d3 W.tabs B C _ (hW.t.later cTab_keeps L1) (gW.t.later cTab_keeps L1) l3).mono ?_
 rintro e w2 ⟨rfl, hb2⟩
 have L2 := bl_trans L1 hb2
 have N0 := K0.later hb2
 have N1 := K1.later hb2
 clear K0 K1 x0 x1 x2 x3 x4 y0 y1 y2 y3 y4 hb2; obtain ⟨x0, x1, x2, x3, x4⟩ := N0.four'
 obtain ⟨y0, y1, y2, y3, y4⟩ := N1.four'
 go_wp2_with fail; refine (eqValS_gen a4 b4 c4 d4 W.res B C _ (hW.r.later cVal_keeps L2) (gW.r.later cVal_keeps L2) l4).mono ?_
 rintro e w3 ⟨rfl, hb3⟩
 go_wp2_with fail; go_ret; exact ⟨rfl, bl_trans L2 hb3⟩
end
section
open Go.RowKit
structure OR where
 T : TypeId
 k : Nat
 v : Value
 n : Nat
 cs : List Value
def OR.on (w : World) (B : Nat) (r : OR) : Prop := w.ownsRow B r.T r.k r.v r.n r.cs
def blks (R : List OR) : List Nat := R.filterMap fun r => r.v.ownBlock
structure Owns (w : World) (B : Nat) (R : List OR) : Prop where
 on : ∀ r ∈ R, r.on w B
 nd : (blks R).Nodup
theorem OR.on.lt {w : World} {B : Nat} {r : OR} (h : r.on w B) : ∀ g, r.v.ownBlock = some g → B ≤ g ∧ g < w.heap.size := World.ownsRow.lt h
theorem OR.on.same {w w' : World} {B : Nat} {r : OR} (h : r.on w B) (hs : ∀ g, r.v.ownBlock = some g → w'.heap[g]? = w.heap[g]?) : r.on w' B := by
 refine ⟨h.1, ?_⟩
 rcases h.2 with h' | ⟨g, cap', cur, h', hb, hg, r'⟩
 ·
  exact Or.inl h'
 exact Or.inr ⟨g, cap', cur, h', hb, (hs g (by rw [h']; rfl)).trans hg, r'⟩
theorem OR.on.mono {w : World} {B B' : Nat} {r : OR} (h : r.on w B) (hB : B' ≤ B) : r.on w B' := Go.Joins.ownsRow_le h hB
theorem mem_blks {R : List OR} {g : Nat} : g ∈ blks R ↔ ∃ r ∈ R, r.v.ownBlock = some g := by simp [blks]
theorem blks_cons (r : OR) (R : List OR) : blks (r :: R) = r.v.ownBlock.toList ++ blks R := by
 unfold blks
 rw [List.filterMap_cons]
 cases h : r.v.ownBlock <;> simp
theorem blks_append (R S : List OR) : blks (R ++ S) = blks R ++ blks S := by simp [blks]
theorem Owns.nil (w : World) (B : Nat) : Owns w B [] := ⟨fun r h => by simp at h, by simp [blks]⟩
theorem Owns.perm {w : World} {B : Nat} {R S : List OR} (h : Owns w B R) (hp : R.Perm S) : Owns w B S :=
 ⟨fun r hr => h.on r (hp.mem_iff.2 hr), (hp.filterMap _).nodup_iff.1 h.nd⟩
theorem Owns.mono {w : World} {B B' : Nat} {R : List OR} (h : Owns w B R) (hB : B' ≤ B) : Owns w B' R := ⟨fun r hr => (h.on r hr).mono hB, h.nd⟩
theorem Owns.lt {w : World} {B : Nat} {R : List OR} (h : Owns w B R) {g : Nat} (hg : g ∈ blks R) : B ≤ g ∧ g < w.heap.size := by
 obtain ⟨r, hr, e⟩ := mem_blks.1 hg
 exact (h.on r hr).lt g e
theorem Owns.same {w w' : World} {B : Nat} {R : List OR} (h : Owns w B R) (hs : ∀ g, g ∈ blks R → w'.heap[g]? = w.heap[g]?) : Owns w' B R :=
 ⟨fun r hr => (h.on r hr).same fun g hg => hs g (mem_blks.2 ⟨r, hr, hg⟩), h.nd⟩
theorem Owns.later {w w' : World} {B : Nat} {R : List OR} (h : Owns w B R) (hb : Below w.heap.size w w') : Owns w' B R :=
 h.same fun g hg => hb.block g (h.lt hg).2
theorem Owns.kept {w w' : World} {B : Nat} {R : List OR} (h : Owns w B R) (hk : Kept B w w') : Owns w' B R :=
 h.same fun g hg => hk.2 g (h.lt hg).1 (h.lt hg).2
theorem Owns.grown {w w' : World} {B : Nat} {R : List OR} {r : Option Nat} (h : Owns w B R) (hg : w.grownBy w' r) (hn : ∀ g, r = some g → ¬ g ∈ blks R) : Owns w' B R :=
 h.same fun g hg' => hg.block g (h.lt hg').2 (fun e => hn g e.symm hg')
theorem Owns.tail {w : World} {B : Nat} {r : OR} {R : List OR} (h : Owns w B (r :: R)) : Owns w B R := by
 refine ⟨fun q hq => h.on q (by simp [hq]), ?_⟩
 have := h.nd
 rw [blks_cons] at this
 exact (List.nodup_append.1 this).2.1
theorem Owns.head {w : World} {B : Nat} {r : OR} {R : List OR} (h : Owns w B (r :: R)) : r.on w B := h.on r (by simp)
theorem Owns.off {w : World} {B : Nat} {r : OR} {R : List OR} (h : Owns w B (r :: R)) {g : Nat} (hg : r.v.ownBlock = some g) : ¬ g ∈ blks R := by
 have := h.nd
 rw [blks_cons, hg] at this
 intro hm
 exact (List.nodup_append.1 this).2.2 g (by simp) g hm rfl
theorem Owns.left {w : World} {B : Nat} {R S : List OR} (h : Owns w B (R ++ S)) : Owns w B R := by
 refine ⟨fun q hq => h.on q (by simp [hq]), ?_⟩
 have := h.nd
 rw [blks_append] at this
 exact (List.nodup_append.1 this).1
theorem Owns.right {w : World} {B : Nat} {R S : List OR} (h : Owns w B (R ++ S)) : Owns w B S := by
 refine ⟨fun q hq => h.on q (by simp [hq]), ?_⟩
 have := h.nd
 rw [blks_append] at this
 exact (List.nodup_append.1 this).2.1
theorem Owns.join {w : World} {B : Nat} {R S : List OR} (h : Owns w B R) (g : Owns w B S) (ha : ∀ b, b ∈ blks R → ¬ b ∈ blks S) : Owns w B (R ++ S) := by
 refine ⟨fun q hq => ?_, ?_⟩
 ·
  rcases List.mem_append.1 hq with h' | h'
  ·
   exact h.on q h'
  exact g.on q h'
 rw [blks_append]
 exact List.nodup_append.2 ⟨h.nd, g.nd, fun a ha' b hb e => ha a ha' (e ▸ hb)⟩
theorem Owns.add {w w' : World} {B : Nat} {R S : List OR} (h : Owns w B R) (hb : Below w.heap.size w w') (g : Owns w' w.heap.size S) (hB : B ≤ w.heap.size) : Owns w' B (R ++ S) :=
 (h.later hb).join (g.mono hB) fun b h1 h2 => by
  have := (h.lt h1).2
  have := (g.lt h2).1
  omega
theorem Owns.one {w : World} {B : Nat} {r : OR} (h : r.on w B) : Owns w B [r] := by
 refine ⟨fun q hq => ?_, ?_⟩
 ·
  simp at hq; subst hq; exact h
 rw [blks_cons]; cases r.v.ownBlock <;> simp [blks]
theorem Owns.turn {w w' : World} {B : Nat} {r r' : OR} {R : List OR} (h : Owns w B (r :: R)) (hg : w.grownBy w' r.v.ownBlock) (hr : r'.on w' B) (hn : ∀ g, r'.v.ownBlock = some g → r.v.ownBlock = some g ∨ w.heap.size ≤ g) : Owns w' B (r' :: R) := by
 have ht := h.tail.grown hg (fun g e => h.off e)
 refine (Owns.one hr).join ht fun b h1 h2 => ?_
 obtain ⟨q, hq, e⟩ := mem_blks.1 h1
 simp at hq
 subst hq
 rcases hn b e with e' | e'
 ·
  exact h.off e' h2
 have := (h.tail.lt h2).2
 omega
end
end Go.Proofs.YtbgeobpdojmdaaaGreat
