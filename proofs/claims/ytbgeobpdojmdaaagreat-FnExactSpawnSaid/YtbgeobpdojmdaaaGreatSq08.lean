import Derived.Test.YtbgeobpdojmdaaaGreatSq07
import Derived.Maps.OwnSet
namespace Go.Proofs.YtbgeobpdojmdaaaGreat
set_option linter.unusedVariables false
set_option linter.unusedSimpArgs false
section
open Go.RowKit
theorem blk3t (w : World) (c d e : Array Value) (t u v : TypeId) : Blk (((w.alloc (.cells c t)).alloc (.cells d u)).alloc (.cells e v)) w.heap.size c t ∧ Blk (((w.alloc (.cells c t)).alloc (.cells d u)).alloc (.cells e v)) (w.heap.size + 1) d u ∧ Blk (((w.alloc (.cells c t)).alloc (.cells d u)).alloc (.cells e v)) (w.heap.size + 1 + 1) e v :=
 ⟨((Blk.new w c t).alloc _).alloc _, (Blk.new' _ d u (by simp)).alloc _, Blk.new' _ e v (by simp)⟩
theorem Blk.three' {w : World} {n : Nat} {a b c : Value} {t : TypeId} (h : Blk w n #[a, b, c] t) : w.cell? ⟨n, 0, none⟩ = some a ∧ w.cell? ⟨n, 1, none⟩ = some b ∧ w.cell? ⟨n, 2, none⟩ = some c ∧ ∀ o, w.frozen? ⟨n, o, none⟩ = false := ⟨h.cell 0, h.cell 1, h.cell 2, h.frozen⟩
theorem Blk.four' {w : World} {n : Nat} {a b c d : Value} {t : TypeId} (h : Blk w n #[a, b, c, d] t) : w.cell? ⟨n, 0, none⟩ = some a ∧ w.cell? ⟨n, 1, none⟩ = some b ∧ w.cell? ⟨n, 2, none⟩ = some c ∧ w.cell? ⟨n, 3, none⟩ = some d ∧ ∀ o, w.frozen? ⟨n, o, none⟩ = false := ⟨h.cell 0, h.cell 1, h.cell 2, h.cell 3, h.frozen⟩
set_option maxHeartbeats 4000000 in
theorem toTable_made (s1 s2 s3 : Option Addr) (c1 c2 c3 : Nat) (t : Tab) (B : Nat) (w : World) (h1 : Els 1 cInt w B s1 t.cols) (h2 : Els 2 cEnt w B s2 t.rows) (h3 : Els 1 cVals w B s3 t.cells) (hk : kTab t) :
  Calls Tryz.prog 65 #[.agg #[.slice s1 t.cols.length c1, .slice s2 t.rows.length c2, .slice s3 t.cells.length c3]] w fun e w' => (∃ a b c : Nat, e = .returned (.agg #[.slice (some ⟨a, 0, none⟩) t.cols.length t.cols.length, .slice (some ⟨b, 0, none⟩) t.rows.length t.rows.length, .slice (some ⟨c, 0, none⟩) t.cells.length t.cells.length]) ∧
   Els 1 cInt w' w.heap.size (some ⟨a, 0, none⟩) t.cols ∧ Els 2 cEnt w' w.heap.size (some ⟨b, 0, none⟩) t.rows ∧ Els 1 cVals w' w.heap.size (some ⟨c, 0, none⟩) t.cells) ∧ Below w.heap.size w w' := by
 have hal := alloc_old
 have haf := alloc_oldf
 obtain ⟨m1, m2, m3⟩ := hk
 obtain ⟨k0, k1, k2⟩ := blk3t w #[.slice s1 t.cols.length c1, .slice s2 t.rows.length c2, .slice s3 t.cells.length c3] #[.slice none 0 0, .slice none 0 0, .slice none 0 0] #[.slice none 0 0, .slice none 0 0, .slice none 0 0] 108 119 119
 go_enter Tryz.func65, Tryz.ntmps65
 go_wp2_with fail; refine (toInts_made s1 c1 t.cols B _ (h1.later cInt_keeps blq) m1).mono ?_
 rintro e w1 ⟨g1, rfl, e1, d1, hb1⟩
 simp only [World.size_alloc] at e1
 have L1 : Below w.heap.size w w1 := blq
 have d1 := d1.drop cInt_drops e1
 have P0 := (k0.later hb1).other (m := w.heap.size + 1 + 1) (by omega) 0 (.slice (some ⟨g1, 0, none⟩) t.cols.length t.cols.length)
 have P1 := (k1.later hb1).other (m := w.heap.size + 1 + 1) (by omega) 0 (.slice (some ⟨g1, 0, none⟩) t.cols.length t.cols.length)
 have P2 := (k2.later hb1).set 0 (.slice (some ⟨g1, 0, none⟩) t.cols.length t.cols.length)
 have D1 := d1.kept cInt_keeps (Kept.set w1 (p := ⟨w.heap.size + 1 + 1, 0, none⟩) (by simp) (.slice (some ⟨g1, 0, none⟩) t.cols.length t.cols.length))
 have LX := L1.setCell (p := ⟨w.heap.size + 1 + 1, 0, none⟩) (by simp; omega) (.slice (some ⟨g1, 0, none⟩) t.cols.length t.cols.length)
 obtain ⟨z0, z1, z2, z3⟩ := (k2.later hb1).three'
 obtain ⟨x0, x1, x2, x3⟩ := (k0.later hb1).three'
 have n0 : ¬ w.heap.size = w.heap.size + 1 + 1 := by omega
 clear k0 k1 k2 hb1 d1 L1; go_wp2_with fail; clear x0 x1 x2 x3 z0 z1 z2 z3; generalize hX : w1.setCell ⟨w.heap.size + 1 + 1, 0, none⟩ (.slice (some ⟨g1, 0, none⟩) t.cols.length t.cols.length) = X at P0 P1 P2 D1 LX ⊢
 clear hX; have P2 : Blk X (w.heap.size + 1 + 1) #[.slice (some ⟨g1, 0, none⟩) t.cols.length t.cols.length, .slice none 0 0, .slice none 0 0] 119 := P2
 refine (toEntS_made s2 c2 t.rows B _ (h2.later cEnt_keeps LX) m2).mono ?_
 rintro e w2 ⟨g2, rfl, e2, d2, hb2⟩
 have lx : w.heap.size + 1 + 1 < X.heap.size := P2.lt
 have d2 := d2.drop cEnt_drops (B' := w.heap.size + 1 + 1 + 1) (by omega)
 have L2 := bl_trans LX hb2
 have Q0 := (P0.later hb2).other (m := w.heap.size + 1 + 1) (by omega) 1 (.slice (some ⟨g2, 0, none⟩) t.rows.length t.rows.length)
 have Q1 := (P1.later hb2).other (m := w.heap.size + 1 + 1) (by omega) 1 (.slice (some ⟨g2, 0, none⟩) t.rows.length t.rows.length)
 have Q2 := (P2.later hb2).set 1 (.slice (some ⟨g2, 0, none⟩) t.rows.length t.rows.length)
 have KS := Kept.set (B := w.heap.size + 1 + 1 + 1) w2 (p := ⟨w.heap.size + 1 + 1, 1, none⟩) (by simp) (.slice (some ⟨g2, 0, none⟩) t.rows.length t.rows.length)
 have F1 := (D1.later cInt_keeps hb2).kept cInt_keeps KS
 have F2 := d2.kept cEnt_keeps KS
 have LY := L2.setCell (p := ⟨w.heap.size + 1 + 1, 1, none⟩) (by simp; omega) (.slice (some ⟨g2, 0, none⟩) t.rows.length t.rows.length)
 obtain ⟨z0, z1, z2, z3⟩ := (P2.later hb2).three'
 obtain ⟨x0, x1, x2, x3⟩ := (P0.later hb2).three'
 clear P0 P1 P2 hb2 d2 D1 L2 LX KS; go_wp2_with fail; clear x0 x1 x2 x3 z0 z1 z2 z3; generalize hY : w2.setCell ⟨w.heap.size + 1 + 1, 1, none⟩ (.slice (some ⟨g2, 0, none⟩) t.rows.length t.rows.length) = Y at Q0 Q1 Q2 F1 F2 LY ⊢
 clear hY; have Q2 : Blk Y (w.heap.size + 1 + 1) #[.slice (some ⟨g1, 0, none⟩) t.cols.length t.cols.length, .slice (some ⟨g2, 0, none⟩) t.rows.length t.rows.length, .slice none 0 0] 119 := Q2
 refine (toValSS_made s3 c3 t.cells B _ (h3.later cVals_keeps LY) m3).mono ?_
 rintro e w3 ⟨g3, rfl, e3, d3, hb3⟩
 have ly : w.heap.size + 1 + 1 < Y.heap.size := Q2.lt
 have d3 := d3.drop cVals_drops (B' := w.heap.size + 1 + 1 + 1) (by omega)
 have L3 := bl_trans LY hb3
 have R1 := (Q1.later hb3)
 have R2 := (Q2.later hb3)
 have G1 := F1.later cInt_keeps hb3
 have G2 := F2.later cEnt_keeps hb3
 clear Q0 Q1 Q2 F1 F2 LY hb3; obtain ⟨z0, z1, z2, z3⟩ := R2.three'
 obtain ⟨y0, y1, y2, y3⟩ := R1.three'
 have n1 : ¬ w.heap.size + 1 = w.heap.size + 1 + 1 := by omega
 have K4 : ∀ (u0 u1 u2 u3 : Value), Kept (w.heap.size + 1 + 1 + 1) w3 ((((w3.setCell ⟨w.heap.size + 1 + 1, 2, none⟩ u0).setCell ⟨w.heap.size + 1, 0, none⟩ u1).setCell ⟨w.heap.size + 1, 1, none⟩ u2).setCell ⟨w.heap.size + 1, 2, none⟩ u3) :=
  fun _ _ _ _ => (((Kept.set _ (by simp) _).trans (Kept.set _ (by simp <;> omega) _)).trans (Kept.set _ (by simp <;> omega) _)).trans (Kept.set _ (by simp <;> omega) _)
 go_wp2_with fail; refine bodyPost_ret (v := .agg #[.slice (some ⟨g1, 0, none⟩) t.cols.length t.cols.length, .slice (some ⟨g2, 0, none⟩) t.rows.length t.rows.length, .slice (some ⟨g3, 0, none⟩) t.cells.length t.cells.length]) (by simp [results, Tryz.results65, go_sem, y0, y1, y2]) rfl ⟨⟨g1, g2, g3, rfl, ?_, ?_, ?_⟩, ?_⟩
 ·
  exact (G1.kept cInt_keeps (K4 _ _ _ _)).drop cInt_drops (by omega)
 ·
  exact (G2.kept cEnt_keeps (K4 _ _ _ _)).drop cEnt_drops (by omega)
 ·
  exact (d3.kept cVals_keeps (K4 _ _ _ _)).drop cVals_drops (by omega)
 exact (((L3.setCell (by simp <;> omega) _).setCell (by simp <;> omega) _).setCell (by simp <;> omega) _).setCell (by simp <;> omega) _
set_option maxHeartbeats 4000000 in
theorem toTableS_made (s : Option Addr) (c : Nat) (L : List Tab) (B : Nat) (w : World) (hL : Els 3 cTab w B s L) (hl : kTabs L) :
  Calls Tryz.prog 30 #[.slice s L.length c] w fun e w' => Made 3 cTab w L e w' := by
 obtain ⟨i0, hi, hz0, hz1, hz2⟩ := info_parts Tryz.infoT
 obtain ⟨hl, hls⟩ := hl
 have HLS : Hid (∀ l ∈ L, kTab l) := hls
 clear hls; go_enter Tryz.func30, Tryz.ntmps30
 go_wp2_with (at_make; refine wpList_make_full _ rfl _ _ 37 rfl w.heap.size 119 i0 (.agg #[.slice none 0 0, .slice none 0 0, .slice none 0 0]) 3 Tryz.underlying37 hi hz0 hz1 .i64 .i64 _ _ L.length rfl rfl rfl rfl (by rw [hz2]; omega) (by unfold maxLen; omega) (Nat.le_refl _) ?_)
 intro w1 hown hgrow
 have hrow : Hid (Mk 3 cTab [.slice none 0 0, .slice none 0 0, .slice none 0 0] 119 w1 w.heap.size w.heap.size L 0) := Mk.start (z := #[.slice none 0 0, .slice none 0 0, .slice none 0 0]) rfl hown
 have hbel : Hid (Below w.heap.size w w1) := (Below.refl _ w).grown hgrow (Nat.le_refl _) (fun k h => by cases h)
 clear hown hgrow hi hz0 hz1 hz2; go_wp2_with fail; go_loopw [4] (fun i wr => ∃ k : Nat, k ≤ L.length ∧ i = .int .i64 k ∧ Hid (Mk 3 cTab [.slice none 0 0, .slice none 0 0, .slice none 0 0] 119 wr w.heap.size w.heap.size L k) ∧ Hid (Below w.heap.size w wr)) (fun i _ => L.length - (intOf i).toNat)
 case atStart => exact ⟨0, Nat.zero_le _, rfl, hrow, hbel⟩
 obtain ⟨k, hk, rfl, hrow, hbel⟩ := hrel
 by_cases hlt : k < L.length
 ·
  obtain ⟨a, ha⟩ := get_some hlt
  obtain ⟨b, o, rfl, hB, hp, s1, c1, s2, c2, s3, c3, e1, e2, e3, f1, f2, f3⟩ := eTab_cells (hL.later cTab_keeps hbel.out) ha
  have hal := HLS.out a (List.mem_of_getElem? ha)
  have gl := (hrow.out.at hlt).2.1
  clear hL; go_wp2_with fail; refine (toTable_made s1 s2 s3 c1 c2 c3 a B _ f1 f2 f3 hal).mono ?_
  rintro e w2 ⟨⟨x1, x2, x3, rfl, d1, d2, d3⟩, hb2⟩
  have hr2 := hrow.out.later cTab_keeps hb2
  have L2 : Hid (Below w.heap.size w w2) := bl_trans hbel.out hb2
  obtain ⟨_, hg, fz, cz⟩ := hr2.at hlt
  have g1 := cz 0 _ rfl
  have g2 := cz 1 _ rfl
  have g3 := cz 2 _ rfl
  rw [Nat.add_zero] at g1
  have hputH : Hid (Mk 3 cTab [.slice none 0 0, .slice none 0 0, .slice none 0 0] 119 (((w2.setCell ⟨w.heap.size, k * 3, none⟩ (.slice (some ⟨x1, 0, none⟩) a.cols.length a.cols.length)).setCell ⟨w.heap.size, k * 3 + 1, none⟩ (.slice (some ⟨x2, 0, none⟩) a.rows.length a.rows.length)).setCell ⟨w.heap.size, k * 3 + 2, none⟩ (.slice (some ⟨x3, 0, none⟩) a.cells.length a.cells.length)) w.heap.size w.heap.size L (k + 1)) :=
   hr2.push cTab_keeps ha (c := [.slice (some ⟨x1, 0, none⟩) a.cols.length a.cols.length, .slice (some ⟨x2, 0, none⟩) a.rows.length a.rows.length, .slice (some ⟨x3, 0, none⟩) a.cells.length a.cells.length]) rfl ⟨_, _, _, _, _, _, rfl, d1.drop cInt_drops (by omega), d2.drop cEnt_drops (by omega), d3.drop cVals_drops (by omega)⟩ (((Kept.set _ (by simp) _).trans (Kept.set _ (by simp) _)).trans (Kept.set _ (by simp) _)) (fun A C hA h => put3 hA h)
  clear hr2 hrow ha cz f1 f2 f3 d1 d2 d3; go_wp2_with fail; go_roundw
  case rel => exact ⟨k + 1, by omega, by go_num, hputH, ((L2.out.setCell (Nat.le_refl _) _).setCell (Nat.le_refl _) _).setCell (Nat.le_refl _) _⟩
  case measure => simp [intOf]; omega
 have hm' : k = L.length := by omega
 subst hm'
 go_wp2_with fail; go_ret; exact ⟨_, rfl, Nat.le_refl _, hrow.out.done cTab_drops, hbel.out⟩
set_option maxHeartbeats 4000000 in
theorem toWorld_made (a1 a2 a3 a4 : Option Addr) (c1 c2 c3 c4 : Nat) (W : Wd) (B : Nat) (w : World) (hW : InW w B a1 a2 a3 a4 W) (hk : kW W) :
  Calls Tryz.prog 9 #[.agg #[.slice a1 W.gens.length c1, .slice a2 W.free.length c2, .slice a3 W.tabs.length c3, .slice a4 W.res.length c4]] w fun e w' => (∃ a b c d : Nat, e = .returned (.agg #[.slice (some ⟨a, 0, none⟩) W.gens.length W.gens.length, .slice (some ⟨b, 0, none⟩) W.free.length W.free.length, .slice (some ⟨c, 0, none⟩) W.tabs.length W.tabs.length, .slice (some ⟨d, 0, none⟩) W.res.length W.res.length]) ∧
   InW w' w.heap.size (some ⟨a, 0, none⟩) (some ⟨b, 0, none⟩) (some ⟨c, 0, none⟩) (some ⟨d, 0, none⟩) W) ∧ Below w.heap.size w w' := by
 have hal := alloc_old
 have haf := alloc_oldf
 obtain ⟨m1, m2, m3, m4⟩ := hk
 obtain ⟨k0, k1, k2⟩ := blk3t w #[.slice a1 W.gens.length c1, .slice a2 W.free.length c2, .slice a3 W.tabs.length c3, .slice a4 W.res.length c4] #[.slice none 0 0, .slice none 0 0, .slice none 0 0, .slice none 0 0] #[.slice none 0 0, .slice none 0 0, .slice none 0 0, .slice none 0 0] 31 40 40
 have L0 : Below w.heap.size w (((w.alloc (.cells #[.slice a1 W.gens.length c1, .slice a2 W.free.length c2, .slice a3 W.tabs.length c3, .slice a4 W.res.length c4] 31)).alloc (.cells #[.slice none 0 0, .slice none 0 0, .slice none 0 0, .slice none 0 0] 40)).alloc (.cells #[.slice none 0 0, .slice none 0 0, .slice none 0 0, .slice none 0 0] 40)) := blq
 go_enter Tryz.func9, Tryz.ntmps9
 go_wp2_with fail; refine (toEnts_any a1 a2 c1 c2 W.gens W.free _ (hW.g.later cInt_keeps L0).ints (hW.f.later cInt_keeps L0).ints m1 m2).mono ?_
 rintro e w1 ⟨g1, g2, rfl, hr12, hb1⟩
 have l1 := hr12.1.lt
 have l2 := hr12.2.1.lt
 simp only [World.size_alloc] at l1 l2
 have L1 := bl_trans L0 hb1
 have d1 := (row_els hr12.1).drop cInt_drops l1.1
 have d2 := (row_els hr12.2.1).drop cInt_drops l2.1
 have P0 := ((k0.later hb1).other (m := w.heap.size + 1 + 1) (by omega) 0 (.slice (some ⟨g1, 0, none⟩) W.gens.length W.gens.length)).other (m := w.heap.size + 1 + 1) (by omega) 1 (.slice (some ⟨g2, 0, none⟩) W.free.length W.free.length)
 have P1 := ((k1.later hb1).other (m := w.heap.size + 1 + 1) (by omega) 0 (.slice (some ⟨g1, 0, none⟩) W.gens.length W.gens.length)).other (m := w.heap.size + 1 + 1) (by omega) 1 (.slice (some ⟨g2, 0, none⟩) W.free.length W.free.length)
 have P2 := ((k2.later hb1).set 0 (.slice (some ⟨g1, 0, none⟩) W.gens.length W.gens.length)).set 1 (.slice (some ⟨g2, 0, none⟩) W.free.length W.free.length)
 have KS : Kept (w.heap.size + 1 + 1 + 1) w1 ((w1.setCell ⟨w.heap.size + 1 + 1, 0, none⟩ (.slice (some ⟨g1, 0, none⟩) W.gens.length W.gens.length)).setCell ⟨w.heap.size + 1 + 1, 1, none⟩ (.slice (some ⟨g2, 0, none⟩) W.free.length W.free.length)) := (Kept.set _ (by simp) _).trans (Kept.set _ (by simp) _)
 have D1 := d1.kept cInt_keeps KS
 have D2 := d2.kept cInt_keeps KS
 have LX := (L1.setCell (p := ⟨w.heap.size + 1 + 1, 0, none⟩) (by simp; omega) (.slice (some ⟨g1, 0, none⟩) W.gens.length W.gens.length)).setCell (p := ⟨w.heap.size + 1 + 1, 1, none⟩) (by simp; omega) (.slice (some ⟨g2, 0, none⟩) W.free.length W.free.length)
 obtain ⟨z0, z1, z2, z3, z4⟩ := (k2.later hb1).four'
 obtain ⟨x0, x1, x2, x3, x4⟩ := (k0.later hb1).four'
 have n0 : ¬ w.heap.size = w.heap.size + 1 + 1 := by omega
 clear k0 k1 k2 hb1 d1 d2 L1 hr12 KS L0; go_wp2_with fail; clear x0 x1 x2 x3 x4 z0 z1 z2 z3 z4; generalize hX : (w1.setCell ⟨w.heap.size + 1 + 1, 0, none⟩ (.slice (some ⟨g1, 0, none⟩) W.gens.length W.gens.length)).setCell ⟨w.heap.size + 1 + 1, 1, none⟩ (.slice (some ⟨g2, 0, none⟩) W.free.length W.free.length) = X at P0 P1 P2 D1 D2 LX ⊢
 clear hX; have P2 : Blk X (w.heap.size + 1 + 1) #[.slice (some ⟨g1, 0, none⟩) W.gens.length W.gens.length, .slice (some ⟨g2, 0, none⟩) W.free.length W.free.length, .slice none 0 0, .slice none 0 0] 40 := P2
 refine (toTableS_made a3 c3 W.tabs B _ (hW.t.later cTab_keeps LX) m3).mono ?_
 rintro e w2 ⟨g3, rfl, e3, d3, hb2⟩
 have lx : w.heap.size + 1 + 1 < X.heap.size := P2.lt
 have d3 := d3.drop cTab_drops (B' := w.heap.size + 1 + 1 + 1) (by omega)
 have L2 := bl_trans LX hb2
 have Q0 := (P0.later hb2).other (m := w.heap.size + 1 + 1) (by omega) 2 (.slice (some ⟨g3, 0, none⟩) W.tabs.length W.tabs.length)
 have Q1 := (P1.later hb2).other (m := w.heap.size + 1 + 1) (by omega) 2 (.slice (some ⟨g3, 0, none⟩) W.tabs.length W.tabs.length)
 have Q2 := (P2.later hb2).set 2 (.slice (some ⟨g3, 0, none⟩) W.tabs.length W.tabs.length)
 have KS := Kept.set (B := w.heap.size + 1 + 1 + 1) w2 (p := ⟨w.heap.size + 1 + 1, 2, none⟩) (by simp) (.slice (some ⟨g3, 0, none⟩) W.tabs.length W.tabs.length)
 have F1 := (D1.later cInt_keeps hb2).kept cInt_keeps KS
 have F2 := (D2.later cInt_keeps hb2).kept cInt_keeps KS
 have F3 := d3.kept cTab_keeps KS
 have LY := L2.setCell (p := ⟨w.heap.size + 1 + 1, 2, none⟩) (by simp; omega) (.slice (some ⟨g3, 0, none⟩) W.tabs.length W.tabs.length)
 obtain ⟨z0, z1, z2, z3, z4⟩ := (P2.later hb2).four'
 obtain ⟨x0, x1, x2, x3, x4⟩ := (P0.later hb2).four'
 clear P0 P1 P2 hb2 d3 D1 D2 L2 LX KS; go_wp2_with fail; clear x0 x1 x2 x3 x4 z0 z1 z2 z3 z4; generalize hY : w2.setCell ⟨w.heap.size + 1 + 1, 2, none⟩ (.slice (some ⟨g3, 0, none⟩) W.tabs.length W.tabs.length) = Y at Q0 Q1 Q2 F1 F2 F3 LY ⊢
 clear hY; have Q2 : Blk Y (w.heap.size + 1 + 1) #[.slice (some ⟨g1, 0, none⟩) W.gens.length W.gens.length, .slice (some ⟨g2, 0, none⟩) W.free.length W.free.length, .slice (some ⟨g3, 0, none⟩) W.tabs.length W.tabs.length, .slice none 0 0] 40 := Q2
 refine (toValS_made a4 c4 W.res B _ (hW.r.later cVal_keeps LY) m4).mono ?_
 rintro e w3 ⟨g4, rfl, e4, d4, hb3⟩
 have ly : w.heap.size + 1 + 1 < Y.heap.size := Q2.lt
 have d4 := d4.drop cVal_drops (B' := w.heap.size + 1 + 1 + 1) (by omega)
 have L3 := bl_trans LY hb3
 have R1 := (Q1.later hb3)
 have R2 := (Q2.later hb3)
 have G1 := F1.later cInt_keeps hb3
 have G2 := F2.later cInt_keeps hb3
 have G3 := F3.later cTab_keeps hb3
 clear Q0 Q1 Q2 F1 F2 F3 LY hb3; obtain ⟨z0, z1, z2, z3, z4⟩ := R2.four'
 obtain ⟨y0, y1, y2, y3, y4⟩ := R1.four'
 have n1 : ¬ w.heap.size + 1 = w.heap.size + 1 + 1 := by omega
 have K5 : ∀ (u0 u1 u2 u3 u4 : Value), Kept (w.heap.size + 1 + 1 + 1) w3 (((((w3.setCell ⟨w.heap.size + 1 + 1, 3, none⟩ u0).setCell ⟨w.heap.size + 1, 0, none⟩ u1).setCell ⟨w.heap.size + 1, 1, none⟩ u2).setCell ⟨w.heap.size + 1, 2, none⟩ u3).setCell ⟨w.heap.size + 1, 3, none⟩ u4) :=
  fun _ _ _ _ _ => ((((Kept.set _ (by simp) _).trans (Kept.set _ (by simp <;> omega) _)).trans (Kept.set _ (by simp <;> omega) _)).trans (Kept.set _ (by simp <;> omega) _)).trans (Kept.set _ (by simp <;> omega) _)
 go_wp2_with fail; refine bodyPost_ret (v := .agg #[.slice (some ⟨g1, 0, none⟩) W.gens.length W.gens.length, .slice (some ⟨g2, 0, none⟩) W.free.length W.free.length, .slice (some ⟨g3, 0, none⟩) W.tabs.length W.tabs.length, .slice (some ⟨g4, 0, none⟩) W.res.length W.res.length]) (by simp [results, Tryz.results9, go_sem, y0, y1, y2, y3]) rfl ⟨⟨g1, g2, g3, g4, rfl, ?_⟩, ?_⟩
 ·
  exact InW.drop (B := w.heap.size + 1 + 1 + 1) ⟨G1.kept cInt_keeps (K5 _ _ _ _ _), G2.kept cInt_keeps (K5 _ _ _ _ _), G3.kept cTab_keeps (K5 _ _ _ _ _), d4.kept cVal_keeps (K5 _ _ _ _ _)⟩ (by omega)
 exact ((((L3.setCell (by simp <;> omega) _).setCell (by simp <;> omega) _).setCell (by simp <;> omega) _).setCell (by simp <;> omega) _).setCell (by simp <;> omega) _
end
section
open Go.RowKit Go.Maps Go.WideMaps
theorem upon_insert {H : Type} {P : Program} {w : World} {o : Oper} {a : Act} {K : Act → World → Prop} {X : Exit → Act → World → Prop} {f : Unit → World → Result Next} (t : TypeId)
  (k e : TypeId) (Kd : Keyed P k) (ht : P.underlying t = some (.map k e)) (R : Value → Option (DataW H × List MemPlace)) (b n : Nat) (D : DataW H)
  (hown : w.ownsMap P k R b n D) (hn : n < maxLen) (key val : Value) (kl : Lit) (hkey : keyOf P k key = some kl) (d : DataW H) (ps : List MemPlace) (hval : R val = some (d, ps))
  (hK : ∀ w', w'.ownsMap P k R b (n + 1) (D.put kl d) → w.grownBy w' (some b) → Oper.upon P o a K X (f () w')) :
  Oper.upon P o a K X (((Instr.mapUpdate t (.map (some b)) key val).run P w).andThen f) := by
 obtain ⟨w', hrun, r1, r2⟩ := hown.update Kd ht hn hkey hval
 rw [hrun]
 exact hK w' r1 r2
theorem skeyed : Keyed Tryz.prog 9 := string_keyed Tryz.underlying9
def words : List ByteArray := [⟨#[115, 121, 115, 116, 101, 109]⟩, ⟨#[102, 110]⟩, ⟨#[108, 101, 116]⟩, ⟨#[105, 102]⟩, ⟨#[101, 108, 115, 101]⟩, ⟨#[108, 111, 111, 112]⟩, ⟨#[101, 97, 99, 104]⟩, ⟨#[119, 105, 116, 104]⟩, ⟨#[119, 105, 116, 104, 111, 117, 116]⟩, ⟨#[101, 109, 105, 116]⟩, ⟨#[104, 101, 97, 114]⟩, ⟨#[97, 115]⟩, ⟨#[115, 112, 97, 119, 110]⟩, ⟨#[107, 105, 108, 108]⟩, ⟨#[112, 117, 116]⟩, ⟨#[100, 114, 111, 112]⟩, ⟨#[100, 111]⟩, ⟨#[114, 101, 116, 117, 114, 110]⟩, ⟨#[112, 105, 99, 107]⟩, ⟨#[111, 102]⟩, ⟨#[121, 101, 115]⟩, ⟨#[110, 111]⟩, ⟨#[97, 110, 100]⟩, ⟨#[111, 114]⟩, ⟨#[110, 111, 116]⟩, ⟨#[105, 110, 116]⟩, ⟨#[114, 101, 97, 108]⟩, ⟨#[112, 97, 105, 114]⟩, ⟨#[98, 111, 111, 108]⟩, ⟨#[114, 101]⟩, ⟨#[105, 109]⟩, ⟨#[115, 105, 122, 101]⟩]
def wkey (s : ByteArray) : Lit := .string s.data.toList
def wordMap : List ByteArray → DataW Unit → DataW Unit
 | [], D => D
 | s :: r, D => wordMap r (D.put (wkey s) (.agg []))
def isW (s : ByteArray) : Bool := words.any (fun t => decide (t = s))
theorem wkey_inj {s t : ByteArray} (h : wkey s = wkey t) : s = t := by
 simp only [wkey, Lit.string.injEq] at h
 have : s.data = t.data := Array.toList_inj.1 h
 cases s; cases t; simp_all
theorem has_put {D : DataW Unit} (hD : IsMap D) (s t : ByteArray) (d : DataW Unit) : Maps.has (D.put (wkey s) d) (wkey t) = (decide (s = t) || Maps.has D (wkey t)) := by
 by_cases h : s = t
 ·
  subst h
  rw [has_put_same hD (by trivial)]; simp
 have hne : wkey t ≠ wkey s := fun e => h (wkey_inj e).symm
 rw [has_put_other hne]; simp [h]
theorem has_words : ∀ (l : List ByteArray) (D : DataW Unit) (t : ByteArray), IsMap D → Maps.has (wordMap l D) (wkey t) = (l.any (fun s => decide (s = t)) || Maps.has D (wkey t))
 | [], D, t, h => by simp [wordMap]
 | s :: r, D, t, h => by
  rw [wordMap, has_words r _ t (h.put _ _), has_put h]
  simp only [List.any_cons]
  cases decide (s = t) <;> cases r.any (fun s => decide (s = t)) <;> simp
theorem has_word (t : ByteArray) : Maps.has (wordMap words (.map [])) (wkey t) = isW t := by
 rw [has_words _ _ _ isMap_empty]; simp [isW, Maps.has]
set_option maxRecDepth 100000 in
set_option maxHeartbeats 8000000 in
theorem wordSet_any (w : World) :
  Calls Tryz.prog 137 #[] w fun e w' => e = .returned (.map (some w.heap.size)) ∧ w'.ownsMap Tryz.prog 9 (unitElem (H := Unit)) w.heap.size 32 (wordMap words (.map [])) ∧ Below w.heap.size w w' := by
 have hmm := @run_makeMap Tryz.prog
 have hown := World.ownsMap_made w Tryz.prog 9 (unitElem (H := Unit))
 have hbl : Below w.heap.size w (w.alloc (.map #[] 0)) := bl_alloc (Below.refl _ w) _
 go_enter Tryz.func137, Tryz.ntmps137
 have k0 : ∀ s : ByteArray, s.size ≤ 9 → keyOf Tryz.prog 9 (.string s) = some (wkey s) := fun s hs => keyOf_string_mk Tryz.underlying9 (by unfold maxLen; omega)
 go_wp2_with (refine upon_insert 199 9 206 skeyed Tryz.underlying199 (unitElem (H := Unit)) w.heap.size _ _ hown (by unfold maxLen; omega) _ _ _ (k0 _ (by decide)) (.agg []) [] unitElem_mk ?_; intro w1 hown1 hgrow; have hbl1 := hbl.grown hgrow hbl.size (fun j hj => by cases hj; exact Nat.le_refl _); clear hown hbl hgrow; have hown := hown1; have hbl := hbl1; clear hown1 hbl1); go_ret; exact ⟨rfl, hown, hbl⟩
theorem zeroU (w : World) : (zeroValue 206).run Tryz.prog w = .ok (.agg #[]) w := by kernel_rfl
theorem word_look {w : World} {b : Nat} (h : w.ownsMap Tryz.prog 9 (unitElem (H := Unit)) b 32 (wordMap words (.map []))) (s : ByteArray) (hs : s.size ≤ maxLen) :
  (Instr.lookup 199 (.map (some b)) (.string s) true).run Tryz.prog w = .ok (.tuple #[.agg #[], .bool (isW s)]) w := by
 obtain ⟨v, ps, hrun, hv⟩ := h.look_ok (zd := .agg []) (zp := []) skeyed Tryz.underlying199 (zeroU w) unitElem_mk (kl := wkey s) (keyOf_string_mk Tryz.underlying9 hs)
 obtain ⟨rfl, _⟩ := unitElem_inv hv
 rw [has_word] at hrun
 exact hrun
end
section
open Go.RowKit Go.Maps Go.WideMaps
theorem ret_boolw {a b : Bool} (h : a = b) : Ending.returned (.bool a) = .returned (.bool b) := by rw [h]
theorem toList_same (t s : ByteArray) : (t.toList == s.toList) = decide (t = s) := by
 rw [ByteArray.toList_eq, ByteArray.toList_eq, Bool.eq_iff_iff]
 simp only [beq_iff_eq, decide_eq_true_eq]
 exact ⟨WideShapes.bytes_inj, fun h => by rw [h]⟩
theorem toList_ne {t s : ByteArray} (h : ¬ t = s) : (t.toList == s.toList) = false := by rw [toList_same]; simp [h]
theorem toList_eq' {t s : ByteArray} (h : t = s) : (t.toList == s.toList) = true := by rw [toList_same]; simp [h]
def wordAt (k : Nat) : ByteArray := words[k]?.getD ByteArray.empty
theorem isW_none {s : ByteArray} (h : ∀ j, j < 32 → ¬ wordAt j = s) : isW s = false := by
 unfold isW
 rw [List.any_eq_false]
 intro t ht
 obtain ⟨j, hj, rfl⟩ := List.getElem_of_mem ht
 have := h j hj
 simp only [wordAt, List.getElem?_eq_getElem hj, Option.getD_some] at this
 simpa using this
theorem isW_some {s : ByteArray} {j : Nat} (hj : j < 32) (h : wordAt j = s) : isW s = true := by
 unfold isW
 rw [List.any_eq_true]
 have hj' : j < words.length := hj
 refine ⟨words[j], List.getElem_mem hj', ?_⟩
 simp only [wordAt, List.getElem?_eq_getElem hj', Option.getD_some] at h
 simp [h]
theorem wordl_cell {j : Nat} (hj : j < 32) : ((words.map Value.string).toArray)[j]? = some (.string (wordAt j)) := by
 have hj' : j < words.length := hj
 simp [wordAt, List.getElem?_eq_getElem hj']
set_option maxRecDepth 100000 in
set_option maxHeartbeats 4000000 in
theorem l3Words_any (w : World) :
  Calls Tryz.prog 136 #[] w fun e w' => e = .returned (.slice (some ⟨w.heap.size, 0, none⟩) 32 32) ∧ (∀ j, j < 32 → w'.cell? ⟨w.heap.size, j, none⟩ = some (.string (wordAt j))) ∧ Below w.heap.size w w' := by
 go_enter Tryz.func136, Tryz.ntmps136
 go_wp2_with fail; go_ret; refine ⟨rfl, fun j hj => ?_, bl_alloc (Below.refl _ w) _⟩
 exact ((Blk.new w _ _).cell j).trans (wordl_cell hj)
set_option maxHeartbeats 2000000 in
theorem specIsWord_any (s : ByteArray) (w : World) :
  Calls Tryz.prog 117 #[.string s] w fun e w' => e = .returned (.bool (isW s)) ∧ Below w.heap.size w w' := by
 go_enter Tryz.func117, Tryz.ntmps117
 go_wp2_with fail; refine (l3Words_any _).mono ?_
 rintro e w1 ⟨rfl, hc, hb⟩
 go_wp2_with fail; go_loop [4] (fun i => ∃ k : Nat, k ≤ 32 ∧ i = .int .i64 k ∧ Hid (∀ j, j < k → ¬ wordAt j = s)) (fun i => 32 - (intOf i).toNat)
 case atStart => exact ⟨0, Nat.zero_le _, rfl, fun j hj => absurd hj (by omega)⟩
 obtain ⟨k, hk, rfl, hn⟩ := hrel
 by_cases hlt : k < 32
 ·
  have d1 := hc k hlt
  obtain ⟨t, ht⟩ : ∃ t, Hid (wordAt k = t) := ⟨_, rfl⟩
  rw [ht.out] at d1
  clear hc; by_cases he : t = s
  ·
   have hg : Hid (isW s = true) := isW_some hlt (ht.out.trans he)
   have hq := toList_eq' he
   go_wp2_with fail; go_ret; exact ⟨ret_boolw hg.out.symm, hb⟩
  have hs' : Hid (∀ j, j < k + 1 → ¬ wordAt j = s) := by
   intro j hj
   by_cases h : j = k
   ·
    subst h; rw [ht.out]; exact he
   exact hn.out j (by omega)
  have hq := toList_ne he
  go_wp2_with fail; go_round
  case rel => exact ⟨k + 1, by omega, by go_num, hs'⟩
  case measure => simp [intOf]; omega
 have hg : Hid (isW s = false) := isW_none (fun j hj => hn.out j (by omega))
 go_wp2_with fail; go_ret; exact ⟨ret_boolw hg.out.symm, hb⟩
def letB (c : Nat) : Bool := (decide ((97 : Int) ≤ c) && decide ((c : Int) ≤ 122)) || (decide ((65 : Int) ≤ c) && decide ((c : Int) ≤ 90))
set_option maxHeartbeats 2000000 in
theorem isLetter_any (c : Nat) (w : World) :
  Calls Tryz.prog 147 #[.int .i32 (c : Int)] w fun e w' => e = .returned (.bool (letB c)) ∧ w' = w := by
 cases h1 : decide ((97 : Int) ≤ c) <;> cases h2 : decide ((c : Int) ≤ 122) <;> cases h3 : decide ((65 : Int) ≤ c) <;> cases h4 : decide ((c : Int) ≤ 90)
 all_goals
  have E : Hid (_ = letB c) := (by unfold Hid letB; rw [h1, h2, h3, h4])
  go_enter Tryz.func147, Tryz.ntmps147
  go_wp2_with fail; go_ret; exact ⟨ret_boolw E.out, rfl⟩
set_option maxHeartbeats 2000000 in
theorem l3Letter_any (c : Nat) (w : World) :
  Calls Tryz.prog 116 #[.int .u8 (c : Int)] w fun e w' => e = .returned (.bool (letB c)) ∧ w' = w := by
 cases h1 : decide ((97 : Int) ≤ c) <;> cases h2 : decide ((c : Int) ≤ 122) <;> cases h3 : decide ((65 : Int) ≤ c) <;> cases h4 : decide ((c : Int) ≤ 90)
 all_goals
  have E : Hid (_ = letB c) := (by unfold Hid letB; rw [h1, h2, h3, h4])
  go_enter Tryz.func116, Tryz.ntmps116
  go_wp2_with fail; go_ret; exact ⟨ret_boolw E.out, rfl⟩
end
end Go.Proofs.YtbgeobpdojmdaaaGreat
