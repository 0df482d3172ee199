import Derived.Test.YtbgeobpdojmdaaaGreatSq06
namespace Go.Proofs.YtbgeobpdojmdaaaGreat
open Go.RowKit
set_option linter.unusedVariables false
set_option linter.unusedSimpArgs false
def Made {α : Type} (q : Nat) (E : World → Nat → List Value → α → Prop) (w : World) (L : List α) (e : Ending) (w' : World) : Prop :=
 ∃ g, e = .returned (.slice (some ⟨g, 0, none⟩) L.length L.length) ∧ w.heap.size ≤ g ∧ Els q E w' g (some ⟨g, 0, none⟩) L ∧ Below w.heap.size w w'
theorem row_els {w : World} {B g n cap : Nat} {G : List Int} (h : Row w B (some ⟨g, 0, none⟩) n cap G) : Els 1 cInt w g (some ⟨g, 0, none⟩) G := by
 have hl := h.ints.2
 refine Or.inr ⟨g, 0, rfl, Nat.le_refl _, h.lt.2, fun j a ha => ?_, fun _ j => World.ownsRow.frozenAt h j⟩
 have hj : j < G.length := (List.getElem?_eq_some_iff.1 ha).1
 refine ⟨[.int .i64 a], rfl, fun i u hu => ?_, rfl⟩
 have hi : i = 0 := by
  have := (List.getElem?_eq_some_iff.1 hu).1
  simp at this; exact this
 subst hi
 simp at hu
 subst hu
 have := (h.cell j (by omega)).1
 rw [ha] at this
 simpa using this
theorem toInts_made (s : Option Addr) (c : Nat) (L : List Int) (B : Nat) (w : World) (hL : Els 1 cInt w B s L) (hl : L.length ≤ 1048576) :
  Calls Tryz.prog 64 #[.slice s L.length c] w fun e w' => Made 1 cInt w L e w' :=
 (toInts_any s c L w hL.ints hl).mono fun e w' ⟨h1, h2, h3⟩ => ⟨_, h1, Nat.le_refl _, row_els h2, h3⟩
theorem Tryz.infoE : (Tryz.prog.info? 42).map (fun i => (i.zero, i.size, i.bytes)) = some (some (.agg #[.int .i64 0, .int .i64 0]), 2, 16) := by kernel_rfl
theorem Tryz.infoV : (Tryz.prog.info? 75).map (fun i => (i.zero, i.size, i.bytes)) = some (some (.agg #[.int .i64 0, .int .i64 0, .float .f64 0, .float .f64 0]), 4, 32) := by kernel_rfl
theorem Tryz.infoVS : (Tryz.prog.info? 38).map (fun i => (i.zero, i.size, i.bytes)) = some (some (.slice none 0 0), 1, 24) := by kernel_rfl
theorem Tryz.infoT : (Tryz.prog.info? 119).map (fun i => (i.zero, i.size, i.bytes)) = some (some (.agg #[.slice none 0 0, .slice none 0 0, .slice none 0 0]), 3, 72) := by kernel_rfl
set_option maxHeartbeats 2000000 in
theorem toEntS_made (s : Option Addr) (c : Nat) (L : List E2) (B : Nat) (w : World) (hL : Els 2 cEnt w B s L) (hl : L.length ≤ 1048576) :
  Calls Tryz.prog 94 #[.slice s L.length c] w fun e w' => Made 2 cEnt w L e w' := by
 obtain ⟨i0, hi, hz0, hz1, hz2⟩ := info_parts Tryz.infoE
 go_enter Tryz.func94, Tryz.ntmps94
 go_wp2_with (at_make; refine wpList_make_full _ rfl _ _ 115 rfl w.heap.size 42 i0 (.agg #[.int .i64 0, .int .i64 0]) 2 Tryz.underlying115 hi hz0 hz1 .i64 .i64 _ _ L.length rfl rfl rfl rfl (by rw [hz2]; omega) (by unfold maxLen; omega) (Nat.le_refl _) ?_)
 intro w1 hown hgrow
 have hrow : Hid (Mk 2 cEnt [.int .i64 0, .int .i64 0] 42 w1 w.heap.size w.heap.size L 0) := Mk.start (z := #[.int .i64 0, .int .i64 0]) rfl hown
 have hbel : Hid (Below w.heap.size w w1) := (Below.refl _ w).grown hgrow (Nat.le_refl _) (fun k h => by cases h)
 clear hown hgrow hi hz0 hz1 hz2; go_wp2_with fail; go_loopw [4] (fun i wr => ∃ k : Nat, k ≤ L.length ∧ i = .int .i64 k ∧ Hid (Mk 2 cEnt [.int .i64 0, .int .i64 0] 42 wr w.heap.size w.heap.size L k) ∧ Hid (Below w.heap.size w wr)) (fun i _ => L.length - (intOf i).toNat)
 case atStart => exact ⟨0, Nat.zero_le _, rfl, hrow, hbel⟩
 obtain ⟨k, hk, rfl, hrow, hbel⟩ := hrel
 by_cases hlt : k < L.length
 ·
  obtain ⟨a, ha⟩ := get_some hlt
  obtain ⟨b, o, rfl, hB, hp, e1, e2⟩ := eEnt_cells (hL.later cEnt_keeps hbel.out) ha
  obtain ⟨p1, p2⟩ := a
  clear hL; go_wp2_with fail; refine (toEnt_any p1 p2 _).mono ?_
  rintro e w2 ⟨rfl, hb2⟩
  have hr2 := hrow.out.later cEnt_keeps hb2
  have L2 : Hid (Below w.heap.size w w2) := bl_trans hbel.out hb2
  obtain ⟨_, hg, fz, cz⟩ := hr2.at hlt
  have g1 := cz 0 _ rfl
  have g2 := cz 1 _ rfl
  rw [Nat.add_zero] at g1
  have hputH : Hid (Mk 2 cEnt [.int .i64 0, .int .i64 0] 42 ((w2.setCell ⟨w.heap.size, k * 2, none⟩ (.int .i64 p1)).setCell ⟨w.heap.size, k * 2 + 1, none⟩ (.int .i64 p2)) w.heap.size w.heap.size L (k + 1)) :=
   hr2.push cEnt_keeps ha (c := [.int .i64 p1, .int .i64 p2]) rfl rfl ((Kept.set _ (by simp) _).trans (Kept.set _ (by simp) _)) (fun A C hA h => put2 hA h)
  clear hr2 hrow ha cz; go_wp2_with fail; go_roundw
  case rel => exact ⟨k + 1, by omega, by go_num, hputH, (L2.out.setCell (Nat.le_refl _) _).setCell (Nat.le_refl _) _⟩
  case measure => simp [intOf]; omega
 have hm' : k = L.length := by omega
 subst hm'
 go_wp2_with fail; go_ret; exact ⟨_, rfl, Nat.le_refl _, hrow.out.done cEnt_drops, hbel.out⟩
set_option maxHeartbeats 400000 in
theorem toVal_any (k i : Int) (x y : Nat) (w : World) :
  Calls Tryz.prog 66 #[.agg #[.int .i64 k, .int .i64 i, .float .f64 x, .float .f64 y]] w fun e w' => e = .returned (.agg #[.int .i64 k, .int .i64 i, .float .f64 x, .float .f64 y]) ∧ Below w.heap.size w w' := by
 go_enter Tryz.func66, Tryz.ntmps66
 go_wp2
 refine bodyPost_ret (v := .agg #[.int .i64 k, .int .i64 i, .float .f64 x, .float .f64 y]) (by simp [results, Tryz.results66, go_sem]) rfl ⟨rfl, ?_⟩
 exact blq
set_option maxHeartbeats 4000000 in
theorem toValS_made (s : Option Addr) (c : Nat) (L : List V4) (B : Nat) (w : World) (hL : Els 4 cVal w B s L) (hl : L.length ≤ 1048576) :
  Calls Tryz.prog 31 #[.slice s L.length c] w fun e w' => Made 4 cVal w L e w' := by
 obtain ⟨i0, hi, hz0, hz1, hz2⟩ := info_parts Tryz.infoV
 go_enter Tryz.func31, Tryz.ntmps31
 go_wp2_with (at_make; refine wpList_make_full _ rfl _ _ 38 rfl w.heap.size 75 i0 (.agg #[.int .i64 0, .int .i64 0, .float .f64 0, .float .f64 0]) 4 Tryz.underlying38 hi hz0 hz1 .i64 .i64 _ _ L.length rfl rfl rfl rfl (by rw [hz2]; omega) (by unfold maxLen; omega) (Nat.le_refl _) ?_)
 intro w1 hown hgrow
 have hrow : Hid (Mk 4 cVal [.int .i64 0, .int .i64 0, .float .f64 0, .float .f64 0] 75 w1 w.heap.size w.heap.size L 0) := Mk.start (z := #[.int .i64 0, .int .i64 0, .float .f64 0, .float .f64 0]) rfl hown
 have hbel : Hid (Below w.heap.size w w1) := (Below.refl _ w).grown hgrow (Nat.le_refl _) (fun k h => by cases h)
 clear hown hgrow hi hz0 hz1 hz2; go_wp2_with fail; go_loopw [4] (fun i wr => ∃ k : Nat, k ≤ L.length ∧ i = .int .i64 k ∧ Hid (Mk 4 cVal [.int .i64 0, .int .i64 0, .float .f64 0, .float .f64 0] 75 wr w.heap.size w.heap.size L k) ∧ Hid (Below w.heap.size w wr)) (fun i _ => L.length - (intOf i).toNat)
 case atStart => exact ⟨0, Nat.zero_le _, rfl, hrow, hbel⟩
 obtain ⟨k, hk, rfl, hrow, hbel⟩ := hrel
 by_cases hlt : k < L.length
 ·
  obtain ⟨a, ha⟩ := get_some hlt
  obtain ⟨b, o, rfl, hB, hp, hok, e1, e2, e3, e4⟩ := eVal_cells (hL.later cVal_keeps hbel.out) ha
  obtain ⟨p1, p2, p3, p4⟩ := a
  have HO : Hid (okV (p1, p2, p3, p4)) := hok
  clear hL hok; go_wp2_with fail; refine (toVal_any p1 p2 p3 p4 _).mono ?_
  rintro e w2 ⟨rfl, hb2⟩
  have hr2 := hrow.out.later cVal_keeps hb2
  have L2 : Hid (Below w.heap.size w w2) := bl_trans hbel.out hb2
  obtain ⟨_, hg, fz, cz⟩ := hr2.at hlt
  have g1 := cz 0 _ rfl
  have g2 := cz 1 _ rfl
  have g3 := cz 2 _ rfl
  have g4 := cz 3 _ rfl
  rw [Nat.add_zero] at g1
  have hputH : Hid (Mk 4 cVal [.int .i64 0, .int .i64 0, .float .f64 0, .float .f64 0] 75 ((((w2.setCell ⟨w.heap.size, k * 4, none⟩ (.int .i64 p1)).setCell ⟨w.heap.size, k * 4 + 1, none⟩ (.int .i64 p2)).setCell ⟨w.heap.size, k * 4 + 2, none⟩ (.float .f64 p3)).setCell ⟨w.heap.size, k * 4 + 3, none⟩ (.float .f64 p4)) w.heap.size w.heap.size L (k + 1)) :=
   hr2.push cVal_keeps ha (c := vcells (p1, p2, p3, p4)) rfl ⟨rfl, HO.out⟩ ((((Kept.set _ (by simp) _).trans (Kept.set _ (by simp) _)).trans (Kept.set _ (by simp) _)).trans (Kept.set _ (by simp) _)) (fun A C hA h => put4 hA h)
  clear hr2 hrow ha cz; go_wp2_with fail; go_roundw
  case rel => exact ⟨k + 1, by omega, by go_num, hputH, (((L2.out.setCell (Nat.le_refl _) _).setCell (Nat.le_refl _) _).setCell (Nat.le_refl _) _).setCell (Nat.le_refl _) _⟩
  case measure => simp [intOf]; omega
 have hm' : k = L.length := by omega
 subst hm'
 go_wp2_with fail; go_ret; exact ⟨_, rfl, Nat.le_refl _, hrow.out.done cVal_drops, hbel.out⟩
set_option maxHeartbeats 4000000 in
theorem toValSS_made (s : Option Addr) (c : Nat) (L : List (List V4)) (B : Nat) (w : World) (hL : Els 1 cVals w B s L) (hl : kLL L) :
  Calls Tryz.prog 95 #[.slice s L.length c] w fun e w' => Made 1 cVals w L e w' := by
 obtain ⟨i0, hi, hz0, hz1, hz2⟩ := info_parts Tryz.infoVS
 obtain ⟨hl, hls⟩ := hl
 have HLS : Hid (∀ l ∈ L, l.length ≤ 1048576) := hls
 clear hls; go_enter Tryz.func95, Tryz.ntmps95
 go_wp2_with (at_make; refine wpList_make_full _ rfl _ _ 117 rfl w.heap.size 38 i0 (.slice none 0 0) 1 Tryz.underlying117 hi hz0 hz1 .i64 .i64 _ _ L.length rfl rfl rfl rfl (by rw [hz2]; omega) (by unfold maxLen; omega) (Nat.le_refl _) ?_)
 intro w1 hown hgrow
 have hrow : Hid (Mk 1 cVals [.slice none 0 0] 38 w1 w.heap.size w.heap.size L 0) := Mk.start (z := #[.slice none 0 0]) rfl (by rw [Nat.mul_one]; exact hown)
 have hbel : Hid (Below w.heap.size w w1) := (Below.refl _ w).grown hgrow (Nat.le_refl _) (fun k h => by cases h)
 clear hown hgrow hi hz0 hz1 hz2; go_wp2_with fail; go_loopw [4] (fun i wr => ∃ k : Nat, k ≤ L.length ∧ i = .int .i64 k ∧ Hid (Mk 1 cVals [.slice none 0 0] 38 wr w.heap.size w.heap.size L k) ∧ Hid (Below w.heap.size w wr)) (fun i _ => L.length - (intOf i).toNat)
 case atStart => exact ⟨0, Nat.zero_le _, rfl, hrow, hbel⟩
 obtain ⟨k, hk, rfl, hrow, hbel⟩ := hrel
 by_cases hlt : k < L.length
 ·
  obtain ⟨a, ha⟩ := get_some hlt
  obtain ⟨b, o, rfl, hB, hp, s', c', e1, e2⟩ := eVals_cells (hL.later cVals_keeps hbel.out) ha
  have hal := HLS.out a (List.mem_of_getElem? ha)
  have gl := (hrow.out.at hlt).2.1
  clear hL; go_wp2_with fail; refine (toValS_made s' c' a B _ e2 hal).mono ?_
  rintro e w2 ⟨g, rfl, hgg, hEg, hb2⟩
  have hr2 := hrow.out.later cVals_keeps hb2
  have L2 : Hid (Below w.heap.size w w2) := bl_trans hbel.out hb2
  obtain ⟨_, hg, fz, cz⟩ := hr2.at hlt
  have g1 := cz 0 _ rfl
  rw [Nat.add_zero, Nat.mul_one] at g1
  have hputH : Hid (Mk 1 cVals [.slice none 0 0] 38 (w2.setCell ⟨w.heap.size, k, none⟩ (.slice (some ⟨g, 0, none⟩) a.length a.length)) w.heap.size w.heap.size L (k + 1)) :=
   hr2.push cVals_keeps ha (c := [.slice (some ⟨g, 0, none⟩) a.length a.length]) rfl ⟨_, _, rfl, hEg.drop cVal_drops (by omega)⟩ (Kept.set _ (by simp) _) (fun A C hA h => put1 rfl hA h)
  clear hr2 hrow ha cz e2 hEg; go_wp2_with fail; go_roundw
  case rel => exact ⟨k + 1, by omega, by go_num, hputH, L2.out.setCell (Nat.le_refl _) _⟩
  case measure => simp [intOf]; omega
 have hm' : k = L.length := by omega
 subst hm'
 go_wp2_with fail; go_ret; exact ⟨_, rfl, Nat.le_refl _, hrow.out.done cVals_drops, hbel.out⟩
end Go.Proofs.YtbgeobpdojmdaaaGreat
