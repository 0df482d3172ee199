import Derived.Test.YtkihhadcoclnaaaGreatSp06
namespace Go.Proofs.YtkihhadcoclnaaaGreat
set_option linter.unusedVariables false
section
open Go.RowKit
def l2B (G F : List Int) (at0 gen : Int) : Bool := decide (0 ≤ at0 ∧ at0 < G.length ∧ G[at0.toNat]?.getD 0 = gen ∧ ¬ at0 ∈ F)
theorem Blk.one {w : World} {n : Nat} {a b : Value} {t : TypeId} (h : Blk w n #[a, b] t) : w.cell? ⟨n, 0, none⟩ = some a ∧ w.cell? ⟨n, 1, none⟩ = some b := ⟨h.cell 0, h.cell 1⟩
set_option maxHeartbeats 1000000 in
theorem toEnt_any (a g : Int) (w : World) :
  Calls Tryz.prog 11 #[.agg #[.int .i64 a, .int .i64 g]] w fun e w' => e = .returned (.agg #[.int .i64 a, .int .i64 g]) ∧ Below w.heap.size w w' := by
 go_enter Tryz.func11, Tryz.ntmps11
 go_wp2_with fail; refine bodyPost_ret (v := .agg #[.int .i64 a, .int .i64 g]) (by simp [results, Tryz.results11, go_sem]) rfl ⟨rfl, ?_⟩
 exact blq
theorem mem_take_false {F : List Int} {k : Nat} {v : Int} (hk : k < F.length) (h : ¬ v ∈ F.take k) (hx : ¬ F[k]?.getD 0 = v) : ¬ v ∈ F.take (k + 1) := by
 rw [take_succ' F k hk, List.mem_append]
 rintro (h1 | h1)
 ·
  exact h h1
 simp at h1; exact hx h1.symm
theorem l1In_is (x lo hi : Int) (w : World) (b : Bool) (h : (decide (lo ≤ x) && decide (x ≤ hi)) = b) :
  Calls Tryz.prog 33 #[.int .i64 x, .int .i64 lo, .int .i64 hi] w fun e w' => e = .returned (.bool b) ∧ w' = w := by
 subst h; exact l1In_any x lo hi w
set_option maxHeartbeats 1000000 in
theorem l2Live_any (s1 s2 : Option Addr) (c1 c2 : Nat) (G F : List Int) (a g : Int) (w : World) (h1 : Ints w s1 G) (h2 : Ints w s2 F) (l1 : G.length ≤ 1048576) (l2 : F.length ≤ 1048576) :
  Calls Tryz.prog 75 #[.agg #[.slice s1 G.length c1, .slice s2 F.length c2], .agg #[.int .i64 a, .int .i64 g]] w fun e w' => e = .returned (.bool (l2B G F a g)) ∧ Below w.heap.size w w' := by
 have hal := alloc_old
 have haf := alloc_oldf
 by_cases hin : 0 ≤ a ∧ a < G.length
 ·
  obtain ⟨q, rfl⟩ : ∃ q : Nat, a = (q : Int) := ⟨a.toNat, by omega⟩
  have hq : q < G.length := by omega
  have t3 : (decide (0 ≤ (q : Int)) && decide ((q : Int) ≤ (G.length : Int) - 1)) = true := by simp; omega
  have tw : IntKind.i64.wrap ((G.length : Int) - 1) = (G.length : Int) - 1 := by rw [IntKind.wrap_i64]; omega
  obtain ⟨k0, k1⟩ := blk2 w #[.slice s1 G.length c1, .slice s2 F.length c2] #[.int .i64 (q : Int), .int .i64 g] 36 48
  obtain ⟨x0, x1, x2⟩ := k0.two
  obtain ⟨y0, y1, y2⟩ := k1.two
  obtain ⟨pb, po, rfl, hp, hc⟩ := h1.get hq
  obtain ⟨x, hx⟩ : ∃ x, Hid (G[q]?.getD 0 = x) := ⟨_, rfl⟩
  have d1 : w.cell? ⟨pb, po + q, none⟩ = some (.int .i64 x) := by rw [← hx.out]; exact hc q hq
  clear hc; by_cases he : x = g
  ·
   have g0 : (x != g) = false := by simp [he]
   go_enter Tryz.func75, Tryz.ntmps75
   go_wp2_with fail; go_quiet (first | (go_at_call 33; exact Calls.quiet_of_same (l1In_is _ _ _ _ true t3)))
   go_wp2_with fail; go_loopw [5] (fun i wr => ∃ k : Nat, k ≤ F.length ∧ i = .int .i64 k ∧ Hid (¬ (q : Int) ∈ F.take k) ∧ Blk wr w.heap.size #[.slice (some ⟨pb, po, none⟩) G.length c1, .slice s2 F.length c2] 36 ∧ Blk wr (w.heap.size + 1) #[.int .i64 (q : Int), .int .i64 g] 48 ∧ Below w.heap.size w wr) (fun i _ => F.length - (intOf i).toNat)
   case atStart =>
    refine ⟨0, Nat.zero_le _, rfl, by simp [Hid], k0, k1, ?_⟩
    exact blq
   clear x0 x1 x2 y0 y1 y2 k0 k1; obtain ⟨k, hk, rfl, hall, k0, k1, hbel⟩ := hrel
   obtain ⟨x0, x1, x2⟩ := k0.two
   obtain ⟨y0, y1, y2⟩ := k1.two
   by_cases hlt : k < F.length
   ·
    obtain ⟨qb, qo, rfl, hqb, hc⟩ := h2.get hlt
    obtain ⟨z, hz⟩ : ∃ x, Hid (F[k]?.getD 0 = x) := ⟨_, rfl⟩
    have d2 : wr.cell? ⟨qb, qo + k, none⟩ = some (.int .i64 z) := by rw [← hz.out]; exact (hbel.cell (p := ⟨qb, qo + k, none⟩) hqb).trans (hc k hlt)
    clear hc; by_cases hv : z = (q : Int)
    ·
     have hbad : Hid (l2B G F q g = false) := by
      simp only [Hid, l2B, decide_eq_false_iff_not]
      rintro ⟨_, _, _, h4⟩
      apply h4
      rw [← hv, ← hz.out]; exact getD_mem hlt
     have gq : (z == (q : Int)) = true := by simp [hv]
     clear hv; go_wp2_with fail; go_quiet (fail)
     go_wp2_with fail; go_ret; refine ⟨ret_bool' hbad.out.symm, ?_⟩
     exact blq
    have gq : (z == (q : Int)) = false := by simp [hv]
    have hstep : Hid (¬ (q : Int) ∈ F.take (k + 1)) := mem_take_false hlt hall.out (by rw [hz.out]; exact hv)
    clear hv; go_wp2_with fail; go_quiet (fail)
    go_wp2_with fail; go_roundw
    case rel =>
     refine ⟨k + 1, by omega, by go_num, hstep, k0, k1, ?_⟩
     exact blq
    case measure => simp [intOf]; omega
   have hgood : Hid (l2B G F q g = true) := by
    have := hall.out
    rw [List.take_of_length_le (by omega)] at this
    simp only [Hid, l2B, decide_eq_true_eq]
    exact ⟨by omega, by omega, by simpa [hx.out] using he, this⟩
   go_wp2_with fail; go_ret; refine ⟨ret_bool' hgood.out.symm, ?_⟩
   exact blq
  have g0 : (x != g) = true := by simp [he]
  have hbad : Hid (l2B G F q g = false) := by
   simp only [Hid, l2B, decide_eq_false_iff_not]
   rintro ⟨_, _, h3, _⟩
   apply he
   rw [← hx.out]; simpa using h3
  go_enter Tryz.func75, Tryz.ntmps75
  go_wp2_with fail; go_quiet (first | (go_at_call 33; exact Calls.quiet_of_same (l1In_is _ _ _ _ true t3)))
  go_wp2_with fail; go_ret; refine ⟨ret_bool' hbad.out.symm, ?_⟩
  exact blq
 have hbad : Hid (l2B G F a g = false) := by
  simp only [Hid, l2B, decide_eq_false_iff_not]
  rintro ⟨h3, h4, _⟩
  exact hin ⟨h3, h4⟩
 have t3 : (decide (0 ≤ a) && decide (a ≤ (G.length : Int) - 1)) = false := by simp; omega
 have tw : IntKind.i64.wrap ((G.length : Int) - 1) = (G.length : Int) - 1 := by rw [IntKind.wrap_i64]; omega
 obtain ⟨k0, k1⟩ := blk2 w #[.slice s1 G.length c1, .slice s2 F.length c2] #[.int .i64 a, .int .i64 g] 36 48
 obtain ⟨x0, x1, x2⟩ := k0.two
 obtain ⟨y0, y1, y2⟩ := k1.two
 clear hin; go_enter Tryz.func75, Tryz.ntmps75
 go_wp2_with fail; go_quiet (first | (go_at_call 33; exact Calls.quiet_of_same (l1In_is _ _ _ _ false t3)))
 go_wp2_with fail; go_ret; refine ⟨ret_bool' hbad.out.symm, ?_⟩
 exact blq
end
section
open Go.RowKit
set_option linter.unusedSimpArgs false
def Made {α : Type} (q : Nat) (E : World → Nat → List Value → α → Prop) (w : World) (L : List α) (e : Ending) (w' : World) : Prop :=
 ∃ g, e = .returned (.slice (some ⟨g, 0, none⟩) L.length L.length) ∧ w.heap.size ≤ g ∧ Els q E w' g (some ⟨g, 0, none⟩) L ∧ Below w.heap.size w w'
theorem row_els {w : World} {B g n cap : Nat} {G : List Int} (h : Row w B (some ⟨g, 0, none⟩) n cap G) : Els 1 cInt w g (some ⟨g, 0, none⟩) G := by
 have hl := h.ints.2
 refine Or.inr ⟨g, 0, rfl, Nat.le_refl _, h.lt.2, fun j a ha => ?_, fun _ j => World.ownsRow.frozenAt h j⟩
 have hj : j < G.length := (List.getElem?_eq_some_iff.1 ha).1
 refine ⟨[.int .i64 a], rfl, fun i u hu => ?_, rfl⟩
 have hi : i = 0 := by
  have := (List.getElem?_eq_some_iff.1 hu).1
  simp at this; exact this
 subst hi
 simp at hu
 subst hu
 have := (h.cell j (by omega)).1
 rw [ha] at this
 simpa using this
theorem toInts_made (s : Option Addr) (c : Nat) (L : List Int) (B : Nat) (w : World) (hL : Els 1 cInt w B s L) (hl : L.length ≤ 1048576) :
  Calls Tryz.prog 81 #[.slice s L.length c] w fun e w' => Made 1 cInt w L e w' :=
 (toInts_any s c L w hL.ints hl).mono fun e w' ⟨h1, h2, h3⟩ => ⟨_, h1, Nat.le_refl _, row_els h2, h3⟩
theorem Tryz.infoE : (Tryz.prog.info? 48).map (fun i => (i.zero, i.size, i.bytes)) = some (some (.agg #[.int .i64 0, .int .i64 0]), 2, 16) := by kernel_rfl
theorem Tryz.infoV : (Tryz.prog.info? 59).map (fun i => (i.zero, i.size, i.bytes)) = some (some (.agg #[.int .i64 0, .int .i64 0, .float .f64 0, .float .f64 0]), 4, 32) := by kernel_rfl
theorem Tryz.infoVS : (Tryz.prog.info? 38).map (fun i => (i.zero, i.size, i.bytes)) = some (some (.slice none 0 0), 1, 24) := by kernel_rfl
theorem Tryz.infoT : (Tryz.prog.info? 134).map (fun i => (i.zero, i.size, i.bytes)) = some (some (.agg #[.slice none 0 0, .slice none 0 0, .slice none 0 0]), 3, 72) := by kernel_rfl
set_option maxHeartbeats 2000000 in
theorem toEntS_made (s : Option Addr) (c : Nat) (L : List E2) (B : Nat) (w : World) (hL : Els 2 cEnt w B s L) (hl : L.length ≤ 1048576) :
  Calls Tryz.prog 118 #[.slice s L.length c] w fun e w' => Made 2 cEnt w L e w' := by
 obtain ⟨i0, hi, hz0, hz1, hz2⟩ := info_parts Tryz.infoE
 go_enter Tryz.func118, Tryz.ntmps118
 go_wp2_with (at_make; refine wpList_make_full _ rfl _ _ 130 rfl w.heap.size 48 i0 (.agg #[.int .i64 0, .int .i64 0]) 2 Tryz.underlying130 hi hz0 hz1 .i64 .i64 _ _ L.length rfl rfl rfl rfl (by rw [hz2]; omega) (by unfold maxLen; omega) (Nat.le_refl _) ?_)
 intro w1 hown hgrow
 have hrow : Hid (Mk 2 cEnt [.int .i64 0, .int .i64 0] 48 w1 w.heap.size w.heap.size L 0) := Mk.start (z := #[.int .i64 0, .int .i64 0]) rfl hown
 have hbel : Hid (Below w.heap.size w w1) := (Below.refl _ w).grown hgrow (Nat.le_refl _) (fun k h => by cases h)
 clear hown hgrow hi hz0 hz1 hz2; go_wp2_with fail; go_loopw [4] (fun i wr => ∃ k : Nat, k ≤ L.length ∧ i = .int .i64 k ∧ Hid (Mk 2 cEnt [.int .i64 0, .int .i64 0] 48 wr w.heap.size w.heap.size L k) ∧ Hid (Below w.heap.size w wr)) (fun i _ => L.length - (intOf i).toNat)
 case atStart => exact ⟨0, Nat.zero_le _, rfl, hrow, hbel⟩
 obtain ⟨k, hk, rfl, hrow, hbel⟩ := hrel
 by_cases hlt : k < L.length
 ·
  obtain ⟨a, ha⟩ := get_some hlt
  obtain ⟨b, o, rfl, hB, hp, e1, e2⟩ := eEnt_cells (hL.later cEnt_keeps hbel.out) ha
  obtain ⟨p1, p2⟩ := a
  clear hL; go_wp2_with fail; refine (toEnt_any p1 p2 _).mono ?_
  rintro e w2 ⟨rfl, hb2⟩
  have hr2 := hrow.out.later cEnt_keeps hb2
  have L2 : Hid (Below w.heap.size w w2) := bl_trans hbel.out hb2
  obtain ⟨_, hg, fz, cz⟩ := hr2.at hlt
  have g1 := cz 0 _ rfl
  have g2 := cz 1 _ rfl
  rw [Nat.add_zero] at g1
  have hputH : Hid (Mk 2 cEnt [.int .i64 0, .int .i64 0] 48 ((w2.setCell ⟨w.heap.size, k * 2, none⟩ (.int .i64 p1)).setCell ⟨w.heap.size, k * 2 + 1, none⟩ (.int .i64 p2)) w.heap.size w.heap.size L (k + 1)) :=
   hr2.push cEnt_keeps ha (c := [.int .i64 p1, .int .i64 p2]) rfl rfl ((Kept.set _ (by simp) _).trans (Kept.set _ (by simp) _)) (fun A C hA h => put2 hA h)
  clear hr2 hrow ha cz; go_wp2_with fail; go_roundw
  case rel => exact ⟨k + 1, by omega, by go_num, hputH, (L2.out.setCell (Nat.le_refl _) _).setCell (Nat.le_refl _) _⟩
  case measure => simp [intOf]; omega
 have hm' : k = L.length := by omega
 subst hm'
 go_wp2_with fail; go_ret; exact ⟨_, rfl, Nat.le_refl _, hrow.out.done cEnt_drops, hbel.out⟩
set_option maxHeartbeats 400000 in
theorem toVal_any (k i : Int) (x y : Nat) (w : World) :
  Calls Tryz.prog 19 #[.agg #[.int .i64 k, .int .i64 i, .float .f64 x, .float .f64 y]] w fun e w' => e = .returned (.agg #[.int .i64 k, .int .i64 i, .float .f64 x, .float .f64 y]) ∧ Below w.heap.size w w' := by
 go_enter Tryz.func19, Tryz.ntmps19
 go_wp2
 refine bodyPost_ret (v := .agg #[.int .i64 k, .int .i64 i, .float .f64 x, .float .f64 y]) (by simp [results, Tryz.results19, go_sem]) rfl ⟨rfl, ?_⟩
 exact blq
set_option maxHeartbeats 4000000 in
theorem toValS_made (s : Option Addr) (c : Nat) (L : List V4) (B : Nat) (w : World) (hL : Els 4 cVal w B s L) (hl : L.length ≤ 1048576) :
  Calls Tryz.prog 39 #[.slice s L.length c] w fun e w' => Made 4 cVal w L e w' := by
 obtain ⟨i0, hi, hz0, hz1, hz2⟩ := info_parts Tryz.infoV
 go_enter Tryz.func39, Tryz.ntmps39
 go_wp2_with (at_make; refine wpList_make_full _ rfl _ _ 38 rfl w.heap.size 59 i0 (.agg #[.int .i64 0, .int .i64 0, .float .f64 0, .float .f64 0]) 4 Tryz.underlying38 hi hz0 hz1 .i64 .i64 _ _ L.length rfl rfl rfl rfl (by rw [hz2]; omega) (by unfold maxLen; omega) (Nat.le_refl _) ?_)
 intro w1 hown hgrow
 have hrow : Hid (Mk 4 cVal [.int .i64 0, .int .i64 0, .float .f64 0, .float .f64 0] 59 w1 w.heap.size w.heap.size L 0) := Mk.start (z := #[.int .i64 0, .int .i64 0, .float .f64 0, .float .f64 0]) rfl hown
 have hbel : Hid (Below w.heap.size w w1) := (Below.refl _ w).grown hgrow (Nat.le_refl _) (fun k h => by cases h)
 clear hown hgrow hi hz0 hz1 hz2; go_wp2_with fail; go_loopw [4] (fun i wr => ∃ k : Nat, k ≤ L.length ∧ i = .int .i64 k ∧ Hid (Mk 4 cVal [.int .i64 0, .int .i64 0, .float .f64 0, .float .f64 0] 59 wr w.heap.size w.heap.size L k) ∧ Hid (Below w.heap.size w wr)) (fun i _ => L.length - (intOf i).toNat)
 case atStart => exact ⟨0, Nat.zero_le _, rfl, hrow, hbel⟩
 obtain ⟨k, hk, rfl, hrow, hbel⟩ := hrel
 by_cases hlt : k < L.length
 ·
  obtain ⟨a, ha⟩ := get_some hlt
  obtain ⟨b, o, rfl, hB, hp, hok, e1, e2, e3, e4⟩ := eVal_cells (hL.later cVal_keeps hbel.out) ha
  obtain ⟨p1, p2, p3, p4⟩ := a
  have HO : Hid (okV (p1, p2, p3, p4)) := hok
  clear hL hok; go_wp2_with fail; refine (toVal_any p1 p2 p3 p4 _).mono ?_
  rintro e w2 ⟨rfl, hb2⟩
  have hr2 := hrow.out.later cVal_keeps hb2
  have L2 : Hid (Below w.heap.size w w2) := bl_trans hbel.out hb2
  obtain ⟨_, hg, fz, cz⟩ := hr2.at hlt
  have g1 := cz 0 _ rfl
  have g2 := cz 1 _ rfl
  have g3 := cz 2 _ rfl
  have g4 := cz 3 _ rfl
  rw [Nat.add_zero] at g1
  have hputH : Hid (Mk 4 cVal [.int .i64 0, .int .i64 0, .float .f64 0, .float .f64 0] 59 ((((w2.setCell ⟨w.heap.size, k * 4, none⟩ (.int .i64 p1)).setCell ⟨w.heap.size, k * 4 + 1, none⟩ (.int .i64 p2)).setCell ⟨w.heap.size, k * 4 + 2, none⟩ (.float .f64 p3)).setCell ⟨w.heap.size, k * 4 + 3, none⟩ (.float .f64 p4)) w.heap.size w.heap.size L (k + 1)) :=
   hr2.push cVal_keeps ha (c := vcells (p1, p2, p3, p4)) rfl ⟨rfl, HO.out⟩ ((((Kept.set _ (by simp) _).trans (Kept.set _ (by simp) _)).trans (Kept.set _ (by simp) _)).trans (Kept.set _ (by simp) _)) (fun A C hA h => put4 hA h)
  clear hr2 hrow ha cz; go_wp2_with fail; go_roundw
  case rel => exact ⟨k + 1, by omega, by go_num, hputH, (((L2.out.setCell (Nat.le_refl _) _).setCell (Nat.le_refl _) _).setCell (Nat.le_refl _) _).setCell (Nat.le_refl _) _⟩
  case measure => simp [intOf]; omega
 have hm' : k = L.length := by omega
 subst hm'
 go_wp2_with fail; go_ret; exact ⟨_, rfl, Nat.le_refl _, hrow.out.done cVal_drops, hbel.out⟩
set_option maxHeartbeats 4000000 in
theorem toValSS_made (s : Option Addr) (c : Nat) (L : List (List V4)) (B : Nat) (w : World) (hL : Els 1 cVals w B s L) (hl : kLL L) :
  Calls Tryz.prog 119 #[.slice s L.length c] w fun e w' => Made 1 cVals w L e w' := by
 obtain ⟨i0, hi, hz0, hz1, hz2⟩ := info_parts Tryz.infoVS
 obtain ⟨hl, hls⟩ := hl
 have HLS : Hid (∀ l ∈ L, l.length ≤ 1048576) := hls
 clear hls; go_enter Tryz.func119, Tryz.ntmps119
 go_wp2_with (at_make; refine wpList_make_full _ rfl _ _ 132 rfl w.heap.size 38 i0 (.slice none 0 0) 1 Tryz.underlying132 hi hz0 hz1 .i64 .i64 _ _ L.length rfl rfl rfl rfl (by rw [hz2]; omega) (by unfold maxLen; omega) (Nat.le_refl _) ?_)
 intro w1 hown hgrow
 have hrow : Hid (Mk 1 cVals [.slice none 0 0] 38 w1 w.heap.size w.heap.size L 0) := Mk.start (z := #[.slice none 0 0]) rfl (by rw [Nat.mul_one]; exact hown)
 have hbel : Hid (Below w.heap.size w w1) := (Below.refl _ w).grown hgrow (Nat.le_refl _) (fun k h => by cases h)
 clear hown hgrow hi hz0 hz1 hz2; go_wp2_with fail; go_loopw [4] (fun i wr => ∃ k : Nat, k ≤ L.length ∧ i = .int .i64 k ∧ Hid (Mk 1 cVals [.slice none 0 0] 38 wr w.heap.size w.heap.size L k) ∧ Hid (Below w.heap.size w wr)) (fun i _ => L.length - (intOf i).toNat)
 case atStart => exact ⟨0, Nat.zero_le _, rfl, hrow, hbel⟩
 obtain ⟨k, hk, rfl, hrow, hbel⟩ := hrel
 by_cases hlt : k < L.length
 ·
  obtain ⟨a, ha⟩ := get_some hlt
  obtain ⟨b, o, rfl, hB, hp, s', c', e1, e2⟩ := eVals_cells (hL.later cVals_keeps hbel.out) ha
  have hal := HLS.out a (List.mem_of_getElem? ha)
  have gl := (hrow.out.at hlt).2.1
  clear hL; go_wp2_with fail; refine (toValS_made s' c' a B _ e2 hal).mono ?_
  rintro e w2 ⟨g, rfl, hgg, hEg, hb2⟩
  have hr2 := hrow.out.later cVals_keeps hb2
  have L2 : Hid (Below w.heap.size w w2) := bl_trans hbel.out hb2
  obtain ⟨_, hg, fz, cz⟩ := hr2.at hlt
  have g1 := cz 0 _ rfl
  rw [Nat.add_zero, Nat.mul_one] at g1
  have hputH : Hid (Mk 1 cVals [.slice none 0 0] 38 (w2.setCell ⟨w.heap.size, k, none⟩ (.slice (some ⟨g, 0, none⟩) a.length a.length)) w.heap.size w.heap.size L (k + 1)) :=
   hr2.push cVals_keeps ha (c := [.slice (some ⟨g, 0, none⟩) a.length a.length]) rfl ⟨_, _, rfl, hEg.drop cVal_drops (by omega)⟩ (Kept.set _ (by simp) _) (fun A C hA h => put1 rfl hA h)
  clear hr2 hrow ha cz e2 hEg; go_wp2_with fail; go_roundw
  case rel => exact ⟨k + 1, by omega, by go_num, hputH, L2.out.setCell (Nat.le_refl _) _⟩
  case measure => simp [intOf]; omega
 have hm' : k = L.length := by omega
 subst hm'
 go_wp2_with fail; go_ret; exact ⟨_, rfl, Nat.le_refl _, hrow.out.done cVals_drops, hbel.out⟩
end
end Go.Proofs.YtkihhadcoclnaaaGreat
