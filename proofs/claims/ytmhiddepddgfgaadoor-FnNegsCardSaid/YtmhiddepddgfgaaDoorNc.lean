import Derived.Test.YtmhiddepddgfgaaDoorNa
import Derived.Test.YtmhiddepddgfgaaDoorNb
import Derived.Test.YtmhiddepddgfgaaDoorWy
import Derived.Test.YtmhiddepddgfgaaDoorVf
import Derived.Deep.RegionHeld3
namespace Go.Proofs.YtmhiddepddgfgaaDoor
open Go.RowKit
set_option linter.unusedSimpArgs false
set_option linter.unusedVariables false

theorem bcell2 {W w1 : World} (hb : Below W.heap.size W w1) : (∀ b o, (W.cell? ⟨b, o, none⟩).isSome = true → w1.cell? ⟨b, o, none⟩ = W.cell? ⟨b, o, none⟩) ∧ (∀ b o, (W.cell? ⟨b, o, none⟩).isSome = true → w1.frozen? ⟨b, o, none⟩ = W.frozen? ⟨b, o, none⟩) := by
  refine ⟨fun b o h => ?_, fun b o h => ?_⟩
  · obtain ⟨v, hv⟩ := Option.isSome_iff_exists.1 h
    exact hb.cell (p := ⟨b, o, none⟩) (World.block_lt_of_cell? _ _ hv)
  · obtain ⟨v, hv⟩ := Option.isSome_iff_exists.1 h
    exact hb.frozen (p := ⟨b, o, none⟩) (World.block_lt_of_cell? _ _ hv)
theorem alloc_old (W : World) (ob : Obj) (b o : Nat) (h : (W.cell? ⟨b, o, none⟩).isSome = true) : (W.alloc ob).cell? ⟨b, o, none⟩ = W.cell? ⟨b, o, none⟩ :=
  (bcell2 (bl_alloc (Below.refl _ W) ob)).1 b o h
theorem Bx.later {m : Nat} {W w1 : World} {k i : Int} {x y : Nat} (h : Bx m W k i x y) (hb : Below W.heap.size W w1) : Bx m w1 k i x y := ⟨cell_later hb h.1, cell_later hb h.2.1, cell_later hb h.2.2.1, cell_later hb h.2.2.2⟩
theorem Bx.lt {m : Nat} {W : World} {k i : Int} {x y : Nat} (h : Bx m W k i x y) : m < W.heap.size := World.block_lt_of_cell? _ _ h.1

set_option maxRecDepth 100000 in
set_option maxHeartbeats 4000000 in
theorem negs_any (sl : Option Addr) (len cap : Nat) (w : World) (hC : Code w sl len) (htab : Lib.TabIs Tryd.prog w "internal/strconv.uint64pow10" .u64 Lib.pow10Tab) :
    Calls Tryd.prog 3 #[.slice sl len cap] w fun e w' => e = .returned (.bool true) ∧ Below w.heap.size w w' := by
  have HT : Hid (Lib.TabIs Tryd.prog w "internal/strconv.uint64pow10" .u64 Lib.pow10Tab) := htab
  clear htab
  have hal := alloc_old
  by_cases hl : len ≤ 1048576
  · have hb : decide (1048576 < (len : Int)) = false := by simp; omega
    go_enter Tryd.func3, Tryd.ntmps3
    go_wp2_with fail
    refine (big_any sl len cap _).mono ?_
    rintro e w' ⟨rfl, h0⟩
    obtain rfl := h0.symm
    rw [hb]
    go_wp2_with fail
    refine (drawTurn_any sl len cap _ hl hC).mono ?_
    rintro e w1 ⟨op, k, i, x, y, rfl, ⟨o0, o1⟩, hi, lx, ly, h1⟩
    have bV := Bx.new w1 k i x y 26
    have M1 := bl_alloc h1 (.cells #[.int .i64 k, .int .i64 i, .float .f64 x, .float .f64 y] 26)
    go_wp2_with fail
    refine (implTurn_any op k i x y _ lx ly).mono ?_
    rintro e w2 ⟨k1, i1, x1, y1, rfl, v1, h2⟩
    have M2 := bl_trans M1 h2
    have bV2 := bV.later h2
    obtain ⟨a0, a1, a2, a3⟩ := bV2
    have bX := Bx.new w2 k1 i1 x1 y1 26
    have M2' := bl_alloc M2 (.cells #[.int .i64 k1, .int .i64 i1, .float .f64 x1, .float .f64 y1] 26)
    go_wp2_with fail
    refine (specTurn_any op k i x y _ lx ly).mono ?_
    rintro e w3 ⟨k2, i2, x2, y2, rfl, v2, h3⟩
    have M3 := bl_trans M2' h3
    have e12 := vis_same v1 v2
    obtain ⟨lx1, ly1⟩ := vis_lt v1
    obtain ⟨lx2, ly2⟩ := vis_lt v2
    have bW := Bx.new w3 k2 i2 x2 y2 26
    have bV3 := (Bx.alloc ⟨a0, a1, a2, a3⟩ (.cells #[.int .i64 k1, .int .i64 i1, .float .f64 x1, .float .f64 y1] 26)).later h3
    have bX3 := bX.later h3
    clear a0 a1 a2 a3
    obtain ⟨a0, a1, a2, a3⟩ := bV3
    obtain ⟨b0, b1, b2, b3⟩ := bX3
    have t0 : ((turnOut op k i x y).snd != (turnOut op k i x y).snd) = false := by simp
    generalize hT : turnOut op k i x y = TT at v1 v2 t0 ⊢
    obtain ⟨ov, oc⟩ := TT
    simp only at v1 v2 t0 ⊢
    go_wp2_with fail
    refine (specSame_any k1 i1 x1 y1 k2 i2 x2 y2 _ lx1 ly1 lx2 ly2).mono ?_
    rintro e w4 ⟨rfl, h4⟩
    rw [e12]
    have h4b : Below (w3.alloc (.cells #[.int .i64 k2, .int .i64 i2, .float .f64 x2, .float .f64 y2] 26)).heap.size (w3.alloc (.cells #[.int .i64 k2, .int .i64 i2, .float .f64 x2, .float .f64 y2] 26)) w4 := by rw [h4]; exact bl_alloc (bl_alloc (Below.refl _ _) _) _
    clear h4
    have M4 := bl_trans (bl_alloc M3 (.cells #[.int .i64 k2, .int .i64 i2, .float .f64 x2, .float .f64 y2] 26)) h4b
    have BV := (Bx.alloc ⟨a0, a1, a2, a3⟩ (.cells #[.int .i64 k2, .int .i64 i2, .float .f64 x2, .float .f64 y2] 26)).later h4b
    have BX := (Bx.alloc ⟨b0, b1, b2, b3⟩ (.cells #[.int .i64 k2, .int .i64 i2, .float .f64 x2, .float .f64 y2] 26)).later h4b
    clear a0 a1 a2 a3 b0 b1 b2 b3 h4b bW bX bV M1 M2 M2' M3 h1 h2 h3 v2 e12 lx2 ly2
    have hTT : Hid (turnOut op k i x y = (ov, oc)) := hT
    clear hT
    by_cases tw : oc = 0 ∧ op ≤ 2
    · obtain ⟨rfl, ho⟩ := tw
      have g2 : decide (op ≤ 2) = true := by simp; omega
      have T2 := turn_twice (op := op) (k := k) (i := i) (x := x) (y := y) ho hi (by rw [hTT.out]) (k' := k1) (i' := i1) (x' := x1) (y' := y1) (by rw [hTT.out]; exact v1)
      obtain ⟨b0, b1, b2, b3⟩ := BX
      go_wp2_with fail
      refine (implTurn_any op k1 i1 x1 y1 _ lx1 ly1).mono ?_
      rintro e w5 ⟨k3, i3, x3, y3, rfl, v3, h5⟩
      rw [T2.1]
      have e3 := T2.2 k3 i3 x3 y3 v3
      obtain ⟨lx3, ly3⟩ := vis_lt v3
      have M5 := bl_trans M4 h5
      have BV5 := BV.later h5
      obtain ⟨a0, a1, a2, a3⟩ := BV5
      have BY := Bx.new w5 k3 i3 x3 y3 26
      go_wp2_with fail
      refine (specSame_any k3 i3 x3 y3 k i x y _ lx3 ly3 lx ly).mono ?_
      rintro e w6 ⟨rfl, h6⟩
      rw [e3]
      have h6b : Below (w5.alloc (.cells #[.int .i64 k3, .int .i64 i3, .float .f64 x3, .float .f64 y3] 26)).heap.size (w5.alloc (.cells #[.int .i64 k3, .int .i64 i3, .float .f64 x3, .float .f64 y3] 26)) w6 := by rw [h6]; exact bl_alloc (bl_alloc (Below.refl _ _) _) _
      clear h6
      have M6 := bl_trans (bl_alloc M5 (.cells #[.int .i64 k3, .int .i64 i3, .float .f64 x3, .float .f64 y3] 26)) h6b
      have BV := (Bx.alloc ⟨a0, a1, a2, a3⟩ (.cells #[.int .i64 k3, .int .i64 i3, .float .f64 x3, .float .f64 y3] 26)).later h6b
      clear a0 a1 a2 a3 b0 b1 b2 b3 h6b BY M5 M4 h5 v3 e3 T2 lx3 ly3
      have bVW : Bx w1.heap.size w6 k i x y := BV
      by_cases hk : okB k i x y = true ∧ k = 3
      · obtain ⟨hok, rfl⟩ := hk
        obtain rfl := ok3v hok
        obtain ⟨a0, a1, a2, a3⟩ := bVW
        go_wp2_with fail
        refine (specOk_any 3 0 x y _ lx ly).mono ?_
        rintro e wa ⟨rfl, ha⟩
        rw [hok]
        have ha' : Below w6.heap.size w6 wa := by rw [ha]; exact bl_alloc (Below.refl _ _) _
        clear ha
        have Ma := bl_trans M6 ha'
        obtain ⟨a0, a1, a2, a3⟩ := BV.later ha'
        have BVa : Bx w1.heap.size wa 3 0 x y := ⟨a0, a1, a2, a3⟩
        go_wp2_with fail
        refine (implTurn_any 3 3 0 x y _ lx ly).mono ?_
        rw [part_re]
        rintro e wb ⟨kr, ir, xr, yr, rfl, ⟨rfl, rfl, vr1, vr2⟩, hb'⟩
        obtain rfl := is_word vr1
        obtain rfl := is_word vr2
        have Mb := bl_trans Ma hb'
        have BVb := BVa.later hb'
        obtain ⟨a0, a1, a2, a3⟩ := BVb
        have BR := Bx.new wb 2 0 xr 0 26
        have Mb2 := bl_alloc Mb (.cells #[.int .i64 2, .int .i64 0, .float .f64 xr, .float .f64 0] 26)
        simp only [rV] at *
        go_wp2_with fail
        refine (implTurn_any 4 3 0 xr y _ lx ly).mono ?_
        rw [part_im]
        rintro e wc ⟨ki, ii, xi, yi, rfl, ⟨rfl, rfl, vi1, vi2⟩, hc'⟩
        obtain rfl := is_word vi1
        obtain rfl := is_word vi2
        have Mc := bl_trans Mb2 hc'
        have BVc := (Bx.alloc ⟨a0, a1, a2, a3⟩ (.cells #[.int .i64 2, .int .i64 0, .float .f64 xr, .float .f64 0] 26)).later hc'
        have BRc := BR.later hc'
        clear a0 a1 a2 a3
        obtain ⟨a0, a1, a2, a3⟩ := BVc
        obtain ⟨r0, r1, r2, r3⟩ := BRc
        have BI := Bx.new wc 2 0 xi 0 26
        have Mc2 := bl_alloc Mc (.cells #[.int .i64 2, .int .i64 0, .float .f64 xi, .float .f64 0] 26)
        simp only [rV] at *
        go_wp2_with fail
        refine (implPair_any 2 0 xr 0 2 0 xi 0 _).mono ?_
        rw [pair_parts]
        rintro e wd ⟨rfl, hd'⟩
        have Md := bl_trans Mc2 hd'
        have BVd := (Bx.alloc ⟨a0, a1, a2, a3⟩ (.cells #[.int .i64 2, .int .i64 0, .float .f64 xi, .float .f64 0] 26)).later hd'
        clear a0 a1 a2 a3 r0 r1 r2 r3
        obtain ⟨a0, a1, a2, a3⟩ := BVd
        have BP := Bx.new wd 3 0 xr xi 26
        have Md2 := bl_alloc Md (.cells #[.int .i64 3, .int .i64 0, .float .f64 xr, .float .f64 xi] 26)
        have BV2 := Bx.alloc ⟨a0, a1, a2, a3⟩ (.cells #[.int .i64 3, .int .i64 0, .float .f64 xr, .float .f64 xi] 26)
        simp only [pk, px, if_true] at *
        go_wp2_with fail
        generalize hX : wd.alloc (.cells #[.int .i64 3, .int .i64 0, .float .f64 xr, .float .f64 xi] 26) = X at BP BV2 Md2 ⊢
        have BP : Bx wd.heap.size X 3 0 xr xi := BP
        have BV2 : Bx w1.heap.size X 3 0 xr xi := BV2
        clear hX a0 a1 a2 a3
        obtain ⟨a0, a1, a2, a3⟩ := BV2
        obtain ⟨p0, p1, p2, p3⟩ := BP
        have BP : Hid (Bx wd.heap.size X 3 0 xr xi) := ⟨p0, p1, p2, p3⟩
        have BV2 : Hid (Bx w1.heap.size X 3 0 xr xi) := ⟨a0, a1, a2, a3⟩
        have HM : Hid (Below w.heap.size w X) := Md2
        clear Md2 Md Mc2 Mc Mb2 Mb Ma M6 BVa BR BI hd' hc' hb' ha' hTT hC
        go_region_held3 (fun w' => w'.cell? ⟨wd.heap.size, 0, none⟩ = some (.int .i64 3) ∧ w'.cell? ⟨wd.heap.size, 1, none⟩ = some (.int .i64 0) ∧ w'.cell? ⟨wd.heap.size, 2, none⟩ = some (.float .f64 xr) ∧ w'.cell? ⟨wd.heap.size, 3, none⟩ = some (.float .f64 xi) ∧ w'.cell? ⟨w1.heap.size, 0, none⟩ = some (.int .i64 3) ∧ w'.cell? ⟨w1.heap.size, 1, none⟩ = some (.int .i64 0) ∧ w'.cell? ⟨w1.heap.size, 2, none⟩ = some (.float .f64 xr) ∧ w'.cell? ⟨w1.heap.size, 3, none⟩ = some (.float .f64 xi)) (simp [p0, p1, p2, p3, a0, a1, a2, a3]) (first
          | (go_at_call 8; refine (specSame_any 3 0 xr xi 3 0 xr xi _ lx ly lx ly).mono ?_; rintro e wq ⟨rfl, hq⟩; rw [eqB_refl]; have hq' : Below X.heap.size X wq := (by rw [hq]; first | exact bl_alloc (bl_alloc (bl_drew (Below.refl _ _)) _) _ | exact bl_alloc (bl_alloc (Below.refl _ _) _) _); clear hq; obtain ⟨p0, p1, p2, p3⟩ := BP.out.later hq'; obtain ⟨a0, a1, a2, a3⟩ := BV2.out.later hq')
          | (go_at_call 11; refine (implText_any 3 0 xr xi _ lx ly (by omega) (by omega) (Lib.tabBelow_of_tabIs HT.out _ (bl_trans HM.out (by (repeat (first | with_reducible exact Below.refl _ _ | with_reducible refine bl_alloc ?_ _ | with_reducible refine bl_drewN ?_ _ | with_reducible refine bl_drew ?_ | with_reducible refine bl_setCell ?_ (by first | exact Nat.le_refl _ | (dsimp only; omega) | (simp <;> omega)) _ | with_reducible refine bl_trans ?_ (by with_reducible assumption))))))).mono ?_; rintro e wr ⟨rfl, hr⟩; have hr' : Below X.heap.size X wr := (by (repeat (first | with_reducible exact Below.refl _ _ | with_reducible refine bl_alloc ?_ _ | with_reducible refine bl_drewN ?_ _ | with_reducible refine bl_drew ?_ | with_reducible refine bl_setCell ?_ (by first | exact Nat.le_refl _ | (dsimp only; omega) | (simp <;> omega)) _ | with_reducible refine bl_trans ?_ (by with_reducible assumption)))); obtain ⟨p0, p1, p2, p3⟩ := BP.out.later hr'; obtain ⟨a0, a1, a2, a3⟩ := BV2.out.later hr')
          | (go_at_call 12; refine (specText_any 3 0 xr xi _ lx ly (by omega) (by omega)).mono ?_; rintro e ws ⟨rfl, hs⟩; have hs' : Below X.heap.size X ws := (by (repeat (first | with_reducible exact Below.refl _ _ | with_reducible refine bl_alloc ?_ _ | with_reducible refine bl_drewN ?_ _ | with_reducible refine bl_drew ?_ | with_reducible refine bl_setCell ?_ (by first | exact Nat.le_refl _ | (dsimp only; omega) | (simp <;> omega)) _ | with_reducible refine bl_trans ?_ (by with_reducible assumption)))); obtain ⟨p0, p1, p2, p3⟩ := BP.out.later hs'; obtain ⟨a0, a1, a2, a3⟩ := BV2.out.later hs'))
        all_goals
          go_wp2_with fail
          go_ret
          exact ⟨rfl, bl_trans HM.out (by (repeat (first | with_reducible exact Below.refl _ _ | with_reducible refine bl_alloc ?_ _ | with_reducible refine bl_drewN ?_ _ | with_reducible refine bl_drew ?_ | with_reducible refine bl_setCell ?_ (by first | exact Nat.le_refl _ | (dsimp only; omega) | (simp <;> omega)) _ | with_reducible refine bl_trans ?_ (by with_reducible assumption))))⟩
      · obtain ⟨a0, a1, a2, a3⟩ := bVW
        cases hok : okB k i x y
        · go_wp2_with fail
          refine (specOk_any k i x y _ lx ly).mono ?_
          rintro e wa ⟨rfl, ha⟩
          rw [hok]
          have ha' : Below w6.heap.size w6 wa := by rw [ha]; exact bl_alloc (Below.refl _ _) _
          clear ha
          go_wp2_with fail
          go_ret
          exact ⟨rfl, bl_trans M6 ha'⟩
        · have hk3 : (k != 3) = true := by
            have : ¬ k = 3 := fun h => hk ⟨hok, h⟩
            simp [this]
          go_wp2_with fail
          refine (specOk_any k i x y _ lx ly).mono ?_
          rintro e wa ⟨rfl, ha⟩
          rw [hok]
          have ha' : Below w6.heap.size w6 wa := by rw [ha]; exact bl_alloc (Below.refl _ _) _
          clear ha
          obtain ⟨a0, a1, a2, a3⟩ := BV.later ha'
          go_wp2_with fail
          go_ret
          exact ⟨rfl, bl_trans M6 ha'⟩
    · have g2 : (oc == 0 && decide (op ≤ 2)) = false := by
        by_cases z : oc = 0
        · have : ¬ op ≤ 2 := fun h => tw ⟨z, h⟩
          simp [this]
        · simp [z]
      by_cases z : oc = 0
      · subst z
        have g3 : decide (op ≤ 2) = false := by simp at g2 ⊢; omega
        have bVW : Bx w1.heap.size w4 k i x y := BV
        by_cases hk : okB k i x y = true ∧ k = 3
        · obtain ⟨hok, rfl⟩ := hk
          obtain rfl := ok3v hok
          obtain ⟨a0, a1, a2, a3⟩ := bVW
          go_wp2_with fail
          refine (specOk_any 3 0 x y _ lx ly).mono ?_
          rintro e wa ⟨rfl, ha⟩
          rw [hok]
          have ha' : Below w4.heap.size w4 wa := by rw [ha]; exact bl_alloc (Below.refl _ _) _
          clear ha
          have Ma := bl_trans M4 ha'
          obtain ⟨a0, a1, a2, a3⟩ := BV.later ha'
          have BVa : Bx w1.heap.size wa 3 0 x y := ⟨a0, a1, a2, a3⟩
          go_wp2_with fail
          refine (implTurn_any 3 3 0 x y _ lx ly).mono ?_
          rw [part_re]
          rintro e wb ⟨kr, ir, xr, yr, rfl, ⟨rfl, rfl, vr1, vr2⟩, hb'⟩
          obtain rfl := is_word vr1
          obtain rfl := is_word vr2
          have Mb := bl_trans Ma hb'
          have BVb := BVa.later hb'
          obtain ⟨a0, a1, a2, a3⟩ := BVb
          have BR := Bx.new wb 2 0 xr 0 26
          have Mb2 := bl_alloc Mb (.cells #[.int .i64 2, .int .i64 0, .float .f64 xr, .float .f64 0] 26)
          simp only [rV] at *
          go_wp2_with fail
          refine (implTurn_any 4 3 0 xr y _ lx ly).mono ?_
          rw [part_im]
          rintro e wc ⟨ki, ii, xi, yi, rfl, ⟨rfl, rfl, vi1, vi2⟩, hc'⟩
          obtain rfl := is_word vi1
          obtain rfl := is_word vi2
          have Mc := bl_trans Mb2 hc'
          have BVc := (Bx.alloc ⟨a0, a1, a2, a3⟩ (.cells #[.int .i64 2, .int .i64 0, .float .f64 xr, .float .f64 0] 26)).later hc'
          have BRc := BR.later hc'
          clear a0 a1 a2 a3
          obtain ⟨a0, a1, a2, a3⟩ := BVc
          obtain ⟨r0, r1, r2, r3⟩ := BRc
          have BI := Bx.new wc 2 0 xi 0 26
          have Mc2 := bl_alloc Mc (.cells #[.int .i64 2, .int .i64 0, .float .f64 xi, .float .f64 0] 26)
          simp only [rV] at *
          go_wp2_with fail
          refine (implPair_any 2 0 xr 0 2 0 xi 0 _).mono ?_
          rw [pair_parts]
          rintro e wd ⟨rfl, hd'⟩
          have Md := bl_trans Mc2 hd'
          have BVd := (Bx.alloc ⟨a0, a1, a2, a3⟩ (.cells #[.int .i64 2, .int .i64 0, .float .f64 xi, .float .f64 0] 26)).later hd'
          clear a0 a1 a2 a3 r0 r1 r2 r3
          obtain ⟨a0, a1, a2, a3⟩ := BVd
          have BP := Bx.new wd 3 0 xr xi 26
          have Md2 := bl_alloc Md (.cells #[.int .i64 3, .int .i64 0, .float .f64 xr, .float .f64 xi] 26)
          have BV2 := Bx.alloc ⟨a0, a1, a2, a3⟩ (.cells #[.int .i64 3, .int .i64 0, .float .f64 xr, .float .f64 xi] 26)
          simp only [pk, px, if_true] at *
          go_wp2_with fail
          generalize hX : wd.alloc (.cells #[.int .i64 3, .int .i64 0, .float .f64 xr, .float .f64 xi] 26) = X at BP BV2 Md2 ⊢
          have BP : Bx wd.heap.size X 3 0 xr xi := BP
          have BV2 : Bx w1.heap.size X 3 0 xr xi := BV2
          clear hX a0 a1 a2 a3
          obtain ⟨a0, a1, a2, a3⟩ := BV2
          obtain ⟨p0, p1, p2, p3⟩ := BP
          have BP : Hid (Bx wd.heap.size X 3 0 xr xi) := ⟨p0, p1, p2, p3⟩
          have BV2 : Hid (Bx w1.heap.size X 3 0 xr xi) := ⟨a0, a1, a2, a3⟩
          have HM : Hid (Below w.heap.size w X) := Md2
          clear Md2 Md Mc2 Mc Mb2 Mb Ma M4 BVa BR BI hd' hc' hb' ha' hTT hC
          go_region_held3 (fun w' => w'.cell? ⟨wd.heap.size, 0, none⟩ = some (.int .i64 3) ∧ w'.cell? ⟨wd.heap.size, 1, none⟩ = some (.int .i64 0) ∧ w'.cell? ⟨wd.heap.size, 2, none⟩ = some (.float .f64 xr) ∧ w'.cell? ⟨wd.heap.size, 3, none⟩ = some (.float .f64 xi) ∧ w'.cell? ⟨w1.heap.size, 0, none⟩ = some (.int .i64 3) ∧ w'.cell? ⟨w1.heap.size, 1, none⟩ = some (.int .i64 0) ∧ w'.cell? ⟨w1.heap.size, 2, none⟩ = some (.float .f64 xr) ∧ w'.cell? ⟨w1.heap.size, 3, none⟩ = some (.float .f64 xi)) (simp [p0, p1, p2, p3, a0, a1, a2, a3]) (first
            | (go_at_call 8; refine (specSame_any 3 0 xr xi 3 0 xr xi _ lx ly lx ly).mono ?_; rintro e wq ⟨rfl, hq⟩; rw [eqB_refl]; have hq' : Below X.heap.size X wq := (by rw [hq]; first | exact bl_alloc (bl_alloc (bl_drew (Below.refl _ _)) _) _ | exact bl_alloc (bl_alloc (Below.refl _ _) _) _); clear hq; obtain ⟨p0, p1, p2, p3⟩ := BP.out.later hq'; obtain ⟨a0, a1, a2, a3⟩ := BV2.out.later hq')
            | (go_at_call 11; refine (implText_any 3 0 xr xi _ lx ly (by omega) (by omega) (Lib.tabBelow_of_tabIs HT.out _ (bl_trans HM.out (by (repeat (first | with_reducible exact Below.refl _ _ | with_reducible refine bl_alloc ?_ _ | with_reducible refine bl_drewN ?_ _ | with_reducible refine bl_drew ?_ | with_reducible refine bl_setCell ?_ (by first | exact Nat.le_refl _ | (dsimp only; omega) | (simp <;> omega)) _ | with_reducible refine bl_trans ?_ (by with_reducible assumption))))))).mono ?_; rintro e wr ⟨rfl, hr⟩; have hr' : Below X.heap.size X wr := (by (repeat (first | with_reducible exact Below.refl _ _ | with_reducible refine bl_alloc ?_ _ | with_reducible refine bl_drewN ?_ _ | with_reducible refine bl_drew ?_ | with_reducible refine bl_setCell ?_ (by first | exact Nat.le_refl _ | (dsimp only; omega) | (simp <;> omega)) _ | with_reducible refine bl_trans ?_ (by with_reducible assumption)))); obtain ⟨p0, p1, p2, p3⟩ := BP.out.later hr'; obtain ⟨a0, a1, a2, a3⟩ := BV2.out.later hr')
            | (go_at_call 12; refine (specText_any 3 0 xr xi _ lx ly (by omega) (by omega)).mono ?_; rintro e ws ⟨rfl, hs⟩; have hs' : Below X.heap.size X ws := (by (repeat (first | with_reducible exact Below.refl _ _ | with_reducible refine bl_alloc ?_ _ | with_reducible refine bl_drewN ?_ _ | with_reducible refine bl_drew ?_ | with_reducible refine bl_setCell ?_ (by first | exact Nat.le_refl _ | (dsimp only; omega) | (simp <;> omega)) _ | with_reducible refine bl_trans ?_ (by with_reducible assumption)))); obtain ⟨p0, p1, p2, p3⟩ := BP.out.later hs'; obtain ⟨a0, a1, a2, a3⟩ := BV2.out.later hs'))
          all_goals
            go_wp2_with fail
            go_ret
            exact ⟨rfl, bl_trans HM.out (by (repeat (first | with_reducible exact Below.refl _ _ | with_reducible refine bl_alloc ?_ _ | with_reducible refine bl_drewN ?_ _ | with_reducible refine bl_drew ?_ | with_reducible refine bl_setCell ?_ (by first | exact Nat.le_refl _ | (dsimp only; omega) | (simp <;> omega)) _ | with_reducible refine bl_trans ?_ (by with_reducible assumption))))⟩
        · obtain ⟨a0, a1, a2, a3⟩ := bVW
          cases hok : okB k i x y
          · go_wp2_with fail
            refine (specOk_any k i x y _ lx ly).mono ?_
            rintro e wa ⟨rfl, ha⟩
            rw [hok]
            have ha' : Below w4.heap.size w4 wa := by rw [ha]; exact bl_alloc (Below.refl _ _) _
            clear ha
            go_wp2_with fail
            go_ret
            exact ⟨rfl, bl_trans M4 ha'⟩
          · have hk3 : (k != 3) = true := by
              have : ¬ k = 3 := fun h => hk ⟨hok, h⟩
              simp [this]
            go_wp2_with fail
            refine (specOk_any k i x y _ lx ly).mono ?_
            rintro e wa ⟨rfl, ha⟩
            rw [hok]
            have ha' : Below w4.heap.size w4 wa := by rw [ha]; exact bl_alloc (Below.refl _ _) _
            clear ha
            obtain ⟨a0, a1, a2, a3⟩ := BV.later ha'
            go_wp2_with fail
            go_ret
            exact ⟨rfl, bl_trans M4 ha'⟩
      · have g3 : (oc == 0) = false := by simp [z]
        have bVW : Bx w1.heap.size w4 k i x y := BV
        by_cases hk : okB k i x y = true ∧ k = 3
        · obtain ⟨hok, rfl⟩ := hk
          obtain rfl := ok3v hok
          obtain ⟨a0, a1, a2, a3⟩ := bVW
          go_wp2_with fail
          refine (specOk_any 3 0 x y _ lx ly).mono ?_
          rintro e wa ⟨rfl, ha⟩
          rw [hok]
          have ha' : Below w4.heap.size w4 wa := by rw [ha]; exact bl_alloc (Below.refl _ _) _
          clear ha
          have Ma := bl_trans M4 ha'
          obtain ⟨a0, a1, a2, a3⟩ := BV.later ha'
          have BVa : Bx w1.heap.size wa 3 0 x y := ⟨a0, a1, a2, a3⟩
          go_wp2_with fail
          refine (implTurn_any 3 3 0 x y _ lx ly).mono ?_
          rw [part_re]
          rintro e wb ⟨kr, ir, xr, yr, rfl, ⟨rfl, rfl, vr1, vr2⟩, hb'⟩
          obtain rfl := is_word vr1
          obtain rfl := is_word vr2
          have Mb := bl_trans Ma hb'
          have BVb := BVa.later hb'
          obtain ⟨a0, a1, a2, a3⟩ := BVb
          have BR := Bx.new wb 2 0 xr 0 26
          have Mb2 := bl_alloc Mb (.cells #[.int .i64 2, .int .i64 0, .float .f64 xr, .float .f64 0] 26)
          simp only [rV] at *
          go_wp2_with fail
          refine (implTurn_any 4 3 0 xr y _ lx ly).mono ?_
          rw [part_im]
          rintro e wc ⟨ki, ii, xi, yi, rfl, ⟨rfl, rfl, vi1, vi2⟩, hc'⟩
          obtain rfl := is_word vi1
          obtain rfl := is_word vi2
          have Mc := bl_trans Mb2 hc'
          have BVc := (Bx.alloc ⟨a0, a1, a2, a3⟩ (.cells #[.int .i64 2, .int .i64 0, .float .f64 xr, .float .f64 0] 26)).later hc'
          have BRc := BR.later hc'
          clear a0 a1 a2 a3
          obtain ⟨a0, a1, a2, a3⟩ := BVc
          obtain ⟨r0, r1, r2, r3⟩ := BRc
          have BI := Bx.new wc 2 0 xi 0 26
          have Mc2 := bl_alloc Mc (.cells #[.int .i64 2, .int .i64 0, .float .f64 xi, .float .f64 0] 26)
          simp only [rV] at *
          go_wp2_with fail
          refine (implPair_any 2 0 xr 0 2 0 xi 0 _).mono ?_
          rw [pair_parts]
          rintro e wd ⟨rfl, hd'⟩
          have Md := bl_trans Mc2 hd'
          have BVd := (Bx.alloc ⟨a0, a1, a2, a3⟩ (.cells #[.int .i64 2, .int .i64 0, .float .f64 xi, .float .f64 0] 26)).later hd'
          clear a0 a1 a2 a3 r0 r1 r2 r3
          obtain ⟨a0, a1, a2, a3⟩ := BVd
          have BP := Bx.new wd 3 0 xr xi 26
          have Md2 := bl_alloc Md (.cells #[.int .i64 3, .int .i64 0, .float .f64 xr, .float .f64 xi] 26)
          have BV2 := Bx.alloc ⟨a0, a1, a2, a3⟩ (.cells #[.int .i64 3, .int .i64 0, .float .f64 xr, .float .f64 xi] 26)
          simp only [pk, px, if_true] at *
          go_wp2_with fail
          generalize hX : wd.alloc (.cells #[.int .i64 3, .int .i64 0, .float .f64 xr, .float .f64 xi] 26) = X at BP BV2 Md2 ⊢
          have BP : Bx wd.heap.size X 3 0 xr xi := BP
          have BV2 : Bx w1.heap.size X 3 0 xr xi := BV2
          clear hX a0 a1 a2 a3
          obtain ⟨a0, a1, a2, a3⟩ := BV2
          obtain ⟨p0, p1, p2, p3⟩ := BP
          have BP : Hid (Bx wd.heap.size X 3 0 xr xi) := ⟨p0, p1, p2, p3⟩
          have BV2 : Hid (Bx w1.heap.size X 3 0 xr xi) := ⟨a0, a1, a2, a3⟩
          have HM : Hid (Below w.heap.size w X) := Md2
          clear Md2 Md Mc2 Mc Mb2 Mb Ma M4 BVa BR BI hd' hc' hb' ha' hTT hC
          go_region_held3 (fun w' => w'.cell? ⟨wd.heap.size, 0, none⟩ = some (.int .i64 3) ∧ w'.cell? ⟨wd.heap.size, 1, none⟩ = some (.int .i64 0) ∧ w'.cell? ⟨wd.heap.size, 2, none⟩ = some (.float .f64 xr) ∧ w'.cell? ⟨wd.heap.size, 3, none⟩ = some (.float .f64 xi) ∧ w'.cell? ⟨w1.heap.size, 0, none⟩ = some (.int .i64 3) ∧ w'.cell? ⟨w1.heap.size, 1, none⟩ = some (.int .i64 0) ∧ w'.cell? ⟨w1.heap.size, 2, none⟩ = some (.float .f64 xr) ∧ w'.cell? ⟨w1.heap.size, 3, none⟩ = some (.float .f64 xi)) (simp [p0, p1, p2, p3, a0, a1, a2, a3]) (first
            | (go_at_call 8; refine (specSame_any 3 0 xr xi 3 0 xr xi _ lx ly lx ly).mono ?_; rintro e wq ⟨rfl, hq⟩; rw [eqB_refl]; have hq' : Below X.heap.size X wq := (by rw [hq]; first | exact bl_alloc (bl_alloc (bl_drew (Below.refl _ _)) _) _ | exact bl_alloc (bl_alloc (Below.refl _ _) _) _); clear hq; obtain ⟨p0, p1, p2, p3⟩ := BP.out.later hq'; obtain ⟨a0, a1, a2, a3⟩ := BV2.out.later hq')
            | (go_at_call 11; refine (implText_any 3 0 xr xi _ lx ly (by omega) (by omega) (Lib.tabBelow_of_tabIs HT.out _ (bl_trans HM.out (by (repeat (first | with_reducible exact Below.refl _ _ | with_reducible refine bl_alloc ?_ _ | with_reducible refine bl_drewN ?_ _ | with_reducible refine bl_drew ?_ | with_reducible refine bl_setCell ?_ (by first | exact Nat.le_refl _ | (dsimp only; omega) | (simp <;> omega)) _ | with_reducible refine bl_trans ?_ (by with_reducible assumption))))))).mono ?_; rintro e wr ⟨rfl, hr⟩; have hr' : Below X.heap.size X wr := (by (repeat (first | with_reducible exact Below.refl _ _ | with_reducible refine bl_alloc ?_ _ | with_reducible refine bl_drewN ?_ _ | with_reducible refine bl_drew ?_ | with_reducible refine bl_setCell ?_ (by first | exact Nat.le_refl _ | (dsimp only; omega) | (simp <;> omega)) _ | with_reducible refine bl_trans ?_ (by with_reducible assumption)))); obtain ⟨p0, p1, p2, p3⟩ := BP.out.later hr'; obtain ⟨a0, a1, a2, a3⟩ := BV2.out.later hr')
            | (go_at_call 12; refine (specText_any 3 0 xr xi _ lx ly (by omega) (by omega)).mono ?_; rintro e ws ⟨rfl, hs⟩; have hs' : Below X.heap.size X ws := (by (repeat (first | with_reducible exact Below.refl _ _ | with_reducible refine bl_alloc ?_ _ | with_reducible refine bl_drewN ?_ _ | with_reducible refine bl_drew ?_ | with_reducible refine bl_setCell ?_ (by first | exact Nat.le_refl _ | (dsimp only; omega) | (simp <;> omega)) _ | with_reducible refine bl_trans ?_ (by with_reducible assumption)))); obtain ⟨p0, p1, p2, p3⟩ := BP.out.later hs'; obtain ⟨a0, a1, a2, a3⟩ := BV2.out.later hs'))
          all_goals
            go_wp2_with fail
            go_ret
            exact ⟨rfl, bl_trans HM.out (by (repeat (first | with_reducible exact Below.refl _ _ | with_reducible refine bl_alloc ?_ _ | with_reducible refine bl_drewN ?_ _ | with_reducible refine bl_drew ?_ | with_reducible refine bl_setCell ?_ (by first | exact Nat.le_refl _ | (dsimp only; omega) | (simp <;> omega)) _ | with_reducible refine bl_trans ?_ (by with_reducible assumption))))⟩
        · obtain ⟨a0, a1, a2, a3⟩ := bVW
          cases hok : okB k i x y
          · go_wp2_with fail
            refine (specOk_any k i x y _ lx ly).mono ?_
            rintro e wa ⟨rfl, ha⟩
            rw [hok]
            have ha' : Below w4.heap.size w4 wa := by rw [ha]; exact bl_alloc (Below.refl _ _) _
            clear ha
            go_wp2_with fail
            go_ret
            exact ⟨rfl, bl_trans M4 ha'⟩
          · have hk3 : (k != 3) = true := by
              have : ¬ k = 3 := fun h => hk ⟨hok, h⟩
              simp [this]
            go_wp2_with fail
            refine (specOk_any k i x y _ lx ly).mono ?_
            rintro e wa ⟨rfl, ha⟩
            rw [hok]
            have ha' : Below w4.heap.size w4 wa := by rw [ha]; exact bl_alloc (Below.refl _ _) _
            clear ha
            obtain ⟨a0, a1, a2, a3⟩ := BV.later ha'
            go_wp2_with fail
            go_ret
            exact ⟨rfl, bl_trans M4 ha'⟩
  · have hb : decide (1048576 < (len : Int)) = true := by simp; omega
    go_enter Tryd.func3, Tryd.ntmps3
    go_wp2_with fail
    refine (big_any sl len cap _).mono ?_
    rintro e w' ⟨rfl, rfl⟩
    rw [hb]
    go_wp2_with fail
    go_ret
    exact ⟨rfl, Below.refl _ _⟩
end Go.Proofs.YtmhiddepddgfgaaDoor
