import Derived.Test.YtofpkbnocbmgkaaCa
import Derived.Test.YtofpkbnocbmgkaaTe
namespace Go.Proofs.Ytofpkbnocbmgkaa
open Go.RowKit
set_option linter.unusedVariables false
set_option linter.unusedSimpArgs false

theorem put5 {w : World} {B g n k : Nat} {T : TypeId} {A C : List Value} {x0 x1 x2 x3 x4 u0 u1 u2 u3 u4 : Value} (hA : A.length = k * 5) (h : w.ownsRow B T 5 (.slice (some ⟨g, 0, none⟩) n n) n (A ++ ([x0, x1, x2, x3, x4] ++ C))) : (((((w.setCell ⟨g, k * 5, none⟩ u0).setCell ⟨g, k * 5 + 1, none⟩ u1).setCell ⟨g, k * 5 + 2, none⟩ u2).setCell ⟨g, k * 5 + 3, none⟩ u3).setCell ⟨g, k * 5 + 4, none⟩ u4).ownsRow B T 5 (.slice (some ⟨g, 0, none⟩) n n) n (A ++ ([u0, u1, u2, u3, u4] ++ C)) := by
  have h1 := (World.ownsRow.stored h (A.length + 0) u0).1
  rw [set_mid _ _ _ _ _ (by simp)] at h1
  have h2 := (World.ownsRow.stored h1 (A.length + 1) u1).1
  rw [set_mid _ _ _ _ _ (by simp)] at h2
  have h3 := (World.ownsRow.stored h2 (A.length + 2) u2).1
  rw [set_mid _ _ _ _ _ (by simp)] at h3
  have h4 := (World.ownsRow.stored h3 (A.length + 3) u3).1
  rw [set_mid _ _ _ _ _ (by simp)] at h4
  have h5 := (World.ownsRow.stored h4 (A.length + 4) u4).1
  rw [set_mid _ _ _ _ _ (by simp), hA] at h5
  exact h5
theorem put9 {w : World} {B g n k : Nat} {T : TypeId} {A C : List Value} {x0 x1 x2 x3 x4 x5 x6 x7 x8 u0 u1 u2 u3 u4 u5 u6 u7 u8 : Value} (hA : A.length = k * 9) (h : w.ownsRow B T 9 (.slice (some ⟨g, 0, none⟩) n n) n (A ++ ([x0, x1, x2, x3, x4, x5, x6, x7, x8] ++ C))) : (((((((((w.setCell ⟨g, k * 9, none⟩ u0).setCell ⟨g, k * 9 + 1, none⟩ u1).setCell ⟨g, k * 9 + 2, none⟩ u2).setCell ⟨g, k * 9 + 3, none⟩ u3).setCell ⟨g, k * 9 + 4, none⟩ u4).setCell ⟨g, k * 9 + 5, none⟩ u5).setCell ⟨g, k * 9 + 6, none⟩ u6).setCell ⟨g, k * 9 + 7, none⟩ u7).setCell ⟨g, k * 9 + 8, none⟩ u8).ownsRow B T 9 (.slice (some ⟨g, 0, none⟩) n n) n (A ++ ([u0, u1, u2, u3, u4, u5, u6, u7, u8] ++ C)) := by
  have h1 := (World.ownsRow.stored h (A.length + 0) u0).1
  rw [set_mid _ _ _ _ _ (by simp)] at h1
  have h2 := (World.ownsRow.stored h1 (A.length + 1) u1).1
  rw [set_mid _ _ _ _ _ (by simp)] at h2
  have h3 := (World.ownsRow.stored h2 (A.length + 2) u2).1
  rw [set_mid _ _ _ _ _ (by simp)] at h3
  have h4 := (World.ownsRow.stored h3 (A.length + 3) u3).1
  rw [set_mid _ _ _ _ _ (by simp)] at h4
  have h5 := (World.ownsRow.stored h4 (A.length + 4) u4).1
  rw [set_mid _ _ _ _ _ (by simp)] at h5
  have h6 := (World.ownsRow.stored h5 (A.length + 5) u5).1
  rw [set_mid _ _ _ _ _ (by simp)] at h6
  have h7 := (World.ownsRow.stored h6 (A.length + 6) u6).1
  rw [set_mid _ _ _ _ _ (by simp)] at h7
  have h8 := (World.ownsRow.stored h7 (A.length + 7) u7).1
  rw [set_mid _ _ _ _ _ (by simp)] at h8
  have h9 := (World.ownsRow.stored h8 (A.length + 8) u8).1
  rw [set_mid _ _ _ _ _ (by simp), hA] at h9
  exact h9

theorem Try.infoC : (Try.prog.info? 116).map (fun i => (i.zero, i.size, i.bytes)) = some (some (.agg #[.int .i64 0, .int .i64 0, .int .i64 0, .float .f64 0, .float .f64 0]), 5, 40) := by kernel_rfl
theorem Try.infoCm : (Try.prog.info? 114).map (fun i => (i.zero, i.size, i.bytes)) = some (some (.agg #[.int .i64 0, .int .i64 0, .int .i64 0, .int .i64 0, .int .i64 0, .int .i64 0, .float .f64 0, .float .f64 0, .slice none 0 0]), 9, 88) := by kernel_rfl
theorem Blk.nine {w : World} {n : Nat} {a b c d e f g h i : Value} {t : TypeId} (q : Blk w n #[a, b, c, d, e, f, g, h, i] t) : w.cell? ⟨n, 0, none⟩ = some a ∧ w.cell? ⟨n, 1, none⟩ = some b ∧ w.cell? ⟨n, 2, none⟩ = some c ∧ w.cell? ⟨n, 3, none⟩ = some d ∧ w.cell? ⟨n, 4, none⟩ = some e ∧ w.cell? ⟨n, 5, none⟩ = some f ∧ w.cell? ⟨n, 6, none⟩ = some g ∧ w.cell? ⟨n, 7, none⟩ = some h ∧ w.cell? ⟨n, 8, none⟩ = some i ∧ ∀ o, w.frozen? ⟨n, o, none⟩ = false :=
  ⟨q.cell 0, q.cell 1, q.cell 2, q.cell 3, q.cell 4, q.cell 5, q.cell 6, q.cell 7, q.cell 8, q.frozen⟩

set_option maxHeartbeats 1000000 in
theorem toCell_any (p0 p1 p2 : Int) (p3 p4 : Nat) (w : World) :
    Calls Try.prog 116 #[.agg #[.int .i64 p0, .int .i64 p1, .int .i64 p2, .float .f64 p3, .float .f64 p4]] w fun e w' => e = .returned (.agg #[.int .i64 p0, .int .i64 p1, .int .i64 p2, .float .f64 p3, .float .f64 p4]) ∧ Below w.heap.size w w' := by
  have hal := alloc_old
  have haf := alloc_oldf
  go_enter Try.func116, Try.ntmps116
  go_wp2_with fail
  refine (toVal_any p1 p2 p3 p4 _).mono ?_
  rintro e w1 ⟨rfl, hb1⟩
  obtain ⟨k0, k1, k2⟩ := blk3t w #[.int .i64 p0, .int .i64 p1, .int .i64 p2, .float .f64 p3, .float .f64 p4] #[.int .i64 0, .int .i64 0, .int .i64 0, .float .f64 0, .float .f64 0] #[.int .i64 p0, .int .i64 0, .int .i64 0, .float .f64 0, .float .f64 0] 191 116 116
  have K1 := k1.later hb1
  have K2 := k2.later hb1
  have L1 : Below w.heap.size w w1 := by (repeat (first | with_reducible exact Below.refl _ _ | with_reducible refine bl_alloc ?_ _ | with_reducible refine bl_drewN ?_ _ | with_reducible refine bl_drew ?_ | with_reducible refine bl_setCell ?_ (by first | exact Nat.le_refl _ | (dsimp only; omega) | (simp <;> omega)) _ | with_reducible refine bl_trans ?_ (by with_reducible assumption)))
  have y0 := K1.cell 0
  have y1 := K1.cell 1
  have y2 := K1.cell 2
  have y3 := K1.cell 3
  have y4 := K1.cell 4
  have y5 := K1.frozen
  have z0 := K2.cell 0
  have z1 := K2.cell 1
  have z2 := K2.cell 2
  have z3 := K2.cell 3
  have z4 := K2.cell 4
  have z5 := K2.frozen
  have n1 : ¬ w.heap.size + 1 = w.heap.size + 1 + 1 := by omega
  clear k0 k1 k2 hb1 K1 K2
  go_wp2_with fail
  refine bodyPost_ret (v := .agg #[.int .i64 p0, .int .i64 p1, .int .i64 p2, .float .f64 p3, .float .f64 p4]) (by simp [results, Try.results116, go_sem, y0, y1, y2, y3, y4]) rfl ⟨rfl, ?_⟩
  repeat (first | with_reducible exact L1 | with_reducible refine Below.setCell ?_ (by simp <;> omega) _)

set_option maxHeartbeats 4000000 in
theorem toCellS_made (s : Option Addr) (c : Nat) (L : List C5) (B : Nat) (w : World) (hL : Els 5 cCell w B s L) (hl : L.length ≤ 1048576) :
    Calls Try.prog 91 #[.slice s L.length c] w fun e w' => Made 5 cCell w L e w' := by
  obtain ⟨i0, hi, hz0, hz1, hz2⟩ := info_parts Try.infoC
  go_enter Try.func91, Try.ntmps91
  go_wp2_with (at_make; refine wpList_make_full _ rfl _ _ 112 rfl w.heap.size 116 i0 (.agg #[.int .i64 0, .int .i64 0, .int .i64 0, .float .f64 0, .float .f64 0]) 5 Try.underlying112 hi hz0 hz1 .i64 .i64 _ _ L.length rfl rfl rfl rfl (by rw [hz2]; omega) (by unfold maxLen; omega) (Nat.le_refl _) ?_)
  intro w1 hown hgrow
  have hrow : Hid (Mk 5 cCell [.int .i64 0, .int .i64 0, .int .i64 0, .float .f64 0, .float .f64 0] 116 w1 w.heap.size w.heap.size L 0) := Mk.start (z := #[.int .i64 0, .int .i64 0, .int .i64 0, .float .f64 0, .float .f64 0]) rfl hown
  have hbel : Hid (Below w.heap.size w w1) := (Below.refl _ w).grown hgrow (Nat.le_refl _) (fun k h => by cases h)
  clear hown hgrow hi hz0 hz1 hz2
  go_wp2_with fail
  go_loopw [4] (fun i wr => ∃ k : Nat, k ≤ L.length ∧ i = .int .i64 k ∧ Hid (Mk 5 cCell [.int .i64 0, .int .i64 0, .int .i64 0, .float .f64 0, .float .f64 0] 116 wr w.heap.size w.heap.size L k) ∧ Hid (Below w.heap.size w wr)) (fun i _ => L.length - (intOf i).toNat)
  case atStart => exact ⟨0, Nat.zero_le _, rfl, hrow, hbel⟩
  case round =>
    obtain ⟨k, hk, rfl, hrow, hbel⟩ := hrel
    by_cases hlt : k < L.length
    · obtain ⟨a, ha⟩ := get_some hlt
      obtain ⟨b, o, rfl, hB, hp, hok, e0, e1, e2, e3, e4⟩ := eCell_cells (hL.later cCell_keeps hbel.out) ha
      obtain ⟨p0, p1, p2, p3, p4⟩ := a
      have HO : Hid (okV (p1, p2, p3, p4)) := hok
      clear hL hok
      go_wp2_with fail
      refine (toCell_any p0 p1 p2 p3 p4 _).mono ?_
      rintro e w2 ⟨rfl, hb2⟩
      have hr2 := hrow.out.later cCell_keeps hb2
      have L2 : Hid (Below w.heap.size w w2) := bl_trans hbel.out hb2
      obtain ⟨_, hg, fz, cz⟩ := hr2.at hlt
      have g0 := cz 0 _ rfl
      have g1 := cz 1 _ rfl
      have g2 := cz 2 _ rfl
      have g3 := cz 3 _ rfl
      have g4 := cz 4 _ rfl
      rw [Nat.add_zero] at g0
      have hputH : Hid (Mk 5 cCell [.int .i64 0, .int .i64 0, .int .i64 0, .float .f64 0, .float .f64 0] 116 (((((w2.setCell ⟨w.heap.size, k * 5, none⟩ (.int .i64 p0)).setCell ⟨w.heap.size, k * 5 + 1, none⟩ (.int .i64 p1)).setCell ⟨w.heap.size, k * 5 + 2, none⟩ (.int .i64 p2)).setCell ⟨w.heap.size, k * 5 + 3, none⟩ (.float .f64 p3)).setCell ⟨w.heap.size, k * 5 + 4, none⟩ (.float .f64 p4)) w.heap.size w.heap.size L (k + 1)) :=
        hr2.push cCell_keeps ha (c := ccells (p0, p1, p2, p3, p4)) rfl ⟨rfl, HO.out⟩ (by repeat (first | with_reducible exact Kept.refl _ _ | with_reducible refine Kept.trans ?_ (Kept.set _ (by simp) _))) (fun A C hA h => put5 hA h)
      clear hr2 hrow ha cz
      go_wp2_with fail
      go_roundw
      case rel => exact ⟨k + 1, by omega, by go_num, hputH, ((((L2.out.setCell (Nat.le_refl _) _).setCell (Nat.le_refl _) _).setCell (Nat.le_refl _) _).setCell (Nat.le_refl _) _).setCell (Nat.le_refl _) _⟩
      case measure => simp [intOf]; omega
    · have hm' : k = L.length := by omega
      subst hm'
      go_wp2_with fail
      go_ret
      exact ⟨_, rfl, Nat.le_refl _, hrow.out.done cCell_drops, hbel.out⟩

set_option maxHeartbeats 4000000 in
theorem toCmd_made (s : Option Addr) (cap : Nat) (c : Cm) (B : Nat) (w : World) (hL : Els 5 cCell w B s c.list) (hk : c.list.length ≤ 1048576) :
    Calls Try.prog 58 #[.agg #[.int .i64 c.kind, .int .i64 c.who.1, .int .i64 c.who.2, .int .i64 c.comp, .int .i64 c.val.1, .int .i64 c.val.2.1, .float .f64 c.val.2.2.1, .float .f64 c.val.2.2.2, .slice s c.list.length cap]] w fun e w' => (∃ g : Nat, e = .returned (.agg #[.int .i64 c.kind, .int .i64 c.who.1, .int .i64 c.who.2, .int .i64 c.comp, .int .i64 c.val.1, .int .i64 c.val.2.1, .float .f64 c.val.2.2.1, .float .f64 c.val.2.2.2, .slice (some ⟨g, 0, none⟩) c.list.length c.list.length]) ∧
      Els 5 cCell w' w.heap.size (some ⟨g, 0, none⟩) c.list) ∧ Below w.heap.size w w' := by
  have hal := alloc_old
  have haf := alloc_oldf
  obtain ⟨k0, k1, k2⟩ := blk3t w #[.int .i64 c.kind, .int .i64 c.who.1, .int .i64 c.who.2, .int .i64 c.comp, .int .i64 c.val.1, .int .i64 c.val.2.1, .float .f64 c.val.2.2.1, .float .f64 c.val.2.2.2, .slice s c.list.length cap] #[.int .i64 0, .int .i64 0, .int .i64 0, .int .i64 0, .int .i64 0, .int .i64 0, .float .f64 0, .float .f64 0, .slice none 0 0] #[.int .i64 c.kind, .int .i64 0, .int .i64 0, .int .i64 0, .int .i64 0, .int .i64 0, .float .f64 0, .float .f64 0, .slice none 0 0] 111 114 114
  have L0 : Below w.heap.size w (((w.alloc (.cells #[.int .i64 c.kind, .int .i64 c.who.1, .int .i64 c.who.2, .int .i64 c.comp, .int .i64 c.val.1, .int .i64 c.val.2.1, .float .f64 c.val.2.2.1, .float .f64 c.val.2.2.2, .slice s c.list.length cap] 111)).alloc (.cells #[.int .i64 0, .int .i64 0, .int .i64 0, .int .i64 0, .int .i64 0, .int .i64 0, .float .f64 0, .float .f64 0, .slice none 0 0] 114)).alloc (.cells #[.int .i64 c.kind, .int .i64 0, .int .i64 0, .int .i64 0, .int .i64 0, .int .i64 0, .float .f64 0, .float .f64 0, .slice none 0 0] 114)) := by (repeat (first | with_reducible exact Below.refl _ _ | with_reducible refine bl_alloc ?_ _ | with_reducible refine bl_drewN ?_ _ | with_reducible refine bl_drew ?_ | with_reducible refine bl_setCell ?_ (by first | exact Nat.le_refl _ | (dsimp only; omega) | (simp <;> omega)) _ | with_reducible refine bl_trans ?_ (by with_reducible assumption)))
  have n0 : ¬ w.heap.size = w.heap.size + 1 + 1 := by omega
  have n1 : ¬ w.heap.size + 1 = w.heap.size + 1 + 1 := by omega
  go_enter Try.func58, Try.ntmps58
  go_wp2_with fail
  refine (toEnt_any c.who.1 c.who.2 _).mono ?_
  rintro e w1 ⟨rfl, hb1⟩
  have LX := bl_trans L0 hb1
  have P0 := k0.later hb1
  have P1 := k1.later hb1
  have P2 := k2.later hb1
  clear k0 k1 k2 hb1 L0
  obtain ⟨z0, z1, z2, z3, z4, z5, z6, z7, z8, z9⟩ := P2.nine
  obtain ⟨x0, x1, x2, x3, x4, x5, x6, x7, x8, x9⟩ := P0.nine
  go_wp2_with fail
  clear x0 x1 x2 x3 x4 x5 x6 x7 x8 x9 z0 z1 z2 z3 z4 z5 z6 z7 z8 z9
  have Q0 := ((P0.other (m := w.heap.size + 1 + 1) (by omega) 1 (.int .i64 c.who.1)).other (m := w.heap.size + 1 + 1) (by omega) 2 (.int .i64 c.who.2)).other (m := w.heap.size + 1 + 1) (by omega) 3 (.int .i64 c.comp)
  have Q1 := ((P1.other (m := w.heap.size + 1 + 1) (by omega) 1 (.int .i64 c.who.1)).other (m := w.heap.size + 1 + 1) (by omega) 2 (.int .i64 c.who.2)).other (m := w.heap.size + 1 + 1) (by omega) 3 (.int .i64 c.comp)
  have Q2 := ((P2.set 1 (.int .i64 c.who.1)).set 2 (.int .i64 c.who.2)).set 3 (.int .i64 c.comp)
  have LY := ((LX.setCell (p := ⟨w.heap.size + 1 + 1, 1, none⟩) (by simp; omega) (.int .i64 c.who.1)).setCell (p := ⟨w.heap.size + 1 + 1, 2, none⟩) (by simp; omega) (.int .i64 c.who.2)).setCell (p := ⟨w.heap.size + 1 + 1, 3, none⟩) (by simp; omega) (.int .i64 c.comp)
  generalize hX : ((w1.setCell ⟨w.heap.size + 1 + 1, 1, none⟩ (.int .i64 c.who.1)).setCell ⟨w.heap.size + 1 + 1, 2, none⟩ (.int .i64 c.who.2)).setCell ⟨w.heap.size + 1 + 1, 3, none⟩ (.int .i64 c.comp) = X at Q0 Q1 Q2 LY ⊢
  clear hX P0 P1 P2 LX
  have Q2 : Blk X (w.heap.size + 1 + 1) #[.int .i64 c.kind, .int .i64 c.who.1, .int .i64 c.who.2, .int .i64 c.comp, .int .i64 0, .int .i64 0, .float .f64 0, .float .f64 0, .slice none 0 0] 114 := Q2
  refine (toVal_any c.val.1 c.val.2.1 c.val.2.2.1 c.val.2.2.2 _).mono ?_
  rintro e w2 ⟨rfl, hb2⟩
  have LY := bl_trans LY hb2
  have Q0 := Q0.later hb2
  have Q1 := Q1.later hb2
  have Q2 := Q2.later hb2
  clear hb2
  obtain ⟨z0, z1, z2, z3, z4, z5, z6, z7, z8, z9⟩ := Q2.nine
  obtain ⟨x0, x1, x2, x3, x4, x5, x6, x7, x8, x9⟩ := Q0.nine
  go_wp2_with fail
  clear x0 x1 x2 x3 x4 x5 x6 x7 x8 x9 z0 z1 z2 z3 z4 z5 z6 z7 z8 z9
  have R1 := ((((Q1.other (m := w.heap.size + 1 + 1) (by omega) 4 (.int .i64 c.val.1)).other (m := w.heap.size + 1 + 1) (by omega) 5 (.int .i64 c.val.2.1)).other (m := w.heap.size + 1 + 1) (by omega) 6 (.float .f64 c.val.2.2.1)).other (m := w.heap.size + 1 + 1) (by omega) 7 (.float .f64 c.val.2.2.2))
  have R2 := ((((Q2.set 4 (.int .i64 c.val.1)).set 5 (.int .i64 c.val.2.1)).set 6 (.float .f64 c.val.2.2.1)).set 7 (.float .f64 c.val.2.2.2))
  have LZ := ((((LY.setCell (p := ⟨w.heap.size + 1 + 1, 4, none⟩) (by simp; omega) (.int .i64 c.val.1)).setCell (p := ⟨w.heap.size + 1 + 1, 5, none⟩) (by simp; omega) (.int .i64 c.val.2.1)).setCell (p := ⟨w.heap.size + 1 + 1, 6, none⟩) (by simp; omega) (.float .f64 c.val.2.2.1)).setCell (p := ⟨w.heap.size + 1 + 1, 7, none⟩) (by simp; omega) (.float .f64 c.val.2.2.2))
  generalize hX : (((w2.setCell ⟨w.heap.size + 1 + 1, 4, none⟩ (.int .i64 c.val.1)).setCell ⟨w.heap.size + 1 + 1, 5, none⟩ (.int .i64 c.val.2.1)).setCell ⟨w.heap.size + 1 + 1, 6, none⟩ (.float .f64 c.val.2.2.1)).setCell ⟨w.heap.size + 1 + 1, 7, none⟩ (.float .f64 c.val.2.2.2) = Y at R1 R2 LZ ⊢
  clear hX Q0 Q1 Q2 LY
  have R2 : Blk Y (w.heap.size + 1 + 1) #[.int .i64 c.kind, .int .i64 c.who.1, .int .i64 c.who.2, .int .i64 c.comp, .int .i64 c.val.1, .int .i64 c.val.2.1, .float .f64 c.val.2.2.1, .float .f64 c.val.2.2.2, .slice none 0 0] 114 := R2
  refine (toCellS_made s cap c.list B _ (hL.later cCell_keeps LZ) hk).mono ?_
  rintro e w3 ⟨g, rfl, e3, d3, hb3⟩
  have ly : w.heap.size + 1 + 1 < Y.heap.size := R2.lt
  have d3 := d3.drop cCell_drops (B' := w.heap.size + 1 + 1 + 1) (by omega)
  have L3 := bl_trans LZ hb3
  have S1 := R1.later hb3
  have S2 := R2.later hb3
  clear R1 R2 LZ hb3
  obtain ⟨z0, z1, z2, z3, z4, z5, z6, z7, z8, z9⟩ := S2.nine
  obtain ⟨y0, y1, y2, y3, y4, y5, y6, y7, y8, y9⟩ := S1.nine
  go_wp2_with fail
  refine bodyPost_ret (v := .agg #[.int .i64 c.kind, .int .i64 c.who.1, .int .i64 c.who.2, .int .i64 c.comp, .int .i64 c.val.1, .int .i64 c.val.2.1, .float .f64 c.val.2.2.1, .float .f64 c.val.2.2.2, .slice (some ⟨g, 0, none⟩) c.list.length c.list.length]) (by simp [results, Try.results58, go_sem, y0, y1, y2, y3, y4, y5, y6, y7, y8]) rfl ⟨⟨g, rfl, ?_⟩, ?_⟩
  · refine Els.drop cCell_drops (B := w.heap.size + 1 + 1 + 1) (d3.kept cCell_keeps ?_) (by omega)
    repeat (first | with_reducible exact Kept.refl _ _ | with_reducible refine Kept.trans ?_ (Kept.set _ (by simp <;> omega) _))
  · repeat (first | with_reducible exact L3 | with_reducible refine Below.setCell ?_ (by simp <;> omega) _)

set_option maxHeartbeats 4000000 in
theorem toCmdS_made (s : Option Addr) (c : Nat) (L : List Cm) (B : Nat) (w : World) (hL : Els 9 cCmd w B s L) (hl : kCs L) :
    Calls Try.prog 27 #[.slice s L.length c] w fun e w' => Made 9 cCmd w L e w' := by
  obtain ⟨i0, hi, hz0, hz1, hz2⟩ := info_parts Try.infoCm
  obtain ⟨hl, hls⟩ := hl
  have HLS : Hid (∀ l ∈ L, l.list.length ≤ 1048576) := hls
  clear hls
  go_enter Try.func27, Try.ntmps27
  go_wp2_with (at_make; refine wpList_make_full _ rfl _ _ 69 rfl w.heap.size 114 i0 (.agg #[.int .i64 0, .int .i64 0, .int .i64 0, .int .i64 0, .int .i64 0, .int .i64 0, .float .f64 0, .float .f64 0, .slice none 0 0]) 9 Try.underlying69 hi hz0 hz1 .i64 .i64 _ _ L.length rfl rfl rfl rfl (by rw [hz2]; omega) (by unfold maxLen; omega) (Nat.le_refl _) ?_)
  intro w1 hown hgrow
  have hrow : Hid (Mk 9 cCmd [.int .i64 0, .int .i64 0, .int .i64 0, .int .i64 0, .int .i64 0, .int .i64 0, .float .f64 0, .float .f64 0, .slice none 0 0] 114 w1 w.heap.size w.heap.size L 0) := Mk.start (z := #[.int .i64 0, .int .i64 0, .int .i64 0, .int .i64 0, .int .i64 0, .int .i64 0, .float .f64 0, .float .f64 0, .slice none 0 0]) rfl hown
  have hbel : Hid (Below w.heap.size w w1) := (Below.refl _ w).grown hgrow (Nat.le_refl _) (fun k h => by cases h)
  clear hown hgrow hi hz0 hz1 hz2
  go_wp2_with fail
  go_loopw [4] (fun i wr => ∃ k : Nat, k ≤ L.length ∧ i = .int .i64 k ∧ Hid (Mk 9 cCmd [.int .i64 0, .int .i64 0, .int .i64 0, .int .i64 0, .int .i64 0, .int .i64 0, .float .f64 0, .float .f64 0, .slice none 0 0] 114 wr w.heap.size w.heap.size L k) ∧ Hid (Below w.heap.size w wr)) (fun i _ => L.length - (intOf i).toNat)
  case atStart => exact ⟨0, Nat.zero_le _, rfl, hrow, hbel⟩
  case round =>
    obtain ⟨k, hk, rfl, hrow, hbel⟩ := hrel
    by_cases hlt : k < L.length
    · obtain ⟨a, ha⟩ := get_some hlt
      obtain ⟨b, o, rfl, hB, hp, ok, s', c', e0, e1, e2, e3, e4, e5, e6, e7, e8, f⟩ := eCmd_cells (hL.later cCmd_keeps hbel.out) ha
      have hal := HLS.out a (List.mem_of_getElem? ha)
      have gl := (hrow.out.at hlt).2.1
      have HO : Hid (okV a.val) := ok
      clear hL ok
      go_wp2_with fail
      refine (toCmd_made s' c' a B _ f hal).mono ?_
      rintro e w2 ⟨⟨g, rfl, d1⟩, hb2⟩
      have hr2 := hrow.out.later cCmd_keeps hb2
      have L2 : Hid (Below w.heap.size w w2) := bl_trans hbel.out hb2
      obtain ⟨_, hg, fz, cz⟩ := hr2.at hlt
      have g0 := cz 0 _ rfl
      have g1 := cz 1 _ rfl
      have g2 := cz 2 _ rfl
      have g3 := cz 3 _ rfl
      have g4 := cz 4 _ rfl
      have g5 := cz 5 _ rfl
      have g6 := cz 6 _ rfl
      have g7 := cz 7 _ rfl
      have g8 := cz 8 _ rfl
      rw [Nat.add_zero] at g0
      have hputH : Hid (Mk 9 cCmd [.int .i64 0, .int .i64 0, .int .i64 0, .int .i64 0, .int .i64 0, .int .i64 0, .float .f64 0, .float .f64 0, .slice none 0 0] 114 (((((((((w2.setCell ⟨w.heap.size, k * 9, none⟩ (.int .i64 a.kind)).setCell ⟨w.heap.size, k * 9 + 1, none⟩ (.int .i64 a.who.1)).setCell ⟨w.heap.size, k * 9 + 2, none⟩ (.int .i64 a.who.2)).setCell ⟨w.heap.size, k * 9 + 3, none⟩ (.int .i64 a.comp)).setCell ⟨w.heap.size, k * 9 + 4, none⟩ (.int .i64 a.val.1)).setCell ⟨w.heap.size, k * 9 + 5, none⟩ (.int .i64 a.val.2.1)).setCell ⟨w.heap.size, k * 9 + 6, none⟩ (.float .f64 a.val.2.2.1)).setCell ⟨w.heap.size, k * 9 + 7, none⟩ (.float .f64 a.val.2.2.2)).setCell ⟨w.heap.size, k * 9 + 8, none⟩ (.slice (some ⟨g, 0, none⟩) a.list.length a.list.length)) w.heap.size w.heap.size L (k + 1)) :=
        hr2.push cCmd_keeps ha (c := [.int .i64 a.kind, .int .i64 a.who.1, .int .i64 a.who.2, .int .i64 a.comp, .int .i64 a.val.1, .int .i64 a.val.2.1, .float .f64 a.val.2.2.1, .float .f64 a.val.2.2.2, .slice (some ⟨g, 0, none⟩) a.list.length a.list.length]) rfl ⟨_, _, rfl, HO.out, d1.drop cCell_drops (by omega)⟩ (by repeat (first | with_reducible exact Kept.refl _ _ | with_reducible refine Kept.trans ?_ (Kept.set _ (by simp) _))) (fun A C hA h => put9 hA h)
      clear hr2 hrow ha cz f d1
      go_wp2_with fail
      go_roundw
      case rel =>
        refine ⟨k + 1, by omega, by go_num, hputH, ?_⟩
        show Below _ _ _
        repeat (first | with_reducible exact L2.out | with_reducible refine Below.setCell ?_ (by simp) _)
      case measure => simp [intOf]; omega
    · have hm' : k = L.length := by omega
      subst hm'
      go_wp2_with fail
      go_ret
      exact ⟨_, rfl, Nat.le_refl _, hrow.out.done cCmd_drops, hbel.out⟩
end Go.Proofs.Ytofpkbnocbmgkaa
