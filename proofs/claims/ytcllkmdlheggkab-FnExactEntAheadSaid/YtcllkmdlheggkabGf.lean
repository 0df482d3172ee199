import Derived.Test.YtcllkmdlheggkabGe
import Derived.Test.YtcllkmdlheggkabFa
import Derived.Test.YtcllkmdlheggkabEp
namespace Go.Proofs.Ytcllkmdlheggkab
open Go.RowKit
set_option linter.unusedVariables false
set_option linter.unusedSimpArgs false

theorem aheadL_len (G F : List Int) (n : Int) : (aheadL G F n).length ≤ 1048576 := by
  unfold aheadL
  split
  · rename_i h
    rw [aheadK_len]
    simp [aheadOk] at h
    obtain ⟨a, b, _⟩ := okE_parts h.1
    omega
  · simp
theorem specAhead_O (B : Bool) (L : List (Int × Int)) (p1 q1 c1 p2 q2 c2 : Nat) (G F : List Int) (n : Int) (w : World) (h1 : Ints w (some ⟨p1, q1, none⟩) G) (h2 : Ints w (some ⟨p2, q2, none⟩) F) (hB : aheadOk G F n = B) (hL : aheadL G F n = L) :
    Calls Try.prog 17 #[.agg #[.slice (some ⟨p1, q1, none⟩) G.length c1, .slice (some ⟨p2, q2, none⟩) F.length c2], .int .i64 n] w fun e w' => ∃ v, e = .returned (.tuple #[v, .bool B]) ∧ ERow w' w.heap.size v L ∧ Below w.heap.size w w' := by
  subst hB hL; exact specAhead_any p1 q1 c1 p2 q2 c2 G F n w h1 h2
theorem implAhead_O (B : Bool) (L : List (Int × Int)) (s1 s2 : Option Addr) (c1 c2 : Nat) (G F : List Int) (n : Int) (w : World) (h1 : Ints w s1 G) (h2 : Ints w s2 F) (l2 : F.length ≤ 1048576) (hB : aheadOk G F n = B) (hL : aheadL G F n = L) :
    Calls Try.prog 18 #[.agg #[.slice s1 G.length c1, .slice s2 F.length c2], .int .i64 n] w fun e w' => ∃ v, e = .returned (.tuple #[v, .bool B]) ∧ ERow w' w.heap.size v L ∧ Below w.heap.size w w' := by
  subst hB hL; exact implAhead_any s1 s2 c1 c2 G F n w h1 h2 l2

theorem ERow.keptR {w w' : World} {B : Nat} {v : Value} {L : List (Int × Int)} {r : Option Nat} (h : ERow w B v L) (hg : w.grownBy w' r) (hn : ∀ k, v.ownBlock = some k → ¬ r = some k) : ERow w' B v L := by
  refine World.ownsRow.kept h hg ?_
  cases hv : v.ownBlock with
  | none => exact Or.inl rfl
  | some k => exact Or.inr (fun e => hn k hv e.symm)

/-- only blocks g and f may have turned. -/
def Two2 (w w' : World) (g f : Nat) : Prop := ∃ wa wb, w.grownBy wa none ∧ wa.grownBy wb (some g) ∧ wb.grownBy w' (some f)
theorem ERow.kept2 {w w' : World} {B g f : Nat} {v : Value} {L : List (Int × Int)} (h : ERow w B v L) (hg : Two2 w w' g f) (hn : ∀ k, v.ownBlock = some k → ¬ k = g ∧ ¬ k = f) : ERow w' B v L := by
  obtain ⟨wa, wb, h1, h2, h3⟩ := hg
  exact ((h.keptR h1 (fun k _ => by simp)).keptR h2 (fun k hk e => (hn k hk).1 (by simpa using e.symm))).keptR h3 (fun k hk e => (hn k hk).2 (by simpa using e.symm))
theorem Blk.kept2 {w w' : World} {n g f : Nat} {c : Array Value} {t : TypeId} (h : Blk w n c t) (hg : Two2 w w' g f) (h1 : ¬ n = g) (h2 : ¬ n = f) : Blk w' n c t := by
  obtain ⟨wa, wb, g1, g2, g3⟩ := hg
  exact ((h.kept' g1 (by simp)).kept g2 h1).kept g3 h2
theorem Two2.below {a w w' : World} {g f : Nat} (hg : Two2 w w' g f) (hl : Below a.heap.size a w) (h1 : a.heap.size ≤ g) (h2 : a.heap.size ≤ f) : Below a.heap.size a w' := by
  obtain ⟨wa, wb, g1, g2, g3⟩ := hg
  have s1 := Nat.le_trans hl.size g1.size
  have s2 := Nat.le_trans s1 g2.size
  exact ((hl.grown g1 hl.size (fun k h => by cases h)).grown g2 s1 (fun k h => by simp at h; omega)).grown g3 s2 (fun k h => by simp at h; omega)

set_option maxRecDepth 100000 in
set_option maxHeartbeats 8000000 in
theorem exactEntAhead_any (s1 s2 : Option Addr) (c1 c2 : Nat) (G F : List Int) (n0 : Int) (w : World) (h1 : Ints w s1 G) (h2 : Ints w s2 F) (m1 : G.length ≤ 9223372036854775807) (m2 : F.length ≤ 9223372036854775807) (bn : -9223372036854775808 ≤ n0 ∧ n0 ≤ 9223372036854775807) :
    Calls Try.prog 4 #[.agg #[.slice s1 G.length c1, .slice s2 F.length c2], .int .i64 n0] w fun e w' => e = .returned (.bool true) ∧ Below w.heap.size w w' := by
  have hal := alloc_old
  have haf := alloc_oldf
  clear bn
  have k0 := Blk.new w #[.slice s1 G.length c1, .slice s2 F.length c2] 24
  by_cases hs : G.length + F.length ≤ 1048576
  · have hLn := aheadL_len G F n0
    obtain ⟨L, hL⟩ : ∃ L, Hid (aheadL G F n0 = L) := ⟨_, rfl⟩
    obtain ⟨B, hB⟩ : ∃ B, Hid (aheadOk G F n0 = B) := ⟨_, rfl⟩
    rw [hL.out] at hLn
    have hq : (B != B) = false := by simp
    go_enter Try.func4, Try.ntmps4
    go_wp2_with fail
    refine (szEnts_pos s1 s2 G.length F.length c1 c2 _ m1 m2 hs).mono ?_
    rintro e w1 ⟨⟨r, rfl, hr⟩, hb1⟩
    have K := k0.later hb1
    have l1 : Below w.heap.size w w1 := by (repeat (first | with_reducible exact Below.refl _ _ | with_reducible refine bl_alloc ?_ _ | with_reducible refine bl_drewN ?_ _ | with_reducible refine bl_drew ?_ | with_reducible refine bl_setCell ?_ (by first | exact Nat.le_refl _ | (dsimp only; omega) | (simp <;> omega)) _ | with_reducible refine bl_trans ?_ (by with_reducible assumption)))
    have sz1 : w.heap.size < w1.heap.size := K.lt
    clear k0 hb1 m1 m2
    obtain ⟨x0, x1, x2⟩ := K.two
    go_wp2_with fail
    refine (toEnts_any s1 s2 c1 c2 G F _ (h1.later l1) (h2.later l1) (by omega) (by omega)).mono ?_
    rintro e w2 ⟨g2, f2, rfl, hR2, hb2⟩
    go_wp2_with fail
    refine (specAhead_O B L _ _ _ _ _ _ G F n0 _ (rows2_ints hR2).1 (rows2_ints hR2).2 hB.out hL.out).mono ?_
    rintro e w3 ⟨v0, rfl, hv0, hb3⟩
    have b13 := bl_trans hb2 hb3
    have K3 := K.later b13
    have l3 := bl_trans l1 b13
    have V0 : ERow w3 w.heap.size v0 L := hv0.mono (by have := hb2.size; omega)
    have sz3 : w1.heap.size ≤ w3.heap.size := b13.size
    clear x0 x1 x2 K hR2 hb2 hb3 l1 b13 hv0
    obtain ⟨x0, x1, x2⟩ := K3.two
    go_wp2_with fail
    refine (toEnts_any s1 s2 c1 c2 G F _ (h1.later l3) (h2.later l3) (by omega) (by omega)).mono ?_
    rintro e w4 ⟨g4, f4, rfl, hR4, hb4⟩
    have g4a := hR4.1.lt
    have f4a := hR4.2.1.lt
    have V0lt : ∀ k, v0.ownBlock = some k → k < w3.heap.size := fun k hk => (V0.lt k hk).2
    have a4 := bl_alloc (Below.refl _ w4) (.cells #[.slice (some ⟨g4, 0, none⟩) G.length G.length, .slice (some ⟨f4, 0, none⟩) F.length F.length] 26)
    have J := Blk.new w4 #[.slice (some ⟨g4, 0, none⟩) G.length G.length, .slice (some ⟨f4, 0, none⟩) F.length F.length] 26
    have b34 := bl_trans hb4 a4
    have K4 := K3.later b34
    have l4 := bl_trans l3 b34
    have V4 := V0.later b34
    have R4 := hR4.later a4
    have sz4 : w4.heap.size < (w4.alloc (.cells #[.slice (some ⟨g4, 0, none⟩) G.length G.length, .slice (some ⟨f4, 0, none⟩) F.length F.length] 26)).heap.size := J.lt
    clear x0 x1 x2 K3 l3 V0 b34 hb4 a4 hR4
    obtain ⟨y0, y1, y2⟩ := J.two
    go_wp2_with fail
    refine (implAhead_O B L _ _ _ _ G F n0 _ (rows2_ints R4).1 (rows2_ints R4).2 (by omega) hB.out hL.out).mono ?_
    rintro e w5 ⟨vg, rfl, hvg, hb5⟩
    have J5 := J.later hb5
    have K5 := K4.later hb5
    have l5 := bl_trans l4 hb5
    have V5 := V4.later hb5
    have R5 := R4.later hb5
    have VGge : ∀ k, vg.ownBlock = some k → w4.heap.size < k := fun k hk => by have := (hvg.lt k hk).1; simp at this; omega
    have VG5 : ERow w5 w.heap.size vg L := hvg.mono (by have := l4.size; exact this)
    clear y0 y1 y2 J K4 l4 V4 R4 hb5 hvg sz4
    go_wp2_with fail
    refine (eqEntS_any _ _ L _ VG5.list V5.list hLn).mono ?_
    rintro e w6 ⟨rfl, hb6⟩
    have J6 := J5.later hb6
    have K6 := K5.later hb6
    have l6 := bl_trans l5 hb6
    have V6 := V5.later hb6
    have VG6 := VG5.later hb6
    have R6 := R5.later hb6
    clear J5 K5 l5 V5 VG5 R5 hb6
    obtain ⟨x0, x1, x2⟩ := K6.two
    obtain ⟨y0, y1, y2⟩ := J6.two
    go_wp2_with fail
    go_cut [49] (fun s wx => s = .bool false ∧ Below w6.heap.size w6 wx)
    case first =>
      have M : Below w6.heap.size w6 w6.drew := bl_drew (Below.refl _ _)
      go_region_with (first
        | (go_at_call 11; refine (toEnts_any s1 s2 c1 c2 G F _ (h1.later (bl_trans l6 M)) (h2.later (bl_trans l6 M)) (by omega) (by omega)).mono ?_; rintro e w7 ⟨g7, f7, rfl, hR7, hb7⟩; have M := bl_trans M hb7; obtain ⟨z0, z1, z2⟩ := (J6.later M).two)
        | (go_at_call 13; refine (eqEnts_any _ _ _ _ _ _ _ _ G F G F _ ((rows2_ints R6).1.later M) ((rows2_ints R6).2.later M) (rows2_ints hR7).1 (rows2_ints hR7).2 (by omega) (by omega)).mono ?_; rintro e w8 ⟨rfl, hb8⟩; have M := bl_trans M hb8; rw [show decide (G = G ∧ F = F) = true by simp]))
      all_goals
        go_wp2_with fail
        go_meet
        exact ⟨rfl, M⟩
    case rest =>
      obtain ⟨rfl, hb8⟩ := hcut
      have J8 := J6.later hb8
      have K8 := K6.later hb8
      have l8 := bl_trans l6 hb8
      have V8 := V6.later hb8
      have VG8 := VG6.later hb8
      have R8 := R6.later hb8
      clear x0 x1 x2 y0 y1 y2 J6 K6 l6 V6 VG6 R6 hb8
      obtain ⟨x0, x1, x2⟩ := K8.two
      obtain ⟨y0, y1, y2⟩ := J8.two
      go_wp2_with fail
      refine (markEnts_any _ _ _ _ _ G F _ R8.1 R8.2.1 R8.2.2 (by omega)).mono ?_
      rintro e w9 ⟨rfl, hg9⟩
      have T9 : Two2 _ w9 g4 f4 := hg9
      have K9 := K8.kept2 T9 (by omega) (by omega)
      have l9 := T9.below l8 (by omega) (by omega)
      have V9 := V8.kept2 T9 (fun k hk => by have := V0lt k hk; omega)
      have VG9 := VG8.kept2 T9 (fun k hk => by have := VGge k hk; omega)
      clear x0 x1 x2 y0 y1 y2 J8 K8 l8 V8 VG8 R8 hg9 T9
      go_wp2_with fail
      refine (eqEntS_any _ _ L _ VG9.list V9.list hLn).mono ?_
      rintro e w10 ⟨rfl, hb10⟩
      have K10 := K9.later hb10
      have l10 := bl_trans l9 hb10
      have V10 := V9.later hb10
      have VG10 := VG9.later hb10
      clear K9 l9 V9 VG9 hb10
      go_wp2_with fail
      refine (markEntS_all _ _ L _ VG10 hLn).mono ?_
      rintro e w11 ⟨rfl, VG11, hg11⟩
      have K11 := K10.kept' hg11 (fun e => by have := VGge _ e; omega)
      have l11 : Below w.heap.size w w11 := l10.grown hg11 l10.size (fun k hk => by have := VGge k hk; omega)
      have V11 := V10.keptR hg11 (fun k hk e => by have := VGge _ e; have := V0lt k hk; omega)
      clear K10 l10 V10 VG10 hg11
      go_wp2_with fail
      refine (heldEntS_all _ _ _ L.length _ VG11 rfl hLn).mono ?_
      rintro e w12 ⟨rfl, hb12⟩
      have K12 := K11.later hb12
      have l12 := bl_trans l11 hb12
      have V12 := V11.later hb12
      have VG12 := VG11.later hb12
      clear K11 l11 V11 VG11 hb12
      obtain ⟨x0, x1, x2⟩ := K12.two
      go_wp2_with fail
      refine (toEnts_any s1 s2 c1 c2 G F _ (h1.later l12) (h2.later l12) (by omega) (by omega)).mono ?_
      rintro e w13 ⟨g13, f13, rfl, hR13, hb13⟩
      go_wp2_with fail
      refine (implAhead_O B L _ _ _ _ G F n0 _ (rows2_ints hR13).1 (rows2_ints hR13).2 (by omega) hB.out hL.out).mono ?_
      rintro e w14 ⟨vh, rfl, hvh, hb14⟩
      have b1214 := bl_trans hb13 hb14
      have l14 := bl_trans l12 b1214
      have V14 := V12.later b1214
      have VG14 := VG12.later b1214
      clear x0 x1 x2 K12 l12 V12 VG12 hb13 hb14 b1214 hR13
      go_wp2_with fail
      refine (eqEntS_any _ _ L _ hvh.list V14.list hLn).mono ?_
      rintro e w15 ⟨rfl, hb15⟩
      have l15 := bl_trans l14 hb15
      have VG15 := VG14.later hb15
      clear l14 V14 VG14 hb15 hvh
      go_wp2_with fail
      refine (heldEntS_all _ _ _ L.length _ VG15 rfl hLn).mono ?_
      rintro e w16 ⟨rfl, hb16⟩
      go_wp2_with fail
      go_ret
      exact ⟨rfl, bl_trans l15 hb16⟩
  · go_enter Try.func4, Try.ntmps4
    go_wp2_with fail
    refine (szEnts_neg s1 s2 G.length F.length c1 c2 _ m1 m2 hs).mono ?_
    rintro e w1 ⟨rfl, hb1⟩
    go_wp2_with fail
    go_ret
    refine ⟨rfl, ?_⟩
    (repeat (first | with_reducible exact Below.refl _ _ | with_reducible refine bl_alloc ?_ _ | with_reducible refine bl_drewN ?_ _ | with_reducible refine bl_drew ?_ | with_reducible refine bl_setCell ?_ (by first | exact Nat.le_refl _ | (dsimp only; omega) | (simp <;> omega)) _ | with_reducible refine bl_trans ?_ (by with_reducible assumption)))
end Go.Proofs.Ytcllkmdlheggkab
