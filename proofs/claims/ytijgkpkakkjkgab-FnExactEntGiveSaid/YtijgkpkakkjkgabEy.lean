import Derived.Test.YtijgkpkakkjkgabEx
namespace Go.Proofs.Ytijgkpkakkjkgab
open Go.RowKit
set_option linter.unusedVariables false
set_option linter.unusedSimpArgs false

/-- what is given back: the lists, the code. -/
def giveB (G F : List Int) (a g : Int) : List Int × List Int × Int :=
  if okE G F = true then (if l2B G F a g = true then (G.set a.toNat (ng g), F ++ [a], 0) else (G, F, 2)) else (G, F, 1)

/-- what a call that gives a thing back leaves. -/
def Gives (O : List Int × List Int × Int) (w : World) (e : Ending) (w' : World) : Prop :=
  ∃ s c t d, e = .returned (.tuple #[.agg #[.slice s O.1.length c, .slice t O.2.1.length d], .int .i64 O.2.2]) ∧ VRow w' w.heap.size (.slice s O.1.length c) O.1 ∧ VRow w' w.heap.size (.slice t O.2.1.length d) O.2.1 ∧ Apart (.slice s O.1.length c) (.slice t O.2.1.length d) ∧ Below w.heap.size w w'

theorem l2B_parts {G F : List Int} {a g : Int} (h : l2B G F a g = true) (hk : okE G F = true) : ∃ q : Nat, a = (q : Int) ∧ q < G.length ∧ 0 ≤ g ∧ g ≤ 1000000 := by
  simp only [l2B, decide_eq_true_eq] at h
  simp only [okE, decide_eq_true_eq] at hk
  obtain ⟨h1, h2, h3, h4⟩ := h
  refine ⟨a.toNat, by omega, by omega, ?_⟩
  rw [← h3]
  exact hk.2.1 _ (getD_mem (by omega))

theorem okE_len {G F : List Int} (h : okE G F = true) : G.length ≤ 2000 ∧ F.length ≤ 2000 := by
  have h' := h
  rw [okE_eq] at h
  simp only [Bool.and_eq_true, decide_eq_true_eq] at h
  have := free_len h.2
  omega

theorem apartS {g f n m c d : Nat} (h : ¬ g = f) : Apart (.slice (some ⟨g, 0, none⟩) n c) (.slice (some ⟨f, 0, none⟩) m d) := by
  intro k h1 h2
  simp [Value.ownBlock] at h1 h2
  omega

set_option maxHeartbeats 4000000 in
theorem specGive_any (p1 q1 c1 p2 q2 c2 : Nat) (G F : List Int) (a g : Int) (w : World) (h1 : Ints w (some ⟨p1, q1, none⟩) G) (h2 : Ints w (some ⟨p2, q2, none⟩) F) (l1 : G.length ≤ 1048576) (l2 : F.length ≤ 1048576) :
    Calls Try.prog 21 #[.agg #[.slice (some ⟨p1, q1, none⟩) G.length c1, .slice (some ⟨p2, q2, none⟩) F.length c2], .agg #[.int .i64 a, .int .i64 g]] w fun e w' => Gives (giveB G F a g) w e w' := by
  have hal := alloc_old
  have haf := alloc_oldf
  obtain ⟨k0, k1, k2⟩ := blk3 w #[.slice (some ⟨p1, q1, none⟩) G.length c1, .slice (some ⟨p2, q2, none⟩) F.length c2] #[.int .i64 a, .int .i64 g] #[.slice none 0 0, .slice none 0 0] 27 34 27
  cases hk : okE G F
  · have hO : Hid (giveB G F a g = (G, F, 1)) := by simp [Hid, giveB, hk]
    go_enter Try.func21, Try.ntmps21
    go_wp2_with fail
    refine (l2Copy_any p1 q1 c1 p2 q2 c2 G F _ (h1.later (by (repeat (first | with_reducible exact Below.refl _ _ | with_reducible refine bl_alloc ?_ _ | with_reducible refine bl_drewN ?_ _ | with_reducible refine bl_drew ?_ | with_reducible refine bl_setCell ?_ (by first | exact Nat.le_refl _ | (dsimp only; omega) | (simp <;> omega)) _ | with_reducible refine bl_trans ?_ (by with_reducible assumption))))) (h2.later (by (repeat (first | with_reducible exact Below.refl _ _ | with_reducible refine bl_alloc ?_ _ | with_reducible refine bl_drewN ?_ _ | with_reducible refine bl_drew ?_ | with_reducible refine bl_setCell ?_ (by first | exact Nat.le_refl _ | (dsimp only; omega) | (simp <;> omega)) _ | with_reducible refine bl_trans ?_ (by with_reducible assumption))))) l1 l2).mono ?_
    rintro e w1 ⟨g0, c0, f0, d0, rfl, v1, v2, hne, hb1⟩
    have eg := v1.ge
    have ef := v2.ge
    simp only [World.size_alloc] at eg ef
    have L1 : Below w.heap.size w w1 := by (repeat (first | with_reducible exact Below.refl _ _ | with_reducible refine bl_alloc ?_ _ | with_reducible refine bl_drewN ?_ _ | with_reducible refine bl_drew ?_ | with_reducible refine bl_setCell ?_ (by first | exact Nat.le_refl _ | (dsimp only; omega) | (simp <;> omega)) _ | with_reducible refine bl_trans ?_ (by with_reducible assumption)))
    have K0 := ((k0.later hb1).set 0 (.slice (some ⟨g0, 0, none⟩) G.length c0)).set 1 (.slice (some ⟨f0, 0, none⟩) F.length d0)
    have K1 := ((k1.later hb1).other (m := w.heap.size) (by omega) 0 (.slice (some ⟨g0, 0, none⟩) G.length c0)).other (m := w.heap.size) (by omega) 1 (.slice (some ⟨f0, 0, none⟩) F.length d0)
    have K2 := ((k2.later hb1).other (m := w.heap.size) (by omega) 0 (.slice (some ⟨g0, 0, none⟩) G.length c0)).other (m := w.heap.size) (by omega) 1 (.slice (some ⟨f0, 0, none⟩) F.length d0)
    have V1 := ((v1.mono (B' := w.heap.size) (by simp; omega)).other (n := w.heap.size) (by simp [Value.ownBlock]; omega) 0 (.slice (some ⟨g0, 0, none⟩) G.length c0)).other (n := w.heap.size) (by simp [Value.ownBlock]; omega) 1 (.slice (some ⟨f0, 0, none⟩) F.length d0)
    have V2 := ((v2.mono (B' := w.heap.size) (by simp; omega)).other (n := w.heap.size) (by simp [Value.ownBlock]; omega) 0 (.slice (some ⟨g0, 0, none⟩) G.length c0)).other (n := w.heap.size) (by simp [Value.ownBlock]; omega) 1 (.slice (some ⟨f0, 0, none⟩) F.length d0)
    have LX : Below w.heap.size w ((w1.setCell ⟨w.heap.size, 0, none⟩ (.slice (some ⟨g0, 0, none⟩) G.length c0)).setCell ⟨w.heap.size, 1, none⟩ (.slice (some ⟨f0, 0, none⟩) F.length d0)) := (L1.setCell (Nat.le_refl _) _).setCell (Nat.le_refl _) _
    obtain ⟨x0, x1, x2⟩ := (k0.later hb1).two
    go_wp2_with fail
    generalize hX : ((w1.setCell ⟨w.heap.size, 0, none⟩ (.slice (some ⟨g0, 0, none⟩) G.length c0)).setCell ⟨w.heap.size, 1, none⟩ (.slice (some ⟨f0, 0, none⟩) F.length d0)) = X at K0 K1 K2 V1 V2 LX ⊢
    clear hX x0 x1 x2 L1 hb1 v1 v2 k0 k1 k2
    have K0 : Blk X w.heap.size #[.slice (some ⟨g0, 0, none⟩) G.length c0, .slice (some ⟨f0, 0, none⟩) F.length d0] 27 := K0
    refine (specEntsOk_any _ _ _ _ G F _ (Row.ints V1).1 (Row.ints V2).1).mono ?_
    rintro e w2 ⟨rfl, hb2⟩
    rw [hk]
    have L2 := bl_trans LX hb2
    have N0 := K0.later hb2
    have N1 := K1.later hb2
    have N2 := K2.later hb2
    have U1 := V1.later hb2
    have U2 := V2.later hb2
    clear K0 K1 K2 V1 V2 LX hb2
    obtain ⟨x0, x1, x2⟩ := N0.two
    obtain ⟨y0, y1, y2⟩ := N1.two
    obtain ⟨z0, z1, z2⟩ := N2.two
    have e1 : ¬ w.heap.size = w.heap.size + 1 + 1 := by omega
    have e2 : ¬ w.heap.size + 1 + 1 = w.heap.size := by omega
    go_wp2_with fail
    refine bodyPost_ret (v := .tuple #[.agg #[.slice (some ⟨g0, 0, none⟩) G.length c0, .slice (some ⟨f0, 0, none⟩) F.length d0], .int .i64 1]) (by simp [results, Try.results21, go_sem, z0, z1]) rfl ?_
    rw [hO.out]
    refine ⟨_, _, _, _, rfl, ?_, ?_, apartS hne, ?_⟩
    · exact (U1.other (by simp [Value.ownBlock]; omega) _ _).other (by simp [Value.ownBlock]; omega) _ _
    · exact (U2.other (by simp [Value.ownBlock]; omega) _ _).other (by simp [Value.ownBlock]; omega) _ _
    · (repeat (first | with_reducible exact Below.refl _ _ | with_reducible refine bl_alloc ?_ _ | with_reducible refine bl_drewN ?_ _ | with_reducible refine bl_drew ?_ | with_reducible refine bl_setCell ?_ (by first | exact Nat.le_refl _ | (dsimp only; omega) | (simp <;> omega)) _ | with_reducible refine bl_trans ?_ (by with_reducible assumption)))
  · cases hlv : l2B G F a g
    · have hO : Hid (giveB G F a g = (G, F, 2)) := by simp [Hid, giveB, hk, hlv]
      go_enter Try.func21, Try.ntmps21
      go_wp2_with fail
      refine (l2Copy_any p1 q1 c1 p2 q2 c2 G F _ (h1.later (by (repeat (first | with_reducible exact Below.refl _ _ | with_reducible refine bl_alloc ?_ _ | with_reducible refine bl_drewN ?_ _ | with_reducible refine bl_drew ?_ | with_reducible refine bl_setCell ?_ (by first | exact Nat.le_refl _ | (dsimp only; omega) | (simp <;> omega)) _ | with_reducible refine bl_trans ?_ (by with_reducible assumption))))) (h2.later (by (repeat (first | with_reducible exact Below.refl _ _ | with_reducible refine bl_alloc ?_ _ | with_reducible refine bl_drewN ?_ _ | with_reducible refine bl_drew ?_ | with_reducible refine bl_setCell ?_ (by first | exact Nat.le_refl _ | (dsimp only; omega) | (simp <;> omega)) _ | with_reducible refine bl_trans ?_ (by with_reducible assumption))))) l1 l2).mono ?_
      rintro e w1 ⟨g0, c0, f0, d0, rfl, v1, v2, hne, hb1⟩
      have eg := v1.ge
      have ef := v2.ge
      simp only [World.size_alloc] at eg ef
      have L1 : Below w.heap.size w w1 := by (repeat (first | with_reducible exact Below.refl _ _ | with_reducible refine bl_alloc ?_ _ | with_reducible refine bl_drewN ?_ _ | with_reducible refine bl_drew ?_ | with_reducible refine bl_setCell ?_ (by first | exact Nat.le_refl _ | (dsimp only; omega) | (simp <;> omega)) _ | with_reducible refine bl_trans ?_ (by with_reducible assumption)))
      have K0 := ((k0.later hb1).set 0 (.slice (some ⟨g0, 0, none⟩) G.length c0)).set 1 (.slice (some ⟨f0, 0, none⟩) F.length d0)
      have K1 := ((k1.later hb1).other (m := w.heap.size) (by omega) 0 (.slice (some ⟨g0, 0, none⟩) G.length c0)).other (m := w.heap.size) (by omega) 1 (.slice (some ⟨f0, 0, none⟩) F.length d0)
      have K2 := ((k2.later hb1).other (m := w.heap.size) (by omega) 0 (.slice (some ⟨g0, 0, none⟩) G.length c0)).other (m := w.heap.size) (by omega) 1 (.slice (some ⟨f0, 0, none⟩) F.length d0)
      have V1 := ((v1.mono (B' := w.heap.size) (by simp; omega)).other (n := w.heap.size) (by simp [Value.ownBlock]; omega) 0 (.slice (some ⟨g0, 0, none⟩) G.length c0)).other (n := w.heap.size) (by simp [Value.ownBlock]; omega) 1 (.slice (some ⟨f0, 0, none⟩) F.length d0)
      have V2 := ((v2.mono (B' := w.heap.size) (by simp; omega)).other (n := w.heap.size) (by simp [Value.ownBlock]; omega) 0 (.slice (some ⟨g0, 0, none⟩) G.length c0)).other (n := w.heap.size) (by simp [Value.ownBlock]; omega) 1 (.slice (some ⟨f0, 0, none⟩) F.length d0)
      have LX : Below w.heap.size w ((w1.setCell ⟨w.heap.size, 0, none⟩ (.slice (some ⟨g0, 0, none⟩) G.length c0)).setCell ⟨w.heap.size, 1, none⟩ (.slice (some ⟨f0, 0, none⟩) F.length d0)) := (L1.setCell (Nat.le_refl _) _).setCell (Nat.le_refl _) _
      obtain ⟨x0, x1, x2⟩ := (k0.later hb1).two
      go_wp2_with fail
      generalize hX : ((w1.setCell ⟨w.heap.size, 0, none⟩ (.slice (some ⟨g0, 0, none⟩) G.length c0)).setCell ⟨w.heap.size, 1, none⟩ (.slice (some ⟨f0, 0, none⟩) F.length d0)) = X at K0 K1 K2 V1 V2 LX ⊢
      clear hX x0 x1 x2 L1 hb1 v1 v2 k0 k1 k2
      have K0 : Blk X w.heap.size #[.slice (some ⟨g0, 0, none⟩) G.length c0, .slice (some ⟨f0, 0, none⟩) F.length d0] 27 := K0
      refine (specEntsOk_any _ _ _ _ G F _ (Row.ints V1).1 (Row.ints V2).1).mono ?_
      rintro e w2 ⟨rfl, hb2⟩
      rw [hk]
      have L2 := bl_trans LX hb2
      have N0 := K0.later hb2
      have N1 := K1.later hb2
      have N2 := K2.later hb2
      have U1 := V1.later hb2
      have U2 := V2.later hb2
      clear K0 K1 K2 V1 V2 LX hb2
      obtain ⟨x0, x1, x2⟩ := N0.two
      obtain ⟨y0, y1, y2⟩ := N1.two
      obtain ⟨z0, z1, z2⟩ := N2.two
      have e1 : ¬ w.heap.size = w.heap.size + 1 + 1 := by omega
      have e2 : ¬ w.heap.size + 1 + 1 = w.heap.size := by omega
      go_wp2_with fail
      refine (l2Live_any _ _ _ _ G F a g _ (Row.ints U1).1 (Row.ints U2).1 l1 l2).mono ?_
      rintro e w3 ⟨rfl, hb3⟩
      rw [hlv]
      have L3 := bl_trans L2 hb3
      have M0 := N0.later hb3
      have M1 := N1.later hb3
      have M2 := N2.later hb3
      have T1 := U1.later hb3
      have T2 := U2.later hb3
      clear N0 N1 N2 U1 U2 L2 hb3 x0 x1 x2 y0 y1 y2 z0 z1 z2
      obtain ⟨x0, x1, x2⟩ := M0.two
      obtain ⟨y0, y1, y2⟩ := M1.two
      obtain ⟨z0, z1, z2⟩ := M2.two
      go_wp2_with fail
      refine bodyPost_ret (v := .tuple #[.agg #[.slice (some ⟨g0, 0, none⟩) G.length c0, .slice (some ⟨f0, 0, none⟩) F.length d0], .int .i64 2]) (by simp [results, Try.results21, go_sem, z0, z1]) rfl ?_
      rw [hO.out]
      refine ⟨_, _, _, _, rfl, ?_, ?_, apartS hne, ?_⟩
      · exact (T1.other (by simp [Value.ownBlock]; omega) _ _).other (by simp [Value.ownBlock]; omega) _ _
      · exact (T2.other (by simp [Value.ownBlock]; omega) _ _).other (by simp [Value.ownBlock]; omega) _ _
      · (repeat (first | with_reducible exact Below.refl _ _ | with_reducible refine bl_alloc ?_ _ | with_reducible refine bl_drewN ?_ _ | with_reducible refine bl_drew ?_ | with_reducible refine bl_setCell ?_ (by first | exact Nat.le_refl _ | (dsimp only; omega) | (simp <;> omega)) _ | with_reducible refine bl_trans ?_ (by with_reducible assumption)))
    · have hO : Hid (giveB G F a g = (G.set a.toNat (ng g), F ++ [a], 0)) := by simp [Hid, giveB, hk, hlv]
      go_enter Try.func21, Try.ntmps21
      go_wp2_with fail
      refine (l2Copy_any p1 q1 c1 p2 q2 c2 G F _ (h1.later (by (repeat (first | with_reducible exact Below.refl _ _ | with_reducible refine bl_alloc ?_ _ | with_reducible refine bl_drewN ?_ _ | with_reducible refine bl_drew ?_ | with_reducible refine bl_setCell ?_ (by first | exact Nat.le_refl _ | (dsimp only; omega) | (simp <;> omega)) _ | with_reducible refine bl_trans ?_ (by with_reducible assumption))))) (h2.later (by (repeat (first | with_reducible exact Below.refl _ _ | with_reducible refine bl_alloc ?_ _ | with_reducible refine bl_drewN ?_ _ | with_reducible refine bl_drew ?_ | with_reducible refine bl_setCell ?_ (by first | exact Nat.le_refl _ | (dsimp only; omega) | (simp <;> omega)) _ | with_reducible refine bl_trans ?_ (by with_reducible assumption))))) l1 l2).mono ?_
      rintro e w1 ⟨g0, c0, f0, d0, rfl, v1, v2, hne, hb1⟩
      have eg := v1.ge
      have ef := v2.ge
      simp only [World.size_alloc] at eg ef
      have L1 : Below w.heap.size w w1 := by (repeat (first | with_reducible exact Below.refl _ _ | with_reducible refine bl_alloc ?_ _ | with_reducible refine bl_drewN ?_ _ | with_reducible refine bl_drew ?_ | with_reducible refine bl_setCell ?_ (by first | exact Nat.le_refl _ | (dsimp only; omega) | (simp <;> omega)) _ | with_reducible refine bl_trans ?_ (by with_reducible assumption)))
      have K0 := ((k0.later hb1).set 0 (.slice (some ⟨g0, 0, none⟩) G.length c0)).set 1 (.slice (some ⟨f0, 0, none⟩) F.length d0)
      have K1 := ((k1.later hb1).other (m := w.heap.size) (by omega) 0 (.slice (some ⟨g0, 0, none⟩) G.length c0)).other (m := w.heap.size) (by omega) 1 (.slice (some ⟨f0, 0, none⟩) F.length d0)
      have K2 := ((k2.later hb1).other (m := w.heap.size) (by omega) 0 (.slice (some ⟨g0, 0, none⟩) G.length c0)).other (m := w.heap.size) (by omega) 1 (.slice (some ⟨f0, 0, none⟩) F.length d0)
      have V1 := ((v1.mono (B' := w.heap.size) (by simp; omega)).other (n := w.heap.size) (by simp [Value.ownBlock]; omega) 0 (.slice (some ⟨g0, 0, none⟩) G.length c0)).other (n := w.heap.size) (by simp [Value.ownBlock]; omega) 1 (.slice (some ⟨f0, 0, none⟩) F.length d0)
      have V2 := ((v2.mono (B' := w.heap.size) (by simp; omega)).other (n := w.heap.size) (by simp [Value.ownBlock]; omega) 0 (.slice (some ⟨g0, 0, none⟩) G.length c0)).other (n := w.heap.size) (by simp [Value.ownBlock]; omega) 1 (.slice (some ⟨f0, 0, none⟩) F.length d0)
      have LX : Below w.heap.size w ((w1.setCell ⟨w.heap.size, 0, none⟩ (.slice (some ⟨g0, 0, none⟩) G.length c0)).setCell ⟨w.heap.size, 1, none⟩ (.slice (some ⟨f0, 0, none⟩) F.length d0)) := (L1.setCell (Nat.le_refl _) _).setCell (Nat.le_refl _) _
      obtain ⟨x0, x1, x2⟩ := (k0.later hb1).two
      go_wp2_with fail
      generalize hX : ((w1.setCell ⟨w.heap.size, 0, none⟩ (.slice (some ⟨g0, 0, none⟩) G.length c0)).setCell ⟨w.heap.size, 1, none⟩ (.slice (some ⟨f0, 0, none⟩) F.length d0)) = X at K0 K1 K2 V1 V2 LX ⊢
      clear hX x0 x1 x2 L1 hb1 v1 v2 k0 k1 k2
      have K0 : Blk X w.heap.size #[.slice (some ⟨g0, 0, none⟩) G.length c0, .slice (some ⟨f0, 0, none⟩) F.length d0] 27 := K0
      refine (specEntsOk_any _ _ _ _ G F _ (Row.ints V1).1 (Row.ints V2).1).mono ?_
      rintro e w2 ⟨rfl, hb2⟩
      rw [hk]
      have L2 := bl_trans LX hb2
      have N0 := K0.later hb2
      have N1 := K1.later hb2
      have N2 := K2.later hb2
      have U1 := V1.later hb2
      have U2 := V2.later hb2
      clear K0 K1 K2 V1 V2 LX hb2
      obtain ⟨x0, x1, x2⟩ := N0.two
      obtain ⟨y0, y1, y2⟩ := N1.two
      obtain ⟨z0, z1, z2⟩ := N2.two
      have e1 : ¬ w.heap.size = w.heap.size + 1 + 1 := by omega
      have e2 : ¬ w.heap.size + 1 + 1 = w.heap.size := by omega
      go_wp2_with fail
      refine (l2Live_any _ _ _ _ G F a g _ (Row.ints U1).1 (Row.ints U2).1 l1 l2).mono ?_
      rintro e w3 ⟨rfl, hb3⟩
      rw [hlv]
      have L3 := bl_trans L2 hb3
      have M0 := N0.later hb3
      have M1 := N1.later hb3
      have M2 := N2.later hb3
      have T1 := U1.later hb3
      have T2 := U2.later hb3
      clear N0 N1 N2 U1 U2 L2 hb3 x0 x1 x2 y0 y1 y2 z0 z1 z2
      obtain ⟨x0, x1, x2⟩ := M0.two
      obtain ⟨y0, y1, y2⟩ := M1.two
      obtain ⟨z0, z1, z2⟩ := M2.two
      obtain ⟨q, rfl, hq, n1, n2⟩ := l2B_parts hlv hk
      go_wp2_with fail
      refine (l2Give_any w.heap.size g0 c0 f0 d0 G F q g _ T1 T2 hne hq n1 n2 l1 l2 L3.size).mono ?_
      rintro e w4 ⟨f1, d1, rfl, R1, R2, hne1, hf4⟩
      have P2 := M2.fr hf4 (by omega) (by omega)
      have L4 := L3.trans (hf4.below (by omega) (by omega) L3.size)
      have a1 : ¬ g0 = w.heap.size + 1 + 1 := by omega
      have a2 : ¬ f1 = w.heap.size + 1 + 1 := by
        intro e
        have hr := R2
        rcases hr.2 with ⟨h', _⟩ | ⟨g', cap', cur, h', hB, hg, r⟩
        · simp at h'
        · simp only [Value.slice.injEq, Option.some.injEq, Addr.mk.injEq, and_true] at h'
          obtain ⟨rfl, -⟩ := h'
          unfold Blk at P2
          rw [← e, hg] at P2
          simp at P2
      obtain ⟨z0', z1', z2'⟩ := P2.two
      clear x0 x1 x2 y0 y1 y2 z0 z1 z2
      go_wp2_with fail
      refine bodyPost_ret (v := .tuple #[.agg #[.slice (some ⟨g0, 0, none⟩) G.length c0, .slice (some ⟨f1, 0, none⟩) (F.length + 1) d1], .int .i64 0]) (by simp [results, Try.results21, go_sem, z0', z1']) rfl ?_
      rw [hO.out]
      refine ⟨some ⟨g0, 0, none⟩, c0, some ⟨f1, 0, none⟩, d1, by simp, ?_, ?_, apartS hne1, ?_⟩
      · have := (R1.other (n := w.heap.size + 1 + 1) (by simp [Value.ownBlock]; omega) 0 (.slice (some ⟨g0, 0, none⟩) G.length c0)).other (n := w.heap.size + 1 + 1) (by simp [Value.ownBlock]; omega) 1 (.slice (some ⟨f1, 0, none⟩) (F.length + 1) d1)
        simpa using this
      · have := (R2.other (n := w.heap.size + 1 + 1) (by simp [Value.ownBlock]; omega) 0 (.slice (some ⟨g0, 0, none⟩) G.length c0)).other (n := w.heap.size + 1 + 1) (by simp [Value.ownBlock]; omega) 1 (.slice (some ⟨f1, 0, none⟩) (F.length + 1) d1)
        simpa using this
      · exact (L4.setCell (by simp; omega) _).setCell (by simp; omega) _
end Go.Proofs.Ytijgkpkakkjkgab
