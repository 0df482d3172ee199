import Derived.Test.YtcllkmdlheggkaaFf
import Derived.Test.YtcllkmdlheggkaaFg
namespace Go.Proofs.Ytcllkmdlheggkaa
open Go.RowKit
set_option linter.unusedVariables false
set_option linter.unusedSimpArgs false

theorem Fr.grown1 {g : Nat} {a b : World} (h : Fr g g a b) : a.grownBy b (some g) := ⟨h.os, h.tape, h.output, h.size, fun k hk hne => h.block k hk (fun e => hne (by rw [e])) (fun e => hne (by rw [e]))⟩

set_option maxHeartbeats 8000000 in
theorem specTake_none (p1 q1 c1 p2 q2 c2 : Nat) (G F : List Int) (w : World) (h1 : Ints w (some ⟨p1, q1, none⟩) G) (h2 : Ints w (some ⟨p2, q2, none⟩) F) (l1 : G.length ≤ 1048576) (l2 : F.length ≤ 1048576) (hk : okE G F = true) (hF : ¬ 0 < F.length) :
    Calls Try.prog 10 #[.agg #[.slice (some ⟨p1, q1, none⟩) G.length c1, .slice (some ⟨p2, q2, none⟩) F.length c2]] w fun e w' => Takes (takeB G F) w e w' := by
  have hal := alloc_old
  have haf := alloc_oldf
  obtain ⟨k0, k1, k2⟩ := blk3 w #[.slice (some ⟨p1, q1, none⟩) G.length c1, .slice (some ⟨p2, q2, none⟩) F.length c2] #[.slice none 0 0, .slice none 0 0] #[.int .i64 0, .int .i64 0] 26 26 29
  by_cases hG : 2000 ≤ G.length
  · have hO : Hid (takeB G F = (G, F, (0, 0), 3)) := by simp only [Hid, takeB, hk, if_true, if_neg hF, if_pos hG]
    go_enter Try.func10, Try.ntmps10
    go_wp2_with fail
    refine (l2Copy_any p1 q1 c1 p2 q2 c2 G F _ (h1.later (by (repeat (first | with_reducible exact Below.refl _ _ | with_reducible refine bl_alloc ?_ _ | with_reducible refine bl_drewN ?_ _ | with_reducible refine bl_drew ?_ | with_reducible refine bl_setCell ?_ (by first | exact Nat.le_refl _ | (dsimp only; omega) | (simp <;> omega)) _ | with_reducible refine bl_trans ?_ (by with_reducible assumption))))) (h2.later (by (repeat (first | with_reducible exact Below.refl _ _ | with_reducible refine bl_alloc ?_ _ | with_reducible refine bl_drewN ?_ _ | with_reducible refine bl_drew ?_ | with_reducible refine bl_setCell ?_ (by first | exact Nat.le_refl _ | (dsimp only; omega) | (simp <;> omega)) _ | with_reducible refine bl_trans ?_ (by with_reducible assumption))))) l1 l2).mono ?_
    rintro e w1 ⟨g0, c0, f0, d0, rfl, v1, v2, hne, hb1⟩
    have eg := v1.ge
    have ef := v2.ge
    simp only [World.size_alloc] at eg ef
    have L1 : Below w.heap.size w w1 := by (repeat (first | with_reducible exact Below.refl _ _ | with_reducible refine bl_alloc ?_ _ | with_reducible refine bl_drewN ?_ _ | with_reducible refine bl_drew ?_ | with_reducible refine bl_setCell ?_ (by first | exact Nat.le_refl _ | (dsimp only; omega) | (simp <;> omega)) _ | with_reducible refine bl_trans ?_ (by with_reducible assumption)))
    have K0 := ((k0.later hb1).set 0 (.slice (some ⟨g0, 0, none⟩) G.length c0)).set 1 (.slice (some ⟨f0, 0, none⟩) F.length d0)
    have K1 := ((k1.later hb1).other (m := w.heap.size) (by omega) 0 (.slice (some ⟨g0, 0, none⟩) G.length c0)).other (m := w.heap.size) (by omega) 1 (.slice (some ⟨f0, 0, none⟩) F.length d0)
    have K2 := ((k2.later hb1).other (m := w.heap.size) (by omega) 0 (.slice (some ⟨g0, 0, none⟩) G.length c0)).other (m := w.heap.size) (by omega) 1 (.slice (some ⟨f0, 0, none⟩) F.length d0)
    have V1 := ((v1.mono (B' := w.heap.size) (by simp; omega)).other (n := w.heap.size) (by simp [Value.ownBlock]; omega) 0 (.slice (some ⟨g0, 0, none⟩) G.length c0)).other (n := w.heap.size) (by simp [Value.ownBlock]; omega) 1 (.slice (some ⟨f0, 0, none⟩) F.length d0)
    have V2 := ((v2.mono (B' := w.heap.size) (by simp; omega)).other (n := w.heap.size) (by simp [Value.ownBlock]; omega) 0 (.slice (some ⟨g0, 0, none⟩) G.length c0)).other (n := w.heap.size) (by simp [Value.ownBlock]; omega) 1 (.slice (some ⟨f0, 0, none⟩) F.length d0)
    have LX : Below w.heap.size w ((w1.setCell ⟨w.heap.size, 0, none⟩ (.slice (some ⟨g0, 0, none⟩) G.length c0)).setCell ⟨w.heap.size, 1, none⟩ (.slice (some ⟨f0, 0, none⟩) F.length d0)) := (L1.setCell (Nat.le_refl _) _).setCell (Nat.le_refl _) _
    obtain ⟨x0, x1, x2⟩ := (k0.later hb1).two
    go_wp2_with fail
    generalize hX : ((w1.setCell ⟨w.heap.size, 0, none⟩ (.slice (some ⟨g0, 0, none⟩) G.length c0)).setCell ⟨w.heap.size, 1, none⟩ (.slice (some ⟨f0, 0, none⟩) F.length d0)) = X at K0 K1 K2 V1 V2 LX ⊢
    clear hX x0 x1 x2 L1 hb1 v1 v2 k0 k1 k2
    have K0 : Blk X w.heap.size #[.slice (some ⟨g0, 0, none⟩) G.length c0, .slice (some ⟨f0, 0, none⟩) F.length d0] 26 := K0
    refine (specEntsOk_any _ _ _ _ G F _ (Row.ints V1).1 (Row.ints V2).1).mono ?_
    rintro e w2 ⟨rfl, hb2⟩
    rw [hk]
    have L2 := bl_trans LX hb2
    have N0 := K0.later hb2
    have N1 := K1.later hb2
    have N2 := K2.later hb2
    have U1 := V1.later hb2
    have U2 := V2.later hb2
    have s2 : w.heap.size + 3 ≤ w2.heap.size := by have := N2.lt; omega
    clear K0 K1 K2 V1 V2 LX hb2
    obtain ⟨x0, x1, x2⟩ := N0.two
    obtain ⟨y0, y1, y2⟩ := N1.two
    obtain ⟨z0, z1, z2⟩ := N2.two
    have e1 : ¬ w.heap.size = w.heap.size + 1 := by omega
    have e2 : ¬ w.heap.size + 1 = w.heap.size + 1 + 1 := by omega
    have e3 : ¬ w.heap.size = w.heap.size + 1 + 1 := by omega
    go_wp2_with fail
    refine (l2Take_full' g0 c0 f0 d0 G F _ hF hG l1).mono ?_
    rintro e w3 ⟨rfl, hb3⟩
    have P1 := N1.later hb3
    have P2 := N2.later hb3
    have T1 := U1.later hb3
    have T2 := U2.later hb3
    have L3 := bl_trans L2 hb3
    clear x0 x1 x2 y0 y1 y2 z0 z1 z2
    obtain ⟨y0, y1, y2⟩ := P1.two
    obtain ⟨z0, z1, z2⟩ := P2.two
    go_wp2_with fail
    refine bodyPost_ret (v := .tuple #[.agg #[.slice (some ⟨g0, 0, none⟩) G.length c0, .slice (some ⟨f0, 0, none⟩) F.length d0], .agg #[.int .i64 0, .int .i64 0], .int .i64 3]) (by simp [results, Try.results10, go_sem, y0, y1, z0, z1]) rfl ?_
    rw [hO.out]
    refine ⟨_, _, _, _, rfl, ?_, ?_, apartS hne, ?_⟩
    · exact ((((T1).other (by simp [Value.ownBlock]; omega) _ _).other (by simp [Value.ownBlock]; omega) _ _).other (by simp [Value.ownBlock]; omega) _ _).other (by simp [Value.ownBlock]; omega) _ _
    · exact ((((T2).other (by simp [Value.ownBlock]; omega) _ _).other (by simp [Value.ownBlock]; omega) _ _).other (by simp [Value.ownBlock]; omega) _ _).other (by simp [Value.ownBlock]; omega) _ _
    · exact (((L3.setCell (by simp <;> omega) _).setCell (by simp <;> omega) _).setCell (by simp <;> omega) _).setCell (by simp <;> omega) _
  · have hO : Hid (takeB G F = (G ++ [0], F, ((G.length : Int), 0), 0)) := by simp only [Hid, takeB, hk, if_true, if_neg hF, if_neg hG]
    go_enter Try.func10, Try.ntmps10
    go_wp2_with fail
    refine (l2Copy_any p1 q1 c1 p2 q2 c2 G F _ (h1.later (by (repeat (first | with_reducible exact Below.refl _ _ | with_reducible refine bl_alloc ?_ _ | with_reducible refine bl_drewN ?_ _ | with_reducible refine bl_drew ?_ | with_reducible refine bl_setCell ?_ (by first | exact Nat.le_refl _ | (dsimp only; omega) | (simp <;> omega)) _ | with_reducible refine bl_trans ?_ (by with_reducible assumption))))) (h2.later (by (repeat (first | with_reducible exact Below.refl _ _ | with_reducible refine bl_alloc ?_ _ | with_reducible refine bl_drewN ?_ _ | with_reducible refine bl_drew ?_ | with_reducible refine bl_setCell ?_ (by first | exact Nat.le_refl _ | (dsimp only; omega) | (simp <;> omega)) _ | with_reducible refine bl_trans ?_ (by with_reducible assumption))))) l1 l2).mono ?_
    rintro e w1 ⟨g0, c0, f0, d0, rfl, v1, v2, hne, hb1⟩
    have eg := v1.ge
    have ef := v2.ge
    simp only [World.size_alloc] at eg ef
    have L1 : Below w.heap.size w w1 := by (repeat (first | with_reducible exact Below.refl _ _ | with_reducible refine bl_alloc ?_ _ | with_reducible refine bl_drewN ?_ _ | with_reducible refine bl_drew ?_ | with_reducible refine bl_setCell ?_ (by first | exact Nat.le_refl _ | (dsimp only; omega) | (simp <;> omega)) _ | with_reducible refine bl_trans ?_ (by with_reducible assumption)))
    have K0 := ((k0.later hb1).set 0 (.slice (some ⟨g0, 0, none⟩) G.length c0)).set 1 (.slice (some ⟨f0, 0, none⟩) F.length d0)
    have K1 := ((k1.later hb1).other (m := w.heap.size) (by omega) 0 (.slice (some ⟨g0, 0, none⟩) G.length c0)).other (m := w.heap.size) (by omega) 1 (.slice (some ⟨f0, 0, none⟩) F.length d0)
    have K2 := ((k2.later hb1).other (m := w.heap.size) (by omega) 0 (.slice (some ⟨g0, 0, none⟩) G.length c0)).other (m := w.heap.size) (by omega) 1 (.slice (some ⟨f0, 0, none⟩) F.length d0)
    have V1 := ((v1.mono (B' := w.heap.size) (by simp; omega)).other (n := w.heap.size) (by simp [Value.ownBlock]; omega) 0 (.slice (some ⟨g0, 0, none⟩) G.length c0)).other (n := w.heap.size) (by simp [Value.ownBlock]; omega) 1 (.slice (some ⟨f0, 0, none⟩) F.length d0)
    have V2 := ((v2.mono (B' := w.heap.size) (by simp; omega)).other (n := w.heap.size) (by simp [Value.ownBlock]; omega) 0 (.slice (some ⟨g0, 0, none⟩) G.length c0)).other (n := w.heap.size) (by simp [Value.ownBlock]; omega) 1 (.slice (some ⟨f0, 0, none⟩) F.length d0)
    have LX : Below w.heap.size w ((w1.setCell ⟨w.heap.size, 0, none⟩ (.slice (some ⟨g0, 0, none⟩) G.length c0)).setCell ⟨w.heap.size, 1, none⟩ (.slice (some ⟨f0, 0, none⟩) F.length d0)) := (L1.setCell (Nat.le_refl _) _).setCell (Nat.le_refl _) _
    obtain ⟨x0, x1, x2⟩ := (k0.later hb1).two
    go_wp2_with fail
    generalize hX : ((w1.setCell ⟨w.heap.size, 0, none⟩ (.slice (some ⟨g0, 0, none⟩) G.length c0)).setCell ⟨w.heap.size, 1, none⟩ (.slice (some ⟨f0, 0, none⟩) F.length d0)) = X at K0 K1 K2 V1 V2 LX ⊢
    clear hX x0 x1 x2 L1 hb1 v1 v2 k0 k1 k2
    have K0 : Blk X w.heap.size #[.slice (some ⟨g0, 0, none⟩) G.length c0, .slice (some ⟨f0, 0, none⟩) F.length d0] 26 := K0
    refine (specEntsOk_any _ _ _ _ G F _ (Row.ints V1).1 (Row.ints V2).1).mono ?_
    rintro e w2 ⟨rfl, hb2⟩
    rw [hk]
    have L2 := bl_trans LX hb2
    have N0 := K0.later hb2
    have N1 := K1.later hb2
    have N2 := K2.later hb2
    have U1 := V1.later hb2
    have U2 := V2.later hb2
    have s2 : w.heap.size + 3 ≤ w2.heap.size := by have := N2.lt; omega
    clear K0 K1 K2 V1 V2 LX hb2
    obtain ⟨x0, x1, x2⟩ := N0.two
    obtain ⟨y0, y1, y2⟩ := N1.two
    obtain ⟨z0, z1, z2⟩ := N2.two
    have e1 : ¬ w.heap.size = w.heap.size + 1 := by omega
    have e2 : ¬ w.heap.size + 1 = w.heap.size + 1 + 1 := by omega
    have e3 : ¬ w.heap.size = w.heap.size + 1 + 1 := by omega
    go_wp2_with fail
    refine (l2Take_grow' w.heap.size g0 c0 f0 d0 G F _ hF U1 hne (by have := U2.lt f0 rfl; omega) (by omega) L2.size).mono ?_
    rintro e w3 ⟨g1, d1, rfl, T1, hne1, hf3⟩
    have P1 := N1.fr hf3 (by omega) (by omega)
    have P2 := N2.fr hf3 (by omega) (by omega)
    have T2 : VRow w3 w.heap.size (.slice (some ⟨f0, 0, none⟩) F.length d0) F := U2.kept hf3.grown1 (fun k hk e => by simp [Value.ownBlock] at hk e; omega)
    have L3 := L2.trans (hf3.below (by omega) (by omega) L2.size)
    have b1 : ¬ g1 = w.heap.size + 1 := fun e => (T1.apartB P1 (by decide)) (by simp [Value.ownBlock, e])
    have b2 : ¬ g1 = w.heap.size + 1 + 1 := fun e => (T1.apartB P2 (by decide)) (by simp [Value.ownBlock, e])
    clear x0 x1 x2 y0 y1 y2 z0 z1 z2
    obtain ⟨y0, y1, y2⟩ := P1.two
    obtain ⟨z0, z1, z2⟩ := P2.two
    go_wp2_with fail
    refine bodyPost_ret (v := .tuple #[.agg #[.slice (some ⟨g1, 0, none⟩) (G.length + 1) d1, .slice (some ⟨f0, 0, none⟩) F.length d0], .agg #[.int .i64 (G.length : Int), .int .i64 0], .int .i64 0]) (by simp [results, Try.results10, go_sem, y0, y1, z0, z1]) rfl ?_
    rw [hO.out]
    refine ⟨some ⟨g1, 0, none⟩, d1, some ⟨f0, 0, none⟩, d0, by simp, ?_, ?_, apartS hne1, ?_⟩
    · have := ((((T1).other (n := w.heap.size + 1) (by simp [Value.ownBlock]; omega) 0 (.slice (some ⟨g1, 0, none⟩) (G.length + 1) d1)).other (n := w.heap.size + 1) (by simp [Value.ownBlock]; omega) 1 (.slice (some ⟨f0, 0, none⟩) F.length d0)).other (n := w.heap.size + 1 + 1) (by simp [Value.ownBlock]; omega) 0 (.int .i64 (G.length : Int))).other (n := w.heap.size + 1 + 1) (by simp [Value.ownBlock]; omega) 1 (.int .i64 0)
      simpa using this
    · exact ((((T2).other (by simp [Value.ownBlock]; omega) _ _).other (by simp [Value.ownBlock]; omega) _ _).other (by simp [Value.ownBlock]; omega) _ _).other (by simp [Value.ownBlock]; omega) _ _
    · exact (((L3.setCell (by simp <;> omega) _).setCell (by simp <;> omega) _).setCell (by simp <;> omega) _).setCell (by simp <;> omega) _

theorem specTake_any (p1 q1 c1 p2 q2 c2 : Nat) (G F : List Int) (w : World) (h1 : Ints w (some ⟨p1, q1, none⟩) G) (h2 : Ints w (some ⟨p2, q2, none⟩) F) (l1 : G.length ≤ 1048576) (l2 : F.length ≤ 1048576) :
    Calls Try.prog 10 #[.agg #[.slice (some ⟨p1, q1, none⟩) G.length c1, .slice (some ⟨p2, q2, none⟩) F.length c2]] w fun e w' => Takes (takeB G F) w e w' := by
  cases hk : okE G F
  · exact specTake_some p1 q1 c1 p2 q2 c2 G F w h1 h2 l1 l2 (Or.inl hk)
  · by_cases hF : 0 < F.length
    · exact specTake_some p1 q1 c1 p2 q2 c2 G F w h1 h2 l1 l2 (Or.inr hF)
    · exact specTake_none p1 q1 c1 p2 q2 c2 G F w h1 h2 l1 l2 hk hF
end Go.Proofs.Ytcllkmdlheggkaa
