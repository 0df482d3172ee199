import Derived.Test.YtcllkmdlheggkaaFd
import Derived.Test.YtcllkmdlheggkaaFe
namespace Go.Proofs.Ytcllkmdlheggkaa
open Go.RowKit
set_option linter.unusedVariables false
set_option linter.unusedSimpArgs false

/-- what a call that takes a thing leaves. -/
def Takes (O : List Int × List Int × (Int × Int) × Int) (w : World) (e : Ending) (w' : World) : Prop :=
  ∃ s c t d, e = .returned (.tuple #[.agg #[.slice s O.1.length c, .slice t O.2.1.length d], .agg #[.int .i64 O.2.2.1.1, .int .i64 O.2.2.1.2], .int .i64 O.2.2.2]) ∧ VRow w' w.heap.size (.slice s O.1.length c) O.1 ∧ VRow w' w.heap.size (.slice t O.2.1.length d) O.2.1 ∧ Apart (.slice s O.1.length c) (.slice t O.2.1.length d) ∧ Below w.heap.size w w'

theorem last_in {G F : List Int} (h : okE G F = true) (hF : 0 < F.length) : ∃ q : Nat, F.getLastD 0 = (q : Int) ∧ q < G.length := by
  simp only [okE, decide_eq_true_eq] at h
  have := h.2.2.1 (F.getLastD 0) (by rw [← last_eq hF]; exact getD_mem (by omega))
  exact ⟨(F.getLastD 0).toNat, by omega, by omega⟩

theorem VRow.apartB {w : World} {B : Nat} {v : Value} {L : List Int} (h : VRow w B v L) {m : Nat} {c : Array Value} {t : TypeId} (hb : Blk w m c t) (ht : ¬ t = 3) : ¬ v.ownBlock = some m := by
  rcases h.2 with ⟨rfl, _⟩ | ⟨g, cap, cur, rfl, _, hg, _⟩
  · simp [Value.ownBlock]
  · simp only [Value.ownBlock, Option.some.injEq]
    intro e
    subst e
    unfold Blk at hb
    rw [hg] at hb
    simp at hb
    exact ht hb.2.symm

set_option maxHeartbeats 4000000 in
theorem specTake_some (p1 q1 c1 p2 q2 c2 : Nat) (G F : List Int) (w : World) (h1 : Ints w (some ⟨p1, q1, none⟩) G) (h2 : Ints w (some ⟨p2, q2, none⟩) F) (l1 : G.length ≤ 1048576) (l2 : F.length ≤ 1048576) (hc : okE G F = false ∨ 0 < F.length) :
    Calls Try.prog 10 #[.agg #[.slice (some ⟨p1, q1, none⟩) G.length c1, .slice (some ⟨p2, q2, none⟩) F.length c2]] w fun e w' => Takes (takeB G F) w e w' := by
  have hal := alloc_old
  have haf := alloc_oldf
  obtain ⟨k0, k1, k2⟩ := blk3 w #[.slice (some ⟨p1, q1, none⟩) G.length c1, .slice (some ⟨p2, q2, none⟩) F.length c2] #[.slice none 0 0, .slice none 0 0] #[.int .i64 0, .int .i64 0] 26 26 29
  cases hk : okE G F
  · have hO : Hid (takeB G F = (G, F, (0, 0), 1)) := by simp [Hid, takeB, hk]
    go_enter Try.func10, Try.ntmps10
    go_wp2_with fail
    refine (l2Copy_any p1 q1 c1 p2 q2 c2 G F _ (h1.later (by (repeat (first | with_reducible exact Below.refl _ _ | with_reducible refine bl_alloc ?_ _ | with_reducible refine bl_drewN ?_ _ | with_reducible refine bl_drew ?_ | with_reducible refine bl_setCell ?_ (by first | exact Nat.le_refl _ | (dsimp only; omega) | (simp <;> omega)) _ | with_reducible refine bl_trans ?_ (by with_reducible assumption))))) (h2.later (by (repeat (first | with_reducible exact Below.refl _ _ | with_reducible refine bl_alloc ?_ _ | with_reducible refine bl_drewN ?_ _ | with_reducible refine bl_drew ?_ | with_reducible refine bl_setCell ?_ (by first | exact Nat.le_refl _ | (dsimp only; omega) | (simp <;> omega)) _ | with_reducible refine bl_trans ?_ (by with_reducible assumption))))) l1 l2).mono ?_
    rintro e w1 ⟨g0, c0, f0, d0, rfl, v1, v2, hne, hb1⟩
    have eg := v1.ge
    have ef := v2.ge
    simp only [World.size_alloc] at eg ef
    have L1 : Below w.heap.size w w1 := by (repeat (first | with_reducible exact Below.refl _ _ | with_reducible refine bl_alloc ?_ _ | with_reducible refine bl_drewN ?_ _ | with_reducible refine bl_drew ?_ | with_reducible refine bl_setCell ?_ (by first | exact Nat.le_refl _ | (dsimp only; omega) | (simp <;> omega)) _ | with_reducible refine bl_trans ?_ (by with_reducible assumption)))
    have K0 := ((k0.later hb1).set 0 (.slice (some ⟨g0, 0, none⟩) G.length c0)).set 1 (.slice (some ⟨f0, 0, none⟩) F.length d0)
    have K1 := ((k1.later hb1).other (m := w.heap.size) (by omega) 0 (.slice (some ⟨g0, 0, none⟩) G.length c0)).other (m := w.heap.size) (by omega) 1 (.slice (some ⟨f0, 0, none⟩) F.length d0)
    have K2 := ((k2.later hb1).other (m := w.heap.size) (by omega) 0 (.slice (some ⟨g0, 0, none⟩) G.length c0)).other (m := w.heap.size) (by omega) 1 (.slice (some ⟨f0, 0, none⟩) F.length d0)
    have V1 := ((v1.mono (B' := w.heap.size) (by simp; omega)).other (n := w.heap.size) (by simp [Value.ownBlock]; omega) 0 (.slice (some ⟨g0, 0, none⟩) G.length c0)).other (n := w.heap.size) (by simp [Value.ownBlock]; omega) 1 (.slice (some ⟨f0, 0, none⟩) F.length d0)
    have V2 := ((v2.mono (B' := w.heap.size) (by simp; omega)).other (n := w.heap.size) (by simp [Value.ownBlock]; omega) 0 (.slice (some ⟨g0, 0, none⟩) G.length c0)).other (n := w.heap.size) (by simp [Value.ownBlock]; omega) 1 (.slice (some ⟨f0, 0, none⟩) F.length d0)
    have LX : Below w.heap.size w ((w1.setCell ⟨w.heap.size, 0, none⟩ (.slice (some ⟨g0, 0, none⟩) G.length c0)).setCell ⟨w.heap.size, 1, none⟩ (.slice (some ⟨f0, 0, none⟩) F.length d0)) := (L1.setCell (Nat.le_refl _) _).setCell (Nat.le_refl _) _
    obtain ⟨x0, x1, x2⟩ := (k0.later hb1).two
    go_wp2_with fail
    generalize hX : ((w1.setCell ⟨w.heap.size, 0, none⟩ (.slice (some ⟨g0, 0, none⟩) G.length c0)).setCell ⟨w.heap.size, 1, none⟩ (.slice (some ⟨f0, 0, none⟩) F.length d0)) = X at K0 K1 K2 V1 V2 LX ⊢
    clear hX x0 x1 x2 L1 hb1 v1 v2 k0 k1 k2
    have K0 : Blk X w.heap.size #[.slice (some ⟨g0, 0, none⟩) G.length c0, .slice (some ⟨f0, 0, none⟩) F.length d0] 26 := K0
    refine (specEntsOk_any _ _ _ _ G F _ (Row.ints V1).1 (Row.ints V2).1).mono ?_
    rintro e w2 ⟨rfl, hb2⟩
    rw [hk]
    have L2 := bl_trans LX hb2
    have N0 := K0.later hb2
    have N1 := K1.later hb2
    have N2 := K2.later hb2
    have U1 := V1.later hb2
    have U2 := V2.later hb2
    have s2 : w.heap.size + 3 ≤ w2.heap.size := by have := N2.lt; omega
    clear K0 K1 K2 V1 V2 LX hb2
    obtain ⟨x0, x1, x2⟩ := N0.two
    obtain ⟨y0, y1, y2⟩ := N1.two
    obtain ⟨z0, z1, z2⟩ := N2.two
    have e1 : ¬ w.heap.size = w.heap.size + 1 := by omega
    have e2 : ¬ w.heap.size + 1 = w.heap.size + 1 + 1 := by omega
    have e3 : ¬ w.heap.size = w.heap.size + 1 + 1 := by omega
    go_wp2_with fail
    refine bodyPost_ret (v := .tuple #[.agg #[.slice (some ⟨g0, 0, none⟩) G.length c0, .slice (some ⟨f0, 0, none⟩) F.length d0], .agg #[.int .i64 0, .int .i64 0], .int .i64 1]) (by simp [results, Try.results10, go_sem, y0, y1, z0, z1]) rfl ?_
    rw [hO.out]
    refine ⟨_, _, _, _, rfl, ?_, ?_, apartS hne, ?_⟩
    · exact (((U1.other (by simp [Value.ownBlock]; omega) _ _).other (by simp [Value.ownBlock]; omega) _ _).other (by simp [Value.ownBlock]; omega) _ _).other (by simp [Value.ownBlock]; omega) _ _
    · exact (((U2.other (by simp [Value.ownBlock]; omega) _ _).other (by simp [Value.ownBlock]; omega) _ _).other (by simp [Value.ownBlock]; omega) _ _).other (by simp [Value.ownBlock]; omega) _ _
    · (repeat (first | with_reducible exact Below.refl _ _ | with_reducible refine bl_alloc ?_ _ | with_reducible refine bl_drewN ?_ _ | with_reducible refine bl_drew ?_ | with_reducible refine bl_setCell ?_ (by first | exact Nat.le_refl _ | (dsimp only; omega) | (simp <;> omega)) _ | with_reducible refine bl_trans ?_ (by with_reducible assumption)))
  · by_cases hF : 0 < F.length
    · obtain ⟨q, hq1, hq2⟩ := last_in hk hF
      obtain ⟨x, hx⟩ : ∃ x, G[q]?.getD 0 = x := ⟨_, rfl⟩
      have hO : Hid (takeB G F = (G, F.dropLast, ((q : Int), x), 0)) := by
        simp only [Hid, takeB, hk, if_true, if_pos hF, hq1, ← hx]
        simp
      have HX : Hid (G[q]?.getD 0 = x) := hx
      clear hx
      go_enter Try.func10, Try.ntmps10
      go_wp2_with fail
      refine (l2Copy_any p1 q1 c1 p2 q2 c2 G F _ (h1.later (by (repeat (first | with_reducible exact Below.refl _ _ | with_reducible refine bl_alloc ?_ _ | with_reducible refine bl_drewN ?_ _ | with_reducible refine bl_drew ?_ | with_reducible refine bl_setCell ?_ (by first | exact Nat.le_refl _ | (dsimp only; omega) | (simp <;> omega)) _ | with_reducible refine bl_trans ?_ (by with_reducible assumption))))) (h2.later (by (repeat (first | with_reducible exact Below.refl _ _ | with_reducible refine bl_alloc ?_ _ | with_reducible refine bl_drewN ?_ _ | with_reducible refine bl_drew ?_ | with_reducible refine bl_setCell ?_ (by first | exact Nat.le_refl _ | (dsimp only; omega) | (simp <;> omega)) _ | with_reducible refine bl_trans ?_ (by with_reducible assumption))))) l1 l2).mono ?_
      rintro e w1 ⟨g0, c0, f0, d0, rfl, v1, v2, hne, hb1⟩
      have eg := v1.ge
      have ef := v2.ge
      simp only [World.size_alloc] at eg ef
      have L1 : Below w.heap.size w w1 := by (repeat (first | with_reducible exact Below.refl _ _ | with_reducible refine bl_alloc ?_ _ | with_reducible refine bl_drewN ?_ _ | with_reducible refine bl_drew ?_ | with_reducible refine bl_setCell ?_ (by first | exact Nat.le_refl _ | (dsimp only; omega) | (simp <;> omega)) _ | with_reducible refine bl_trans ?_ (by with_reducible assumption)))
      have K0 := ((k0.later hb1).set 0 (.slice (some ⟨g0, 0, none⟩) G.length c0)).set 1 (.slice (some ⟨f0, 0, none⟩) F.length d0)
      have K1 := ((k1.later hb1).other (m := w.heap.size) (by omega) 0 (.slice (some ⟨g0, 0, none⟩) G.length c0)).other (m := w.heap.size) (by omega) 1 (.slice (some ⟨f0, 0, none⟩) F.length d0)
      have K2 := ((k2.later hb1).other (m := w.heap.size) (by omega) 0 (.slice (some ⟨g0, 0, none⟩) G.length c0)).other (m := w.heap.size) (by omega) 1 (.slice (some ⟨f0, 0, none⟩) F.length d0)
      have V1 := ((v1.mono (B' := w.heap.size) (by simp; omega)).other (n := w.heap.size) (by simp [Value.ownBlock]; omega) 0 (.slice (some ⟨g0, 0, none⟩) G.length c0)).other (n := w.heap.size) (by simp [Value.ownBlock]; omega) 1 (.slice (some ⟨f0, 0, none⟩) F.length d0)
      have V2 := ((v2.mono (B' := w.heap.size) (by simp; omega)).other (n := w.heap.size) (by simp [Value.ownBlock]; omega) 0 (.slice (some ⟨g0, 0, none⟩) G.length c0)).other (n := w.heap.size) (by simp [Value.ownBlock]; omega) 1 (.slice (some ⟨f0, 0, none⟩) F.length d0)
      have LX : Below w.heap.size w ((w1.setCell ⟨w.heap.size, 0, none⟩ (.slice (some ⟨g0, 0, none⟩) G.length c0)).setCell ⟨w.heap.size, 1, none⟩ (.slice (some ⟨f0, 0, none⟩) F.length d0)) := (L1.setCell (Nat.le_refl _) _).setCell (Nat.le_refl _) _
      obtain ⟨x0, x1, x2⟩ := (k0.later hb1).two
      go_wp2_with fail
      generalize hX : ((w1.setCell ⟨w.heap.size, 0, none⟩ (.slice (some ⟨g0, 0, none⟩) G.length c0)).setCell ⟨w.heap.size, 1, none⟩ (.slice (some ⟨f0, 0, none⟩) F.length d0)) = X at K0 K1 K2 V1 V2 LX ⊢
      clear hX x0 x1 x2 L1 hb1 v1 v2 k0 k1 k2
      have K0 : Blk X w.heap.size #[.slice (some ⟨g0, 0, none⟩) G.length c0, .slice (some ⟨f0, 0, none⟩) F.length d0] 26 := K0
      refine (specEntsOk_any _ _ _ _ G F _ (Row.ints V1).1 (Row.ints V2).1).mono ?_
      rintro e w2 ⟨rfl, hb2⟩
      rw [hk]
      have L2 := bl_trans LX hb2
      have N0 := K0.later hb2
      have N1 := K1.later hb2
      have N2 := K2.later hb2
      have U1 := V1.later hb2
      have U2 := V2.later hb2
      have s2 : w.heap.size + 3 ≤ w2.heap.size := by have := N2.lt; omega
      clear K0 K1 K2 V1 V2 LX hb2
      obtain ⟨x0, x1, x2⟩ := N0.two
      obtain ⟨y0, y1, y2⟩ := N1.two
      obtain ⟨z0, z1, z2⟩ := N2.two
      have e1 : ¬ w.heap.size = w.heap.size + 1 := by omega
      have e2 : ¬ w.heap.size + 1 = w.heap.size + 1 + 1 := by omega
      have e3 : ¬ w.heap.size = w.heap.size + 1 + 1 := by omega
      go_wp2_with fail
      refine (l2Take_free w.heap.size g0 c0 f0 d0 G F q x _ U1 U2 hne hF hq1 hq2 HX.out l1 l2 L2.size).mono ?_
      rintro e w3 ⟨f1, d1, rfl, T2, hne1, hb3⟩
      have P1 := N1.later hb3
      have P2 := N2.later hb3
      have T1 := U1.later hb3
      have L3 := bl_trans L2 hb3
      have b1 : ¬ f1 = w.heap.size + 1 := fun e => (T2.apartB P1 (by decide)) (by simp [Value.ownBlock, e])
      have b2 : ¬ f1 = w.heap.size + 1 + 1 := fun e => (T2.apartB P2 (by decide)) (by simp [Value.ownBlock, e])
      clear x0 x1 x2 y0 y1 y2 z0 z1 z2
      obtain ⟨y0, y1, y2⟩ := P1.two
      obtain ⟨z0, z1, z2⟩ := P2.two
      go_wp2_with fail
      refine bodyPost_ret (v := .tuple #[.agg #[.slice (some ⟨g0, 0, none⟩) G.length c0, .slice (some ⟨f1, 0, none⟩) F.dropLast.length d1], .agg #[.int .i64 (q : Int), .int .i64 x], .int .i64 0]) (by simp [results, Try.results10, go_sem, y0, y1, z0, z1]) rfl ?_
      rw [hO.out]
      refine ⟨_, _, _, _, rfl, ?_, ?_, apartS hne1, ?_⟩
      · exact ((((T1).other (by simp [Value.ownBlock]; omega) _ _).other (by simp [Value.ownBlock]; omega) _ _).other (by simp [Value.ownBlock]; omega) _ _).other (by simp [Value.ownBlock]; omega) _ _
      · exact ((((T2).other (by simp [Value.ownBlock]; omega) _ _).other (by simp [Value.ownBlock]; omega) _ _).other (by simp [Value.ownBlock]; omega) _ _).other (by simp [Value.ownBlock]; omega) _ _
      · exact (((L3.setCell (by simp <;> omega) _).setCell (by simp <;> omega) _).setCell (by simp <;> omega) _).setCell (by simp <;> omega) _
    · rcases hc with h | h
      · rw [hk] at h; cases h
      · exact absurd h hF
end Go.Proofs.Ytcllkmdlheggkaa
