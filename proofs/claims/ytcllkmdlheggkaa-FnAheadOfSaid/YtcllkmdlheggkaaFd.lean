import Derived.Test.YtcllkmdlheggkaaFc
namespace Go.Proofs.Ytcllkmdlheggkaa
open Go.RowKit
set_option linter.unusedVariables false
set_option linter.unusedSimpArgs false

set_option maxHeartbeats 4000000 in
theorem l2Take_free (B g0 c0 f0 d0 : Nat) (G F : List Int) (q : Nat) (x : Int) (w : World) (h1 : VRow w B (.slice (some ⟨g0, 0, none⟩) G.length c0) G) (h2 : VRow w B (.slice (some ⟨f0, 0, none⟩) F.length d0) F) (hne : ¬ g0 = f0)
    (hF : 0 < F.length) (hlast : F.getLastD 0 = (q : Int)) (hq : q < G.length) (hx : G[q]?.getD 0 = x) (l1 : G.length ≤ 1048576) (l2 : F.length ≤ 1048576) (hB : B ≤ w.heap.size) :
    Calls Try.prog 37 #[.agg #[.slice (some ⟨g0, 0, none⟩) G.length c0, .slice (some ⟨f0, 0, none⟩) F.length d0]] w fun e w' => ∃ f1 d1, e = .returned (.tuple #[.agg #[.slice (some ⟨g0, 0, none⟩) G.length c0, .slice (some ⟨f1, 0, none⟩) F.dropLast.length d1], .agg #[.int .i64 (q : Int), .int .i64 x], .int .i64 0]) ∧
      VRow w' B (.slice (some ⟨f1, 0, none⟩) F.dropLast.length d1) F.dropLast ∧ ¬ g0 = f1 ∧ Below w.heap.size w w' := by
  obtain ⟨D, hD0⟩ : ∃ D, F.dropLast = D := ⟨_, rfl⟩
  rw [hD0]
  have hD : Hid (F.dropLast = D) := hD0
  clear hD0
  have hal := alloc_old
  have haf := alloc_oldf
  obtain ⟨k0, k1, k2⟩ := blk3 w #[.slice (some ⟨g0, 0, none⟩) G.length c0, .slice (some ⟨f0, 0, none⟩) F.length d0] #[.slice none 0 0, .slice none 0 0] #[.int .i64 0, .int .i64 0] 26 26 29
  have eg := h1.ge
  have ef := h2.ge
  have hL0 : Below w.heap.size w (((w.alloc (.cells #[.slice (some ⟨g0, 0, none⟩) G.length c0, .slice (some ⟨f0, 0, none⟩) F.length d0] 26)).alloc (.cells #[.slice none 0 0, .slice none 0 0] 26)).alloc (.cells #[.int .i64 0, .int .i64 0] 29)) := by (repeat (first | with_reducible exact Below.refl _ _ | with_reducible refine bl_alloc ?_ _ | with_reducible refine bl_drewN ?_ _ | with_reducible refine bl_drew ?_ | with_reducible refine bl_setCell ?_ (by first | exact Nat.le_refl _ | (dsimp only; omega) | (simp <;> omega)) _ | with_reducible refine bl_trans ?_ (by with_reducible assumption)))
  obtain ⟨x0, x1, x2⟩ := k0.two
  obtain ⟨u1, u2⟩ := (h2.later hL0).cell (q := F.length - 1) (by omega)
  rw [last_eq hF, hlast] at u1
  have t0 : (0 : Int) < (F.length : Int) := by omega
  have t1 : (F.length : Int) - 1 = ((F.length - 1 : Nat) : Int) := by omega
  go_enter Try.func37, Try.ntmps37
  go_upto_region 4 with fail
  have V1 := h1.later hL0
  have V2 := h2.later hL0
  have sX0 : (((w.alloc (.cells #[.slice (some ⟨g0, 0, none⟩) G.length c0, .slice (some ⟨f0, 0, none⟩) F.length d0] 26)).alloc (.cells #[.slice none 0 0, .slice none 0 0] 26)).alloc (.cells #[.int .i64 0, .int .i64 0] 29)).heap.size = w.heap.size + 3 := by simp
  generalize hX : (((w.alloc (.cells #[.slice (some ⟨g0, 0, none⟩) G.length c0, .slice (some ⟨f0, 0, none⟩) F.length d0] 26)).alloc (.cells #[.slice none 0 0, .slice none 0 0] 26)).alloc (.cells #[.int .i64 0, .int .i64 0] 29)) = X at k0 k1 k2 hL0 V1 V2 x0 x1 x2 u1 u2 sX0 ⊢
  have sX : Hid (X.heap.size = w.heap.size + 3) := sX0
  clear hX sX0 u1 u2
  have hm : Hid (F.length - 1 = D.length) := by show _ = _; rw [← hD.out]; simp
  have hi : Ints X (some ⟨f0, 0, none⟩) D := by
    have := (Row.ints V2).1
    rcases this with h | ⟨pb, po, he, hp, hc⟩
    · rw [h] at hF; simp at hF
    · right
      refine ⟨pb, po, he, hp, fun j hj => ?_⟩
      have hj' : j < F.length - 1 := by rw [hm.out]; exact hj
      have hj2 : j < F.length := by omega
      rw [hc j (by omega), ← hD.out, ← take_eq]
      simp [hj', hj2]
  have hcap0 : F.length ≤ d0 := by
    rcases h2.form with ⟨h, _⟩ | ⟨g', cap', h, hc, _⟩
    · simp at h
    · simp only [Value.slice.injEq] at h; omega
  have hcap : ((F.length - 1 : Nat) : Int) ≤ (d0 : Int) := by omega
  have nb := Blk.new X #[] 3
  have hiA := hi.alloc (.cells #[] 3)
  have dl : D.length ≤ 1048576 := by rw [← hm.out]; omega
  go_wp2_with (at_builtin; refine wpList_append_new _ rfl (.tmp 18) (.tmp 23) rfl X.heap.size rfl nb f0 0 d0 D (by rw [← hm.out]; rfl) hiA dl ?_)
  intro f1 d1 w5 hv5 hg5 ho5 hl5
  have sx := sX.out
  have K0 := (k0.alloc (.cells #[] 3)).kept' hg5 (by simp; omega)
  have K1 := (k1.alloc (.cells #[] 3)).kept' hg5 (by simp; omega)
  have K2 := (k2.alloc (.cells #[] 3)).kept' hg5 (by simp; omega)
  have V15 := (V1.alloc (.cells #[] 3)).keptS hg5 (by omega)
  have L5 : Below w.heap.size w w5 := (bl_alloc hL0 (.cells #[] 3)).grown hg5 (by simp; omega) (fun k h => by simp at h; omega)
  have f1a : w.heap.size + 3 ≤ f1 := by (try simp at ho5); omega
  clear x0 x1 x2 k0 k1 k2 V1 V2 hL0 hi nb hiA hg5 ho5 sx hl5
  obtain ⟨x0, x1, x2⟩ := K0.two
  obtain ⟨y0, y1, y2⟩ := K1.two
  obtain ⟨z0, z1, z2⟩ := K2.two
  obtain ⟨u1, u2⟩ := V15.cell hq
  rw [hx] at u1
  have hqI : (q : Int) < (G.length : Int) := by omega
  have e1 : ¬ w.heap.size = g0 := by omega
  have e4 : ¬ g0 = w.heap.size := by omega
  go_wp2_with fail
  have N0 := K0.set 1 (.slice (some ⟨f1, 0, none⟩) D.length d1)
  have N1 := K1.other (m := w.heap.size) (by omega) 1 (.slice (some ⟨f1, 0, none⟩) D.length d1)
  have N2 := K2.other (m := w.heap.size) (by omega) 1 (.slice (some ⟨f1, 0, none⟩) D.length d1)
  have W1 := V15.other (n := w.heap.size) (by simp [Value.ownBlock]; omega) 1 (.slice (some ⟨f1, 0, none⟩) D.length d1)
  have W2 := hv5.other (n := w.heap.size) (by simp [Value.ownBlock]; omega) 1 (.slice (some ⟨f1, 0, none⟩) D.length d1)
  have LY := L5.setCell (p := ⟨w.heap.size, 1, none⟩) (Nat.le_refl _) (.slice (some ⟨f1, 0, none⟩) D.length d1)
  generalize hY : w5.setCell ⟨w.heap.size, 1, none⟩ (.slice (some ⟨f1, 0, none⟩) D.length d1) = Y at N0 N1 N2 W1 W2 LY ⊢
  clear hY x0 x1 x2 y0 y1 y2 z0 z1 z2 u1 u2 K0 K1 K2 V15 hv5 L5
  have N0 : Blk Y w.heap.size #[.slice (some ⟨g0, 0, none⟩) G.length c0, .slice (some ⟨f1, 0, none⟩) D.length d1] 26 := N0
  obtain ⟨x0, x1, x2⟩ := N0.two
  obtain ⟨y0, y1, y2⟩ := N1.two
  obtain ⟨z0, z1, z2⟩ := N2.two
  obtain ⟨u1, u2⟩ := W1.cell hq
  rw [hx] at u1
  have e5 : ¬ w.heap.size + 1 = g0 := by omega
  have e6 : ¬ w.heap.size + 1 + 1 = g0 := by omega
  have e7 : ¬ w.heap.size + 1 = w.heap.size + 1 + 1 := by omega
  go_region
  go_wp2_with fail
  have W3 := W2.raise (B' := B) (by omega)
  refine bodyPost_ret (v := .tuple #[.agg #[.slice (some ⟨g0, 0, none⟩) G.length c0, .slice (some ⟨f1, 0, none⟩) D.length d1], .agg #[.int .i64 (q : Int), .int .i64 x], .int .i64 0]) (by simp [results, Try.results37, go_sem, y0, y1, z0, z1]) rfl ⟨f1, d1, rfl, ?_, by omega, ?_⟩
  · exact (((W3.other (by simp [Value.ownBlock]; omega) _ _).other (by simp [Value.ownBlock]; omega) _ _).other (by simp [Value.ownBlock]; omega) _ _).other (by simp [Value.ownBlock]; omega) _ _
  · (repeat (first | with_reducible exact Below.refl _ _ | with_reducible refine bl_alloc ?_ _ | with_reducible refine bl_drewN ?_ _ | with_reducible refine bl_drew ?_ | with_reducible refine bl_setCell ?_ (by first | exact Nat.le_refl _ | (dsimp only; omega) | (simp <;> omega)) _ | with_reducible refine bl_trans ?_ (by with_reducible assumption)))
end Go.Proofs.Ytcllkmdlheggkaa
