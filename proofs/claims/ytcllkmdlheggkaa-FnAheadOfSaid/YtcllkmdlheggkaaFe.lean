import Derived.Test.YtcllkmdlheggkaaFc
namespace Go.Proofs.Ytcllkmdlheggkaa
open Go.RowKit
set_option linter.unusedVariables false
set_option linter.unusedSimpArgs false

theorem Fr.drew {g f : Nat} {a b : World} (h : Fr g f a b) : Fr g f a b.drew := ⟨h.os, h.tape, h.output, h.size, h.block⟩

set_option maxHeartbeats 4000000 in
theorem l2Take_full (g0 c0 f0 d0 : Nat) (G : List Int) (w : World) (hG : 2000 ≤ G.length) (l1 : G.length ≤ 1048576) :
    Calls Try.prog 37 #[.agg #[.slice (some ⟨g0, 0, none⟩) G.length c0, .slice (some ⟨f0, 0, none⟩) 0 d0]] w fun e w' => e = .returned (.tuple #[.agg #[.slice (some ⟨g0, 0, none⟩) G.length c0, .slice (some ⟨f0, 0, none⟩) 0 d0], .agg #[.int .i64 0, .int .i64 0], .int .i64 3]) ∧ Below w.heap.size w w' := by
  have hal := alloc_old
  have haf := alloc_oldf
  obtain ⟨k0, k1, k2⟩ := blk3 w #[.slice (some ⟨g0, 0, none⟩) G.length c0, .slice (some ⟨f0, 0, none⟩) 0 d0] #[.slice none 0 0, .slice none 0 0] #[.int .i64 0, .int .i64 0] 26 26 29
  obtain ⟨x0, x1, x2⟩ := k0.two
  obtain ⟨y0, y1, y2⟩ := k1.two
  obtain ⟨z0, z1, z2⟩ := k2.two
  have t1 : (2000 : Int) ≤ (G.length : Int) := by omega
  go_enter Try.func37, Try.ntmps37
  go_wp2_with fail
  refine bodyPost_ret (v := .tuple #[.agg #[.slice (some ⟨g0, 0, none⟩) G.length c0, .slice (some ⟨f0, 0, none⟩) 0 d0], .agg #[.int .i64 0, .int .i64 0], .int .i64 3]) (by simp [results, Try.results37, go_sem, y0, y1, z0, z1]) rfl ⟨rfl, ?_⟩
  (repeat (first | with_reducible exact Below.refl _ _ | with_reducible refine bl_alloc ?_ _ | with_reducible refine bl_drewN ?_ _ | with_reducible refine bl_drew ?_ | with_reducible refine bl_setCell ?_ (by first | exact Nat.le_refl _ | (dsimp only; omega) | (simp <;> omega)) _ | with_reducible refine bl_trans ?_ (by with_reducible assumption)))

set_option maxHeartbeats 4000000 in
theorem l2Take_grow (B g0 c0 f0 d0 : Nat) (G : List Int) (w : World) (h1 : VRow w B (.slice (some ⟨g0, 0, none⟩) G.length c0) G) (hne : ¬ g0 = f0) (hf : f0 < w.heap.size) (hG : G.length < 2000) (hB : B ≤ w.heap.size) :
    Calls Try.prog 37 #[.agg #[.slice (some ⟨g0, 0, none⟩) G.length c0, .slice (some ⟨f0, 0, none⟩) 0 d0]] w fun e w' => ∃ g1 c1, e = .returned (.tuple #[.agg #[.slice (some ⟨g1, 0, none⟩) (G.length + 1) c1, .slice (some ⟨f0, 0, none⟩) 0 d0], .agg #[.int .i64 (G.length : Int), .int .i64 0], .int .i64 0]) ∧
      VRow w' B (.slice (some ⟨g1, 0, none⟩) (G.length + 1) c1) (G ++ [0]) ∧ ¬ g1 = f0 ∧ Fr g0 g0 w w' := by
  have hal := alloc_old
  have haf := alloc_oldf
  obtain ⟨k0, k1, k2⟩ := blk3 w #[.slice (some ⟨g0, 0, none⟩) G.length c0, .slice (some ⟨f0, 0, none⟩) 0 d0] #[.slice none 0 0, .slice none 0 0] #[.int .i64 0, .int .i64 0] 26 26 29
  have eg := h1.ge
  obtain ⟨x0, x1, x2⟩ := k0.two
  have t1 : ¬ (2000 : Int) ≤ (G.length : Int) := by omega
  have hL0 : Fr g0 g0 w (((w.alloc (.cells #[.slice (some ⟨g0, 0, none⟩) G.length c0, .slice (some ⟨f0, 0, none⟩) 0 d0] 26)).alloc (.cells #[.slice none 0 0, .slice none 0 0] 26)).alloc (.cells #[.int .i64 0, .int .i64 0] 29)) := ((Fr.refl g0 g0 w).alloc _ |>.alloc _).alloc _
  have V1 := h1.later (show Below w.heap.size w (((w.alloc (.cells #[.slice (some ⟨g0, 0, none⟩) G.length c0, .slice (some ⟨f0, 0, none⟩) 0 d0] 26)).alloc (.cells #[.slice none 0 0, .slice none 0 0] 26)).alloc (.cells #[.int .i64 0, .int .i64 0] 29)) by (repeat (first | with_reducible exact Below.refl _ _ | with_reducible refine bl_alloc ?_ _ | with_reducible refine bl_drewN ?_ _ | with_reducible refine bl_drew ?_ | with_reducible refine bl_setCell ?_ (by first | exact Nat.le_refl _ | (dsimp only; omega) | (simp <;> omega)) _ | with_reducible refine bl_trans ?_ (by with_reducible assumption))))
  have sX0 : (((w.alloc (.cells #[.slice (some ⟨g0, 0, none⟩) G.length c0, .slice (some ⟨f0, 0, none⟩) 0 d0] 26)).alloc (.cells #[.slice none 0 0, .slice none 0 0] 26)).alloc (.cells #[.int .i64 0, .int .i64 0] 29)).heap.size = w.heap.size + 3 := by simp
  go_enter Try.func37, Try.ntmps37
  go_upto_region 8 with fail
  generalize hX : (((w.alloc (.cells #[.slice (some ⟨g0, 0, none⟩) G.length c0, .slice (some ⟨f0, 0, none⟩) 0 d0] 26)).alloc (.cells #[.slice none 0 0, .slice none 0 0] 26)).alloc (.cells #[.int .i64 0, .int .i64 0] 29)) = X at k0 k1 k2 hL0 V1 x0 x1 x2 sX0 ⊢
  have sX : Hid (X.heap.size = w.heap.size + 3) := sX0
  clear hX sX0
  have hz := (Blk.new X #[.int .i64 0] 3).cell 0
  have V1a := V1.alloc' (.cells #[.int .i64 0] 3)
  go_wp2_with (at_builtin; refine wpList_append_one _ rfl (.tmp 41) (.tmp 42) rfl B (.slice (some ⟨g0, 0, none⟩) G.length c0) G rfl V1a X.heap.size 0 rfl hz (by omega) ?_)
  intro g1 c1 w5 hv5 hg5 ho5 hl5
  have sx := sX.out
  have hg5' : (X.alloc (.cells #[.int .i64 0] 3)).grownBy w5 (some g0) := hg5
  have ho5' : g0 = g1 ∨ X.heap.size + 1 ≤ g1 := by
    rcases ho5 with h | h
    · left; simpa [Value.ownBlock] using h
    · right; simpa using h
  have K0 := (k0.alloc (.cells #[.int .i64 0] 3)).kept' hg5' (by simp; omega)
  have K1 := (k1.alloc (.cells #[.int .i64 0] 3)).kept' hg5' (by simp; omega)
  have K2 := (k2.alloc (.cells #[.int .i64 0] 3)).kept' hg5' (by simp; omega)
  have L5 : Fr g0 g0 w w5 := (hL0.alloc (.cells #[.int .i64 0] 3)).grown hg5'
  have hg1 : ¬ g1 = f0 ∧ B ≤ g1 ∧ ¬ g1 = w.heap.size ∧ ¬ g1 = w.heap.size + 1 ∧ ¬ g1 = w.heap.size + 1 + 1 := by omega
  clear x0 x1 x2 k0 k1 k2 V1 V1a hL0 hz hg5 hg5' ho5 ho5' sx hl5
  obtain ⟨x0, x1, x2⟩ := K0.two
  have N0 := K0.set 0 (.slice (some ⟨g1, 0, none⟩) (G.length + 1) c1)
  have N1 := K1.other (m := w.heap.size) (by omega) 0 (.slice (some ⟨g1, 0, none⟩) (G.length + 1) c1)
  have N2 := K2.other (m := w.heap.size) (by omega) 0 (.slice (some ⟨g1, 0, none⟩) (G.length + 1) c1)
  have W1 := (hv5.raise (B' := B) hg1.2.1).other (n := w.heap.size) (by simp [Value.ownBlock]; omega) 0 (.slice (some ⟨g1, 0, none⟩) (G.length + 1) c1)
  have LY := L5.setCell (n := w.heap.size) (by omega) 0 (.slice (some ⟨g1, 0, none⟩) (G.length + 1) c1)
  go_wp2_with fail
  generalize hY : w5.setCell ⟨w.heap.size, 0, none⟩ (.slice (some ⟨g1, 0, none⟩) (G.length + 1) c1) = Y at N0 N1 N2 W1 LY ⊢
  clear hY x0 x1 x2 K0 K1 K2 hv5 L5
  have N0 : Blk Y w.heap.size #[.slice (some ⟨g1, 0, none⟩) (G.length + 1) c1, .slice (some ⟨f0, 0, none⟩) 0 d0] 26 := N0
  obtain ⟨x0, x1, x2⟩ := N0.two
  obtain ⟨y0, y1, y2⟩ := N1.two
  obtain ⟨z0, z1, z2⟩ := N2.two
  have e7 : ¬ w.heap.size + 1 = w.heap.size + 1 + 1 := by omega
  have tw : IntKind.i64.wrap ((G.length : Int) + 1 - 1) = (G.length : Int) := by rw [IntKind.wrap_i64]; omega
  have tw2 : IntKind.i64.wrap (((G.length + 1 : Nat) : Int) - 1) = (G.length : Int) := by rw [IntKind.wrap_i64]; omega
  go_region
  go_wp2_with fail
  refine bodyPost_ret (v := .tuple #[.agg #[.slice (some ⟨g1, 0, none⟩) (G.length + 1) c1, .slice (some ⟨f0, 0, none⟩) 0 d0], .agg #[.int .i64 (G.length : Int), .int .i64 0], .int .i64 0]) (by simp [results, Try.results37, go_sem, y0, y1, z0, z1, tw, tw2]) rfl ⟨g1, c1, rfl, ?_, hg1.1, ?_⟩
  · exact (((W1.other (by simp [Value.ownBlock]; omega) _ _).other (by simp [Value.ownBlock]; omega) _ _).other (by simp [Value.ownBlock]; omega) _ _).other (by simp [Value.ownBlock]; omega) _ _
  · exact Fr.drew ((((LY.setCell (by omega) _ _).setCell (by omega) _ _).setCell (by omega) _ _).setCell (by omega) _ _)
end Go.Proofs.Ytcllkmdlheggkaa
