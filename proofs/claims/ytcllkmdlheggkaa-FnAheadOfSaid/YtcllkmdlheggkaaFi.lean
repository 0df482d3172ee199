import Derived.Test.YtcllkmdlheggkaaFh
namespace Go.Proofs.Ytcllkmdlheggkaa
open Go.RowKit
set_option linter.unusedVariables false
set_option linter.unusedSimpArgs false

theorem VRow.takeS {w : World} {B f d : Nat} {F : List Int} (h : VRow w B (.slice (some ⟨f, 0, none⟩) F.length d) F) {m : Nat} (hm : m ≤ F.length) : VRow w B (.slice (some ⟨f, 0, none⟩) (F.take m).length d) (F.take m) := by
  have e : (F.take m).length = m := by simp; omega
  rcases h.2 with ⟨h1, _⟩ | ⟨g, cap, cur, h', hb, hg, hc, hx, hs, hr⟩
  · simp at h1
  · simp only [Value.slice.injEq, Option.some.injEq, Addr.mk.injEq, and_true] at h'
    obtain ⟨rfl, -, rfl⟩ := h'
    refine ⟨by simp, Or.inr ⟨f, d, cur, rfl, hb, hg, by omega, hx, hs, ?_⟩⟩
    rw [e, List.map_take, ← hr, List.take_take]
    congr 1
    omega

set_option maxHeartbeats 8000000 in
theorem implTake_few (p1 q1 c1 p2 q2 c2 : Nat) (G F : List Int) (w : World) (h1 : Ints w (some ⟨p1, q1, none⟩) G) (h2 : Ints w (some ⟨p2, q2, none⟩) F) (l1 : G.length ≤ 1048576) (l2 : F.length ≤ 1048576) (hc : okE G F = false ∨ (¬ 0 < F.length ∧ 2000 ≤ G.length)) :
    Calls Try.prog 9 #[.agg #[.slice (some ⟨p1, q1, none⟩) G.length c1, .slice (some ⟨p2, q2, none⟩) F.length c2]] w fun e w' => Takes (takeB G F) w e w' := by
  have hal := alloc_old
  have haf := alloc_oldf
  obtain ⟨k0, k1, k2⟩ := blk3 w #[.slice (some ⟨p1, q1, none⟩) G.length c1, .slice (some ⟨p2, q2, none⟩) F.length c2] #[.slice none 0 0, .slice none 0 0] #[.int .i64 0, .int .i64 0] 26 26 29
  cases hk : okE G F
  · have hO : Hid (takeB G F = (G, F, (0, 0), 1)) := by simp [Hid, takeB, hk]
    go_enter Try.func9, Try.ntmps9
    go_wp2_with fail
    refine (copyEnts_any p1 q1 c1 p2 q2 c2 G F _ (h1.later (by (repeat (first | with_reducible exact Below.refl _ _ | with_reducible refine bl_alloc ?_ _ | with_reducible refine bl_drewN ?_ _ | with_reducible refine bl_drew ?_ | with_reducible refine bl_setCell ?_ (by first | exact Nat.le_refl _ | (dsimp only; omega) | (simp <;> omega)) _ | with_reducible refine bl_trans ?_ (by with_reducible assumption))))) (h2.later (by (repeat (first | with_reducible exact Below.refl _ _ | with_reducible refine bl_alloc ?_ _ | with_reducible refine bl_drewN ?_ _ | with_reducible refine bl_drew ?_ | with_reducible refine bl_setCell ?_ (by first | exact Nat.le_refl _ | (dsimp only; omega) | (simp <;> omega)) _ | with_reducible refine bl_trans ?_ (by with_reducible assumption))))) l1 l2).mono ?_
    rintro e w1 ⟨s, c, t, d, rfl, v1, v2, hap, hb1⟩
    have ev1 := v1.lt
    have ev2 := v2.lt
    simp only [World.size_alloc] at ev1 ev2
    have L1 : Below w.heap.size w w1 := by (repeat (first | with_reducible exact Below.refl _ _ | with_reducible refine bl_alloc ?_ _ | with_reducible refine bl_drewN ?_ _ | with_reducible refine bl_drew ?_ | with_reducible refine bl_setCell ?_ (by first | exact Nat.le_refl _ | (dsimp only; omega) | (simp <;> omega)) _ | with_reducible refine bl_trans ?_ (by with_reducible assumption)))
    have K0 := (k0.later hb1).alloc (.cells #[.slice s G.length c, .slice t F.length d] 26)
    have K1 := (k1.later hb1).alloc (.cells #[.slice s G.length c, .slice t F.length d] 26)
    have K2 := (k2.later hb1).alloc (.cells #[.slice s G.length c, .slice t F.length d] 26)
    have K3 := Blk.new w1 #[.slice s G.length c, .slice t F.length d] 26
    have V1 := (v1.mono (B' := w.heap.size) (by simp; omega)).alloc (.cells #[.slice s G.length c, .slice t F.length d] 26)
    have V2 := (v2.mono (B' := w.heap.size) (by simp; omega)).alloc (.cells #[.slice s G.length c, .slice t F.length d] 26)
    have LX := bl_alloc L1 (.cells #[.slice s G.length c, .slice t F.length d] 26)
    have s1 : w.heap.size + 3 ≤ w1.heap.size := by have := hb1.size; simp at this; omega
    obtain ⟨x0, x1, x2⟩ := (k0.later hb1).two
    clear hb1 v1 v2 k0 k1 k2
    go_wp2_with fail
    refine (implEntsOk_any _ _ _ _ G F _ (h1.later LX) (h2.later LX) l2).mono ?_
    rintro e w2 ⟨rfl, hb2⟩
    rw [hk]
    have L2 := bl_trans LX hb2
    have N0 := K0.later hb2
    have N1 := K1.later hb2
    have N2 := K2.later hb2
    have N3 := K3.later hb2
    have U1 := V1.later hb2
    have U2 := V2.later hb2
    clear K0 K1 K2 K3 V1 V2 LX hb2 x0 x1 x2 L1
    obtain ⟨x0, x1, x2⟩ := N0.two
    obtain ⟨y0, y1, y2⟩ := N1.two
    obtain ⟨z0, z1, z2⟩ := N2.two
    obtain ⟨r0, r1, r2⟩ := N3.two
    have e1 : ¬ w1.heap.size = w.heap.size + 1 + 1 := by omega
    have e2 : ¬ w.heap.size + 1 + 1 = w1.heap.size := by omega
    have e3 : ¬ w1.heap.size = w.heap.size + 1 := by omega
    have e4 : ¬ w.heap.size + 1 = w1.heap.size := by omega
    have e5 : ¬ w.heap.size + 1 = w.heap.size + 1 + 1 := by omega
    go_wp2_with fail
    refine bodyPost_ret (v := .tuple #[.agg #[.slice s G.length c, .slice t F.length d], .agg #[.int .i64 0, .int .i64 0], .int .i64 1]) (by simp [results, Try.results9, go_sem, y0, y1, z0, z1]) rfl ?_
    rw [hO.out]
    refine ⟨_, _, _, _, rfl, ?_, ?_, hap, ?_⟩
    · exact (((U1.other (fun e => by have := (ev1 _ e).1; omega) _ _).other (fun e => by have := (ev1 _ e).1; omega) _ _).other (fun e => by have := (ev1 _ e).1; omega) _ _).other (fun e => by have := (ev1 _ e).1; omega) _ _
    · exact (((U2.other (fun e => by have := (ev2 _ e).1; omega) _ _).other (fun e => by have := (ev2 _ e).1; omega) _ _).other (fun e => by have := (ev2 _ e).1; omega) _ _).other (fun e => by have := (ev2 _ e).1; omega) _ _
    · (repeat (first | with_reducible exact Below.refl _ _ | with_reducible refine bl_alloc ?_ _ | with_reducible refine bl_drewN ?_ _ | with_reducible refine bl_drew ?_ | with_reducible refine bl_setCell ?_ (by first | exact Nat.le_refl _ | (dsimp only; omega) | (simp <;> omega)) _ | with_reducible refine bl_trans ?_ (by with_reducible assumption)))
  · rcases hc with h | ⟨hF, hG⟩
    · rw [hk] at h; cases h
    have hO : Hid (takeB G F = (G, F, (0, 0), 3)) := by simp only [Hid, takeB, hk, if_true, if_neg hF, if_pos hG]
    have t0 : (F.length : Int) = 0 := by omega
    have t1 : IntKind.i64.wrap ((F.length : Int) - 1) = -1 := by rw [IntKind.wrap_i64]; omega
    have hlen := okE_len hk
    have t2 : ((G.length : Int) == 2000) = true := by simp; omega
    go_enter Try.func9, Try.ntmps9
    go_wp2_with fail
    refine (copyEnts_any p1 q1 c1 p2 q2 c2 G F _ (h1.later (by (repeat (first | with_reducible exact Below.refl _ _ | with_reducible refine bl_alloc ?_ _ | with_reducible refine bl_drewN ?_ _ | with_reducible refine bl_drew ?_ | with_reducible refine bl_setCell ?_ (by first | exact Nat.le_refl _ | (dsimp only; omega) | (simp <;> omega)) _ | with_reducible refine bl_trans ?_ (by with_reducible assumption))))) (h2.later (by (repeat (first | with_reducible exact Below.refl _ _ | with_reducible refine bl_alloc ?_ _ | with_reducible refine bl_drewN ?_ _ | with_reducible refine bl_drew ?_ | with_reducible refine bl_setCell ?_ (by first | exact Nat.le_refl _ | (dsimp only; omega) | (simp <;> omega)) _ | with_reducible refine bl_trans ?_ (by with_reducible assumption))))) l1 l2).mono ?_
    rintro e w1 ⟨s, c, t, d, rfl, v1, v2, hap, hb1⟩
    have ev1 := v1.lt
    have ev2 := v2.lt
    simp only [World.size_alloc] at ev1 ev2
    have L1 : Below w.heap.size w w1 := by (repeat (first | with_reducible exact Below.refl _ _ | with_reducible refine bl_alloc ?_ _ | with_reducible refine bl_drewN ?_ _ | with_reducible refine bl_drew ?_ | with_reducible refine bl_setCell ?_ (by first | exact Nat.le_refl _ | (dsimp only; omega) | (simp <;> omega)) _ | with_reducible refine bl_trans ?_ (by with_reducible assumption)))
    have K0 := (k0.later hb1).alloc (.cells #[.slice s G.length c, .slice t F.length d] 26)
    have K1 := (k1.later hb1).alloc (.cells #[.slice s G.length c, .slice t F.length d] 26)
    have K2 := (k2.later hb1).alloc (.cells #[.slice s G.length c, .slice t F.length d] 26)
    have K3 := Blk.new w1 #[.slice s G.length c, .slice t F.length d] 26
    have V1 := (v1.mono (B' := w.heap.size) (by simp; omega)).alloc (.cells #[.slice s G.length c, .slice t F.length d] 26)
    have V2 := (v2.mono (B' := w.heap.size) (by simp; omega)).alloc (.cells #[.slice s G.length c, .slice t F.length d] 26)
    have LX := bl_alloc L1 (.cells #[.slice s G.length c, .slice t F.length d] 26)
    have s1 : w.heap.size + 3 ≤ w1.heap.size := by have := hb1.size; simp at this; omega
    obtain ⟨x0, x1, x2⟩ := (k0.later hb1).two
    clear hb1 v1 v2 k0 k1 k2
    go_wp2_with fail
    refine (implEntsOk_any _ _ _ _ G F _ (h1.later LX) (h2.later LX) l2).mono ?_
    rintro e w2 ⟨rfl, hb2⟩
    rw [hk]
    have L2 := bl_trans LX hb2
    have N0 := K0.later hb2
    have N1 := K1.later hb2
    have N2 := K2.later hb2
    have N3 := K3.later hb2
    have U1 := V1.later hb2
    have U2 := V2.later hb2
    clear K0 K1 K2 K3 V1 V2 LX hb2 x0 x1 x2 L1
    obtain ⟨x0, x1, x2⟩ := N0.two
    obtain ⟨y0, y1, y2⟩ := N1.two
    obtain ⟨z0, z1, z2⟩ := N2.two
    obtain ⟨r0, r1, r2⟩ := N3.two
    have e1 : ¬ w1.heap.size = w.heap.size + 1 + 1 := by omega
    have e2 : ¬ w.heap.size + 1 + 1 = w1.heap.size := by omega
    have e3 : ¬ w1.heap.size = w.heap.size + 1 := by omega
    have e4 : ¬ w.heap.size + 1 = w1.heap.size := by omega
    have e5 : ¬ w.heap.size + 1 = w.heap.size + 1 + 1 := by omega
    go_wp2_with fail
    refine bodyPost_ret (v := .tuple #[.agg #[.slice s G.length c, .slice t F.length d], .agg #[.int .i64 0, .int .i64 0], .int .i64 3]) (by simp [results, Try.results9, go_sem, y0, y1, z0, z1]) rfl ?_
    rw [hO.out]
    refine ⟨_, _, _, _, rfl, ?_, ?_, hap, ?_⟩
    · exact (((U1.other (fun e => by have := (ev1 _ e).1; omega) _ _).other (fun e => by have := (ev1 _ e).1; omega) _ _).other (fun e => by have := (ev1 _ e).1; omega) _ _).other (fun e => by have := (ev1 _ e).1; omega) _ _
    · exact (((U2.other (fun e => by have := (ev2 _ e).1; omega) _ _).other (fun e => by have := (ev2 _ e).1; omega) _ _).other (fun e => by have := (ev2 _ e).1; omega) _ _).other (fun e => by have := (ev2 _ e).1; omega) _ _
    · (repeat (first | with_reducible exact Below.refl _ _ | with_reducible refine bl_alloc ?_ _ | with_reducible refine bl_drewN ?_ _ | with_reducible refine bl_drew ?_ | with_reducible refine bl_setCell ?_ (by first | exact Nat.le_refl _ | (dsimp only; omega) | (simp <;> omega)) _ | with_reducible refine bl_trans ?_ (by with_reducible assumption)))
end Go.Proofs.Ytcllkmdlheggkaa
