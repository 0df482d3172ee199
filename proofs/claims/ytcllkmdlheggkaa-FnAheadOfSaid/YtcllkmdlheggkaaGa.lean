import Derived.Test.YtcllkmdlheggkaaFj
import Derived.RegionTactic
import Derived.BigRegion
import Derived.Deep.RegionHeld3
namespace Go.Proofs.Ytcllkmdlheggkaa
open Go.RowKit
set_option linter.unusedVariables false
set_option linter.unusedSimpArgs false

theorem entAt_n (s1 s2 : Option Addr) (c1 c2 n m : Nat) (G : List Int) (q : Nat) (x : Int) (w : World) (h1 : Ints w s1 G) (hn : n = G.length) (hq : q < G.length) (hx : G[q]?.getD 0 = x) (l1 : G.length ≤ 1048576) :
    Calls Try.prog 34 #[.agg #[.slice s1 n c1, .slice s2 m c2], .int .i64 q] w fun e w' => e = .returned (.agg #[.int .i64 q, .int .i64 x]) ∧ Below w.heap.size w w' := by
  subst hn
  have := entAt_any s1 s2 c1 c2 G (List.replicate m 0) q x w h1 hq hx l1
  rw [List.length_replicate] at this
  exact this

set_option maxHeartbeats 16000000 in
theorem implTake_grow (p1 q1 c1 p2 q2 c2 : Nat) (G F : List Int) (w : World) (h1 : Ints w (some ⟨p1, q1, none⟩) G) (h2 : Ints w (some ⟨p2, q2, none⟩) F) (l1 : G.length ≤ 1048576) (l2 : F.length ≤ 1048576) (hk : okE G F = true) (hF : ¬ 0 < F.length) (hG : ¬ 2000 ≤ G.length) :
    Calls Try.prog 9 #[.agg #[.slice (some ⟨p1, q1, none⟩) G.length c1, .slice (some ⟨p2, q2, none⟩) F.length c2]] w fun e w' => Takes (takeB G F) w e w' := by
  have hal := alloc_old
  have haf := alloc_oldf
  obtain ⟨k0, k1, k2⟩ := blk3 w #[.slice (some ⟨p1, q1, none⟩) G.length c1, .slice (some ⟨p2, q2, none⟩) F.length c2] #[.slice none 0 0, .slice none 0 0] #[.int .i64 0, .int .i64 0] 26 26 29
  have hO : Hid (takeB G F = (G ++ [0], F, ((G.length : Int), 0), 0)) := by simp only [Hid, takeB, hk, if_true, if_neg hF, if_neg hG]
  have t0 : (F.length : Int) = 0 := by omega
  have t1 : IntKind.i64.wrap ((F.length : Int) - 1) = -1 := by rw [IntKind.wrap_i64]; omega
  have t2 : ((G.length : Int) == 2000) = false := by simp; omega
  go_enter Try.func9, Try.ntmps9
  go_wp2_with fail
  refine (copyEnts_any p1 q1 c1 p2 q2 c2 G F _ (h1.later (by (repeat (first | with_reducible exact Below.refl _ _ | with_reducible refine bl_alloc ?_ _ | with_reducible refine bl_drewN ?_ _ | with_reducible refine bl_drew ?_ | with_reducible refine bl_setCell ?_ (by first | exact Nat.le_refl _ | (dsimp only; omega) | (simp <;> omega)) _ | with_reducible refine bl_trans ?_ (by with_reducible assumption))))) (h2.later (by (repeat (first | with_reducible exact Below.refl _ _ | with_reducible refine bl_alloc ?_ _ | with_reducible refine bl_drewN ?_ _ | with_reducible refine bl_drew ?_ | with_reducible refine bl_setCell ?_ (by first | exact Nat.le_refl _ | (dsimp only; omega) | (simp <;> omega)) _ | with_reducible refine bl_trans ?_ (by with_reducible assumption))))) l1 l2).mono ?_
  rintro e w1 ⟨s, c, t, d, rfl, v1, v2, hap, hb1⟩
  have ev1 := v1.lt
  have ev2 := v2.lt
  simp only [World.size_alloc] at ev1 ev2
  have L1 : Below w.heap.size w w1 := by (repeat (first | with_reducible exact Below.refl _ _ | with_reducible refine bl_alloc ?_ _ | with_reducible refine bl_drewN ?_ _ | with_reducible refine bl_drew ?_ | with_reducible refine bl_setCell ?_ (by first | exact Nat.le_refl _ | (dsimp only; omega) | (simp <;> omega)) _ | with_reducible refine bl_trans ?_ (by with_reducible assumption)))
  have K0 := (k0.later hb1).alloc (.cells #[.slice s G.length c, .slice t F.length d] 26)
  have K1 := (k1.later hb1).alloc (.cells #[.slice s G.length c, .slice t F.length d] 26)
  have K2 := (k2.later hb1).alloc (.cells #[.slice s G.length c, .slice t F.length d] 26)
  have K3 := Blk.new w1 #[.slice s G.length c, .slice t F.length d] 26
  have V1 := (v1.mono (B' := w.heap.size) (by simp; omega)).alloc (.cells #[.slice s G.length c, .slice t F.length d] 26)
  have V2 := (v2.mono (B' := w.heap.size) (by simp; omega)).alloc (.cells #[.slice s G.length c, .slice t F.length d] 26)
  have LX := bl_alloc L1 (.cells #[.slice s G.length c, .slice t F.length d] 26)
  have s1 : w.heap.size + 3 ≤ w1.heap.size := by have := hb1.size; simp at this; omega
  obtain ⟨x0, x1, x2⟩ := (k0.later hb1).two
  clear hb1 v1 v2 k0 k1 k2
  go_wp2_with fail
  refine (implEntsOk_any _ _ _ _ G F _ (h1.later LX) (h2.later LX) l2).mono ?_
  rintro e w2 ⟨rfl, hb2⟩
  rw [hk]
  have L2 := bl_trans LX hb2
  have N1 := K1.later hb2
  have N2 := K2.later hb2
  have N3 := K3.later hb2
  have U1 := V1.later hb2
  have U2 := V2.later hb2
  clear K0 K1 K2 K3 V1 V2 LX hb2 x0 x1 x2 L1
  obtain ⟨r0, r1, r2⟩ := N3.two
  have hz := (Blk.new w2 #[.int .i64 0] 3).cell 0
  have U1a := U1.alloc' (.cells #[.int .i64 0] 3)
  have sB := N3.lt
  go_wp2_with (at_builtin; refine wpList_append_one _ rfl (.tmp 42) (.tmp 43) rfl w.heap.size (.slice s G.length c) G rfl U1a w2.heap.size 0 rfl hz (by omega) ?_)
  intro g1 d1 w5 hv5 hg5 ho5 hl5
  have hne1 : ¬ (Value.slice s G.length c).ownBlock = some (w.heap.size + 1) := fun e => by have := ev1 _ e; omega
  have hne2 : ¬ (Value.slice s G.length c).ownBlock = some (w.heap.size + 1 + 1) := fun e => by have := ev1 _ e; omega
  have hne3 : ¬ (Value.slice s G.length c).ownBlock = some w1.heap.size := fun e => by have := ev1 _ e; omega
  have hf1 : ¬ g1 = w.heap.size + 1 ∧ ¬ g1 = w.heap.size + 1 + 1 ∧ ¬ g1 = w1.heap.size ∧ w.heap.size ≤ g1 ∧ ¬ (Value.slice t F.length d).ownBlock = some g1 := by
    rcases ho5 with h | h
    · have := ev1 _ h
      exact ⟨by omega, by omega, by omega, by omega, hap _ h⟩
    · (try simp at h)
      exact ⟨by omega, by omega, by omega, by omega, fun e => by have := (ev2 _ e).2; omega⟩
  have M1 := (N1.alloc (.cells #[.int .i64 0] 3)).kept' hg5 hne1
  have M2 := (N2.alloc (.cells #[.int .i64 0] 3)).kept' hg5 hne2
  have M3 := (N3.alloc (.cells #[.int .i64 0] 3)).kept' hg5 hne3
  have T2 := (U2.alloc (.cells #[.int .i64 0] 3)).kept hg5 (fun k hk e => hap k e hk)
  have L5 : Below w.heap.size w w5 := (bl_alloc L2 (.cells #[.int .i64 0] 3)).grown hg5 (by simp; have := L2.size; omega) (fun k h => by have := ev1 _ h; omega)
  have S5 : w1.heap.size < w5.heap.size := M3.lt
  clear r0 r1 r2 hz U1a hg5 ho5 N1 N2 N3 U1 U2 L2 hl5
  obtain ⟨r0, r1, r2⟩ := M3.two
  go_wp2_with fail
  have Y3 := M3.set 0 (.slice (some ⟨g1, 0, none⟩) (G.length + 1) d1)
  have Y1 := M1.other (m := w1.heap.size) (by omega) 0 (.slice (some ⟨g1, 0, none⟩) (G.length + 1) d1)
  have Y2 := M2.other (m := w1.heap.size) (by omega) 0 (.slice (some ⟨g1, 0, none⟩) (G.length + 1) d1)
  have W1 := (hv5.raise (B' := w.heap.size) hf1.2.2.2.1).other (n := w1.heap.size) (by simp [Value.ownBlock]; omega) 0 (.slice (some ⟨g1, 0, none⟩) (G.length + 1) d1)
  have W2 := T2.other (n := w1.heap.size) (fun e => by have := (ev2 _ e).2; omega) 0 (.slice (some ⟨g1, 0, none⟩) (G.length + 1) d1)
  have LY := L5.setCell (p := ⟨w1.heap.size, 0, none⟩) (by show _ ≤ w1.heap.size; omega) (.slice (some ⟨g1, 0, none⟩) (G.length + 1) d1)
  have Y3 : Blk _ w1.heap.size #[.slice (some ⟨g1, 0, none⟩) (G.length + 1) d1, .slice t F.length d] 26 := Y3
  have SY : w1.heap.size < (w5.setCell ⟨w1.heap.size, 0, none⟩ (.slice (some ⟨g1, 0, none⟩) (G.length + 1) d1)).heap.size := Y3.lt
  generalize hY : w5.setCell ⟨w1.heap.size, 0, none⟩ (.slice (some ⟨g1, 0, none⟩) (G.length + 1) d1) = Y at Y3 Y1 Y2 W1 W2 LY SY ⊢
  clear hY r0 r1 r2 M1 M2 M3 T2 L5 S5 hv5
  obtain ⟨r0, r1, r2⟩ := Y3.two
  obtain ⟨y0, y1, y2⟩ := Y1.two
  obtain ⟨z0, z1, z2⟩ := Y2.two
  have e1 : ¬ w1.heap.size = w.heap.size + 1 + 1 := by omega
  have e2 : ¬ w.heap.size + 1 + 1 = w1.heap.size := by omega
  have e3 : ¬ w1.heap.size = w.heap.size + 1 := by omega
  have e4 : ¬ w.heap.size + 1 = w1.heap.size := by omega
  have e5 : ¬ w.heap.size + 1 = w.heap.size + 1 + 1 := by omega
  have tw : IntKind.i64.wrap ((G.length : Int) + 1 - 1) = (G.length : Int) := by rw [IntKind.wrap_i64]; omega
  have tw2 : IntKind.i64.wrap (((G.length + 1 : Nat) : Int) - 1) = (G.length : Int) := by rw [IntKind.wrap_i64]; omega
  have tw3 : IntKind.i64.wrap (G.length : Int) = (G.length : Int) := by rw [IntKind.wrap_i64]; omega
  have hl2 : (G ++ [0]).length = G.length + 1 := by simp
  have I1 : Ints Y (some ⟨g1, 0, none⟩) (G ++ [0]) := by
    obtain ⟨s', c', h, hi⟩ := W1.slice
    simp only [Value.slice.injEq] at h
    rw [h.1]; exact hi
  have hq0 : (G ++ [0])[G.length]?.getD 0 = 0 := by simp
  have hq1 : G.length < (G ++ [0]).length := by simp
  have hq2 : (G ++ [0]).length ≤ 1048576 := by simp; omega
  obtain ⟨G', hG'⟩ : ∃ G', G ++ [0] = G' := ⟨_, rfl⟩
  rw [hG'] at W1 I1 hq0 hq1 hq2 hl2
  have HG : Hid (G ++ [0] = G') := hG'
  clear hG'
  go_region_held3 (fun w' => w'.cell? ⟨w1.heap.size, 0, none⟩ = some (.slice (some ⟨g1, 0, none⟩) (G.length + 1) d1) ∧ w'.cell? ⟨w1.heap.size, 1, none⟩ = some (.slice t F.length d)) (simp [r0, r1, e1, e2, e3, e4, World.cell?_setCell_far])
    (first
    | (go_at_call 34; refine (entAt_n _ _ _ _ _ _ G' G.length 0 _ (I1.later (by (repeat (first | with_reducible exact Below.refl _ _ | with_reducible refine bl_alloc ?_ _ | with_reducible refine bl_drewN ?_ _ | with_reducible refine bl_drew ?_ | with_reducible refine bl_setCell ?_ (by first | exact Nat.le_refl _ | (dsimp only; omega) | (simp <;> omega)) _ | with_reducible refine bl_trans ?_ (by with_reducible assumption))))) hl2.symm hq1 hq0 hq2).mono ?_; rintro e wa ⟨rfl, hb⟩; have Y1 : Blk wa (w.heap.size + 1) _ _ := Y1.later (by (repeat (first | with_reducible exact Below.refl _ _ | with_reducible refine bl_alloc ?_ _ | with_reducible refine bl_drewN ?_ _ | with_reducible refine bl_drew ?_ | with_reducible refine bl_setCell ?_ (by first | exact Nat.le_refl _ | (dsimp only; omega) | (simp <;> omega)) _ | with_reducible refine bl_trans ?_ (by with_reducible assumption)))); have Y2 : Blk wa (w.heap.size + 1 + 1) _ _ := Y2.later (by (repeat (first | with_reducible exact Below.refl _ _ | with_reducible refine bl_alloc ?_ _ | with_reducible refine bl_drewN ?_ _ | with_reducible refine bl_drew ?_ | with_reducible refine bl_setCell ?_ (by first | exact Nat.le_refl _ | (dsimp only; omega) | (simp <;> omega)) _ | with_reducible refine bl_trans ?_ (by with_reducible assumption)))); have Y3 : Blk wa w1.heap.size _ _ := Y3.later (by (repeat (first | with_reducible exact Below.refl _ _ | with_reducible refine bl_alloc ?_ _ | with_reducible refine bl_drewN ?_ _ | with_reducible refine bl_drew ?_ | with_reducible refine bl_setCell ?_ (by first | exact Nat.le_refl _ | (dsimp only; omega) | (simp <;> omega)) _ | with_reducible refine bl_trans ?_ (by with_reducible assumption)))); have W1 : VRow wa _ _ _ := W1.later (by (repeat (first | with_reducible exact Below.refl _ _ | with_reducible refine bl_alloc ?_ _ | with_reducible refine bl_drewN ?_ _ | with_reducible refine bl_drew ?_ | with_reducible refine bl_setCell ?_ (by first | exact Nat.le_refl _ | (dsimp only; omega) | (simp <;> omega)) _ | with_reducible refine bl_trans ?_ (by with_reducible assumption)))); have W2 : VRow wa _ _ _ := W2.later (by (repeat (first | with_reducible exact Below.refl _ _ | with_reducible refine bl_alloc ?_ _ | with_reducible refine bl_drewN ?_ _ | with_reducible refine bl_drew ?_ | with_reducible refine bl_setCell ?_ (by first | exact Nat.le_refl _ | (dsimp only; omega) | (simp <;> omega)) _ | with_reducible refine bl_trans ?_ (by with_reducible assumption)))); have LY : Below w.heap.size w wa := (by (repeat (first | with_reducible exact Below.refl _ _ | with_reducible refine bl_alloc ?_ _ | with_reducible refine bl_drewN ?_ _ | with_reducible refine bl_drew ?_ | with_reducible refine bl_setCell ?_ (by first | exact Nat.le_refl _ | (dsimp only; omega) | (simp <;> omega)) _ | with_reducible refine bl_trans ?_ (by with_reducible assumption)))); obtain ⟨r0, r1, r2⟩ := Y3.two; obtain ⟨y0, y1, y2⟩ := Y1.two; obtain ⟨z0, z1, z2⟩ := Y2.two))
  all_goals
    go_wp2_with fail
    refine bodyPost_ret (v := .tuple #[.agg #[.slice (some ⟨g1, 0, none⟩) (G.length + 1) d1, .slice t F.length d], .agg #[.int .i64 (G.length : Int), .int .i64 0], .int .i64 0]) (by simp [results, Try.results9, go_sem, y0, y1, z0, z1]) rfl ?_
    rw [hO.out, HG.out]
    refine ⟨some ⟨g1, 0, none⟩, d1, t, d, ?_, ?_, ?_, ?_, ?_⟩
    · show Ending.returned (.tuple #[.agg #[.slice (some ⟨g1, 0, none⟩) (G.length + 1) d1, .slice t F.length d], .agg #[.int .i64 (G.length : Int), .int .i64 0], .int .i64 0]) = .returned (.tuple #[.agg #[.slice (some ⟨g1, 0, none⟩) G'.length d1, .slice t F.length d], .agg #[.int .i64 (G.length : Int), .int .i64 0], .int .i64 0])
      rw [hl2]
    · show VRow _ _ (.slice (some ⟨g1, 0, none⟩) G'.length d1) G'
      rw [hl2]
      exact (((W1.other (by simp [Value.ownBlock]; omega) _ _).other (by simp [Value.ownBlock]; omega) _ _).other (by simp [Value.ownBlock]; omega) _ _).other (by simp [Value.ownBlock]; omega) _ _
    · exact (((W2.other (fun e => by have := (ev2 _ e).1; omega) _ _).other (fun e => by have := (ev2 _ e).1; omega) _ _).other (fun e => by have := (ev2 _ e).1; omega) _ _).other (fun e => by have := (ev2 _ e).1; omega) _ _
    · intro k hk1 hk2
      have : k = g1 := by simpa [Value.ownBlock] using hk1.symm
      subst this
      exact hf1.2.2.2.2 hk2
    · (repeat (first | with_reducible exact Below.refl _ _ | with_reducible refine bl_alloc ?_ _ | with_reducible refine bl_drewN ?_ _ | with_reducible refine bl_drew ?_ | with_reducible refine bl_setCell ?_ (by first | exact Nat.le_refl _ | (dsimp only; omega) | (simp <;> omega)) _ | with_reducible refine bl_trans ?_ (by with_reducible assumption)))

theorem implTake_any (p1 q1 c1 p2 q2 c2 : Nat) (G F : List Int) (w : World) (h1 : Ints w (some ⟨p1, q1, none⟩) G) (h2 : Ints w (some ⟨p2, q2, none⟩) F) (l1 : G.length ≤ 1048576) (l2 : F.length ≤ 1048576) :
    Calls Try.prog 9 #[.agg #[.slice (some ⟨p1, q1, none⟩) G.length c1, .slice (some ⟨p2, q2, none⟩) F.length c2]] w fun e w' => Takes (takeB G F) w e w' := by
  cases hk : okE G F
  · exact implTake_few p1 q1 c1 p2 q2 c2 G F w h1 h2 l1 l2 (Or.inl hk)
  · by_cases hF : 0 < F.length
    · exact implTake_free p1 q1 c1 p2 q2 c2 G F w h1 h2 l1 l2 hk hF
    · by_cases hG : 2000 ≤ G.length
      · exact implTake_few p1 q1 c1 p2 q2 c2 G F w h1 h2 l1 l2 (Or.inr ⟨hF, hG⟩)
      · exact implTake_grow p1 q1 c1 p2 q2 c2 G F w h1 h2 l1 l2 hk hF hG
end Go.Proofs.Ytcllkmdlheggkaa
