import Derived.Test.YtcllkmdlheggkaaDf
import Derived.Deep.RegionHeld3
namespace Go.Proofs.Ytcllkmdlheggkaa
open Go.RowKit
set_option linter.unusedVariables false
set_option linter.unusedSimpArgs false

theorem ints_ten {w : World} {pb : Nat} {a0 a1 a2 a3 a4 a5 a6 a7 a8 a9 : Int} (h : Blk w pb #[.int .i64 a0, .int .i64 a1, .int .i64 a2, .int .i64 a3, .int .i64 a4, .int .i64 a5, .int .i64 a6, .int .i64 a7, .int .i64 a8, .int .i64 a9] 3) : Ints w (some ⟨pb, 0, none⟩) [a0, a1, a2, a3, a4, a5, a6, a7, a8, a9] := by
  right
  refine ⟨pb, 0, rfl, h.lt, fun j hj => ?_⟩
  match j, hj with
  | 0, _ => exact h.cell 0
  | 1, _ => exact h.cell 1
  | 2, _ => exact h.cell 2
  | 3, _ => exact h.cell 3
  | 4, _ => exact h.cell 4
  | 5, _ => exact h.cell 5
  | 6, _ => exact h.cell 6
  | 7, _ => exact h.cell 7
  | 8, _ => exact h.cell 8
  | 9, _ => exact h.cell 9

set_option maxRecDepth 100000 in
set_option maxHeartbeats 4000000 in
theorem drawAhead_any (sl : Option Addr) (len cap : Nat) (W : World) (hl : len ≤ 1048576) (hC : Code W sl len) :
    Calls Try.prog 17 #[.slice sl len cap] W fun e w' => ∃ g c f d G F n, e = .returned (.tuple #[.agg #[.slice (some ⟨g, 0, none⟩) G.length c, .slice (some ⟨f, 0, none⟩) F.length d], .int .i64 n]) ∧ Given W g c f d G F w' := by
  have hal := alloc_old
  have haf := alloc_oldf
  have R0 := Blk.new W #[.slice none 0 0, .slice none 0 0] 26
  have B0 : Below W.heap.size W (W.alloc (.cells #[.slice none 0 0, .slice none 0 0] 26)) := by (repeat (first | with_reducible exact Below.refl _ _ | with_reducible refine bl_alloc ?_ _ | with_reducible refine bl_drewN ?_ _ | with_reducible refine bl_drew ?_ | with_reducible refine bl_setCell ?_ (by first | exact Nat.le_refl _ | (dsimp only; omega) | (simp <;> omega)) _ | with_reducible refine bl_trans ?_ (by with_reducible assumption)))
  go_enter Try.func17, Try.ntmps17
  go_wp2_with fail
  refine (l1New_any sl len cap _ hl (hC.alloc _)).mono ?_
  rintro e w1 ⟨n, rfl, hn, hb1, C1⟩
  have B1 := bl_trans B0 hb1
  have R1 := R0.later hb1
  simp only [World.size_alloc] at hn
  go_wp2_with fail
  refine (l2Some_any n sl len cap _ C1 hl).mono ?_
  rintro e w2 ⟨g, c, f, d, G, F, rfl, v1, v2, hne, hlen, K2, C2⟩
  have s1 := R1.lt
  have R2 := (R1.keep K2 (by omega)).alloc (.cells #[.slice (some ⟨g, 0, none⟩) G.length c, .slice (some ⟨f, 0, none⟩) F.length d] 26)
  have B2 := bl_alloc (Keep.to_below B1 (by omega) K2) (.cells #[.slice (some ⟨g, 0, none⟩) G.length c, .slice (some ⟨f, 0, none⟩) F.length d] 26)
  have P2 := Blk.new w2 #[.slice (some ⟨g, 0, none⟩) G.length c, .slice (some ⟨f, 0, none⟩) F.length d] 26
  have U1 := (v1.mono (B' := W.heap.size) (by omega)).alloc (.cells #[.slice (some ⟨g, 0, none⟩) G.length c, .slice (some ⟨f, 0, none⟩) F.length d] 26)
  have U2 := (v2.mono (B' := W.heap.size) (by omega)).alloc (.cells #[.slice (some ⟨g, 0, none⟩) G.length c, .slice (some ⟨f, 0, none⟩) F.length d] 26)
  have C3 := C2.alloc (.cells #[.slice (some ⟨g, 0, none⟩) G.length c, .slice (some ⟨f, 0, none⟩) F.length d] 26)
  have a1 := v1.ge
  have a2 := v2.ge
  have a3 := C1.lt
  have a4 := K2.1.size
  obtain ⟨p0, p1, p2⟩ := P2.two
  go_upto_region 3 with fail
  generalize hX : w2.alloc (.cells #[.slice (some ⟨g, 0, none⟩) G.length c, .slice (some ⟨f, 0, none⟩) F.length d] 26) = X at R2 B2 P2 U1 U2 C3 p0 p1 p2 ⊢
  generalize hbp : w2.heap.size = bp at P2 p0 p1 p2 a1 a2 a4 ⊢
  clear hX hbp v1 v2 K2 C2 R1 B1 hb1
  have a5 := C3.lt
  obtain ⟨y0, y1, y2⟩ := R2.two
  have hbp2 : ¬ W.heap.size = bp := by omega
  have hbp3 : ¬ bp = W.heap.size := by omega
  have bY : Below X.heap.size X (X.alloc (.cells #[.int .i64 (-1), .int .i64 0, .int .i64 1, .int .i64 2, .int .i64 3, .int .i64 5, .int .i64 9, .int .i64 30, .int .i64 2000, .int .i64 2001] 3)).drew := bl_drew (bl_alloc (Below.refl _ X) _)
  have C5 : Cur n (X.alloc (.cells #[.int .i64 (-1), .int .i64 0, .int .i64 1, .int .i64 2, .int .i64 3, .int .i64 5, .int .i64 9, .int .i64 30, .int .i64 2000, .int .i64 2001] 3)).drew := C3.below (bY.mono a5)
  have I5 : Ints (X.alloc (.cells #[.int .i64 (-1), .int .i64 0, .int .i64 1, .int .i64 2, .int .i64 3, .int .i64 5, .int .i64 9, .int .i64 30, .int .i64 2000, .int .i64 2001] 3)).drew (some ⟨X.heap.size, 0, none⟩) [-1, 0, 1, 2, 3, 5, 9, 30, 2000, 2001] := ints_ten (Blk.drew (Blk.new X _ _))
  have R5 := R2.later bY
  have P5 := P2.later bY
  have V5 := U1.later bY
  have V6 := U2.later bY
  have B5 := bl_trans B2 bY
  have hXn : ¬ X.heap.size = n := by omega
  clear bY
  generalize hY : (X.alloc (.cells #[.int .i64 (-1), .int .i64 0, .int .i64 1, .int .i64 2, .int .i64 3, .int .i64 5, .int .i64 9, .int .i64 30, .int .i64 2000, .int .i64 2001] 3)).drew = Y at C5 I5 R5 P5 V5 V6 B5
  have HY : Hid ((X.alloc (.cells #[.int .i64 (-1), .int .i64 0, .int .i64 1, .int .i64 2, .int .i64 3, .int .i64 5, .int .i64 9, .int .i64 30, .int .i64 2000, .int .i64 2001] 3)).drew = Y) := hY
  clear hY
  go_region_held3 (fun w' => w'.cell? ⟨bp, 0, none⟩ = some (.slice (some ⟨g, 0, none⟩) G.length c) ∧ w'.cell? ⟨bp, 1, none⟩ = some (.slice (some ⟨f, 0, none⟩) F.length d)) (simp [p0, p1, hal, World.cell?_setCell_far, hbp2, hbp3])
    (first | (go_at_call 41; rw [HY.out]; refine (l1PickInt_any n X.heap.size 0 10 [-1, 0, 1, 2, 3, 5, 9, 30, 2000, 2001] _ C5 I5 (by simp) (by simp) hXn).mono ?_; rintro e w3 ⟨r, rfl, hr, K3, C4⟩; have R3 := R5.keep K3 (by omega); have P3 := P5.keep K3 (by omega); have W1 := V5.kept K3.grown (fun k hk e' => by simp [Value.ownBlock] at hk e'; omega); have W2 := V6.kept K3.grown (fun k hk e' => by simp [Value.ownBlock] at hk e'; omega); have B3 : Below W.heap.size W w3 := Keep.to_below B5 (by omega) K3; obtain ⟨y0, y1, y2⟩ := R3.two; obtain ⟨p0, p1, p2⟩ := P3.two))
  all_goals
    go_wp2_with fail
    refine bodyPost_ret (v := .tuple #[.agg #[.slice (some ⟨g, 0, none⟩) G.length c, .slice (some ⟨f, 0, none⟩) F.length d], .int .i64 r]) (by simp [results, Try.results17, go_sem, y0, y1]) rfl ⟨g, c, f, d, G, F, r, rfl, ?_, ?_, hne, hlen, ?_⟩
    · exact (W1.other (by simp [Value.ownBlock]; omega) _ _).other (by simp [Value.ownBlock]; omega) _ _
    · exact (W2.other (by simp [Value.ownBlock]; omega) _ _).other (by simp [Value.ownBlock]; omega) _ _
    · (repeat (first | with_reducible exact Below.refl _ _ | with_reducible refine bl_alloc ?_ _ | with_reducible refine bl_drewN ?_ _ | with_reducible refine bl_drew ?_ | with_reducible refine bl_setCell ?_ (by first | exact Nat.le_refl _ | (dsimp only; omega) | (simp <;> omega)) _ | with_reducible refine bl_trans ?_ (by with_reducible assumption)))
end Go.Proofs.Ytcllkmdlheggkaa
