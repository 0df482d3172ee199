import Derived.Test.YtgiclehfhjjalaaSf
namespace Go.Proofs.Ytgiclehfhjjalaa
open Go.RowKit
set_option linter.unusedVariables false
set_option linter.unusedSimpArgs false

/-- a new stream without new events is handed back. -/
def OwnT (w : World) (f : Int) (N : List V4) (e : Ending) (w' : World) : Prop :=
  ∃ g c, e = .returned (.agg #[.int .i64 f, .slice (some ⟨g, 0, none⟩) N.length c, .slice none 0 0]) ∧ OV w' w.heap.size (.slice (some ⟨g, 0, none⟩) N.length c) N ∧ (∀ v ∈ N, okV v) ∧ Below w.heap.size w w'

theorem keptUnder {w : World} {n : Nat} (hn : n < w.heap.size) (u0 u1 u2 : Value) : Kept (n + 1) w (((w.setCell ⟨n, 0, none⟩ u0).setCell ⟨n, 1, none⟩ u1).setCell ⟨n, 2, none⟩ u2) :=
  ((Kept.set _ (by simp) _).trans (Kept.set _ (by simp <;> omega) _)).trans (Kept.set _ (by simp <;> omega) _)

theorem setThree_far {w : World} {n b o : Nat} (u0 u1 u2 : Value) (h : ¬ n = b) : (((w.setCell ⟨n, 0, none⟩ u0).setCell ⟨n, 1, none⟩ u1).setCell ⟨n, 2, none⟩ u2).cell? ⟨b, o, none⟩ = w.cell? ⟨b, o, none⟩ := by
  rw [World.cell?_setCell_far _ _ _ _ (by simpa using h), World.cell?_setCell_far _ _ _ _ (by simpa using h), World.cell?_setCell_far _ _ _ _ (by simpa using h)]

set_option maxHeartbeats 2000000 in
theorem implTurn_any (f : Int) (s1 : Option Addr) (pb po n1 c1 c2 : Nat) (N : List V4) (B : Nat) (w : World) (hN : Els 4 cVal w B (some ⟨pb, po, none⟩) N) (l1 : n1 ≤ 1048576) (l2 : N.length ≤ 1048576) :
    Calls Try.prog 13 #[.agg #[.int .i64 f, .slice s1 n1 c1, .slice (some ⟨pb, po, none⟩) N.length c2]] w fun e w' => OwnT w (fb f n1) N e w' := by
  have hal := alloc_old
  have haf := alloc_oldf
  obtain ⟨k0, k1, L0⟩ := boxTwo w #[.int .i64 f, .slice s1 n1 c1, .slice (some ⟨pb, po, none⟩) N.length c2] #[.int .i64 0, .slice none 0 0, .slice none 0 0] 26 26
  obtain ⟨x0, x1, x2, x3⟩ := k0.three'
  go_enter Try.func13, Try.ntmps13
  go_wp2_with fail
  generalize hX : (w.alloc (.cells #[.int .i64 f, .slice s1 n1 c1, .slice (some ⟨pb, po, none⟩) N.length c2] 26)).alloc (.cells #[.int .i64 0, .slice none 0 0, .slice none 0 0] 26) = X at k0 k1 L0 x0 x1 x2 x3 ⊢
  have sX : X.heap.size = w.heap.size + 2 := by rw [← hX]; simp
  clear hX
  have HS : Hid (X.heap.size = w.heap.size + 2) := sX
  have K0 : Hid (Blk X w.heap.size #[.int .i64 f, .slice s1 n1 c1, .slice (some ⟨pb, po, none⟩) N.length c2] 26) := k0
  have K1 : Hid (Blk X (w.heap.size + 1) #[.int .i64 0, .slice none 0 0, .slice none 0 0] 26) := k1
  clear sX k0 k1
  have hNX := hN.later cVal_keeps L0
  go_region_held3 (fun w' => w'.cell? ⟨w.heap.size, 0, none⟩ = some (.int .i64 f) ∧ w'.cell? ⟨w.heap.size, 1, none⟩ = some (.slice s1 n1 c1) ∧ w'.cell? ⟨w.heap.size, 2, none⟩ = some (.slice (some ⟨pb, po, none⟩) N.length c2)) (first | (simp [x0, x1, x2]; done) | (exact ⟨(setThree_far _ _ _ (by omega)).trans x0, (setThree_far _ _ _ (by omega)).trans x1, (setThree_far _ _ _ (by omega)).trans x2⟩))
    (first
      | (go_at_call 34; refine (firstBehind_any f s1 _ _ _ c1 c2 _ l1).mono ?_; rintro e wa ⟨rfl, hba⟩; have hwa : Below X.heap.size X wa := (by (repeat (first | with_reducible exact Below.refl _ _ | with_reducible refine bl_alloc ?_ _ | with_reducible refine bl_drewN ?_ _ | with_reducible refine bl_drew ?_ | with_reducible refine bl_setCell ?_ (by first | exact Nat.le_refl _ | (dsimp only; omega) | (simp <;> omega)) _ | with_reducible refine bl_trans ?_ (by with_reducible assumption)))); obtain ⟨x0, x1, x2, x3⟩ := (K0.out.later hwa).three'; obtain ⟨y0, y1, y2, y3⟩ := (K1.out.later hwa).three')
      | (go_at_call 35; refine (copied_any pb po c2 N B _ (hNX.later cVal_keeps (by (repeat (first | with_reducible exact Below.refl _ _ | with_reducible refine bl_alloc ?_ _ | with_reducible refine bl_drewN ?_ _ | with_reducible refine bl_drew ?_ | with_reducible refine bl_setCell ?_ (by first | exact Nat.le_refl _ | (dsimp only; omega) | (simp <;> omega)) _ | with_reducible refine bl_trans ?_ (by with_reducible assumption))))) l2).mono ?_; rintro e wb ⟨g, c, rfl, hO, hoks, hbb⟩; have hwb : Below X.heap.size X wb := (by (repeat (first | with_reducible exact Below.refl _ _ | with_reducible refine bl_alloc ?_ _ | with_reducible refine bl_drewN ?_ _ | with_reducible refine bl_drew ?_ | with_reducible refine bl_setCell ?_ (by first | exact Nat.le_refl _ | (dsimp only; omega) | (simp <;> omega)) _ | with_reducible refine bl_trans ?_ (by with_reducible assumption)))); obtain ⟨x0, x1, x2, x3⟩ := (K0.out.later hwb).three'; obtain ⟨y0, y1, y2, y3⟩ := (K1.out.later hwb).three'))
  have lb := K1.out.lt
  have la := hwa.size
  have lw := bl_trans L0 hwb
  have hl2 := hwb.size
  go_wp2_with fail
  refine bodyPost_ret (v := .agg #[.int .i64 (fb f n1), .slice (some ⟨g, 0, none⟩) N.length c, .slice none 0 0]) (by simp [results, Try.results13, go_sem, y0, y1, y2]) rfl ⟨g, c, rfl, ?_, hoks, ?_⟩
  · exact ((hO.mono (B' := w.heap.size + 1 + 1) (by omega)).kept (keptUnder (by omega) _ _ _)).mono (by omega)
  · exact ((lw.setCell (by simp <;> omega) _).setCell (by simp <;> omega) _).setCell (by simp <;> omega) _

/-- a new stream is handed back. -/
def OwnS (w : World) (f : Int) (O N : List V4) (e : Ending) (w' : World) : Prop :=
  ∃ a c b d, e = .returned (.agg #[.int .i64 f, .slice (some ⟨a, 0, none⟩) O.length c, .slice (some ⟨b, 0, none⟩) N.length d]) ∧ OV w' w.heap.size (.slice (some ⟨a, 0, none⟩) O.length c) O ∧ OV w' w.heap.size (.slice (some ⟨b, 0, none⟩) N.length d) N ∧ ¬ a = b ∧ (∀ v ∈ O, okV v) ∧ (∀ v ∈ N, okV v) ∧ Below w.heap.size w w'

set_option maxHeartbeats 2000000 in
theorem copyStream_any (f : Int) (p1 q1 p2 q2 c1 c2 : Nat) (O N : List V4) (B : Nat) (w : World) (hO : Els 4 cVal w B (some ⟨p1, q1, none⟩) O) (hN : Els 4 cVal w B (some ⟨p2, q2, none⟩) N) (l1 : O.length ≤ 1048576) (l2 : N.length ≤ 1048576) :
    Calls Try.prog 30 #[.agg #[.int .i64 f, .slice (some ⟨p1, q1, none⟩) O.length c1, .slice (some ⟨p2, q2, none⟩) N.length c2]] w fun e w' => OwnS w f O N e w' := by
  have hal := alloc_old
  have haf := alloc_oldf
  obtain ⟨k0, k1, L0⟩ := boxTwo w #[.int .i64 f, .slice (some ⟨p1, q1, none⟩) O.length c1, .slice (some ⟨p2, q2, none⟩) N.length c2] #[.int .i64 0, .slice none 0 0, .slice none 0 0] 26 26
  obtain ⟨x0, x1, x2, x3⟩ := k0.three'
  go_enter Try.func30, Try.ntmps30
  go_wp2_with fail
  generalize hX : (w.alloc (.cells #[.int .i64 f, .slice (some ⟨p1, q1, none⟩) O.length c1, .slice (some ⟨p2, q2, none⟩) N.length c2] 26)).alloc (.cells #[.int .i64 0, .slice none 0 0, .slice none 0 0] 26) = X at k0 k1 L0 x0 x1 x2 x3 ⊢
  clear hX
  have K0 : Hid (Blk X w.heap.size #[.int .i64 f, .slice (some ⟨p1, q1, none⟩) O.length c1, .slice (some ⟨p2, q2, none⟩) N.length c2] 26) := k0
  have K1 : Hid (Blk X (w.heap.size + 1) #[.int .i64 0, .slice none 0 0, .slice none 0 0] 26) := k1
  clear k0 k1
  have hNX := hN.later cVal_keeps L0
  have hOX := hO.later cVal_keeps L0
  go_region_held3 (fun w' => w'.cell? ⟨w.heap.size, 0, none⟩ = some (.int .i64 f) ∧ w'.cell? ⟨w.heap.size, 1, none⟩ = some (.slice (some ⟨p1, q1, none⟩) O.length c1) ∧ w'.cell? ⟨w.heap.size, 2, none⟩ = some (.slice (some ⟨p2, q2, none⟩) N.length c2)) (first | (simp [x0, x1, x2]; done) | (exact ⟨(setThree_far _ _ _ (by omega)).trans x0, (setThree_far _ _ _ (by omega)).trans x1, (setThree_far _ _ _ (by omega)).trans x2⟩))
    (first
      | (go_at_call 35; refine (copied_any p2 q2 c2 N B wa (hNX.later cVal_keeps hwa) l2).mono ?_; rintro e wb ⟨b, d, rfl, hOb, okb, hbb⟩; have hwb : Below X.heap.size X wb := (bl_trans hwa hbb); obtain ⟨x0, x1, x2, x3⟩ := (K0.out.later hwb).three'; obtain ⟨y0, y1, y2, y3⟩ := (K1.out.later hwb).three')
      | (go_at_call 35; refine (copied_any p1 q1 c1 O B _ (hOX.later cVal_keeps (by (repeat (first | with_reducible exact Below.refl _ _ | with_reducible refine bl_alloc ?_ _ | with_reducible refine bl_drewN ?_ _ | with_reducible refine bl_drew ?_ | with_reducible refine bl_setCell ?_ (by first | exact Nat.le_refl _ | (dsimp only; omega) | (simp <;> omega)) _ | with_reducible refine bl_trans ?_ (by with_reducible assumption))))) l1).mono ?_; rintro e wa ⟨a, c, rfl, hOa, oka, hba⟩; have hwa : Below X.heap.size X wa := (by (repeat (first | with_reducible exact Below.refl _ _ | with_reducible refine bl_alloc ?_ _ | with_reducible refine bl_drewN ?_ _ | with_reducible refine bl_drew ?_ | with_reducible refine bl_setCell ?_ (by first | exact Nat.le_refl _ | (dsimp only; omega) | (simp <;> omega)) _ | with_reducible refine bl_trans ?_ (by with_reducible assumption)))); obtain ⟨x0, x1, x2, x3⟩ := (K0.out.later hwa).three'; obtain ⟨y0, y1, y2, y3⟩ := (K1.out.later hwa).three'))
  have lb := K1.out.lt
  have la := hwa.size
  have lw := bl_trans L0 hwb
  have hl2 := hwb.size
  have ia := hOa.lt a rfl
  have ib := hOb.lt b rfl
  have hab : ¬ a = b := by omega
  have hOa' := hOa.later hbb
  rw [show X.drew.heap.size = X.heap.size from rfl] at hOa' ia
  clear hOa
  go_wp2_with fail
  refine bodyPost_ret (v := .agg #[.int .i64 f, .slice (some ⟨a, 0, none⟩) O.length c, .slice (some ⟨b, 0, none⟩) N.length d]) (by simp [results, Try.results30, go_sem, y0, y1, y2]) rfl ⟨a, c, b, d, rfl, ?_, ?_, hab, oka, okb, ?_⟩
  · exact ((hOa'.mono (B' := w.heap.size + 1 + 1) (by omega)).kept (keptUnder (by omega) _ _ _)).mono (by omega)
  · exact ((hOb.mono (B' := w.heap.size + 1 + 1) (by omega)).kept (keptUnder (by omega) _ _ _)).mono (by omega)
  · exact ((lw.setCell (by simp <;> omega) _).setCell (by simp <;> omega) _).setCell (by simp <;> omega) _
end Go.Proofs.Ytgiclehfhjjalaa
