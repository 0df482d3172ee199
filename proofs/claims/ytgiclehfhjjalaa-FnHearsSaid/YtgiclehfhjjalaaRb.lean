import Derived.Test.YtgiclehfhjjalaaRa
namespace Go.Proofs.Ytgiclehfhjjalaa
open Go.RowKit Go.Shelf
set_option linter.unusedVariables false
set_option linter.unusedSimpArgs false
attribute [local go_sem] Oper.semAt_some

theorem firstOk_any (f : Int) (w : World) :
    Calls Try.prog 32 #[.int .i64 f] w fun e w' => e = .returned (.bool (decide (0 ≤ f) && decide (f ≤ 1000000000000))) ∧ w' = w := by
  by_cases h : 0 ≤ f
  · have h' : decide (0 ≤ f) = true := by simpa using h
    go_enter Try.func32, Try.ntmps32
    go_wp2_with fail
    go_ret
    exact ⟨by first | rfl | (rw [h']; simp), rfl⟩
  · have h' : decide (0 ≤ f) = false := by simpa using h
    go_enter Try.func32, Try.ntmps32
    go_wp2_with fail
    go_ret
    exact ⟨by first | rfl | (rw [h']; simp), rfl⟩
/-- a right stream of a kind. -/
def stB (k f : Int) (O N : List V4) : Bool := decide (0 ≤ f) && decide (f ≤ 1000000000000) && decide (O.length ≤ 200) && decide (N.length ≤ 200) && (O ++ N).all (vofB k)
theorem blk_own {β : Type} (B0 k : Nat) (c : Array Value) (t : TypeId) : OwnFrom B0 (fun (_ : β) W => Blk W k c t) := by
  intro s W W' row h hg hr
  unfold Blk at h ⊢
  rw [hg.block k (Array.getElem?_eq_some_iff.1 h).1 ?_]
  · exact h
  · intro e
    obtain ⟨_, o, ho, hc⟩ := hr k e.symm
    rw [h] at ho
    cases ho
    cases hc
theorem blk3v (w : World) (c d e : Array Value) (t u v : TypeId) : Blk (((w.alloc (.cells c t)).alloc (.cells d u)).alloc (.cells e v)) w.heap.size c t ∧ Blk (((w.alloc (.cells c t)).alloc (.cells d u)).alloc (.cells e v)) (w.heap.size + 1) d u ∧ Blk (((w.alloc (.cells c t)).alloc (.cells d u)).alloc (.cells e v)) (w.heap.size + 1 + 1) e v ∧ Below w.heap.size w (((w.alloc (.cells c t)).alloc (.cells d u)).alloc (.cells e v)) :=
  ⟨((blk2 w c d t u).1).alloc _, ((blk2 w c d t u).2).alloc _, Blk.new' _ _ _ (by simp), bl_alloc (bl_alloc (bl_alloc (Below.refl _ _) _) _) _⟩

set_option maxRecDepth 100000 in
set_option maxHeartbeats 4000000 in
theorem implStreamOk_loop (k f : Int) (s1 s2 : Option Addr) (c1 c2 : Nat) (O N : List V4) (B : Nat) (w : World) (hO : Els 4 cVal w B s1 O) (hN : Els 4 cVal w B s2 N) (f0 : 0 ≤ f) (f1 : f ≤ 1000000000000) (l1 : O.length ≤ 200) (l2 : N.length ≤ 200) :
    Calls Try.prog 20 #[.int .i64 k, .agg #[.int .i64 f, .slice s1 O.length c1, .slice s2 N.length c2]] w fun e w' => e = .returned (.bool ((O ++ N).all (vofB k))) ∧ Below w.heap.size w w' := by
  refine (callsIn_wide (n := 6)).1 ?_
  obtain ⟨k0, k1, k2, L0⟩ := blk3v w #[.int .i64 k] #[.int .i64 f, .slice s1 O.length c1, .slice s2 N.length c2] #[.bool false] 3 26 4
  refine callsIn_of_wp_marks Try.func20 rfl trivial ?_ rfl
  simp only [Try.ntmps20, List.size_toArray, List.length_cons, List.length_nil, Nat.reduceAdd, Nat.reduceSub, Array.replicate_succ, Array.replicate_zero, List.push_toArray, List.append_toArray, List.nil_append, List.cons_append]
  obtain ⟨x0, x1, x2, x3⟩ := k1.three'
  have hfo : (decide (0 ≤ f) && decide (f ≤ 1000000000000)) = true := by simp; omega
  have t1 : decide ((200 : Int) < (O.length : Int)) = false := by simp; omega
  have t2 : decide ((200 : Int) < (N.length : Int)) = false := by simp; omega
  gi_wp2_with (first
    | (refine ⟨trivial, ?_⟩; gi_at_call 32; refine (callsIn_wide.2 (firstOk_any f _)).mono ?_; rintro e w' ⟨rfl, rfl⟩; rw [hfo])
    | (refine ⟨trivial, ?_⟩; gi_at_call 33; refine (unreadOf_in Fence.wide _ trivial rfl _ f _ rfl).mono ?_; rintro e w' ⟨rfl, rfl⟩))
  have a0 := (k0.alloc (.cells #[.int .i64 f, .slice s1 O.length c1, .slice s2 N.length c2] 26)).alloc (.cells #[.int .i64 f] 3)
  have a2 := (k2.alloc (.cells #[.int .i64 f, .slice s1 O.length c1, .slice s2 N.length c2] 26)).alloc (.cells #[.int .i64 f] 3)
  have a3 := (Blk.new (((w.alloc (.cells #[.int .i64 k] 3)).alloc (.cells #[.int .i64 f, .slice s1 O.length c1, .slice s2 N.length c2] 26)).alloc (.cells #[.bool false] 4)) #[.int .i64 f, .slice s1 O.length c1, .slice s2 N.length c2] 26).alloc (.cells #[.int .i64 f] 3)
  have a4 := Blk.new ((((w.alloc (.cells #[.int .i64 k] 3)).alloc (.cells #[.int .i64 f, .slice s1 O.length c1, .slice s2 N.length c2] 26)).alloc (.cells #[.bool false] 4)).alloc (.cells #[.int .i64 f, .slice s1 O.length c1, .slice s2 N.length c2] 26)) #[.int .i64 f] 3
  simp only [World.size_alloc] at a3 a4
  have hB0 : Below w.heap.size w (((((w.alloc (.cells #[.int .i64 k] 3)).alloc (.cells #[.int .i64 f, .slice s1 O.length c1, .slice s2 N.length c2] 26)).alloc (.cells #[.bool false] 4)).alloc (.cells #[.int .i64 f, .slice s1 O.length c1, .slice s2 N.length c2] 26)).alloc (.cells #[.int .i64 f] 3)) := bl_alloc (bl_alloc L0 _) _
  have hsz : (((((w.alloc (.cells #[.int .i64 k] 3)).alloc (.cells #[.int .i64 f, .slice s1 O.length c1, .slice s2 N.length c2] 26)).alloc (.cells #[.bool false] 4)).alloc (.cells #[.int .i64 f, .slice s1 O.length c1, .slice s2 N.length c2] 26)).alloc (.cells #[.int .i64 f] 3)).heap.size = w.heap.size + 5 := by simp
  clear k0 k1 k2 x0 x1 x2 x3 L0 t1 t2 hfo
  generalize ((((w.alloc (.cells #[.int .i64 k] 3)).alloc (.cells #[.int .i64 f, .slice s1 O.length c1, .slice s2 N.length c2] 26)).alloc (.cells #[.bool false] 4)).alloc (.cells #[.int .i64 f, .slice s1 O.length c1, .slice s2 N.length c2] 26)).alloc (.cells #[.int .i64 f] 3) = W0 at a0 a2 a3 a4 hB0 hsz ⊢
  refine wpIn_rangeFunc_ownH rfl (by omega) (gf := 50) (lb := #[.pointer (some ⟨w.heap.size + 1 + 1 + 1, 0, none⟩), .pointer (some ⟨w.heap.size + 1 + 1 + 1 + 1, 0, none⟩)]) rfl trivial (enters_of Try.func50 (by kernel_rfl) rfl)
    (unread_stops Fence.wide _ trivial rfl (by omega) (w.heap.size + 1 + 1 + 1) (w.heap.size + 1 + 1 + 1 + 1) w.heap.size f f s1 s2 c1 c2 O N W0 (by omega) a3 a4 ((Lo.of hO).below hB0) ((Lo.of hN).below hB0) f0 f1 (by omega) (by omega)) (fun h g => h.trans g) (kq_b (by omega)) (Below.refl _ _) (fun _ => rfl)
    (fun pre W => ((∀ y ∈ pre, vofB k y = true) ∧ Blk W w.heap.size #[.int .i64 k] 3 ∧ Blk W (w.heap.size + 1 + 1) #[.bool false] 4) ∧ Below w.heap.size w W)
    (fun c pre W => (c = .ret ∧ (∃ y ∈ pre, vofB k y = false) ∧ Blk W (w.heap.size + 1 + 1) #[.bool false] 4) ∧ Below w.heap.size w W)
    (OwnFrom.and (fun s A B row hs hg hr => ⟨hs.1, blk_own W0.heap.size _ _ _ s A B row hs.2.1 hg hr, blk_own W0.heap.size _ _ _ s A B row hs.2.2 hg hr⟩) (ownFrom_below (Nat.le_refl _) (by omega)))
    (fun c => OwnFrom.and (fun s A B row hs hg hr => ⟨hs.1, hs.2.1, blk_own W0.heap.size _ _ _ s A B row hs.2.2 hg hr⟩) (ownFrom_below (Nat.le_refl _) (by omega)))
    ⟨⟨by simp, a0, a2⟩, hB0⟩
    (fun x a' W => ∃ Bx, Blk W Bx #[.int .i64 x.1, .int .i64 x.2.1, .float .f64 x.2.2.1, .float .f64 x.2.2.2] 32 ∧ a' = { tmps := #[.int .i64 k, .agg #[.int .i64 f, .slice s1 O.length c1, .slice s2 N.length c2], .pointer (some ⟨w.heap.size, 0, none⟩), .pointer (some ⟨w.heap.size + 1, 0, none⟩), .pointer (some ⟨w.heap.size + 1 + 1, 0, none⟩), .pointer (some ⟨Bx, 0, none⟩), .pointer (some ⟨w.heap.size + 1, 0, none⟩), .int .i64 f, .bool true, .bool false, .bool false, .pointer (some ⟨w.heap.size + 1, 1, none⟩), .slice s1 O.length c1, .int .i64 O.length, .bool false, .bool false, .bool false, .pointer (some ⟨w.heap.size + 1, 2, none⟩), .slice s2 N.length c2, .int .i64 N.length, .bool false, .bool false, .agg #[.int .i64 f, .slice s1 O.length c1, .slice s2 N.length c2], .pointer (some ⟨w.heap.size + 1, 0, none⟩), .int .i64 f, .func (.func 50) #[] #[.pointer (some ⟨w.heap.size + 1 + 1 + 1, 0, none⟩), .pointer (some ⟨w.heap.size + 1 + 1 + 1 + 1, 0, none⟩)], vAgg x, undef, undef, undef, undef], defers := [] })
    (fun x a' s A B row hs hg hr => by obtain ⟨Bx, h2, h3⟩ := hs; exact ⟨Bx, blk_own (β := Unit) W0.heap.size _ _ _ s A B row h2 hg hr, h3⟩)
    ?assign ?body ?done ?stop
  case assign =>
    rintro l pre x W K ⟨⟨hi1, hi2, hi3⟩, hB⟩ hK
    gi_wp2
    exact hK _ _ ((KeepsOthers.alloc _ _).from _) (Kq.of (bl_alloc (Below.refl _ _) _) hB.size) ⟨⟨hi1, hi2.alloc _, hi3.alloc _⟩, bl_alloc hB _⟩ ⟨W.heap.size, Blk.new _ _ _, rfl⟩
  case body =>
    rintro l pre x a' W hl ⟨r, hr⟩ ⟨⟨hi1, hi2, hi3⟩, hB⟩ ⟨Bx, bX, rfl⟩ hlt
    have kc : W.cell? ⟨w.heap.size, 0, none⟩ = some (.int .i64 k) := hi2.cell 0
    obtain ⟨y0, y1, y2, y3, y4⟩ := bX.four'
    have rc : W.cell? ⟨w.heap.size + 1 + 1, 0, none⟩ = some (.bool false) := hi3.cell 0
    cases hv : vofB k x
    · gi_wp2_with (refine ⟨trivial, ?_⟩; gi_at_call 31; refine (CallsIn.inRound l (callsIn_wide.2 (valOf_any k x _))).mono ?_; rintro e w' ⟨rfl, hbw⟩; rw [hv]; have rc' := kcell hbw rc; have rf' := (hi3.later hbw).frozen 0)
      exact ⟨(KeepsFrom.of_grownBy (grown_of_below hbw) (fun j e => by cases e)).trans ((KeepsOthers.setCell _ _ _).from _), ⟨rfl, ⟨x, by simp, hv⟩, (hi3.later hbw).set 0 _⟩, (bl_trans hB hbw).setCell (p := ⟨w.heap.size + 1 + 1, 0, none⟩) (by simp <;> omega) _⟩
    · gi_wp2_with (refine ⟨trivial, ?_⟩; gi_at_call 31; refine (CallsIn.inRound l (callsIn_wide.2 (valOf_any k x _))).mono ?_; rintro e w' ⟨rfl, hbw⟩; rw [hv])
      exact ⟨KeepsFrom.of_grownBy (grown_of_below hbw) (fun j e => by cases e), Kq.of hbw hB.size, ⟨fun y hy => (List.mem_append.1 hy).elim (hi1 y) (fun e => by simp at e; subst e; exact hv), hi2.later hbw, hi3.later hbw⟩, bl_trans hB hbw⟩
  case done =>
    rintro D ys W hD rfl ⟨⟨hi1, hi2, hi3⟩, hB⟩ hK
    have rc : W.cell? ⟨w.heap.size + 1 + 1, 0, none⟩ = some (.bool false) := hi3.cell 0
    have rf := hi3.frozen 0
    gi_wp2
    have hK' := (KeepsOthers.setCell W ⟨w.heap.size + 1 + 1, 0, none⟩ (.bool true)).same D _ hK rfl
    refine ⟨by simp, .inl ⟨_, _, rfl, run_takeDeferred hK', ?_⟩⟩
    have hc5 := cell_kept (World.cell?_setCell_same' W ⟨w.heap.size + 1 + 1, 0, none⟩ (.bool true) (by rw [rc]; rfl)) (grownBy_putObj' _ D (.deferred none)) (fun r e => by cases e; exact ⟨_, hK', rfl⟩)
    have hall : (O ++ N).all (vofB k) = true := by
      rw [List.all_eq_true]
      intro y hy
      exact hi1 y (by simpa using hy)
    refine ⟨.bool true, ?_, by rw [hall], (hB.setCell (p := ⟨w.heap.size + 1 + 1, 0, none⟩) (by simp <;> omega) _).trans (belowK_b (w := w) (Nat.le_refl _) _ D _ _ (by omega) hK' rfl rfl)⟩
    simp [results, Try.f20, go_sem, hc5]
  case stop =>
    rintro D c pre W hD hpre ⟨⟨rfl, ⟨y, hy, hv⟩, hi3⟩, hB⟩ hK
    have rc : W.cell? ⟨w.heap.size + 1 + 1, 0, none⟩ = some (.bool false) := hi3.cell 0
    gi_wp2
    refine ⟨by simp, .inl ⟨_, _, rfl, run_takeDeferred hK, ?_⟩⟩
    have hc5 := cell_kept rc (grownBy_putObj' _ D (.deferred none)) (fun r e => by cases e; exact ⟨_, hK, rfl⟩)
    have hall : (O ++ N).all (vofB k) = false := by
      rw [List.all_eq_false]
      exact ⟨y, by have := hpre.subset hy; simpa using this, by rw [hv]; simp⟩
    refine ⟨.bool false, ?_, by rw [hall], hB.trans (belowK_b (w := w) (Nat.le_refl _) W D _ _ (by omega) hK rfl rfl)⟩
    simp [results, Try.f20, go_sem, hc5]
end Go.Proofs.Ytgiclehfhjjalaa
