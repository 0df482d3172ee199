import Derived.Test.YtcllkmdlheggkaaGc
import Derived.Test.YtcllkmdlheggkaaEq
namespace Go.Proofs.Ytcllkmdlheggkaa
open Go.RowKit
set_option linter.unusedVariables false
set_option linter.unusedSimpArgs false

theorem ret2_b {v : Value} {a b : Bool} (h : a = b) : Ending.returned (.tuple #[v, .bool a]) = .returned (.tuple #[v, .bool b]) := by rw [h]
theorem VRow.blk {w : World} {B g n c : Nat} {L : List Int} (h : VRow w B (.slice (some ⟨g, 0, none⟩) n c) L) : ∃ cur, Blk w g cur 3 := by
  rcases h.2 with ⟨h', _⟩ | ⟨g', cap, cur, h', _, hg, _⟩
  · simp at h'
  · simp only [Value.slice.injEq, Option.some.injEq, Addr.mk.injEq, and_true] at h'
    obtain ⟨rfl, -, -⟩ := h'
    exact ⟨cur, hg⟩
theorem VRow.apartBox {w : World} {B : Nat} {v : Value} {L : List Int} (h : VRow w B v L) {m : Nat} {c : Array Value} {t : TypeId} (hb : Blk w m c t) (ht : ¬ t = 3) : ¬ v.ownBlock = some m := by
  rcases h.2 with ⟨rfl, _⟩ | ⟨g, cap, cur, rfl, _, hg, _⟩
  · simp [Value.ownBlock]
  · simp only [Value.ownBlock, Option.some.injEq]
    intro e
    subst e
    unfold Blk at hb
    rw [hg] at hb
    simp at hb
    exact ht hb.2.symm
theorem ERow.alloc {w : World} {B : Nat} {v : Value} {L : List (Int × Int)} (h : ERow w B v L) (o : Obj) : ERow (w.alloc o) B v L := h.later (bl_alloc (Below.refl _ w) o)
theorem ERow.other {w : World} {B : Nat} {v : Value} {L : List (Int × Int)} (h : ERow w B v L) {n : Nat} (hn : ¬ v.ownBlock = some n) (o : Nat) (u : Value) : ERow (w.setCell ⟨n, o, none⟩ u) B v L := h.kept (grown_setCell w n o u) hn

/-- a slice's two boxes of things. -/
structure Th (w : World) (B b : Nat) (g c f d : Nat) (G F : List Int) : Prop where
  k : Blk w b #[.slice (some ⟨g, 0, none⟩) G.length c, .slice (some ⟨f, 0, none⟩) F.length d] 26
  v : VRow w B (.slice (some ⟨g, 0, none⟩) G.length c) G
  u : VRow w B (.slice (some ⟨f, 0, none⟩) F.length d) F
  n : ¬ g = f
theorem Th.kept {w w' : World} {B b g c f d : Nat} {G F : List Int} {r : Option Nat} (h : Th w B b g c f d G F) (hg : w.grownBy w' r) (h0 : ¬ r = some b) (h1 : ¬ r = some g) (h2 : ¬ r = some f) : Th w' B b g c f d G F :=
  ⟨h.k.kept' hg h0, h.v.kept hg (fun k hk e => h1 (by simp [Value.ownBlock] at hk; rw [e, hk])), h.u.kept hg (fun k hk e => h2 (by simp [Value.ownBlock] at hk; rw [e, hk])), h.n⟩

set_option maxRecDepth 100000 in
set_option maxHeartbeats 8000000 in
theorem specAhead_no (p1 q1 c1 p2 q2 c2 : Nat) (G F : List Int) (n : Int) (w : World) (h1 : Ints w (some ⟨p1, q1, none⟩) G) (h2 : Ints w (some ⟨p2, q2, none⟩) F) (hc : okE G F = false ∨ n < 0 ∨ 2000 < n) :
    Calls Try.prog 19 #[.agg #[.slice (some ⟨p1, q1, none⟩) G.length c1, .slice (some ⟨p2, q2, none⟩) F.length c2], .int .i64 n] w fun e w' => ∃ v, e = .returned (.tuple #[v, .bool (aheadOk G F n)]) ∧ ERow w' w.heap.size v (aheadL G F n) ∧ Below w.heap.size w w' := by
  have hal := alloc_old
  have haf := alloc_oldf
  have hO : Hid (aheadOk G F n = false) := by
    unfold Hid aheadOk
    rcases hc with h | h
    · rw [h]; rfl
    · cases hk : okE G F
      · rfl
      · obtain ⟨a, b, _⟩ := okE_parts hk
        simp; omega
  have hL : Hid (aheadL G F n = []) := by simp [Hid, aheadL, hO.out]
  cases hk : okE G F
  · clear hc
    go_enter Try.func19, Try.ntmps19
    go_wp2_with fail
    refine (specEntsOk_any _ _ c1 c2 G F _ (h1.later (by (repeat (first | with_reducible exact Below.refl _ _ | with_reducible refine bl_alloc ?_ _ | with_reducible refine bl_drewN ?_ _ | with_reducible refine bl_drew ?_ | with_reducible refine bl_setCell ?_ (by first | exact Nat.le_refl _ | (dsimp only; omega) | (simp <;> omega)) _ | with_reducible refine bl_trans ?_ (by with_reducible assumption))))) (h2.later (by (repeat (first | with_reducible exact Below.refl _ _ | with_reducible refine bl_alloc ?_ _ | with_reducible refine bl_drewN ?_ _ | with_reducible refine bl_drew ?_ | with_reducible refine bl_setCell ?_ (by first | exact Nat.le_refl _ | (dsimp only; omega) | (simp <;> omega)) _ | with_reducible refine bl_trans ?_ (by with_reducible assumption)))))).mono ?_
    rintro e w1 ⟨rfl, hb1⟩
    rw [hk]
    go_wp2_with fail
    go_ret2
    refine ⟨.slice none 0 0, ret2_b hO.out.symm, by rw [hL.out]; exact ERow.nil _ _, ?_⟩
    (repeat (first | with_reducible exact Below.refl _ _ | with_reducible refine bl_alloc ?_ _ | with_reducible refine bl_drewN ?_ _ | with_reducible refine bl_drew ?_ | with_reducible refine bl_setCell ?_ (by first | exact Nat.le_refl _ | (dsimp only; omega) | (simp <;> omega)) _ | with_reducible refine bl_trans ?_ (by with_reducible assumption)))
  · have hn : n < 0 ∨ ¬ n < 0 ∧ 2000 < n := by
      rcases hc with h | h
      · rw [hk] at h; cases h
      · omega
    clear hc
    rcases hn with hn | ⟨hn, hn2⟩
    · go_enter Try.func19, Try.ntmps19
      go_wp2_with fail
      refine (specEntsOk_any _ _ c1 c2 G F _ (h1.later (by (repeat (first | with_reducible exact Below.refl _ _ | with_reducible refine bl_alloc ?_ _ | with_reducible refine bl_drewN ?_ _ | with_reducible refine bl_drew ?_ | with_reducible refine bl_setCell ?_ (by first | exact Nat.le_refl _ | (dsimp only; omega) | (simp <;> omega)) _ | with_reducible refine bl_trans ?_ (by with_reducible assumption))))) (h2.later (by (repeat (first | with_reducible exact Below.refl _ _ | with_reducible refine bl_alloc ?_ _ | with_reducible refine bl_drewN ?_ _ | with_reducible refine bl_drew ?_ | with_reducible refine bl_setCell ?_ (by first | exact Nat.le_refl _ | (dsimp only; omega) | (simp <;> omega)) _ | with_reducible refine bl_trans ?_ (by with_reducible assumption)))))).mono ?_
      rintro e w1 ⟨rfl, hb1⟩
      rw [hk]
      go_wp2_with fail
      go_ret2
      refine ⟨.slice none 0 0, ret2_b hO.out.symm, by rw [hL.out]; exact ERow.nil _ _, ?_⟩
      (repeat (first | with_reducible exact Below.refl _ _ | with_reducible refine bl_alloc ?_ _ | with_reducible refine bl_drewN ?_ _ | with_reducible refine bl_drew ?_ | with_reducible refine bl_setCell ?_ (by first | exact Nat.le_refl _ | (dsimp only; omega) | (simp <;> omega)) _ | with_reducible refine bl_trans ?_ (by with_reducible assumption)))
    · go_enter Try.func19, Try.ntmps19
      go_wp2_with fail
      refine (specEntsOk_any _ _ c1 c2 G F _ (h1.later (by (repeat (first | with_reducible exact Below.refl _ _ | with_reducible refine bl_alloc ?_ _ | with_reducible refine bl_drewN ?_ _ | with_reducible refine bl_drew ?_ | with_reducible refine bl_setCell ?_ (by first | exact Nat.le_refl _ | (dsimp only; omega) | (simp <;> omega)) _ | with_reducible refine bl_trans ?_ (by with_reducible assumption))))) (h2.later (by (repeat (first | with_reducible exact Below.refl _ _ | with_reducible refine bl_alloc ?_ _ | with_reducible refine bl_drewN ?_ _ | with_reducible refine bl_drew ?_ | with_reducible refine bl_setCell ?_ (by first | exact Nat.le_refl _ | (dsimp only; omega) | (simp <;> omega)) _ | with_reducible refine bl_trans ?_ (by with_reducible assumption)))))).mono ?_
      rintro e w1 ⟨rfl, hb1⟩
      rw [hk]
      go_wp2_with fail
      go_ret2
      refine ⟨.slice none 0 0, ret2_b hO.out.symm, by rw [hL.out]; exact ERow.nil _ _, ?_⟩
      (repeat (first | with_reducible exact Below.refl _ _ | with_reducible refine bl_alloc ?_ _ | with_reducible refine bl_drewN ?_ _ | with_reducible refine bl_drew ?_ | with_reducible refine bl_setCell ?_ (by first | exact Nat.le_refl _ | (dsimp only; omega) | (simp <;> omega)) _ | with_reducible refine bl_trans ?_ (by with_reducible assumption)))

set_option maxRecDepth 100000 in
set_option maxHeartbeats 8000000 in
theorem specAhead_yes (p1 q1 c1 p2 q2 c2 : Nat) (G F : List Int) (N : Nat) (w : World) (h1 : Ints w (some ⟨p1, q1, none⟩) G) (h2 : Ints w (some ⟨p2, q2, none⟩) F) (hk : okE G F = true) (hN : N ≤ 2000) :
    Calls Try.prog 19 #[.agg #[.slice (some ⟨p1, q1, none⟩) G.length c1, .slice (some ⟨p2, q2, none⟩) F.length c2], .int .i64 N] w fun e w' => ∃ v, e = .returned (.tuple #[v, .bool (aheadOk G F N)]) ∧ ERow w' w.heap.size v (aheadL G F N) ∧ Below w.heap.size w w' := by
  have hal := alloc_old
  have haf := alloc_oldf
  obtain ⟨hg, hf, hin0⟩ := okE_parts hk
  have hin : Hid (∀ f ∈ F, 0 ≤ f ∧ f < G.length) := hin0
  clear hin0
  obtain ⟨ie, hie, he0, he1, he2⟩ := info_parts Try.infoEnt
  have k0 := Blk.new w #[.slice (some ⟨p1, q1, none⟩) G.length c1, .slice (some ⟨p2, q2, none⟩) F.length c2] 26
  go_enter Try.func19, Try.ntmps19
  go_wp2_with fail
  refine (specEntsOk_any _ _ c1 c2 G F _ (h1.later (by (repeat (first | with_reducible exact Below.refl _ _ | with_reducible refine bl_alloc ?_ _ | with_reducible refine bl_drewN ?_ _ | with_reducible refine bl_drew ?_ | with_reducible refine bl_setCell ?_ (by first | exact Nat.le_refl _ | (dsimp only; omega) | (simp <;> omega)) _ | with_reducible refine bl_trans ?_ (by with_reducible assumption))))) (h2.later (by (repeat (first | with_reducible exact Below.refl _ _ | with_reducible refine bl_alloc ?_ _ | with_reducible refine bl_drewN ?_ _ | with_reducible refine bl_drew ?_ | with_reducible refine bl_setCell ?_ (by first | exact Nat.le_refl _ | (dsimp only; omega) | (simp <;> omega)) _ | with_reducible refine bl_trans ?_ (by with_reducible assumption)))))).mono ?_
  rintro e w1 ⟨rfl, hb1⟩
  rw [hk]
  have L1 : Below w.heap.size w w1 := by (repeat (first | with_reducible exact Below.refl _ _ | with_reducible refine bl_alloc ?_ _ | with_reducible refine bl_drewN ?_ _ | with_reducible refine bl_drew ?_ | with_reducible refine bl_setCell ?_ (by first | exact Nat.le_refl _ | (dsimp only; omega) | (simp <;> omega)) _ | with_reducible refine bl_trans ?_ (by with_reducible assumption)))
  have K1 := k0.later hb1
  clear k0 hb1
  obtain ⟨x0, x1, x2⟩ := K1.two
  go_wp2_with fail
  refine (l2Copy_any p1 q1 c1 p2 q2 c2 G F _ (h1.later L1) (h2.later L1) (by omega) (by omega)).mono ?_
  rintro e w2 ⟨g0, c0, f0, d0, rfl, v1, v2, hne, hb2⟩
  have L2 := bl_trans L1 hb2
  have K2 := K1.later hb2
  have eg := v1.ge
  have ef := v2.ge
  have s1 := K1.lt
  clear x0 x1 x2 K1
  obtain ⟨x0, x1, x2⟩ := K2.two
  go_upto_region 4 with fail
  have T3 : Th ((w2.setCell ⟨w.heap.size, 0, none⟩ (.slice (some ⟨g0, 0, none⟩) G.length c0)).setCell ⟨w.heap.size, 1, none⟩ (.slice (some ⟨f0, 0, none⟩) F.length d0)) w.heap.size w.heap.size g0 c0 f0 d0 (GK G F 0) (FK F 0) := by
    rw [GK_zero, FK_zero]
    exact ⟨(K2.set 0 (.slice (some ⟨g0, 0, none⟩) G.length c0)).set 1 (.slice (some ⟨f0, 0, none⟩) F.length d0), ((v1.mono (B' := w.heap.size) (by omega)).other (n := w.heap.size) (by simp [Value.ownBlock]; omega) 0 _).other (n := w.heap.size) (by simp [Value.ownBlock]; omega) 1 _, ((v2.mono (B' := w.heap.size) (by omega)).other (n := w.heap.size) (by simp [Value.ownBlock]; omega) 0 _).other (n := w.heap.size) (by simp [Value.ownBlock]; omega) 1 _, hne⟩
  have L3 : Below w.heap.size w ((w2.setCell ⟨w.heap.size, 0, none⟩ (.slice (some ⟨g0, 0, none⟩) G.length c0)).setCell ⟨w.heap.size, 1, none⟩ (.slice (some ⟨f0, 0, none⟩) F.length d0)) := (L2.setCell (Nat.le_refl _) _).setCell (Nat.le_refl _) _
  generalize hX : ((w2.setCell ⟨w.heap.size, 0, none⟩ (.slice (some ⟨g0, 0, none⟩) G.length c0)).setCell ⟨w.heap.size, 1, none⟩ (.slice (some ⟨f0, 0, none⟩) F.length d0)) = X at T3 L3 ⊢
  clear hX x0 x1 x2 K2 L2 L1 v1 v2 hb2 eg ef s1
  have hrow : ERow (X.alloc (.cells #[] 29)) w.heap.size (.slice (some ⟨X.heap.size, 0, none⟩) 0 0) (aheadK G F 0) :=
    World.ownsRow_lit (base := w.heap.size) (e := 29) (size := 2) X #[] 0 L3.size (by unfold maxLen; omega) (by simp)
  have T4 := T3.kept (grown_of_below (bl_alloc (Below.refl _ X) (.cells #[] 29))) (by simp) (by simp) (by simp)
  have L4 := bl_alloc L3 (.cells #[] 29)
  clear T3 L3
  go_wp2_with fail
  go_loopw [6, 7] (fun v i wr => ∃ k : Nat, k ≤ N ∧ k ≤ F.length + 2000 - G.length ∧ i = .int .i64 k ∧ ERow wr w.heap.size v (aheadK G F k) ∧ (∃ g c f d, Th wr w.heap.size w.heap.size g c f d (GK G F k) (FK F k)) ∧ Below w.heap.size w wr) (fun _ i _ => N - (intOf i).toNat)
  case atStart => exact ⟨0, Nat.zero_le _, by omega, rfl, hrow, ⟨_, _, _, _, T4⟩, L4⟩
  case round =>
    clear hrow T4 L4
    obtain ⟨k, hkN, hkM, rfl, hrow, ⟨g, c, f, d, T⟩, L⟩ := hrel
    obtain ⟨x0, x1, x2⟩ := T.k.two
    by_cases hlt : k < N
    · have hltI : (k : Int) < (N : Int) := by omega
      by_cases hfull : k < F.length + 2000 - G.length
      · obtain ⟨p, hp⟩ : ∃ p, Hid (takeAt G F k = p) := ⟨_, rfl⟩
        obtain ⟨a, b⟩ := p
        have hT : Hid (take1 (GK G F k) (FK F k) = (GK G F (k + 1), FK F (k + 1), (a, b), 0)) := by
          show _ = _
          rw [take1_step hg hf hfull, hp.out]
        have hA : Hid (aheadK G F (k + 1) = aheadK G F k ++ [(a, b)]) := by
          show _ = _
          rw [aheadK_succ, hp.out]
        have hlA := aheadK_len G F k
        go_wp2_with fail
        refine (l2Take_all w.heap.size g c f d (GK G F k) (FK F k) _ T.v T.u T.n (FK_in hin.out) (by rw [GK_len]; omega) (by rw [FK_len]; omega) L.size).mono ?_
        rw [hT.out]
        rintro e w3 ⟨g1, c1', f1, d1, rfl, t1, t2, hne1, hgr⟩
        obtain ⟨cur, hcur⟩ := T.v.blk
        have hapE := hrow.apartB hcur (by decide)
        have hgk : ¬ (some g : Option Nat) = some w.heap.size := fun e => T.v.apartBox T.k (by decide) (by simpa [Value.ownBlock] using e)
        have K3 := T.k.kept' hgr hgk
        have R3 := hrow.kept hgr hapE
        have L3 : Below w.heap.size w w3 := L.grown hgr L.size (fun k h => by simp at h; have := T.v.ge; omega)
        have s3 := K3.lt
        clear x0 x1 x2 hcur hapE hgk hgr hrow T L
        obtain ⟨x0, x1, x2⟩ := K3.two
        go_upto_region 12 with fail
        have b1 := t1.apartBox K3 (by decide)
        have b2 := t2.apartBox K3 (by decide)
        have b3 := R3.apartB K3 (by decide)
        have T4 : Th ((((w3.setCell ⟨w.heap.size, 0, none⟩ (.slice (some ⟨g1, 0, none⟩) (GK G F (k + 1)).length c1')).setCell ⟨w.heap.size, 1, none⟩ (.slice (some ⟨f1, 0, none⟩) (FK F (k + 1)).length d1)).alloc (.cells #[.slice (some ⟨g1, 0, none⟩) (GK G F (k + 1)).length c1', .slice (some ⟨f1, 0, none⟩) (FK F (k + 1)).length d1] 26)).alloc (.cells #[.int .i64 a, .int .i64 b] 29)) w.heap.size w.heap.size g1 c1' f1 d1 (GK G F (k + 1)) (FK F (k + 1)) :=
          ⟨(((K3.set 0 (.slice (some ⟨g1, 0, none⟩) (GK G F (k + 1)).length c1')).set 1 (.slice (some ⟨f1, 0, none⟩) (FK F (k + 1)).length d1)).alloc _).alloc _, (((t1.other b1 0 _).other b1 1 _).alloc _).alloc _, (((t2.other b2 0 _).other b2 1 _).alloc _).alloc _, hne1⟩
        have R4 : ERow ((((w3.setCell ⟨w.heap.size, 0, none⟩ (.slice (some ⟨g1, 0, none⟩) (GK G F (k + 1)).length c1')).setCell ⟨w.heap.size, 1, none⟩ (.slice (some ⟨f1, 0, none⟩) (FK F (k + 1)).length d1)).alloc (.cells #[.slice (some ⟨g1, 0, none⟩) (GK G F (k + 1)).length c1', .slice (some ⟨f1, 0, none⟩) (FK F (k + 1)).length d1] 26)).alloc (.cells #[.int .i64 a, .int .i64 b] 29)) w.heap.size _ _ := (((R3.other b3 0 _).other b3 1 _).alloc _).alloc _
        have E4 : Blk ((((w3.setCell ⟨w.heap.size, 0, none⟩ (.slice (some ⟨g1, 0, none⟩) (GK G F (k + 1)).length c1')).setCell ⟨w.heap.size, 1, none⟩ (.slice (some ⟨f1, 0, none⟩) (FK F (k + 1)).length d1)).alloc (.cells #[.slice (some ⟨g1, 0, none⟩) (GK G F (k + 1)).length c1', .slice (some ⟨f1, 0, none⟩) (FK F (k + 1)).length d1] 26)).alloc (.cells #[.int .i64 a, .int .i64 b] 29)) (w3.heap.size + 1) #[.int .i64 a, .int .i64 b] 29 := Blk.new' _ _ _ (by simp)
        have L4 : Below w.heap.size w ((((w3.setCell ⟨w.heap.size, 0, none⟩ (.slice (some ⟨g1, 0, none⟩) (GK G F (k + 1)).length c1')).setCell ⟨w.heap.size, 1, none⟩ (.slice (some ⟨f1, 0, none⟩) (FK F (k + 1)).length d1)).alloc (.cells #[.slice (some ⟨g1, 0, none⟩) (GK G F (k + 1)).length c1', .slice (some ⟨f1, 0, none⟩) (FK F (k + 1)).length d1] 26)).alloc (.cells #[.int .i64 a, .int .i64 b] 29)) := bl_alloc (bl_alloc ((L3.setCell (Nat.le_refl _) _).setCell (Nat.le_refl _) _) _) _
        generalize hX : (((w3.setCell ⟨w.heap.size, 0, none⟩ (.slice (some ⟨g1, 0, none⟩) (GK G F (k + 1)).length c1')).setCell ⟨w.heap.size, 1, none⟩ (.slice (some ⟨f1, 0, none⟩) (FK F (k + 1)).length d1)).alloc (.cells #[.slice (some ⟨g1, 0, none⟩) (GK G F (k + 1)).length c1', .slice (some ⟨f1, 0, none⟩) (FK F (k + 1)).length d1] 26)).alloc (.cells #[.int .i64 a, .int .i64 b] 29) = W at T4 R4 E4 L4 ⊢
        clear hX x0 x1 x2 b1 b2 b3 K3 R3 L3 t1 t2 hne1
        obtain ⟨y0, y1, y2⟩ := E4.two
        have ap0 := R4.apartB T4.k (by decide)
        have ap1 : _ := fun (h : _) => (T4.v.blk).elim fun _ hc => R4.apartB hc (by decide) h
        have ap2 : _ := fun (h : _) => (T4.u.blk).elim fun _ hc => R4.apartB hc (by decide) h
        have hlt3 := R4.lt
        go_wp2_with (at_builtin; refine wpList_append_own _ rfl _ _ 36 rfl w.heap.size 29 ie (.agg #[.int .i64 0, .int .i64 0]) 2 16 Try.underlying36 hie he0 he1 he2 rfl (by decide) _ _ _ rfl (World.ownsRow.alloc R4 _) ⟨W.heap.size, 0, none⟩ 1 1 [.int .i64 a, .int .i64 b] rfl rfl ?c1 ?c2 ?c3 ?c4 ?c5 ?_)
        case c1 =>
          intro i u hi
          match i, hi with
          | 0, hi => simp at hi; subst hi; simp [Addr.add]
          | 1, hi => simp at hi; subst hi; simp [Addr.add]
        case c2 => intro u hu; simp at hu; rcases hu with rfl | rfl <;> rfl
        case c3 => unfold maxLen; omega
        case c4 => omega
        case c5 => have := L4.size; simp; omega
        intro v' w5 hown' hgrow _
        have ga := grown_of_below (bl_alloc (Below.refl _ W) (.cells #[.int .i64 a, .int .i64 b] 29))
        have hr' : ERow w5 w.heap.size v' (aheadK G F (k + 1)) := by
          unfold ERow
          rw [hA.out, ecells_app, List.length_append, aheadK_len]
          exact hown'
        have T5 := (T4.kept ga (by simp) (by simp) (by simp)).kept hgrow ap0 ap1 ap2
        have L5 : Below w.heap.size w w5 := (L4.grown ga L4.size (fun k h => by cases h)).grown hgrow (Nat.le_trans L4.size ga.size) (fun k h => (hlt3 k h).1)
        clear hown' hgrow ga ap0 ap1 ap2 hlt3 y0 y1 y2 R4 T4 L4 E4
        go_wp2_with fail
        go_roundw
        case rel => exact ⟨k + 1, by omega, by omega, by go_num, hr', ⟨_, _, _, _, T5⟩, L5⟩
        case measure => simp [intOf]; omega
      · have hT : Hid (take1 (GK G F k) (FK F k) = (GK G F k, FK F k, (0, 0), 3)) := take1_full hg hf (by omega)
        have hO : Hid (aheadOk G F (N : Int) = false) := by simp [Hid, aheadOk, hk]; omega
        have hL : Hid (aheadL G F (N : Int) = []) := by simp [Hid, aheadL, hO.out]
        go_wp2_with fail
        refine (l2Take_all w.heap.size g c f d (GK G F k) (FK F k) _ T.v T.u T.n (FK_in hin.out) (by rw [GK_len]; omega) (by rw [FK_len]; omega) L.size).mono ?_
        rw [hT.out]
        rintro e w3 ⟨g1, c1', f1, d1, rfl, t1, t2, hne1, hgr⟩
        have L3 : Below w.heap.size w w3 := L.grown hgr L.size (fun k h => by simp at h; have := T.v.ge; omega)
        clear x0 x1 x2 hgr hrow T L
        go_wp2_with fail
        go_ret2
        refine ⟨.slice none 0 0, ret2_b hO.out.symm, by rw [hL.out]; exact ERow.nil _ _, ?_⟩
        (repeat (first | with_reducible exact Below.refl _ _ | with_reducible refine bl_alloc ?_ _ | with_reducible refine bl_drewN ?_ _ | with_reducible refine bl_drew ?_ | with_reducible refine bl_setCell ?_ (by first | exact Nat.le_refl _ | (dsimp only; omega) | (simp <;> omega)) _ | with_reducible refine bl_trans ?_ (by with_reducible assumption)))
    · have hkN' : k = N := by omega
      subst hkN'
      have hO : Hid (aheadOk G F (k : Int) = true) := by simp [Hid, aheadOk, hk]; omega
      have hL : Hid (aheadL G F (k : Int) = aheadK G F k) := by simp [Hid, aheadL, hO.out]
      go_wp2_with fail
      go_ret2
      refine ⟨_, ret2_b hO.out.symm, by rw [hL.out]; exact hrow, L⟩

theorem specAhead_any (p1 q1 c1 p2 q2 c2 : Nat) (G F : List Int) (n : Int) (w : World) (h1 : Ints w (some ⟨p1, q1, none⟩) G) (h2 : Ints w (some ⟨p2, q2, none⟩) F) :
    Calls Try.prog 19 #[.agg #[.slice (some ⟨p1, q1, none⟩) G.length c1, .slice (some ⟨p2, q2, none⟩) F.length c2], .int .i64 n] w fun e w' => ∃ v, e = .returned (.tuple #[v, .bool (aheadOk G F n)]) ∧ ERow w' w.heap.size v (aheadL G F n) ∧ Below w.heap.size w w' := by
  by_cases hc : okE G F = false ∨ n < 0 ∨ 2000 < n
  · exact specAhead_no p1 q1 c1 p2 q2 c2 G F n w h1 h2 hc
  · have hk : okE G F = true := by
      cases h : okE G F
      · exact absurd (Or.inl h) hc
      · rfl
    obtain ⟨N, rfl⟩ : ∃ N : Nat, n = N := ⟨n.toNat, by omega⟩
    exact specAhead_yes p1 q1 c1 p2 q2 c2 G F N w h1 h2 hk (by omega)
end Go.Proofs.Ytcllkmdlheggkaa
