import Derived.Test.YtnockfpobpidgaaGreatSl34
namespace Go.Proofs.YtnockfpobpidgaaGreat
open Go.RowKit
set_option linter.unusedVariables false
set_option linter.unusedSimpArgs false
set_option maxHeartbeats 2000000 in
theorem copyInts_gen (s : Option Addr) (c : Nat) (G : List Int) (w : World) (hG : Ints w s G) (hn : s = none → c = 0) (hl : G.length ≤ 1048576) :
  Calls Tryz.prog 161 #[.slice s G.length c] w fun e w' => ∃ s c, e = .returned (.slice s G.length c) ∧ VRow w' w.heap.size (.slice s G.length c) G ∧ Below w.heap.size w w' := by
 cases s with
 | none =>
  have hc := hn rfl
  subst hc
  have h0 : G = [] := by
   rcases hG with h | ⟨pb, po, h, _⟩
   ·
    exact h
   ·
    cases h
  subst h0
  go_enter Tryz.func161, Tryz.ntmps161
  go_wp2_with fail
  go_ret
  exact ⟨none, 0, rfl, World.ownsRow_nil _ _ _ _, Below.refl _ _⟩
 | some a =>
  by_cases h0 : G = []
  ·
   subst h0
   go_enter Tryz.func161, Tryz.ntmps161
   go_wp2_with fail
   go_ret
   exact ⟨none, 0, rfl, World.ownsRow_nil _ _ _ _, Below.refl _ _⟩
  ·
   obtain ⟨pb, po, h, _⟩ : ∃ pb po, some a = some (⟨pb, po, none⟩ : Addr) ∧ True := by
    rcases hG with h | ⟨pb, po, h, _⟩
    ·
     exact absurd h h0
    ·
     exact ⟨pb, po, h, trivial⟩
   rw [h] at hG ⊢
   exact copyInts_is pb po c G w hG hl
set_option maxHeartbeats 4000000 in
theorem copyEnts_gen (s1 s2 : Option Addr) (c1 c2 : Nat) (G F : List Int) (w : World) (h1 : Ints w s1 G) (h2 : Ints w s2 F) (l1 : G.length ≤ 1048576) (l2 : F.length ≤ 1048576) (n1 : s1 = none → c1 = 0) (n2 : s2 = none → c2 = 0) :
  Calls Tryz.prog 135 #[.agg #[.slice s1 G.length c1, .slice s2 F.length c2]] w fun e w' => ∃ s c t d, e = .returned (.agg #[.slice s G.length c, .slice t F.length d]) ∧
   VRow w' w.heap.size (.slice s G.length c) G ∧ VRow w' w.heap.size (.slice t F.length d) F ∧ Apart (.slice s G.length c) (.slice t F.length d) ∧ Below w.heap.size w w' := by
 have hal := alloc_old
 have haf := alloc_oldf
 obtain ⟨K, J⟩ := blk2 w #[.slice s1 G.length c1, .slice s2 F.length c2] #[.slice none 0 0, .slice none 0 0] 36 36
 go_enter Tryz.func135, Tryz.ntmps135
 go_wp2_with fail
 obtain ⟨W, hW⟩ : ∃ W, W = ((w.alloc (.cells #[.slice s1 G.length c1, .slice s2 F.length c2] 36)).alloc (.cells #[.slice none 0 0, .slice none 0 0] 36)) := ⟨_, rfl⟩
 have L0 : Below w.heap.size w W := by rw [hW]; (repeat (first | with_reducible exact Below.refl _ _ | with_reducible refine bl_alloc ?_ _ | with_reducible refine bl_drewN ?_ _ | with_reducible refine bl_drew ?_ | with_reducible refine bl_setCell ?_ (by first | exact Nat.le_refl _ | (dsimp only; omega) | (simp <;> omega)) _ | with_reducible refine bl_trans ?_ (by with_reducible assumption)))
 have sW : W.heap.size = w.heap.size + 2 := by rw [hW]; simp
 rw [← hW] at K J ⊢
 clear hW
 have K : Blk W.drew w.heap.size #[.slice s1 G.length c1, .slice s2 F.length c2] 36 := K
 have J : Blk W.drew (w.heap.size + 1) #[.slice none 0 0, .slice none 0 0] 36 := J
 have L := bl_drew L0
 have dW : W.drew.heap.size = W.heap.size := rfl
 have M : Below W.heap.size W W.drew := bl_drew (Below.refl _ _)
 obtain ⟨x0, x1, x2⟩ := K.two
 obtain ⟨y0, y1, y2⟩ := J.two
 go_region_with (first
  | (go_at_call_of 161 (Value.slice s1 G.length c1); refine (copyInts_gen s1 c1 G _ (h1.later L) n1 l1).mono ?_; rintro e w3 ⟨s, c, rfl, hv1, hb⟩; have hs3 := hb.size; have L := bl_trans L hb; have M := bl_trans M hb; have K := K.later hb; have J := J.later hb; obtain ⟨x0, x1, x2⟩ := K.two; obtain ⟨y0, y1, y2⟩ := J.two)
  | (go_at_call_of 161 (Value.slice s2 F.length c2); refine (copyInts_gen s2 c2 F _ (h2.later L) n2 l2).mono ?_; rintro e w4 ⟨t, d, rfl, hv2, hb⟩; have L := bl_trans L hb; have M := bl_trans M hb; have K := K.later hb; have J := J.later hb; obtain ⟨x0, x1, x2⟩ := K.two; obtain ⟨y0, y1, y2⟩ := J.two; have hv1lt := (id hv1).lt; have hv1 := (id hv1).later hb))
 all_goals
  have a1 := hv1.lt
  have a2 := hv2.lt
  have hsz := hv1lt
  have m3 := hb.size
  have mM := M.size
  go_wp2_with fail
  refine bodyPost_ret (v := .agg #[.slice s G.length c, .slice t F.length d]) (by simp [results, Tryz.results135, go_sem, y0, y1]) rfl ⟨s, c, t, d, rfl, ?_, ?_, ?_, ?_⟩
  ·
   exact ((hv1.mono (by omega)).other (fun e => by have := (a1 _ e).1; omega) _ _).other (fun e => by have := (a1 _ e).1; omega) _ _
  ·
   exact ((hv2.mono (by have := L0.size; omega)).other (fun e => by have := (a2 _ e).1; omega) _ _).other (fun e => by have := (a2 _ e).1; omega) _ _
  ·
   intro k hk1 hk2
   have := (hsz k hk1).2
   have := (a2 k hk2).1
   omega
  ·
   (repeat (first | with_reducible exact Below.refl _ _ | with_reducible refine bl_alloc ?_ _ | with_reducible refine bl_drewN ?_ _ | with_reducible refine bl_drew ?_ | with_reducible refine bl_setCell ?_ (by first | exact Nat.le_refl _ | (dsimp only; omega) | (simp <;> omega)) _ | with_reducible refine bl_trans ?_ (by with_reducible assumption)))
set_option maxHeartbeats 8000000 in
theorem implGive_gen (s1 s2 : Option Addr) (c1 c2 : Nat) (G F : List Int) (a g : Int) (w : World) (h1 : Ints w s1 G) (h2 : Ints w s2 F) (l1 : G.length ≤ 1048576) (l2 : F.length ≤ 1048576) (n1 : s1 = none → c1 = 0) (n2 : s2 = none → c2 = 0) :
  Calls Tryz.prog 90 #[.agg #[.slice s1 G.length c1, .slice s2 F.length c2], .agg #[.int .i64 a, .int .i64 g]] w fun e w' => Gives (giveB G F a g) w e w' := by
 have hal := alloc_old
 have haf := alloc_oldf
 obtain ⟨k0, k1, k2⟩ := blk3 w #[.slice s1 G.length c1, .slice s2 F.length c2] #[.int .i64 a, .int .i64 g] #[.slice none 0 0, .slice none 0 0] 36 48 36
 cases hk : okE G F
 ·
  have hO : Hid (giveB G F a g = (G, F, 1)) := by simp [Hid, giveB, hk]
  go_enter Tryz.func90, Tryz.ntmps90
  go_wp2_with fail
  refine (copyEnts_gen s1 s2 c1 c2 G F _ (h1.later (by (repeat (first | with_reducible exact Below.refl _ _ | with_reducible refine bl_alloc ?_ _ | with_reducible refine bl_drewN ?_ _ | with_reducible refine bl_drew ?_ | with_reducible refine bl_setCell ?_ (by first | exact Nat.le_refl _ | (dsimp only; omega) | (simp <;> omega)) _ | with_reducible refine bl_trans ?_ (by with_reducible assumption))))) (h2.later (by (repeat (first | with_reducible exact Below.refl _ _ | with_reducible refine bl_alloc ?_ _ | with_reducible refine bl_drewN ?_ _ | with_reducible refine bl_drew ?_ | with_reducible refine bl_setCell ?_ (by first | exact Nat.le_refl _ | (dsimp only; omega) | (simp <;> omega)) _ | with_reducible refine bl_trans ?_ (by with_reducible assumption))))) l1 l2 n1 n2).mono ?_
  rintro e w1 ⟨s, c, t, d, rfl, v1, v2, hap, hb1⟩
  have ev1 := v1.lt
  have ev2 := v2.lt
  simp only [World.size_alloc] at ev1 ev2
  have L1 : Below w.heap.size w w1 := by (repeat (first | with_reducible exact Below.refl _ _ | with_reducible refine bl_alloc ?_ _ | with_reducible refine bl_drewN ?_ _ | with_reducible refine bl_drew ?_ | with_reducible refine bl_setCell ?_ (by first | exact Nat.le_refl _ | (dsimp only; omega) | (simp <;> omega)) _ | with_reducible refine bl_trans ?_ (by with_reducible assumption)))
  have K0 := (k0.later hb1).alloc (.cells #[.slice s G.length c, .slice t F.length d] 36)
  have K1 := (k1.later hb1).alloc (.cells #[.slice s G.length c, .slice t F.length d] 36)
  have K2 := (k2.later hb1).alloc (.cells #[.slice s G.length c, .slice t F.length d] 36)
  have K3 := Blk.new w1 #[.slice s G.length c, .slice t F.length d] 36
  have V1 := (v1.mono (B' := w.heap.size) (by simp; omega)).alloc (.cells #[.slice s G.length c, .slice t F.length d] 36)
  have V2 := (v2.mono (B' := w.heap.size) (by simp; omega)).alloc (.cells #[.slice s G.length c, .slice t F.length d] 36)
  have LX := bl_alloc L1 (.cells #[.slice s G.length c, .slice t F.length d] 36)
  have s1 : w.heap.size + 3 ≤ w1.heap.size := by have := hb1.size; simp at this; omega
  obtain ⟨x0, x1, x2⟩ := (k0.later hb1).two
  clear hb1 v1 v2 k0 k1 k2
  go_wp2_with fail
  refine (implEntsOk_any _ _ _ _ G F _ (h1.later LX) (h2.later LX) l2).mono ?_
  rintro e w2 ⟨rfl, hb2⟩
  rw [hk]
  have L2 := bl_trans LX hb2
  have N0 := K0.later hb2
  have N1 := K1.later hb2
  have N2 := K2.later hb2
  have N3 := K3.later hb2
  have U1 := V1.later hb2
  have U2 := V2.later hb2
  clear K0 K1 K2 K3 V1 V2 LX hb2 x0 x1 x2 L1
  obtain ⟨x0, x1, x2⟩ := N0.two
  obtain ⟨y0, y1, y2⟩ := N1.two
  obtain ⟨z0, z1, z2⟩ := N2.two
  obtain ⟨r0, r1, r2⟩ := N3.two
  have e1 : ¬ w1.heap.size = w.heap.size + 1 + 1 := by omega
  have e2 : ¬ w.heap.size + 1 + 1 = w1.heap.size := by omega
  go_wp2_with fail
  refine bodyPost_ret (v := .tuple #[.agg #[.slice s G.length c, .slice t F.length d], .int .i64 1]) (by simp [results, Tryz.results90, go_sem, z0, z1]) rfl ?_
  rw [hO.out]
  refine ⟨_, _, _, _, rfl, ?_, ?_, hap, ?_⟩
  ·
   exact (U1.other (fun e => by have := (ev1 _ e).1; omega) _ _).other (fun e => by have := (ev1 _ e).1; omega) _ _
  ·
   exact (U2.other (fun e => by have := (ev2 _ e).1; omega) _ _).other (fun e => by have := (ev2 _ e).1; omega) _ _
  ·
   (repeat (first | with_reducible exact Below.refl _ _ | with_reducible refine bl_alloc ?_ _ | with_reducible refine bl_drewN ?_ _ | with_reducible refine bl_drew ?_ | with_reducible refine bl_setCell ?_ (by first | exact Nat.le_refl _ | (dsimp only; omega) | (simp <;> omega)) _ | with_reducible refine bl_trans ?_ (by with_reducible assumption)))
 ·
  cases hlv : l2B G F a g
  ·
   have hO : Hid (giveB G F a g = (G, F, 2)) := by simp [Hid, giveB, hk, hlv]
   go_enter Tryz.func90, Tryz.ntmps90
   go_wp2_with fail
   refine (copyEnts_gen s1 s2 c1 c2 G F _ (h1.later (by (repeat (first | with_reducible exact Below.refl _ _ | with_reducible refine bl_alloc ?_ _ | with_reducible refine bl_drewN ?_ _ | with_reducible refine bl_drew ?_ | with_reducible refine bl_setCell ?_ (by first | exact Nat.le_refl _ | (dsimp only; omega) | (simp <;> omega)) _ | with_reducible refine bl_trans ?_ (by with_reducible assumption))))) (h2.later (by (repeat (first | with_reducible exact Below.refl _ _ | with_reducible refine bl_alloc ?_ _ | with_reducible refine bl_drewN ?_ _ | with_reducible refine bl_drew ?_ | with_reducible refine bl_setCell ?_ (by first | exact Nat.le_refl _ | (dsimp only; omega) | (simp <;> omega)) _ | with_reducible refine bl_trans ?_ (by with_reducible assumption))))) l1 l2 n1 n2).mono ?_
   rintro e w1 ⟨s, c, t, d, rfl, v1, v2, hap, hb1⟩
   have ev1 := v1.lt
   have ev2 := v2.lt
   simp only [World.size_alloc] at ev1 ev2
   have L1 : Below w.heap.size w w1 := by (repeat (first | with_reducible exact Below.refl _ _ | with_reducible refine bl_alloc ?_ _ | with_reducible refine bl_drewN ?_ _ | with_reducible refine bl_drew ?_ | with_reducible refine bl_setCell ?_ (by first | exact Nat.le_refl _ | (dsimp only; omega) | (simp <;> omega)) _ | with_reducible refine bl_trans ?_ (by with_reducible assumption)))
   have K0 := (k0.later hb1).alloc (.cells #[.slice s G.length c, .slice t F.length d] 36)
   have K1 := (k1.later hb1).alloc (.cells #[.slice s G.length c, .slice t F.length d] 36)
   have K2 := (k2.later hb1).alloc (.cells #[.slice s G.length c, .slice t F.length d] 36)
   have K3 := Blk.new w1 #[.slice s G.length c, .slice t F.length d] 36
   have V1 := (v1.mono (B' := w.heap.size) (by simp; omega)).alloc (.cells #[.slice s G.length c, .slice t F.length d] 36)
   have V2 := (v2.mono (B' := w.heap.size) (by simp; omega)).alloc (.cells #[.slice s G.length c, .slice t F.length d] 36)
   have LX := bl_alloc L1 (.cells #[.slice s G.length c, .slice t F.length d] 36)
   have s1 : w.heap.size + 3 ≤ w1.heap.size := by have := hb1.size; simp at this; omega
   obtain ⟨x0, x1, x2⟩ := (k0.later hb1).two
   clear hb1 v1 v2 k0 k1 k2
   go_wp2_with fail
   refine (implEntsOk_any _ _ _ _ G F _ (h1.later LX) (h2.later LX) l2).mono ?_
   rintro e w2 ⟨rfl, hb2⟩
   rw [hk]
   have L2 := bl_trans LX hb2
   have N0 := K0.later hb2
   have N1 := K1.later hb2
   have N2 := K2.later hb2
   have N3 := K3.later hb2
   have U1 := V1.later hb2
   have U2 := V2.later hb2
   clear K0 K1 K2 K3 V1 V2 LX hb2 x0 x1 x2 L1
   obtain ⟨x0, x1, x2⟩ := N0.two
   obtain ⟨y0, y1, y2⟩ := N1.two
   obtain ⟨z0, z1, z2⟩ := N2.two
   obtain ⟨r0, r1, r2⟩ := N3.two
   have e1 : ¬ w1.heap.size = w.heap.size + 1 + 1 := by omega
   have e2 : ¬ w.heap.size + 1 + 1 = w1.heap.size := by omega
   go_wp2_with fail
   refine (implLive_any _ _ _ _ G F a g _ (h1.later L2) (h2.later L2) l1 l2).mono ?_
   rintro e w3 ⟨rfl, hb3⟩
   rw [show liveB G F a g = false by simp [liveB, hk, hlv]]
   have L3 := bl_trans L2 hb3
   have M0 := N0.later hb3
   have M1 := N1.later hb3
   have M2 := N2.later hb3
   have M3 := N3.later hb3
   have T1 := U1.later hb3
   have T2 := U2.later hb3
   clear N0 N1 N2 N3 U1 U2 L2 hb3 x0 x1 x2 y0 y1 y2 z0 z1 z2 r0 r1 r2
   obtain ⟨x0, x1, x2⟩ := M0.two
   obtain ⟨y0, y1, y2⟩ := M1.two
   obtain ⟨z0, z1, z2⟩ := M2.two
   obtain ⟨r0, r1, r2⟩ := M3.two
   go_wp2_with fail
   refine bodyPost_ret (v := .tuple #[.agg #[.slice s G.length c, .slice t F.length d], .int .i64 2]) (by simp [results, Tryz.results90, go_sem, z0, z1]) rfl ?_
   rw [hO.out]
   refine ⟨_, _, _, _, rfl, ?_, ?_, hap, ?_⟩
   ·
    exact (T1.other (fun e => by have := (ev1 _ e).1; omega) _ _).other (fun e => by have := (ev1 _ e).1; omega) _ _
   ·
    exact (T2.other (fun e => by have := (ev2 _ e).1; omega) _ _).other (fun e => by have := (ev2 _ e).1; omega) _ _
   ·
    (repeat (first | with_reducible exact Below.refl _ _ | with_reducible refine bl_alloc ?_ _ | with_reducible refine bl_drewN ?_ _ | with_reducible refine bl_drew ?_ | with_reducible refine bl_setCell ?_ (by first | exact Nat.le_refl _ | (dsimp only; omega) | (simp <;> omega)) _ | with_reducible refine bl_trans ?_ (by with_reducible assumption)))
  ·
   have hO : Hid (giveB G F a g = (G.set a.toNat (ng g), F ++ [a], 0)) := by simp [Hid, giveB, hk, hlv]
   obtain ⟨q, rfl, hq, e8, e9⟩ := l2B_parts hlv hk
   go_enter Tryz.func90, Tryz.ntmps90
   go_wp2_with fail
   refine (copyEnts_gen s1 s2 c1 c2 G F _ (h1.later (by (repeat (first | with_reducible exact Below.refl _ _ | with_reducible refine bl_alloc ?_ _ | with_reducible refine bl_drewN ?_ _ | with_reducible refine bl_drew ?_ | with_reducible refine bl_setCell ?_ (by first | exact Nat.le_refl _ | (dsimp only; omega) | (simp <;> omega)) _ | with_reducible refine bl_trans ?_ (by with_reducible assumption))))) (h2.later (by (repeat (first | with_reducible exact Below.refl _ _ | with_reducible refine bl_alloc ?_ _ | with_reducible refine bl_drewN ?_ _ | with_reducible refine bl_drew ?_ | with_reducible refine bl_setCell ?_ (by first | exact Nat.le_refl _ | (dsimp only; omega) | (simp <;> omega)) _ | with_reducible refine bl_trans ?_ (by with_reducible assumption))))) l1 l2 n1 n2).mono ?_
   rintro e w1 ⟨s, c, t, d, rfl, v1, v2, hap, hb1⟩
   have ev1 := v1.lt
   have ev2 := v2.lt
   simp only [World.size_alloc] at ev1 ev2
   have L1 : Below w.heap.size w w1 := by (repeat (first | with_reducible exact Below.refl _ _ | with_reducible refine bl_alloc ?_ _ | with_reducible refine bl_drewN ?_ _ | with_reducible refine bl_drew ?_ | with_reducible refine bl_setCell ?_ (by first | exact Nat.le_refl _ | (dsimp only; omega) | (simp <;> omega)) _ | with_reducible refine bl_trans ?_ (by with_reducible assumption)))
   have K0 := (k0.later hb1).alloc (.cells #[.slice s G.length c, .slice t F.length d] 36)
   have K1 := (k1.later hb1).alloc (.cells #[.slice s G.length c, .slice t F.length d] 36)
   have K2 := (k2.later hb1).alloc (.cells #[.slice s G.length c, .slice t F.length d] 36)
   have K3 := Blk.new w1 #[.slice s G.length c, .slice t F.length d] 36
   have V1 := (v1.mono (B' := w.heap.size) (by simp; omega)).alloc (.cells #[.slice s G.length c, .slice t F.length d] 36)
   have V2 := (v2.mono (B' := w.heap.size) (by simp; omega)).alloc (.cells #[.slice s G.length c, .slice t F.length d] 36)
   have LX := bl_alloc L1 (.cells #[.slice s G.length c, .slice t F.length d] 36)
   have s1 : w.heap.size + 3 ≤ w1.heap.size := by have := hb1.size; simp at this; omega
   obtain ⟨x0, x1, x2⟩ := (k0.later hb1).two
   clear hb1 v1 v2 k0 k1 k2
   go_wp2_with fail
   refine (implEntsOk_any _ _ _ _ G F _ (h1.later LX) (h2.later LX) l2).mono ?_
   rintro e w2 ⟨rfl, hb2⟩
   rw [hk]
   have L2 := bl_trans LX hb2
   have N0 := K0.later hb2
   have N1 := K1.later hb2
   have N2 := K2.later hb2
   have N3 := K3.later hb2
   have U1 := V1.later hb2
   have U2 := V2.later hb2
   clear K0 K1 K2 K3 V1 V2 LX hb2 x0 x1 x2 L1
   obtain ⟨x0, x1, x2⟩ := N0.two
   obtain ⟨y0, y1, y2⟩ := N1.two
   obtain ⟨z0, z1, z2⟩ := N2.two
   obtain ⟨r0, r1, r2⟩ := N3.two
   have e1 : ¬ w1.heap.size = w.heap.size + 1 + 1 := by omega
   have e2 : ¬ w.heap.size + 1 + 1 = w1.heap.size := by omega
   go_wp2_with fail
   refine (implLive_any _ _ _ _ G F q g _ (h1.later L2) (h2.later L2) l1 l2).mono ?_
   rintro e w3 ⟨rfl, hb3⟩
   rw [show liveB G F q g = true by simp [liveB, hk, hlv]]
   have L3 := bl_trans L2 hb3
   have M0 := N0.later hb3
   have M1 := N1.later hb3
   have M2 := N2.later hb3
   have M3 := N3.later hb3
   have T1 := U1.later hb3
   have T2 := U2.later hb3
   clear N0 N1 N2 N3 U1 U2 L2 hb3 x0 x1 x2 y0 y1 y2 z0 z1 z2 r0 r1 r2
   obtain ⟨x0, x1, x2⟩ := M0.two
   obtain ⟨y0, y1, y2⟩ := M1.two
   obtain ⟨z0, z1, z2⟩ := M2.two
   obtain ⟨r0, r1, r2⟩ := M3.two
   go_wp2_with fail
   obtain ⟨g0, rfl⟩ : ∃ g0, s = some ⟨g0, 0, none⟩ := by
    rcases T1.form with ⟨h, h'⟩ | ⟨g0, cap, h, _, hr⟩
    ·
     rw [h'] at hq; simp at hq
    ·
     simp only [Value.slice.injEq] at h
     exact ⟨g0, h.1⟩
   have eg0 := (ev1 g0 rfl).1
   have eg1 := (ev1 g0 rfl).2
   have hg0 := T1.ge
   have hgt : ∀ k, (Value.slice t F.length d).ownBlock = some k → ¬ k = g0 := fun k hk e => hap g0 rfl (by rw [hk, e])
   obtain ⟨old, hold⟩ : ∃ x, Hid (G[q]?.getD 0 = x) := ⟨_, rfl⟩
   obtain ⟨u1, u2⟩ := T1.cell hq
   rw [hold.out] at u1
   have hqI : (q : Int) < (G.length : Int) := by omega
   have hqI0 : (0 : Int) ≤ (q : Int) := by omega
   go_cut [5] (fun sv wx => sv = .int .i64 0 ∧ Blk wx (w.heap.size + 1) #[.int .i64 (q : Int), .int .i64 g] 48 ∧ Blk wx (w.heap.size + 1 + 1) #[.slice none 0 0, .slice none 0 0] 36 ∧ Blk wx w1.heap.size #[.slice (some ⟨g0, 0, none⟩) G.length c, .slice t F.length d] 36 ∧ VRow wx w.heap.size (.slice (some ⟨g0, 0, none⟩) G.length c) (G.set q (ng g)) ∧ VRow wx w.heap.size (.slice t F.length d) F ∧ Below w.heap.size w wx)
   case first =>
    go_region_with (first
     | (go_at_call 141; refine (nextGen_any g _ e8 e9).mono ?_; rintro e w' ⟨rfl, rfl⟩))
    all_goals
     go_wp2_with fail
     go_meet
     refine ⟨rfl, ?_, ?_, ?_, ?_, ?_, ?_⟩
     ·
      exact M1.other (m := g0) (by omega) q (.int .i64 (ng g))
     ·
      exact M2.other (m := g0) (by omega) q (.int .i64 (ng g))
     ·
      exact M3.other (m := g0) (by omega) q (.int .i64 (ng g))
     ·
      exact T1.setv q (ng g)
     ·
      exact T2.other (n := g0) (fun e => hgt g0 e rfl) q (.int .i64 (ng g))
     ·
      (repeat (first | with_reducible exact Below.refl _ _ | with_reducible refine bl_alloc ?_ _ | with_reducible refine bl_drewN ?_ _ | with_reducible refine bl_drew ?_ | with_reducible refine bl_setCell ?_ (by first | exact Nat.le_refl _ | (dsimp only; omega) | (simp <;> omega)) _ | with_reducible refine bl_trans ?_ (by with_reducible assumption)))
   case rest =>
    clear x0 x1 x2 y0 y1 y2 z0 z1 z2 r0 r1 r2 M0 M1 M2 M3 T1 T2 L3 u1 u2
    obtain ⟨rfl, M1, M2, M3, T1, T2, L3⟩ := hcut
    obtain ⟨y0, y1, y2⟩ := M1.two
    obtain ⟨r0, r1, r2⟩ := M3.two
    have hz := (Blk.new wc #[.int .i64 (q : Int)] 3).cell 0
    have T2a := T2.alloc (.cells #[.int .i64 (q : Int)] 3)
    have sB := M3.lt
    go_wp2_with (at_builtin; refine wpList_append_one _ rfl (.tmp 27) (.tmp 30) rfl w.heap.size (.slice t F.length d) F rfl T2a wc.heap.size (q : Int) rfl hz l2 ?_)
    intro f1 d1 w5 hv5 hg5 ho5 hl5
    have ev2' : ∀ k, (Value.slice t F.length d).ownBlock = some k → w.heap.size + 3 ≤ k ∧ k < w1.heap.size := fun k hk => by have := ev2 k hk; omega
    have hne1 : ¬ (Value.slice t F.length d).ownBlock = some (w.heap.size + 1 + 1) := fun e => by have := ev2' _ e; omega
    have hne2 : ¬ (Value.slice t F.length d).ownBlock = some w1.heap.size := fun e => by have := ev2' _ e; omega
    have hf1 : ¬ f1 = w.heap.size + 1 + 1 ∧ ¬ f1 = w1.heap.size ∧ ¬ g0 = f1 ∧ w.heap.size ≤ f1 := by
     rcases ho5 with h | h
     ·
      have := ev2' _ h
      have := hgt _ h
      omega
     ·
      (try simp at h); omega
    have M25 := (M2.alloc (.cells #[.int .i64 (q : Int)] 3)).kept' hg5 hne1
    have M35 := (M3.alloc (.cells #[.int .i64 (q : Int)] 3)).kept' hg5 hne2
    have T15 := (T1.alloc (.cells #[.int .i64 (q : Int)] 3)).kept hg5 (fun k hk e => by
     have hk' : k = g0 := by simpa [Value.ownBlock] using hk.symm
     exact hgt k e hk')
    have L5 : Below w.heap.size w w5 := (bl_alloc L3 (.cells #[.int .i64 (q : Int)] 3)).grown hg5 (by simp; have := L3.size; omega) (fun k h => by have := ev2' _ h; omega)
    clear y0 y1 y2 r0 r1 r2 hz T2a hg5 ho5 M1 M2 M3 T1 T2 L3
    obtain ⟨z0, z1, z2⟩ := M25.two
    obtain ⟨r0, r1, r2⟩ := M35.two
    go_wp2_with fail
    refine bodyPost_ret (v := .tuple #[.agg #[.slice (some ⟨g0, 0, none⟩) G.length c, .slice (some ⟨f1, 0, none⟩) (F.length + 1) d1], .int .i64 0]) (by simp [results, Tryz.results90, go_sem, z0, z1]) rfl ?_
    rw [hO.out]
    refine ⟨some ⟨g0, 0, none⟩, c, some ⟨f1, 0, none⟩, d1, by simp, ?_, ?_, apartS hf1.2.2.1, ?_⟩
    ·
     have := ((T15.other (n := w1.heap.size) (by simp [Value.ownBlock]; omega) 1 (.slice (some ⟨f1, 0, none⟩) (F.length + 1) d1)).other (n := w.heap.size + 1 + 1) (by simp [Value.ownBlock]; omega) 0 (.slice (some ⟨g0, 0, none⟩) G.length c)).other (n := w.heap.size + 1 + 1) (by simp [Value.ownBlock]; omega) 1 (.slice (some ⟨f1, 0, none⟩) (F.length + 1) d1)
     simpa using this
    ·
     have := (((hv5.raise (B' := w.heap.size) hf1.2.2.2).other (n := w1.heap.size) (by simp [Value.ownBlock]; omega) 1 (.slice (some ⟨f1, 0, none⟩) (F.length + 1) d1)).other (n := w.heap.size + 1 + 1) (by simp [Value.ownBlock]; omega) 0 (.slice (some ⟨g0, 0, none⟩) G.length c)).other (n := w.heap.size + 1 + 1) (by simp [Value.ownBlock]; omega) 1 (.slice (some ⟨f1, 0, none⟩) (F.length + 1) d1)
     simpa using this
    ·
     exact ((L5.setCell (by simp; omega) _).setCell (by simp; omega) _).setCell (by simp; omega) _
end Go.Proofs.YtnockfpobpidgaaGreat
