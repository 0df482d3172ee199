import Derived.Test.YtijgkpkakkjkgabEz
import Derived.Test.YtijgkpkakkjkgabFa
namespace Go.Proofs.Ytijgkpkakkjkgab
open Go.RowKit
set_option linter.unusedVariables false
set_option linter.unusedSimpArgs false

theorem giveB_len {G F : List Int} {a g : Int} (h : G.length + F.length ≤ 1048576) : (giveB G F a g).1.length ≤ 1048576 ∧ (giveB G F a g).2.1.length ≤ 1048576 := by
  unfold giveB
  split
  · rename_i hk
    have := okE_len hk
    split
    · simp; omega
    · simp; omega
  · simp; omega
theorem specGive_O (O : List Int × List Int × Int) (p1 q1 c1 p2 q2 c2 : Nat) (G F : List Int) (a g : Int) (w : World) (h1 : Ints w (some ⟨p1, q1, none⟩) G) (h2 : Ints w (some ⟨p2, q2, none⟩) F) (l1 : G.length ≤ 1048576) (l2 : F.length ≤ 1048576) (hO : giveB G F a g = O) :
    Calls Try.prog 21 #[.agg #[.slice (some ⟨p1, q1, none⟩) G.length c1, .slice (some ⟨p2, q2, none⟩) F.length c2], .agg #[.int .i64 a, .int .i64 g]] w fun e w' => Gives O w e w' := by
  subst hO; exact specGive_any p1 q1 c1 p2 q2 c2 G F a g w h1 h2 l1 l2
theorem implGive_O (O : List Int × List Int × Int) (p1 q1 c1 p2 q2 c2 : Nat) (G F : List Int) (a g : Int) (w : World) (h1 : Ints w (some ⟨p1, q1, none⟩) G) (h2 : Ints w (some ⟨p2, q2, none⟩) F) (l1 : G.length ≤ 1048576) (l2 : F.length ≤ 1048576) (hO : giveB G F a g = O) :
    Calls Try.prog 22 #[.agg #[.slice (some ⟨p1, q1, none⟩) G.length c1, .slice (some ⟨p2, q2, none⟩) F.length c2], .agg #[.int .i64 a, .int .i64 g]] w fun e w' => Gives O w e w' := by
  subst hO; exact implGive_any p1 q1 c1 p2 q2 c2 G F a g w h1 h2 l1 l2

theorem VRow.apartB {w : World} {B : Nat} {v : Value} {L : List Int} (h : VRow w B v L) {m : Nat} {c : Array Value} {t : TypeId} (hb : Blk w m c t) (ht : ¬ t = 3) : ¬ v.ownBlock = some m := by
  rcases h.2 with ⟨rfl, _⟩ | ⟨g, cap, cur, rfl, _, hg, _⟩
  · simp [Value.ownBlock]
  · simp only [Value.ownBlock, Option.some.injEq]
    intro e
    subst e
    unfold Blk at hb
    rw [hg] at hb
    simp at hb
    exact ht hb.2.symm

/-- a result in its box. -/
structure Res (B b : Nat) (s t : Option Addr) (c d : Nat) (O : List Int × List Int × Int) (w : World) : Prop where
  k : Blk w b #[.slice s O.1.length c, .slice t O.2.1.length d] 27
  v : VRow w B (.slice s O.1.length c) O.1
  u : VRow w B (.slice t O.2.1.length d) O.2.1
  a : Apart (.slice s O.1.length c) (.slice t O.2.1.length d)
theorem Res.later {B b : Nat} {s t : Option Addr} {c d : Nat} {O : List Int × List Int × Int} {w w' : World} (h : Res B b s t c d O w) (hb : Below w.heap.size w w') : Res B b s t c d O w' := ⟨h.k.later hb, h.v.later hb, h.u.later hb, h.a⟩
theorem Res.mk' {B : Nat} {s t : Option Addr} {c d : Nat} {O : List Int × List Int × Int} {w0 w : World} (v : VRow w w0.heap.size (.slice s O.1.length c) O.1) (u : VRow w w0.heap.size (.slice t O.2.1.length d) O.2.1) (a : Apart (.slice s O.1.length c) (.slice t O.2.1.length d)) (hB : B ≤ w0.heap.size) :
    Res B w.heap.size s t c d O (w.alloc (.cells #[.slice s O.1.length c, .slice t O.2.1.length d] 27)) := ⟨Blk.new _ _ _, (v.mono hB).alloc _, (u.mono hB).alloc _, a⟩

/-- only the blocks of two slices may have turned. -/
def Turned (w w' : World) (r q : Option Nat) : Prop := ∃ wa wb, w.grownBy wa none ∧ wa.grownBy wb r ∧ wb.grownBy w' q
theorem Blk.turned {w w' : World} {r q : Option Nat} {n : Nat} {c : Array Value} {t : TypeId} (h : Blk w n c t) (hg : Turned w w' r q) (h1 : ¬ r = some n) (h2 : ¬ q = some n) : Blk w' n c t := by
  obtain ⟨wa, wb, g1, g2, g3⟩ := hg
  exact ((h.kept' g1 (by simp)).kept' g2 h1).kept' g3 h2
theorem VRow.turned {w w' : World} {r q : Option Nat} {B : Nat} {v : Value} {G : List Int} (h : VRow w B v G) (hg : Turned w w' r q) (h1 : ∀ k, v.ownBlock = some k → ¬ r = some k ∧ ¬ q = some k) : VRow w' B v G := by
  obtain ⟨wa, wb, g1, g2, g3⟩ := hg
  exact ((h.kept g1 (fun k _ => by simp)).kept g2 (fun k hk => (h1 k hk).1)).kept g3 (fun k hk => (h1 k hk).2)
theorem Turned.below {a w w' : World} {r q : Option Nat} (hg : Turned w w' r q) (hl : Below a.heap.size a w) (h1 : ∀ k, r = some k → a.heap.size ≤ k) (h2 : ∀ k, q = some k → a.heap.size ≤ k) : Below a.heap.size a w' := by
  obtain ⟨wa, wb, g1, g2, g3⟩ := hg
  have s1 := Nat.le_trans hl.size g1.size
  have s2 := Nat.le_trans s1 g2.size
  exact ((hl.grown g1 hl.size (fun k h => by cases h)).grown g2 s1 h1).grown g3 s2 h2

set_option maxRecDepth 100000 in
set_option maxHeartbeats 16000000 in
theorem exactEntGive_any (s1 s2 : Option Addr) (c1 c2 : Nat) (G F : List Int) (a g : Int) (w : World) (h1 : Ints w s1 G) (h2 : Ints w s2 F) (m1 : G.length ≤ 9223372036854775807) (m2 : F.length ≤ 9223372036854775807) :
    Calls Try.prog 6 #[.agg #[.slice s1 G.length c1, .slice s2 F.length c2], .agg #[.int .i64 a, .int .i64 g]] w fun e w' => e = .returned (.bool true) ∧ Below w.heap.size w w' := by
  have hal := alloc_old
  have haf := alloc_oldf
  obtain ⟨k0, k1⟩ := blk2 w #[.slice s1 G.length c1, .slice s2 F.length c2] #[.int .i64 a, .int .i64 g] 24 32
  by_cases hs : G.length + F.length ≤ 1048576
  · obtain ⟨o1, o2⟩ := giveB_len (a := a) (g := g) hs
    obtain ⟨O, hO⟩ : ∃ O, Hid (giveB G F a g = O) := ⟨_, rfl⟩
    rw [hO.out] at o1 o2
    go_enter Try.func6, Try.ntmps6
    go_wp2_with fail
    refine (szEnts_pos s1 s2 G.length F.length c1 c2 _ m1 m2 hs).mono ?_
    rintro e w1 ⟨⟨r, rfl, hr⟩, hb1⟩
    have K := k0.later hb1
    have E := k1.later hb1
    have L1 : Below w.heap.size w w1 := by (repeat (first | with_reducible exact Below.refl _ _ | with_reducible refine bl_alloc ?_ _ | with_reducible refine bl_drewN ?_ _ | with_reducible refine bl_drew ?_ | with_reducible refine bl_setCell ?_ (by first | exact Nat.le_refl _ | (dsimp only; omega) | (simp <;> omega)) _ | with_reducible refine bl_trans ?_ (by with_reducible assumption)))
    have z1 : w.heap.size + 2 ≤ w1.heap.size := E.lt
    clear k0 k1 hb1
    obtain ⟨x0, x1, x2⟩ := K.two
    obtain ⟨y0, y1, y2⟩ := E.two
    go_wp2_with fail
    go_cut [6, 7] (fun p q wx => ∃ (b6 : Nat) (s6 t6 : Option Addr) (c6 d6 : Nat), p = .pointer (some ⟨b6, 0, none⟩) ∧ q = .int .i64 O.2.2 ∧ Res (w.heap.size + 2) b6 s6 t6 c6 d6 O wx ∧ Below w.heap.size w wx ∧ Blk wx w.heap.size #[.slice s1 G.length c1, .slice s2 F.length c2] 24 ∧ Blk wx (w.heap.size + 1) #[.int .i64 a, .int .i64 g] 32)
    case first =>
      have zz := z1
      go_region_with (first
        | (go_at_call 10; refine (toEnts_any s1 s2 c1 c2 G F _ (h1.later (by (repeat (first | with_reducible exact Below.refl _ _ | with_reducible refine bl_alloc ?_ _ | with_reducible refine bl_drewN ?_ _ | with_reducible refine bl_drew ?_ | with_reducible refine bl_setCell ?_ (by first | exact Nat.le_refl _ | (dsimp only; omega) | (simp <;> omega)) _ | with_reducible refine bl_trans ?_ (by with_reducible assumption))))) (h2.later (by (repeat (first | with_reducible exact Below.refl _ _ | with_reducible refine bl_alloc ?_ _ | with_reducible refine bl_drewN ?_ _ | with_reducible refine bl_drew ?_ | with_reducible refine bl_setCell ?_ (by first | exact Nat.le_refl _ | (dsimp only; omega) | (simp <;> omega)) _ | with_reducible refine bl_trans ?_ (by with_reducible assumption))))) (by omega) (by omega)).mono ?_; rintro e wa ⟨g2, f2, rfl, hR, hb⟩; have zz : w.heap.size + 2 ≤ wa.heap.size := (by have h9 := hb.size; (try simp at h9); omega); have K : Blk wa w.heap.size #[.slice s1 G.length c1, .slice s2 F.length c2] 24 := K.later (by (repeat (first | with_reducible exact Below.refl _ _ | with_reducible refine bl_alloc ?_ _ | with_reducible refine bl_drewN ?_ _ | with_reducible refine bl_drew ?_ | with_reducible refine bl_setCell ?_ (by first | exact Nat.le_refl _ | (dsimp only; omega) | (simp <;> omega)) _ | with_reducible refine bl_trans ?_ (by with_reducible assumption)))); have E : Blk wa (w.heap.size + 1) #[.int .i64 a, .int .i64 g] 32 := E.later (by (repeat (first | with_reducible exact Below.refl _ _ | with_reducible refine bl_alloc ?_ _ | with_reducible refine bl_drewN ?_ _ | with_reducible refine bl_drew ?_ | with_reducible refine bl_setCell ?_ (by first | exact Nat.le_refl _ | (dsimp only; omega) | (simp <;> omega)) _ | with_reducible refine bl_trans ?_ (by with_reducible assumption)))); have L1 : Below w.heap.size w wa := (by (repeat (first | with_reducible exact Below.refl _ _ | with_reducible refine bl_alloc ?_ _ | with_reducible refine bl_drewN ?_ _ | with_reducible refine bl_drew ?_ | with_reducible refine bl_setCell ?_ (by first | exact Nat.le_refl _ | (dsimp only; omega) | (simp <;> omega)) _ | with_reducible refine bl_trans ?_ (by with_reducible assumption)))); (first | (have Z := Blk.later (Blk.drew (Blk.new _ #[.slice none 0 0, .slice none 0 0] 27)) hb) | (have Z := Blk.later (Blk.new _ #[.slice none 0 0, .slice none 0 0] 27) hb) | (have Z := Blk.later Z hb) | skip); (first | (obtain ⟨z0, z1, z2⟩ := Z.two) | skip); obtain ⟨x0, x1, x2⟩ := K.two; obtain ⟨y0, y1, y2⟩ := E.two)
        | (go_at_call 14; refine (toEnt_any a g _).mono ?_; rintro e wb ⟨rfl, hb⟩; have zz : w.heap.size + 2 ≤ wb.heap.size := (by have h9 := hb.size; (try simp at h9); omega); have K : Blk wb w.heap.size #[.slice s1 G.length c1, .slice s2 F.length c2] 24 := K.later (by (repeat (first | with_reducible exact Below.refl _ _ | with_reducible refine bl_alloc ?_ _ | with_reducible refine bl_drewN ?_ _ | with_reducible refine bl_drew ?_ | with_reducible refine bl_setCell ?_ (by first | exact Nat.le_refl _ | (dsimp only; omega) | (simp <;> omega)) _ | with_reducible refine bl_trans ?_ (by with_reducible assumption)))); have E : Blk wb (w.heap.size + 1) #[.int .i64 a, .int .i64 g] 32 := E.later (by (repeat (first | with_reducible exact Below.refl _ _ | with_reducible refine bl_alloc ?_ _ | with_reducible refine bl_drewN ?_ _ | with_reducible refine bl_drew ?_ | with_reducible refine bl_setCell ?_ (by first | exact Nat.le_refl _ | (dsimp only; omega) | (simp <;> omega)) _ | with_reducible refine bl_trans ?_ (by with_reducible assumption)))); have hR : Rows2 wb _ _ _ _ _ := hR.later (by (repeat (first | with_reducible exact Below.refl _ _ | with_reducible refine bl_alloc ?_ _ | with_reducible refine bl_drewN ?_ _ | with_reducible refine bl_drew ?_ | with_reducible refine bl_setCell ?_ (by first | exact Nat.le_refl _ | (dsimp only; omega) | (simp <;> omega)) _ | with_reducible refine bl_trans ?_ (by with_reducible assumption)))); have L1 : Below w.heap.size w wb := (by (repeat (first | with_reducible exact Below.refl _ _ | with_reducible refine bl_alloc ?_ _ | with_reducible refine bl_drewN ?_ _ | with_reducible refine bl_drew ?_ | with_reducible refine bl_setCell ?_ (by first | exact Nat.le_refl _ | (dsimp only; omega) | (simp <;> omega)) _ | with_reducible refine bl_trans ?_ (by with_reducible assumption)))); (first | (have Z := Blk.later (Blk.drew (Blk.new _ #[.slice none 0 0, .slice none 0 0] 27)) hb) | (have Z := Blk.later (Blk.new _ #[.slice none 0 0, .slice none 0 0] 27) hb) | (have Z := Blk.later Z hb) | skip); (first | (obtain ⟨z0, z1, z2⟩ := Z.two) | skip); obtain ⟨x0, x1, x2⟩ := K.two; obtain ⟨y0, y1, y2⟩ := E.two)
        | (go_at_call 21; refine (specGive_O O _ _ _ _ _ _ G F a g _ (hR.ints.1.later (by (repeat (first | with_reducible exact Below.refl _ _ | with_reducible refine bl_alloc ?_ _ | with_reducible refine bl_drewN ?_ _ | with_reducible refine bl_drew ?_ | with_reducible refine bl_setCell ?_ (by first | exact Nat.le_refl _ | (dsimp only; omega) | (simp <;> omega)) _ | with_reducible refine bl_trans ?_ (by with_reducible assumption))))) (hR.ints.2.later (by (repeat (first | with_reducible exact Below.refl _ _ | with_reducible refine bl_alloc ?_ _ | with_reducible refine bl_drewN ?_ _ | with_reducible refine bl_drew ?_ | with_reducible refine bl_setCell ?_ (by first | exact Nat.le_refl _ | (dsimp only; omega) | (simp <;> omega)) _ | with_reducible refine bl_trans ?_ (by with_reducible assumption))))) (by omega) (by omega) hO.out).mono ?_; rintro e wd ⟨s6, c6, t6, d6, rfl, va, vb, hap, hb⟩; have zz : w.heap.size + 2 ≤ wd.heap.size := (by have h9 := hb.size; (try simp at h9); omega); have K : Blk wd w.heap.size #[.slice s1 G.length c1, .slice s2 F.length c2] 24 := K.later (by (repeat (first | with_reducible exact Below.refl _ _ | with_reducible refine bl_alloc ?_ _ | with_reducible refine bl_drewN ?_ _ | with_reducible refine bl_drew ?_ | with_reducible refine bl_setCell ?_ (by first | exact Nat.le_refl _ | (dsimp only; omega) | (simp <;> omega)) _ | with_reducible refine bl_trans ?_ (by with_reducible assumption)))); have E : Blk wd (w.heap.size + 1) #[.int .i64 a, .int .i64 g] 32 := E.later (by (repeat (first | with_reducible exact Below.refl _ _ | with_reducible refine bl_alloc ?_ _ | with_reducible refine bl_drewN ?_ _ | with_reducible refine bl_drew ?_ | with_reducible refine bl_setCell ?_ (by first | exact Nat.le_refl _ | (dsimp only; omega) | (simp <;> omega)) _ | with_reducible refine bl_trans ?_ (by with_reducible assumption)))); have L1 : Below w.heap.size w wd := (by (repeat (first | with_reducible exact Below.refl _ _ | with_reducible refine bl_alloc ?_ _ | with_reducible refine bl_drewN ?_ _ | with_reducible refine bl_drew ?_ | with_reducible refine bl_setCell ?_ (by first | exact Nat.le_refl _ | (dsimp only; omega) | (simp <;> omega)) _ | with_reducible refine bl_trans ?_ (by with_reducible assumption)))); (first | (have Z := Blk.later (Blk.drew (Blk.new _ #[.slice none 0 0, .slice none 0 0] 27)) hb) | (have Z := Blk.later (Blk.new _ #[.slice none 0 0, .slice none 0 0] 27) hb) | (have Z := Blk.later Z hb) | skip); (first | (obtain ⟨z0, z1, z2⟩ := Z.two) | skip)))
      all_goals
        go_wp2_with fail
        go_meet
        first
          | exact ⟨_, s6, t6, c6, d6, rfl, rfl, Res.mk' va vb hap (by first | omega | (simp; omega) | simp), bl_alloc L1 _, K.alloc _, E.alloc _⟩
          | exact ⟨_, s6, t6, c6, d6, rfl, rfl, ⟨(Z.set 0 _).set 1 _, ((va.mono (by first | omega | (simp; omega) | simp)).other (va.apartB Z (by decide)) _ _).other (va.apartB Z (by decide)) _ _, ((vb.mono (by first | omega | (simp; omega) | simp)).other (vb.apartB Z (by decide)) _ _).other (vb.apartB Z (by decide)) _ _, hap⟩, (L1.setCell (by first | omega | (simp; omega) | simp) _).setCell (by first | omega | (simp; omega) | simp) _, (K.other (by omega) _ _).other (by omega) _ _, (E.other (by omega) _ _).other (by omega) _ _⟩
    case rest =>
      clear x0 x1 x2 y0 y1 y2 K E L1
      obtain ⟨b6, s6, t6, c6, d6, rfl, rfl, R6, L3, K, E⟩ := hcut
      have lt6 : ∀ k, (Value.slice s6 O.1.length c6).ownBlock = some k → k < wc.heap.size := fun k hk => (R6.v.lt k hk).2
      have lt6' : ∀ k, (Value.slice t6 O.2.1.length d6).ownBlock = some k → k < wc.heap.size := fun k hk => (R6.u.lt k hk).2
      have zc : w.heap.size + 2 ≤ wc.heap.size := E.lt
      obtain ⟨x0, x1, x2⟩ := K.two
      go_wp2_with fail
      refine (toEnts_any s1 s2 c1 c2 G F _ (h1.later L3) (h2.later L3) (by omega) (by omega)).mono ?_
      rintro e w4 ⟨g4, f4, rfl, hR4, hb4⟩
      have g4a := hR4.1.lt
      have f4a := hR4.2.1.lt
      have J := Blk.new w4 #[.slice (some ⟨g4, 0, none⟩) G.length G.length, .slice (some ⟨f4, 0, none⟩) F.length F.length] 27
      have a4 := bl_trans hb4 (bl_alloc (Below.refl _ w4) (.cells #[.slice (some ⟨g4, 0, none⟩) G.length G.length, .slice (some ⟨f4, 0, none⟩) F.length F.length] 27))
      have K4 := K.later a4
      have E4 := E.later a4
      have R64 := R6.later a4
      have L4 := bl_trans L3 a4
      have hR4 := hR4.later (bl_alloc (Below.refl _ w4) (.cells #[.slice (some ⟨g4, 0, none⟩) G.length G.length, .slice (some ⟨f4, 0, none⟩) F.length F.length] 27))
      have n34 : wc.heap.size ≤ w4.heap.size := hb4.size
      clear x0 x1 x2 K E R6 L3 a4 hb4
      go_wp2_with fail
      generalize hX : w4.alloc (.cells #[.slice (some ⟨g4, 0, none⟩) G.length G.length, .slice (some ⟨f4, 0, none⟩) F.length F.length] 27) = X at J K4 E4 R64 L4 hR4 ⊢
      have zz : w4.heap.size + 1 ≤ X.heap.size := by rw [← hX]; simp
      clear hX
      have E := E4
      obtain ⟨x0, x1, x2⟩ := J.two
      obtain ⟨y0, y1, y2⟩ := E.two
      go_cut [9, 10] (fun p q wx => ∃ (b9 : Nat) (s9 t9 : Option Addr) (c9 d9 : Nat), p = .pointer (some ⟨b9, 0, none⟩) ∧ q = .int .i64 O.2.2 ∧ Res (w4.heap.size + 1) b9 s9 t9 c9 d9 O wx ∧ Below X.heap.size X wx)
      case first =>
        have M : Below X.heap.size X X := Below.refl _ _
        have zm : X.heap.size ≤ X.heap.size := Nat.le_refl _
        clear lt6 lt6' zc
        go_region_with (first
          | (go_at_call 14; refine (toEnt_any a g _).mono ?_; rintro e wb ⟨rfl, hb⟩; have zz : w4.heap.size + 1 ≤ wb.heap.size := (by have h9 := hb.size; (try simp at h9); omega); have zm : X.heap.size ≤ wb.heap.size := (by have h9 := hb.size; (try simp at h9); omega); have E : Blk wb (w.heap.size + 1) #[.int .i64 a, .int .i64 g] 32 := E.later (by (repeat (first | with_reducible exact Below.refl _ _ | with_reducible refine bl_alloc ?_ _ | with_reducible refine bl_drewN ?_ _ | with_reducible refine bl_drew ?_ | with_reducible refine bl_setCell ?_ (by first | exact Nat.le_refl _ | (dsimp only; omega) | (simp <;> omega)) _ | with_reducible refine bl_trans ?_ (by with_reducible assumption)))); have J : Blk wb w4.heap.size #[.slice (some ⟨g4, 0, none⟩) G.length G.length, .slice (some ⟨f4, 0, none⟩) F.length F.length] 27 := J.later (by (repeat (first | with_reducible exact Below.refl _ _ | with_reducible refine bl_alloc ?_ _ | with_reducible refine bl_drewN ?_ _ | with_reducible refine bl_drew ?_ | with_reducible refine bl_setCell ?_ (by first | exact Nat.le_refl _ | (dsimp only; omega) | (simp <;> omega)) _ | with_reducible refine bl_trans ?_ (by with_reducible assumption)))); have M : Below X.heap.size X wb := (by (repeat (first | with_reducible exact Below.refl _ _ | with_reducible refine bl_alloc ?_ _ | with_reducible refine bl_drewN ?_ _ | with_reducible refine bl_drew ?_ | with_reducible refine bl_setCell ?_ (by first | exact Nat.le_refl _ | (dsimp only; omega) | (simp <;> omega)) _ | with_reducible refine bl_trans ?_ (by with_reducible assumption)))); (first | (have Z := Blk.later (Blk.drew (Blk.new _ #[.slice none 0 0, .slice none 0 0] 27)) hb) | (have Z := Blk.later (Blk.new _ #[.slice none 0 0, .slice none 0 0] 27) hb) | (have Z := Blk.later Z hb) | skip); (first | (obtain ⟨z0, z1, z2⟩ := Z.two) | skip); obtain ⟨x0, x1, x2⟩ := J.two; obtain ⟨y0, y1, y2⟩ := E.two)
          | (go_at_call 22; refine (implGive_O O _ _ _ _ _ _ G F a g _ (hR4.ints.1.later (by (repeat (first | with_reducible exact Below.refl _ _ | with_reducible refine bl_alloc ?_ _ | with_reducible refine bl_drewN ?_ _ | with_reducible refine bl_drew ?_ | with_reducible refine bl_setCell ?_ (by first | exact Nat.le_refl _ | (dsimp only; omega) | (simp <;> omega)) _ | with_reducible refine bl_trans ?_ (by with_reducible assumption))))) (hR4.ints.2.later (by (repeat (first | with_reducible exact Below.refl _ _ | with_reducible refine bl_alloc ?_ _ | with_reducible refine bl_drewN ?_ _ | with_reducible refine bl_drew ?_ | with_reducible refine bl_setCell ?_ (by first | exact Nat.le_refl _ | (dsimp only; omega) | (simp <;> omega)) _ | with_reducible refine bl_trans ?_ (by with_reducible assumption))))) (by omega) (by omega) hO.out).mono ?_; rintro e wd ⟨s9, c9, t9, d9, rfl, va, vb, hap, hb⟩; have zz : w4.heap.size + 1 ≤ wd.heap.size := (by have h9 := hb.size; (try simp at h9); omega); have zm : X.heap.size ≤ wd.heap.size := (by have h9 := hb.size; (try simp at h9); omega); have E : Blk wd (w.heap.size + 1) #[.int .i64 a, .int .i64 g] 32 := E.later (by (repeat (first | with_reducible exact Below.refl _ _ | with_reducible refine bl_alloc ?_ _ | with_reducible refine bl_drewN ?_ _ | with_reducible refine bl_drew ?_ | with_reducible refine bl_setCell ?_ (by first | exact Nat.le_refl _ | (dsimp only; omega) | (simp <;> omega)) _ | with_reducible refine bl_trans ?_ (by with_reducible assumption)))); have J : Blk wd w4.heap.size #[.slice (some ⟨g4, 0, none⟩) G.length G.length, .slice (some ⟨f4, 0, none⟩) F.length F.length] 27 := J.later (by (repeat (first | with_reducible exact Below.refl _ _ | with_reducible refine bl_alloc ?_ _ | with_reducible refine bl_drewN ?_ _ | with_reducible refine bl_drew ?_ | with_reducible refine bl_setCell ?_ (by first | exact Nat.le_refl _ | (dsimp only; omega) | (simp <;> omega)) _ | with_reducible refine bl_trans ?_ (by with_reducible assumption)))); have M : Below X.heap.size X wd := (by (repeat (first | with_reducible exact Below.refl _ _ | with_reducible refine bl_alloc ?_ _ | with_reducible refine bl_drewN ?_ _ | with_reducible refine bl_drew ?_ | with_reducible refine bl_setCell ?_ (by first | exact Nat.le_refl _ | (dsimp only; omega) | (simp <;> omega)) _ | with_reducible refine bl_trans ?_ (by with_reducible assumption)))); (first | (have Z := Blk.later (Blk.drew (Blk.new _ #[.slice none 0 0, .slice none 0 0] 27)) hb) | (have Z := Blk.later (Blk.new _ #[.slice none 0 0, .slice none 0 0] 27) hb) | (have Z := Blk.later Z hb) | skip); (first | (obtain ⟨z0, z1, z2⟩ := Z.two) | skip)))
        all_goals
          go_wp2_with fail
          go_meet
          first
            | exact ⟨_, s9, t9, c9, d9, rfl, rfl, Res.mk' va vb hap (by first | omega | (simp; omega) | simp), bl_alloc M _⟩
            | exact ⟨_, s9, t9, c9, d9, rfl, rfl, ⟨(Z.set 0 _).set 1 _, ((va.mono (by first | omega | (simp; omega) | simp)).other (va.apartB Z (by decide)) _ _).other (va.apartB Z (by decide)) _ _, ((vb.mono (by first | omega | (simp; omega) | simp)).other (vb.apartB Z (by decide)) _ _).other (vb.apartB Z (by decide)) _ _, hap⟩, (M.setCell (by first | omega | (simp; omega) | simp) _).setCell (by first | omega | (simp; omega) | simp) _⟩
      case rest =>
        clear x0 x1 x2 y0 y1 y2 E
        obtain ⟨b9, s9, t9, c9, d9, rfl, rfl, R9, M⟩ := hcut
        have ge9 : ∀ k, (Value.slice s9 O.1.length c9).ownBlock = some k → w4.heap.size + 1 ≤ k := fun k hk => (R9.v.lt k hk).1
        have ge9' : ∀ k, (Value.slice t9 O.2.1.length d9).ownBlock = some k → w4.heap.size + 1 ≤ k := fun k hk => (R9.u.lt k hk).1
        have K9 := K4.later M
        have E9 := E4.later M
        have R69 := R64.later M
        have L9 := bl_trans L4 M
        have J9 := J.later M
        have hR9 := hR4.later M
        clear K4 E4 R64 L4 J hR4 M
        obtain ⟨x0, x1, x2⟩ := R9.k.two
        obtain ⟨y0, y1, y2⟩ := R69.k.two
        go_wp2_with fail
        refine (eqEnts_any _ _ _ _ _ _ _ _ O.1 O.2.1 O.1 O.2.1 _ (Row.ints R9.v).1 (Row.ints R9.u).1 (Row.ints R69.v).1 (Row.ints R69.u).1 o1 o2).mono ?_
        rintro e w10 ⟨rfl, hb10⟩
        rw [show decide (O.1 = O.1 ∧ O.2.1 = O.2.1) = true by simp]
        have K10 := K9.later hb10
        have E10 := E9.later hb10
        have R610 := R69.later hb10
        have R10 := R9.later hb10
        have L10 := bl_trans L9 hb10
        have J10 := J9.later hb10
        have hR10 := hR9.later hb10
        clear x0 x1 x2 y0 y1 y2 K9 E9 R69 R9 L9 J9 hR9 hb10
        obtain ⟨x0, x1, x2⟩ := K10.two
        obtain ⟨y0, y1, y2⟩ := J10.two
        go_wp2_with fail
        go_cut [51] (fun s wx => s = .bool false ∧ Below w10.heap.size w10 wx)
        case first =>
          have L : Below w10.heap.size w10 w10.drew := bl_drew (Below.refl _ _)
          go_region_with (first
            | (go_at_call 10; refine (toEnts_any s1 s2 c1 c2 G F _ (h1.later (bl_trans L10 L)) (h2.later (bl_trans L10 L)) (by omega) (by omega)).mono ?_; rintro e w7 ⟨g7, f7, rfl, hR7, hb7⟩; have L := bl_trans L hb7; obtain ⟨z0, z1, z2⟩ := (J10.later L).two)
            | (go_at_call 12; refine (eqEnts_any _ _ _ _ _ _ _ _ G F G F _ (hR10.ints.1.later L) (hR10.ints.2.later L) hR7.ints.1 hR7.ints.2 (by omega) (by omega)).mono ?_; rintro e w8 ⟨rfl, hb8⟩; have L := bl_trans L hb8; rw [show decide (G = G ∧ F = F) = true by simp]))
          all_goals
            go_wp2_with fail
            go_meet
            exact ⟨rfl, L⟩
        case rest =>
          clear x0 x1 x2 y0 y1 y2
          obtain ⟨rfl, hb11⟩ := hcut
          have K11 := K10.later hb11
          have E11 := E10.later hb11
          have R611 := R610.later hb11
          have R11 := R10.later hb11
          have L11 := bl_trans L10 hb11
          have J11 := J10.later hb11
          have hR11 := hR10.later hb11
          clear K10 E10 R610 R10 L10 J10 hR10 hb11
          obtain ⟨x0, x1, x2⟩ := J11.two
          go_wp2_with fail
          have vX : VRow _ _ (.slice (some ⟨g4, 0, none⟩) G.length G.length) G := hR11.1
          have uX : VRow _ _ (.slice (some ⟨f4, 0, none⟩) F.length F.length) F := hR11.2.1
          refine (markEntsV_any _ _ _ _ _ G F _ vX uX (apartS hR11.2.2) (by omega) (by omega)).mono ?_
          rintro e w12 ⟨rfl, _, _, hT⟩
          have T12 : Turned _ w12 (some g4) (some f4) := hT
          have K12 := K11.turned T12 (by simp; omega) (by simp; omega)
          have E12 := E11.turned T12 (by simp; omega) (by simp; omega)
          have L12 := T12.below L11 (fun k h => by simp at h; omega) (fun k h => by simp at h; omega)
          have R612 : Res (w.heap.size + 2) b6 s6 t6 c6 d6 O w12 := ⟨R611.k.turned T12 (vX.apartB R611.k (by decide)) (uX.apartB R611.k (by decide)), R611.v.turned T12 (fun k hk => by have := lt6 k hk; simp; omega), R611.u.turned T12 (fun k hk => by have := lt6' k hk; simp; omega), R611.a⟩
          have R12 : Res (w4.heap.size + 1) b9 s9 t9 c9 d9 O w12 := ⟨R11.k.turned T12 (vX.apartB R11.k (by decide)) (uX.apartB R11.k (by decide)), R11.v.turned T12 (fun k hk => by have := ge9 k hk; simp; omega), R11.u.turned T12 (fun k hk => by have := ge9' k hk; simp; omega), R11.a⟩
          clear x0 x1 x2 K11 E11 L11 R611 R11 J11 hR11 T12 hT vX uX
          obtain ⟨x0, x1, x2⟩ := R12.k.two
          obtain ⟨y0, y1, y2⟩ := R612.k.two
          go_wp2_with fail
          refine (eqEnts_any _ _ _ _ _ _ _ _ O.1 O.2.1 O.1 O.2.1 _ (Row.ints R12.v).1 (Row.ints R12.u).1 (Row.ints R612.v).1 (Row.ints R612.u).1 o1 o2).mono ?_
          rintro e w13 ⟨rfl, hb13⟩
          rw [show decide (O.1 = O.1 ∧ O.2.1 = O.2.1) = true by simp]
          have K13 := K12.later hb13
          have E13 := E12.later hb13
          have R613 := R612.later hb13
          have R13 := R12.later hb13
          have L13 := bl_trans L12 hb13
          clear x0 x1 x2 y0 y1 y2 K12 E12 R612 R12 L12 hb13
          obtain ⟨x0, x1, x2⟩ := R13.k.two
          go_wp2_with fail
          refine (markEntsV_any _ _ _ _ _ O.1 O.2.1 _ R13.v R13.u R13.a o1 o2).mono ?_
          rintro e w14 ⟨rfl, V14, U14, hT⟩
          have T14 : Turned _ w14 _ _ := hT
          have K14 := K13.turned T14 (R13.v.apartB K13 (by decide)) (R13.u.apartB K13 (by decide))
          have E14 := E13.turned T14 (R13.v.apartB E13 (by decide)) (R13.u.apartB E13 (by decide))
          have B14 := R13.k.turned T14 (R13.v.apartB R13.k (by decide)) (R13.u.apartB R13.k (by decide))
          have L14 := T14.below L13 (fun k h => by have := ge9 k h; omega) (fun k h => by have := ge9' k h; omega)
          have R614 : Res (w.heap.size + 2) b6 s6 t6 c6 d6 O w14 := ⟨R613.k.turned T14 (R13.v.apartB R613.k (by decide)) (R13.u.apartB R613.k (by decide)), R613.v.turned T14 (fun k hk => ⟨fun e => by have := lt6 k hk; have := ge9 k e; omega, fun e => by have := lt6 k hk; have := ge9' k e; omega⟩), R613.u.turned T14 (fun k hk => ⟨fun e => by have := lt6' k hk; have := ge9 k e; omega, fun e => by have := lt6' k hk; have := ge9' k e; omega⟩), R613.a⟩
          clear x0 x1 x2 K13 E13 R613 R13 L13 T14 hT
          obtain ⟨x0, x1, x2⟩ := B14.two
          go_wp2_with fail
          refine (heldEntsV_any _ _ _ _ _ _ _ _ V14 U14 o1 o2).mono ?_
          rintro e w15 ⟨rfl, hb15⟩
          have K16 := K14.later hb15
          have E16 := E14.later hb15
          have B16 := B14.later hb15
          have L16 := bl_trans L14 hb15
          have R616 := R614.later hb15
          have V16 := V14.later hb15
          have U16 := U14.later hb15
          have zz16 : w.heap.size + 2 ≤ w15.heap.size := E16.lt
          clear x0 x1 x2 K14 E14 B14 L14 R614 V14 U14 hb15 zz
          obtain ⟨x0, x1, x2⟩ := K16.two
          obtain ⟨y0, y1, y2⟩ := E16.two
          go_wp2_with fail
          go_cut [14, 15] (fun p q wx => ∃ (b14 : Nat) (s14 t14 : Option Addr) (c14 d14 : Nat), p = .pointer (some ⟨b14, 0, none⟩) ∧ q = .int .i64 O.2.2 ∧ Res (w.heap.size + 2) b14 s14 t14 c14 d14 O wx ∧ Below w15.heap.size w15 wx)
          case first =>
            have zz := zz16
            have K := K16
            have E := E16
            have L1 := L16
            have zm : w15.heap.size ≤ w15.heap.size := Nat.le_refl _
            clear K16 E16 L16 zz16 R616 B16 V16 U16 lt6 lt6' ge9 ge9' g4a f4a n34 zc
            go_region_with (first
              | (go_at_call 10; refine (toEnts_any s1 s2 c1 c2 G F _ (h1.later (by (repeat (first | with_reducible exact Below.refl _ _ | with_reducible refine bl_alloc ?_ _ | with_reducible refine bl_drewN ?_ _ | with_reducible refine bl_drew ?_ | with_reducible refine bl_setCell ?_ (by first | exact Nat.le_refl _ | (dsimp only; omega) | (simp <;> omega)) _ | with_reducible refine bl_trans ?_ (by with_reducible assumption))))) (h2.later (by (repeat (first | with_reducible exact Below.refl _ _ | with_reducible refine bl_alloc ?_ _ | with_reducible refine bl_drewN ?_ _ | with_reducible refine bl_drew ?_ | with_reducible refine bl_setCell ?_ (by first | exact Nat.le_refl _ | (dsimp only; omega) | (simp <;> omega)) _ | with_reducible refine bl_trans ?_ (by with_reducible assumption))))) (by omega) (by omega)).mono ?_; rintro e wa ⟨g2, f2, rfl, hR, hb⟩; have zz : w.heap.size + 2 ≤ wa.heap.size := (by have h9 := hb.size; (try simp at h9); omega); have zm : w15.heap.size ≤ wa.heap.size := (by have h9 := hb.size; (try simp at h9); omega); have K : Blk wa w.heap.size #[.slice s1 G.length c1, .slice s2 F.length c2] 24 := K.later (by (repeat (first | with_reducible exact Below.refl _ _ | with_reducible refine bl_alloc ?_ _ | with_reducible refine bl_drewN ?_ _ | with_reducible refine bl_drew ?_ | with_reducible refine bl_setCell ?_ (by first | exact Nat.le_refl _ | (dsimp only; omega) | (simp <;> omega)) _ | with_reducible refine bl_trans ?_ (by with_reducible assumption)))); have E : Blk wa (w.heap.size + 1) #[.int .i64 a, .int .i64 g] 32 := E.later (by (repeat (first | with_reducible exact Below.refl _ _ | with_reducible refine bl_alloc ?_ _ | with_reducible refine bl_drewN ?_ _ | with_reducible refine bl_drew ?_ | with_reducible refine bl_setCell ?_ (by first | exact Nat.le_refl _ | (dsimp only; omega) | (simp <;> omega)) _ | with_reducible refine bl_trans ?_ (by with_reducible assumption)))); have M : Below w15.heap.size w15 wa := (by (repeat (first | with_reducible exact Below.refl _ _ | with_reducible refine bl_alloc ?_ _ | with_reducible refine bl_drewN ?_ _ | with_reducible refine bl_drew ?_ | with_reducible refine bl_setCell ?_ (by first | exact Nat.le_refl _ | (dsimp only; omega) | (simp <;> omega)) _ | with_reducible refine bl_trans ?_ (by with_reducible assumption)))); (first | (have Z := Blk.later (Blk.drew (Blk.new _ #[.slice none 0 0, .slice none 0 0] 27)) hb) | (have Z := Blk.later (Blk.new _ #[.slice none 0 0, .slice none 0 0] 27) hb) | (have Z := Blk.later Z hb) | skip); (first | (obtain ⟨z0, z1, z2⟩ := Z.two) | skip); obtain ⟨x0, x1, x2⟩ := K.two; obtain ⟨y0, y1, y2⟩ := E.two)
              | (go_at_call 14; refine (toEnt_any a g _).mono ?_; rintro e wb ⟨rfl, hb⟩; have zz : w.heap.size + 2 ≤ wb.heap.size := (by have h9 := hb.size; (try simp at h9); omega); have zm : w15.heap.size ≤ wb.heap.size := (by have h9 := hb.size; (try simp at h9); omega); have K : Blk wb w.heap.size #[.slice s1 G.length c1, .slice s2 F.length c2] 24 := K.later (by (repeat (first | with_reducible exact Below.refl _ _ | with_reducible refine bl_alloc ?_ _ | with_reducible refine bl_drewN ?_ _ | with_reducible refine bl_drew ?_ | with_reducible refine bl_setCell ?_ (by first | exact Nat.le_refl _ | (dsimp only; omega) | (simp <;> omega)) _ | with_reducible refine bl_trans ?_ (by with_reducible assumption)))); have E : Blk wb (w.heap.size + 1) #[.int .i64 a, .int .i64 g] 32 := E.later (by (repeat (first | with_reducible exact Below.refl _ _ | with_reducible refine bl_alloc ?_ _ | with_reducible refine bl_drewN ?_ _ | with_reducible refine bl_drew ?_ | with_reducible refine bl_setCell ?_ (by first | exact Nat.le_refl _ | (dsimp only; omega) | (simp <;> omega)) _ | with_reducible refine bl_trans ?_ (by with_reducible assumption)))); have hR : Rows2 wb _ _ _ _ _ := hR.later (by (repeat (first | with_reducible exact Below.refl _ _ | with_reducible refine bl_alloc ?_ _ | with_reducible refine bl_drewN ?_ _ | with_reducible refine bl_drew ?_ | with_reducible refine bl_setCell ?_ (by first | exact Nat.le_refl _ | (dsimp only; omega) | (simp <;> omega)) _ | with_reducible refine bl_trans ?_ (by with_reducible assumption)))); have M : Below w15.heap.size w15 wb := (by (repeat (first | with_reducible exact Below.refl _ _ | with_reducible refine bl_alloc ?_ _ | with_reducible refine bl_drewN ?_ _ | with_reducible refine bl_drew ?_ | with_reducible refine bl_setCell ?_ (by first | exact Nat.le_refl _ | (dsimp only; omega) | (simp <;> omega)) _ | with_reducible refine bl_trans ?_ (by with_reducible assumption)))); (first | (have Z := Blk.later (Blk.drew (Blk.new _ #[.slice none 0 0, .slice none 0 0] 27)) hb) | (have Z := Blk.later (Blk.new _ #[.slice none 0 0, .slice none 0 0] 27) hb) | (have Z := Blk.later Z hb) | skip); (first | (obtain ⟨z0, z1, z2⟩ := Z.two) | skip); obtain ⟨x0, x1, x2⟩ := K.two; obtain ⟨y0, y1, y2⟩ := E.two)
              | (go_at_call 22; refine (implGive_O O _ _ _ _ _ _ G F a g _ (hR.ints.1.later (by (repeat (first | with_reducible exact Below.refl _ _ | with_reducible refine bl_alloc ?_ _ | with_reducible refine bl_drewN ?_ _ | with_reducible refine bl_drew ?_ | with_reducible refine bl_setCell ?_ (by first | exact Nat.le_refl _ | (dsimp only; omega) | (simp <;> omega)) _ | with_reducible refine bl_trans ?_ (by with_reducible assumption))))) (hR.ints.2.later (by (repeat (first | with_reducible exact Below.refl _ _ | with_reducible refine bl_alloc ?_ _ | with_reducible refine bl_drewN ?_ _ | with_reducible refine bl_drew ?_ | with_reducible refine bl_setCell ?_ (by first | exact Nat.le_refl _ | (dsimp only; omega) | (simp <;> omega)) _ | with_reducible refine bl_trans ?_ (by with_reducible assumption))))) (by omega) (by omega) hO.out).mono ?_; rintro e wd ⟨s14, c14, t14, d14, rfl, va, vb, hap, hb⟩; have zz : w.heap.size + 2 ≤ wd.heap.size := (by have h9 := hb.size; (try simp at h9); omega); have zm : w15.heap.size ≤ wd.heap.size := (by have h9 := hb.size; (try simp at h9); omega); have K : Blk wd w.heap.size #[.slice s1 G.length c1, .slice s2 F.length c2] 24 := K.later (by (repeat (first | with_reducible exact Below.refl _ _ | with_reducible refine bl_alloc ?_ _ | with_reducible refine bl_drewN ?_ _ | with_reducible refine bl_drew ?_ | with_reducible refine bl_setCell ?_ (by first | exact Nat.le_refl _ | (dsimp only; omega) | (simp <;> omega)) _ | with_reducible refine bl_trans ?_ (by with_reducible assumption)))); have E : Blk wd (w.heap.size + 1) #[.int .i64 a, .int .i64 g] 32 := E.later (by (repeat (first | with_reducible exact Below.refl _ _ | with_reducible refine bl_alloc ?_ _ | with_reducible refine bl_drewN ?_ _ | with_reducible refine bl_drew ?_ | with_reducible refine bl_setCell ?_ (by first | exact Nat.le_refl _ | (dsimp only; omega) | (simp <;> omega)) _ | with_reducible refine bl_trans ?_ (by with_reducible assumption)))); have M : Below w15.heap.size w15 wd := (by (repeat (first | with_reducible exact Below.refl _ _ | with_reducible refine bl_alloc ?_ _ | with_reducible refine bl_drewN ?_ _ | with_reducible refine bl_drew ?_ | with_reducible refine bl_setCell ?_ (by first | exact Nat.le_refl _ | (dsimp only; omega) | (simp <;> omega)) _ | with_reducible refine bl_trans ?_ (by with_reducible assumption)))); (first | (have Z := Blk.later (Blk.drew (Blk.new _ #[.slice none 0 0, .slice none 0 0] 27)) hb) | (have Z := Blk.later (Blk.new _ #[.slice none 0 0, .slice none 0 0] 27) hb) | (have Z := Blk.later Z hb) | skip); (first | (obtain ⟨z0, z1, z2⟩ := Z.two) | skip)))
            all_goals
              go_wp2_with fail
              go_meet
              first
                | exact ⟨_, s14, t14, c14, d14, rfl, rfl, Res.mk' va vb hap (by first | omega | (simp; omega) | simp), bl_alloc M _⟩
                | exact ⟨_, s14, t14, c14, d14, rfl, rfl, ⟨(Z.set 0 _).set 1 _, ((va.mono (by first | omega | (simp; omega) | simp)).other (va.apartB Z (by decide)) _ _).other (va.apartB Z (by decide)) _ _, ((vb.mono (by first | omega | (simp; omega) | simp)).other (vb.apartB Z (by decide)) _ _).other (vb.apartB Z (by decide)) _ _, hap⟩, (M.setCell (by first | omega | (simp; omega) | simp) _).setCell (by first | omega | (simp; omega) | simp) _⟩
          case rest =>
            clear x0 x1 x2 y0 y1 y2
            obtain ⟨b14, s14, t14, c14, d14, rfl, rfl, R17, M⟩ := hcut
            have L17 := bl_trans L16 M
            have R617 := R616.later M
            have B17 := B16.later M
            have V17 := V16.later M
            have U17 := U16.later M
            clear K16 E16 B16 L16 R616 V16 U16 M
            obtain ⟨x0, x1, x2⟩ := R17.k.two
            obtain ⟨y0, y1, y2⟩ := R617.k.two
            go_wp2_with fail
            refine (eqEnts_any _ _ _ _ _ _ _ _ O.1 O.2.1 O.1 O.2.1 _ (Row.ints R17.v).1 (Row.ints R17.u).1 (Row.ints R617.v).1 (Row.ints R617.u).1 o1 o2).mono ?_
            rintro e w18 ⟨rfl, hb18⟩
            rw [show decide (O.1 = O.1 ∧ O.2.1 = O.2.1) = true by simp]
            have L18 := bl_trans L17 hb18
            have B18 := B17.later hb18
            have V18 := V17.later hb18
            have U18 := U17.later hb18
            clear x0 x1 x2 y0 y1 y2 R17 R617 L17 B17 V17 U17 hb18
            obtain ⟨x0, x1, x2⟩ := B18.two
            go_wp2_with fail
            refine (heldEntsV_any _ _ _ _ _ _ _ _ V18 U18 o1 o2).mono ?_
            rintro e w19 ⟨rfl, hb19⟩
            go_wp2_with fail
            go_ret
            exact ⟨rfl, bl_trans L18 hb19⟩
  · go_enter Try.func6, Try.ntmps6
    go_wp2_with fail
    refine (szEnts_neg s1 s2 G.length F.length c1 c2 _ m1 m2 hs).mono ?_
    rintro e w1 ⟨rfl, hb1⟩
    go_wp2_with fail
    go_ret
    refine ⟨rfl, ?_⟩
    (repeat (first | with_reducible exact Below.refl _ _ | with_reducible refine bl_alloc ?_ _ | with_reducible refine bl_drewN ?_ _ | with_reducible refine bl_drew ?_ | with_reducible refine bl_setCell ?_ (by first | exact Nat.le_refl _ | (dsimp only; omega) | (simp <;> omega)) _ | with_reducible refine bl_trans ?_ (by with_reducible assumption)))
end Go.Proofs.Ytijgkpkakkjkgab
