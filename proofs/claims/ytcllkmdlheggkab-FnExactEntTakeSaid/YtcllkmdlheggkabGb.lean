import Derived.Test.YtcllkmdlheggkabGa
import Derived.Test.YtcllkmdlheggkabFa
import Derived.Test.YtcllkmdlheggkabEp
namespace Go.Proofs.Ytcllkmdlheggkab
open Go.RowKit
set_option linter.unusedVariables false
set_option linter.unusedSimpArgs false

theorem takeB_len {G F : List Int} (h : G.length + F.length ≤ 1048576) : (takeB G F).1.length ≤ 1048576 ∧ (takeB G F).2.1.length ≤ 1048576 := by
  unfold takeB
  split
  · split
    · simp; omega
    · split <;> simp <;> omega
  · simp; omega
theorem specTake_O (O : List Int × List Int × (Int × Int) × Int) (p1 q1 c1 p2 q2 c2 : Nat) (G F : List Int) (w : World) (h1 : Ints w (some ⟨p1, q1, none⟩) G) (h2 : Ints w (some ⟨p2, q2, none⟩) F) (l1 : G.length ≤ 1048576) (l2 : F.length ≤ 1048576) (hO : takeB G F = O) :
    Calls Try.prog 10 #[.agg #[.slice (some ⟨p1, q1, none⟩) G.length c1, .slice (some ⟨p2, q2, none⟩) F.length c2]] w fun e w' => Takes O w e w' := by
  subst hO; exact specTake_any p1 q1 c1 p2 q2 c2 G F w h1 h2 l1 l2
theorem implTake_O (O : List Int × List Int × (Int × Int) × Int) (p1 q1 c1 p2 q2 c2 : Nat) (G F : List Int) (w : World) (h1 : Ints w (some ⟨p1, q1, none⟩) G) (h2 : Ints w (some ⟨p2, q2, none⟩) F) (l1 : G.length ≤ 1048576) (l2 : F.length ≤ 1048576) (hO : takeB G F = O) :
    Calls Try.prog 12 #[.agg #[.slice (some ⟨p1, q1, none⟩) G.length c1, .slice (some ⟨p2, q2, none⟩) F.length c2]] w fun e w' => Takes O w e w' := by
  subst hO; exact implTake_any p1 q1 c1 p2 q2 c2 G F w h1 h2 l1 l2

/-- a result in its boxes. -/
structure Res (B b i : Nat) (s t : Option Addr) (c d : Nat) (O : List Int × List Int × (Int × Int) × Int) (w : World) : Prop where
  k : Blk w b #[.slice s O.1.length c, .slice t O.2.1.length d] 26
  i : Blk w i #[.int .i64 O.2.2.1.1, .int .i64 O.2.2.1.2] 28
  v : VRow w B (.slice s O.1.length c) O.1
  u : VRow w B (.slice t O.2.1.length d) O.2.1
  a : Apart (.slice s O.1.length c) (.slice t O.2.1.length d)
theorem Res.later {B b i : Nat} {s t : Option Addr} {c d : Nat} {O : List Int × List Int × (Int × Int) × Int} {w w' : World} (h : Res B b i s t c d O w) (hb : Below w.heap.size w w') : Res B b i s t c d O w' := ⟨h.k.later hb, h.i.later hb, h.v.later hb, h.u.later hb, h.a⟩

/-- only the blocks of two slices may have turned. -/
def Turned (w w' : World) (r q : Option Nat) : Prop := ∃ wa wb, w.grownBy wa none ∧ wa.grownBy wb r ∧ wb.grownBy w' q
theorem Blk.turned {w w' : World} {r q : Option Nat} {n : Nat} {c : Array Value} {t : TypeId} (h : Blk w n c t) (hg : Turned w w' r q) (h1 : ¬ r = some n) (h2 : ¬ q = some n) : Blk w' n c t := by
  obtain ⟨wa, wb, g1, g2, g3⟩ := hg
  exact ((h.kept' g1 (by simp)).kept' g2 h1).kept' g3 h2
theorem VRow.turned {w w' : World} {r q : Option Nat} {B : Nat} {v : Value} {G : List Int} (h : VRow w B v G) (hg : Turned w w' r q) (h1 : ∀ k, v.ownBlock = some k → ¬ r = some k ∧ ¬ q = some k) : VRow w' B v G := by
  obtain ⟨wa, wb, g1, g2, g3⟩ := hg
  exact ((h.kept g1 (fun k _ => by simp)).kept g2 (fun k hk => (h1 k hk).1)).kept g3 (fun k hk => (h1 k hk).2)
theorem Turned.below {a w w' : World} {r q : Option Nat} (hg : Turned w w' r q) (hl : Below a.heap.size a w) (h1 : ∀ k, r = some k → a.heap.size ≤ k) (h2 : ∀ k, q = some k → a.heap.size ≤ k) : Below a.heap.size a w' := by
  obtain ⟨wa, wb, g1, g2, g3⟩ := hg
  have s1 := Nat.le_trans hl.size g1.size
  have s2 := Nat.le_trans s1 g2.size
  exact ((hl.grown g1 hl.size (fun k h => by cases h)).grown g2 s1 h1).grown g3 s2 h2

set_option maxRecDepth 100000 in
set_option maxHeartbeats 16000000 in
theorem exactEntTake_any (s1 s2 : Option Addr) (c1 c2 : Nat) (G F : List Int) (w : World) (h1 : Ints w s1 G) (h2 : Ints w s2 F) (m1 : G.length ≤ 9223372036854775807) (m2 : F.length ≤ 9223372036854775807) :
    Calls Try.prog 3 #[.agg #[.slice s1 G.length c1, .slice s2 F.length c2]] w fun e w' => e = .returned (.bool true) ∧ Below w.heap.size w w' := by
  have hal := alloc_old
  have haf := alloc_oldf
  have k0 := Blk.new w #[.slice s1 G.length c1, .slice s2 F.length c2] 24
  by_cases hs : G.length + F.length ≤ 1048576
  · obtain ⟨o1, o2⟩ := takeB_len hs
    obtain ⟨O, hO⟩ : ∃ O, Hid (takeB G F = O) := ⟨_, rfl⟩
    rw [hO.out] at o1 o2
    go_enter Try.func3, Try.ntmps3
    go_wp2_with fail
    refine (szEnts_pos s1 s2 G.length F.length c1 c2 _ m1 m2 hs).mono ?_
    rintro e w1 ⟨⟨r, rfl, hr⟩, hb1⟩
    have K := k0.later hb1
    have L1 : Below w.heap.size w w1 := by (repeat (first | with_reducible exact Below.refl _ _ | with_reducible refine bl_alloc ?_ _ | with_reducible refine bl_drewN ?_ _ | with_reducible refine bl_drew ?_ | with_reducible refine bl_setCell ?_ (by first | exact Nat.le_refl _ | (dsimp only; omega) | (simp <;> omega)) _ | with_reducible refine bl_trans ?_ (by with_reducible assumption)))
    have z1 : w.heap.size + 1 ≤ w1.heap.size := K.lt
    clear k0 hb1 m1 m2
    obtain ⟨x0, x1, x2⟩ := K.two
    go_wp2_with fail
    refine (toEnts_any s1 s2 c1 c2 G F _ (h1.later L1) (h2.later L1) (by omega) (by omega)).mono ?_
    rintro e w2 ⟨g2, f2, rfl, hR2, hb2⟩
    go_wp2_with fail
    refine (specTake_O O _ _ _ _ _ _ G F _ hR2.ints.1 hR2.ints.2 (by omega) (by omega) hO.out).mono ?_
    rintro e w3 ⟨s6, c6, t6, d6, rfl, va, vb, hap, hb3⟩
    have b13 := bl_trans hb2 hb3
    have K3 := K.later b13
    have L3 := bl_trans L1 b13
    have R3 : Res w1.heap.size w3.heap.size (w3.heap.size + 1) s6 t6 c6 d6 O ((w3.alloc (.cells #[.slice s6 O.1.length c6, .slice t6 O.2.1.length d6] 26)).alloc (.cells #[.int .i64 O.2.2.1.1, .int .i64 O.2.2.1.2] 28)) :=
      ⟨(Blk.new _ _ _).alloc _, Blk.new' _ _ _ (by simp), ((va.mono hb2.size).alloc _).alloc _, ((vb.mono hb2.size).alloc _).alloc _, hap⟩
    have K3 := (K3.alloc (.cells #[.slice s6 O.1.length c6, .slice t6 O.2.1.length d6] 26)).alloc (.cells #[.int .i64 O.2.2.1.1, .int .i64 O.2.2.1.2] 28)
    have L3 := bl_alloc (bl_alloc L3 (.cells #[.slice s6 O.1.length c6, .slice t6 O.2.1.length d6] 26)) (.cells #[.int .i64 O.2.2.1.1, .int .i64 O.2.2.1.2] 28)
    have n13 : w1.heap.size ≤ w3.heap.size := b13.size
    have lt6 : ∀ k, (Value.slice s6 O.1.length c6).ownBlock = some k → k < w3.heap.size := fun k hk => (va.lt k hk).2
    have lt6' : ∀ k, (Value.slice t6 O.2.1.length d6).ownBlock = some k → k < w3.heap.size := fun k hk => (vb.lt k hk).2
    clear va vb hb2 hb3 hR2 b13 K L1 x0 x1 x2
    obtain ⟨x0, x1, x2⟩ := K3.two
    go_wp2_with fail
    have n3 : w3.heap.size + 2 ≤ ((w3.alloc (.cells #[.slice s6 O.1.length c6, .slice t6 O.2.1.length d6] 26)).alloc (.cells #[.int .i64 O.2.2.1.1, .int .i64 O.2.2.1.2] 28)).heap.size := by simp
    generalize hX : (w3.alloc (.cells #[.slice s6 O.1.length c6, .slice t6 O.2.1.length d6] 26)).alloc (.cells #[.int .i64 O.2.2.1.1, .int .i64 O.2.2.1.2] 28) = X3 at K3 L3 R3 n3 x0 x1 x2 ⊢
    clear hX x0 x1 x2
    have K := K3
    have L := L3
    have R6 := R3
    clear K3 L3 R3
    refine (toEnts_any s1 s2 c1 c2 G F _ (h1.later L) (h2.later L) (by omega) (by omega)).mono ?_
    rintro e w4 ⟨g4, f4, rfl, hR4, hb4⟩
    have g4a := hR4.1.lt
    have f4a := hR4.2.1.lt
    have J := Blk.new w4 #[.slice (some ⟨g4, 0, none⟩) G.length G.length, .slice (some ⟨f4, 0, none⟩) F.length F.length] 26
    have a4 := bl_trans hb4 (bl_alloc (Below.refl _ w4) (.cells #[.slice (some ⟨g4, 0, none⟩) G.length G.length, .slice (some ⟨f4, 0, none⟩) F.length F.length] 26))
    have n34 : X3.heap.size ≤ w4.heap.size := hb4.size
    replace hR4 := hR4.later (bl_alloc (Below.refl _ w4) (.cells #[.slice (some ⟨g4, 0, none⟩) G.length G.length, .slice (some ⟨f4, 0, none⟩) F.length F.length] 26))
    clear hb4
    replace K := K.later a4
    replace R6 := R6.later a4
    replace L := bl_trans L a4
    clear a4
    obtain ⟨y0, y1, y2⟩ := J.two
    go_wp2_with fail
    have n5 : w4.heap.size + 1 ≤ (w4.alloc (.cells #[.slice (some ⟨g4, 0, none⟩) G.length G.length, .slice (some ⟨f4, 0, none⟩) F.length F.length] 26)).heap.size := by simp
    generalize hX : w4.alloc (.cells #[.slice (some ⟨g4, 0, none⟩) G.length G.length, .slice (some ⟨f4, 0, none⟩) F.length F.length] 26) = X5 at K L R6 J hR4 n5 y0 y1 y2 ⊢
    clear hX y0 y1 y2
    refine (implTake_O O _ _ _ _ _ _ G F _ hR4.ints.1 hR4.ints.2 (by omega) (by omega) hO.out).mono ?_
    rintro e w9 ⟨s9, c9, t9, d9, rfl, va, vb, hap9, hb9⟩
    have R9 : Res (w4.heap.size + 1) w9.heap.size (w9.heap.size + 1) s9 t9 c9 d9 O ((w9.alloc (.cells #[.slice s9 O.1.length c9, .slice t9 O.2.1.length d9] 26)).alloc (.cells #[.int .i64 O.2.2.1.1, .int .i64 O.2.2.1.2] 28)) :=
      ⟨(Blk.new _ _ _).alloc _, Blk.new' _ _ _ (by simp), ((va.mono n5).alloc _).alloc _, ((vb.mono n5).alloc _).alloc _, hap9⟩
    have ge9 : ∀ k, (Value.slice s9 O.1.length c9).ownBlock = some k → w4.heap.size + 1 ≤ k := fun k hk => by have := (va.lt k hk).1; omega
    have ge9' : ∀ k, (Value.slice t9 O.2.1.length d9).ownBlock = some k → w4.heap.size + 1 ≤ k := fun k hk => by have := (vb.lt k hk).1; omega
    have n59 : X5.heap.size ≤ w9.heap.size := hb9.size
    have a9 := bl_trans hb9 (bl_alloc (bl_alloc (Below.refl _ w9) (.cells #[.slice s9 O.1.length c9, .slice t9 O.2.1.length d9] 26)) (.cells #[.int .i64 O.2.2.1.1, .int .i64 O.2.2.1.2] 28))
    clear hb9 va vb
    replace K := K.later a9
    replace R6 := R6.later a9
    replace J := J.later a9
    replace hR4 := hR4.later a9
    replace L := bl_trans L a9
    clear a9
    obtain ⟨x0, x1, x2⟩ := R9.k.two
    obtain ⟨y0, y1, y2⟩ := R6.k.two
    obtain ⟨z0, z1, z2⟩ := R9.i.two
    obtain ⟨v0, v1, v2⟩ := R6.i.two
    go_wp2_with fail
    generalize hX : (w9.alloc (.cells #[.slice s9 O.1.length c9, .slice t9 O.2.1.length d9] 26)).alloc (.cells #[.int .i64 O.2.2.1.1, .int .i64 O.2.2.1.2] 28) = X9 at K L R6 J hR4 R9 x0 x1 x2 y0 y1 y2 z0 z1 z2 v0 v1 v2 ⊢
    clear hX x0 x1 x2 y0 y1 y2 z0 z1 z2 v0 v1 v2
    have hq : (O.2.2.2 != O.2.2.2) = false := by simp
    refine (eqEnts_any _ _ _ _ _ _ _ _ O.1 O.2.1 O.1 O.2.1 _ (Row.ints R9.v).1 (Row.ints R9.u).1 (Row.ints R6.v).1 (Row.ints R6.u).1 o1 o2).mono ?_
    rintro e wa1 ⟨rfl, hb⟩
    rw [show decide (O.1 = O.1 ∧ O.2.1 = O.2.1) = true by simp]
    replace K := K.later hb
    replace R6 := R6.later hb
    replace J := J.later hb
    replace hR4 := hR4.later hb
    replace R9 := R9.later hb
    replace L := bl_trans L hb
    clear hb
    obtain ⟨z0, z1, z2⟩ := R9.i.two
    obtain ⟨v0, v1, v2⟩ := R6.i.two
    go_wp2_with fail
    clear z0 z1 z2 v0 v1 v2
    refine (eqEnt_any _ _ _ _ _).mono ?_
    rintro e wb1 ⟨rfl, hb⟩
    rw [show (O.2.2.1.1 == O.2.2.1.1 && O.2.2.1.2 == O.2.2.1.2) = true by simp]
    replace K := K.later hb
    replace R6 := R6.later hb
    replace J := J.later hb
    replace hR4 := hR4.later hb
    replace R9 := R9.later hb
    replace L := bl_trans L hb
    clear hb
    obtain ⟨x0, x1, x2⟩ := K.two
    obtain ⟨y0, y1, y2⟩ := J.two
    go_wp2_with fail
    go_cut [56] (fun s wx => s = .bool false ∧ Below wb1.heap.size wb1 wx)
    case first =>
      have M : Below wb1.heap.size wb1 wb1.drew := bl_drew (Below.refl _ _)
      go_region_with (first
        | (go_at_call 11; refine (toEnts_any s1 s2 c1 c2 G F _ (h1.later (bl_trans L M)) (h2.later (bl_trans L M)) (by omega) (by omega)).mono ?_; rintro e w7 ⟨g7, f7, rfl, hR7, hb7⟩; have M := bl_trans M hb7; obtain ⟨z0, z1, z2⟩ := (J.later M).two)
        | (go_at_call 13; refine (eqEnts_any _ _ _ _ _ _ _ _ G F G F _ (hR4.ints.1.later M) (hR4.ints.2.later M) hR7.ints.1 hR7.ints.2 (by omega) (by omega)).mono ?_; rintro e w8 ⟨rfl, hb8⟩; have M := bl_trans M hb8; rw [show decide (G = G ∧ F = F) = true by simp]))
      all_goals
        go_wp2_with fail
        go_meet
        exact ⟨rfl, M⟩
    case rest =>
      clear x0 x1 x2 y0 y1 y2
      obtain ⟨rfl, hb⟩ := hcut
      replace K := K.later hb
      replace R6 := R6.later hb
      replace J := J.later hb
      replace hR4 := hR4.later hb
      replace R9 := R9.later hb
      replace L := bl_trans L hb
      clear hb
      obtain ⟨x0, x1, x2⟩ := J.two
      go_wp2_with fail
      clear x0 x1 x2
      have vX : VRow _ _ (.slice (some ⟨g4, 0, none⟩) G.length G.length) G := hR4.1
      have uX : VRow _ _ (.slice (some ⟨f4, 0, none⟩) F.length F.length) F := hR4.2.1
      refine (markEntsV_any _ _ _ _ _ G F _ vX uX (apartS hR4.2.2) (by omega) (by omega)).mono ?_
      rintro e w12 ⟨rfl, _, _, hT⟩
      have T12 : Turned _ w12 (some g4) (some f4) := hT
      replace K := K.turned T12 (by simp; omega) (by simp; omega)
      replace L := T12.below L (fun k h => by simp at h; omega) (fun k h => by simp at h; omega)
      have R612 : Res w1.heap.size w3.heap.size (w3.heap.size + 1) s6 t6 c6 d6 O w12 := ⟨R6.k.turned T12 (vX.apartB R6.k (by decide)) (uX.apartB R6.k (by decide)), R6.i.turned T12 (vX.apartB R6.i (by decide)) (uX.apartB R6.i (by decide)), R6.v.turned T12 (fun k hk => by have := lt6 k hk; simp; omega), R6.u.turned T12 (fun k hk => by have := lt6' k hk; simp; omega), R6.a⟩
      have R912 : Res (w4.heap.size + 1) w9.heap.size (w9.heap.size + 1) s9 t9 c9 d9 O w12 := ⟨R9.k.turned T12 (vX.apartB R9.k (by decide)) (uX.apartB R9.k (by decide)), R9.i.turned T12 (vX.apartB R9.i (by decide)) (uX.apartB R9.i (by decide)), R9.v.turned T12 (fun k hk => by have := ge9 k hk; simp; omega), R9.u.turned T12 (fun k hk => by have := ge9' k hk; simp; omega), R9.a⟩
      clear R6 R9 J hR4 T12 hT vX uX
      have R6 := R612
      have R9 := R912
      clear R612 R912
      obtain ⟨x0, x1, x2⟩ := R9.k.two
      obtain ⟨y0, y1, y2⟩ := R6.k.two
      go_wp2_with fail
      clear x0 x1 x2 y0 y1 y2
      refine (eqEnts_any _ _ _ _ _ _ _ _ O.1 O.2.1 O.1 O.2.1 _ (Row.ints R9.v).1 (Row.ints R9.u).1 (Row.ints R6.v).1 (Row.ints R6.u).1 o1 o2).mono ?_
      rintro e wa2 ⟨rfl, hb⟩
      rw [show decide (O.1 = O.1 ∧ O.2.1 = O.2.1) = true by simp]
      replace K := K.later hb
      replace R6 := R6.later hb
      replace R9 := R9.later hb
      replace L := bl_trans L hb
      clear hb
      obtain ⟨z0, z1, z2⟩ := R9.i.two
      obtain ⟨v0, v1, v2⟩ := R6.i.two
      go_wp2_with fail
      clear z0 z1 z2 v0 v1 v2
      refine (eqEnt_any _ _ _ _ _).mono ?_
      rintro e wb2 ⟨rfl, hb⟩
      rw [show (O.2.2.1.1 == O.2.2.1.1 && O.2.2.1.2 == O.2.2.1.2) = true by simp]
      replace K := K.later hb
      replace R6 := R6.later hb
      replace R9 := R9.later hb
      replace L := bl_trans L hb
      clear hb
      obtain ⟨x0, x1, x2⟩ := R9.k.two
      go_wp2_with fail
      clear x0 x1 x2
      refine (markEntsV_any _ _ _ _ _ O.1 O.2.1 _ R9.v R9.u R9.a o1 o2).mono ?_
      rintro e w14 ⟨rfl, V, U, hT⟩
      have T14 : Turned _ w14 _ _ := hT
      replace K := K.turned T14 (R9.v.apartB K (by decide)) (R9.u.apartB K (by decide))
      have B := R9.k.turned T14 (R9.v.apartB R9.k (by decide)) (R9.u.apartB R9.k (by decide))
      replace L := T14.below L (fun k h => by have := ge9 k h; omega) (fun k h => by have := ge9' k h; omega)
      have R614 : Res w1.heap.size w3.heap.size (w3.heap.size + 1) s6 t6 c6 d6 O w14 := ⟨R6.k.turned T14 (R9.v.apartB R6.k (by decide)) (R9.u.apartB R6.k (by decide)), R6.i.turned T14 (R9.v.apartB R6.i (by decide)) (R9.u.apartB R6.i (by decide)), R6.v.turned T14 (fun k hk => ⟨fun e => by have := lt6 k hk; have := ge9 k e; omega, fun e => by have := lt6 k hk; have := ge9' k e; omega⟩), R6.u.turned T14 (fun k hk => ⟨fun e => by have := lt6' k hk; have := ge9 k e; omega, fun e => by have := lt6' k hk; have := ge9' k e; omega⟩), R6.a⟩
      clear R6 R9 T14 hT
      have R6 := R614
      clear R614
      obtain ⟨x0, x1, x2⟩ := B.two
      go_wp2_with fail
      clear x0 x1 x2
      refine (heldEntsV_any _ _ _ _ _ _ _ _ V U o1 o2).mono ?_
      rintro e w15 ⟨rfl, hb⟩
      replace K := K.later hb
      replace R6 := R6.later hb
      replace B := B.later hb
      replace V := V.later hb
      replace U := U.later hb
      replace L := bl_trans L hb
      clear hb
      obtain ⟨x0, x1, x2⟩ := K.two
      go_wp2_with fail
      clear x0 x1 x2
      refine (toEnts_any s1 s2 c1 c2 G F _ (h1.later L) (h2.later L) (by omega) (by omega)).mono ?_
      rintro e w16 ⟨g16, f16, rfl, hR16, hb16⟩
      go_wp2_with fail
      refine (implTake_O O _ _ _ _ _ _ G F _ hR16.ints.1 hR16.ints.2 (by omega) (by omega) hO.out).mono ?_
      rintro e w17 ⟨s14, c14, t14, d14, rfl, va, vb, hap14, hb17⟩
      have R9 : Res w15.heap.size w17.heap.size (w17.heap.size + 1) s14 t14 c14 d14 O ((w17.alloc (.cells #[.slice s14 O.1.length c14, .slice t14 O.2.1.length d14] 26)).alloc (.cells #[.int .i64 O.2.2.1.1, .int .i64 O.2.2.1.2] 28)) :=
        ⟨(Blk.new _ _ _).alloc _, Blk.new' _ _ _ (by simp), ((va.mono hb16.size).alloc _).alloc _, ((vb.mono hb16.size).alloc _).alloc _, hap14⟩
      have a17 := bl_trans (bl_trans hb16 hb17) (bl_alloc (bl_alloc (Below.refl _ w17) (.cells #[.slice s14 O.1.length c14, .slice t14 O.2.1.length d14] 26)) (.cells #[.int .i64 O.2.2.1.1, .int .i64 O.2.2.1.2] 28))
      clear hb16 hb17 va vb hR16 K
      replace R6 := R6.later a17
      replace B := B.later a17
      replace V := V.later a17
      replace U := U.later a17
      replace L := bl_trans L a17
      clear a17
      obtain ⟨x0, x1, x2⟩ := R9.k.two
      obtain ⟨y0, y1, y2⟩ := R6.k.two
      go_wp2_with fail
      generalize hX : (w17.alloc (.cells #[.slice s14 O.1.length c14, .slice t14 O.2.1.length d14] 26)).alloc (.cells #[.int .i64 O.2.2.1.1, .int .i64 O.2.2.1.2] 28) = X17 at L R6 B V U R9 x0 x1 x2 y0 y1 y2 ⊢
      clear hX x0 x1 x2 y0 y1 y2
      refine (eqEnts_any _ _ _ _ _ _ _ _ O.1 O.2.1 O.1 O.2.1 _ (Row.ints R9.v).1 (Row.ints R9.u).1 (Row.ints R6.v).1 (Row.ints R6.u).1 o1 o2).mono ?_
      rintro e wa3 ⟨rfl, hb⟩
      rw [show decide (O.1 = O.1 ∧ O.2.1 = O.2.1) = true by simp]
      replace R6 := R6.later hb
      replace R9 := R9.later hb
      replace B := B.later hb
      replace V := V.later hb
      replace U := U.later hb
      replace L := bl_trans L hb
      clear hb
      obtain ⟨z0, z1, z2⟩ := R9.i.two
      obtain ⟨v0, v1, v2⟩ := R6.i.two
      go_wp2_with fail
      clear z0 z1 z2 v0 v1 v2
      refine (eqEnt_any _ _ _ _ _).mono ?_
      rintro e wb3 ⟨rfl, hb⟩
      rw [show (O.2.2.1.1 == O.2.2.1.1 && O.2.2.1.2 == O.2.2.1.2) = true by simp]
      replace R6 := R6.later hb
      replace R9 := R9.later hb
      replace B := B.later hb
      replace V := V.later hb
      replace U := U.later hb
      replace L := bl_trans L hb
      clear hb
      obtain ⟨x0, x1, x2⟩ := B.two
      go_wp2_with fail
      clear x0 x1 x2
      refine (heldEntsV_any _ _ _ _ _ _ _ _ V U o1 o2).mono ?_
      rintro e w19 ⟨rfl, hb19⟩
      go_wp2_with fail
      go_ret
      exact ⟨rfl, bl_trans L hb19⟩
  · go_enter Try.func3, Try.ntmps3
    go_wp2_with fail
    refine (szEnts_neg s1 s2 G.length F.length c1 c2 _ m1 m2 hs).mono ?_
    rintro e w1 ⟨rfl, hb1⟩
    go_wp2_with fail
    go_ret
    refine ⟨rfl, ?_⟩
    (repeat (first | with_reducible exact Below.refl _ _ | with_reducible refine bl_alloc ?_ _ | with_reducible refine bl_drewN ?_ _ | with_reducible refine bl_drew ?_ | with_reducible refine bl_setCell ?_ (by first | exact Nat.le_refl _ | (dsimp only; omega) | (simp <;> omega)) _ | with_reducible refine bl_trans ?_ (by with_reducible assumption)))
end Go.Proofs.Ytcllkmdlheggkab
