import Derived.Test.YtcllkmdlheggkaaDg
import Derived.Deep.RegionHeld3
import Derived.Deep.QuietTactic
import Derived.BigQuiet
namespace Go.Proofs.Ytcllkmdlheggkaa
open Go.RowKit
set_option linter.unusedVariables false
set_option linter.unusedSimpArgs false

theorem VRow.none0 {w : World} {B n c : Nat} {s : Option Addr} {L : List Int} (h : VRow w B (.slice s n c) L) : s = none → c = 0 := by
  intro hs
  rcases h.form with ⟨h', _⟩ | ⟨g, cap, h', _⟩
  · simp at h'; exact h'.2.2
  · simp at h'; rw [hs] at h'; simp at h'
theorem VRow.someOf {w : World} {B c : Nat} {s : Option Addr} {L : List Int} (h : VRow w B (.slice s L.length c) L) (hl : 0 < L.length) : ∃ g, s = some ⟨g, 0, none⟩ := by
  rcases h.form with ⟨_, h'⟩ | ⟨g, cap, h', _⟩
  · rw [h'] at hl; simp at hl
  · simp at h'; exact ⟨g, h'.1⟩
theorem VRow.intsOf {w : World} {B n c : Nat} {s : Option Addr} {L : List Int} (h : VRow w B (.slice s n c) L) : Ints w s L := by
  obtain ⟨s', c', h', hi⟩ := h.slice
  simp at h'
  rw [h'.1]; exact hi
theorem implTake_is (O : List Int × List Int × (Int × Int) × Int) (p1 q1 c1 p2 q2 c2 : Nat) (G F : List Int) (w : World) (h1 : Ints w (some ⟨p1, q1, none⟩) G) (h2 : Ints w (some ⟨p2, q2, none⟩) F) (l1 : G.length ≤ 1048576) (l2 : F.length ≤ 1048576) (hO : takeB G F = O) :
    Calls Try.prog 9 #[.agg #[.slice (some ⟨p1, q1, none⟩) G.length c1, .slice (some ⟨p2, q2, none⟩) F.length c2]] w fun e w' => Takes O w e w' := by
  subst hO; exact implTake_any p1 q1 c1 p2 q2 c2 G F w h1 h2 l1 l2
theorem specTake_is (O : List Int × List Int × (Int × Int) × Int) (p1 q1 c1 p2 q2 c2 : Nat) (G F : List Int) (w : World) (h1 : Ints w (some ⟨p1, q1, none⟩) G) (h2 : Ints w (some ⟨p2, q2, none⟩) F) (l1 : G.length ≤ 1048576) (l2 : F.length ≤ 1048576) (hO : takeB G F = O) :
    Calls Try.prog 10 #[.agg #[.slice (some ⟨p1, q1, none⟩) G.length c1, .slice (some ⟨p2, q2, none⟩) F.length c2]] w fun e w' => Takes O w e w' := by
  subst hO; exact specTake_any p1 q1 c1 p2 q2 c2 G F w h1 h2 l1 l2
theorem implGive_is (O : List Int × List Int × Int) (s1 s2 : Option Addr) (c1 c2 : Nat) (G F : List Int) (a g : Int) (w : World) (h1 : Ints w s1 G) (h2 : Ints w s2 F) (l1 : G.length ≤ 1048576) (l2 : F.length ≤ 1048576) (n1 : s1 = none → c1 = 0) (n2 : s2 = none → c2 = 0) (hO : giveB G F a g = O) :
    Calls Try.prog 12 #[.agg #[.slice s1 G.length c1, .slice s2 F.length c2], .agg #[.int .i64 a, .int .i64 g]] w fun e w' => Gives O w e w' := by
  subst hO; exact implGive_gen s1 s2 c1 c2 G F a g w h1 h2 l1 l2 n1 n2

set_option maxHeartbeats 2000000 in
theorem sameInts_same (s t : Option Addr) (c d : Nat) (A : List Int) (w : World) (hA : Ints w s A) (hB : Ints w t A) (hl : A.length ≤ 1048576) :
    Calls Try.prog 11 #[.slice s A.length c, .slice t A.length d] w fun e w' => e = .returned (.bool true) ∧ Below w.heap.size w w' := by
  have hnn : ((A.length : Int) != (A.length : Int)) = false := by simp
  go_enter Try.func11, Try.ntmps11
  go_wp2_with fail
  go_loopw [5] (fun i wr => ∃ k : Nat, k ≤ A.length ∧ i = .int .i64 k ∧ Below w.heap.size w wr) (fun i _ => A.length - (intOf i).toNat)
  case atStart => exact ⟨0, Nat.zero_le _, rfl, Below.refl _ _⟩
  case round =>
    obtain ⟨k, hk, rfl, hbel⟩ := hrel
    by_cases hlt : k < A.length
    · obtain ⟨pb, po, rfl, hp, hc⟩ := hA.get hlt
      obtain ⟨qb, qo, rfl, hq, hd⟩ := hB.get hlt
      obtain ⟨x, hx⟩ : ∃ x, Hid (A[k]?.getD 0 = x) := ⟨_, rfl⟩
      have d1 : wr.cell? ⟨pb, po + k, none⟩ = some (.int .i64 x) := by rw [← hx.out]; exact (hbel.cell (p := ⟨pb, po + k, none⟩) hp).trans (hc k hlt)
      have d2 : wr.cell? ⟨qb, qo + k, none⟩ = some (.int .i64 x) := by rw [← hx.out]; exact (hbel.cell (p := ⟨qb, qo + k, none⟩) hq).trans (hd k hlt)
      have hkI : (k : Int) < (A.length : Int) := by omega
      have hxx : (x != x) = false := by simp
      clear hc hd
      go_wp2_with fail
      go_quiet (fail)
      go_wp2_with fail
      go_roundw
      case rel =>
        refine ⟨k + 1, by omega, by go_num, ?_⟩
        (repeat (first | with_reducible exact Below.refl _ _ | with_reducible refine bl_alloc ?_ _ | with_reducible refine bl_drewN ?_ _ | with_reducible refine bl_drew ?_ | with_reducible refine bl_setCell ?_ (by first | exact Nat.le_refl _ | (dsimp only; omega) | (simp <;> omega)) _ | with_reducible refine bl_trans ?_ (by with_reducible assumption)))
      case measure => simp [intOf]; omega
    · go_wp2_with fail
      go_ret
      exact ⟨rfl, hbel⟩

set_option maxRecDepth 100000 in
set_option maxHeartbeats 16000000 in
theorem things_any (sl : Option Addr) (len cap : Nat) (w : World) (hC : Code w sl len) :
    Calls Try.prog 3 #[.slice sl len cap] w fun e w' => e = .returned (.bool true) ∧ Below w.heap.size w w' := by
  have hal := alloc_old
  have haf := alloc_oldf
  by_cases hl : len ≤ 1048576
  · have hd : decide (1048576 < (len : Int)) = false := by simp; omega
    go_enter Try.func3, Try.ntmps3
    go_wp2_with fail
    refine (big_any sl len cap _).mono ?_
    rintro e w0 ⟨rfl, rfl⟩
    rw [hd]
    go_wp2_with fail
    refine (drawTake_any sl len cap _ hl hC).mono ?_
    rintro e w1 ⟨g, c, f, d, G, F, rfl, v1, v2, hne, ⟨lG, lF⟩, L⟩
    have iG := v1.intsOf
    have iF := v2.intsOf
    have gl : G.length ≤ 1048576 := by omega
    have fl : F.length ≤ 1048576 := by omega
    clear v1 v2 hne
    have P := Blk.new w1 #[.slice (some ⟨g, 0, none⟩) G.length c, .slice (some ⟨f, 0, none⟩) F.length d] 26
    replace iG := iG.later (bl_alloc (Below.refl _ w1) (.cells #[.slice (some ⟨g, 0, none⟩) G.length c, .slice (some ⟨f, 0, none⟩) F.length d] 26))
    replace iF := iF.later (bl_alloc (Below.refl _ w1) (.cells #[.slice (some ⟨g, 0, none⟩) G.length c, .slice (some ⟨f, 0, none⟩) F.length d] 26))
    replace L := bl_alloc L (.cells #[.slice (some ⟨g, 0, none⟩) G.length c, .slice (some ⟨f, 0, none⟩) F.length d] 26)
    obtain ⟨x0, x1, x2⟩ := P.two
    go_wp2_with fail
    generalize hX : w1.alloc (.cells #[.slice (some ⟨g, 0, none⟩) G.length c, .slice (some ⟨f, 0, none⟩) F.length d] 26) = X1 at P iG iF L x0 x1 x2 ⊢
    generalize hbp : w1.heap.size = bp at P x0 x1 x2 ⊢
    clear hX hbp x0 x1 x2 hd
    by_cases h0 : (takeB G F).2.2.2 = 0
    · obtain ⟨q, x, Ga, Fa, S⟩ := story h0
      clear h0
      have lq := S.len
      have gal : Ga.length ≤ 1048576 := by omega
      have fal : Fa.length ≤ 1048576 := by omega
      obtain ⟨Gb, hGb⟩ : ∃ Gb, Ga.set q (ng x) = Gb := ⟨_, rfl⟩
      obtain ⟨Fb, hFb⟩ : ∃ Fb, Fa ++ [(q : Int)] = Fb := ⟨_, rfl⟩
      obtain ⟨y, hy⟩ : ∃ y, ng x = y := ⟨_, rfl⟩
      have gbl : Gb.length = Ga.length := by rw [← hGb]; simp
      have fbl : Fb.length = Fa.length + 1 := by rw [← hFb]; simp
      have gb0 : 0 < Gb.length := by
        have := (okE_parts S.okb).2.1
        rw [hGb, hFb] at this
        omega
      have fb0 : 0 < Fb.length := by omega
      have s_take := S.take
      have s_dead := S.dead
      have s_live := S.live
      have s_give := S.give
      have s_gone := S.gone
      have s_again := S.again
      have s_old := S.old
      have s_new := S.new
      have s_la := S.la
      have s_lb := S.lb
      have s_gen := S.gen
      simp only [hGb, hFb] at s_take s_dead s_live s_give s_gone s_again s_old s_new s_la s_lb s_gen
      simp only [hy] at s_take s_dead s_live s_give s_gone s_again s_old s_new s_la s_lb s_gen
      have H1 : Hid (takeB G F = (Ga, Fa, ((q : Int), x), 0)) := s_take
      have H2 : Hid (giveB Ga Fa (q : Int) x = (Gb, Fb, 0)) := s_give
      have H3 : Hid (takeB Gb Fb = (Gb, Fa, ((q : Int), y), 0)) := s_again
      have H4 : Hid (liveB G F (q : Int) x = false) := s_dead
      have H5 : Hid (liveB Ga Fa (q : Int) x = true) := s_live
      have H6 : Hid (liveB Gb Fb (q : Int) x = false) := s_gone
      have H7 : Hid (liveB Gb Fa (q : Int) x = false) := s_old
      have H8 : Hid (liveB Gb Fa (q : Int) y = true) := s_new
      obtain ⟨N, hN⟩ : ∃ N, (listB G F).length = N := ⟨_, rfl⟩
      rw [hN] at s_la s_lb
      have H9 : Hid ((listB G F).length = N) := hN
      have H10 : Hid ((listB Ga Fa).length = N + 1) := s_la
      have H11 : Hid ((listB Gb Fb).length = N) := s_lb
      have hN2 : N ≤ 2000 := by rw [← hN]; exact lq.1
      have yx : (y != x) = true := by simpa using s_gen
      have gbL : Gb.length ≤ 1048576 := by omega
      have fbL : Fb.length ≤ 1048576 := by omega
      clear s_take s_dead s_live s_give s_gone s_again s_old s_new s_la s_lb s_gen hN hGb hFb hy S gbl fbl lq
      refine (implTake_is (Ga, Fa, ((q : Int), x), 0) _ _ _ _ _ _ G F _ iG iF gl fl H1.out).mono ?_
      rintro e w2 ⟨sa, ca, ta, da, rfl, va, ua, hap, hb⟩
      have iA := va.intsOf
      have jA := ua.intsOf
      have n1 := va.none0
      have n2 := ua.none0
      clear va ua hap
      have Ab : Blk ((w2.alloc (.cells #[.slice sa Ga.length ca, .slice ta Fa.length da] 26)).alloc (.cells #[.int .i64 (q : Int), .int .i64 x] 29)) w2.heap.size #[.slice sa Ga.length ca, .slice ta Fa.length da] 26 := (Blk.new _ _ _).alloc _
      have Xb : Blk ((w2.alloc (.cells #[.slice sa Ga.length ca, .slice ta Fa.length da] 26)).alloc (.cells #[.int .i64 (q : Int), .int .i64 x] 29)) (w2.heap.size + 1) #[.int .i64 (q : Int), .int .i64 x] 29 := Blk.new' _ _ _ (by simp)
      have a2 := bl_alloc (bl_alloc (Below.refl _ w2) (.cells #[.slice sa Ga.length ca, .slice ta Fa.length da] 26)) (.cells #[.int .i64 (q : Int), .int .i64 x] 29)
      replace iA := iA.later a2
      replace jA := jA.later a2
      replace hb := bl_trans hb a2
      clear a2
      replace P := P.later hb
      replace iG := iG.later hb
      replace iF := iF.later hb
      replace L := bl_trans L hb
      clear hb
      obtain ⟨x0, x1, x2⟩ := P.two
      go_wp2_with fail
      generalize hX : (w2.alloc (.cells #[.slice sa Ga.length ca, .slice ta Fa.length da] 26)).alloc (.cells #[.int .i64 (q : Int), .int .i64 x] 29) = X2 at P iG iF L iA jA Ab Xb x0 x1 x2 ⊢
      generalize hba : w2.heap.size = ba at Ab Xb ⊢
      clear hX hba x0 x1 x2
      refine (specTake_is (Ga, Fa, ((q : Int), x), 0) _ _ _ _ _ _ G F _ iG iF gl fl H1.out).mono ?_
      rintro e w3 ⟨sb, cb, tb, db, rfl, vb, ub, hap, hb⟩
      clear vb ub hap
      replace hb := bl_trans hb (bl_alloc (bl_alloc (Below.refl _ w3) (.cells #[.slice sb Ga.length cb, .slice tb Fa.length db] 26)) (.cells #[.int .i64 (q : Int), .int .i64 x] 29))
      replace P := P.later hb
      replace iG := iG.later hb
      replace iF := iF.later hb
      replace iA := iA.later hb
      replace jA := jA.later hb
      replace Ab := Ab.later hb
      replace Xb := Xb.later hb
      replace L := bl_trans L hb
      clear hb
      obtain ⟨y0, y1, y2⟩ := Ab.two
      obtain ⟨z0, z1, z2⟩ := Xb.two
      go_wp2_with fail
      generalize hX : (w3.alloc (.cells #[.slice sb Ga.length cb, .slice tb Fa.length db] 26)).alloc (.cells #[.int .i64 (q : Int), .int .i64 x] 29) = X3 at P iG iF L iA jA Ab Xb y0 y1 y2 z0 z1 z2 ⊢
      clear hX y0 y1 y2 z0 z1 z2
      refine (implGive_is (Gb, Fb, 0) sa ta ca da Ga Fa (q : Int) x _ iA jA gal fal n1 n2 H2.out).mono ?_
      rintro e w4 ⟨sc, cc, tc, dc, rfl, vc, uc, hap, hb⟩
      obtain ⟨gc, rfl⟩ := VRow.someOf vc gb0
      obtain ⟨fc, rfl⟩ := VRow.someOf uc fb0
      have iB := vc.intsOf
      have jB := uc.intsOf
      clear vc uc hap
      have Bb : Blk (w4.alloc (.cells #[.slice (some ⟨gc, 0, none⟩) Gb.length cc, .slice (some ⟨fc, 0, none⟩) Fb.length dc] 26)) w4.heap.size #[.slice (some ⟨gc, 0, none⟩) Gb.length cc, .slice (some ⟨fc, 0, none⟩) Fb.length dc] 26 := Blk.new _ _ _
      have a4 := bl_alloc (Below.refl _ w4) (.cells #[.slice (some ⟨gc, 0, none⟩) Gb.length cc, .slice (some ⟨fc, 0, none⟩) Fb.length dc] 26)
      replace iB := iB.later a4
      replace jB := jB.later a4
      replace hb := bl_trans hb a4
      clear a4
      replace P := P.later hb
      replace iG := iG.later hb
      replace iF := iF.later hb
      replace iA := iA.later hb
      replace jA := jA.later hb
      replace Ab := Ab.later hb
      replace Xb := Xb.later hb
      replace L := bl_trans L hb
      clear hb
      obtain ⟨y0, y1, y2⟩ := Bb.two
      go_wp2_with fail
      generalize hX : w4.alloc (.cells #[.slice (some ⟨gc, 0, none⟩) Gb.length cc, .slice (some ⟨fc, 0, none⟩) Fb.length dc] 26) = X4 at P iG iF L iA jA Ab Xb iB jB Bb y0 y1 y2 ⊢
      generalize hbb : w4.heap.size = bb at Bb y0 y1 y2 ⊢
      clear hX hbb y0 y1 y2
      refine (implTake_is (Gb, Fa, ((q : Int), y), 0) _ _ _ _ _ _ Gb Fb _ iB jB gbL fbL H3.out).mono ?_
      rintro e w5 ⟨se, ce, te, de, rfl, ve, ue, hap, hb⟩
      have iE := ve.intsOf
      have jE := ue.intsOf
      clear ve ue hap
      have Eb : Blk ((w5.alloc (.cells #[.slice se Gb.length ce, .slice te Fa.length de] 26)).alloc (.cells #[.int .i64 (q : Int), .int .i64 y] 29)) w5.heap.size #[.slice se Gb.length ce, .slice te Fa.length de] 26 := (Blk.new _ _ _).alloc _
      have Yb : Blk ((w5.alloc (.cells #[.slice se Gb.length ce, .slice te Fa.length de] 26)).alloc (.cells #[.int .i64 (q : Int), .int .i64 y] 29)) (w5.heap.size + 1) #[.int .i64 (q : Int), .int .i64 y] 29 := Blk.new' _ _ _ (by simp)
      have a5 := bl_alloc (bl_alloc (Below.refl _ w5) (.cells #[.slice se Gb.length ce, .slice te Fa.length de] 26)) (.cells #[.int .i64 (q : Int), .int .i64 y] 29)
      replace iE := iE.later a5
      replace jE := jE.later a5
      replace hb := bl_trans hb a5
      clear a5
      replace P := P.later hb
      replace iG := iG.later hb
      replace iF := iF.later hb
      replace iA := iA.later hb
      replace jA := jA.later hb
      replace Ab := Ab.later hb
      replace Xb := Xb.later hb
      replace iB := iB.later hb
      replace jB := jB.later hb
      replace Bb := Bb.later hb
      replace L := bl_trans L hb
      clear hb
      obtain ⟨x0, x1, x2⟩ := P.two
      obtain ⟨z0, z1, z2⟩ := Xb.two
      go_wp2_with fail
      generalize hX : (w5.alloc (.cells #[.slice se Gb.length ce, .slice te Fa.length de] 26)).alloc (.cells #[.int .i64 (q : Int), .int .i64 y] 29) = X5 at P iG iF iA jA Ab Xb iB jB Bb iE jE Eb Yb L x0 x1 x2 z0 z1 z2 ⊢
      generalize hbe : w5.heap.size = be at Eb Yb ⊢
      clear hX hbe x0 x1 x2 z0 z1 z2
      refine (specLive_any (some ⟨g, 0, none⟩) (some ⟨f, 0, none⟩) c d G F (q : Int) x _ iG iF gl fl).mono ?_
      rintro e w6 ⟨rfl, hb⟩
      rw [H4.out]
      replace P := P.later hb
      replace iG := iG.later hb
      replace iF := iF.later hb
      replace iA := iA.later hb
      replace jA := jA.later hb
      replace Ab := Ab.later hb
      replace Xb := Xb.later hb
      replace iB := iB.later hb
      replace jB := jB.later hb
      replace Bb := Bb.later hb
      replace iE := iE.later hb
      replace jE := jE.later hb
      replace Eb := Eb.later hb
      replace Yb := Yb.later hb
      replace L := bl_trans L hb
      clear hb
      obtain ⟨x0, x1, x2⟩ := Ab.two
      obtain ⟨z0, z1, z2⟩ := Xb.two
      go_wp2_with fail
      clear x0 x1 x2 z0 z1 z2
      refine (implLive_any sa ta ca da Ga Fa (q : Int) x _ iA jA gal fal).mono ?_
      rintro e w7 ⟨rfl, hb⟩
      rw [H5.out]
      replace P := P.later hb
      replace iG := iG.later hb
      replace iF := iF.later hb
      replace iA := iA.later hb
      replace jA := jA.later hb
      replace Ab := Ab.later hb
      replace Xb := Xb.later hb
      replace iB := iB.later hb
      replace jB := jB.later hb
      replace Bb := Bb.later hb
      replace iE := iE.later hb
      replace jE := jE.later hb
      replace Eb := Eb.later hb
      replace Yb := Yb.later hb
      replace L := bl_trans L hb
      clear hb
      obtain ⟨x0, x1, x2⟩ := Bb.two
      obtain ⟨z0, z1, z2⟩ := Xb.two
      go_wp2_with fail
      clear x0 x1 x2 z0 z1 z2
      refine (implLive_any (some ⟨gc, 0, none⟩) (some ⟨fc, 0, none⟩) cc dc Gb Fb (q : Int) x _ iB jB gbL fbL).mono ?_
      rintro e w8 ⟨rfl, hb⟩
      rw [H6.out]
      replace P := P.later hb
      replace iG := iG.later hb
      replace iF := iF.later hb
      replace iA := iA.later hb
      replace jA := jA.later hb
      replace Ab := Ab.later hb
      replace Xb := Xb.later hb
      replace iB := iB.later hb
      replace jB := jB.later hb
      replace Bb := Bb.later hb
      replace iE := iE.later hb
      replace jE := jE.later hb
      replace Eb := Eb.later hb
      replace Yb := Yb.later hb
      replace L := bl_trans L hb
      clear hb
      obtain ⟨x0, x1, x2⟩ := Eb.two
      obtain ⟨z0, z1, z2⟩ := Xb.two
      go_wp2_with fail
      clear x0 x1 x2 z0 z1 z2
      refine (implLive_any se te ce de Gb Fa (q : Int) x _ iE jE gbL fal).mono ?_
      rintro e w9 ⟨rfl, hb⟩
      rw [H7.out]
      replace P := P.later hb
      replace iG := iG.later hb
      replace iF := iF.later hb
      replace iA := iA.later hb
      replace jA := jA.later hb
      replace Ab := Ab.later hb
      replace Xb := Xb.later hb
      replace iB := iB.later hb
      replace jB := jB.later hb
      replace Bb := Bb.later hb
      replace iE := iE.later hb
      replace jE := jE.later hb
      replace Eb := Eb.later hb
      replace Yb := Yb.later hb
      replace L := bl_trans L hb
      clear hb
      obtain ⟨p0, p1, _⟩ := P.two
      obtain ⟨a0, a1, _⟩ := Ab.two
      obtain ⟨q0, q1, _⟩ := Xb.two
      obtain ⟨b0, b1, _⟩ := Bb.two
      obtain ⟨e0, e1, _⟩ := Eb.two
      obtain ⟨y0, y1, _⟩ := Yb.two
      go_upto_region 12 with fail
      have M : Below w9.heap.size w9 w9.drew := bl_drew (Below.refl _ _)
      have BC : ∀ w', Below w9.heap.size w9 w' → w'.cell? ⟨bp, 0, none⟩ = some (.slice (some ⟨g, 0, none⟩) G.length c) ∧ w'.cell? ⟨bp, 1, none⟩ = some (.slice (some ⟨f, 0, none⟩) F.length d) ∧ w'.cell? ⟨ba, 0, none⟩ = some (.slice sa Ga.length ca) ∧ w'.cell? ⟨ba, 1, none⟩ = some (.slice ta Fa.length da) ∧ w'.cell? ⟨(ba + 1), 0, none⟩ = some (.int .i64 (q : Int)) ∧ w'.cell? ⟨(ba + 1), 1, none⟩ = some (.int .i64 x) ∧ w'.cell? ⟨bb, 0, none⟩ = some (.slice (some ⟨gc, 0, none⟩) Gb.length cc) ∧ w'.cell? ⟨bb, 1, none⟩ = some (.slice (some ⟨fc, 0, none⟩) Fb.length dc) ∧ w'.cell? ⟨be, 0, none⟩ = some (.slice se Gb.length ce) ∧ w'.cell? ⟨be, 1, none⟩ = some (.slice te Fa.length de) ∧ w'.cell? ⟨(be + 1), 0, none⟩ = some (.int .i64 (q : Int)) ∧ w'.cell? ⟨(be + 1), 1, none⟩ = some (.int .i64 y) := fun w' hM => ⟨cell_later hM p0, cell_later hM p1, cell_later hM a0, cell_later hM a1, cell_later hM q0, cell_later hM q1, cell_later hM b0, cell_later hM b1, cell_later hM e0, cell_later hM e1, cell_later hM y0, cell_later hM y1⟩
      have tN : IntKind.i64.wrap ((N : Int) + 1) = (N : Int) + 1 := by rw [IntKind.wrap_i64]; omega
      clear P Ab Xb Bb Eb Yb p0 p1 a0 a1 q0 q1 b0 b1 e0 e1 y0 y1
      go_region_held3 (fun w' => w'.cell? ⟨bp, 0, none⟩ = some (.slice (some ⟨g, 0, none⟩) G.length c) ∧ w'.cell? ⟨bp, 1, none⟩ = some (.slice (some ⟨f, 0, none⟩) F.length d) ∧ w'.cell? ⟨ba, 0, none⟩ = some (.slice sa Ga.length ca) ∧ w'.cell? ⟨ba, 1, none⟩ = some (.slice ta Fa.length da) ∧ w'.cell? ⟨(ba + 1), 0, none⟩ = some (.int .i64 (q : Int)) ∧ w'.cell? ⟨(ba + 1), 1, none⟩ = some (.int .i64 x) ∧ w'.cell? ⟨bb, 0, none⟩ = some (.slice (some ⟨gc, 0, none⟩) Gb.length cc) ∧ w'.cell? ⟨bb, 1, none⟩ = some (.slice (some ⟨fc, 0, none⟩) Fb.length dc) ∧ w'.cell? ⟨be, 0, none⟩ = some (.slice se Gb.length ce) ∧ w'.cell? ⟨be, 1, none⟩ = some (.slice te Fa.length de) ∧ w'.cell? ⟨(be + 1), 0, none⟩ = some (.int .i64 (q : Int)) ∧ w'.cell? ⟨(be + 1), 1, none⟩ = some (.int .i64 y)) (exact BC _ M)
        (first
          | (go_at_call 14; refine (implLive_any se te ce de Gb Fa (q : Int) y _ (iE.later M) (jE.later M) gbL fal).mono ?_; rintro e wx ⟨rfl, hb⟩; rw [H8.out]; have M := bl_trans M hb)
          | (go_at_call_of 15 (Value.slice sa Ga.length ca); refine (implList_any sa ta ca da Ga Fa _ (iA.later M) (jA.later M) fal).mono ?_; rintro e wx ⟨v, rfl, hv, hb⟩; obtain ⟨s9, c9, rfl⟩ := hv.list.shape; rw [H10.out]; have M := bl_trans M hb; clear hv)
          | (go_at_call_of 15 (Value.slice (some ⟨gc, 0, none⟩) Gb.length cc); refine (implList_any (some ⟨gc, 0, none⟩) (some ⟨fc, 0, none⟩) cc dc Gb Fb _ (iB.later M) (jB.later M) fbL).mono ?_; rintro e wx ⟨v, rfl, hv, hb⟩; obtain ⟨s9, c9, rfl⟩ := hv.list.shape; rw [H11.out]; have M := bl_trans M hb; clear hv)
          | (go_at_call 16; refine (specList_any (some ⟨g, 0, none⟩) (some ⟨f, 0, none⟩) c d G F _ (iG.later M) (iF.later M)).mono ?_; rintro e wx ⟨v, rfl, hv, hb⟩; obtain ⟨s9, c9, rfl⟩ := hv.list.shape; rw [H9.out]; have M := bl_trans M hb; clear hv))
      all_goals
        go_wp2_with fail
        go_ret
        exact ⟨by simp, bl_trans L M⟩
    · obtain ⟨hO1, hO2⟩ := nostory h0
      obtain ⟨Oc, hOc⟩ : ∃ k, (takeB G F).2.2.2 = k := ⟨_, rfl⟩
      obtain ⟨Oe, hOe⟩ : ∃ k, (takeB G F).2.2.1 = k := ⟨_, rfl⟩
      obtain ⟨ea, eb⟩ := Oe
      have hO : Hid (takeB G F = (G, F, (ea, eb), Oc)) := by
        show _ = _
        rw [← hOe, ← hOc]
        exact Prod.ext hO1 (Prod.ext hO2 rfl)
      rw [hOc] at h0
      have hnz : (Oc != 0) = true := by simp [h0]
      have heq : (Oc == Oc) = true := by simp
      clear hO1 hO2 hOc hOe h0
      refine (implTake_is (G, F, (ea, eb), Oc) _ _ _ _ _ _ G F _ iG iF gl fl hO.out).mono ?_
      rintro e w2 ⟨sa, ca, ta, da, rfl, va, ua, hap, hb⟩
      have iA := va.intsOf
      have jA := ua.intsOf
      clear va ua hap
      have Ab : Blk ((w2.alloc (.cells #[.slice sa G.length ca, .slice ta F.length da] 26)).alloc (.cells #[.int .i64 ea, .int .i64 eb] 29)) w2.heap.size #[.slice sa G.length ca, .slice ta F.length da] 26 := (Blk.new _ _ _).alloc _
      have a2 := bl_alloc (bl_alloc (Below.refl _ w2) (.cells #[.slice sa G.length ca, .slice ta F.length da] 26)) (.cells #[.int .i64 ea, .int .i64 eb] 29)
      replace iA := iA.later a2
      replace jA := jA.later a2
      replace hb := bl_trans hb a2
      clear a2
      replace P := P.later hb
      replace iG := iG.later hb
      replace iF := iF.later hb
      replace L := bl_trans L hb
      clear hb
      obtain ⟨x0, x1, x2⟩ := P.two
      go_wp2_with fail
      generalize hX : (w2.alloc (.cells #[.slice sa G.length ca, .slice ta F.length da] 26)).alloc (.cells #[.int .i64 ea, .int .i64 eb] 29) = X2 at P iG iF L iA jA Ab x0 x1 x2 ⊢
      generalize hba : w2.heap.size = ba at Ab ⊢
      clear hX hba x0 x1 x2
      refine (specTake_is (G, F, (ea, eb), Oc) _ _ _ _ _ _ G F _ iG iF gl fl hO.out).mono ?_
      rintro e w3 ⟨sb, cb, tb, db, rfl, vb, ub, hap, hb⟩
      clear vb ub hap
      replace hb := bl_trans hb (bl_alloc (bl_alloc (Below.refl _ w3) (.cells #[.slice sb G.length cb, .slice tb F.length db] 26)) (.cells #[.int .i64 ea, .int .i64 eb] 29))
      replace P := P.later hb
      replace iG := iG.later hb
      replace iF := iF.later hb
      replace iA := iA.later hb
      replace jA := jA.later hb
      replace Ab := Ab.later hb
      replace L := bl_trans L hb
      clear hb
      obtain ⟨x0, x1, x2⟩ := P.two
      obtain ⟨y0, y1, y2⟩ := Ab.two
      go_wp2_with fail
      refine (sameInts_same sa (some ⟨g, 0, none⟩) ca c G _ iA iG gl).mono ?_
      rintro e w4 ⟨rfl, hb⟩
      clear x0 x1 x2 y0 y1 y2
      replace P := P.later hb
      replace iG := iG.later hb
      replace iF := iF.later hb
      replace iA := iA.later hb
      replace jA := jA.later hb
      replace Ab := Ab.later hb
      replace L := bl_trans L hb
      clear hb
      obtain ⟨x0, x1, x2⟩ := P.two
      obtain ⟨y0, y1, y2⟩ := Ab.two
      go_wp2_with fail
      refine (sameInts_same ta (some ⟨f, 0, none⟩) da d F _ jA iF fl).mono ?_
      rintro e w5 ⟨rfl, hb⟩
      go_wp2_with fail
      go_ret
      exact ⟨rfl, bl_trans L hb⟩
  · have hd : decide (1048576 < (len : Int)) = true := by simp; omega
    go_enter Try.func3, Try.ntmps3
    go_wp2_with fail
    refine (big_any sl len cap _).mono ?_
    rintro e w0 ⟨rfl, rfl⟩
    rw [hd]
    go_wp2_with fail
    go_ret
    exact ⟨rfl, Below.refl _ _⟩
end Go.Proofs.Ytcllkmdlheggkaa
