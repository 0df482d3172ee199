import Derived.Test.YtpgcianhppihiaaDoorG67
import Derived.Test.YtpgcianhppihiaaDoorG14
import Derived.Test.YtpgcianhppihiaaDoorG33
namespace Go.Proofs.YtpgcianhppihiaaDoor
open Go.RowKit
set_option linter.unusedVariables false
set_option linter.unusedSimpArgs false

theorem implLinears_is (n : Int) (s : Option Addr) (c : Nat) (L : List (Int × Int)) (K : Int) (w : World) (hL : Eds w s L) (hl : L.length ≤ 1048576) (hK : linsB n L = K) :
    Calls Tryd.prog 20 #[.int .i64 n, .slice s L.length c] w fun e w' => e = .returned (.int .i64 K) ∧ Below w.heap.size w w' := by
  subst hK; exact implLinears_any n s c L w hL hl
theorem specLinears_is (n : Int) (s : Option Addr) (c : Nat) (L : List (Int × Int)) (K : Int) (w : World) (hL : Eds w s L) (hl : L.length ≤ 1048576) (hK : linsB n L = K) :
    Calls Tryd.prog 21 #[.int .i64 n, .slice s L.length c] w fun e w' => e = .returned (.int .i64 K) ∧ Below w.heap.size w w' := by
  subst hK; exact specLinears_any n s c L w hL hl
theorem linr_end (n : Int) (L : List (Int × Int)) : linrB n L (linsB n L) = none := by
  unfold linrB; rw [if_neg (by omega)]
theorem lins_open {n : Int} {L : List (Int × Int)} (h : ¬ linsB n L < 0) : ∃ m : Nat, n = (m : Int) ∧ m ≤ 8 ∧ gOk n L = true ∧ linsB n L = (cnt L m m (fun _ => false) : Int) := by
  unfold linsB at h ⊢
  by_cases g : gOk n L = true ∧ n ≤ 8
  · obtain ⟨m, rfl, hm, _⟩ := gOk_open g.1
    rw [if_pos g]
    exact ⟨m, rfl, by omega, g.1, by simp⟩
  · rw [if_neg g] at h; omega
theorem lins_list {m k : Nat} {L : List (Int × Int)} (hg : gOk m L = true) (hm : m ≤ 8) (hk : k < cnt L m m (fun _ => false)) (hK : linsB m L = (cnt L m m (fun _ => false) : Int)) : linrB m L k = some (lSq L m k m).1 ∧ (lSq L m k m).1.length = m ∧ linB m L (lSq L m k m).1 = true := by
  obtain ⟨m', hm', _, _, hin, h16⟩ := gOk_open hg
  obtain ⟨h1, h2⟩ := lSq_inv hm hk m (Nat.le_refl _)
  refine ⟨?_, h2, (linB_iff _ _ _).2 ⟨hg, by rw [h2], ?_⟩⟩
  · unfold linrB; rw [hK, if_pos (by omega)]; simp
  · have := lSq_ok hm h16 hk m (Nat.le_refl _)
    rw [h2]; simpa using this
theorem implLinearOk_is (n : Int) (s so : Option Addr) (c co : Nat) (L : List (Int × Int)) (O : List Int) (w : World) (hL : Eds w s L) (hl : L.length ≤ 1048576) (hO : Ints w so O) (hlo : O.length ≤ 1048576) (h : linB n L O = true) :
    Calls Tryd.prog 24 #[.int .i64 n, .slice s L.length c, .slice so O.length co] w fun e w' => e = .returned (.bool true) ∧ Below w.heap.size w w' := by
  have := implLinearOk_any n s so c co L O w hL hl hO hlo
  rw [h] at this; exact this
theorem specLinearOk_is (n : Int) (s so : Option Addr) (c co : Nat) (L : List (Int × Int)) (O : List Int) (w : World) (hL : Eds w s L) (hl : L.length ≤ 1048576) (hO : Ints w so O) (hlo : O.length ≤ 1048576) (h : linB n L O = true) :
    Calls Tryd.prog 25 #[.int .i64 n, .slice s L.length c, .slice so O.length co] w fun e w' => e = .returned (.bool true) ∧ Below w.heap.size w w' := by
  have := specLinearOk_any n s so c co L O w hL hl hO hlo
  rw [h] at this; exact this
/-- what the list kept is. -/
def Last (w : World) (v : Value) (L : List (Int × Int)) (m i : Nat) : Prop := 0 < i → ∃ s c, v = .slice s m c ∧ Ints w s (lSq L m (i - 1) m).1

set_option maxRecDepth 100000 in
set_option maxHeartbeats 8000000 in
theorem linears_any (sl : Option Addr) (len cap : Nat) (w : World) (hC : Code w sl len) (hT : DbT w) :
    Calls Tryd.prog 6 #[.slice sl len cap] w fun e w' => e = .returned (.bool true) ∧ Below w.heap.size w w' := by
  by_cases hl : len ≤ 1048576
  · have hd : decide (1048576 < (len : Int)) = false := by simp; omega
    go_enter Tryd.func6, Tryd.ntmps6
    go_wp2_with fail
    refine (big_any sl len cap _).mono ?_
    rintro e w0 ⟨rfl, rfl⟩
    rw [hd]
    go_wp2_with fail
    refine (drawLinear_any sl len cap _ hl hC).mono ?_
    rintro e w1 ⟨x, s, c, L, k0, rfl, hx, hL, hE, hb1⟩
    have hL' : L.length ≤ 1048576 := by omega
    have HL : Hid (Eds w1 s L) := hE.eds
    have HT : Hid (DbT w1) := hT.later hb1
    have HB : Hid (Below w0.heap.size w0 w1) := hb1
    obtain ⟨K, hK⟩ : ∃ K, Hid (linsB x L = K) := ⟨_, rfl⟩
    clear hE hb1 hC hT
    go_wp2_with fail
    refine (implLinears_is x s c L K _ HL.out hL' hK.out).mono ?_
    rintro e w2 ⟨rfl, b2⟩
    have HL2 : Hid (Eds w2 s L) := HL.out.later b2
    have HT2 : Hid (DbT w2) := HT.out.later b2
    have HB2 : Hid (Below w0.heap.size w0 w2) := bl_trans HB.out b2
    clear b2 HL HT HB
    go_wp2_with fail
    refine (specLinears_is x s c L K _ HL2.out hL' hK.out).mono ?_
    rintro e w3 ⟨rfl, b3⟩
    have HL3 : Hid (Eds w3 s L) := HL2.out.later b3
    have HT3 : Hid (DbT w3) := HT2.out.later b3
    have HB3 : Hid (Below w0.heap.size w0 w3) := bl_trans HB2.out b3
    clear b3 HL2 HT2 HB2
    have hkk : (K != K) = false := by simp
    have hend : Hid (linrB x L K = none) := by rw [← hK.out]; exact linr_end x L
    by_cases h0 : K < 0
    · have t0 : decide (K < 0) = true := by simpa using h0
      go_wp2_with fail
      refine (implLinear_is x K s c L [] false _ HL3.out hL' HT3.out (by rw [hend.out]; rfl) (by rw [hend.out]; rfl)).mono ?_
      rintro e w4 ⟨s4, c4, rfl, v4, b4⟩
      have HB4 : Hid (Below w0.heap.size w0 w4) := bl_trans HB3.out b4
      clear v4 b4
      go_wp2_with fail
      go_ret
      exact ⟨rfl, HB4.out⟩
    · have t0 : decide (K < 0) = false := by simpa using h0
      by_cases h5 : 5 < x
      · have t1 : decide (5 < x) = true := by simpa using h5
        go_wp2_with fail
        refine (implLinear_is x K s c L [] false _ HL3.out hL' HT3.out (by rw [hend.out]; rfl) (by rw [hend.out]; rfl)).mono ?_
        rintro e w4 ⟨s4, c4, rfl, v4, b4⟩
        have HB4 : Hid (Below w0.heap.size w0 w4) := bl_trans HB3.out b4
        clear v4 b4
        go_wp2_with fail
        go_ret
        exact ⟨rfl, HB4.out⟩
      · have t1 : decide (5 < x) = false := by simpa using h5
        obtain ⟨m, rfl, hm, hg, hc⟩ := lins_open (n := x) (L := L) (by rw [hK.out]; exact h0)
        obtain ⟨N, hN⟩ : ∃ N, Hid (cnt L m m (fun _ => false) = N) := ⟨_, rfl⟩
        have hNb : N ≤ 16777216 := by
          have h1 := cnt_le L m hm m (fun _ => false)
          have h2 : 8 ^ m ≤ 8 ^ 8 := Nat.pow_le_pow_right (by omega) hm
          rw [hN.out] at h1
          exact Nat.le_trans h1 (Nat.le_trans h2 (by decide))
        have hKN : K = (N : Int) := by rw [← hK.out, hc, hN.out]
        subst hKN
        have HG : Hid (gOk m L = true) := hg
        have HC : Hid (linsB m L = (cnt L m m (fun _ => false) : Int)) := hc
        clear hg hc hK
        go_wp2_with fail
        have HLw : Hid (Eds (w3.alloc (.cells #[] 3)) s L) := HL3.out.later (bl_alloc (Below.refl _ _) _)
        have HTw : Hid (DbT (w3.alloc (.cells #[] 3))) := HT3.out.later (bl_alloc (Below.refl _ _) _)
        have HBw : Hid (Below w0.heap.size w0 (w3.alloc (.cells #[] 3))) := bl_trans HB3.out (bl_alloc (Below.refl _ _) _)
        go_loopw [9, 10] (fun lv iv wr => ∃ i : Nat, i ≤ N ∧ iv = .int .i64 i ∧ Hid (Last wr lv L m i) ∧ Hid (Eds wr s L) ∧ Hid (DbT wr) ∧ Hid (Below w0.heap.size w0 wr)) (fun _ iv _ => N - (intOf iv).toNat)
        case atStart => exact ⟨0, Nat.zero_le _, rfl, fun h => by omega, HLw, HTw, HBw⟩
        case round =>
          clear HLw HTw HBw
          obtain ⟨wo, rfl⟩ : ∃ z, z = wr := ⟨wr, rfl⟩
          obtain ⟨i, hi, rfl, HLa, HE, HD, HB⟩ := hrel
          by_cases hlt : i < N
          · have s0 : decide ((i : Int) < (N : Int)) = true := by simp; omega
            obtain ⟨r1, r2, r3⟩ := lins_list (k := i) HG.out hm (by rw [hN.out]; exact hlt) HC.out
            obtain ⟨O, hO⟩ : ∃ O, Hid ((lSq L m i m).1 = O) := ⟨_, rfl⟩
            rw [hO.out] at r1 r2 r3
            have R1 : Hid (linrB m L i = some O) := r1
            have R3 : Hid (linB m L O = true) := r3
            clear r1 r3
            subst r2
            go_wp2_with fail
            refine (implLinear_is _ i s c L O true _ HE.out hL' HD.out (by rw [R1.out]; rfl) (by rw [R1.out]; rfl)).mono ?_
            rintro e w5 ⟨s5, c5, rfl, v5, b5⟩
            have I5 : Hid (Ints w5 s5 O) := v5.rd
            have HE5 : Hid (Eds w5 s L) := HE.out.later b5
            have B5 : Hid (Below wo.heap.size wo w5) := b5
            clear v5 b5
            go_wp2_with fail
            refine (implLinearOk_is _ s s5 c c5 L O _ HE5.out hL' I5.out (by omega) R3.out).mono ?_
            rintro e w6 ⟨rfl, b6⟩
            have I6 : Hid (Ints w6 s5 O) := I5.out.later b6
            have HE6 : Hid (Eds w6 s L) := HE5.out.later b6
            have B6 : Hid (Below wo.heap.size wo w6) := bl_trans B5.out b6
            clear b6 I5 HE5 B5
            go_wp2_with fail
            refine (specLinearOk_is _ s s5 c c5 L O _ HE6.out hL' I6.out (by omega) R3.out).mono ?_
            rintro e w7 ⟨rfl, b7⟩
            have I7 : Hid (Ints w7 s5 O) := I6.out.later b7
            have HE7 : Hid (Eds w7 s L) := HE6.out.later b7
            have B7 : Hid (Below wo.heap.size wo w7) := bl_trans B6.out b7
            clear b7 I6 HE6 B6
            by_cases hi0 : i = 0
            · subst hi0
              have z0 : (((0 : Nat) : Int) == 0) = true := by simp
              have HD7 : Hid (DbT w7) := HD.out.later B7.out
              have HB7 : Hid (Below w0.heap.size w0 w7) := bl_trans HB.out B7.out
              have HN : Hid (Last w7 (.slice s5 O.length c5) L O.length (0 + 1)) := fun _ => ⟨s5, c5, rfl, by rw [show 0 + 1 - 1 = 0 from rfl, hO.out]; exact I7.out⟩
              clear B7 HLa HE HD HB I7
              go_wp2_with fail
              go_loopw [13, 14] (fun tv xv wr => tv = .bool true ∧ xv = .int .i64 0 ∧ Hid (wr = w7)) (fun _ _ _ => 0)
              case atStart => exact ⟨rfl, rfl, rfl⟩
              case round =>
                obtain ⟨rfl, rfl, hw⟩ := hrel
                obtain rfl : wr = w7 := hw
                by_cases hm0 : 0 < O.length
                · have d0 : decide ((0 : Int) < (O.length : Int)) = true := decide_eq_true (by omega)
                  go_wp2_with fail
                  go_roundw
                  case rel => exact ⟨0 + 1, by omega, by go_num, HN, HE7, HD7, HB7⟩
                  case measure => simp [intOf]; omega
                · have d0 : decide ((0 : Int) < (O.length : Int)) = false := decide_eq_false (by omega)
                  go_wp2_with fail
                  go_roundw
                  case rel => exact ⟨0 + 1, by omega, by go_num, HN, HE7, HD7, HB7⟩
                  case measure => simp [intOf]; omega
            · have z0 : ((i : Int) == 0) = false := by simp; omega
              obtain ⟨sa, ca, rfl, IA⟩ := HLa.out (by omega)
              obtain ⟨q, q1, q2, q3⟩ := lSq_more (L := L) (n := O.length) (k := i - 1) hm (by rw [hN.out]; omega)
              have hPl := (lSq_inv (L := L) (n := O.length) (k := i - 1) hm (by rw [hN.out]; omega) O.length (Nat.le_refl _)).2
              rw [show i - 1 + 1 = i by omega, hO.out] at q2 q3
              obtain ⟨P, hP⟩ : ∃ P, Hid ((lSq L O.length (i - 1) O.length).1 = P) := ⟨_, rfl⟩
              rw [hP.out] at q2 q3 hPl IA
              have Q2 : Hid (∀ y, y < q → P[y]?.getD 0 = O[y]?.getD 0) := q2
              have Q3 : Hid (P[q]?.getD 0 < O[q]?.getD 0) := q3
              have IA7 : Hid (Ints w7 sa P) := IA.later B7.out
              have HD7 : Hid (DbT w7) := HD.out.later B7.out
              have HB7 : Hid (Below w0.heap.size w0 w7) := bl_trans HB.out B7.out
              clear B7 HLa HE HD HB IA q2 q3
              have HPL : Hid (P.length = O.length) := hPl
              clear hPl
              go_wp2_with fail
              go_loopw [13, 14] (fun tv xv wr => ∃ x : Nat, x ≤ q ∧ xv = .int .i64 x ∧ tv = .bool false ∧ Hid (Below w7.heap.size w7 wr)) (fun _ xv _ => O.length - (intOf xv).toNat)
              case atStart => exact ⟨0, Nat.zero_le _, rfl, rfl, Below.refl _ _⟩
              case round =>
                obtain ⟨x, hxq, rfl, rfl, hb8⟩ := hrel
                have d0 : decide ((x : Int) < (O.length : Int)) = true := by simp; omega
                have xI : (x : Int) < (O.length : Int) := by omega
                obtain ⟨pb, po, rfl, hp, hcP⟩ := IA7.out.get (k := x) (by rw [HPL.out]; omega)
                obtain ⟨qb, qo, rfl, hq, hcO⟩ := I7.out.get (k := x) (by omega)
                obtain ⟨a, ha⟩ : ∃ a, Hid (P[x]?.getD 0 = a) := ⟨_, rfl⟩
                obtain ⟨b, hb⟩ : ∃ b, Hid (O[x]?.getD 0 = b) := ⟨_, rfl⟩
                have c1 : wr.cell? ⟨pb, po + x, none⟩ = some (.int .i64 a) := by rw [← ha.out]; exact (hb8.out.cell (p := ⟨pb, po + x, none⟩) hp).trans (hcP x (by rw [HPL.out]; omega))
                have c2 : wr.cell? ⟨qb, qo + x, none⟩ = some (.int .i64 b) := by rw [← hb.out]; exact (hb8.out.cell (p := ⟨qb, qo + x, none⟩) hq).trans (hcO x (by omega))
                clear hcP hcO
                by_cases hxl : x < q
                · have hab : (a != b) = false := by rw [← ha.out, ← hb.out, Q2.out x hxl]; simp
                  go_wp2_with fail
                  go_quiet (fail)
                  go_wp2_with fail
                  go_roundw
                  case rel => exact ⟨x + 1, by omega, by go_num, rfl, bl_drewN hb8.out _⟩
                  case measure => simp [intOf]; omega
                · have hxe : x = q := by omega
                  subst hxe
                  have hlt' : a < b := by rw [← ha.out, ← hb.out]; exact Q3.out
                  have hab : (a != b) = true := by simp; omega
                  have d1 : decide (a < b) = true := by simpa using hlt'
                  go_wp2_with fail
                  go_quiet (fail)
                  go_wp2_with fail
                  go_quiet (fail)
                  go_wp2_with fail
                  go_roundw
                  case rel => exact ⟨i + 1, by omega, by go_num, fun _ => ⟨_, _, rfl, by rw [Nat.add_sub_cancel, hO.out]; exact I7.out.later (bl_drewN hb8.out _)⟩, HE7.out.later (bl_drewN hb8.out _), HD7.out.later (bl_drewN hb8.out _), bl_trans HB7.out (bl_drewN hb8.out _)⟩
                  case measure => simp [intOf]; omega
          · have s0 : decide ((i : Int) < (N : Int)) = false := by simp; omega
            go_wp2_with fail
            refine (implLinear_is m N s c L [] false _ HE.out hL' HD.out (by rw [hend.out]; rfl) (by rw [hend.out]; rfl)).mono ?_
            rintro e w4 ⟨s4, c4, rfl, v4, b4⟩
            have HB4 : Hid (Below w0.heap.size w0 w4) := bl_trans HB.out b4
            clear v4 b4
            go_wp2_with fail
            go_ret
            exact ⟨rfl, HB4.out⟩
  · have hd : decide (1048576 < (len : Int)) = true := by simp; omega
    go_enter Tryd.func6, Tryd.ntmps6
    go_wp2_with fail
    refine (big_any sl len cap _).mono ?_
    rintro e w0 ⟨rfl, rfl⟩
    rw [hd]
    go_wp2_with fail
    go_ret
    exact ⟨rfl, Below.refl _ _⟩
end Go.Proofs.YtpgcianhppihiaaDoor
