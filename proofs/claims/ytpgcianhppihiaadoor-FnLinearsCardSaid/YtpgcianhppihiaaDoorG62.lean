import Derived.Test.YtpgcianhppihiaaDoorG60
import Derived.Test.YtpgcianhppihiaaDoorG61
import Derived.Test.YtpgcianhppihiaaDoorG55
namespace Go.Proofs.YtpgcianhppihiaaDoor
open Go.RowKit
set_option linter.unusedVariables false
set_option linter.unusedSimpArgs false

set_option maxHeartbeats 2000000 in
theorem sameInts_same (s t : Option Addr) (c d : Nat) (A : List Int) (w : World) (hA : Ints w s A) (hB : Ints w t A) (hl : A.length ≤ 1048576) :
    Calls Tryd.prog 12 #[.slice s A.length c, .slice t A.length d] w fun e w' => e = .returned (.bool true) ∧ Below w.heap.size w w' := by
  have hnn : ((A.length : Int) != (A.length : Int)) = false := by simp
  go_enter Tryd.func12, Tryd.ntmps12
  go_wp2_with fail
  go_loopw [5] (fun i wr => ∃ k : Nat, k ≤ A.length ∧ i = .int .i64 k ∧ Below w.heap.size w wr) (fun i _ => A.length - (intOf i).toNat)
  case atStart => exact ⟨0, Nat.zero_le _, rfl, Below.refl _ _⟩
  case round =>
    obtain ⟨k, hk, rfl, hbel⟩ := hrel
    by_cases hlt : k < A.length
    · obtain ⟨pb, po, rfl, hp, hc⟩ := hA.get hlt
      obtain ⟨qb, qo, rfl, hq, hd⟩ := hB.get hlt
      obtain ⟨x, hx⟩ : ∃ x, Hid (A[k]?.getD 0 = x) := ⟨_, rfl⟩
      have d1 : wr.cell? ⟨pb, po + k, none⟩ = some (.int .i64 x) := by rw [← hx.out]; exact (hbel.cell (p := ⟨pb, po + k, none⟩) hp).trans (hc k hlt)
      have d2 : wr.cell? ⟨qb, qo + k, none⟩ = some (.int .i64 x) := by rw [← hx.out]; exact (hbel.cell (p := ⟨qb, qo + k, none⟩) hq).trans (hd k hlt)
      have hkI : (k : Int) < (A.length : Int) := by omega
      have hxx : (x != x) = false := by simp
      clear hc hd
      go_wp2_with fail
      go_quiet (fail)
      go_wp2_with fail
      go_roundw
      case rel =>
        refine ⟨k + 1, by omega, by go_num, ?_⟩
        (repeat (first | with_reducible exact Below.refl _ _ | with_reducible refine bl_alloc ?_ _ | with_reducible refine bl_drewN ?_ _ | with_reducible refine bl_drew ?_ | with_reducible refine bl_setCell ?_ (by first | exact Nat.le_refl _ | (dsimp only; omega) | (simp <;> omega)) _ | with_reducible refine bl_trans ?_ (by with_reducible assumption)))
      case measure => simp [intOf]; omega
    · go_wp2_with fail
      go_ret
      exact ⟨rfl, hbel⟩


/-- the answers of the functions, their lists and words by name. -/
def Ans (w : World) (A : List Int) (ok : Bool) (e : Ending) (w' : World) : Prop :=
  ∃ s c, e = .returned (.tuple #[.slice s A.length c, .bool ok]) ∧ VRow w' w.heap.size (.slice s A.length c) A ∧ Below w.heap.size w w'
theorem specCanon_is (n : Int) (s : Option Addr) (c : Nat) (L : List (Int × Int)) (A : List Int) (ok : Bool) (w : World) (hL : Eds w s L) (hl : L.length ≤ 1048576) (hA : (canB n L).getD [] = A) (ho : (canB n L).isSome = ok) :
    Calls Tryd.prog 11 #[.int .i64 n, .slice s L.length c] w fun e w' => Ans w A ok e w' := by
  subst hA; subst ho; exact specCanon_any n s c L w hL hl
theorem implCanon_is (n : Int) (s : Option Addr) (c : Nat) (L : List (Int × Int)) (A : List Int) (ok : Bool) (w : World) (hL : Eds w s L) (hl : L.length ≤ 1048576) (hT : DbT w) (hA : (canB n L).getD [] = A) (ho : (canB n L).isSome = ok) :
    Calls Tryd.prog 9 #[.int .i64 n, .slice s L.length c] w fun e w' => Ans w A ok e w' := by
  subst hA; subst ho; exact implCanon_any n s c L w hL hl hT
theorem implLinear_is (n k : Int) (s : Option Addr) (c : Nat) (L : List (Int × Int)) (A : List Int) (ok : Bool) (w : World) (hL : Eds w s L) (hl : L.length ≤ 1048576) (hT : DbT w) (hA : (linrB n L k).getD [] = A) (ho : (linrB n L k).isSome = ok) :
    Calls Tryd.prog 14 #[.int .i64 n, .slice s L.length c, .int .i64 k] w fun e w' => Ans w A ok e w' := by
  subst hA; subst ho; exact implLinear_any n k s c L w hL hl hT
theorem implCircle_is (n : Int) (s : Option Addr) (c : Nat) (L : List (Int × Int)) (Z : List Int) (w : World) (hL : Eds w s L) (hl : L.length ≤ 1048576) (hT : DbT w) (hZ : circB n L = Z) :
    Calls Tryd.prog 10 #[.int .i64 n, .slice s L.length c] w fun e w' => ∃ so co, e = .returned (.slice so Z.length co) ∧ VRow w' w.heap.size (.slice so Z.length co) Z ∧ Below w.heap.size w w' := by
  subst hZ; exact implCircle_any n s c L w hL hl hT
theorem specGraphOk_is (n : Int) (s : Option Addr) (c : Nat) (L : List (Int × Int)) (g : Bool) (w : World) (hL : Eds w s L) (hl : L.length ≤ 1048576) (hg : gOk n L = g) :
    Calls Tryd.prog 13 #[.int .i64 n, .slice s L.length c] w fun e w' => e = .returned (.bool g) ∧ w' = w := by
  subst hg; exact specGraphOk_any n s c L w hL hl
set_option maxRecDepth 100000 in
set_option maxHeartbeats 8000000 in
theorem canonFirst_any (sl : Option Addr) (len cap : Nat) (w : World) (hC : Code w sl len) (hT : DbT w) :
    Calls Tryd.prog 3 #[.slice sl len cap] w fun e w' => e = .returned (.bool true) ∧ Below w.heap.size w w' := by
  by_cases hl : len ≤ 1048576
  · have hd : decide (1048576 < (len : Int)) = false := by simp; omega
    go_enter Tryd.func3, Tryd.ntmps3
    go_wp2_with fail
    refine (big_any sl len cap _).mono ?_
    rintro e w0 ⟨rfl, rfl⟩
    rw [hd]
    go_wp2_with fail
    refine (drawLinears_any sl len cap _ hl hC).mono ?_
    rintro e w1 ⟨x, s, c, L, rfl, hx, hL, hE, hb1⟩
    have hL' : L.length ≤ 1048576 := by omega
    have HL : Hid (Eds w1 s L) := hE.eds
    have HT : Hid (DbT w1) := hT.later hb1
    have HB : Hid (Below w0.heap.size w0 w1) := hb1
    obtain ⟨A, hA⟩ : ∃ A, Hid ((canB x L).getD [] = A) := ⟨_, rfl⟩
    obtain ⟨ok, ho⟩ : ∃ ok, Hid ((canB x L).isSome = ok) := ⟨_, rfl⟩
    obtain ⟨Z, hZ⟩ : ∃ Z, Hid (circB x L = Z) := ⟨_, rfl⟩
    have hAl : A.length ≤ 1048576 := by rw [← hA.out]; exact canB_len x L
    clear hE hb1 hC hT
    go_wp2_with fail
    refine (implCanon_is x s c L A ok _ HL.out hL' HT.out hA.out ho.out).mono ?_
    rintro e w2 ⟨s2, c2, rfl, v2, b2⟩
    have HV2 : Hid (VRow w2 w1.heap.size (.slice s2 A.length c2) A) := v2
    have HB2 : Hid (Below w1.heap.size w1 w2) := b2
    clear v2 b2
    go_wp2_with fail
    refine (implCircle_is x s c L Z _ (HL.out.later HB2.out) hL' (HT.out.later HB2.out) hZ.out).mono ?_
    rintro e w3 ⟨s3, c3, rfl, v3, b3⟩
    have HB3 : Hid (Below w2.heap.size w2 w3) := b3
    clear v3 b3
    have HL3 : Hid (Eds w3 s L) := (HL.out.later HB2.out).later HB3.out
    go_wp2_with fail
    refine (specCanon_is x s c L A ok _ HL3.out hL' hA.out ho.out).mono ?_
    rintro e w4 ⟨s4, c4, rfl, v4, b4⟩
    have HV4 : Hid (VRow w4 w3.heap.size (.slice s4 A.length c4) A) := v4
    have HB4 : Hid (Below w3.heap.size w3 w4) := b4
    clear v4 b4
    have I2 : Hid (Ints w4 s2 A) := (HV2.out.rd.later HB3.out).later HB4.out
    have HL4 : Hid (Eds w4 s L) := HL3.out.later HB4.out
    have HT4 : Hid (DbT w4) := ((HT.out.later HB2.out).later HB3.out).later HB4.out
    have HBW : Hid (Below w0.heap.size w0 w4) := bl_trans (bl_trans (bl_trans HB.out HB2.out) HB3.out) HB4.out
    have hoo : (ok != ok) = false := by cases ok <;> rfl
    go_wp2_with fail
    refine (sameInts_same s2 s4 c2 c4 A _ I2.out HV4.out.rd hAl).mono ?_
    rintro e w5 ⟨rfl, b5⟩
    have HL5 : Hid (Eds w5 s L) := HL4.out.later b5
    have HT5 : Hid (DbT w5) := HT4.out.later b5
    have HB5 : Hid (Below w0.heap.size w0 w5) := bl_trans HBW.out b5
    have I5 : Hid (Ints w5 s2 A) := I2.out.later b5
    clear b5 HL4 HT4 HBW I2 HV2 HV4 HL HT HB HB2 HB3 HB4 HL3
    obtain ⟨g, hg⟩ : ∃ g, Hid (gOk x L = g) := ⟨_, rfl⟩
    go_wp2_with fail
    refine (specGraphOk_is x s c L g _ HL5.out hL' hg.out).mono ?_
    rintro e w6 ⟨rfl, rfl⟩
    cases g
    · have ho' : ok = false := by rw [← ho.out]; simp [canB, hg.out]
      have hZ' : Z = [] := by rw [← hZ.out]; exact circB_no fun h => by rw [hg.out] at h; simp at h
      subst ho' hZ'
      go_wp2_with fail
      go_ret
      exact ⟨rfl, HB5.out⟩
    · obtain ⟨m, rfl, hm, _, hin, h16⟩ := gOk_open hg.out
      have hoz : ok = decide (Z.length = 0) := by rw [← ho.out, ← hZ.out]; exact circ_can hg.out
      have hz0 : ((Z.length : Int) == 0) = ok := by rw [hoz, Bool.eq_iff_iff]; simp
      have hk : (ok == ok) = true := by cases ok <;> rfl
      clear hoz
      by_cases h8 : 8 < m
      · have d8 : decide ((8 : Int) < (m : Int)) = true := by simp; omega
        go_wp2_with fail
        go_ret
        exact ⟨rfl, HB5.out⟩
      · have d8 : decide ((8 : Int) < (m : Int)) = false := by simp; omega
        have hlr : linrB m L 0 = canB m L := linr_first hg.out (by omega)
        go_wp2_with fail
        refine (implLinear_is m 0 s c L A ok _ HL5.out hL' HT5.out (by rw [hlr]; exact hA.out) (by rw [hlr]; exact ho.out)).mono ?_
        rintro e w7 ⟨s7, c7, rfl, v7, b7⟩
        have I7 : Hid (Ints w7 s2 A) := I5.out.later b7
        have HB7 : Hid (Below w0.heap.size w0 w7) := bl_trans HB5.out b7
        have HV7 : Hid (VRow w7 w6.heap.size (.slice s7 A.length c7) A) := v7
        clear v7 b7
        go_wp2_with fail
        refine (sameInts_same s7 s2 c7 c2 A _ HV7.out.rd I7.out hAl).mono ?_
        rintro e w8 ⟨rfl, b8⟩
        have HB8 : Hid (Below w0.heap.size w0 w8) := bl_trans HB7.out b8
        go_wp2_with fail
        go_ret
        exact ⟨rfl, HB8.out⟩
  · have hd : decide (1048576 < (len : Int)) = true := by simp; omega
    go_enter Tryd.func3, Tryd.ntmps3
    go_wp2_with fail
    refine (big_any sl len cap _).mono ?_
    rintro e w0 ⟨rfl, rfl⟩
    rw [hd]
    go_wp2_with fail
    go_ret
    exact ⟨rfl, Below.refl _ _⟩
end Go.Proofs.YtpgcianhppihiaaDoor
