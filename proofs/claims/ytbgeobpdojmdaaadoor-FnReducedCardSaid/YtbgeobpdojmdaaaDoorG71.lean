import Derived.Test.YtbgeobpdojmdaaaDoorG70
import Derived.Test.YtbgeobpdojmdaaaDoorG68
import Derived.Test.YtbgeobpdojmdaaaDoorG66
import Derived.Test.YtbgeobpdojmdaaaDoorG43
import Derived.Test.YtbgeobpdojmdaaaDoorG62
namespace Go.Proofs.YtbgeobpdojmdaaaDoor
open Go.RowKit
set_option linter.unusedVariables false
set_option linter.unusedSimpArgs false

theorem implReduced_is (n : Int) (s : Option Addr) (c : Nat) (L M : List (Int × Int)) (w : World) (hL : Eds w s L) (hl : L.length ≤ 1048576) (hT : DbT w) (hM : redB n L = M) :
    Calls Tryd.prog 6 #[.int .i64 n, .slice s L.length c] w fun e w' => ∃ so co, e = .returned (.slice so M.length co) ∧ Eds w' so M ∧ Below w.heap.size w w' := by
  subst hM
  refine (implReduced_any n s c L w hL hl hT).mono ?_
  rintro e w' ⟨v, rfl, h, hb⟩
  obtain ⟨so, co, rfl⟩ : ∃ so co, v = .slice so (redB n L).length co := by
    rcases h.2 with ⟨rfl, h0⟩ | ⟨g, cap, cur, rfl, _⟩
    · exact ⟨none, 0, by rw [h0]⟩
    · exact ⟨_, _, rfl⟩
  exact ⟨so, co, rfl, h.eds, hb⟩
theorem specAhead_is (n a b : Int) (s : Option Addr) (c : Nat) (L : List (Int × Int)) (o : Bool) (w : World) (hL : Eds w s L) (hl : L.length ≤ 1048576) (h : aheadB n L a b = o) :
    Calls Tryd.prog 8 #[.int .i64 n, .slice s L.length c, .int .i64 a, .int .i64 b] w fun e w' => e = .returned (.bool o) ∧ Below w.heap.size w w' := by
  subst h; exact specAhead_any n a b s c L w hL hl
/-- what the law asks of the reduced edges M. -/
def Rd (n : Nat) (L M : List (Int × Int)) : Prop := (∀ a b, aheadB n M a b = aheadB n L a b) ∧ linsB n M = linsB n L ∧ redB n M = M

set_option maxRecDepth 100000 in
set_option maxHeartbeats 8000000 in
theorem fnReduced_any (sl : Option Addr) (len cap : Nat) (w : World) (hC : Code w sl len) (hT : DbT w) :
    Calls Tryd.prog 3 #[.slice sl len cap] w fun e w' => e = .returned (.bool true) ∧ Below w.heap.size w w' := by
  by_cases hl : len ≤ 1048576
  · have hd : decide (1048576 < (len : Int)) = false := by simp; omega
    go_enter Tryd.func3, Tryd.ntmps3
    go_wp2_with fail
    refine (big_any sl len cap _).mono ?_
    rintro e w0 ⟨rfl, rfl⟩
    rw [hd]
    go_wp2_with fail
    refine (drawLinears_any sl len cap _ hl hC).mono ?_
    rintro e w1 ⟨x, s, c, L, rfl, hx, hL, hE, hb1⟩
    have hL' : L.length ≤ 1048576 := by omega
    have HL : Hid (Eds w1 s L) := hE.eds
    have HT : Hid (DbT w1) := hT.later hb1
    have HB : Hid (Below w0.heap.size w0 w1) := hb1
    obtain ⟨M, hM⟩ : ∃ M, Hid (redB x L = M) := ⟨_, rfl⟩
    have hMl : M.length ≤ 1048576 := by rw [← hM.out]; exact redB_len x L
    obtain ⟨A, hA⟩ : ∃ A, Hid ((canB x L).getD [] = A) := ⟨_, rfl⟩
    obtain ⟨ok, ho⟩ : ∃ ok, Hid ((canB x L).isSome = ok) := ⟨_, rfl⟩
    clear hE hb1 hC hT
    go_wp2_with fail
    refine (implReduced_is x s c L M _ HL.out hL' HT.out hM.out).mono ?_
    rintro e w2 ⟨s2, c2, rfl, v2, b2⟩
    have HM2 : Hid (Eds w2 s2 M) := v2
    have HB2 : Hid (Below w1.heap.size w1 w2) := b2
    have HL2 : Hid (Eds w2 s L) := HL.out.later b2
    clear v2 b2
    go_wp2_with fail
    refine (specCanon_is x s c L A ok _ HL2.out hL' hA.out ho.out).mono ?_
    rintro e w3 ⟨s3, c3, rfl, v3, b3⟩
    have HM3 : Hid (Eds w3 s2 M) := HM2.out.later b3
    have HL3 : Hid (Eds w3 s L) := HL2.out.later b3
    have HT3 : Hid (DbT w3) := (HT.out.later HB2.out).later b3
    have HB3 : Hid (Below w0.heap.size w0 w3) := bl_trans (bl_trans HB.out HB2.out) b3
    clear v3 b3 HM2 HB2 HL2 HL HT HB
    cases ok
    · have hM0 : M = [] := by rw [← hM.out]; simp [redB, ho.out]
      subst hM0
      go_wp2_with fail
      go_ret
      exact ⟨rfl, HB3.out⟩
    · cases hg : gOk x L
      · exfalso
        have := ho.out
        simp [canB, hg] at this
      · obtain ⟨m, rfl, hm, _, hin, h16⟩ := gOk_open hg
        have hN : NoC (eR L) m := (canB_iff hg).1 ho.out
        have hMr : M = rM L m := by rw [← hM.out]; exact redB_rM hg hN
        have HR : Hid (Rd m L M) := by
          rw [hMr]
          exact ⟨rM_ahead hg hN, rM_lins hg hN, rM_twice hg hN⟩
        clear hMr hN hin h16 ho hA hM
        go_wp2_with fail
        go_loopw [8] (fun av wr => ∃ a : Nat, a ≤ m ∧ av = .int .i64 a ∧ Hid (Eds wr s L) ∧ Hid (Eds wr s2 M) ∧ Hid (DbT wr) ∧ Hid (Below w0.heap.size w0 wr)) (fun av _ => m - (intOf av).toNat)
        case atStart => exact ⟨0, Nat.zero_le _, rfl, HL3, HM3, HT3, HB3⟩
        case round =>
          obtain ⟨a, ha, rfl, HL4, HM4, HT4, HB4⟩ := hrel
          clear HL3 HM3 HT3 HB3
          by_cases hlt : a < m
          · have d1 : decide ((a : Int) < (m : Int)) = true := by simp; omega
            go_wp2_with fail
            go_loopw [9] (fun bv wr => ∃ b : Nat, b ≤ m ∧ bv = .int .i64 b ∧ Hid (Eds wr s L) ∧ Hid (Eds wr s2 M) ∧ Hid (DbT wr) ∧ Hid (Below w0.heap.size w0 wr)) (fun bv _ => m - (intOf bv).toNat)
            case atStart => exact ⟨0, Nat.zero_le _, rfl, HL4, HM4, HT4, HB4⟩
            case round =>
              obtain ⟨b, hb, rfl, HL5, HM5, HT5, HB5⟩ := hrel
              clear HL4 HM4 HT4 HB4
              by_cases hltb : b < m
              · have d2 : decide ((b : Int) < (m : Int)) = true := by simp; omega
                obtain ⟨o, ho⟩ : ∃ o, Hid (aheadB m L a b = o) := ⟨_, rfl⟩
                have hoo : (o != o) = false := by cases o <;> rfl
                go_wp2_with fail
                refine (specAhead_is m a b s2 c2 M o _ HM5.out hMl ((HR.out.1 a b).trans ho.out)).mono ?_
                rintro e w6 ⟨rfl, b6⟩
                have HL6 : Hid (Eds w6 s L) := HL5.out.later b6
                have B6 : Hid (Below _ _ w6) := b6
                clear b6
                go_wp2_with fail
                refine (specAhead_is m a b s c L o _ HL6.out hL' ho.out).mono ?_
                rintro e w7 ⟨rfl, b7⟩
                have HL7 : Hid (Eds w7 s L) := HL6.out.later b7
                have HM7 : Hid (Eds w7 s2 M) := (HM5.out.later B6.out).later b7
                have HT7 : Hid (DbT w7) := (HT5.out.later B6.out).later b7
                have HB7 : Hid (Below w0.heap.size w0 w7) := bl_trans (bl_trans HB5.out B6.out) b7
                clear HL5 HM5 HT5 HB5 HL6 B6 b7
                go_wp2_with fail
                go_roundw
                case rel => exact ⟨b + 1, by omega, by go_num, HL7, HM7, HT7, HB7⟩
                case measure => simp [intOf]; omega
              · have d2 : decide ((b : Int) < (m : Int)) = false := by simp; omega
                go_wp2_with fail
                go_roundw
                case rel => exact ⟨a + 1, by omega, by go_num, HL5, HM5, HT5, HB5⟩
                case measure => simp [intOf]; omega
          · have d1 : decide ((a : Int) < (m : Int)) = false := by simp; omega
            obtain ⟨K, hK⟩ : ∃ K, Hid (linsB m L = K) := ⟨_, rfl⟩
            have hKK : (K != K) = false := by simp
            by_cases h6 : m ≤ 6
            · have d6 : decide ((m : Int) ≤ 6) = true := by simp; omega
              go_wp2_with fail
              refine (implLinears_is m s2 c2 M K _ HM4.out hMl (HR.out.2.1.trans hK.out)).mono ?_
              rintro e w6 ⟨rfl, b6⟩
              have HL6 : Hid (Eds w6 s L) := HL4.out.later b6
              have HM6 : Hid (Eds w6 s2 M) := HM4.out.later b6
              have HT6 : Hid (DbT w6) := HT4.out.later b6
              have HB6 : Hid (Below w0.heap.size w0 w6) := bl_trans HB4.out b6
              clear HL4 HM4 HT4 HB4 b6
              go_wp2_with fail
              refine (specLinears_is m s c L K _ HL6.out hL' hK.out).mono ?_
              rintro e w7 ⟨rfl, b7⟩
              have HM7 : Hid (Eds w7 s2 M) := HM6.out.later b7
              have HT7 : Hid (DbT w7) := HT6.out.later b7
              have HB7 : Hid (Below w0.heap.size w0 w7) := bl_trans HB6.out b7
              clear HL6 HM6 HT6 HB6 b7
              go_wp2_with fail
              refine (implReduced_is m s2 c2 M M _ HM7.out hMl HT7.out HR.out.2.2).mono ?_
              rintro e w8 ⟨s8, c8, rfl, v8, b8⟩
              have HM8 : Hid (Eds w8 s2 M) := HM7.out.later b8
              have HB8 : Hid (Below w0.heap.size w0 w8) := bl_trans HB7.out b8
              have HV8 : Hid (Eds w8 s8 M) := v8
              clear HM7 HT7 HB7 b8 v8
              go_wp2_with fail
              refine (sameEdges_same s8 s2 c8 c2 M _ HV8.out HM8.out hMl).mono ?_
              rintro e w9 ⟨rfl, b9⟩
              have HB9 : Hid (Below w0.heap.size w0 w9) := bl_trans HB8.out b9
              go_wp2_with fail
              go_ret
              exact ⟨rfl, HB9.out⟩
            · have d6 : decide ((m : Int) ≤ 6) = false := by simp; omega
              go_wp2_with fail
              refine (implReduced_is m s2 c2 M M _ HM4.out hMl HT4.out HR.out.2.2).mono ?_
              rintro e w8 ⟨s8, c8, rfl, v8, b8⟩
              have HM8 : Hid (Eds w8 s2 M) := HM4.out.later b8
              have HB8 : Hid (Below w0.heap.size w0 w8) := bl_trans HB4.out b8
              have HV8 : Hid (Eds w8 s8 M) := v8
              clear HL4 HM4 HT4 HB4 b8 v8
              go_wp2_with fail
              refine (sameEdges_same s8 s2 c8 c2 M _ HV8.out HM8.out hMl).mono ?_
              rintro e w9 ⟨rfl, b9⟩
              have HB9 : Hid (Below w0.heap.size w0 w9) := bl_trans HB8.out b9
              go_wp2_with fail
              go_ret
              exact ⟨rfl, HB9.out⟩
  · have hd : decide (1048576 < (len : Int)) = true := by simp; omega
    go_enter Tryd.func3, Tryd.ntmps3
    go_wp2_with fail
    refine (big_any sl len cap _).mono ?_
    rintro e w0 ⟨rfl, rfl⟩
    rw [hd]
    go_wp2_with fail
    go_ret
    exact ⟨rfl, Below.refl _ _⟩
end Go.Proofs.YtbgeobpdojmdaaaDoor
