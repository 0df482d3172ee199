import Derived.Test.YtmhiddepddgfgaaDoorVd
import Derived.Lib.AppendIntMem
namespace Go.Proofs.YtmhiddepddgfgaaDoor
open Go.RowKit Ieee
set_option linter.unusedVariables false
set_option linter.unusedSimpArgs false

def geqB (x : Nat) : Bool := double.order x 4787326403894837248 == some .gt || double.order x 4787326403894837248 == some .eq
def leqB (x : Nat) : Bool := double.order x 14010698440749613056 == some .lt || double.order x 14010698440749613056 == some .eq
/-- a real's whole part in units of a 1024th. -/
def realV (x : Nat) : Int := ((floatBits .mul .f64 x 4652218415073722368).bind fun r => floatToIntVal .f64 r .i64).getD 0
/-- a real as a text. -/
def realS (x : Nat) : List UInt8 := if nanB x = true then [110, 97, 110] else if geqB x = true then [98, 105, 103] else if leqB x = true then [45, 98, 105, 103] else Lib.itoa (realV x) ++ [47, 49, 48, 50, 52]

theorem i64_wf {n : Int} (h : (Lit.int .i64 n).wf = true) : -9223372036854775808 ≤ n ∧ n ≤ 9223372036854775807 := by
  have e1 : IntKind.i64.min = -9223372036854775808 := by decide +kernel
  have e2 : IntKind.i64.max = 9223372036854775807 := by decide +kernel
  simp only [Lit.wf, Bool.and_eq_true, decide_eq_true_eq, e1, e2] at h
  exact h
theorem realV_parts (x : Nat) (nx : nanB x = false) (h1 : geqB x = false) (h2 : leqB x = false) : ∃ r, floatBits .mul .f64 x 4652218415073722368 = some r ∧ floatToIntVal .f64 r .i64 = some (realV x) ∧ -9223372036854775808 ≤ realV x ∧ realV x ≤ 9223372036854775807 := by
  obtain ⟨r, n, hr, hn⟩ := mul1024 x nx (low_rung x nx h1 h2)
  have e : realV x = n := by simp [realV, hr, hn]
  exact ⟨r, hr, by rw [e]; exact hn, by rw [e]; exact i64_wf (floatToIntVal_wf hn)⟩
theorem ba_app (a b : List UInt8) : (⟨a.toArray⟩ ++ ⟨b.toArray⟩ : ByteArray) = ⟨(a ++ b).toArray⟩ := by
  apply ByteArray.ext
  simp [ByteArray.data_append]
theorem ba_size (a : List UInt8) : (⟨a.toArray⟩ : ByteArray).size = a.length := by simp [ByteArray.size]
theorem ret_str {a b : ByteArray} (h : a = b) : Ending.returned (.string a) = .returned (.string b) := by rw [h]
theorem isNaN_is (x : Nat) (b : Bool) (w : World) (h : nanB x = b) : Calls Tryd.prog 41 #[.float .f64 x] w fun e w' => e = .returned (.bool b) ∧ w' = w := by subst h; exact isNaN_any x w
theorem itoa_bel (n : Int) (w : World) (h0 : -9223372036854775808 ≤ n) (h1 : n ≤ 9223372036854775807) (htab : Lib.TabIs Tryd.prog w "internal/strconv.uint64pow10" .u64 Lib.pow10Tab) :
    Calls Tryd.prog 29 #[.int .i64 n] w fun e w' => e = .returned (.string ⟨(Lib.itoa n).toArray⟩) ∧ Below w.heap.size w w' := by
  refine (itoa_any n w h0 h1 htab).mono ?_
  rintro e w' ⟨rfl, k, os, rfl⟩
  exact ⟨rfl, Lib.below_grow _ _ (Nat.le_refl _) k os⟩
theorem itoa1024 : Lib.itoa 1024 = [49, 48, 50, 52] := by
  simp [Lib.itoa, Lib.decDigits]

theorem run_neg_big (w : World) : (Op.unary .neg (.float .f64 4787326403894837248)).run Tryd.prog w = .ok (.float .f64 14010698440749613056) w := by
  have : (Op.unary .neg (.float .f64 4787326403894837248)).run Tryd.prog w = .ok (.float .f64 (double.write (double.read 4787326403894837248).opposite)) w := rfl
  rw [this, show double.write (double.read 4787326403894837248).opposite = 14010698440749613056 by decide +kernel]

set_option maxRecDepth 100000 in
set_option maxHeartbeats 2000000 in
theorem specReal_any (x : Nat) (w : World) :
    Calls Tryd.prog 32 #[.float .f64 x] w fun e w' => e = .returned (.string ⟨(realS x).toArray⟩) ∧ Below w.heap.size w w' := by
  have hne := neq_self x
  have hng := run_neg_big
  have hgB : (FloatKind.f64.format.order x 4787326403894837248 == some Ordering.gt || FloatKind.f64.format.order x 4787326403894837248 == some Ordering.eq) = geqB x := rfl
  have hlB : (FloatKind.f64.format.order x 14010698440749613056 == some Ordering.lt || FloatKind.f64.format.order x 14010698440749613056 == some Ordering.eq) = leqB x := rfl
  cases nx : nanB x
  · rw [nx] at hne
    cases h1 : geqB x
    · rw [h1] at hgB
      cases h2 : leqB x
      · rw [h2] at hlB
        obtain ⟨r, hr, hn, b0, b1⟩ := realV_parts x nx h1 h2
        have hS : Hid (realS x = Lib.itoa (realV x) ++ [47, 49, 48, 50, 52]) := by simp [Hid, realS, nx, h1, h2]
        obtain ⟨n, hnn⟩ : ∃ n, realV x = n := ⟨_, rfl⟩
        rw [hnn] at hn b0 b1 hS
        have hmul : ∀ w, (binOp .mul 24 (.float .f64 x) (.float .f64 4652218415073722368)).run Tryd.prog w = .ok (.float .f64 r) w := fun w => run_float_arith w .mul 24 .f64 x _ r hr
        have hcon : ∀ w, (convert 24 3 (.float .f64 r)).run Tryd.prog w = .ok (.int .i64 n) w := fun w => run_convert_float_int w 24 3 .f64 .i64 r n (by kernel_rfl) Tryd.underlying3 hn
        have hl := Lib.itoa_length_le n b0 b1
        have hsz : (⟨(Lib.itoa n).toArray⟩ : ByteArray).size ≤ 21 := by rw [ba_size]; exact hl
        clear hr hn hnn
        go_enter Tryd.func32, Tryd.ntmps32
        go_wp2_with (go_at_call 31; refine (l1Digits_any n _ b0 b1).mono ?_; rintro e w1 ⟨rfl, hb⟩)
        go_ret
        exact ⟨ret_str (by rw [hS.out]; exact ba_app _ [47, 49, 48, 50, 52]), hb⟩
      · rw [h2] at hlB
        have hS : Hid (realS x = [45, 98, 105, 103]) := by simp [Hid, realS, nx, h1, h2]
        go_enter Tryd.func32, Tryd.ntmps32
        go_wp2_with fail
        go_ret
        exact ⟨ret_str (by rw [hS.out]), Below.refl _ _⟩
    · rw [h1] at hgB
      have hS : Hid (realS x = [98, 105, 103]) := by simp [Hid, realS, nx, h1]
      go_enter Tryd.func32, Tryd.ntmps32
      go_wp2_with fail
      go_ret
      exact ⟨ret_str (by rw [hS.out]), Below.refl _ _⟩
  · rw [nx] at hne
    have hS : Hid (realS x = [110, 97, 110]) := by simp [Hid, realS, nx]
    go_enter Tryd.func32, Tryd.ntmps32
    go_wp2_with fail
    go_ret
    exact ⟨ret_str (by rw [hS.out]), Below.refl _ _⟩

set_option maxRecDepth 100000 in
set_option maxHeartbeats 2000000 in
theorem implReal_any (x : Nat) (w : World) (htab : Lib.TabIs Tryd.prog w "internal/strconv.uint64pow10" .u64 Lib.pow10Tab) :
    Calls Tryd.prog 30 #[.float .f64 x] w fun e w' => e = .returned (.string ⟨(realS x).toArray⟩) ∧ Below w.heap.size w w' := by
  have hgB : (FloatKind.f64.format.order x 4787326403894837248 == some Ordering.gt || FloatKind.f64.format.order x 4787326403894837248 == some Ordering.eq) = geqB x := rfl
  have hlB : (FloatKind.f64.format.order x 14010698440749613056 == some Ordering.lt || FloatKind.f64.format.order x 14010698440749613056 == some Ordering.eq) = leqB x := rfl
  have HT : Hid (Lib.TabIs Tryd.prog w "internal/strconv.uint64pow10" .u64 Lib.pow10Tab) := htab
  clear htab
  cases nx : nanB x
  · cases h1 : geqB x
    · rw [h1] at hgB
      cases h2 : leqB x
      · rw [h2] at hlB
        obtain ⟨r, hr, hn, b0, b1⟩ := realV_parts x nx h1 h2
        have hS : Hid (realS x = Lib.itoa (realV x) ++ [47, 49, 48, 50, 52]) := by simp [Hid, realS, nx, h1, h2]
        obtain ⟨n, hnn⟩ : ∃ n, realV x = n := ⟨_, rfl⟩
        rw [hnn] at hn b0 b1 hS
        have hmul : ∀ w, (binOp .mul 24 (.float .f64 x) (.float .f64 4652218415073722368)).run Tryd.prog w = .ok (.float .f64 r) w := fun w => run_float_arith w .mul 24 .f64 x _ r hr
        have hcon : ∀ w, (convert 24 3 (.float .f64 r)).run Tryd.prog w = .ok (.int .i64 n) w := fun w => run_convert_float_int w 24 3 .f64 .i64 r n (by kernel_rfl) Tryd.underlying3 hn
        have hl := Lib.itoa_length_le n b0 b1
        have hsz : (⟨(Lib.itoa n).toArray⟩ : ByteArray).size ≤ 21 := by rw [ba_size]; exact hl
        have hsz2 : (⟨(Lib.itoa n).toArray⟩ ++ ⟨#[47]⟩ : ByteArray).size ≤ 22 := by
          rw [show (⟨(Lib.itoa n).toArray⟩ ++ ⟨#[47]⟩ : ByteArray) = ⟨(Lib.itoa n ++ [47]).toArray⟩ from ba_app _ [47], ba_size]
          simp; omega
        have hi4 : (⟨(Lib.itoa 1024).toArray⟩ : ByteArray) = ⟨#[49, 48, 50, 52]⟩ := by rw [itoa1024]
        have NX : Hid (nanB x = false) := nx
        clear hr hn hnn nx h1 h2
        go_enter Tryd.func30, Tryd.ntmps30
        go_wp2_with (first
          | (go_at_call 41; refine (isNaN_is x false _ NX.out).mono ?_; rintro e w' ⟨rfl, rfl⟩)
          | fail)
        refine (itoa_bel n _ b0 b1 HT.out).mono ?_
        rintro e w1 ⟨rfl, hb1⟩
        have HT1 : Hid _ := Lib.tabBelow_of_tabIs HT.out w1 hb1
        go_wp2_with fail
        refine (itoa_bel 1024 _ (by omega) (by omega) HT1.out).mono ?_
        rintro e w2 ⟨rfl, hb2⟩
        rw [hi4]
        go_wp2_with fail
        go_ret
        refine ⟨ret_str ?_, bl_trans hb1 hb2⟩
        rw [hS.out]
        refine (congrArg (fun b : ByteArray => b ++ ⟨#[49, 48, 50, 52]⟩) (ba_app (Lib.itoa n) [47])).trans ((ba_app (Lib.itoa n ++ [47]) [49, 48, 50, 52]).trans ?_)
        rw [List.append_assoc]
        rfl
      · rw [h2] at hlB
        have hS : Hid (realS x = [45, 98, 105, 103]) := by simp [Hid, realS, nx, h1, h2]
        go_enter Tryd.func30, Tryd.ntmps30
        go_wp2_with (go_at_call 41; refine (isNaN_is x false _ nx).mono ?_; rintro e w' ⟨rfl, rfl⟩)
        go_ret
        exact ⟨ret_str (by rw [hS.out]), Below.refl _ _⟩
    · rw [h1] at hgB
      have hS : Hid (realS x = [98, 105, 103]) := by simp [Hid, realS, nx, h1]
      go_enter Tryd.func30, Tryd.ntmps30
      go_wp2_with (go_at_call 41; refine (isNaN_is x false _ nx).mono ?_; rintro e w' ⟨rfl, rfl⟩)
      go_ret
      exact ⟨ret_str (by rw [hS.out]), Below.refl _ _⟩
  · have hS : Hid (realS x = [110, 97, 110]) := by simp [Hid, realS, nx]
    go_enter Tryd.func30, Tryd.ntmps30
    go_wp2_with (go_at_call 41; refine (isNaN_is x true _ nx).mono ?_; rintro e w' ⟨rfl, rfl⟩)
    go_ret
    exact ⟨ret_str (by rw [hS.out]), Below.refl _ _⟩
end Go.Proofs.YtmhiddepddgfgaaDoor
