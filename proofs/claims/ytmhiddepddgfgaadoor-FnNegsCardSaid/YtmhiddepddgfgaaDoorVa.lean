import Derived.Test.YtmhiddepddgfgaaDoorWc
import Derived.Lib.ItoaNum
import Derived.Lib.ItoaLen
import Derived.Laws.IdiomStrings
namespace Go.Proofs.YtmhiddepddgfgaaDoor
open Go.RowKit
set_option linter.unusedVariables false
set_option linter.unusedSimpArgs false

/-- what is left of a number, and its digits so far. -/
def DigS (u m : Nat) (out : List UInt8) : Prop := (m = 0 → out = Lib.decDigits u) ∧ (0 < m → Lib.decDigits u = Lib.decDigits m ++ out)
theorem DigS.start {u : Nat} (h : 0 < u) : DigS u u [] := ⟨fun h0 => by omega, fun _ => by simp⟩
theorem DigS.step {u m : Nat} {out : List UInt8} (h : DigS u m out) (hm : 0 < m) : DigS u (m / 10) (UInt8.ofNat (48 + m % 10) :: out) := by
  have h2 := h.2 hm
  refine ⟨fun h0 => ?_, fun h0 => ?_⟩
  · rw [h2, Lib.decDigits, dif_pos (by omega), Nat.mod_eq_of_lt (by omega)]
    rfl
  · rw [h2, Lib.decDigits, dif_neg (by omega)]
    simp

theorem DigS.len {u m : Nat} {out : List UInt8} (h : DigS u m out) (hu : u < 18446744073709551616) : out.length ≤ 20 := by
  have hn := Lib.nDigits_le20 u hu
  rw [← Lib.decDigits_length] at hn
  by_cases hm : m = 0
  · rw [h.1 hm]; exact hn
  · rw [h.2 (by omega)] at hn
    simp at hn
    omega
theorem ba_cons (b : UInt8) (l : List UInt8) : (⟨#[b]⟩ ++ ⟨l.toArray⟩ : ByteArray) = ⟨(b :: l).toArray⟩ := by
  apply ByteArray.ext
  simp [ByteArray.data_append]
theorem u8_dig (v : Nat) : (48 + UInt8.ofNat v : UInt8) = UInt8.ofNat (48 + v) := by
  rw [UInt8.ofNat_add]; rfl
theorem dig_conv (wr : World) (v : Nat) (hv : v < 10) : (convert 22 9 (.slice (some ⟨wr.heap.size, 0, none⟩) 1 1)).run Tryd.prog (wr.alloc (.cells #[.int .u8 (48 + (v : Int))] 5)) = .ok (.string ⟨#[UInt8.ofNat (48 + v)]⟩) (wr.alloc (.cells #[.int .u8 (48 + (v : Int))] 5)) := by
  have := run_convert_bytes_back (P := Tryd.prog) (wr.alloc (.cells #[.int .u8 (48 + (v : Int))] 5)) 22 9 5 ⟨wr.heap.size, 0, none⟩ 1 [UInt8.ofNat (48 + v)] Tryd.underlying22 Tryd.underlying5 Tryd.underlying9 (by
    intro j hj
    have hj0 : j = 0 := by simp at hj; omega
    subst hj0
    have e : (UInt8.ofNat (48 + v)).toNat = 48 + v := by simp; omega
    simp [Addr.add, e]
    omega)
  simpa using this

set_option maxRecDepth 100000 in
set_option maxHeartbeats 2000000 in
theorem l1Digits_any (n : Int) (w : World) (h0 : -9223372036854775808 ≤ n) (h1 : n ≤ 9223372036854775807) :
    Calls Tryd.prog 31 #[.int .i64 n] w fun e w' => e = .returned (.string ⟨(Lib.itoa n).toArray⟩) ∧ Below w.heap.size w w' := by
  by_cases hz : n = 0
  · subst hz
    go_enter Tryd.func31, Tryd.ntmps31
    go_wp2_with fail
    go_ret
    refine ⟨?_, Below.refl _ _⟩
    simp [Lib.itoa, Lib.decDigits_one]
  · have hzb : (n == 0) = false := by simp [hz]
    go_enter Tryd.func31, Tryd.ntmps31
    go_wp2_with fail
    go_loopw [0, 3, 5] (fun t o _ wr => ∃ (m : Int) (out : List UInt8), t = .int .i64 m ∧ o = .string ⟨out.toArray⟩ ∧ Hid (DigS n.natAbs m.natAbs out) ∧ -9223372036854775808 ≤ m ∧ m ≤ 9223372036854775807 ∧ Below w.heap.size w wr) (fun t _ _ _ => (intOf t).natAbs)
    case atStart => exact ⟨n, [], rfl, rfl, DigS.start (by omega), h0, h1, Below.refl _ _⟩
    case round =>
      obtain ⟨m, out, rfl, rfl, hD, m0, m1, hbel⟩ := hrel
      have hlen := hD.out.len (by omega)
      have hsz : (⟨out.toArray⟩ : ByteArray).size ≤ 20 := by simpa [ByteArray.size] using hlen
      by_cases hm : m = 0
      · subst hm
        have hout : out = Lib.decDigits n.natAbs := hD.out.1 rfl
        by_cases hneg : n < 0
        · have hnb : decide (n < 0) = true := by simp [hneg]
          have hI : Hid (Lib.itoa n = 45 :: out) := by simp [Hid, Lib.itoa, hneg, hout]
          clear hout hD
          go_wp2_with fail
          go_ret
          exact ⟨by rw [hI.out, ← ba_cons]; rfl, hbel⟩
        · have hnb : decide (n < 0) = false := by simp; omega
          have hI : Hid (Lib.itoa n = out) := by
            simp only [Hid, Lib.itoa, if_neg hneg, hout]
            congr 1
            omega
          clear hout hD
          go_wp2_with fail
          go_ret
          exact ⟨by rw [hI.out]; rfl, hbel⟩
      · have hmb : (m != 0) = true := by simp [hm]
        by_cases hp : 0 < m
        · obtain ⟨u, rfl⟩ : ∃ u : Nat, m = (u : Int) := ⟨m.toNat, by omega⟩
          have hu : 0 < u := by omega
          have hs := hD.out.step (m := ((u : Int)).natAbs) (by simpa using hu)
          obtain ⟨v, hv, hvu⟩ : ∃ v : Nat, v < 10 ∧ (u : Int) % 10 = (v : Int) := ⟨u % 10, by omega, by omega⟩
          have hcv := dig_conv wr v hv
          have HV : Hid ((u : Int) % 10 = (v : Int)) := hvu
          have hs' : DigS n.natAbs ((u : Int) / 10).natAbs (UInt8.ofNat (48 + v) :: out) := by
            rw [show ((u : Int) / 10).natAbs = ((u : Int)).natAbs / 10 by omega, show 48 + v = 48 + ((u : Int)).natAbs % 10 by omega]
            exact hs
          have HS : Hid (DigS n.natAbs ((u : Int) / 10).natAbs (UInt8.ofNat (48 + v) :: out)) := hs'
          clear hs hs'
          go_wp2_with fail
          exact ⟨⟨_, UInt8.ofNat (48 + v) :: out, rfl, congrArg Value.string ((congrArg (fun b => (⟨#[b]⟩ ++ ⟨out.toArray⟩ : ByteArray)) (u8_dig v)).trans (ba_cons _ _)), HS, by omega, by omega, bl_alloc hbel _⟩, by simp [intOf]; omega⟩
        · obtain ⟨u, rfl⟩ : ∃ u : Nat, m = -(u : Int) := ⟨m.natAbs, by omega⟩
          have hu : 0 < u := by omega
          have hs := hD.out.step (m := (-(u : Int)).natAbs) (by omega)
          obtain ⟨v, hv, hvu⟩ : ∃ v : Nat, v < 10 ∧ (u : Int) % 10 = (v : Int) := ⟨u % 10, by omega, by omega⟩
          have hcv := dig_conv wr v hv
          have HV : Hid ((u : Int) % 10 = (v : Int)) := hvu
          have hs' : DigS n.natAbs (-((u : Int) / 10)).natAbs (UInt8.ofNat (48 + v) :: out) := by
            rw [show (-((u : Int) / 10)).natAbs = (-(u : Int)).natAbs / 10 by omega, show 48 + v = 48 + (-(u : Int)).natAbs % 10 by omega]
            exact hs
          have HS : Hid (DigS n.natAbs (-((u : Int) / 10)).natAbs (UInt8.ofNat (48 + v) :: out)) := hs'
          clear hs hs'
          by_cases hv0 : v = 0
          · subst hv0
            have hc0 : (convert 22 9 (.slice (some ⟨wr.heap.size, 0, none⟩) 1 1)).run Tryd.prog (wr.alloc (.cells #[.int .u8 48] 5)) = .ok (.string ⟨#[48]⟩) (wr.alloc (.cells #[.int .u8 48] 5)) := by
              simpa using dig_conv wr 0 (by omega)
            clear hcv
            go_wp2_with fail
            exact ⟨⟨_, UInt8.ofNat (48 + 0) :: out, rfl, congrArg Value.string (ba_cons _ _), HS, by omega, by omega, bl_alloc hbel _⟩, by simp [intOf]; omega⟩
          · have hvp : 0 < v := by omega
            go_wp2_with fail
            exact ⟨⟨_, UInt8.ofNat (48 + v) :: out, rfl, congrArg Value.string ((congrArg (fun b => (⟨#[b]⟩ ++ ⟨out.toArray⟩ : ByteArray)) (u8_dig v)).trans (ba_cons _ _)), HS, by omega, by omega, bl_alloc hbel _⟩, by simp [intOf]; omega⟩
end Go.Proofs.YtmhiddepddgfgaaDoor
