import Derived.Test.YtkbgklnkagpchaaTe
import Derived.Deep.RegionHeld3
namespace Go.Proofs.Ytkbgklnkagpchaa
open Go.RowKit
set_option linter.unusedVariables false
set_option linter.unusedSimpArgs false
set_option maxRecDepth 100000

theorem cmpNaN_any (a : Int) (w : World) : Calls Try.prog 28 #[.int .i64 a] w fun e w' => e = .returned (.bool false) ∧ w' = w := by
  have q0 : (a != a) = false := by simp
  go_enter Try.func28, Try.ntmps28
  go_wp2_with fail
  go_ret
  exact ⟨rfl, rfl⟩
theorem slicesNaN_any (a : Int) (w : World) : Calls Try.prog 25 #[.int .i64 a] w fun e w' => e = .returned (.bool false) ∧ w' = w := by
  have q0 : (a != a) = false := by simp
  go_enter Try.func25, Try.ntmps25
  go_wp2_with fail
  go_ret
  exact ⟨rfl, rfl⟩
theorem cmpLess_any (a b : Int) (w : World) : Calls Try.prog 24 #[.int .i64 a, .int .i64 b] w fun e w' => e = .returned (.bool (decide (a < b))) ∧ w' = w := by
  go_enter Try.func24, Try.ntmps24
  go_wp2_with fail
  refine (cmpNaN_any a _).mono ?_
  rintro e w' ⟨rfl, rfl⟩
  go_wp2_with fail
  go_ret
  exact ⟨rfl, rfl⟩

/-- what a search in a rising list tells. -/
def Fnd (L : List Int) (x : Int) (i : Nat) : Prop := i ≤ L.length ∧ (∀ (q : Nat) a, q < i → L[q]? = some a → a < x) ∧ ∀ (q : Nat) a, i ≤ q → L[q]? = some a → x ≤ a

set_option maxHeartbeats 4000000 in
theorem binSearch_any (s : Option Addr) (c : Nat) (L : List Int) (x : Int) (B : Nat) (w : World) (hL : Els 1 cInt w B s L) (hl : L.length ≤ 1099511627776) (hs : ∀ (p q : Nat) a b, p ≤ q → L[p]? = some a → L[q]? = some b → a ≤ b) :
    Calls Try.prog 21 #[.slice s L.length c, .int .i64 x] w fun e w' => (∃ i : Nat, e = .returned (.tuple #[.int .i64 i, .bool (decide (L[i]? = some x))]) ∧ Fnd L x i) ∧ w' = w := by
  have HL : Hid (Els 1 cInt w B s L) := hL
  have HS : Hid (∀ (p q : Nat) a b, p ≤ q → L[p]? = some a → L[q]? = some b → a ≤ b) := hs
  clear hL hs
  go_enter Try.func21, Try.ntmps21
  go_wp2_with fail
  go_loopw [7, 8] (fun iv jv wr => ∃ (i j : Nat), i ≤ j ∧ j ≤ L.length ∧ iv = .int .i64 i ∧ jv = .int .i64 j ∧ wr = w ∧ Hid ((∀ (q : Nat) a, q < i → L[q]? = some a → a < x) ∧ ∀ (q : Nat) a, j ≤ q → L[q]? = some a → x ≤ a)) (fun iv jv _ => (intOf jv).toNat - (intOf iv).toNat)
  case atStart => exact ⟨0, L.length, Nat.zero_le _, Nat.le_refl _, rfl, rfl, rfl, fun q a hq => absurd hq (Nat.not_lt_zero _), fun q a hq ha => by have := (List.getElem?_eq_some_iff.1 ha).1; omega⟩
  case round =>
    obtain ⟨i, j, hij, hjl, rfl, rfl, rfl, hN⟩ := hrel
    by_cases hlt : i < j
    · obtain ⟨h, hh⟩ : ∃ h : Nat, h = (i + j) / 2 := ⟨_, rfl⟩
      have h1 : i ≤ h := by omega
      have h2 : h < j := by omega
      have th : ((i : Int) + (j : Int)) / 2 = (h : Int) := by omega
      obtain ⟨a, ha⟩ := get_some (L := L) (k := h) (by omega)
      obtain ⟨b, o, rfl, _, hp, e1⟩ := eInt_cells HL.out ha
      have hI0 : (0 : Int) ≤ (h : Int) := by omega
      have hI1 : (h : Int) < (L.length : Int) := by omega
      have HA : Hid (L[h]? = some a) := ha
      clear ha hh
      go_wp2_with fail
      refine (cmpLess_any a x _).mono ?_
      rintro e w' ⟨rfl, rfl⟩
      by_cases hax : a < x
      · have ta : decide (a < x) = true := by simp [hax]
        rw [ta]
        have hn : Hid ((∀ (q : Nat) v, q < h + 1 → L[q]? = some v → v < x) ∧ ∀ (q : Nat) v, j ≤ q → L[q]? = some v → x ≤ v) := ⟨fun q v hq hv => by have := HS.out q h v a (by omega) hv HA.out; omega, hN.out.2⟩
        clear hN ta hax
        go_wp2_with fail
        go_roundw
        case rel => exact ⟨h + 1, j, by omega, hjl, by go_num, rfl, trivial, hn⟩
        case measure => simp [intOf]; omega
      · have ta : decide (a < x) = false := by simp [hax]
        rw [ta]
        have hn : Hid ((∀ (q : Nat) v, q < i → L[q]? = some v → v < x) ∧ ∀ (q : Nat) v, h ≤ q → L[q]? = some v → x ≤ v) := ⟨hN.out.1, fun q v hq hv => by have := HS.out h q a v hq HA.out hv; omega⟩
        clear hN ta hax
        go_wp2_with fail
        go_roundw
        case rel => exact ⟨i, h, h1, by omega, rfl, rfl, trivial, hn⟩
        case measure => simp [intOf]; omega
    · have hij' : i = j := by omega
      subst hij'
      have HF : Hid (Fnd L x i) := ⟨hjl, hN.out.1, hN.out.2⟩
      by_cases hil : i < L.length
      · obtain ⟨a, ha⟩ := get_some hil
        obtain ⟨b, o, rfl, _, hp, e1⟩ := eInt_cells HL.out ha
        have iI0 : (0 : Int) ≤ (i : Int) := by omega
        have iI1 : (i : Int) < (L.length : Int) := by omega
        have HA : Hid (L[i]? = some a) := ha
        clear ha
        by_cases hax : a = x
        · have HB : Hid (true = decide (L[i]? = some x)) := by show _ = _; rw [HA.out, hax]; simp
          subst hax
          go_wp2_with fail
          refine bodyPost_ret (v := .tuple #[.int .i64 i, .bool true]) (by simp [results, Try.results21, go_sem]) rfl ⟨⟨i, by rw [← HB.out], HF.out⟩, rfl⟩
        · have HB : Hid (false = decide (L[i]? = some x)) := by show _ = _; rw [HA.out]; simp [hax]
          have tb : (a == x) = false := by simp [hax]
          clear hax
          go_wp2_with fail
          refine (slicesNaN_any a _).mono ?_
          rintro e w' ⟨rfl, rfl⟩
          go_wp2_with fail
          refine bodyPost_ret (v := .tuple #[.int .i64 i, .bool false]) (by simp [results, Try.results21, go_sem]) rfl ⟨⟨i, by rw [← HB.out], HF.out⟩, rfl⟩
      · have HB : Hid (false = decide (L[i]? = some x)) := by show _ = _; rw [List.getElem?_eq_none (by omega)]; simp
        go_wp2_with fail
        refine bodyPost_ret (v := .tuple #[.int .i64 i, .bool false]) (by simp [results, Try.results21, go_sem]) rfl ⟨⟨i, by rw [← HB.out], HF.out⟩, rfl⟩
end Go.Proofs.Ytkbgklnkagpchaa
