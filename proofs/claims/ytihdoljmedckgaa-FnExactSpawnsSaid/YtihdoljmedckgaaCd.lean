import Derived.Test.YtihdoljmedckgaaCa
namespace Go.Proofs.Ytihdoljmedckgaa
open Go.RowKit
set_option linter.unusedVariables false
set_option linter.unusedSimpArgs false

/-- how many of the first k are makings. -/
def spn (L : List Cm) (k : Nat) : Nat := ((L.take k).filter (fun c => c.kind == 1)).length
theorem spn_le (L : List Cm) (k : Nat) : spn L k ≤ k := Nat.le_trans (List.length_filter_le _ _) (by simp; omega)
theorem spn_succ {L : List Cm} {k : Nat} {c : Cm} (h : L[k]? = some c) : spn L (k + 1) = spn L k + if c.kind = 1 then 1 else 0 := by
  unfold spn
  rw [List.take_add_one, h]
  simp only [Option.toList, List.filter_append, List.length_append]
  by_cases e : c.kind = 1 <;> simp [e]

set_option maxHeartbeats 2000000 in
theorem implSpawns_any (s : Option Addr) (c : Nat) (L : List Cm) (B : Nat) (w : World) (hL : Els 9 cCmd w B s L) (hl : L.length ≤ 1048576) :
    Calls Try.prog 35 #[.slice s L.length c] w fun e w' => e = .returned (.int .i64 (spn L L.length : Nat)) ∧ Below w.heap.size w w' := by
  have hal := alloc_old
  have haf := alloc_oldf
  go_enter Try.func35, Try.ntmps35
  go_wp2_with fail
  go_loopw [3, 8] (fun n i wr => ∃ k : Nat, k ≤ L.length ∧ i = .int .i64 k ∧ n = .int .i64 (spn L k : Nat) ∧ Below w.heap.size w wr) (fun _ i _ => L.length - (intOf i).toNat)
  case atStart => exact ⟨0, Nat.zero_le _, rfl, rfl, Below.refl _ _⟩
  case round =>
    obtain ⟨k, hk, rfl, rfl, hb⟩ := hrel
    by_cases hlt : k < L.length
    · obtain ⟨a, ha⟩ := get_some hlt
      obtain ⟨b, o, rfl, _, hp, ok, s', c', e0, e1, e2, e3, e4, e5, e6, e7, e8, f⟩ := eCmd_cells (hL.later cCmd_keeps hb) ha
      have hs : Hid (spn L (k + 1) = spn L k + if a.kind = 1 then 1 else 0) := spn_succ ha
      have hle := spn_le L k
      clear ha f ok hL
      by_cases ek : a.kind = 1
      · have hs : Hid (spn L (k + 1) = spn L k + 1) := by have := hs.out; rw [if_pos ek] at this; exact this
        rw [ek] at e0
        have tw : IntKind.i64.wrap ((spn L k : Nat) + 1 : Int) = ((spn L k : Nat) : Int) + 1 := by rw [IntKind.wrap_i64]; omega
        go_wp2_with fail
        go_roundw
        case rel =>
          refine ⟨k + 1, by omega, by go_num, by rw [hs.out]; simp, ?_⟩
          (repeat (first | with_reducible exact Below.refl _ _ | with_reducible refine bl_alloc ?_ _ | with_reducible refine bl_drewN ?_ _ | with_reducible refine bl_drew ?_ | with_reducible refine bl_setCell ?_ (by first | exact Nat.le_refl _ | (dsimp only; omega) | (simp <;> omega)) _ | with_reducible refine bl_trans ?_ (by with_reducible assumption)))
        case measure => simp [intOf]; omega
      · have hs : Hid (spn L (k + 1) = spn L k) := by have := hs.out; rw [if_neg ek] at this; exact this
        go_wp2_with fail
        go_roundw
        case rel =>
          refine ⟨k + 1, by omega, by go_num, by rw [hs.out], ?_⟩
          (repeat (first | with_reducible exact Below.refl _ _ | with_reducible refine bl_alloc ?_ _ | with_reducible refine bl_drewN ?_ _ | with_reducible refine bl_drew ?_ | with_reducible refine bl_setCell ?_ (by first | exact Nat.le_refl _ | (dsimp only; omega) | (simp <;> omega)) _ | with_reducible refine bl_trans ?_ (by with_reducible assumption)))
        case measure => simp [intOf]; omega
    · have hm' : k = L.length := by omega
      subst hm'
      go_wp2_with fail
      go_ret
      exact ⟨rfl, hb⟩

set_option maxHeartbeats 2000000 in
theorem specSpawns_any (s : Option Addr) (c : Nat) (L : List Cm) (B : Nat) (w : World) (hL : Els 9 cCmd w B s L) (hl : L.length ≤ 1048576) :
    Calls Try.prog 34 #[.slice s L.length c] w fun e w' => e = .returned (.int .i64 (spn L L.length : Nat)) ∧ Below w.heap.size w w' := by
  go_enter Try.func34, Try.ntmps34
  go_wp2_with fail
  go_loopw [3, 4] (fun n i wr => ∃ k : Nat, k ≤ L.length ∧ i = .int .i64 k ∧ n = .int .i64 (spn L k : Nat) ∧ Below w.heap.size w wr) (fun _ i _ => L.length - (intOf i).toNat)
  case atStart => exact ⟨0, Nat.zero_le _, rfl, rfl, Below.refl _ _⟩
  case round =>
    obtain ⟨k, hk, rfl, rfl, hb⟩ := hrel
    by_cases hlt : k < L.length
    · obtain ⟨a, ha⟩ := get_some hlt
      obtain ⟨b, o, rfl, _, hp, ok, s', c', e0, e1, e2, e3, e4, e5, e6, e7, e8, f⟩ := eCmd_cells (hL.later cCmd_keeps hb) ha
      have hs : Hid (spn L (k + 1) = spn L k + if a.kind = 1 then 1 else 0) := spn_succ ha
      have hle := spn_le L k
      clear ha f ok hL
      by_cases ek : a.kind = 1
      · have hs : Hid (spn L (k + 1) = spn L k + 1) := by have := hs.out; rw [if_pos ek] at this; exact this
        rw [ek] at e0
        have tw : IntKind.i64.wrap ((spn L k : Nat) + 1 : Int) = ((spn L k : Nat) : Int) + 1 := by rw [IntKind.wrap_i64]; omega
        go_wp2_with fail
        go_roundw
        case rel =>
          refine ⟨k + 1, by omega, by go_num, by rw [hs.out]; simp, ?_⟩
          (repeat (first | with_reducible exact Below.refl _ _ | with_reducible refine bl_alloc ?_ _ | with_reducible refine bl_drewN ?_ _ | with_reducible refine bl_drew ?_ | with_reducible refine bl_setCell ?_ (by first | exact Nat.le_refl _ | (dsimp only; omega) | (simp <;> omega)) _ | with_reducible refine bl_trans ?_ (by with_reducible assumption)))
        case measure => simp [intOf]; omega
      · have hs : Hid (spn L (k + 1) = spn L k) := by have := hs.out; rw [if_neg ek] at this; exact this
        go_wp2_with fail
        go_roundw
        case rel =>
          refine ⟨k + 1, by omega, by go_num, by rw [hs.out], ?_⟩
          (repeat (first | with_reducible exact Below.refl _ _ | with_reducible refine bl_alloc ?_ _ | with_reducible refine bl_drewN ?_ _ | with_reducible refine bl_drew ?_ | with_reducible refine bl_setCell ?_ (by first | exact Nat.le_refl _ | (dsimp only; omega) | (simp <;> omega)) _ | with_reducible refine bl_trans ?_ (by with_reducible assumption)))
        case measure => simp [intOf]; omega
    · have hm' : k = L.length := by omega
      subst hm'
      go_wp2_with fail
      go_ret
      exact ⟨rfl, hb⟩
end Go.Proofs.Ytihdoljmedckgaa
