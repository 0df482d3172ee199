import Derived.Test.YtknallkcengbbaaGreatDoorTe
import Derived.Deep.RegionHeld3
namespace Go.Proofs.YtknallkcengbbaaGreatDoor
open Go.RowKit
set_option linter.unusedVariables false
set_option linter.unusedSimpArgs false

/-- two lists alike, element by element. -/
def sl {α : Type} (f : α → α → Bool) (L M : List α) : Bool := decide (L.length = M.length) && (L.zip M).all (fun p => f p.1 p.2)
theorem sl_len {α : Type} {f : α → α → Bool} {L M : List α} (h : ¬ L.length = M.length) : false = sl f L M := by simp [sl, h]
theorem sl_at {α : Type} {f : α → α → Bool} {L M : List α} {j : Nat} {a b : α} (ha : L[j]? = some a) (hb : M[j]? = some b) (h : f a b = false) : false = sl f L M := by
  have hz : (L.zip M)[j]? = some (a, b) := by rw [List.getElem?_zip_eq_some]; exact ⟨ha, hb⟩
  have hm := List.mem_of_getElem? hz
  cases hs : sl f L M
  · rfl
  · simp only [sl, Bool.and_eq_true, List.all_eq_true] at hs
    have := hs.2 _ hm
    simp only at this
    rw [h] at this
    cases this
theorem sl_all {α : Type} {f : α → α → Bool} {L M : List α} (hn : L.length = M.length) (h : ∀ (j : Nat) a b, j < L.length → L[j]? = some a → M[j]? = some b → f a b = true) : true = sl f L M := by
  symm
  simp only [sl, Bool.and_eq_true, List.all_eq_true, decide_eq_true_eq]
  refine ⟨hn, fun p hp => ?_⟩
  obtain ⟨j, hj⟩ := List.mem_iff_getElem?.1 hp
  obtain ⟨a, b⟩ := p
  rw [List.getElem?_zip_eq_some] at hj
  exact h j a b (List.getElem?_eq_some_iff.1 hj.1).1 hj.1 hj.2
def eqI (a b : Int) : Bool := a == b
set_option maxHeartbeats 4000000 in
theorem equalI_any (s t : Option Addr) (c d : Nat) (L M : List Int) (B C : Nat) (w : World) (hs : Els 1 cInt w B s L) (ht : Els 1 cInt w C t M) (hl : L.length ≤ 1048576) (hl2 : M.length ≤ 1048576) :
    Calls Tryz.prog 35 #[.slice s L.length c, .slice t M.length d] w fun e w' => e = .returned (.bool (sl eqI L M)) ∧ Below w.heap.size w w' := by
  have hal := alloc_old
  have haf := alloc_oldf
  by_cases hn : L.length = M.length
  · have t0 : ((L.length : Int) != (M.length : Int)) = false := by simp [hn]
    have HN : Hid (L.length = M.length) := hn
    clear hn
    go_enter Tryz.func35, Tryz.ntmps35
    go_wp2_with fail
    clear t0
    go_loopw [13] (fun i wr => ∃ k : Nat, k ≤ L.length ∧ i = .int .i64 k ∧ Hid (∀ (j : Nat) a b, j < k → L[j]? = some a → M[j]? = some b → eqI a b = true) ∧ Below w.heap.size w wr) (fun i _ => L.length - (intOf i).toNat)
    case atStart => exact ⟨0, Nat.zero_le _, rfl, fun j a b hj => by omega, Below.refl _ _⟩
    case round =>
      obtain ⟨k, hk, rfl, hall, hb⟩ := hrel
      by_cases hlt : k < L.length
      · have hltM : k < M.length := by have := HN.out; omega
        obtain ⟨a, ha⟩ := get_some hlt
        obtain ⟨b, hb0⟩ := get_some hltM
        obtain ⟨b1, o1, rfl, _, hpb1, eb1⟩ := eInt_cells (hs.later cInt_keeps hb) ha
        obtain ⟨b2, o2, rfl, _, hpb2, eb2⟩ := eInt_cells (ht.later cInt_keeps hb) hb0
        have HA : Hid (L[k]? = some a) := ha
        have HB : Hid (M[k]? = some b) := hb0
        clear hs ht ha hb0
        cases hf : eqI a b
        · have E0 : Hid (false = sl eqI L M) := sl_at HA.out HB.out hf
          have g : (a != b) = true := by simp [eqI] at hf; simp [hf]
          clear hf
          go_wp2_with fail
          go_region
          all_goals
            go_wp2_with fail
            go_ret
            refine ⟨ret_bool' E0.out, ?_⟩
            (repeat (first | with_reducible exact Below.refl _ _ | with_reducible refine bl_alloc ?_ _ | with_reducible refine bl_drewN ?_ _ | with_reducible refine bl_drew ?_ | with_reducible refine bl_setCell ?_ (by first | exact Nat.le_refl _ | (dsimp only; omega) | (simp <;> omega)) _ | with_reducible refine bl_trans ?_ (by with_reducible assumption)))
        · have hst : Hid (∀ (j : Nat) a b, j < k + 1 → L[j]? = some a → M[j]? = some b → eqI a b = true) := by
            intro j a' b' hj ha' hb'
            by_cases e : j = k
            · subst e
              rw [HA.out] at ha'
              rw [HB.out] at hb'
              cases ha'
              cases hb'
              exact hf
            · exact hall.out j a' b' (by omega) ha' hb'
          have g : a = b := by simpa [eqI] using hf
          subst g
          clear hf
          go_wp2_with fail
          go_region
          all_goals
            go_wp2_with fail
            go_roundw
            case rel =>
              refine ⟨k + 1, by omega, by go_num, hst, ?_⟩
              (repeat (first | with_reducible exact Below.refl _ _ | with_reducible refine bl_alloc ?_ _ | with_reducible refine bl_drewN ?_ _ | with_reducible refine bl_drew ?_ | with_reducible refine bl_setCell ?_ (by first | exact Nat.le_refl _ | (dsimp only; omega) | (simp <;> omega)) _ | with_reducible refine bl_trans ?_ (by with_reducible assumption)))
            case measure => simp [intOf]; omega
      · have E0 : Hid (true = sl eqI L M) := sl_all HN.out (fun j a b hj ha hb => hall.out j a b (by omega) ha hb)
        go_wp2_with fail
        go_ret
        exact ⟨ret_bool' E0.out, hb⟩
  · have t0 : ((L.length : Int) != (M.length : Int)) = true := by simp; omega
    go_enter Tryz.func35, Tryz.ntmps35
    go_wp2_with fail
    go_ret
    exact ⟨ret_bool' (sl_len hn), Below.refl _ _⟩

end Go.Proofs.YtknallkcengbbaaGreatDoor
