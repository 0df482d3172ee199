import Derived.Test.YtaakjcjhmeeclaaK3
import Derived.Test.YtaakjcjhmeeclaaTz
import Derived.Deep.RegionHeld3
namespace Go.Proofs.Ytaakjcjhmeeclaa
open Go.RowKit
set_option linter.unusedVariables false
set_option linter.unusedSimpArgs false
set_option maxRecDepth 100000

theorem sl_same (L M : List Int) : sl eqI L M = decide (L = M) := by
  rw [Bool.eq_iff_iff, decide_eq_true_eq]
  constructor
  · intro h
    simp only [sl, Bool.and_eq_true, List.all_eq_true, decide_eq_true_eq] at h
    obtain ⟨h1, h2⟩ := h
    apply List.ext_getElem h1
    intro i a b
    have := h2 (L[i], M[i]) (by rw [List.mem_iff_getElem]; exact ⟨i, by simp; omega, by simp⟩)
    simpa [eqI] using this
  · rintro rfl
    exact (sl_all rfl (fun j a b _ h1 h2 => by rw [h1] at h2; cases h2; simp [eqI])).symm
def eqE (a b : E2) : Bool := a.1 == b.1 && a.2 == b.2
/-- two effects are alike, field by field. -/
def eB (a b : Ef) : Bool := decide (a.l0 = b.l0 ∧ a.l1 = b.l1 ∧ a.l2 = b.l2 ∧ a.l3 = b.l3 ∧ a.l4 = b.l4 ∧ a.l5 = b.l5 ∧ a.l6 = b.l6 ∧ a.l7 = b.l7 ∧ a.sp = b.sp ∧ a.kl = b.kl)
/-- two plans are alike. -/
def pS (P Q : Pln) : Bool := decide (P.st = Q.st) && (decide (P.od = Q.od) && (sl eqE P.ed Q.ed && sl eB P.ef Q.ef))

set_option maxHeartbeats 4000000 in
theorem equalEd_any (s t : Option Addr) (c d : Nat) (L M : List E2) (B C : Nat) (w : World) (hs : Els 2 cEnt w B s L) (ht : Els 2 cEnt w C t M) (hl : L.length ≤ 1048576) (hl2 : M.length ≤ 1048576) :
    Calls Try.prog 21 #[.slice s L.length c, .slice t M.length d] w fun e w' => e = .returned (.bool (sl eqE L M)) ∧ Below w.heap.size w w' := by
  have hal := alloc_old
  have haf := alloc_oldf
  by_cases hn : L.length = M.length
  · have t0 : ((L.length : Int) != (M.length : Int)) = false := by simp [hn]
    have HN : Hid (L.length = M.length) := hn
    clear hn
    go_enter Try.func21, Try.ntmps21
    go_wp2_with fail
    clear t0
    go_loopw [13] (fun i wr => ∃ k : Nat, k ≤ L.length ∧ i = .int .i64 k ∧ Hid (∀ (j : Nat) a b, j < k → L[j]? = some a → M[j]? = some b → eqE a b = true) ∧ Below w.heap.size w wr) (fun i _ => L.length - (intOf i).toNat)
    case atStart => exact ⟨0, Nat.zero_le _, rfl, fun j a b hj => by omega, Below.refl _ _⟩
    case round =>
      obtain ⟨k, hk, rfl, hall, hb⟩ := hrel
      by_cases hlt : k < L.length
      · have hltM : k < M.length := by have := HN.out; omega
        obtain ⟨a, ha⟩ := get_some hlt
        obtain ⟨b, hb0⟩ := get_some hltM
        obtain ⟨b1, o1, rfl, _, hpb1, eb1, fb1⟩ := eEnt_cells (hs.later cEnt_keeps hb) ha
        obtain ⟨b2, o2, rfl, _, hpb2, eb2, fb2⟩ := eEnt_cells (ht.later cEnt_keeps hb) hb0
        have HA : Hid (L[k]? = some a) := ha
        have HB : Hid (M[k]? = some b) := hb0
        clear hs ht ha hb0
        cases hf : eqE a b
        · have E0 : Hid (false = sl eqE L M) := sl_at HA.out HB.out hf
          obtain ⟨p1, p2⟩ := a
          obtain ⟨q1, q2⟩ := b
          have g : (p1 == q1 && p2 == q2) = false := hf
          clear hf
          by_cases g1 : p1 = q1
          · subst g1
            have g2 : ¬ p2 = q2 := by simpa using g
            clear g
            go_wp2_with fail
            go_region
            all_goals
              go_wp2_with fail
              go_ret
              refine ⟨ret_bool' E0.out, ?_⟩
              (repeat (first | with_reducible exact Below.refl _ _ | with_reducible refine bl_alloc ?_ _ | with_reducible refine bl_drewN ?_ _ | with_reducible refine bl_drew ?_ | with_reducible refine bl_setCell ?_ (by first | exact Nat.le_refl _ | (dsimp only; omega) | (simp <;> omega)) _ | with_reducible refine bl_trans ?_ (by with_reducible assumption)))
          · clear g
            go_wp2_with fail
            go_region
            all_goals
              go_wp2_with fail
              go_ret
              refine ⟨ret_bool' E0.out, ?_⟩
              (repeat (first | with_reducible exact Below.refl _ _ | with_reducible refine bl_alloc ?_ _ | with_reducible refine bl_drewN ?_ _ | with_reducible refine bl_drew ?_ | with_reducible refine bl_setCell ?_ (by first | exact Nat.le_refl _ | (dsimp only; omega) | (simp <;> omega)) _ | with_reducible refine bl_trans ?_ (by with_reducible assumption)))
        · have hst : Hid (∀ (j : Nat) a b, j < k + 1 → L[j]? = some a → M[j]? = some b → eqE a b = true) := by
            intro j a' b' hj ha' hb'
            by_cases e : j = k
            · subst e
              rw [HA.out] at ha'
              rw [HB.out] at hb'
              cases ha'
              cases hb'
              exact hf
            · exact hall.out j a' b' (by omega) ha' hb'
          obtain ⟨p1, p2⟩ := a
          obtain ⟨q1, q2⟩ := b
          have g : (p1 == q1 && p2 == q2) = true := hf
          clear hf
          obtain ⟨g1, g2⟩ : p1 = q1 ∧ p2 = q2 := by simpa using g
          subst g1 g2
          clear g
          go_wp2_with fail
          go_region
          all_goals
            go_wp2_with fail
            go_roundw
            case rel =>
              refine ⟨k + 1, by omega, by go_num, hst, ?_⟩
              (repeat (first | with_reducible exact Below.refl _ _ | with_reducible refine bl_alloc ?_ _ | with_reducible refine bl_drewN ?_ _ | with_reducible refine bl_drew ?_ | with_reducible refine bl_setCell ?_ (by first | exact Nat.le_refl _ | (dsimp only; omega) | (simp <;> omega)) _ | with_reducible refine bl_trans ?_ (by with_reducible assumption)))
            case measure => simp [intOf]; omega
      · have E0 : Hid (true = sl eqE L M) := sl_all HN.out (fun j a b hj ha hb => hall.out j a b (by omega) ha hb)
        go_wp2_with fail
        go_ret
        exact ⟨ret_bool' E0.out, hb⟩
  · have t0 : ((L.length : Int) != (M.length : Int)) = true := by simp; omega
    go_enter Try.func21, Try.ntmps21
    go_wp2_with fail
    go_ret
    exact ⟨ret_bool' (sl_len hn), Below.refl _ _⟩

end Go.Proofs.Ytaakjcjhmeeclaa
