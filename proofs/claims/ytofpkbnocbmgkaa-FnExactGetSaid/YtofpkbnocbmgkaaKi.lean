import Derived.Test.YtofpkbnocbmgkaaTz
import Derived.Test.YtofpkbnocbmgkaaKa
namespace Go.Proofs.Ytofpkbnocbmgkaa
open Go.RowKit Go.Maps Go.WideMaps
set_option linter.unusedVariables false
set_option linter.unusedSimpArgs false
set_option maxRecDepth 100000

theorem sl_eqI (L M : List Int) : sl eqI L M = decide (L = M) := by
  cases h : sl eqI L M
  · symm
    rw [decide_eq_false_iff_not]
    intro e
    subst e
    have : true = sl eqI L L := sl_all rfl (fun j a b hj ha hb => by rw [ha] at hb; cases hb; simp [eqI])
    rw [h] at this
    cases this
  · symm
    rw [decide_eq_true_eq]
    simp only [sl, Bool.and_eq_true, decide_eq_true_eq, List.all_eq_true] at h
    apply List.ext_getElem h.1
    intro i h1 h2
    have hz : (L.zip M)[i]? = some (L[i], M[i]) := by rw [List.getElem?_zip_eq_some]; exact ⟨List.getElem?_eq_getElem h1, List.getElem?_eq_getElem h2⟩
    have := h.2 _ (List.mem_of_getElem? hz)
    simpa [eqI] using this
/-- one of these tables has just these columns. -/
def hasC (T : List Tab) (cols : List Int) : Bool := T.any (fun t => sl eqI t.cols cols)

set_option maxHeartbeats 2000000 in
theorem tableWith_any (s : Option Addr) (c : Nat) (T : List Tab) (n : Nat) (sc : Option Addr) (cc : Nat) (cols : List Int) (Bs Bc : Nat) (w : World) (hn : T.length = n) (hT : Els 3 cTab w Bs s T) (hc : Els 1 cInt w Bc sc cols) (hk : kTabs T) (hl : cols.length ≤ 1048576) :
    Calls Try.prog 82 #[.slice s n c, .slice sc cols.length cc] w fun e w' => (∃ r : Int, e = .returned (.int .i64 r) ∧ decide (r ≥ 0) = hasC T cols) ∧ Below w.heap.size w w' := by
  subst hn
  have hal := alloc_old
  have haf := alloc_oldf
  obtain ⟨kl, kt⟩ := hk
  have KT : Hid (∀ t ∈ T, kTab t) := kt
  have H1 : Hid (Els 3 cTab w Bs s T) := hT
  have H2 : Hid (Els 1 cInt w Bc sc cols) := hc
  clear kt hT hc
  go_enter Try.func82, Try.ntmps82
  go_wp2_with fail
  go_loopw [9] (fun i wr => ∃ k : Nat, k ≤ T.length ∧ i = .int .i64 k ∧ Hid (Below w.heap.size w wr ∧ ∀ (j : Nat) t, j < k → T[j]? = some t → sl eqI t.cols cols = false)) (fun i _ => T.length - (intOf i).toNat)
  case atStart => exact ⟨0, Nat.zero_le _, rfl, Below.refl _ _, fun j t hj => absurd hj (Nat.not_lt_zero _)⟩
  case round =>
    obtain ⟨k, hk, rfl, hN⟩ := hrel
    by_cases hlt : k < T.length
    · obtain ⟨t, ha⟩ := get_some hlt
      obtain ⟨b, o, rfl, _, hp, s1, d1, s2, d2, s3, d3, e1, e2, e3, f1, f2, f3⟩ := eTab_cells (H1.out.later cTab_keeps hN.out.1) ha
      have HA : Hid (T[k]? = some t) := ha
      have hkt := (KT.out t (List.mem_of_getElem? ha)).1
      have F1 : Hid (Els 1 cInt wr Bs s1 t.cols) := f1
      clear ha f1 f2 f3
      go_wp2_with fail
      refine (equalI_any s1 sc d1 cc t.cols cols Bs Bc _ (F1.out.later cInt_keeps (bl_alloc (Below.refl _ _) _)) (H2.out.later cInt_keeps (bl_alloc hN.out.1 _)) hkt hl).mono ?_
      rintro e w2 ⟨rfl, hb2⟩
      have L2 : Hid (Below w.heap.size w w2) := bl_trans (bl_alloc hN.out.1 _) hb2
      clear hb2
      cases hs : sl eqI t.cols cols
      · go_wp2_with fail
        go_roundw
        case rel => exact ⟨k + 1, by omega, by go_num, L2.out, fun j u hj hu => by
          by_cases hjk : j = k
          · subst hjk
            rw [HA.out] at hu
            cases hu
            exact hs
          · exact hN.out.2 j u (by omega) hu⟩
        case measure => simp [intOf]; omega
      · have HR : Hid (decide ((k : Int) ≥ 0) = hasC T cols) := by
          show _ = _
          have : hasC T cols = true := List.any_eq_true.2 ⟨t, List.mem_of_getElem? HA.out, hs⟩
          rw [this]
          simp
        go_wp2_with fail
        go_ret
        exact ⟨⟨_, rfl, HR.out⟩, L2.out⟩
    · have HR : Hid (decide ((-1 : Int) ≥ 0) = hasC T cols) := by
        show _ = _
        have : hasC T cols = false := by
          rw [hasC, List.any_eq_false]
          intro t ht
          obtain ⟨j, hj, rfl⟩ := List.getElem_of_mem ht
          simp [hN.out.2 j _ (by omega) (List.getElem?_eq_getElem hj)]
        rw [this]
        rfl
      go_wp2_with fail
      go_ret
      exact ⟨⟨_, rfl, HR.out⟩, hN.out.1⟩
end Go.Proofs.Ytofpkbnocbmgkaa
