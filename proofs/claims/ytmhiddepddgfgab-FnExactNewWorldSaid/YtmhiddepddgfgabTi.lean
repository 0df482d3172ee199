import Derived.Test.YtmhiddepddgfgabTe
import Derived.Test.YtmhiddepddgfgabWf
import Derived.Deep.RegionHeld3
namespace Go.Proofs.Ytmhiddepddgfgab
open Go.RowKit
set_option linter.unusedVariables false
set_option linter.unusedSimpArgs false

/-- two lists alike, element by element. -/
def sl {α : Type} (f : α → α → Bool) (L M : List α) : Bool := decide (L.length = M.length) && (L.zip M).all (fun p => f p.1 p.2)
theorem sl_len {α : Type} {f : α → α → Bool} {L M : List α} (h : ¬ L.length = M.length) : false = sl f L M := by simp [sl, h]
theorem sl_at {α : Type} {f : α → α → Bool} {L M : List α} {j : Nat} {a b : α} (ha : L[j]? = some a) (hb : M[j]? = some b) (h : f a b = false) : false = sl f L M := by
  have hz : (L.zip M)[j]? = some (a, b) := by rw [List.getElem?_zip_eq_some]; exact ⟨ha, hb⟩
  have hm := List.mem_of_getElem? hz
  cases hs : sl f L M
  · rfl
  · simp only [sl, Bool.and_eq_true, List.all_eq_true] at hs
    have := hs.2 _ hm
    simp only at this
    rw [h] at this
    cases this
theorem sl_all {α : Type} {f : α → α → Bool} {L M : List α} (hn : L.length = M.length) (h : ∀ (j : Nat) a b, j < L.length → L[j]? = some a → M[j]? = some b → f a b = true) : true = sl f L M := by
  symm
  simp only [sl, Bool.and_eq_true, List.all_eq_true, decide_eq_true_eq]
  refine ⟨hn, fun p hp => ?_⟩
  obtain ⟨j, hj⟩ := List.mem_iff_getElem?.1 hp
  obtain ⟨a, b⟩ := p
  rw [List.getElem?_zip_eq_some] at hj
  exact h j a b (List.getElem?_eq_some_iff.1 hj.1).1 hj.1 hj.2
def eqI (a b : Int) : Bool := a == b
def eqE (a b : E2) : Bool := a == b
def eqV (a b : V4) : Bool := eqB a.1 a.2.1 a.2.2.1 a.2.2.2 b.1 b.2.1 b.2.2.1 b.2.2.2
def sVals (L M : List V4) : Bool := sl eqV L M
def sTab (a b : Tab) : Bool := sl eqI a.cols b.cols && sl eqE a.rows b.rows && sl sVals a.cells b.cells
def sWd (a b : Wd) : Bool := sl eqI a.gens b.gens && sl eqI a.free b.free && sl sTab a.tabs b.tabs && sVals a.res b.res

set_option maxHeartbeats 4000000 in
theorem equalI_any (s t : Option Addr) (c d : Nat) (L M : List Int) (B C : Nat) (w : World) (hs : Els 1 cInt w B s L) (ht : Els 1 cInt w C t M) (hl : L.length ≤ 1048576) (hl2 : M.length ≤ 1048576) :
    Calls Try.prog 71 #[.slice s L.length c, .slice t M.length d] w fun e w' => e = .returned (.bool (sl eqI L M)) ∧ Below w.heap.size w w' := by
  have hal := alloc_old
  have haf := alloc_oldf
  by_cases hn : L.length = M.length
  · have t0 : ((L.length : Int) != (M.length : Int)) = false := by simp [hn]
    have HN : Hid (L.length = M.length) := hn
    clear hn
    go_enter Try.func71, Try.ntmps71
    go_wp2_with fail
    clear t0
    go_loopw [13] (fun i wr => ∃ k : Nat, k ≤ L.length ∧ i = .int .i64 k ∧ Hid (∀ (j : Nat) a b, j < k → L[j]? = some a → M[j]? = some b → eqI a b = true) ∧ Below w.heap.size w wr) (fun i _ => L.length - (intOf i).toNat)
    case atStart => exact ⟨0, Nat.zero_le _, rfl, fun j a b hj => by omega, Below.refl _ _⟩
    case round =>
      obtain ⟨k, hk, rfl, hall, hb⟩ := hrel
      by_cases hlt : k < L.length
      · have hltM : k < M.length := by have := HN.out; omega
        obtain ⟨a, ha⟩ := get_some hlt
        obtain ⟨b, hb0⟩ := get_some hltM
        obtain ⟨b1, o1, rfl, _, hpb1, eb1⟩ := eInt_cells (hs.later cInt_keeps hb) ha
        obtain ⟨b2, o2, rfl, _, hpb2, eb2⟩ := eInt_cells (ht.later cInt_keeps hb) hb0
        have HA : Hid (L[k]? = some a) := ha
        have HB : Hid (M[k]? = some b) := hb0
        clear hs ht ha hb0
        cases hf : eqI a b
        · have E0 : Hid (false = sl eqI L M) := sl_at HA.out HB.out hf
          have g : (a != b) = true := by simp [eqI] at hf; simp [hf]
          clear hf
          go_wp2_with fail
          go_region
          all_goals
            go_wp2_with fail
            go_ret
            refine ⟨ret_bool' E0.out, ?_⟩
            (repeat (first | with_reducible exact Below.refl _ _ | with_reducible refine bl_alloc ?_ _ | with_reducible refine bl_drewN ?_ _ | with_reducible refine bl_drew ?_ | with_reducible refine bl_setCell ?_ (by first | exact Nat.le_refl _ | (dsimp only; omega) | (simp <;> omega)) _ | with_reducible refine bl_trans ?_ (by with_reducible assumption)))
        · have hst : Hid (∀ (j : Nat) a b, j < k + 1 → L[j]? = some a → M[j]? = some b → eqI a b = true) := by
            intro j a' b' hj ha' hb'
            by_cases e : j = k
            · subst e
              rw [HA.out] at ha'
              rw [HB.out] at hb'
              cases ha'
              cases hb'
              exact hf
            · exact hall.out j a' b' (by omega) ha' hb'
          have g : a = b := by simpa [eqI] using hf
          subst g
          clear hf
          go_wp2_with fail
          go_region
          all_goals
            go_wp2_with fail
            go_roundw
            case rel =>
              refine ⟨k + 1, by omega, by go_num, hst, ?_⟩
              (repeat (first | with_reducible exact Below.refl _ _ | with_reducible refine bl_alloc ?_ _ | with_reducible refine bl_drewN ?_ _ | with_reducible refine bl_drew ?_ | with_reducible refine bl_setCell ?_ (by first | exact Nat.le_refl _ | (dsimp only; omega) | (simp <;> omega)) _ | with_reducible refine bl_trans ?_ (by with_reducible assumption)))
            case measure => simp [intOf]; omega
      · have E0 : Hid (true = sl eqI L M) := sl_all HN.out (fun j a b hj ha hb => hall.out j a b (by omega) ha hb)
        go_wp2_with fail
        go_ret
        exact ⟨ret_bool' E0.out, hb⟩
  · have t0 : ((L.length : Int) != (M.length : Int)) = true := by simp; omega
    go_enter Try.func71, Try.ntmps71
    go_wp2_with fail
    go_ret
    exact ⟨ret_bool' (sl_len hn), Below.refl _ _⟩

set_option maxHeartbeats 4000000 in
theorem l4Equal_any (s t : Option Addr) (c d : Nat) (L M : List Int) (B C : Nat) (w : World) (hs : Els 1 cInt w B s L) (ht : Els 1 cInt w C t M) (hl : L.length ≤ 1048576) (hl2 : M.length ≤ 1048576) :
    Calls Try.prog 50 #[.slice s L.length c, .slice t M.length d] w fun e w' => e = .returned (.bool (sl eqI L M)) ∧ Below w.heap.size w w' := by
  have hal := alloc_old
  have haf := alloc_oldf
  by_cases hn : L.length = M.length
  · have t0 : ((L.length : Int) != (M.length : Int)) = false := by simp [hn]
    have HN : Hid (L.length = M.length) := hn
    clear hn
    go_enter Try.func50, Try.ntmps50
    go_wp2_with fail
    clear t0
    go_loopw [5] (fun i wr => ∃ k : Nat, k ≤ L.length ∧ i = .int .i64 k ∧ Hid (∀ (j : Nat) a b, j < k → L[j]? = some a → M[j]? = some b → eqI a b = true) ∧ Below w.heap.size w wr) (fun i _ => L.length - (intOf i).toNat)
    case atStart => exact ⟨0, Nat.zero_le _, rfl, fun j a b hj => by omega, Below.refl _ _⟩
    case round =>
      obtain ⟨k, hk, rfl, hall, hb⟩ := hrel
      by_cases hlt : k < L.length
      · have hltM : k < M.length := by have := HN.out; omega
        obtain ⟨a, ha⟩ := get_some hlt
        obtain ⟨b, hb0⟩ := get_some hltM
        obtain ⟨b1, o1, rfl, _, hpb1, eb1⟩ := eInt_cells (hs.later cInt_keeps hb) ha
        obtain ⟨b2, o2, rfl, _, hpb2, eb2⟩ := eInt_cells (ht.later cInt_keeps hb) hb0
        have HA : Hid (L[k]? = some a) := ha
        have HB : Hid (M[k]? = some b) := hb0
        clear hs ht ha hb0
        cases hf : eqI a b
        · have E0 : Hid (false = sl eqI L M) := sl_at HA.out HB.out hf
          have g : (a != b) = true := by simp [eqI] at hf; simp [hf]
          clear hf
          go_wp2_with fail
          go_region
          all_goals
            go_wp2_with fail
            go_ret
            refine ⟨ret_bool' E0.out, ?_⟩
            (repeat (first | with_reducible exact Below.refl _ _ | with_reducible refine bl_alloc ?_ _ | with_reducible refine bl_drewN ?_ _ | with_reducible refine bl_drew ?_ | with_reducible refine bl_setCell ?_ (by first | exact Nat.le_refl _ | (dsimp only; omega) | (simp <;> omega)) _ | with_reducible refine bl_trans ?_ (by with_reducible assumption)))
        · have hst : Hid (∀ (j : Nat) a b, j < k + 1 → L[j]? = some a → M[j]? = some b → eqI a b = true) := by
            intro j a' b' hj ha' hb'
            by_cases e : j = k
            · subst e
              rw [HA.out] at ha'
              rw [HB.out] at hb'
              cases ha'
              cases hb'
              exact hf
            · exact hall.out j a' b' (by omega) ha' hb'
          have g : a = b := by simpa [eqI] using hf
          subst g
          clear hf
          go_wp2_with fail
          go_region
          all_goals
            go_wp2_with fail
            go_roundw
            case rel =>
              refine ⟨k + 1, by omega, by go_num, hst, ?_⟩
              (repeat (first | with_reducible exact Below.refl _ _ | with_reducible refine bl_alloc ?_ _ | with_reducible refine bl_drewN ?_ _ | with_reducible refine bl_drew ?_ | with_reducible refine bl_setCell ?_ (by first | exact Nat.le_refl _ | (dsimp only; omega) | (simp <;> omega)) _ | with_reducible refine bl_trans ?_ (by with_reducible assumption)))
            case measure => simp [intOf]; omega
      · have E0 : Hid (true = sl eqI L M) := sl_all HN.out (fun j a b hj ha hb => hall.out j a b (by omega) ha hb)
        go_wp2_with fail
        go_ret
        exact ⟨ret_bool' E0.out, hb⟩
  · have t0 : ((L.length : Int) != (M.length : Int)) = true := by simp; omega
    go_enter Try.func50, Try.ntmps50
    go_wp2_with fail
    go_ret
    exact ⟨ret_bool' (sl_len hn), Below.refl _ _⟩

set_option maxHeartbeats 4000000 in
theorem equalE_any (s t : Option Addr) (c d : Nat) (L M : List E2) (B C : Nat) (w : World) (hs : Els 2 cEnt w B s L) (ht : Els 2 cEnt w C t M) (hl : L.length ≤ 1048576) (hl2 : M.length ≤ 1048576) :
    Calls Try.prog 112 #[.slice s L.length c, .slice t M.length d] w fun e w' => e = .returned (.bool (sl eqE L M)) ∧ Below w.heap.size w w' := by
  have hal := alloc_old
  have haf := alloc_oldf
  by_cases hn : L.length = M.length
  · have t0 : ((L.length : Int) != (M.length : Int)) = false := by simp [hn]
    have HN : Hid (L.length = M.length) := hn
    clear hn
    go_enter Try.func112, Try.ntmps112
    go_wp2_with fail
    clear t0
    go_loopw [13] (fun i wr => ∃ k : Nat, k ≤ L.length ∧ i = .int .i64 k ∧ Hid (∀ (j : Nat) a b, j < k → L[j]? = some a → M[j]? = some b → eqE a b = true) ∧ Below w.heap.size w wr) (fun i _ => L.length - (intOf i).toNat)
    case atStart => exact ⟨0, Nat.zero_le _, rfl, fun j a b hj => by omega, Below.refl _ _⟩
    case round =>
      obtain ⟨k, hk, rfl, hall, hb⟩ := hrel
      by_cases hlt : k < L.length
      · have hltM : k < M.length := by have := HN.out; omega
        obtain ⟨a, ha⟩ := get_some hlt
        obtain ⟨b, hb0⟩ := get_some hltM
        obtain ⟨b1, o1, rfl, _, hpb1, eb1, fb1⟩ := eEnt_cells (hs.later cEnt_keeps hb) ha
        obtain ⟨b2, o2, rfl, _, hpb2, eb2, fb2⟩ := eEnt_cells (ht.later cEnt_keeps hb) hb0
        have HA : Hid (L[k]? = some a) := ha
        have HB : Hid (M[k]? = some b) := hb0
        clear hs ht ha hb0
        cases hf : eqE a b
        · have E0 : Hid (false = sl eqE L M) := sl_at HA.out HB.out hf
          obtain ⟨a1, a2⟩ := a
          obtain ⟨b3, b4⟩ := b
          have hne : ¬ (a1 = b3 ∧ a2 = b4) := by simp [eqE] at hf; exact fun h => hf h.1 h.2
          clear hf
          by_cases q1 : a1 = b3
          · have q2 : ¬ a2 = b4 := fun h => hne ⟨q1, h⟩
            subst q1
            clear hne
            go_wp2_with fail
            go_region
            all_goals
              go_wp2_with fail
              go_ret
              refine ⟨ret_bool' E0.out, ?_⟩
              (repeat (first | with_reducible exact Below.refl _ _ | with_reducible refine bl_alloc ?_ _ | with_reducible refine bl_drewN ?_ _ | with_reducible refine bl_drew ?_ | with_reducible refine bl_setCell ?_ (by first | exact Nat.le_refl _ | (dsimp only; omega) | (simp <;> omega)) _ | with_reducible refine bl_trans ?_ (by with_reducible assumption)))
          · clear hne
            go_wp2_with fail
            go_region
            all_goals
              go_wp2_with fail
              go_ret
              refine ⟨ret_bool' E0.out, ?_⟩
              (repeat (first | with_reducible exact Below.refl _ _ | with_reducible refine bl_alloc ?_ _ | with_reducible refine bl_drewN ?_ _ | with_reducible refine bl_drew ?_ | with_reducible refine bl_setCell ?_ (by first | exact Nat.le_refl _ | (dsimp only; omega) | (simp <;> omega)) _ | with_reducible refine bl_trans ?_ (by with_reducible assumption)))
        · have hst : Hid (∀ (j : Nat) a b, j < k + 1 → L[j]? = some a → M[j]? = some b → eqE a b = true) := by
            intro j a' b' hj ha' hb'
            by_cases e : j = k
            · subst e
              rw [HA.out] at ha'
              rw [HB.out] at hb'
              cases ha'
              cases hb'
              exact hf
            · exact hall.out j a' b' (by omega) ha' hb'
          obtain rfl : a = b := by simpa [eqE] using hf
          obtain ⟨a1, a2⟩ := a
          clear hf
          go_wp2_with fail
          go_region
          all_goals
            go_wp2_with fail
            go_roundw
            case rel =>
              refine ⟨k + 1, by omega, by go_num, hst, ?_⟩
              (repeat (first | with_reducible exact Below.refl _ _ | with_reducible refine bl_alloc ?_ _ | with_reducible refine bl_drewN ?_ _ | with_reducible refine bl_drew ?_ | with_reducible refine bl_setCell ?_ (by first | exact Nat.le_refl _ | (dsimp only; omega) | (simp <;> omega)) _ | with_reducible refine bl_trans ?_ (by with_reducible assumption)))
            case measure => simp [intOf]; omega
      · have E0 : Hid (true = sl eqE L M) := sl_all HN.out (fun j a b hj ha hb => hall.out j a b (by omega) ha hb)
        go_wp2_with fail
        go_ret
        exact ⟨ret_bool' E0.out, hb⟩
  · have t0 : ((L.length : Int) != (M.length : Int)) = true := by simp; omega
    go_enter Try.func112, Try.ntmps112
    go_wp2_with fail
    go_ret
    exact ⟨ret_bool' (sl_len hn), Below.refl _ _⟩

set_option maxHeartbeats 4000000 in
theorem l4SameEnts_any (s t : Option Addr) (c d : Nat) (L M : List E2) (B C : Nat) (w : World) (hs : Els 2 cEnt w B s L) (ht : Els 2 cEnt w C t M) (hl : L.length ≤ 1048576) (hl2 : M.length ≤ 1048576) :
    Calls Try.prog 70 #[.slice s L.length c, .slice t M.length d] w fun e w' => e = .returned (.bool (sl eqE L M)) ∧ Below w.heap.size w w' := by
  have hal := alloc_old
  have haf := alloc_oldf
  by_cases hn : L.length = M.length
  · have t0 : ((L.length : Int) != (M.length : Int)) = false := by simp [hn]
    have HN : Hid (L.length = M.length) := hn
    clear hn
    go_enter Try.func70, Try.ntmps70
    go_wp2_with fail
    clear t0
    go_loopw [5] (fun i wr => ∃ k : Nat, k ≤ L.length ∧ i = .int .i64 k ∧ Hid (∀ (j : Nat) a b, j < k → L[j]? = some a → M[j]? = some b → eqE a b = true) ∧ Below w.heap.size w wr) (fun i _ => L.length - (intOf i).toNat)
    case atStart => exact ⟨0, Nat.zero_le _, rfl, fun j a b hj => by omega, Below.refl _ _⟩
    case round =>
      obtain ⟨k, hk, rfl, hall, hb⟩ := hrel
      by_cases hlt : k < L.length
      · have hltM : k < M.length := by have := HN.out; omega
        obtain ⟨a, ha⟩ := get_some hlt
        obtain ⟨b, hb0⟩ := get_some hltM
        obtain ⟨b1, o1, rfl, _, hpb1, eb1, fb1⟩ := eEnt_cells (hs.later cEnt_keeps hb) ha
        obtain ⟨b2, o2, rfl, _, hpb2, eb2, fb2⟩ := eEnt_cells (ht.later cEnt_keeps hb) hb0
        have HA : Hid (L[k]? = some a) := ha
        have HB : Hid (M[k]? = some b) := hb0
        clear hs ht ha hb0
        cases hf : eqE a b
        · have E0 : Hid (false = sl eqE L M) := sl_at HA.out HB.out hf
          obtain ⟨a1, a2⟩ := a
          obtain ⟨b3, b4⟩ := b
          have hne : ¬ (a1 = b3 ∧ a2 = b4) := by simp [eqE] at hf; exact fun h => hf h.1 h.2
          clear hf
          by_cases q1 : a1 = b3
          · have q2 : ¬ a2 = b4 := fun h => hne ⟨q1, h⟩
            subst q1
            clear hne
            go_wp2_with fail
            go_region
            all_goals
              go_wp2_with fail
              go_ret
              refine ⟨ret_bool' E0.out, ?_⟩
              (repeat (first | with_reducible exact Below.refl _ _ | with_reducible refine bl_alloc ?_ _ | with_reducible refine bl_drewN ?_ _ | with_reducible refine bl_drew ?_ | with_reducible refine bl_setCell ?_ (by first | exact Nat.le_refl _ | (dsimp only; omega) | (simp <;> omega)) _ | with_reducible refine bl_trans ?_ (by with_reducible assumption)))
          · clear hne
            go_wp2_with fail
            go_region
            all_goals
              go_wp2_with fail
              go_ret
              refine ⟨ret_bool' E0.out, ?_⟩
              (repeat (first | with_reducible exact Below.refl _ _ | with_reducible refine bl_alloc ?_ _ | with_reducible refine bl_drewN ?_ _ | with_reducible refine bl_drew ?_ | with_reducible refine bl_setCell ?_ (by first | exact Nat.le_refl _ | (dsimp only; omega) | (simp <;> omega)) _ | with_reducible refine bl_trans ?_ (by with_reducible assumption)))
        · have hst : Hid (∀ (j : Nat) a b, j < k + 1 → L[j]? = some a → M[j]? = some b → eqE a b = true) := by
            intro j a' b' hj ha' hb'
            by_cases e : j = k
            · subst e
              rw [HA.out] at ha'
              rw [HB.out] at hb'
              cases ha'
              cases hb'
              exact hf
            · exact hall.out j a' b' (by omega) ha' hb'
          obtain rfl : a = b := by simpa [eqE] using hf
          obtain ⟨a1, a2⟩ := a
          clear hf
          go_wp2_with fail
          go_region
          all_goals
            go_wp2_with fail
            go_roundw
            case rel =>
              refine ⟨k + 1, by omega, by go_num, hst, ?_⟩
              (repeat (first | with_reducible exact Below.refl _ _ | with_reducible refine bl_alloc ?_ _ | with_reducible refine bl_drewN ?_ _ | with_reducible refine bl_drew ?_ | with_reducible refine bl_setCell ?_ (by first | exact Nat.le_refl _ | (dsimp only; omega) | (simp <;> omega)) _ | with_reducible refine bl_trans ?_ (by with_reducible assumption)))
            case measure => simp [intOf]; omega
      · have E0 : Hid (true = sl eqE L M) := sl_all HN.out (fun j a b hj ha hb => hall.out j a b (by omega) ha hb)
        go_wp2_with fail
        go_ret
        exact ⟨ret_bool' E0.out, hb⟩
  · have t0 : ((L.length : Int) != (M.length : Int)) = true := by simp; omega
    go_enter Try.func70, Try.ntmps70
    go_wp2_with fail
    go_ret
    exact ⟨ret_bool' (sl_len hn), Below.refl _ _⟩

theorem boxVV (w : World) (c d : Array Value) (t u : TypeId) : Blk ((w.alloc (.cells c t)).alloc (.cells d u)) w.heap.size c t ∧ Blk ((w.alloc (.cells c t)).alloc (.cells d u)) (w.heap.size + 1) d u ∧ Below w.heap.size w ((w.alloc (.cells c t)).alloc (.cells d u)) :=
  ⟨(blk2 w c d t u).1, (blk2 w c d t u).2, bl_alloc (bl_alloc (Below.refl _ _) _) _⟩

set_option maxHeartbeats 4000000 in
theorem l4SameVals_any (s t : Option Addr) (c d : Nat) (L M : List V4) (B C : Nat) (w : World) (hs : Els 4 cVal w B s L) (ht : Els 4 cVal w C t M) (hl : L.length ≤ 1048576) (hl2 : M.length ≤ 1048576) :
    Calls Try.prog 69 #[.slice s L.length c, .slice t M.length d] w fun e w' => e = .returned (.bool (sl eqV L M)) ∧ Below w.heap.size w w' := by
  have hal := alloc_old
  have haf := alloc_oldf
  by_cases hn : L.length = M.length
  · have t0 : ((L.length : Int) != (M.length : Int)) = false := by simp [hn]
    have HN : Hid (L.length = M.length) := hn
    clear hn
    go_enter Try.func69, Try.ntmps69
    go_wp2_with fail
    clear t0
    go_loopw [5] (fun i wr => ∃ k : Nat, k ≤ L.length ∧ i = .int .i64 k ∧ Hid (∀ (j : Nat) a b, j < k → L[j]? = some a → M[j]? = some b → eqV a b = true) ∧ Below w.heap.size w wr) (fun i _ => L.length - (intOf i).toNat)
    case atStart => exact ⟨0, Nat.zero_le _, rfl, fun j a b hj => by omega, Below.refl _ _⟩
    case round =>
      obtain ⟨k, hk, rfl, hall, hb⟩ := hrel
      by_cases hlt : k < L.length
      · have hltM : k < M.length := by have := HN.out; omega
        obtain ⟨a, ha⟩ := get_some hlt
        obtain ⟨b, hb0⟩ := get_some hltM
        obtain ⟨b1, o1, rfl, _, hpb1, okb1, eb1, fb1, gb1, hb1⟩ := eVal_cells (hs.later cVal_keeps hb) ha
        obtain ⟨b2, o2, rfl, _, hpb2, okb2, eb2, fb2, gb2, hb2⟩ := eVal_cells (ht.later cVal_keeps hb) hb0
        have HA : Hid (L[k]? = some a) := ha
        have HB : Hid (M[k]? = some b) := hb0
        clear hs ht ha hb0
        cases hf : eqV a b
        · have E0 : Hid (false = sl eqV L M) := sl_at HA.out HB.out hf
          obtain ⟨p1, p2, p3, p4⟩ := a
          obtain ⟨q1, q2, q3, q4⟩ := b
          have hf' : eqB p1 p2 p3 p4 q1 q2 q3 q4 = false := hf
          have lp3 : Hid (p3 < 18446744073709551616) := okb1.2.1
          have lp4 : Hid (p4 < 18446744073709551616) := okb1.2.2
          have lq3 : Hid (q3 < 18446744073709551616) := okb2.2.1
          have lq4 : Hid (q4 < 18446744073709551616) := okb2.2.2
          clear hf okb1 okb2
          have LX : Below w.heap.size w wr := hb
          go_wp2_with fail
          go_region_with (first
            | (go_at_call 111; refine (specSame_any p1 p2 p3 p4 q1 q2 q3 q4 _ lp3.out lp4.out lq3.out lq4.out).mono ?_; rintro e w2 ⟨rfl, hq⟩; have hb2 : Below wr.heap.size wr w2 := (by rw [hq]; exact bl_alloc (bl_alloc (bl_drew (Below.refl _ _)) _) _); clear hq; rw [hf']))
          all_goals
            have LZ := bl_trans LX hb2
            go_wp2_with fail
            go_ret
            exact ⟨ret_bool' E0.out, LZ⟩
        · have hst : Hid (∀ (j : Nat) a b, j < k + 1 → L[j]? = some a → M[j]? = some b → eqV a b = true) := by
            intro j a' b' hj ha' hb'
            by_cases e : j = k
            · subst e
              rw [HA.out] at ha'
              rw [HB.out] at hb'
              cases ha'
              cases hb'
              exact hf
            · exact hall.out j a' b' (by omega) ha' hb'
          obtain ⟨p1, p2, p3, p4⟩ := a
          obtain ⟨q1, q2, q3, q4⟩ := b
          have hf' : eqB p1 p2 p3 p4 q1 q2 q3 q4 = true := hf
          have lp3 : Hid (p3 < 18446744073709551616) := okb1.2.1
          have lp4 : Hid (p4 < 18446744073709551616) := okb1.2.2
          have lq3 : Hid (q3 < 18446744073709551616) := okb2.2.1
          have lq4 : Hid (q4 < 18446744073709551616) := okb2.2.2
          clear hf okb1 okb2
          have LX : Below w.heap.size w wr := hb
          go_wp2_with fail
          go_region_with (first
            | (go_at_call 111; refine (specSame_any p1 p2 p3 p4 q1 q2 q3 q4 _ lp3.out lp4.out lq3.out lq4.out).mono ?_; rintro e w2 ⟨rfl, hq⟩; have hb2 : Below wr.heap.size wr w2 := (by rw [hq]; exact bl_alloc (bl_alloc (bl_drew (Below.refl _ _)) _) _); clear hq; rw [hf']))
          all_goals
            have LZ := bl_trans LX hb2
            go_wp2_with fail
            go_roundw
            case rel => exact ⟨k + 1, by omega, by go_num, hst, LZ⟩
            case measure => simp [intOf]; omega
      · have E0 : Hid (true = sl eqV L M) := sl_all HN.out (fun j a b hj ha hb => hall.out j a b (by omega) ha hb)
        go_wp2_with fail
        go_ret
        exact ⟨ret_bool' E0.out, hb⟩
  · have t0 : ((L.length : Int) != (M.length : Int)) = true := by simp; omega
    go_enter Try.func69, Try.ntmps69
    go_wp2_with fail
    go_ret
    exact ⟨ret_bool' (sl_len hn), Below.refl _ _⟩

set_option maxHeartbeats 4000000 in
theorem equalFV_any (s t : Option Addr) (c d : Nat) (L M : List V4) (B C : Nat) (w : World) (hs : Els 4 cVal w B s L) (ht : Els 4 cVal w C t M) (hl : L.length ≤ 1048576) (hl2 : M.length ≤ 1048576) :
    Calls Try.prog 114 #[.slice s L.length c, .slice t M.length d, .func (Fn.func 115) #[] #[]] w fun e w' => e = .returned (.bool (sl eqV L M)) ∧ Below w.heap.size w w' := by
  have hal := alloc_old
  have haf := alloc_oldf
  by_cases hn : L.length = M.length
  · have t0 : ((L.length : Int) != (M.length : Int)) = false := by simp [hn]
    have HN : Hid (L.length = M.length) := hn
    clear hn
    go_enter Try.func114, Try.ntmps114
    go_wp2_with fail
    clear t0
    go_loopw [17] (fun i wr => ∃ k : Nat, k ≤ L.length ∧ i = .int .i64 k ∧ Hid (∀ (j : Nat) a b, j < k → L[j]? = some a → M[j]? = some b → eqV a b = true) ∧ Below w.heap.size w wr) (fun i _ => L.length - (intOf i).toNat)
    case atStart => exact ⟨0, Nat.zero_le _, rfl, fun j a b hj => by omega, Below.refl _ _⟩
    case round =>
      obtain ⟨k, hk, rfl, hall, hb⟩ := hrel
      by_cases hlt : k < L.length
      · have hltM : k < M.length := by have := HN.out; omega
        obtain ⟨a, ha⟩ := get_some hlt
        obtain ⟨b, hb0⟩ := get_some hltM
        obtain ⟨b1, o1, rfl, _, hpb1, okb1, eb1, fb1, gb1, hb1⟩ := eVal_cells (hs.later cVal_keeps hb) ha
        obtain ⟨b2, o2, rfl, _, hpb2, okb2, eb2, fb2, gb2, hb2⟩ := eVal_cells (ht.later cVal_keeps hb) hb0
        have HA : Hid (L[k]? = some a) := ha
        have HB : Hid (M[k]? = some b) := hb0
        clear hs ht ha hb0
        cases hf : eqV a b
        · have E0 : Hid (false = sl eqV L M) := sl_at HA.out HB.out hf
          obtain ⟨p1, p2, p3, p4⟩ := a
          obtain ⟨q1, q2, q3, q4⟩ := b
          have hf' : eqB p1 p2 p3 p4 q1 q2 q3 q4 = false := hf
          have lp3 : Hid (p3 < 18446744073709551616) := okb1.2.1
          have lp4 : Hid (p4 < 18446744073709551616) := okb1.2.2
          have lq3 : Hid (q3 < 18446744073709551616) := okb2.2.1
          have lq4 : Hid (q4 < 18446744073709551616) := okb2.2.2
          clear hf okb1 okb2
          obtain ⟨KA, KB, LX⟩ := boxVV wr #[.int .i64 p1, .int .i64 p2, .float .f64 p3, .float .f64 p4] #[.int .i64 q1, .int .i64 q2, .float .f64 q3, .float .f64 q4] 94 94
          go_wp2_with fail
          generalize hX : (wr.alloc (.cells #[.int .i64 p1, .int .i64 p2, .float .f64 p3, .float .f64 p4] 94)).alloc (.cells #[.int .i64 q1, .int .i64 q2, .float .f64 q3, .float .f64 q4] 94) = X at KA KB LX ⊢
          clear hX
          obtain ⟨x0, x1, x2, x3, x4⟩ := KA.four'
          obtain ⟨y0, y1, y2, y3, y4⟩ := KB.four'
          have LX := bl_trans hb LX
          refine (implSame_any p1 p2 p3 p4 q1 q2 q3 q4 _).mono ?_
          rintro e w2 ⟨rfl, hq⟩
          have hb2 : Below X.heap.size X w2 := by rw [hq]; exact bl_alloc (bl_alloc (Below.refl _ _) _) _
          clear hq
          rw [hf']
          have LZ := bl_trans LX hb2
          go_wp2_with fail
          go_ret
          exact ⟨ret_bool' E0.out, LZ⟩
        · have hst : Hid (∀ (j : Nat) a b, j < k + 1 → L[j]? = some a → M[j]? = some b → eqV a b = true) := by
            intro j a' b' hj ha' hb'
            by_cases e : j = k
            · subst e
              rw [HA.out] at ha'
              rw [HB.out] at hb'
              cases ha'
              cases hb'
              exact hf
            · exact hall.out j a' b' (by omega) ha' hb'
          obtain ⟨p1, p2, p3, p4⟩ := a
          obtain ⟨q1, q2, q3, q4⟩ := b
          have hf' : eqB p1 p2 p3 p4 q1 q2 q3 q4 = true := hf
          have lp3 : Hid (p3 < 18446744073709551616) := okb1.2.1
          have lp4 : Hid (p4 < 18446744073709551616) := okb1.2.2
          have lq3 : Hid (q3 < 18446744073709551616) := okb2.2.1
          have lq4 : Hid (q4 < 18446744073709551616) := okb2.2.2
          clear hf okb1 okb2
          obtain ⟨KA, KB, LX⟩ := boxVV wr #[.int .i64 p1, .int .i64 p2, .float .f64 p3, .float .f64 p4] #[.int .i64 q1, .int .i64 q2, .float .f64 q3, .float .f64 q4] 94 94
          go_wp2_with fail
          generalize hX : (wr.alloc (.cells #[.int .i64 p1, .int .i64 p2, .float .f64 p3, .float .f64 p4] 94)).alloc (.cells #[.int .i64 q1, .int .i64 q2, .float .f64 q3, .float .f64 q4] 94) = X at KA KB LX ⊢
          clear hX
          obtain ⟨x0, x1, x2, x3, x4⟩ := KA.four'
          obtain ⟨y0, y1, y2, y3, y4⟩ := KB.four'
          have LX := bl_trans hb LX
          refine (implSame_any p1 p2 p3 p4 q1 q2 q3 q4 _).mono ?_
          rintro e w2 ⟨rfl, hq⟩
          have hb2 : Below X.heap.size X w2 := by rw [hq]; exact bl_alloc (bl_alloc (Below.refl _ _) _) _
          clear hq
          rw [hf']
          have LZ := bl_trans LX hb2
          go_wp2_with fail
          go_roundw
          case rel => exact ⟨k + 1, by omega, by go_num, hst, LZ⟩
          case measure => simp [intOf]; omega
      · have E0 : Hid (true = sl eqV L M) := sl_all HN.out (fun j a b hj ha hb => hall.out j a b (by omega) ha hb)
        go_wp2_with fail
        go_ret
        exact ⟨ret_bool' E0.out, hb⟩
  · have t0 : ((L.length : Int) != (M.length : Int)) = true := by simp; omega
    go_enter Try.func114, Try.ntmps114
    go_wp2_with fail
    go_ret
    exact ⟨ret_bool' (sl_len hn), Below.refl _ _⟩

set_option maxHeartbeats 1000000 in
theorem valsSame_any (s t : Option Addr) (c d : Nat) (L M : List V4) (B C : Nat) (w : World) (hs : Els 4 cVal w B s L) (ht : Els 4 cVal w C t M) (hl : L.length ≤ 1048576) (hl2 : M.length ≤ 1048576) :
    Calls Try.prog 74 #[.slice s L.length c, .slice t M.length d] w fun e w' => e = .returned (.bool (sVals L M)) ∧ Below w.heap.size w w' := by
  go_enter Try.func74, Try.ntmps74
  go_wp2_with fail
  refine (equalFV_any s t c d L M B C _ hs ht hl hl2).mono ?_
  rintro e w1 ⟨rfl, hb1⟩
  go_wp2_with fail
  go_ret
  exact ⟨rfl, hb1⟩

set_option maxHeartbeats 4000000 in
theorem equalFVS_any (s t : Option Addr) (c d : Nat) (L M : List (List V4)) (B C : Nat) (w : World) (hs : Els 1 cVals w B s L) (ht : Els 1 cVals w C t M) (hl : L.length ≤ 1048576) (hl2 : M.length ≤ 1048576) (hk1 : ∀ l ∈ L, l.length ≤ 1048576) (hk2 : ∀ l ∈ M, l.length ≤ 1048576) :
    Calls Try.prog 113 #[.slice s L.length c, .slice t M.length d, .func (Fn.func 74) #[] #[]] w fun e w' => e = .returned (.bool (sl sVals L M)) ∧ Below w.heap.size w w' := by
  have hal := alloc_old
  have haf := alloc_oldf
  have HL1 : Hid (∀ l ∈ L, l.length ≤ 1048576) := hk1
  have HL2 : Hid (∀ l ∈ M, l.length ≤ 1048576) := hk2
  clear hk1 hk2
  by_cases hn : L.length = M.length
  · have t0 : ((L.length : Int) != (M.length : Int)) = false := by simp [hn]
    have HN : Hid (L.length = M.length) := hn
    clear hn
    go_enter Try.func113, Try.ntmps113
    go_wp2_with fail
    clear t0
    go_loopw [17] (fun i wr => ∃ k : Nat, k ≤ L.length ∧ i = .int .i64 k ∧ Hid (∀ (j : Nat) a b, j < k → L[j]? = some a → M[j]? = some b → sVals a b = true) ∧ Below w.heap.size w wr) (fun i _ => L.length - (intOf i).toNat)
    case atStart => exact ⟨0, Nat.zero_le _, rfl, fun j a b hj => by omega, Below.refl _ _⟩
    case round =>
      obtain ⟨k, hk, rfl, hall, hb⟩ := hrel
      by_cases hlt : k < L.length
      · have hltM : k < M.length := by have := HN.out; omega
        obtain ⟨a, ha⟩ := get_some hlt
        obtain ⟨b, hb0⟩ := get_some hltM
        obtain ⟨b1, o1, rfl, _, hpb1, sb1, cb1, eb1, fb1⟩ := eVals_cells (hs.later cVals_keeps hb) ha
        have kb1 := HL1.out _ (List.mem_of_getElem? ha)
        obtain ⟨b2, o2, rfl, _, hpb2, sb2, cb2, eb2, fb2⟩ := eVals_cells (ht.later cVals_keeps hb) hb0
        have kb2 := HL2.out _ (List.mem_of_getElem? hb0)
        have HA : Hid (L[k]? = some a) := ha
        have HB : Hid (M[k]? = some b) := hb0
        clear hs ht ha hb0
        cases hf : sVals a b
        · have E0 : Hid (false = sl sVals L M) := sl_at HA.out HB.out hf
          have F1 : Hid (Els 4 cVal wr B sb1 a) := fb1
          have F2 : Hid (Els 4 cVal wr C sb2 b) := fb2
          clear fb1 fb2
          go_wp2_with fail
          refine (valsSame_any sb1 sb2 cb1 cb2 a b B C _ F1.out F2.out kb1 kb2).mono ?_
          rintro e w2 ⟨rfl, hb2⟩
          rw [hf]
          have LZ := bl_trans hb hb2
          go_wp2_with fail
          go_ret
          exact ⟨ret_bool' E0.out, LZ⟩
        · have hst : Hid (∀ (j : Nat) a b, j < k + 1 → L[j]? = some a → M[j]? = some b → sVals a b = true) := by
            intro j a' b' hj ha' hb'
            by_cases e : j = k
            · subst e
              rw [HA.out] at ha'
              rw [HB.out] at hb'
              cases ha'
              cases hb'
              exact hf
            · exact hall.out j a' b' (by omega) ha' hb'
          have F1 : Hid (Els 4 cVal wr B sb1 a) := fb1
          have F2 : Hid (Els 4 cVal wr C sb2 b) := fb2
          clear fb1 fb2
          go_wp2_with fail
          refine (valsSame_any sb1 sb2 cb1 cb2 a b B C _ F1.out F2.out kb1 kb2).mono ?_
          rintro e w2 ⟨rfl, hb2⟩
          rw [hf]
          have LZ := bl_trans hb hb2
          go_wp2_with fail
          go_roundw
          case rel => exact ⟨k + 1, by omega, by go_num, hst, LZ⟩
          case measure => simp [intOf]; omega
      · have E0 : Hid (true = sl sVals L M) := sl_all HN.out (fun j a b hj ha hb => hall.out j a b (by omega) ha hb)
        go_wp2_with fail
        go_ret
        exact ⟨ret_bool' E0.out, hb⟩
  · have t0 : ((L.length : Int) != (M.length : Int)) = true := by simp; omega
    go_enter Try.func113, Try.ntmps113
    go_wp2_with fail
    go_ret
    exact ⟨ret_bool' (sl_len hn), Below.refl _ _⟩
end Go.Proofs.Ytmhiddepddgfgab
