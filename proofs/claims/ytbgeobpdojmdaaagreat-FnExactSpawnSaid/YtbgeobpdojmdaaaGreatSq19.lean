import Derived.Test.YtbgeobpdojmdaaaGreatSq13
namespace Go.Proofs.YtbgeobpdojmdaaaGreat
set_option linter.unusedVariables false
set_option linter.unusedSimpArgs false
section
open Go.RowKit
def sl {α : Type} (f : α → α → Bool) (L M : List α) : Bool := decide (L.length = M.length) && (L.zip M).all (fun p => f p.1 p.2)
theorem sl_len {α : Type} {f : α → α → Bool} {L M : List α} (h : ¬ L.length = M.length) : false = sl f L M := by simp [sl, h]
theorem sl_at {α : Type} {f : α → α → Bool} {L M : List α} {j : Nat} {a b : α} (ha : L[j]? = some a) (hb : M[j]? = some b) (h : f a b = false) : false = sl f L M := by
 have hz : (L.zip M)[j]? = some (a, b) := by rw [List.getElem?_zip_eq_some]; exact ⟨ha, hb⟩
 have hm := List.mem_of_getElem? hz
 cases hs : sl f L M
 ·
  rfl
 simp only [sl, Bool.and_eq_true, List.all_eq_true] at hs
 have := hs.2 _ hm
 simp only at this
 rw [h] at this
 cases this
theorem sl_all {α : Type} {f : α → α → Bool} {L M : List α} (hn : L.length = M.length) (h : ∀ (j : Nat) a b, j < L.length → L[j]? = some a → M[j]? = some b → f a b = true) : true = sl f L M := by
 symm
 simp only [sl, Bool.and_eq_true, List.all_eq_true, decide_eq_true_eq]
 refine ⟨hn, fun p hp => ?_⟩
 obtain ⟨j, hj⟩ := List.mem_iff_getElem?.1 hp
 obtain ⟨a, b⟩ := p
 rw [List.getElem?_zip_eq_some] at hj
 exact h j a b (List.getElem?_eq_some_iff.1 hj.1).1 hj.1 hj.2
def eqI (a b : Int) : Bool := a == b
set_option maxHeartbeats 4000000 in
theorem equalI_any (s t : Option Addr) (c d : Nat) (L M : List Int) (B C : Nat) (w : World) (hs : Els 1 cInt w B s L) (ht : Els 1 cInt w C t M) (hl : L.length ≤ 1048576) (hl2 : M.length ≤ 1048576) :
  Calls Tryz.prog 122 #[.slice s L.length c, .slice t M.length d] w fun e w' => e = .returned (.bool (sl eqI L M)) ∧ Below w.heap.size w w' := by
 have hal := alloc_old
 have haf := alloc_oldf
 by_cases hn : L.length = M.length
 ·
  have t0 : ((L.length : Int) != (M.length : Int)) = false := by simp [hn]
  have HN : Hid (L.length = M.length) := hn
  clear hn; go_enter Tryz.func122, Tryz.ntmps122
  go_wp2_with fail; clear t0; go_loopw [13] (fun i wr => ∃ k : Nat, k ≤ L.length ∧ i = .int .i64 k ∧ Hid (∀ (j : Nat) a b, j < k → L[j]? = some a → M[j]? = some b → eqI a b = true) ∧ Below w.heap.size w wr) (fun i _ => L.length - (intOf i).toNat)
  case atStart => exact ⟨0, Nat.zero_le _, rfl, fun j a b hj => by omega, Below.refl _ _⟩
  obtain ⟨k, hk, rfl, hall, hb⟩ := hrel
  by_cases hlt : k < L.length
  ·
   have hltM : k < M.length := by have := HN.out; omega
   obtain ⟨a, ha⟩ := get_some hlt
   obtain ⟨b, hb0⟩ := get_some hltM
   obtain ⟨b1, o1, rfl, _, hpb1, eb1⟩ := eInt_cells (hs.later cInt_keeps hb) ha
   obtain ⟨b2, o2, rfl, _, hpb2, eb2⟩ := eInt_cells (ht.later cInt_keeps hb) hb0
   have HA : Hid (L[k]? = some a) := ha
   have HB : Hid (M[k]? = some b) := hb0
   clear hs ht ha hb0; cases hf : eqI a b
   ·
    have E0 : Hid (false = sl eqI L M) := sl_at HA.out HB.out hf
    have g : (a != b) = true := by simp [eqI] at hf; simp [hf]
    clear hf; go_wp2_with fail; go_region
    all_goals
     go_wp2_with fail; go_ret; refine ⟨ret_bool' E0.out, ?_⟩
     exact blq
   have hst : Hid (∀ (j : Nat) a b, j < k + 1 → L[j]? = some a → M[j]? = some b → eqI a b = true) := by
    intro j a' b' hj ha' hb'
    by_cases e : j = k
    ·
     subst e
     rw [HA.out] at ha'
     rw [HB.out] at hb'
     cases ha'
     cases hb'
     exact hf
    exact hall.out j a' b' (by omega) ha' hb'
   have g : a = b := by simpa [eqI] using hf
   subst g
   clear hf; go_wp2_with fail; go_region
   all_goals
    go_wp2_with fail; go_roundw
    case rel =>
     refine ⟨k + 1, by omega, by go_num, hst, ?_⟩
     exact blq
    case measure => simp [intOf]; omega
  have E0 : Hid (true = sl eqI L M) := sl_all HN.out (fun j a b hj ha hb => hall.out j a b (by omega) ha hb)
  go_wp2_with fail; go_ret; exact ⟨ret_bool' E0.out, hb⟩
 have t0 : ((L.length : Int) != (M.length : Int)) = true := by simp; omega
 go_enter Tryz.func122, Tryz.ntmps122
 go_wp2_with fail; go_ret; exact ⟨ret_bool' (sl_len hn), Below.refl _ _⟩
set_option maxHeartbeats 4000000 in
theorem l4Equal_any (s t : Option Addr) (c d : Nat) (L M : List Int) (B C : Nat) (w : World) (hs : Els 1 cInt w B s L) (ht : Els 1 cInt w C t M) (hl : L.length ≤ 1048576) (hl2 : M.length ≤ 1048576) :
  Calls Tryz.prog 57 #[.slice s L.length c, .slice t M.length d] w fun e w' => e = .returned (.bool (sl eqI L M)) ∧ Below w.heap.size w w' := by
 have hal := alloc_old
 have haf := alloc_oldf
 by_cases hn : L.length = M.length
 ·
  have t0 : ((L.length : Int) != (M.length : Int)) = false := by simp [hn]
  have HN : Hid (L.length = M.length) := hn
  clear hn; go_enter Tryz.func57, Tryz.ntmps57
  go_wp2_with fail; clear t0; go_loopw [5] (fun i wr => ∃ k : Nat, k ≤ L.length ∧ i = .int .i64 k ∧ Hid (∀ (j : Nat) a b, j < k → L[j]? = some a → M[j]? = some b → eqI a b = true) ∧ Below w.heap.size w wr) (fun i _ => L.length - (intOf i).toNat)
  case atStart => exact ⟨0, Nat.zero_le _, rfl, fun j a b hj => by omega, Below.refl _ _⟩
  obtain ⟨k, hk, rfl, hall, hb⟩ := hrel
  by_cases hlt : k < L.length
  ·
   have hltM : k < M.length := by have := HN.out; omega
   obtain ⟨a, ha⟩ := get_some hlt
   obtain ⟨b, hb0⟩ := get_some hltM
   obtain ⟨b1, o1, rfl, _, hpb1, eb1⟩ := eInt_cells (hs.later cInt_keeps hb) ha
   obtain ⟨b2, o2, rfl, _, hpb2, eb2⟩ := eInt_cells (ht.later cInt_keeps hb) hb0
   have HA : Hid (L[k]? = some a) := ha
   have HB : Hid (M[k]? = some b) := hb0
   clear hs ht ha hb0; cases hf : eqI a b
   ·
    have E0 : Hid (false = sl eqI L M) := sl_at HA.out HB.out hf
    have g : (a != b) = true := by simp [eqI] at hf; simp [hf]
    clear hf; go_wp2_with fail; go_region
    all_goals
     go_wp2_with fail; go_ret; refine ⟨ret_bool' E0.out, ?_⟩
     exact blq
   have hst : Hid (∀ (j : Nat) a b, j < k + 1 → L[j]? = some a → M[j]? = some b → eqI a b = true) := by
    intro j a' b' hj ha' hb'
    by_cases e : j = k
    ·
     subst e
     rw [HA.out] at ha'
     rw [HB.out] at hb'
     cases ha'
     cases hb'
     exact hf
    exact hall.out j a' b' (by omega) ha' hb'
   have g : a = b := by simpa [eqI] using hf
   subst g
   clear hf; go_wp2_with fail; go_region
   all_goals
    go_wp2_with fail; go_roundw
    case rel =>
     refine ⟨k + 1, by omega, by go_num, hst, ?_⟩
     exact blq
    case measure => simp [intOf]; omega
  have E0 : Hid (true = sl eqI L M) := sl_all HN.out (fun j a b hj ha hb => hall.out j a b (by omega) ha hb)
  go_wp2_with fail; go_ret; exact ⟨ret_bool' E0.out, hb⟩
 have t0 : ((L.length : Int) != (M.length : Int)) = true := by simp; omega
 go_enter Tryz.func57, Tryz.ntmps57
 go_wp2_with fail; go_ret; exact ⟨ret_bool' (sl_len hn), Below.refl _ _⟩
end
section
open Go.RowKit Go.Maps Go.WideMaps
set_option maxRecDepth 100000
theorem sl_eqI (L M : List Int) : sl eqI L M = decide (L = M) := by
 cases h : sl eqI L M
 ·
  symm
  rw [decide_eq_false_iff_not]
  intro e
  subst e
  have : true = sl eqI L L := sl_all rfl (fun j a b hj ha hb => by rw [ha] at hb; cases hb; simp [eqI])
  rw [h] at this
  cases this
 symm
 rw [decide_eq_true_eq]
 simp only [sl, Bool.and_eq_true, decide_eq_true_eq, List.all_eq_true] at h
 apply List.ext_getElem h.1
 intro i h1 h2
 have hz : (L.zip M)[i]? = some (L[i], M[i]) := by rw [List.getElem?_zip_eq_some]; exact ⟨List.getElem?_eq_getElem h1, List.getElem?_eq_getElem h2⟩
 have := h.2 _ (List.mem_of_getElem? hz)
 simpa [eqI] using this
def hasC (T : List Tab) (cols : List Int) : Bool := T.any (fun t => sl eqI t.cols cols)
set_option maxHeartbeats 2000000 in
theorem tableWith_any (s : Option Addr) (c : Nat) (T : List Tab) (n : Nat) (sc : Option Addr) (cc : Nat) (cols : List Int) (Bs Bc : Nat) (w : World) (hn : T.length = n) (hT : Els 3 cTab w Bs s T) (hc : Els 1 cInt w Bc sc cols) (hk : kTabs T) (hl : cols.length ≤ 1048576) :
  Calls Tryz.prog 100 #[.slice s n c, .slice sc cols.length cc] w fun e w' => (∃ r : Int, e = .returned (.int .i64 r) ∧ decide (r ≥ 0) = hasC T cols) ∧ Below w.heap.size w w' := by
 subst hn
 have hal := alloc_old
 have haf := alloc_oldf
 obtain ⟨kl, kt⟩ := hk
 have KT : Hid (∀ t ∈ T, kTab t) := kt
 have H1 : Hid (Els 3 cTab w Bs s T) := hT
 have H2 : Hid (Els 1 cInt w Bc sc cols) := hc
 clear kt hT hc; go_enter Tryz.func100, Tryz.ntmps100
 go_wp2_with fail; go_loopw [9] (fun i wr => ∃ k : Nat, k ≤ T.length ∧ i = .int .i64 k ∧ Hid (Below w.heap.size w wr ∧ ∀ (j : Nat) t, j < k → T[j]? = some t → sl eqI t.cols cols = false)) (fun i _ => T.length - (intOf i).toNat)
 case atStart => exact ⟨0, Nat.zero_le _, rfl, Below.refl _ _, fun j t hj => absurd hj (Nat.not_lt_zero _)⟩
 obtain ⟨k, hk, rfl, hN⟩ := hrel
 by_cases hlt : k < T.length
 ·
  obtain ⟨t, ha⟩ := get_some hlt
  obtain ⟨b, o, rfl, _, hp, s1, d1, s2, d2, s3, d3, e1, e2, e3, f1, f2, f3⟩ := eTab_cells (H1.out.later cTab_keeps hN.out.1) ha
  have HA : Hid (T[k]? = some t) := ha
  have hkt := (KT.out t (List.mem_of_getElem? ha)).1
  have F1 : Hid (Els 1 cInt wr Bs s1 t.cols) := f1
  clear ha f1 f2 f3; go_wp2_with fail; refine (equalI_any s1 sc d1 cc t.cols cols Bs Bc _ (F1.out.later cInt_keeps (bl_alloc (Below.refl _ _) _)) (H2.out.later cInt_keeps (bl_alloc hN.out.1 _)) hkt hl).mono ?_
  rintro e w2 ⟨rfl, hb2⟩
  have L2 : Hid (Below w.heap.size w w2) := bl_trans (bl_alloc hN.out.1 _) hb2
  clear hb2; cases hs : sl eqI t.cols cols
  ·
   go_wp2_with fail; go_roundw
   case rel => exact ⟨k + 1, by omega, by go_num, L2.out, fun j u hj hu => by
    by_cases hjk : j = k
    ·
     subst hjk
     rw [HA.out] at hu
     cases hu
     exact hs
    exact hN.out.2 j u (by omega) hu⟩
   case measure => simp [intOf]; omega
  have HR : Hid (decide ((k : Int) ≥ 0) = hasC T cols) := by
   show _ = _
   have : hasC T cols = true := List.any_eq_true.2 ⟨t, List.mem_of_getElem? HA.out, hs⟩
   rw [this]
   simp
  go_wp2_with fail; go_ret; exact ⟨⟨_, rfl, HR.out⟩, L2.out⟩
 have HR : Hid (decide ((-1 : Int) ≥ 0) = hasC T cols) := by
  show _ = _
  have : hasC T cols = false := by
   rw [hasC, List.any_eq_false]
   intro t ht
   obtain ⟨j, hj, rfl⟩ := List.getElem_of_mem ht
   simp [hN.out.2 j _ (by omega) (List.getElem?_eq_getElem hj)]
  rw [this]
  rfl
 go_wp2_with fail; go_ret; exact ⟨⟨_, rfl, HR.out⟩, hN.out.1⟩
end
end Go.Proofs.YtbgeobpdojmdaaaGreat
