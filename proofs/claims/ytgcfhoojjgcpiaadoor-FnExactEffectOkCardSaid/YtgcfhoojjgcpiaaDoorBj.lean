import Derived.Test.YtgcfhoojjgcpiaaDoorAi
import Derived.Test.YtgcfhoojjgcpiaaDoorTz
import Derived.Test.YtgcfhoojjgcpiaaDoorKg
namespace Go.Proofs.YtgcfhoojjgcpiaaDoor
open Go.RowKit
set_option linter.unusedVariables false
set_option linter.unusedSimpArgs false

theorem Hid.mk2 {p : Prop} (h : p) : Hid p := h
/-- the numbers of a list that are below n, as a set. -/
def setL (L : List Int) (n : Nat) : List Bool := (List.range 12).map fun (j : Nat) => decide ((j : Int) ∈ L ∧ j < n)
/-- what stands in a set. -/
def numK (X : List Bool) (k : Nat) : List Int := ((List.range k).filter fun j => X.getD j false).map Int.ofNat
theorem setL_len (L : List Int) (n : Nat) : (setL L n).length = 12 := by simp [setL]
theorem setL_nil (n : Nat) : setL [] n = List.replicate 12 false := by simp [setL]; rfl
theorem setL_at (L : List Int) (n j : Nat) (h : j < 12) : (setL L n).getD j false = decide ((j : Int) ∈ L ∧ j < n) := by simp [setL, h]
theorem setL_in {L : List Int} {n k m : Nat} (hx : L[k]? = some (m : Int)) (hm : m < n) (hn : n ≤ 12) : (setL (L.take k) n).set m true = setL (L.take (k + 1)) n := by
  apply List.ext_getElem (by simp [setL_len])
  intro j h1 h2
  have hj : j < 12 := by simpa [setL_len] using h2
  by_cases e : m = j
  · subst e
    have : ((m : Int) ∈ L.take (k + 1) ∧ m < n) := ⟨(mem_take_succ hx).2 (Or.inr rfl), hm⟩
    simp [setL, this]
  · have : ((j : Int) ∈ L.take (k + 1) ∧ j < n) ↔ ((j : Int) ∈ L.take k ∧ j < n) := by
      rw [mem_take_succ hx]
      constructor
      · rintro ⟨h | h, g⟩
        · exact ⟨h, g⟩
        · exact absurd h (by omega)
      · exact fun ⟨h, g⟩ => ⟨Or.inl h, g⟩
    simp only [setL, List.getElem_set, e, if_false, List.getElem_map, List.getElem_range, decide_eq_decide]
    exact this.symm
theorem setL_out {L : List Int} {n k : Nat} {x : Int} (hx : L[k]? = some x) (hm : ¬ (0 ≤ x ∧ x < (n : Int))) : setL (L.take k) n = setL (L.take (k + 1)) n := by
  unfold setL
  apply List.map_congr_left
  intro j hj
  congr 1
  rw [eq_iff_iff, mem_take_succ hx]
  constructor
  · exact fun ⟨h, g⟩ => ⟨Or.inl h, g⟩
  · rintro ⟨h | h, g⟩
    · exact ⟨h, g⟩
    · exact absurd (show 0 ≤ x ∧ x < (n : Int) by omega) hm
theorem numK_succ (X : List Bool) (k : Nat) : numK X (k + 1) = numK X k ++ (if X.getD k false then [(k : Int)] else []) := by
  unfold numK
  rw [List.range_succ, List.filter_append, List.map_append]
  congr 1
  have h2 : List.filter (fun j => X.getD j false) [k] = if X.getD k false then [k] else [] := by cases h : X.getD k false <;> simp only [List.filter, h] <;> rfl
  rw [h2]
  cases h : X.getD k false <;> simp
theorem numK_len (X : List Bool) (k : Nat) : (numK X k).length ≤ k := by
  unfold numK
  rw [List.length_map]
  exact Nat.le_trans (List.length_filter_le _ _) (by simp)
theorem numK_asc (X : List Bool) (k : Nat) : Asc (numK X k) := by
  unfold numK Asc
  rw [List.pairwise_map]
  refine (List.Pairwise.filter _ List.pairwise_lt_range).imp ?_
  intro a b h
  simp only [Int.ofNat_eq_natCast]
  omega
theorem numK_mem (X : List Bool) (k : Nat) (x : Int) : x ∈ numK X k ↔ ∃ j, j < k ∧ X.getD j false = true ∧ x = (j : Int) := by
  unfold numK
  simp only [List.mem_map, List.mem_filter, List.mem_range, Int.ofNat_eq_natCast]
  constructor
  · rintro ⟨j, ⟨h1, h2⟩, rfl⟩; exact ⟨j, h1, h2, rfl⟩
  · rintro ⟨j, h1, h2, rfl⟩; exact ⟨j, ⟨h1, h2⟩, rfl⟩
theorem ris_asc {L : List Int} {n : Nat} (h : risB L n = true) : Asc L ∧ ∀ x ∈ L, 0 ≤ x ∧ x < (n : Int) := by
  have hr : ∀ j a, L[j]? = some a → (0 ≤ a ∧ a ≤ (n : Int) - 1) ∧ ∀ p, 0 < j → L[j - 1]? = some p → p < a := by
    intro j a ha
    have hj : j < L.length := (List.getElem?_eq_some_iff.1 ha).1
    simp only [risB, List.all_eq_true, List.mem_range] at h
    have h1 := h j hj
    simp only [risA, ha, Option.elim_some, Bool.and_eq_true, decide_eq_true_eq, Bool.not_eq_true'] at h1
    refine ⟨h1.1, fun p h0 hp => ?_⟩
    have h2 := h1.2
    rw [hp] at h2
    simp [h0] at h2
    omega
  refine ⟨?_, fun x hx => ?_⟩
  · unfold Asc
    rw [List.pairwise_iff_getElem]
    have key : ∀ d i, (hi : i + d + 1 < L.length) → L[i] < L[i + d + 1] := by
      intro d
      induction d with
      | zero =>
        intro i hi
        exact (hr (i + 0 + 1) _ (List.getElem?_eq_getElem hi)).2 _ (by omega) (by simp)
      | succ d ih =>
        intro i hi
        have h1 := ih i (by omega)
        have h2 := (hr (i + (d + 1) + 1) _ (List.getElem?_eq_getElem hi)).2 L[i + d + 1] (by omega) (by rw [List.getElem?_eq_some_iff]; exact ⟨by omega, rfl⟩)
        omega
    intro i j hi hj hij
    obtain ⟨d, rfl⟩ : ∃ d, j = i + d + 1 := ⟨j - i - 1, by omega⟩
    exact key d i hj
  · obtain ⟨j, hj⟩ := List.mem_iff_getElem?.1 hx
    have := (hr j x hj).1
    omega
theorem asc_ris {L : List Int} {n : Nat} (h : Asc L) (g : ∀ x ∈ L, 0 ≤ x ∧ x < (n : Int)) : true = risB L n := by
  refine risB_all fun j hj => ?_
  obtain ⟨a, ha⟩ := get_some hj
  have h1 := g a (List.mem_of_getElem? ha)
  have h0 : ¬ (0 < j ∧ ∃ p, L[j - 1]? = some p ∧ p ≥ a) := by
    rintro ⟨h0, p, hp, hpa⟩
    obtain ⟨x1, e1⟩ := List.getElem?_eq_some_iff.1 hp
    obtain ⟨x2, e2⟩ := List.getElem?_eq_some_iff.1 ha
    have := List.pairwise_iff_getElem.1 h (j - 1) j x1 x2 (by omega)
    omega
  simp only [risA, ha, Option.elim_some, Bool.and_eq_true, decide_eq_true_eq, Bool.not_eq_true', Bool.and_eq_false_iff, decide_eq_false_iff_not]
  refine ⟨by omega, ?_⟩
  by_cases hj0 : 0 < j
  · right
    obtain ⟨p, hp⟩ := get_some (L := L) (k := j - 1) (by omega)
    rw [hp]
    simp only [Option.elim_some, decide_eq_false_iff_not]
    exact fun q => h0 ⟨hj0, p, hp, q⟩
  · left; exact hj0
/-- told again by its set: it is rising. -/
theorem told_again (L : List Int) (n : Nat) (hn : n ≤ 12) : sl eqI (numK (setL L n) 12) L = risB L n := by
  have hs : sl eqI (numK (setL L n) 12) L = decide (numK (setL L n) 12 = L) := by
    rw [Bool.eq_iff_iff, decide_eq_true_eq]
    constructor
    · intro h
      simp only [sl, Bool.and_eq_true, List.all_eq_true, decide_eq_true_eq] at h
      obtain ⟨h1, h2⟩ := h
      apply List.ext_getElem h1
      intro i a b
      have := h2 ((numK (setL L n) 12)[i], L[i]) (by rw [List.mem_iff_getElem]; exact ⟨i, by simp; omega, by simp⟩)
      simpa [eqI] using this
    · intro h
      rw [h]
      exact (sl_all rfl (fun j a b _ h1 h2 => by rw [h1] at h2; cases h2; simp [eqI])).symm
  have hm : ∀ x, x ∈ numK (setL L n) 12 ↔ x ∈ L ∧ 0 ≤ x ∧ x < (n : Int) := by
    intro x
    rw [numK_mem]
    constructor
    · rintro ⟨j, h1, h2, rfl⟩
      rw [setL_at _ _ _ h1, decide_eq_true_eq] at h2
      exact ⟨h2.1, by omega, by omega⟩
    · rintro ⟨h1, h2, h3⟩
      refine ⟨x.toNat, by omega, ?_, by omega⟩
      rw [setL_at _ _ _ (by omega), decide_eq_true_eq, show ((x.toNat : Nat) : Int) = x by omega]
      exact ⟨h1, by omega⟩
  rw [hs]
  cases hr : risB L n
  · rw [decide_eq_false_iff_not]
    intro e
    have h1 := numK_asc (setL L n) 12
    rw [e] at h1
    have := asc_ris h1 (n := n) (fun x hx => by rw [← e] at hx; exact ((hm x).1 hx).2)
    rw [hr] at this
    cases this
  · rw [decide_eq_true_eq]
    obtain ⟨h1, h2⟩ := ris_asc hr
    exact asc_unique (numK_asc _ _) h1 (fun x => by rw [hm x]; exact ⟨fun q => q.1, fun q => ⟨q, h2 x q⟩⟩)

theorem Tryd.zeroNS : #[.bool false, .bool false, .bool false, .bool false, .bool false, .bool false, .bool false, .bool false, .bool false, .bool false, .bool false, .bool false] = tch (List.replicate 12 false) := rfl
theorem load_ns (xs : List Bool) (hx : xs.length = 12) (w : World) (n : Nat) (h : Blk w n (tch xs) 49) :
    (loadVar 49 ⟨n, 0, none⟩).run Tryd.prog w = .ok (.agg (tch xs)) w :=
  run_loadVar_row w n _ _ _ _ _ h Tryd.underlying49 rfl (by rw [Tryd.infoNS, tch_size, hx])
set_option maxRecDepth 100000 in
set_option maxHeartbeats 4000000 in
theorem setOf_any (s : Option Addr) (c : Nat) (L : List Int) (n : Nat) (B : Nat) (w : World) (hL : Els 1 cInt w B s L) (hl : L.length ≤ 1048576) (hn : n ≤ 12) :
    Calls Tryd.prog 20 #[.slice s L.length c, .int .i64 n] w fun e w' => e = .returned (.agg (tch (setL L n))) ∧ Below w.heap.size w w' := by
  have HL : Hid (Els 1 cInt w B s L) := hL
  clear hL
  obtain ⟨k0, k1, LX⟩ := blkTwoE w (tch (List.replicate 12 false)) (tch (List.replicate 12 false)) 49 49
  go_enter Tryd.func20, Tryd.ntmps20
  go_wp2_with fail
  rw [Tryd.zeroNS]
  generalize hX : (w.alloc (.cells (tch (List.replicate 12 false)) 49)).alloc (.cells (tch (List.replicate 12 false)) 49) = X at k0 k1 LX ⊢
  clear hX
  go_loopw [10] (fun i wr => ∃ k : Nat, k ≤ L.length ∧ i = .int .i64 k ∧ Hid (Blk wr w.heap.size (tch (List.replicate 12 false)) 49) ∧ Hid (Blk wr (w.heap.size + 1) (tch (setL (L.take k) n)) 49) ∧ Hid (Below w.heap.size w wr)) (fun i _ => L.length - (intOf i).toNat)
  case atStart => exact ⟨0, Nat.zero_le _, rfl, k0, (by rw [List.take_zero, setL_nil]; exact k1), LX⟩
  case round =>
    clear k0 k1 LX
    obtain ⟨k, hk, rfl, k0, k1, hb⟩ := hrel
    by_cases hlt : k < L.length
    · obtain ⟨x, hx⟩ := get_some hlt
      obtain ⟨b1, o1, rfl, _, hp1, e1⟩ := eInt_cells (HL.out.later cInt_keeps hb.out) hx
      by_cases hin : 0 ≤ x ∧ x < (n : Int)
      · obtain ⟨m, rfl⟩ : ∃ m : Nat, x = (m : Int) := ⟨x.toNat, by omega⟩
        have hm : m < n := by omega
        have HS := Hid.mk2 (setL_in hx hm hn)
        have c1 : wr.cell? ⟨w.heap.size + 1, m, none⟩ = some (.bool ((setL (L.take k) n).getD m false)) := by rw [k1.out.cell, tch_cell (by rw [setL_len]; omega)]
        have f1 : wr.frozen? ⟨w.heap.size + 1, m, none⟩ = false := k1.out.frozen _
        have K0 : Hid (Blk (wr.setCell ⟨w.heap.size + 1, m, none⟩ (.bool true)) w.heap.size (tch (List.replicate 12 false)) 49) := k0.out.other (by omega) _ _
        have K1 : Hid (Blk (wr.setCell ⟨w.heap.size + 1, m, none⟩ (.bool true)) (w.heap.size + 1) (tch (setL (L.take (k + 1)) n)) 49) := by rw [← HS.out, ← tch_set]; exact k1.out.set _ _
        have B1 : Hid (Below w.heap.size w (wr.setCell ⟨w.heap.size + 1, m, none⟩ (.bool true))) := hb.out.setCell (by simp) _
        have d1 : decide ((m : Int) < (n : Int)) = true := by simp; omega
        have d0 : decide ((m : Int) ≥ 0) = true := by simp
        have d2 : (m : Int) < 12 := by omega
        clear k0 k1 hb hx HS hin
        go_wp2_with fail
        go_roundw
        case rel => exact ⟨k + 1, by omega, by go_num, K0, K1, B1⟩
        case measure => simp [intOf]; omega
      · have HS := Hid.mk2 (setL_out hx hin)
        have K1 : Hid (Blk wr (w.heap.size + 1) (tch (setL (L.take (k + 1)) n)) 49) := by rw [← HS.out]; exact k1.out
        clear k1 hx HS
        by_cases h0 : 0 ≤ x
        · have d1 : decide (x < (n : Int)) = false := by simp; omega
          have d0 : decide (x ≥ 0) = true := by simp; omega
          clear hin
          go_wp2_with fail
          go_roundw
          case rel => exact ⟨k + 1, by omega, by go_num, k0, K1, hb⟩
          case measure => simp [intOf]; omega
        · have d0 : decide (x ≥ 0) = false := by simp; omega
          clear hin
          go_wp2_with fail
          go_roundw
          case rel => exact ⟨k + 1, by omega, by go_num, k0, K1, hb⟩
          case measure => simp [intOf]; omega
    · have hE : setL (L.take k) n = setL L n := by rw [List.take_of_length_le (by omega)]
      rw [hE] at k1
      have hk := setRow_heap wr w.heap.size _ (tch (setL L n)) _ _ k0.out
      have hbX := below_setRow hb.out (Nat.le_refl w.heap.size) (tch (setL L n))
      go_wp2_with (first
        | refine wpList_load_run rfl 49 (.tmp 5) rfl _ rfl _ (load_ns _ (setL_len _ _) _ _ k1.out) ?_
        | refine wpList_store_row rfl 49 (.tmp 4) (.tmp 24) rfl _ (tch (setL L n)) rfl rfl _ _ k0.out (by rw [Tryd.infoNS, tch_size, setL_len]) (by simp [tch_size, setL_len]) (tch_one _) ?_)
      refine bodyPost_ret (v := .agg (tch (setL L n))) (results_cell_row (P := Tryd.prog) Tryd.results20 _ _ w.heap.size _ _ _ _ rfl hk Tryd.underlying49 rfl (by rw [Tryd.infoNS, tch_size, setL_len])) rfl ⟨rfl, hbX⟩

set_option maxRecDepth 100000 in
set_option maxHeartbeats 4000000 in
theorem numbers_any (X : List Bool) (hX : X.length = 12) (w : World) :
    Calls Tryd.prog 23 #[.agg (tch X)] w fun e w' => (∃ s c, e = .returned (.slice s (numK X 12).length c) ∧ OI w' w.heap.size (.slice s (numK X 12).length c) (numK X 12)) ∧ Below w.heap.size w w' := by
  have hld := load_ns X hX _ _ (Blk.new w (tch X) 49)
  have LX : Hid (Below w.heap.size w (w.alloc (.cells (tch X) 49))) := bl_alloc (Below.refl _ _) _
  go_enter Tryd.func23, Tryd.ntmps23
  go_wp2_with (refine wpList_load_run rfl 49 (.tmp 1) rfl _ rfl _ hld ?_)
  clear hld
  generalize w.alloc (.cells (tch X) 49) = Y at LX ⊢
  go_loopw [3, 7] (fun v i wr => ∃ (k : Nat) (s9 : Option Addr) (c9 : Nat) (R : List Int), k ≤ 12 ∧ i = .int .i64 k ∧ v = .slice s9 R.length c9 ∧ Hid (R = numK X k) ∧ Hid (OI wr w.heap.size (.slice s9 R.length c9) R) ∧ Hid (Below w.heap.size w wr)) (fun _ i _ => 12 - (intOf i).toNat)
  case atStart => exact ⟨0, none, 0, [], by omega, rfl, rfl, (show [] = numK X 0 from rfl), OI.nil _ _, LX⟩
  case round =>
    clear LX
    obtain ⟨k, s9, c9, R, hk, rfl, rfl, hR, hO, hb⟩ := hrel
    have lR : R.length ≤ 12 := by rw [hR.out]; have := numK_len X k; omega
    by_cases h12 : k < 12
    · have hix := idx_bit X hX k h12
      have HN := Hid.mk2 (numK_succ X k)
      have i12 : decide ((k : Int) < 12) = true := by simp; omega
      obtain ⟨q, hq⟩ : ∃ q, Hid (X.getD k false = q) := ⟨_, (rfl : X.getD k false = _)⟩
      rw [hq.out] at hix
      cases q
      · have HR : Hid (R = numK X (k + 1)) := by show R = _; rw [HN.out, hq.out, hR.out]; simp
        clear hR HN hq
        go_wp2_with fail
        go_roundw
        case rel => exact ⟨k + 1, s9, c9, R, by omega, by go_num, rfl, HR, hO, hb⟩
        case measure => simp [intOf]; omega
      · obtain ⟨R2, hR2⟩ : ∃ R2, Hid (R ++ [(k : Int)] = R2) := ⟨_, (rfl : R ++ [(k : Int)] = _)⟩
        have HR : Hid (R2 = numK X (k + 1)) := by show R2 = _; rw [HN.out, hq.out, ← hR2.out, hR.out]; simp
        have hO2 : Hid (OI (wr.alloc (.cells #[.int .i64 (k : Int)] 3)) w.heap.size (.slice s9 R.length c9) R) := hO.out.later (bl_alloc (Below.refl _ _) _)
        have hb2 : Hid (Below w.heap.size w (wr.alloc (.cells #[.int .i64 (k : Int)] 3))) := bl_alloc hb.out _
        have E5 : Hid (Els 1 cInt (wr.alloc (.cells #[.int .i64 (k : Int)] 3)) wr.heap.size (some ⟨wr.heap.size, 0, none⟩) [(k : Int)]) := Els.one (Blk.new wr #[.int .i64 (k : Int)] 3)
        clear hR HN hq hO hb
        go_wp2_with (at_builtin; refine wpList_append_ints rfl _ _ rfl w.heap.size s9 c9 R rfl hO2.out wr.heap.size _ 1 [(k : Int)] rfl E5.out R2 hR2.out (by simp; omega) hb2.out.size ?_; intro s' c' w4 hO4 hg4 hn4; have hO4 : Hid (OI w4 w.heap.size (.slice s' R2.length c') R2) := hO4; have hb4 : Hid (Below w.heap.size w w4) := grown_oi hb2.out hb2.out.size hO2.out hg4; clear hg4 hn4 hO2 E5 hb2)
        go_roundw
        case rel => exact ⟨k + 1, s', c', R2, by omega, by go_num, rfl, HR, hO4, hb4⟩
        case measure => simp [intOf]; omega
    · have i12 : decide ((k : Int) < 12) = false := by simp; omega
      have HE : R = numK X 12 := by rw [hR.out, show k = 12 by omega]
      subst HE
      clear hR
      go_wp2_with fail
      go_ret
      exact ⟨⟨s9, c9, rfl, hO.out⟩, hb.out⟩
end Go.Proofs.YtgcfhoojjgcpiaaDoor
