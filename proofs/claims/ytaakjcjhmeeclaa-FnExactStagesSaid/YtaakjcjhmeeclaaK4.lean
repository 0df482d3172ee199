import Derived.Test.YtaakjcjhmeeclaaK3
import Derived.Deep.RegionHeld3
namespace Go.Proofs.Ytaakjcjhmeeclaa
open Go.RowKit
set_option linter.unusedVariables false
set_option linter.unusedSimpArgs false
set_option maxRecDepth 100000

def mx (m : Int) (L : List Int) : Int := L.foldl max m
theorem mx_snoc (m : Int) (L : List Int) (a : Int) : mx m (L ++ [a]) = max (mx m L) a := by simp [mx]
theorem mx_max (m n : Int) : ∀ L : List Int, mx (max m n) L = max m (mx n L)
  | [] => rfl
  | a :: L => by
    have := mx_max m (max n a) L
    simp only [mx, List.foldl_cons] at this ⊢
    rw [Int.max_assoc]; exact this
theorem mx_ge (m : Int) : ∀ L : List Int, m ≤ mx m L
  | [] => Int.le_refl _
  | a :: L => by
    have := mx_ge (max m a) L
    simp only [mx, List.foldl_cons] at this ⊢
    omega
def stgB (L : List Int) : Int := if 16 ≤ mx (-1) L then 0 else mx (-1) L + 1
theorem take_snoc {L : List Int} {k : Nat} {a : Int} (h : L[k]? = some a) : L.take (k + 1) = L.take k ++ [a] := by
  rw [List.take_add_one, h]; rfl
theorem stgB_cons (a : Int) (L : List Int) : stgB (a :: L) = if 0 ≤ mx a L ∧ mx a L < 16 then mx a L + 1 else 0 := by
  have h : mx (-1) (a :: L) = max (-1) (mx a L) := by
    have := mx_max (-1) a L
    simpa [mx] using this
  unfold stgB
  rw [h]
  split <;> split <;> omega

set_option maxHeartbeats 2000000 in
theorem specStages_any (a1 a2 a3 a4 : Option Addr) (c1 c2 c3 c4 : Nat) (P : Pln) (B : Nat) (w : World) (hS : Els 1 cInt w B a1 P.st) (hl : P.st.length ≤ 1048576) :
    Calls Try.prog 10 #[.agg #[.slice a1 P.st.length c1, .slice a2 P.od.length c2, .slice a3 P.ed.length c3, .slice a4 P.ef.length c4]] w fun e w' => e = .returned (.int .i64 (stgB P.st)) ∧ Below w.heap.size w w' := by
  obtain ⟨L, od, ed, ef⟩ := P
  dsimp only at hS hl ⊢
  have k0 := Blk.new w #[.slice a1 L.length c1, .slice a2 od.length c2, .slice a3 ed.length c3, .slice a4 ef.length c4] 32
  have L0 : Below w.heap.size w (w.alloc (.cells #[.slice a1 L.length c1, .slice a2 od.length c2, .slice a3 ed.length c3, .slice a4 ef.length c4] 32)) := bl_alloc (Below.refl _ _) _
  obtain ⟨x0, x1, x2, x3, x4⟩ := k0.four'
  have HS : Hid (Els 1 cInt (w.alloc (.cells #[.slice a1 L.length c1, .slice a2 od.length c2, .slice a3 ed.length c3, .slice a4 ef.length c4] 32)) B a1 L) := hS.later cInt_keeps L0
  clear hS
  go_enter Try.func10, Try.ntmps10
  go_wp2_with fail
  generalize hX : w.alloc (.cells #[.slice a1 L.length c1, .slice a2 od.length c2, .slice a3 ed.length c3, .slice a4 ef.length c4] 32) = X at k0 L0 x0 x1 x2 x3 x4 HS ⊢
  clear hX
  go_loopw [3, 4] (fun m i wr => wr = X ∧ ∃ (k : Nat) (r : Int), k ≤ L.length ∧ i = .int .i64 k ∧ m = .int .i64 r ∧ Hid (r = mx (-1) (L.take k))) (fun _ i _ => L.length - (intOf i).toNat)
  case atStart => exact ⟨rfl, 0, _, Nat.zero_le _, rfl, rfl, rfl⟩
  case round =>
    obtain ⟨rfl, k, r, hk, rfl, rfl, hr⟩ := hrel
    by_cases hlt : k < L.length
    · obtain ⟨a, ha⟩ := get_some hlt
      obtain ⟨b, o, rfl, _, hp, e1⟩ := eInt_cells HS.out ha
      have HR : Hid (max r a = mx (-1) (L.take (k + 1))) := by
        show _ = _
        rw [take_snoc ha, mx_snoc, ← hr.out]
      clear ha
      by_cases hg : a > r
      · have t1 : decide (a > r) = true := by simpa using hg
        have t2 : decide (r < a) = true := by simpa using hg
        have HR : Hid (a = mx (-1) (L.take (k + 1))) := by have := HR.out; show _ = _; omega
        clear hg
        go_wp2_with fail
        go_roundw
        case rel => exact ⟨trivial, k + 1, a, by omega, by go_num, rfl, HR⟩
        case measure => simp [intOf]; omega
      · have t1 : decide (a > r) = false := by simpa using hg
        have t2 : decide (r < a) = false := by simpa using hg
        have HR : Hid (r = mx (-1) (L.take (k + 1))) := by have := HR.out; show _ = _; omega
        clear hg
        go_wp2_with fail
        go_roundw
        case rel => exact ⟨trivial, k + 1, r, by omega, by go_num, rfl, HR⟩
        case measure => simp [intOf]; omega
    · have hk' : k = L.length := by omega
      subst hk'
      have hr := hr.out
      rw [List.take_length] at hr
      have h1 := mx_ge (-1) L
      have hb : stgB L = if 16 ≤ r then 0 else r + 1 := by rw [hr]; rfl
      rw [← hr] at h1
      clear hr
      have HB : Hid (stgB L = if 16 ≤ r then 0 else r + 1) := hb
      clear hb
      by_cases hg : r ≥ 16
      · have t1 : decide (r ≥ 16) = true := by simpa using hg
        have t2 : decide (16 ≤ r) = true := by simpa using hg
        have HB : Hid (stgB L = 0) := by have := HB.out; rw [if_pos (by omega)] at this; exact this
        clear hg
        go_wp2_with fail
        go_ret
        exact ⟨by rw [HB.out]; rfl, L0⟩
      · have t1 : decide (r ≥ 16) = false := by simpa using hg
        have t2 : decide (16 ≤ r) = false := by simpa using hg
        have HB : Hid (stgB L = r + 1) := by have := HB.out; rw [if_neg (by omega)] at this; exact this
        have tw : IntKind.i64.wrap (r + 1) = r + 1 := by rw [IntKind.wrap_i64]; omega
        clear hg
        go_wp2_with fail
        go_ret
        exact ⟨by rw [HB.out]; rfl, L0⟩

set_option maxHeartbeats 2000000 in
theorem isBelow_is (x n : Int) (w : World) :
    Calls Try.prog 28 #[.int .i64 x, .int .i64 n] w fun e w' => e = .returned (.bool (decide (0 ≤ x ∧ x < n))) ∧ w' = w := by
  by_cases h1 : 0 ≤ x
  · have t1 : decide (0 ≤ x) = true := by simpa using h1
    by_cases h2 : x < n
    · have t2 : decide (x < n) = true := by simpa using h2
      rw [show decide (0 ≤ x ∧ x < n) = true by simp [h1, h2]]
      clear h1 h2
      go_enter Try.func28, Try.ntmps28
      go_wp2
      go_ret
      exact ⟨rfl, rfl⟩
    · have t2 : decide (x < n) = false := by simpa using h2
      rw [show decide (0 ≤ x ∧ x < n) = false by simp; omega]
      clear h1 h2
      go_enter Try.func28, Try.ntmps28
      go_wp2
      go_ret
      exact ⟨rfl, rfl⟩
  · have t1 : decide (0 ≤ x) = false := by simpa using h1
    rw [show decide (0 ≤ x ∧ x < n) = false by simp; omega]
    clear h1
    go_enter Try.func28, Try.ntmps28
    go_wp2
    go_ret
    exact ⟨rfl, rfl⟩

set_option maxHeartbeats 2000000 in
theorem maxI_any (s : Option Addr) (c : Nat) (a0 : Int) (L : List Int) (B : Nat) (w : World) (hS : Els 1 cInt w B s (a0 :: L)) (hl : (a0 :: L).length ≤ 1048576) :
    Calls Try.prog 27 #[.slice s (a0 :: L).length c] w fun e w' => e = .returned (.int .i64 (mx a0 L)) ∧ w' = w := by
  have ha0 : (a0 :: L)[0]? = some a0 := rfl
  obtain ⟨b, o, rfl, _, hp, e0⟩ := eInt_cells hS ha0
  rw [Nat.add_zero] at e0
  have HS : Hid (Els 1 cInt w B (some ⟨b, o, none⟩) (a0 :: L)) := hS
  have hM : 0 < (a0 :: L).length := by simp
  have HT : Hid (∀ (k : Nat) (a : Int), (a0 :: L)[k + 1]? = some a → mx a0 (L.take (k + 1)) = max (mx a0 (L.take k)) a) := by
    intro k a h
    rw [take_snoc (L := L) (k := k) (a := a) (by simpa using h), mx_snoc]
  have HE : Hid (∀ k : Nat, k + 1 = (a0 :: L).length → mx a0 (L.take k) = mx a0 L) := by
    intro k h
    rw [List.take_of_length_le (by simp at h; omega)]
  clear hS ha0
  generalize hG : a0 :: L = M at *
  clear hG
  have t0 : decide ((M.length : Int) < 1) = false := by simp; omega
  go_enter Try.func27, Try.ntmps27
  go_wp2_with fail
  go_loopw [3, 4] (fun m i wr => wr = w ∧ ∃ (k : Nat) (r : Int), k + 1 ≤ M.length ∧ i = .int .i64 ((k + 1 : Nat) : Int) ∧ m = .int .i64 r ∧ Hid (r = mx a0 (L.take k))) (fun _ i _ => M.length - (intOf i).toNat)
  case atStart => exact ⟨rfl, 0, _, by omega, rfl, rfl, rfl⟩
  case round =>
    obtain ⟨rfl, k, r, hk, rfl, rfl, hr⟩ := hrel
    by_cases hlt : k + 1 < M.length
    · obtain ⟨a, ha⟩ := get_some hlt
      obtain ⟨b', o', hbo, _, hp', e1⟩ := eInt_cells HS.out ha
      cases hbo
      have HR : Hid ((if r < a then a else r) = mx a0 (L.take (k + 1))) := by
        show _ = _
        rw [HT.out k a ha, ← hr.out]
        split <;> omega
      clear ha
      go_wp2_with fail
      go_roundw
      case rel => exact ⟨trivial, k + 1, _, by omega, by go_num, rfl, HR⟩
      case measure => simp [intOf]; omega
    · have hk' : k + 1 = M.length := by omega
      have hr := hr.out
      rw [HE.out k hk'] at hr
      subst hr
      go_wp2_with fail
      go_ret
      exact ⟨rfl, rfl⟩

set_option maxHeartbeats 2000000 in
theorem implStages_any (a1 a2 a3 a4 : Option Addr) (c1 c2 c3 c4 : Nat) (P : Pln) (B : Nat) (w : World) (hS : Els 1 cInt w B a1 P.st) (hl : P.st.length ≤ 1048576) :
    Calls Try.prog 11 #[.agg #[.slice a1 P.st.length c1, .slice a2 P.od.length c2, .slice a3 P.ed.length c3, .slice a4 P.ef.length c4]] w fun e w' => e = .returned (.int .i64 (stgB P.st)) ∧ Below w.heap.size w w' := by
  obtain ⟨L, od, ed, ef⟩ := P
  dsimp only at hS hl ⊢
  have k0 := Blk.new w #[.slice a1 L.length c1, .slice a2 od.length c2, .slice a3 ed.length c3, .slice a4 ef.length c4] 32
  have L0 : Below w.heap.size w (w.alloc (.cells #[.slice a1 L.length c1, .slice a2 od.length c2, .slice a3 ed.length c3, .slice a4 ef.length c4] 32)) := bl_alloc (Below.refl _ _) _
  obtain ⟨x0, x1, x2, x3, x4⟩ := k0.four'
  have HS : Hid (Els 1 cInt (w.alloc (.cells #[.slice a1 L.length c1, .slice a2 od.length c2, .slice a3 ed.length c3, .slice a4 ef.length c4] 32)) B a1 L) := hS.later cInt_keeps L0
  clear hS k0
  cases L with
  | nil =>
    have t0 : (0 : Int) = 0 := rfl
    go_enter Try.func11, Try.ntmps11
    go_wp2_with fail
    go_ret
    exact ⟨rfl, L0⟩
  | cons a L =>
    have HB := stgB_cons a L
    have HB : Hid (stgB (a :: L) = if 0 ≤ mx a L ∧ mx a L < 16 then mx a L + 1 else 0) := HB
    have t0 : decide ((((a :: L).length : Nat) : Int) = 0) = false := by simp; omega
    have hM : 0 < (a :: L).length := by simp
    have HM : Hid (∀ W, Els 1 cInt W B a1 (a :: L) → Calls Try.prog 27 #[.slice a1 (a :: L).length c1] W fun e w' => e = .returned (.int .i64 (mx a L)) ∧ w' = W) := fun W h => maxI_any a1 c1 a L B W h hl
    generalize hr : mx a L = r at HB HM
    clear hr
    generalize hG : a :: L = M at *
    clear hG
    go_enter Try.func11, Try.ntmps11
    go_wp2_with fail
    refine (HM.out _ HS.out).mono ?_
    rintro e w1 ⟨rfl, rfl⟩
    go_wp2_with fail
    refine (isBelow_is r 16 _).mono ?_
    rintro e w2 ⟨rfl, rfl⟩
    by_cases hb : 0 ≤ r ∧ r < 16
    · have t1 : decide (0 ≤ r ∧ r < 16) = true := by simpa using hb
      rw [t1]
      have HB : Hid (stgB M = r + 1) := by have := HB.out; rw [if_pos hb] at this; exact this
      have tw : IntKind.i64.wrap (r + 1) = r + 1 := by rw [IntKind.wrap_i64]; omega
      go_wp2_with fail
      go_ret
      exact ⟨by rw [HB.out]; rfl, L0⟩
    · have t1 : decide (0 ≤ r ∧ r < 16) = false := by simpa using hb
      rw [t1]
      have HB : Hid (stgB M = 0) := by have := HB.out; rw [if_neg hb] at this; exact this
      go_wp2_with fail
      go_ret
      exact ⟨by rw [HB.out]; rfl, L0⟩

set_option maxHeartbeats 8000000 in
theorem exactStages_any (a1 a2 a3 a4 : Option Addr) (c1 c2 c3 c4 : Nat) (P : Pln) (w : World) (hV : InP w 0 a1 a2 a3 a4 P) (mV : mP P) :
    Calls Try.prog 4 #[.agg #[.slice a1 P.st.length c1, .slice a2 P.od.length c2, .slice a3 P.ed.length c3, .slice a4 P.ef.length c4]] w fun e w' => e = .returned (.bool true) ∧ Below w.heap.size w w' := by
  have k0 := Blk.new w #[.slice a1 P.st.length c1, .slice a2 P.od.length c2, .slice a3 P.ed.length c3, .slice a4 P.ef.length c4] 26
  have L0 : Below w.heap.size w (w.alloc (.cells #[.slice a1 P.st.length c1, .slice a2 P.od.length c2, .slice a3 P.ed.length c3, .slice a4 P.ef.length c4] 26)) := bl_alloc (Below.refl _ _) _
  obtain ⟨x0, x1, x2, x3, x4⟩ := k0.four'
  have HV : Hid (InP w 0 a1 a2 a3 a4 P) := hV
  clear hV
  go_enter Try.func4, Try.ntmps4
  go_wp2_with fail
  refine (szPlan_gen a1 a2 a3 a4 c1 c2 c3 c4 P 0 1048576 _ (HV.out.later L0) mV (by omega) (by omega)).mono ?_
  rintro e w1 ⟨⟨r, rfl, hr⟩, hb1⟩
  have L1 := bl_trans L0 hb1
  replace k0 := k0.later hb1
  clear x0 x1 x2 x3 x4 hb1 L0
  rcases hr with rfl | ⟨r0, r1, kv⟩
  · go_wp2_with fail
    go_ret
    exact ⟨rfl, L1⟩
  have t1 : decide (r < 0) = false := by simp; omega
  have KV : Hid (kP P) := kv
  clear kv mV
  obtain ⟨x0, x1, x2, x3, x4⟩ := k0.four'
  go_wp2_with fail
  refine (toPlan_made a1 a2 a3 a4 c1 c2 c3 c4 P 0 _ (HV.out.later L1) KV.out).mono ?_
  rintro e w2 ⟨⟨q1, q2, q3, q4, rfl, hq⟩, hb2⟩
  have L2 := bl_trans L1 hb2
  replace k0 := k0.later hb2
  clear x0 x1 x2 x3 x4 hb2 L1 t1 r0 r1
  go_wp2_with fail
  refine (specStages_any _ _ _ _ _ _ _ _ P _ _ hq.s KV.out.1).mono ?_
  rintro e w3 ⟨rfl, hb3⟩
  have L3 := bl_trans L2 hb3
  replace k0 := k0.later hb3
  clear hb3 L2 hq
  obtain ⟨x0, x1, x2, x3, x4⟩ := k0.four'
  go_wp2_with fail
  refine (toPlan_made a1 a2 a3 a4 c1 c2 c3 c4 P 0 _ (HV.out.later L3) KV.out).mono ?_
  rintro e wd ⟨⟨h1, h2, h3, h4, rfl, hx⟩, hbd⟩
  have KX := Blk.new wd #[.slice (some ⟨h1, 0, none⟩) P.st.length P.st.length, .slice (some ⟨h2, 0, none⟩) P.od.length P.od.length, .slice (some ⟨h3, 0, none⟩) P.ed.length P.ed.length, .slice (some ⟨h4, 0, none⟩) P.ef.length P.ef.length] 32
  have LY : Below wd.heap.size wd (wd.alloc (.cells #[.slice (some ⟨h1, 0, none⟩) P.st.length P.st.length, .slice (some ⟨h2, 0, none⟩) P.od.length P.od.length, .slice (some ⟨h3, 0, none⟩) P.ed.length P.ed.length, .slice (some ⟨h4, 0, none⟩) P.ef.length P.ef.length] 32)) := bl_alloc (Below.refl _ _) _
  have K0 := (k0.later hbd).later LY
  have HX := hx.later LY
  have LD := bl_trans (bl_trans L3 hbd) LY
  clear x0 x1 x2 x3 x4 hbd L3 k0 LY hx
  obtain ⟨x0, x1, x2, x3, x4⟩ := KX.four'
  go_wp2_with fail
  generalize hX : wd.alloc (.cells #[.slice (some ⟨h1, 0, none⟩) P.st.length P.st.length, .slice (some ⟨h2, 0, none⟩) P.od.length P.od.length, .slice (some ⟨h3, 0, none⟩) P.ed.length P.ed.length, .slice (some ⟨h4, 0, none⟩) P.ef.length P.ef.length] 32) = Y at KX K0 LD HX x0 x1 x2 x3 x4 ⊢
  clear hX
  refine (implStages_any _ _ _ _ _ _ _ _ P _ _ HX.s KV.out.1).mono ?_
  rintro e wf ⟨rfl, hbf⟩
  have LF := bl_trans LD hbf
  replace KX := KX.later hbf
  replace K0 := K0.later hbf
  have HX : Hid (InP wf w3.heap.size (some ⟨h1, 0, none⟩) (some ⟨h2, 0, none⟩) (some ⟨h3, 0, none⟩) (some ⟨h4, 0, none⟩) P) := HX.later hbf
  clear LD hbf x0 x1 x2 x3 x4
  have u1 : (stgB P.st != stgB P.st) = false := by simp
  obtain ⟨x0, x1, x2, x3, x4⟩ := KX.four'
  obtain ⟨z0, z1, z2, z3, z4⟩ := K0.four'
  have KXH : Hid (Blk wf wd.heap.size #[.slice (some ⟨h1, 0, none⟩) P.st.length P.st.length, .slice (some ⟨h2, 0, none⟩) P.od.length P.od.length, .slice (some ⟨h3, 0, none⟩) P.ed.length P.ed.length, .slice (some ⟨h4, 0, none⟩) P.ef.length P.ef.length] 32) := KX
  have K0H : Hid (Blk wf w.heap.size #[.slice a1 P.st.length c1, .slice a2 P.od.length c2, .slice a3 P.ed.length c3, .slice a4 P.ef.length c4] 26) := K0
  clear KX K0
  go_wp2_with fail
  go_region_held3 (fun w' => w'.cell? ⟨wd.heap.size, 0, none⟩ = some (.slice (some ⟨h1, 0, none⟩) P.st.length P.st.length) ∧ w'.cell? ⟨wd.heap.size, 1, none⟩ = some (.slice (some ⟨h2, 0, none⟩) P.od.length P.od.length) ∧ w'.cell? ⟨wd.heap.size, 2, none⟩ = some (.slice (some ⟨h3, 0, none⟩) P.ed.length P.ed.length) ∧ w'.cell? ⟨wd.heap.size, 3, none⟩ = some (.slice (some ⟨h4, 0, none⟩) P.ef.length P.ef.length) ∧ w'.cell? ⟨w.heap.size, 0, none⟩ = some (.slice a1 P.st.length c1) ∧ w'.cell? ⟨w.heap.size, 1, none⟩ = some (.slice a2 P.od.length c2) ∧ w'.cell? ⟨w.heap.size, 2, none⟩ = some (.slice a3 P.ed.length c3) ∧ w'.cell? ⟨w.heap.size, 3, none⟩ = some (.slice a4 P.ef.length c4)) (simp [x0, x1, x2, x3, z0, z1, z2, z3])
    (first
      | (go_at_call 7; refine (toPlan_made a1 a2 a3 a4 c1 c2 c3 c4 P 0 _ (HV.out.later (bl_drew LF)) KV.out).mono ?_; rintro e wg ⟨⟨q1, q2, q3, q4, rfl, hIg⟩, hbg⟩; have hwg : Below wf.heap.size wf wg := bl_trans (bl_drew (Below.refl _ _)) hbg; obtain ⟨x0, x1, x2, x3, x4⟩ := (KXH.out.later hwg).four'; obtain ⟨z0, z1, z2, z3, z4⟩ := (K0H.out.later hwg).four')
      | (go_at_call 9; refine (eqPlan_gen _ _ _ _ _ _ _ _ _ _ _ _ _ _ _ _ P _ _ wg (HX.out.later hwg) hIg KV.out).mono ?_; rintro e wh ⟨rfl, hbh⟩; have hwh : Below wf.heap.size wf wh := bl_trans hwg hbh; obtain ⟨x0, x1, x2, x3, x4⟩ := (KXH.out.later hwh).four'; obtain ⟨z0, z1, z2, z3, z4⟩ := (K0H.out.later hwh).four'))
  have LI := bl_trans LF hwh
  clear x0 x1 x2 x3 x4 z0 z1 z2 z3 z4
  go_wp2_with fail
  go_ret
  exact ⟨rfl, LI⟩
end Go.Proofs.Ytaakjcjhmeeclaa
