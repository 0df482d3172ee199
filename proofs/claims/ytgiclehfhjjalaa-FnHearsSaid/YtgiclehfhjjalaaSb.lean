import Derived.Test.YtgiclehfhjjalaaSa
namespace Go.Proofs.Ytgiclehfhjjalaa
open Go.RowKit
set_option linter.unusedVariables false
set_option linter.unusedSimpArgs false

/-- what a look at sizes tells. -/
def Szd (left : Int) (p : Prop) (e : Ending) : Prop := ∃ r : Int, e = .returned (.int .i64 r) ∧ (r = -1 ∨ (0 ≤ r ∧ r ≤ left ∧ p))
set_option maxHeartbeats 1000000 in
theorem szValS_gen (s : Option Addr) (n c : Nat) (left : Int) (w : World) (h0 : 0 ≤ left) (h1 : left ≤ 1048576) (hn : n ≤ 9223372036854775807) :
    Calls Try.prog 43 #[.slice s n c, .int .i64 left] w fun e w' => Szd left (n ≤ 1048576) e ∧ w' = w := by
  by_cases h : left < n
  · go_enter Try.func43, Try.ntmps43
    go_wp2
    go_ret
    exact ⟨⟨_, rfl, Or.inl rfl⟩, rfl⟩
  · go_enter Try.func43, Try.ntmps43
    go_wp2
    go_ret
    exact ⟨⟨_, rfl, Or.inr ⟨by omega, by omega, by omega⟩⟩, rfl⟩
set_option maxHeartbeats 400000 in
theorem toVal_any (k i : Int) (x y : Nat) (w : World) :
    Calls Try.prog 23 #[.agg #[.int .i64 k, .int .i64 i, .float .f64 x, .float .f64 y]] w fun e w' => e = .returned (.agg #[.int .i64 k, .int .i64 i, .float .f64 x, .float .f64 y]) ∧ Below w.heap.size w w' := by
  go_enter Try.func23, Try.ntmps23
  go_wp2
  refine bodyPost_ret (v := .agg #[.int .i64 k, .int .i64 i, .float .f64 x, .float .f64 y]) (by simp [results, Try.results23, go_sem]) rfl ⟨rfl, ?_⟩
  (repeat (first | with_reducible exact Below.refl _ _ | with_reducible refine bl_alloc ?_ _ | with_reducible refine bl_drewN ?_ _ | with_reducible refine bl_drew ?_ | with_reducible refine bl_setCell ?_ (by first | exact Nat.le_refl _ | (dsimp only; omega) | (simp <;> omega)) _ | with_reducible refine bl_trans ?_ (by with_reducible assumption)))
set_option maxHeartbeats 4000000 in
theorem toValS_made (s : Option Addr) (c : Nat) (L : List V4) (B : Nat) (w : World) (hL : Els 4 cVal w B s L) (hl : L.length ≤ 1048576) :
    Calls Try.prog 45 #[.slice s L.length c] w fun e w' => Made 4 cVal w L e w' := by
  obtain ⟨i0, hi, hz0, hz1, hz2⟩ := info_parts Try.infoV
  go_enter Try.func45, Try.ntmps45
  go_wp2_with (at_make; refine wpList_make_full _ rfl _ _ 24 rfl w.heap.size 32 i0 (.agg #[.int .i64 0, .int .i64 0, .float .f64 0, .float .f64 0]) 4 Try.underlying24 hi hz0 hz1 .i64 .i64 _ _ L.length rfl rfl rfl rfl (by rw [hz2]; omega) (by unfold maxLen; omega) (Nat.le_refl _) ?_)
  intro w1 hown hgrow
  have hrow : Hid (Mk 4 cVal [.int .i64 0, .int .i64 0, .float .f64 0, .float .f64 0] 32 w1 w.heap.size w.heap.size L 0) := Mk.start (z := #[.int .i64 0, .int .i64 0, .float .f64 0, .float .f64 0]) rfl hown
  have hbel : Hid (Below w.heap.size w w1) := (Below.refl _ w).grown hgrow (Nat.le_refl _) (fun k h => by cases h)
  clear hown hgrow hi hz0 hz1 hz2
  go_wp2_with fail
  go_loopw [4] (fun i wr => ∃ k : Nat, k ≤ L.length ∧ i = .int .i64 k ∧ Hid (Mk 4 cVal [.int .i64 0, .int .i64 0, .float .f64 0, .float .f64 0] 32 wr w.heap.size w.heap.size L k) ∧ Hid (Below w.heap.size w wr)) (fun i _ => L.length - (intOf i).toNat)
  case atStart => exact ⟨0, Nat.zero_le _, rfl, hrow, hbel⟩
  case round =>
    obtain ⟨k, hk, rfl, hrow, hbel⟩ := hrel
    by_cases hlt : k < L.length
    · obtain ⟨a, ha⟩ := get_some hlt
      obtain ⟨b, o, rfl, hB, hp, hok, e1, e2, e3, e4⟩ := eVal_cells (hL.later cVal_keeps hbel.out) ha
      obtain ⟨p1, p2, p3, p4⟩ := a
      have HO : Hid (okV (p1, p2, p3, p4)) := hok
      clear hL hok
      go_wp2_with fail
      refine (toVal_any p1 p2 p3 p4 _).mono ?_
      rintro e w2 ⟨rfl, hb2⟩
      have hr2 := hrow.out.later cVal_keeps hb2
      have L2 : Hid (Below w.heap.size w w2) := bl_trans hbel.out hb2
      obtain ⟨_, hg, fz, cz⟩ := hr2.at hlt
      have g1 := cz 0 _ rfl
      have g2 := cz 1 _ rfl
      have g3 := cz 2 _ rfl
      have g4 := cz 3 _ rfl
      rw [Nat.add_zero] at g1
      have hputH : Hid (Mk 4 cVal [.int .i64 0, .int .i64 0, .float .f64 0, .float .f64 0] 32 ((((w2.setCell ⟨w.heap.size, k * 4, none⟩ (.int .i64 p1)).setCell ⟨w.heap.size, k * 4 + 1, none⟩ (.int .i64 p2)).setCell ⟨w.heap.size, k * 4 + 2, none⟩ (.float .f64 p3)).setCell ⟨w.heap.size, k * 4 + 3, none⟩ (.float .f64 p4)) w.heap.size w.heap.size L (k + 1)) :=
        hr2.push cVal_keeps ha (c := vcells (p1, p2, p3, p4)) rfl ⟨rfl, HO.out⟩ ((((Kept.set _ (by simp) _).trans (Kept.set _ (by simp) _)).trans (Kept.set _ (by simp) _)).trans (Kept.set _ (by simp) _)) (fun A C hA h => put4 hA h)
      clear hr2 hrow ha cz
      go_wp2_with fail
      go_roundw
      case rel => exact ⟨k + 1, by omega, by go_num, hputH, (((L2.out.setCell (Nat.le_refl _) _).setCell (Nat.le_refl _) _).setCell (Nat.le_refl _) _).setCell (Nat.le_refl _) _⟩
      case measure => simp [intOf]; omega
    · have hm' : k = L.length := by omega
      subst hm'
      go_wp2_with fail
      go_ret
      exact ⟨_, rfl, Nat.le_refl _, hrow.out.done cVal_drops, hbel.out⟩
theorem eqB_self (k i : Int) (x y : Nat) : eqB k i x y k i x y = true := by simp [eqB, sameB_refl]
set_option maxHeartbeats 4000000 in
theorem eqValS_gen (s t : Option Addr) (c d : Nat) (L : List V4) (B C : Nat) (w : World) (hs : Els 4 cVal w B s L) (ht : Els 4 cVal w C t L) (hl : L.length ≤ 1048576) :
    Calls Try.prog 27 #[.slice s L.length c, .slice t L.length d] w fun e w' => e = .returned (.bool true) ∧ Below w.heap.size w w' := by
  have hal := alloc_old
  have haf := alloc_oldf
  go_enter Try.func27, Try.ntmps27
  go_wp2_with fail
  go_loopw [5] (fun i wr => ∃ k : Nat, k ≤ L.length ∧ i = .int .i64 k ∧ Below w.heap.size w wr) (fun i _ => L.length - (intOf i).toNat)
  case atStart => exact ⟨0, Nat.zero_le _, rfl, Below.refl _ _⟩
  case round =>
    obtain ⟨k, hk, rfl, hb⟩ := hrel
    by_cases hlt : k < L.length
    · obtain ⟨a, ha⟩ := get_some hlt
      obtain ⟨b, o, rfl, _, hp, hok, e1, e2, e3, e4⟩ := eVal_cells (hs.later cVal_keeps hb) ha
      obtain ⟨b', o', rfl, _, hp', _, f1, f2, f3, f4⟩ := eVal_cells (ht.later cVal_keeps hb) ha
      obtain ⟨p1, p2, p3, p4⟩ := a
      have HX : Hid (p3 < 18446744073709551616) := hok.2.1
      have HY : Hid (p4 < 18446744073709551616) := hok.2.2
      clear hs ht ha hok
      go_wp2_with fail
      go_region_with (first
        | (go_at_call 48; refine (eqVal_any p1 p2 p3 p4 p1 p2 p3 p4 _ HX.out HY.out HX.out HY.out).mono ?_; rintro e w2 ⟨rfl, hb2⟩; rw [eqB_self]))
      all_goals
        go_wp2_with fail
        go_roundw
        case rel =>
          refine ⟨k + 1, by omega, by go_num, ?_⟩
          (repeat (first | with_reducible exact Below.refl _ _ | with_reducible refine bl_alloc ?_ _ | with_reducible refine bl_drewN ?_ _ | with_reducible refine bl_drew ?_ | with_reducible refine bl_setCell ?_ (by first | exact Nat.le_refl _ | (dsimp only; omega) | (simp <;> omega)) _ | with_reducible refine bl_trans ?_ (by with_reducible assumption)))
        case measure => simp [intOf]; omega
    · go_wp2_with fail
      go_ret
      exact ⟨rfl, hb⟩
theorem step_append_val {ops : Array Oper} {o : Oper} {a : Act} {w : World} {K : Act → World → Prop} {Q : Exit → Act → World → Prop} {E : Prop}
    (hg : o.guard = none) (s x : Operand) (hop : o.op = Op.call { callee := Callee.builtin Builtin.append, args := #[s, x], argTypes := #[24, 24] })
    (Bs : Nat) (v : Value) (L : List V4) (hs : a.eval s = v) (hv : w.ownsRow Bs 32 4 v L.length (L.flatMap vcells))
    (sb : Nat) (p : V4) (hx : a.eval x = .slice (some ⟨sb, 0, none⟩) 1 1) (hb : Blk w sb #[.int .i64 p.1, .int .i64 p.2.1, .float .f64 p.2.2.1, .float .f64 p.2.2.2] 32) (hl : L.length ≤ 1048576) (hB : Bs ≤ w.heap.size)
    (hK : ∀ g cap w', VR w' Bs g (L.length + 1) cap (L ++ [p]) → w.grownBy w' v.ownBlock → g < w'.heap.size → K (a.put o.dst (.slice (some ⟨g, 0, none⟩) (L.length + 1) cap)) w') :
    if Region.wanted o (yielded ops a.tmps) = true then Oper.wp Try.prog o a w K Q else E := by
  obtain ⟨i0, hi, hz0, hz1, hz2⟩ := info_parts Try.infoV
  refine step_append_lies _ hg s x _ hop Bs 32 i0 (.agg #[.int .i64 0, .int .i64 0, .float .f64 0, .float .f64 0]) 4 32 Try.underlying24 hi hz0 hz1 hz2 rfl (by decide) v L.length (L.flatMap vcells) hs hv ⟨sb, 0, none⟩ 1 1 (vcells p) hx rfl ?_ ?_ (by omega) (by unfold maxLen; omega) (by omega) hB w.heap.size rfl ?_
  · intro j u hj
    have := hb.cell j
    rw [Go.WideShapes.add_plain, Nat.zero_add, this]
    simpa [vcells] using hj
  · intro u hu
    simp only [vcells, List.mem_cons, List.not_mem_nil, or_false] at hu
    rcases hu with rfl | rfl | rfl | rfl <;> rfl
  · intro g cap w' h1 h2 _ h4
    refine hK g cap w' ?_ h2 h4
    unfold VR
    rw [List.flatMap_append]
    simpa using h1
set_option maxHeartbeats 400000 in
theorem valOf_any (k : Int) (v : V4) (w : World) :
    Calls Try.prog 31 #[.int .i64 k, .agg #[.int .i64 v.1, .int .i64 v.2.1, .float .f64 v.2.2.1, .float .f64 v.2.2.2]] w fun e w' => e = .returned (.bool (vofB k v)) ∧ Below w.heap.size w w' := by
  obtain ⟨v1, v2, v3, v4⟩ := v
  obtain ⟨x0, x1, x2, x3, x4⟩ := (Blk.new w #[.int .i64 v1, .int .i64 v2, .float .f64 v3, .float .f64 v4] 32).four'
  cases h : (v1 == k : Bool)
  · have E : Hid (false = vofB k (v1, v2, v3, v4)) := by simp [Hid, vofB, h]
    go_enter Try.func31, Try.ntmps31
    go_wp2_with fail
    go_ret
    exact ⟨ret_bool' E.out, bl_alloc (Below.refl _ _) _⟩
  · have E : Hid (okB v1 v2 v3 v4 = vofB k (v1, v2, v3, v4)) := by simp [Hid, vofB, okV4, h]
    go_enter Try.func31, Try.ntmps31
    go_wp2_with fail
    refine (implOk_any v1 v2 v3 v4 _).mono ?_
    rintro e w1 ⟨rfl, rfl⟩
    go_wp2_with fail
    go_ret
    exact ⟨ret_bool' E.out, bl_alloc (bl_alloc (Below.refl _ _) _) _⟩
set_option maxHeartbeats 2000000 in
theorem markValS_any (B g cap : Nat) (L : List V4) (k : Int) (w : World) (h : VR w B g L.length cap L) (hl : L.length ≤ 1048576) (h0 : 0 ≤ k) (h1 : k ≤ 100000000) :
    Calls Try.prog 28 #[.slice (some ⟨g, 0, none⟩) L.length cap, .int .i64 k] w fun e w' => e = .returned (.int .i64 (k + 4 * (L.length : Int))) ∧ VR w' B g L.length cap (mVs k L.length) ∧ Only g w w' := by
  go_enter Try.func28, Try.ntmps28
  go_wp2_with fail
  go_loopw [1, 5] (fun x i wr => ∃ m : Nat, m ≤ L.length ∧ i = .int .i64 m ∧ x = .int .i64 (k + 4 * (m : Int)) ∧ Hid (VR wr B g L.length cap (mVs k m ++ L.drop m)) ∧ Hid (Only g w wr)) (fun _ i _ => L.length - (intOf i).toNat)
  case atStart => exact ⟨0, Nat.zero_le _, rfl, by simp, by simpa [mVs, Hid] using h, Only.refl _ _⟩
  case round =>
    obtain ⟨m, hm, rfl, rfl, hrow, hon⟩ := hrel
    by_cases hlt : m < L.length
    · obtain ⟨p, hp⟩ := get_some hlt
      have ed : L.drop m = p :: L.drop (m + 1) := by rw [List.drop_eq_getElem_cons hlt]; congr 1; simpa [hlt] using hp
      have hr := hrow.out
      rw [ed] at hr
      obtain ⟨c0, c1, c2, c3, fz⟩ := hr.cells (j := m) (a := p) (by simp [mVs_len]; omega) (by rw [List.getElem?_append_right (by simp [mVs_len])]; simp [mVs_len])
      have hput := hr.put (q := mV1 (k + 4 * (m : Int)))
      rw [mVs_len] at hput
      have e3 : mVs k m ++ mV1 (k + 4 * (m : Int)) :: L.drop (m + 1) = mVs k (m + 1) ++ L.drop (m + 1) := by rw [mVs_succ]; simp
      rw [e3] at hput
      have HP : Hid (VR ((((wr.setCell ⟨g, m * 4, none⟩ (.int .i64 (k + 4 * (m : Int)))).setCell ⟨g, m * 4 + 1, none⟩ (.int .i64 (k + 4 * (m : Int) + 1))).setCell ⟨g, m * 4 + 2, none⟩ (.float .f64 (floatOfInt .f64 (k + 4 * (m : Int) + 1 + 1)))).setCell ⟨g, m * 4 + 3, none⟩ (.float .f64 (floatOfInt .f64 (k + 4 * (m : Int) + 1 + 1 + 1)))) B g L.length cap (mVs k (m + 1) ++ L.drop (m + 1))) := hput
      have HO : Hid (Only g w ((((wr.setCell ⟨g, m * 4, none⟩ (.int .i64 (k + 4 * (m : Int)))).setCell ⟨g, m * 4 + 1, none⟩ (.int .i64 (k + 4 * (m : Int) + 1))).setCell ⟨g, m * 4 + 2, none⟩ (.float .f64 (floatOfInt .f64 (k + 4 * (m : Int) + 1 + 1)))).setCell ⟨g, m * 4 + 3, none⟩ (.float .f64 (floatOfInt .f64 (k + 4 * (m : Int) + 1 + 1 + 1))))) := (((hon.out.set _ _).set _ _).set _ _).set _ _
      clear hput hr hrow hon ed e3 hp h
      go_wp2_with fail
      refine ⟨⟨m + 1, by omega, by go_num, ?_, HP, HO⟩, by simp [intOf]; omega⟩
      congr 1; simp; omega
    · have hm' : m = L.length := by omega
      subst hm'
      have hr := hrow.out
      simp at hr
      go_wp2_with fail
      go_ret
      exact ⟨rfl, hr, hon.out⟩
end Go.Proofs.Ytgiclehfhjjalaa
