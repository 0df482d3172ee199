import Derived.Test.YtgiclehfhjjalaaSb
import Derived.Laws.CopyOwn
namespace Go.Proofs.Ytgiclehfhjjalaa
open Go.RowKit
set_option linter.unusedVariables false
set_option linter.unusedSimpArgs false

/-- the float of a whole number is no NaN. -/
theorem ofInt_num (n : Int) : nanB (floatOfInt .f64 n) = false := by
  rw [nanB_def, decide_eq_false_iff_not]
  have h : ∃ neg r, floatOfInt .f64 n = Ieee.double.word neg r ∧ r ≤ 9218868437227405312 := by
    unfold floatOfInt FloatKind.nearest FloatKind.encode
    show ∃ neg r, Ieee.Format.write Ieee.double _ = _ ∧ _
    unfold Ieee.Format.write Ieee.Format.nearest
    dsimp only
    split
    · exact ⟨_, 0, rfl, by omega⟩
    · refine ⟨_, _, rfl, ?_⟩
      have := ir
      rw [← ir]
      exact Nat.min_le_right _ _
  obtain ⟨neg, r, e, hr⟩ := h
  rw [e]
  unfold Ieee.Format.word
  rw [sw]
  split <;> omega

theorem els_ok {w : World} {B : Nat} {s : Option Addr} {L : List V4} (h : Els 4 cVal w B s L) : ∀ v ∈ L, okV v := by
  intro v hv
  obtain ⟨j, hj, rfl⟩ := List.getElem_of_mem hv
  obtain ⟨_, _, _, _, _, hok, _⟩ := eVal_cells h (j := j) (a := L[j]) (by simp [hj])
  exact hok
theorem mk_own {z : List Value} {w : World} {B g : Nat} {L : List V4} (h : Mk 4 cVal z 32 w B g L L.length) : OV w B (.slice (some ⟨g, 0, none⟩) L.length L.length) L := by
  obtain ⟨h1, h2, U, h3, h4, h5, h6⟩ := h
  rw [Nat.sub_self] at h6
  simp only [List.replicate_zero, List.append_nil] at h6
  have e : U = L.map vcells := by
    apply List.ext_getElem?
    intro j
    by_cases hj : j < L.length
    · obtain ⟨c, hc⟩ := get_some (L := U) (k := j) (by omega)
      obtain ⟨a, ha⟩ := get_some hj
      rw [hc, List.getElem?_map, ha, (h5 j c a hc ha).1]
      rfl
    · rw [List.getElem?_eq_none (by omega), List.getElem?_eq_none (by simp; omega)]
  subst e
  unfold OV
  rw [List.flatMap_def]
  exact h6
/-- a new list of right values is handed back. -/
def Own (w : World) (L : List V4) (e : Ending) (w' : World) : Prop :=
  ∃ g c, e = .returned (.slice (some ⟨g, 0, none⟩) L.length c) ∧ OV w' w.heap.size (.slice (some ⟨g, 0, none⟩) L.length c) L ∧ (∀ v ∈ L, okV v) ∧ Below w.heap.size w w'

set_option maxHeartbeats 4000000 in
theorem toValS_own (s : Option Addr) (c : Nat) (L : List V4) (B : Nat) (w : World) (hL : Els 4 cVal w B s L) (hl : L.length ≤ 1048576) :
    Calls Try.prog 45 #[.slice s L.length c] w fun e w' => Own w L e w' := by
  have hoks := els_ok hL
  obtain ⟨i0, hi, hz0, hz1, hz2⟩ := info_parts Try.infoV
  go_enter Try.func45, Try.ntmps45
  go_wp2_with (at_make; refine wpList_make_full _ rfl _ _ 24 rfl w.heap.size 32 i0 (.agg #[.int .i64 0, .int .i64 0, .float .f64 0, .float .f64 0]) 4 Try.underlying24 hi hz0 hz1 .i64 .i64 _ _ L.length rfl rfl rfl rfl (by rw [hz2]; omega) (by unfold maxLen; omega) (Nat.le_refl _) ?_)
  intro w1 hown hgrow
  have hrow : Hid (Mk 4 cVal [.int .i64 0, .int .i64 0, .float .f64 0, .float .f64 0] 32 w1 w.heap.size w.heap.size L 0) := Mk.start (z := #[.int .i64 0, .int .i64 0, .float .f64 0, .float .f64 0]) rfl hown
  have hbel : Hid (Below w.heap.size w w1) := (Below.refl _ w).grown hgrow (Nat.le_refl _) (fun k h => by cases h)
  clear hown hgrow hi hz0 hz1 hz2
  go_wp2_with fail
  go_loopw [4] (fun i wr => ∃ k : Nat, k ≤ L.length ∧ i = .int .i64 k ∧ Hid (Mk 4 cVal [.int .i64 0, .int .i64 0, .float .f64 0, .float .f64 0] 32 wr w.heap.size w.heap.size L k) ∧ Hid (Below w.heap.size w wr)) (fun i _ => L.length - (intOf i).toNat)
  case atStart => exact ⟨0, Nat.zero_le _, rfl, hrow, hbel⟩
  case round =>
    obtain ⟨k, hk, rfl, hrow, hbel⟩ := hrel
    by_cases hlt : k < L.length
    · obtain ⟨a, ha⟩ := get_some hlt
      obtain ⟨b, o, rfl, hB, hp, hok, e1, e2, e3, e4⟩ := eVal_cells (hL.later cVal_keeps hbel.out) ha
      obtain ⟨p1, p2, p3, p4⟩ := a
      have HO : Hid (okV (p1, p2, p3, p4)) := hok
      clear hL hok hoks
      go_wp2_with fail
      refine (toVal_any p1 p2 p3 p4 _).mono ?_
      rintro e w2 ⟨rfl, hb2⟩
      have hr2 := hrow.out.later cVal_keeps hb2
      have L2 : Hid (Below w.heap.size w w2) := bl_trans hbel.out hb2
      obtain ⟨_, hg, fz, cz⟩ := hr2.at hlt
      have g1 := cz 0 _ rfl
      have g2 := cz 1 _ rfl
      have g3 := cz 2 _ rfl
      have g4 := cz 3 _ rfl
      rw [Nat.add_zero] at g1
      have hputH : Hid (Mk 4 cVal [.int .i64 0, .int .i64 0, .float .f64 0, .float .f64 0] 32 ((((w2.setCell ⟨w.heap.size, k * 4, none⟩ (.int .i64 p1)).setCell ⟨w.heap.size, k * 4 + 1, none⟩ (.int .i64 p2)).setCell ⟨w.heap.size, k * 4 + 2, none⟩ (.float .f64 p3)).setCell ⟨w.heap.size, k * 4 + 3, none⟩ (.float .f64 p4)) w.heap.size w.heap.size L (k + 1)) :=
        hr2.push cVal_keeps ha (c := vcells (p1, p2, p3, p4)) rfl ⟨rfl, HO.out⟩ ((((Kept.set _ (by simp) _).trans (Kept.set _ (by simp) _)).trans (Kept.set _ (by simp) _)).trans (Kept.set _ (by simp) _)) (fun A C hA h => put4 hA h)
      clear hr2 hrow ha cz
      go_wp2_with fail
      go_roundw
      case rel => exact ⟨k + 1, by omega, by go_num, hputH, (((L2.out.setCell (Nat.le_refl _) _).setCell (Nat.le_refl _) _).setCell (Nat.le_refl _) _).setCell (Nat.le_refl _) _⟩
      case measure => simp [intOf]; omega
    · have hm' : k = L.length := by omega
      subst hm'
      go_wp2_with fail
      go_ret
      exact ⟨_, _, rfl, mk_own hrow.out, hoks, hbel.out⟩

set_option maxHeartbeats 2000000 in
theorem heldValS_gen (B : Nat) (s : Option Addr) (cap n : Nat) (k : Int) (w : World) (h : Els 4 cVal w B s (mVs k n)) (h0 : 0 ≤ k) (h1 : k + 4 * (n : Int) ≤ 100000000) :
    Calls Try.prog 29 #[.slice s n cap, .int .i64 k] w fun e w' => e = .returned (.int .i64 (k + 4 * (n : Int))) ∧ w' = w := by
  go_enter Try.func29, Try.ntmps29
  go_wp2_with fail
  go_loop [1, 5] (fun x i => ∃ m : Nat, m ≤ n ∧ i = .int .i64 m ∧ x = .int .i64 (k + 4 * (m : Int))) (fun _ i => n - (intOf i).toNat)
  case atStart => exact ⟨0, Nat.zero_le _, rfl, by simp⟩
  case round =>
    obtain ⟨m, hm, rfl, rfl⟩ := hrel
    by_cases hlt : m < n
    · obtain ⟨b, o, rfl, _, hp, hok, e1, e2, e3, e4⟩ := eVal_cells h (mVs_at k n m hlt)
      simp only [mV1] at e1 e2 e3 e4
      have g3 := neq_self (floatOfInt .f64 (k + 4 * (m : Int) + 1 + 1))
      have g4 := neq_self (floatOfInt .f64 (k + 4 * (m : Int) + 1 + 1 + 1))
      rw [ofInt_num] at g3 g4
      clear h hok
      go_wp2_with fail
      refine ⟨⟨m + 1, by omega, by go_num, ?_⟩, by simp [intOf]; omega⟩
      congr 1; simp; omega
    · have hm' : m = n := by omega
      subst hm'
      go_wp2_with fail
      go_ret
      exact ⟨rfl, rfl⟩

set_option maxHeartbeats 400000 in
theorem markVals_nil (k : Int) (w : World) : Calls Try.prog 28 #[.slice none 0 0, .int .i64 k] w fun e w' => e = .returned (.int .i64 k) ∧ w' = w := by
  go_enter Try.func28, Try.ntmps28
  go_wp2_with fail
  go_loop [1, 5] (fun x i => x = .int .i64 k ∧ i = .int .i64 0) (fun _ _ => 0)
  case atStart => exact ⟨rfl, rfl⟩
  case round =>
    obtain ⟨rfl, rfl⟩ := hrel
    go_wp2_with fail
    go_ret
    exact ⟨rfl, rfl⟩
/-- nothing turns but the blocks from B on, and of what was there the list's own. -/
def Just (v : Value) (B : Nat) (w w' : World) : Prop := Below B w w' ∧ ∀ k, ¬ v.ownBlock = some k → k < w.heap.size → w'.heap[k]? = w.heap[k]?

theorem OV.mono {w : World} {B B' : Nat} {v : Value} {L : List V4} (h : OV w B v L) (hB : B' ≤ B) : OV w B' v L := by
  refine ⟨h.1, ?_⟩
  rcases h.2 with h' | ⟨g, cap', cur, h', hb, r⟩
  · exact Or.inl h'
  · exact Or.inr ⟨g, cap', cur, h', Nat.le_trans hB hb, r⟩
theorem Just.refl (v : Value) (B : Nat) (w : World) : Just v B w w := ⟨Below.refl _ _, fun _ _ _ => rfl⟩
/-- marks in an own list. -/
theorem markV_any (B : Nat) (s : Option Addr) (c : Nat) (L : List V4) (k : Int) (w : World) (h : OV w B (.slice s L.length c) L) (hl : L.length ≤ 1048576) (h0 : 0 ≤ k) (h1 : k ≤ 100000000) :
    Calls Try.prog 28 #[.slice s L.length c, .int .i64 k] w fun e w' => e = .returned (.int .i64 (k + 4 * (L.length : Int))) ∧ OV w' B (.slice s L.length c) (mVs k L.length) ∧ Just (.slice s L.length c) B w w' := by
  rcases h.form with ⟨h2, rfl⟩ | ⟨g, cap, h2, hg, hr⟩
  · simp only [Value.slice.injEq] at h2
    obtain ⟨rfl, _, rfl⟩ := h2
    refine (markVals_nil k w).mono fun e w' ⟨he, hw⟩ => ?_
    subst he hw
    exact ⟨by simp, World.ownsRow_nil _ _ _ _, Just.refl _ _ _⟩
  · simp only [Value.slice.injEq] at h2
    obtain ⟨rfl, _, rfl⟩ := h2
    refine (markValS_any B g c L k w hr hl h0 h1).mono fun e w' ⟨he, hv, ho⟩ => ?_
    subst he
    refine ⟨rfl, ?_, ho.2.2.1 w B hg (Below.refl _ _), fun j hj hl => ho.2.2.2 j (fun e => hj (by rw [e]; rfl)) hl⟩
    unfold OV
    rw [mVs_len]
    exact hv
theorem okV_m {k : Int} {n : Nat} (h0 : 0 ≤ k) (h1 : k + 4 * (n : Int) ≤ 100000000) : ∀ v ∈ mVs k n, okV v := by
  intro v hv
  simp only [mVs, List.mem_map, List.mem_range] at hv
  obtain ⟨i, hi, rfl⟩ := hv
  refine ⟨?_, ofInt_lt' _, ofInt_lt' _⟩
  simp only [mV1]
  omega
theorem heldV_any (B : Nat) (s : Option Addr) (n c : Nat) (k : Int) (w : World) (h : OV w B (.slice s n c) (mVs k n)) (h0 : 0 ≤ k) (h1 : k + 4 * (n : Int) ≤ 100000000) :
    Calls Try.prog 29 #[.slice s n c, .int .i64 k] w fun e w' => e = .returned (.int .i64 (k + 4 * (n : Int))) ∧ w' = w :=
  heldValS_gen B s c n k w (h.els (okV_m h0 h1)) h0 h1

theorem run_copy4 (w : World) (dT sT ty : TypeId) (g dLen dCap : Nat) (a : Addr) (sLen sCap : Nat) (cur : Array Value) (t : TypeId) (cs : List Value)
    (hu : Try.prog.underlying dT = some (.slice 32)) (hg : w.heap[g]? = some (.cells cur t (0, 0))) (hn : cs.length = Nat.min sLen dLen * 4)
    (hsrc : ∀ j v, cs[j]? = some v → w.cell? (a.add j) = some v) (hfit : cs.length ≤ cur.size) (h1 : ∀ v ∈ cs, v.oneCell' = true) :
    (Builtin.copy_ #[dT, sT] ty #[.slice (some ⟨g, 0, none⟩) dLen dCap, .slice (some a) sLen sCap]).run Try.prog w =
      .ok (goInt (Nat.min sLen dLen)) (w.setRow g (cs ++ cur.toList.drop cs.length).toArray) := by
  obtain ⟨i0, hi, hz0, hz1, hz2⟩ := info_parts Try.infoV
  have hl := run_loadCells_list (P := Try.prog) w a cs hsrc
  have hst := run_storeCells_at Try.prog g 0 t cs 0 cur w hg (by simpa using hfit) h1
  rw [hn] at hl
  simp [Builtin.copy_, run_underlying hu, Builtin.lenOf, Builtin.firstCells, sizeOf, typeInfo, hi, hz1, hl, hst]
end Go.Proofs.Ytgiclehfhjjalaa
