import Derived.Test.YtigllpegaljkmaaDoorN8j
namespace Go.Proofs.YtigllpegaljkmaaDoor
open Go.RowKit
set_option linter.unusedVariables false
set_option linter.unusedSimpArgs false

set_option maxHeartbeats 2000000 in
theorem l18Ready_any (s : Option Addr) (c pb po ca n x : Nat) (L : List (Int × Int)) (A : List Int) (w : World) (hL : Eds w s L) (hl : L.length ≤ 1048576) (hin : Inn n L) (hA : ∀ j, j < n → w.cell? ⟨pb, po + j, none⟩ = some (.int .i64 (A.getD j 0))) (hn : A.length = n) (hx : x < n) (hn6 : n ≤ 16) :
    Calls Tryd.prog 40 #[.slice s L.length c, .slice (some ⟨pb, po, none⟩) A.length ca, .int .i64 x] w fun e w' => e = .returned (.bool (rdA L A x)) ∧ w' = w := by
  have HI : Hid (Inn n L) := hin
  have HA : Hid (∀ j, j < n → w.cell? ⟨pb, po + j, none⟩ = some (.int .i64 (A.getD j 0))) := hA
  clear hin hA
  have c0 := HA.out x hx
  have hxI : (x : Int) < (A.length : Int) := by omega
  obtain ⟨v0, hv0⟩ : ∃ v, Hid (A.getD x 0 = v) := ⟨_, rfl⟩
  rw [hv0.out] at c0
  by_cases hz : v0 = 0
  · subst hz
    go_enter Tryd.func40, Tryd.ntmps40
    go_wp2_with fail
    go_loop [7] (fun i => ∃ k : Nat, k ≤ L.length ∧ i = .int .i64 k ∧ Hid (∀ e ∈ L.take k, (!(decide (e.2 = (x : Int)) && !decide (A.getD e.1.toNat 0 = 2))) = true)) (fun i => L.length - (intOf i).toNat)
    case atStart => exact ⟨0, Nat.zero_le _, rfl, by simp [Hid]⟩
    case round =>
      obtain ⟨k, hk, rfl, hall⟩ := hrel
      by_cases hlt : k < L.length
      · obtain ⟨b, o, rfl, hp, e1, e2⟩ := hL.get hlt
        obtain ⟨⟨p1, p2⟩, hxx⟩ : ∃ x, Hid (L[k]?.getD (0, 0) = x) := ⟨_, rfl⟩
        have hi := HI.out _ (memE hlt)
        rw [hxx.out] at e1 e2 hi
        obtain ⟨⟨i1, i2⟩, i3, i4⟩ := hi
        obtain ⟨q1, rfl⟩ : ∃ q : Nat, p1 = (q : Int) := ⟨p1.toNat, by simp at i1; omega⟩
        obtain ⟨q2, rfl⟩ : ∃ q : Nat, p2 = (q : Int) := ⟨p2.toNat, by simp at i3; omega⟩
        have h1 : q1 < n := by simp at i2; omega
        have h1I : (q1 : Int) < (A.length : Int) := by omega
        clear i1 i2 i3 i4
        have c1 := HA.out q1 h1
        obtain ⟨v1, hv1⟩ : ∃ v, Hid (A.getD q1 0 = v) := ⟨_, rfl⟩
        rw [hv1.out] at c1
        have ev1 : Hid (decide (A.getD q1 0 = 2) = decide (v1 = 2)) := by rw [hv1.out]; rfl
        have hnew : Hid ((!(decide ((q2 : Int) = (x : Int)) && !decide (v1 = 2))) = true → ∀ e ∈ L.take (k + 1), (!(decide (e.2 = (x : Int)) && !decide (A.getD e.1.toNat 0 = 2))) = true) := by
          intro hh g hg
          rw [takeE_succ L k hlt, List.mem_append] at hg
          rcases hg with hg | hg
          · exact hall.out g hg
          · simp only [List.mem_singleton] at hg; subst hg; rw [hxx.out]; show (!(decide ((q2 : Int) = (x : Int)) && !decide (A.getD q1 0 = 2))) = true; rw [ev1.out]; exact hh
        have hbd : Hid ((!(decide ((q2 : Int) = (x : Int)) && !decide (v1 = 2))) = false → rdA L A x = false) := by
          intro hh
          unfold rdA
          rw [hv0.out]
          simp only [decide_true, Bool.true_and]
          rw [List.all_eq_false]
          refine ⟨_, memE hlt, ?_⟩
          rw [hxx.out]
          show ¬ (!(decide ((q2 : Int) = (x : Int)) && !decide (A.getD q1 0 = 2))) = true
          rw [ev1.out, hh]; simp
        by_cases he : q2 = x
        · subst he
          have t0 : ((q2 : Int) == (q2 : Int)) = true := by simp
          by_cases hq : v1 = 2
          · subst hq
            have hst : Hid (∀ e ∈ L.take (k + 1), (!(decide (e.2 = (q2 : Int)) && !decide (A.getD e.1.toNat 0 = 2))) = true) := hnew.out (by simp)
            go_wp2_with fail
            go_round
            case rel => exact ⟨k + 1, by omega, by go_num, hst⟩
            case measure => simp [intOf]; omega
          · have hR : Hid (rdA L A q2 = false) := hbd.out (by simp [hq])
            have t1 : (v1 != 2) = true := by simp [bne, hq]
            go_wp2_with fail
            go_ret
            exact ⟨ret_bool' hR.out.symm, rfl⟩
        · have t0 : ((q2 : Int) == (x : Int)) = false := by simp; omega
          have hst : Hid (∀ e ∈ L.take (k + 1), (!(decide (e.2 = (x : Int)) && !decide (A.getD e.1.toNat 0 = 2))) = true) := hnew.out (by
            have : decide ((q2 : Int) = (x : Int)) = false := by simp; omega
            simp [this])
          go_wp2_with fail
          go_round
          case rel => exact ⟨k + 1, by omega, by go_num, hst⟩
          case measure => simp [intOf]; omega
      · have hR : Hid (rdA L A x = true) := by
          have := hall.out
          rw [List.take_of_length_le (by omega)] at this
          unfold rdA
          rw [hv0.out]
          simp only [Hid, decide_true, Bool.true_and, List.all_eq_true]
          exact this
        go_wp2_with fail
        go_ret
        exact ⟨ret_bool' hR.out.symm, rfl⟩
  · have hR : Hid (rdA L A x = false) := by simp only [Hid, rdA]; rw [hv0.out]; simp [hz]
    have t1 : (v0 != 0) = true := by simp [bne, hz]
    go_enter Tryd.func40, Tryd.ntmps40
    go_wp2_with fail
    go_ret
    exact ⟨ret_bool' hR.out.symm, rfl⟩

theorem MRow.shape {w : World} {B : Nat} {v : Value} {L : List (Int × Int)} (h : MRow w B v L) : ∃ s c, v = .slice s L.length c := by
  rcases h.form with ⟨rfl, rfl⟩ | ⟨g, cap, rfl, _⟩
  · exact ⟨_, _, rfl⟩
  · exact ⟨_, _, rfl⟩
theorem MRow.empty {w : World} {b : Nat} (h : Blk w b #[] 62) : MRow w b (.slice (some ⟨b, 0, none⟩) 0 0) [] := ⟨rfl, Or.inr ⟨b, 0, _, rfl, Nat.le_refl _, h, Nat.le_refl _, by unfold maxLen; omega, rfl, rfl⟩⟩
theorem grown_mr {B : Nat} {W X Y : World} {v : Value} {L : List (Int × Int)} (hb : Below B W X) (hB : B ≤ X.heap.size) (hv : MRow X B v L) (hg : X.grownBy Y v.ownBlock) : Below B W Y :=
  hb.grown hg hB (fun q hq => (hv.lt q hq).1)

set_option maxHeartbeats 4000000 in
theorem l18Moves_any (s : Option Addr) (c : Nat) (sa : Option Addr) (ca : Nat) (wk : Int) (L : List (Int × Int)) (A : List Int) (w : World) (hL : Eds w s L) (hl : L.length ≤ 1048576) (hin : Inn A.length L) (hI : Ints w sa A) (hn6 : A.length ≤ 16) :
    Calls Tryd.prog 25 #[.slice s L.length c, .int .i64 wk, .slice sa A.length ca] w fun e w' => (∃ v, e = .returned v ∧ MRow w' w.heap.size v (mvs L wk A)) ∧ Below w.heap.size w w' := by
  have k0 := Blk.new w #[] 62
  have L0 : Hid (Below w.heap.size w (w.alloc (.cells #[] 62))) := bl_alloc (Below.refl _ w) _
  have O0 : Hid (MRow (w.alloc (.cells #[] 62)) w.heap.size (.slice (some ⟨w.heap.size, 0, none⟩) 0 0) []) := MRow.empty k0
  have HL : Hid (Eds w s L) := hL
  have HI : Hid (Ints w sa A) := hI
  have HN : Hid (Inn A.length L) := hin
  clear k0 hL hI hin
  go_enter Tryd.func25, Tryd.ntmps25
  go_wp2_with fail
  go_loopw [7, 8] (fun ov iv wr => ∃ k : Nat, k ≤ A.length ∧ iv = .int .i64 k ∧ Hid (MRow wr w.heap.size ov (mvK 1 (run1 A) k)) ∧ Hid (Below w.heap.size w wr)) (fun _ iv _ => A.length - (intOf iv).toNat)
  case atStart => exact ⟨0, Nat.zero_le _, rfl, O0, L0⟩
  case round =>
    clear O0 L0
    obtain ⟨k, hk, rfl, hO, hb⟩ := hrel
    have lk := mvK_len 1 (run1 A) k
    obtain ⟨E, hEE⟩ : ∃ E, Hid (mvK 1 (run1 A) k = E) := ⟨_, rfl⟩
    rw [hEE.out] at hO lk
    obtain ⟨so, co, e⟩ := hO.out.shape
    subst e
    by_cases hlt : k < A.length
    · obtain ⟨pb, po, rfl, hp, hcs⟩ := (HI.out.later hb.out).get (k := k) (by omega)
      have c0 := hcs k (by omega)
      rw [← List.getD_eq_getElem?_getD] at c0
      clear hcs
      obtain ⟨v0, hv0⟩ : ∃ v, Hid (A.getD k 0 = v) := ⟨_, rfl⟩
      rw [hv0.out] at c0
      have t0 : decide ((k : Int) < (A.length : Int)) = true := by simp; omega
      have kI : (k : Int) < (A.length : Int) := by omega
      have hbs := hb.out.size
      by_cases h1 : v0 = 1
      · subst h1
        have hr : run1 A k = true := by unfold run1; rw [hv0.out]; rfl
        have eN : Hid (E ++ [(1, (k : Int))] = mvK 1 (run1 A) (k + 1)) := by
          rw [mvK_succ, hr, hEE.out]; simp [Hid]
        clear hr
        have kb := Blk.new wr #[.int .i64 1, .int .i64 (k : Int)] 62
        obtain ⟨hz0, hz1, _⟩ := kb.two
        have hB2 : Below w.heap.size w (wr.alloc (.cells #[.int .i64 1, .int .i64 (k : Int)] 62)) := bl_alloc hb.out _
        have hBs : w.heap.size ≤ (wr.alloc (.cells #[.int .i64 1, .int .i64 (k : Int)] 62)).heap.size := hB2.size
        have HVa : Hid (MRow (wr.alloc (.cells #[.int .i64 1, .int .i64 (k : Int)] 62)) w.heap.size (.slice so E.length co) E) := hO.out.later (bl_alloc (Below.refl _ wr) _)
        have HB2 : Hid (Below w.heap.size w (wr.alloc (.cells #[.int .i64 1, .int .i64 (k : Int)] 62))) := hB2
        clear hB2 kb hO
        go_wp2_with (at_builtin; refine wpList_append_move _ rfl (.tmp 22) (.tmp 25) rfl w.heap.size (.slice so E.length co) E rfl HVa.out wr.heap.size 1 (k : Int) rfl hz0 hz1 (by omega) hBs ?_)
        intro v' w' hv' hg'
        rw [eN.out] at hv'
        obtain ⟨s', c', e⟩ := hv'.shape
        subst e
        have hb' : Hid (Below w.heap.size w w') := grown_mr HB2.out hBs HVa.out hg'
        go_wp2_with fail
        go_roundw
        case rel => exact ⟨k + 1, by omega, by go_num, hv', hb'⟩
        case measure => simp [intOf]; omega
      · have t1 : (v0 == 1) = false := by simp [h1]
        have hr : run1 A k = false := by unfold run1; rw [hv0.out]; simp [h1]
        have eN : Hid (E = mvK 1 (run1 A) (k + 1)) := by
          rw [mvK_succ, hr, hEE.out]; simp [Hid]
        clear hr
        have hO' : Hid (MRow wr w.heap.size (.slice so E.length co) (mvK 1 (run1 A) (k + 1))) := by rw [← eN.out]; exact hO
        go_wp2_with fail
        go_roundw
        case rel => exact ⟨k + 1, by omega, by go_num, hO', hb⟩
        case measure => simp [intOf]; omega
    · have hk' : k = A.length := by omega
      subst hk'
      have t0 : decide ((A.length : Int) < (A.length : Int)) = false := by simp
      have hE : Hid (mvs L wk A = mvK 1 (run1 A) A.length ++ if ((mvK 1 (run1 A) A.length).length : Int) < wk then mvK 2 (rdA L A) A.length else []) := by unfold mvs; rfl
      rw [hEE.out] at hE
      by_cases hw : (E.length : Int) < wk
      · have tw : decide ((E.length : Int) < wk) = true := by simp [hw]
        have hE' : Hid (mvs L wk A = E ++ mvK 2 (rdA L A) A.length) := by rw [hE.out, if_pos hw]; rfl
        have hO1 : Hid (MRow wr w.heap.size (.slice so E.length co) (E ++ mvK 2 (rdA L A) 0)) := by simpa [mvK, Hid] using hO.out
        clear hE hO
        go_wp2_with fail
        go_loopw [7, 9] (fun ov iv wq => ∃ j : Nat, j ≤ A.length ∧ iv = .int .i64 j ∧ Hid (MRow wq w.heap.size ov (E ++ mvK 2 (rdA L A) j)) ∧ Hid (Below w.heap.size w wq)) (fun _ iv _ => A.length - (intOf iv).toNat)
        case atStart => exact ⟨0, Nat.zero_le _, rfl, hO1, hb⟩
        case round =>
          clear hO1 hb
          obtain ⟨j, hj, rfl, hO, hb⟩ := hrel
          have lk2 := mvK_len 2 (rdA L A) j
          obtain ⟨F, hFF⟩ : ∃ F, Hid (E ++ mvK 2 (rdA L A) j = F) := ⟨_, rfl⟩
          have lk3 : F.length ≤ 100 := by rw [← hFF.out, List.length_append]; omega
          rw [hFF.out] at hO
          obtain ⟨so2, co2, e⟩ := hO.out.shape
          subst e
          by_cases hlt2 : j < A.length
          · have hr0 := (HI.out.later hb.out)
            have hr1 : ∃ pb po, sa = some ⟨pb, po, none⟩ ∧ ∀ i, i < A.length → wr.cell? ⟨pb, po + i, none⟩ = some (.int .i64 (A.getD i 0)) := by
              rcases hr0 with h | ⟨pb, po, e, _, h⟩
              · rw [h] at hlt2; simp at hlt2
              · exact ⟨pb, po, e, fun i hi => h i (by omega)⟩
            obtain ⟨pb, po, rfl, hcs⟩ := hr1
            have HC : Hid (∀ i, i < A.length → wr.cell? ⟨pb, po + i, none⟩ = some (.int .i64 (A.getD i 0))) := hcs
            have hLq : Hid (Eds wr s L) := HL.out.later hb.out
            clear hcs hr0
            have t2 : decide ((j : Int) < (A.length : Int)) = true := by simp; omega
            have hbs := hb.out.size
            cases hr : rdA L A j
            · have eN : Hid (F = E ++ mvK 2 (rdA L A) (j + 1)) := by rw [mvK_succ, hr, ← hFF.out]; simp [Hid]
              have hO' : Hid (MRow wr w.heap.size (.slice so2 F.length co2) (E ++ mvK 2 (rdA L A) (j + 1))) := by rw [← eN.out]; exact hO
              go_wp2_with (go_at_call 40; refine (l18Ready_any s c pb po ca A.length j L A _ hLq.out hl HN.out HC.out rfl hlt2 hn6).mono ?_; rintro e w' ⟨rfl, hq⟩; subst hq; rw [hr])
              go_roundw
              case rel => exact ⟨j + 1, by omega, by go_num, hO', hb⟩
              case measure => simp [intOf]; omega
            · have eN : Hid (F ++ [(2, (j : Int))] = E ++ mvK 2 (rdA L A) (j + 1)) := by rw [mvK_succ, hr, ← hFF.out]; simp [Hid]
              have kb := Blk.new wr #[.int .i64 2, .int .i64 (j : Int)] 62
              obtain ⟨hz0, hz1, _⟩ := kb.two
              have Va : Hid (MRow (wr.alloc (.cells #[.int .i64 2, .int .i64 (j : Int)] 62)) w.heap.size (.slice so2 F.length co2) F) := hO.out.later (bl_alloc (Below.refl _ wr) _)
              have HB2 : Hid (Below w.heap.size w (wr.alloc (.cells #[.int .i64 2, .int .i64 (j : Int)] 62))) := bl_alloc hb.out _
              have hBs : w.heap.size ≤ (wr.alloc (.cells #[.int .i64 2, .int .i64 (j : Int)] 62)).heap.size := HB2.out.size
              clear kb hO
              go_wp2_with (first
                | (go_at_call 40; refine (l18Ready_any s c pb po ca A.length j L A _ hLq.out hl HN.out HC.out rfl hlt2 hn6).mono ?_; rintro e w' ⟨rfl, hq⟩; subst hq; rw [hr])
                | (at_builtin; refine wpList_append_move _ rfl (.tmp 41) (.tmp 44) rfl w.heap.size (.slice so2 F.length co2) F rfl Va.out w'.heap.size 2 (j : Int) rfl hz0 hz1 (by omega) hBs ?_))
              intro v' w2 hv' hg'
              rw [eN.out] at hv'
              obtain ⟨s', c', e⟩ := hv'.shape
              subst e
              have hb' : Hid (Below w.heap.size w w2) := grown_mr HB2.out hBs Va.out hg'
              go_wp2_with fail
              go_roundw
              case rel => exact ⟨j + 1, by omega, by go_num, hv', hb'⟩
              case measure => simp [intOf]; omega
          · have hj' : j = A.length := by omega
            subst hj'
            have t2 : decide ((A.length : Int) < (A.length : Int)) = false := by simp
            go_wp2_with fail
            go_ret
            refine ⟨⟨_, rfl, ?_⟩, hb.out⟩
            rw [hE'.out, hFF.out]
            exact hO.out
      · have tw : decide ((E.length : Int) < wk) = false := by simp; omega
        have hE' : Hid (mvs L wk A = E) := by rw [hE.out, if_neg hw, List.append_nil]; rfl
        go_wp2_with fail
        go_ret
        refine ⟨⟨_, rfl, ?_⟩, hb.out⟩
        rw [hE'.out]
        exact hO.out
end Go.Proofs.YtigllpegaljkmaaDoor
