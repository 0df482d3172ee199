import Derived.Test.YtigllpegaljkmaaDoorN8j
import Derived.Test.YtigllpegaljkmaaDoorN9j
namespace Go.Proofs.YtigllpegaljkmaaDoor
open Go.RowKit
set_option linter.unusedVariables false
set_option linter.unusedSimpArgs false

theorem ones_fin (z : Int) : ∃ r : Nat, Ending.returned (.int .i64 (z % 256)) = .returned (.int .i64 (r : Int)) ∧ r ≤ 510 := ⟨(z % 256).toNat, by rw [Int.toNat_of_nonneg (by omega)], by omega⟩
set_option maxRecDepth 100000 in
set_option maxHeartbeats 2000000 in
theorem ones_any (f : Nat → Bool) (w : World) :
    Calls Tryd.prog 43 #[.int .u16 (nb f)] w fun e w' => (∃ r : Nat, e = .returned (.int .i64 r) ∧ r ≤ 510) ∧ Below w.heap.size w w' := by
  obtain ⟨h0, h1⟩ := nb_nonneg f
  obtain ⟨N, hN⟩ : ∃ N : Nat, nb f = (N : Int) := ⟨(nb f).toNat, by omega⟩
  rw [hN] at h0 h1 ⊢
  have hNl : N < 65536 := by omega
  have d2 : bits .and .u16 (N : Int) 255 = ((N % 256 : Nat) : Int) := by
    show IntKind.u16.wrap ((BitVec.ofInt 16 (N : Int) &&& BitVec.ofInt 16 ((255 : Nat) : Int)).toNat : Nat) = _
    rw [BitVec.ofInt_natCast, BitVec.ofInt_natCast, BitVec.toNat_and, BitVec.toNat_ofNat, BitVec.toNat_ofNat, Nat.mod_eq_of_lt (by omega), show (255 : Nat) % 2 ^ 16 = 2 ^ 8 - 1 from rfl, Nat.and_two_pow_sub_one_eq_mod]
    exact wrap16 _ (by omega)
  have b1 : (0 : Int) ≤ (N : Int) / 256 := by omega
  have b2 : (N : Int) / 256 < 256 := by omega
  have b3 : (0 : Int) ≤ (N : Int) % 256 := by omega
  have b4 : (N : Int) % 256 < 256 := by omega
  go_enter Tryd.func43, Tryd.ntmps43
  go_wp2_with fail
  go_region
  go_wp2_with fail
  go_ret
  refine ⟨ones_fin _, ?_⟩
  exact (Below.refl _ _).drew

def slLen : Value → Nat
  | .slice _ n _ => n
  | _ => 0
theorem wk_next {f : Nat → Bool} {j q : Nat} (h : Least (fun i => f i && decide (j ≤ i)) q) (k : Int) : j ≤ q ∧ mvK k f j ++ [(k, (q : Int))] = mvK k f (q + 1) := by
  obtain ⟨h1, h2, h3⟩ := h
  simp only [Bool.and_eq_true, decide_eq_true_eq] at h2
  refine ⟨h2.2, ?_⟩
  have hs := mvK_skip k (f := f) (n := j) (q - j) (fun i g1 g2 => by
    have := h3 i (by omega)
    simp only [Bool.and_eq_false_iff, decide_eq_false_iff_not] at this
    rcases this with g | g
    · exact g
    · omega)
  rw [show j + (q - j) = q by omega] at hs
  rw [mvK_succ, h2.1, hs]; simp
theorem wk_rest {f : Nat → Bool} {j q : Nat} (hj : j ≤ q) : nb (fun i => (f i && decide (j ≤ i)) && decide (q < i)) = nb (fun i => f i && decide (q + 1 ≤ i)) := by
  refine nb_congr fun i _ => ?_
  by_cases g : q + 1 ≤ i
  · have h1 : j ≤ i := by omega
    have h2 : q < i := by omega
    simp [g, h1, h2]
  · have h2 : ¬ q < i := by omega
    simp [g, h2]

set_option maxHeartbeats 4000000 in
theorem movesOf_any (k : Int) (f : Nat → Bool) (w : World) (hT : DbT w) :
    Calls Tryd.prog 41 #[.int .i64 k, .int .u16 (nb f)] w fun e w' => (∃ g c, e = .returned (.slice (some ⟨g, 0, none⟩) (mvK k f 16).length c) ∧ MRow w' w.heap.size (.slice (some ⟨g, 0, none⟩) (mvK k f 16).length c) (mvK k f 16)) ∧ Below w.heap.size w w' := by
  have HT : Hid (DbT w) := hT
  clear hT
  obtain ⟨i0, hi, hz0, hz1, hz2⟩ := info_parts Tryd.infoMove
  go_enter Tryd.func41, Tryd.ntmps41
  go_wp2_with fail
  refine (ones_any f _).mono ?_
  rintro e w1 ⟨⟨r, rfl, hr⟩, hb1⟩
  have hr2 : r ≤ 510 := hr
  go_wp2_with (at_make; refine wpList_make_own _ rfl _ _ 27 rfl w1.heap.size 62 i0 _ 2 Tryd.underlying27 hi hz0 hz1 .i64 .i64 _ r rfl rfl rfl (by rw [hz2]; omega) (by unfold maxLen; omega) (Nat.le_refl _) ?_)
  intro w2 hown hgrow
  have hbs := hb1.size
  have L2 : Hid (Below w.heap.size w w2) := bl_trans hb1 ((Below.refl _ _).grown hgrow (Nat.le_refl _) (fun k h => by cases h))
  have O2 : Hid (MRow w2 w.heap.size (.slice (some ⟨w1.heap.size, 0, none⟩) 0 r) (mvK k f 0)) := by
    have h0 : MRow w2 w1.heap.size (.slice (some ⟨w1.heap.size, 0, none⟩) 0 r) [] := hown
    exact h0.mono hbs
  have e0 : Hid (nb f = nb (fun i => f i && decide (0 ≤ i))) := nb_congr fun i _ => by simp
  clear hi hz0 hz1 hz2 hown hgrow hb1 hr hr2
  go_wp2_with fail
  go_loopw [1, 5] (fun tv lv wr => ∃ j : Nat, j ≤ 16 ∧ tv = .int .u16 (nb (fun i => f i && decide (j ≤ i))) ∧ (∃ g c, lv = .slice (some ⟨g, 0, none⟩) (mvK k f j).length c) ∧ Hid (MRow wr w.heap.size lv (mvK k f j)) ∧ Hid (Below w.heap.size w wr)) (fun _ lv _ => 17 - slLen lv)
  case atStart => exact ⟨0, by omega, by rw [e0.out], ⟨_, _, rfl⟩, O2, L2⟩
  case round =>
    clear O2 L2
    obtain ⟨j, hj, rfl, ⟨go, co, rfl⟩, hO, hb⟩ := hrel
    have lE := mvK_len k f j
    obtain ⟨E, hE⟩ : ∃ E, Hid (mvK k f j = E) := ⟨_, rfl⟩
    rw [hE.out] at hO lE ⊢
    obtain ⟨F, hF⟩ : ∃ F, Hid ((fun i => f i && decide (j ≤ i)) = F) := ⟨_, rfl⟩
    rw [hF.out]
    cases hz : (nb F == 0)
    · obtain ⟨q, hq⟩ := least_some hz
      have hq' : Least (fun i => f i && decide (j ≤ i)) q := by rw [hF.out]; exact hq
      obtain ⟨hjq, hmv⟩ := wk_next hq' k
      have hq16 := hq.1
      have g1 := drop_least hq
      have hw1 : IntKind.u16.wrap (nb F - 1) = nb F - 1 := by
        have := less_one hq
        have h2 := nb_nonneg (fun i => decide (i < q) || (F i && decide (q < i)))
        rw [this]
        obtain ⟨N, hN⟩ : ∃ N : Nat, nb (fun i => decide (i < q) || (F i && decide (q < i))) = (N : Int) := ⟨_, (Int.toNat_of_nonneg h2.1).symm⟩
        rw [hN]
        exact wrap16 N (by omega)
      have hrest : Hid (nb (fun i => F i && decide (q < i)) = nb (fun i => f i && decide (q + 1 ≤ i))) := by
        have := wk_rest (f := f) hjq
        rw [← hF.out]
        exact this
      rw [hrest.out] at g1
      have hmv' : Hid (E ++ [(k, (q : Int))] = mvK k f (q + 1)) := by rw [← hE.out]; exact hmv
      have lE2 := mvK_len k f (q + 1)
      have lE3 : Hid ((mvK k f (q + 1)).length = E.length + 1) := by rw [← hmv'.out]; simp [Hid]
      have hbs := hb.out.size
      have HQ : Hid (Least F q) := hq
      have kb := Blk.new wr #[.int .i64 k, .int .i64 (q : Int)] 62
      obtain ⟨hz0, hz1, _⟩ := kb.two
      have HVa : Hid (MRow (wr.alloc (.cells #[.int .i64 k, .int .i64 (q : Int)] 62)) w.heap.size (.slice (some ⟨go, 0, none⟩) E.length co) E) := hO.out.later (bl_alloc (Below.refl _ wr) _)
      have HB2 : Hid (Below w.heap.size w (wr.alloc (.cells #[.int .i64 k, .int .i64 (q : Int)] 62))) := bl_alloc hb.out _
      have hBs : w.heap.size ≤ (wr.alloc (.cells #[.int .i64 k, .int .i64 (q : Int)] 62)).heap.size := HB2.out.size
      clear kb hO hq hq' hmv
      go_wp2_with (first
        | (go_at_call 44; refine (least_any _ q _ HQ.out (HT.out.later hb.out)).mono ?_; rintro e w4 ⟨rfl, hq4⟩; subst hq4)
        | (at_builtin; refine wpList_append_move _ rfl (.tmp 15) (.tmp 20) rfl w.heap.size (.slice (some ⟨go, 0, none⟩) E.length co) E rfl HVa.out w4.heap.size k (q : Int) rfl hz0 hz1 (by omega) hBs ?_))
      intro v' w5 hv' hg'
      have hb' : Hid (Below w.heap.size w w5) := grown_mr HB2.out hBs HVa.out hg'
      rw [hmv'.out] at hv'
      have hform : ∃ g' c', v' = .slice (some ⟨g', 0, none⟩) (mvK k f (q + 1)).length c' := by
        rcases hv'.form with ⟨_, e⟩ | ⟨g', c', e, _⟩
        · have := lE3.out; rw [e] at this; simp at this
        · exact ⟨g', c', e⟩
      obtain ⟨g', c', e⟩ := hform
      subst e
      have hsh : Hid (∃ g c, Value.slice (some ⟨g', 0, none⟩) (E.length + 1) c' = .slice (some ⟨g, 0, none⟩) (mvK k f (q + 1)).length c) := ⟨g', c', by rw [lE3.out]⟩
      rw [lE3.out] at hv' ⊢
      go_wp2_with fail
      go_roundw
      case rel => exact ⟨q + 1, by omega, by first | rfl | (rw [g1]), hsh.out, hv', hb'⟩
      case measure => simp only [slLen]; omega
    · have hall : ∀ i, j ≤ i → i < 16 → f i = false := by
        rw [nb_is_zero, List.all_eq_true] at hz
        intro i h1 h2
        have := hz i (by simpa using h2)
        rw [← hF.out] at this
        simp only [Bool.not_eq_true', Bool.and_eq_false_iff, decide_eq_false_iff_not] at this
        rcases this with g | g
        · exact g
        · omega
      have hend : Hid (E = mvK k f 16) := by
        have := mvK_skip k (f := f) (n := j) (16 - j) (fun i g1 g2 => hall i g1 (by omega))
        rw [show j + (16 - j) = 16 by omega] at this
        rw [this, ← hE.out]; rfl
      clear hall
      go_wp2_with fail
      go_ret
      rw [← hend.out]
      exact ⟨⟨go, co, rfl, hO.out⟩, hb.out⟩
end Go.Proofs.YtigllpegaljkmaaDoor
