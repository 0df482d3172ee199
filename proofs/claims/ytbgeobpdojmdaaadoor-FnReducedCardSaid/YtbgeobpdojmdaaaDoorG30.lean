import Derived.Test.YtbgeobpdojmdaaaDoorG17
namespace Go.Proofs.YtbgeobpdojmdaaaDoor
open Go.RowKit
set_option linter.unusedVariables false
set_option linter.unusedSimpArgs false

/-- a number more stands. -/
def addS (S : Nat → Bool) (x : Nat) : Nat → Bool := fun i => if i = x then true else S i
/-- in how many ways l numbers more can stand behind S. -/
def cnt (L : List (Int × Int)) (n : Nat) : Nat → (Nat → Bool) → Nat
  | 0, _ => 1
  | l + 1, S => ((List.range n).map fun x => if rdy (eF L) n S x then cnt L n l (addS S x) else 0).sum
/-- .. the sum over the first k. -/
def psum (L : List (Int × Int)) (n l : Nat) (S : Nat → Bool) (k : Nat) : Nat := ((List.range k).map fun x => if rdy (eF L) n S x then cnt L n l (addS S x) else 0).sum
theorem psum_zero (L : List (Int × Int)) (n l : Nat) (S : Nat → Bool) : psum L n l S 0 = 0 := rfl
theorem psum_succ (L : List (Int × Int)) (n l : Nat) (S : Nat → Bool) (k : Nat) : psum L n l S (k + 1) = psum L n l S k + if rdy (eF L) n S k then cnt L n l (addS S k) else 0 := by
  simp [psum, List.range_succ]
theorem psum_all (L : List (Int × Int)) (n l : Nat) (S : Nat → Bool) : psum L n l S n = cnt L n (l + 1) S := rfl
theorem rdy_congr (R : Nat → Nat → Bool) (n : Nat) {S T : Nat → Bool} (h : ∀ i, i < 16 → S i = T i) (hn : n ≤ 16) (x : Nat) : rdy R n S x = rdy R n T x := by
  unfold rdy
  by_cases hx : x < n
  · rw [h x (by omega)]
    have : ((List.range 16).all fun i => !(R x i && !S i)) = ((List.range 16).all fun i => !(R x i && !T i)) := by
      rw [Bool.eq_iff_iff, List.all_eq_true, List.all_eq_true]
      constructor
      · intro g i hi; rw [← h i (by simpa using hi)]; exact g i hi
      · intro g i hi; rw [h i (by simpa using hi)]; exact g i hi
    rw [this]
  · simp [hx]
theorem cnt_congr (L : List (Int × Int)) (n : Nat) (hn : n ≤ 16) : ∀ (l : Nat) {S T : Nat → Bool}, (∀ i, i < 16 → S i = T i) → cnt L n l S = cnt L n l T
  | 0, S, T, h => rfl
  | l + 1, S, T, h => by
    unfold cnt
    refine congrArg List.sum (List.map_congr_left fun x hx => ?_)
    rw [rdy_congr (eF L) n h hn x, cnt_congr L n hn l (S := addS S x) (T := addS T x) fun i hi => by unfold addS; split <;> simp [h i hi]]
theorem sum_le (f : Nat → Nat) (B : Nat) (h : ∀ x, f x ≤ B) : ∀ k, ((List.range k).map f).sum ≤ k * B
  | 0 => by simp
  | k + 1 => by
    have := sum_le f B h k
    have h1 := h k
    rw [List.range_succ, List.map_append, List.sum_append, Nat.succ_mul]
    simp; omega
theorem cnt_le (L : List (Int × Int)) (n : Nat) (hn : n ≤ 8) : ∀ (l : Nat) (S : Nat → Bool), cnt L n l S ≤ 8 ^ l
  | 0, S => by simp [cnt]
  | l + 1, S => by
    have := sum_le (fun x => if rdy (eF L) n S x then cnt L n l (addS S x) else 0) (8 ^ l) (fun x => by split; exact cnt_le L n hn l _; exact Nat.zero_le _) n
    unfold cnt
    have h2 : n * 8 ^ l ≤ 8 * 8 ^ l := Nat.mul_le_mul_right _ hn
    rw [Nat.pow_succ, Nat.mul_comm (8 ^ l) 8]
    omega
theorem pow8 {l : Nat} (h : l ≤ 8) : 8 ^ l ≤ 16777216 := by
  have : 8 ^ l ≤ 8 ^ 8 := Nat.pow_le_pow_right (by omega) h
  simpa using this
theorem psum_le (L : List (Int × Int)) (n l : Nat) (S : Nat → Bool) (k : Nat) (hn : n ≤ 8) (hl : l ≤ 8) (hk : k ≤ n) : psum L n l S k ≤ 134217728 := by
  have := sum_le (fun x => if rdy (eF L) n S x then cnt L n l (addS S x) else 0) 16777216 (fun x => by
    split
    · exact Nat.le_trans (cnt_le L n hn l _) (pow8 hl)
    · exact Nat.zero_le _) k
  unfold psum
  omega
theorem rdy_free {R : Nat → Nat → Bool} {n : Nat} {S : Nat → Bool} {x : Nat} (h : rdy R n S x = true) : S x = false := by
  unfold rdy at h
  simp at h
  exact h.2.1
def linsB (n : Int) (L : List (Int × Int)) : Int := if gOk n L = true ∧ n ≤ 8 then (cnt L n.toNat n.toNat (fun _ => false) : Int) else -1

set_option maxHeartbeats 4000000 in
theorem l14Count_any (n : Nat) (s : Option Addr) (c sb : Nat) (L : List (Int × Int)) (W0 : World) (hL : Eds W0 s L) (hl : L.length ≤ 1048576) (hin : Inn n L) (hn : n ≤ 8) (hsb : W0.heap.size ≤ sb) :
    ∀ (l : Nat) (S : Nat → Bool) (w : World), l ≤ 8 → Below W0.heap.size W0 w → Fl w W0.heap.size sb n S →
    Calls Tryd.prog 25 #[.int .i64 n, .slice s L.length c, .slice (some ⟨sb, 0, none⟩) n n, .int .i64 l] w fun e w' => e = .returned (.int .i64 (cnt L n l S)) ∧ Fl w' W0.heap.size sb n S ∧ w.grownBy w' (some sb) := by
  have HL : Hid (Eds W0 s L) := hL
  have HI : Hid (Inn n L) := hin
  clear hL hin
  intro l
  induction l with
  | zero =>
    intro S w _ hb hF
    have t0 : ((0 : Int) == 0) = true := by simp
    go_enter Tryd.func25, Tryd.ntmps25
    go_wp2_with fail
    go_ret
    exact ⟨rfl, hF, grown_refl _ _⟩
  | succ l ih =>
    intro S w hl8 hb hF
    have t0 : (((l + 1 : Nat) : Int) == 0) = false := by simp; omega
    have IH : Hid (∀ (S : Nat → Bool) (w : World), l ≤ 8 → Below W0.heap.size W0 w → Fl w W0.heap.size sb n S →
      Calls Tryd.prog 25 #[.int .i64 n, .slice s L.length c, .slice (some ⟨sb, 0, none⟩) n n, .int .i64 l] w fun e w' => e = .returned (.int .i64 (cnt L n l S)) ∧ Fl w' W0.heap.size sb n S ∧ w.grownBy w' (some sb)) := ih
    clear ih
    obtain ⟨l1, hl1⟩ : ∃ l1 : Int, Hid (l1 = ((l + 1 : Nat) : Int)) := ⟨_, rfl⟩
    rw [← hl1.out] at t0 ⊢
    have tw : IntKind.i64.wrap (l1 - 1) = (l : Int) := by rw [IntKind.wrap_i64, hl1.out]; omega
    go_enter Tryd.func25, Tryd.ntmps25
    go_wp2_with fail
    go_loopw [9, 10] (fun sv iv wr => ∃ k : Nat, k ≤ n ∧ iv = .int .i64 k ∧ sv = .int .i64 (psum L n l S k) ∧ Hid (Fl wr W0.heap.size sb n S) ∧ Hid (w.grownBy wr (some sb))) (fun _ iv _ => n - (intOf iv).toNat)
    case atStart => exact ⟨0, Nat.zero_le _, rfl, rfl, hF, grown_refl _ _⟩
    case round =>
      obtain ⟨k, hk, rfl, rfl, hf, hg⟩ := hrel
      by_cases hlt : k < n
      · have hbr : Hid (Below W0.heap.size W0 wr) := hb.trans (grown_below hg.out hsb hb.size)
        have hre := rdL_eq HI.out (by omega) S hlt
        have hps := psum_succ L n l S k
        have hp1 := psum_le L n l S k hn (by omega) (by omega)
        have hp2 := psum_le L n l S (k + 1) hn (by omega) (by omega)
        obtain ⟨p0, hp0⟩ : ∃ p, Hid (psum L n l S k = p) := ⟨_, rfl⟩
        obtain ⟨p1, hp1'⟩ : ∃ p, Hid (psum L n l S (k + 1) = p) := ⟨_, rfl⟩
        rw [hp0.out] at hps hp1 ⊢
        rw [hp1'.out] at hps hp2
        cases hr : rdy (eF L) n S k
        · rw [hr] at hre hps
          have HP : Hid (p1 = p0) := by show _ = _; simpa using hps
          clear hps
          go_wp2_with (go_at_call 20; refine (l14Ready_any _ _ sb W0.heap.size n k L S _ (HL.out.later hbr.out) hl HI.out (by omega) hf.out hlt).mono ?_; rintro e w2 ⟨rfl, hq⟩; subst hq; rw [hre])
          go_roundw
          case rel => exact ⟨k + 1, by omega, by go_num, by rw [hp1'.out, HP.out], hf, hg⟩
          case measure => simp [intOf]; omega
        · rw [hr] at hre hps
          have HP : Hid (p1 = p0 + cnt L n l (addS S k)) := by show _ = _; simpa using hps
          clear hps
          have hfree := rdy_free hr
          obtain ⟨c1, f1⟩ := hf.out.cell hlt
          rw [hfree] at c1
          have hf1 : Hid (Fl (wr.setCell ⟨sb, k, none⟩ (.bool true)) W0.heap.size sb n (addS S k)) := hf.out.set hlt true
          have hg1 : Hid (w.grownBy (wr.setCell ⟨sb, k, none⟩ (.bool true)) (some sb)) := grown_trans hg.out (grown_setCell _ _ _ _)
          have hb1 : Hid (Below W0.heap.size W0 (wr.setCell ⟨sb, k, none⟩ (.bool true))) := hbr.out.setCell hsb _
          obtain ⟨cv, hcv⟩ : ∃ v, Hid (cnt L n l (addS S k) = v) := ⟨_, rfl⟩
          rw [hcv.out] at HP
          have tw2 : IntKind.i64.wrap ((p0 : Int) + (cv : Int)) = (p1 : Int) := by rw [IntKind.wrap_i64]; have := HP.out; omega
          go_wp2_with (first
            | (go_at_call 20; refine (l14Ready_any _ _ sb W0.heap.size n k L S _ (HL.out.later hbr.out) hl HI.out (by omega) hf.out hlt).mono ?_; rintro e w2 ⟨rfl, hq⟩; subst hq; rw [hre])
            | (go_at_call 25; refine (IH.out (addS S k) _ (by omega) hb1.out hf1.out).mono ?_; rintro e w3 ⟨rfl, hf3, hg3⟩; rw [hcv.out]; obtain ⟨c3, f3⟩ := hf3.cell hlt; rw [show addS S k k = true by simp [addS]] at c3))
          have hf4 : Hid (Fl (w3.setCell ⟨sb, k, none⟩ (.bool false)) W0.heap.size sb n S) := (hf3.set hlt false).congr fun i _ => by
            by_cases e : i = k
            · subst e; simp [hfree]
            · simp [e, addS]
          have hg4 : Hid (w.grownBy (w3.setCell ⟨sb, k, none⟩ (.bool false)) (some sb)) := grown_trans (grown_trans hg1.out hg3) (grown_setCell _ _ _ _)
          go_roundw
          case rel => exact ⟨k + 1, by omega, by go_num, by rw [hp1'.out], hf4, hg4⟩
          case measure => simp [intOf]; omega
      · have hkn : k = n := by omega
        subst hkn
        rw [psum_all]
        go_wp2_with fail
        go_ret
        exact ⟨rfl, hf.out, hg.out⟩

set_option maxHeartbeats 4000000 in
theorem specLinears_any (n : Int) (s : Option Addr) (c : Nat) (L : List (Int × Int)) (w : World) (hL : Eds w s L) (hl : L.length ≤ 1048576) :
    Calls Tryd.prog 10 #[.int .i64 n, .slice s L.length c] w fun e w' => e = .returned (.int .i64 (linsB n L)) ∧ Below w.heap.size w w' := by
  cases hg : gOk n L
  · have hA : Hid (linsB n L = -1) := by simp [Hid, linsB, hg]
    go_enter Tryd.func10, Tryd.ntmps10
    go_wp2_with (go_at_call 19; refine (specGraphOk_any _ _ _ L _ hL hl).mono ?_; rintro e w' ⟨rfl, hq⟩; subst hq; rw [hg])
    go_ret
    exact ⟨by rw [hA.out]; rfl, Below.refl _ _⟩
  · obtain ⟨m, rfl, hm, hl2, hin, h16⟩ := gOk_open hg
    by_cases h8 : m ≤ 8
    · have hA : Hid (linsB m L = (cnt L m m (fun _ => false) : Int)) := by
        show linsB m L = _
        unfold linsB
        rw [if_pos ⟨hg, by omega⟩]; simp
      have t0 : decide ((8 : Int) < (m : Int)) = false := by simp; omega
      obtain ⟨i0, hi, hz0, hz1, hz2⟩ := info_parts Tryd.infoB
      go_enter Tryd.func10, Tryd.ntmps10
      go_wp2_with (first
        | (go_at_call 19; refine (specGraphOk_any _ _ _ L _ hL hl).mono ?_; rintro e w0 ⟨rfl, hq⟩; subst hq; rw [hg])
        | (at_make; refine wpList_make_full _ rfl _ _ 49 rfl w0.heap.size 4 i0 (.bool false) 1 Tryd.underlying49 hi hz0 hz1 .i64 .i64 _ _ m rfl rfl rfl rfl (by rw [hz2]; omega) (by unfold maxLen; omega) (Nat.le_refl _) ?_))
      intro w1 hown hgrow
      have hf : Fl w1 w0.heap.size w0.heap.size m (fun _ => false) := by
        rw [toList_madeCells_one] at hown
        exact Fl.new hown
      have hb : Below w0.heap.size w0 w1 := (Below.refl _ w0).grown hgrow (Nat.le_refl _) (fun k h => by cases h)
      clear hown hgrow
      go_wp2_with (go_at_call 25; refine (l14Count_any m _ _ w0.heap.size L w0 hL hl hin h8 (Nat.le_refl _) m _ _ h8 hb hf).mono ?_; rintro e w2 ⟨rfl, hf2, hg2⟩)
      go_ret
      refine ⟨by rw [hA.out]; rfl, hb.trans (grown_below hg2 (Nat.le_refl _) hb.size)⟩
    · have hA : Hid (linsB m L = -1) := by
        show linsB m L = _
        unfold linsB
        rw [if_neg (by omega)]
      have t0 : decide ((8 : Int) < (m : Int)) = true := by simp; omega
      go_enter Tryd.func10, Tryd.ntmps10
      go_wp2_with (go_at_call 19; refine (specGraphOk_any _ _ _ L _ hL hl).mono ?_; rintro e w' ⟨rfl, hq⟩; subst hq; rw [hg])
      go_ret
      exact ⟨by rw [hA.out]; rfl, Below.refl _ _⟩
end Go.Proofs.YtbgeobpdojmdaaaDoor
