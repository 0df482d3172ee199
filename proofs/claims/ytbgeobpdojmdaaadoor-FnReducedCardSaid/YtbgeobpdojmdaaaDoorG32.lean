import Derived.Test.YtbgeobpdojmdaaaDoorG31
namespace Go.Proofs.YtbgeobpdojmdaaaDoor
open Go.RowKit
set_option linter.unusedVariables false
set_option linter.unusedSimpArgs false

theorem Tryd.zeroI : (Tryd.prog.info? 53).map (·.zero) = some (some (.agg (ct fun _ => 0))) := by kernel_rfl
theorem zero_ct (w : World) : (zeroValue 53).run Tryd.prog w = .ok (.agg (ct fun _ => 0)) w := by
  have h := Tryd.zeroI
  cases hq : Tryd.prog.info? 53 with
  | none => rw [hq] at h; cases h
  | some i =>
    rw [hq] at h
    simp only [Option.map_some, Option.some.injEq] at h
    simp [zeroValue, typeInfo, hq, h]

set_option maxHeartbeats 4000000 in
theorem endings_any (L : List (Int × Int)) (n : Nat) (w : World) (hn : n ≤ 8) :
    Calls Tryd.prog 24 #[.agg (lk (eF L)), .int .i64 n] w fun e w' => (∃ f : Nat → Int, e = .returned (.agg (ct f)) ∧ ∀ t, t < 2 ^ n → f t = (gE L n t : Int)) ∧ Below w.heap.size w w' := by
  have hal := alloc_old
  have haf := alloc_oldf
  have hz42 := zero_ct
  go_enter Tryd.func24, Tryd.ntmps24
  go_upto_region 2 with fail
  clear hz42
  obtain ⟨P, hP⟩ : ∃ P : Nat, Hid (P = 2 ^ n) := ⟨_, rfl⟩
  obtain ⟨A, hA⟩ : ∃ A : Nat, Hid (P = A + 1) := ⟨2 ^ n - 1, by show _ = _; rw [hP.out]; have := Nat.two_pow_pos n; omega⟩
  have hP256 : P ≤ 256 := by rw [hP.out]; have : 2 ^ n ≤ 2 ^ 8 := Nat.pow_le_pow_right (by omega) hn; simpa using this
  have hA256 : A < 256 := by have := hA.out; omega
  have ta : IntKind.i64.wrap (2 ^ n) = (A : Int) + 1 := by
    have e : (2 : Int) ^ n = ((P : Nat) : Int) := by rw [hP.out]; simp
    rw [e, IntKind.wrap_i64]; have := hA.out; omega
  have b0 : Hid (Blk (((w.alloc (.cells (lk (eF L)) 41)).alloc (.cells (ct fun _ => 0) 53)).alloc (.cells (ct fun _ => 0) 53)) w.heap.size (lk (eF L)) 41) := ((Blk.new w _ _).alloc _).alloc _
  have b1 : Hid (Blk (((w.alloc (.cells (lk (eF L)) 41)).alloc (.cells (ct fun _ => 0) 53)).alloc (.cells (ct fun _ => 0) 53)) (w.heap.size + 1) (ct fun _ => 0) 53) := (Blk.new' (w.alloc (.cells (lk (eF L)) 41)) _ _ (by simp)).alloc _
  have b2 : Hid (Blk (((w.alloc (.cells (lk (eF L)) 41)).alloc (.cells (ct fun _ => 0) 53)).alloc (.cells (ct fun _ => 0) 53)) (w.heap.size + 1 + 1) (ct fun _ => 0) 53) := Blk.new' ((w.alloc (.cells (lk (eF L)) 41)).alloc (.cells (ct fun _ => 0) 53)) _ _ (by simp)
  have hb : Hid (Below w.heap.size w (((w.alloc (.cells (lk (eF L)) 41)).alloc (.cells (ct fun _ => 0) 53)).alloc (.cells (ct fun _ => 0) 53))) := bl_alloc (bl_alloc (bl_alloc (Below.refl _ _) _) _) _
  generalize (((w.alloc (.cells (lk (eF L)) 41)).alloc (.cells (ct fun _ => 0) 53)).alloc (.cells (ct fun _ => 0) 53)) = X at b0 b1 b2 hb ⊢
  have c2 := (b2.out.cell A).trans (ct_cell _ hA256)
  have f2 := b2.out.frozen A
  have b0' : Hid (Blk (X.setCell ⟨w.heap.size + 1 + 1, A, none⟩ (.int .i64 1)) w.heap.size (lk (eF L)) 41) := b0.out.other (by omega) _ _
  have b1' : Hid (Blk (X.setCell ⟨w.heap.size + 1 + 1, A, none⟩ (.int .i64 1)) (w.heap.size + 1) (ct fun _ => 0) 53) := b1.out.other (by omega) _ _
  have b2' : Hid (Blk (X.setCell ⟨w.heap.size + 1 + 1, A, none⟩ (.int .i64 1)) (w.heap.size + 1 + 1) (ct fun j => if j = A then 1 else 0) 53) := b2.out.ctSet hA256 1
  have hb' : Hid (Below w.heap.size w (X.setCell ⟨w.heap.size + 1 + 1, A, none⟩ (.int .i64 1))) := hb.out.setCell (by simp; omega) _
  go_wp2_with fail
  clear c2 f2
  generalize X.setCell ⟨w.heap.size + 1 + 1, A, none⟩ (.int .i64 1) = Y at b0' b1' b2' hb' ⊢
  clear b0 b1 b2 hb
  go_loopw [7] (fun sv wr => ∃ (j : Nat) (f : Nat → Int), j ≤ A ∧ sv = .int .i64 ((j : Int) - 1) ∧ Hid (Blk wr (w.heap.size + 1 + 1) (ct f) 53) ∧ Hid (∀ t, j ≤ t → t < P → f t = (gE L n t : Int)) ∧ Hid (∀ t, t < j → f t = 0) ∧ Hid (Blk wr w.heap.size (lk (eF L)) 41) ∧ Hid (Blk wr (w.heap.size + 1) (ct fun _ => 0) 53) ∧ Hid (Below w.heap.size w wr)) (fun sv _ => (intOf sv + 1).toNat)
  case atStart =>
    refine ⟨A, _, Nat.le_refl _, by go_num, b2', fun t h1 h2 => ?_, fun t ht => by simp; omega, b0', b1', hb'⟩
    have e : t = A := by have := hA.out; omega
    subst e
    have : gE L n t = 1 := by
      have := gE_full L n
      rwa [show 2 ^ n - 1 = t by have := hA.out; have := hP.out; omega] at this
    simp [this]
  case round =>
    clear b0' b1' b2' hb'
    obtain ⟨j, f, hj, rfl, b2, hgood, hzero, b0, b1, hb⟩ := hrel
    by_cases hj0 : 0 < j
    · obtain ⟨t, rfl⟩ : ∃ t, j = t + 1 := ⟨j - 1, by omega⟩
      have e1 : ((t + 1 : Nat) : Int) - 1 = (t : Int) := by omega
      rw [e1]
      have ht256 : t < 256 := by omega
      have htn : Hid (t < 2 ^ n - 1) := by show _ < _; rw [← hP.out]; have := hA.out; omega
      have hready : ∀ W : World, Calls Tryd.prog 30 #[.agg (lk (eF L)), .int .i64 n, .int .u16 t] W fun e w' => e = .returned (.int .u16 (nb (rdy (eF L) n (fun i => t.testBit i)))) ∧ Below W.heap.size W w' := by
        intro W
        have := ready_any (eF L) n (fun i => t.testBit i) W (by omega)
        rwa [nb_bits t (by omega)] at this
      have HR : Hid (∀ W : World, Calls Tryd.prog 30 #[.agg (lk (eF L)), .int .i64 n, .int .u16 t] W fun e w' => e = .returned (.int .u16 (nb (rdy (eF L) n (fun i => t.testBit i)))) ∧ Below W.heap.size W w') := hready
      have tc : IntKind.u16.wrap (t : Int) = (t : Int) := wrap16 t (by omega)
      obtain ⟨l, hl⟩ : ∃ l, Hid (n - card n t - 1 = l) := ⟨_, rfl⟩
      have hl8 : l ≤ 8 := by have := hl.out; omega
      have hsum : Hid (gE L n t = psum L n l (fun i => t.testBit i) n) := by have := gE_sum L htn.out; rwa [hl.out] at this
      have hnext : Hid (∀ x, x < n → t.testBit x = false → (cnt L n l (addS (fun i => t.testBit i) x) : Int) = f (t ||| 2 ^ x) ∧ t < t ||| 2 ^ x ∧ t ||| 2 ^ x < 256) := by
        intro x hx hb
        have g := gE_next L (by omega) hx hb
        rw [hl.out] at g
        have gt := or_gt hb
        have lt := or_lt (n := n) (t := t) (by have := htn.out; omega) hx
        rw [← hP.out] at lt
        exact ⟨by rw [hgood.out _ (by omega) lt, g], gt, by omega⟩
      clear hready hl
      go_upto_region 9 with (first
        | (go_at_call 30; refine (HR.out _).mono ?_; rintro e w3 ⟨rfl, hb3⟩)
        | refine wpList_load_row rfl 41 (.tmp 2) rfl w.heap.size rfl _ _ _ _ b0.out Tryd.underlying41 rfl (by rw [Tryd.infoLk, lk_size]) ?_)
      have b0 : Hid (Blk w3 w.heap.size (lk (eF L)) 41) := b0.out.later hb3
      have b1 : Hid (Blk w3 (w.heap.size + 1) (ct fun _ => 0) 53) := b1.out.later hb3
      have b2 : Hid (Blk w3 (w.heap.size + 1 + 1) (ct fun u => if u = t then (psum L n l (fun i => t.testBit i) 0 : Int) else f u) 53) := by
        have := b2.out.later hb3
        rwa [ct_congr (g := fun u => if u = t then (psum L n l (fun i => t.testBit i) 0 : Int) else f u) (fun u _ => by
          by_cases e : u = t
          · subst e; simp [psum_zero, hzero.out u (by omega)]
          · simp [e])] at this
      have hb : Hid (Below w.heap.size w w3) := bl_trans hb.out hb3
      clear hb3
      go_loopw [27] (fun iv wr => ∃ k : Nat, k ≤ n ∧ iv = .int .i64 k ∧ Hid (Blk wr (w.heap.size + 1 + 1) (ct fun u => if u = t then (psum L n l (fun i => t.testBit i) k : Int) else f u) 53) ∧ Hid (Blk wr w.heap.size (lk (eF L)) 41) ∧ Hid (Blk wr (w.heap.size + 1) (ct fun _ => 0) 53) ∧ Hid (Below w.heap.size w wr)) (fun iv _ => n - (intOf iv).toNat)
      case atStart => exact ⟨0, Nat.zero_le _, rfl, b2, b0, b1, hb⟩
      case round =>
        clear b0 b1 b2 hb
        obtain ⟨k, hk, rfl, b2, b0, b1, hb⟩ := hrel
        by_cases hlt : k < n
        · have hk16 : k < 16 := by omega
          have hps := psum_succ L n l (fun i => t.testBit i) k
          cases hr : rdy (eF L) n (fun i => t.testBit i) k
          · rw [hr] at hps
            simp only [Bool.false_eq_true, if_false, Nat.add_zero] at hps
            have b2' : Hid (Blk wr (w.heap.size + 1 + 1) (ct fun u => if u = t then (psum L n l (fun i => t.testBit i) (k + 1) : Int) else f u) 53) := by rw [hps]; exact b2
            clear hps
            go_wp2_with (go_at_call 18; refine (has_any _ _ _ hk16).mono ?_; rintro e w' ⟨rfl, hq⟩; subst hq; rw [hr])
            go_roundw
            case rel => exact ⟨k + 1, by omega, by go_num, b2', b0, b1, hb⟩
            case measure => simp [intOf]; omega
          · rw [hr] at hps
            simp only [if_true] at hps
            have hfree : t.testBit k = false := rdy_free hr
            obtain ⟨n1, n2, n3⟩ := hnext.out k hlt hfree
            have g1 := or64 t k ht256 (by omega)
            obtain ⟨u, hu⟩ : ∃ u, Hid (t ||| 2 ^ k = u) := ⟨_, rfl⟩
            rw [hu.out] at n1 n2 n3 g1
            have c1 := (b2.out.cell t).trans (ct_cell _ ht256)
            have c2 := (b2.out.cell u).trans (ct_cell _ n3)
            rw [if_pos rfl] at c1
            rw [if_neg (by omega), ← n1] at c2
            have f1 := b2.out.frozen t
            have hp1 := psum_le L n l (fun i => t.testBit i) k hn hl8 (by omega)
            have hp2 := psum_le L n l (fun i => t.testBit i) (k + 1) hn hl8 (by omega)
            obtain ⟨p0, hp0⟩ : ∃ p, Hid (psum L n l (fun i => t.testBit i) k = p) := ⟨_, rfl⟩
            obtain ⟨p1, hp1'⟩ : ∃ p, Hid (psum L n l (fun i => t.testBit i) (k + 1) = p) := ⟨_, rfl⟩
            obtain ⟨cv, hcv⟩ : ∃ v, Hid (cnt L n l (addS (fun i => t.testBit i) k) = v) := ⟨_, rfl⟩
            rw [hp0.out, hp1'.out, hcv.out] at hps
            rw [hp0.out] at c1 hp1
            rw [hp1'.out] at hp2
            rw [hcv.out] at c2
            have HP : Hid (p1 = p0 + cv) := hps
            have tw2 : IntKind.i64.wrap ((p0 : Int) + (cv : Int)) = (p1 : Int) := by rw [IntKind.wrap_i64]; have := HP.out; omega
            have b2' : Hid (Blk (wr.setCell ⟨w.heap.size + 1 + 1, t, none⟩ (.int .i64 p1)).drew (w.heap.size + 1 + 1) (ct fun u => if u = t then (psum L n l (fun i => t.testBit i) (k + 1) : Int) else f u) 53) := by
              have := b2.out.ctSet ht256 (p1 : Int)
              rw [hp1'.out]
              rwa [ct_congr (g := fun u => if u = t then (p1 : Int) else f u) (fun u _ => by by_cases e : u = t <;> simp [e])] at this
            have b0' : Hid (Blk (wr.setCell ⟨w.heap.size + 1 + 1, t, none⟩ (.int .i64 p1)).drew w.heap.size (lk (eF L)) 41) := b0.out.other (by omega) _ _
            have b1' : Hid (Blk (wr.setCell ⟨w.heap.size + 1 + 1, t, none⟩ (.int .i64 p1)).drew (w.heap.size + 1) (ct fun _ => 0) 53) := b1.out.other (by omega) _ _
            have hb' : Hid (Below w.heap.size w (wr.setCell ⟨w.heap.size + 1 + 1, t, none⟩ (.int .i64 p1)).drew) := bl_drew (bl_setCell hb.out (by simp; omega) _)
            have i1 : (t : Int) < 256 := by omega
            have i2 : (u : Int) < 256 := by omega
            clear hps n1 n2 hfree
            go_wp2_with (go_at_call 18; refine (has_any _ _ _ hk16).mono ?_; rintro e w' ⟨rfl, hq⟩; subst hq; rw [hr])
            go_region
            all_goals
              go_wp2_with fail
              go_roundw
              case rel => exact ⟨k + 1, by omega, by go_num, b2', b0', b1', hb'⟩
              case measure => simp [intOf]; omega
        · have hkn : k = n := by omega
          subst hkn
          have hgood' : Hid (∀ u, t ≤ u → u < P → (if u = t then (psum L k l (fun i => t.testBit i) k : Int) else f u) = (gE L k u : Int)) := by
            intro u h1 h2
            by_cases e : u = t
            · subst e; rw [if_pos rfl, hsum.out]
            · rw [if_neg e]; exact hgood.out u (by omega) h2
          have hzero' : Hid (∀ u, u < t → (if u = t then (psum L k l (fun i => t.testBit i) k : Int) else f u) = 0) := by
            intro u h1
            rw [if_neg (by omega)]; exact hzero.out u (by omega)
          clear hsum hnext
          go_wp2_with fail
          go_roundw
          case rel => exact ⟨t, _, by omega, by go_num, b2, hgood', hzero', b0, b1, hb⟩
          case measure => simp [intOf] <;> omega
    · have hj' : j = 0 := by omega
      subst hj'
      have hfin : Hid (∀ t, t < 2 ^ n → f t = (gE L n t : Int)) := by intro t ht; exact hgood.out t (Nat.zero_le _) (by rw [hP.out]; exact ht)
      have B0 : Blk (wr.setRow (w.heap.size + 1) (ct f)) (w.heap.size + 1) (ct f) 53 := setRow_heap _ _ _ _ _ _ b1.out
      have LC : Below w.heap.size w (wr.setRow (w.heap.size + 1) (ct f)) := below_setRow hb.out (by omega) _
      go_wp2_with (first
        | refine wpList_load_row rfl 53 (.tmp 5) rfl (w.heap.size + 1 + 1) rfl _ _ _ _ b2.out Tryd.underlying53 rfl (by rw [Tryd.infoCt, ct_size]) ?_
        | refine wpList_store_row rfl 53 (.tmp 4) (.tmp 45) rfl (w.heap.size + 1) (ct f) rfl rfl _ _ b1.out (by rw [Tryd.infoCt, ct_size]) (by rw [ct_size, ct_size]) (ct_one _) ?_)
      have r0 := load_ct _ _ _ B0
      refine bodyPost_ret (v := .agg (ct f)) (by simp [results, Tryd.results24, asAddr, Act.put, r0]) rfl ⟨⟨f, rfl, hfin.out⟩, LC⟩
end Go.Proofs.YtbgeobpdojmdaaaDoor
