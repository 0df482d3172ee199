import Derived.Test.YtpgcianhppihiaaDoorG35
namespace Go.Proofs.YtpgcianhppihiaaDoor
open Go.RowKit
set_option linter.unusedVariables false
set_option linter.unusedSimpArgs false

theorem next_from {p : Nat → Bool} : ∀ (d y : Nat), p (y + d) = true → ∃ z, y ≤ z ∧ z ≤ y + d ∧ p z = true ∧ ∀ i, y ≤ i → i < z → p i = false
  | 0, y, h => ⟨y, Nat.le_refl _, by omega, h, fun i h1 h2 => by omega⟩
  | d + 1, y, h => by
    cases hp : p y
    · obtain ⟨z, a, b, c, e⟩ := next_from (p := p) d (y + 1) (by rwa [show y + 1 + d = y + (d + 1) by omega])
      refine ⟨z, by omega, by omega, c, fun i h1 h2 => ?_⟩
      by_cases q : i = y
      · subst q; exact hp
      · exact e i (by omega) h2
    · exact ⟨y, Nat.le_refl _, by omega, hp, fun i h1 h2 => by omega⟩
theorem psum_skip (L : List (Int × Int)) (n l : Nat) (S : Nat → Bool) (x : Nat) : ∀ d, (∀ i, x ≤ i → i < x + d → rdy (eF L) n S i = false) → psum L n l S (x + d) = psum L n l S x
  | 0, _ => rfl
  | d + 1, h => by
    rw [show x + (d + 1) = x + d + 1 by omega, psum_succ, h (x + d) (by omega) (by omega), psum_skip L n l S x d (fun i h1 h2 => h i h1 (by omega))]
    simp
/-- one that goes on: if more is left than what the first x make, another one is ready. -/
theorem more_ready {L : List (Int × Int)} {n l : Nat} {S : Nat → Bool} {k x : Nat} (h : k < psum L n l S n) (hx : x ≤ n) (hk : psum L n l S x ≤ k) : ∃ z, x ≤ z ∧ z < n ∧ rdy (eF L) n S z = true ∧ (∀ i, x ≤ i → i < z → rdy (eF L) n S i = false) ∧ psum L n l S z = psum L n l S x := by
  obtain ⟨q, q1, _, q3, q4, q5⟩ := pk_some h
  have hq : x ≤ q := by
    by_cases e : x ≤ q
    · exact e
    · have := psum_le_of L n l S (x := q + 1) (y := x) (by omega); omega
  obtain ⟨z, a, b, c, e⟩ := next_from (p := fun i => rdy (eF L) n S i) (q - x) x (by rwa [show x + (q - x) = q by omega])
  refine ⟨z, a, by omega, c, e, ?_⟩
  have := psum_skip L n l S x (z - x) (fun i h1 h2 => e i h1 (by omega))
  rwa [show x + (z - x) = z by omega] at this
theorem LI.next {L : List (Int × Int)} {n k y : Nat} {O : List Int} (hn : n ≤ 8) (h : LI L n O k) (hj : O.length < n) (hy : y < n) (hr : rdy (eF L) n (stands O) y = true) : (bw (stands (O ++ [(y : Int)]))).toNat < 2 ^ n ∧ gE L n (bw (stands (O ++ [(y : Int)]))).toNat = cnt L n (n - O.length - 1) (addS (stands O) y) := by
  obtain ⟨a, b, c, d⟩ := h
  have hf : (bw (stands O)).toNat.testBit y = false := by rw [bw_test _ (by omega)]; exact rdy_free hr
  have c' : (bw (stands (O ++ [(y : Int)]))).toNat < 2 ^ n := by rw [bw_snoc O (by omega)]; exact or_lt c hy
  have d' : card n (bw (stands (O ++ [(y : Int)]))).toNat = (O ++ [(y : Int)]).length := by
    rw [bw_snoc O (by omega), card_add _ _ hf n, if_pos hy, d]; simp
  refine ⟨c', ?_⟩
  rw [LI.table hn c' d', addS_stands, List.length_append, List.length_singleton, show n - (O.length + 1) = n - O.length - 1 by omega]

set_option maxRecDepth 100000 in
set_option maxHeartbeats 8000000 in
theorem implLinear_any (n kk : Int) (s : Option Addr) (c : Nat) (L : List (Int × Int)) (w : World) (hL : Eds w s L) (hl : L.length ≤ 1048576) (hT : DbT w) :
    Calls Tryd.prog 14 #[.int .i64 n, .slice s L.length c, .int .i64 kk] w fun e w' => CanS w (linrB n L kk) e w' := by
  have hal := alloc_old
  have haf := alloc_oldf
  cases hg : gOk n L
  · have hA : Hid (linrB n L kk = none) := by
      show _ = _
      have : linsB n L = -1 := by simp [linsB, hg]
      unfold linrB
      rw [if_neg (by omega)]
    go_enter Tryd.func14, Tryd.ntmps14
    go_wp2_with (go_at_call 29; refine (implGraphOk_any _ _ _ L _ hL hl).mono ?_; rintro e w' ⟨rfl, hb1⟩; rw [hg])
    refine bodyPost_ret (v := .tuple #[.slice none 0 0, .bool false]) (by simp [results, Tryd.results14]) rfl ?_
    rw [hA.out]; exact CanS.none hb1
  · obtain ⟨m, rfl, hm16, hl2, hin, h16⟩ := gOk_open hg
    by_cases hm : m ≤ 8
    · have hlin : linsB m L = (gE L m 0 : Int) := by
        unfold linsB
        rw [if_pos ⟨hg, by omega⟩, gE_zero]; simp
      have t0 : decide ((8 : Int) < (m : Int)) = false := by simp; omega
      have HT : Hid (DbT w) := hT
      have hz49 := zero_ct
      clear hT hin
      go_enter Tryd.func14, Tryd.ntmps14
      go_upto_region 4 with (first
        | (go_at_call 29; refine (implGraphOk_any _ _ _ L _ hL hl).mono ?_; rintro e w1 ⟨rfl, hb1⟩; rw [hg])
        | (go_at_call 30; refine (linksOf_any _ _ L _ (hL.later hb1) hl h16).mono ?_; rintro e w2 ⟨rfl, hb2⟩)
        | refine wpList_store_row rfl 51 (.tmp 8) (.tmp 26) rfl w2.heap.size (lk (eR L)) rfl rfl _ _ (blk2 w2 _ _ _ _).1 (by rw [Tryd.infoLk, lk_size]) (by rw [lk_size]; rfl) (lk_one _) ?_
        | refine wpList_store_row rfl 51 (.tmp 9) (.tmp 27) rfl (w2.heap.size + 1) (lk (eF L)) rfl rfl _ _ ((setRow_other _ _ _ _ (by omega)).trans (blk2 w2 _ _ _ _).2) (by rw [Tryd.infoLk, lk_size]) (by rw [lk_size]; rfl) (lk_one _) ?_)
      rw [← lk_zero]
      obtain ⟨k0', k1, l3⟩ := two_lk w2 (eR L) (eF L)
      have L3 : Hid (Below w.heap.size w (twoW w2 (eR L) (eF L))) := bl_trans (bl_trans hb1 hb2) l3
      clear hb1 hb2 l3 k0'
      change Code.wp _ _ _ _ (twoW w2 (eR L) (eF L))
      generalize twoW w2 (eR L) (eF L) = X at k1 L3 ⊢
      generalize w2.heap.size = gb at k1 ⊢
      go_upto_region 5 with (first
        | refine wpList_load_row rfl 51 (.tmp 9) rfl (gb + 1) rfl _ _ _ _ k1 Tryd.underlying51 rfl (by rw [Tryd.infoLk, lk_size]) ?_
        | (go_at_call 39; refine (endings_any L m _ hm).mono ?_; rintro e w4 ⟨⟨f, rfl, hf⟩, hb4⟩)
        | refine wpList_store_row rfl 64 (.tmp 10) (.tmp 30) rfl w4.heap.size (ct f) rfl rfl _ _ (Blk.new w4 _ _) (by rw [Tryd.infoCt, ct_size]) (by rw [ct_size, ct_size]) (ct_one _) ?_)
      have e1 : Hid (Blk ((w4.alloc (.cells (ct fun _ => 0) 64)).setRow w4.heap.size (ct f)) w4.heap.size (ct f) 64) := setRow_heap _ _ _ _ _ _ (Blk.new w4 (ct fun _ => 0) 64)
      have hlt4 : gb + 1 < w4.heap.size := (k1.later hb4).lt
      have k1 : Hid (Blk ((w4.alloc (.cells (ct fun _ => 0) 64)).setRow w4.heap.size (ct f)) (gb + 1) (lk (eF L)) 51) := (setRow_other _ _ _ _ (by omega)).trans ((k1.later hb4).alloc _)
      have l4 : Below w.heap.size w w4 := bl_trans L3.out hb4
      have L4 : Hid (Below w.heap.size w ((w4.alloc (.cells (ct fun _ => 0) 64)).setRow w4.heap.size (ct f))) := below_setRow (bl_alloc l4 _) l4.size _
      generalize (w4.alloc (.cells (ct fun _ => 0) 64)).setRow w4.heap.size (ct f) = Y at e1 k1 L4 ⊢
      generalize w4.heap.size = eb at e1 hlt4 ⊢
      have HF : Hid (∀ t, t < 2 ^ m → f t = (gE L m t : Int)) := hf
      have hne : Hid (¬ gb + 1 = eb) := by show ¬ _; omega
      clear hz49 hf hb4 l4 L3 hlt4
      have c0 := (e1.out.cell 0).trans (ct_cell f (by omega))
      rw [HF.out 0 (Nat.two_pow_pos m), ← hlin] at c0
      obtain ⟨B0, hB0⟩ : ∃ v, Hid (linsB m L = v) := ⟨_, rfl⟩
      rw [hB0.out] at c0
      cases hbel : decide (0 ≤ kk ∧ kk < B0)
      · have hA : Hid (linrB m L kk = none) := by
          show _ = _
          have := of_decide_eq_false hbel
          unfold linrB
          rw [if_neg (by rw [hB0.out]; exact this)]
        go_wp2_with (go_at_call 40; refine (isBelow_any _ _ _).mono ?_; rintro e w' ⟨rfl, hq⟩; subst hq; rw [hbel])
        refine bodyPost_ret (v := .tuple #[.slice none 0 0, .bool false]) (by simp [results, Tryd.results14]) rfl ?_
        rw [hA.out]; exact CanS.none L4.out
      · have hbel' := of_decide_eq_true hbel
        obtain ⟨k0, rfl⟩ : ∃ k0 : Nat, kk = (k0 : Int) := ⟨kk.toNat, by omega⟩
        have HA : Hid (linrB m L k0 = some (lSq L m k0 m).1) := by
          show _ = _
          unfold linrB
          rw [if_pos (by rw [hB0.out]; exact hbel')]; simp
        have hcnt : k0 < cnt L m m (fun _ => false) := by rw [← gE_zero]; have := hB0.out; rw [hlin] at this; omega
        have HLI : Hid (LI L m [] k0) := LI.start hcnt
        have hk0b : k0 ≤ 16777216 := by have := cnt_le L m hm m (fun _ => false); have := pow8 hm; omega
        have V0 : Hid (VRow Y w.heap.size (.slice none 0 0) []) := World.ownsRow_nil _ _ _ _
        clear hbel' hcnt hlin
        go_wp2_with (go_at_call 40; refine (isBelow_any _ _ _).mono ?_; rintro e w' ⟨rfl, hq⟩; subst hq; rw [hbel])
        clear c0 hbel
        go_loopw [2, 11, 12, 37] (fun kv ov sv iv wr => ∃ (O : List Int) (k : Nat) (so : Option Addr) (co : Nat), O.length ≤ m ∧ k ≤ k0 ∧ kv = .int .i64 k ∧ ov = .slice so O.length co ∧ sv = .int .u16 (nb (stands O)) ∧ iv = .int .i64 O.length ∧ Hid (lSq L m k0 O.length = (O, k)) ∧ Hid (LI L m O k) ∧ Hid (VRow wr w.heap.size (.slice so O.length co) O) ∧ Hid (Blk wr eb (ct f) 64) ∧ Hid (Blk wr (gb + 1) (lk (eF L)) 51) ∧ Hid (Below w.heap.size w wr)) (fun _ _ _ iv _ => m - (intOf iv).toNat)
        case atStart => exact ⟨[], k0, _, _, Nat.zero_le _, Nat.le_refl _, rfl, rfl, by rw [stands_nil], rfl, rfl, HLI, V0, e1, k1, L4⟩
        case round =>
          clear e1 k1 L4 HLI V0
          obtain ⟨O, k, so, co, hO, hkk, rfl, rfl, rfl, rfl, hseq, hLI, hrow, e1, k1, hb⟩ := hrel
          by_cases hlt : O.length < m
          · have t1 : decide ((O.length : Int) < (m : Int)) = true := by simp; omega
            obtain ⟨l, hl'⟩ : ∃ l, Hid (m - O.length - 1 = l) := ⟨_, rfl⟩
            have hkn : Hid (k < psum L m l (stands O) m) := by
              have := hLI.out.2.1
              rw [psum_all]
              rwa [show m - O.length = l + 1 by have := hl'.out; omega] at this
            obtain ⟨y0, hy1, hy2, hy3, hy4, hy5⟩ := more_ready (x := 0) hkn.out (Nat.zero_le _) (by rw [psum_zero]; omega)
            have hle0 : Hid (Least (rdy (eF L) m (stands O)) y0) := ⟨by omega, hy3, fun i hi => hy4 i (by omega) hi⟩
            have hset0 : Hid (nb (rdy (eF L) m (stands O)) = nb (fun i => rdy (eF L) m (stands O) i && decide (y0 ≤ i))) := nb_congr fun i hi => by
              by_cases e : y0 ≤ i
              · simp [e]
              · rw [hy4 i (by omega) (by omega)]; simp
            rw [psum_zero] at hy5
            clear hy1 hy4
            go_upto_region 13 with (first
              | (go_at_call 31; refine (ready_any (eF L) m (stands O) _ (by omega)).mono ?_; rintro e w3 ⟨rfl, hb3⟩)
              | (go_at_call 32; refine (least_any _ y0 _ hle0.out (HT.out.later (bl_trans hb.out hb3))).mono ?_; rintro e w5 ⟨rfl, hq5⟩; subst hq5)
              | refine wpList_load_row rfl 51 (.tmp 9) rfl (gb + 1) rfl _ _ _ _ k1.out Tryd.underlying51 rfl (by rw [Tryd.infoLk, lk_size]) ?_)
            have hrow : Hid (VRow w5 w.heap.size (.slice so O.length co) O) := hrow.out.later hb3
            have k1 : Hid (Blk w5 (gb + 1) (lk (eF L)) 51) := k1.out.later hb3
            have e1 : Hid (Blk w5 eb (ct f) 64) := e1.out.later hb3
            have hb : Hid (Below w.heap.size w w5) := bl_trans hb.out hb3
            clear hb3 hle0
            rw [hset0.out]
            clear hset0
            go_loop [2, 13, 14] (fun kv rv nv => ∃ y : Nat, y < m ∧ nv = .int .i64 y ∧ rdy (eF L) m (stands O) y = true ∧ rv = .int .u16 (nb (fun i => rdy (eF L) m (stands O) i && decide (y ≤ i))) ∧ psum L m l (stands O) y ≤ k ∧ kv = .int .i64 ((k - psum L m l (stands O) y : Nat) : Int)) (fun _ _ nv => m - (intOf nv).toNat)
            case atStart => exact ⟨y0, hy2, rfl, hy3, rfl, by rw [hy5]; omega, by rw [hy5]; simp⟩
            case round =>
              clear hy2 hy3 hy5
              obtain ⟨y, hym, rfl, hr, rfl, hpy, rfl⟩ := hrel
              have hy16 : y < 16 := by omega
              obtain ⟨n1, n2⟩ := hLI.out.next hm hlt hym hr
              rw [hl'.out] at n2
              have g1 := or16 (stands O) (fun j => decide (j = y))
              rw [stands_snoc] at g1
              have gT : nb (stands (O ++ [(y : Int)])) = (((bw (stands (O ++ [(y : Int)]))).toNat : Nat) : Int) := rfl
              have hTf := HF.out _ n1
              rw [n2] at hTf
              have hP256 : 2 ^ m ≤ 256 := by have : 2 ^ m ≤ 2 ^ 8 := Nat.pow_le_pow_right (by omega) hm; simpa using this
              obtain ⟨T, hTd⟩ : ∃ T, Hid ((bw (stands (O ++ [(y : Int)]))).toNat = T) := ⟨_, rfl⟩
              have GT : Hid (nb (stands (O ++ [(y : Int)])) = (T : Int)) := by show _ = _; rw [gT, hTd.out]
              rw [GT.out] at g1
              rw [hTd.out] at n1 hTf
              have hT256 : T < 256 := by omega
              have hps := psum_succ L m l (stands O) y
              rw [hr] at hps
              simp only [if_true] at hps
              obtain ⟨cv, hcv⟩ : ∃ v, Hid (cnt L m l (addS (stands O) y) = v) := ⟨_, rfl⟩
              obtain ⟨p0, hp0⟩ : ∃ p, Hid (psum L m l (stands O) y = p) := ⟨_, rfl⟩
              obtain ⟨p1, hp1⟩ : ∃ p, Hid (psum L m l (stands O) (y + 1) = p) := ⟨_, rfl⟩
              rw [hp0.out, hp1.out, hcv.out] at hps
              rw [hcv.out] at hTf
              rw [hp0.out] at hpy ⊢
              have HP : Hid (p1 = p0 + cv) := hps
              have cT := (e1.out.cell T).trans (ct_cell f hT256)
              rw [hTf] at cT
              obtain ⟨kc, hkc⟩ : ∃ q, Hid (k - p0 = q) := ⟨_, rfl⟩
              rw [hkc.out]
              have iT : (T : Int) < 256 := by omega
              clear hps gT n1 n2 hTf hP256
              by_cases hlast : kc < cv
              · have t5 : decide ((cv : Int) ≤ (kc : Int)) = false := by simp; omega
                have hpk : Hid (pkF L m l (stands O) k = some y) := pk_is hym (by rw [hp0.out]; exact hpy) (by rw [hp1.out]; have := HP.out; have := hkc.out; omega)
                have hseq' : Hid (lSq L m k0 (O.length + 1) = (O ++ [(y : Int)], kc)) := by
                  have := lSq_step hseq.out (by rw [hl'.out]; exact hpk.out)
                  rwa [hl'.out, hp0.out, hkc.out] at this
                have hLI' : Hid (LI L m (O ++ [(y : Int)]) kc) := by
                  have := hLI.out.step hm hlt hym (x := y) (by rw [hl'.out, hp0.out]; exact hpy) (by rw [hl'.out, hp1.out]; have := HP.out; have := hkc.out; omega) hr
                  rwa [hl'.out, hp0.out, hkc.out] at this
                have hap1 : ¬ (Value.slice so O.length co).ownBlock = some (gb + 1) := hrow.out.apart k1.out (by decide)
                have hap2 : ¬ (Value.slice so O.length co).ownBlock = some eb := hrow.out.apart e1.out (by decide)
                clear hpk
                have hz := (Blk.new w5 #[.int .i64 (y : Int)] 3).cell 0
                have Va := hrow.out.later (bl_alloc (Below.refl _ w5) (.cells #[.int .i64 (y : Int)] 3))
                obtain ⟨bN, hbN⟩ : ∃ q, Hid (w5.heap.size = q) := ⟨_, rfl⟩
                go_wp2_with (first
                  | (go_at_call 33; refine (bitOf_any _ _ hy16).mono ?_; rintro e w6 ⟨rfl, hq⟩; subst hq)
                  | (at_builtin; refine wpList_append_one _ rfl (.tmp 67) (.tmp 69) rfl w.heap.size (.slice so O.length co) O rfl Va _ (y : Int) rfl hz (by omega) ?_))
                intro g1' d1 w7 hv7 hg7 ho7 hl7
                have k7 : Hid (Blk w7 (gb + 1) (lk (eF L)) 51) := by
                  have h0 := k1.out.alloc (.cells #[.int .i64 (y : Int)] 3)
                  show _ = _
                  rw [hg7.block (gb + 1) h0.lt (fun e => hap1 e.symm)]; exact h0
                have e7 : Hid (Blk w7 eb (ct f) 64) := by
                  have h0 := e1.out.alloc (.cells #[.int .i64 (y : Int)] 3)
                  show _ = _
                  rw [hg7.block eb h0.lt (fun e => hap2 e.symm)]; exact h0
                have hB : w.heap.size ≤ g1' := by
                  rcases ho7 with h | h
                  · exact (hrow.out.lt _ h).1
                  · have := hb.out.size; (try simp at h); omega
                have hv7 : Hid (VRow w7 w.heap.size (.slice (some ⟨g1', 0, none⟩) (O.length + 1) d1) (O ++ [(y : Int)])) := hv7.up hB
                have hb7 : Hid (Below w.heap.size w w7) := (bl_alloc hb.out _).grown hg7 (by simp; have := hb.out.size; omega) (fun k h => (hrow.out.lt k h).1)
                clear hz Va hg7 ho7 hl7 hB hrow hb k1 e1 cT
                obtain ⟨O', hO'⟩ : ∃ O', Hid (O ++ [(y : Int)] = O') := ⟨_, rfl⟩
                have hlen : Hid (O.length + 1 = O'.length) := by rw [← hO'.out]; simp [Hid]
                rw [hO'.out] at hv7 hseq' hLI' GT
                rw [hlen.out] at hv7 hseq' ⊢
                have hO2 : O'.length ≤ m := by have := hlen.out; omega
                have hO3 : O.length < O'.length := by have := hlen.out; omega
                have hO4 : Hid (((O.length : Int) + 1) = (O'.length : Int)) := by have := hlen.out; show _ = _; omega
                have hkc2 : kc ≤ k0 := by have := hkc.out; omega
                go_wp2_with (first
                  | (go_at_call 33; refine (bitOf_any _ _ hy16).mono ?_; rintro e w6 ⟨rfl, hq⟩; subst hq))
                go_roundw
                case rel => exact ⟨O', kc, _, _, hO2, hkc2, rfl, rfl, by rw [GT.out], by rw [← hO4.out], hseq', hLI', hv7, e7, k7, hb7⟩
                case measure => simp [intOf]; omega
              · have t5 : decide ((cv : Int) ≤ (kc : Int)) = true := by simp; omega
                have hp1k : p1 ≤ k := by have := HP.out; have := hkc.out; omega
                have tw2 : IntKind.i64.wrap ((kc : Int) - (cv : Int)) = ((k - p1 : Nat) : Int) := by rw [IntKind.wrap_i64]; have := HP.out; have := hkc.out; omega
                obtain ⟨z, z1, z2, z3, z4, z5⟩ := more_ready (x := y + 1) hkn.out (by omega) (by rw [hp1.out]; exact hp1k)
                rw [hp1.out] at z5
                have g2 := andNot16 (fun i => rdy (eF L) m (stands O) i && decide (y ≤ i)) (fun j => decide (j = y))
                have hset : Hid (nb (fun i => (rdy (eF L) m (stands O) i && decide (y ≤ i)) && !decide (i = y)) = nb (fun i => rdy (eF L) m (stands O) i && decide (z ≤ i))) := nb_congr fun i hi => by
                  by_cases q1 : z ≤ i
                  · simp [q1, show y ≤ i by omega, show ¬ i = y by omega]
                  · by_cases q2 : y + 1 ≤ i
                    · rw [z4 i q2 (by omega)]; simp
                    · by_cases q3 : i = y
                      · simp [q3, show ¬ z ≤ y by omega]
                      · simp [q3, show ¬ y ≤ i by omega, q1]
                rw [hset.out] at g2
                have hle : Hid (Least (fun i => rdy (eF L) m (stands O) i && decide (z ≤ i)) z) := ⟨by omega, by simp [z3], fun i hi => by simp [show ¬ z ≤ i by omega]⟩
                obtain ⟨kd, hkd⟩ : ∃ q, Hid (k - p1 = q) := ⟨_, rfl⟩
                rw [hkd.out] at tw2
                clear hset z4
                go_wp2_with (first
                  | (go_at_call 33; refine (bitOf_any _ _ hy16).mono ?_; rintro e w6 ⟨rfl, hq⟩; subst hq)
                  | (go_at_call 32; refine (least_any _ z _ hle.out (HT.out.later hb.out)).mono ?_; rintro e w6 ⟨rfl, hq⟩; subst hq))
                go_round
                case rel => exact ⟨z, z2, rfl, z3, rfl, by rw [z5]; exact hp1k, by rw [z5, hkd.out]⟩
                case measure => simp [intOf]; omega
          · have hOm : O.length = m := by omega
            have hA : Hid (linrB m L k0 = some O) := by have := hseq.out; rw [hOm] at this; show _ = _; rw [HA.out, this]
            clear hOm
            go_wp2_with fail
            refine bodyPost_ret (v := .tuple #[.slice so O.length co, .bool true]) (by simp [results, Tryd.results14]) rfl ?_
            rw [hA.out]
            exact ⟨so, co, rfl, hrow.out, hb.out⟩
    · have hA : Hid (linrB m L kk = none) := by
        show _ = _
        have : linsB m L = -1 := by unfold linsB; rw [if_neg (by omega)]
        unfold linrB
        rw [if_neg (by omega)]
      have t0 : decide ((8 : Int) < (m : Int)) = true := by simp; omega
      go_enter Tryd.func14, Tryd.ntmps14
      go_wp2_with (go_at_call 29; refine (implGraphOk_any _ _ _ L _ hL hl).mono ?_; rintro e w' ⟨rfl, hb1⟩; rw [hg])
      refine bodyPost_ret (v := .tuple #[.slice none 0 0, .bool false]) (by simp [results, Tryd.results14]) rfl ?_
      rw [hA.out]; exact CanS.none hb1
end Go.Proofs.YtpgcianhppihiaaDoor
