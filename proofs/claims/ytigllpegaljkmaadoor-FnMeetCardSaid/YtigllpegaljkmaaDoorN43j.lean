import Derived.Test.YtigllpegaljkmaaDoorN44j
namespace Go.Proofs.YtigllpegaljkmaaDoor
open Go.RowKit Go.Maps Go.WideMaps
set_option linter.unusedVariables false
set_option linter.unusedSimpArgs false
set_option maxRecDepth 100000

theorem both_run {A : List Int} (h : Thr A) {x y : Nat} (hx : x < 16) (hy : y < 16) : (nb (fun i => (fB A i && !fD A i) && (decide (i = x) || decide (i = y))) == nb (fun i => decide (i = x) || decide (i = y))) = (run1 A x && run1 A y) := by
  rw [Bool.eq_iff_iff, beq_iff_eq, Bool.and_eq_true]
  constructor
  · intro e
    have := nb_inj e x hx
    have h2 := nb_inj e y hy
    simp only [run_bits h] at this h2
    simp at this h2
    exact ⟨this, h2⟩
  · rintro ⟨h1, h2⟩
    refine nb_congr fun i _ => ?_
    rw [run_bits h]
    by_cases e1 : i = x
    · subst e1; simp [h1]
    · by_cases e2 : i = y
      · subst e2; simp [h2]
      · simp [e1, e2]
theorem URow.new {w : World} {b : Nat} {p q : Int} (h : Blk w b #[.int .u16 p, .int .u16 q] 78) : URow w b (.slice (some ⟨b, 0, none⟩) 1 1) [(p, q)] := ⟨rfl, Or.inr ⟨b, 1, _, rfl, Nat.le_refl _, h, Nat.le_refl _, by unfold maxLen; omega, rfl, rfl⟩⟩
theorem turned_below {B : Nat} {w X Y : World} {b : Nat} (h : Below B w X) (hB : B ≤ X.heap.size) (ht : X.mapTurned Y b) (hb : B ≤ b) : Below B w Y := h.grown ht.grown hB (fun q hq => by cases hq; exact hb)
def pks (Q : List Way) : List (Int × Int) := Q.map fun q => pkey q.1
theorem pks_len (Q : List Way) : (pks Q).length = Q.length := by simp [pks]
theorem pks_at {Q : List Way} {i : Nat} {q : Way} (h : Q[i]? = some q) : (pks Q)[i]? = some (pkey q.1) := by simp [pks, h]
theorem pks_snoc (Q : List Way) (q : Way) : pks (Q ++ [q]) = pks Q ++ [pkey q.1] := by simp [pks]
theorem URow.shape {w : World} {B : Nat} {v : Value} {L : List (Int × Int)} (h : URow w B v L) : ∃ s c, v = .slice s L.length c := by
  rcases h.form with ⟨rfl, rfl⟩ | ⟨g, cap, rfl, _⟩
  · exact ⟨_, _, rfl⟩
  · exact ⟨_, _, rfl⟩

set_option maxHeartbeats 16000000 in
theorem wayTo_any (wk : Int) (m x y : Nat) (L : List (Int × Int)) (w : World) (hT : DbT w) (hin : Inn m L) (hm : m ≤ 6) (hx : x < m) (hy : y < m) :
    Calls Tryd.prog 20 #[.agg (pl m (eF L) wk), .int .u16 (nb fun i => decide (i = x) || decide (i = y))] w fun e w' => PlS w (bfs L wk x y 1000 [(List.replicate m 0, [])] 0) e w' := by
  have HT : Hid (DbT w) := hT
  have HI : Hid (Inn m L) := hin
  clear hT hin
  obtain ⟨P0, hP⟩ : ∃ P, Hid (pl m (eF L) wk = P) := ⟨_, rfl⟩
  have hPs : P0.size = 18 := by rw [← hP.out]; exact pl_size _ _ _
  rw [hP.out]
  have kp := (Blk.new w P0 51).alloc (.cells #[.int .u16 0, .int .u16 0] 78)
  have ku := Blk.new' (w.alloc (.cells P0 51)) #[.int .u16 0, .int .u16 0] 78 (n := w.heap.size + 1) (by simp)
  have lX : Below w.heap.size w ((w.alloc (.cells P0 51)).alloc (.cells #[.int .u16 0, .int .u16 0] 78)) := bl_alloc (bl_alloc (Below.refl _ w) _) _
  have mk := makeWays ((w.alloc (.cells P0 51)).alloc (.cells #[.int .u16 0, .int .u16 0] 78))
  have zX : ((w.alloc (.cells P0 51)).alloc (.cells #[.int .u16 0, .int .u16 0] 78)).heap.size = w.heap.size + 2 := by simp
  obtain ⟨X, hX⟩ : ∃ X, (w.alloc (.cells P0 51)).alloc (.cells #[.int .u16 0, .int .u16 0] 78) = X := ⟨_, rfl⟩
  rw [hX] at kp ku lX mk zX
  obtain ⟨W1, r1, wm1, t1⟩ := WM.one (WM.made X) m w.heap.size
  have kp1 : Hid (Blk W1 w.heap.size P0 51) := (kp.alloc _).keptO t1.grown (by simp; omega)
  have ku1 : Blk W1 (w.heap.size + 1) #[.int .u16 0, .int .u16 0] 78 := (ku.alloc _).keptO t1.grown (by simp; omega)
  have U1 : Hid (URow W1 w.heap.size (.slice (some ⟨w.heap.size + 1, 0, none⟩) 1 1) (pks [(List.replicate m 0, [])])) := by
    have := URow.new ku1
    rw [show pks [(List.replicate m 0, [])] = [(0, 0)] by simp [pks, pkey, nb_B0, nb_D0]]
    exact this.mono (by omega)
  have L1 : Hid (Below w.heap.size w W1) := turned_below (bl_alloc lX _) (by simp; omega) t1 (by omega)
  rw [zX] at mk r1
  have WM1 : Hid (WM W1 w.heap.size (w.heap.size + 2) [(List.replicate m 0, [])]) := by rw [← zX]; exact wm1
  clear wm1 t1 ku1 kp ku lX
  obtain ⟨b7, hb7⟩ : ∃ b, w.heap.size + 2 = b := ⟨_, rfl⟩
  have hB7 : Hid (w.heap.size ≤ b7) := by show _ ≤ _; omega
  rw [hb7] at mk r1 WM1
  have xX := hX
  go_enter Tryd.func20, Tryd.ntmps20
  go_wp2_with fail
  clear hX xX mk r1 zX hb7
  go_loopw [6, 8] (fun v6 v8 wr => ∃ (i : Nat) (so : Option Addr) (co : Nat) (Q : List Way), i ≤ Q.length ∧ v8 = .int .i64 i ∧ v6 = .slice so Q.length co ∧ Hid (URow wr w.heap.size (.slice so Q.length co) (pks Q)) ∧ Hid (WM wr w.heap.size b7 Q) ∧ Hid (QOk m Q) ∧ Hid (bfs L wk x y 1000 [(List.replicate m 0, [])] 0 = bfs L wk x y (1000 - i) Q i) ∧ Hid (Blk wr w.heap.size P0 51) ∧ Hid (Below w.heap.size w wr)) (fun _ v8 _ => 1000 - (intOf v8).toNat)
  case atStart => exact ⟨0, _, _, [(List.replicate m 0, [])], Nat.zero_le _, rfl, rfl, U1, WM1, QOk.one m, rfl, kp1, L1⟩
  case round =>
    clear U1 WM1 kp1 L1 W1
    obtain ⟨i, so, co, Q, hiQ, rfl, rfl, hU, hW, hQ, hR, hK, hb⟩ := hrel
    have hQ729 : Q.length ≤ 729 := hQ.out.len hm
    by_cases hlt : i < Q.length
    · obtain ⟨q, hq⟩ : ∃ q, Q[i]? = some q := ⟨Q[i], by simp [hlt]⟩
      have hqm : q ∈ Q := List.mem_of_getElem? hq
      obtain ⟨hqT, hqL, hqS⟩ := hQ.out.st q hqm
      have hR12 := hQ.out.way hm hqm
      obtain ⟨A, R⟩ := q
      simp only at hqT hqL hqS hR12
      have HqT : Hid (Thr A) := hqT
      have HqL : Hid (A.length = m) := hqL
      obtain ⟨g, c1, hv, d0, d1⟩ := hU.out.get (pks_at hq)
      have hug := hU.out.lt
      rw [pks_len] at hv
      simp only [Value.slice.injEq, true_and] at hv
      obtain ⟨rfl, rfl⟩ := hv
      simp only [pkey] at d0 d1
      have hstep : Hid (bfs L wk x y (1000 - i) Q i = if (run1 A x && run1 A y) = true then some R else bfs L wk x y (1000 - (i + 1)) (expQ Q (A, R) (mvs L wk A)) (i + 1)) := bfs_some hq (by omega)
      have HQN : Hid (Q[i]? = some (A, R)) := hq
      have HQM : Hid ((A, R) ∈ Q) := hqm
      have k9 := Blk.new wr #[.int .u16 (nb (fB A)), .int .u16 (nb (fD A))] 78
      have K9 : Hid (Blk (wr.alloc (.cells #[.int .u16 (nb (fB A)), .int .u16 (nb (fD A))] 78)) wr.heap.size #[.int .u16 (nb (fB A)), .int .u16 (nb (fD A))] 78) := k9
      have LZ : Hid (Below wr.heap.size wr (wr.alloc (.cells #[.int .u16 (nb (fB A)), .int .u16 (nb (fD A))] 78))) := bl_alloc (Below.refl _ _) _
      have hne9 : Hid (¬ (Value.slice (some ⟨g, 0, none⟩) Q.length co).ownBlock = some wr.heap.size) := fun e => by have := (hug _ e).2; omega
      have t0 : decide ((i : Int) < (Q.length : Int)) = true := by simp; omega
      have kI : (i : Int) < (Q.length : Int) := by omega
      have g1 := and16 (fun i => fB A i && !fD A i) (fun i => decide (i = x) || decide (i = y))
      have g2 := both_run hqT (x := x) (y := y) (by omega) (by omega)
      clear k9 hug hqm hq hqT hqL hqS
      rw [Nat.mul_comm] at d0 d1
      go_wp2_with fail
      obtain ⟨Z, hZ⟩ : ∃ Z, wr.alloc (.cells #[.int .u16 (nb (fB A)), .int .u16 (nb (fD A))] 78) = Z := ⟨_, rfl⟩
      obtain ⟨h9, hh9⟩ : ∃ h, wr.heap.size = h := ⟨_, rfl⟩
      rw [hZ] at K9 LZ ⊢
      have L9 : Hid (Below w.heap.size w Z) := bl_trans hb.out LZ.out
      have hK9 : Hid (Blk Z w.heap.size P0 51) := hK.out.later LZ.out
      have hU9 : Hid (URow Z w.heap.size (.slice (some ⟨g, 0, none⟩) Q.length co) (pks Q)) := hU.out.later LZ.out
      have hW9 : Hid (WM Z w.heap.size b7 Q) := hW.out.later LZ.out
      rw [hh9] at K9 hne9 ⊢
      clear hZ hh9 LZ hb hK hU hW d0 d1
      refine (running_any (fB A) (fD A) Z).mono ?_
      rintro e w1 ⟨rfl, hb1⟩
      have L1 : Hid (Below w.heap.size w w1) := bl_trans L9.out hb1
      have hK1 : Hid (Blk w1 w.heap.size P0 51) := hK9.out.later hb1
      have K91 : Hid (Blk w1 h9 #[.int .u16 (nb (fB A)), .int .u16 (nb (fD A))] 78) := K9.out.later hb1
      have hU1 : Hid (URow w1 w.heap.size (.slice (some ⟨g, 0, none⟩) Q.length co) (pks Q)) := hU9.out.later hb1
      have hW1 : Hid (WM w1 w.heap.size b7 Q) := hW9.out.later hb1
      clear hb1 L9 hK9 K9 hU9 hW9
      obtain ⟨c0, c1, c2⟩ := K91.out.two
      cases hrun : (run1 A x && run1 A y)
      · rw [hrun] at g2
        have hgo : Hid (bfs L wk x y 1000 [(List.replicate m 0, [])] 0 = bfs L wk x y (1000 - (i + 1)) (expQ Q (A, R) (mvs L wk A)) (i + 1)) := by rw [hR.out, hstep.out, hrun]; rfl
        have hIA : Hid (Inn A.length L) := by rw [HqL.out]; exact HI
        have hA16 : A.length ≤ 16 := by have := HqL.out; omega
        have HPl : Hid (P0 = pl A.length (eF L) wk) := by rw [HqL.out]; exact hP.out.symm
        clear hR hstep hrun
        go_wp2_with (first
          | refine wpList_load_row rfl 51 (.tmp 2) rfl w.heap.size rfl _ _ _ _ hK1.out Tryd.underlying51 rfl (by rw [Tryd.infoPl, hPs]) ?_
          | refine wpList_load_row rfl 78 (.tmp 9) rfl h9 rfl _ _ _ _ K91.out Tryd.underlying78 rfl (by rw [Tryd.infoPr2]; rfl) ?_
          | (go_at_call 37; rw [HPl.out]; refine (moves_any wk L A _ (HT.out.later L1.out) HqT.out hA16 hIA.out).mono ?_; rintro e w4 ⟨⟨v, rfl, hM⟩, hb4⟩; obtain ⟨sv, cv, e⟩ := hM.shape; subst e; rw [← HPl.out]))
        have hlM := mvs_len L wk A
        obtain ⟨M, hMM⟩ : ∃ M, Hid (mvs L wk A = M) := ⟨_, rfl⟩
        have hzb := L1.out.size
        rw [hMM.out] at hM hlM hgo ⊢
        have M4 : Hid (MRow w4 w.heap.size (.slice sv M.length cv) M) := hM.mono hzb
        have L4 : Hid (Below w.heap.size w w4) := bl_trans L1.out hb4
        have hK4 : Hid (Blk w4 w.heap.size P0 51) := hK1.out.later hb4
        have K94 : Hid (Blk w4 h9 #[.int .u16 (nb (fB A)), .int .u16 (nb (fD A))] 78) := K91.out.later hb4
        have hU4 : Hid (URow w4 w.heap.size (.slice (some ⟨g, 0, none⟩) Q.length co) (pks Q)) := hU1.out.later hb4
        have hW4 : Hid (WM w4 w.heap.size b7 Q) := hW1.out.later hb4
        have HQ0 : Hid (QOk m Q) := hQ
        clear hM hb4 L1 hK1 K91 hU1 hW1 hzb g1 g2 c0 c1 c2
        go_wp2_with fail
        go_loopw [6, 43] (fun v6 kv wq => ∃ (k : Nat) (so : Option Addr) (co : Nat) (Q2 : List Way), k ≤ M.length ∧ kv = .int .i64 k ∧ v6 = .slice so Q2.length co ∧ Hid (¬ (Value.slice so Q2.length co).ownBlock = some h9) ∧ Hid (URow wq w.heap.size (.slice so Q2.length co) (pks Q2)) ∧ Hid (WM wq w.heap.size b7 Q2) ∧ Hid (Q2 = expQ Q (A, R) (M.take k)) ∧ Hid (QOk m Q2) ∧ Hid (Q2[i]? = some (A, R)) ∧ Hid (MRow wq w.heap.size (.slice sv M.length cv) M) ∧ Hid (Blk wq h9 #[.int .u16 (nb (fB A)), .int .u16 (nb (fD A))] 78) ∧ Hid (Blk wq w.heap.size P0 51) ∧ Hid (Below w.heap.size w wq)) (fun _ kv _ => M.length - (intOf kv).toNat)
        case atStart => exact ⟨0, _, _, Q, Nat.zero_le _, rfl, rfl, hne9, hU4, hW4, by simp [Hid, expQ], HQ0, HQN, M4, K94, hK4, L4⟩
        case round =>
          clear M4 L4 hK4 K94 hU4 hW4 hne9
          obtain ⟨k, so2, co2, Q2, hkM, rfl, rfl, hne9, hU4, hW4, hQe, hQ2, hQi, M4, K94, hK4, L4⟩ := hrel
          have hQ2l : Q2.length ≤ 729 := hQ2.out.len hm
          by_cases hkl : k < M.length
          · obtain ⟨mb, mo, hsv, hmb, e1, e2⟩ := M4.out.eds.get hkl
            obtain ⟨⟨p1, p2⟩, hmx⟩ : ∃ z, Hid (M[k]?.getD (0, 0) = z) := ⟨_, rfl⟩
            rw [hmx.out] at e1 e2
            have hmem : (p1, p2) ∈ mvs L wk A := by rw [hMM.out, ← hmx.out]; exact memE hkl
            obtain ⟨xx, hxl, hcase⟩ := mem_mvs hmem
            have hp2 : p2 = (xx : Int) := by
              rcases hcase with ⟨e, _⟩ | ⟨e, _⟩
              · exact (Prod.mk.inj e).2
              · exact (Prod.mk.inj e).2
            subst hp2
            subst hsv
            have hc2 : (p1 = 1 ∧ A.getD xx 0 = 1) ∨ (p1 = 2 ∧ A.getD xx 0 = 0) := by
              rcases hcase with ⟨e, h⟩ | ⟨e, h⟩
              · exact Or.inl ⟨(Prod.mk.inj e).1, h⟩
              · exact Or.inr ⟨(Prod.mk.inj e).1, h⟩
            have HMem : Hid ((p1, (xx : Int)) ∈ mvs L wk A) := hmem
            have hQn : Hid (expQ Q (A, R) (M.take (k + 1)) = addQ Q2 (A, R) (p1, (xx : Int))) := by rw [expQ_take hkl hmx.out, ← hQe.out]; rfl
            have tk : decide ((k : Int) < (M.length : Int)) = true := by simp; omega
            have kI : (k : Int) < (M.length : Int) := by omega
            have nB := next_B hxl hc2
            have nD := next_D hxl hc2
            have k11 := Blk.new wr #[.int .i64 p1, .int .i64 (xx : Int)] 62
            have K11 : Hid (Blk (wr.alloc (.cells #[.int .i64 p1, .int .i64 (xx : Int)] 62)) wr.heap.size #[.int .i64 p1, .int .i64 (xx : Int)] 62) := k11
            have LZ : Hid (Below wr.heap.size wr (wr.alloc (.cells #[.int .i64 p1, .int .i64 (xx : Int)] 62))) := bl_alloc (Below.refl _ _) _
            obtain ⟨c0, c1, c2⟩ := (K94.out.later LZ.out).two
            obtain ⟨f0, f1, f2⟩ := k11.two
            clear k11 hcase hmem hc2
            go_wp2_with fail
            refine (behind_any (fB A) (fD A) p1 xx (by omega) _).mono ?_
            rintro e w5 ⟨rfl, hb5⟩
            rw [nB, nD]
            have hdl : Hid ((doM A (p1, (xx : Int))).length = m) := by rw [doM_len]; exact HqL
            have hdt : Hid (Thr (doM A (p1, (xx : Int)))) := doM_thr HqT.out _
            obtain ⟨h11, hh11⟩ : ∃ h, wr.heap.size = h := ⟨_, rfl⟩
            have bz : Below wr.heap.size wr w5 := bl_trans LZ.out hb5
            have bz1 : Below w5.heap.size w5 (w5.alloc (.cells #[.int .u16 (nb (fB (doM A (p1, (xx : Int))))), .int .u16 (nb (fD (doM A (p1, (xx : Int)))))] 78)) := bl_alloc (Below.refl _ _) _
            have b6 := bl_trans bz bz1
            have K12 : Hid (Blk (w5.alloc (.cells #[.int .u16 (nb (fB (doM A (p1, (xx : Int))))), .int .u16 (nb (fD (doM A (p1, (xx : Int)))))] 78)) w5.heap.size #[.int .u16 (nb (fB (doM A (p1, (xx : Int))))), .int .u16 (nb (fD (doM A (p1, (xx : Int)))))] 78) := Blk.new _ _ _
            obtain ⟨y0, y1, y2⟩ := K12.out.two
            have K11' : Hid (Blk (w5.alloc (.cells #[.int .u16 (nb (fB (doM A (p1, (xx : Int))))), .int .u16 (nb (fD (doM A (p1, (xx : Int)))))] 78)) wr.heap.size #[.int .i64 p1, .int .i64 (xx : Int)] 62) := (K11.out.later hb5).later bz1
            have K96 : Hid (Blk (w5.alloc (.cells #[.int .u16 (nb (fB (doM A (p1, (xx : Int))))), .int .u16 (nb (fD (doM A (p1, (xx : Int)))))] 78)) h9 #[.int .u16 (nb (fB A)), .int .u16 (nb (fD A))] 78) := K94.out.later b6
            have hK6 : Hid (Blk (w5.alloc (.cells #[.int .u16 (nb (fB (doM A (p1, (xx : Int))))), .int .u16 (nb (fD (doM A (p1, (xx : Int)))))] 78)) w.heap.size P0 51) := hK4.out.later b6
            have hU6 : Hid (URow (w5.alloc (.cells #[.int .u16 (nb (fB (doM A (p1, (xx : Int))))), .int .u16 (nb (fD (doM A (p1, (xx : Int)))))] 78)) w.heap.size (.slice so2 Q2.length co2) (pks Q2)) := hU4.out.later b6
            have hW6 : Hid (WM (w5.alloc (.cells #[.int .u16 (nb (fB (doM A (p1, (xx : Int))))), .int .u16 (nb (fD (doM A (p1, (xx : Int)))))] 78)) w.heap.size b7 Q2) := hW4.out.later b6
            have M6 : Hid (MRow (w5.alloc (.cells #[.int .u16 (nb (fB (doM A (p1, (xx : Int))))), .int .u16 (nb (fD (doM A (p1, (xx : Int)))))] 78)) w.heap.size (.slice (some ⟨mb, mo, none⟩) M.length cv) M) := M4.out.later b6
            have L6 : Hid (Below w.heap.size w (w5.alloc (.cells #[.int .u16 (nb (fB (doM A (p1, (xx : Int))))), .int .u16 (nb (fD (doM A (p1, (xx : Int)))))] 78))) := bl_trans L4.out b6
            have hug := hU4.out.lt
            have hs5 := bz.size
            have hne12 : Hid (¬ (Value.slice so2 Q2.length co2).ownBlock = some w5.heap.size) := fun e => by have := (hug _ e).2; omega
            have E9 : Hid (h9 < w5.heap.size + 1) := by have := K94.out.lt; show _ < _; omega
            have Ep : Hid (w.heap.size < w5.heap.size + 1) := by have := hK4.out.lt; show _ < _; omega
            have E11 : Hid (wr.heap.size < w5.heap.size + 1) := by have := (K11.out.later hb5).lt; show _ < _; omega
            have z6 : (w5.alloc (.cells #[.int .u16 (nb (fB (doM A (p1, (xx : Int))))), .int .u16 (nb (fD (doM A (p1, (xx : Int)))))] 78)).heap.size = w5.heap.size + 1 := by simp
            obtain ⟨um, rm⟩ := hW6.out.met hQ2.out (by omega) hdt.out hdl.out
            clear hb5 bz bz1 b6 hug hs5 K94 hK4 hU4 hW4 M4 L4 LZ K11 nB nD e1 e2 hmb
            cases hany : (Q2.any fun q => decide (q.1 = doM A (p1, (xx : Int))))
            · rw [hany] at rm
              have HAny : Hid ((Q2.any fun q => decide (q.1 = doM A (p1, (xx : Int)))) = false) := hany
              obtain ⟨X5, hX5⟩ : ∃ X5, w5.alloc (.cells #[.int .u16 (nb (fB (doM A (p1, (xx : Int))))), .int .u16 (nb (fD (doM A (p1, (xx : Int)))))] 78) = X5 := ⟨_, rfl⟩
              rw [hX5] at K12 K11' K96 hK6 hU6 hW6 M6 L6 z6 y0 y1 y2 rm
              obtain ⟨h12, hh12⟩ : ∃ h, w5.heap.size = h := ⟨_, rfl⟩
              rw [hh11] at K11' E11
              rw [hh12] at K12 hne12 E9 Ep E11 z6 y0 y1 y2
              clear hany
              go_wp2_with fail
              (try rw [hh12])
              clear y0 y1 y2 rm c0 c1 c2 f0 f1 f2
              have hQ7 : Hid (Q2 ++ [(doM A (p1, (xx : Int)), R ++ [(p1, (xx : Int))])] = expQ Q (A, R) (M.take (k + 1))) := by
                rw [hQn.out]; unfold addQ; rw [HAny.out]; rfl
              have hok7 : Hid (QOk m (Q2 ++ [(doM A (p1, (xx : Int)), R ++ [(p1, (xx : Int))])])) := by
                rw [hQ7.out, hQn.out]; exact addQ_ok hQ2.out (List.mem_of_getElem? hQi.out) HMem.out
              have hQi7 : Hid ((Q2 ++ [(doM A (p1, (xx : Int)), R ++ [(p1, (xx : Int))])])[i]? = some (A, R)) := by
                show _ = _
                rw [List.getElem?_append_left (List.getElem?_eq_some_iff.1 hQi.out).1]; exact hQi.out
              obtain ⟨f, hF⟩ := hW6.out.wf
              rw [z6] at hF
              have HQM2 : Hid ((A, R) ∈ Q2) := List.mem_of_getElem? hQi.out
              obtain ⟨u, fu, _⟩ := hF.way _ HQM2.out
              simp only at fu
              have FUu : Hid (f (pkey A) = some u) := fu
              have WKK : Hid (Wk w X5 w.heap.size (h12 + 1) b7 w.heap.size h9 h11 h12 P0 (nb (fB A)) (nb (fD A)) (nb (fB (doM A (p1, (xx : Int))))) (nb (fD (doM A (p1, (xx : Int))))) p1 (xx : Int) (.slice (some ⟨mb, mo, none⟩) M.length cv) M Q2 f) := ⟨L6.out, by omega, by have := Ep.out; omega, hF, hK6.out, K96.out, K11'.out, K12.out, M6.out, fun k hk => by have := (M6.out.lt k hk).2; omega, Ep.out, E9.out, E11.out, by omega⟩
              have FU : Hid (URow X5 w.heap.size (.slice so2 Q2.length co2) (pks Q2)) := hU6
              clear hF fu hW6 hU6 M6 L6 K12 K11' K96 hK6
              refine wp_region_held_drew (S := (RS b7 h9 h11 h12 (nb (fB A)) (nb (fD A)) (nb (fB (doM A (p1, (xx : Int))))) (nb (fD (doM A (p1, (xx : Int))))) p1 (xx : Int) u)) (by kernel_rfl) ?_ (fun hHeld => ?_)
              · exact (WKK.out.later (bl_drew (Below.refl _ _))).held FUu.out
              have WKK : Hid (Wk w X5.drew w.heap.size (h12 + 1) b7 w.heap.size h9 h11 h12 P0 (nb (fB A)) (nb (fD A)) (nb (fB (doM A (p1, (xx : Int))))) (nb (fD (doM A (p1, (xx : Int))))) p1 (xx : Int) (.slice (some ⟨mb, mo, none⟩) M.length cv) M Q2 f) := WKK.out.later (bl_drew (Below.refl _ _))
              have FU : Hid (URow X5.drew w.heap.size (.slice so2 Q2.length co2) (pks Q2)) := FU.out.later (bl_drew (Below.refl _ _))
              refine wpAnyH_one (i := 0) (d := 58) (v := ?_) rfl rfl (by kernel_rfl) (by kernel_rfl) (by kernel_rfl) (fun _ _ _ h => h) (by rfl) (by assumption) ?_ ?_
              rotate_left 1
              · intro w hSw; clear hSw; go_simp <;> with_reducible rfl
              simp only [List.foldl, Act.put, List.setIfInBounds_toArray, List.set_cons_zero, List.set_cons_succ]
              refine wpAnyH_one (i := 1) (d := 59) (v := .agg #[.int .u16 (nb (fB (doM A (p1, (xx : Int))))), .int .u16 (nb (fD (doM A (p1, (xx : Int)))))]) rfl rfl (by kernel_rfl) (by kernel_rfl) (by kernel_rfl) (fun _ _ _ h => h) (by rfl) (by assumption) ?_ ?_
              · intro w hSw; exact run_load rfl rfl (load_two hSw.2.2.1)
              simp only [List.foldl, Act.put, List.setIfInBounds_toArray, List.set_cons_zero, List.set_cons_succ]
              refine wpAnyH_one (i := 2) (d := 60) (v := ?_) rfl rfl (by kernel_rfl) (by kernel_rfl) (by kernel_rfl) (fun _ _ _ h => h) (by rfl) (by assumption) ?_ ?_
              rotate_left 1
              · intro w hSw; clear hSw; go_simp <;> with_reducible rfl
              simp only [List.foldl, Act.put, List.setIfInBounds_toArray, List.set_cons_zero, List.set_cons_succ]
              refine wpAnyH_one (i := 3) (d := 61) (v := .agg #[.int .u16 (nb (fB (doM A (p1, (xx : Int))))), .int .u16 (nb (fD (doM A (p1, (xx : Int)))))]) rfl rfl (by kernel_rfl) (by kernel_rfl) (by kernel_rfl) (fun _ _ _ h => h) (by rfl) (by assumption) ?_ ?_
              · intro w hSw; exact run_load rfl rfl (load_two hSw.2.2.1)
              simp only [List.foldl, Act.put, List.setIfInBounds_toArray, List.set_cons_zero, List.set_cons_succ]
              refine wpAnyH_one (i := 6) (d := 64) (v := ?_) rfl rfl (by kernel_rfl) (by kernel_rfl) (by kernel_rfl) (fun _ _ _ h => h) (by rfl) (by assumption) ?_ ?_
              rotate_left 1
              · intro w hSw; clear hSw; go_simp <;> with_reducible rfl
              simp only [List.foldl, Act.put, List.setIfInBounds_toArray, List.set_cons_zero, List.set_cons_succ]
              refine wpAnyH_one (i := 7) (d := 65) (v := .agg #[.int .u16 (nb (fB A)), .int .u16 (nb (fD A))]) rfl rfl (by kernel_rfl) (by kernel_rfl) (by kernel_rfl) (fun _ _ _ h => h) (by rfl) (by assumption) ?_ ?_
              · intro w hSw; exact run_load rfl rfl (load_two hSw.1)
              simp only [List.foldl, Act.put, List.setIfInBounds_toArray, List.set_cons_zero, List.set_cons_succ]
              refine wpAnyH_one (i := 8) (d := 66) (v := u) rfl rfl (by kernel_rfl) (by kernel_rfl) (by kernel_rfl) (fun _ _ _ h => h) (by rfl) (by assumption) ?_ ?_
              · intro w hSw; exact exec_lookup rfl rfl rfl hSw.2.2.2
              simp only [List.foldl, Act.put, List.setIfInBounds_toArray, List.set_cons_zero, List.set_cons_succ]
              refine wpAnyH_one (i := 10) (d := 68) (v := .agg #[.int .i64 p1, .int .i64 (xx : Int)]) rfl rfl (by kernel_rfl) (by kernel_rfl) (by kernel_rfl) (fun _ _ _ h => h) (by rfl) (by assumption) ?_ ?_
              · intro w hSw; exact run_load rfl rfl (load_mv hSw.2.1)
              simp only [List.foldl, Act.put, List.setIfInBounds_toArray, List.set_cons_zero, List.set_cons_succ]
              refine dag_start fun Gd a0 hG ha => ?_
              have st_aAcbC : ∀ ka : Nat, ∀ vA : Value, ∀ vc : Value, ∀ kb : Nat, ∀ vC : Value, ∀ g0 : World, Hid (Wk w g0 w.heap.size (h12 + 1) b7 w.heap.size h9 h11 h12 P0 (nb (fB A)) (nb (fD A)) (nb (fB (doM A (p1, (xx : Int))))) (nb (fD (doM A (p1, (xx : Int))))) p1 (xx : Int) (.slice (some ⟨mb, mo, none⟩) M.length cv) M Q2 f) → Hid (URow g0 w.heap.size vA (pks Q2 ++ [((nb (fB (doM A (p1, (xx : Int))))), (nb (fD (doM A (p1, (xx : Int))))))])) → Hid (MRow g0 (h12 + 1) vC (R ++ [(p1, (xx : Int))])) → (RS b7 h9 h11 h12 (nb (fB A)) (nb (fD A)) (nb (fB (doM A (p1, (xx : Int))))) (nb (fD (doM A (p1, (xx : Int))))) p1 (xx : Int) u) g0 → Gd 4 #[true, true, true, true, true, true, true, true, true, true, true, true, true, false, false, false, false] (((((a0.put (some 62) (.slice (some ⟨ka, 0, none⟩) 1 1)).put (some 63) vA).put (some 67) vc).put (some 69) (.slice (some ⟨kb, 0, none⟩) 1 1)).put (some 70) vC) g0 := by
                intro ka vA vc kb vC g0 WKK FU FD hHeld
                rw [hG, ha]
                try simp only [List.foldl, Act.put, List.setIfInBounds_toArray, List.set_cons_zero, List.set_cons_succ]
                refine wpAnyH_one (i := 13) (d := 6) (v := ?_) rfl rfl (by kernel_rfl) (by kernel_rfl) (by kernel_rfl) (fun _ _ _ h => h) (by rfl) (by assumption) ?_ ?_
                rotate_left 1
                · intro w hSw; clear hSw; go_simp <;> with_reducible rfl
                simp only [List.foldl, Act.put, List.setIfInBounds_toArray, List.set_cons_zero, List.set_cons_succ]
                obtain ⟨z0, st, g1, g3, r1, s1, r3, s3, WM3, t3, L3, K3, K93, M3⟩ := WKK.out.store hB7.out hQ2.out (by omega) (by unfold maxLen; omega) hdt.out hdl.out HAny.out HQM2.out FUu.out FD.out
                have FU3 : URow g3 w.heap.size vA (pks Q2 ++ [((nb (fB (doM A (p1, (xx : Int))))), (nb (fD (doM A (p1, (xx : Int))))))]) := FU.out.turned WKK.out.wf.map t3
                have s1 : Hid ((RS b7 h9 h11 h12 (nb (fB A)) (nb (fD A)) (nb (fB (doM A (p1, (xx : Int))))) (nb (fD (doM A (p1, (xx : Int))))) p1 (xx : Int) u) g1) := s1
                have s3 : Hid ((RS b7 h9 h11 h12 (nb (fB A)) (nb (fD A)) (nb (fB (doM A (p1, (xx : Int))))) (nb (fD (doM A (p1, (xx : Int))))) p1 (xx : Int) u) g3) := s3
                refine wpAnyH_ready (rs := [14]) (by kernel_rfl) (by simp) ?_
                refine AllReadyH.cons rfl (fun K hK => ?_) AllReadyH.nil
                refine step_exec rfl (d0 := some 71) rfl (exec_entry rfl rfl rfl r1) ?_
                refine hK.out _ _ s1.out (fun hHeld => ?_)
                clear hK K
                simp only [List.foldl, Act.put, List.setIfInBounds_toArray, List.set_cons_zero, List.set_cons_succ]
                refine wpAnyH_one (i := 15) (d := 72) (v := ?_) rfl rfl (by kernel_rfl) (by kernel_rfl) (by kernel_rfl) (fun _ _ _ h => h) (by rfl) (by assumption) ?_ ?_
                rotate_left 1
                · intro w hSw; clear hSw; go_simp <;> with_reducible rfl
                simp only [List.foldl, Act.put, List.setIfInBounds_toArray, List.set_cons_zero, List.set_cons_succ]
                refine wpAnyH_ready (rs := [16]) (by kernel_rfl) (by simp) ?_
                refine AllReadyH.cons rfl (fun K hK => ?_) AllReadyH.nil
                refine step_skip rfl rfl (exec_estore rfl rfl rfl rfl r3) ?_
                refine hK.out _ _ s3.out (fun hHeld => ?_)
                clear hK K
                try simp only [List.foldl, Act.put, List.setIfInBounds_toArray, List.set_cons_zero, List.set_cons_succ]
                refine wpAnyH_done (by kernel_rfl) ?_ _
                have FU4 : URow g3 w.heap.size vA (pks (Q2 ++ [((doM A (p1, (xx : Int))), R ++ [(p1, (xx : Int))])])) := by rw [pks_snoc]; exact FU3
                have hn3 : ¬ vA.ownBlock = some h9 := FU4.noBox K93 (by rw [pks_len]; have := (List.getElem?_eq_some_iff.1 hQi.out).1; simp; omega)
                obtain ⟨s4, c4, e4⟩ := FU4.shape
                rw [pks_len] at e4
                subst e4
                have U7 : Hid (URow g3 w.heap.size (.slice s4 (Q2 ++ [((doM A (p1, (xx : Int))), R ++ [(p1, (xx : Int))])]).length c4) (pks (Q2 ++ [((doM A (p1, (xx : Int))), R ++ [(p1, (xx : Int))])]))) := FU4
                have N7 : Hid (¬ (Value.slice s4 (Q2 ++ [((doM A (p1, (xx : Int))), R ++ [(p1, (xx : Int))])]).length c4).ownBlock = some h9) := hn3
                have W7 : Hid (WM g3 w.heap.size b7 (Q2 ++ [((doM A (p1, (xx : Int))), R ++ [(p1, (xx : Int))])])) := WM3
                have M7 : Hid (MRow g3 w.heap.size (.slice (some ⟨mb, mo, none⟩) M.length cv) M) := M3
                have K97 : Hid (Blk g3 h9 #[.int .u16 (nb (fB A)), .int .u16 (nb (fD A))] 78) := K93
                have K7 : Hid (Blk g3 w.heap.size P0 51) := K3
                have L7 : Hid (Below w.heap.size w g3) := L3
                clear FU4 hn3 WM3 M3 K93 K3 L3 FU3 t3 s1 s3 r1 r3 hHeld WKK FU FD
                go_wp2_with fail
                go_roundw
                case rel => exact ⟨k + 1, s4, c4, _, by omega, by go_num, rfl, N7, U7, W7, hQ7, hok7, hQi7, M7, K97, K7, L7⟩
                case measure => simp [intOf]; omega
              have st_aAcb : ∀ ka : Nat, ∀ vA : Value, ∀ vc : Value, ∀ kb : Nat, ∀ g0 : World, Hid (Wk w g0 w.heap.size (h12 + 1) b7 w.heap.size h9 h11 h12 P0 (nb (fB A)) (nb (fD A)) (nb (fB (doM A (p1, (xx : Int))))) (nb (fD (doM A (p1, (xx : Int))))) p1 (xx : Int) (.slice (some ⟨mb, mo, none⟩) M.length cv) M Q2 f) → Hid (URow g0 w.heap.size vA (pks Q2 ++ [((nb (fB (doM A (p1, (xx : Int))))), (nb (fD (doM A (p1, (xx : Int))))))])) → Hid (Blk g0 kb #[.int .i64 p1, .int .i64 (xx : Int)] 62) → Hid (MRow g0 (h12 + 1) vc R) → (RS b7 h9 h11 h12 (nb (fB A)) (nb (fD A)) (nb (fB (doM A (p1, (xx : Int))))) (nb (fD (doM A (p1, (xx : Int))))) p1 (xx : Int) u) g0 → Gd 5 #[true, true, true, true, true, true, true, true, true, true, true, true, false, false, false, false, false] ((((a0.put (some 62) (.slice (some ⟨ka, 0, none⟩) 1 1)).put (some 63) vA).put (some 67) vc).put (some 69) (.slice (some ⟨kb, 0, none⟩) 1 1)) g0 := by
                intro ka vA vc kb g0 WKK FU FB FC hHeld
                rw [hG, ha]
                try simp only [List.foldl, Act.put, List.setIfInBounds_toArray, List.set_cons_zero, List.set_cons_succ]
                refine wpAnyH_ready (rs := [12]) (by kernel_rfl) (by simp) ?_
                refine AllReadyH.cons rfl (fun K hK => ?_) AllReadyH.nil
                have hs0 := WKK.out.sz
                refine step_move rfl (d0 := some 70) rfl (.tmp 67) (.tmp 69) rfl (h12 + 1) vc R rfl FC.out kb p1 (xx : Int) rfl FB.out (by omega) hs0 ?_
                intro vC g1 FD0 hgg
                have WK1 : Hid (Wk w g1 w.heap.size (h12 + 1) b7 w.heap.size h9 h11 h12 P0 (nb (fB A)) (nb (fD A)) (nb (fB (doM A (p1, (xx : Int))))) (nb (fD (doM A (p1, (xx : Int))))) p1 (xx : Int) (.slice (some ⟨mb, mo, none⟩) M.length cv) M Q2 f) := WKK.out.moved FC.out hgg
                have FU : Hid (URow g1 w.heap.size vA (pks Q2 ++ [((nb (fB (doM A (p1, (xx : Int))))), (nb (fD (doM A (p1, (xx : Int))))))])) := FU.out.keptO hgg (fun k hk e => FU.out.noMove FC.out k e hk)
                have WKK : Hid (Wk w g1 w.heap.size (h12 + 1) b7 w.heap.size h9 h11 h12 P0 (nb (fB A)) (nb (fD A)) (nb (fB (doM A (p1, (xx : Int))))) (nb (fD (doM A (p1, (xx : Int))))) p1 (xx : Int) (.slice (some ⟨mb, mo, none⟩) M.length cv) M Q2 f) := WK1
                have FD : Hid (MRow g1 (h12 + 1) vC (R ++ [(p1, (xx : Int))])) := FD0
                clear FD0 hgg hs0 WK1 FC FB
                refine hK.out _ _ (WKK.out.held FUu.out) (fun hHeld => ?_)
                clear hK K
                exact dag_to hG (st_aAcbC ka vA vc kb vC _ WKK FU FD hHeld) rfl (by kernel_rfl) (by rw [ha] <;> rfl)
              have st_aAc : ∀ ka : Nat, ∀ vA : Value, ∀ vc : Value, ∀ g0 : World, Hid (Wk w g0 w.heap.size (h12 + 1) b7 w.heap.size h9 h11 h12 P0 (nb (fB A)) (nb (fD A)) (nb (fB (doM A (p1, (xx : Int))))) (nb (fD (doM A (p1, (xx : Int))))) p1 (xx : Int) (.slice (some ⟨mb, mo, none⟩) M.length cv) M Q2 f) → Hid (URow g0 w.heap.size vA (pks Q2 ++ [((nb (fB (doM A (p1, (xx : Int))))), (nb (fD (doM A (p1, (xx : Int))))))])) → Hid (MRow g0 (h12 + 1) vc R) → (RS b7 h9 h11 h12 (nb (fB A)) (nb (fD A)) (nb (fB (doM A (p1, (xx : Int))))) (nb (fD (doM A (p1, (xx : Int))))) p1 (xx : Int) u) g0 → Gd 6 #[true, true, true, true, true, true, true, true, true, true, true, false, false, false, false, false, false] (((a0.put (some 62) (.slice (some ⟨ka, 0, none⟩) 1 1)).put (some 63) vA).put (some 67) vc) g0 := by
                intro ka vA vc g0 WKK FU FC hHeld
                rw [hG, ha]
                try simp only [List.foldl, Act.put, List.setIfInBounds_toArray, List.set_cons_zero, List.set_cons_succ]
                refine wpAnyH_ready (rs := [11]) (by kernel_rfl) (by simp) ?_
                refine AllReadyH.cons rfl (fun K hK => ?_) AllReadyH.nil
                refine step_bsM rfl (d0 := some 69) rfl (.tmp 68) rfl _ _ rfl ?_
                intro kb g1 FB0 hk hbb
                have WKK : Hid (Wk w g1 w.heap.size (h12 + 1) b7 w.heap.size h9 h11 h12 P0 (nb (fB A)) (nb (fD A)) (nb (fB (doM A (p1, (xx : Int))))) (nb (fD (doM A (p1, (xx : Int))))) p1 (xx : Int) (.slice (some ⟨mb, mo, none⟩) M.length cv) M Q2 f) := WKK.out.later hbb
                have FU : Hid (URow g1 w.heap.size vA (pks Q2 ++ [((nb (fB (doM A (p1, (xx : Int))))), (nb (fD (doM A (p1, (xx : Int))))))])) := FU.out.later hbb
                have FC : Hid (MRow g1 (h12 + 1) vc R) := FC.out.later hbb
                have FB : Hid (Blk g1 kb #[.int .i64 p1, .int .i64 (xx : Int)] 62) := FB0
                clear FB0 hk hbb
                refine hK.out _ _ (WKK.out.held FUu.out) (fun hHeld => ?_)
                clear hK K
                exact dag_to hG (st_aAcb ka vA vc kb _ WKK FU FB FC hHeld) rfl (by kernel_rfl) (by rw [ha] <;> rfl)
              have st_aAb : ∀ ka : Nat, ∀ vA : Value, ∀ kb : Nat, ∀ g0 : World, Hid (Wk w g0 w.heap.size (h12 + 1) b7 w.heap.size h9 h11 h12 P0 (nb (fB A)) (nb (fD A)) (nb (fB (doM A (p1, (xx : Int))))) (nb (fD (doM A (p1, (xx : Int))))) p1 (xx : Int) (.slice (some ⟨mb, mo, none⟩) M.length cv) M Q2 f) → Hid (URow g0 w.heap.size vA (pks Q2 ++ [((nb (fB (doM A (p1, (xx : Int))))), (nb (fD (doM A (p1, (xx : Int))))))])) → Hid (Blk g0 kb #[.int .i64 p1, .int .i64 (xx : Int)] 62) → (RS b7 h9 h11 h12 (nb (fB A)) (nb (fD A)) (nb (fB (doM A (p1, (xx : Int))))) (nb (fD (doM A (p1, (xx : Int))))) p1 (xx : Int) u) g0 → Gd 6 #[true, true, true, true, true, true, true, true, true, false, true, true, false, false, false, false, false] (((a0.put (some 62) (.slice (some ⟨ka, 0, none⟩) 1 1)).put (some 63) vA).put (some 69) (.slice (some ⟨kb, 0, none⟩) 1 1)) g0 := by
                intro ka vA kb g0 WKK FU FB hHeld
                rw [hG, ha]
                try simp only [List.foldl, Act.put, List.setIfInBounds_toArray, List.set_cons_zero, List.set_cons_succ]
                refine wpAnyH_ready (rs := [9]) (by kernel_rfl) (by simp) ?_
                refine AllReadyH.cons rfl (fun K hK => ?_) AllReadyH.nil
                go_simp
                refine (cloneM_any u R w.heap.size _ (WKK.out.way HQM2.out FUu.out) (by omega)).mono ?_
                rintro z g1 ⟨⟨vc, rfl, FC0⟩, hbb⟩
                have FC : Hid (MRow g1 (h12 + 1) vc R) := (FC0.mono WKK.out.sz).later (Below.refl _ _)
                have WKK : Hid (Wk w g1 w.heap.size (h12 + 1) b7 w.heap.size h9 h11 h12 P0 (nb (fB A)) (nb (fD A)) (nb (fB (doM A (p1, (xx : Int))))) (nb (fD (doM A (p1, (xx : Int))))) p1 (xx : Int) (.slice (some ⟨mb, mo, none⟩) M.length cv) M Q2 f) := WKK.out.later hbb
                have FU : Hid (URow g1 w.heap.size vA (pks Q2 ++ [((nb (fB (doM A (p1, (xx : Int))))), (nb (fD (doM A (p1, (xx : Int))))))])) := FU.out.later hbb
                have FB : Hid (Blk g1 kb #[.int .i64 p1, .int .i64 (xx : Int)] 62) := FB.out.later hbb
                clear FC0 hbb
                refine hK.out _ _ (WKK.out.held FUu.out) (fun hHeld => ?_)
                clear hK K
                exact dag_to hG (st_aAcb ka vA vc kb _ WKK FU FB FC hHeld) rfl (by kernel_rfl) (by rw [ha] <;> rfl)
              have st_aA : ∀ ka : Nat, ∀ vA : Value, ∀ g0 : World, Hid (Wk w g0 w.heap.size (h12 + 1) b7 w.heap.size h9 h11 h12 P0 (nb (fB A)) (nb (fD A)) (nb (fB (doM A (p1, (xx : Int))))) (nb (fD (doM A (p1, (xx : Int))))) p1 (xx : Int) (.slice (some ⟨mb, mo, none⟩) M.length cv) M Q2 f) → Hid (URow g0 w.heap.size vA (pks Q2 ++ [((nb (fB (doM A (p1, (xx : Int))))), (nb (fD (doM A (p1, (xx : Int))))))])) → (RS b7 h9 h11 h12 (nb (fB A)) (nb (fD A)) (nb (fB (doM A (p1, (xx : Int))))) (nb (fD (doM A (p1, (xx : Int))))) p1 (xx : Int) u) g0 → Gd 7 #[true, true, true, true, true, true, true, true, true, false, true, false, false, false, false, false, false] ((a0.put (some 62) (.slice (some ⟨ka, 0, none⟩) 1 1)).put (some 63) vA) g0 := by
                intro ka vA g0 WKK FU hHeld
                rw [hG, ha]
                try simp only [List.foldl, Act.put, List.setIfInBounds_toArray, List.set_cons_zero, List.set_cons_succ]
                refine wpAnyH_ready (rs := [9, 11]) (by kernel_rfl) (by simp) ?_
                refine AllReadyH.cons rfl (fun K hK => ?_) ?_
                · skip
                  go_simp
                  refine (cloneM_any u R w.heap.size _ (WKK.out.way HQM2.out FUu.out) (by omega)).mono ?_
                  rintro z g1 ⟨⟨vc, rfl, FC0⟩, hbb⟩
                  have FC : Hid (MRow g1 (h12 + 1) vc R) := (FC0.mono WKK.out.sz).later (Below.refl _ _)
                  have WKK : Hid (Wk w g1 w.heap.size (h12 + 1) b7 w.heap.size h9 h11 h12 P0 (nb (fB A)) (nb (fD A)) (nb (fB (doM A (p1, (xx : Int))))) (nb (fD (doM A (p1, (xx : Int))))) p1 (xx : Int) (.slice (some ⟨mb, mo, none⟩) M.length cv) M Q2 f) := WKK.out.later hbb
                  have FU : Hid (URow g1 w.heap.size vA (pks Q2 ++ [((nb (fB (doM A (p1, (xx : Int))))), (nb (fD (doM A (p1, (xx : Int))))))])) := FU.out.later hbb
                  clear FC0 hbb
                  refine hK.out _ _ (WKK.out.held FUu.out) (fun hHeld => ?_)
                  clear hK K
                  exact dag_to hG (st_aAc ka vA vc _ WKK FU FC hHeld) rfl (by kernel_rfl) (by rw [ha] <;> rfl)
                refine AllReadyH.cons rfl (fun K hK => ?_) AllReadyH.nil
                refine step_bsM rfl (d0 := some 69) rfl (.tmp 68) rfl _ _ rfl ?_
                intro kb g1 FB0 hk hbb
                have WKK : Hid (Wk w g1 w.heap.size (h12 + 1) b7 w.heap.size h9 h11 h12 P0 (nb (fB A)) (nb (fD A)) (nb (fB (doM A (p1, (xx : Int))))) (nb (fD (doM A (p1, (xx : Int))))) p1 (xx : Int) (.slice (some ⟨mb, mo, none⟩) M.length cv) M Q2 f) := WKK.out.later hbb
                have FU : Hid (URow g1 w.heap.size vA (pks Q2 ++ [((nb (fB (doM A (p1, (xx : Int))))), (nb (fD (doM A (p1, (xx : Int))))))])) := FU.out.later hbb
                have FB : Hid (Blk g1 kb #[.int .i64 p1, .int .i64 (xx : Int)] 62) := FB0
                clear FB0 hk hbb
                refine hK.out _ _ (WKK.out.held FUu.out) (fun hHeld => ?_)
                clear hK K
                exact dag_to hG (st_aAb ka vA kb _ WKK FU FB hHeld) rfl (by kernel_rfl) (by rw [ha] <;> rfl)
              have st_ab : ∀ ka : Nat, ∀ kb : Nat, ∀ g0 : World, Hid (Wk w g0 w.heap.size (h12 + 1) b7 w.heap.size h9 h11 h12 P0 (nb (fB A)) (nb (fD A)) (nb (fB (doM A (p1, (xx : Int))))) (nb (fD (doM A (p1, (xx : Int))))) p1 (xx : Int) (.slice (some ⟨mb, mo, none⟩) M.length cv) M Q2 f) → Hid (URow g0 w.heap.size (.slice so2 Q2.length co2) (pks Q2)) → Hid (Blk g0 ka #[.int .u16 (nb (fB (doM A (p1, (xx : Int))))), .int .u16 (nb (fD (doM A (p1, (xx : Int)))))] 78) → Hid (Blk g0 kb #[.int .i64 p1, .int .i64 (xx : Int)] 62) → (RS b7 h9 h11 h12 (nb (fB A)) (nb (fD A)) (nb (fB (doM A (p1, (xx : Int))))) (nb (fD (doM A (p1, (xx : Int))))) p1 (xx : Int) u) g0 → Gd 7 #[true, true, true, true, true, false, true, true, true, false, true, true, false, false, false, false, false] ((a0.put (some 62) (.slice (some ⟨ka, 0, none⟩) 1 1)).put (some 69) (.slice (some ⟨kb, 0, none⟩) 1 1)) g0 := by
                intro ka kb g0 WKK FU FA FB hHeld
                rw [hG, ha]
                try simp only [List.foldl, Act.put, List.setIfInBounds_toArray, List.set_cons_zero, List.set_cons_succ]
                refine wpAnyH_ready (rs := [5]) (by kernel_rfl) (by simp) ?_
                refine AllReadyH.cons rfl (fun K hK => ?_) AllReadyH.nil
                have hs0 := WKK.out.sz
                have hs1 := WKK.out.be
                refine step_place rfl (d0 := some 63) rfl (.tmp 60) (.tmp 62) rfl w.heap.size (.slice so2 Q2.length co2) (pks Q2) rfl FU.out ka (nb (fB (doM A (p1, (xx : Int))))) (nb (fD (doM A (p1, (xx : Int))))) rfl FA.out (by rw [pks_len]; omega) (by omega) ?_
                intro vA g1 FU1 hgg
                have WK1 : Hid (Wk w g1 w.heap.size (h12 + 1) b7 w.heap.size h9 h11 h12 P0 (nb (fB A)) (nb (fD A)) (nb (fB (doM A (p1, (xx : Int))))) (nb (fD (doM A (p1, (xx : Int))))) p1 (xx : Int) (.slice (some ⟨mb, mo, none⟩) M.length cv) M Q2 f) := WKK.out.placed FU.out hne9.out hne12.out hgg
                have FB : Hid (Blk g1 kb #[.int .i64 p1, .int .i64 (xx : Int)] 62) := FB.out.keptO hgg (FU.out.noBlk FB.out (by decide))
                have WKK : Hid (Wk w g1 w.heap.size (h12 + 1) b7 w.heap.size h9 h11 h12 P0 (nb (fB A)) (nb (fD A)) (nb (fB (doM A (p1, (xx : Int))))) (nb (fD (doM A (p1, (xx : Int))))) p1 (xx : Int) (.slice (some ⟨mb, mo, none⟩) M.length cv) M Q2 f) := WK1
                have FU : Hid (URow g1 w.heap.size vA (pks Q2 ++ [((nb (fB (doM A (p1, (xx : Int))))), (nb (fD (doM A (p1, (xx : Int))))))])) := FU1
                clear FU1 hgg hs0 hs1 WK1 FA
                refine hK.out _ _ (WKK.out.held FUu.out) (fun hHeld => ?_)
                clear hK K
                exact dag_to hG (st_aAb ka vA kb _ WKK FU FB hHeld) rfl (by kernel_rfl) (by rw [ha] <;> rfl)
              have st_a : ∀ ka : Nat, ∀ g0 : World, Hid (Wk w g0 w.heap.size (h12 + 1) b7 w.heap.size h9 h11 h12 P0 (nb (fB A)) (nb (fD A)) (nb (fB (doM A (p1, (xx : Int))))) (nb (fD (doM A (p1, (xx : Int))))) p1 (xx : Int) (.slice (some ⟨mb, mo, none⟩) M.length cv) M Q2 f) → Hid (URow g0 w.heap.size (.slice so2 Q2.length co2) (pks Q2)) → Hid (Blk g0 ka #[.int .u16 (nb (fB (doM A (p1, (xx : Int))))), .int .u16 (nb (fD (doM A (p1, (xx : Int)))))] 78) → (RS b7 h9 h11 h12 (nb (fB A)) (nb (fD A)) (nb (fB (doM A (p1, (xx : Int))))) (nb (fD (doM A (p1, (xx : Int))))) p1 (xx : Int) u) g0 → Gd 8 #[true, true, true, true, true, false, true, true, true, false, true, false, false, false, false, false, false] (a0.put (some 62) (.slice (some ⟨ka, 0, none⟩) 1 1)) g0 := by
                intro ka g0 WKK FU FA hHeld
                rw [hG, ha]
                try simp only [List.foldl, Act.put, List.setIfInBounds_toArray, List.set_cons_zero, List.set_cons_succ]
                refine wpAnyH_ready (rs := [5, 11]) (by kernel_rfl) (by simp) ?_
                refine AllReadyH.cons rfl (fun K hK => ?_) ?_
                · skip
                  have hs0 := WKK.out.sz
                  have hs1 := WKK.out.be
                  refine step_place rfl (d0 := some 63) rfl (.tmp 60) (.tmp 62) rfl w.heap.size (.slice so2 Q2.length co2) (pks Q2) rfl FU.out ka (nb (fB (doM A (p1, (xx : Int))))) (nb (fD (doM A (p1, (xx : Int))))) rfl FA.out (by rw [pks_len]; omega) (by omega) ?_
                  intro vA g1 FU1 hgg
                  have WK1 : Hid (Wk w g1 w.heap.size (h12 + 1) b7 w.heap.size h9 h11 h12 P0 (nb (fB A)) (nb (fD A)) (nb (fB (doM A (p1, (xx : Int))))) (nb (fD (doM A (p1, (xx : Int))))) p1 (xx : Int) (.slice (some ⟨mb, mo, none⟩) M.length cv) M Q2 f) := WKK.out.placed FU.out hne9.out hne12.out hgg
                  have WKK : Hid (Wk w g1 w.heap.size (h12 + 1) b7 w.heap.size h9 h11 h12 P0 (nb (fB A)) (nb (fD A)) (nb (fB (doM A (p1, (xx : Int))))) (nb (fD (doM A (p1, (xx : Int))))) p1 (xx : Int) (.slice (some ⟨mb, mo, none⟩) M.length cv) M Q2 f) := WK1
                  have FU : Hid (URow g1 w.heap.size vA (pks Q2 ++ [((nb (fB (doM A (p1, (xx : Int))))), (nb (fD (doM A (p1, (xx : Int))))))])) := FU1
                  clear FU1 hgg hs0 hs1 WK1 FA
                  refine hK.out _ _ (WKK.out.held FUu.out) (fun hHeld => ?_)
                  clear hK K
                  exact dag_to hG (st_aA ka vA _ WKK FU hHeld) rfl (by kernel_rfl) (by rw [ha] <;> rfl)
                refine AllReadyH.cons rfl (fun K hK => ?_) AllReadyH.nil
                refine step_bsM rfl (d0 := some 69) rfl (.tmp 68) rfl _ _ rfl ?_
                intro kb g1 FB0 hk hbb
                have WKK : Hid (Wk w g1 w.heap.size (h12 + 1) b7 w.heap.size h9 h11 h12 P0 (nb (fB A)) (nb (fD A)) (nb (fB (doM A (p1, (xx : Int))))) (nb (fD (doM A (p1, (xx : Int))))) p1 (xx : Int) (.slice (some ⟨mb, mo, none⟩) M.length cv) M Q2 f) := WKK.out.later hbb
                have FU : Hid (URow g1 w.heap.size (.slice so2 Q2.length co2) (pks Q2)) := FU.out.later hbb
                have FA : Hid (Blk g1 ka #[.int .u16 (nb (fB (doM A (p1, (xx : Int))))), .int .u16 (nb (fD (doM A (p1, (xx : Int)))))] 78) := FA.out.later hbb
                have FB : Hid (Blk g1 kb #[.int .i64 p1, .int .i64 (xx : Int)] 62) := FB0
                clear FB0 hk hbb
                refine hK.out _ _ (WKK.out.held FUu.out) (fun hHeld => ?_)
                clear hK K
                exact dag_to hG (st_ab ka kb _ WKK FU FA FB hHeld) rfl (by kernel_rfl) (by rw [ha] <;> rfl)
              have st_b : ∀ kb : Nat, ∀ g0 : World, Hid (Wk w g0 w.heap.size (h12 + 1) b7 w.heap.size h9 h11 h12 P0 (nb (fB A)) (nb (fD A)) (nb (fB (doM A (p1, (xx : Int))))) (nb (fD (doM A (p1, (xx : Int))))) p1 (xx : Int) (.slice (some ⟨mb, mo, none⟩) M.length cv) M Q2 f) → Hid (URow g0 w.heap.size (.slice so2 Q2.length co2) (pks Q2)) → Hid (Blk g0 kb #[.int .i64 p1, .int .i64 (xx : Int)] 62) → (RS b7 h9 h11 h12 (nb (fB A)) (nb (fD A)) (nb (fB (doM A (p1, (xx : Int))))) (nb (fD (doM A (p1, (xx : Int))))) p1 (xx : Int) u) g0 → Gd 8 #[true, true, true, true, false, false, true, true, true, false, true, true, false, false, false, false, false] (a0.put (some 69) (.slice (some ⟨kb, 0, none⟩) 1 1)) g0 := by
                intro kb g0 WKK FU FB hHeld
                rw [hG, ha]
                try simp only [List.foldl, Act.put, List.setIfInBounds_toArray, List.set_cons_zero, List.set_cons_succ]
                refine wpAnyH_ready (rs := [4]) (by kernel_rfl) (by simp) ?_
                refine AllReadyH.cons rfl (fun K hK => ?_) AllReadyH.nil
                refine step_bsU rfl (d0 := some 62) rfl (.tmp 61) rfl _ _ rfl ?_
                intro ka g1 FA0 hk hbb
                have WKK : Hid (Wk w g1 w.heap.size (h12 + 1) b7 w.heap.size h9 h11 h12 P0 (nb (fB A)) (nb (fD A)) (nb (fB (doM A (p1, (xx : Int))))) (nb (fD (doM A (p1, (xx : Int))))) p1 (xx : Int) (.slice (some ⟨mb, mo, none⟩) M.length cv) M Q2 f) := WKK.out.later hbb
                have FU : Hid (URow g1 w.heap.size (.slice so2 Q2.length co2) (pks Q2)) := FU.out.later hbb
                have FB : Hid (Blk g1 kb #[.int .i64 p1, .int .i64 (xx : Int)] 62) := FB.out.later hbb
                have FA : Hid (Blk g1 ka #[.int .u16 (nb (fB (doM A (p1, (xx : Int))))), .int .u16 (nb (fD (doM A (p1, (xx : Int)))))] 78) := FA0
                clear FA0 hk hbb
                refine hK.out _ _ (WKK.out.held FUu.out) (fun hHeld => ?_)
                clear hK K
                exact dag_to hG (st_ab ka kb _ WKK FU FA FB hHeld) rfl (by kernel_rfl) (by rw [ha] <;> rfl)
              rw [hG, ha]
              try simp only [List.foldl, Act.put, List.setIfInBounds_toArray, List.set_cons_zero, List.set_cons_succ]
              refine wpAnyH_ready (rs := [4, 11]) (by kernel_rfl) (by simp) ?_
              refine AllReadyH.cons rfl (fun K hK => ?_) ?_
              · skip
                refine step_bsU rfl (d0 := some 62) rfl (.tmp 61) rfl _ _ rfl ?_
                intro ka g1 FA0 hk hbb
                have WKK : Hid (Wk w g1 w.heap.size (h12 + 1) b7 w.heap.size h9 h11 h12 P0 (nb (fB A)) (nb (fD A)) (nb (fB (doM A (p1, (xx : Int))))) (nb (fD (doM A (p1, (xx : Int))))) p1 (xx : Int) (.slice (some ⟨mb, mo, none⟩) M.length cv) M Q2 f) := WKK.out.later hbb
                have FU : Hid (URow g1 w.heap.size (.slice so2 Q2.length co2) (pks Q2)) := FU.out.later hbb
                have FA : Hid (Blk g1 ka #[.int .u16 (nb (fB (doM A (p1, (xx : Int))))), .int .u16 (nb (fD (doM A (p1, (xx : Int)))))] 78) := FA0
                clear FA0 hk hbb
                refine hK.out _ _ (WKK.out.held FUu.out) (fun hHeld => ?_)
                clear hK K
                exact dag_to hG (st_a ka _ WKK FU FA hHeld) rfl (by kernel_rfl) (by rw [ha] <;> rfl)
              refine AllReadyH.cons rfl (fun K hK => ?_) AllReadyH.nil
              refine step_bsM rfl (d0 := some 69) rfl (.tmp 68) rfl _ _ rfl ?_
              intro kb g1 FB0 hk hbb
              have WKK : Hid (Wk w g1 w.heap.size (h12 + 1) b7 w.heap.size h9 h11 h12 P0 (nb (fB A)) (nb (fD A)) (nb (fB (doM A (p1, (xx : Int))))) (nb (fD (doM A (p1, (xx : Int))))) p1 (xx : Int) (.slice (some ⟨mb, mo, none⟩) M.length cv) M Q2 f) := WKK.out.later hbb
              have FU : Hid (URow g1 w.heap.size (.slice so2 Q2.length co2) (pks Q2)) := FU.out.later hbb
              have FB : Hid (Blk g1 kb #[.int .i64 p1, .int .i64 (xx : Int)] 62) := FB0
              clear FB0 hk hbb
              refine hK.out _ _ (WKK.out.held FUu.out) (fun hHeld => ?_)
              clear hK K
              exact dag_to hG (st_b kb _ WKK FU FB hHeld) rfl (by kernel_rfl) (by rw [ha] <;> rfl)
            · rw [hany] at rm
              have hQ7 : Hid (Q2 = expQ Q (A, R) (M.take (k + 1))) := by
                rw [hQn.out]; unfold addQ; rw [if_pos hany]; rfl
              go_wp2_with fail
              go_roundw
              case rel => exact ⟨k + 1, so2, co2, Q2, by omega, by go_num, rfl, hne9, hU6, hW6, hQ7, hQ2, hQi, M6, K96, hK6, L6⟩
              case measure => simp [intOf]; omega
          · have hk' : k = M.length := by omega
            subst hk'
            have tk : decide ((M.length : Int) < (M.length : Int)) = false := by simp
            have hQe' : Hid (bfs L wk x y 1000 [(List.replicate m 0, [])] 0 = bfs L wk x y (1000 - (i + 1)) Q2 (i + 1)) := by
              rw [hgo.out, hQe.out, List.take_length]; rfl
            have hi2 : i < Q2.length := (List.getElem?_eq_some_iff.1 hQi.out).1
            go_wp2_with fail
            go_roundw
            case rel => exact ⟨i + 1, so2, co2, Q2, by omega, by go_num, rfl, hU4, hW4, hQ2, hQe', hK4, L4⟩
            case measure => simp [intOf]; omega
      · rw [hrun] at g2
        have hfin : Hid (bfs L wk x y 1000 [(List.replicate m 0, [])] 0 = some R) := by rw [hR.out, hstep.out, hrun]; rfl
        obtain ⟨u, ru, hu⟩ := hW1.out.get HQM.out
        simp only at ru hu
        go_wp2_with fail
        refine bodyPost_ret (v := .tuple #[u, .bool true]) (by simp [results, Tryd.results20]) rfl ?_
        rw [hfin.out]
        exact ⟨u, rfl, hu, L1.out⟩
    · have hi' : i = Q.length := by omega
      subst hi'
      have hfin : Hid (bfs L wk x y 1000 [(List.replicate m 0, [])] 0 = none) := by rw [hR.out]; exact bfs_none (Nat.le_refl _)
      have t0 : decide ((Q.length : Int) < (Q.length : Int)) = false := by simp
      go_wp2_with fail
      refine bodyPost_ret (v := .tuple #[.slice none 0 0, .bool false]) (by simp [results, Tryd.results20]) rfl ?_
      rw [hfin.out]; exact PlS.none hb.out
end Go.Proofs.YtigllpegaljkmaaDoor
