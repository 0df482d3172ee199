import Derived.Test.YtbgeobpdojmdaaaGreatSq45
namespace Go.Proofs.YtbgeobpdojmdaaaGreat
open Go.RowKit
set_option linter.unusedVariables false
set_option linter.unusedSimpArgs false
set_option maxHeartbeats 8000000 in
theorem genTake_few (o1 o2 : Option Addr) (c1 c2 : Nat) (G F : List Int) (w : World) (h1 : Ints w o1 G) (h2 : Ints w o2 F) (l1 : G.length ≤ 1048576) (l2 : F.length ≤ 1048576) (n1 : o1 = none → c1 = 0) (n2 : o2 = none → c2 = 0) (hc : okE G F = false ∨ (¬ 0 < F.length ∧ 2000 ≤ G.length)) :
  Calls Tryz.prog 72 #[.agg #[.slice o1 G.length c1, .slice o2 F.length c2]] w fun e w' => Takes (takeB G F) w e w' := by
 have hal := alloc_old
 have haf := alloc_oldf
 obtain ⟨k0, k1, k2⟩ := blk3 w #[.slice o1 G.length c1, .slice o2 F.length c2] #[.slice none 0 0, .slice none 0 0] #[.int .i64 0, .int .i64 0] 36 36 42
 cases hk : okE G F
 ·
  have hO : Hid (takeB G F = (G, F, (0, 0), 1)) := by simp [Hid, takeB, hk]
  go_enter Tryz.func72, Tryz.ntmps72
  go_wp2_with fail; refine (copyEnts_gen o1 o2 c1 c2 G F _ (h1.later blq) (h2.later blq) l1 l2 n1 n2).mono ?_
  rintro e w1 ⟨s, c, t, d, rfl, v1, v2, hap, hb1⟩
  have ev1 := v1.lt
  have ev2 := v2.lt
  simp only [World.size_alloc] at ev1 ev2
  have L1 : Below w.heap.size w w1 := blq
  have K0 := (k0.later hb1).alloc (.cells #[.slice s G.length c, .slice t F.length d] 36)
  have K1 := (k1.later hb1).alloc (.cells #[.slice s G.length c, .slice t F.length d] 36)
  have K2 := (k2.later hb1).alloc (.cells #[.slice s G.length c, .slice t F.length d] 36)
  have K3 := Blk.new w1 #[.slice s G.length c, .slice t F.length d] 36
  have V1 := (v1.mono (B' := w.heap.size) (by simp; omega)).alloc (.cells #[.slice s G.length c, .slice t F.length d] 36)
  have V2 := (v2.mono (B' := w.heap.size) (by simp; omega)).alloc (.cells #[.slice s G.length c, .slice t F.length d] 36)
  have LX := bl_alloc L1 (.cells #[.slice s G.length c, .slice t F.length d] 36)
  have s1 : w.heap.size + 3 ≤ w1.heap.size := by have := hb1.size; simp at this; omega
  obtain ⟨x0, x1, x2⟩ := (k0.later hb1).two
  clear hb1 v1 v2 k0 k1 k2; go_wp2_with fail; refine (implEntsOk_any _ _ _ _ G F _ (h1.later LX) (h2.later LX) l2).mono ?_
  rintro e w2 ⟨rfl, hb2⟩
  rw [hk]
  have L2 := bl_trans LX hb2
  have N0 := K0.later hb2
  have N1 := K1.later hb2
  have N2 := K2.later hb2
  have N3 := K3.later hb2
  have U1 := V1.later hb2
  have U2 := V2.later hb2
  clear K0 K1 K2 K3 V1 V2 LX hb2 x0 x1 x2 L1; obtain ⟨x0, x1, x2⟩ := N0.two
  obtain ⟨y0, y1, y2⟩ := N1.two
  obtain ⟨z0, z1, z2⟩ := N2.two
  obtain ⟨r0, r1, r2⟩ := N3.two
  have e1 : ¬ w1.heap.size = w.heap.size + 1 + 1 := by omega
  have e2 : ¬ w.heap.size + 1 + 1 = w1.heap.size := by omega
  have e3 : ¬ w1.heap.size = w.heap.size + 1 := by omega
  have e4 : ¬ w.heap.size + 1 = w1.heap.size := by omega
  have e5 : ¬ w.heap.size + 1 = w.heap.size + 1 + 1 := by omega
  go_wp2_with fail; refine bodyPost_ret (v := .tuple #[.agg #[.slice s G.length c, .slice t F.length d], .agg #[.int .i64 0, .int .i64 0], .int .i64 1]) (by simp [results, Tryz.results72, go_sem, y0, y1, z0, z1]) rfl ?_
  rw [hO.out]
  refine ⟨_, _, _, _, rfl, ?_, ?_, hap, ?_⟩
  ·
   exact (((U1.other (fun e => by have := (ev1 _ e).1; omega) _ _).other (fun e => by have := (ev1 _ e).1; omega) _ _).other (fun e => by have := (ev1 _ e).1; omega) _ _).other (fun e => by have := (ev1 _ e).1; omega) _ _
  ·
   exact (((U2.other (fun e => by have := (ev2 _ e).1; omega) _ _).other (fun e => by have := (ev2 _ e).1; omega) _ _).other (fun e => by have := (ev2 _ e).1; omega) _ _).other (fun e => by have := (ev2 _ e).1; omega) _ _
  exact blq
 rcases hc with h | ⟨hF, hG⟩
 ·
  rw [hk] at h; cases h
 have hO : Hid (takeB G F = (G, F, (0, 0), 3)) := by simp only [Hid, takeB, hk, if_true, if_neg hF, if_pos hG]
 have t0 : (F.length : Int) = 0 := by omega
 have t1 : IntKind.i64.wrap ((F.length : Int) - 1) = -1 := by rw [IntKind.wrap_i64]; omega
 have hlen := okE_len hk
 have t2 : ((G.length : Int) == 2000) = true := by simp; omega
 go_enter Tryz.func72, Tryz.ntmps72
 go_wp2_with fail; refine (copyEnts_gen o1 o2 c1 c2 G F _ (h1.later blq) (h2.later blq) l1 l2 n1 n2).mono ?_
 rintro e w1 ⟨s, c, t, d, rfl, v1, v2, hap, hb1⟩
 have ev1 := v1.lt
 have ev2 := v2.lt
 simp only [World.size_alloc] at ev1 ev2
 have L1 : Below w.heap.size w w1 := blq
 have K0 := (k0.later hb1).alloc (.cells #[.slice s G.length c, .slice t F.length d] 36)
 have K1 := (k1.later hb1).alloc (.cells #[.slice s G.length c, .slice t F.length d] 36)
 have K2 := (k2.later hb1).alloc (.cells #[.slice s G.length c, .slice t F.length d] 36)
 have K3 := Blk.new w1 #[.slice s G.length c, .slice t F.length d] 36
 have V1 := (v1.mono (B' := w.heap.size) (by simp; omega)).alloc (.cells #[.slice s G.length c, .slice t F.length d] 36)
 have V2 := (v2.mono (B' := w.heap.size) (by simp; omega)).alloc (.cells #[.slice s G.length c, .slice t F.length d] 36)
 have LX := bl_alloc L1 (.cells #[.slice s G.length c, .slice t F.length d] 36)
 have s1 : w.heap.size + 3 ≤ w1.heap.size := by have := hb1.size; simp at this; omega
 obtain ⟨x0, x1, x2⟩ := (k0.later hb1).two
 clear hb1 v1 v2 k0 k1 k2; go_wp2_with fail; refine (implEntsOk_any _ _ _ _ G F _ (h1.later LX) (h2.later LX) l2).mono ?_
 rintro e w2 ⟨rfl, hb2⟩
 rw [hk]
 have L2 := bl_trans LX hb2
 have N0 := K0.later hb2
 have N1 := K1.later hb2
 have N2 := K2.later hb2
 have N3 := K3.later hb2
 have U1 := V1.later hb2
 have U2 := V2.later hb2
 clear K0 K1 K2 K3 V1 V2 LX hb2 x0 x1 x2 L1; obtain ⟨x0, x1, x2⟩ := N0.two
 obtain ⟨y0, y1, y2⟩ := N1.two
 obtain ⟨z0, z1, z2⟩ := N2.two
 obtain ⟨r0, r1, r2⟩ := N3.two
 have e1 : ¬ w1.heap.size = w.heap.size + 1 + 1 := by omega
 have e2 : ¬ w.heap.size + 1 + 1 = w1.heap.size := by omega
 have e3 : ¬ w1.heap.size = w.heap.size + 1 := by omega
 have e4 : ¬ w.heap.size + 1 = w1.heap.size := by omega
 have e5 : ¬ w.heap.size + 1 = w.heap.size + 1 + 1 := by omega
 go_wp2_with fail; refine bodyPost_ret (v := .tuple #[.agg #[.slice s G.length c, .slice t F.length d], .agg #[.int .i64 0, .int .i64 0], .int .i64 3]) (by simp [results, Tryz.results72, go_sem, y0, y1, z0, z1]) rfl ?_
 rw [hO.out]
 refine ⟨_, _, _, _, rfl, ?_, ?_, hap, ?_⟩
 ·
  exact (((U1.other (fun e => by have := (ev1 _ e).1; omega) _ _).other (fun e => by have := (ev1 _ e).1; omega) _ _).other (fun e => by have := (ev1 _ e).1; omega) _ _).other (fun e => by have := (ev1 _ e).1; omega) _ _
 ·
  exact (((U2.other (fun e => by have := (ev2 _ e).1; omega) _ _).other (fun e => by have := (ev2 _ e).1; omega) _ _).other (fun e => by have := (ev2 _ e).1; omega) _ _).other (fun e => by have := (ev2 _ e).1; omega) _ _
 exact blq
set_option maxHeartbeats 16000000 in
theorem genTake_free (o1 o2 : Option Addr) (c1 c2 : Nat) (G F : List Int) (w : World) (h1 : Ints w o1 G) (h2 : Ints w o2 F) (l1 : G.length ≤ 1048576) (l2 : F.length ≤ 1048576) (n1 : o1 = none → c1 = 0) (n2 : o2 = none → c2 = 0) (hk : okE G F = true) (hF : 0 < F.length) :
  Calls Tryz.prog 72 #[.agg #[.slice o1 G.length c1, .slice o2 F.length c2]] w fun e w' => Takes (takeB G F) w e w' := by
 have hal := alloc_old
 have haf := alloc_oldf
 obtain ⟨k0, k1, k2⟩ := blk3 w #[.slice o1 G.length c1, .slice o2 F.length c2] #[.slice none 0 0, .slice none 0 0] #[.int .i64 0, .int .i64 0] 36 36 42
 obtain ⟨q, hq1, hq2⟩ := last_in hk hF
 obtain ⟨x, hx⟩ : ∃ x, G[q]?.getD 0 = x := ⟨_, rfl⟩
 have hO : Hid (takeB G F = (G, F.dropLast, ((q : Int), x), 0)) := by
  simp only [Hid, takeB, hk, if_true, if_pos hF, hq1, ← hx]
  simp
 have HX : Hid (G[q]?.getD 0 = x) := hx
 clear hx; obtain ⟨m, hm⟩ : ∃ m, Hid (F.length = m + 1) := ⟨F.length - 1, by show _ = _; omega⟩
 have hmF : m < F.length := by have := hm.out; omega
 have t1 : IntKind.i64.wrap ((F.length : Int) - 1) = (m : Int) := by have := hm.out; rw [IntKind.wrap_i64]; omega
 have t2 : (F.length : Int) - 1 = (m : Int) := by have := hm.out; omega
 have hmI : (m : Int) < (F.length : Int) := by omega
 go_enter Tryz.func72, Tryz.ntmps72
 go_wp2_with fail; refine (copyEnts_gen o1 o2 c1 c2 G F _ (h1.later blq) (h2.later blq) l1 l2 n1 n2).mono ?_
 rintro e w1 ⟨s, c, t, d, rfl, v1, v2, hap, hb1⟩
 have ev1 := v1.lt
 have ev2 := v2.lt
 simp only [World.size_alloc] at ev1 ev2
 have L1 : Below w.heap.size w w1 := blq
 have K0 := (k0.later hb1).alloc (.cells #[.slice s G.length c, .slice t F.length d] 36)
 have K1 := (k1.later hb1).alloc (.cells #[.slice s G.length c, .slice t F.length d] 36)
 have K2 := (k2.later hb1).alloc (.cells #[.slice s G.length c, .slice t F.length d] 36)
 have K3 := Blk.new w1 #[.slice s G.length c, .slice t F.length d] 36
 have V1 := (v1.mono (B' := w.heap.size) (by simp; omega)).alloc (.cells #[.slice s G.length c, .slice t F.length d] 36)
 have V2 := (v2.mono (B' := w.heap.size) (by simp; omega)).alloc (.cells #[.slice s G.length c, .slice t F.length d] 36)
 have LX := bl_alloc L1 (.cells #[.slice s G.length c, .slice t F.length d] 36)
 have s1 : w.heap.size + 3 ≤ w1.heap.size := by have := hb1.size; simp at this; omega
 obtain ⟨x0, x1, x2⟩ := (k0.later hb1).two
 clear hb1 v1 v2 k0 k1 k2; go_wp2_with fail; refine (implEntsOk_any _ _ _ _ G F _ (h1.later LX) (h2.later LX) l2).mono ?_
 rintro e w2 ⟨rfl, hb2⟩
 rw [hk]
 have L2 := bl_trans LX hb2
 have N0 := K0.later hb2
 have N1 := K1.later hb2
 have N2 := K2.later hb2
 have N3 := K3.later hb2
 have U1 := V1.later hb2
 have U2 := V2.later hb2
 clear K0 K1 K2 K3 V1 V2 LX hb2 x0 x1 x2 L1; obtain ⟨x0, x1, x2⟩ := N0.two
 obtain ⟨y0, y1, y2⟩ := N1.two
 obtain ⟨z0, z1, z2⟩ := N2.two
 obtain ⟨r0, r1, r2⟩ := N3.two
 have e1 : ¬ w1.heap.size = w.heap.size + 1 + 1 := by omega
 have e2 : ¬ w.heap.size + 1 + 1 = w1.heap.size := by omega
 have e3 : ¬ w1.heap.size = w.heap.size + 1 := by omega
 have e4 : ¬ w.heap.size + 1 = w1.heap.size := by omega
 have e5 : ¬ w.heap.size + 1 = w.heap.size + 1 + 1 := by omega
 go_wp2_with fail; obtain ⟨f0, rfl⟩ : ∃ f0, t = some ⟨f0, 0, none⟩ := by
  rcases U2.form with ⟨h, h'⟩ | ⟨g0, cap, h, _, hr⟩
  ·
   rw [h'] at hF; simp at hF
  simp only [Value.slice.injEq] at h
  exact ⟨g0, h.1⟩
 have ef0 := ev2 f0 rfl
 obtain ⟨u1, u2⟩ := U2.cell hmF
 rw [show F[m]?.getD 0 = (q : Int) by rw [← hq1, ← last_eq hF]; congr 2; have := hm.out; omega] at u1
 have hcapd : F.length ≤ d := by
  rcases U2.form with ⟨h, _⟩ | ⟨g', cap', h, hc, _⟩
  ·
   simp at h
  simp only [Value.slice.injEq] at h; omega
 clear e1 e2 e3 e4 e5 x0 x1 x2; have sv := N3.lt
 clear N0; go_cut [7] (fun p wx => ∃ b7, p = .pointer (some ⟨b7, 0, none⟩) ∧ w1.heap.size < b7 ∧ Blk wx b7 #[.int .i64 (q : Int), .int .i64 x] 42 ∧ Blk wx (w.heap.size + 1) #[.slice none 0 0, .slice none 0 0] 36 ∧ Blk wx (w.heap.size + 1 + 1) #[.int .i64 0, .int .i64 0] 42 ∧ Blk wx w1.heap.size #[.slice s G.length c, .slice (some ⟨f0, 0, none⟩) F.length d] 36 ∧ VRow wx w.heap.size (.slice s G.length c) G ∧ VRow wx w.heap.size (.slice (some ⟨f0, 0, none⟩) F.length d) F ∧ Below w.heap.size w wx)
 case first =>
  go_region_with (first
   | (go_at_call 109; refine (entAt_any s (some ⟨f0, 0, none⟩) c d G F q x _ ((VRow.slice U1).elim fun _ h => h.elim fun _ h => (by have h9 := h.2; have h8 := h.1; simp only [Value.slice.injEq] at h8; rw [← h8.1] at h9; exact h9.later blq)) hq2 HX.out l1).mono ?_; rintro e wa ⟨rfl, hb⟩; have zz : w1.heap.size < wa.heap.size := (by have h9 := hb.size; (try simp at h9); omega); have N1 : Blk wa (w.heap.size + 1) _ _ := N1.later blq; have N2 : Blk wa (w.heap.size + 1 + 1) _ _ := N2.later blq; have N3 : Blk wa w1.heap.size _ _ := N3.later blq; have U1 : VRow wa _ _ _ := U1.later blq; have U2 : VRow wa _ _ _ := U2.later blq; have L2 : Below w.heap.size w wa := blq; (first | (have Z := Blk.later (Blk.drew (Blk.new _ #[.int .i64 0, .int .i64 0] 42)) hb) | (have Z := Blk.later (Blk.new _ #[.int .i64 0, .int .i64 0] 42) hb) | skip); (first | (obtain ⟨w0, w1', w2'⟩ := Z.two) | skip)))
  all_goals
   go_wp2_with fail; go_meet; first
    | exact ⟨_, rfl, by omega, Blk.new _ _ _, N1.alloc _, N2.alloc _, N3.alloc _, U1.alloc _, U2.alloc _, bl_alloc L2 _⟩
    | exact ⟨_, rfl, by first | omega | (simp; omega), (Z.set 0 _).set 1 _, (N1.other (by omega) _ _).other (by omega) _ _, (N2.other (by omega) _ _).other (by omega) _ _, (N3.other (by omega) _ _).other (by omega) _ _, (U1.other (U1.apartB Z (by decide)) _ _).other (U1.apartB Z (by decide)) _ _, (U2.other (U2.apartB Z (by decide)) _ _).other (U2.apartB Z (by decide)) _ _, (L2.setCell (by first | omega | (simp; omega)) _).setCell (by first | omega | (simp; omega)) _⟩
 clear y0 y1 y2 z0 z1 z2 r0 r1 r2 N1 N2 N3 U1 U2 L2 u1 u2; obtain ⟨b7, rfl, hb7, Z, N1, N2, N3, U1, U2, L2⟩ := hcut
 obtain ⟨r0, r1, r2⟩ := N3.two
 have U3 := U2.takeS (m := m) (by omega)
 have em : (F.take m).length = m := by simp; omega
 have hmd : (m : Int) ≤ (d : Int) := by omega
 have hap2 : Apart (.slice s G.length c) (.slice (some ⟨f0, 0, none⟩) (F.take m).length d) := fun k hk1 hk2 => hap k hk1 (by simpa [Value.ownBlock] using hk2)
 obtain ⟨y0, y1, y2⟩ := N1.two
 obtain ⟨z0, z1, z2⟩ := N2.two
 obtain ⟨v0, v1, v2⟩ := Z.two
 have sC := N3.lt
 have e1 : ¬ w1.heap.size = w.heap.size + 1 + 1 := by omega
 have e2 : ¬ w.heap.size + 1 + 1 = w1.heap.size := by omega
 have e3 : ¬ w1.heap.size = w.heap.size + 1 := by omega
 have e4 : ¬ w.heap.size + 1 = w1.heap.size := by omega
 have e5 : ¬ w.heap.size + 1 = w.heap.size + 1 + 1 := by omega
 have e6 : ¬ w1.heap.size = b7 := by omega
 have e7 : ¬ b7 = w1.heap.size := by omega
 have e8 : ¬ w.heap.size + 1 = b7 := by omega
 have e9 : ¬ w.heap.size + 1 + 1 = b7 := by omega
 go_wp2_with fail; have Y3 := N3.set 1 (.slice (some ⟨f0, 0, none⟩) m d)
 have Y1 := N1.other (m := w1.heap.size) (by omega) 1 (.slice (some ⟨f0, 0, none⟩) m d)
 have Y2 := N2.other (m := w1.heap.size) (by omega) 1 (.slice (some ⟨f0, 0, none⟩) m d)
 have YZ := Z.other (m := w1.heap.size) (by omega) 1 (.slice (some ⟨f0, 0, none⟩) m d)
 have W1 := U1.other (n := w1.heap.size) (fun e => by have := (ev1 _ e).2; omega) 1 (.slice (some ⟨f0, 0, none⟩) m d)
 have W2 := U3.other (n := w1.heap.size) (by simp [Value.ownBlock]; omega) 1 (.slice (some ⟨f0, 0, none⟩) m d)
 have LY := L2.setCell (p := ⟨w1.heap.size, 1, none⟩) (by show _ ≤ w1.heap.size; omega) (.slice (some ⟨f0, 0, none⟩) m d)
 have Y3 : Blk _ w1.heap.size #[.slice s G.length c, .slice (some ⟨f0, 0, none⟩) m d] 36 := Y3
 generalize hY : wc.setCell ⟨w1.heap.size, 1, none⟩ (.slice (some ⟨f0, 0, none⟩) m d) = Y at Y3 Y1 Y2 YZ W1 W2 LY ⊢
 clear hY r0 r1 r2 y0 y1 y2 z0 z1 z2 v0 v1 v2 N1 N2 N3 Z U1 U2 U3 L2; obtain ⟨r0, r1, r2⟩ := Y3.two
 obtain ⟨y0, y1, y2⟩ := Y1.two
 obtain ⟨z0, z1, z2⟩ := Y2.two
 obtain ⟨v0, v1, v2⟩ := YZ.two
 have hdl : F.dropLast = F.take m := by rw [← take_eq]; congr 1; have := hm.out; omega
 go_region
 go_wp2_with fail; refine bodyPost_ret (v := .tuple #[.agg #[.slice s G.length c, .slice (some ⟨f0, 0, none⟩) m d], .agg #[.int .i64 (q : Int), .int .i64 x], .int .i64 0]) (by simp [results, Tryz.results72, go_sem, y0, y1, z0, z1]) rfl ?_
 rw [hO.out, hdl]
 refine ⟨s, c, some ⟨f0, 0, none⟩, d, by rw [em], ?_, ?_, hap2, ?_⟩
 ·
  exact (((W1.other (fun e => by have := (ev1 _ e).1; omega) _ _).other (fun e => by have := (ev1 _ e).1; omega) _ _).other (fun e => by have := (ev1 _ e).1; omega) _ _).other (fun e => by have := (ev1 _ e).1; omega) _ _
 ·
  exact (((W2.other (by simp [Value.ownBlock]; omega) _ _).other (by simp [Value.ownBlock]; omega) _ _).other (by simp [Value.ownBlock]; omega) _ _).other (by simp [Value.ownBlock]; omega) _ _
 exact blq
set_option maxHeartbeats 16000000 in
theorem genTake_grow (o1 o2 : Option Addr) (c1 c2 : Nat) (G F : List Int) (w : World) (h1 : Ints w o1 G) (h2 : Ints w o2 F) (l1 : G.length ≤ 1048576) (l2 : F.length ≤ 1048576) (n1 : o1 = none → c1 = 0) (n2 : o2 = none → c2 = 0) (hk : okE G F = true) (hF : ¬ 0 < F.length) (hG : ¬ 2000 ≤ G.length) :
  Calls Tryz.prog 72 #[.agg #[.slice o1 G.length c1, .slice o2 F.length c2]] w fun e w' => Takes (takeB G F) w e w' := by
 have hal := alloc_old
 have haf := alloc_oldf
 obtain ⟨k0, k1, k2⟩ := blk3 w #[.slice o1 G.length c1, .slice o2 F.length c2] #[.slice none 0 0, .slice none 0 0] #[.int .i64 0, .int .i64 0] 36 36 42
 have hO : Hid (takeB G F = (G ++ [0], F, ((G.length : Int), 0), 0)) := by simp only [Hid, takeB, hk, if_true, if_neg hF, if_neg hG]
 have t0 : (F.length : Int) = 0 := by omega
 have t1 : IntKind.i64.wrap ((F.length : Int) - 1) = -1 := by rw [IntKind.wrap_i64]; omega
 have t2 : ((G.length : Int) == 2000) = false := by simp; omega
 go_enter Tryz.func72, Tryz.ntmps72
 go_wp2_with fail; refine (copyEnts_gen o1 o2 c1 c2 G F _ (h1.later blq) (h2.later blq) l1 l2 n1 n2).mono ?_
 rintro e w1 ⟨s, c, t, d, rfl, v1, v2, hap, hb1⟩
 have ev1 := v1.lt
 have ev2 := v2.lt
 simp only [World.size_alloc] at ev1 ev2
 have L1 : Below w.heap.size w w1 := blq
 have K0 := (k0.later hb1).alloc (.cells #[.slice s G.length c, .slice t F.length d] 36)
 have K1 := (k1.later hb1).alloc (.cells #[.slice s G.length c, .slice t F.length d] 36)
 have K2 := (k2.later hb1).alloc (.cells #[.slice s G.length c, .slice t F.length d] 36)
 have K3 := Blk.new w1 #[.slice s G.length c, .slice t F.length d] 36
 have V1 := (v1.mono (B' := w.heap.size) (by simp; omega)).alloc (.cells #[.slice s G.length c, .slice t F.length d] 36)
 have V2 := (v2.mono (B' := w.heap.size) (by simp; omega)).alloc (.cells #[.slice s G.length c, .slice t F.length d] 36)
 have LX := bl_alloc L1 (.cells #[.slice s G.length c, .slice t F.length d] 36)
 have s1 : w.heap.size + 3 ≤ w1.heap.size := by have := hb1.size; simp at this; omega
 obtain ⟨x0, x1, x2⟩ := (k0.later hb1).two
 clear hb1 v1 v2 k0 k1 k2; go_wp2_with fail; refine (implEntsOk_any _ _ _ _ G F _ (h1.later LX) (h2.later LX) l2).mono ?_
 rintro e w2 ⟨rfl, hb2⟩
 rw [hk]
 have L2 := bl_trans LX hb2
 have N1 := K1.later hb2
 have N2 := K2.later hb2
 have N3 := K3.later hb2
 have U1 := V1.later hb2
 have U2 := V2.later hb2
 clear K0 K1 K2 K3 V1 V2 LX hb2 x0 x1 x2 L1; obtain ⟨r0, r1, r2⟩ := N3.two
 have hz := (Blk.new w2 #[.int .i64 0] 3).cell 0
 have U1a := U1.alloc' (.cells #[.int .i64 0] 3)
 have sB := N3.lt
 go_wp2_with (at_builtin; refine wpList_append_one _ rfl (.tmp 42) (.tmp 43) rfl w.heap.size (.slice s G.length c) G rfl U1a w2.heap.size 0 rfl hz (by omega) ?_)
 intro g1 d1 w5 hv5 hg5 ho5 hl5
 have hne1 : ¬ (Value.slice s G.length c).ownBlock = some (w.heap.size + 1) := fun e => by have := ev1 _ e; omega
 have hne2 : ¬ (Value.slice s G.length c).ownBlock = some (w.heap.size + 1 + 1) := fun e => by have := ev1 _ e; omega
 have hne3 : ¬ (Value.slice s G.length c).ownBlock = some w1.heap.size := fun e => by have := ev1 _ e; omega
 have hf1 : ¬ g1 = w.heap.size + 1 ∧ ¬ g1 = w.heap.size + 1 + 1 ∧ ¬ g1 = w1.heap.size ∧ w.heap.size ≤ g1 ∧ ¬ (Value.slice t F.length d).ownBlock = some g1 := by
  rcases ho5 with h | h
  ·
   have := ev1 _ h
   exact ⟨by omega, by omega, by omega, by omega, hap _ h⟩
  (try simp at h)
  exact ⟨by omega, by omega, by omega, by omega, fun e => by have := (ev2 _ e).2; omega⟩
 have M1 := (N1.alloc (.cells #[.int .i64 0] 3)).kept' hg5 hne1
 have M2 := (N2.alloc (.cells #[.int .i64 0] 3)).kept' hg5 hne2
 have M3 := (N3.alloc (.cells #[.int .i64 0] 3)).kept' hg5 hne3
 have T2 := (U2.alloc (.cells #[.int .i64 0] 3)).kept hg5 (fun k hk e => hap k e hk)
 have L5 : Below w.heap.size w w5 := (bl_alloc L2 (.cells #[.int .i64 0] 3)).grown hg5 (by simp; have := L2.size; omega) (fun k h => by have := ev1 _ h; omega)
 have S5 : w1.heap.size < w5.heap.size := M3.lt
 clear r0 r1 r2 hz U1a hg5 ho5 N1 N2 N3 U1 U2 L2 hl5; obtain ⟨r0, r1, r2⟩ := M3.two
 go_wp2_with fail; have Y3 := M3.set 0 (.slice (some ⟨g1, 0, none⟩) (G.length + 1) d1)
 have Y1 := M1.other (m := w1.heap.size) (by omega) 0 (.slice (some ⟨g1, 0, none⟩) (G.length + 1) d1)
 have Y2 := M2.other (m := w1.heap.size) (by omega) 0 (.slice (some ⟨g1, 0, none⟩) (G.length + 1) d1)
 have W1 := (hv5.raise (B' := w.heap.size) hf1.2.2.2.1).other (n := w1.heap.size) (by simp [Value.ownBlock]; omega) 0 (.slice (some ⟨g1, 0, none⟩) (G.length + 1) d1)
 have W2 := T2.other (n := w1.heap.size) (fun e => by have := (ev2 _ e).2; omega) 0 (.slice (some ⟨g1, 0, none⟩) (G.length + 1) d1)
 have LY := L5.setCell (p := ⟨w1.heap.size, 0, none⟩) (by show _ ≤ w1.heap.size; omega) (.slice (some ⟨g1, 0, none⟩) (G.length + 1) d1)
 have Y3 : Blk _ w1.heap.size #[.slice (some ⟨g1, 0, none⟩) (G.length + 1) d1, .slice t F.length d] 36 := Y3
 have SY : w1.heap.size < (w5.setCell ⟨w1.heap.size, 0, none⟩ (.slice (some ⟨g1, 0, none⟩) (G.length + 1) d1)).heap.size := Y3.lt
 generalize hY : w5.setCell ⟨w1.heap.size, 0, none⟩ (.slice (some ⟨g1, 0, none⟩) (G.length + 1) d1) = Y at Y3 Y1 Y2 W1 W2 LY SY ⊢
 clear hY r0 r1 r2 M1 M2 M3 T2 L5 S5 hv5; obtain ⟨r0, r1, r2⟩ := Y3.two
 obtain ⟨y0, y1, y2⟩ := Y1.two
 obtain ⟨z0, z1, z2⟩ := Y2.two
 have e1 : ¬ w1.heap.size = w.heap.size + 1 + 1 := by omega
 have e2 : ¬ w.heap.size + 1 + 1 = w1.heap.size := by omega
 have e3 : ¬ w1.heap.size = w.heap.size + 1 := by omega
 have e4 : ¬ w.heap.size + 1 = w1.heap.size := by omega
 have e5 : ¬ w.heap.size + 1 = w.heap.size + 1 + 1 := by omega
 have tw : IntKind.i64.wrap ((G.length : Int) + 1 - 1) = (G.length : Int) := by rw [IntKind.wrap_i64]; omega
 have tw2 : IntKind.i64.wrap (((G.length + 1 : Nat) : Int) - 1) = (G.length : Int) := by rw [IntKind.wrap_i64]; omega
 have tw3 : IntKind.i64.wrap (G.length : Int) = (G.length : Int) := by rw [IntKind.wrap_i64]; omega
 have hl2 : (G ++ [0]).length = G.length + 1 := by simp
 have I1 : Ints Y (some ⟨g1, 0, none⟩) (G ++ [0]) := by
  obtain ⟨s', c', h, hi⟩ := W1.slice
  simp only [Value.slice.injEq] at h
  rw [h.1]; exact hi
 have hq0 : (G ++ [0])[G.length]?.getD 0 = 0 := by simp
 have hq1 : G.length < (G ++ [0]).length := by simp
 have hq2 : (G ++ [0]).length ≤ 1048576 := by simp; omega
 obtain ⟨G', hG'⟩ : ∃ G', G ++ [0] = G' := ⟨_, rfl⟩
 rw [hG'] at W1 I1 hq0 hq1 hq2 hl2
 have HG : Hid (G ++ [0] = G') := hG'
 clear hG'; go_region_held3 (fun w' => w'.cell? ⟨w1.heap.size, 0, none⟩ = some (.slice (some ⟨g1, 0, none⟩) (G.length + 1) d1) ∧ w'.cell? ⟨w1.heap.size, 1, none⟩ = some (.slice t F.length d)) (simp [r0, r1, e1, e2, e3, e4, World.cell?_setCell_far])
  (first
  | (go_at_call 109; refine (entAt_n _ _ _ _ _ _ G' G.length 0 _ (I1.later blq) hl2.symm hq1 hq0 hq2).mono ?_; rintro e wa ⟨rfl, hb⟩; have Y1 : Blk wa (w.heap.size + 1) _ _ := Y1.later blq; have Y2 : Blk wa (w.heap.size + 1 + 1) _ _ := Y2.later blq; have Y3 : Blk wa w1.heap.size _ _ := Y3.later blq; have W1 : VRow wa _ _ _ := W1.later blq; have W2 : VRow wa _ _ _ := W2.later blq; have LY : Below w.heap.size w wa := blq; obtain ⟨r0, r1, r2⟩ := Y3.two; obtain ⟨y0, y1, y2⟩ := Y1.two; obtain ⟨z0, z1, z2⟩ := Y2.two))
 all_goals
  go_wp2_with fail; refine bodyPost_ret (v := .tuple #[.agg #[.slice (some ⟨g1, 0, none⟩) (G.length + 1) d1, .slice t F.length d], .agg #[.int .i64 (G.length : Int), .int .i64 0], .int .i64 0]) (by simp [results, Tryz.results72, go_sem, y0, y1, z0, z1]) rfl ?_
  rw [hO.out, HG.out]
  refine ⟨some ⟨g1, 0, none⟩, d1, t, d, ?_, ?_, ?_, ?_, ?_⟩
  ·
   show Ending.returned (.tuple #[.agg #[.slice (some ⟨g1, 0, none⟩) (G.length + 1) d1, .slice t F.length d], .agg #[.int .i64 (G.length : Int), .int .i64 0], .int .i64 0]) = .returned (.tuple #[.agg #[.slice (some ⟨g1, 0, none⟩) G'.length d1, .slice t F.length d], .agg #[.int .i64 (G.length : Int), .int .i64 0], .int .i64 0])
   rw [hl2]
  ·
   show VRow _ _ (.slice (some ⟨g1, 0, none⟩) G'.length d1) G'
   rw [hl2]
   exact (((W1.other (by simp [Value.ownBlock]; omega) _ _).other (by simp [Value.ownBlock]; omega) _ _).other (by simp [Value.ownBlock]; omega) _ _).other (by simp [Value.ownBlock]; omega) _ _
  ·
   exact (((W2.other (fun e => by have := (ev2 _ e).1; omega) _ _).other (fun e => by have := (ev2 _ e).1; omega) _ _).other (fun e => by have := (ev2 _ e).1; omega) _ _).other (fun e => by have := (ev2 _ e).1; omega) _ _
  ·
   intro k hk1 hk2
   have : k = g1 := by simpa [Value.ownBlock] using hk1.symm
   subst this
   exact hf1.2.2.2.2 hk2
  exact blq
theorem genTake_any (o1 o2 : Option Addr) (c1 c2 : Nat) (G F : List Int) (w : World) (h1 : Ints w o1 G) (h2 : Ints w o2 F) (l1 : G.length ≤ 1048576) (l2 : F.length ≤ 1048576) (n1 : o1 = none → c1 = 0) (n2 : o2 = none → c2 = 0) :
  Calls Tryz.prog 72 #[.agg #[.slice o1 G.length c1, .slice o2 F.length c2]] w fun e w' => Takes (takeB G F) w e w' := by
 cases hk : okE G F
 ·
  exact genTake_few o1 o2 c1 c2 G F w h1 h2 l1 l2 n1 n2 (Or.inl hk)
 by_cases hF : 0 < F.length
 ·
  exact genTake_free o1 o2 c1 c2 G F w h1 h2 l1 l2 n1 n2 hk hF
 by_cases hG : 2000 ≤ G.length
 ·
  exact genTake_few o1 o2 c1 c2 G F w h1 h2 l1 l2 n1 n2 (Or.inr ⟨hF, hG⟩)
 exact genTake_grow o1 o2 c1 c2 G F w h1 h2 l1 l2 n1 n2 hk hF hG
end Go.Proofs.YtbgeobpdojmdaaaGreat
