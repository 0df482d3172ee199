import Derived.Test.YtncknfkinmjmdaaGreatDoorSp44
namespace Go.Proofs.YtncknfkinmjmdaaGreatDoor
set_option linter.unusedVariables false
set_option linter.unusedSimpArgs false
section
open Go.RowKit
set_option maxRecDepth 100000
theorem blkTwo (w : World) (c d : Array Value) (t u : TypeId) : Blk ((w.alloc (.cells c t)).alloc (.cells d u)) w.heap.size c t ∧ Blk ((w.alloc (.cells c t)).alloc (.cells d u)) (w.heap.size + 1) d u ∧ Below w.heap.size w ((w.alloc (.cells c t)).alloc (.cells d u)) :=
 ⟨(Blk.new w c t).alloc _, Blk.new' _ d u (by simp), bl_alloc (bl_alloc (Below.refl _ _) _) _⟩
set_option maxHeartbeats 4000000 in
theorem eqNode_k (s t : Option Addr) (cs ct : Nat) (n : Nd) (B C : Nat) (w : World) (hs : Els 1 cInt w B s n.kids) (ht : Els 1 cInt w C t n.kids) (hk : n.kids.length ≤ 1048576) :
  Calls Tryz.prog 35 #[.agg #[.int .i64 n.kind, .string n.text, .int .i64 n.num, .slice s n.kids.length cs], .agg #[.int .i64 n.kind, .string n.text, .int .i64 n.num, .slice t n.kids.length ct]] w fun e w' => e = .returned (.bool true) ∧ Below w.heap.size w w' := by
 have q0 : (n.kind != n.kind) = false := by simp
 have q1 : (n.num != n.num) = false := by simp
 have q2 : (n.text.toList == n.text.toList) = true := by simp
 obtain ⟨k0, k1, L0⟩ := blkTwo w #[.int .i64 n.kind, .string n.text, .int .i64 n.num, .slice s n.kids.length cs] #[.int .i64 n.kind, .string n.text, .int .i64 n.num, .slice t n.kids.length ct] 42 42
 obtain ⟨x0, x1, x2, x3, x4⟩ := k0.four'
 obtain ⟨y0, y1, y2, y3, y4⟩ := k1.four'
 go_enter Tryz.func35, Tryz.ntmps35
 go_wp2_with fail; refine (eqInts_any s t cs ct n.kids n.kids _ (hs.later cInt_keeps L0).ints (ht.later cInt_keeps L0).ints hk).mono ?_
 rintro e w3 ⟨rfl, hb3⟩
 rw [show decide (n.kids = n.kids) = true by simp]
 go_wp2_with fail; go_ret; exact ⟨rfl, bl_trans L0 hb3⟩
set_option maxHeartbeats 4000000 in
theorem eqNodeS_k (s t : Option Addr) (c d : Nat) (L : List Nd) (B C : Nat) (w : World) (hs : Els 4 cNode w B s L) (ht : Els 4 cNode w C t L) (hl : L.length ≤ 1048576) (hk : ∀ n ∈ L, n.kids.length ≤ 1048576) :
  Calls Tryz.prog 18 #[.slice s L.length c, .slice t L.length d] w fun e w' => e = .returned (.bool true) ∧ Below w.heap.size w w' := by
 have hal := alloc_old
 have haf := alloc_oldf
 have HK : Hid (∀ n ∈ L, n.kids.length ≤ 1048576) := hk
 clear hk; go_enter Tryz.func18, Tryz.ntmps18
 go_wp2_with fail; go_loopw [5] (fun i wr => ∃ k : Nat, k ≤ L.length ∧ i = .int .i64 k ∧ Below w.heap.size w wr) (fun i _ => L.length - (intOf i).toNat)
 case atStart => exact ⟨0, Nat.zero_le _, rfl, Below.refl _ _⟩
 obtain ⟨k, hk, rfl, hb⟩ := hrel
 by_cases hlt : k < L.length
 ·
  obtain ⟨a, ha⟩ := get_some hlt
  obtain ⟨b, o, rfl, _, hp, s', c', e0, e1, e2, e3, f⟩ := eNode_cells (hs.later cNode_keeps hb) ha
  obtain ⟨b', o', rfl, _, hp', t', d', f0, f1, f2, f3, g⟩ := eNode_cells (ht.later cNode_keeps hb) ha
  have hka : Hid (a.kids.length ≤ 1048576) := HK.out a (List.mem_of_getElem? ha)
  have PH : Hid (Els 1 cInt wr B s' a.kids ∧ Els 1 cInt wr C t' a.kids) := ⟨f, g⟩
  clear hs ht ha f g; go_wp2_with fail; go_region_with (first
   | (go_at_call 35; refine (eqNode_k s' t' c' d' a B C _ (PH.out.1.later cInt_keeps (bl_drew (Below.refl _ _))) (PH.out.2.later cInt_keeps (bl_drew (Below.refl _ _))) hka.out).mono ?_; rintro e w2 ⟨rfl, hb2⟩))
  all_goals
   go_wp2_with fail; go_roundw
   case rel =>
    refine ⟨k + 1, by omega, by go_num, ?_⟩
    exact blq
   case measure => simp [intOf]; omega
 go_wp2_with fail; go_ret; exact ⟨rfl, hb⟩
set_option maxHeartbeats 4000000 in
theorem eqTree_k (s1 s2 t1 t2 : Option Addr) (c1 c2 d1 d2 : Nat) (t : Tre) (B C : Nat) (w : World) (hs : InT w B s1 s2 t) (ht : InT w C t1 t2 t) (hk : (t.nodes.length ≤ 1048576 ∧ ∀ n ∈ t.nodes, n.kids.length ≤ 1048576) ∧ t.tops.length ≤ 1048576) :
  Calls Tryz.prog 6 #[.agg #[.slice s1 t.nodes.length c1, .slice s2 t.tops.length c2], .agg #[.slice t1 t.nodes.length d1, .slice t2 t.tops.length d2]] w fun e w' => e = .returned (.bool true) ∧ Below w.heap.size w w' := by
 obtain ⟨⟨m1, m2⟩, m3⟩ := hk
 obtain ⟨k0, k1, L0⟩ := blkTwo w #[.slice s1 t.nodes.length c1, .slice s2 t.tops.length c2] #[.slice t1 t.nodes.length d1, .slice t2 t.tops.length d2] 25 25
 obtain ⟨x0, x1, x2⟩ := k0.two
 obtain ⟨y0, y1, y2⟩ := k1.two
 go_enter Tryz.func6, Tryz.ntmps6
 go_wp2_with fail; refine (eqNodeS_k s1 t1 c1 d1 t.nodes B C _ (hs.n.later cNode_keeps L0) (ht.n.later cNode_keeps L0) m1 m2).mono ?_
 rintro e w1 ⟨rfl, hb1⟩
 have L1 := bl_trans L0 hb1
 have k0 := k0.later hb1
 have k1 := k1.later hb1
 clear x0 x1 x2 y0 y1 y2 hb1 L0 m2; obtain ⟨x0, x1, x2⟩ := k0.two
 obtain ⟨y0, y1, y2⟩ := k1.two
 go_wp2_with fail; refine (eqInts_any s2 t2 c2 d2 t.tops t.tops _ (hs.t.later cInt_keeps L1).ints (ht.t.later cInt_keeps L1).ints m3).mono ?_
 rintro e w3 ⟨rfl, hb3⟩
 rw [show decide (t.tops = t.tops) = true by simp]
 go_wp2_with fail; go_ret; exact ⟨rfl, bl_trans L1 hb3⟩
theorem rows_inT {X W : World} {B cv ct : Nat} {sv st : Option Addr} {Q : List NK} {x : List Int} {S : List OR} (h : Rs X B W (rN (.slice sv Q.length cv) Q :: (rK Q ++ rI (.slice st x.length ct) x :: S))) : InT W B sv st ⟨Q.map (·.1), x⟩ := by
 refine ⟨?_, ?_⟩
 ·
  have h1 : W.ownsRow B 42 4 (.slice sv Q.length cv) Q.length (Q.flatMap nc) := h.at [] _
  rcases h1.2 with ⟨e1, e2⟩ | ⟨g, cap, cur, e1, _⟩
  ·
   exact Or.inl (by have : Q = [] := List.length_eq_zero_iff.1 e2; rw [this]; rfl)
  simp only [Value.slice.injEq] at e1
  obtain ⟨rfl, _, _⟩ := e1
  have hlt := World.ownsRow.lt h1 g rfl
  refine Or.inr ⟨g, 0, rfl, hlt.1, hlt.2, fun j a ha => ?_, fun _ o => World.ownsRow.frozenAt h1 o⟩
  dsimp only at ha
  rw [List.getElem?_map] at ha
  cases hq : Q[j]? with
  | none => rw [hq] at ha; cases ha
  | some q =>
   rw [hq] at ha
   simp only [Option.map_some, Option.some.injEq] at ha
   subst ha
   have hj : j < Q.length := (List.getElem?_eq_some_iff.1 hq).1
   have hon : (rI q.2 q.1.kids).on W B := by
    have h2 := h
    rw [rK_split hq] at h2
    have h3 : Rs X B W ((rN (.slice (some ⟨g, 0, none⟩) Q.length cv) Q :: rK (Q.take j)) ++ rI q.2 q.1.kids :: (rK (Q.drop (j + 1)) ++ rI (.slice st x.length ct) x :: S)) := by simpa using h2
    exact h3.at _ _
   obtain ⟨ks, kc, ek⟩ := rI_form hon
   refine ⟨nc q, nc_len q, fun i u hu => ?_, ks, kc, by simp [nc, ek], by rw [ek] at hon; exact rI_els hon⟩
   have hi : i < 4 := by rw [← nc_len q]; exact (List.getElem?_eq_some_iff.1 hu).1
   rw [Nat.zero_add, World.ownsRow.cellAt h1 (j * 4 + i) (by omega), flat_get nc_len Q j q hq i hi, hu]
 exact rI_els (h.at (rN (.slice sv Q.length cv) Q :: rK Q) S)
theorem markNode_zero (s : Option Addr) (c : Nat) (k : Int) (w : World) : Calls Tryz.prog 20 #[.slice s 0 c, .int .i64 k] w fun e w' => e = .returned (.int .i64 k) ∧ w' = w := by
 go_enter Tryz.func20, Tryz.ntmps20
 go_wp2_with fail; go_loopw [1, 5] (fun kv iv wr => kv = .int .i64 k ∧ iv = .int .i64 0 ∧ wr = w) (fun _ _ _ => 0)
 case atStart => exact ⟨rfl, rfl, rfl⟩
 obtain ⟨rfl, rfl, rfl⟩ := hrel
 go_wp2_with fail; go_ret; exact ⟨rfl, rfl⟩
theorem MQ.nil (k : Int) : MQ k [] [] 0 := ⟨rfl, fun j q hj => by omega, fun _ _ => rfl⟩
theorem markNodeS_all (X : World) (B cv : Nat) (sv : Option Addr) (P S : List OR) (Q : List NK) (k : Int) (w : World) (hR : Rs X B w (P ++ rN (.slice sv Q.length cv) Q :: (rK Q ++ S))) (hl : Q.length ≤ 8000) (hk : ∀ q ∈ Q, q.1.kids.length ≤ 4002) (k0 : 1 ≤ k) (k1 : k ≤ 1000) :
  Calls Tryz.prog 20 #[.slice sv Q.length cv, .int .i64 k] w fun e w' => e = .returned (.int .i64 (k + cQ Q Q.length)) ∧ ∃ Q', MQ k Q Q' Q.length ∧ Rs X B w' (P ++ rN (.slice sv Q.length cv) Q' :: (rK Q' ++ S)) := by
 have h1 : w.ownsRow B 42 4 (.slice sv Q.length cv) Q.length (Q.flatMap nc) := hR.at P _
 rcases h1.2 with ⟨e1, e2⟩ | ⟨g, cap, cur, e1, _⟩
 ·
  have : Q = [] := List.length_eq_zero_iff.1 e2
  subst this
  refine (markNode_zero sv cv k w).mono ?_
  rintro e w' ⟨rfl, rfl⟩
  exact ⟨by simp [cQ], [], MQ.nil k, hR⟩
 simp only [Value.slice.injEq] at e1
 obtain ⟨rfl, _, _⟩ := e1
 exact markNodeS_row X B g cv Q.length P S Q k w rfl hR hl hk k0 k1
set_option maxHeartbeats 4000000 in
theorem markTree_rows (X : World) (B cv ct : Nat) (sv st : Option Addr) (S : List OR) (Q : List NK) (x : List Int) (k : Int) (w : World) (hR : Rs X B w (rN (.slice sv Q.length cv) Q :: (rK Q ++ rI (.slice st x.length ct) x :: S))) (hl : Q.length ≤ 8000) (hx : x.length ≤ 5000) (hk : ∀ q ∈ Q, q.1.kids.length ≤ 4002) (k0 : 1 ≤ k) (k1 : k ≤ 1000) :
  Calls Tryz.prog 7 #[.agg #[.slice sv Q.length cv, .slice st x.length ct], .int .i64 k] w fun e w' => e = .returned (.int .i64 (k + cQ Q Q.length + (x.length : Int))) ∧ ∃ Q', MQ k Q Q' Q.length ∧ Rs X B w' (rN (.slice sv Q.length cv) Q' :: (rK Q' ++ rI (.slice st x.length ct) (wI (k + cQ Q Q.length) x.length) :: S)) := by
 have hb := cQ_le hk Q.length
 have h0 := hid (Rs.addB hR [.slice sv Q.length cv, .slice st x.length ct] 25)
 have HK := hid hk
 obtain ⟨x0, x1, xf⟩ := (h0.out.box [] _).two
 clear hR hk; go_enter Tryz.func7, Tryz.ntmps7
 go_wp2_with fail; refine (markNodeS_all X B cv sv [rB w.heap.size 25 [.slice sv Q.length cv, .slice st x.length ct]] (rI (.slice st x.length ct) x :: S) Q k _ h0.out hl HK.out k0 k1).mono ?_
 rintro e w1 ⟨rfl, Q', hQ, r1⟩
 clear x0 x1 xf h0; obtain ⟨x0, x1, xf⟩ := (r1.box [] _).two
 obtain ⟨K, eK⟩ : ∃ K, Hid (k + cQ Q Q.length = K) := ⟨_, rfl⟩
 rw [eK.out]
 have K0 : 0 ≤ K := by have := eK.out; omega
 have K1 : K ≤ 9000000000000000000 := by have := eK.out; omega
 have h1 := hid r1
 have HQ := hid hQ
 clear r1 hQ hb; go_wp2_with fail; have h2 : Rs X B w1 ((rB w.heap.size 25 [.slice sv Q.length cv, .slice st x.length ct] :: rN (.slice sv Q.length cv) Q' :: rK Q') ++ rI (.slice st x.length ct) x :: S) := by simpa using h1.out
 refine (markI_o st ct x B K _ (h2.at _ _) (by omega) K0 K1).mono ?_
 rintro e w2 ⟨rfl, r2, g2⟩
 have h3 := h2.turn _ _ (r' := rI (.slice st x.length ct) (wI K x.length)) g2 r2 (fun _ hh => Or.inl hh)
 have h4 : Rs X B w2 (rB w.heap.size 25 [.slice sv Q.length cv, .slice st x.length ct] :: (rN (.slice sv Q.length cv) Q' :: (rK Q' ++ rI (.slice st x.length ct) (wI K x.length) :: S))) := by simpa using h3
 have h5 := hid (h4.less [] _)
 clear h1 h2 h3 h4 r2 g2 x0 x1 xf; go_wp2_with fail; go_ret; exact ⟨by rw [eK.out]; rfl, Q', HQ.out, by rw [eK.out]; exact h5.out⟩
end
section
open Go.RowKit
set_option maxRecDepth 100000
set_option maxHeartbeats 4000000 in
theorem heldNodeS_all (B c : Nat) (s : Option Addr) (Q Q' : List NK) (k : Int) (w : World) (hE : Els 4 cNode w B s (Q'.map (·.1))) (hM : MQ k Q Q' Q.length) (hl : Q.length ≤ 8000) (hk : ∀ q ∈ Q, q.1.kids.length ≤ 4002) (k0 : 1 ≤ k) (k1 : k ≤ 1000) :
  Calls Tryz.prog 22 #[.slice s Q.length c, .int .i64 k] w fun e w' => e = .returned (.int .i64 (k + cQ Q Q.length)) ∧ Below w.heap.size w w' := by
 have HK := hid hk
 have HE := hid hE
 have HM := hid hM
 obtain ⟨n, hn⟩ : ∃ n, Hid (Q.length = n) := ⟨_, rfl⟩
 rw [hn.out] at hl ⊢
 clear hk hE hM; go_enter Tryz.func22, Tryz.ntmps22
 go_wp2_with fail; go_loopw [1, 5] (fun kv iv wr => ∃ (m : Nat) (r : Int), m ≤ n ∧ iv = .int .i64 m ∧ kv = .int .i64 r ∧ Hid (r = k + cQ Q m) ∧ Hid (Below w.heap.size w wr)) (fun _ iv _ => n - (intOf iv).toNat)
 case atStart => exact ⟨0, k, by omega, rfl, rfl, (show k = k + cQ Q 0 by simp [cQ]), Below.refl _ _⟩
 obtain ⟨m, r, hm, rfl, rfl, hr, hb⟩ := hrel
 have hc := hid (cQ_le HK.out m)
 have r0 : 1 ≤ r := by have h1 := hr.out; have h2 := hc.out; omega
 have r1 : r ≤ 40000000 := by have h1 := hr.out; have h2 := hc.out; omega
 by_cases hlt : m < n
 ·
  obtain ⟨q, hqm⟩ := get_some (L := Q) (by have := hn.out; omega : m < Q.length)
  have hkq := HK.out q (List.mem_of_getElem? hqm)
  have hq' := HM.out.2.1 m q (by have := hn.out; omega) hqm
  rw [← hr.out] at hq'
  have hq2 : (Q'.map (·.1))[m]? = some (mN1 r q).1 := by rw [List.getElem?_map, hq']; rfl
  have HQ2 := hid hq2
  have Hqm := hid hqm
  obtain ⟨b, o, rfl, _, hp, ks, kc, c0, c1, c2, c3, ee⟩ := eNode_cells (HE.out.later cNode_keeps hb.out) hq2
  obtain ⟨tt, htt⟩ : ∃ t, Hid (mTx (r + 1) = t) := ⟨_, rfl⟩
  simp only [mN1, wI_len, htt.out] at c0 c1 c2 c3
  have t1 : IntKind.i64.wrap (r + 1) = r + 1 := by rw [IntKind.wrap_i64]; omega
  have t2 : IntKind.i64.wrap (r + 1 + 1) = r + 1 + 1 := by rw [IntKind.wrap_i64]; omega
  have t3 : IntKind.i64.wrap (r + 1 + 1 + 1) = r + 1 + 1 + 1 := by rw [IntKind.wrap_i64]; omega
  have mi : (m : Int) < (n : Int) := by omega
  have mi0 : (0 : Int) ≤ (m : Int) := by omega
  have g1 : (r != r) = false := by simp
  have g3 : (r + 1 + 1 != r + 1 + 1) = false := by simp
  have e2 : r + 2 = r + 1 + 1 := by omega
  rw [e2] at c2
  have HMT : Hid (∀ W, Calls Tryz.prog 36 #[.int .i64 (r + 1)] W fun e w' => e = .returned (.string tt) ∧ Below W.heap.size W w') := fun W => by
   have := markText_is (r + 1) W (by omega) (by omega)
   rw [htt.out] at this
   exact this
  have KEEP : Hid (∀ W, Below wr.heap.size wr W → W.cell? ⟨b, o + m * 4 + 1, none⟩ = some (.string tt) ∧ W.cell? ⟨b, o + m * 4 + 2, none⟩ = some (.int .i64 (r + 1 + 1)) ∧ W.cell? ⟨b, o + m * 4 + 3, none⟩ = some (.slice ks q.1.kids.length kc)) := fun W hW => ⟨(hW.cell (p := ⟨b, o + m * 4 + 1, none⟩) hp).trans c1, (hW.cell (p := ⟨b, o + m * 4 + 2, none⟩) hp).trans c2, (hW.cell (p := ⟨b, o + m * 4 + 3, none⟩) hp).trans c3⟩
  have EE := hid ee
  clear hqm hq' hq2 ee e2; go_wp2_with fail; go_region_held3 (fun w' => w'.cell? ⟨b, o + m * 4 + 1, none⟩ = some (.string tt)) (simp [c1])
   (first
    | (go_at_call 36; refine (HMT.out _).mono ?_; rintro e w2 ⟨rfl, b2⟩; have hw2 : Below wr.heap.size wr w2 := bl_trans (bl_drew (Below.refl _ _)) b2; obtain ⟨c1, c2, c3⟩ := KEEP.out w2 hw2))
  have hb2 := hid (bl_trans hb.out hw2)
  have EE2 := hid (EE.out.later cInt_keeps hw2)
  have hn3 : Hid (r + 1 + 1 + 1 + (q.1.kids.length : Int) = k + cQ Q (m + 1)) := by
   show _ = _
   rw [cQ_succ Hqm.out, hr.out]
   omega
  go_wp2_with fail; have e3 : r + 3 = r + 1 + 1 + 1 := by omega
  have E4 : Els 1 cInt w2 B ks (wI (r + 1 + 1 + 1) q.1.kids.length) := by
   have := EE2.out
   simp only [mN1] at this
   rw [e3] at this
   exact this
  refine (heldI_o ks kc q.1.kids.length B (r + 1 + 1 + 1) w2 E4 (by omega) (by omega) (by omega)).mono ?_
  rintro e w3 ⟨rfl, rfl⟩
  obtain ⟨K2, eK2⟩ : ∃ K2, Hid (r + 1 + 1 + 1 + (q.1.kids.length : Int) = K2) := ⟨_, rfl⟩
  have hn4 : Hid (K2 = k + cQ Q (m + 1)) := by show _ = _; rw [← eK2.out]; exact hn3.out
  have t4 : decide (K2 < 0) = false := by have := eK2.out; simp; omega
  rw [eK2.out]
  clear c1 c2 c3 E4 hn3; go_wp2_with fail; go_roundw
  case rel => exact ⟨m + 1, _, by omega, by go_num, rfl, hn4, hb2⟩
  case measure => simp [intOf]; omega
 have hmn : m = n := by omega
 subst hmn
 go_wp2_with fail; go_ret; exact ⟨by rw [← hr.out]; rfl, hb.out⟩
set_option maxHeartbeats 4000000 in
theorem heldTree_rows (X : World) (B cv ct : Nat) (sv st : Option Addr) (S : List OR) (Q Q' : List NK) (x : List Int) (k : Int) (w : World) (hM : MQ k Q Q' Q.length) (hR : Rs X B w (rN (.slice sv Q.length cv) Q' :: (rK Q' ++ rI (.slice st x.length ct) (wI (k + cQ Q Q.length) x.length) :: S))) (hl : Q.length ≤ 8000) (hx : x.length ≤ 5000) (hk : ∀ q ∈ Q, q.1.kids.length ≤ 4002) (k0 : 1 ≤ k) (k1 : k ≤ 1000) :
  Calls Tryz.prog 8 #[.agg #[.slice sv Q.length cv, .slice st x.length ct], .int .i64 k] w fun e w' => e = .returned (.int .i64 (k + cQ Q Q.length + (x.length : Int))) ∧ Below w.heap.size w w' := by
 have hb := cQ_le hk Q.length
 have hR2 : Rs X B w (rN (.slice sv Q'.length cv) Q' :: (rK Q' ++ rI (.slice st (wI (k + cQ Q Q.length) x.length).length ct) (wI (k + cQ Q Q.length) x.length) :: S)) := by rw [hM.1, wI_len]; exact hR
 have hI := hid (rows_inT hR2)
 have HM := hid hM
 have HK := hid hk
 have k0' := Blk.new w #[.slice sv Q.length cv, .slice st x.length ct] 25
 have L0 : Below w.heap.size w (w.alloc (.cells #[.slice sv Q.length cv, .slice st x.length ct] 25)) := bl_alloc (Below.refl _ _) _
 obtain ⟨x0, x1, xf⟩ := k0'.two
 clear hR hR2 hM hk; go_enter Tryz.func8, Tryz.ntmps8
 go_wp2_with fail; generalize hW : w.alloc (.cells #[.slice sv Q.length cv, .slice st x.length ct] 25) = W1 at k0' L0 x0 x1 xf ⊢
 clear hW; refine (heldNodeS_all B cv sv Q Q' k W1 (hI.out.n.later cNode_keeps L0) HM.out hl HK.out k0 k1).mono ?_
 rintro e w1 ⟨rfl, b1⟩
 obtain ⟨K, eK⟩ : ∃ K, Hid (k + cQ Q Q.length = K) := ⟨_, rfl⟩
 have hI2 := hid ((hI.out.later L0).later b1)
 rw [eK.out]
 rw [eK.out] at hI2
 have K0 : 0 ≤ K := by have := eK.out; omega
 have K1 : K ≤ 9000000000000000000 := by have := eK.out; omega
 have t1 : decide (K < 0) = false := by simp; omega
 have L1 := hid (bl_trans L0 b1)
 replace k0' := k0'.later b1
 clear x0 x1 xf b1 L0 hI hb; obtain ⟨x0, x1, xf⟩ := k0'.two
 go_wp2_with fail; refine (heldI_o st ct x.length B K w1 hI2.out.t (by omega) K0 K1).mono ?_
 rintro e w2 ⟨rfl, rfl⟩
 obtain ⟨K2, eK2⟩ : ∃ K2, Hid (K + (x.length : Int) = K2) := ⟨_, rfl⟩
 have t2 : decide (K2 < 0) = false := by have := eK2.out; simp; omega
 rw [eK2.out]
 go_wp2_with fail; go_ret; exact ⟨by rw [eK.out, eK2.out]; rfl, L1.out⟩
end
section
open Go.RowKit
set_option maxRecDepth 100000
def trR (r : PRes) : Tre × Int × Int :=
 match r with
 | .ok (x, _, M) => (⟨M, x⟩, 0, 0)
 | .error (c, a) => (⟨[], []⟩, c, a)
theorem OkT.rows {X w' : World} {r : PRes} {e : Ending} (h : OkT X r e w') : ∃ (sv : Option Addr) (cv : Nat) (st : Option Addr) (ct : Nat) (Q : List NK) (x : List Int) (c a : Int), e = .returned (.tuple #[.agg #[.slice sv Q.length cv, .slice st x.length ct], .int .i64 c, .int .i64 a]) ∧ trR r = (⟨Q.map (·.1), x⟩, c, a) ∧ Rs X X.heap.size w' (rN (.slice sv Q.length cv) Q :: (rK Q ++ rI (.slice st x.length ct) x :: [])) := by
 rcases r with ⟨c, a⟩ | ⟨x, j, M⟩
 ·
  obtain ⟨rfl, hb⟩ := h
  have r0 : Rs X X.heap.size w' [] := ⟨hb, Owns.nil _ _, hb.size⟩
  have r1 : Rs X X.heap.size w' ([] ++ rI (.slice none 0 0) [] :: []) := Rs.ins [] [] r0 (Below.refl _ _) (World.ownsRow_nil _ _ _ _)
  have r2 : Rs X X.heap.size w' ([] ++ rN (.slice none 0 0) [] :: [rI (.slice none 0 0) []]) := Rs.ins [] [rI (.slice none 0 0) []] r1 (Below.refl _ _) (World.ownsRow_nil _ _ _ _)
  exact ⟨none, 0, none, 0, [], [], c, a, rfl, rfl, r2⟩
 obtain ⟨v, Q, s, cc, rfl, rfl, hR⟩ := h
 obtain ⟨sv, cv, rfl⟩ : ∃ sv cv, v = .slice sv Q.length cv := by
  have hon : w'.ownsRow X.heap.size 42 4 v Q.length (Q.flatMap nc) := hR.at [] _
  rcases hon.2 with ⟨e1, e2⟩ | ⟨gg, cap, cur, e1, _⟩
  ·
   exact ⟨none, 0, by rw [e1, e2]⟩
  exact ⟨_, cap, e1⟩
 exact ⟨sv, cv, s, cc, Q, x, 0, 0, rfl, rfl, hR⟩
theorem lexF_len (s : ByteArray) : ∀ (n k : Nat) (L : List Tk), L.length ≤ k → L.length ≤ s.size → (lexF s n k L).2.2.length ≤ s.size := by
 intro n
 induction n with
 | zero => intro k L _ _; simp [lexF]
 | succ n ih =>
  intro k L h1 h2
  unfold lexF
  split
  ·
   rename_i hk
   split
   ·
    rename_i h0
    have hj := stepF_gt hk h0
    cases ho : (stepF s k).2.1 with
    | none =>
     refine ih _ _ ?_ ?_ <;> simp <;> omega
    | some t =>
     refine ih _ _ ?_ ?_ <;> simp <;> omega
   simp
  exact h2
theorem lexAll_len (s : ByteArray) : (lexAll s).2.2.length ≤ 4000 := by
 unfold lexAll
 split
 ·
  simp
 rename_i h
 have := lexF_len s (s.size + 1 - 0 + 1) 0 [] (by simp) (by simp)
 unfold full
 omega
theorem pAll_b {s : ByteArray} {Q : List NK} {x : List Int} {c a : Int} (h : trR (pAll s) = (⟨Q.map (·.1), x⟩, c, a)) : Q.length ≤ 8000 ∧ x.length ≤ 4001 ∧ ∀ q ∈ Q, q.1.kids.length ≤ 4002 := by
 have hl := lexAll_len s
 unfold pAll at h
 have hnil : ∀ c' a' : Int, trR (.error (c', a')) = (⟨Q.map (·.1), x⟩, c, a) → Q.length ≤ 8000 ∧ x.length ≤ 4001 ∧ ∀ q ∈ Q, q.1.kids.length ≤ 4002 := by
  intro c' a' hh
  simp only [trR, Prod.mk.injEq, Tre.mk.injEq] at hh
  obtain ⟨⟨h1, h2⟩, _⟩ := hh
  have hq : Q = [] := by simpa using h1.symm
  subst hq
  rw [← h2]
  simp
 split at h
 ·
  rcases hr : PAR (lexAll s).2.2 (s.size : Int) (.tops []) 0 [] with ⟨c', a'⟩ | ⟨x', j, M⟩
  ·
   rw [hr] at h; exact hnil _ _ h
  obtain ⟨g1, g2, g3⟩ := PAR_kids hr
  rw [hr] at h
  simp only [trR, Prod.mk.injEq, Tre.mk.injEq] at h
  obtain ⟨⟨rfl, rfl⟩, _⟩ := h
  simp only [List.length_map] at g2
  refine ⟨by omega, by omega, fun q hq => ?_⟩
  have := g3 q.1 (List.mem_map_of_mem hq)
  omega
 exact hnil _ _ h
theorem rowBox {X W : World} {B n : Nat} {r r' : OR} {R : List OR} {t : TypeId} {cs : List Value} (h : Rs X B W (r :: (R ++ r' :: [rB n t cs]))) : Blk W n cs.toArray t := by
 have h2 : Rs X B W ((r :: (R ++ [r'])) ++ rB n t cs :: []) := by simpa using h
 exact h2.box _ _
set_option maxHeartbeats 16000000 in
theorem exactParse_any (s : ByteArray) (w : World) (hL : Laid w) (h20 : 9 ≤ w.heap.size) :
  Calls Tryz.prog 3 #[.string s] w fun e w' => e = .returned (.bool true) ∧ Below w.heap.size w w' := by
 by_cases hbig : (1048576 : Int) < (s.size : Int)
 ·
  go_enter Tryz.func3, Tryz.ntmps3
  go_wp2_with fail; go_ret; exact ⟨rfl, Below.refl _ _⟩
 have HL := hid hL
 clear hL; go_enter Tryz.func3, Tryz.ntmps3
 go_wp2_with fail; refine (specParse_any s w).mono ?_
 intro e w1 hO
 obtain ⟨sv, cv, st, ct, Q, x, c, a, rfl, ht, r1⟩ := hO.rows
 have I0 := rows_inT r1
 have L1 := r1.l
 have K3 := Blk.new w1 #[.slice sv Q.length cv, .slice st x.length ct] 25
 have B1 : Below w1.heap.size w1 (w1.alloc (.cells #[.slice sv Q.length cv, .slice st x.length ct] 25)) := bl_alloc (Below.refl _ _) _
 have L2 := bl_trans L1 B1
 have I1 := hid (I0.later B1)
 have HT := hid ht
 have s1 : w1.heap.size < (w1.alloc (.cells #[.slice sv Q.length cv, .slice st x.length ct] 25)).heap.size := K3.lt
 clear hO r1 I0 L1 B1 ht; go_wp2_with fail; generalize hW : w1.alloc (.cells #[.slice sv Q.length cv, .slice st x.length ct] 25) = W1 at K3 L2 I1 s1 ⊢
 clear hW; have hs1 := L2.size
 refine (implParse_any s W1 (HL.out.later L2) (by omega)).mono ?_
 intro e w2 hO
 obtain ⟨sv2, cv2, st2, ct2, Q2, x2, c2, a2, rfl, ht2, r2⟩ := hO.rows
 have hq := HT.out
 rw [ht2] at hq
 simp only [Prod.mk.injEq, Tre.mk.injEq] at hq
 obtain ⟨⟨hm, rfl⟩, rfl, rfl⟩ := hq
 have hlen : Q.length = Q2.length := by have := congrArg List.length hm; simpa using this.symm
 obtain ⟨bQ, bx, bk⟩ := pAll_b ht2
 have I1 := I1.out
 rw [← hm] at I1
 have I1 := hid I1
 rw [hlen] at K3 ⊢
 have BK := hid bk
 have HT := hid ht2
 clear hO ht2 bk hm hlen; have K6 := Blk.new w2 #[.slice sv2 Q2.length cv2, .slice st2 x2.length ct2] 25
 have B2 : Below w2.heap.size w2 (w2.alloc (.cells #[.slice sv2 Q2.length cv2, .slice st2 x2.length ct2] 25)) := bl_alloc (Below.refl _ _) _
 have r3 : Rs W1 W1.heap.size (w2.alloc (.cells #[.slice sv2 Q2.length cv2, .slice st2 x2.length ct2] 25)) ((rN (.slice sv2 Q2.length cv2) Q2 :: (rK Q2 ++ [rI (.slice st2 x2.length ct2) x2])) ++ rB w2.heap.size 25 [.slice sv2 Q2.length cv2, .slice st2 x2.length ct2] :: []) := Rs.ins _ [] (by simpa using r2) B2 (blk_rB K6 (Nat.le_refl _))
 have r3 : Rs W1 W1.heap.size (w2.alloc (.cells #[.slice sv2 Q2.length cv2, .slice st2 x2.length ct2] 25)) (rN (.slice sv2 Q2.length cv2) Q2 :: (rK Q2 ++ rI (.slice st2 x2.length ct2) x2 :: [rB w2.heap.size 25 [.slice sv2 Q2.length cv2, .slice st2 x2.length ct2]])) := by simpa using r3
 have K3b := K3.same2 (r3.l.block w1.heap.size s1)
 have R3 := hid r3
 clear r2 B2 r3; obtain ⟨x0, x1, xf⟩ := K3b.two
 obtain ⟨y0, y1, yf⟩ := K6.two
 go_wp2_with fail; generalize hW : w2.alloc (.cells #[.slice sv2 Q2.length cv2, .slice st2 x2.length ct2] 25) = W2 at R3 K3b K6 x0 x1 xf y0 y1 yf ⊢
 clear hW; have hkT : Hid (((⟨Q2.map (·.1), x2⟩ : Tre).nodes.length ≤ 1048576 ∧ ∀ n ∈ (⟨Q2.map (·.1), x2⟩ : Tre).nodes, n.kids.length ≤ 1048576) ∧ (⟨Q2.map (·.1), x2⟩ : Tre).tops.length ≤ 1048576) := by
  refine ⟨⟨by simp; omega, fun n hn => ?_⟩, by show x2.length ≤ _; omega⟩
  obtain ⟨q, hq, rfl⟩ := List.mem_map.1 hn
  have := BK.out q hq
  omega
 have EQ : Hid (∀ (W : World) (B C : Nat) (s1 s2 t1 t2 : Option Addr) (c1 c2 d1 d2 : Nat), InT W B s1 s2 ⟨Q2.map (·.1), x2⟩ → InT W C t1 t2 ⟨Q2.map (·.1), x2⟩ → Calls Tryz.prog 6 #[.agg #[.slice s1 Q2.length c1, .slice s2 x2.length c2], .agg #[.slice t1 Q2.length d1, .slice t2 x2.length d2]] W fun e w' => e = .returned (.bool true) ∧ Below W.heap.size W w') := fun W B C s1 s2 t1 t2 c1 c2 d1 d2 h1 h2 => by
  have := eqTree_k s1 s2 t1 t2 c1 c2 d1 d2 ⟨Q2.map (·.1), x2⟩ B C W h1 h2 hkT.out
  simpa only [List.length_map] using this
 refine (EQ.out W2 _ _ sv2 st2 sv st cv2 ct2 cv ct (rows_inT R3.out) (I1.out.later R3.out.l)).mono ?_
 rintro e w3 ⟨rfl, b3⟩
 have qc : (c2 != c2) = false := by simp
 have qa : (a2 != a2) = false := by simp
 have R4 := hid (R3.out.later b3)
 clear x0 x1 xf y0 y1 yf K3b K6 R3 b3; obtain ⟨y0, y1, yf⟩ := (rowBox R4.out).two
 go_wp2_with fail; refine (markTree_rows W1 W1.heap.size cv2 ct2 sv2 st2 _ Q2 x2 1 w3 R4.out bQ (by omega) BK.out (by omega) (by omega)).mono ?_
 rintro e w4 ⟨rfl, Q', hM, r4⟩
 obtain ⟨M, eM⟩ : ∃ M, Hid (1 + cQ Q2 Q2.length + (x2.length : Int) = M) := ⟨_, rfl⟩
 rw [eM.out]
 have HM := hid hM
 have R5 := hid r4
 have M0 : 0 ≤ M := by have h1 := cQ_le BK.out Q2.length; have h2 := eM.out; omega
 have t1 : decide (M < 0) = false := by simp; omega
 have t2 : (M != M) = false := by simp
 clear hM r4 R4 y0 y1 yf; obtain ⟨y0, y1, yf⟩ := (rowBox R5.out).two
 go_wp2_with fail; have HH : Hid (∀ W : World, Rs W1 W1.heap.size W (rN (.slice sv2 Q2.length cv2) Q' :: (rK Q' ++ rI (.slice st2 x2.length ct2) (wI (1 + cQ Q2 Q2.length) x2.length) :: [rB w2.heap.size 25 [.slice sv2 Q2.length cv2, .slice st2 x2.length ct2]])) → Calls Tryz.prog 8 #[.agg #[.slice sv2 Q2.length cv2, .slice st2 x2.length ct2], .int .i64 1] W fun e w' => e = .returned (.int .i64 M) ∧ Below W.heap.size W w') := fun W hW => by
  have := heldTree_rows W1 W1.heap.size cv2 ct2 sv2 st2 _ Q2 Q' x2 1 W HM.out hW bQ (by omega) BK.out (by omega) (by omega)
  rw [eM.out] at this
  exact this
 refine (HH.out w4 R5.out).mono ?_
 rintro e w5 ⟨rfl, b5⟩
 have L5 := bl_trans (bl_trans L2 R5.out.l) b5
 have D5 := hid (bl_trans R5.out.l b5)
 have R6 := hid (R5.out.later b5)
 have hs5 := L5.size
 clear y0 y1 yf R5 b5; go_wp2_with fail; refine (implParse_any s w5 (HL.out.later L5) (by omega)).mono ?_
 intro e w6 hO
 obtain ⟨sv3, cv3, st3, ct3, Q3, x3, c3, a3, rfl, ht3, r7⟩ := hO.rows
 have hq := HT.out
 rw [ht3] at hq
 simp only [Prod.mk.injEq, Tre.mk.injEq] at hq
 obtain ⟨⟨hm, rfl⟩, rfl, rfl⟩ := hq
 have hlen : Q3.length = Q2.length := by have := congrArg List.length hm; simpa using this
 have I7 := rows_inT r7
 rw [hm] at I7
 have l7 := r7.l
 rw [hlen]
 clear hO ht3 hm hlen r7; have K11 := Blk.new w6 #[.slice sv3 Q2.length cv3, .slice st3 x3.length ct3] 25
 have B6 : Below w6.heap.size w6 (w6.alloc (.cells #[.slice sv3 Q2.length cv3, .slice st3 x3.length ct3] 25)) := bl_alloc (Below.refl _ _) _
 have D7 := hid (bl_trans (bl_trans D5.out l7) B6)
 have K3c := K3.same2 (D7.out.block w1.heap.size s1)
 have R7 := hid ((R6.out.later l7).later B6)
 have I8 := hid (I7.later B6)
 have L7 := hid (bl_trans (bl_trans L5 l7) B6)
 obtain ⟨x0, x1, xf⟩ := K3c.two
 obtain ⟨y0, y1, yf⟩ := K11.two
 clear K3 R6 I7 l7 B6 D5 L5; go_wp2_with fail; generalize hW : w6.alloc (.cells #[.slice sv3 Q2.length cv3, .slice st3 x3.length ct3] 25) = W7 at R7 K3c K11 I8 D7 L7 x0 x1 xf y0 y1 yf ⊢
 clear hW; refine (EQ.out W7 _ _ sv3 st3 sv st cv3 ct3 cv ct I8.out (I1.out.later D7.out)).mono ?_
 rintro e w8 ⟨rfl, b8⟩
 have R8 := hid (R7.out.later b8)
 have L8 := hid (bl_trans L7.out b8)
 clear x0 x1 xf y0 y1 yf K3c K11 R7 b8 L7; obtain ⟨y0, y1, yf⟩ := (rowBox R8.out).two
 go_wp2_with fail; refine (HH.out w8 R8.out).mono ?_
 rintro e w9 ⟨rfl, b9⟩
 have L9 := hid (bl_trans L8.out b9)
 clear y0 y1 yf R8 b9 L8; go_wp2_with fail; go_ret; exact ⟨rfl, L9.out⟩
end
end Go.Proofs.YtncknfkinmjmdaaGreatDoor
