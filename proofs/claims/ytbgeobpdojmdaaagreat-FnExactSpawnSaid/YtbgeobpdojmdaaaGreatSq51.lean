import Derived.Test.YtbgeobpdojmdaaaGreatSq48
import Derived.Test.YtbgeobpdojmdaaaGreatSq50
namespace Go.Proofs.YtbgeobpdojmdaaaGreat
open Go.RowKit Go.Maps Go.WideMaps
set_option linter.unusedVariables false
set_option linter.unusedSimpArgs false
set_option maxRecDepth 100000
theorem z1 {α : Type} (l : List α) (i : Nat) (a : α) : l.toArray.setIfInBounds i a = (l.set i a).toArray := List.setIfInBounds_toArray l i a
theorem z2 {α : Type} (x a : α) (l : List α) : (x :: l).set 0 a = a :: l := rfl
theorem z3 {α : Type} (x a : α) (l : List α) (i : Nat) : (x :: l).set (i + 1) a = x :: l.set i a := rfl
theorem z4 (a : Act) (d : Tmp) (v : Value) : a.put (some d) v = ⟨a.tmps.setIfInBounds d v, a.defers⟩ := rfl
theorem z5 {α β : Type} (f : β → α → β) (b : β) : List.foldl f b [] = b := rfl
theorem z6 {α β : Type} (f : β → α → β) (b : β) (a : α) (l : List α) : List.foldl f b (a :: l) = List.foldl f (f b a) l := rfl
theorem z7 (a : Act) (v : Value) : a.put none v = a := rfl
theorem box2z (w : World) (c d : Array Value) (t u : TypeId) : ∃ X, X = (w.alloc (.cells c t)).alloc (.cells d u) ∧ Blk X (w.heap.size) c t ∧ Blk X (w.heap.size + 1) d u ∧ Below w.heap.size w X :=
 ⟨_, rfl, ((Blk.new w c t).alloc _), (Blk.new' _ d u (by simp)), bl_alloc (bl_alloc (Below.refl _ _) _) _⟩
theorem Tryz.infoEx : (Tryz.prog.info? 42).map (fun i => (i.zero, i.size, i.bytes)) = some (some (.agg #[.int .i64 0, .int .i64 0]), 2, 16) := by kernel_rfl
theorem one_W {w : World} {B : Nat} {R : List OR} {V : WV} {W : Wd} (h : ∀ r ∈ R, r.on w B) (hm : ∀ r ∈ rW V W, r ∈ R) : ∀ u ∈ [V.g, V.f, V.t, V.r], u.oneCell' = true := by
 intro u hu
 simp only [List.mem_cons, List.not_mem_nil, or_false] at hu
 rcases hu with rfl | rfl | rfl | rfl
 ·
  exact on_one (r := rI V.g W.gens) (h _ (hm _ (by simp [rW])))
 ·
  exact on_one (r := rI V.f W.free) (h _ (hm _ (by simp [rW])))
 ·
  exact on_one (r := rT V.t V.ts) (h _ (hm _ (by simp [rW])))
 exact on_one (r := rV V.r W.res) (h _ (hm _ (by simp [rW])))
theorem Rs.insE {X W W' : World} {B : Nat} (P M : List OR) (h : Rs X B W P) (hb : Below W.heap.size W W') (hr : Owns W' W.heap.size M) : Rs X B W' (P ++ M) := by
 have := Rs.insM P M [] (by simpa using h) hb hr
 simpa using this
theorem eqW_own (V U : WV) (W : Wd) (B C : Nat) (w : World) (h : Owns w B (rW V W)) (hF : OWf V W) (g : Owns w C (rW U W)) (gF : OWf U W) (hk : kW W) :
  Calls Tryz.prog 12 #[.agg #[V.g, V.f, V.t, V.r], .agg #[U.g, U.f, U.t, U.r]] w fun e w' => e = .returned (.bool true) ∧ Below w.heap.size w w' := by
 obtain ⟨a1, c1, a2, c2, a3, c3, a4, c4, e1, e2, e3, e4, hI⟩ := (hF.ow h).inW
 obtain ⟨b1, d1, b2, d2, b3, d3, b4, d4, f1, f2, f3, f4, gI⟩ := (gF.ow g).inW
 rw [e1, e2, e3, e4, f1, f2, f3, f4]
 exact eqWorld_gen _ _ _ _ _ _ _ _ _ _ _ _ _ _ _ _ W _ _ w hI gI hk
abbrev D3p (w : World) (a b d : Nat) (A B C : List (ByteArray × Int)) : Prop := Decls w (some ⟨a, 0, none⟩) A ∧ Decls w (some ⟨b, 0, none⟩) B ∧ Decls w (some ⟨d, 0, none⟩) C
theorem D3p.on {w w' : World} {a b d : Nat} {A B C : List (ByteArray × Int)} (h : D3p w a b d A B C) (hb : Below w.heap.size w w') : D3p w' a b d A B C := ⟨h.1.later hb, h.2.1.later hb, h.2.2.later hb⟩
abbrev E4p (w : World) (m n o p : Nat) (W : Wd) : Prop := InW w 0 (some ⟨m, 0, none⟩) (some ⟨n, 0, none⟩) (some ⟨o, 0, none⟩) (some ⟨p, 0, none⟩) W
abbrev C5p (w : World) (m : Nat) (L : List C5) : Prop := Els 5 cCell w m (some ⟨m, 0, none⟩) L
theorem one_E (a b : Int) : (#[.int .i64 a, .int .i64 b] : Array Value).all (·.oneCell') = true := by
 rw [Array.all_eq_true_iff_forall_mem]
 intro u hu
 have : u = .int .i64 a ∨ u = .int .i64 b := by simpa using hu
 rcases this with rfl | rfl <;> rfl
theorem boxes_own {w w' : World} {V : WV} {W : Wd} (e : E2) (h : Owns w' w.heap.size (rW V W)) (hb : Below w.heap.size w w') :
  Rs w w.heap.size ((((w'.alloc (.cells #[.slice none 0 0, .slice none 0 0, .slice none 0 0, .slice none 0 0] 40)).alloc (.cells #[.int .i64 0, .int .i64 0] 42)).setRow w'.heap.size #[V.g, V.f, V.t, V.r]).setRow (w'.heap.size + 1) #[.int .i64 e.1, .int .i64 e.2]) (rB w'.heap.size 40 [V.g, V.f, V.t, V.r] :: rB (w'.heap.size + 1) 42 [.int .i64 e.1, .int .i64 e.2] :: rW V W) ∧ Blk ((w'.alloc (.cells #[.slice none 0 0, .slice none 0 0, .slice none 0 0, .slice none 0 0] 40)).alloc (.cells #[.int .i64 0, .int .i64 0] 42)) w'.heap.size #[.slice none 0 0, .slice none 0 0, .slice none 0 0, .slice none 0 0] 40 ∧ Blk (((w'.alloc (.cells #[.slice none 0 0, .slice none 0 0, .slice none 0 0, .slice none 0 0] 40)).alloc (.cells #[.int .i64 0, .int .i64 0] 42)).setRow w'.heap.size #[V.g, V.f, V.t, V.r]) (w'.heap.size + 1) #[.int .i64 0, .int .i64 0] 42 ∧ (#[V.g, V.f, V.t, V.r] : Array Value).all (·.oneCell') = true := by
 have r0 : Rs w w.heap.size w' (rW V W) := ⟨hb, h, hb.size⟩
 have r1 := Rs.ins [] (rW V W) (r := rB w'.heap.size 40 [.slice none 0 0, .slice none 0 0, .slice none 0 0, .slice none 0 0]) r0 (bl_alloc (Below.refl _ _) (.cells #[.slice none 0 0, .slice none 0 0, .slice none 0 0, .slice none 0 0] 40)) (blk_rB (Blk.new w' _ _) (Nat.le_refl _))
 have r2 := Rs.ins [rB w'.heap.size 40 [.slice none 0 0, .slice none 0 0, .slice none 0 0, .slice none 0 0]] (rW V W) (r := rB (w'.heap.size + 1) 42 [.int .i64 0, .int .i64 0]) r1 (bl_alloc (Below.refl _ _) (.cells #[.int .i64 0, .int .i64 0] 42)) (blk_rB (Blk.new' _ _ _ (by simp)) (by simp))
 have r3 := Rs.putB [] (rB (w'.heap.size + 1) 42 [.int .i64 0, .int .i64 0] :: rW V W) (ds := [V.g, V.f, V.t, V.r]) r2
 have r4 := Rs.putB [rB w'.heap.size 40 [V.g, V.f, V.t, V.r]] (rW V W) (ds := [.int .i64 e.1, .int .i64 e.2]) r3
 refine ⟨r4, r2.box [] (rB (w'.heap.size + 1) 42 [.int .i64 0, .int .i64 0] :: rW V W), r3.box [rB w'.heap.size 40 [V.g, V.f, V.t, V.r]] (rW V W), ?_⟩
 have := one_W (V := V) (W := W) h.on (fun r hr => hr)
 rw [Array.all_eq_true_iff_forall_mem]
 intro u hu
 exact this u (by simpa using hu)
set_option maxHeartbeats 32000000 in
theorem exactSpawn_any (s1 s2 s3 : Option Addr) (c1 c2 c3 : Nat) (A B C : List (ByteArray × Int)) (i1 i2 i3 i4 : Option Addr) (j1 j2 j3 j4 : Nat) (W : Wd) (sc : Option Addr) (cc : Nat) (L : List C5) (w : World) (gA : Dc w s1 A) (gB : Dc w s2 B) (gC : Dc w s3 C) (hW : InW w 0 i1 i2 i3 i4 W) (hm : mW W) (bR : ∀ t ∈ W.tabs, ∀ x ∈ t.rows, bE x) (hc : Els 5 cCell w 0 sc L) (hll : L.length ≤ 9223372036854775807) :
  Calls Tryz.prog 3 #[.agg #[.slice s1 A.length c1, .slice s2 B.length c2, .slice s3 C.length c3], .agg #[.slice i1 W.gens.length j1, .slice i2 W.free.length j2, .slice i3 W.tabs.length j3, .slice i4 W.res.length j4], .slice sc L.length cc] w fun r w' => r = .returned (.bool true) ∧ Below w.heap.size w w' := by
 have hal := alloc_old
 have haf := alloc_oldf
 obtain ⟨hA, nA, mA⟩ := gA
 obtain ⟨hB, nB, mB⟩ := gB
 obtain ⟨hC, nC, mC⟩ := gC
 have NMH := Hid.mk' (nms3 nA nB nC)
 obtain ⟨iW, hiW, hzW, hsW, hbW⟩ := info_parts Tryz.infoWd
 obtain ⟨iE, hiE, hzE, hsE, hbE⟩ := info_parts Tryz.infoEx
 obtain ⟨X0, hX0, k0, k1, L0⟩ := box2z w #[.slice s1 A.length c1, .slice s2 B.length c2, .slice s3 C.length c3] #[.slice i1 W.gens.length j1, .slice i2 W.free.length j2, .slice i3 W.tabs.length j3, .slice i4 W.res.length j4] 24 31
 have HW := Hid.mk' hW
 have BR := Hid.mk' bR
 have HC := Hid.mk' hc
 have HD := Hid.mk' (And.intro hA (And.intro hB hC))
 have HLL := Hid.mk' hll
 clear hW bR hc hll; go_enter Tryz.func3, Tryz.ntmps3
 go_wp2_with fail; rw [← hX0]
 clear hX0; refine (szReg_top s1 s2 s3 c1 c2 c3 A B C _ (hA.later L0) (hB.later L0) (hC.later L0) nA nB nC mA mB mC).mono ?_
 rintro r w1 ⟨⟨r, rfl, hr⟩, hb1⟩
 have K0 := Hid.mk' (k0.later hb1)
 have K1 := Hid.mk' (k1.later hb1)
 have LX : Hid (Below w.heap.size w w1) := bl_trans L0 hb1
 clear k0 k1 L0 hb1 nA nB nC mA mB mC hA hB hC; obtain ⟨y0, y1, y2, y3, y4⟩ := K1.out.four'
 rcases hr with rfl | ⟨r0, r1, lA, lB, lC⟩
 ·
  go_wp2_with fail; go_ret; exact ⟨rfl, LX.out⟩
 have t1 : decide (r < 0) = false := by simp; omega
 go_wp2_with fail; refine (szWorld_gen i1 i2 i3 i4 j1 j2 j3 j4 W 0 r _ (HW.out.later LX.out) hm r0 r1).mono ?_
 rintro r w2 ⟨⟨q, rfl, hq⟩, hb2⟩
 have LX : Hid (Below w.heap.size w w2) := bl_trans LX.out hb2
 have K0 : Hid (Blk w2 (w.heap.size) #[.slice s1 A.length c1, .slice s2 B.length c2, .slice s3 C.length c3] 24) := K0.out.later hb2
 have K1 : Hid (Blk w2 (w.heap.size + 1) #[.slice i1 W.gens.length j1, .slice i2 W.free.length j2, .slice i3 W.tabs.length j3, .slice i4 W.res.length j4] 31) := K1.out.later hb2
 clear y0 y1 y2 y3 y4 hb2; rcases hq with rfl | ⟨q0', q1', hk⟩
 ·
  go_wp2_with fail; go_ret; exact ⟨rfl, LX.out⟩
 have t2 : decide (q < 0) = false := by simp; omega
 go_wp2_with fail; refine (szCellS_gen sc L.length cc q _ q0' (by omega) HLL.out).mono ?_
 rintro r w2' ⟨⟨u, rfl, hu⟩, hw2⟩
 obtain rfl : w2 = w2' := hw2.symm
 rcases hu with rfl | ⟨u0, u1, lL⟩
 ·
  go_wp2_with fail; go_ret; exact ⟨rfl, LX.out⟩
 have t3 : decide (u < 0) = false := by simp; omega
 have HK := Hid.mk' hk
 have bX : w.heap.size ≤ w2.heap.size := LX.out.size
 have q0 : w.heap.size < w2.heap.size := K0.out.lt
 have q1 : w.heap.size + 1 < w2.heap.size := K1.out.lt
 have hR := Hid.mk' (Rs.nil w2)
 clear hm r1 q1' hk u1; go_wp2_with fail; go_cut [8, 9, 10] (fun p0 p1 p2 wx => ∃ (kz ke : Nat) (V0 : WV) (W0 : Wd) (e0 : E2) (c0 : Int), p0 = .pointer (some ⟨kz, 0, none⟩) ∧ p1 = .pointer (some ⟨ke, 0, none⟩) ∧ p2 = .int .i64 c0 ∧ OWf V0 W0 ∧ SpawnR A B C W L W0 e0 c0 ∧ Rs w2 w2.heap.size wx (rB kz 40 [V0.g, V0.f, V0.t, V0.r] :: rB ke 42 [.int .i64 e0.1, .int .i64 e0.2] :: rW V0 W0))
 case first =>
  refine wp_region_held_drew (S := (fun w' => Blk w' (w.heap.size) #[.slice s1 A.length c1, .slice s2 B.length c2, .slice s3 C.length c3] 24 ∧ Blk w' (w.heap.size + 1) #[.slice i1 W.gens.length j1, .slice i2 W.free.length j2, .slice i3 W.tabs.length j3, .slice i4 W.res.length j4] 31)) (by kernel_rfl) ?_ (fun hHeld => ?_)
  ·
   exact (k2 hR K0 K1 q0 q1 :)
  have hR := Hid.mk' hR.out.drew
  refine wpq (v := ?_) 0 39 rfl rfl ?_ ?_
  rotate_left 1
  ·
   intro w hSw; (try dsimp only at hSw); obtain ⟨h0, h1⟩ := hSw; obtain ⟨x0, x1, x2, x3⟩ := h0.three'; go_simp <;> with_reducible rfl
  simp only [z1, z2, z3, z4, z5, z6, z7]; refine wpq (v := ?_) 2 41 rfl rfl ?_ ?_
  rotate_left 1
  ·
   intro w hSw; (try dsimp only at hSw); obtain ⟨h0, h1⟩ := hSw; obtain ⟨x0, x1, x2, x3, x4⟩ := h1.four'; go_simp <;> with_reducible rfl
  simp only [z1, z2, z3, z4, z5, z6, z7]; refine wpr 4 43 ?_; simp only [z1, z2, z3, z4, z5, z6, z7]; refine dag_start fun Gd a0 hG ha => ?_
  have st0 : ∀ (a3 b3 d3 m4 n4 o4 p4 m5 : Nat) (V0 : WV) (W0 : Wd) (e0 : E2) (c0 : Int) (kz ke : Nat) (g0 : World), Hid (OWf V0 W0) → Hid (SpawnR A B C W L W0 e0 c0) → Hid (Rs w2 w2.heap.size g0 ([rB kz 40 [V0.g, V0.f, V0.t, V0.r], rB ke 42 [.int .i64 e0.1, .int .i64 e0.2]] ++ (rW V0 W0))) → (fun w' => Blk w' (w.heap.size) #[.slice s1 A.length c1, .slice s2 B.length c2, .slice s3 C.length c3] 24 ∧ Blk w' (w.heap.size + 1) #[.slice i1 W.gens.length j1, .slice i2 W.free.length j2, .slice i3 W.tabs.length j3, .slice i4 W.res.length j4] 31) g0 → Gd 0 #[true, true, true, true, true, true, true, true, true, true, true, true, true, true, true, true] (((((((((((a0.put (some 40) (.agg #[.slice (some ⟨a3, 0, none⟩) A.length A.length, .slice (some ⟨b3, 0, none⟩) B.length B.length, .slice (some ⟨d3, 0, none⟩) C.length C.length])).put (some 42) (.agg #[.slice (some ⟨m4, 0, none⟩) W.gens.length W.gens.length, .slice (some ⟨n4, 0, none⟩) W.free.length W.free.length, .slice (some ⟨o4, 0, none⟩) W.tabs.length W.tabs.length, .slice (some ⟨p4, 0, none⟩) W.res.length W.res.length])).put (some 44) (.slice (some ⟨m5, 0, none⟩) L.length L.length)).put (some 45) (.tuple #[.agg #[V0.g, V0.f, V0.t, V0.r], .agg #[.int .i64 e0.1, .int .i64 e0.2], .int .i64 c0])).put (some 38) (.tuple #[.agg #[V0.g, V0.f, V0.t, V0.r], .agg #[.int .i64 e0.1, .int .i64 e0.2], .int .i64 c0])).put (some 46) (.agg #[V0.g, V0.f, V0.t, V0.r])).put (some 47) (.agg #[.int .i64 e0.1, .int .i64 e0.2])).put (some 48) (.int .i64 c0)).put (some 8) (.pointer (some ⟨kz, 0, none⟩))).put (some 9) (.pointer (some ⟨ke, 0, none⟩))).put (some 10) (.int .i64 c0)) g0 := by
   intro a3 b3 d3 m4 n4 o4 p4 m5 V0 W0 e0 c0 kz ke g0 HF0 HSR hR hHeld
   rw [hG, ha]
   simp only [z1, z2, z3, z4, z5, z6, z7]; refine wpAnyH_done (by kernel_rfl) ?_ _
   clear hHeld; go_wp2_with fail; go_meet; exact ⟨kz, ke, V0, W0, e0, c0, rfl, rfl, rfl, HF0.out, HSR.out, hR.out⟩
  have st1 : ∀ (a3 b3 d3 m4 n4 o4 p4 m5 : Nat) (V0 : WV) (W0 : Wd) (e0 : E2) (c0 : Int) (kz ke : Nat) (g0 : World), Hid (OWf V0 W0) → Hid (SpawnR A B C W L W0 e0 c0) → Hid (Rs w2 w2.heap.size g0 ([rB kz 40 [V0.g, V0.f, V0.t, V0.r], rB ke 42 [.int .i64 0, .int .i64 0]] ++ (rW V0 W0))) → (fun w' => Blk w' (w.heap.size) #[.slice s1 A.length c1, .slice s2 B.length c2, .slice s3 C.length c3] 24 ∧ Blk w' (w.heap.size + 1) #[.slice i1 W.gens.length j1, .slice i2 W.free.length j2, .slice i3 W.tabs.length j3, .slice i4 W.res.length j4] 31) g0 → Gd 2 #[true, true, true, true, true, true, true, true, true, true, true, true, true, true, false, false] ((((((((((a0.put (some 40) (.agg #[.slice (some ⟨a3, 0, none⟩) A.length A.length, .slice (some ⟨b3, 0, none⟩) B.length B.length, .slice (some ⟨d3, 0, none⟩) C.length C.length])).put (some 42) (.agg #[.slice (some ⟨m4, 0, none⟩) W.gens.length W.gens.length, .slice (some ⟨n4, 0, none⟩) W.free.length W.free.length, .slice (some ⟨o4, 0, none⟩) W.tabs.length W.tabs.length, .slice (some ⟨p4, 0, none⟩) W.res.length W.res.length])).put (some 44) (.slice (some ⟨m5, 0, none⟩) L.length L.length)).put (some 45) (.tuple #[.agg #[V0.g, V0.f, V0.t, V0.r], .agg #[.int .i64 e0.1, .int .i64 e0.2], .int .i64 c0])).put (some 38) (.tuple #[.agg #[V0.g, V0.f, V0.t, V0.r], .agg #[.int .i64 e0.1, .int .i64 e0.2], .int .i64 c0])).put (some 46) (.agg #[V0.g, V0.f, V0.t, V0.r])).put (some 47) (.agg #[.int .i64 e0.1, .int .i64 e0.2])).put (some 48) (.int .i64 c0)).put (some 8) (.pointer (some ⟨kz, 0, none⟩))).put (some 9) (.pointer (some ⟨ke, 0, none⟩))) g0 := by
   intro a3 b3 d3 m4 n4 o4 p4 m5 V0 W0 e0 c0 kz ke g0 HF0 HSR hR hHeld
   rw [hG, ha]
   simp only [z1, z2, z3, z4, z5, z6, z7]; refine wpy 14 fun K hK => ?_
   refine step_put [rB kz 40 [V0.g, V0.f, V0.t, V0.r]] (rW V0 W0) hR.out rfl (d0 := none) rfl (.tmp 9) (.tmp 47) rfl [.int .i64 e0.1, .int .i64 e0.2] rfl rfl (by rw [hiE]; simp [hsE]) rfl (by intro u hu; simp only [List.mem_cons, List.not_mem_nil, or_false] at hu; rcases hu with rfl | rfl <;> rfl) ?_
   intro g1 hR'
   have hR : Hid (Rs w2 w2.heap.size g1 ([rB kz 40 [V0.g, V0.f, V0.t, V0.r], rB ke 42 [.int .i64 e0.1, .int .i64 e0.2]] ++ (rW V0 W0))) := hR'
   clear hR'; refine hK.out _ _ ?_ (fun hHeld => ?_)
   ·
    exact (k2 hR K0 K1 q0 q1 :)
   clear hK K; try simp only [z1, z2, z3, z4, z5, z6, z7]
   refine wpr 15 10 ?_; simp only [z1, z2, z3, z4, z5, z6, z7]; exact dag_to hG (st0 a3 b3 d3 m4 n4 o4 p4 m5 V0 W0 e0 c0 kz ke _ HF0 HSR hR hHeld) rfl (by kernel_rfl) (by rw [ha] <;> simp only [z1, z2, z3, z4, z5, z6, z7])
  have st2 : ∀ (a3 b3 d3 m4 n4 o4 p4 m5 : Nat) (V0 : WV) (W0 : Wd) (e0 : E2) (c0 : Int) (kz ke : Nat) (g0 : World), Hid (OWf V0 W0) → Hid (SpawnR A B C W L W0 e0 c0) → Hid (Rs w2 w2.heap.size g0 ([rB kz 40 [.slice none 0 0, .slice none 0 0, .slice none 0 0, .slice none 0 0], rB ke 42 [.int .i64 0, .int .i64 0]] ++ (rW V0 W0))) → (fun w' => Blk w' (w.heap.size) #[.slice s1 A.length c1, .slice s2 B.length c2, .slice s3 C.length c3] 24 ∧ Blk w' (w.heap.size + 1) #[.slice i1 W.gens.length j1, .slice i2 W.free.length j2, .slice i3 W.tabs.length j3, .slice i4 W.res.length j4] 31) g0 → Gd 3 #[true, true, true, true, true, true, true, true, true, true, true, true, true, false, false, false] ((((((((((a0.put (some 40) (.agg #[.slice (some ⟨a3, 0, none⟩) A.length A.length, .slice (some ⟨b3, 0, none⟩) B.length B.length, .slice (some ⟨d3, 0, none⟩) C.length C.length])).put (some 42) (.agg #[.slice (some ⟨m4, 0, none⟩) W.gens.length W.gens.length, .slice (some ⟨n4, 0, none⟩) W.free.length W.free.length, .slice (some ⟨o4, 0, none⟩) W.tabs.length W.tabs.length, .slice (some ⟨p4, 0, none⟩) W.res.length W.res.length])).put (some 44) (.slice (some ⟨m5, 0, none⟩) L.length L.length)).put (some 45) (.tuple #[.agg #[V0.g, V0.f, V0.t, V0.r], .agg #[.int .i64 e0.1, .int .i64 e0.2], .int .i64 c0])).put (some 38) (.tuple #[.agg #[V0.g, V0.f, V0.t, V0.r], .agg #[.int .i64 e0.1, .int .i64 e0.2], .int .i64 c0])).put (some 46) (.agg #[V0.g, V0.f, V0.t, V0.r])).put (some 47) (.agg #[.int .i64 e0.1, .int .i64 e0.2])).put (some 48) (.int .i64 c0)).put (some 8) (.pointer (some ⟨kz, 0, none⟩))).put (some 9) (.pointer (some ⟨ke, 0, none⟩))) g0 := by
   intro a3 b3 d3 m4 n4 o4 p4 m5 V0 W0 e0 c0 kz ke g0 HF0 HSR hR hHeld
   rw [hG, ha]
   simp only [z1, z2, z3, z4, z5, z6, z7]; refine wpy 13 fun K hK => ?_
   refine step_put [] ([rB ke 42 [.int .i64 0, .int .i64 0]] ++ (rW V0 W0)) hR.out rfl (d0 := none) rfl (.tmp 8) (.tmp 46) rfl [V0.g, V0.f, V0.t, V0.r] rfl rfl (by rw [hiW]; simp [hsW]) rfl (one_W (V := V0) (W := W0) hR.out.o.on (fun r hr => List.mem_append_right _ hr)) ?_
   intro g2 hR'
   have hR : Hid (Rs w2 w2.heap.size g2 ([rB kz 40 [V0.g, V0.f, V0.t, V0.r], rB ke 42 [.int .i64 0, .int .i64 0]] ++ (rW V0 W0))) := hR'
   clear hR'; refine hK.out _ _ ?_ (fun hHeld => ?_)
   ·
    exact (k2 hR K0 K1 q0 q1 :)
   clear hK K; exact dag_to hG (st1 a3 b3 d3 m4 n4 o4 p4 m5 V0 W0 e0 c0 kz ke _ HF0 HSR hR hHeld) rfl (by kernel_rfl) (by rw [ha] <;> simp only [z1, z2, z3, z4, z5, z6, z7])
  have st3 : ∀ (a3 b3 d3 m4 n4 o4 p4 m5 : Nat) (V0 : WV) (W0 : Wd) (e0 : E2) (c0 : Int) (kz : Nat) (g0 : World), Hid (OWf V0 W0) → Hid (SpawnR A B C W L W0 e0 c0) → Hid (Rs w2 w2.heap.size g0 ([rB kz 40 [.slice none 0 0, .slice none 0 0, .slice none 0 0, .slice none 0 0]] ++ (rW V0 W0))) → (fun w' => Blk w' (w.heap.size) #[.slice s1 A.length c1, .slice s2 B.length c2, .slice s3 C.length c3] 24 ∧ Blk w' (w.heap.size + 1) #[.slice i1 W.gens.length j1, .slice i2 W.free.length j2, .slice i3 W.tabs.length j3, .slice i4 W.res.length j4] 31) g0 → Gd 4 #[true, true, true, true, true, true, true, true, true, true, true, true, false, false, false, false] (((((((((a0.put (some 40) (.agg #[.slice (some ⟨a3, 0, none⟩) A.length A.length, .slice (some ⟨b3, 0, none⟩) B.length B.length, .slice (some ⟨d3, 0, none⟩) C.length C.length])).put (some 42) (.agg #[.slice (some ⟨m4, 0, none⟩) W.gens.length W.gens.length, .slice (some ⟨n4, 0, none⟩) W.free.length W.free.length, .slice (some ⟨o4, 0, none⟩) W.tabs.length W.tabs.length, .slice (some ⟨p4, 0, none⟩) W.res.length W.res.length])).put (some 44) (.slice (some ⟨m5, 0, none⟩) L.length L.length)).put (some 45) (.tuple #[.agg #[V0.g, V0.f, V0.t, V0.r], .agg #[.int .i64 e0.1, .int .i64 e0.2], .int .i64 c0])).put (some 38) (.tuple #[.agg #[V0.g, V0.f, V0.t, V0.r], .agg #[.int .i64 e0.1, .int .i64 e0.2], .int .i64 c0])).put (some 46) (.agg #[V0.g, V0.f, V0.t, V0.r])).put (some 47) (.agg #[.int .i64 e0.1, .int .i64 e0.2])).put (some 48) (.int .i64 c0)).put (some 8) (.pointer (some ⟨kz, 0, none⟩))) g0 := by
   intro a3 b3 d3 m4 n4 o4 p4 m5 V0 W0 e0 c0 kz g0 HF0 HSR hR hHeld
   rw [hG, ha]
   simp only [z1, z2, z3, z4, z5, z6, z7]; refine wpy 12 fun K hK => ?_
   refine step_boxB [rB kz 40 [.slice none 0 0, .slice none 0 0, .slice none 0 0, .slice none 0 0]] (rW V0 W0) hR.out rfl (d0 := (some 9)) rfl 42 hiE hzE rfl ?_
   intro ke g3 hb hR'
   have hR : Hid (Rs w2 w2.heap.size g3 ([rB kz 40 [.slice none 0 0, .slice none 0 0, .slice none 0 0, .slice none 0 0], rB ke 42 [.int .i64 0, .int .i64 0]] ++ (rW V0 W0))) := hR'
   clear hR' hb; refine hK.out _ _ ?_ (fun hHeld => ?_)
   ·
    exact (k2 hR K0 K1 q0 q1 :)
   clear hK K; exact dag_to hG (st2 a3 b3 d3 m4 n4 o4 p4 m5 V0 W0 e0 c0 kz ke _ HF0 HSR hR hHeld) rfl (by kernel_rfl) (by rw [ha] <;> simp only [z1, z2, z3, z4, z5, z6, z7])
  have st4 : ∀ (a3 b3 d3 m4 n4 o4 p4 m5 : Nat) (V0 : WV) (W0 : Wd) (e0 : E2) (c0 : Int) (ke : Nat) (g0 : World), Hid (OWf V0 W0) → Hid (SpawnR A B C W L W0 e0 c0) → Hid (Rs w2 w2.heap.size g0 ([rB ke 42 [.int .i64 0, .int .i64 0]] ++ (rW V0 W0))) → (fun w' => Blk w' (w.heap.size) #[.slice s1 A.length c1, .slice s2 B.length c2, .slice s3 C.length c3] 24 ∧ Blk w' (w.heap.size + 1) #[.slice i1 W.gens.length j1, .slice i2 W.free.length j2, .slice i3 W.tabs.length j3, .slice i4 W.res.length j4] 31) g0 → Gd 4 #[true, true, true, true, true, true, true, true, true, true, true, false, true, false, false, false] (((((((((a0.put (some 40) (.agg #[.slice (some ⟨a3, 0, none⟩) A.length A.length, .slice (some ⟨b3, 0, none⟩) B.length B.length, .slice (some ⟨d3, 0, none⟩) C.length C.length])).put (some 42) (.agg #[.slice (some ⟨m4, 0, none⟩) W.gens.length W.gens.length, .slice (some ⟨n4, 0, none⟩) W.free.length W.free.length, .slice (some ⟨o4, 0, none⟩) W.tabs.length W.tabs.length, .slice (some ⟨p4, 0, none⟩) W.res.length W.res.length])).put (some 44) (.slice (some ⟨m5, 0, none⟩) L.length L.length)).put (some 45) (.tuple #[.agg #[V0.g, V0.f, V0.t, V0.r], .agg #[.int .i64 e0.1, .int .i64 e0.2], .int .i64 c0])).put (some 38) (.tuple #[.agg #[V0.g, V0.f, V0.t, V0.r], .agg #[.int .i64 e0.1, .int .i64 e0.2], .int .i64 c0])).put (some 46) (.agg #[V0.g, V0.f, V0.t, V0.r])).put (some 47) (.agg #[.int .i64 e0.1, .int .i64 e0.2])).put (some 48) (.int .i64 c0)).put (some 9) (.pointer (some ⟨ke, 0, none⟩))) g0 := by
   intro a3 b3 d3 m4 n4 o4 p4 m5 V0 W0 e0 c0 ke g0 HF0 HSR hR hHeld
   rw [hG, ha]
   simp only [z1, z2, z3, z4, z5, z6, z7]; refine wpy 11 fun K hK => ?_
   refine step_boxB [] ([rB ke 42 [.int .i64 0, .int .i64 0]] ++ (rW V0 W0)) hR.out rfl (d0 := (some 8)) rfl 40 hiW hzW rfl ?_
   intro kz g4 hb hR'
   have hR : Hid (Rs w2 w2.heap.size g4 ([rB kz 40 [.slice none 0 0, .slice none 0 0, .slice none 0 0, .slice none 0 0], rB ke 42 [.int .i64 0, .int .i64 0]] ++ (rW V0 W0))) := hR'
   clear hR' hb; refine hK.out _ _ ?_ (fun hHeld => ?_)
   ·
    exact (k2 hR K0 K1 q0 q1 :)
   clear hK K; exact dag_to hG (st2 a3 b3 d3 m4 n4 o4 p4 m5 V0 W0 e0 c0 kz ke _ HF0 HSR hR hHeld) rfl (by kernel_rfl) (by rw [ha] <;> simp only [z1, z2, z3, z4, z5, z6, z7])
  have st5 : ∀ (a3 b3 d3 m4 n4 o4 p4 m5 : Nat) (V0 : WV) (W0 : Wd) (e0 : E2) (c0 : Int) (g0 : World), Hid (OWf V0 W0) → Hid (SpawnR A B C W L W0 e0 c0) → Hid (Rs w2 w2.heap.size g0 (rW V0 W0)) → (fun w' => Blk w' (w.heap.size) #[.slice s1 A.length c1, .slice s2 B.length c2, .slice s3 C.length c3] 24 ∧ Blk w' (w.heap.size + 1) #[.slice i1 W.gens.length j1, .slice i2 W.free.length j2, .slice i3 W.tabs.length j3, .slice i4 W.res.length j4] 31) g0 → Gd 5 #[true, true, true, true, true, true, true, true, true, true, true, false, false, false, false, false] ((((((((a0.put (some 40) (.agg #[.slice (some ⟨a3, 0, none⟩) A.length A.length, .slice (some ⟨b3, 0, none⟩) B.length B.length, .slice (some ⟨d3, 0, none⟩) C.length C.length])).put (some 42) (.agg #[.slice (some ⟨m4, 0, none⟩) W.gens.length W.gens.length, .slice (some ⟨n4, 0, none⟩) W.free.length W.free.length, .slice (some ⟨o4, 0, none⟩) W.tabs.length W.tabs.length, .slice (some ⟨p4, 0, none⟩) W.res.length W.res.length])).put (some 44) (.slice (some ⟨m5, 0, none⟩) L.length L.length)).put (some 45) (.tuple #[.agg #[V0.g, V0.f, V0.t, V0.r], .agg #[.int .i64 e0.1, .int .i64 e0.2], .int .i64 c0])).put (some 38) (.tuple #[.agg #[V0.g, V0.f, V0.t, V0.r], .agg #[.int .i64 e0.1, .int .i64 e0.2], .int .i64 c0])).put (some 46) (.agg #[V0.g, V0.f, V0.t, V0.r])).put (some 47) (.agg #[.int .i64 e0.1, .int .i64 e0.2])).put (some 48) (.int .i64 c0)) g0 := by
   intro a3 b3 d3 m4 n4 o4 p4 m5 V0 W0 e0 c0 g0 HF0 HSR hR hHeld
   rw [hG, ha]
   simp only [z1, z2, z3, z4, z5, z6, z7]; refine wpAnyH_ready (rs := [11, 12]) (by kernel_rfl) (by simp) ?_
   refine AllReadyH.cons rfl (fun K hK => ?_) ?_
   ·
    skip
    refine step_boxB [] (rW V0 W0) hR.out rfl (d0 := (some 8)) rfl 40 hiW hzW rfl ?_
    intro kz g5 hb hR'
    have hR : Hid (Rs w2 w2.heap.size g5 ([rB kz 40 [.slice none 0 0, .slice none 0 0, .slice none 0 0, .slice none 0 0]] ++ (rW V0 W0))) := hR'
    clear hR' hb; refine hK.out _ _ ?_ (fun hHeld => ?_)
    ·
     exact (k2 hR K0 K1 q0 q1 :)
    clear hK K; exact dag_to hG (st3 a3 b3 d3 m4 n4 o4 p4 m5 V0 W0 e0 c0 kz _ HF0 HSR hR hHeld) rfl (by kernel_rfl) (by rw [ha] <;> simp only [z1, z2, z3, z4, z5, z6, z7])
   refine AllReadyH.cons rfl (fun K hK => ?_) AllReadyH.nil
   refine step_boxB [] (rW V0 W0) hR.out rfl (d0 := (some 9)) rfl 42 hiE hzE rfl ?_
   intro ke g6 hb hR'
   have hR : Hid (Rs w2 w2.heap.size g6 ([rB ke 42 [.int .i64 0, .int .i64 0]] ++ (rW V0 W0))) := hR'
   clear hR' hb; refine hK.out _ _ ?_ (fun hHeld => ?_)
   ·
    exact (k2 hR K0 K1 q0 q1 :)
   clear hK K; exact dag_to hG (st4 a3 b3 d3 m4 n4 o4 p4 m5 V0 W0 e0 c0 ke _ HF0 HSR hR hHeld) rfl (by kernel_rfl) (by rw [ha] <;> simp only [z1, z2, z3, z4, z5, z6, z7])
  have st6 : ∀ (a3 b3 d3 m4 n4 o4 p4 m5 kz ke : Nat) (g0 : World), Hid (D3p g0 a3 b3 d3 A B C) → Hid (E4p g0 m4 n4 o4 p4 W) → Hid (C5p g0 m5 L) → Hid (Rs w2 w2.heap.size g0 [rB kz 40 [.slice none 0 0, .slice none 0 0, .slice none 0 0, .slice none 0 0], rB ke 42 [.int .i64 0, .int .i64 0]]) → (fun w' => Blk w' (w.heap.size) #[.slice s1 A.length c1, .slice s2 B.length c2, .slice s3 C.length c3] 24 ∧ Blk w' (w.heap.size + 1) #[.slice i1 W.gens.length j1, .slice i2 W.free.length j2, .slice i3 W.tabs.length j3, .slice i4 W.res.length j4] 31) g0 → Gd 8 #[true, true, true, true, true, true, false, false, false, false, false, true, true, false, false, false] (((((a0.put (some 40) (.agg #[.slice (some ⟨a3, 0, none⟩) A.length A.length, .slice (some ⟨b3, 0, none⟩) B.length B.length, .slice (some ⟨d3, 0, none⟩) C.length C.length])).put (some 42) (.agg #[.slice (some ⟨m4, 0, none⟩) W.gens.length W.gens.length, .slice (some ⟨n4, 0, none⟩) W.free.length W.free.length, .slice (some ⟨o4, 0, none⟩) W.tabs.length W.tabs.length, .slice (some ⟨p4, 0, none⟩) W.res.length W.res.length])).put (some 44) (.slice (some ⟨m5, 0, none⟩) L.length L.length)).put (some 8) (.pointer (some ⟨kz, 0, none⟩))).put (some 9) (.pointer (some ⟨ke, 0, none⟩))) g0 := by
   intro a3 b3 d3 m4 n4 o4 p4 m5 kz ke g0 D3 E4 C5x hR hHeld
   rw [hG, ha]
   simp only [z1, z2, z3, z4, z5, z6, z7]; refine wpy 6 fun K hK => ?_
   go_simp; refine (specSpawn_any a3 0 A.length b3 0 B.length d3 0 C.length A B C (some ⟨m4, 0, none⟩) (some ⟨n4, 0, none⟩) (some ⟨o4, 0, none⟩) (some ⟨p4, 0, none⟩) W.gens.length W.free.length W.tabs.length W.res.length W (some ⟨m5, 0, none⟩) L.length L m5 _ D3.out.1 D3.out.2.1 D3.out.2.2 E4.out HK.out C5x.out lL lA).mono ?_
   rintro z g7 ⟨V0, W0, e0, c0, rfl, hOW, hSR, hb⟩
   have hO := hOW.own
   have HF0 : Hid (OWf V0 W0) := hOW.f
   have HSR : Hid (SpawnR A B C W L W0 e0 c0) := hSR
   clear hOW hSR; have hR : Hid (Rs w2 w2.heap.size g7 ([rB kz 40 [.slice none 0 0, .slice none 0 0, .slice none 0 0, .slice none 0 0], rB ke 42 [.int .i64 0, .int .i64 0]] ++ (rW V0 W0))) := Hid.mk' (hR.out.insE [rB kz 40 [.slice none 0 0, .slice none 0 0, .slice none 0 0, .slice none 0 0], rB ke 42 [.int .i64 0, .int .i64 0]] (rW V0 W0) hb hO)
   clear hb hO; refine hK.out _ _ ?_ (fun hHeld => ?_)
   ·
    exact (k2 hR K0 K1 q0 q1 :)
   clear hK K; try simp only [z1, z2, z3, z4, z5, z6, z7]
   refine wpr 7 38 ?_; simp only [z1, z2, z3, z4, z5, z6, z7]; refine wpr 8 46 ?_; simp only [z1, z2, z3, z4, z5, z6, z7]; refine wpr 9 47 ?_; simp only [z1, z2, z3, z4, z5, z6, z7]; refine wpr 10 48 ?_; simp only [z1, z2, z3, z4, z5, z6, z7]; exact dag_to hG (st2 a3 b3 d3 m4 n4 o4 p4 m5 V0 W0 e0 c0 kz ke _ HF0 HSR hR hHeld) rfl (by kernel_rfl) (by rw [ha] <;> simp only [z1, z2, z3, z4, z5, z6, z7])
  have st7 : ∀ (a3 b3 d3 m4 n4 o4 p4 m5 kz : Nat) (g0 : World), Hid (D3p g0 a3 b3 d3 A B C) → Hid (E4p g0 m4 n4 o4 p4 W) → Hid (C5p g0 m5 L) → Hid (Rs w2 w2.heap.size g0 [rB kz 40 [.slice none 0 0, .slice none 0 0, .slice none 0 0, .slice none 0 0]]) → (fun w' => Blk w' (w.heap.size) #[.slice s1 A.length c1, .slice s2 B.length c2, .slice s3 C.length c3] 24 ∧ Blk w' (w.heap.size + 1) #[.slice i1 W.gens.length j1, .slice i2 W.free.length j2, .slice i3 W.tabs.length j3, .slice i4 W.res.length j4] 31) g0 → Gd 9 #[true, true, true, true, true, true, false, false, false, false, false, true, false, false, false, false] ((((a0.put (some 40) (.agg #[.slice (some ⟨a3, 0, none⟩) A.length A.length, .slice (some ⟨b3, 0, none⟩) B.length B.length, .slice (some ⟨d3, 0, none⟩) C.length C.length])).put (some 42) (.agg #[.slice (some ⟨m4, 0, none⟩) W.gens.length W.gens.length, .slice (some ⟨n4, 0, none⟩) W.free.length W.free.length, .slice (some ⟨o4, 0, none⟩) W.tabs.length W.tabs.length, .slice (some ⟨p4, 0, none⟩) W.res.length W.res.length])).put (some 44) (.slice (some ⟨m5, 0, none⟩) L.length L.length)).put (some 8) (.pointer (some ⟨kz, 0, none⟩))) g0 := by
   intro a3 b3 d3 m4 n4 o4 p4 m5 kz g0 D3 E4 C5x hR hHeld
   rw [hG, ha]
   simp only [z1, z2, z3, z4, z5, z6, z7]; refine wpAnyH_ready (rs := [6, 12]) (by kernel_rfl) (by simp) ?_
   refine AllReadyH.cons rfl (fun K hK => ?_) ?_
   ·
    skip
    go_simp; refine (specSpawn_any a3 0 A.length b3 0 B.length d3 0 C.length A B C (some ⟨m4, 0, none⟩) (some ⟨n4, 0, none⟩) (some ⟨o4, 0, none⟩) (some ⟨p4, 0, none⟩) W.gens.length W.free.length W.tabs.length W.res.length W (some ⟨m5, 0, none⟩) L.length L m5 _ D3.out.1 D3.out.2.1 D3.out.2.2 E4.out HK.out C5x.out lL lA).mono ?_
    rintro z g8 ⟨V0, W0, e0, c0, rfl, hOW, hSR, hb⟩
    have hO := hOW.own
    have HF0 : Hid (OWf V0 W0) := hOW.f
    have HSR : Hid (SpawnR A B C W L W0 e0 c0) := hSR
    clear hOW hSR; have hR : Hid (Rs w2 w2.heap.size g8 ([rB kz 40 [.slice none 0 0, .slice none 0 0, .slice none 0 0, .slice none 0 0]] ++ (rW V0 W0))) := Hid.mk' (hR.out.insE [rB kz 40 [.slice none 0 0, .slice none 0 0, .slice none 0 0, .slice none 0 0]] (rW V0 W0) hb hO)
    clear hb hO; refine hK.out _ _ ?_ (fun hHeld => ?_)
    ·
     exact (k2 hR K0 K1 q0 q1 :)
    clear hK K; try simp only [z1, z2, z3, z4, z5, z6, z7]
    refine wpr 7 38 ?_; simp only [z1, z2, z3, z4, z5, z6, z7]; refine wpr 8 46 ?_; simp only [z1, z2, z3, z4, z5, z6, z7]; refine wpr 9 47 ?_; simp only [z1, z2, z3, z4, z5, z6, z7]; refine wpr 10 48 ?_; simp only [z1, z2, z3, z4, z5, z6, z7]; exact dag_to hG (st3 a3 b3 d3 m4 n4 o4 p4 m5 V0 W0 e0 c0 kz _ HF0 HSR hR hHeld) rfl (by kernel_rfl) (by rw [ha] <;> simp only [z1, z2, z3, z4, z5, z6, z7])
   refine AllReadyH.cons rfl (fun K hK => ?_) AllReadyH.nil
   refine step_boxB [rB kz 40 [.slice none 0 0, .slice none 0 0, .slice none 0 0, .slice none 0 0]] [] hR.out rfl (d0 := (some 9)) rfl 42 hiE hzE rfl ?_
   intro ke g9 hb hR'
   have hR : Hid (Rs w2 w2.heap.size g9 [rB kz 40 [.slice none 0 0, .slice none 0 0, .slice none 0 0, .slice none 0 0], rB ke 42 [.int .i64 0, .int .i64 0]]) := hR'
   have D3 : Hid (D3p g9 a3 b3 d3 A B C) := Hid.mk' (D3.out.on hb)
   have E4 : Hid (E4p g9 m4 n4 o4 p4 W) := Hid.mk' (InW.later E4.out hb)
   have C5x : Hid (C5p g9 m5 L) := Hid.mk' (Els.later cCell_keeps C5x.out hb)
   clear hR' hb; refine hK.out _ _ ?_ (fun hHeld => ?_)
   ·
    exact (k2 hR K0 K1 q0 q1 :)
   clear hK K; exact dag_to hG (st6 a3 b3 d3 m4 n4 o4 p4 m5 kz ke _ D3 E4 C5x hR hHeld) rfl (by kernel_rfl) (by rw [ha] <;> simp only [z1, z2, z3, z4, z5, z6, z7])
  have st8 : ∀ (a3 b3 d3 m4 n4 o4 p4 m5 ke : Nat) (g0 : World), Hid (D3p g0 a3 b3 d3 A B C) → Hid (E4p g0 m4 n4 o4 p4 W) → Hid (C5p g0 m5 L) → Hid (Rs w2 w2.heap.size g0 [rB ke 42 [.int .i64 0, .int .i64 0]]) → (fun w' => Blk w' (w.heap.size) #[.slice s1 A.length c1, .slice s2 B.length c2, .slice s3 C.length c3] 24 ∧ Blk w' (w.heap.size + 1) #[.slice i1 W.gens.length j1, .slice i2 W.free.length j2, .slice i3 W.tabs.length j3, .slice i4 W.res.length j4] 31) g0 → Gd 9 #[true, true, true, true, true, true, false, false, false, false, false, false, true, false, false, false] ((((a0.put (some 40) (.agg #[.slice (some ⟨a3, 0, none⟩) A.length A.length, .slice (some ⟨b3, 0, none⟩) B.length B.length, .slice (some ⟨d3, 0, none⟩) C.length C.length])).put (some 42) (.agg #[.slice (some ⟨m4, 0, none⟩) W.gens.length W.gens.length, .slice (some ⟨n4, 0, none⟩) W.free.length W.free.length, .slice (some ⟨o4, 0, none⟩) W.tabs.length W.tabs.length, .slice (some ⟨p4, 0, none⟩) W.res.length W.res.length])).put (some 44) (.slice (some ⟨m5, 0, none⟩) L.length L.length)).put (some 9) (.pointer (some ⟨ke, 0, none⟩))) g0 := by
   intro a3 b3 d3 m4 n4 o4 p4 m5 ke g0 D3 E4 C5x hR hHeld
   rw [hG, ha]
   simp only [z1, z2, z3, z4, z5, z6, z7]; refine wpAnyH_ready (rs := [6, 11]) (by kernel_rfl) (by simp) ?_
   refine AllReadyH.cons rfl (fun K hK => ?_) ?_
   ·
    skip
    go_simp; refine (specSpawn_any a3 0 A.length b3 0 B.length d3 0 C.length A B C (some ⟨m4, 0, none⟩) (some ⟨n4, 0, none⟩) (some ⟨o4, 0, none⟩) (some ⟨p4, 0, none⟩) W.gens.length W.free.length W.tabs.length W.res.length W (some ⟨m5, 0, none⟩) L.length L m5 _ D3.out.1 D3.out.2.1 D3.out.2.2 E4.out HK.out C5x.out lL lA).mono ?_
    rintro z g10 ⟨V0, W0, e0, c0, rfl, hOW, hSR, hb⟩
    have hO := hOW.own
    have HF0 : Hid (OWf V0 W0) := hOW.f
    have HSR : Hid (SpawnR A B C W L W0 e0 c0) := hSR
    clear hOW hSR; have hR : Hid (Rs w2 w2.heap.size g10 ([rB ke 42 [.int .i64 0, .int .i64 0]] ++ (rW V0 W0))) := Hid.mk' (hR.out.insE [rB ke 42 [.int .i64 0, .int .i64 0]] (rW V0 W0) hb hO)
    clear hb hO; refine hK.out _ _ ?_ (fun hHeld => ?_)
    ·
     exact (k2 hR K0 K1 q0 q1 :)
    clear hK K; try simp only [z1, z2, z3, z4, z5, z6, z7]
    refine wpr 7 38 ?_; simp only [z1, z2, z3, z4, z5, z6, z7]; refine wpr 8 46 ?_; simp only [z1, z2, z3, z4, z5, z6, z7]; refine wpr 9 47 ?_; simp only [z1, z2, z3, z4, z5, z6, z7]; refine wpr 10 48 ?_; simp only [z1, z2, z3, z4, z5, z6, z7]; exact dag_to hG (st4 a3 b3 d3 m4 n4 o4 p4 m5 V0 W0 e0 c0 ke _ HF0 HSR hR hHeld) rfl (by kernel_rfl) (by rw [ha] <;> simp only [z1, z2, z3, z4, z5, z6, z7])
   refine AllReadyH.cons rfl (fun K hK => ?_) AllReadyH.nil
   refine step_boxB [] [rB ke 42 [.int .i64 0, .int .i64 0]] hR.out rfl (d0 := (some 8)) rfl 40 hiW hzW rfl ?_
   intro kz g11 hb hR'
   have hR : Hid (Rs w2 w2.heap.size g11 [rB kz 40 [.slice none 0 0, .slice none 0 0, .slice none 0 0, .slice none 0 0], rB ke 42 [.int .i64 0, .int .i64 0]]) := hR'
   have D3 : Hid (D3p g11 a3 b3 d3 A B C) := Hid.mk' (D3.out.on hb)
   have E4 : Hid (E4p g11 m4 n4 o4 p4 W) := Hid.mk' (InW.later E4.out hb)
   have C5x : Hid (C5p g11 m5 L) := Hid.mk' (Els.later cCell_keeps C5x.out hb)
   clear hR' hb; refine hK.out _ _ ?_ (fun hHeld => ?_)
   ·
    exact (k2 hR K0 K1 q0 q1 :)
   clear hK K; exact dag_to hG (st6 a3 b3 d3 m4 n4 o4 p4 m5 kz ke _ D3 E4 C5x hR hHeld) rfl (by kernel_rfl) (by rw [ha] <;> simp only [z1, z2, z3, z4, z5, z6, z7])
  have st9 : ∀ (a3 b3 d3 m4 n4 o4 p4 m5 : Nat) (g0 : World), Hid (D3p g0 a3 b3 d3 A B C) → Hid (E4p g0 m4 n4 o4 p4 W) → Hid (C5p g0 m5 L) → Hid (Rs w2 w2.heap.size g0 []) → (fun w' => Blk w' (w.heap.size) #[.slice s1 A.length c1, .slice s2 B.length c2, .slice s3 C.length c3] 24 ∧ Blk w' (w.heap.size + 1) #[.slice i1 W.gens.length j1, .slice i2 W.free.length j2, .slice i3 W.tabs.length j3, .slice i4 W.res.length j4] 31) g0 → Gd 10 #[true, true, true, true, true, true, false, false, false, false, false, false, false, false, false, false] (((a0.put (some 40) (.agg #[.slice (some ⟨a3, 0, none⟩) A.length A.length, .slice (some ⟨b3, 0, none⟩) B.length B.length, .slice (some ⟨d3, 0, none⟩) C.length C.length])).put (some 42) (.agg #[.slice (some ⟨m4, 0, none⟩) W.gens.length W.gens.length, .slice (some ⟨n4, 0, none⟩) W.free.length W.free.length, .slice (some ⟨o4, 0, none⟩) W.tabs.length W.tabs.length, .slice (some ⟨p4, 0, none⟩) W.res.length W.res.length])).put (some 44) (.slice (some ⟨m5, 0, none⟩) L.length L.length)) g0 := by
   intro a3 b3 d3 m4 n4 o4 p4 m5 g0 D3 E4 C5x hR hHeld
   rw [hG, ha]
   simp only [z1, z2, z3, z4, z5, z6, z7]; refine wpAnyH_ready (rs := [6, 11, 12]) (by kernel_rfl) (by simp) ?_
   refine AllReadyH.cons rfl (fun K hK => ?_) ?_
   ·
    skip
    go_simp; refine (specSpawn_any a3 0 A.length b3 0 B.length d3 0 C.length A B C (some ⟨m4, 0, none⟩) (some ⟨n4, 0, none⟩) (some ⟨o4, 0, none⟩) (some ⟨p4, 0, none⟩) W.gens.length W.free.length W.tabs.length W.res.length W (some ⟨m5, 0, none⟩) L.length L m5 _ D3.out.1 D3.out.2.1 D3.out.2.2 E4.out HK.out C5x.out lL lA).mono ?_
    rintro z g12 ⟨V0, W0, e0, c0, rfl, hOW, hSR, hb⟩
    have hO := hOW.own
    have HF0 : Hid (OWf V0 W0) := hOW.f
    have HSR : Hid (SpawnR A B C W L W0 e0 c0) := hSR
    clear hOW hSR; have hR : Hid (Rs w2 w2.heap.size g12 (rW V0 W0)) := Hid.mk' (hR.out.insE [] (rW V0 W0) hb hO)
    clear hb hO; refine hK.out _ _ ?_ (fun hHeld => ?_)
    ·
     exact (k2 hR K0 K1 q0 q1 :)
    clear hK K; try simp only [z1, z2, z3, z4, z5, z6, z7]
    refine wpr 7 38 ?_; simp only [z1, z2, z3, z4, z5, z6, z7]; refine wpr 8 46 ?_; simp only [z1, z2, z3, z4, z5, z6, z7]; refine wpr 9 47 ?_; simp only [z1, z2, z3, z4, z5, z6, z7]; refine wpr 10 48 ?_; simp only [z1, z2, z3, z4, z5, z6, z7]; exact dag_to hG (st5 a3 b3 d3 m4 n4 o4 p4 m5 V0 W0 e0 c0 _ HF0 HSR hR hHeld) rfl (by kernel_rfl) (by rw [ha] <;> simp only [z1, z2, z3, z4, z5, z6, z7])
   refine AllReadyH.cons rfl (fun K hK => ?_) ?_
   ·
    skip
    refine step_boxB [] [] hR.out rfl (d0 := (some 8)) rfl 40 hiW hzW rfl ?_
    intro kz g13 hb hR'
    have hR : Hid (Rs w2 w2.heap.size g13 [rB kz 40 [.slice none 0 0, .slice none 0 0, .slice none 0 0, .slice none 0 0]]) := hR'
    have D3 : Hid (D3p g13 a3 b3 d3 A B C) := Hid.mk' (D3.out.on hb)
    have E4 : Hid (E4p g13 m4 n4 o4 p4 W) := Hid.mk' (InW.later E4.out hb)
    have C5x : Hid (C5p g13 m5 L) := Hid.mk' (Els.later cCell_keeps C5x.out hb)
    clear hR' hb; refine hK.out _ _ ?_ (fun hHeld => ?_)
    ·
     exact (k2 hR K0 K1 q0 q1 :)
    clear hK K; exact dag_to hG (st7 a3 b3 d3 m4 n4 o4 p4 m5 kz _ D3 E4 C5x hR hHeld) rfl (by kernel_rfl) (by rw [ha] <;> simp only [z1, z2, z3, z4, z5, z6, z7])
   refine AllReadyH.cons rfl (fun K hK => ?_) AllReadyH.nil
   refine step_boxB [] [] hR.out rfl (d0 := (some 9)) rfl 42 hiE hzE rfl ?_
   intro ke g14 hb hR'
   have hR : Hid (Rs w2 w2.heap.size g14 [rB ke 42 [.int .i64 0, .int .i64 0]]) := hR'
   have D3 : Hid (D3p g14 a3 b3 d3 A B C) := Hid.mk' (D3.out.on hb)
   have E4 : Hid (E4p g14 m4 n4 o4 p4 W) := Hid.mk' (InW.later E4.out hb)
   have C5x : Hid (C5p g14 m5 L) := Hid.mk' (Els.later cCell_keeps C5x.out hb)
   clear hR' hb; refine hK.out _ _ ?_ (fun hHeld => ?_)
   ·
    exact (k2 hR K0 K1 q0 q1 :)
   clear hK K; exact dag_to hG (st8 a3 b3 d3 m4 n4 o4 p4 m5 ke _ D3 E4 C5x hR hHeld) rfl (by kernel_rfl) (by rw [ha] <;> simp only [z1, z2, z3, z4, z5, z6, z7])
  have st10 : ∀ (a3 b3 d3 m4 n4 o4 p4 kz ke : Nat) (g0 : World), Hid (D3p g0 a3 b3 d3 A B C) → Hid (E4p g0 m4 n4 o4 p4 W) → Hid (Rs w2 w2.heap.size g0 [rB kz 40 [.slice none 0 0, .slice none 0 0, .slice none 0 0, .slice none 0 0], rB ke 42 [.int .i64 0, .int .i64 0]]) → (fun w' => Blk w' (w.heap.size) #[.slice s1 A.length c1, .slice s2 B.length c2, .slice s3 C.length c3] 24 ∧ Blk w' (w.heap.size + 1) #[.slice i1 W.gens.length j1, .slice i2 W.free.length j2, .slice i3 W.tabs.length j3, .slice i4 W.res.length j4] 31) g0 → Gd 9 #[true, true, true, true, true, false, false, false, false, false, false, true, true, false, false, false] ((((a0.put (some 40) (.agg #[.slice (some ⟨a3, 0, none⟩) A.length A.length, .slice (some ⟨b3, 0, none⟩) B.length B.length, .slice (some ⟨d3, 0, none⟩) C.length C.length])).put (some 42) (.agg #[.slice (some ⟨m4, 0, none⟩) W.gens.length W.gens.length, .slice (some ⟨n4, 0, none⟩) W.free.length W.free.length, .slice (some ⟨o4, 0, none⟩) W.tabs.length W.tabs.length, .slice (some ⟨p4, 0, none⟩) W.res.length W.res.length])).put (some 8) (.pointer (some ⟨kz, 0, none⟩))).put (some 9) (.pointer (some ⟨ke, 0, none⟩))) g0 := by
   intro a3 b3 d3 m4 n4 o4 p4 kz ke g0 D3 E4 hR hHeld
   rw [hG, ha]
   simp only [z1, z2, z3, z4, z5, z6, z7]; refine wpy 5 fun K hK => ?_
   go_simp; refine (toCellS_made sc cc L 0 _ (HC.out.later cCell_keeps (bl_transG LX.out hR.out bX)) lL).mono ?_
   rintro z g15 ⟨m5, rfl, _, hE5, hb⟩
   have hR : Hid (Rs w2 w2.heap.size g15 [rB kz 40 [.slice none 0 0, .slice none 0 0, .slice none 0 0, .slice none 0 0], rB ke 42 [.int .i64 0, .int .i64 0]]) := Hid.mk' (hR.out.later hb)
   have D3 : Hid (D3p g15 a3 b3 d3 A B C) := Hid.mk' (D3.out.on hb)
   have E4 : Hid (E4p g15 m4 n4 o4 p4 W) := Hid.mk' (InW.later E4.out hb)
   have C5x : Hid (C5p g15 m5 L) := Hid.mk' (hE5)
   clear hb; refine hK.out _ _ ?_ (fun hHeld => ?_)
   ·
    exact (k2 hR K0 K1 q0 q1 :)
   clear hK K; exact dag_to hG (st6 a3 b3 d3 m4 n4 o4 p4 m5 kz ke _ D3 E4 C5x hR hHeld) rfl (by kernel_rfl) (by rw [ha] <;> simp only [z1, z2, z3, z4, z5, z6, z7])
  have st11 : ∀ (a3 b3 d3 m4 n4 o4 p4 kz : Nat) (g0 : World), Hid (D3p g0 a3 b3 d3 A B C) → Hid (E4p g0 m4 n4 o4 p4 W) → Hid (Rs w2 w2.heap.size g0 [rB kz 40 [.slice none 0 0, .slice none 0 0, .slice none 0 0, .slice none 0 0]]) → (fun w' => Blk w' (w.heap.size) #[.slice s1 A.length c1, .slice s2 B.length c2, .slice s3 C.length c3] 24 ∧ Blk w' (w.heap.size + 1) #[.slice i1 W.gens.length j1, .slice i2 W.free.length j2, .slice i3 W.tabs.length j3, .slice i4 W.res.length j4] 31) g0 → Gd 10 #[true, true, true, true, true, false, false, false, false, false, false, true, false, false, false, false] (((a0.put (some 40) (.agg #[.slice (some ⟨a3, 0, none⟩) A.length A.length, .slice (some ⟨b3, 0, none⟩) B.length B.length, .slice (some ⟨d3, 0, none⟩) C.length C.length])).put (some 42) (.agg #[.slice (some ⟨m4, 0, none⟩) W.gens.length W.gens.length, .slice (some ⟨n4, 0, none⟩) W.free.length W.free.length, .slice (some ⟨o4, 0, none⟩) W.tabs.length W.tabs.length, .slice (some ⟨p4, 0, none⟩) W.res.length W.res.length])).put (some 8) (.pointer (some ⟨kz, 0, none⟩))) g0 := by
   intro a3 b3 d3 m4 n4 o4 p4 kz g0 D3 E4 hR hHeld
   rw [hG, ha]
   simp only [z1, z2, z3, z4, z5, z6, z7]; refine wpAnyH_ready (rs := [5, 12]) (by kernel_rfl) (by simp) ?_
   refine AllReadyH.cons rfl (fun K hK => ?_) ?_
   ·
    skip
    go_simp; refine (toCellS_made sc cc L 0 _ (HC.out.later cCell_keeps (bl_transG LX.out hR.out bX)) lL).mono ?_
    rintro z g16 ⟨m5, rfl, _, hE5, hb⟩
    have hR : Hid (Rs w2 w2.heap.size g16 [rB kz 40 [.slice none 0 0, .slice none 0 0, .slice none 0 0, .slice none 0 0]]) := Hid.mk' (hR.out.later hb)
    have D3 : Hid (D3p g16 a3 b3 d3 A B C) := Hid.mk' (D3.out.on hb)
    have E4 : Hid (E4p g16 m4 n4 o4 p4 W) := Hid.mk' (InW.later E4.out hb)
    have C5x : Hid (C5p g16 m5 L) := Hid.mk' (hE5)
    clear hb; refine hK.out _ _ ?_ (fun hHeld => ?_)
    ·
     exact (k2 hR K0 K1 q0 q1 :)
    clear hK K; exact dag_to hG (st7 a3 b3 d3 m4 n4 o4 p4 m5 kz _ D3 E4 C5x hR hHeld) rfl (by kernel_rfl) (by rw [ha] <;> simp only [z1, z2, z3, z4, z5, z6, z7])
   refine AllReadyH.cons rfl (fun K hK => ?_) AllReadyH.nil
   refine step_boxB [rB kz 40 [.slice none 0 0, .slice none 0 0, .slice none 0 0, .slice none 0 0]] [] hR.out rfl (d0 := (some 9)) rfl 42 hiE hzE rfl ?_
   intro ke g17 hb hR'
   have hR : Hid (Rs w2 w2.heap.size g17 [rB kz 40 [.slice none 0 0, .slice none 0 0, .slice none 0 0, .slice none 0 0], rB ke 42 [.int .i64 0, .int .i64 0]]) := hR'
   have D3 : Hid (D3p g17 a3 b3 d3 A B C) := Hid.mk' (D3.out.on hb)
   have E4 : Hid (E4p g17 m4 n4 o4 p4 W) := Hid.mk' (InW.later E4.out hb)
   clear hR' hb; refine hK.out _ _ ?_ (fun hHeld => ?_)
   ·
    exact (k2 hR K0 K1 q0 q1 :)
   clear hK K; exact dag_to hG (st10 a3 b3 d3 m4 n4 o4 p4 kz ke _ D3 E4 hR hHeld) rfl (by kernel_rfl) (by rw [ha] <;> simp only [z1, z2, z3, z4, z5, z6, z7])
  have st12 : ∀ (a3 b3 d3 m4 n4 o4 p4 ke : Nat) (g0 : World), Hid (D3p g0 a3 b3 d3 A B C) → Hid (E4p g0 m4 n4 o4 p4 W) → Hid (Rs w2 w2.heap.size g0 [rB ke 42 [.int .i64 0, .int .i64 0]]) → (fun w' => Blk w' (w.heap.size) #[.slice s1 A.length c1, .slice s2 B.length c2, .slice s3 C.length c3] 24 ∧ Blk w' (w.heap.size + 1) #[.slice i1 W.gens.length j1, .slice i2 W.free.length j2, .slice i3 W.tabs.length j3, .slice i4 W.res.length j4] 31) g0 → Gd 10 #[true, true, true, true, true, false, false, false, false, false, false, false, true, false, false, false] (((a0.put (some 40) (.agg #[.slice (some ⟨a3, 0, none⟩) A.length A.length, .slice (some ⟨b3, 0, none⟩) B.length B.length, .slice (some ⟨d3, 0, none⟩) C.length C.length])).put (some 42) (.agg #[.slice (some ⟨m4, 0, none⟩) W.gens.length W.gens.length, .slice (some ⟨n4, 0, none⟩) W.free.length W.free.length, .slice (some ⟨o4, 0, none⟩) W.tabs.length W.tabs.length, .slice (some ⟨p4, 0, none⟩) W.res.length W.res.length])).put (some 9) (.pointer (some ⟨ke, 0, none⟩))) g0 := by
   intro a3 b3 d3 m4 n4 o4 p4 ke g0 D3 E4 hR hHeld
   rw [hG, ha]
   simp only [z1, z2, z3, z4, z5, z6, z7]; refine wpAnyH_ready (rs := [5, 11]) (by kernel_rfl) (by simp) ?_
   refine AllReadyH.cons rfl (fun K hK => ?_) ?_
   ·
    skip
    go_simp; refine (toCellS_made sc cc L 0 _ (HC.out.later cCell_keeps (bl_transG LX.out hR.out bX)) lL).mono ?_
    rintro z g18 ⟨m5, rfl, _, hE5, hb⟩
    have hR : Hid (Rs w2 w2.heap.size g18 [rB ke 42 [.int .i64 0, .int .i64 0]]) := Hid.mk' (hR.out.later hb)
    have D3 : Hid (D3p g18 a3 b3 d3 A B C) := Hid.mk' (D3.out.on hb)
    have E4 : Hid (E4p g18 m4 n4 o4 p4 W) := Hid.mk' (InW.later E4.out hb)
    have C5x : Hid (C5p g18 m5 L) := Hid.mk' (hE5)
    clear hb; refine hK.out _ _ ?_ (fun hHeld => ?_)
    ·
     exact (k2 hR K0 K1 q0 q1 :)
    clear hK K; exact dag_to hG (st8 a3 b3 d3 m4 n4 o4 p4 m5 ke _ D3 E4 C5x hR hHeld) rfl (by kernel_rfl) (by rw [ha] <;> simp only [z1, z2, z3, z4, z5, z6, z7])
   refine AllReadyH.cons rfl (fun K hK => ?_) AllReadyH.nil
   refine step_boxB [] [rB ke 42 [.int .i64 0, .int .i64 0]] hR.out rfl (d0 := (some 8)) rfl 40 hiW hzW rfl ?_
   intro kz g19 hb hR'
   have hR : Hid (Rs w2 w2.heap.size g19 [rB kz 40 [.slice none 0 0, .slice none 0 0, .slice none 0 0, .slice none 0 0], rB ke 42 [.int .i64 0, .int .i64 0]]) := hR'
   have D3 : Hid (D3p g19 a3 b3 d3 A B C) := Hid.mk' (D3.out.on hb)
   have E4 : Hid (E4p g19 m4 n4 o4 p4 W) := Hid.mk' (InW.later E4.out hb)
   clear hR' hb; refine hK.out _ _ ?_ (fun hHeld => ?_)
   ·
    exact (k2 hR K0 K1 q0 q1 :)
   clear hK K; exact dag_to hG (st10 a3 b3 d3 m4 n4 o4 p4 kz ke _ D3 E4 hR hHeld) rfl (by kernel_rfl) (by rw [ha] <;> simp only [z1, z2, z3, z4, z5, z6, z7])
  have st13 : ∀ (a3 b3 d3 m4 n4 o4 p4 : Nat) (g0 : World), Hid (D3p g0 a3 b3 d3 A B C) → Hid (E4p g0 m4 n4 o4 p4 W) → Hid (Rs w2 w2.heap.size g0 []) → (fun w' => Blk w' (w.heap.size) #[.slice s1 A.length c1, .slice s2 B.length c2, .slice s3 C.length c3] 24 ∧ Blk w' (w.heap.size + 1) #[.slice i1 W.gens.length j1, .slice i2 W.free.length j2, .slice i3 W.tabs.length j3, .slice i4 W.res.length j4] 31) g0 → Gd 11 #[true, true, true, true, true, false, false, false, false, false, false, false, false, false, false, false] ((a0.put (some 40) (.agg #[.slice (some ⟨a3, 0, none⟩) A.length A.length, .slice (some ⟨b3, 0, none⟩) B.length B.length, .slice (some ⟨d3, 0, none⟩) C.length C.length])).put (some 42) (.agg #[.slice (some ⟨m4, 0, none⟩) W.gens.length W.gens.length, .slice (some ⟨n4, 0, none⟩) W.free.length W.free.length, .slice (some ⟨o4, 0, none⟩) W.tabs.length W.tabs.length, .slice (some ⟨p4, 0, none⟩) W.res.length W.res.length])) g0 := by
   intro a3 b3 d3 m4 n4 o4 p4 g0 D3 E4 hR hHeld
   rw [hG, ha]
   simp only [z1, z2, z3, z4, z5, z6, z7]; refine wpAnyH_ready (rs := [5, 11, 12]) (by kernel_rfl) (by simp) ?_
   refine AllReadyH.cons rfl (fun K hK => ?_) ?_
   ·
    skip
    go_simp; refine (toCellS_made sc cc L 0 _ (HC.out.later cCell_keeps (bl_transG LX.out hR.out bX)) lL).mono ?_
    rintro z g20 ⟨m5, rfl, _, hE5, hb⟩
    have hR : Hid (Rs w2 w2.heap.size g20 []) := Hid.mk' (hR.out.later hb)
    have D3 : Hid (D3p g20 a3 b3 d3 A B C) := Hid.mk' (D3.out.on hb)
    have E4 : Hid (E4p g20 m4 n4 o4 p4 W) := Hid.mk' (InW.later E4.out hb)
    have C5x : Hid (C5p g20 m5 L) := Hid.mk' (hE5)
    clear hb; refine hK.out _ _ ?_ (fun hHeld => ?_)
    ·
     exact (k2 hR K0 K1 q0 q1 :)
    clear hK K; exact dag_to hG (st9 a3 b3 d3 m4 n4 o4 p4 m5 _ D3 E4 C5x hR hHeld) rfl (by kernel_rfl) (by rw [ha] <;> simp only [z1, z2, z3, z4, z5, z6, z7])
   refine AllReadyH.cons rfl (fun K hK => ?_) ?_
   ·
    skip
    refine step_boxB [] [] hR.out rfl (d0 := (some 8)) rfl 40 hiW hzW rfl ?_
    intro kz g21 hb hR'
    have hR : Hid (Rs w2 w2.heap.size g21 [rB kz 40 [.slice none 0 0, .slice none 0 0, .slice none 0 0, .slice none 0 0]]) := hR'
    have D3 : Hid (D3p g21 a3 b3 d3 A B C) := Hid.mk' (D3.out.on hb)
    have E4 : Hid (E4p g21 m4 n4 o4 p4 W) := Hid.mk' (InW.later E4.out hb)
    clear hR' hb; refine hK.out _ _ ?_ (fun hHeld => ?_)
    ·
     exact (k2 hR K0 K1 q0 q1 :)
    clear hK K; exact dag_to hG (st11 a3 b3 d3 m4 n4 o4 p4 kz _ D3 E4 hR hHeld) rfl (by kernel_rfl) (by rw [ha] <;> simp only [z1, z2, z3, z4, z5, z6, z7])
   refine AllReadyH.cons rfl (fun K hK => ?_) AllReadyH.nil
   refine step_boxB [] [] hR.out rfl (d0 := (some 9)) rfl 42 hiE hzE rfl ?_
   intro ke g22 hb hR'
   have hR : Hid (Rs w2 w2.heap.size g22 [rB ke 42 [.int .i64 0, .int .i64 0]]) := hR'
   have D3 : Hid (D3p g22 a3 b3 d3 A B C) := Hid.mk' (D3.out.on hb)
   have E4 : Hid (E4p g22 m4 n4 o4 p4 W) := Hid.mk' (InW.later E4.out hb)
   clear hR' hb; refine hK.out _ _ ?_ (fun hHeld => ?_)
   ·
    exact (k2 hR K0 K1 q0 q1 :)
   clear hK K; exact dag_to hG (st12 a3 b3 d3 m4 n4 o4 p4 ke _ D3 E4 hR hHeld) rfl (by kernel_rfl) (by rw [ha] <;> simp only [z1, z2, z3, z4, z5, z6, z7])
  have st14 : ∀ (a3 b3 d3 kz ke : Nat) (g0 : World), Hid (D3p g0 a3 b3 d3 A B C) → Hid (Rs w2 w2.heap.size g0 [rB kz 40 [.slice none 0 0, .slice none 0 0, .slice none 0 0, .slice none 0 0], rB ke 42 [.int .i64 0, .int .i64 0]]) → (fun w' => Blk w' (w.heap.size) #[.slice s1 A.length c1, .slice s2 B.length c2, .slice s3 C.length c3] 24 ∧ Blk w' (w.heap.size + 1) #[.slice i1 W.gens.length j1, .slice i2 W.free.length j2, .slice i3 W.tabs.length j3, .slice i4 W.res.length j4] 31) g0 → Gd 10 #[true, true, true, false, true, false, false, false, false, false, false, true, true, false, false, false] (((a0.put (some 40) (.agg #[.slice (some ⟨a3, 0, none⟩) A.length A.length, .slice (some ⟨b3, 0, none⟩) B.length B.length, .slice (some ⟨d3, 0, none⟩) C.length C.length])).put (some 8) (.pointer (some ⟨kz, 0, none⟩))).put (some 9) (.pointer (some ⟨ke, 0, none⟩))) g0 := by
   intro a3 b3 d3 kz ke g0 D3 hR hHeld
   rw [hG, ha]
   simp only [z1, z2, z3, z4, z5, z6, z7]; refine wpy 3 fun K hK => ?_
   go_simp; refine (toWorld_made i1 i2 i3 i4 j1 j2 j3 j4 W 0 _ (HW.out.later (bl_transG LX.out hR.out bX)) HK.out).mono ?_
   rintro z g23 ⟨⟨m4, n4, o4, p4, rfl, hE4⟩, hb⟩
   have hR : Hid (Rs w2 w2.heap.size g23 [rB kz 40 [.slice none 0 0, .slice none 0 0, .slice none 0 0, .slice none 0 0], rB ke 42 [.int .i64 0, .int .i64 0]]) := Hid.mk' (hR.out.later hb)
   have D3 : Hid (D3p g23 a3 b3 d3 A B C) := Hid.mk' (D3.out.on hb)
   have E4 : Hid (E4p g23 m4 n4 o4 p4 W) := Hid.mk' (hE4.drop (Nat.zero_le _))
   clear hb; refine hK.out _ _ ?_ (fun hHeld => ?_)
   ·
    exact (k2 hR K0 K1 q0 q1 :)
   clear hK K; exact dag_to hG (st10 a3 b3 d3 m4 n4 o4 p4 kz ke _ D3 E4 hR hHeld) rfl (by kernel_rfl) (by rw [ha] <;> simp only [z1, z2, z3, z4, z5, z6, z7])
  have st15 : ∀ (a3 b3 d3 kz : Nat) (g0 : World), Hid (D3p g0 a3 b3 d3 A B C) → Hid (Rs w2 w2.heap.size g0 [rB kz 40 [.slice none 0 0, .slice none 0 0, .slice none 0 0, .slice none 0 0]]) → (fun w' => Blk w' (w.heap.size) #[.slice s1 A.length c1, .slice s2 B.length c2, .slice s3 C.length c3] 24 ∧ Blk w' (w.heap.size + 1) #[.slice i1 W.gens.length j1, .slice i2 W.free.length j2, .slice i3 W.tabs.length j3, .slice i4 W.res.length j4] 31) g0 → Gd 11 #[true, true, true, false, true, false, false, false, false, false, false, true, false, false, false, false] ((a0.put (some 40) (.agg #[.slice (some ⟨a3, 0, none⟩) A.length A.length, .slice (some ⟨b3, 0, none⟩) B.length B.length, .slice (some ⟨d3, 0, none⟩) C.length C.length])).put (some 8) (.pointer (some ⟨kz, 0, none⟩))) g0 := by
   intro a3 b3 d3 kz g0 D3 hR hHeld
   rw [hG, ha]
   simp only [z1, z2, z3, z4, z5, z6, z7]; refine wpAnyH_ready (rs := [3, 12]) (by kernel_rfl) (by simp) ?_
   refine AllReadyH.cons rfl (fun K hK => ?_) ?_
   ·
    skip
    go_simp; refine (toWorld_made i1 i2 i3 i4 j1 j2 j3 j4 W 0 _ (HW.out.later (bl_transG LX.out hR.out bX)) HK.out).mono ?_
    rintro z g24 ⟨⟨m4, n4, o4, p4, rfl, hE4⟩, hb⟩
    have hR : Hid (Rs w2 w2.heap.size g24 [rB kz 40 [.slice none 0 0, .slice none 0 0, .slice none 0 0, .slice none 0 0]]) := Hid.mk' (hR.out.later hb)
    have D3 : Hid (D3p g24 a3 b3 d3 A B C) := Hid.mk' (D3.out.on hb)
    have E4 : Hid (E4p g24 m4 n4 o4 p4 W) := Hid.mk' (hE4.drop (Nat.zero_le _))
    clear hb; refine hK.out _ _ ?_ (fun hHeld => ?_)
    ·
     exact (k2 hR K0 K1 q0 q1 :)
    clear hK K; exact dag_to hG (st11 a3 b3 d3 m4 n4 o4 p4 kz _ D3 E4 hR hHeld) rfl (by kernel_rfl) (by rw [ha] <;> simp only [z1, z2, z3, z4, z5, z6, z7])
   refine AllReadyH.cons rfl (fun K hK => ?_) AllReadyH.nil
   refine step_boxB [rB kz 40 [.slice none 0 0, .slice none 0 0, .slice none 0 0, .slice none 0 0]] [] hR.out rfl (d0 := (some 9)) rfl 42 hiE hzE rfl ?_
   intro ke g25 hb hR'
   have hR : Hid (Rs w2 w2.heap.size g25 [rB kz 40 [.slice none 0 0, .slice none 0 0, .slice none 0 0, .slice none 0 0], rB ke 42 [.int .i64 0, .int .i64 0]]) := hR'
   have D3 : Hid (D3p g25 a3 b3 d3 A B C) := Hid.mk' (D3.out.on hb)
   clear hR' hb; refine hK.out _ _ ?_ (fun hHeld => ?_)
   ·
    exact (k2 hR K0 K1 q0 q1 :)
   clear hK K; exact dag_to hG (st14 a3 b3 d3 kz ke _ D3 hR hHeld) rfl (by kernel_rfl) (by rw [ha] <;> simp only [z1, z2, z3, z4, z5, z6, z7])
  have st16 : ∀ (a3 b3 d3 ke : Nat) (g0 : World), Hid (D3p g0 a3 b3 d3 A B C) → Hid (Rs w2 w2.heap.size g0 [rB ke 42 [.int .i64 0, .int .i64 0]]) → (fun w' => Blk w' (w.heap.size) #[.slice s1 A.length c1, .slice s2 B.length c2, .slice s3 C.length c3] 24 ∧ Blk w' (w.heap.size + 1) #[.slice i1 W.gens.length j1, .slice i2 W.free.length j2, .slice i3 W.tabs.length j3, .slice i4 W.res.length j4] 31) g0 → Gd 11 #[true, true, true, false, true, false, false, false, false, false, false, false, true, false, false, false] ((a0.put (some 40) (.agg #[.slice (some ⟨a3, 0, none⟩) A.length A.length, .slice (some ⟨b3, 0, none⟩) B.length B.length, .slice (some ⟨d3, 0, none⟩) C.length C.length])).put (some 9) (.pointer (some ⟨ke, 0, none⟩))) g0 := by
   intro a3 b3 d3 ke g0 D3 hR hHeld
   rw [hG, ha]
   simp only [z1, z2, z3, z4, z5, z6, z7]; refine wpAnyH_ready (rs := [3, 11]) (by kernel_rfl) (by simp) ?_
   refine AllReadyH.cons rfl (fun K hK => ?_) ?_
   ·
    skip
    go_simp; refine (toWorld_made i1 i2 i3 i4 j1 j2 j3 j4 W 0 _ (HW.out.later (bl_transG LX.out hR.out bX)) HK.out).mono ?_
    rintro z g26 ⟨⟨m4, n4, o4, p4, rfl, hE4⟩, hb⟩
    have hR : Hid (Rs w2 w2.heap.size g26 [rB ke 42 [.int .i64 0, .int .i64 0]]) := Hid.mk' (hR.out.later hb)
    have D3 : Hid (D3p g26 a3 b3 d3 A B C) := Hid.mk' (D3.out.on hb)
    have E4 : Hid (E4p g26 m4 n4 o4 p4 W) := Hid.mk' (hE4.drop (Nat.zero_le _))
    clear hb; refine hK.out _ _ ?_ (fun hHeld => ?_)
    ·
     exact (k2 hR K0 K1 q0 q1 :)
    clear hK K; exact dag_to hG (st12 a3 b3 d3 m4 n4 o4 p4 ke _ D3 E4 hR hHeld) rfl (by kernel_rfl) (by rw [ha] <;> simp only [z1, z2, z3, z4, z5, z6, z7])
   refine AllReadyH.cons rfl (fun K hK => ?_) AllReadyH.nil
   refine step_boxB [] [rB ke 42 [.int .i64 0, .int .i64 0]] hR.out rfl (d0 := (some 8)) rfl 40 hiW hzW rfl ?_
   intro kz g27 hb hR'
   have hR : Hid (Rs w2 w2.heap.size g27 [rB kz 40 [.slice none 0 0, .slice none 0 0, .slice none 0 0, .slice none 0 0], rB ke 42 [.int .i64 0, .int .i64 0]]) := hR'
   have D3 : Hid (D3p g27 a3 b3 d3 A B C) := Hid.mk' (D3.out.on hb)
   clear hR' hb; refine hK.out _ _ ?_ (fun hHeld => ?_)
   ·
    exact (k2 hR K0 K1 q0 q1 :)
   clear hK K; exact dag_to hG (st14 a3 b3 d3 kz ke _ D3 hR hHeld) rfl (by kernel_rfl) (by rw [ha] <;> simp only [z1, z2, z3, z4, z5, z6, z7])
  have st17 : ∀ (a3 b3 d3 : Nat) (g0 : World), Hid (D3p g0 a3 b3 d3 A B C) → Hid (Rs w2 w2.heap.size g0 []) → (fun w' => Blk w' (w.heap.size) #[.slice s1 A.length c1, .slice s2 B.length c2, .slice s3 C.length c3] 24 ∧ Blk w' (w.heap.size + 1) #[.slice i1 W.gens.length j1, .slice i2 W.free.length j2, .slice i3 W.tabs.length j3, .slice i4 W.res.length j4] 31) g0 → Gd 12 #[true, true, true, false, true, false, false, false, false, false, false, false, false, false, false, false] (a0.put (some 40) (.agg #[.slice (some ⟨a3, 0, none⟩) A.length A.length, .slice (some ⟨b3, 0, none⟩) B.length B.length, .slice (some ⟨d3, 0, none⟩) C.length C.length])) g0 := by
   intro a3 b3 d3 g0 D3 hR hHeld
   rw [hG, ha]
   simp only [z1, z2, z3, z4, z5, z6, z7]; refine wpAnyH_ready (rs := [3, 11, 12]) (by kernel_rfl) (by simp) ?_
   refine AllReadyH.cons rfl (fun K hK => ?_) ?_
   ·
    skip
    go_simp; refine (toWorld_made i1 i2 i3 i4 j1 j2 j3 j4 W 0 _ (HW.out.later (bl_transG LX.out hR.out bX)) HK.out).mono ?_
    rintro z g28 ⟨⟨m4, n4, o4, p4, rfl, hE4⟩, hb⟩
    have hR : Hid (Rs w2 w2.heap.size g28 []) := Hid.mk' (hR.out.later hb)
    have D3 : Hid (D3p g28 a3 b3 d3 A B C) := Hid.mk' (D3.out.on hb)
    have E4 : Hid (E4p g28 m4 n4 o4 p4 W) := Hid.mk' (hE4.drop (Nat.zero_le _))
    clear hb; refine hK.out _ _ ?_ (fun hHeld => ?_)
    ·
     exact (k2 hR K0 K1 q0 q1 :)
    clear hK K; exact dag_to hG (st13 a3 b3 d3 m4 n4 o4 p4 _ D3 E4 hR hHeld) rfl (by kernel_rfl) (by rw [ha] <;> simp only [z1, z2, z3, z4, z5, z6, z7])
   refine AllReadyH.cons rfl (fun K hK => ?_) ?_
   ·
    skip
    refine step_boxB [] [] hR.out rfl (d0 := (some 8)) rfl 40 hiW hzW rfl ?_
    intro kz g29 hb hR'
    have hR : Hid (Rs w2 w2.heap.size g29 [rB kz 40 [.slice none 0 0, .slice none 0 0, .slice none 0 0, .slice none 0 0]]) := hR'
    have D3 : Hid (D3p g29 a3 b3 d3 A B C) := Hid.mk' (D3.out.on hb)
    clear hR' hb; refine hK.out _ _ ?_ (fun hHeld => ?_)
    ·
     exact (k2 hR K0 K1 q0 q1 :)
    clear hK K; exact dag_to hG (st15 a3 b3 d3 kz _ D3 hR hHeld) rfl (by kernel_rfl) (by rw [ha] <;> simp only [z1, z2, z3, z4, z5, z6, z7])
   refine AllReadyH.cons rfl (fun K hK => ?_) AllReadyH.nil
   refine step_boxB [] [] hR.out rfl (d0 := (some 9)) rfl 42 hiE hzE rfl ?_
   intro ke g30 hb hR'
   have hR : Hid (Rs w2 w2.heap.size g30 [rB ke 42 [.int .i64 0, .int .i64 0]]) := hR'
   have D3 : Hid (D3p g30 a3 b3 d3 A B C) := Hid.mk' (D3.out.on hb)
   clear hR' hb; refine hK.out _ _ ?_ (fun hHeld => ?_)
   ·
    exact (k2 hR K0 K1 q0 q1 :)
   clear hK K; exact dag_to hG (st16 a3 b3 d3 ke _ D3 hR hHeld) rfl (by kernel_rfl) (by rw [ha] <;> simp only [z1, z2, z3, z4, z5, z6, z7])
  have st18 : ∀ (kz ke : Nat) (g0 : World), Hid (Rs w2 w2.heap.size g0 [rB kz 40 [.slice none 0 0, .slice none 0 0, .slice none 0 0, .slice none 0 0], rB ke 42 [.int .i64 0, .int .i64 0]]) → (fun w' => Blk w' (w.heap.size) #[.slice s1 A.length c1, .slice s2 B.length c2, .slice s3 C.length c3] 24 ∧ Blk w' (w.heap.size + 1) #[.slice i1 W.gens.length j1, .slice i2 W.free.length j2, .slice i3 W.tabs.length j3, .slice i4 W.res.length j4] 31) g0 → Gd 11 #[true, false, true, false, true, false, false, false, false, false, false, true, true, false, false, false] ((a0.put (some 8) (.pointer (some ⟨kz, 0, none⟩))).put (some 9) (.pointer (some ⟨ke, 0, none⟩))) g0 := by
   intro kz ke g0 hR hHeld
   rw [hG, ha]
   simp only [z1, z2, z3, z4, z5, z6, z7]; refine wpy 1 fun K hK => ?_
   go_simp; refine (toReg_any s1 s2 s3 c1 c2 c3 A B C _ (HD.out.1.later (bl_transG LX.out hR.out bX)) (HD.out.2.1.later (bl_transG LX.out hR.out bX)) (HD.out.2.2.later (bl_transG LX.out hR.out bX)) lA lB lC).mono ?_
   rintro z g31 ⟨⟨a3, b3, d3, rfl, dA3, dB3, dC3⟩, hb⟩
   have hR : Hid (Rs w2 w2.heap.size g31 [rB kz 40 [.slice none 0 0, .slice none 0 0, .slice none 0 0, .slice none 0 0], rB ke 42 [.int .i64 0, .int .i64 0]]) := Hid.mk' (hR.out.later hb)
   have D3 : Hid (D3p g31 a3 b3 d3 A B C) := Hid.mk' (⟨dA3, dB3, dC3⟩)
   clear hb; refine hK.out _ _ ?_ (fun hHeld => ?_)
   ·
    exact (k2 hR K0 K1 q0 q1 :)
   clear hK K; exact dag_to hG (st14 a3 b3 d3 kz ke _ D3 hR hHeld) rfl (by kernel_rfl) (by rw [ha] <;> simp only [z1, z2, z3, z4, z5, z6, z7])
  have st19 : ∀ (kz : Nat) (g0 : World), Hid (Rs w2 w2.heap.size g0 [rB kz 40 [.slice none 0 0, .slice none 0 0, .slice none 0 0, .slice none 0 0]]) → (fun w' => Blk w' (w.heap.size) #[.slice s1 A.length c1, .slice s2 B.length c2, .slice s3 C.length c3] 24 ∧ Blk w' (w.heap.size + 1) #[.slice i1 W.gens.length j1, .slice i2 W.free.length j2, .slice i3 W.tabs.length j3, .slice i4 W.res.length j4] 31) g0 → Gd 12 #[true, false, true, false, true, false, false, false, false, false, false, true, false, false, false, false] (a0.put (some 8) (.pointer (some ⟨kz, 0, none⟩))) g0 := by
   intro kz g0 hR hHeld
   rw [hG, ha]
   simp only [z1, z2, z3, z4, z5, z6, z7]; refine wpAnyH_ready (rs := [1, 12]) (by kernel_rfl) (by simp) ?_
   refine AllReadyH.cons rfl (fun K hK => ?_) ?_
   ·
    skip
    go_simp; refine (toReg_any s1 s2 s3 c1 c2 c3 A B C _ (HD.out.1.later (bl_transG LX.out hR.out bX)) (HD.out.2.1.later (bl_transG LX.out hR.out bX)) (HD.out.2.2.later (bl_transG LX.out hR.out bX)) lA lB lC).mono ?_
    rintro z g32 ⟨⟨a3, b3, d3, rfl, dA3, dB3, dC3⟩, hb⟩
    have hR : Hid (Rs w2 w2.heap.size g32 [rB kz 40 [.slice none 0 0, .slice none 0 0, .slice none 0 0, .slice none 0 0]]) := Hid.mk' (hR.out.later hb)
    have D3 : Hid (D3p g32 a3 b3 d3 A B C) := Hid.mk' (⟨dA3, dB3, dC3⟩)
    clear hb; refine hK.out _ _ ?_ (fun hHeld => ?_)
    ·
     exact (k2 hR K0 K1 q0 q1 :)
    clear hK K; exact dag_to hG (st15 a3 b3 d3 kz _ D3 hR hHeld) rfl (by kernel_rfl) (by rw [ha] <;> simp only [z1, z2, z3, z4, z5, z6, z7])
   refine AllReadyH.cons rfl (fun K hK => ?_) AllReadyH.nil
   refine step_boxB [rB kz 40 [.slice none 0 0, .slice none 0 0, .slice none 0 0, .slice none 0 0]] [] hR.out rfl (d0 := (some 9)) rfl 42 hiE hzE rfl ?_
   intro ke g33 hb hR'
   have hR : Hid (Rs w2 w2.heap.size g33 [rB kz 40 [.slice none 0 0, .slice none 0 0, .slice none 0 0, .slice none 0 0], rB ke 42 [.int .i64 0, .int .i64 0]]) := hR'
   clear hR' hb; refine hK.out _ _ ?_ (fun hHeld => ?_)
   ·
    exact (k2 hR K0 K1 q0 q1 :)
   clear hK K; exact dag_to hG (st18 kz ke _  hR hHeld) rfl (by kernel_rfl) (by rw [ha] <;> simp only [z1, z2, z3, z4, z5, z6, z7])
  have st20 : ∀ (ke : Nat) (g0 : World), Hid (Rs w2 w2.heap.size g0 [rB ke 42 [.int .i64 0, .int .i64 0]]) → (fun w' => Blk w' (w.heap.size) #[.slice s1 A.length c1, .slice s2 B.length c2, .slice s3 C.length c3] 24 ∧ Blk w' (w.heap.size + 1) #[.slice i1 W.gens.length j1, .slice i2 W.free.length j2, .slice i3 W.tabs.length j3, .slice i4 W.res.length j4] 31) g0 → Gd 12 #[true, false, true, false, true, false, false, false, false, false, false, false, true, false, false, false] (a0.put (some 9) (.pointer (some ⟨ke, 0, none⟩))) g0 := by
   intro ke g0 hR hHeld
   rw [hG, ha]
   simp only [z1, z2, z3, z4, z5, z6, z7]; refine wpAnyH_ready (rs := [1, 11]) (by kernel_rfl) (by simp) ?_
   refine AllReadyH.cons rfl (fun K hK => ?_) ?_
   ·
    skip
    go_simp; refine (toReg_any s1 s2 s3 c1 c2 c3 A B C _ (HD.out.1.later (bl_transG LX.out hR.out bX)) (HD.out.2.1.later (bl_transG LX.out hR.out bX)) (HD.out.2.2.later (bl_transG LX.out hR.out bX)) lA lB lC).mono ?_
    rintro z g34 ⟨⟨a3, b3, d3, rfl, dA3, dB3, dC3⟩, hb⟩
    have hR : Hid (Rs w2 w2.heap.size g34 [rB ke 42 [.int .i64 0, .int .i64 0]]) := Hid.mk' (hR.out.later hb)
    have D3 : Hid (D3p g34 a3 b3 d3 A B C) := Hid.mk' (⟨dA3, dB3, dC3⟩)
    clear hb; refine hK.out _ _ ?_ (fun hHeld => ?_)
    ·
     exact (k2 hR K0 K1 q0 q1 :)
    clear hK K; exact dag_to hG (st16 a3 b3 d3 ke _ D3 hR hHeld) rfl (by kernel_rfl) (by rw [ha] <;> simp only [z1, z2, z3, z4, z5, z6, z7])
   refine AllReadyH.cons rfl (fun K hK => ?_) AllReadyH.nil
   refine step_boxB [] [rB ke 42 [.int .i64 0, .int .i64 0]] hR.out rfl (d0 := (some 8)) rfl 40 hiW hzW rfl ?_
   intro kz g35 hb hR'
   have hR : Hid (Rs w2 w2.heap.size g35 [rB kz 40 [.slice none 0 0, .slice none 0 0, .slice none 0 0, .slice none 0 0], rB ke 42 [.int .i64 0, .int .i64 0]]) := hR'
   clear hR' hb; refine hK.out _ _ ?_ (fun hHeld => ?_)
   ·
    exact (k2 hR K0 K1 q0 q1 :)
   clear hK K; exact dag_to hG (st18 kz ke _  hR hHeld) rfl (by kernel_rfl) (by rw [ha] <;> simp only [z1, z2, z3, z4, z5, z6, z7])
  rw [hG, ha]
  try simp only [z1, z2, z3, z4, z5, z6, z7]
  refine wpAnyH_ready (rs := [1, 11, 12]) (by kernel_rfl) (by simp) ?_
  refine AllReadyH.cons rfl (fun K hK => ?_) ?_
  ·
   skip
   go_simp; refine (toReg_any s1 s2 s3 c1 c2 c3 A B C _ (HD.out.1.later (bl_transG LX.out hR.out bX)) (HD.out.2.1.later (bl_transG LX.out hR.out bX)) (HD.out.2.2.later (bl_transG LX.out hR.out bX)) lA lB lC).mono ?_
   rintro z g36 ⟨⟨a3, b3, d3, rfl, dA3, dB3, dC3⟩, hb⟩
   have hR : Hid (Rs w2 w2.heap.size g36 []) := Hid.mk' (hR.out.later hb)
   have D3 : Hid (D3p g36 a3 b3 d3 A B C) := Hid.mk' (⟨dA3, dB3, dC3⟩)
   clear hb; refine hK.out _ _ ?_ (fun hHeld => ?_)
   ·
    exact (k2 hR K0 K1 q0 q1 :)
   clear hK K; exact dag_to hG (st17 a3 b3 d3 _ D3 hR hHeld) rfl (by kernel_rfl) (by rw [ha] <;> simp only [z1, z2, z3, z4, z5, z6, z7])
  refine AllReadyH.cons rfl (fun K hK => ?_) ?_
  ·
   skip
   refine step_boxB [] [] hR.out rfl (d0 := (some 8)) rfl 40 hiW hzW rfl ?_
   intro kz g37 hb hR'
   have hR : Hid (Rs w2 w2.heap.size g37 [rB kz 40 [.slice none 0 0, .slice none 0 0, .slice none 0 0, .slice none 0 0]]) := hR'
   clear hR' hb; refine hK.out _ _ ?_ (fun hHeld => ?_)
   ·
    exact (k2 hR K0 K1 q0 q1 :)
   clear hK K; exact dag_to hG (st19 kz _  hR hHeld) rfl (by kernel_rfl) (by rw [ha] <;> simp only [z1, z2, z3, z4, z5, z6, z7])
  refine AllReadyH.cons rfl (fun K hK => ?_) AllReadyH.nil
  refine step_boxB [] [] hR.out rfl (d0 := (some 9)) rfl 42 hiE hzE rfl ?_
  intro ke g38 hb hR'
  have hR : Hid (Rs w2 w2.heap.size g38 [rB ke 42 [.int .i64 0, .int .i64 0]]) := hR'
  clear hR' hb; refine hK.out _ _ ?_ (fun hHeld => ?_)
  ·
   exact (k2 hR K0 K1 q0 q1 :)
  clear hK K; exact dag_to hG (st20 ke _  hR hHeld) rfl (by kernel_rfl) (by rw [ha] <;> simp only [z1, z2, z3, z4, z5, z6, z7])
 obtain ⟨kz, ke, V0, W0, e0, c0, rfl, rfl, rfl, hF0, hS0, hR0⟩ := hcut
 obtain ⟨wz, hwz⟩ : ∃ wz, wz = wc := ⟨_, rfl⟩
 rw [← hwz] at hR0 ⊢
 clear hR q0 q1 bX hwz; have hL2 := hR0.l
 have Z0 : Hid (Blk wz (w.heap.size) #[.slice s1 A.length c1, .slice s2 B.length c2, .slice s3 C.length c3] 24) := K0.out.later hL2
 have Z1 : Hid (Blk wz (w.heap.size + 1) #[.slice i1 W.gens.length j1, .slice i2 W.free.length j2, .slice i3 W.tabs.length j3, .slice i4 W.res.length j4] 31) := K1.out.later hL2
 have LAz : Hid (Below w.heap.size w wz) := bl_trans LX.out hL2
 have szz : Hid (w.heap.size ≤ wz.heap.size) := LAz.out.size
 have HF0 := Hid.mk' hF0
 have HS0 := Hid.mk' hS0
 have HK0 := Hid.mk' (hS0.kW HK.out)
 have H0z : Hid (Owns wz w2.heap.size (rB kz 40 [V0.g, V0.f, V0.t, V0.r] :: rB ke 42 [.int .i64 e0.1, .int .i64 e0.2] :: rW V0 W0)) := hR0.o
 clear hF0 hS0 hR0 hL2 LX K0 K1; obtain ⟨x0, x1, x2, x3⟩ := Z0.out.three'
 go_wp2_with fail; refine (toReg_dd s1 s2 s3 c1 c2 c3 A B C _ (HD.out.1.later LAz.out) (HD.out.2.1.later LAz.out) (HD.out.2.2.later LAz.out) lA lB lC).mono ?_
 rintro r w6 ⟨⟨a6, b6, d6, rfl, dA6, dB6, dC6, la6, lb6, ld6, nab, nad, nbd⟩, hb6⟩
 have LZ : Hid (Below wz.heap.size wz (w6.alloc (.cells #[.slice (some ⟨a6, 0, none⟩) A.length A.length, .slice (some ⟨b6, 0, none⟩) B.length B.length, .slice (some ⟨d6, 0, none⟩) C.length C.length] 47))) := bl_alloc hb6 _
 have ha6 : Below w6.heap.size w6 (w6.alloc (.cells #[.slice (some ⟨a6, 0, none⟩) A.length A.length, .slice (some ⟨b6, 0, none⟩) B.length B.length, .slice (some ⟨d6, 0, none⟩) C.length C.length] 47)) := bl_alloc (Below.refl _ _) _
 have D6 : Hid (DD (w6.alloc (.cells #[.slice (some ⟨a6, 0, none⟩) A.length A.length, .slice (some ⟨b6, 0, none⟩) B.length B.length, .slice (some ⟨d6, 0, none⟩) C.length C.length] 47)) a6 A ∧ DD (w6.alloc (.cells #[.slice (some ⟨a6, 0, none⟩) A.length A.length, .slice (some ⟨b6, 0, none⟩) B.length B.length, .slice (some ⟨d6, 0, none⟩) C.length C.length] 47)) b6 B ∧ DD (w6.alloc (.cells #[.slice (some ⟨a6, 0, none⟩) A.length A.length, .slice (some ⟨b6, 0, none⟩) B.length B.length, .slice (some ⟨d6, 0, none⟩) C.length C.length] 47)) d6 C) := ⟨dA6.later ha6, dB6.later ha6, dC6.later ha6⟩
 have KR : Hid (Blk (w6.alloc (.cells #[.slice (some ⟨a6, 0, none⟩) A.length A.length, .slice (some ⟨b6, 0, none⟩) B.length B.length, .slice (some ⟨d6, 0, none⟩) C.length C.length] 47)) w6.heap.size #[.slice (some ⟨a6, 0, none⟩) A.length A.length, .slice (some ⟨b6, 0, none⟩) B.length B.length, .slice (some ⟨d6, 0, none⟩) C.length C.length] 47) := Blk.new w6 _ _
 have sz6 : Hid (a6 < w6.heap.size ∧ b6 < w6.heap.size ∧ d6 < w6.heap.size) := ⟨dA6.2.lt, dB6.2.lt, dC6.2.lt⟩
 have szl : Hid (wz.heap.size ≤ a6 ∧ wz.heap.size ≤ b6 ∧ wz.heap.size ≤ d6) := ⟨la6, lb6, ld6⟩
 clear dA6 dB6 dC6 hb6 ha6 x0 x1 x2 x3 la6 lb6 ld6; have K1 : Hid (Blk (w6.alloc (.cells #[.slice (some ⟨a6, 0, none⟩) A.length A.length, .slice (some ⟨b6, 0, none⟩) B.length B.length, .slice (some ⟨d6, 0, none⟩) C.length C.length] 47)) (w.heap.size + 1) #[.slice i1 W.gens.length j1, .slice i2 W.free.length j2, .slice i3 W.tabs.length j3, .slice i4 W.res.length j4] 31) := Z1.out.later LZ.out
 obtain ⟨y0, y1, y2, y3, y4⟩ := K1.out.four'
 go_wp2_with fail; generalize hX6 : w6.alloc (.cells #[.slice (some ⟨a6, 0, none⟩) A.length A.length, .slice (some ⟨b6, 0, none⟩) B.length B.length, .slice (some ⟨d6, 0, none⟩) C.length C.length] 47) = X6 at LZ D6 KR K1 y0 y1 y2 y3 y4 ⊢
 generalize hkr : w6.heap.size = kr at KR sz6 ⊢
 have krl : Hid (kr < X6.heap.size) := KR.out.lt
 clear hX6 hkr K1; refine (toWorld_made i1 i2 i3 i4 j1 j2 j3 j4 W 0 _ (HW.out.later (bl_trans LAz.out LZ.out)) HK.out).mono ?_
 rintro r w7 ⟨⟨m7, n7, o7, p7, rfl, hE7⟩, hb7⟩
 have hc7 : Below X6.heap.size X6 (w7.alloc (.cells #[.slice (some ⟨m7, 0, none⟩) W.gens.length W.gens.length, .slice (some ⟨n7, 0, none⟩) W.free.length W.free.length, .slice (some ⟨o7, 0, none⟩) W.tabs.length W.tabs.length, .slice (some ⟨p7, 0, none⟩) W.res.length W.res.length] 40)) := bl_alloc hb7 _
 have ha7 : Below w7.heap.size w7 (w7.alloc (.cells #[.slice (some ⟨m7, 0, none⟩) W.gens.length W.gens.length, .slice (some ⟨n7, 0, none⟩) W.free.length W.free.length, .slice (some ⟨o7, 0, none⟩) W.tabs.length W.tabs.length, .slice (some ⟨p7, 0, none⟩) W.res.length W.res.length] 40)) := bl_alloc (Below.refl _ _) _
 have szx : Hid (wz.heap.size ≤ X6.heap.size) := LZ.out.size
 have LZ : Hid (Below wz.heap.size wz (w7.alloc (.cells #[.slice (some ⟨m7, 0, none⟩) W.gens.length W.gens.length, .slice (some ⟨n7, 0, none⟩) W.free.length W.free.length, .slice (some ⟨o7, 0, none⟩) W.tabs.length W.tabs.length, .slice (some ⟨p7, 0, none⟩) W.res.length W.res.length] 40))) := bl_trans LZ.out hc7
 have D7 : Hid (DD (w7.alloc (.cells #[.slice (some ⟨m7, 0, none⟩) W.gens.length W.gens.length, .slice (some ⟨n7, 0, none⟩) W.free.length W.free.length, .slice (some ⟨o7, 0, none⟩) W.tabs.length W.tabs.length, .slice (some ⟨p7, 0, none⟩) W.res.length W.res.length] 40)) a6 A ∧ DD (w7.alloc (.cells #[.slice (some ⟨m7, 0, none⟩) W.gens.length W.gens.length, .slice (some ⟨n7, 0, none⟩) W.free.length W.free.length, .slice (some ⟨o7, 0, none⟩) W.tabs.length W.tabs.length, .slice (some ⟨p7, 0, none⟩) W.res.length W.res.length] 40)) b6 B ∧ DD (w7.alloc (.cells #[.slice (some ⟨m7, 0, none⟩) W.gens.length W.gens.length, .slice (some ⟨n7, 0, none⟩) W.free.length W.free.length, .slice (some ⟨o7, 0, none⟩) W.tabs.length W.tabs.length, .slice (some ⟨p7, 0, none⟩) W.res.length W.res.length] 40)) d6 C) := ⟨D6.out.1.later hc7, D6.out.2.1.later hc7, D6.out.2.2.later hc7⟩
 have KR : Hid (Blk (w7.alloc (.cells #[.slice (some ⟨m7, 0, none⟩) W.gens.length W.gens.length, .slice (some ⟨n7, 0, none⟩) W.free.length W.free.length, .slice (some ⟨o7, 0, none⟩) W.tabs.length W.tabs.length, .slice (some ⟨p7, 0, none⟩) W.res.length W.res.length] 40)) kr #[.slice (some ⟨a6, 0, none⟩) A.length A.length, .slice (some ⟨b6, 0, none⟩) B.length B.length, .slice (some ⟨d6, 0, none⟩) C.length C.length] 47) := KR.out.later hc7
 have KW : Hid (Blk (w7.alloc (.cells #[.slice (some ⟨m7, 0, none⟩) W.gens.length W.gens.length, .slice (some ⟨n7, 0, none⟩) W.free.length W.free.length, .slice (some ⟨o7, 0, none⟩) W.tabs.length W.tabs.length, .slice (some ⟨p7, 0, none⟩) W.res.length W.res.length] 40)) w7.heap.size #[.slice (some ⟨m7, 0, none⟩) W.gens.length W.gens.length, .slice (some ⟨n7, 0, none⟩) W.free.length W.free.length, .slice (some ⟨o7, 0, none⟩) W.tabs.length W.tabs.length, .slice (some ⟨p7, 0, none⟩) W.res.length W.res.length] 40) := Blk.new w7 _ _
 have E7 : Hid (InW (w7.alloc (.cells #[.slice (some ⟨m7, 0, none⟩) W.gens.length W.gens.length, .slice (some ⟨n7, 0, none⟩) W.free.length W.free.length, .slice (some ⟨o7, 0, none⟩) W.tabs.length W.tabs.length, .slice (some ⟨p7, 0, none⟩) W.res.length W.res.length] 40)) X6.heap.size (some ⟨m7, 0, none⟩) (some ⟨n7, 0, none⟩) (some ⟨o7, 0, none⟩) (some ⟨p7, 0, none⟩) W) := hE7.later ha7
 have szr : Hid (X6.heap.size ≤ w7.heap.size) := hb7.size
 clear hE7 hb7 ha7 hc7 D6 y0 y1 y2 y3 y4; go_wp2_with fail; generalize hX7 : w7.alloc (.cells #[.slice (some ⟨m7, 0, none⟩) W.gens.length W.gens.length, .slice (some ⟨n7, 0, none⟩) W.free.length W.free.length, .slice (some ⟨o7, 0, none⟩) W.tabs.length W.tabs.length, .slice (some ⟨p7, 0, none⟩) W.res.length W.res.length] 40) = X7 at LZ D7 KR KW E7 ⊢
 generalize hkw : w7.heap.size = kw at KW szr ⊢
 have QW : Hid (kw < X7.heap.size) := KW.out.lt
 clear hX7 hkw; refine (toCellS_made sc cc L 0 _ (HC.out.later cCell_keeps (bl_trans LAz.out LZ.out)) lL).mono ?_
 rintro r w8 ⟨m8, rfl, l8, hE8, hb8⟩
 have LZ : Hid (Below wz.heap.size wz w8) := bl_trans LZ.out hb8
 have D7 : Hid (DD w8 a6 A ∧ DD w8 b6 B ∧ DD w8 d6 C) := ⟨D7.out.1.later hb8, D7.out.2.1.later hb8, D7.out.2.2.later hb8⟩
 have KR : Hid (Blk w8 kr #[.slice (some ⟨a6, 0, none⟩) A.length A.length, .slice (some ⟨b6, 0, none⟩) B.length B.length, .slice (some ⟨d6, 0, none⟩) C.length C.length] 47) := KR.out.later hb8
 have KW : Hid (Blk w8 kw #[.slice (some ⟨m7, 0, none⟩) W.gens.length W.gens.length, .slice (some ⟨n7, 0, none⟩) W.free.length W.free.length, .slice (some ⟨o7, 0, none⟩) W.tabs.length W.tabs.length, .slice (some ⟨p7, 0, none⟩) W.res.length W.res.length] 40) := KW.out.later hb8
 have E7 : Hid (InW w8 X6.heap.size (some ⟨m7, 0, none⟩) (some ⟨n7, 0, none⟩) (some ⟨o7, 0, none⟩) (some ⟨p7, 0, none⟩) W) := E7.out.later hb8
 have C8 : Hid (Els 5 cCell w8 m8 (some ⟨m8, 0, none⟩) L) := hE8
 have s78 : Hid (X7.heap.size ≤ w8.heap.size ∧ X7.heap.size ≤ m8) := ⟨hb8.size, l8⟩
 have h67 : Hid (X6.heap.size ≤ kw ∧ X6.heap.size ≤ w8.heap.size ∧ kw < w8.heap.size ∧ X6.heap.size ≤ m8) := by have h2 := szr.out; have h3 := QW.out; have h4 := s78.out; exact ⟨by omega, by omega, by omega, by omega⟩
 clear hE8 hb8 l8 szr QW s78; obtain ⟨x0, x1, x2, x3⟩ := KR.out.three'
 obtain ⟨y0, y1, y2, y3, y4⟩ := KW.out.four'
 go_wp2_with fail; refine (implSpawn_any (some ⟨a6, 0, none⟩) (some ⟨b6, 0, none⟩) (some ⟨d6, 0, none⟩) A.length B.length C.length A B C (some ⟨m7, 0, none⟩) (some ⟨n7, 0, none⟩) (some ⟨o7, 0, none⟩) (some ⟨p7, 0, none⟩) W.gens.length W.free.length W.tabs.length W.res.length W (some ⟨m8, 0, none⟩) L.length L m8 _ D7.out.1.1 D7.out.2.1.1 D7.out.2.2.1 NMH.out lA lB lC (E7.out.drop (Nat.zero_le _)) HK.out (Nat.le_refl _) BR.out C8.out lL (Nat.le_refl _)).mono ?_
 rintro r w9 ⟨V1, W1, e1, c1x, rfl, hOW1, hS1, hb9⟩
 obtain ⟨rfl, rfl, rfl⟩ := HS0.out.same hS1
 have HF1 : Hid (OWf V1 W0) := hOW1.f
 obtain ⟨hR1, bW9, bE9, o9⟩ := boxes_own e0 hOW1.own hb9
 clear hOW1 hS1 hb9 x0 x1 x2 x3 y0 y1 y2 y3 y4; go_upto_region 16 with (first | (refine wpList_store_row rfl 40 (.tmp 14) (.tmp 60) rfl _ #[V1.g, V1.f, V1.t, V1.r] rfl rfl _ _ bW9 (by rw [hiW]; simp [hsW]) rfl o9 ?_) | (refine wpList_store_row rfl 42 (.tmp 15) (.tmp 61) rfl _ #[.int .i64 e0.1, .int .i64 e0.2] rfl rfl _ _ bE9 (by rw [hiE]; simp [hsE]) rfl (one_E _ _) ?_))
 clear bW9 bE9 o9; generalize hwq : ((((w9.alloc (.cells #[.slice none 0 0, .slice none 0 0, .slice none 0 0, .slice none 0 0] 40)).alloc (.cells #[.int .i64 0, .int .i64 0] 42)).setRow w9.heap.size #[V1.g, V1.f, V1.t, V1.r]).setRow (w9.heap.size + 1) #[.int .i64 e0.1, .int .i64 e0.2]) = wq at hR1 ⊢
 generalize hkg : w9.heap.size = kg at hR1 ⊢
 generalize hkq : kg + 1 = kq at hR1 ⊢
 clear hwq hkg hkq; have hl7 := hR1.l
 have LZ : Hid (Below wz.heap.size wz wq) := bl_trans LZ.out hl7
 have KR : Hid (Blk wq kr #[.slice (some ⟨a6, 0, none⟩) A.length A.length, .slice (some ⟨b6, 0, none⟩) B.length B.length, .slice (some ⟨d6, 0, none⟩) C.length C.length] 47) := KR.out.later hl7
 have KW : Hid (Blk wq kw #[.slice (some ⟨m7, 0, none⟩) W.gens.length W.gens.length, .slice (some ⟨n7, 0, none⟩) W.free.length W.free.length, .slice (some ⟨o7, 0, none⟩) W.tabs.length W.tabs.length, .slice (some ⟨p7, 0, none⟩) W.res.length W.res.length] 40) := KW.out.later hl7
 have L7 : Hid (Below w8.heap.size w8 wq) := hl7
 have H1 : Hid (Owns wq w8.heap.size (rB kg 40 [V1.g, V1.f, V1.t, V1.r] :: rB kq 42 [.int .i64 e0.1, .int .i64 e0.2] :: rW V1 W0)) := hR1.o
 have hcc : (c0 != c0) = false := by simp
 clear hR1 hl7; have H0 : Hid (Owns wq w2.heap.size (rB kz 40 [V0.g, V0.f, V0.t, V0.r] :: rB ke 42 [.int .i64 e0.1, .int .i64 e0.2] :: rW V0 W0)) := H0z.out.later LZ.out
 obtain ⟨x0, x1, x2, x3, x4⟩ := (show Blk wq kg #[V1.g, V1.f, V1.t, V1.r] 40 from rB_blk H1.out.head).four'
 obtain ⟨y0, y1, y2, y3, y4⟩ := (show Blk wq kz #[V0.g, V0.f, V0.t, V0.r] 40 from rB_blk H0.out.head).four'
 go_wp2_with fail; refine (eqW_own V1 V0 W0 _ _ _ H1.out.tail.tail HF1.out H0.out.tail.tail HF0.out HK0.out).mono ?_
 rintro r wr ⟨rfl, hbr⟩
 have LZ : Hid (Below wz.heap.size wz wr) := bl_trans LZ.out hbr
 have KR : Hid (Blk wr kr #[.slice (some ⟨a6, 0, none⟩) A.length A.length, .slice (some ⟨b6, 0, none⟩) B.length B.length, .slice (some ⟨d6, 0, none⟩) C.length C.length] 47) := KR.out.later hbr
 have KW : Hid (Blk wr kw #[.slice (some ⟨m7, 0, none⟩) W.gens.length W.gens.length, .slice (some ⟨n7, 0, none⟩) W.free.length W.free.length, .slice (some ⟨o7, 0, none⟩) W.tabs.length W.tabs.length, .slice (some ⟨p7, 0, none⟩) W.res.length W.res.length] 40) := KW.out.later hbr
 have L7 : Hid (Below w8.heap.size w8 wr) := bl_trans L7.out hbr
 have H1 : Hid (Owns wr w8.heap.size (rB kg 40 [V1.g, V1.f, V1.t, V1.r] :: rB kq 42 [.int .i64 e0.1, .int .i64 e0.2] :: rW V1 W0)) := H1.out.later hbr
 clear hbr x0 x1 x2 x3 x4 y0 y1 y2 y3 y4 H0; have H0 : Hid (Owns wr w2.heap.size (rB kz 40 [V0.g, V0.f, V0.t, V0.r] :: rB ke 42 [.int .i64 e0.1, .int .i64 e0.2] :: rW V0 W0)) := H0z.out.later LZ.out
 obtain ⟨x0, x1, x2⟩ := (show Blk wr kq #[.int .i64 e0.1, .int .i64 e0.2] 42 from rB_blk H1.out.tail.head).two
 obtain ⟨y0, y1, y2⟩ := (show Blk wr ke #[.int .i64 e0.1, .int .i64 e0.2] 42 from rB_blk H0.out.tail.head).two
 go_wp2_with fail; refine (eqEnt_any e0.1 e0.2 e0.1 e0.2 _).mono ?_
 rintro r wr2 ⟨rfl, hbr2⟩
 rw [show (e0.1 == e0.1 && e0.2 == e0.2) = true by simp]
 have LZ : Hid (Below wz.heap.size wz wr2) := bl_trans LZ.out hbr2
 have KR : Hid (Blk wr2 kr #[.slice (some ⟨a6, 0, none⟩) A.length A.length, .slice (some ⟨b6, 0, none⟩) B.length B.length, .slice (some ⟨d6, 0, none⟩) C.length C.length] 47) := KR.out.later hbr2
 have KW : Hid (Blk wr2 kw #[.slice (some ⟨m7, 0, none⟩) W.gens.length W.gens.length, .slice (some ⟨n7, 0, none⟩) W.free.length W.free.length, .slice (some ⟨o7, 0, none⟩) W.tabs.length W.tabs.length, .slice (some ⟨p7, 0, none⟩) W.res.length W.res.length] 40) := KW.out.later hbr2
 have L7 : Hid (Below w8.heap.size w8 wr2) := bl_trans L7.out hbr2
 have H1 : Hid (Owns wr2 w8.heap.size (rB kg 40 [V1.g, V1.f, V1.t, V1.r] :: rB kq 42 [.int .i64 e0.1, .int .i64 e0.2] :: rW V1 W0)) := H1.out.later hbr2
 clear hbr2 x0 x1 x2 y0 y1 y2 H0; go_upto_region 18 with fail
 have K0 : Hid (Blk wr2 (w.heap.size) #[.slice s1 A.length c1, .slice s2 B.length c2, .slice s3 C.length c3] 24) := Z0.out.later LZ.out
 have qr : kr < wr2.heap.size := KR.out.lt
 have q0 : w.heap.size < wr2.heap.size := K0.out.lt
 have hR := Hid.mk' (Rs.nil wr2)
 refine wp_region_held_drew (S := (fun w' => Blk w' kr #[.slice (some ⟨a6, 0, none⟩) A.length A.length, .slice (some ⟨b6, 0, none⟩) B.length B.length, .slice (some ⟨d6, 0, none⟩) C.length C.length] 47 ∧ Blk w' (w.heap.size) #[.slice s1 A.length c1, .slice s2 B.length c2, .slice s3 C.length c3] 24)) (by kernel_rfl) ?_ (fun hHeld => ?_)
 ·
  exact (k2 hR KR K0 qr q0 :)
 have hR := Hid.mk' hR.out.drew
 refine wpq (v := ?_) 0 78 rfl rfl ?_ ?_
 rotate_left 1
 ·
  intro w hSw; (try dsimp only at hSw); obtain ⟨h0, h1⟩ := hSw; obtain ⟨x0, x1, x2, x3⟩ := h0.three'; go_simp <;> with_reducible rfl
 simp only [z1, z2, z3, z4, z5, z6, z7]; refine wpq (v := ?_) 1 79 rfl rfl ?_ ?_
 rotate_left 1
 ·
  intro w hSw; (try dsimp only at hSw); obtain ⟨h0, h1⟩ := hSw; obtain ⟨x0, x1, x2, x3⟩ := h1.three'; go_simp <;> with_reducible rfl
 simp only [z1, z2, z3, z4, z5, z6, z7]; refine wpy 2 fun K hK => ?_
 go_simp; refine (toReg_any s1 s2 s3 c1 c2 c3 A B C _ (HD.out.1.later (bl_trans LAz.out (bl_trans LZ.out hR.out.l))) (HD.out.2.1.later (bl_trans LAz.out (bl_trans LZ.out hR.out.l))) (HD.out.2.2.later (bl_trans LAz.out (bl_trans LZ.out hR.out.l))) lA lB lC).mono ?_
 rintro z g1 ⟨⟨a8, b8, d8, rfl, dA8, dB8, dC8⟩, hb⟩
 have hR : Hid (Rs wr2 wr2.heap.size g1 []) := Hid.mk' (hR.out.later hb)
 clear hb; refine hK.out _ _ ?_ (fun hHeld => ?_)
 ·
  exact (k2 hR KR K0 qr q0 :)
 clear hK K; try simp only [z1, z2, z3, z4, z5, z6, z7]
 refine wpy 3 fun K hK => ?_
 go_simp; refine (eqReg_same _ _ _ _ _ _ _ _ _ _ _ _ A B C _ (D7.out.1.1.later (bl_trans L7.out hR.out.l)) (D7.out.2.1.1.later (bl_trans L7.out hR.out.l)) (D7.out.2.2.1.later (bl_trans L7.out hR.out.l)) dA8 dB8 dC8 lA lB lC).mono ?_
 rintro z g2 ⟨rfl, hb⟩
 clear dA8 dB8 dC8; have hR : Hid (Rs wr2 wr2.heap.size g2 []) := Hid.mk' (hR.out.later hb)
 clear hb; refine hK.out _ _ ?_ (fun hHeld => ?_)
 ·
  exact (k2 hR KR K0 qr q0 :)
 clear hK K; try simp only [z1, z2, z3, z4, z5, z6, z7]
 refine wpr 4 82 ?_; simp only [z1, z2, z3, z4, z5, z6, z7]; refine wpAnyH_done (by kernel_rfl) ?_ _
 have hl := hR.out.l
 obtain ⟨ws, hws⟩ : ∃ ws, ws = g2 := ⟨_, rfl⟩
 rw [← hws] at hl ⊢
 have LZ : Hid (Below wz.heap.size wz ws) := bl_trans LZ.out hl
 have KR : Hid (Blk ws kr #[.slice (some ⟨a6, 0, none⟩) A.length A.length, .slice (some ⟨b6, 0, none⟩) B.length B.length, .slice (some ⟨d6, 0, none⟩) C.length C.length] 47) := KR.out.later hl
 have KW : Hid (Blk ws kw #[.slice (some ⟨m7, 0, none⟩) W.gens.length W.gens.length, .slice (some ⟨n7, 0, none⟩) W.free.length W.free.length, .slice (some ⟨o7, 0, none⟩) W.tabs.length W.tabs.length, .slice (some ⟨p7, 0, none⟩) W.res.length W.res.length] 40) := KW.out.later hl
 have L7 : Hid (Below w8.heap.size w8 ws) := bl_trans L7.out hl
 have H1 : Hid (Owns ws w8.heap.size (rB kg 40 [V1.g, V1.f, V1.t, V1.r] :: rB kq 42 [.int .i64 e0.1, .int .i64 e0.2] :: rW V1 W0)) := H1.out.later hl
 clear hl hws hR hHeld qr q0 K0; go_upto_region 20 with fail
 have K1 : Hid (Blk ws (w.heap.size + 1) #[.slice i1 W.gens.length j1, .slice i2 W.free.length j2, .slice i3 W.tabs.length j3, .slice i4 W.res.length j4] 31) := Z1.out.later LZ.out
 have qw : kw < ws.heap.size := KW.out.lt
 have q1 : w.heap.size + 1 < ws.heap.size := K1.out.lt
 have hR := Hid.mk' (Rs.nil ws)
 refine wp_region_held_drew (S := (fun w' => Blk w' kw #[.slice (some ⟨m7, 0, none⟩) W.gens.length W.gens.length, .slice (some ⟨n7, 0, none⟩) W.free.length W.free.length, .slice (some ⟨o7, 0, none⟩) W.tabs.length W.tabs.length, .slice (some ⟨p7, 0, none⟩) W.res.length W.res.length] 40 ∧ Blk w' (w.heap.size + 1) #[.slice i1 W.gens.length j1, .slice i2 W.free.length j2, .slice i3 W.tabs.length j3, .slice i4 W.res.length j4] 31)) (by kernel_rfl) ?_ (fun hHeld => ?_)
 ·
  exact (k2 hR KW K1 qw q1 :)
 have hR := Hid.mk' hR.out.drew
 refine wpq (v := ?_) 0 83 rfl rfl ?_ ?_
 rotate_left 1
 ·
  intro w hSw; (try dsimp only at hSw); obtain ⟨h0, h1⟩ := hSw; obtain ⟨x0, x1, x2, x3, x4⟩ := h0.four'; go_simp <;> with_reducible rfl
 simp only [z1, z2, z3, z4, z5, z6, z7]; refine wpq (v := ?_) 1 84 rfl rfl ?_ ?_
 rotate_left 1
 ·
  intro w hSw; (try dsimp only at hSw); obtain ⟨h0, h1⟩ := hSw; obtain ⟨x0, x1, x2, x3, x4⟩ := h1.four'; go_simp <;> with_reducible rfl
 simp only [z1, z2, z3, z4, z5, z6, z7]; refine wpy 2 fun K hK => ?_
 go_simp; refine (toWorld_made i1 i2 i3 i4 j1 j2 j3 j4 W 0 _ (HW.out.later (bl_trans LAz.out (bl_trans LZ.out hR.out.l))) HK.out).mono ?_
 rintro z g1 ⟨⟨m9, n9, o9, p9, rfl, hE9⟩, hb⟩
 have hR : Hid (Rs ws ws.heap.size g1 []) := Hid.mk' (hR.out.later hb)
 clear hb; refine hK.out _ _ ?_ (fun hHeld => ?_)
 ·
  exact (k2 hR KW K1 qw q1 :)
 clear hK K; try simp only [z1, z2, z3, z4, z5, z6, z7]
 refine wpy 3 fun K hK => ?_
 go_simp; refine (eqWorld_gen _ _ _ _ _ _ _ _ _ _ _ _ _ _ _ _ W _ _ _ (E7.out.later (bl_trans L7.out hR.out.l)) hE9 HK.out).mono ?_
 rintro z g2 ⟨rfl, hb⟩
 clear hE9; have hR : Hid (Rs ws ws.heap.size g2 []) := Hid.mk' (hR.out.later hb)
 clear hb; refine hK.out _ _ ?_ (fun hHeld => ?_)
 ·
  exact (k2 hR KW K1 qw q1 :)
 clear hK K; try simp only [z1, z2, z3, z4, z5, z6, z7]
 refine wpr 4 87 ?_; simp only [z1, z2, z3, z4, z5, z6, z7]; refine wpAnyH_done (by kernel_rfl) ?_ _
 have hl := hR.out.l
 obtain ⟨wt, hwt⟩ : ∃ wt, wt = g2 := ⟨_, rfl⟩
 rw [← hwt] at hl ⊢
 have LZ : Hid (Below wz.heap.size wz wt) := bl_trans LZ.out hl
 have KR : Hid (Blk wt kr #[.slice (some ⟨a6, 0, none⟩) A.length A.length, .slice (some ⟨b6, 0, none⟩) B.length B.length, .slice (some ⟨d6, 0, none⟩) C.length C.length] 47) := KR.out.later hl
 have KW : Hid (Blk wt kw #[.slice (some ⟨m7, 0, none⟩) W.gens.length W.gens.length, .slice (some ⟨n7, 0, none⟩) W.free.length W.free.length, .slice (some ⟨o7, 0, none⟩) W.tabs.length W.tabs.length, .slice (some ⟨p7, 0, none⟩) W.res.length W.res.length] 40) := KW.out.later hl
 have L7 : Hid (Below w8.heap.size w8 wt) := bl_trans L7.out hl
 have H1 : Hid (Owns wt w8.heap.size (rB kg 40 [V1.g, V1.f, V1.t, V1.r] :: rB kq 42 [.int .i64 e0.1, .int .i64 e0.2] :: rW V1 W0)) := H1.out.later hl
 clear hl hwt hR hHeld qw q1 K1; go_wp2_with fail; refine (toCellS_made sc cc L 0 _ (HC.out.later cCell_keeps (bl_trans LAz.out LZ.out)) lL).mono ?_
 rintro r wt2 ⟨m9, rfl, _, hE9, hb9⟩
 have LZ : Hid (Below wz.heap.size wz wt2) := bl_trans LZ.out hb9
 have KR : Hid (Blk wt2 kr #[.slice (some ⟨a6, 0, none⟩) A.length A.length, .slice (some ⟨b6, 0, none⟩) B.length B.length, .slice (some ⟨d6, 0, none⟩) C.length C.length] 47) := KR.out.later hb9
 have KW : Hid (Blk wt2 kw #[.slice (some ⟨m7, 0, none⟩) W.gens.length W.gens.length, .slice (some ⟨n7, 0, none⟩) W.free.length W.free.length, .slice (some ⟨o7, 0, none⟩) W.tabs.length W.tabs.length, .slice (some ⟨p7, 0, none⟩) W.res.length W.res.length] 40) := KW.out.later hb9
 have L7 : Hid (Below w8.heap.size w8 wt2) := bl_trans L7.out hb9
 have H1 : Hid (Owns wt2 w8.heap.size (rB kg 40 [V1.g, V1.f, V1.t, V1.r] :: rB kq 42 [.int .i64 e0.1, .int .i64 e0.2] :: rW V1 W0)) := H1.out.later hb9
 clear hb9; go_wp2_with fail; refine (eqCellS_gen _ _ _ _ L _ _ _ (C8.out.later cCell_keeps L7.out) hE9 lL).mono ?_
 rintro r wt3 ⟨rfl, hb9⟩
 have LZ : Hid (Below wz.heap.size wz wt3) := bl_trans LZ.out hb9
 have KR : Hid (Blk wt3 kr #[.slice (some ⟨a6, 0, none⟩) A.length A.length, .slice (some ⟨b6, 0, none⟩) B.length B.length, .slice (some ⟨d6, 0, none⟩) C.length C.length] 47) := KR.out.later hb9
 have KW : Hid (Blk wt3 kw #[.slice (some ⟨m7, 0, none⟩) W.gens.length W.gens.length, .slice (some ⟨n7, 0, none⟩) W.free.length W.free.length, .slice (some ⟨o7, 0, none⟩) W.tabs.length W.tabs.length, .slice (some ⟨p7, 0, none⟩) W.res.length W.res.length] 40) := KW.out.later hb9
 have L7 : Hid (Below w8.heap.size w8 wt3) := bl_trans L7.out hb9
 have H1 : Hid (Owns wt3 w8.heap.size (rB kg 40 [V1.g, V1.f, V1.t, V1.r] :: rB kq 42 [.int .i64 e0.1, .int .i64 e0.2] :: rW V1 W0)) := H1.out.later hb9
 clear hb9 hE9; obtain ⟨x0, x1, x2, x3⟩ := KR.out.three'
 go_wp2_with fail; refine (markReg_any a6 b6 d6 A.length B.length C.length _ _ _ _ (D7.out.1.2.later L7.out) (D7.out.2.1.2.later L7.out) (D7.out.2.2.2.later L7.out) lA lB lC nab nad nbd).mono ?_
 rintro r wm ⟨⟨ma1, rfl, ma10, ma11⟩, szm, hbm, hkm⟩
 have hfar : Hid (∀ k, X6.heap.size ≤ k → k < wt3.heap.size → wm.heap[k]? = wt3.heap[k]?) := fun k h1 h2 => hkm k (by have := sz6.out; have := krl.out; omega) (by have := sz6.out; have := krl.out; omega) (by have := sz6.out; have := krl.out; omega) h2
 have LZ : Hid (Below wz.heap.size wz wm) := hbm wz _ szl.out.1 szl.out.2.1 szl.out.2.2 LZ.out
 have H1 : Hid (Owns wm w8.heap.size (rB kg 40 [V1.g, V1.f, V1.t, V1.r] :: rB kq 42 [.int .i64 e0.1, .int .i64 e0.2] :: rW V1 W0)) := H1.out.kept ⟨szm, fun k h1 h2 => hfar.out k (Nat.le_trans h67.out.2.1 h1) h2⟩
 have KW : Hid (Blk wm kw #[.slice (some ⟨m7, 0, none⟩) W.gens.length W.gens.length, .slice (some ⟨n7, 0, none⟩) W.free.length W.free.length, .slice (some ⟨o7, 0, none⟩) W.tabs.length W.tabs.length, .slice (some ⟨p7, 0, none⟩) W.res.length W.res.length] 40) := KW.out.same' (hfar.out kw h67.out.1 KW.out.lt)
 have hK7 : Kept X6.heap.size w8 wm := by
  have h2 := L7.out.size
  refine ⟨by omega, fun k h3 h4 => ?_⟩
  rw [hfar.out k h3 (by omega), L7.out.block k h4]
 have hMr := Mr.start2 hK7
 have hl6 : X6.heap.size ≤ wm.heap.size := by have h1 := L7.out.size; have h2 := h67.out.2.1; omega
 have hp6 : 0 < X6.heap.size := by have := krl.out; omega
 clear x0 x1 x2 x3 hbm hkm hK7 KR; obtain ⟨x0, x1, x2, x3, x4⟩ := KW.out.four'
 go_wp2_with fail; refine (markW_w X6.heap.size w8 wm (some ⟨m7, 0, none⟩) (some ⟨n7, 0, none⟩) (some ⟨o7, 0, none⟩) (some ⟨p7, 0, none⟩) W.gens.length W.free.length W.tabs.length W.res.length W ma1 _ E7.out HK.out hp6 hl6 hMr ma10 (by omega)).mono ?_
 rintro r wn1 ⟨⟨ma2, rfl, ma20, ma21⟩, hM1⟩
 clear x0 x1 x2 x3 x4 KW; go_wp2_with fail; refine (markCell_w X6.heap.size w8 wm (some ⟨m8, 0, none⟩) L.length L ma2 _ (C8.out.drop cCell_drops h67.out.2.2.2) hp6 hM1 lL (by omega) (by omega)).mono ?_
 rintro r wn ⟨rfl, hM2⟩
 have LZ : Hid (Below wz.heap.size wz wn) := LZ.out.trans (hM2.be.mono szx.out)
 have hsn : wm.heap.size ≤ wn.heap.size := hM2.be.size
 have H1 : Hid (Owns wn w8.heap.size (rB kg 40 [V1.g, V1.f, V1.t, V1.r] :: rB kq 42 [.int .i64 e0.1, .int .i64 e0.2] :: rW V1 W0)) := H1.out.kept ⟨hsn, fun k h1 h2 => hM2.out k h1 h2⟩
 obtain ⟨ma3, hma3⟩ : ∃ ma3, ma2 + 5 * (L.length : Int) = ma3 := ⟨_, rfl⟩
 rw [hma3]
 have ma3d : decide (ma3 < 0) = false := by simp; omega
 clear hM1 hM2 hMr hfar szm hsn hl6 hp6 L7 hma3; have H0 : Hid (Owns wn w2.heap.size (rB kz 40 [V0.g, V0.f, V0.t, V0.r] :: rB ke 42 [.int .i64 e0.1, .int .i64 e0.2] :: rW V0 W0)) := H0z.out.later LZ.out
 obtain ⟨x0, x1, x2, x3, x4⟩ := (show Blk wn kg #[V1.g, V1.f, V1.t, V1.r] 40 from rB_blk H1.out.head).four'
 obtain ⟨y0, y1, y2, y3, y4⟩ := (show Blk wn kz #[V0.g, V0.f, V0.t, V0.r] 40 from rB_blk H0.out.head).four'
 go_wp2_with fail; refine (eqW_own V1 V0 W0 _ _ _ H1.out.tail.tail HF1.out H0.out.tail.tail HF0.out HK0.out).mono ?_
 rintro r wo1 ⟨rfl, hbo⟩
 have LZ : Hid (Below wz.heap.size wz wo1) := bl_trans LZ.out hbo
 have H1 : Hid (Owns wo1 w8.heap.size (rB kg 40 [V1.g, V1.f, V1.t, V1.r] :: rB kq 42 [.int .i64 e0.1, .int .i64 e0.2] :: rW V1 W0)) := H1.out.later hbo
 clear hbo x0 x1 x2 x3 x4 y0 y1 y2 y3 y4 H0; have H0 : Hid (Owns wo1 w2.heap.size (rB kz 40 [V0.g, V0.f, V0.t, V0.r] :: rB ke 42 [.int .i64 e0.1, .int .i64 e0.2] :: rW V0 W0)) := H0z.out.later LZ.out
 obtain ⟨x0, x1, x2⟩ := (show Blk wo1 kq #[.int .i64 e0.1, .int .i64 e0.2] 42 from rB_blk H1.out.tail.head).two
 obtain ⟨y0, y1, y2⟩ := (show Blk wo1 ke #[.int .i64 e0.1, .int .i64 e0.2] 42 from rB_blk H0.out.tail.head).two
 go_wp2_with fail; refine (eqEnt_any e0.1 e0.2 e0.1 e0.2 _).mono ?_
 rintro r wo ⟨rfl, hbo⟩
 rw [show (e0.1 == e0.1 && e0.2 == e0.2) = true by simp]
 have LZ : Hid (Below wz.heap.size wz wo) := bl_trans LZ.out hbo
 have H1 : Hid (Owns wo w8.heap.size (rB kg 40 [V1.g, V1.f, V1.t, V1.r] :: rB kq 42 [.int .i64 e0.1, .int .i64 e0.2] :: rW V1 W0)) := H1.out.later hbo
 clear hbo x0 x1 x2 y0 y1 y2 H0; obtain ⟨x0, x1, x2, x3, x4⟩ := (show Blk wo kg #[V1.g, V1.f, V1.t, V1.r] 40 from rB_blk H1.out.head).four'
 have h7o : Hid (w8.heap.size ≤ wo.heap.size) := by have h1 := (H1.out.head.lt kg rfl); show _ ≤ _; omega
 go_wp2_with fail; refine (markW_r wo w8.heap.size [rB kg 40 [V1.g, V1.f, V1.t, V1.r], rB kq 42 [.int .i64 e0.1, .int .i64 e0.2]] V1 W0 _ (Rs.start H1.out h7o.out) HF1.out HK0.out).mono ?_
 rintro r wp ⟨rfl, hRp, hFp⟩
 have szx7 : Hid (wz.heap.size ≤ w8.heap.size) := Nat.le_trans szx.out h67.out.2.1
 have LZ : Hid (Below wz.heap.size wz wp) := LZ.out.trans (hRp.l.mono szx7.out)
 have H1 : Hid (Owns wp w8.heap.size (rB kg 40 [V1.g, V1.f, V1.t, V1.r] :: rB kq 42 [.int .i64 e0.1, .int .i64 e0.2] :: rW V1 (wW 1 W0))) := hRp.o
 have HFp := Hid.mk' hFp
 have hcn : 0 ≤ cW W0 := by have := cTs_nn W0.tabs; unfold cW; omega
 have hc9 : ¬ (1 + cW W0 < 0) := by omega
 have hc8 : ((1 + cW W0) != (1 + cW W0)) = false := by simp
 clear hRp hFp x0 x1 x2 x3 x4; obtain ⟨x0, x1, x2, x3, x4⟩ := (show Blk wp kg #[V1.g, V1.f, V1.t, V1.r] 40 from rB_blk H1.out.head).four'
 go_wp2_with fail; refine (heldW_o w8.heap.size V1 W0 _ (HFp.out.ow H1.out.tail.tail) HK0.out).mono ?_
 rintro r w31 ⟨rfl, hb31⟩
 have LZ : Hid (Below wz.heap.size wz w31) := bl_trans LZ.out hb31
 have H1 : Hid (Owns w31 w8.heap.size (rB kg 40 [V1.g, V1.f, V1.t, V1.r] :: rB kq 42 [.int .i64 e0.1, .int .i64 e0.2] :: rW V1 (wW 1 W0))) := H1.out.later hb31
 clear hb31 x0 x1 x2 x3 x4; go_upto_region 38 with fail
 have K0 : Hid (Blk w31 (w.heap.size) #[.slice s1 A.length c1, .slice s2 B.length c2, .slice s3 C.length c3] 24) := Z0.out.later LZ.out
 have K1 : Hid (Blk w31 (w.heap.size + 1) #[.slice i1 W.gens.length j1, .slice i2 W.free.length j2, .slice i3 W.tabs.length j3, .slice i4 W.res.length j4] 31) := Z1.out.later LZ.out
 have LX : Hid (Below w.heap.size w w31) := (bl_trans LAz.out LZ.out)
 have bX : w.heap.size ≤ w31.heap.size := LX.out.size
 have q0 : w.heap.size < w31.heap.size := K0.out.lt
 have q1 : w.heap.size + 1 < w31.heap.size := K1.out.lt
 have hR := Hid.mk' (Rs.nil w31)
 go_cut [20, 21, 22] (fun p0 p1 p2 wx => ∃ (kh kf : Nat) (V2 : WV) (W2 : Wd) (e2 : E2) (c2x : Int), p0 = .pointer (some ⟨kh, 0, none⟩) ∧ p1 = .pointer (some ⟨kf, 0, none⟩) ∧ p2 = .int .i64 c2x ∧ OWf V2 W2 ∧ SpawnR A B C W L W2 e2 c2x ∧ Rs w31 w31.heap.size wx (rB kh 40 [V2.g, V2.f, V2.t, V2.r] :: rB kf 42 [.int .i64 e2.1, .int .i64 e2.2] :: rW V2 W2))
 case first =>
  refine wp_region_held_drew (S := (fun w' => Blk w' (w.heap.size) #[.slice s1 A.length c1, .slice s2 B.length c2, .slice s3 C.length c3] 24 ∧ Blk w' (w.heap.size + 1) #[.slice i1 W.gens.length j1, .slice i2 W.free.length j2, .slice i3 W.tabs.length j3, .slice i4 W.res.length j4] 31)) (by kernel_rfl) ?_ (fun hHeld => ?_)
  ·
   exact (k2 hR K0 K1 q0 q1 :)
  have hR := Hid.mk' hR.out.drew
  refine wpq (v := ?_) 0 133 rfl rfl ?_ ?_
  rotate_left 1
  ·
   intro w hSw; (try dsimp only at hSw); obtain ⟨h0, h1⟩ := hSw; obtain ⟨x0, x1, x2, x3⟩ := h0.three'; go_simp <;> with_reducible rfl
  simp only [z1, z2, z3, z4, z5, z6, z7]; refine wpq (v := ?_) 2 135 rfl rfl ?_ ?_
  rotate_left 1
  ·
   intro w hSw; (try dsimp only at hSw); obtain ⟨h0, h1⟩ := hSw; obtain ⟨x0, x1, x2, x3, x4⟩ := h1.four'; go_simp <;> with_reducible rfl
  simp only [z1, z2, z3, z4, z5, z6, z7]; refine wpr 4 137 ?_; simp only [z1, z2, z3, z4, z5, z6, z7]; refine dag_start fun Gd a0 hG ha => ?_
  have st0 : ∀ (a3 b3 d3 m4 n4 o4 p4 m5 : Nat) (V2 : WV) (W2 : Wd) (e2 : E2) (c2x : Int) (kh kf : Nat) (g0 : World), Hid (OWf V2 W2) → Hid (SpawnR A B C W L W2 e2 c2x) → Hid (Rs w31 w31.heap.size g0 ([rB kh 40 [V2.g, V2.f, V2.t, V2.r], rB kf 42 [.int .i64 e2.1, .int .i64 e2.2]] ++ (rW V2 W2))) → (fun w' => Blk w' (w.heap.size) #[.slice s1 A.length c1, .slice s2 B.length c2, .slice s3 C.length c3] 24 ∧ Blk w' (w.heap.size + 1) #[.slice i1 W.gens.length j1, .slice i2 W.free.length j2, .slice i3 W.tabs.length j3, .slice i4 W.res.length j4] 31) g0 → Gd 0 #[true, true, true, true, true, true, true, true, true, true, true, true, true, true, true, true] (((((((((((a0.put (some 134) (.agg #[.slice (some ⟨a3, 0, none⟩) A.length A.length, .slice (some ⟨b3, 0, none⟩) B.length B.length, .slice (some ⟨d3, 0, none⟩) C.length C.length])).put (some 136) (.agg #[.slice (some ⟨m4, 0, none⟩) W.gens.length W.gens.length, .slice (some ⟨n4, 0, none⟩) W.free.length W.free.length, .slice (some ⟨o4, 0, none⟩) W.tabs.length W.tabs.length, .slice (some ⟨p4, 0, none⟩) W.res.length W.res.length])).put (some 138) (.slice (some ⟨m5, 0, none⟩) L.length L.length)).put (some 139) (.tuple #[.agg #[V2.g, V2.f, V2.t, V2.r], .agg #[.int .i64 e2.1, .int .i64 e2.2], .int .i64 c2x])).put (some 132) (.tuple #[.agg #[V2.g, V2.f, V2.t, V2.r], .agg #[.int .i64 e2.1, .int .i64 e2.2], .int .i64 c2x])).put (some 140) (.agg #[V2.g, V2.f, V2.t, V2.r])).put (some 141) (.agg #[.int .i64 e2.1, .int .i64 e2.2])).put (some 142) (.int .i64 c2x)).put (some 20) (.pointer (some ⟨kh, 0, none⟩))).put (some 21) (.pointer (some ⟨kf, 0, none⟩))).put (some 22) (.int .i64 c2x)) g0 := by
   intro a3 b3 d3 m4 n4 o4 p4 m5 V2 W2 e2 c2x kh kf g0 HF0 HSR hR hHeld
   rw [hG, ha]
   simp only [z1, z2, z3, z4, z5, z6, z7]; refine wpAnyH_done (by kernel_rfl) ?_ _
   clear hHeld; go_wp2_with fail; go_meet; exact ⟨kh, kf, V2, W2, e2, c2x, rfl, rfl, rfl, HF0.out, HSR.out, hR.out⟩
  have st1 : ∀ (a3 b3 d3 m4 n4 o4 p4 m5 : Nat) (V2 : WV) (W2 : Wd) (e2 : E2) (c2x : Int) (kh kf : Nat) (g0 : World), Hid (OWf V2 W2) → Hid (SpawnR A B C W L W2 e2 c2x) → Hid (Rs w31 w31.heap.size g0 ([rB kh 40 [V2.g, V2.f, V2.t, V2.r], rB kf 42 [.int .i64 0, .int .i64 0]] ++ (rW V2 W2))) → (fun w' => Blk w' (w.heap.size) #[.slice s1 A.length c1, .slice s2 B.length c2, .slice s3 C.length c3] 24 ∧ Blk w' (w.heap.size + 1) #[.slice i1 W.gens.length j1, .slice i2 W.free.length j2, .slice i3 W.tabs.length j3, .slice i4 W.res.length j4] 31) g0 → Gd 2 #[true, true, true, true, true, true, true, true, true, true, true, true, true, true, false, false] ((((((((((a0.put (some 134) (.agg #[.slice (some ⟨a3, 0, none⟩) A.length A.length, .slice (some ⟨b3, 0, none⟩) B.length B.length, .slice (some ⟨d3, 0, none⟩) C.length C.length])).put (some 136) (.agg #[.slice (some ⟨m4, 0, none⟩) W.gens.length W.gens.length, .slice (some ⟨n4, 0, none⟩) W.free.length W.free.length, .slice (some ⟨o4, 0, none⟩) W.tabs.length W.tabs.length, .slice (some ⟨p4, 0, none⟩) W.res.length W.res.length])).put (some 138) (.slice (some ⟨m5, 0, none⟩) L.length L.length)).put (some 139) (.tuple #[.agg #[V2.g, V2.f, V2.t, V2.r], .agg #[.int .i64 e2.1, .int .i64 e2.2], .int .i64 c2x])).put (some 132) (.tuple #[.agg #[V2.g, V2.f, V2.t, V2.r], .agg #[.int .i64 e2.1, .int .i64 e2.2], .int .i64 c2x])).put (some 140) (.agg #[V2.g, V2.f, V2.t, V2.r])).put (some 141) (.agg #[.int .i64 e2.1, .int .i64 e2.2])).put (some 142) (.int .i64 c2x)).put (some 20) (.pointer (some ⟨kh, 0, none⟩))).put (some 21) (.pointer (some ⟨kf, 0, none⟩))) g0 := by
   intro a3 b3 d3 m4 n4 o4 p4 m5 V2 W2 e2 c2x kh kf g0 HF0 HSR hR hHeld
   rw [hG, ha]
   simp only [z1, z2, z3, z4, z5, z6, z7]; refine wpy 14 fun K hK => ?_
   refine step_put [rB kh 40 [V2.g, V2.f, V2.t, V2.r]] (rW V2 W2) hR.out rfl (d0 := none) rfl (.tmp 21) (.tmp 141) rfl [.int .i64 e2.1, .int .i64 e2.2] rfl rfl (by rw [hiE]; simp [hsE]) rfl (by intro u hu; simp only [List.mem_cons, List.not_mem_nil, or_false] at hu; rcases hu with rfl | rfl <;> rfl) ?_
   intro g1 hR'
   have hR : Hid (Rs w31 w31.heap.size g1 ([rB kh 40 [V2.g, V2.f, V2.t, V2.r], rB kf 42 [.int .i64 e2.1, .int .i64 e2.2]] ++ (rW V2 W2))) := hR'
   clear hR'; refine hK.out _ _ ?_ (fun hHeld => ?_)
   ·
    exact (k2 hR K0 K1 q0 q1 :)
   clear hK K; try simp only [z1, z2, z3, z4, z5, z6, z7]
   refine wpr 15 22 ?_; simp only [z1, z2, z3, z4, z5, z6, z7]; exact dag_to hG (st0 a3 b3 d3 m4 n4 o4 p4 m5 V2 W2 e2 c2x kh kf _ HF0 HSR hR hHeld) rfl (by kernel_rfl) (by rw [ha] <;> simp only [z1, z2, z3, z4, z5, z6, z7])
  have st2 : ∀ (a3 b3 d3 m4 n4 o4 p4 m5 : Nat) (V2 : WV) (W2 : Wd) (e2 : E2) (c2x : Int) (kh kf : Nat) (g0 : World), Hid (OWf V2 W2) → Hid (SpawnR A B C W L W2 e2 c2x) → Hid (Rs w31 w31.heap.size g0 ([rB kh 40 [.slice none 0 0, .slice none 0 0, .slice none 0 0, .slice none 0 0], rB kf 42 [.int .i64 0, .int .i64 0]] ++ (rW V2 W2))) → (fun w' => Blk w' (w.heap.size) #[.slice s1 A.length c1, .slice s2 B.length c2, .slice s3 C.length c3] 24 ∧ Blk w' (w.heap.size + 1) #[.slice i1 W.gens.length j1, .slice i2 W.free.length j2, .slice i3 W.tabs.length j3, .slice i4 W.res.length j4] 31) g0 → Gd 3 #[true, true, true, true, true, true, true, true, true, true, true, true, true, false, false, false] ((((((((((a0.put (some 134) (.agg #[.slice (some ⟨a3, 0, none⟩) A.length A.length, .slice (some ⟨b3, 0, none⟩) B.length B.length, .slice (some ⟨d3, 0, none⟩) C.length C.length])).put (some 136) (.agg #[.slice (some ⟨m4, 0, none⟩) W.gens.length W.gens.length, .slice (some ⟨n4, 0, none⟩) W.free.length W.free.length, .slice (some ⟨o4, 0, none⟩) W.tabs.length W.tabs.length, .slice (some ⟨p4, 0, none⟩) W.res.length W.res.length])).put (some 138) (.slice (some ⟨m5, 0, none⟩) L.length L.length)).put (some 139) (.tuple #[.agg #[V2.g, V2.f, V2.t, V2.r], .agg #[.int .i64 e2.1, .int .i64 e2.2], .int .i64 c2x])).put (some 132) (.tuple #[.agg #[V2.g, V2.f, V2.t, V2.r], .agg #[.int .i64 e2.1, .int .i64 e2.2], .int .i64 c2x])).put (some 140) (.agg #[V2.g, V2.f, V2.t, V2.r])).put (some 141) (.agg #[.int .i64 e2.1, .int .i64 e2.2])).put (some 142) (.int .i64 c2x)).put (some 20) (.pointer (some ⟨kh, 0, none⟩))).put (some 21) (.pointer (some ⟨kf, 0, none⟩))) g0 := by
   intro a3 b3 d3 m4 n4 o4 p4 m5 V2 W2 e2 c2x kh kf g0 HF0 HSR hR hHeld
   rw [hG, ha]
   simp only [z1, z2, z3, z4, z5, z6, z7]; refine wpy 13 fun K hK => ?_
   refine step_put [] ([rB kf 42 [.int .i64 0, .int .i64 0]] ++ (rW V2 W2)) hR.out rfl (d0 := none) rfl (.tmp 20) (.tmp 140) rfl [V2.g, V2.f, V2.t, V2.r] rfl rfl (by rw [hiW]; simp [hsW]) rfl (one_W (V := V2) (W := W2) hR.out.o.on (fun r hr => List.mem_append_right _ hr)) ?_
   intro g2 hR'
   have hR : Hid (Rs w31 w31.heap.size g2 ([rB kh 40 [V2.g, V2.f, V2.t, V2.r], rB kf 42 [.int .i64 0, .int .i64 0]] ++ (rW V2 W2))) := hR'
   clear hR'; refine hK.out _ _ ?_ (fun hHeld => ?_)
   ·
    exact (k2 hR K0 K1 q0 q1 :)
   clear hK K; exact dag_to hG (st1 a3 b3 d3 m4 n4 o4 p4 m5 V2 W2 e2 c2x kh kf _ HF0 HSR hR hHeld) rfl (by kernel_rfl) (by rw [ha] <;> simp only [z1, z2, z3, z4, z5, z6, z7])
  have st3 : ∀ (a3 b3 d3 m4 n4 o4 p4 m5 : Nat) (V2 : WV) (W2 : Wd) (e2 : E2) (c2x : Int) (kh : Nat) (g0 : World), Hid (OWf V2 W2) → Hid (SpawnR A B C W L W2 e2 c2x) → Hid (Rs w31 w31.heap.size g0 ([rB kh 40 [.slice none 0 0, .slice none 0 0, .slice none 0 0, .slice none 0 0]] ++ (rW V2 W2))) → (fun w' => Blk w' (w.heap.size) #[.slice s1 A.length c1, .slice s2 B.length c2, .slice s3 C.length c3] 24 ∧ Blk w' (w.heap.size + 1) #[.slice i1 W.gens.length j1, .slice i2 W.free.length j2, .slice i3 W.tabs.length j3, .slice i4 W.res.length j4] 31) g0 → Gd 4 #[true, true, true, true, true, true, true, true, true, true, true, true, false, false, false, false] (((((((((a0.put (some 134) (.agg #[.slice (some ⟨a3, 0, none⟩) A.length A.length, .slice (some ⟨b3, 0, none⟩) B.length B.length, .slice (some ⟨d3, 0, none⟩) C.length C.length])).put (some 136) (.agg #[.slice (some ⟨m4, 0, none⟩) W.gens.length W.gens.length, .slice (some ⟨n4, 0, none⟩) W.free.length W.free.length, .slice (some ⟨o4, 0, none⟩) W.tabs.length W.tabs.length, .slice (some ⟨p4, 0, none⟩) W.res.length W.res.length])).put (some 138) (.slice (some ⟨m5, 0, none⟩) L.length L.length)).put (some 139) (.tuple #[.agg #[V2.g, V2.f, V2.t, V2.r], .agg #[.int .i64 e2.1, .int .i64 e2.2], .int .i64 c2x])).put (some 132) (.tuple #[.agg #[V2.g, V2.f, V2.t, V2.r], .agg #[.int .i64 e2.1, .int .i64 e2.2], .int .i64 c2x])).put (some 140) (.agg #[V2.g, V2.f, V2.t, V2.r])).put (some 141) (.agg #[.int .i64 e2.1, .int .i64 e2.2])).put (some 142) (.int .i64 c2x)).put (some 20) (.pointer (some ⟨kh, 0, none⟩))) g0 := by
   intro a3 b3 d3 m4 n4 o4 p4 m5 V2 W2 e2 c2x kh g0 HF0 HSR hR hHeld
   rw [hG, ha]
   simp only [z1, z2, z3, z4, z5, z6, z7]; refine wpy 12 fun K hK => ?_
   refine step_boxB [rB kh 40 [.slice none 0 0, .slice none 0 0, .slice none 0 0, .slice none 0 0]] (rW V2 W2) hR.out rfl (d0 := (some 21)) rfl 42 hiE hzE rfl ?_
   intro kf g3 hb hR'
   have hR : Hid (Rs w31 w31.heap.size g3 ([rB kh 40 [.slice none 0 0, .slice none 0 0, .slice none 0 0, .slice none 0 0], rB kf 42 [.int .i64 0, .int .i64 0]] ++ (rW V2 W2))) := hR'
   clear hR' hb; refine hK.out _ _ ?_ (fun hHeld => ?_)
   ·
    exact (k2 hR K0 K1 q0 q1 :)
   clear hK K; exact dag_to hG (st2 a3 b3 d3 m4 n4 o4 p4 m5 V2 W2 e2 c2x kh kf _ HF0 HSR hR hHeld) rfl (by kernel_rfl) (by rw [ha] <;> simp only [z1, z2, z3, z4, z5, z6, z7])
  have st4 : ∀ (a3 b3 d3 m4 n4 o4 p4 m5 : Nat) (V2 : WV) (W2 : Wd) (e2 : E2) (c2x : Int) (kf : Nat) (g0 : World), Hid (OWf V2 W2) → Hid (SpawnR A B C W L W2 e2 c2x) → Hid (Rs w31 w31.heap.size g0 ([rB kf 42 [.int .i64 0, .int .i64 0]] ++ (rW V2 W2))) → (fun w' => Blk w' (w.heap.size) #[.slice s1 A.length c1, .slice s2 B.length c2, .slice s3 C.length c3] 24 ∧ Blk w' (w.heap.size + 1) #[.slice i1 W.gens.length j1, .slice i2 W.free.length j2, .slice i3 W.tabs.length j3, .slice i4 W.res.length j4] 31) g0 → Gd 4 #[true, true, true, true, true, true, true, true, true, true, true, false, true, false, false, false] (((((((((a0.put (some 134) (.agg #[.slice (some ⟨a3, 0, none⟩) A.length A.length, .slice (some ⟨b3, 0, none⟩) B.length B.length, .slice (some ⟨d3, 0, none⟩) C.length C.length])).put (some 136) (.agg #[.slice (some ⟨m4, 0, none⟩) W.gens.length W.gens.length, .slice (some ⟨n4, 0, none⟩) W.free.length W.free.length, .slice (some ⟨o4, 0, none⟩) W.tabs.length W.tabs.length, .slice (some ⟨p4, 0, none⟩) W.res.length W.res.length])).put (some 138) (.slice (some ⟨m5, 0, none⟩) L.length L.length)).put (some 139) (.tuple #[.agg #[V2.g, V2.f, V2.t, V2.r], .agg #[.int .i64 e2.1, .int .i64 e2.2], .int .i64 c2x])).put (some 132) (.tuple #[.agg #[V2.g, V2.f, V2.t, V2.r], .agg #[.int .i64 e2.1, .int .i64 e2.2], .int .i64 c2x])).put (some 140) (.agg #[V2.g, V2.f, V2.t, V2.r])).put (some 141) (.agg #[.int .i64 e2.1, .int .i64 e2.2])).put (some 142) (.int .i64 c2x)).put (some 21) (.pointer (some ⟨kf, 0, none⟩))) g0 := by
   intro a3 b3 d3 m4 n4 o4 p4 m5 V2 W2 e2 c2x kf g0 HF0 HSR hR hHeld
   rw [hG, ha]
   simp only [z1, z2, z3, z4, z5, z6, z7]; refine wpy 11 fun K hK => ?_
   refine step_boxB [] ([rB kf 42 [.int .i64 0, .int .i64 0]] ++ (rW V2 W2)) hR.out rfl (d0 := (some 20)) rfl 40 hiW hzW rfl ?_
   intro kh g4 hb hR'
   have hR : Hid (Rs w31 w31.heap.size g4 ([rB kh 40 [.slice none 0 0, .slice none 0 0, .slice none 0 0, .slice none 0 0], rB kf 42 [.int .i64 0, .int .i64 0]] ++ (rW V2 W2))) := hR'
   clear hR' hb; refine hK.out _ _ ?_ (fun hHeld => ?_)
   ·
    exact (k2 hR K0 K1 q0 q1 :)
   clear hK K; exact dag_to hG (st2 a3 b3 d3 m4 n4 o4 p4 m5 V2 W2 e2 c2x kh kf _ HF0 HSR hR hHeld) rfl (by kernel_rfl) (by rw [ha] <;> simp only [z1, z2, z3, z4, z5, z6, z7])
  have st5 : ∀ (a3 b3 d3 m4 n4 o4 p4 m5 : Nat) (V2 : WV) (W2 : Wd) (e2 : E2) (c2x : Int) (g0 : World), Hid (OWf V2 W2) → Hid (SpawnR A B C W L W2 e2 c2x) → Hid (Rs w31 w31.heap.size g0 (rW V2 W2)) → (fun w' => Blk w' (w.heap.size) #[.slice s1 A.length c1, .slice s2 B.length c2, .slice s3 C.length c3] 24 ∧ Blk w' (w.heap.size + 1) #[.slice i1 W.gens.length j1, .slice i2 W.free.length j2, .slice i3 W.tabs.length j3, .slice i4 W.res.length j4] 31) g0 → Gd 5 #[true, true, true, true, true, true, true, true, true, true, true, false, false, false, false, false] ((((((((a0.put (some 134) (.agg #[.slice (some ⟨a3, 0, none⟩) A.length A.length, .slice (some ⟨b3, 0, none⟩) B.length B.length, .slice (some ⟨d3, 0, none⟩) C.length C.length])).put (some 136) (.agg #[.slice (some ⟨m4, 0, none⟩) W.gens.length W.gens.length, .slice (some ⟨n4, 0, none⟩) W.free.length W.free.length, .slice (some ⟨o4, 0, none⟩) W.tabs.length W.tabs.length, .slice (some ⟨p4, 0, none⟩) W.res.length W.res.length])).put (some 138) (.slice (some ⟨m5, 0, none⟩) L.length L.length)).put (some 139) (.tuple #[.agg #[V2.g, V2.f, V2.t, V2.r], .agg #[.int .i64 e2.1, .int .i64 e2.2], .int .i64 c2x])).put (some 132) (.tuple #[.agg #[V2.g, V2.f, V2.t, V2.r], .agg #[.int .i64 e2.1, .int .i64 e2.2], .int .i64 c2x])).put (some 140) (.agg #[V2.g, V2.f, V2.t, V2.r])).put (some 141) (.agg #[.int .i64 e2.1, .int .i64 e2.2])).put (some 142) (.int .i64 c2x)) g0 := by
   intro a3 b3 d3 m4 n4 o4 p4 m5 V2 W2 e2 c2x g0 HF0 HSR hR hHeld
   rw [hG, ha]
   simp only [z1, z2, z3, z4, z5, z6, z7]; refine wpAnyH_ready (rs := [11, 12]) (by kernel_rfl) (by simp) ?_
   refine AllReadyH.cons rfl (fun K hK => ?_) ?_
   ·
    skip
    refine step_boxB [] (rW V2 W2) hR.out rfl (d0 := (some 20)) rfl 40 hiW hzW rfl ?_
    intro kh g5 hb hR'
    have hR : Hid (Rs w31 w31.heap.size g5 ([rB kh 40 [.slice none 0 0, .slice none 0 0, .slice none 0 0, .slice none 0 0]] ++ (rW V2 W2))) := hR'
    clear hR' hb; refine hK.out _ _ ?_ (fun hHeld => ?_)
    ·
     exact (k2 hR K0 K1 q0 q1 :)
    clear hK K; exact dag_to hG (st3 a3 b3 d3 m4 n4 o4 p4 m5 V2 W2 e2 c2x kh _ HF0 HSR hR hHeld) rfl (by kernel_rfl) (by rw [ha] <;> simp only [z1, z2, z3, z4, z5, z6, z7])
   refine AllReadyH.cons rfl (fun K hK => ?_) AllReadyH.nil
   refine step_boxB [] (rW V2 W2) hR.out rfl (d0 := (some 21)) rfl 42 hiE hzE rfl ?_
   intro kf g6 hb hR'
   have hR : Hid (Rs w31 w31.heap.size g6 ([rB kf 42 [.int .i64 0, .int .i64 0]] ++ (rW V2 W2))) := hR'
   clear hR' hb; refine hK.out _ _ ?_ (fun hHeld => ?_)
   ·
    exact (k2 hR K0 K1 q0 q1 :)
   clear hK K; exact dag_to hG (st4 a3 b3 d3 m4 n4 o4 p4 m5 V2 W2 e2 c2x kf _ HF0 HSR hR hHeld) rfl (by kernel_rfl) (by rw [ha] <;> simp only [z1, z2, z3, z4, z5, z6, z7])
  have st6 : ∀ (a3 b3 d3 m4 n4 o4 p4 m5 kh kf : Nat) (g0 : World), Hid (D3p g0 a3 b3 d3 A B C) → Hid (E4p g0 m4 n4 o4 p4 W) → Hid (C5p g0 m5 L) → Hid (Rs w31 w31.heap.size g0 [rB kh 40 [.slice none 0 0, .slice none 0 0, .slice none 0 0, .slice none 0 0], rB kf 42 [.int .i64 0, .int .i64 0]]) → (fun w' => Blk w' (w.heap.size) #[.slice s1 A.length c1, .slice s2 B.length c2, .slice s3 C.length c3] 24 ∧ Blk w' (w.heap.size + 1) #[.slice i1 W.gens.length j1, .slice i2 W.free.length j2, .slice i3 W.tabs.length j3, .slice i4 W.res.length j4] 31) g0 → Gd 8 #[true, true, true, true, true, true, false, false, false, false, false, true, true, false, false, false] (((((a0.put (some 134) (.agg #[.slice (some ⟨a3, 0, none⟩) A.length A.length, .slice (some ⟨b3, 0, none⟩) B.length B.length, .slice (some ⟨d3, 0, none⟩) C.length C.length])).put (some 136) (.agg #[.slice (some ⟨m4, 0, none⟩) W.gens.length W.gens.length, .slice (some ⟨n4, 0, none⟩) W.free.length W.free.length, .slice (some ⟨o4, 0, none⟩) W.tabs.length W.tabs.length, .slice (some ⟨p4, 0, none⟩) W.res.length W.res.length])).put (some 138) (.slice (some ⟨m5, 0, none⟩) L.length L.length)).put (some 20) (.pointer (some ⟨kh, 0, none⟩))).put (some 21) (.pointer (some ⟨kf, 0, none⟩))) g0 := by
   intro a3 b3 d3 m4 n4 o4 p4 m5 kh kf g0 D3 E4 C5x hR hHeld
   rw [hG, ha]
   simp only [z1, z2, z3, z4, z5, z6, z7]; refine wpy 6 fun K hK => ?_
   go_simp; refine (implSpawn_any (some ⟨a3, 0, none⟩) (some ⟨b3, 0, none⟩) (some ⟨d3, 0, none⟩) A.length B.length C.length A B C (some ⟨m4, 0, none⟩) (some ⟨n4, 0, none⟩) (some ⟨o4, 0, none⟩) (some ⟨p4, 0, none⟩) W.gens.length W.free.length W.tabs.length W.res.length W (some ⟨m5, 0, none⟩) L.length L m5 _ D3.out.1 D3.out.2.1 D3.out.2.2 NMH.out lA lB lC E4.out HK.out (Nat.le_refl _) BR.out C5x.out lL (Nat.le_refl _)).mono ?_
   rintro z g7 ⟨V2, W2, e2, c2x, rfl, hOW, hSR, hb⟩
   have hO := hOW.own
   have HF0 : Hid (OWf V2 W2) := hOW.f
   have HSR : Hid (SpawnR A B C W L W2 e2 c2x) := hSR
   clear hOW hSR; have hR : Hid (Rs w31 w31.heap.size g7 ([rB kh 40 [.slice none 0 0, .slice none 0 0, .slice none 0 0, .slice none 0 0], rB kf 42 [.int .i64 0, .int .i64 0]] ++ (rW V2 W2))) := Hid.mk' (hR.out.insE [rB kh 40 [.slice none 0 0, .slice none 0 0, .slice none 0 0, .slice none 0 0], rB kf 42 [.int .i64 0, .int .i64 0]] (rW V2 W2) hb hO)
   clear hb hO; refine hK.out _ _ ?_ (fun hHeld => ?_)
   ·
    exact (k2 hR K0 K1 q0 q1 :)
   clear hK K; try simp only [z1, z2, z3, z4, z5, z6, z7]
   refine wpr 7 132 ?_; simp only [z1, z2, z3, z4, z5, z6, z7]; refine wpr 8 140 ?_; simp only [z1, z2, z3, z4, z5, z6, z7]; refine wpr 9 141 ?_; simp only [z1, z2, z3, z4, z5, z6, z7]; refine wpr 10 142 ?_; simp only [z1, z2, z3, z4, z5, z6, z7]; exact dag_to hG (st2 a3 b3 d3 m4 n4 o4 p4 m5 V2 W2 e2 c2x kh kf _ HF0 HSR hR hHeld) rfl (by kernel_rfl) (by rw [ha] <;> simp only [z1, z2, z3, z4, z5, z6, z7])
  have st7 : ∀ (a3 b3 d3 m4 n4 o4 p4 m5 kh : Nat) (g0 : World), Hid (D3p g0 a3 b3 d3 A B C) → Hid (E4p g0 m4 n4 o4 p4 W) → Hid (C5p g0 m5 L) → Hid (Rs w31 w31.heap.size g0 [rB kh 40 [.slice none 0 0, .slice none 0 0, .slice none 0 0, .slice none 0 0]]) → (fun w' => Blk w' (w.heap.size) #[.slice s1 A.length c1, .slice s2 B.length c2, .slice s3 C.length c3] 24 ∧ Blk w' (w.heap.size + 1) #[.slice i1 W.gens.length j1, .slice i2 W.free.length j2, .slice i3 W.tabs.length j3, .slice i4 W.res.length j4] 31) g0 → Gd 9 #[true, true, true, true, true, true, false, false, false, false, false, true, false, false, false, false] ((((a0.put (some 134) (.agg #[.slice (some ⟨a3, 0, none⟩) A.length A.length, .slice (some ⟨b3, 0, none⟩) B.length B.length, .slice (some ⟨d3, 0, none⟩) C.length C.length])).put (some 136) (.agg #[.slice (some ⟨m4, 0, none⟩) W.gens.length W.gens.length, .slice (some ⟨n4, 0, none⟩) W.free.length W.free.length, .slice (some ⟨o4, 0, none⟩) W.tabs.length W.tabs.length, .slice (some ⟨p4, 0, none⟩) W.res.length W.res.length])).put (some 138) (.slice (some ⟨m5, 0, none⟩) L.length L.length)).put (some 20) (.pointer (some ⟨kh, 0, none⟩))) g0 := by
   intro a3 b3 d3 m4 n4 o4 p4 m5 kh g0 D3 E4 C5x hR hHeld
   rw [hG, ha]
   simp only [z1, z2, z3, z4, z5, z6, z7]; refine wpAnyH_ready (rs := [6, 12]) (by kernel_rfl) (by simp) ?_
   refine AllReadyH.cons rfl (fun K hK => ?_) ?_
   ·
    skip
    go_simp; refine (implSpawn_any (some ⟨a3, 0, none⟩) (some ⟨b3, 0, none⟩) (some ⟨d3, 0, none⟩) A.length B.length C.length A B C (some ⟨m4, 0, none⟩) (some ⟨n4, 0, none⟩) (some ⟨o4, 0, none⟩) (some ⟨p4, 0, none⟩) W.gens.length W.free.length W.tabs.length W.res.length W (some ⟨m5, 0, none⟩) L.length L m5 _ D3.out.1 D3.out.2.1 D3.out.2.2 NMH.out lA lB lC E4.out HK.out (Nat.le_refl _) BR.out C5x.out lL (Nat.le_refl _)).mono ?_
    rintro z g8 ⟨V2, W2, e2, c2x, rfl, hOW, hSR, hb⟩
    have hO := hOW.own
    have HF0 : Hid (OWf V2 W2) := hOW.f
    have HSR : Hid (SpawnR A B C W L W2 e2 c2x) := hSR
    clear hOW hSR; have hR : Hid (Rs w31 w31.heap.size g8 ([rB kh 40 [.slice none 0 0, .slice none 0 0, .slice none 0 0, .slice none 0 0]] ++ (rW V2 W2))) := Hid.mk' (hR.out.insE [rB kh 40 [.slice none 0 0, .slice none 0 0, .slice none 0 0, .slice none 0 0]] (rW V2 W2) hb hO)
    clear hb hO; refine hK.out _ _ ?_ (fun hHeld => ?_)
    ·
     exact (k2 hR K0 K1 q0 q1 :)
    clear hK K; try simp only [z1, z2, z3, z4, z5, z6, z7]
    refine wpr 7 132 ?_; simp only [z1, z2, z3, z4, z5, z6, z7]; refine wpr 8 140 ?_; simp only [z1, z2, z3, z4, z5, z6, z7]; refine wpr 9 141 ?_; simp only [z1, z2, z3, z4, z5, z6, z7]; refine wpr 10 142 ?_; simp only [z1, z2, z3, z4, z5, z6, z7]; exact dag_to hG (st3 a3 b3 d3 m4 n4 o4 p4 m5 V2 W2 e2 c2x kh _ HF0 HSR hR hHeld) rfl (by kernel_rfl) (by rw [ha] <;> simp only [z1, z2, z3, z4, z5, z6, z7])
   refine AllReadyH.cons rfl (fun K hK => ?_) AllReadyH.nil
   refine step_boxB [rB kh 40 [.slice none 0 0, .slice none 0 0, .slice none 0 0, .slice none 0 0]] [] hR.out rfl (d0 := (some 21)) rfl 42 hiE hzE rfl ?_
   intro kf g9 hb hR'
   have hR : Hid (Rs w31 w31.heap.size g9 [rB kh 40 [.slice none 0 0, .slice none 0 0, .slice none 0 0, .slice none 0 0], rB kf 42 [.int .i64 0, .int .i64 0]]) := hR'
   have D3 : Hid (D3p g9 a3 b3 d3 A B C) := Hid.mk' (D3.out.on hb)
   have E4 : Hid (E4p g9 m4 n4 o4 p4 W) := Hid.mk' (InW.later E4.out hb)
   have C5x : Hid (C5p g9 m5 L) := Hid.mk' (Els.later cCell_keeps C5x.out hb)
   clear hR' hb; refine hK.out _ _ ?_ (fun hHeld => ?_)
   ·
    exact (k2 hR K0 K1 q0 q1 :)
   clear hK K; exact dag_to hG (st6 a3 b3 d3 m4 n4 o4 p4 m5 kh kf _ D3 E4 C5x hR hHeld) rfl (by kernel_rfl) (by rw [ha] <;> simp only [z1, z2, z3, z4, z5, z6, z7])
  have st8 : ∀ (a3 b3 d3 m4 n4 o4 p4 m5 kf : Nat) (g0 : World), Hid (D3p g0 a3 b3 d3 A B C) → Hid (E4p g0 m4 n4 o4 p4 W) → Hid (C5p g0 m5 L) → Hid (Rs w31 w31.heap.size g0 [rB kf 42 [.int .i64 0, .int .i64 0]]) → (fun w' => Blk w' (w.heap.size) #[.slice s1 A.length c1, .slice s2 B.length c2, .slice s3 C.length c3] 24 ∧ Blk w' (w.heap.size + 1) #[.slice i1 W.gens.length j1, .slice i2 W.free.length j2, .slice i3 W.tabs.length j3, .slice i4 W.res.length j4] 31) g0 → Gd 9 #[true, true, true, true, true, true, false, false, false, false, false, false, true, false, false, false] ((((a0.put (some 134) (.agg #[.slice (some ⟨a3, 0, none⟩) A.length A.length, .slice (some ⟨b3, 0, none⟩) B.length B.length, .slice (some ⟨d3, 0, none⟩) C.length C.length])).put (some 136) (.agg #[.slice (some ⟨m4, 0, none⟩) W.gens.length W.gens.length, .slice (some ⟨n4, 0, none⟩) W.free.length W.free.length, .slice (some ⟨o4, 0, none⟩) W.tabs.length W.tabs.length, .slice (some ⟨p4, 0, none⟩) W.res.length W.res.length])).put (some 138) (.slice (some ⟨m5, 0, none⟩) L.length L.length)).put (some 21) (.pointer (some ⟨kf, 0, none⟩))) g0 := by
   intro a3 b3 d3 m4 n4 o4 p4 m5 kf g0 D3 E4 C5x hR hHeld
   rw [hG, ha]
   simp only [z1, z2, z3, z4, z5, z6, z7]; refine wpAnyH_ready (rs := [6, 11]) (by kernel_rfl) (by simp) ?_
   refine AllReadyH.cons rfl (fun K hK => ?_) ?_
   ·
    skip
    go_simp; refine (implSpawn_any (some ⟨a3, 0, none⟩) (some ⟨b3, 0, none⟩) (some ⟨d3, 0, none⟩) A.length B.length C.length A B C (some ⟨m4, 0, none⟩) (some ⟨n4, 0, none⟩) (some ⟨o4, 0, none⟩) (some ⟨p4, 0, none⟩) W.gens.length W.free.length W.tabs.length W.res.length W (some ⟨m5, 0, none⟩) L.length L m5 _ D3.out.1 D3.out.2.1 D3.out.2.2 NMH.out lA lB lC E4.out HK.out (Nat.le_refl _) BR.out C5x.out lL (Nat.le_refl _)).mono ?_
    rintro z g10 ⟨V2, W2, e2, c2x, rfl, hOW, hSR, hb⟩
    have hO := hOW.own
    have HF0 : Hid (OWf V2 W2) := hOW.f
    have HSR : Hid (SpawnR A B C W L W2 e2 c2x) := hSR
    clear hOW hSR; have hR : Hid (Rs w31 w31.heap.size g10 ([rB kf 42 [.int .i64 0, .int .i64 0]] ++ (rW V2 W2))) := Hid.mk' (hR.out.insE [rB kf 42 [.int .i64 0, .int .i64 0]] (rW V2 W2) hb hO)
    clear hb hO; refine hK.out _ _ ?_ (fun hHeld => ?_)
    ·
     exact (k2 hR K0 K1 q0 q1 :)
    clear hK K; try simp only [z1, z2, z3, z4, z5, z6, z7]
    refine wpr 7 132 ?_; simp only [z1, z2, z3, z4, z5, z6, z7]; refine wpr 8 140 ?_; simp only [z1, z2, z3, z4, z5, z6, z7]; refine wpr 9 141 ?_; simp only [z1, z2, z3, z4, z5, z6, z7]; refine wpr 10 142 ?_; simp only [z1, z2, z3, z4, z5, z6, z7]; exact dag_to hG (st4 a3 b3 d3 m4 n4 o4 p4 m5 V2 W2 e2 c2x kf _ HF0 HSR hR hHeld) rfl (by kernel_rfl) (by rw [ha] <;> simp only [z1, z2, z3, z4, z5, z6, z7])
   refine AllReadyH.cons rfl (fun K hK => ?_) AllReadyH.nil
   refine step_boxB [] [rB kf 42 [.int .i64 0, .int .i64 0]] hR.out rfl (d0 := (some 20)) rfl 40 hiW hzW rfl ?_
   intro kh g11 hb hR'
   have hR : Hid (Rs w31 w31.heap.size g11 [rB kh 40 [.slice none 0 0, .slice none 0 0, .slice none 0 0, .slice none 0 0], rB kf 42 [.int .i64 0, .int .i64 0]]) := hR'
   have D3 : Hid (D3p g11 a3 b3 d3 A B C) := Hid.mk' (D3.out.on hb)
   have E4 : Hid (E4p g11 m4 n4 o4 p4 W) := Hid.mk' (InW.later E4.out hb)
   have C5x : Hid (C5p g11 m5 L) := Hid.mk' (Els.later cCell_keeps C5x.out hb)
   clear hR' hb; refine hK.out _ _ ?_ (fun hHeld => ?_)
   ·
    exact (k2 hR K0 K1 q0 q1 :)
   clear hK K; exact dag_to hG (st6 a3 b3 d3 m4 n4 o4 p4 m5 kh kf _ D3 E4 C5x hR hHeld) rfl (by kernel_rfl) (by rw [ha] <;> simp only [z1, z2, z3, z4, z5, z6, z7])
  have st9 : ∀ (a3 b3 d3 m4 n4 o4 p4 m5 : Nat) (g0 : World), Hid (D3p g0 a3 b3 d3 A B C) → Hid (E4p g0 m4 n4 o4 p4 W) → Hid (C5p g0 m5 L) → Hid (Rs w31 w31.heap.size g0 []) → (fun w' => Blk w' (w.heap.size) #[.slice s1 A.length c1, .slice s2 B.length c2, .slice s3 C.length c3] 24 ∧ Blk w' (w.heap.size + 1) #[.slice i1 W.gens.length j1, .slice i2 W.free.length j2, .slice i3 W.tabs.length j3, .slice i4 W.res.length j4] 31) g0 → Gd 10 #[true, true, true, true, true, true, false, false, false, false, false, false, false, false, false, false] (((a0.put (some 134) (.agg #[.slice (some ⟨a3, 0, none⟩) A.length A.length, .slice (some ⟨b3, 0, none⟩) B.length B.length, .slice (some ⟨d3, 0, none⟩) C.length C.length])).put (some 136) (.agg #[.slice (some ⟨m4, 0, none⟩) W.gens.length W.gens.length, .slice (some ⟨n4, 0, none⟩) W.free.length W.free.length, .slice (some ⟨o4, 0, none⟩) W.tabs.length W.tabs.length, .slice (some ⟨p4, 0, none⟩) W.res.length W.res.length])).put (some 138) (.slice (some ⟨m5, 0, none⟩) L.length L.length)) g0 := by
   intro a3 b3 d3 m4 n4 o4 p4 m5 g0 D3 E4 C5x hR hHeld
   rw [hG, ha]
   simp only [z1, z2, z3, z4, z5, z6, z7]; refine wpAnyH_ready (rs := [6, 11, 12]) (by kernel_rfl) (by simp) ?_
   refine AllReadyH.cons rfl (fun K hK => ?_) ?_
   ·
    skip
    go_simp; refine (implSpawn_any (some ⟨a3, 0, none⟩) (some ⟨b3, 0, none⟩) (some ⟨d3, 0, none⟩) A.length B.length C.length A B C (some ⟨m4, 0, none⟩) (some ⟨n4, 0, none⟩) (some ⟨o4, 0, none⟩) (some ⟨p4, 0, none⟩) W.gens.length W.free.length W.tabs.length W.res.length W (some ⟨m5, 0, none⟩) L.length L m5 _ D3.out.1 D3.out.2.1 D3.out.2.2 NMH.out lA lB lC E4.out HK.out (Nat.le_refl _) BR.out C5x.out lL (Nat.le_refl _)).mono ?_
    rintro z g12 ⟨V2, W2, e2, c2x, rfl, hOW, hSR, hb⟩
    have hO := hOW.own
    have HF0 : Hid (OWf V2 W2) := hOW.f
    have HSR : Hid (SpawnR A B C W L W2 e2 c2x) := hSR
    clear hOW hSR; have hR : Hid (Rs w31 w31.heap.size g12 (rW V2 W2)) := Hid.mk' (hR.out.insE [] (rW V2 W2) hb hO)
    clear hb hO; refine hK.out _ _ ?_ (fun hHeld => ?_)
    ·
     exact (k2 hR K0 K1 q0 q1 :)
    clear hK K; try simp only [z1, z2, z3, z4, z5, z6, z7]
    refine wpr 7 132 ?_; simp only [z1, z2, z3, z4, z5, z6, z7]; refine wpr 8 140 ?_; simp only [z1, z2, z3, z4, z5, z6, z7]; refine wpr 9 141 ?_; simp only [z1, z2, z3, z4, z5, z6, z7]; refine wpr 10 142 ?_; simp only [z1, z2, z3, z4, z5, z6, z7]; exact dag_to hG (st5 a3 b3 d3 m4 n4 o4 p4 m5 V2 W2 e2 c2x _ HF0 HSR hR hHeld) rfl (by kernel_rfl) (by rw [ha] <;> simp only [z1, z2, z3, z4, z5, z6, z7])
   refine AllReadyH.cons rfl (fun K hK => ?_) ?_
   ·
    skip
    refine step_boxB [] [] hR.out rfl (d0 := (some 20)) rfl 40 hiW hzW rfl ?_
    intro kh g13 hb hR'
    have hR : Hid (Rs w31 w31.heap.size g13 [rB kh 40 [.slice none 0 0, .slice none 0 0, .slice none 0 0, .slice none 0 0]]) := hR'
    have D3 : Hid (D3p g13 a3 b3 d3 A B C) := Hid.mk' (D3.out.on hb)
    have E4 : Hid (E4p g13 m4 n4 o4 p4 W) := Hid.mk' (InW.later E4.out hb)
    have C5x : Hid (C5p g13 m5 L) := Hid.mk' (Els.later cCell_keeps C5x.out hb)
    clear hR' hb; refine hK.out _ _ ?_ (fun hHeld => ?_)
    ·
     exact (k2 hR K0 K1 q0 q1 :)
    clear hK K; exact dag_to hG (st7 a3 b3 d3 m4 n4 o4 p4 m5 kh _ D3 E4 C5x hR hHeld) rfl (by kernel_rfl) (by rw [ha] <;> simp only [z1, z2, z3, z4, z5, z6, z7])
   refine AllReadyH.cons rfl (fun K hK => ?_) AllReadyH.nil
   refine step_boxB [] [] hR.out rfl (d0 := (some 21)) rfl 42 hiE hzE rfl ?_
   intro kf g14 hb hR'
   have hR : Hid (Rs w31 w31.heap.size g14 [rB kf 42 [.int .i64 0, .int .i64 0]]) := hR'
   have D3 : Hid (D3p g14 a3 b3 d3 A B C) := Hid.mk' (D3.out.on hb)
   have E4 : Hid (E4p g14 m4 n4 o4 p4 W) := Hid.mk' (InW.later E4.out hb)
   have C5x : Hid (C5p g14 m5 L) := Hid.mk' (Els.later cCell_keeps C5x.out hb)
   clear hR' hb; refine hK.out _ _ ?_ (fun hHeld => ?_)
   ·
    exact (k2 hR K0 K1 q0 q1 :)
   clear hK K; exact dag_to hG (st8 a3 b3 d3 m4 n4 o4 p4 m5 kf _ D3 E4 C5x hR hHeld) rfl (by kernel_rfl) (by rw [ha] <;> simp only [z1, z2, z3, z4, z5, z6, z7])
  have st10 : ∀ (a3 b3 d3 m4 n4 o4 p4 kh kf : Nat) (g0 : World), Hid (D3p g0 a3 b3 d3 A B C) → Hid (E4p g0 m4 n4 o4 p4 W) → Hid (Rs w31 w31.heap.size g0 [rB kh 40 [.slice none 0 0, .slice none 0 0, .slice none 0 0, .slice none 0 0], rB kf 42 [.int .i64 0, .int .i64 0]]) → (fun w' => Blk w' (w.heap.size) #[.slice s1 A.length c1, .slice s2 B.length c2, .slice s3 C.length c3] 24 ∧ Blk w' (w.heap.size + 1) #[.slice i1 W.gens.length j1, .slice i2 W.free.length j2, .slice i3 W.tabs.length j3, .slice i4 W.res.length j4] 31) g0 → Gd 9 #[true, true, true, true, true, false, false, false, false, false, false, true, true, false, false, false] ((((a0.put (some 134) (.agg #[.slice (some ⟨a3, 0, none⟩) A.length A.length, .slice (some ⟨b3, 0, none⟩) B.length B.length, .slice (some ⟨d3, 0, none⟩) C.length C.length])).put (some 136) (.agg #[.slice (some ⟨m4, 0, none⟩) W.gens.length W.gens.length, .slice (some ⟨n4, 0, none⟩) W.free.length W.free.length, .slice (some ⟨o4, 0, none⟩) W.tabs.length W.tabs.length, .slice (some ⟨p4, 0, none⟩) W.res.length W.res.length])).put (some 20) (.pointer (some ⟨kh, 0, none⟩))).put (some 21) (.pointer (some ⟨kf, 0, none⟩))) g0 := by
   intro a3 b3 d3 m4 n4 o4 p4 kh kf g0 D3 E4 hR hHeld
   rw [hG, ha]
   simp only [z1, z2, z3, z4, z5, z6, z7]; refine wpy 5 fun K hK => ?_
   go_simp; refine (toCellS_made sc cc L 0 _ (HC.out.later cCell_keeps (bl_transG LX.out hR.out bX)) lL).mono ?_
   rintro z g15 ⟨m5, rfl, _, hE5, hb⟩
   have hR : Hid (Rs w31 w31.heap.size g15 [rB kh 40 [.slice none 0 0, .slice none 0 0, .slice none 0 0, .slice none 0 0], rB kf 42 [.int .i64 0, .int .i64 0]]) := Hid.mk' (hR.out.later hb)
   have D3 : Hid (D3p g15 a3 b3 d3 A B C) := Hid.mk' (D3.out.on hb)
   have E4 : Hid (E4p g15 m4 n4 o4 p4 W) := Hid.mk' (InW.later E4.out hb)
   have C5x : Hid (C5p g15 m5 L) := Hid.mk' (hE5)
   clear hb; refine hK.out _ _ ?_ (fun hHeld => ?_)
   ·
    exact (k2 hR K0 K1 q0 q1 :)
   clear hK K; exact dag_to hG (st6 a3 b3 d3 m4 n4 o4 p4 m5 kh kf _ D3 E4 C5x hR hHeld) rfl (by kernel_rfl) (by rw [ha] <;> simp only [z1, z2, z3, z4, z5, z6, z7])
  have st11 : ∀ (a3 b3 d3 m4 n4 o4 p4 kh : Nat) (g0 : World), Hid (D3p g0 a3 b3 d3 A B C) → Hid (E4p g0 m4 n4 o4 p4 W) → Hid (Rs w31 w31.heap.size g0 [rB kh 40 [.slice none 0 0, .slice none 0 0, .slice none 0 0, .slice none 0 0]]) → (fun w' => Blk w' (w.heap.size) #[.slice s1 A.length c1, .slice s2 B.length c2, .slice s3 C.length c3] 24 ∧ Blk w' (w.heap.size + 1) #[.slice i1 W.gens.length j1, .slice i2 W.free.length j2, .slice i3 W.tabs.length j3, .slice i4 W.res.length j4] 31) g0 → Gd 10 #[true, true, true, true, true, false, false, false, false, false, false, true, false, false, false, false] (((a0.put (some 134) (.agg #[.slice (some ⟨a3, 0, none⟩) A.length A.length, .slice (some ⟨b3, 0, none⟩) B.length B.length, .slice (some ⟨d3, 0, none⟩) C.length C.length])).put (some 136) (.agg #[.slice (some ⟨m4, 0, none⟩) W.gens.length W.gens.length, .slice (some ⟨n4, 0, none⟩) W.free.length W.free.length, .slice (some ⟨o4, 0, none⟩) W.tabs.length W.tabs.length, .slice (some ⟨p4, 0, none⟩) W.res.length W.res.length])).put (some 20) (.pointer (some ⟨kh, 0, none⟩))) g0 := by
   intro a3 b3 d3 m4 n4 o4 p4 kh g0 D3 E4 hR hHeld
   rw [hG, ha]
   simp only [z1, z2, z3, z4, z5, z6, z7]; refine wpAnyH_ready (rs := [5, 12]) (by kernel_rfl) (by simp) ?_
   refine AllReadyH.cons rfl (fun K hK => ?_) ?_
   ·
    skip
    go_simp; refine (toCellS_made sc cc L 0 _ (HC.out.later cCell_keeps (bl_transG LX.out hR.out bX)) lL).mono ?_
    rintro z g16 ⟨m5, rfl, _, hE5, hb⟩
    have hR : Hid (Rs w31 w31.heap.size g16 [rB kh 40 [.slice none 0 0, .slice none 0 0, .slice none 0 0, .slice none 0 0]]) := Hid.mk' (hR.out.later hb)
    have D3 : Hid (D3p g16 a3 b3 d3 A B C) := Hid.mk' (D3.out.on hb)
    have E4 : Hid (E4p g16 m4 n4 o4 p4 W) := Hid.mk' (InW.later E4.out hb)
    have C5x : Hid (C5p g16 m5 L) := Hid.mk' (hE5)
    clear hb; refine hK.out _ _ ?_ (fun hHeld => ?_)
    ·
     exact (k2 hR K0 K1 q0 q1 :)
    clear hK K; exact dag_to hG (st7 a3 b3 d3 m4 n4 o4 p4 m5 kh _ D3 E4 C5x hR hHeld) rfl (by kernel_rfl) (by rw [ha] <;> simp only [z1, z2, z3, z4, z5, z6, z7])
   refine AllReadyH.cons rfl (fun K hK => ?_) AllReadyH.nil
   refine step_boxB [rB kh 40 [.slice none 0 0, .slice none 0 0, .slice none 0 0, .slice none 0 0]] [] hR.out rfl (d0 := (some 21)) rfl 42 hiE hzE rfl ?_
   intro kf g17 hb hR'
   have hR : Hid (Rs w31 w31.heap.size g17 [rB kh 40 [.slice none 0 0, .slice none 0 0, .slice none 0 0, .slice none 0 0], rB kf 42 [.int .i64 0, .int .i64 0]]) := hR'
   have D3 : Hid (D3p g17 a3 b3 d3 A B C) := Hid.mk' (D3.out.on hb)
   have E4 : Hid (E4p g17 m4 n4 o4 p4 W) := Hid.mk' (InW.later E4.out hb)
   clear hR' hb; refine hK.out _ _ ?_ (fun hHeld => ?_)
   ·
    exact (k2 hR K0 K1 q0 q1 :)
   clear hK K; exact dag_to hG (st10 a3 b3 d3 m4 n4 o4 p4 kh kf _ D3 E4 hR hHeld) rfl (by kernel_rfl) (by rw [ha] <;> simp only [z1, z2, z3, z4, z5, z6, z7])
  have st12 : ∀ (a3 b3 d3 m4 n4 o4 p4 kf : Nat) (g0 : World), Hid (D3p g0 a3 b3 d3 A B C) → Hid (E4p g0 m4 n4 o4 p4 W) → Hid (Rs w31 w31.heap.size g0 [rB kf 42 [.int .i64 0, .int .i64 0]]) → (fun w' => Blk w' (w.heap.size) #[.slice s1 A.length c1, .slice s2 B.length c2, .slice s3 C.length c3] 24 ∧ Blk w' (w.heap.size + 1) #[.slice i1 W.gens.length j1, .slice i2 W.free.length j2, .slice i3 W.tabs.length j3, .slice i4 W.res.length j4] 31) g0 → Gd 10 #[true, true, true, true, true, false, false, false, false, false, false, false, true, false, false, false] (((a0.put (some 134) (.agg #[.slice (some ⟨a3, 0, none⟩) A.length A.length, .slice (some ⟨b3, 0, none⟩) B.length B.length, .slice (some ⟨d3, 0, none⟩) C.length C.length])).put (some 136) (.agg #[.slice (some ⟨m4, 0, none⟩) W.gens.length W.gens.length, .slice (some ⟨n4, 0, none⟩) W.free.length W.free.length, .slice (some ⟨o4, 0, none⟩) W.tabs.length W.tabs.length, .slice (some ⟨p4, 0, none⟩) W.res.length W.res.length])).put (some 21) (.pointer (some ⟨kf, 0, none⟩))) g0 := by
   intro a3 b3 d3 m4 n4 o4 p4 kf g0 D3 E4 hR hHeld
   rw [hG, ha]
   simp only [z1, z2, z3, z4, z5, z6, z7]; refine wpAnyH_ready (rs := [5, 11]) (by kernel_rfl) (by simp) ?_
   refine AllReadyH.cons rfl (fun K hK => ?_) ?_
   ·
    skip
    go_simp; refine (toCellS_made sc cc L 0 _ (HC.out.later cCell_keeps (bl_transG LX.out hR.out bX)) lL).mono ?_
    rintro z g18 ⟨m5, rfl, _, hE5, hb⟩
    have hR : Hid (Rs w31 w31.heap.size g18 [rB kf 42 [.int .i64 0, .int .i64 0]]) := Hid.mk' (hR.out.later hb)
    have D3 : Hid (D3p g18 a3 b3 d3 A B C) := Hid.mk' (D3.out.on hb)
    have E4 : Hid (E4p g18 m4 n4 o4 p4 W) := Hid.mk' (InW.later E4.out hb)
    have C5x : Hid (C5p g18 m5 L) := Hid.mk' (hE5)
    clear hb; refine hK.out _ _ ?_ (fun hHeld => ?_)
    ·
     exact (k2 hR K0 K1 q0 q1 :)
    clear hK K; exact dag_to hG (st8 a3 b3 d3 m4 n4 o4 p4 m5 kf _ D3 E4 C5x hR hHeld) rfl (by kernel_rfl) (by rw [ha] <;> simp only [z1, z2, z3, z4, z5, z6, z7])
   refine AllReadyH.cons rfl (fun K hK => ?_) AllReadyH.nil
   refine step_boxB [] [rB kf 42 [.int .i64 0, .int .i64 0]] hR.out rfl (d0 := (some 20)) rfl 40 hiW hzW rfl ?_
   intro kh g19 hb hR'
   have hR : Hid (Rs w31 w31.heap.size g19 [rB kh 40 [.slice none 0 0, .slice none 0 0, .slice none 0 0, .slice none 0 0], rB kf 42 [.int .i64 0, .int .i64 0]]) := hR'
   have D3 : Hid (D3p g19 a3 b3 d3 A B C) := Hid.mk' (D3.out.on hb)
   have E4 : Hid (E4p g19 m4 n4 o4 p4 W) := Hid.mk' (InW.later E4.out hb)
   clear hR' hb; refine hK.out _ _ ?_ (fun hHeld => ?_)
   ·
    exact (k2 hR K0 K1 q0 q1 :)
   clear hK K; exact dag_to hG (st10 a3 b3 d3 m4 n4 o4 p4 kh kf _ D3 E4 hR hHeld) rfl (by kernel_rfl) (by rw [ha] <;> simp only [z1, z2, z3, z4, z5, z6, z7])
  have st13 : ∀ (a3 b3 d3 m4 n4 o4 p4 : Nat) (g0 : World), Hid (D3p g0 a3 b3 d3 A B C) → Hid (E4p g0 m4 n4 o4 p4 W) → Hid (Rs w31 w31.heap.size g0 []) → (fun w' => Blk w' (w.heap.size) #[.slice s1 A.length c1, .slice s2 B.length c2, .slice s3 C.length c3] 24 ∧ Blk w' (w.heap.size + 1) #[.slice i1 W.gens.length j1, .slice i2 W.free.length j2, .slice i3 W.tabs.length j3, .slice i4 W.res.length j4] 31) g0 → Gd 11 #[true, true, true, true, true, false, false, false, false, false, false, false, false, false, false, false] ((a0.put (some 134) (.agg #[.slice (some ⟨a3, 0, none⟩) A.length A.length, .slice (some ⟨b3, 0, none⟩) B.length B.length, .slice (some ⟨d3, 0, none⟩) C.length C.length])).put (some 136) (.agg #[.slice (some ⟨m4, 0, none⟩) W.gens.length W.gens.length, .slice (some ⟨n4, 0, none⟩) W.free.length W.free.length, .slice (some ⟨o4, 0, none⟩) W.tabs.length W.tabs.length, .slice (some ⟨p4, 0, none⟩) W.res.length W.res.length])) g0 := by
   intro a3 b3 d3 m4 n4 o4 p4 g0 D3 E4 hR hHeld
   rw [hG, ha]
   simp only [z1, z2, z3, z4, z5, z6, z7]; refine wpAnyH_ready (rs := [5, 11, 12]) (by kernel_rfl) (by simp) ?_
   refine AllReadyH.cons rfl (fun K hK => ?_) ?_
   ·
    skip
    go_simp; refine (toCellS_made sc cc L 0 _ (HC.out.later cCell_keeps (bl_transG LX.out hR.out bX)) lL).mono ?_
    rintro z g20 ⟨m5, rfl, _, hE5, hb⟩
    have hR : Hid (Rs w31 w31.heap.size g20 []) := Hid.mk' (hR.out.later hb)
    have D3 : Hid (D3p g20 a3 b3 d3 A B C) := Hid.mk' (D3.out.on hb)
    have E4 : Hid (E4p g20 m4 n4 o4 p4 W) := Hid.mk' (InW.later E4.out hb)
    have C5x : Hid (C5p g20 m5 L) := Hid.mk' (hE5)
    clear hb; refine hK.out _ _ ?_ (fun hHeld => ?_)
    ·
     exact (k2 hR K0 K1 q0 q1 :)
    clear hK K; exact dag_to hG (st9 a3 b3 d3 m4 n4 o4 p4 m5 _ D3 E4 C5x hR hHeld) rfl (by kernel_rfl) (by rw [ha] <;> simp only [z1, z2, z3, z4, z5, z6, z7])
   refine AllReadyH.cons rfl (fun K hK => ?_) ?_
   ·
    skip
    refine step_boxB [] [] hR.out rfl (d0 := (some 20)) rfl 40 hiW hzW rfl ?_
    intro kh g21 hb hR'
    have hR : Hid (Rs w31 w31.heap.size g21 [rB kh 40 [.slice none 0 0, .slice none 0 0, .slice none 0 0, .slice none 0 0]]) := hR'
    have D3 : Hid (D3p g21 a3 b3 d3 A B C) := Hid.mk' (D3.out.on hb)
    have E4 : Hid (E4p g21 m4 n4 o4 p4 W) := Hid.mk' (InW.later E4.out hb)
    clear hR' hb; refine hK.out _ _ ?_ (fun hHeld => ?_)
    ·
     exact (k2 hR K0 K1 q0 q1 :)
    clear hK K; exact dag_to hG (st11 a3 b3 d3 m4 n4 o4 p4 kh _ D3 E4 hR hHeld) rfl (by kernel_rfl) (by rw [ha] <;> simp only [z1, z2, z3, z4, z5, z6, z7])
   refine AllReadyH.cons rfl (fun K hK => ?_) AllReadyH.nil
   refine step_boxB [] [] hR.out rfl (d0 := (some 21)) rfl 42 hiE hzE rfl ?_
   intro kf g22 hb hR'
   have hR : Hid (Rs w31 w31.heap.size g22 [rB kf 42 [.int .i64 0, .int .i64 0]]) := hR'
   have D3 : Hid (D3p g22 a3 b3 d3 A B C) := Hid.mk' (D3.out.on hb)
   have E4 : Hid (E4p g22 m4 n4 o4 p4 W) := Hid.mk' (InW.later E4.out hb)
   clear hR' hb; refine hK.out _ _ ?_ (fun hHeld => ?_)
   ·
    exact (k2 hR K0 K1 q0 q1 :)
   clear hK K; exact dag_to hG (st12 a3 b3 d3 m4 n4 o4 p4 kf _ D3 E4 hR hHeld) rfl (by kernel_rfl) (by rw [ha] <;> simp only [z1, z2, z3, z4, z5, z6, z7])
  have st14 : ∀ (a3 b3 d3 kh kf : Nat) (g0 : World), Hid (D3p g0 a3 b3 d3 A B C) → Hid (Rs w31 w31.heap.size g0 [rB kh 40 [.slice none 0 0, .slice none 0 0, .slice none 0 0, .slice none 0 0], rB kf 42 [.int .i64 0, .int .i64 0]]) → (fun w' => Blk w' (w.heap.size) #[.slice s1 A.length c1, .slice s2 B.length c2, .slice s3 C.length c3] 24 ∧ Blk w' (w.heap.size + 1) #[.slice i1 W.gens.length j1, .slice i2 W.free.length j2, .slice i3 W.tabs.length j3, .slice i4 W.res.length j4] 31) g0 → Gd 10 #[true, true, true, false, true, false, false, false, false, false, false, true, true, false, false, false] (((a0.put (some 134) (.agg #[.slice (some ⟨a3, 0, none⟩) A.length A.length, .slice (some ⟨b3, 0, none⟩) B.length B.length, .slice (some ⟨d3, 0, none⟩) C.length C.length])).put (some 20) (.pointer (some ⟨kh, 0, none⟩))).put (some 21) (.pointer (some ⟨kf, 0, none⟩))) g0 := by
   intro a3 b3 d3 kh kf g0 D3 hR hHeld
   rw [hG, ha]
   simp only [z1, z2, z3, z4, z5, z6, z7]; refine wpy 3 fun K hK => ?_
   go_simp; refine (toWorld_made i1 i2 i3 i4 j1 j2 j3 j4 W 0 _ (HW.out.later (bl_transG LX.out hR.out bX)) HK.out).mono ?_
   rintro z g23 ⟨⟨m4, n4, o4, p4, rfl, hE4⟩, hb⟩
   have hR : Hid (Rs w31 w31.heap.size g23 [rB kh 40 [.slice none 0 0, .slice none 0 0, .slice none 0 0, .slice none 0 0], rB kf 42 [.int .i64 0, .int .i64 0]]) := Hid.mk' (hR.out.later hb)
   have D3 : Hid (D3p g23 a3 b3 d3 A B C) := Hid.mk' (D3.out.on hb)
   have E4 : Hid (E4p g23 m4 n4 o4 p4 W) := Hid.mk' (hE4.drop (Nat.zero_le _))
   clear hb; refine hK.out _ _ ?_ (fun hHeld => ?_)
   ·
    exact (k2 hR K0 K1 q0 q1 :)
   clear hK K; exact dag_to hG (st10 a3 b3 d3 m4 n4 o4 p4 kh kf _ D3 E4 hR hHeld) rfl (by kernel_rfl) (by rw [ha] <;> simp only [z1, z2, z3, z4, z5, z6, z7])
  have st15 : ∀ (a3 b3 d3 kh : Nat) (g0 : World), Hid (D3p g0 a3 b3 d3 A B C) → Hid (Rs w31 w31.heap.size g0 [rB kh 40 [.slice none 0 0, .slice none 0 0, .slice none 0 0, .slice none 0 0]]) → (fun w' => Blk w' (w.heap.size) #[.slice s1 A.length c1, .slice s2 B.length c2, .slice s3 C.length c3] 24 ∧ Blk w' (w.heap.size + 1) #[.slice i1 W.gens.length j1, .slice i2 W.free.length j2, .slice i3 W.tabs.length j3, .slice i4 W.res.length j4] 31) g0 → Gd 11 #[true, true, true, false, true, false, false, false, false, false, false, true, false, false, false, false] ((a0.put (some 134) (.agg #[.slice (some ⟨a3, 0, none⟩) A.length A.length, .slice (some ⟨b3, 0, none⟩) B.length B.length, .slice (some ⟨d3, 0, none⟩) C.length C.length])).put (some 20) (.pointer (some ⟨kh, 0, none⟩))) g0 := by
   intro a3 b3 d3 kh g0 D3 hR hHeld
   rw [hG, ha]
   simp only [z1, z2, z3, z4, z5, z6, z7]; refine wpAnyH_ready (rs := [3, 12]) (by kernel_rfl) (by simp) ?_
   refine AllReadyH.cons rfl (fun K hK => ?_) ?_
   ·
    skip
    go_simp; refine (toWorld_made i1 i2 i3 i4 j1 j2 j3 j4 W 0 _ (HW.out.later (bl_transG LX.out hR.out bX)) HK.out).mono ?_
    rintro z g24 ⟨⟨m4, n4, o4, p4, rfl, hE4⟩, hb⟩
    have hR : Hid (Rs w31 w31.heap.size g24 [rB kh 40 [.slice none 0 0, .slice none 0 0, .slice none 0 0, .slice none 0 0]]) := Hid.mk' (hR.out.later hb)
    have D3 : Hid (D3p g24 a3 b3 d3 A B C) := Hid.mk' (D3.out.on hb)
    have E4 : Hid (E4p g24 m4 n4 o4 p4 W) := Hid.mk' (hE4.drop (Nat.zero_le _))
    clear hb; refine hK.out _ _ ?_ (fun hHeld => ?_)
    ·
     exact (k2 hR K0 K1 q0 q1 :)
    clear hK K; exact dag_to hG (st11 a3 b3 d3 m4 n4 o4 p4 kh _ D3 E4 hR hHeld) rfl (by kernel_rfl) (by rw [ha] <;> simp only [z1, z2, z3, z4, z5, z6, z7])
   refine AllReadyH.cons rfl (fun K hK => ?_) AllReadyH.nil
   refine step_boxB [rB kh 40 [.slice none 0 0, .slice none 0 0, .slice none 0 0, .slice none 0 0]] [] hR.out rfl (d0 := (some 21)) rfl 42 hiE hzE rfl ?_
   intro kf g25 hb hR'
   have hR : Hid (Rs w31 w31.heap.size g25 [rB kh 40 [.slice none 0 0, .slice none 0 0, .slice none 0 0, .slice none 0 0], rB kf 42 [.int .i64 0, .int .i64 0]]) := hR'
   have D3 : Hid (D3p g25 a3 b3 d3 A B C) := Hid.mk' (D3.out.on hb)
   clear hR' hb; refine hK.out _ _ ?_ (fun hHeld => ?_)
   ·
    exact (k2 hR K0 K1 q0 q1 :)
   clear hK K; exact dag_to hG (st14 a3 b3 d3 kh kf _ D3 hR hHeld) rfl (by kernel_rfl) (by rw [ha] <;> simp only [z1, z2, z3, z4, z5, z6, z7])
  have st16 : ∀ (a3 b3 d3 kf : Nat) (g0 : World), Hid (D3p g0 a3 b3 d3 A B C) → Hid (Rs w31 w31.heap.size g0 [rB kf 42 [.int .i64 0, .int .i64 0]]) → (fun w' => Blk w' (w.heap.size) #[.slice s1 A.length c1, .slice s2 B.length c2, .slice s3 C.length c3] 24 ∧ Blk w' (w.heap.size + 1) #[.slice i1 W.gens.length j1, .slice i2 W.free.length j2, .slice i3 W.tabs.length j3, .slice i4 W.res.length j4] 31) g0 → Gd 11 #[true, true, true, false, true, false, false, false, false, false, false, false, true, false, false, false] ((a0.put (some 134) (.agg #[.slice (some ⟨a3, 0, none⟩) A.length A.length, .slice (some ⟨b3, 0, none⟩) B.length B.length, .slice (some ⟨d3, 0, none⟩) C.length C.length])).put (some 21) (.pointer (some ⟨kf, 0, none⟩))) g0 := by
   intro a3 b3 d3 kf g0 D3 hR hHeld
   rw [hG, ha]
   simp only [z1, z2, z3, z4, z5, z6, z7]; refine wpAnyH_ready (rs := [3, 11]) (by kernel_rfl) (by simp) ?_
   refine AllReadyH.cons rfl (fun K hK => ?_) ?_
   ·
    skip
    go_simp; refine (toWorld_made i1 i2 i3 i4 j1 j2 j3 j4 W 0 _ (HW.out.later (bl_transG LX.out hR.out bX)) HK.out).mono ?_
    rintro z g26 ⟨⟨m4, n4, o4, p4, rfl, hE4⟩, hb⟩
    have hR : Hid (Rs w31 w31.heap.size g26 [rB kf 42 [.int .i64 0, .int .i64 0]]) := Hid.mk' (hR.out.later hb)
    have D3 : Hid (D3p g26 a3 b3 d3 A B C) := Hid.mk' (D3.out.on hb)
    have E4 : Hid (E4p g26 m4 n4 o4 p4 W) := Hid.mk' (hE4.drop (Nat.zero_le _))
    clear hb; refine hK.out _ _ ?_ (fun hHeld => ?_)
    ·
     exact (k2 hR K0 K1 q0 q1 :)
    clear hK K; exact dag_to hG (st12 a3 b3 d3 m4 n4 o4 p4 kf _ D3 E4 hR hHeld) rfl (by kernel_rfl) (by rw [ha] <;> simp only [z1, z2, z3, z4, z5, z6, z7])
   refine AllReadyH.cons rfl (fun K hK => ?_) AllReadyH.nil
   refine step_boxB [] [rB kf 42 [.int .i64 0, .int .i64 0]] hR.out rfl (d0 := (some 20)) rfl 40 hiW hzW rfl ?_
   intro kh g27 hb hR'
   have hR : Hid (Rs w31 w31.heap.size g27 [rB kh 40 [.slice none 0 0, .slice none 0 0, .slice none 0 0, .slice none 0 0], rB kf 42 [.int .i64 0, .int .i64 0]]) := hR'
   have D3 : Hid (D3p g27 a3 b3 d3 A B C) := Hid.mk' (D3.out.on hb)
   clear hR' hb; refine hK.out _ _ ?_ (fun hHeld => ?_)
   ·
    exact (k2 hR K0 K1 q0 q1 :)
   clear hK K; exact dag_to hG (st14 a3 b3 d3 kh kf _ D3 hR hHeld) rfl (by kernel_rfl) (by rw [ha] <;> simp only [z1, z2, z3, z4, z5, z6, z7])
  have st17 : ∀ (a3 b3 d3 : Nat) (g0 : World), Hid (D3p g0 a3 b3 d3 A B C) → Hid (Rs w31 w31.heap.size g0 []) → (fun w' => Blk w' (w.heap.size) #[.slice s1 A.length c1, .slice s2 B.length c2, .slice s3 C.length c3] 24 ∧ Blk w' (w.heap.size + 1) #[.slice i1 W.gens.length j1, .slice i2 W.free.length j2, .slice i3 W.tabs.length j3, .slice i4 W.res.length j4] 31) g0 → Gd 12 #[true, true, true, false, true, false, false, false, false, false, false, false, false, false, false, false] (a0.put (some 134) (.agg #[.slice (some ⟨a3, 0, none⟩) A.length A.length, .slice (some ⟨b3, 0, none⟩) B.length B.length, .slice (some ⟨d3, 0, none⟩) C.length C.length])) g0 := by
   intro a3 b3 d3 g0 D3 hR hHeld
   rw [hG, ha]
   simp only [z1, z2, z3, z4, z5, z6, z7]; refine wpAnyH_ready (rs := [3, 11, 12]) (by kernel_rfl) (by simp) ?_
   refine AllReadyH.cons rfl (fun K hK => ?_) ?_
   ·
    skip
    go_simp; refine (toWorld_made i1 i2 i3 i4 j1 j2 j3 j4 W 0 _ (HW.out.later (bl_transG LX.out hR.out bX)) HK.out).mono ?_
    rintro z g28 ⟨⟨m4, n4, o4, p4, rfl, hE4⟩, hb⟩
    have hR : Hid (Rs w31 w31.heap.size g28 []) := Hid.mk' (hR.out.later hb)
    have D3 : Hid (D3p g28 a3 b3 d3 A B C) := Hid.mk' (D3.out.on hb)
    have E4 : Hid (E4p g28 m4 n4 o4 p4 W) := Hid.mk' (hE4.drop (Nat.zero_le _))
    clear hb; refine hK.out _ _ ?_ (fun hHeld => ?_)
    ·
     exact (k2 hR K0 K1 q0 q1 :)
    clear hK K; exact dag_to hG (st13 a3 b3 d3 m4 n4 o4 p4 _ D3 E4 hR hHeld) rfl (by kernel_rfl) (by rw [ha] <;> simp only [z1, z2, z3, z4, z5, z6, z7])
   refine AllReadyH.cons rfl (fun K hK => ?_) ?_
   ·
    skip
    refine step_boxB [] [] hR.out rfl (d0 := (some 20)) rfl 40 hiW hzW rfl ?_
    intro kh g29 hb hR'
    have hR : Hid (Rs w31 w31.heap.size g29 [rB kh 40 [.slice none 0 0, .slice none 0 0, .slice none 0 0, .slice none 0 0]]) := hR'
    have D3 : Hid (D3p g29 a3 b3 d3 A B C) := Hid.mk' (D3.out.on hb)
    clear hR' hb; refine hK.out _ _ ?_ (fun hHeld => ?_)
    ·
     exact (k2 hR K0 K1 q0 q1 :)
    clear hK K; exact dag_to hG (st15 a3 b3 d3 kh _ D3 hR hHeld) rfl (by kernel_rfl) (by rw [ha] <;> simp only [z1, z2, z3, z4, z5, z6, z7])
   refine AllReadyH.cons rfl (fun K hK => ?_) AllReadyH.nil
   refine step_boxB [] [] hR.out rfl (d0 := (some 21)) rfl 42 hiE hzE rfl ?_
   intro kf g30 hb hR'
   have hR : Hid (Rs w31 w31.heap.size g30 [rB kf 42 [.int .i64 0, .int .i64 0]]) := hR'
   have D3 : Hid (D3p g30 a3 b3 d3 A B C) := Hid.mk' (D3.out.on hb)
   clear hR' hb; refine hK.out _ _ ?_ (fun hHeld => ?_)
   ·
    exact (k2 hR K0 K1 q0 q1 :)
   clear hK K; exact dag_to hG (st16 a3 b3 d3 kf _ D3 hR hHeld) rfl (by kernel_rfl) (by rw [ha] <;> simp only [z1, z2, z3, z4, z5, z6, z7])
  have st18 : ∀ (kh kf : Nat) (g0 : World), Hid (Rs w31 w31.heap.size g0 [rB kh 40 [.slice none 0 0, .slice none 0 0, .slice none 0 0, .slice none 0 0], rB kf 42 [.int .i64 0, .int .i64 0]]) → (fun w' => Blk w' (w.heap.size) #[.slice s1 A.length c1, .slice s2 B.length c2, .slice s3 C.length c3] 24 ∧ Blk w' (w.heap.size + 1) #[.slice i1 W.gens.length j1, .slice i2 W.free.length j2, .slice i3 W.tabs.length j3, .slice i4 W.res.length j4] 31) g0 → Gd 11 #[true, false, true, false, true, false, false, false, false, false, false, true, true, false, false, false] ((a0.put (some 20) (.pointer (some ⟨kh, 0, none⟩))).put (some 21) (.pointer (some ⟨kf, 0, none⟩))) g0 := by
   intro kh kf g0 hR hHeld
   rw [hG, ha]
   simp only [z1, z2, z3, z4, z5, z6, z7]; refine wpy 1 fun K hK => ?_
   go_simp; refine (toReg_any s1 s2 s3 c1 c2 c3 A B C _ (HD.out.1.later (bl_transG LX.out hR.out bX)) (HD.out.2.1.later (bl_transG LX.out hR.out bX)) (HD.out.2.2.later (bl_transG LX.out hR.out bX)) lA lB lC).mono ?_
   rintro z g31 ⟨⟨a3, b3, d3, rfl, dA3, dB3, dC3⟩, hb⟩
   have hR : Hid (Rs w31 w31.heap.size g31 [rB kh 40 [.slice none 0 0, .slice none 0 0, .slice none 0 0, .slice none 0 0], rB kf 42 [.int .i64 0, .int .i64 0]]) := Hid.mk' (hR.out.later hb)
   have D3 : Hid (D3p g31 a3 b3 d3 A B C) := Hid.mk' (⟨dA3, dB3, dC3⟩)
   clear hb; refine hK.out _ _ ?_ (fun hHeld => ?_)
   ·
    exact (k2 hR K0 K1 q0 q1 :)
   clear hK K; exact dag_to hG (st14 a3 b3 d3 kh kf _ D3 hR hHeld) rfl (by kernel_rfl) (by rw [ha] <;> simp only [z1, z2, z3, z4, z5, z6, z7])
  have st19 : ∀ (kh : Nat) (g0 : World), Hid (Rs w31 w31.heap.size g0 [rB kh 40 [.slice none 0 0, .slice none 0 0, .slice none 0 0, .slice none 0 0]]) → (fun w' => Blk w' (w.heap.size) #[.slice s1 A.length c1, .slice s2 B.length c2, .slice s3 C.length c3] 24 ∧ Blk w' (w.heap.size + 1) #[.slice i1 W.gens.length j1, .slice i2 W.free.length j2, .slice i3 W.tabs.length j3, .slice i4 W.res.length j4] 31) g0 → Gd 12 #[true, false, true, false, true, false, false, false, false, false, false, true, false, false, false, false] (a0.put (some 20) (.pointer (some ⟨kh, 0, none⟩))) g0 := by
   intro kh g0 hR hHeld
   rw [hG, ha]
   simp only [z1, z2, z3, z4, z5, z6, z7]; refine wpAnyH_ready (rs := [1, 12]) (by kernel_rfl) (by simp) ?_
   refine AllReadyH.cons rfl (fun K hK => ?_) ?_
   ·
    skip
    go_simp; refine (toReg_any s1 s2 s3 c1 c2 c3 A B C _ (HD.out.1.later (bl_transG LX.out hR.out bX)) (HD.out.2.1.later (bl_transG LX.out hR.out bX)) (HD.out.2.2.later (bl_transG LX.out hR.out bX)) lA lB lC).mono ?_
    rintro z g32 ⟨⟨a3, b3, d3, rfl, dA3, dB3, dC3⟩, hb⟩
    have hR : Hid (Rs w31 w31.heap.size g32 [rB kh 40 [.slice none 0 0, .slice none 0 0, .slice none 0 0, .slice none 0 0]]) := Hid.mk' (hR.out.later hb)
    have D3 : Hid (D3p g32 a3 b3 d3 A B C) := Hid.mk' (⟨dA3, dB3, dC3⟩)
    clear hb; refine hK.out _ _ ?_ (fun hHeld => ?_)
    ·
     exact (k2 hR K0 K1 q0 q1 :)
    clear hK K; exact dag_to hG (st15 a3 b3 d3 kh _ D3 hR hHeld) rfl (by kernel_rfl) (by rw [ha] <;> simp only [z1, z2, z3, z4, z5, z6, z7])
   refine AllReadyH.cons rfl (fun K hK => ?_) AllReadyH.nil
   refine step_boxB [rB kh 40 [.slice none 0 0, .slice none 0 0, .slice none 0 0, .slice none 0 0]] [] hR.out rfl (d0 := (some 21)) rfl 42 hiE hzE rfl ?_
   intro kf g33 hb hR'
   have hR : Hid (Rs w31 w31.heap.size g33 [rB kh 40 [.slice none 0 0, .slice none 0 0, .slice none 0 0, .slice none 0 0], rB kf 42 [.int .i64 0, .int .i64 0]]) := hR'
   clear hR' hb; refine hK.out _ _ ?_ (fun hHeld => ?_)
   ·
    exact (k2 hR K0 K1 q0 q1 :)
   clear hK K; exact dag_to hG (st18 kh kf _  hR hHeld) rfl (by kernel_rfl) (by rw [ha] <;> simp only [z1, z2, z3, z4, z5, z6, z7])
  have st20 : ∀ (kf : Nat) (g0 : World), Hid (Rs w31 w31.heap.size g0 [rB kf 42 [.int .i64 0, .int .i64 0]]) → (fun w' => Blk w' (w.heap.size) #[.slice s1 A.length c1, .slice s2 B.length c2, .slice s3 C.length c3] 24 ∧ Blk w' (w.heap.size + 1) #[.slice i1 W.gens.length j1, .slice i2 W.free.length j2, .slice i3 W.tabs.length j3, .slice i4 W.res.length j4] 31) g0 → Gd 12 #[true, false, true, false, true, false, false, false, false, false, false, false, true, false, false, false] (a0.put (some 21) (.pointer (some ⟨kf, 0, none⟩))) g0 := by
   intro kf g0 hR hHeld
   rw [hG, ha]
   simp only [z1, z2, z3, z4, z5, z6, z7]; refine wpAnyH_ready (rs := [1, 11]) (by kernel_rfl) (by simp) ?_
   refine AllReadyH.cons rfl (fun K hK => ?_) ?_
   ·
    skip
    go_simp; refine (toReg_any s1 s2 s3 c1 c2 c3 A B C _ (HD.out.1.later (bl_transG LX.out hR.out bX)) (HD.out.2.1.later (bl_transG LX.out hR.out bX)) (HD.out.2.2.later (bl_transG LX.out hR.out bX)) lA lB lC).mono ?_
    rintro z g34 ⟨⟨a3, b3, d3, rfl, dA3, dB3, dC3⟩, hb⟩
    have hR : Hid (Rs w31 w31.heap.size g34 [rB kf 42 [.int .i64 0, .int .i64 0]]) := Hid.mk' (hR.out.later hb)
    have D3 : Hid (D3p g34 a3 b3 d3 A B C) := Hid.mk' (⟨dA3, dB3, dC3⟩)
    clear hb; refine hK.out _ _ ?_ (fun hHeld => ?_)
    ·
     exact (k2 hR K0 K1 q0 q1 :)
    clear hK K; exact dag_to hG (st16 a3 b3 d3 kf _ D3 hR hHeld) rfl (by kernel_rfl) (by rw [ha] <;> simp only [z1, z2, z3, z4, z5, z6, z7])
   refine AllReadyH.cons rfl (fun K hK => ?_) AllReadyH.nil
   refine step_boxB [] [rB kf 42 [.int .i64 0, .int .i64 0]] hR.out rfl (d0 := (some 20)) rfl 40 hiW hzW rfl ?_
   intro kh g35 hb hR'
   have hR : Hid (Rs w31 w31.heap.size g35 [rB kh 40 [.slice none 0 0, .slice none 0 0, .slice none 0 0, .slice none 0 0], rB kf 42 [.int .i64 0, .int .i64 0]]) := hR'
   clear hR' hb; refine hK.out _ _ ?_ (fun hHeld => ?_)
   ·
    exact (k2 hR K0 K1 q0 q1 :)
   clear hK K; exact dag_to hG (st18 kh kf _  hR hHeld) rfl (by kernel_rfl) (by rw [ha] <;> simp only [z1, z2, z3, z4, z5, z6, z7])
  rw [hG, ha]
  try simp only [z1, z2, z3, z4, z5, z6, z7]
  refine wpAnyH_ready (rs := [1, 11, 12]) (by kernel_rfl) (by simp) ?_
  refine AllReadyH.cons rfl (fun K hK => ?_) ?_
  ·
   skip
   go_simp; refine (toReg_any s1 s2 s3 c1 c2 c3 A B C _ (HD.out.1.later (bl_transG LX.out hR.out bX)) (HD.out.2.1.later (bl_transG LX.out hR.out bX)) (HD.out.2.2.later (bl_transG LX.out hR.out bX)) lA lB lC).mono ?_
   rintro z g36 ⟨⟨a3, b3, d3, rfl, dA3, dB3, dC3⟩, hb⟩
   have hR : Hid (Rs w31 w31.heap.size g36 []) := Hid.mk' (hR.out.later hb)
   have D3 : Hid (D3p g36 a3 b3 d3 A B C) := Hid.mk' (⟨dA3, dB3, dC3⟩)
   clear hb; refine hK.out _ _ ?_ (fun hHeld => ?_)
   ·
    exact (k2 hR K0 K1 q0 q1 :)
   clear hK K; exact dag_to hG (st17 a3 b3 d3 _ D3 hR hHeld) rfl (by kernel_rfl) (by rw [ha] <;> simp only [z1, z2, z3, z4, z5, z6, z7])
  refine AllReadyH.cons rfl (fun K hK => ?_) ?_
  ·
   skip
   refine step_boxB [] [] hR.out rfl (d0 := (some 20)) rfl 40 hiW hzW rfl ?_
   intro kh g37 hb hR'
   have hR : Hid (Rs w31 w31.heap.size g37 [rB kh 40 [.slice none 0 0, .slice none 0 0, .slice none 0 0, .slice none 0 0]]) := hR'
   clear hR' hb; refine hK.out _ _ ?_ (fun hHeld => ?_)
   ·
    exact (k2 hR K0 K1 q0 q1 :)
   clear hK K; exact dag_to hG (st19 kh _  hR hHeld) rfl (by kernel_rfl) (by rw [ha] <;> simp only [z1, z2, z3, z4, z5, z6, z7])
  refine AllReadyH.cons rfl (fun K hK => ?_) AllReadyH.nil
  refine step_boxB [] [] hR.out rfl (d0 := (some 21)) rfl 42 hiE hzE rfl ?_
  intro kf g38 hb hR'
  have hR : Hid (Rs w31 w31.heap.size g38 [rB kf 42 [.int .i64 0, .int .i64 0]]) := hR'
  clear hR' hb; refine hK.out _ _ ?_ (fun hHeld => ?_)
  ·
   exact (k2 hR K0 K1 q0 q1 :)
  clear hK K; exact dag_to hG (st20 kf _  hR hHeld) rfl (by kernel_rfl) (by rw [ha] <;> simp only [z1, z2, z3, z4, z5, z6, z7])
 obtain ⟨kh, kf, V2, W2, e2, c2x, rfl, rfl, rfl, hF2, hS2, hR2⟩ := hcut
 obtain ⟨rfl, rfl, rfl⟩ := HS0.out.same hS2
 have hl2 := hR2.l
 clear hR q0 q1 bX K0 K1 LX; obtain ⟨wx, hwx⟩ : ∃ wx, wx = wc := ⟨_, rfl⟩
 rw [← hwx] at hR2 hl2 ⊢
 clear hwx; have LZ : Hid (Below wz.heap.size wz wx) := bl_trans LZ.out hl2
 have H1 : Hid (Owns wx w8.heap.size (rB kg 40 [V1.g, V1.f, V1.t, V1.r] :: rB kq 42 [.int .i64 e0.1, .int .i64 e0.2] :: rW V1 (wW 1 W0))) := H1.out.later hl2
 have H2 : Hid (Owns wx w31.heap.size (rB kh 40 [V2.g, V2.f, V2.t, V2.r] :: rB kf 42 [.int .i64 e0.1, .int .i64 e0.2] :: rW V2 W0)) := hR2.o
 have HF2 := Hid.mk' hF2
 clear hF2 hS2 hR2 hl2; have H0 : Hid (Owns wx w2.heap.size (rB kz 40 [V0.g, V0.f, V0.t, V0.r] :: rB ke 42 [.int .i64 e0.1, .int .i64 e0.2] :: rW V0 W0)) := H0z.out.later LZ.out
 obtain ⟨x0, x1, x2, x3, x4⟩ := (show Blk wx kh #[V2.g, V2.f, V2.t, V2.r] 40 from rB_blk H2.out.head).four'
 obtain ⟨y0, y1, y2, y3, y4⟩ := (show Blk wx kz #[V0.g, V0.f, V0.t, V0.r] 40 from rB_blk H0.out.head).four'
 go_wp2_with fail; refine (eqW_own V2 V0 W0 _ _ _ H2.out.tail.tail HF2.out H0.out.tail.tail HF0.out HK0.out).mono ?_
 rintro r wy ⟨rfl, hby⟩
 have LZ : Hid (Below wz.heap.size wz wy) := bl_trans LZ.out hby
 have H1 : Hid (Owns wy w8.heap.size (rB kg 40 [V1.g, V1.f, V1.t, V1.r] :: rB kq 42 [.int .i64 e0.1, .int .i64 e0.2] :: rW V1 (wW 1 W0))) := H1.out.later hby
 have H2 : Hid (Owns wy w31.heap.size (rB kh 40 [V2.g, V2.f, V2.t, V2.r] :: rB kf 42 [.int .i64 e0.1, .int .i64 e0.2] :: rW V2 W0)) := H2.out.later hby
 clear hby x0 x1 x2 x3 x4 y0 y1 y2 y3 y4 H0; have H0 : Hid (Owns wy w2.heap.size (rB kz 40 [V0.g, V0.f, V0.t, V0.r] :: rB ke 42 [.int .i64 e0.1, .int .i64 e0.2] :: rW V0 W0)) := H0z.out.later LZ.out
 obtain ⟨x0, x1, x2⟩ := (show Blk wy kf #[.int .i64 e0.1, .int .i64 e0.2] 42 from rB_blk H2.out.tail.head).two
 obtain ⟨y0, y1, y2⟩ := (show Blk wy ke #[.int .i64 e0.1, .int .i64 e0.2] 42 from rB_blk H0.out.tail.head).two
 go_wp2_with fail; refine (eqEnt_any e0.1 e0.2 e0.1 e0.2 _).mono ?_
 rintro r wy2 ⟨rfl, hby⟩
 rw [show (e0.1 == e0.1 && e0.2 == e0.2) = true by simp]
 have LZ : Hid (Below wz.heap.size wz wy2) := bl_trans LZ.out hby
 have H1 : Hid (Owns wy2 w8.heap.size (rB kg 40 [V1.g, V1.f, V1.t, V1.r] :: rB kq 42 [.int .i64 e0.1, .int .i64 e0.2] :: rW V1 (wW 1 W0))) := H1.out.later hby
 clear hby x0 x1 x2 y0 y1 y2 H0 H2; obtain ⟨x0, x1, x2, x3, x4⟩ := (show Blk wy2 kg #[V1.g, V1.f, V1.t, V1.r] 40 from rB_blk H1.out.head).four'
 go_wp2_with fail; refine (heldW_o w8.heap.size V1 W0 _ (HFp.out.ow H1.out.tail.tail) HK0.out).mono ?_
 rintro r wv ⟨rfl, hbv⟩
 have LF : Hid (Below w.heap.size w wv) := bl_trans LAz.out (bl_trans LZ.out hbv)
 clear hbv x0 x1 x2 x3 x4 H1; go_wp2_with fail; go_ret; exact ⟨rfl, LF.out⟩
end Go.Proofs.YtbgeobpdojmdaaaGreat
