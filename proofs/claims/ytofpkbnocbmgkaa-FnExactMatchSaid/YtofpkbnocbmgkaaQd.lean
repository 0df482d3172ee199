import Derived.Test.YtofpkbnocbmgkaaQc
import Derived.Deep.RegionHeld3
namespace Go.Proofs.Ytofpkbnocbmgkaa
open Go.RowKit
set_option linter.unusedVariables false
set_option linter.unusedSimpArgs false

theorem ERow.same {w w' : World} {B : Nat} {v : Value} {L : List E2} (h : ERow w B v L) (hs : ∀ g, v.ownBlock = some g → w'.heap[g]? = w.heap[g]?) : ERow w' B v L := by
  refine ⟨h.1, ?_⟩
  rcases h.2 with h' | ⟨g, cap', cur, h', hb', hg, r⟩
  · exact Or.inl h'
  · refine Or.inr ⟨g, cap', cur, h', hb', ?_, r⟩
    subst h'
    exact (hs g rfl).trans hg
theorem mtW_len {T : List Tab} {A C : List Int} (hk : ∀ t ∈ T, t.rows.length ≤ 1048576) : (mtW T A C).length ≤ 67108864 := by
  unfold mtW
  split
  · rename_i h
    have := mtL_len (A := A) (C := C) hk T.length (Nat.le_refl _)
    rw [List.take_length] at this
    omega
  · simp
/-- marks turn no list that lies elsewhere. -/
theorem ERow.mr {lo : Nat} {W1 w0 w : World} {B : Nat} {v : Value} {L : List E2} (h : ERow w0 B v L) (hm : Mr lo W1 w0 w) (hv : ∀ g, v.ownBlock = some g → g < lo ∨ W1.heap.size ≤ g) : ERow w B v L :=
  h.same fun g hg => (hv g hg).elim (fun q => hm.be.block g q) (fun q => hm.out g q (h.lt g hg).2)
theorem InW.less {w : World} {B : Nat} {a1 a2 a3 a4 : Option Addr} {V : Wd} (h : InW w B a1 a2 a3 a4 V) : InW w 0 a1 a2 a3 a4 V := h.drop (Nat.zero_le _)

set_option maxRecDepth 100000 in
set_option maxHeartbeats 8000000 in
theorem exactMatch_any (a1 a2 a3 a4 : Option Addr) (c1 c2 c3 c4 : Nat) (V : Wd) (s : Option Addr) (c : Nat) (A : List Int) (t : Option Addr) (d : Nat) (C : List Int) (w : World) (hV : InW w 0 a1 a2 a3 a4 V) (mV : mW V) (hA : Els 1 cInt w 0 s A) (mA : A.length ≤ 9223372036854775807) (hC : Els 1 cInt w 0 t C) (mC : C.length ≤ 9223372036854775807) :
    Calls Try.prog 4 #[.agg #[.slice a1 V.gens.length c1, .slice a2 V.free.length c2, .slice a3 V.tabs.length c3, .slice a4 V.res.length c4], .slice s A.length c, .slice t C.length d] w fun e w' => e = .returned (.bool true) ∧ Below w.heap.size w w' := by
  have hal := alloc_old
  have haf := alloc_oldf
  have k0 := Blk.new w #[.slice a1 V.gens.length c1, .slice a2 V.free.length c2, .slice a3 V.tabs.length c3, .slice a4 V.res.length c4] 31
  have L0 := bl_alloc (Below.refl _ w) (.cells #[.slice a1 V.gens.length c1, .slice a2 V.free.length c2, .slice a3 V.tabs.length c3, .slice a4 V.res.length c4] 31)
  obtain ⟨x0, x1, x2, x3, x4⟩ := k0.four'
  by_cases gA : (1048576 : Int) < (A.length : Int)
  · clear mV mA mC
    go_enter Try.func4, Try.ntmps4
    go_wp2_with fail
    go_ret
    exact ⟨rfl, L0⟩
  by_cases gC : (1048576 : Int) < (C.length : Int)
  · clear mV mA mC
    go_enter Try.func4, Try.ntmps4
    go_wp2_with fail
    go_ret
    exact ⟨rfl, L0⟩
  have lA : A.length ≤ 1048576 := by omega
  have lC : C.length ≤ 1048576 := by omega
  clear mA mC
  have MV : Hid (mW V) := mV
  clear mV
  go_enter Try.func4, Try.ntmps4
  go_wp2_with fail
  generalize hX : w.alloc (.cells #[.slice a1 V.gens.length c1, .slice a2 V.free.length c2, .slice a3 V.tabs.length c3, .slice a4 V.res.length c4] 31) = X0 at k0 L0 ⊢
  have hpos : 0 < X0.heap.size := by have := k0.lt; omega
  clear hX x0 x1 x2 x3 x4
  refine (szWorld_gen a1 a2 a3 a4 c1 c2 c3 c4 V 0 1048576 _ (hV.later L0) MV.out (by omega) (by omega)).mono ?_
  rintro e w1 ⟨⟨r, rfl, hr⟩, hb1⟩
  have L1 := bl_trans L0 hb1
  have K1 := k0.later hb1
  clear hb1 L0 k0 MV
  rcases hr with rfl | ⟨r0, r1, kv⟩
  · go_wp2_with fail
    go_ret
    exact ⟨rfl, L1⟩
  have t1 : decide (r < 0) = false := by simp; omega
  obtain ⟨R, hR⟩ : ∃ R, Hid (mtW V.tabs A C = R) := ⟨_, (rfl : mtW V.tabs A C = _)⟩
  have lR : Hid (R.length ≤ 67108864) := by show R.length ≤ _; rw [← hR.out]; exact mtW_len (fun t ht => (kv.2.2.1.2 t ht).2.1)
  have KV : Hid (kW V) := kv
  clear kv
  obtain ⟨x0, x1, x2, x3, x4⟩ := K1.four'
  go_wp2_with fail
  -- the model's answer
  refine (toWorld_made a1 a2 a3 a4 c1 c2 c3 c4 V 0 _ (hV.later L1) KV.out).mono ?_
  rintro e wa ⟨⟨h1, h2, h3, h4, rfl, hIa⟩, hba⟩
  have La := bl_trans L1 hba
  have Ka := K1.later hba
  clear x0 x1 x2 x3 x4 t1 r1 r0 L1 K1
  go_wp2_with fail
  refine (toInts_made s c A 0 _ (hA.later cInt_keeps La) lA).mono ?_
  rintro e wb ⟨gb, rfl, eb, db, hbb⟩
  have Lb := bl_trans La hbb
  have Kb := Ka.later hbb
  have hIb := hIa.less.later hbb
  clear La Ka hIa hba
  go_wp2_with fail
  refine (toInts_made t d C 0 _ (hC.later cInt_keeps Lb) lC).mono ?_
  rintro e wc ⟨gc, rfl, ec, dc, hbc⟩
  have Lc := bl_trans Lb hbc
  have Kc := Kb.later hbc
  have hIc := hIb.later hbc
  have db' := (db.drop cInt_drops (Nat.zero_le _)).later cInt_keeps hbc
  have dc' := dc.drop cInt_drops (Nat.zero_le _)
  clear Lb Kb hIb hbb db dc hbc eb ec
  go_wp2_with fail
  refine (specMatch_any _ _ _ _ _ _ _ _ V _ _ _ _ A C wc hIc KV.out db' dc' lA lC).mono ?_
  rintro e wd ⟨⟨sW, cW, rfl, hW⟩, hbd⟩
  rw [hR.out] at hW ⊢
  have Ld := bl_trans Lc hbd
  have Kd := Kc.later hbd
  have hWl : Hid (∀ g, (Value.slice sW R.length cW).ownBlock = some g → g < wd.heap.size) := fun g hg => (hW.lt g hg).2
  have hW : Hid (ERow wd 0 (.slice sW R.length cW) R) := hW.mono (Nat.zero_le _)
  clear Lc Kc hIc hbd db' dc'
  have hlow : w.heap.size ≤ wd.heap.size := Ld.size
  have hbox : w.heap.size < wd.heap.size := Kd.lt
  have hposd : 0 < wd.heap.size := by have := Kd.lt; omega
  obtain ⟨x0, x1, x2, x3, x4⟩ := Kd.four'
  -- the arguments' copies
  go_wp2_with fail
  refine (toWorld_made a1 a2 a3 a4 c1 c2 c3 c4 V 0 _ (hV.later Ld) KV.out).mono ?_
  rintro e we ⟨⟨h1, h2, h3, h4, rfl, hI⟩, hbe⟩
  have KX := Blk.new we #[.slice (some ⟨h1, 0, none⟩) V.gens.length V.gens.length, .slice (some ⟨h2, 0, none⟩) V.free.length V.free.length, .slice (some ⟨h3, 0, none⟩) V.tabs.length V.tabs.length, .slice (some ⟨h4, 0, none⟩) V.res.length V.res.length] 49
  have LY : Below we.heap.size we (we.alloc (.cells #[.slice (some ⟨h1, 0, none⟩) V.gens.length V.gens.length, .slice (some ⟨h2, 0, none⟩) V.free.length V.free.length, .slice (some ⟨h3, 0, none⟩) V.tabs.length V.tabs.length, .slice (some ⟨h4, 0, none⟩) V.res.length V.res.length] 49)) := bl_alloc (Below.refl _ _) _
  have hbeY := bl_trans hbe LY
  have hI := hI.later LY
  clear x0 x1 x2 x3 x4 hbe LY
  go_wp2_with fail
  generalize hX : we.alloc (.cells #[.slice (some ⟨h1, 0, none⟩) V.gens.length V.gens.length, .slice (some ⟨h2, 0, none⟩) V.free.length V.free.length, .slice (some ⟨h3, 0, none⟩) V.tabs.length V.tabs.length, .slice (some ⟨h4, 0, none⟩) V.res.length V.res.length] 49) = Y at KX hbeY hI ⊢
  generalize hn : we.heap.size = bx at KX ⊢
  clear hX hn
  have LY := bl_trans Ld hbeY
  refine (toInts_made s c A 0 _ (hA.later cInt_keeps LY) lA).mono ?_
  rintro e wf ⟨gx, rfl, ex, dx, hbf⟩
  have Lf := bl_trans LY hbf
  have KX := KX.later hbf
  have hI := hI.later hbf
  have hbdf := bl_trans hbeY hbf
  have dx := dx.drop cInt_drops (B' := wd.heap.size) (by have := hbeY.size; omega)
  clear LY hbf ex hbeY
  go_wp2_with fail
  refine (toInts_made t d C 0 _ (hC.later cInt_keeps Lf) lC).mono ?_
  rintro e W1 ⟨gy, rfl, ey, dy, hbg⟩
  have LW := bl_trans Lf hbg
  have KX := KX.later hbg
  have hI : Hid (InW W1 wd.heap.size _ _ _ _ V) := hI.later hbg
  have hbdW := bl_trans hbdf hbg
  have dx : Hid (Els 1 cInt W1 wd.heap.size _ A) := dx.later cInt_keeps hbg
  have dy : Hid (Els 1 cInt W1 wd.heap.size _ C) := dy.drop cInt_drops (B' := wd.heap.size) (by have := hbdf.size; omega)
  have hW1 : Hid (ERow W1 0 (.slice sW R.length cW) R) := hW.out.later hbdW
  have K1 := Kd.later hbdW
  have hlo1 : wd.heap.size ≤ W1.heap.size := hbdW.size
  clear Lf hbg ey hbdf hW Kd
  obtain ⟨x0, x1, x2, x3, x4⟩ := KX.four'
  -- the program's answer
  go_wp2_with fail
  refine (implMatch_any _ _ _ _ _ _ _ _ V _ _ _ _ A C W1 hI.out.less KV.out (dx.out.drop cInt_drops (Nat.zero_le _)) (dy.out.drop cInt_drops (Nat.zero_le _)) lA lC).mono ?_
  rintro e wg ⟨⟨sG, cG, rfl, hG⟩, hbg⟩
  rw [hR.out] at hG ⊢
  have hGl : Hid (∀ g, (Value.slice sG R.length cG).ownBlock = some g → W1.heap.size ≤ g) := fun g hg => (hG.lt g hg).1
  have Lg := bl_trans LW hbg
  have KXg := KX.later hbg
  have K1g := K1.later hbg
  have hWg : Hid (ERow wg 0 (.slice sW R.length cW) R) := hW1.out.later hbg
  have hG : Hid (ERow wg W1.heap.size (.slice sG R.length cG) R) := hG
  clear x0 x1 x2 x3 x4 LW KX K1 hW1
  go_wp2_with fail
  refine (eqEntS_more _ _ R wg hG.out.list hWg.out.list lR.out).mono ?_
  rintro e wh ⟨rfl, hbh⟩
  have Lh := bl_trans Lg hbh
  have KXh : Hid (Blk wh bx #[.slice (some ⟨h1, 0, none⟩) V.gens.length V.gens.length, .slice (some ⟨h2, 0, none⟩) V.free.length V.free.length, .slice (some ⟨h3, 0, none⟩) V.tabs.length V.tabs.length, .slice (some ⟨h4, 0, none⟩) V.res.length V.res.length] 49) := KXg.later hbh
  have K1h : Hid (Blk wh w.heap.size #[.slice a1 V.gens.length c1, .slice a2 V.free.length c2, .slice a3 V.tabs.length c3, .slice a4 V.res.length c4] 31) := K1g.later hbh
  have hWh : Hid (ERow wh 0 (.slice sW R.length cW) R) := hWg.out.later hbh
  have hGh : Hid (ERow wh W1.heap.size (.slice sG R.length cG) R) := hG.out.later hbh
  have hW1h : Hid (Below W1.heap.size W1 wh) := bl_trans hbg hbh
  clear Lg KXg K1g hWg hG hbg hbh
  obtain ⟨x0, x1, x2, x3, x4⟩ := KXh.out.four'
  obtain ⟨z0, z1, z2, z3, z4⟩ := K1h.out.four'
  have hVh : Hid (InW wh 0 a1 a2 a3 a4 V) := hV.later Lh
  go_wp2_with fail
  go_region_held3 (fun w' => w'.cell? ⟨bx, 0, none⟩ = some (.slice (some ⟨h1, 0, none⟩) V.gens.length V.gens.length) ∧ w'.cell? ⟨bx, 1, none⟩ = some (.slice (some ⟨h2, 0, none⟩) V.free.length V.free.length) ∧ w'.cell? ⟨bx, 2, none⟩ = some (.slice (some ⟨h3, 0, none⟩) V.tabs.length V.tabs.length) ∧ w'.cell? ⟨bx, 3, none⟩ = some (.slice (some ⟨h4, 0, none⟩) V.res.length V.res.length) ∧ w'.cell? ⟨w.heap.size, 0, none⟩ = some (.slice a1 V.gens.length c1) ∧ w'.cell? ⟨w.heap.size, 1, none⟩ = some (.slice a2 V.free.length c2) ∧ w'.cell? ⟨w.heap.size, 2, none⟩ = some (.slice a3 V.tabs.length c3) ∧ w'.cell? ⟨w.heap.size, 3, none⟩ = some (.slice a4 V.res.length c4)) (simp [x0, x1, x2, x3, z0, z1, z2, z3])
    (first
      | (go_at_call 10; refine (toWorld_made a1 a2 a3 a4 c1 c2 c3 c4 V 0 _ (hVh.out.later (bl_drew (Below.refl _ _))) KV.out).mono ?_; rintro e wi ⟨⟨q1, q2, q3, q4, rfl, hIg⟩, hbi⟩; have hwi : Below wh.heap.size wh wi := bl_trans (bl_drew (Below.refl _ _)) hbi; obtain ⟨x0, x1, x2, x3, x4⟩ := (KXh.out.later hwi).four'; obtain ⟨z0, z1, z2, z3, z4⟩ := (K1h.out.later hwi).four')
      | (go_at_call 15; refine (eqWorld_gen _ _ _ _ _ _ _ _ _ _ _ _ _ _ _ _ V _ _ wi ((hI.out.later hW1h.out).later hwi) hIg KV.out).mono ?_; rintro e wj ⟨rfl, hbj⟩; have hwj : Below wh.heap.size wh wj := bl_trans hwi hbj; obtain ⟨x0, x1, x2, x3, x4⟩ := (KXh.out.later hwj).four'; obtain ⟨z0, z1, z2, z3, z4⟩ := (K1h.out.later hwj).four'))
  have Lj := bl_trans Lh hwj
  have KXj := KXh.out.later hwj
  have K1j := K1h.out.later hwj
  have hWj : Hid (ERow wj 0 (.slice sW R.length cW) R) := hWh.out.later hwj
  have hGj : Hid (ERow wj W1.heap.size (.slice sG R.length cG) R) := hGh.out.later hwj
  have hW1j : Hid (Below W1.heap.size W1 wj) := bl_trans hW1h.out hwj
  clear Lh KXh K1h hWh hGh hW1h hwi hbi hwj hbj hIg x0 x1 x2 x3 x4 z0 z1 z2 z3 z4 hVh
  go_wp2_with fail
  refine (toInts_made s c A 0 _ (hA.later cInt_keeps Lj) lA).mono ?_
  rintro e wk ⟨gk, rfl, ek, dk, hbk⟩
  go_wp2_with fail
  refine (eqInts_any _ _ _ _ A A _ (dx.out.later cInt_keeps (bl_trans hW1j.out hbk)).ints dk.ints lA).mono ?_
  rintro e wl ⟨rfl, hbl⟩
  rw [show decide (A = A) = true by simp]
  have hjl := bl_trans hbk hbl
  have Ll := bl_trans Lj hjl
  have KXl := KXj.later hjl
  have K1l := K1j.later hjl
  have hWl2 : Hid (ERow wl 0 (.slice sW R.length cW) R) := hWj.out.later hjl
  have hGl2 : Hid (ERow wl W1.heap.size (.slice sG R.length cG) R) := hGj.out.later hjl
  have hW1l : Hid (Below W1.heap.size W1 wl) := bl_trans hW1j.out hjl
  clear Lj KXj K1j hWj hGj hW1j hjl hbk hbl dk ek
  go_wp2_with fail
  refine (toInts_made t d C 0 _ (hC.later cInt_keeps Ll) lC).mono ?_
  rintro e wk ⟨gk2, rfl, ek, dk, hbk⟩
  go_wp2_with fail
  refine (eqInts_any _ _ _ _ C C _ (dy.out.later cInt_keeps (bl_trans hW1l.out hbk)).ints dk.ints lC).mono ?_
  rintro e wm ⟨rfl, hbl⟩
  rw [show decide (C = C) = true by simp]
  have hlm := bl_trans hbk hbl
  have Lm := bl_trans Ll hlm
  have KXm := KXl.later hlm
  have K1m := K1l.later hlm
  have hWm : Hid (ERow wm 0 (.slice sW R.length cW) R) := hWl2.out.later hlm
  have hGm : Hid (ERow wm W1.heap.size (.slice sG R.length cG) R) := hGl2.out.later hlm
  have hW1m : Hid (Below W1.heap.size W1 wm) := bl_trans hW1l.out hlm
  clear Ll KXl K1l hWl2 hGl2 hW1l hlm hbk hbl dk ek
  obtain ⟨x0, x1, x2, x3, x4⟩ := KXm.four'
  have hlom : wd.heap.size ≤ wm.heap.size := by have := hW1m.out.size; omega
  -- marks
  go_wp2_with fail
  refine (markW_w wd.heap.size W1 wm _ _ _ _ _ _ _ _ V 1 _ hI.out KV.out hposd hlom (Mr.start hW1m.out _) (by omega) (by omega)).mono ?_
  rintro e wn ⟨⟨q, rfl, q0, q1⟩, hMn⟩
  clear x0 x1 x2 x3 x4 KXm
  go_wp2_with fail
  refine (markI_w wd.heap.size W1 wm _ _ A q _ dx.out hposd hMn lA (by omega) (by omega)).mono ?_
  rintro e wo ⟨rfl, hMo⟩
  clear hMn
  go_wp2_with fail
  refine (markI_w wd.heap.size W1 wm _ _ C _ _ dy.out hposd hMo lC (by omega) (by omega)).mono ?_
  rintro e wp ⟨rfl, hMp⟩
  clear hMo
  have Lp : Below w.heap.size w wp := Lm.trans (hMp.be.mono hlow)
  have K1p : Blk wp w.heap.size #[.slice a1 V.gens.length c1, .slice a2 V.free.length c2, .slice a3 V.tabs.length c3, .slice a4 V.res.length c4] 31 := K1m.same' (hMp.be.block _ hbox)
  have hWp : Hid (ERow wp 0 (.slice sW R.length cW) R) := hWm.out.mr hMp (fun g hg => Or.inl (hWl.out g hg))
  have hGp : Hid (ERow wp W1.heap.size (.slice sG R.length cG) R) := hGm.out.mr hMp (fun g hg => Or.inr (hGl.out g hg))
  have hWp1 : Hid (W1.heap.size ≤ wp.heap.size) := hMp.s1
  have qn : decide (q + (A.length : Int) + (C.length : Int) < 0) = false := by simp; omega
  clear hMp hWm hGm Lm K1m hW1m dx dy hI
  go_wp2_with fail
  refine (eqEntS_more _ _ R wp hGp.out.list hWp.out.list lR.out).mono ?_
  rintro e wq ⟨rfl, hbq⟩
  have Lq := bl_trans Lp hbq
  have K1q := K1p.later hbq
  have hWq : Hid (ERow wq 0 (.slice sW R.length cW) R) := hWp.out.later hbq
  have hWq1 : Hid (W1.heap.size ≤ wq.heap.size) := by have := hWp1.out; have := hbq.size; show _ ≤ _; omega
  have hGq : Hid (ERow wq W1.heap.size (.slice sG R.length cG) R) := hGp.out.later hbq
  clear Lp K1p hWp hGp hbq qn q0 q1
  go_wp2_with fail
  refine (markEntS_full W1.heap.size _ R wq hGq.out lR.out).mono ?_
  rintro e wr ⟨rfl, hGr, hgr⟩
  have hbr : Below wd.heap.size wq wr := (Below.refl _ _).grown hgr (by have := hWq1.out; omega) (fun g hg => by have := hGl.out g hg; omega)
  have Lr : Below w.heap.size w wr := Lq.trans (hbr.mono hlow)
  have K1r : Blk wr w.heap.size #[.slice a1 V.gens.length c1, .slice a2 V.free.length c2, .slice a3 V.tabs.length c3, .slice a4 V.res.length c4] 31 := K1q.same' (hbr.block _ hbox)
  have hWr : Hid (ERow wr 0 (.slice sW R.length cW) R) := hWq.out.same (fun g hg => hbr.block g (hWl.out g hg))
  have hGr : Hid (ERow wr W1.heap.size (.slice sG R.length cG) (emarks 1 R.length)) := hGr
  clear Lq K1q hWq hGq hgr hbr
  go_wp2_with fail
  refine (heldEntS_full W1.heap.size _ _ R.length wr hGr.out rfl lR.out).mono ?_
  rintro e wS ⟨rfl, hbs⟩
  have LS := bl_trans Lr hbs
  have K1S := K1r.later hbs
  have hWS : Hid (ERow wS 0 (.slice sW R.length cW) R) := hWr.out.later hbs
  have hGS : Hid (ERow wS W1.heap.size (.slice sG R.length cG) (emarks 1 R.length)) := hGr.out.later hbs
  have qn : decide ((1 : Int) + 2 * (R.length : Int) < 0) = false := by simp; omega
  have qm : (((1 : Int) + 2 * (R.length : Int)) != (1 + 2 * (R.length : Int))) = false := by simp
  clear Lr K1r hWr hGr hbs
  obtain ⟨x0, x1, x2, x3, x4⟩ := K1S.four'
  -- another call
  go_wp2_with fail
  refine (toWorld_made a1 a2 a3 a4 c1 c2 c3 c4 V 0 _ (hV.later LS) KV.out).mono ?_
  rintro e wa2 ⟨⟨j1, j2, j3, j4, rfl, hIa⟩, hba⟩
  have La := bl_trans LS hba
  clear x0 x1 x2 x3 x4
  go_wp2_with fail
  refine (toInts_made s c A 0 _ (hA.later cInt_keeps La) lA).mono ?_
  rintro e wb2 ⟨gb2, rfl, eb, db, hbb⟩
  have Lb := bl_trans La hbb
  go_wp2_with fail
  refine (toInts_made t d C 0 _ (hC.later cInt_keeps Lb) lC).mono ?_
  rintro e wc2 ⟨gc2, rfl, ec, dc, hbc⟩
  have Lc := bl_trans Lb hbc
  have hIc := (hIa.less.later hbb).later hbc
  have db' := (db.drop cInt_drops (Nat.zero_le _)).later cInt_keeps hbc
  have dc' := dc.drop cInt_drops (Nat.zero_le _)
  have hSc := bl_trans hba (bl_trans hbb hbc)
  have hWc : Hid (ERow wc2 0 (.slice sW R.length cW) R) := hWS.out.later hSc
  have hGc : Hid (ERow wc2 W1.heap.size (.slice sG R.length cG) (emarks 1 R.length)) := hGS.out.later hSc
  clear La Lb hIa db dc hba hbb hbc eb ec hSc hWS hGS LS K1S
  go_wp2_with fail
  refine (implMatch_any _ _ _ _ _ _ _ _ V _ _ _ _ A C wc2 hIc KV.out db' dc' lA lC).mono ?_
  rintro e wd2 ⟨⟨sH, cH, rfl, hH⟩, hbd⟩
  rw [hR.out] at hH ⊢
  have Ld2 := bl_trans Lc hbd
  have hWd : Hid (ERow wd2 0 (.slice sW R.length cW) R) := hWc.out.later hbd
  have hGd : Hid (ERow wd2 W1.heap.size (.slice sG R.length cG) (emarks 1 R.length)) := hGc.out.later hbd
  have hH : Hid (ERow wd2 _ (.slice sH R.length cH) R) := hH
  clear Lc hIc db' dc' hbd hWc hGc
  go_wp2_with fail
  refine (eqEntS_more _ _ R wd2 hH.out.list hWd.out.list lR.out).mono ?_
  rintro e we2 ⟨rfl, hbe⟩
  have Le := bl_trans Ld2 hbe
  have hGe : Hid (ERow we2 W1.heap.size (.slice sG R.length cG) (emarks 1 R.length)) := hGd.out.later hbe
  clear Ld2 hWd hGd hH hbe
  go_wp2_with fail
  refine (heldEntS_full W1.heap.size _ _ R.length we2 hGe.out rfl lR.out).mono ?_
  rintro e wf2 ⟨rfl, hbf⟩
  have Lf := bl_trans Le hbf
  clear Le hGe hbf
  go_wp2_with fail
  go_ret
  exact ⟨rfl, Lf⟩
end Go.Proofs.Ytofpkbnocbmgkaa
