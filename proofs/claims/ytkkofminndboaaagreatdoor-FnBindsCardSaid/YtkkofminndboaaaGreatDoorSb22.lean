import Derived.Test.YtkkofminndboaaaGreatDoorSb21
namespace Go.Proofs.YtkkofminndboaaaGreatDoor
open Go.RowKit
set_option linter.unusedVariables false
set_option linter.unusedSimpArgs false
structure Sn (W X : World) (sb mb : Nat) (s : ByteArray) (k : Nat) (s1 : Option Addr) (c1 : Nat) (L : List Tk) : Prop where
 be : Below W.heap.size W X
 sw : W.heap.size ≤ sb
 mw : W.heap.size ≤ mb
 ne : mb < sb
 k : Blk X sb #[.string s, .int .i64 (k : Int), .slice s1 L.length c1, .map (some mb)] 48
 o : OT X (sb + 1) (.slice s1 L.length c1) L
 m : X.ownsMap Tryz.prog 9 (unitElem (H := Unit)) mb 32 (wordMap words (.map []))
section
variable {W X Y : World} {sb mb : Nat} {s : ByteArray} {k : Nat} {s1 : Option Addr} {c1 : Nat} {L : List Tk}
theorem Sn.later (h : Sn W X sb mb s k s1 c1 L) (hb : Below X.heap.size X Y) : Sn W Y sb mb s k s1 c1 L :=
 ⟨bl_trans h.be hb, h.sw, h.mw, h.ne, h.k.later hb, h.o.later hb, h.m.kept (grown_of_below hb) (by simp)⟩
theorem Sn.alloc (h : Sn W X sb mb s k s1 c1 L) (ob : Obj) : Sn W (X.alloc ob) sb mb s k s1 c1 L := h.later (bl_alloc (Below.refl _ X) ob)
theorem Sn.drew (h : Sn W X sb mb s k s1 c1 L) : Sn W X.drew sb mb s k s1 c1 L := h.later (bl_drew (Below.refl _ X))
theorem Sn.notok (h : Sn W X sb mb s k s1 c1 L) : ¬ (Value.slice s1 L.length c1).ownBlock = some sb := fun e => by have := (h.o.lt sb e).1; omega
theorem Sn.other (h : Sn W X sb mb s k s1 c1 L) {n : Nat} (hn : sb < n) (hg : ¬ (Value.slice s1 L.length c1).ownBlock = some n) (o : Nat) (u : Value) : Sn W (X.setCell ⟨n, o, none⟩ u) sb mb s k s1 c1 L := by
 have h1 := h.sw
 have h2 := h.ne
 exact ⟨h.be.setCell (by show W.heap.size ≤ n; omega) u, h.sw, h.mw, h.ne, h.k.other (by omega) o u, h.o.other hg o u, h.m.setCell (by show mb ≠ n; omega) u⟩
theorem Sn.to (h : Sn W X sb mb s k s1 c1 L) (j : Nat) : Sn W (X.setCell ⟨sb, 1, none⟩ (.int .i64 (j : Int))) sb mb s j s1 c1 L := by
 have h1 := h.sw
 have h2 := h.ne
 exact ⟨h.be.setCell (by show W.heap.size ≤ sb; omega) _, h.sw, h.mw, h.ne, h.k.set 1 _, h.o.other h.notok _ _, h.m.setCell (by show mb ≠ sb; omega) _⟩
theorem Sn.tok (h : Sn W X sb mb s k s1 c1 L) {s' : Option Addr} {c' : Nat} {M : List Tk} (hO : OT Y (sb + 1) (.slice s' M.length c') M) (hg : X.grownBy Y (Value.slice s1 L.length c1).ownBlock) :
  Sn W (Y.setCell ⟨sb, 2, none⟩ (.slice s' M.length c')) sb mb s k s' c' M := by
 have h1 := h.sw
 have h2 := h.ne
 have h3 := h.k.lt
 have h4 := h.mw
 have hb := fun q hq => (h.o.lt q hq).1
 have bY : Below W.heap.size X Y := (Below.refl _ _).grown hg (by omega) (fun q hq => by have := hb q hq; omega)
 have no' : ¬ (Value.slice s' M.length c').ownBlock = some sb := fun e => by have := (hO.lt sb e).1; omega
 exact ⟨(h.be.trans bY).setCell (by show W.heap.size ≤ sb; omega) _, h.sw, h.mw, h.ne, (h.k.kept' hg h.notok).set 2 _, hO.other no' _ _, (h.m.kept hg (fun e => by have := hb mb e.symm; omega)).setCell (by show mb ≠ sb; omega) _⟩
end
theorem step_append_tok {ops : Array Oper} {o : Oper} {a : Act} {w : World} {K : Act → World → Prop} {Q : Exit → Act → World → Prop} {E : Prop}
  (hg : o.guard = none) (s x : Operand) (hop : o.op = Op.call { callee := Callee.builtin Builtin.append, args := #[s, x], argTypes := #[32, 32] })
  (Bs : Nat) (s0 : Option Addr) (c0 : Nat) (L : List Tk) (hs : a.eval s = .slice s0 L.length c0) (hv : OT w Bs (.slice s0 L.length c0) L) (b : Nat) (t : Tk) (hx : a.eval x = .slice (some ⟨b, 0, none⟩) 1 1) (hb : Blk w b #[.int .i64 t.1, .int .i64 t.2.1, .string t.2.2.1, .int .i64 t.2.2.2.1, .float .f64 t.2.2.2.2] 38) (R : List Tk) (hR : L ++ [t] = R) (hl : L.length ≤ 4194304) (hB : Bs ≤ w.heap.size)
  (hK : ∀ s' c' w', OT w' Bs (.slice s' R.length c') R → w.grownBy w' (Value.slice s0 L.length c0).ownBlock → K (a.put o.dst (.slice s' R.length c')) w') :
  if Region.wanted o (yielded ops a.tmps) = true then Oper.wp Tryz.prog o a w K Q else E := by
 have hw : Region.wanted o (yielded ops a.tmps) = true := by simp [Region.wanted, hg]
 rw [if_pos hw]
 obtain ⟨s', c', w', hrun, h1, h2, h3⟩ := append_tok w o.type Bs s0 c0 L hv b t hb hl hB
 rw [hR] at hrun h1
 unfold Oper.wp
 simp [execOp, hop, resolve, invoke, builtin, hs, hx, hrun, Result.andThen]
 exact hK _ _ w' h1 h2
set_option maxRecDepth 100000 in
set_option maxHeartbeats 8000000 in
theorem take_any (W X : World) (sb mb : Nat) (s : ByteArray) (k e : Nat) (s1 : Option Addr) (c1 : Nat) (L : List Tk) (kd i : Int) (x : Nat) (hS : Sn W X sb mb s k s1 c1 L) (hk : k ≤ e) (he : e ≤ s.size) (hs : s.size ≤ 4000) (hl : L.length ≤ 4000) :
  Calls Tryz.prog 35 #[.pointer (some ⟨sb, 0, none⟩), .agg #[.int .i64 kd, .int .i64 0, .string { data := #[] }, .int .i64 i, .float .f64 x], .int .i64 (e : Int)] X fun r Y => r = .returned (.tuple #[]) ∧ ∃ s' c', Sn W Y sb mb s e s' c' (L ++ [(kd, (k : Int), s.extract k e, i, x)]) := by
 have hal := alloc_old
 have haf := alloc_oldf
 have hsl := slice_at s hk he
 obtain ⟨T, hT⟩ : ∃ T, Hid (s.extract k e = T) := ⟨_, (rfl : s.extract k e = s.extract k e)⟩
 have hTs : Hid (T.size ≤ 4000) := by show T.size ≤ 4000; rw [← hT.out, size_extract' he]; omega
 rw [hT.out] at hsl ⊢
 obtain ⟨R, hR⟩ : ∃ R, Hid (L ++ [(kd, (k : Int), T, i, x)] = R) := ⟨_, (rfl : L ++ [(kd, (k : Int), T, i, x)] = L ++ [(kd, (k : Int), T, i, x)])⟩
 rw [hR.out]
 have k0 := Blk.new X #[.int .i64 kd, .int .i64 0, .string { data := #[] }, .int .i64 i, .float .f64 x] 38
 have HS := hS.alloc (.cells #[.int .i64 kd, .int .i64 0, .string { data := #[] }, .int .i64 i, .float .f64 x] 38)
 have hlt := hS.k.lt
 have hnt : Hid (¬ (Value.slice s1 L.length c1).ownBlock = some X.heap.size) := fun e => by have := (hS.o.lt _ e).2; omega
 obtain ⟨x0, x1, x2, x3, x4⟩ := HS.k.four'
 go_enter Tryz.func35, Tryz.ntmps35
 obtain ⟨tb, htb⟩ : ∃ tb, X.heap.size = tb := ⟨_, rfl⟩
 obtain ⟨y0, y1, y2, y3, y4, y5⟩ := k0.five
 go_wp2_with fail; try rw [htb]
 rw [htb] at hlt hnt
 have HT := Blk.new' X #[.int .i64 kd, .int .i64 (k : Int), .string { data := #[] }, .int .i64 i, .float .f64 x] 38 htb.symm
 have HS := hS.alloc (.cells #[.int .i64 kd, .int .i64 (k : Int), .string { data := #[] }, .int .i64 i, .float .f64 x] 38)
 generalize hX1 : X.alloc (.cells #[.int .i64 kd, .int .i64 (k : Int), .string { data := #[] }, .int .i64 i, .float .f64 x] 38) = X1 at HT HS ⊢
 have HT : Hid (Blk X1 tb #[.int .i64 kd, .int .i64 (k : Int), .string { data := #[] }, .int .i64 i, .float .f64 x] 38) := HT
 have HS1 : Hid (Sn W X1.drew sb mb s k s1 c1 L) := HS.drew
 have HT1 : Hid (Blk X1.drew tb #[.int .i64 kd, .int .i64 (k : Int), .string { data := #[] }, .int .i64 i, .float .f64 x] 38) := HT.out.drew
 clear x0 x1 x2 x3 x4 y0 y1 y2 y3 y4 y5 k0 hX1 hS; obtain ⟨x0, x1, x2, x3, x4⟩ := HS.k.four'
 refine wp_region_held_drew (S := fun w' => w'.cell? ⟨sb, 0, none⟩ = some (.string s) ∧ w'.cell? ⟨sb, 1, none⟩ = some (.int .i64 (k : Int))) (by kernel_rfl) ?_ (fun hHeld => ?_)
 ·
  exact ⟨x0, x1⟩
 refine wpr 0 11 ?_; simp only [zs]; refine wpr 1 12 ?_; simp only [zs]; refine wpr 2 13 ?_; simp only [zs]; refine wpr 3 14 ?_; simp only [zs]; refine wpr 4 15 ?_; simp only [zs]; refine wpr 5 16 ?_; simp only [zs]; refine wpr 6 17 ?_; simp only [zs]; refine wpr 7 18 ?_; simp only [zs]; refine wpr 8 19 ?_; simp only [zs]; refine wpr 9 20 ?_; simp only [zs]; refine wpy 10 fun K hK => ?_
 go_simp; refine (clone_any T hTs.out _).mono ?_
 rintro e w1 ⟨rfl, hb1⟩
 obtain ⟨y0, y1, y2, y3, y4, y5⟩ := (HT1.out.later hb1).five
 refine hK.out _ _ ?_ (fun hHeld => ?_)
 ·
  exact ⟨(HS1.out.later hb1).k.four'.1, (HS1.out.later hb1).k.four'.2.1⟩
 clear hK K; try simp only [zs]
 refine wpr 11 22 ?_; simp only [zs]; refine wpy 12 fun K hK => ?_
 go_simp; refine hK.out _ _ ?_ (fun hHeld => ?_)
 ·
  exact ⟨((HS1.out.later hb1).other hlt hnt.out 2 _).k.four'.1, ((HS1.out.later hb1).other hlt hnt.out 2 _).k.four'.2.1⟩
 clear hK K; try simp only [zs]
 refine wpAnyH_done (by kernel_rfl) ?_ _
 have HS : Hid (Sn W (w1.setCell ⟨tb, 2, none⟩ (.string T)) sb mb s k s1 c1 L) := (HS1.out.later hb1).other (by omega) hnt.out 2 _
 have HT2 := (HT1.out.later hb1).set 2 (.string T)
 generalize hX2 : w1.setCell ⟨tb, 2, none⟩ (.string T) = X2 at HS HT2 hHeld ⊢
 have HT : Hid (Blk X2 tb #[.int .i64 kd, .int .i64 (k : Int), .string T, .int .i64 i, .float .f64 x] 38) := HT2
 clear HT1 HT2 HS1 hb1 hX2 x0 x1 x2 x3 x4 y0 y1 y2 y3 y4 y5 hHeld; go_wp2_with fail; refine wp_region_held_drew (S := fun w' => w'.cell? ⟨tb, 0, none⟩ = some (.int .i64 kd) ∧ w'.cell? ⟨tb, 1, none⟩ = some (.int .i64 (k : Int)) ∧ w'.cell? ⟨tb, 2, none⟩ = some (.string T) ∧ w'.cell? ⟨tb, 3, none⟩ = some (.int .i64 i) ∧ w'.cell? ⟨tb, 4, none⟩ = some (.float .f64 x)) (by kernel_rfl) ⟨HT.out.five.1, HT.out.five.2.1, HT.out.five.2.2.1, HT.out.five.2.2.2.1, HT.out.five.2.2.2.2.1⟩ (fun hHeld => ?_)
 refine wpr 0 23 ?_; simp only [zs]; refine wpr 1 24 ?_; simp only [zs]; refine wpr 2 25 ?_; simp only [zs]; refine wpr 3 26 ?_; simp only [zs]; refine wpr 5 28 ?_; simp only [zs]; have HS : Hid (Sn W X2.drew sb mb s k s1 c1 L) := HS.out.drew
 have HT : Hid (Blk X2.drew tb #[.int .i64 kd, .int .i64 (k : Int), .string T, .int .i64 i, .float .f64 x] 38) := HT.out.drew
 generalize hGd : X2.drew = X3 at HS HT hHeld ⊢
 clear hGd; refine wpAnyH_ready (rs := [4, 6]) (by kernel_rfl) (by simp) ?_
 refine AllReadyH.cons rfl (fun K hK => ?_) ?_
 ·
  skip
  obtain ⟨x0, x1, x2, x3, x4⟩ := HS.out.k.four'
  go_simp; clear x0 x1 x2 x3 x4; refine hK.out _ _ ?_ (fun hHeld => ?_)
  ·
   exact ⟨HT.out.five.1, HT.out.five.2.1, HT.out.five.2.2.1, HT.out.five.2.2.2.1, HT.out.five.2.2.2.2.1⟩
  clear hK K; try simp only [zs]
  refine wpy 6 fun K hK => ?_
  go_simp; have HS : Hid (Sn W (X3.alloc (.cells #[.int .i64 kd, .int .i64 (k : Int), .string T, .int .i64 i, .float .f64 x] 38)) sb mb s k s1 c1 L) := HS.out.alloc _
  have BT : Hid (Blk (X3.alloc (.cells #[.int .i64 kd, .int .i64 (k : Int), .string T, .int .i64 i, .float .f64 x] 38)) X3.heap.size #[.int .i64 kd, .int .i64 (k : Int), .string T, .int .i64 i, .float .f64 x] 38) := Blk.new _ _ _
  have HT : Hid (Blk (X3.alloc (.cells #[.int .i64 kd, .int .i64 (k : Int), .string T, .int .i64 i, .float .f64 x] 38)) tb #[.int .i64 kd, .int .i64 (k : Int), .string T, .int .i64 i, .float .f64 x] 38) := HT.out.alloc _
  refine hK.out _ _ ?_ (fun hHeld => ?_)
  ·
   exact ⟨HT.out.five.1, HT.out.five.2.1, HT.out.five.2.2.1, HT.out.five.2.2.2.1, HT.out.five.2.2.2.2.1⟩
  clear hK K; try simp only [zs]
  generalize hGe : X3.alloc (.cells #[.int .i64 kd, .int .i64 (k : Int), .string T, .int .i64 i, .float .f64 x] 38) = X4 at HS HT BT hHeld ⊢
  generalize hTb : X3.heap.size = ub at BT ⊢
  clear hGe hTb; refine wpy 7 fun K hK => ?_
  refine step_append_tok rfl (.tmp 27) (.tmp 29) rfl (sb + 1) s1 c1 L rfl HS.out.o ub (kd, (k : Int), T, i, x) rfl BT.out R hR.out (by omega) HS.out.k.lt ?_
  intro s' c' Y hO hgr
  have HE : Hid (Sn W (Y.setCell ⟨sb, 2, none⟩ (.slice s' R.length c')) sb mb s k s' c' R) := HS.out.tok hO hgr
  have HY : Hid (Blk Y tb #[.int .i64 kd, .int .i64 (k : Int), .string T, .int .i64 i, .float .f64 x] 38) := HT.out.kept' hgr hnt.out
  have HZ : Hid (Blk (Y.setCell ⟨sb, 2, none⟩ (.slice s' R.length c')) tb #[.int .i64 kd, .int .i64 (k : Int), .string T, .int .i64 i, .float .f64 x] 38) := HY.out.other (by omega) 2 _
  obtain ⟨x0, x1, x2, x3, x4⟩ := (HS.out.k.kept' hgr HS.out.notok).four'
  clear hO hgr HS BT; refine hK.out _ _ ?_ (fun hHeld => ?_)
  ·
   exact ⟨HY.out.five.1, HY.out.five.2.1, HY.out.five.2.2.1, HY.out.five.2.2.2.1, HY.out.five.2.2.2.2.1⟩
  clear hK K; try simp only [zs]
  refine wpr 8 31 ?_; simp only [zs]; refine wpr 9 32 ?_; simp only [zs]; refine wpy 10 fun K hK => ?_
  go_simp; clear x0 x1 x2 x3 x4; refine hK.out _ _ ?_ (fun hHeld => ?_)
  ·
   exact ⟨HZ.out.five.1, HZ.out.five.2.1, HZ.out.five.2.2.1, HZ.out.five.2.2.2.1, HZ.out.five.2.2.2.2.1⟩
  clear hK K; try simp only [zs]
  refine wpAnyH_done (by kernel_rfl) ?_ _
  generalize hGz : Y.setCell ⟨sb, 2, none⟩ (.slice s' R.length c') = Z at HE ⊢
  obtain ⟨x0, x1, x2, x3, x4⟩ := HE.out.k.four'
  have HF : Hid (Sn W (Z.setCell ⟨sb, 1, none⟩ (.int .i64 (e : Int))) sb mb s e s' c' R) := HE.out.to e
  clear hGz HZ HY HT hHeld HE; go_wp2_with fail; go_end0
  exact ⟨rfl, s', c', HF.out⟩
 refine AllReadyH.cons rfl (fun K hK => ?_) AllReadyH.nil
 go_simp; have HS : Hid (Sn W (X3.alloc (.cells #[.int .i64 kd, .int .i64 (k : Int), .string T, .int .i64 i, .float .f64 x] 38)) sb mb s k s1 c1 L) := HS.out.alloc _
 have BT : Hid (Blk (X3.alloc (.cells #[.int .i64 kd, .int .i64 (k : Int), .string T, .int .i64 i, .float .f64 x] 38)) X3.heap.size #[.int .i64 kd, .int .i64 (k : Int), .string T, .int .i64 i, .float .f64 x] 38) := Blk.new _ _ _
 have HT : Hid (Blk (X3.alloc (.cells #[.int .i64 kd, .int .i64 (k : Int), .string T, .int .i64 i, .float .f64 x] 38)) tb #[.int .i64 kd, .int .i64 (k : Int), .string T, .int .i64 i, .float .f64 x] 38) := HT.out.alloc _
 refine hK.out _ _ ?_ (fun hHeld => ?_)
 ·
  exact ⟨HT.out.five.1, HT.out.five.2.1, HT.out.five.2.2.1, HT.out.five.2.2.2.1, HT.out.five.2.2.2.2.1⟩
 clear hK K; try simp only [zs]
 generalize hGe : X3.alloc (.cells #[.int .i64 kd, .int .i64 (k : Int), .string T, .int .i64 i, .float .f64 x] 38) = X4 at HS HT BT hHeld ⊢
 generalize hTb : X3.heap.size = ub at BT ⊢
 clear hGe hTb; refine wpy 4 fun K hK => ?_
 obtain ⟨x0, x1, x2, x3, x4⟩ := HS.out.k.four'
 go_simp; clear x0 x1 x2 x3 x4; refine hK.out _ _ ?_ (fun hHeld => ?_)
 ·
  exact ⟨HT.out.five.1, HT.out.five.2.1, HT.out.five.2.2.1, HT.out.five.2.2.2.1, HT.out.five.2.2.2.2.1⟩
 clear hK K; try simp only [zs]
 refine wpy 7 fun K hK => ?_
 refine step_append_tok rfl (.tmp 27) (.tmp 29) rfl (sb + 1) s1 c1 L rfl HS.out.o ub (kd, (k : Int), T, i, x) rfl BT.out R hR.out (by omega) HS.out.k.lt ?_
 intro s' c' Y hO hgr
 have HE : Hid (Sn W (Y.setCell ⟨sb, 2, none⟩ (.slice s' R.length c')) sb mb s k s' c' R) := HS.out.tok hO hgr
 have HY : Hid (Blk Y tb #[.int .i64 kd, .int .i64 (k : Int), .string T, .int .i64 i, .float .f64 x] 38) := HT.out.kept' hgr hnt.out
 have HZ : Hid (Blk (Y.setCell ⟨sb, 2, none⟩ (.slice s' R.length c')) tb #[.int .i64 kd, .int .i64 (k : Int), .string T, .int .i64 i, .float .f64 x] 38) := HY.out.other (by omega) 2 _
 obtain ⟨x0, x1, x2, x3, x4⟩ := (HS.out.k.kept' hgr HS.out.notok).four'
 clear hO hgr HS BT; refine hK.out _ _ ?_ (fun hHeld => ?_)
 ·
  exact ⟨HY.out.five.1, HY.out.five.2.1, HY.out.five.2.2.1, HY.out.five.2.2.2.1, HY.out.five.2.2.2.2.1⟩
 clear hK K; try simp only [zs]
 refine wpr 8 31 ?_; simp only [zs]; refine wpr 9 32 ?_; simp only [zs]; refine wpy 10 fun K hK => ?_
 go_simp; clear x0 x1 x2 x3 x4; refine hK.out _ _ ?_ (fun hHeld => ?_)
 ·
  exact ⟨HZ.out.five.1, HZ.out.five.2.1, HZ.out.five.2.2.1, HZ.out.five.2.2.2.1, HZ.out.five.2.2.2.2.1⟩
 clear hK K; try simp only [zs]
 refine wpAnyH_done (by kernel_rfl) ?_ _
 generalize hGz : Y.setCell ⟨sb, 2, none⟩ (.slice s' R.length c') = Z at HE ⊢
 obtain ⟨x0, x1, x2, x3, x4⟩ := HE.out.k.four'
 have HF : Hid (Sn W (Z.setCell ⟨sb, 1, none⟩ (.int .i64 (e : Int))) sb mb s e s' c' R) := HE.out.to e
 clear hGz HZ HY HT hHeld HE; go_wp2_with fail; go_end0
 exact ⟨rfl, s', c', HF.out⟩
end Go.Proofs.YtkkofminndboaaaGreatDoor
