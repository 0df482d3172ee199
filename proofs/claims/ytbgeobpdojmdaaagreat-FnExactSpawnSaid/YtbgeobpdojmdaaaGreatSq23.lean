import Derived.Test.YtbgeobpdojmdaaaGreatSq21
import Derived.Test.YtbgeobpdojmdaaaGreatSq22
namespace Go.Proofs.YtbgeobpdojmdaaaGreat
open Go.RowKit Go.Maps Go.WideMaps
set_option linter.unusedVariables false
set_option linter.unusedSimpArgs false
set_option maxRecDepth 100000
theorem ERow.els {w : World} {B : Nat} {v : Value} {L : List E2} (h : ERow w B v L) : ∃ s c, v = .slice s L.length c ∧ Els 2 cEnt w B s L := by
 rcases h.form with ⟨rfl, rfl⟩ | ⟨g, cap, rfl, hB, hg, hc⟩
 ·
  exact ⟨none, 0, rfl, Els.nil⟩
 refine ⟨_, cap, rfl, Or.inr ⟨g, 0, rfl, hB, hg, fun j a ha => ⟨[.int .i64 a.1, .int .i64 a.2], rfl, fun i u hu => ?_, rfl⟩, fun _ o => World.ownsRow.frozenAt h o⟩⟩
 obtain ⟨q1, q2, _, _⟩ := hc j a ha
 match i, hu with
 | 0, hu => simp at hu; subst hu; rw [Nat.zero_add, Nat.mul_comm]; exact q1
 | 1, hu => simp at hu; subst hu; rw [Nat.zero_add, Nat.mul_comm]; exact q2
theorem listB_bE {G F : List Int} : ∀ x ∈ listB G F, bE x := by
 intro x hx
 unfold listB at hx
 split at hx
 ·
  rename_i hok
  simp only [okE, decide_eq_true_eq] at hok
  simp only [LK, List.mem_map, List.mem_filter, List.mem_range] at hx
  obtain ⟨i, ⟨hi, _⟩, rfl⟩ := hx
  have hg := hok.2.1 (G[i]?.getD 0) (by simp [hi])
  unfold bE
  simp only
  omega
 simp at hx
theorem listB_len {G F : List Int} : (listB G F).length ≤ 2000 := by
 unfold listB
 split
 ·
  rename_i hok
  simp only [okE, decide_eq_true_eq] at hok
  have h1 : (LK G F G.length).length ≤ G.length := by
   unfold LK
   rw [List.length_map]
   exact Nat.le_trans (List.length_filter_le _ _) (by simp)
  omega
 simp
theorem kTabs_take {T : List Tab} (h : kTabs T) (m : Nat) : kTabs (T.take m) := ⟨by simp; have := h.1; omega, fun t ht => h.2 t (List.mem_of_mem_take ht)⟩
theorem Els.take' {α : Type} {k : Nat} {E : World → Nat → List Value → α → Prop} {w : World} {B : Nat} {s : Option Addr} {L : List α} (h : Els k E w B s L) (m : Nat) : Els k E w B s (L.take m) := by
 rcases h with rfl | ⟨b, o, rfl, h1, h2, h3, hz⟩
 ·
  exact Or.inl (by simp)
 refine Or.inr ⟨b, o, rfl, h1, h2, fun j a ha => h3 j a ?_, hz⟩
 rw [List.getElem?_take] at ha
 split at ha
 ·
  exact ha
 cases ha
def tabA (A : List (ByteArray × Int)) (T : List Tab) (i : Nat) : Bool := (T[i]?).elim true fun t => tabB A t && !hasC (T.take i) t.cols
def tabsB (A : List (ByteArray × Int)) (T : List Tab) : Bool := (List.range T.length).all (tabA A T)
def standB (A B C : List (ByteArray × Int)) (W : Wd) : Bool := okR A B C && okE W.gens W.free && resB B W.res && decide (W.tabs.length ≤ 40) && tabsB A W.tabs && onceB (listB W.gens W.free) W.tabs
theorem standB_at {A B C : List (ByteArray × Int)} {W : Wd} {j : Nat} (hj : j < W.tabs.length) (h : tabA A W.tabs j = false) : false = standB A B C W := by
 cases hs : standB A B C W
 ·
  rfl
 simp only [standB, tabsB, Bool.and_eq_true, List.all_eq_true, List.mem_range] at hs
 have := hs.1.2 j hj
 rw [h] at this; cases this
theorem standB_all {A B C : List (ByteArray × Int)} {W : Wd} (h1 : okR A B C = true) (h2 : okE W.gens W.free = true) (h3 : resB B W.res = true) (h4 : W.tabs.length ≤ 40) (h : ∀ (j : Nat), j < W.tabs.length → tabA A W.tabs j = true) : onceB (listB W.gens W.free) W.tabs = standB A B C W := by
 have h5 : tabsB A W.tabs = true := by simp only [tabsB, List.all_eq_true, List.mem_range]; exact h
 simp [standB, h1, h2, h3, h4, h5]
theorem tabA_eq {A : List (ByteArray × Int)} {T : List Tab} {i : Nat} {t : Tab} (h : T[i]? = some t) : tabA A T i = (tabB A t && !hasC (T.take i) t.cols) := by simp [tabA, h]
set_option maxHeartbeats 8000000 in
theorem standsOf_any (s1 s2 s3 : Option Addr) (c1 c2 c3 : Nat) (A B C : List (ByteArray × Int)) (a1 a2 a3 a4 : Option Addr) (b1 b2 b3 b4 : Nat) (W : Wd) (w : World) (hA : Decls w s1 A) (hB : Decls w s2 B) (hC : Decls w s3 C) (nm : ∀ i, i < (A ++ B ++ C).length → (dAt (A ++ B ++ C) i).1.size ≤ maxLen) (l1 : A.length ≤ 1048576) (l2 : B.length ≤ 1048576) (l3 : C.length ≤ 1048576)
  (hW : InW w 0 a1 a2 a3 a4 W) (hk : kW W) (hcap : W.tabs.length ≤ b3) (bR : ∀ t ∈ W.tabs, ∀ x ∈ t.rows, bE x) :
  Calls Tryz.prog 67 #[.agg #[.slice s1 A.length c1, .slice s2 B.length c2, .slice s3 C.length c3], .agg #[.slice a1 W.gens.length b1, .slice a2 W.free.length b2, .slice a3 W.tabs.length b3, .slice a4 W.res.length b4]] w fun e w' => (∃ v, e = .returned (.tuple #[v, .bool (standB A B C W)]) ∧ (standB A B C W = true → ∃ b n f, v = .map (some b) ∧ SM w' b n f ∧ Std (listB W.gens W.free) W.tabs (rowsOf W.tabs) f ∧ w.heap.size ≤ b ∧ n ≤ 1099512676352) ∧ ∃ mb, v = .map mb) ∧ Below w.heap.size w w' := by
 have hal := alloc_old
 have haf := alloc_oldf
 obtain ⟨kg, kf, hkt, kr⟩ := hk
 obtain ⟨k0, k1, L0⟩ := boxTwo w #[.slice s1 A.length c1, .slice s2 B.length c2, .slice s3 C.length c3] #[.slice a1 W.gens.length b1, .slice a2 W.free.length b2, .slice a3 W.tabs.length b3, .slice a4 W.res.length b4] 47 40
 go_enter Tryz.func67, Tryz.ntmps67
 go_wp2_with fail; refine (implRegOk_any s1 s2 s3 c1 c2 c3 A B C _ (hA.later L0) (hB.later L0) (hC.later L0) nm l1 l2 l3).mono ?_
 rintro e w1 ⟨rfl, hb1⟩
 have L1 := bl_trans L0 hb1
 have k0 := k0.later hb1
 have k1 := k1.later hb1
 obtain ⟨x0, x1, x2, x3⟩ := k0.three'
 obtain ⟨y0, y1, y2, y3, y4⟩ := k1.four'
 clear hb1 L0; cases hok : okR A B C
 ·
  have HF : Hid (false = standB A B C W) := by simp [Hid, standB, hok]
  go_wp2_with fail; refine bodyPost_ret (v := .tuple #[.map none, .bool false]) (by simp [results, Tryz.results67, go_sem]) rfl ⟨⟨_, by rw [← HF.out], fun h => (by rw [← HF.out] at h; cases h), _, rfl⟩, L1⟩
 go_wp2_with fail; refine (implEntsOk_any a1 a2 b1 b2 W.gens W.free _ (hW.g.later cInt_keeps L1).ints (hW.f.later cInt_keeps L1).ints kf).mono ?_
 rintro e w2 ⟨rfl, hb2⟩
 have L2 := bl_trans L1 hb2
 have k0 := k0.later hb2
 have k1 := k1.later hb2
 clear x0 x1 x2 x3 y0 y1 y2 y3 y4 hb2 L1; obtain ⟨x0, x1, x2, x3⟩ := k0.three'
 obtain ⟨y0, y1, y2, y3, y4⟩ := k1.four'
 cases hoe : okE W.gens W.free
 ·
  have HF : Hid (false = standB A B C W) := by simp [Hid, standB, hoe]
  go_wp2_with fail; refine bodyPost_ret (v := .tuple #[.map none, .bool false]) (by simp [results, Tryz.results67, go_sem]) rfl ⟨⟨_, by rw [← HF.out], fun h => (by rw [← HF.out] at h; cases h), _, rfl⟩, L2⟩
 go_wp2_with fail; refine (ressOk_any s1 s2 s3 c1 c2 c3 A B C a4 b4 W.res 0 _ (hB.later L2) (hW.r.later cVal_keeps L2) l2 kr).mono ?_
 rintro e w3 ⟨rfl, hb3⟩
 have L3 := bl_trans L2 hb3
 have k0 := k0.later hb3
 have k1 := k1.later hb3
 clear x0 x1 x2 x3 y0 y1 y2 y3 y4 hb3 L2; obtain ⟨x0, x1, x2, x3⟩ := k0.three'
 obtain ⟨y0, y1, y2, y3, y4⟩ := k1.four'
 cases hre : resB B W.res
 ·
  have HF : Hid (false = standB A B C W) := by simp [Hid, standB, hre]
  go_wp2_with fail; refine bodyPost_ret (v := .tuple #[.map none, .bool false]) (by simp [results, Tryz.results67, go_sem]) rfl ⟨⟨_, by rw [← HF.out], fun h => (by rw [← HF.out] at h; cases h), _, rfl⟩, L3⟩
 by_cases h40 : W.tabs.length ≤ 40
 ·
  have g0 : ¬ 40 < W.tabs.length := by omega
  have HG : Hid (okR A B C = true ∧ okE W.gens W.free = true ∧ resB B W.res = true) := ⟨hok, hoe, hre⟩
  clear hok hoe hre; go_wp2_with fail; clear g0 x0 x1 x2 x3 y0 y1 y2 y3 y4; obtain ⟨X, hX⟩ : ∃ X, w3 = X := ⟨_, rfl⟩
  rw [hX] at k0 k1 L3 ⊢
  clear hX; have HX : Hid (Below w.heap.size w X) := L3
  have HAX : Hid (Decls X s1 A) := hA.later L3
  have HWX : Hid (InW X 0 a1 a2 a3 a4 W) := hW.later L3
  have K0 : Hid (Blk X w.heap.size #[.slice s1 A.length c1, .slice s2 B.length c2, .slice s3 C.length c3] 47) := k0
  have K1 : Hid (Blk X (w.heap.size + 1) #[.slice a1 W.gens.length b1, .slice a2 W.free.length b2, .slice a3 W.tabs.length b3, .slice a4 W.res.length b4] 40) := k1
  have BRW : Hid (∀ t ∈ W.tabs, ∀ x ∈ t.rows, bE x) := bR
  have NM : Hid (∀ i, i < (A ++ B ++ C).length → (dAt (A ++ B ++ C) i).1.size ≤ maxLen) := nm
  clear hA hB hC hW L3 k0 k1 bR nm; go_loopw [33] (fun i wr => ∃ (m : Nat), m ≤ W.tabs.length ∧ i = .int .i64 m ∧ Hid (Below X.heap.size X wr ∧ ∀ (j : Nat), j < m → tabA A W.tabs j = true)) (fun i _ => W.tabs.length - (intOf i).toNat)
  case atStart => exact ⟨0, Nat.zero_le _, rfl, Below.refl _ _, fun j hj => absurd hj (Nat.not_lt_zero _)⟩
  obtain ⟨m, hm, rfl, hN⟩ := hrel
  by_cases hlt : m < W.tabs.length
  ·
   obtain ⟨t, ht⟩ := get_some hlt
   have hEt := HWX.out.t.later cTab_keeps hN.out.1
   have TE : Hid (tabA A W.tabs m = (tabB A t && !hasC (W.tabs.take m) t.cols)) := tabA_eq ht
   obtain ⟨P, eP⟩ : ∃ P, Hid (W.tabs.take m = P) := ⟨_, rfl⟩
   obtain ⟨tb, tq, rfl, _, hp, t1, d1, t2, d2, t3, d3, z0, z1, z2, f1, f2, f3⟩ := eTab_cells hEt ht
   have TE : Hid (tabA A W.tabs m = (tabB A t && !hasC P t.cols)) := by rw [← eP.out]; exact TE.out
   have HPl : Hid (P.length = m) := by show _ = _; rw [← eP.out]; simp; omega
   have KP : Hid (kTabs P) := by rw [← eP.out]; exact kTabs_take hkt m
   have HPw : Hid (Els 3 cTab wr 0 (some ⟨tb, tq, none⟩) P) := by rw [← eP.out]; exact hEt.take' m
   have ktt := hkt.2 t (List.mem_of_getElem? ht)
   have kt1 := ktt.1
   have kt2 := ktt.2.1
   have kt3 := ktt.2.2.1
   have KT4 : Hid (∀ (j : Nat) L, t.cells[j]? = some L → L.length ≤ 1048576) := fun j L hL => ktt.2.2.2 L (List.mem_of_getElem? hL)
   have G1 : Hid (Els 1 cInt wr 0 t1 t.cols ∧ Els 1 cVals wr 0 t3 t.cells) := ⟨f1, f3⟩
   have mI0 : (0 : Int) ≤ (m : Int) := by omega
   have mI1 : (m : Int) ≤ (W.tabs.length : Int) := by omega
   have mI2 : (m : Int) ≤ (b3 : Int) := by omega
   clear hEt ht f1 f2 f3 ktt eP; go_wp2_with fail; have hY1 : Hid (Below wr.heap.size wr (wr.alloc (.cells #[.slice t1 t.cols.length d1, .slice t2 t.rows.length d2, .slice t3 t.cells.length d3] 119))) := bl_alloc (Below.refl _ _) _
   obtain ⟨x0, x1, x2, x3⟩ := (K0.out.later (bl_trans hN.out.1 hY1.out)).three'
   obtain ⟨y0, y1, y2, y3, y4⟩ := (K1.out.later (bl_trans hN.out.1 hY1.out)).four'
   clear z0 z1 z2; obtain ⟨z0, z1, z2, z3⟩ := (Blk.new wr #[.slice t1 t.cols.length d1, .slice t2 t.rows.length d2, .slice t3 t.cells.length d3] 119).three'
   generalize hYe : wr.alloc (.cells #[.slice t1 t.cols.length d1, .slice t2 t.rows.length d2, .slice t3 t.cells.length d3] 119) = Y at hY1 x0 x1 x2 y2 z0 z1 z2 ⊢
   have HA : Hid (Decls Y s1 A) := HAX.out.later (bl_trans hN.out.1 hY1.out)
   have F1 : Hid (Els 1 cInt Y 0 t1 t.cols) := G1.out.1.later cInt_keeps hY1.out
   have F3 : Hid (Els 1 cVals Y 0 t3 t.cells) := G1.out.2.later cVals_keeps hY1.out
   have HP : Hid (Els 3 cTab Y 0 (some ⟨tb, tq, none⟩) P) := HPw.out.later cTab_keeps hY1.out
   clear hYe x3 y0 y1 y3 y4 z3 HPw G1; cases htb : tabB A t
   ·
    have HB : Hid (tabA A W.tabs m = false) := by show _ = _; rw [TE.out, htb]; rfl
    have HF : Hid (false = standB A B C W) := standB_at hlt HB.out
    refine wp_region_held_drew (S := (fun w' => w'.cell? ⟨w.heap.size, 0, none⟩ = some (.slice s1 A.length c1) ∧ w'.cell? ⟨w.heap.size, 1, none⟩ = some (.slice s2 B.length c2) ∧ w'.cell? ⟨w.heap.size, 2, none⟩ = some (.slice s3 C.length c3) ∧ w'.cell? ⟨w.heap.size + 1, 2, none⟩ = some (.slice (some ⟨tb, tq, none⟩) W.tabs.length b3) ∧ w'.cell? ⟨wr.heap.size, 0, none⟩ = some (.slice t1 t.cols.length d1) ∧ w'.cell? ⟨wr.heap.size, 1, none⟩ = some (.slice t2 t.rows.length d2) ∧ w'.cell? ⟨wr.heap.size, 2, none⟩ = some (.slice t3 t.cells.length d3))) (by kernel_rfl) ?_ (fun hHeld => ?_)
    ·
     exact ⟨x0, x1, x2, y2, z0, z1, z2⟩
    refine wpr 0 38 ?_; simp only [zs]; refine wpr 1 39 ?_; simp only [zs]; refine wpy 2 fun K hK => ?_
    go_simp; refine (tableOk_any s1 s2 s3 c1 c2 c3 A B C t1 t2 t3 d1 d2 d3 t 0 _ (HA.out.later (bl_drew (Below.refl _ _))) (F1.out.later cInt_keeps (bl_drew (Below.refl _ _))) (F3.out.later cVals_keeps (bl_drew (Below.refl _ _))) l1 kt1 kt2 kt3 KT4.out).mono ?_
    rintro e w2 ⟨rfl, hb_w2⟩
    rw [htb]
    have hc_w2 : Below Y.heap.size Y w2 := bl_trans (bl_drew (Below.refl _ _)) hb_w2
    have hY_w2 : Hid (Below Y.heap.size Y w2) := hc_w2
    have x0 := kcell hc_w2 x0
    have x1 := kcell hc_w2 x1
    have x2 := kcell hc_w2 x2
    have y2 := kcell hc_w2 y2
    have z0 := kcell hc_w2 z0
    have z1 := kcell hc_w2 z1
    have z2 := kcell hc_w2 z2
    clear hb_w2 hc_w2; refine hK.out _ _ ?_ (fun hHeld => ?_)
    ·
     exact ⟨x0, x1, x2, y2, z0, z1, z2⟩
    clear hK K; try simp only [zs]
    refine wpr 3 41 ?_; simp only [zs]; refine wpr 4 42 ?_; simp only [zs]; refine wpAnyH_skip (by kernel_rfl) (fun _ _ _ _ h => h) [(5, 43), (6, 44), (7, 45), (8, 46), (9, 47), (10, 48), (11, 49), (12, 50)] 1 _ _ _ (by assumption) (by kernel_rfl) ?_ _ rfl
    simp only [zs]; refine wpr 13 51 ?_; simp only [zs]; refine wpAnyH_done (by kernel_rfl) ?_ _
    go_wp2_with fail; refine bodyPost_ret (v := .tuple #[.map none, .bool false]) (by simp [results, Tryz.results67, go_sem]) rfl ⟨⟨_, by rw [← HF.out], fun h => (by rw [← HF.out] at h; cases h), _, rfl⟩, bl_trans HX.out (bl_trans hN.out.1 (bl_trans hY1.out hY_w2.out))⟩
   cases hhc : hasC P t.cols
   ·
    have HB : Hid (tabA A W.tabs m = true) := by show _ = _; rw [TE.out, htb, hhc]; rfl
    have hhc : Hid (hasC P t.cols = false) := hhc
    refine wp_region_held_drew (S := (fun w' => w'.cell? ⟨w.heap.size, 0, none⟩ = some (.slice s1 A.length c1) ∧ w'.cell? ⟨w.heap.size, 1, none⟩ = some (.slice s2 B.length c2) ∧ w'.cell? ⟨w.heap.size, 2, none⟩ = some (.slice s3 C.length c3) ∧ w'.cell? ⟨w.heap.size + 1, 2, none⟩ = some (.slice (some ⟨tb, tq, none⟩) W.tabs.length b3) ∧ w'.cell? ⟨wr.heap.size, 0, none⟩ = some (.slice t1 t.cols.length d1) ∧ w'.cell? ⟨wr.heap.size, 1, none⟩ = some (.slice t2 t.rows.length d2) ∧ w'.cell? ⟨wr.heap.size, 2, none⟩ = some (.slice t3 t.cells.length d3))) (by kernel_rfl) ?_ (fun hHeld => ?_)
    ·
     exact ⟨x0, x1, x2, y2, z0, z1, z2⟩
    refine wpr 0 38 ?_; simp only [zs]; refine wpr 1 39 ?_; simp only [zs]; refine wpy 2 fun K hK => ?_
    go_simp; refine (tableOk_any s1 s2 s3 c1 c2 c3 A B C t1 t2 t3 d1 d2 d3 t 0 _ (HA.out.later (bl_drew (Below.refl _ _))) (F1.out.later cInt_keeps (bl_drew (Below.refl _ _))) (F3.out.later cVals_keeps (bl_drew (Below.refl _ _))) l1 kt1 kt2 kt3 KT4.out).mono ?_
    rintro e w2 ⟨rfl, hb_w2⟩
    rw [htb]
    have hc_w2 : Below Y.heap.size Y w2 := bl_trans (bl_drew (Below.refl _ _)) hb_w2
    have hY_w2 : Hid (Below Y.heap.size Y w2) := hc_w2
    have x0 := kcell hc_w2 x0
    have x1 := kcell hc_w2 x1
    have x2 := kcell hc_w2 x2
    have y2 := kcell hc_w2 y2
    have z0 := kcell hc_w2 z0
    have z1 := kcell hc_w2 z1
    have z2 := kcell hc_w2 z2
    clear hb_w2 hc_w2; refine hK.out _ _ ?_ (fun hHeld => ?_)
    ·
     exact ⟨x0, x1, x2, y2, z0, z1, z2⟩
    clear hK K; try simp only [zs]
    refine wpr 3 41 ?_; simp only [zs]; refine wpr 4 42 ?_; simp only [zs]; refine wpr 5 43 ?_; simp only [zs]; refine wpr 6 44 ?_; simp only [zs]; refine wpr 7 45 ?_; simp only [zs]; refine wpr 8 46 ?_; simp only [zs]; refine wpr 9 47 ?_; simp only [zs]; refine wpr 10 48 ?_; simp only [zs]; refine wpy 11 fun K hK => ?_
    go_simp; refine (tableWith_any (some ⟨tb, tq, none⟩) b3 P m t1 d1 t.cols 0 0 _ HPl.out (HP.out.later cTab_keeps hY_w2.out) (F1.out.later cInt_keeps hY_w2.out) KP.out kt1).mono ?_
    rintro e w4 ⟨⟨r, rfl, hr⟩, hb_w4⟩
    rw [hhc.out] at hr
    have hr : Hid (decide (r ≥ 0) = false) := hr
    have hr2 : ¬ 0 ≤ r := by have := hr.out; simp at this; omega
    have hY_w4 : Hid (Below Y.heap.size Y w4) := bl_trans hY_w2.out hb_w4
    have x0 := kcell hb_w4 x0
    have x1 := kcell hb_w4 x1
    have x2 := kcell hb_w4 x2
    have y2 := kcell hb_w4 y2
    have z0 := kcell hb_w4 z0
    have z1 := kcell hb_w4 z1
    have z2 := kcell hb_w4 z2
    clear hb_w4; refine hK.out _ _ ?_ (fun hHeld => ?_)
    ·
     exact ⟨x0, x1, x2, y2, z0, z1, z2⟩
    clear hK K; try simp only [zs]
    refine wpr 12 50 ?_; simp only [zs]; refine wpr 13 51 ?_; simp only [zs]; refine wpAnyH_done (by kernel_rfl) ?_ _
    have hZ : Hid (Below X.heap.size X w4) := bl_trans hN.out.1 (bl_trans hY1.out hY_w4.out)
    go_wp2_with fail; go_roundw
    case rel => exact ⟨m + 1, by omega, by go_num, hZ.out, fun j hj => by
     by_cases hjm : j = m
     ·
      subst hjm; exact HB.out
     exact hN.out.2 j (by omega)⟩
    case measure => simp [intOf]; omega
   have HB : Hid (tabA A W.tabs m = false) := by show _ = _; rw [TE.out, htb, hhc]; rfl
   have HF : Hid (false = standB A B C W) := standB_at hlt HB.out
   have hhc : Hid (hasC P t.cols = true) := hhc
   refine wp_region_held_drew (S := (fun w' => w'.cell? ⟨w.heap.size, 0, none⟩ = some (.slice s1 A.length c1) ∧ w'.cell? ⟨w.heap.size, 1, none⟩ = some (.slice s2 B.length c2) ∧ w'.cell? ⟨w.heap.size, 2, none⟩ = some (.slice s3 C.length c3) ∧ w'.cell? ⟨w.heap.size + 1, 2, none⟩ = some (.slice (some ⟨tb, tq, none⟩) W.tabs.length b3) ∧ w'.cell? ⟨wr.heap.size, 0, none⟩ = some (.slice t1 t.cols.length d1) ∧ w'.cell? ⟨wr.heap.size, 1, none⟩ = some (.slice t2 t.rows.length d2) ∧ w'.cell? ⟨wr.heap.size, 2, none⟩ = some (.slice t3 t.cells.length d3))) (by kernel_rfl) ?_ (fun hHeld => ?_)
   ·
    exact ⟨x0, x1, x2, y2, z0, z1, z2⟩
   refine wpr 0 38 ?_; simp only [zs]; refine wpr 1 39 ?_; simp only [zs]; refine wpy 2 fun K hK => ?_
   go_simp; refine (tableOk_any s1 s2 s3 c1 c2 c3 A B C t1 t2 t3 d1 d2 d3 t 0 _ (HA.out.later (bl_drew (Below.refl _ _))) (F1.out.later cInt_keeps (bl_drew (Below.refl _ _))) (F3.out.later cVals_keeps (bl_drew (Below.refl _ _))) l1 kt1 kt2 kt3 KT4.out).mono ?_
   rintro e w2 ⟨rfl, hb_w2⟩
   rw [htb]
   have hc_w2 : Below Y.heap.size Y w2 := bl_trans (bl_drew (Below.refl _ _)) hb_w2
   have hY_w2 : Hid (Below Y.heap.size Y w2) := hc_w2
   have x0 := kcell hc_w2 x0
   have x1 := kcell hc_w2 x1
   have x2 := kcell hc_w2 x2
   have y2 := kcell hc_w2 y2
   have z0 := kcell hc_w2 z0
   have z1 := kcell hc_w2 z1
   have z2 := kcell hc_w2 z2
   clear hb_w2 hc_w2; refine hK.out _ _ ?_ (fun hHeld => ?_)
   ·
    exact ⟨x0, x1, x2, y2, z0, z1, z2⟩
   clear hK K; try simp only [zs]
   refine wpr 3 41 ?_; simp only [zs]; refine wpr 4 42 ?_; simp only [zs]; refine wpr 5 43 ?_; simp only [zs]; refine wpr 6 44 ?_; simp only [zs]; refine wpr 7 45 ?_; simp only [zs]; refine wpr 8 46 ?_; simp only [zs]; refine wpr 9 47 ?_; simp only [zs]; refine wpr 10 48 ?_; simp only [zs]; refine wpy 11 fun K hK => ?_
   go_simp; refine (tableWith_any (some ⟨tb, tq, none⟩) b3 P m t1 d1 t.cols 0 0 _ HPl.out (HP.out.later cTab_keeps hY_w2.out) (F1.out.later cInt_keeps hY_w2.out) KP.out kt1).mono ?_
   rintro e w4 ⟨⟨r, rfl, hr⟩, hb_w4⟩
   rw [hhc.out] at hr
   have hr : Hid (decide (r ≥ 0) = true) := hr
   have hr2 : 0 ≤ r := by have := hr.out; simp at this; omega
   have hY_w4 : Hid (Below Y.heap.size Y w4) := bl_trans hY_w2.out hb_w4
   have x0 := kcell hb_w4 x0
   have x1 := kcell hb_w4 x1
   have x2 := kcell hb_w4 x2
   have y2 := kcell hb_w4 y2
   have z0 := kcell hb_w4 z0
   have z1 := kcell hb_w4 z1
   have z2 := kcell hb_w4 z2
   clear hb_w4; refine hK.out _ _ ?_ (fun hHeld => ?_)
   ·
    exact ⟨x0, x1, x2, y2, z0, z1, z2⟩
   clear hK K; try simp only [zs]
   refine wpr 12 50 ?_; simp only [zs]; refine wpr 13 51 ?_; simp only [zs]; refine wpAnyH_done (by kernel_rfl) ?_ _
   go_wp2_with fail; refine bodyPost_ret (v := .tuple #[.map none, .bool false]) (by simp [results, Tryz.results67, go_sem]) rfl ⟨⟨_, by rw [← HF.out], fun h => (by rw [← HF.out] at h; cases h), _, rfl⟩, bl_trans HX.out (bl_trans hN.out.1 (bl_trans hY1.out hY_w4.out))⟩
  have hm' : m = W.tabs.length := by omega
  subst hm'
  have HS : Hid (onceB (listB W.gens W.free) W.tabs = standB A B C W) := standB_all HG.out.1 HG.out.2.1 HG.out.2.2 h40 (fun j hj => hN.out.2 j hj)
  have HWr : Hid (InW wr 0 a1 a2 a3 a4 W) := HWX.out.later hN.out.1
  have HLl : Hid ((listB W.gens W.free).length ≤ 1048576) := Nat.le_trans listB_len (by omega)
  have BLV : Hid (∀ x ∈ listB W.gens W.free, bE x) := listB_bE
  obtain ⟨y0, y1, y2, y3, y4⟩ := (K1.out.later hN.out.1).four'
  go_wp2_with fail; refine wp_region_held_drew (S := (fun w' => w'.cell? ⟨w.heap.size + 1, 0, none⟩ = some (.slice a1 W.gens.length b1) ∧ w'.cell? ⟨w.heap.size + 1, 1, none⟩ = some (.slice a2 W.free.length b2) ∧ w'.cell? ⟨w.heap.size + 1, 2, none⟩ = some (.slice a3 W.tabs.length b3))) (by kernel_rfl) ?_ (fun hHeld => ?_)
  ·
   exact ⟨y0, y1, y2⟩
  refine wpr 0 53 ?_; simp only [zs]; refine wpr 1 54 ?_; simp only [zs]; refine wpr 3 56 ?_; simp only [zs]; refine wpr 4 57 ?_; simp only [zs]; refine wpy 2 fun K hK => ?_
  go_simp; refine (implList_any a1 a2 b1 b2 W.gens W.free _ (HWr.out.g.later cInt_keeps (bl_drew (Below.refl _ _))).ints (HWr.out.f.later cInt_keeps (bl_drew (Below.refl _ _))).ints kf).mono ?_
  rintro e w2 ⟨vv, rfl, hrow, hb_w2⟩
  obtain ⟨sv, cv, rfl, hEv⟩ := hrow.els
  have hc_w2 : Below wr.heap.size wr w2 := bl_trans (bl_drew (Below.refl _ _)) hb_w2
  have hY_w2 : Hid (Below wr.heap.size wr w2) := hc_w2
  have HEv : Hid (Els 2 cEnt w2 wr.drew.heap.size sv (listB W.gens W.free)) := hEv
  have y0 := kcell hc_w2 y0
  have y1 := kcell hc_w2 y1
  have y2 := kcell hc_w2 y2
  clear hb_w2 hc_w2 hrow hEv; refine hK.out _ _ ?_ (fun hHeld => ?_)
  ·
   exact ⟨y0, y1, y2⟩
  clear hK K; try simp only [zs]
  refine wpy 5 fun K hK => ?_
  go_simp; refine (eachOnce_any sv cv (listB W.gens W.free) a3 b3 W.tabs _ _ _ HEv.out (HWr.out.t.later cTab_keeps hY_w2.out) HLl.out hkt BLV.out BRW.out).mono ?_
  rintro e w4 ⟨⟨v, rfl, hv, hmv⟩, hb_w4⟩
  have hY_w4 : Hid (Below wr.heap.size wr w4) := bl_trans hY_w2.out hb_w4
  have HV : Hid (onceB (listB W.gens W.free) W.tabs = true → ∃ b n f, v = .map (some b) ∧ SM w4 b n f ∧ Std (listB W.gens W.free) W.tabs (rowsOf W.tabs) f ∧ w.heap.size ≤ b ∧ n ≤ 1099512676352) := fun h => by obtain ⟨b, n, f, q1, q2, q3, q4, q5⟩ := hv h; exact ⟨b, n, f, q1, q2, q3, Nat.le_trans (bl_trans HX.out (bl_trans hN.out.1 hY_w2.out)).size q4, q5⟩
  have y0 := kcell hb_w4 y0
  have y1 := kcell hb_w4 y1
  have y2 := kcell hb_w4 y2
  clear hb_w4 hv; refine hK.out _ _ ?_ (fun hHeld => ?_)
  ·
   exact ⟨y0, y1, y2⟩
  clear hK K; try simp only [zs]
  refine wpr 6 59 ?_; simp only [zs]; refine wpr 7 60 ?_; simp only [zs]; refine wpr 8 4 ?_; simp only [zs]; refine wpr 9 5 ?_; simp only [zs]; refine wpAnyH_done (by kernel_rfl) ?_ _
  go_wp2_with fail; refine bodyPost_ret (v := .tuple #[v, .bool (onceB (listB W.gens W.free) W.tabs)]) (by simp [results, Tryz.results67, go_sem]) rfl ⟨⟨v, by rw [← HS.out], fun h => HV.out (by rw [HS.out]; exact h), hmv⟩, bl_trans HX.out (bl_trans hN.out.1 hY_w4.out)⟩
 have g0 : 40 < W.tabs.length := by omega
 have HF : Hid (false = standB A B C W) := by simp [Hid, standB, h40]
 go_wp2_with fail; refine bodyPost_ret (v := .tuple #[.map none, .bool false]) (by simp [results, Tryz.results67, go_sem]) rfl ⟨⟨_, by rw [← HF.out], fun h => (by rw [← HF.out] at h; cases h), _, rfl⟩, L3⟩
end Go.Proofs.YtbgeobpdojmdaaaGreat
