import Derived.Test.YtbgeobpdojmdaaaGreatSq29
import Derived.Test.YtbgeobpdojmdaaaGreatSq23
namespace Go.Proofs.YtbgeobpdojmdaaaGreat
open Go.RowKit Go.Maps Go.WideMaps
set_option linter.unusedVariables false
set_option linter.unusedSimpArgs false
set_option maxRecDepth 100000
theorem okR_l12 {A B C : List (ByteArray × Int)} (h : okR A B C = true) : A.length ≤ 12 := by
 simp only [okR, Bool.and_eq_true, decide_eq_true_eq] at h
 exact h.1.1.1
theorem mem_listB {G F : List Int} {x : E2} (h : x ∈ listB G F) : ∃ a : Nat, a < G.length ∧ x = ((a : Int), G[a]?.getD 0) := by
 unfold listB at h
 split at h
 ·
  simp only [LK, List.mem_map, List.mem_filter, List.mem_range] at h
  obtain ⟨i, ⟨hi, _⟩, rfl⟩ := h
  exact ⟨i, hi, rfl⟩
 simp at h
def BRow (w : World) (B g n : Nat) (p : Nat → Bool) : Prop := w.ownsRow B 4 1 (.slice (some ⟨g, 0, none⟩) n n) n ((List.range n).map fun a => .bool (p a))
theorem BRow.later {w w' : World} {B g n : Nat} {p : Nat → Bool} (h : BRow w B g n p) (hb : Below w.heap.size w w') : BRow w' B g n p := by
 refine World.ownsRow.kept h (grown_of_below hb) ?_
 exact Or.inr (by simp [Value.ownBlock])
theorem BRow.at {w : World} {B g n : Nat} {p : Nat → Bool} (h : BRow w B g n p) {a : Nat} (ha : a < n) : B ≤ g ∧ g < w.heap.size ∧ w.cell? ⟨g, a, none⟩ = some (.bool (p a)) ∧ ∀ o, w.frozen? ⟨g, o, none⟩ = false := by
 have hlt := World.ownsRow.lt h g rfl
 refine ⟨hlt.1, hlt.2, ?_, fun o => World.ownsRow.frozenAt h o⟩
 rw [World.ownsRow.cellAt h a (by simpa using ha)]
 simp [ha]
theorem BRow.put {w : World} {B g n : Nat} {p : Nat → Bool} (h : BRow w B g n p) {a : Nat} (ha : a < n) (b : Bool) : BRow (w.setCell ⟨g, a, none⟩ (.bool b)) B g n (fun x => if x = a then b else p x) := by
 have := (World.ownsRow.stored h a (.bool b)).1
 unfold BRow
 have e : ((List.range n).map fun x => Value.bool (p x)).set a (.bool b) = (List.range n).map fun x => Value.bool (if x = a then b else p x) := by
  apply List.ext_getElem (by simp)
  intro i h1 h2
  simp at h1 h2
  rw [List.getElem_set]
  by_cases e : a = i
  ·
   subst e; simp
  have e' : ¬ i = a := fun h => e h.symm
  simp [e, e']
 rw [← e]
 exact this
theorem BRow.congr {w : World} {B g n : Nat} {p q : Nat → Bool} (h : BRow w B g n p) (e : ∀ a, a < n → p a = q a) : BRow w B g n q := by
 unfold BRow at h ⊢
 have : ((List.range n).map fun x => Value.bool (p x)) = (List.range n).map fun x => Value.bool (q x) := List.map_congr_left (fun a ha => by rw [e a (by simpa using ha)])
 rw [← this]
 exact h
theorem BRow.new {w : World} {B g n : Nat} (h : w.ownsRow B 4 1 (.slice (some ⟨g, 0, none⟩) n n) n (List.replicate n (.bool false))) : BRow w B g n (fun _ => false) := by
 unfold BRow
 have e : ((List.range n).map fun _ => Value.bool false) = List.replicate n (.bool false) := by
  apply List.ext_getElem (by simp)
  intro i h1 h2
  simp
 rw [e]
 exact h
def lft (G F : List Int) (R : List E2) (a : Nat) : Bool := decide (((a : Int), G[a]?.getD 0) ∈ listB G F) && !decide (((a : Int), G[a]?.getD 0) ∈ R)
theorem lft_put {G F : List Int} {R : List E2} {a : Nat} : ∀ x, x < G.length → (if x = a then false else lft G F R x) = lft G F (R ++ [((a : Int), G[a]?.getD 0)]) x := by
 intro x _
 by_cases e : x = a
 ·
  subst e; simp [lft]
 have e' : ¬ ((x : Int) = (a : Int)) := by omega
 simp [lft, e, e']
def stbA (A : List (ByteArray × Int)) (T : List Tab) (i : Nat) : Bool := (T[i]?).elim true fun t => stabB A t && !hasC (T.take i) t.cols
def specB (A B C : List (ByteArray × Int)) (W : Wd) : Bool := okR A B C && okE W.gens W.free && decide (W.tabs.length ≤ 40) && resB B W.res && (List.range W.tabs.length).all (stbA A W.tabs) && onceB (listB W.gens W.free) W.tabs
theorem specB_at {A B C : List (ByteArray × Int)} {W : Wd} {j : Nat} (hj : j < W.tabs.length) (h : stbA A W.tabs j = false) : false = specB A B C W := by
 cases hs : specB A B C W
 ·
  rfl
 simp only [specB, Bool.and_eq_true, List.all_eq_true, List.mem_range] at hs
 have := hs.1.2 j hj
 rw [h] at this; cases this
theorem specB_once {A B C : List (ByteArray × Int)} {W : Wd} (h : false = onceB (listB W.gens W.free) W.tabs) : false = specB A B C W := by simp [specB, ← h]
theorem specB_all {A B C : List (ByteArray × Int)} {W : Wd} (h1 : okR A B C = true) (h2 : okE W.gens W.free = true) (h3 : resB B W.res = true) (h4 : W.tabs.length ≤ 40) (h : ∀ (j : Nat), j < W.tabs.length → stbA A W.tabs j = true) : onceB (listB W.gens W.free) W.tabs = specB A B C W := by
 have h5 : (List.range W.tabs.length).all (stbA A W.tabs) = true := by simp only [List.all_eq_true, List.mem_range]; exact h
 simp [specB, h1, h2, h3, h4, h5]
theorem stbA_eq {A : List (ByteArray × Int)} {T : List Tab} {i : Nat} {t : Tab} (h : T[i]? = some t) : stbA A T i = (stabB A t && !hasC (T.take i) t.cols) := by simp [stbA, h]
theorem hasC_no {T : List Tab} {cols : List Int} {i : Nat} (h : ∀ (k : Nat) u, k < i → T[k]? = some u → sl eqI u.cols cols = false) : hasC (T.take i) cols = false := by
 rw [hasC, List.any_eq_false]
 intro t ht
 obtain ⟨j, hj, rfl⟩ := List.getElem_of_mem ht
 simp at hj
 have h1 : j < i := by omega
 have h2 : j < T.length := by omega
 have := h j _ h1 (List.getElem?_eq_getElem h2)
 simp [this]
theorem hasC_yes {T : List Tab} {cols : List Int} {i k : Nat} {u : Tab} (hk : k < i) (hu : T[k]? = some u) (h : sl eqI u.cols cols = true) : hasC (T.take i) cols = true := by
 rw [hasC, List.any_eq_true]
 exact ⟨u, List.mem_of_getElem? (by rw [List.getElem?_take, if_pos hk]; exact hu), h⟩
theorem resB_kind {B : List (ByteArray × Int)} {R : List V4} {j : Nat} {v : V4} {kd : Int} (hv : R[j]? = some v) (hk : (dAt B j).2 = kd) (h : vofB kd v = false) : false = resB B R := resB_at hv (by rw [hk]; exact h)
set_option maxHeartbeats 16000000 in
theorem specWorldOk_any (p1 q1 c1 p2 q2 c2 p3 q3 c3 : Nat) (A B C : List (ByteArray × Int)) (a1 a2 a3 a4 : Option Addr) (b1 b2 b3 b4 : Nat) (W : Wd) (w : World) (hA : Decls w (some ⟨p1, q1, none⟩) A) (hB : Decls w (some ⟨p2, q2, none⟩) B) (hC : Decls w (some ⟨p3, q3, none⟩) C)
  (hW : InW w 0 a1 a2 a3 a4 W) (hk : kW W) :
  Calls Tryz.prog 25 #[.agg #[.slice (some ⟨p1, q1, none⟩) A.length c1, .slice (some ⟨p2, q2, none⟩) B.length c2, .slice (some ⟨p3, q3, none⟩) C.length c3], .agg #[.slice a1 W.gens.length b1, .slice a2 W.free.length b2, .slice a3 W.tabs.length b3, .slice a4 W.res.length b4]] w fun e w' => e = .returned (.bool (specB A B C W)) ∧ Below w.heap.size w w' := by
 have hal := alloc_old
 have haf := alloc_oldf
 obtain ⟨kg, kf, hkt, kr⟩ := hk
 obtain ⟨k0, k1, L0⟩ := boxTwo w #[.slice (some ⟨p1, q1, none⟩) A.length c1, .slice (some ⟨p2, q2, none⟩) B.length c2, .slice (some ⟨p3, q3, none⟩) C.length c3] #[.slice a1 W.gens.length b1, .slice a2 W.free.length b2, .slice a3 W.tabs.length b3, .slice a4 W.res.length b4] 47 40
 obtain ⟨ib, hib, hib0, hib1, hib2⟩ := info_parts Tryz.infoB
 go_enter Tryz.func25, Tryz.ntmps25
 go_wp2_with fail; refine (specRegOk_any p1 q1 c1 p2 q2 c2 p3 q3 c3 A B C _ (hA.later L0) (hB.later L0) (hC.later L0)).mono ?_
 rintro e w1 ⟨rfl, hb1⟩
 have L1 := bl_trans L0 hb1
 have k0 := k0.later hb1
 have k1 := k1.later hb1
 obtain ⟨x0, x1, x2, x3⟩ := k0.three'
 obtain ⟨y0, y1, y2, y3, y4⟩ := k1.four'
 clear hb1 L0; cases hok : okR A B C
 ·
  have HF : Hid (false = specB A B C W) := by simp [Hid, specB, hok]
  go_wp2_with fail; go_ret; exact ⟨ret_bool' HF.out, L1⟩
 go_wp2_with fail; refine (specEntsOk_any a1 a2 b1 b2 W.gens W.free _ (hW.g.later cInt_keeps L1).ints (hW.f.later cInt_keeps L1).ints).mono ?_
 rintro e w2 ⟨rfl, hb2⟩
 have L2 := bl_trans L1 hb2
 have k0 := k0.later hb2
 have k1 := k1.later hb2
 clear x0 x1 x2 x3 y0 y1 y2 y3 y4 hb2 L1; obtain ⟨x0, x1, x2, x3⟩ := k0.three'
 obtain ⟨y0, y1, y2, y3, y4⟩ := k1.four'
 cases hoe : okE W.gens W.free
 ·
  have HF : Hid (false = specB A B C W) := by simp [Hid, specB, hoe]
  go_wp2_with fail; go_ret; exact ⟨ret_bool' HF.out, L2⟩
 by_cases h40 : W.tabs.length ≤ 40
 ·
  have g0 : ¬ 40 < W.tabs.length := by omega
  have g0i : ¬ (40 : Int) < (W.tabs.length : Int) := by omega
  by_cases hrl : W.res.length = B.length
  ·
   have t0 : ((W.res.length : Int) != (B.length : Int)) = false := by simp [hrl]
   have l12 := okR_l12 hok
   have HG : Hid (okR A B C = true ∧ okE W.gens W.free = true) := ⟨hok, hoe⟩
   have HRL : Hid (W.res.length = B.length) := hrl
   clear hok hoe hrl; go_wp2_with fail; clear g0 g0i t0 x0 x1 x2 x3 y0 y1 y2 y3 y4; obtain ⟨X0, hX0⟩ : ∃ X0, w2 = X0 := ⟨_, rfl⟩
   rw [hX0] at k0 k1 L2 ⊢
   clear hX0; have HX0 : Hid (Below w.heap.size w X0) := L2
   have HAX : Hid (Decls X0 (some ⟨p1, q1, none⟩) A ∧ Decls X0 (some ⟨p2, q2, none⟩) B) := ⟨hA.later L2, hB.later L2⟩
   have HWX : Hid (InW X0 0 a1 a2 a3 a4 W) := hW.later L2
   have K0 : Hid (Blk X0 w.heap.size #[.slice (some ⟨p1, q1, none⟩) A.length c1, .slice (some ⟨p2, q2, none⟩) B.length c2, .slice (some ⟨p3, q3, none⟩) C.length c3] 47) := k0
   have K1 : Hid (Blk X0 (w.heap.size + 1) #[.slice a1 W.gens.length b1, .slice a2 W.free.length b2, .slice a3 W.tabs.length b3, .slice a4 W.res.length b4] 40) := k1
   clear hA hB hC hW L2 k0 k1; go_loopw [5] (fun i wr => ∃ (m : Nat), m ≤ W.res.length ∧ i = .int .i64 m ∧ Hid (Below X0.heap.size X0 wr ∧ ∀ (j : Nat) v, j < m → W.res[j]? = some v → vofB (dAt B j).2 v = true)) (fun i _ => W.res.length - (intOf i).toNat)
   case atStart => exact ⟨0, Nat.zero_le _, rfl, Below.refl _ _, fun j v hj => absurd hj (Nat.not_lt_zero _)⟩
   obtain ⟨m, hm, rfl, hN⟩ := hrel
   obtain ⟨x0, x1, x2, x3⟩ := (K0.out.later hN.out.1).three'
   obtain ⟨y0, y1, y2, y3, y4⟩ := (K1.out.later hN.out.1).four'
   by_cases hlt : m < W.res.length
   ·
    obtain ⟨v, hv⟩ := get_some hlt
    obtain ⟨qb, qo, rfl, _, hq2, hov, f1, f2, f3, f4⟩ := eVal_cells (HWX.out.r.later cVal_keeps hN.out.1) hv
    have hmB : m < B.length := by have := HRL.out; omega
    obtain ⟨pb, po, epb, hpb, e1, e2⟩ := (HAX.out.2.later hN.out.1).get hmB
    obtain ⟨rfl, rfl⟩ : p2 = pb ∧ q2 = po := by cases epb; exact ⟨rfl, rfl⟩
    obtain ⟨kd, hkd⟩ : ∃ kd, Hid ((dAt B m).2 = kd) := ⟨_, rfl⟩
    rw [hkd.out] at e2
    have hov : Hid (okV v) := hov
    have HV : Hid (W.res[m]? = some v) := hv
    have mI0 : (0 : Int) ≤ (m : Int) := by omega
    have mI1 : (m : Int) < (W.res.length : Int) := by omega
    have mI2 : (m : Int) < (B.length : Int) := by omega
    clear hv e1 epb; go_wp2_with fail; cases hok4 : okV4 v
    ·
     have HF : Hid (false = specB A B C W) := by
      have := resB_kind HV.out hkd.out (show vofB kd v = false by simp [vofB, hok4])
      simp [Hid, specB, ← this]
     refine wp_region_held_drew (S := (fun w' => w'.cell? ⟨w.heap.size + 1, 3, none⟩ = some (.slice (some ⟨qb, qo, none⟩) W.res.length b4) ∧ w'.cell? ⟨qb, qo + m * 4, none⟩ = some (.int .i64 v.1) ∧ w'.cell? ⟨qb, qo + m * 4 + 1, none⟩ = some (.int .i64 v.2.1) ∧ w'.cell? ⟨qb, qo + m * 4 + 2, none⟩ = some (.float .f64 v.2.2.1) ∧ w'.cell? ⟨qb, qo + m * 4 + 3, none⟩ = some (.float .f64 v.2.2.2) ∧ w'.cell? ⟨w.heap.size, 1, none⟩ = some (.slice (some ⟨p2, q2, none⟩) B.length c2) ∧ w'.cell? ⟨p2, q2 + m * 2 + 1, none⟩ = some (.int .i64 kd))) (by kernel_rfl) ?_ (fun hHeld => ?_)
     ·
      exact ⟨y3, f1, f2, f3, f4, x1, e2⟩
     refine wpr 0 46 ?_; simp only [zs]; refine wpr 1 47 ?_; simp only [zs]; refine wpr 2 48 ?_; simp only [zs]; refine wpr 3 49 ?_; simp only [zs]; refine wpr 4 50 ?_; simp only [zs]; refine wpy 5 fun K hK => ?_
     go_simp; refine (specOk_any v.1 v.2.1 v.2.2.1 v.2.2.2 _ hov.out.2.1 hov.out.2.2).mono ?_
     rintro e w4 ⟨rfl, hw4⟩
     rw [show okB v.1 v.2.1 v.2.2.1 v.2.2.2 = okV4 v from rfl, hok4]
     have hc_w4 : Below wr.heap.size wr w4 := by rw [hw4]; exact bl_alloc (bl_drew (Below.refl _ _)) _
     clear hw4; have hX_w4 : Hid (Below X0.heap.size X0 w4) := bl_trans hN.out.1 hc_w4
     have y3 := kcell hc_w4 y3
     have f1 := kcell hc_w4 f1
     have f2 := kcell hc_w4 f2
     have f3 := kcell hc_w4 f3
     have f4 := kcell hc_w4 f4
     have x1 := kcell hc_w4 x1
     have e2 := kcell hc_w4 e2
     clear hc_w4; refine hK.out _ _ ?_ (fun hHeld => ?_)
     ·
      exact ⟨y3, f1, f2, f3, f4, x1, e2⟩
     clear hK K; try simp only [zs]
     refine wpr 6 52 ?_; simp only [zs]; refine wpr 7 53 ?_; simp only [zs]; refine wpAnyH_skip (by kernel_rfl) (fun _ _ _ _ h => h) [(8, 54), (9, 55), (10, 56), (11, 57), (12, 58), (13, 59), (14, 60), (15, 61), (16, 62), (17, 63), (18, 64), (19, 65), (20, 66)] 1 _ _ _ (by assumption) (by kernel_rfl) ?_ _ rfl
     simp only [zs]; refine wpr 21 67 ?_; simp only [zs]; refine wpAnyH_done (by kernel_rfl) ?_ _
     go_wp2_with fail; go_ret; exact ⟨ret_bool' HF.out, bl_trans HX0.out hX_w4.out⟩
    cases hkk : (v.1 == kd : Bool)
    ·
     have HF : Hid (false = specB A B C W) := by
      have := resB_kind HV.out hkd.out (show vofB kd v = false by simp [vofB, hkk])
      simp [Hid, specB, ← this]
     have hkn : (v.1 != kd) = true := by simp [bne, hkk]
     clear hkk; refine wp_region_held_drew (S := (fun w' => w'.cell? ⟨w.heap.size + 1, 3, none⟩ = some (.slice (some ⟨qb, qo, none⟩) W.res.length b4) ∧ w'.cell? ⟨qb, qo + m * 4, none⟩ = some (.int .i64 v.1) ∧ w'.cell? ⟨qb, qo + m * 4 + 1, none⟩ = some (.int .i64 v.2.1) ∧ w'.cell? ⟨qb, qo + m * 4 + 2, none⟩ = some (.float .f64 v.2.2.1) ∧ w'.cell? ⟨qb, qo + m * 4 + 3, none⟩ = some (.float .f64 v.2.2.2) ∧ w'.cell? ⟨w.heap.size, 1, none⟩ = some (.slice (some ⟨p2, q2, none⟩) B.length c2) ∧ w'.cell? ⟨p2, q2 + m * 2 + 1, none⟩ = some (.int .i64 kd))) (by kernel_rfl) ?_ (fun hHeld => ?_)
     ·
      exact ⟨y3, f1, f2, f3, f4, x1, e2⟩
     refine wpr 0 46 ?_; simp only [zs]; refine wpr 1 47 ?_; simp only [zs]; refine wpr 2 48 ?_; simp only [zs]; refine wpr 3 49 ?_; simp only [zs]; refine wpr 4 50 ?_; simp only [zs]; refine wpy 5 fun K hK => ?_
     go_simp; refine (specOk_any v.1 v.2.1 v.2.2.1 v.2.2.2 _ hov.out.2.1 hov.out.2.2).mono ?_
     rintro e w4 ⟨rfl, hw4⟩
     rw [show okB v.1 v.2.1 v.2.2.1 v.2.2.2 = okV4 v from rfl, hok4]
     have hc_w4 : Below wr.heap.size wr w4 := by rw [hw4]; exact bl_alloc (bl_drew (Below.refl _ _)) _
     clear hw4; have hX_w4 : Hid (Below X0.heap.size X0 w4) := bl_trans hN.out.1 hc_w4
     have y3 := kcell hc_w4 y3
     have f1 := kcell hc_w4 f1
     have f2 := kcell hc_w4 f2
     have f3 := kcell hc_w4 f3
     have f4 := kcell hc_w4 f4
     have x1 := kcell hc_w4 x1
     have e2 := kcell hc_w4 e2
     clear hc_w4; refine hK.out _ _ ?_ (fun hHeld => ?_)
     ·
      exact ⟨y3, f1, f2, f3, f4, x1, e2⟩
     clear hK K; try simp only [zs]
     refine wpr 6 52 ?_; simp only [zs]; refine wpr 7 53 ?_; simp only [zs]; refine wpr 8 54 ?_; simp only [zs]; refine wpr 9 55 ?_; simp only [zs]; refine wpr 10 56 ?_; simp only [zs]; refine wpr 11 57 ?_; simp only [zs]; refine wpr 12 58 ?_; simp only [zs]; refine wpr 13 59 ?_; simp only [zs]; refine wpr 14 60 ?_; simp only [zs]; refine wpr 15 61 ?_; simp only [zs]; refine wpr 16 62 ?_; simp only [zs]
     refine wpr 17 63 ?_; simp only [zs]; refine wpr 18 64 ?_; simp only [zs]; refine wpr 19 65 ?_; simp only [zs]; refine wpr 20 66 ?_; simp only [zs]; refine wpr 21 67 ?_; simp only [zs]; refine wpAnyH_done (by kernel_rfl) ?_ _
     go_wp2_with fail; go_ret; exact ⟨ret_bool' HF.out, bl_trans HX0.out hX_w4.out⟩
    have HB : Hid (vofB (dAt B m).2 v = true) := by show _ = _; rw [hkd.out, vofB, hkk, hok4]; rfl
    have hkn : (v.1 != kd) = false := by simp [bne, hkk]
    clear hkk; refine wp_region_held_drew (S := (fun w' => w'.cell? ⟨w.heap.size + 1, 3, none⟩ = some (.slice (some ⟨qb, qo, none⟩) W.res.length b4) ∧ w'.cell? ⟨qb, qo + m * 4, none⟩ = some (.int .i64 v.1) ∧ w'.cell? ⟨qb, qo + m * 4 + 1, none⟩ = some (.int .i64 v.2.1) ∧ w'.cell? ⟨qb, qo + m * 4 + 2, none⟩ = some (.float .f64 v.2.2.1) ∧ w'.cell? ⟨qb, qo + m * 4 + 3, none⟩ = some (.float .f64 v.2.2.2) ∧ w'.cell? ⟨w.heap.size, 1, none⟩ = some (.slice (some ⟨p2, q2, none⟩) B.length c2) ∧ w'.cell? ⟨p2, q2 + m * 2 + 1, none⟩ = some (.int .i64 kd))) (by kernel_rfl) ?_ (fun hHeld => ?_)
    ·
     exact ⟨y3, f1, f2, f3, f4, x1, e2⟩
    refine wpr 0 46 ?_; simp only [zs]; refine wpr 1 47 ?_; simp only [zs]; refine wpr 2 48 ?_; simp only [zs]; refine wpr 3 49 ?_; simp only [zs]; refine wpr 4 50 ?_; simp only [zs]; refine wpy 5 fun K hK => ?_
    go_simp; refine (specOk_any v.1 v.2.1 v.2.2.1 v.2.2.2 _ hov.out.2.1 hov.out.2.2).mono ?_
    rintro e w4 ⟨rfl, hw4⟩
    rw [show okB v.1 v.2.1 v.2.2.1 v.2.2.2 = okV4 v from rfl, hok4]
    have hc_w4 : Below wr.heap.size wr w4 := by rw [hw4]; exact bl_alloc (bl_drew (Below.refl _ _)) _
    clear hw4; have hX_w4 : Hid (Below X0.heap.size X0 w4) := bl_trans hN.out.1 hc_w4
    have y3 := kcell hc_w4 y3
    have f1 := kcell hc_w4 f1
    have f2 := kcell hc_w4 f2
    have f3 := kcell hc_w4 f3
    have f4 := kcell hc_w4 f4
    have x1 := kcell hc_w4 x1
    have e2 := kcell hc_w4 e2
    clear hc_w4; refine hK.out _ _ ?_ (fun hHeld => ?_)
    ·
     exact ⟨y3, f1, f2, f3, f4, x1, e2⟩
    clear hK K; try simp only [zs]
    refine wpr 6 52 ?_; simp only [zs]; refine wpr 7 53 ?_; simp only [zs]; refine wpr 8 54 ?_; simp only [zs]; refine wpr 9 55 ?_; simp only [zs]; refine wpr 10 56 ?_; simp only [zs]; refine wpr 11 57 ?_; simp only [zs]; refine wpr 12 58 ?_; simp only [zs]; refine wpr 13 59 ?_; simp only [zs]; refine wpr 14 60 ?_; simp only [zs]; refine wpr 15 61 ?_; simp only [zs]; refine wpr 16 62 ?_; simp only [zs]
    refine wpr 17 63 ?_; simp only [zs]; refine wpr 18 64 ?_; simp only [zs]; refine wpr 19 65 ?_; simp only [zs]; refine wpr 20 66 ?_; simp only [zs]; refine wpr 21 67 ?_; simp only [zs]; refine wpAnyH_done (by kernel_rfl) ?_ _
    have hZ : Hid (Below X0.heap.size X0 w4) := hX_w4
    go_wp2_with fail; go_roundw
    case rel => exact ⟨m + 1, by omega, by go_num, hZ.out, fun j u hj hu => by
     by_cases hjm : j = m
     ·
      subst hjm
      rw [HV.out] at hu
      cases hu
      exact HB.out
     exact hN.out.2 j u (by omega) hu⟩
    case measure => simp [intOf]; omega
   have HRB : Hid (resB B W.res = true) := (resB_all HRL.out (fun j v hv => hN.out.2 j v (by have := (List.getElem?_eq_some_iff.mp hv).1; omega) hv)).symm
   have hm' : m = W.res.length := by omega
   subst hm'
   clear x0 x1 x2 x3 y1 y2 y4; obtain ⟨X, hX⟩ : ∃ X, wr = X := ⟨_, rfl⟩
   have HXb : Hid (Below X0.heap.size X0 X) := by rw [← hX]; exact hN.out.1
   rw [hX] at y0 y3 ⊢
   clear hX hN; have HWr : Hid (InW X 0 a1 a2 a3 a4 W) := HWX.out.later HXb.out
   have HAr : Hid (Decls X (some ⟨p1, q1, none⟩) A) := HAX.out.1.later HXb.out
   have KX : Hid ((Blk X w.heap.size #[.slice (some ⟨p1, q1, none⟩) A.length c1, .slice (some ⟨p2, q2, none⟩) B.length c2, .slice (some ⟨p3, q3, none⟩) C.length c3] 47) ∧ Blk X (w.heap.size + 1) #[.slice a1 W.gens.length b1, .slice a2 W.free.length b2, .slice a3 W.tabs.length b3, .slice a4 W.res.length b4] 40) := ⟨K0.out.later HXb.out, K1.out.later HXb.out⟩
   have HXw : Hid (Below w.heap.size w X) := bl_trans HX0.out HXb.out
   clear HWX HAX K0 K1 HX0 HXb; go_wp2_with (at_make; refine wpList_make_full _ rfl _ _ 114 rfl X.heap.size 4 ib (.bool false) 1 Tryz.underlying114 hib hib0 hib1 .i64 .i64 _ _ W.gens.length rfl rfl rfl rfl (by rw [hib2]; omega) (by unfold maxLen; omega) (Nat.le_refl _) ?_)
   intro w3 hown hgrow
   have m3 : Below X.heap.size X w3 := (Below.refl _ X).grown hgrow (Nat.le_refl _) (fun k h => by cases h)
   obtain ⟨g, hg⟩ : ∃ g, Hid (g = X.heap.size) := ⟨_, rfl⟩
   have HBR : Hid (BRow w3 X.heap.size g W.gens.length (fun _ => false)) := by
    rw [toList_madeCells_one] at hown
    rw [hg.out]
    exact BRow.new hown
   rw [← hg.out]
   obtain ⟨z0, z1, z2, z3, z4⟩ := (KX.out.2.later m3).four'
   have M3 : Hid (Below X.heap.size X w3) := m3
   clear hown hgrow hib hib0 hib1 hib2 m3 y0 y3; go_wp2_with fail; refine (specList_any a1 a2 b1 b2 W.gens W.free _ (HWr.out.g.later cInt_keeps M3.out).ints (HWr.out.f.later cInt_keeps M3.out).ints).mono ?_
   rintro e Z ⟨vv, rfl, hrow, hbz⟩
   obtain ⟨sv, cv, rfl, hEv⟩ := hrow.els
   obtain ⟨LV, hLV⟩ : ∃ LV, Hid (listB W.gens W.free = LV) := ⟨_, rfl⟩
   have hLl : LV.length ≤ 2000 := by rw [← hLV.out]; exact listB_len
   rw [hLV.out] at hEv ⊢
   have gw3 := (HBR.out.at (a := 0))
   have HEv : Hid (Els 2 cEnt Z w3.heap.size sv LV) := hEv
   have HBZ : Hid (BRow Z X.heap.size g W.gens.length (fun _ => false)) := HBR.out.later hbz
   have MZ : Hid (Below X.heap.size X Z) := bl_trans M3.out hbz
   have HgZ : Hid (g + 1 ≤ w3.heap.size ∧ X.heap.size ≤ g) := by
    have := World.ownsRow.lt HBR.out g rfl
    exact ⟨this.2, this.1⟩
   clear hrow hEv hbz z0 z1 z2 z3 z4 gw3 HBR M3; go_wp2_with fail; go_loopw [8] (fun i wr => ∃ (k : Nat) (p : Nat → Bool), k ≤ LV.length ∧ i = .int .i64 k ∧ Hid ((∀ a, a < W.gens.length → p a = decide (((a : Int), W.gens[a]?.getD 0) ∈ LV.take k)) ∧ BRow wr X.heap.size g W.gens.length p ∧ Kept (g + 1) Z wr ∧ Below X.heap.size X wr)) (fun i _ => LV.length - (intOf i).toNat)
   case atStart => exact ⟨0, _, Nat.zero_le _, rfl, fun a _ => by simp, HBZ.out, Kept.refl _ _, MZ.out⟩
   clear HBZ MZ; obtain ⟨k, p, hk, rfl, hN⟩ := hrel
   by_cases hlk : k < LV.length
   ·
    obtain ⟨x, hx⟩ := get_some hlk
    obtain ⟨a, haG, hxa⟩ := mem_listB (G := W.gens) (F := W.free) (x := x) (by rw [hLV.out]; exact List.mem_of_getElem? hx)
    have hEk : Els 2 cEnt Z (g + 1) sv LV := HEv.out.drop cEnt_drops HgZ.out.1
    obtain ⟨lb, lo, rfl, _, hpl, r1, r2⟩ := eEnt_cells (hEk.kept cEnt_keeps hN.out.2.2.1) hx
    subst hxa
    dsimp only at r1 r2
    have HTK : Hid (LV.take (k + 1) = LV.take k ++ [((a : Int), W.gens[a]?.getD 0)]) := take_rows hx
    obtain ⟨_, hgl, lc, lf⟩ := hN.out.2.1.at haG
    have aI0 : (0 : Int) ≤ (a : Int) := by omega
    have aI1 : (a : Int) < (W.gens.length : Int) := by omega
    clear hx hEk r2; have hr : Hid ((∀ b, b < W.gens.length → (fun y => if y = a then true else p y) b = decide (((b : Int), W.gens[b]?.getD 0) ∈ LV.take (k + 1))) ∧ BRow (wr.setCell ⟨g, a, none⟩ (.bool true)) X.heap.size g W.gens.length (fun y => if y = a then true else p y) ∧ Kept (g + 1) Z (wr.setCell ⟨g, a, none⟩ (.bool true)) ∧ Below X.heap.size X (wr.setCell ⟨g, a, none⟩ (.bool true))) := by
     refine ⟨fun b hb => ?_, hN.out.2.1.put haG true, hN.out.2.2.1.trans (Kept.set _ (by simp) _), hN.out.2.2.2.setCell (by simpa using HgZ.out.2) _⟩
     rw [HTK.out]
     by_cases e : b = a
     ·
      subst e; simp
     have e' : ¬ ((b : Int) = (a : Int)) := by omega
     simp [e, e', hN.out.1 b hb]
    clear hN; go_wp2_with fail; go_roundw
    case rel => exact ⟨k + 1, _, by omega, by go_num, hr⟩
    case measure => simp [intOf]; omega
   have hk' : k = LV.length := by omega
   subst hk'
   have HP0 : Hid (BRow wr X.heap.size g W.gens.length (lft W.gens W.free []) ∧ Below X.heap.size X wr) := by
    refine ⟨hN.out.2.1.congr (fun a ha => ?_), hN.out.2.2.2⟩
    rw [hN.out.1 a ha, List.take_length, lft, hLV.out]
    simp
   clear hN HEv; go_wp2_with fail; go_loopw [9, 10] (fun rs i wr => ∃ (m : Nat) (R : List E2), m ≤ W.tabs.length ∧ i = .int .i64 m ∧ rs = .int .i64 (R.length : Nat) ∧ Hid (R = rowsOf (W.tabs.take m) ∧ R.length ≤ m * 1048576 ∧ R.Nodup ∧ (∀ x ∈ R, x ∈ LV) ∧ (∀ j : Nat, j < m → stbA A W.tabs j = true) ∧ BRow wr X.heap.size g W.gens.length (lft W.gens W.free R) ∧ Below X.heap.size X wr)) (fun _ i _ => W.tabs.length - (intOf i).toNat)
   case atStart => exact ⟨0, [], Nat.zero_le _, rfl, rfl, by simp [rowsOf], by simp, by simp, fun x hx => by simp at hx, fun j hj => absurd hj (Nat.not_lt_zero _), HP0.out⟩
   clear HP0; obtain ⟨m, R, hm, rfl, rfl, hN⟩ := hrel
   obtain ⟨x0, x1, x2, x3⟩ := (KX.out.1.later hN.out.2.2.2.2.2.2).three'
   obtain ⟨y0, y1, y2, y3, y4⟩ := (KX.out.2.later hN.out.2.2.2.2.2.2).four'
   by_cases hlm : m < W.tabs.length
   ·
    obtain ⟨t, ht⟩ := get_some hlm
    obtain ⟨tb, tq, rfl, _, hpt, t1, d1, t2, d2, t3, d3, e1, e2, e3, f1, f2, f3⟩ := eTab_cells HWr.out.t ht
    have e1 := kcell hN.out.2.2.2.2.2.2 e1
    have e2 := kcell hN.out.2.2.2.2.2.2 e2
    have e3 := kcell hN.out.2.2.2.2.2.2 e3
    have TE : Hid (stbA A W.tabs m = (stabB A t && !hasC (W.tabs.take m) t.cols)) := stbA_eq ht
    have HTm : Hid (W.tabs[m]? = some t) := ht
    have ktt := hkt.2 t (List.mem_of_getElem? ht)
    have kt1 := ktt.1
    have kt2 := ktt.2.1
    have kt3 := ktt.2.2.1
    have KT4 : Hid (∀ (j : Nat) L, t.cells[j]? = some L → L.length ≤ 1048576) := fun j L hL => ktt.2.2.2 L (List.mem_of_getElem? hL)
    have GX : Hid (Els 1 cInt X 0 t1 t.cols ∧ Els 2 cEnt X 0 t2 t.rows ∧ Els 1 cVals X 0 t3 t.cells) := ⟨f1, f2, f3⟩
    have mI0 : (0 : Int) ≤ (m : Int) := by omega
    have mI1 : (m : Int) < (W.tabs.length : Int) := by omega
    clear ht f1 f2 f3 ktt; go_wp2_with fail; obtain ⟨bt, hbt⟩ : ∃ bt, Hid (wr.heap.size = bt) := ⟨_, rfl⟩
    have KB := Blk.new wr #[.slice t1 t.cols.length d1, .slice t2 t.rows.length d2, .slice t3 t.cells.length d3] 119
    have hY1 : Below wr.heap.size wr (wr.alloc (.cells #[.slice t1 t.cols.length d1, .slice t2 t.rows.length d2, .slice t3 t.cells.length d3] 119)) := bl_alloc (Below.refl _ _) _
    have HLo : Hid (Below X.heap.size X (wr.alloc (.cells #[.slice t1 t.cols.length d1, .slice t2 t.rows.length d2, .slice t3 t.cells.length d3] 119))) := bl_trans hN.out.2.2.2.2.2.2 hY1
    refine (l4TableOk_any _ _ _ _ _ _ A B C t1 t2 t3 d1 d2 d3 t 0 _ (HAr.out.later HLo.out) (GX.out.1.later cInt_keeps HLo.out) (GX.out.2.2.later cVals_keeps HLo.out) (by omega) kt1 kt2 kt3 KT4.out).mono ?_
    rintro e V ⟨rfl, hbv⟩
    have HV : Hid (Below X.heap.size X V) := bl_trans HLo.out hbv
    have HGB : Hid (¬ bt = g) := by
     show ¬ _
     have := (World.ownsRow.lt hN.out.2.2.2.2.2.1 g rfl).2
     have := hbt.out
     omega
    rw [hbt.out] at KB ⊢
    have KBV : Hid (Blk V bt #[.slice t1 t.cols.length d1, .slice t2 t.rows.length d2, .slice t3 t.cells.length d3] 119) := KB.later hbv
    have HBV : Hid (BRow V X.heap.size g W.gens.length (lft W.gens W.free R)) := (hN.out.2.2.2.2.2.1.later hY1).later hbv
    have HR : Hid (R = rowsOf (W.tabs.take m) ∧ R.length ≤ m * 1048576 ∧ R.Nodup ∧ (∀ x ∈ R, x ∈ LV) ∧ (∀ j : Nat, j < m → stbA A W.tabs j = true)) := ⟨hN.out.1, hN.out.2.1, hN.out.2.2.1, hN.out.2.2.2.1, hN.out.2.2.2.2.1⟩
    clear KB hY1 HLo hbv hN x0 x1 x2 x3 y0 y1 y2 y3 y4 e1 e2 e3; cases hst : stabB A t
    ·
     have HF : Hid (false = specB A B C W) := specB_at hlm (by rw [TE.out, hst]; rfl)
     go_wp2_with fail; go_ret; exact ⟨ret_bool' HF.out, bl_trans HXw.out HV.out⟩
    go_wp2_with fail; go_loopw [12] (fun i wr => ∃ k : Nat, k ≤ m ∧ i = .int .i64 k ∧ Hid (Below V.heap.size V wr ∧ ∀ (j : Nat) u, j < k → W.tabs[j]? = some u → sl eqI u.cols t.cols = false)) (fun i _ => m - (intOf i).toNat)
    case atStart => exact ⟨0, Nat.zero_le _, rfl, Below.refl _ _, fun j u hj => absurd hj (Nat.not_lt_zero _)⟩
    obtain ⟨k, hk, rfl, hNk⟩ := hrel
    by_cases hlk : k < m
    ·
     obtain ⟨u, hu⟩ : ∃ u, W.tabs[k]? = some u := ⟨_, List.getElem?_eq_getElem (by omega)⟩
     obtain ⟨tb', tq', etb, _, _, v1, h1, v2, h2, v3, h3, u0, u1, u2, fu, _, _⟩ := eTab_cells (HWr.out.t.later cTab_keeps (bl_trans HV.out hNk.out.1)) hu
     obtain ⟨rfl, rfl⟩ : tb = tb' ∧ tq = tq' := by cases etb; exact ⟨rfl, rfl⟩
     have GU : Hid (Els 1 cInt wr 0 v1 u.cols) := fu
     have F1 : Hid (Els 1 cInt V 0 t1 t.cols) := GX.out.1.later cInt_keeps HV.out
     have ku := (hkt.2 u (List.mem_of_getElem? hu)).1
     have HU : Hid (W.tabs[k]? = some u) := hu
     obtain ⟨y0, y1, y2, y3, y4⟩ := (KX.out.2.later (bl_trans HV.out hNk.out.1)).four'
     have z0 := (KBV.out.later hNk.out.1).cell 0
     have kI0 : (0 : Int) ≤ (k : Int) := by omega
     have kI1 : (k : Int) < (W.tabs.length : Int) := by omega
     clear hu fu etb y0 y1 y3 y4 u1 u2; go_wp2_with fail; cases heq : sl eqI u.cols t.cols
     ·
      have heq : Hid (sl eqI u.cols t.cols = false) := heq
      refine wp_region_held_drew (S := (fun w' => w'.cell? ⟨w.heap.size + 1, 2, none⟩ = some (.slice (some ⟨tb, tq, none⟩) W.tabs.length b3) ∧ w'.cell? ⟨tb, tq + k * 3, none⟩ = some (.slice v1 u.cols.length h1) ∧ w'.cell? ⟨bt, 0, none⟩ = some (.slice t1 t.cols.length d1))) (by kernel_rfl) ?_ (fun hHeld => ?_)
      ·
       exact ⟨y2, u0, z0⟩
      refine wpr 0 110 ?_; simp only [zs]; refine wpr 1 111 ?_; simp only [zs]; refine wpr 2 112 ?_; simp only [zs]; refine wpr 3 113 ?_; simp only [zs]; refine wpr 4 114 ?_; simp only [zs]; refine wpr 5 115 ?_; simp only [zs]; refine wpr 6 116 ?_; simp only [zs]; refine wpr 7 117 ?_; simp only [zs]; refine wpy 8 fun K hK => ?_
      go_simp; refine (l4Equal_any v1 t1 h1 d1 u.cols t.cols 0 0 _ (GU.out.later cInt_keeps (bl_drew (Below.refl _ _))) ((F1.out.later cInt_keeps hNk.out.1).later cInt_keeps (bl_drew (Below.refl _ _))) ku kt1).mono ?_
      rintro e w4 ⟨rfl, hb_w4⟩
      rw [heq.out]
      have hc_w4 : Below wr.heap.size wr w4 := bl_trans (bl_drew (Below.refl _ _)) hb_w4
      have hV_w4 : Hid (Below V.heap.size V w4) := bl_trans hNk.out.1 hc_w4
      have y2 := kcell hc_w4 y2
      have u0 := kcell hc_w4 u0
      have z0 := kcell hc_w4 z0
      clear hb_w4 hc_w4; refine hK.out _ _ ?_ (fun hHeld => ?_)
      ·
       exact ⟨y2, u0, z0⟩
      clear hK K; try simp only [zs]
      refine wpAnyH_done (by kernel_rfl) ?_ _
      have hZ : Hid (Below V.heap.size V w4) := hV_w4
      go_wp2_with fail; go_roundw
      case rel => exact ⟨k + 1, by omega, by go_num, hZ.out, fun j u' hj hu' => by
       by_cases hjk : j = k
       ·
        subst hjk
        rw [HU.out] at hu'
        cases hu'
        exact heq.out
       exact hNk.out.2 j u' (by omega) hu'⟩
      case measure => simp [intOf]; omega
     have HF : Hid (false = specB A B C W) := specB_at hlm (by rw [TE.out, hasC_yes hlk HU.out heq]; simp)
     have heq : Hid (sl eqI u.cols t.cols = true) := heq
     refine wp_region_held_drew (S := (fun w' => w'.cell? ⟨w.heap.size + 1, 2, none⟩ = some (.slice (some ⟨tb, tq, none⟩) W.tabs.length b3) ∧ w'.cell? ⟨tb, tq + k * 3, none⟩ = some (.slice v1 u.cols.length h1) ∧ w'.cell? ⟨bt, 0, none⟩ = some (.slice t1 t.cols.length d1))) (by kernel_rfl) ?_ (fun hHeld => ?_)
     ·
      exact ⟨y2, u0, z0⟩
     refine wpr 0 110 ?_; simp only [zs]; refine wpr 1 111 ?_; simp only [zs]; refine wpr 2 112 ?_; simp only [zs]; refine wpr 3 113 ?_; simp only [zs]; refine wpr 4 114 ?_; simp only [zs]; refine wpr 5 115 ?_; simp only [zs]; refine wpr 6 116 ?_; simp only [zs]; refine wpr 7 117 ?_; simp only [zs]; refine wpy 8 fun K hK => ?_
     go_simp; refine (l4Equal_any v1 t1 h1 d1 u.cols t.cols 0 0 _ (GU.out.later cInt_keeps (bl_drew (Below.refl _ _))) ((F1.out.later cInt_keeps hNk.out.1).later cInt_keeps (bl_drew (Below.refl _ _))) ku kt1).mono ?_
     rintro e w4 ⟨rfl, hb_w4⟩
     rw [heq.out]
     have hc_w4 : Below wr.heap.size wr w4 := bl_trans (bl_drew (Below.refl _ _)) hb_w4
     have hV_w4 : Hid (Below V.heap.size V w4) := bl_trans hNk.out.1 hc_w4
     have y2 := kcell hc_w4 y2
     have u0 := kcell hc_w4 u0
     have z0 := kcell hc_w4 z0
     clear hb_w4 hc_w4; refine hK.out _ _ ?_ (fun hHeld => ?_)
     ·
      exact ⟨y2, u0, z0⟩
     clear hK K; try simp only [zs]
     refine wpAnyH_done (by kernel_rfl) ?_ _
     go_wp2_with fail; go_ret; exact ⟨ret_bool' HF.out, bl_trans HXw.out (bl_trans HV.out hV_w4.out)⟩
    have hk' : k = m := by omega
    subst hk'
    have HSA : Hid (∀ j : Nat, j < k + 1 → stbA A W.tabs j = true) := by
     intro j hj
     by_cases e : j = k
     ·
      subst e
      rw [TE.out, hst, hasC_no hNk.out.2]
      rfl
     exact HR.out.2.2.2.2 j (by omega)
    have HU0 : Hid (Blk wr bt #[.slice t1 t.cols.length d1, .slice t2 t.rows.length d2, .slice t3 t.cells.length d3] 119 ∧ BRow wr X.heap.size g W.gens.length (lft W.gens W.free R) ∧ Below X.heap.size X wr) := ⟨KBV.out.later hNk.out.1, HBV.out.later hNk.out.1, bl_trans HV.out hNk.out.1⟩
    clear hNk hst; go_wp2_with fail; go_loopw [9, 13] (fun rs i wr => ∃ (j : Nat) (R : List E2), j ≤ t.rows.length ∧ i = .int .i64 j ∧ rs = .int .i64 (R.length : Nat) ∧ Hid (R = rowsOf (W.tabs.take k) ++ t.rows.take j ∧ R.length ≤ k * 1048576 + j ∧ R.Nodup ∧ (∀ x ∈ R, x ∈ LV) ∧ BRow wr X.heap.size g W.gens.length (lft W.gens W.free R) ∧ Blk wr bt #[.slice t1 t.cols.length d1, .slice t2 t.rows.length d2, .slice t3 t.cells.length d3] 119 ∧ Below X.heap.size X wr)) (fun _ i _ => t.rows.length - (intOf i).toNat)
    case atStart =>
     refine ⟨0, R, Nat.zero_le _, rfl, rfl, ?_⟩
     have h3 : R.length ≤ k * 1048576 + 0 := Nat.le_trans HR.out.2.1 (Nat.le_add_right _ 0)
     exact ⟨by rw [HR.out.1]; simp, h3, HR.out.2.2.1, HR.out.2.2.2.1, HU0.out.2.1, HU0.out.1, HU0.out.2.2⟩
    clear HU0 HR HBV KBV; obtain ⟨j, R, hj, rfl, rfl, hN⟩ := hrel
    obtain ⟨z0, z1, z2, z3⟩ := hN.out.2.2.2.2.2.1.three'
    by_cases hlj : j < t.rows.length
    ·
     obtain ⟨e, he⟩ := get_some hlj
     obtain ⟨rb, ro, rfl, _, hpr, r1, r2⟩ := eEnt_cells GX.out.2.1 he
     have r1 := kcell hN.out.2.2.2.2.2.2 r1
     have r2 := kcell hN.out.2.2.2.2.2.2 r2
     have HE : Hid (t.rows[j]? = some e) := he
     have jI0 : (0 : Int) ≤ (j : Int) := by omega
     have jI1 : (j : Int) < (t.rows.length : Int) := by omega
     have hRl : Hid (R.length ≤ 1099512676352) := by
      show _ ≤ _
      have h1 := hN.out.2.1
      have h2 : k * 1048576 ≤ 1048576 * 1048576 := Nat.mul_le_mul (by omega) (Nat.le_refl _)
      omega
     clear he; go_wp2_with fail; obtain ⟨eb, heb⟩ : ∃ eb, Hid (wr.heap.size = eb) := ⟨_, rfl⟩
     have KE := Blk.new wr #[.int .i64 e.1, .int .i64 e.2] 42
     have hY1 : Below wr.heap.size wr (wr.alloc (.cells #[.int .i64 e.1, .int .i64 e.2] 42)) := bl_alloc (Below.refl _ _) _
     have HY : Hid (Below X.heap.size X (wr.alloc (.cells #[.int .i64 e.1, .int .i64 e.2] 42))) := bl_trans hN.out.2.2.2.2.2.2 hY1
     have HBY : Hid (BRow (wr.alloc (.cells #[.int .i64 e.1, .int .i64 e.2] 42)) X.heap.size g W.gens.length (lft W.gens W.free R)) := hN.out.2.2.2.2.1.later hY1
     have KTY : Hid (Blk (wr.alloc (.cells #[.int .i64 e.1, .int .i64 e.2] 42)) bt #[.slice t1 t.cols.length d1, .slice (some ⟨rb, ro, none⟩) t.rows.length d2, .slice t3 t.cells.length d3] 119) := hN.out.2.2.2.2.2.1.later hY1
     have HQ : Hid (R = rowsOf (W.tabs.take k) ++ t.rows.take j ∧ R.length ≤ k * 1048576 + j ∧ R.Nodup ∧ (∀ x ∈ R, x ∈ LV)) := ⟨hN.out.1, hN.out.2.1, hN.out.2.2.1, hN.out.2.2.2.1⟩
     obtain ⟨y0, y1, y2, y3, y4⟩ := (KX.out.2.later HY.out).four'
     rw [heb.out] at KE ⊢
     generalize hYe : wr.alloc (.cells #[.int .i64 e.1, .int .i64 e.2] 42) = Y at KE HY HBY KTY y0 ⊢
     obtain ⟨g1, g2, g3⟩ := KE.two
     have KEH : Hid (Blk Y eb #[.int .i64 e.1, .int .i64 e.2] 42) := KE
     have tn : IntKind.i64.wrap ((W.gens.length : Int) - 1) = (W.gens.length : Int) - 1 := by rw [IntKind.wrap_i64]; omega
     clear hYe hY1 hN KE y1 y2 y3 y4 g3 r1 r2 z0 z1 z2 z3; cases hin : (decide (0 ≤ e.1) && decide (e.1 ≤ (W.gens.length : Int) - 1))
     ·
      have hin : Hid ((decide (0 ≤ e.1) && decide (e.1 ≤ (W.gens.length : Int) - 1)) = false) := hin
      have HF : Hid (false = specB A B C W) := specB_once (onceB_out HTm.out HE.out (fun h => by
       obtain ⟨a, ha, he⟩ := mem_listB h
       have := hin.out
       rw [he] at this
       simp at this
       omega))
      refine wp_region_held_drew (S := (fun w' => w'.cell? ⟨eb, 0, none⟩ = some (.int .i64 e.1) ∧ w'.cell? ⟨eb, 1, none⟩ = some (.int .i64 e.2))) (by kernel_rfl) ?_ (fun hHeld => ?_)
      ·
       exact ⟨g1, g2⟩
      refine wpr 0 131 ?_; simp only [zs]; refine wpr 1 132 ?_; simp only [zs]; refine wpr 2 133 ?_; simp only [zs]; refine wpr 3 134 ?_; simp only [zs]; refine wpr 4 135 ?_; simp only [zs]; refine wpy 5 fun K hK => ?_
      go_simp; refine (l1In_any e.1 0 ((W.gens.length : Int) - 1) _).mono ?_
      rintro e0 w4 ⟨rfl, hw4⟩
      rw [hin.out]
      have hc_w4 : Below Y.heap.size Y w4 := by rw [hw4]; exact bl_drew (Below.refl _ _)
      clear hw4; have hY_w4 : Hid (Below Y.heap.size Y w4) := hc_w4
      have g1 := kcell hc_w4 g1
      have g2 := kcell hc_w4 g2
      clear hc_w4; refine hK.out _ _ ?_ (fun hHeld => ?_)
      ·
       exact ⟨g1, g2⟩
      clear hK K; try simp only [zs]
      refine wpr 6 137 ?_; simp only [zs]; refine wpr 7 138 ?_; simp only [zs]; refine wpAnyH_skip (by kernel_rfl) (fun _ _ _ _ h => h) [(8, 139), (9, 140), (10, 141), (11, 142), (12, 143), (13, 144)] 13 _ _ _ (by assumption) (by kernel_rfl) ?_ _ rfl
      simp only [zs]; refine wpr 14 145 ?_; simp only [zs]; refine wpr 15 146 ?_; simp only [zs]; refine wpAnyH_skip (by kernel_rfl) (fun _ _ _ _ h => h) [(16, 147), (17, 148), (18, 149), (19, 150), (20, 151), (21, 152), (22, 153), (23, 154), (24, 155), (25, 156)] 1 _ _ _ (by assumption) (by kernel_rfl) ?_ _ rfl
      simp only [zs]; refine wpr 26 157 ?_; simp only [zs]; refine wpAnyH_done (by kernel_rfl) ?_ _
      go_wp2_with fail; go_ret; exact ⟨ret_bool' HF.out, bl_trans HXw.out (bl_trans HY.out hY_w4.out)⟩
     obtain ⟨ex, ey⟩ := e
     obtain ⟨a, rfl⟩ : ∃ a : Nat, ex = (a : Int) := ⟨ex.toNat, by simp at hin; omega⟩
     have haG : a < W.gens.length := by simp at hin; omega
     revert hin
     intro hin0
     have hin : Hid ((decide (0 ≤ (a : Int)) && decide ((a : Int) ≤ (W.gens.length : Int) - 1)) = true) := hin0
     clear hin0; dsimp only at g1 g2
     obtain ⟨_, hgl, lc, lf⟩ := HBY.out.at haG
     obtain ⟨ga, hga⟩ : ∃ ga, Hid (W.gens[a]?.getD 0 = ga) := ⟨_, rfl⟩
     have aI0 : (0 : Int) ≤ (a : Int) := by omega
     have aI1 : (a : Int) < (W.gens.length : Int) := by omega
     cases hlf : lft W.gens W.free R a
     ·
      have HF : Hid (false = specB A B C W) := specB_once (by
       by_cases hm : (((a : Int), ey) : E2) ∈ listB W.gens W.free
       ·
        refine onceB_twice HTm.out HE.out ?_
        obtain ⟨a', ha', he'⟩ := mem_listB hm
        simp only [Prod.mk.injEq] at he'
        obtain ⟨h1, h2⟩ := he'
        have : a' = a := by omega
        subst this
        subst h2
        rw [← HQ.out.1]
        simp only [lft, Bool.and_eq_false_iff, decide_eq_false_iff_not, Bool.not_eq_false', decide_eq_true_eq] at hlf
        rcases hlf with h | h
        ·
         exact absurd hm h
        exact h
       exact onceB_out HTm.out HE.out hm)
      rw [hlf] at lc
      refine wp_region_held_drew (S := (fun w' => w'.cell? ⟨eb, 0, none⟩ = some (.int .i64 (a : Int)) ∧ w'.cell? ⟨eb, 1, none⟩ = some (.int .i64 ey) ∧ w'.cell? ⟨g, a, none⟩ = some (.bool false))) (by kernel_rfl) ?_ (fun hHeld => ?_)
      ·
       exact ⟨g1, g2, lc⟩
      refine wpr 0 131 ?_; simp only [zs]; refine wpr 1 132 ?_; simp only [zs]; refine wpr 2 133 ?_; simp only [zs]; refine wpr 3 134 ?_; simp only [zs]; refine wpr 4 135 ?_; simp only [zs]; refine wpy 5 fun K hK => ?_
      go_simp; refine (l1In_any (a : Int) 0 ((W.gens.length : Int) - 1) _).mono ?_
      rintro e0 w4 ⟨rfl, hw4⟩
      rw [hin.out]
      have hc_w4 : Below Y.heap.size Y w4 := by rw [hw4]; exact bl_drew (Below.refl _ _)
      clear hw4; have hY_w4 : Hid (Below Y.heap.size Y w4) := hc_w4
      have g1 := kcell hc_w4 g1
      have g2 := kcell hc_w4 g2
      have lc := kcell hc_w4 lc
      clear hc_w4; refine hK.out _ _ ?_ (fun hHeld => ?_)
      ·
       exact ⟨g1, g2, lc⟩
      clear hK K; try simp only [zs]
      refine wpr 6 137 ?_; simp only [zs]; refine wpr 7 138 ?_; simp only [zs]; refine wpr 8 139 ?_; simp only [zs]; refine wpr 9 140 ?_; simp only [zs]; refine wpr 10 141 ?_; simp only [zs]; refine wpr 11 142 ?_; simp only [zs]; refine wpr 12 143 ?_; simp only [zs]; refine wpr 13 144 ?_; simp only [zs]; refine wpr 14 145 ?_; simp only [zs]; refine wpr 15 146 ?_; simp only [zs]; refine wpAnyH_skip (by kernel_rfl) (fun _ _ _ _ h => h) [(16, 147), (17, 148), (18, 149), (19, 150), (20, 151), (21, 152), (22, 153), (23, 154), (24, 155), (25, 156)] 1 _ _ _ (by assumption) (by kernel_rfl) ?_ _ rfl
      simp only [zs]; refine wpr 26 157 ?_; simp only [zs]; refine wpAnyH_done (by kernel_rfl) ?_ _
      go_wp2_with fail; go_ret; exact ⟨ret_bool' HF.out, bl_trans HXw.out (bl_trans HY.out hY_w4.out)⟩
     rw [hlf] at lc
     obtain ⟨gb, gq, rfl, _, hpg, gc⟩ := eInt_cells (HWr.out.g.later cInt_keeps HY.out) (j := a) (a := ga) (by rw [← hga.out]; simp [haG])
     by_cases hge : ga = ey
     ·
      subst hge
      have gn : (ga != ga) = false := by simp
      have HRn : Hid (R ++ [((a : Int), ga)] = rowsOf (W.tabs.take k) ++ t.rows.take (j + 1) ∧ (R ++ [((a : Int), ga)]).length ≤ k * 1048576 + (j + 1) ∧ (R ++ [((a : Int), ga)]).Nodup ∧ ∀ x ∈ R ++ [((a : Int), ga)], x ∈ LV) := by
       simp only [lft, Bool.and_eq_true, decide_eq_true_eq, Bool.not_eq_true', decide_eq_false_iff_not, hga.out] at hlf
       refine ⟨?_, ?_, ?_, fun x hx => ?_⟩
       ·
        rw [take_rows HE.out, ← List.append_assoc, ← HQ.out.1]
       ·
        have := HQ.out.2.1; rw [List.length_append]; simp; omega
       ·
        rw [List.nodup_append]
        refine ⟨HQ.out.2.2.1, by simp, fun x hx y hy e => ?_⟩
        simp at hy
        subst hy
        subst e
        exact hlf.2 hx
       rcases List.mem_append.1 hx with hx | hx
       ·
        exact HQ.out.2.2.2 x hx
       simp at hx; subst hx; rw [← hLV.out]; exact hlf.1
      clear hlf; refine wp_region_held_drew (S := (fun w' => w'.cell? ⟨eb, 0, none⟩ = some (.int .i64 (a : Int)) ∧ w'.cell? ⟨eb, 1, none⟩ = some (.int .i64 ga) ∧ w'.cell? ⟨g, a, none⟩ = some (.bool true) ∧ w'.cell? ⟨w.heap.size + 1, 0, none⟩ = some (.slice (some ⟨gb, gq, none⟩) W.gens.length b1) ∧ w'.cell? ⟨gb, gq + a, none⟩ = some (.int .i64 ga))) (by kernel_rfl) ?_ (fun hHeld => ?_)
      ·
       exact ⟨g1, g2, lc, y0, gc⟩
      refine wpr 0 131 ?_; simp only [zs]; refine wpr 1 132 ?_; simp only [zs]; refine wpr 2 133 ?_; simp only [zs]; refine wpr 3 134 ?_; simp only [zs]; refine wpr 4 135 ?_; simp only [zs]; refine wpy 5 fun K hK => ?_
      go_simp; refine (l1In_any (a : Int) 0 ((W.gens.length : Int) - 1) _).mono ?_
      rintro e0 w4 ⟨rfl, hw4⟩
      rw [hin.out]
      have hc_w4 : Below Y.heap.size Y w4 := by rw [hw4]; exact bl_drew (Below.refl _ _)
      clear hw4; have hY_w4 : Hid (Below Y.heap.size Y w4) := hc_w4
      have g1 := kcell hc_w4 g1
      have g2 := kcell hc_w4 g2
      have lc := kcell hc_w4 lc
      have y0 := kcell hc_w4 y0
      have gc := kcell hc_w4 gc
      clear hc_w4; refine hK.out _ _ ?_ (fun hHeld => ?_)
      ·
       exact ⟨g1, g2, lc, y0, gc⟩
      clear hK K; try simp only [zs]
      refine wpr 6 137 ?_; simp only [zs]; refine wpr 7 138 ?_; simp only [zs]; refine wpr 8 139 ?_; simp only [zs]; refine wpr 9 140 ?_; simp only [zs]; refine wpr 10 141 ?_; simp only [zs]; refine wpr 11 142 ?_; simp only [zs]; refine wpr 12 143 ?_; simp only [zs]; refine wpr 13 144 ?_; simp only [zs]; refine wpr 14 145 ?_; simp only [zs]; refine wpr 15 146 ?_; simp only [zs]; refine wpr 16 147 ?_
      simp only [zs]; refine wpr 17 148 ?_; simp only [zs]; refine wpr 18 149 ?_; simp only [zs]; refine wpr 19 150 ?_; simp only [zs]; refine wpr 20 151 ?_; simp only [zs]; refine wpr 21 152 ?_; simp only [zs]; refine wpr 22 153 ?_; simp only [zs]; refine wpr 23 154 ?_; simp only [zs]; refine wpr 24 155 ?_; simp only [zs]; refine wpr 25 156 ?_; simp only [zs]; refine wpr 26 157 ?_; simp only [zs]
      refine wpAnyH_done (by kernel_rfl) ?_ _
      have lf := (((HBY.out.later hY_w4.out).at haG).2.2.2)
      have hgl := (((HBY.out.later hY_w4.out).at haG).2.1)
      have tr : IntKind.i64.wrap (((R.length : Nat) : Int) + 1) = ((R.length : Nat) : Int) + 1 := by have := hRl.out; rw [IntKind.wrap_i64]; omega
      have HS : Hid (BRow (w4.setCell ⟨g, a, none⟩ (.bool false)) X.heap.size g W.gens.length (lft W.gens W.free (R ++ [((a : Int), ga)])) ∧ Blk (w4.setCell ⟨g, a, none⟩ (.bool false)) bt #[.slice t1 t.cols.length d1, .slice (some ⟨rb, ro, none⟩) t.rows.length d2, .slice t3 t.cells.length d3] 119 ∧ Below X.heap.size X (w4.setCell ⟨g, a, none⟩ (.bool false))) := by
       refine ⟨?_, ?_, (bl_trans HY.out hY_w4.out).setCell (by simpa using HgZ.out.2) _⟩
       ·
        rw [← hga.out]; exact ((HBY.out.later hY_w4.out).put haG false).congr lft_put
       exact (KTY.out.later hY_w4.out).other HGB.out a _
      have HL1 : Hid (((R.length : Nat) : Int) + 1 = (((R ++ [((a : Int), ga)]).length : Nat) : Int)) := by show _ = _; rw [List.length_append]; simp
      go_wp2_with fail; go_roundw
      case rel => exact ⟨j + 1, R ++ [((a : Int), ga)], by omega, by go_num, by rw [HL1.out], HRn.out.1, HRn.out.2.1, HRn.out.2.2.1, HRn.out.2.2.2, HS.out⟩
      case measure => simp [intOf]; omega
     have gn : (ga != ey) = true := by simp [hge]
     have HF : Hid (false = specB A B C W) := specB_once (onceB_out HTm.out HE.out (fun h => by
      obtain ⟨a', ha', he'⟩ := mem_listB h
      simp only [Prod.mk.injEq] at he'
      obtain ⟨h1, h2⟩ := he'
      have : a' = a := by omega
      subst this
      rw [hga.out] at h2
      exact hge h2.symm))
     refine wp_region_held_drew (S := (fun w' => w'.cell? ⟨eb, 0, none⟩ = some (.int .i64 (a : Int)) ∧ w'.cell? ⟨eb, 1, none⟩ = some (.int .i64 ey) ∧ w'.cell? ⟨g, a, none⟩ = some (.bool true) ∧ w'.cell? ⟨w.heap.size + 1, 0, none⟩ = some (.slice (some ⟨gb, gq, none⟩) W.gens.length b1) ∧ w'.cell? ⟨gb, gq + a, none⟩ = some (.int .i64 ga))) (by kernel_rfl) ?_ (fun hHeld => ?_)
     ·
      exact ⟨g1, g2, lc, y0, gc⟩
     refine wpr 0 131 ?_; simp only [zs]; refine wpr 1 132 ?_; simp only [zs]; refine wpr 2 133 ?_; simp only [zs]; refine wpr 3 134 ?_; simp only [zs]; refine wpr 4 135 ?_; simp only [zs]; refine wpy 5 fun K hK => ?_
     go_simp; refine (l1In_any (a : Int) 0 ((W.gens.length : Int) - 1) _).mono ?_
     rintro e0 w4 ⟨rfl, hw4⟩
     rw [hin.out]
     have hc_w4 : Below Y.heap.size Y w4 := by rw [hw4]; exact bl_drew (Below.refl _ _)
     clear hw4; have hY_w4 : Hid (Below Y.heap.size Y w4) := hc_w4
     have g1 := kcell hc_w4 g1
     have g2 := kcell hc_w4 g2
     have lc := kcell hc_w4 lc
     have y0 := kcell hc_w4 y0
     have gc := kcell hc_w4 gc
     clear hc_w4; refine hK.out _ _ ?_ (fun hHeld => ?_)
     ·
      exact ⟨g1, g2, lc, y0, gc⟩
     clear hK K; try simp only [zs]
     refine wpr 6 137 ?_; simp only [zs]; refine wpr 7 138 ?_; simp only [zs]; refine wpr 8 139 ?_; simp only [zs]; refine wpr 9 140 ?_; simp only [zs]; refine wpr 10 141 ?_; simp only [zs]; refine wpr 11 142 ?_; simp only [zs]; refine wpr 12 143 ?_; simp only [zs]; refine wpr 13 144 ?_; simp only [zs]; refine wpr 14 145 ?_; simp only [zs]; refine wpr 15 146 ?_; simp only [zs]; refine wpr 16 147 ?_
     simp only [zs]; refine wpr 17 148 ?_; simp only [zs]; refine wpr 18 149 ?_; simp only [zs]; refine wpr 19 150 ?_; simp only [zs]; refine wpr 20 151 ?_; simp only [zs]; refine wpr 21 152 ?_; simp only [zs]; refine wpr 22 153 ?_; simp only [zs]; refine wpr 23 154 ?_; simp only [zs]; refine wpr 24 155 ?_; simp only [zs]; refine wpr 25 156 ?_; simp only [zs]; refine wpr 26 157 ?_; simp only [zs]; refine wpAnyH_done (by kernel_rfl) ?_ _
     go_wp2_with fail; go_ret; exact ⟨ret_bool' HF.out, bl_trans HXw.out (bl_trans HY.out hY_w4.out)⟩
    have hj' : j = t.rows.length := by omega
    subst hj'
    have HRN : Hid (R = rowsOf (W.tabs.take (k + 1))) := by
     show _ = _
     rw [hN.out.1, List.take_length, List.take_add_one, HTm.out]
     simp [rowsOf]
    go_wp2_with fail; go_roundw
    case rel => exact ⟨k + 1, R, by omega, by go_num, rfl, HRN.out, by have := hN.out.2.1; omega, hN.out.2.2.1, hN.out.2.2.2.1, HSA.out, hN.out.2.2.2.2.1, hN.out.2.2.2.2.2.2⟩
    case measure => simp [intOf]; omega
   have hm' : m = W.tabs.length := by omega
   subst hm'
   have HRA : Hid (R = rowsOf W.tabs) := by show _ = _; rw [hN.out.1, List.take_length]
   have HF : Hid (decide (((R.length : Nat) : Int) = (LV.length : Int)) = specB A B C W) := by
    show _ = _
    rw [← specB_all HG.out.1 HG.out.2 HRB.out h40 (fun j hj => hN.out.2.2.2.2.1 j hj), hLV.out, onceB, ← HRA.out, decide_eq_decide]
    constructor
    ·
     intro h; exact ⟨hN.out.2.2.1, hN.out.2.2.2.1, by omega⟩
    rintro ⟨_, _, h⟩; omega
   have LF : Hid (Below X.heap.size X wr) := hN.out.2.2.2.2.2.2
   clear hN; go_wp2_with fail; go_ret; exact ⟨ret_bool' (by rw [← HF.out]; rfl), bl_trans HXw.out LF.out⟩
  have t0 : ((W.res.length : Int) != (B.length : Int)) = true := by simp; omega
  have HF : Hid (false = specB A B C W) := by
   have := resB_len (B := B) hrl
   simp [Hid, specB, ← this]
  go_wp2_with fail; go_ret; exact ⟨ret_bool' HF.out, L2⟩
 have g0 : 40 < W.tabs.length := by omega
 have g0i : (40 : Int) < (W.tabs.length : Int) := by omega
 have HF : Hid (false = specB A B C W) := by simp [Hid, specB, h40]
 go_wp2_with fail; go_ret; exact ⟨ret_bool' HF.out, L2⟩
end Go.Proofs.YtbgeobpdojmdaaaGreat
