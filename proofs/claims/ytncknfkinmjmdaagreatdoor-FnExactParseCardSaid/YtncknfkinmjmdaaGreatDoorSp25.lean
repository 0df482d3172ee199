import Derived.Test.YtncknfkinmjmdaaGreatDoorSp24
namespace Go.Proofs.YtncknfkinmjmdaaGreatDoor
set_option linter.unusedVariables false
set_option linter.unusedSimpArgs false
section
open Go.RowKit
set_option maxRecDepth 100000
def cdz (w : World) (k : Nat) : Int := ((w.cell? ⟨k, 3, none⟩).map intOf).getD 0
def left (T : List Tk) (w : World) (k : Nat) : Nat := if cdz w k = 0 then T.length + 1 - idx w k else 0
theorem left_live {T : List Tk} {E : Int} {k : Nat} {sl : Option Addr} {cp i d : Nat} {v : Value} {Q : List NK} {P : List OR} {X w : World} {B : Nat} (h : Rs X B w (sR T E k sl cp i d v Q P)) : left T w k = T.length + 1 - i := by
 have := (h.box [] (rN v Q :: (rK Q ++ P))).cell 3
 unfold left cdz
 rw [this, sidx_rs h]
 simp [bP, intOf]
theorem left_dead {T : List Tk} {E : Int} {k : Nat} {sl : Option Addr} {cp : Nat} {c a : Int} {P : List OR} {X w : World} {B : Nat} (h : sD T E k sl cp c a X B w P) : left T w k = 0 := by
 obtain ⟨hc, i, d, v, Q, hR⟩ := h
 have := (hR.box [] (rN v Q :: (rK Q ++ P))).cell 3
 unfold left cdz
 rw [this]
 simp [bP, intOf, hc]
def LvS (T : List Tk) (E : Int) (X : World) (B k : Nat) (sl : Option Addr) (cp d l i : Nat) (P : List OR) (Res : PRes) (y : Int) (wr : World) : Prop :=
 (∃ (q : Nat) (v2 : Value) (Q2 : List NK), i < q ∧ q ≤ T.length ∧ Q2.length ≤ 2 * q ∧ Res = PAR T E (.loop d l y) q (Q2.map (·.1)) ∧ Rs X B wr (sR T E k sl cp q d v2 Q2 P)) ∨ (∃ c a, Res = .error (c, a) ∧ sD T E k sl cp c a X B wr P)
theorem lvS_in {T : List Tk} {E : Int} {X : World} {B k : Nat} {sl : Option Addr} {cp d l i : Nat} {P : List OR} {N : List Nd} (h1 : 1 ≤ l) (h5 : l ≤ 5) (hi : i ≤ T.length) (hN : N.length ≤ 2 * i) (e : Ending) (w' : World) (h : OkS T E X B k sl cp d P (PAR T E (.lvl d (l + 1)) i N) e w') : ∃ y, e = .returned (.int .i64 y) ∧ LvS T E X B k sl cp d l i P (PAR T E (.lvl d l) i N) y w' := by
 have hg := PAR_good (T := T) (E := E) (p := .lvl d (l + 1)) (i := i) (N := N) ⟨by omega, by omega⟩ hi
 rw [PAR_lvl h1 (by omega) hi, if_neg (by omega)]
 cases hr : PAR T E (.lvl d (l + 1)) i N with
 | error ca =>
  obtain ⟨c, a⟩ := ca
  rw [hr] at h
  obtain ⟨⟨y, he⟩, hD⟩ := h
  exact ⟨y, he, Or.inr ⟨c, a, rfl, hD⟩⟩
 | ok y =>
  obtain ⟨x, j, M⟩ := y
  have hb := hg.okv hr
  rw [hr] at h
  obtain ⟨he, v, Q, rfl, hR⟩ := h
  simp only [List.length_map, Pf.lo] at hb
  exact ⟨_, he, Or.inl ⟨j, v, Q, by omega, hb.2.1, by omega, rfl, hR⟩⟩
set_option maxHeartbeats 8000000 in
theorem slevel_of (T : List Tk) (E : Int) (X : World) (B k g : Nat) (sl : Option Addr) (cp i : Nat) (SV : Sv T E X B g sl) (hi : i ≤ T.length)
  (hprim : SaysS T E X B k sl cp 40 85 #[.pointer (some ⟨k, 0, none⟩)] .prim i) (hop : ∀ j l : Nat, i < j → j ≤ T.length → 1 ≤ l → l ≤ 6 → SaysS T E X B k sl cp 40 67 #[.pointer (some ⟨k, 0, none⟩), .int .i64 l] (fun d => .lvl d l) j) :
  ∀ m l : Nat, l + m = 6 → 1 ≤ l → SaysS T E X B k sl cp 40 67 #[.pointer (some ⟨k, 0, none⟩), .int .i64 l] (fun d => .lvl d l) i := by
 intro m
 induction m with
 | zero =>
  intro l hl hl1 d v Q P w hR hq hd
  have hl6 : l = 6 := by omega
  subst hl6
  have HP := hid hprim
  have h0 := hid hR
  clear hprim hop hR; dsimp only
  rw [PAR_lvl (by omega) (by omega) hi, if_pos (by omega)]
  obtain ⟨Res, hRes⟩ : ∃ r, Hid (PAR T E (.prim d) i (Q.map (·.1)) = r) := ⟨_, rfl⟩
  rw [hRes.out]
  have e6 : (((6 : Nat) : Int) == 6) = true := rfl
  go_enter Tryz.func67, Tryz.ntmps67
  go_wp2_with fail; refine (HP.out d v Q P _ h0.out hq hd).mono ?_
  rw [hRes.out]
  rcases Res with ⟨c, a⟩ | ⟨y, j, M⟩
  ·
   rintro e w1 ⟨⟨y, rfl⟩, r1⟩
   have h1 := hid r1
   clear r1 h0; go_wp2_with fail; go_ret; exact ⟨⟨_, rfl⟩, h1.out⟩
  rintro e w1 ⟨rfl, v1, Q1, m1, r1⟩
  have h1 := hid r1
  have M1 := hid m1
  obtain ⟨a, ha⟩ : ∃ a, Hid (y.headD 0 = a) := ⟨_, rfl⟩
  rw [ha.out]
  clear r1 h0 m1; go_wp2_with fail; go_ret; exact ⟨by rw [ha.out]; rfl, v1, Q1, M1.out, h1.out⟩
 | succ m ih =>
  intro l hl hl1 d v Q P w hR hq hd
  have HI := hid (ih (l + 1) (by omega) (by omega))
  have HO := hid hop
  have h0 := hid hR
  have SV0 := hid SV
  have hlT := SV.l
  clear hprim hop hR ih SV; dsimp only
  have HLV := hid (lvS_in (T := T) (E := E) (X := X) (B := B) (k := k) (sl := sl) (cp := cp) (d := d) (P := P) (N := Q.map (·.1)) hl1 (by omega) hi (by rw [List.length_map]; exact hq))
  obtain ⟨Res, hRes⟩ : ∃ r, Hid (PAR T E (.lvl d l) i (Q.map (·.1)) = r) := ⟨_, rfl⟩
  rw [hRes.out] at HLV ⊢
  have e6 : ((l : Int) == 6) = false := by simp; omega
  have twl : IntKind.i64.wrap ((l : Int) + 1) = (l : Int) + 1 := by rw [IntKind.wrap_i64]; omega
  have hl5 : l ≤ 5 := by omega
  clear hRes; go_enter Tryz.func67, Tryz.ntmps67
  go_wp2_with fail; refine (HI.out d v Q P _ h0.out hq hd).mono ?_
  intro e w1 r1
  obtain ⟨y, rfl, r2⟩ := HLV.out _ _ r1
  have h1 := hid r2
  clear HLV r1 r2 h0 HI; go_wp2_with fail; go_loopw [5] (fun lv wr => ∃ y : Int, lv = .int .i64 y ∧ Hid (LvS T E X B k sl cp d l i P Res y wr)) (fun _ wr => left T wr k)
  case atStart => exact ⟨y, rfl, h1⟩
  obtain ⟨b, rfl, hb⟩ := hrel
  clear h1; rcases hb.out with ⟨q, v2, Q2, hiq, hqT, hq2, HR, h2⟩ | ⟨c, a, HR, hD⟩
  ·
   have HIX := hid (left_live h2)
   have hR2 := hid h2
   obtain ⟨x0, x1, x2, x3, x4, x5, x6, xf⟩ := (h2.box [] (rN v2 Q2 :: (rK Q2 ++ P))).seven
   have hz2 : ((0 : Int) == 0) = true := rfl
   have HR := hid HR
   clear h2 hb; go_wp2_with fail; clear x0 x1 x2 x3 x4 x5 x6 xf hz2; refine (op_any T E k g sl cp q d v2 Q2 P X B (l : Int) _ SV0.out hR2.out hqT (by omega)).mono ?_
   rintro e w3 ⟨rfl, r3⟩
   rw [srl_is _ l hl1 hl5]
   have HR2 := HR.out
   rw [PAR_loop hl1 hl5 hqT] at HR2
   by_cases hlev : levOf (opOf (tx T q)) = l
   ·
    rw [if_pos hlev]
    rw [if_pos hlev] at HR2
    have hqlt : q < T.length := lev_lt hlev hl1
    obtain ⟨op, hopx⟩ : ∃ op, opOf (tx T q) = op := ⟨_, rfl⟩
    rw [hopx] at HR2 hlev ⊢
    have hop0 : ¬ op = 0 := by rintro rfl; have : levOf 0 = 0 := rfl; omega
    have hopb : (op == 0) = false := by simpa using hop0
    have HR2 := hid HR2
    have tw : IntKind.i64.wrap ((q : Int) + 1) = (q : Int) + 1 := by rw [IntKind.wrap_i64]; omega
    obtain ⟨x0, x1, x2, x3, x4, x5, x6, xf⟩ := (r3.box [] (rN v2 Q2 :: (rK Q2 ++ P))).seven
    have h4 := hid (r3.setB [] (rN v2 Q2 :: (rK Q2 ++ P)) 1 (.int .i64 ((q : Int) + 1)))
    clear r3 hR2 HR hopx hlev hop0; go_wp2_with fail; clear x0 x1 x2 x3 x4 x5 x6 xf; have hgd2 := PAR_good (T := T) (E := E) (p := .lvl d (l + 1)) (i := q + 1) (N := Q2.map (·.1)) ⟨by omega, by omega⟩ hqlt
    refine (HO.out (q + 1) (l + 1) (by omega) hqlt (by omega) (by omega) d v2 Q2 P _ h4.out (by omega) hd).mono ?_
    cases hr : PAR T E (.lvl d (l + 1)) (q + 1) (Q2.map (·.1)) with
    | error ca =>
     obtain ⟨c, a7⟩ := ca
     rintro e w7 ⟨⟨y7, rfl⟩, r7⟩
     have HR2 : Hid (Res = .error (c, a7)) := by show _ = _; rw [HR2.out, hr]; rfl
     have h8 := hid (r7.later (bl_alloc (Below.refl w7.heap.size w7) (.cells #[.int .i64 b, .int .i64 y7] 3)))
     clear r7 hr hgd2 h4; go_wp2_with fail; refine (node_dead T E k g sl cp P X B c a7 _ _ _ _ _ h8.out).mono ?_
     rintro e w9 ⟨rfl, r9⟩
     have h9 := hid r9
     clear r9 h8; by_cases h3 : l = 3
     ·
      have e3 : ((l : Int) == 3) = true := by simp; omega
      clear h3; go_wp2_with fail; go_ret; rw [HR2.out]
      exact ⟨⟨_, rfl⟩, h9.out⟩
     have e3 : ((l : Int) == 3) = false := by simp; omega
     clear h3; go_wp2_with fail; go_roundw
     case rel => exact ⟨_, rfl, Hid.mk' (Or.inr ⟨c, a7, HR2.out, h9.out⟩)⟩
     rw [left_dead h9.out, HIX.out]
     omega
    | ok z =>
     obtain ⟨x, j, M⟩ := z
     have hlt := hgd2.okv hr
     rintro e w7 ⟨rfl, v7, Q7, rfl, r7⟩
     have HR2 := HR2.out
     rw [hr, then_ok] at HR2
     obtain ⟨c, hc⟩ : ∃ c, x.headD 0 = c := ⟨_, rfl⟩
     rw [hc] at HR2 ⊢
     simp only [List.length_map] at hlt
     have hlo7 : q + 1 + 1 ≤ j := hlt.1
     have hj7 := hlt.2.1
     have hq7 : Q7.length + 1 ≤ 2 * j := by omega
     have h8 := hid (sR_kids r7 [b, c] (by simp))
     have HR2 := hid HR2
     clear r7 hgd2 hr hc h4 hlt; go_wp2_with fail; refine (node_live T E k g sl cp j d v7 Q7 P X B 8 op ⟨#[]⟩ [b, c] (some ⟨w7.heap.size, 0, none⟩) 2 _ h8.out (by omega)).mono ?_
     rintro e w9 ⟨rfl, v9, r9⟩
     have h9 := hid r9
     have HR2 := HR2.out
     clear r9 h8; by_cases h3 : l = 3
     ·
      have e3 : ((l : Int) == 3) = true := by simp; omega
      rw [if_pos h3] at HR2
      have HR3 := hid HR2
      clear HR2 h3; go_wp2_with fail; go_ret; rw [HR3.out]
      exact ⟨by simp only [List.length_map]; rfl, v9, _, by simp [nd, nil], h9.out⟩
     have e3 : ((l : Int) == 3) = false := by simp; omega
     rw [if_neg h3] at HR2
     have HR3 := hid HR2
     clear HR2 h3; go_wp2_with fail; go_roundw
     case rel => exact ⟨_, rfl, Hid.mk' (Or.inl ⟨j, v9, _, by omega, hj7, by simp; omega, HR3.out.trans (by simp [nd, nil, then_ok, pNode]), h9.out⟩)⟩
     rw [left_live h9.out, HIX.out]
     omega
   rw [if_neg hlev]
   rw [if_neg hlev] at HR2
   have HR2 := hid HR2
   have h4 := hid r3
   have hz2 : ((0 : Int) == 0) = true := rfl
   clear r3 hR2 HR hlev; go_wp2_with fail; go_ret; rw [HR2.out]
   exact ⟨rfl, v2, Q2, rfl, h4.out⟩
  obtain ⟨hc, i', d', v', Q', r2⟩ := hD
  obtain ⟨x0, x1, x2, x3, x4, x5, x6, xf⟩ := (r2.box [] (rN v' Q' :: (rK Q' ++ P))).seven
  have hz2 : (c == 0) = false := by simpa using hc
  have HR2 := hid HR
  have h3 := hid r2
  clear r2 hb HR; go_wp2_with fail; go_ret; rw [HR2.out]
  exact ⟨⟨_, rfl⟩, hc, i', d', v', Q', h3.out⟩
end
section
open Go.RowKit
set_option maxRecDepth 100000
theorem prim_turn {T : List Tk} {E : Int} {d i : Nat} {N : List Nd} {s : ByteArray} {q : Int} (hi : i ≤ T.length) (hs : tx T i = s) (hk : kd T i = 2 ∨ kd T i = 5) (h : (s = bMinus ∧ q = 1) ∨ (s = bNot ∧ q = 2)) : PAR T E (.prim d) i N = if d = 40 then .error (3, ta T E i) else (PAR T E (.prim (d + 1)) (i + 1) N).then fun y j M => pNode (nd 9 nil q [y.headD 0]) j M := by
 rw [PAR_prim hi, hs, if_neg (by omega), if_neg (by omega), if_neg (by omega)]
 rcases h with ⟨rfl, rfl⟩ | ⟨rfl, rfl⟩
 ·
  rw [if_neg (by decide), if_neg (by decide), if_neg (by decide), if_neg (by decide), if_neg (by decide), if_pos (by decide)]
  rfl
 rw [if_neg (by decide), if_neg (by decide), if_neg (by decide), if_neg (by decide), if_neg (by decide), if_pos (by decide)]
 rfl
set_option maxHeartbeats 16000000 in
theorem sunary_of (T : List Tk) (E : Int) (X : World) (B k g : Nat) (sl : Option Addr) (cp i : Nat) (SV : Sv T E X B g sl) (hi : i ≤ T.length)
  (hprim : ¬ tx T i = bMinus → ¬ tx T i = bNot → SaysS T E X B k sl cp 40 106 #[.pointer (some ⟨k, 0, none⟩)] .prim i) (hun : i < T.length → SaysS T E X B k sl cp 40 85 #[.pointer (some ⟨k, 0, none⟩)] .prim (i + 1)) :
  SaysS T E X B k sl cp 40 85 #[.pointer (some ⟨k, 0, none⟩)] .prim i := by
 intro d v Q P w hR hq hd
 have HP := hid hprim
 have HU := hid hun
 have h0 := hid hR
 have hlT := SV.l
 clear hprim hun hR; by_cases hs : tx T i = bMinus
 ·
  skip
  have hk := SV.m i _ (by simp [WMs]) hs
  have hlt : i < T.length := by rcases hk with h | h <;> exact kd_lt h (by decide)
  rw [prim_turn (q := 1) hi hs hk (by simp)]
  have Hs := hid hs
  have Hk := hid hk
  clear hs hk; by_cases h40 : d = 40
  ·
   rw [if_pos h40]
   have h40 : 40 ≤ d := by omega
   go_enter Tryz.func85, Tryz.ntmps85
   go_wp2_with fail; refine (is_yes T E k g sl cp i d v Q P X B ⟨#[45]⟩ _ SV h0.out hi (by omega) hlt Hs.out Hk.out).mono ?_
   rintro e w1 ⟨rfl, r1⟩
   have h1 := hid r1
   clear r1 h0; go_wp2_with fail; refine (is_no T E k g sl cp i d v Q P X B ⟨#[110, 111, 116]⟩ _ SV h1.out hi (by omega) (by rw [Hs.out]; decide)).mono ?_
   rintro e w2 ⟨rfl, r2⟩
   have h2 := hid r2
   clear r2 h1; go_wp2_with fail; refine (open_deep T E k g sl cp i d v Q P X B _ SV h2.out hi (by omega) hlt h40).mono ?_
   rintro e w3 ⟨rfl, r3⟩
   have h3 := hid r3
   clear r3 h2; go_wp2_with fail; go_ret; exact ⟨⟨_, rfl⟩, h3.out⟩
  rw [if_neg h40]
  have h40 : d < 40 := by omega
  have HUi := hid (HU.out hlt)
  have hgd := PAR_good (T := T) (E := E) (p := .prim (d + 1)) (i := i + 1) (N := Q.map (·.1)) trivial hlt
  obtain ⟨Res, hRes⟩ : ∃ r, Hid (PAR T E (.prim (d + 1)) (i + 1) (Q.map (·.1)) = r) := ⟨_, rfl⟩
  rw [hRes.out] at hgd ⊢
  have Hgd := hid hgd
  have tw : IntKind.i64.wrap ((i : Int) + 1) = (i : Int) + 1 := by rw [IntKind.wrap_i64]; omega
  clear hgd; go_enter Tryz.func85, Tryz.ntmps85
  go_wp2_with fail; refine (is_yes T E k g sl cp i d v Q P X B ⟨#[45]⟩ _ SV h0.out hi (by omega) hlt Hs.out Hk.out).mono ?_
  rintro e w1 ⟨rfl, r1⟩
  have h1 := hid r1
  clear r1 h0; go_wp2_with fail; refine (is_no T E k g sl cp i d v Q P X B ⟨#[110, 111, 116]⟩ _ SV h1.out hi (by omega) (by rw [Hs.out]; decide)).mono ?_
  rintro e w2 ⟨rfl, r2⟩
  have h2 := hid r2
  clear r2 h1; go_wp2_with fail; refine (open_ok T E k g sl cp i d v Q P X B _ SV h2.out hi (by omega) hlt h40).mono ?_
  rintro e w3 ⟨rfl, r3⟩
  obtain ⟨x0, x1, x2, x3, x4, x5, x6, xf⟩ := (r3.box [] (rN v Q :: (rK Q ++ P))).seven
  have h4 := hid (r3.setB [] (rN v Q :: (rK Q ++ P)) 1 (.int .i64 ((i : Int) + 1)))
  clear r3 h2; go_wp2_with fail; clear x0 x1 x2 x3 x4 x5 x6 xf; refine (HUi.out (d + 1) v Q P _ h4.out (by omega) (by omega)).mono ?_
  rw [hRes.out]
  rcases Res with ⟨c, a⟩ | ⟨y, j, M⟩
  ·
   rintro e w5 ⟨⟨y, rfl⟩, hc, i', d', v', Q', r5⟩
   obtain ⟨x0, x1, x2, x3, x4, x5, x6, xf⟩ := (r5.box [] (rN v' Q' :: (rK Q' ++ P))).seven
   have h6 : Hid (sD T E k sl cp c a X B (w5.setCell ⟨k, 5, none⟩ (.int .i64 (wrap64 (d' - 1)))) P) := Hid.mk' ⟨hc, i', wrap64 (d' - 1), v', Q', r5.setB [] (rN v' Q' :: (rK Q' ++ P)) 5 (.int .i64 (wrap64 (d' - 1)))⟩
   clear r5 h4; go_upto_region 13 with fail
   generalize hW : w5.setCell ⟨k, 5, none⟩ (.int .i64 (wrap64 (d' - 1))) = w6 at h6 ⊢
   clear x0 x1 x2 x3 x4 x5 x6 xf hW; have h7 := hid (h6.out.later (bl_alloc (Below.refl w6.heap.size w6) (.cells #[.int .i64 y] 3)))
   clear h6; go_wp2_with fail; refine (node_dead T E k g sl cp P X B c a _ _ _ _ _ h7.out).mono ?_
   rintro e w9 ⟨rfl, r9⟩
   have h9 := hid r9
   clear r9 h7; go_wp2_with fail; go_ret; exact ⟨⟨_, rfl⟩, h9.out⟩
  have hb := Hgd.out.okv rfl
  rintro e w5 ⟨rfl, v', Q', rfl, r5⟩
  have tw1 : IntKind.i64.wrap (((d + 1 : Nat) : Int) - 1) = (d : Int) := by rw [IntKind.wrap_i64]; omega
  have tw2 : IntKind.i64.wrap ((d : Int) + 1 - 1) = (d : Int) := by rw [IntKind.wrap_i64]; omega
  obtain ⟨x0, x1, x2, x3, x4, x5, x6, xf⟩ := (r5.box [] (rN v' Q' :: (rK Q' ++ P))).seven
  have h6 : Hid (Rs X B (w5.setCell ⟨k, 5, none⟩ (.int .i64 (d : Int))) (sR T E k sl cp j d v' Q' P)) := Hid.mk' (r5.setB [] (rN v' Q' :: (rK Q' ++ P)) 5 (.int .i64 (d : Int)))
  obtain ⟨a, ha⟩ : ∃ a, Hid (y.headD 0 = a) := ⟨_, rfl⟩
  rw [ha.out]
  simp only [List.length_map] at hb
  have hj := hb.2.1
  have hq7 : Q'.length ≤ 2 * j := by omega
  clear r5 h4 hb; go_upto_region 13 with fail
  generalize hW : w5.setCell ⟨k, 5, none⟩ (.int .i64 (d : Int)) = w6 at h6 ⊢
  clear x0 x1 x2 x3 x4 x5 x6 xf hW; have h7 := hid (sR_kids h6.out [a] (by simp))
  clear h6; go_wp2_with fail; refine (node_live T E k g sl cp j d v' Q' P X B 9 1 ⟨#[]⟩ [a] (some ⟨w6.heap.size, 0, none⟩) 1 _ h7.out (by omega)).mono ?_
  rintro e w9 ⟨rfl, v9, r9⟩
  have h9 := hid r9
  clear r9 h7; go_wp2_with fail; go_ret; rw [then_ok, ha.out]
  exact ⟨by simp only [List.length_map]; rfl, v9, _, by simp [nd, nil], h9.out⟩
 have hs1 := hs
 clear hs; by_cases hs : tx T i = bNot
 ·
  skip
  have hk := SV.m i _ (by simp [WMs]) hs
  have hlt : i < T.length := by rcases hk with h | h <;> exact kd_lt h (by decide)
  rw [prim_turn (q := 2) hi hs hk (by simp)]
  have Hs := hid hs
  have Hk := hid hk
  clear hs hk; by_cases h40 : d = 40
  ·
   rw [if_pos h40]
   have h40 : 40 ≤ d := by omega
   go_enter Tryz.func85, Tryz.ntmps85
   go_wp2_with fail; refine (is_no T E k g sl cp i d v Q P X B ⟨#[45]⟩ _ SV h0.out hi (by omega) (by rw [Hs.out]; decide)).mono ?_
   rintro e w1 ⟨rfl, r1⟩
   have h1 := hid r1
   clear r1 h0; go_wp2_with fail; refine (is_yes T E k g sl cp i d v Q P X B ⟨#[110, 111, 116]⟩ _ SV h1.out hi (by omega) hlt Hs.out Hk.out).mono ?_
   rintro e w2 ⟨rfl, r2⟩
   have h2 := hid r2
   clear r2 h1; go_wp2_with fail; refine (open_deep T E k g sl cp i d v Q P X B _ SV h2.out hi (by omega) hlt h40).mono ?_
   rintro e w3 ⟨rfl, r3⟩
   have h3 := hid r3
   clear r3 h2; go_wp2_with fail; go_ret; exact ⟨⟨_, rfl⟩, h3.out⟩
  rw [if_neg h40]
  have h40 : d < 40 := by omega
  have HUi := hid (HU.out hlt)
  have hgd := PAR_good (T := T) (E := E) (p := .prim (d + 1)) (i := i + 1) (N := Q.map (·.1)) trivial hlt
  obtain ⟨Res, hRes⟩ : ∃ r, Hid (PAR T E (.prim (d + 1)) (i + 1) (Q.map (·.1)) = r) := ⟨_, rfl⟩
  rw [hRes.out] at hgd ⊢
  have Hgd := hid hgd
  have tw : IntKind.i64.wrap ((i : Int) + 1) = (i : Int) + 1 := by rw [IntKind.wrap_i64]; omega
  clear hgd; go_enter Tryz.func85, Tryz.ntmps85
  go_wp2_with fail; refine (is_no T E k g sl cp i d v Q P X B ⟨#[45]⟩ _ SV h0.out hi (by omega) (by rw [Hs.out]; decide)).mono ?_
  rintro e w1 ⟨rfl, r1⟩
  have h1 := hid r1
  clear r1 h0; go_wp2_with fail; refine (is_yes T E k g sl cp i d v Q P X B ⟨#[110, 111, 116]⟩ _ SV h1.out hi (by omega) hlt Hs.out Hk.out).mono ?_
  rintro e w2 ⟨rfl, r2⟩
  have h2 := hid r2
  clear r2 h1; go_wp2_with fail; refine (open_ok T E k g sl cp i d v Q P X B _ SV h2.out hi (by omega) hlt h40).mono ?_
  rintro e w3 ⟨rfl, r3⟩
  obtain ⟨x0, x1, x2, x3, x4, x5, x6, xf⟩ := (r3.box [] (rN v Q :: (rK Q ++ P))).seven
  have h4 := hid (r3.setB [] (rN v Q :: (rK Q ++ P)) 1 (.int .i64 ((i : Int) + 1)))
  clear r3 h2; go_wp2_with fail; clear x0 x1 x2 x3 x4 x5 x6 xf; refine (HUi.out (d + 1) v Q P _ h4.out (by omega) (by omega)).mono ?_
  rw [hRes.out]
  rcases Res with ⟨c, a⟩ | ⟨y, j, M⟩
  ·
   rintro e w5 ⟨⟨y, rfl⟩, hc, i', d', v', Q', r5⟩
   obtain ⟨x0, x1, x2, x3, x4, x5, x6, xf⟩ := (r5.box [] (rN v' Q' :: (rK Q' ++ P))).seven
   have h6 : Hid (sD T E k sl cp c a X B (w5.setCell ⟨k, 5, none⟩ (.int .i64 (wrap64 (d' - 1)))) P) := Hid.mk' ⟨hc, i', wrap64 (d' - 1), v', Q', r5.setB [] (rN v' Q' :: (rK Q' ++ P)) 5 (.int .i64 (wrap64 (d' - 1)))⟩
   clear r5 h4; go_upto_region 13 with fail
   generalize hW : w5.setCell ⟨k, 5, none⟩ (.int .i64 (wrap64 (d' - 1))) = w6 at h6 ⊢
   clear x0 x1 x2 x3 x4 x5 x6 xf hW; have h7 := hid (h6.out.later (bl_alloc (Below.refl w6.heap.size w6) (.cells #[.int .i64 y] 3)))
   clear h6; go_wp2_with fail; refine (node_dead T E k g sl cp P X B c a _ _ _ _ _ h7.out).mono ?_
   rintro e w9 ⟨rfl, r9⟩
   have h9 := hid r9
   clear r9 h7; go_wp2_with fail; go_ret; exact ⟨⟨_, rfl⟩, h9.out⟩
  have hb := Hgd.out.okv rfl
  rintro e w5 ⟨rfl, v', Q', rfl, r5⟩
  have tw1 : IntKind.i64.wrap (((d + 1 : Nat) : Int) - 1) = (d : Int) := by rw [IntKind.wrap_i64]; omega
  have tw2 : IntKind.i64.wrap ((d : Int) + 1 - 1) = (d : Int) := by rw [IntKind.wrap_i64]; omega
  obtain ⟨x0, x1, x2, x3, x4, x5, x6, xf⟩ := (r5.box [] (rN v' Q' :: (rK Q' ++ P))).seven
  have h6 : Hid (Rs X B (w5.setCell ⟨k, 5, none⟩ (.int .i64 (d : Int))) (sR T E k sl cp j d v' Q' P)) := Hid.mk' (r5.setB [] (rN v' Q' :: (rK Q' ++ P)) 5 (.int .i64 (d : Int)))
  obtain ⟨a, ha⟩ : ∃ a, Hid (y.headD 0 = a) := ⟨_, rfl⟩
  rw [ha.out]
  simp only [List.length_map] at hb
  have hj := hb.2.1
  have hq7 : Q'.length ≤ 2 * j := by omega
  clear r5 h4 hb; go_upto_region 13 with fail
  generalize hW : w5.setCell ⟨k, 5, none⟩ (.int .i64 (d : Int)) = w6 at h6 ⊢
  clear x0 x1 x2 x3 x4 x5 x6 xf hW; have h7 := hid (sR_kids h6.out [a] (by simp))
  clear h6; go_wp2_with fail; refine (node_live T E k g sl cp j d v' Q' P X B 9 2 ⟨#[]⟩ [a] (some ⟨w6.heap.size, 0, none⟩) 1 _ h7.out (by omega)).mono ?_
  rintro e w9 ⟨rfl, v9, r9⟩
  have h9 := hid r9
  clear r9 h7; go_wp2_with fail; go_ret; rw [then_ok, ha.out]
  exact ⟨by simp only [List.length_map]; rfl, v9, _, by simp [nd, nil], h9.out⟩
 have HPi := hid (HP.out hs1 hs)
 have H1 := hid hs1
 have H2 := hid hs
 clear hs hs1; obtain ⟨Res, hRes⟩ : ∃ r, Hid (PAR T E (.prim d) i (Q.map (·.1)) = r) := ⟨_, rfl⟩
 rw [hRes.out]
 go_enter Tryz.func85, Tryz.ntmps85
 go_wp2_with fail; refine (is_no T E k g sl cp i d v Q P X B ⟨#[45]⟩ _ SV h0.out hi (by omega) H1.out).mono ?_
 rintro e w1 ⟨rfl, r1⟩
 have h1 := hid r1
 clear r1 h0; go_wp2_with fail; refine (is_no T E k g sl cp i d v Q P X B ⟨#[110, 111, 116]⟩ _ SV h1.out hi (by omega) H2.out).mono ?_
 rintro e w2 ⟨rfl, r2⟩
 have h2 := hid r2
 clear r2 h1; go_wp2_with fail; refine (HPi.out d v Q P _ h2.out hq hd).mono ?_
 rw [hRes.out]
 rcases Res with ⟨c, a⟩ | ⟨y, j, M⟩
 ·
  rintro e w1 ⟨⟨y, rfl⟩, r1⟩
  have h3 := hid r1
  clear r1 h2; go_wp2_with fail; go_ret; exact ⟨⟨_, rfl⟩, h3.out⟩
 rintro e w1 ⟨rfl, v1, Q1, m1, r1⟩
 have h3 := hid r1
 have M1 := hid m1
 obtain ⟨a, ha⟩ : ∃ a, Hid (y.headD 0 = a) := ⟨_, rfl⟩
 rw [ha.out]
 clear r1 h2 m1; go_wp2_with fail; go_ret; exact ⟨by rw [ha.out]; rfl, v1, Q1, M1.out, h3.out⟩
end
end Go.Proofs.YtncknfkinmjmdaaGreatDoor
