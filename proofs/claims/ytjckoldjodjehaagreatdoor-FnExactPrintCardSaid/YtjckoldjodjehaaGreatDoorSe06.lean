import Derived.Test.YtjckoldjodjehaaGreatDoorSe05
import Derived.Lib.ItoaNum
import Derived.Lib.ItoaLen
import Derived.Laws.IdiomStrings
namespace Go.Proofs.YtjckoldjodjehaaGreatDoor
set_option linter.unusedVariables false
set_option linter.unusedSimpArgs false
section
open Go.RowKit
def treP (t : Tre) : Prop := t.nodes.length ≤ 4000 ∧ FitL (kidsOf t) (okN t) t.tops 0 t.nodes.length ∧ ∀ (j : Nat) (x : Int), t.tops[j]? = some x → ∃ (m : Nat) (nd : Nd), x = m ∧ t.nodes[m]? = some nd ∧ clsOk 9 nd.kind
noncomputable def treB (t : Tre) : Bool := @decide (treP t) (Classical.propDecidable _)
theorem treB_true {t : Tre} (h : treP t) : treB t = true := @decide_eq_true _ (Classical.propDecidable _) h
theorem treB_false {t : Tre} (h : ¬ treP t) : treB t = false := @decide_eq_false _ (Classical.propDecidable _) h
theorem FitL.len {K : Nat → List Int} {ok : Nat → Prop} {l : List Int} {a e : Nat} (h : FitL K ok l a e) : l.length + a ≤ e := by
 induction h with
 | nil nx => simp
 | cons nx k ks e h1 _ _ _ _ ih => simp; omega
theorem treP_top {t : Tre} {nj : Nat} {j : Nat} {x : Int} (hx : t.tops[j]? = some x) (hf : FitL (kidsOf t) (okN t) (t.tops.take j) 0 nj) (h : treP t) : ∃ m : Nat, x = m ∧ FitN t 9 m nj := by
 obtain ⟨_, hk, hc⟩ := h
 rw [take_drop_at hx] at hk
 obtain ⟨m1, g1, g2⟩ := FitL.split hk
 obtain rfl := hf.same _ g1
 obtain ⟨m, nd', rfl, e5, e6⟩ := hc j x hx
 generalize hq : (m : Int) :: t.tops.drop (j + 1) = l at g2
 cases g2 with
 | nil => cases hq
 | cons _ m' ks _ p1 p2 p3 p4 =>
  simp only [List.cons.injEq] at hq
  obtain ⟨e1, rfl⟩ := hq
  obtain rfl : m = m' := by omega
  refine ⟨m, rfl, nd', e5, e6, p1, p2, ?_⟩
  rw [kidsOf_some e5] at p3
  exact p3
theorem top_take {t : Tre} {nj m j : Nat} (hx : t.tops[j]? = some (m : Int)) {c : Int} (hf : FitL (kidsOf t) (okN t) (t.tops.take j) 0 nj) (h : FitN t c m nj) : FitL (kidsOf t) (okN t) (t.tops.take (j + 1)) 0 (m + 1) := by
 obtain ⟨nd', e1, _, e3, e4, e5⟩ := h
 rw [List.take_add_one, hx]
 refine hf.append (FitL.cons nj m [] (m + 1) e3 e4 ?_ (FitL.nil _))
 rw [kidsOf_some e1]
 exact e5
theorem fitN_lt {t : Tre} {cl : Int} {m nx : Nat} (h : FitN t cl m nx) : m < t.nodes.length := by
 obtain ⟨nd, h1, _⟩ := h
 exact (List.getElem?_eq_some_iff.1 h1).1
theorem SeenIs.new {w : World} {B b n : Nat} (hlt : b < w.heap.size) (h : w.ownsRow B 4 1 (.slice (some ⟨b, 0, none⟩) n n) n (List.replicate n (.bool false))) : SeenIs w b n (fun _ => false) :=
 ⟨hlt, fun j hj => by rw [World.ownsRow.cellAt h j (by omega)]; simp [hj], fun j => World.ownsRow.frozenAt h j⟩
set_option maxRecDepth 100000 in
set_option maxHeartbeats 8000000 in
theorem specTreeOk_any (t : Tre) (s1 s2 : Option Addr) (c1 c2 B : Nat) (w : World) (hT : InT w B s1 s2 t) (hkt : kTre t) :
  Calls Tryz.prog 11 #[.agg #[.slice s1 t.nodes.length c1, .slice s2 t.tops.length c2]] w fun e w' => e = .returned (.bool (treB t)) ∧ Below w.heap.size w w' := by
 have hal := alloc_old
 have haf := alloc_oldf
 have k0 := Blk.new w #[.slice s1 t.nodes.length c1, .slice s2 t.tops.length c2] 31
 have L0 := bl_alloc (Below.refl _ w) (.cells #[.slice s1 t.nodes.length c1, .slice s2 t.tops.length c2] 31)
 obtain ⟨x0, x1, x2⟩ := k0.two
 have hn := hkt.1.1
 have ht := hkt.2
 have HKT : Hid (kTre t) := hkt
 have HT : Hid (InT w B s1 s2 t) := hT
 clear hkt hT; by_cases h4 : t.nodes.length ≤ 4000
 rotate_left
 ·
  have q1 : decide ((4000 : Int) < (t.nodes.length : Int)) = true := by simp; omega
  have HE : Hid (treB t = false) := treB_false fun h => h4 h.1
  clear h4; go_enter Tryz.func11, Tryz.ntmps11
  go_wp2_with fail; go_ret; exact ⟨ret_bool' HE.out.symm, L0⟩
 have q1 : decide ((4000 : Int) < (t.nodes.length : Int)) = false := by simp; omega
 by_cases h5 : t.tops.length ≤ 4000
 rotate_left
 ·
  have q2 : decide ((4000 : Int) < (t.tops.length : Int)) = true := by simp; omega
  have HE : Hid (treB t = false) := treB_false fun h => by have := h.2.1.len; omega
  clear h4 h5; go_enter Tryz.func11, Tryz.ntmps11
  go_wp2_with fail; go_ret; exact ⟨ret_bool' HE.out.symm, L0⟩
 have q2 : decide ((4000 : Int) < (t.tops.length : Int)) = false := by simp; omega
 have H4 : Hid (t.nodes.length ≤ 4000) := h4
 go_enter Tryz.func11, Tryz.ntmps11
 obtain ⟨i0, hi, hz0, hz1, hz2⟩ := info_parts Tryz.infoB
 go_wp2_with (at_make; refine wpList_make_full _ rfl _ _ 63 rfl w.heap.size 4 i0 (.bool false) 1 Tryz.underlying63 hi hz0 hz1 .i64 .i64 _ _ t.nodes.length rfl rfl rfl rfl (by rw [hz2]; omega) (by unfold maxLen; omega) (by simp) ?_)
 intro W5 hown hgrow
 have b0 : Hid (Blk W5 w.heap.size #[.slice s1 t.nodes.length c1, .slice s2 t.tops.length c2] 31) := by
  have hB : Below (w.heap.size + 1) (w.alloc (.cells #[.slice s1 t.nodes.length c1, .slice s2 t.tops.length c2] 31)) W5 := (Below.refl _ _).grown hgrow (by simp) (fun k h => by cases h)
  exact (Blk.new w #[.slice s1 t.nodes.length c1, .slice s2 t.tops.length c2] 31).later (by simpa using hB)
 have hbel : Hid (Below w.heap.size w W5) := (bl_alloc (Below.refl _ w) _).grown hgrow (by simp) (fun k h => by cases h)
 rw [toList_madeCells_one] at hown
 have sz5 : w.heap.size + 2 ≤ W5.heap.size := by
  rcases hown.2 with ⟨h, _⟩ | ⟨g, cap, cur, h1, h2, h3, _⟩
  ·
   cases h
  have h4 := h3
  simp only [Value.slice.injEq, Option.some.injEq, Addr.mk.injEq] at h1
  obtain ⟨⟨rfl, _⟩, _⟩ := h1
  have := (Array.getElem?_eq_some_iff.1 h4).1
  omega
 have hseen : Hid (SeenIs W5 (w.heap.size + 1) t.nodes.length (fun _ => false)) := SeenIs.new (by omega) hown
 clear hown hgrow hi hz0 hz1 hz2 k0 L0 x0 x1 x2; go_wp2_with fail; go_loopw [4, 5] (fun v i wr => ∃ (j nj : Nat) (f1 : Nat → Bool), j ≤ t.tops.length ∧ i = .int .i64 j ∧ v = .int .i64 nj ∧ nj ≤ t.nodes.length ∧ Hid (FitL (kidsOf t) (okN t) (t.tops.take j) 0 nj) ∧ Hid (∀ (j' : Nat) (x : Int), j' < j → t.tops[j']? = some x → ∃ (m : Nat) (nd' : Nd), x = m ∧ t.nodes[m]? = some nd' ∧ clsOk 9 nd'.kind) ∧ Hid (SeenIs wr (w.heap.size + 1) t.nodes.length f1) ∧ Hid (∀ x, f1 x = decide (x < nj)) ∧ Hid (W5.grownBy wr (some (w.heap.size + 1)))) (fun _ i _ => t.tops.length - (intOf i).toNat)
 case atStart =>
  refine ⟨0, 0, _, Nat.zero_le _, rfl, rfl, Nat.zero_le _, FitL.nil _, fun j' x h => absurd h (Nat.not_lt_zero _), hseen, fun x => ?_, grown_refl _ _⟩
  simp
 obtain ⟨j, nj, f1, hj, rfl, rfl, hnj, hFL, hcl, hSr, hfr, hGr⟩ := hrel
 have szr : w.heap.size + 2 ≤ wr.heap.size := by have := hGr.out.size; omega
 have hbW : Hid (Below w.heap.size w wr) := Below.trans hbel.out (grown_below hGr.out (Nat.le_succ _) (by omega))
 obtain ⟨x0, x1, x2⟩ := (b0.out.grown hGr.out (by omega)).two
 by_cases hlt : j < t.tops.length
 ·
  obtain ⟨x, hxj⟩ := get_some hlt
  obtain ⟨kb, ko, rfl, _, hkb, p00⟩ := eInt_cells HT.out.t hxj
  have p0 := (hbW.out.cell (p := ⟨kb, ko + j, none⟩) hkb).trans p00
  have lt0 : w.heap.size < wr.heap.size := by omega
  have ltk : kb < wr.heap.size := by omega
  have ne0 : ¬ w.heap.size = w.heap.size + 1 := by omega
  have nek : ¬ kb = w.heap.size + 1 := by omega
  have HX : Hid (t.tops[j]? = some x) := hxj
  clear hxj p00 x2; have hjI : (j : Int) < (t.tops.length : Int) := by omega
  by_cases hgood : ∃ m : Nat, x = m ∧ FitN t 9 m nj
  ·
   have hgd : Hid (∃ m : Nat, x = m ∧ FitN t 9 m nj) := hgood
   clear hgood; go_upto_region 8 with fail
   refine wp_region_held_drew (S := (fun w' => w'.cell? ⟨w.heap.size, 0, none⟩ = some (.slice s1 t.nodes.length c1) ∧ w'.cell? ⟨w.heap.size, 1, none⟩ = some (.slice (some ⟨kb, ko, none⟩) t.tops.length c2) ∧ w'.cell? ⟨kb, ko + j, none⟩ = some (.int .i64 x))) (by kernel_rfl) ?_ (fun hHeld => ?_)
   ·
    exact ⟨x0, x1, p0⟩
   refine wpr 0 30 ?_; simp only [zs]; refine wpr 1 31 ?_; simp only [zs]; refine wpr 2 32 ?_; simp only [zs]; refine wpr 3 33 ?_; simp only [zs]; refine wpr 4 34 ?_; simp only [zs]; refine wpr 5 35 ?_; simp only [zs]; refine wpr 6 36 ?_; simp only [zs]; refine wpr 7 37 ?_; simp only [zs]; refine wpy 8 fun K hK => ?_
   go_simp; refine (l8Fits_any t s1 (some ⟨kb, ko, none⟩) c1 c2 (w.heap.size + 1) B w HT.out HKT.out (by omega) x 9 nj t.nodes.length f1 _ (bl_drew hbW.out) (hSr.out.later (bl_drew (Below.refl _ _))) (by omega) (fun y _ => hfr.out y)).mono ?_
   rintro e w6 ⟨hg6, f6, hS6, hr6⟩
   have hg6 : wr.grownBy w6 (some (w.heap.size + 1)) := grown_trans (grown_bl (grown_refl _ _) (bl_drew (Below.refl _ _))) hg6
   have x0 := (grown_cell hg6 lt0 ne0).trans x0
   have x1 := (grown_cell hg6 lt0 ne0).trans x1
   have p0 := (grown_cell hg6 ltk nek).trans p0
   rcases hr6 with ⟨m, em, hFm, rfl, u1, u2⟩ | ⟨hno, _⟩
   rotate_left
   ·
    exact absurd hgd.out hno
   have HFm : Hid (FitN t 9 m nj) := hFm
   have HEm : Hid (x = m) := em
   have HU : Hid ((∀ y, y ≤ m → f6 y = true) ∧ ∀ y, m < y → f6 y = f1 y) := ⟨u1, u2⟩
   have HS6 : Hid (SeenIs w6 (w.heap.size + 1) t.nodes.length f6) := hS6
   have HG6 : Hid (W5.grownBy w6 (some (w.heap.size + 1))) := grown_trans hGr.out hg6
   clear hFm em u1 u2 hS6 hg6; refine hK.out _ _ ?_ (fun hHeld => ?_)
   ·
    exact ⟨x0, x1, p0⟩
   clear hK K; try simp only [zs]
   refine wpr 9 29 ?_; simp only [zs]; refine wpr 10 39 ?_; simp only [zs]; refine wpr 11 40 ?_; simp only [zs]; refine wpr 12 6 ?_; simp only [zs]; refine wpr 13 7 ?_; simp only [zs]; refine wpAnyH_done (by kernel_rfl) ?_ _
   go_wp2_with fail; go_roundw
   case rel =>
    obtain rfl := HEm.out
    have hFm := HFm.out
    have hml := fitN_lt hFm
    refine ⟨j + 1, m + 1, f6, by omega, by go_num, by go_num, by omega, top_take HX.out hFL.out hFm, ?_, HS6, fun y => ?_, HG6⟩
    ·
     intro j' y hj' hy
     by_cases e : j' = j
     ·
      subst e
      have h1 := HX.out
      rw [h1] at hy
      cases hy
      obtain ⟨nd', g1, g2, _⟩ := hFm
      exact ⟨m, nd', rfl, g1, g2⟩
     exact hcl.out j' y (by omega) hy
    by_cases e : y ≤ m
    ·
     rw [HU.out.1 y e]; symm; simp; omega
    have h3 : nj ≤ m := by obtain ⟨_, _, _, h, _⟩ := hFm; exact h
    rw [HU.out.2 y (by omega), hfr.out y]
    have e1 : decide (y < nj) = false := by simp; omega
    have e2 : decide (y < m + 1) = false := by simp; omega
    rw [e1, e2]
   case measure => simp [intOf]; omega
  have hgd : Hid (¬ ∃ m : Nat, x = m ∧ FitN t 9 m nj) := hgood
  clear hgood; go_upto_region 8 with fail
  refine wp_region_held_drew (S := (fun w' => w'.cell? ⟨w.heap.size, 0, none⟩ = some (.slice s1 t.nodes.length c1) ∧ w'.cell? ⟨w.heap.size, 1, none⟩ = some (.slice (some ⟨kb, ko, none⟩) t.tops.length c2) ∧ w'.cell? ⟨kb, ko + j, none⟩ = some (.int .i64 x))) (by kernel_rfl) ?_ (fun hHeld => ?_)
  ·
   exact ⟨x0, x1, p0⟩
  refine wpr 0 30 ?_; simp only [zs]; refine wpr 1 31 ?_; simp only [zs]; refine wpr 2 32 ?_; simp only [zs]; refine wpr 3 33 ?_; simp only [zs]; refine wpr 4 34 ?_; simp only [zs]; refine wpr 5 35 ?_; simp only [zs]; refine wpr 6 36 ?_; simp only [zs]; refine wpr 7 37 ?_; simp only [zs]; refine wpy 8 fun K hK => ?_
  go_simp; refine (l8Fits_any t s1 (some ⟨kb, ko, none⟩) c1 c2 (w.heap.size + 1) B w HT.out HKT.out (by omega) x 9 nj t.nodes.length f1 _ (bl_drew hbW.out) (hSr.out.later (bl_drew (Below.refl _ _))) (by omega) (fun y _ => hfr.out y)).mono ?_
  rintro e w6 ⟨hg6, f6, hS6, hr6⟩
  have hg6 : wr.grownBy w6 (some (w.heap.size + 1)) := grown_trans (grown_bl (grown_refl _ _) (bl_drew (Below.refl _ _))) hg6
  have x0 := (grown_cell hg6 lt0 ne0).trans x0
  have x1 := (grown_cell hg6 lt0 ne0).trans x1
  have p0 := (grown_cell hg6 ltk nek).trans p0
  rcases hr6 with ⟨m, em, hFm, _, _, _⟩ | ⟨hno, r, rfl⟩
  ·
   exact absurd ⟨m, em, hFm⟩ hgd.out
  have HG6 : Hid (W5.grownBy w6 (some (w.heap.size + 1))) := grown_trans hGr.out hg6
  clear hS6 hg6 hno; refine hK.out _ _ ?_ (fun hHeld => ?_)
  ·
   exact ⟨x0, x1, p0⟩
  clear hK K; try simp only [zs]
  refine wpr 9 29 ?_; simp only [zs]; refine wpr 10 39 ?_; simp only [zs]; refine wpr 11 40 ?_; simp only [zs]; refine wpr 12 6 ?_; simp only [zs]; refine wpr 13 7 ?_; simp only [zs]; refine wpAnyH_done (by kernel_rfl) ?_ _
  go_wp2_with fail; go_ret; refine ⟨ret_bool' (treB_false fun h => hgd.out (treP_top HX.out hFL.out h)).symm, Below.trans hbel.out (grown_below HG6.out (Nat.le_succ _) (by omega))⟩
 have HJ : Hid (j = t.tops.length) := show _ = _ by omega
 by_cases hnk : nj = t.nodes.length
 ·
  have qn : ((nj : Int) == (t.nodes.length : Int)) = true := by simp [hnk]
  have HE : Hid (treB t = true) := treB_true ⟨H4.out, by
   have h6 := hFL.out
   rw [HJ.out, List.take_length, hnk] at h6
   exact h6, fun j' x h1 => hcl.out j' x (by rw [HJ.out]; exact (List.getElem?_eq_some_iff.1 h1).1) h1⟩
  clear hnk; go_wp2_with fail; go_ret; exact ⟨ret_bool' HE.out.symm, hbW.out⟩
 have qn : ((nj : Int) == (t.nodes.length : Int)) = false := by simp; omega
 have HE : Hid (treB t = false) := treB_false fun h => by
  have h6 := hFL.out
  rw [HJ.out, List.take_length] at h6
  exact hnk (h6.same _ h.2.1)
 clear hnk; go_wp2_with fail; go_ret; exact ⟨ret_bool' HE.out.symm, hbW.out⟩
end
section
open Go.RowKit
def bLp : ByteArray := ⟨#[40]⟩
def bRp : ByteArray := ⟨#[41]⟩
def bComma : ByteArray := ⟨#[44]⟩
def bSemi : ByteArray := ⟨#[59]⟩
def bEq : ByteArray := ⟨#[61]⟩
def bLb : ByteArray := ⟨#[123]⟩
def bRb : ByteArray := ⟨#[125]⟩
def bDot : ByteArray := ⟨#[46]⟩
def bDol : ByteArray := ⟨#[36]⟩
def bMinus : ByteArray := ⟨#[45]⟩
def bPlus : ByteArray := ⟨#[43]⟩
def bStar : ByteArray := ⟨#[42]⟩
def bSlash : ByteArray := ⟨#[47]⟩
def bPerc : ByteArray := ⟨#[37]⟩
def bLess : ByteArray := ⟨#[60]⟩
def bSame : ByteArray := ⟨#[61, 61]⟩
def bAnd : ByteArray := ⟨#[97, 110, 100]⟩
def bOr : ByteArray := ⟨#[111, 114]⟩
def bNot : ByteArray := ⟨#[110, 111, 116]⟩
def bYes : ByteArray := ⟨#[121, 101, 115]⟩
def bNo : ByteArray := ⟨#[110, 111]⟩
def bRe : ByteArray := ⟨#[114, 101]⟩
def bIm : ByteArray := ⟨#[105, 109]⟩
def bReal : ByteArray := ⟨#[114, 101, 97, 108]⟩
def bSize : ByteArray := ⟨#[115, 105, 122, 101]⟩
def bPair : ByteArray := ⟨#[112, 97, 105, 114]⟩
def bPick : ByteArray := ⟨#[112, 105, 99, 107]⟩
def bOf : ByteArray := ⟨#[111, 102]⟩
def bLet : ByteArray := ⟨#[108, 101, 116]⟩
def bPut : ByteArray := ⟨#[112, 117, 116]⟩
def bIf : ByteArray := ⟨#[105, 102]⟩
def bElse : ByteArray := ⟨#[101, 108, 115, 101]⟩
def bLoop : ByteArray := ⟨#[108, 111, 111, 112]⟩
def bEach : ByteArray := ⟨#[101, 97, 99, 104]⟩
def bWith : ByteArray := ⟨#[119, 105, 116, 104]⟩
def bWithout : ByteArray := ⟨#[119, 105, 116, 104, 111, 117, 116]⟩
def bEmit : ByteArray := ⟨#[101, 109, 105, 116]⟩
def bHear : ByteArray := ⟨#[104, 101, 97, 114]⟩
def bAs : ByteArray := ⟨#[97, 115]⟩
def bSpawn : ByteArray := ⟨#[115, 112, 97, 119, 110]⟩
def bKill : ByteArray := ⟨#[107, 105, 108, 108]⟩
def bDrop : ByteArray := ⟨#[100, 114, 111, 112]⟩
def bDo : ByteArray := ⟨#[100, 111]⟩
def bReturn : ByteArray := ⟨#[114, 101, 116, 117, 114, 110]⟩
def bFn : ByteArray := ⟨#[102, 110]⟩
def bSystem : ByteArray := ⟨#[115, 121, 115, 116, 101, 109]⟩
def bInt : ByteArray := ⟨#[105, 110, 116]⟩
def bBool : ByteArray := ⟨#[98, 111, 111, 108]⟩
def nT (T : Tre) (i : Int) : Nd := (T.nodes[i.toNat]?).getD ⟨0, ByteArray.empty, 0, []⟩
def kdT (n : Nd) (j : Nat) : Int := (n.kids[j]?).getD 0
theorem nT_at {T : Tre} {m : Nat} {n : Nd} (h : T.nodes[m]? = some n) : nT T (m : Int) = n := by simp [nT, h]
def cm : List (List ByteArray) → List ByteArray
 | [] => []
 | x :: xs => x ++ (xs.map fun y => bComma :: y).flatten
theorem cm_snoc (L : List (List ByteArray)) (x : List ByteArray) : cm (L ++ [x]) = if L.length = 0 then x else cm L ++ bComma :: x := by
 cases L with
 | nil => simp [cm]
 | cons y ys => simp [cm]
def opT (q : Int) : ByteArray := if q = 1 then bPlus else if q = 2 then bMinus else if q = 3 then bStar else if q = 4 then bSlash else if q = 5 then bPerc else if q = 6 then bLess else if q = 7 then bSame else if q = 8 then bAnd else bOr
def tuT (q : Int) : ByteArray := if q = 1 then bMinus else if q = 2 then bNot else if q = 3 then bRe else if q = 4 then bIm else if q = 5 then bReal else bSize
def kiT (q : Int) : ByteArray := if q = 1 then bInt else if q = 2 then bReal else if q = 3 then bPair else bBool
def tkN (g : Int → List ByteArray) (n : Nd) : List ByteArray :=
 if n.kind = 1 then [⟨(Lib.itoa n.num).toArray⟩]
 else if n.kind = 3 then [if n.num = 1 then bYes else bNo]
 else if n.kind = 5 then [bDot, n.text]
 else if n.kind = 6 then [bDol, n.text]
 else if n.kind = 7 then [n.text, bLp] ++ cm (n.kids.map g) ++ [bRp]
 else if n.kind = 8 then [bLp] ++ g (kdT n 0) ++ [opT n.num] ++ g (kdT n 1) ++ [bRp]
 else if n.kind = 9 then (if n.num ≤ 2 then [bLp, tuT n.num] else [tuT n.num, bLp]) ++ g (kdT n 0) ++ [bRp]
 else if n.kind = 10 then [bPair, bLp] ++ cm (n.kids.map g) ++ [bRp]
 else if n.kind = 11 then [bPick, bLp] ++ g (kdT n 0) ++ [bOf] ++ cm (n.kids.tail.map g) ++ [bRp]
 else if n.kind = 12 then [bLet, n.text, bEq] ++ g (kdT n 0) ++ [bSemi]
 else if n.kind = 13 then [n.text, bEq] ++ g (kdT n 0) ++ [bSemi]
 else if n.kind = 14 then [bDot, n.text, bEq] ++ g (kdT n 0) ++ [bSemi]
 else if n.kind = 15 then [bDol, n.text, bEq] ++ g (kdT n 0) ++ [bSemi]
 else if n.kind = 16 then [bIf] ++ g (kdT n 0) ++ g (kdT n 1) ++ (if n.kids.length = 3 then [bElse] ++ g (kdT n 2) else [])
 else if n.kind = 17 then [bLoop] ++ g (kdT n 0) ++ g (kdT n 1)
 else if n.kind = 18 then [bEach] ++ g (kdT n 0) ++ g (kdT n 1) ++ g (kdT n 2)
 else if n.kind = 19 then [bEmit, n.text] ++ g (kdT n 0) ++ [bSemi]
 else if n.kind = 20 then [bHear, n.text, bAs] ++ g (kdT n 0) ++ g (kdT n 1)
 else if n.kind = 21 then [bSpawn, bLp] ++ cm (n.kids.map g) ++ [bRp, bSemi]
 else if n.kind = 22 then [bKill, bSemi]
 else if n.kind = 23 then [bPut, n.text, bEq] ++ g (kdT n 0) ++ [bSemi]
 else if n.kind = 24 then [bDrop, n.text, bSemi]
 else if n.kind = 25 then [bDo] ++ g (kdT n 0) ++ [bSemi]
 else if n.kind = 26 then [bReturn] ++ g (kdT n 0) ++ [bSemi]
 else if n.kind = 27 then [bLb] ++ (n.kids.map g).flatten ++ [bRb]
 else if n.kind = 28 then [n.text, bEq] ++ g (kdT n 0)
 else if n.kind = 29 then [bWith] ++ cm (n.kids.map g)
 else if n.kind = 30 then (if n.kids.length = 0 then [] else [bWithout] ++ cm (n.kids.map g))
 else if n.kind = 32 then [n.text, kiT n.num]
 else if n.kind = 33 then [bFn, n.text, bLp] ++ cm (n.kids.dropLast.map g) ++ [bRp, kiT n.num] ++ g (kdT n (n.kids.length - 1))
 else if n.kind = 34 then [bSystem, n.text] ++ g (kdT n 0)
 else [n.text]
def tk (T : Tre) : Nat → Int → List ByteArray
 | 0, _ => []
 | f + 1, i => tkN (tk T f) (nT T i)
def tkA (T : Tre) (i : Int) : List ByteArray := tk T (i.toNat + 1) i
theorem FitL.mem {K : Nat → List Int} {ok : Nat → Prop} {ks : List Int} {a e : Nat} (h : FitL K ok ks a e) : ∀ x ∈ ks, ∃ (k b : Nat), x = k ∧ ok k ∧ FitL K ok (K k) b k ∧ a ≤ b ∧ k < e := by
 induction h with
 | nil nx => intro x hx; simp at hx
 | cons nx k ks e h1 h2 h3 h4 _ ih =>
  intro x hx
  have hle := h4.le
  rcases List.mem_cons.1 hx with rfl | hx
  ·
   exact ⟨k, nx, rfl, h2, h3, Nat.le_refl _, by omega⟩
  obtain ⟨k', b, e1, e2, e3, e4, e5⟩ := ih x hx
  exact ⟨k', b, e1, e2, e3, by have := h3.le; omega, e5⟩
structure VN (T : Tre) (i : Nat) (n : Nd) : Prop where
 at_ : T.nodes[i]? = some n
 ok : okN T i
 fit : ∃ nx, FitL (kidsOf T) (okN T) n.kids nx i
theorem VN.kid {T : Tre} {i : Nat} {n : Nd} (h : VN T i n) {x : Int} (hx : x ∈ n.kids) : ∃ (k : Nat) (m : Nd), x = k ∧ k < i ∧ VN T k m := by
 obtain ⟨nx, hf⟩ := h.fit
 obtain ⟨k, b, rfl, hok, hfk, _, hlt⟩ := hf.mem x hx
 have hok2 := hok
 obtain ⟨m, hm, _⟩ := hok2
 exact ⟨k, m, rfl, hlt, hm, hok, b, by rw [kidsOf_some hm] at hfk; exact hfk⟩
theorem VN.cls {T : Tre} {i : Nat} {n : Nd} (h : VN T i n) {j : Nat} {x c : Int} (hx : n.kids[j]? = some x) (hc : (shp n.kind n.kids.length)[j]? = some c) : clsOk c (nT T x).kind := by
 obtain ⟨n2, e1, _, e3, e4⟩ := h.ok
 rw [h.at_] at e1
 cases e1
 obtain ⟨k, n', rfl, b, d⟩ := e4 j x c hx hc
 rw [nT_at b]; exact d
theorem VN.len {T : Tre} {i : Nat} {n : Nd} (h : VN T i n) : (shp n.kind n.kids.length).length = n.kids.length := by
 obtain ⟨n2, e1, _, e3, _⟩ := h.ok
 rw [h.at_] at e1
 cases e1
 exact e3
theorem VN.has {T : Tre} {i : Nat} {n : Nd} (h : VN T i n) : hasB n.kind n.text n.num = true := by
 obtain ⟨n2, e1, e2, _, _⟩ := h.ok
 rw [h.at_] at e1
 cases e1
 exact e2
theorem VN.kidAt {T : Tre} {i : Nat} {n : Nd} (h : VN T i n) {j : Nat} {c : Int} (hc : (shp n.kind n.kids.length)[j]? = some c) : ∃ (k : Nat) (m : Nd), n.kids[j]? = some (k : Int) ∧ kdT n j = (k : Int) ∧ k < i ∧ VN T k m ∧ clsOk c m.kind := by
 have hj : j < n.kids.length := by rw [← h.len]; exact (List.getElem?_eq_some_iff.1 hc).1
 obtain ⟨x, hx⟩ : ∃ x, n.kids[j]? = some x := ⟨n.kids[j], by simp [hj]⟩
 obtain ⟨k, m, rfl, hlt, hv⟩ := h.kid (List.mem_of_getElem? hx)
 have h3 := h.cls hx hc
 rw [nT_at hv.at_] at h3
 exact ⟨k, m, hx, by simp [kdT, hx], hlt, hv, h3⟩
theorem kdT_mem {n : Nd} {j : Nat} (hj : j < n.kids.length) : kdT n j ∈ n.kids := by
 unfold kdT
 rw [List.getElem?_eq_getElem hj]
 exact List.getElem_mem hj
theorem tkN_same {g h : Int → List ByteArray} {n : Nd} (hl : (shp n.kind n.kids.length).length = n.kids.length) (e : ∀ x ∈ n.kids, g x = h x) : tkN g n = tkN h n := by
 have e1 : n.kids.map g = n.kids.map h := List.map_congr_left e
 have e2 : n.kids.tail.map g = n.kids.tail.map h := List.map_congr_left fun x hx => e x (List.mem_of_mem_tail hx)
 have e3 : n.kids.dropLast.map g = n.kids.dropLast.map h := List.map_congr_left fun x hx => e x (List.dropLast_subset _ hx)
 have k : ∀ j, j < n.kids.length → g (kdT n j) = h (kdT n j) := fun j hj => e _ (kdT_mem hj)
 obtain ⟨kd, hk⟩ : ∃ k, n.kind = k := ⟨_, rfl⟩
 rw [hk] at hl
 unfold tkN
 rw [e1, e2, e3, hk]
 by_cases h18 : kd = 18
 ·
  subst h18
  simp [shp] at hl
  rw [k 0 (by omega), k 1 (by omega), k 2 (by omega)]
  simp only [Int.reduceEq, if_false, if_true]
 by_cases h33 : kd = 33
 ·
  subst h33
  simp [shp] at hl
  rw [k (n.kids.length - 1) (by omega)]
  simp only [Int.reduceEq, if_false, if_true]
 by_cases h16 : kd = 16
 ·
  subst h16
  by_cases h3 : n.kids.length = 3
  ·
   rw [k 0 (by omega), k 1 (by omega), k 2 (by omega)]
   simp only [Int.reduceEq, if_false, if_true]
  simp [shp, h3] at hl
  rw [k 0 (by omega), k 1 (by omega)]
  simp only [Int.reduceEq, if_false, if_true, if_neg h3]
 by_cases h2 : kd = 8 ∨ kd = 17 ∨ kd = 20
 ·
  have : 2 = n.kids.length := by rcases h2 with rfl | rfl | rfl <;> simpa [shp] using hl
  rw [k 0 (by omega), k 1 (by omega)]
  rcases h2 with rfl | rfl | rfl <;> simp only [Int.reduceEq, if_false, if_true]
 by_cases h1 : kd = 9 ∨ kd = 11 ∨ kd = 12 ∨ kd = 13 ∨ kd = 14 ∨ kd = 15 ∨ kd = 19 ∨ kd = 23 ∨ kd = 25 ∨ kd = 26 ∨ kd = 28 ∨ kd = 34
 ·
  have : 1 ≤ n.kids.length := by rcases h1 with rfl | rfl | rfl | rfl | rfl | rfl | rfl | rfl | rfl | rfl | rfl | rfl <;> simp [shp] at hl <;> omega
  rw [k 0 (by omega)]
  rcases h1 with rfl | rfl | rfl | rfl | rfl | rfl | rfl | rfl | rfl | rfl | rfl | rfl <;> simp only [Int.reduceEq, if_false, if_true]
 simp only [not_or] at h1 h2
 simp only [h18, h33, h16, h1, h2, if_false]
theorem tk_fuel {T : Tre} : ∀ (i : Nat) (n : Nd) (f : Nat), VN T i n → i < f → tk T f (i : Int) = tkA T (i : Int) := by
 intro i
 induction i using Nat.strongRecOn with
 | ind i ih =>
  intro n f hv hf
  obtain ⟨f, rfl⟩ : ∃ f', f = f' + 1 := ⟨f - 1, by omega⟩
  show tkN (tk T f) (nT T (i : Int)) = tkN (tk T (i : Int).toNat) (nT T (i : Int))
  rw [nT_at hv.at_]
  refine tkN_same hv.len fun x hx => ?_
  obtain ⟨k, m, rfl, hk, hvk⟩ := hv.kid hx
  rw [ih k hk m f hvk (by omega), ih k hk m (i : Int).toNat hvk (by simpa using hk)]
theorem tkA_eq {T : Tre} {i : Nat} {n : Nd} (hv : VN T i n) : tkA T (i : Int) = tkN (tkA T) n := by
 show tkN (tk T (i : Int).toNat) (nT T (i : Int)) = _
 rw [nT_at hv.at_]
 refine tkN_same hv.len fun x hx => ?_
 obtain ⟨k, m, rfl, hk, hvk⟩ := hv.kid hx
 exact tk_fuel k m _ hvk (by simpa using hk)
end
section
open Go.RowKit
theorem cm_len {α : Type} (g : α → List ByteArray) (ks : List α) : (cm (ks.map g)).length ≤ (ks.map fun x => (g x).length + 1).sum := by
 cases ks with
 | nil => simp [cm]
 | cons x xs =>
  have : ∀ ys : List α, ((ys.map g).map fun y => bComma :: y).flatten.length = (ys.map fun x => (g x).length + 1).sum := by
   intro ys
   induction ys with
   | nil => rfl
   | cons y ys ih => simp only [List.map_cons, List.flatten_cons, List.length_append, List.sum_cons, ih, List.length_cons]
  simp only [List.map_cons, cm, List.length_append, this, List.sum_cons]
  omega
theorem fl_len (g : Int → List ByteArray) (ks : List Int) : (ks.map g).flatten.length ≤ (ks.map fun x => (g x).length + 1).sum := by
 induction ks with
 | nil => simp
 | cons x xs ih => simp only [List.map_cons, List.flatten_cons, List.length_append, List.sum_cons]; omega
theorem kids_1 {n : Nd} (h : n.kids.length = 1) : n.kids = [kdT n 0] := by
 obtain ⟨a, e⟩ := List.length_eq_one_iff.1 h
 simp [kdT, e]
theorem kids_2 {n : Nd} (h : n.kids.length = 2) : n.kids = [kdT n 0, kdT n 1] := by
 cases e : n.kids with
 | nil => rw [e] at h; simp at h
 | cons a l =>
  cases l with
  | nil => rw [e] at h; simp at h
  | cons b l =>
   cases l with
   | nil => simp [kdT, e]
   | cons c l => rw [e] at h; simp at h
theorem kids_3 {n : Nd} (h : n.kids.length = 3) : n.kids = [kdT n 0, kdT n 1, kdT n 2] := by
 cases e : n.kids with
 | nil => rw [e] at h; simp at h
 | cons a l =>
  cases l with
  | nil => rw [e] at h; simp at h
  | cons b l =>
   cases l with
   | nil => rw [e] at h; simp at h
   | cons c l =>
    cases l with
    | nil => simp [kdT, e]
    | cons d l => rw [e] at h; simp at h
theorem kids_tail {n : Nd} (h : 1 ≤ n.kids.length) : n.kids = kdT n 0 :: n.kids.tail := by
 cases e : n.kids with
 | nil => rw [e] at h; simp at h
 | cons a b => simp [kdT, e]
theorem kids_last {n : Nd} (h : 1 ≤ n.kids.length) : n.kids = n.kids.dropLast ++ [kdT n (n.kids.length - 1)] := by
 have hn : n.kids ≠ [] := by intro e; rw [e] at h; simp at h
 have e : kdT n (n.kids.length - 1) = n.kids.getLast hn := by
  unfold kdT
  rw [List.getElem?_eq_getElem (by omega), List.getLast_eq_getElem]; rfl
 rw [e]; exact (List.dropLast_concat_getLast hn).symm
set_option maxRecDepth 4000 in
theorem tkN_len {g : Int → List ByteArray} {n : Nd} (hl : (shp n.kind n.kids.length).length = n.kids.length) : (tkN g n).length ≤ (n.kids.map fun x => (g x).length + 1).sum + 6 := by
 have c1 := cm_len g n.kids
 have c2 := fl_len g n.kids
 obtain ⟨kd, hk⟩ : ∃ k, n.kind = k := ⟨_, rfl⟩
 rw [hk] at hl
 unfold tkN
 rw [hk]
 by_cases h33 : kd = 33
 ·
  subst h33
  have h1 : 1 ≤ n.kids.length := by simp [shp] at hl; omega
  have c3 := cm_len g n.kids.dropLast
  have e := congrArg (fun l => (l.map fun x => (g x).length + 1).sum) (kids_last h1)
  simp only [List.map_append, List.sum_append, List.map_cons, List.map_nil, List.sum_cons, List.sum_nil] at e
  simp only [Int.reduceEq, if_false, if_true, List.length_append, List.length_cons, List.length_nil]
  omega
 by_cases h11 : kd = 11
 ·
  subst h11
  have h1 : 1 ≤ n.kids.length := by simp [shp] at hl; omega
  have c3 := cm_len g n.kids.tail
  rw [kids_tail h1]
  simp only [Int.reduceEq, if_false, if_true, List.length_append, List.map_cons, List.sum_cons, List.length_cons, List.length_nil, List.tail_cons] at c3 ⊢
  omega
 by_cases h16 : kd = 16
 ·
  subst h16
  by_cases h3 : n.kids.length = 3
  ·
   have e := kids_3 h3
   rw [e]
   simp only [Int.reduceEq, if_false, if_true, List.length_append, List.map_cons, List.map_nil, List.sum_cons, List.sum_nil, List.length_cons, List.length_nil]
   omega
  simp [shp, h3] at hl
  have e := kids_2 hl.symm
  simp only [Int.reduceEq, if_false, if_true, if_neg h3, List.length_append, List.length_cons, List.length_nil]
  rw [e]
  simp only [List.map_cons, List.map_nil, List.sum_cons, List.sum_nil]
  omega
 by_cases h18 : kd = 18
 ·
  subst h18
  simp [shp] at hl
  rw [kids_3 hl.symm]
  simp only [Int.reduceEq, if_false, if_true, List.length_append, List.map_cons, List.map_nil, List.sum_cons, List.sum_nil, List.length_cons, List.length_nil]
  omega
 by_cases h2 : kd = 8 ∨ kd = 17 ∨ kd = 20
 ·
  have : n.kids.length = 2 := by rcases h2 with rfl | rfl | rfl <;> simp [shp] at hl <;> omega
  rw [kids_2 this]
  rcases h2 with rfl | rfl | rfl <;> simp only [Int.reduceEq, if_false, if_true, List.length_append, List.map_cons, List.map_nil, List.sum_cons, List.sum_nil, List.length_cons, List.length_nil] <;> omega
 by_cases h1 : kd = 12 ∨ kd = 13 ∨ kd = 14 ∨ kd = 15 ∨ kd = 19 ∨ kd = 23 ∨ kd = 25 ∨ kd = 26 ∨ kd = 28 ∨ kd = 34
 ·
  have : n.kids.length = 1 := by rcases h1 with rfl | rfl | rfl | rfl | rfl | rfl | rfl | rfl | rfl | rfl <;> simp [shp] at hl <;> omega
  rw [kids_1 this]
  rcases h1 with rfl | rfl | rfl | rfl | rfl | rfl | rfl | rfl | rfl | rfl <;> simp only [Int.reduceEq, if_false, if_true, List.length_append, List.map_cons, List.map_nil, List.sum_cons, List.sum_nil, List.length_cons, List.length_nil] <;> omega
 by_cases h9 : kd = 9
 ·
  subst h9
  have : n.kids.length = 1 := by simp [shp] at hl; omega
  rw [kids_1 this]
  simp only [Int.reduceEq, if_false, if_true, List.length_append, List.map_cons, List.map_nil, List.sum_cons, List.sum_nil, List.length_cons, List.length_nil]
  split <;> simp <;> omega
 by_cases hc : kd = 7 ∨ kd = 10 ∨ kd = 21 ∨ kd = 29 ∨ kd = 27
 ·
  rcases hc with rfl | rfl | rfl | rfl | rfl <;> simp only [Int.reduceEq, if_false, if_true, List.length_append, List.length_cons, List.length_nil] <;> omega
 by_cases h30 : kd = 30
 ·
  subst h30
  simp only [Int.reduceEq, if_false, if_true]
  split
  ·
   simp
  simp only [List.length_append, List.length_cons, List.length_nil]; omega
 simp only [not_or] at h1 h2 hc
 simp only [h18, h33, h16, h1, h2, h11, h9, hc, h30, if_false]
 repeat (split; · simp)
 simp
theorem tkA_len {T : Tre} : ∀ (i : Nat) (n : Nd) (nx : Nat), VN T i n → nx ≤ i → FitL (kidsOf T) (okN T) n.kids nx i → (tkA T (i : Int)).length + 1 + 8 * nx ≤ 8 * (i + 1) := by
 intro i
 induction i using Nat.strongRecOn with
 | ind i ih =>
  intro n nx hv hle hf
  have hs : ∀ (ks : List Int) (a e : Nat), FitL (kidsOf T) (okN T) ks a e → e ≤ i → (ks.map fun x => (tkA T x).length + 1).sum + 8 * a ≤ 8 * e := by
   intro ks a e h
   induction h with
   | nil nx => intro _; simp
   | cons nx k ks e h1 h2 h3 h4 _ ih2 =>
    intro he
    have hle4 := h4.le
    have h2' := h2
    obtain ⟨m, hm, _⟩ := h2'
    have h3' := h3
    rw [kidsOf_some hm] at h3'
    have g := ih k (by omega) m nx ⟨hm, h2, nx, h3'⟩ h1 h3'
    have g2 := ih2 he
    simp only [List.map_cons, List.sum_cons]
    omega
  have h1 := hs n.kids nx i hf (Nat.le_refl _)
  have h2 := tkN_len (g := tkA T) hv.len
  rw [tkA_eq hv]
  omega
end
section
open Go.RowKit
def OS (w : World) (B : Nat) (v : Value) (L : List ByteArray) : Prop := w.ownsRow B 9 1 v L.length (L.map Value.string)
def RT (w : World) (v : Value) (L : List ByteArray) : Prop := (∃ c, v = .slice none L.length c ∧ L = []) ∨ ∃ b o c, v = .slice (some ⟨b, o, none⟩) L.length c ∧ b < w.heap.size ∧ ∀ j, j < L.length → w.cell? ⟨b, o + j, none⟩ = some (.string (L[j]?.getD ByteArray.empty))
theorem RT.nil (w : World) : RT w (.slice none 0 0) [] := Or.inl ⟨0, rfl, rfl⟩
theorem RT.later {w w' : World} {v : Value} {L : List ByteArray} (h : RT w v L) (hb : Below w.heap.size w w') : RT w' v L := by
 rcases h with h | ⟨b, o, c, e, hlt, hc⟩
 ·
  exact Or.inl h
 exact Or.inr ⟨b, o, c, e, Nat.lt_of_lt_of_le hlt hb.size, fun j hj => (hb.cell (p := ⟨b, o + j, none⟩) hlt).trans (hc j hj)⟩
theorem RT.alloc {w : World} {v : Value} {L : List ByteArray} (h : RT w v L) (c : Obj) : RT (w.alloc c) v L := h.later (bl_alloc (Below.refl _ _) _)
theorem RT.shape {w : World} {v : Value} {L : List ByteArray} (h : RT w v L) : ∃ s c, v = .slice s L.length c := by
 rcases h with ⟨c, rfl, rfl⟩ | ⟨b, o, c, rfl, _⟩ <;> exact ⟨_, _, rfl⟩
theorem RT.blk {w : World} {b : Nat} {L : List ByteArray} {t : TypeId} {c : Nat} (h : Blk w b (L.map Value.string).toArray t) : RT w (.slice (some ⟨b, 0, none⟩) L.length c) L := by
 refine Or.inr ⟨b, 0, c, rfl, h.lt, fun j hj => ?_⟩
 rw [Nat.zero_add]
 refine (h.cell j).trans ?_
 simp [hj]
theorem RT.new1 (w : World) (a : ByteArray) (t : TypeId) : RT (w.alloc (.cells #[.string a] t)) (.slice (some ⟨w.heap.size, 0, none⟩) 1 1) [a] := RT.blk (L := [a]) (Blk.new w #[.string a] t)
theorem RT.new2 (w : World) (a b : ByteArray) (t : TypeId) : RT (w.alloc (.cells #[.string a, .string b] t)) (.slice (some ⟨w.heap.size, 0, none⟩) 2 2) [a, b] := RT.blk (L := [a, b]) (Blk.new w #[.string a, .string b] t)
theorem RT.new3 (w : World) (a b c : ByteArray) (t : TypeId) : RT (w.alloc (.cells #[.string a, .string b, .string c] t)) (.slice (some ⟨w.heap.size, 0, none⟩) 3 3) [a, b, c] := RT.blk (L := [a, b, c]) (Blk.new w #[.string a, .string b, .string c] t)
theorem RT.n1 {w : World} {k : Nat} {a : ByteArray} {t : TypeId} (hk : k = w.heap.size) : RT (w.alloc (.cells #[.string a] t)) (.slice (some ⟨k, 0, none⟩) 1 1) [a] := by subst hk; exact RT.new1 w a t
theorem RT.n2 {w : World} {k : Nat} {a b : ByteArray} {t : TypeId} (hk : k = w.heap.size) : RT (w.alloc (.cells #[.string a, .string b] t)) (.slice (some ⟨k, 0, none⟩) 2 2) [a, b] := by subst hk; exact RT.new2 w a b t
theorem RT.n3 {w : World} {k : Nat} {a b c : ByteArray} {t : TypeId} (hk : k = w.heap.size) : RT (w.alloc (.cells #[.string a, .string b, .string c] t)) (.slice (some ⟨k, 0, none⟩) 3 3) [a, b, c] := by subst hk; exact RT.new3 w a b c t
theorem OS.blk {w : World} {b B : Nat} {L : List ByteArray} (h : Blk w b (L.map Value.string).toArray 9) (hB : B ≤ b) (hl : L.length ≤ 1048576) : OS w B (.slice (some ⟨b, 0, none⟩) L.length L.length) L := ⟨by simp, Or.inr ⟨b, L.length, _, rfl, hB, h, Nat.le_refl _, by unfold maxLen; omega, by simp, by simp [List.take_of_length_le]⟩⟩
theorem OS.new0 (w : World) : OS (w.alloc (.cells #[] 9)) w.heap.size (.slice (some ⟨w.heap.size, 0, none⟩) 0 0) [] := OS.blk (L := []) (Blk.new w #[] 9) (Nat.le_refl _) (by simp)
theorem OS.new1 (w : World) (a : ByteArray) : OS (w.alloc (.cells #[.string a] 9)) w.heap.size (.slice (some ⟨w.heap.size, 0, none⟩) 1 1) [a] := OS.blk (L := [a]) (Blk.new w #[.string a] 9) (Nat.le_refl _) (by simp)
theorem OS.new2 (w : World) (a b : ByteArray) : OS (w.alloc (.cells #[.string a, .string b] 9)) w.heap.size (.slice (some ⟨w.heap.size, 0, none⟩) 2 2) [a, b] := OS.blk (L := [a, b]) (Blk.new w #[.string a, .string b] 9) (Nat.le_refl _) (by simp)
theorem OS.new3 (w : World) (a b c : ByteArray) : OS (w.alloc (.cells #[.string a, .string b, .string c] 9)) w.heap.size (.slice (some ⟨w.heap.size, 0, none⟩) 3 3) [a, b, c] := OS.blk (L := [a, b, c]) (Blk.new w #[.string a, .string b, .string c] 9) (Nat.le_refl _) (by simp)
theorem OS.form {w : World} {B : Nat} {v : Value} {L : List ByteArray} (h : OS w B v L) : (v = .slice none 0 0 ∧ L = []) ∨ ∃ g cap, v = .slice (some ⟨g, 0, none⟩) L.length cap ∧ B ≤ g ∧ g < w.heap.size ∧ L.length ≤ cap := by
 rcases h.2 with ⟨h1, h2⟩ | ⟨g, cap, cur, rfl, hb, hg, hc, r⟩
 ·
  exact Or.inl ⟨h1, List.length_eq_zero_iff.1 h2⟩
 exact Or.inr ⟨g, cap, rfl, hb, (Array.getElem?_eq_some_iff.1 hg).1, hc⟩
theorem OS.shape {w : World} {B : Nat} {v : Value} {L : List ByteArray} (h : OS w B v L) : ∃ s c, v = .slice s L.length c := by
 rcases h.form with ⟨rfl, rfl⟩ | ⟨g, cap, rfl, _⟩ <;> exact ⟨_, _, rfl⟩
theorem OS.cap {w : World} {B : Nat} {s : Option Addr} {n c : Nat} {L : List ByteArray} (h : OS w B (.slice s n c) L) : n ≤ c := by
 rcases h.2 with ⟨h1, _⟩ | ⟨g, cap, cur, h1, _, _, h2, _⟩
 ·
  simp only [Value.slice.injEq] at h1; omega
 simp only [Value.slice.injEq] at h1
 obtain ⟨_, rfl, rfl⟩ := h1
 exact h2
theorem OS.later {w w' : World} {B : Nat} {v : Value} {L : List ByteArray} (h : OS w B v L) (hb : Below w.heap.size w w') : OS w' B v L := by
 refine World.ownsRow.kept h (grown_of_below hb) ?_
 cases v.ownBlock with
 | none => exact Or.inl rfl
 | some b => exact Or.inr (by simp)
theorem OS.mono {w : World} {B B' : Nat} {v : Value} {L : List ByteArray} (h : OS w B v L) (hB : B' ≤ B) : OS w B' v L := by
 refine ⟨h.1, ?_⟩
 rcases h.2 with h' | ⟨g, cap', cur, h', hb, r⟩
 ·
  exact Or.inl h'
 exact Or.inr ⟨g, cap', cur, h', Nat.le_trans hB hb, r⟩
theorem OS.rt {w : World} {B : Nat} {v : Value} {L : List ByteArray} (h : OS w B v L) : RT w v L := by
 rcases h.form with ⟨rfl, rfl⟩ | ⟨g, cap, rfl, hB, hlt, _⟩
 ·
  exact RT.nil w
 refine Or.inr ⟨g, 0, cap, rfl, hlt, fun j hj => ?_⟩
 rw [World.ownsRow.cellAt h (0 + j) (by omega)]
 simp [hj]
theorem Tryz.infoS : (Tryz.prog.info? 9).map (fun i => (i.zero, i.size, i.bytes)) = some (some (.string ByteArray.empty), 1, 16) := by kernel_rfl
theorem run_append_zero (w : World) (ty : TypeId) (s : Option Addr) (n c d : Nat) (h : n ≤ c) : (Builtin.append_ #[39, 39] ty #[.slice s n c, .slice none 0 d]).run Tryz.prog w = .ok (.slice s n c) w := by
 obtain ⟨i0, hi, hz0, hz1, hz2⟩ := info_parts Tryz.infoS
 cases s <;> simp [Builtin.append_, run_underlying Tryz.underlying39, sizeOf, typeInfo, hi, Builtin.lenOf, Builtin.firstCells, storeCells, h]
theorem app_own {X : World} {B : Nat} {w : World} (hb : Below B X w) (hB : B ≤ w.heap.size) (ty : TypeId) {s x : Option Addr} {c d : Nat} {L M : List ByteArray} (hO : OS w B (.slice s L.length c) L) (hR : RT w (.slice x M.length d) M) (hl : L.length + M.length ≤ 1048576) :
  ∃ s' c' w', (Builtin.append_ #[39, 39] ty #[.slice s L.length c, .slice x M.length d]).run Tryz.prog w = .ok (.slice s' (L ++ M).length c') w' ∧ OS w' B (.slice s' (L ++ M).length c') (L ++ M) ∧ Below B X w' := by
 obtain ⟨i0, hi, hz0, hz1, hz2⟩ := info_parts Tryz.infoS
 rcases hR with ⟨d', e, rfl⟩ | ⟨b, o, d', e, hlt, hM⟩
 ·
  simp only [Value.slice.injEq] at e
  obtain ⟨rfl, _, _⟩ := e
  refine ⟨s, c, w, ?_, by rw [List.append_nil]; exact hO, hb⟩
  rw [List.append_nil]
  exact run_append_zero w ty s _ c d hO.cap
 simp only [Value.slice.injEq] at e
 obtain ⟨rfl, _, _⟩ := e
 have hnews : ∀ j u, (M.map Value.string)[j]? = some u → w.cell? ((⟨b, o, none⟩ : Addr).add j) = some u := by
  intro j u hu
  have hj : j < M.length := by have := (List.getElem?_eq_some_iff.1 hu).1; simpa using this
  rw [Go.WideShapes.add_plain, hM j hj]
  rw [List.getElem?_map] at hu
  cases hx : M[j]? with
  | none => rw [hx] at hu; simp at hu
  | some y => rw [hx] at hu; simpa using hu
 obtain ⟨v', w', hrun, h2, h3, _, h5⟩ := run_append_own_at (P := Tryz.prog) w B 39 ty 9 i0 (.string ByteArray.empty) 1 16 Tryz.underlying39 hi hz0 hz1 hz2 rfl (by decide) (.slice s L.length c) L.length (L.map Value.string) hO ⟨b, o, none⟩ M.length d (M.map Value.string) (by simp) hnews (fun u hu => by obtain ⟨y, _, rfl⟩ := List.mem_map.1 hu; rfl) (by unfold maxLen; omega) (by omega) hB
 have hO2 : OS w' B v' (L ++ M) := by
  unfold OS
  rw [List.length_append, List.map_append]
  exact h2
 obtain ⟨s', c', rfl⟩ := hO2.shape
 refine ⟨s', c', w', hrun, hO2, hb.grown h3 hB fun k hk => ?_⟩
 rcases hO.form with ⟨e, _⟩ | ⟨g, cap, e, hg, _⟩
 ·
  rw [e] at hk; cases hk
 rw [e] at hk; cases hk; exact hg
section
variable {X : World} {B : Nat} {ops : Array Oper} {o : Oper} {a : Act} {w : World} {K : Act → World → Prop} {Q : Exit → Act → World → Prop} {E : Prop}
theorem app_own' {X : World} {B : Nat} {w : World} (hb : Below B X w) (hB : B ≤ w.heap.size) (ty : TypeId) {s x : Option Addr} {c d n m : Nat} {L M : List ByteArray} (hO : OS w B (.slice s n c) L) (hR : RT w (.slice x m d) M) (hn : n = L.length) (hm : m = M.length) (hl : n + m ≤ 1048576) :
  ∃ s' c' w', (Builtin.append_ #[39, 39] ty #[.slice s n c, .slice x m d]).run Tryz.prog w = .ok (.slice s' (n + m) c') w' ∧ OS w' B (.slice s' (n + m) c') (L ++ M) ∧ Below B X w' := by
 subst hn hm
 have h := app_own hb hB ty hO hR hl
 rw [List.length_append] at h
 exact h
theorem wpl_app {rest : List Oper} (hb : Below B X w) (hB : B ≤ w.heap.size) {sv xv : Option Addr} {c d n m : Nat} {L M : List ByteArray} (hO : OS w B (.slice sv n c) L) (hR : RT w (.slice xv m d) M) (hn : n = L.length) (hm : m = M.length) (hl : n + m ≤ 1048576) (hg : o.guard = none) (s x : Operand) (ho : o.op = .call { callee := .builtin .append, args := #[s, x], argTypes := #[39, 39] }) (hs : a.eval s = .slice sv n c) (hx : a.eval x = .slice xv m d)
  (hK : ∀ s' c' w', OS w' B (.slice s' (n + m) c') (L ++ M) → Below B X w' → wpList Tryz.prog ops Q rest (a.put o.dst (.slice s' (n + m) c')) w') :
  wpList Tryz.prog ops Q (o :: rest) a w := by
 obtain ⟨s', c', w', hrun, h1, h2⟩ := app_own' hb hB o.type hO hR hn hm hl
 refine wpList_plain hg fun K hK2 => ?_
 unfold Oper.wp
 simp only [execOp, ho, resolve, invoke, builtin, List.map_toArray, List.map_cons, List.map_nil, hs, hx, Sem.run_bind, Sem.run_pure, hrun, Result.andThen_ok]
 exact hK2 _ _ (hK s' c' w' h1 h2)
theorem step_app (hb : Below B X w) (hB : B ≤ w.heap.size) {sv xv : Option Addr} {c d n m : Nat} {L M : List ByteArray} (hO : OS w B (.slice sv n c) L) (hR : RT w (.slice xv m d) M) (hn : n = L.length) (hm : m = M.length) (hl : n + m ≤ 1048576) (hg : o.guard = none) {d0 : Option Nat} (hd : o.dst = d0) (s x : Operand) (ho : o.op = .call { callee := .builtin .append, args := #[s, x], argTypes := #[39, 39] }) (hs : a.eval s = .slice sv n c) (hx : a.eval x = .slice xv m d)
  (hK : ∀ s' c' w', OS w' B (.slice s' (n + m) c') (L ++ M) → Below B X w' → K (a.put d0 (.slice s' (n + m) c')) w') :
  if Region.wanted o (yielded ops a.tmps) = true then Oper.wp Tryz.prog o a w K Q else E := by
 obtain ⟨s', c', w', hrun, h1, h2⟩ := app_own' hb hB o.type hO hR hn hm hl
 have hr : (execOp a.eval o).run Tryz.prog w = .ok (.value (.slice s' (n + m) c')) w' := by
  simp only [execOp, ho, resolve, invoke, builtin, List.map_toArray, List.map_cons, List.map_nil, hs, hx, Sem.run_bind, Sem.run_pure, hrun, Result.andThen_ok]
 have hw : Region.wanted o (yielded ops a.tmps) = true := by simp [Region.wanted, hg]
 rw [if_pos hw]
 unfold Oper.wp
 have hK := hK s' c' w' h1 h2
 rw [← hd] at hK
 simp only [hr]
 exact hK
end
end
section
open Go.RowKit
def SaysT (w : World) (L : List ByteArray) (e : Ending) (w' : World) : Prop := (∃ v, e = .returned v ∧ OS w' w.heap.size v L) ∧ Below w.heap.size w w'
set_option maxHeartbeats 4000000 in
theorem around_any {va vm vb : Value} {La Lm Lb : List ByteArray} {w : World} (ha : RT w va La) (hm : RT w vm Lm) (hz : RT w vb Lb) (hl : La.length + Lm.length + Lb.length ≤ 1048576) :
  Calls Tryz.prog 30 #[va, vm, vb] w fun e w' => SaysT w (La ++ Lm ++ Lb) e w' := by
 obtain ⟨sa, ca, rfl⟩ := ha.shape
 obtain ⟨sm, c2, rfl⟩ := hm.shape
 obtain ⟨sb, cb, rfl⟩ := hz.shape
 have h0 := OS.new0 w
 have b0 : Below w.heap.size w (w.alloc (.cells #[] 9)) := bl_alloc (Below.refl _ _) _
 go_enter Tryz.func30, Tryz.ntmps30
 go_wp2_with (at_builtin; refine wpl_app b0 b0.size h0 (ha.later b0) rfl rfl (by omega) rfl _ _ rfl rfl rfl ?_)
 intro s1 c1 w1 h1 b1
 have h1 : OS w1 w.heap.size (.slice s1 La.length c1) La := h1
 go_wp2_with (at_builtin; refine wpl_app b1 b1.size h1 (hm.later b1) rfl rfl (by omega) rfl _ _ rfl rfl rfl ?_)
 intro s2 c3 w2 h2 b2
 go_wp2_with (at_builtin; refine wpl_app b2 b2.size h2 (hz.later b2) (by simp) rfl (by omega) rfl _ _ rfl rfl rfl ?_)
 intro s3 c4 w3 h3 b3
 have H3 := hid h3
 clear h3; go_wp2_with fail; go_ret; exact ⟨⟨.slice s3 (La.length + Lm.length + Lb.length) c4, rfl, by rw [List.append_assoc]; exact H3.out⟩, b3⟩
end
section
open Go.RowKit
set_option maxRecDepth 100000
def cNodeC (w : World) (B : Nat) (cs : List Value) (n : Nd) : Prop := ∃ s c, cs = [.int .i64 n.kind, .string n.text, .int .i64 n.num, .slice s n.kids.length c] ∧ Els 1 cInt w B s n.kids ∧ n.kids.length ≤ c
theorem cNodeC_keeps : KeepsE cNodeC := fun _ _ _ _ _ hk ⟨s, c, e, h, hc⟩ => ⟨s, c, e, h.kept cInt_keeps hk, hc⟩
theorem cNodeC_drops : DropsE cNodeC := fun _ _ _ _ _ hB ⟨s, c, e, h, hc⟩ => ⟨s, c, e, h.drop cInt_drops hB, hc⟩
theorem eNodeC_cells {w : World} {B : Nat} {s : Option Addr} {L : List Nd} (h : Els 4 cNodeC w B s L) {j : Nat} {n : Nd} (ha : L[j]? = some n) :
  ∃ b o, s = some ⟨b, o, none⟩ ∧ B ≤ b ∧ b < w.heap.size ∧ ∃ s' c', w.cell? ⟨b, o + j * 4, none⟩ = some (.int .i64 n.kind) ∧ w.cell? ⟨b, o + j * 4 + 1, none⟩ = some (.string n.text) ∧ w.cell? ⟨b, o + j * 4 + 2, none⟩ = some (.int .i64 n.num) ∧ w.cell? ⟨b, o + j * 4 + 3, none⟩ = some (.slice s' n.kids.length c') ∧ Els 1 cInt w B s' n.kids ∧ n.kids.length ≤ c' := by
 rcases h with rfl | ⟨b, o, rfl, h1, h2, h3, hz⟩
 ·
  simp at ha
 obtain ⟨cs, e1, e2, s', c', rfl, e5, e6⟩ := h3 j n ha
 exact ⟨b, o, rfl, h1, h2, s', c', e2 0 _ rfl, e2 1 _ rfl, e2 2 _ rfl, e2 3 _ rfl, e5, e6⟩
structure InC (w : World) (B : Nat) (n1 n2 : Option Addr) (T : Tre) : Prop where
 i : InT w B n1 n2 T
 c : Els 4 cNodeC w B n1 T.nodes
theorem InC.later {w w' : World} {B : Nat} {n1 n2 : Option Addr} {T : Tre} (h : InC w B n1 n2 T) (hb : Below w.heap.size w w') : InC w' B n1 n2 T := ⟨h.i.later hb, h.c.later cNodeC_keeps hb⟩
theorem InC.n {w : World} {B : Nat} {n1 n2 : Option Addr} {T : Tre} (h : InC w B n1 n2 T) : Els 4 cNode w B n1 T.nodes := h.i.n
def TkS (n1 n2 : Option Addr) (d1 d2 B : Nat) (T : Tre) (f : Nat) : Prop :=
 ∀ (i : Nat) (n : Nd) (w : World), i < f → VN T i n → (¬ n.kind = 29 ∧ ¬ n.kind = 30) → InC w B n1 n2 T → Calls Tryz.prog 13 #[.agg #[.slice n1 T.nodes.length d1, .slice n2 T.tops.length d2], .int .i64 (i : Int)] w fun e w' => SaysT w (tkA T (i : Int)) e w'
theorem cls_no {c k : Int} (h : clsOk c k) (h4 : ¬ c = 4) (h5 : ¬ c = 5) : ¬ k = 29 ∧ ¬ k = 30 := by
 unfold clsOk at h
 split at h
 ·
  omega
 refine ⟨fun e => ?_, fun e => ?_⟩
 ·
  subst e
  have h1 : (4 : Int) = c := h.1
  omega
 subst e
 have h1 : (5 : Int) = c := h.1
 omega
theorem shp_no {k : Int} {m : Nat} (h : ¬ k = 18) : ∀ c ∈ shp k m, ¬ c = 4 ∧ ¬ c = 5 := by
 intro c hc
 have hr : ∀ (q : Nat) (v : Int), c ∈ List.replicate q v → c = v := fun q v h => (List.mem_replicate.1 h).2
 rcases kind_split k with h1 | h1 | rfl | rfl | rfl | rfl | rfl | rfl | rfl | rfl | rfl | rfl | rfl | rfl | rfl | rfl | rfl | rfl | rfl | rfl | rfl | rfl | rfl | rfl | rfl | rfl | rfl | rfl | rfl | rfl | rfl | rfl | rfl | rfl | rfl | rfl
 case inl => rw [shp_none (Or.inl h1)] at hc; simp at hc
 case inr.inl => rw [shp_none (Or.inr h1)] at hc; simp at hc
 all_goals first
  | exact absurd rfl h
  | (have hc : c ∈ ([] : List Int) := hc; simp at hc; done)
  | (have hc : c ∈ ([1] : List Int) := hc; simp at hc; omega)
  | (have hc : c ∈ ([3] : List Int) := hc; simp at hc; omega)
  | (have hc : c ∈ ([10] : List Int) := hc; simp at hc; omega)
  | (have hc : c ∈ ([1, 1] : List Int) := hc; simp at hc; omega)
  | (have hc : c ∈ ([1, 3] : List Int) := hc; simp at hc; omega)
  | (have hc : c ∈ ([6, 3] : List Int) := hc; simp at hc; omega)
  | (have hc : c ∈ List.replicate m (1 : Int) := hc; have := hr _ _ hc; omega)
  | (have hc : c ∈ List.replicate m (2 : Int) := hc; have := hr _ _ hc; omega)
  | (have hc : c ∈ List.replicate m (6 : Int) := hc; have := hr _ _ hc; omega)
  | (have hc : c ∈ List.replicate m (8 : Int) := hc; have := hr _ _ hc; omega)
  | (have hc : c ∈ (1 : Int) :: 6 :: List.replicate (m - 2) 6 := hc; simp only [List.mem_cons] at hc; rcases hc with hc | hc | hc <;> (try have := hr _ _ hc) <;> omega)
  | (have hc : c ∈ (6 : Int) :: List.replicate (m - 1) 6 := hc; simp only [List.mem_cons] at hc; rcases hc with hc | hc <;> (try have := hr _ _ hc) <;> omega)
  | (have hc : c ∈ List.replicate (m - 1) (7 : Int) ++ [3] := hc; simp only [List.mem_append, List.mem_cons, List.not_mem_nil, or_false] at hc; rcases hc with hc | hc <;> (try have := hr _ _ hc) <;> omega)
  | (have hc : c ∈ (if m = 3 then [1, 3, 3] else [1, 3] : List Int) := hc; split at hc <;> simp at hc <;> omega)
theorem VN.kid_no {T : Tre} {i : Nat} {n : Nd} (h : VN T i n) (h18 : ¬ n.kind = 18) : ∀ x ∈ n.kids, ∃ (k : Nat) (m : Nd), x = k ∧ k < i ∧ VN T k m ∧ (¬ m.kind = 29 ∧ ¬ m.kind = 30) := by
 intro x hx
 obtain ⟨j, hj, rfl⟩ := List.getElem_of_mem hx
 have hl := h.len
 obtain ⟨c, hc⟩ : ∃ c, (shp n.kind n.kids.length)[j]? = some c := ⟨_, List.getElem?_eq_getElem (by omega)⟩
 obtain ⟨k, m, hxk, _, hki, hvk, hck⟩ := h.kidAt hc
 rw [List.getElem?_eq_getElem hj] at hxk
 have := shp_no h18 c (List.mem_of_getElem? hc)
 exact ⟨k, m, by simpa using hxk, hki, hvk, cls_no hck this.1 this.2⟩
theorem kindWord_any (k : Int) (h : 1 ≤ k ∧ k ≤ 4) (w : World) : Calls Tryz.prog 29 #[.int .i64 k] w fun e w' => e = .returned (.string (kiT k)) ∧ Below w.heap.size w w' := by
 have h : k = 1 ∨ k = 2 ∨ k = 3 ∨ k = 4 := by omega
 rcases h with rfl | rfl | rfl | rfl <;>
 ·
  go_enter Tryz.func29, Tryz.ntmps29
  go_wp2_with fail; go_ret; exact ⟨rfl, by (repeat (first | with_reducible exact Below.refl _ _ | with_reducible refine bl_alloc ?_ _ | with_reducible refine bl_drewN ?_ _ | with_reducible refine bl_drew ?_ | with_reducible refine bl_setCell ?_ (by first | exact Nat.le_refl _ | (dsimp only; omega) | (simp <;> omega)) _ | with_reducible refine bl_trans ?_ (by with_reducible assumption)))⟩
set_option maxHeartbeats 4000000 in
theorem opText_any (k : Int) (h : 1 ≤ k ∧ k ≤ 9) (w : World) : Calls Tryz.prog 51 #[.int .i64 k] w fun e w' => e = .returned (.string (opT k)) ∧ Below w.heap.size w w' := by
 have h : k = 1 ∨ k = 2 ∨ k = 3 ∨ k = 4 ∨ k = 5 ∨ k = 6 ∨ k = 7 ∨ k = 8 ∨ k = 9 := by omega
 rcases h with rfl | rfl | rfl | rfl | rfl | rfl | rfl | rfl | rfl <;>
 ·
  go_enter Tryz.func51, Tryz.ntmps51
  go_wp2_with fail; go_ret; exact ⟨rfl, by (repeat (first | with_reducible exact Below.refl _ _ | with_reducible refine bl_alloc ?_ _ | with_reducible refine bl_drewN ?_ _ | with_reducible refine bl_drew ?_ | with_reducible refine bl_setCell ?_ (by first | exact Nat.le_refl _ | (dsimp only; omega) | (simp <;> omega)) _ | with_reducible refine bl_trans ?_ (by with_reducible assumption)))⟩
set_option maxHeartbeats 4000000 in
theorem turnText_any (k : Int) (h : 1 ≤ k ∧ k ≤ 6) (w : World) : Calls Tryz.prog 52 #[.int .i64 k] w fun e w' => e = .returned (.string (tuT k)) ∧ Below w.heap.size w w' := by
 have h : k = 1 ∨ k = 2 ∨ k = 3 ∨ k = 4 ∨ k = 5 ∨ k = 6 := by omega
 rcases h with rfl | rfl | rfl | rfl | rfl | rfl <;>
 ·
  go_enter Tryz.func52, Tryz.ntmps52
  go_wp2_with fail; go_ret; exact ⟨rfl, by (repeat (first | with_reducible exact Below.refl _ _ | with_reducible refine bl_alloc ?_ _ | with_reducible refine bl_drewN ?_ _ | with_reducible refine bl_drew ?_ | with_reducible refine bl_setCell ?_ (by first | exact Nat.le_refl _ | (dsimp only; omega) | (simp <;> omega)) _ | with_reducible refine bl_trans ?_ (by with_reducible assumption)))⟩
theorem cm_take {α : Type} (g : α → List ByteArray) {ks : List α} {k : Nat} {x : α} (hx : ks[k]? = some x) : cm ((ks.take (k + 1)).map g) = if k = 0 then g x else cm ((ks.take k).map g) ++ bComma :: g x := by
 have hk : k < ks.length := (List.getElem?_eq_some_iff.1 hx).1
 rw [List.take_add_one, hx]
 simp only [Option.toList_some, List.map_append, List.map_cons, List.map_nil]
 rw [cm_snoc]
 simp only [List.length_map, List.length_take]
 rw [Nat.min_eq_left (by omega)]
theorem sum_take {ks : List Int} {g : Int → Nat} {k : Nat} : ((ks.take k).map g).sum ≤ (ks.map g).sum := by
 have e : ks.map g = (ks.take k).map g ++ (ks.drop k).map g := by rw [← List.map_append, List.take_append_drop]
 rw [e, List.sum_append]; omega
set_option maxHeartbeats 16000000 in
theorem list_any {n1 n2 : Option Addr} {d1 d2 B : Nat} {T : Tre} {f : Nat} (hS : TkS n1 n2 d1 d2 B T f) {sk : Option Addr} {ck Bk : Nat} {ks : List Int} {w : World} (hT : InC w B n1 n2 T) (hK : Els 1 cInt w Bk sk ks) (hks : ∀ x ∈ ks, ∃ (k : Nat) (m : Nd), x = k ∧ k < f ∧ VN T k m ∧ (¬ m.kind = 29 ∧ ¬ m.kind = 30)) (hl : (ks.map fun x => (tkA T x).length + 1).sum ≤ 100000) :
  Calls Tryz.prog 31 #[.agg #[.slice n1 T.nodes.length d1, .slice n2 T.tops.length d2], .slice sk ks.length ck] w fun e w' => SaysT w (cm (ks.map (tkA T))) e w' := by
 have HT := hid hT
 have HK := hid hK
 have HS := hid hS
 have hlen : ks.length ≤ 100000 := by
  have : ∀ l : List Int, l.length ≤ (l.map fun x => (tkA T x).length + 1).sum := by
   intro l
   induction l with
   | nil => simp
   | cons a l ih => simp only [List.length_cons, List.map_cons, List.sum_cons]; omega
  have := this ks
  omega
 have HTK : Hid (∀ k, (cm ((ks.take k).map (tkA T))).length ≤ 100000) := fun k => by
  have h1 := cm_len (tkA T) (ks.take k)
  have h2 := sum_take (ks := ks) (g := fun x => (tkA T x).length + 1) (k := k)
  omega
 have KB0 := Blk.new w #[.slice n1 T.nodes.length d1, .slice n2 T.tops.length d2] 31
 have bX0 : Below w.heap.size w (w.alloc (.cells #[.slice n1 T.nodes.length d1, .slice n2 T.tops.length d2] 31)) := bl_alloc (Below.refl _ _) _
 have hxs : (w.alloc (.cells #[.slice n1 T.nodes.length d1, .slice n2 T.tops.length d2] 31)).heap.size = w.heap.size + 1 := by simp
 clear hT hK hS; go_enter Tryz.func31, Tryz.ntmps31
 go_wp2_with fail; generalize w.alloc (.cells #[.slice n1 T.nodes.length d1, .slice n2 T.tops.length d2] 31) = X at KB0 bX0 hxs ⊢
 have KB := hid KB0
 have BX := hid bX0
 have HW : Hid (w.heap.size < X.heap.size) := KB0.lt
 have O0 : Hid (OS (X.alloc (.cells #[] 9)) X.heap.size (.slice (some ⟨w.heap.size + 1, 0, none⟩) 0 0) []) := by rw [← hxs]; exact OS.new0 X
 have M0 : Hid (Below X.heap.size X (X.alloc (.cells #[] 9))) := bl_alloc (Below.refl _ _) _
 clear KB0 bX0 hxs; go_loopw [5, 6] (fun lv iv wr => ∃ (k : Nat) (so : Option Addr) (co : Nat), k ≤ ks.length ∧ lv = .slice so (cm ((ks.take k).map (tkA T))).length co ∧ iv = .int .i64 k ∧ Hid (OS wr X.heap.size (.slice so (cm ((ks.take k).map (tkA T))).length co) (cm ((ks.take k).map (tkA T)))) ∧ Hid (Below X.heap.size X wr)) (fun lv iv _ => ks.length - (intOf iv).toNat)
 case atStart => exact ⟨0, _, _, Nat.zero_le _, rfl, rfl, O0, M0⟩
 clear O0 M0; obtain ⟨k, so, co, hk, rfl, rfl, HO, HM⟩ := hrel
 by_cases hlt : k < ks.length
 rotate_left 1
 ·
  have hke : k = ks.length := by omega
  subst hke
  go_wp2_with fail; go_ret; have h1 := HO.out
  rw [List.take_length] at h1 ⊢
  exact ⟨⟨_, rfl, h1.mono (Nat.le_of_lt HW.out)⟩, BX.out.trans (HM.out.mono BX.out.size)⟩
 obtain ⟨x, hx⟩ := get_some hlt
 obtain ⟨a, an, rfl, haf, hva, hna⟩ := hks _ (List.mem_of_getElem? hx)
 have HC : Hid (cm ((ks.take (k + 1)).map (tkA T)) = if k = 0 then tkA T (a : Int) else cm ((ks.take k).map (tkA T)) ++ bComma :: tkA T (a : Int)) := cm_take (tkA T) hx
 obtain ⟨fb, fo, rfl, _, hfb, pp⟩ := eInt_cells HK.out hx
 have kI : (k : Int) < (ks.length : Int) := by omega
 have hm1 := HTK.out (k + 1)
 have hm0 := HTK.out k
 have HVA := hid hva
 clear hva hx; obtain ⟨L, hL⟩ : ∃ L, Hid (cm ((ks.take k).map (tkA T)) = L) := ⟨_, rfl⟩
 obtain ⟨L2, hL2⟩ : ∃ L2, Hid (cm ((ks.take (k + 1)).map (tkA T)) = L2) := ⟨_, rfl⟩
 rw [hL.out] at HO hm0 HC ⊢
 rw [hL2.out] at HC hm1
 have PP : Hid (w.cell? ⟨fb, fo + k, none⟩ = some (.int .i64 (a : Int))) := pp
 clear pp; rcases Nat.eq_zero_or_pos k with h0 | h0
 ·
  subst h0
  have HE : Hid (L2 = L ++ tkA T (a : Int)) := by
   show _ = _
   rw [HC.out, if_pos rfl, ← hL.out]; rfl
  have PP : Hid (w.cell? ⟨fb, fo, none⟩ = some (.int .i64 (a : Int))) := PP
  clear HC; go_wp2_with fail; have hle := hm1
  rw [HE.out, List.length_append] at hle
  have BC : ∀ Y, Below X.heap.size X Y → Y.cell? ⟨w.heap.size, 0, none⟩ = some (.slice n1 T.nodes.length d1) ∧ Y.cell? ⟨w.heap.size, 1, none⟩ = some (.slice n2 T.tops.length d2) ∧ Y.cell? ⟨fb, fo, none⟩ = some (.int .i64 (a : Int)) := fun Y hY => ⟨((KB.out.later hY).cell 0).trans rfl, ((KB.out.later hY).cell 1).trans rfl, ((BX.out.trans (hY.mono BX.out.size)).cell (p := ⟨fb, fo, none⟩) hfb).trans PP.out⟩
  have M : Below X.heap.size X wr.drew := HM.out.drew
  go_region_held3 (fun w' => w'.cell? ⟨w.heap.size, 0, none⟩ = some (.slice n1 T.nodes.length d1) ∧ w'.cell? ⟨w.heap.size, 1, none⟩ = some (.slice n2 T.tops.length d2) ∧ w'.cell? ⟨fb, fo, none⟩ = some (.int .i64 (a : Int))) (exact BC _ M)
   (first
    | (go_at_call 13; refine (HS.out a an _ haf HVA.out hna (HT.out.later (BX.out.trans (M.mono BX.out.size)))).mono ?_; rintro e wa ⟨⟨v9, rfl, ho⟩, hb⟩; obtain ⟨s9, c9, rfl⟩ := ho.shape; have hO2 := (HO.out.later (bl_drew (Below.refl _ _))).later hb; have M := M.trans (hb.mono M.size))
    | (refine step_app M M.size hO2 ho.rt rfl rfl (by omega) rfl rfl _ _ rfl rfl rfl ?_; intro s8 c8 wz hz M))
  have HZ := hid hz
  have HM9 := hid M
  clear hz M hO2 ho hb BC HO HM; go_wp2_with fail; go_roundw
  case rel =>
   have e : L2.length = L.length + (tkA T (a : Int)).length := by rw [HE.out]; simp
   refine ⟨0 + 1, s8, c8, by omega, by rw [hL2.out, e], by go_num, ?_, HM9⟩
   rw [hL2.out, e, HE.out]
   exact HZ
  case measure => simp [intOf]; omega
 have HE : Hid (L2 = (L ++ [bComma]) ++ tkA T (a : Int)) := by
  show _ = _
  rw [HC.out, if_neg (by omega), List.append_assoc]; rfl
 have g0 : decide ((k : Int) > 0) = true := by simp; omega
 have hle := hm1
 rw [HE.out, List.length_append, List.length_append] at hle
 simp only [List.length_cons, List.length_nil] at hle
 clear HC; go_wp2_with (at_builtin; refine wpl_app (HM.out.trans ((bl_alloc (Below.refl _ _) _).mono HM.out.size)) (Nat.le_trans HM.out.size (by simp)) (HO.out.later (bl_alloc (Below.refl _ _) _)) (RT.n1 rfl) rfl rfl (by simp; omega) rfl _ _ rfl rfl rfl ?_)
 intro s7 c7 wy ho7 hm7
 have HO := hid ho7
 have HM := hid hm7
 clear ho7 hm7; go_wp2_with fail; have BC : ∀ Y, Below X.heap.size X Y → Y.cell? ⟨w.heap.size, 0, none⟩ = some (.slice n1 T.nodes.length d1) ∧ Y.cell? ⟨w.heap.size, 1, none⟩ = some (.slice n2 T.tops.length d2) ∧ Y.cell? ⟨fb, fo + k, none⟩ = some (.int .i64 (a : Int)) := fun Y hY => ⟨((KB.out.later hY).cell 0).trans rfl, ((KB.out.later hY).cell 1).trans rfl, ((BX.out.trans (hY.mono BX.out.size)).cell (p := ⟨fb, fo + k, none⟩) hfb).trans PP.out⟩
 have M : Below X.heap.size X wy.drew := HM.out.drew
 go_region_held3 (fun w' => w'.cell? ⟨w.heap.size, 0, none⟩ = some (.slice n1 T.nodes.length d1) ∧ w'.cell? ⟨w.heap.size, 1, none⟩ = some (.slice n2 T.tops.length d2) ∧ w'.cell? ⟨fb, fo + k, none⟩ = some (.int .i64 (a : Int))) (exact BC _ M)
  (first
   | (go_at_call 13; refine (HS.out a an _ haf HVA.out hna (HT.out.later (BX.out.trans (M.mono BX.out.size)))).mono ?_; rintro e wa ⟨⟨v9, rfl, ho⟩, hb⟩; obtain ⟨s9, c9, rfl⟩ := ho.shape; have hO2 := (HO.out.later (bl_drew (Below.refl _ _))).later hb; have M := M.trans (hb.mono M.size))
   | (refine step_app M M.size hO2 ho.rt (by simp) rfl (by omega) rfl rfl _ _ rfl rfl rfl ?_; intro s8 c8 wz hz M))
 have HZ := hid hz
 have HM9 := hid M
 clear hz M hO2 ho hb BC HO HM; go_wp2_with fail; go_roundw
 case rel =>
  have e : L2.length = (L.length + 1) + (tkA T (a : Int)).length := by rw [HE.out]; simp; omega
  refine ⟨k + 1, s8, c8, by omega, by rw [hL2.out, e], by go_num, ?_, HM9⟩
  rw [hL2.out, e, HE.out]
  exact HZ
 case measure => simp [intOf]; omega
end
section
open Go.RowKit
def DigS (u m : Nat) (out : List UInt8) : Prop := (m = 0 → out = Lib.decDigits u) ∧ (0 < m → Lib.decDigits u = Lib.decDigits m ++ out)
theorem DigS.start {u : Nat} (h : 0 < u) : DigS u u [] := ⟨fun h0 => by omega, fun _ => by simp⟩
theorem DigS.step {u m : Nat} {out : List UInt8} (h : DigS u m out) (hm : 0 < m) : DigS u (m / 10) (UInt8.ofNat (48 + m % 10) :: out) := by
 have h2 := h.2 hm
 refine ⟨fun h0 => ?_, fun h0 => ?_⟩
 ·
  rw [h2, Lib.decDigits, dif_pos (by omega), Nat.mod_eq_of_lt (by omega)]
  rfl
 rw [h2, Lib.decDigits, dif_neg (by omega)]
 simp
theorem DigS.len {u m : Nat} {out : List UInt8} (h : DigS u m out) (hu : u < 18446744073709551616) : out.length ≤ 20 := by
 have hn := Lib.nDigits_le20 u hu
 rw [← Lib.decDigits_length] at hn
 by_cases hm : m = 0
 ·
  rw [h.1 hm]; exact hn
 rw [h.2 (by omega)] at hn
 simp at hn
 omega
theorem ba_cons (b : UInt8) (l : List UInt8) : (⟨#[b]⟩ ++ ⟨l.toArray⟩ : ByteArray) = ⟨(b :: l).toArray⟩ := by
 apply ByteArray.ext
 simp [ByteArray.data_append]
theorem u8_dig (v : Nat) : (48 + UInt8.ofNat v : UInt8) = UInt8.ofNat (48 + v) := by
 rw [UInt8.ofNat_add]; rfl
theorem dig_conv (wr : World) (v : Nat) (hv : v < 10) : (convert 44 9 (.slice (some ⟨wr.heap.size, 0, none⟩) 1 1)).run Tryz.prog (wr.alloc (.cells #[.int .u8 (48 + (v : Int))] 5)) = .ok (.string ⟨#[UInt8.ofNat (48 + v)]⟩) (wr.alloc (.cells #[.int .u8 (48 + (v : Int))] 5)) := by
 have := run_convert_bytes_back (P := Tryz.prog) (wr.alloc (.cells #[.int .u8 (48 + (v : Int))] 5)) 44 9 5 ⟨wr.heap.size, 0, none⟩ 1 [UInt8.ofNat (48 + v)] Tryz.underlying44 Tryz.underlying5 Tryz.underlying9 (by
  intro j hj
  have hj0 : j = 0 := by simp at hj; omega
  subst hj0
  have e : (UInt8.ofNat (48 + v)).toNat = 48 + v := by simp; omega
  simp [Addr.add, e]
  omega)
 simpa using this
set_option maxRecDepth 100000 in
set_option maxHeartbeats 2000000 in
theorem l1Digits_any (n : Int) (w : World) (h0 : -9223372036854775808 ≤ n) (h1 : n ≤ 9223372036854775807) :
  Calls Tryz.prog 50 #[.int .i64 n] w fun e w' => e = .returned (.string ⟨(Lib.itoa n).toArray⟩) ∧ Below w.heap.size w w' := by
 by_cases hz : n = 0
 ·
  subst hz
  go_enter Tryz.func50, Tryz.ntmps50
  go_wp2_with fail; go_ret; refine ⟨?_, Below.refl _ _⟩
  simp [Lib.itoa, Lib.decDigits_one]
 have hzb : (n == 0) = false := by simp [hz]
 go_enter Tryz.func50, Tryz.ntmps50
 go_wp2_with fail; go_loopw [0, 3, 5] (fun t o _ wr => ∃ (m : Int) (out : List UInt8), t = .int .i64 m ∧ o = .string ⟨out.toArray⟩ ∧ Hid (DigS n.natAbs m.natAbs out) ∧ -9223372036854775808 ≤ m ∧ m ≤ 9223372036854775807 ∧ Below w.heap.size w wr) (fun t _ _ _ => (intOf t).natAbs)
 case atStart => exact ⟨n, [], rfl, rfl, DigS.start (by omega), h0, h1, Below.refl _ _⟩
 obtain ⟨m, out, rfl, rfl, hD, m0, m1, hbel⟩ := hrel
 have hlen := hD.out.len (by omega)
 have hsz : (⟨out.toArray⟩ : ByteArray).size ≤ 20 := by simpa [ByteArray.size] using hlen
 by_cases hm : m = 0
 ·
  subst hm
  have hout : out = Lib.decDigits n.natAbs := hD.out.1 rfl
  by_cases hneg : n < 0
  ·
   have hnb : decide (n < 0) = true := by simp [hneg]
   have hI : Hid (Lib.itoa n = 45 :: out) := by simp [Hid, Lib.itoa, hneg, hout]
   clear hout hD; go_wp2_with fail; go_ret; exact ⟨by rw [hI.out, ← ba_cons]; rfl, hbel⟩
  have hnb : decide (n < 0) = false := by simp; omega
  have hI : Hid (Lib.itoa n = out) := by
   simp only [Hid, Lib.itoa, if_neg hneg, hout]
   congr 1
   omega
  clear hout hD; go_wp2_with fail; go_ret; exact ⟨by rw [hI.out]; rfl, hbel⟩
 have hmb : (m != 0) = true := by simp [hm]
 by_cases hp : 0 < m
 ·
  obtain ⟨u, rfl⟩ : ∃ u : Nat, m = (u : Int) := ⟨m.toNat, by omega⟩
  have hu : 0 < u := by omega
  have hs := hD.out.step (m := ((u : Int)).natAbs) (by simpa using hu)
  obtain ⟨v, hv, hvu⟩ : ∃ v : Nat, v < 10 ∧ (u : Int) % 10 = (v : Int) := ⟨u % 10, by omega, by omega⟩
  have hcv := dig_conv wr v hv
  have HV : Hid ((u : Int) % 10 = (v : Int)) := hvu
  have hs' : DigS n.natAbs ((u : Int) / 10).natAbs (UInt8.ofNat (48 + v) :: out) := by
   rw [show ((u : Int) / 10).natAbs = ((u : Int)).natAbs / 10 by omega, show 48 + v = 48 + ((u : Int)).natAbs % 10 by omega]
   exact hs
  have HS : Hid (DigS n.natAbs ((u : Int) / 10).natAbs (UInt8.ofNat (48 + v) :: out)) := hs'
  clear hs hs'; go_wp2_with fail; exact ⟨⟨_, UInt8.ofNat (48 + v) :: out, rfl, congrArg Value.string ((congrArg (fun b => (⟨#[b]⟩ ++ ⟨out.toArray⟩ : ByteArray)) (u8_dig v)).trans (ba_cons _ _)), HS, by omega, by omega, bl_alloc hbel _⟩, by simp [intOf]; omega⟩
 obtain ⟨u, rfl⟩ : ∃ u : Nat, m = -(u : Int) := ⟨m.natAbs, by omega⟩
 have hu : 0 < u := by omega
 have hs := hD.out.step (m := (-(u : Int)).natAbs) (by omega)
 obtain ⟨v, hv, hvu⟩ : ∃ v : Nat, v < 10 ∧ (u : Int) % 10 = (v : Int) := ⟨u % 10, by omega, by omega⟩
 have hcv := dig_conv wr v hv
 have HV : Hid ((u : Int) % 10 = (v : Int)) := hvu
 have hs' : DigS n.natAbs (-((u : Int) / 10)).natAbs (UInt8.ofNat (48 + v) :: out) := by
  rw [show (-((u : Int) / 10)).natAbs = (-(u : Int)).natAbs / 10 by omega, show 48 + v = 48 + (-(u : Int)).natAbs % 10 by omega]
  exact hs
 have HS : Hid (DigS n.natAbs (-((u : Int) / 10)).natAbs (UInt8.ofNat (48 + v) :: out)) := hs'
 clear hs hs'; by_cases hv0 : v = 0
 ·
  subst hv0
  have hc0 : (convert 44 9 (.slice (some ⟨wr.heap.size, 0, none⟩) 1 1)).run Tryz.prog (wr.alloc (.cells #[.int .u8 48] 5)) = .ok (.string ⟨#[48]⟩) (wr.alloc (.cells #[.int .u8 48] 5)) := by
   simpa using dig_conv wr 0 (by omega)
  clear hcv; go_wp2_with fail; exact ⟨⟨_, UInt8.ofNat (48 + 0) :: out, rfl, congrArg Value.string (ba_cons _ _), HS, by omega, by omega, bl_alloc hbel _⟩, by simp [intOf]; omega⟩
 have hvp : 0 < v := by omega
 go_wp2_with fail; exact ⟨⟨_, UInt8.ofNat (48 + v) :: out, rfl, congrArg Value.string ((congrArg (fun b => (⟨#[b]⟩ ++ ⟨out.toArray⟩ : ByteArray)) (u8_dig v)).trans (ba_cons _ _)), HS, by omega, by omega, bl_alloc hbel _⟩, by simp [intOf]; omega⟩
end
section
open Go.RowKit
set_option maxRecDepth 100000
theorem calls_from {P : Program} {f : FuncId} {args : Array Value} {X cur : World} {L : List ByteArray} (hX : Below X.heap.size X cur) (h : Calls P f args cur fun e w' => SaysT cur L e w') : Calls P f args cur fun e w' => SaysT X L e w' ∧ Below cur.heap.size cur w' :=
 h.mono fun e w' ⟨⟨v, h1, h2⟩, h3⟩ => ⟨⟨⟨v, h1, h2.mono hX.size⟩, bl_trans hX h3⟩, h3⟩
theorem has_op8 {T : Tre} {i : Nat} {n : Nd} (h : VN T i n) (hk : n.kind = 8) : 1 ≤ n.num ∧ n.num ≤ 9 := by
 have := h.has
 rw [hk, has_plain (by omega) (by rfl)] at this
 simp [numB] at this
 omega
theorem has_op9 {T : Tre} {i : Nat} {n : Nd} (h : VN T i n) (hk : n.kind = 9) : 1 ≤ n.num ∧ n.num ≤ 6 := by
 have := h.has
 rw [hk, has_plain (by omega) (by rfl)] at this
 simp [numB] at this
 omega
theorem els_tail {w : World} {B b o : Nat} {l : List Int} (h : Els 1 cInt w B (some ⟨b, o, none⟩) l) : Els 1 cInt w B (some ⟨b, o + 1, none⟩) l.tail := by
 rcases h with rfl | ⟨b', o', e, h1, h2, h3, h4⟩
 ·
  exact Or.inl rfl
 cases e
 refine Or.inr ⟨b, o + 1, rfl, h1, h2, fun j a ha => ?_, h4⟩
 rw [List.getElem?_tail] at ha
 obtain ⟨cs, g1, g2, g3⟩ := h3 (j + 1) a ha
 exact ⟨cs, g1, fun i u hu => by have := g2 i u hu; rw [show o + 1 + j * 1 + i = o + (j + 1) * 1 + i by omega]; exact this, g3⟩
theorem list_n {n1 n2 : Option Addr} {d1 d2 B : Nat} {T : Tre} {f : Nat} (hS : TkS n1 n2 d1 d2 B T f) {sk : Option Addr} {ck Bk m : Nat} {ks : List Int} {w : World} (hT : InC w B n1 n2 T) (hK : Els 1 cInt w Bk sk ks) (hks : ∀ x ∈ ks, ∃ (k : Nat) (m : Nd), x = k ∧ k < f ∧ VN T k m ∧ (¬ m.kind = 29 ∧ ¬ m.kind = 30)) (hl : (ks.map fun x => (tkA T x).length + 1).sum ≤ 100000) (hm : ks.length = m) :
  Calls Tryz.prog 31 #[.agg #[.slice n1 T.nodes.length d1, .slice n2 T.tops.length d2], .slice sk m ck] w fun e w' => SaysT w (cm (ks.map (tkA T))) e w' := by
 subst hm; exact list_any hS hT hK hks hl
theorem sum_tail {ks : List Int} {g : Int → Nat} : (ks.tail.map g).sum ≤ (ks.map g).sum := by
 cases ks with
 | nil => simp
 | cons a l => simp
end
end Go.Proofs.YtjckoldjodjehaaGreatDoor
