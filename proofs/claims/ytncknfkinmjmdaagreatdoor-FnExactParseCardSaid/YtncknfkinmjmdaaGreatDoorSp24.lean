import Derived.Test.YtncknfkinmjmdaaGreatDoorSp23
namespace Go.Proofs.YtncknfkinmjmdaaGreatDoor
set_option linter.unusedVariables false
set_option linter.unusedSimpArgs false
section
open Go.RowKit
set_option maxRecDepth 100000
def uN : List ByteArray := [bRe, bIm, bReal, bSize]
def uO : List Int := [3, 4, 5, 6]
theorem uN_wm {q : Nat} {t : ByteArray} (h : uN[q]? = some t) : t ∈ WMs := by
 have := List.mem_of_getElem? h
 simp only [uN, List.mem_cons, List.not_mem_nil, or_false] at this
 rcases this with rfl | rfl | rfl | rfl <;> simp [WMs]
theorem uO_at {q : Nat} (h : q < 4) : uO[q]? = some ((q : Int) + 3) := by
 match q, h with
 | 0, _ => rfl
 | 1, _ => rfl
 | 2, _ => rfl
 | 3, _ => rfl
def wordOf (s : ByteArray) : Int := srch s uN 3
def oN : List ByteArray := [bOr, bAnd, bLess, bSame, bPlus, bMinus, bStar, bSlash, bPerc]
def oL : List Int := [1, 2, 3, 3, 4, 4, 5, 5, 5]
def oO : List Int := [9, 8, 6, 7, 1, 2, 3, 4, 5]
theorem oN_wm {q : Nat} {t : ByteArray} (h : oN[q]? = some t) : t ∈ WMs := by
 have := List.mem_of_getElem? h
 simp only [oN, List.mem_cons, List.not_mem_nil, or_false] at this
 rcases this with rfl | rfl | rfl | rfl | rfl | rfl | rfl | rfl | rfl <;> simp [WMs]
def srl (s : ByteArray) (l : Int) : List ByteArray → List Int → List Int → Int
 | t :: N, m :: L, q :: O => if m = l ∧ t = s then q else srl s l N L O
 | _, _, _ => 0
theorem dr {α : Type} {L : List α} {q : Nat} {t : α} (h : L[q]? = some t) : L.drop q = t :: L.drop (q + 1) := by
 obtain ⟨hq1, hq2⟩ := List.getElem?_eq_some_iff.1 h
 rw [← hq2]
 exact List.drop_eq_getElem_cons hq1
theorem al_size (w : World) (b : Obj) : (w.alloc b).heap.size = w.heap.size + 1 := Array.size_push _
set_option maxHeartbeats 4000000 in
theorem turn_any (T : List Tk) (E : Int) (k g : Nat) (sl : Option Addr) (cp : Nat) (i d : Nat) (v : Value) (Q : List NK) (P : List OR) (X : World) (B : Nat) (w : World) (SV : Sv T E X B g sl) (hR : Rs X B w (sR T E k sl cp i d v Q P)) (hi : i ≤ T.length) (hd : d ≤ 1000) :
  Calls Tryz.prog 115 #[.pointer (some ⟨k, 0, none⟩)] w fun e w' => e = .returned (.int .i64 (wordOf (tx T i))) ∧ Rs X B w' (sR T E k sl cp (i) (d) v Q P) := by
 have hl := SV.l
 have h0 := sR_box (sR_box hR (uN.map Value.string) 9) (uO.map (Value.int .i64)) 3
 rw [al_size] at h0
 have h0 := hid h0
 have SV0 := hid SV
 obtain ⟨res, hres⟩ : ∃ r, Hid (srch (tx T i) uN 3 = r) := ⟨_, rfl⟩
 have hrk : wordOf (tx T i) = res := hres.out
 rw [hrk]
 clear hR SV hrk; go_enter Tryz.func115, Tryz.ntmps115
 go_wp2_with fail; go_loopw [5] (fun iv wr => ∃ q : Nat, q ≤ 4 ∧ iv = .int .i64 q ∧ Hid (srch (tx T i) (uN.drop q) ((q + 3 : Nat) : Int) = res) ∧ Hid (Rs X B wr (sR T E k sl cp i d v Q (rB (w.heap.size + 1) 3 (uO.map (Value.int .i64)) :: rB (w.heap.size) 9 (uN.map Value.string) :: P)))) (fun iv _ => 4 - (intOf iv).toNat)
 case atStart => exact ⟨0, by omega, rfl, hres, h0⟩
 obtain ⟨q, h1, rfl, hq, hRq⟩ := hrel
 clear h0; by_cases hlt : q ≤ 3
 ·
  have hlt' : (q : Int) < 4 := by omega
  obtain ⟨t, ht⟩ : ∃ t, uN[q]? = some t := ⟨_, List.getElem?_eq_getElem (show q < uN.length by show q < 4; omega)⟩
  have c0 := (sR_get2 hRq.out).at (q := q) (u := .string t) (by rw [List.getElem?_map, ht]; rfl)
  have hs := hq.out
  rw [dr ht] at hs
  have twq : IntKind.i64.wrap ((q : Int) + 1) = (q : Int) + 1 := by rw [IntKind.wrap_i64]; omega
  by_cases he : t = tx T i
  ·
   have hr : Hid (res = (q : Int) + 3) := by show _ = _; rw [← hs]; simp [srch, he]
   have hm := hid (uN_wm ht)
   have hkk := hid (SV0.out.m i t hm.out he.symm)
   have hltT : i < T.length := by rcases hkk.out with h | h <;> exact kd_lt h (by decide)
   have He := hid he
   clear he hs ht hq; go_wp2_with fail; refine (is_yes T E k g sl cp i d v Q _ X B t _ SV0.out hRq.out hi hd hltT He.out.symm hkk.out).mono ?_
   rintro e w1 ⟨rfl, r1⟩
   have c1 := (sR_get r1).at (q := q) (u := .int .i64 ((q : Int) + 3)) (by rw [List.getElem?_map, uO_at (by omega)]; rfl)
   have h2 := hid (sR_less (sR_less r1))
   clear r1 hRq c0; go_wp2_with fail; go_ret; exact ⟨by rw [hr.out]; rfl, h2.out⟩
  have hr : Hid (srch (tx T i) (uN.drop (q + 1)) ((q + 1 + 3 : Nat) : Int) = res) := by
   show _ = _
   rw [← hs, srch, if_neg he]
   congr 1
  have He := hid he
  clear he hs ht hq; go_wp2_with fail; refine (is_no T E k g sl cp i d v Q _ X B t _ SV0.out hRq.out hi hd (fun h => He.out h.symm)).mono ?_
  rintro e w1 ⟨rfl, r1⟩
  have h2 := hid r1
  clear r1 hRq c0; go_wp2_with fail; go_round
  case rel => exact ⟨q + 1, by omega, by go_num, hr, h2⟩
  case measure => simp [intOf]; omega
 have hq4 : q = 4 := by omega
 subst hq4
 have hr : Hid (res = 0) := by show _ = _; rw [← hq.out]; rfl
 have h2 := hid (sR_less (sR_less hRq.out))
 go_wp2_with fail; go_ret; exact ⟨by rw [hr.out]; rfl, h2.out⟩
set_option maxHeartbeats 4000000 in
theorem op_any (T : List Tk) (E : Int) (k g : Nat) (sl : Option Addr) (cp : Nat) (i d : Nat) (v : Value) (Q : List NK) (P : List OR) (X : World) (B : Nat) (l : Int) (w : World) (SV : Sv T E X B g sl) (hR : Rs X B w (sR T E k sl cp i d v Q P)) (hi : i ≤ T.length) (hd : d ≤ 1000) :
  Calls Tryz.prog 86 #[.pointer (some ⟨k, 0, none⟩), .int .i64 l] w fun e w' => e = .returned (.int .i64 (srl (tx T i) l oN oL oO)) ∧ Rs X B w' (sR T E k sl cp (i) (d) v Q P) := by
 have hl := SV.l
 have h0 := sR_box (sR_box (sR_box hR (oN.map Value.string) 9) (oL.map (Value.int .i64)) 3) (oO.map (Value.int .i64)) 3
 rw [al_size, al_size] at h0
 have h0 := hid h0
 have SV0 := hid SV
 obtain ⟨res, hres⟩ : ∃ r, Hid (srl (tx T i) l oN oL oO = r) := ⟨_, rfl⟩
 rw [hres.out]
 clear hR SV; go_enter Tryz.func86, Tryz.ntmps86
 go_wp2_with fail; go_loopw [8] (fun iv wr => ∃ q : Nat, q ≤ 9 ∧ iv = .int .i64 q ∧ Hid (srl (tx T i) l (oN.drop q) (oL.drop q) (oO.drop q) = res) ∧ Hid (Rs X B wr (sR T E k sl cp i d v Q (rB (w.heap.size + 1 + 1) 3 (oO.map (Value.int .i64)) :: rB (w.heap.size + 1) 3 (oL.map (Value.int .i64)) :: rB (w.heap.size) 9 (oN.map Value.string) :: P)))) (fun iv _ => 9 - (intOf iv).toNat)
 case atStart => exact ⟨0, by omega, rfl, hres, h0⟩
 obtain ⟨q, h1, rfl, hq, hRq⟩ := hrel
 clear h0; by_cases hlt : q ≤ 8
 ·
  have hlt' : (q : Int) < 9 := by omega
  obtain ⟨t, ht⟩ : ∃ t, oN[q]? = some t := ⟨_, List.getElem?_eq_getElem (show q < oN.length by show q < 9; omega)⟩
  obtain ⟨m, hm⟩ : ∃ t, oL[q]? = some t := ⟨_, List.getElem?_eq_getElem (show q < oL.length by show q < 9; omega)⟩
  obtain ⟨op, hop⟩ : ∃ t, oO[q]? = some t := ⟨_, List.getElem?_eq_getElem (show q < oO.length by show q < 9; omega)⟩
  have c0 := (sR_get3 hRq.out).at (q := q) (u := .string t) (by rw [List.getElem?_map, ht]; rfl)
  have c1 := (sR_get2 hRq.out).at (q := q) (u := .int .i64 m) (by rw [List.getElem?_map, hm]; rfl)
  have hs := hq.out
  rw [dr ht, dr hm, dr hop, srl] at hs
  have twq : IntKind.i64.wrap ((q : Int) + 1) = (q : Int) + 1 := by rw [IntKind.wrap_i64]; omega
  by_cases he : ¬ m = l
  ·
   have hml : (m == l) = false := by simpa using he
   have hml2 : decide (m = l) = false := decide_eq_false he
   have hr : Hid (srl (tx T i) l (oN.drop (q + 1)) (oL.drop (q + 1)) (oO.drop (q + 1)) = res) := by
    show _ = _
    rw [← hs, if_neg]
    rintro ⟨h1, h2⟩
    exact he h1
   have He := hid he
   clear he hs ht hm hop hq; go_wp2_with fail; go_round
   case rel => exact ⟨q + 1, by omega, by go_num, hr, hRq⟩
   case measure => simp [intOf]; omega
  have hml : m = l := Decidable.not_not.1 he
  subst hml
  have hmm : (m == m) = true := by simp
  clear he; by_cases he : t = tx T i
  ·
   have hr : Hid (res = op) := by show _ = _; rw [← hs, if_pos ⟨rfl, he⟩]
   have hmw := hid (oN_wm ht)
   have hkk := hid (SV0.out.m i t hmw.out he.symm)
   have hltT : i < T.length := by rcases hkk.out with h | h <;> exact kd_lt h (by decide)
   have He := hid he
   have Hop := hid hop
   clear he hs ht hm hop hq; go_wp2_with fail; refine (is_yes T E k g sl cp i d v Q _ X B t _ SV0.out hRq.out hi hd hltT He.out.symm hkk.out).mono ?_
   rintro e w1 ⟨rfl, r1⟩
   have c2 := (sR_get r1).at (q := q) (u := .int .i64 op) (by rw [List.getElem?_map, Hop.out]; rfl)
   have h2 := hid (sR_less (sR_less (sR_less r1)))
   clear r1 hRq c0 c1; go_wp2_with fail; go_ret; exact ⟨by rw [hr.out]; rfl, h2.out⟩
  skip
  have hr : Hid (srl (tx T i) m (oN.drop (q + 1)) (oL.drop (q + 1)) (oO.drop (q + 1)) = res) := by
   show _ = _
   rw [← hs, if_neg]
   rintro ⟨h1, h2⟩
   exact he h2
  have He := hid he
  clear he hs ht hm hop hq; go_wp2_with fail; refine (is_no T E k g sl cp i d v Q _ X B t _ SV0.out hRq.out hi hd (fun h => He.out h.symm)).mono ?_
  rintro e w1 ⟨rfl, r1⟩
  have h2 := hid r1
  clear r1 hRq c0 c1; go_wp2_with fail; go_round
  case rel => exact ⟨q + 1, by omega, by go_num, hr, h2⟩
  case measure => simp [intOf]; omega
 have hq4 : q = 9 := by omega
 subst hq4
 have hr : Hid (res = 0) := by show _ = _; rw [← hq.out]; rfl
 have h2 := hid (sR_less (sR_less (sR_less hRq.out)))
 go_wp2_with fail; go_ret; exact ⟨by rw [hr.out]; rfl, h2.out⟩
end
section
open Go.RowKit
set_option maxRecDepth 100000
def OkS (T : List Tk) (E : Int) (X : World) (B k : Nat) (sl : Option Addr) (cp d : Nat) (P : List OR) (r : PRes) (e : Ending) (w' : World) : Prop :=
 match r with
 | .ok (x, j, M) => e = .returned (.int .i64 (x.headD 0)) ∧ ∃ v Q, Q.map (·.1) = M ∧ Rs X B w' (sR T E k sl cp j d v Q P)
 | .error (c, a) => (∃ y, e = .returned (.int .i64 y)) ∧ sD T E k sl cp c a X B w' P
def OkLS (T : List Tk) (E : Int) (X : World) (B k : Nat) (sl : Option Addr) (cp d : Nat) (P : List OR) (r : PRes) (e : Ending) (w' : World) : Prop :=
 match r with
 | .ok (x, j, M) => ∃ s c v Q, e = .returned (.slice s x.length c) ∧ Q.map (·.1) = M ∧ Rs X B w' (sR T E k sl cp j d v Q (rI (.slice s x.length c) x :: P))
 | .error (c, a) => ∃ s cc, ∃ L : List Int, e = .returned (.slice s L.length cc) ∧ L.length ≤ 5000 ∧ sD T E k sl cp c a X B w' (rI (.slice s L.length cc) L :: P)
def SaysS (T : List Tk) (E : Int) (X : World) (B k : Nat) (sl : Option Addr) (cp D : Nat) (fn : FuncId) (args : Array Value) (p : Nat → Pf) (i : Nat) : Prop :=
 ∀ (d : Nat) (v : Value) (Q : List NK) (P : List OR) (w : World), Rs X B w (sR T E k sl cp i d v Q P) → Q.length ≤ 2 * i → d ≤ D → Calls Tryz.prog fn args w (OkS T E X B k sl cp d P (PAR T E (p d) i (Q.map (·.1))))
theorem sidx_rs {T : List Tk} {E : Int} {k : Nat} {sl : Option Addr} {cp i d : Nat} {v : Value} {Q : List NK} {P : List OR} {X w : World} {B : Nat} (h : Rs X B w (sR T E k sl cp i d v Q P)) : idx w k = i := by
 have := (h.box [] (rN v Q :: (rK Q ++ P))).cell 1
 unfold idx
 rw [this]
 simp [bP, intOf]
theorem sR_kids {T : List Tk} {E : Int} {k : Nat} {sl : Option Addr} {cp i d : Nat} {v : Value} {Q : List NK} {P : List OR} {X w : World} {B : Nat} (h : Rs X B w (sR T E k sl cp i d v Q P)) (L : List Int) (hl : L.length ≤ 1000000) : Rs X B (w.alloc (.cells (L.map (Value.int .i64)).toArray 3)) (sR T E k sl cp i d v Q (rI (.slice (some ⟨w.heap.size, 0, none⟩) L.length L.length) L :: P)) :=
 h.ins (rB k 36 (bP sl T.length cp i v 0 0 d E) :: rN v Q :: rK Q) P (bl_alloc (Below.refl _ _) _) (World.ownsRow_lit (base := w.heap.size) (e := 3) (size := 1) w (L.map (Value.int .i64)).toArray L.length (Nat.le_refl _) (by unfold maxLen; omega) (by simp))
theorem srl_is (s : ByteArray) (l : Nat) (h1 : 1 ≤ l) (h5 : l ≤ 5) : srl s l oN oL oO = if levOf (opOf s) = l then opOf s else 0 := by
 by_cases a0 : s = bOr
 ·
  subst a0
  match l, h1, h5 with
  | 1, _, _ => rfl
  | 2, _, _ => rfl
  | 3, _, _ => rfl
  | 4, _, _ => rfl
  | 5, _, _ => rfl
 have b0 : ¬ bOr = s := fun h => a0 h.symm
 by_cases a1 : s = bAnd
 ·
  subst a1
  match l, h1, h5 with
  | 1, _, _ => rfl
  | 2, _, _ => rfl
  | 3, _, _ => rfl
  | 4, _, _ => rfl
  | 5, _, _ => rfl
 have b1 : ¬ bAnd = s := fun h => a1 h.symm
 by_cases a2 : s = bLess
 ·
  subst a2
  match l, h1, h5 with
  | 1, _, _ => rfl
  | 2, _, _ => rfl
  | 3, _, _ => rfl
  | 4, _, _ => rfl
  | 5, _, _ => rfl
 have b2 : ¬ bLess = s := fun h => a2 h.symm
 by_cases a3 : s = bSame
 ·
  subst a3
  match l, h1, h5 with
  | 1, _, _ => rfl
  | 2, _, _ => rfl
  | 3, _, _ => rfl
  | 4, _, _ => rfl
  | 5, _, _ => rfl
 have b3 : ¬ bSame = s := fun h => a3 h.symm
 by_cases a4 : s = bPlus
 ·
  subst a4
  match l, h1, h5 with
  | 1, _, _ => rfl
  | 2, _, _ => rfl
  | 3, _, _ => rfl
  | 4, _, _ => rfl
  | 5, _, _ => rfl
 have b4 : ¬ bPlus = s := fun h => a4 h.symm
 by_cases a5 : s = bMinus
 ·
  subst a5
  match l, h1, h5 with
  | 1, _, _ => rfl
  | 2, _, _ => rfl
  | 3, _, _ => rfl
  | 4, _, _ => rfl
  | 5, _, _ => rfl
 have b5 : ¬ bMinus = s := fun h => a5 h.symm
 by_cases a6 : s = bStar
 ·
  subst a6
  match l, h1, h5 with
  | 1, _, _ => rfl
  | 2, _, _ => rfl
  | 3, _, _ => rfl
  | 4, _, _ => rfl
  | 5, _, _ => rfl
 have b6 : ¬ bStar = s := fun h => a6 h.symm
 by_cases a7 : s = bSlash
 ·
  subst a7
  match l, h1, h5 with
  | 1, _, _ => rfl
  | 2, _, _ => rfl
  | 3, _, _ => rfl
  | 4, _, _ => rfl
  | 5, _, _ => rfl
 have b7 : ¬ bSlash = s := fun h => a7 h.symm
 by_cases a8 : s = bPerc
 ·
  subst a8
  match l, h1, h5 with
  | 1, _, _ => rfl
  | 2, _, _ => rfl
  | 3, _, _ => rfl
  | 4, _, _ => rfl
  | 5, _, _ => rfl
 have b8 : ¬ bPerc = s := fun h => a8 h.symm
 have e0 : opOf s = 0 := by simp only [opOf, a0, a1, a2, a3, a4, a5, a6, a7, a8, if_false]
 rw [e0]
 simp only [srl, oN, oL, oO, b0, b1, b2, b3, b4, b5, b6, b7, b8, and_false, if_false]
 rw [ite_self]
theorem PAR_lvl {T : List Tk} {E : Int} {d l i : Nat} {N : List Nd} (h1 : 1 ≤ l) (h6 : l ≤ 6) (hi : i ≤ T.length) : PAR T E (.lvl d l) i N = if 6 ≤ l then PAR T E (.prim d) i N else (PAR T E (.lvl d (l + 1)) i N).then fun x i N => PAR T E (.loop d l (x.headD 0)) i N := by
 rw [PAR_eq (p := .lvl d l) ⟨h1, h6⟩ hi]
 rfl
theorem PAR_loop {T : List Tk} {E : Int} {d l i : Nat} {a : Int} {N : List Nd} (h1 : 1 ≤ l) (h5 : l ≤ 5) (hi : i ≤ T.length) : PAR T E (.loop d l a) i N = if levOf (opOf (tx T i)) = l then
   (PAR T E (.lvl d (l + 1)) (i + 1) N).then fun x i2 N =>
    if l = 3 then pNode (nd 8 nil (opOf (tx T i)) [a, x.headD 0]) i2 N
    else (pNode (nd 8 nil (opOf (tx T i)) [a, x.headD 0]) i2 N).then fun y i3 N => PAR T E (.loop d l (y.headD 0)) i3 N
  else .ok ([a], i, N) := by
 rw [PAR_eq (p := .loop d l a) ⟨h1, h5⟩ hi]
 rfl
theorem stx_none {T : List Tk} {i : Nat} (h : ¬ i < T.length) : tx T i = ⟨#[]⟩ := by
 unfold tx; rw [List.getElem?_eq_none (by omega)]; rfl
theorem prim_end {T : List Tk} {E : Int} {d i : Nat} {N : List Nd} (hi : i ≤ T.length) (h : ¬ i < T.length) : PAR T E (.prim d) i N = .error (2, ta T E i) := by
 rw [PAR_prim hi, kd_none h, stx_none h]
 rfl
theorem lvl_end {T : List Tk} {E : Int} {d i : Nat} {N : List Nd} (hi : i ≤ T.length) (h : ¬ i < T.length) : ∀ m l : Nat, l + m = 6 → 1 ≤ l → PAR T E (.lvl d l) i N = .error (2, ta T E i) := by
 intro m
 induction m with
 | zero => intro l hl h1; rw [PAR_lvl h1 (by omega) hi, if_pos (by omega), prim_end hi h]
 | succ m ih => intro l hl h1; rw [PAR_lvl h1 (by omega) hi, if_neg (by omega), ih (l + 1) (by omega) (by omega)]; rfl
theorem expr_end {T : List Tk} {E : Int} {d i : Nat} {N : List Nd} (hi : i ≤ T.length) (h : ¬ i < T.length) : PAR T E (.expr d) i N = .error (2, ta T E i) := by
 rw [PAR_expr hi, if_neg (fun x => h x.2), lvl_end hi h 5 1 (by omega) (by omega)]
set_option maxHeartbeats 4000000 in
theorem sexpr_of (T : List Tk) (E : Int) (X : World) (B k g : Nat) (sl : Option Addr) (cp i : Nat) (SV : Sv T E X B g sl) (hi : i ≤ T.length)
  (hlv : SaysS T E X B k sl cp 40 67 #[.pointer (some ⟨k, 0, none⟩), .int .i64 1] (fun d => .lvl d 1) i) : SaysS T E X B k sl cp 40 46 #[.pointer (some ⟨k, 0, none⟩)] .expr i := by
 intro d v Q P w hR hq hd
 have HL := hid hlv
 have h0 := hid hR
 clear hlv hR; by_cases hlt : ¬ i < T.length
 ·
  rw [expr_end hi hlt]
  have Hlt := hid hlt
  clear hlt; go_enter Tryz.func46, Tryz.ntmps46
  go_wp2_with fail; refine (open_end T E k g sl cp i d v Q P X B _ SV h0.out hi (by omega) Hlt.out).mono ?_
  rintro e w1 ⟨rfl, r1⟩
  have h1 := hid r1
  clear r1 h0; go_wp2_with fail; go_ret; exact ⟨⟨_, rfl⟩, h1.out⟩
 have hlt := Decidable.not_not.1 hlt
 rw [PAR_expr hi]
 by_cases h40 : d = 40
 ·
  rw [if_pos ⟨h40, hlt⟩]
  have h40 : 40 ≤ d := by omega
  go_enter Tryz.func46, Tryz.ntmps46
  go_wp2_with fail; refine (open_deep T E k g sl cp i d v Q P X B _ SV h0.out hi (by omega) hlt h40).mono ?_
  rintro e w1 ⟨rfl, r1⟩
  have h1 := hid r1
  clear r1 h0; go_wp2_with fail; go_ret; exact ⟨⟨_, rfl⟩, h1.out⟩
 rw [if_neg (fun x => h40 x.1)]
 have h40 : d < 40 := by omega
 obtain ⟨Res, hRes⟩ : ∃ r, Hid (PAR T E (.lvl (d + 1) 1) i (Q.map (·.1)) = r) := ⟨_, rfl⟩
 rw [hRes.out]
 go_enter Tryz.func46, Tryz.ntmps46
 go_wp2_with fail; refine (open_ok T E k g sl cp i d v Q P X B _ SV h0.out hi (by omega) hlt h40).mono ?_
 rintro e w1 ⟨rfl, r1⟩
 have h1 := hid r1
 clear r1 h0; go_wp2_with fail; refine (HL.out (d + 1) v Q P _ h1.out hq (by omega)).mono ?_
 rw [hRes.out]
 rcases Res with ⟨c, a⟩ | ⟨y, j, M⟩
 ·
  rintro e w2 ⟨⟨y, rfl⟩, hc, i', d', v', Q', r2⟩
  obtain ⟨x0, x1, x2, x3, x4, x5, x6, xf⟩ := (r2.box [] (rN v' Q' :: (rK Q' ++ P))).seven
  have h3 := hid (r2.setB [] (rN v' Q' :: (rK Q' ++ P)) 5 (.int .i64 (wrap64 (d' - 1))))
  clear r2 h1; go_wp2_with fail; go_ret; exact ⟨⟨_, rfl⟩, hc, i', wrap64 (d' - 1), v', Q', h3.out⟩
 rintro e w2 ⟨rfl, v', Q', hQ, r2⟩
 have tw : IntKind.i64.wrap (((d + 1 : Nat) : Int) - 1) = (d : Int) := by rw [IntKind.wrap_i64]; omega
 have tw2 : IntKind.i64.wrap ((d : Int) + 1 - 1) = (d : Int) := by rw [IntKind.wrap_i64]; omega
 obtain ⟨x0, x1, x2, x3, x4, x5, x6, xf⟩ := (r2.box [] (rN v' Q' :: (rK Q' ++ P))).seven
 have h3 := hid (r2.setB [] (rN v' Q' :: (rK Q' ++ P)) 5 (.int .i64 (d : Int)))
 have HQ := hid hQ
 obtain ⟨a, ha⟩ : ∃ a, Hid (y.headD 0 = a) := ⟨_, rfl⟩
 rw [ha.out]
 clear r2 h1 hQ; go_wp2_with fail; go_ret; exact ⟨by rw [ha.out]; rfl, v', Q', HQ.out, h3.out⟩
set_option maxHeartbeats 4000000 in
theorem expr_dead (T : List Tk) (E : Int) (k g : Nat) (sl : Option Addr) (cp : Nat) (P : List OR) (X : World) (B : Nat) (c a : Int)  (w : World) (hD : sD T E k sl cp c a X B w P) :
  Calls Tryz.prog 46 #[.pointer (some ⟨k, 0, none⟩)] w fun e w' => e = .returned (.int .i64 (-1)) ∧ sD T E k sl cp c a X B w' P := by
 have h0 := hid hD
 clear hD; go_enter Tryz.func46, Tryz.ntmps46
 go_wp2_with fail; refine (open_dead T E k g sl cp P X B c a _ h0.out).mono ?_
 rintro e w1 ⟨rfl, r1⟩
 have h1 := hid r1
 clear r1 h0; go_wp2_with fail; go_ret; exact ⟨rfl, h1.out⟩
end
end Go.Proofs.YtncknfkinmjmdaaGreatDoor
