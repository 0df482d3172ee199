import Derived.Test.YtncknfkinmjmdaaGreatDoorSp20
namespace Go.Proofs.YtncknfkinmjmdaaGreatDoor
set_option linter.unusedVariables false
set_option linter.unusedSimpArgs false
section
open Go.RowKit
set_option maxRecDepth 100000
structure AllS (T : List Tk) (E : Int) (X : World) (B k g cp i : Nat) : Prop where
 prim : Says T E X B k g cp 41 123 #[.pointer (some ⟨k, 0, none⟩)] .prim i
 lvl : ∀ l : Nat, 1 ≤ l → l ≤ 6 → Says T E X B k g cp 41 113 #[.pointer (some ⟨k, 0, none⟩), .int .i64 l] (fun d => .lvl d l) i
 expr : Says T E X B k g cp 40 100 #[.pointer (some ⟨k, 0, none⟩)] .expr i
 stmt : Says T E X B k g cp 40 83 #[.pointer (some ⟨k, 0, none⟩)] .stmt i
 block : Says T E X B k g cp 40 64 #[.pointer (some ⟨k, 0, none⟩)] .block i
theorem all_step {T : List Tk} {E : Int} {X : World} {B k g cp i : Nat} (EV : Env T E X B g) (NWT : NW T) (hi : i ≤ T.length) (h : ∀ j, i < j → j ≤ T.length → AllS T E X B k g cp j) : AllS T E X B k g cp i := by
 have hp := operand_of T E X B k g cp i EV hi (fun j h1 h2 => (h j h1 h2).expr) (fun hlt => (h (i + 1) (by omega) hlt).prim)
 have hl := operation_of T E X B k g cp i EV hi hp (fun j l h1 h2 h3 h4 => (h j h1 h2).lvl l h3 h4)
 exact ⟨hp, hl, whole_of T E X B k g cp i EV hi (hl 1 (by omega) (by omega)), statement_of T E X B k g cp i EV NWT hi (fun j h1 h2 => (h j h1 h2).expr) (fun j h1 h2 => (h j h1 h2).block), block_of T E X B k g cp i EV hi (fun j h1 h2 => (h j h1 h2).stmt)⟩
theorem all_says {T : List Tk} {E : Int} {X : World} {B k g cp : Nat} (EV : Env T E X B g) (NWT : NW T) : ∀ (m i : Nat), T.length - i ≤ m → i ≤ T.length → AllS T E X B k g cp i := by
 intro m
 induction m with
 | zero => exact fun i hm hi => all_step EV NWT hi fun j h1 h2 => by omega
 | succ m ih => exact fun i hm hi => all_step EV NWT hi fun j h1 h2 => ih j (by omega) h2
theorem top_says {T : List Tk} {E : Int} {X : World} {B k g cp i : Nat} (EV : Env T E X B g) (NWT : NW T) (hi : i ≤ T.length) (v : Value) (Q : List NK) (P : List OR) (w : World) (hR : Rs X B w (rR k g (T.length + 1) cp i 0 v Q P)) (hq : Q.length ≤ 2 * i) :
  Calls Tryz.prog 34 #[.pointer (some ⟨k, 0, none⟩)] w (Ok1 T X B k g cp 0 P (PAR T E .top i (Q.map (·.1)))) :=
 top_of T E X B k g cp i EV hi (fun j h1 h2 => (all_says EV NWT T.length j (by omega) h2).block) v Q P w hR hq
end
section
open Go.RowKit
set_option maxRecDepth 100000
def bP (sl : Option Addr) (n cp i : Nat) (v : Value) (c a d E : Int) : List Value := [.slice sl n cp, .int .i64 i, v, .int .i64 c, .int .i64 a, .int .i64 d, .int .i64 E]
def sR (T : List Tk) (E : Int) (k : Nat) (sl : Option Addr) (cp i d : Nat) (v : Value) (Q : List NK) (P : List OR) : List OR := rB k 36 (bP sl T.length cp i v 0 0 d E) :: rN v Q :: (rK Q ++ P)
def sD (T : List Tk) (E : Int) (k : Nat) (sl : Option Addr) (cp : Nat) (c a : Int) (X : World) (B : Nat) (w : World) (P : List OR) : Prop := ¬ c = 0 ∧ ∃ (i : Nat) (d : Int) (v : Value) (Q : List NK), Rs X B w (rB k 36 (bP sl T.length cp i v c a d E) :: rN v Q :: (rK Q ++ P))
theorem Blk.seven {w : World} {n : Nat} {a b c d e f g : Value} {t : TypeId} (h : Blk w n #[a, b, c, d, e, f, g] t) : w.cell? ⟨n, 0, none⟩ = some a ∧ w.cell? ⟨n, 1, none⟩ = some b ∧ w.cell? ⟨n, 2, none⟩ = some c ∧ w.cell? ⟨n, 3, none⟩ = some d ∧ w.cell? ⟨n, 4, none⟩ = some e ∧ w.cell? ⟨n, 5, none⟩ = some f ∧ w.cell? ⟨n, 6, none⟩ = some g ∧ ∀ o, w.frozen? ⟨n, o, none⟩ = false := ⟨h.cell 0, h.cell 1, h.cell 2, h.cell 3, h.cell 4, h.cell 5, h.cell 6, h.frozen⟩
def WMs : List ByteArray := [bLp, bRp, bComma, bSemi, bEq, bLb, bRb, bDot, bDol, bMinus, bPlus, bStar, bSlash, bPerc, bLess, bSame, bAnd, bOr, bNot, bYes, bNo, bRe, bIm, bReal, bSize, bPair, bPick, bOf, bLet, bPut, bIf, bElse, bLoop, bEach, bWith, bWithout, bEmit, bHear, bAs, bSpawn, bKill, bDrop, bDo, bReturn, bFn, bSystem, bInt, bBool]
structure Sv (T : List Tk) (E : Int) (X : World) (B g : Nat) (sl : Option Addr) : Prop where
 t : Tks X g T
 gb : g < B
 s : 0 < T.length → sl = some ⟨g, 0, none⟩
 l : T.length ≤ 4000
 m : ∀ i s, s ∈ WMs → tx T i = s → kd T i = 2 ∨ kd T i = 5
theorem tk_at {T : List Tk} {E : Int} {i : Nat} (h : i < T.length) : ∃ x, T[i]? = some (kd T i, ta T E i, tx T i, ti T i, x) := by
 obtain ⟨t, ht⟩ := get_some h
 exact ⟨t.2.2.2.2, by rw [ht]; simp [kd, ta, tx, ti, ht]⟩
theorem ta_end {T : List Tk} {E : Int} {i : Nat} (h : ¬ i < T.length) : ta T E i = E := by
 unfold ta; rw [List.getElem?_eq_none (by omega)]; rfl
set_option maxHeartbeats 4000000 in
theorem fail_live (T : List Tk) (E : Int) (k g : Nat) (sl : Option Addr) (cp i d : Nat) (v : Value) (Q : List NK) (P : List OR) (X : World) (B : Nat) (c : Int) (w : World) (SV : Sv T E X B g sl) (hR : Rs X B w (sR T E k sl cp i d v Q P)) (hi : i ≤ T.length) (hd : d ≤ 1000) (hc : ¬ c = 0) :
  Calls Tryz.prog 15 #[.pointer (some ⟨k, 0, none⟩), .int .i64 c] w fun e w' => e = .returned (.int .i64 (-1)) ∧ sD T E k sl cp c (ta T E i) X B w' P := by
 have h0 := hid hR
 obtain ⟨x0, x1, x2, x3, x4, x5, x6, xf⟩ := (hR.box [] (rN v Q :: (rK Q ++ P))).seven
 have h1 := hid ((hR.setB [] (rN v Q :: (rK Q ++ P)) 3 (.int .i64 c)).setB [] (rN v Q :: (rK Q ++ P)) 4 (.int .i64 E))
 have hl := SV.l
 by_cases hlt : i < T.length
 ·
  obtain ⟨x, hx⟩ := tk_at (E := E) hlt
  have hsl := SV.s (by omega)
  subst hsl
  have TK := SV.t.rs hR SV.gb
  obtain ⟨c0, c1, c2, c3, c4⟩ := TK i _ hx
  have kg : ¬ g = k := by
   intro e
   have := (hR.o.lt (g := k) (by simp [blks, sR, rB, Value.ownBlock])).1
   have := SV.gb
   omega
  have h2 := hid (h1.out.setB [] (rN v Q :: (rK Q ++ P)) 4 (.int .i64 (ta T E i)))
  have hltI : (i : Int) < (T.length : Int) := by omega
  clear hx hR h0 TK h1; go_enter Tryz.func15, Tryz.ntmps15
  go_wp2_with fail; go_region
  go_wp2_with fail; go_region
  go_wp2_with fail; go_ret; exact ⟨rfl, hc, i, d, v, Q, h2.out.drew.drew⟩
 have he := ta_end (E := E) hlt
 rw [he]
 have hltI : ¬ (i : Int) < (T.length : Int) := by omega
 clear hR h0; go_enter Tryz.func15, Tryz.ntmps15
 go_wp2_with fail; go_region
 go_wp2_with fail; go_ret; exact ⟨rfl, hc, i, d, v, Q, h1.out.drew⟩
end
section
open Go.RowKit
set_option maxRecDepth 100000
theorem sD.later {T : List Tk} {E : Int} {k : Nat} {sl : Option Addr} {cp : Nat} {c a : Int} {X : World} {B : Nat} {w w' : World} {P : List OR} (h : sD T E k sl cp c a X B w P) (hb : Below w.heap.size w w') : sD T E k sl cp c a X B w' P := by
 obtain ⟨h1, i, d, v, Q, h4⟩ := h
 exact ⟨h1, i, d, v, Q, h4.later hb⟩
set_option maxHeartbeats 4000000 in
theorem fail_dead (T : List Tk) (E : Int) (k g : Nat) (sl : Option Addr) (cp : Nat) (P : List OR) (X : World) (B : Nat) (c a : Int) (b : Int) (w : World) (hD : sD T E k sl cp c a X B w P) :
  Calls Tryz.prog 15 #[.pointer (some ⟨k, 0, none⟩), .int .i64 b] w fun e w' => e = .returned (.int .i64 (-1)) ∧ sD T E k sl cp c a X B w' P := by
 obtain ⟨hc, i, d, v, Q, hR⟩ := hD
 have h0 := hid hR
 obtain ⟨x0, x1, x2, x3, x4, x5, x6, xf⟩ := (hR.box [] (rN v Q :: (rK Q ++ P))).seven
 have hz : (c != 0) = true := by simpa using hc
 have hz2 : (c == 0) = false := by simpa using hc
 have hz3 : decide (c = 0) = false := decide_eq_false hc
 clear hR; go_enter Tryz.func15, Tryz.ntmps15
 go_wp2_with fail; go_ret; exact ⟨rfl, hc, i, d, v, Q, h0.out⟩
set_option maxHeartbeats 4000000 in
theorem is_dead (T : List Tk) (E : Int) (k g : Nat) (sl : Option Addr) (cp : Nat) (P : List OR) (X : World) (B : Nat) (c a : Int) (s : ByteArray) (w : World) (hD : sD T E k sl cp c a X B w P) :
  Calls Tryz.prog 10 #[.pointer (some ⟨k, 0, none⟩), .string s] w fun e w' => e = .returned (.bool false) ∧ sD T E k sl cp c a X B w' P := by
 obtain ⟨hc, i, d, v, Q, hR⟩ := hD
 have h0 := hid hR
 obtain ⟨x0, x1, x2, x3, x4, x5, x6, xf⟩ := (hR.box [] (rN v Q :: (rK Q ++ P))).seven
 have hz : (c != 0) = true := by simpa using hc
 have hz2 : (c == 0) = false := by simpa using hc
 have hz3 : decide (c = 0) = false := decide_eq_false hc
 clear hR; go_enter Tryz.func10, Tryz.ntmps10
 go_wp2_with fail; go_quiet (fail)
 go_wp2_with fail; go_ret; exact ⟨rfl, hc, i, d, v, Q, h0.out.later (bl_drewN (Below.refl _ _) _)⟩
set_option maxHeartbeats 4000000 in
theorem kind_dead (T : List Tk) (E : Int) (k g : Nat) (sl : Option Addr) (cp : Nat) (P : List OR) (X : World) (B : Nat) (c a : Int) (w : World) (hD : sD T E k sl cp c a X B w P) :
  Calls Tryz.prog 27 #[.pointer (some ⟨k, 0, none⟩)] w fun e w' => e = .returned (.int .i64 0) ∧ sD T E k sl cp c a X B w' P := by
 obtain ⟨hc, i, d, v, Q, hR⟩ := hD
 have h0 := hid hR
 obtain ⟨x0, x1, x2, x3, x4, x5, x6, xf⟩ := (hR.box [] (rN v Q :: (rK Q ++ P))).seven
 have hz : (c != 0) = true := by simpa using hc
 have hz2 : (c == 0) = false := by simpa using hc
 have hz3 : decide (c = 0) = false := decide_eq_false hc
 clear hR; go_enter Tryz.func27, Tryz.ntmps27
 go_wp2_with fail; go_quiet (fail)
 go_wp2_with fail; go_ret; exact ⟨rfl, hc, i, d, v, Q, h0.out.later (bl_drewN (Below.refl _ _) _)⟩
set_option maxHeartbeats 4000000 in
theorem kind_live (T : List Tk) (E : Int) (k g : Nat) (sl : Option Addr) (cp : Nat) (i d : Nat) (v : Value) (Q : List NK) (P : List OR) (X : World) (B : Nat) (w : World) (SV : Sv T E X B g sl) (hR : Rs X B w (sR T E k sl cp i d v Q P)) (hi : i ≤ T.length) (hd : d ≤ 1000) :
  Calls Tryz.prog 27 #[.pointer (some ⟨k, 0, none⟩)] w fun e w' => e = .returned (.int .i64 (kd T i)) ∧ Rs X B w' (sR T E k sl cp (i) (d) v Q P) := by
 have h0 := hid hR
 obtain ⟨x0, x1, x2, x3, x4, x5, x6, xf⟩ := (hR.box [] (rN v Q :: (rK Q ++ P))).seven
 have hl := SV.l
 have hz : ((0 : Int) != 0) = false := rfl
 have hz2 : ((0 : Int) == 0) = true := rfl
 by_cases hlt : i < T.length
 ·
  obtain ⟨x, hx⟩ := tk_at (E := E) hlt
  have hsl := SV.s (by omega)
  subst hsl
  obtain ⟨c0, c1, c2, c3, c4⟩ := SV.t.rs hR SV.gb i _ hx
  have hg : ¬ (i : Int) ≥ (T.length : Int) := by omega
  have hg2 : decide ((i : Int) ≥ (T.length : Int)) = false := decide_eq_false hg
  have hg3 : decide (T.length ≤ i) = false := decide_eq_false (by omega)
  have hltI : (i : Int) < (T.length : Int) := by omega
  clear hx hR; go_enter Tryz.func27, Tryz.ntmps27
  go_wp2_with fail; go_quiet (fail)
  go_wp2_with fail; have h1 := hid (h0.out.later (bl_drewN (Below.refl _ _) nq))
  have b1 : Below w.heap.size w (w.drewN nq) := bl_drewN (Below.refl _ _) _
  have e0 := (b1.cell (p := ⟨k, 0, none⟩) (World.block_lt_of_cell? _ _ x0)).trans x0
  have e1 := (b1.cell (p := ⟨k, 1, none⟩) (World.block_lt_of_cell? _ _ x1)).trans x1
  have e2 := (b1.cell (p := ⟨g, i * 5, none⟩) (World.block_lt_of_cell? _ _ c0)).trans c0
  generalize w.drewN nq = w8 at h1 e0 e1 e2 ⊢
  clear x0 x1 x2 x3 x4 x5 x6 xf c0 c1 c2 c3 c4 b1 h0; go_quiet (fail)
  go_wp2_with fail; go_ret; exact ⟨rfl, h1.out.later (bl_drewN (Below.refl _ _) _)⟩
 rw [kd_none hlt]
 have hg : (i : Int) ≥ (T.length : Int) := by omega
 have hg2 : decide ((i : Int) ≥ (T.length : Int)) = true := decide_eq_true hg
 have hg3 : decide (T.length ≤ i) = true := decide_eq_true (by omega)
 clear hR; go_enter Tryz.func27, Tryz.ntmps27
 go_wp2_with fail; go_quiet (fail)
 go_wp2_with fail; go_ret; exact ⟨rfl, h0.out.later (bl_drewN (Below.refl _ _) _)⟩
end
section
open Go.RowKit
set_option maxRecDepth 100000
set_option maxHeartbeats 4000000 in
theorem is_yes (T : List Tk) (E : Int) (k g : Nat) (sl : Option Addr) (cp : Nat) (i d : Nat) (v : Value) (Q : List NK) (P : List OR) (X : World) (B : Nat) (s : ByteArray) (w : World) (SV : Sv T E X B g sl) (hR : Rs X B w (sR T E k sl cp i d v Q P)) (hi : i ≤ T.length) (hd : d ≤ 1000) (hlt : i < T.length) (hs : tx T i = s) (hk : kd T i = 2 ∨ kd T i = 5) :
  Calls Tryz.prog 10 #[.pointer (some ⟨k, 0, none⟩), .string s] w fun e w' => e = .returned (.bool true) ∧ Rs X B w' (sR T E k sl cp (i) (d) v Q P) := by
 have h0 := hid hR
 obtain ⟨x0, x1, x2, x3, x4, x5, x6, xf⟩ := (hR.box [] (rN v Q :: (rK Q ++ P))).seven
 have hl := SV.l
 have hz : ((0 : Int) != 0) = false := rfl
 have hz2 : ((0 : Int) == 0) = true := rfl
 have hs1 := str_yes hs
 rcases hk with hk | hk
 ·
  have k2 : (kd T i == 2) = true := by rw [hk]; rfl
  clear hs hk; obtain ⟨x, hx⟩ := tk_at (E := E) hlt
  have hsl := SV.s (by omega)
  subst hsl
  obtain ⟨c0, c1, c2, c3, c4⟩ := SV.t.rs hR SV.gb i _ hx
  have hg : ¬ (i : Int) ≥ (T.length : Int) := by omega
  have hg2 : decide ((i : Int) ≥ (T.length : Int)) = false := decide_eq_false hg
  have hg3 : decide (T.length ≤ i) = false := decide_eq_false (by omega)
  have hltI : (i : Int) < (T.length : Int) := by omega
  clear hx hR; go_enter Tryz.func10, Tryz.ntmps10
  go_wp2_with fail; go_quiet (fail)
  go_wp2_with fail; have h1 := hid (h0.out.later (bl_drewN (Below.refl _ _) nq))
  have b1 : Below w.heap.size w (w.drewN nq) := bl_drewN (Below.refl _ _) _
  have e0 := (b1.cell (p := ⟨k, 0, none⟩) (World.block_lt_of_cell? _ _ x0)).trans x0
  have e1 := (b1.cell (p := ⟨k, 1, none⟩) (World.block_lt_of_cell? _ _ x1)).trans x1
  have d0 := (b1.cell (p := ⟨g, i * 5, none⟩) (World.block_lt_of_cell? _ _ c0)).trans c0
  have d1 := (b1.cell (p := ⟨g, i * 5 + 1, none⟩) (World.block_lt_of_cell? _ _ c1)).trans c1
  have d2 := (b1.cell (p := ⟨g, i * 5 + 2, none⟩) (World.block_lt_of_cell? _ _ c2)).trans c2
  have d3 := (b1.cell (p := ⟨g, i * 5 + 3, none⟩) (World.block_lt_of_cell? _ _ c3)).trans c3
  have d4 := (b1.cell (p := ⟨g, i * 5 + 4, none⟩) (World.block_lt_of_cell? _ _ c4)).trans c4
  generalize w.drewN nq = w8 at h1 e0 e1 d0 d1 d2 d3 d4 ⊢
  clear x0 x1 x2 x3 x4 x5 x6 xf c0 c1 c2 c3 c4 b1 h0; have hal := alloc_old
  have haf := alloc_oldf
  go_region
  go_wp2_with fail; go_ret; exact ⟨rfl, (h1.out.later (bl_alloc (Below.refl _ _) (.cells #[.int .i64 (kd T i), .int .i64 (ta T E i), .string (tx T i), .int .i64 (ti T i), .float .f64 x] 47))).drew⟩
 have k2 : (kd T i == 2) = false := by rw [hk]; rfl
 have k5 : (kd T i == 5) = true := by rw [hk]; rfl
 clear hs hk; obtain ⟨x, hx⟩ := tk_at (E := E) hlt
 have hsl := SV.s (by omega)
 subst hsl
 obtain ⟨c0, c1, c2, c3, c4⟩ := SV.t.rs hR SV.gb i _ hx
 have hg : ¬ (i : Int) ≥ (T.length : Int) := by omega
 have hg2 : decide ((i : Int) ≥ (T.length : Int)) = false := decide_eq_false hg
 have hg3 : decide (T.length ≤ i) = false := decide_eq_false (by omega)
 have hltI : (i : Int) < (T.length : Int) := by omega
 clear hx hR; go_enter Tryz.func10, Tryz.ntmps10
 go_wp2_with fail; go_quiet (fail)
 go_wp2_with fail; have h1 := hid (h0.out.later (bl_drewN (Below.refl _ _) nq))
 have b1 : Below w.heap.size w (w.drewN nq) := bl_drewN (Below.refl _ _) _
 have e0 := (b1.cell (p := ⟨k, 0, none⟩) (World.block_lt_of_cell? _ _ x0)).trans x0
 have e1 := (b1.cell (p := ⟨k, 1, none⟩) (World.block_lt_of_cell? _ _ x1)).trans x1
 have d0 := (b1.cell (p := ⟨g, i * 5, none⟩) (World.block_lt_of_cell? _ _ c0)).trans c0
 have d1 := (b1.cell (p := ⟨g, i * 5 + 1, none⟩) (World.block_lt_of_cell? _ _ c1)).trans c1
 have d2 := (b1.cell (p := ⟨g, i * 5 + 2, none⟩) (World.block_lt_of_cell? _ _ c2)).trans c2
 have d3 := (b1.cell (p := ⟨g, i * 5 + 3, none⟩) (World.block_lt_of_cell? _ _ c3)).trans c3
 have d4 := (b1.cell (p := ⟨g, i * 5 + 4, none⟩) (World.block_lt_of_cell? _ _ c4)).trans c4
 generalize w.drewN nq = w8 at h1 e0 e1 d0 d1 d2 d3 d4 ⊢
 clear x0 x1 x2 x3 x4 x5 x6 xf c0 c1 c2 c3 c4 b1 h0; have hal := alloc_old
 have haf := alloc_oldf
 go_region
 go_wp2_with fail; go_ret; exact ⟨rfl, (h1.out.later (bl_alloc (Below.refl _ _) (.cells #[.int .i64 (kd T i), .int .i64 (ta T E i), .string (tx T i), .int .i64 (ti T i), .float .f64 x] 47))).drew⟩
set_option maxHeartbeats 4000000 in
theorem is_no (T : List Tk) (E : Int) (k g : Nat) (sl : Option Addr) (cp : Nat) (i d : Nat) (v : Value) (Q : List NK) (P : List OR) (X : World) (B : Nat) (s : ByteArray) (w : World) (SV : Sv T E X B g sl) (hR : Rs X B w (sR T E k sl cp i d v Q P)) (hi : i ≤ T.length) (hd : d ≤ 1000) (hs : ¬ tx T i = s) :
  Calls Tryz.prog 10 #[.pointer (some ⟨k, 0, none⟩), .string s] w fun e w' => e = .returned (.bool false) ∧ Rs X B w' (sR T E k sl cp (i) (d) v Q P) := by
 have h0 := hid hR
 obtain ⟨x0, x1, x2, x3, x4, x5, x6, xf⟩ := (hR.box [] (rN v Q :: (rK Q ++ P))).seven
 have hl := SV.l
 have hz : ((0 : Int) != 0) = false := rfl
 have hz2 : ((0 : Int) == 0) = true := rfl
 have hs1 := str_no hs
 clear hs; by_cases hlt : i < T.length
 ·
  by_cases k2' : kd T i = 2
  ·
   have k2 : (kd T i == 2) = true := by rw [k2']; rfl
   clear k2'; obtain ⟨x, hx⟩ := tk_at (E := E) hlt
   have hsl := SV.s (by omega)
   subst hsl
   obtain ⟨c0, c1, c2, c3, c4⟩ := SV.t.rs hR SV.gb i _ hx
   have hg : ¬ (i : Int) ≥ (T.length : Int) := by omega
   have hg2 : decide ((i : Int) ≥ (T.length : Int)) = false := decide_eq_false hg
   have hg3 : decide (T.length ≤ i) = false := decide_eq_false (by omega)
   have hltI : (i : Int) < (T.length : Int) := by omega
   clear hx hR; go_enter Tryz.func10, Tryz.ntmps10
   go_wp2_with fail; go_quiet (fail)
   go_wp2_with fail; have h1 := hid (h0.out.later (bl_drewN (Below.refl _ _) nq))
   have b1 : Below w.heap.size w (w.drewN nq) := bl_drewN (Below.refl _ _) _
   have e0 := (b1.cell (p := ⟨k, 0, none⟩) (World.block_lt_of_cell? _ _ x0)).trans x0
   have e1 := (b1.cell (p := ⟨k, 1, none⟩) (World.block_lt_of_cell? _ _ x1)).trans x1
   have d0 := (b1.cell (p := ⟨g, i * 5, none⟩) (World.block_lt_of_cell? _ _ c0)).trans c0
   have d1 := (b1.cell (p := ⟨g, i * 5 + 1, none⟩) (World.block_lt_of_cell? _ _ c1)).trans c1
   have d2 := (b1.cell (p := ⟨g, i * 5 + 2, none⟩) (World.block_lt_of_cell? _ _ c2)).trans c2
   have d3 := (b1.cell (p := ⟨g, i * 5 + 3, none⟩) (World.block_lt_of_cell? _ _ c3)).trans c3
   have d4 := (b1.cell (p := ⟨g, i * 5 + 4, none⟩) (World.block_lt_of_cell? _ _ c4)).trans c4
   generalize w.drewN nq = w8 at h1 e0 e1 d0 d1 d2 d3 d4 ⊢
   clear x0 x1 x2 x3 x4 x5 x6 xf c0 c1 c2 c3 c4 b1 h0; have hal := alloc_old
   have haf := alloc_oldf
   go_region
   go_wp2_with fail; go_ret; exact ⟨rfl, (h1.out.later (bl_alloc (Below.refl _ _) (.cells #[.int .i64 (kd T i), .int .i64 (ta T E i), .string (tx T i), .int .i64 (ti T i), .float .f64 x] 47))).drew⟩
  have k2 : (kd T i == 2) = false := by simpa using k2'
  clear k2'; by_cases k5' : kd T i = 5
  ·
   have k5 : (kd T i == 5) = true := by rw [k5']; rfl
   clear k5'; obtain ⟨x, hx⟩ := tk_at (E := E) hlt
   have hsl := SV.s (by omega)
   subst hsl
   obtain ⟨c0, c1, c2, c3, c4⟩ := SV.t.rs hR SV.gb i _ hx
   have hg : ¬ (i : Int) ≥ (T.length : Int) := by omega
   have hg2 : decide ((i : Int) ≥ (T.length : Int)) = false := decide_eq_false hg
   have hg3 : decide (T.length ≤ i) = false := decide_eq_false (by omega)
   have hltI : (i : Int) < (T.length : Int) := by omega
   clear hx hR; go_enter Tryz.func10, Tryz.ntmps10
   go_wp2_with fail; go_quiet (fail)
   go_wp2_with fail; have h1 := hid (h0.out.later (bl_drewN (Below.refl _ _) nq))
   have b1 : Below w.heap.size w (w.drewN nq) := bl_drewN (Below.refl _ _) _
   have e0 := (b1.cell (p := ⟨k, 0, none⟩) (World.block_lt_of_cell? _ _ x0)).trans x0
   have e1 := (b1.cell (p := ⟨k, 1, none⟩) (World.block_lt_of_cell? _ _ x1)).trans x1
   have d0 := (b1.cell (p := ⟨g, i * 5, none⟩) (World.block_lt_of_cell? _ _ c0)).trans c0
   have d1 := (b1.cell (p := ⟨g, i * 5 + 1, none⟩) (World.block_lt_of_cell? _ _ c1)).trans c1
   have d2 := (b1.cell (p := ⟨g, i * 5 + 2, none⟩) (World.block_lt_of_cell? _ _ c2)).trans c2
   have d3 := (b1.cell (p := ⟨g, i * 5 + 3, none⟩) (World.block_lt_of_cell? _ _ c3)).trans c3
   have d4 := (b1.cell (p := ⟨g, i * 5 + 4, none⟩) (World.block_lt_of_cell? _ _ c4)).trans c4
   generalize w.drewN nq = w8 at h1 e0 e1 d0 d1 d2 d3 d4 ⊢
   clear x0 x1 x2 x3 x4 x5 x6 xf c0 c1 c2 c3 c4 b1 h0; have hal := alloc_old
   have haf := alloc_oldf
   go_region
   go_wp2_with fail; go_ret; exact ⟨rfl, (h1.out.later (bl_alloc (Below.refl _ _) (.cells #[.int .i64 (kd T i), .int .i64 (ta T E i), .string (tx T i), .int .i64 (ti T i), .float .f64 x] 47))).drew⟩
  have k5 : (kd T i == 5) = false := by simpa using k5'
  clear k5'; obtain ⟨x, hx⟩ := tk_at (E := E) hlt
  have hsl := SV.s (by omega)
  subst hsl
  obtain ⟨c0, c1, c2, c3, c4⟩ := SV.t.rs hR SV.gb i _ hx
  have hg : ¬ (i : Int) ≥ (T.length : Int) := by omega
  have hg2 : decide ((i : Int) ≥ (T.length : Int)) = false := decide_eq_false hg
  have hg3 : decide (T.length ≤ i) = false := decide_eq_false (by omega)
  have hltI : (i : Int) < (T.length : Int) := by omega
  clear hx hR; go_enter Tryz.func10, Tryz.ntmps10
  go_wp2_with fail; go_quiet (fail)
  go_wp2_with fail; have h1 := hid (h0.out.later (bl_drewN (Below.refl _ _) nq))
  have b1 : Below w.heap.size w (w.drewN nq) := bl_drewN (Below.refl _ _) _
  have e0 := (b1.cell (p := ⟨k, 0, none⟩) (World.block_lt_of_cell? _ _ x0)).trans x0
  have e1 := (b1.cell (p := ⟨k, 1, none⟩) (World.block_lt_of_cell? _ _ x1)).trans x1
  have d0 := (b1.cell (p := ⟨g, i * 5, none⟩) (World.block_lt_of_cell? _ _ c0)).trans c0
  have d1 := (b1.cell (p := ⟨g, i * 5 + 1, none⟩) (World.block_lt_of_cell? _ _ c1)).trans c1
  have d2 := (b1.cell (p := ⟨g, i * 5 + 2, none⟩) (World.block_lt_of_cell? _ _ c2)).trans c2
  have d3 := (b1.cell (p := ⟨g, i * 5 + 3, none⟩) (World.block_lt_of_cell? _ _ c3)).trans c3
  have d4 := (b1.cell (p := ⟨g, i * 5 + 4, none⟩) (World.block_lt_of_cell? _ _ c4)).trans c4
  generalize w.drewN nq = w8 at h1 e0 e1 d0 d1 d2 d3 d4 ⊢
  clear x0 x1 x2 x3 x4 x5 x6 xf c0 c1 c2 c3 c4 b1 h0; have hal := alloc_old
  have haf := alloc_oldf
  go_region
  go_wp2_with fail; go_ret; exact ⟨rfl, (h1.out.later (bl_alloc (Below.refl _ _) (.cells #[.int .i64 (kd T i), .int .i64 (ta T E i), .string (tx T i), .int .i64 (ti T i), .float .f64 x] 47))).drew⟩
 have hg : (i : Int) ≥ (T.length : Int) := by omega
 have hg2 : decide ((i : Int) ≥ (T.length : Int)) = true := decide_eq_true hg
 have hg3 : decide (T.length ≤ i) = true := decide_eq_true (by omega)
 clear hR; go_enter Tryz.func10, Tryz.ntmps10
 go_wp2_with fail; go_quiet (fail)
 go_wp2_with fail; go_ret; exact ⟨rfl, h0.out.later (bl_drewN (Below.refl _ _) _)⟩
end
end Go.Proofs.YtncknfkinmjmdaaGreatDoor
