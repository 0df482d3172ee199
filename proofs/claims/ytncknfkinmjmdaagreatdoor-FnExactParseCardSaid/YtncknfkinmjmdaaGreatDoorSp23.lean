import Derived.Test.YtncknfkinmjmdaaGreatDoorSp22
namespace Go.Proofs.YtncknfkinmjmdaaGreatDoor
set_option linter.unusedVariables false
set_option linter.unusedSimpArgs false
section
open Go.RowKit
set_option maxRecDepth 100000
set_option maxHeartbeats 4000000 in
theorem swant_ok (T : List Tk) (E : Int) (k g : Nat) (sl : Option Addr) (cp : Nat) (i d : Nat) (v : Value) (Q : List NK) (P : List OR) (X : World) (B : Nat) (s : ByteArray) (w : World) (SV : Sv T E X B g sl) (hR : Rs X B w (sR T E k sl cp i d v Q P)) (hi : i ≤ T.length) (hd : d ≤ 1000) (hs : tx T i = s) (hm : s ∈ WMs) :
  Calls Tryz.prog 25 #[.pointer (some ⟨k, 0, none⟩), .string s] w fun e w' => e = .returned (.bool true) ∧ Rs X B w' (sR T E k sl cp (i + 1) (d) v Q P) := by
 have hk := SV.m i s hm hs
 have hlt : i < T.length := by rcases hk with h | h <;> exact kd_lt h (by decide)
 have hl := SV.l
 have tw : IntKind.i64.wrap ((i : Int) + 1) = (i : Int) + 1 := by rw [IntKind.wrap_i64]; omega
 have h0 := hid hR
 clear hR; go_enter Tryz.func25, Tryz.ntmps25
 go_wp2_with fail; refine (is_yes T E k g sl cp i d v Q P X B s _ SV h0.out hi hd hlt hs hk).mono ?_
 rintro e w1 ⟨rfl, r1⟩
 obtain ⟨x0, x1, x2, x3, x4, x5, x6, xf⟩ := (r1.box [] (rN v Q :: (rK Q ++ P))).seven
 have h2 := hid (r1.setB [] (rN v Q :: (rK Q ++ P)) 1 (.int .i64 ((i : Int) + 1)))
 clear h0 r1 hs hk; go_wp2_with fail; go_ret; exact ⟨rfl, h2.out⟩
set_option maxHeartbeats 4000000 in
theorem swant_bad (T : List Tk) (E : Int) (k g : Nat) (sl : Option Addr) (cp : Nat) (i d : Nat) (v : Value) (Q : List NK) (P : List OR) (X : World) (B : Nat) (s : ByteArray) (w : World) (SV : Sv T E X B g sl) (hR : Rs X B w (sR T E k sl cp i d v Q P)) (hi : i ≤ T.length) (hd : d ≤ 1000) (hs : ¬ tx T i = s) :
  Calls Tryz.prog 25 #[.pointer (some ⟨k, 0, none⟩), .string s] w fun e w' => e = .returned (.bool false) ∧ sD T E k sl cp 2 (ta T E i) X B w' P := by
 have h0 := hid hR
 clear hR; go_enter Tryz.func25, Tryz.ntmps25
 go_wp2_with fail; refine (is_no T E k g sl cp i d v Q P X B s _ SV h0.out hi hd hs).mono ?_
 rintro e w1 ⟨rfl, r1⟩
 have h1 := hid r1
 clear r1 h0; go_wp2_with fail; refine (fail_live T E k g sl cp i d v Q P X B 2 _ SV h1.out hi hd (by decide)).mono ?_
 rintro e w2 ⟨rfl, r2⟩
 go_wp2_with fail; go_ret; exact ⟨rfl, r2⟩
set_option maxHeartbeats 4000000 in
theorem swant_dead (T : List Tk) (E : Int) (k g : Nat) (sl : Option Addr) (cp : Nat) (P : List OR) (X : World) (B : Nat) (c a : Int) (s : ByteArray) (w : World) (hD : sD T E k sl cp c a X B w P) :
  Calls Tryz.prog 25 #[.pointer (some ⟨k, 0, none⟩), .string s] w fun e w' => e = .returned (.bool false) ∧ sD T E k sl cp c a X B w' P := by
 have h0 := hid hD
 clear hD; go_enter Tryz.func25, Tryz.ntmps25
 go_wp2_with fail; refine (is_dead T E k g sl cp P X B c a s _ h0.out).mono ?_
 rintro e w1 ⟨rfl, r1⟩
 have h1 := hid r1
 clear r1 h0; go_wp2_with fail; refine (fail_dead T E k g sl cp P X B c a 2 _ h1.out).mono ?_
 rintro e w2 ⟨rfl, r2⟩
 go_wp2_with fail; go_ret; exact ⟨rfl, r2⟩
set_option maxHeartbeats 4000000 in
theorem sname_ok (T : List Tk) (E : Int) (k g : Nat) (sl : Option Addr) (cp : Nat) (i d : Nat) (v : Value) (Q : List NK) (P : List OR) (X : World) (B : Nat)  (w : World) (SV : Sv T E X B g sl) (hR : Rs X B w (sR T E k sl cp i d v Q P)) (hi : i ≤ T.length) (hd : d ≤ 1000) (hk : kd T i = 1) :
  Calls Tryz.prog 12 #[.pointer (some ⟨k, 0, none⟩)] w fun e w' => e = .returned (.string (tx T i)) ∧ Rs X B w' (sR T E k sl cp (i + 1) (d) v Q P) := by
 have hlt : i < T.length := kd_lt hk (by decide)
 have hl := SV.l
 have tw : IntKind.i64.wrap ((i : Int) + 1) = (i : Int) + 1 := by rw [IntKind.wrap_i64]; omega
 have h0 := hid hR
 clear hR; go_enter Tryz.func12, Tryz.ntmps12
 go_wp2_with fail; refine (kind_live T E k g sl cp i d v Q P X B _ SV h0.out hi hd).mono ?_
 rintro e w1 ⟨rfl, r1⟩
 rw [hk]
 obtain ⟨x0, x1, x2, x3, x4, x5, x6, xf⟩ := (r1.box [] (rN v Q :: (rK Q ++ P))).seven
 have h2 := hid (r1.setB [] (rN v Q :: (rK Q ++ P)) 1 (.int .i64 ((i : Int) + 1)))
 clear h0 r1; go_upto_region 5 with fail
 generalize hW : w1.setCell ⟨k, 1, none⟩ (.int .i64 ((i : Int) + 1)) = W2 at h2 ⊢
 clear hW x0 x1 x2 x3 x4 x5 x6 xf; have hR2 := h2.out
 obtain ⟨x0, x1, x2, x3, x4, x5, x6, xf⟩ := (hR2.box [] (rN v Q :: (rK Q ++ P))).seven
 obtain ⟨x, hx⟩ := tk_at (E := E) hlt
 have hsl := SV.s (by omega)
 subst hsl
 obtain ⟨c0, c1, c2, c3, c4⟩ := SV.t.rs hR2 SV.gb i _ hx
 have tw2 : IntKind.i64.wrap ((i : Int) + 1 - 1) = (i : Int) := by rw [IntKind.wrap_i64]; omega
 have hltI : (i : Int) < (T.length : Int) := by omega
 clear hx hR2; go_quiet (fail)
 go_wp2_with fail; go_ret; exact ⟨rfl, h2.out.later (bl_drewN (Below.refl _ _) _)⟩
set_option maxHeartbeats 4000000 in
theorem sname_bad (T : List Tk) (E : Int) (k g : Nat) (sl : Option Addr) (cp : Nat) (i d : Nat) (v : Value) (Q : List NK) (P : List OR) (X : World) (B : Nat)  (w : World) (SV : Sv T E X B g sl) (hR : Rs X B w (sR T E k sl cp i d v Q P)) (hi : i ≤ T.length) (hd : d ≤ 1000) (hk : ¬ kd T i = 1) :
  Calls Tryz.prog 12 #[.pointer (some ⟨k, 0, none⟩)] w fun e w' => e = .returned (.string ⟨#[]⟩) ∧ sD T E k sl cp 2 (ta T E i) X B w' P := by
 have h0 := hid hR
 have hk1 : (kd T i != 1) = true := by simpa using hk
 clear hR; go_enter Tryz.func12, Tryz.ntmps12
 go_wp2_with fail; refine (kind_live T E k g sl cp i d v Q P X B _ SV h0.out hi hd).mono ?_
 rintro e w1 ⟨rfl, r1⟩
 have h1 := hid r1
 clear r1 h0; go_wp2_with fail; refine (fail_live T E k g sl cp i d v Q P X B 2 _ SV h1.out hi hd (by decide)).mono ?_
 rintro e w2 ⟨rfl, r2⟩
 go_wp2_with fail; go_ret; exact ⟨rfl, r2⟩
set_option maxHeartbeats 4000000 in
theorem sname_dead (T : List Tk) (E : Int) (k g : Nat) (sl : Option Addr) (cp : Nat) (P : List OR) (X : World) (B : Nat) (c a : Int)  (w : World) (hD : sD T E k sl cp c a X B w P) :
  Calls Tryz.prog 12 #[.pointer (some ⟨k, 0, none⟩)] w fun e w' => e = .returned (.string ⟨#[]⟩) ∧ sD T E k sl cp c a X B w' P := by
 have h0 := hid hD
 clear hD; go_enter Tryz.func12, Tryz.ntmps12
 go_wp2_with fail; refine (kind_dead T E k g sl cp P X B c a _ h0.out).mono ?_
 rintro e w1 ⟨rfl, r1⟩
 have h1 := hid r1
 clear r1 h0; go_wp2_with fail; refine (fail_dead T E k g sl cp P X B c a 2 _ h1.out).mono ?_
 rintro e w2 ⟨rfl, r2⟩
 go_wp2_with fail; go_ret; exact ⟨rfl, r2⟩
set_option maxHeartbeats 4000000 in
theorem open_ok (T : List Tk) (E : Int) (k g : Nat) (sl : Option Addr) (cp : Nat) (i d : Nat) (v : Value) (Q : List NK) (P : List OR) (X : World) (B : Nat)  (w : World) (SV : Sv T E X B g sl) (hR : Rs X B w (sR T E k sl cp i d v Q P)) (hi : i ≤ T.length) (hd : d ≤ 1000) (hlt : i < T.length) (h40 : d < 40) :
  Calls Tryz.prog 28 #[.pointer (some ⟨k, 0, none⟩)] w fun e w' => e = .returned (.bool true) ∧ Rs X B w' (sR T E k sl cp (i) (d + 1) v Q P) := by
 have h0 := hid hR
 obtain ⟨x0, x1, x2, x3, x4, x5, x6, xf⟩ := (hR.box [] (rN v Q :: (rK Q ++ P))).seven
 have hl := SV.l
 have hz : ((0 : Int) != 0) = false := rfl
 have hz2 : ((0 : Int) == 0) = true := rfl
 have hg2 : decide ((i : Int) ≥ (T.length : Int)) = false := decide_eq_false (by omega)
 have hg3 : decide (T.length ≤ i) = false := decide_eq_false (by omega)
 have hg4 : decide ((d : Int) ≥ 40) = false := decide_eq_false (by omega)
 have hg5 : decide ((40 : Int) ≤ (d : Int)) = false := decide_eq_false (by omega)
 have tw : IntKind.i64.wrap ((d : Int) + 1) = (d : Int) + 1 := by rw [IntKind.wrap_i64]; omega
 clear hR; go_enter Tryz.func28, Tryz.ntmps28
 go_wp2_with fail; go_quiet (fail)
 have h1 := hid (h0.out.later (bl_drewN (Below.refl _ _) nq))
 generalize w.drewN nq = w8 at h1 ⊢
 clear h0 x0 x1 x2 x3 x4 x5 x6 xf; obtain ⟨x0, x1, x2, x3, x4, x5, x6, xf⟩ := (h1.out.box [] (rN v Q :: (rK Q ++ P))).seven
 have h2 := hid (h1.out.setB [] (rN v Q :: (rK Q ++ P)) 5 (.int .i64 ((d : Int) + 1)))
 go_wp2_with fail; go_ret; exact ⟨rfl, h2.out⟩
set_option maxHeartbeats 4000000 in
theorem open_deep (T : List Tk) (E : Int) (k g : Nat) (sl : Option Addr) (cp : Nat) (i d : Nat) (v : Value) (Q : List NK) (P : List OR) (X : World) (B : Nat)  (w : World) (SV : Sv T E X B g sl) (hR : Rs X B w (sR T E k sl cp i d v Q P)) (hi : i ≤ T.length) (hd : d ≤ 1000) (hlt : i < T.length) (h40 : 40 ≤ d) :
  Calls Tryz.prog 28 #[.pointer (some ⟨k, 0, none⟩)] w fun e w' => e = .returned (.bool false) ∧ sD T E k sl cp 3 (ta T E i) X B w' P := by
 have h0 := hid hR
 obtain ⟨x0, x1, x2, x3, x4, x5, x6, xf⟩ := (hR.box [] (rN v Q :: (rK Q ++ P))).seven
 have hl := SV.l
 have hz : ((0 : Int) != 0) = false := rfl
 have hz2 : ((0 : Int) == 0) = true := rfl
 have hg2 : decide ((i : Int) ≥ (T.length : Int)) = false := decide_eq_false (by omega)
 have hg3 : decide (T.length ≤ i) = false := decide_eq_false (by omega)
 have hg4 : decide ((d : Int) ≥ 40) = true := decide_eq_true (by omega)
 have hg5 : decide ((40 : Int) ≤ (d : Int)) = true := decide_eq_true (by omega)
 clear hR; go_enter Tryz.func28, Tryz.ntmps28
 go_wp2_with fail; go_quiet (fail)
 have h1 := hid (h0.out.later (bl_drewN (Below.refl _ _) nq))
 generalize w.drewN nq = w8 at h1 ⊢
 clear h0 x0 x1 x2 x3 x4 x5 x6 xf; obtain ⟨x0, x1, x2, x3, x4, x5, x6, xf⟩ := (h1.out.box [] (rN v Q :: (rK Q ++ P))).seven
 go_wp2_with fail; refine (fail_live T E k g sl cp i d v Q P X B 3 _ SV h1.out hi hd (by decide)).mono ?_
 rintro e w2 ⟨rfl, r2⟩
 go_wp2_with fail; go_ret; exact ⟨rfl, r2⟩
set_option maxHeartbeats 4000000 in
theorem open_end (T : List Tk) (E : Int) (k g : Nat) (sl : Option Addr) (cp : Nat) (i d : Nat) (v : Value) (Q : List NK) (P : List OR) (X : World) (B : Nat)  (w : World) (SV : Sv T E X B g sl) (hR : Rs X B w (sR T E k sl cp i d v Q P)) (hi : i ≤ T.length) (hd : d ≤ 1000) (hlt : ¬ i < T.length) :
  Calls Tryz.prog 28 #[.pointer (some ⟨k, 0, none⟩)] w fun e w' => e = .returned (.bool false) ∧ sD T E k sl cp 2 (ta T E i) X B w' P := by
 have h0 := hid hR
 obtain ⟨x0, x1, x2, x3, x4, x5, x6, xf⟩ := (hR.box [] (rN v Q :: (rK Q ++ P))).seven
 have hl := SV.l
 have hz : ((0 : Int) != 0) = false := rfl
 have hz2 : ((0 : Int) == 0) = true := rfl
 have hg2 : decide ((i : Int) ≥ (T.length : Int)) = true := decide_eq_true (by omega)
 have hg3 : decide (T.length ≤ i) = true := decide_eq_true (by omega)
 clear hR; go_enter Tryz.func28, Tryz.ntmps28
 go_wp2_with fail; go_quiet (fail)
 have h1 := hid (h0.out.later (bl_drewN (Below.refl _ _) nq))
 generalize w.drewN nq = w8 at h1 ⊢
 clear h0 x0 x1 x2 x3 x4 x5 x6 xf; obtain ⟨x0, x1, x2, x3, x4, x5, x6, xf⟩ := (h1.out.box [] (rN v Q :: (rK Q ++ P))).seven
 go_wp2_with fail; refine (fail_live T E k g sl cp i d v Q P X B 2 _ SV h1.out hi hd (by decide)).mono ?_
 rintro e w2 ⟨rfl, r2⟩
 go_wp2_with fail; go_ret; exact ⟨rfl, r2⟩
set_option maxHeartbeats 4000000 in
theorem open_dead (T : List Tk) (E : Int) (k g : Nat) (sl : Option Addr) (cp : Nat) (P : List OR) (X : World) (B : Nat) (c a : Int)  (w : World) (hD : sD T E k sl cp c a X B w P) :
  Calls Tryz.prog 28 #[.pointer (some ⟨k, 0, none⟩)] w fun e w' => e = .returned (.bool false) ∧ sD T E k sl cp c a X B w' P := by
 obtain ⟨hc, i, d, v, Q, hR⟩ := hD
 have h0 := hid hR
 obtain ⟨x0, x1, x2, x3, x4, x5, x6, xf⟩ := (hR.box [] (rN v Q :: (rK Q ++ P))).seven
 have hz : (c != 0) = true := by simpa using hc
 have hz2 : (c == 0) = false := by simpa using hc
 have hz3 : decide (c = 0) = false := decide_eq_false hc
 clear hR; go_enter Tryz.func28, Tryz.ntmps28
 go_wp2_with fail; go_ret; exact ⟨rfl, hc, i, d, v, Q, h0.out⟩
end
section
open Go.RowKit
set_option maxRecDepth 100000
theorem sR_box {T : List Tk} {E : Int} {k : Nat} {sl : Option Addr} {cp i d : Nat} {v : Value} {Q : List NK} {P : List OR} {X w : World} {B : Nat} (h : Rs X B w (sR T E k sl cp i d v Q P)) (cs : List Value) (t : TypeId) : Rs X B (w.alloc (.cells cs.toArray t)) (sR T E k sl cp i d v Q (rB w.heap.size t cs :: P)) :=
 h.ins (rB k 36 (bP sl T.length cp i v 0 0 d E) :: rN v Q :: rK Q) P (bl_alloc (Below.refl _ _) _) (blk_rB (Blk.new w _ _) (Nat.le_refl _))
theorem sR_less {T : List Tk} {E : Int} {k : Nat} {sl : Option Addr} {cp i d : Nat} {v : Value} {Q : List NK} {P : List OR} {X w : World} {B : Nat} {r : OR} (h : Rs X B w (sR T E k sl cp i d v Q (r :: P))) : Rs X B w (sR T E k sl cp i d v Q P) := h.less (rB k 36 (bP sl T.length cp i v 0 0 d E) :: rN v Q :: rK Q) P
theorem sR_get {T : List Tk} {E : Int} {k : Nat} {sl : Option Addr} {cp i d : Nat} {v : Value} {Q : List NK} {P : List OR} {X w : World} {B : Nat} {n : Nat} {t : TypeId} {cs : List Value} (h : Rs X B w (sR T E k sl cp i d v Q (rB n t cs :: P))) : Blk w n cs.toArray t := h.box (rB k 36 (bP sl T.length cp i v 0 0 d E) :: rN v Q :: rK Q) P
theorem sR_get2 {T : List Tk} {E : Int} {k : Nat} {sl : Option Addr} {cp i d : Nat} {v : Value} {Q : List NK} {P : List OR} {X w : World} {B : Nat} {r : OR} {n : Nat} {t : TypeId} {cs : List Value} (h : Rs X B w (sR T E k sl cp i d v Q (r :: rB n t cs :: P))) : Blk w n cs.toArray t := sR_get (sR_less h)
theorem sR_get3 {T : List Tk} {E : Int} {k : Nat} {sl : Option Addr} {cp i d : Nat} {v : Value} {Q : List NK} {P : List OR} {X w : World} {B : Nat} {r r2 : OR} {n : Nat} {t : TypeId} {cs : List Value} (h : Rs X B w (sR T E k sl cp i d v Q (r :: r2 :: rB n t cs :: P))) : Blk w n cs.toArray t := sR_get (sR_less (sR_less h))
theorem Blk.at {w : World} {n : Nat} {L : List Value} {t : TypeId} (h : Blk w n L.toArray t) {q : Nat} {u : Value} (hq : L[q]? = some u) : w.cell? ⟨n, q, none⟩ = some u := (h.cell q).trans (by simpa using hq)
theorem sD_box {T : List Tk} {E : Int} {k : Nat} {sl : Option Addr} {cp : Nat} {c a : Int} {P : List OR} {X w : World} {B : Nat} (h : sD T E k sl cp c a X B w P) (cs : List Value) (t : TypeId) : sD T E k sl cp c a X B (w.alloc (.cells cs.toArray t)) (rB w.heap.size t cs :: P) := by
 obtain ⟨hc, i, d, v, Q, hR⟩ := h
 exact ⟨hc, i, d, v, Q, hR.ins (rB k 36 (bP sl T.length cp i v c a d E) :: rN v Q :: rK Q) P (bl_alloc (Below.refl _ _) _) (blk_rB (Blk.new w _ _) (Nat.le_refl _))⟩
theorem sD.one {T : List Tk} {E : Int} {k : Nat} {sl : Option Addr} {cp : Nat} {c a : Int} {P : List OR} {X w : World} {B : Nat} {r : OR} (h : sD T E k sl cp c a X B w (r :: P)) : sD T E k sl cp c a X B w P := by
 obtain ⟨hc, i, d, v, Q, hR⟩ := h
 exact ⟨hc, i, d, v, Q, hR.less (rB k 36 (bP sl T.length cp i v c a d E) :: rN v Q :: rK Q) P⟩
theorem sD_get {T : List Tk} {E : Int} {k : Nat} {sl : Option Addr} {cp : Nat} {c a : Int} {P : List OR} {X w : World} {B : Nat} {n : Nat} {t : TypeId} {cs : List Value} (h : sD T E k sl cp c a X B w (rB n t cs :: P)) : Blk w n cs.toArray t := by
 obtain ⟨hc, i, d, v, Q, hR⟩ := h
 exact hR.box (rB k 36 (bP sl T.length cp i v c a d E) :: rN v Q :: rK Q) P
def sN : List ByteArray := ktx.drop 1
theorem sN_wm {q : Nat} {t : ByteArray} (h : sN[q]? = some t) : t ∈ WMs := by
 have := List.mem_of_getElem? h
 simp only [sN, ktx, List.drop, List.mem_cons, List.not_mem_nil, or_false] at this
 rcases this with rfl | rfl | rfl | rfl <;> simp [WMs]
set_option maxHeartbeats 4000000 in
theorem sort_any (T : List Tk) (E : Int) (k g : Nat) (sl : Option Addr) (cp : Nat) (i d : Nat) (v : Value) (Q : List NK) (P : List OR) (X : World) (B : Nat) (w : World) (SV : Sv T E X B g sl) (hR : Rs X B w (sR T E k sl cp i d v Q P)) (hi : i ≤ T.length) (hd : d ≤ 1000) :
  Calls Tryz.prog 26 #[.pointer (some ⟨k, 0, none⟩)] w fun e w' => (kindOf (tx T i) = 0 ∧ e = .returned (.int .i64 0) ∧ sD T E k sl cp 2 (ta T E i) X B w' P) ∨ (¬ kindOf (tx T i) = 0 ∧ e = .returned (.int .i64 (kindOf (tx T i))) ∧ Rs X B w' (sR T E k sl cp (i + 1) (d) v Q P)) := by
 have hl := SV.l
 have h0 := hid (sR_box hR (sN.map Value.string) 9)
 have tw : IntKind.i64.wrap ((i : Int) + 1) = (i : Int) + 1 := by rw [IntKind.wrap_i64]; omega
 have SV0 := hid SV
 obtain ⟨res, hres⟩ : ∃ r, Hid (srch (tx T i) sN 1 = r) := ⟨_, rfl⟩
 have hrk : kindOf (tx T i) = res := (kind_srch _).trans hres.out
 rw [hrk]
 clear hR SV hrk; go_enter Tryz.func26, Tryz.ntmps26
 go_wp2_with fail; go_loopw [4] (fun iv wr => ∃ q : Nat, q ≤ 4 ∧ iv = .int .i64 q ∧ Hid (srch (tx T i) (sN.drop q) ((q + 1 : Nat) : Int) = res) ∧ Hid (Rs X B wr (sR T E k sl cp i d v Q (rB w.heap.size 9 (sN.map Value.string) :: P)))) (fun iv _ => 4 - (intOf iv).toNat)
 case atStart => exact ⟨0, by omega, rfl, hres, h0⟩
 obtain ⟨q, h1, rfl, hq, hRq⟩ := hrel
 clear h0; by_cases hlt : q ≤ 3
 ·
  have hlt' : (q : Int) < 4 := by omega
  obtain ⟨t, ht⟩ : ∃ t, sN[q]? = some t := ⟨_, List.getElem?_eq_getElem (show q < sN.length by show q < 4; omega)⟩
  have c0 := (sR_get hRq.out).at (q := q) (u := .string t) (by rw [List.getElem?_map, ht]; rfl)
  have hd' : sN.drop q = t :: sN.drop (q + 1) := by
   obtain ⟨hq1, hq2⟩ := List.getElem?_eq_some_iff.1 ht
   rw [← hq2]
   exact List.drop_eq_getElem_cons hq1
  have hs := hq.out
  rw [hd'] at hs
  have twq : IntKind.i64.wrap ((q : Int) + 1) = (q : Int) + 1 := by rw [IntKind.wrap_i64]; omega
  by_cases he : t = tx T i
  ·
   have hr : Hid (res = (q : Int) + 1) := by show _ = _; rw [← hs]; simp [srch, he]
   have hm := hid (sN_wm ht)
   have hkk := hid (SV0.out.m i t hm.out he.symm)
   have hltT : i < T.length := by rcases hkk.out with h | h <;> exact kd_lt h (by decide)
   have He := hid he
   clear he hs hd' ht hq; go_wp2_with fail; refine (is_yes T E k g sl cp i d v Q _ X B t _ SV0.out hRq.out hi hd hltT He.out.symm hkk.out).mono ?_
   rintro e w1 ⟨rfl, r1⟩
   have r1 := sR_less r1
   obtain ⟨x0, x1, x2, x3, x4, x5, x6, xf⟩ := (r1.box [] (rN v Q :: (rK Q ++ P))).seven
   have h2 := hid (r1.setB [] (rN v Q :: (rK Q ++ P)) 1 (.int .i64 ((i : Int) + 1)))
   clear r1 hRq c0; go_wp2_with fail; go_ret; refine Or.inr ⟨?_, by rw [hr.out]; rfl, h2.out⟩
   rw [hr.out]
   omega
  have hr : Hid (srch (tx T i) (sN.drop (q + 1)) ((q + 1 + 1 : Nat) : Int) = res) := by show _ = _; rw [← hs]; simp [srch, he]
  have He := hid he
  clear he hs hd' ht hq; go_wp2_with fail; refine (is_no T E k g sl cp i d v Q _ X B t _ SV0.out hRq.out hi hd (fun h => He.out h.symm)).mono ?_
  rintro e w1 ⟨rfl, r1⟩
  have h2 := hid r1
  clear r1 hRq c0; go_wp2_with fail; go_round
  case rel => exact ⟨q + 1, by omega, by go_num, hr, h2⟩
  case measure => simp [intOf]; omega
 have hq4 : q = 4 := by omega
 subst hq4
 have hr : Hid (res = 0) := by show _ = _; rw [← hq.out]; rfl
 go_wp2_with fail; refine (fail_live T E k g sl cp i d v Q _ X B 2 _ SV0.out hRq.out hi hd (by decide)).mono ?_
 rintro e w2 ⟨rfl, r2⟩
 go_wp2_with fail; go_ret; exact Or.inl ⟨hr.out, rfl, r2.one⟩
set_option maxHeartbeats 4000000 in
theorem sort_dead (T : List Tk) (E : Int) (k g : Nat) (sl : Option Addr) (cp : Nat) (P : List OR) (X : World) (B : Nat) (c a : Int)  (w : World) (hD : sD T E k sl cp c a X B w P) :
  Calls Tryz.prog 26 #[.pointer (some ⟨k, 0, none⟩)] w fun e w' => e = .returned (.int .i64 0) ∧ sD T E k sl cp c a X B w' P := by
 have h0 := hid (sD_box hD (sN.map Value.string) 9)
 clear hD; go_enter Tryz.func26, Tryz.ntmps26
 go_wp2_with fail; go_loopw [4] (fun iv wr => ∃ q : Nat, q ≤ 4 ∧ iv = .int .i64 q ∧ Hid (sD T E k sl cp c a X B wr (rB w.heap.size 9 (sN.map Value.string) :: P))) (fun iv _ => 4 - (intOf iv).toNat)
 case atStart => exact ⟨0, by omega, rfl, h0⟩
 obtain ⟨q, h1, rfl, hRq⟩ := hrel
 clear h0; by_cases hlt : q ≤ 3
 ·
  have hlt' : (q : Int) < 4 := by omega
  obtain ⟨t, ht⟩ : ∃ t, sN[q]? = some t := ⟨_, List.getElem?_eq_getElem (show q < sN.length by show q < 4; omega)⟩
  have c0 := (sD_get hRq.out).at (q := q) (u := .string t) (by rw [List.getElem?_map, ht]; rfl)
  have twq : IntKind.i64.wrap ((q : Int) + 1) = (q : Int) + 1 := by rw [IntKind.wrap_i64]; omega
  clear ht; go_wp2_with fail; refine (is_dead T E k g sl cp _ X B c a t _ hRq.out).mono ?_
  rintro e w1 ⟨rfl, r1⟩
  have h2 := hid r1
  clear r1 hRq c0; go_wp2_with fail; go_round
  case rel => exact ⟨q + 1, by omega, by go_num, h2⟩
  case measure => simp [intOf]; omega
 have hq4 : q = 4 := by omega
 subst hq4
 go_wp2_with fail; refine (fail_dead T E k g sl cp _ X B c a 2 _ hRq.out).mono ?_
 rintro e w2 ⟨rfl, r2⟩
 go_wp2_with fail; go_ret; exact ⟨rfl, r2.one⟩
end
end Go.Proofs.YtncknfkinmjmdaaGreatDoor
