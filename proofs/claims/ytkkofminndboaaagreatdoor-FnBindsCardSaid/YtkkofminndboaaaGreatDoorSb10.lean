import Derived.Test.YtkkofminndboaaaGreatDoorSb09
namespace Go.Proofs.YtkkofminndboaaaGreatDoor
open Go.RowKit
set_option linter.unusedVariables false
set_option linter.unusedSimpArgs false
set_option maxRecDepth 100000
theorem rR_box {X w : World} {B k g n cp i d : Nat} {v : Value} {Q : List NK} {P : List OR} (h : Rs X B w (rR k g n cp i d v Q P)) (cs : List Value) (t : TypeId) : Rs X B (w.alloc (.cells cs.toArray t)) (rR k g n cp i d v Q (rB w.heap.size t cs :: P)) :=
 h.ins (rB k 55 [.slice (some ⟨g, 0, none⟩) n cp, .int .i64 i, .int .i64 d, v] :: rN v Q :: rK Q) P (bl_alloc (Below.refl _ _) _) (blk_rB (Blk.new w _ _) (Nat.le_refl _))
theorem rR_see {X w : World} {B k g n cp i d q : Nat} {v : Value} {Q : List NK} {P : List OR} {cs : List Value} {t : TypeId} (h : Rs X B w (rR k g n cp i d v Q (rB q t cs :: P))) : Blk w q cs.toArray t :=
 h.box (rB k 55 [.slice (some ⟨g, 0, none⟩) n cp, .int .i64 i, .int .i64 d, v] :: rN v Q :: rK Q) P
theorem rR_less {X w : World} {B k g n cp i d : Nat} {v : Value} {Q : List NK} {P : List OR} {r : OR} (h : Rs X B w (rR k g n cp i d v Q (r :: P))) : Rs X B w (rR k g n cp i d v Q P) :=
 h.less (rB k 55 [.slice (some ⟨g, 0, none⟩) n cp, .int .i64 i, .int .i64 d, v] :: rN v Q :: rK Q) P
set_option maxHeartbeats 4000000 in
theorem closed_ok (T : List Tk) (E : Int) (k g cp i d : Nat) (v : Value) (Q : List NK) (P : List OR) (X : World) (B : Nat) (a : Int) (w : World) (EV : Env T E X B g) (hR : Rs X B w (rR k g (T.length + 1) cp i d v Q P)) (hi : i ≤ T.length) (hq : Q.length ≤ 2 * i) (hs : tx T i = bRp) :
  Calls Tryz.prog 90 #[.pointer (some ⟨k, 0, none⟩), .int .i64 a] w fun e w' => e = .returned (.int .i64 a) ∧ Rs X B w' (rR k g (T.length + 1) cp (i + 1) d v Q P) := by
 have hal := alloc_old
 have haf := alloc_oldf
 have h0 := hid hR
 clear hR; have HS := hid hs
 clear hs; go_enter Tryz.func90, Tryz.ntmps90
 go_wp2_with fail; refine (want_ok T E k g cp i d v Q P X B ⟨#[41]⟩ _ h0.out EV.t EV.g hi EV.l HS.out).mono ?_
 rintro e w1 ⟨rfl, r1⟩
 go_wp2_with fail; go_ret; exact ⟨rfl, r1⟩
set_option maxHeartbeats 4000000 in
theorem closed_bad (T : List Tk) (E : Int) (k g cp i d : Nat) (v : Value) (Q : List NK) (P : List OR) (X : World) (B : Nat) (a : Int) (w : World) (EV : Env T E X B g) (hR : Rs X B w (rR k g (T.length + 1) cp i d v Q P)) (hi : i ≤ T.length) (hq : Q.length ≤ 2 * i) (hs : ¬ tx T i = bRp) :
  Calls Tryz.prog 90 #[.pointer (some ⟨k, 0, none⟩), .int .i64 a] w fun e w' => e = .panicked [{ v := .iface 51 (.agg #[.int .i64 2, .int .i64 (ta T E i)]), recovered := false }] ∧ Dead X B w' P := by
 have hal := alloc_old
 have haf := alloc_oldf
 have h0 := hid hR
 clear hR; have HS := hid hs
 clear hs; go_enter Tryz.func90, Tryz.ntmps90
 go_wp2_with fail; refine (want_bad T E k g cp i d v Q P X B ⟨#[41]⟩ _ h0.out EV.t EV.g hi EV.l HS.out).mono ?_
 rintro e w1 ⟨rfl, r1⟩
 dsimp only
 exact ⟨rfl, rfl, r1⟩
set_option maxHeartbeats 8000000 in
theorem turned_of (T : List Tk) (E : Int) (k g cp i d x : Nat) (v : Value) (Q : List NK) (P : List OR) (X : World) (B : Nat) (w : World) (EV : Env T E X B g) (hR : Rs X B w (rR k g (T.length + 1) cp (i + 1) d v Q P)) (hi : i < T.length) (hq : Q.length ≤ 2 * i) (hd : d ≤ 40)
  (hprim : Says T E X B k g cp 41 83 #[.pointer (some ⟨k, 0, none⟩)] .prim (i + 1)) :
  Calls Tryz.prog 91 #[.pointer (some ⟨k, 0, none⟩), .agg #[.int .i64 (kd T i), .int .i64 (ta T E i), .string (tx T i), .int .i64 (ti T i), .float .f64 x]] w (Ok1 T X B k g cp d P (if d = 40 then .error (3, ta T E i) else (PAR T E (.prim (d + 1)) (i + 1) (Q.map (·.1))).then fun y j M => pNode (nd 9 nil (turnOf (tx T i)) [y.headD 0]) j M)) := by
 have HP := hid hprim
 have hal := alloc_old
 have haf := alloc_oldf
 have h0 := hid (rR_box hR [.int .i64 (kd T i), .int .i64 (ta T E i), .string (tx T i), .int .i64 (ti T i), .float .f64 x] 38)
 clear hprim hR; by_cases hb : d = 40
 ·
  rw [if_pos hb]
  have hk := EV.z i hi
  have HB := hid hb
  obtain ⟨y0, y1, y2, y3, y4, y5⟩ := (rR_see h0.out).five'
  clear hb; go_enter Tryz.func91, Tryz.ntmps91
  go_wp2_with fail; refine (enter_bad T E k g cp (i + 1) d v Q _ X B (kd T i) (ta T E i) (ti T i) (tx T i) x _ h0.out HB.out hk).mono ?_
  rintro e w2 ⟨rfl, r2⟩
  dsimp only
  exact ⟨rfl, rfl, r2.one⟩
 rw [if_neg hb]
 have HB := hid hb
 have hgd := PAR_good (T := T) (E := E) (p := .prim (d + 1)) (i := i + 1) (N := Q.map (·.1)) trivial hi
 obtain ⟨Res, hRes⟩ : ∃ r, Hid (PAR T E (.prim (d + 1)) (i + 1) (Q.map (·.1)) = r) := ⟨_, rfl⟩
 rw [hRes.out] at hgd ⊢
 have HG := hid hgd
 obtain ⟨y0, y1, y2, y3, y4, y5⟩ := (rR_see h0.out).five'
 clear hb hgd; go_enter Tryz.func91, Tryz.ntmps91
 go_wp2_with fail; refine (enter_ok T E k g cp (i + 1) d v Q _ X B (kd T i) (ta T E i) (ti T i) (tx T i) x _ h0.out (Or.inl HB.out) hd).mono ?_
 rintro e w2 ⟨rfl, r2⟩
 have h2 := hid r2
 clear r2 y0 y1 y2 y3 y4 y5; go_wp2_with fail; refine (HP.out (d + 1) v Q _ _ h2.out (by omega) (by omega) (fun h => absurd (show d = 40 by omega) HB.out)).mono ?_
 rw [hRes.out]
 clear hRes HP; cases Res with
 | error ca =>
  obtain ⟨c, a⟩ := ca
  rintro e w3 ⟨rfl, r3⟩
  dsimp only
  exact ⟨rfl, rfl, r3.one⟩
 | ok y =>
  obtain ⟨y, j, M⟩ := y
  obtain ⟨c, hc⟩ : ∃ c, y.headD 0 = c := ⟨_, rfl⟩
  have hlt := HG.out.okv rfl
  rintro e w3 ⟨rfl, v3, Q3, rfl, r3⟩
  rw [hc]
  have HC := hid hc
  have h3 := hid r3
  simp only [List.length_map] at hlt
  have hlo : i + 1 + 1 ≤ j := hlt.1
  have hjT := hlt.2.1
  have hq3 : Q3.length ≤ 2 * j := by omega
  clear h2 r3 hc h0 hlt HG; go_wp2_with fail; refine (leave_any T E k g cp j d v3 Q3 _ X B _ h3.out hd).mono ?_
  rintro e w4 ⟨rfl, r4⟩
  have h4 := hid r4
  obtain ⟨y0, y1, y2, y3, y4, y5⟩ := (rR_see r4).five'
  clear h3 r4; go_wp2_with fail; refine (turnNamed_any (tx T i) _ (EV.y.rs h4.out EV.b)).mono ?_
  rintro e w5 ⟨rfl, hw5⟩
  subst hw5
  obtain ⟨op, hop⟩ : ∃ op, Hid (turnOf (tx T i) = op) := ⟨_, rfl⟩
  rw [hop.out]
  have h5 := hid (rR_kids (rR_less h4.out) [c] (by simp))
  clear y0 y1 y2 y3 y4 y5 h4; go_wp2_with fail; refine (add_any T E k g cp j d v3 Q3 P X B 9 op ⟨#[]⟩ [c] (some ⟨w5.heap.size, 0, none⟩) 1 _ h5.out (by have := EV.l; omega)).mono ?_
  rintro e w6 ⟨rfl, v6, r6⟩
  have h6 := hid r6
  clear r6 h5; go_wp2_with fail; go_ret; have hfin : PRes.then (.ok (y, j, Q3.map (·.1))) (fun y j M => pNode (nd 9 nil (turnOf (tx T i)) [y.headD 0]) j M) = .ok ([(Q3.length : Int)], j, Q3.map (·.1) ++ [nd 9 nil op [c]]) := by
   rw [then_ok, HC.out, hop.out]
   unfold pNode
   rw [List.length_map]
  rw [hfin]
  exact ⟨rfl, v6, _, by simp [nil], h6.out⟩
end Go.Proofs.YtkkofminndboaaaGreatDoor
