import Derived.Test.YtbgeobpdojmdaaaGreatSq10
import Derived.Deep.RegionLaw
import Derived.Laws.AppendOwn
import Derived.RegionTactic
import Derived.BigRegion
namespace Go.Proofs.YtbgeobpdojmdaaaGreat
set_option linter.unusedVariables false
set_option linter.unusedSimpArgs false
section
open Go.RowKit Go.Maps Go.WideMaps
def goodAt (L : List (ByteArray × Int)) (i : Nat) : Prop := nameB (dAt L i).1 = true ∧ 1 ≤ (dAt L i).2 ∧ (dAt L i).2 ≤ 4 ∧ ∀ j, j < i → ¬ (dAt L j).1 = (dAt L i).1
instance (L : List (ByteArray × Int)) (i : Nat) : Decidable (goodAt L i) := by unfold goodAt; infer_instance
def okL (L : List (ByteArray × Int)) : Bool := decide (∀ i, i < L.length → goodAt L i)
def okR (A B C : List (ByteArray × Int)) : Bool := decide (A.length ≤ 12) && decide (B.length ≤ 12) && decide (C.length ≤ 12) && okL (A ++ B ++ C)
theorem DRow.shape {w : World} {B : Nat} {v : Value} {L : List (ByteArray × Int)} (h : DRow w B v L) : ∃ s c, v = .slice s L.length c ∧ Decls w s L := by
 have h0 := h
 rcases h.2 with ⟨h1, h2⟩ | ⟨g, cap, cur, rfl, hb, hg, r⟩
 ·
  have hL : L = [] := List.length_eq_zero_iff.1 h2
  exact ⟨none, 0, by rw [h1, hL]; rfl, Or.inl hL⟩
 exact ⟨_, cap, rfl, h0.decls⟩
theorem own0d {w : World} {B n : Nat} (h : Blk w n #[] 113) (hB : B ≤ n) : DRow w B (.slice (some ⟨n, 0, none⟩) 0 0) [] :=
 ⟨by simp [dcells], Or.inr ⟨n, 0, #[], rfl, hB, h, Nat.le_refl _, by unfold maxLen; omega, by simp, by simp [dcells]⟩⟩
theorem dcells_at {w : World} {b o : Nat} {M : List (ByteArray × Int)} (h : Decls w (some ⟨b, o, none⟩) M) : ∀ j u, (dcells M)[j]? = some u → w.cell? ((⟨b, o, none⟩ : Addr).add j) = some u := by
 intro j u hu
 have hj : j < M.length * 2 := by rw [← dcells_len]; exact (List.getElem?_eq_some_iff.1 hu).1
 have hi : j / 2 < M.length := by omega
 obtain ⟨b', o', e, _, c1, c2⟩ := h.get hi
 simp only [Option.some.injEq, Addr.mk.injEq, and_true] at e
 obtain ⟨rfl, rfl⟩ := e
 obtain ⟨e1, e2⟩ := dcells_get M (j / 2) _ (dAt_some hi)
 rw [show (⟨b, o, none⟩ : Addr).add j = ⟨b, o + j, none⟩ by simp [Addr.add]]
 rcases Nat.mod_two_eq_zero_or_one j with h' | h'
 ·
  rw [show j = 2 * (j / 2) by omega, e1] at hu
  rw [show o + j = o + j / 2 * 2 by omega, c1]; exact hu
 rw [show j = 2 * (j / 2) + 1 by omega, e2] at hu
 rw [show o + j = o + j / 2 * 2 + 1 by omega, c2]; exact hu
theorem dcells_one (M : List (ByteArray × Int)) : ∀ u ∈ dcells M, u.oneCell' = true := by
 intro u hu
 simp only [dcells, List.mem_flatMap, List.mem_cons, List.not_mem_nil, or_false] at hu
 obtain ⟨p, _, rfl | rfl⟩ := hu <;> rfl
theorem step_append_decl {ops : Array Oper} {o : Oper} {a : Act} {w : World} {K : Act → World → Prop} {Q : Exit → Act → World → Prop} {E : Prop}
  (hg : o.guard = none) (s x : Operand) (hop : o.op = Op.call { callee := Callee.builtin Builtin.append, args := #[s, x], argTypes := #[45, 45] })
  (B : Nat) (v : Value) (L : List (ByteArray × Int)) (hs : a.eval s = v) (hv : DRow w B v L)
  (pb po c : Nat) (M : List (ByteArray × Int)) (hx : a.eval x = .slice (some ⟨pb, po, none⟩) M.length c) (hM : Decls w (some ⟨pb, po, none⟩) M) (hl : L.length + M.length ≤ 48) (hB : B ≤ w.heap.size)
  (hK : ∀ s' c' w', DRow w' B (.slice s' (L.length + M.length) c') (L ++ M) → Decls w' s' (L ++ M) → w.grownBy w' v.ownBlock → K (a.put o.dst (.slice s' (L.length + M.length) c')) w') :
  if Region.wanted o (yielded ops a.tmps) = true then Oper.wp Tryz.prog o a w K Q else E := by
 have hw : Region.wanted o (yielded ops a.tmps) = true := by simp [Region.wanted, hg]
 rw [if_pos hw]
 obtain ⟨i0, hi, hz0, hz1, hz2⟩ := info_parts Tryz.infoD
 obtain ⟨v', w', hrun, r1, r2, _⟩ := run_append_own (P := Tryz.prog) w B 45 o.type 113 i0 (.agg #[.string ByteArray.empty, .int .i64 0]) 2 24 Tryz.underlying45 hi hz0 hz1 hz2 rfl (by decide) v L.length (dcells L) hv ⟨pb, po, none⟩ M.length c (dcells M) (dcells_len M) (dcells_at hM) (dcells_one M) (by unfold maxLen; omega) (by omega) hB
 have r1' : DRow w' B v' (L ++ M) := by
  unfold DRow
  rw [dcells_app, List.length_append]
  exact r1
 obtain ⟨s', c', rfl, hd⟩ := r1'.shape
 rw [List.length_append] at r1' hrun
 unfold Oper.wp
 simp [execOp, hop, resolve, invoke, builtin, hs, hx, hrun, Result.andThen]
 exact hK s' c' w' r1' hd r2
structure Sr (w : World) (A : Array Value) (X : World) : Prop where
 l : Below w.heap.size w X
 k : Blk X w.heap.size A 47
theorem Sr.alloc {w X : World} {A : Array Value} (h : Sr w A X) (o : Obj) : Sr w A (X.alloc o) := ⟨bl_alloc h.l o, h.k.alloc o⟩
theorem Sr.drew {w X : World} {A : Array Value} (h : Sr w A X) : Sr w A X.drew := ⟨bl_drew h.l, h.k⟩
theorem Sr.grow {w X Y : World} {A : Array Value} {v : Value} {L : List (ByteArray × Int)} (h : Sr w A X) (hv : DRow X (w.heap.size + 1) v L) (hg : X.grownBy Y v.ownBlock) : Sr w A Y :=
 ⟨h.l.grown hg h.l.size (fun k e => by have := (World.ownsRow.lt hv k e).1; omega), by
  have := h.k
  unfold Blk at this ⊢
  rw [hg.block _ h.k.lt (fun e => by have := (World.ownsRow.lt hv _ e.symm).1; omega)]; exact this⟩
theorem Sr.lt {w X : World} {A : Array Value} (h : Sr w A X) : w.heap.size + 1 ≤ X.heap.size := h.k.lt
theorem own0s {w X : World} {A : Array Value} (h : Sr w A X) : DRow (X.alloc (.cells #[] 113)) (w.heap.size + 1) (.slice (some ⟨X.heap.size, 0, none⟩) 0 0) [] := own0d (Blk.new _ _ _) h.lt
theorem DRow.drew {w : World} {B : Nat} {v : Value} {L : List (ByteArray × Int)} (h : DRow w B v L) : DRow w.drew B v L := h
set_option maxHeartbeats 8000000 in
theorem specRegOk_all (p1 q1 c1 p2 q2 c2 p3 q3 c3 : Nat) (A B C : List (ByteArray × Int)) (w : World) (hA : Decls w (some ⟨p1, q1, none⟩) A) (hB : Decls w (some ⟨p2, q2, none⟩) B) (hC : Decls w (some ⟨p3, q3, none⟩) C)
  (lA : A.length ≤ 12) (lB : B.length ≤ 12) (lC : C.length ≤ 12) (L : List (ByteArray × Int)) (hL : Hid (A ++ B ++ C = L)) (hlen : Hid (A.length + B.length + C.length = L.length)) (hlen2 : L.length ≤ 36) :
  Calls Tryz.prog 52 #[.agg #[.slice (some ⟨p1, q1, none⟩) A.length c1, .slice (some ⟨p2, q2, none⟩) B.length c2, .slice (some ⟨p3, q3, none⟩) C.length c3]] w fun e w' => e = .returned (.bool (okL L)) ∧ Below w.heap.size w w' := by
 have hal := alloc_old
 have haf := alloc_oldf
 have k0 := Blk.new w #[.slice (some ⟨p1, q1, none⟩) A.length c1, .slice (some ⟨p2, q2, none⟩) B.length c2, .slice (some ⟨p3, q3, none⟩) C.length c3] 47
 have S0 : Sr w _ _ := ⟨bl_alloc (Below.refl _ w) _, k0⟩
 obtain ⟨x0, x1, x2, x3⟩ := k0.three
 have t1 : decide ((12 : Int) < (A.length : Int)) = false := by simp; omega
 have t2 : decide ((12 : Int) < (B.length : Int)) = false := by simp; omega
 have t3 : decide ((12 : Int) < (C.length : Int)) = false := by simp; omega
 go_enter Tryz.func52, Tryz.ntmps52
 go_wp2_with fail; clear t1 t2 t3 k0; generalize hX : w.alloc (.cells #[.slice (some ⟨p1, q1, none⟩) A.length c1, .slice (some ⟨p2, q2, none⟩) B.length c2, .slice (some ⟨p3, q3, none⟩) C.length c3] 47) = X at S0 x0 x1 x2 x3 ⊢
 clear hX; go_cut [3] (fun v wx => ∃ s c, v = .slice s L.length c ∧ Decls wx s L ∧ Below w.heap.size w wx)
 case first =>
  go_region_law (first
   | (refine step_append_decl rfl (.tmp 22) (.tmp 24) rfl (w.heap.size + 1) _ [] rfl (by first | exact own0s S0 | exact DRow.drew (own0s S0) | exact own0s (Sr.drew S0)) p1 q1 c1 A rfl (hA.later (Sr.l (w := w) (by first | exact Sr.alloc S0 _ | exact Sr.drew (Sr.alloc S0 _)))) (by simp; omega) (Nat.le_trans (Sr.lt (w := w) (by first | exact Sr.alloc S0 _ | exact Sr.drew (Sr.alloc S0 _))) (Nat.le_refl _)) ?_; intro s5 c5 w5 hv5 hd5 hg5; have S5 := Sr.grow (by first | exact Sr.alloc S0 _ | exact Sr.drew (Sr.alloc S0 _)) (by first | exact own0s S0 | exact DRow.drew (own0s S0)) hg5; rw [List.nil_append] at hv5 hd5; rw [show ([] : List (ByteArray × Int)).length + A.length = A.length by simp] at hv5 ⊢; obtain ⟨x0, x1, x2, x3⟩ := S5.k.three)
   | (refine step_append_decl rfl (.tmp 25) (.tmp 27) rfl (w.heap.size + 1) _ A rfl hv5 p2 q2 c2 B rfl (hB.later S5.l) (by omega) S5.lt ?_; intro s6 c6 w6 hv6 hd6 hg6; have S6 := Sr.grow S5 hv5 hg6; obtain ⟨x0, x1, x2, x3⟩ := S6.k.three)
   | (refine step_append_decl rfl (.tmp 28) (.tmp 30) rfl (w.heap.size + 1) _ (A ++ B) rfl hv6 p3 q3 c3 C rfl (hC.later S6.l) (by simp; omega) S6.lt ?_; intro s7 c7 w7 hv7 hd7 hg7; have S7 := Sr.grow S6 hv6 hg7; obtain ⟨x0, x1, x2, x3⟩ := S7.k.three))
  all_goals
   go_wp2_with fail; go_meet; exact ⟨_, _, by rw [← hlen.out], by rw [← hL.out]; exact hd7, S7.l⟩
 obtain ⟨s, c, rfl, hd, hl⟩ := hcut
 clear hL hlen hA hB hC lA lB lC x0 x1 x2 x3 S0; go_wp2_with fail; go_loopw [4] (fun i wr => ∃ k : Nat, k ≤ L.length ∧ i = .int .i64 k ∧ Hid (∀ i, i < k → goodAt L i) ∧ Decls wr s L ∧ Below w.heap.size w wr) (fun i _ => L.length - (intOf i).toNat)
 case atStart => exact ⟨0, Nat.zero_le _, rfl, fun i hi => absurd hi (by omega), hd, hl⟩
 clear hd hl; obtain ⟨k, hk, rfl, hall, hd, hl⟩ := hrel
 by_cases hlt : k < L.length
 ·
  obtain ⟨b, o, rfl, hp, e1, e2⟩ := hd.get hlt
  obtain ⟨p, hp0⟩ : ∃ p, Hid (dAt L k = p) := ⟨_, rfl⟩
  rw [hp0.out] at e1 e2
  obtain ⟨p1, p2⟩ := p
  cases hn : nameB p1
  ·
   have E : Hid (okL L = false) := by
    unfold Hid okL
    simp only [decide_eq_false_iff_not]
    intro h
    have := (h k hlt).1
    rw [hp0.out, hn] at this
    cases this
   go_wp2_with (go_at_call 91; refine (specNameOk_any _ _).mono ?_; rintro e w2 ⟨rfl, hb2⟩; rw [hn])
   go_ret; exact ⟨ret_boolw E.out.symm, bl_trans hl hb2⟩
  cases hi : (decide ((1 : Int) ≤ p2) && decide (p2 ≤ 4))
  ·
   have E : Hid (okL L = false) := by
    unfold Hid okL
    simp only [decide_eq_false_iff_not]
    intro h
    obtain ⟨_, a, b, _⟩ := h k hlt
    rw [hp0.out] at a b
    simp at hi
    exact absurd (hi a) (by omega)
   go_wp2_with fail; refine (specNameOk_any _ _).mono ?_
   rintro e w2 ⟨rfl, hb2⟩
   rw [hn]
   have f1 := (hb2.cell (p := ⟨b, o + k * 2, none⟩) hp).trans e1
   have f2 := (hb2.cell (p := ⟨b, o + k * 2 + 1, none⟩) hp).trans e2
   go_wp2_with (go_at_call 58; refine (l1In_any _ _ _ _).mono ?_; rintro e w' ⟨rfl, rfl⟩; rw [hi])
   go_ret; exact ⟨ret_boolw E.out.symm, bl_trans hl hb2⟩
  have hi' : Hid (1 ≤ p2 ∧ p2 ≤ 4) := by simpa [Hid] using hi
  go_wp2_with fail; refine (specNameOk_any _ _).mono ?_
  rintro e w2 ⟨rfl, hb2⟩
  rw [hn]
  have f1 := (hb2.cell (p := ⟨b, o + k * 2, none⟩) hp).trans e1
  have f2 := (hb2.cell (p := ⟨b, o + k * 2 + 1, none⟩) hp).trans e2
  have hd2 := hd.later hb2
  have hl2 := bl_trans hl hb2
  have hp2 : b < w2.heap.size := Nat.lt_of_lt_of_le hp hb2.size
  clear e1 e2 hd hb2 hl hp; go_wp2_with (go_at_call 58; refine (l1In_any _ _ _ _).mono ?_; rintro e w' ⟨rfl, rfl⟩; rw [hi])
  clear hi; go_loopw [5] (fun i wy => ∃ m : Nat, m ≤ k ∧ i = .int .i64 m ∧ Hid (∀ j, j < m → ¬ (dAt L j).1 = p1) ∧ Decls wy (some ⟨b, o, none⟩) L ∧ wy.cell? ⟨b, o + k * 2, none⟩ = some (.string p1) ∧ Below w.heap.size w wy) (fun i _ => k - (intOf i).toNat)
  case atStart => exact ⟨0, Nat.zero_le _, rfl, fun j hj => absurd hj (by omega), hd2, f1, hl2⟩
  clear f1 f2 hd2 hl2 hp2; obtain ⟨m, hm, rfl, hno, hd2, f1, hl2⟩ := hrel
  by_cases hlt2 : m < k
  ·
   obtain ⟨b', o', e, hp, e1, e2⟩ := hd2.get (show m < L.length by omega)
   simp only [Option.some.injEq, Addr.mk.injEq, and_true] at e
   obtain ⟨rfl, rfl⟩ := e
   obtain ⟨q, hq0⟩ : ∃ p, Hid (dAt L m = p) := ⟨_, rfl⟩
   rw [hq0.out] at e1 e2
   obtain ⟨q1, q2⟩ := q
   have i1 : (m : Int) < (L.length : Int) := by omega
   have i2 : (k : Int) < (L.length : Int) := by omega
   by_cases hqe : q1 = p1
   ·
    have E : Hid (okL L = false) := by
     unfold Hid okL
     simp only [decide_eq_false_iff_not]
     intro h
     obtain ⟨_, _, _, h4⟩ := h k hlt
     have := h4 m hlt2
     rw [hp0.out, hq0.out] at this
     exact this hqe
    have hz := toList_eq' hqe
    go_wp2_with fail; go_quiet (fail)
    go_wp2_with fail; go_ret; exact ⟨ret_boolw E.out.symm, by (repeat (first | with_reducible exact Below.refl _ _ | with_reducible refine bl_alloc ?_ _ | with_reducible refine bl_drewN ?_ _ | with_reducible refine bl_drew ?_ | with_reducible refine bl_setCell ?_ (by first | exact Nat.le_refl _ | (dsimp only; omega) | (simp <;> omega)) _ | with_reducible refine bl_trans ?_ (by with_reducible assumption)))⟩
   have hno' : Hid (∀ j, j < m + 1 → ¬ (dAt L j).1 = p1) := by
    intro j hj
    by_cases h : j = m
    ·
     subst h; rw [hq0.out]; exact hqe
    exact hno.out j (by omega)
   have hz := toList_ne hqe
   go_wp2_with fail; go_quiet (fail)
   go_wp2_with fail; go_roundw
   case rel => exact ⟨m + 1, by omega, by go_num, hno', hd2.later blq, f1, by (repeat (first | with_reducible exact Below.refl _ _ | with_reducible refine bl_alloc ?_ _ | with_reducible refine bl_drewN ?_ _ | with_reducible refine bl_drew ?_ | with_reducible refine bl_setCell ?_ (by first | exact Nat.le_refl _ | (dsimp only; omega) | (simp <;> omega)) _ | with_reducible refine bl_trans ?_ (by with_reducible assumption)))⟩
   case measure => simp [intOf]; omega
  have hall' : Hid (∀ i, i < k + 1 → goodAt L i) := by
   intro i hi
   by_cases h : i = k
   ·
    subst h
    unfold goodAt
    rw [hp0.out]
    exact ⟨hn, hi'.out.1, hi'.out.2, fun j hj => hno.out j (by omega)⟩
   exact hall.out i (by omega)
  go_wp2_with fail; go_roundw
  case rel => exact ⟨k + 1, by omega, by go_num, hall', hd2, hl2⟩
  case measure => simp [intOf]; omega
 have E : Hid (okL L = true) := by
  unfold Hid okL
  simp only [decide_eq_true_eq]
  exact fun i hi => hall.out i (by omega)
 go_wp2_with fail; go_ret; exact ⟨ret_boolw E.out.symm, hl⟩
end
section
open Go.RowKit Go.Maps Go.WideMaps
theorem okR_len {A B C : List (ByteArray × Int)} (h : ¬ (A.length ≤ 12 ∧ B.length ≤ 12 ∧ C.length ≤ 12)) : okR A B C = false := by
 unfold okR
 cases hh : (decide (A.length ≤ 12) && decide (B.length ≤ 12) && decide (C.length ≤ 12))
 ·
  simp
 simp at hh; omega
set_option maxHeartbeats 2000000 in
theorem specRegOk_any (p1 q1 c1 p2 q2 c2 p3 q3 c3 : Nat) (A B C : List (ByteArray × Int)) (w : World) (hA : Decls w (some ⟨p1, q1, none⟩) A) (hB : Decls w (some ⟨p2, q2, none⟩) B) (hC : Decls w (some ⟨p3, q3, none⟩) C) :
  Calls Tryz.prog 52 #[.agg #[.slice (some ⟨p1, q1, none⟩) A.length c1, .slice (some ⟨p2, q2, none⟩) B.length c2, .slice (some ⟨p3, q3, none⟩) C.length c3]] w fun e w' => e = .returned (.bool (okR A B C)) ∧ Below w.heap.size w w' := by
 have hal := alloc_old
 have haf := alloc_oldf
 by_cases hh : A.length ≤ 12 ∧ B.length ≤ 12 ∧ C.length ≤ 12
 ·
  obtain ⟨lA, lB, lC⟩ := hh
  have e : okR A B C = okL (A ++ B ++ C) := by simp [okR, lA, lB, lC]
  rw [e]
  exact specRegOk_all p1 q1 c1 p2 q2 c2 p3 q3 c3 A B C w hA hB hC lA lB lC _ rfl (by simp [Hid]; omega) (by simp; omega)
 have E : Hid (okR A B C = false) := okR_len hh
 obtain ⟨x0, x1, x2, x3⟩ := (Blk.new w #[.slice (some ⟨p1, q1, none⟩) A.length c1, .slice (some ⟨p2, q2, none⟩) B.length c2, .slice (some ⟨p3, q3, none⟩) C.length c3] 47).three
 cases t1 : decide ((12 : Int) < (A.length : Int))
 ·
  cases t2 : decide ((12 : Int) < (B.length : Int))
  ·
   have t3 : decide ((12 : Int) < (C.length : Int)) = true := by simp at t1 t2 ⊢; omega
   go_enter Tryz.func52, Tryz.ntmps52
   go_wp2_with fail; go_ret; exact ⟨ret_boolw E.out.symm, by (repeat (first | with_reducible exact Below.refl _ _ | with_reducible refine bl_alloc ?_ _ | with_reducible refine bl_drewN ?_ _ | with_reducible refine bl_drew ?_ | with_reducible refine bl_setCell ?_ (by first | exact Nat.le_refl _ | (dsimp only; omega) | (simp <;> omega)) _ | with_reducible refine bl_trans ?_ (by with_reducible assumption)))⟩
  go_enter Tryz.func52, Tryz.ntmps52
  go_wp2_with fail; go_ret; exact ⟨ret_boolw E.out.symm, by (repeat (first | with_reducible exact Below.refl _ _ | with_reducible refine bl_alloc ?_ _ | with_reducible refine bl_drewN ?_ _ | with_reducible refine bl_drew ?_ | with_reducible refine bl_setCell ?_ (by first | exact Nat.le_refl _ | (dsimp only; omega) | (simp <;> omega)) _ | with_reducible refine bl_trans ?_ (by with_reducible assumption)))⟩
 go_enter Tryz.func52, Tryz.ntmps52
 go_wp2_with fail; go_ret; exact ⟨ret_boolw E.out.symm, by (repeat (first | with_reducible exact Below.refl _ _ | with_reducible refine bl_alloc ?_ _ | with_reducible refine bl_drewN ?_ _ | with_reducible refine bl_drew ?_ | with_reducible refine bl_setCell ?_ (by first | exact Nat.le_refl _ | (dsimp only; omega) | (simp <;> omega)) _ | with_reducible refine bl_trans ?_ (by with_reducible assumption)))⟩
def anyElem (v : Value) : Option (DataW Value × List MemPlace) := some (.held v, [])
structure Pl where
 n : ByteArray
 k : Int
 s : Int
 a : Int
def Pl.val (p : Pl) : Value := .agg #[.string p.n, .int .i64 p.k, .int .i64 p.s, .int .i64 p.a]
def plMap : List Pl → DataW Value → DataW Value
 | [], D => D
 | p :: r, D => plMap r (D.put (wkey p.n) (.held p.val))
theorem plMap_snoc : ∀ (l : List Pl) (p : Pl) (D : DataW Value), plMap (l ++ [p]) D = (plMap l D).put (wkey p.n) (.held p.val)
 | [], p, D => rfl
 | q :: r, p, D => plMap_snoc r p _
theorem has_putv {D : DataW Value} (hD : IsMap D) (s t : ByteArray) (d : DataW Value) : Maps.has (D.put (wkey s) d) (wkey t) = (decide (s = t) || Maps.has D (wkey t)) := by
 by_cases h : s = t
 ·
  subst h
  rw [has_put_same hD (by trivial)]; simp
 have hne : wkey t ≠ wkey s := fun e => h (wkey_inj e).symm
 rw [has_put_other hne]; simp [h]
theorem has_plMap : ∀ (l : List Pl) (D : DataW Value) (t : ByteArray), IsMap D → Maps.has (plMap l D) (wkey t) = (l.any (fun p => decide (p.n = t)) || Maps.has D (wkey t))
 | [], D, t, h => by simp [plMap]
 | s :: r, D, t, h => by
  rw [plMap, has_plMap r _ t (h.put _ _), has_putv h]
  simp only [List.any_cons]
  cases decide (s.n = t) <;> cases r.any (fun p => decide (p.n = t)) <;> simp
theorem zeroPl (w : World) : (zeroValue 205).run Tryz.prog w = .ok (.agg #[.string ByteArray.empty, .int .i64 0, .int .i64 0, .int .i64 0]) w := by kernel_rfl
theorem skeyed2 : Keyed Tryz.prog 9 := string_keyed Tryz.underlying9
theorem pl_look {w : World} {b n : Nat} {l : List Pl} (h : w.ownsMap Tryz.prog 9 anyElem b n (plMap l (.map []))) (s : ByteArray) (hs : s.size ≤ maxLen) :
  ∃ v, (Instr.lookup 178 (.map (some b)) (.string s) true).run Tryz.prog w = .ok (.tuple #[v, .bool (l.any (fun p => decide (p.n = s)))]) w ∧ .held v = (plMap l (.map [])).atKey (wkey s) (.held (.agg #[.string ByteArray.empty, .int .i64 0, .int .i64 0, .int .i64 0])) := by
 obtain ⟨v, ps, hrun, hv⟩ := h.look_ok (zd := .held (.agg #[.string ByteArray.empty, .int .i64 0, .int .i64 0, .int .i64 0])) (zp := []) skeyed2 Tryz.underlying178 (zeroPl w) rfl (kl := wkey s) (keyOf_string_mk Tryz.underlying9 hs)
 rw [has_plMap _ _ _ isMap_empty] at hrun
 simp only [Maps.has, List.any_nil, Bool.or_false] at hrun
 simp only [anyElem, Option.some.injEq, Prod.mk.injEq] at hv
 exact ⟨v, hrun, hv.1⟩
end
section
open Go.RowKit
set_option maxHeartbeats 400000 in
theorem isKind_any (k : Int) (w : World) :
  Calls Tryz.prog 140 #[.int .i64 k] w fun e w' => e = .returned (.bool (decide (1 ≤ k) && decide (k ≤ 4))) ∧ w' = w := by
 by_cases h1 : 1 ≤ k
 ·
  have E : Hid (decide (k ≤ 4) = (decide (1 ≤ k) && decide (k ≤ 4))) := by simp [Hid, h1]
  go_enter Tryz.func140, Tryz.ntmps140
  go_wp2
  go_ret; exact ⟨ret_boolw E.out, rfl⟩
 have E : Hid (false = (decide (1 ≤ k) && decide (k ≤ 4))) := by simp [Hid, h1]
 go_enter Tryz.func140, Tryz.ntmps140
 go_wp2
 go_ret; exact ⟨ret_boolw E.out, rfl⟩
end
end Go.Proofs.YtbgeobpdojmdaaaGreat
