import Derived.Test.YtbgeobpdojmdaaaGreatSq19
namespace Go.Proofs.YtbgeobpdojmdaaaGreat
set_option linter.unusedVariables false
set_option linter.unusedSimpArgs false
section
open Go.RowKit Go.Maps Go.WideMaps
set_option maxRecDepth 100000
def rowsOf (T : List Tab) : List E2 := T.flatMap (·.rows)
def onceB (LV : List E2) (T : List Tab) : Bool := decide ((rowsOf T).Nodup ∧ (∀ x ∈ rowsOf T, x ∈ LV) ∧ (rowsOf T).length = LV.length)
def Pos (T : List Tab) (x s : E2) : Prop := ∃ (i j : Nat) (t : Tab), s = ((i : Int), (j : Int)) ∧ T[i]? = some t ∧ t.rows[j]? = some x
theorem rows_pre {T : List Tab} {m : Nat} {t : Tab} (h : T[m]? = some t) : rowsOf T = rowsOf (T.take m) ++ (t.rows ++ rowsOf (T.drop (m + 1))) := by
 have hm := (List.getElem?_eq_some_iff.1 h).1
 have e : T = T.take m ++ (t :: T.drop (m + 1)) := by
  have h1 : T.drop m = t :: T.drop (m + 1) := by
   rw [List.drop_eq_getElem_cons hm]
   have := (List.getElem?_eq_some_iff.1 h).2
   rw [this]
  rw [← h1, List.take_append_drop]
 conv => lhs; rw [e]
 simp [rowsOf]
theorem rows_pre2 {T : List Tab} {m j : Nat} {t : Tab} {x : E2} (h : T[m]? = some t) (hx : t.rows[j]? = some x) : ∃ S, rowsOf T = (rowsOf (T.take m) ++ t.rows.take j) ++ x :: S := by
 have hj := (List.getElem?_eq_some_iff.1 hx).1
 refine ⟨t.rows.drop (j + 1) ++ rowsOf (T.drop (m + 1)), ?_⟩
 rw [rows_pre h]
 have e : t.rows = t.rows.take j ++ (x :: t.rows.drop (j + 1)) := by
  have h1 : t.rows.drop j = x :: t.rows.drop (j + 1) := by
   rw [List.drop_eq_getElem_cons hj]
   have := (List.getElem?_eq_some_iff.1 hx).2
   rw [this]
  rw [← h1, List.take_append_drop]
 conv => lhs; rw [e]
 simp
theorem onceB_out {LV : List E2} {T : List Tab} {m j : Nat} {t : Tab} {x : E2} (h : T[m]? = some t) (hx : t.rows[j]? = some x) (hn : ¬ x ∈ LV) : false = onceB LV T := by
 obtain ⟨S, hS⟩ := rows_pre2 h hx
 symm
 rw [onceB, decide_eq_false_iff_not]
 rintro ⟨_, h2, _⟩
 exact hn (h2 x (by rw [hS]; simp))
theorem onceB_twice {LV : List E2} {T : List Tab} {m j : Nat} {t : Tab} {x : E2} (h : T[m]? = some t) (hx : t.rows[j]? = some x) (hn : x ∈ rowsOf (T.take m) ++ t.rows.take j) : false = onceB LV T := by
 obtain ⟨S, hS⟩ := rows_pre2 h hx
 symm
 rw [onceB, decide_eq_false_iff_not]
 rintro ⟨h1, _, _⟩
 rw [hS, List.nodup_append] at h1
 exact h1.2.2 x hn x (by simp) rfl
theorem Pos.ne {T : List Tab} {x s : E2} (h : Pos T x s) : ¬ s.1 = -1 := by
 obtain ⟨i, j, t, rfl, _⟩ := h
 simp only
 omega
structure Std (LV : List E2) (T : List Tab) (R : List E2) (f : E2 → Option E2) : Prop where
 out : ∀ x, ¬ x ∈ LV → f x = none
 free : ∀ x, x ∈ LV → ¬ x ∈ R → f x = some (-1, -1)
 taken : ∀ x, x ∈ R → ∃ s, f x = some s ∧ Pos T x s
 nodup : R.Nodup
 sub : ∀ x ∈ R, x ∈ LV
theorem Std.put {LV : List E2} {T : List Tab} {R : List E2} {f : E2 → Option E2} (h : Std LV T R f) {x s : E2} (hx : x ∈ LV) (hn : ¬ x ∈ R) (hp : Pos T x s) : Std LV T (R ++ [x]) (fun y => if y = x then some s else f y) := by
 refine ⟨fun y hy => ?_, fun y hy hyR => ?_, fun y hy => ?_, ?_, fun y hy => ?_⟩
 ·
  by_cases e : y = x
  ·
   subst e; exact absurd hx hy
  simp [e, h.out y hy]
 ·
  simp at hyR
  simp [hyR.2, h.free y hy hyR.1]
 ·
  by_cases e : y = x
  ·
   subst e; exact ⟨s, by simp, hp⟩
  simp [e] at hy
  simpa [e] using h.taken y hy
 ·
  rw [List.nodup_append]
  refine ⟨h.nodup, by simp, fun a ha b hb e => ?_⟩
  simp at hb
  subst hb
  subst e
  exact hn ha
 rcases List.mem_append.1 hy with hy | hy
 ·
  exact h.sub y hy
 simp at hy; subst hy; exact hx
theorem makeStands (n : Int) (w : World) : (Instr.makeMap 86 (some (.int .i64 n))).run Tryz.prog w = .ok (.map (some w.heap.size)) (w.alloc (.map #[] 0)) := by kernel_rfl
theorem take_rows {L : List E2} {k : Nat} {e : E2} (h : L[k]? = some e) : L.take (k + 1) = L.take k ++ [e] := by rw [List.take_add_one, h]; rfl
set_option maxHeartbeats 8000000 in
theorem eachOnce_any (s : Option Addr) (c : Nat) (LV : List E2) (st : Option Addr) (ct : Nat) (T : List Tab) (B Bt : Nat) (w : World) (hL : Els 2 cEnt w B s LV) (hT : Els 3 cTab w Bt st T) (hl : LV.length ≤ 1048576) (hk : kTabs T) (bL : ∀ x ∈ LV, bE x) (bT : ∀ t ∈ T, ∀ x ∈ t.rows, bE x) :
  Calls Tryz.prog 101 #[.slice s LV.length c, .slice st T.length ct] w fun e w' => (∃ v, e = .returned (.tuple #[v, .bool (onceB LV T)]) ∧ (onceB LV T = true → ∃ b n f, v = .map (some b) ∧ SM w' b n f ∧ Std LV T (rowsOf T) f ∧ w.heap.size ≤ b ∧ n ≤ 1099512676352) ∧ ∃ mb, v = .map mb) ∧ Below w.heap.size w w' := by
 have hal := alloc_old
 have haf := alloc_oldf
 have hmm := makeStands LV.length
 have K0 : Blk ((w.alloc (.cells #[.int .i64 (-1), .int .i64 (-1)] 170)).alloc (.map #[] 0)) w.heap.size #[.int .i64 (-1), .int .i64 (-1)] 170 := (Blk.new w _ _).alloc _
 have L0 : Below w.heap.size w ((w.alloc (.cells #[.int .i64 (-1), .int .i64 (-1)] 170)).alloc (.map #[] 0)) := bl_alloc (bl_alloc (Below.refl _ _) _) _
 have M0 : SM ((w.alloc (.cells #[.int .i64 (-1), .int .i64 (-1)] 170)).alloc (.map #[] 0)) (w.heap.size + 1) 0 (fun _ => none) := by
  have := World.ownsMap_made (w.alloc (.cells #[.int .i64 (-1), .int .i64 (-1)] 170)) Tryz.prog 42 anyElem
  rw [World.size_alloc] at this
  exact ⟨_, this, StM.empty⟩
 have BL : Hid (∀ x ∈ LV, bE x) := bL
 have BT : Hid (∀ t ∈ T, ∀ x ∈ t.rows, bE x) := bT
 have HL : Hid (Els 2 cEnt w B s LV) := hL
 have HT : Hid (Els 3 cTab w Bt st T) := hT
 have KT : Hid (∀ t ∈ T, kTab t) := hk.2
 have kl := hk.1
 clear bL bT hL hT hk; go_enter Tryz.func101, Tryz.ntmps101
 go_wp2_with fail; clear hmm; generalize hX : (w.alloc (.cells #[.int .i64 (-1), .int .i64 (-1)] 170)).alloc (.map #[] 0) = X at K0 L0 M0 ⊢
 clear hX; go_loopw [23] (fun i wr => ∃ (k : Nat) (f : E2 → Option E2), k ≤ LV.length ∧ i = .int .i64 k ∧ Hid ((∀ x, f x = if x ∈ LV.take k then some (-1, -1) else none) ∧ SM wr (w.heap.size + 1) k f ∧ Blk wr w.heap.size #[.int .i64 (-1), .int .i64 (-1)] 170 ∧ Below w.heap.size w wr)) (fun i _ => LV.length - (intOf i).toNat)
 case atStart => exact ⟨0, _, Nat.zero_le _, rfl, fun x => by simp, M0, K0, L0⟩
 clear K0 L0 M0; obtain ⟨k, f, hk, rfl, hN⟩ := hrel
 by_cases hlt : k < LV.length
 ·
  obtain ⟨e, he⟩ := get_some hlt
  obtain ⟨b, o, rfl, _, hp, e1, e2⟩ := eEnt_cells (HL.out.later cEnt_keeps hN.out.2.2.2) he
  have be := BL.out e (List.mem_of_getElem? he)
  have HTK : Hid (LV.take (k + 1) = LV.take k ++ [e]) := take_rows he
  have HBE : Hid (bE e) := be
  obtain ⟨x0, x1, x2⟩ := hN.out.2.2.1.two
  clear he be; go_wp2_with fail; have hb1 : Below wr.heap.size wr (wr.alloc (.cells #[.int .i64 e.1, .int .i64 e.2] 42)) := bl_alloc (Below.refl _ _) _
  obtain ⟨D, q1, q2⟩ := hN.out.2.1.later hb1
  refine upon_insert 86 42 170 ekeyed Tryz.underlying86 anyElem (w.heap.size + 1) k _ q1 (by unfold maxLen; omega) _ _ (ekey e) (keyOfE e HBE.out) (.held (stv (-1, -1))) [] rfl ?_
  intro w3 own3 gr3
  have hr : Hid ((∀ x, (fun x => if x = e then some (-1, -1) else f x) x = if x ∈ LV.take (k + 1) then some (-1, -1) else none) ∧ SM w3 (w.heap.size + 1) (k + 1) (fun x => if x = e then some (-1, -1) else f x) ∧ Blk w3 w.heap.size #[.int .i64 (-1), .int .i64 (-1)] 170 ∧ Below w.heap.size w w3) := by
   refine ⟨fun x => ?_, ⟨_, own3, q2.put HBE.out (-1, -1)⟩, (hN.out.2.2.1.later hb1).kept gr3 (by omega), ?_⟩
   ·
    rw [HTK.out]
    simp only [List.mem_append, List.mem_singleton]
    rw [hN.out.1 x]
    by_cases h1 : x = e <;> by_cases h2 : x ∈ LV.take k <;> simp [h1, h2]
   exact (bl_trans hN.out.2.2.2 hb1).grown gr3 (bl_trans hN.out.2.2.2 hb1).size (fun q hq => by cases hq; omega)
  clear own3 gr3 q1 q2 hb1 hN; go_wp2_with fail; go_roundw
  case rel => exact ⟨k + 1, _, by omega, by go_num, hr⟩
  case measure => simp [intOf]; omega
 have hk' : k = LV.length := by omega
 subst hk'
 have HS : Hid (Std LV T [] f) := by
  refine ⟨fun x hx => ?_, fun x hx _ => ?_, fun x hx => by simp at hx, by simp, fun x hx => by simp at hx⟩
  ·
   rw [hN.out.1 x]; simp [hx]
  rw [hN.out.1 x]; simp [hx]
 have HM : Hid (SM wr (w.heap.size + 1) LV.length f ∧ Blk wr w.heap.size #[.int .i64 (-1), .int .i64 (-1)] 170 ∧ Below w.heap.size w wr) := hN.out.2
 clear hN; go_wp2_with fail; go_loopw [10, 35] (fun ms i wr => ∃ (m n : Nat) (f : E2 → Option E2) (R : List E2), m ≤ T.length ∧ i = .int .i64 m ∧ ms = .int .i64 ((LV.length : Int) - R.length) ∧ Hid (R = rowsOf (T.take m) ∧ n = LV.length + R.length ∧ R.length ≤ m * 1048576 ∧ Std LV T R f ∧ SM wr (w.heap.size + 1) n f ∧ Blk wr w.heap.size #[.int .i64 (-1), .int .i64 (-1)] 170 ∧ Below w.heap.size w wr)) (fun _ i _ => T.length - (intOf i).toNat)
 case atStart => exact ⟨0, LV.length, f, [], Nat.zero_le _, rfl, by simp, by simp [rowsOf], by simp, by simp, HS.out, HM.out⟩
 clear HS HM; obtain ⟨m, n, f, R, hm, rfl, rfl, hN⟩ := hrel
 by_cases hlm : m < T.length
 ·
  obtain ⟨t, ht⟩ := get_some hlm
  obtain ⟨b, o, rfl, _, hp, s1, d1, s2, d2, s3, d3, e1, e2, e3, f1, f2, f3⟩ := eTab_cells HT.out ht
  have e1 := kcell hN.out.2.2.2.2.2.2 e1
  have e2 := kcell hN.out.2.2.2.2.2.2 e2
  have e3 := kcell hN.out.2.2.2.2.2.2 e3
  have HTm : Hid (T[m]? = some t) := ht
  have F2 : Hid (Els 2 cEnt w Bt s2 t.rows) := f2
  have hkr := (KT.out t (List.mem_of_getElem? ht)).2.1
  have BR : Hid (∀ x ∈ t.rows, bE x) := BT.out t (List.mem_of_getElem? ht)
  clear ht f1 f2 f3; go_wp2_with fail; have hb0 : Hid (Below wr.heap.size wr (wr.alloc (.cells #[.slice s1 t.cols.length d1, .slice s2 t.rows.length d2, .slice s3 t.cells.length d3] 119))) := bl_alloc (Below.refl _ _) _
  generalize hV : wr.alloc (.cells #[.slice s1 t.cols.length d1, .slice s2 t.rows.length d2, .slice s3 t.cells.length d3] 119) = V at hb0 ⊢
  clear hV e1 e2 e3; have HR : Hid (R = rowsOf (T.take m) ∧ n = LV.length + R.length ∧ R.length ≤ m * 1048576 ∧ Std LV T R f ∧ SM V (w.heap.size + 1) n f ∧ Blk V w.heap.size #[.int .i64 (-1), .int .i64 (-1)] 170 ∧ Below w.heap.size w V) := ⟨hN.out.1, hN.out.2.1, hN.out.2.2.1, hN.out.2.2.2.1, hN.out.2.2.2.2.1.later hb0.out, hN.out.2.2.2.2.2.1.later hb0.out, bl_trans hN.out.2.2.2.2.2.2 hb0.out⟩
  have HVw : Hid (w.heap.size + 1 < V.heap.size) := HR.out.2.2.2.2.1.lt
  clear hN hb0; go_loopw [10, 43] (fun ms i wr => ∃ (j n : Nat) (f : E2 → Option E2) (R : List E2), j ≤ t.rows.length ∧ i = .int .i64 j ∧ ms = .int .i64 ((LV.length : Int) - R.length) ∧ Hid (R = rowsOf (T.take m) ++ t.rows.take j ∧ n = LV.length + R.length ∧ R.length ≤ m * 1048576 + j ∧ Std LV T R f ∧ SM wr (w.heap.size + 1) n f ∧ Blk wr w.heap.size #[.int .i64 (-1), .int .i64 (-1)] 170 ∧ Below w.heap.size w wr)) (fun _ i _ => t.rows.length - (intOf i).toNat)
  case atStart =>
   refine ⟨0, n, f, R, Nat.zero_le _, rfl, rfl, ?_⟩
   have h3 : R.length ≤ m * 1048576 + 0 := Nat.le_trans HR.out.2.2.1 (Nat.le_add_right _ 0)
   exact ⟨by rw [HR.out.1]; simp, HR.out.2.1, h3, HR.out.2.2.2⟩
  clear HR; obtain ⟨j, n, f, R, hj, rfl, rfl, hN⟩ := hrel
  by_cases hlj : j < t.rows.length
  ·
   obtain ⟨e, he⟩ := get_some hlj
   obtain ⟨rb, ro, rfl, _, hpr, g1, g2⟩ := eEnt_cells F2.out he
   have g1 := kcell hN.out.2.2.2.2.2.2 g1
   have g2 := kcell hN.out.2.2.2.2.2.2 g2
   have HBE : Hid (bE e) := BR.out e (List.mem_of_getElem? he)
   have HE : Hid (t.rows[j]? = some e) := he
   have hb1 : Hid (Below wr.heap.size wr (wr.alloc (.cells #[.int .i64 e.1, .int .i64 e.2] 42))) := bl_alloc (Below.refl _ _) _
   obtain ⟨x0, x1, x2⟩ := hN.out.2.2.2.2.2.1.two
   have hlk := (hN.out.2.2.2.2.1.later hb1.out).look HBE.out
   have hRl : Hid (R.length ≤ 1099512676352) := by
    show _ ≤ _
    have h1 := hN.out.2.2.1
    have h2 : m * 1048576 ≤ 1048576 * 1048576 := Nat.mul_le_mul (by omega) (Nat.le_refl _)
    omega
   clear he; by_cases hin : e ∈ LV
   ·
    by_cases hR : e ∈ R
    ·
     have HF : Hid (false = onceB LV T) := onceB_twice HTm.out HE.out (by rw [← hN.out.1]; exact hR)
     obtain ⟨sp, hf, hpos⟩ := hN.out.2.2.2.1.taken e hR
     have hne := hpos.ne
     rw [hf] at hlk
     simp only [stv, Option.getD, Option.isSome] at hlk
     have LF : Hid (Below w.heap.size w wr) := hN.out.2.2.2.2.2.2
     clear hR hin hf hpos hN; go_wp2_with fail; refine bodyPost_ret (v := .tuple #[.map none, .bool false]) (by simp [results, Tryz.results101, go_sem]) rfl ⟨⟨_, by rw [← HF.out], fun h => (by rw [← HF.out] at h; cases h), _, rfl⟩, ?_⟩
     exact bl_alloc (bl_alloc LF.out _) _
    have hf := hN.out.2.2.2.1.free e hin hR
    rw [hf] at hlk
    simp only [stv, Option.getD, Option.isSome] at hlk
    have HPos : Hid (Pos T e ((m : Int), (j : Int))) := ⟨m, j, t, rfl, HTm.out, HE.out⟩
    have HSt : Hid (Std LV T (R ++ [e]) (fun y => if y = e then some ((m : Int), (j : Int)) else f y)) := hN.out.2.2.2.1.put hin hR HPos.out
    have HTK : Hid (t.rows.take (j + 1) = t.rows.take j ++ [e]) := take_rows HE.out
    have hb2 : Hid (Below wr.heap.size wr ((wr.alloc (.cells #[.int .i64 e.1, .int .i64 e.2] 42)).alloc (.cells #[.int .i64 (-1), .int .i64 (-1)] 170))) := bl_alloc hb1.out _
    clear hin hR hf; go_wp2_with fail; obtain ⟨D, q1, q2⟩ := hN.out.2.2.2.2.1.later hb2.out
    refine upon_insert 86 42 170 ekeyed Tryz.underlying86 anyElem (w.heap.size + 1) n _ q1 (by have := hN.out.2.1; have := hRl.out; unfold maxLen; omega) _ _ (ekey e) (keyOfE e HBE.out) (.held (stv ((m : Int), (j : Int)))) [] rfl ?_
    intro w3 own3 gr3
    have hr : Hid (R ++ [e] = rowsOf (T.take m) ++ t.rows.take (j + 1) ∧ n + 1 = LV.length + (R ++ [e]).length ∧ (R ++ [e]).length ≤ m * 1048576 + (j + 1) ∧ Std LV T (R ++ [e]) (fun y => if y = e then some ((m : Int), (j : Int)) else f y) ∧ SM w3 (w.heap.size + 1) (n + 1) (fun y => if y = e then some ((m : Int), (j : Int)) else f y) ∧ Blk w3 w.heap.size #[.int .i64 (-1), .int .i64 (-1)] 170 ∧ Below w.heap.size w w3) := by
     refine ⟨?_, ?_, ?_, HSt.out, ⟨_, own3, q2.put HBE.out _⟩, (hN.out.2.2.2.2.2.1.later hb2.out).kept gr3 (by omega), ?_⟩
     ·
      rw [HTK.out, ← List.append_assoc, ← hN.out.1]
     ·
      rw [List.length_append, hN.out.2.1]; simp; omega
     ·
      have := hN.out.2.2.1; rw [List.length_append]; simp; omega
     exact (bl_trans hN.out.2.2.2.2.2.2 hb2.out).grown gr3 (bl_trans hN.out.2.2.2.2.2.2 hb2.out).size (fun q hq => by cases hq; omega)
    have tm : IntKind.i64.wrap ((LV.length : Int) - (R.length : Int) - 1) = (LV.length : Int) - (R.length : Int) - 1 := by have := hRl.out; rw [IntKind.wrap_i64]; omega
    have HL1 : Hid ((LV.length : Int) - (R.length : Int) - 1 = (LV.length : Int) - ((R ++ [e]).length : Nat)) := by show _ = _; rw [List.length_append]; simp; omega
    clear own3 gr3 q1 q2 hb1 hb2 hN hlk; go_wp2_with fail; go_roundw
    case rel => exact ⟨j + 1, n + 1, _, R ++ [e], by omega, by go_num, by rw [HL1.out], hr⟩
    case measure => simp [intOf]; omega
   have HF : Hid (false = onceB LV T) := onceB_out HTm.out HE.out hin
   have hf := hN.out.2.2.2.1.out e hin
   rw [hf] at hlk
   simp only [stv, Option.getD, Option.isSome] at hlk
   have LF : Hid (Below w.heap.size w wr) := hN.out.2.2.2.2.2.2
   clear hin hf hN; go_wp2_with fail; refine bodyPost_ret (v := .tuple #[.map none, .bool false]) (by simp [results, Tryz.results101, go_sem]) rfl ⟨⟨_, by rw [← HF.out], fun h => (by rw [← HF.out] at h; cases h), _, rfl⟩, ?_⟩
   exact bl_alloc (bl_alloc LF.out _) _
  have hj' : j = t.rows.length := by omega
  subst hj'
  have HRN : Hid (R = rowsOf (T.take (m + 1))) := by
   show _ = _
   rw [hN.out.1, List.take_length, List.take_add_one, HTm.out]
   simp [rowsOf]
  go_wp2_with fail; go_roundw
  case rel => exact ⟨m + 1, n, f, R, by omega, by go_num, rfl, HRN.out, hN.out.2.1, by have := hN.out.2.2.1; omega, hN.out.2.2.2⟩
  case measure => simp [intOf]; omega
 have hm' : m = T.length := by omega
 subst hm'
 have HRA : Hid (R = rowsOf T) := by show _ = _; rw [hN.out.1, List.take_length]
 have HF : Hid (decide ((LV.length : Int) - (R.length : Int) = 0) = onceB LV T) := by
  show _ = _
  rw [onceB, ← HRA.out, decide_eq_decide]
  constructor
  ·
   intro h; exact ⟨hN.out.2.2.2.1.nodup, hN.out.2.2.2.1.sub, by omega⟩
  rintro ⟨_, _, h⟩; omega
 have HZ : Hid (SM wr (w.heap.size + 1) n f ∧ Std LV T (rowsOf T) f) := ⟨hN.out.2.2.2.2.1, by rw [← HRA.out]; exact hN.out.2.2.2.1⟩
 have HNB : Hid (n ≤ 1099512676352) := by
  show _ ≤ _
  have h1 := hN.out.2.2.1
  have h2 : T.length * 1048576 ≤ 1048576 * 1048576 := Nat.mul_le_mul (by omega) (Nat.le_refl _)
  have h3 := hN.out.2.1
  omega
 have LF : Hid (Below w.heap.size w wr) := hN.out.2.2.2.2.2.2
 clear hN; go_wp2_with fail; refine bodyPost_ret (v := .tuple #[.map (some (w.heap.size + 1)), .bool ((LV.length : Int) - (R.length : Int) == 0)]) (by simp [results, Tryz.results101, go_sem]) rfl ⟨⟨_, by rw [← HF.out]; rfl, fun _ => ⟨_, n, f, rfl, HZ.out.1, HZ.out.2, Nat.le_succ _, HNB.out⟩, _, rfl⟩, LF.out⟩
end
section
open Go.RowKit Go.Maps Go.WideMaps
set_option maxRecDepth 100000
def colB (A : List (ByteArray × Int)) (t : Tab) (j : Nat) : Bool :=
 cmpB A (t.cols.getD j 0) && (decide (j = 0) || decide (t.cols.getD (j - 1) 0 < t.cols.getD j 0)) && decide ((t.cells.getD j []).length = t.rows.length) && (t.cells.getD j []).all (vofB (dAt A (t.cols.getD j 0).toNat).2)
def tabB (A : List (ByteArray × Int)) (t : Tab) : Bool := decide (t.cells.length = t.cols.length) && (List.range t.cols.length).all (colB A t)
theorem tabB_len {A : List (ByteArray × Int)} {t : Tab} (h : ¬ t.cells.length = t.cols.length) : false = tabB A t := by simp [tabB, h]
theorem tabB_at {A : List (ByteArray × Int)} {t : Tab} {j : Nat} (hj : j < t.cols.length) (h : colB A t j = false) : false = tabB A t := by
 cases hs : tabB A t
 ·
  rfl
 simp only [tabB, Bool.and_eq_true, decide_eq_true_eq, List.all_eq_true, List.mem_range] at hs
 have := hs.2 j hj
 rw [h] at this; cases this
theorem tabB_all {A : List (ByteArray × Int)} {t : Tab} (hn : t.cells.length = t.cols.length) (h : ∀ (j : Nat), j < t.cols.length → colB A t j = true) : true = tabB A t := by
 symm
 simp only [tabB, Bool.and_eq_true, decide_eq_true_eq, List.all_eq_true, List.mem_range]
 exact ⟨hn, h⟩
theorem colB_eq {A : List (ByteArray × Int)} {t : Tab} {j : Nat} {c : Int} {L : List V4} (EC : t.cols.getD j 0 = c) (EL : t.cells.getD j [] = L) : colB A t j = (cmpB A c && (decide (j = 0) || decide (t.cols.getD (j - 1) 0 < c)) && decide (L.length = t.rows.length) && L.all (vofB (dAt A c.toNat).2)) := by
 unfold colB
 rw [EC, EL]
theorem getD_of {α : Type} {L : List α} {j : Nat} {a d : α} (h : L[j]? = some a) : L.getD j d = a := by simp [List.getD, h]
end
end Go.Proofs.YtbgeobpdojmdaaaGreat
