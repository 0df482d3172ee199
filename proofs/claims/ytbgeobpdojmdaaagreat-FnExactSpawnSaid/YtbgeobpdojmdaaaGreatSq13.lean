import Derived.Deep.RegionHeld3
import Derived.Test.YtbgeobpdojmdaaaGreatSq12
import Derived.DeepKeys4
namespace Go.Proofs.YtbgeobpdojmdaaaGreat
set_option linter.unusedVariables false
set_option linter.unusedSimpArgs false
section
open Go.RowKit Go.Maps Go.WideMaps
set_option maxRecDepth 100000
theorem boxTwo (w : World) (c d : Array Value) (t u : TypeId) : Blk ((w.alloc (.cells c t)).alloc (.cells d u)) w.heap.size c t ∧ Blk ((w.alloc (.cells c t)).alloc (.cells d u)) (w.heap.size + 1) d u ∧ Below w.heap.size w ((w.alloc (.cells c t)).alloc (.cells d u)) :=
 ⟨(blk2 w c d t u).1, (blk2 w c d t u).2, bl_alloc (bl_alloc (Below.refl _ _) _) _⟩
def cmpB (A : List (ByteArray × Int)) (c : Int) : Bool := decide (0 ≤ c) && decide (c < (A.length : Int))
def okV4 (v : V4) : Bool := okB v.1 v.2.1 v.2.2.1 v.2.2.2
def vofB (k : Int) (v : V4) : Bool := v.1 == k && okV4 v
def fitB (A : List (ByteArray × Int)) (c : Int) (v : V4) : Bool := cmpB A c && vofB (dAt A c.toNat).2 v
theorem kcell {W w1 : World} {b o : Nat} {v : Value} (hb : Below W.heap.size W w1) (h : W.cell? ⟨b, o, none⟩ = some v) : w1.cell? ⟨b, o, none⟩ = some v := (hb.cell (p := ⟨b, o, none⟩) (World.block_lt_of_cell? _ _ h)).trans h
set_option maxHeartbeats 400000 in
theorem compOk_any (s1 s2 s3 : Option Addr) (c1 c2 c3 : Nat) (A B C : List (ByteArray × Int)) (c : Int) (w : World) (l1 : A.length ≤ 1048576) :
  Calls Tryz.prog 106 #[.agg #[.slice s1 A.length c1, .slice s2 B.length c2, .slice s3 C.length c3], .int .i64 c] w fun e w' => e = .returned (.bool (cmpB A c)) ∧ Below w.heap.size w w' := by
 obtain ⟨x0, x1, x2, x3⟩ := (Blk.new w #[.slice s1 A.length c1, .slice s2 B.length c2, .slice s3 C.length c3] 47).three'
 by_cases h : 0 ≤ c
 ·
  have E : Hid (decide (c < (A.length : Int)) = cmpB A c) := by simp [Hid, cmpB, h]
  go_enter Tryz.func106, Tryz.ntmps106
  go_wp2_with fail; go_ret; exact ⟨ret_bool' E.out, bl_alloc (Below.refl _ _) _⟩
 have E : Hid (false = cmpB A c) := by simp [Hid, cmpB, h]
 go_enter Tryz.func106, Tryz.ntmps106
 go_wp2_with fail; go_ret; exact ⟨ret_bool' E.out, bl_alloc (Below.refl _ _) _⟩
set_option maxHeartbeats 400000 in
theorem valOf_any (k : Int) (v : V4) (w : World) :
  Calls Tryz.prog 107 #[.int .i64 k, .agg #[.int .i64 v.1, .int .i64 v.2.1, .float .f64 v.2.2.1, .float .f64 v.2.2.2]] w fun e w' => e = .returned (.bool (vofB k v)) ∧ Below w.heap.size w w' := by
 obtain ⟨v1, v2, v3, v4⟩ := v
 obtain ⟨x0, x1, x2, x3, x4⟩ := (Blk.new w #[.int .i64 v1, .int .i64 v2, .float .f64 v3, .float .f64 v4] 75).four'
 cases h : (v1 == k : Bool)
 ·
  have E : Hid (false = vofB k (v1, v2, v3, v4)) := by simp [Hid, vofB, h]
  go_enter Tryz.func107, Tryz.ntmps107
  go_wp2_with fail; go_ret; exact ⟨ret_bool' E.out, bl_alloc (Below.refl _ _) _⟩
 have E : Hid (okB v1 v2 v3 v4 = vofB k (v1, v2, v3, v4)) := by simp [Hid, vofB, okV4, h]
 go_enter Tryz.func107, Tryz.ntmps107
 go_wp2_with fail; refine (implOk_any v1 v2 v3 v4 _).mono ?_
 rintro e w1 ⟨rfl, rfl⟩
 go_wp2_with fail; go_ret; exact ⟨ret_bool' E.out, bl_alloc (bl_alloc (Below.refl _ _) _) _⟩
def resB (B : List (ByteArray × Int)) (R : List V4) : Bool := decide (R.length = B.length) && (List.range R.length).all fun j => R[j]?.elim true (vofB (dAt B j).2)
theorem resB_len {B : List (ByteArray × Int)} {R : List V4} (h : ¬ R.length = B.length) : false = resB B R := by simp [resB, h]
theorem resB_at {B : List (ByteArray × Int)} {R : List V4} {j : Nat} {v : V4} (hv : R[j]? = some v) (h : vofB (dAt B j).2 v = false) : false = resB B R := by
 cases hs : resB B R
 ·
  rfl
 simp only [resB, Bool.and_eq_true, decide_eq_true_eq, List.all_eq_true, List.mem_range] at hs
 have := hs.2 j (by have := (List.getElem?_eq_some_iff.mp hv).1; exact this)
 rw [hv] at this
 simp only [Option.elim] at this
 rw [h] at this; cases this
theorem resB_all {B : List (ByteArray × Int)} {R : List V4} (hn : R.length = B.length) (h : ∀ (j : Nat) v, R[j]? = some v → vofB (dAt B j).2 v = true) : true = resB B R := by
 symm
 simp only [resB, Bool.and_eq_true, decide_eq_true_eq, List.all_eq_true, List.mem_range]
 refine ⟨hn, fun j hj => ?_⟩
 rw [List.getElem?_eq_getElem hj]
 exact h j _ (List.getElem?_eq_getElem hj)
set_option maxHeartbeats 2000000 in
theorem ressOk_any (s1 s2 s3 : Option Addr) (c1 c2 c3 : Nat) (A B C : List (ByteArray × Int)) (sr : Option Addr) (cr : Nat) (R : List V4) (Bs : Nat) (w : World) (hB : Decls w s2 B) (hR : Els 4 cVal w Bs sr R) (l2 : B.length ≤ 1048576) (lr : R.length ≤ 1048576) :
  Calls Tryz.prog 98 #[.agg #[.slice s1 A.length c1, .slice s2 B.length c2, .slice s3 C.length c3], .slice sr R.length cr] w fun e w' => e = .returned (.bool (resB B R)) ∧ Below w.heap.size w w' := by
 have hal := alloc_old
 have haf := alloc_oldf
 have k0 := Blk.new w #[.slice s1 A.length c1, .slice s2 B.length c2, .slice s3 C.length c3] 47
 have L0 : Below w.heap.size w (w.alloc (.cells #[.slice s1 A.length c1, .slice s2 B.length c2, .slice s3 C.length c3] 47)) := bl_alloc (Below.refl _ _) _
 obtain ⟨x0, x1, x2, x3⟩ := k0.three'
 by_cases hn : R.length = B.length
 ·
  have t0 : ((R.length : Int) != (B.length : Int)) = false := by simp [hn]
  have HN : Hid (R.length = B.length) := hn
  clear hn; go_enter Tryz.func98, Tryz.ntmps98
  go_wp2_with fail; clear t0 x0 x1 x2 x3; generalize hX : w.alloc (.cells #[.slice s1 A.length c1, .slice s2 B.length c2, .slice s3 C.length c3] 47) = X at k0 L0 ⊢
  clear hX; have HB1 : Hid (Decls X s2 B) := hB.later L0
  have HR1 : Hid (Els 4 cVal X Bs sr R) := hR.later cVal_keeps L0
  have HX : Hid (Below w.heap.size w X) := L0
  have hX0 : w.heap.size < X.heap.size := k0.lt
  clear hB hR L0 k0; go_loopw [16] (fun i wr => ∃ (m : Nat), m ≤ B.length ∧ i = .int .i64 m ∧ Hid (Below X.heap.size X wr ∧ ∀ (j : Nat) v, j < m → R[j]? = some v → vofB (dAt B j).2 v = true)) (fun i _ => B.length - (intOf i).toNat)
  case atStart => exact ⟨0, Nat.zero_le _, rfl, Below.refl _ _, fun j v hj => absurd hj (Nat.not_lt_zero _)⟩
  obtain ⟨m, hm, rfl, hN⟩ := hrel
  by_cases hlt : m < B.length
  ·
   obtain ⟨v, hv⟩ : ∃ v, R[m]? = some v := ⟨_, List.getElem?_eq_getElem (by rw [HN.out]; exact hlt)⟩
   obtain ⟨pb, po, rfl, hp, e1, e2⟩ := (HB1.out.later hN.out.1).get hlt
   obtain ⟨qb, qo, rfl, hq1, hq2, hok, f1, f2, f3, f4⟩ := eVal_cells (HR1.out.later cVal_keeps hN.out.1) hv
   obtain ⟨p, hp0⟩ : ∃ p, Hid (dAt B m = p) := ⟨_, rfl⟩
   rw [hp0.out] at e1 e2
   obtain ⟨p1, p2⟩ := p
   have hltR : m < R.length := by rw [HN.out]; exact hlt
   have HV : Hid (R[m]? = some v) := hv
   clear hv hok; go_wp2_with fail; have KD := Blk.new wr #[.string p1, .int .i64 p2] 113
   have d1 := KD.cell 1
   have g1 := hal wr (.cells #[.string p1, .int .i64 p2] 113) qb (qo + m * 4) (by rw [f1]; rfl)
   have g2 := hal wr (.cells #[.string p1, .int .i64 p2] 113) qb (qo + m * 4 + 1) (by rw [f2]; rfl)
   have g3 := hal wr (.cells #[.string p1, .int .i64 p2] 113) qb (qo + m * 4 + 2) (by rw [f3]; rfl)
   have g4 := hal wr (.cells #[.string p1, .int .i64 p2] 113) qb (qo + m * 4 + 3) (by rw [f4]; rfl)
   rw [f1] at g1
   rw [f2] at g2
   rw [f3] at g3
   rw [f4] at g4
   have hY0 : Hid (Below X.heap.size X (wr.alloc (.cells #[.string p1, .int .i64 p2] 113))) := bl_alloc hN.out.1 _
   generalize hY : wr.alloc (.cells #[.string p1, .int .i64 p2] 113) = Y at KD d1 g1 g2 g3 g4 hY0 ⊢
   clear hY f1 f2 f3 f4 e1 e2; go_region_held3 (fun w' => w'.cell? ⟨wr.heap.size, 1, none⟩ = some (.int .i64 p2) ∧ w'.cell? ⟨qb, qo + m * 4, none⟩ = some (.int .i64 v.1) ∧ w'.cell? ⟨qb, qo + m * 4 + 1, none⟩ = some (.int .i64 v.2.1) ∧ w'.cell? ⟨qb, qo + m * 4 + 2, none⟩ = some (.float .f64 v.2.2.1) ∧ w'.cell? ⟨qb, qo + m * 4 + 3, none⟩ = some (.float .f64 v.2.2.2)) (simp [d1, g1, g2, g3, g4]) (first | (go_at_call 107; refine (valOf_any p2 v _).mono ?_; rintro e w2 ⟨rfl, hb2⟩; have hw2 : Hid (Below X.heap.size X w2) := bl_trans (bl_drew hY0.out) hb2; have hb3 : Below Y.heap.size Y w2 := bl_trans (bl_drew (Below.refl _ _)) hb2; have d1 := kcell hb3 d1; have g1 := kcell hb3 g1; have g2 := kcell hb3 g2; have g3 := kcell hb3 g3; have g4 := kcell hb3 g4))
   cases hvo : vofB p2 v
   ·
    all_goals
     go_wp2_with fail; go_ret; exact ⟨ret_bool' (resB_at HV.out (by rw [hp0.out]; exact hvo)), bl_trans HX.out hw2.out⟩
   all_goals
    go_wp2_with fail; go_roundw
    case rel => exact ⟨m + 1, by omega, by go_num, hw2.out, fun j u hj hu => by
     by_cases hjm : j = m
     ·
      subst hjm
      rw [HV.out] at hu
      cases hu
      rw [hp0.out]
      exact hvo
     exact hN.out.2 j u (by omega) hu⟩
    case measure => simp [intOf]; omega
  have hm' : m = B.length := by omega
  subst hm'
  go_wp2_with fail; go_ret; exact ⟨ret_bool' (resB_all HN.out (fun j v hv => hN.out.2 j v (by have := (List.getElem?_eq_some_iff.mp hv).1; rw [← HN.out]; exact this) hv)), bl_trans HX.out hN.out.1⟩
 have t0 : ((R.length : Int) != (B.length : Int)) = true := by simp; omega
 go_enter Tryz.func98, Tryz.ntmps98
 go_wp2_with fail; go_ret; exact ⟨ret_bool' (resB_len hn), L0⟩
end
section
open Go.RowKit Go.Maps Go.WideMaps
set_option maxRecDepth 100000
def bE (e : E2) : Prop := (-9223372036854775808 ≤ e.1 ∧ e.1 ≤ 9223372036854775807) ∧ (-9223372036854775808 ≤ e.2 ∧ e.2 ≤ 9223372036854775807)
def ekey (e : E2) : Lit := .string (keyBytes [.int .i64 e.1, .int .i64 e.2])
theorem Tryz.laidOutE : laidOutB Tryz.prog = true := by kernel_rfl
theorem ekeyed : Keyed Tryz.prog 42 := Keyed.of_law (deep_law_laid Tryz.laidOutE (m := 3) (by omega) (of_decide_eq_true (by kernel_rfl)) (by kernel_rfl) (by kernel_rfl))
theorem wf_i64 {n : Int} (h : -9223372036854775808 ≤ n ∧ n ≤ 9223372036854775807) : (Lit.int .i64 n).wf = true := by
 have e1 : IntKind.i64.min = -9223372036854775808 := by decide +kernel
 have e2 : IntKind.i64.max = 9223372036854775807 := by decide +kernel
 simp only [Lit.wf, Bool.and_eq_true, decide_eq_true_eq, e1, e2]
 exact h
theorem Tryz.keyTypeE : Tryz.prog.keyType 42 = true := by kernel_rfl
theorem Tryz.cellsE : Tryz.prog.cellsOf 42 = 2 := by kernel_rfl
theorem Tryz.cellsI0 : Tryz.prog.cellsOf 3 = 1 := by kernel_rfl
theorem pos_succ {k : Nat} (h : 0 < k) : ∃ n, k = n + 1 := ⟨k - 1, by omega⟩
theorem Tryz.typesN : ∃ n, Tryz.prog.types.size = n + 1 := pos_succ (of_decide_eq_true (by kernel_rfl))
theorem keyOf_two {P : Program} {k i : TypeId} {f0 f1 : Field} {n : Nat} (hu : P.underlying k = some (.struct #[f0, f1])) (h0 : f0.type = i) (h1 : f1.type = i) (o0 : f0.offset = 0) (o1 : f1.offset = 1) (n0 : (f0.name != "_") = true) (n1 : (f1.name != "_") = true)
  (hi : P.underlying i = some (.int .i64)) (ck : P.cellsOf k = 2) (ci : P.cellsOf i = 1) (kt : P.keyType k = true) (hn : P.types.size = n + 1) {a b : Int} (wa : (Lit.int .i64 a).wf = true) (wb : (Lit.int .i64 b).wf = true) :
  keyOf P k (.agg #[.int .i64 a, .int .i64 b]) = some (.string (keyBytes [.int .i64 a, .int .i64 b])) := by
 have e0 : P.keyLits (n + 1) i [.int .i64 a] = some [.int .i64 a] := by simp [Program.keyLits, hi, wa]
 have e1 : P.keyLits (n + 1) i [.int .i64 b] = some [.int .i64 b] := by simp [Program.keyLits, hi, wb]
 have e2 : P.keyLits (n + 1 + 1) k [.int .i64 a, .int .i64 b] = some [.int .i64 a, .int .i64 b] := by
  unfold Program.keyLits
  simp only [hu]
  rw [if_pos (by simp [ck]; exact ⟨by simpa using n0, by simpa using n1⟩)]
  simp [h0, h1, o0, o1, ci, e0, e1]
 simp [keyOf, hu, kt, Value.formed, ck, hn, Value.cells, e2]
theorem keyOfE (e : E2) (h : bE e) : keyOf Tryz.prog 42 (.agg #[.int .i64 e.1, .int .i64 e.2]) = some (ekey e) := by
 obtain ⟨n, hn⟩ := Tryz.typesN
 exact keyOf_two Tryz.underlying42 rfl rfl rfl rfl (by decide) (by decide) Tryz.underlying3 Tryz.cellsE Tryz.cellsI0 Tryz.keyTypeE hn (wf_i64 h.1) (wf_i64 h.2)
theorem ekey_inj {a b : E2} (ha : bE a) (hb : bE b) (h : ekey a = ekey b) : a = b := by
 have h1 := keyOfE a ha
 have h2 := keyOfE b hb
 rw [← h] at h2
 have := keyOf_inj_deep (P := Tryz.prog) (m := 3) (by kernel_rfl) (by kernel_rfl) h1 h2
 simp at this
 exact Prod.ext this.1 this.2
def stv (s : E2) : Value := .agg #[.int .i64 s.1, .int .i64 s.2]
def StM (D : DataW Value) (f : E2 → Option E2) : Prop := IsMap D ∧ ∀ e, bE e → Maps.has D (ekey e) = (f e).isSome ∧ ∀ z, D.atKey (ekey e) (.held z) = .held (((f e).map stv).getD z)
theorem StM.empty : StM (.map []) (fun _ => none) := ⟨isMap_empty, fun e _ => ⟨rfl, fun z => rfl⟩⟩
theorem StM.put {D : DataW Value} {f : E2 → Option E2} (h : StM D f) {e : E2} (he : bE e) (s : E2) : StM (D.put (ekey e) (.held (stv s))) (fun x => if x = e then some s else f x) := by
 refine ⟨h.1.put _ _, fun x hx => ?_⟩
 by_cases hxe : x = e
 ·
  subst hxe
  refine ⟨?_, fun z => ?_⟩
  ·
   rw [has_put_same h.1 (by trivial)]; simp
  rw [atKey_put_same h.1 (by trivial)]; simp
 have hne : ekey x ≠ ekey e := fun q => hxe (ekey_inj hx he q)
 refine ⟨?_, fun z => ?_⟩
 ·
  rw [has_put_other hne, (h.2 x hx).1]; simp [hxe]
 rw [atKey_put_other hne, (h.2 x hx).2 z]; simp [hxe]
def SM (w : World) (b n : Nat) (f : E2 → Option E2) : Prop := ∃ D, w.ownsMap Tryz.prog 42 anyElem b n D ∧ StM D f
theorem SM.lt {w : World} {b n : Nat} {f : E2 → Option E2} (h : SM w b n f) : b < w.heap.size := by
 obtain ⟨D, h, _⟩ := h; exact h.lt
theorem SM.later {w w' : World} {b n : Nat} {f : E2 → Option E2} (h : SM w b n f) (hb : Below w.heap.size w w') : SM w' b n f := by
 obtain ⟨D, h1, h2⟩ := h
 exact ⟨D, h1.kept (grown_of_below hb) (by simp), h2⟩
theorem zeroSt (w : World) : (zeroValue 170).run Tryz.prog w = .ok (stv (0, 0)) w := by kernel_rfl
theorem SM.look {w : World} {b n : Nat} {f : E2 → Option E2} (h : SM w b n f) {e : E2} (he : bE e) :
  (Instr.lookup 86 (.map (some b)) (.agg #[.int .i64 e.1, .int .i64 e.2]) true).run Tryz.prog w = .ok (.tuple #[stv ((f e).getD (0, 0)), .bool (f e).isSome]) w := by
 obtain ⟨D, h1, h2⟩ := h
 obtain ⟨v, ps, hrun, hv⟩ := h1.look_ok (zd := .held (stv (0, 0))) (zp := []) ekeyed Tryz.underlying86 (zeroSt w) rfl (kl := ekey e) (keyOfE e he)
 rw [(h2.2 e he).1] at hrun
 simp only [anyElem, Option.some.injEq, Prod.mk.injEq] at hv
 rw [(h2.2 e he).2] at hv
 have hv := hv.1
 injection hv with hv
 rw [hrun, hv]
 cases f e <;> rfl
end
section
open Go.ChangeShapes Go.WideShapes Go.ChangeAt Go.RowKit Go.Joins
set_option maxRecDepth 100000
section
variable {H : Type} {enc : TypeId × Value → H} {w : World} {base : Nat} {spare : Nat → Bool} {held : Bool}
theorem oneEntB (m : Nat) (cs : List Value) (y : DataW H × List MemPlace) (h : DataW.trod enc Tryz.prog w base spare held m 177 cs = some y) : ∃ a, cEnt w 0 cs a ∧ bE a := by
 obtain ⟨y0, y1, n, _, hlen, h0, h1⟩ := trod_struct2 Tryz.underlying177 h
 rw [Tryz.cellsEnt] at hlen
 match cs, hlen with
 | [v0, v1], _ =>
  simp [Tryz.cellsI] at h0 h1
  obtain ⟨a, e0, _, wa⟩ := DataW.trod_int Tryz.underlying3 h0
  obtain ⟨b, e1, _, wb⟩ := DataW.trod_int Tryz.underlying3 h1
  simp only [List.cons.injEq, and_true] at e0 e1
  subst e0 e1
  exact ⟨(a, b), rfl, bd_of_wf wa, bd_of_wf wb⟩
theorem oneTabB (m : Nat) (cs : List Value) (y : DataW H × List MemPlace) (h : DataW.trod enc Tryz.prog w base spare held m 108 cs = some y) : ∃ a, cTab w 0 cs a ∧ (mTab a ∧ ∀ x ∈ a.rows, bE x) := by
 obtain ⟨y0, y1, y2, n, _, hlen, h0, h1, h2⟩ := Go.Deep.trod_struct3 Tryz.underlying108 h
 rw [Tryz.cellsTab] at hlen
 match cs, hlen with
 | [v0, v1, v2], _ =>
  simp [Tryz.cellsIs, Tryz.cellsEs, Tryz.cellsVss] at h0 h1 h2
  obtain ⟨s1, c1, A, e0, f1, _, m1⟩ := openEls Tryz.underlying25 Tryz.cellsI (by omega) oneInt h0
  obtain ⟨s2, c2, B, e1, f2, mb, m2⟩ := openEls Tryz.underlying105 Tryz.cellsEnt (by omega) oneEntB h1
  obtain ⟨s3, c3, C, e2, f3, m3, m4⟩ := openEls Tryz.underlying106 Tryz.cellsVs (by omega) oneVals h2
  simp only [List.cons.injEq, and_true] at e0 e1 e2
  subst e0 e1 e2
  exact ⟨⟨A, B, C⟩, ⟨s1, c1, s2, c2, s3, c3, rfl, f1, f2, f3⟩, ⟨m1, m2, m4, m3⟩, mb⟩
theorem openWorldB {r : Reach} {b0 : Nat} {v : Value} {d : DataW H} {p : List MemPlace} (hv : Value.okWide Tryz.prog w r b0 31 v) (h : DataW.Trod enc Tryz.prog w base spare held 31 v d p) :
  ∃ a1 a2 a3 a4 c1 c2 c3 c4 W, v = .agg #[.slice a1 (Wd.gens W).length c1, .slice a2 W.free.length c2, .slice a3 W.tabs.length c3, .slice a4 W.res.length c4] ∧ InW w 0 a1 a2 a3 a4 W ∧ mW W ∧ ∀ t ∈ W.tabs, ∀ x ∈ t.rows, bE x := by
 obtain ⟨cs, rfl, hsz⟩ := okWide_struct Tryz.underlying31 hv
 obtain ⟨x0, x1, x2, x3, rfl⟩ := array4 (hsz.trans Tryz.cellsWd)
 obtain ⟨fuel, hf⟩ := h
 obtain ⟨y0, y1, y2, n, _, _, h0, h1, h2⟩ := Go.Deep.trod_struct3 Tryz.underlying31 hf
 simp [Value.cells, Tryz.cellsEnts, Tryz.cellsTs, Tryz.cellsVs] at h0 h1 h2
 obtain ⟨z0, z1, m, _, _, g0, g1⟩ := trod_struct2 Tryz.underlying27 h0
 simp [Tryz.cellsIs] at g0 g1
 obtain ⟨s1, c1, A, e0, f1, _, m1⟩ := openEls Tryz.underlying25 Tryz.cellsI (by omega) oneInt g0
 obtain ⟨s2, c2, B, e1, f2, _, m2⟩ := openEls Tryz.underlying25 Tryz.cellsI (by omega) oneInt g1
 obtain ⟨s3, c3, C, e2, f3, m3, m4⟩ := openEls Tryz.underlying28 Tryz.cellsTab (by omega) oneTabB h1
 obtain ⟨s4, c4, D, e3, f4, _, m5⟩ := openEls Tryz.underlying29 Tryz.cellsVal (by omega) oneVal h2
 simp only [List.cons.injEq, and_true] at e0 e1 e2 e3
 subst e0 e1 e2 e3
 exact ⟨s1, s2, s3, s4, c1, c2, c3, c4, ⟨A, B, C, D⟩, rfl, ⟨f1, f2, f3, f4⟩, ⟨m1, m2, ⟨m4, fun t ht => (m3 t ht).1⟩, m5⟩, fun t ht => (m3 t ht).2⟩
end
end
section
open Go.RowKit
abbrev C5 := Int × V4
structure Cm where
 kind : Int
 who : E2
 comp : Int
 val : V4
 list : List C5
def ccells (c : C5) : List Value := [.int .i64 c.1, .int .i64 c.2.1, .int .i64 c.2.2.1, .float .f64 c.2.2.2.1, .float .f64 c.2.2.2.2]
def cCell (w : World) (B : Nat) (cs : List Value) (c : C5) : Prop := cs = ccells c ∧ okV c.2
theorem cCell_keeps : KeepsE cCell := fun _ _ _ _ _ _ h => h
theorem cCell_drops : DropsE cCell := fun _ _ _ _ _ _ h => h
theorem eCell_cells {w : World} {B : Nat} {s : Option Addr} {L : List C5} (h : Els 5 cCell w B s L) {j : Nat} {a : C5} (ha : L[j]? = some a) :
  ∃ b o, s = some ⟨b, o, none⟩ ∧ B ≤ b ∧ b < w.heap.size ∧ okV a.2 ∧ w.cell? ⟨b, o + j * 5, none⟩ = some (.int .i64 a.1) ∧ w.cell? ⟨b, o + j * 5 + 1, none⟩ = some (.int .i64 a.2.1) ∧ w.cell? ⟨b, o + j * 5 + 2, none⟩ = some (.int .i64 a.2.2.1) ∧ w.cell? ⟨b, o + j * 5 + 3, none⟩ = some (.float .f64 a.2.2.2.1) ∧ w.cell? ⟨b, o + j * 5 + 4, none⟩ = some (.float .f64 a.2.2.2.2) := by
 rcases h with rfl | ⟨b, o, rfl, h1, h2, h3, hz⟩
 ·
  simp at ha
 obtain ⟨cs, e1, e2, e3, e4⟩ := h3 j a ha
 subst e3
 exact ⟨b, o, rfl, h1, h2, e4, e2 0 _ rfl, e2 1 _ rfl, e2 2 _ rfl, e2 3 _ rfl, e2 4 _ rfl⟩
set_option maxHeartbeats 1000000 in
theorem szCellS_gen (s : Option Addr) (n c : Nat) (left : Int) (w : World) (h0 : 0 ≤ left) (h1 : left ≤ 1048576) (hn : n ≤ 9223372036854775807) :
  Calls Tryz.prog 6 #[.slice s n c, .int .i64 left] w fun e w' => Szd left (n ≤ 1048576) e ∧ w' = w := by
 by_cases h : left < n
 ·
  go_enter Tryz.func6, Tryz.ntmps6
  go_wp2
  go_ret; exact ⟨⟨_, rfl, Or.inl rfl⟩, rfl⟩
 go_enter Tryz.func6, Tryz.ntmps6
 go_wp2
 go_ret; exact ⟨⟨_, rfl, Or.inr ⟨by omega, by omega, by omega⟩⟩, rfl⟩
end
section
open Go.ChangeShapes Go.WideShapes Go.ChangeAt Go.RowKit Go.Joins
set_option maxRecDepth 100000
theorem Tryz.cellsCell : Tryz.prog.cellsOf 81 = 5 := by kernel_rfl
section
variable {H : Type} {enc : TypeId × Value → H} {w : World} {base : Nat} {spare : Nat → Bool} {held : Bool}
theorem oneCell (m : Nat) (cs : List Value) (y : DataW H × List MemPlace) (h : DataW.trod enc Tryz.prog w base spare held m 81 cs = some y) : ∃ a, cCell w 0 cs a ∧ True := by
 obtain ⟨y0, y1, n, _, hlen, h0, h1⟩ := trod_struct2 Tryz.underlying81 h
 rw [Tryz.cellsCell] at hlen
 match cs, hlen with
 | [v0, v1, v2, v3, v4], _ =>
  simp [Tryz.cellsI, Tryz.cellsVal] at h0 h1
  obtain ⟨a, e0, _, _⟩ := DataW.trod_int Tryz.underlying3 h0
  obtain ⟨b, ⟨e1, ok⟩, _⟩ := oneVal _ _ _ h1
  simp only [vcells, List.cons.injEq, and_true] at e0 e1
  obtain ⟨rfl, rfl, rfl, rfl⟩ := e1
  subst e0
  exact ⟨(a, b), ⟨rfl, ok⟩, trivial⟩
theorem openCells {r : Reach} {b0 : Nat} {v : Value} {d : DataW H} {p : List MemPlace} (hv : Value.okWide Tryz.prog w r b0 32 v) (h : DataW.Trod enc Tryz.prog w base spare held 32 v d p) :
  ∃ s c L, v = .slice s (List.length (α := C5) L) c ∧ Els 5 cCell w 0 s L ∧ L.length ≤ 9223372036854775807 := by
 obtain ⟨a, len, cap, rfl⟩ := okWide_slice Tryz.underlying32 hv
 obtain ⟨fuel, hf⟩ := h
 obtain ⟨s, c, L, e, f, m, ml⟩ := openEls Tryz.underlying32 Tryz.cellsCell (by omega) oneCell hf
 have e' : [Value.slice a len cap] = [.slice s L.length c] := e
 simp only [List.cons.injEq, and_true] at e'
 exact ⟨s, c, L, e', f, ml⟩
end
end
section
open Go.ChangeShapes Go.WideShapes Go.ChangeAt Go.RowKit Go.Joins
set_option maxRecDepth 100000
theorem Tryz.cellsR : Tryz.prog.cellsOf 24 = 3 := by kernel_rfl
theorem Tryz.cellsD : Tryz.prog.cellsOf 102 = 2 := by kernel_rfl
theorem Tryz.cellsS : Tryz.prog.cellsOf 9 = 1 := by kernel_rfl
section
variable {H : Type} {enc : TypeId × Value → H} {w : World} {base : Nat} {spare : Nat → Bool} {held : Bool}
theorem openDecl {n : Nat} {a : Addr} {y : DataW H × List MemPlace} (h : (w.cells? base a 2).bind (DataW.trod enc Tryz.prog w base spare held n 102) = some y) :
  ∃ (s : ByteArray) (k : Int), s.size ≤ maxLen ∧ w.cell? (a.add 0) = some (.string s) ∧ w.cell? (a.add 1) = some (.int .i64 k) := by
 rw [Option.bind_eq_some_iff] at h
 obtain ⟨cs, hcs, hy⟩ := h
 have hc := World.cells?_some hcs
 obtain ⟨y0, y1, m, _, hlen, h0, h1⟩ := trod_struct2 Tryz.underlying102 hy
 rw [Tryz.cellsD] at hlen
 match cs, hlen with
 | [v0, v1], _ =>
  rw [Tryz.cellsS] at h0
  rw [Tryz.cellsI] at h1
  simp at h0 h1
  obtain ⟨s, e0, _, hs⟩ := DataW.trod_string Tryz.underlying9 h0
  obtain ⟨k, e1, _, _⟩ := DataW.trod_int Tryz.underlying3 h1
  simp only [List.cons.injEq, and_true] at e0 e1
  subst e0 e1
  have c0 := hc.2.2 0 (by omega)
  have c1 := hc.2.2 1 (by omega)
  exact ⟨s, k, hs, by simpa using c0, by simpa using c1⟩
theorem openDecls {fuel : Nat} {v : Value} {y : DataW H × List MemPlace} (h : DataW.trod enc Tryz.prog w base spare held fuel 22 [v] = some y) :
  ∃ s c L, v = .slice s (List.length (α := ByteArray × Int) L) c ∧ Dc w s L := by
 rcases DataW.trod_slice Tryz.underlying22 h with ⟨hcs, _⟩ | ⟨a, len, cap, elems, rest, n, _, hcs, _, hb, hl, hm, hlen, hel, _, _⟩
 ·
  simp at hcs
  exact ⟨none, 0, [], hcs, Or.inl rfl, fun p hp => by simp at hp, by simp⟩
 simp at hcs
 have each : ∀ i, i < len → ∃ p : ByteArray × Int, p.1.size ≤ maxLen ∧ w.cell? ((a.add (i * 2)).add 0) = some (.string p.1) ∧ w.cell? ((a.add (i * 2)).add 1) = some (.int .i64 p.2) := by
  intro i hi
  have := hel i hi
  rw [Tryz.cellsD] at this
  obtain ⟨e, he⟩ : ∃ e, elems[i]? = some e := ⟨elems[i], by simp [hlen, hi]⟩
  rw [he] at this
  obtain ⟨s, k, h1, h2, h3⟩ := openDecl this
  exact ⟨(s, k), h1, h2, h3⟩
 let g : Nat → ByteArray × Int := fun i => if h : i < len then Classical.choose (each i h) else (ByteArray.empty, 0)
 have hg : ∀ i, i < len → (g i).1.size ≤ maxLen ∧ w.cell? ((a.add (i * 2)).add 0) = some (.string (g i).1) ∧ w.cell? ((a.add (i * 2)).add 1) = some (.int .i64 (g i).2) := by
  intro i hi
  have : g i = Classical.choose (each i hi) := by simp [g, hi]
  rw [this]
  exact Classical.choose_spec (each i hi)
 have hL : ((List.range len).map g).length = len := by simp
 refine ⟨some a, cap, (List.range len).map g, by rw [hL]; exact hcs, ?_, ?_, by rw [hL]; omega⟩
 ·
  by_cases he : len = 0
  ·
   left; simp [he]
  right
  obtain ⟨b, off, spot⟩ := a
  have h0 := (hg 0 (by omega)).2.1
  have hspot : spot = none := by simpa [Addr.add] using World.cell?_spot h0
  subst hspot
  refine ⟨b, off, rfl, ?_, fun j hj => ?_⟩
  ·
   have := World.block_lt_of_cell? _ _ h0
   simpa [Addr.add] using this
  rw [hL] at hj
  have e : dAt ((List.range len).map g) j = g j := by simp [dAt, hj]
  rw [e]
  obtain ⟨_, g1, g2⟩ := hg j hj
  rw [Addr.add_add, add_plain] at g1 g2
  exact ⟨g1, g2⟩
 intro p hp
 simp only [List.mem_map, List.mem_range] at hp
 obtain ⟨i, hi, rfl⟩ := hp
 exact (hg i hi).1
theorem openReg {r : Reach} {b0 : Nat} {v : Value} {d : DataW H} {p : List MemPlace} (hv : Value.okWide Tryz.prog w r b0 24 v) (h : DataW.Trod enc Tryz.prog w base spare held 24 v d p) :
  ∃ s1 s2 s3 c1 c2 c3 A B C, v = .agg #[.slice s1 (List.length (α := ByteArray × Int) A) c1, .slice s2 (List.length (α := ByteArray × Int) B) c2, .slice s3 (List.length (α := ByteArray × Int) C) c3] ∧ Dc w s1 A ∧ Dc w s2 B ∧ Dc w s3 C := by
 obtain ⟨v0, v1, v2, y0, y1, y2, n, rfl, rfl, rfl, h0, h1, h2⟩ := open_agg3 Tryz.underlying24 (by kernel_rfl) Tryz.cellsR hv h
 obtain ⟨s1, c1, A, rfl, gA⟩ := openDecls h0
 obtain ⟨s2, c2, B, rfl, gB⟩ := openDecls h1
 obtain ⟨s3, c3, C, rfl, gC⟩ := openDecls h2
 exact ⟨s1, s2, s3, c1, c2, c3, A, B, C, rfl, gA, gB, gC⟩
end
end
end Go.Proofs.YtbgeobpdojmdaaaGreat
