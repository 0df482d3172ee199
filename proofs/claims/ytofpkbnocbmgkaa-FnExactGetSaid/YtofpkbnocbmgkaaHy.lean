/- At every Reg, World, thing and number impl.Get answers as spec.Get, and it writes into no argument: FnExactGet returns true at every argument. -/
import Derived.Test.YtofpkbnocbmgkaaPw
import Derived.Test.YtofpkbnocbmgkaaKd
import Derived.Test.YtofpkbnocbmgkaaPwr
import Derived.Test.YtofpkbnocbmgkaaHx
namespace Go.Proofs.Ytofpkbnocbmgkaa
section
open Go.ChangeShapes Go.WideShapes Go.ChangeAt Go.RowKit Go.Joins
set_option linter.unusedVariables false
set_option linter.unusedSimpArgs false
set_option maxRecDepth 100000
section
variable {H : Type} {enc : TypeId × Value → H} {w : World} {base : Nat} {spare : Nat → Bool} {held : Bool}

theorem oneEntB (m : Nat) (cs : List Value) (y : DataW H × List MemPlace) (h : DataW.trod enc Try.prog w base spare held m 33 cs = some y) : ∃ a, cEnt w 0 cs a ∧ bE a := by
  obtain ⟨y0, y1, n, _, hlen, h0, h1⟩ := trod_struct2 Try.underlying33 h
  rw [Try.cellsEnt] at hlen
  match cs, hlen with
  | [v0, v1], _ =>
    simp [Try.cellsI] at h0 h1
    obtain ⟨a, e0, _, wa⟩ := DataW.trod_int Try.underlying3 h0
    obtain ⟨b, e1, _, wb⟩ := DataW.trod_int Try.underlying3 h1
    simp only [List.cons.injEq, and_true] at e0 e1
    subst e0 e1
    exact ⟨(a, b), rfl, bd_of_wf wa, bd_of_wf wb⟩
theorem oneTabB (m : Nat) (cs : List Value) (y : DataW H × List MemPlace) (h : DataW.trod enc Try.prog w base spare held m 133 cs = some y) : ∃ a, cTab w 0 cs a ∧ (mTab a ∧ ∀ x ∈ a.rows, bE x) := by
  obtain ⟨y0, y1, y2, n, _, hlen, h0, h1, h2⟩ := Go.Deep.trod_struct3 Try.underlying133 h
  rw [Try.cellsTab] at hlen
  match cs, hlen with
  | [v0, v1, v2], _ =>
    simp [Try.cellsIs, Try.cellsEs, Try.cellsVss] at h0 h1 h2
    obtain ⟨s1, c1, A, e0, f1, _, m1⟩ := openEls Try.underlying25 Try.cellsI (by omega) oneInt h0
    obtain ⟨s2, c2, B, e1, f2, mb, m2⟩ := openEls Try.underlying130 Try.cellsEnt (by omega) oneEntB h1
    obtain ⟨s3, c3, C, e2, f3, m3, m4⟩ := openEls Try.underlying131 Try.cellsVs (by omega) oneVals h2
    simp only [List.cons.injEq, and_true] at e0 e1 e2
    subst e0 e1 e2
    exact ⟨⟨A, B, C⟩, ⟨s1, c1, s2, c2, s3, c3, rfl, f1, f2, f3⟩, ⟨m1, m2, m4, m3⟩, mb⟩
theorem openWorldB {r : Reach} {b0 : Nat} {v : Value} {d : DataW H} {p : List MemPlace} (hv : Value.okWide Try.prog w r b0 31 v) (h : DataW.Trod enc Try.prog w base spare held 31 v d p) :
    ∃ a1 a2 a3 a4 c1 c2 c3 c4 W, v = .agg #[.slice a1 (Wd.gens W).length c1, .slice a2 W.free.length c2, .slice a3 W.tabs.length c3, .slice a4 W.res.length c4] ∧ InW w 0 a1 a2 a3 a4 W ∧ mW W ∧ ∀ t ∈ W.tabs, ∀ x ∈ t.rows, bE x := by
  obtain ⟨cs, rfl, hsz⟩ := okWide_struct Try.underlying31 hv
  obtain ⟨x0, x1, x2, x3, rfl⟩ := array4 (hsz.trans Try.cellsWd)
  obtain ⟨fuel, hf⟩ := h
  obtain ⟨y0, y1, y2, n, _, _, h0, h1, h2⟩ := Go.Deep.trod_struct3 Try.underlying31 hf
  simp [Value.cells, Try.cellsEnts, Try.cellsTs, Try.cellsVs] at h0 h1 h2
  obtain ⟨z0, z1, m, _, _, g0, g1⟩ := trod_struct2 Try.underlying27 h0
  simp [Try.cellsIs] at g0 g1
  obtain ⟨s1, c1, A, e0, f1, _, m1⟩ := openEls Try.underlying25 Try.cellsI (by omega) oneInt g0
  obtain ⟨s2, c2, B, e1, f2, _, m2⟩ := openEls Try.underlying25 Try.cellsI (by omega) oneInt g1
  obtain ⟨s3, c3, C, e2, f3, m3, m4⟩ := openEls Try.underlying28 Try.cellsTab (by omega) oneTabB h1
  obtain ⟨s4, c4, D, e3, f4, _, m5⟩ := openEls Try.underlying29 Try.cellsVal (by omega) oneVal h2
  simp only [List.cons.injEq, and_true] at e0 e1 e2 e3
  subst e0 e1 e2 e3
  exact ⟨s1, s2, s3, s4, c1, c2, c3, c4, ⟨A, B, C, D⟩, rfl, ⟨f1, f2, f3, f4⟩, ⟨m1, m2, ⟨m4, fun t ht => (m3 t ht).1⟩, m5⟩, fun t ht => (m3 t ht).2⟩
theorem openEntB {r : Reach} {b0 : Nat} {v : Value} {d : DataW H} {p : List MemPlace} (hv : Value.okWide Try.prog w r b0 33 v) (h : DataW.Trod enc Try.prog w base spare held 33 v d p) :
    ∃ e : E2, v = .agg #[.int .i64 e.1, .int .i64 e.2] ∧ bE e := by
  obtain ⟨v0, v1, y0, y1, n, rfl, rfl, rfl, h0, h1⟩ := open_agg2 Try.underlying33 (by kernel_rfl) Try.cellsEnt hv h
  obtain ⟨a, e0, rfl, w0⟩ := DataW.trod_int Try.underlying3 h0
  obtain ⟨g, e1, rfl, w1⟩ := DataW.trod_int Try.underlying3 h1
  simp only [List.cons.injEq, and_true] at e0 e1
  subst e0 e1
  exact ⟨(a, g), rfl, bd_of_wf w0, bd_of_wf w1⟩
end
end
section
open Go.RowKit Go.Maps Go.WideMaps
set_option linter.unusedVariables false
set_option linter.unusedSimpArgs false
set_option maxRecDepth 100000

def rt (v : V4) (ok : Bool) : Ending := .returned (.tuple #[.agg #[.int .i64 v.1, .int .i64 v.2.1, .float .f64 v.2.2.1, .float .f64 v.2.2.2], .bool ok])
def Bel (X w : World) : Prop := Below X.heap.size X w
theorem rt_inj {v v' : V4} {ok ok' : Bool} (h : rt v ok = rt v' ok') : v = v' ∧ ok = ok' := by
  simp [rt] at h
  exact ⟨Prod.ext h.1.1 (Prod.ext h.1.2.1 (Prod.ext h.1.2.2.1 h.1.2.2.2)), h.2⟩
theorem GR.form {A B C : List (ByteArray × Int)} {W : Wd} {e : E2} {comp : Int} {r : Ending} (h : GR A B C W e comp r) : ∃ v ok, okV v ∧ r = rt v ok := by
  rcases h with ⟨_, v, _, hv, rfl⟩ | ⟨_, rfl⟩
  · exact ⟨v, true, hv, rfl⟩
  · exact ⟨(0, 0, 0, 0), false, ⟨by decide, by decide, by decide⟩, rfl⟩
theorem inW_ok {w : World} {B : Nat} {a1 a2 a3 a4 : Option Addr} {W : Wd} (h : InW w B a1 a2 a3 a4 W) : ∀ t ∈ W.tabs, ∀ L ∈ t.cells, ∀ v ∈ L, okV v := by
  intro t ht L hL v hv
  obtain ⟨i, hi, rfl⟩ := List.getElem_of_mem ht
  obtain ⟨_, _, _, _, _, _, _, _, _, _, _, _, _, _, _, _, f3⟩ := eTab_cells h.t (List.getElem?_eq_getElem hi)
  obtain ⟨q, hq, rfl⟩ := List.getElem_of_mem hL
  obtain ⟨_, _, _, _, _, _, _, _, hE⟩ := eVals_cells f3 (List.getElem?_eq_getElem hq)
  obtain ⟨j, hj, rfl⟩ := List.getElem_of_mem hv
  obtain ⟨_, _, _, _, _, ok, _⟩ := eVal_cells hE (List.getElem?_eq_getElem hj)
  exact ok
theorem box3 (w : World) (c d f : Array Value) (t u v : TypeId) : Blk (((w.alloc (.cells c t)).alloc (.cells d u)).alloc (.cells f v)) w.heap.size c t ∧ Blk (((w.alloc (.cells c t)).alloc (.cells d u)).alloc (.cells f v)) (w.heap.size + 1) d u ∧ Blk (((w.alloc (.cells c t)).alloc (.cells d u)).alloc (.cells f v)) (w.heap.size + 1 + 1) f v ∧ Below w.heap.size w (((w.alloc (.cells c t)).alloc (.cells d u)).alloc (.cells f v)) :=
  ⟨((Blk.new w c t).alloc _).alloc _, (Blk.new' _ d u (by simp)).alloc _, Blk.new' _ f v (by simp), bl_alloc (bl_alloc (bl_alloc (Below.refl _ _) _) _) _⟩

set_option maxHeartbeats 16000000 in
theorem exactGet_any (s1 s2 s3 : Option Addr) (c1 c2 c3 : Nat) (A B C : List (ByteArray × Int)) (i1 i2 i3 i4 : Option Addr) (j1 j2 j3 j4 : Nat) (W : Wd) (e : E2) (comp : Int) (w : World) (gA : Dc w s1 A) (gB : Dc w s2 B) (gC : Dc w s3 C) (hW : InW w 0 i1 i2 i3 i4 W) (hm : mW W) (bR : ∀ t ∈ W.tabs, ∀ x ∈ t.rows, bE x) (be : bE e) :
    Calls Try.prog 3 #[.agg #[.slice s1 A.length c1, .slice s2 B.length c2, .slice s3 C.length c3], .agg #[.slice i1 W.gens.length j1, .slice i2 W.free.length j2, .slice i3 W.tabs.length j3, .slice i4 W.res.length j4], .agg #[.int .i64 e.1, .int .i64 e.2], .int .i64 comp] w fun r w' => r = .returned (.bool true) ∧ Below w.heap.size w w' := by
  have hal := alloc_old
  have haf := alloc_oldf
  obtain ⟨hA, nA, mA⟩ := gA
  obtain ⟨hB, nB, mB⟩ := gB
  obtain ⟨hC, nC, mC⟩ := gC
  have NM := nms3 nA nB nC
  obtain ⟨k0, k1, k2, L0⟩ := box3 w #[.slice s1 A.length c1, .slice s2 B.length c2, .slice s3 C.length c3] #[.slice i1 W.gens.length j1, .slice i2 W.free.length j2, .slice i3 W.tabs.length j3, .slice i4 W.res.length j4] #[.int .i64 e.1, .int .i64 e.2] 24 31 33
  have OKC : Hid (∀ t ∈ W.tabs, ∀ L ∈ t.cells, ∀ v ∈ L, okV v) := inW_ok hW
  have HW : Hid (InW w 0 i1 i2 i3 i4 W) := hW
  have BR : Hid (∀ t ∈ W.tabs, ∀ x ∈ t.rows, bE x) := bR
  have BE : Hid (bE e) := be
  have HD : Hid (Decls w s1 A ∧ Decls w s2 B ∧ Decls w s3 C) := ⟨hA, hB, hC⟩
  clear hW bR be
  go_enter Try.func3, Try.ntmps3
  go_wp2_with fail
  refine (szReg_top s1 s2 s3 c1 c2 c3 A B C _ (hA.later L0) (hB.later L0) (hC.later L0) nA nB nC mA mB mC).mono ?_
  rintro r w1 ⟨⟨r, rfl, hr⟩, hb1⟩
  have KK : Hid (Blk w1 w.heap.size #[.slice s1 A.length c1, .slice s2 B.length c2, .slice s3 C.length c3] 24 ∧ Blk w1 (w.heap.size + 1) #[.slice i1 W.gens.length j1, .slice i2 W.free.length j2, .slice i3 W.tabs.length j3, .slice i4 W.res.length j4] 31 ∧ Blk w1 (w.heap.size + 1 + 1) #[.int .i64 e.1, .int .i64 e.2] 33) := ⟨k0.later hb1, k1.later hb1, k2.later hb1⟩
  have NMH : Hid (∀ i, i < (A ++ B ++ C).length → (dAt (A ++ B ++ C) i).1.size ≤ maxLen) := NM
  have LC : Hid (Below w.heap.size w w1) := bl_trans L0 hb1
  clear k0 k1 k2 L0 hb1 nA nB nC mA mB mC NM hA hB hC
  obtain ⟨y0, y1, y2, y3, y9⟩ := KK.out.2.1.four'
  rcases hr with rfl | ⟨r0, r1, lA, lB, lC⟩
  · go_wp2_with fail
    go_ret
    exact ⟨rfl, LC.out⟩
  · have t1 : decide (r < 0) = false := by simp; omega
    go_wp2_with fail
    refine (szWorld_gen i1 i2 i3 i4 j1 j2 j3 j4 W 0 r _ (HW.out.later LC.out) hm r0 r1).mono ?_
    rintro r w2 ⟨⟨q, rfl, hq⟩, hb2⟩
    have LC : Hid (Below w.heap.size w w2) := bl_trans LC.out hb2
    have KK : Hid (Blk w2 w.heap.size #[.slice s1 A.length c1, .slice s2 B.length c2, .slice s3 C.length c3] 24 ∧ Blk w2 (w.heap.size + 1) #[.slice i1 W.gens.length j1, .slice i2 W.free.length j2, .slice i3 W.tabs.length j3, .slice i4 W.res.length j4] 31 ∧ Blk w2 (w.heap.size + 1 + 1) #[.int .i64 e.1, .int .i64 e.2] 33) := ⟨KK.out.1.later hb2, KK.out.2.1.later hb2, KK.out.2.2.later hb2⟩
    clear y0 y1 y2 y3 y9 hb2
    rcases hq with rfl | ⟨q0, q1, hk⟩
    · go_wp2_with fail
      go_ret
      exact ⟨rfl, LC.out⟩
    · have t2 : decide (q < 0) = false := by simp; omega
      have HK : Hid (kW W) := hk
      obtain ⟨x0, x1, x2, x3⟩ := KK.out.1.three'
      obtain ⟨y0, y1, y2, y3, y9⟩ := KK.out.2.1.four'
      obtain ⟨f0, f1, f2⟩ := KK.out.2.2.two
      clear x3 y9 f2 hm r1 q1 hk
      go_wp2_with fail
      go_cut [10, 11] (fun p0 p1 wx => ∃ (kz : Nat) (v : V4) (ok : Bool), p0 = .pointer (some ⟨kz, 0, none⟩) ∧ p1 = .bool ok ∧ okV v ∧ GR A B C W e comp (rt v ok) ∧ Blk wx kz #[.int .i64 v.1, .int .i64 v.2.1, .float .f64 v.2.2.1, .float .f64 v.2.2.2] 38 ∧ Blk wx w.heap.size #[.slice s1 A.length c1, .slice s2 B.length c2, .slice s3 C.length c3] 24 ∧ Blk wx (w.heap.size + 1) #[.slice i1 W.gens.length j1, .slice i2 W.free.length j2, .slice i3 W.tabs.length j3, .slice i4 W.res.length j4] 31 ∧ Blk wx (w.heap.size + 1 + 1) #[.int .i64 e.1, .int .i64 e.2] 33 ∧ Below w.heap.size w wx)
      case first =>
        refine wp_region_held_drew (S := (fun w' => w'.cell? ⟨w.heap.size, 0, none⟩ = some (.slice s1 A.length c1) ∧ w'.cell? ⟨w.heap.size, 1, none⟩ = some (.slice s2 B.length c2) ∧ w'.cell? ⟨w.heap.size, 2, none⟩ = some (.slice s3 C.length c3) ∧ w'.cell? ⟨w.heap.size + 1, 0, none⟩ = some (.slice i1 W.gens.length j1) ∧ w'.cell? ⟨w.heap.size + 1, 1, none⟩ = some (.slice i2 W.free.length j2) ∧ w'.cell? ⟨w.heap.size + 1, 2, none⟩ = some (.slice i3 W.tabs.length j3) ∧ w'.cell? ⟨w.heap.size + 1, 3, none⟩ = some (.slice i4 W.res.length j4) ∧ w'.cell? ⟨w.heap.size + 1 + 1, 0, none⟩ = some (.int .i64 e.1) ∧ w'.cell? ⟨w.heap.size + 1 + 1, 1, none⟩ = some (.int .i64 e.2))) (by kernel_rfl) ?_ (fun hHeld => ?_)
        · exact ⟨x0, x1, x2, y0, y1, y2, y3, f0, f1⟩
        refine wpAnyH_one (i := 0) (d := 27) (v := ?_) rfl rfl (by kernel_rfl) (by kernel_rfl) (by kernel_rfl) (fun _ _ _ h => h) (by rfl) (by assumption) ?_ ?_
        rotate_left 1
        · intro w hSw; (try dsimp only at hSw); go_simp <;> with_reducible rfl
        simp only [List.foldl, Act.put, List.setIfInBounds_toArray, List.set_cons_zero, List.set_cons_succ]
        refine wpAnyH_one (i := 2) (d := 29) (v := ?_) rfl rfl (by kernel_rfl) (by kernel_rfl) (by kernel_rfl) (fun _ _ _ h => h) (by rfl) (by assumption) ?_ ?_
        rotate_left 1
        · intro w hSw; (try dsimp only at hSw); go_simp <;> with_reducible rfl
        simp only [List.foldl, Act.put, List.setIfInBounds_toArray, List.set_cons_zero, List.set_cons_succ]
        refine wpAnyH_one (i := 4) (d := 31) (v := ?_) rfl rfl (by kernel_rfl) (by kernel_rfl) (by kernel_rfl) (fun _ _ _ h => h) (by rfl) (by assumption) ?_ ?_
        rotate_left 1
        · intro w hSw; (try dsimp only at hSw); go_simp <;> with_reducible rfl
        simp only [List.foldl, Act.put, List.setIfInBounds_toArray, List.set_cons_zero, List.set_cons_succ]
        refine wpAnyH_one (i := 6) (d := 33) (v := ?_) rfl rfl (by kernel_rfl) (by kernel_rfl) (by kernel_rfl) (fun _ _ _ h => h) (by rfl) (by assumption) ?_ ?_
        rotate_left 1
        · intro w hSw; (try dsimp only at hSw); go_simp <;> with_reducible rfl
        simp only [List.foldl, Act.put, List.setIfInBounds_toArray, List.set_cons_zero, List.set_cons_succ]
        refine wpAnyH_ready (rs := [1, 11]) (by kernel_rfl) (by simp) ?_
        refine AllReadyH.cons rfl (fun K hK => ?_) ?_
        · skip
          go_simp
          refine (toReg_any s1 s2 s3 c1 c2 c3 A B C _ (HD.out.1.later (bl_trans LC.out (bl_drew (Below.refl _ _)))) (HD.out.2.1.later (bl_trans LC.out (bl_drew (Below.refl _ _)))) (HD.out.2.2.later (bl_trans LC.out (bl_drew (Below.refl _ _)))) lA lB lC).mono ?_
          rintro r0 w3 ⟨⟨a3, b3, d3, rfl, dA3, dB3, dC3⟩, hb_w3⟩
          have hc_w3 : Below w2.heap.size w2 w3 := bl_trans (bl_drew (Below.refl _ _)) hb_w3
          have x0 := kcell hc_w3 x0
          have x1 := kcell hc_w3 x1
          have x2 := kcell hc_w3 x2
          have y0 := kcell hc_w3 y0
          have y1 := kcell hc_w3 y1
          have y2 := kcell hc_w3 y2
          have y3 := kcell hc_w3 y3
          have f0 := kcell hc_w3 f0
          have f1 := kcell hc_w3 f1
          have LC : Hid (Below w.heap.size w w3) := bl_trans LC.out hc_w3
          have KK : Hid (Blk w3 w.heap.size #[.slice s1 A.length c1, .slice s2 B.length c2, .slice s3 C.length c3] 24 ∧ Blk w3 (w.heap.size + 1) #[.slice i1 W.gens.length j1, .slice i2 W.free.length j2, .slice i3 W.tabs.length j3, .slice i4 W.res.length j4] 31 ∧ Blk w3 (w.heap.size + 1 + 1) #[.int .i64 e.1, .int .i64 e.2] 33) := ⟨KK.out.1.later hc_w3, KK.out.2.1.later hc_w3, KK.out.2.2.later hc_w3⟩
          have D3 : Hid (Decls w3 (some ⟨a3, 0, none⟩) A ∧ Decls w3 (some ⟨b3, 0, none⟩) B ∧ Decls w3 (some ⟨d3, 0, none⟩) C) := ⟨dA3, dB3, dC3⟩
          clear dA3 dB3 dC3
          clear hb_w3 hc_w3
          refine hK.out _ _ ?_ (fun hHeld => ?_)
          · exact ⟨x0, x1, x2, y0, y1, y2, y3, f0, f1⟩
          clear hK K
          try simp only [List.foldl, Act.put, List.setIfInBounds_toArray, List.set_cons_zero, List.set_cons_succ]
          refine wpAnyH_ready (rs := [3, 11]) (by kernel_rfl) (by simp) ?_
          refine AllReadyH.cons rfl (fun K hK => ?_) ?_
          · skip
            go_simp
            refine (toWorld_made i1 i2 i3 i4 j1 j2 j3 j4 W 0 _ (HW.out.later LC.out) HK.out).mono ?_
            rintro r0 w4 ⟨⟨m4, n4, o4, p4, rfl, hE4⟩, hb_w4⟩
            have hc_w4 : Below w3.heap.size w3 w4 := hb_w4
            have x0 := kcell hc_w4 x0
            have x1 := kcell hc_w4 x1
            have x2 := kcell hc_w4 x2
            have y0 := kcell hc_w4 y0
            have y1 := kcell hc_w4 y1
            have y2 := kcell hc_w4 y2
            have y3 := kcell hc_w4 y3
            have f0 := kcell hc_w4 f0
            have f1 := kcell hc_w4 f1
            have LC : Hid (Below w.heap.size w w4) := bl_trans LC.out hc_w4
            have KK : Hid (Blk w4 w.heap.size #[.slice s1 A.length c1, .slice s2 B.length c2, .slice s3 C.length c3] 24 ∧ Blk w4 (w.heap.size + 1) #[.slice i1 W.gens.length j1, .slice i2 W.free.length j2, .slice i3 W.tabs.length j3, .slice i4 W.res.length j4] 31 ∧ Blk w4 (w.heap.size + 1 + 1) #[.int .i64 e.1, .int .i64 e.2] 33) := ⟨KK.out.1.later hc_w4, KK.out.2.1.later hc_w4, KK.out.2.2.later hc_w4⟩
            have D3 : Hid (Decls w4 (some ⟨a3, 0, none⟩) A ∧ Decls w4 (some ⟨b3, 0, none⟩) B ∧ Decls w4 (some ⟨d3, 0, none⟩) C) := ⟨D3.out.1.later hc_w4, D3.out.2.1.later hc_w4, D3.out.2.2.later hc_w4⟩
            have E4 : Hid (InW w4 0 (some ⟨m4, 0, none⟩) (some ⟨n4, 0, none⟩) (some ⟨o4, 0, none⟩) (some ⟨p4, 0, none⟩) W) := hE4.drop (Nat.zero_le _)
            clear hE4
            clear hb_w4 hc_w4
            refine hK.out _ _ ?_ (fun hHeld => ?_)
            · exact ⟨x0, x1, x2, y0, y1, y2, y3, f0, f1⟩
            clear hK K
            try simp only [List.foldl, Act.put, List.setIfInBounds_toArray, List.set_cons_zero, List.set_cons_succ]
            refine wpAnyH_ready (rs := [5, 11]) (by kernel_rfl) (by simp) ?_
            refine AllReadyH.cons rfl (fun K hK => ?_) ?_
            · skip
              go_simp
              refine (toEnt_any e.1 e.2 _).mono ?_
              rintro r0 w5 ⟨rfl, hb_w5⟩
              have hc_w5 : Below w4.heap.size w4 w5 := hb_w5
              have x0 := kcell hc_w5 x0
              have x1 := kcell hc_w5 x1
              have x2 := kcell hc_w5 x2
              have y0 := kcell hc_w5 y0
              have y1 := kcell hc_w5 y1
              have y2 := kcell hc_w5 y2
              have y3 := kcell hc_w5 y3
              have f0 := kcell hc_w5 f0
              have f1 := kcell hc_w5 f1
              have LC : Hid (Below w.heap.size w w5) := bl_trans LC.out hc_w5
              have KK : Hid (Blk w5 w.heap.size #[.slice s1 A.length c1, .slice s2 B.length c2, .slice s3 C.length c3] 24 ∧ Blk w5 (w.heap.size + 1) #[.slice i1 W.gens.length j1, .slice i2 W.free.length j2, .slice i3 W.tabs.length j3, .slice i4 W.res.length j4] 31 ∧ Blk w5 (w.heap.size + 1 + 1) #[.int .i64 e.1, .int .i64 e.2] 33) := ⟨KK.out.1.later hc_w5, KK.out.2.1.later hc_w5, KK.out.2.2.later hc_w5⟩
              have D3 : Hid (Decls w5 (some ⟨a3, 0, none⟩) A ∧ Decls w5 (some ⟨b3, 0, none⟩) B ∧ Decls w5 (some ⟨d3, 0, none⟩) C) := ⟨D3.out.1.later hc_w5, D3.out.2.1.later hc_w5, D3.out.2.2.later hc_w5⟩
              have E4 : Hid (InW w5 0 (some ⟨m4, 0, none⟩) (some ⟨n4, 0, none⟩) (some ⟨o4, 0, none⟩) (some ⟨p4, 0, none⟩) W) := E4.out.later hc_w5
              clear hb_w5 hc_w5
              refine hK.out _ _ ?_ (fun hHeld => ?_)
              · exact ⟨x0, x1, x2, y0, y1, y2, y3, f0, f1⟩
              clear hK K
              try simp only [List.foldl, Act.put, List.setIfInBounds_toArray, List.set_cons_zero, List.set_cons_succ]
              refine wpAnyH_ready (rs := [7, 11]) (by kernel_rfl) (by simp) ?_
              refine AllReadyH.cons rfl (fun K hK => ?_) ?_
              · skip
                go_simp
                refine (specGet_any a3 0 A.length b3 0 B.length d3 0 C.length A B C (some ⟨m4, 0, none⟩) (some ⟨n4, 0, none⟩) (some ⟨o4, 0, none⟩) (some ⟨p4, 0, none⟩) W.gens.length W.free.length W.tabs.length W.res.length W e comp _ D3.out.1 D3.out.2.1 D3.out.2.2 E4.out HK.out OKC.out).mono ?_
                rintro r0 w7 ⟨hgr, hb_w7⟩
                have hc_w7 : Below w5.heap.size w5 w7 := hb_w7
                have x0 := kcell hc_w7 x0
                have x1 := kcell hc_w7 x1
                have x2 := kcell hc_w7 x2
                have y0 := kcell hc_w7 y0
                have y1 := kcell hc_w7 y1
                have y2 := kcell hc_w7 y2
                have y3 := kcell hc_w7 y3
                have f0 := kcell hc_w7 f0
                have f1 := kcell hc_w7 f1
                have LC : Hid (Below w.heap.size w w7) := bl_trans LC.out hc_w7
                have KK : Hid (Blk w7 w.heap.size #[.slice s1 A.length c1, .slice s2 B.length c2, .slice s3 C.length c3] 24 ∧ Blk w7 (w.heap.size + 1) #[.slice i1 W.gens.length j1, .slice i2 W.free.length j2, .slice i3 W.tabs.length j3, .slice i4 W.res.length j4] 31 ∧ Blk w7 (w.heap.size + 1 + 1) #[.int .i64 e.1, .int .i64 e.2] 33) := ⟨KK.out.1.later hc_w7, KK.out.2.1.later hc_w7, KK.out.2.2.later hc_w7⟩
                have D3 : Hid (Decls w7 (some ⟨a3, 0, none⟩) A ∧ Decls w7 (some ⟨b3, 0, none⟩) B ∧ Decls w7 (some ⟨d3, 0, none⟩) C) := ⟨D3.out.1.later hc_w7, D3.out.2.1.later hc_w7, D3.out.2.2.later hc_w7⟩
                have E4 : Hid (InW w7 0 (some ⟨m4, 0, none⟩) (some ⟨n4, 0, none⟩) (some ⟨o4, 0, none⟩) (some ⟨p4, 0, none⟩) W) := E4.out.later hc_w7
                obtain ⟨v, ok, hov, rfl⟩ := hgr.form
                have HGR : Hid (okV v ∧ GR A B C W e comp (rt v ok)) := ⟨hov, hgr⟩
                clear hov hgr
                clear hb_w7 hc_w7
                refine hK.out _ _ ?_ (fun hHeld => ?_)
                · exact ⟨x0, x1, x2, y0, y1, y2, y3, f0, f1⟩
                clear hK K
                try simp only [List.foldl, Act.put, List.setIfInBounds_toArray, List.set_cons_zero, List.set_cons_succ]
                refine wpAnyH_one (i := 8) (d := 26) (v := ?_) rfl rfl (by kernel_rfl) (by kernel_rfl) (by kernel_rfl) (fun _ _ _ h => h) (by rfl) (by assumption) ?_ ?_
                rotate_left 1
                · intro w hSw; (try dsimp only at hSw); go_simp <;> with_reducible rfl
                simp only [List.foldl, Act.put, List.setIfInBounds_toArray, List.set_cons_zero, List.set_cons_succ]
                refine wpAnyH_one (i := 9) (d := 35) (v := ?_) rfl rfl (by kernel_rfl) (by kernel_rfl) (by kernel_rfl) (fun _ _ _ h => h) (by rfl) (by assumption) ?_ ?_
                rotate_left 1
                · intro w hSw; (try dsimp only at hSw); go_simp <;> with_reducible rfl
                simp only [List.foldl, Act.put, List.setIfInBounds_toArray, List.set_cons_zero, List.set_cons_succ]
                refine wpAnyH_one (i := 10) (d := 36) (v := ?_) rfl rfl (by kernel_rfl) (by kernel_rfl) (by kernel_rfl) (fun _ _ _ h => h) (by rfl) (by assumption) ?_ ?_
                rotate_left 1
                · intro w hSw; (try dsimp only at hSw); go_simp <;> with_reducible rfl
                simp only [List.foldl, Act.put, List.setIfInBounds_toArray, List.set_cons_zero, List.set_cons_succ]
                refine wpAnyH_ready (rs := [11]) (by kernel_rfl) (by simp) ?_
                refine AllReadyH.cons rfl (fun K hK => ?_) AllReadyH.nil
                go_simp
                have hg : Below w7.heap.size w7 (w7.alloc (.cells #[.int .i64 0, .int .i64 0, .float .f64 0, .float .f64 0] 38)) := bl_alloc (Below.refl _ _) _
                have KZ : Hid (Blk (w7.alloc (.cells #[.int .i64 0, .int .i64 0, .float .f64 0, .float .f64 0] 38)) w7.heap.size #[.int .i64 0, .int .i64 0, .float .f64 0, .float .f64 0] 38) := Blk.new w7 _ _
                have hkl : w.heap.size + 1 + 1 < w7.heap.size := KK.out.2.2.lt
                have x0 := kcell hg x0
                have x1 := kcell hg x1
                have x2 := kcell hg x2
                have y0 := kcell hg y0
                have y1 := kcell hg y1
                have y2 := kcell hg y2
                have y3 := kcell hg y3
                have f0 := kcell hg f0
                have f1 := kcell hg f1
                have LC : Hid (Below w.heap.size w (w7.alloc (.cells #[.int .i64 0, .int .i64 0, .float .f64 0, .float .f64 0] 38))) := bl_trans LC.out hg
                have KK : Hid (Blk (w7.alloc (.cells #[.int .i64 0, .int .i64 0, .float .f64 0, .float .f64 0] 38)) w.heap.size #[.slice s1 A.length c1, .slice s2 B.length c2, .slice s3 C.length c3] 24 ∧ Blk (w7.alloc (.cells #[.int .i64 0, .int .i64 0, .float .f64 0, .float .f64 0] 38)) (w.heap.size + 1) #[.slice i1 W.gens.length j1, .slice i2 W.free.length j2, .slice i3 W.tabs.length j3, .slice i4 W.res.length j4] 31 ∧ Blk (w7.alloc (.cells #[.int .i64 0, .int .i64 0, .float .f64 0, .float .f64 0] 38)) (w.heap.size + 1 + 1) #[.int .i64 e.1, .int .i64 e.2] 33) := ⟨KK.out.1.later hg, KK.out.2.1.later hg, KK.out.2.2.later hg⟩
                have D3 : Hid (Decls (w7.alloc (.cells #[.int .i64 0, .int .i64 0, .float .f64 0, .float .f64 0] 38)) (some ⟨a3, 0, none⟩) A ∧ Decls (w7.alloc (.cells #[.int .i64 0, .int .i64 0, .float .f64 0, .float .f64 0] 38)) (some ⟨b3, 0, none⟩) B ∧ Decls (w7.alloc (.cells #[.int .i64 0, .int .i64 0, .float .f64 0, .float .f64 0] 38)) (some ⟨d3, 0, none⟩) C) := ⟨D3.out.1.later hg, D3.out.2.1.later hg, D3.out.2.2.later hg⟩
                have E4 : Hid (InW (w7.alloc (.cells #[.int .i64 0, .int .i64 0, .float .f64 0, .float .f64 0] 38)) 0 (some ⟨m4, 0, none⟩) (some ⟨n4, 0, none⟩) (some ⟨o4, 0, none⟩) (some ⟨p4, 0, none⟩) W) := E4.out.later hg
                refine hK.out _ _ ?_ (fun hHeld => ?_)
                · exact ⟨x0, x1, x2, y0, y1, y2, y3, f0, f1⟩
                clear hK K
                try simp only [List.foldl, Act.put, List.setIfInBounds_toArray, List.set_cons_zero, List.set_cons_succ]
                generalize hGe : (w7.alloc (.cells #[.int .i64 0, .int .i64 0, .float .f64 0, .float .f64 0] 38)) = G at KZ LC hHeld x0 x1 x2 y0 y1 y2 y3 f0 f1 KK D3 E4 ⊢
                obtain ⟨kz, hkz⟩ : ∃ kz, w7.heap.size = kz := ⟨_, rfl⟩
                rw [hkz] at KZ ⊢
                have hkl : w.heap.size + 1 + 1 < kz := by omega
                clear hGe hkz hg
                obtain ⟨k0z, k1z, k2z, k3z, k4z⟩ := KZ.out.four'
                refine wpAnyH_ready (rs := [12]) (by kernel_rfl) (by simp) ?_
                refine AllReadyH.cons rfl (fun K hK => ?_) AllReadyH.nil
                go_simp
                refine hK.out _ _ ?_ (fun hHeld => ?_)
                · refine ⟨(by rw [World.cell?_setCell_far _ _ _ _ (by simp <;> omega), World.cell?_setCell_far _ _ _ _ (by simp <;> omega), World.cell?_setCell_far _ _ _ _ (by simp <;> omega), World.cell?_setCell_far _ _ _ _ (by simp <;> omega)]; exact x0), (by rw [World.cell?_setCell_far _ _ _ _ (by simp <;> omega), World.cell?_setCell_far _ _ _ _ (by simp <;> omega), World.cell?_setCell_far _ _ _ _ (by simp <;> omega), World.cell?_setCell_far _ _ _ _ (by simp <;> omega)]; exact x1), (by rw [World.cell?_setCell_far _ _ _ _ (by simp <;> omega), World.cell?_setCell_far _ _ _ _ (by simp <;> omega), World.cell?_setCell_far _ _ _ _ (by simp <;> omega), World.cell?_setCell_far _ _ _ _ (by simp <;> omega)]; exact x2), (by rw [World.cell?_setCell_far _ _ _ _ (by simp <;> omega), World.cell?_setCell_far _ _ _ _ (by simp <;> omega), World.cell?_setCell_far _ _ _ _ (by simp <;> omega), World.cell?_setCell_far _ _ _ _ (by simp <;> omega)]; exact y0), (by rw [World.cell?_setCell_far _ _ _ _ (by simp <;> omega), World.cell?_setCell_far _ _ _ _ (by simp <;> omega), World.cell?_setCell_far _ _ _ _ (by simp <;> omega), World.cell?_setCell_far _ _ _ _ (by simp <;> omega)]; exact y1), (by rw [World.cell?_setCell_far _ _ _ _ (by simp <;> omega), World.cell?_setCell_far _ _ _ _ (by simp <;> omega), World.cell?_setCell_far _ _ _ _ (by simp <;> omega), World.cell?_setCell_far _ _ _ _ (by simp <;> omega)]; exact y2), (by rw [World.cell?_setCell_far _ _ _ _ (by simp <;> omega), World.cell?_setCell_far _ _ _ _ (by simp <;> omega), World.cell?_setCell_far _ _ _ _ (by simp <;> omega), World.cell?_setCell_far _ _ _ _ (by simp <;> omega)]; exact y3), (by rw [World.cell?_setCell_far _ _ _ _ (by simp <;> omega), World.cell?_setCell_far _ _ _ _ (by simp <;> omega), World.cell?_setCell_far _ _ _ _ (by simp <;> omega), World.cell?_setCell_far _ _ _ _ (by simp <;> omega)]; exact f0), (by rw [World.cell?_setCell_far _ _ _ _ (by simp <;> omega), World.cell?_setCell_far _ _ _ _ (by simp <;> omega), World.cell?_setCell_far _ _ _ _ (by simp <;> omega), World.cell?_setCell_far _ _ _ _ (by simp <;> omega)]; exact f1)⟩
                clear hK K
                try simp only [List.foldl, Act.put, List.setIfInBounds_toArray, List.set_cons_zero, List.set_cons_succ]
                refine wpAnyH_one (i := 13) (d := 11) (v := ?_) rfl rfl (by kernel_rfl) (by kernel_rfl) (by kernel_rfl) (fun _ _ _ h => h) (by rfl) (by assumption) ?_ ?_
                rotate_left 1
                · intro w hSw; (try dsimp only at hSw); go_simp <;> with_reducible rfl
                simp only [List.foldl, Act.put, List.setIfInBounds_toArray, List.set_cons_zero, List.set_cons_succ]
                refine wpAnyH_done (by kernel_rfl) ?_ _
                go_wp2_with fail
                go_meet
                have KV : Blk _ kz #[.int .i64 v.1, .int .i64 v.2.1, .float .f64 v.2.2.1, .float .f64 v.2.2.2] 38 := (((KZ.out.set 0 (.int .i64 v.1)).set 1 (.int .i64 v.2.1)).set 2 (.float .f64 v.2.2.1)).set 3 (.float .f64 v.2.2.2)
                refine ⟨kz, v, ok, rfl, rfl, HGR.out.1, HGR.out.2, KV, ((((KK.out.1.other (m := kz) (by omega) 0 _).other (m := kz) (by omega) 1 _).other (m := kz) (by omega) 2 _).other (m := kz) (by omega) 3 _), ((((KK.out.2.1.other (m := kz) (by omega) 0 _).other (m := kz) (by omega) 1 _).other (m := kz) (by omega) 2 _).other (m := kz) (by omega) 3 _), ((((KK.out.2.2.other (m := kz) (by omega) 0 _).other (m := kz) (by omega) 1 _).other (m := kz) (by omega) 2 _).other (m := kz) (by omega) 3 _), ?_⟩
                repeat (first | with_reducible exact LC.out | with_reducible refine Below.setCell ?_ (by simp <;> omega) _)
              · refine AllReadyH.cons rfl (fun K hK => ?_) AllReadyH.nil
                go_simp
                have hg : Below w5.heap.size w5 (w5.alloc (.cells #[.int .i64 0, .int .i64 0, .float .f64 0, .float .f64 0] 38)) := bl_alloc (Below.refl _ _) _
                have KZ : Hid (Blk (w5.alloc (.cells #[.int .i64 0, .int .i64 0, .float .f64 0, .float .f64 0] 38)) w5.heap.size #[.int .i64 0, .int .i64 0, .float .f64 0, .float .f64 0] 38) := Blk.new w5 _ _
                have hkl : w.heap.size + 1 + 1 < w5.heap.size := KK.out.2.2.lt
                have x0 := kcell hg x0
                have x1 := kcell hg x1
                have x2 := kcell hg x2
                have y0 := kcell hg y0
                have y1 := kcell hg y1
                have y2 := kcell hg y2
                have y3 := kcell hg y3
                have f0 := kcell hg f0
                have f1 := kcell hg f1
                have LC : Hid (Below w.heap.size w (w5.alloc (.cells #[.int .i64 0, .int .i64 0, .float .f64 0, .float .f64 0] 38))) := bl_trans LC.out hg
                have KK : Hid (Blk (w5.alloc (.cells #[.int .i64 0, .int .i64 0, .float .f64 0, .float .f64 0] 38)) w.heap.size #[.slice s1 A.length c1, .slice s2 B.length c2, .slice s3 C.length c3] 24 ∧ Blk (w5.alloc (.cells #[.int .i64 0, .int .i64 0, .float .f64 0, .float .f64 0] 38)) (w.heap.size + 1) #[.slice i1 W.gens.length j1, .slice i2 W.free.length j2, .slice i3 W.tabs.length j3, .slice i4 W.res.length j4] 31 ∧ Blk (w5.alloc (.cells #[.int .i64 0, .int .i64 0, .float .f64 0, .float .f64 0] 38)) (w.heap.size + 1 + 1) #[.int .i64 e.1, .int .i64 e.2] 33) := ⟨KK.out.1.later hg, KK.out.2.1.later hg, KK.out.2.2.later hg⟩
                have D3 : Hid (Decls (w5.alloc (.cells #[.int .i64 0, .int .i64 0, .float .f64 0, .float .f64 0] 38)) (some ⟨a3, 0, none⟩) A ∧ Decls (w5.alloc (.cells #[.int .i64 0, .int .i64 0, .float .f64 0, .float .f64 0] 38)) (some ⟨b3, 0, none⟩) B ∧ Decls (w5.alloc (.cells #[.int .i64 0, .int .i64 0, .float .f64 0, .float .f64 0] 38)) (some ⟨d3, 0, none⟩) C) := ⟨D3.out.1.later hg, D3.out.2.1.later hg, D3.out.2.2.later hg⟩
                have E4 : Hid (InW (w5.alloc (.cells #[.int .i64 0, .int .i64 0, .float .f64 0, .float .f64 0] 38)) 0 (some ⟨m4, 0, none⟩) (some ⟨n4, 0, none⟩) (some ⟨o4, 0, none⟩) (some ⟨p4, 0, none⟩) W) := E4.out.later hg
                refine hK.out _ _ ?_ (fun hHeld => ?_)
                · exact ⟨x0, x1, x2, y0, y1, y2, y3, f0, f1⟩
                clear hK K
                try simp only [List.foldl, Act.put, List.setIfInBounds_toArray, List.set_cons_zero, List.set_cons_succ]
                generalize hGe : (w5.alloc (.cells #[.int .i64 0, .int .i64 0, .float .f64 0, .float .f64 0] 38)) = G at KZ LC hHeld x0 x1 x2 y0 y1 y2 y3 f0 f1 KK D3 E4 ⊢
                obtain ⟨kz, hkz⟩ : ∃ kz, w5.heap.size = kz := ⟨_, rfl⟩
                rw [hkz] at KZ ⊢
                have hkl : w.heap.size + 1 + 1 < kz := by omega
                clear hGe hkz hg
                refine wpAnyH_ready (rs := [7]) (by kernel_rfl) (by simp) ?_
                refine AllReadyH.cons rfl (fun K hK => ?_) AllReadyH.nil
                go_simp
                refine (specGet_any a3 0 A.length b3 0 B.length d3 0 C.length A B C (some ⟨m4, 0, none⟩) (some ⟨n4, 0, none⟩) (some ⟨o4, 0, none⟩) (some ⟨p4, 0, none⟩) W.gens.length W.free.length W.tabs.length W.res.length W e comp _ D3.out.1 D3.out.2.1 D3.out.2.2 E4.out HK.out OKC.out).mono ?_
                rintro r0 w7 ⟨hgr, hb_w7⟩
                have hc_w7 : Below G.heap.size G w7 := hb_w7
                have x0 := kcell hc_w7 x0
                have x1 := kcell hc_w7 x1
                have x2 := kcell hc_w7 x2
                have y0 := kcell hc_w7 y0
                have y1 := kcell hc_w7 y1
                have y2 := kcell hc_w7 y2
                have y3 := kcell hc_w7 y3
                have f0 := kcell hc_w7 f0
                have f1 := kcell hc_w7 f1
                have LC : Hid (Below w.heap.size w w7) := bl_trans LC.out hc_w7
                have KK : Hid (Blk w7 w.heap.size #[.slice s1 A.length c1, .slice s2 B.length c2, .slice s3 C.length c3] 24 ∧ Blk w7 (w.heap.size + 1) #[.slice i1 W.gens.length j1, .slice i2 W.free.length j2, .slice i3 W.tabs.length j3, .slice i4 W.res.length j4] 31 ∧ Blk w7 (w.heap.size + 1 + 1) #[.int .i64 e.1, .int .i64 e.2] 33) := ⟨KK.out.1.later hc_w7, KK.out.2.1.later hc_w7, KK.out.2.2.later hc_w7⟩
                have D3 : Hid (Decls w7 (some ⟨a3, 0, none⟩) A ∧ Decls w7 (some ⟨b3, 0, none⟩) B ∧ Decls w7 (some ⟨d3, 0, none⟩) C) := ⟨D3.out.1.later hc_w7, D3.out.2.1.later hc_w7, D3.out.2.2.later hc_w7⟩
                have E4 : Hid (InW w7 0 (some ⟨m4, 0, none⟩) (some ⟨n4, 0, none⟩) (some ⟨o4, 0, none⟩) (some ⟨p4, 0, none⟩) W) := E4.out.later hc_w7
                have KZ : Hid (Blk w7 kz #[.int .i64 0, .int .i64 0, .float .f64 0, .float .f64 0] 38) := KZ.out.later hc_w7
                obtain ⟨v, ok, hov, rfl⟩ := hgr.form
                have HGR : Hid (okV v ∧ GR A B C W e comp (rt v ok)) := ⟨hov, hgr⟩
                clear hov hgr
                clear hb_w7 hc_w7
                refine hK.out _ _ ?_ (fun hHeld => ?_)
                · exact ⟨x0, x1, x2, y0, y1, y2, y3, f0, f1⟩
                clear hK K
                try simp only [List.foldl, Act.put, List.setIfInBounds_toArray, List.set_cons_zero, List.set_cons_succ]
                refine wpAnyH_one (i := 8) (d := 26) (v := ?_) rfl rfl (by kernel_rfl) (by kernel_rfl) (by kernel_rfl) (fun _ _ _ h => h) (by rfl) (by assumption) ?_ ?_
                rotate_left 1
                · intro w hSw; (try dsimp only at hSw); go_simp <;> with_reducible rfl
                simp only [List.foldl, Act.put, List.setIfInBounds_toArray, List.set_cons_zero, List.set_cons_succ]
                refine wpAnyH_one (i := 9) (d := 35) (v := ?_) rfl rfl (by kernel_rfl) (by kernel_rfl) (by kernel_rfl) (fun _ _ _ h => h) (by rfl) (by assumption) ?_ ?_
                rotate_left 1
                · intro w hSw; (try dsimp only at hSw); go_simp <;> with_reducible rfl
                simp only [List.foldl, Act.put, List.setIfInBounds_toArray, List.set_cons_zero, List.set_cons_succ]
                refine wpAnyH_one (i := 10) (d := 36) (v := ?_) rfl rfl (by kernel_rfl) (by kernel_rfl) (by kernel_rfl) (fun _ _ _ h => h) (by rfl) (by assumption) ?_ ?_
                rotate_left 1
                · intro w hSw; (try dsimp only at hSw); go_simp <;> with_reducible rfl
                simp only [List.foldl, Act.put, List.setIfInBounds_toArray, List.set_cons_zero, List.set_cons_succ]
                obtain ⟨k0z, k1z, k2z, k3z, k4z⟩ := KZ.out.four'
                refine wpAnyH_ready (rs := [12]) (by kernel_rfl) (by simp) ?_
                refine AllReadyH.cons rfl (fun K hK => ?_) AllReadyH.nil
                go_simp
                refine hK.out _ _ ?_ (fun hHeld => ?_)
                · refine ⟨(by rw [World.cell?_setCell_far _ _ _ _ (by simp <;> omega), World.cell?_setCell_far _ _ _ _ (by simp <;> omega), World.cell?_setCell_far _ _ _ _ (by simp <;> omega), World.cell?_setCell_far _ _ _ _ (by simp <;> omega)]; exact x0), (by rw [World.cell?_setCell_far _ _ _ _ (by simp <;> omega), World.cell?_setCell_far _ _ _ _ (by simp <;> omega), World.cell?_setCell_far _ _ _ _ (by simp <;> omega), World.cell?_setCell_far _ _ _ _ (by simp <;> omega)]; exact x1), (by rw [World.cell?_setCell_far _ _ _ _ (by simp <;> omega), World.cell?_setCell_far _ _ _ _ (by simp <;> omega), World.cell?_setCell_far _ _ _ _ (by simp <;> omega), World.cell?_setCell_far _ _ _ _ (by simp <;> omega)]; exact x2), (by rw [World.cell?_setCell_far _ _ _ _ (by simp <;> omega), World.cell?_setCell_far _ _ _ _ (by simp <;> omega), World.cell?_setCell_far _ _ _ _ (by simp <;> omega), World.cell?_setCell_far _ _ _ _ (by simp <;> omega)]; exact y0), (by rw [World.cell?_setCell_far _ _ _ _ (by simp <;> omega), World.cell?_setCell_far _ _ _ _ (by simp <;> omega), World.cell?_setCell_far _ _ _ _ (by simp <;> omega), World.cell?_setCell_far _ _ _ _ (by simp <;> omega)]; exact y1), (by rw [World.cell?_setCell_far _ _ _ _ (by simp <;> omega), World.cell?_setCell_far _ _ _ _ (by simp <;> omega), World.cell?_setCell_far _ _ _ _ (by simp <;> omega), World.cell?_setCell_far _ _ _ _ (by simp <;> omega)]; exact y2), (by rw [World.cell?_setCell_far _ _ _ _ (by simp <;> omega), World.cell?_setCell_far _ _ _ _ (by simp <;> omega), World.cell?_setCell_far _ _ _ _ (by simp <;> omega), World.cell?_setCell_far _ _ _ _ (by simp <;> omega)]; exact y3), (by rw [World.cell?_setCell_far _ _ _ _ (by simp <;> omega), World.cell?_setCell_far _ _ _ _ (by simp <;> omega), World.cell?_setCell_far _ _ _ _ (by simp <;> omega), World.cell?_setCell_far _ _ _ _ (by simp <;> omega)]; exact f0), (by rw [World.cell?_setCell_far _ _ _ _ (by simp <;> omega), World.cell?_setCell_far _ _ _ _ (by simp <;> omega), World.cell?_setCell_far _ _ _ _ (by simp <;> omega), World.cell?_setCell_far _ _ _ _ (by simp <;> omega)]; exact f1)⟩
                clear hK K
                try simp only [List.foldl, Act.put, List.setIfInBounds_toArray, List.set_cons_zero, List.set_cons_succ]
                refine wpAnyH_one (i := 13) (d := 11) (v := ?_) rfl rfl (by kernel_rfl) (by kernel_rfl) (by kernel_rfl) (fun _ _ _ h => h) (by rfl) (by assumption) ?_ ?_
                rotate_left 1
                · intro w hSw; (try dsimp only at hSw); go_simp <;> with_reducible rfl
                simp only [List.foldl, Act.put, List.setIfInBounds_toArray, List.set_cons_zero, List.set_cons_succ]
                refine wpAnyH_done (by kernel_rfl) ?_ _
                go_wp2_with fail
                go_meet
                have KV : Blk _ kz #[.int .i64 v.1, .int .i64 v.2.1, .float .f64 v.2.2.1, .float .f64 v.2.2.2] 38 := (((KZ.out.set 0 (.int .i64 v.1)).set 1 (.int .i64 v.2.1)).set 2 (.float .f64 v.2.2.1)).set 3 (.float .f64 v.2.2.2)
                refine ⟨kz, v, ok, rfl, rfl, HGR.out.1, HGR.out.2, KV, ((((KK.out.1.other (m := kz) (by omega) 0 _).other (m := kz) (by omega) 1 _).other (m := kz) (by omega) 2 _).other (m := kz) (by omega) 3 _), ((((KK.out.2.1.other (m := kz) (by omega) 0 _).other (m := kz) (by omega) 1 _).other (m := kz) (by omega) 2 _).other (m := kz) (by omega) 3 _), ((((KK.out.2.2.other (m := kz) (by omega) 0 _).other (m := kz) (by omega) 1 _).other (m := kz) (by omega) 2 _).other (m := kz) (by omega) 3 _), ?_⟩
                repeat (first | with_reducible exact LC.out | with_reducible refine Below.setCell ?_ (by simp <;> omega) _)
            · refine AllReadyH.cons rfl (fun K hK => ?_) AllReadyH.nil
              go_simp
              have hg : Below w4.heap.size w4 (w4.alloc (.cells #[.int .i64 0, .int .i64 0, .float .f64 0, .float .f64 0] 38)) := bl_alloc (Below.refl _ _) _
              have KZ : Hid (Blk (w4.alloc (.cells #[.int .i64 0, .int .i64 0, .float .f64 0, .float .f64 0] 38)) w4.heap.size #[.int .i64 0, .int .i64 0, .float .f64 0, .float .f64 0] 38) := Blk.new w4 _ _
              have hkl : w.heap.size + 1 + 1 < w4.heap.size := KK.out.2.2.lt
              have x0 := kcell hg x0
              have x1 := kcell hg x1
              have x2 := kcell hg x2
              have y0 := kcell hg y0
              have y1 := kcell hg y1
              have y2 := kcell hg y2
              have y3 := kcell hg y3
              have f0 := kcell hg f0
              have f1 := kcell hg f1
              have LC : Hid (Below w.heap.size w (w4.alloc (.cells #[.int .i64 0, .int .i64 0, .float .f64 0, .float .f64 0] 38))) := bl_trans LC.out hg
              have KK : Hid (Blk (w4.alloc (.cells #[.int .i64 0, .int .i64 0, .float .f64 0, .float .f64 0] 38)) w.heap.size #[.slice s1 A.length c1, .slice s2 B.length c2, .slice s3 C.length c3] 24 ∧ Blk (w4.alloc (.cells #[.int .i64 0, .int .i64 0, .float .f64 0, .float .f64 0] 38)) (w.heap.size + 1) #[.slice i1 W.gens.length j1, .slice i2 W.free.length j2, .slice i3 W.tabs.length j3, .slice i4 W.res.length j4] 31 ∧ Blk (w4.alloc (.cells #[.int .i64 0, .int .i64 0, .float .f64 0, .float .f64 0] 38)) (w.heap.size + 1 + 1) #[.int .i64 e.1, .int .i64 e.2] 33) := ⟨KK.out.1.later hg, KK.out.2.1.later hg, KK.out.2.2.later hg⟩
              have D3 : Hid (Decls (w4.alloc (.cells #[.int .i64 0, .int .i64 0, .float .f64 0, .float .f64 0] 38)) (some ⟨a3, 0, none⟩) A ∧ Decls (w4.alloc (.cells #[.int .i64 0, .int .i64 0, .float .f64 0, .float .f64 0] 38)) (some ⟨b3, 0, none⟩) B ∧ Decls (w4.alloc (.cells #[.int .i64 0, .int .i64 0, .float .f64 0, .float .f64 0] 38)) (some ⟨d3, 0, none⟩) C) := ⟨D3.out.1.later hg, D3.out.2.1.later hg, D3.out.2.2.later hg⟩
              have E4 : Hid (InW (w4.alloc (.cells #[.int .i64 0, .int .i64 0, .float .f64 0, .float .f64 0] 38)) 0 (some ⟨m4, 0, none⟩) (some ⟨n4, 0, none⟩) (some ⟨o4, 0, none⟩) (some ⟨p4, 0, none⟩) W) := E4.out.later hg
              refine hK.out _ _ ?_ (fun hHeld => ?_)
              · exact ⟨x0, x1, x2, y0, y1, y2, y3, f0, f1⟩
              clear hK K
              try simp only [List.foldl, Act.put, List.setIfInBounds_toArray, List.set_cons_zero, List.set_cons_succ]
              generalize hGe : (w4.alloc (.cells #[.int .i64 0, .int .i64 0, .float .f64 0, .float .f64 0] 38)) = G at KZ LC hHeld x0 x1 x2 y0 y1 y2 y3 f0 f1 KK D3 E4 ⊢
              obtain ⟨kz, hkz⟩ : ∃ kz, w4.heap.size = kz := ⟨_, rfl⟩
              rw [hkz] at KZ ⊢
              have hkl : w.heap.size + 1 + 1 < kz := by omega
              clear hGe hkz hg
              refine wpAnyH_ready (rs := [5]) (by kernel_rfl) (by simp) ?_
              refine AllReadyH.cons rfl (fun K hK => ?_) AllReadyH.nil
              go_simp
              refine (toEnt_any e.1 e.2 _).mono ?_
              rintro r0 w5 ⟨rfl, hb_w5⟩
              have hc_w5 : Below G.heap.size G w5 := hb_w5
              have x0 := kcell hc_w5 x0
              have x1 := kcell hc_w5 x1
              have x2 := kcell hc_w5 x2
              have y0 := kcell hc_w5 y0
              have y1 := kcell hc_w5 y1
              have y2 := kcell hc_w5 y2
              have y3 := kcell hc_w5 y3
              have f0 := kcell hc_w5 f0
              have f1 := kcell hc_w5 f1
              have LC : Hid (Below w.heap.size w w5) := bl_trans LC.out hc_w5
              have KK : Hid (Blk w5 w.heap.size #[.slice s1 A.length c1, .slice s2 B.length c2, .slice s3 C.length c3] 24 ∧ Blk w5 (w.heap.size + 1) #[.slice i1 W.gens.length j1, .slice i2 W.free.length j2, .slice i3 W.tabs.length j3, .slice i4 W.res.length j4] 31 ∧ Blk w5 (w.heap.size + 1 + 1) #[.int .i64 e.1, .int .i64 e.2] 33) := ⟨KK.out.1.later hc_w5, KK.out.2.1.later hc_w5, KK.out.2.2.later hc_w5⟩
              have D3 : Hid (Decls w5 (some ⟨a3, 0, none⟩) A ∧ Decls w5 (some ⟨b3, 0, none⟩) B ∧ Decls w5 (some ⟨d3, 0, none⟩) C) := ⟨D3.out.1.later hc_w5, D3.out.2.1.later hc_w5, D3.out.2.2.later hc_w5⟩
              have E4 : Hid (InW w5 0 (some ⟨m4, 0, none⟩) (some ⟨n4, 0, none⟩) (some ⟨o4, 0, none⟩) (some ⟨p4, 0, none⟩) W) := E4.out.later hc_w5
              have KZ : Hid (Blk w5 kz #[.int .i64 0, .int .i64 0, .float .f64 0, .float .f64 0] 38) := KZ.out.later hc_w5
              clear hb_w5 hc_w5
              refine hK.out _ _ ?_ (fun hHeld => ?_)
              · exact ⟨x0, x1, x2, y0, y1, y2, y3, f0, f1⟩
              clear hK K
              try simp only [List.foldl, Act.put, List.setIfInBounds_toArray, List.set_cons_zero, List.set_cons_succ]
              refine wpAnyH_ready (rs := [7]) (by kernel_rfl) (by simp) ?_
              refine AllReadyH.cons rfl (fun K hK => ?_) AllReadyH.nil
              go_simp
              refine (specGet_any a3 0 A.length b3 0 B.length d3 0 C.length A B C (some ⟨m4, 0, none⟩) (some ⟨n4, 0, none⟩) (some ⟨o4, 0, none⟩) (some ⟨p4, 0, none⟩) W.gens.length W.free.length W.tabs.length W.res.length W e comp _ D3.out.1 D3.out.2.1 D3.out.2.2 E4.out HK.out OKC.out).mono ?_
              rintro r0 w7 ⟨hgr, hb_w7⟩
              have hc_w7 : Below w5.heap.size w5 w7 := hb_w7
              have x0 := kcell hc_w7 x0
              have x1 := kcell hc_w7 x1
              have x2 := kcell hc_w7 x2
              have y0 := kcell hc_w7 y0
              have y1 := kcell hc_w7 y1
              have y2 := kcell hc_w7 y2
              have y3 := kcell hc_w7 y3
              have f0 := kcell hc_w7 f0
              have f1 := kcell hc_w7 f1
              have LC : Hid (Below w.heap.size w w7) := bl_trans LC.out hc_w7
              have KK : Hid (Blk w7 w.heap.size #[.slice s1 A.length c1, .slice s2 B.length c2, .slice s3 C.length c3] 24 ∧ Blk w7 (w.heap.size + 1) #[.slice i1 W.gens.length j1, .slice i2 W.free.length j2, .slice i3 W.tabs.length j3, .slice i4 W.res.length j4] 31 ∧ Blk w7 (w.heap.size + 1 + 1) #[.int .i64 e.1, .int .i64 e.2] 33) := ⟨KK.out.1.later hc_w7, KK.out.2.1.later hc_w7, KK.out.2.2.later hc_w7⟩
              have D3 : Hid (Decls w7 (some ⟨a3, 0, none⟩) A ∧ Decls w7 (some ⟨b3, 0, none⟩) B ∧ Decls w7 (some ⟨d3, 0, none⟩) C) := ⟨D3.out.1.later hc_w7, D3.out.2.1.later hc_w7, D3.out.2.2.later hc_w7⟩
              have E4 : Hid (InW w7 0 (some ⟨m4, 0, none⟩) (some ⟨n4, 0, none⟩) (some ⟨o4, 0, none⟩) (some ⟨p4, 0, none⟩) W) := E4.out.later hc_w7
              have KZ : Hid (Blk w7 kz #[.int .i64 0, .int .i64 0, .float .f64 0, .float .f64 0] 38) := KZ.out.later hc_w7
              obtain ⟨v, ok, hov, rfl⟩ := hgr.form
              have HGR : Hid (okV v ∧ GR A B C W e comp (rt v ok)) := ⟨hov, hgr⟩
              clear hov hgr
              clear hb_w7 hc_w7
              refine hK.out _ _ ?_ (fun hHeld => ?_)
              · exact ⟨x0, x1, x2, y0, y1, y2, y3, f0, f1⟩
              clear hK K
              try simp only [List.foldl, Act.put, List.setIfInBounds_toArray, List.set_cons_zero, List.set_cons_succ]
              refine wpAnyH_one (i := 8) (d := 26) (v := ?_) rfl rfl (by kernel_rfl) (by kernel_rfl) (by kernel_rfl) (fun _ _ _ h => h) (by rfl) (by assumption) ?_ ?_
              rotate_left 1
              · intro w hSw; (try dsimp only at hSw); go_simp <;> with_reducible rfl
              simp only [List.foldl, Act.put, List.setIfInBounds_toArray, List.set_cons_zero, List.set_cons_succ]
              refine wpAnyH_one (i := 9) (d := 35) (v := ?_) rfl rfl (by kernel_rfl) (by kernel_rfl) (by kernel_rfl) (fun _ _ _ h => h) (by rfl) (by assumption) ?_ ?_
              rotate_left 1
              · intro w hSw; (try dsimp only at hSw); go_simp <;> with_reducible rfl
              simp only [List.foldl, Act.put, List.setIfInBounds_toArray, List.set_cons_zero, List.set_cons_succ]
              refine wpAnyH_one (i := 10) (d := 36) (v := ?_) rfl rfl (by kernel_rfl) (by kernel_rfl) (by kernel_rfl) (fun _ _ _ h => h) (by rfl) (by assumption) ?_ ?_
              rotate_left 1
              · intro w hSw; (try dsimp only at hSw); go_simp <;> with_reducible rfl
              simp only [List.foldl, Act.put, List.setIfInBounds_toArray, List.set_cons_zero, List.set_cons_succ]
              obtain ⟨k0z, k1z, k2z, k3z, k4z⟩ := KZ.out.four'
              refine wpAnyH_ready (rs := [12]) (by kernel_rfl) (by simp) ?_
              refine AllReadyH.cons rfl (fun K hK => ?_) AllReadyH.nil
              go_simp
              refine hK.out _ _ ?_ (fun hHeld => ?_)
              · refine ⟨(by rw [World.cell?_setCell_far _ _ _ _ (by simp <;> omega), World.cell?_setCell_far _ _ _ _ (by simp <;> omega), World.cell?_setCell_far _ _ _ _ (by simp <;> omega), World.cell?_setCell_far _ _ _ _ (by simp <;> omega)]; exact x0), (by rw [World.cell?_setCell_far _ _ _ _ (by simp <;> omega), World.cell?_setCell_far _ _ _ _ (by simp <;> omega), World.cell?_setCell_far _ _ _ _ (by simp <;> omega), World.cell?_setCell_far _ _ _ _ (by simp <;> omega)]; exact x1), (by rw [World.cell?_setCell_far _ _ _ _ (by simp <;> omega), World.cell?_setCell_far _ _ _ _ (by simp <;> omega), World.cell?_setCell_far _ _ _ _ (by simp <;> omega), World.cell?_setCell_far _ _ _ _ (by simp <;> omega)]; exact x2), (by rw [World.cell?_setCell_far _ _ _ _ (by simp <;> omega), World.cell?_setCell_far _ _ _ _ (by simp <;> omega), World.cell?_setCell_far _ _ _ _ (by simp <;> omega), World.cell?_setCell_far _ _ _ _ (by simp <;> omega)]; exact y0), (by rw [World.cell?_setCell_far _ _ _ _ (by simp <;> omega), World.cell?_setCell_far _ _ _ _ (by simp <;> omega), World.cell?_setCell_far _ _ _ _ (by simp <;> omega), World.cell?_setCell_far _ _ _ _ (by simp <;> omega)]; exact y1), (by rw [World.cell?_setCell_far _ _ _ _ (by simp <;> omega), World.cell?_setCell_far _ _ _ _ (by simp <;> omega), World.cell?_setCell_far _ _ _ _ (by simp <;> omega), World.cell?_setCell_far _ _ _ _ (by simp <;> omega)]; exact y2), (by rw [World.cell?_setCell_far _ _ _ _ (by simp <;> omega), World.cell?_setCell_far _ _ _ _ (by simp <;> omega), World.cell?_setCell_far _ _ _ _ (by simp <;> omega), World.cell?_setCell_far _ _ _ _ (by simp <;> omega)]; exact y3), (by rw [World.cell?_setCell_far _ _ _ _ (by simp <;> omega), World.cell?_setCell_far _ _ _ _ (by simp <;> omega), World.cell?_setCell_far _ _ _ _ (by simp <;> omega), World.cell?_setCell_far _ _ _ _ (by simp <;> omega)]; exact f0), (by rw [World.cell?_setCell_far _ _ _ _ (by simp <;> omega), World.cell?_setCell_far _ _ _ _ (by simp <;> omega), World.cell?_setCell_far _ _ _ _ (by simp <;> omega), World.cell?_setCell_far _ _ _ _ (by simp <;> omega)]; exact f1)⟩
              clear hK K
              try simp only [List.foldl, Act.put, List.setIfInBounds_toArray, List.set_cons_zero, List.set_cons_succ]
              refine wpAnyH_one (i := 13) (d := 11) (v := ?_) rfl rfl (by kernel_rfl) (by kernel_rfl) (by kernel_rfl) (fun _ _ _ h => h) (by rfl) (by assumption) ?_ ?_
              rotate_left 1
              · intro w hSw; (try dsimp only at hSw); go_simp <;> with_reducible rfl
              simp only [List.foldl, Act.put, List.setIfInBounds_toArray, List.set_cons_zero, List.set_cons_succ]
              refine wpAnyH_done (by kernel_rfl) ?_ _
              go_wp2_with fail
              go_meet
              have KV : Blk _ kz #[.int .i64 v.1, .int .i64 v.2.1, .float .f64 v.2.2.1, .float .f64 v.2.2.2] 38 := (((KZ.out.set 0 (.int .i64 v.1)).set 1 (.int .i64 v.2.1)).set 2 (.float .f64 v.2.2.1)).set 3 (.float .f64 v.2.2.2)
              refine ⟨kz, v, ok, rfl, rfl, HGR.out.1, HGR.out.2, KV, ((((KK.out.1.other (m := kz) (by omega) 0 _).other (m := kz) (by omega) 1 _).other (m := kz) (by omega) 2 _).other (m := kz) (by omega) 3 _), ((((KK.out.2.1.other (m := kz) (by omega) 0 _).other (m := kz) (by omega) 1 _).other (m := kz) (by omega) 2 _).other (m := kz) (by omega) 3 _), ((((KK.out.2.2.other (m := kz) (by omega) 0 _).other (m := kz) (by omega) 1 _).other (m := kz) (by omega) 2 _).other (m := kz) (by omega) 3 _), ?_⟩
              repeat (first | with_reducible exact LC.out | with_reducible refine Below.setCell ?_ (by simp <;> omega) _)
          · refine AllReadyH.cons rfl (fun K hK => ?_) AllReadyH.nil
            go_simp
            have hg : Below w3.heap.size w3 (w3.alloc (.cells #[.int .i64 0, .int .i64 0, .float .f64 0, .float .f64 0] 38)) := bl_alloc (Below.refl _ _) _
            have KZ : Hid (Blk (w3.alloc (.cells #[.int .i64 0, .int .i64 0, .float .f64 0, .float .f64 0] 38)) w3.heap.size #[.int .i64 0, .int .i64 0, .float .f64 0, .float .f64 0] 38) := Blk.new w3 _ _
            have hkl : w.heap.size + 1 + 1 < w3.heap.size := KK.out.2.2.lt
            have x0 := kcell hg x0
            have x1 := kcell hg x1
            have x2 := kcell hg x2
            have y0 := kcell hg y0
            have y1 := kcell hg y1
            have y2 := kcell hg y2
            have y3 := kcell hg y3
            have f0 := kcell hg f0
            have f1 := kcell hg f1
            have LC : Hid (Below w.heap.size w (w3.alloc (.cells #[.int .i64 0, .int .i64 0, .float .f64 0, .float .f64 0] 38))) := bl_trans LC.out hg
            have KK : Hid (Blk (w3.alloc (.cells #[.int .i64 0, .int .i64 0, .float .f64 0, .float .f64 0] 38)) w.heap.size #[.slice s1 A.length c1, .slice s2 B.length c2, .slice s3 C.length c3] 24 ∧ Blk (w3.alloc (.cells #[.int .i64 0, .int .i64 0, .float .f64 0, .float .f64 0] 38)) (w.heap.size + 1) #[.slice i1 W.gens.length j1, .slice i2 W.free.length j2, .slice i3 W.tabs.length j3, .slice i4 W.res.length j4] 31 ∧ Blk (w3.alloc (.cells #[.int .i64 0, .int .i64 0, .float .f64 0, .float .f64 0] 38)) (w.heap.size + 1 + 1) #[.int .i64 e.1, .int .i64 e.2] 33) := ⟨KK.out.1.later hg, KK.out.2.1.later hg, KK.out.2.2.later hg⟩
            have D3 : Hid (Decls (w3.alloc (.cells #[.int .i64 0, .int .i64 0, .float .f64 0, .float .f64 0] 38)) (some ⟨a3, 0, none⟩) A ∧ Decls (w3.alloc (.cells #[.int .i64 0, .int .i64 0, .float .f64 0, .float .f64 0] 38)) (some ⟨b3, 0, none⟩) B ∧ Decls (w3.alloc (.cells #[.int .i64 0, .int .i64 0, .float .f64 0, .float .f64 0] 38)) (some ⟨d3, 0, none⟩) C) := ⟨D3.out.1.later hg, D3.out.2.1.later hg, D3.out.2.2.later hg⟩
            refine hK.out _ _ ?_ (fun hHeld => ?_)
            · exact ⟨x0, x1, x2, y0, y1, y2, y3, f0, f1⟩
            clear hK K
            try simp only [List.foldl, Act.put, List.setIfInBounds_toArray, List.set_cons_zero, List.set_cons_succ]
            generalize hGe : (w3.alloc (.cells #[.int .i64 0, .int .i64 0, .float .f64 0, .float .f64 0] 38)) = G at KZ LC hHeld x0 x1 x2 y0 y1 y2 y3 f0 f1 KK D3 ⊢
            obtain ⟨kz, hkz⟩ : ∃ kz, w3.heap.size = kz := ⟨_, rfl⟩
            rw [hkz] at KZ ⊢
            have hkl : w.heap.size + 1 + 1 < kz := by omega
            clear hGe hkz hg
            refine wpAnyH_ready (rs := [3]) (by kernel_rfl) (by simp) ?_
            refine AllReadyH.cons rfl (fun K hK => ?_) AllReadyH.nil
            go_simp
            refine (toWorld_made i1 i2 i3 i4 j1 j2 j3 j4 W 0 _ (HW.out.later LC.out) HK.out).mono ?_
            rintro r0 w4 ⟨⟨m4, n4, o4, p4, rfl, hE4⟩, hb_w4⟩
            have hc_w4 : Below G.heap.size G w4 := hb_w4
            have x0 := kcell hc_w4 x0
            have x1 := kcell hc_w4 x1
            have x2 := kcell hc_w4 x2
            have y0 := kcell hc_w4 y0
            have y1 := kcell hc_w4 y1
            have y2 := kcell hc_w4 y2
            have y3 := kcell hc_w4 y3
            have f0 := kcell hc_w4 f0
            have f1 := kcell hc_w4 f1
            have LC : Hid (Below w.heap.size w w4) := bl_trans LC.out hc_w4
            have KK : Hid (Blk w4 w.heap.size #[.slice s1 A.length c1, .slice s2 B.length c2, .slice s3 C.length c3] 24 ∧ Blk w4 (w.heap.size + 1) #[.slice i1 W.gens.length j1, .slice i2 W.free.length j2, .slice i3 W.tabs.length j3, .slice i4 W.res.length j4] 31 ∧ Blk w4 (w.heap.size + 1 + 1) #[.int .i64 e.1, .int .i64 e.2] 33) := ⟨KK.out.1.later hc_w4, KK.out.2.1.later hc_w4, KK.out.2.2.later hc_w4⟩
            have D3 : Hid (Decls w4 (some ⟨a3, 0, none⟩) A ∧ Decls w4 (some ⟨b3, 0, none⟩) B ∧ Decls w4 (some ⟨d3, 0, none⟩) C) := ⟨D3.out.1.later hc_w4, D3.out.2.1.later hc_w4, D3.out.2.2.later hc_w4⟩
            have KZ : Hid (Blk w4 kz #[.int .i64 0, .int .i64 0, .float .f64 0, .float .f64 0] 38) := KZ.out.later hc_w4
            have E4 : Hid (InW w4 0 (some ⟨m4, 0, none⟩) (some ⟨n4, 0, none⟩) (some ⟨o4, 0, none⟩) (some ⟨p4, 0, none⟩) W) := hE4.drop (Nat.zero_le _)
            clear hE4
            clear hb_w4 hc_w4
            refine hK.out _ _ ?_ (fun hHeld => ?_)
            · exact ⟨x0, x1, x2, y0, y1, y2, y3, f0, f1⟩
            clear hK K
            try simp only [List.foldl, Act.put, List.setIfInBounds_toArray, List.set_cons_zero, List.set_cons_succ]
            refine wpAnyH_ready (rs := [5]) (by kernel_rfl) (by simp) ?_
            refine AllReadyH.cons rfl (fun K hK => ?_) AllReadyH.nil
            go_simp
            refine (toEnt_any e.1 e.2 _).mono ?_
            rintro r0 w5 ⟨rfl, hb_w5⟩
            have hc_w5 : Below w4.heap.size w4 w5 := hb_w5
            have x0 := kcell hc_w5 x0
            have x1 := kcell hc_w5 x1
            have x2 := kcell hc_w5 x2
            have y0 := kcell hc_w5 y0
            have y1 := kcell hc_w5 y1
            have y2 := kcell hc_w5 y2
            have y3 := kcell hc_w5 y3
            have f0 := kcell hc_w5 f0
            have f1 := kcell hc_w5 f1
            have LC : Hid (Below w.heap.size w w5) := bl_trans LC.out hc_w5
            have KK : Hid (Blk w5 w.heap.size #[.slice s1 A.length c1, .slice s2 B.length c2, .slice s3 C.length c3] 24 ∧ Blk w5 (w.heap.size + 1) #[.slice i1 W.gens.length j1, .slice i2 W.free.length j2, .slice i3 W.tabs.length j3, .slice i4 W.res.length j4] 31 ∧ Blk w5 (w.heap.size + 1 + 1) #[.int .i64 e.1, .int .i64 e.2] 33) := ⟨KK.out.1.later hc_w5, KK.out.2.1.later hc_w5, KK.out.2.2.later hc_w5⟩
            have D3 : Hid (Decls w5 (some ⟨a3, 0, none⟩) A ∧ Decls w5 (some ⟨b3, 0, none⟩) B ∧ Decls w5 (some ⟨d3, 0, none⟩) C) := ⟨D3.out.1.later hc_w5, D3.out.2.1.later hc_w5, D3.out.2.2.later hc_w5⟩
            have E4 : Hid (InW w5 0 (some ⟨m4, 0, none⟩) (some ⟨n4, 0, none⟩) (some ⟨o4, 0, none⟩) (some ⟨p4, 0, none⟩) W) := E4.out.later hc_w5
            have KZ : Hid (Blk w5 kz #[.int .i64 0, .int .i64 0, .float .f64 0, .float .f64 0] 38) := KZ.out.later hc_w5
            clear hb_w5 hc_w5
            refine hK.out _ _ ?_ (fun hHeld => ?_)
            · exact ⟨x0, x1, x2, y0, y1, y2, y3, f0, f1⟩
            clear hK K
            try simp only [List.foldl, Act.put, List.setIfInBounds_toArray, List.set_cons_zero, List.set_cons_succ]
            refine wpAnyH_ready (rs := [7]) (by kernel_rfl) (by simp) ?_
            refine AllReadyH.cons rfl (fun K hK => ?_) AllReadyH.nil
            go_simp
            refine (specGet_any a3 0 A.length b3 0 B.length d3 0 C.length A B C (some ⟨m4, 0, none⟩) (some ⟨n4, 0, none⟩) (some ⟨o4, 0, none⟩) (some ⟨p4, 0, none⟩) W.gens.length W.free.length W.tabs.length W.res.length W e comp _ D3.out.1 D3.out.2.1 D3.out.2.2 E4.out HK.out OKC.out).mono ?_
            rintro r0 w7 ⟨hgr, hb_w7⟩
            have hc_w7 : Below w5.heap.size w5 w7 := hb_w7
            have x0 := kcell hc_w7 x0
            have x1 := kcell hc_w7 x1
            have x2 := kcell hc_w7 x2
            have y0 := kcell hc_w7 y0
            have y1 := kcell hc_w7 y1
            have y2 := kcell hc_w7 y2
            have y3 := kcell hc_w7 y3
            have f0 := kcell hc_w7 f0
            have f1 := kcell hc_w7 f1
            have LC : Hid (Below w.heap.size w w7) := bl_trans LC.out hc_w7
            have KK : Hid (Blk w7 w.heap.size #[.slice s1 A.length c1, .slice s2 B.length c2, .slice s3 C.length c3] 24 ∧ Blk w7 (w.heap.size + 1) #[.slice i1 W.gens.length j1, .slice i2 W.free.length j2, .slice i3 W.tabs.length j3, .slice i4 W.res.length j4] 31 ∧ Blk w7 (w.heap.size + 1 + 1) #[.int .i64 e.1, .int .i64 e.2] 33) := ⟨KK.out.1.later hc_w7, KK.out.2.1.later hc_w7, KK.out.2.2.later hc_w7⟩
            have D3 : Hid (Decls w7 (some ⟨a3, 0, none⟩) A ∧ Decls w7 (some ⟨b3, 0, none⟩) B ∧ Decls w7 (some ⟨d3, 0, none⟩) C) := ⟨D3.out.1.later hc_w7, D3.out.2.1.later hc_w7, D3.out.2.2.later hc_w7⟩
            have E4 : Hid (InW w7 0 (some ⟨m4, 0, none⟩) (some ⟨n4, 0, none⟩) (some ⟨o4, 0, none⟩) (some ⟨p4, 0, none⟩) W) := E4.out.later hc_w7
            have KZ : Hid (Blk w7 kz #[.int .i64 0, .int .i64 0, .float .f64 0, .float .f64 0] 38) := KZ.out.later hc_w7
            obtain ⟨v, ok, hov, rfl⟩ := hgr.form
            have HGR : Hid (okV v ∧ GR A B C W e comp (rt v ok)) := ⟨hov, hgr⟩
            clear hov hgr
            clear hb_w7 hc_w7
            refine hK.out _ _ ?_ (fun hHeld => ?_)
            · exact ⟨x0, x1, x2, y0, y1, y2, y3, f0, f1⟩
            clear hK K
            try simp only [List.foldl, Act.put, List.setIfInBounds_toArray, List.set_cons_zero, List.set_cons_succ]
            refine wpAnyH_one (i := 8) (d := 26) (v := ?_) rfl rfl (by kernel_rfl) (by kernel_rfl) (by kernel_rfl) (fun _ _ _ h => h) (by rfl) (by assumption) ?_ ?_
            rotate_left 1
            · intro w hSw; (try dsimp only at hSw); go_simp <;> with_reducible rfl
            simp only [List.foldl, Act.put, List.setIfInBounds_toArray, List.set_cons_zero, List.set_cons_succ]
            refine wpAnyH_one (i := 9) (d := 35) (v := ?_) rfl rfl (by kernel_rfl) (by kernel_rfl) (by kernel_rfl) (fun _ _ _ h => h) (by rfl) (by assumption) ?_ ?_
            rotate_left 1
            · intro w hSw; (try dsimp only at hSw); go_simp <;> with_reducible rfl
            simp only [List.foldl, Act.put, List.setIfInBounds_toArray, List.set_cons_zero, List.set_cons_succ]
            refine wpAnyH_one (i := 10) (d := 36) (v := ?_) rfl rfl (by kernel_rfl) (by kernel_rfl) (by kernel_rfl) (fun _ _ _ h => h) (by rfl) (by assumption) ?_ ?_
            rotate_left 1
            · intro w hSw; (try dsimp only at hSw); go_simp <;> with_reducible rfl
            simp only [List.foldl, Act.put, List.setIfInBounds_toArray, List.set_cons_zero, List.set_cons_succ]
            obtain ⟨k0z, k1z, k2z, k3z, k4z⟩ := KZ.out.four'
            refine wpAnyH_ready (rs := [12]) (by kernel_rfl) (by simp) ?_
            refine AllReadyH.cons rfl (fun K hK => ?_) AllReadyH.nil
            go_simp
            refine hK.out _ _ ?_ (fun hHeld => ?_)
            · refine ⟨(by rw [World.cell?_setCell_far _ _ _ _ (by simp <;> omega), World.cell?_setCell_far _ _ _ _ (by simp <;> omega), World.cell?_setCell_far _ _ _ _ (by simp <;> omega), World.cell?_setCell_far _ _ _ _ (by simp <;> omega)]; exact x0), (by rw [World.cell?_setCell_far _ _ _ _ (by simp <;> omega), World.cell?_setCell_far _ _ _ _ (by simp <;> omega), World.cell?_setCell_far _ _ _ _ (by simp <;> omega), World.cell?_setCell_far _ _ _ _ (by simp <;> omega)]; exact x1), (by rw [World.cell?_setCell_far _ _ _ _ (by simp <;> omega), World.cell?_setCell_far _ _ _ _ (by simp <;> omega), World.cell?_setCell_far _ _ _ _ (by simp <;> omega), World.cell?_setCell_far _ _ _ _ (by simp <;> omega)]; exact x2), (by rw [World.cell?_setCell_far _ _ _ _ (by simp <;> omega), World.cell?_setCell_far _ _ _ _ (by simp <;> omega), World.cell?_setCell_far _ _ _ _ (by simp <;> omega), World.cell?_setCell_far _ _ _ _ (by simp <;> omega)]; exact y0), (by rw [World.cell?_setCell_far _ _ _ _ (by simp <;> omega), World.cell?_setCell_far _ _ _ _ (by simp <;> omega), World.cell?_setCell_far _ _ _ _ (by simp <;> omega), World.cell?_setCell_far _ _ _ _ (by simp <;> omega)]; exact y1), (by rw [World.cell?_setCell_far _ _ _ _ (by simp <;> omega), World.cell?_setCell_far _ _ _ _ (by simp <;> omega), World.cell?_setCell_far _ _ _ _ (by simp <;> omega), World.cell?_setCell_far _ _ _ _ (by simp <;> omega)]; exact y2), (by rw [World.cell?_setCell_far _ _ _ _ (by simp <;> omega), World.cell?_setCell_far _ _ _ _ (by simp <;> omega), World.cell?_setCell_far _ _ _ _ (by simp <;> omega), World.cell?_setCell_far _ _ _ _ (by simp <;> omega)]; exact y3), (by rw [World.cell?_setCell_far _ _ _ _ (by simp <;> omega), World.cell?_setCell_far _ _ _ _ (by simp <;> omega), World.cell?_setCell_far _ _ _ _ (by simp <;> omega), World.cell?_setCell_far _ _ _ _ (by simp <;> omega)]; exact f0), (by rw [World.cell?_setCell_far _ _ _ _ (by simp <;> omega), World.cell?_setCell_far _ _ _ _ (by simp <;> omega), World.cell?_setCell_far _ _ _ _ (by simp <;> omega), World.cell?_setCell_far _ _ _ _ (by simp <;> omega)]; exact f1)⟩
            clear hK K
            try simp only [List.foldl, Act.put, List.setIfInBounds_toArray, List.set_cons_zero, List.set_cons_succ]
            refine wpAnyH_one (i := 13) (d := 11) (v := ?_) rfl rfl (by kernel_rfl) (by kernel_rfl) (by kernel_rfl) (fun _ _ _ h => h) (by rfl) (by assumption) ?_ ?_
            rotate_left 1
            · intro w hSw; (try dsimp only at hSw); go_simp <;> with_reducible rfl
            simp only [List.foldl, Act.put, List.setIfInBounds_toArray, List.set_cons_zero, List.set_cons_succ]
            refine wpAnyH_done (by kernel_rfl) ?_ _
            go_wp2_with fail
            go_meet
            have KV : Blk _ kz #[.int .i64 v.1, .int .i64 v.2.1, .float .f64 v.2.2.1, .float .f64 v.2.2.2] 38 := (((KZ.out.set 0 (.int .i64 v.1)).set 1 (.int .i64 v.2.1)).set 2 (.float .f64 v.2.2.1)).set 3 (.float .f64 v.2.2.2)
            refine ⟨kz, v, ok, rfl, rfl, HGR.out.1, HGR.out.2, KV, ((((KK.out.1.other (m := kz) (by omega) 0 _).other (m := kz) (by omega) 1 _).other (m := kz) (by omega) 2 _).other (m := kz) (by omega) 3 _), ((((KK.out.2.1.other (m := kz) (by omega) 0 _).other (m := kz) (by omega) 1 _).other (m := kz) (by omega) 2 _).other (m := kz) (by omega) 3 _), ((((KK.out.2.2.other (m := kz) (by omega) 0 _).other (m := kz) (by omega) 1 _).other (m := kz) (by omega) 2 _).other (m := kz) (by omega) 3 _), ?_⟩
            repeat (first | with_reducible exact LC.out | with_reducible refine Below.setCell ?_ (by simp <;> omega) _)
        · refine AllReadyH.cons rfl (fun K hK => ?_) AllReadyH.nil
          go_simp
          have hg : Below w2.heap.size w2 (w2.alloc (.cells #[.int .i64 0, .int .i64 0, .float .f64 0, .float .f64 0] 38)).drew := bl_drew (bl_alloc (Below.refl _ _) _)
          have KZ : Hid (Blk (w2.alloc (.cells #[.int .i64 0, .int .i64 0, .float .f64 0, .float .f64 0] 38)).drew w2.heap.size #[.int .i64 0, .int .i64 0, .float .f64 0, .float .f64 0] 38) := (Blk.new w2 _ _).later (bl_drew (Below.refl _ _))
          have hkl : w.heap.size + 1 + 1 < w2.heap.size := KK.out.2.2.lt
          have x0 := kcell hg x0
          have x1 := kcell hg x1
          have x2 := kcell hg x2
          have y0 := kcell hg y0
          have y1 := kcell hg y1
          have y2 := kcell hg y2
          have y3 := kcell hg y3
          have f0 := kcell hg f0
          have f1 := kcell hg f1
          have LC : Hid (Below w.heap.size w (w2.alloc (.cells #[.int .i64 0, .int .i64 0, .float .f64 0, .float .f64 0] 38)).drew) := bl_trans LC.out hg
          have KK : Hid (Blk (w2.alloc (.cells #[.int .i64 0, .int .i64 0, .float .f64 0, .float .f64 0] 38)).drew w.heap.size #[.slice s1 A.length c1, .slice s2 B.length c2, .slice s3 C.length c3] 24 ∧ Blk (w2.alloc (.cells #[.int .i64 0, .int .i64 0, .float .f64 0, .float .f64 0] 38)).drew (w.heap.size + 1) #[.slice i1 W.gens.length j1, .slice i2 W.free.length j2, .slice i3 W.tabs.length j3, .slice i4 W.res.length j4] 31 ∧ Blk (w2.alloc (.cells #[.int .i64 0, .int .i64 0, .float .f64 0, .float .f64 0] 38)).drew (w.heap.size + 1 + 1) #[.int .i64 e.1, .int .i64 e.2] 33) := ⟨KK.out.1.later hg, KK.out.2.1.later hg, KK.out.2.2.later hg⟩
          refine hK.out _ _ ?_ (fun hHeld => ?_)
          · exact ⟨x0, x1, x2, y0, y1, y2, y3, f0, f1⟩
          clear hK K
          try simp only [List.foldl, Act.put, List.setIfInBounds_toArray, List.set_cons_zero, List.set_cons_succ]
          generalize hGe : (w2.alloc (.cells #[.int .i64 0, .int .i64 0, .float .f64 0, .float .f64 0] 38)).drew = G at KZ LC hHeld x0 x1 x2 y0 y1 y2 y3 f0 f1 KK ⊢
          obtain ⟨kz, hkz⟩ : ∃ kz, w2.heap.size = kz := ⟨_, rfl⟩
          rw [hkz] at KZ ⊢
          have hkl : w.heap.size + 1 + 1 < kz := by omega
          clear hGe hkz hg
          refine wpAnyH_ready (rs := [1]) (by kernel_rfl) (by simp) ?_
          refine AllReadyH.cons rfl (fun K hK => ?_) AllReadyH.nil
          go_simp
          refine (toReg_any s1 s2 s3 c1 c2 c3 A B C _ (HD.out.1.later LC.out) (HD.out.2.1.later LC.out) (HD.out.2.2.later LC.out) lA lB lC).mono ?_
          rintro r0 w3 ⟨⟨a3, b3, d3, rfl, dA3, dB3, dC3⟩, hb_w3⟩
          have hc_w3 : Below G.heap.size G w3 := hb_w3
          have x0 := kcell hc_w3 x0
          have x1 := kcell hc_w3 x1
          have x2 := kcell hc_w3 x2
          have y0 := kcell hc_w3 y0
          have y1 := kcell hc_w3 y1
          have y2 := kcell hc_w3 y2
          have y3 := kcell hc_w3 y3
          have f0 := kcell hc_w3 f0
          have f1 := kcell hc_w3 f1
          have LC : Hid (Below w.heap.size w w3) := bl_trans LC.out hc_w3
          have KK : Hid (Blk w3 w.heap.size #[.slice s1 A.length c1, .slice s2 B.length c2, .slice s3 C.length c3] 24 ∧ Blk w3 (w.heap.size + 1) #[.slice i1 W.gens.length j1, .slice i2 W.free.length j2, .slice i3 W.tabs.length j3, .slice i4 W.res.length j4] 31 ∧ Blk w3 (w.heap.size + 1 + 1) #[.int .i64 e.1, .int .i64 e.2] 33) := ⟨KK.out.1.later hc_w3, KK.out.2.1.later hc_w3, KK.out.2.2.later hc_w3⟩
          have KZ : Hid (Blk w3 kz #[.int .i64 0, .int .i64 0, .float .f64 0, .float .f64 0] 38) := KZ.out.later hc_w3
          have D3 : Hid (Decls w3 (some ⟨a3, 0, none⟩) A ∧ Decls w3 (some ⟨b3, 0, none⟩) B ∧ Decls w3 (some ⟨d3, 0, none⟩) C) := ⟨dA3, dB3, dC3⟩
          clear dA3 dB3 dC3
          clear hb_w3 hc_w3
          refine hK.out _ _ ?_ (fun hHeld => ?_)
          · exact ⟨x0, x1, x2, y0, y1, y2, y3, f0, f1⟩
          clear hK K
          try simp only [List.foldl, Act.put, List.setIfInBounds_toArray, List.set_cons_zero, List.set_cons_succ]
          refine wpAnyH_ready (rs := [3]) (by kernel_rfl) (by simp) ?_
          refine AllReadyH.cons rfl (fun K hK => ?_) AllReadyH.nil
          go_simp
          refine (toWorld_made i1 i2 i3 i4 j1 j2 j3 j4 W 0 _ (HW.out.later LC.out) HK.out).mono ?_
          rintro r0 w4 ⟨⟨m4, n4, o4, p4, rfl, hE4⟩, hb_w4⟩
          have hc_w4 : Below w3.heap.size w3 w4 := hb_w4
          have x0 := kcell hc_w4 x0
          have x1 := kcell hc_w4 x1
          have x2 := kcell hc_w4 x2
          have y0 := kcell hc_w4 y0
          have y1 := kcell hc_w4 y1
          have y2 := kcell hc_w4 y2
          have y3 := kcell hc_w4 y3
          have f0 := kcell hc_w4 f0
          have f1 := kcell hc_w4 f1
          have LC : Hid (Below w.heap.size w w4) := bl_trans LC.out hc_w4
          have KK : Hid (Blk w4 w.heap.size #[.slice s1 A.length c1, .slice s2 B.length c2, .slice s3 C.length c3] 24 ∧ Blk w4 (w.heap.size + 1) #[.slice i1 W.gens.length j1, .slice i2 W.free.length j2, .slice i3 W.tabs.length j3, .slice i4 W.res.length j4] 31 ∧ Blk w4 (w.heap.size + 1 + 1) #[.int .i64 e.1, .int .i64 e.2] 33) := ⟨KK.out.1.later hc_w4, KK.out.2.1.later hc_w4, KK.out.2.2.later hc_w4⟩
          have D3 : Hid (Decls w4 (some ⟨a3, 0, none⟩) A ∧ Decls w4 (some ⟨b3, 0, none⟩) B ∧ Decls w4 (some ⟨d3, 0, none⟩) C) := ⟨D3.out.1.later hc_w4, D3.out.2.1.later hc_w4, D3.out.2.2.later hc_w4⟩
          have KZ : Hid (Blk w4 kz #[.int .i64 0, .int .i64 0, .float .f64 0, .float .f64 0] 38) := KZ.out.later hc_w4
          have E4 : Hid (InW w4 0 (some ⟨m4, 0, none⟩) (some ⟨n4, 0, none⟩) (some ⟨o4, 0, none⟩) (some ⟨p4, 0, none⟩) W) := hE4.drop (Nat.zero_le _)
          clear hE4
          clear hb_w4 hc_w4
          refine hK.out _ _ ?_ (fun hHeld => ?_)
          · exact ⟨x0, x1, x2, y0, y1, y2, y3, f0, f1⟩
          clear hK K
          try simp only [List.foldl, Act.put, List.setIfInBounds_toArray, List.set_cons_zero, List.set_cons_succ]
          refine wpAnyH_ready (rs := [5]) (by kernel_rfl) (by simp) ?_
          refine AllReadyH.cons rfl (fun K hK => ?_) AllReadyH.nil
          go_simp
          refine (toEnt_any e.1 e.2 _).mono ?_
          rintro r0 w5 ⟨rfl, hb_w5⟩
          have hc_w5 : Below w4.heap.size w4 w5 := hb_w5
          have x0 := kcell hc_w5 x0
          have x1 := kcell hc_w5 x1
          have x2 := kcell hc_w5 x2
          have y0 := kcell hc_w5 y0
          have y1 := kcell hc_w5 y1
          have y2 := kcell hc_w5 y2
          have y3 := kcell hc_w5 y3
          have f0 := kcell hc_w5 f0
          have f1 := kcell hc_w5 f1
          have LC : Hid (Below w.heap.size w w5) := bl_trans LC.out hc_w5
          have KK : Hid (Blk w5 w.heap.size #[.slice s1 A.length c1, .slice s2 B.length c2, .slice s3 C.length c3] 24 ∧ Blk w5 (w.heap.size + 1) #[.slice i1 W.gens.length j1, .slice i2 W.free.length j2, .slice i3 W.tabs.length j3, .slice i4 W.res.length j4] 31 ∧ Blk w5 (w.heap.size + 1 + 1) #[.int .i64 e.1, .int .i64 e.2] 33) := ⟨KK.out.1.later hc_w5, KK.out.2.1.later hc_w5, KK.out.2.2.later hc_w5⟩
          have D3 : Hid (Decls w5 (some ⟨a3, 0, none⟩) A ∧ Decls w5 (some ⟨b3, 0, none⟩) B ∧ Decls w5 (some ⟨d3, 0, none⟩) C) := ⟨D3.out.1.later hc_w5, D3.out.2.1.later hc_w5, D3.out.2.2.later hc_w5⟩
          have E4 : Hid (InW w5 0 (some ⟨m4, 0, none⟩) (some ⟨n4, 0, none⟩) (some ⟨o4, 0, none⟩) (some ⟨p4, 0, none⟩) W) := E4.out.later hc_w5
          have KZ : Hid (Blk w5 kz #[.int .i64 0, .int .i64 0, .float .f64 0, .float .f64 0] 38) := KZ.out.later hc_w5
          clear hb_w5 hc_w5
          refine hK.out _ _ ?_ (fun hHeld => ?_)
          · exact ⟨x0, x1, x2, y0, y1, y2, y3, f0, f1⟩
          clear hK K
          try simp only [List.foldl, Act.put, List.setIfInBounds_toArray, List.set_cons_zero, List.set_cons_succ]
          refine wpAnyH_ready (rs := [7]) (by kernel_rfl) (by simp) ?_
          refine AllReadyH.cons rfl (fun K hK => ?_) AllReadyH.nil
          go_simp
          refine (specGet_any a3 0 A.length b3 0 B.length d3 0 C.length A B C (some ⟨m4, 0, none⟩) (some ⟨n4, 0, none⟩) (some ⟨o4, 0, none⟩) (some ⟨p4, 0, none⟩) W.gens.length W.free.length W.tabs.length W.res.length W e comp _ D3.out.1 D3.out.2.1 D3.out.2.2 E4.out HK.out OKC.out).mono ?_
          rintro r0 w7 ⟨hgr, hb_w7⟩
          have hc_w7 : Below w5.heap.size w5 w7 := hb_w7
          have x0 := kcell hc_w7 x0
          have x1 := kcell hc_w7 x1
          have x2 := kcell hc_w7 x2
          have y0 := kcell hc_w7 y0
          have y1 := kcell hc_w7 y1
          have y2 := kcell hc_w7 y2
          have y3 := kcell hc_w7 y3
          have f0 := kcell hc_w7 f0
          have f1 := kcell hc_w7 f1
          have LC : Hid (Below w.heap.size w w7) := bl_trans LC.out hc_w7
          have KK : Hid (Blk w7 w.heap.size #[.slice s1 A.length c1, .slice s2 B.length c2, .slice s3 C.length c3] 24 ∧ Blk w7 (w.heap.size + 1) #[.slice i1 W.gens.length j1, .slice i2 W.free.length j2, .slice i3 W.tabs.length j3, .slice i4 W.res.length j4] 31 ∧ Blk w7 (w.heap.size + 1 + 1) #[.int .i64 e.1, .int .i64 e.2] 33) := ⟨KK.out.1.later hc_w7, KK.out.2.1.later hc_w7, KK.out.2.2.later hc_w7⟩
          have D3 : Hid (Decls w7 (some ⟨a3, 0, none⟩) A ∧ Decls w7 (some ⟨b3, 0, none⟩) B ∧ Decls w7 (some ⟨d3, 0, none⟩) C) := ⟨D3.out.1.later hc_w7, D3.out.2.1.later hc_w7, D3.out.2.2.later hc_w7⟩
          have E4 : Hid (InW w7 0 (some ⟨m4, 0, none⟩) (some ⟨n4, 0, none⟩) (some ⟨o4, 0, none⟩) (some ⟨p4, 0, none⟩) W) := E4.out.later hc_w7
          have KZ : Hid (Blk w7 kz #[.int .i64 0, .int .i64 0, .float .f64 0, .float .f64 0] 38) := KZ.out.later hc_w7
          obtain ⟨v, ok, hov, rfl⟩ := hgr.form
          have HGR : Hid (okV v ∧ GR A B C W e comp (rt v ok)) := ⟨hov, hgr⟩
          clear hov hgr
          clear hb_w7 hc_w7
          refine hK.out _ _ ?_ (fun hHeld => ?_)
          · exact ⟨x0, x1, x2, y0, y1, y2, y3, f0, f1⟩
          clear hK K
          try simp only [List.foldl, Act.put, List.setIfInBounds_toArray, List.set_cons_zero, List.set_cons_succ]
          refine wpAnyH_one (i := 8) (d := 26) (v := ?_) rfl rfl (by kernel_rfl) (by kernel_rfl) (by kernel_rfl) (fun _ _ _ h => h) (by rfl) (by assumption) ?_ ?_
          rotate_left 1
          · intro w hSw; (try dsimp only at hSw); go_simp <;> with_reducible rfl
          simp only [List.foldl, Act.put, List.setIfInBounds_toArray, List.set_cons_zero, List.set_cons_succ]
          refine wpAnyH_one (i := 9) (d := 35) (v := ?_) rfl rfl (by kernel_rfl) (by kernel_rfl) (by kernel_rfl) (fun _ _ _ h => h) (by rfl) (by assumption) ?_ ?_
          rotate_left 1
          · intro w hSw; (try dsimp only at hSw); go_simp <;> with_reducible rfl
          simp only [List.foldl, Act.put, List.setIfInBounds_toArray, List.set_cons_zero, List.set_cons_succ]
          refine wpAnyH_one (i := 10) (d := 36) (v := ?_) rfl rfl (by kernel_rfl) (by kernel_rfl) (by kernel_rfl) (fun _ _ _ h => h) (by rfl) (by assumption) ?_ ?_
          rotate_left 1
          · intro w hSw; (try dsimp only at hSw); go_simp <;> with_reducible rfl
          simp only [List.foldl, Act.put, List.setIfInBounds_toArray, List.set_cons_zero, List.set_cons_succ]
          obtain ⟨k0z, k1z, k2z, k3z, k4z⟩ := KZ.out.four'
          refine wpAnyH_ready (rs := [12]) (by kernel_rfl) (by simp) ?_
          refine AllReadyH.cons rfl (fun K hK => ?_) AllReadyH.nil
          go_simp
          refine hK.out _ _ ?_ (fun hHeld => ?_)
          · refine ⟨(by rw [World.cell?_setCell_far _ _ _ _ (by simp <;> omega), World.cell?_setCell_far _ _ _ _ (by simp <;> omega), World.cell?_setCell_far _ _ _ _ (by simp <;> omega), World.cell?_setCell_far _ _ _ _ (by simp <;> omega)]; exact x0), (by rw [World.cell?_setCell_far _ _ _ _ (by simp <;> omega), World.cell?_setCell_far _ _ _ _ (by simp <;> omega), World.cell?_setCell_far _ _ _ _ (by simp <;> omega), World.cell?_setCell_far _ _ _ _ (by simp <;> omega)]; exact x1), (by rw [World.cell?_setCell_far _ _ _ _ (by simp <;> omega), World.cell?_setCell_far _ _ _ _ (by simp <;> omega), World.cell?_setCell_far _ _ _ _ (by simp <;> omega), World.cell?_setCell_far _ _ _ _ (by simp <;> omega)]; exact x2), (by rw [World.cell?_setCell_far _ _ _ _ (by simp <;> omega), World.cell?_setCell_far _ _ _ _ (by simp <;> omega), World.cell?_setCell_far _ _ _ _ (by simp <;> omega), World.cell?_setCell_far _ _ _ _ (by simp <;> omega)]; exact y0), (by rw [World.cell?_setCell_far _ _ _ _ (by simp <;> omega), World.cell?_setCell_far _ _ _ _ (by simp <;> omega), World.cell?_setCell_far _ _ _ _ (by simp <;> omega), World.cell?_setCell_far _ _ _ _ (by simp <;> omega)]; exact y1), (by rw [World.cell?_setCell_far _ _ _ _ (by simp <;> omega), World.cell?_setCell_far _ _ _ _ (by simp <;> omega), World.cell?_setCell_far _ _ _ _ (by simp <;> omega), World.cell?_setCell_far _ _ _ _ (by simp <;> omega)]; exact y2), (by rw [World.cell?_setCell_far _ _ _ _ (by simp <;> omega), World.cell?_setCell_far _ _ _ _ (by simp <;> omega), World.cell?_setCell_far _ _ _ _ (by simp <;> omega), World.cell?_setCell_far _ _ _ _ (by simp <;> omega)]; exact y3), (by rw [World.cell?_setCell_far _ _ _ _ (by simp <;> omega), World.cell?_setCell_far _ _ _ _ (by simp <;> omega), World.cell?_setCell_far _ _ _ _ (by simp <;> omega), World.cell?_setCell_far _ _ _ _ (by simp <;> omega)]; exact f0), (by rw [World.cell?_setCell_far _ _ _ _ (by simp <;> omega), World.cell?_setCell_far _ _ _ _ (by simp <;> omega), World.cell?_setCell_far _ _ _ _ (by simp <;> omega), World.cell?_setCell_far _ _ _ _ (by simp <;> omega)]; exact f1)⟩
          clear hK K
          try simp only [List.foldl, Act.put, List.setIfInBounds_toArray, List.set_cons_zero, List.set_cons_succ]
          refine wpAnyH_one (i := 13) (d := 11) (v := ?_) rfl rfl (by kernel_rfl) (by kernel_rfl) (by kernel_rfl) (fun _ _ _ h => h) (by rfl) (by assumption) ?_ ?_
          rotate_left 1
          · intro w hSw; (try dsimp only at hSw); go_simp <;> with_reducible rfl
          simp only [List.foldl, Act.put, List.setIfInBounds_toArray, List.set_cons_zero, List.set_cons_succ]
          refine wpAnyH_done (by kernel_rfl) ?_ _
          go_wp2_with fail
          go_meet
          have KV : Blk _ kz #[.int .i64 v.1, .int .i64 v.2.1, .float .f64 v.2.2.1, .float .f64 v.2.2.2] 38 := (((KZ.out.set 0 (.int .i64 v.1)).set 1 (.int .i64 v.2.1)).set 2 (.float .f64 v.2.2.1)).set 3 (.float .f64 v.2.2.2)
          refine ⟨kz, v, ok, rfl, rfl, HGR.out.1, HGR.out.2, KV, ((((KK.out.1.other (m := kz) (by omega) 0 _).other (m := kz) (by omega) 1 _).other (m := kz) (by omega) 2 _).other (m := kz) (by omega) 3 _), ((((KK.out.2.1.other (m := kz) (by omega) 0 _).other (m := kz) (by omega) 1 _).other (m := kz) (by omega) 2 _).other (m := kz) (by omega) 3 _), ((((KK.out.2.2.other (m := kz) (by omega) 0 _).other (m := kz) (by omega) 1 _).other (m := kz) (by omega) 2 _).other (m := kz) (by omega) 3 _), ?_⟩
          repeat (first | with_reducible exact LC.out | with_reducible refine Below.setCell ?_ (by simp <;> omega) _)
      case rest =>
        clear x0 x1 x2 y0 y1 y2 y3 f0 f1 LC KK
        obtain ⟨k10, v0, ok0, rfl, rfl, hov0, hgr0, kv, kA, kB, kC, lc⟩ := hcut
        have KK : Hid (Blk wc w.heap.size #[.slice s1 A.length c1, .slice s2 B.length c2, .slice s3 C.length c3] 24 ∧ Blk wc (w.heap.size + 1) #[.slice i1 W.gens.length j1, .slice i2 W.free.length j2, .slice i3 W.tabs.length j3, .slice i4 W.res.length j4] 31 ∧ Blk wc (w.heap.size + 1 + 1) #[.int .i64 e.1, .int .i64 e.2] 33) := ⟨kA, kB, kC⟩
        have KV : Hid (Blk wc k10 #[.int .i64 v0.1, .int .i64 v0.2.1, .float .f64 v0.2.2.1, .float .f64 v0.2.2.2] 38) := kv
        have LC : Hid (Below w.heap.size w wc) := lc
        have G0 : Hid (okV v0 ∧ GR A B C W e comp (rt v0 ok0)) := ⟨hov0, hgr0⟩
        obtain ⟨x0, x1, x2, x3⟩ := kA.three'
        obtain ⟨y0, y1, y2, y3, y9⟩ := kB.four'
        obtain ⟨f0, f1, f2⟩ := kC.two
        clear kA kB kC kv lc hov0 hgr0 x3 y9 f2
        go_wp2_with fail
        refine (toReg_any s1 s2 s3 c1 c2 c3 A B C _ (HD.out.1.later LC.out) (HD.out.2.1.later LC.out) (HD.out.2.2.later LC.out) lA lB lC).mono ?_
        rintro r w6 ⟨⟨a6, b6, d6, rfl, dA6, dB6, dC6⟩, hb6⟩
        have hc6 : Below wc.heap.size wc (w6.alloc (.cells #[.slice (some ⟨a6, 0, none⟩) A.length A.length, .slice (some ⟨b6, 0, none⟩) B.length B.length, .slice (some ⟨d6, 0, none⟩) C.length C.length] 43)) := bl_alloc hb6 _
        have ha6 : Below w6.heap.size w6 (w6.alloc (.cells #[.slice (some ⟨a6, 0, none⟩) A.length A.length, .slice (some ⟨b6, 0, none⟩) B.length B.length, .slice (some ⟨d6, 0, none⟩) C.length C.length] 43)) := bl_alloc (Below.refl _ _) _
        have LC : Hid (Below w.heap.size w (w6.alloc (.cells #[.slice (some ⟨a6, 0, none⟩) A.length A.length, .slice (some ⟨b6, 0, none⟩) B.length B.length, .slice (some ⟨d6, 0, none⟩) C.length C.length] 43))) := bl_trans LC.out hc6
        have KK : Hid (Blk (w6.alloc (.cells #[.slice (some ⟨a6, 0, none⟩) A.length A.length, .slice (some ⟨b6, 0, none⟩) B.length B.length, .slice (some ⟨d6, 0, none⟩) C.length C.length] 43)) w.heap.size #[.slice s1 A.length c1, .slice s2 B.length c2, .slice s3 C.length c3] 24 ∧ Blk (w6.alloc (.cells #[.slice (some ⟨a6, 0, none⟩) A.length A.length, .slice (some ⟨b6, 0, none⟩) B.length B.length, .slice (some ⟨d6, 0, none⟩) C.length C.length] 43)) (w.heap.size + 1) #[.slice i1 W.gens.length j1, .slice i2 W.free.length j2, .slice i3 W.tabs.length j3, .slice i4 W.res.length j4] 31 ∧ Blk (w6.alloc (.cells #[.slice (some ⟨a6, 0, none⟩) A.length A.length, .slice (some ⟨b6, 0, none⟩) B.length B.length, .slice (some ⟨d6, 0, none⟩) C.length C.length] 43)) (w.heap.size + 1 + 1) #[.int .i64 e.1, .int .i64 e.2] 33) := ⟨KK.out.1.later hc6, KK.out.2.1.later hc6, KK.out.2.2.later hc6⟩
        have KV : Hid (Blk (w6.alloc (.cells #[.slice (some ⟨a6, 0, none⟩) A.length A.length, .slice (some ⟨b6, 0, none⟩) B.length B.length, .slice (some ⟨d6, 0, none⟩) C.length C.length] 43)) k10 #[.int .i64 v0.1, .int .i64 v0.2.1, .float .f64 v0.2.2.1, .float .f64 v0.2.2.2] 38) := KV.out.later hc6
        have D6 : Hid (Decls (w6.alloc (.cells #[.slice (some ⟨a6, 0, none⟩) A.length A.length, .slice (some ⟨b6, 0, none⟩) B.length B.length, .slice (some ⟨d6, 0, none⟩) C.length C.length] 43)) (some ⟨a6, 0, none⟩) A ∧ Decls (w6.alloc (.cells #[.slice (some ⟨a6, 0, none⟩) A.length A.length, .slice (some ⟨b6, 0, none⟩) B.length B.length, .slice (some ⟨d6, 0, none⟩) C.length C.length] 43)) (some ⟨b6, 0, none⟩) B ∧ Decls (w6.alloc (.cells #[.slice (some ⟨a6, 0, none⟩) A.length A.length, .slice (some ⟨b6, 0, none⟩) B.length B.length, .slice (some ⟨d6, 0, none⟩) C.length C.length] 43)) (some ⟨d6, 0, none⟩) C) := ⟨dA6.later ha6, dB6.later ha6, dC6.later ha6⟩
        have KR : Hid (Blk (w6.alloc (.cells #[.slice (some ⟨a6, 0, none⟩) A.length A.length, .slice (some ⟨b6, 0, none⟩) B.length B.length, .slice (some ⟨d6, 0, none⟩) C.length C.length] 43)) w6.heap.size #[.slice (some ⟨a6, 0, none⟩) A.length A.length, .slice (some ⟨b6, 0, none⟩) B.length B.length, .slice (some ⟨d6, 0, none⟩) C.length C.length] 43) := Blk.new w6 _ _
        have x0 := kcell hc6 x0
        have x1 := kcell hc6 x1
        have x2 := kcell hc6 x2
        have y0 := kcell hc6 y0
        have y1 := kcell hc6 y1
        have y2 := kcell hc6 y2
        have y3 := kcell hc6 y3
        have f0 := kcell hc6 f0
        have f1 := kcell hc6 f1
        clear dA6 dB6 dC6 hb6 ha6 hc6
        go_wp2_with fail
        generalize hX6 : w6.alloc (.cells #[.slice (some ⟨a6, 0, none⟩) A.length A.length, .slice (some ⟨b6, 0, none⟩) B.length B.length, .slice (some ⟨d6, 0, none⟩) C.length C.length] 43) = X6 at LC KK KV D6 KR x0 x1 x2 y0 y1 y2 y3 f0 f1 ⊢
        clear hX6
        refine (toWorld_made i1 i2 i3 i4 j1 j2 j3 j4 W 0 _ (HW.out.later LC.out) HK.out).mono ?_
        rintro r w7 ⟨⟨m7, n7, o7, p7, rfl, hE7⟩, hb7⟩
        have hc7 : Below X6.heap.size X6 (w7.alloc (.cells #[.slice (some ⟨m7, 0, none⟩) W.gens.length W.gens.length, .slice (some ⟨n7, 0, none⟩) W.free.length W.free.length, .slice (some ⟨o7, 0, none⟩) W.tabs.length W.tabs.length, .slice (some ⟨p7, 0, none⟩) W.res.length W.res.length] 49)) := bl_alloc hb7 _
        have ha7 : Below w7.heap.size w7 (w7.alloc (.cells #[.slice (some ⟨m7, 0, none⟩) W.gens.length W.gens.length, .slice (some ⟨n7, 0, none⟩) W.free.length W.free.length, .slice (some ⟨o7, 0, none⟩) W.tabs.length W.tabs.length, .slice (some ⟨p7, 0, none⟩) W.res.length W.res.length] 49)) := bl_alloc (Below.refl _ _) _
        have LC : Hid (Below w.heap.size w (w7.alloc (.cells #[.slice (some ⟨m7, 0, none⟩) W.gens.length W.gens.length, .slice (some ⟨n7, 0, none⟩) W.free.length W.free.length, .slice (some ⟨o7, 0, none⟩) W.tabs.length W.tabs.length, .slice (some ⟨p7, 0, none⟩) W.res.length W.res.length] 49))) := bl_trans LC.out hc7
        have KK : Hid (Blk (w7.alloc (.cells #[.slice (some ⟨m7, 0, none⟩) W.gens.length W.gens.length, .slice (some ⟨n7, 0, none⟩) W.free.length W.free.length, .slice (some ⟨o7, 0, none⟩) W.tabs.length W.tabs.length, .slice (some ⟨p7, 0, none⟩) W.res.length W.res.length] 49)) w.heap.size #[.slice s1 A.length c1, .slice s2 B.length c2, .slice s3 C.length c3] 24 ∧ Blk (w7.alloc (.cells #[.slice (some ⟨m7, 0, none⟩) W.gens.length W.gens.length, .slice (some ⟨n7, 0, none⟩) W.free.length W.free.length, .slice (some ⟨o7, 0, none⟩) W.tabs.length W.tabs.length, .slice (some ⟨p7, 0, none⟩) W.res.length W.res.length] 49)) (w.heap.size + 1) #[.slice i1 W.gens.length j1, .slice i2 W.free.length j2, .slice i3 W.tabs.length j3, .slice i4 W.res.length j4] 31 ∧ Blk (w7.alloc (.cells #[.slice (some ⟨m7, 0, none⟩) W.gens.length W.gens.length, .slice (some ⟨n7, 0, none⟩) W.free.length W.free.length, .slice (some ⟨o7, 0, none⟩) W.tabs.length W.tabs.length, .slice (some ⟨p7, 0, none⟩) W.res.length W.res.length] 49)) (w.heap.size + 1 + 1) #[.int .i64 e.1, .int .i64 e.2] 33) := ⟨KK.out.1.later hc7, KK.out.2.1.later hc7, KK.out.2.2.later hc7⟩
        have KV : Hid (Blk (w7.alloc (.cells #[.slice (some ⟨m7, 0, none⟩) W.gens.length W.gens.length, .slice (some ⟨n7, 0, none⟩) W.free.length W.free.length, .slice (some ⟨o7, 0, none⟩) W.tabs.length W.tabs.length, .slice (some ⟨p7, 0, none⟩) W.res.length W.res.length] 49)) k10 #[.int .i64 v0.1, .int .i64 v0.2.1, .float .f64 v0.2.2.1, .float .f64 v0.2.2.2] 38) := KV.out.later hc7
        have D7 : Hid (Decls (w7.alloc (.cells #[.slice (some ⟨m7, 0, none⟩) W.gens.length W.gens.length, .slice (some ⟨n7, 0, none⟩) W.free.length W.free.length, .slice (some ⟨o7, 0, none⟩) W.tabs.length W.tabs.length, .slice (some ⟨p7, 0, none⟩) W.res.length W.res.length] 49)) (some ⟨a6, 0, none⟩) A ∧ Decls (w7.alloc (.cells #[.slice (some ⟨m7, 0, none⟩) W.gens.length W.gens.length, .slice (some ⟨n7, 0, none⟩) W.free.length W.free.length, .slice (some ⟨o7, 0, none⟩) W.tabs.length W.tabs.length, .slice (some ⟨p7, 0, none⟩) W.res.length W.res.length] 49)) (some ⟨b6, 0, none⟩) B ∧ Decls (w7.alloc (.cells #[.slice (some ⟨m7, 0, none⟩) W.gens.length W.gens.length, .slice (some ⟨n7, 0, none⟩) W.free.length W.free.length, .slice (some ⟨o7, 0, none⟩) W.tabs.length W.tabs.length, .slice (some ⟨p7, 0, none⟩) W.res.length W.res.length] 49)) (some ⟨d6, 0, none⟩) C) := ⟨D6.out.1.later hc7, D6.out.2.1.later hc7, D6.out.2.2.later hc7⟩
        have E7 : Hid (InW (w7.alloc (.cells #[.slice (some ⟨m7, 0, none⟩) W.gens.length W.gens.length, .slice (some ⟨n7, 0, none⟩) W.free.length W.free.length, .slice (some ⟨o7, 0, none⟩) W.tabs.length W.tabs.length, .slice (some ⟨p7, 0, none⟩) W.res.length W.res.length] 49)) 0 (some ⟨m7, 0, none⟩) (some ⟨n7, 0, none⟩) (some ⟨o7, 0, none⟩) (some ⟨p7, 0, none⟩) W) := (hE7.later ha7).drop (Nat.zero_le _)
        have KR : Hid (Blk (w7.alloc (.cells #[.slice (some ⟨m7, 0, none⟩) W.gens.length W.gens.length, .slice (some ⟨n7, 0, none⟩) W.free.length W.free.length, .slice (some ⟨o7, 0, none⟩) W.tabs.length W.tabs.length, .slice (some ⟨p7, 0, none⟩) W.res.length W.res.length] 49)) w6.heap.size #[.slice (some ⟨a6, 0, none⟩) A.length A.length, .slice (some ⟨b6, 0, none⟩) B.length B.length, .slice (some ⟨d6, 0, none⟩) C.length C.length] 43) := KR.out.later hc7
        have KW : Hid (Blk (w7.alloc (.cells #[.slice (some ⟨m7, 0, none⟩) W.gens.length W.gens.length, .slice (some ⟨n7, 0, none⟩) W.free.length W.free.length, .slice (some ⟨o7, 0, none⟩) W.tabs.length W.tabs.length, .slice (some ⟨p7, 0, none⟩) W.res.length W.res.length] 49)) w7.heap.size #[.slice (some ⟨m7, 0, none⟩) W.gens.length W.gens.length, .slice (some ⟨n7, 0, none⟩) W.free.length W.free.length, .slice (some ⟨o7, 0, none⟩) W.tabs.length W.tabs.length, .slice (some ⟨p7, 0, none⟩) W.res.length W.res.length] 49) := Blk.new w7 _ _
        have x0 := kcell hc7 x0
        have x1 := kcell hc7 x1
        have x2 := kcell hc7 x2
        have y0 := kcell hc7 y0
        have y1 := kcell hc7 y1
        have y2 := kcell hc7 y2
        have y3 := kcell hc7 y3
        have f0 := kcell hc7 f0
        have f1 := kcell hc7 f1
        clear hE7 hb7 ha7 hc7 D6
        obtain ⟨u0, u1, u2, u3⟩ := KR.out.three'
        obtain ⟨q0v, q1v, q2v, q3v, v9⟩ := KW.out.four'
        go_wp2_with fail
        generalize hX7 : w7.alloc (.cells #[.slice (some ⟨m7, 0, none⟩) W.gens.length W.gens.length, .slice (some ⟨n7, 0, none⟩) W.free.length W.free.length, .slice (some ⟨o7, 0, none⟩) W.tabs.length W.tabs.length, .slice (some ⟨p7, 0, none⟩) W.res.length W.res.length] 49) = X7 at LC KK KV D7 E7 KR KW x0 x1 x2 y0 y1 y2 y3 f0 f1 u0 u1 u2 q0v q1v q2v q3v ⊢
        clear hX7 u3 v9
        have h6 : w6.heap.size < X7.heap.size := KR.out.lt
        have h7 : w7.heap.size < X7.heap.size := KW.out.lt
        have h2 : w.heap.size + 1 + 1 < X7.heap.size := KK.out.2.2.lt
        have LX : Hid (Below X7.heap.size X7 X7) := Below.refl _ _
        go_cut [14, 15] (fun p0 p1 wx => ∃ (kz : Nat) (v : V4) (ok : Bool), p0 = .pointer (some ⟨kz, 0, none⟩) ∧ p1 = .bool ok ∧ okV v ∧ GR A B C W e comp (rt v ok) ∧ Blk wx kz #[.int .i64 v.1, .int .i64 v.2.1, .float .f64 v.2.2.1, .float .f64 v.2.2.2] 38 ∧ Bel X7 wx)
        case first =>
          refine wp_region_held_drew (S := (fun w' => w'.cell? ⟨w6.heap.size, 0, none⟩ = some (.slice (some ⟨a6, 0, none⟩) A.length A.length) ∧ w'.cell? ⟨w6.heap.size, 1, none⟩ = some (.slice (some ⟨b6, 0, none⟩) B.length B.length) ∧ w'.cell? ⟨w6.heap.size, 2, none⟩ = some (.slice (some ⟨d6, 0, none⟩) C.length C.length) ∧ w'.cell? ⟨w7.heap.size, 0, none⟩ = some (.slice (some ⟨m7, 0, none⟩) W.gens.length W.gens.length) ∧ w'.cell? ⟨w7.heap.size, 1, none⟩ = some (.slice (some ⟨n7, 0, none⟩) W.free.length W.free.length) ∧ w'.cell? ⟨w7.heap.size, 2, none⟩ = some (.slice (some ⟨o7, 0, none⟩) W.tabs.length W.tabs.length) ∧ w'.cell? ⟨w7.heap.size, 3, none⟩ = some (.slice (some ⟨p7, 0, none⟩) W.res.length W.res.length) ∧ w'.cell? ⟨w.heap.size + 1 + 1, 0, none⟩ = some (.int .i64 e.1) ∧ w'.cell? ⟨w.heap.size + 1 + 1, 1, none⟩ = some (.int .i64 e.2))) (by kernel_rfl) ?_ (fun hHeld => ?_)
          · exact ⟨u0, u1, u2, q0v, q1v, q2v, q3v, f0, f1⟩
          refine wpAnyH_one (i := 0) (d := 42) (v := ?_) rfl rfl (by kernel_rfl) (by kernel_rfl) (by kernel_rfl) (fun _ _ _ h => h) (by rfl) (by assumption) ?_ ?_
          rotate_left 1
          · intro w hSw; (try dsimp only at hSw); go_simp <;> with_reducible rfl
          simp only [List.foldl, Act.put, List.setIfInBounds_toArray, List.set_cons_zero, List.set_cons_succ]
          refine wpAnyH_one (i := 1) (d := 43) (v := ?_) rfl rfl (by kernel_rfl) (by kernel_rfl) (by kernel_rfl) (fun _ _ _ h => h) (by rfl) (by assumption) ?_ ?_
          rotate_left 1
          · intro w hSw; (try dsimp only at hSw); go_simp <;> with_reducible rfl
          simp only [List.foldl, Act.put, List.setIfInBounds_toArray, List.set_cons_zero, List.set_cons_succ]
          refine wpAnyH_one (i := 2) (d := 44) (v := ?_) rfl rfl (by kernel_rfl) (by kernel_rfl) (by kernel_rfl) (fun _ _ _ h => h) (by rfl) (by assumption) ?_ ?_
          rotate_left 1
          · intro w hSw; (try dsimp only at hSw); go_simp <;> with_reducible rfl
          simp only [List.foldl, Act.put, List.setIfInBounds_toArray, List.set_cons_zero, List.set_cons_succ]
          refine wpAnyH_one (i := 4) (d := 46) (v := ?_) rfl rfl (by kernel_rfl) (by kernel_rfl) (by kernel_rfl) (fun _ _ _ h => h) (by rfl) (by assumption) ?_ ?_
          rotate_left 1
          · intro w hSw; (try dsimp only at hSw); go_simp <;> with_reducible rfl
          simp only [List.foldl, Act.put, List.setIfInBounds_toArray, List.set_cons_zero, List.set_cons_succ]
          refine wpAnyH_ready (rs := [3, 9]) (by kernel_rfl) (by simp) ?_
          refine AllReadyH.cons rfl (fun K hK => ?_) ?_
          · skip
            go_simp
            refine (toEnt_any e.1 e.2 _).mono ?_
            rintro r0 w8 ⟨rfl, hb_w8⟩
            have hc_w8 : Below X7.heap.size X7 w8 := bl_trans (bl_drew (Below.refl _ _)) hb_w8
            have u0 := kcell hc_w8 u0
            have u1 := kcell hc_w8 u1
            have u2 := kcell hc_w8 u2
            have q0v := kcell hc_w8 q0v
            have q1v := kcell hc_w8 q1v
            have q2v := kcell hc_w8 q2v
            have q3v := kcell hc_w8 q3v
            have f0 := kcell hc_w8 f0
            have f1 := kcell hc_w8 f1
            have LC : Hid (Below w.heap.size w w8) := bl_trans LC.out hc_w8
            have LX : Hid (Below X7.heap.size X7 w8) := bl_trans LX.out hc_w8
            clear hb_w8 hc_w8
            refine hK.out _ _ ?_ (fun hHeld => ?_)
            · exact ⟨u0, u1, u2, q0v, q1v, q2v, q3v, f0, f1⟩
            clear hK K
            try simp only [List.foldl, Act.put, List.setIfInBounds_toArray, List.set_cons_zero, List.set_cons_succ]
            refine wpAnyH_ready (rs := [5, 9]) (by kernel_rfl) (by simp) ?_
            refine AllReadyH.cons rfl (fun K hK => ?_) ?_
            · skip
              go_simp
              refine (implGet_any _ _ _ _ _ _ A B C _ _ _ _ _ _ _ _ W e comp _ (D7.out.1.later LX.out) (D7.out.2.1.later LX.out) (D7.out.2.2.later LX.out) NMH.out lA lB lC (E7.out.later LX.out) HK.out (Nat.le_refl _) BR.out BE.out OKC.out).mono ?_
              rintro r0 w9 ⟨hgr, hb_w9⟩
              have hc_w9 : Below w8.heap.size w8 w9 := hb_w9
              have u0 := kcell hc_w9 u0
              have u1 := kcell hc_w9 u1
              have u2 := kcell hc_w9 u2
              have q0v := kcell hc_w9 q0v
              have q1v := kcell hc_w9 q1v
              have q2v := kcell hc_w9 q2v
              have q3v := kcell hc_w9 q3v
              have f0 := kcell hc_w9 f0
              have f1 := kcell hc_w9 f1
              have LC : Hid (Below w.heap.size w w9) := bl_trans LC.out hc_w9
              have LX : Hid (Below X7.heap.size X7 w9) := bl_trans LX.out hc_w9
              obtain ⟨v, ok, hov, rfl⟩ := hgr.form
              have HGR : Hid (okV v ∧ GR A B C W e comp (rt v ok)) := ⟨hov, hgr⟩
              clear hov hgr
              clear hb_w9 hc_w9
              refine hK.out _ _ ?_ (fun hHeld => ?_)
              · exact ⟨u0, u1, u2, q0v, q1v, q2v, q3v, f0, f1⟩
              clear hK K
              try simp only [List.foldl, Act.put, List.setIfInBounds_toArray, List.set_cons_zero, List.set_cons_succ]
              refine wpAnyH_one (i := 6) (d := 41) (v := ?_) rfl rfl (by kernel_rfl) (by kernel_rfl) (by kernel_rfl) (fun _ _ _ h => h) (by rfl) (by assumption) ?_ ?_
              rotate_left 1
              · intro w hSw; (try dsimp only at hSw); go_simp <;> with_reducible rfl
              simp only [List.foldl, Act.put, List.setIfInBounds_toArray, List.set_cons_zero, List.set_cons_succ]
              refine wpAnyH_one (i := 7) (d := 48) (v := ?_) rfl rfl (by kernel_rfl) (by kernel_rfl) (by kernel_rfl) (fun _ _ _ h => h) (by rfl) (by assumption) ?_ ?_
              rotate_left 1
              · intro w hSw; (try dsimp only at hSw); go_simp <;> with_reducible rfl
              simp only [List.foldl, Act.put, List.setIfInBounds_toArray, List.set_cons_zero, List.set_cons_succ]
              refine wpAnyH_one (i := 8) (d := 49) (v := ?_) rfl rfl (by kernel_rfl) (by kernel_rfl) (by kernel_rfl) (fun _ _ _ h => h) (by rfl) (by assumption) ?_ ?_
              rotate_left 1
              · intro w hSw; (try dsimp only at hSw); go_simp <;> with_reducible rfl
              simp only [List.foldl, Act.put, List.setIfInBounds_toArray, List.set_cons_zero, List.set_cons_succ]
              refine wpAnyH_ready (rs := [9]) (by kernel_rfl) (by simp) ?_
              refine AllReadyH.cons rfl (fun K hK => ?_) AllReadyH.nil
              go_simp
              have hg : Below w9.heap.size w9 (w9.alloc (.cells #[.int .i64 0, .int .i64 0, .float .f64 0, .float .f64 0] 38)) := bl_alloc (Below.refl _ _) _
              have KZ : Hid (Blk (w9.alloc (.cells #[.int .i64 0, .int .i64 0, .float .f64 0, .float .f64 0] 38)) w9.heap.size #[.int .i64 0, .int .i64 0, .float .f64 0, .float .f64 0] 38) := Blk.new w9 _ _
              have hkl : X7.heap.size ≤ w9.heap.size := LX.out.size
              have u0 := kcell hg u0
              have u1 := kcell hg u1
              have u2 := kcell hg u2
              have q0v := kcell hg q0v
              have q1v := kcell hg q1v
              have q2v := kcell hg q2v
              have q3v := kcell hg q3v
              have f0 := kcell hg f0
              have f1 := kcell hg f1
              have LC : Hid (Below w.heap.size w (w9.alloc (.cells #[.int .i64 0, .int .i64 0, .float .f64 0, .float .f64 0] 38))) := bl_trans LC.out hg
              have LX : Hid (Below X7.heap.size X7 (w9.alloc (.cells #[.int .i64 0, .int .i64 0, .float .f64 0, .float .f64 0] 38))) := bl_trans LX.out hg
              refine hK.out _ _ ?_ (fun hHeld => ?_)
              · exact ⟨u0, u1, u2, q0v, q1v, q2v, q3v, f0, f1⟩
              clear hK K
              try simp only [List.foldl, Act.put, List.setIfInBounds_toArray, List.set_cons_zero, List.set_cons_succ]
              generalize hGe : (w9.alloc (.cells #[.int .i64 0, .int .i64 0, .float .f64 0, .float .f64 0] 38)) = G at KZ LC hHeld u0 u1 u2 q0v q1v q2v q3v f0 f1 LX ⊢
              obtain ⟨kz, hkz⟩ : ∃ kz, w9.heap.size = kz := ⟨_, rfl⟩
              rw [hkz] at KZ ⊢
              have hkl : X7.heap.size ≤ kz := by omega
              clear hGe hkz hg
              obtain ⟨k0z, k1z, k2z, k3z, k4z⟩ := KZ.out.four'
              refine wpAnyH_ready (rs := [10]) (by kernel_rfl) (by simp) ?_
              refine AllReadyH.cons rfl (fun K hK => ?_) AllReadyH.nil
              go_simp
              refine hK.out _ _ ?_ (fun hHeld => ?_)
              · refine ⟨(by rw [World.cell?_setCell_far _ _ _ _ (by simp <;> omega), World.cell?_setCell_far _ _ _ _ (by simp <;> omega), World.cell?_setCell_far _ _ _ _ (by simp <;> omega), World.cell?_setCell_far _ _ _ _ (by simp <;> omega)]; exact u0), (by rw [World.cell?_setCell_far _ _ _ _ (by simp <;> omega), World.cell?_setCell_far _ _ _ _ (by simp <;> omega), World.cell?_setCell_far _ _ _ _ (by simp <;> omega), World.cell?_setCell_far _ _ _ _ (by simp <;> omega)]; exact u1), (by rw [World.cell?_setCell_far _ _ _ _ (by simp <;> omega), World.cell?_setCell_far _ _ _ _ (by simp <;> omega), World.cell?_setCell_far _ _ _ _ (by simp <;> omega), World.cell?_setCell_far _ _ _ _ (by simp <;> omega)]; exact u2), (by rw [World.cell?_setCell_far _ _ _ _ (by simp <;> omega), World.cell?_setCell_far _ _ _ _ (by simp <;> omega), World.cell?_setCell_far _ _ _ _ (by simp <;> omega), World.cell?_setCell_far _ _ _ _ (by simp <;> omega)]; exact q0v), (by rw [World.cell?_setCell_far _ _ _ _ (by simp <;> omega), World.cell?_setCell_far _ _ _ _ (by simp <;> omega), World.cell?_setCell_far _ _ _ _ (by simp <;> omega), World.cell?_setCell_far _ _ _ _ (by simp <;> omega)]; exact q1v), (by rw [World.cell?_setCell_far _ _ _ _ (by simp <;> omega), World.cell?_setCell_far _ _ _ _ (by simp <;> omega), World.cell?_setCell_far _ _ _ _ (by simp <;> omega), World.cell?_setCell_far _ _ _ _ (by simp <;> omega)]; exact q2v), (by rw [World.cell?_setCell_far _ _ _ _ (by simp <;> omega), World.cell?_setCell_far _ _ _ _ (by simp <;> omega), World.cell?_setCell_far _ _ _ _ (by simp <;> omega), World.cell?_setCell_far _ _ _ _ (by simp <;> omega)]; exact q3v), (by rw [World.cell?_setCell_far _ _ _ _ (by simp <;> omega), World.cell?_setCell_far _ _ _ _ (by simp <;> omega), World.cell?_setCell_far _ _ _ _ (by simp <;> omega), World.cell?_setCell_far _ _ _ _ (by simp <;> omega)]; exact f0), (by rw [World.cell?_setCell_far _ _ _ _ (by simp <;> omega), World.cell?_setCell_far _ _ _ _ (by simp <;> omega), World.cell?_setCell_far _ _ _ _ (by simp <;> omega), World.cell?_setCell_far _ _ _ _ (by simp <;> omega)]; exact f1)⟩
              clear hK K
              try simp only [List.foldl, Act.put, List.setIfInBounds_toArray, List.set_cons_zero, List.set_cons_succ]
              refine wpAnyH_one (i := 11) (d := 15) (v := ?_) rfl rfl (by kernel_rfl) (by kernel_rfl) (by kernel_rfl) (fun _ _ _ h => h) (by rfl) (by assumption) ?_ ?_
              rotate_left 1
              · intro w hSw; (try dsimp only at hSw); go_simp <;> with_reducible rfl
              simp only [List.foldl, Act.put, List.setIfInBounds_toArray, List.set_cons_zero, List.set_cons_succ]
              refine wpAnyH_done (by kernel_rfl) ?_ _
              go_wp2_with fail
              go_meet
              have KVn : Blk _ kz #[.int .i64 v.1, .int .i64 v.2.1, .float .f64 v.2.2.1, .float .f64 v.2.2.2] 38 := (((KZ.out.set 0 (.int .i64 v.1)).set 1 (.int .i64 v.2.1)).set 2 (.float .f64 v.2.2.1)).set 3 (.float .f64 v.2.2.2)
              refine ⟨kz, v, ok, rfl, rfl, HGR.out.1, HGR.out.2, KVn, ?_⟩
              show Below X7.heap.size X7 _
              repeat (first | with_reducible exact LX.out | with_reducible refine Below.setCell ?_ (by simp <;> omega) _)
            · refine AllReadyH.cons rfl (fun K hK => ?_) AllReadyH.nil
              go_simp
              have hg : Below w8.heap.size w8 (w8.alloc (.cells #[.int .i64 0, .int .i64 0, .float .f64 0, .float .f64 0] 38)) := bl_alloc (Below.refl _ _) _
              have KZ : Hid (Blk (w8.alloc (.cells #[.int .i64 0, .int .i64 0, .float .f64 0, .float .f64 0] 38)) w8.heap.size #[.int .i64 0, .int .i64 0, .float .f64 0, .float .f64 0] 38) := Blk.new w8 _ _
              have hkl : X7.heap.size ≤ w8.heap.size := LX.out.size
              have u0 := kcell hg u0
              have u1 := kcell hg u1
              have u2 := kcell hg u2
              have q0v := kcell hg q0v
              have q1v := kcell hg q1v
              have q2v := kcell hg q2v
              have q3v := kcell hg q3v
              have f0 := kcell hg f0
              have f1 := kcell hg f1
              have LC : Hid (Below w.heap.size w (w8.alloc (.cells #[.int .i64 0, .int .i64 0, .float .f64 0, .float .f64 0] 38))) := bl_trans LC.out hg
              have LX : Hid (Below X7.heap.size X7 (w8.alloc (.cells #[.int .i64 0, .int .i64 0, .float .f64 0, .float .f64 0] 38))) := bl_trans LX.out hg
              refine hK.out _ _ ?_ (fun hHeld => ?_)
              · exact ⟨u0, u1, u2, q0v, q1v, q2v, q3v, f0, f1⟩
              clear hK K
              try simp only [List.foldl, Act.put, List.setIfInBounds_toArray, List.set_cons_zero, List.set_cons_succ]
              generalize hGe : (w8.alloc (.cells #[.int .i64 0, .int .i64 0, .float .f64 0, .float .f64 0] 38)) = G at KZ LC hHeld u0 u1 u2 q0v q1v q2v q3v f0 f1 LX ⊢
              obtain ⟨kz, hkz⟩ : ∃ kz, w8.heap.size = kz := ⟨_, rfl⟩
              rw [hkz] at KZ ⊢
              have hkl : X7.heap.size ≤ kz := by omega
              clear hGe hkz hg
              refine wpAnyH_ready (rs := [5]) (by kernel_rfl) (by simp) ?_
              refine AllReadyH.cons rfl (fun K hK => ?_) AllReadyH.nil
              go_simp
              refine (implGet_any _ _ _ _ _ _ A B C _ _ _ _ _ _ _ _ W e comp _ (D7.out.1.later LX.out) (D7.out.2.1.later LX.out) (D7.out.2.2.later LX.out) NMH.out lA lB lC (E7.out.later LX.out) HK.out (Nat.le_refl _) BR.out BE.out OKC.out).mono ?_
              rintro r0 w9 ⟨hgr, hb_w9⟩
              have hc_w9 : Below G.heap.size G w9 := hb_w9
              have u0 := kcell hc_w9 u0
              have u1 := kcell hc_w9 u1
              have u2 := kcell hc_w9 u2
              have q0v := kcell hc_w9 q0v
              have q1v := kcell hc_w9 q1v
              have q2v := kcell hc_w9 q2v
              have q3v := kcell hc_w9 q3v
              have f0 := kcell hc_w9 f0
              have f1 := kcell hc_w9 f1
              have LC : Hid (Below w.heap.size w w9) := bl_trans LC.out hc_w9
              have LX : Hid (Below X7.heap.size X7 w9) := bl_trans LX.out hc_w9
              have KZ : Hid (Blk w9 kz #[.int .i64 0, .int .i64 0, .float .f64 0, .float .f64 0] 38) := KZ.out.later hc_w9
              obtain ⟨v, ok, hov, rfl⟩ := hgr.form
              have HGR : Hid (okV v ∧ GR A B C W e comp (rt v ok)) := ⟨hov, hgr⟩
              clear hov hgr
              clear hb_w9 hc_w9
              refine hK.out _ _ ?_ (fun hHeld => ?_)
              · exact ⟨u0, u1, u2, q0v, q1v, q2v, q3v, f0, f1⟩
              clear hK K
              try simp only [List.foldl, Act.put, List.setIfInBounds_toArray, List.set_cons_zero, List.set_cons_succ]
              refine wpAnyH_one (i := 6) (d := 41) (v := ?_) rfl rfl (by kernel_rfl) (by kernel_rfl) (by kernel_rfl) (fun _ _ _ h => h) (by rfl) (by assumption) ?_ ?_
              rotate_left 1
              · intro w hSw; (try dsimp only at hSw); go_simp <;> with_reducible rfl
              simp only [List.foldl, Act.put, List.setIfInBounds_toArray, List.set_cons_zero, List.set_cons_succ]
              refine wpAnyH_one (i := 7) (d := 48) (v := ?_) rfl rfl (by kernel_rfl) (by kernel_rfl) (by kernel_rfl) (fun _ _ _ h => h) (by rfl) (by assumption) ?_ ?_
              rotate_left 1
              · intro w hSw; (try dsimp only at hSw); go_simp <;> with_reducible rfl
              simp only [List.foldl, Act.put, List.setIfInBounds_toArray, List.set_cons_zero, List.set_cons_succ]
              refine wpAnyH_one (i := 8) (d := 49) (v := ?_) rfl rfl (by kernel_rfl) (by kernel_rfl) (by kernel_rfl) (fun _ _ _ h => h) (by rfl) (by assumption) ?_ ?_
              rotate_left 1
              · intro w hSw; (try dsimp only at hSw); go_simp <;> with_reducible rfl
              simp only [List.foldl, Act.put, List.setIfInBounds_toArray, List.set_cons_zero, List.set_cons_succ]
              obtain ⟨k0z, k1z, k2z, k3z, k4z⟩ := KZ.out.four'
              refine wpAnyH_ready (rs := [10]) (by kernel_rfl) (by simp) ?_
              refine AllReadyH.cons rfl (fun K hK => ?_) AllReadyH.nil
              go_simp
              refine hK.out _ _ ?_ (fun hHeld => ?_)
              · refine ⟨(by rw [World.cell?_setCell_far _ _ _ _ (by simp <;> omega), World.cell?_setCell_far _ _ _ _ (by simp <;> omega), World.cell?_setCell_far _ _ _ _ (by simp <;> omega), World.cell?_setCell_far _ _ _ _ (by simp <;> omega)]; exact u0), (by rw [World.cell?_setCell_far _ _ _ _ (by simp <;> omega), World.cell?_setCell_far _ _ _ _ (by simp <;> omega), World.cell?_setCell_far _ _ _ _ (by simp <;> omega), World.cell?_setCell_far _ _ _ _ (by simp <;> omega)]; exact u1), (by rw [World.cell?_setCell_far _ _ _ _ (by simp <;> omega), World.cell?_setCell_far _ _ _ _ (by simp <;> omega), World.cell?_setCell_far _ _ _ _ (by simp <;> omega), World.cell?_setCell_far _ _ _ _ (by simp <;> omega)]; exact u2), (by rw [World.cell?_setCell_far _ _ _ _ (by simp <;> omega), World.cell?_setCell_far _ _ _ _ (by simp <;> omega), World.cell?_setCell_far _ _ _ _ (by simp <;> omega), World.cell?_setCell_far _ _ _ _ (by simp <;> omega)]; exact q0v), (by rw [World.cell?_setCell_far _ _ _ _ (by simp <;> omega), World.cell?_setCell_far _ _ _ _ (by simp <;> omega), World.cell?_setCell_far _ _ _ _ (by simp <;> omega), World.cell?_setCell_far _ _ _ _ (by simp <;> omega)]; exact q1v), (by rw [World.cell?_setCell_far _ _ _ _ (by simp <;> omega), World.cell?_setCell_far _ _ _ _ (by simp <;> omega), World.cell?_setCell_far _ _ _ _ (by simp <;> omega), World.cell?_setCell_far _ _ _ _ (by simp <;> omega)]; exact q2v), (by rw [World.cell?_setCell_far _ _ _ _ (by simp <;> omega), World.cell?_setCell_far _ _ _ _ (by simp <;> omega), World.cell?_setCell_far _ _ _ _ (by simp <;> omega), World.cell?_setCell_far _ _ _ _ (by simp <;> omega)]; exact q3v), (by rw [World.cell?_setCell_far _ _ _ _ (by simp <;> omega), World.cell?_setCell_far _ _ _ _ (by simp <;> omega), World.cell?_setCell_far _ _ _ _ (by simp <;> omega), World.cell?_setCell_far _ _ _ _ (by simp <;> omega)]; exact f0), (by rw [World.cell?_setCell_far _ _ _ _ (by simp <;> omega), World.cell?_setCell_far _ _ _ _ (by simp <;> omega), World.cell?_setCell_far _ _ _ _ (by simp <;> omega), World.cell?_setCell_far _ _ _ _ (by simp <;> omega)]; exact f1)⟩
              clear hK K
              try simp only [List.foldl, Act.put, List.setIfInBounds_toArray, List.set_cons_zero, List.set_cons_succ]
              refine wpAnyH_one (i := 11) (d := 15) (v := ?_) rfl rfl (by kernel_rfl) (by kernel_rfl) (by kernel_rfl) (fun _ _ _ h => h) (by rfl) (by assumption) ?_ ?_
              rotate_left 1
              · intro w hSw; (try dsimp only at hSw); go_simp <;> with_reducible rfl
              simp only [List.foldl, Act.put, List.setIfInBounds_toArray, List.set_cons_zero, List.set_cons_succ]
              refine wpAnyH_done (by kernel_rfl) ?_ _
              go_wp2_with fail
              go_meet
              have KVn : Blk _ kz #[.int .i64 v.1, .int .i64 v.2.1, .float .f64 v.2.2.1, .float .f64 v.2.2.2] 38 := (((KZ.out.set 0 (.int .i64 v.1)).set 1 (.int .i64 v.2.1)).set 2 (.float .f64 v.2.2.1)).set 3 (.float .f64 v.2.2.2)
              refine ⟨kz, v, ok, rfl, rfl, HGR.out.1, HGR.out.2, KVn, ?_⟩
              show Below X7.heap.size X7 _
              repeat (first | with_reducible exact LX.out | with_reducible refine Below.setCell ?_ (by simp <;> omega) _)
          · refine AllReadyH.cons rfl (fun K hK => ?_) AllReadyH.nil
            go_simp
            have hg : Below X7.heap.size X7 (X7.alloc (.cells #[.int .i64 0, .int .i64 0, .float .f64 0, .float .f64 0] 38)).drew := bl_drew (bl_alloc (Below.refl _ _) _)
            have KZ : Hid (Blk (X7.alloc (.cells #[.int .i64 0, .int .i64 0, .float .f64 0, .float .f64 0] 38)).drew X7.heap.size #[.int .i64 0, .int .i64 0, .float .f64 0, .float .f64 0] 38) := (Blk.new X7 _ _).later (bl_drew (Below.refl _ _))
            have hkl : X7.heap.size ≤ X7.heap.size := LX.out.size
            have u0 := kcell hg u0
            have u1 := kcell hg u1
            have u2 := kcell hg u2
            have q0v := kcell hg q0v
            have q1v := kcell hg q1v
            have q2v := kcell hg q2v
            have q3v := kcell hg q3v
            have f0 := kcell hg f0
            have f1 := kcell hg f1
            have LC : Hid (Below w.heap.size w (X7.alloc (.cells #[.int .i64 0, .int .i64 0, .float .f64 0, .float .f64 0] 38)).drew) := bl_trans LC.out hg
            have LX : Hid (Below X7.heap.size X7 (X7.alloc (.cells #[.int .i64 0, .int .i64 0, .float .f64 0, .float .f64 0] 38)).drew) := bl_trans LX.out hg
            refine hK.out _ _ ?_ (fun hHeld => ?_)
            · exact ⟨u0, u1, u2, q0v, q1v, q2v, q3v, f0, f1⟩
            clear hK K
            try simp only [List.foldl, Act.put, List.setIfInBounds_toArray, List.set_cons_zero, List.set_cons_succ]
            generalize hGe : (X7.alloc (.cells #[.int .i64 0, .int .i64 0, .float .f64 0, .float .f64 0] 38)).drew = G at KZ LC hHeld u0 u1 u2 q0v q1v q2v q3v f0 f1 LX ⊢
            obtain ⟨kz, hkz⟩ : ∃ kz, X7.heap.size = kz := ⟨_, rfl⟩
            rw [hkz] at KZ ⊢
            have hkl : X7.heap.size ≤ kz := by omega
            clear hGe hkz hg
            refine wpAnyH_ready (rs := [3]) (by kernel_rfl) (by simp) ?_
            refine AllReadyH.cons rfl (fun K hK => ?_) AllReadyH.nil
            go_simp
            refine (toEnt_any e.1 e.2 _).mono ?_
            rintro r0 w8 ⟨rfl, hb_w8⟩
            have hc_w8 : Below G.heap.size G w8 := hb_w8
            have u0 := kcell hc_w8 u0
            have u1 := kcell hc_w8 u1
            have u2 := kcell hc_w8 u2
            have q0v := kcell hc_w8 q0v
            have q1v := kcell hc_w8 q1v
            have q2v := kcell hc_w8 q2v
            have q3v := kcell hc_w8 q3v
            have f0 := kcell hc_w8 f0
            have f1 := kcell hc_w8 f1
            have LC : Hid (Below w.heap.size w w8) := bl_trans LC.out hc_w8
            have LX : Hid (Below X7.heap.size X7 w8) := bl_trans LX.out hc_w8
            have KZ : Hid (Blk w8 kz #[.int .i64 0, .int .i64 0, .float .f64 0, .float .f64 0] 38) := KZ.out.later hc_w8
            clear hb_w8 hc_w8
            refine hK.out _ _ ?_ (fun hHeld => ?_)
            · exact ⟨u0, u1, u2, q0v, q1v, q2v, q3v, f0, f1⟩
            clear hK K
            try simp only [List.foldl, Act.put, List.setIfInBounds_toArray, List.set_cons_zero, List.set_cons_succ]
            refine wpAnyH_ready (rs := [5]) (by kernel_rfl) (by simp) ?_
            refine AllReadyH.cons rfl (fun K hK => ?_) AllReadyH.nil
            go_simp
            refine (implGet_any _ _ _ _ _ _ A B C _ _ _ _ _ _ _ _ W e comp _ (D7.out.1.later LX.out) (D7.out.2.1.later LX.out) (D7.out.2.2.later LX.out) NMH.out lA lB lC (E7.out.later LX.out) HK.out (Nat.le_refl _) BR.out BE.out OKC.out).mono ?_
            rintro r0 w9 ⟨hgr, hb_w9⟩
            have hc_w9 : Below w8.heap.size w8 w9 := hb_w9
            have u0 := kcell hc_w9 u0
            have u1 := kcell hc_w9 u1
            have u2 := kcell hc_w9 u2
            have q0v := kcell hc_w9 q0v
            have q1v := kcell hc_w9 q1v
            have q2v := kcell hc_w9 q2v
            have q3v := kcell hc_w9 q3v
            have f0 := kcell hc_w9 f0
            have f1 := kcell hc_w9 f1
            have LC : Hid (Below w.heap.size w w9) := bl_trans LC.out hc_w9
            have LX : Hid (Below X7.heap.size X7 w9) := bl_trans LX.out hc_w9
            have KZ : Hid (Blk w9 kz #[.int .i64 0, .int .i64 0, .float .f64 0, .float .f64 0] 38) := KZ.out.later hc_w9
            obtain ⟨v, ok, hov, rfl⟩ := hgr.form
            have HGR : Hid (okV v ∧ GR A B C W e comp (rt v ok)) := ⟨hov, hgr⟩
            clear hov hgr
            clear hb_w9 hc_w9
            refine hK.out _ _ ?_ (fun hHeld => ?_)
            · exact ⟨u0, u1, u2, q0v, q1v, q2v, q3v, f0, f1⟩
            clear hK K
            try simp only [List.foldl, Act.put, List.setIfInBounds_toArray, List.set_cons_zero, List.set_cons_succ]
            refine wpAnyH_one (i := 6) (d := 41) (v := ?_) rfl rfl (by kernel_rfl) (by kernel_rfl) (by kernel_rfl) (fun _ _ _ h => h) (by rfl) (by assumption) ?_ ?_
            rotate_left 1
            · intro w hSw; (try dsimp only at hSw); go_simp <;> with_reducible rfl
            simp only [List.foldl, Act.put, List.setIfInBounds_toArray, List.set_cons_zero, List.set_cons_succ]
            refine wpAnyH_one (i := 7) (d := 48) (v := ?_) rfl rfl (by kernel_rfl) (by kernel_rfl) (by kernel_rfl) (fun _ _ _ h => h) (by rfl) (by assumption) ?_ ?_
            rotate_left 1
            · intro w hSw; (try dsimp only at hSw); go_simp <;> with_reducible rfl
            simp only [List.foldl, Act.put, List.setIfInBounds_toArray, List.set_cons_zero, List.set_cons_succ]
            refine wpAnyH_one (i := 8) (d := 49) (v := ?_) rfl rfl (by kernel_rfl) (by kernel_rfl) (by kernel_rfl) (fun _ _ _ h => h) (by rfl) (by assumption) ?_ ?_
            rotate_left 1
            · intro w hSw; (try dsimp only at hSw); go_simp <;> with_reducible rfl
            simp only [List.foldl, Act.put, List.setIfInBounds_toArray, List.set_cons_zero, List.set_cons_succ]
            obtain ⟨k0z, k1z, k2z, k3z, k4z⟩ := KZ.out.four'
            refine wpAnyH_ready (rs := [10]) (by kernel_rfl) (by simp) ?_
            refine AllReadyH.cons rfl (fun K hK => ?_) AllReadyH.nil
            go_simp
            refine hK.out _ _ ?_ (fun hHeld => ?_)
            · refine ⟨(by rw [World.cell?_setCell_far _ _ _ _ (by simp <;> omega), World.cell?_setCell_far _ _ _ _ (by simp <;> omega), World.cell?_setCell_far _ _ _ _ (by simp <;> omega), World.cell?_setCell_far _ _ _ _ (by simp <;> omega)]; exact u0), (by rw [World.cell?_setCell_far _ _ _ _ (by simp <;> omega), World.cell?_setCell_far _ _ _ _ (by simp <;> omega), World.cell?_setCell_far _ _ _ _ (by simp <;> omega), World.cell?_setCell_far _ _ _ _ (by simp <;> omega)]; exact u1), (by rw [World.cell?_setCell_far _ _ _ _ (by simp <;> omega), World.cell?_setCell_far _ _ _ _ (by simp <;> omega), World.cell?_setCell_far _ _ _ _ (by simp <;> omega), World.cell?_setCell_far _ _ _ _ (by simp <;> omega)]; exact u2), (by rw [World.cell?_setCell_far _ _ _ _ (by simp <;> omega), World.cell?_setCell_far _ _ _ _ (by simp <;> omega), World.cell?_setCell_far _ _ _ _ (by simp <;> omega), World.cell?_setCell_far _ _ _ _ (by simp <;> omega)]; exact q0v), (by rw [World.cell?_setCell_far _ _ _ _ (by simp <;> omega), World.cell?_setCell_far _ _ _ _ (by simp <;> omega), World.cell?_setCell_far _ _ _ _ (by simp <;> omega), World.cell?_setCell_far _ _ _ _ (by simp <;> omega)]; exact q1v), (by rw [World.cell?_setCell_far _ _ _ _ (by simp <;> omega), World.cell?_setCell_far _ _ _ _ (by simp <;> omega), World.cell?_setCell_far _ _ _ _ (by simp <;> omega), World.cell?_setCell_far _ _ _ _ (by simp <;> omega)]; exact q2v), (by rw [World.cell?_setCell_far _ _ _ _ (by simp <;> omega), World.cell?_setCell_far _ _ _ _ (by simp <;> omega), World.cell?_setCell_far _ _ _ _ (by simp <;> omega), World.cell?_setCell_far _ _ _ _ (by simp <;> omega)]; exact q3v), (by rw [World.cell?_setCell_far _ _ _ _ (by simp <;> omega), World.cell?_setCell_far _ _ _ _ (by simp <;> omega), World.cell?_setCell_far _ _ _ _ (by simp <;> omega), World.cell?_setCell_far _ _ _ _ (by simp <;> omega)]; exact f0), (by rw [World.cell?_setCell_far _ _ _ _ (by simp <;> omega), World.cell?_setCell_far _ _ _ _ (by simp <;> omega), World.cell?_setCell_far _ _ _ _ (by simp <;> omega), World.cell?_setCell_far _ _ _ _ (by simp <;> omega)]; exact f1)⟩
            clear hK K
            try simp only [List.foldl, Act.put, List.setIfInBounds_toArray, List.set_cons_zero, List.set_cons_succ]
            refine wpAnyH_one (i := 11) (d := 15) (v := ?_) rfl rfl (by kernel_rfl) (by kernel_rfl) (by kernel_rfl) (fun _ _ _ h => h) (by rfl) (by assumption) ?_ ?_
            rotate_left 1
            · intro w hSw; (try dsimp only at hSw); go_simp <;> with_reducible rfl
            simp only [List.foldl, Act.put, List.setIfInBounds_toArray, List.set_cons_zero, List.set_cons_succ]
            refine wpAnyH_done (by kernel_rfl) ?_ _
            go_wp2_with fail
            go_meet
            have KVn : Blk _ kz #[.int .i64 v.1, .int .i64 v.2.1, .float .f64 v.2.2.1, .float .f64 v.2.2.2] 38 := (((KZ.out.set 0 (.int .i64 v.1)).set 1 (.int .i64 v.2.1)).set 2 (.float .f64 v.2.2.1)).set 3 (.float .f64 v.2.2.2)
            refine ⟨kz, v, ok, rfl, rfl, HGR.out.1, HGR.out.2, KVn, ?_⟩
            show Below X7.heap.size X7 _
            repeat (first | with_reducible exact LX.out | with_reducible refine Below.setCell ?_ (by simp <;> omega) _)
        case rest =>
          clear x0 x1 x2 y0 y1 y2 y3 f0 f1 u0 u1 u2 q0v q1v q2v q3v LX
          obtain ⟨k14, v1, ok1, rfl, rfl, hov1, hgr1, kv1, lx⟩ := hcut
          obtain ⟨rfl, rfl⟩ := rt_inj (GR.same G0.out.2 hgr1)
          have lx : Below X7.heap.size X7 wc := lx
          obtain ⟨Q, hQ⟩ : ∃ Q, wc = Q := ⟨_, rfl⟩
          rw [hQ] at kv1 lx ⊢
          clear hQ
          have LQ : Hid (Below w.heap.size w Q) := bl_trans LC.out lx
          have DQ : Hid (Decls Q (some ⟨a6, 0, none⟩) A ∧ Decls Q (some ⟨b6, 0, none⟩) B ∧ Decls Q (some ⟨d6, 0, none⟩) C) := ⟨D7.out.1.later lx, D7.out.2.1.later lx, D7.out.2.2.later lx⟩
          have EQ : Hid (InW Q 0 (some ⟨m7, 0, none⟩) (some ⟨n7, 0, none⟩) (some ⟨o7, 0, none⟩) (some ⟨p7, 0, none⟩) W) := E7.out.later lx
          obtain ⟨x0, x1, x2, x3⟩ := (KK.out.1.later lx).three'
          obtain ⟨y0, y1, y2, y3, y9⟩ := (KK.out.2.1.later lx).four'
          obtain ⟨u0, u1, u2, u3⟩ := (KR.out.later lx).three'
          obtain ⟨q0v, q1v, q2v, q3v, v9⟩ := (KW.out.later lx).four'
          obtain ⟨g0, g1, g2, g3, g4⟩ := (KV.out.later lx).four'
          obtain ⟨h0, h1', h2', h3', h4'⟩ := kv1.four'
          have HO : Hid (okV v0) := G0.out.1
          have hqq : (ok0 != ok0) = false := by simp
          clear hov1 hgr1 KK KR KW KV D7 E7 LC kv1 x3 y9 u3 v9 g4 h4'
          have LXQ : Hid (Below X7.heap.size X7 Q) := lx
          clear lx
          go_wp2_with fail
          refine (eqVal_any v0.1 v0.2.1 v0.2.2.1 v0.2.2.2 v0.1 v0.2.1 v0.2.2.1 v0.2.2.2 _ HO.out.2.1 HO.out.2.2 HO.out.2.1 HO.out.2.2).mono ?_
          rintro r w10 ⟨rfl, hb10⟩
          rw [eqB_self]
          have LQ : Hid (Below w.heap.size w w10) := bl_trans LQ.out hb10
          have DQ : Hid (Decls w10 (some ⟨a6, 0, none⟩) A ∧ Decls w10 (some ⟨b6, 0, none⟩) B ∧ Decls w10 (some ⟨d6, 0, none⟩) C) := ⟨DQ.out.1.later hb10, DQ.out.2.1.later hb10, DQ.out.2.2.later hb10⟩
          have EQ : Hid (InW w10 0 (some ⟨m7, 0, none⟩) (some ⟨n7, 0, none⟩) (some ⟨o7, 0, none⟩) (some ⟨p7, 0, none⟩) W) := EQ.out.later hb10
          have x0 := kcell hb10 x0
          have x1 := kcell hb10 x1
          have x2 := kcell hb10 x2
          have y0 := kcell hb10 y0
          have y1 := kcell hb10 y1
          have y2 := kcell hb10 y2
          have y3 := kcell hb10 y3
          have u0 := kcell hb10 u0
          have u1 := kcell hb10 u1
          have u2 := kcell hb10 u2
          have q0v := kcell hb10 q0v
          have q1v := kcell hb10 q1v
          have q2v := kcell hb10 q2v
          have q3v := kcell hb10 q3v
          clear hb10 g0 g1 g2 g3 h0 h1' h2' h3' LXQ
          obtain ⟨Q2, hQ2⟩ : ∃ Q2, w10 = Q2 := ⟨_, rfl⟩
          rw [hQ2] at LQ DQ EQ x0 x1 x2 y0 y1 y2 y3 u0 u1 u2 q0v q1v q2v q3v ⊢
          clear hQ2
          go_wp2_with fail
          refine wp_region_held_drew (S := (fun w' => w'.cell? ⟨w.heap.size, 0, none⟩ = some (.slice s1 A.length c1) ∧ w'.cell? ⟨w.heap.size, 1, none⟩ = some (.slice s2 B.length c2) ∧ w'.cell? ⟨w.heap.size, 2, none⟩ = some (.slice s3 C.length c3) ∧ w'.cell? ⟨w.heap.size + 1, 0, none⟩ = some (.slice i1 W.gens.length j1) ∧ w'.cell? ⟨w.heap.size + 1, 1, none⟩ = some (.slice i2 W.free.length j2) ∧ w'.cell? ⟨w.heap.size + 1, 2, none⟩ = some (.slice i3 W.tabs.length j3) ∧ w'.cell? ⟨w.heap.size + 1, 3, none⟩ = some (.slice i4 W.res.length j4) ∧ w'.cell? ⟨w6.heap.size, 0, none⟩ = some (.slice (some ⟨a6, 0, none⟩) A.length A.length) ∧ w'.cell? ⟨w6.heap.size, 1, none⟩ = some (.slice (some ⟨b6, 0, none⟩) B.length B.length) ∧ w'.cell? ⟨w6.heap.size, 2, none⟩ = some (.slice (some ⟨d6, 0, none⟩) C.length C.length) ∧ w'.cell? ⟨w7.heap.size, 0, none⟩ = some (.slice (some ⟨m7, 0, none⟩) W.gens.length W.gens.length) ∧ w'.cell? ⟨w7.heap.size, 1, none⟩ = some (.slice (some ⟨n7, 0, none⟩) W.free.length W.free.length) ∧ w'.cell? ⟨w7.heap.size, 2, none⟩ = some (.slice (some ⟨o7, 0, none⟩) W.tabs.length W.tabs.length) ∧ w'.cell? ⟨w7.heap.size, 3, none⟩ = some (.slice (some ⟨p7, 0, none⟩) W.res.length W.res.length))) (by kernel_rfl) ?_ (fun hHeld => ?_)
          · exact ⟨x0, x1, x2, y0, y1, y2, y3, u0, u1, u2, q0v, q1v, q2v, q3v⟩
          refine wpAnyH_one (i := 0) (d := 59) (v := ?_) rfl rfl (by kernel_rfl) (by kernel_rfl) (by kernel_rfl) (fun _ _ _ h => h) (by rfl) (by assumption) ?_ ?_
          rotate_left 1
          · intro w hSw; (try dsimp only at hSw); go_simp <;> with_reducible rfl
          simp only [List.foldl, Act.put, List.setIfInBounds_toArray, List.set_cons_zero, List.set_cons_succ]
          refine wpAnyH_one (i := 1) (d := 60) (v := ?_) rfl rfl (by kernel_rfl) (by kernel_rfl) (by kernel_rfl) (fun _ _ _ h => h) (by rfl) (by assumption) ?_ ?_
          rotate_left 1
          · intro w hSw; (try dsimp only at hSw); go_simp <;> with_reducible rfl
          simp only [List.foldl, Act.put, List.setIfInBounds_toArray, List.set_cons_zero, List.set_cons_succ]
          refine wpAnyH_ready (rs := [2]) (by kernel_rfl) (by simp) ?_
          refine AllReadyH.cons rfl (fun K hK => ?_) AllReadyH.nil
          go_simp
          refine (toReg_any s1 s2 s3 c1 c2 c3 A B C _ (HD.out.1.later (bl_trans LQ.out (bl_drew (Below.refl _ _)))) (HD.out.2.1.later (bl_trans LQ.out (bl_drew (Below.refl _ _)))) (HD.out.2.2.later (bl_trans LQ.out (bl_drew (Below.refl _ _)))) lA lB lC).mono ?_
          rintro r0 wa ⟨⟨aa, ba, da, rfl, dAa, dBa, dCa⟩, hb_wa⟩
          have hc_wa : Below Q2.heap.size Q2 wa := bl_trans (bl_drew (Below.refl _ _)) hb_wa
          have x0 := kcell hc_wa x0
          have x1 := kcell hc_wa x1
          have x2 := kcell hc_wa x2
          have y0 := kcell hc_wa y0
          have y1 := kcell hc_wa y1
          have y2 := kcell hc_wa y2
          have y3 := kcell hc_wa y3
          have u0 := kcell hc_wa u0
          have u1 := kcell hc_wa u1
          have u2 := kcell hc_wa u2
          have q0v := kcell hc_wa q0v
          have q1v := kcell hc_wa q1v
          have q2v := kcell hc_wa q2v
          have q3v := kcell hc_wa q3v
          have La : Hid (Below w.heap.size w wa) := bl_trans LQ.out hc_wa
          have HQa : Hid (Below Q2.heap.size Q2 wa) := hc_wa
          have Da : Hid (Decls wa (some ⟨aa, 0, none⟩) A ∧ Decls wa (some ⟨ba, 0, none⟩) B ∧ Decls wa (some ⟨da, 0, none⟩) C) := ⟨dAa, dBa, dCa⟩
          clear dAa dBa dCa hc_wa
          clear hb_wa
          refine hK.out _ _ ?_ (fun hHeld => ?_)
          · exact ⟨x0, x1, x2, y0, y1, y2, y3, u0, u1, u2, q0v, q1v, q2v, q3v⟩
          clear hK K
          try simp only [List.foldl, Act.put, List.setIfInBounds_toArray, List.set_cons_zero, List.set_cons_succ]
          refine wpAnyH_ready (rs := [3]) (by kernel_rfl) (by simp) ?_
          refine AllReadyH.cons rfl (fun K hK => ?_) AllReadyH.nil
          go_simp
          refine (eqReg_same _ _ _ _ _ _ _ _ _ _ _ _ A B C _ (DQ.out.1.later HQa.out) (DQ.out.2.1.later HQa.out) (DQ.out.2.2.later HQa.out) Da.out.1 Da.out.2.1 Da.out.2.2 lA lB lC).mono ?_
          rintro r0 wb ⟨rfl, hb_wb⟩
          have hc_wb : Below wa.heap.size wa wb := hb_wb
          have x0 := kcell hc_wb x0
          have x1 := kcell hc_wb x1
          have x2 := kcell hc_wb x2
          have y0 := kcell hc_wb y0
          have y1 := kcell hc_wb y1
          have y2 := kcell hc_wb y2
          have y3 := kcell hc_wb y3
          have u0 := kcell hc_wb u0
          have u1 := kcell hc_wb u1
          have u2 := kcell hc_wb u2
          have q0v := kcell hc_wb q0v
          have q1v := kcell hc_wb q1v
          have q2v := kcell hc_wb q2v
          have q3v := kcell hc_wb q3v
          have Lb : Hid (Below w.heap.size w wb) := bl_trans La.out hc_wb
          have Eb : Hid (InW wb 0 (some ⟨m7, 0, none⟩) (some ⟨n7, 0, none⟩) (some ⟨o7, 0, none⟩) (some ⟨p7, 0, none⟩) W) := (EQ.out.later HQa.out).later hc_wb
          clear hc_wb
          clear hb_wb
          refine hK.out _ _ ?_ (fun hHeld => ?_)
          · exact ⟨x0, x1, x2, y0, y1, y2, y3, u0, u1, u2, q0v, q1v, q2v, q3v⟩
          clear hK K
          try simp only [List.foldl, Act.put, List.setIfInBounds_toArray, List.set_cons_zero, List.set_cons_succ]
          refine wpAnyH_one (i := 4) (d := 63) (v := ?_) rfl rfl (by kernel_rfl) (by kernel_rfl) (by kernel_rfl) (fun _ _ _ h => h) (by rfl) (by assumption) ?_ ?_
          rotate_left 1
          · intro w hSw; (try dsimp only at hSw); go_simp <;> with_reducible rfl
          simp only [List.foldl, Act.put, List.setIfInBounds_toArray, List.set_cons_zero, List.set_cons_succ]
          refine wpAnyH_done (by kernel_rfl) ?_ _
          clear LQ La DQ Da EQ HQa hHeld
          go_wp2_with fail
          refine wp_region_held_drew (S := (fun w' => w'.cell? ⟨w.heap.size, 0, none⟩ = some (.slice s1 A.length c1) ∧ w'.cell? ⟨w.heap.size, 1, none⟩ = some (.slice s2 B.length c2) ∧ w'.cell? ⟨w.heap.size, 2, none⟩ = some (.slice s3 C.length c3) ∧ w'.cell? ⟨w.heap.size + 1, 0, none⟩ = some (.slice i1 W.gens.length j1) ∧ w'.cell? ⟨w.heap.size + 1, 1, none⟩ = some (.slice i2 W.free.length j2) ∧ w'.cell? ⟨w.heap.size + 1, 2, none⟩ = some (.slice i3 W.tabs.length j3) ∧ w'.cell? ⟨w.heap.size + 1, 3, none⟩ = some (.slice i4 W.res.length j4) ∧ w'.cell? ⟨w6.heap.size, 0, none⟩ = some (.slice (some ⟨a6, 0, none⟩) A.length A.length) ∧ w'.cell? ⟨w6.heap.size, 1, none⟩ = some (.slice (some ⟨b6, 0, none⟩) B.length B.length) ∧ w'.cell? ⟨w6.heap.size, 2, none⟩ = some (.slice (some ⟨d6, 0, none⟩) C.length C.length) ∧ w'.cell? ⟨w7.heap.size, 0, none⟩ = some (.slice (some ⟨m7, 0, none⟩) W.gens.length W.gens.length) ∧ w'.cell? ⟨w7.heap.size, 1, none⟩ = some (.slice (some ⟨n7, 0, none⟩) W.free.length W.free.length) ∧ w'.cell? ⟨w7.heap.size, 2, none⟩ = some (.slice (some ⟨o7, 0, none⟩) W.tabs.length W.tabs.length) ∧ w'.cell? ⟨w7.heap.size, 3, none⟩ = some (.slice (some ⟨p7, 0, none⟩) W.res.length W.res.length))) (by kernel_rfl) ?_ (fun hHeld => ?_)
          · exact ⟨x0, x1, x2, y0, y1, y2, y3, u0, u1, u2, q0v, q1v, q2v, q3v⟩
          refine wpAnyH_one (i := 0) (d := 64) (v := ?_) rfl rfl (by kernel_rfl) (by kernel_rfl) (by kernel_rfl) (fun _ _ _ h => h) (by rfl) (by assumption) ?_ ?_
          rotate_left 1
          · intro w hSw; (try dsimp only at hSw); go_simp <;> with_reducible rfl
          simp only [List.foldl, Act.put, List.setIfInBounds_toArray, List.set_cons_zero, List.set_cons_succ]
          refine wpAnyH_one (i := 1) (d := 65) (v := ?_) rfl rfl (by kernel_rfl) (by kernel_rfl) (by kernel_rfl) (fun _ _ _ h => h) (by rfl) (by assumption) ?_ ?_
          rotate_left 1
          · intro w hSw; (try dsimp only at hSw); go_simp <;> with_reducible rfl
          simp only [List.foldl, Act.put, List.setIfInBounds_toArray, List.set_cons_zero, List.set_cons_succ]
          refine wpAnyH_ready (rs := [2]) (by kernel_rfl) (by simp) ?_
          refine AllReadyH.cons rfl (fun K hK => ?_) AllReadyH.nil
          go_simp
          refine (toWorld_made i1 i2 i3 i4 j1 j2 j3 j4 W 0 _ (HW.out.later (bl_trans Lb.out (bl_drew (Below.refl _ _)))) HK.out).mono ?_
          rintro r0 wd ⟨⟨mb, nb, ob, pb, rfl, hEb⟩, hb_wd⟩
          have hc_wd : Below wb.heap.size wb wd := bl_trans (bl_drew (Below.refl _ _)) hb_wd
          have x0 := kcell hc_wd x0
          have x1 := kcell hc_wd x1
          have x2 := kcell hc_wd x2
          have y0 := kcell hc_wd y0
          have y1 := kcell hc_wd y1
          have y2 := kcell hc_wd y2
          have y3 := kcell hc_wd y3
          have u0 := kcell hc_wd u0
          have u1 := kcell hc_wd u1
          have u2 := kcell hc_wd u2
          have q0v := kcell hc_wd q0v
          have q1v := kcell hc_wd q1v
          have q2v := kcell hc_wd q2v
          have q3v := kcell hc_wd q3v
          have Ld : Hid (Below w.heap.size w wd) := bl_trans Lb.out hc_wd
          have Ed : Hid (InW wd 0 (some ⟨mb, 0, none⟩) (some ⟨nb, 0, none⟩) (some ⟨ob, 0, none⟩) (some ⟨pb, 0, none⟩) W) := hEb.drop (Nat.zero_le _)
          have Ec : Hid (InW wd 0 (some ⟨m7, 0, none⟩) (some ⟨n7, 0, none⟩) (some ⟨o7, 0, none⟩) (some ⟨p7, 0, none⟩) W) := Eb.out.later hc_wd
          clear hEb hc_wd
          clear hb_wd
          refine hK.out _ _ ?_ (fun hHeld => ?_)
          · exact ⟨x0, x1, x2, y0, y1, y2, y3, u0, u1, u2, q0v, q1v, q2v, q3v⟩
          clear hK K
          try simp only [List.foldl, Act.put, List.setIfInBounds_toArray, List.set_cons_zero, List.set_cons_succ]
          refine wpAnyH_ready (rs := [3]) (by kernel_rfl) (by simp) ?_
          refine AllReadyH.cons rfl (fun K hK => ?_) AllReadyH.nil
          go_simp
          refine (eqWorld_gen _ _ _ _ _ _ _ _ _ _ _ _ _ _ _ _ W _ _ _ Ec.out Ed.out HK.out).mono ?_
          rintro r0 we ⟨rfl, hb_we⟩
          have hc_we : Below wd.heap.size wd we := hb_we
          have x0 := kcell hc_we x0
          have x1 := kcell hc_we x1
          have x2 := kcell hc_we x2
          have y0 := kcell hc_we y0
          have y1 := kcell hc_we y1
          have y2 := kcell hc_we y2
          have y3 := kcell hc_we y3
          have u0 := kcell hc_we u0
          have u1 := kcell hc_we u1
          have u2 := kcell hc_we u2
          have q0v := kcell hc_we q0v
          have q1v := kcell hc_we q1v
          have q2v := kcell hc_we q2v
          have q3v := kcell hc_we q3v
          have Le : Hid (Below w.heap.size w we) := bl_trans Ld.out hc_we
          clear hc_we
          clear hb_we
          refine hK.out _ _ ?_ (fun hHeld => ?_)
          · exact ⟨x0, x1, x2, y0, y1, y2, y3, u0, u1, u2, q0v, q1v, q2v, q3v⟩
          clear hK K
          try simp only [List.foldl, Act.put, List.setIfInBounds_toArray, List.set_cons_zero, List.set_cons_succ]
          refine wpAnyH_one (i := 4) (d := 68) (v := ?_) rfl rfl (by kernel_rfl) (by kernel_rfl) (by kernel_rfl) (fun _ _ _ h => h) (by rfl) (by assumption) ?_ ?_
          rotate_left 1
          · intro w hSw; (try dsimp only at hSw); go_simp <;> with_reducible rfl
          simp only [List.foldl, Act.put, List.setIfInBounds_toArray, List.set_cons_zero, List.set_cons_succ]
          refine wpAnyH_done (by kernel_rfl) ?_ _
          go_wp2_with fail
          go_ret
          exact ⟨rfl, Le.out⟩
end
section
open Go.ChangeShapes Go.WideShapes Go.ChangeAt Go.RowKit Go.Joins
set_option linter.unusedVariables false

set_option maxRecDepth 100000 in
theorem lifted (os : Os) (started : os.Started) (H : Type) (enc : TypeId × Value → H) :
    ReturnsInHanded {} Try.checked os 3 .any (Rows.fnExactGetSpec.pre6 enc Try.prog Try.f3 Rows.fnExactGetRow.domain false) (Rows.fnExactGetSpec.post enc Try.prog Try.f3 false true false false) := by
  refine returnsInHanded_of_change (C := Try.checked) Try.own started (by kernel_rfl) Try.func3
    (ChangeSpec.witness6 (enc := enc) (C := Try.checked) false ⟨#[], #[.agg #[.slice none 0 0, .slice none 0 0, .slice none 0 0], .agg #[.slice none 0 0, .slice none 0 0, .slice none 0 0, .slice none 0 0], .agg #[.int .i64 0, .int .i64 0], .int .i64 0], []⟩ 8 (by kernel_rfl) (by kernel_rfl) (by kernel_rfl) (by kernel_rfl)) ?_
  intro W base args ds gs before hval0 hW hcnd _
  have hval : ∀ (j : Nat) t v, Try.f3.params[j]? = some t → args[j]? = some v → Value.okWide Try.prog W .any base t v := hval0
  have hW' := hW
  obtain ⟨p, q, hA0, hV, rfl, hfz, hnd⟩ := hW
  have hA : DataW.TrodAll enc Try.prog W 0 (fun _ => true) true Try.f3.params.toList args.toList ds p := hA0
  rw [Try.params3] at hA hval
  obtain ⟨v0, vs0, d0, ds0, p0, q0, hargs, rfl, rfl, h0, r0⟩ := trodAll_cons hA
  obtain ⟨v1, vs1, d1, ds1, p1, q1, rfl, rfl, rfl, h1, r1⟩ := trodAll_cons r0
  obtain ⟨v2, vs2, d2, ds2, p2, q2, rfl, rfl, rfl, h2, r2⟩ := trodAll_cons r1
  obtain ⟨v3, vs3, d3, ds3, p3, q3, rfl, rfl, rfl, h3, r3⟩ := trodAll_cons r2
  obtain ⟨rfl, rfl, rfl⟩ := trodAll_nil r3
  obtain rfl : args = #[v0, v1, v2, v3] := by cases args; simp_all
  obtain ⟨rfl, rfl⟩ := trodVars_none hV
  have k0 := h0
  have lt0 : ∀ x ∈ p0, x.block < W.heap.size := by obtain ⟨m, hm⟩ := k0; exact DataW.trod_lt m _ _ _ hm
  have k1 := h1
  have lt1 : ∀ x ∈ p1, x.block < W.heap.size := by obtain ⟨m, hm⟩ := k1; exact DataW.trod_lt m _ _ _ hm
  have k2 := h2
  have lt2 : ∀ x ∈ p2, x.block < W.heap.size := by obtain ⟨m, hm⟩ := k2; exact DataW.trod_lt m _ _ _ hm
  have k3 := h3
  have lt3 : ∀ x ∈ p3, x.block < W.heap.size := by obtain ⟨m, hm⟩ := k3; exact DataW.trod_lt m _ _ _ hm
  obtain ⟨s1, s2, s3, c1, c2, c3, A, B, C, rfl, gA, gB, gC⟩ := openReg (hval 0 24 v0 rfl rfl) h0
  obtain ⟨a1_1, a2_1, a3_1, a4_1, e1_1, e2_1, e3_1, e4_1, W1, rfl, hI1, hm1, hb1⟩ := openWorldB (hval 1 31 v1 rfl rfl) h1
  obtain ⟨e2, rfl, be2⟩ := openEntB (hval 2 33 v2 rfl rfl) h2
  obtain ⟨n3, rfl, wn3⟩ := openIw (hval 3 3 v3 rfl rfl) h3
  clear hA0 hval0
  refine (exactGet_any s1 s2 s3 c1 c2 c3 A B C a1_1 a2_1 a3_1 a4_1 e1_1 e2_1 e3_1 e4_1 W1 e2 n3 W gA gB gC hI1 hm1 hb1 be2).mono fun e W' ⟨he, bel⟩ => ?_
  subst he
  exact ⟨_, rfl, _, _, _, [], _, [], hW', trodAll_mk1 (shut_bool Try.underlying4 _), (trodAll_cons_mk (Below.trod Try.laidOut (by kernel_rfl) (of_decide_eq_true (by kernel_rfl)) k0 bel lt0) (trodAll_cons_mk (Below.trod Try.laidOut (by kernel_rfl) (of_decide_eq_true (by kernel_rfl)) k1 bel lt1) (trodAll_cons_mk (Below.trod Try.laidOut (by kernel_rfl) (of_decide_eq_true (by kernel_rfl)) k2 bel lt2) (trodAll_cons_mk (Below.trod Try.laidOut (by kernel_rfl) (of_decide_eq_true (by kernel_rfl)) k3 bel lt3) trodAll_mk0)))), rfl, bel.frame _, fun h => by cases h⟩

theorem holds : Rows.FnExactGetSaid :=
  OpenClaim.holds_of_wide 3 Try.f3 rfl rfl rfl rfl rfl rfl rfl ⟨rfl, rfl, rfl, rfl, rfl⟩ rfl rfl rfl rfl rfl (by kernel_rfl) Try.func3 (by kernel_rfl)
    (of_decide_eq_true (by kernel_rfl)) (by unfold Func.isWrapper; first | (rw [if_pos (by decide +kernel)]; kernel_rfl) | (rw [if_neg (by decide +kernel)]; exact ⟨rfl, rfl⟩))
    (fun os started H enc _ => lifted os started H enc)
end
end Go.Proofs.Ytofpkbnocbmgkaa
