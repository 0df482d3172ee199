import Derived.Test.YtjfpflejnbnhnaaSl13
import Derived.Test.YtjfpflejnbnhnaaSl25
import Derived.Test.YtjfpflejnbnhnaaSl06
import Derived.Test.YtjfpflejnbnhnaaSl12
namespace Go.Proofs.Ytjfpflejnbnhnaa
section
open Go.ChangeShapes Go.WideShapes Go.ChangeAt Go.RowKit Go.Joins
set_option linter.unusedVariables false
set_option linter.unusedSimpArgs false
set_option maxRecDepth 100000
theorem Try.cellsStr : Try.prog.cellsOf 79 = 3 := by kernel_rfl
theorem Try.cellsStrs : Try.prog.cellsOf 32 = 1 := by kernel_rfl
theorem Try.cellsSta : Try.prog.cellsOf 34 = 6 := by kernel_rfl
theorem array6 {α : Type} {cs : Array α} (h : cs.size = 6) : ∃ x0 x1 x2 x3 x4 x5, cs = #[x0, x1, x2, x3, x4, x5] := by
 obtain ⟨l⟩ := cs
 match l, h with
 | [a, b, c, d, e, f], _ => exact ⟨a, b, c, d, e, f, rfl⟩
section
variable {H : Type} {enc : TypeId × Value → H} {w : World} {base : Nat} {spare : Nat → Bool} {held : Bool}
theorem oneStr (m : Nat) (cs : List Value) (y : DataW H × List MemPlace) (h : DataW.trod enc Try.prog w base spare held m 79 cs = some y) : ∃ a, cStr w 0 cs a ∧ mSm a := by
 obtain ⟨y0, y1, y2, n, _, hlen, h0, h1, h2⟩ := Go.Deep.trod_struct3 Try.underlying79 h
 rw [Try.cellsStr] at hlen
 match cs, hlen with
 | [v0, v1, v2], _ =>
  simp [Try.cellsI, Try.cellsVs] at h0 h1 h2
  obtain ⟨a, e0, _, wa⟩ := DataW.trod_int Try.underlying3 h0
  obtain ⟨s1, c1, A, e1, f1, _, m1⟩ := openEls Try.underlying29 Try.cellsVal (by omega) oneVal h1
  obtain ⟨s2, c2, B, e2, f2, _, m2⟩ := openEls Try.underlying29 Try.cellsVal (by omega) oneVal h2
  simp only [List.cons.injEq, and_true] at e0 e1 e2
  subst e0 e1 e2
  exact ⟨(a, A, B), ⟨s1, c1, s2, c2, rfl, f1, f2⟩, ⟨m1, m2⟩⟩
theorem openState {r : Reach} {b0 : Nat} {v : Value} {d : DataW H} {p : List MemPlace} (hv : Value.okWide Try.prog w r b0 34 v) (h : DataW.Trod enc Try.prog w base spare held 34 v d p) :
  ∃ a1 a2 a3 a4 a5 a6 c1 c2 c3 c4 c5 c6 S, v = .agg #[.slice a1 (Sta.w S).gens.length c1, .slice a2 S.w.free.length c2, .slice a3 S.w.tabs.length c3, .slice a4 S.w.res.length c4, .slice a5 S.ss.length c5, .slice a6 S.cu.length c6] ∧ InS w 0 a1 a2 a3 a4 a5 a6 S ∧ mS S ∧ ∀ t ∈ S.w.tabs, ∀ x ∈ t.rows, bE x := by
 obtain ⟨cs, rfl, hsz⟩ := okWide_struct Try.underlying34 hv
 obtain ⟨x0, x1, x2, x3, x4, x5, rfl⟩ := array6 (hsz.trans Try.cellsSta)
 obtain ⟨fuel, hf⟩ := h
 obtain ⟨u0, u1, u2, k, _, _, i0, i1, i2⟩ := Go.Deep.trod_struct3 Try.underlying34 hf
 simp [Value.cells, Try.cellsWd, Try.cellsStrs, Try.cellsIs] at i0 i1 i2
 obtain ⟨y0, y1, y2, n, _, _, h0, h1, h2⟩ := Go.Deep.trod_struct3 Try.underlying31 i0
 simp [Try.cellsEnts, Try.cellsTs, Try.cellsVs] at h0 h1 h2
 obtain ⟨z0, z1, m, _, _, g0, g1⟩ := trod_struct2 Try.underlying27 h0
 simp [Try.cellsIs] at g0 g1
 obtain ⟨s1, c1, A, e0, f1, _, m1⟩ := openEls Try.underlying25 Try.cellsI (by omega) oneInt g0
 obtain ⟨s2, c2, B, e1, f2, _, m2⟩ := openEls Try.underlying25 Try.cellsI (by omega) oneInt g1
 obtain ⟨s3, c3, C, e2, f3, m3, m4⟩ := openEls Try.underlying28 Try.cellsTab (by omega) oneTabB h1
 obtain ⟨s4, c4, D, e3, f4, _, m5⟩ := openEls Try.underlying29 Try.cellsVal (by omega) oneVal h2
 obtain ⟨s5, c5, E, e4, f5, m6, m7⟩ := openEls Try.underlying32 Try.cellsStr (by omega) oneStr i1
 obtain ⟨s6, c6, F, e5, f6, _, m8⟩ := openEls Try.underlying25 Try.cellsI (by omega) oneInt i2
 simp only [List.cons.injEq, and_true] at e0 e1 e2 e3 e4 e5
 subst e0 e1 e2 e3 e4 e5
 exact ⟨s1, s2, s3, s4, s5, s6, c1, c2, c3, c4, c5, c6, ⟨⟨A, B, C, D⟩, E, F⟩, rfl, ⟨⟨f1, f2, f3, f4⟩, f5, f6⟩, ⟨⟨m1, m2, ⟨m4, fun t ht => (m3 t ht).1⟩, m5⟩, ⟨m7, m6⟩, m8⟩, fun t ht => (m3 t ht).2⟩
end
end
section
open Go.ChangeShapes Go.WideShapes Go.ChangeAt Go.RowKit Go.Joins
set_option linter.unusedVariables false
set_option maxRecDepth 100000
theorem Try.cellsR : Try.prog.cellsOf 24 = 3 := by kernel_rfl
theorem Try.cellsD : Try.prog.cellsOf 73 = 2 := by kernel_rfl
theorem Try.cellsS : Try.prog.cellsOf 9 = 1 := by kernel_rfl
section
variable {H : Type} {enc : TypeId × Value → H} {w : World} {base : Nat} {spare : Nat → Bool} {held : Bool}
theorem openDecl {n : Nat} {a : Addr} {y : DataW H × List MemPlace} (h : (w.cells? base a 2).bind (DataW.trod enc Try.prog w base spare held n 73) = some y) :
  ∃ (s : ByteArray) (k : Int), s.size ≤ maxLen ∧ w.cell? (a.add 0) = some (.string s) ∧ w.cell? (a.add 1) = some (.int .i64 k) := by
 rw [Option.bind_eq_some_iff] at h
 obtain ⟨cs, hcs, hy⟩ := h
 have hc := World.cells?_some hcs
 obtain ⟨y0, y1, m, _, hlen, h0, h1⟩ := trod_struct2 Try.underlying73 hy
 rw [Try.cellsD] at hlen
 match cs, hlen with
 | [v0, v1], _ =>
  rw [Try.cellsS] at h0
  rw [Try.cellsI] at h1
  simp at h0 h1
  obtain ⟨s, e0, _, hs⟩ := DataW.trod_string Try.underlying9 h0
  obtain ⟨k, e1, _, _⟩ := DataW.trod_int Try.underlying3 h1
  simp only [List.cons.injEq, and_true] at e0 e1
  subst e0 e1
  have c0 := hc.2.2 0 (by omega)
  have c1 := hc.2.2 1 (by omega)
  exact ⟨s, k, hs, by simpa using c0, by simpa using c1⟩
theorem openDecls {fuel : Nat} {v : Value} {y : DataW H × List MemPlace} (h : DataW.trod enc Try.prog w base spare held fuel 22 [v] = some y) :
  ∃ s c L, v = .slice s (List.length (α := ByteArray × Int) L) c ∧ Dc w s L := by
 rcases DataW.trod_slice Try.underlying22 h with ⟨hcs, _⟩ | ⟨a, len, cap, elems, rest, n, _, hcs, _, hb, hl, hm, hlen, hel, _, _⟩
 ·
  simp at hcs
  exact ⟨none, 0, [], hcs, Or.inl rfl, fun p hp => by simp at hp, by simp⟩
 ·
  simp at hcs
  have each : ∀ i, i < len → ∃ p : ByteArray × Int, p.1.size ≤ maxLen ∧ w.cell? ((a.add (i * 2)).add 0) = some (.string p.1) ∧ w.cell? ((a.add (i * 2)).add 1) = some (.int .i64 p.2) := by
   intro i hi
   have := hel i hi
   rw [Try.cellsD] at this
   obtain ⟨e, he⟩ : ∃ e, elems[i]? = some e := ⟨elems[i], by simp [hlen, hi]⟩
   rw [he] at this
   obtain ⟨s, k, h1, h2, h3⟩ := openDecl this
   exact ⟨(s, k), h1, h2, h3⟩
  let g : Nat → ByteArray × Int := fun i => if h : i < len then Classical.choose (each i h) else (ByteArray.empty, 0)
  have hg : ∀ i, i < len → (g i).1.size ≤ maxLen ∧ w.cell? ((a.add (i * 2)).add 0) = some (.string (g i).1) ∧ w.cell? ((a.add (i * 2)).add 1) = some (.int .i64 (g i).2) := by
   intro i hi
   have : g i = Classical.choose (each i hi) := by simp [g, hi]
   rw [this]
   exact Classical.choose_spec (each i hi)
  have hL : ((List.range len).map g).length = len := by simp
  refine ⟨some a, cap, (List.range len).map g, by rw [hL]; exact hcs, ?_, ?_, by rw [hL]; omega⟩
  ·
   by_cases he : len = 0
   ·
    left; simp [he]
   ·
    right
    obtain ⟨b, off, spot⟩ := a
    have h0 := (hg 0 (by omega)).2.1
    have hspot : spot = none := by simpa [Addr.add] using World.cell?_spot h0
    subst hspot
    refine ⟨b, off, rfl, ?_, fun j hj => ?_⟩
    ·
     have := World.block_lt_of_cell? _ _ h0
     simpa [Addr.add] using this
    ·
     rw [hL] at hj
     have e : dAt ((List.range len).map g) j = g j := by simp [dAt, hj]
     rw [e]
     obtain ⟨_, g1, g2⟩ := hg j hj
     rw [Addr.add_add, add_plain] at g1 g2
     exact ⟨g1, g2⟩
  ·
   intro p hp
   simp only [List.mem_map, List.mem_range] at hp
   obtain ⟨i, hi, rfl⟩ := hp
   exact (hg i hi).1
theorem openReg {r : Reach} {b0 : Nat} {v : Value} {d : DataW H} {p : List MemPlace} (hv : Value.okWide Try.prog w r b0 24 v) (h : DataW.Trod enc Try.prog w base spare held 24 v d p) :
  ∃ s1 s2 s3 c1 c2 c3 A B C, v = .agg #[.slice s1 (List.length (α := ByteArray × Int) A) c1, .slice s2 (List.length (α := ByteArray × Int) B) c2, .slice s3 (List.length (α := ByteArray × Int) C) c3] ∧ Dc w s1 A ∧ Dc w s2 B ∧ Dc w s3 C := by
 obtain ⟨v0, v1, v2, y0, y1, y2, n, rfl, rfl, rfl, h0, h1, h2⟩ := open_agg3 Try.underlying24 (by kernel_rfl) Try.cellsR hv h
 obtain ⟨s1, c1, A, rfl, gA⟩ := openDecls h0
 obtain ⟨s2, c2, B, rfl, gB⟩ := openDecls h1
 obtain ⟨s3, c3, C, rfl, gC⟩ := openDecls h2
 exact ⟨s1, s2, s3, c1, c2, c3, A, B, C, rfl, gA, gB, gC⟩
end
end
section
open Go.RowKit
set_option linter.unusedVariables false
set_option linter.unusedSimpArgs false
set_option maxRecDepth 100000
theorem Try.infoSt : (Try.prog.info? 63).map (fun i => (i.zero, i.size, i.bytes)) = some (some (.agg #[.int .i64 0, .slice none 0 0, .slice none 0 0]), 3, 56) := by kernel_rfl
set_option maxHeartbeats 4000000 in
theorem toStreamS_made (s : Option Addr) (c : Nat) (L : List Sm) (B : Nat) (w : World) (hL : Els 3 cStr w B s L) (hl : kSms L) :
  Calls Try.prog 20 #[.slice s L.length c] w fun e w' => Made 3 cStr w L e w' := by
 obtain ⟨i0, hi, hz0, hz1, hz2⟩ := info_parts Try.infoSt
 obtain ⟨hl, hls⟩ := hl
 have HLS : Hid (∀ l ∈ L, kSm l) := hls
 clear hls
 go_enter Try.func20, Try.ntmps20
 go_wp2_with (at_make; refine wpList_make_full _ rfl _ _ 47 rfl w.heap.size 63 i0 (.agg #[.int .i64 0, .slice none 0 0, .slice none 0 0]) 3 Try.underlying47 hi hz0 hz1 .i64 .i64 _ _ L.length rfl rfl rfl rfl (by rw [hz2]; omega) (by unfold maxLen; omega) (Nat.le_refl _) ?_)
 intro w1 hown hgrow
 have hrow : Hid (Mk 3 cStr [.int .i64 0, .slice none 0 0, .slice none 0 0] 63 w1 w.heap.size w.heap.size L 0) := Mk.start (z := #[.int .i64 0, .slice none 0 0, .slice none 0 0]) rfl hown
 have hbel : Hid (Below w.heap.size w w1) := (Below.refl _ w).grown hgrow (Nat.le_refl _) (fun k h => by cases h)
 clear hown hgrow hi hz0 hz1 hz2
 go_wp2_with fail
 go_loopw [4] (fun i wr => ∃ k : Nat, k ≤ L.length ∧ i = .int .i64 k ∧ Hid (Mk 3 cStr [.int .i64 0, .slice none 0 0, .slice none 0 0] 63 wr w.heap.size w.heap.size L k) ∧ Hid (Below w.heap.size w wr)) (fun i _ => L.length - (intOf i).toNat)
 case atStart => exact ⟨0, Nat.zero_le _, rfl, hrow, hbel⟩
 case round =>
  obtain ⟨k, hk, rfl, hrow, hbel⟩ := hrel
  by_cases hlt : k < L.length
  ·
   obtain ⟨a, ha⟩ := get_some hlt
   obtain ⟨b, o, rfl, hB, hp, s1, c1, s2, c2, e1, e2, e3, f1, f2⟩ := eStr_cells (hL.later cStr_keeps hbel.out) ha
   have hal := HLS.out a (List.mem_of_getElem? ha)
   have gl := (hrow.out.at hlt).2.1
   have ok1 := els_ok f1
   have ok2 := els_ok f2
   clear hL
   go_wp2_with fail
   refine (toStream_own a.1 s1 s2 c1 c2 a.2.1 a.2.2 B _ f1 f2 hal.1 hal.2).mono ?_
   rintro e w2 ⟨⟨x1, y1, x2, y2, rfl, d1, d2, _⟩, hb2⟩
   have D1 := d1.els ok1
   have D2 := d2.els ok2
   have hr2 := hrow.out.later cStr_keeps hb2
   have L2 : Hid (Below w.heap.size w w2) := bl_trans hbel.out hb2
   obtain ⟨_, hg, fz, cz⟩ := hr2.at hlt
   have g1 := cz 0 _ rfl
   have g2 := cz 1 _ rfl
   have g3 := cz 2 _ rfl
   rw [Nat.add_zero] at g1
   have hputH : Hid (Mk 3 cStr [.int .i64 0, .slice none 0 0, .slice none 0 0] 63 (((w2.setCell ⟨w.heap.size, k * 3, none⟩ (.int .i64 a.1)).setCell ⟨w.heap.size, k * 3 + 1, none⟩ (.slice (some ⟨x1, 0, none⟩) a.2.1.length y1)).setCell ⟨w.heap.size, k * 3 + 2, none⟩ (.slice (some ⟨x2, 0, none⟩) a.2.2.length y2)) w.heap.size w.heap.size L (k + 1)) :=
    hr2.push cStr_keeps ha (c := [.int .i64 a.1, .slice (some ⟨x1, 0, none⟩) a.2.1.length y1, .slice (some ⟨x2, 0, none⟩) a.2.2.length y2]) rfl ⟨_, _, _, _, rfl, D1.drop cVal_drops (by omega), D2.drop cVal_drops (by omega)⟩ (((Kept.set _ (by simp) _).trans (Kept.set _ (by simp) _)).trans (Kept.set _ (by simp) _)) (fun A C hA h => put3 hA h)
   clear hr2 hrow ha cz f1 f2 d1 d2 D1 D2 ok1 ok2
   go_wp2_with fail
   go_roundw
   case rel => exact ⟨k + 1, by omega, by go_num, hputH, ((L2.out.setCell (Nat.le_refl _) _).setCell (Nat.le_refl _) _).setCell (Nat.le_refl _) _⟩
   case measure => simp [intOf]; omega
  ·
   have hm' : k = L.length := by omega
   subst hm'
   go_wp2_with fail
   go_ret
   exact ⟨_, rfl, Nat.le_refl _, hrow.out.done cStr_drops, hbel.out⟩
set_option maxHeartbeats 8000000 in
theorem toState_made (a1 a2 a3 a4 a5 a6 : Option Addr) (c1 c2 c3 c4 c5 c6 : Nat) (S : Sta) (B : Nat) (w : World) (hS : InS w B a1 a2 a3 a4 a5 a6 S) (hk : kS S) :
  Calls Try.prog 8 #[.agg #[.slice a1 S.w.gens.length c1, .slice a2 S.w.free.length c2, .slice a3 S.w.tabs.length c3, .slice a4 S.w.res.length c4, .slice a5 S.ss.length c5, .slice a6 S.cu.length c6]] w fun e w' => (∃ g1 g2 g3 g4 g5 g6 : Nat, e = .returned (.agg #[.slice (some ⟨g1, 0, none⟩) S.w.gens.length S.w.gens.length, .slice (some ⟨g2, 0, none⟩) S.w.free.length S.w.free.length, .slice (some ⟨g3, 0, none⟩) S.w.tabs.length S.w.tabs.length, .slice (some ⟨g4, 0, none⟩) S.w.res.length S.w.res.length, .slice (some ⟨g5, 0, none⟩) S.ss.length S.ss.length, .slice (some ⟨g6, 0, none⟩) S.cu.length S.cu.length]) ∧
   InS w' w.heap.size (some ⟨g1, 0, none⟩) (some ⟨g2, 0, none⟩) (some ⟨g3, 0, none⟩) (some ⟨g4, 0, none⟩) (some ⟨g5, 0, none⟩) (some ⟨g6, 0, none⟩) S) ∧ Below w.heap.size w w' := by
 have hal := alloc_old
 have haf := alloc_oldf
 obtain ⟨m1, m2, m3⟩ := hk
 obtain ⟨k0, k1, k2⟩ := blk3t w #[.slice a1 S.w.gens.length c1, .slice a2 S.w.free.length c2, .slice a3 S.w.tabs.length c3, .slice a4 S.w.res.length c4, .slice a5 S.ss.length c5, .slice a6 S.cu.length c6] #[.slice none 0 0, .slice none 0 0, .slice none 0 0, .slice none 0 0, .slice none 0 0, .slice none 0 0] #[.slice none 0 0, .slice none 0 0, .slice none 0 0, .slice none 0 0, .slice none 0 0, .slice none 0 0] 34 49 49
 have L0 : Below w.heap.size w (((w.alloc (.cells #[.slice a1 S.w.gens.length c1, .slice a2 S.w.free.length c2, .slice a3 S.w.tabs.length c3, .slice a4 S.w.res.length c4, .slice a5 S.ss.length c5, .slice a6 S.cu.length c6] 34)).alloc (.cells #[.slice none 0 0, .slice none 0 0, .slice none 0 0, .slice none 0 0, .slice none 0 0, .slice none 0 0] 49)).alloc (.cells #[.slice none 0 0, .slice none 0 0, .slice none 0 0, .slice none 0 0, .slice none 0 0, .slice none 0 0] 49)) := by (repeat (first | with_reducible exact Below.refl _ _ | with_reducible refine bl_alloc ?_ _ | with_reducible refine bl_drewN ?_ _ | with_reducible refine bl_drew ?_ | with_reducible refine bl_setCell ?_ (by first | exact Nat.le_refl _ | (dsimp only; omega) | (simp <;> omega)) _ | with_reducible refine bl_trans ?_ (by with_reducible assumption)))
 go_enter Try.func8, Try.ntmps8
 go_wp2_with fail
 generalize hX0 : ((w.alloc (.cells #[.slice a1 S.w.gens.length c1, .slice a2 S.w.free.length c2, .slice a3 S.w.tabs.length c3, .slice a4 S.w.res.length c4, .slice a5 S.ss.length c5, .slice a6 S.cu.length c6] 34)).alloc (.cells #[.slice none 0 0, .slice none 0 0, .slice none 0 0, .slice none 0 0, .slice none 0 0, .slice none 0 0] 49)).alloc (.cells #[.slice none 0 0, .slice none 0 0, .slice none 0 0, .slice none 0 0, .slice none 0 0, .slice none 0 0] 49) = X0 at k0 k1 k2 L0 ⊢
 clear hX0
 have lx0 : w.heap.size + 1 + 1 < X0.heap.size := k2.lt
 refine (toWorld_made a1 a2 a3 a4 c1 c2 c3 c4 S.w B _ (hS.wd.later L0) m1).mono ?_
 rintro e w1 ⟨⟨g1, g2, g3, g4, rfl, hE⟩, hb1⟩
 have L1 := bl_trans L0 hb1
 have d1 := hE.drop (B' := w.heap.size + 1 + 1 + 1) (by omega)
 have P0 := ((((k0.later hb1).other (m := w.heap.size + 1 + 1) (by omega) 0 (.slice (some ⟨g1, 0, none⟩) S.w.gens.length S.w.gens.length)).other (m := w.heap.size + 1 + 1) (by omega) 1 (.slice (some ⟨g2, 0, none⟩) S.w.free.length S.w.free.length)).other (m := w.heap.size + 1 + 1) (by omega) 2 (.slice (some ⟨g3, 0, none⟩) S.w.tabs.length S.w.tabs.length)).other (m := w.heap.size + 1 + 1) (by omega) 3 (.slice (some ⟨g4, 0, none⟩) S.w.res.length S.w.res.length)
 have P1 := ((((k1.later hb1).other (m := w.heap.size + 1 + 1) (by omega) 0 (.slice (some ⟨g1, 0, none⟩) S.w.gens.length S.w.gens.length)).other (m := w.heap.size + 1 + 1) (by omega) 1 (.slice (some ⟨g2, 0, none⟩) S.w.free.length S.w.free.length)).other (m := w.heap.size + 1 + 1) (by omega) 2 (.slice (some ⟨g3, 0, none⟩) S.w.tabs.length S.w.tabs.length)).other (m := w.heap.size + 1 + 1) (by omega) 3 (.slice (some ⟨g4, 0, none⟩) S.w.res.length S.w.res.length)
 have P2 := ((((k2.later hb1).set 0 (.slice (some ⟨g1, 0, none⟩) S.w.gens.length S.w.gens.length)).set 1 (.slice (some ⟨g2, 0, none⟩) S.w.free.length S.w.free.length)).set 2 (.slice (some ⟨g3, 0, none⟩) S.w.tabs.length S.w.tabs.length)).set 3 (.slice (some ⟨g4, 0, none⟩) S.w.res.length S.w.res.length)
 have KS : Kept (w.heap.size + 1 + 1 + 1) w1 (((((w1).setCell ⟨w.heap.size + 1 + 1, 0, none⟩ (.slice (some ⟨g1, 0, none⟩) S.w.gens.length S.w.gens.length)).setCell ⟨w.heap.size + 1 + 1, 1, none⟩ (.slice (some ⟨g2, 0, none⟩) S.w.free.length S.w.free.length)).setCell ⟨w.heap.size + 1 + 1, 2, none⟩ (.slice (some ⟨g3, 0, none⟩) S.w.tabs.length S.w.tabs.length)).setCell ⟨w.heap.size + 1 + 1, 3, none⟩ (.slice (some ⟨g4, 0, none⟩) S.w.res.length S.w.res.length)) := ((((Kept.set _ (by simp) _).trans (Kept.set _ (by simp) _)).trans (Kept.set _ (by simp) _)).trans (Kept.set _ (by simp) _))
 have D1 := d1.kept KS
 have LX := ((((L1).setCell (p := ⟨w.heap.size + 1 + 1, 0, none⟩) (by simp; omega) (.slice (some ⟨g1, 0, none⟩) S.w.gens.length S.w.gens.length)).setCell (p := ⟨w.heap.size + 1 + 1, 1, none⟩) (by simp; omega) (.slice (some ⟨g2, 0, none⟩) S.w.free.length S.w.free.length)).setCell (p := ⟨w.heap.size + 1 + 1, 2, none⟩) (by simp; omega) (.slice (some ⟨g3, 0, none⟩) S.w.tabs.length S.w.tabs.length)).setCell (p := ⟨w.heap.size + 1 + 1, 3, none⟩) (by simp; omega) (.slice (some ⟨g4, 0, none⟩) S.w.res.length S.w.res.length)
 obtain ⟨z0, z1, z2, z3, z4, z5, z6⟩ := (k2.later hb1).six'
 obtain ⟨x0, x1, x2, x3, x4, x5, x6⟩ := (k0.later hb1).six'
 have n0 : ¬ w.heap.size = w.heap.size + 1 + 1 := by omega
 clear k0 k1 k2 hb1 d1 hE L1 KS L0
 go_wp2_with fail
 clear x0 x1 x2 x3 x4 x5 x6 z0 z1 z2 z3 z4 z5 z6
 generalize hX : ((((w1).setCell ⟨w.heap.size + 1 + 1, 0, none⟩ (.slice (some ⟨g1, 0, none⟩) S.w.gens.length S.w.gens.length)).setCell ⟨w.heap.size + 1 + 1, 1, none⟩ (.slice (some ⟨g2, 0, none⟩) S.w.free.length S.w.free.length)).setCell ⟨w.heap.size + 1 + 1, 2, none⟩ (.slice (some ⟨g3, 0, none⟩) S.w.tabs.length S.w.tabs.length)).setCell ⟨w.heap.size + 1 + 1, 3, none⟩ (.slice (some ⟨g4, 0, none⟩) S.w.res.length S.w.res.length) = X at P0 P1 P2 D1 LX ⊢
 clear hX
 have P2 : Blk X (w.heap.size + 1 + 1) #[.slice (some ⟨g1, 0, none⟩) S.w.gens.length S.w.gens.length, .slice (some ⟨g2, 0, none⟩) S.w.free.length S.w.free.length, .slice (some ⟨g3, 0, none⟩) S.w.tabs.length S.w.tabs.length, .slice (some ⟨g4, 0, none⟩) S.w.res.length S.w.res.length, .slice none 0 0, .slice none 0 0] 49 := P2
 refine (toStreamS_made a5 c5 S.ss B _ (hS.s.later cStr_keeps LX) m2).mono ?_
 rintro e w2 ⟨g5, rfl, e3, d3, hb2⟩
 have lx : w.heap.size + 1 + 1 < X.heap.size := P2.lt
 have d3 := d3.drop cStr_drops (B' := w.heap.size + 1 + 1 + 1) (by omega)
 have L2 := bl_trans LX hb2
 have Q0 := (P0.later hb2).other (m := w.heap.size + 1 + 1) (by omega) 4 (.slice (some ⟨g5, 0, none⟩) S.ss.length S.ss.length)
 have Q1 := (P1.later hb2).other (m := w.heap.size + 1 + 1) (by omega) 4 (.slice (some ⟨g5, 0, none⟩) S.ss.length S.ss.length)
 have Q2 := (P2.later hb2).set 4 (.slice (some ⟨g5, 0, none⟩) S.ss.length S.ss.length)
 have KS := Kept.set (B := w.heap.size + 1 + 1 + 1) w2 (p := ⟨w.heap.size + 1 + 1, 4, none⟩) (by simp) (.slice (some ⟨g5, 0, none⟩) S.ss.length S.ss.length)
 have F1 := (D1.later hb2).kept KS
 have F3 := d3.kept cStr_keeps KS
 have LY := (L2).setCell (p := ⟨w.heap.size + 1 + 1, 4, none⟩) (by simp; omega) (.slice (some ⟨g5, 0, none⟩) S.ss.length S.ss.length)
 obtain ⟨z0, z1, z2, z3, z4, z5, z6⟩ := (P2.later hb2).six'
 obtain ⟨x0, x1, x2, x3, x4, x5, x6⟩ := (P0.later hb2).six'
 clear P0 P1 P2 hb2 d3 D1 L2 LX KS
 go_wp2_with fail
 clear x0 x1 x2 x3 x4 x5 x6 z0 z1 z2 z3 z4 z5 z6
 generalize hY : w2.setCell ⟨w.heap.size + 1 + 1, 4, none⟩ (.slice (some ⟨g5, 0, none⟩) S.ss.length S.ss.length) = Y at Q0 Q1 Q2 F1 F3 LY ⊢
 clear hY
 have Q2 : Blk Y (w.heap.size + 1 + 1) #[.slice (some ⟨g1, 0, none⟩) S.w.gens.length S.w.gens.length, .slice (some ⟨g2, 0, none⟩) S.w.free.length S.w.free.length, .slice (some ⟨g3, 0, none⟩) S.w.tabs.length S.w.tabs.length, .slice (some ⟨g4, 0, none⟩) S.w.res.length S.w.res.length, .slice (some ⟨g5, 0, none⟩) S.ss.length S.ss.length, .slice none 0 0] 49 := Q2
 refine (toInts_made a6 c6 S.cu B _ (hS.c.later cInt_keeps LY) m3).mono ?_
 rintro e w3 ⟨g6, rfl, e4, d4, hb3⟩
 have ly : w.heap.size + 1 + 1 < Y.heap.size := Q2.lt
 have d4 := d4.drop cInt_drops (B' := w.heap.size + 1 + 1 + 1) (by omega)
 have L3 := bl_trans LY hb3
 have R1 := (Q1.later hb3)
 have R2 := (Q2.later hb3)
 have G1 := F1.later hb3
 have G3 := F3.later cStr_keeps hb3
 clear Q0 Q1 Q2 F1 F3 LY hb3
 obtain ⟨z0, z1, z2, z3, z4, z5, z6⟩ := R2.six'
 obtain ⟨y0, y1, y2, y3, y4, y5, y6⟩ := R1.six'
 have n1 : ¬ w.heap.size + 1 = w.heap.size + 1 + 1 := by omega
 have K7 : ∀ (u0 u1 u2 u3 u4 u5 u6 : Value), Kept (w.heap.size + 1 + 1 + 1) w3 (((((((w3.setCell ⟨w.heap.size + 1 + 1, 5, none⟩ u0).setCell ⟨w.heap.size + 1, 0, none⟩ u1).setCell ⟨w.heap.size + 1, 1, none⟩ u2).setCell ⟨w.heap.size + 1, 2, none⟩ u3).setCell ⟨w.heap.size + 1, 3, none⟩ u4).setCell ⟨w.heap.size + 1, 4, none⟩ u5).setCell ⟨w.heap.size + 1, 5, none⟩ u6) :=
  fun _ _ _ _ _ _ _ => (((((((Kept.set _ (by simp) _).trans (Kept.set _ (by simp <;> omega) _)).trans (Kept.set _ (by simp <;> omega) _)).trans (Kept.set _ (by simp <;> omega) _)).trans (Kept.set _ (by simp <;> omega) _)).trans (Kept.set _ (by simp <;> omega) _)).trans (Kept.set _ (by simp <;> omega) _))
 go_wp2_with fail
 refine bodyPost_ret (v := .agg #[.slice (some ⟨g1, 0, none⟩) S.w.gens.length S.w.gens.length, .slice (some ⟨g2, 0, none⟩) S.w.free.length S.w.free.length, .slice (some ⟨g3, 0, none⟩) S.w.tabs.length S.w.tabs.length, .slice (some ⟨g4, 0, none⟩) S.w.res.length S.w.res.length, .slice (some ⟨g5, 0, none⟩) S.ss.length S.ss.length, .slice (some ⟨g6, 0, none⟩) S.cu.length S.cu.length]) (by simp [results, Try.results8, go_sem, y0, y1, y2, y3, y4, y5]) rfl ⟨⟨g1, g2, g3, g4, g5, g6, rfl, ?_⟩, ?_⟩
 ·
  exact InS.drop (B := w.heap.size + 1 + 1 + 1) ⟨G1.kept (K7 _ _ _ _ _ _ _), G3.kept cStr_keeps (K7 _ _ _ _ _ _ _), d4.kept cInt_keeps (K7 _ _ _ _ _ _ _)⟩ (by omega)
 ·
  exact (((((((L3.setCell (by simp <;> omega) _).setCell (by simp <;> omega) _).setCell (by simp <;> omega) _).setCell (by simp <;> omega) _).setCell (by simp <;> omega) _).setCell (by simp <;> omega) _).setCell (by simp <;> omega) _)
end
section
open Go.RowKit
set_option linter.unusedVariables false
set_option linter.unusedSimpArgs false
set_option maxRecDepth 100000
set_option maxHeartbeats 4000000 in
theorem eqStreamS_gen (s t : Option Addr) (c d : Nat) (L : List Sm) (B C : Nat) (w : World) (hs : Els 3 cStr w B s L) (ht : Els 3 cStr w C t L) (hl : kSms L) :
  Calls Try.prog 26 #[.slice s L.length c, .slice t L.length d] w fun e w' => e = .returned (.bool true) ∧ Below w.heap.size w w' := by
 have hal := alloc_old
 have haf := alloc_oldf
 obtain ⟨hl, hls⟩ := hl
 have HLS : Hid (∀ l ∈ L, kSm l) := hls
 clear hls
 go_enter Try.func26, Try.ntmps26
 go_wp2_with fail
 go_loopw [5] (fun i wr => ∃ k : Nat, k ≤ L.length ∧ i = .int .i64 k ∧ Below w.heap.size w wr) (fun i _ => L.length - (intOf i).toNat)
 case atStart => exact ⟨0, Nat.zero_le _, rfl, Below.refl _ _⟩
 case round =>
  obtain ⟨k, hk, rfl, hb⟩ := hrel
  by_cases hlt : k < L.length
  ·
   obtain ⟨a, ha⟩ := get_some hlt
   obtain ⟨b, o, rfl, _, hp, s1, c1, s2, c2, e1, e2, e3, p1, p2⟩ := eStr_cells (hs.later cStr_keeps hb) ha
   obtain ⟨b', o', rfl, _, hp', t1, d1, t2, d2, f1, f2, f3, q1, q2⟩ := eStr_cells (ht.later cStr_keeps hb) ha
   have hal1 := HLS.out a (List.mem_of_getElem? ha)
   have PH : Hid (Els 4 cVal wr B s1 a.2.1 ∧ Els 4 cVal wr B s2 a.2.2) := ⟨p1, p2⟩
   have QH : Hid (Els 4 cVal wr C t1 a.2.1 ∧ Els 4 cVal wr C t2 a.2.2) := ⟨q1, q2⟩
   clear hs ht ha p1 p2 q1 q2
   go_wp2_with fail
   go_region_with (first
    | (go_at_call 52; refine (eqStream_gen a.1 s1 s2 t1 t2 c1 c2 d1 d2 a.2.1 a.2.2 B C _ (PH.out.1.later cVal_keeps (bl_drew (Below.refl _ _))) (PH.out.2.later cVal_keeps (bl_drew (Below.refl _ _))) (QH.out.1.later cVal_keeps (bl_drew (Below.refl _ _))) (QH.out.2.later cVal_keeps (bl_drew (Below.refl _ _))) hal1.1 hal1.2).mono ?_; rintro e w2 ⟨rfl, hb2⟩))
   all_goals
    go_wp2_with fail
    go_roundw
    case rel =>
     refine ⟨k + 1, by omega, by go_num, ?_⟩
     (repeat (first | with_reducible exact Below.refl _ _ | with_reducible refine bl_alloc ?_ _ | with_reducible refine bl_drewN ?_ _ | with_reducible refine bl_drew ?_ | with_reducible refine bl_setCell ?_ (by first | exact Nat.le_refl _ | (dsimp only; omega) | (simp <;> omega)) _ | with_reducible refine bl_trans ?_ (by with_reducible assumption)))
    case measure => simp [intOf]; omega
  ·
   go_wp2_with fail
   go_ret
   exact ⟨rfl, hb⟩
set_option maxHeartbeats 4000000 in
theorem eqState_gen (a1 a2 a3 a4 a5 a6 b1 b2 b3 b4 b5 b6 : Option Addr) (c1 c2 c3 c4 c5 c6 d1 d2 d3 d4 d5 d6 : Nat) (S : Sta) (B C : Nat) (w : World) (hS : InS w B a1 a2 a3 a4 a5 a6 S) (gS : InS w C b1 b2 b3 b4 b5 b6 S) (hk : kS S) :
  Calls Try.prog 11 #[.agg #[.slice a1 S.w.gens.length c1, .slice a2 S.w.free.length c2, .slice a3 S.w.tabs.length c3, .slice a4 S.w.res.length c4, .slice a5 S.ss.length c5, .slice a6 S.cu.length c6], .agg #[.slice b1 S.w.gens.length d1, .slice b2 S.w.free.length d2, .slice b3 S.w.tabs.length d3, .slice b4 S.w.res.length d4, .slice b5 S.ss.length d5, .slice b6 S.cu.length d6]] w fun e w' => e = .returned (.bool true) ∧ Below w.heap.size w w' := by
 have hal := alloc_old
 have haf := alloc_oldf
 obtain ⟨l1, l2, l3⟩ := hk
 obtain ⟨k0, k1, L0⟩ := boxTwo w #[.slice a1 S.w.gens.length c1, .slice a2 S.w.free.length c2, .slice a3 S.w.tabs.length c3, .slice a4 S.w.res.length c4, .slice a5 S.ss.length c5, .slice a6 S.cu.length c6] #[.slice b1 S.w.gens.length d1, .slice b2 S.w.free.length d2, .slice b3 S.w.tabs.length d3, .slice b4 S.w.res.length d4, .slice b5 S.ss.length d5, .slice b6 S.cu.length d6] 49 49
 obtain ⟨x0, x1, x2, x3, x4, x5, x6⟩ := k0.six'
 obtain ⟨y0, y1, y2, y3, y4, y5, y6⟩ := k1.six'
 go_enter Try.func11, Try.ntmps11
 go_wp2_with fail
 generalize hX : (w.alloc (.cells #[.slice a1 S.w.gens.length c1, .slice a2 S.w.free.length c2, .slice a3 S.w.tabs.length c3, .slice a4 S.w.res.length c4, .slice a5 S.ss.length c5, .slice a6 S.cu.length c6] 49)).alloc (.cells #[.slice b1 S.w.gens.length d1, .slice b2 S.w.free.length d2, .slice b3 S.w.tabs.length d3, .slice b4 S.w.res.length d4, .slice b5 S.ss.length d5, .slice b6 S.cu.length d6] 49) = X at k0 k1 L0 x0 x1 x2 x3 x4 x5 x6 y0 y1 y2 y3 y4 y5 y6 ⊢
 clear hX
 refine (eqWorld_gen a1 a2 a3 a4 b1 b2 b3 b4 c1 c2 c3 c4 d1 d2 d3 d4 S.w B C _ (hS.wd.later L0) (gS.wd.later L0) l1).mono ?_
 rintro e w1 ⟨rfl, hb1⟩
 have L1 := bl_trans L0 hb1
 have K0 := k0.later hb1
 have K1 := k1.later hb1
 clear k0 k1 x0 x1 x2 x3 x4 x5 x6 y0 y1 y2 y3 y4 y5 y6 hb1
 obtain ⟨x0, x1, x2, x3, x4, x5, x6⟩ := K0.six'
 obtain ⟨y0, y1, y2, y3, y4, y5, y6⟩ := K1.six'
 go_wp2_with fail
 refine (eqStreamS_gen a5 b5 c5 d5 S.ss B C _ (hS.s.later cStr_keeps L1) (gS.s.later cStr_keeps L1) l2).mono ?_
 rintro e w2 ⟨rfl, hb2⟩
 have L2 := bl_trans L1 hb2
 have N0 := K0.later hb2
 have N1 := K1.later hb2
 clear K0 K1 x0 x1 x2 x3 x4 x5 x6 y0 y1 y2 y3 y4 y5 y6 hb2
 obtain ⟨x0, x1, x2, x3, x4, x5, x6⟩ := N0.six'
 obtain ⟨y0, y1, y2, y3, y4, y5, y6⟩ := N1.six'
 go_wp2_with fail
 refine (eqInts_any a6 b6 c6 d6 S.cu S.cu _ (hS.c.later cInt_keeps L2).ints (gS.c.later cInt_keeps L2).ints l3).mono ?_
 intro e w3 he
 rw [show decide (S.cu = S.cu) = true by simp] at he
 obtain ⟨rfl, hb3⟩ := he
 go_wp2_with fail
 go_ret
 exact ⟨rfl, bl_trans L2 hb3⟩
end
end Go.Proofs.Ytjfpflejnbnhnaa
