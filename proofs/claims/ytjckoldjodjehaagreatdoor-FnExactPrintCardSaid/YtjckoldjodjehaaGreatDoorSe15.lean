import Derived.Test.YtjckoldjodjehaaGreatDoorSe14
import Derived.ChangeArms
import Derived.LaidByTextLater
import Derived.LaidSub
import Derived.Lay
import Derived.LaidMore
import Derived.Stop.Joined
import Derived.Lib.LaidU8
import Derived.ChangeVars
namespace Go.Proofs.YtjckoldjodjehaaGreatDoor
set_option linter.unusedVariables false
set_option linter.unusedSimpArgs false
section
open Go.ChangeShapes Go.WideShapes Go.ChangeAt Go.RowKit Go.Joins
set_option maxRecDepth 100000
theorem Tryz.cellsNode : Tryz.prog.cellsOf 62 = 4 := by kernel_rfl
theorem Tryz.cellsTree : Tryz.prog.cellsOf 25 = 2 := by kernel_rfl
theorem Tryz.cellsStr : Tryz.prog.cellsOf 9 = 1 := by kernel_rfl
theorem Tryz.cellsNodeS : Tryz.prog.cellsOf 22 = 1 := by kernel_rfl
section
variable {H : Type} {enc : TypeId × Value → H} {w : World} {base : Nat} {spare : Nat → Bool} {held : Bool}
theorem oneIntB (m : Nat) (cs : List Value) (y : DataW H × List MemPlace) (h : DataW.trod enc Tryz.prog w base spare held m 3 cs = some y) : ∃ a, cInt w 0 cs a ∧ okI a := by
 obtain ⟨n, e0, _, wf⟩ := DataW.trod_int Tryz.underlying3 h
 exact ⟨n, e0, bd_of_wf wf⟩
theorem oneNode (m : Nat) (cs : List Value) (y : DataW H × List MemPlace) (h : DataW.trod enc Tryz.prog w base spare held m 62 cs = some y) : ∃ a, cNode w 0 cs a ∧ mNode a := by
 obtain ⟨y0, y1, y2, y3, n, _, hlen, h0, h1, h2, h3⟩ := trod_struct4 Tryz.underlying62 h
 rw [Tryz.cellsNode] at hlen
 match cs, hlen with
 | [v0, v1, v2, v3], _ =>
  simp [Tryz.cellsI, Tryz.cellsStr, Tryz.cellsIs] at h0 h1 h2 h3
  obtain ⟨a, e0, _, wa⟩ := DataW.trod_int Tryz.underlying3 h0
  obtain ⟨b, e1, _, wb⟩ := DataW.trod_string Tryz.underlying9 h1
  obtain ⟨c, e2, _, wc⟩ := DataW.trod_int Tryz.underlying3 h2
  obtain ⟨s, cap, L, e3, f3, m3, m4⟩ := openEls Tryz.underlying23 Tryz.cellsI (by omega) oneIntB h3
  simp only [List.cons.injEq, and_true] at e0 e1 e2 e3
  subst e0 e1 e2 e3
  exact ⟨⟨a, b, c, L⟩, ⟨s, cap, rfl, f3⟩, ⟨bd_of_wf wa, bd_of_wf wc⟩, (by have := wb; unfold maxLen at this; omega), m4, m3⟩
theorem openTree {r : Reach} {b0 : Nat} {v : Value} {d : DataW H} {p : List MemPlace} (hv : Value.okWide Tryz.prog w r b0 25 v) (h : DataW.Trod enc Tryz.prog w base spare held 25 v d p) :
  ∃ s1 s2 c1 c2 t, v = .agg #[.slice s1 (Tre.nodes t).length c1, .slice s2 t.tops.length c2] ∧ InT w 0 s1 s2 t ∧ mTre t := by
 obtain ⟨cs, rfl, hsz⟩ := okWide_struct Tryz.underlying25 hv
 obtain ⟨fuel, hf⟩ := h
 obtain ⟨y0, y1, m, _, hlen, g0, g1⟩ := trod_struct2 Tryz.underlying25 hf
 rw [Tryz.cellsTree] at hsz
 obtain ⟨l⟩ := cs
 match l, hsz with
 | [v0, v1], _ =>
  simp [Value.cells, Tryz.cellsNodeS, Tryz.cellsIs] at g0 g1
  obtain ⟨s1, c1, A, e0, f1, m1, m2⟩ := openEls Tryz.underlying22 Tryz.cellsNode (by omega) oneNode g0
  obtain ⟨s2, c2, B, e1, f2, m3, m4⟩ := openEls Tryz.underlying23 Tryz.cellsI (by omega) oneIntB g1
  simp only [List.cons.injEq, and_true] at e0 e1
  subst e0 e1
  exact ⟨s1, s2, c1, c2, ⟨A, B⟩, rfl, ⟨f1, f2⟩, m2, m1, m4, m3⟩
end
end
section
open Go.ChangeShapes Go.WideShapes Go.ChangeAt Go.RowKit Go.Joins
theorem door_met (os : Os) (args : Array Value) : laidMetH Tryz.prog Rows.fnExactPrintRow.laid ((World.laidAll Tryz.prog os Rows.fnExactPrintRow.laid).forCall (fun _ _ => 0) ⟨#[], args, []⟩).memory := by
 rw [MakeChecks.laidMetH_plain _ _ _ (by kernel_rfl)]
 exact laidMet_laidAll _ (by kernel_rfl) (by kernel_rfl)
def ktx : List ByteArray := [⟨#[]⟩, bInt, bReal, bPair, bBool]
def utx : List ByteArray := [⟨#[]⟩, bMinus, bNot, bRe, bIm, bReal, bSize]
def otx : List ByteArray := [⟨#[]⟩, bPlus, bMinus, bStar, bSlash, bPerc, bLess, bSame, bAnd, bOr]
theorem pow_data : (Rows.laid_internal_strconv_uint64pow10 : DataW Unit) = Lib.tabData .u64 Lib.pow10Tab := by kernel_rfl
theorem tab_of_laid {W : World} (h : laidMetH Tryz.prog Rows.fnExactPrintRow.laid W) : Lib.TabIs Tryz.prog W "internal/strconv.uint64pow10" .u64 Lib.pow10Tab := by
 rw [MakeChecks.laidMetH_plain _ _ _ (by kernel_rfl)] at h
 obtain ⟨g, t, cs, fuel, p, hg, ht, hv, hd⟩ := Lib.laidMet.reads h (n := "internal/strconv.uint64pow10") (d := Rows.laid_internal_strconv_uint64pow10) (.tail _ (.tail _ (.head _)))
 have hg' : Tryz.prog.globalNamed "internal/strconv.uint64pow10" = some 7 := by kernel_rfl
 have ht' : (Tryz.prog.globals[7]?).map (·.type) = some 152 := by kernel_rfl
 obtain rfl := Option.some.inj (hg'.symm.trans hg)
 obtain rfl := Option.some.inj (ht'.symm.trans ht)
 rw [pow_data] at hd
 unfold Lib.TabIs
 rw [hv, ← Lib.cells_of_tab Tryz.underlying152 Tryz.underlying133 (by kernel_rfl) (by kernel_rfl) hd]
theorem cells_of_texts {H : Type} {enc : TypeId × Value → H} {w : World} {base fuel n : Nat} {sp : Nat → Bool} {held : Bool} {t e : TypeId} {cs : List Value} {L : List ByteArray} {p : List MemPlace} (ht : Tryz.prog.underlying t = some (.array n e)) (he : Tryz.prog.underlying e = some .string) (hce : Tryz.prog.cellsOf e = 1) (hct : Tryz.prog.cellsOf t = n)
  (h : DataW.trod enc Tryz.prog w base sp held fuel t cs = some (.agg (L.map fun s => .lit (.string s.data.toList)), p)) : cs = L.map Value.string := by
 obtain ⟨xs, m, _, hx, hl, hn, hi⟩ := DataW.trod_array ht h
 have hd : (L.map fun s => (DataW.lit (.string s.data.toList) : DataW H)) = xs.map (·.1) := by
  have := congrArg Prod.fst hx
  simpa using this
 have hL : L.length = n := by have := congrArg List.length hd; simp at this; omega
 rw [hct] at hl
 apply List.ext_getElem?
 intro i
 by_cases hlt : i < n
 ·
  have h1 := hi i hlt
  rw [hce, Nat.mul_one] at h1
  have hxi : xs[i]? = some xs[i] := List.getElem?_eq_getElem (by omega)
  rw [hxi] at h1
  obtain ⟨s, e1, e2, _⟩ := DataW.trod_string he h1
  have c1 : cs[i]? = some (.string s) := by
   have := congrArg (·[0]?) e1
   simpa [List.getElem?_take, List.getElem?_drop] using this
  have d1 : (xs.map (·.1))[i]? = some (DataW.lit (.string s.data.toList) : DataW H) := by rw [List.getElem?_map, hxi, e2]; rfl
  rw [← hd, List.getElem?_map, List.getElem?_eq_getElem (show i < L.length by omega)] at d1
  simp only [Option.map_some, Option.some.injEq, DataW.lit.injEq, Lit.string.injEq] at d1
  have e3 : L[i] = s := by
   have := Array.toList_inj.1 d1
   cases hq : L[i]; cases s; rw [hq] at this; simp at this; rw [this]
  rw [c1, List.getElem?_map, List.getElem?_eq_getElem (show i < L.length by omega), e3]; rfl
 rw [List.getElem?_eq_none (by omega), List.getElem?_eq_none (by simp; omega)]
theorem g_kindTexts : Tryz.prog.globalNamed "loop.example/g00070/impl.kindTexts" = some 1 := by kernel_rfl
theorem t_kindTexts : (Tryz.prog.globals[1]?).map (·.type) = some 101 := by kernel_rfl
theorem d_kindTexts : (Rows.laid_loop_example_g00070_impl_kindTexts : DataW Unit) = .agg (ktx.map fun s => .lit (.string s.data.toList)) := by kernel_rfl
abbrev c_kindTexts : Array Value := (ktx.map Value.string).toArray
theorem v_kindTexts {W : World} (h : laidMetH Tryz.prog Rows.fnExactPrintRow.laid W) : W.var? Tryz.prog "loop.example/g00070/impl.kindTexts" = some c_kindTexts := by
 rw [MakeChecks.laidMetH_plain _ _ _ (by kernel_rfl)] at h
 obtain ⟨g, t, cs, fuel, p, hg, ht, hv, hd⟩ := Lib.laidMet.reads h (n := "loop.example/g00070/impl.kindTexts") (d := Rows.laid_loop_example_g00070_impl_kindTexts) (.tail _ (.tail _ (.tail _ (.tail _ (.tail _ (.tail _ (.tail _ (.tail _ (.head _)))))))))
 obtain rfl := Option.some.inj (g_kindTexts.symm.trans hg)
 obtain rfl := Option.some.inj (t_kindTexts.symm.trans ht)
 rw [d_kindTexts] at hd
 rw [hv]
 exact congrArg some (Array.toList_inj.1 (by rw [cells_of_texts Tryz.underlying101 Tryz.underlying9 (by kernel_rfl) (by kernel_rfl) hd]))
theorem x_kindTexts {W : World} (h : W.var? Tryz.prog "loop.example/g00070/impl.kindTexts" = some c_kindTexts) : ∀ (j : Nat) (t : ByteArray), ktx[j]? = some t → W.cell? ⟨1, j, none⟩ = some (.string t) := by
 intro j t hj
 have := World.var?_cell g_kindTexts h j
 rw [this]
 simp [c_kindTexts, hj]
theorem r_kindTexts {H : Type} (enc : TypeId × Value → H) (W : World) (sp : Nat → Bool) : DataW.trod enc Tryz.prog W 0 sp true 3 101 c_kindTexts.toList = some (Rows.laid_loop_example_g00070_impl_kindTexts, []) := by kernel_rfl
theorem b_kindTexts {W W' : World} {cs : Array Value} (bel : Below W.heap.size W W') (h0 : 12 ≤ W.heap.size) (h : W.var? Tryz.prog "loop.example/g00070/impl.kindTexts" = some cs) : W'.var? Tryz.prog "loop.example/g00070/impl.kindTexts" = some cs := by
 simp only [World.var?, g_kindTexts, Option.bind_some] at h ⊢
 rw [bel.block 1 (by omega)]
 exact h
theorem g_turnTexts : Tryz.prog.globalNamed "loop.example/g00070/impl.turnTexts" = some 2 := by kernel_rfl
theorem t_turnTexts : (Tryz.prog.globals[2]?).map (·.type) = some 118 := by kernel_rfl
theorem d_turnTexts : (Rows.laid_loop_example_g00070_impl_turnTexts : DataW Unit) = .agg (utx.map fun s => .lit (.string s.data.toList)) := by kernel_rfl
abbrev c_turnTexts : Array Value := (utx.map Value.string).toArray
theorem v_turnTexts {W : World} (h : laidMetH Tryz.prog Rows.fnExactPrintRow.laid W) : W.var? Tryz.prog "loop.example/g00070/impl.turnTexts" = some c_turnTexts := by
 rw [MakeChecks.laidMetH_plain _ _ _ (by kernel_rfl)] at h
 obtain ⟨g, t, cs, fuel, p, hg, ht, hv, hd⟩ := Lib.laidMet.reads h (n := "loop.example/g00070/impl.turnTexts") (d := Rows.laid_loop_example_g00070_impl_turnTexts) (.tail _ (.tail _ (.tail _ (.tail _ (.tail _ (.tail _ (.tail _ (.head _))))))))
 obtain rfl := Option.some.inj (g_turnTexts.symm.trans hg)
 obtain rfl := Option.some.inj (t_turnTexts.symm.trans ht)
 rw [d_turnTexts] at hd
 rw [hv]
 exact congrArg some (Array.toList_inj.1 (by rw [cells_of_texts Tryz.underlying118 Tryz.underlying9 (by kernel_rfl) (by kernel_rfl) hd]))
theorem x_turnTexts {W : World} (h : W.var? Tryz.prog "loop.example/g00070/impl.turnTexts" = some c_turnTexts) : ∀ (j : Nat) (t : ByteArray), utx[j]? = some t → W.cell? ⟨2, j, none⟩ = some (.string t) := by
 intro j t hj
 have := World.var?_cell g_turnTexts h j
 rw [this]
 simp [c_turnTexts, hj]
theorem r_turnTexts {H : Type} (enc : TypeId × Value → H) (W : World) (sp : Nat → Bool) : DataW.trod enc Tryz.prog W 0 sp true 3 118 c_turnTexts.toList = some (Rows.laid_loop_example_g00070_impl_turnTexts, []) := by kernel_rfl
theorem b_turnTexts {W W' : World} {cs : Array Value} (bel : Below W.heap.size W W') (h0 : 12 ≤ W.heap.size) (h : W.var? Tryz.prog "loop.example/g00070/impl.turnTexts" = some cs) : W'.var? Tryz.prog "loop.example/g00070/impl.turnTexts" = some cs := by
 simp only [World.var?, g_turnTexts, Option.bind_some] at h ⊢
 rw [bel.block 2 (by omega)]
 exact h
theorem g_opTexts : Tryz.prog.globalNamed "loop.example/g00070/impl.opTexts" = some 0 := by kernel_rfl
theorem t_opTexts : (Tryz.prog.globals[0]?).map (·.type) = some 100 := by kernel_rfl
theorem d_opTexts : (Rows.laid_loop_example_g00070_impl_opTexts : DataW Unit) = .agg (otx.map fun s => .lit (.string s.data.toList)) := by kernel_rfl
abbrev c_opTexts : Array Value := (otx.map Value.string).toArray
theorem v_opTexts {W : World} (h : laidMetH Tryz.prog Rows.fnExactPrintRow.laid W) : W.var? Tryz.prog "loop.example/g00070/impl.opTexts" = some c_opTexts := by
 rw [MakeChecks.laidMetH_plain _ _ _ (by kernel_rfl)] at h
 obtain ⟨g, t, cs, fuel, p, hg, ht, hv, hd⟩ := Lib.laidMet.reads h (n := "loop.example/g00070/impl.opTexts") (d := Rows.laid_loop_example_g00070_impl_opTexts) (.tail _ (.tail _ (.tail _ (.tail _ (.tail _ (.tail _ (.head _)))))))
 obtain rfl := Option.some.inj (g_opTexts.symm.trans hg)
 obtain rfl := Option.some.inj (t_opTexts.symm.trans ht)
 rw [d_opTexts] at hd
 rw [hv]
 exact congrArg some (Array.toList_inj.1 (by rw [cells_of_texts Tryz.underlying100 Tryz.underlying9 (by kernel_rfl) (by kernel_rfl) hd]))
theorem x_opTexts {W : World} (h : W.var? Tryz.prog "loop.example/g00070/impl.opTexts" = some c_opTexts) : ∀ (j : Nat) (t : ByteArray), otx[j]? = some t → W.cell? ⟨0, j, none⟩ = some (.string t) := by
 intro j t hj
 have := World.var?_cell g_opTexts h j
 rw [this]
 simp [c_opTexts, hj]
theorem r_opTexts {H : Type} (enc : TypeId × Value → H) (W : World) (sp : Nat → Bool) : DataW.trod enc Tryz.prog W 0 sp true 3 100 c_opTexts.toList = some (Rows.laid_loop_example_g00070_impl_opTexts, []) := by kernel_rfl
theorem b_opTexts {W W' : World} {cs : Array Value} (bel : Below W.heap.size W W') (h0 : 12 ≤ W.heap.size) (h : W.var? Tryz.prog "loop.example/g00070/impl.opTexts" = some cs) : W'.var? Tryz.prog "loop.example/g00070/impl.opTexts" = some cs := by
 simp only [World.var?, g_opTexts, Option.bind_some] at h ⊢
 rw [bel.block 0 (by omega)]
 exact h
theorem size_of_laid {W : World} (h : laidMetH Tryz.prog Rows.fnExactPrintRow.laid W) : 12 ≤ W.heap.size := by
 rw [MakeChecks.laidMetH_plain _ _ _ (by kernel_rfl)] at h
 obtain ⟨g, t, cs, fuel, p, hg, ht, hv, hd⟩ := Lib.laidMet.reads h (n := "math/bits.deBruijn64tab") (d := Rows.laid_math_bits_deBruijn64tab) (.tail _ (.head _))
 have hg' : Tryz.prog.globalNamed "math/bits.deBruijn64tab" = some (12 - 1) := by kernel_rfl
 simp only [World.var?, hg', Option.bind_some] at hv
 apply Classical.byContradiction
 intro hn
 rw [Array.getElem?_eq_none (by omega)] at hv
 cases hv
theorem tb_of {W : World} (h : laidMetH Tryz.prog Rows.fnExactPrintRow.laid W) : Tb W := by
 have hs := size_of_laid h
 refine ⟨fun q h1 h2 => ⟨x_kindTexts (v_kindTexts h) q _ ?_, by omega⟩, fun q h1 h2 => ⟨x_opTexts (v_opTexts h) q _ ?_, by omega⟩, fun q h1 h2 => ⟨x_turnTexts (v_turnTexts h) q _ ?_, by omega⟩⟩
 ·
  have hq : q = 1 ∨ q = 2 ∨ q = 3 ∨ q = 4 := by omega
  rcases hq with rfl | rfl | rfl | rfl <;> rfl
 ·
  have hq : q = 1 ∨ q = 2 ∨ q = 3 ∨ q = 4 ∨ q = 5 ∨ q = 6 ∨ q = 7 ∨ q = 8 ∨ q = 9 := by omega
  rcases hq with rfl | rfl | rfl | rfl | rfl | rfl | rfl | rfl | rfl <;> rfl
 have hq : q = 1 ∨ q = 2 ∨ q = 3 ∨ q = 4 ∨ q = 5 ∨ q = 6 := by omega
 rcases hq with rfl | rfl | rfl | rfl | rfl | rfl <;> rfl
set_option maxRecDepth 100000 in
theorem lifted (os : Os) (started : os.Started) (H : Type) (enc : TypeId × Value → H) :
  ReturnsInHanded {} Tryz.checked os 3 .any (fun w args => (Rows.fnExactPrintSpec.pre enc Tryz.prog Tryz.f3 [] false w args ∧ laidMetH Tryz.prog Rows.fnExactPrintRow.laid w) ∧ sizedMet enc Tryz.prog Tryz.f3 (OpenSpec.ofChange Rows.fnExactPrintSpec) false w args)
   (Rows.fnExactPrintSpec.post enc Tryz.prog Tryz.f3 false true false false) := by
 refine returnsInHanded_of_change_and (C := Tryz.checked) (X := fun w _ => laidMetH Tryz.prog Rows.fnExactPrintRow.laid w) (fun _ _ _ hh h => h.of_heap hh) Tryz.own started (by kernel_rfl) Tryz.func3
  (ChangeSpec.witness_shaped (enc := enc) (C := Tryz.checked) (os := os) (X := fun w _ => laidMetH Tryz.prog Rows.fnExactPrintRow.laid w) false (World.laidAll Tryz.prog os Rows.fnExactPrintRow.laid) #[.agg #[.slice none 0 0, .slice none 0 0]] 8 (World.laidAll_os _ _ _)
   (World.shaped_of_ZipB (by kernel_rfl) (by kernel_rfl)) (by kernel_rfl) (by kernel_rfl) (by kernel_rfl) (door_met os _)) ?_
 intro W base args ds gs before hval0 hW _ _ hL _
 have hval : ∀ (j : Nat) t v, Tryz.f3.params[j]? = some t → args[j]? = some v → Value.okWide Tryz.prog W .any base t v := hval0
 have hW' := hW
 obtain ⟨p, q, hA0, hV0, rfl, hfz, hnd⟩ := hW
 have hV : DataW.TrodVars enc Tryz.prog W (fun _ => true) ["loop.example/g00070/impl.opTexts", "loop.example/g00070/impl.turnTexts", "loop.example/g00070/impl.kindTexts"] gs q := hV0
 have hA : DataW.TrodAll enc Tryz.prog W 0 (fun _ => true) true Tryz.f3.params.toList args.toList ds p := hA0
 rw [Tryz.params3] at hA hval
 obtain ⟨v0, vs0, d0, ds0, p0, q0, hargs, rfl, rfl, h0, r0⟩ := trodAll_cons hA
 obtain ⟨rfl, rfl, rfl⟩ := trodAll_nil r0
 obtain rfl : args = #[v0] := by cases args; simp_all
 have hsz := size_of_laid hL
 have vk := v_kindTexts hL
 have vu := v_turnTexts hL
 have vo := v_opTexts hL
 cases gs with
 | nil => simp [DataW.TrodVars] at hV
 | cons dk gs =>
 obtain ⟨gk, tk, ck, fk, pk, qk, k1, k2, k3, k4, hV2, rfl⟩ := hV
 obtain ⟨gu, tu, cu, fu, du, pu, gO, tO, cO, fO, dO, pO, rfl, u1, u2, u3, u4, o1, o2, o3, o4, rfl⟩ := trodVars_two hV2
 obtain rfl := Option.some.inj (g_opTexts.symm.trans k1)
 obtain rfl := Option.some.inj (t_opTexts.symm.trans k2)
 obtain rfl : ck = c_opTexts := Option.some.inj (k3.symm.trans vo)
 obtain ⟨rfl, rfl⟩ := DataW.Trod.unique (v := .agg c_opTexts) ⟨fk, k4⟩ ⟨3, r_opTexts enc W _⟩
 obtain rfl := Option.some.inj (g_turnTexts.symm.trans u1)
 obtain rfl := Option.some.inj (t_turnTexts.symm.trans u2)
 obtain rfl : cu = c_turnTexts := Option.some.inj (u3.symm.trans vu)
 obtain ⟨rfl, rfl⟩ := DataW.Trod.unique (v := .agg c_turnTexts) ⟨fu, u4⟩ ⟨3, r_turnTexts enc W _⟩
 obtain rfl := Option.some.inj (g_kindTexts.symm.trans o1)
 obtain rfl := Option.some.inj (t_kindTexts.symm.trans o2)
 obtain rfl : cO = c_kindTexts := Option.some.inj (o3.symm.trans vk)
 obtain ⟨rfl, rfl⟩ := DataW.Trod.unique (v := .agg c_kindTexts) ⟨fO, o4⟩ ⟨3, r_kindTexts enc W _⟩
 have k0 := h0
 have lt0 : ∀ x ∈ p0, x.block < W.heap.size := by obtain ⟨m, hm⟩ := k0; exact DataW.trod_lt m _ _ _ hm
 obtain ⟨a1, a2, e1, e2, T, rfl, hI, hm⟩ := openTree (hval 0 25 v0 rfl rfl) h0
 clear hA0 hval0 hV0; refine (exactPrint_any a1 a2 e1 e2 T W hI hm (tb_of hL) (tab_of_laid hL)).mono fun e W' ⟨he, bel⟩ => ?_
 subst he
 exact ⟨_, rfl, _, _, _, [], _, _, hW', trodAll_mk1 (shut_bool Tryz.underlying4 _), (trodAll_cons_mk (Below.trod Tryz.laidOut (by kernel_rfl) (of_decide_eq_true (by kernel_rfl)) k0 bel lt0) trodAll_mk0),
  ⟨_, _, _, _, _, _, g_opTexts, t_opTexts, b_opTexts bel hsz vo, r_opTexts enc W' _, ⟨_, _, _, _, _, _, g_turnTexts, t_turnTexts, b_turnTexts bel hsz vu, r_turnTexts enc W' _, trodVars_mk1 g_kindTexts t_kindTexts (b_kindTexts bel hsz vk) (r_kindTexts enc W' _), rfl⟩, rfl⟩, bel.frame _, fun h => by cases h⟩
theorem row_holds : Rows.FnExactPrintSaid :=
 OpenClaim.holds_of_wide 3 Tryz.f3 rfl rfl rfl rfl rfl rfl rfl ⟨rfl, rfl, rfl, rfl, rfl⟩ rfl rfl rfl rfl rfl (by kernel_rfl) Tryz.func3 (by kernel_rfl)
  (of_decide_eq_true (by kernel_rfl)) (by unfold Func.isWrapper; first | (rw [if_pos (by decide +kernel)]; kernel_rfl) | (rw [if_neg (by decide +kernel)]; exact ⟨rfl, rfl⟩))
  (fun os started H enc _ => lifted os started H enc)
end
end Go.Proofs.YtjckoldjodjehaaGreatDoor
