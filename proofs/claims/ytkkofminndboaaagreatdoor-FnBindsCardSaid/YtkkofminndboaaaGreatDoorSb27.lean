import Derived.Test.YtkkofminndboaaaGreatDoorSb26
import Derived.ProofKit
import Derived.ChangeOld
import Derived.LaidByTextLater
import Derived.ChangeArms
import Derived.OpenShut
import Derived.Lay
import Derived.LaidMore
import Derived.Stop.Joined
import Derived.Lib.LaidU8
import Derived.ChangeVars
namespace Go.Proofs.YtkkofminndboaaaGreatDoor
open Go.ChangeShapes Go.WideShapes Go.ChangeAt Go.RowKit Go.Joins
set_option linter.unusedVariables false
set_option linter.unusedSimpArgs false
theorem Tryz.own : ownKnob Tryz.prog.godebug = none := by kernel_rfl
theorem Tryz.laidOut : laidOutB Tryz.prog = true := by kernel_rfl
theorem u8_of_wf {n : Int} (h : (Lit.int .u8 n).wf = true) : 0 ≤ n ∧ n ≤ 255 := by
 have e1 : IntKind.u8.min = 0 := by decide +kernel
 have e2 : IntKind.u8.max = 255 := by decide +kernel
 simp only [Lit.wf, Bool.and_eq_true, decide_eq_true_eq, e1, e2] at h
 exact h
theorem door_met (os : Os) (args : Array Value) : laidMetH Tryz.prog Rows.fnBindsRow.laid (({ World.holding Tryz.prog os ⟨#[], #[], []⟩ with heap := (varsWorld Tryz.prog 400 (varsId Tryz.prog) os (fun _ _ => 0)).heap } : World).forCall (fun _ _ => 0) ⟨#[], args, []⟩).memory :=
 laidMetH_of_parts3 (fuel := 8) (laidMet_of_run' 8 (by kernel_rfl) (by kernel_rfl)) (by kernel_rfl) (by kernel_rfl)
theorem cells_of_texts {H : Type} {enc : TypeId × Value → H} {w : World} {base fuel n : Nat} {sp : Nat → Bool} {held : Bool} {t e : TypeId} {cs : List Value} {L : List ByteArray} {p : List MemPlace} (ht : Tryz.prog.underlying t = some (.array n e)) (he : Tryz.prog.underlying e = some .string) (hce : Tryz.prog.cellsOf e = 1) (hct : Tryz.prog.cellsOf t = n)
  (h : DataW.trod enc Tryz.prog w base sp held fuel t cs = some (.agg (L.map fun s => .lit (.string s.data.toList)), p)) : cs = L.map Value.string := by
 obtain ⟨xs, m, _, hx, hl, hn, hi⟩ := DataW.trod_array ht h
 have hd : (L.map fun s => (DataW.lit (.string s.data.toList) : DataW H)) = xs.map (·.1) := by
  have := congrArg Prod.fst hx
  simpa using this
 have hL : L.length = n := by have := congrArg List.length hd; simp at this; omega
 rw [hct] at hl
 apply List.ext_getElem?
 intro i
 by_cases hlt : i < n
 ·
  have h1 := hi i hlt
  rw [hce, Nat.mul_one] at h1
  have hxi : xs[i]? = some xs[i] := List.getElem?_eq_getElem (by omega)
  rw [hxi] at h1
  obtain ⟨s, e1, e2, _⟩ := DataW.trod_string he h1
  have c1 : cs[i]? = some (.string s) := by
   have := congrArg (·[0]?) e1
   simpa [List.getElem?_take, List.getElem?_drop] using this
  have d1 : (xs.map (·.1))[i]? = some (DataW.lit (.string s.data.toList) : DataW H) := by rw [List.getElem?_map, hxi, e2]; rfl
  rw [← hd, List.getElem?_map, List.getElem?_eq_getElem (show i < L.length by omega)] at d1
  simp only [Option.map_some, Option.some.injEq, DataW.lit.injEq, Lit.string.injEq] at d1
  have e3 : L[i] = s := by
   have := Array.toList_inj.1 d1
   cases hq : L[i]; cases s; rw [hq] at this; simp at this; rw [this]
  rw [c1, List.getElem?_map, List.getElem?_eq_getElem (show i < L.length by omega), e3]; rfl
 rw [List.getElem?_eq_none (by omega), List.getElem?_eq_none (by simp; omega)]
theorem g_kindTexts : Tryz.prog.globalNamed "loop.example/g00070/impl.kindTexts" = some 1 := by kernel_rfl
theorem t_kindTexts : (Tryz.prog.globals[1]?).map (·.type) = some 93 := by kernel_rfl
theorem d_kindTexts : (Rows.laid_loop_example_g00070_impl_kindTexts : DataW Unit) = .agg (ktx.map fun s => .lit (.string s.data.toList)) := by kernel_rfl
abbrev c_kindTexts : Array Value := (ktx.map Value.string).toArray
theorem v_kindTexts {W : World} (h : laidMetH Tryz.prog Rows.fnBindsRow.laid W) : W.var? Tryz.prog "loop.example/g00070/impl.kindTexts" = some c_kindTexts := by
 rw [MakeChecks.laidMetH_plain _ _ _ (by kernel_rfl)] at h
 obtain ⟨g, t, cs, fuel, p, hg, ht, hv, hd⟩ := Lib.laidMet.reads h (n := "loop.example/g00070/impl.kindTexts") (d := Rows.laid_loop_example_g00070_impl_kindTexts) (.tail _ (.tail _ (.tail _ (.tail _ (.tail _ (.tail _ (.tail _ (.head _))))))))
 obtain rfl := Option.some.inj (g_kindTexts.symm.trans hg)
 obtain rfl := Option.some.inj (t_kindTexts.symm.trans ht)
 rw [d_kindTexts] at hd
 rw [hv]
 exact congrArg some (Array.toList_inj.1 (by rw [cells_of_texts Tryz.underlying93 Tryz.underlying9 (by kernel_rfl) (by kernel_rfl) hd]))
theorem x_kindTexts {W : World} (h : W.var? Tryz.prog "loop.example/g00070/impl.kindTexts" = some c_kindTexts) : TxT W 1 ktx := by
 intro j t hj
 have := World.var?_cell g_kindTexts h j
 rw [this]
 simp [c_kindTexts, hj]
theorem r_kindTexts {H : Type} (enc : TypeId × Value → H) (W : World) (sp : Nat → Bool) : DataW.trod enc Tryz.prog W 0 sp true 3 93 c_kindTexts.toList = some (Rows.laid_loop_example_g00070_impl_kindTexts, []) := by kernel_rfl
theorem b_kindTexts {W W' : World} {cs : Array Value} (bel : Below W.heap.size W W') (h0 : 9 ≤ W.heap.size) (h : W.var? Tryz.prog "loop.example/g00070/impl.kindTexts" = some cs) : W'.var? Tryz.prog "loop.example/g00070/impl.kindTexts" = some cs := by
 simp only [World.var?, g_kindTexts, Option.bind_some] at h ⊢
 rw [bel.block 1 (by omega)]
 exact h
theorem g_turnTexts : Tryz.prog.globalNamed "loop.example/g00070/impl.turnTexts" = some 5 := by kernel_rfl
theorem t_turnTexts : (Tryz.prog.globals[5]?).map (·.type) = some 118 := by kernel_rfl
theorem d_turnTexts : (Rows.laid_loop_example_g00070_impl_turnTexts : DataW Unit) = .agg (utx.map fun s => .lit (.string s.data.toList)) := by kernel_rfl
abbrev c_turnTexts : Array Value := (utx.map Value.string).toArray
theorem v_turnTexts {W : World} (h : laidMetH Tryz.prog Rows.fnBindsRow.laid W) : W.var? Tryz.prog "loop.example/g00070/impl.turnTexts" = some c_turnTexts := by
 rw [MakeChecks.laidMetH_plain _ _ _ (by kernel_rfl)] at h
 obtain ⟨g, t, cs, fuel, p, hg, ht, hv, hd⟩ := Lib.laidMet.reads h (n := "loop.example/g00070/impl.turnTexts") (d := Rows.laid_loop_example_g00070_impl_turnTexts) (.tail _ (.tail _ (.tail _ (.tail _ (.tail _ (.tail _ (.head _)))))))
 obtain rfl := Option.some.inj (g_turnTexts.symm.trans hg)
 obtain rfl := Option.some.inj (t_turnTexts.symm.trans ht)
 rw [d_turnTexts] at hd
 rw [hv]
 exact congrArg some (Array.toList_inj.1 (by rw [cells_of_texts Tryz.underlying118 Tryz.underlying9 (by kernel_rfl) (by kernel_rfl) hd]))
theorem x_turnTexts {W : World} (h : W.var? Tryz.prog "loop.example/g00070/impl.turnTexts" = some c_turnTexts) : TxT W 5 utx := by
 intro j t hj
 have := World.var?_cell g_turnTexts h j
 rw [this]
 simp [c_turnTexts, hj]
theorem r_turnTexts {H : Type} (enc : TypeId × Value → H) (W : World) (sp : Nat → Bool) : DataW.trod enc Tryz.prog W 0 sp true 3 118 c_turnTexts.toList = some (Rows.laid_loop_example_g00070_impl_turnTexts, []) := by kernel_rfl
theorem b_turnTexts {W W' : World} {cs : Array Value} (bel : Below W.heap.size W W') (h0 : 9 ≤ W.heap.size) (h : W.var? Tryz.prog "loop.example/g00070/impl.turnTexts" = some cs) : W'.var? Tryz.prog "loop.example/g00070/impl.turnTexts" = some cs := by
 simp only [World.var?, g_turnTexts, Option.bind_some] at h ⊢
 rw [bel.block 5 (by omega)]
 exact h
theorem g_opTexts : Tryz.prog.globalNamed "loop.example/g00070/impl.opTexts" = some 4 := by kernel_rfl
theorem t_opTexts : (Tryz.prog.globals[4]?).map (·.type) = some 110 := by kernel_rfl
theorem d_opTexts : (Rows.laid_loop_example_g00070_impl_opTexts : DataW Unit) = .agg (otx.map fun s => .lit (.string s.data.toList)) := by kernel_rfl
abbrev c_opTexts : Array Value := (otx.map Value.string).toArray
theorem v_opTexts {W : World} (h : laidMetH Tryz.prog Rows.fnBindsRow.laid W) : W.var? Tryz.prog "loop.example/g00070/impl.opTexts" = some c_opTexts := by
 rw [MakeChecks.laidMetH_plain _ _ _ (by kernel_rfl)] at h
 obtain ⟨g, t, cs, fuel, p, hg, ht, hv, hd⟩ := Lib.laidMet.reads h (n := "loop.example/g00070/impl.opTexts") (d := Rows.laid_loop_example_g00070_impl_opTexts) (.tail _ (.tail _ (.tail _ (.tail _ (.tail _ (.head _))))))
 obtain rfl := Option.some.inj (g_opTexts.symm.trans hg)
 obtain rfl := Option.some.inj (t_opTexts.symm.trans ht)
 rw [d_opTexts] at hd
 rw [hv]
 exact congrArg some (Array.toList_inj.1 (by rw [cells_of_texts Tryz.underlying110 Tryz.underlying9 (by kernel_rfl) (by kernel_rfl) hd]))
theorem x_opTexts {W : World} (h : W.var? Tryz.prog "loop.example/g00070/impl.opTexts" = some c_opTexts) : TxT W 4 otx := by
 intro j t hj
 have := World.var?_cell g_opTexts h j
 rw [this]
 simp [c_opTexts, hj]
theorem r_opTexts {H : Type} (enc : TypeId × Value → H) (W : World) (sp : Nat → Bool) : DataW.trod enc Tryz.prog W 0 sp true 3 110 c_opTexts.toList = some (Rows.laid_loop_example_g00070_impl_opTexts, []) := by kernel_rfl
theorem b_opTexts {W W' : World} {cs : Array Value} (bel : Below W.heap.size W W') (h0 : 9 ≤ W.heap.size) (h : W.var? Tryz.prog "loop.example/g00070/impl.opTexts" = some cs) : W'.var? Tryz.prog "loop.example/g00070/impl.opTexts" = some cs := by
 simp only [World.var?, g_opTexts, Option.bind_some] at h ⊢
 rw [bel.block 4 (by omega)]
 exact h
theorem size_of_laid {W : World} (h : laidMetH Tryz.prog Rows.fnBindsRow.laid W) : 9 ≤ W.heap.size := by
 rw [MakeChecks.laidMetH_plain _ _ _ (by kernel_rfl)] at h
 obtain ⟨g, t, cs, fuel, p, hg, ht, hv, hd⟩ := Lib.laidMet.reads h (n := "math/bits.deBruijn64tab") (d := Rows.laid_math_bits_deBruijn64tab) (.tail _ (.head _))
 have hg' : Tryz.prog.globalNamed "math/bits.deBruijn64tab" = some (9 - 1) := by kernel_rfl
 simp only [World.var?, hg', Option.bind_some] at hv
 apply Classical.byContradiction
 intro hn
 rw [Array.getElem?_eq_none (by omega)] at hv
 cases hv
theorem laid_of {W : World} (h : laidMetH Tryz.prog Rows.fnBindsRow.laid W) : Laid W := ⟨x_kindTexts (v_kindTexts h), x_opTexts (v_opTexts h), x_turnTexts (v_turnTexts h)⟩
set_option maxRecDepth 100000 in
theorem lifted (os : Os) (started : os.Started) (H : Type) (enc : TypeId × Value → H) :
  ReturnsInHanded {} Tryz.checked os 3 .any (fun w args => (Rows.fnBindsSpec.pre enc Tryz.prog Tryz.f3 [] false w args ∧ laidMetH Tryz.prog Rows.fnBindsRow.laid w) ∧ sizedMet enc Tryz.prog Tryz.f3 (OpenSpec.ofChange Rows.fnBindsSpec) false w args)
   (Rows.fnBindsSpec.post enc Tryz.prog Tryz.f3 false true false false) := by
 refine returnsInHanded_of_change_and (C := Tryz.checked) (X := fun w _ => laidMetH Tryz.prog Rows.fnBindsRow.laid w) (fun _ _ _ hh h => h.of_heap hh) Tryz.own started (by kernel_rfl) Tryz.func3
  (ChangeSpec.witness_shaped (enc := enc) (C := Tryz.checked) (os := os) (X := fun w _ => laidMetH Tryz.prog Rows.fnBindsRow.laid w) false ({ World.holding Tryz.prog os ⟨#[], #[], []⟩ with heap := (varsWorld Tryz.prog 400 (varsId Tryz.prog) os (fun _ _ => 0)).heap } : World) #[.slice none 0 0] 8 rfl (World.shaped_of_RefB (by kernel_rfl) (by kernel_rfl)) (by kernel_rfl) (by kernel_rfl) (by kernel_rfl) (door_met os _)) ?_
 intro W base args ds gs before hval0 hW _ _ hL _
 have hval : ∀ (j : Nat) t v, Tryz.f3.params[j]? = some t → args[j]? = some v → Value.okWide Tryz.prog W .any base t v := hval0
 have hW' := hW
 obtain ⟨p, q, hA0, hV0, rfl, hfz, hnd⟩ := hW
 have hV : DataW.TrodVars enc Tryz.prog W (fun _ => true) ["loop.example/g00070/impl.kindTexts", "loop.example/g00070/impl.turnTexts", "loop.example/g00070/impl.opTexts"] gs q := hV0
 have hA : DataW.TrodAll enc Tryz.prog W 0 (fun _ => true) true Tryz.f3.params.toList args.toList ds p := hA0
 rw [Tryz.params3] at hA hval
 obtain ⟨v0, vs0, d0, ds0, p0, q0, hargs, rfl, rfl, h0, r0⟩ := trodAll_cons hA
 obtain ⟨rfl, rfl, rfl⟩ := trodAll_nil r0
 obtain rfl : args = #[v0] := by cases args; simp_all
 have hsz := size_of_laid hL
 have vk := v_kindTexts hL
 have vu := v_turnTexts hL
 have vo := v_opTexts hL
 cases gs with
 | nil => simp [DataW.TrodVars] at hV
 | cons dk gs =>
 obtain ⟨gk, tk, ck, fk, pk, qk, k1, k2, k3, k4, hV2, rfl⟩ := hV
 obtain ⟨gu, tu, cu, fu, du, pu, gO, tO, cO, fO, dO, pO, rfl, u1, u2, u3, u4, o1, o2, o3, o4, rfl⟩ := trodVars_two hV2
 obtain rfl := Option.some.inj (g_kindTexts.symm.trans k1)
 obtain rfl := Option.some.inj (t_kindTexts.symm.trans k2)
 obtain rfl : ck = c_kindTexts := Option.some.inj (k3.symm.trans vk)
 obtain ⟨rfl, rfl⟩ := DataW.Trod.unique (v := .agg c_kindTexts) ⟨fk, k4⟩ ⟨3, r_kindTexts enc W _⟩
 obtain rfl := Option.some.inj (g_turnTexts.symm.trans u1)
 obtain rfl := Option.some.inj (t_turnTexts.symm.trans u2)
 obtain rfl : cu = c_turnTexts := Option.some.inj (u3.symm.trans vu)
 obtain ⟨rfl, rfl⟩ := DataW.Trod.unique (v := .agg c_turnTexts) ⟨fu, u4⟩ ⟨3, r_turnTexts enc W _⟩
 obtain rfl := Option.some.inj (g_opTexts.symm.trans o1)
 obtain rfl := Option.some.inj (t_opTexts.symm.trans o2)
 obtain rfl : cO = c_opTexts := Option.some.inj (o3.symm.trans vo)
 obtain ⟨rfl, rfl⟩ := DataW.Trod.unique (v := .agg c_opTexts) ⟨fO, o4⟩ ⟨3, r_opTexts enc W _⟩
 obtain ⟨a0, len0, cap0, rfl⟩ := okWide_slice Tryz.underlying22 (hval 0 22 v0 rfl rfl)
 have k0 := h0
 have lt0 : ∀ x ∈ p0, x.block < W.heap.size := by obtain ⟨m, hm⟩ := k0; exact DataW.trod_lt m _ _ _ hm
 have hC : Code W a0 len0 := by
  obtain ⟨fuel, hf⟩ := h0
  rcases open_ints Tryz.underlying22 Tryz.underlying5 (by kernel_rfl) hf with ⟨hcs, _⟩ | ⟨x, l, c, zs, hcs, _, hl, hm, hz, _, hcell, hwz⟩
  ·
   simp [Value.cells] at hcs
   exact Or.inl hcs.2.1
  simp [Value.cells] at hcs
  obtain ⟨rfl, rfl, rfl⟩ := hcs
  have hz' : zs.length = cap0 := by simpa using hz
  by_cases he : len0 = 0
  ·
   exact Or.inl he
  obtain ⟨b, off, rfl, hc⟩ := ints_at hcell (by omega)
  refine Or.inr ⟨b, off, rfl, World.block_lt_of_cell? _ _ (hc 0 (by omega)), fun j hj => ?_⟩
  obtain ⟨g1, g2⟩ := u8_of_wf (hwz (zs.getD j 0) (by
   have : j < zs.length := by omega
   simp [this]))
  exact ⟨zs.getD j 0, g1, g2, hc j (by omega)⟩
 clear hA0 hval0 hV0; refine (binds_any a0 len0 cap0 W hC (laid_of hL) hsz).mono fun e W' ⟨he, bel⟩ => ?_
 subst he
 exact ⟨_, rfl, _, _, _, [], _, _, hW', trodAll_mk1 (shut_bool Tryz.underlying4 _), (trodAll_cons_mk (Below.trod Tryz.laidOut (by kernel_rfl) (of_decide_eq_true (by kernel_rfl)) k0 bel lt0) trodAll_mk0),
  ⟨_, _, _, _, _, _, g_kindTexts, t_kindTexts, b_kindTexts bel hsz vk, r_kindTexts enc W' _, ⟨_, _, _, _, _, _, g_turnTexts, t_turnTexts, b_turnTexts bel hsz vu, r_turnTexts enc W' _, trodVars_mk1 g_opTexts t_opTexts (b_opTexts bel hsz vo) (r_opTexts enc W' _), rfl⟩, rfl⟩, bel.frame _, fun h => by cases h⟩
theorem row_holds : Rows.FnBindsSaid :=
 OpenClaim.holds_of_wide 3 Tryz.f3 rfl rfl rfl rfl rfl rfl rfl ⟨rfl, rfl, rfl, rfl, rfl⟩ rfl rfl rfl rfl rfl (by kernel_rfl) Tryz.func3 (by kernel_rfl)
  (of_decide_eq_true (by kernel_rfl)) (by unfold Func.isWrapper; first | (rw [if_pos (by decide +kernel)]; kernel_rfl) | (rw [if_neg (by decide +kernel)]; exact ⟨rfl, rfl⟩))
  (fun os started H enc _ => lifted os started H enc)
end Go.Proofs.YtkkofminndboaaaGreatDoor
