import Derived.Test.YtgcfhoojjgcpiaaDoorPwr
import Derived.Test.YtgcfhoojjgcpiaaDoorAe
import Derived.Test.YtgcfhoojjgcpiaaDoorBn
import Derived.LaidByTextLater
import Derived.ChangeArms
import Derived.OpenShut
import Derived.Lay
import Derived.LaidMore
import Derived.Stop.Joined
import Derived.Lib.LaidU8
import Derived.ChangeVars
namespace Go.Proofs.YtgcfhoojjgcpiaaDoor
open Go.ChangeShapes Go.WideShapes Go.ChangeAt Go.RowKit Go.Joins
set_option linter.unusedVariables false

/-- A world in which the listed variable lies. -/
theorem door_met (os : Os) (args : Array Value) : laidMetH Tryd.prog Rows.fnExactEffectOkRow.laid ((World.laidAll Tryd.prog os Rows.fnExactEffectOkRow.laid).forCall (fun _ _ => 0) ⟨#[], args, []⟩).memory := by
  rw [MakeChecks.laidMetH_plain _ _ _ (by kernel_rfl)]
  exact laidMet_laidAll _ (by kernel_rfl) (by kernel_rfl)
theorem so_data : (Rows.laid_loop_example_g00070_impl_effSorts : DataW Unit) = Lib.tabData .i64 effSo := by kernel_rfl
theorem tab_of_laid {W : World} (h : laidMetH Tryd.prog Rows.fnExactEffectOkRow.laid W) : Lib.TabIs Tryd.prog W "loop.example/g00070/impl.effSorts" .i64 effSo := by
  rw [MakeChecks.laidMetH_plain _ _ _ (by kernel_rfl)] at h
  obtain ⟨g, t, cs, fuel, p, hg, ht, hv, hd⟩ := Lib.laidMet.reads h (n := "loop.example/g00070/impl.effSorts") (d := Rows.laid_loop_example_g00070_impl_effSorts) (.head _)
  have hg' : Tryd.prog.globalNamed "loop.example/g00070/impl.effSorts" = some 0 := by kernel_rfl
  have ht' : (Tryd.prog.globals[0]?).map (·.type) = some 52 := by kernel_rfl
  obtain rfl := Option.some.inj (hg'.symm.trans hg)
  obtain rfl := Option.some.inj (ht'.symm.trans ht)
  rw [so_data] at hd
  unfold Lib.TabIs
  rw [hv, ← Lib.cells_of_tab Tryd.underlying52 Tryd.underlying3 (by kernel_rfl) (by kernel_rfl) hd]
theorem g8_of_tab {W : World} (h : Lib.TabIs Tryd.prog W "loop.example/g00070/impl.effSorts" .i64 effSo) : ∀ i : Nat, i < 8 → W.cell? ⟨0, i, none⟩ = some (.int .i64 (effSo.getD i 0)) := by
  intro i hi
  have hg' : Tryd.prog.globalNamed "loop.example/g00070/impl.effSorts" = some 0 := by kernel_rfl
  exact h.cell hg' i (by simpa [effSo] using hi)

theorem g_so : Tryd.prog.globalNamed "loop.example/g00070/impl.effSorts" = some 0 := by kernel_rfl
theorem t_so : (Tryd.prog.globals[0]?).map (·.type) = some 52 := by kernel_rfl
abbrev soCells : Array Value := (effSo.map fun z => Value.int .i64 z).toArray
theorem reads_so {H : Type} (enc : TypeId × Value → H) (W : World) (sp : Nat → Bool) : DataW.trod enc Tryd.prog W 0 sp true 3 52 soCells.toList = some (Rows.laid_loop_example_g00070_impl_effSorts, []) := by kernel_rfl
theorem var_below {W W' : World} {cs : Array Value} (bel : Below W.heap.size W W') (h0 : 0 < W.heap.size) (h : W.var? Tryd.prog "loop.example/g00070/impl.effSorts" = some cs) : W'.var? Tryd.prog "loop.example/g00070/impl.effSorts" = some cs := by
  simp only [World.var?, g_so, Option.bind_some] at h ⊢
  rw [bel.block 0 h0]
  exact h
set_option maxRecDepth 100000 in
theorem lifted (os : Os) (started : os.Started) (H : Type) (enc : TypeId × Value → H) :
    ReturnsInHanded {} Tryd.checked os 3 .any (fun w args => (Rows.fnExactEffectOkSpec.pre enc Tryd.prog Tryd.f3 [] false w args ∧ laidMetH Tryd.prog Rows.fnExactEffectOkRow.laid w) ∧ sizedMet enc Tryd.prog Tryd.f3 (OpenSpec.ofChange Rows.fnExactEffectOkSpec) false w args)
      (Rows.fnExactEffectOkSpec.post enc Tryd.prog Tryd.f3 false true false false) := by
  refine returnsInHanded_of_change_and (C := Tryd.checked) (X := fun w _ => laidMetH Tryd.prog Rows.fnExactEffectOkRow.laid w) (fun _ _ _ hh h => h.of_heap hh) Tryd.own started (by kernel_rfl) Tryd.func3
    (ChangeSpec.witness_shaped (enc := enc) (C := Tryd.checked) (os := os) (X := fun w _ => laidMetH Tryd.prog Rows.fnExactEffectOkRow.laid w) false (World.laidAll Tryd.prog os Rows.fnExactEffectOkRow.laid) #[.agg #[.slice none 0 0, .slice none 0 0, .slice none 0 0], .agg #[.slice none 0 0, .slice none 0 0, .slice none 0 0, .slice none 0 0, .slice none 0 0, .slice none 0 0, .slice none 0 0, .slice none 0 0, .bool false, .bool false]] 8 (World.laidAll_os _ _ _)
      (World.shaped_of_ZipB (by kernel_rfl) (by kernel_rfl)) (by kernel_rfl) (by kernel_rfl) (by kernel_rfl) (door_met os _)) ?_
  intro W base args ds gs before hval0 hW _ _ hL _
  have hval : ∀ (j : Nat) t v, Tryd.f3.params[j]? = some t → args[j]? = some v → Value.okWide Tryd.prog W .any base t v := hval0
  have hW' := hW
  obtain ⟨p, q, hA0, hV0, rfl, hfz, hnd⟩ := hW
  have hV : DataW.TrodVars enc Tryd.prog W (fun _ => true) ["loop.example/g00070/impl.effSorts"] gs q := hV0
  have hA : DataW.TrodAll enc Tryd.prog W 0 (fun _ => true) true Tryd.f3.params.toList args.toList ds p := hA0
  rw [Tryd.params3] at hA hval
  obtain ⟨v0, vs0, d0, ds0, p0, q0, hargs, rfl, rfl, h0, r0⟩ := trodAll_cons hA
  obtain ⟨v1, vs1, d1, ds1, p1, q1, rfl, rfl, rfl, h1, r1⟩ := trodAll_cons r0
  obtain ⟨rfl, rfl, rfl⟩ := trodAll_nil r1
  obtain rfl : args = #[v0, v1] := by cases args; simp_all
  obtain ⟨g, t, cs, fuel, d, p', rfl, hg, ht, hvar, hd, rfl⟩ := trodVars_one hV
  obtain rfl := Option.some.inj (g_so.symm.trans hg)
  obtain rfl := Option.some.inj (t_so.symm.trans ht)
  obtain rfl : cs = soCells := Option.some.inj (hvar.symm.trans (tab_of_laid hL))
  obtain ⟨rfl, rfl⟩ := DataW.Trod.unique (v := .agg soCells) ⟨fuel, hd⟩ ⟨3, reads_so enc W _⟩
  have h0W : 0 < W.heap.size := World.block_lt_of_cell? _ _ (g8_of_tab (tab_of_laid hL) 0 (by omega))
  have k0 := h0
  have lt0 : ∀ x ∈ p0, x.block < W.heap.size := by obtain ⟨m, hm⟩ := k0; exact DataW.trod_lt m _ _ _ hm
  have k1 := h1
  have lt1 : ∀ x ∈ p1, x.block < W.heap.size := by obtain ⟨m, hm⟩ := k1; exact DataW.trod_lt m _ _ _ hm
  obtain ⟨r1, r2, r3, n1, n2, n3, A, B, C, rfl, gA, gB, gC⟩ := openReg (hval 0 24 v0 rfl rfl) h0
  obtain ⟨s0, s1, s2, s3, s4, s5, s6, s7, c0, c1, c2, c3, c4, c5, c6, c7, E, rfl, hI, hm⟩ := openEff (hval 1 27 v1 rfl rfl) h1
  clear hA0 hval0 hV0
  refine (exactEffectOk_any r1 r2 r3 n1 n2 n3 A B C s0 s1 s2 s3 s4 s5 s6 s7 c0 c1 c2 c3 c4 c5 c6 c7 E W gA gB gC hI hm (g8_of_tab (tab_of_laid hL))).mono fun e W' ⟨he, bel⟩ => ?_
  subst he
  exact ⟨_, rfl, _, _, _, [], _, _, hW', trodAll_mk1 (shut_bool Tryd.underlying4 _), (trodAll_cons_mk (Below.trod Tryd.laidOut (by kernel_rfl) (of_decide_eq_true (by kernel_rfl)) k0 bel lt0) (trodAll_cons_mk (Below.trod Tryd.laidOut (by kernel_rfl) (of_decide_eq_true (by kernel_rfl)) k1 bel lt1) trodAll_mk0)), trodVars_mk1 g_so t_so (var_below bel h0W hvar) (reads_so enc W' _), bel.frame _, fun h => by cases h⟩

theorem row_holds : Rows.FnExactEffectOkSaid :=
  OpenClaim.holds_of_wide 3 Tryd.f3 rfl rfl rfl rfl rfl rfl rfl ⟨rfl, rfl, rfl, rfl, rfl⟩ rfl rfl rfl rfl rfl (by kernel_rfl) Tryd.func3 (by kernel_rfl)
    (of_decide_eq_true (by kernel_rfl)) (by unfold Func.isWrapper; first | (rw [if_pos (by decide +kernel)]; kernel_rfl) | (rw [if_neg (by decide +kernel)]; exact ⟨rfl, rfl⟩))
    (fun os started H enc _ => lifted os started H enc)
end Go.Proofs.YtgcfhoojjgcpiaaDoor
