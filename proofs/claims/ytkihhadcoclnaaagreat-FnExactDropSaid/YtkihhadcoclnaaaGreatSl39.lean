import Derived.Test.YtkihhadcoclnaaaGreatSl38
import Derived.ArgAppend
import Derived.Lib.SliceRun
namespace Go.Proofs.YtkihhadcoclnaaaGreat
open Go.RowKit Go.Maps Go.WideMaps
set_option linter.unusedVariables false
set_option linter.unusedSimpArgs false
set_option maxRecDepth 100000
def over (cs : List Value) : Nat → List Value → List Value
 | _, [] => cs
 | o, v :: r => over (cs.set o v) (o + 1) r
theorem over_eq (vs : List Value) : ∀ (cs : List Value) (o : Nat), o + vs.length ≤ cs.length → over cs o vs = cs.take o ++ (vs ++ cs.drop (o + vs.length)) := by
 induction vs with
 | nil => intro cs o h; simp [over]
 | cons v r ih =>
  intro cs o h
  simp only [List.length_cons] at h
  unfold over
  rw [ih (cs.set o v) (o + 1) (by rw [List.length_set]; omega)]
  have e1 : (cs.set o v).take (o + 1) = cs.take o ++ [v] := by
   rw [List.take_add_one, List.take_set_of_le (Nat.le_refl _), List.getElem?_set_self (by omega)]
   rfl
  have e2 : (cs.set o v).drop (o + 1 + r.length) = cs.drop (o + (v :: r).length) := by
   rw [List.drop_set_of_lt (by omega), List.length_cons]
   congr 1
   omega
  rw [e1, e2]
  simp
theorem own_setCells {B g n cap k : Nat} {T : TypeId} (vs : List Value) : ∀ {w : World} {cs : List Value} (o : Nat), w.ownsRow B T k (.slice (some ⟨g, 0, none⟩) n cap) n cs → (w.setCells g o vs).ownsRow B T k (.slice (some ⟨g, 0, none⟩) n cap) n (over cs o vs) := by
 induction vs with
 | nil => intro w cs o h; exact h
 | cons v r ih => intro w cs o h; exact ih (o + 1) (World.ownsRow.stored h o v).1
theorem grow_setCells {w : World} {g : Nat} (vs : List Value) : ∀ {w' : World} (o : Nat), w.grownBy w' (some g) → w.grownBy (w'.setCells g o vs) (some g) := by
 induction vs with
 | nil => intro w' o h; exact h
 | cons v r ih => intro w' o h; exact ih (o + 1) (grow_set h o v)
theorem size_setCells {g : Nat} (vs : List Value) : ∀ {w : World} (o : Nat), (w.setCells g o vs).heap.size = w.heap.size := by
 induction vs with
 | nil => intro w o; rfl
 | cons v r ih => intro w o; exact (ih (o + 1)).trans (by simp)
section
variable {ops : Array Oper} {o : Oper} {a : Act} {w : World} {K : Act → World → Prop} {Qx : Exit → Act → World → Prop} {E : Prop}
theorem step_appH (hg : o.guard = none) {d0 : Option Nat} (hd : o.dst = d0) (s x : Operand) (t : TypeId) (ho : o.op = .call { callee := .builtin .append, args := #[s, x], argTypes := #[t, t] }) {v1 v2 v : Value} {w' : World} (hs : a.eval s = v1) (hx : a.eval x = v2) (hrun : (Builtin.append_ #[t, t] o.type #[v1, v2]).run Tryz.prog w = .ok v w') (hK : K (a.put d0 v) w') :
  if Region.wanted o (yielded ops a.tmps) = true then Oper.wp Tryz.prog o a w K Qx else E := by
 have exec : (execOp a.eval o).run Tryz.prog w = .ok (.value v) w' := by
  simp [execOp, ho, resolve, invoke, builtin, hs, hx, hrun, Result.andThen]
 exact step_exec hg hd exec hK
end
def zC : Value := .agg #[.int .i64 0, .int .i64 0, .int .i64 0, .float .f64 0, .float .f64 0]
def zCs : List Value := [.int .i64 0, .int .i64 0, .int .i64 0, .float .f64 0, .float .f64 0]
theorem run_clearC (w : World) (ty : TypeId) (b o : Nat) (hc : ∀ j, j < 5 → (w.cell? ⟨b, o + j, none⟩).isSome = true) (hf : ∀ j, j < 5 → w.frozen? ⟨b, o + j, none⟩ = false) :
  (Builtin.clear_ #[66] ty #[.slice (some ⟨b, o, none⟩) 1 1]).run Tryz.prog w = .ok (.tuple #[]) (w.setCells b o zCs) := by
 have hv : ∀ W, (zeroValue 103).run Tryz.prog W = .ok zC W := fun W => by kernel_rfl
 have hzc : (Builtin.zeroCells zC.cells 1).toList = zCs := by kernel_rfl
 have hst := run_storeCells_cells (P := Tryz.prog) b o zCs 0 w (by simpa [zCs] using hc) (by simpa [zCs] using hf) (by intro v hv'; simp only [zCs, List.mem_cons, List.not_mem_nil, or_false] at hv'; rcases hv' with rfl | rfl | rfl | rfl | rfl <;> rfl)
 simp only [Nat.add_zero] at hst
 simp [Builtin.clear_, run_underlying Tryz.underlying66, hv, hzc, hst]
set_option maxHeartbeats 4000000 in
theorem deleteC_core (g i j m n d d' : Nat) (A : Addr) (w w1 w2 : World) (hn : n = m + 1) (hj : j = i + 1) (hi : i ≤ m) (hm : m ≤ 1048576)
  (s2 : ∀ W, (Instr.slice 66 (.slice (some ⟨g, 0, none⟩) n n) (some (.int .i64 (j : Int))) none none).run Tryz.prog W = .ok (.slice (some A) d d') W)
  (hap : ∀ ty, (Builtin.append_ #[66, 66] ty #[.slice (some ⟨g, 0, none⟩) i n, .slice (some A) d d']).run Tryz.prog w.drew = .ok (.slice (some ⟨g, 0, none⟩) m n) w1)
  (hcl : ∀ ty, (Builtin.clear_ #[66] ty #[.slice (some ⟨g, m * 5, none⟩) 1 1]).run Tryz.prog w1 = .ok (.tuple #[]) w2) :
  Calls Tryz.prog 87 #[.slice (some ⟨g, 0, none⟩) n n, .int .i64 (i : Int), .int .i64 (j : Int)] w fun e w' => e = .returned (.slice (some ⟨g, 0, none⟩) m n) ∧ w' = w2 := by
 have hsz : ∀ W, (Go.sizeOf (Tryz.prog.elem 66)).run Tryz.prog W = .ok 5 W := fun W => by kernel_rfl
 have ht : Tryz.prog.underlying 66 = some (.slice (Tryz.prog.elem 66)) := by kernel_rfl
 have s0 : ∃ v, ∀ W, (Instr.slice 66 (.slice (some ⟨g, 0, none⟩) n n) (some (.int .i64 (i : Int))) (some (.int .i64 (j : Int))) (some (.int .i64 (n : Int)))).run Tryz.prog W = .ok v W := by
  refine ⟨sliced (some ⟨g, 0, none⟩) i j n 5, fun W => ?_⟩
  rw [run_slice_lhm (P := Tryz.prog) W 66 (some ⟨g, 0, none⟩) n n ht .i64 .i64 .i64 (i : Int) (j : Int) (n : Int) (by omega) (by omega) (by omega) (by omega), hsz]
  simp [Result.andThen]
 obtain ⟨v0, s0⟩ := s0
 have s1 := slice_upto 66 5 ht hsz g n n i (by omega)
 have s3 : ∀ W, (Instr.slice 66 (.slice (some ⟨g, 0, none⟩) m n) (some (.int .i64 (m : Int))) (some (.int .i64 (n : Int))) none).run Tryz.prog W = .ok (.slice (some ⟨g, m * 5, none⟩) 1 1) W := by
  intro W
  rw [run_slice_lh (P := Tryz.prog) W 66 (some ⟨g, 0, none⟩) m n ht .i64 .i64 (m : Int) (n : Int) (by omega) (by omega) (by omega), hsz]
  have h0 : ¬ n = m := by omega
  have h1 : n - m = 1 := by omega
  simp [Result.andThen, sliced, h0, h1, Addr.add]
  exact fun h => h.symm
 have h9 : ¬ (i : Int) = (j : Int) := by omega
 clear hsz ht hn hj
 go_enter Tryz.func87, Tryz.ntmps87
 go_wp2_with fail
 go_region_law (refine step_appH rfl rfl (.tmp 22) (.tmp 25) 66 rfl (by simp [Act.eval, Act.put]) (by simp [Act.eval, Act.put]) (hap _) ?_)
 go_wp2_with fail
 go_ret
 exact ⟨rfl, rfl⟩
theorem fm_take (L : List C5) : ∀ i : Nat, (L.take i).flatMap ccells = (L.flatMap ccells).take (i * 5) := by
 induction L with
 | nil => intro i; simp
 | cons a r ih =>
  intro i
  cases i with
  | zero => simp
  | succ k =>
   rw [List.take_succ_cons, List.flatMap_cons, List.flatMap_cons, ih k, Nat.succ_mul, List.take_append]
   have h5 : (ccells a).length = 5 := rfl
   have t1 : (ccells a).take (k * 5 + 5) = ccells a := List.take_of_length_le (by rw [h5]; omega)
   rw [t1, h5, Nat.add_sub_cancel]
theorem fm_drop (L : List C5) : ∀ i : Nat, (L.drop i).flatMap ccells = (L.flatMap ccells).drop (i * 5) := by
 induction L with
 | nil => intro i; simp
 | cons a r ih =>
  intro i
  cases i with
  | zero => simp
  | succ k =>
   rw [List.drop_succ_cons, List.flatMap_cons, ih k, Nat.succ_mul, List.drop_append]
   have h5 : (ccells a).length = 5 := rfl
   have t1 : (ccells a).drop (k * 5 + 5) = [] := List.drop_eq_nil_of_le (by rw [h5]; omega)
   rw [t1, h5, Nat.add_sub_cancel, List.nil_append]
theorem fm_len (L : List C5) : (L.flatMap ccells).length = L.length * 5 := by
 induction L with
 | nil => rfl
 | cons a r ih => rw [List.flatMap_cons, List.length_append, ih, List.length_cons, Nat.succ_mul, Nat.add_comm]; rfl
theorem ccells_one (L : List C5) : ∀ u ∈ L.flatMap ccells, u.oneCell' = true := by
 intro u hu
 obtain ⟨c, _, hc⟩ := List.mem_flatMap.1 hu
 simp only [ccells, List.mem_cons, List.not_mem_nil, or_false] at hc
 rcases hc with rfl | rfl | rfl | rfl | rfl <;> rfl
theorem deleteC_any (g : Nat) (L : List C5) (i j : Nat) (B : Nat) (w : World) (h : (rC (.slice (some ⟨g, 0, none⟩) L.length L.length) L).on w B) (hi : i < L.length) (hl : L.length ≤ 1048576) (hj : j = i + 1) :
  Calls Tryz.prog 87 #[.slice (some ⟨g, 0, none⟩) L.length L.length, .int .i64 (i : Int), .int .i64 (j : Int)] w fun e w' => e = .returned (.slice (some ⟨g, 0, none⟩) (L.length - 1) L.length) ∧ (rC (.slice (some ⟨g, 0, none⟩) (L.length - 1) L.length) (L.eraseIdx i)).on w' B ∧ w.grownBy w' (some g) ∧ w'.heap.size = w.heap.size := by
 obtain ⟨i0, hi0, hz0, hz1, hz2⟩ := info_parts Tryz.infoCe
 have hd : (rC (.slice (some ⟨g, 0, none⟩) L.length L.length) L).on w.drew B := h.same fun _ _ => rfl
 have ho : w.drew.ownsRow B 103 5 (.slice (some ⟨g, 0, none⟩) L.length L.length) L.length (L.flatMap ccells) := hd
 have hcl := fm_len L
 have hnl : ((L.flatMap ccells).drop (j * 5)).length = (L.length - j) * 5 := by rw [List.length_drop, hcl, Nat.sub_mul]
 have e1 : i + (L.length - j) = L.length - 1 := by omega
 have e5 : i * 5 + (L.length - j) * 5 = (L.length - 1) * 5 := by omega
 have own1 := own_setCells ((L.flatMap ccells).drop (j * 5)) (i * 5) ho
 have ol1 : (over (L.flatMap ccells) (i * 5) ((L.flatMap ccells).drop (j * 5))) = (L.flatMap ccells).take (i * 5) ++ ((L.flatMap ccells).drop (j * 5) ++ (L.flatMap ccells).drop ((L.length - 1) * 5)) := by
  rw [over_eq _ _ _ (by rw [hnl, hcl]; omega), hnl, e5]
 have ll1 : (over (L.flatMap ccells) (i * 5) ((L.flatMap ccells).drop (j * 5))).length = L.length * 5 := by
  rw [ol1, List.length_append, List.length_append, hnl, List.length_take, List.length_drop, hcl]
  omega
 have own2 := own_setCells zCs ((L.length - 1) * 5) own1
 have ht : Tryz.prog.underlying 66 = some (.slice (Tryz.prog.elem 66)) := by kernel_rfl
 have hsz : ∀ W, (Go.sizeOf (Tryz.prog.elem 66)).run Tryz.prog W = .ok 5 W := fun W => by kernel_rfl
 obtain ⟨A, hA, hsrc⟩ : ∃ A : Addr, (∀ W, (Instr.slice 66 (.slice (some ⟨g, 0, none⟩) L.length L.length) (some (.int .i64 (j : Int))) none none).run Tryz.prog W = .ok (.slice (some A) (L.length - j) (L.length - j)) W) ∧ ∀ t u, ((L.flatMap ccells).drop (j * 5))[t]? = some u → w.drew.cell? (A.add t) = some u := by
  by_cases hq : L.length = j
  ·
   refine ⟨⟨g, 0, none⟩, fun W => ?_, fun t u hu => ?_⟩
   ·
    rw [run_slice_l (P := Tryz.prog) W 66 (some ⟨g, 0, none⟩) L.length L.length ht .i64 (j : Int) (by omega) (by omega), hsz]
    simp [Result.andThen, sliced, hq]
   ·
    rw [List.drop_eq_nil_of_le (by omega)] at hu
    simp at hu
  ·
   refine ⟨⟨g, j * 5, none⟩, fun W => ?_, fun t u hu => ?_⟩
   ·
    exact slice_from 66 5 ht hsz g L.length L.length j (L.length - j) (by omega) (Nat.le_refl _) rfl W
   ·
    rw [List.getElem?_drop] at hu
    have hlt := (List.getElem?_eq_some_iff.1 hu).1
    rw [Addr.add_lit, World.ownsRow.cellAt ho (j * 5 + t) (by omega)]
    exact hu
 have hap : ∀ ty, (Builtin.append_ #[66, 66] ty #[.slice (some ⟨g, 0, none⟩) i L.length, .slice (some A) (L.length - j) (L.length - j)]).run Tryz.prog w.drew = .ok (.slice (some ⟨g, 0, none⟩) (L.length - 1) L.length) (w.drew.setCells g (i * 5) ((L.flatMap ccells).drop (j * 5))) := by
  intro ty
  have hr := run_append_room_cells (P := Tryz.prog) w.drew 66 ty 103 i0 Tryz.underlying66 hi0 g 0 i L.length A (L.length - j) (L.length - j) ((L.flatMap ccells).drop (j * 5)) (by rw [hnl, hz1]) hsrc (fun u hu => ccells_one L u (List.mem_of_mem_drop hu)) (by omega)
   (fun t ht => by rw [hz1, World.ownsRow.cellAt ho (0 + i * 5 + t) (by omega), List.getElem?_eq_getElem (by omega)]; rfl) (fun t ht => World.ownsRow.frozenAt ho _)
  rw [hz1, Nat.zero_add, e1] at hr
  exact hr
 have hcr : ∀ ty, (Builtin.clear_ #[66] ty #[.slice (some ⟨g, (L.length - 1) * 5, none⟩) 1 1]).run Tryz.prog (w.drew.setCells g (i * 5) ((L.flatMap ccells).drop (j * 5))) = .ok (.tuple #[]) ((w.drew.setCells g (i * 5) ((L.flatMap ccells).drop (j * 5))).setCells g ((L.length - 1) * 5) zCs) := fun ty =>
  run_clearC _ ty g ((L.length - 1) * 5) (fun t ht => by rw [World.ownsRow.cellAt own1 ((L.length - 1) * 5 + t) (by omega), List.getElem?_eq_getElem (by omega)]; rfl) (fun t ht => World.ownsRow.frozenAt own1 _)
 refine (deleteC_core g i j (L.length - 1) L.length (L.length - j) (L.length - j) A w _ _ (by omega) hj (by omega) (by omega) hA hap hcr).mono ?_
 rintro e w' ⟨rfl, rfl⟩
 refine ⟨rfl, ?_, grow_setCells _ _ (grow_setCells _ _ ⟨rfl, rfl, rfl, Nat.le_refl _, fun _ _ _ => rfl⟩), by rw [size_setCells, size_setCells]; rfl⟩
 have hel : (L.eraseIdx i).length = L.length - 1 := List.length_eraseIdx_of_lt hi
 have hfm : (L.eraseIdx i).flatMap ccells = (L.flatMap ccells).take (i * 5) ++ (L.flatMap ccells).drop (j * 5) := by
  rw [List.eraseIdx_eq_take_drop_succ, List.flatMap_append, fm_take, fm_drop, hj]
 have h3 := ownsRow_take own2 (L.length - 1) (by omega)
 show World.ownsRow _ B 103 5 (.slice (some ⟨g, 0, none⟩) (L.length - 1) L.length) (L.eraseIdx i).length ((L.eraseIdx i).flatMap ccells)
 rw [hel, hfm]
 rw [over_eq zCs _ _ (by rw [ll1]; show _ + 5 ≤ _; omega), List.take_left' (by rw [List.length_take, ll1]; omega), ol1] at h3
 rw [← List.append_assoc, List.take_left' (by rw [List.length_append, hnl, List.length_take, hcl]; omega)] at h3
 exact h3
end Go.Proofs.YtkihhadcoclnaaaGreat
