import Derived.Test.YtaadndkcomgfiaaGreatSl19
import Derived.Test.YtaadndkcomgfiaaGreatSl23
namespace Go.Proofs.YtaadndkcomgfiaaGreat
open Go.RowKit Go.Maps Go.WideMaps
set_option linter.unusedVariables false
set_option linter.unusedSimpArgs false
set_option maxRecDepth 100000
def celP (a3 : Option Addr) (W : Wd) (f : E2 → Option E2) (e : E2) (comp : Int) (w' : World) (r : Ending) : Prop :=
 (f e = none ∧ r = .returned (.tuple #[.pointer none, .int .i64 2])) ∨
 (∃ (i j : Nat) (t : Tab), f e = some ((i : Int), (j : Int)) ∧ W.tabs[i]? = some t ∧ (¬ comp ∈ t.cols) ∧ r = .returned (.tuple #[.pointer none, .int .i64 4])) ∨
 (∃ (i j q : Nat) (t : Tab) (L : List V4) (v : V4) (vb vo : Nat), f e = some ((i : Int), (j : Int)) ∧ W.tabs[i]? = some t ∧ t.cols[q]? = some comp ∧ t.cells[q]? = some L ∧ L[j]? = some v ∧ r = .returned (.tuple #[.pointer (some ⟨vb, vo, none⟩), .int .i64 0]) ∧
  w'.cell? ⟨vb, vo, none⟩ = some (.int .i64 v.1) ∧ w'.cell? ⟨vb, vo + 1, none⟩ = some (.int .i64 v.2.1) ∧ w'.cell? ⟨vb, vo + 2, none⟩ = some (.float .f64 v.2.2.1) ∧ w'.cell? ⟨vb, vo + 3, none⟩ = some (.float .f64 v.2.2.2) ∧
  ∃ (tb tq cb cq n' d' vq e' : Nat), a3 = some ⟨tb, tq, none⟩ ∧ w'.cell? ⟨tb, tq + i * 3 + 2, none⟩ = some (.slice (some ⟨cb, cq, none⟩) n' d') ∧ w'.cell? ⟨cb, cq + q, none⟩ = some (.slice (some ⟨vb, vq, none⟩) L.length e') ∧ vo = vq + j * 4)
set_option maxHeartbeats 4000000 in
theorem cell_own (bb : Nat) (a1 a2 a3 a4 : Option Addr) (b1 b2 b3 b4 b n : Nat) (W : Wd) (f : E2 → Option E2) (e : E2) (comp : Int) (LV : List E2) (w : World) (hb : Blk w bb #[.slice a1 W.gens.length b1, .slice a2 W.free.length b2, .slice a3 W.tabs.length b3, .slice a4 W.res.length b4, .map (some b)] 101) (hW : InW w 0 a1 a2 a3 a4 W) (hk : kW W) (hM : SM w b n f) (hS : Std LV W.tabs (rowsOf W.tabs) f) (hlv : ∀ x, x ∈ LV → x ∈ rowsOf W.tabs) (be : bE e)
  (hs : ∀ t ∈ W.tabs, (∀ (p q : Nat) x y, p ≤ q → t.cols[p]? = some x → t.cols[q]? = some y → x ≤ y) ∧ t.cells.length = t.cols.length ∧ ∀ (q : Nat) L, t.cells[q]? = some L → L.length = t.rows.length) :
  Calls Tryz.prog 50 #[.pointer (some ⟨bb, 0, none⟩), .agg #[.int .i64 e.1, .int .i64 e.2], .int .i64 comp] w fun r w' => celP a3 W f e comp w' r ∧ Below w.heap.size w w' := by
 have hal := alloc_old
 have haf := alloc_oldf
 have L0 : Below w.heap.size w (w.alloc (.cells #[.int .i64 e.1, .int .i64 e.2] 51)) := bl_alloc (Below.refl _ _) _
 obtain ⟨y0, y1, y2⟩ := (Blk.new w #[.int .i64 e.1, .int .i64 e.2] 51).two
 have KB : Hid (Blk (w.alloc (.cells #[.int .i64 e.1, .int .i64 e.2] 51)) bb #[.slice a1 W.gens.length b1, .slice a2 W.free.length b2, .slice a3 W.tabs.length b3, .slice a4 W.res.length b4, .map (some b)] 101) := hb.later L0
 have HM : Hid (SM (w.alloc (.cells #[.int .i64 e.1, .int .i64 e.2] 51)) b n f) := hM.later L0
 have HW : Hid (InW (w.alloc (.cells #[.int .i64 e.1, .int .i64 e.2] 51)) 0 a1 a2 a3 a4 W) := hW.later L0
 have HBE : Hid (bE e) := be
 have HS : Hid (Std LV W.tabs (rowsOf W.tabs) f ∧ ∀ x, x ∈ LV → x ∈ rowsOf W.tabs) := ⟨hS, hlv⟩
 have HT : Hid (∀ t ∈ W.tabs, (∀ (p q : Nat) x y, p ≤ q → t.cols[p]? = some x → t.cols[q]? = some y → x ≤ y) ∧ t.cells.length = t.cols.length ∧ ∀ (q : Nat) L, t.cells[q]? = some L → L.length = t.rows.length) := hs
 clear hb hM hW be hS hlv hs
 go_enter Tryz.func50, Tryz.ntmps50
 go_wp2_with fail
 generalize hX : w.alloc (.cells #[.int .i64 e.1, .int .i64 e.2] 51) = X at L0 y0 y1 KB HM HW ⊢
 clear hX
 have x4 := KB.out.cell 4
 have x2 := KB.out.cell 2
 by_cases hf : f e = none
 ·
  have HF : Hid (f e = none) := hf
  have hlk : ∀ w2, Below X.heap.size X w2 → (Instr.lookup 99 (.map (some b)) (.agg #[.int .i64 e.1, .int .i64 e.2]) true).run Tryz.prog w2 = .ok (.tuple #[.agg #[.int .i64 0, .int .i64 0], .bool false]) w2 := by
   intro w2 h2
   have := (HM.out.later h2).look HBE.out
   rw [HF.out] at this
   simpa [stv] using this
  have HLK : Hid (∀ w2, Below X.heap.size X w2 → (Instr.lookup 99 (.map (some b)) (.agg #[.int .i64 e.1, .int .i64 e.2]) true).run Tryz.prog w2 = .ok (.tuple #[.agg #[.int .i64 0, .int .i64 0], .bool false]) w2) := hlk
  clear hlk hf
  refine wp_region_held_drew (S := (fun w' => w'.cell? ⟨bb, 4, none⟩ = some (.map (some b)) ∧ w'.cell? ⟨w.heap.size, 0, none⟩ = some (.int .i64 e.1) ∧ w'.cell? ⟨w.heap.size, 1, none⟩ = some (.int .i64 e.2) ∧ (Instr.lookup 99 (.map (some b)) (.agg #[.int .i64 e.1, .int .i64 e.2]) true).run Tryz.prog w' = .ok (.tuple #[.agg #[.int .i64 0, .int .i64 0], .bool false]) w')) (by kernel_rfl) ?_ (fun hHeld => ?_)
  ·
   exact ⟨kcell (by (repeat (first | with_reducible exact Below.refl _ _ | with_reducible refine bl_alloc ?_ _ | with_reducible refine bl_drewN ?_ _ | with_reducible refine bl_drew ?_ | with_reducible refine bl_setCell ?_ (by first | exact Nat.le_refl _ | (dsimp only; omega) | (simp <;> omega)) _ | with_reducible refine bl_trans ?_ (by with_reducible assumption)))) x4, kcell (by (repeat (first | with_reducible exact Below.refl _ _ | with_reducible refine bl_alloc ?_ _ | with_reducible refine bl_drewN ?_ _ | with_reducible refine bl_drew ?_ | with_reducible refine bl_setCell ?_ (by first | exact Nat.le_refl _ | (dsimp only; omega) | (simp <;> omega)) _ | with_reducible refine bl_trans ?_ (by with_reducible assumption)))) y0, kcell (by (repeat (first | with_reducible exact Below.refl _ _ | with_reducible refine bl_alloc ?_ _ | with_reducible refine bl_drewN ?_ _ | with_reducible refine bl_drew ?_ | with_reducible refine bl_setCell ?_ (by first | exact Nat.le_refl _ | (dsimp only; omega) | (simp <;> omega)) _ | with_reducible refine bl_trans ?_ (by with_reducible assumption)))) y1, HLK.out _ (by (repeat (first | with_reducible exact Below.refl _ _ | with_reducible refine bl_alloc ?_ _ | with_reducible refine bl_drewN ?_ _ | with_reducible refine bl_drew ?_ | with_reducible refine bl_setCell ?_ (by first | exact Nat.le_refl _ | (dsimp only; omega) | (simp <;> omega)) _ | with_reducible refine bl_trans ?_ (by with_reducible assumption))))⟩
  refine wpAnyH_one (i := 0) (d := 14) (v := ?_) rfl rfl (by kernel_rfl) (by kernel_rfl) (by kernel_rfl) (fun _ _ _ h => h) (by rfl) (by assumption) ?_ ?_
  rotate_left 1
  ·
   intro w hSw; (try dsimp only at hSw); go_simp <;> with_reducible rfl
  simp only [List.foldl, Act.put, List.setIfInBounds_toArray, List.set_cons_zero, List.set_cons_succ]
  refine wpAnyH_one (i := 1) (d := 15) (v := ?_) rfl rfl (by kernel_rfl) (by kernel_rfl) (by kernel_rfl) (fun _ _ _ h => h) (by rfl) (by assumption) ?_ ?_
  rotate_left 1
  ·
   intro w hSw; (try dsimp only at hSw); go_simp <;> with_reducible rfl
  simp only [List.foldl, Act.put, List.setIfInBounds_toArray, List.set_cons_zero, List.set_cons_succ]
  refine wpAnyH_one (i := 2) (d := 16) (v := ?_) rfl rfl (by kernel_rfl) (by kernel_rfl) (by kernel_rfl) (fun _ _ _ h => h) (by rfl) (by assumption) ?_ ?_
  rotate_left 1
  ·
   intro w hSw; (try dsimp only at hSw); go_simp <;> with_reducible rfl
  simp only [List.foldl, Act.put, List.setIfInBounds_toArray, List.set_cons_zero, List.set_cons_succ]
  refine wpAnyH_one (i := 3) (d := 17) (v := ?_) rfl rfl (by kernel_rfl) (by kernel_rfl) (by kernel_rfl) (fun _ _ _ h => h) (by rfl) (by assumption) ?_ ?_
  rotate_left 1
  ·
   intro w hSw; (try dsimp only at hSw); go_simp <;> with_reducible rfl
  simp only [List.foldl, Act.put, List.setIfInBounds_toArray, List.set_cons_zero, List.set_cons_succ]
  refine wpAnyH_one (i := 4) (d := 18) (v := ?_) rfl rfl (by kernel_rfl) (by kernel_rfl) (by kernel_rfl) (fun _ _ _ h => h) (by rfl) (by assumption) ?_ ?_
  rotate_left 1
  ·
   intro w hSw; (try dsimp only at hSw); go_simp <;> with_reducible rfl
  simp only [List.foldl, Act.put, List.setIfInBounds_toArray, List.set_cons_zero, List.set_cons_succ]
  refine wpAnyH_one (i := 5) (d := 19) (v := ?_) rfl rfl (by kernel_rfl) (by kernel_rfl) (by kernel_rfl) (fun _ _ _ h => h) (by rfl) (by assumption) ?_ ?_
  rotate_left 1
  ·
   intro w hSw; (try dsimp only at hSw); go_simp <;> with_reducible rfl
  simp only [List.foldl, Act.put, List.setIfInBounds_toArray, List.set_cons_zero, List.set_cons_succ]
  refine wpAnyH_one (i := 6) (d := 13) (v := ?_) rfl rfl (by kernel_rfl) (by kernel_rfl) (by kernel_rfl) (fun _ _ _ h => h) (by rfl) (by assumption) ?_ ?_
  rotate_left 1
  ·
   intro w hSw; (try dsimp only at hSw); go_simp <;> with_reducible rfl
  simp only [List.foldl, Act.put, List.setIfInBounds_toArray, List.set_cons_zero, List.set_cons_succ]
  refine wpAnyH_one (i := 7) (d := 20) (v := ?_) rfl rfl (by kernel_rfl) (by kernel_rfl) (by kernel_rfl) (fun _ _ _ h => h) (by rfl) (by assumption) ?_ ?_
  rotate_left 1
  ·
   intro w hSw; (try dsimp only at hSw); go_simp <;> with_reducible rfl
  simp only [List.foldl, Act.put, List.setIfInBounds_toArray, List.set_cons_zero, List.set_cons_succ]
  refine wpAnyH_one (i := 8) (d := 21) (v := ?_) rfl rfl (by kernel_rfl) (by kernel_rfl) (by kernel_rfl) (fun _ _ _ h => h) (by rfl) (by assumption) ?_ ?_
  rotate_left 1
  ·
   intro w hSw; (try dsimp only at hSw); go_simp <;> with_reducible rfl
  simp only [List.foldl, Act.put, List.setIfInBounds_toArray, List.set_cons_zero, List.set_cons_succ]
  refine wpAnyH_ready (rs := [9]) (by kernel_rfl) (by simp) ?_
  refine AllReadyH.cons rfl (fun K hK => ?_) AllReadyH.nil
  go_simp
  refine hK.out _ _ ?_ (fun hHeld => ?_)
  ·
   exact ⟨kcell (by (repeat (first | with_reducible exact Below.refl _ _ | with_reducible refine bl_alloc ?_ _ | with_reducible refine bl_drewN ?_ _ | with_reducible refine bl_drew ?_ | with_reducible refine bl_setCell ?_ (by first | exact Nat.le_refl _ | (dsimp only; omega) | (simp <;> omega)) _ | with_reducible refine bl_trans ?_ (by with_reducible assumption)))) x4, kcell (by (repeat (first | with_reducible exact Below.refl _ _ | with_reducible refine bl_alloc ?_ _ | with_reducible refine bl_drewN ?_ _ | with_reducible refine bl_drew ?_ | with_reducible refine bl_setCell ?_ (by first | exact Nat.le_refl _ | (dsimp only; omega) | (simp <;> omega)) _ | with_reducible refine bl_trans ?_ (by with_reducible assumption)))) y0, kcell (by (repeat (first | with_reducible exact Below.refl _ _ | with_reducible refine bl_alloc ?_ _ | with_reducible refine bl_drewN ?_ _ | with_reducible refine bl_drew ?_ | with_reducible refine bl_setCell ?_ (by first | exact Nat.le_refl _ | (dsimp only; omega) | (simp <;> omega)) _ | with_reducible refine bl_trans ?_ (by with_reducible assumption)))) y1, HLK.out _ (by (repeat (first | with_reducible exact Below.refl _ _ | with_reducible refine bl_alloc ?_ _ | with_reducible refine bl_drewN ?_ _ | with_reducible refine bl_drew ?_ | with_reducible refine bl_setCell ?_ (by first | exact Nat.le_refl _ | (dsimp only; omega) | (simp <;> omega)) _ | with_reducible refine bl_trans ?_ (by with_reducible assumption))))⟩
  clear hK K
  try simp only [List.foldl, Act.put, List.setIfInBounds_toArray, List.set_cons_zero, List.set_cons_succ]
  refine wpAnyH_ready (rs := [10]) (by kernel_rfl) (by simp) ?_
  refine AllReadyH.cons rfl (fun K hK => ?_) AllReadyH.nil
  go_simp
  refine hK.out _ _ ?_ (fun hHeld => ?_)
  ·
   exact ⟨kcell (by (repeat (first | with_reducible exact Below.refl _ _ | with_reducible refine bl_alloc ?_ _ | with_reducible refine bl_drewN ?_ _ | with_reducible refine bl_drew ?_ | with_reducible refine bl_setCell ?_ (by first | exact Nat.le_refl _ | (dsimp only; omega) | (simp <;> omega)) _ | with_reducible refine bl_trans ?_ (by with_reducible assumption)))) x4, kcell (by (repeat (first | with_reducible exact Below.refl _ _ | with_reducible refine bl_alloc ?_ _ | with_reducible refine bl_drewN ?_ _ | with_reducible refine bl_drew ?_ | with_reducible refine bl_setCell ?_ (by first | exact Nat.le_refl _ | (dsimp only; omega) | (simp <;> omega)) _ | with_reducible refine bl_trans ?_ (by with_reducible assumption)))) y0, kcell (by (repeat (first | with_reducible exact Below.refl _ _ | with_reducible refine bl_alloc ?_ _ | with_reducible refine bl_drewN ?_ _ | with_reducible refine bl_drew ?_ | with_reducible refine bl_setCell ?_ (by first | exact Nat.le_refl _ | (dsimp only; omega) | (simp <;> omega)) _ | with_reducible refine bl_trans ?_ (by with_reducible assumption)))) y1, HLK.out _ (by (repeat (first | with_reducible exact Below.refl _ _ | with_reducible refine bl_alloc ?_ _ | with_reducible refine bl_drewN ?_ _ | with_reducible refine bl_drew ?_ | with_reducible refine bl_setCell ?_ (by first | exact Nat.le_refl _ | (dsimp only; omega) | (simp <;> omega)) _ | with_reducible refine bl_trans ?_ (by with_reducible assumption))))⟩
  clear hK K
  try simp only [List.foldl, Act.put, List.setIfInBounds_toArray, List.set_cons_zero, List.set_cons_succ]
  refine wpAnyH_one (i := 11) (d := 9) (v := ?_) rfl rfl (by kernel_rfl) (by kernel_rfl) (by kernel_rfl) (fun _ _ _ h => h) (by rfl) (by assumption) ?_ ?_
  rotate_left 1
  ·
   intro w hSw; (try dsimp only at hSw); go_simp <;> with_reducible rfl
  simp only [List.foldl, Act.put, List.setIfInBounds_toArray, List.set_cons_zero, List.set_cons_succ]
  refine wpAnyH_done (by kernel_rfl) ?_ _
  have LF : Hid (Below w.heap.size w (X.alloc (.cells #[.int .i64 0, .int .i64 0] 156)).drew) := bl_drew (bl_alloc L0 _)
  go_wp2_with fail
  refine bodyPost_ret (v := .tuple #[.pointer none, .int .i64 2]) (by simp [results, Tryz.results50, go_sem]) rfl ⟨Or.inl ⟨HF.out, rfl⟩, LF.out⟩
 ·
  have hin : e ∈ LV := by
   by_cases h : e ∈ LV
   ·
    exact h
   ·
    exact absurd (HS.out.1.out e h) hf
  obtain ⟨sp, hf1, i, j, t, rfl, ht, hx⟩ := HS.out.1.taken e (HS.out.2 e hin)
  have HF : Hid (f e = some ((i : Int), (j : Int))) := hf1
  have HTi : Hid (W.tabs[i]? = some t) := ht
  have HXj : Hid (t.rows[j]? = some e) := hx
  have HLK : Hid (∀ w2, Below X.heap.size X w2 → (Instr.lookup 99 (.map (some b)) (.agg #[.int .i64 e.1, .int .i64 e.2]) true).run Tryz.prog w2 = .ok (.tuple #[.agg #[.int .i64 (i : Int), .int .i64 (j : Int)], .bool true]) w2) := by
   intro w2 h2
   have := (HM.out.later h2).look HBE.out
   rw [HF.out] at this
   simpa [stv] using this
  clear hf hf1 hin ht hx
  refine wp_region_held_drew (S := (fun w' => w'.cell? ⟨bb, 4, none⟩ = some (.map (some b)) ∧ w'.cell? ⟨w.heap.size, 0, none⟩ = some (.int .i64 e.1) ∧ w'.cell? ⟨w.heap.size, 1, none⟩ = some (.int .i64 e.2) ∧ (Instr.lookup 99 (.map (some b)) (.agg #[.int .i64 e.1, .int .i64 e.2]) true).run Tryz.prog w' = .ok (.tuple #[.agg #[.int .i64 (i : Int), .int .i64 (j : Int)], .bool true]) w')) (by kernel_rfl) ?_ (fun hHeld => ?_)
  ·
   exact ⟨kcell (by (repeat (first | with_reducible exact Below.refl _ _ | with_reducible refine bl_alloc ?_ _ | with_reducible refine bl_drewN ?_ _ | with_reducible refine bl_drew ?_ | with_reducible refine bl_setCell ?_ (by first | exact Nat.le_refl _ | (dsimp only; omega) | (simp <;> omega)) _ | with_reducible refine bl_trans ?_ (by with_reducible assumption)))) x4, kcell (by (repeat (first | with_reducible exact Below.refl _ _ | with_reducible refine bl_alloc ?_ _ | with_reducible refine bl_drewN ?_ _ | with_reducible refine bl_drew ?_ | with_reducible refine bl_setCell ?_ (by first | exact Nat.le_refl _ | (dsimp only; omega) | (simp <;> omega)) _ | with_reducible refine bl_trans ?_ (by with_reducible assumption)))) y0, kcell (by (repeat (first | with_reducible exact Below.refl _ _ | with_reducible refine bl_alloc ?_ _ | with_reducible refine bl_drewN ?_ _ | with_reducible refine bl_drew ?_ | with_reducible refine bl_setCell ?_ (by first | exact Nat.le_refl _ | (dsimp only; omega) | (simp <;> omega)) _ | with_reducible refine bl_trans ?_ (by with_reducible assumption)))) y1, HLK.out _ (by (repeat (first | with_reducible exact Below.refl _ _ | with_reducible refine bl_alloc ?_ _ | with_reducible refine bl_drewN ?_ _ | with_reducible refine bl_drew ?_ | with_reducible refine bl_setCell ?_ (by first | exact Nat.le_refl _ | (dsimp only; omega) | (simp <;> omega)) _ | with_reducible refine bl_trans ?_ (by with_reducible assumption))))⟩
  refine wpAnyH_one (i := 0) (d := 14) (v := ?_) rfl rfl (by kernel_rfl) (by kernel_rfl) (by kernel_rfl) (fun _ _ _ h => h) (by rfl) (by assumption) ?_ ?_
  rotate_left 1
  ·
   intro w hSw; (try dsimp only at hSw); go_simp <;> with_reducible rfl
  simp only [List.foldl, Act.put, List.setIfInBounds_toArray, List.set_cons_zero, List.set_cons_succ]
  refine wpAnyH_one (i := 1) (d := 15) (v := ?_) rfl rfl (by kernel_rfl) (by kernel_rfl) (by kernel_rfl) (fun _ _ _ h => h) (by rfl) (by assumption) ?_ ?_
  rotate_left 1
  ·
   intro w hSw; (try dsimp only at hSw); go_simp <;> with_reducible rfl
  simp only [List.foldl, Act.put, List.setIfInBounds_toArray, List.set_cons_zero, List.set_cons_succ]
  refine wpAnyH_one (i := 2) (d := 16) (v := ?_) rfl rfl (by kernel_rfl) (by kernel_rfl) (by kernel_rfl) (fun _ _ _ h => h) (by rfl) (by assumption) ?_ ?_
  rotate_left 1
  ·
   intro w hSw; (try dsimp only at hSw); go_simp <;> with_reducible rfl
  simp only [List.foldl, Act.put, List.setIfInBounds_toArray, List.set_cons_zero, List.set_cons_succ]
  refine wpAnyH_one (i := 3) (d := 17) (v := ?_) rfl rfl (by kernel_rfl) (by kernel_rfl) (by kernel_rfl) (fun _ _ _ h => h) (by rfl) (by assumption) ?_ ?_
  rotate_left 1
  ·
   intro w hSw; (try dsimp only at hSw); go_simp <;> with_reducible rfl
  simp only [List.foldl, Act.put, List.setIfInBounds_toArray, List.set_cons_zero, List.set_cons_succ]
  refine wpAnyH_one (i := 4) (d := 18) (v := ?_) rfl rfl (by kernel_rfl) (by kernel_rfl) (by kernel_rfl) (fun _ _ _ h => h) (by rfl) (by assumption) ?_ ?_
  rotate_left 1
  ·
   intro w hSw; (try dsimp only at hSw); go_simp <;> with_reducible rfl
  simp only [List.foldl, Act.put, List.setIfInBounds_toArray, List.set_cons_zero, List.set_cons_succ]
  refine wpAnyH_one (i := 5) (d := 19) (v := ?_) rfl rfl (by kernel_rfl) (by kernel_rfl) (by kernel_rfl) (fun _ _ _ h => h) (by rfl) (by assumption) ?_ ?_
  rotate_left 1
  ·
   intro w hSw; (try dsimp only at hSw); go_simp <;> with_reducible rfl
  simp only [List.foldl, Act.put, List.setIfInBounds_toArray, List.set_cons_zero, List.set_cons_succ]
  refine wpAnyH_one (i := 6) (d := 13) (v := ?_) rfl rfl (by kernel_rfl) (by kernel_rfl) (by kernel_rfl) (fun _ _ _ h => h) (by rfl) (by assumption) ?_ ?_
  rotate_left 1
  ·
   intro w hSw; (try dsimp only at hSw); go_simp <;> with_reducible rfl
  simp only [List.foldl, Act.put, List.setIfInBounds_toArray, List.set_cons_zero, List.set_cons_succ]
  refine wpAnyH_one (i := 7) (d := 20) (v := ?_) rfl rfl (by kernel_rfl) (by kernel_rfl) (by kernel_rfl) (fun _ _ _ h => h) (by rfl) (by assumption) ?_ ?_
  rotate_left 1
  ·
   intro w hSw; (try dsimp only at hSw); go_simp <;> with_reducible rfl
  simp only [List.foldl, Act.put, List.setIfInBounds_toArray, List.set_cons_zero, List.set_cons_succ]
  refine wpAnyH_one (i := 8) (d := 21) (v := ?_) rfl rfl (by kernel_rfl) (by kernel_rfl) (by kernel_rfl) (fun _ _ _ h => h) (by rfl) (by assumption) ?_ ?_
  rotate_left 1
  ·
   intro w hSw; (try dsimp only at hSw); go_simp <;> with_reducible rfl
  simp only [List.foldl, Act.put, List.setIfInBounds_toArray, List.set_cons_zero, List.set_cons_succ]
  refine wpAnyH_ready (rs := [9]) (by kernel_rfl) (by simp) ?_
  refine AllReadyH.cons rfl (fun K hK => ?_) AllReadyH.nil
  go_simp
  refine hK.out _ _ ?_ (fun hHeld => ?_)
  ·
   exact ⟨kcell (by (repeat (first | with_reducible exact Below.refl _ _ | with_reducible refine bl_alloc ?_ _ | with_reducible refine bl_drewN ?_ _ | with_reducible refine bl_drew ?_ | with_reducible refine bl_setCell ?_ (by first | exact Nat.le_refl _ | (dsimp only; omega) | (simp <;> omega)) _ | with_reducible refine bl_trans ?_ (by with_reducible assumption)))) x4, kcell (by (repeat (first | with_reducible exact Below.refl _ _ | with_reducible refine bl_alloc ?_ _ | with_reducible refine bl_drewN ?_ _ | with_reducible refine bl_drew ?_ | with_reducible refine bl_setCell ?_ (by first | exact Nat.le_refl _ | (dsimp only; omega) | (simp <;> omega)) _ | with_reducible refine bl_trans ?_ (by with_reducible assumption)))) y0, kcell (by (repeat (first | with_reducible exact Below.refl _ _ | with_reducible refine bl_alloc ?_ _ | with_reducible refine bl_drewN ?_ _ | with_reducible refine bl_drew ?_ | with_reducible refine bl_setCell ?_ (by first | exact Nat.le_refl _ | (dsimp only; omega) | (simp <;> omega)) _ | with_reducible refine bl_trans ?_ (by with_reducible assumption)))) y1, HLK.out _ (by (repeat (first | with_reducible exact Below.refl _ _ | with_reducible refine bl_alloc ?_ _ | with_reducible refine bl_drewN ?_ _ | with_reducible refine bl_drew ?_ | with_reducible refine bl_setCell ?_ (by first | exact Nat.le_refl _ | (dsimp only; omega) | (simp <;> omega)) _ | with_reducible refine bl_trans ?_ (by with_reducible assumption))))⟩
  clear hK K
  try simp only [List.foldl, Act.put, List.setIfInBounds_toArray, List.set_cons_zero, List.set_cons_succ]
  refine wpAnyH_ready (rs := [10]) (by kernel_rfl) (by simp) ?_
  refine AllReadyH.cons rfl (fun K hK => ?_) AllReadyH.nil
  go_simp
  refine hK.out _ _ ?_ (fun hHeld => ?_)
  ·
   exact ⟨kcell (by (repeat (first | with_reducible exact Below.refl _ _ | with_reducible refine bl_alloc ?_ _ | with_reducible refine bl_drewN ?_ _ | with_reducible refine bl_drew ?_ | with_reducible refine bl_setCell ?_ (by first | exact Nat.le_refl _ | (dsimp only; omega) | (simp <;> omega)) _ | with_reducible refine bl_trans ?_ (by with_reducible assumption)))) x4, kcell (by (repeat (first | with_reducible exact Below.refl _ _ | with_reducible refine bl_alloc ?_ _ | with_reducible refine bl_drewN ?_ _ | with_reducible refine bl_drew ?_ | with_reducible refine bl_setCell ?_ (by first | exact Nat.le_refl _ | (dsimp only; omega) | (simp <;> omega)) _ | with_reducible refine bl_trans ?_ (by with_reducible assumption)))) y0, kcell (by (repeat (first | with_reducible exact Below.refl _ _ | with_reducible refine bl_alloc ?_ _ | with_reducible refine bl_drewN ?_ _ | with_reducible refine bl_drew ?_ | with_reducible refine bl_setCell ?_ (by first | exact Nat.le_refl _ | (dsimp only; omega) | (simp <;> omega)) _ | with_reducible refine bl_trans ?_ (by with_reducible assumption)))) y1, HLK.out _ (by (repeat (first | with_reducible exact Below.refl _ _ | with_reducible refine bl_alloc ?_ _ | with_reducible refine bl_drewN ?_ _ | with_reducible refine bl_drew ?_ | with_reducible refine bl_setCell ?_ (by first | exact Nat.le_refl _ | (dsimp only; omega) | (simp <;> omega)) _ | with_reducible refine bl_trans ?_ (by with_reducible assumption))))⟩
  clear hK K
  try simp only [List.foldl, Act.put, List.setIfInBounds_toArray, List.set_cons_zero, List.set_cons_succ]
  refine wpAnyH_one (i := 11) (d := 9) (v := ?_) rfl rfl (by kernel_rfl) (by kernel_rfl) (by kernel_rfl) (fun _ _ _ h => h) (by rfl) (by assumption) ?_ ?_
  rotate_left 1
  ·
   intro w hSw; (try dsimp only at hSw); go_simp <;> with_reducible rfl
  simp only [List.foldl, Act.put, List.setIfInBounds_toArray, List.set_cons_zero, List.set_cons_succ]
  refine wpAnyH_done (by kernel_rfl) ?_ _
  have KS := (Blk.new X #[.int .i64 (i : Int), .int .i64 (j : Int)] 156)
  have hY1 : Below X.heap.size X (X.alloc (.cells #[.int .i64 (i : Int), .int .i64 (j : Int)] 156)).drew := bl_drew (bl_alloc (Below.refl _ _) _)
  have LY : Hid (Below w.heap.size w (X.alloc (.cells #[.int .i64 (i : Int), .int .i64 (j : Int)] 156)).drew) := bl_trans L0 hY1
  have HWY : Hid (InW (X.alloc (.cells #[.int .i64 (i : Int), .int .i64 (j : Int)] 156)).drew 0 a1 a2 a3 a4 W) := HW.out.later hY1
  have KSY : Hid (Blk (X.alloc (.cells #[.int .i64 (i : Int), .int .i64 (j : Int)] 156)).drew X.heap.size #[.int .i64 (i : Int), .int .i64 (j : Int)] 156) := KS.later (bl_drew (Below.refl _ _))
  have KBY : Hid (Blk (X.alloc (.cells #[.int .i64 (i : Int), .int .i64 (j : Int)] 156)).drew bb #[.slice a1 W.gens.length b1, .slice a2 W.free.length b2, .slice a3 W.tabs.length b3, .slice a4 W.res.length b4, .map (some b)] 101) := KB.out.later hY1
  generalize hYe : (X.alloc (.cells #[.int .i64 (i : Int), .int .i64 (j : Int)] 156)).drew = Y at LY HWY KSY KBY ⊢
  obtain ⟨sb, hsb⟩ : ∃ sb, X.heap.size = sb := ⟨_, rfl⟩
  rw [hsb] at KSY ⊢
  clear hYe hsb KS hY1 HLK hHeld HM HW KB L0 y0 y1 x4 x2
  obtain ⟨tb, tq, ea3, _, hpt, t1, d1, t2, d2, t3, d3, z0, z1, z2, f1, f2, f3⟩ := eTab_cells HWY.out.t HTi.out
  subst ea3
  have hit : i < W.tabs.length := (List.getElem?_eq_some_iff.1 HTi.out).1
  have htm := List.mem_of_getElem? HTi.out
  have htt := HT.out t htm
  have hkt := hk.2.2.1.2 t htm
  have hkl := hk.2.2.1.1
  have s0 := KSY.out.cell 0
  have s1 := KSY.out.cell 1
  have x2 := KBY.out.cell 2
  have iI0 : (0 : Int) ≤ (i : Int) := by omega
  have iI1 : (i : Int) < (W.tabs.length : Int) := by omega
  have F1 : Hid (Els 1 cInt Y 0 t1 t.cols) := f1
  have F3 : Hid (Els 1 cVals Y 0 t3 t.cells) := f3
  have HTT : Hid ((∀ (p q : Nat) x y, p ≤ q → t.cols[p]? = some x → t.cols[q]? = some y → x ≤ y) ∧ t.cells.length = t.cols.length ∧ ∀ (q : Nat) L, t.cells[q]? = some L → L.length = t.rows.length) := htt
  have kt1 := hkt.1
  have kt2 := hkt.2.1
  have KT3 : Hid (kLL t.cells) := hkt.2.2
  clear f1 f2 f3 htm htt hkt hk
  go_wp2_with fail
  refine wp_region_held_drew (S := (fun w' => w'.cell? ⟨bb, 2, none⟩ = some (.slice (some ⟨tb, tq, none⟩) W.tabs.length b3) ∧ w'.cell? ⟨sb, 0, none⟩ = some (.int .i64 (i : Int)) ∧ w'.cell? ⟨tb, tq + i * 3, none⟩ = some (.slice t1 t.cols.length d1) ∧ w'.cell? ⟨tb, tq + i * 3 + 1, none⟩ = some (.slice t2 t.rows.length d2) ∧ w'.cell? ⟨tb, tq + i * 3 + 2, none⟩ = some (.slice t3 t.cells.length d3))) (by kernel_rfl) ?_ (fun hHeld => ?_)
  ·
   exact ⟨kcell (by (repeat (first | with_reducible exact Below.refl _ _ | with_reducible refine bl_alloc ?_ _ | with_reducible refine bl_drewN ?_ _ | with_reducible refine bl_drew ?_ | with_reducible refine bl_setCell ?_ (by first | exact Nat.le_refl _ | (dsimp only; omega) | (simp <;> omega)) _ | with_reducible refine bl_trans ?_ (by with_reducible assumption)))) x2, kcell (by (repeat (first | with_reducible exact Below.refl _ _ | with_reducible refine bl_alloc ?_ _ | with_reducible refine bl_drewN ?_ _ | with_reducible refine bl_drew ?_ | with_reducible refine bl_setCell ?_ (by first | exact Nat.le_refl _ | (dsimp only; omega) | (simp <;> omega)) _ | with_reducible refine bl_trans ?_ (by with_reducible assumption)))) s0, kcell (by (repeat (first | with_reducible exact Below.refl _ _ | with_reducible refine bl_alloc ?_ _ | with_reducible refine bl_drewN ?_ _ | with_reducible refine bl_drew ?_ | with_reducible refine bl_setCell ?_ (by first | exact Nat.le_refl _ | (dsimp only; omega) | (simp <;> omega)) _ | with_reducible refine bl_trans ?_ (by with_reducible assumption)))) z0, kcell (by (repeat (first | with_reducible exact Below.refl _ _ | with_reducible refine bl_alloc ?_ _ | with_reducible refine bl_drewN ?_ _ | with_reducible refine bl_drew ?_ | with_reducible refine bl_setCell ?_ (by first | exact Nat.le_refl _ | (dsimp only; omega) | (simp <;> omega)) _ | with_reducible refine bl_trans ?_ (by with_reducible assumption)))) z1, kcell (by (repeat (first | with_reducible exact Below.refl _ _ | with_reducible refine bl_alloc ?_ _ | with_reducible refine bl_drewN ?_ _ | with_reducible refine bl_drew ?_ | with_reducible refine bl_setCell ?_ (by first | exact Nat.le_refl _ | (dsimp only; omega) | (simp <;> omega)) _ | with_reducible refine bl_trans ?_ (by with_reducible assumption)))) z2⟩
  refine wpAnyH_one (i := 0) (d := 24) (v := ?_) rfl rfl (by kernel_rfl) (by kernel_rfl) (by kernel_rfl) (fun _ _ _ h => h) (by rfl) (by assumption) ?_ ?_
  rotate_left 1
  ·
   intro w hSw; (try dsimp only at hSw); go_simp <;> with_reducible rfl
  simp only [List.foldl, Act.put, List.setIfInBounds_toArray, List.set_cons_zero, List.set_cons_succ]
  refine wpAnyH_one (i := 1) (d := 25) (v := ?_) rfl rfl (by kernel_rfl) (by kernel_rfl) (by kernel_rfl) (fun _ _ _ h => h) (by rfl) (by assumption) ?_ ?_
  rotate_left 1
  ·
   intro w hSw; (try dsimp only at hSw); go_simp <;> with_reducible rfl
  simp only [List.foldl, Act.put, List.setIfInBounds_toArray, List.set_cons_zero, List.set_cons_succ]
  refine wpAnyH_one (i := 2) (d := 26) (v := ?_) rfl rfl (by kernel_rfl) (by kernel_rfl) (by kernel_rfl) (fun _ _ _ h => h) (by rfl) (by assumption) ?_ ?_
  rotate_left 1
  ·
   intro w hSw; (try dsimp only at hSw); go_simp <;> with_reducible rfl
  simp only [List.foldl, Act.put, List.setIfInBounds_toArray, List.set_cons_zero, List.set_cons_succ]
  refine wpAnyH_one (i := 3) (d := 27) (v := ?_) rfl rfl (by kernel_rfl) (by kernel_rfl) (by kernel_rfl) (fun _ _ _ h => h) (by rfl) (by assumption) ?_ ?_
  rotate_left 1
  ·
   intro w hSw; (try dsimp only at hSw); go_simp <;> with_reducible rfl
  simp only [List.foldl, Act.put, List.setIfInBounds_toArray, List.set_cons_zero, List.set_cons_succ]
  refine wpAnyH_one (i := 4) (d := 28) (v := ?_) rfl rfl (by kernel_rfl) (by kernel_rfl) (by kernel_rfl) (fun _ _ _ h => h) (by rfl) (by assumption) ?_ ?_
  rotate_left 1
  ·
   intro w hSw; (try dsimp only at hSw); go_simp <;> with_reducible rfl
  simp only [List.foldl, Act.put, List.setIfInBounds_toArray, List.set_cons_zero, List.set_cons_succ]
  refine wpAnyH_one (i := 5) (d := 29) (v := ?_) rfl rfl (by kernel_rfl) (by kernel_rfl) (by kernel_rfl) (fun _ _ _ h => h) (by rfl) (by assumption) ?_ ?_
  rotate_left 1
  ·
   intro w hSw; (try dsimp only at hSw); go_simp <;> with_reducible rfl
  simp only [List.foldl, Act.put, List.setIfInBounds_toArray, List.set_cons_zero, List.set_cons_succ]
  refine wpAnyH_one (i := 6) (d := 30) (v := ?_) rfl rfl (by kernel_rfl) (by kernel_rfl) (by kernel_rfl) (fun _ _ _ h => h) (by rfl) (by assumption) ?_ ?_
  rotate_left 1
  ·
   intro w hSw; (try dsimp only at hSw); go_simp <;> with_reducible rfl
  simp only [List.foldl, Act.put, List.setIfInBounds_toArray, List.set_cons_zero, List.set_cons_succ]
  refine wpAnyH_one (i := 7) (d := 31) (v := ?_) rfl rfl (by kernel_rfl) (by kernel_rfl) (by kernel_rfl) (fun _ _ _ h => h) (by rfl) (by assumption) ?_ ?_
  rotate_left 1
  ·
   intro w hSw; (try dsimp only at hSw); go_simp <;> with_reducible rfl
  simp only [List.foldl, Act.put, List.setIfInBounds_toArray, List.set_cons_zero, List.set_cons_succ]
  refine wpAnyH_one (i := 8) (d := 32) (v := ?_) rfl rfl (by kernel_rfl) (by kernel_rfl) (by kernel_rfl) (fun _ _ _ h => h) (by rfl) (by assumption) ?_ ?_
  rotate_left 1
  ·
   intro w hSw; (try dsimp only at hSw); go_simp <;> with_reducible rfl
  simp only [List.foldl, Act.put, List.setIfInBounds_toArray, List.set_cons_zero, List.set_cons_succ]
  refine wpAnyH_ready (rs := [9]) (by kernel_rfl) (by simp) ?_
  refine AllReadyH.cons rfl (fun K hK => ?_) AllReadyH.nil
  go_simp
  refine hK.out _ _ ?_ (fun hHeld => ?_)
  ·
   exact ⟨kcell (by (repeat (first | with_reducible exact Below.refl _ _ | with_reducible refine bl_alloc ?_ _ | with_reducible refine bl_drewN ?_ _ | with_reducible refine bl_drew ?_ | with_reducible refine bl_setCell ?_ (by first | exact Nat.le_refl _ | (dsimp only; omega) | (simp <;> omega)) _ | with_reducible refine bl_trans ?_ (by with_reducible assumption)))) x2, kcell (by (repeat (first | with_reducible exact Below.refl _ _ | with_reducible refine bl_alloc ?_ _ | with_reducible refine bl_drewN ?_ _ | with_reducible refine bl_drew ?_ | with_reducible refine bl_setCell ?_ (by first | exact Nat.le_refl _ | (dsimp only; omega) | (simp <;> omega)) _ | with_reducible refine bl_trans ?_ (by with_reducible assumption)))) s0, kcell (by (repeat (first | with_reducible exact Below.refl _ _ | with_reducible refine bl_alloc ?_ _ | with_reducible refine bl_drewN ?_ _ | with_reducible refine bl_drew ?_ | with_reducible refine bl_setCell ?_ (by first | exact Nat.le_refl _ | (dsimp only; omega) | (simp <;> omega)) _ | with_reducible refine bl_trans ?_ (by with_reducible assumption)))) z0, kcell (by (repeat (first | with_reducible exact Below.refl _ _ | with_reducible refine bl_alloc ?_ _ | with_reducible refine bl_drewN ?_ _ | with_reducible refine bl_drew ?_ | with_reducible refine bl_setCell ?_ (by first | exact Nat.le_refl _ | (dsimp only; omega) | (simp <;> omega)) _ | with_reducible refine bl_trans ?_ (by with_reducible assumption)))) z1, kcell (by (repeat (first | with_reducible exact Below.refl _ _ | with_reducible refine bl_alloc ?_ _ | with_reducible refine bl_drewN ?_ _ | with_reducible refine bl_drew ?_ | with_reducible refine bl_setCell ?_ (by first | exact Nat.le_refl _ | (dsimp only; omega) | (simp <;> omega)) _ | with_reducible refine bl_trans ?_ (by with_reducible assumption)))) z2⟩
  clear hK K
  try simp only [List.foldl, Act.put, List.setIfInBounds_toArray, List.set_cons_zero, List.set_cons_succ]
  refine wpAnyH_ready (rs := [10]) (by kernel_rfl) (by simp) ?_
  refine AllReadyH.cons rfl (fun K hK => ?_) AllReadyH.nil
  go_simp
  refine hK.out _ _ ?_ (fun hHeld => ?_)
  ·
   exact ⟨kcell (by (repeat (first | with_reducible exact Below.refl _ _ | with_reducible refine bl_alloc ?_ _ | with_reducible refine bl_drewN ?_ _ | with_reducible refine bl_drew ?_ | with_reducible refine bl_setCell ?_ (by first | exact Nat.le_refl _ | (dsimp only; omega) | (simp <;> omega)) _ | with_reducible refine bl_trans ?_ (by with_reducible assumption)))) x2, kcell (by (repeat (first | with_reducible exact Below.refl _ _ | with_reducible refine bl_alloc ?_ _ | with_reducible refine bl_drewN ?_ _ | with_reducible refine bl_drew ?_ | with_reducible refine bl_setCell ?_ (by first | exact Nat.le_refl _ | (dsimp only; omega) | (simp <;> omega)) _ | with_reducible refine bl_trans ?_ (by with_reducible assumption)))) s0, kcell (by (repeat (first | with_reducible exact Below.refl _ _ | with_reducible refine bl_alloc ?_ _ | with_reducible refine bl_drewN ?_ _ | with_reducible refine bl_drew ?_ | with_reducible refine bl_setCell ?_ (by first | exact Nat.le_refl _ | (dsimp only; omega) | (simp <;> omega)) _ | with_reducible refine bl_trans ?_ (by with_reducible assumption)))) z0, kcell (by (repeat (first | with_reducible exact Below.refl _ _ | with_reducible refine bl_alloc ?_ _ | with_reducible refine bl_drewN ?_ _ | with_reducible refine bl_drew ?_ | with_reducible refine bl_setCell ?_ (by first | exact Nat.le_refl _ | (dsimp only; omega) | (simp <;> omega)) _ | with_reducible refine bl_trans ?_ (by with_reducible assumption)))) z1, kcell (by (repeat (first | with_reducible exact Below.refl _ _ | with_reducible refine bl_alloc ?_ _ | with_reducible refine bl_drewN ?_ _ | with_reducible refine bl_drew ?_ | with_reducible refine bl_setCell ?_ (by first | exact Nat.le_refl _ | (dsimp only; omega) | (simp <;> omega)) _ | with_reducible refine bl_trans ?_ (by with_reducible assumption)))) z2⟩
  clear hK K
  try simp only [List.foldl, Act.put, List.setIfInBounds_toArray, List.set_cons_zero, List.set_cons_succ]
  refine wpAnyH_done (by kernel_rfl) ?_ _
  have hZ1 : Below Y.heap.size Y (Y.alloc (.cells #[.slice t1 t.cols.length d1, .slice t2 t.rows.length d2, .slice t3 t.cells.length d3] 88)).drew := bl_drew (bl_alloc (Below.refl _ _) _)
  have LZ : Hid (Below w.heap.size w (Y.alloc (.cells #[.slice t1 t.cols.length d1, .slice t2 t.rows.length d2, .slice t3 t.cells.length d3] 88)).drew) := bl_trans LY.out hZ1
  have KTZ : Hid (Blk (Y.alloc (.cells #[.slice t1 t.cols.length d1, .slice t2 t.rows.length d2, .slice t3 t.cells.length d3] 88)).drew Y.heap.size #[.slice t1 t.cols.length d1, .slice t2 t.rows.length d2, .slice t3 t.cells.length d3] 88) := (Blk.new Y _ _).later (bl_drew (Below.refl _ _))
  have KSZ : Hid (Blk (Y.alloc (.cells #[.slice t1 t.cols.length d1, .slice t2 t.rows.length d2, .slice t3 t.cells.length d3] 88)).drew sb #[.int .i64 (i : Int), .int .i64 (j : Int)] 156) := KSY.out.later hZ1
  have G1 : Hid (Els 1 cInt (Y.alloc (.cells #[.slice t1 t.cols.length d1, .slice t2 t.rows.length d2, .slice t3 t.cells.length d3] 88)).drew 0 t1 t.cols) := F1.out.later cInt_keeps hZ1
  have GZ : Hid ((Y.alloc (.cells #[.slice t1 t.cols.length d1, .slice t2 t.rows.length d2, .slice t3 t.cells.length d3] 88)).drew.cell? ⟨tb, tq + i * 3 + 2, none⟩ = some (.slice t3 t.cells.length d3)) := (hZ1.cell (p := ⟨tb, tq + i * 3 + 2, none⟩) hpt).trans z2
  have G3 : Hid (Els 1 cVals (Y.alloc (.cells #[.slice t1 t.cols.length d1, .slice t2 t.rows.length d2, .slice t3 t.cells.length d3] 88)).drew 0 t3 t.cells) := F3.out.later cVals_keeps hZ1
  generalize hZe : (Y.alloc (.cells #[.slice t1 t.cols.length d1, .slice t2 t.rows.length d2, .slice t3 t.cells.length d3] 88)).drew = Z at LZ KTZ KSZ G1 G3 GZ ⊢
  obtain ⟨zb, hzb⟩ : ∃ zb, Y.heap.size = zb := ⟨_, rfl⟩
  rw [hzb] at KTZ ⊢
  clear hZe hzb hZ1 hHeld LY HWY KSY KBY F1 F3 s0 s1 x2 z0 z1 z2
  obtain ⟨z0, z1, z2, z3⟩ := KTZ.out.three'
  go_wp2_with fail
  refine (binSearch_any t1 d1 t.cols comp 0 _ G1.out kt1 HTT.out.1).mono ?_
  rintro r w5 ⟨⟨q, rfl, hq⟩, rfl⟩
  by_cases hfd : t.cols[q]? = some comp
  ·
   have tf : decide (t.cols[q]? = some comp) = true := by simp [hfd]
   rw [tf]
   have HQ : Hid (t.cols[q]? = some comp) := hfd
   have hqc : q < t.cells.length := by rw [HTT.out.2.1]; exact (List.getElem?_eq_some_iff.1 hfd).1
   obtain ⟨L, hL⟩ := get_some hqc
   have hLr := HTT.out.2.2 q L hL
   have hjr : j < t.rows.length := (List.getElem?_eq_some_iff.1 HXj.out).1
   obtain ⟨v, hv⟩ := get_some (L := L) (k := j) (by omega)
   obtain ⟨cb, cq, ec3, _, _, sL, cL, c0, hEL⟩ := eVals_cells G3.out hL
   subst ec3
   obtain ⟨vb, vo, esL, _, _, _, v1, v2, v3, v4⟩ := eVal_cells hEL hv
   subst esL
   have HL : Hid (t.cells[q]? = some L) := hL
   have HV : Hid (L[j]? = some v) := hv
   have C0 : Hid (_ = _) := c0
   have s1 := KSZ.out.cell 1
   have qI0 : (0 : Int) ≤ (q : Int) := by omega
   have qI1 : (q : Int) < (t.cells.length : Int) := by omega
   have jI0 : (0 : Int) ≤ (j : Int) := by omega
   have jI1 : (j : Int) < (L.length : Int) := by omega
   clear tf hfd hL hv hEL hLr
   go_wp2_with fail
   refine wp_region_held_drew (S := (fun w' => w'.cell? ⟨zb, 2, none⟩ = some (.slice (some ⟨cb, cq, none⟩) t.cells.length d3) ∧ w'.cell? ⟨cb, cq + q, none⟩ = some (.slice (some ⟨vb, vo, none⟩) L.length cL) ∧ w'.cell? ⟨sb, 1, none⟩ = some (.int .i64 (j : Int)))) (by kernel_rfl) ?_ (fun hHeld => ?_)
   ·
    exact ⟨z2, c0, s1⟩
   refine wpAnyH_one (i := 0) (d := 42) (v := ?_) rfl rfl (by kernel_rfl) (by kernel_rfl) (by kernel_rfl) (fun _ _ _ h => h) (by rfl) (by assumption) ?_ ?_
   rotate_left 1
   ·
    intro w hSw; (try dsimp only at hSw); go_simp <;> with_reducible rfl
   simp only [List.foldl, Act.put, List.setIfInBounds_toArray, List.set_cons_zero, List.set_cons_succ]
   refine wpAnyH_one (i := 1) (d := 43) (v := ?_) rfl rfl (by kernel_rfl) (by kernel_rfl) (by kernel_rfl) (fun _ _ _ h => h) (by rfl) (by assumption) ?_ ?_
   rotate_left 1
   ·
    intro w hSw; (try dsimp only at hSw); go_simp <;> with_reducible rfl
   simp only [List.foldl, Act.put, List.setIfInBounds_toArray, List.set_cons_zero, List.set_cons_succ]
   refine wpAnyH_one (i := 2) (d := 44) (v := ?_) rfl rfl (by kernel_rfl) (by kernel_rfl) (by kernel_rfl) (fun _ _ _ h => h) (by rfl) (by assumption) ?_ ?_
   rotate_left 1
   ·
    intro w hSw; (try dsimp only at hSw); go_simp <;> with_reducible rfl
   simp only [List.foldl, Act.put, List.setIfInBounds_toArray, List.set_cons_zero, List.set_cons_succ]
   refine wpAnyH_one (i := 3) (d := 45) (v := ?_) rfl rfl (by kernel_rfl) (by kernel_rfl) (by kernel_rfl) (fun _ _ _ h => h) (by rfl) (by assumption) ?_ ?_
   rotate_left 1
   ·
    intro w hSw; (try dsimp only at hSw); go_simp <;> with_reducible rfl
   simp only [List.foldl, Act.put, List.setIfInBounds_toArray, List.set_cons_zero, List.set_cons_succ]
   refine wpAnyH_one (i := 4) (d := 46) (v := ?_) rfl rfl (by kernel_rfl) (by kernel_rfl) (by kernel_rfl) (fun _ _ _ h => h) (by rfl) (by assumption) ?_ ?_
   rotate_left 1
   ·
    intro w hSw; (try dsimp only at hSw); go_simp <;> with_reducible rfl
   simp only [List.foldl, Act.put, List.setIfInBounds_toArray, List.set_cons_zero, List.set_cons_succ]
   refine wpAnyH_one (i := 5) (d := 47) (v := ?_) rfl rfl (by kernel_rfl) (by kernel_rfl) (by kernel_rfl) (fun _ _ _ h => h) (by rfl) (by assumption) ?_ ?_
   rotate_left 1
   ·
    intro w hSw; (try dsimp only at hSw); go_simp <;> with_reducible rfl
   simp only [List.foldl, Act.put, List.setIfInBounds_toArray, List.set_cons_zero, List.set_cons_succ]
   refine wpAnyH_one (i := 6) (d := 48) (v := ?_) rfl rfl (by kernel_rfl) (by kernel_rfl) (by kernel_rfl) (fun _ _ _ h => h) (by rfl) (by assumption) ?_ ?_
   rotate_left 1
   ·
    intro w hSw; (try dsimp only at hSw); go_simp <;> with_reducible rfl
   simp only [List.foldl, Act.put, List.setIfInBounds_toArray, List.set_cons_zero, List.set_cons_succ]
   refine wpAnyH_one (i := 7) (d := 49) (v := ?_) rfl rfl (by kernel_rfl) (by kernel_rfl) (by kernel_rfl) (fun _ _ _ h => h) (by rfl) (by assumption) ?_ ?_
   rotate_left 1
   ·
    intro w hSw; (try dsimp only at hSw); go_simp <;> with_reducible rfl
   simp only [List.foldl, Act.put, List.setIfInBounds_toArray, List.set_cons_zero, List.set_cons_succ]
   refine wpAnyH_one (i := 8) (d := 6) (v := ?_) rfl rfl (by kernel_rfl) (by kernel_rfl) (by kernel_rfl) (fun _ _ _ h => h) (by rfl) (by assumption) ?_ ?_
   rotate_left 1
   ·
    intro w hSw; (try dsimp only at hSw); go_simp <;> with_reducible rfl
   simp only [List.foldl, Act.put, List.setIfInBounds_toArray, List.set_cons_zero, List.set_cons_succ]
   refine wpAnyH_one (i := 9) (d := 7) (v := ?_) rfl rfl (by kernel_rfl) (by kernel_rfl) (by kernel_rfl) (fun _ _ _ h => h) (by rfl) (by assumption) ?_ ?_
   rotate_left 1
   ·
    intro w hSw; (try dsimp only at hSw); go_simp <;> with_reducible rfl
   simp only [List.foldl, Act.put, List.setIfInBounds_toArray, List.set_cons_zero, List.set_cons_succ]
   refine wpAnyH_done (by kernel_rfl) ?_ _
   have LF : Hid (Below w.heap.size w w5.drew) := bl_drew LZ.out
   go_wp2_with fail
   refine bodyPost_ret (v := .tuple #[.pointer (some ⟨vb, vo + j * 4, none⟩), .int .i64 0]) (by simp [results, Tryz.results50, go_sem]) rfl ⟨Or.inr (Or.inr ⟨i, j, q, t, L, v, vb, vo + j * 4, HF.out, HTi.out, HQ.out, HL.out, HV.out, rfl, v1, v2, v3, v4, tb, tq, cb, cq, _, _, vo, _, rfl, GZ.out, C0.out, rfl⟩), LF.out⟩
  ·
   have tf : decide (t.cols[q]? = some comp) = false := by simp [hfd]
   rw [tf]
   have HNo : Hid (¬ comp ∈ t.cols) := by
    intro hc
    obtain ⟨p, hp, he⟩ := List.getElem_of_mem hc
    have hpc : t.cols[p]? = some comp := by rw [List.getElem?_eq_getElem hp, he]
    rcases Nat.lt_trichotomy p q with h | h | h
    ·
     have := hq.2.1 p comp h hpc; omega
    ·
     subst h; exact hfd hpc
    ·
     by_cases hql : q < t.cols.length
     ·
      obtain ⟨y, hy⟩ := get_some hql
      have h1 := hq.2.2 q y (Nat.le_refl _) hy
      have h2 := HTT.out.1 q p y comp (by omega) hy hpc
      have : y = comp := by omega
      rw [this] at hy
      exact hfd hy
     ·
      omega
   clear hfd tf hq
   go_wp2_with fail
   refine bodyPost_ret (v := .tuple #[.pointer none, .int .i64 4]) (by simp [results, Tryz.results50, go_sem]) rfl ⟨Or.inr (Or.inl ⟨i, j, t, HF.out, HTi.out, HNo.out, rfl⟩), LZ.out⟩
end Go.Proofs.YtaadndkcomgfiaaGreat
