import Derived.Test.YtkbgklnkagpchaaN1
import Derived.Shelf.Spec.SlicesInsert
import Derived.Shelf.Spec.SlicesInsertGrow
import Derived.Shelf.Slices.Delete
import Derived.Shelf.Lay
import Derived.Ground.NamesProg
namespace Go.Proofs
open Go.Shelf
shelf_lay Lays2.n21 Nm2 21 at Try as Try.laysInsertI
shelf_lay Lays2.n23 Nm2 23 at Try as Try.laysDeleteI
end Go.Proofs
namespace Go.Proofs.Ytkbgklnkagpchaa
open Go.RowKit
set_option linter.unusedVariables false
set_option linter.unusedSimpArgs false

theorem renI_t3 : Try.laysInsertI_ren.t 3 = 3 := by kernel_rfl
theorem renI_f21 : Try.laysInsertI_ren.f 21 = 22 := by kernel_rfl
theorem renD_f23 : Try.laysDeleteI_ren.f 23 = 23 := by kernel_rfl

/-- a list with others laid over it. -/
def over (cs : List Value) : Nat → List Value → List Value
  | _, [] => cs
  | o, v :: r => over (cs.set o v) (o + 1) r
theorem over_eq (vs : List Value) : ∀ (cs : List Value) (o : Nat), o + vs.length ≤ cs.length → over cs o vs = cs.take o ++ (vs ++ cs.drop (o + vs.length)) := by
  induction vs with
  | nil => intro cs o h; simp [over]
  | cons v r ih =>
    intro cs o h
    simp only [List.length_cons] at h
    unfold over
    rw [ih (cs.set o v) (o + 1) (by rw [List.length_set]; omega)]
    have e1 : (cs.set o v).take (o + 1) = cs.take o ++ [v] := by
      rw [List.take_add_one, List.take_set_of_le (Nat.le_refl _), List.getElem?_set_self (by omega)]
      rfl
    have e2 : (cs.set o v).drop (o + 1 + r.length) = cs.drop (o + (v :: r).length) := by
      rw [List.drop_set_of_lt (by omega), List.length_cons]
      congr 1
      omega
    rw [e1, e2]
    simp
theorem over_len (vs : List Value) : ∀ (cs : List Value) (o : Nat), (over cs o vs).length = cs.length := by
  induction vs with
  | nil => intro cs o; rfl
  | cons v r ih => intro cs o; unfold over; rw [ih, List.length_set]
theorem blk_setCells {g : Nat} {T : TypeId} (vs : List Value) : ∀ {w : World} {cs : List Value} (o : Nat), Blk w g cs.toArray T → Blk (w.setCells g o vs) g (over cs o vs).toArray T := by
  induction vs with
  | nil => intro w cs o h; exact h
  | cons v r ih =>
    intro w cs o h
    refine ih (w := w.setCell ⟨g, o, none⟩ v) (o + 1) ?_
    unfold Blk
    have h2 := heap_setCell_same w g o cs.toArray T v h
    rw [h2]
    simp
theorem below_setCells {B g : Nat} {W : World} (hg : B ≤ g) (vs : List Value) : ∀ {w : World} (o : Nat), Below B W w → Below B W (w.setCells g o vs) := by
  induction vs with
  | nil => intro w o h; exact h
  | cons v r ih => intro w o h; exact ih (o + 1) (h.setCell hg _)
theorem size_setCells {g : Nat} (vs : List Value) : ∀ {w : World} (o : Nat), (w.setCells g o vs).heap.size = w.heap.size := by
  induction vs with
  | nil => intro w o; rfl
  | cons v r ih => intro w o; exact (ih (o + 1)).trans (by simp)

theorem OI.ofBlk {w : World} {B g cap : Nat} {cur : List Value} {R : List Int} (h : Blk w g cur.toArray 3) (hs : cur.length = cap) (hR : R.length ≤ cap) (hx : cap ≤ maxLen) (ht : cur.take R.length = R.map (Value.int .i64)) (hB : B ≤ g) : OI w B (.slice (some ⟨g, 0, none⟩) R.length cap) R := by
  refine ⟨by simp, Or.inr ⟨g, cap, cur.toArray, rfl, hB, h, hR, hx, by simpa using hs, by simpa using ht⟩⟩
theorem OI.open {w : World} {B g c : Nat} {L : List Int} (h : OI w B (.slice (some ⟨g, 0, none⟩) L.length c) L) : ∃ cur : List Value, Blk w g cur.toArray 3 ∧ cur.length = c ∧ L.length ≤ c ∧ c ≤ maxLen ∧ cur.take L.length = L.map (Value.int .i64) ∧ B ≤ g := by
  obtain ⟨h1, h2⟩ := h
  rcases h2 with ⟨h2, _⟩ | ⟨g', cap', cur, e, hb, hg, hc, hx, hs, ht⟩
  · cases h2
  · cases e
    exact ⟨cur.toList, hg, by simpa using hs, hc, hx, by simpa using ht, hb⟩
theorem Blk.at {w : World} {g : Nat} {cur : List Value} {T : TypeId} (h : Blk w g cur.toArray T) (j : Nat) : w.cell? ⟨g, j, none⟩ = cur[j]? := by
  rw [cell_of_row w g j cur.toArray _ (0, 0) h]; simp
theorem take_get {cur : List Value} {L : List Int} (ht : cur.take L.length = L.map (Value.int .i64)) {j : Nat} {v : Value} (hj : (L.map (Value.int .i64))[j]? = some v) : cur[j]? = some v := by
  rw [← ht, List.getElem?_take] at hj
  split at hj
  · exact hj
  · cases hj
theorem blk_shape {w : World} {g : Nat} {cur : Array Value} {T : TypeId} (h : Blk w g cur T) : w.shape? g = some (T, cur.size) := by
  unfold Blk at h
  simp [World.shape?, h]

theorem ins_eq (L : List Int) (i : Nat) (x : Int) : (L.take i ++ x :: L.drop i).map (Value.int .i64) = (L.map (Value.int .i64)).take i ++ (Value.int .i64 x :: (L.map (Value.int .i64)).drop i) := by
  simp [List.map_take, List.map_drop]
theorem ins_len (L : List Int) (i : Nat) (x : Int) (h : i ≤ L.length) : (L.take i ++ x :: L.drop i).length = L.length + 1 := by
  simp; omega

set_option maxHeartbeats 2000000 in
/-- a number put in. -/
theorem insert_own (s : Option Addr) (c B : Nat) (L : List Int) (w W : World) (h : OI w B (.slice s L.length c) L) (hb : Below B W w) (hB : B ≤ w.heap.size) (i : Nat) (hi : i ≤ L.length) (hl : L.length ≤ 1048576) (x : Int) (vb : Nat) (hv : Blk w vb #[.int .i64 x] 3) (hvb : ∀ g, s = some ⟨g, 0, none⟩ → ¬ vb = g) :
    Calls Try.prog 22 #[.slice s L.length c, .int .i64 (i : Int), .slice (some ⟨vb, 0, none⟩) 1 1] w fun e w' => (∃ s' c', e = .returned (.slice s' (L.take i ++ x :: L.drop i).length c') ∧ OI w' B (.slice s' (L.take i ++ x :: L.drop i).length c') (L.take i ++ x :: L.drop i)) ∧ Below B W w' ∧ B ≤ w'.heap.size := by
  have hvs : ∀ (j : Nat) v, [Value.int .i64 x][j]? = some v → w.cell? ⟨vb, 0 + j, none⟩ = some v := by
    intro j v hj
    match j, hj with
    | 0, hj => simp at hj; subst hj; exact hv.cell 0
  have h1v : ∀ v ∈ [Value.int .i64 x], v.oneCell' = true := by intro u hu; simp at hu; subst hu; rfl
  have h1c : ∀ v ∈ L.map (Value.int .i64), v.oneCell' = true := by
    intro u hu
    obtain ⟨y, _, rfl⟩ := List.mem_map.1 hu
    rfl
  have hc := h.cap
  have hin := ins_len L i x hi
  rw [hin]
  have hlm : (L.map (Value.int .i64)).length = L.length := by simp
  have hdn : (L.map (Value.int .i64)).drop L.length = [] := by simp
  have htn : (L.map (Value.int .i64)).take L.length = L.map (Value.int .i64) := List.take_of_length_le (by omega)
  by_cases hroom : L.length + 1 ≤ c
  · -- there is room
    rcases h.form with ⟨e, e2⟩ | ⟨g, cap, e, hg, hgw, hcc⟩
    · simp only [Value.slice.injEq] at e
      omega
    simp only [Value.slice.injEq, true_and] at e
    obtain ⟨rfl, rfl⟩ := e
    obtain ⟨cur, hk, hs, _, hx, ht, _⟩ := h.open
    have hx' : c ≤ 9223372036854775807 := by unfold maxLen at hx; omega
    by_cases he : i = L.length
    · subst he
      have hcall := Any2.slices_Insert_int_end_room Try.laysInsertI g 0 L.length c vb 0 1 1 [Value.int .i64 x] w (by omega) hroom hx' rfl
        (fun j hj => by rw [hk.at]; rw [List.getElem?_eq_getElem (by omega)]; rfl) (fun j hj => hk.frozen _) hvs h1v
      rw [renI_f21] at hcall
      refine hcall.mono ?_
      rintro e w' ⟨rfl, rfl⟩
      have hk' := blk_setCells [Value.int .i64 x] (0 + L.length) hk
      have hO : OI (w.setCells g (0 + L.length) [Value.int .i64 x]) B (.slice (some ⟨g, 0, none⟩) (L.take L.length ++ x :: L.drop L.length).length c) (L.take L.length ++ x :: L.drop L.length) := by
        refine OI.ofBlk hk' (by rw [over_len]; exact hs) (by omega) hx ?_ hg
        rw [hin, ins_eq, over_eq _ _ _ (by simp; omega), Nat.zero_add, ht]
        rw [htn, hdn, ← List.append_assoc]
        rw [List.take_left' (by simp)]
      rw [hin] at hO
      exact ⟨⟨_, _, rfl, hO⟩, below_setCells hg _ _ hb, by rw [size_setCells]; exact hB⟩
    · have hlt : i < L.length := by omega
      have hcall := Any2.slices_Insert_int_shift Try.laysInsertI g 0 L.length c i vb 0 1 1 (L.map (Value.int .i64)) [Value.int .i64 x] w hlt (by omega) hroom hx' (hvb g rfl) hlm rfl
        (fun j v hj => by rw [Nat.zero_add, hk.at]; exact take_get ht hj) (fun j hj => by rw [hk.at, Nat.zero_add, List.getElem?_eq_getElem (show j < cur.length by omega)]; rfl) (fun j hj => hk.frozen _) hvs h1c h1v 3 3 1 cur.toArray.size (blk_shape hv) (blk_shape hk) (by rw [List.size_toArray]; omega) (hv.frozen _) (hv.frozen _)
      rw [renI_f21] at hcall
      refine hcall.mono ?_
      rintro e w' ⟨rfl, rfl⟩
      have hk0 : Blk w.drew g cur.toArray 3 := hk
      have hk1 := blk_setCells ((L.map (Value.int .i64)).drop i) (0 + (i + 1)) hk0
      have hk2 := blk_setCells [Value.int .i64 x] (0 + i) hk1
      have hd : ((L.map (Value.int .i64)).drop i).length = L.length - i := by simp
      have hct : cur.take i = (L.map (Value.int .i64)).take i := by
        rw [← ht, List.take_take]; congr 1; omega
      have hO : OI ((w.drew.setCells g (0 + (i + 1)) ((L.map (Value.int .i64)).drop i)).setCells g (0 + i) [Value.int .i64 x]) B (.slice (some ⟨g, 0, none⟩) (L.take i ++ x :: L.drop i).length c) (L.take i ++ x :: L.drop i) := by
        refine OI.ofBlk hk2 (by rw [over_len, over_len]; exact hs) (by omega) hx ?_ hg
        rw [hin, ins_eq, Nat.zero_add, Nat.zero_add]
        rw [over_eq [Value.int .i64 x] _ i (by rw [over_len]; simp; omega), over_eq _ cur (i + 1) (by omega)]
        have e1 : (cur.take (i + 1) ++ ((L.map (Value.int .i64)).drop i ++ cur.drop (i + 1 + ((L.map (Value.int .i64)).drop i).length))).take i = cur.take i := by
          rw [List.take_append_of_le_length (by simp; omega), List.take_take]; congr 1; omega
        have e2 : (cur.take (i + 1) ++ ((L.map (Value.int .i64)).drop i ++ cur.drop (i + 1 + ((L.map (Value.int .i64)).drop i).length))).drop (i + [Value.int .i64 x].length) = (L.map (Value.int .i64)).drop i ++ cur.drop (i + 1 + ((L.map (Value.int .i64)).drop i).length) := by
          rw [List.drop_left' (by simp; omega)]
        rw [e1, e2, hct]
        have e3 : (L.map (Value.int .i64)).take i ++ ([Value.int .i64 x] ++ ((L.map (Value.int .i64)).drop i ++ cur.drop (i + 1 + ((L.map (Value.int .i64)).drop i).length))) = ((L.map (Value.int .i64)).take i ++ (Value.int .i64 x :: (L.map (Value.int .i64)).drop i)) ++ cur.drop (i + 1 + ((L.map (Value.int .i64)).drop i).length) := by simp
        rw [e3, List.take_left' (by simp; omega)]
      rw [hin] at hO
      exact ⟨⟨_, _, rfl, hO⟩, below_setCells hg _ _ (below_setCells hg _ _ (hb.drew)), by rw [size_setCells, size_setCells]; exact hB⟩
  · -- there is none
    have hcl : c < L.length + 1 := by omega
    have hnil : s = none → L.length = 0 := by
      rintro rfl
      rcases h.form with ⟨e, e2⟩ | ⟨g, cap, e, _⟩
      · rw [e2]; rfl
      · cases e
    have hcs : ∀ a, s = some a → ∀ (j : Nat) v, (L.map (Value.int .i64))[j]? = some v → w.cell? (a.add j) = some v := by
      rintro a rfl j v hj
      rcases h.form with ⟨e, e2⟩ | ⟨g, cap, e, _⟩
      · cases e
      · simp only [Value.slice.injEq, true_and, Option.some.injEq] at e
        obtain ⟨rfl, rfl⟩ := e
        obtain ⟨cur, hk, hs, _, hx, ht, _⟩ := h.open
        rw [Addr.add_lit, Nat.zero_add, hk.at]
        exact take_get ht hj
    obtain ⟨G, hG⟩ : ∃ G, G = grownCap w (L.length + 1) c 3 := ⟨_, rfl⟩
    have hGn : L.length + 1 ≤ G := by rw [hG]; exact grownCap_ge w _ _ _
    have hGm : G ≤ maxLen := by rw [hG]; exact grownCap_le_maxLen w (L.length + 1) c 3 (by unfold maxLen; omega)
    by_cases he : i = L.length
    · subst he
      have hcall := Any2.slices_Insert_int_end_grow Try.laysInsertI s L.length c vb 0 1 1 (L.map (Value.int .i64)) [Value.int .i64 x] w (by omega) hc hcl (by omega) hlm rfl hnil hcs hvs h1v
      rw [renI_f21, renI_t3, ← hG] at hcall
      refine hcall.mono ?_
      rintro e w' ⟨rfl, rfl⟩
      have hk : Blk (w.drew.alloc (.cells ((L.map (Value.int .i64) ++ [Value.int .i64 x]).toArray ++ Builtin.zeroCells (Value.int .i64 0).cells (G - (L.length + 1))) 3)) w.heap.size (L.map (Value.int .i64) ++ [Value.int .i64 x] ++ (Builtin.zeroCells (Value.int .i64 0).cells (G - (L.length + 1))).toList).toArray 3 := by
        have := Blk.new w.drew ((L.map (Value.int .i64) ++ [Value.int .i64 x]).toArray ++ Builtin.zeroCells (Value.int .i64 0).cells (G - (L.length + 1))) 3
        have e : (L.map (Value.int .i64) ++ [Value.int .i64 x] ++ (Builtin.zeroCells (Value.int .i64 0).cells (G - (L.length + 1))).toList).toArray = (L.map (Value.int .i64) ++ [Value.int .i64 x]).toArray ++ Builtin.zeroCells (Value.int .i64 0).cells (G - (L.length + 1)) := by
          apply Array.ext'; simp
        rw [e]; exact this
      have hO := OI.ofBlk (R := L.take L.length ++ x :: L.drop L.length) (B := B) (cap := G) hk (by
        simp only [List.length_append, Array.length_toList, size_zeroCells, hlm]
        show L.length + 1 + (G - (L.length + 1)) * 1 = G
        omega) (by omega) hGm (by
        rw [hin, ins_eq, htn, hdn]
        rw [List.take_left' (by simp)]) hB
      rw [hin] at hO
      exact ⟨⟨_, _, rfl, hO⟩, (hb.drew).alloc hB _, by simp; omega⟩
    · have hlt : i < L.length := by omega
      rcases h.form with ⟨e, e2⟩ | ⟨g, cap, e, hg, hgw, hcc⟩
      · rw [e2] at hlt; simp at hlt
      simp only [Value.slice.injEq, true_and] at e
      obtain ⟨rfl, rfl⟩ := e
      have hcall := Any2.slices_Insert_int_grow Try.laysInsertI g 0 L.length c i vb 0 1 1 (L.map (Value.int .i64)) [Value.int .i64 x] w hlt (by omega) hc hcl (by omega) hlm rfl
        (fun j v hj => by have := hcs _ rfl j v hj; rwa [Addr.add_lit] at this) hvs h1c h1v
      rw [renI_f21, renI_t3, ← hG] at hcall
      refine hcall.mono ?_
      rintro e w' ⟨rfl, rfl⟩
      obtain ⟨cur, hcur⟩ : ∃ cur : List Value, cur = (L.map (Value.int .i64)).take i ++ (Builtin.zeroCells (Value.int .i64 0).cells (L.length + 1 - i)).toList ++ (Builtin.zeroCells (Value.int .i64 0).cells (G - (L.length + 1))).toList := ⟨_, rfl⟩
      have hsz : cur.length = G := by
        rw [hcur]
        simp only [List.length_append, Array.length_toList, size_zeroCells, List.length_take, hlm]
        show min i L.length + (L.length + 1 - i) * 1 + (G - (L.length + 1)) * 1 = G
        omega
      have hci : cur.take i = (L.map (Value.int .i64)).take i := by
        rw [hcur, List.append_assoc, List.take_left' (by simp; omega)]
      have hk : Blk (w.alloc (.cells (((L.map (Value.int .i64)).take i).toArray ++ Builtin.zeroCells (Value.int .i64 0).cells (L.length + 1 - i) ++ Builtin.zeroCells (Value.int .i64 0).cells (G - (L.length + 1))) 3)).drew w.heap.size cur.toArray 3 := by
        have := Blk.new w (((L.map (Value.int .i64)).take i).toArray ++ Builtin.zeroCells (Value.int .i64 0).cells (L.length + 1 - i) ++ Builtin.zeroCells (Value.int .i64 0).cells (G - (L.length + 1))) 3
        have e : cur.toArray = ((L.map (Value.int .i64)).take i).toArray ++ Builtin.zeroCells (Value.int .i64 0).cells (L.length + 1 - i) ++ Builtin.zeroCells (Value.int .i64 0).cells (G - (L.length + 1)) := by
          rw [hcur]; apply Array.ext'; simp
        rw [e]; exact this
      have hk1 := blk_setCells [Value.int .i64 x] i hk
      have hk2 : Blk ((((w.alloc (.cells (((L.map (Value.int .i64)).take i).toArray ++ Builtin.zeroCells (Value.int .i64 0).cells (L.length + 1 - i) ++ Builtin.zeroCells (Value.int .i64 0).cells (G - (L.length + 1))) 3)).drew.setCells w.heap.size i [Value.int .i64 x]).drew).setCells w.heap.size (i + 1) ((L.map (Value.int .i64)).drop i)) w.heap.size (over (over cur i [Value.int .i64 x]) (i + 1) ((L.map (Value.int .i64)).drop i)).toArray 3 := blk_setCells _ _ hk1
      have hO := OI.ofBlk (R := L.take i ++ x :: L.drop i) (B := B) (cap := G) hk2 (by rw [over_len, over_len]; exact hsz) (by omega) hGm (by
        rw [hin, ins_eq, over_eq _ _ (i + 1) (by rw [over_len]; simp; omega), over_eq [Value.int .i64 x] cur i (by simp; omega)]
        have e1 : (cur.take i ++ ([Value.int .i64 x] ++ cur.drop (i + [Value.int .i64 x].length))).take (i + 1) = cur.take i ++ [Value.int .i64 x] := by
          rw [← List.append_assoc, List.take_left' (by simp; omega)]
        rw [e1, hci]
        have e3 : ∀ Z : List Value, (L.map (Value.int .i64)).take i ++ [Value.int .i64 x] ++ ((L.map (Value.int .i64)).drop i ++ Z) = ((L.map (Value.int .i64)).take i ++ (Value.int .i64 x :: (L.map (Value.int .i64)).drop i)) ++ Z := fun Z => by simp
        rw [e3, List.take_left' (by simp; omega)]) hB
      rw [hin] at hO
      refine ⟨⟨_, _, rfl, hO⟩, below_setCells hB _ _ ((below_setCells hB _ _ ((hb.alloc hB _).drew)).drew), ?_⟩
      rw [size_setCells]
      show B ≤ (World.setCells _ _ _ _).heap.size
      rw [size_setCells]
      show B ≤ (w.alloc _).heap.size
      simp; omega

/-- a row of one's own, written over. -/
theorem putCells_head (d : Array Int) (c : Array Value) (h : d.size ≤ c.size) : (Sort.putCells (Value.int .i64) 0 d c).toList.take d.size = d.toList.map (Value.int .i64) := by
  apply List.ext_getElem?
  intro j
  rw [List.getElem?_take]
  by_cases hj : j < d.size
  · rw [if_pos hj]
    have hc : j < c.size := by omega
    simp [Sort.putCells, hj, hc]
  · rw [if_neg hj]
    symm
    rw [List.getElem?_eq_none_iff]
    simp; omega
theorem OI.rowed {w : World} {B g cap n : Nat} {L : List Int} (h : OI w B (.slice (some ⟨g, 0, none⟩) L.length cap) L) (d : List Int) (hd : d.length = L.length) (m : Nat) (hm : m ≤ d.length) :
    OI (Sort.putRow (Value.int .i64) (Sort.ahead w n) g 0 d.toArray) B (.slice (some ⟨g, 0, none⟩) m cap) (d.take m) := by
  have hlen : (d.take m).length = m := by rw [List.length_take]; omega
  obtain ⟨h1, h2⟩ := h
  rcases h2 with ⟨h2, _⟩ | ⟨g', cap', cur, e, hb, hg, hc, hx, hs, ht⟩
  · cases h2
  · cases e
    unfold OI
    rw [hlen]
    refine ⟨by simp; omega, Or.inr ⟨g, cap, Sort.putCells (Value.int .i64) 0 d.toArray cur, rfl, hb, ?_, by omega, hx, by simpa [Sort.putCells] using hs, ?_⟩⟩
    · simp only [Sort.putRow, Sort.mapBlock, Sort.heap_ahead, Array.getElem?_modify, if_true, hg]
      rfl
    · have := putCells_head d.toArray cur (by simp; omega)
      have h5 := congrArg (List.take (m * 1)) this
      rw [List.take_take] at h5
      rw [show min (m * 1) d.toArray.size = m * 1 by simp; omega] at h5
      rw [h5]
      simp [List.map_take]
theorem below_rowed {w W : World} {B g n : Nat} (h : Below B W w) (hg : B ≤ g) (hB : B ≤ w.heap.size) (d : Array Int) : Below B W (Sort.putRow (Value.int .i64) (Sort.ahead w n) g 0 d) := by
  refine h.trans ⟨rfl, rfl, rfl, by simp, fun k hk => ?_⟩
  simp only [Sort.putRow, Sort.mapBlock, Sort.heap_ahead, Array.getElem?_modify]
  rw [if_neg (by omega)]
theorem arr_get {M : List Int} {j : Nat} (h : j < M.length) : M.toArray[j]! = M[j] := by simp [h]
theorem OI.holds {w : World} {B g cap : Nat} {L : List Int} (h : OI w B (.slice (some ⟨g, 0, none⟩) L.length cap) L) : Sort.Holds (Value.int .i64) w g 0 L.toArray := by
  obtain ⟨h1, h2⟩ := h
  rcases h2 with ⟨h2, _⟩ | ⟨g', cap', cur, e, hb, hg, hc, hx, hs, ht⟩
  · cases h2
  · cases e
    intro j hj
    have hj : j < L.length := by simpa using hj
    rw [Nat.zero_add]
    refine ⟨?_, frozen_of_row w g j cur _ hg⟩
    rw [cell_of_row w g j cur _ (0, 0) hg, arr_get hj]
    have := congrArg (fun l => l[j]?) ht
    simp only [List.getElem?_take, List.getElem?_map] at this
    rw [if_pos (by omega)] at this
    simpa [hj] using this

/-- a number taken out. -/
theorem delete_own (s : Option Addr) (c B : Nat) (L : List Int) (w W : World) (h : OI w B (.slice s L.length c) L) (hb : Below B W w) (hB : B ≤ w.heap.size) (i j : Nat) (hi : i < L.length) (hj : j = i + 1) :
    Calls Try.prog 23 #[.slice s L.length c, .int .i64 (i : Int), .int .i64 (j : Int)] w fun e w' => (∃ s' c', e = .returned (.slice s' (L.take i ++ L.drop (i + 1)).length c') ∧ OI w' B (.slice s' (L.take i ++ L.drop (i + 1)).length c') (L.take i ++ L.drop (i + 1))) ∧ Below B W w' ∧ B ≤ w'.heap.size := by
  subst hj
  rcases h.form with ⟨e, rfl⟩ | ⟨g, cap, e, hg, hgw, hc⟩
  · simp at hi
  simp only [Value.slice.injEq, true_and] at e
  obtain ⟨rfl, rfl⟩ := e
  obtain ⟨cur, hk, hs, _, hx, ht, _⟩ := h.open
  have hcall := Any.slices_Delete_int Try.laysDeleteI g 0 c i (i + 1) L w h.holds hc (by unfold maxLen at hx; omega) (by omega) (by omega)
  rw [renD_f23] at hcall
  refine hcall.mono ?_
  rintro e w' ⟨rfl, q, rfl⟩
  have hd : (L.take i ++ L.drop (i + 1)).length = L.length - 1 := by simp; omega
  have := h.rowed (n := q) (L.take i ++ L.drop (i + 1) ++ List.replicate (i + 1 - i) 0) (by simp; omega) (L.take i ++ L.drop (i + 1)).length (by simp)
  rw [List.take_left] at this
  rw [show L.length - (i + 1 - i) = (L.take i ++ L.drop (i + 1)).length by omega]
  exact ⟨⟨_, _, rfl, this⟩, below_rowed hb hg hB _, by simp; omega⟩
end Go.Proofs.Ytkbgklnkagpchaa
