import Derived.Test.YtpgcianhppihiaaDoorG50
import Derived.Laws.CopyOwn
namespace Go.Proofs.YtpgcianhppihiaaDoor
open Go.RowKit
set_option linter.unusedVariables false
set_option linter.unusedSimpArgs false

/-- rows ahead of k are done, row k as far as j. -/
def ptr (F Q : Nat → Nat → Bool) (k j : Nat) (i : Nat) : Nat → Bool := if i < k then thr F Q i else if i = k then (fun y => (List.range j).any fun x => F k x && Q x y) else fun _ => false
theorem ptr_at (F Q : Nat → Nat → Bool) (k j : Nat) : ptr F Q k j k = fun y => (List.range j).any fun x => F k x && Q x y := by simp [ptr]
theorem ptr_zero (F Q : Nat → Nat → Bool) : lk (fun _ _ => false) = lk (ptr F Q 0 0) := lk_congr fun i j _ _ => by
  unfold ptr; simp
theorem ptr_hit (F Q : Nat → Nat → Bool) (k j : Nat) (h : F k j = true) : lk (fun i => if i = k then (fun y => ptr F Q k j k y || Q j y) else ptr F Q k j i) = lk (ptr F Q k (j + 1)) := lk_congr fun i y _ _ => by
  by_cases e : i = k
  · subst e
    rw [if_pos rfl, ptr_at, ptr_at, List.range_succ]
    simp [List.any_append, h]
  · rw [if_neg e]; simp [ptr, e]
theorem ptr_miss (F Q : Nat → Nat → Bool) (k j : Nat) (h : F k j = false) : lk (ptr F Q k j) = lk (ptr F Q k (j + 1)) := lk_congr fun i y _ _ => by
  by_cases e : i = k
  · subst e
    rw [ptr_at, ptr_at, List.range_succ]
    simp [List.any_append, h]
  · simp [ptr, e]
theorem ptr_next (F Q : Nat → Nat → Bool) (k : Nat) : lk (ptr F Q k 16) = lk (ptr F Q (k + 1) 0) := lk_congr fun i y _ _ => by
  unfold ptr
  by_cases e : i < k
  · simp [e, show i < k + 1 by omega]
  · by_cases e2 : i = k
    · subst e2; simp [thr]
    · simp [e, e2, show ¬ i < k + 1 by omega]
theorem ptr_all (F Q : Nat → Nat → Bool) : lk (ptr F Q 16 0) = lk (thr F Q) := lk_congr fun i y hi _ => by simp [ptr, hi]

set_option maxHeartbeats 4000000 in
theorem through_any (F Q : Nat → Nat → Bool) (w : World) :
    Calls Tryd.prog 36 #[.agg (lk F), .agg (lk Q)] w fun e w' => e = .returned (.agg (lk (thr F Q))) ∧ Below w.heap.size w w' := by
  have hal := alloc_old
  have haf := alloc_oldf
  go_enter Tryd.func36, Tryd.ntmps36
  go_wp2_with fail
  rw [← lk_zero]
  have b0 : Hid (Blk ((((w.alloc (.cells (lk F) 51)).alloc (.cells (lk Q) 51)).alloc (.cells (lk fun _ _ => false) 51)).alloc (.cells (lk fun _ _ => false) 51)) w.heap.size (lk F) 51) := (((Blk.new w _ _).alloc _).alloc _).alloc _
  have b1 : Hid (Blk ((((w.alloc (.cells (lk F) 51)).alloc (.cells (lk Q) 51)).alloc (.cells (lk fun _ _ => false) 51)).alloc (.cells (lk fun _ _ => false) 51)) (w.heap.size + 1) (lk Q) 51) := ((Blk.new' (w.alloc (.cells (lk F) 51)) _ _ (by simp)).alloc _).alloc _
  have b2 : Hid (Blk ((((w.alloc (.cells (lk F) 51)).alloc (.cells (lk Q) 51)).alloc (.cells (lk fun _ _ => false) 51)).alloc (.cells (lk fun _ _ => false) 51)) (w.heap.size + 1 + 1) (lk fun _ _ => false) 51) := (Blk.new' ((w.alloc (.cells (lk F) 51)).alloc (.cells (lk Q) 51)) _ _ (by simp)).alloc _
  have b3 : Hid (Blk ((((w.alloc (.cells (lk F) 51)).alloc (.cells (lk Q) 51)).alloc (.cells (lk fun _ _ => false) 51)).alloc (.cells (lk fun _ _ => false) 51)) (w.heap.size + 1 + 1 + 1) (lk (ptr F Q 0 0)) 51) := by
    rw [← ptr_zero]; exact Blk.new' (((w.alloc (.cells (lk F) 51)).alloc (.cells (lk Q) 51)).alloc (.cells (lk fun _ _ => false) 51)) _ _ (by simp)
  have hb : Hid (Below w.heap.size w ((((w.alloc (.cells (lk F) 51)).alloc (.cells (lk Q) 51)).alloc (.cells (lk fun _ _ => false) 51)).alloc (.cells (lk fun _ _ => false) 51))) := bl_alloc (bl_alloc (bl_alloc (bl_alloc (Below.refl _ _) _) _) _) _
  generalize ((((w.alloc (.cells (lk F) 51)).alloc (.cells (lk Q) 51)).alloc (.cells (lk fun _ _ => false) 51)).alloc (.cells (lk fun _ _ => false) 51)) = X at b0 b1 b2 b3 hb ⊢
  go_loopw [8] (fun i wr => ∃ k : Nat, k ≤ 16 ∧ i = .int .i64 k ∧ Hid (Blk wr (w.heap.size + 1 + 1 + 1) (lk (ptr F Q k 0)) 51) ∧ Hid (Blk wr w.heap.size (lk F) 51) ∧ Hid (Blk wr (w.heap.size + 1) (lk Q) 51) ∧ Hid (Blk wr (w.heap.size + 1 + 1) (lk fun _ _ => false) 51) ∧ Hid (Below w.heap.size w wr)) (fun i _ => 16 - (intOf i).toNat)
  case atStart => exact ⟨0, Nat.zero_le _, rfl, b3, b0, b1, b2, hb⟩
  case round =>
    clear b0 b1 b2 b3 hb
    obtain ⟨k, hk, rfl, b3, b0, b1, b2, hb⟩ := hrel
    by_cases hlt : k < 16
    · have t0 : decide ((k : Int) < 16) = true := by simp; omega
      go_wp2_with fail
      go_loopw [11] (fun i wr => ∃ j : Nat, j ≤ 16 ∧ i = .int .i64 j ∧ Hid (Blk wr (w.heap.size + 1 + 1 + 1) (lk (ptr F Q k j)) 51) ∧ Hid (Blk wr w.heap.size (lk F) 51) ∧ Hid (Blk wr (w.heap.size + 1) (lk Q) 51) ∧ Hid (Blk wr (w.heap.size + 1 + 1) (lk fun _ _ => false) 51) ∧ Hid (Below w.heap.size w wr)) (fun i _ => 16 - (intOf i).toNat)
      case atStart => exact ⟨0, Nat.zero_le _, rfl, b3, b0, b1, b2, hb⟩
      case round =>
        clear b0 b1 b2 b3 hb
        obtain ⟨j, hj, rfl, b3, b0, b1, b2, hb⟩ := hrel
        by_cases hjl : j < 16
        · have c0 := (b0.out.cell k).trans (lk_cell _ hlt)
          have c1 := (b1.out.cell j).trans (lk_cell _ hjl)
          have c3 := (b3.out.cell k).trans (lk_cell _ hlt)
          have f3 := b3.out.frozen k
          have t2 : (k : Int) < 16 := by omega
          have t3 : (j : Int) < 16 := by omega
          cases hq : F k j
          · have B3 : Hid (Blk wr (w.heap.size + 1 + 1 + 1) (lk (ptr F Q k (j + 1))) 51) := by rw [← ptr_miss F Q k j hq]; exact b3
            go_wp2_with (go_at_call 34; refine (has_any _ _ _ hjl).mono ?_; rintro e w' ⟨rfl, hq'⟩; subst hq'; rw [hq])
            go_roundw
            case rel => exact ⟨j + 1, by omega, by go_num, B3, b0, b1, b2, hb⟩
            case measure => simp [intOf]; omega
          · have g1 := or16 (ptr F Q k j k) (Q j)
            have B3 : Hid (Blk (wr.setCell ⟨w.heap.size + 1 + 1 + 1, k, none⟩ (.int .u16 (nb fun y => ptr F Q k j k y || Q j y))).drew (w.heap.size + 1 + 1 + 1) (lk (ptr F Q k (j + 1))) 51) := by
              have := b3.out.lkSet hlt (fun y => ptr F Q k j k y || Q j y)
              rw [ptr_hit F Q k j hq] at this
              exact this
            have B0 : Hid (Blk (wr.setCell ⟨w.heap.size + 1 + 1 + 1, k, none⟩ (.int .u16 (nb fun y => ptr F Q k j k y || Q j y))).drew w.heap.size (lk F) 51) := b0.out.other (by omega) _ _
            have B1 : Hid (Blk (wr.setCell ⟨w.heap.size + 1 + 1 + 1, k, none⟩ (.int .u16 (nb fun y => ptr F Q k j k y || Q j y))).drew (w.heap.size + 1) (lk Q) 51) := b1.out.other (by omega) _ _
            have B2 : Hid (Blk (wr.setCell ⟨w.heap.size + 1 + 1 + 1, k, none⟩ (.int .u16 (nb fun y => ptr F Q k j k y || Q j y))).drew (w.heap.size + 1 + 1) (lk fun _ _ => false) 51) := b2.out.other (by omega) _ _
            have HB : Hid (Below w.heap.size w (wr.setCell ⟨w.heap.size + 1 + 1 + 1, k, none⟩ (.int .u16 (nb fun y => ptr F Q k j k y || Q j y))).drew) := bl_drew (bl_setCell hb.out (by simp; omega) _)
            go_wp2_with (go_at_call 34; refine (has_any _ _ _ hjl).mono ?_; rintro e w' ⟨rfl, hq'⟩; subst hq'; rw [hq])
            go_region
            all_goals
              go_wp2_with fail
              go_roundw
              case rel => exact ⟨j + 1, by omega, by go_num, B3, B0, B1, B2, HB⟩
              case measure => simp [intOf]; omega
        · have hj16 : j = 16 := by omega
          subst hj16
          have B3 : Hid (Blk wr (w.heap.size + 1 + 1 + 1) (lk (ptr F Q (k + 1) 0)) 51) := by rw [← ptr_next]; exact b3
          go_wp2_with fail
          go_roundw
          case rel => exact ⟨k + 1, by omega, by go_num, B3, b0, b1, b2, hb⟩
          case measure => simp [intOf]; omega
    · have hk16 : k = 16 := by omega
      subst hk16
      have b3 : Hid (Blk wr (w.heap.size + 1 + 1 + 1) (lk (thr F Q)) 51) := by rw [← ptr_all]; exact b3
      have B0 : Blk (wr.setRow (w.heap.size + 1 + 1) (lk (thr F Q))) (w.heap.size + 1 + 1) (lk (thr F Q)) 51 := setRow_heap _ _ _ _ _ _ b2.out
      have LC : Below w.heap.size w (wr.setRow (w.heap.size + 1 + 1) (lk (thr F Q))) := below_setRow hb.out (by omega) _
      go_wp2_with (first
        | refine wpList_load_row rfl 51 (.tmp 5) rfl (w.heap.size + 1 + 1 + 1) rfl _ _ _ _ b3.out Tryd.underlying51 rfl (by rw [Tryd.infoLk, lk_size]) ?_
        | refine wpList_store_row rfl 51 (.tmp 4) (.tmp 29) rfl (w.heap.size + 1 + 1) (lk (thr F Q)) rfl rfl _ _ b2.out (by rw [Tryd.infoLk, lk_size]) (by rw [lk_size, lk_size]) (lk_one _) ?_)
      have r0 := load_lk _ _ _ B0
      refine bodyPost_ret (v := .agg (lk (thr F Q))) (by simp [results, Tryd.results36, asAddr, Act.put, r0]) rfl ⟨rfl, LC⟩

/-- the lists of links of the call's own: from where 1, 2 .. edges lead to a number. -/
def bkCells (L : List (Int × Int)) (D : Nat) : List Value := (List.range D).flatMap fun d => (lk (bk L d)).toList
theorem bkCells_len (L : List (Int × Int)) : ∀ D, (bkCells L D).length = D * 16
  | 0 => by simp [bkCells]
  | D + 1 => by
    have := bkCells_len L D
    unfold bkCells at this ⊢
    rw [List.range_succ, List.flatMap_append, List.length_append, this]
    simp [lk_size]; omega
theorem bkCells_succ (L : List (Int × Int)) (D : Nat) : bkCells L (D + 1) = bkCells L D ++ (lk (bk L D)).toList := by
  unfold bkCells; rw [List.range_succ, List.flatMap_append]; simp
theorem bkCells_get (L : List (Int × Int)) {d i : Nat} (hi : i < 16) : ∀ D, d < D → (bkCells L D)[d * 16 + i]? = some (.int .u16 (nb (bk L d i)))
  | D + 1, h => by
    rw [bkCells_succ]
    by_cases e : d < D
    · rw [List.getElem?_append_left (by rw [bkCells_len]; omega), bkCells_get L hi D e]
    · have : d = D := by omega
      subst this
      rw [List.getElem?_append_right (by rw [bkCells_len]; omega), bkCells_len, show d * 16 + i - d * 16 = i by omega]
      have := lk_cell (bk L d) hi
      simpa using this
def BK (w : World) (B : Nat) (v : Value) (L : List (Int × Int)) (D : Nat) : Prop := w.ownsRow B 51 16 v D (bkCells L D)
theorem BK.later {w w' : World} {B D : Nat} {v : Value} {L : List (Int × Int)} (h : BK w B v L D) (hb : Below w.heap.size w w') : BK w' B v L D := by
  refine World.ownsRow.kept h (grown_of_below hb) ?_
  cases v.ownBlock with
  | none => exact Or.inl rfl
  | some b => exact Or.inr (by simp)
theorem BK.form {w : World} {B D : Nat} {v : Value} {L : List (Int × Int)} (h : BK w B v L D) (hD : 0 < D) : ∃ g cap, v = .slice (some ⟨g, 0, none⟩) D cap ∧ g < w.heap.size ∧ ∀ d i, d < D → i < 16 → w.cell? ⟨g, d * 16 + i, none⟩ = some (.int .u16 (nb (bk L d i))) := by
  rcases h.2 with ⟨_, h'⟩ | ⟨g, cap, cur, rfl, hb, hg, r⟩
  · omega
  · have hlt := World.ownsRow.lt h g rfl
    refine ⟨g, cap, rfl, hlt.2, fun d i hd hi => ?_⟩
    rw [World.ownsRow.cellAt h (d * 16 + i) (by omega), bkCells_get L hi D hd]
end Go.Proofs.YtpgcianhppihiaaDoor
