import Derived.Test.YtigllpegaljkmaaDoorG6j
import Derived.Test.YtigllpegaljkmaaDoorSkj
import Derived.Laws.CopyOwn
namespace Go.Proofs.YtigllpegaljkmaaDoor
open Go.RowKit
set_option linter.unusedVariables false
set_option linter.unusedSimpArgs false

/-- the edges as a relation. -/
def eR (L : List (Int × Int)) (i j : Nat) : Bool := decide (((i : Int), (j : Int)) ∈ L)
def eF (L : List (Int × Int)) (i j : Nat) : Bool := eR L j i
/-- both ends of each edge are below 16. -/
def In16 (L : List (Int × Int)) : Prop := ∀ e ∈ L, (0 ≤ e.1 ∧ e.1 < 16) ∧ 0 ≤ e.2 ∧ e.2 < 16
theorem eR_snoc (L : List (Int × Int)) (a b : Nat) (i j : Nat) : eR (L ++ [((a : Int), (b : Int))]) i j = (eR L i j || (decide (i = a) && decide (j = b))) := by
  unfold eR
  rw [Bool.eq_iff_iff]
  simp only [decide_eq_true_eq, List.mem_append, List.mem_singleton, Bool.or_eq_true, Bool.and_eq_true, Prod.mk.injEq]
  constructor
  · rintro (h | h)
    · exact Or.inl h
    · exact Or.inr (by omega)
  · rintro (h | h)
    · exact Or.inl h
    · exact Or.inr (by omega)
theorem eR_lk (L : List (Int × Int)) (a b : Nat) : lk (fun i => if i = a then (fun j => eR L a j || decide (j = b)) else eR L i) = lk (eR (L ++ [((a : Int), (b : Int))])) := by
  refine lk_congr fun i j _ _ => ?_
  rw [eR_snoc]
  by_cases e : i = a
  · subst e; simp
  · simp [e]
theorem eF_lk (L : List (Int × Int)) (a b : Nat) : lk (fun i => if i = b then (fun j => eF L b j || decide (j = a)) else eF L i) = lk (eF (L ++ [((a : Int), (b : Int))])) := by
  refine lk_congr fun i j _ _ => ?_
  unfold eF
  rw [eR_snoc]
  by_cases e : i = b
  · subst e; simp
  · simp [e]

theorem four_blks (w : World) (c : Array Value) (t : TypeId) : Blk ((((w.alloc (.cells c t)).alloc (.cells c t)).alloc (.cells c t)).alloc (.cells c t)) w.heap.size c t ∧ Blk ((((w.alloc (.cells c t)).alloc (.cells c t)).alloc (.cells c t)).alloc (.cells c t)) (w.heap.size + 1) c t ∧ Blk ((((w.alloc (.cells c t)).alloc (.cells c t)).alloc (.cells c t)).alloc (.cells c t)) (w.heap.size + 1 + 1) c t ∧ Blk ((((w.alloc (.cells c t)).alloc (.cells c t)).alloc (.cells c t)).alloc (.cells c t)) (w.heap.size + 1 + 1 + 1) c t ∧ Below w.heap.size w ((((w.alloc (.cells c t)).alloc (.cells c t)).alloc (.cells c t)).alloc (.cells c t)) := by
  refine ⟨(((Blk.new w _ _).alloc _).alloc _).alloc _, ((Blk.new' (w.alloc (.cells c t)) _ _ (by simp)).alloc _).alloc _, (Blk.new' ((w.alloc (.cells c t)).alloc (.cells c t)) _ _ (by simp)).alloc _, Blk.new' (((w.alloc (.cells c t)).alloc (.cells c t)).alloc (.cells c t)) _ _ (by simp), ?_⟩
  (repeat (first | with_reducible exact Below.refl _ _ | with_reducible refine bl_alloc ?_ _ | with_reducible refine bl_drewN ?_ _ | with_reducible refine bl_drew ?_ | with_reducible refine bl_setCell ?_ (by first | exact Nat.le_refl _ | (dsimp only; omega) | (simp <;> omega)) _ | with_reducible refine bl_trans ?_ (by with_reducible assumption)))

theorem run_load {a : Act} {o : Oper} {x : Operand} {t : TypeId} {p : Addr} {v : Value} {w : World} (ho : o.op = Op.load t x) (hx : a.eval x = .pointer (some p)) (h : (loadVar t p).run Tryd.prog w = .ok v w) : (execOp a.eval o).run Tryd.prog w = .ok (.value v) w := by
  unfold execOp
  simp only [ho, hx, Instr.loadAt, Instr.sureAddr, Sem.run_bind, Sem.run_pure, Result.andThen_ok, h]

set_option maxHeartbeats 4000000 in
theorem linksOf_any (s : Option Addr) (c : Nat) (L : List (Int × Int)) (w : World) (hL : Eds w s L) (hl : L.length ≤ 1048576) (hin : In16 L) :
    Calls Tryd.prog 35 #[.slice s L.length c] w fun e w' => e = .returned (.tuple #[.agg (lk (eR L)), .agg (lk (eF L))]) ∧ Below w.heap.size w w' := by
  have hal := alloc_old
  have haf := alloc_oldf
  have HL : Hid (Eds w s L) := hL
  have HI : Hid (In16 L) := hin
  clear hL hin
  go_enter Tryd.func35, Tryd.ntmps35
  go_wp2_with fail
  rw [← lk_zero]
  obtain ⟨b0, b1, b2, b3, LX⟩ := four_blks w (lk fun _ _ => false) 49
  generalize ((((w.alloc (.cells (lk fun _ _ => false) 49)).alloc (.cells (lk fun _ _ => false) 49)).alloc (.cells (lk fun _ _ => false) 49)).alloc (.cells (lk fun _ _ => false) 49)) = X at b0 b1 b2 b3 LX ⊢
  go_loopw [10] (fun i wr => ∃ k : Nat, k ≤ L.length ∧ i = .int .i64 k ∧ Hid (Blk wr w.heap.size (lk fun _ _ => false) 49) ∧ Hid (Blk wr (w.heap.size + 1) (lk fun _ _ => false) 49) ∧ Hid (Blk wr (w.heap.size + 1 + 1) (lk (eR (L.take k))) 49) ∧ Hid (Blk wr (w.heap.size + 1 + 1 + 1) (lk (eF (L.take k))) 49) ∧ Hid (Below w.heap.size w wr)) (fun i _ => L.length - (intOf i).toNat)
  case atStart => exact ⟨0, Nat.zero_le _, rfl, b0, b1, b2, b3, LX⟩
  case round =>
    clear b0 b1 b2 b3 LX
    obtain ⟨k, hk, rfl, b0, b1, b2, b3, hb⟩ := hrel
    by_cases hlt : k < L.length
    · obtain ⟨b, o, rfl, hp, e1, e2⟩ := (HL.out.later hb.out).get hlt
      obtain ⟨⟨p1, p2⟩, hx⟩ : ∃ x, Hid (L[k]?.getD (0, 0) = x) := ⟨_, rfl⟩
      have hi := HI.out _ (memE hlt)
      rw [hx.out] at e1 e2 hi
      obtain ⟨⟨i1, i2⟩, i3, i4⟩ := hi
      obtain ⟨q1, rfl⟩ : ∃ q : Nat, p1 = (q : Int) := ⟨p1.toNat, by simp at i1; omega⟩
      obtain ⟨q2, rfl⟩ : ∃ q : Nat, p2 = (q : Int) := ⟨p2.toNat, by simp at i3; omega⟩
      have h1 : q1 < 16 := by simp at i2; omega
      have h2 : q2 < 16 := by simp at i4; omega
      clear i1 i2 i3 i4
      have HS : Hid (L.take (k + 1) = L.take k ++ [((q1 : Int), (q2 : Int))]) := by rw [← hx.out]; exact takeE_succ L k hlt
      generalize L.take k = M at b2 b3 HS
      have g1 := or16 (eR M q1) (fun j => decide (j = q2))
      have g2 := or16 (eF M q2) (fun j => decide (j = q1))
      go_wp2_with fail
      have L1 : Hid (Below w.heap.size w (wr.alloc (.cells #[.int .i64 q1, .int .i64 q2] 45))) := bl_alloc hb.out _
      have x0 := Blk.new wr #[.int .i64 q1, .int .i64 q2] 45
      have hwr : Hid (w.heap.size + 1 + 1 + 1 < wr.heap.size) := b3.out.lt
      have b0 : Hid (Blk (wr.alloc (.cells #[.int .i64 q1, .int .i64 q2] 45)) _ _ _) := b0.out.alloc _
      have b1 : Hid (Blk (wr.alloc (.cells #[.int .i64 q1, .int .i64 q2] 45)) _ _ _) := b1.out.alloc _
      have b2 : Hid (Blk (wr.alloc (.cells #[.int .i64 q1, .int .i64 q2] 45)) _ _ _) := b2.out.alloc _
      have b3 : Hid (Blk (wr.alloc (.cells #[.int .i64 q1, .int .i64 q2] 45)) _ _ _) := b3.out.alloc _
      generalize wr.alloc (.cells #[.int .i64 q1, .int .i64 q2] 45) = X1 at L1 x0 b0 b1 b2 b3 ⊢
      generalize hgn : wr.heap.size = gn at x0 hwr ⊢
      clear hgn hb HL e1 e2
      obtain ⟨y0, y1, y2⟩ := x0.two
      have k1 := (b2.out.cell q1).trans (lk_cell (eR M) h1)
      have f1 := b2.out.frozen q1
      have h1' : (q1 : Int) < 16 := by omega
      have h2' : (q2 : Int) < 16 := by omega
      go_cut [15] (fun _ wx => wx = (X1.setCell ⟨w.heap.size + 1 + 1, q1, none⟩ (.int .u16 (nb fun i => eR M q1 i || decide (i = q2)))).drew)
      case first =>
        go_region_with (go_at_call 21; refine (bitOf_any _ _ h2).mono ?_; rintro e w' ⟨rfl, rfl⟩)
        all_goals
          go_wp2_with fail
          go_meet
          rfl
      case rest =>
      subst hcut
      clear k1 f1 y0 y1 y2 g1
      have hwr' := hwr.out
      have b0 : Hid (Blk (X1.setCell ⟨w.heap.size + 1 + 1, q1, none⟩ (.int .u16 (nb fun i => eR M q1 i || decide (i = q2)))).drew _ _ _) := b0.out.other (by omega) _ _
      have b1 : Hid (Blk (X1.setCell ⟨w.heap.size + 1 + 1, q1, none⟩ (.int .u16 (nb fun i => eR M q1 i || decide (i = q2)))).drew _ _ _) := b1.out.other (by omega) _ _
      have b2 : Hid (Blk (X1.setCell ⟨w.heap.size + 1 + 1, q1, none⟩ (.int .u16 (nb fun i => eR M q1 i || decide (i = q2)))).drew (w.heap.size + 1 + 1) (lk (eR (M ++ [((q1 : Int), (q2 : Int))]))) 49) := by
        have := b2.out.lkSet h1 (fun i => eR M q1 i || decide (i = q2))
        rw [eR_lk] at this
        exact this
      have b3 : Hid (Blk (X1.setCell ⟨w.heap.size + 1 + 1, q1, none⟩ (.int .u16 (nb fun i => eR M q1 i || decide (i = q2)))).drew _ _ _) := b3.out.other (by omega) _ _
      have x0 : Blk (X1.setCell ⟨w.heap.size + 1 + 1, q1, none⟩ (.int .u16 (nb fun i => eR M q1 i || decide (i = q2)))).drew _ _ _ := x0.other (by omega) _ _
      have L1 : Hid (Below w.heap.size w (X1.setCell ⟨w.heap.size + 1 + 1, q1, none⟩ (.int .u16 (nb fun i => eR M q1 i || decide (i = q2)))).drew) := bl_drew (bl_setCell L1.out (by simp; omega) _)
      generalize (X1.setCell ⟨w.heap.size + 1 + 1, q1, none⟩ (.int .u16 (nb fun i => eR M q1 i || decide (i = q2)))).drew = X2 at L1 x0 b0 b1 b2 b3 ⊢
      obtain ⟨y0, y1, y2⟩ := x0.two
      have k1 := (b3.out.cell q2).trans (lk_cell (eF M) h2)
      have f1 := b3.out.frozen q2
      clear hwr'
      go_wp2_with fail
      have b0 : Hid (Blk (X2.setCell ⟨w.heap.size + 1 + 1 + 1, q2, none⟩ (.int .u16 (nb fun i => eF M q2 i || decide (i = q1)))).drew _ _ _) := b0.out.other (by omega) _ _
      have b1 : Hid (Blk (X2.setCell ⟨w.heap.size + 1 + 1 + 1, q2, none⟩ (.int .u16 (nb fun i => eF M q2 i || decide (i = q1)))).drew _ _ _) := b1.out.other (by omega) _ _
      have b2 : Hid (Blk (X2.setCell ⟨w.heap.size + 1 + 1 + 1, q2, none⟩ (.int .u16 (nb fun i => eF M q2 i || decide (i = q1)))).drew _ _ _) := b2.out.other (by omega) _ _
      have b3 : Hid (Blk (X2.setCell ⟨w.heap.size + 1 + 1 + 1, q2, none⟩ (.int .u16 (nb fun i => eF M q2 i || decide (i = q1)))).drew (w.heap.size + 1 + 1 + 1) (lk (eF (M ++ [((q1 : Int), (q2 : Int))]))) 49) := by
        have := b3.out.lkSet h2 (fun i => eF M q2 i || decide (i = q1))
        rw [eF_lk] at this
        exact this
      have L1 : Hid (Below w.heap.size w (X2.setCell ⟨w.heap.size + 1 + 1 + 1, q2, none⟩ (.int .u16 (nb fun i => eF M q2 i || decide (i = q1)))).drew) := bl_drew (bl_setCell L1.out (by simp; omega) _)
      rw [← HS.out] at b2 b3
      clear x0 HS
      go_region_with (go_at_call 21; refine (bitOf_any _ _ h1).mono ?_; rintro e w' ⟨rfl, rfl⟩)
      all_goals
        clear k1 f1 y0 y1 y2 g2
        generalize (X2.setCell ⟨w.heap.size + 1 + 1 + 1, q2, none⟩ (.int .u16 (nb fun i => eF M q2 i || decide (i = q1)))).drew = X3 at L1 b0 b1 b2 b3 ⊢
        go_wp2_with fail
        go_roundw
        case rel => exact ⟨k + 1, by omega, by go_num, b0, b1, b2, b3, L1⟩
        case measure => simp [intOf]; omega
    · have hkn : L.take k = L := List.take_of_length_le (by omega)
      rw [hkn] at b2 b3
      clear hkn
      have B1 : Blk (wr.setRow w.heap.size (lk (eR L))) (w.heap.size + 1) (lk fun _ _ => false) 49 := (setRow_other _ _ _ _ (by omega)).trans b1.out
      have B3 : Blk (wr.setRow w.heap.size (lk (eR L))) (w.heap.size + 1 + 1 + 1) (lk (eF L)) 49 := (setRow_other _ _ _ _ (by omega)).trans b3.out
      have B2 : Blk (wr.setRow w.heap.size (lk (eR L))) (w.heap.size + 1 + 1) (lk (eR L)) 49 := (setRow_other _ _ _ _ (by omega)).trans b2.out
      have B0 : Blk (wr.setRow w.heap.size (lk (eR L))) w.heap.size (lk (eR L)) 49 := setRow_heap _ _ _ _ _ _ b0.out
      have C0 : Blk ((wr.setRow w.heap.size (lk (eR L))).setRow (w.heap.size + 1) (lk (eF L))) w.heap.size (lk (eR L)) 49 := (setRow_other _ _ _ _ (by omega)).trans B0
      have C1 : Blk ((wr.setRow w.heap.size (lk (eR L))).setRow (w.heap.size + 1) (lk (eF L))) (w.heap.size + 1) (lk (eF L)) 49 := setRow_heap _ _ _ _ _ _ B1
      have C2 : Blk ((wr.setRow w.heap.size (lk (eR L))).setRow (w.heap.size + 1) (lk (eF L))) (w.heap.size + 1 + 1) (lk (eR L)) 49 := (setRow_other _ _ _ _ (by omega)).trans B2
      have C3 : Blk ((wr.setRow w.heap.size (lk (eR L))).setRow (w.heap.size + 1) (lk (eF L))) (w.heap.size + 1 + 1 + 1) (lk (eF L)) 49 := (setRow_other _ _ _ _ (by omega)).trans B3
      have A0 := b0.out
      go_wp2_with fail
      refine wp_region_held_drew (S := fun W => Blk W (w.heap.size + 1 + 1) (lk (eR L)) 49 ∧ Blk W (w.heap.size + 1 + 1 + 1) (lk (eF L)) 49) (by kernel_rfl) ?_ (fun hHeld => ?_)
      · exact ⟨b2.out, b3.out⟩
      refine wpAnyH_one (i := 0) (d := 33) (v := .agg (lk (eR L))) rfl rfl (by kernel_rfl) (by kernel_rfl) (by kernel_rfl) (fun _ _ _ h => h) (by rfl) (by assumption) ?_ ?_
      · intro w hSw
        exact run_load rfl rfl (load_lk _ _ _ hSw.1)
      simp only [List.foldl, Act.put, List.setIfInBounds_toArray, List.set_cons_zero, List.set_cons_succ]
      refine wpAnyH_one (i := 1) (d := 34) (v := .agg (lk (eF L))) rfl rfl (by kernel_rfl) (by kernel_rfl) (by kernel_rfl) (fun _ _ _ h => h) (by rfl) (by assumption) ?_ ?_
      · intro w hSw
        exact run_load rfl rfl (load_lk _ _ _ hSw.2)
      simp only [List.foldl, Act.put, List.setIfInBounds_toArray, List.set_cons_zero, List.set_cons_succ]
      refine wpAnyH_ready (rs := [2]) (by kernel_rfl) (by simp) ?_
      refine AllReadyH.cons rfl (fun K hK => ?_) AllReadyH.nil
      refine wp_store_row 49 (.tmp 2) (.tmp 33) rfl w.heap.size (lk (eR L)) rfl rfl _ _ A0 (by rw [Tryd.infoLk, lk_size]) (by rw [lk_size, lk_size]) (lk_one _) ?_
      refine hK.out _ _ ⟨B2, B3⟩ (fun hHeld => ?_)
      clear hK K
      try simp only [List.foldl, Act.put, List.setIfInBounds_toArray, List.set_cons_zero, List.set_cons_succ]
      refine wpAnyH_ready (rs := [3]) (by kernel_rfl) (by simp) ?_
      refine AllReadyH.cons rfl (fun K hK => ?_) AllReadyH.nil
      refine wp_store_row 49 (.tmp 3) (.tmp 34) rfl (w.heap.size + 1) (lk (eF L)) rfl rfl _ _ B1 (by rw [Tryd.infoLk, lk_size]) (by rw [lk_size, lk_size]) (lk_one _) ?_
      refine hK.out _ _ ⟨C2, C3⟩ (fun hHeld => ?_)
      clear hK K
      try simp only [List.foldl, Act.put, List.setIfInBounds_toArray, List.set_cons_zero, List.set_cons_succ]
      refine wpAnyH_done (by kernel_rfl) ?_ _
      have D0 : Blk ((wr.drew.setRow w.heap.size (lk (eR L))).setRow (w.heap.size + 1) (lk (eF L))) w.heap.size (lk (eR L)) 49 := C0
      have D1 : Blk ((wr.drew.setRow w.heap.size (lk (eR L))).setRow (w.heap.size + 1) (lk (eF L))) (w.heap.size + 1) (lk (eF L)) 49 := C1
      have LD : Below w.heap.size w ((wr.drew.setRow w.heap.size (lk (eR L))).setRow (w.heap.size + 1) (lk (eF L))) := below_setRow (below_setRow (bl_drew hb.out) (Nat.le_refl _) _) (by omega) _
      go_wp2_with fail
      have r0 := load_lk _ _ _ D0
      have r1 := load_lk _ _ _ D1
      refine bodyPost_ret (v := .tuple #[.agg (lk (eR L)), .agg (lk (eF L))]) (by simp [results, Tryd.results35, asAddr, r0, r1]) rfl ⟨rfl, LD⟩
end Go.Proofs.YtigllpegaljkmaaDoor
