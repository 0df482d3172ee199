import Derived.Test.YtgcfhoojjgcpiaaAb
import Derived.Deep.MidRow
import Derived.Deep.WholeRow
namespace Go.Proofs.Ytgcfhoojjgcpiaa
open Go.RowKit
set_option linter.unusedVariables false
set_option linter.unusedSimpArgs false

theorem part_row (zs : List Bool) (i : Nat) (w : World) : (Go.part 42 (tch zs) (i * 12)).run Try.prog w = .ok (.agg (tch (seg i zs))) w := by
  have hz : (sizeOf 42).run Try.prog w = .ok 12 w := by
    have h1 := Try.infoNS
    cases hq : Try.prog.info? 42 with
    | none => rw [hq] at h1; cases h1
    | some i =>
      rw [hq] at h1
      simp only [Option.map_some, Option.some.injEq] at h1
      simp [sizeOf, typeInfo, hq, h1]
  have ha : (isAgg 42).run Try.prog w = .ok true w := by simp [isAgg, run_underlying Try.underlying42]
  simp only [Go.part, Sem.run_bind, ha, Result.andThen_ok, if_true, hz, Sem.run_pure, tch_extract]
theorem idx_set (O : List Bool) (i : Nat) (hi : i < 9) (w : World) : (Instr.index 44 (.agg (tch O)) (.int .i64 (i : Int))).run Try.prog w = .ok (.agg (tch (seg i O))) w := by
  have hz : (sizeOf 42).run Try.prog w = .ok 12 w := by
    have h1 := Try.infoNS
    cases hq : Try.prog.info? 42 with
    | none => rw [hq] at h1; cases h1
    | some i =>
      rw [hq] at h1
      simp only [Option.map_some, Option.some.injEq] at h1
      simp [sizeOf, typeInfo, hq, h1]
  have := part_row O i w
  simp [Instr.index, asIntOf, run_underlying Try.underlying44, hz, this, show (i : Int) < 9 by omega, hi]
theorem idx_bit (X : List Bool) (hX : X.length = 12) (n : Nat) (hn : n < 12) (w : World) : (Instr.index 42 (.agg (tch X)) (.int .i64 (n : Int))).run Try.prog w = .ok (.bool (X.getD n false)) w := by
  obtain ⟨i0, hi, hz0, hz1, hz2⟩ := info_parts Try.infoBo
  have hz : (sizeOf 4).run Try.prog w = .ok 1 w := by simp [sizeOf, typeInfo, hi, hz1]
  have px : (Go.part 4 (tch X) n).run Try.prog w = .ok (.bool (X.getD n false)) w := by
    simp [Go.part, isAgg, run_underlying Try.underlying4, tch, show n < X.length by omega]
  simp [Instr.index, asIntOf, run_underlying Try.underlying42, hz, px, show (n : Int) < 12 by omega, hn, show ¬ 12 ≤ n by omega]
theorem seg_at {O : List Bool} (h : O.length = 108) {i n : Nat} (hi : i < 9) (hn : n < 12) : (seg i O).getD n false = O.getD (i * 12 + n) false := by
  simp [seg, List.getElem?_take, hn, List.getElem?_drop]

/-- the first m places of O, joined to S. -/
def Mix (S O : List Bool) (m : Nat) (T : List Bool) : Prop := T.length = 108 ∧ ∀ j, j < 108 → T.getD j false = (S.getD j false || (decide (j < m) && O.getD j false))
theorem Mix.start {S : List Bool} (O : List Bool) (h : S.length = 108) : Mix S O 0 S := ⟨h, fun j _ => by simp⟩
theorem Mix.step {S O T : List Bool} {m : Nat} (h : Mix S O m T) (hm : m < 108) {b : Bool} (hb : b = (T.getD m false || O.getD m false)) : Mix S O (m + 1) (T.set m b) := by
  refine ⟨by simp [h.1], fun j hj => ?_⟩
  have hT := h.2 j hj
  by_cases e : j = m
  · subst e
    have : (T.set j b).getD j false = b := by simp [List.getD, h.1, hm]
    rw [this, hb, hT]
    simp
  · have : (T.set m b).getD j false = T.getD j false := by simp [List.getD, List.getElem?_set, Ne.symm e]
    rw [this, hT]
    have : decide (j < m + 1) = decide (j < m) := by
      by_cases q : j < m <;> simp [q] <;> omega
    rw [this]
def orL (S O : List Bool) : List Bool := List.zipWith (· || ·) S O
theorem Mix.done {S O T : List Bool} (h : Mix S O 108 T) (hS : S.length = 108) (hO : O.length = 108) : T = orL S O := by
  apply List.ext_getElem (by simp [orL, hS, hO, h.1])
  intro j h1 h2
  have := h.2 j (by have := h.1; omega)
  have hj : j < 108 := by have := h.1; omega
  simp only [hj, decide_true, Bool.true_and] at this
  simp only [orL, List.getElem_zipWith]
  simpa [List.getD, h1, hS, hO, hj] using this
theorem orL_len {S O : List Bool} (hS : S.length = 108) (hO : O.length = 108) : (orL S O).length = 108 := by simp [orL, hS, hO]
def allOr (Ls : List (List Bool)) : List Bool := Ls.foldl orL (List.replicate 108 false)
theorem or_flags (a b c d : Bool) : allOr [flg a b, flg c d] = flg (a || c) (b || d) := by
  cases a <;> cases b <;> cases c <;> cases d <;> decide
theorem allOr_succ {Ls : List (List Bool)} {k : Nat} {O : List Bool} (h : Ls[k]? = some O) : allOr (Ls.take (k + 1)) = orL (allOr (Ls.take k)) O := by
  unfold allOr
  rw [List.take_add_one, h]
  simp
theorem allOr_len {Ls : List (List Bool)} (h : ∀ O ∈ Ls, O.length = 108) : (allOr Ls).length = 108 := by
  unfold allOr
  suffices ∀ (Ls : List (List Bool)) (S : List Bool), S.length = 108 → (∀ O ∈ Ls, O.length = 108) → (Ls.foldl orL S).length = 108 from this Ls _ (by simp) h
  intro Ls
  induction Ls with
  | nil => intro S hS _; exact hS
  | cons a l ih => intro S hS hl; exact ih _ (orL_len hS (hl a (by simp))) (fun O hO => hl O (by simp [hO]))

/-- a set of what is touched, as an element of a list. -/
def cTch (w : World) (B : Nat) (cs : List Value) (xs : List Bool) : Prop := cs = xs.map Value.bool ∧ xs.length = 108
theorem cTch_keeps : KeepsE cTch := fun _ _ _ _ _ _ h => h

theorem load_set (xs : List Bool) (hx : xs.length = 108) (w : World) (n : Nat) (h : Blk w n (tch xs) 44) :
    (loadVar 44 ⟨n, 0, none⟩).run Try.prog w = .ok (.agg (tch xs)) w :=
  run_loadVar_row w n _ _ _ _ _ h Try.underlying44 rfl (by rw [Try.infoTo, tch_size, hx])
theorem load_mid {w : World} {B : Nat} {s : Option Addr} {Ls : List (List Bool)} (h : Els 108 cTch w B s Ls) {j : Nat} {O : List Bool} (hO : Ls[j]? = some O) :
    ∃ b o, s = some ⟨b, o, none⟩ ∧ b < w.heap.size ∧ O.length = 108 ∧ ∀ w', Below w.heap.size w w' → (loadVar 44 ⟨b, o + j * 108, none⟩).run Try.prog w' = .ok (.agg (tch O)) w' := by
  rcases h with rfl | ⟨b, o, rfl, h1, h2, h3, hz⟩
  · simp at hO
  · obtain ⟨cs, e1, e2, rfl, e4⟩ := h3 j O hO
    refine ⟨b, o, rfl, h2, e4, fun w' hb => ?_⟩
    exact run_loadVar_mid (P := Try.prog) w' b (o + j * 108) 44 (O.map Value.bool) _ (fun i v hv => (hb.cell (p := ⟨b, o + j * 108 + i, none⟩) h2).trans (e2 i v hv)) Try.underlying44 rfl (by rw [Try.infoTo]; simp [e4])
theorem wpList_load_run {w : World} {ops : Array Oper} {rest : List Oper} {o : Oper} {a : Act} {Q : Exit → Act → World → Prop}
    (hg : o.guard = none) (t : TypeId) (x : Operand) (hop : o.op = Op.load t x) (p : Addr) (hx : a.eval x = .pointer (some p)) (v : Value) (hr : (loadVar t p).run Try.prog w = .ok v w)
    (hK : wpList Try.prog ops Q rest (a.put o.dst v) w) : wpList Try.prog ops Q (o :: rest) a w :=
  wpList_plain hg fun K hK' => by
    unfold Oper.wp execOp
    simp only [hop, hx, Instr.loadAt, Instr.sureAddr, Sem.run_bind, Sem.run_pure, Result.andThen_ok, hr]
    exact hK' _ _ hK
theorem wpList_store_new {w : World} {ops : Array Oper} {rest : List Oper} {o : Oper} {a : Act} {Q : Exit → Act → World → Prop}
    (hg : o.guard = none) (t : TypeId) (x y : Operand) (hop : o.op = Op.store t x y) (c0 : Array Value) (cells : Array Value) (hx : a.eval x = .pointer (some ⟨w.heap.size, 0, none⟩)) (hy : a.eval y = .agg cells)
    (hi : (Try.prog.info? t).map (·.size) = some cells.size) (hs : c0.size = cells.size) (h1 : cells.all (·.oneCell') = true)
    (hK : wpList Try.prog ops Q rest (a.put o.dst undef) (w.alloc (.cells cells t))) : wpList Try.prog ops Q (o :: rest) a (w.alloc (.cells c0 t)) := by
  refine wpList_store_row hg t x y hop w.heap.size cells hx hy t c0 (heap_alloc_new w _) hi hs h1 ?_
  rw [World.setRow_alloc_new]
  exact hK
set_option maxRecDepth 100000 in
set_option maxHeartbeats 8000000 in
theorem joined_any (s : Option Addr) (c : Nat) (Ls : List (List Bool)) (B : Nat) (w : World) (hL : Els 108 cTch w B s Ls) (hl : Ls.length ≤ 1048576) (hall : ∀ O ∈ Ls, O.length = 108) :
    Calls Try.prog 29 #[.slice s Ls.length c] w fun e w' => e = .returned (.agg (tch (allOr Ls))) ∧ Below w.heap.size w w' := by
  have HL : Hid (Els 108 cTch w B s Ls) := hL
  have HA : Hid (∀ k, (allOr (Ls.take k)).length = 108) := fun k => allOr_len (fun O hO => hall O (List.mem_of_mem_take hO))
  clear hL hall
  go_enter Try.func29, Try.ntmps29
  go_wp2_with fail
  rw [Try.zeroTo]
  obtain ⟨k0, k1, LX⟩ := blkTwoE w (tch (List.replicate 108 false)) (tch (List.replicate 108 false)) 44 44
  generalize hX : (w.alloc (.cells (tch (List.replicate 108 false)) 44)).alloc (.cells (tch (List.replicate 108 false)) 44) = X at k0 k1 LX ⊢
  clear hX
  go_loopw [12] (fun i wr => ∃ k : Nat, k ≤ Ls.length ∧ i = .int .i64 k ∧ Hid (Blk wr w.heap.size (tch (List.replicate 108 false)) 44) ∧ Hid (Blk wr (w.heap.size + 1) (tch (allOr (Ls.take k))) 44) ∧ Hid (Below w.heap.size w wr)) (fun i _ => Ls.length - (intOf i).toNat)
  case atStart => exact ⟨0, Nat.zero_le _, rfl, k0, k1, LX⟩
  case round =>
    clear k0 k1 LX
    obtain ⟨k, hk, rfl, k0, k1, hb⟩ := hrel
    by_cases hlt : k < Ls.length
    · obtain ⟨O, hO⟩ := get_some hlt
      have HS : Hid ((allOr (Ls.take k)).length = 108) := HA.out k
      have HN : Hid (allOr (Ls.take (k + 1)) = orL (allOr (Ls.take k)) O) := allOr_succ hO
      generalize allOr (Ls.take k) = S at HS HN k1
      obtain ⟨b, o, rfl, hp, lO, hld⟩ := load_mid HL.out hO
      have hld := hld wr (hb.out.mono (by omega))
      clear hO
      -- @a
      go_wp2_with (first
        | refine wpList_load_run rfl 44 (.tmp 14) rfl _ rfl _ hld ?_
        | refine wpList_store_new rfl 44 (.tmp 5) (.tmp 15) rfl _ (tch O) rfl rfl (by rw [Try.infoTo, tch_size, lO]) (by rw [Try.zeroTo, tch_size, tch_size, lO]; simp) (tch_one _) ?_
        | refine wpList_load_run rfl 44 (.tmp 5) rfl _ rfl _ (load_set O lO _ _ (Blk.new wr _ _)) ?_)
      have L1 : Hid (Below w.heap.size w (wr.alloc (.cells (tch O) 44))) := bl_alloc hb.out _
      have k0 : Hid (Blk (wr.alloc (.cells (tch O) 44)) w.heap.size (tch (List.replicate 108 false)) 44) := k0.out.alloc _
      have k1 : Hid (Blk (wr.alloc (.cells (tch O) 44)) (w.heap.size + 1) (tch S) 44) := k1.out.alloc _
      generalize wr.alloc (.cells (tch O) 44) = X1 at L1 k0 k1 ⊢
      clear hld hb
      go_loopw [17] (fun i wr => ∃ (k : Nat) (T : List Bool), k ≤ 9 ∧ i = .int .i64 k ∧ Hid (Mix S O (k * 12) T) ∧ Hid (Blk wr w.heap.size (tch (List.replicate 108 false)) 44) ∧ Hid (Blk wr (w.heap.size + 1) (tch T) 44) ∧ Hid (Below w.heap.size w wr)) (fun i _ => 9 - (intOf i).toNat)
      case atStart => exact ⟨0, S, Nat.zero_le _, rfl, (show Mix S O (0 * 12) S from (Nat.zero_mul 12).symm ▸ Mix.start O HS.out), k0, k1, L1⟩
      case round =>
        clear k0 k1 L1
        obtain ⟨i, T, hi, rfl, hM, k0, k1, hb⟩ := hrel
        by_cases hi9 : i < 9
        · have hix := idx_set O i hi9
          have ls := seg_len hi9 lO
          have i9 : decide ((i : Int) < 9) = true := by simp; omega
          go_wp2_with (first
            | refine wpList_store_new rfl 42 (.tmp 7) (.tmp 20) rfl _ (tch (seg i O)) rfl rfl (by rw [Try.infoNS, tch_size, ls]) (by rw [tch_size, ls]; rfl) (tch_one _) ?_
            | refine wpList_load_run rfl 42 (.tmp 7) rfl _ rfl _ (run_loadVar_row _ _ _ _ _ _ _ (Blk.new wr (tch (seg i O)) 42) Try.underlying42 rfl (by rw [Try.infoNS, tch_size, ls])) ?_)
          have L1 : Hid (Below w.heap.size w (wr.alloc (.cells (tch (seg i O)) 42))) := bl_alloc hb.out _
          have k0 : Hid (Blk (wr.alloc (.cells (tch (seg i O)) 42)) w.heap.size (tch (List.replicate 108 false)) 44) := k0.out.alloc _
          have k1 : Hid (Blk (wr.alloc (.cells (tch (seg i O)) 42)) (w.heap.size + 1) (tch T) 44) := k1.out.alloc _
          generalize wr.alloc (.cells (tch (seg i O)) 42) = X2 at L1 k0 k1 ⊢
          clear hb hix i9
          go_loopw [22] (fun v wr => ∃ (k : Nat) (T : List Bool), k ≤ 12 ∧ v = .int .i64 k ∧ Hid (Mix S O (i * 12 + k) T) ∧ Hid (Blk wr w.heap.size (tch (List.replicate 108 false)) 44) ∧ Hid (Blk wr (w.heap.size + 1) (tch T) 44) ∧ Hid (Below w.heap.size w wr)) (fun v _ => 12 - (intOf v).toNat)
          case atStart => exact ⟨0, T, Nat.zero_le _, rfl, hM, k0, k1, L1⟩
          case round =>
            clear k0 k1 L1 hM
            obtain ⟨n, T, hn, rfl, hM, k0, k1, hb⟩ := hrel
            by_cases hn12 : n < 12
            · have hiy := idx_bit (seg i O) ls n hn12
              rw [seg_at lO hi9 hn12] at hiy
              have lT := hM.out.1
              have c1 : wr.cell? ⟨w.heap.size + 1, i * 12 + n, none⟩ = some (.bool (T.getD (i * 12 + n) false)) := by rw [k1.out.cell, tch_cell (by omega)]
              have f1 : wr.frozen? ⟨w.heap.size + 1, i * 12 + n, none⟩ = false := k1.out.frozen _
              obtain ⟨t, ht⟩ : ∃ t, Hid (T.getD (i * 12 + n) false = t) := ⟨_, (rfl : T.getD (i * 12 + n) false = _)⟩
              obtain ⟨q, hq⟩ : ∃ q, Hid (O.getD (i * 12 + n) false = q) := ⟨_, (rfl : O.getD (i * 12 + n) false = _)⟩
              rw [ht.out] at c1
              rw [hq.out] at hiy
              have hM2 : Hid (Mix S O (i * 12 + (n + 1)) (T.set (i * 12 + n) (t || q))) := hM.out.step (by omega) (by rw [ht.out, hq.out])
              have n12 : decide ((n : Int) < 12) = true := by simp; omega
              have j1 : (i : Int) < 9 := by omega
              have j2 : (n : Int) < 12 := by omega
              clear hM lT ht hq
              have W0 : ∀ b, Hid (Blk (wr.setCell ⟨w.heap.size + 1, i * 12 + n, none⟩ (.bool b)).drew w.heap.size (tch (List.replicate 108 false)) 44) := fun b => (k0.out.other (by omega) _ _).later (bl_drew (Below.refl _ _))
              have W1 : ∀ b, Hid (Blk (wr.setCell ⟨w.heap.size + 1, i * 12 + n, none⟩ (.bool b)).drew (w.heap.size + 1) (tch (T.set (i * 12 + n) b)) 44) := fun b => by rw [← tch_set]; exact (k1.out.set _ _).later (bl_drew (Below.refl _ _))
              have W2 : ∀ b, Hid (Below w.heap.size w (wr.setCell ⟨w.heap.size + 1, i * 12 + n, none⟩ (.bool b)).drew) := fun b => bl_drew (hb.out.setCell (by simp) _)
              clear k0 k1 hb
              cases t
              all_goals
                go_wp2_with fail
                go_region
                all_goals
                  go_wp2_with fail
                  go_roundw
                  case rel => exact ⟨n + 1, _, by omega, by go_num, hM2, W0 _, W1 _, W2 _⟩
                  case measure => simp [intOf]; omega
            · have n12 : decide ((n : Int) < 12) = false := by simp; omega
              have hM3 : Hid (Mix S O ((i + 1) * 12) T) := by have := hM.out; rw [show n = 12 by omega] at this; show Mix S O ((i + 1) * 12) T; rw [show (i + 1) * 12 = i * 12 + 12 by omega]; exact this
              go_wp2_with fail
              go_roundw
              case rel => exact ⟨i + 1, T, by omega, by go_num, hM3, k0, k1, hb⟩
              case measure => simp [intOf]; omega
        · have i9 : decide ((i : Int) < 9) = false := by simp; omega
          have hT : T = allOr (Ls.take (k + 1)) := by
            have := hM.out
            rw [show i * 12 = 108 by omega] at this
            rw [HN.out]
            exact this.done HS.out lO
          subst hT
          go_wp2_with fail
          go_roundw
          case rel => exact ⟨k + 1, by omega, by go_num, k0, k1, hb⟩
          case measure => simp [intOf]; omega
    · have hE : allOr (Ls.take k) = allOr Ls := by rw [List.take_of_length_le (by omega)]
      rw [hE] at k1
      have lS : (allOr Ls).length = 108 := by rw [← hE]; exact HA.out k
      have hk := setRow_heap wr w.heap.size _ (tch (allOr Ls)) _ _ k0.out
      have hbX := below_setRow hb.out (Nat.le_refl w.heap.size) (tch (allOr Ls))
      go_wp2_with (first
        | refine wpList_load_run rfl 44 (.tmp 3) rfl _ rfl _ (load_set _ lS _ _ k1.out) ?_
        | refine wpList_store_row rfl 44 (.tmp 2) (.tmp 41) rfl _ (tch (allOr Ls)) rfl rfl _ _ k0.out (by rw [Try.infoTo, tch_size, lS]) (by simp [tch_size, lS]) (tch_one _) ?_)
      refine bodyPost_ret (v := .agg (tch (allOr Ls))) (results_cell_row (P := Try.prog) Try.results29 _ _ w.heap.size _ _ _ _ rfl hk Try.underlying44 rfl (by rw [Try.infoTo, tch_size, lS])) rfl ⟨rfl, hbX⟩
end Go.Proofs.Ytgcfhoojjgcpiaa
