import Derived.Test.YtbgeobpdojmdaaaDoorG54
namespace Go.Proofs.YtbgeobpdojmdaaaDoor
open Go.RowKit
set_option linter.unusedVariables false
set_option linter.unusedSimpArgs false

theorem lk_lit (R : Nat → Nat → Bool) : lk R = #[.int .u16 (nb (R 0)), .int .u16 (nb (R 1)), .int .u16 (nb (R 2)), .int .u16 (nb (R 3)), .int .u16 (nb (R 4)), .int .u16 (nb (R 5)), .int .u16 (nb (R 6)), .int .u16 (nb (R 7)), .int .u16 (nb (R 8)), .int .u16 (nb (R 9)), .int .u16 (nb (R 10)), .int .u16 (nb (R 11)), .int .u16 (nb (R 12)), .int .u16 (nb (R 13)), .int .u16 (nb (R 14)), .int .u16 (nb (R 15))] := rfl
theorem fill16 (a0 a1 a2 a3 a4 a5 a6 a7 a8 a9 a10 a11 a12 a13 a14 a15 z : Value) : Array.foldl (fun (cs : Array Value) (x : Value × Nat) => cs.setIfInBounds x.snd x.fst) #[z, z, z, z, z, z, z, z, z, z, z, z, z, z, z, z] (#[a0, a1, a2, a3, a4, a5, a6, a7, a8, a9, a10, a11, a12, a13, a14, a15]).zipIdx 0 16 = #[a0, a1, a2, a3, a4, a5, a6, a7, a8, a9, a10, a11, a12, a13, a14, a15] := by kernel_rfl
theorem fill_lk (R : Nat → Nat → Bool) : Array.foldl (fun (cs : Array Value) (x : Value × Nat) => cs.setIfInBounds x.snd x.fst) #[.int .u16 0, .int .u16 0, .int .u16 0, .int .u16 0, .int .u16 0, .int .u16 0, .int .u16 0, .int .u16 0, .int .u16 0, .int .u16 0, .int .u16 0, .int .u16 0, .int .u16 0, .int .u16 0, .int .u16 0, .int .u16 0] (lk R).zipIdx 0 16 = lk R := by
  rw [lk_lit]; exact fill16 _ _ _ _ _ _ _ _ _ _ _ _ _ _ _ _ _
theorem BK.one (w : World) (L : List (Int × Int)) : BK (w.alloc (.cells (lk (eF L)) 41)) w.heap.size (.slice (some ⟨w.heap.size, 0, none⟩) 1 1) L 1 := by
  have := World.ownsRow_lit (base := w.heap.size) (e := 41) (size := 16) w (lk (eF L)) 1 (Nat.le_refl _) (by unfold maxLen; omega) (by rw [lk_size])
  unfold BK
  have e : bkCells L 1 = (lk (eF L)).toList := by rw [bkCells_succ]; simp [bkCells, bk]
  rw [e]; exact this
theorem BK.load {w : World} {L : List (Int × Int)} {D g d : Nat} (hd : d < D) (hc : ∀ d i, d < D → i < 16 → w.cell? ⟨g, d * 16 + i, none⟩ = some (.int .u16 (nb (bk L d i)))) : (loadVar 41 ⟨g, d * 16, none⟩).run Tryd.prog w = .ok (.agg (lk (bk L d))) w := by
  have := run_loadVar_mid (P := Tryd.prog) w g (d * 16) 41 (lk (bk L d)).toList _ (fun i v hv => by
    have hi : i < 16 := by
      have := (List.getElem?_eq_some_iff.1 hv).1
      simpa [lk_size] using this
    rw [hc d i hd hi]
    have := lk_cell (bk L d) hi
    rw [← this]; simpa using hv) Tryd.underlying41 rfl (by rw [Tryd.infoLk]; simp [lk_size])
  simpa using this
theorem Tryd.infoLkz : (Tryd.prog.info? 41).map (fun i => (i.zero, i.size, i.bytes)) = some (some (.agg #[.int .u16 0, .int .u16 0, .int .u16 0, .int .u16 0, .int .u16 0, .int .u16 0, .int .u16 0, .int .u16 0, .int .u16 0, .int .u16 0, .int .u16 0, .int .u16 0, .int .u16 0, .int .u16 0, .int .u16 0, .int .u16 0]), 16, 32) := by kernel_rfl
theorem BK.apart {w : World} {B D : Nat} {v : Value} {L : List (Int × Int)} (h : BK w B v L D) {m : Nat} {c : Array Value} (hb : Blk w m c 41) (hm : m < B) : ¬ v.ownBlock = some m := by
  intro e
  have := (World.ownsRow.lt h m e).1
  omega

theorem add0 (b j : Nat) : (⟨b, 0, none⟩ : Addr).add j = ⟨b, j, none⟩ := by unfold Addr.add; split <;> simp_all
theorem wp_load_run {o : Oper} {a : Act} {w : World} {K : Act → World → Prop} {Q : Exit → Act → World → Prop} (t : TypeId) (x : Operand) (ho : o.op = .load t x) (p : Addr) (hx : a.eval x = .pointer (some p)) (v : Value) (hr : (loadVar t p).run Tryd.prog w = .ok v w) (h : K (a.put o.dst v) w) : o.wp Tryd.prog a w K Q := by
  unfold Oper.wp execOp
  simp only [ho, hx, Instr.loadAt, Instr.sureAddr, Sem.run_bind, Sem.run_pure, Result.andThen_ok, hr]
  exact h

end Go.Proofs.YtbgeobpdojmdaaaDoor
