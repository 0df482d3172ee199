import Derived.Test.YtkkofminndboaaaGreatDoorSb06
namespace Go.Proofs.YtkkofminndboaaaGreatDoor
open Go.RowKit
set_option linter.unusedVariables false
set_option linter.unusedSimpArgs false
set_option maxRecDepth 100000
theorem Hid.mk' {p : Prop} (h : p) : Hid p := h
theorem rng4 : Array.range 4 = #[0, 1, 2, 3] := by apply Array.toList_inj.1; simp; rfl
theorem exec_bs4 {P : Program} {t e : TypeId} {i : TypeInfo} {z : Value} (hu : P.underlying t = some (.slice e)) (hi : P.info? e = some i) (hz : i.zero = some z) (hn : i.size = 4) (ρ : Operand → Value) (o : Oper) (x : Operand) (u0 u1 u2 u3 : Value) (hv : ρ x = .agg #[u0, u1, u2, u3]) (ho : o.op = .buildSlice t 1 #[(0, x)]) (w : World) : (execOp ρ o).run P w = .ok (.value (.slice (some ⟨w.heap.size, 0, none⟩) 1 1)) (w.alloc (.cells #[u0, u1, u2, u3] e)) := by
 have hf : Instr.fill (fun j => some (j * i.size, i.size)) ((Array.range (1 * i.size)).map (z.cells[· % z.cells.size]!)) ((#[(0, x)] : Array (Nat × Operand)).map fun (j, x) => (j, ρ x)).toList = some #[u0, u1, u2, u3] := by
  rw [hn]
  simp [hv, Instr.fill, Value.cells, rng4]
 have hr := run_buildSlice (P := P) w t e 1 ((#[(0, x)] : Array (Nat × Operand)).map fun (j, x) => (j, ρ x)) _ i z hu hi hz (by rw [hn]; decide) (by rw [hn]; decide) hf
 simp only [execOp, ho, Sem.run_bind, hr, Result.andThen_ok, Sem.run_pure]
section
variable {X w : World} {B : Nat} {o : Oper} {a : Act} {ops : Array Oper} {K : Act → World → Prop} {Q : Exit → Act → World → Prop} {E : Prop}
theorem step_bs4 (P S : List OR) (hR : Rs X B w (P ++ S)) (hg : o.guard = none) {d0 : Option Nat} (hd : o.dst = d0) (t e : TypeId) {i : TypeInfo} {z : Value} (hu : Tryz.prog.underlying t = some (.slice e)) (hi : Tryz.prog.info? e = some i) (hz : i.zero = some z) (hn : i.size = 4) (x : Operand) (ho : o.op = .buildSlice t 1 #[(0, x)]) (u0 u1 u2 u3 : Value) (hx : a.eval x = .agg #[u0, u1, u2, u3])
  (hK : ∀ k w', Rs X B w' (P ++ rB k e [u0, u1, u2, u3] :: S) → K (a.put d0 (.slice (some ⟨k, 0, none⟩) 1 1)) w') :
  if Region.wanted o (yielded ops a.tmps) = true then Oper.wp Tryz.prog o a w K Q else E :=
 step_exec hg hd (exec_bs4 hu hi hz hn _ o x u0 u1 u2 u3 hx ho w) (hK w.heap.size _ (hR.ins P S (bl_alloc (Below.refl _ _) _) (blk_rB (Blk.new w _ e) (Nat.le_refl _))))
end
theorem news4 {w : World} {k : Nat} {u0 u1 u2 u3 : Value} {t : TypeId} (h : Blk w k #[u0, u1, u2, u3] t) : ∀ (j : Nat) v, [u0, u1, u2, u3][j]? = some v → w.cell? ((⟨k, 0, none⟩ : Addr).add j) = some v := by
 intro j v hj
 match j, hj with
 | 0, hj => rw [Go.WideShapes.add_plain]; exact (h.cell 0).trans hj
 | 1, hj => rw [Go.WideShapes.add_plain]; exact (h.cell 1).trans hj
 | 2, hj => rw [Go.WideShapes.add_plain]; exact (h.cell 2).trans hj
 | 3, hj => rw [Go.WideShapes.add_plain]; exact (h.cell 3).trans hj
theorem Tryz.infoNd : (Tryz.prog.info? 42).map (fun i => (i.zero, i.size, i.bytes)) = some (some (.agg #[.int .i64 0, .string ⟨#[]⟩, .int .i64 0, .slice none 0 0]), 4, 56) := by kernel_rfl
set_option maxHeartbeats 8000000 in
theorem add_any (T : List Tk) (E : Int) (k g cp i d : Nat) (v : Value) (Q : List NK) (P : List OR) (X : World) (B : Nat) (a b : Int) (t : ByteArray) (kids : List Int) (sk : Option Addr) (ck : Nat) (w : World) (hR : Rs X B w (rR k g (T.length + 1) cp i d v Q (rI (.slice sk kids.length ck) kids :: P))) (hq : Q.length ≤ 1000000) :
  Calls Tryz.prog 31 #[.pointer (some ⟨k, 0, none⟩), .agg #[.int .i64 a, .string t, .int .i64 b, .slice sk kids.length ck]] w fun e w' => e = .returned (.int .i64 (Q.length : Int)) ∧ ∃ v', Rs X B w' (rR k g (T.length + 1) cp i d v' (Q ++ [(nd a t b kids, .slice sk kids.length ck)]) P) := by
 have hal := alloc_old
 have haf := alloc_oldf
 obtain ⟨iN, hiN, hzN, hsN, hbN⟩ := info_parts Tryz.infoNd
 have hR := hid (hR.addB [.int .i64 a, .string t, .int .i64 b, .slice sk kids.length ck] 42)
 go_enter Tryz.func31, Tryz.ntmps31
 go_upto_region 1 with fail
 generalize hW : w.alloc (.cells #[.int .i64 a, .string t, .int .i64 b, .slice sk kids.length ck] 42) = W0 at hR ⊢
 generalize hka : w.heap.size = ka at hR ⊢
 clear hW hka; go_cut [4] (fun _ wx => ∃ ka kb sv2 cv2, Rs X B wx ([rB ka 42 [.int .i64 a, .string t, .int .i64 b, .slice sk kids.length ck], rB k 55 [.slice (some ⟨g, 0, none⟩) (T.length + 1) cp, .int .i64 i, .int .i64 d, .slice sv2 (Q.length + 1) cv2], (⟨42, 4, .slice sv2 (Q.length + 1) cv2, Q.length + 1, Q.flatMap nc ++ [.int .i64 a, .string t, .int .i64 b, .slice sk kids.length ck]⟩ : OR), rB kb 42 [.int .i64 a, .string t, .int .i64 b, .slice sk kids.length ck]] ++ (rK Q ++ (rI (.slice sk kids.length ck) kids :: P))))
 case first =>
  refine wp_region_held_drew (S := (fun w' => Blk w' ka #[.int .i64 a, .string t, .int .i64 b, .slice sk kids.length ck] 42)) (by kernel_rfl) ?_ (fun hHeld => ?_)
  ·
   exact hR.out.box [] ([rB k 55 [.slice (some ⟨g, 0, none⟩) (T.length + 1) cp, .int .i64 i, .int .i64 d, v], rN v Q] ++ (rK Q ++ (rI (.slice sk kids.length ck) kids :: P)))
  have hR := Hid.mk' hR.out.drew
  refine wpr 0 5 ?_; simp only [zs]; refine wpr 1 6 ?_; simp only [zs]; refine wpr 2 7 ?_; simp only [zs]; refine wpr 3 8 ?_; simp only [zs]; refine wpq (v := ?_) 5 10 rfl rfl ?_ ?_
  rotate_left 1
  ·
   intro w hSw; (try dsimp only at hSw); obtain ⟨x0, x1, x2, x3, x4⟩ := hSw.four'; go_simp <;> with_reducible rfl
  simp only [zs]; refine wpAnyH_ready (rs := [4, 6]) (by kernel_rfl) (by simp) ?_
  refine AllReadyH.cons rfl (fun K hK => ?_) ?_
  ·
   skip
   have hbx := hR.out.box [rB ka 42 [.int .i64 a, .string t, .int .i64 b, .slice sk kids.length ck]] ([rN v Q] ++ (rK Q ++ (rI (.slice sk kids.length ck) kids :: P)))
   have x0 := hbx.cell 3
   have x1 := hbx.frozen 3
   clear hbx; go_simp; clear x0 x1; refine hK.out _ _ ?_ (fun hHeld => ?_)
   ·
    exact hR.out.box [] ([rB k 55 [.slice (some ⟨g, 0, none⟩) (T.length + 1) cp, .int .i64 i, .int .i64 d, v], rN v Q] ++ (rK Q ++ (rI (.slice sk kids.length ck) kids :: P)))
   clear hK K; try simp only [zs]
   refine wpy 6 fun K hK => ?_
   refine step_bs4 [rB ka 42 [.int .i64 a, .string t, .int .i64 b, .slice sk kids.length ck], rB k 55 [.slice (some ⟨g, 0, none⟩) (T.length + 1) cp, .int .i64 i, .int .i64 d, v], rN v Q] (rK Q ++ (rI (.slice sk kids.length ck) kids :: P)) hR.out rfl (d0 := (some 11)) rfl 24 42 Tryz.underlying24 hiN hzN hsN (.tmp 10) rfl (.int .i64 a) (.string t) (.int .i64 b) (.slice sk kids.length ck) rfl ?_
   intro kb g2 hR'
   have hR : Hid (Rs X B g2 ([rB ka 42 [.int .i64 a, .string t, .int .i64 b, .slice sk kids.length ck], rB k 55 [.slice (some ⟨g, 0, none⟩) (T.length + 1) cp, .int .i64 i, .int .i64 d, v], rN v Q, rB kb 42 [.int .i64 a, .string t, .int .i64 b, .slice sk kids.length ck]] ++ (rK Q ++ (rI (.slice sk kids.length ck) kids :: P)))) := hR'
   clear hR'; refine hK.out _ _ ?_ (fun hHeld => ?_)
   ·
    exact hR.out.box [] ([rB k 55 [.slice (some ⟨g, 0, none⟩) (T.length + 1) cp, .int .i64 i, .int .i64 d, v], rN v Q, rB kb 42 [.int .i64 a, .string t, .int .i64 b, .slice sk kids.length ck]] ++ (rK Q ++ (rI (.slice sk kids.length ck) kids :: P)))
   clear hK K; try simp only [zs]
   refine wpy 7 fun K hK => ?_
   refine step_app [rB ka 42 [.int .i64 a, .string t, .int .i64 b, .slice sk kids.length ck], rB k 55 [.slice (some ⟨g, 0, none⟩) (T.length + 1) cp, .int .i64 i, .int .i64 d, v]] ([rB kb 42 [.int .i64 a, .string t, .int .i64 b, .slice sk kids.length ck]] ++ (rK Q ++ (rI (.slice sk kids.length ck) kids :: P))) hR.out rfl (d0 := (some 12)) rfl (.tmp 9) (.tmp 11) 24 56 rfl Tryz.underlying24 hiN hzN hsN hbN rfl (Nat.succ_pos _) rfl (some ⟨kb, 0, none⟩) 1 1 [.int .i64 a, .string t, .int .i64 b, .slice sk kids.length ck] rfl rfl (Or.inr ⟨_, rfl, news4 (hR.out.box [rB ka 42 [.int .i64 a, .string t, .int .i64 b, .slice sk kids.length ck], rB k 55 [.slice (some ⟨g, 0, none⟩) (T.length + 1) cp, .int .i64 i, .int .i64 d, v], rN v Q] (rK Q ++ (rI (.slice sk kids.length ck) kids :: P)))⟩) (by intro u hu; simp only [List.mem_cons, List.not_mem_nil, or_false] at hu; rcases hu with rfl | rfl | rfl | rfl <;> rfl) (by show Q.length + 1 ≤ _; unfold maxLen; omega) (by show (Q.length + 1) * 56 ≤ _; omega) (Q.length + 1) rfl (fun v => (⟨42, 4, v, Q.length + 1, Q.flatMap nc ++ [.int .i64 a, .string t, .int .i64 b, .slice sk kids.length ck]⟩ : OR)) (fun _ => rfl) ?_
   intro sv2 cv2 g3 hR'
   have hR : Hid (Rs X B g3 ([rB ka 42 [.int .i64 a, .string t, .int .i64 b, .slice sk kids.length ck], rB k 55 [.slice (some ⟨g, 0, none⟩) (T.length + 1) cp, .int .i64 i, .int .i64 d, v], (⟨42, 4, (.slice sv2 (Q.length + 1) cv2), Q.length + 1, Q.flatMap nc ++ [.int .i64 a, .string t, .int .i64 b, .slice sk kids.length ck]⟩ : OR), rB kb 42 [.int .i64 a, .string t, .int .i64 b, .slice sk kids.length ck]] ++ (rK Q ++ (rI (.slice sk kids.length ck) kids :: P)))) := hR'
   clear hR'; refine hK.out _ _ ?_ (fun hHeld => ?_)
   ·
    exact hR.out.box [] ([rB k 55 [.slice (some ⟨g, 0, none⟩) (T.length + 1) cp, .int .i64 i, .int .i64 d, v], (⟨42, 4, (.slice sv2 (Q.length + 1) cv2), Q.length + 1, Q.flatMap nc ++ [.int .i64 a, .string t, .int .i64 b, .slice sk kids.length ck]⟩ : OR), rB kb 42 [.int .i64 a, .string t, .int .i64 b, .slice sk kids.length ck]] ++ (rK Q ++ (rI (.slice sk kids.length ck) kids :: P)))
   clear hK K; try simp only [zs]
   refine wpr 8 13 ?_; simp only [zs]; refine wpr 9 14 ?_; simp only [zs]; refine wpy 10 fun K hK => ?_
   have hbx := hR.out.box [rB ka 42 [.int .i64 a, .string t, .int .i64 b, .slice sk kids.length ck]] ([(⟨42, 4, (.slice sv2 (Q.length + 1) cv2), Q.length + 1, Q.flatMap nc ++ [.int .i64 a, .string t, .int .i64 b, .slice sk kids.length ck]⟩ : OR), rB kb 42 [.int .i64 a, .string t, .int .i64 b, .slice sk kids.length ck]] ++ (rK Q ++ (rI (.slice sk kids.length ck) kids :: P)))
   have x0 := hbx.cell 3
   have x1 := hbx.frozen 3
   clear hbx; go_simp; clear x0 x1; have hR : Hid (Rs X B _ ([rB ka 42 [.int .i64 a, .string t, .int .i64 b, .slice sk kids.length ck], rB k 55 [.slice (some ⟨g, 0, none⟩) (T.length + 1) cp, .int .i64 i, .int .i64 d, .slice sv2 (Q.length + 1) cv2], (⟨42, 4, (.slice sv2 (Q.length + 1) cv2), Q.length + 1, Q.flatMap nc ++ [.int .i64 a, .string t, .int .i64 b, .slice sk kids.length ck]⟩ : OR), rB kb 42 [.int .i64 a, .string t, .int .i64 b, .slice sk kids.length ck]] ++ (rK Q ++ (rI (.slice sk kids.length ck) kids :: P)))) := Hid.mk' (hR.out.setB [rB ka 42 [.int .i64 a, .string t, .int .i64 b, .slice sk kids.length ck]] ([(⟨42, 4, (.slice sv2 (Q.length + 1) cv2), Q.length + 1, Q.flatMap nc ++ [.int .i64 a, .string t, .int .i64 b, .slice sk kids.length ck]⟩ : OR), rB kb 42 [.int .i64 a, .string t, .int .i64 b, .slice sk kids.length ck]] ++ (rK Q ++ (rI (.slice sk kids.length ck) kids :: P))) 3 (.slice sv2 (Q.length + 1) cv2))
   refine hK.out _ _ ?_ (fun hHeld => ?_)
   ·
    exact hR.out.box [] ([rB k 55 [.slice (some ⟨g, 0, none⟩) (T.length + 1) cp, .int .i64 i, .int .i64 d, .slice sv2 (Q.length + 1) cv2], (⟨42, 4, (.slice sv2 (Q.length + 1) cv2), Q.length + 1, Q.flatMap nc ++ [.int .i64 a, .string t, .int .i64 b, .slice sk kids.length ck]⟩ : OR), rB kb 42 [.int .i64 a, .string t, .int .i64 b, .slice sk kids.length ck]] ++ (rK Q ++ (rI (.slice sk kids.length ck) kids :: P)))
   clear hK K; try simp only [zs]
   refine wpAnyH_done (by kernel_rfl) ?_ _
   clear hHeld; go_wp2_with fail; go_meet; exact ⟨ka, kb, sv2, cv2, hR.out⟩
  refine AllReadyH.cons rfl (fun K hK => ?_) AllReadyH.nil
  refine step_bs4 [rB ka 42 [.int .i64 a, .string t, .int .i64 b, .slice sk kids.length ck], rB k 55 [.slice (some ⟨g, 0, none⟩) (T.length + 1) cp, .int .i64 i, .int .i64 d, v], rN v Q] (rK Q ++ (rI (.slice sk kids.length ck) kids :: P)) hR.out rfl (d0 := (some 11)) rfl 24 42 Tryz.underlying24 hiN hzN hsN (.tmp 10) rfl (.int .i64 a) (.string t) (.int .i64 b) (.slice sk kids.length ck) rfl ?_
  intro kb g5 hR'
  have hR : Hid (Rs X B g5 ([rB ka 42 [.int .i64 a, .string t, .int .i64 b, .slice sk kids.length ck], rB k 55 [.slice (some ⟨g, 0, none⟩) (T.length + 1) cp, .int .i64 i, .int .i64 d, v], rN v Q, rB kb 42 [.int .i64 a, .string t, .int .i64 b, .slice sk kids.length ck]] ++ (rK Q ++ (rI (.slice sk kids.length ck) kids :: P)))) := hR'
  clear hR'; refine hK.out _ _ ?_ (fun hHeld => ?_)
  ·
   exact hR.out.box [] ([rB k 55 [.slice (some ⟨g, 0, none⟩) (T.length + 1) cp, .int .i64 i, .int .i64 d, v], rN v Q, rB kb 42 [.int .i64 a, .string t, .int .i64 b, .slice sk kids.length ck]] ++ (rK Q ++ (rI (.slice sk kids.length ck) kids :: P)))
  clear hK K; try simp only [zs]
  refine wpy 4 fun K hK => ?_
  have hbx := hR.out.box [rB ka 42 [.int .i64 a, .string t, .int .i64 b, .slice sk kids.length ck]] ([rN v Q, rB kb 42 [.int .i64 a, .string t, .int .i64 b, .slice sk kids.length ck]] ++ (rK Q ++ (rI (.slice sk kids.length ck) kids :: P)))
  have x0 := hbx.cell 3
  have x1 := hbx.frozen 3
  clear hbx; go_simp; clear x0 x1; refine hK.out _ _ ?_ (fun hHeld => ?_)
  ·
   exact hR.out.box [] ([rB k 55 [.slice (some ⟨g, 0, none⟩) (T.length + 1) cp, .int .i64 i, .int .i64 d, v], rN v Q, rB kb 42 [.int .i64 a, .string t, .int .i64 b, .slice sk kids.length ck]] ++ (rK Q ++ (rI (.slice sk kids.length ck) kids :: P)))
  clear hK K; try simp only [zs]
  refine wpy 7 fun K hK => ?_
  refine step_app [rB ka 42 [.int .i64 a, .string t, .int .i64 b, .slice sk kids.length ck], rB k 55 [.slice (some ⟨g, 0, none⟩) (T.length + 1) cp, .int .i64 i, .int .i64 d, v]] ([rB kb 42 [.int .i64 a, .string t, .int .i64 b, .slice sk kids.length ck]] ++ (rK Q ++ (rI (.slice sk kids.length ck) kids :: P))) hR.out rfl (d0 := (some 12)) rfl (.tmp 9) (.tmp 11) 24 56 rfl Tryz.underlying24 hiN hzN hsN hbN rfl (Nat.succ_pos _) rfl (some ⟨kb, 0, none⟩) 1 1 [.int .i64 a, .string t, .int .i64 b, .slice sk kids.length ck] rfl rfl (Or.inr ⟨_, rfl, news4 (hR.out.box [rB ka 42 [.int .i64 a, .string t, .int .i64 b, .slice sk kids.length ck], rB k 55 [.slice (some ⟨g, 0, none⟩) (T.length + 1) cp, .int .i64 i, .int .i64 d, v], rN v Q] (rK Q ++ (rI (.slice sk kids.length ck) kids :: P)))⟩) (by intro u hu; simp only [List.mem_cons, List.not_mem_nil, or_false] at hu; rcases hu with rfl | rfl | rfl | rfl <;> rfl) (by show Q.length + 1 ≤ _; unfold maxLen; omega) (by show (Q.length + 1) * 56 ≤ _; omega) (Q.length + 1) rfl (fun v => (⟨42, 4, v, Q.length + 1, Q.flatMap nc ++ [.int .i64 a, .string t, .int .i64 b, .slice sk kids.length ck]⟩ : OR)) (fun _ => rfl) ?_
  intro sv2 cv2 g7 hR'
  have hR : Hid (Rs X B g7 ([rB ka 42 [.int .i64 a, .string t, .int .i64 b, .slice sk kids.length ck], rB k 55 [.slice (some ⟨g, 0, none⟩) (T.length + 1) cp, .int .i64 i, .int .i64 d, v], (⟨42, 4, (.slice sv2 (Q.length + 1) cv2), Q.length + 1, Q.flatMap nc ++ [.int .i64 a, .string t, .int .i64 b, .slice sk kids.length ck]⟩ : OR), rB kb 42 [.int .i64 a, .string t, .int .i64 b, .slice sk kids.length ck]] ++ (rK Q ++ (rI (.slice sk kids.length ck) kids :: P)))) := hR'
  clear hR'; refine hK.out _ _ ?_ (fun hHeld => ?_)
  ·
   exact hR.out.box [] ([rB k 55 [.slice (some ⟨g, 0, none⟩) (T.length + 1) cp, .int .i64 i, .int .i64 d, v], (⟨42, 4, (.slice sv2 (Q.length + 1) cv2), Q.length + 1, Q.flatMap nc ++ [.int .i64 a, .string t, .int .i64 b, .slice sk kids.length ck]⟩ : OR), rB kb 42 [.int .i64 a, .string t, .int .i64 b, .slice sk kids.length ck]] ++ (rK Q ++ (rI (.slice sk kids.length ck) kids :: P)))
  clear hK K; try simp only [zs]
  refine wpr 8 13 ?_; simp only [zs]; refine wpr 9 14 ?_; simp only [zs]; refine wpy 10 fun K hK => ?_
  have hbx := hR.out.box [rB ka 42 [.int .i64 a, .string t, .int .i64 b, .slice sk kids.length ck]] ([(⟨42, 4, (.slice sv2 (Q.length + 1) cv2), Q.length + 1, Q.flatMap nc ++ [.int .i64 a, .string t, .int .i64 b, .slice sk kids.length ck]⟩ : OR), rB kb 42 [.int .i64 a, .string t, .int .i64 b, .slice sk kids.length ck]] ++ (rK Q ++ (rI (.slice sk kids.length ck) kids :: P)))
  have x0 := hbx.cell 3
  have x1 := hbx.frozen 3
  clear hbx; go_simp; clear x0 x1; have hR : Hid (Rs X B _ ([rB ka 42 [.int .i64 a, .string t, .int .i64 b, .slice sk kids.length ck], rB k 55 [.slice (some ⟨g, 0, none⟩) (T.length + 1) cp, .int .i64 i, .int .i64 d, .slice sv2 (Q.length + 1) cv2], (⟨42, 4, (.slice sv2 (Q.length + 1) cv2), Q.length + 1, Q.flatMap nc ++ [.int .i64 a, .string t, .int .i64 b, .slice sk kids.length ck]⟩ : OR), rB kb 42 [.int .i64 a, .string t, .int .i64 b, .slice sk kids.length ck]] ++ (rK Q ++ (rI (.slice sk kids.length ck) kids :: P)))) := Hid.mk' (hR.out.setB [rB ka 42 [.int .i64 a, .string t, .int .i64 b, .slice sk kids.length ck]] ([(⟨42, 4, (.slice sv2 (Q.length + 1) cv2), Q.length + 1, Q.flatMap nc ++ [.int .i64 a, .string t, .int .i64 b, .slice sk kids.length ck]⟩ : OR), rB kb 42 [.int .i64 a, .string t, .int .i64 b, .slice sk kids.length ck]] ++ (rK Q ++ (rI (.slice sk kids.length ck) kids :: P))) 3 (.slice sv2 (Q.length + 1) cv2))
  refine hK.out _ _ ?_ (fun hHeld => ?_)
  ·
   exact hR.out.box [] ([rB k 55 [.slice (some ⟨g, 0, none⟩) (T.length + 1) cp, .int .i64 i, .int .i64 d, .slice sv2 (Q.length + 1) cv2], (⟨42, 4, (.slice sv2 (Q.length + 1) cv2), Q.length + 1, Q.flatMap nc ++ [.int .i64 a, .string t, .int .i64 b, .slice sk kids.length ck]⟩ : OR), rB kb 42 [.int .i64 a, .string t, .int .i64 b, .slice sk kids.length ck]] ++ (rK Q ++ (rI (.slice sk kids.length ck) kids :: P)))
  clear hK K; try simp only [zs]
  refine wpAnyH_done (by kernel_rfl) ?_ _
  clear hHeld; go_wp2_with fail; go_meet; exact ⟨ka, kb, sv2, cv2, hR.out⟩
 obtain ⟨ka, kb, sv2, cv2, h⟩ := hcut
 obtain ⟨w5, hw5⟩ : ∃ w5, w5 = wc := ⟨_, rfl⟩
 rw [← hw5] at h ⊢
 have h1 := hid ((h.less [] (([rB k 55 [.slice (some ⟨g, 0, none⟩) (T.length + 1) cp, .int .i64 i, .int .i64 d, .slice sv2 (Q.length + 1) cv2], (⟨42, 4, .slice sv2 (Q.length + 1) cv2, Q.length + 1, Q.flatMap nc ++ [.int .i64 a, .string t, .int .i64 b, .slice sk kids.length ck]⟩ : OR), rB kb 42 [.int .i64 a, .string t, .int .i64 b, .slice sk kids.length ck]] ++ (rK Q ++ (rI (.slice sk kids.length ck) kids :: P))))).less [rB k 55 [.slice (some ⟨g, 0, none⟩) (T.length + 1) cp, .int .i64 i, .int .i64 d, .slice sv2 (Q.length + 1) cv2], (⟨42, 4, .slice sv2 (Q.length + 1) cv2, Q.length + 1, Q.flatMap nc ++ [.int .i64 a, .string t, .int .i64 b, .slice sk kids.length ck]⟩ : OR)] ((rK Q ++ (rI (.slice sk kids.length ck) kids :: P))))
 clear h hw5 hR; have y := h1.out.box [] (([(⟨42, 4, .slice sv2 (Q.length + 1) cv2, Q.length + 1, Q.flatMap nc ++ [.int .i64 a, .string t, .int .i64 b, .slice sk kids.length ck]⟩ : OR)] ++ (rK Q ++ (rI (.slice sk kids.length ck) kids :: P))))
 have y3 := y.cell 3
 have y4 := y.frozen
 clear y; have tw : IntKind.i64.wrap ((Q.length : Int) + 1 - 1) = (Q.length : Int) := by rw [IntKind.wrap_i64]; omega
 go_wp2_with fail; go_ret; refine ⟨rfl, .slice sv2 (Q.length + 1) cv2, ?_⟩
 have e1 : rN (.slice sv2 (Q.length + 1) cv2) (Q ++ [(nd a t b kids, .slice sk kids.length ck)]) = (⟨42, 4, .slice sv2 (Q.length + 1) cv2, Q.length + 1, Q.flatMap nc ++ [.int .i64 a, .string t, .int .i64 b, .slice sk kids.length ck]⟩ : OR) := by
  simp [rN, nc, nd]
 have e2 : rK (Q ++ [(nd a t b kids, .slice sk kids.length ck)]) ++ P = rK Q ++ (rI (.slice sk kids.length ck) kids :: P) := by
  simp [rK, nd]
 unfold rR
 rw [e1, e2]
 exact h1.out
end Go.Proofs.YtkkofminndboaaaGreatDoor
