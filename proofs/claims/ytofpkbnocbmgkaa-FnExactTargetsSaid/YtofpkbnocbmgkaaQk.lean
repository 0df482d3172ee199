import Derived.Test.YtofpkbnocbmgkaaQj
namespace Go.Proofs.Ytofpkbnocbmgkaa
open Go.RowKit
set_option linter.unusedVariables false
set_option linter.unusedSimpArgs false

theorem OI.mr {lo : Nat} {W1 w0 w : World} {B : Nat} {v : Value} {L : List Int} (h : OI w0 B v L) (hm : Mr lo W1 w0 w) (hv : ∀ g, v.ownBlock = some g → g < lo ∨ W1.heap.size ≤ g) : OI w B v L :=
  h.same fun g hg => (hv g hg).elim (fun q => hm.be.block g q) (fun q => hm.out g q (h.lt g hg).2)

set_option maxRecDepth 100000 in
set_option maxHeartbeats 8000000 in
theorem exactTargets_any (s : Option Addr) (c : Nat) (L : List Cm) (w : World) (hL : Els 9 cCmd w 0 s L) (mL : mCs L) :
    Calls Try.prog 5 #[.slice s L.length c] w fun e w' => e = .returned (.bool true) ∧ Below w.heap.size w w' := by
  have HL : Hid (Els 9 cCmd w 0 s L) := hL
  have ML : Hid (mCs L) := mL
  clear hL mL
  go_enter Try.func5, Try.ntmps5
  go_wp2_with fail
  refine (szCmdS_gen s c L 0 1048576 _ HL.out ML.out (by omega) (by omega)).mono ?_
  rintro e w1 ⟨⟨r, rfl, hr⟩, hb1⟩
  clear ML
  rcases hr with rfl | ⟨r0, r1, kv⟩
  · go_wp2_with fail
    go_ret
    exact ⟨rfl, hb1⟩
  have t1 : decide (r < 0) = false := by simp; omega
  have KV : Hid (kCs L) := kv
  clear kv
  go_wp2_with fail
  -- the model's answer
  refine (toCmdS_made s c L 0 _ (HL.out.later cCmd_keeps hb1) KV.out).mono ?_
  rintro e w2 ⟨g2, rfl, e2, d2, hb2⟩
  have L2 := bl_trans hb1 hb2
  have hp2 : 0 < w2.heap.size ∨ L = [] := by
    rcases d2 with h | ⟨b, o, _, _, h, _⟩
    · exact Or.inr h
    · exact Or.inl (by omega)
  have D2 : Hid (Els 9 cCmd w2 0 _ L) := d2.drop cCmd_drops (Nat.zero_le _)
  clear t1 r1 r0 hb1 hb2 d2 e2
  go_wp2_with fail
  refine (specTargets_any _ _ L 0 _ D2.out KV.out).mono ?_
  rintro e w3 ⟨⟨sW, cW, R, rfl, hW, hSW⟩, hb3⟩
  have L3 := bl_trans L2 hb3
  have HSW : Hid (Srt (tgs L) R) := hSW
  have lR : Hid (R.length ≤ 4398046511104) := by
    have h5 := tgs_len KV.out.2 L.length (Nat.le_refl _)
    rw [List.take_length] at h5
    have h6 := hSW.2.2
    have h7 := KV.out.1
    show R.length ≤ _
    omega
  have hWl : Hid (∀ g, (Value.slice sW R.length cW).ownBlock = some g → g < w3.heap.size) := fun g hg => (hW.lt g hg).2
  have hW3 : Hid (OI w3 0 (.slice sW R.length cW) R) := hW.mono (Nat.zero_le _)
  have hposd : Hid (0 < w3.heap.size ∨ L = []) := hp2.imp (fun h => by have := hb3.size; omega) id
  clear hSW hW hb3 L2 D2 hp2
  go_wp2_with fail
  -- the argument's copy
  refine (toCmdS_made s c L 0 _ (HL.out.later cCmd_keeps L3) KV.out).mono ?_
  rintro e W1 ⟨gx, rfl, ex, dx, hbx⟩
  have L4 := bl_trans L3 hbx
  have DX : Hid (Els 9 cCmd W1 w3.heap.size _ L) := dx.drop cCmd_drops ex
  have hW1 : Hid (OI W1 0 (.slice sW R.length cW) R) := hW3.out.later hbx
  have hlo1 : w3.heap.size ≤ W1.heap.size := hbx.size
  have hlow : w.heap.size ≤ w3.heap.size := L3.size
  clear ex dx hW3
  go_wp2_with fail
  -- the program's answer
  refine (implTargets_any _ _ L W1 (DX.out.drop cCmd_drops (Nat.zero_le _)) KV.out).mono ?_
  rintro e w5 ⟨⟨sG, cG, R', rfl, hG, hSG⟩, hb5⟩
  obtain rfl : R' = R := hSG.same HSW.out
  have hGl : Hid (∀ g, (Value.slice sG R'.length cG).ownBlock = some g → W1.heap.size ≤ g) := fun g hg => (hG.lt g hg).1
  have L5 := bl_trans L4 hb5
  have hW5 : Hid (OI w5 0 (.slice sW R'.length cW) R') := hW1.out.later hb5
  have hG5 : Hid (OI w5 W1.heap.size (.slice sG R'.length cG) R') := hG
  clear hG hSG hW1 L4
  go_wp2_with fail
  refine (eqI_more _ _ _ _ R' _ _ w5 hG5.out.els hW5.out.els lR.out).mono ?_
  rintro e w6 ⟨rfl, hb6⟩
  have L6 := bl_trans L5 hb6
  have hW6 : Hid (OI w6 0 (.slice sW R'.length cW) R') := hW5.out.later hb6
  have hG6 : Hid (OI w6 W1.heap.size (.slice sG R'.length cG) R') := hG5.out.later hb6
  have hX6 : Hid (Below W1.heap.size W1 w6) := bl_trans hb5 hb6
  clear hW5 hG5 L5 hb5 hb6
  go_wp2_with fail
  refine (toCmdS_made s c L 0 _ (HL.out.later cCmd_keeps L6) KV.out).mono ?_
  rintro e w7 ⟨g7, rfl, e7, d7, hb7⟩
  have D7 : Hid (Els 9 cCmd w7 _ _ L) := d7
  clear d7 e7
  go_wp2_with fail
  refine (eqCmdS_gen _ _ _ _ L _ _ w7 (DX.out.later cCmd_keeps (bl_trans hX6.out hb7)) D7.out KV.out).mono ?_
  rintro e w8 ⟨rfl, hb8⟩
  have h68 := bl_trans hb7 hb8
  have L8 := bl_trans L6 h68
  have hW8 : Hid (OI w8 0 (.slice sW R'.length cW) R') := hW6.out.later h68
  have hG8 : Hid (OI w8 W1.heap.size (.slice sG R'.length cG) R') := hG6.out.later h68
  have hX8 : Hid (Below W1.heap.size W1 w8) := bl_trans hX6.out h68
  clear hW6 hG6 L6 hX6 h68 hb7 hb8 D7
  -- marks
  have kl := KV.out.1
  go_wp2_with fail
  refine (markCmd_w w3.heap.size W1 w8 _ _ L 1 _ DX.out hposd.out (Mr.start hX8.out _) KV.out (by omega) (by omega)).mono ?_
  rintro e w9 ⟨⟨q, rfl, q0, q1⟩, hM⟩
  have L9 : Below w.heap.size w w9 := L8.trans (hM.be.mono hlow)
  have hW9 : Hid (OI w9 0 (.slice sW R'.length cW) R') := hW8.out.mr hM (fun g hg => Or.inl (hWl.out g hg))
  have hG9 : Hid (OI w9 W1.heap.size (.slice sG R'.length cG) R') := hG8.out.mr hM (fun g hg => Or.inr (hGl.out g hg))
  have hS9 : Hid (W1.heap.size ≤ w9.heap.size) := hM.s1
  have qn : decide (q < 0) = false := by simp; omega
  clear hM hW8 hG8 L8 hX8 DX
  go_wp2_with fail
  refine (eqI_more _ _ _ _ R' _ _ w9 hG9.out.els hW9.out.els lR.out).mono ?_
  rintro e wa ⟨rfl, hba⟩
  have La := bl_trans L9 hba
  have hWa : Hid (OI wa 0 (.slice sW R'.length cW) R') := hW9.out.later hba
  have hGa : Hid (OI wa W1.heap.size (.slice sG R'.length cG) R') := hG9.out.later hba
  have hSa : Hid (W1.heap.size ≤ wa.heap.size) := by have := hS9.out; have := hba.size; show _ ≤ _; omega
  clear hW9 hG9 L9 hS9 hba qn q0 q1
  go_wp2_with fail
  refine (markI_full W1.heap.size _ _ R' wa hGa.out lR.out).mono ?_
  rintro e wb ⟨rfl, hGb, hgb⟩
  have hbb : Below w3.heap.size wa wb := (Below.refl _ _).grown hgb (by have := hSa.out; omega) (fun g hg => by have := hGl.out g hg; omega)
  have Lb : Below w.heap.size w wb := La.trans (hbb.mono hlow)
  have hWb : Hid (OI wb 0 (.slice sW R'.length cW) R') := hWa.out.same (fun g hg => hbb.block g (hWl.out g hg))
  have hGb : Hid (Els 1 cInt wb W1.heap.size sG (ims 1 R'.length)) := by
    have h5 := hGb
    rw [show (Value.slice sG R'.length cG) = .slice sG (ims 1 R'.length).length cG by rw [ims_len]] at h5
    exact h5.els
  clear hWa hGa La hSa hbb hgb
  go_wp2_with fail
  refine (heldI_full W1.heap.size sG R'.length cG wb hGb.out lR.out).mono ?_
  rintro e wc ⟨rfl, hbc⟩
  have Lc := bl_trans Lb hbc
  have hWc : Hid (OI wc 0 (.slice sW R'.length cW) R') := hWb.out.later hbc
  have hGc : Hid (Els 1 cInt wc W1.heap.size sG (ims 1 R'.length)) := hGb.out.later cInt_keeps hbc
  have qn : decide ((1 : Int) + (R'.length : Int) < 0) = false := by simp; omega
  have qm : (((1 : Int) + (R'.length : Int)) != (1 + (R'.length : Int))) = false := by simp
  clear hWb hGb Lb hbc
  -- another call
  go_wp2_with fail
  refine (toCmdS_made s c L 0 _ (HL.out.later cCmd_keeps Lc) KV.out).mono ?_
  rintro e wd ⟨gd, rfl, ed, dd, hbd⟩
  have Ld := bl_trans Lc hbd
  have hWd : Hid (OI wd 0 (.slice sW R'.length cW) R') := hWc.out.later hbd
  have hGd : Hid (Els 1 cInt wd W1.heap.size sG (ims 1 R'.length)) := hGc.out.later cInt_keeps hbd
  have DD : Hid (Els 9 cCmd wd 0 _ L) := dd.drop cCmd_drops (Nat.zero_le _)
  clear hWc hGc Lc hbd ed dd
  go_wp2_with fail
  refine (implTargets_any _ _ L wd DD.out KV.out).mono ?_
  rintro e we ⟨⟨sH, cH, R2, rfl, hH, hSH⟩, hbe⟩
  obtain rfl : R2 = R' := hSH.same HSW.out
  have Le := bl_trans Ld hbe
  have hWe : Hid (OI we 0 (.slice sW R2.length cW) R2) := hWd.out.later hbe
  have hGe : Hid (Els 1 cInt we W1.heap.size sG (ims 1 R2.length)) := hGd.out.later cInt_keeps hbe
  have hHe : Hid (OI we wd.heap.size (.slice sH R2.length cH) R2) := hH
  clear hWd hGd Ld hbe hH hSH DD
  go_wp2_with fail
  refine (eqI_more _ _ _ _ R2 _ _ we hHe.out.els hWe.out.els lR.out).mono ?_
  rintro e wf ⟨rfl, hbf⟩
  have Lf := bl_trans Le hbf
  have hGf : Hid (Els 1 cInt wf W1.heap.size sG (ims 1 R2.length)) := hGe.out.later cInt_keeps hbf
  clear hWe hGe hHe Le hbf
  go_wp2_with fail
  refine (heldI_full W1.heap.size sG R2.length cG wf hGf.out lR.out).mono ?_
  rintro e wg ⟨rfl, hbg⟩
  have Lg := bl_trans Lf hbg
  clear hGf Lf hbg
  go_wp2_with fail
  go_ret
  exact ⟨rfl, Lg⟩
end Go.Proofs.Ytofpkbnocbmgkaa
