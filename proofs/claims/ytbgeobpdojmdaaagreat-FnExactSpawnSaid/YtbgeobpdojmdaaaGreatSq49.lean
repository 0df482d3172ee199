import Derived.Test.YtbgeobpdojmdaaaGreatSq43
namespace Go.Proofs.YtbgeobpdojmdaaaGreat
set_option linter.unusedVariables false
set_option linter.unusedSimpArgs false
section
open Go.RowKit
def Alike (u v : Value) : Prop := u = v ∨ (∃ i j, u = .int .i64 i ∧ v = .int .i64 j) ∨ (∃ i j, u = .float .f64 i ∧ v = .float .f64 j)
structure Mr (lo : Nat) (W1 w0 w : World) : Prop where
 be : Below lo w0 w
 s1 : W1.heap.size ≤ w.heap.size
 out : ∀ k, W1.heap.size ≤ k → k < w0.heap.size → w.heap[k]? = w0.heap[k]?
 al : ∀ b o u, lo ≤ b → b < W1.heap.size → W1.cell? ⟨b, o, none⟩ = some u → ∃ v, w.cell? ⟨b, o, none⟩ = some v ∧ Alike u v
 fz : ∀ b o, lo ≤ b → b < W1.heap.size → w.frozen? ⟨b, o, none⟩ = W1.frozen? ⟨b, o, none⟩
theorem Blk.same' {w w' : World} {n : Nat} {c : Array Value} {t : TypeId} (h : Blk w n c t) (hb : w'.heap[n]? = w.heap[n]?) : Blk w' n c t := by unfold Blk; rw [hb]; exact h
section
variable {lo : Nat} {W1 w0 w w' : World}
theorem Mr.start (hb : Below W1.heap.size W1 w0) (lo : Nat) : Mr lo W1 w0 w0 :=
 ⟨Below.refl _ _, hb.size, fun _ _ _ => rfl, fun b o u _ hl hc => ⟨u, (hb.cell (p := ⟨b, o, none⟩) hl).trans hc, Or.inl rfl⟩, fun b o _ hl => hb.frozen (p := ⟨b, o, none⟩) hl⟩
theorem Mr.later (h : Mr lo W1 w0 w) (hb : Below w.heap.size w w') (hlo : lo ≤ w0.heap.size) : Mr lo W1 w0 w' := by
 have hs := h.be.size
 have h1 := h.s1
 have h2 := hb.size
 exact ⟨h.be.trans (hb.mono (by omega)), by omega, fun k h3 h4 => (hb.block k (by omega)).trans (h.out k h3 h4), fun b o u h3 h4 hc => by
  obtain ⟨v, hv, ha⟩ := h.al b o u h3 h4 hc
  exact ⟨v, (hb.cell (p := ⟨b, o, none⟩) (show b < w.heap.size by omega)).trans hv, ha⟩, fun b o h3 h4 => (hb.frozen (p := ⟨b, o, none⟩) (show b < w.heap.size by omega)).trans (h.fz b o h3 h4)⟩
theorem Mr.alloc (h : Mr lo W1 w0 w) (hlo : lo ≤ w0.heap.size) (ob : Obj) : Mr lo W1 w0 (w.alloc ob) := h.later (bl_alloc (Below.refl _ w) ob) hlo
theorem Mr.set (h : Mr lo W1 w0 w) {b o : Nat} {u v : Value} (hb : lo ≤ b) (hl : b < W1.heap.size) (hc : W1.cell? ⟨b, o, none⟩ = some u) (hA : Alike u v) : Mr lo W1 w0 (w.setCell ⟨b, o, none⟩ v) := by
 refine ⟨h.be.setCell hb v, by simpa using h.s1, fun k h3 h4 => ?_, fun b' o' u' h3 h4 hc' => ?_, fun b' o' h3 h4 => (World.frozen?_setCell _ _ _ _).trans (h.fz b' o' h3 h4)⟩
 ·
  rw [Below.heap_setCell w ⟨b, o, none⟩ v k (by dsimp only; omega)]
  exact h.out k h3 h4
 by_cases e : b = b' ∧ o = o'
 ·
  obtain ⟨rfl, rfl⟩ := e
  obtain ⟨x, hx, _⟩ := h.al b o u' h3 h4 hc'
  rw [hc] at hc'
  cases hc'
  exact ⟨v, World.cell?_setCell_same _ _ _ hx, hA⟩
 obtain ⟨x, hx, hax⟩ := h.al b' o' u' h3 h4 hc'
 exact ⟨x, (World.cell?_setCell_other _ _ _ _ (fun q => e (by simpa using q))).trans hx, hax⟩
theorem Mr.re (h : Mr lo W1 w0 w) : Mr lo W1 w w := ⟨Below.refl _ _, h.s1, fun _ _ _ => rfl, h.al, h.fz⟩
theorem Mr.join (h : Mr lo W1 w0 w) (g : Mr lo W1 w w') : Mr lo W1 w0 w' :=
 ⟨h.be.trans g.be, g.s1, fun k h1 h2 => (g.out k h1 (by have := h.be.size; omega)).trans (h.out k h1 h2), g.al, g.fz⟩
theorem Mr.blk (h : Mr lo W1 w0 w) {n : Nat} {c : Array Value} {t : TypeId} (hn : W1.heap.size ≤ n) (hb : Blk w0 n c t) : Blk w n c t := hb.same' (h.out n hn hb.lt)
theorem Mr.setI (h : Mr lo W1 w0 w) {b o : Nat} {i : Int} (hb : lo ≤ b) (hl : b < W1.heap.size) (hc : W1.cell? ⟨b, o, none⟩ = some (.int .i64 i)) (j : Int) : Mr lo W1 w0 (w.setCell ⟨b, o, none⟩ (.int .i64 j)) := h.set hb hl hc (Or.inr (Or.inl ⟨_, _, rfl, rfl⟩))
theorem Mr.setF (h : Mr lo W1 w0 w) {b o : Nat} {i : Nat} (hb : lo ≤ b) (hl : b < W1.heap.size) (hc : W1.cell? ⟨b, o, none⟩ = some (.float .f64 i)) (j : Nat) : Mr lo W1 w0 (w.setCell ⟨b, o, none⟩ (.float .f64 j)) := h.set hb hl hc (Or.inr (Or.inr ⟨_, _, rfl, rfl⟩))
theorem Mr.int (h : Mr lo W1 w0 w) {b o : Nat} {i : Int} (hb : lo ≤ b) (hl : b < W1.heap.size) (hc : W1.cell? ⟨b, o, none⟩ = some (.int .i64 i)) : ∃ j, w.cell? ⟨b, o, none⟩ = some (.int .i64 j) := by
 obtain ⟨v, hv, ha⟩ := h.al b o _ hb hl hc
 rcases ha with rfl | ⟨_, j, _, rfl⟩ | ⟨_, j, e, _⟩
 ·
  exact ⟨_, hv⟩
 ·
  exact ⟨_, hv⟩
 cases e
theorem Mr.float (h : Mr lo W1 w0 w) {b o : Nat} {i : Nat} (hb : lo ≤ b) (hl : b < W1.heap.size) (hc : W1.cell? ⟨b, o, none⟩ = some (.float .f64 i)) : ∃ j, w.cell? ⟨b, o, none⟩ = some (.float .f64 j) := by
 obtain ⟨v, hv, ha⟩ := h.al b o _ hb hl hc
 rcases ha with rfl | ⟨_, j, e, _⟩ | ⟨_, j, _, rfl⟩
 ·
  exact ⟨_, hv⟩
 ·
  cases e
 exact ⟨_, hv⟩
theorem Mr.sl (h : Mr lo W1 w0 w) {b o : Nat} {s : Option Addr} {n c : Nat} (hb : lo ≤ b) (hl : b < W1.heap.size) (hc : W1.cell? ⟨b, o, none⟩ = some (.slice s n c)) : w.cell? ⟨b, o, none⟩ = some (.slice s n c) := by
 obtain ⟨v, hv, ha⟩ := h.al b o _ hb hl hc
 rcases ha with rfl | ⟨_, j, e, _⟩ | ⟨_, j, e, _⟩
 ·
  exact hv
 ·
  cases e
 cases e
end
theorem Els.free {α : Type} {k : Nat} {E : World → Nat → List Value → α → Prop} {w : World} {B b o : Nat} {L : List α} (h : Els k E w B (some ⟨b, o, none⟩) L) (h0 : 0 < B) (hL : ¬ L = []) : ∀ j, w.frozen? ⟨b, j, none⟩ = false := by
 rcases h with e | ⟨b', o', e, _, _, _, hz⟩
 ·
  exact absurd e hL
 cases e
 exact hz h0
theorem not_nil {α : Type} {L : List α} {j : Nat} (h : j < L.length) : ¬ L = [] := by rintro rfl; simp at h
set_option maxHeartbeats 2000000 in
theorem markI_w (lo : Nat) (W1 w0 : World) (s : Option Addr) (c : Nat) (L : List Int) (k : Int) (w : World) (hE : Els 1 cInt W1 lo s L) (hp : 0 < lo) (h : Mr lo W1 w0 w) (hl : L.length ≤ 1048576) (k0 : 0 ≤ k) (k1 : k ≤ 9000000000000000000) :
  Calls Tryz.prog 83 #[.slice s L.length c, .int .i64 k] w fun e w' => e = .returned (.int .i64 (k + (L.length : Int))) ∧ Mr lo W1 w0 w' := by
 go_enter Tryz.func83, Tryz.ntmps83
 go_wp2_with fail; go_loopw [1, 5] (fun x i wr => ∃ m : Nat, m ≤ L.length ∧ i = .int .i64 m ∧ x = .int .i64 (k + (m : Int)) ∧ Hid (Mr lo W1 w0 wr)) (fun _ i _ => L.length - (intOf i).toNat)
 case atStart => exact ⟨0, Nat.zero_le _, rfl, by simp, h⟩
 obtain ⟨m, hm, rfl, rfl, hM⟩ := hrel
 by_cases hlt : m < L.length
 ·
  obtain ⟨a, ha⟩ := get_some hlt
  obtain ⟨b, o, rfl, hB, hb, e0⟩ := eInt_cells hE ha
  have hfz := fun j => (hM.out.fz b j hB hb).trans (hE.free hp (not_nil hlt) j)
  obtain ⟨j0, c0⟩ := hM.out.int hB hb e0
  have HN : Hid (Mr lo W1 w0 (wr.setCell ⟨b, o + m, none⟩ (.int .i64 (k + (m : Int))))) := hM.out.setI hB hb e0 _
  clear hM h e0 hE ha; go_wp2_with fail; refine ⟨⟨m + 1, by omega, by go_num, ?_, HN⟩, by simp [intOf]; omega⟩
  congr 1; simp; omega
 have hm' : m = L.length := by omega
 subst hm'
 go_wp2_with fail; go_ret; exact ⟨rfl, hM.out⟩
set_option maxHeartbeats 2000000 in
theorem markE_w (lo : Nat) (W1 w0 : World) (s : Option Addr) (c : Nat) (L : List E2) (k : Int) (w : World) (hE : Els 2 cEnt W1 lo s L) (hp : 0 < lo) (h : Mr lo W1 w0 w) (hl : L.length ≤ 1048576) (k0 : 0 ≤ k) (k1 : k ≤ 9000000000000000000) :
  Calls Tryz.prog 84 #[.slice s L.length c, .int .i64 k] w fun e w' => e = .returned (.int .i64 (k + 2 * (L.length : Int))) ∧ Mr lo W1 w0 w' := by
 go_enter Tryz.func84, Tryz.ntmps84
 go_wp2_with fail; go_loopw [1, 5] (fun x i wr => ∃ m : Nat, m ≤ L.length ∧ i = .int .i64 m ∧ x = .int .i64 (k + 2 * (m : Int)) ∧ Hid (Mr lo W1 w0 wr)) (fun _ i _ => L.length - (intOf i).toNat)
 case atStart => exact ⟨0, Nat.zero_le _, rfl, by simp, h⟩
 obtain ⟨m, hm, rfl, rfl, hM⟩ := hrel
 by_cases hlt : m < L.length
 ·
  obtain ⟨a, ha⟩ := get_some hlt
  obtain ⟨b, o, rfl, hB, hb, e0, e1⟩ := eEnt_cells hE ha
  have hfz := fun j => (hM.out.fz b j hB hb).trans (hE.free hp (not_nil hlt) j)
  obtain ⟨j0, c0⟩ := hM.out.int hB hb e0
  obtain ⟨j1, c1⟩ := hM.out.int hB hb e1
  have HN : Hid (Mr lo W1 w0 ((wr.setCell ⟨b, o + m * 2, none⟩ (.int .i64 (k + 2 * (m : Int)))).setCell ⟨b, o + m * 2 + 1, none⟩ (.int .i64 (k + 2 * (m : Int) + 1)))) := (hM.out.setI hB hb e0 _).setI hB hb e1 _
  clear hM h e0 e1 hE ha; go_wp2_with fail; refine ⟨⟨m + 1, by omega, by go_num, ?_, HN⟩, by simp [intOf]; omega⟩
  congr 1; simp; omega
 have hm' : m = L.length := by omega
 subst hm'
 go_wp2_with fail; go_ret; exact ⟨rfl, hM.out⟩
set_option maxHeartbeats 2000000 in
theorem markV_w (lo : Nat) (W1 w0 : World) (s : Option Addr) (c : Nat) (L : List V4) (k : Int) (w : World) (hE : Els 4 cVal W1 lo s L) (hp : 0 < lo) (h : Mr lo W1 w0 w) (hl : L.length ≤ 1048576) (k0 : 0 ≤ k) (k1 : k ≤ 9000000000000000000) :
  Calls Tryz.prog 44 #[.slice s L.length c, .int .i64 k] w fun e w' => e = .returned (.int .i64 (k + 4 * (L.length : Int))) ∧ Mr lo W1 w0 w' := by
 go_enter Tryz.func44, Tryz.ntmps44
 go_wp2_with fail; go_loopw [1, 5] (fun x i wr => ∃ m : Nat, m ≤ L.length ∧ i = .int .i64 m ∧ x = .int .i64 (k + 4 * (m : Int)) ∧ Hid (Mr lo W1 w0 wr)) (fun _ i _ => L.length - (intOf i).toNat)
 case atStart => exact ⟨0, Nat.zero_le _, rfl, by simp, h⟩
 obtain ⟨m, hm, rfl, rfl, hM⟩ := hrel
 by_cases hlt : m < L.length
 ·
  obtain ⟨a, ha⟩ := get_some hlt
  obtain ⟨b, o, rfl, hB, hb, _, e0, e1, e2, e3⟩ := eVal_cells hE ha
  have hfz := fun j => (hM.out.fz b j hB hb).trans (hE.free hp (not_nil hlt) j)
  obtain ⟨j0, c0⟩ := hM.out.int hB hb e0
  obtain ⟨j1, c1⟩ := hM.out.int hB hb e1
  obtain ⟨j2, c2⟩ := hM.out.float hB hb e2
  obtain ⟨j3, c3⟩ := hM.out.float hB hb e3
  have HN : Hid (Mr lo W1 w0 ((((wr.setCell ⟨b, o + m * 4, none⟩ (.int .i64 (k + 4 * (m : Int)))).setCell ⟨b, o + m * 4 + 1, none⟩ (.int .i64 (k + 4 * (m : Int) + 1))).setCell ⟨b, o + m * 4 + 2, none⟩ (.float .f64 (floatOfInt .f64 (k + 4 * (m : Int) + 1 + 1)))).setCell ⟨b, o + m * 4 + 3, none⟩ (.float .f64 (floatOfInt .f64 (k + 4 * (m : Int) + 1 + 1 + 1))))) := (((hM.out.setI hB hb e0 _).setI hB hb e1 _).setF hB hb e2 _).setF hB hb e3 _
  clear hM h e0 e1 e2 e3 hE ha; go_wp2_with fail; refine ⟨⟨m + 1, by omega, by go_num, ?_, HN⟩, by simp [intOf]; omega⟩
  congr 1; simp; omega
 have hm' : m = L.length := by omega
 subst hm'
 go_wp2_with fail; go_ret; exact ⟨rfl, hM.out⟩
set_option maxHeartbeats 2000000 in
theorem markVV_w (lo : Nat) (W1 w0 : World) (s : Option Addr) (c : Nat) (L : List (List V4)) (k : Int) (w : World) (hE : Els 1 cVals W1 lo s L) (hp : 0 < lo) (h : Mr lo W1 w0 w) (hl : kLL L) (k0 : 0 ≤ k) (k1 : k + 4194304 * (L.length : Int) ≤ 9000000000000000000) :
  Calls Tryz.prog 85 #[.slice s L.length c, .int .i64 k] w fun e w' => (∃ k', e = .returned (.int .i64 k') ∧ k ≤ k' ∧ k' ≤ k + 4194304 * (L.length : Int)) ∧ Mr lo W1 w0 w' := by
 obtain ⟨hl, hls⟩ := hl
 have HLS : Hid (∀ l ∈ L, l.length ≤ 1048576) := hls
 clear hls; go_enter Tryz.func85, Tryz.ntmps85
 go_wp2_with fail; go_loopw [1, 5] (fun x i wr => ∃ (m : Nat) (q : Int), m ≤ L.length ∧ i = .int .i64 m ∧ x = .int .i64 q ∧ k ≤ q ∧ q ≤ k + 4194304 * (m : Int) ∧ Hid (Mr lo W1 w0 wr)) (fun _ i _ => L.length - (intOf i).toNat)
 case atStart => exact ⟨0, k, Nat.zero_le _, rfl, rfl, by omega, by omega, h⟩
 obtain ⟨m, q, hm, rfl, rfl, q0, q1, hM⟩ := hrel
 by_cases hlt : m < L.length
 ·
  obtain ⟨a, ha⟩ := get_some hlt
  obtain ⟨b, o, rfl, hB, hb, s', c', e0, hE'⟩ := eVals_cells hE ha
  have hla := HLS.out a (List.mem_of_getElem? ha)
  have c0 := hM.out.sl hB hb e0
  clear h e0 hE ha; go_wp2_with fail; refine (markV_w lo W1 w0 s' c' a q _ hE' hp hM.out hla (by omega) (by omega)).mono ?_
  rintro e w2 ⟨rfl, hM2⟩
  have HN : Hid (Mr lo W1 w0 w2) := hM2
  clear hM hM2 c0 hE'; go_wp2_with fail; go_roundw
  case rel => exact ⟨m + 1, _, by omega, by go_num, rfl, by omega, by omega, HN⟩
  case measure => simp [intOf]; omega
 have hm' : m = L.length := by omega
 subst hm'
 go_wp2_with fail; go_ret; exact ⟨⟨q, rfl, q0, q1⟩, hM.out⟩
set_option maxHeartbeats 2000000 in
theorem markT_w (lo : Nat) (W1 w0 : World) (s : Option Addr) (c : Nat) (L : List Tab) (k : Int) (w : World) (hE : Els 3 cTab W1 lo s L) (hp : 0 < lo) (h : Mr lo W1 w0 w) (hl : kTabs L) (k0 : 0 ≤ k) (k1 : k + 4398049656832 * (L.length : Int) ≤ 8000000000000000000) :
  Calls Tryz.prog 43 #[.slice s L.length c, .int .i64 k] w fun e w' => (∃ k', e = .returned (.int .i64 k') ∧ k ≤ k' ∧ k' ≤ k + 4398049656832 * (L.length : Int)) ∧ Mr lo W1 w0 w' := by
 obtain ⟨hl, hls⟩ := hl
 have HLS : Hid (∀ l ∈ L, kTab l) := hls
 clear hls; go_enter Tryz.func43, Tryz.ntmps43
 go_wp2_with fail; go_loopw [1, 5] (fun x i wr => ∃ (m : Nat) (q : Int), m ≤ L.length ∧ i = .int .i64 m ∧ x = .int .i64 q ∧ k ≤ q ∧ q ≤ k + 4398049656832 * (m : Int) ∧ Hid (Mr lo W1 w0 wr)) (fun _ i _ => L.length - (intOf i).toNat)
 case atStart => exact ⟨0, k, Nat.zero_le _, rfl, rfl, by omega, by omega, h⟩
 obtain ⟨m, q, hm, rfl, rfl, q0, q1, hM⟩ := hrel
 by_cases hlt : m < L.length
 ·
  obtain ⟨a, ha⟩ := get_some hlt
  obtain ⟨b, o, rfl, hB, hb, s1, c1, s2, c2, s3, c3, e0, e1, e2, f1, f2, f3⟩ := eTab_cells hE ha
  obtain ⟨a1, a2, a3⟩ := HLS.out a (List.mem_of_getElem? ha)
  have la := a3.1
  have x0 := hM.out.sl hB hb e0
  have E1 : Hid (W1.cell? ⟨b, o + m * 3 + 1, none⟩ = some (.slice s2 a.rows.length c2)) := e1
  have E2' : Hid (W1.cell? ⟨b, o + m * 3 + 2, none⟩ = some (.slice s3 a.cells.length c3)) := e2
  clear h e0 e1 e2 hE ha; go_wp2_with fail; refine (markI_w lo W1 w0 s1 c1 a.cols q _ f1 hp hM.out a1 (by omega) (by omega)).mono ?_
  rintro e w2 ⟨rfl, hM2⟩
  have x1 := hM2.sl hB hb E1.out
  clear hM x0 f1; go_wp2_with fail; refine (markE_w lo W1 w0 s2 c2 a.rows _ _ f2 hp hM2 a2 (by omega) (by omega)).mono ?_
  rintro e w3 ⟨rfl, hM3⟩
  have x2 := hM3.sl hB hb E2'.out
  clear hM2 x1 f2; go_wp2_with fail; refine (markVV_w lo W1 w0 s3 c3 a.cells _ _ f3 hp hM3 a3 (by omega) (by omega)).mono ?_
  rintro e w4 ⟨⟨q', rfl, q2, q3⟩, hM4⟩
  have HN : Hid (Mr lo W1 w0 w4) := hM4
  clear hM3 hM4 x2 f3; go_wp2_with fail; go_roundw
  case rel => exact ⟨m + 1, q', by omega, by go_num, rfl, by omega, by omega, HN⟩
  case measure => simp [intOf]; omega
 have hm' : m = L.length := by omega
 subst hm'
 go_wp2_with fail; go_ret; exact ⟨⟨q, rfl, q0, q1⟩, hM.out⟩
set_option maxHeartbeats 2000000 in
theorem markEnts_w (lo : Nat) (W1 w0 : World) (s1 s2 : Option Addr) (c1 c2 : Nat) (L M : List Int) (k : Int) (w : World) (h1 : Els 1 cInt W1 lo s1 L) (h2 : Els 1 cInt W1 lo s2 M) (hp : 0 < lo) (hlo : lo ≤ w0.heap.size) (h : Mr lo W1 w0 w) (l1 : L.length ≤ 1048576) (l2 : M.length ≤ 1048576) (k0 : 0 ≤ k) (k1 : k ≤ 8000000000000000000) :
  Calls Tryz.prog 42 #[.agg #[.slice s1 L.length c1, .slice s2 M.length c2], .int .i64 k] w fun e w' => e = .returned (.int .i64 (k + (L.length : Int) + (M.length : Int))) ∧ Mr lo W1 w0 w' := by
 have K := Blk.new w #[.slice s1 L.length c1, .slice s2 M.length c2] 36
 have hA := h.alloc hlo (.cells #[.slice s1 L.length c1, .slice s2 M.length c2] 36)
 obtain ⟨x0, x1, x2⟩ := K.two
 have hs1 := h.s1
 go_enter Tryz.func42, Tryz.ntmps42
 go_wp2_with fail; generalize hX : w.alloc (.cells #[.slice s1 L.length c1, .slice s2 M.length c2] 36) = X at K hA ⊢
 generalize hn : w.heap.size = n at K hs1 ⊢
 clear hX hn x0 x1 x2 h; refine (markI_w lo W1 X s1 c1 L k _ h1 hp hA.re l1 k0 (by omega)).mono ?_
 rintro e w1 ⟨rfl, g1⟩
 have K1 := g1.blk hs1 K
 obtain ⟨x0, x1, x2⟩ := K1.two
 go_wp2_with fail; refine (markI_w lo W1 X s2 c2 M _ _ h2 hp g1 l2 (by omega) (by omega)).mono ?_
 rintro e w2 ⟨rfl, g2⟩
 clear x0 x1 x2; go_wp2_with fail; go_ret; exact ⟨rfl, hA.join g2⟩
set_option maxHeartbeats 2000000 in
theorem markW_w (lo : Nat) (W1 w0 : World) (a1 a2 a3 a4 : Option Addr) (c1 c2 c3 c4 : Nat) (V : Wd) (k : Int) (w : World) (hV : InW W1 lo a1 a2 a3 a4 V) (kv : kW V) (hp : 0 < lo) (hlo : lo ≤ w0.heap.size) (h : Mr lo W1 w0 w) (k0 : 0 ≤ k) (k1 : k ≤ 1000000000000000000) :
  Calls Tryz.prog 17 #[.agg #[.slice a1 V.gens.length c1, .slice a2 V.free.length c2, .slice a3 V.tabs.length c3, .slice a4 V.res.length c4], .int .i64 k] w fun e w' => (∃ k', e = .returned (.int .i64 k') ∧ k ≤ k' ∧ k' ≤ 7000000000000000000) ∧ Mr lo W1 w0 w' := by
 obtain ⟨v1, v2, v3, v4⟩ := kv
 have K := Blk.new w #[.slice a1 V.gens.length c1, .slice a2 V.free.length c2, .slice a3 V.tabs.length c3, .slice a4 V.res.length c4] 40
 have hA := h.alloc hlo (.cells #[.slice a1 V.gens.length c1, .slice a2 V.free.length c2, .slice a3 V.tabs.length c3, .slice a4 V.res.length c4] 40)
 obtain ⟨x0, x1, x2, x3, x4⟩ := K.four'
 have hs1 := h.s1
 have hlx : lo ≤ (w.alloc (.cells #[.slice a1 V.gens.length c1, .slice a2 V.free.length c2, .slice a3 V.tabs.length c3, .slice a4 V.res.length c4] 40)).heap.size := by have := h.be.size; simp; omega
 have v31 := v3.1
 go_enter Tryz.func17, Tryz.ntmps17
 go_wp2_with fail; generalize hX : w.alloc (.cells #[.slice a1 V.gens.length c1, .slice a2 V.free.length c2, .slice a3 V.tabs.length c3, .slice a4 V.res.length c4] 40) = X at K hA hlx ⊢
 generalize hn : w.heap.size = n at K hs1 ⊢
 clear hX hn x0 x1 x2 x3 x4 h; refine (markEnts_w lo W1 X a1 a2 c1 c2 V.gens V.free k _ hV.g hV.f hp hlx hA.re v1 v2 k0 (by omega)).mono ?_
 rintro e w1 ⟨rfl, g1⟩
 have K1 := g1.blk hs1 K
 obtain ⟨x0, x1, x2, x3, x4⟩ := K1.four'
 go_wp2_with fail; refine (markT_w lo W1 X a3 c3 V.tabs _ _ hV.t hp g1 v3 (by omega) (by omega)).mono ?_
 rintro e w2 ⟨⟨q, rfl, q0, q1⟩, g2⟩
 have K2 := g2.blk hs1 K
 clear x0 x1 x2 x3 x4 K1 g1; obtain ⟨x0, x1, x2, x3, x4⟩ := K2.four'
 go_wp2_with fail; refine (markV_w lo W1 X a4 c4 V.res _ _ hV.r hp g2 v4 (by omega) (by omega)).mono ?_
 rintro e w3 ⟨rfl, g3⟩
 clear x0 x1 x2 x3 x4 K2 g2; go_wp2_with fail; go_ret; exact ⟨⟨_, rfl, by omega, by omega⟩, hA.join g3⟩
end
section
open Go.RowKit
set_option maxHeartbeats 4000000 in
theorem eqCell_self (p0 p1 p2 : Int) (p3 p4 : Nat) (w : World) (lx : p3 < 18446744073709551616) (ly : p4 < 18446744073709551616) :
  Calls Tryz.prog 40 #[.agg #[.int .i64 p0, .int .i64 p1, .int .i64 p2, .float .f64 p3, .float .f64 p4], .agg #[.int .i64 p0, .int .i64 p1, .int .i64 p2, .float .f64 p3, .float .f64 p4]] w fun e w' => e = .returned (.bool true) ∧ Below w.heap.size w w' := by
 have hal := alloc_old
 have haf := alloc_oldf
 have HX : Hid (p3 < 18446744073709551616) := lx
 have HY : Hid (p4 < 18446744073709551616) := ly
 clear lx ly; have q0 : (p0 != p0) = false := by simp
 go_enter Tryz.func40, Tryz.ntmps40
 go_wp2_with fail; refine (eqVal_any p1 p2 p3 p4 p1 p2 p3 p4 _ HX.out HY.out HX.out HY.out).mono ?_
 rintro e w2 ⟨rfl, hb2⟩
 rw [eqB_self]
 have L2 : Below w.heap.size w w2 := blq
 go_wp2_with fail; go_ret; exact ⟨rfl, L2⟩
set_option maxHeartbeats 4000000 in
theorem eqCellS_gen (s t : Option Addr) (c d : Nat) (L : List C5) (B C : Nat) (w : World) (hs : Els 5 cCell w B s L) (ht : Els 5 cCell w C t L) (hl : L.length ≤ 1048576) :
  Calls Tryz.prog 15 #[.slice s L.length c, .slice t L.length d] w fun e w' => e = .returned (.bool true) ∧ Below w.heap.size w w' := by
 have hal := alloc_old
 have haf := alloc_oldf
 go_enter Tryz.func15, Tryz.ntmps15
 go_wp2_with fail; go_loopw [5] (fun i wr => ∃ k : Nat, k ≤ L.length ∧ i = .int .i64 k ∧ Below w.heap.size w wr) (fun i _ => L.length - (intOf i).toNat)
 case atStart => exact ⟨0, Nat.zero_le _, rfl, Below.refl _ _⟩
 obtain ⟨k, hk, rfl, hb⟩ := hrel
 by_cases hlt : k < L.length
 ·
  obtain ⟨a, ha⟩ := get_some hlt
  obtain ⟨b, o, rfl, _, hp, hok, e0, e1, e2, e3, e4⟩ := eCell_cells (hs.later cCell_keeps hb) ha
  obtain ⟨b', o', rfl, _, hp', _, f0, f1, f2, f3, f4⟩ := eCell_cells (ht.later cCell_keeps hb) ha
  obtain ⟨p0, p1, p2, p3, p4⟩ := a
  have HX : Hid (p3 < 18446744073709551616) := hok.2.1
  have HY : Hid (p4 < 18446744073709551616) := hok.2.2
  clear hs ht ha hok; go_wp2_with fail; go_region_with (first
   | (go_at_call 40; refine (eqCell_self p0 p1 p2 p3 p4 _ HX.out HY.out).mono ?_; rintro e w2 ⟨rfl, hb2⟩))
  all_goals
   go_wp2_with fail; go_roundw
   case rel =>
    refine ⟨k + 1, by omega, by go_num, ?_⟩
    exact blq
   case measure => simp [intOf]; omega
 go_wp2_with fail; go_ret; exact ⟨rfl, hb⟩
end
section
open Go.RowKit
set_option maxHeartbeats 2000000 in
theorem markCell_w (lo : Nat) (W1 w0 : World) (s : Option Addr) (c : Nat) (L : List C5) (k : Int) (w : World) (hE : Els 5 cCell W1 lo s L) (hp : 0 < lo) (h : Mr lo W1 w0 w) (hl : L.length ≤ 1048576) (k0 : 0 ≤ k) (k1 : k ≤ 9000000000000000000) :
  Calls Tryz.prog 18 #[.slice s L.length c, .int .i64 k] w fun e w' => e = .returned (.int .i64 (k + 5 * (L.length : Int))) ∧ Mr lo W1 w0 w' := by
 go_enter Tryz.func18, Tryz.ntmps18
 go_wp2_with fail; go_loopw [1, 5] (fun x i wr => ∃ m : Nat, m ≤ L.length ∧ i = .int .i64 m ∧ x = .int .i64 (k + 5 * (m : Int)) ∧ Hid (Mr lo W1 w0 wr)) (fun _ i _ => L.length - (intOf i).toNat)
 case atStart => exact ⟨0, Nat.zero_le _, rfl, by simp, h⟩
 obtain ⟨m, hm, rfl, rfl, hM⟩ := hrel
 by_cases hlt : m < L.length
 ·
  obtain ⟨a, ha⟩ := get_some hlt
  obtain ⟨b, o, rfl, hB, hb, _, e0, e1, e2, e3, e4⟩ := eCell_cells hE ha
  have hfz := fun j => (hM.out.fz b j hB hb).trans (hE.free hp (not_nil hlt) j)
  obtain ⟨j0, c0⟩ := hM.out.int hB hb e0
  obtain ⟨j1, c1⟩ := hM.out.int hB hb e1
  obtain ⟨j2, c2⟩ := hM.out.int hB hb e2
  obtain ⟨j3, c3⟩ := hM.out.float hB hb e3
  obtain ⟨j4, c4⟩ := hM.out.float hB hb e4
  have HN : Hid (Mr lo W1 w0 (((((wr.setCell ⟨b, o + m * 5, none⟩ (.int .i64 (k + 5 * (m : Int)))).setCell ⟨b, o + m * 5 + 1, none⟩ (.int .i64 (k + 5 * (m : Int) + 1))).setCell ⟨b, o + m * 5 + 2, none⟩ (.int .i64 (k + 5 * (m : Int) + 1 + 1))).setCell ⟨b, o + m * 5 + 3, none⟩ (.float .f64 (floatOfInt .f64 (k + 5 * (m : Int) + 1 + 1 + 1)))).setCell ⟨b, o + m * 5 + 4, none⟩ (.float .f64 (floatOfInt .f64 (k + 5 * (m : Int) + 1 + 1 + 1 + 1))))) := ((((hM.out.setI hB hb e0 _).setI hB hb e1 _).setI hB hb e2 _).setF hB hb e3 _).setF hB hb e4 _
  clear hM h e0 e1 e2 e3 e4 hE ha; go_wp2_with fail; refine ⟨⟨m + 1, by omega, by go_num, ?_, HN⟩, by simp [intOf]; omega⟩
  congr 1; simp; omega
 have hm' : m = L.length := by omega
 subst hm'
 go_wp2_with fail; go_ret; exact ⟨rfl, hM.out⟩
end
end Go.Proofs.YtbgeobpdojmdaaaGreat
