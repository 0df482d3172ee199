import Derived.Test.YtgfchpbdoebmbaaTe
namespace Go.Proofs.Ytgfchpbdoebmbaa
open Go.RowKit
set_option linter.unusedVariables false
set_option linter.unusedSimpArgs false

/-- what a mark makes of a cell: a number for a number. -/
def Alike (u v : Value) : Prop := u = v ∨ (∃ i j, u = .int .i64 i ∧ v = .int .i64 j) ∨ (∃ i j, u = .float .f64 i ∧ v = .float .f64 j)
/-- marking: from w0 on nothing has turned but numbers in the blocks from lo on that W1 has. -/
structure Mr (lo : Nat) (W1 w0 w : World) : Prop where
  be : Below lo w0 w
  s1 : W1.heap.size ≤ w.heap.size
  out : ∀ k, W1.heap.size ≤ k → k < w0.heap.size → w.heap[k]? = w0.heap[k]?
  al : ∀ b o u, lo ≤ b → b < W1.heap.size → W1.cell? ⟨b, o, none⟩ = some u → ∃ v, w.cell? ⟨b, o, none⟩ = some v ∧ Alike u v
  fz : ∀ b o, lo ≤ b → b < W1.heap.size → w.frozen? ⟨b, o, none⟩ = W1.frozen? ⟨b, o, none⟩
theorem Blk.same' {w w' : World} {n : Nat} {c : Array Value} {t : TypeId} (h : Blk w n c t) (hb : w'.heap[n]? = w.heap[n]?) : Blk w' n c t := by unfold Blk; rw [hb]; exact h
section
variable {lo : Nat} {W1 w0 w w' : World}
theorem Mr.start (hb : Below W1.heap.size W1 w0) (lo : Nat) : Mr lo W1 w0 w0 :=
  ⟨Below.refl _ _, hb.size, fun _ _ _ => rfl, fun b o u _ hl hc => ⟨u, (hb.cell (p := ⟨b, o, none⟩) hl).trans hc, Or.inl rfl⟩, fun b o _ hl => hb.frozen (p := ⟨b, o, none⟩) hl⟩
theorem Mr.later (h : Mr lo W1 w0 w) (hb : Below w.heap.size w w') (hlo : lo ≤ w0.heap.size) : Mr lo W1 w0 w' := by
  have hs := h.be.size
  have h1 := h.s1
  have h2 := hb.size
  exact ⟨h.be.trans (hb.mono (by omega)), by omega, fun k h3 h4 => (hb.block k (by omega)).trans (h.out k h3 h4), fun b o u h3 h4 hc => by
    obtain ⟨v, hv, ha⟩ := h.al b o u h3 h4 hc
    exact ⟨v, (hb.cell (p := ⟨b, o, none⟩) (show b < w.heap.size by omega)).trans hv, ha⟩, fun b o h3 h4 => (hb.frozen (p := ⟨b, o, none⟩) (show b < w.heap.size by omega)).trans (h.fz b o h3 h4)⟩
theorem Mr.alloc (h : Mr lo W1 w0 w) (hlo : lo ≤ w0.heap.size) (ob : Obj) : Mr lo W1 w0 (w.alloc ob) := h.later (bl_alloc (Below.refl _ w) ob) hlo
theorem Mr.set (h : Mr lo W1 w0 w) {b o : Nat} {u v : Value} (hb : lo ≤ b) (hl : b < W1.heap.size) (hc : W1.cell? ⟨b, o, none⟩ = some u) (hA : Alike u v) : Mr lo W1 w0 (w.setCell ⟨b, o, none⟩ v) := by
  refine ⟨h.be.setCell hb v, by simpa using h.s1, fun k h3 h4 => ?_, fun b' o' u' h3 h4 hc' => ?_, fun b' o' h3 h4 => (World.frozen?_setCell _ _ _ _).trans (h.fz b' o' h3 h4)⟩
  · rw [Below.heap_setCell w ⟨b, o, none⟩ v k (by dsimp only; omega)]
    exact h.out k h3 h4
  · by_cases e : b = b' ∧ o = o'
    · obtain ⟨rfl, rfl⟩ := e
      obtain ⟨x, hx, _⟩ := h.al b o u' h3 h4 hc'
      rw [hc] at hc'
      cases hc'
      exact ⟨v, World.cell?_setCell_same _ _ _ hx, hA⟩
    · obtain ⟨x, hx, hax⟩ := h.al b' o' u' h3 h4 hc'
      exact ⟨x, (World.cell?_setCell_other _ _ _ _ (fun q => e (by simpa using q))).trans hx, hax⟩
theorem Mr.re (h : Mr lo W1 w0 w) : Mr lo W1 w w := ⟨Below.refl _ _, h.s1, fun _ _ _ => rfl, h.al, h.fz⟩
theorem Mr.join (h : Mr lo W1 w0 w) (g : Mr lo W1 w w') : Mr lo W1 w0 w' :=
  ⟨h.be.trans g.be, g.s1, fun k h1 h2 => (g.out k h1 (by have := h.be.size; omega)).trans (h.out k h1 h2), g.al, g.fz⟩
theorem Mr.blk (h : Mr lo W1 w0 w) {n : Nat} {c : Array Value} {t : TypeId} (hn : W1.heap.size ≤ n) (hb : Blk w0 n c t) : Blk w n c t := hb.same' (h.out n hn hb.lt)
theorem Mr.setI (h : Mr lo W1 w0 w) {b o : Nat} {i : Int} (hb : lo ≤ b) (hl : b < W1.heap.size) (hc : W1.cell? ⟨b, o, none⟩ = some (.int .i64 i)) (j : Int) : Mr lo W1 w0 (w.setCell ⟨b, o, none⟩ (.int .i64 j)) := h.set hb hl hc (Or.inr (Or.inl ⟨_, _, rfl, rfl⟩))
theorem Mr.setF (h : Mr lo W1 w0 w) {b o : Nat} {i : Nat} (hb : lo ≤ b) (hl : b < W1.heap.size) (hc : W1.cell? ⟨b, o, none⟩ = some (.float .f64 i)) (j : Nat) : Mr lo W1 w0 (w.setCell ⟨b, o, none⟩ (.float .f64 j)) := h.set hb hl hc (Or.inr (Or.inr ⟨_, _, rfl, rfl⟩))
theorem Mr.int (h : Mr lo W1 w0 w) {b o : Nat} {i : Int} (hb : lo ≤ b) (hl : b < W1.heap.size) (hc : W1.cell? ⟨b, o, none⟩ = some (.int .i64 i)) : ∃ j, w.cell? ⟨b, o, none⟩ = some (.int .i64 j) := by
  obtain ⟨v, hv, ha⟩ := h.al b o _ hb hl hc
  rcases ha with rfl | ⟨_, j, _, rfl⟩ | ⟨_, j, e, _⟩
  · exact ⟨_, hv⟩
  · exact ⟨_, hv⟩
  · cases e
theorem Mr.float (h : Mr lo W1 w0 w) {b o : Nat} {i : Nat} (hb : lo ≤ b) (hl : b < W1.heap.size) (hc : W1.cell? ⟨b, o, none⟩ = some (.float .f64 i)) : ∃ j, w.cell? ⟨b, o, none⟩ = some (.float .f64 j) := by
  obtain ⟨v, hv, ha⟩ := h.al b o _ hb hl hc
  rcases ha with rfl | ⟨_, j, e, _⟩ | ⟨_, j, _, rfl⟩
  · exact ⟨_, hv⟩
  · cases e
  · exact ⟨_, hv⟩
theorem Mr.sl (h : Mr lo W1 w0 w) {b o : Nat} {s : Option Addr} {n c : Nat} (hb : lo ≤ b) (hl : b < W1.heap.size) (hc : W1.cell? ⟨b, o, none⟩ = some (.slice s n c)) : w.cell? ⟨b, o, none⟩ = some (.slice s n c) := by
  obtain ⟨v, hv, ha⟩ := h.al b o _ hb hl hc
  rcases ha with rfl | ⟨_, j, e, _⟩ | ⟨_, j, e, _⟩
  · exact hv
  · cases e
  · cases e
end
theorem Els.free {α : Type} {k : Nat} {E : World → Nat → List Value → α → Prop} {w : World} {B b o : Nat} {L : List α} (h : Els k E w B (some ⟨b, o, none⟩) L) (h0 : 0 < B) (hL : ¬ L = []) : ∀ j, w.frozen? ⟨b, j, none⟩ = false := by
  rcases h with e | ⟨b', o', e, _, _, _, hz⟩
  · exact absurd e hL
  · cases e
    exact hz h0
theorem not_nil {α : Type} {L : List α} {j : Nat} (h : j < L.length) : ¬ L = [] := by rintro rfl; simp at h

set_option maxHeartbeats 2000000 in
theorem markI_w (lo : Nat) (W1 w0 : World) (s : Option Addr) (c : Nat) (L : List Int) (k : Int) (w : World) (hE : Els 1 cInt W1 lo s L) (hp : 0 < lo) (h : Mr lo W1 w0 w) (hl : L.length ≤ 1048576) (k0 : 0 ≤ k) (k1 : k ≤ 9000000000000000000) :
    Calls Try.prog 31 #[.slice s L.length c, .int .i64 k] w fun e w' => e = .returned (.int .i64 (k + (L.length : Int))) ∧ Mr lo W1 w0 w' := by
  go_enter Try.func31, Try.ntmps31
  go_wp2_with fail
  go_loopw [1, 5] (fun x i wr => ∃ m : Nat, m ≤ L.length ∧ i = .int .i64 m ∧ x = .int .i64 (k + (m : Int)) ∧ Hid (Mr lo W1 w0 wr)) (fun _ i _ => L.length - (intOf i).toNat)
  case atStart => exact ⟨0, Nat.zero_le _, rfl, by simp, h⟩
  case round =>
    obtain ⟨m, hm, rfl, rfl, hM⟩ := hrel
    by_cases hlt : m < L.length
    · obtain ⟨a, ha⟩ := get_some hlt
      obtain ⟨b, o, rfl, hB, hb, e0⟩ := eInt_cells hE ha
      have hfz := fun j => (hM.out.fz b j hB hb).trans (hE.free hp (not_nil hlt) j)
      obtain ⟨j0, c0⟩ := hM.out.int hB hb e0
      have HN : Hid (Mr lo W1 w0 (wr.setCell ⟨b, o + m, none⟩ (.int .i64 (k + (m : Int))))) := hM.out.setI hB hb e0 _
      clear hM h e0 hE ha
      go_wp2_with fail
      refine ⟨⟨m + 1, by omega, by go_num, ?_, HN⟩, by simp [intOf]; omega⟩
      congr 1; simp; omega
    · have hm' : m = L.length := by omega
      subst hm'
      go_wp2_with fail
      go_ret
      exact ⟨rfl, hM.out⟩

end Go.Proofs.Ytgfchpbdoebmbaa
