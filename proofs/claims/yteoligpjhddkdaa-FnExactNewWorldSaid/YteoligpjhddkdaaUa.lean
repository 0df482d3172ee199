import Derived.Test.YteoligpjhddkdaaTe
import Derived.Laws.BytesString
import Derived.Laws.BytesArg
namespace Go.Proofs.Yteoligpjhddkdaa
open Go.RowKit
set_option linter.unusedVariables false
set_option linter.unusedSimpArgs false

theorem one_byte (w : World) (c : Int) : (convert 183 9 (.slice (some ⟨w.heap.size, 0, none⟩) 1 1)).run Try.prog (w.alloc (.cells #[.int .u8 c] 5)) = .ok (.string (ByteArray.empty.push (UInt8.ofNat c.toNat))) (w.alloc (.cells #[.int .u8 c] 5)) := by
  rw [run_convert_bytes_string _ _ _ _ _ _ _ Try.underlying183 Try.underlying5 Try.underlying9]
  rw [run_bytesToString _ _ 1 1 [c] (by simp [go_sem])]
  rfl
theorem push_size (x : UInt8) (t : ByteArray) : (ByteArray.empty.push x ++ t).size = 1 + t.size := by
  rw [ByteArray.size_append]; rfl
theorem m_size (t : ByteArray) : ((⟨#[109]⟩ : ByteArray) ++ t).size = 1 + t.size := by
  rw [ByteArray.size_append]; rfl

set_option maxHeartbeats 1000000 in
theorem markText_any (k : Int) (w : World) (h0 : 1 ≤ k) (h1 : k ≤ 100000000) :
    Calls Try.prog 84 #[.int .i64 k] w fun e w' => (∃ s : ByteArray, e = .returned (.string s) ∧ s.size ≤ maxLen) ∧ Below w.heap.size w w' := by
  have hob := one_byte
  go_enter Try.func84, Try.ntmps84
  go_wp2_with fail
  go_loopw [0, 3] (fun x s wr => ∃ (k : Int) (t : ByteArray), x = .int .i64 k ∧ s = .string t ∧ 0 ≤ k ∧ k ≤ 100000000 ∧ (t.size : Int) + k ≤ 100000000 ∧ Below w.heap.size w wr) (fun x _ _ => (intOf x).toNat)
  case atStart => exact ⟨k, _, rfl, rfl, by omega, by omega, by rw [show ((⟨#[]⟩ : ByteArray).size : Int) = 0 from rfl]; omega, Below.refl _ _⟩
  case round =>
    obtain ⟨k, t, rfl, rfl, k0, k1, kt, hb⟩ := hrel
    have hts : ¬ 9223372036854775807 < 1 + t.size := by omega
    by_cases hk : 0 < k
    · go_wp2_with fail
      refine ⟨⟨k / 10, _, rfl, rfl, by omega, by omega, ?_, bl_alloc hb _⟩, ?_⟩
      · rw [push_size]; omega
      · simp [intOf]; omega
    · have hk0 : k = 0 := by omega
      subst hk0
      go_wp2_with fail
      go_ret
      refine ⟨⟨_, rfl, ?_⟩, hb⟩
      rw [m_size]; unfold maxLen; omega

/-- the values that a mark leaves: its counter, cell by cell. -/
def mV1 (k : Int) : V4 := (k, k + 1, floatOfInt .f64 (k + 1 + 1), floatOfInt .f64 (k + 1 + 1 + 1))
def mVs (k : Int) (n : Nat) : List V4 := (List.range n).map fun (i : Nat) => mV1 (k + 4 * (i : Int))
theorem mVs_len (k : Int) (n : Nat) : (mVs k n).length = n := by simp [mVs]
theorem mVs_succ (k : Int) (n : Nat) : mVs k (n + 1) = mVs k n ++ [mV1 (k + 4 * (n : Int))] := by simp [mVs, List.range_succ]
theorem mVs_at (k : Int) (n j : Nat) (h : j < n) : (mVs k n)[j]? = some (mV1 (k + 4 * (j : Int))) := by simp [mVs, h]
theorem vcells_len (v : V4) : (vcells v).length = 4 := rfl

def VR (w : World) (B g n cap : Nat) (L : List V4) : Prop := w.ownsRow B 63 4 (.slice (some ⟨g, 0, none⟩) n cap) n (L.flatMap vcells)
theorem VR.lt {w : World} {B g n cap : Nat} {L : List V4} (h : VR w B g n cap L) : B ≤ g ∧ g < w.heap.size := World.ownsRow.lt h g rfl
theorem VR.cells {w : World} {B g n cap : Nat} {L : List V4} (h : VR w B g n cap L) (hn : L.length = n) {j : Nat} {a : V4} (ha : L[j]? = some a) : w.cell? ⟨g, j * 4, none⟩ = some (.int .i64 a.1) ∧ w.cell? ⟨g, j * 4 + 1, none⟩ = some (.int .i64 a.2.1) ∧ w.cell? ⟨g, j * 4 + 2, none⟩ = some (.float .f64 a.2.2.1) ∧ w.cell? ⟨g, j * 4 + 3, none⟩ = some (.float .f64 a.2.2.2) ∧ ∀ o, w.frozen? ⟨g, o, none⟩ = false := by
  have hj : j < L.length := (List.getElem?_eq_some_iff.1 ha).1
  have e : ∀ i u, (vcells a)[i]? = some u → w.cell? ⟨g, j * 4 + i, none⟩ = some u := by
    intro i u hu
    have hi : i < 4 := (List.getElem?_eq_some_iff.1 hu).1
    rw [World.ownsRow.cellAt h (j * 4 + i) (by omega), flat_get vcells_len L j a ha i hi, hu]
  exact ⟨e 0 _ rfl, e 1 _ rfl, e 2 _ rfl, e 3 _ rfl, fun o => World.ownsRow.frozenAt h o⟩
theorem VR.put {w : World} {B g n cap : Nat} {A C : List V4} {p q : V4} (h : VR w B g n cap (A ++ p :: C)) :
    VR ((((w.setCell ⟨g, A.length * 4, none⟩ (.int .i64 q.1)).setCell ⟨g, A.length * 4 + 1, none⟩ (.int .i64 q.2.1)).setCell ⟨g, A.length * 4 + 2, none⟩ (.float .f64 q.2.2.1)).setCell ⟨g, A.length * 4 + 3, none⟩ (.float .f64 q.2.2.2)) B g n cap (A ++ q :: C) := by
  have hA : (A.flatMap vcells).length = A.length * 4 := flat_len vcells_len A
  have e1 : (A ++ p :: C).flatMap vcells = A.flatMap vcells ++ (vcells p ++ C.flatMap vcells) := by simp
  have e2 : (A ++ q :: C).flatMap vcells = A.flatMap vcells ++ (vcells q ++ C.flatMap vcells) := by simp
  unfold VR at h ⊢
  rw [e1] at h
  rw [e2]
  have h1 := (World.ownsRow.stored h ((A.flatMap vcells).length + 0) (.int .i64 q.1)).1
  rw [set_mid _ _ _ _ _ (by simp [vcells])] at h1
  have h2 := (World.ownsRow.stored h1 ((A.flatMap vcells).length + 1) (.int .i64 q.2.1)).1
  rw [set_mid _ _ _ _ _ (by simp [vcells])] at h2
  have h3 := (World.ownsRow.stored h2 ((A.flatMap vcells).length + 2) (.float .f64 q.2.2.1)).1
  rw [set_mid _ _ _ _ _ (by simp [vcells])] at h3
  have h4 := (World.ownsRow.stored h3 ((A.flatMap vcells).length + 3) (.float .f64 q.2.2.2)).1
  rw [set_mid _ _ _ _ _ (by simp [vcells]), hA] at h4
  exact h4
/-- nothing that was there turns but block g. -/
def Only (g : Nat) (w w' : World) : Prop := w.os = w'.os ∧ w.heap.size ≤ w'.heap.size ∧ (∀ W : World, ∀ B, B ≤ g → Below B W w → Below B W w') ∧ ∀ k, ¬ k = g → k < w.heap.size → w'.heap[k]? = w.heap[k]?
theorem Only.refl (g : Nat) (w : World) : Only g w w := ⟨rfl, Nat.le_refl _, fun _ _ _ h => h, fun _ _ _ => rfl⟩
theorem Only.set {g : Nat} {w w' : World} (h : Only g w w') (o : Nat) (u : Value) : Only g w (w'.setCell ⟨g, o, none⟩ u) :=
  ⟨h.1.trans rfl, by simpa using h.2.1, fun W B hB hW => (h.2.2.1 W B hB hW).setCell hB u, fun k hk hl => (Below.heap_setCell w' ⟨g, o, none⟩ u k (by dsimp only; omega)).trans (h.2.2.2 k hk hl)⟩
theorem Only.kept {g B : Nat} {w w' : World} (h : Only g w w') (hB : g < B) : Kept B w w' := ⟨h.2.1, fun k hk hl => h.2.2.2 k (by omega) hl⟩

set_option maxHeartbeats 2000000 in
theorem markValS_any (B g cap : Nat) (L : List V4) (k : Int) (w : World) (h : VR w B g L.length cap L) (hl : L.length ≤ 1048576) (h0 : 0 ≤ k) (h1 : k ≤ 100000000) :
    Calls Try.prog 50 #[.slice (some ⟨g, 0, none⟩) L.length cap, .int .i64 k] w fun e w' => e = .returned (.int .i64 (k + 4 * (L.length : Int))) ∧ VR w' B g L.length cap (mVs k L.length) ∧ Only g w w' := by
  go_enter Try.func50, Try.ntmps50
  go_wp2_with fail
  go_loopw [1, 5] (fun x i wr => ∃ m : Nat, m ≤ L.length ∧ i = .int .i64 m ∧ x = .int .i64 (k + 4 * (m : Int)) ∧ Hid (VR wr B g L.length cap (mVs k m ++ L.drop m)) ∧ Hid (Only g w wr)) (fun _ i _ => L.length - (intOf i).toNat)
  case atStart => exact ⟨0, Nat.zero_le _, rfl, by simp, by simpa [mVs, Hid] using h, Only.refl _ _⟩
  case round =>
    obtain ⟨m, hm, rfl, rfl, hrow, hon⟩ := hrel
    by_cases hlt : m < L.length
    · obtain ⟨p, hp⟩ := get_some hlt
      have ed : L.drop m = p :: L.drop (m + 1) := by rw [List.drop_eq_getElem_cons hlt]; congr 1; simpa [hlt] using hp
      have hr := hrow.out
      rw [ed] at hr
      obtain ⟨c0, c1, c2, c3, fz⟩ := hr.cells (j := m) (a := p) (by simp [mVs_len]; omega) (by rw [List.getElem?_append_right (by simp [mVs_len])]; simp [mVs_len])
      have hput := hr.put (q := mV1 (k + 4 * (m : Int)))
      rw [mVs_len] at hput
      have e3 : mVs k m ++ mV1 (k + 4 * (m : Int)) :: L.drop (m + 1) = mVs k (m + 1) ++ L.drop (m + 1) := by rw [mVs_succ]; simp
      rw [e3] at hput
      have HP : Hid (VR ((((wr.setCell ⟨g, m * 4, none⟩ (.int .i64 (k + 4 * (m : Int)))).setCell ⟨g, m * 4 + 1, none⟩ (.int .i64 (k + 4 * (m : Int) + 1))).setCell ⟨g, m * 4 + 2, none⟩ (.float .f64 (floatOfInt .f64 (k + 4 * (m : Int) + 1 + 1)))).setCell ⟨g, m * 4 + 3, none⟩ (.float .f64 (floatOfInt .f64 (k + 4 * (m : Int) + 1 + 1 + 1)))) B g L.length cap (mVs k (m + 1) ++ L.drop (m + 1))) := hput
      have HO : Hid (Only g w ((((wr.setCell ⟨g, m * 4, none⟩ (.int .i64 (k + 4 * (m : Int)))).setCell ⟨g, m * 4 + 1, none⟩ (.int .i64 (k + 4 * (m : Int) + 1))).setCell ⟨g, m * 4 + 2, none⟩ (.float .f64 (floatOfInt .f64 (k + 4 * (m : Int) + 1 + 1)))).setCell ⟨g, m * 4 + 3, none⟩ (.float .f64 (floatOfInt .f64 (k + 4 * (m : Int) + 1 + 1 + 1))))) := (((hon.out.set _ _).set _ _).set _ _).set _ _
      clear hput hr hrow hon ed e3 hp h
      go_wp2_with fail
      refine ⟨⟨m + 1, by omega, by go_num, ?_, HP, HO⟩, by simp [intOf]; omega⟩
      congr 1; simp; omega
    · have hm' : m = L.length := by omega
      subst hm'
      have hr := hrow.out
      simp at hr
      go_wp2_with fail
      go_ret
      exact ⟨rfl, hr, hon.out⟩

theorem small_nan : ((List.range 128).all fun i => !nanB (floatOfInt .f64 (i : Int))) = true := by decide +kernel
theorem small_num {k : Int} (h0 : 0 ≤ k) (h1 : k < 128) : nanB (floatOfInt .f64 k) = false := by
  have := List.all_eq_true.1 small_nan k.toNat (by simp; omega)
  rw [show ((k.toNat : Nat) : Int) = k by omega] at this
  simpa using this

set_option maxHeartbeats 2000000 in
theorem heldValS_any (B : Nat) (s : Option Addr) (cap n : Nat) (k : Int) (w : World) (h : Els 4 cVal w B s (mVs k n)) (h0 : 0 ≤ k) (h1 : k + 4 * (n : Int) < 128) :
    Calls Try.prog 53 #[.slice s n cap, .int .i64 k] w fun e w' => e = .returned (.int .i64 (k + 4 * (n : Int))) ∧ w' = w := by
  go_enter Try.func53, Try.ntmps53
  go_wp2_with fail
  go_loop [1, 5] (fun x i => ∃ m : Nat, m ≤ n ∧ i = .int .i64 m ∧ x = .int .i64 (k + 4 * (m : Int))) (fun _ i => n - (intOf i).toNat)
  case atStart => exact ⟨0, Nat.zero_le _, rfl, by simp⟩
  case round =>
    obtain ⟨m, hm, rfl, rfl⟩ := hrel
    by_cases hlt : m < n
    · obtain ⟨b, o, rfl, _, hp, hok, e1, e2, e3, e4⟩ := eVal_cells h (mVs_at k n m hlt)
      simp only [mV1] at e1 e2 e3 e4
      have g3 := neq_self (floatOfInt .f64 (k + 4 * (m : Int) + 1 + 1))
      have g4 := neq_self (floatOfInt .f64 (k + 4 * (m : Int) + 1 + 1 + 1))
      rw [small_num (by omega) (by omega)] at g3 g4
      clear h hok
      go_wp2_with fail
      refine ⟨⟨m + 1, by omega, by go_num, ?_⟩, by simp [intOf]; omega⟩
      congr 1; simp; omega
    · have hm' : m = n := by omega
      subst hm'
      go_wp2_with fail
      go_ret
      exact ⟨rfl, rfl⟩
end Go.Proofs.Yteoligpjhddkdaa
