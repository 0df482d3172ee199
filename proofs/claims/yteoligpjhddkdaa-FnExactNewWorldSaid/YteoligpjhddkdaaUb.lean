import Derived.Test.YteoligpjhddkdaaUa
import Derived.Test.YteoligpjhddkdaaMm
import Derived.Test.YteoligpjhddkdaaMl
import Derived.Test.YteoligpjhddkdaaMj
import Derived.Deep.RegionHeld3
import Derived.Deep.AppendLies
import Derived.Deep.RegionLaw
namespace Go.Proofs.Yteoligpjhddkdaa
open Go.RowKit Go.Maps Go.WideMaps
set_option linter.unusedVariables false
set_option linter.unusedSimpArgs false

def zk (k : Int) : Int := if 1 ≤ k ∧ k ≤ 4 then k else 0

theorem ret_agg {a b : Int} (h : a = b) : Ending.returned (.agg #[.int .i64 a, .int .i64 0, .float .f64 0, .float .f64 0]) = .returned (.agg #[.int .i64 b, .int .i64 0, .float .f64 0, .float .f64 0]) := by rw [h]

set_option maxHeartbeats 400000 in
theorem implZero_any (k : Int) (w : World) :
    Calls Try.prog 46 #[.int .i64 k] w fun e w' => e = .returned (.agg #[.int .i64 (zk k), .int .i64 0, .float .f64 0, .float .f64 0]) ∧ Below w.heap.size w w' := by
  cases hk : (decide (1 ≤ k) && decide (k ≤ 4))
  · have E : Hid (0 = zk k) := by simp [Hid, zk]; simp at hk; omega
    go_enter Try.func46, Try.ntmps46
    go_wp2_with fail
    refine (isKind_any _ _).mono ?_
    rintro e w1 ⟨rfl, rfl⟩
    rw [hk]
    go_wp2
    refine bodyPost_ret (v := .agg #[.int .i64 0, .int .i64 0, .float .f64 0, .float .f64 0]) (by simp [results, Try.results46, go_sem]) rfl ⟨ret_agg E.out, ?_⟩
    (repeat (first | with_reducible exact Below.refl _ _ | with_reducible refine bl_alloc ?_ _ | with_reducible refine bl_drewN ?_ _ | with_reducible refine bl_drew ?_ | with_reducible refine bl_setCell ?_ (by first | exact Nat.le_refl _ | (dsimp only; omega) | (simp <;> omega)) _ | with_reducible refine bl_trans ?_ (by with_reducible assumption)))
  · have E : Hid (k = zk k) := by simp [Hid, zk]; simp at hk; omega
    go_enter Try.func46, Try.ntmps46
    go_wp2_with fail
    refine (isKind_any _ _).mono ?_
    rintro e w1 ⟨rfl, rfl⟩
    rw [hk]
    go_wp2
    refine bodyPost_ret (v := .agg #[.int .i64 k, .int .i64 0, .float .f64 0, .float .f64 0]) (by simp [results, Try.results46, go_sem]) rfl ⟨ret_agg E.out, ?_⟩
    (repeat (first | with_reducible exact Below.refl _ _ | with_reducible refine bl_alloc ?_ _ | with_reducible refine bl_drewN ?_ _ | with_reducible refine bl_drew ?_ | with_reducible refine bl_setCell ?_ (by first | exact Nat.le_refl _ | (dsimp only; omega) | (simp <;> omega)) _ | with_reducible refine bl_trans ?_ (by with_reducible assumption)))

set_option maxHeartbeats 400000 in
theorem specZero_any (k : Int) (w : World) :
    Calls Try.prog 44 #[.int .i64 k] w fun e w' => e = .returned (.agg #[.int .i64 (zk k), .int .i64 0, .float .f64 0, .float .f64 0]) ∧ Below w.heap.size w w' := by
  by_cases h1 : 1 ≤ k
  · by_cases h2 : k ≤ 4
    · have E : Hid (k = zk k) := by simp [Hid, zk]; omega
      go_enter Try.func44, Try.ntmps44
      go_wp2
      refine bodyPost_ret (v := .agg #[.int .i64 k, .int .i64 0, .float .f64 0, .float .f64 0]) (by simp [results, Try.results44, go_sem]) rfl ⟨ret_agg E.out, ?_⟩
      (repeat (first | with_reducible exact Below.refl _ _ | with_reducible refine bl_alloc ?_ _ | with_reducible refine bl_drewN ?_ _ | with_reducible refine bl_drew ?_ | with_reducible refine bl_setCell ?_ (by first | exact Nat.le_refl _ | (dsimp only; omega) | (simp <;> omega)) _ | with_reducible refine bl_trans ?_ (by with_reducible assumption)))
    · have E : Hid (0 = zk k) := by simp [Hid, zk]; omega
      go_enter Try.func44, Try.ntmps44
      go_wp2
      refine bodyPost_ret (v := .agg #[.int .i64 0, .int .i64 0, .float .f64 0, .float .f64 0]) (by simp [results, Try.results44, go_sem]) rfl ⟨ret_agg E.out, ?_⟩
      (repeat (first | with_reducible exact Below.refl _ _ | with_reducible refine bl_alloc ?_ _ | with_reducible refine bl_drewN ?_ _ | with_reducible refine bl_drew ?_ | with_reducible refine bl_setCell ?_ (by first | exact Nat.le_refl _ | (dsimp only; omega) | (simp <;> omega)) _ | with_reducible refine bl_trans ?_ (by with_reducible assumption)))
  · have E : Hid (0 = zk k) := by simp [Hid, zk]; omega
    go_enter Try.func44, Try.ntmps44
    go_wp2
    refine bodyPost_ret (v := .agg #[.int .i64 0, .int .i64 0, .float .f64 0, .float .f64 0]) (by simp [results, Try.results44, go_sem]) rfl ⟨ret_agg E.out, ?_⟩
    (repeat (first | with_reducible exact Below.refl _ _ | with_reducible refine bl_alloc ?_ _ | with_reducible refine bl_drewN ?_ _ | with_reducible refine bl_drew ?_ | with_reducible refine bl_setCell ?_ (by first | exact Nat.le_refl _ | (dsimp only; omega) | (simp <;> omega)) _ | with_reducible refine bl_trans ?_ (by with_reducible assumption)))


theorem step_append_val {ops : Array Oper} {o : Oper} {a : Act} {w : World} {K : Act → World → Prop} {Q : Exit → Act → World → Prop} {E : Prop}
    (hg : o.guard = none) (s x : Operand) (hop : o.op = Op.call { callee := Callee.builtin Builtin.append, args := #[s, x], argTypes := #[41, 41] })
    (Bs : Nat) (v : Value) (L : List V4) (hs : a.eval s = v) (hv : w.ownsRow Bs 63 4 v L.length (L.flatMap vcells))
    (sb : Nat) (p : V4) (hx : a.eval x = .slice (some ⟨sb, 0, none⟩) 1 1) (hb : Blk w sb #[.int .i64 p.1, .int .i64 p.2.1, .float .f64 p.2.2.1, .float .f64 p.2.2.2] 63) (hl : L.length ≤ 1048576) (hB : Bs ≤ w.heap.size)
    (hK : ∀ g cap w', VR w' Bs g (L.length + 1) cap (L ++ [p]) → w.grownBy w' v.ownBlock → g < w'.heap.size → K (a.put o.dst (.slice (some ⟨g, 0, none⟩) (L.length + 1) cap)) w') :
    if Region.wanted o (yielded ops a.tmps) = true then Oper.wp Try.prog o a w K Q else E := by
  obtain ⟨i0, hi, hz0, hz1, hz2⟩ := info_parts Try.infoV
  refine step_append_lies _ hg s x _ hop Bs 63 i0 (.agg #[.int .i64 0, .int .i64 0, .float .f64 0, .float .f64 0]) 4 32 Try.underlying41 hi hz0 hz1 hz2 rfl (by decide) v L.length (L.flatMap vcells) hs hv ⟨sb, 0, none⟩ 1 1 (vcells p) hx rfl ?_ ?_ (by omega) (by unfold maxLen; omega) (by omega) hB w.heap.size rfl ?_
  · intro j u hj
    have := hb.cell j
    rw [Go.WideShapes.add_plain, Nat.zero_add, this]
    simpa [vcells] using hj
  · intro u hu
    simp only [vcells, List.mem_cons, List.not_mem_nil, or_false] at hu
    rcases hu with rfl | rfl | rfl | rfl <;> rfl
  · intro g cap w' h1 h2 _ h4
    refine hK g cap w' ?_ h2 h4
    unfold VR
    rw [List.flatMap_append]
    simpa using h1

/-- a new world under way: its box, its values. -/
structure Nw (w1 X : World) (wb : Nat) (v : Value) (L : List V4) : Prop where
  k : Blk X wb #[.slice none 0 0, .slice none 0 0, .slice none 0 0, v] 43
  r : X.ownsRow (wb + 1) 63 4 v L.length (L.flatMap vcells)
  b : Below wb w1 X
theorem Nw.later {w1 X Y : World} {wb : Nat} {v : Value} {L : List V4} (h : Nw w1 X wb v L) (hb : Below X.heap.size X Y) : Nw w1 Y wb v L := by
  refine ⟨h.k.later hb, ?_, h.b.trans (hb.mono (Nat.le_of_lt h.k.lt))⟩
  refine World.ownsRow.kept h.r (grown_of_below hb) ?_
  cases v.ownBlock with
  | none => exact Or.inl rfl
  | some b => exact Or.inr (by simp)
theorem Nw.put {w1 X Y : World} {wb : Nat} {v : Value} {L : List V4} {p : V4} {g cap : Nat} (h : Nw w1 X wb v L) (hr : VR Y (wb + 1) g (L.length + 1) cap (L ++ [p])) (hg : X.grownBy Y v.ownBlock) :
    Nw w1 (Y.setCell ⟨wb, 3, none⟩ (.slice (some ⟨g, 0, none⟩) (L.length + 1) cap)) wb (.slice (some ⟨g, 0, none⟩) (L.length + 1) cap) (L ++ [p]) := by
  have hne : ∀ b, v.ownBlock = some b → wb + 1 ≤ b := fun b hb => (World.ownsRow.lt h.r b hb).1
  have kY : Blk Y wb #[.slice none 0 0, .slice none 0 0, .slice none 0 0, v] 43 := by
    unfold Blk
    rw [hg.block wb h.k.lt (fun e => by have := hne wb e.symm; omega)]
    exact h.k
  have bY : Below wb w1 Y := h.b.grown hg (Nat.le_of_lt h.k.lt) (fun b hb => by have := hne b hb; omega)
  refine ⟨kY.set 3 _, ?_, bY.setCell (Nat.le_refl _) _⟩
  have h1 : Y.ownsRow (wb + 1) 63 4 (.slice (some ⟨g, 0, none⟩) (L.length + 1) cap) (L ++ [p]).length ((L ++ [p]).flatMap vcells) := by
    have e : (L ++ [p]).length = L.length + 1 := by simp
    rw [e]; exact hr
  have gl := hr.lt
  refine World.ownsRow.kept h1 (row := some wb) ?_ ?_
  · exact ⟨rfl, rfl, rfl, by simp, fun k hk hne => Below.heap_setCell Y ⟨wb, 3, none⟩ _ k (by dsimp only; exact fun e => hne (by rw [e]))⟩
  · right; simp [Value.ownBlock]; omega
theorem Nw.grown {w1 X Y : World} {wb : Nat} {v : Value} {L : List V4} (h : Nw w1 X wb v L) (hg : X.grownBy Y v.ownBlock) : Blk Y wb #[.slice none 0 0, .slice none 0 0, .slice none 0 0, v] 43 := by
  have hne : ∀ b, v.ownBlock = some b → wb + 1 ≤ b := fun b hb => (World.ownsRow.lt h.r b hb).1
  unfold Blk
  rw [hg.block wb h.k.lt (fun e => by have := hne wb e.symm; omega)]
  exact h.k
def zs (B : List (ByteArray × Int)) (m : Nat) : List V4 := (B.take m).map fun d => (zk d.2, 0, 0, 0)
theorem zs_len {B : List (ByteArray × Int)} {m : Nat} (h : m ≤ B.length) : (zs B m).length = m := by simp [zs]; omega
theorem zs_succ {B : List (ByteArray × Int)} {m : Nat} (h : m < B.length) : zs B (m + 1) = zs B m ++ [(zk (dAt B m).2, 0, 0, 0)] := by
  unfold zs
  rw [List.take_add_one, dAt_some h]
  simp
end Go.Proofs.Yteoligpjhddkdaa
