import Derived.Test.YteoligpjhddkdaaLb
import Derived.Test.YteoligpjhddkdaaMm
import Derived.Test.YteoligpjhddkdaaCb
namespace Go.Proofs.Yteoligpjhddkdaa
open Go.RowKit Go.Maps Go.WideMaps
set_option linter.unusedVariables false
set_option linter.unusedSimpArgs false
set_option maxRecDepth 100000

set_option maxHeartbeats 1000000 in
theorem changeOf_1 (s : Option Addr) (cap : Nat) (c : Cm) (w : World) (hk : c.kind = 1) :
    Calls Try.prog 60 #[.agg #[.int .i64 c.kind, .int .i64 c.who.1, .int .i64 c.who.2, .int .i64 c.comp, .int .i64 c.val.1, .int .i64 c.val.2.1, .float .f64 c.val.2.2.1, .float .f64 c.val.2.2.2, .slice s c.list.length cap], .agg #[.int .i64 0, .int .i64 0]] w fun e w' => e = .returned (.iface 149 (.agg #[.int .i64 0, .int .i64 0, .slice s c.list.length cap])) ∧ Below w.heap.size w w' := by
  have hal := alloc_old
  have haf := alloc_oldf
  rw [hk]
  go_enter Try.func60, Try.ntmps60
  go_wp2_with fail
  go_ret
  refine ⟨rfl, ?_⟩
  (repeat (first | with_reducible exact Below.refl _ _ | with_reducible refine bl_alloc ?_ _ | with_reducible refine bl_drewN ?_ _ | with_reducible refine bl_drew ?_ | with_reducible refine bl_setCell ?_ (by first | exact Nat.le_refl _ | (dsimp only; omega) | (simp <;> omega)) _ | with_reducible refine bl_trans ?_ (by with_reducible assumption)))
set_option maxHeartbeats 1000000 in
theorem changeOf_2 (s : Option Addr) (cap : Nat) (c : Cm) (w : World) (hk : c.kind = 2) :
    Calls Try.prog 60 #[.agg #[.int .i64 c.kind, .int .i64 c.who.1, .int .i64 c.who.2, .int .i64 c.comp, .int .i64 c.val.1, .int .i64 c.val.2.1, .float .f64 c.val.2.2.1, .float .f64 c.val.2.2.2, .slice s c.list.length cap], .agg #[.int .i64 0, .int .i64 0]] w fun e w' => e = .returned (.iface 151 (.agg #[.int .i64 c.who.1, .int .i64 c.who.2])) ∧ Below w.heap.size w w' := by
  have hal := alloc_old
  have haf := alloc_oldf
  rw [hk]
  go_enter Try.func60, Try.ntmps60
  go_wp2_with fail
  go_ret
  refine ⟨rfl, ?_⟩
  (repeat (first | with_reducible exact Below.refl _ _ | with_reducible refine bl_alloc ?_ _ | with_reducible refine bl_drewN ?_ _ | with_reducible refine bl_drew ?_ | with_reducible refine bl_setCell ?_ (by first | exact Nat.le_refl _ | (dsimp only; omega) | (simp <;> omega)) _ | with_reducible refine bl_trans ?_ (by with_reducible assumption)))
set_option maxHeartbeats 1000000 in
theorem changeOf_3 (s : Option Addr) (cap : Nat) (c : Cm) (w : World) (hk : c.kind = 3) :
    Calls Try.prog 60 #[.agg #[.int .i64 c.kind, .int .i64 c.who.1, .int .i64 c.who.2, .int .i64 c.comp, .int .i64 c.val.1, .int .i64 c.val.2.1, .float .f64 c.val.2.2.1, .float .f64 c.val.2.2.2, .slice s c.list.length cap], .agg #[.int .i64 0, .int .i64 0]] w fun e w' => e = .returned (.iface 153 (.agg #[.int .i64 c.who.1, .int .i64 c.who.2, .int .i64 c.comp, .int .i64 c.val.1, .int .i64 c.val.2.1, .float .f64 c.val.2.2.1, .float .f64 c.val.2.2.2])) ∧ Below w.heap.size w w' := by
  have hal := alloc_old
  have haf := alloc_oldf
  rw [hk]
  go_enter Try.func60, Try.ntmps60
  go_wp2_with fail
  go_ret
  refine ⟨rfl, ?_⟩
  (repeat (first | with_reducible exact Below.refl _ _ | with_reducible refine bl_alloc ?_ _ | with_reducible refine bl_drewN ?_ _ | with_reducible refine bl_drew ?_ | with_reducible refine bl_setCell ?_ (by first | exact Nat.le_refl _ | (dsimp only; omega) | (simp <;> omega)) _ | with_reducible refine bl_trans ?_ (by with_reducible assumption)))
set_option maxHeartbeats 1000000 in
theorem changeOf_4 (s : Option Addr) (cap : Nat) (c : Cm) (w : World) (hk : c.kind = 4) :
    Calls Try.prog 60 #[.agg #[.int .i64 c.kind, .int .i64 c.who.1, .int .i64 c.who.2, .int .i64 c.comp, .int .i64 c.val.1, .int .i64 c.val.2.1, .float .f64 c.val.2.2.1, .float .f64 c.val.2.2.2, .slice s c.list.length cap], .agg #[.int .i64 0, .int .i64 0]] w fun e w' => e = .returned (.iface 155 (.agg #[.int .i64 c.who.1, .int .i64 c.who.2, .int .i64 c.comp])) ∧ Below w.heap.size w w' := by
  have hal := alloc_old
  have haf := alloc_oldf
  rw [hk]
  go_enter Try.func60, Try.ntmps60
  go_wp2_with fail
  go_ret
  refine ⟨rfl, ?_⟩
  (repeat (first | with_reducible exact Below.refl _ _ | with_reducible refine bl_alloc ?_ _ | with_reducible refine bl_drewN ?_ _ | with_reducible refine bl_drew ?_ | with_reducible refine bl_setCell ?_ (by first | exact Nat.le_refl _ | (dsimp only; omega) | (simp <;> omega)) _ | with_reducible refine bl_trans ?_ (by with_reducible assumption)))
set_option maxHeartbeats 1000000 in
theorem changeOf_5 (s : Option Addr) (cap : Nat) (c : Cm) (w : World) (hk1 : ¬ c.kind = 1) (hk2 : ¬ c.kind = 2) (hk3 : ¬ c.kind = 3) (hk4 : ¬ c.kind = 4) :
    Calls Try.prog 60 #[.agg #[.int .i64 c.kind, .int .i64 c.who.1, .int .i64 c.who.2, .int .i64 c.comp, .int .i64 c.val.1, .int .i64 c.val.2.1, .float .f64 c.val.2.2.1, .float .f64 c.val.2.2.2, .slice s c.list.length cap], .agg #[.int .i64 0, .int .i64 0]] w fun e w' => e = .returned (.iface 157 (.agg #[])) ∧ Below w.heap.size w w' := by
  have hal := alloc_old
  have haf := alloc_oldf
  go_enter Try.func60, Try.ntmps60
  go_wp2_with fail
  go_ret
  refine ⟨rfl, ?_⟩
  (repeat (first | with_reducible exact Below.refl _ _ | with_reducible refine bl_alloc ?_ _ | with_reducible refine bl_drewN ?_ _ | with_reducible refine bl_drew ?_ | with_reducible refine bl_setCell ?_ (by first | exact Nat.le_refl _ | (dsimp only; omega) | (simp <;> omega)) _ | with_reducible refine bl_trans ?_ (by with_reducible assumption)))

set_option maxHeartbeats 1000000 in
theorem right_1 (s1 s2 s3 : Option Addr) (c1 c2 c3 : Nat) (A B C : List (ByteArray × Int)) (s : Option Addr) (cap : Nat) (L : List C5) (Bs : Nat) (w : World) (hA : Decls w s1 A) (hL : Els 5 cCell w Bs s L) (l1 : A.length ≤ 1048576) (hl : L.length ≤ 1048576) (hcap : L.length ≤ cap) :
    Calls Try.prog 132 #[.agg #[.int .i64 0, .int .i64 0, .slice s L.length cap], .agg #[.slice s1 A.length c1, .slice s2 B.length c2, .slice s3 C.length c3]] w fun e w' => e = .returned (.bool (cellsB A L)) ∧ Below w.heap.size w w' := by
  have hal := alloc_old
  have haf := alloc_oldf
  obtain ⟨k0, k1, L0⟩ := boxTwo w #[.int .i64 0, .int .i64 0, .slice s L.length cap] #[.slice s1 A.length c1, .slice s2 B.length c2, .slice s3 C.length c3] 149 37
  have HA := hA.later L0
  have HL := hL.later cCell_keeps L0
  go_enter Try.func132, Try.ntmps132
  go_wp2_with fail
  refine (cellsOk_any s1 s2 s3 c1 c2 c3 A B C s cap L Bs _ HA HL l1 hl hcap).mono ?_
  rintro e w2 ⟨rfl, hb2⟩
  have L2 := bl_trans L0 hb2
  go_wp2_with fail
  go_ret
  exact ⟨rfl, L2⟩
set_option maxHeartbeats 1000000 in
theorem right_2 (s1 s2 s3 : Option Addr) (c1 c2 c3 : Nat) (A B C : List (ByteArray × Int)) (a b : Int) (w : World) :
    Calls Try.prog 139 #[.agg #[.int .i64 a, .int .i64 b], .agg #[.slice s1 A.length c1, .slice s2 B.length c2, .slice s3 C.length c3]] w fun e w' => e = .returned (.bool true) ∧ Below w.heap.size w w' := by
  go_enter Try.func139, Try.ntmps139
  go_wp2_with fail
  go_ret
  refine ⟨rfl, ?_⟩
  (repeat (first | with_reducible exact Below.refl _ _ | with_reducible refine bl_alloc ?_ _ | with_reducible refine bl_drewN ?_ _ | with_reducible refine bl_drew ?_ | with_reducible refine bl_setCell ?_ (by first | exact Nat.le_refl _ | (dsimp only; omega) | (simp <;> omega)) _ | with_reducible refine bl_trans ?_ (by with_reducible assumption)))
set_option maxHeartbeats 1000000 in
theorem right_3 (s1 s2 s3 : Option Addr) (c1 c2 c3 : Nat) (A B C : List (ByteArray × Int)) (a b c : Int) (v : V4) (w : World) (hA : Decls w s1 A) (l1 : A.length ≤ 1048576) :
    Calls Try.prog 141 #[.agg #[.int .i64 a, .int .i64 b, .int .i64 c, .int .i64 v.1, .int .i64 v.2.1, .float .f64 v.2.2.1, .float .f64 v.2.2.2], .agg #[.slice s1 A.length c1, .slice s2 B.length c2, .slice s3 C.length c3]] w fun e w' => e = .returned (.bool (fitB A c v)) ∧ Below w.heap.size w w' := by
  have hal := alloc_old
  have haf := alloc_oldf
  obtain ⟨k0, k1, L0⟩ := boxTwo w #[.int .i64 a, .int .i64 b, .int .i64 c, .int .i64 v.1, .int .i64 v.2.1, .float .f64 v.2.2.1, .float .f64 v.2.2.2] #[.slice s1 A.length c1, .slice s2 B.length c2, .slice s3 C.length c3] 153 37
  have HA := hA.later L0
  go_enter Try.func141, Try.ntmps141
  go_wp2_with fail
  refine (cellOk_any s1 s2 s3 c1 c2 c3 A B C c v _ HA l1).mono ?_
  rintro e w2 ⟨rfl, hb2⟩
  have L2 := bl_trans L0 hb2
  go_wp2_with fail
  go_ret
  exact ⟨rfl, L2⟩
set_option maxHeartbeats 1000000 in
theorem right_4 (s1 s2 s3 : Option Addr) (c1 c2 c3 : Nat) (A B C : List (ByteArray × Int)) (a b c : Int) (w : World) (l1 : A.length ≤ 1048576) :
    Calls Try.prog 143 #[.agg #[.int .i64 a, .int .i64 b, .int .i64 c], .agg #[.slice s1 A.length c1, .slice s2 B.length c2, .slice s3 C.length c3]] w fun e w' => e = .returned (.bool (cmpB A c)) ∧ Below w.heap.size w w' := by
  have hal := alloc_old
  have haf := alloc_oldf
  obtain ⟨k0, k1, L0⟩ := boxTwo w #[.int .i64 a, .int .i64 b, .int .i64 c] #[.slice s1 A.length c1, .slice s2 B.length c2, .slice s3 C.length c3] 155 37
  go_enter Try.func143, Try.ntmps143
  go_wp2_with fail
  refine (compOk_any s1 s2 s3 c1 c2 c3 A B C c _ l1).mono ?_
  rintro e w2 ⟨rfl, hb2⟩
  have L2 := bl_trans L0 hb2
  go_wp2_with fail
  go_ret
  exact ⟨rfl, L2⟩
set_option maxHeartbeats 1000000 in
theorem right_5 (s1 s2 s3 : Option Addr) (c1 c2 c3 : Nat) (A B C : List (ByteArray × Int)) (w : World) :
    Calls Try.prog 145 #[.agg #[], .agg #[.slice s1 A.length c1, .slice s2 B.length c2, .slice s3 C.length c3]] w fun e w' => e = .returned (.bool false) ∧ Below w.heap.size w w' := by
  go_enter Try.func145, Try.ntmps145
  go_wp2_with fail
  go_ret
  refine ⟨rfl, ?_⟩
  (repeat (first | with_reducible exact Below.refl _ _ | with_reducible refine bl_alloc ?_ _ | with_reducible refine bl_drewN ?_ _ | with_reducible refine bl_drew ?_ | with_reducible refine bl_setCell ?_ (by first | exact Nat.le_refl _ | (dsimp only; omega) | (simp <;> omega)) _ | with_reducible refine bl_trans ?_ (by with_reducible assumption)))

theorem kinds (c : Cm) : Hid (c.kind = 1) ∨ Hid (c.kind = 2) ∨ Hid (c.kind = 3) ∨ Hid (c.kind = 4) ∨ (Hid (¬ c.kind = 1) ∧ Hid (¬ c.kind = 2) ∧ Hid (¬ c.kind = 3) ∧ Hid (¬ c.kind = 4)) := by unfold Hid; omega
/-- a command is right (of a right Reg). -/
def cmdB (A : List (ByteArray × Int)) (c : Cm) : Bool :=
  if c.kind = 1 then cellsB A c.list else if c.kind = 2 then true else if c.kind = 3 then fitB A c.comp c.val else if c.kind = 4 then cmpB A c.comp else false

set_option maxHeartbeats 4000000 in
theorem implCmdOk_any (s1 s2 s3 : Option Addr) (c1 c2 c3 : Nat) (A B C : List (ByteArray × Int)) (s : Option Addr) (cap : Nat) (c : Cm) (Bs : Nat) (w : World) (hA : Decls w s1 A) (hB : Decls w s2 B) (hC : Decls w s3 C) (nm : ∀ i, i < (A ++ B ++ C).length → (dAt (A ++ B ++ C) i).1.size ≤ maxLen) (l1 : A.length ≤ 1048576) (l2 : B.length ≤ 1048576) (l3 : C.length ≤ 1048576)
    (hL : Els 5 cCell w Bs s c.list) (hl : c.list.length ≤ 1048576) (hcap : c.list.length ≤ cap) :
    Calls Try.prog 22 #[.agg #[.slice s1 A.length c1, .slice s2 B.length c2, .slice s3 C.length c3], .agg #[.int .i64 c.kind, .int .i64 c.who.1, .int .i64 c.who.2, .int .i64 c.comp, .int .i64 c.val.1, .int .i64 c.val.2.1, .float .f64 c.val.2.2.1, .float .f64 c.val.2.2.2, .slice s c.list.length cap]] w fun e w' => e = .returned (.bool (okR A B C && cmdB A c)) ∧ Below w.heap.size w w' := by
  have hal := alloc_old
  have haf := alloc_oldf
  obtain ⟨k0, k1, L0⟩ := boxTwo w #[.slice s1 A.length c1, .slice s2 B.length c2, .slice s3 C.length c3] #[.int .i64 c.kind, .int .i64 c.who.1, .int .i64 c.who.2, .int .i64 c.comp, .int .i64 c.val.1, .int .i64 c.val.2.1, .float .f64 c.val.2.2.1, .float .f64 c.val.2.2.2, .slice s c.list.length cap] 37 66
  have HD : Hid (Decls w s1 A ∧ Decls w s2 B ∧ Decls w s3 C ∧ ∀ i, i < (A ++ B ++ C).length → (dAt (A ++ B ++ C) i).1.size ≤ maxLen) := ⟨hA, hB, hC, nm⟩
  have HL : Hid (Els 5 cCell w Bs s c.list) := hL
  clear hA hB hC nm hL
  go_enter Try.func22, Try.ntmps22
  go_wp2_with fail
  generalize hX : (w.alloc (.cells #[.slice s1 A.length c1, .slice s2 B.length c2, .slice s3 C.length c3] 37)).alloc (.cells #[.int .i64 c.kind, .int .i64 c.who.1, .int .i64 c.who.2, .int .i64 c.comp, .int .i64 c.val.1, .int .i64 c.val.2.1, .float .f64 c.val.2.2.1, .float .f64 c.val.2.2.2, .slice s c.list.length cap] 66) = X at k0 k1 L0 ⊢
  clear hX
  have LX : Hid (Below w.heap.size w X) := L0
  obtain ⟨x0, x1, x2, x3⟩ := k0.three'
  obtain ⟨y0, y1, y2, y3, y4, y5, y6, y7, y8, y9⟩ := k1.nine
  clear L0 x3 y9 k0 k1
  cases hok : okR A B C
  · refine wp_region_held_drew (S := (fun w' => w'.cell? ⟨w.heap.size, 0, none⟩ = some (.slice s1 A.length c1) ∧ w'.cell? ⟨w.heap.size, 1, none⟩ = some (.slice s2 B.length c2) ∧ w'.cell? ⟨w.heap.size, 2, none⟩ = some (.slice s3 C.length c3))) (by kernel_rfl) ?_ (fun hHeld => ?_)
    · exact ⟨x0, x1, x2⟩
    refine wpAnyH_one (i := 0) (d := 5) (v := ?_) rfl rfl (by kernel_rfl) (by kernel_rfl) (by kernel_rfl) (fun _ _ _ h => h) (by rfl) (by assumption) ?_ ?_
    rotate_left 1
    · intro w hSw; (try dsimp only at hSw); go_simp <;> with_reducible rfl
    simp only [List.foldl, Act.put, List.setIfInBounds_toArray, List.set_cons_zero, List.set_cons_succ]
    refine wpAnyH_ready (rs := [1]) (by kernel_rfl) (by simp) ?_
    refine AllReadyH.cons rfl (fun K hK => ?_) AllReadyH.nil
    go_simp
    refine (implRegOk_any s1 s2 s3 c1 c2 c3 A B C _ (HD.out.1.later (bl_trans LX.out (bl_drew (Below.refl _ _)))) (HD.out.2.1.later (bl_trans LX.out (bl_drew (Below.refl _ _)))) (HD.out.2.2.1.later (bl_trans LX.out (bl_drew (Below.refl _ _)))) HD.out.2.2.2 l1 l2 l3).mono ?_
    rintro e w2 ⟨rfl, hb_w2⟩
    rw [hok]
    have hc_w2 : Below X.heap.size X w2 := bl_trans (bl_drew (Below.refl _ _)) hb_w2
    have hX_w2 : Hid (Below X.heap.size X w2) := hc_w2
    have x0 := kcell hc_w2 x0
    have x1 := kcell hc_w2 x1
    have x2 := kcell hc_w2 x2
    clear hb_w2 hc_w2
    refine hK.out _ _ ?_ (fun hHeld => ?_)
    · exact ⟨x0, x1, x2⟩
    clear hK K
    try simp only [List.foldl, Act.put, List.setIfInBounds_toArray, List.set_cons_zero, List.set_cons_succ]
    refine wpAnyH_one (i := 2) (d := 7) (v := ?_) rfl rfl (by kernel_rfl) (by kernel_rfl) (by kernel_rfl) (fun _ _ _ h => h) (by rfl) (by assumption) ?_ ?_
    rotate_left 1
    · intro w hSw; (try dsimp only at hSw); go_simp <;> with_reducible rfl
    simp only [List.foldl, Act.put, List.setIfInBounds_toArray, List.set_cons_zero, List.set_cons_succ]
    refine wpAnyH_skip (by kernel_rfl) (fun _ _ _ _ h => h) [(3, 8), (4, 9), (5, 10), (6, 11), (7, 12)] 2 _ _ _ (by assumption) (by kernel_rfl) ?_ _ rfl
    simp only [List.foldl, Act.put, List.setIfInBounds_toArray, List.set_cons_zero, List.set_cons_succ]
    refine wpAnyH_one (i := 8) (d := 13) (v := ?_) rfl rfl (by kernel_rfl) (by kernel_rfl) (by kernel_rfl) (fun _ _ _ h => h) (by rfl) (by assumption) ?_ ?_
    rotate_left 1
    · intro w hSw; (try dsimp only at hSw); go_simp <;> with_reducible rfl
    simp only [List.foldl, Act.put, List.setIfInBounds_toArray, List.set_cons_zero, List.set_cons_succ]
    refine wpAnyH_one (i := 9) (d := 4) (v := ?_) rfl rfl (by kernel_rfl) (by kernel_rfl) (by kernel_rfl) (fun _ _ _ h => h) (by rfl) (by assumption) ?_ ?_
    rotate_left 1
    · intro w hSw; (try dsimp only at hSw); go_simp <;> with_reducible rfl
    simp only [List.foldl, Act.put, List.setIfInBounds_toArray, List.set_cons_zero, List.set_cons_succ]
    refine wpAnyH_done (by kernel_rfl) ?_ _
    go_wp2_with fail
    go_ret
    exact ⟨ret_bool' (by rw [hok]; rfl), bl_trans LX.out hX_w2.out⟩
  · rcases kinds c with hk | hk | hk | hk | ⟨hk1, hk2, hk3, hk4⟩
    · have E : Hid (cellsB A c.list = (okR A B C && cmdB A c)) := by show _ = _; rw [hok]; simp [cmdB, hk.out]
      refine wp_region_held_drew (S := (fun w' => w'.cell? ⟨w.heap.size, 0, none⟩ = some (.slice s1 A.length c1) ∧ w'.cell? ⟨w.heap.size, 1, none⟩ = some (.slice s2 B.length c2) ∧ w'.cell? ⟨w.heap.size, 2, none⟩ = some (.slice s3 C.length c3) ∧ w'.cell? ⟨w.heap.size + 1, 0, none⟩ = some (.int .i64 c.kind) ∧ w'.cell? ⟨w.heap.size + 1, 1, none⟩ = some (.int .i64 c.who.1) ∧ w'.cell? ⟨w.heap.size + 1, 2, none⟩ = some (.int .i64 c.who.2) ∧ w'.cell? ⟨w.heap.size + 1, 3, none⟩ = some (.int .i64 c.comp) ∧ w'.cell? ⟨w.heap.size + 1, 4, none⟩ = some (.int .i64 c.val.1) ∧ w'.cell? ⟨w.heap.size + 1, 5, none⟩ = some (.int .i64 c.val.2.1) ∧ w'.cell? ⟨w.heap.size + 1, 6, none⟩ = some (.float .f64 c.val.2.2.1) ∧ w'.cell? ⟨w.heap.size + 1, 7, none⟩ = some (.float .f64 c.val.2.2.2) ∧ w'.cell? ⟨w.heap.size + 1, 8, none⟩ = some (.slice s c.list.length cap))) (by kernel_rfl) ?_ (fun hHeld => ?_)
      · exact ⟨x0, x1, x2, y0, y1, y2, y3, y4, y5, y6, y7, y8⟩
      refine wpAnyH_one (i := 0) (d := 5) (v := ?_) rfl rfl (by kernel_rfl) (by kernel_rfl) (by kernel_rfl) (fun _ _ _ h => h) (by rfl) (by assumption) ?_ ?_
      rotate_left 1
      · intro w hSw; (try dsimp only at hSw); go_simp <;> with_reducible rfl
      simp only [List.foldl, Act.put, List.setIfInBounds_toArray, List.set_cons_zero, List.set_cons_succ]
      refine wpAnyH_ready (rs := [1]) (by kernel_rfl) (by simp) ?_
      refine AllReadyH.cons rfl (fun K hK => ?_) AllReadyH.nil
      go_simp
      refine (implRegOk_any s1 s2 s3 c1 c2 c3 A B C _ (HD.out.1.later (bl_trans LX.out (bl_drew (Below.refl _ _)))) (HD.out.2.1.later (bl_trans LX.out (bl_drew (Below.refl _ _)))) (HD.out.2.2.1.later (bl_trans LX.out (bl_drew (Below.refl _ _)))) HD.out.2.2.2 l1 l2 l3).mono ?_
      rintro e w2 ⟨rfl, hb_w2⟩
      rw [hok]
      have hc_w2 : Below X.heap.size X w2 := bl_trans (bl_drew (Below.refl _ _)) hb_w2
      have hX_w2 : Hid (Below X.heap.size X w2) := hc_w2
      have x0 := kcell hc_w2 x0
      have x1 := kcell hc_w2 x1
      have x2 := kcell hc_w2 x2
      have y0 := kcell hc_w2 y0
      have y1 := kcell hc_w2 y1
      have y2 := kcell hc_w2 y2
      have y3 := kcell hc_w2 y3
      have y4 := kcell hc_w2 y4
      have y5 := kcell hc_w2 y5
      have y6 := kcell hc_w2 y6
      have y7 := kcell hc_w2 y7
      have y8 := kcell hc_w2 y8
      clear hb_w2 hc_w2
      refine hK.out _ _ ?_ (fun hHeld => ?_)
      · exact ⟨x0, x1, x2, y0, y1, y2, y3, y4, y5, y6, y7, y8⟩
      clear hK K
      try simp only [List.foldl, Act.put, List.setIfInBounds_toArray, List.set_cons_zero, List.set_cons_succ]
      refine wpAnyH_one (i := 2) (d := 7) (v := ?_) rfl rfl (by kernel_rfl) (by kernel_rfl) (by kernel_rfl) (fun _ _ _ h => h) (by rfl) (by assumption) ?_ ?_
      rotate_left 1
      · intro w hSw; (try dsimp only at hSw); go_simp <;> with_reducible rfl
      simp only [List.foldl, Act.put, List.setIfInBounds_toArray, List.set_cons_zero, List.set_cons_succ]
      refine wpAnyH_one (i := 3) (d := 8) (v := ?_) rfl rfl (by kernel_rfl) (by kernel_rfl) (by kernel_rfl) (fun _ _ _ h => h) (by rfl) (by assumption) ?_ ?_
      rotate_left 1
      · intro w hSw; (try dsimp only at hSw); go_simp <;> with_reducible rfl
      simp only [List.foldl, Act.put, List.setIfInBounds_toArray, List.set_cons_zero, List.set_cons_succ]
      refine wpAnyH_one (i := 4) (d := 9) (v := ?_) rfl rfl (by kernel_rfl) (by kernel_rfl) (by kernel_rfl) (fun _ _ _ h => h) (by rfl) (by assumption) ?_ ?_
      rotate_left 1
      · intro w hSw; (try dsimp only at hSw); go_simp <;> with_reducible rfl
      simp only [List.foldl, Act.put, List.setIfInBounds_toArray, List.set_cons_zero, List.set_cons_succ]
      refine wpAnyH_one (i := 6) (d := 11) (v := ?_) rfl rfl (by kernel_rfl) (by kernel_rfl) (by kernel_rfl) (fun _ _ _ h => h) (by rfl) (by assumption) ?_ ?_
      rotate_left 1
      · intro w hSw; (try dsimp only at hSw); go_simp <;> with_reducible rfl
      simp only [List.foldl, Act.put, List.setIfInBounds_toArray, List.set_cons_zero, List.set_cons_succ]
      refine wpAnyH_ready (rs := [5]) (by kernel_rfl) (by simp) ?_
      refine AllReadyH.cons rfl (fun K hK => ?_) AllReadyH.nil
      go_simp
      refine (changeOf_1 s cap c _ hk.out).mono ?_
      rintro e w4 ⟨rfl, hb_w4⟩
      have hc_w4 : Below w2.heap.size w2 w4 := hb_w4
      have hX_w4 : Hid (Below X.heap.size X w4) := bl_trans hX_w2.out hc_w4
      have x0 := kcell hc_w4 x0
      have x1 := kcell hc_w4 x1
      have x2 := kcell hc_w4 x2
      have y0 := kcell hc_w4 y0
      have y1 := kcell hc_w4 y1
      have y2 := kcell hc_w4 y2
      have y3 := kcell hc_w4 y3
      have y4 := kcell hc_w4 y4
      have y5 := kcell hc_w4 y5
      have y6 := kcell hc_w4 y6
      have y7 := kcell hc_w4 y7
      have y8 := kcell hc_w4 y8
      clear hb_w4 hc_w4
      refine hK.out _ _ ?_ (fun hHeld => ?_)
      · exact ⟨x0, x1, x2, y0, y1, y2, y3, y4, y5, y6, y7, y8⟩
      clear hK K
      try simp only [List.foldl, Act.put, List.setIfInBounds_toArray, List.set_cons_zero, List.set_cons_succ]
      refine wpAnyH_ready (rs := [7]) (by kernel_rfl) (by simp) ?_
      refine AllReadyH.cons rfl (fun K hK => ?_) AllReadyH.nil
      go_simp
      refine (right_1 s1 s2 s3 c1 c2 c3 A B C s cap c.list Bs _ (HD.out.1.later (bl_trans LX.out hX_w4.out)) (HL.out.later cCell_keeps (bl_trans LX.out hX_w4.out)) l1 hl hcap).mono ?_
      rintro e w6 ⟨rfl, hb_w6⟩
      have hc_w6 : Below w4.heap.size w4 w6 := hb_w6
      have hX_w6 : Hid (Below X.heap.size X w6) := bl_trans hX_w4.out hc_w6
      have x0 := kcell hc_w6 x0
      have x1 := kcell hc_w6 x1
      have x2 := kcell hc_w6 x2
      have y0 := kcell hc_w6 y0
      have y1 := kcell hc_w6 y1
      have y2 := kcell hc_w6 y2
      have y3 := kcell hc_w6 y3
      have y4 := kcell hc_w6 y4
      have y5 := kcell hc_w6 y5
      have y6 := kcell hc_w6 y6
      have y7 := kcell hc_w6 y7
      have y8 := kcell hc_w6 y8
      clear hb_w6 hc_w6
      refine hK.out _ _ ?_ (fun hHeld => ?_)
      · exact ⟨x0, x1, x2, y0, y1, y2, y3, y4, y5, y6, y7, y8⟩
      clear hK K
      try simp only [List.foldl, Act.put, List.setIfInBounds_toArray, List.set_cons_zero, List.set_cons_succ]
      refine wpAnyH_one (i := 8) (d := 13) (v := ?_) rfl rfl (by kernel_rfl) (by kernel_rfl) (by kernel_rfl) (fun _ _ _ h => h) (by rfl) (by assumption) ?_ ?_
      rotate_left 1
      · intro w hSw; (try dsimp only at hSw); go_simp <;> with_reducible rfl
      simp only [List.foldl, Act.put, List.setIfInBounds_toArray, List.set_cons_zero, List.set_cons_succ]
      refine wpAnyH_one (i := 9) (d := 4) (v := ?_) rfl rfl (by kernel_rfl) (by kernel_rfl) (by kernel_rfl) (fun _ _ _ h => h) (by rfl) (by assumption) ?_ ?_
      rotate_left 1
      · intro w hSw; (try dsimp only at hSw); go_simp <;> with_reducible rfl
      simp only [List.foldl, Act.put, List.setIfInBounds_toArray, List.set_cons_zero, List.set_cons_succ]
      refine wpAnyH_done (by kernel_rfl) ?_ _
      go_wp2_with fail
      go_ret
      exact ⟨ret_bool' E.out, bl_trans LX.out hX_w6.out⟩
    · have E : Hid (true = (okR A B C && cmdB A c)) := by show _ = _; rw [hok]; simp [cmdB, hk.out]
      refine wp_region_held_drew (S := (fun w' => w'.cell? ⟨w.heap.size, 0, none⟩ = some (.slice s1 A.length c1) ∧ w'.cell? ⟨w.heap.size, 1, none⟩ = some (.slice s2 B.length c2) ∧ w'.cell? ⟨w.heap.size, 2, none⟩ = some (.slice s3 C.length c3) ∧ w'.cell? ⟨w.heap.size + 1, 0, none⟩ = some (.int .i64 c.kind) ∧ w'.cell? ⟨w.heap.size + 1, 1, none⟩ = some (.int .i64 c.who.1) ∧ w'.cell? ⟨w.heap.size + 1, 2, none⟩ = some (.int .i64 c.who.2) ∧ w'.cell? ⟨w.heap.size + 1, 3, none⟩ = some (.int .i64 c.comp) ∧ w'.cell? ⟨w.heap.size + 1, 4, none⟩ = some (.int .i64 c.val.1) ∧ w'.cell? ⟨w.heap.size + 1, 5, none⟩ = some (.int .i64 c.val.2.1) ∧ w'.cell? ⟨w.heap.size + 1, 6, none⟩ = some (.float .f64 c.val.2.2.1) ∧ w'.cell? ⟨w.heap.size + 1, 7, none⟩ = some (.float .f64 c.val.2.2.2) ∧ w'.cell? ⟨w.heap.size + 1, 8, none⟩ = some (.slice s c.list.length cap))) (by kernel_rfl) ?_ (fun hHeld => ?_)
      · exact ⟨x0, x1, x2, y0, y1, y2, y3, y4, y5, y6, y7, y8⟩
      refine wpAnyH_one (i := 0) (d := 5) (v := ?_) rfl rfl (by kernel_rfl) (by kernel_rfl) (by kernel_rfl) (fun _ _ _ h => h) (by rfl) (by assumption) ?_ ?_
      rotate_left 1
      · intro w hSw; (try dsimp only at hSw); go_simp <;> with_reducible rfl
      simp only [List.foldl, Act.put, List.setIfInBounds_toArray, List.set_cons_zero, List.set_cons_succ]
      refine wpAnyH_ready (rs := [1]) (by kernel_rfl) (by simp) ?_
      refine AllReadyH.cons rfl (fun K hK => ?_) AllReadyH.nil
      go_simp
      refine (implRegOk_any s1 s2 s3 c1 c2 c3 A B C _ (HD.out.1.later (bl_trans LX.out (bl_drew (Below.refl _ _)))) (HD.out.2.1.later (bl_trans LX.out (bl_drew (Below.refl _ _)))) (HD.out.2.2.1.later (bl_trans LX.out (bl_drew (Below.refl _ _)))) HD.out.2.2.2 l1 l2 l3).mono ?_
      rintro e w2 ⟨rfl, hb_w2⟩
      rw [hok]
      have hc_w2 : Below X.heap.size X w2 := bl_trans (bl_drew (Below.refl _ _)) hb_w2
      have hX_w2 : Hid (Below X.heap.size X w2) := hc_w2
      have x0 := kcell hc_w2 x0
      have x1 := kcell hc_w2 x1
      have x2 := kcell hc_w2 x2
      have y0 := kcell hc_w2 y0
      have y1 := kcell hc_w2 y1
      have y2 := kcell hc_w2 y2
      have y3 := kcell hc_w2 y3
      have y4 := kcell hc_w2 y4
      have y5 := kcell hc_w2 y5
      have y6 := kcell hc_w2 y6
      have y7 := kcell hc_w2 y7
      have y8 := kcell hc_w2 y8
      clear hb_w2 hc_w2
      refine hK.out _ _ ?_ (fun hHeld => ?_)
      · exact ⟨x0, x1, x2, y0, y1, y2, y3, y4, y5, y6, y7, y8⟩
      clear hK K
      try simp only [List.foldl, Act.put, List.setIfInBounds_toArray, List.set_cons_zero, List.set_cons_succ]
      refine wpAnyH_one (i := 2) (d := 7) (v := ?_) rfl rfl (by kernel_rfl) (by kernel_rfl) (by kernel_rfl) (fun _ _ _ h => h) (by rfl) (by assumption) ?_ ?_
      rotate_left 1
      · intro w hSw; (try dsimp only at hSw); go_simp <;> with_reducible rfl
      simp only [List.foldl, Act.put, List.setIfInBounds_toArray, List.set_cons_zero, List.set_cons_succ]
      refine wpAnyH_one (i := 3) (d := 8) (v := ?_) rfl rfl (by kernel_rfl) (by kernel_rfl) (by kernel_rfl) (fun _ _ _ h => h) (by rfl) (by assumption) ?_ ?_
      rotate_left 1
      · intro w hSw; (try dsimp only at hSw); go_simp <;> with_reducible rfl
      simp only [List.foldl, Act.put, List.setIfInBounds_toArray, List.set_cons_zero, List.set_cons_succ]
      refine wpAnyH_one (i := 4) (d := 9) (v := ?_) rfl rfl (by kernel_rfl) (by kernel_rfl) (by kernel_rfl) (fun _ _ _ h => h) (by rfl) (by assumption) ?_ ?_
      rotate_left 1
      · intro w hSw; (try dsimp only at hSw); go_simp <;> with_reducible rfl
      simp only [List.foldl, Act.put, List.setIfInBounds_toArray, List.set_cons_zero, List.set_cons_succ]
      refine wpAnyH_one (i := 6) (d := 11) (v := ?_) rfl rfl (by kernel_rfl) (by kernel_rfl) (by kernel_rfl) (fun _ _ _ h => h) (by rfl) (by assumption) ?_ ?_
      rotate_left 1
      · intro w hSw; (try dsimp only at hSw); go_simp <;> with_reducible rfl
      simp only [List.foldl, Act.put, List.setIfInBounds_toArray, List.set_cons_zero, List.set_cons_succ]
      refine wpAnyH_ready (rs := [5]) (by kernel_rfl) (by simp) ?_
      refine AllReadyH.cons rfl (fun K hK => ?_) AllReadyH.nil
      go_simp
      refine (changeOf_2 s cap c _ hk.out).mono ?_
      rintro e w4 ⟨rfl, hb_w4⟩
      have hc_w4 : Below w2.heap.size w2 w4 := hb_w4
      have hX_w4 : Hid (Below X.heap.size X w4) := bl_trans hX_w2.out hc_w4
      have x0 := kcell hc_w4 x0
      have x1 := kcell hc_w4 x1
      have x2 := kcell hc_w4 x2
      have y0 := kcell hc_w4 y0
      have y1 := kcell hc_w4 y1
      have y2 := kcell hc_w4 y2
      have y3 := kcell hc_w4 y3
      have y4 := kcell hc_w4 y4
      have y5 := kcell hc_w4 y5
      have y6 := kcell hc_w4 y6
      have y7 := kcell hc_w4 y7
      have y8 := kcell hc_w4 y8
      clear hb_w4 hc_w4
      refine hK.out _ _ ?_ (fun hHeld => ?_)
      · exact ⟨x0, x1, x2, y0, y1, y2, y3, y4, y5, y6, y7, y8⟩
      clear hK K
      try simp only [List.foldl, Act.put, List.setIfInBounds_toArray, List.set_cons_zero, List.set_cons_succ]
      refine wpAnyH_ready (rs := [7]) (by kernel_rfl) (by simp) ?_
      refine AllReadyH.cons rfl (fun K hK => ?_) AllReadyH.nil
      go_simp
      refine (right_2 s1 s2 s3 c1 c2 c3 A B C c.who.1 c.who.2 _).mono ?_
      rintro e w6 ⟨rfl, hb_w6⟩
      have hc_w6 : Below w4.heap.size w4 w6 := hb_w6
      have hX_w6 : Hid (Below X.heap.size X w6) := bl_trans hX_w4.out hc_w6
      have x0 := kcell hc_w6 x0
      have x1 := kcell hc_w6 x1
      have x2 := kcell hc_w6 x2
      have y0 := kcell hc_w6 y0
      have y1 := kcell hc_w6 y1
      have y2 := kcell hc_w6 y2
      have y3 := kcell hc_w6 y3
      have y4 := kcell hc_w6 y4
      have y5 := kcell hc_w6 y5
      have y6 := kcell hc_w6 y6
      have y7 := kcell hc_w6 y7
      have y8 := kcell hc_w6 y8
      clear hb_w6 hc_w6
      refine hK.out _ _ ?_ (fun hHeld => ?_)
      · exact ⟨x0, x1, x2, y0, y1, y2, y3, y4, y5, y6, y7, y8⟩
      clear hK K
      try simp only [List.foldl, Act.put, List.setIfInBounds_toArray, List.set_cons_zero, List.set_cons_succ]
      refine wpAnyH_one (i := 8) (d := 13) (v := ?_) rfl rfl (by kernel_rfl) (by kernel_rfl) (by kernel_rfl) (fun _ _ _ h => h) (by rfl) (by assumption) ?_ ?_
      rotate_left 1
      · intro w hSw; (try dsimp only at hSw); go_simp <;> with_reducible rfl
      simp only [List.foldl, Act.put, List.setIfInBounds_toArray, List.set_cons_zero, List.set_cons_succ]
      refine wpAnyH_one (i := 9) (d := 4) (v := ?_) rfl rfl (by kernel_rfl) (by kernel_rfl) (by kernel_rfl) (fun _ _ _ h => h) (by rfl) (by assumption) ?_ ?_
      rotate_left 1
      · intro w hSw; (try dsimp only at hSw); go_simp <;> with_reducible rfl
      simp only [List.foldl, Act.put, List.setIfInBounds_toArray, List.set_cons_zero, List.set_cons_succ]
      refine wpAnyH_done (by kernel_rfl) ?_ _
      go_wp2_with fail
      go_ret
      exact ⟨ret_bool' E.out, bl_trans LX.out hX_w6.out⟩
    · have E : Hid (fitB A c.comp c.val = (okR A B C && cmdB A c)) := by show _ = _; rw [hok]; simp [cmdB, hk.out]
      refine wp_region_held_drew (S := (fun w' => w'.cell? ⟨w.heap.size, 0, none⟩ = some (.slice s1 A.length c1) ∧ w'.cell? ⟨w.heap.size, 1, none⟩ = some (.slice s2 B.length c2) ∧ w'.cell? ⟨w.heap.size, 2, none⟩ = some (.slice s3 C.length c3) ∧ w'.cell? ⟨w.heap.size + 1, 0, none⟩ = some (.int .i64 c.kind) ∧ w'.cell? ⟨w.heap.size + 1, 1, none⟩ = some (.int .i64 c.who.1) ∧ w'.cell? ⟨w.heap.size + 1, 2, none⟩ = some (.int .i64 c.who.2) ∧ w'.cell? ⟨w.heap.size + 1, 3, none⟩ = some (.int .i64 c.comp) ∧ w'.cell? ⟨w.heap.size + 1, 4, none⟩ = some (.int .i64 c.val.1) ∧ w'.cell? ⟨w.heap.size + 1, 5, none⟩ = some (.int .i64 c.val.2.1) ∧ w'.cell? ⟨w.heap.size + 1, 6, none⟩ = some (.float .f64 c.val.2.2.1) ∧ w'.cell? ⟨w.heap.size + 1, 7, none⟩ = some (.float .f64 c.val.2.2.2) ∧ w'.cell? ⟨w.heap.size + 1, 8, none⟩ = some (.slice s c.list.length cap))) (by kernel_rfl) ?_ (fun hHeld => ?_)
      · exact ⟨x0, x1, x2, y0, y1, y2, y3, y4, y5, y6, y7, y8⟩
      refine wpAnyH_one (i := 0) (d := 5) (v := ?_) rfl rfl (by kernel_rfl) (by kernel_rfl) (by kernel_rfl) (fun _ _ _ h => h) (by rfl) (by assumption) ?_ ?_
      rotate_left 1
      · intro w hSw; (try dsimp only at hSw); go_simp <;> with_reducible rfl
      simp only [List.foldl, Act.put, List.setIfInBounds_toArray, List.set_cons_zero, List.set_cons_succ]
      refine wpAnyH_ready (rs := [1]) (by kernel_rfl) (by simp) ?_
      refine AllReadyH.cons rfl (fun K hK => ?_) AllReadyH.nil
      go_simp
      refine (implRegOk_any s1 s2 s3 c1 c2 c3 A B C _ (HD.out.1.later (bl_trans LX.out (bl_drew (Below.refl _ _)))) (HD.out.2.1.later (bl_trans LX.out (bl_drew (Below.refl _ _)))) (HD.out.2.2.1.later (bl_trans LX.out (bl_drew (Below.refl _ _)))) HD.out.2.2.2 l1 l2 l3).mono ?_
      rintro e w2 ⟨rfl, hb_w2⟩
      rw [hok]
      have hc_w2 : Below X.heap.size X w2 := bl_trans (bl_drew (Below.refl _ _)) hb_w2
      have hX_w2 : Hid (Below X.heap.size X w2) := hc_w2
      have x0 := kcell hc_w2 x0
      have x1 := kcell hc_w2 x1
      have x2 := kcell hc_w2 x2
      have y0 := kcell hc_w2 y0
      have y1 := kcell hc_w2 y1
      have y2 := kcell hc_w2 y2
      have y3 := kcell hc_w2 y3
      have y4 := kcell hc_w2 y4
      have y5 := kcell hc_w2 y5
      have y6 := kcell hc_w2 y6
      have y7 := kcell hc_w2 y7
      have y8 := kcell hc_w2 y8
      clear hb_w2 hc_w2
      refine hK.out _ _ ?_ (fun hHeld => ?_)
      · exact ⟨x0, x1, x2, y0, y1, y2, y3, y4, y5, y6, y7, y8⟩
      clear hK K
      try simp only [List.foldl, Act.put, List.setIfInBounds_toArray, List.set_cons_zero, List.set_cons_succ]
      refine wpAnyH_one (i := 2) (d := 7) (v := ?_) rfl rfl (by kernel_rfl) (by kernel_rfl) (by kernel_rfl) (fun _ _ _ h => h) (by rfl) (by assumption) ?_ ?_
      rotate_left 1
      · intro w hSw; (try dsimp only at hSw); go_simp <;> with_reducible rfl
      simp only [List.foldl, Act.put, List.setIfInBounds_toArray, List.set_cons_zero, List.set_cons_succ]
      refine wpAnyH_one (i := 3) (d := 8) (v := ?_) rfl rfl (by kernel_rfl) (by kernel_rfl) (by kernel_rfl) (fun _ _ _ h => h) (by rfl) (by assumption) ?_ ?_
      rotate_left 1
      · intro w hSw; (try dsimp only at hSw); go_simp <;> with_reducible rfl
      simp only [List.foldl, Act.put, List.setIfInBounds_toArray, List.set_cons_zero, List.set_cons_succ]
      refine wpAnyH_one (i := 4) (d := 9) (v := ?_) rfl rfl (by kernel_rfl) (by kernel_rfl) (by kernel_rfl) (fun _ _ _ h => h) (by rfl) (by assumption) ?_ ?_
      rotate_left 1
      · intro w hSw; (try dsimp only at hSw); go_simp <;> with_reducible rfl
      simp only [List.foldl, Act.put, List.setIfInBounds_toArray, List.set_cons_zero, List.set_cons_succ]
      refine wpAnyH_one (i := 6) (d := 11) (v := ?_) rfl rfl (by kernel_rfl) (by kernel_rfl) (by kernel_rfl) (fun _ _ _ h => h) (by rfl) (by assumption) ?_ ?_
      rotate_left 1
      · intro w hSw; (try dsimp only at hSw); go_simp <;> with_reducible rfl
      simp only [List.foldl, Act.put, List.setIfInBounds_toArray, List.set_cons_zero, List.set_cons_succ]
      refine wpAnyH_ready (rs := [5]) (by kernel_rfl) (by simp) ?_
      refine AllReadyH.cons rfl (fun K hK => ?_) AllReadyH.nil
      go_simp
      refine (changeOf_3 s cap c _ hk.out).mono ?_
      rintro e w4 ⟨rfl, hb_w4⟩
      have hc_w4 : Below w2.heap.size w2 w4 := hb_w4
      have hX_w4 : Hid (Below X.heap.size X w4) := bl_trans hX_w2.out hc_w4
      have x0 := kcell hc_w4 x0
      have x1 := kcell hc_w4 x1
      have x2 := kcell hc_w4 x2
      have y0 := kcell hc_w4 y0
      have y1 := kcell hc_w4 y1
      have y2 := kcell hc_w4 y2
      have y3 := kcell hc_w4 y3
      have y4 := kcell hc_w4 y4
      have y5 := kcell hc_w4 y5
      have y6 := kcell hc_w4 y6
      have y7 := kcell hc_w4 y7
      have y8 := kcell hc_w4 y8
      clear hb_w4 hc_w4
      refine hK.out _ _ ?_ (fun hHeld => ?_)
      · exact ⟨x0, x1, x2, y0, y1, y2, y3, y4, y5, y6, y7, y8⟩
      clear hK K
      try simp only [List.foldl, Act.put, List.setIfInBounds_toArray, List.set_cons_zero, List.set_cons_succ]
      refine wpAnyH_ready (rs := [7]) (by kernel_rfl) (by simp) ?_
      refine AllReadyH.cons rfl (fun K hK => ?_) AllReadyH.nil
      go_simp
      refine (right_3 s1 s2 s3 c1 c2 c3 A B C c.who.1 c.who.2 c.comp c.val _ (HD.out.1.later (bl_trans LX.out hX_w4.out)) l1).mono ?_
      rintro e w6 ⟨rfl, hb_w6⟩
      have hc_w6 : Below w4.heap.size w4 w6 := hb_w6
      have hX_w6 : Hid (Below X.heap.size X w6) := bl_trans hX_w4.out hc_w6
      have x0 := kcell hc_w6 x0
      have x1 := kcell hc_w6 x1
      have x2 := kcell hc_w6 x2
      have y0 := kcell hc_w6 y0
      have y1 := kcell hc_w6 y1
      have y2 := kcell hc_w6 y2
      have y3 := kcell hc_w6 y3
      have y4 := kcell hc_w6 y4
      have y5 := kcell hc_w6 y5
      have y6 := kcell hc_w6 y6
      have y7 := kcell hc_w6 y7
      have y8 := kcell hc_w6 y8
      clear hb_w6 hc_w6
      refine hK.out _ _ ?_ (fun hHeld => ?_)
      · exact ⟨x0, x1, x2, y0, y1, y2, y3, y4, y5, y6, y7, y8⟩
      clear hK K
      try simp only [List.foldl, Act.put, List.setIfInBounds_toArray, List.set_cons_zero, List.set_cons_succ]
      refine wpAnyH_one (i := 8) (d := 13) (v := ?_) rfl rfl (by kernel_rfl) (by kernel_rfl) (by kernel_rfl) (fun _ _ _ h => h) (by rfl) (by assumption) ?_ ?_
      rotate_left 1
      · intro w hSw; (try dsimp only at hSw); go_simp <;> with_reducible rfl
      simp only [List.foldl, Act.put, List.setIfInBounds_toArray, List.set_cons_zero, List.set_cons_succ]
      refine wpAnyH_one (i := 9) (d := 4) (v := ?_) rfl rfl (by kernel_rfl) (by kernel_rfl) (by kernel_rfl) (fun _ _ _ h => h) (by rfl) (by assumption) ?_ ?_
      rotate_left 1
      · intro w hSw; (try dsimp only at hSw); go_simp <;> with_reducible rfl
      simp only [List.foldl, Act.put, List.setIfInBounds_toArray, List.set_cons_zero, List.set_cons_succ]
      refine wpAnyH_done (by kernel_rfl) ?_ _
      go_wp2_with fail
      go_ret
      exact ⟨ret_bool' E.out, bl_trans LX.out hX_w6.out⟩
    · have E : Hid (cmpB A c.comp = (okR A B C && cmdB A c)) := by show _ = _; rw [hok]; simp [cmdB, hk.out]
      refine wp_region_held_drew (S := (fun w' => w'.cell? ⟨w.heap.size, 0, none⟩ = some (.slice s1 A.length c1) ∧ w'.cell? ⟨w.heap.size, 1, none⟩ = some (.slice s2 B.length c2) ∧ w'.cell? ⟨w.heap.size, 2, none⟩ = some (.slice s3 C.length c3) ∧ w'.cell? ⟨w.heap.size + 1, 0, none⟩ = some (.int .i64 c.kind) ∧ w'.cell? ⟨w.heap.size + 1, 1, none⟩ = some (.int .i64 c.who.1) ∧ w'.cell? ⟨w.heap.size + 1, 2, none⟩ = some (.int .i64 c.who.2) ∧ w'.cell? ⟨w.heap.size + 1, 3, none⟩ = some (.int .i64 c.comp) ∧ w'.cell? ⟨w.heap.size + 1, 4, none⟩ = some (.int .i64 c.val.1) ∧ w'.cell? ⟨w.heap.size + 1, 5, none⟩ = some (.int .i64 c.val.2.1) ∧ w'.cell? ⟨w.heap.size + 1, 6, none⟩ = some (.float .f64 c.val.2.2.1) ∧ w'.cell? ⟨w.heap.size + 1, 7, none⟩ = some (.float .f64 c.val.2.2.2) ∧ w'.cell? ⟨w.heap.size + 1, 8, none⟩ = some (.slice s c.list.length cap))) (by kernel_rfl) ?_ (fun hHeld => ?_)
      · exact ⟨x0, x1, x2, y0, y1, y2, y3, y4, y5, y6, y7, y8⟩
      refine wpAnyH_one (i := 0) (d := 5) (v := ?_) rfl rfl (by kernel_rfl) (by kernel_rfl) (by kernel_rfl) (fun _ _ _ h => h) (by rfl) (by assumption) ?_ ?_
      rotate_left 1
      · intro w hSw; (try dsimp only at hSw); go_simp <;> with_reducible rfl
      simp only [List.foldl, Act.put, List.setIfInBounds_toArray, List.set_cons_zero, List.set_cons_succ]
      refine wpAnyH_ready (rs := [1]) (by kernel_rfl) (by simp) ?_
      refine AllReadyH.cons rfl (fun K hK => ?_) AllReadyH.nil
      go_simp
      refine (implRegOk_any s1 s2 s3 c1 c2 c3 A B C _ (HD.out.1.later (bl_trans LX.out (bl_drew (Below.refl _ _)))) (HD.out.2.1.later (bl_trans LX.out (bl_drew (Below.refl _ _)))) (HD.out.2.2.1.later (bl_trans LX.out (bl_drew (Below.refl _ _)))) HD.out.2.2.2 l1 l2 l3).mono ?_
      rintro e w2 ⟨rfl, hb_w2⟩
      rw [hok]
      have hc_w2 : Below X.heap.size X w2 := bl_trans (bl_drew (Below.refl _ _)) hb_w2
      have hX_w2 : Hid (Below X.heap.size X w2) := hc_w2
      have x0 := kcell hc_w2 x0
      have x1 := kcell hc_w2 x1
      have x2 := kcell hc_w2 x2
      have y0 := kcell hc_w2 y0
      have y1 := kcell hc_w2 y1
      have y2 := kcell hc_w2 y2
      have y3 := kcell hc_w2 y3
      have y4 := kcell hc_w2 y4
      have y5 := kcell hc_w2 y5
      have y6 := kcell hc_w2 y6
      have y7 := kcell hc_w2 y7
      have y8 := kcell hc_w2 y8
      clear hb_w2 hc_w2
      refine hK.out _ _ ?_ (fun hHeld => ?_)
      · exact ⟨x0, x1, x2, y0, y1, y2, y3, y4, y5, y6, y7, y8⟩
      clear hK K
      try simp only [List.foldl, Act.put, List.setIfInBounds_toArray, List.set_cons_zero, List.set_cons_succ]
      refine wpAnyH_one (i := 2) (d := 7) (v := ?_) rfl rfl (by kernel_rfl) (by kernel_rfl) (by kernel_rfl) (fun _ _ _ h => h) (by rfl) (by assumption) ?_ ?_
      rotate_left 1
      · intro w hSw; (try dsimp only at hSw); go_simp <;> with_reducible rfl
      simp only [List.foldl, Act.put, List.setIfInBounds_toArray, List.set_cons_zero, List.set_cons_succ]
      refine wpAnyH_one (i := 3) (d := 8) (v := ?_) rfl rfl (by kernel_rfl) (by kernel_rfl) (by kernel_rfl) (fun _ _ _ h => h) (by rfl) (by assumption) ?_ ?_
      rotate_left 1
      · intro w hSw; (try dsimp only at hSw); go_simp <;> with_reducible rfl
      simp only [List.foldl, Act.put, List.setIfInBounds_toArray, List.set_cons_zero, List.set_cons_succ]
      refine wpAnyH_one (i := 4) (d := 9) (v := ?_) rfl rfl (by kernel_rfl) (by kernel_rfl) (by kernel_rfl) (fun _ _ _ h => h) (by rfl) (by assumption) ?_ ?_
      rotate_left 1
      · intro w hSw; (try dsimp only at hSw); go_simp <;> with_reducible rfl
      simp only [List.foldl, Act.put, List.setIfInBounds_toArray, List.set_cons_zero, List.set_cons_succ]
      refine wpAnyH_one (i := 6) (d := 11) (v := ?_) rfl rfl (by kernel_rfl) (by kernel_rfl) (by kernel_rfl) (fun _ _ _ h => h) (by rfl) (by assumption) ?_ ?_
      rotate_left 1
      · intro w hSw; (try dsimp only at hSw); go_simp <;> with_reducible rfl
      simp only [List.foldl, Act.put, List.setIfInBounds_toArray, List.set_cons_zero, List.set_cons_succ]
      refine wpAnyH_ready (rs := [5]) (by kernel_rfl) (by simp) ?_
      refine AllReadyH.cons rfl (fun K hK => ?_) AllReadyH.nil
      go_simp
      refine (changeOf_4 s cap c _ hk.out).mono ?_
      rintro e w4 ⟨rfl, hb_w4⟩
      have hc_w4 : Below w2.heap.size w2 w4 := hb_w4
      have hX_w4 : Hid (Below X.heap.size X w4) := bl_trans hX_w2.out hc_w4
      have x0 := kcell hc_w4 x0
      have x1 := kcell hc_w4 x1
      have x2 := kcell hc_w4 x2
      have y0 := kcell hc_w4 y0
      have y1 := kcell hc_w4 y1
      have y2 := kcell hc_w4 y2
      have y3 := kcell hc_w4 y3
      have y4 := kcell hc_w4 y4
      have y5 := kcell hc_w4 y5
      have y6 := kcell hc_w4 y6
      have y7 := kcell hc_w4 y7
      have y8 := kcell hc_w4 y8
      clear hb_w4 hc_w4
      refine hK.out _ _ ?_ (fun hHeld => ?_)
      · exact ⟨x0, x1, x2, y0, y1, y2, y3, y4, y5, y6, y7, y8⟩
      clear hK K
      try simp only [List.foldl, Act.put, List.setIfInBounds_toArray, List.set_cons_zero, List.set_cons_succ]
      refine wpAnyH_ready (rs := [7]) (by kernel_rfl) (by simp) ?_
      refine AllReadyH.cons rfl (fun K hK => ?_) AllReadyH.nil
      go_simp
      refine (right_4 s1 s2 s3 c1 c2 c3 A B C c.who.1 c.who.2 c.comp _ l1).mono ?_
      rintro e w6 ⟨rfl, hb_w6⟩
      have hc_w6 : Below w4.heap.size w4 w6 := hb_w6
      have hX_w6 : Hid (Below X.heap.size X w6) := bl_trans hX_w4.out hc_w6
      have x0 := kcell hc_w6 x0
      have x1 := kcell hc_w6 x1
      have x2 := kcell hc_w6 x2
      have y0 := kcell hc_w6 y0
      have y1 := kcell hc_w6 y1
      have y2 := kcell hc_w6 y2
      have y3 := kcell hc_w6 y3
      have y4 := kcell hc_w6 y4
      have y5 := kcell hc_w6 y5
      have y6 := kcell hc_w6 y6
      have y7 := kcell hc_w6 y7
      have y8 := kcell hc_w6 y8
      clear hb_w6 hc_w6
      refine hK.out _ _ ?_ (fun hHeld => ?_)
      · exact ⟨x0, x1, x2, y0, y1, y2, y3, y4, y5, y6, y7, y8⟩
      clear hK K
      try simp only [List.foldl, Act.put, List.setIfInBounds_toArray, List.set_cons_zero, List.set_cons_succ]
      refine wpAnyH_one (i := 8) (d := 13) (v := ?_) rfl rfl (by kernel_rfl) (by kernel_rfl) (by kernel_rfl) (fun _ _ _ h => h) (by rfl) (by assumption) ?_ ?_
      rotate_left 1
      · intro w hSw; (try dsimp only at hSw); go_simp <;> with_reducible rfl
      simp only [List.foldl, Act.put, List.setIfInBounds_toArray, List.set_cons_zero, List.set_cons_succ]
      refine wpAnyH_one (i := 9) (d := 4) (v := ?_) rfl rfl (by kernel_rfl) (by kernel_rfl) (by kernel_rfl) (fun _ _ _ h => h) (by rfl) (by assumption) ?_ ?_
      rotate_left 1
      · intro w hSw; (try dsimp only at hSw); go_simp <;> with_reducible rfl
      simp only [List.foldl, Act.put, List.setIfInBounds_toArray, List.set_cons_zero, List.set_cons_succ]
      refine wpAnyH_done (by kernel_rfl) ?_ _
      go_wp2_with fail
      go_ret
      exact ⟨ret_bool' E.out, bl_trans LX.out hX_w6.out⟩
    · have E : Hid (false = (okR A B C && cmdB A c)) := by show _ = _; rw [hok]; simp [cmdB, hk1.out, hk2.out, hk3.out, hk4.out]
      refine wp_region_held_drew (S := (fun w' => w'.cell? ⟨w.heap.size, 0, none⟩ = some (.slice s1 A.length c1) ∧ w'.cell? ⟨w.heap.size, 1, none⟩ = some (.slice s2 B.length c2) ∧ w'.cell? ⟨w.heap.size, 2, none⟩ = some (.slice s3 C.length c3) ∧ w'.cell? ⟨w.heap.size + 1, 0, none⟩ = some (.int .i64 c.kind) ∧ w'.cell? ⟨w.heap.size + 1, 1, none⟩ = some (.int .i64 c.who.1) ∧ w'.cell? ⟨w.heap.size + 1, 2, none⟩ = some (.int .i64 c.who.2) ∧ w'.cell? ⟨w.heap.size + 1, 3, none⟩ = some (.int .i64 c.comp) ∧ w'.cell? ⟨w.heap.size + 1, 4, none⟩ = some (.int .i64 c.val.1) ∧ w'.cell? ⟨w.heap.size + 1, 5, none⟩ = some (.int .i64 c.val.2.1) ∧ w'.cell? ⟨w.heap.size + 1, 6, none⟩ = some (.float .f64 c.val.2.2.1) ∧ w'.cell? ⟨w.heap.size + 1, 7, none⟩ = some (.float .f64 c.val.2.2.2) ∧ w'.cell? ⟨w.heap.size + 1, 8, none⟩ = some (.slice s c.list.length cap))) (by kernel_rfl) ?_ (fun hHeld => ?_)
      · exact ⟨x0, x1, x2, y0, y1, y2, y3, y4, y5, y6, y7, y8⟩
      refine wpAnyH_one (i := 0) (d := 5) (v := ?_) rfl rfl (by kernel_rfl) (by kernel_rfl) (by kernel_rfl) (fun _ _ _ h => h) (by rfl) (by assumption) ?_ ?_
      rotate_left 1
      · intro w hSw; (try dsimp only at hSw); go_simp <;> with_reducible rfl
      simp only [List.foldl, Act.put, List.setIfInBounds_toArray, List.set_cons_zero, List.set_cons_succ]
      refine wpAnyH_ready (rs := [1]) (by kernel_rfl) (by simp) ?_
      refine AllReadyH.cons rfl (fun K hK => ?_) AllReadyH.nil
      go_simp
      refine (implRegOk_any s1 s2 s3 c1 c2 c3 A B C _ (HD.out.1.later (bl_trans LX.out (bl_drew (Below.refl _ _)))) (HD.out.2.1.later (bl_trans LX.out (bl_drew (Below.refl _ _)))) (HD.out.2.2.1.later (bl_trans LX.out (bl_drew (Below.refl _ _)))) HD.out.2.2.2 l1 l2 l3).mono ?_
      rintro e w2 ⟨rfl, hb_w2⟩
      rw [hok]
      have hc_w2 : Below X.heap.size X w2 := bl_trans (bl_drew (Below.refl _ _)) hb_w2
      have hX_w2 : Hid (Below X.heap.size X w2) := hc_w2
      have x0 := kcell hc_w2 x0
      have x1 := kcell hc_w2 x1
      have x2 := kcell hc_w2 x2
      have y0 := kcell hc_w2 y0
      have y1 := kcell hc_w2 y1
      have y2 := kcell hc_w2 y2
      have y3 := kcell hc_w2 y3
      have y4 := kcell hc_w2 y4
      have y5 := kcell hc_w2 y5
      have y6 := kcell hc_w2 y6
      have y7 := kcell hc_w2 y7
      have y8 := kcell hc_w2 y8
      clear hb_w2 hc_w2
      refine hK.out _ _ ?_ (fun hHeld => ?_)
      · exact ⟨x0, x1, x2, y0, y1, y2, y3, y4, y5, y6, y7, y8⟩
      clear hK K
      try simp only [List.foldl, Act.put, List.setIfInBounds_toArray, List.set_cons_zero, List.set_cons_succ]
      refine wpAnyH_one (i := 2) (d := 7) (v := ?_) rfl rfl (by kernel_rfl) (by kernel_rfl) (by kernel_rfl) (fun _ _ _ h => h) (by rfl) (by assumption) ?_ ?_
      rotate_left 1
      · intro w hSw; (try dsimp only at hSw); go_simp <;> with_reducible rfl
      simp only [List.foldl, Act.put, List.setIfInBounds_toArray, List.set_cons_zero, List.set_cons_succ]
      refine wpAnyH_one (i := 3) (d := 8) (v := ?_) rfl rfl (by kernel_rfl) (by kernel_rfl) (by kernel_rfl) (fun _ _ _ h => h) (by rfl) (by assumption) ?_ ?_
      rotate_left 1
      · intro w hSw; (try dsimp only at hSw); go_simp <;> with_reducible rfl
      simp only [List.foldl, Act.put, List.setIfInBounds_toArray, List.set_cons_zero, List.set_cons_succ]
      refine wpAnyH_one (i := 4) (d := 9) (v := ?_) rfl rfl (by kernel_rfl) (by kernel_rfl) (by kernel_rfl) (fun _ _ _ h => h) (by rfl) (by assumption) ?_ ?_
      rotate_left 1
      · intro w hSw; (try dsimp only at hSw); go_simp <;> with_reducible rfl
      simp only [List.foldl, Act.put, List.setIfInBounds_toArray, List.set_cons_zero, List.set_cons_succ]
      refine wpAnyH_one (i := 6) (d := 11) (v := ?_) rfl rfl (by kernel_rfl) (by kernel_rfl) (by kernel_rfl) (fun _ _ _ h => h) (by rfl) (by assumption) ?_ ?_
      rotate_left 1
      · intro w hSw; (try dsimp only at hSw); go_simp <;> with_reducible rfl
      simp only [List.foldl, Act.put, List.setIfInBounds_toArray, List.set_cons_zero, List.set_cons_succ]
      refine wpAnyH_ready (rs := [5]) (by kernel_rfl) (by simp) ?_
      refine AllReadyH.cons rfl (fun K hK => ?_) AllReadyH.nil
      go_simp
      refine (changeOf_5 s cap c _ hk1.out hk2.out hk3.out hk4.out).mono ?_
      rintro e w4 ⟨rfl, hb_w4⟩
      have hc_w4 : Below w2.heap.size w2 w4 := hb_w4
      have hX_w4 : Hid (Below X.heap.size X w4) := bl_trans hX_w2.out hc_w4
      have x0 := kcell hc_w4 x0
      have x1 := kcell hc_w4 x1
      have x2 := kcell hc_w4 x2
      have y0 := kcell hc_w4 y0
      have y1 := kcell hc_w4 y1
      have y2 := kcell hc_w4 y2
      have y3 := kcell hc_w4 y3
      have y4 := kcell hc_w4 y4
      have y5 := kcell hc_w4 y5
      have y6 := kcell hc_w4 y6
      have y7 := kcell hc_w4 y7
      have y8 := kcell hc_w4 y8
      clear hb_w4 hc_w4
      refine hK.out _ _ ?_ (fun hHeld => ?_)
      · exact ⟨x0, x1, x2, y0, y1, y2, y3, y4, y5, y6, y7, y8⟩
      clear hK K
      try simp only [List.foldl, Act.put, List.setIfInBounds_toArray, List.set_cons_zero, List.set_cons_succ]
      refine wpAnyH_ready (rs := [7]) (by kernel_rfl) (by simp) ?_
      refine AllReadyH.cons rfl (fun K hK => ?_) AllReadyH.nil
      go_simp
      refine (right_5 s1 s2 s3 c1 c2 c3 A B C _).mono ?_
      rintro e w6 ⟨rfl, hb_w6⟩
      have hc_w6 : Below w4.heap.size w4 w6 := hb_w6
      have hX_w6 : Hid (Below X.heap.size X w6) := bl_trans hX_w4.out hc_w6
      have x0 := kcell hc_w6 x0
      have x1 := kcell hc_w6 x1
      have x2 := kcell hc_w6 x2
      have y0 := kcell hc_w6 y0
      have y1 := kcell hc_w6 y1
      have y2 := kcell hc_w6 y2
      have y3 := kcell hc_w6 y3
      have y4 := kcell hc_w6 y4
      have y5 := kcell hc_w6 y5
      have y6 := kcell hc_w6 y6
      have y7 := kcell hc_w6 y7
      have y8 := kcell hc_w6 y8
      clear hb_w6 hc_w6
      refine hK.out _ _ ?_ (fun hHeld => ?_)
      · exact ⟨x0, x1, x2, y0, y1, y2, y3, y4, y5, y6, y7, y8⟩
      clear hK K
      try simp only [List.foldl, Act.put, List.setIfInBounds_toArray, List.set_cons_zero, List.set_cons_succ]
      refine wpAnyH_one (i := 8) (d := 13) (v := ?_) rfl rfl (by kernel_rfl) (by kernel_rfl) (by kernel_rfl) (fun _ _ _ h => h) (by rfl) (by assumption) ?_ ?_
      rotate_left 1
      · intro w hSw; (try dsimp only at hSw); go_simp <;> with_reducible rfl
      simp only [List.foldl, Act.put, List.setIfInBounds_toArray, List.set_cons_zero, List.set_cons_succ]
      refine wpAnyH_one (i := 9) (d := 4) (v := ?_) rfl rfl (by kernel_rfl) (by kernel_rfl) (by kernel_rfl) (fun _ _ _ h => h) (by rfl) (by assumption) ?_ ?_
      rotate_left 1
      · intro w hSw; (try dsimp only at hSw); go_simp <;> with_reducible rfl
      simp only [List.foldl, Act.put, List.setIfInBounds_toArray, List.set_cons_zero, List.set_cons_succ]
      refine wpAnyH_done (by kernel_rfl) ?_ _
      go_wp2_with fail
      go_ret
      exact ⟨ret_bool' E.out, bl_trans LX.out hX_w6.out⟩
end Go.Proofs.Yteoligpjhddkdaa
