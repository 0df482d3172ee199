import Derived.Test.YtigllpegaljkmaaDoorDaj
import Derived.Test.YtigllpegaljkmaaDoorG40j
namespace Go.Proofs.YtigllpegaljkmaaDoor
open Go.RowKit
set_option linter.unusedVariables false
set_option linter.unusedSimpArgs false

/-- a list of edges being drawn. -/
structure Dge (n : Nat) (W X : World) (v : Value) (L : List (Int × Int)) : Prop where
  kp : Keep n W X
  cu : Cur n X
  nw : n < W.heap.size
  o : ERow X W.heap.size v L
theorem Dge.call {n : Nat} {W X Y : World} {v : Value} {L : List (Int × Int)} (h : Dge n W X v L) (hk : Keep n X Y) (hc : Cur n Y) : Dge n W Y v L :=
  ⟨h.kp.trans hk, hc, h.nw, h.o.kept hk.grown (fun e => by have := (h.o.lt n e).1; have := h.nw; omega)⟩
theorem Dge.drew {n : Nat} {W X : World} {v : Value} {L : List (Int × Int)} (h : Dge n W X v L) : Dge n W X.drew v L := h.call (Keep.refl n X).drew h.cu.drew
theorem Dge.alloc {n : Nat} {W X : World} {v : Value} {L : List (Int × Int)} (h : Dge n W X v L) (b : Obj) : Dge n W (X.alloc b) v L :=
  h.call ((Keep.refl n X).alloc (Nat.le_of_lt h.cu.lt) b) (h.cu.alloc b)
/-- an append. -/
theorem Dge.more {n : Nat} {W X Y : World} {v v' : Value} {L M : List (Int × Int)} (h : Dge n W X v L) (hO : ERow Y W.heap.size v' M) (hg : X.grownBy Y v.ownBlock) : Dge n W Y v' M := by
  have h1 := h.nw
  have h4 := h.cu.lt
  have hb := fun q hq => (h.o.lt q hq).1
  have bY : Below (n + 1) X Y := (Below.refl _ _).grown hg (by omega) (fun q hq => by have := hb q hq; omega)
  exact ⟨⟨h.kp.1.trans (bY.mono (by omega)), fun k hk hl => (hg.block k (by have := h.kp.1.size; omega) (fun e => by have := hb k e.symm; omega)).trans (h.kp.2 k hk hl)⟩, h.cu.below bY, h.nw, hO⟩
theorem Dge.new {n : Nat} {W X : World} (hk : Keep n W X) (hc : Cur n X) (hn : n < W.heap.size) : Dge n W (X.alloc (.cells #[] 45)) (.slice (some ⟨X.heap.size, 0, none⟩) 0 0) [] :=
  ⟨hk.alloc (Nat.le_of_lt hc.lt) _, hc.alloc _, hn, ERow.mono (World.ownsRow_lit (base := X.heap.size) (e := 45) (size := 2) X #[] 0 (Nat.le_refl _) (by unfold maxLen; omega) (by simp)) hk.1.size⟩
theorem Blk.edge' {w : World} {n : Nat} {a b : Value} {t : TypeId} (h : Blk w n #[a, b] t) : w.cell? ⟨n, 0, none⟩ = some a ∧ w.cell? ⟨n, 1, none⟩ = some b := ⟨h.cell 0, h.cell 1⟩
/-- an edge more, laid in a block of its own first. -/
theorem wpList_draw_edge {n : Nat} {W X : World} {v : Value} {L : List (Int × Int)} (h : Dge n W X v L) (p q : Int) (hl : L.length ≤ 1048576) {ops : Array Oper} {rest : List Oper} {o : Oper} {a : Act} {Q : Exit → Act → World → Prop}
    (hg : o.guard = none) (s x : Operand) (hop : o.op = Op.call { callee := Callee.builtin Builtin.append, args := #[s, x], argTypes := #[24, 24] })
    (hs : a.eval s = v) (hx : a.eval x = .slice (some ⟨X.heap.size, 0, none⟩) 1 1)
    (hK : ∀ v' w', Dge n W w' v' (L ++ [(p, q)]) → wpList Tryd.prog ops Q rest (a.put o.dst v') w') :
    wpList Tryd.prog ops Q (o :: rest) a (X.alloc (.cells #[.int .i64 p, .int .i64 q] 45)) := by
  obtain ⟨hz0, hz1⟩ := (Blk.new X #[.int .i64 p, .int .i64 q] 45).edge'
  have D := h.alloc (.cells #[.int .i64 p, .int .i64 q] 45)
  refine wpList_append_edge _ hg s x hop W.heap.size v L hs D.o X.heap.size p q hx hz0 hz1 hl D.kp.1.size fun v' w' h1 h2 => hK v' w' (D.more h1 h2)

set_option maxHeartbeats 4000000 in
theorem l14Graph_any (n : Nat) (most : Int) (w : World) (hC : Cur n w) (hm : 0 ≤ most ∧ most ≤ 16) :
    Calls Tryd.prog 31 #[.pointer (some ⟨n, 0, none⟩), .int .i64 most] w fun e w' => ∃ (x : Int) (v : Value) (L : List (Int × Int)), e = .returned (.tuple #[.int .i64 x, v]) ∧ (0 ≤ x ∧ x ≤ 16) ∧ L.length ≤ 40 ∧ Dge n w w' v L := by
  have t0 : IntKind.i64.wrap (most + 1) = most + 1 := by rw [IntKind.wrap_i64]; omega
  have hn := hC.lt
  go_enter Tryd.func31, Tryd.ntmps31
  go_wp2_with fail
  refine (l1Below_any n (most + 1) _ hC (by omega)).mono ?_
  rintro e w1 ⟨x, rfl, x0, x1, hk1, hc1⟩
  have hx : x ≤ 16 := by omega
  clear x1 t0
  have HD : Hid (Dge n w (w1.alloc (.cells #[] 45)) (.slice (some ⟨w1.heap.size, 0, none⟩) 0 0) []) := Dge.new hk1 hc1 hn
  have t1 : IntKind.i64.wrap (2 * x) = 2 * x := by rw [IntKind.wrap_i64]; omega
  have t2 : IntKind.i64.wrap (2 * x + 2) = 2 * x + 2 := by rw [IntKind.wrap_i64]; omega
  go_wp2_with fail
  generalize hX : w1.alloc (.cells #[] 45) = X at HD ⊢
  generalize hV : Value.slice (some ⟨w1.heap.size, 0, none⟩) 0 0 = V at HD ⊢
  clear hX hV hk1 hc1
  refine (l1Below_any n (2 * x + 2) _ HD.out.cu (by omega)).mono ?_
  rintro e w2 ⟨m, rfl, m0, m1, hk2, hc2⟩
  have HD : Hid (Dge n w w2 V []) := HD.out.call hk2 hc2
  obtain ⟨m, rfl⟩ := Int.eq_ofNat_of_zero_le m0
  have hm40 : m ≤ 40 := by omega
  clear hk2 hc2 t1 t2 m0 m1
  go_wp2_with fail
  go_loopw [7, 9] (fun ov iv wr => ∃ (i : Nat) (L : List (Int × Int)), i ≤ m ∧ iv = .int .i64 i ∧ L.length ≤ i ∧ Hid (Dge n w wr ov L)) (fun _ iv _ => m - (intOf iv).toNat)
  case atStart => exact ⟨0, [], Nat.zero_le _, rfl, Nat.le_refl _, HD⟩
  case round =>
    clear HD
    obtain ⟨i, L, hi, rfl, hL, HD⟩ := hrel
    by_cases hlt : i < m
    · have s0 : decide ((i : Int) < (m : Int)) = true := by simp; omega
      by_cases h0 : 0 < x
      · have s1 : decide (x > 0) = true := by simp; omega
        go_wp2_with fail
        refine (l1Below_any n x _ HD.out.cu (by omega)).mono ?_
        rintro e w3 ⟨a, rfl, a0, a1, hk3, hc3⟩
        have HD : Hid (Dge n w w3 u7 L) := HD.out.call hk3 hc3
        clear hk3 hc3
        go_wp2_with fail
        refine (l1Below_any n x _ HD.out.cu (by omega)).mono ?_
        rintro e w4 ⟨b, rfl, b0, b1, hk4, hc4⟩
        have HD : Hid (Dge n w w4 u7 L) := HD.out.call hk4 hc4
        clear hk4 hc4
        by_cases hab : b < a
        · have g0 : decide (a > b) = true := by simp; omega
          have g1 : (a == b) = false := by simp; omega
          have g2 : (b == a) = false := by simp; omega
          go_wp2_with fail
          refine (l1Once_any n 7 _ HD.out.cu (by omega)).mono ?_
          rintro e w5 ⟨bb, rfl, hk5, hc5⟩
          have HD : Hid (Dge n w w5 u7 L) := HD.out.call hk5 hc5
          clear hk5 hc5
          cases bb
          · go_upto_region 12 with fail
            go_wp2_with (at_builtin; refine wpList_draw_edge HD.out b a (by omega) rfl (.tmp 54) (.tmp 58) rfl rfl rfl ?_)
            intro v' w9 hD9
            have HD : Hid (Dge n w w9 v' (L ++ [(b, a)])) := hD9
            clear hD9
            go_wp2_with fail
            go_roundw
            case rel => exact ⟨i + 1, L ++ [(b, a)], by omega, by go_num, by simp; omega, HD⟩
            case measure => simp [intOf]; omega
          · go_upto_region 12 with fail
            go_wp2_with (at_builtin; refine wpList_draw_edge HD.out a b (by omega) rfl (.tmp 54) (.tmp 58) rfl rfl rfl ?_)
            intro v' w9 hD9
            have HD : Hid (Dge n w w9 v' (L ++ [(a, b)])) := hD9
            clear hD9
            go_wp2_with fail
            go_roundw
            case rel => exact ⟨i + 1, L ++ [(a, b)], by omega, by go_num, by simp; omega, HD⟩
            case measure => simp [intOf]; omega
        · have g0 : decide (a > b) = false := by simp; omega
          by_cases he : a = b
          · subst he
            have g1 : (a == a) = true := by simp
            go_wp2_with fail
            refine (l1Once_any n 12 _ HD.out.cu (by omega)).mono ?_
            rintro e w5 ⟨bb, rfl, hk5, hc5⟩
            have HD : Hid (Dge n w w5 u7 L) := HD.out.call hk5 hc5
            clear hk5 hc5
            cases bb
            · go_wp2_with fail
              go_roundw
              case rel => exact ⟨i + 1, L, by omega, by go_num, by omega, HD⟩
              case measure => simp [intOf]; omega
            · go_upto_region 12 with fail
              go_wp2_with (at_builtin; refine wpList_draw_edge HD.out a a (by omega) rfl (.tmp 54) (.tmp 58) rfl rfl rfl ?_)
              intro v' w9 hD9
              have HD : Hid (Dge n w w9 v' (L ++ [(a, a)])) := hD9
              clear hD9
              go_wp2_with fail
              go_roundw
              case rel => exact ⟨i + 1, L ++ [(a, a)], by omega, by go_num, by simp; omega, HD⟩
              case measure => simp [intOf]; omega
          · have g1 : (a == b) = false := by simp; omega
            go_upto_region 12 with fail
            go_wp2_with (at_builtin; refine wpList_draw_edge HD.out a b (by omega) rfl (.tmp 54) (.tmp 58) rfl rfl rfl ?_)
            intro v' w9 hD9
            have HD : Hid (Dge n w w9 v' (L ++ [(a, b)])) := hD9
            clear hD9
            go_wp2_with fail
            go_roundw
            case rel => exact ⟨i + 1, L ++ [(a, b)], by omega, by go_num, by simp; omega, HD⟩
            case measure => simp [intOf]; omega
      · have hx0 : x = 0 := by omega
        subst hx0
        have s1 : decide ((0 : Int) > 0) = false := by simp
        go_wp2_with fail
        refine bodyPost_ret (v := .tuple #[.int .i64 0, u7]) (by simp [results, Tryd.results31]) rfl ?_
        exact ⟨0, u7, rfl, ⟨x0, hx⟩, L, by omega, HD.out⟩
    · have s0 : decide ((i : Int) < (m : Int)) = false := by simp; omega
      go_wp2_with fail
      refine bodyPost_ret (v := .tuple #[.int .i64 x, u7]) (by simp [results, Tryd.results31]) rfl ?_
      exact ⟨x, u7, L, rfl, ⟨x0, hx⟩, by omega, HD.out⟩
theorem ints_three {w : World} {pb : Nat} {a b c : Int} (h : Blk w pb #[.int .i64 a, .int .i64 b, .int .i64 c] 3) : Ints w (some ⟨pb, 0, none⟩) [a, b, c] := by
  right
  refine ⟨pb, 0, rfl, h.lt, fun j hj => ?_⟩
  match j, hj with
  | 0, _ => exact h.cell 0
  | 1, _ => exact h.cell 1
  | 2, _ => exact h.cell 2
set_option maxHeartbeats 2000000 in
theorem l1PickInt_any (n : Nat) (pb po c : Nat) (L : List Int) (w : World) (hC : Cur n w) (hL : Ints w (some ⟨pb, po, none⟩) L) (h0 : 0 < L.length) (hl : L.length ≤ 1048576) (hp : ¬ pb = n) :
    Calls Tryd.prog 32 #[.pointer (some ⟨n, 0, none⟩), .slice (some ⟨pb, po, none⟩) L.length c] w fun e w' => ∃ r : Int, e = .returned (.int .i64 r) ∧ r ∈ L ∧ Keep n w w' ∧ Cur n w' := by
  have hcell : ∀ j, j < L.length → w.cell? ⟨pb, po + j, none⟩ = some (.int .i64 (L[j]?.getD 0)) := by
    rcases hL with h | ⟨pb', po', h, _, hc⟩
    · rw [h] at h0; simp at h0
    · simp only [Option.some.injEq, Addr.mk.injEq, and_true] at h
      obtain ⟨rfl, rfl⟩ := h
      exact hc
  go_enter Tryd.func32, Tryd.ntmps32
  go_wp2_with (go_at_call 16; refine (l1Below_any n (L.length : Int) _ hC (by omega)).mono ?_; rintro e w1 ⟨r, rfl, r1, r2, hK, hC1⟩; obtain ⟨q, rfl⟩ : ∃ q : Nat, r = (q : Int) := ⟨r.toNat, by omega⟩; have hq : q < L.length := (by omega); have hc1 := hK.cell hp (hcell q hq); have hqI : (q : Int) < (L.length : Int) := (by omega); clear hcell r2)
  go_ret
  exact ⟨_, rfl, by first | exact getD_mem hq | exact List.getElem_mem hq, hK, hC1⟩

def vlen : Value → Nat
  | .slice _ n _ => n
  | _ => 0
theorem Dge.slice {n : Nat} {W X : World} {v : Value} {L : List (Int × Int)} (h : Dge n W X v L) : ∃ s c, v = .slice s L.length c := by
  rcases h.o.form with ⟨rfl, rfl⟩ | ⟨g, cap, rfl, _⟩
  · exact ⟨_, _, rfl⟩
  · exact ⟨_, _, rfl⟩
/-- a drawn graph. -/
def DrawnG (n : Nat) (w : World) (e : Ending) (w' : World) : Prop :=
  ∃ (x : Int) (v : Value) (L : List (Int × Int)), e = .returned (.tuple #[.int .i64 x, v]) ∧ (-1 ≤ x ∧ x ≤ 17) ∧ L.length ≤ 300 ∧ Dge n w w' v L
theorem DrawnG.mk {n : Nat} {w w' : World} {v : Value} {L : List (Int × Int)} (x : Int) (hx : -1 ≤ x ∧ x ≤ 17) (hl : L.length ≤ 300) (h : Dge n w w' v L) : DrawnG n w (.returned (.tuple #[.int .i64 x, v])) w' := ⟨x, v, L, rfl, hx, hl, h⟩
set_option maxHeartbeats 4000000 in
theorem l14Some_any (n : Nat) (most : Int) (w : World) (hC : Cur n w) (hm : 0 ≤ most ∧ most ≤ 16) :
    Calls Tryd.prog 14 #[.pointer (some ⟨n, 0, none⟩), .int .i64 most] w fun e w' => DrawnG n w e w' := by
  have hn := hC.lt
  go_enter Tryd.func14, Tryd.ntmps14
  go_wp2_with fail
  refine (l14Graph_any n most _ hC hm).mono ?_
  rintro e w1 ⟨x, v, L, rfl, hx, hL, hD⟩
  have HD : Hid (Dge n w w1 v L) := hD
  clear hD
  go_wp2_with fail
  refine (l1Once_any n 12 _ HD.out.cu (by omega)).mono ?_
  rintro e w2 ⟨bb, rfl, hk2, hc2⟩
  have HD : Hid (Dge n w w2 v L) := HD.out.call hk2 hc2
  clear hk2 hc2
  cases bb
  · go_wp2_with fail
    exact bodyPost_ret (v := .tuple #[.int .i64 x, v]) (by simp [results, Tryd.results14]) rfl (DrawnG.mk x (by omega) (by first | omega | (simp; omega)) HD.out)
  · go_wp2_with fail
    refine (l1Below_any n 4 _ HD.out.cu (by omega)).mono ?_
    rintro e w3 ⟨r, rfl, r0, r1, hk3, hc3⟩
    have HD : Hid (Dge n w w3 v L) := HD.out.call hk3 hc3
    clear hk3 hc3
    obtain rfl | rfl | rfl | rfl : r = 0 ∨ r = 1 ∨ r = 2 ∨ r = 3 := by omega
    · have kb := Blk.new w3 #[.int .i64 (-1), .int .i64 16, .int .i64 17] 3
      have hn3 := HD.out.cu.lt
      have HD : Hid (Dge n w (w3.alloc (.cells #[.int .i64 (-1), .int .i64 16, .int .i64 17] 3)) v L) := HD.out.alloc _
      go_wp2_with fail
      refine (l1PickInt_any n w3.heap.size 0 3 [-1, 16, 17] _ HD.out.cu (ints_three kb) (by simp) (by simp) (by omega)).mono ?_
      rintro e w5 ⟨g, rfl, hg, hk5, hc5⟩
      have bg : -1 ≤ g ∧ g ≤ 17 := by simp at hg; omega
      have HD : Hid (Dge n w w5 v L) := HD.out.call hk5 hc5
      clear hk5 hc5 kb hg
      go_wp2_with fail
      exact bodyPost_ret (v := .tuple #[.int .i64 g, v]) (by simp [results, Tryd.results14]) rfl (DrawnG.mk g bg (by first | omega | (simp; omega)) HD.out)
    · go_upto_region 9 with fail
      go_wp2_with (at_builtin; refine wpList_draw_edge HD.out 0 x (by omega) rfl (.tmp 39) (.tmp 42) rfl rfl rfl ?_)
      intro v' w9 hD9
      have HD : Hid (Dge n w w9 v' (L ++ [(0, x)])) := hD9
      clear hD9
      go_wp2_with fail
      exact bodyPost_ret (v := .tuple #[.int .i64 x, v']) (by simp [results, Tryd.results14]) rfl (DrawnG.mk x (by omega) (by first | omega | (simp; omega)) HD.out)
    · go_upto_region 11 with fail
      go_wp2_with (at_builtin; refine wpList_draw_edge HD.out (-1) 0 (by omega) rfl (.tmp 46) (.tmp 48) rfl rfl rfl ?_)
      intro v' w9 hD9
      have HD : Hid (Dge n w w9 v' (L ++ [(-1, 0)])) := hD9
      clear hD9
      go_wp2_with fail
      exact bodyPost_ret (v := .tuple #[.int .i64 x, v']) (by simp [results, Tryd.results14]) rfl (DrawnG.mk x (by omega) (by first | omega | (simp; omega)) HD.out)
    · go_wp2_with fail
      go_loopw [7] (fun ov wr => ∃ L : List (Int × Int), L.length ≤ 201 ∧ Hid (Dge n w wr ov L)) (fun ov _ => 300 - vlen ov)
      case atStart => exact ⟨L, by omega, HD⟩
      case round =>
        obtain ⟨M, hM, HD⟩ := hrel
        obtain ⟨s, c, rfl⟩ := HD.out.slice
        go_wp2_with fail
        refine (l1Below_any n 2 _ HD.out.cu (by omega)).mono ?_
        rintro e w5 ⟨r, rfl, r0, r1, hk5, hc5⟩
        have HD : Hid (Dge n w w5 (.slice s M.length c) M) := HD.out.call hk5 hc5
        clear hk5 hc5
        have tr : IntKind.i64.wrap (200 + r) = 200 + r := by rw [IntKind.wrap_i64]; omega
        by_cases h1 : (M.length : Int) < 200 + r
        · have d0 : decide ((M.length : Int) < 200 + r) = true := by simpa using h1
          by_cases h2 : 1 < x
          · have d1 : decide (1 < x) = true := by simpa using h2
            go_upto_region 5 with fail
            go_wp2_with (at_builtin; refine wpList_draw_edge HD.out 0 1 (by omega) rfl (.tmp 28) (.tmp 30) rfl rfl rfl ?_)
            intro v' w9 hD9
            obtain ⟨s', c', rfl⟩ := hD9.slice
            have HD : Hid (Dge n w w9 (.slice s' (M ++ [((0 : Int), (1 : Int))]).length c') (M ++ [(0, 1)])) := hD9
            clear hD9
            go_wp2_with fail
            go_roundw
            case rel => exact ⟨M ++ [(0, 1)], by simp; omega, HD⟩
            case measure => simp [vlen]; omega
          · have d1 : decide (1 < x) = false := by simpa using h2
            go_wp2_with fail
            exact bodyPost_ret (v := .tuple #[.int .i64 x, .slice s M.length c]) (by simp [results, Tryd.results14]) rfl (DrawnG.mk x (by omega) (by omega) HD.out)
        · have d0 : decide ((M.length : Int) < 200 + r) = false := by simpa using h1
          go_wp2_with fail
          exact bodyPost_ret (v := .tuple #[.int .i64 x, .slice s M.length c]) (by simp [results, Tryd.results14]) rfl (DrawnG.mk x (by omega) (by omega) HD.out)

end Go.Proofs.YtigllpegaljkmaaDoor
