import Derived.Test.YtknallkcengbbaaGreatDoorOe
import Derived.Test.YtknallkcengbbaaGreatDoorMa
import Derived.Shelf.Strings.Trim
import Derived.Shelf.Strings.BuilderK
import Derived.Shelf.Strings.Prefix
import Derived.Shelf.Lay
import Derived.Ground.NamesProg
namespace Go.Proofs
open Go.Shelf
shelf_lay Lays.n160 Nm 160 at Tryz as Tryz.laysTrim
shelf_lay Lays.n161 Nm 161 at Tryz as Tryz.laysTrimLeft
shelf_lay Lays.n99 Nm 99 at Tryz as Tryz.laysHasPre
shelf_lay Lays.n169 Nm 169 at Tryz as Tryz.laysBString
theorem Tryz.extraS : Builder.Extra Tryz.prog Tryz.laysBString_ren where
  sizeBuilder := by kernel_rfl
  liesBuilder := by kernel_rfl
  t5 := Tryz.underlying5
  a5 := Tryz.isAgg5
  z5 := Tryz.sizeOf5
  v5 := Tryz.zeroValue5
  infoByte := by kernel_rfl
  cellsByte := by kernel_rfl
  sizeByte := by kernel_rfl
  neB5 := by decide
end Go.Proofs
namespace Go.Proofs.YtknallkcengbbaaGreatDoor
open Go.RowKit
set_option linter.unusedVariables false
set_option linter.unusedSimpArgs false

/-! strings.Builder's WriteByte: the shelf's contract can't be laid here (the branch of copyCheck that panics is cut out of the seat's program), so both functions are walked. -/
set_option maxRecDepth 100000 in
set_option maxHeartbeats 2000000 in
theorem copyCheck_is (B b : Nat) (bs : List Value) (w : World) (h : Lib.IsBuilderF 100 5 B b bs w) :
    Calls Tryz.prog 87 #[.pointer (some ⟨b, 0, none⟩)] w fun e w' => e = .returned (.tuple #[]) ∧ Lib.BuilderAtF 100 5 B b (.pointer (some ⟨b, 0, none⟩)) bs w' ∧ Below B w w' := by
  have HH : Hid (Lib.IsBuilderF 100 5 B b bs w) := h
  rcases h with h | h
  · have HA : Hid (Lib.BuilderAtF 100 5 B b (.pointer none) bs w) := h
    have c0 := h.cell0
    have sh := h.shape
    have fz := h.frozen0
    obtain ⟨j, hj, hjs⟩ := Option.map_eq_some_iff.1 Tryz.extraS.toX72.sizeBuilder
    clear h
    go_enter Tryz.func87, Tryz.ntmps87
    go_wp2_with fail
    rw [Lib.run_to_unsafe w ⟨b, 0, none⟩ Tryz.underlying97 Tryz.underlying141 hj (by rw [hjs]; decide) sh (Nat.zero_lt_succ 1)]
    simp only [Result.andThen]
    rw [Oper.upon_value]
    go_wp2_with fail
    rw [run_callFunc_extern Tryz.func113 (by kernel_rfl) (by kernel_rfl) (by kernel_rfl) (e := Extern.AbiNoEscape.same) (by kernel_rfl), Lib.run_noEscape]
    simp only [Result.andThen]
    rw [Oper.upon_value]
    go_wp2_with fail
    rw [Lib.run_from_unsafe w ⟨b, 0, none⟩ Tryz.underlying141 Tryz.underlying97 hj sh Tryz.extraS.toX72.liesBuilder]
    simp only [Result.andThen]
    rw [Oper.upon_value]
    go_wp2_with fail
    refine bodyPost_end (results_none (fn := Tryz.f87) (by kernel_rfl) _ _ _) (by rfl) ?_
    exact ⟨rfl, HA.out.used _, (Below.refl B w).setCell (p := ⟨b, 0, none⟩) HA.out.1 _⟩
  · have HA : Hid (Lib.BuilderAtF 100 5 B b (.pointer (some ⟨b, 0, none⟩)) bs w) := h
    have c0 := h.cell0
    obtain ⟨j, hj, _⟩ := Option.map_eq_some_iff.1 Tryz.extraS.toX72.sizeBuilder
    clear h
    go_enter Tryz.func87, Tryz.ntmps87
    go_wp2_with fail
    rw [Lib.run_neq_ptr_same w _ Tryz.underlying97 hj]
    go_wp2_with fail
    go_end0
    exact ⟨rfl, HA.out, Below.refl B _⟩

theorem Tryz.infoU8 : (Tryz.prog.info? 5).map (fun i => (i.zero, i.size, i.bytes)) = some (some (.int .u8 0), 1, 1) := by kernel_rfl

set_option maxRecDepth 100000 in
set_option maxHeartbeats 2000000 in
theorem writeByte_is (B b : Nat) (bs : List Value) (c : Int) (w : World) (h : Lib.IsBuilderF 100 5 B b bs w) (hlen : bs.length + 1 ≤ 140737488355328) (hBw : B ≤ w.heap.size) :
    Calls Tryz.prog 60 #[.pointer (some ⟨b, 0, none⟩), .int .u8 c] w fun e w' => e = .returned .nilIface ∧ Lib.BuilderAtF 100 5 B b (.pointer (some ⟨b, 0, none⟩)) (bs ++ [.int .u8 c]) w' ∧ Below B w w' := by
  have HH : Hid (Lib.IsBuilderF 100 5 B b bs w) := h
  clear h
  obtain ⟨i0, hi, hz0, hz1, hz2⟩ := info_parts Tryz.infoU8
  go_enter Tryz.func60, Tryz.ntmps60
  go_wp2_with fail
  refine (copyCheck_is B b bs _ HH.out).mono ?_
  rintro e w1 ⟨rfl, hA, hb1⟩
  obtain ⟨hB, v, hbk, hown, hne⟩ := hA
  have sz1 := hb1.size
  have c0 : w1.cell? ⟨b, 0, none⟩ = some (.pointer (some ⟨b, 0, none⟩)) := by rw [Lib.cell_of_heap hbk]; rfl
  have c1 : w1.cell? ⟨b, 1, none⟩ = some v := by rw [Lib.cell_of_heap hbk]; rfl
  go_wp2_with (at_builtin; refine wpList_append_ownF _ rfl _ _ 98 rfl B 5 i0 (.int .u8 0) 1 1 Tryz.underlying98 hi hz0 hz1 hz2 rfl (by decide) _ _ _ rfl (hown.alloc _) ⟨w1.heap.size, 0, none⟩ 1 1 [.int .u8 c] rfl rfl ?a1 ?a2 ?a3 ?a4 ?a5 ?_)
  case a1 =>
    intro j u hj
    cases j with
    | zero => simp at hj; subst hj; simp [Addr.add]
    | succ j => simp at hj
  case a2 => intro u hu; simp at hu; subst hu; rfl
  case a3 => unfold maxLen; omega
  case a4 => omega
  case a5 => simp; omega
  intro v' w2 hown' hgrow _
  have hlt : b < w1.heap.size := (Array.getElem?_eq_some_iff.1 hbk).1
  have hb2 : w2.heap[b]? = some (.cells #[.pointer (some ⟨b, 0, none⟩), v] 100 (0, 0)) := by
    rw [hgrow.block b (by simp; omega) (fun e => hne e.symm), Lib.alloc_old w1 _ b hlt]
    exact hbk
  have d0 : w2.cell? ⟨b, 0, none⟩ = some (.pointer (some ⟨b, 0, none⟩)) := by rw [Lib.cell_of_heap hb2]; rfl
  have d1 : w2.cell? ⟨b, 1, none⟩ = some v := by rw [Lib.cell_of_heap hb2]; rfl
  have d2 : w2.frozen? ⟨b, 1, none⟩ = false := Lib.frozen_of_heap hb2 1
  have HG : Hid (Below B w w2) := (hb1.alloc (by omega) _).grown hgrow (by simp; omega) (fun k hk => (hown.lt k hk).1)
  obtain ⟨g, cap, rfl⟩ : ∃ g cap, v' = .slice (some ⟨g, 0, none⟩) (bs.length + 1) cap := by
    rcases hown'.2 with ⟨_, h0⟩ | ⟨g, cap, cur, fz, hv, _⟩
    · omega
    · exact ⟨g, cap, hv⟩
  have HP := Lib.BuilderAtF.put (T := 100) (e := 5) hB hb2 (bs' := bs ++ [.int .u8 c]) (by simpa using hown') (by decide)
  clear hown hown' hgrow hb1 hbk c0 c1
  go_wp2_with fail
  go_ret
  exact ⟨rfl, HP, HG.out.setCell (p := ⟨b, 1, none⟩) hB _⟩
theorem dropWhile_nil {p : UInt8 → Bool} : ∀ {l : List UInt8}, l.dropWhile p = [] ↔ ∀ b ∈ l, p b = true
  | [] => by simp
  | a :: l => by
    rw [List.dropWhile_cons]
    cases h : p a
    · simp [h]
    · simp [h, dropWhile_nil (l := l)]

theorem trimB_nil {l : List UInt8} {c : UInt8} : Lib.trimB l c = [] ↔ ∀ b ∈ l, b = c := by
  unfold Lib.trimB Lib.trimLeftB Lib.trimRightB
  rw [dropWhile_nil]
  constructor
  · intro h b hb
    have hb2 : b ∈ l.reverse := List.mem_reverse.2 hb
    rw [← List.takeWhile_append_dropWhile (p := (· == c)) (l := l.reverse)] at hb2
    rcases List.mem_append.1 hb2 with h1 | h1
    · have := List.all_takeWhile (p := (· == c)) (l := l.reverse)
      rw [List.all_eq_true] at this
      simpa using this b h1
    · simpa using h b (List.mem_reverse.2 h1)
  · intro h b hb
    have h1 := List.mem_reverse.1 hb
    have h2 : b ∈ l.reverse := (List.dropWhile_sublist _).subset h1
    simp [h b (List.mem_reverse.1 h2)]
theorem not_nil_str {l : List UInt8} (h : ¬ l = []) : ¬ (⟨l.toArray⟩ : ByteArray) = ⟨#[]⟩ := by
  intro e
  have := congrArg ByteArray.data e
  simp at this
  exact h this

set_option maxRecDepth 100000 in
set_option maxHeartbeats 4000000 in
theorem roleOf_any (k : Int) (w : World) : Calls Tryz.prog 61 #[.int .i64 k] w fun e w' => e = .returned (.int .u8 ((rl k).toNat : Int)) ∧ w' = w := by
  by_cases hs : 27 ≤ k ∧ k ≤ 34
  · have h5 : k = 27 ∨ k = 28 ∨ k = 29 ∨ k = 30 ∨ k = 31 ∨ k = 32 ∨ k = 33 ∨ k = 34 := by omega
    clear hs
    rcases h5 with rfl | rfl | rfl | rfl | rfl | rfl | rfl | rfl <;>
    · go_enter Tryz.func61, Tryz.ntmps61
      go_wp2_with fail
      go_ret
      exact ⟨rfl, rfl⟩
  · have e1 : (k == 27) = false := by simp; omega
    have e2 : (k == 28) = false := by simp; omega
    have e3 : (k == 29) = false := by simp; omega
    have e4 : (k == 30) = false := by simp; omega
    have e5 : (k == 31) = false := by simp; omega
    have e6 : (k == 32) = false := by simp; omega
    have e7 : (k == 33) = false := by simp; omega
    have e8 : (k == 34) = false := by simp; omega
    have HR : Hid (rl k = if 1 ≤ k ∧ k ≤ 11 then 101 else if 12 ≤ k ∧ k ≤ 26 then 115 else 63) := by
      show _ = _
      unfold rl
      rw [if_neg (by omega), if_neg (by omega), if_neg (by omega), if_neg (by omega), if_neg (by omega), if_neg (by omega), if_neg (by omega)]
    clear hs
    by_cases h1 : 1 ≤ k
    · by_cases h2 : k ≤ 11
      · have HE : Hid (rl k = 101) := by show _ = _; rw [HR.out, if_pos ⟨h1, h2⟩]
        go_enter Tryz.func61, Tryz.ntmps61
        go_wp2_with fail
        go_ret
        exact ⟨by rw [HE.out]; rfl, rfl⟩
      · have h3 : 12 ≤ k := by omega
        by_cases h4 : k ≤ 26
        · have HE : Hid (rl k = 115) := by show _ = _; rw [HR.out, if_neg (by omega), if_pos ⟨h3, h4⟩]
          go_enter Tryz.func61, Tryz.ntmps61
          go_wp2_with fail
          go_ret
          exact ⟨by rw [HE.out]; rfl, rfl⟩
        · have HE : Hid (rl k = 63) := by show _ = _; rw [HR.out, if_neg (by omega), if_neg (by omega)]
          go_enter Tryz.func61, Tryz.ntmps61
          go_wp2_with fail
          go_ret
          exact ⟨by rw [HE.out]; rfl, rfl⟩
    · have h3 : ¬ 12 ≤ k := by omega
      have HE : Hid (rl k = 63) := by show _ = _; rw [HR.out, if_neg (by omega), if_neg (by omega)]
      go_enter Tryz.func61, Tryz.ntmps61
      go_wp2_with fail
      go_ret
      exact ⟨by rw [HE.out]; rfl, rfl⟩

set_option maxRecDepth 100000 in
set_option maxHeartbeats 4000000 in
theorem only_any (l : List UInt8) (c : UInt8) (hc : c.toNat < 128) (hl : l.length ≤ 1048576) (w : World) :
    Calls Tryz.prog 39 #[.string ⟨l.toArray⟩, .string ⟨#[c]⟩] w fun e w' => e = .returned (.bool (decide (∀ b ∈ l, b = c))) ∧ Below w.heap.size w w' := by
  have hT := Any.strings_Trim_one Tryz.laysTrim ⟨l.toArray⟩ c hc w (by show l.toArray.size ≤ _; simp; omega)
  go_enter Tryz.func39, Tryz.ntmps39
  go_wp2_with fail
  refine hT.mono ?_
  rintro e w1 ⟨rfl, hb⟩
  have hb1 : Below w.heap.size w w1 := by
    rcases hb with rfl | rfl
    · exact Below.refl _ _
    · exact bl_drew (Below.refl _ _)
  clear hb
  by_cases h : ∀ b ∈ l, b = c
  · have h1 := trimB_nil.2 h
    have HE : Hid (decide (∀ b ∈ l, b = c) = true) := decide_eq_true h
    rw [h1]
    clear h h1 hT
    go_wp2_with fail
    go_ret
    exact ⟨ret_bool' HE.out.symm, hb1⟩
  · have h1 := not_nil_str (fun g => h (trimB_nil.1 g))
    have q9 := not_empty h1
    have HE : Hid (decide (∀ b ∈ l, b = c) = false) := decide_eq_false h
    have H1 : Hid (¬ (⟨(Lib.trimB l c).toArray⟩ : ByteArray) = ⟨#[]⟩) := h1
    generalize (⟨(Lib.trimB l c).toArray⟩ : ByteArray) = r at h1 q9 H1 ⊢
    clear h h1 hT
    go_wp2_with fail
    go_ret
    refine ⟨ret_bool' ?_, hb1⟩
    rw [HE.out]
    have := not_empty H1.out
    simpa using this

set_option maxRecDepth 100000 in
set_option maxHeartbeats 4000000 in
theorem rolesOf_any (t : Tre) (s s1 : Option Addr) (c c1 : Nat) (L : List Int) (B C : Nat) (w : World) (hL : Els 1 cInt w B s L) (hN : Els 4 cNode w C s1 t.nodes) (hv : ∀ x ∈ L, ∃ m : Nat, x = m ∧ m < t.nodes.length) (hl : L.length ≤ 1048576) (hn : t.nodes.length ≤ 1048576) :
    Calls Tryz.prog 40 #[.slice s L.length c, .slice s1 t.nodes.length c1] w fun e w' => e = .returned (.string ⟨((L.map (kkAt t)).map rl).toArray⟩) ∧ Below w.heap.size w w' := by
  have HV : Hid (∀ x ∈ L, ∃ m : Nat, x = m ∧ m < t.nodes.length) := hv
  have HL : Hid (Els 1 cInt w B s L) := hL
  have HN : Hid (Els 4 cNode w C s1 t.nodes) := hN
  clear hv hL hN
  have HI : Hid (Lib.IsBuilderF 100 5 w.heap.size w.heap.size (Lib.byteCells []) (w.alloc (.cells #[.pointer none, .slice none 0 0] 100))) := Lib.IsBuilderF.of (Lib.fresh_isBuilder 100 5 w)
  go_enter Tryz.func40, Tryz.ntmps40
  go_wp2_with fail
  go_loopw [10] (fun i wr => ∃ (j : Nat) (acc : List UInt8), j ≤ L.length ∧ i = .int .i64 j ∧ Hid (acc = ((L.take j).map (kkAt t)).map rl) ∧ Hid (Lib.IsBuilderF 100 5 w.heap.size w.heap.size (Lib.byteCells acc) wr) ∧ Hid (Below w.heap.size w wr)) (fun i _ => L.length - (intOf i).toNat)
  case atStart => exact ⟨0, [], Nat.zero_le _, rfl, rfl, HI, bl_alloc (Below.refl _ _) _⟩
  case round =>
    obtain ⟨j, acc, hj, rfl, hacc, hI, hbw⟩ := hrel
    have hsz : w.heap.size ≤ wr.heap.size := hbw.out.size
    by_cases hlt : j < L.length
    · obtain ⟨x, hxj⟩ := get_some hlt
      obtain ⟨kb, ko, rfl, _, hkb, p00⟩ := eInt_cells HL.out hxj
      have p0 := (hbw.out.cell (p := ⟨kb, ko + j, none⟩) hkb).trans p00
      obtain ⟨m, rfl, hm⟩ := HV.out x (List.mem_of_getElem? hxj)
      obtain ⟨nd, hnd⟩ := get_some hm
      obtain ⟨b, o, rfl, _, hb, s9, c9, e0, _, _, _, _⟩ := eNode_cells HN.out hnd
      have p1 := (hbw.out.cell (p := ⟨b, o + m * 4, none⟩) hb).trans e0
      have HK : Hid (kkAt t (m : Int) = nd.kind) := by show _ = _; simp [kkAt, hnd]
      have HX : Hid (L[j]? = some (m : Int)) := hxj
      have hmI : (m : Int) < (t.nodes.length : Int) := by omega
      have la : acc.length ≤ 1048576 := by rw [hacc.out]; simp; omega
      clear hxj hnd e0 p00
      go_wp2_with (first | (go_at_call 61; refine (roleOf_any _ _).mono ?_; rintro e w' ⟨rfl, hw'⟩; have hw2 := hw'.symm; clear hw'; subst hw2) | (go_at_call 60; refine (writeByte_is w.heap.size w.heap.size _ _ _ hI.out (by rw [Lib.byteCells_length]; omega) hsz).mono ?_; rintro e W1 ⟨rfl, h1, b1⟩))
      go_roundw
      case rel =>
        refine ⟨j + 1, acc ++ [rl nd.kind], by omega, by go_num, ?_, ?_, Below.trans hbw.out b1⟩
        · show _ = _
          rw [List.take_add_one, HX.out, hacc.out]
          simp [HK.out]
        · rw [Lib.byteCells_append]
          exact Or.inr h1
      case measure => simp [intOf]; omega
    · go_wp2_with (go_at_call 62; refine (Any.Builder_String_any_k Tryz.laysBString Tryz.extraS w.heap.size w.heap.size acc _ hI.out hsz).mono ?_; rintro e W1 ⟨rfl, _, b1, _⟩)
      go_ret
      refine ⟨?_, Below.trans hbw.out b1⟩
      rw [hacc.out, show j = L.length by omega, List.take_length]
      rfl
end Go.Proofs.YtknallkcengbbaaGreatDoor
