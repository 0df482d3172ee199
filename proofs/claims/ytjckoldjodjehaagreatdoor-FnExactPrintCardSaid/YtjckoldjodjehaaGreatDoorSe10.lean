import Derived.Shelf.Strings.Trim
import Derived.Shelf.Strings.BuilderK
import Derived.Shelf.Strings.Prefix
import Derived.Test.YtjckoldjodjehaaGreatDoorSe09
import Derived.Shelf.Strings.Builder2
import Derived.Shelf.Strings.OnBuilder
namespace Go.Proofs
open Go.Shelf
shelf_lay Lays.n160 Nm 160 at Tryz as Tryz.laysTrim
shelf_lay Lays.n161 Nm 161 at Tryz as Tryz.laysTrimLeft
shelf_lay Lays.n99 Nm 99 at Tryz as Tryz.laysHasPre
shelf_lay Lays.n169 Nm 169 at Tryz as Tryz.laysBString
theorem Tryz.extraS : Builder.Extra Tryz.prog Tryz.laysBString_ren where
  sizeBuilder := by kernel_rfl
  liesBuilder := by kernel_rfl
  t5 := Tryz.underlying5
  a5 := Tryz.isAgg5
  z5 := Tryz.sizeOf5
  v5 := Tryz.zeroValue5
  infoByte := by kernel_rfl
  cellsByte := by kernel_rfl
  sizeByte := by kernel_rfl
  neB5 := by decide
end Go.Proofs
namespace Go.Proofs
open Go.Shelf
shelf_lay Lays.n241 Nm 241 at Tryz as Tryz.laysGrowB
theorem Tryz.extraGB : Builder.Extra Tryz.prog Tryz.laysGrowB_ren where
  sizeBuilder := by kernel_rfl
  liesBuilder := by kernel_rfl
  t5 := Tryz.underlying5
  a5 := Tryz.isAgg5
  z5 := Tryz.sizeOf5
  v5 := Tryz.zeroValue5
  infoByte := by kernel_rfl
  cellsByte := by kernel_rfl
  sizeByte := by kernel_rfl
  neB5 := by decide
end Go.Proofs
namespace Go.Proofs.YtjckoldjodjehaaGreatDoor
set_option linter.unusedVariables false
set_option linter.unusedSimpArgs false
section
open Go.RowKit
set_option maxRecDepth 100000 in
set_option maxHeartbeats 2000000 in
theorem copyCheck_is (B b : Nat) (bs : List Value) (w : World) (h : Lib.IsBuilderF 46 5 B b bs w) :
  Calls Tryz.prog 44 #[.pointer (some ⟨b, 0, none⟩)] w fun e w' => e = .returned (.tuple #[]) ∧ Lib.BuilderAtF 46 5 B b (.pointer (some ⟨b, 0, none⟩)) bs w' ∧ Below B w w' := by
 have HH : Hid (Lib.IsBuilderF 46 5 B b bs w) := h
 rcases h with h | h
 ·
  have HA : Hid (Lib.BuilderAtF 46 5 B b (.pointer none) bs w) := h
  have c0 := h.cell0
  have sh := h.shape
  have fz := h.frozen0
  obtain ⟨j, hj, hjs⟩ := Option.map_eq_some_iff.1 Tryz.extraS.toX72.sizeBuilder
  clear h; go_enter Tryz.func44, Tryz.ntmps44
  go_wp2_with fail; rw [Lib.run_to_unsafe w ⟨b, 0, none⟩ Tryz.underlying43 Tryz.underlying102 hj (by rw [hjs]; decide) sh (Nat.zero_lt_succ 1)]
  simp only [Result.andThen]
  rw [Oper.upon_value]
  go_wp2_with fail; rw [run_callFunc_extern Tryz.func67 (by kernel_rfl) (by kernel_rfl) (by kernel_rfl) (e := Extern.AbiNoEscape.same) (by kernel_rfl), Lib.run_noEscape]
  simp only [Result.andThen]
  rw [Oper.upon_value]
  go_wp2_with fail; rw [Lib.run_from_unsafe w ⟨b, 0, none⟩ Tryz.underlying102 Tryz.underlying43 hj sh Tryz.extraS.toX72.liesBuilder]
  simp only [Result.andThen]
  rw [Oper.upon_value]
  go_wp2_with fail; refine bodyPost_end (results_none (fn := Tryz.f44) (by kernel_rfl) _ _ _) (by rfl) ?_
  exact ⟨rfl, HA.out.used _, (Below.refl B w).setCell (p := ⟨b, 0, none⟩) HA.out.1 _⟩
 have HA : Hid (Lib.BuilderAtF 46 5 B b (.pointer (some ⟨b, 0, none⟩)) bs w) := h
 have c0 := h.cell0
 obtain ⟨j, hj, _⟩ := Option.map_eq_some_iff.1 Tryz.extraS.toX72.sizeBuilder
 clear h; go_enter Tryz.func44, Tryz.ntmps44
 go_wp2_with fail; rw [Lib.run_neq_ptr_same w _ Tryz.underlying43 hj]
 go_wp2_with fail; go_end0
 exact ⟨rfl, HA.out, Below.refl B _⟩
theorem Tryz.infoU8 : (Tryz.prog.info? 5).map (fun i => (i.zero, i.size, i.bytes)) = some (some (.int .u8 0), 1, 1) := by kernel_rfl
set_option maxRecDepth 100000 in
set_option maxHeartbeats 2000000 in
theorem writeByte_is (B b : Nat) (bs : List Value) (c : Int) (w : World) (h : Lib.IsBuilderF 46 5 B b bs w) (hlen : bs.length + 1 ≤ 140737488355328) (hBw : B ≤ w.heap.size) :
  Calls Tryz.prog 20 #[.pointer (some ⟨b, 0, none⟩), .int .u8 c] w fun e w' => e = .returned .nilIface ∧ Lib.BuilderAtF 46 5 B b (.pointer (some ⟨b, 0, none⟩)) (bs ++ [.int .u8 c]) w' ∧ Below B w w' := by
 have HH : Hid (Lib.IsBuilderF 46 5 B b bs w) := h
 clear h; obtain ⟨i0, hi, hz0, hz1, hz2⟩ := info_parts Tryz.infoU8
 go_enter Tryz.func20, Tryz.ntmps20
 go_wp2_with fail; refine (copyCheck_is B b bs _ HH.out).mono ?_
 rintro e w1 ⟨rfl, hA, hb1⟩
 obtain ⟨hB, v, hbk, hown, hne⟩ := hA
 have sz1 := hb1.size
 have c0 : w1.cell? ⟨b, 0, none⟩ = some (.pointer (some ⟨b, 0, none⟩)) := by rw [Lib.cell_of_heap hbk]; rfl
 have c1 : w1.cell? ⟨b, 1, none⟩ = some v := by rw [Lib.cell_of_heap hbk]; rfl
 go_wp2_with (at_builtin; refine wpList_append_ownF _ rfl _ _ 44 rfl B 5 i0 (.int .u8 0) 1 1 Tryz.underlying44 hi hz0 hz1 hz2 rfl (by decide) _ _ _ rfl (hown.alloc _) ⟨w1.heap.size, 0, none⟩ 1 1 [.int .u8 c] rfl rfl ?a1 ?a2 ?a3 ?a4 ?a5 ?_)
 case a1 =>
  intro j u hj
  cases j with
  | zero => simp at hj; subst hj; simp [Addr.add]
  | succ j => simp at hj
 case a2 => intro u hu; simp at hu; subst hu; rfl
 case a3 => unfold maxLen; omega
 case a4 => omega
 case a5 => simp; omega
 intro v' w2 hown' hgrow _
 have hlt : b < w1.heap.size := (Array.getElem?_eq_some_iff.1 hbk).1
 have hb2 : w2.heap[b]? = some (.cells #[.pointer (some ⟨b, 0, none⟩), v] 46 (0, 0)) := by
  rw [hgrow.block b (by simp; omega) (fun e => hne e.symm), Lib.alloc_old w1 _ b hlt]
  exact hbk
 have d0 : w2.cell? ⟨b, 0, none⟩ = some (.pointer (some ⟨b, 0, none⟩)) := by rw [Lib.cell_of_heap hb2]; rfl
 have d1 : w2.cell? ⟨b, 1, none⟩ = some v := by rw [Lib.cell_of_heap hb2]; rfl
 have d2 : w2.frozen? ⟨b, 1, none⟩ = false := Lib.frozen_of_heap hb2 1
 have HG : Hid (Below B w w2) := (hb1.alloc (by omega) _).grown hgrow (by simp; omega) (fun k hk => (hown.lt k hk).1)
 obtain ⟨g, cap, rfl⟩ : ∃ g cap, v' = .slice (some ⟨g, 0, none⟩) (bs.length + 1) cap := by
  rcases hown'.2 with ⟨_, h0⟩ | ⟨g, cap, cur, fz, hv, _⟩
  ·
   omega
  exact ⟨g, cap, hv⟩
 have HP := Lib.BuilderAtF.put (T := 46) (e := 5) hB hb2 (bs' := bs ++ [.int .u8 c]) (by simpa using hown') (by decide)
 clear hown hown' hgrow hb1 hbk c0 c1; go_wp2_with fail; go_ret; exact ⟨rfl, HP, HG.out.setCell (p := ⟨b, 1, none⟩) hB _⟩
theorem dropWhile_nil {p : UInt8 → Bool} : ∀ {l : List UInt8}, l.dropWhile p = [] ↔ ∀ b ∈ l, p b = true
 | [] => by simp
 | a :: l => by
  rw [List.dropWhile_cons]
  cases h : p a
  ·
   simp [h]
  simp [h, dropWhile_nil (l := l)]
theorem trimB_nil {l : List UInt8} {c : UInt8} : Lib.trimB l c = [] ↔ ∀ b ∈ l, b = c := by
 unfold Lib.trimB Lib.trimLeftB Lib.trimRightB
 rw [dropWhile_nil]
 constructor
 ·
  intro h b hb
  have hb2 : b ∈ l.reverse := List.mem_reverse.2 hb
  rw [← List.takeWhile_append_dropWhile (p := (· == c)) (l := l.reverse)] at hb2
  rcases List.mem_append.1 hb2 with h1 | h1
  ·
   have := List.all_takeWhile (p := (· == c)) (l := l.reverse)
   rw [List.all_eq_true] at this
   simpa using this b h1
  simpa using h b (List.mem_reverse.2 h1)
 intro h b hb
 have h1 := List.mem_reverse.1 hb
 have h2 : b ∈ l.reverse := (List.dropWhile_sublist _).subset h1
 simp [h b (List.mem_reverse.1 h2)]
theorem not_nil_str {l : List UInt8} (h : ¬ l = []) : ¬ (⟨l.toArray⟩ : ByteArray) = ⟨#[]⟩ := by
 intro e
 have := congrArg ByteArray.data e
 simp at this
 exact h this
set_option maxRecDepth 100000 in
set_option maxHeartbeats 4000000 in
theorem roleOf_any (k : Int) (w : World) : Calls Tryz.prog 40 #[.int .i64 k] w fun e w' => e = .returned (.int .u8 ((rl k).toNat : Int)) ∧ w' = w := by
 by_cases hs : 27 ≤ k ∧ k ≤ 34
 ·
  have h5 : k = 27 ∨ k = 28 ∨ k = 29 ∨ k = 30 ∨ k = 31 ∨ k = 32 ∨ k = 33 ∨ k = 34 := by omega
  clear hs; rcases h5 with rfl | rfl | rfl | rfl | rfl | rfl | rfl | rfl <;>
  ·
   go_enter Tryz.func40, Tryz.ntmps40
   go_wp2_with fail; go_ret; exact ⟨rfl, rfl⟩
 have e1 : (k == 27) = false := by simp; omega
 have e2 : (k == 28) = false := by simp; omega
 have e3 : (k == 29) = false := by simp; omega
 have e4 : (k == 30) = false := by simp; omega
 have e5 : (k == 31) = false := by simp; omega
 have e6 : (k == 32) = false := by simp; omega
 have e7 : (k == 33) = false := by simp; omega
 have e8 : (k == 34) = false := by simp; omega
 have HR : Hid (rl k = if 1 ≤ k ∧ k ≤ 11 then 101 else if 12 ≤ k ∧ k ≤ 26 then 115 else 63) := by
  show _ = _
  unfold rl
  rw [if_neg (by omega), if_neg (by omega), if_neg (by omega), if_neg (by omega), if_neg (by omega), if_neg (by omega), if_neg (by omega)]
 clear hs; by_cases h1 : 1 ≤ k
 ·
  by_cases h2 : k ≤ 11
  ·
   have HE : Hid (rl k = 101) := by show _ = _; rw [HR.out, if_pos ⟨h1, h2⟩]
   go_enter Tryz.func40, Tryz.ntmps40
   go_wp2_with fail; go_ret; exact ⟨by rw [HE.out]; rfl, rfl⟩
  have h3 : 12 ≤ k := by omega
  by_cases h4 : k ≤ 26
  ·
   have HE : Hid (rl k = 115) := by show _ = _; rw [HR.out, if_neg (by omega), if_pos ⟨h3, h4⟩]
   go_enter Tryz.func40, Tryz.ntmps40
   go_wp2_with fail; go_ret; exact ⟨by rw [HE.out]; rfl, rfl⟩
  have HE : Hid (rl k = 63) := by show _ = _; rw [HR.out, if_neg (by omega), if_neg (by omega)]
  go_enter Tryz.func40, Tryz.ntmps40
  go_wp2_with fail; go_ret; exact ⟨by rw [HE.out]; rfl, rfl⟩
 have h3 : ¬ 12 ≤ k := by omega
 have HE : Hid (rl k = 63) := by show _ = _; rw [HR.out, if_neg (by omega), if_neg (by omega)]
 go_enter Tryz.func40, Tryz.ntmps40
 go_wp2_with fail; go_ret; exact ⟨by rw [HE.out]; rfl, rfl⟩
set_option maxRecDepth 100000 in
set_option maxHeartbeats 4000000 in
theorem only_any (l : List UInt8) (c : UInt8) (hc : c.toNat < 128) (hl : l.length ≤ 1048576) (w : World) :
  Calls Tryz.prog 38 #[.string ⟨l.toArray⟩, .string ⟨#[c]⟩] w fun e w' => e = .returned (.bool (decide (∀ b ∈ l, b = c))) ∧ Below w.heap.size w w' := by
 have hT := Any.strings_Trim_one Tryz.laysTrim ⟨l.toArray⟩ c hc w (by show l.toArray.size ≤ _; simp; omega)
 go_enter Tryz.func38, Tryz.ntmps38
 go_wp2_with fail; refine hT.mono ?_
 rintro e w1 ⟨rfl, hb⟩
 have hb1 : Below w.heap.size w w1 := by
  rcases hb with rfl | rfl
  ·
   exact Below.refl _ _
  exact bl_drew (Below.refl _ _)
 clear hb; by_cases h : ∀ b ∈ l, b = c
 ·
  have h1 := trimB_nil.2 h
  have HE : Hid (decide (∀ b ∈ l, b = c) = true) := decide_eq_true h
  rw [h1]
  clear h h1 hT; go_wp2_with fail; go_ret; exact ⟨ret_bool' HE.out.symm, hb1⟩
 have h1 := not_nil_str (fun g => h (trimB_nil.1 g))
 have q9 := not_empty h1
 have HE : Hid (decide (∀ b ∈ l, b = c) = false) := decide_eq_false h
 have H1 : Hid (¬ (⟨(Lib.trimB l c).toArray⟩ : ByteArray) = ⟨#[]⟩) := h1
 generalize (⟨(Lib.trimB l c).toArray⟩ : ByteArray) = r at h1 q9 H1 ⊢
 clear h h1 hT; go_wp2_with fail; go_ret; refine ⟨ret_bool' ?_, hb1⟩
 rw [HE.out]
 have := not_empty H1.out
 simpa using this
set_option maxRecDepth 100000 in
set_option maxHeartbeats 4000000 in
theorem rolesOf_any (t : Tre) (s s1 : Option Addr) (c c1 : Nat) (L : List Int) (B C : Nat) (w : World) (hL : Els 1 cInt w B s L) (hN : Els 4 cNode w C s1 t.nodes) (hv : ∀ x ∈ L, ∃ m : Nat, x = m ∧ m < t.nodes.length) (hl : L.length ≤ 1048576) (hn : t.nodes.length ≤ 1048576) :
  Calls Tryz.prog 39 #[.slice s L.length c, .slice s1 t.nodes.length c1] w fun e w' => e = .returned (.string ⟨((L.map (kkAt t)).map rl).toArray⟩) ∧ Below w.heap.size w w' := by
 have HV : Hid (∀ x ∈ L, ∃ m : Nat, x = m ∧ m < t.nodes.length) := hv
 have HL : Hid (Els 1 cInt w B s L) := hL
 have HN : Hid (Els 4 cNode w C s1 t.nodes) := hN
 clear hv hL hN; have HI : Hid (Lib.IsBuilderF 46 5 w.heap.size w.heap.size (Lib.byteCells []) (w.alloc (.cells #[.pointer none, .slice none 0 0] 46))) := Lib.IsBuilderF.of (Lib.fresh_isBuilder 46 5 w)
 go_enter Tryz.func39, Tryz.ntmps39
 go_wp2_with fail; go_loopw [10] (fun i wr => ∃ (j : Nat) (acc : List UInt8), j ≤ L.length ∧ i = .int .i64 j ∧ Hid (acc = ((L.take j).map (kkAt t)).map rl) ∧ Hid (Lib.IsBuilderF 46 5 w.heap.size w.heap.size (Lib.byteCells acc) wr) ∧ Hid (Below w.heap.size w wr)) (fun i _ => L.length - (intOf i).toNat)
 case atStart => exact ⟨0, [], Nat.zero_le _, rfl, rfl, HI, bl_alloc (Below.refl _ _) _⟩
 obtain ⟨j, acc, hj, rfl, hacc, hI, hbw⟩ := hrel
 have hsz : w.heap.size ≤ wr.heap.size := hbw.out.size
 by_cases hlt : j < L.length
 ·
  obtain ⟨x, hxj⟩ := get_some hlt
  obtain ⟨kb, ko, rfl, _, hkb, p00⟩ := eInt_cells HL.out hxj
  have p0 := (hbw.out.cell (p := ⟨kb, ko + j, none⟩) hkb).trans p00
  obtain ⟨m, rfl, hm⟩ := HV.out x (List.mem_of_getElem? hxj)
  obtain ⟨nd, hnd⟩ := get_some hm
  obtain ⟨b, o, rfl, _, hb, s9, c9, e0, _, _, _, _⟩ := eNode_cells HN.out hnd
  have p1 := (hbw.out.cell (p := ⟨b, o + m * 4, none⟩) hb).trans e0
  have HK : Hid (kkAt t (m : Int) = nd.kind) := by show _ = _; simp [kkAt, hnd]
  have HX : Hid (L[j]? = some (m : Int)) := hxj
  have hmI : (m : Int) < (t.nodes.length : Int) := by omega
  have la : acc.length ≤ 1048576 := by rw [hacc.out]; simp; omega
  clear hxj hnd e0 p00; go_wp2_with (first | (go_at_call 40; refine (roleOf_any _ _).mono ?_; rintro e w' ⟨rfl, hw'⟩; have hw2 := hw'.symm; clear hw'; subst hw2) | (go_at_call 20; refine (writeByte_is w.heap.size w.heap.size _ _ _ hI.out (by rw [Lib.byteCells_length]; omega) hsz).mono ?_; rintro e W1 ⟨rfl, h1, b1⟩))
  go_roundw
  case rel =>
   refine ⟨j + 1, acc ++ [rl nd.kind], by omega, by go_num, ?_, ?_, Below.trans hbw.out b1⟩
   ·
    show _ = _
    rw [List.take_add_one, HX.out, hacc.out]
    simp [HK.out]
   rw [Lib.byteCells_append]
   exact Or.inr h1
  case measure => simp [intOf]; omega
 go_wp2_with (go_at_call 21; refine (Any.Builder_String_any_k Tryz.laysBString Tryz.extraS w.heap.size w.heap.size acc _ hI.out hsz).mono ?_; rintro e W1 ⟨rfl, _, b1, _⟩)
 go_ret; refine ⟨?_, Below.trans hbw.out b1⟩
 rw [hacc.out, show j = L.length by omega, List.take_length]
 rfl
end
section
open Go.RowKit
set_option maxRecDepth 100000
abbrev BuU (B b : Nat) (bs : List Value) (w : World) : Prop := Lib.BuilderAtF 46 5 B b (.pointer (some ⟨b, 0, none⟩)) bs w
set_option maxHeartbeats 4000000 in
theorem writeString_is (B b : Nat) (bs : List Value) (s : ByteArray) (w : World) (h : Lib.IsBuilderF 46 5 B b bs w) (hlen : bs.length + s.size ≤ 140737488355328) (hBw : B ≤ w.heap.size) :
  Calls Tryz.prog 18 #[.pointer (some ⟨b, 0, none⟩), .string s] w fun e w' => e = .returned (.tuple #[.int .i64 s.size, .nilIface]) ∧ BuU B b (bs ++ Lib.strCells s) w' ∧ Below B w w' := by
 have HH := hid h
 clear h; obtain ⟨i0, hi, hz0, hz1, hz2⟩ := info_parts Tryz.infoU8
 go_enter Tryz.func18, Tryz.ntmps18
 go_wp2_with fail; refine (copyCheck_is B b bs _ HH.out).mono ?_
 rintro e w1 ⟨rfl, hA, hb1⟩
 obtain ⟨hB, v, hbk, hown, hne⟩ := hA
 have sz1 := hb1.size
 have c0 : w1.cell? ⟨b, 0, none⟩ = some (.pointer (some ⟨b, 0, none⟩)) := by rw [Lib.cell_of_heap hbk]; rfl
 have c1 : w1.cell? ⟨b, 1, none⟩ = some v := by rw [Lib.cell_of_heap hbk]; rfl
 go_wp2_with (at_builtin; refine Lib.wpList_append_own_stringF _ rfl _ _ 44 9 rfl B 5 i0 Tryz.underlying44 Tryz.underlying9 hi hz0 hz1 hz2 _ _ _ rfl hown s rfl ?a3 ?a4 ?a5 ?_)
 case a3 => unfold maxLen; omega
 case a4 => omega
 case a5 => omega
 intro v' w2 hown' hgrow _
 have hlt : b < w1.heap.size := (Array.getElem?_eq_some_iff.1 hbk).1
 have hb2 : w2.heap[b]? = some (.cells #[.pointer (some ⟨b, 0, none⟩), v] 46 (0, 0)) := by
  rw [hgrow.block b hlt (fun e => hne e.symm)]
  exact hbk
 have d0 : w2.cell? ⟨b, 0, none⟩ = some (.pointer (some ⟨b, 0, none⟩)) := by rw [Lib.cell_of_heap hb2]; rfl
 have d1 : w2.cell? ⟨b, 1, none⟩ = some v := by rw [Lib.cell_of_heap hb2]; rfl
 have d2 : w2.frozen? ⟨b, 1, none⟩ = false := Lib.frozen_of_heap hb2 1
 have HG : Hid (Below B w w2) := hb1.grown hgrow (by omega) (fun k hk => (hown.lt k hk).1)
 obtain ⟨ao, n', cap, rfl⟩ : ∃ ao n' cap, v' = .slice ao n' cap := by
  rcases hown'.2 with ⟨hv, _⟩ | ⟨g, cap, cur, fz, hv, _⟩
  ·
   exact ⟨_, _, _, hv⟩
  exact ⟨_, _, _, hv⟩
 have HP := hid (Lib.BuilderAtF.put (T := 46) (e := 5) hB hb2 (bs' := bs ++ Lib.strCells s) (by simpa [Lib.strCells_length] using hown') (by decide))
 clear hown hown' hgrow hb1 hbk c0 c1; go_wp2_with fail; refine bodyPost_ret (v := .tuple #[.int .i64 s.size, .nilIface]) (by simp [results, Tryz.results18, go_sem]) rfl ?_
 exact ⟨rfl, HP.out, HG.out.setCell (p := ⟨b, 1, none⟩) hB _⟩
end
section
open Go.RowKit
set_option maxRecDepth 100000
theorem growB_is (B b n : Nat) (w : World) (hB : B ≤ b) (hbk : w.heap[b]? = some (.cells #[.pointer (some ⟨b, 0, none⟩), .slice none 0 0] 46 (0, 0))) (hBw : B ≤ w.heap.size) (hn : n ≤ 281474976710656) :
  Calls Tryz.prog 68 #[.pointer (some ⟨b, 0, none⟩), .int .i64 n] w fun e w' => e = .returned (.tuple #[]) ∧ Lib.BuilderAt 46 5 B b (.pointer (some ⟨b, 0, none⟩)) [] w' ∧ Below B w w' :=
 Any.Builder_grow_fresh Tryz.laysGrowB Tryz.extraGB B b n w hB hbk hBw hn
set_option maxHeartbeats 4000000 in
theorem copyCheckF_is (b : Nat) (w : World) (hbk : w.heap[b]? = some (.cells #[.pointer none, .slice none 0 0] 46 (0, 0))) :
  Calls Tryz.prog 44 #[.pointer (some ⟨b, 0, none⟩)] w fun e w' => e = .returned (.tuple #[]) ∧ w' = w.setCell ⟨b, 0, none⟩ (.pointer (some ⟨b, 0, none⟩)) := by
 have c0 : w.cell? ⟨b, 0, none⟩ = some (.pointer none) := by rw [Lib.cell_of_heap hbk]; rfl
 have sh : w.shape? b = some (46, 2) := by simp [World.shape?, hbk]
 have fz : w.frozen? ⟨b, 0, none⟩ = false := Lib.frozen_of_heap hbk 0
 obtain ⟨j, hj, hjs⟩ := Option.map_eq_some_iff.1 Tryz.extraS.toX72.sizeBuilder
 go_enter Tryz.func44, Tryz.ntmps44
 go_wp2_with fail; rw [Lib.run_to_unsafe w ⟨b, 0, none⟩ Tryz.underlying43 Tryz.underlying102 hj (by rw [hjs]; decide) sh (Nat.zero_lt_succ 1)]
 simp only [Result.andThen]
 rw [Oper.upon_value]
 go_wp2_with fail; rw [run_callFunc_extern Tryz.func67 (by kernel_rfl) (by kernel_rfl) (by kernel_rfl) (e := Extern.AbiNoEscape.same) (by kernel_rfl), Lib.run_noEscape]
 simp only [Result.andThen]
 rw [Oper.upon_value]
 go_wp2_with fail; rw [Lib.run_from_unsafe w ⟨b, 0, none⟩ Tryz.underlying102 Tryz.underlying43 hj sh Tryz.extraS.toX72.liesBuilder]
 simp only [Result.andThen]
 rw [Oper.upon_value]
 go_wp2_with fail; refine bodyPost_end (results_none (fn := Tryz.f44) (by kernel_rfl) _ _ _) (by rfl) ?_
 exact ⟨rfl, rfl⟩
set_option maxHeartbeats 4000000 in
theorem growBB_is (B b n : Nat) (w : World) (hB : B ≤ b) (hbk : w.heap[b]? = some (.cells #[.pointer none, .slice none 0 0] 46 (0, 0))) (hBw : B ≤ w.heap.size) (hn : n ≤ 281474976710656) :
  Calls Tryz.prog 45 #[.pointer (some ⟨b, 0, none⟩), .int .i64 n] w fun e w' => e = .returned (.tuple #[]) ∧ Lib.IsBuilderF 46 5 B b [] w' ∧ Below B w w' := by
 have hlt : b < w.heap.size := (Array.getElem?_eq_some_iff.1 hbk).1
 have BK := hid hbk
 obtain ⟨w1, hw1⟩ : ∃ w1, Hid (w.setCell ⟨b, 0, none⟩ (.pointer (some ⟨b, 0, none⟩)) = w1) := ⟨_, hid rfl⟩
 have hbk1 : w1.heap[b]? = some (.cells #[.pointer (some ⟨b, 0, none⟩), .slice none 0 0] 46 (0, 0)) := by
  rw [← hw1.out]; simp [World.setCell, Array.getElem?_modify, hbk]
 have c1 : w1.cell? ⟨b, 1, none⟩ = some (.slice none 0 0) := by rw [Lib.cell_of_heap hbk1]; rfl
 have B1 : Hid (Below B w w1) := by rw [← hw1.out]; exact (Below.refl B w).setCell (p := ⟨b, 0, none⟩) hB _
 have BK1 := hid hbk1
 clear hbk hbk1; go_enter Tryz.func45, Tryz.ntmps45
 go_wp2_with fail; refine (copyCheckF_is b _ BK.out).mono ?_
 rintro e w' ⟨rfl, hw'⟩
 have hw2 := hw'.trans hw1.out
 clear hw' hw1; subst hw2
 have c1' := c1
 go_wp2_with fail; go_region
 all_goals go_wp2_with (go_at_call 68; refine (growB_is B b n w'.drew hB BK1.out (Nat.le_trans hBw B1.out.size) hn).mono ?_; rintro e w2 ⟨rfl, h1, h2⟩)
 all_goals refine bodyPost_end (results_none (fn := Tryz.f45) (by kernel_rfl) _ _ _) (by rfl) ?_
 all_goals first
  | exact ⟨rfl, Or.inr (Lib.BuilderAtF.of h1), B1.out.drew.trans h2⟩
  | exact ⟨rfl, Or.inr ⟨hB, .slice none 0 0, BK1.out, World.ownsRowF_nil _ _ _ _, by simp [Value.ownBlock]⟩, B1.out.drew⟩
end
section
open Go.RowKit
set_option maxRecDepth 100000
def szs (L : List ByteArray) (k : Nat) : Nat := ((L.take k).map ByteArray.size).sum
theorem szs_succ {L : List ByteArray} {k : Nat} {x : ByteArray} (h : L[k]? = some x) : szs L (k + 1) = szs L k + x.size := by
 unfold szs
 rw [List.take_add_one, h]; simp
theorem szs_le {L : List ByteArray} (hZ : ∀ t ∈ L, t.size ≤ 1048576) (k : Nat) : szs L k ≤ 1048576 * L.length := by
 unfold szs
 have : ∀ xs : List ByteArray, (∀ t ∈ xs, t.size ≤ 1048576) → (xs.map ByteArray.size).sum ≤ 1048576 * xs.length := by
  intro xs
  induction xs with
  | nil => intro _; simp
  | cons y ys ih =>
   intro h
   have h1 := h y (by simp)
   have h2 := ih fun t ht => h t (by simp [ht])
   simp only [List.map_cons, List.sum_cons, List.length_cons]; omega
 have h1 := this (L.take k) fun t ht => hZ t (List.mem_of_mem_take ht)
 have h2 : (L.take k).length ≤ L.length := by rw [List.length_take]; omega
 omega
theorem strCells_app (a b : ByteArray) : Lib.strCells (a ++ b) = Lib.strCells a ++ Lib.strCells b := by
 rw [Lib.strCells_eq, Lib.strCells_eq, Lib.strCells_eq, ← Lib.byteCells_append]
 congr 1
def szt (m : Nat) (L : List ByteArray) (k : Nat) : Nat := m - 1 + szs L k
theorem szt_0 (m : Nat) (L : List ByteArray) : szt m L 0 = m - 1 := by simp [szt, szs]
theorem szt_succ {m : Nat} {L : List ByteArray} {k : Nat} {x : ByteArray} (h : L[k]? = some x) : szt m L (k + 1) = szt m L k + x.size := by
 unfold szt; rw [szs_succ h]; omega
set_option maxHeartbeats 16000000 in
theorem joinMany_is {L : List ByteArray} {bk o c : Nat} {sep : ByteArray} (w : World) (hS : sep = bSp) (hcells : ∀ (j : Nat) x, L[j]? = some x → w.cell? ⟨bk, o + j, none⟩ = some (.string x)) (hbk : bk < w.heap.size) (h2 : 2 ≤ L.length) (hN : L.length ≤ 500000) (hcap : L.length ≤ c) (hZ : ∀ t ∈ L, t.size ≤ 1048576) :
  Calls Tryz.prog 19 #[.slice (some ⟨bk, o, none⟩) L.length c, .string sep] w fun e w' => e = .returned (.string (jnB L)) ∧ Below w.heap.size w w' := by
 have HC := hid hcells
 have HZ := hid hZ
 have hs1 : sep.size = 1 := by rw [hS]; rfl
 have HS := hid hS
 obtain ⟨m, hm⟩ : ∃ m, Hid (L.length = m) := ⟨_, hid rfl⟩
 rw [hm.out] at h2 hN hcap ⊢
 clear hcells hZ hS; have hdv : ¬ ((9223372036854775807 : Int) / ((m : Int) - 1) ≤ (sep.size : Int)) := by
  rw [hs1]
  have : (2 : Int) ≤ 9223372036854775807 / ((m : Int) - 1) := by
   rw [Int.le_ediv_iff_mul_le (by omega)]; omega
  omega
 have hprod : IntKind.i64.wrap ((sep.size : Int) * ((m : Int) - 1)) = ((m - 1 : Nat) : Int) := by rw [hs1, IntKind.wrap_i64]; omega
 have hne0 : ((m : Int) == 0) = false := beq_eq_false_iff_ne.2 (by omega)
 have hne1 : ((m : Int) == 1) = false := beq_eq_false_iff_ne.2 (by omega)
 go_enter Tryz.func19, Tryz.ntmps19
 have hst : ∀ k, szt m L k ≤ 600000000000 := fun k => by
  have := szs_le HZ.out k
  rw [hm.out] at this
  unfold szt; omega
 have HT := hid hst
 clear hst; go_wp2_with fail; go_loop [5, 41] (fun n i => ∃ k : Nat, k ≤ m ∧ i = .int .i64 k ∧ n = .int .i64 ((szt m L k : Nat) : Int)) (fun _ i => m - (intOf i).toNat)
 case atStart => exact ⟨0, Nat.zero_le _, rfl, by rw [szt_0]; congr 1; omega⟩
 obtain ⟨k, hk, rfl, rfl⟩ := hrel
 by_cases hkm : k < m
 ·
  obtain ⟨x, hx⟩ : ∃ x, L[k]? = some x := ⟨_, List.getElem?_eq_getElem (by rw [hm.out]; exact hkm)⟩
  have hc := HC.out k x hx
  have h1 := szt_succ (m := m) hx
  have h3 := HT.out (k + 1)
  generalize hA1 : szt m L (k + 1) = A1 at h1 h3
  generalize szt m L k = A0 at h1
  have HA1 := hid hA1
  clear hA1 hx; go_wp2_with fail; exact ⟨⟨k + 1, by omega, by go_num, by rw [HA1.out]; congr 1; omega⟩, by simp [intOf]; omega⟩
 obtain rfl : k = m := by omega
 have h3 := HT.out k
 generalize szt k L k = A at h3
 go_wp2_with fail; refine (growBB_is w.heap.size w.heap.size A _ (Nat.le_refl _) (heap_alloc_new w _) (by simp) (by omega)).mono ?_
 rintro e w1 ⟨rfl, g1, hb1⟩
 have b1 : Below w.heap.size w w1 := ((Below.refl w.heap.size w).alloc (Nat.le_refl _) _).trans hb1
 obtain ⟨x0, hx0⟩ : ∃ x, L[0]? = some x := ⟨_, List.getElem?_eq_getElem (by rw [hm.out]; omega)⟩
 have hc0 : w1.cell? ⟨bk, o, none⟩ = some (.string x0) := (b1.cell (p := ⟨bk, o, none⟩) hbk).trans (HC.out 0 x0 hx0)
 have G1 := hid g1
 have B1 := hid b1
 have hsz1 := b1.size
 have hz0 := HZ.out x0 (List.mem_of_getElem? hx0)
 have HJ1 : Hid (jnB (L.take (0 + 1)) = x0) := by show _ = _; rw [jn_take hx0, if_pos rfl]
 clear g1 hb1 b1; go_wp2_with fail; refine (writeString_is w.heap.size w.heap.size [] x0 w1 G1.out (by simp; omega) hsz1).mono ?_
 rintro e w2 ⟨rfl, g2, hb2⟩
 rw [List.nil_append, ← HJ1.out] at g2
 have G2 : Hid (Lib.IsBuilderF 46 5 w.heap.size w.heap.size (Lib.strCells (jnB (L.take (0 + 1)))) w2) := Or.inr g2
 have B2 := hid (B1.out.trans hb2)
 have m1 : (1 : Int) ≤ (k : Int) := by omega
 have m2 : (k : Int) ≤ (c : Int) := by omega
 have m3 : 1 ≤ k := by omega
 have m4 : ¬ c = 1 := by omega
 clear g2 hb2 hc0 hx0; go_wp2_with fail; have hszJ : ∀ q, (jnB (L.take q)).size ≤ 1048577 * 500000 := fun q => by
  have h1 := jn_size (L.take q) fun t ht => HZ.out t (List.mem_of_mem_take ht)
  have h2 : (L.take q).length ≤ L.length := by rw [List.length_take]; omega
  rw [hm.out] at h2
  omega
 have HSZ := hid hszJ
 clear hszJ; go_loopw [65] (fun i wr => ∃ q : Nat, q ≤ k - 1 ∧ i = .int .i64 q ∧ Hid (Lib.IsBuilderF 46 5 w.heap.size w.heap.size (Lib.strCells (jnB (L.take (q + 1)))) wr) ∧ Hid (Below w.heap.size w wr)) (fun i _ => k - 1 - (intOf i).toNat)
 case atStart => exact ⟨0, Nat.zero_le _, rfl, G2, B2⟩
 obtain ⟨q, hq, rfl, HB, HW⟩ := hrel
 have hBw : w.heap.size ≤ wr.heap.size := HW.out.size
 by_cases hqk : q < k - 1
 ·
  obtain ⟨y, hy⟩ : ∃ y, L[q + 1]? = some y := ⟨_, List.getElem?_eq_getElem (by rw [hm.out]; omega)⟩
  have hcy : wr.cell? ⟨bk, o + 1 + q, none⟩ = some (.string y) := by
   rw [HW.out.cell (p := ⟨bk, o + 1 + q, none⟩) hbk, show o + 1 + q = o + (q + 1) by omega]
   exact HC.out (q + 1) y hy
  have hqI : (q : Int) < (k : Int) - 1 := by omega
  have hzy := HZ.out y (List.mem_of_getElem? hy)
  have hzJ := HSZ.out (q + 1)
  have HN : Hid (jnB (L.take (q + 1 + 1)) = jnB (L.take (q + 1)) ++ sep ++ y) := by show _ = _; rw [jn_take hy, if_neg (by omega), HS.out]
  generalize hJ : jnB (L.take (q + 1)) = J at HB HN hzJ
  clear hy hJ; go_wp2_with fail; refine (writeString_is w.heap.size w.heap.size _ sep wr HB.out (by rw [Lib.strCells_length]; omega) hBw).mono ?_
  rintro e w3 ⟨rfl, g3, hb3⟩
  have hBw3 : w.heap.size ≤ w3.heap.size := Nat.le_trans hBw hb3.size
  have G3 := hid g3
  have B3 := hid hb3
  clear g3 hb3; go_wp2_with fail; refine (writeString_is w.heap.size w.heap.size _ y w3 (Or.inr G3.out) (by rw [List.length_append, Lib.strCells_length, Lib.strCells_length]; omega) hBw3).mono ?_
  rintro e w4 ⟨rfl, g4, hb4⟩
  rw [← strCells_app, ← strCells_app, ← HN.out] at g4
  have G4 : Hid (Lib.IsBuilderF 46 5 w.heap.size w.heap.size (Lib.strCells (jnB (L.take (q + 1 + 1)))) w4) := Or.inr g4
  have B4 := hid ((HW.out.trans B3.out).trans hb4)
  clear g4 hb4; go_wp2_with fail; exact ⟨⟨q + 1, by omega, by go_num, G4, B4⟩, by simp [intOf]; omega⟩
 have hqe : q = k - 1 := by omega
 have hq1 : q + 1 = k := by omega
 have hqI : ¬ (q : Int) < (k : Int) - 1 := by omega
 rw [hq1, List.take_of_length_le (by rw [hm.out]; omega), Lib.strCells_eq] at HB
 have hsz : (jnB L).size ≤ 1048577 * 500000 := by have := HSZ.out k; rwa [List.take_of_length_le (by rw [hm.out]; omega)] at this
 subst hqe
 go_wp2_with fail; refine (Any.Builder_String_any_k Tryz.laysBString Tryz.extraS w.heap.size w.heap.size _ wr HB.out hBw).mono ?_
 rintro e w5 ⟨rfl, _, b5, _⟩
 have B5 := hid (HW.out.trans b5)
 clear b5; go_wp2_with fail; go_ret; exact ⟨rfl, B5.out⟩
end
section
open Go.RowKit
set_option maxRecDepth 100000
set_option maxHeartbeats 16000000 in
theorem joinOne_is {bk o c : Nat} {x sep : ByteArray} (w : World) (hc : w.cell? ⟨bk, o, none⟩ = some (.string x)) :
  Calls Tryz.prog 19 #[.slice (some ⟨bk, o, none⟩) 1 c, .string sep] w fun e w' => e = .returned (.string x) ∧ Below w.heap.size w w' := by
 go_enter Tryz.func19, Tryz.ntmps19
 go_wp2_with fail; go_ret; exact ⟨rfl, Below.refl _ _⟩
theorem join_is {B : Nat} {v : Value} {L : List ByteArray} (w : World) (hO : OS w B v L) (h1 : 1 ≤ L.length) (hN : L.length ≤ 500000) (hZ : ∀ t ∈ L, t.size ≤ 1048576) :
  Calls Tryz.prog 19 #[v, .string bSp] w fun e w' => e = .returned (.string (jnB L)) ∧ Below w.heap.size w w' := by
 rcases hO.form with ⟨_, rfl⟩ | ⟨g, cap, rfl, _, hlt, hcap⟩
 ·
  simp at h1
 have hcells : ∀ (j : Nat) x, L[j]? = some x → w.cell? ⟨g, 0 + j, none⟩ = some (.string x) := fun j x hx => by
  rcases hO.rt with ⟨_, e, _⟩ | ⟨b, o, c', e, _, hc⟩
  ·
   cases e
  cases e
  have hj := (List.getElem?_eq_some_iff.1 hx).1
  have := hc j hj
  rw [hx] at this
  simpa using this
 by_cases h2 : L.length = 1
 ·
  obtain ⟨x, rfl⟩ := List.length_eq_one_iff.1 h2
  exact joinOne_is w (hcells 0 x rfl)
 exact joinMany_is w rfl hcells hlt (by omega) hN hcap hZ
end
section
open Go.RowKit
set_option maxRecDepth 100000
def Sm (t : ByteArray) : Prop := t.size ≤ 1048576
def SmL (L : List ByteArray) : Prop := ∀ t ∈ L, Sm t
theorem smL_app (a b : List ByteArray) : SmL (a ++ b) ↔ SmL a ∧ SmL b := by
 unfold SmL
 exact ⟨fun h => ⟨fun t ht => h t (List.mem_append_left _ ht), fun t ht => h t (List.mem_append_right _ ht)⟩, fun h t ht => (List.mem_append.1 ht).elim (h.1 t) (h.2 t)⟩
theorem smL_cons (x : ByteArray) (b : List ByteArray) : SmL (x :: b) ↔ Sm x ∧ SmL b := by simp [SmL]
theorem smL_if (c : Prop) [Decidable c] (a b : List ByteArray) : SmL (if c then a else b) ↔ (if c then SmL a else SmL b) := by split <;> rfl
theorem sm_if (c : Prop) [Decidable c] (a b : ByteArray) : Sm (if c then a else b) ↔ (if c then Sm a else Sm b) := by split <;> rfl
theorem smL_nil : SmL [] := fun t ht => by simp at ht
theorem smL_fl {g : Int → List ByteArray} (hg : ∀ x, SmL (g x)) (l : List Int) : SmL ((l.map g).flatten) := by
 intro t ht
 rw [List.mem_flatten] at ht
 obtain ⟨m, hm, ht⟩ := ht
 obtain ⟨x, _, rfl⟩ := List.mem_map.1 hm
 exact hg x t ht
theorem sm_bLp : Sm bLp := by unfold Sm; decide
theorem sm_bRp : Sm bRp := by unfold Sm; decide
theorem sm_bComma : Sm bComma := by unfold Sm; decide
theorem sm_bSemi : Sm bSemi := by unfold Sm; decide
theorem sm_bEq : Sm bEq := by unfold Sm; decide
theorem sm_bLb : Sm bLb := by unfold Sm; decide
theorem sm_bRb : Sm bRb := by unfold Sm; decide
theorem sm_bDot : Sm bDot := by unfold Sm; decide
theorem sm_bDol : Sm bDol := by unfold Sm; decide
theorem sm_bMinus : Sm bMinus := by unfold Sm; decide
theorem sm_bPlus : Sm bPlus := by unfold Sm; decide
theorem sm_bStar : Sm bStar := by unfold Sm; decide
theorem sm_bSlash : Sm bSlash := by unfold Sm; decide
theorem sm_bPerc : Sm bPerc := by unfold Sm; decide
theorem sm_bLess : Sm bLess := by unfold Sm; decide
theorem sm_bSame : Sm bSame := by unfold Sm; decide
theorem sm_bAnd : Sm bAnd := by unfold Sm; decide
theorem sm_bOr : Sm bOr := by unfold Sm; decide
theorem sm_bNot : Sm bNot := by unfold Sm; decide
theorem sm_bYes : Sm bYes := by unfold Sm; decide
theorem sm_bNo : Sm bNo := by unfold Sm; decide
theorem sm_bRe : Sm bRe := by unfold Sm; decide
theorem sm_bIm : Sm bIm := by unfold Sm; decide
theorem sm_bReal : Sm bReal := by unfold Sm; decide
theorem sm_bSize : Sm bSize := by unfold Sm; decide
theorem sm_bPair : Sm bPair := by unfold Sm; decide
theorem sm_bPick : Sm bPick := by unfold Sm; decide
theorem sm_bOf : Sm bOf := by unfold Sm; decide
theorem sm_bLet : Sm bLet := by unfold Sm; decide
theorem sm_bPut : Sm bPut := by unfold Sm; decide
theorem sm_bIf : Sm bIf := by unfold Sm; decide
theorem sm_bElse : Sm bElse := by unfold Sm; decide
theorem sm_bLoop : Sm bLoop := by unfold Sm; decide
theorem sm_bEach : Sm bEach := by unfold Sm; decide
theorem sm_bWith : Sm bWith := by unfold Sm; decide
theorem sm_bWithout : Sm bWithout := by unfold Sm; decide
theorem sm_bEmit : Sm bEmit := by unfold Sm; decide
theorem sm_bHear : Sm bHear := by unfold Sm; decide
theorem sm_bAs : Sm bAs := by unfold Sm; decide
theorem sm_bSpawn : Sm bSpawn := by unfold Sm; decide
theorem sm_bKill : Sm bKill := by unfold Sm; decide
theorem sm_bDrop : Sm bDrop := by unfold Sm; decide
theorem sm_bDo : Sm bDo := by unfold Sm; decide
theorem sm_bReturn : Sm bReturn := by unfold Sm; decide
theorem sm_bFn : Sm bFn := by unfold Sm; decide
theorem sm_bSystem : Sm bSystem := by unfold Sm; decide
theorem sm_bInt : Sm bInt := by unfold Sm; decide
theorem sm_bBool : Sm bBool := by unfold Sm; decide
theorem smL_cm {g : Int → List ByteArray} (hg : ∀ x, SmL (g x)) (l : List Int) : SmL (cm (l.map g)) := by
 cases l with
 | nil => exact smL_nil
 | cons x xs =>
  simp only [List.map_cons, cm, smL_app]
  refine ⟨hg x, fun t ht => ?_⟩
  rw [List.mem_flatten] at ht
  obtain ⟨m, hm, ht⟩ := ht
  obtain ⟨y, hy, rfl⟩ := List.mem_map.1 hm
  obtain ⟨z, _, rfl⟩ := List.mem_map.1 hy
  rcases List.mem_cons.1 ht with rfl | ht
  ·
   exact sm_bComma
  exact hg z t ht
theorem sm_opT (q : Int) : Sm (opT q) := by
 unfold opT
 repeat' split
 all_goals simp only [sm_bLp, sm_bRp, sm_bComma, sm_bSemi, sm_bEq, sm_bLb, sm_bRb, sm_bDot, sm_bDol, sm_bMinus, sm_bPlus, sm_bStar, sm_bSlash, sm_bPerc, sm_bLess, sm_bSame, sm_bAnd, sm_bOr, sm_bNot, sm_bYes, sm_bNo, sm_bRe, sm_bIm, sm_bReal, sm_bSize, sm_bPair, sm_bPick, sm_bOf, sm_bLet, sm_bPut, sm_bIf, sm_bElse, sm_bLoop, sm_bEach, sm_bWith, sm_bWithout, sm_bEmit, sm_bHear, sm_bAs, sm_bSpawn, sm_bKill, sm_bDrop, sm_bDo, sm_bReturn, sm_bFn, sm_bSystem, sm_bInt, sm_bBool]
theorem sm_tuT (q : Int) : Sm (tuT q) := by
 unfold tuT
 repeat' split
 all_goals simp only [sm_bLp, sm_bRp, sm_bComma, sm_bSemi, sm_bEq, sm_bLb, sm_bRb, sm_bDot, sm_bDol, sm_bMinus, sm_bPlus, sm_bStar, sm_bSlash, sm_bPerc, sm_bLess, sm_bSame, sm_bAnd, sm_bOr, sm_bNot, sm_bYes, sm_bNo, sm_bRe, sm_bIm, sm_bReal, sm_bSize, sm_bPair, sm_bPick, sm_bOf, sm_bLet, sm_bPut, sm_bIf, sm_bElse, sm_bLoop, sm_bEach, sm_bWith, sm_bWithout, sm_bEmit, sm_bHear, sm_bAs, sm_bSpawn, sm_bKill, sm_bDrop, sm_bDo, sm_bReturn, sm_bFn, sm_bSystem, sm_bInt, sm_bBool]
theorem sm_kiT (q : Int) : Sm (kiT q) := by
 unfold kiT
 repeat' split
 all_goals simp only [sm_bLp, sm_bRp, sm_bComma, sm_bSemi, sm_bEq, sm_bLb, sm_bRb, sm_bDot, sm_bDol, sm_bMinus, sm_bPlus, sm_bStar, sm_bSlash, sm_bPerc, sm_bLess, sm_bSame, sm_bAnd, sm_bOr, sm_bNot, sm_bYes, sm_bNo, sm_bRe, sm_bIm, sm_bReal, sm_bSize, sm_bPair, sm_bPick, sm_bOf, sm_bLet, sm_bPut, sm_bIf, sm_bElse, sm_bLoop, sm_bEach, sm_bWith, sm_bWithout, sm_bEmit, sm_bHear, sm_bAs, sm_bSpawn, sm_bKill, sm_bDrop, sm_bDo, sm_bReturn, sm_bFn, sm_bSystem, sm_bInt, sm_bBool]
theorem sm_itoa {n : Int} (h : okI n) : Sm ⟨(Lib.itoa n).toArray⟩ := by
 have := Lib.itoa_length_le n h.1 h.2
 simp only [Sm, ByteArray.size, List.size_toArray]
 omega
set_option maxHeartbeats 4000000 in
theorem smL_tkN {g : Int → List ByteArray} (hg : ∀ x, SmL (g x)) {n : Nd} (ht : Sm n.text) (hn : okI n.num) : SmL (tkN g n) := by
 have hi := sm_itoa hn
 unfold tkN
 simp only [smL_if, sm_if, ite_self, smL_app, smL_cons, smL_nil, hg, smL_cm hg, smL_fl hg, ht, hi, sm_opT, sm_tuT, sm_kiT, and_self, and_true, true_and, sm_bLp, sm_bRp, sm_bComma, sm_bSemi, sm_bEq, sm_bLb, sm_bRb, sm_bDot, sm_bDol, sm_bMinus, sm_bPlus, sm_bStar, sm_bSlash, sm_bPerc, sm_bLess, sm_bSame, sm_bAnd, sm_bOr, sm_bNot, sm_bYes, sm_bNo, sm_bRe, sm_bIm, sm_bReal, sm_bSize, sm_bPair, sm_bPick, sm_bOf, sm_bLet, sm_bPut, sm_bIf, sm_bElse, sm_bLoop, sm_bEach, sm_bWith, sm_bWithout, sm_bEmit, sm_bHear, sm_bAs, sm_bSpawn, sm_bKill, sm_bDrop, sm_bDo, sm_bReturn, sm_bFn, sm_bSystem, sm_bInt, sm_bBool]
theorem smL_tk {T : Tre} (hk : kTre T) (hm : ∀ n ∈ T.nodes, okI n.num) : ∀ f i, SmL (tk T f i) := by
 intro f
 induction f with
 | zero => intro i; exact smL_nil
 | succ f ih =>
  intro i
  unfold tk
  have hh : Sm (nT T i).text ∧ okI (nT T i).num := by
   unfold nT
   cases h : T.nodes[i.toNat]? with
   | none => exact ⟨by show Sm ByteArray.empty; unfold Sm; decide, by show okI 0; unfold okI; omega⟩
   | some n => exact ⟨(hk.1.2 n (List.mem_of_getElem? h)).1, hm n (List.mem_of_getElem? h)⟩
  exact smL_tkN ih hh.1 hh.2
theorem smL_tkA {T : Tre} (hk : kTre T) (hm : ∀ n ∈ T.nodes, okI n.num) (i : Int) : SmL (tkA T i) := smL_tk hk hm _ i
end
section
open Go.RowKit
set_option maxRecDepth 100000
set_option maxHeartbeats 64000000 in
theorem exP_2 {w0 w : World} {p : Nat} {nv v : Value} {T : Tre} {L : List ByteArray} {i : Nat} {n : Nd} (hN : NdP w0 p nv T i) (hv : VN T i n) (hk : n.kind = 2) {s9 : Option Addr} {c9 B9 : Nat} (hK : Els 1 cInt w0 B9 s9 n.kids) (hcap : n.kids.length ≤ c9) (hm2 : n.kids.length ≤ 1048576) (hT : Tb w0) (h : Pr w0 w p nv v L) (hroom : L.length + (tkA T (i : Int)).length ≤ 500000) :
  Calls Tryz.prog 41 #[.pointer (some ⟨p, 0, none⟩), .agg #[.int .i64 n.kind, .string n.text, .int .i64 n.num, .slice s9 n.kids.length c9]] w fun e w' => SaysQ w0 w p nv v L (tkA T (i : Int)) e w' := by
 have HN := hid hN
 have HV := hid hv
 have HK := hid hK
 have HT := hid hT
 have HE : Hid (tkA T (i : Int) = tkN (tkA T) n) := tkA_eq hv
 obtain ⟨kd, hkd⟩ : ∃ k, Hid (n.kind = k) := ⟨_, hid rfl⟩
 obtain ⟨ml, hml⟩ : ∃ m, Hid (n.kids.length = m) := ⟨_, hid rfl⟩
 have hlen := hv.len
 have hnum := hv.num
 rw [hml.out] at hcap hm2
 rw [hkd.out] at hk hlen
 rw [hkd.out, hml.out]
 have S0 := hid (Pn.start h #[.int .i64 kd, .string n.text, .int .i64 n.num, .slice s9 ml c9])
 clear hN hv hK hT h; obtain rfl : kd = 2 := hk
 have HC : Hid (tkA T (i : Int) = [n.text]) := by show _ = _; rw [HE.out]; unfold tkN; rw [hkd.out]; rfl
 have hr := hroom
 rw [HC.out] at hr
 simp only [List.length_append, List.length_cons, List.length_nil] at hr
 clear hroom; obtain ⟨z0, z1, z2, z3, z4⟩ := Blk.four' S0.out.bx
 go_enter Tryz.func41, Tryz.ntmps41
 go_wp2_with fail; refine (put_any (M := [n.text]) (S0.out.alloc _).pr (RT.n1 (by simp)) (by simp only [List.length_append, List.length_cons, List.length_nil]; omega)).mono ?_
 rintro e w1 ⟨rfl, v1, h1, f1⟩
 have S1 := hid ((S0.out.alloc _).step h1 f1)
 clear h1 f1 z0 z1 z2 z3 z4; obtain ⟨z0, z1, z2, z3, z4⟩ := Blk.four' S1.out.bx
 go_wp2_with fail; refine bodyPost_ret (v := .tuple #[]) (by simp [results, Tryz.results41]) rfl ?_
 exact ⟨rfl, _, by rw [HC.out]; simpa [List.append_assoc] using S1.out.pr, S1.out.fr⟩
set_option maxHeartbeats 64000000 in
theorem exP_4 {w0 w : World} {p : Nat} {nv v : Value} {T : Tre} {L : List ByteArray} {i : Nat} {n : Nd} (hN : NdP w0 p nv T i) (hv : VN T i n) (hk : n.kind = 4) {s9 : Option Addr} {c9 B9 : Nat} (hK : Els 1 cInt w0 B9 s9 n.kids) (hcap : n.kids.length ≤ c9) (hm2 : n.kids.length ≤ 1048576) (hT : Tb w0) (h : Pr w0 w p nv v L) (hroom : L.length + (tkA T (i : Int)).length ≤ 500000) :
  Calls Tryz.prog 41 #[.pointer (some ⟨p, 0, none⟩), .agg #[.int .i64 n.kind, .string n.text, .int .i64 n.num, .slice s9 n.kids.length c9]] w fun e w' => SaysQ w0 w p nv v L (tkA T (i : Int)) e w' := by
 have HN := hid hN
 have HV := hid hv
 have HK := hid hK
 have HT := hid hT
 have HE : Hid (tkA T (i : Int) = tkN (tkA T) n) := tkA_eq hv
 obtain ⟨kd, hkd⟩ : ∃ k, Hid (n.kind = k) := ⟨_, hid rfl⟩
 obtain ⟨ml, hml⟩ : ∃ m, Hid (n.kids.length = m) := ⟨_, hid rfl⟩
 have hlen := hv.len
 have hnum := hv.num
 rw [hml.out] at hcap hm2
 rw [hkd.out] at hk hlen
 rw [hkd.out, hml.out]
 have S0 := hid (Pn.start h #[.int .i64 kd, .string n.text, .int .i64 n.num, .slice s9 ml c9])
 clear hN hv hK hT h; obtain rfl : kd = 4 := hk
 have HC : Hid (tkA T (i : Int) = [n.text]) := by show _ = _; rw [HE.out]; unfold tkN; rw [hkd.out]; rfl
 have hr := hroom
 rw [HC.out] at hr
 simp only [List.length_append, List.length_cons, List.length_nil] at hr
 clear hroom; obtain ⟨z0, z1, z2, z3, z4⟩ := Blk.four' S0.out.bx
 go_enter Tryz.func41, Tryz.ntmps41
 go_wp2_with fail; refine (put_any (M := [n.text]) (S0.out.alloc _).pr (RT.n1 (by simp)) (by simp only [List.length_append, List.length_cons, List.length_nil]; omega)).mono ?_
 rintro e w1 ⟨rfl, v1, h1, f1⟩
 have S1 := hid ((S0.out.alloc _).step h1 f1)
 clear h1 f1 z0 z1 z2 z3 z4; obtain ⟨z0, z1, z2, z3, z4⟩ := Blk.four' S1.out.bx
 go_wp2_with fail; refine bodyPost_ret (v := .tuple #[]) (by simp [results, Tryz.results41]) rfl ?_
 exact ⟨rfl, _, by rw [HC.out]; simpa [List.append_assoc] using S1.out.pr, S1.out.fr⟩
set_option maxHeartbeats 64000000 in
theorem exP_5 {w0 w : World} {p : Nat} {nv v : Value} {T : Tre} {L : List ByteArray} {i : Nat} {n : Nd} (hN : NdP w0 p nv T i) (hv : VN T i n) (hk : n.kind = 5) {s9 : Option Addr} {c9 B9 : Nat} (hK : Els 1 cInt w0 B9 s9 n.kids) (hcap : n.kids.length ≤ c9) (hm2 : n.kids.length ≤ 1048576) (hT : Tb w0) (h : Pr w0 w p nv v L) (hroom : L.length + (tkA T (i : Int)).length ≤ 500000) :
  Calls Tryz.prog 41 #[.pointer (some ⟨p, 0, none⟩), .agg #[.int .i64 n.kind, .string n.text, .int .i64 n.num, .slice s9 n.kids.length c9]] w fun e w' => SaysQ w0 w p nv v L (tkA T (i : Int)) e w' := by
 have HN := hid hN
 have HV := hid hv
 have HK := hid hK
 have HT := hid hT
 have HE : Hid (tkA T (i : Int) = tkN (tkA T) n) := tkA_eq hv
 obtain ⟨kd, hkd⟩ : ∃ k, Hid (n.kind = k) := ⟨_, hid rfl⟩
 obtain ⟨ml, hml⟩ : ∃ m, Hid (n.kids.length = m) := ⟨_, hid rfl⟩
 have hlen := hv.len
 have hnum := hv.num
 rw [hml.out] at hcap hm2
 rw [hkd.out] at hk hlen
 rw [hkd.out, hml.out]
 have S0 := hid (Pn.start h #[.int .i64 kd, .string n.text, .int .i64 n.num, .slice s9 ml c9])
 clear hN hv hK hT h; obtain rfl : kd = 5 := hk
 have HC : Hid (tkA T (i : Int) = [bDot, n.text]) := by show _ = _; rw [HE.out]; unfold tkN; rw [hkd.out]; rfl
 have hr := hroom
 rw [HC.out] at hr
 simp only [List.length_append, List.length_cons, List.length_nil] at hr
 clear hroom; obtain ⟨z0, z1, z2, z3, z4⟩ := Blk.four' S0.out.bx
 go_enter Tryz.func41, Tryz.ntmps41
 go_wp2_with fail; refine (put_any (M := [bDot, n.text]) (S0.out.alloc _).pr (RT.n2 (by simp)) (by simp only [List.length_append, List.length_cons, List.length_nil]; omega)).mono ?_
 rintro e w1 ⟨rfl, v1, h1, f1⟩
 have S1 := hid ((S0.out.alloc _).step h1 f1)
 clear h1 f1 z0 z1 z2 z3 z4; obtain ⟨z0, z1, z2, z3, z4⟩ := Blk.four' S1.out.bx
 go_wp2_with fail; refine bodyPost_ret (v := .tuple #[]) (by simp [results, Tryz.results41]) rfl ?_
 exact ⟨rfl, _, by rw [HC.out]; simpa [List.append_assoc] using S1.out.pr, S1.out.fr⟩
set_option maxHeartbeats 64000000 in
theorem exP_6 {w0 w : World} {p : Nat} {nv v : Value} {T : Tre} {L : List ByteArray} {i : Nat} {n : Nd} (hN : NdP w0 p nv T i) (hv : VN T i n) (hk : n.kind = 6) {s9 : Option Addr} {c9 B9 : Nat} (hK : Els 1 cInt w0 B9 s9 n.kids) (hcap : n.kids.length ≤ c9) (hm2 : n.kids.length ≤ 1048576) (hT : Tb w0) (h : Pr w0 w p nv v L) (hroom : L.length + (tkA T (i : Int)).length ≤ 500000) :
  Calls Tryz.prog 41 #[.pointer (some ⟨p, 0, none⟩), .agg #[.int .i64 n.kind, .string n.text, .int .i64 n.num, .slice s9 n.kids.length c9]] w fun e w' => SaysQ w0 w p nv v L (tkA T (i : Int)) e w' := by
 have HN := hid hN
 have HV := hid hv
 have HK := hid hK
 have HT := hid hT
 have HE : Hid (tkA T (i : Int) = tkN (tkA T) n) := tkA_eq hv
 obtain ⟨kd, hkd⟩ : ∃ k, Hid (n.kind = k) := ⟨_, hid rfl⟩
 obtain ⟨ml, hml⟩ : ∃ m, Hid (n.kids.length = m) := ⟨_, hid rfl⟩
 have hlen := hv.len
 have hnum := hv.num
 rw [hml.out] at hcap hm2
 rw [hkd.out] at hk hlen
 rw [hkd.out, hml.out]
 have S0 := hid (Pn.start h #[.int .i64 kd, .string n.text, .int .i64 n.num, .slice s9 ml c9])
 clear hN hv hK hT h; obtain rfl : kd = 6 := hk
 have HC : Hid (tkA T (i : Int) = [bDol, n.text]) := by show _ = _; rw [HE.out]; unfold tkN; rw [hkd.out]; rfl
 have hr := hroom
 rw [HC.out] at hr
 simp only [List.length_append, List.length_cons, List.length_nil] at hr
 clear hroom; obtain ⟨z0, z1, z2, z3, z4⟩ := Blk.four' S0.out.bx
 go_enter Tryz.func41, Tryz.ntmps41
 go_wp2_with fail; refine (put_any (M := [bDol, n.text]) (S0.out.alloc _).pr (RT.n2 (by simp)) (by simp only [List.length_append, List.length_cons, List.length_nil]; omega)).mono ?_
 rintro e w1 ⟨rfl, v1, h1, f1⟩
 have S1 := hid ((S0.out.alloc _).step h1 f1)
 clear h1 f1 z0 z1 z2 z3 z4; obtain ⟨z0, z1, z2, z3, z4⟩ := Blk.four' S1.out.bx
 go_wp2_with fail; refine bodyPost_ret (v := .tuple #[]) (by simp [results, Tryz.results41]) rfl ?_
 exact ⟨rfl, _, by rw [HC.out]; simpa [List.append_assoc] using S1.out.pr, S1.out.fr⟩
set_option maxHeartbeats 64000000 in
theorem exP_7 {w0 w : World} {p : Nat} {nv v : Value} {T : Tre} {L : List ByteArray} {i : Nat} {n : Nd} (hN : NdP w0 p nv T i) (hv : VN T i n) (hk : n.kind = 7) {s9 : Option Addr} {c9 B9 : Nat} (hK : Els 1 cInt w0 B9 s9 n.kids) (hcap : n.kids.length ≤ c9) (hm2 : n.kids.length ≤ 1048576) (hT : Tb w0) (h : Pr w0 w p nv v L) (hroom : L.length + (tkA T (i : Int)).length ≤ 500000) :
  Calls Tryz.prog 41 #[.pointer (some ⟨p, 0, none⟩), .agg #[.int .i64 n.kind, .string n.text, .int .i64 n.num, .slice s9 n.kids.length c9]] w fun e w' => SaysQ w0 w p nv v L (tkA T (i : Int)) e w' := by
 have HN := hid hN
 have HV := hid hv
 have HK := hid hK
 have HT := hid hT
 have HE : Hid (tkA T (i : Int) = tkN (tkA T) n) := tkA_eq hv
 obtain ⟨kd, hkd⟩ : ∃ k, Hid (n.kind = k) := ⟨_, hid rfl⟩
 obtain ⟨ml, hml⟩ : ∃ m, Hid (n.kids.length = m) := ⟨_, hid rfl⟩
 have hlen := hv.len
 have hnum := hv.num
 rw [hml.out] at hcap hm2
 rw [hkd.out] at hk hlen
 rw [hkd.out, hml.out]
 have S0 := hid (Pn.start h #[.int .i64 kd, .string n.text, .int .i64 n.num, .slice s9 ml c9])
 clear hN hv hK hT h; obtain rfl : kd = 7 := hk
 have HKS : Hid (∀ x ∈ n.kids, ∃ (k : Nat) (m : Nd), x = k ∧ k < i ∧ VN T k m ∧ (1 ≤ m.kind ∧ m.kind ≤ 34)) := HV.out.kid_in
 have hsc := sum_cm (tkA T) n.kids
 have HC : Hid (tkA T (i : Int) = [n.text] ++ ([bLp] ++ cm (n.kids.map (tkA T)) ++ [bRp])) := by show _ = _; rw [HE.out]; unfold tkN; rw [hkd.out]; simp
 have hr := hroom
 rw [HC.out] at hr
 simp only [List.length_append, List.length_cons, List.length_nil] at hr
 clear hroom; obtain ⟨z0, z1, z2, z3, z4⟩ := Blk.four' S0.out.bx
 go_enter Tryz.func41, Tryz.ntmps41
 go_wp2_with fail; refine (put_any (M := [n.text]) (S0.out.alloc _).pr (RT.n1 (by simp)) (by simp only [List.length_append, List.length_cons, List.length_nil]; omega)).mono ?_
 rintro e w1 ⟨rfl, v1, h1, f1⟩
 have S1 := hid ((S0.out.alloc _).step h1 f1)
 clear h1 f1 z0 z1 z2 z3 z4; obtain ⟨z0, z1, z2, z3, z4⟩ := Blk.four' S1.out.bx
 go_wp2_with fail; refine (listed_any HN.out hml.out (by omega) HK.out HKS.out S1.out.pr (by simp only [List.length_append, List.length_cons, List.length_nil]; omega)).mono ?_
 rintro e w2 ⟨rfl, v2, h2, f2⟩
 have S2 := hid (S1.out.step h2 f2)
 clear h2 f2 z0 z1 z2 z3 z4; obtain ⟨z0, z1, z2, z3, z4⟩ := Blk.four' S2.out.bx
 go_wp2_with fail; refine bodyPost_ret (v := .tuple #[]) (by simp [results, Tryz.results41]) rfl ?_
 exact ⟨rfl, _, by rw [HC.out]; simpa [List.append_assoc] using S2.out.pr, S2.out.fr⟩
set_option maxHeartbeats 64000000 in
theorem exP_10 {w0 w : World} {p : Nat} {nv v : Value} {T : Tre} {L : List ByteArray} {i : Nat} {n : Nd} (hN : NdP w0 p nv T i) (hv : VN T i n) (hk : n.kind = 10) {s9 : Option Addr} {c9 B9 : Nat} (hK : Els 1 cInt w0 B9 s9 n.kids) (hcap : n.kids.length ≤ c9) (hm2 : n.kids.length ≤ 1048576) (hT : Tb w0) (h : Pr w0 w p nv v L) (hroom : L.length + (tkA T (i : Int)).length ≤ 500000) :
  Calls Tryz.prog 41 #[.pointer (some ⟨p, 0, none⟩), .agg #[.int .i64 n.kind, .string n.text, .int .i64 n.num, .slice s9 n.kids.length c9]] w fun e w' => SaysQ w0 w p nv v L (tkA T (i : Int)) e w' := by
 have HN := hid hN
 have HV := hid hv
 have HK := hid hK
 have HT := hid hT
 have HE : Hid (tkA T (i : Int) = tkN (tkA T) n) := tkA_eq hv
 obtain ⟨kd, hkd⟩ : ∃ k, Hid (n.kind = k) := ⟨_, hid rfl⟩
 obtain ⟨ml, hml⟩ : ∃ m, Hid (n.kids.length = m) := ⟨_, hid rfl⟩
 have hlen := hv.len
 have hnum := hv.num
 rw [hml.out] at hcap hm2
 rw [hkd.out] at hk hlen
 rw [hkd.out, hml.out]
 have S0 := hid (Pn.start h #[.int .i64 kd, .string n.text, .int .i64 n.num, .slice s9 ml c9])
 clear hN hv hK hT h; obtain rfl : kd = 10 := hk
 have HKS : Hid (∀ x ∈ n.kids, ∃ (k : Nat) (m : Nd), x = k ∧ k < i ∧ VN T k m ∧ (1 ≤ m.kind ∧ m.kind ≤ 34)) := HV.out.kid_in
 have hsc := sum_cm (tkA T) n.kids
 have HC : Hid (tkA T (i : Int) = [bPair] ++ ([bLp] ++ cm (n.kids.map (tkA T)) ++ [bRp])) := by show _ = _; rw [HE.out]; unfold tkN; rw [hkd.out]; simp
 have hr := hroom
 rw [HC.out] at hr
 simp only [List.length_append, List.length_cons, List.length_nil] at hr
 clear hroom; obtain ⟨z0, z1, z2, z3, z4⟩ := Blk.four' S0.out.bx
 go_enter Tryz.func41, Tryz.ntmps41
 go_wp2_with fail; refine (put_any (M := [bPair]) (S0.out.alloc _).pr (RT.n1 (by simp)) (by simp only [List.length_append, List.length_cons, List.length_nil]; omega)).mono ?_
 rintro e w1 ⟨rfl, v1, h1, f1⟩
 have S1 := hid ((S0.out.alloc _).step h1 f1)
 clear h1 f1 z0 z1 z2 z3 z4; obtain ⟨z0, z1, z2, z3, z4⟩ := Blk.four' S1.out.bx
 go_wp2_with fail; refine (listed_any HN.out hml.out (by omega) HK.out HKS.out S1.out.pr (by simp only [List.length_append, List.length_cons, List.length_nil]; omega)).mono ?_
 rintro e w2 ⟨rfl, v2, h2, f2⟩
 have S2 := hid (S1.out.step h2 f2)
 clear h2 f2 z0 z1 z2 z3 z4; obtain ⟨z0, z1, z2, z3, z4⟩ := Blk.four' S2.out.bx
 go_wp2_with fail; refine bodyPost_ret (v := .tuple #[]) (by simp [results, Tryz.results41]) rfl ?_
 exact ⟨rfl, _, by rw [HC.out]; simpa [List.append_assoc] using S2.out.pr, S2.out.fr⟩
end
section
open Go.RowKit
set_option maxRecDepth 100000
set_option maxHeartbeats 64000000 in
theorem exP_8 {w0 w : World} {p : Nat} {nv v : Value} {T : Tre} {L : List ByteArray} {i : Nat} {n : Nd} (hN : NdP w0 p nv T i) (hv : VN T i n) (hk : n.kind = 8) {s9 : Option Addr} {c9 B9 : Nat} (hK : Els 1 cInt w0 B9 s9 n.kids) (hcap : n.kids.length ≤ c9) (hm2 : n.kids.length ≤ 1048576) (hT : Tb w0) (h : Pr w0 w p nv v L) (hroom : L.length + (tkA T (i : Int)).length ≤ 500000) :
  Calls Tryz.prog 41 #[.pointer (some ⟨p, 0, none⟩), .agg #[.int .i64 n.kind, .string n.text, .int .i64 n.num, .slice s9 n.kids.length c9]] w fun e w' => SaysQ w0 w p nv v L (tkA T (i : Int)) e w' := by
 have HN := hid hN
 have HV := hid hv
 have HK := hid hK
 have HT := hid hT
 have HE : Hid (tkA T (i : Int) = tkN (tkA T) n) := tkA_eq hv
 obtain ⟨kd, hkd⟩ : ∃ k, Hid (n.kind = k) := ⟨_, hid rfl⟩
 obtain ⟨ml, hml⟩ : ∃ m, Hid (n.kids.length = m) := ⟨_, hid rfl⟩
 have hlen := hv.len
 have hnum := hv.num
 rw [hml.out] at hcap hm2
 rw [hkd.out] at hk hlen
 rw [hkd.out, hml.out]
 have S0 := hid (Pn.start h #[.int .i64 kd, .string n.text, .int .i64 n.num, .slice s9 ml c9])
 clear hN hv hK hT h; obtain rfl : kd = 8 := hk
 obtain ⟨a, an, hxa, hka, hai, hva, hca⟩ := HV.out.kidAt (j := 0) (c := 1) (by rw [hkd.out]; rfl)
 have kI0 : 0 < ml := by rw [← hml.out]; exact (List.getElem?_eq_some_iff.1 hxa).1
 have kJ0 : (0 : Int) < (ml : Int) := by omega
 have HVA := hid hva
 have hra := cls_in hca
 obtain ⟨b, bn, hxb, hkb, hbi, hvb, hcb⟩ := HV.out.kidAt (j := 1) (c := 1) (by rw [hkd.out]; rfl)
 have kI1 : 1 < ml := by rw [← hml.out]; exact (List.getElem?_eq_some_iff.1 hxb).1
 have kJ1 : (1 : Int) < (ml : Int) := by omega
 have HVB := hid hvb
 have hrb := cls_in hcb
 have hop : 1 ≤ n.num ∧ n.num ≤ 9 := has_op8 HV.out hkd.out
 obtain ⟨q, hq⟩ : ∃ q : Nat, n.num = q := ⟨n.num.toNat, by omega⟩
 have qI : (q : Int) < 10 := by omega
 have qN : q < 10 := by omega
 obtain ⟨fb, fo, rfl, _, hfb, pp0⟩ := eInt_cells HK.out hxa
 have PP0 : Hid (w0.cell? ⟨fb, fo, none⟩ = some (.int .i64 (a : Int))) := pp0
 obtain ⟨_, _, e1, _, _, pp1⟩ := eInt_cells HK.out hxb
 cases e1
 have PP1 : Hid (w0.cell? ⟨fb, fo + 1, none⟩ = some (.int .i64 (b : Int))) := pp1
 clear pp0 hxa hva hca pp1 hxb hvb hcb; have HC : Hid (tkA T (i : Int) = [bLp] ++ tkA T (a : Int) ++ [opT (q : Int)] ++ tkA T (b : Int) ++ [bRp]) := by show _ = _; rw [HE.out]; unfold tkN; rw [hkd.out, hka, hkb, hq]; rfl
 clear hka hkb; rw [hq] at S0 ⊢
 have hr := hroom
 rw [HC.out] at hr
 simp only [List.length_append, List.length_cons, List.length_nil] at hr
 clear hroom; obtain ⟨z0, z1, z2, z3, z4⟩ := Blk.four' S0.out.bx
 go_enter Tryz.func41, Tryz.ntmps41
 have p0 := (S0.out.pr.bl.cell (p := ⟨fb, fo, none⟩) hfb).trans PP0.out
 have p1 := (S0.out.pr.bl.cell (p := ⟨fb, fo + 1, none⟩) hfb).trans PP1.out
 go_wp2_with fail; refine (put_any (M := [bLp]) (S0.out.alloc _).pr (RT.n1 (by simp)) (by simp only [List.length_append, List.length_cons, List.length_nil]; omega)).mono ?_
 rintro e w1 ⟨rfl, v1, h1, f1⟩
 have S1 := hid ((S0.out.alloc _).step h1 f1)
 clear h1 f1 z0 z1 z2 z3 z4 p0 p1; obtain ⟨z0, z1, z2, z3, z4⟩ := Blk.four' S1.out.bx
 have p0 := (S1.out.pr.bl.cell (p := ⟨fb, fo, none⟩) hfb).trans PP0.out
 have p1 := (S1.out.pr.bl.cell (p := ⟨fb, fo + 1, none⟩) hfb).trans PP1.out
 go_wp2_with fail; refine (HN.out a an _ _ _ hai HVA.out hra S1.out.pr (by simp only [List.length_append, List.length_cons, List.length_nil]; omega)).mono ?_
 rintro e w2 ⟨rfl, v2, h2, f2⟩
 have S2 := hid (S1.out.step h2 f2)
 clear h2 f2 z0 z1 z2 z3 z4 p0 p1; obtain ⟨z0, z1, z2, z3, z4⟩ := Blk.four' S2.out.bx
 have p0 := (S2.out.pr.bl.cell (p := ⟨fb, fo, none⟩) hfb).trans PP0.out
 have p1 := (S2.out.pr.bl.cell (p := ⟨fb, fo + 1, none⟩) hfb).trans PP1.out
 have o0 := (S2.out.pr.bl.cell (p := ⟨0, q, none⟩) (HT.out.o q (by omega) (by omega)).2).trans (HT.out.o q (by omega) (by omega)).1
 go_wp2_with fail; refine (put_any (M := [opT (q : Int)]) (S2.out.alloc _).pr (RT.n1 (by simp)) (by simp only [List.length_append, List.length_cons, List.length_nil]; omega)).mono ?_
 rintro e w3 ⟨rfl, v3, h3, f3⟩
 have S3 := hid ((S2.out.alloc _).step h3 f3)
 clear h3 f3 z0 z1 z2 z3 z4 p0 p1; obtain ⟨z0, z1, z2, z3, z4⟩ := Blk.four' S3.out.bx
 have p0 := (S3.out.pr.bl.cell (p := ⟨fb, fo, none⟩) hfb).trans PP0.out
 have p1 := (S3.out.pr.bl.cell (p := ⟨fb, fo + 1, none⟩) hfb).trans PP1.out
 clear o0; go_wp2_with fail; refine (HN.out b bn _ _ _ hbi HVB.out hrb S3.out.pr (by simp only [List.length_append, List.length_cons, List.length_nil]; omega)).mono ?_
 rintro e w4 ⟨rfl, v4, h4, f4⟩
 have S4 := hid (S3.out.step h4 f4)
 clear h4 f4 z0 z1 z2 z3 z4 p0 p1; obtain ⟨z0, z1, z2, z3, z4⟩ := Blk.four' S4.out.bx
 have p0 := (S4.out.pr.bl.cell (p := ⟨fb, fo, none⟩) hfb).trans PP0.out
 have p1 := (S4.out.pr.bl.cell (p := ⟨fb, fo + 1, none⟩) hfb).trans PP1.out
 go_wp2_with fail; refine (put_any (M := [bRp]) (S4.out.alloc _).pr (RT.n1 (by simp)) (by simp only [List.length_append, List.length_cons, List.length_nil]; omega)).mono ?_
 rintro e w5 ⟨rfl, v5, h5, f5⟩
 have S5 := hid ((S4.out.alloc _).step h5 f5)
 clear h5 f5 z0 z1 z2 z3 z4 p0 p1; obtain ⟨z0, z1, z2, z3, z4⟩ := Blk.four' S5.out.bx
 have p0 := (S5.out.pr.bl.cell (p := ⟨fb, fo, none⟩) hfb).trans PP0.out
 have p1 := (S5.out.pr.bl.cell (p := ⟨fb, fo + 1, none⟩) hfb).trans PP1.out
 go_wp2_with fail; refine bodyPost_ret (v := .tuple #[]) (by simp [results, Tryz.results41]) rfl ?_
 exact ⟨rfl, _, by rw [HC.out]; simpa [List.append_assoc] using S5.out.pr, S5.out.fr⟩
set_option maxHeartbeats 64000000 in
theorem exP_11 {w0 w : World} {p : Nat} {nv v : Value} {T : Tre} {L : List ByteArray} {i : Nat} {n : Nd} (hN : NdP w0 p nv T i) (hv : VN T i n) (hk : n.kind = 11) {s9 : Option Addr} {c9 B9 : Nat} (hK : Els 1 cInt w0 B9 s9 n.kids) (hcap : n.kids.length ≤ c9) (hm2 : n.kids.length ≤ 1048576) (hT : Tb w0) (h : Pr w0 w p nv v L) (hroom : L.length + (tkA T (i : Int)).length ≤ 500000) :
  Calls Tryz.prog 41 #[.pointer (some ⟨p, 0, none⟩), .agg #[.int .i64 n.kind, .string n.text, .int .i64 n.num, .slice s9 n.kids.length c9]] w fun e w' => SaysQ w0 w p nv v L (tkA T (i : Int)) e w' := by
 have HN := hid hN
 have HV := hid hv
 have HK := hid hK
 have HT := hid hT
 have HE : Hid (tkA T (i : Int) = tkN (tkA T) n) := tkA_eq hv
 obtain ⟨kd, hkd⟩ : ∃ k, Hid (n.kind = k) := ⟨_, hid rfl⟩
 obtain ⟨ml, hml⟩ : ∃ m, Hid (n.kids.length = m) := ⟨_, hid rfl⟩
 have hlen := hv.len
 have hnum := hv.num
 rw [hml.out] at hcap hm2
 rw [hkd.out] at hk hlen
 rw [hkd.out, hml.out]
 have S0 := hid (Pn.start h #[.int .i64 kd, .string n.text, .int .i64 n.num, .slice s9 ml c9])
 clear hN hv hK hT h; obtain rfl : kd = 11 := hk
 have h2 : 2 ≤ ml := by rw [← hml.out, ← hlen]; simp [shp]
 obtain ⟨a, an, hxa, hka, hai, hva, hca⟩ := HV.out.kidAt (j := 0) (c := 1) (by rw [hkd.out]; rfl)
 have kI0 : 0 < ml := by rw [← hml.out]; exact (List.getElem?_eq_some_iff.1 hxa).1
 have kJ0 : (0 : Int) < (ml : Int) := by omega
 have HVA := hid hva
 have hra := cls_in hca
 have HKT : Hid (∀ x ∈ n.kids.tail, ∃ (k : Nat) (m : Nd), x = k ∧ k < i ∧ VN T k m ∧ (1 ≤ m.kind ∧ m.kind ≤ 34)) := fun x hx => HV.out.kid_in x (List.mem_of_mem_tail hx)
 have hsc := sum_cm (tkA T) n.kids.tail
 have htl : n.kids.tail.length = ml - 1 := by rw [List.length_tail, hml.out]
 have kI8 : (1 : Int) ≤ (ml : Int) := by omega
 have kI9 : (ml : Int) ≤ (c9 : Int) := by omega
 have hc91 : ¬ c9 = 1 := by omega
 have k1 : 1 ≤ ml := by omega
 obtain ⟨fb, fo, rfl, _, hfb, pp0⟩ := eInt_cells HK.out hxa
 have PP0 : Hid (w0.cell? ⟨fb, fo, none⟩ = some (.int .i64 (a : Int))) := pp0
 clear pp0 hxa hva hca; have HC : Hid (tkA T (i : Int) = [bPick, bLp] ++ tkA T (a : Int) ++ [bOf] ++ cm (n.kids.tail.map (tkA T)) ++ [bRp]) := by show _ = _; rw [HE.out]; unfold tkN; rw [hkd.out, hka]; rfl
 clear hka; have hr := hroom
 rw [HC.out] at hr
 simp only [List.length_append, List.length_cons, List.length_nil] at hr
 clear hroom; obtain ⟨z0, z1, z2, z3, z4⟩ := Blk.four' S0.out.bx
 go_enter Tryz.func41, Tryz.ntmps41
 have p0 := (S0.out.pr.bl.cell (p := ⟨fb, fo, none⟩) hfb).trans PP0.out
 go_wp2_with fail; refine (put_any (M := [bPick, bLp]) (S0.out.alloc _).pr (RT.n2 (by simp)) (by simp only [List.length_append, List.length_cons, List.length_nil]; omega)).mono ?_
 rintro e w1 ⟨rfl, v1, h1, f1⟩
 have S1 := hid ((S0.out.alloc _).step h1 f1)
 clear h1 f1 z0 z1 z2 z3 z4 p0; obtain ⟨z0, z1, z2, z3, z4⟩ := Blk.four' S1.out.bx
 have p0 := (S1.out.pr.bl.cell (p := ⟨fb, fo, none⟩) hfb).trans PP0.out
 go_wp2_with fail; refine (HN.out a an _ _ _ hai HVA.out hra S1.out.pr (by simp only [List.length_append, List.length_cons, List.length_nil]; omega)).mono ?_
 rintro e w2 ⟨rfl, v2, h2, f2⟩
 have S2 := hid (S1.out.step h2 f2)
 clear h2 f2 z0 z1 z2 z3 z4 p0; obtain ⟨z0, z1, z2, z3, z4⟩ := Blk.four' S2.out.bx
 have p0 := (S2.out.pr.bl.cell (p := ⟨fb, fo, none⟩) hfb).trans PP0.out
 go_wp2_with fail; refine (put_any (M := [bOf]) (S2.out.alloc _).pr (RT.n1 (by simp)) (by simp only [List.length_append, List.length_cons, List.length_nil]; omega)).mono ?_
 rintro e w3 ⟨rfl, v3, h3, f3⟩
 have S3 := hid ((S2.out.alloc _).step h3 f3)
 clear h3 f3 z0 z1 z2 z3 z4 p0; obtain ⟨z0, z1, z2, z3, z4⟩ := Blk.four' S3.out.bx
 have p0 := (S3.out.pr.bl.cell (p := ⟨fb, fo, none⟩) hfb).trans PP0.out
 go_wp2_with fail; refine (items_any HN.out htl (by omega) (els_tail HK.out) HKT.out S3.out.pr (by simp only [List.length_append, List.length_cons, List.length_nil]; omega)).mono ?_
 rintro e w4 ⟨rfl, v4, h4, f4⟩
 have S4 := hid (S3.out.step h4 f4)
 clear h4 f4 z0 z1 z2 z3 z4 p0; obtain ⟨z0, z1, z2, z3, z4⟩ := Blk.four' S4.out.bx
 have p0 := (S4.out.pr.bl.cell (p := ⟨fb, fo, none⟩) hfb).trans PP0.out
 go_wp2_with fail; refine (put_any (M := [bRp]) (S4.out.alloc _).pr (RT.n1 (by simp)) (by simp only [List.length_append, List.length_cons, List.length_nil]; omega)).mono ?_
 rintro e w5 ⟨rfl, v5, h5, f5⟩
 have S5 := hid ((S4.out.alloc _).step h5 f5)
 clear h5 f5 z0 z1 z2 z3 z4 p0; obtain ⟨z0, z1, z2, z3, z4⟩ := Blk.four' S5.out.bx
 have p0 := (S5.out.pr.bl.cell (p := ⟨fb, fo, none⟩) hfb).trans PP0.out
 go_wp2_with fail; refine bodyPost_ret (v := .tuple #[]) (by simp [results, Tryz.results41]) rfl ?_
 exact ⟨rfl, _, by rw [HC.out]; simpa [List.append_assoc] using S5.out.pr, S5.out.fr⟩
end
section
open Go.RowKit
set_option maxRecDepth 100000
set_option maxHeartbeats 64000000 in
theorem tuP_1 {w0 w : World} {p : Nat} {nv v : Value} {T : Tre} {L : List ByteArray} {i : Nat} {n : Nd} (hN : NdP w0 p nv T i) (hv : VN T i n) (hk : n.kind = 9) (hle : n.num = 1) {s9 : Option Addr} {c9 B9 : Nat} (hK : Els 1 cInt w0 B9 s9 n.kids) (hcap : n.kids.length ≤ c9) (hm2 : n.kids.length ≤ 1048576) (hT : Tb w0) (h : Pr w0 w p nv v L) (hroom : L.length + (tkA T (i : Int)).length ≤ 500000) :
  Calls Tryz.prog 63 #[.pointer (some ⟨p, 0, none⟩), .agg #[.int .i64 n.kind, .string n.text, .int .i64 n.num, .slice s9 n.kids.length c9]] w fun e w' => SaysQ w0 w p nv v L (tkA T (i : Int)) e w' := by
 have HN := hid hN
 have HV := hid hv
 have HK := hid hK
 have HT := hid hT
 have HE : Hid (tkA T (i : Int) = tkN (tkA T) n) := tkA_eq hv
 obtain ⟨kd, hkd⟩ : ∃ k, Hid (n.kind = k) := ⟨_, hid rfl⟩
 obtain ⟨ml, hml⟩ : ∃ m, Hid (n.kids.length = m) := ⟨_, hid rfl⟩
 have hlen := hv.len
 have hnum := hv.num
 rw [hml.out] at hcap hm2
 rw [hkd.out] at hk hlen
 rw [hkd.out, hml.out]
 have S0 := hid (Pn.start h #[.int .i64 kd, .string n.text, .int .i64 n.num, .slice s9 ml c9])
 clear hN hv hK hT h; obtain rfl : kd = 9 := hk
 obtain ⟨a, an, hxa, hka, hai, hva, hca⟩ := HV.out.kidAt (j := 0) (c := 1) (by rw [hkd.out]; rfl)
 have kI0 : 0 < ml := by rw [← hml.out]; exact (List.getElem?_eq_some_iff.1 hxa).1
 have kJ0 : (0 : Int) < (ml : Int) := by omega
 have HVA := hid hva
 have hra := cls_in hca
 have hop : 1 ≤ n.num ∧ n.num ≤ 6 := has_op9 HV.out hkd.out
 obtain ⟨fb, fo, rfl, _, hfb, pp0⟩ := eInt_cells HK.out hxa
 have PP0 : Hid (w0.cell? ⟨fb, fo, none⟩ = some (.int .i64 (a : Int))) := pp0
 clear pp0 hxa hva hca; have HC : Hid (tkA T (i : Int) = [bLp, tuT 1] ++ tkA T (a : Int) ++ [bRp]) := by show _ = _; rw [HE.out]; unfold tkN; rw [hkd.out, hka, hle]; rfl
 clear hka; rw [hle] at S0 ⊢
 clear hle hop hnum; have hr := hroom
 rw [HC.out] at hr
 simp only [List.length_append, List.length_cons, List.length_nil] at hr
 clear hroom; obtain ⟨z0, z1, z2, z3, z4⟩ := Blk.four' S0.out.bx
 have o0 := (S0.out.pr.bl.cell (p := ⟨2, 1, none⟩) (HT.out.u 1 (by omega) (by omega)).2).trans (HT.out.u 1 (by omega) (by omega)).1
 go_enter Tryz.func63, Tryz.ntmps63
 have p0 := (S0.out.pr.bl.cell (p := ⟨fb, fo, none⟩) hfb).trans PP0.out
 go_wp2_with fail; refine (put_any (M := [bLp, tuT 1]) (S0.out.alloc _).pr (RT.n2 (by simp)) (by simp only [List.length_append, List.length_cons, List.length_nil]; omega)).mono ?_
 rintro e w1 ⟨rfl, v1, h1, f1⟩
 have S1 := hid ((S0.out.alloc _).step h1 f1)
 clear h1 f1 z0 z1 z2 z3 z4 p0; obtain ⟨z0, z1, z2, z3, z4⟩ := Blk.four' S1.out.bx
 have p0 := (S1.out.pr.bl.cell (p := ⟨fb, fo, none⟩) hfb).trans PP0.out
 clear o0; go_wp2_with fail; refine (HN.out a an _ _ _ hai HVA.out hra S1.out.pr (by simp only [List.length_append, List.length_cons, List.length_nil]; omega)).mono ?_
 rintro e w2 ⟨rfl, v2, h2, f2⟩
 have S2 := hid (S1.out.step h2 f2)
 clear h2 f2 z0 z1 z2 z3 z4 p0; obtain ⟨z0, z1, z2, z3, z4⟩ := Blk.four' S2.out.bx
 have p0 := (S2.out.pr.bl.cell (p := ⟨fb, fo, none⟩) hfb).trans PP0.out
 go_wp2_with fail; refine (put_any (M := [bRp]) (S2.out.alloc _).pr (RT.n1 (by simp)) (by simp only [List.length_append, List.length_cons, List.length_nil]; omega)).mono ?_
 rintro e w3 ⟨rfl, v3, h3, f3⟩
 have S3 := hid ((S2.out.alloc _).step h3 f3)
 clear h3 f3 z0 z1 z2 z3 z4 p0; obtain ⟨z0, z1, z2, z3, z4⟩ := Blk.four' S3.out.bx
 have p0 := (S3.out.pr.bl.cell (p := ⟨fb, fo, none⟩) hfb).trans PP0.out
 go_wp2_with fail; refine bodyPost_ret (v := .tuple #[]) (by simp [results, Tryz.results63]) rfl ?_
 exact ⟨rfl, _, by rw [HC.out]; simpa [List.append_assoc] using S3.out.pr, S3.out.fr⟩
set_option maxHeartbeats 64000000 in
theorem tuP_2 {w0 w : World} {p : Nat} {nv v : Value} {T : Tre} {L : List ByteArray} {i : Nat} {n : Nd} (hN : NdP w0 p nv T i) (hv : VN T i n) (hk : n.kind = 9) (hle : n.num = 2) {s9 : Option Addr} {c9 B9 : Nat} (hK : Els 1 cInt w0 B9 s9 n.kids) (hcap : n.kids.length ≤ c9) (hm2 : n.kids.length ≤ 1048576) (hT : Tb w0) (h : Pr w0 w p nv v L) (hroom : L.length + (tkA T (i : Int)).length ≤ 500000) :
  Calls Tryz.prog 63 #[.pointer (some ⟨p, 0, none⟩), .agg #[.int .i64 n.kind, .string n.text, .int .i64 n.num, .slice s9 n.kids.length c9]] w fun e w' => SaysQ w0 w p nv v L (tkA T (i : Int)) e w' := by
 have HN := hid hN
 have HV := hid hv
 have HK := hid hK
 have HT := hid hT
 have HE : Hid (tkA T (i : Int) = tkN (tkA T) n) := tkA_eq hv
 obtain ⟨kd, hkd⟩ : ∃ k, Hid (n.kind = k) := ⟨_, hid rfl⟩
 obtain ⟨ml, hml⟩ : ∃ m, Hid (n.kids.length = m) := ⟨_, hid rfl⟩
 have hlen := hv.len
 have hnum := hv.num
 rw [hml.out] at hcap hm2
 rw [hkd.out] at hk hlen
 rw [hkd.out, hml.out]
 have S0 := hid (Pn.start h #[.int .i64 kd, .string n.text, .int .i64 n.num, .slice s9 ml c9])
 clear hN hv hK hT h; obtain rfl : kd = 9 := hk
 obtain ⟨a, an, hxa, hka, hai, hva, hca⟩ := HV.out.kidAt (j := 0) (c := 1) (by rw [hkd.out]; rfl)
 have kI0 : 0 < ml := by rw [← hml.out]; exact (List.getElem?_eq_some_iff.1 hxa).1
 have kJ0 : (0 : Int) < (ml : Int) := by omega
 have HVA := hid hva
 have hra := cls_in hca
 have hop : 1 ≤ n.num ∧ n.num ≤ 6 := has_op9 HV.out hkd.out
 obtain ⟨fb, fo, rfl, _, hfb, pp0⟩ := eInt_cells HK.out hxa
 have PP0 : Hid (w0.cell? ⟨fb, fo, none⟩ = some (.int .i64 (a : Int))) := pp0
 clear pp0 hxa hva hca; have HC : Hid (tkA T (i : Int) = [bLp, tuT 2] ++ tkA T (a : Int) ++ [bRp]) := by show _ = _; rw [HE.out]; unfold tkN; rw [hkd.out, hka, hle]; rfl
 clear hka; rw [hle] at S0 ⊢
 clear hle hop hnum; have hr := hroom
 rw [HC.out] at hr
 simp only [List.length_append, List.length_cons, List.length_nil] at hr
 clear hroom; obtain ⟨z0, z1, z2, z3, z4⟩ := Blk.four' S0.out.bx
 have o0 := (S0.out.pr.bl.cell (p := ⟨2, 2, none⟩) (HT.out.u 2 (by omega) (by omega)).2).trans (HT.out.u 2 (by omega) (by omega)).1
 go_enter Tryz.func63, Tryz.ntmps63
 have p0 := (S0.out.pr.bl.cell (p := ⟨fb, fo, none⟩) hfb).trans PP0.out
 go_wp2_with fail; refine (put_any (M := [bLp, tuT 2]) (S0.out.alloc _).pr (RT.n2 (by simp)) (by simp only [List.length_append, List.length_cons, List.length_nil]; omega)).mono ?_
 rintro e w1 ⟨rfl, v1, h1, f1⟩
 have S1 := hid ((S0.out.alloc _).step h1 f1)
 clear h1 f1 z0 z1 z2 z3 z4 p0; obtain ⟨z0, z1, z2, z3, z4⟩ := Blk.four' S1.out.bx
 have p0 := (S1.out.pr.bl.cell (p := ⟨fb, fo, none⟩) hfb).trans PP0.out
 clear o0; go_wp2_with fail; refine (HN.out a an _ _ _ hai HVA.out hra S1.out.pr (by simp only [List.length_append, List.length_cons, List.length_nil]; omega)).mono ?_
 rintro e w2 ⟨rfl, v2, h2, f2⟩
 have S2 := hid (S1.out.step h2 f2)
 clear h2 f2 z0 z1 z2 z3 z4 p0; obtain ⟨z0, z1, z2, z3, z4⟩ := Blk.four' S2.out.bx
 have p0 := (S2.out.pr.bl.cell (p := ⟨fb, fo, none⟩) hfb).trans PP0.out
 go_wp2_with fail; refine (put_any (M := [bRp]) (S2.out.alloc _).pr (RT.n1 (by simp)) (by simp only [List.length_append, List.length_cons, List.length_nil]; omega)).mono ?_
 rintro e w3 ⟨rfl, v3, h3, f3⟩
 have S3 := hid ((S2.out.alloc _).step h3 f3)
 clear h3 f3 z0 z1 z2 z3 z4 p0; obtain ⟨z0, z1, z2, z3, z4⟩ := Blk.four' S3.out.bx
 have p0 := (S3.out.pr.bl.cell (p := ⟨fb, fo, none⟩) hfb).trans PP0.out
 go_wp2_with fail; refine bodyPost_ret (v := .tuple #[]) (by simp [results, Tryz.results63]) rfl ?_
 exact ⟨rfl, _, by rw [HC.out]; simpa [List.append_assoc] using S3.out.pr, S3.out.fr⟩
set_option maxHeartbeats 64000000 in
theorem tuP_3 {w0 w : World} {p : Nat} {nv v : Value} {T : Tre} {L : List ByteArray} {i : Nat} {n : Nd} (hN : NdP w0 p nv T i) (hv : VN T i n) (hk : n.kind = 9) (hle : 3 ≤ n.num) {s9 : Option Addr} {c9 B9 : Nat} (hK : Els 1 cInt w0 B9 s9 n.kids) (hcap : n.kids.length ≤ c9) (hm2 : n.kids.length ≤ 1048576) (hT : Tb w0) (h : Pr w0 w p nv v L) (hroom : L.length + (tkA T (i : Int)).length ≤ 500000) :
  Calls Tryz.prog 63 #[.pointer (some ⟨p, 0, none⟩), .agg #[.int .i64 n.kind, .string n.text, .int .i64 n.num, .slice s9 n.kids.length c9]] w fun e w' => SaysQ w0 w p nv v L (tkA T (i : Int)) e w' := by
 have HN := hid hN
 have HV := hid hv
 have HK := hid hK
 have HT := hid hT
 have HE : Hid (tkA T (i : Int) = tkN (tkA T) n) := tkA_eq hv
 obtain ⟨kd, hkd⟩ : ∃ k, Hid (n.kind = k) := ⟨_, hid rfl⟩
 obtain ⟨ml, hml⟩ : ∃ m, Hid (n.kids.length = m) := ⟨_, hid rfl⟩
 have hlen := hv.len
 have hnum := hv.num
 rw [hml.out] at hcap hm2
 rw [hkd.out] at hk hlen
 rw [hkd.out, hml.out]
 have S0 := hid (Pn.start h #[.int .i64 kd, .string n.text, .int .i64 n.num, .slice s9 ml c9])
 clear hN hv hK hT h; obtain rfl : kd = 9 := hk
 obtain ⟨a, an, hxa, hka, hai, hva, hca⟩ := HV.out.kidAt (j := 0) (c := 1) (by rw [hkd.out]; rfl)
 have kI0 : 0 < ml := by rw [← hml.out]; exact (List.getElem?_eq_some_iff.1 hxa).1
 have kJ0 : (0 : Int) < (ml : Int) := by omega
 have HVA := hid hva
 have hra := cls_in hca
 have hop : 1 ≤ n.num ∧ n.num ≤ 6 := has_op9 HV.out hkd.out
 obtain ⟨q, hq⟩ : ∃ q : Nat, n.num = q := ⟨n.num.toNat, by omega⟩
 have qI : (q : Int) < 7 := by omega
 have qN : q < 7 := by omega
 have hle2 : 3 ≤ q := by omega
 have hlen1 : n.kids.length = 1 := by simp [shp] at hlen; omega
 obtain ⟨fb, fo, rfl, _, hfb, pp0⟩ := eInt_cells HK.out hxa
 have PP0 : Hid (w0.cell? ⟨fb, fo, none⟩ = some (.int .i64 (a : Int))) := pp0
 clear pp0 hxa hva hca; have HC : Hid (tkA T (i : Int) = [tuT (q : Int)] ++ ([bLp] ++ cm (n.kids.map (tkA T)) ++ [bRp])) := by show _ = _; rw [HE.out]; unfold tkN; rw [hkd.out, hka, hq, kids_1 hlen1, hka]; simp [cm, show ¬ ((q : Int) ≤ 2) by omega]
 clear hka; rw [hq] at S0 ⊢
 have HKS : Hid (∀ x ∈ n.kids, ∃ (k : Nat) (m : Nd), x = k ∧ k < i ∧ VN T k m ∧ (1 ≤ m.kind ∧ m.kind ≤ 34)) := HV.out.kid_in
 have hsc := sum_cm (tkA T) n.kids
 have hr := hroom
 rw [HC.out] at hr
 simp only [List.length_append, List.length_cons, List.length_nil] at hr
 clear hroom; obtain ⟨z0, z1, z2, z3, z4⟩ := Blk.four' S0.out.bx
 have o0 := (S0.out.pr.bl.cell (p := ⟨2, q, none⟩) (HT.out.u q (by omega) (by omega)).2).trans (HT.out.u q (by omega) (by omega)).1
 have g1 : ((q : Int) == 1) = false := by simp; omega
 have g2 : ((q : Int) == 2) = false := by simp; omega
 clear hle; go_enter Tryz.func63, Tryz.ntmps63
 have p0 := (S0.out.pr.bl.cell (p := ⟨fb, fo, none⟩) hfb).trans PP0.out
 go_wp2_with fail; refine (put_any (M := [tuT (q : Int)]) (S0.out.alloc _).pr (RT.n1 (by simp)) (by simp only [List.length_append, List.length_cons, List.length_nil]; omega)).mono ?_
 rintro e w1 ⟨rfl, v1, h1, f1⟩
 have S1 := hid ((S0.out.alloc _).step h1 f1)
 clear h1 f1 z0 z1 z2 z3 z4 p0; obtain ⟨z0, z1, z2, z3, z4⟩ := Blk.four' S1.out.bx
 have p0 := (S1.out.pr.bl.cell (p := ⟨fb, fo, none⟩) hfb).trans PP0.out
 clear o0; go_wp2_with fail; refine (listed_any HN.out hml.out (by omega) HK.out HKS.out S1.out.pr (by simp only [List.length_append, List.length_cons, List.length_nil]; omega)).mono ?_
 rintro e w2 ⟨rfl, v2, h2, f2⟩
 have S2 := hid (S1.out.step h2 f2)
 clear h2 f2 z0 z1 z2 z3 z4 p0; obtain ⟨z0, z1, z2, z3, z4⟩ := Blk.four' S2.out.bx
 have p0 := (S2.out.pr.bl.cell (p := ⟨fb, fo, none⟩) hfb).trans PP0.out
 go_wp2_with fail; refine bodyPost_ret (v := .tuple #[]) (by simp [results, Tryz.results63]) rfl ?_
 exact ⟨rfl, _, by rw [HC.out]; simpa [List.append_assoc] using S2.out.pr, S2.out.fr⟩
end
end Go.Proofs.YtjckoldjodjehaaGreatDoor
