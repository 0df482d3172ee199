import Derived.Test.YtofpkbnocbmgkaaEg
namespace Go.Proofs.Ytofpkbnocbmgkaa
open Go.RowKit
set_option linter.unusedVariables false

theorem gensB_bad {G : List Int} {k : Nat} (hk : k < G.length) (h : ¬ (0 ≤ G[k]?.getD 0 ∧ G[k]?.getD 0 ≤ 1000000)) : gensB G = false := by
  simp only [gensB, decide_eq_false_iff_not]
  exact fun g => h (g _ (getD_mem hk))

set_option maxHeartbeats 2000000 in
theorem gensOk_any (s1 : Option Addr) (c1 : Nat) (G : List Int) (w : World) (h1 : Ints w s1 G) (hn : G.length ≤ 2000) :
    Calls Try.prog 106 #[.slice s1 G.length c1] w fun e w' => e = .returned (.bool (gensB G)) ∧ Below w.heap.size w w' := by
  go_enter Try.func106, Try.ntmps106
  go_wp2_with fail
  go_loop [7] (fun i => ∃ k : Nat, k ≤ G.length ∧ i = .int .i64 k ∧ Hid (∀ g ∈ G.take k, 0 ≤ g ∧ g ≤ 1000000)) (fun i => G.length - (intOf i).toNat)
  case atStart => exact ⟨0, Nat.zero_le _, rfl, by simp [Hid]⟩
  case round =>
    obtain ⟨k, hk, rfl, hall⟩ := hrel
    by_cases hlt : k < G.length
    · obtain ⟨pb, po, rfl, hp, hc⟩ := h1.get hlt
      obtain ⟨x, hx⟩ : ∃ x, Hid (G[k]?.getD 0 = x) := ⟨_, rfl⟩
      have d1 : w.cell? ⟨pb, po + k, none⟩ = some (.int .i64 x) := by rw [← hx.out]; exact hc k hlt
      by_cases hin : 0 ≤ x ∧ x ≤ 1000000
      · obtain ⟨i1, i2⟩ := hin
        have hstep : Hid (∀ g ∈ G.take (k + 1), 0 ≤ g ∧ g ≤ 1000000) := by
          intro g hg
          rw [take_succ' G k hlt, List.mem_append] at hg
          rcases hg with hg | hg
          · exact hall.out g hg
          · simp at hg; subst hg; rw [hx.out]; exact ⟨i1, i2⟩
        clear hc h1
        go_wp2_with fail
        go_round
        case rel => exact ⟨k + 1, by omega, by go_num, hstep⟩
        case measure => simp [intOf]; omega
      · have hbad : Hid (gensB G = false) := gensB_bad hlt (by rw [hx.out]; exact hin)
        clear hc h1
        by_cases i1 : x < 0
        · clear hin
          go_wp2_with fail
          go_ret
          exact ⟨ret_bool' hbad.out.symm, Below.refl _ _⟩
        · have i2 : 1000000 < x := by omega
          clear hin
          go_wp2_with fail
          go_ret
          exact ⟨ret_bool' hbad.out.symm, Below.refl _ _⟩
    · have hgood : Hid (gensB G = true) := by
        have := hall.out
        rw [List.take_of_length_le (by omega)] at this
        simp only [Hid, gensB, decide_eq_true_eq]
        exact this
      go_wp2_with fail
      go_ret
      exact ⟨ret_bool' hgood.out.symm, Below.refl _ _⟩

theorem tmod64 (q : Nat) : (q : Int).tmod 64 = ((q % 64 : Nat) : Int) := by rw [Int.tmod_eq_emod_of_nonneg (by omega)]; omega
theorem tdiv64 (q : Nat) : (q : Int).tdiv 64 = ((q / 64 : Nat) : Int) := by rw [Int.tdiv_eq_ediv_of_nonneg (by omega)]; omega
theorem wrapu (n : Nat) (h : n < 18446744073709551616) : IntKind.u64.wrap (n : Int) = (n : Int) := by
  rw [IntKind.wrap_u64]; omega
theorem bitw {r : Nat} (h : r < 64) : IntKind.u64.wrap (2 ^ r) = (((1#64) <<< r).toNat : Int) := by
  have e : ((1#64) <<< r).toNat = 2 ^ r := by
    rw [BitVec.toNat_shiftLeft, Nat.shiftLeft_eq]
    simp
    exact Nat.pow_lt_pow_right (by omega) h
  rw [e]
  have : (2 : Nat) ^ r < 18446744073709551616 := Nat.pow_lt_pow_right (n := 64) (by omega) h
  have g := wrapu (2 ^ r) this
  simpa using g
theorem ofn (a : BitVec 64) : BitVec.ofInt 64 (a.toNat : Int) = a := by simp
theorem andw (a b : BitVec 64) : bits .and .u64 (a.toNat : Int) (b.toNat : Int) = ((a &&& b).toNat : Int) := by
  show IntKind.u64.wrap ((BitVec.ofInt 64 (a.toNat : Int) &&& BitVec.ofInt 64 (b.toNat : Int)).toNat : Nat) = _
  rw [ofn, ofn]
  exact wrapu _ (a &&& b).isLt
theorem orw (a b : BitVec 64) : bits .or .u64 (a.toNat : Int) (b.toNat : Int) = ((a ||| b).toNat : Int) := by
  show IntKind.u64.wrap ((BitVec.ofInt 64 (a.toNat : Int) ||| BitVec.ofInt 64 (b.toNat : Int)).toNat : Nat) = _
  rw [ofn, ofn]
  exact wrapu _ (a ||| b).isLt

theorem nats_succ {F : List Int} {m q : Nat} (hlt : m < F.length) (h : F[m]?.getD 0 = (q : Int)) : (F.take (m + 1)).map Int.toNat = (F.take m).map Int.toNat ++ [q] := by
  rw [take_succ' F m hlt, List.map_append, h]; simp

set_option maxHeartbeats 4000000 in
theorem freeOk_any (s2 : Option Addr) (c2 : Nat) (F : List Int) (n : Nat) (w : World) (h2 : Ints w s2 F) (hn : n ≤ 2000) (hl : F.length ≤ 1048576) :
    Calls Try.prog 107 #[.slice s2 F.length c2, .int .i64 n] w fun e w' => e = .returned (.bool (freeB F n)) ∧ Below w.heap.size w w' := by
  have hal := alloc_old
  have haf := alloc_oldf
  go_enter Try.func107, Try.ntmps107
  go_wp2_with fail
  go_loopw [12] (fun i wr => ∃ k : Nat, k ≤ F.length ∧ i = .int .i64 k ∧ (∃ once twice, Hid (Bits ((F.take k).map Int.toNat) once twice) ∧ Blk wr w.heap.size (wordsOf once) 219 ∧ Blk wr (w.heap.size + 1) (wordsOf twice) 219) ∧ Hid (∀ f ∈ F.take k, 0 ≤ f ∧ f < n) ∧ Below w.heap.size w wr) (fun i _ => F.length - (intOf i).toNat)
  case atStart =>
    refine ⟨0, Nat.zero_le _, rfl, ⟨List.replicate 32 0, List.replicate 32 0, bits_nil, ?_, ?_⟩, by simp [Hid], ?_⟩
    · rw [words_zero]; exact (Blk.new w _ _).alloc _
    · rw [words_zero]; exact Blk.new' _ _ _ (by simp)
    · (repeat (first | with_reducible exact Below.refl _ _ | with_reducible refine bl_alloc ?_ _ | with_reducible refine bl_drewN ?_ _ | with_reducible refine bl_drew ?_ | with_reducible refine bl_setCell ?_ (by first | exact Nat.le_refl _ | (dsimp only; omega) | (simp <;> omega)) _ | with_reducible refine bl_trans ?_ (by with_reducible assumption)))
  case round =>
    obtain ⟨m, hm, rfl, ⟨once, twice, hbits, b0, b1⟩, hr, hbel⟩ := hrel
    by_cases hlt : m < F.length
    · obtain ⟨pb, po, rfl, hp, hc⟩ := h2.get hlt
      obtain ⟨x, hx⟩ : ∃ x, Hid (F[m]?.getD 0 = x) := ⟨_, rfl⟩
      have d1 : wr.cell? ⟨pb, po + m, none⟩ = some (.int .i64 x) := by rw [← hx.out]; exact (hbel.cell (p := ⟨pb, po + m, none⟩) hp).trans (hc m hlt)
      clear hc h2
      by_cases hin : 0 ≤ x ∧ x < n
      · obtain ⟨q, rfl⟩ : ∃ q : Nat, x = (q : Int) := ⟨x.toNat, by omega⟩
        have hq : q < n := by omega
        have e1 := tmod64 q
        have e2 := tdiv64 q
        obtain ⟨d, hd⟩ : ∃ d, Hid (q / 64 = d) := ⟨_, rfl⟩
        obtain ⟨r, hr'⟩ : ∃ r, Hid (q % 64 = r) := ⟨_, rfl⟩
        rw [hd.out] at e2
        rw [hr'.out] at e1
        have hd32 : d < 32 := by have := hd.out; omega
        have hr64 : r < 64 := by have := hr'.out; omega
        obtain ⟨ov, hov⟩ : ∃ o, Hid (once.getD d 0 = o) := ⟨_, rfl⟩
        obtain ⟨tv, htv⟩ : ∃ o, Hid (twice.getD d 0 = o) := ⟨_, rfl⟩
        have k0 : wr.cell? ⟨w.heap.size, d, none⟩ = some (.int .u64 (ov.toNat : Int)) := by rw [b0.cell, words_cell (by have := hbits.out.1; omega), hov.out]
        have k1 : wr.cell? ⟨w.heap.size + 1, d, none⟩ = some (.int .u64 (tv.toNat : Int)) := by rw [b1.cell, words_cell (by have := hbits.out.2.1; omega), htv.out]
        have f0 := b0.frozen d
        have f1 := b1.frozen d
        obtain ⟨bt, hbt⟩ : ∃ b, Hid ((1#64) <<< r = b) := ⟨_, rfl⟩
        obtain ⟨av, hav⟩ : ∃ b, Hid (ov &&& bt = b) := ⟨_, rfl⟩
        obtain ⟨tv', htv'⟩ : ∃ b, Hid (tv ||| av = b) := ⟨_, rfl⟩
        obtain ⟨ov', hov'⟩ : ∃ b, Hid (ov ||| bt = b) := ⟨_, rfl⟩
        have g1 := bitw hr64
        have g2 := andw ov bt
        have g3 := orw tv av
        have g4 := orw ov bt
        rw [hbt.out] at g1
        rw [hav.out] at g2
        rw [htv'.out] at g3
        rw [hov'.out] at g4
        have hstep : Hid (Bits ((F.take (m + 1)).map Int.toNat) (once.set d ov') (twice.set d tv')) := by
          have := bits_step (q := q) (by omega) hbits.out
          rw [hd.out, hr'.out, hov.out, htv.out, hbt.out, hav.out, htv'.out, hov'.out, ← nats_succ hlt hx.out] at this
          exact this
        have hrng : Hid (∀ f ∈ F.take (m + 1), 0 ≤ f ∧ f < n) := by
          intro g hg
          rw [take_succ' F m hlt, List.mem_append] at hg
          rcases hg with hg | hg
          · exact hr.out g hg
          · simp at hg; subst hg; rw [hx.out]; exact hin
        have t0 : decide ((q : Int) < 0) = false := by simp
        have t1 : decide (n ≤ q) = false := by simp; omega
        go_wp2_with fail
        go_region
        go_wp2_with fail
        go_roundw
        case rel =>
          refine ⟨m + 1, by omega, by go_num, ⟨once.set d ov', twice.set d tv', hstep, ?_, ?_⟩, hrng, ?_⟩
          · rw [← words_set]
            exact Blk.set (Blk.other (w := wr) b0 (by omega) _ _) _ _
          · rw [← words_set]
            exact Blk.other (Blk.set (w := wr) b1 _ _) (by omega) _ _
          · (repeat (first | with_reducible exact Below.refl _ _ | with_reducible refine bl_alloc ?_ _ | with_reducible refine bl_drewN ?_ _ | with_reducible refine bl_drew ?_ | with_reducible refine bl_setCell ?_ (by first | exact Nat.le_refl _ | (dsimp only; omega) | (simp <;> omega)) _ | with_reducible refine bl_trans ?_ (by with_reducible assumption)))
        case measure => simp [intOf]; omega
      · have hbad : Hid (freeB F n = false) := by
          simp only [Hid, freeB, decide_eq_false_iff_not]
          intro g
          have := g.1 _ (getD_mem hlt)
          rw [hx.out] at this
          exact hin this
        by_cases i1 : x < 0
        · clear hin
          go_wp2_with fail
          go_ret
          refine ⟨ret_bool' hbad.out.symm, ?_⟩
          (repeat (first | with_reducible exact Below.refl _ _ | with_reducible refine bl_alloc ?_ _ | with_reducible refine bl_drewN ?_ _ | with_reducible refine bl_drew ?_ | with_reducible refine bl_setCell ?_ (by first | exact Nat.le_refl _ | (dsimp only; omega) | (simp <;> omega)) _ | with_reducible refine bl_trans ?_ (by with_reducible assumption)))
        · have i2 : (n : Int) ≤ x := by omega
          clear hin
          go_wp2_with fail
          go_ret
          refine ⟨ret_bool' hbad.out.symm, ?_⟩
          (repeat (first | with_reducible exact Below.refl _ _ | with_reducible refine bl_alloc ?_ _ | with_reducible refine bl_drewN ?_ _ | with_reducible refine bl_drew ?_ | with_reducible refine bl_setCell ?_ (by first | exact Nat.le_refl _ | (dsimp only; omega) | (simp <;> omega)) _ | with_reducible refine bl_trans ?_ (by with_reducible assumption)))
    · have hall := hr.out
      have hb := hbits.out
      rw [List.take_of_length_le (by omega)] at hall hb
      have hiff := bits_end (fun q hq => by
        obtain ⟨f, hf, rfl⟩ := List.mem_map.1 hq
        have := hall f hf; omega) hb
      rw [nodup_nat (fun f hf => (hall f hf).1)] at hiff
      have hfree : Hid (freeB F n = decide (twice = List.replicate 32 0)) := by
        simp only [Hid, freeB]
        rw [Bool.eq_iff_iff]
        simp only [decide_eq_true_eq]
        exact ⟨fun h => hiff.2 h.2, fun h => ⟨hall, hiff.1 h⟩⟩
      clear hall hb hiff hr
      have hlen := hbits.out.2.1
      have hcmp := words_equal twice hlen wr
      rw [words_zero] at hcmp
      go_wp2_with (refine wpList_words _ rfl (.tmp 6) rfl _ rfl twice hlen b1 ?_)
      go_ret
      refine ⟨ret_bool' hfree.out.symm, ?_⟩
      (repeat (first | with_reducible exact Below.refl _ _ | with_reducible refine bl_alloc ?_ _ | with_reducible refine bl_drewN ?_ _ | with_reducible refine bl_drew ?_ | with_reducible refine bl_setCell ?_ (by first | exact Nat.le_refl _ | (dsimp only; omega) | (simp <;> omega)) _ | with_reducible refine bl_trans ?_ (by with_reducible assumption)))

set_option maxHeartbeats 2000000 in
theorem implEntsOk_any (s1 s2 : Option Addr) (c1 c2 : Nat) (G F : List Int) (w : World) (h1 : Ints w s1 G) (h2 : Ints w s2 F) (hl : F.length ≤ 1048576) :
    Calls Try.prog 79 #[.agg #[.slice s1 G.length c1, .slice s2 F.length c2]] w fun e w' => e = .returned (.bool (okE G F)) ∧ Below w.heap.size w w' := by
  have hal := alloc_old
  have haf := alloc_oldf
  have k0 := Blk.new w #[.slice s1 G.length c1, .slice s2 F.length c2] 45
  by_cases hn : G.length ≤ 2000
  · have t1 : decide ((G.length : Int) ≤ 2000) = true := by simp; omega
    have E : Hid (okE G F = (gensB G && freeB F G.length)) := by simp [Hid, okE_eq, hn]
    cases hg : gensB G
    · rw [hg] at E
      go_enter Try.func79, Try.ntmps79
      go_wp2_with fail
      refine (gensOk_any s1 c1 G _ (h1.later (by (repeat (first | with_reducible exact Below.refl _ _ | with_reducible refine bl_alloc ?_ _ | with_reducible refine bl_drewN ?_ _ | with_reducible refine bl_drew ?_ | with_reducible refine bl_setCell ?_ (by first | exact Nat.le_refl _ | (dsimp only; omega) | (simp <;> omega)) _ | with_reducible refine bl_trans ?_ (by with_reducible assumption))))) hn).mono ?_
      rintro e w1 ⟨rfl, hb1⟩
      rw [hg]
      go_wp2_with fail
      go_ret
      refine ⟨ret_bool' E.out.symm, ?_⟩
      (repeat (first | with_reducible exact Below.refl _ _ | with_reducible refine bl_alloc ?_ _ | with_reducible refine bl_drewN ?_ _ | with_reducible refine bl_drew ?_ | with_reducible refine bl_setCell ?_ (by first | exact Nat.le_refl _ | (dsimp only; omega) | (simp <;> omega)) _ | with_reducible refine bl_trans ?_ (by with_reducible assumption)))
    · rw [hg] at E
      go_enter Try.func79, Try.ntmps79
      go_wp2_with fail
      refine (gensOk_any s1 c1 G _ (h1.later (by (repeat (first | with_reducible exact Below.refl _ _ | with_reducible refine bl_alloc ?_ _ | with_reducible refine bl_drewN ?_ _ | with_reducible refine bl_drew ?_ | with_reducible refine bl_setCell ?_ (by first | exact Nat.le_refl _ | (dsimp only; omega) | (simp <;> omega)) _ | with_reducible refine bl_trans ?_ (by with_reducible assumption))))) hn).mono ?_
      rintro e w1 ⟨rfl, hb1⟩
      rw [hg]
      obtain ⟨x0, x1, x2⟩ := (k0.later hb1).two
      go_wp2_with fail
      refine (freeOk_any s2 c2 F G.length _ (h2.later (by (repeat (first | with_reducible exact Below.refl _ _ | with_reducible refine bl_alloc ?_ _ | with_reducible refine bl_drewN ?_ _ | with_reducible refine bl_drew ?_ | with_reducible refine bl_setCell ?_ (by first | exact Nat.le_refl _ | (dsimp only; omega) | (simp <;> omega)) _ | with_reducible refine bl_trans ?_ (by with_reducible assumption))))) hn hl).mono ?_
      rintro e w2 ⟨rfl, hb2⟩
      go_wp2_with fail
      go_ret
      refine ⟨ret_bool' (by rw [E.out]; simp), ?_⟩
      (repeat (first | with_reducible exact Below.refl _ _ | with_reducible refine bl_alloc ?_ _ | with_reducible refine bl_drewN ?_ _ | with_reducible refine bl_drew ?_ | with_reducible refine bl_setCell ?_ (by first | exact Nat.le_refl _ | (dsimp only; omega) | (simp <;> omega)) _ | with_reducible refine bl_trans ?_ (by with_reducible assumption)))
  · have t1 : decide ((G.length : Int) ≤ 2000) = false := by simp; omega
    have E : Hid (okE G F = false) := by simp [Hid, okE_eq, hn]
    go_enter Try.func79, Try.ntmps79
    go_wp2_with fail
    go_ret
    refine ⟨ret_bool' E.out.symm, ?_⟩
    (repeat (first | with_reducible exact Below.refl _ _ | with_reducible refine bl_alloc ?_ _ | with_reducible refine bl_drewN ?_ _ | with_reducible refine bl_drew ?_ | with_reducible refine bl_setCell ?_ (by first | exact Nat.le_refl _ | (dsimp only; omega) | (simp <;> omega)) _ | with_reducible refine bl_trans ?_ (by with_reducible assumption)))
end Go.Proofs.Ytofpkbnocbmgkaa
