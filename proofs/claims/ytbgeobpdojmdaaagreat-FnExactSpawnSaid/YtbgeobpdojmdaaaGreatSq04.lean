import Derived.Test.YtbgeobpdojmdaaaGreatSq03
import Derived.Deep.QuietTactic
import Derived.BigQuiet
namespace Go.Proofs.YtbgeobpdojmdaaaGreat
set_option linter.unusedVariables false
section
open Go.RowKit
theorem gensB_bad {G : List Int} {k : Nat} (hk : k < G.length) (h : ¬ (0 ≤ G[k]?.getD 0 ∧ G[k]?.getD 0 ≤ 1000000)) : gensB G = false := by
 simp only [gensB, decide_eq_false_iff_not]
 exact fun g => h (g _ (getD_mem hk))
set_option maxHeartbeats 2000000 in
theorem gensOk_any (s1 : Option Addr) (c1 : Nat) (G : List Int) (w : World) (h1 : Ints w s1 G) (hn : G.length ≤ 2000) :
  Calls Tryz.prog 120 #[.slice s1 G.length c1] w fun e w' => e = .returned (.bool (gensB G)) ∧ Below w.heap.size w w' := by
 go_enter Tryz.func120, Tryz.ntmps120
 go_wp2_with fail; go_loop [7] (fun i => ∃ k : Nat, k ≤ G.length ∧ i = .int .i64 k ∧ Hid (∀ g ∈ G.take k, 0 ≤ g ∧ g ≤ 1000000)) (fun i => G.length - (intOf i).toNat)
 case atStart => exact ⟨0, Nat.zero_le _, rfl, by simp [Hid]⟩
 obtain ⟨k, hk, rfl, hall⟩ := hrel
 by_cases hlt : k < G.length
 ·
  obtain ⟨pb, po, rfl, hp, hc⟩ := h1.get hlt
  obtain ⟨x, hx⟩ : ∃ x, Hid (G[k]?.getD 0 = x) := ⟨_, rfl⟩
  have d1 : w.cell? ⟨pb, po + k, none⟩ = some (.int .i64 x) := by rw [← hx.out]; exact hc k hlt
  by_cases hin : 0 ≤ x ∧ x ≤ 1000000
  ·
   obtain ⟨i1, i2⟩ := hin
   have hstep : Hid (∀ g ∈ G.take (k + 1), 0 ≤ g ∧ g ≤ 1000000) := by
    intro g hg
    rw [take_succ' G k hlt, List.mem_append] at hg
    rcases hg with hg | hg
    ·
     exact hall.out g hg
    simp at hg; subst hg; rw [hx.out]; exact ⟨i1, i2⟩
   clear hc h1; go_wp2_with fail; go_round
   case rel => exact ⟨k + 1, by omega, by go_num, hstep⟩
   case measure => simp [intOf]; omega
  have hbad : Hid (gensB G = false) := gensB_bad hlt (by rw [hx.out]; exact hin)
  clear hc h1; by_cases i1 : x < 0
  ·
   clear hin; go_wp2_with fail; go_ret; exact ⟨ret_bool' hbad.out.symm, Below.refl _ _⟩
  have i2 : 1000000 < x := by omega
  clear hin; go_wp2_with fail; go_ret; exact ⟨ret_bool' hbad.out.symm, Below.refl _ _⟩
 have hgood : Hid (gensB G = true) := by
  have := hall.out
  rw [List.take_of_length_le (by omega)] at this
  simp only [Hid, gensB, decide_eq_true_eq]
  exact this
 go_wp2_with fail; go_ret; exact ⟨ret_bool' hgood.out.symm, Below.refl _ _⟩
theorem tmod64 (q : Nat) : (q : Int).tmod 64 = ((q % 64 : Nat) : Int) := by rw [Int.tmod_eq_emod_of_nonneg (by omega)]; omega
theorem tdiv64 (q : Nat) : (q : Int).tdiv 64 = ((q / 64 : Nat) : Int) := by rw [Int.tdiv_eq_ediv_of_nonneg (by omega)]; omega
theorem wrapu (n : Nat) (h : n < 18446744073709551616) : IntKind.u64.wrap (n : Int) = (n : Int) := by
 rw [IntKind.wrap_u64]; omega
theorem bitw {r : Nat} (h : r < 64) : IntKind.u64.wrap (2 ^ r) = (((1#64) <<< r).toNat : Int) := by
 have e : ((1#64) <<< r).toNat = 2 ^ r := by
  rw [BitVec.toNat_shiftLeft, Nat.shiftLeft_eq]
  simp
  exact Nat.pow_lt_pow_right (by omega) h
 rw [e]
 have : (2 : Nat) ^ r < 18446744073709551616 := Nat.pow_lt_pow_right (n := 64) (by omega) h
 have g := wrapu (2 ^ r) this
 simpa using g
theorem ofn (a : BitVec 64) : BitVec.ofInt 64 (a.toNat : Int) = a := by simp
theorem andw (a b : BitVec 64) : bits .and .u64 (a.toNat : Int) (b.toNat : Int) = ((a &&& b).toNat : Int) := by
 show IntKind.u64.wrap ((BitVec.ofInt 64 (a.toNat : Int) &&& BitVec.ofInt 64 (b.toNat : Int)).toNat : Nat) = _
 rw [ofn, ofn]
 exact wrapu _ (a &&& b).isLt
theorem orw (a b : BitVec 64) : bits .or .u64 (a.toNat : Int) (b.toNat : Int) = ((a ||| b).toNat : Int) := by
 show IntKind.u64.wrap ((BitVec.ofInt 64 (a.toNat : Int) ||| BitVec.ofInt 64 (b.toNat : Int)).toNat : Nat) = _
 rw [ofn, ofn]
 exact wrapu _ (a ||| b).isLt
theorem nats_succ {F : List Int} {m q : Nat} (hlt : m < F.length) (h : F[m]?.getD 0 = (q : Int)) : (F.take (m + 1)).map Int.toNat = (F.take m).map Int.toNat ++ [q] := by
 rw [take_succ' F m hlt, List.map_append, h]; simp
set_option maxHeartbeats 4000000 in
theorem freeOk_any (s2 : Option Addr) (c2 : Nat) (F : List Int) (n : Nat) (w : World) (h2 : Ints w s2 F) (hn : n ≤ 2000) (hl : F.length ≤ 1048576) :
  Calls Tryz.prog 121 #[.slice s2 F.length c2, .int .i64 n] w fun e w' => e = .returned (.bool (freeB F n)) ∧ Below w.heap.size w w' := by
 have hal := alloc_old
 have haf := alloc_oldf
 go_enter Tryz.func121, Tryz.ntmps121
 go_wp2_with fail; go_loopw [12] (fun i wr => ∃ k : Nat, k ≤ F.length ∧ i = .int .i64 k ∧ (∃ once twice, Hid (Bits ((F.take k).map Int.toNat) once twice) ∧ Blk wr w.heap.size (wordsOf once) 210 ∧ Blk wr (w.heap.size + 1) (wordsOf twice) 210) ∧ Hid (∀ f ∈ F.take k, 0 ≤ f ∧ f < n) ∧ Below w.heap.size w wr) (fun i _ => F.length - (intOf i).toNat)
 case atStart =>
  refine ⟨0, Nat.zero_le _, rfl, ⟨List.replicate 32 0, List.replicate 32 0, bits_nil, ?_, ?_⟩, by simp [Hid], ?_⟩
  ·
   rw [words_zero]; exact (Blk.new w _ _).alloc _
  ·
   rw [words_zero]; exact Blk.new' _ _ _ (by simp)
  exact blq
 obtain ⟨m, hm, rfl, ⟨once, twice, hbits, b0, b1⟩, hr, hbel⟩ := hrel
 by_cases hlt : m < F.length
 ·
  obtain ⟨pb, po, rfl, hp, hc⟩ := h2.get hlt
  obtain ⟨x, hx⟩ : ∃ x, Hid (F[m]?.getD 0 = x) := ⟨_, rfl⟩
  have d1 : wr.cell? ⟨pb, po + m, none⟩ = some (.int .i64 x) := by rw [← hx.out]; exact (hbel.cell (p := ⟨pb, po + m, none⟩) hp).trans (hc m hlt)
  clear hc h2; by_cases hin : 0 ≤ x ∧ x < n
  ·
   obtain ⟨q, rfl⟩ : ∃ q : Nat, x = (q : Int) := ⟨x.toNat, by omega⟩
   have hq : q < n := by omega
   have e1 := tmod64 q
   have e2 := tdiv64 q
   obtain ⟨d, hd⟩ : ∃ d, Hid (q / 64 = d) := ⟨_, rfl⟩
   obtain ⟨r, hr'⟩ : ∃ r, Hid (q % 64 = r) := ⟨_, rfl⟩
   rw [hd.out] at e2
   rw [hr'.out] at e1
   have hd32 : d < 32 := by have := hd.out; omega
   have hr64 : r < 64 := by have := hr'.out; omega
   obtain ⟨ov, hov⟩ : ∃ o, Hid (once.getD d 0 = o) := ⟨_, rfl⟩
   obtain ⟨tv, htv⟩ : ∃ o, Hid (twice.getD d 0 = o) := ⟨_, rfl⟩
   have k0 : wr.cell? ⟨w.heap.size, d, none⟩ = some (.int .u64 (ov.toNat : Int)) := by rw [b0.cell, words_cell (by have := hbits.out.1; omega), hov.out]
   have k1 : wr.cell? ⟨w.heap.size + 1, d, none⟩ = some (.int .u64 (tv.toNat : Int)) := by rw [b1.cell, words_cell (by have := hbits.out.2.1; omega), htv.out]
   have f0 := b0.frozen d
   have f1 := b1.frozen d
   obtain ⟨bt, hbt⟩ : ∃ b, Hid ((1#64) <<< r = b) := ⟨_, rfl⟩
   obtain ⟨av, hav⟩ : ∃ b, Hid (ov &&& bt = b) := ⟨_, rfl⟩
   obtain ⟨tv', htv'⟩ : ∃ b, Hid (tv ||| av = b) := ⟨_, rfl⟩
   obtain ⟨ov', hov'⟩ : ∃ b, Hid (ov ||| bt = b) := ⟨_, rfl⟩
   have g1 := bitw hr64
   have g2 := andw ov bt
   have g3 := orw tv av
   have g4 := orw ov bt
   rw [hbt.out] at g1
   rw [hav.out] at g2
   rw [htv'.out] at g3
   rw [hov'.out] at g4
   have hstep : Hid (Bits ((F.take (m + 1)).map Int.toNat) (once.set d ov') (twice.set d tv')) := by
    have := bits_step (q := q) (by omega) hbits.out
    rw [hd.out, hr'.out, hov.out, htv.out, hbt.out, hav.out, htv'.out, hov'.out, ← nats_succ hlt hx.out] at this
    exact this
   have hrng : Hid (∀ f ∈ F.take (m + 1), 0 ≤ f ∧ f < n) := by
    intro g hg
    rw [take_succ' F m hlt, List.mem_append] at hg
    rcases hg with hg | hg
    ·
     exact hr.out g hg
    simp at hg; subst hg; rw [hx.out]; exact hin
   have t0 : decide ((q : Int) < 0) = false := by simp
   have t1 : decide (n ≤ q) = false := by simp; omega
   go_wp2_with fail; go_region
   go_wp2_with fail; go_roundw
   case rel =>
    refine ⟨m + 1, by omega, by go_num, ⟨once.set d ov', twice.set d tv', hstep, ?_, ?_⟩, hrng, ?_⟩
    ·
     rw [← words_set]
     exact Blk.set (Blk.other (w := wr) b0 (by omega) _ _) _ _
    ·
     rw [← words_set]
     exact Blk.other (Blk.set (w := wr) b1 _ _) (by omega) _ _
    exact blq
   case measure => simp [intOf]; omega
  have hbad : Hid (freeB F n = false) := by
   simp only [Hid, freeB, decide_eq_false_iff_not]
   intro g
   have := g.1 _ (getD_mem hlt)
   rw [hx.out] at this
   exact hin this
  by_cases i1 : x < 0
  ·
   clear hin; go_wp2_with fail; go_ret; refine ⟨ret_bool' hbad.out.symm, ?_⟩
   exact blq
  have i2 : (n : Int) ≤ x := by omega
  clear hin; go_wp2_with fail; go_ret; refine ⟨ret_bool' hbad.out.symm, ?_⟩
  exact blq
 have hall := hr.out
 have hb := hbits.out
 rw [List.take_of_length_le (by omega)] at hall hb
 have hiff := bits_end (fun q hq => by
  obtain ⟨f, hf, rfl⟩ := List.mem_map.1 hq
  have := hall f hf; omega) hb
 rw [nodup_nat (fun f hf => (hall f hf).1)] at hiff
 have hfree : Hid (freeB F n = decide (twice = List.replicate 32 0)) := by
  simp only [Hid, freeB]
  rw [Bool.eq_iff_iff]
  simp only [decide_eq_true_eq]
  exact ⟨fun h => hiff.2 h.2, fun h => ⟨hall, hiff.1 h⟩⟩
 clear hall hb hiff hr; have hlen := hbits.out.2.1
 have hcmp := words_equal twice hlen wr
 rw [words_zero] at hcmp
 go_wp2_with (refine wpList_words _ rfl (.tmp 6) rfl _ rfl twice hlen b1 ?_)
 go_ret; refine ⟨ret_bool' hfree.out.symm, ?_⟩
 exact blq
set_option maxHeartbeats 2000000 in
theorem implEntsOk_any (s1 s2 : Option Addr) (c1 c2 : Nat) (G F : List Int) (w : World) (h1 : Ints w s1 G) (h2 : Ints w s2 F) (hl : F.length ≤ 1048576) :
  Calls Tryz.prog 97 #[.agg #[.slice s1 G.length c1, .slice s2 F.length c2]] w fun e w' => e = .returned (.bool (okE G F)) ∧ Below w.heap.size w w' := by
 have hal := alloc_old
 have haf := alloc_oldf
 have k0 := Blk.new w #[.slice s1 G.length c1, .slice s2 F.length c2] 36
 by_cases hn : G.length ≤ 2000
 ·
  have t1 : decide ((G.length : Int) ≤ 2000) = true := by simp; omega
  have E : Hid (okE G F = (gensB G && freeB F G.length)) := by simp [Hid, okE_eq, hn]
  cases hg : gensB G
  ·
   rw [hg] at E
   go_enter Tryz.func97, Tryz.ntmps97
   go_wp2_with fail; refine (gensOk_any s1 c1 G _ (h1.later blq) hn).mono ?_
   rintro e w1 ⟨rfl, hb1⟩
   rw [hg]
   go_wp2_with fail; go_ret; refine ⟨ret_bool' E.out.symm, ?_⟩
   exact blq
  rw [hg] at E
  go_enter Tryz.func97, Tryz.ntmps97
  go_wp2_with fail; refine (gensOk_any s1 c1 G _ (h1.later blq) hn).mono ?_
  rintro e w1 ⟨rfl, hb1⟩
  rw [hg]
  obtain ⟨x0, x1, x2⟩ := (k0.later hb1).two
  go_wp2_with fail; refine (freeOk_any s2 c2 F G.length _ (h2.later blq) hn hl).mono ?_
  rintro e w2 ⟨rfl, hb2⟩
  go_wp2_with fail; go_ret; refine ⟨ret_bool' (by rw [E.out]; simp), ?_⟩
  exact blq
 have t1 : decide ((G.length : Int) ≤ 2000) = false := by simp; omega
 have E : Hid (okE G F = false) := by simp [Hid, okE_eq, hn]
 go_enter Tryz.func97, Tryz.ntmps97
 go_wp2_with fail; go_ret; refine ⟨ret_bool' E.out.symm, ?_⟩
 exact blq
end
section
open Go.RowKit
set_option maxHeartbeats 1000000 in
theorem entAt_any (s1 s2 : Option Addr) (c1 c2 : Nat) (G F : List Int) (q : Nat) (x : Int) (w : World) (h1 : Ints w s1 G) (hq : q < G.length) (hx : G[q]?.getD 0 = x) (l1 : G.length ≤ 1048576) :
  Calls Tryz.prog 109 #[.agg #[.slice s1 G.length c1, .slice s2 F.length c2], .int .i64 q] w fun e w' => e = .returned (.agg #[.int .i64 q, .int .i64 x]) ∧ Below w.heap.size w w' := by
 have hal := alloc_old
 have haf := alloc_oldf
 obtain ⟨x0, x1, x2⟩ := (Blk.new w #[.slice s1 G.length c1, .slice s2 F.length c2] 36).two
 obtain ⟨pb, po, rfl, hp, hc⟩ := h1.get hq
 have d1 : w.cell? ⟨pb, po + q, none⟩ = some (.int .i64 x) := by rw [← hx]; exact hc q hq
 clear hc hx h1; go_enter Tryz.func109, Tryz.ntmps109
 go_wp2_with fail; refine bodyPost_ret (v := .agg #[.int .i64 q, .int .i64 x]) (by simp [results, Tryz.results109, go_sem]) rfl ⟨rfl, ?_⟩
 exact blq
def ecells (L : List (Int × Int)) : List Value := L.flatMap fun p => [.int .i64 p.1, .int .i64 p.2]
theorem ecells_app (L M : List (Int × Int)) : ecells (L ++ M) = ecells L ++ ecells M := by simp [ecells]
theorem ecells_len : ∀ L : List (Int × Int), (ecells L).length = L.length * 2
 | [] => rfl
 | p :: L => by
  have := ecells_len L
  simp [ecells] at this ⊢; omega
theorem ecells_get : ∀ (L : List (Int × Int)) (j : Nat) (p : Int × Int), L[j]? = some p → (ecells L)[2 * j]? = some (.int .i64 p.1) ∧ (ecells L)[2 * j + 1]? = some (.int .i64 p.2)
 | q :: L, 0, p, h => by
  simp at h; subst h; exact ⟨rfl, rfl⟩
 | q :: L, j + 1, p, h => by
  have := ecells_get L j p (by simpa using h)
  have e : ecells (q :: L) = .int .i64 q.1 :: .int .i64 q.2 :: ecells L := rfl
  rw [e, show 2 * (j + 1) = 2 * j + 1 + 1 by omega, show 2 * j + 1 + 1 + 1 = (2 * j + 1) + 1 + 1 by omega]
  simpa using this
def ERow (w : World) (B : Nat) (v : Value) (L : List (Int × Int)) : Prop := w.ownsRow B 42 2 v L.length (ecells L)
theorem ERow.nil (w : World) (B : Nat) : ERow w B (.slice none 0 0) [] := World.ownsRow_nil _ _ _ _
theorem ERow.form {w : World} {B : Nat} {v : Value} {L : List (Int × Int)} (h : ERow w B v L) :
  (v = .slice none 0 0 ∧ L = []) ∨ ∃ g cap, v = .slice (some ⟨g, 0, none⟩) L.length cap ∧ B ≤ g ∧ g < w.heap.size ∧ ∀ j p, L[j]? = some p → w.cell? ⟨g, 2 * j, none⟩ = some (.int .i64 p.1) ∧ w.cell? ⟨g, 2 * j + 1, none⟩ = some (.int .i64 p.2) ∧ w.frozen? ⟨g, 2 * j, none⟩ = false ∧ w.frozen? ⟨g, 2 * j + 1, none⟩ = false := by
 rcases h.2 with ⟨h1, h2⟩ | ⟨g, cap, cur, rfl, hb, hg, r⟩
 ·
  exact Or.inl ⟨h1, List.length_eq_zero_iff.1 h2⟩
 refine Or.inr ⟨g, cap, rfl, hb, (Array.getElem?_eq_some_iff.1 hg).1, fun j p hp => ?_⟩
 have hj : j < L.length := (List.getElem?_eq_some_iff.1 hp).1
 obtain ⟨e1, e2⟩ := ecells_get L j p hp
 exact ⟨by rw [World.ownsRow.cellAt h (2 * j) (by omega), e1], by rw [World.ownsRow.cellAt h (2 * j + 1) (by omega), e2], World.ownsRow.frozenAt h _, World.ownsRow.frozenAt h _⟩
theorem ERow.mono {w : World} {B B' : Nat} {v : Value} {L : List (Int × Int)} (h : ERow w B v L) (hB : B' ≤ B) : ERow w B' v L := by
 refine ⟨h.1, ?_⟩
 rcases h.2 with h' | ⟨g, cap', cur, h', hb, r⟩
 ·
  exact Or.inl h'
 exact Or.inr ⟨g, cap', cur, h', Nat.le_trans hB hb, r⟩
theorem grown_of_below {w w' : World} (hb : Below w.heap.size w w') : w.grownBy w' none := ⟨hb.os, hb.tape, hb.output, hb.size, fun k hk _ => hb.block k hk⟩
theorem ERow.later {w w' : World} {B : Nat} {v : Value} {L : List (Int × Int)} (h : ERow w B v L) (hb : Below w.heap.size w w') : ERow w' B v L := by
 refine World.ownsRow.kept h (grown_of_below hb) ?_
 cases v.ownBlock with
 | none => exact Or.inl rfl
 | some b => exact Or.inr (by simp)
theorem ERow.lt {w : World} {B : Nat} {v : Value} {L : List (Int × Int)} (h : ERow w B v L) : ∀ k, v.ownBlock = some k → B ≤ k ∧ k < w.heap.size := World.ownsRow.lt h
theorem Blk.kept {w w' : World} {n b : Nat} {c : Array Value} {t : TypeId} (h : Blk w n c t) (hg : w.grownBy w' (some b)) (hn : ¬ n = b) : Blk w' n c t := by
 unfold Blk; rw [hg.block n h.lt (by simp; exact hn)]; exact h
theorem ERow.kept {w w' : World} {B b : Nat} {v : Value} {L : List (Int × Int)} (h : ERow w B v L) (hg : w.grownBy w' (some b)) (hn : ¬ v.ownBlock = some b) : ERow w' B v L := World.ownsRow.kept h hg (Or.inr hn)
theorem Row.kept {w w' : World} {B b g n cap : Nat} {G : List Int} (h : Row w B (some ⟨g, 0, none⟩) n cap G) (hg : w.grownBy w' (some b)) (hn : ¬ g = b) : Row w' B (some ⟨g, 0, none⟩) n cap G := World.ownsRow.kept h hg (Or.inr (by simp [Value.ownBlock]; exact hn))
theorem grown_refl (w : World) (r : Option Nat) : w.grownBy w r := ⟨rfl, rfl, rfl, Nat.le_refl _, fun _ _ _ => rfl⟩
theorem grown_trans {a b c : World} {r : Option Nat} (h : a.grownBy b r) (g : b.grownBy c r) : a.grownBy c r :=
 ⟨g.os.trans h.os, g.tape.trans h.tape, g.output.trans h.output, Nat.le_trans h.size g.size, fun k hk hr => (g.block k (Nat.lt_of_lt_of_le hk h.size) hr).trans (h.block k hk hr)⟩
theorem ecells_set (A : List (Int × Int)) (p : Int × Int) (C : List (Int × Int)) (a b : Int) : ((ecells (A ++ p :: C)).set (2 * A.length) (.int .i64 a)).set (2 * A.length + 1) (.int .i64 b) = ecells (A ++ (a, b) :: C) := by
 rw [ecells_app, ecells_app]
 have e1 : ecells (p :: C) = .int .i64 p.1 :: .int .i64 p.2 :: ecells C := rfl
 have e2 : ecells ((a, b) :: C) = .int .i64 a :: .int .i64 b :: ecells C := rfl
 have l : (ecells A).length = 2 * A.length := by rw [ecells_len]; omega
 rw [e1, e2, List.set_append_right _ _ (by omega), l, Nat.sub_self, List.set_append_right _ _ (by omega), l, show 2 * A.length + 1 - 2 * A.length = 1 by omega]
 rfl
theorem ERow.put {w : World} {B g cap : Nat} {L : List (Int × Int)} {A : List (Int × Int)} {p : Int × Int} {C : List (Int × Int)} (h : ERow w B (.slice (some ⟨g, 0, none⟩) L.length cap) L) (hL : L = A ++ p :: C) (a b : Int) :
  ERow ((w.setCell ⟨g, 2 * A.length, none⟩ (.int .i64 a)).setCell ⟨g, 2 * A.length + 1, none⟩ (.int .i64 b)) B (.slice (some ⟨g, 0, none⟩) L.length cap) (A ++ (a, b) :: C) ∧
  w.grownBy ((w.setCell ⟨g, 2 * A.length, none⟩ (.int .i64 a)).setCell ⟨g, 2 * A.length + 1, none⟩ (.int .i64 b)) (some g) := by
 obtain ⟨h1, g1⟩ := World.ownsRow.stored h (2 * A.length) (.int .i64 a)
 obtain ⟨h2, g2⟩ := World.ownsRow.stored h1 (2 * A.length + 1) (.int .i64 b)
 refine ⟨?_, grown_trans g1 g2⟩
 have e : (A ++ (a, b) :: C).length = L.length := by rw [hL]; simp
 unfold ERow
 rw [e, ← ecells_set A p C a b, ← hL]
 exact h2
end
section
open Go.RowKit
def EList (w : World) (v : Value) (L : List (Int × Int)) : Prop :=
 (∃ s c, v = .slice s 0 c ∧ L = []) ∨ ∃ g c, v = .slice (some ⟨g, 0, none⟩) L.length c ∧ g < w.heap.size ∧ ∀ j, j < L.length → w.cell? ⟨g, j * 2, none⟩ = some (.int .i64 (L[j]?.getD (0, 0)).1) ∧ w.cell? ⟨g, j * 2 + 1, none⟩ = some (.int .i64 (L[j]?.getD (0, 0)).2)
theorem EList.later {w w' : World} {v : Value} {L : List (Int × Int)} (h : EList w v L) (hb : Below w.heap.size w w') : EList w' v L := by
 rcases h with h0 | ⟨g, c, rfl, h1, h2⟩
 ·
  exact Or.inl h0
 exact Or.inr ⟨g, c, rfl, Nat.lt_of_lt_of_le h1 hb.size, fun j hj => ⟨(hb.cell (p := ⟨g, j * 2, none⟩) h1).trans (h2 j hj).1, (hb.cell (p := ⟨g, j * 2 + 1, none⟩) h1).trans (h2 j hj).2⟩⟩
theorem ERow.list {w : World} {B : Nat} {v : Value} {L : List (Int × Int)} (h : ERow w B v L) : EList w v L := by
 rcases h.form with ⟨rfl, rfl⟩ | ⟨g, cap, rfl, h1, h2, h3⟩
 ·
  exact Or.inl ⟨none, 0, rfl, rfl⟩
 refine Or.inr ⟨g, cap, rfl, h2, fun j hj => ?_⟩
 obtain ⟨a, b, _, _⟩ := h3 j (L[j]?.getD (0, 0)) (by simp [hj])
 rw [Nat.mul_comm j 2]
 exact ⟨a, b⟩
set_option maxHeartbeats 1000000 in
theorem eqEnt_any (a b c d : Int) (w : World) :
  Calls Tryz.prog 13 #[.agg #[.int .i64 a, .int .i64 b], .agg #[.int .i64 c, .int .i64 d]] w fun e w' => e = .returned (.bool (a == c && b == d)) ∧ Below w.heap.size w w' := by
 have hal := alloc_old
 have haf := alloc_oldf
 cases h1 : ((a == c) : Bool)
 ·
  have g1 : (a != c) = true := by simp [bne, h1]
  go_enter Tryz.func13, Tryz.ntmps13
  go_wp2_with fail; go_ret; refine ⟨rfl, ?_⟩
  exact blq
 have g1 : (a != c) = false := by simp [bne, h1]
 cases h2 : ((b == d) : Bool)
 ·
  have g2 : (b != d) = true := by simp [bne, h2]
  go_enter Tryz.func13, Tryz.ntmps13
  go_wp2_with fail; go_ret; refine ⟨rfl, ?_⟩
  exact blq
 have g2 : (b != d) = false := by simp [bne, h2]
 go_enter Tryz.func13, Tryz.ntmps13
 go_wp2_with fail; go_ret; refine ⟨rfl, ?_⟩
 exact blq
theorem EList.get {w : World} {v : Value} {L : List (Int × Int)} (h : EList w v L) {k : Nat} (hk : k < L.length) :
  ∃ g c, v = .slice (some ⟨g, 0, none⟩) L.length c ∧ ∀ w', Below w.heap.size w w' → w'.cell? ⟨g, k * 2, none⟩ = some (.int .i64 (L[k]?.getD (0, 0)).1) ∧ w'.cell? ⟨g, k * 2 + 1, none⟩ = some (.int .i64 (L[k]?.getD (0, 0)).2) := by
 rcases h with ⟨s, c, _, rfl⟩ | ⟨g, c, rfl, h1, h2⟩
 ·
  simp at hk
 exact ⟨g, c, rfl, fun w' hb => ⟨(hb.cell (p := ⟨g, k * 2, none⟩) h1).trans (h2 k hk).1, (hb.cell (p := ⟨g, k * 2 + 1, none⟩) h1).trans (h2 k hk).2⟩⟩
theorem EList.shape {w : World} {v : Value} {L : List (Int × Int)} (h : EList w v L) : ∃ s c, v = .slice s L.length c := by
 rcases h with ⟨s, c, rfl, rfl⟩ | ⟨g, c, rfl, _⟩
 ·
  exact ⟨s, c, rfl⟩
 exact ⟨_, c, rfl⟩
end
end Go.Proofs.YtbgeobpdojmdaaaGreat
