import Derived.Test.YtaakjcjhmeeclaaK8
import Derived.Test.YtaakjcjhmeeclaaK6b
namespace Go.Proofs.Ytaakjcjhmeeclaa
open Go.RowKit
set_option linter.unusedVariables false
set_option linter.unusedSimpArgs false
set_option maxRecDepth 100000

set_option maxHeartbeats 8000000 in
theorem equalFE_any (s t : Option Addr) (c d : Nat) (L M : List Ef) (B C : Nat) (w : World) (hs : Els 10 cEff w B s L) (ht : Els 10 cEff w C t M) (hl : kEfs L) (hl2 : kEfs M) :
    Calls Try.prog 22 #[.slice s L.length c, .slice t M.length d, .func (Fn.func 23) #[] #[]] w fun e w' => e = .returned (.bool (sl eB L M)) ∧ Below w.heap.size w w' := by
  have hal := alloc_old
  have haf := alloc_oldf
  obtain ⟨hl, hls⟩ := hl
  obtain ⟨hl2, hls2⟩ := hl2
  have HLS : Hid (∀ l ∈ L, kEf l) := hls
  have HMS : Hid (∀ l ∈ M, kEf l) := hls2
  clear hls hls2
  by_cases hn : L.length = M.length
  · have t0 : ((L.length : Int) != (M.length : Int)) = false := by simp [hn]
    have HN : Hid (L.length = M.length) := hn
    clear hn
    go_enter Try.func22, Try.ntmps22
    go_wp2_with fail
    clear t0
    go_loopw [17] (fun i wr => ∃ k : Nat, k ≤ L.length ∧ i = .int .i64 k ∧ Hid (∀ (j : Nat) a b, j < k → L[j]? = some a → M[j]? = some b → eB a b = true) ∧ Below w.heap.size w wr) (fun i _ => L.length - (intOf i).toNat)
    case atStart => exact ⟨0, Nat.zero_le _, rfl, fun j a b hj => by omega, Below.refl _ _⟩
    case round =>
      obtain ⟨k, hk, rfl, hall, hb⟩ := hrel
      by_cases hlt : k < L.length
      · have hltM : k < M.length := by have := HN.out; omega
        obtain ⟨a, ha⟩ := get_some hlt
        obtain ⟨b, hb0⟩ := get_some hltM
        obtain ⟨b1, o1, rfl, _, hpb1, s0, c0, s1, c1, s2, c2, s3, c3, s4, c4, s5, c5, s6, c6, s7, c7, e0, e1, e2, e3, e4, e5, e6, e7, e8, e9, PA⟩ := eEff_cells (hs.later cEff_keeps hb) ha
        obtain ⟨b2, o2, rfl, _, hpb2, t0, d0, t1, d1, t2, d2, t3, d3, t4, d4, t5, d5, t6, d6, t7, d7, f0, f1, f2, f3, f4, f5, f6, f7, f8, f9, PB⟩ := eEff_cells (ht.later cEff_keeps hb) hb0
        have KA : Hid (kEf a) := HLS.out a (List.mem_of_getElem? ha)
        have KB : Hid (kEf b) := HMS.out b (List.mem_of_getElem? hb0)
        have HA : Hid (L[k]? = some a) := ha
        have HB : Hid (M[k]? = some b) := hb0
        have HPA : Hid (InE wr B s0 s1 s2 s3 s4 s5 s6 s7 a) := PA
        have HPB : Hid (InE wr C t0 t1 t2 t3 t4 t5 t6 t7 b) := PB
        clear hs ht ha hb0 PA PB
        obtain ⟨XA, XB, LX⟩ := blkTwoE wr #[.slice s0 a.l0.length c0, .slice s1 a.l1.length c1, .slice s2 a.l2.length c2, .slice s3 a.l3.length c3, .slice s4 a.l4.length c4, .slice s5 a.l5.length c5, .slice s6 a.l6.length c6, .slice s7 a.l7.length c7, .bool a.sp, .bool a.kl] #[.slice t0 b.l0.length d0, .slice t1 b.l1.length d1, .slice t2 b.l2.length d2, .slice t3 b.l3.length d3, .slice t4 b.l4.length d4, .slice t5 b.l5.length d5, .slice t6 b.l6.length d6, .slice t7 b.l7.length d7, .bool b.sp, .bool b.kl] 45 45
        go_wp2_with fail
        generalize hX : (wr.alloc (.cells #[.slice s0 a.l0.length c0, .slice s1 a.l1.length c1, .slice s2 a.l2.length c2, .slice s3 a.l3.length c3, .slice s4 a.l4.length c4, .slice s5 a.l5.length c5, .slice s6 a.l6.length c6, .slice s7 a.l7.length c7, .bool a.sp, .bool a.kl] 45)).alloc (.cells #[.slice t0 b.l0.length d0, .slice t1 b.l1.length d1, .slice t2 b.l2.length d2, .slice t3 b.l3.length d3, .slice t4 b.l4.length d4, .slice t5 b.l5.length d5, .slice t6 b.l6.length d6, .slice t7 b.l7.length d7, .bool b.sp, .bool b.kl] 45) = X at XA XB LX ⊢
        clear hX
        refine (effectSame_any s0 s1 s2 s3 s4 s5 s6 s7 t0 t1 t2 t3 t4 t5 t6 t7 c0 c1 c2 c3 c4 c5 c6 c7 d0 d1 d2 d3 d4 d5 d6 d7 a b B C _ (HPA.out.later LX) (HPB.out.later LX) KA.out KB.out).mono ?_
        rintro e w2 ⟨rfl, hb2⟩
        have LZ := bl_trans (bl_trans hb LX) hb2
        clear e0 f0 e1 f1 e2 f2 e3 f3 e4 f4 e5 f5 e6 f6 e7 f7 e8 f8 e9 f9 XA XB LX hb2
        cases hf : eB a b
        · have E0 : Hid (false = sl eB L M) := sl_at HA.out HB.out hf
          clear hf
          go_wp2_with fail
          go_ret
          exact ⟨ret_bool' E0.out, LZ⟩
        · have hst : Hid (∀ (j : Nat) a b, j < k + 1 → L[j]? = some a → M[j]? = some b → eB a b = true) := by
            intro j a' b' hj ha' hb'
            by_cases e : j = k
            · subst e
              rw [HA.out] at ha'
              rw [HB.out] at hb'
              cases ha'
              cases hb'
              exact hf
            · exact hall.out j a' b' (by omega) ha' hb'
          clear hf
          go_wp2_with fail
          go_roundw
          case rel => exact ⟨k + 1, by omega, by go_num, hst, LZ⟩
          case measure => simp [intOf]; omega
      · have E0 : Hid (true = sl eB L M) := sl_all HN.out (fun j a b hj ha hb => hall.out j a b (by omega) ha hb)
        go_wp2_with fail
        go_ret
        exact ⟨ret_bool' E0.out, hb⟩
  · have t0 : ((L.length : Int) != (M.length : Int)) = true := by simp; omega
    go_enter Try.func22, Try.ntmps22
    go_wp2_with fail
    go_ret
    exact ⟨ret_bool' (sl_len hn), Below.refl _ _⟩
end Go.Proofs.Ytaakjcjhmeeclaa
