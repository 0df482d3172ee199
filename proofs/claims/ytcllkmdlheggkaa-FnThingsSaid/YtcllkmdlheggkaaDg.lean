import Derived.Test.YtcllkmdlheggkaaDf
import Derived.Test.YtcllkmdlheggkaaGa
import Derived.Test.YtcllkmdlheggkaaEr
namespace Go.Proofs.Ytcllkmdlheggkaa
open Go.RowKit
set_option linter.unusedVariables false
set_option linter.unusedSimpArgs false

theorem count_in {F : List Int} {n : Nat} (hin : ∀ f ∈ F, 0 ≤ f ∧ f < (n : Int)) (hn : F.Nodup) : ((List.range n).filter fun (i : Nat) => decide ((i : Int) ∈ F)).length = F.length := by
  have hp : ((List.range n).filter fun (i : Nat) => decide ((i : Int) ∈ F)).Perm (F.map Int.toNat) := by
    rw [List.perm_ext_iff_of_nodup (List.nodup_range.filter _) ((nodup_nat fun f hf => (hin f hf).1).2 hn)]
    intro a
    simp only [List.mem_filter, List.mem_range, decide_eq_true_eq, List.mem_map]
    constructor
    · rintro ⟨_, h⟩
      exact ⟨(a : Int), h, by simp⟩
    · rintro ⟨f, hf, rfl⟩
      have := hin f hf
      refine ⟨by omega, ?_⟩
      rw [show ((f.toNat : Nat) : Int) = f by omega]
      exact hf
  rw [hp.length_eq, List.length_map]
theorem filter_len (l : List Nat) (p : Nat → Bool) : (l.filter fun i => !p i).length + (l.filter p).length = l.length := by
  induction l with
  | nil => rfl
  | cons a l ih => cases h : p a <;> simp [h] <;> omega
theorem listB_len {G F : List Int} (h : okE G F = true) : (listB G F).length = G.length - F.length ∧ F.length ≤ G.length := by
  have h0 := (okE_iff G F).1 h
  have hl := (okE_parts h).2.1
  refine ⟨?_, hl⟩
  have h1 := filter_len (List.range G.length) (fun (i : Nat) => decide ((i : Int) ∈ F))
  rw [count_in h0.2.2.1 h0.2.2.2, List.length_range] at h1
  simp only [listB, h, if_true, LK, List.length_map]
  omega

/-- what becomes of a thing that is taken, given back and taken again. -/
structure Story (G F : List Int) (q : Nat) (x : Int) (Ga Fa : List Int) : Prop where
  ok : okE G F = true
  take : takeB G F = (Ga, Fa, ((q : Int), x), 0)
  dead : liveB G F (q : Int) x = false
  oka : okE Ga Fa = true
  live : liveB Ga Fa (q : Int) x = true
  give : giveB Ga Fa (q : Int) x = (Ga.set q (ng x), Fa ++ [(q : Int)], 0)
  okb : okE (Ga.set q (ng x)) (Fa ++ [(q : Int)]) = true
  gone : liveB (Ga.set q (ng x)) (Fa ++ [(q : Int)]) (q : Int) x = false
  again : takeB (Ga.set q (ng x)) (Fa ++ [(q : Int)]) = (Ga.set q (ng x), Fa, ((q : Int), ng x), 0)
  old : liveB (Ga.set q (ng x)) Fa (q : Int) x = false
  new : liveB (Ga.set q (ng x)) Fa (q : Int) (ng x) = true
  gen : ¬ ng x = x
  la : (listB Ga Fa).length = (listB G F).length + 1
  lb : (listB (Ga.set q (ng x)) (Fa ++ [(q : Int)])).length = (listB G F).length
  len : (listB G F).length ≤ 2000 ∧ Ga.length ≤ 2000 ∧ Fa.length ≤ 2000

theorem story_of {G F Ga Fa : List Int} {q : Nat} {x : Int} (ok : okE G F = true) (ht : takeB G F = (Ga, Fa, ((q : Int), x), 0)) (dead : l2B G F (q : Int) x = false) (oka : okE Ga Fa = true) (hq : q < Ga.length) (hx : Ga[q]?.getD 0 = x) (hn : ¬ (q : Int) ∈ Fa) (hl : Ga.length - Fa.length = G.length - F.length + 1) : Story G F q x Ga Fa := by
  have h0 := (okE_iff Ga Fa).1 oka
  have hxin : 0 ≤ x ∧ x ≤ 1000000 := h0.2.1 x (by rw [← hx]; exact getD_mem hq)
  have hng : ¬ ng x = x := by unfold ng; split <;> omega
  have okb := okE_give oka hq hn hxin
  have okc := okE_set oka q (ng x) (ng_in hxin)
  have hx' : Ga[q] = x := by
    have := hx
    rw [List.getElem?_eq_getElem hq] at this
    simpa using this
  have live : l2B Ga Fa (q : Int) x = true := by simp [l2B, hq, hn, hx']
  have hset : (Ga.set q (ng x))[q]?.getD 0 = ng x := by simp [hq]
  have l1 := listB_len ok
  have l2 := listB_len oka
  have l3 := listB_len okb
  refine ⟨ok, ht, by simp [liveB, dead], oka, by simp [liveB, oka, live], by simp [giveB, oka, live], okb, ?_, ?_, ?_, ?_, hng, by omega, ?_, ?_⟩
  · simp [liveB, l2B]
  · simp only [takeB, okb, if_true]
    rw [if_pos (by simp)]
    simp [hq]
  · simp only [liveB, okc, Bool.true_and]
    simp [l2B, hq, hng]
  · simp only [liveB, okc, Bool.true_and]
    simp [l2B, hq, hn]
  · rw [l3.1]; simp; omega
  · have := (okE_parts ok).1
    have := (okE_parts oka)
    omega

theorem story {G F : List Int} (h : (takeB G F).2.2.2 = 0) : ∃ q x Ga Fa, Story G F q x Ga Fa := by
  have hok : okE G F = true := by
    cases hk : okE G F
    · simp [takeB, hk] at h
    · rfl
  have h0 := (okE_iff G F).1 hok
  have hfl := (okE_parts hok).2.1
  by_cases hF : 0 < F.length
  · obtain ⟨q, hq1, hq2⟩ := last_inE hok hF
    have ht : takeB G F = (G, F.dropLast, ((q : Int), G[q]?.getD 0), 0) := by
      simp only [takeB, hok, if_true, if_pos hF, hq1]; simp
    have hmem : (q : Int) ∈ F := by rw [← hq1, ← last_eq hF]; exact getD_mem (by omega)
    have hne : F ≠ [] := by intro e; rw [e] at hF; simp at hF
    have hsplit : F = F.dropLast ++ [(q : Int)] := by
      have h1 := List.dropLast_concat_getLast hne
      have h2 : F.getLast hne = (q : Int) := by
        rw [← hq1, List.getLastD_eq_getLast?, List.getLast?_eq_some_getLast hne]; rfl
      rw [h2] at h1
      exact h1.symm
    have hnd : ¬ (q : Int) ∈ F.dropLast := by
      have := h0.2.2.2
      rw [hsplit, List.nodup_append] at this
      intro hm
      exact this.2.2 _ hm _ (by simp) rfl
    refine ⟨q, G[q]?.getD 0, G, F.dropLast, story_of hok ht (by simp [l2B, hmem]) ?_ hq2 rfl hnd (by simp; omega)⟩
    rw [okE_iff]
    exact ⟨h0.1, h0.2.1, fun f hf => h0.2.2.1 f ((List.dropLast_sublist F).subset hf), nodup_dropLast h0.2.2.2⟩
  · have e : F = [] := List.length_eq_zero_iff.1 (by omega)
    subst e
    by_cases hG : 2000 ≤ G.length
    · simp [takeB, hok, hG] at h
    · have ht : takeB G [] = (G ++ [0], [], ((G.length : Int), 0), 0) := by simp [takeB, hok, hG]
      exact ⟨G.length, 0, G ++ [0], [], story_of hok ht (by simp [l2B]) (okE_push hok (by omega)) (by simp) (by simp) (by simp) (by simp)⟩

theorem nostory {G F : List Int} (h : ¬ (takeB G F).2.2.2 = 0) : (takeB G F).1 = G ∧ (takeB G F).2.1 = F := by
  unfold takeB at h ⊢
  split
  · rename_i hk
    rw [if_pos hk] at h
    split
    · rename_i hF; rw [if_pos hF] at h; simp at h
    · rename_i hF
      rw [if_neg hF] at h
      split
      · exact ⟨rfl, rfl⟩
      · rename_i hG; rw [if_neg hG] at h; simp at h
  · exact ⟨rfl, rfl⟩
end Go.Proofs.Ytcllkmdlheggkaa
