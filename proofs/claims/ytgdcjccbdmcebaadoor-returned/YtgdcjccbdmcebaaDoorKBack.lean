/- A flow that was written is read back (P3, P5). -/
import Derived.Test.YtgdcjccbdmcebaaDoorKBytesM
import Derived.Test.YtgdcjccbdmcebaaDoorKFlowM
namespace Go.Proofs.YtgdcjccbdmcebaaDoor
open Go.RowKit

theorem nodeN_length (F : FlowD) (i : Nat) : (nodeN F i).length = 7 + F.an i := by simp [nodeN]; omega
theorem nodesN_pre (F : FlowD) (i n : Nat) (h : i ≤ n) : ∃ r, nodesN F n = nodesN F i ++ r := by
  induction n with
  | zero => obtain rfl : i = 0 := by omega
            exact ⟨[], by simp⟩
  | succ n ih =>
    by_cases e : i = n + 1
    · subst e; exact ⟨[], by simp⟩
    · obtain ⟨r, hr⟩ := ih (by omega)
      exact ⟨r ++ nodeN F n, by simp only [nodesN, hr, List.append_assoc]⟩
/-- Where node i begins among the numbers. -/
def idxN (F : FlowD) (i : Nat) : Nat := 2 + (nodesN F i).length
theorem idxN_succ (F : FlowD) (i : Nat) : idxN F (i + 1) = idxN F i + (7 + F.an i) := by
  unfold idxN
  simp only [nodesN, List.length_append, nodeN_length]
  omega
theorem flowN_at (F : FlowD) (i j : Nat) (hi : i < F.n) (hj : j < 7 + F.an i) : (flowN F)[idxN F i + j]? = (nodeN F i)[j]? := by
  obtain ⟨r, hr⟩ := nodesN_pre F (i + 1) F.n hi
  unfold flowN idxN
  rw [hr, show 2 + (nodesN F i).length + j = ([F.dl.toNat, F.n] : List Nat).length + ((nodesN F i).length + j) by simp; omega, List.getElem?_append_right (by omega), Nat.add_sub_cancel_left]
  simp only [nodesN, List.append_assoc]
  rw [List.getElem?_append_right (by omega), Nat.add_sub_cancel_left, List.getElem?_append_left (by rw [nodeN_length]; exact hj)]
theorem flowN_le {F : FlowD} (ht : OkTop F) (h : ∀ i, i < F.n → NatNode F i) : ∀ v ∈ flowN F, v ≤ 2097151 := by
  have h1 : ∀ k, k ≤ F.n → ∀ v ∈ nodesN F k, v ≤ 2097151 := by
    intro k
    induction k with
    | zero => intro _ v hv; cases hv
    | succ k ih =>
      intro hk v hv
      simp only [nodesN] at hv
      rcases List.mem_append.1 hv with hv | hv
      · exact ih (by omega) v hv
      · have hn := h k (by omega)
        obtain ⟨x1, x2, x3, x4, x5, x6, x7, x8⟩ := hn
        simp only [nodeN, List.mem_append, List.mem_cons, List.not_mem_nil, or_false, List.mem_map, List.mem_range] at hv
        rcases hv with (rfl | rfl | rfl | rfl | rfl | rfl | rfl) | ⟨j, hj, rfl⟩
        all_goals first | omega | (have := x8 j hj; omega)
  intro v hv
  simp only [flowN, List.mem_append, List.mem_cons, List.not_mem_nil, or_false] at hv
  have t1 := ht.dl2
  have t2 := ht.n2
  rcases hv with (rfl | rfl) | hv
  · omega
  · omega
  · exact h1 F.n (Nat.le_refl _) v hv

section
variable {F : FlowD}
theorem val_at (ht : OkTop F) (h : ∀ i, i < F.n → NatNode F i) (k v : Nat) (hk : (flowN F)[k]? = some v) : nxV (flowB F).length (byF (flowB F)) (nxN (flowB F).length (byF (flowB F)) k (.good 0 0)) = v := by
  rw [flowB_cat]
  obtain ⟨hlt, e⟩ := List.getElem?_eq_some_iff.1 hk
  rw [nxV_cat (flowN F) (flowN_le ht h) k hlt, e]
theorem st_at (ht : OkTop F) (h : ∀ i, i < F.n → NatNode F i) : ∀ i, i ≤ F.n → st (flowB F).length (byF (flowB F)) i = nxN (flowB F).length (byF (flowB F)) (idxN F i) (.good 0 0) := by
  intro i
  induction i with
  | zero => intro _; rfl
  | succ i ih =>
    intro hi
    have h1 := ih (by omega)
    have h2 : st (flowB F).length (byF (flowB F)) (i + 1) = ndS (flowB F).length (byF (flowB F)) (st (flowB F).length (byF (flowB F)) i) := rfl
    rw [h2, h1]
    have h3 := val_at ht h (idxN F i + 6) (F.an i) (by rw [flowN_at F i 6 (by omega) (by omega)]; rfl)
    rw [nxN_add] at h3
    unfold ndS
    rw [h3, ← nxN_add, idxN_succ]
theorem nd_at (ht : OkTop F) (h : ∀ i, i < F.n → NatNode F i) (i j v : Nat) (hi : i < F.n) (hj : j < 7 + F.an i) (hv : (nodeN F i)[j]? = some v) : nxV (flowB F).length (byF (flowB F)) (nxN (flowB F).length (byF (flowB F)) j (st (flowB F).length (byF (flowB F)) i)) = v := by
  rw [st_at ht h i (by omega), ← nxN_add]
  exact val_at ht h _ v (by rw [flowN_at F i j hi hj]; exact hv)

/-- The flow that is read is the one that was written; the reader comes to the end. -/
theorem back (ht : OkTop F) (h : ∀ i, i < F.n → NatNode F i) :
    (∃ s, stE (flowB F).length (byF (flowB F)) = .good (flowB F).length s) ∧ (flowOf (flowB F).length (byF (flowB F))).dl = F.dl ∧ (flowOf (flowB F).length (byF (flowB F))).n = F.n ∧ SameTo F (flowOf (flowB F).length (byF (flowB F))) F.n := by
  have hn : (flowOf (flowB F).length (byF (flowB F))).n = F.n := val_at ht h 1 F.n rfl
  have hd : (flowOf (flowB F).length (byF (flowB F))).dl = F.dl := by
    show ((nxV (flowB F).length (byF (flowB F)) (nxN (flowB F).length (byF (flowB F)) 0 (.good 0 0)) : Nat) : Int) = _
    rw [val_at ht h 0 F.dl.toNat rfl, Int.toNat_of_nonneg (by have := ht.dl1; omega)]
  refine ⟨?_, hd, hn, ?_⟩
  · unfold stE
    rw [hn, st_at ht h F.n (Nat.le_refl _)]
    have hl : idxN F F.n = (flowN F).length := by simp [idxN, flowN]; omega
    obtain ⟨s, hs⟩ := nxN_cat (flowN F) (flowN_le ht h) (idxN F F.n) (by omega)
    rw [hl, List.take_length] at hs
    rw [hl, flowB_cat]
    exact ⟨s, hs⟩
  · have key : ∀ (i j : Nat) (x : Int), i < F.n → j < 7 + F.an i → x = (x.toNat : Int) → (nodeN F i)[j]? = some x.toNat → x = ((nxV (flowB F).length (byF (flowB F)) (nxN (flowB F).length (byF (flowB F)) j (st (flowB F).length (byF (flowB F)) i)) : Nat) : Int) := fun i j x hi hj hx hv => by
      rw [nd_at ht h i j x.toNat hi hj hv]
      exact hx
    constructor
    · intro i hi; exact key i 0 (F.bu i) hi (by omega) (h i hi).bu.1 rfl
    · intro i hi; exact key i 1 (F.cl i) hi (by omega) (h i hi).cl.1 rfl
    · intro i hi; exact key i 2 (F.be i) hi (by omega) (h i hi).be.1 rfl
    · intro i hi; exact key i 3 (F.ba i) hi (by omega) (h i hi).ba.1 rfl
    · intro i hi; exact key i 4 (F.ca i) hi (by omega) (h i hi).ca.1 rfl
    · intro i hi; exact key i 5 (F.ji i) hi (by omega) (h i hi).ji.1 rfl
    · intro i hi; exact (nd_at ht h i 6 (F.an i) hi (by omega) rfl).symm
    · intro i hi j hj
      refine key i (7 + j) (F.af i j) hi (by omega) ((h i hi).af j hj).1 ?_
      unfold nodeN
      rw [List.getElem?_append_right (by simp)]
      simp [hj]
end
theorem nodesN_same {F G : FlowD} {k : Nat} (h : SameTo F G k) : ∀ j, j ≤ k → nodesN F j = nodesN G j := by
  intro j
  induction j with
  | zero => intro _; rfl
  | succ j ih =>
    intro hj
    simp only [nodesN, nodeN]
    rw [ih (by omega), h.bu j (by omega), h.cl j (by omega), h.be j (by omega), h.ba j (by omega), h.ca j (by omega), h.ji j (by omega), ← h.an j (by omega)]
    congr 2
    apply List.map_congr_left
    intro i hi
    rw [h.af j (by omega) i (List.mem_range.1 hi)]
theorem flowB_same {F G : FlowD} (hd : G.dl = F.dl) (hn : G.n = F.n) (h : SameTo F G F.n) : flowB G = flowB F := by
  rw [flowB_cat, flowB_cat]
  unfold flowN
  rw [hd, hn, nodesN_same h F.n (Nat.le_refl _)]
theorem FlowW.same {F G : FlowD} (h : FlowW F F.n) (hd : G.dl = F.dl) (hn : G.n = F.n) (hs : SameTo F G F.n) : FlowW G G.n := ⟨by rw [hd]; exact h.dl, fun i hi => (h.nodes i (by omega)).same hs (by omega)⟩
end Go.Proofs.YtgdcjccbdmcebaaDoor
