/- The flows that the statements without the document's answer make: a node more; what is well with all of them; pick and nth. -/
import Derived.Test.YtgdcjccbdmcebaaDoorWOwn
import Derived.Test.YtgdcjccbdmcebaaDoorHPick
namespace Go.Proofs.YtgdcjccbdmcebaaDoor
open Go.RowKit
set_option maxRecDepth 100000

/-- The i-th of them, or 0. -/
def nthI (n : Nat) (f : Nat → Int) (i : Nat) : Int := if i < n then f i else 0
theorem nthI_lo {w : World} {a : Option Addr} {n cap : Nat} {f : Nat → Int} (h : IntsIn w a n cap f) (i : Nat) : -9223372036854775808 ≤ nthI n f i ∧ nthI n f i ≤ 9223372036854775807 := by
  unfold nthI
  split
  · exact ⟨h.lo i ‹_›, h.hi i ‹_›⟩
  · omega
set_option maxHeartbeats 1000000 in
theorem knth_any (w : World) (a : Option Addr) (n cap : Nat) (f : Nat → Int) (i : Nat) (hi : i ≤ 1024) (h : IntsIn w a n cap f) :
    Calls Tryd.prog 41 #[.slice a n cap, .int .i64 i] w fun e w' => e = .returned (.int .i64 (nthI n f i)) ∧ w' = w := by
  by_cases h1 : i < n
  · have hl := h.len
    unfold maxLen at hl
    rcases h.at' with h0 | ⟨b, o, rfl, h2, h3, h4, h5⟩
    · omega
    have y := h5 i h1
    unfold maxLen at h3
    have HN : Hid (nthI n f i = f i) := Hid.mk (by unfold nthI; rw [if_pos h1])
    clear h h5
    go_enter Tryd.func41, Tryd.ntmps41
    go_wp2_with fail
    go_ret
    exact ⟨ri HN.out.symm, rfl⟩
  · have HN : Hid (nthI n f i = 0) := Hid.mk (by unfold nthI; rw [if_neg h1])
    clear h
    go_enter Tryd.func41, Tryd.ntmps41
    go_wp2_with fail
    go_ret
    exact ⟨ri HN.out.symm, rfl⟩

/-- A flow, node i another. -/
def FlowD.upd (F : FlowD) (i : Nat) (bu cl be ba ca ji : Int) (an : Nat) (af : Nat → Int) : FlowD where
  dl := F.dl
  n := F.n
  bu j := if j = i then bu else F.bu j
  cl j := if j = i then cl else F.cl j
  be j := if j = i then be else F.be j
  ba j := if j = i then ba else F.ba j
  ca j := if j = i then ca else F.ca j
  ji j := if j = i then ji else F.ji j
  an j := if j = i then an else F.an j
  af j := if j = i then af else F.af j
/-- The same nodes, up to k. -/
structure SameTo (F G : FlowD) (k : Nat) : Prop where
  bu : ∀ i, i < k → F.bu i = G.bu i
  cl : ∀ i, i < k → F.cl i = G.cl i
  be : ∀ i, i < k → F.be i = G.be i
  ba : ∀ i, i < k → F.ba i = G.ba i
  ca : ∀ i, i < k → F.ca i = G.ca i
  ji : ∀ i, i < k → F.ji i = G.ji i
  an : ∀ i, i < k → F.an i = G.an i
  af : ∀ i, i < k → ∀ j, j < F.an i → F.af i j = G.af i j
theorem FlowD.upd_same (F : FlowD) (i : Nat) (bu cl be ba ca ji : Int) (an : Nat) (af : Nat → Int) : SameTo F (F.upd i bu cl be ba ca ji an af) i := by
  constructor <;> intro j hj
  all_goals simp [FlowD.upd, show j ≠ i by omega]
theorem nodesL_same {F G : FlowD} {k : Nat} (h : SameTo F G k) (Na : Nat → Option Addr) (Nc : Nat → Nat) : ∀ j, j ≤ k → nodesL F Na Nc j = nodesL G Na Nc j := by
  intro j
  induction j with
  | zero => intro _; rfl
  | succ j ih =>
    intro hj
    simp only [nodesL, nodeL]
    rw [ih (by omega), h.bu j (by omega), h.cl j (by omega), h.be j (by omega), h.ba j (by omega), h.ca j (by omega), h.ji j (by omega), h.an j (by omega)]
theorem CopyAt.same {B : Nat} {w : World} {F G : FlowD} {v : Value} {k : Nat} {Na : Nat → Option Addr} {Nc : Nat → Nat} (h : CopyAt B w F v k Na Nc) (hs : SameTo F G k) : CopyAt B w G v k Na Nc := by
  refine ⟨by rw [← nodesL_same hs Na Nc k (Nat.le_refl _)]; exact h.own, fun i hi => ?_⟩
  have h1 := h.aft i hi
  rw [intsL_congr (hs.af i hi), hs.an i hi] at h1
  exact h1

/-- A node of such a flow: its numbers, and that it waits for nodes ahead of it, which rise. -/
structure NodeW (F : FlowD) (i : Nat) : Prop where
  bu : 1 ≤ F.bu i ∧ F.bu i ≤ 5
  cl : 1 ≤ F.cl i ∧ F.cl i ≤ 30
  be : 0 ≤ F.be i ∧ F.be i ≤ 20
  ba : 1 ≤ F.ba i ∧ F.ba i ≤ 6
  ca : F.ba i ≤ F.ca i ∧ F.ca i ≤ 30
  ji : 0 ≤ F.ji i ∧ F.ji i ≤ 3
  af : ∀ k, k < F.an i → 0 ≤ F.af i k ∧ F.af i k < i ∧ (0 < k → F.af i (k - 1) < F.af i k)
structure FlowW (F : FlowD) (k : Nat) : Prop where
  dl : 1 ≤ F.dl ∧ F.dl ≤ 2000
  nodes : ∀ i, i < k → NodeW F i
theorem NodeW.same {F G : FlowD} {k i : Nat} (h : NodeW F i) (hs : SameTo F G k) (hi : i < k) : NodeW G i := by
  obtain ⟨h1, h2, h3, h4, h5, h6, h7⟩ := h
  refine ⟨by rw [← hs.bu i hi]; exact h1, by rw [← hs.cl i hi]; exact h2, by rw [← hs.be i hi]; exact h3, by rw [← hs.ba i hi]; exact h4, by rw [← hs.ba i hi, ← hs.ca i hi]; exact h5, by rw [← hs.ji i hi]; exact h6, fun k hk => ?_⟩
  rw [← hs.an i hi] at hk
  have := h7 k hk
  rw [← hs.af i hi k hk]
  refine ⟨this.1, this.2.1, fun h0 => ?_⟩
  rw [← hs.af i hi (k - 1) (by omega)]
  exact this.2.2 h0
theorem FlowW.ok {F : FlowD} (h : FlowW F F.n) (h1 : 1 ≤ F.n) (h2 : F.n ≤ 12) : OkTop F ∧ (∀ j, j < F.n → OkNode F j ∧ OkEdges F j) ∧ ∀ i, i < F.n → Gone F i := by
  have hgone : ∀ i, i < F.n → Gone F i := by
    intro i
    induction i using Nat.strongRecOn with
    | _ i ih =>
      intro hi
      refine Gone.mk i fun k hk => ?_
      have := (h.nodes i hi).af k hk
      exact ih _ (by omega) (by omega)
  refine ⟨⟨h.dl.1, by have := h.dl.2; omega, h1, h2⟩, fun j hj => ⟨?_, fun k hk => ?_⟩, hgone⟩
  · obtain ⟨n1, n2, n3, n4, n5, n6, n7⟩ := h.nodes j hj
    constructor <;> omega
  · have := (h.nodes j hj).af k hk
    exact ⟨this.1, by omega, this.2.2⟩
end Go.Proofs.YtgdcjccbdmcebaaDoor
