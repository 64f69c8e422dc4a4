/- Rows of the call's own, a little more: nodes as they lie, blocks that are new or stay. -/
import Derived.Test.YtgdcjccbdmcebaaDoorWPdec3
namespace Go.Proofs.YtgdcjccbdmcebaaDoor
open Go.RowKit
set_option maxRecDepth 100000

theorem CopyAt.nodesAt {B : Nat} {w : World} {F : FlowD} {la : Option Addr} {lc : Nat} {Na : Nat → Option Addr} {Nc : Nat → Nat} (h : CopyAt B w F (.slice la F.n lc) F.n Na Nc) : NodesAt w la lc F Na Nc := by
  by_cases h0 : F.n = 0
  · exact Or.inl h0
  · rcases h.own.2 with ⟨_, h2⟩ | ⟨g, cap, cur, h2, hg', hh, h3, h4, h5, h6⟩
    · exact absurd h2 h0
    · obtain ⟨h7, _, h8⟩ : la = some ⟨g, 0, none⟩ ∧ F.n = F.n ∧ lc = cap := by simpa using h2
      subst h7 h8
      exact Or.inr ⟨g, 0, rfl, h3, h4, h.lt.2, h.node⟩
theorem CopyAt.flowIn {B : Nat} {w : World} {F : FlowD} {la : Option Addr} {lc : Nat} {Na : Nat → Option Addr} {Nc : Nat → Nat} (h : CopyAt B w F (.slice la F.n lc) F.n Na Nc) (hn : F.n ≤ 2097151) (ha : ∀ i, i < F.n → F.an i ≤ 2097151) (hT : TabIn w) (hg : 1 < w.heap.size) : FlowIn w F la lc Na Nc := by
  refine ⟨h.nodesAt, by unfold maxLen; omega, by omega, fun i hi e => ?_, fun i hi => by have := ha i hi; omega, hT, hg⟩
  have := h.aft i hi
  rw [e] at this
  exact own_nil this
theorem flowOf_n (n : Nat) (f : Nat → Nat) : (flowOf n f).n ≤ 2097151 := nxV_le _ _ _
theorem flowOf_an (n : Nat) (f : Nat → Nat) (i : Nat) : (flowOf n f).an i ≤ 2097151 := nxV_le _ _ _
/-- The seven cells of a node that is read. -/
def gg (u0 u1 u2 u3 u4 u5 : Int) (v : Value) (j : Nat) : Value :=
  if j = 0 then .int .i64 u0 else if j = 1 then .int .i64 u1 else if j = 2 then .int .i64 u2 else if j = 3 then .int .i64 u3 else if j = 4 then .int .i64 u4 else if j = 5 then .int .i64 u5 else v
theorem grown_block {x y : World} {o : Obj} {r : Option Nat} (hg : (x.alloc o).grownBy y r) {b : Nat} (hb : b < x.heap.size) (hr : some b ≠ r) : y.heap[b]? = x.heap[b]? :=
  (hg.block b (by simp; omega) hr).trans (heap_alloc_before x o b hb)
theorem intsL_more (k : Nat) (zs : Nat → Int) (d : Int) : intsL (k + 1) (fun j => if j = k then d else zs j) = intsL k zs ++ [.int .i64 d] := by
  simp only [intsL, List.range_succ, List.map_append, List.map_cons, List.map_nil, if_true]
  congr 1
  apply List.map_congr_left
  intro j hj
  have := List.mem_range.1 hj
  rw [if_neg (by omega)]
theorem intsL_congr {k : Nat} {f g : Nat → Int} (h : ∀ j, j < k → f j = g j) : intsL k f = intsL k g := by
  unfold intsL
  apply List.map_congr_left
  intro j hj
  rw [h j (List.mem_range.1 hj)]

end Go.Proofs.YtgdcjccbdmcebaaDoor
