/- What the document asks of a flow (P4), as plain data: bounds, edges, and the nodes that have their turn at last. -/
import Derived.Test.YtgdcjccbdmcebaaDoorMFlow
namespace Go.Proofs.YtgdcjccbdmcebaaDoor

/-- A node's numbers are in their bounds (P4). -/
structure OkNode (F : FlowD) (i : Nat) : Prop where
  bu1 : 1 ≤ F.bu i
  bu2 : F.bu i ≤ 5
  cl1 : 1 ≤ F.cl i
  cl2 : F.cl i ≤ 1048576
  be1 : 0 ≤ F.be i
  be2 : F.be i ≤ 1048576
  ba1 : 1 ≤ F.ba i
  ba2 : F.ba i ≤ 1048576
  ca1 : F.ba i ≤ F.ca i
  ca2 : F.ca i ≤ 1048576
  ji1 : 0 ≤ F.ji i
  ji2 : F.ji i ≤ 1048576
/-- What node i waits for are nodes of the flow, that rise. -/
def OkEdge (F : FlowD) (i k : Nat) : Prop := 0 ≤ F.af i k ∧ F.af i k < F.n ∧ (0 < k → F.af i (k - 1) < F.af i k)
def OkEdges (F : FlowD) (i : Nat) : Prop := ∀ k, k < F.an i → OkEdge F i k
structure OkTop (F : FlowD) : Prop where
  dl1 : 1 ≤ F.dl
  dl2 : F.dl ≤ 1048576
  n1 : 1 ≤ F.n
  n2 : F.n ≤ 12

/-- A node whose turn comes: all for which it waits have theirs. -/
inductive Gone (F : FlowD) : Nat → Prop
  | mk (i : Nat) : (∀ k, k < F.an i → Gone F (F.af i k).toNat) → Gone F i
/-- A flow that is well. -/
structure FlOk (F : FlowD) : Prop where
  top : OkTop F
  node : ∀ j, j < F.n → OkNode F j
  edge : ∀ j, j < F.n → OkEdges F j
  gone : ∀ j, j < F.n → Gone F j
end Go.Proofs.YtgdcjccbdmcebaaDoor
