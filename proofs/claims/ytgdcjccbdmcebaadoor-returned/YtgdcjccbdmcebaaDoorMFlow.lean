/- A flow as plain data. -/
import Init
namespace Go.Proofs.YtgdcjccbdmcebaaDoor

/-- A flow as plain data: Deadline; so many nodes; of each its six numbers, how many it waits for, and these. -/
structure FlowD where
  dl : Int
  n : Nat
  bu : Nat → Int
  cl : Nat → Int
  be : Nat → Int
  ba : Nat → Int
  ca : Nat → Int
  ji : Nat → Int
  an : Nat → Nat
  af : Nat → Nat → Int
end Go.Proofs.YtgdcjccbdmcebaaDoor
