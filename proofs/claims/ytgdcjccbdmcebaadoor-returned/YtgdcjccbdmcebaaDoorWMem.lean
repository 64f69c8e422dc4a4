/- How a flow lies in memory, and what the document asks of it, as plain data. -/
import Derived.Test.YtgdcjccbdmcebaaDoorWRest
import Derived.Test.YtgdcjccbdmcebaaDoorMFlow
namespace Go.Proofs.YtgdcjccbdmcebaaDoor
open Go.RowKit

/-- Behind the address a (of a list of n, with room for cap) lie these ints in w. -/
def IntsAt (w : World) (a : Option Addr) (n cap : Nat) (f : Nat → Int) : Prop :=
  n = 0 ∨ (∃ b o, a = some ⟨b, o, none⟩ ∧ n ≤ cap ∧ cap ≤ maxLen ∧ b < w.heap.size ∧ ∀ k, k < n → w.cell? ⟨b, o + k, none⟩ = some (.int .i64 (f k)))

/-- Seven cells behind ⟨b, o⟩ are node i of F; what it waits for lies behind a, with room for c. -/
structure NodeAt (w : World) (F : FlowD) (i b o : Nat) (a : Option Addr) (c : Nat) : Prop where
  bu : w.cell? ⟨b, o, none⟩ = some (.int .i64 (F.bu i))
  cl : w.cell? ⟨b, o + 1, none⟩ = some (.int .i64 (F.cl i))
  be : w.cell? ⟨b, o + 2, none⟩ = some (.int .i64 (F.be i))
  ba : w.cell? ⟨b, o + 3, none⟩ = some (.int .i64 (F.ba i))
  ca : w.cell? ⟨b, o + 4, none⟩ = some (.int .i64 (F.ca i))
  ji : w.cell? ⟨b, o + 5, none⟩ = some (.int .i64 (F.ji i))
  af : w.cell? ⟨b, o + 6, none⟩ = some (.slice a (F.an i) c)
  ints : IntsAt w a (F.an i) c (F.af i)

/-- Behind the address a (of a list with room for cap) lie F's nodes in w; what node i waits for lies behind Aa i, with room for Ac i. -/
def NodesAt (w : World) (a : Option Addr) (cap : Nat) (F : FlowD) (Aa : Nat → Option Addr) (Ac : Nat → Nat) : Prop :=
  F.n = 0 ∨ (∃ b o, a = some ⟨b, o, none⟩ ∧ F.n ≤ cap ∧ cap ≤ maxLen ∧ b < w.heap.size ∧ ∀ i, i < F.n → NodeAt w F i b (o + i * 7) (Aa i) (Ac i))

theorem IntsAt.keep {w w' : World} {a : Option Addr} {n cap : Nat} {f : Nat → Int} (h : IntsAt w a n cap f) (hb : Below w.heap.size w w') : IntsAt w' a n cap f := by
  rcases h with h | ⟨b, o, h1, h2, h3, h4, h5⟩
  · exact Or.inl h
  · exact Or.inr ⟨b, o, h1, h2, h3, Nat.lt_of_lt_of_le h4 hb.size, fun k hk => (hb.cell (p := ⟨b, o + k, none⟩) h4).trans (h5 k hk)⟩
theorem NodeAt.keep {w w' : World} {F : FlowD} {i b o : Nat} {a : Option Addr} {c : Nat} (h : NodeAt w F i b o a c) (h4 : b < w.heap.size) (hb : Below w.heap.size w w') : NodeAt w' F i b o a c :=
  ⟨(hb.cell (p := ⟨b, o, none⟩) h4).trans h.bu, (hb.cell (p := ⟨b, o + 1, none⟩) h4).trans h.cl, (hb.cell (p := ⟨b, o + 2, none⟩) h4).trans h.be, (hb.cell (p := ⟨b, o + 3, none⟩) h4).trans h.ba,
   (hb.cell (p := ⟨b, o + 4, none⟩) h4).trans h.ca, (hb.cell (p := ⟨b, o + 5, none⟩) h4).trans h.ji, (hb.cell (p := ⟨b, o + 6, none⟩) h4).trans h.af, h.ints.keep hb⟩
theorem NodesAt.keep {w w' : World} {a : Option Addr} {cap : Nat} {F : FlowD} {Aa : Nat → Option Addr} {Ac : Nat → Nat} (h : NodesAt w a cap F Aa Ac) (hb : Below w.heap.size w w') : NodesAt w' a cap F Aa Ac := by
  rcases h with h | ⟨b, o, h1, h2, h3, h4, h5⟩
  · exact Or.inl h
  · exact Or.inr ⟨b, o, h1, h2, h3, Nat.lt_of_lt_of_le h4 hb.size, fun i hi => (h5 i hi).keep h4 hb⟩

/-- The flow itself. -/
abbrev flV (dl : Int) (v : Value) : Value := .agg #[.int .i64 dl, v]
end Go.Proofs.YtgdcjccbdmcebaaDoor
