/- The document's wheel as data: timers in the order in which they were set; which of them is first. And how it lies in memory. -/
import Derived.Test.YtgdcjccbdmcebaaDoorHBase
import Derived.Test.YtgdcjccbdmcebaaDoorHTm
import Derived.Test.YtgdcjccbdmcebaaDoorWTz
namespace Go.Proofs.YtgdcjccbdmcebaaDoor
open Go.RowKit
set_option maxRecDepth 100000

def tmV (t : Tm) : List Value := [.int .i64 t.id, .int .u64 t.tm, .int .i64 t.sq]
def tmL (l : List Tm) : List Value := l.flatMap tmV
theorem tmL_append (a b : List Tm) : tmL (a ++ b) = tmL a ++ tmL b := by simp [tmL]
theorem tmL_length (l : List Tm) : (tmL l).length = l.length * 3 := by
  induction l with
  | nil => rfl
  | cons t r ih =>
    have : tmL (t :: r) = tmV t ++ tmL r := rfl
    rw [this, List.length_append, ih]
    simp [tmV]
    omega
theorem tmL_at (l : List Tm) (i j : Nat) (hi : i < l.length) (hj : j < 3) : (tmL l)[i * 3 + j]? = (tmV (l.getD i .z))[j]? := by
  induction l generalizing i with
  | nil => simp at hi
  | cons t r ih =>
    have e : tmL (t :: r) = tmV t ++ tmL r := rfl
    rw [e]
    cases i with
    | zero =>
      rw [List.getElem?_append_left (by simp [tmV]; omega)]
      simp
    | succ i =>
      rw [List.getElem?_append_right (by simp [tmV]; omega)]
      have h2 := ih i (by simpa using hi)
      rw [show (i + 1) * 3 + j - (tmV t).length = i * 3 + j by simp [tmV]; omega, h2]
      simp
theorem tmL_ones (l : List Tm) : ∀ u ∈ tmL l, u.oneCell' = true := by
  intro u hu
  obtain ⟨t, _, ht⟩ := List.mem_flatMap.1 hu
  simp only [tmV, List.mem_cons, List.not_mem_nil, or_false] at ht
  rcases ht with rfl | rfl | rfl <;> rfl

/-- Behind the address a lie these timers. -/
def TmsAt (w : World) (a : Option Addr) (cap : Nat) (l : List Tm) : Prop :=
  l.length = 0 ∨ (∃ b o, a = some ⟨b, o, none⟩ ∧ l.length ≤ cap ∧ cap ≤ maxLen ∧ b < w.heap.size ∧ ∀ i, i < l.length → w.cell? ⟨b, o + i * 3, none⟩ = some (.int .i64 (l.getD i .z).id) ∧ w.cell? ⟨b, o + i * 3 + 1, none⟩ = some (.int .u64 (l.getD i .z).tm) ∧ w.cell? ⟨b, o + i * 3 + 2, none⟩ = some (.int .i64 (l.getD i .z).sq))
theorem TmsAt.keep {w w' : World} {a : Option Addr} {cap : Nat} {l : List Tm} (h : TmsAt w a cap l) (hb : Below w.heap.size w w') : TmsAt w' a cap l := by
  rcases h with h | ⟨b, o, h1, h2, h3, h4, h5⟩
  · exact Or.inl h
  · exact Or.inr ⟨b, o, h1, h2, h3, Nat.lt_of_lt_of_le h4 hb.size, fun i hi => ⟨(hb.cell (p := ⟨b, o + i * 3, none⟩) h4).trans (h5 i hi).1, (hb.cell (p := ⟨b, o + i * 3 + 1, none⟩) h4).trans (h5 i hi).2.1, (hb.cell (p := ⟨b, o + i * 3 + 2, none⟩) h4).trans (h5 i hi).2.2⟩⟩
theorem tms_of_own {w : World} {B c : Nat} {a : Option Addr} {l : List Tm} (h : w.ownsRow B 112 3 (.slice a l.length c) l.length (tmL l)) : TmsAt w a c l := by
  by_cases hn : l.length = 0
  · exact Or.inl hn
  · rcases h.2 with ⟨_, h2⟩ | ⟨g, cap, cur, h2, hg, hh, h3, h4, h5, h6⟩
    · exact absurd h2 hn
    · obtain ⟨h7, _, h8⟩ : a = some ⟨g, 0, none⟩ ∧ l.length = l.length ∧ c = cap := by simpa using h2
      subst h7 h8
      obtain ⟨hlt, _⟩ := Array.getElem?_eq_some_iff.1 hh
      have key : ∀ i j, i < l.length → j < 3 → w.cell? ⟨g, 0 + i * 3 + j, none⟩ = (tmV (l.getD i .z))[j]? := fun i j hi hj => by
        have := h.cellAt (i * 3 + j) (by omega)
        rw [Nat.zero_add, this, tmL_at l i j hi hj]
      exact Or.inr ⟨g, 0, rfl, h3, h4, hlt, fun i hi => ⟨key i 0 hi (by omega), key i 1 hi (by omega), key i 2 hi (by omega)⟩⟩

/-- The document's wheel in block M. -/
structure RwAt (w : World) (M B : Nat) (now : Int) (a : Option Addr) (cap : Nat) (l : List Tm) (sq : Int) : Prop where
  c0 : w.cell? ⟨M, 0, none⟩ = some (.int .u64 now)
  c1 : w.cell? ⟨M, 1, none⟩ = some (.slice a l.length cap)
  c2 : w.cell? ⟨M, 2, none⟩ = some (.int .i64 sq)
  f0 : w.frozen? ⟨M, 0, none⟩ = false
  f1 : w.frozen? ⟨M, 1, none⟩ = false
  f2 : w.frozen? ⟨M, 2, none⟩ = false
  own : w.ownsRow B 112 3 (.slice a l.length cap) l.length (tmL l)
  mb : M < B
  bs : B ≤ w.heap.size
  few : l.length ≤ 200
theorem RwAt.keep {w w' : World} {M B : Nat} {now : Int} {a : Option Addr} {cap : Nat} {l : List Tm} {sq : Int} (h : RwAt w M B now a cap l sq) (hb : Below w.heap.size w w') : RwAt w' M B now a cap l sq := by
  have hM : M < w.heap.size := Nat.lt_of_lt_of_le h.mb h.bs
  exact ⟨(hb.cell (p := ⟨M, 0, none⟩) hM).trans h.c0, (hb.cell (p := ⟨M, 1, none⟩) hM).trans h.c1, (hb.cell (p := ⟨M, 2, none⟩) hM).trans h.c2, (hb.frozen (p := ⟨M, 0, none⟩) hM).trans h.f0, (hb.frozen (p := ⟨M, 1, none⟩) hM).trans h.f1, (hb.frozen (p := ⟨M, 2, none⟩) hM).trans h.f2, own_below h.own hb, h.mb, Nat.le_trans h.bs hb.size, h.few⟩

end Go.Proofs.YtgdcjccbdmcebaaDoor
