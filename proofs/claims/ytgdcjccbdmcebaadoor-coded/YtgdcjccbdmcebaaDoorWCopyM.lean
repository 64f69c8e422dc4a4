/- A flow that was copied: its nodes and what each waits for are rows of the call's own. -/
import Derived.Test.YtgdcjccbdmcebaaDoorWMem
import Derived.Test.YtgdcjccbdmcebaaDoorHBase
namespace Go.Proofs.YtgdcjccbdmcebaaDoor
open Go.RowKit

/-- The seven cells of node i, what it waits for behind a, with room for c. -/
def nodeL (F : FlowD) (i : Nat) (a : Option Addr) (c : Nat) : List Value :=
  [.int .i64 (F.bu i), .int .i64 (F.cl i), .int .i64 (F.be i), .int .i64 (F.ba i), .int .i64 (F.ca i), .int .i64 (F.ji i), .slice a (F.an i) c]
/-- The cells of the first k nodes. -/
def nodesL (F : FlowD) (Na : Nat → Option Addr) (Nc : Nat → Nat) : Nat → List Value
  | 0 => []
  | k + 1 => nodesL F Na Nc k ++ nodeL F k (Na k) (Nc k)
/-- What node i waits for. -/
def intsL (n : Nat) (f : Nat → Int) : List Value := (List.range n).map fun k => .int .i64 (f k)

theorem nodesL_length (F : FlowD) (Na : Nat → Option Addr) (Nc : Nat → Nat) (k : Nat) : (nodesL F Na Nc k).length = k * 7 := by
  induction k with
  | zero => rfl
  | succ k ih => simp only [nodesL, List.length_append, ih, nodeL, List.length_cons, List.length_nil]; omega
theorem nodesL_congr {F : FlowD} {Na Na' : Nat → Option Addr} {Nc Nc' : Nat → Nat} {k : Nat} (h : ∀ i, i < k → Na i = Na' i ∧ Nc i = Nc' i) : nodesL F Na Nc k = nodesL F Na' Nc' k := by
  induction k with
  | zero => rfl
  | succ k ih => simp only [nodesL]; rw [ih fun i hi => h i (by omega), (h k (by omega)).1, (h k (by omega)).2]
theorem nodesL_at (F : FlowD) (Na : Nat → Option Addr) (Nc : Nat → Nat) (k i j : Nat) (hi : i < k) (hj : j < 7) : (nodesL F Na Nc k)[i * 7 + j]? = (nodeL F i (Na i) (Nc i))[j]? := by
  induction k with
  | zero => omega
  | succ k ih =>
    simp only [nodesL]
    by_cases e : i = k
    · subst e
      rw [List.getElem?_append_right (by rw [nodesL_length]; omega), nodesL_length]
      congr 1
      omega
    · rw [List.getElem?_append_left (by rw [nodesL_length]; omega)]
      exact ih (by omega)
theorem intsL_length (n : Nat) (f : Nat → Int) : (intsL n f).length = n := by simp [intsL]
theorem intsL_at (n : Nat) (f : Nat → Int) (k : Nat) (h : k < n) : (intsL n f)[k]? = some (.int .i64 (f k)) := by simp [intsL, h]

/-- The copy in w: its nodes in a row of their own, and so what each waits for. -/
structure CopyAt (B : Nat) (w : World) (F : FlowD) (v : Value) (k : Nat) (Na : Nat → Option Addr) (Nc : Nat → Nat) : Prop where
  own : w.ownsRow B 27 7 v k (nodesL F Na Nc k)
  aft : ∀ i, i < k → w.ownsRow B 3 1 (.slice (Na i) (F.an i) (Nc i)) (F.an i) (intsL (F.an i) (F.af i))

theorem CopyAt.below {B : Nat} {w w' : World} {F : FlowD} {v : Value} {k : Nat} {Na : Nat → Option Addr} {Nc : Nat → Nat} (h : CopyAt B w F v k Na Nc) (hb : Below w.heap.size w w') : CopyAt B w' F v k Na Nc :=
  ⟨own_below h.own hb, fun i hi => own_below (h.aft i hi) hb⟩

/-- Two rows of elements of two types lie in two blocks. -/
theorem own_apart {w : World} {B : Nat} {e e' : TypeId} {size size' n n' : Nat} {v v' : Value} {xs xs' : List Value} (h : w.ownsRow B e size v n xs) (h' : w.ownsRow B e' size' v' n' xs') (he : e ≠ e') : v.ownBlock = none ∨ v.ownBlock ≠ v'.ownBlock := by
  rcases h.2 with ⟨rfl, rfl⟩ | ⟨g, cap, cur, rfl, hg, hh, _⟩
  · exact Or.inl rfl
  · right
    rcases h'.2 with ⟨rfl, rfl⟩ | ⟨g', cap', cur', rfl, hg', hh', _⟩
    · simp [Value.ownBlock]
    · intro e2
      simp only [Value.ownBlock, Option.some.injEq] at e2
      subst e2
      rw [hh] at hh'
      simp only [Option.some.injEq, Obj.cells.injEq] at hh'
      exact he hh'.2.1

/-- The copy of a list of ints, as a list of ints. -/
theorem ints_of_own {w : World} {B n c : Nat} {a : Option Addr} {f : Nat → Int} (h : w.ownsRow B 3 1 (.slice a n c) n (intsL n f)) : IntsAt w a n c f := by
  by_cases hn : n = 0
  · exact Or.inl hn
  · rcases h.2 with ⟨_, h2⟩ | ⟨g, cap, cur, h2, hg, hh, h3, h4, h5, h6⟩
    · exact absurd h2 hn
    · obtain ⟨h7, _, h8⟩ : a = some ⟨g, 0, none⟩ ∧ n = n ∧ c = cap := by simpa using h2
      subst h7 h8
      obtain ⟨hlt, _⟩ := Array.getElem?_eq_some_iff.1 hh
      refine Or.inr ⟨g, 0, rfl, h3, h4, hlt, fun k hk => ?_⟩
      have := h.cellAt k (by omega)
      rw [Nat.zero_add, this, intsL_at n f k hk]

/-- The copy of the nodes, as nodes: from any of them on. -/
theorem CopyAt.node {B : Nat} {w : World} {F : FlowD} {g cap k : Nat} {Na : Nat → Option Addr} {Nc : Nat → Nat} (h : CopyAt B w F (.slice (some ⟨g, 0, none⟩) k cap) k Na Nc) : ∀ i, i < k → NodeAt w F i g (0 + i * 7) (Na i) (Nc i) := by
  intro i hi
  have key : ∀ j, j < 7 → w.cell? ⟨g, 0 + i * 7 + j, none⟩ = (nodeL F i (Na i) (Nc i))[j]? := fun j hj => by
    have := h.own.cellAt (i * 7 + j) (by omega)
    rw [Nat.zero_add, this, nodesL_at F Na Nc k i j hi hj]
  exact ⟨key 0 (by omega), key 1 (by omega), key 2 (by omega), key 3 (by omega), key 4 (by omega), key 5 (by omega), key 6 (by omega), ints_of_own (h.aft i hi)⟩
theorem CopyAt.lt {B : Nat} {w : World} {F : FlowD} {g cap k : Nat} {Na : Nat → Option Addr} {Nc : Nat → Nat} (h : CopyAt B w F (.slice (some ⟨g, 0, none⟩) k cap) k Na Nc) : B ≤ g ∧ g < w.heap.size := h.own.lt g rfl

/-- One node more. -/
theorem CopyAt.more {B : Nat} {w w1 w2 : World} {F : FlowD} {v v' : Value} {k : Nat} {Na : Nat → Option Addr} {Nc : Nat → Nat} {a : Option Addr} {c : Nat} (h : CopyAt B w F v k Na Nc) (h1 : w1.ownsRow B 3 1 (.slice a (F.an k) c) (F.an k) (intsL (F.an k) (F.af k)))
    (hb : Below w.heap.size w w1) (hown : w2.ownsRow B 27 7 v' (k + 1) (nodesL F Na Nc k ++ nodeL F k a c)) (hg : w1.grownBy w2 v.ownBlock) :
    CopyAt B w2 F v' (k + 1) (fun i => if i = k then a else Na i) (fun i => if i = k then c else Nc i) := by
  have hown1 := own_below h.own hb
  constructor
  · have e : nodesL F (fun i => if i = k then a else Na i) (fun i => if i = k then c else Nc i) (k + 1) = nodesL F Na Nc k ++ nodeL F k a c := by
      simp only [nodesL, if_true]
      congr 1
      exact nodesL_congr fun i hi => ⟨if_neg (by omega), if_neg (by omega)⟩
    rw [e]
    exact hown
  · intro i hi
    by_cases e : i = k
    · subst e
      simp only [if_true]
      exact h1.kept hg (own_apart h1 hown1 (by decide))
    · simp only [e, if_false]
      have h3 := own_below (h.aft i (by omega)) hb
      exact h3.kept hg (own_apart h3 hown1 (by decide))

/-- The two blocks that the copy begins with: the flow's own, and the result's. -/
structure Own4 (w wr : World) (F : FlowD) (a : Option Addr) (cap : Nat) : Prop where
  bA : wr.heap[w.heap.size]? = some (.cells #[.int .i64 F.dl, .slice a F.n cap] 24 (0, 0))
  bB : wr.heap[w.heap.size + 1]? = some (.cells #[.int .i64 0, .slice none 0 0] 24 (0, 0))
  sz : w.heap.size + 1 < wr.heap.size
  bl : Below w.heap.size w wr
theorem Own4.keep {w wr wx : World} {F : FlowD} {a : Option Addr} {cap : Nat} (h : Own4 w wr F a cap) (hb : Below (w.heap.size + 2) wr wx) : Own4 w wx F a cap :=
  ⟨(hb.block _ (by omega)).trans h.bA, (hb.block _ (by omega)).trans h.bB, Nat.lt_of_lt_of_le h.sz hb.size, h.bl.trans (hb.mono (by omega))⟩
theorem Own4.start (w : World) (F : FlowD) (a : Option Addr) (cap : Nat) : Own4 w ((w.alloc (.cells #[.int .i64 F.dl, .slice a F.n cap] 24)).alloc (.cells #[.int .i64 0, .slice none 0 0] 24)) F a cap :=
  ⟨heap_alloc2_old _ _ _, heap_alloc2_new _ _ _, by simp, ((Below.refl _ _).alloc (Nat.le_refl _) _).alloc (by simp) _⟩
theorem cell_at {w : World} {g : Nat} {cs : Array Value} {t : TypeId} (h : w.heap[g]? = some (.cells cs t (0, 0))) (j : Nat) : w.cell? ⟨g, j, none⟩ = cs[j]? := cell_of_row w g j cs t (0, 0) h
theorem free_at {w : World} {g : Nat} {cs : Array Value} {t : TypeId} (h : w.heap[g]? = some (.cells cs t (0, 0))) (j : Nat) : w.frozen? ⟨g, j, none⟩ = false := frozen_of_row w g j cs t h

/-- Behind the first append of a round (what node k waits for is copied). -/
theorem copy_step1 {w w1 w2 : World} {F : FlowD} {lv v1 : Value} {k : Nat} {Na : Nat → Option Addr} {Nc : Nat → Nat} {a0 : Option Addr} {c0 : Nat} (hcopy : CopyAt (w.heap.size + 2) w1 F lv k Na Nc)
    (hown1 : w2.ownsRow (w.heap.size + 2) 3 1 v1 (0 + F.an k) ([] ++ intsL (F.an k) (F.af k)))
    (hgrow1 : (w1.alloc (.cells #[.int .i64 (F.bu k), .int .i64 (F.cl k), .int .i64 (F.be k), .int .i64 (F.ba k), .int .i64 (F.ca k), .int .i64 (F.ji k), .slice a0 (F.an k) c0] 27)).grownBy w2 none) :
    ∃ na nc, v1 = .slice na (F.an k) nc ∧ w1.heap.size < w2.heap.size ∧ w2.heap[w1.heap.size]? = some (.cells #[.int .i64 (F.bu k), .int .i64 (F.cl k), .int .i64 (F.be k), .int .i64 (F.ba k), .int .i64 (F.ca k), .int .i64 (F.ji k), .slice a0 (F.an k) c0] 27 (0, 0)) ∧
      (∀ x o, ((w2.setCell ⟨w1.heap.size, 6, none⟩ x).alloc o).ownsRow (w.heap.size + 2) 27 7 lv k (nodesL F Na Nc k)) ∧
      (∀ x o, ((w2.setCell ⟨w1.heap.size, 6, none⟩ x).alloc o).ownsRow (w.heap.size + 2) 3 1 (.slice na (F.an k) nc) (F.an k) (intsL (F.an k) (F.af k))) ∧
      (∀ x o, Below w1.heap.size w1 ((w2.setCell ⟨w1.heap.size, 6, none⟩ x).alloc o)) := by
  rw [Nat.zero_add, List.nil_append] at hown1
  obtain ⟨na, nc, rfl⟩ := own_slice hown1
  have hsz2 : w1.heap.size < w2.heap.size := by have := hgrow1.size; simp at this; omega
  have hblk : w2.heap[w1.heap.size]? = some (.cells #[.int .i64 (F.bu k), .int .i64 (F.cl k), .int .i64 (F.be k), .int .i64 (F.ba k), .int .i64 (F.ca k), .int .i64 (F.ji k), .slice a0 (F.an k) c0] 27 (0, 0)) :=
    (hgrow1.block _ (by simp) (by simp)).trans (heap_alloc_new _ _)
  have hb12 : Below w1.heap.size w1 w2 := ((Below.refl _ _).alloc (Nat.le_refl _) _).grown hgrow1 (by simp) (fun k h => by cases h)
  have hb13 : ∀ x o, Below w1.heap.size w1 ((w2.setCell ⟨w1.heap.size, 6, none⟩ x).alloc o) := fun x o => (hb12.setCell (by simp) x).alloc (by simp [World.setCell]; omega) o
  refine ⟨na, nc, rfl, hsz2, hblk, fun x o => own_below hcopy.own (hb13 x o), fun x o => ?_, hb13⟩
  refine (ownsRow_setCell_other hown1 (fun e => ?_) x).alloc o
  rcases hown1.2 with ⟨h, _⟩ | ⟨g, cap, cur, h, hg, hh, _⟩
  · rw [h] at e; simp [Value.ownBlock] at e
  · rw [h] at e
    simp only [Value.ownBlock, Option.some.injEq] at e
    rw [e, hblk] at hh
    simp only [Option.some.injEq, Obj.cells.injEq] at hh
    exact absurd hh.2.1 (by decide)

/-- Behind the second (the node is appended). -/
theorem copy_step2 {w w1 w4 w3 : World} {F : FlowD} {lv v2 : Value} {b o cap k : Nat} {Na : Nat → Option Addr} {Nc : Nat → Nat} {na : Option Addr} {nc : Nat} (hcopy : CopyAt (w.heap.size + 2) w1 F lv k Na Nc) (hown : Own4 w w1 F (some ⟨b, o, none⟩) cap)
    (hints : w4.ownsRow (w.heap.size + 2) 3 1 (.slice na (F.an k) nc) (F.an k) (intsL (F.an k) (F.af k))) (hb : Below w1.heap.size w1 w4)
    (hown2 : w3.ownsRow (w.heap.size + 2) 27 7 v2 (k + 1) (nodesL F Na Nc k ++ nodeL F k na nc)) (hgrow2 : w4.grownBy w3 lv.ownBlock) :
    ∃ (la : Option Addr) (lc : Nat) (Na' : Nat → Option Addr) (Nc' : Nat → Nat), v2 = .slice la (k + 1) lc ∧ CopyAt (w.heap.size + 2) w3 F (.slice la (k + 1) lc) (k + 1) Na' Nc' ∧ Own4 w w3 F (some ⟨b, o, none⟩) cap := by
  have hc := hcopy.more hints hb hown2 hgrow2
  obtain ⟨la, lc, rfl⟩ := own_slice hown2
  refine ⟨la, lc, _, _, rfl, hc, hown.keep ?_⟩
  have h2 := hown.sz
  have h3 := hb.size
  refine (hb.mono (by omega)).grown hgrow2 (by omega) fun g hg => ?_
  exact (hcopy.own.lt g hg).1
end Go.Proofs.YtgdcjccbdmcebaaDoor
