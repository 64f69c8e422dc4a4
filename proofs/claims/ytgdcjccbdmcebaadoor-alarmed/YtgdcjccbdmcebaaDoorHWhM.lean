/- The program's wheel in memory: 717 cells of block P: the time, the map of what is due, 704 lists, 11 words. -/
import Derived.Test.YtgdcjccbdmcebaaDoorHPl
import Derived.Test.YtgdcjccbdmcebaaDoorHBase
import Derived.Maps.OwnSet
namespace Go.Proofs.YtgdcjccbdmcebaaDoor
open Go.RowKit
open Go.Maps (Keyed int_keyed keyOf_int_mk)
set_option maxRecDepth 100000

def upd {α : Type} (f : Nat → α) (k : Nat) (v : α) : Nat → α := fun j => if j = k then v else f j
theorem upd_same {α : Type} (f : Nat → α) (k : Nat) (v : α) : upd f k v k = v := by unfold upd; rw [if_pos rfl]
theorem upd_other {α : Type} (f : Nat → α) (k : Nat) (v : α) {j : Nat} (h : j ≠ k) : upd f k v j = f j := by unfold upd; rw [if_neg h]
def idsL (l : List Int) : List Value := l.map (Value.int .i64)
theorem idsL_length (l : List Int) : (idsL l).length = l.length := by simp [idsL]
theorem idsL_append (a b : List Int) : idsL (a ++ b) = idsL a ++ idsL b := by simp [idsL]

/-- The wheel in block P: dm: what the map's cell holds; rw: the 704 slices; ls: what is on them; wd: the 11 words. -/
structure PwAt (w : World) (P B : Nat) (now : Nat) (dm : Value) (rw_ : Nat → Value) (ls : Nat → List Int) (wd : Nat → Nat) : Prop where
  c0 : w.cell? ⟨P, 0, none⟩ = some (.int .u64 now)
  c1 : w.cell? ⟨P, 1, none⟩ = some dm
  cs : ∀ k, k < 704 → w.cell? ⟨P, 2 + k, none⟩ = some (rw_ k)
  cw : ∀ k, k < 11 → w.cell? ⟨P, 706 + k, none⟩ = some (.int .u64 (wd k))
  fz : ∀ o, w.frozen? ⟨P, o, none⟩ = false
  own : ∀ k, k < 704 → w.ownsRow B 3 1 (rw_ k) (ls k).length (idsL (ls k))
  apart : ∀ j k, j < 704 → k < 704 → j ≠ k → ∀ z, (rw_ j).ownBlock = some z → (rw_ k).ownBlock ≠ some z
  pb : P < B
  bs : B ≤ w.heap.size

/-- A row of the wheel's, in a later world in which its block is as it was. -/
theorem own_kept {w w' : World} {B : Nat} {e : TypeId} {size n : Nat} {v : Value} {xs : List Value} (h : w.ownsRow B e size v n xs) (hb : ∀ k, B ≤ k → (∃ cs fr, w.heap[k]? = some (.cells cs e fr)) → v.ownBlock = some k → w'.heap[k]? = w.heap[k]?) : w'.ownsRow B e size v n xs := by
  obtain ⟨h1, h2⟩ := h
  refine ⟨h1, ?_⟩
  rcases h2 with h2 | ⟨g, cap, cur, rfl, hg, hh, hr⟩
  · exact Or.inl h2
  · exact Or.inr ⟨g, cap, cur, rfl, hg, by rw [hb g hg ⟨_, _, hh⟩ rfl]; exact hh, hr⟩
/-- The wheel stays, if its block, all blocks of numbers and all maps that were made behind B stay. -/
theorem PwAt.keepK {w w' : World} {P B now : Nat} {dm : Value} {rw_ : Nat → Value} {ls : Nat → List Int} {wd : Nat → Nat} (h : PwAt w P B now dm rw_ ls wd) (hs : w.heap.size ≤ w'.heap.size) (hP : w'.heap[P]? = w.heap[P]?) (hb : ∀ k, B ≤ k → (∃ cs fr, w.heap[k]? = some (.cells cs 3 fr)) → w'.heap[k]? = w.heap[k]?) : PwAt w' P B now dm rw_ ls wd :=
  ⟨(World.cell?_of_block (a := ⟨P, 0, none⟩) hP).trans h.c0, (World.cell?_of_block (a := ⟨P, 1, none⟩) hP).trans h.c1, fun k hk => (World.cell?_of_block (a := ⟨P, 2 + k, none⟩) hP).trans (h.cs k hk), fun k hk => (World.cell?_of_block (a := ⟨P, 706 + k, none⟩) hP).trans (h.cw k hk), fun o => (World.frozen?_of_block (a := ⟨P, o, none⟩) hP).trans (h.fz o), fun k hk => own_kept (h.own k hk) (fun z hz he _ => hb z hz he), h.apart, h.pb, Nat.le_trans h.bs hs⟩
theorem PwAt.keep {w w' : World} {P B now : Nat} {dm : Value} {rw_ : Nat → Value} {ls : Nat → List Int} {wd : Nat → Nat} (h : PwAt w P B now dm rw_ ls wd) (hb : Below w.heap.size w w') : PwAt w' P B now dm rw_ ls wd := by
  refine h.keepK hb.size (hb.block P (Nat.lt_of_lt_of_le h.pb h.bs)) (fun k _ he => hb.block k ?_)
  obtain ⟨cs, fr, e⟩ := he
  exact (Array.getElem?_eq_some_iff.1 e).1
theorem PwAt.setNow {w : World} {P B now : Nat} {dm : Value} {rw_ : Nat → Value} {ls : Nat → List Int} {wd : Nat → Nat} (h : PwAt w P B now dm rw_ ls wd) (u : Nat) : PwAt (w.setCell ⟨P, 0, none⟩ (.int .u64 u)) P B u dm rw_ ls wd :=
  ⟨World.cell?_setCell_same _ _ _ h.c0, (cell_setCell_off w P 0 1 _ (by decide)).trans h.c1, fun k hk => (cell_setCell_off w P 0 (2 + k) _ (by omega)).trans (h.cs k hk), fun k hk => (cell_setCell_off w P 0 (706 + k) _ (by omega)).trans (h.cw k hk), fun o => by rw [World.frozen?_setCell]; exact h.fz o, fun k hk => ownsRow_setCell_below (h.own k hk) h.pb _, h.apart, h.pb, by simpa [World.setCell] using h.bs⟩
theorem PwAt.setDue {w : World} {P B now : Nat} {dm : Value} {rw_ : Nat → Value} {ls : Nat → List Int} {wd : Nat → Nat} (h : PwAt w P B now dm rw_ ls wd) (u : Value) : PwAt (w.setCell ⟨P, 1, none⟩ u) P B now u rw_ ls wd :=
  ⟨(cell_setCell_off w P 1 0 _ (by decide)).trans h.c0, World.cell?_setCell_same _ _ _ h.c1, fun k hk => (cell_setCell_off w P 1 (2 + k) _ (by omega)).trans (h.cs k hk), fun k hk => (cell_setCell_off w P 1 (706 + k) _ (by omega)).trans (h.cw k hk), fun o => by rw [World.frozen?_setCell]; exact h.fz o, fun k hk => ownsRow_setCell_below (h.own k hk) h.pb _, h.apart, h.pb, by simpa [World.setCell] using h.bs⟩
theorem PwAt.setWord {w : World} {P B now : Nat} {dm : Value} {rw_ : Nat → Value} {ls : Nat → List Int} {wd : Nat → Nat} (h : PwAt w P B now dm rw_ ls wd) (L x : Nat) (hL : L < 11) : PwAt (w.setCell ⟨P, 706 + L, none⟩ (.int .u64 x)) P B now dm rw_ ls (upd wd L x) := by
  refine ⟨(cell_setCell_off w P (706 + L) 0 _ (by omega)).trans h.c0, (cell_setCell_off w P (706 + L) 1 _ (by omega)).trans h.c1, fun k hk => (cell_setCell_off w P (706 + L) (2 + k) _ (by omega)).trans (h.cs k hk), fun k hk => ?_, fun o => by rw [World.frozen?_setCell]; exact h.fz o, fun k hk => ownsRow_setCell_below (h.own k hk) h.pb _, h.apart, h.pb, by simpa [World.setCell] using h.bs⟩
  by_cases e : k = L
  · subst e; rw [upd_same]; exact World.cell?_setCell_same _ _ _ (h.cw k hk)
  · rw [upd_other _ _ _ e]; exact (cell_setCell_off w P (706 + L) (706 + k) _ (by omega)).trans (h.cw k hk)
/-- A list's slice is stored anew. -/
theorem PwAt.slot {w w7 : World} {P B now : Nat} {dm : Value} {rw_ : Nat → Value} {ls : Nat → List Int} {wd : Nat → Nat} (h : PwAt w P B now dm rw_ ls wd) {k : Nat} (hk : k < 704) {v' : Value} {xs : List Int} {n' : Nat} (hn : n' = xs.length) (hs : w.heap.size ≤ w7.heap.size) (hb : ∀ j, j < w.heap.size → some j ≠ (rw_ k).ownBlock → w7.heap[j]? = w.heap[j]?) (hown : w7.ownsRow B 3 1 v' n' (idsL xs)) (hat : ∀ z, v'.ownBlock = some z → (rw_ k).ownBlock = some z ∨ w.heap.size ≤ z) :
    PwAt (w7.setCell ⟨P, 2 + k, none⟩ v') P B now dm (upd rw_ k v') (upd ls k xs) wd := by
  subst hn
  have hPs : P < w.heap.size := Nat.lt_of_lt_of_le h.pb h.bs
  have hPb : w7.heap[P]? = w.heap[P]? := hb P hPs fun e => by
    have := ((h.own k hk).lt P e.symm).1
    have := h.pb
    omega
  refine ⟨(cell_setCell_off w7 P (2 + k) 0 _ (by omega)).trans ((World.cell?_of_block (a := ⟨P, 0, none⟩) hPb).trans h.c0), (cell_setCell_off w7 P (2 + k) 1 _ (by omega)).trans ((World.cell?_of_block (a := ⟨P, 1, none⟩) hPb).trans h.c1), fun j hj => ?_, fun j hj => (cell_setCell_off w7 P (2 + k) (706 + j) _ (by omega)).trans ((World.cell?_of_block (a := ⟨P, 706 + j, none⟩) hPb).trans (h.cw j hj)), fun o => by rw [World.frozen?_setCell]; exact (World.frozen?_of_block (a := ⟨P, o, none⟩) hPb).trans (h.fz o), fun j hj => ?_, fun i j hi hj hij z hz => ?_, h.pb, by have := h.bs; simp [World.setCell]; omega⟩
  · by_cases e : j = k
    · subst e; rw [upd_same]; exact World.cell?_setCell_same _ _ _ ((World.cell?_of_block (a := ⟨P, 2 + j, none⟩) hPb).trans (h.cs j hj))
    · rw [upd_other _ _ _ e]; exact (cell_setCell_off w7 P (2 + k) (2 + j) _ (by omega)).trans ((World.cell?_of_block (a := ⟨P, 2 + j, none⟩) hPb).trans (h.cs j hj))
  · by_cases e : j = k
    · subst e; rw [upd_same, upd_same]; exact ownsRow_setCell_below hown h.pb _
    · rw [upd_other _ _ _ e, upd_other _ _ _ e]
      refine ownsRow_setCell_below (own_kept (h.own j hj) (fun z _ he hz => ?_)) h.pb _
      refine hb z ?_ (fun e2 => h.apart j k hj hk e z hz e2.symm)
      obtain ⟨cs, fr, e3⟩ := he
      exact (Array.getElem?_eq_some_iff.1 e3).1
  · by_cases e1 : i = k
    · subst e1
      rw [upd_same] at hz
      rw [upd_other _ _ _ (Ne.symm hij)]
      rcases hat z hz with e2 | e2
      · exact fun e3 => h.apart j i hj hk (Ne.symm hij) z e3 e2
      · exact fun e3 => by have := ((h.own j hj).lt z e3).2; omega
    · rw [upd_other _ _ _ e1] at hz
      by_cases e2 : j = k
      · subst e2
        rw [upd_same]
        intro e3
        rcases hat z e3 with e4 | e4
        · exact h.apart i j hi hk e1 z hz e4
        · have := ((h.own i hi).lt z hz).2; omega
      · rw [upd_other _ _ _ e2]; exact h.apart i j hi hj hij z hz

/-- What a call of the wheel may turn: its block; blocks of numbers and maps that were made behind B. -/
structure PF (w w' : World) (P B : Nat) : Prop where
  os : w'.os = w.os
  tape : w'.tape = w.tape
  output : w'.output = w.output
  size : w.heap.size ≤ w'.heap.size
  block : ∀ k, k < w.heap.size → k ≠ P → (k < B ∨ ∃ cs t fr, w.heap[k]? = some (.cells cs t fr) ∧ t ≠ 3) → w'.heap[k]? = w.heap[k]?
theorem PF.refl (w : World) (P B : Nat) : PF w w P B := ⟨rfl, rfl, rfl, Nat.le_refl _, fun _ _ _ _ => rfl⟩
theorem PF.of_below {w w' : World} {P B : Nat} (h : Below w.heap.size w w') : PF w w' P B := ⟨h.os, h.tape, h.output, h.size, fun k hk _ _ => h.block k hk⟩
theorem PF.trans {x y z : World} {P B : Nat} (h : PF x y P B) (g : PF y z P B) : PF x z P B := by
  refine ⟨g.os.trans h.os, g.tape.trans h.tape, g.output.trans h.output, Nat.le_trans h.size g.size, fun k hk hP hr => ?_⟩
  have e := h.block k hk hP hr
  refine (g.block k (Nat.lt_of_lt_of_le hk h.size) hP ?_).trans e
  rcases hr with hr | ⟨cs, t, fr, h1, h2⟩
  · exact Or.inl hr
  · exact Or.inr ⟨cs, t, fr, e.trans h1, h2⟩
theorem PF.setP (w : World) (P B o : Nat) (v : Value) : PF w (w.setCell ⟨P, o, none⟩ v) P B :=
  ⟨rfl, rfl, rfl, by simp [World.setCell], fun k _ hP _ => Below.heap_setCell w ⟨P, o, none⟩ v k (by simpa using hP)⟩
/-- An append to a list of numbers, a store into the map: they turn nothing else. -/
theorem PF.of_grown {w w' : World} {P B : Nat} {ob : Option Nat} (h : w.grownBy w' ob) (ho : ∀ z, ob = some z → B ≤ z ∧ ∀ cs t fr, w.heap[z]? = some (.cells cs t fr) → t = 3) : PF w w' P B := by
  refine ⟨h.os, h.tape, h.output, h.size, fun k hk _ hr => h.block k hk (fun e => ?_)⟩
  obtain ⟨h1, h2⟩ := ho k e.symm
  rcases hr with hr | ⟨cs, t, fr, e1, e2⟩
  · omega
  · exact e2 (h2 cs t fr e1)
theorem own_int {w : World} {B : Nat} {e : TypeId} {size n : Nat} {v : Value} {xs : List Value} (h : w.ownsRow B e size v n xs) : ∀ z, v.ownBlock = some z → B ≤ z ∧ ∀ cs t fr, w.heap[z]? = some (.cells cs t fr) → t = e := by
  intro z hz
  rcases h.2 with ⟨rfl, _⟩ | ⟨g, cap, cur, rfl, hg, hh, _⟩
  · simp [Value.ownBlock] at hz
  · simp only [Value.ownBlock, Option.some.injEq] at hz
    subst hz
    refine ⟨hg, fun cs t fr e => ?_⟩
    rw [hh] at e
    simp at e
    exact e.2.1.symm
theorem PF.below {w w' : World} {P B : Nat} (h : PF w w' P B) (hP : B ≤ P) (hB : B ≤ w.heap.size) : Below B w w' := ⟨h.os, h.tape, h.output, h.size, fun k hk => h.block k (by omega) (by omega) (Or.inl hk)⟩
end Go.Proofs.YtgdcjccbdmcebaaDoor
