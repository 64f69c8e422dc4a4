/- A flow that is handed in, out of its reading: how it lies in memory. -/
import Derived.Test.YtgdcjccbdmcebaaDoorWPlain
import Derived.ProofKit
import Derived.OpenShut
import Derived.Lib.SmallJoins
import Derived.Deep.Slices
import Derived.SizedLaws
namespace Go.Proofs.YtgdcjccbdmcebaaDoor
open Go.RowKit Go.ChangeShapes Go.WideShapes Go.Joins Go.Deep
set_option maxRecDepth 100000

theorem cells24 : Tryd.prog.cellsOf 24 = 2 := by kernel_rfl
theorem cells27 : Tryd.prog.cellsOf 27 = 7 := by kernel_rfl
theorem cells3 : Tryd.prog.cellsOf 3 = 1 := by kernel_rfl
theorem cells25 : Tryd.prog.cellsOf 25 = 1 := by kernel_rfl
theorem cells22 : Tryd.prog.cellsOf 22 = 1 := by kernel_rfl
theorem bytes27 : Tryd.prog.bytesOf 27 = 72 := by kernel_rfl
theorem bytes3 : Tryd.prog.bytesOf 3 = 8 := by kernel_rfl

/-- One node, as it is read. -/
structure NodeR where
  bu : Int
  cl : Int
  be : Int
  ba : Int
  ca : Int
  ji : Int
  a : Option Addr
  n : Nat
  c : Nat
  f : Nat → Int
def NodeR.z : NodeR := ⟨0, 0, 0, 0, 0, 0, none, 0, 0, fun _ => 0⟩

/-- A list of ints, out of its reading. -/
theorem open_after {H : Type} {enc : TypeId × Value → H} {W : World} {fuel : Nat} {cs : List Value} {x : DataW H × List MemPlace} (h : DataW.trod enc Tryd.prog W 0 (fun _ => true) true fuel 25 cs = some x)
    (hw : ∀ n ∈ x.1.weights Tryd.prog 25, n ≤ reachBytes) : ∃ (a : Option Addr) (n c : Nat) (f : Nat → Int), cs = [.slice a n c] ∧ IntsAt W a n c f ∧ (a = none → c = 0) ∧ n * 8 ≤ reachBytes ∧ n ≤ maxLen ∧ ∀ k, k < n → (Lit.int .i64 (f k)).wf = true := by
  rcases open_ints Tryd.underlying25 Tryd.underlying3 cells3 h with ⟨rfl, rfl⟩ | ⟨a, len, cap, zs, rfl, _, hl, hm, hz, rfl, hcell, hwf⟩
  · exact ⟨none, 0, 0, fun _ => 0, rfl, Or.inl rfl, fun _ => rfl, Nat.zero_le _, Nat.zero_le _, fun k hk => by omega⟩
  · simp only [if_true] at hz
    have hw2 := hw ((lits .i64 (zs.take len) : List (DataW H)).length * 8 + (lits .i64 (zs.drop len) : List (DataW H)).length * 8) (by
      simp [DataW.weights, Tryd.underlying25, bytes3, Nat.add_mul])
    simp only [lits, List.length_map, List.length_take, List.length_drop] at hw2
    refine ⟨some a, len, cap, fun k => zs.getD k 0, rfl, ?_, (fun h => by cases h), by omega, by omega, fun k hk => ?_⟩
    · by_cases h0 : len = 0
      · exact Or.inl h0
      · obtain ⟨b, off, rfl, hc⟩ := ints_at hcell (by omega)
        refine Or.inr ⟨b, off, rfl, hl, hm, ?_, fun k hk => hc k (by omega)⟩
        have := World.block_lt_of_cell? _ _ (hc 0 (by omega))
        exact this
    · refine hwf _ ?_
      show zs.getD k 0 ∈ zs
      rw [List.getD_eq_getElem?_getD, List.getElem?_eq_getElem (by omega)]
      exact List.getElem_mem _

theorem list7 {cs : List Value} (h : cs.length = 7) : ∃ c0 c1 c2 c3 c4 c5 c6, cs = [c0, c1, c2, c3, c4, c5, c6] := by
  match cs, h with
  | [c0, c1, c2, c3, c4, c5, c6], _ => exact ⟨c0, c1, c2, c3, c4, c5, c6, rfl⟩
theorem list7' {α : Type} {cs : List α} (h : cs.length = 7) : ∃ c0 c1 c2 c3 c4 c5 c6, cs = [c0, c1, c2, c3, c4, c5, c6] := by
  match cs, h with
  | [c0, c1, c2, c3, c4, c5, c6], _ => exact ⟨c0, c1, c2, c3, c4, c5, c6, rfl⟩

/-- A node, out of its reading. -/
theorem open_node {H : Type} {enc : TypeId × Value → H} {W : World} {fuel : Nat} {cs : List Value} {x : DataW H × List MemPlace} (h : DataW.trod enc Tryd.prog W 0 (fun _ => true) true fuel 27 cs = some x)
    (hw : ∀ n ∈ x.1.weights Tryd.prog 27, n ≤ reachBytes) : ∃ r : NodeR, cs = [.int .i64 r.bu, .int .i64 r.cl, .int .i64 r.be, .int .i64 r.ba, .int .i64 r.ca, .int .i64 r.ji, .slice r.a r.n r.c] ∧ IntsAt W r.a r.n r.c r.f ∧ (r.a = none → r.c = 0) ∧ r.n * 8 ≤ reachBytes ∧ r.n ≤ maxLen := by
  obtain ⟨xs, n, _, rfl, hl, hxl, hf⟩ := DataW.trod_struct Tryd.underlying27 h
  rw [cells27] at hl
  obtain ⟨c0, c1, c2, c3, c4, c5, c6, rfl⟩ := list7 hl
  obtain ⟨x0, x1, x2, x3, x4, x5, x6, rfl⟩ := list7' hxl
  have h0 : DataW.trod enc Tryd.prog W 0 (fun _ => true) true n 3 [c0] = some x0 := by simpa [cells3] using hf 0 _ rfl
  have h1 : DataW.trod enc Tryd.prog W 0 (fun _ => true) true n 3 [c1] = some x1 := by simpa [cells3] using hf 1 _ rfl
  have h2 : DataW.trod enc Tryd.prog W 0 (fun _ => true) true n 3 [c2] = some x2 := by simpa [cells3] using hf 2 _ rfl
  have h3 : DataW.trod enc Tryd.prog W 0 (fun _ => true) true n 3 [c3] = some x3 := by simpa [cells3] using hf 3 _ rfl
  have h4 : DataW.trod enc Tryd.prog W 0 (fun _ => true) true n 3 [c4] = some x4 := by simpa [cells3] using hf 4 _ rfl
  have h5 : DataW.trod enc Tryd.prog W 0 (fun _ => true) true n 3 [c5] = some x5 := by simpa [cells3] using hf 5 _ rfl
  have h6 : DataW.trod enc Tryd.prog W 0 (fun _ => true) true n 25 [c6] = some x6 := by simpa [cells25] using hf 6 _ rfl
  obtain ⟨z0, e0, rfl, _⟩ := DataW.trod_int Tryd.underlying3 h0
  obtain ⟨z1, e1, rfl, _⟩ := DataW.trod_int Tryd.underlying3 h1
  obtain ⟨z2, e2, rfl, _⟩ := DataW.trod_int Tryd.underlying3 h2
  obtain ⟨z3, e3, rfl, _⟩ := DataW.trod_int Tryd.underlying3 h3
  obtain ⟨z4, e4, rfl, _⟩ := DataW.trod_int Tryd.underlying3 h4
  obtain ⟨z5, e5, rfl, _⟩ := DataW.trod_int Tryd.underlying3 h5
  obtain ⟨a, m, c, f, e6, hi, hn, hs, hm, _⟩ := open_after h6 (fun k hk => hw k (by simp [DataW.weights, DataW.weightsEach, Tryd.underlying27, hk]))
  simp only [List.cons.injEq, and_true] at e0 e1 e2 e3 e4 e5 e6
  subst e0 e1 e2 e3 e4 e5 e6
  exact ⟨⟨z0, z1, z2, z3, z4, z5, a, m, c, f⟩, rfl, hi, hn, hs, hm⟩

theorem weightsAll_mem {H : Type} {P : Program} {e : TypeId} {d : DataW H} {l : List (DataW H)} (h : d ∈ l) : ∀ n ∈ d.weights P e, n ∈ DataW.weightsAll P e l := by
  induction l with
  | nil => cases h
  | cons a r ih =>
    intro n hn
    rw [DataW.weightsAll]
    rcases List.mem_cons.1 h with rfl | h
    · exact List.mem_append_left _ hn
    · exact List.mem_append_right _ (ih h n hn)

/-- A flow, out of its reading. -/
theorem open_flow {H : Type} {enc : TypeId × Value → H} {W : World} {base : Nat} {v : Value} {d : DataW H} {p : List MemPlace} (hval : Value.okWide Tryd.prog W .any base 24 v)
    (h : DataW.Trod enc Tryd.prog W 0 (fun _ => true) true 24 v d p) (hw : ∀ n ∈ d.weights Tryd.prog 24, n ≤ reachBytes) (ht : TabIn W) (hg : 1 < W.heap.size) :
    ∃ (F : FlowD) (a : Option Addr) (cap : Nat) (Aa : Nat → Option Addr) (Ac : Nat → Nat), v = flV F.dl (.slice a F.n cap) ∧ FlowIn W F a cap Aa Ac := by
  obtain ⟨c0, c1, y0, y1, m, rfl, rfl, rfl, hy0, hy1⟩ := open_agg2 Tryd.underlying24 (by kernel_rfl) cells24 hval h
  obtain ⟨dl, e0, rfl, _⟩ := DataW.trod_int Tryd.underlying3 hy0
  simp only [List.cons.injEq, and_true] at e0
  subst e0
  have hw1 : ∀ n ∈ y1.1.weights Tryd.prog 22, n ≤ reachBytes := fun n hn => hw n (by simp [DataW.weights, DataW.weightsEach, Tryd.underlying24, hn])
  rcases open_slice Tryd.underlying22 hy1 with ⟨e1, rfl⟩ | ⟨a, len, cap, mm, nn, D, Pl, e1, _, hl, hm, hmm, rfl, hx⟩
  · simp only [List.cons.injEq, and_true] at e1
    subst e1
    exact ⟨⟨dl, 0, fun _ => 0, fun _ => 0, fun _ => 0, fun _ => 0, fun _ => 0, fun _ => 0, fun _ => 0, fun _ _ => 0⟩, none, 0, fun _ => none, fun _ => 0, rfl, Or.inl rfl, by simp, by simp, fun i hi => absurd hi (Nat.not_lt_zero _), fun i hi => absurd hi (Nat.not_lt_zero _), ht, hg⟩
  · simp only [List.cons.injEq, and_true] at e1
    subst e1
    simp only [if_true] at hmm
    obtain rfl : cap = mm := hmm.symm
    rw [cells27] at hx
    have hwl := hw1 (len * 72 + (cap - len) * 72) (by simp [DataW.weights, Tryd.underlying22, bytes27, Nat.add_mul])
    have hwd : ∀ i, i < len → ∀ n ∈ (D i).weights Tryd.prog 27, n ≤ reachBytes := fun i hi n hn => hw1 n (by
      simp only [DataW.weights, Tryd.underlying22]
      exact List.mem_cons_of_mem _ (List.mem_append_left _ (weightsAll_mem (List.mem_map.2 ⟨i, List.mem_range.2 hi, rfl⟩) n hn)))
    haveI : Inhabited NodeR := ⟨NodeR.z⟩
    obtain ⟨R, hR⟩ := choose_lt (α := NodeR) (n := len) (p := fun i r => W.cells? 0 (a.add (i * 7)) 7 = some [.int .i64 r.bu, .int .i64 r.cl, .int .i64 r.be, .int .i64 r.ba, .int .i64 r.ca, .int .i64 r.ji, .slice r.a r.n r.c] ∧ IntsAt W r.a r.n r.c r.f ∧ (r.a = none → r.c = 0) ∧ r.n * 8 ≤ reachBytes ∧ r.n ≤ maxLen) (fun i hi => by
      obtain ⟨cs', h1, h2⟩ := hx i (by omega)
      obtain ⟨r, rfl, h3⟩ := open_node h2 (hwd i hi)
      exact ⟨r, h1, h3⟩)
    have hrb : reachBytes ≤ 140737488355328 := by decide
    refine ⟨⟨dl, len, fun i => (R i).bu, fun i => (R i).cl, fun i => (R i).be, fun i => (R i).ba, fun i => (R i).ca, fun i => (R i).ji, fun i => (R i).n, fun i => (R i).f⟩, some a, cap, fun i => (R i).a, fun i => (R i).c, rfl, ?_, by simp only; omega, by simp only; omega, fun i hi => (hR i hi).2.2.1, fun i hi => Nat.le_trans (hR i hi).2.2.2.1 hrb, ht, hg⟩
    by_cases h0 : len = 0
    · exact Or.inl h0
    · obtain ⟨b, off, spot⟩ := a
      have hc0 := (World.cells?_some (hR 0 (by omega)).1).2.2 0 (by omega)
      simp only [Nat.zero_mul, Addr.add, if_true, List.getElem?_cons_zero] at hc0
      have hspot : spot = none := by simpa using World.cell?_spot hc0
      subst hspot
      refine Or.inr ⟨b, off, rfl, hl, hm, World.block_lt_of_cell? _ _ hc0, fun i hi => ?_⟩
      have hci := (World.cells?_some (hR i hi).1).2.2
      have key : ∀ j, j < 7 → W.cell? ⟨b, off + i * 7 + j, none⟩ = [Value.int .i64 (R i).bu, .int .i64 (R i).cl, .int .i64 (R i).be, .int .i64 (R i).ba, .int .i64 (R i).ca, .int .i64 (R i).ji, .slice (R i).a (R i).n (R i).c][j]? := fun j hj => by
        have := hci j hj
        rwa [add_plain, add_plain] at this
      exact ⟨key 0 (by omega), key 1 (by omega), key 2 (by omega), key 3 (by omega), key 4 (by omega), key 5 (by omega), key 6 (by omega), (hR i hi).2.1⟩
end Go.Proofs.YtgdcjccbdmcebaaDoor
