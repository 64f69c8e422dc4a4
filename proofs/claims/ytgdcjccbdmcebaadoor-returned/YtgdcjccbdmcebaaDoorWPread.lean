/- The program's read: what was thrown is caught, and becomes a fault. -/
import Derived.Test.YtgdcjccbdmcebaaDoorWPnodes
import Derived.Defers
import Derived.Recover
import Derived.Stop.Asserts
import Derived.Laws.Pointers
namespace Go.Proofs.YtgdcjccbdmcebaaDoor
open Go.RowKit Go.Extern.Stop Go.Stop
set_option maxRecDepth 100000

set_option maxHeartbeats 2000000 in
theorem caught_idle (E V : Nat) (w : World) :
    CallsD Tryd.prog 90 #[.pointer (some ⟨E, 0, none⟩), .pointer (some ⟨V, 0, none⟩)] .returning w fun e u' w' => e = .returned (.tuple #[]) ∧ u' = .returning ∧ w' = w := by
  refine callsD_of_wpS Tryd.func90 rfl fun c₀ cs hu => ?_
  apply wpS_seq
  apply wpS_region
  simp [wpOpsS, go_sem, recoverD, hu, Tryd.ntmps90, Exit.thenS]
  rw [show (#[Value.pointer (some ⟨E, 0, none⟩), .pointer (some ⟨V, 0, none⟩)] ++ (Array.replicate 15 undef).setIfInBounds 3 Value.nilIface) = #[.pointer (some ⟨E, 0, none⟩), .pointer (some ⟨V, 0, none⟩), undef, undef, undef, .nilIface, undef, undef, undef, undef, undef, undef, undef, undef, undef, undef, undef] from rfl]
  refine wpS_of_wp ?_
  go_wp2_with fail
  exact ⟨rfl, .returning, by cases c₀; simp_all, .tuple #[], by simp [results, Tryd.results90], rfl, rfl, rfl⟩

theorem assert_badAt (v : Value) (w : World) : (Instr.typeAssert (.iface 171 v) 20 171 true).run Tryd.prog w = .ok (.tuple #[v, .bool true]) w := by kernel_rfl

set_option maxHeartbeats 2000000 in
theorem caught_thrown (E V p : Nat) (older : List PanicEntry) (w : World) (hc : w.cell? ⟨E, 0, none⟩ = some .nilIface) (hz : w.frozen? ⟨E, 0, none⟩ = false) :
    CallsD Tryd.prog 90 #[.pointer (some ⟨E, 0, none⟩), .pointer (some ⟨V, 0, none⟩)] (.panicking ({ v := .iface 171 (.int .i64 (p : Nat)), recovered := false } :: older)) w fun e u' w' =>
      e = .returned (.tuple #[]) ∧ u' = .panicking ({ v := .iface 171 (.int .i64 (p : Nat)), recovered := true } :: older) ∧
      ∃ q w1, w.heap.size ≤ q ∧ FaultAt w1 q 1 p ∧ q < w1.heap.size ∧ Below w.heap.size w w1 ∧ w' = w1.setCell ⟨E, 0, none⟩ (.iface 97 (.pointer (some ⟨q, 0, none⟩))) := by
  refine callsD_of_wpS Tryd.func90 rfl fun c₀ cs hu => ?_
  apply wpS_seq
  apply wpS_region
  simp [wpOpsS, go_sem, recoverD, hu, Tryd.ntmps90, Exit.thenS]
  rw [show (#[Value.pointer (some ⟨E, 0, none⟩), .pointer (some ⟨V, 0, none⟩)] ++ (Array.replicate 15 undef).setIfInBounds 3 (Value.iface 171 (.int .i64 (p : Nat)))) = #[.pointer (some ⟨E, 0, none⟩), .pointer (some ⟨V, 0, none⟩), undef, undef, undef, .iface 171 (.int .i64 (p : Nat)), undef, undef, undef, undef, undef, undef, undef, undef, undef, undef, undef] from rfl]
  refine wpS_of_wp ?_
  have hta := assert_badAt (.int .i64 (p : Nat))
  go_wp2_with fail
  refine (fault_any _ _ _).mono ?_
  rintro e w1 ⟨q, rfl, hq1, hq2, hf, hbq⟩
  have hc1 : w1.cell? ⟨E, 0, none⟩ = some .nilIface := cell_later hbq hc
  have hz1 : w1.frozen? ⟨E, 0, none⟩ = false := (hbq.frozen (p := ⟨E, 0, none⟩) (World.block_lt_of_cell? _ _ hc)).trans hz
  go_wp2_with fail
  exact ⟨rfl, _, rfl, .tuple #[], by simp [results, Tryd.results90], rfl, rfl, q, hq1, w1, hf, hq2, hbq, rfl⟩

/-- What read comes to. -/
def PreadIs (B : Nat) (w' : World) (n : Nat) (f : Nat → Nat) (e : Ending) : Prop :=
  (∃ q s la lc Na Nc, stE n f = .good q s ∧ n ≤ q ∧ e = .returned (.tuple #[flV (flowOf n f).dl (.slice la (flowOf n f).n lc), .nilIface]) ∧ CopyAt B w' (flowOf n f) (.slice la (flowOf n f).n lc) (flowOf n f).n Na Nc) ∨
  (∃ (y blk : Nat) (x : Int) (la : Option Addr) (c lc : Nat), (stE n f = .bad y ∨ ∃ s, stE n f = .good y s ∧ y < n) ∧ e = .returned (.tuple #[flV x (.slice la c lc), .iface 97 (.pointer (some ⟨blk, 0, none⟩))]) ∧ FaultAt w' blk 1 y ∧ blk < w'.heap.size ∧ B ≤ blk)

/-- The blocks that read begins with. -/
structure RdI (w x : World) (d : Int) (v e : Value) : Prop where
  bl : Below w.heap.size w x
  a0 : x.cell? ⟨w.heap.size, 0, none⟩ = some (.int .i64 d)
  a1 : x.cell? ⟨w.heap.size, 1, none⟩ = some v
  e0 : x.cell? ⟨w.heap.size + 1, 0, none⟩ = some e
  v0 : x.cell? ⟨w.heap.size + 1 + 1 + 1, 0, none⟩ = some (.pointer (some ⟨w.heap.size + 1 + 1, 0, none⟩))
  fa0 : x.frozen? ⟨w.heap.size, 0, none⟩ = false
  fa1 : x.frozen? ⟨w.heap.size, 1, none⟩ = false
  fe0 : x.frozen? ⟨w.heap.size + 1, 0, none⟩ = false
theorem RdI.grown {w x y : World} {d : Int} {v e : Value} (h : RdI w x d v e) (hg : x.grownBy y (some (w.heap.size + 1 + 1))) : RdI w y d v e := by
  have hs : w.heap.size + 1 + 1 + 1 < x.heap.size := World.block_lt_of_cell? _ _ h.v0
  have k : ∀ b, b < w.heap.size + 4 → b ≠ w.heap.size + 1 + 1 → y.heap[b]? = x.heap[b]? := fun b hb hne => hg.block b (by omega) (by simpa using hne)
  refine ⟨⟨hg.os.trans h.bl.os, hg.tape.trans h.bl.tape, hg.output.trans h.bl.output, Nat.le_trans h.bl.size hg.size, fun b hb => (k b (by omega) (by omega)).trans (h.bl.block b hb)⟩, ?_, ?_, ?_, ?_, ?_, ?_, ?_⟩
  · exact (World.cell?_of_block (a := ⟨w.heap.size, 0, none⟩) (k _ (by simp) (by simp <;> omega))).trans h.a0
  · exact (World.cell?_of_block (a := ⟨w.heap.size, 1, none⟩) (k _ (by simp) (by simp <;> omega))).trans h.a1
  · exact (World.cell?_of_block (a := ⟨w.heap.size + 1, 0, none⟩) (k _ (by simp) (by simp <;> omega))).trans h.e0
  · exact (World.cell?_of_block (a := ⟨w.heap.size + 1 + 1 + 1, 0, none⟩) (k _ (by simp) (by simp <;> omega))).trans h.v0
  · exact (World.frozen?_of_block (a := ⟨w.heap.size, 0, none⟩) (k _ (by simp) (by simp <;> omega))).trans h.fa0
  · exact (World.frozen?_of_block (a := ⟨w.heap.size, 1, none⟩) (k _ (by simp) (by simp <;> omega))).trans h.fa1
  · exact (World.frozen?_of_block (a := ⟨w.heap.size + 1, 0, none⟩) (k _ (by simp) (by simp <;> omega))).trans h.fe0
theorem setCell_far (x : World) (b b' o o' : Nat) (u : Value) (h : b' ≠ b) : (x.setCell ⟨b, o, none⟩ u).cell? ⟨b', o', none⟩ = x.cell? ⟨b', o', none⟩ := World.cell?_of_block (Below.heap_setCell x ⟨b, o, none⟩ u b' h)
theorem RdI.setD {w x : World} {d : Int} {v e : Value} (h : RdI w x d v e) (d' : Int) : RdI w (x.setCell ⟨w.heap.size, 0, none⟩ (.int .i64 d')) d' v e :=
  ⟨h.bl.setCell (by simp) _, World.cell?_setCell_same _ _ _ h.a0, (cell_setCell_off x _ 0 1 _ (by decide)).trans h.a1, (setCell_far x _ _ 0 0 _ (by omega)).trans h.e0, (setCell_far x _ _ 0 0 _ (by omega)).trans h.v0, by rw [World.frozen?_setCell]; exact h.fa0, by rw [World.frozen?_setCell]; exact h.fa1, by rw [World.frozen?_setCell]; exact h.fe0⟩
theorem RdI.setV {w x : World} {d : Int} {v e : Value} (h : RdI w x d v e) (v' : Value) : RdI w (x.setCell ⟨w.heap.size, 1, none⟩ v') d v' e :=
  ⟨h.bl.setCell (by simp) _, (cell_setCell_off x _ 1 0 _ (by decide)).trans h.a0, World.cell?_setCell_same _ _ _ h.a1, (setCell_far x _ _ 1 0 _ (by omega)).trans h.e0, (setCell_far x _ _ 1 0 _ (by omega)).trans h.v0, by rw [World.frozen?_setCell]; exact h.fa0, by rw [World.frozen?_setCell]; exact h.fa1, by rw [World.frozen?_setCell]; exact h.fe0⟩
theorem RdI.setE {w x : World} {d : Int} {v e : Value} (h : RdI w x d v e) (e' : Value) : RdI w (x.setCell ⟨w.heap.size + 1, 0, none⟩ e') d v e' :=
  ⟨h.bl.setCell (by simp) _, (setCell_far x _ _ 0 0 _ (by omega)).trans h.a0, (setCell_far x _ _ 0 1 _ (by omega)).trans h.a1, World.cell?_setCell_same _ _ _ h.e0, (setCell_far x _ _ 0 0 _ (by omega)).trans h.v0, by rw [World.frozen?_setCell]; exact h.fa0, by rw [World.frozen?_setCell]; exact h.fa1, by rw [World.frozen?_setCell]; exact h.fe0⟩
theorem RdI.below {w x y : World} {d : Int} {v e : Value} (h : RdI w x d v e) (hb : Below x.heap.size x y) : RdI w y d v e := h.grown (grown_below hb)

/-- Behind what was thrown: the fault, and what the flow was. -/
theorem read_thrown {w x w1 : World} {n q p : Nat} {f : Nat → Nat} {d : Int} {la : Option Addr} {c lc : Nat} (hI : RdI w x d (.slice la c lc) .nilIface) (hs : stE n f = .bad p ∨ ∃ s, stE n f = .good p s ∧ p < n) (hq : x.heap.size ≤ q) (hf : FaultAt w1 q 1 p) (hq2 : q < w1.heap.size) (hb : Below x.heap.size x w1) :
    PreadIs w.heap.size (w1.setCell ⟨w.heap.size + 1, 0, none⟩ (.iface 97 (.pointer (some ⟨q, 0, none⟩)))) n f (.returned (.tuple #[flV d (.slice la c lc), .iface 97 (.pointer (some ⟨q, 0, none⟩))])) ∧
    RdI w (w1.setCell ⟨w.heap.size + 1, 0, none⟩ (.iface 97 (.pointer (some ⟨q, 0, none⟩)))) d (.slice la c lc) (.iface 97 (.pointer (some ⟨q, 0, none⟩))) := by
  have hx : w.heap.size + 1 + 1 + 1 < x.heap.size := World.block_lt_of_cell? _ _ hI.v0
  refine ⟨Or.inr ⟨p, q, d, la, c, lc, hs, rfl, ⟨(setCell_far w1 _ _ 0 0 _ (by omega)).trans hf.1, (setCell_far w1 _ _ 0 1 _ (by omega)).trans hf.2⟩, by simpa [World.setCell] using hq2, by omega⟩, (hI.below hb).setE _⟩

theorem alloc4 (w : World) (o1 o2 o3 o4 : Obj) :
    ((((w.alloc o1).alloc o2).alloc o3).alloc o4).heap[w.heap.size]? = some o1 ∧ ((((w.alloc o1).alloc o2).alloc o3).alloc o4).heap[w.heap.size + 1]? = some o2 ∧
    ((((w.alloc o1).alloc o2).alloc o3).alloc o4).heap[w.heap.size + 1 + 1]? = some o3 ∧ ((((w.alloc o1).alloc o2).alloc o3).alloc o4).heap[w.heap.size + 1 + 1 + 1]? = some o4 := by
  have s1 : (w.alloc o1).heap.size = w.heap.size + 1 := by simp
  have s2 : ((w.alloc o1).alloc o2).heap.size = w.heap.size + 1 + 1 := by simp
  have s3 : (((w.alloc o1).alloc o2).alloc o3).heap.size = w.heap.size + 1 + 1 + 1 := by simp
  have n1 := heap_alloc_new w o1
  have n2 := heap_alloc_new (w.alloc o1) o2
  have n3 := heap_alloc_new ((w.alloc o1).alloc o2) o3
  have n4 := heap_alloc_new (((w.alloc o1).alloc o2).alloc o3) o4
  rw [s1] at n2
  rw [s2] at n3
  rw [s3] at n4
  have b2 : Below (w.alloc o1).heap.size (w.alloc o1) ((w.alloc o1).alloc o2) := (Below.refl _ _).alloc (Nat.le_refl _) _
  have b3 : Below ((w.alloc o1).alloc o2).heap.size ((w.alloc o1).alloc o2) (((w.alloc o1).alloc o2).alloc o3) := (Below.refl _ _).alloc (Nat.le_refl _) _
  have b4 : Below (((w.alloc o1).alloc o2).alloc o3).heap.size (((w.alloc o1).alloc o2).alloc o3) ((((w.alloc o1).alloc o2).alloc o3).alloc o4) := (Below.refl _ _).alloc (Nat.le_refl _) _
  refine ⟨?_, ?_, ?_, n4⟩
  · rw [b4.block _ (by omega), b3.block _ (by omega), b2.block _ (by omega)]; exact n1
  · rw [b4.block _ (by omega), b3.block _ (by omega)]; exact n2
  · rw [b4.block _ (by omega)]; exact n3

set_option maxHeartbeats 4000000 in
theorem pread_any (w : World) (a : Option Addr) (n cap : Nat) (f : Nat → Nat) (hn : n ≤ maxLen) (ha : ∀ b o, a = some ⟨b, o, none⟩ → b < w.heap.size) (hb : BytesAt w a n cap f) :
    Calls Tryd.prog 77 #[.slice a n cap] w fun e w' => PreadIs w.heap.size w' n f e ∧ Below w.heap.size w w' := by
  have hmf : ∀ (fn : Fn) (first cap : Array Value) (w : World), (Instr.makeFunc fn first cap).run Tryd.prog w = .ok (.func fn first cap) w := fun _ _ _ _ => rfl
  have HB := Hid.mk hb
  have HA : Hid (∀ b o, a = some ⟨b, o, none⟩ → b ≠ w.heap.size + 1 + 1) := Hid.mk fun b o h => by have := ha b o h; omega
  clear hb ha
  have HI0 : Hid (RdI w ((((w.alloc (.cells #[.int .i64 0, .slice none 0 0] 24)).alloc (.cells #[.nilIface] 69)).alloc (.cells #[.slice a n cap, .int .i64 0] 170)).alloc (.cells #[.pointer (some ⟨w.heap.size + 1 + 1, 0, none⟩)] 168)) 0 (.slice none 0 0) .nilIface) := Hid.mk (by
    obtain ⟨n1, n2, n3, n4⟩ := alloc4 w (.cells #[.int .i64 0, .slice none 0 0] 24) (.cells #[.nilIface] 69) (.cells #[.slice a n cap, .int .i64 0] 170) (.cells #[.pointer (some ⟨w.heap.size + 1 + 1, 0, none⟩)] 168)
    exact ⟨Below.alloc (Below.alloc (Below.alloc (Below.alloc (Below.refl _ _) (Nat.le_refl _) _) (by simp) _) (by simp; omega) _) (by simp; omega) _, cell_at n1 0, cell_at n1 1, cell_at n2 0, cell_at n4 0, free_at n1 0, free_at n1 1, free_at n2 0⟩)
  have HP0 : Hid (PdAt ((((w.alloc (.cells #[.int .i64 0, .slice none 0 0] 24)).alloc (.cells #[.nilIface] 69)).alloc (.cells #[.slice a n cap, .int .i64 0] 170)).alloc (.cells #[.pointer (some ⟨w.heap.size + 1 + 1, 0, none⟩)] 168)) (w.heap.size + 1 + 1) a n cap ((0 : Nat) : Int)) := Hid.mk (by
    obtain ⟨n1, n2, n3, n4⟩ := alloc4 w (.cells #[.int .i64 0, .slice none 0 0] 24) (.cells #[.nilIface] 69) (.cells #[.slice a n cap, .int .i64 0] 170) (.cells #[.pointer (some ⟨w.heap.size + 1 + 1, 0, none⟩)] 168)
    exact ⟨cell_at n3 0, cell_at n3 1, free_at n3 1⟩)
  go_enter_defers Tryd.func77, Tryd.ntmps77
  go_wp2_with fail
  refine (pnum_any _ (w.heap.size + 1 + 1) a n cap f 0 hn (by omega) HP0.out HA.out (HB.out.grown HA.out (grown_below HI0.out.bl))).mono ?_
  rintro e x1 ⟨⟨m, q1, hv, rfl, hpd⟩ | ⟨hv, rfl, hpd⟩, ht⟩
  case inr =>
    have HI1 := Hid.mk (HI0.out.grown ht.grown)
    have HS : Hid (stE n f = .bad 0) := Hid.mk (by
      have h1 : nxN n f 1 (.good 0 0) = .bad 0 := by simp only [nxN]; exact nxS_none hv
      unfold stE st st0
      rw [nxN_stuck h1 (by omega), ndN_bad])
    clear hv hpd ht
    go_wp2_with fail
    refine leaves_cons (f := 90) (args := #[.pointer (some ⟨w.heap.size + 1, 0, none⟩), .pointer (some ⟨w.heap.size + 1 + 1 + 1, 0, none⟩)]) (by simp) (by simp [go_sem]) ?_
    refine (caught_thrown _ _ 0 [] _ HI1.out.e0 HI1.out.fe0).mono ?_
    rintro e u' w'' ⟨rfl, rfl, qf, wf, hq1, hf, hq2, hbf, rfl⟩
    obtain ⟨r1, r2⟩ := read_thrown (n := n) (f := f) HI1.out (Or.inl HS.out) hq1 hf hq2 hbf
    have h0 := r2.a0
    have h1 := r2.a1
    have h2 := r2.e0
    have HZ := Hid.mk (And.intro r1 r2.bl)
    clear r1 r2 hf hbf
    simp [Leaves, settle, results, Tryd.results77, go_sem, h0, h1, h2]
    exact HZ.out
  have hq1n := (numAt_lt hv).2.1
  have hst0 : nxN n f 1 (.good 0 0) = .good q1 0 := by simp only [nxN]; exact nxS_some hv
  have hdl : (flowOf n f).dl = m := by show ((nxV n f (.good 0 0) : Nat) : Int) = m; rw [nxV_some hv]
  have HI1 := Hid.mk (HI0.out.grown ht.grown)
  have HIS := Hid.mk (HI1.out.setD m)
  have HPS := Hid.mk (hpd.set (D := w.heap.size) (o := 0) (by omega) (.int .i64 m))
  have a0 := HI1.out.a0
  have fa0 := HI1.out.fa0
  have v0 := HIS.out.v0
  have hRs : w.heap.size + 1 + 1 < (x1.setCell ⟨w.heap.size, 0, none⟩ (.int .i64 m)).heap.size := by
    have : w.heap.size + 1 + 1 + 1 < (x1.setCell ⟨w.heap.size, 0, none⟩ (.int .i64 m)).heap.size := World.block_lt_of_cell? _ _ v0
    omega
  have hAs : w.heap.size < (x1.setCell ⟨w.heap.size, 0, none⟩ (.int .i64 m)).heap.size := by omega
  clear hv hpd ht
  go_wp2_with fail
  refine (pnodes_any _ (w.heap.size + 1 + 1) (w.heap.size + 1 + 1 + 1) a n cap f q1 0 hst0 hRs (by omega) HIS.out.v0 hn hq1n HPS.out HA.out (HB.out.grown HA.out (grown_below HIS.out.bl))).mono ?_
  rintro e x2 ⟨hx, hg2⟩
  have HI2 := Hid.mk (HIS.out.grown hg2)
  rcases hx with ⟨q2, s2, la, lc, Na, Nc, hst, hq2n, rfl, hcp, hpd2⟩ | ⟨s2, hst, rfl⟩
  case inr =>
    have HS := Hid.mk hst
    clear hst hg2 a0 fa0 v0
    go_wp2_with fail
    refine leaves_cons (f := 90) (args := #[.pointer (some ⟨w.heap.size + 1, 0, none⟩), .pointer (some ⟨w.heap.size + 1 + 1 + 1, 0, none⟩)]) (by simp) (by simp [go_sem]) ?_
    refine (caught_thrown _ _ s2 [] _ HI2.out.e0 HI2.out.fe0).mono ?_
    rintro e u' w'' ⟨rfl, rfl, qf, wf, hq1, hf, hq2, hbf, rfl⟩
    obtain ⟨r1, r2⟩ := read_thrown (n := n) (f := f) HI2.out (Or.inl HS.out) hq1 hf hq2 hbf
    have h0 := r2.a0
    have h1 := r2.a1
    have h2 := r2.e0
    have HZ := Hid.mk (And.intro r1 r2.bl)
    clear r1 r2 hf hbf
    simp [Leaves, settle, results, Tryd.results77, go_sem, h0, h1, h2]
    exact HZ.out
  have HI3 := Hid.mk (HI2.out.setV (.slice la (flowOf n f).n lc))
  have HP3 := Hid.mk (hpd2.set (D := w.heap.size) (o := 1) (by omega) (.slice la (flowOf n f).n lc))
  have HC3 : Hid (CopyAt (x1.setCell ⟨w.heap.size, 0, none⟩ (.int .i64 m)).heap.size (x2.setCell ⟨w.heap.size, 1, none⟩ (.slice la (flowOf n f).n lc)) (flowOf n f) (.slice la (flowOf n f).n lc) (flowOf n f).n Na Nc) := Hid.mk
    ⟨ownsRow_setCell_below hcp.own (by simpa using hAs) _, fun i hi => ownsRow_setCell_below (hcp.aft i hi) (by simpa using hAs) _⟩
  have HS := Hid.mk hst
  clear hst hcp hpd2 hg2 a0 fa0 v0
  have a1 := HI2.out.a1
  have fa1 := HI2.out.fa1
  have v1 := HI3.out.v0
  go_wp2_with fail
  refine (pend_any _ (w.heap.size + 1 + 1) a n cap q2 hn hq2n HP3.out).mono ?_
  rintro e x4 ⟨hx, ht⟩
  have HI4 := Hid.mk (HI3.out.grown ht.grown)
  have HC4 := Hid.mk (HC3.out.grownR ht.grown hRs)
  clear a1 fa1 v1
  rcases hx with ⟨hlt, rfl⟩ | ⟨hle, rfl⟩
  · clear ht
    go_wp2_with fail
    refine leaves_cons (f := 90) (args := #[.pointer (some ⟨w.heap.size + 1, 0, none⟩), .pointer (some ⟨w.heap.size + 1 + 1 + 1, 0, none⟩)]) (by simp) (by simp [go_sem]) ?_
    refine (caught_thrown _ _ q2 [] _ HI4.out.e0 HI4.out.fe0).mono ?_
    rintro e u' w'' ⟨rfl, rfl, qf, wf, hq1, hf, hq2, hbf, rfl⟩
    obtain ⟨r1, r2⟩ := read_thrown (n := n) (f := f) HI4.out (Or.inr ⟨s2, HS.out, hlt⟩) hq1 hf hq2 hbf
    have h0 := r2.a0
    have h1 := r2.a1
    have h2 := r2.e0
    have HZ := Hid.mk (And.intro r1 r2.bl)
    clear r1 r2 hf hbf
    simp [Leaves, settle, results, Tryd.results77, go_sem, h0, h1, h2]
    exact HZ.out
  · clear ht
    have b0 := HI4.out.a0
    have b1 := HI4.out.a1
    have c0 := HI4.out.fa0
    have c1 := HI4.out.fa1
    have g0 := HI4.out.e0
    have g1 := HI4.out.fe0
    have HI5 := Hid.mk (((HI4.out.setD m).setV (.slice la (flowOf n f).n lc)).setE .nilIface)
    have HC5 : Hid (CopyAt w.heap.size (((x4.setCell ⟨w.heap.size, 0, none⟩ (.int .i64 m)).setCell ⟨w.heap.size, 1, none⟩ (.slice la (flowOf n f).n lc)).setCell ⟨w.heap.size + 1, 0, none⟩ .nilIface) (flowOf n f) (.slice la (flowOf n f).n lc) (flowOf n f).n Na Nc) := Hid.mk
      (CopyAt.base (B := (x1.setCell ⟨w.heap.size, 0, none⟩ (.int .i64 m)).heap.size) ⟨ownsRow_setCell_below (ownsRow_setCell_below (ownsRow_setCell_below HC4.out.own (by simp only []; omega) _) (by simp only []; omega) _) (by simp only []; omega) _,
       fun i hi => ownsRow_setCell_below (ownsRow_setCell_below (ownsRow_setCell_below (HC4.out.aft i hi) (by simp only []; omega) _) (by simp only []; omega) _) (by simp only []; omega) _⟩ (by omega))
    go_wp2_with fail
    refine leaves_cons (f := 90) (args := #[.pointer (some ⟨w.heap.size + 1, 0, none⟩), .pointer (some ⟨w.heap.size + 1 + 1 + 1, 0, none⟩)]) (by simp) (by simp [go_sem]) ?_
    refine (caught_idle _ _ _).mono ?_
    rintro e u' w'' ⟨rfl, rfl, rfl⟩
    have h0 := HI5.out.a0
    have h1 := HI5.out.a1
    have h2 := HI5.out.e0
    simp [Leaves, settle, results, Tryd.results77, go_sem, h0, h1, h2]
    exact ⟨Or.inl ⟨q2, s2, la, lc, Na, Nc, HS.out, hle, by rw [hdl], HC5.out⟩, HI5.out.bl⟩
end Go.Proofs.YtgdcjccbdmcebaaDoor
