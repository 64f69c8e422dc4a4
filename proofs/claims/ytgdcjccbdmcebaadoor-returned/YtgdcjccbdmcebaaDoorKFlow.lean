/- The flow that the statements without the document's answer make of raw numbers. -/
import Derived.Test.YtgdcjccbdmcebaaDoorKFlowM
import Derived.Deep.RegionHeld3
import Derived.Deep.CutRange
import Derived.Deep.DrawnRows
namespace Go.Proofs.YtgdcjccbdmcebaaDoor
open Go.RowKit
set_option maxRecDepth 100000
attribute [local go_sem ↓] Go.wp_at_zero Go.wp_at_succ

/-- The two blocks that flow begins with: the result's, and the flow's own. -/
structure KfI (w x : World) (d : Int) (v : Value) : Prop where
  bl : Below w.heap.size w x
  a0 : x.cell? ⟨w.heap.size, 0, none⟩ = some (.int .i64 0)
  a1 : x.cell? ⟨w.heap.size, 1, none⟩ = some (.slice none 0 0)
  f0 : x.cell? ⟨w.heap.size + 1, 0, none⟩ = some (.int .i64 d)
  f1 : x.cell? ⟨w.heap.size + 1, 1, none⟩ = some v
  za : ∀ j, x.frozen? ⟨w.heap.size, j, none⟩ = false
  zf : ∀ j, x.frozen? ⟨w.heap.size + 1, j, none⟩ = false
  sz : w.heap.size + 1 < x.heap.size
theorem KfI.start (w : World) (d : Int) : KfI w ((w.alloc (.cells #[.int .i64 0, .slice none 0 0] 24)).alloc (.cells #[.int .i64 d, .slice none 0 0] 24)) d (.slice none 0 0) := by
  have e0 := heap_alloc2_old w (.cells #[.int .i64 0, .slice none 0 0] 24) (.cells #[.int .i64 d, .slice none 0 0] 24)
  have e1 := heap_alloc2_new w (.cells #[.int .i64 0, .slice none 0 0] 24) (.cells #[.int .i64 d, .slice none 0 0] 24)
  exact ⟨((Below.refl _ _).alloc (Nat.le_refl _) _).alloc (by simp) _, cell_at e0 0, cell_at e0 1, cell_at e1 0, cell_at e1 1, free_at e0, free_at e1, by simp⟩
theorem KfI.keep {w x y : World} {d : Int} {v : Value} (h : KfI w x d v) (ho : y.os = x.os) (ht : y.tape = x.tape) (hp : y.output = x.output) (hs : x.heap.size ≤ y.heap.size) (hk : ∀ k, k < w.heap.size + 2 → y.heap[k]? = x.heap[k]?) : KfI w y d v := by
  have e0 := hk w.heap.size (by omega)
  have e2 := hk (w.heap.size + 1) (by omega)
  exact ⟨⟨ho.trans h.bl.os, ht.trans h.bl.tape, hp.trans h.bl.output, Nat.le_trans h.bl.size hs, fun k hk2 => (hk k (by omega)).trans (h.bl.block k hk2)⟩,
    (World.cell?_of_block (a := ⟨w.heap.size, 0, none⟩) e0).trans h.a0, (World.cell?_of_block (a := ⟨w.heap.size, 1, none⟩) e0).trans h.a1,
    (World.cell?_of_block (a := ⟨w.heap.size + 1, 0, none⟩) e2).trans h.f0, (World.cell?_of_block (a := ⟨w.heap.size + 1, 1, none⟩) e2).trans h.f1,
    fun j => (World.frozen?_of_block (a := ⟨w.heap.size, j, none⟩) e0).trans (h.za j), fun j => (World.frozen?_of_block (a := ⟨w.heap.size + 1, j, none⟩) e2).trans (h.zf j), Nat.lt_of_lt_of_le h.sz hs⟩
theorem KfI.setV {w x : World} {d : Int} {v : Value} (h : KfI w x d v) (v' : Value) : KfI w (x.setCell ⟨w.heap.size + 1, 1, none⟩ v') d v' :=
  ⟨h.bl.setCell (by simp) _, (setCell_far x _ _ 1 0 _ (by omega)).trans h.a0, (setCell_far x _ _ 1 1 _ (by omega)).trans h.a1, (cell_setCell_off x _ 1 0 _ (by decide)).trans h.f0, World.cell?_setCell_same _ _ _ h.f1,
    fun j => by rw [World.frozen?_setCell]; exact h.za j, fun j => by rw [World.frozen?_setCell]; exact h.zf j, by simpa [World.setCell] using h.sz⟩
theorem KfI.grown {w x y : World} {d : Int} {v : Value} {o : Obj} {rb : Option Nat} (h : KfI w x d v) (hg : (x.alloc o).grownBy y rb) (hr : ∀ z, rb = some z → w.heap.size + 2 ≤ z) : KfI w y d v := by
  have hs : x.heap.size ≤ y.heap.size := by have := hg.size; simp at this; omega
  have hsz := h.sz
  refine h.keep hg.os hg.tape hg.output hs fun k hk => grown_block hg (by omega) fun e => ?_
  have := hr k e.symm
  omega

/-- Within a round that began at w2: the node's seven cells in the block that was new then; nothing else has turned. -/
structure KxI (w2 x : World) (g : Nat → Value) : Prop where
  os : x.os = w2.os
  tape : x.tape = w2.tape
  output : x.output = w2.output
  size : w2.heap.size < x.heap.size
  block : ∀ k, k < w2.heap.size → x.heap[k]? = w2.heap[k]?
  nd : Nd x w2.heap.size g
theorem KxI.start (w2 : World) (u0 u1 u2 u3 u4 u5 : Int) : KxI w2 (w2.alloc (.cells #[.int .i64 u0, .int .i64 u1, .int .i64 u2, .int .i64 u3, .int .i64 u4, .int .i64 u5, .slice none 0 0] 27)) (gg u0 u1 u2 u3 u4 u5 (.slice none 0 0)) := by
  refine ⟨rfl, rfl, rfl, by simp, fun k hk => heap_alloc_before _ _ _ hk, fun j hj => ?_⟩
  have e := heap_alloc_new w2 (.cells #[.int .i64 u0, .int .i64 u1, .int .i64 u2, .int .i64 u3, .int .i64 u4, .int .i64 u5, .slice none 0 0] 27)
  refine ⟨(cell_at e j).trans ?_, free_at e j⟩
  rcases (show j = 0 ∨ j = 1 ∨ j = 2 ∨ j = 3 ∨ j = 4 ∨ j = 5 ∨ j = 6 by omega) with rfl | rfl | rfl | rfl | rfl | rfl | rfl <;> rfl
theorem KxI.set6 {w2 x : World} {u0 u1 u2 u3 u4 u5 : Int} {v : Value} (h : KxI w2 x (gg u0 u1 u2 u3 u4 u5 v)) (v' : Value) : KxI w2 (x.setCell ⟨w2.heap.size, 6, none⟩ v') (gg u0 u1 u2 u3 u4 u5 v') := by
  refine ⟨h.os, h.tape, h.output, by simpa [World.setCell] using h.size, fun k hk => (Below.heap_setCell x ⟨w2.heap.size, 6, none⟩ v' k (by simp; omega)).trans (h.block k hk), fun j hj => ?_⟩
  have := h.nd.set 6 (by omega) v' j hj
  rcases (show j = 0 ∨ j = 1 ∨ j = 2 ∨ j = 3 ∨ j = 4 ∨ j = 5 ∨ j = 6 by omega) with rfl | rfl | rfl | rfl | rfl | rfl | rfl <;> exact this
theorem KxI.grown {w2 x y : World} {g : Nat → Value} {o : Obj} {rb : Option Nat} (h : KxI w2 x g) (hg : (x.alloc o).grownBy y rb) (hr : ∀ z, rb = some z → w2.heap.size + 1 ≤ z) : KxI w2 y g := by
  have hs : x.heap.size ≤ y.heap.size := by have := hg.size; simp at this; omega
  have hsz := h.size
  have hb : ∀ k, k ≤ w2.heap.size → y.heap[k]? = x.heap[k]? := fun k hk => grown_block hg (by omega) fun e => by have := hr k e.symm; omega
  exact ⟨hg.os.trans h.os, hg.tape.trans h.tape, hg.output.trans h.output, by omega, fun k hk => (hb k (by omega)).trans (h.block k hk), h.nd.block (hb _ (Nat.le_refl _))⟩
theorem KxI.drew {w2 x : World} {g : Nat → Value} (h : KxI w2 x g) : KxI w2 x.drew g := ⟨h.os, h.tape, h.output, h.size, h.block, h.nd⟩
theorem KfI.round {w w2 x : World} {d : Int} {v : Value} {g : Nat → Value} (h : KfI w w2 d v) (hx : KxI w2 x g) : KfI w x d v :=
  h.keep hx.os hx.tape hx.output (Nat.le_of_lt hx.size) fun k hk => hx.block k (by have := h.sz; omega)

/-- Ahead of node i: the nodes that are made so far are well. -/
def KflI (w wr : World) (d : Int) (n : Nat) (i : Nat) : Prop :=
  ∃ (F : FlowD) (la : Option Addr) (lc : Nat) (Na : Nat → Option Addr) (Nc : Nat → Nat), F.dl = d ∧ F.n = n ∧ i ≤ n ∧ (∀ j, j < i → NodeW F j) ∧ KfI w wr d (.slice la i lc) ∧ CopyAt (w.heap.size + 2) wr F (.slice la i lc) i Na Nc
/-- Ahead of the k-th node that it may wait for: those that it waits for so far rise, below k. -/
def KinI (w2 wz : World) (u0 u1 u2 u3 u4 u5 : Int) (k : Nat) : Prop :=
  ∃ (m : Nat) (xa : Option Addr) (xc : Nat) (zs : Nat → Int), KxI w2 wz (gg u0 u1 u2 u3 u4 u5 (.slice xa m xc)) ∧ wz.ownsRow (w2.heap.size + 1) 3 1 (.slice xa m xc) m (intsL m zs) ∧ m ≤ k ∧ ∀ j, j < m → 0 ≤ zs j ∧ zs j < k ∧ (0 < j → zs (j - 1) < zs j)

theorem tdiv_in (x : Int) (k : Nat) (hk : 2 ≤ k) (h : -9223372036854775808 ≤ x) (h2 : x ≤ 9223372036854775807) : -9223372036854775808 ≤ x.tdiv k ∧ x.tdiv k ≤ 9223372036854775807 := by
  have h3 : (x.tdiv k).natAbs = x.natAbs / (k : Int).natAbs := Int.natAbs_tdiv x k
  have h4 : x.natAbs / (k : Int).natAbs ≤ x.natAbs / 2 := Nat.div_le_div_left (by simpa using hk) (by omega)
  omega
/-- pick, of a number that was divided. -/
theorem kpickq_any (x : Int) (k : Nat) (n : Int) (w : World) (hk : 2 ≤ k) (h : -9223372036854775808 ≤ x) (h2 : x ≤ 9223372036854775807) (hn : 1 ≤ n) (hn2 : n ≤ 9223372036854775807) :
    Calls Tryd.prog 21 #[.int .i64 (x.tdiv k), .int .i64 n] w fun e w' => ∃ v : Int, e = .returned (.int .i64 v) ∧ 0 ≤ v ∧ v < n ∧ w = w' := by
  have h3 := tdiv_in x k hk h h2
  refine (kpick_any (x.tdiv k) n w h3.1 h3.2 hn hn2).mono ?_
  rintro e w' ⟨rfl, rfl⟩
  exact ⟨_, rfl, pickI_lo _ _ hn, pickI_hi _ _ hn, rfl⟩
theorem kpickv_any (x : Int) (n : Int) (w : World) (h : -9223372036854775808 ≤ x) (h2 : x ≤ 9223372036854775807) (hn : 1 ≤ n) (hn2 : n ≤ 9223372036854775807) :
    Calls Tryd.prog 21 #[.int .i64 x, .int .i64 n] w fun e w' => ∃ v : Int, e = .returned (.int .i64 v) ∧ 0 ≤ v ∧ v < n ∧ w = w' := by
  refine (kpick_any x n w h h2 hn hn2).mono ?_
  rintro e w' ⟨rfl, rfl⟩
  exact ⟨_, rfl, pickI_lo _ _ hn, pickI_hi _ _ hn, rfl⟩

set_option maxHeartbeats 8000000 in
theorem kflow_any (w : World) (c0 d0 : Int) (ab an : Option Addr) (nb cb nn cn : Nat) (fb fn : Nat → Int) (h0 : -9223372036854775808 ≤ c0) (h1 : c0 ≤ 9223372036854775807) (h2 : -9223372036854775808 ≤ d0) (h3 : d0 ≤ 9223372036854775807) (hb : IntsIn w ab nb cb fb) (hn : IntsIn w an nn cn fn) :
    Calls Tryd.prog 19 #[.int .i64 c0, .slice ab nb cb, .slice an nn cn, .int .i64 d0] w fun e w' =>
      (∃ (F : FlowD) (la : Option Addr) (lc : Nat) (Na : Nat → Option Addr) (Nc : Nat → Nat), e = .returned (flV F.dl (.slice la F.n lc)) ∧ CopyAt w.heap.size w' F (.slice la F.n lc) F.n Na Nc ∧ FlowW F F.n ∧ 1 ≤ F.n ∧ F.n ≤ 12) ∧ Below w.heap.size w w' := by
  have HB := Hid.mk hb
  have HN := Hid.mk hn
  obtain ⟨i27, hi27, hz270, hz271, hz272⟩ := info_parts info27
  have HI27 := Hid.mk (And.intro hi27 (And.intro hz270 (And.intro hz271 hz272)))
  obtain ⟨i3, hi3, hz30, hz31, hz32⟩ := info_parts info3
  have HI3 := Hid.mk (And.intro hi3 (And.intro hz30 (And.intro hz31 hz32)))
  have p0 := pickI_lo d0 2000 (by omega)
  have p1 := pickI_hi d0 2000 (by omega)
  have q0 := pickI_lo c0 12 (by omega)
  have q1 := pickI_hi c0 12 (by omega)
  have HP := Hid.mk (And.intro p0 p1)
  clear hb hn hi27 hz270 hz271 hz272 hi3 hz30 hz31 hz32
  go_enter Tryd.func19, Tryd.ntmps19
  go_wp2_with fail
  refine (kpick_any d0 2000 _ h2 h3 (by omega) (by omega)).mono ?_
  rintro e w1 ⟨rfl, rfl⟩
  generalize pickI d0 2000 = d1 at *
  go_wp2_with fail
  refine (kpick_any c0 12 _ h0 h1 (by omega) (by omega)).mono ?_
  rintro e w1 ⟨rfl, rfl⟩
  generalize pickI c0 12 = c1 at *
  obtain ⟨n, rfl⟩ : ∃ n : Nat, c1 = n := ⟨c1.toNat, by omega⟩
  go_wp2_with fail
  have HK0 := Hid.mk (KfI.start w (1 + d1))
  go_loopw [11] (fun iv wr => ∃ i : Nat, iv = .int .i64 i ∧ KflI w wr (1 + d1) (n + 1) i) (fun iv _ => n + 1 - (intOf iv).toNat)
  case atStart => exact ⟨0, rfl, ⟨1 + d1, n + 1, fun _ => 0, fun _ => 0, fun _ => 0, fun _ => 0, fun _ => 0, fun _ => 0, fun _ => 0, fun _ _ => 0⟩, none, 0, fun _ => none, fun _ => 0, rfl, rfl, Nat.zero_le _, fun j hj => by omega, HK0.out, World.ownsRow_nil _ _ _ _, fun i hi => by omega⟩
  case round =>
    obtain ⟨i, rfl, F, la, lc, Na, Nc, hFd, hFn, hi, hnodes, hK, hcp⟩ := hrel
    rename World => wr
    have HK := Hid.mk hK
    have HCP := Hid.mk hcp
    have HW := Hid.mk (And.intro hnodes (And.intro hFd hFn))
    have hsz := hK.sz
    clear hK hcp hnodes hFd hFn HK0
    by_cases h4 : i < n + 1
    case neg =>
      have f0 := HK.out.f0
      have f1 := HK.out.f1
      have a0 := HK.out.a0
      have a1 := HK.out.a1
      have z0 := HK.out.za 0
      have z1 := HK.out.za 1
      obtain rfl : i = n + 1 := by omega
      go_wp2_with fail
      obtain ⟨hnodes, hFd, hFn⟩ := HW.out
      refine bodyPost_ret (v := flV F.dl (.slice la F.n lc)) (by rw [hFd, hFn]; simp [results, Tryd.results19, go_sem, a0, a1]) rfl ⟨⟨F, la, lc, Na, Nc, rfl, ?_, ⟨by rw [hFd]; have := HP.out; omega, by rw [hFn]; exact hnodes⟩, by omega, by omega⟩, ?_⟩
      · rw [hFn]
        have hC3 := HCP.out
        exact CopyAt.base (B := w.heap.size + 2) ⟨ownsRow_setCell_below (ownsRow_setCell_below hC3.own (by simp) _) (by simp) _, fun i hi => ownsRow_setCell_below (ownsRow_setCell_below (hC3.aft i hi) (by simp) _) (by simp) _⟩ (by omega)
      · exact (HK.out.bl.setCell (by simp) _).setCell (by simp) _
    case pos =>
      go_wp2_with fail
      refine (knth_any _ an nn cn fn i (by omega) (HN.out.keep HK.out.bl)).mono ?_
      rintro e w1 ⟨rfl, rfl⟩
      have ht := nthI_lo HN.out i
      generalize nthI nn fn i = at' at *
      go_wp2_with fail
      refine (kpickv_any at' 5 _ ht.1 ht.2 (by omega) (by omega)).mono ?_
      rintro e w2 ⟨v1, rfl, a1, b1, rfl⟩
      go_wp2_with fail
      refine (kpickq_any at' 5 30 _ (by omega) ht.1 ht.2 (by omega) (by omega)).mono ?_
      rintro e w2 ⟨v2, rfl, a2, b2, rfl⟩
      go_wp2_with fail
      refine (kpickq_any at' 150 6 _ (by omega) ht.1 ht.2 (by omega) (by omega)).mono ?_
      rintro e w2 ⟨v3, rfl, a3, b3, rfl⟩
      go_wp2_with fail
      refine (kpickq_any at' 7 4 _ (by omega) ht.1 ht.2 (by omega) (by omega)).mono ?_
      rintro e w2 ⟨v4, rfl, a4, b4, rfl⟩
      go_wp2_with fail
      have hpick : Hid (∀ W, Calls Tryd.prog 21 #[.int .i64 (at'.tdiv 11), .int .i64 20] W fun e w' => e = .returned (.int .i64 (pickI (at'.tdiv 11) 20)) ∧ w' = W) := Hid.mk fun W => kpick_any _ 20 W (tdiv_in at' 11 (by omega) ht.1 ht.2).1 (tdiv_in at' 11 (by omega) ht.1 ht.2).2 (by omega) (by omega)
      have a5 := pickI_lo (at'.tdiv 11) 20 (by omega)
      have b5 := pickI_hi (at'.tdiv 11) 20 (by omega)
      generalize pickI (at'.tdiv 11) 20 = v5 at *
      clear h0 h1 h2 h3
      go_cut [] from 46 to 52 (fun wx => wx = (w1.alloc (.cells #[.int .i64 (1 + v1), .int .i64 (1 + v2), .int .i64 0, .int .i64 (1 + v3), .int .i64 (1 + v3 + v5), .int .i64 v4, .slice none 0 0] 27)).drew)
      case first =>
        have hq : -9223372036854775808 ≤ at'.tdiv 11 ∧ at'.tdiv 11 ≤ 9223372036854775807 := tdiv_in at' 11 (by omega) ht.1 ht.2
        have hwr : IntKind.i64.wrap (at'.tdiv 11) = at'.tdiv 11 := by rw [IntKind.wrap_i64]; omega
        have hw2 : IntKind.i64.wrap (1 + v3 + v5) = 1 + v3 + v5 := by rw [IntKind.wrap_i64]; omega
        clear hq
        go_region_held3 (fun w' => w'.cell? ⟨w1.heap.size, 3, none⟩ = some (.int .i64 (1 + v3))) (go_keep) ((go_at_call 21; refine (hpick.out _).mono ?_; rintro e w' ⟨rfl, rfl⟩))
        all_goals (go_wp2_with fail; go_meet; exact rfl)
      case rest =>
        obtain rfl := hcut
        rename World => w2
        clear hpick
        go_wp2_with fail
        refine (kpickq_any at' 3 2 _ (by omega) ht.1 ht.2 (by omega) (by omega)).mono ?_
        rintro e x ⟨v6, rfl, a6, b6, rfl⟩
        go_upto_if 56 with fail
        go_cut [] from 57 to 61 (fun wx => ∃ v7 : Int, 0 ≤ v7 ∧ v7 ≤ 20 ∧ wx = (w2.alloc (.cells #[.int .i64 (1 + v1), .int .i64 (1 + v2), .int .i64 v7, .int .i64 (1 + v3), .int .i64 (1 + v3 + v5), .int .i64 v4, .slice none 0 0] 27)).drew)
        case first =>
          by_cases h5 : v6 = 1
          · subst h5
            go_wp2_with fail
            refine (kpickq_any at' 13 20 _ (by omega) ht.1 ht.2 (by omega) (by omega)).mono ?_
            rintro e x ⟨v7, rfl, a7, b7, rfl⟩
            go_wp2_with fail
            go_meet
            exact ⟨1 + v7, by omega, by omega, rfl⟩
          · have hx5 : (v6 == 1) = false := by simpa using h5
            go_wp2_with fail
            go_meet
            exact ⟨0, by omega, by omega, rfl⟩
        case rest =>
          obtain ⟨v7, a7, b7, rfl⟩ := hcut
          have HX0 := Hid.mk (KxI.start w2 (1 + v1) (1 + v2) v7 (1 + v3) (1 + v3 + v5) v4).drew
          go_wp2_with fail
          refine (knth_any _ ab nb cb fb i (by omega) (HB.out.keep (HK.out.round HX0.out).bl)).mono ?_
          rintro e x ⟨rfl, rfl⟩
          have hbt := nthI_lo HB.out i
          generalize nthI nb fb i = bt at *
          go_wp2_with fail
          have HNUM : Hid ((1 ≤ 1 + v1 ∧ 1 + v1 ≤ 5) ∧ (1 ≤ 1 + v2 ∧ 1 + v2 ≤ 30) ∧ (0 ≤ v7 ∧ v7 ≤ 20) ∧ (1 ≤ 1 + v3 ∧ 1 + v3 ≤ 6) ∧ (1 + v3 ≤ 1 + v3 + v5 ∧ 1 + v3 + v5 ≤ 30) ∧ (0 ≤ v4 ∧ v4 ≤ 3)) := Hid.mk (by omega)
          clear a1 b1 a2 b2 a3 b3 a4 b4 a5 b5 a6 b6 a7 b7 ht p0 p1
          generalize 1 + v3 + v5 = z4 at *
          generalize 1 + v1 = z0 at *
          generalize 1 + v2 = z1 at *
          generalize 1 + v3 = z3 at *
          go_loopw [15] (fun kv wz => ∃ k : Nat, kv = .int .i64 k ∧ k ≤ i ∧ KinI w2 wz z0 z1 v7 z3 z4 v4 k) (fun kv _ => i - (intOf kv).toNat)
          case atStart => exact ⟨0, rfl, Nat.zero_le _, 0, none, 0, fun _ => 0, HX0.out, World.ownsRow_nil _ _ _ _, Nat.le_refl _, fun j hj => by omega⟩
          case round =>
            obtain ⟨k, rfl, hk, m, xa, xc, zs, hX, hrow, hm, hzs⟩ := hrel
            rename World => wz
            have HX := Hid.mk hX
            have HROW := Hid.mk hrow
            have HZS := Hid.mk hzs
            have hxs := hX.size
            have hrest : Hid (∀ z, (Value.slice xa m xc).ownBlock = some z → w2.heap.size + 1 ≤ z) := Hid.mk fun z hz => (HROW.out.lt z hz).1
            clear hX hrow hzs
            by_cases h5 : k < i
            case pos =>
              go_wp2_with fail
              refine (kpickv_any bt 1048576 _ hbt.1 hbt.2 (by omega) (by omega)).mono ?_
              rintro e x ⟨v8, rfl, a8, b8, rfl⟩
              have n6 : wz.cell? ⟨w2.heap.size, 6, none⟩ = some (.slice xa m xc) := (HX.out.nd 6 (by omega)).1
              go_wp2_with (at_builtin; refine wpList_append_own _ rfl (.tmp 78) (.tmp 80) 25 rfl (w2.heap.size + 1) 3 i3 (.int .i64 0) 1 8 Tryd.underlying25 HI3.out.1 HI3.out.2.1 HI3.out.2.2.1 HI3.out.2.2.2 rfl (by decide) (.slice xa m xc) m (intsL m zs) rfl (HROW.out.alloc _) ⟨wz.heap.size, 0, none⟩ 1 1 [.int .i64 k] rfl rfl (news1 _ _ _ _ rfl) (by intro u hu; simp only [List.mem_singleton] at hu; subst hu; rfl) (by unfold maxLen; omega) (by omega) (by simp; omega) ?_; intro v5' w4 hown4 hgrow4 hiff; clear hiff; obtain ⟨xb, xd, rfl⟩ := own_slice hown4; have hX4 := HX.out.grown hgrow4 hrest.out; have HO4 := Hid.mk (And.intro hown4 hX4); have n4 : w4.cell? ⟨w2.heap.size, 6, none⟩ = some (.slice xa m xc) := (hX4.nd 6 (by omega)).1; have z4' : w4.frozen? ⟨w2.heap.size, 6, none⟩ = false := (hX4.nd 6 (by omega)).2; clear hown4 hgrow4 hX4)
              · go_roundw
                case rel =>
                  refine ⟨k + 1, by go_num, by omega, m + 1, xb, xd, fun j => if j = m then (k : Int) else zs j, HO4.out.2.set6 _, ?_, by omega, fun j hj => ?_⟩
                  · rw [intsL_more]
                    exact ownsRow_setCell_below HO4.out.1 (by simp) _
                  · by_cases e : j = m
                    · subst e
                      simp only [if_true]
                      refine ⟨by omega, by omega, fun h0 => ?_⟩
                      rw [if_neg (by omega)]
                      exact (HZS.out (j - 1) (by omega)).2.1
                    · have h9 := HZS.out j (by omega)
                      simp only [e, if_false]
                      refine ⟨h9.1, by omega, fun h0 => ?_⟩
                      rw [if_neg (by omega)]
                      exact h9.2.2 h0
                case measure => simp [intOf]; omega
              · go_roundw
                case rel => exact ⟨k + 1, by go_num, by omega, m, xa, xc, zs, HX.out, HROW.out, by omega, fun j hj => by have h9 := HZS.out j hj; exact ⟨h9.1, by omega, h9.2.2⟩⟩
                case measure => simp [intOf]; omega
            case neg =>
              obtain rfl : k = i := by omega
              have HK4 := Hid.mk (HK.out.round HX.out)
              have HCP4 : Hid (CopyAt (w.heap.size + 2) wz F (.slice la k lc) k Na Nc) := Hid.mk ⟨own_spare HCP.out.own fun z _ h2 => HX.out.block z h2, fun j hj => own_spare (HCP.out.aft j hj) fun z _ h2 => HX.out.block z h2⟩
              have hla : Hid (∀ z, (Value.slice la k lc).ownBlock = some z → w.heap.size + 2 ≤ z) := Hid.mk fun z hz => (HCP.out.own.lt z hz).1
              have f1 := HK4.out.f1
              have n0 : wz.cell? ⟨w2.heap.size, 0, none⟩ = some (.int .i64 z0) := (HX.out.nd 0 (by omega)).1
              have n1 : wz.cell? ⟨w2.heap.size, 1, none⟩ = some (.int .i64 z1) := (HX.out.nd 1 (by omega)).1
              have n2 : wz.cell? ⟨w2.heap.size, 2, none⟩ = some (.int .i64 v7) := (HX.out.nd 2 (by omega)).1
              have n3 : wz.cell? ⟨w2.heap.size, 3, none⟩ = some (.int .i64 z3) := (HX.out.nd 3 (by omega)).1
              have n4 : wz.cell? ⟨w2.heap.size, 4, none⟩ = some (.int .i64 z4) := (HX.out.nd 4 (by omega)).1
              have n5 : wz.cell? ⟨w2.heap.size, 5, none⟩ = some (.int .i64 v4) := (HX.out.nd 5 (by omega)).1
              have n6 : wz.cell? ⟨w2.heap.size, 6, none⟩ = some (.slice xa m xc) := (HX.out.nd 6 (by omega)).1
              have hones : Hid (∀ u ∈ [Value.int .i64 z0, .int .i64 z1, .int .i64 v7, .int .i64 z3, .int .i64 z4, .int .i64 v4, .slice xa m xc], u.oneCell' = true) := Hid.mk (by intro u hu; simp only [List.mem_cons, List.not_mem_nil, or_false] at hu; rcases hu with rfl | rfl | rfl | rfl | rfl | rfl | rfl <;> rfl)
              go_wp2_with (at_builtin; refine wpList_append_own _ rfl (.tmp 84) (.tmp 86) 22 rfl (w.heap.size + 2) 27 i27 (.agg #[.int .i64 0, .int .i64 0, .int .i64 0, .int .i64 0, .int .i64 0, .int .i64 0, .slice none 0 0]) 7 72 Tryd.underlying22 HI27.out.1 HI27.out.2.1 HI27.out.2.2.1 HI27.out.2.2.2 rfl (by decide) (.slice la k lc) k (nodesL F Na Nc k) rfl (HCP4.out.own.alloc _) ⟨wz.heap.size, 0, none⟩ 1 1 [.int .i64 z0, .int .i64 z1, .int .i64 v7, .int .i64 z3, .int .i64 z4, .int .i64 v4, .slice xa m xc] rfl rfl (news7 _ _ _ _ rfl) hones.out (by unfold maxLen; omega) (by omega) (by simp; omega) ?_; intro v5' w4 hown4 hgrow4 hiff; clear hiff; obtain ⟨xb, xd, rfl⟩ := own_slice hown4; have hC5 := HK4.out.grown hgrow4 hla.out; have HO4 := Hid.mk (And.intro hown4 (And.intro hgrow4 hC5)); have q4 := hC5.f1; have z4' := hC5.zf 1; clear hown4 hgrow4 hC5)
              go_roundw
              case rel =>
                have hs := F.upd_same k z0 z1 v7 z3 z4 v4 m zs
                have han : (F.upd k z0 z1 v7 z3 z4 v4 m zs).an k = m := if_pos rfl
                have haf : (F.upd k z0 z1 v7 z3 z4 v4 m zs).af k = zs := if_pos rfl
                have hnode : [Value.int .i64 z0, .int .i64 z1, .int .i64 v7, .int .i64 z3, .int .i64 z4, .int .i64 v4, .slice xa m xc] = nodeL (F.upd k z0 z1 v7 z3 z4 v4 m zs) k xa xc := by simp [nodeL, FlowD.upd]
                have hown4 := HO4.out.1
                rw [hnode, nodesL_same hs Na Nc k (Nat.le_refl _)] at hown4
                have hrow5 : wz.ownsRow (w.heap.size + 2) 3 1 (.slice xa ((F.upd k z0 z1 v7 z3 z4 v4 m zs).an k) xc) ((F.upd k z0 z1 v7 z3 z4 v4 m zs).an k) (intsL ((F.upd k z0 z1 v7 z3 z4 v4 m zs).an k) ((F.upd k z0 z1 v7 z3 z4 v4 m zs).af k)) := by
                  rw [han, haf]
                  exact own_base HROW.out (by omega)
                have hcp := (HCP4.out.same hs).more (hrow5.alloc (.cells #[.int .i64 z0, .int .i64 z1, .int .i64 v7, .int .i64 z3, .int .i64 z4, .int .i64 v4, .slice xa m xc] 27)) ((Below.refl _ _).alloc (Nat.le_refl _) _) hown4 HO4.out.2.1
                obtain ⟨hnodes, hFd, hFn⟩ := HW.out
                refine ⟨k + 1, by go_num, F.upd k z0 z1 v7 z3 z4 v4 m zs, xb, xd, _, _, hFd, hFn, by omega, fun j hj => ?_, HO4.out.2.2.setV _, ⟨ownsRow_setCell_below hcp.own (by simp) _, fun j hj => ownsRow_setCell_below (hcp.aft j hj) (by simp) _⟩⟩
                by_cases e : j = k
                · subst e
                  obtain ⟨x1, x2, x3, x4, x5, x6⟩ := HNUM.out
                  refine ⟨?_, ?_, ?_, ?_, ?_, ?_, fun q hq => ?_⟩
                  · simpa [FlowD.upd] using x1
                  · simpa [FlowD.upd] using x2
                  · simpa [FlowD.upd] using x3
                  · simpa [FlowD.upd] using x4
                  · simpa [FlowD.upd] using x5
                  · simpa [FlowD.upd] using x6
                  · rw [han] at hq
                    rw [haf]
                    exact HZS.out q hq
                · exact (hnodes j (by omega)).same hs (by omega)
              case measure => simp [intOf]; omega
end Go.Proofs.YtgdcjccbdmcebaaDoor
