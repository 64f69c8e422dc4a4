/- What plain writes into a copy behind the call: it turns nothing but the copy. -/
import Derived.Test.YtgdcjccbdmcebaaDoorWCopy
namespace Go.Proofs.YtgdcjccbdmcebaaDoor
open Go.RowKit
set_option maxRecDepth 100000

/-- A cell that may be written. -/
def Wr (w : World) (b o : Nat) : Prop := (w.cell? ⟨b, o, none⟩).isSome = true ∧ w.frozen? ⟨b, o, none⟩ = false
theorem Wr.set {w : World} {b o : Nat} (h : Wr w b o) (x : Addr) (v : Value) : Wr (w.setCell x v) b o := by
  obtain ⟨h1, h2⟩ := h
  refine ⟨?_, by rw [World.frozen?_setCell]; exact h2⟩
  obtain ⟨u, hu⟩ := Option.isSome_iff_exists.1 h1
  obtain ⟨u', hu'⟩ := cell?_setCell_some (w := w) (p := x) (x := v) (q := ⟨b, o, none⟩) (v := u) hu
  rw [hu']
  rfl


/-- The nodes from k on, in block g, and what they wait for, lie so that they may be written; what a node waits for does not lie in g. -/
structure TurnAt (B : Nat) (w : World) (F : FlowD) (g k : Nat) (Na : Nat → Option Addr) (Nc : Nat → Nat) : Prop where
  hg : B ≤ g
  wr : ∀ i, i < F.n → ∀ j, j < 7 → Wr w g (i * 7 + j)
  af : ∀ i, k ≤ i → i < F.n → w.cell? ⟨g, i * 7 + 6, none⟩ = some (.slice (Na i) (F.an i) (Nc i))
  it : ∀ i, i < F.n → F.an i = 0 ∨ ∃ ab, Na i = some ⟨ab, 0, none⟩ ∧ B ≤ ab ∧ ab ≠ g ∧ F.an i ≤ Nc i ∧ Nc i ≤ maxLen ∧ ∀ m, m < F.an i → Wr w ab m

theorem TurnAt.set {B : Nat} {w : World} {F : FlowD} {g k : Nat} {Na : Nat → Option Addr} {Nc : Nat → Nat} (h : TurnAt B w F g k Na Nc) {x : Addr} (hx : x.block ≠ g) (v : Value) : TurnAt B (w.setCell x v) F g k Na Nc :=
  ⟨h.hg, fun i hi j hj => (h.wr i hi j hj).set x v, fun i h1 h2 => (World.cell?_of_block (w := w) (Below.heap_setCell w x v g (fun e => hx e.symm))).trans (h.af i h1 h2), fun i hi => by
    rcases h.it i hi with h0 | ⟨ab, h1, h2, h3, h4, h5, h6⟩
    · exact Or.inl h0
    · exact Or.inr ⟨ab, h1, h2, h3, h4, h5, fun m hm => (h6 m hm).set x v⟩⟩
theorem TurnAt.setNode {B : Nat} {w : World} {F : FlowD} {g k k' i0 off : Nat} {Na : Nat → Option Addr} {Nc : Nat → Nat} (h : TurnAt B w F g k Na Nc) (hk : k ≤ k') (hi0 : i0 < k') (hoff : off < i0 * 7 + 7) (v : Value) : TurnAt B (w.setCell ⟨g, off, none⟩ v) F g k' Na Nc :=
  ⟨h.hg, fun i hi j' hj' => (h.wr i hi j' hj').set _ v, fun i h1 h2 => by
    have hne : (⟨g, off, none⟩ : Addr).off ≠ i * 7 + 6 := by simp; omega
    have := h.af i (by omega) h2
    rw [← this]
    exact cell_setCell_off w g off (i * 7 + 6) v (by simpa using hne), fun i hi => by
    rcases h.it i hi with h0 | ⟨ab, h1, h2, h3, h4, h5, h6⟩
    · exact Or.inl h0
    · exact Or.inr ⟨ab, h1, h2, h3, h4, h5, fun m hm => (h6 m hm).set _ v⟩⟩
theorem TurnAt.below {B : Nat} {w w' : World} {F : FlowD} {g k : Nat} {Na : Nat → Option Addr} {Nc : Nat → Nat} (h : TurnAt B w F g k Na Nc) (hn : k = 0) (hb : Below w.heap.size w w') : TurnAt B w' F g k Na Nc := by
  have hw : ∀ b o, Wr w b o → Wr w' b o := fun b o ⟨h1, h2⟩ => by
    obtain ⟨u, hu⟩ := Option.isSome_iff_exists.1 h1
    have hlt := World.block_lt_of_cell? _ _ hu
    exact ⟨by rw [hb.cell (p := ⟨b, o, none⟩) hlt]; exact h1, by rw [hb.frozen (p := ⟨b, o, none⟩) hlt]; exact h2⟩
  subst hn
  exact ⟨h.hg, fun i hi j hj => hw _ _ (h.wr i hi j hj), fun i h1 h2 => (hb.cell (p := ⟨g, i * 7 + 6, none⟩) (World.block_lt_of_cell? _ _ (h.af i h1 h2))).trans (h.af i h1 h2), fun i hi => by
    rcases h.it i hi with h0 | ⟨ab, h1, h2, h3, h4, h5, h6⟩
    · exact Or.inl h0
    · exact Or.inr ⟨ab, h1, h2, h3, h4, h5, fun m hm => hw _ _ (h6 m hm)⟩⟩

/-- A copy lies so. -/
theorem CopyAt.turn {B : Nat} {w : World} {F : FlowD} {g cap : Nat} {Na : Nat → Option Addr} {Nc : Nat → Nat} (h : CopyAt B w F (.slice (some ⟨g, 0, none⟩) F.n cap) F.n Na Nc) : TurnAt B w F g 0 Na Nc := by
  have hn := h.node
  have hz : ∀ i j : Nat, (0 + i * 7 + j) = i * 7 + j := fun i j => by omega
  have hz' : ∀ i : Nat, (0 + i * 7) = i * 7 := fun i => by omega
  refine ⟨h.lt.1, fun i hi j hj => ⟨?_, h.own.frozenAt _⟩, fun i _ hi => by have := (hn i hi).af; rwa [hz'] at this, fun i hi => ?_⟩
  · rw [h.own.cellAt (i * 7 + j) (by omega), nodesL_at F Na Nc F.n i j hi hj]
    rcases (show j = 0 ∨ j = 1 ∨ j = 2 ∨ j = 3 ∨ j = 4 ∨ j = 5 ∨ j = 6 by omega) with rfl | rfl | rfl | rfl | rfl | rfl | rfl <;> rfl
  · by_cases h0 : F.an i = 0
    · exact Or.inl h0
    · have ha := h.aft i hi
      rcases ha.2 with ⟨_, h2⟩ | ⟨ab, cap', cur, h2, hb, hh, h3, h4, h5, h6⟩
      · exact absurd h2 h0
      · obtain ⟨h7, _, h8⟩ : Na i = some ⟨ab, 0, none⟩ ∧ F.an i = F.an i ∧ Nc i = cap' := by simpa using h2
        have hap := own_apart ha h.own (by decide)
        rw [h7] at hap
        rw [h7, h8] at ha
        refine Or.inr ⟨ab, h7, hb, ?_, by omega, by omega, fun m hm => ⟨?_, ha.frozenAt m⟩⟩
        · rcases hap with hap | hap
          · simp [Value.ownBlock] at hap
          · intro e; apply hap; simp [Value.ownBlock, e]
        · rw [ha.cellAt m (by omega), intsL_at _ _ _ hm]
          rfl

/-- All that the loops of turn keep. -/
structure TurnI (B : Nat) (w wx : World) (F : FlowD) (g cap k : Nat) (Na : Nat → Option Addr) (Nc : Nat → Nat) : Prop where
  at' : TurnAt B wx F g k Na Nc
  c1 : wx.cell? ⟨w.heap.size, 1, none⟩ = some (.slice (some ⟨g, 0, none⟩) F.n cap)
  sz : w.heap.size < wx.heap.size
  bl : Below B w wx
theorem TurnI.node {B : Nat} {w wx : World} {F : FlowD} {g cap k k' : Nat} {Na : Nat → Option Addr} {Nc : Nat → Nat} (h : TurnI B w wx F g cap k Na Nc) (hgw : g < w.heap.size) (i0 off : Nat) (hk : k ≤ k') (hi0 : i0 < k') (hoff : off < i0 * 7 + 7) (v : Value) :
    TurnI B w (wx.setCell ⟨g, off, none⟩ v) F g cap k' Na Nc :=
  ⟨h.at'.setNode hk hi0 hoff v, (World.cell?_of_block (w := wx) (Below.heap_setCell wx ⟨g, off, none⟩ v w.heap.size (by simp; omega))).trans h.c1, by simpa [World.setCell] using h.sz, h.bl.setCell h.at'.hg v⟩

set_option maxHeartbeats 1000000 in
theorem turn_none (F : FlowD) (a : Option Addr) (cap : Nat) (w : World) (hn : F.n = 0) :
    Calls Tryd.prog 28 #[flV F.dl (.slice a F.n cap)] w fun e w' => e = .returned (.tuple #[]) ∧ Below w.heap.size w w' := by
  rw [hn]
  clear hn
  go_enter Tryd.func28, Tryd.ntmps28
  go_wp2_with fail
  go_loop [7] (fun k => k = .int .i64 0) (fun _ => 0)
  case atStart => rfl
  case round =>
    obtain rfl := hrel
    go_wp2_with fail
    go_end0
    exact ⟨rfl, (Below.refl _ _).alloc (Nat.le_refl _) _⟩

set_option maxHeartbeats 4000000 in
theorem turn_some (F : FlowD) (B g cap : Nat) (Na : Nat → Option Addr) (Nc : Nat → Nat) (w : World) (hB : B ≤ w.heap.size) (hcap : F.n ≤ maxLen) (ht : TurnAt B w F g 0 Na Nc) (hgw : g < w.heap.size) :
    Calls Tryd.prog 28 #[flV F.dl (.slice (some ⟨g, 0, none⟩) F.n cap)] w fun e w' => e = .returned (.tuple #[]) ∧ Below B w w' := by
  unfold maxLen at hcap
  have HT := Hid.mk ht
  clear ht
  go_enter Tryd.func28, Tryd.ntmps28
  go_wp2_with fail
  go_loopw [7] (fun iv wx => ∃ k : Nat, k ≤ F.n ∧ iv = .int .i64 k ∧ TurnAt B wx F g k Na Nc ∧ wx.cell? ⟨w.heap.size, 1, none⟩ = some (.slice (some ⟨g, 0, none⟩) F.n cap) ∧ w.heap.size < wx.heap.size ∧ Below B w wx) (fun iv _ => F.n - (intOf iv).toNat)
  case atStart => exact ⟨0, by omega, rfl, HT.out.below rfl ((Below.refl _ _).alloc (Nat.le_refl _) _), by simp, by simp, (Below.refl _ _).alloc hB _⟩
  case round =>
    obtain ⟨k, hk, rfl, htk, c1, hsz, hbl⟩ := hrel
    rename World => w1
    have HTK := Hid.mk htk
    clear htk
    by_cases h1 : k < F.n
    · have n6 := HTK.out.af k (Nat.le_refl _) h1
      go_wp2_with fail
      go_loopw [17] (fun mv wx => ∃ m : Nat, m ≤ F.an k ∧ mv = .int .i64 m ∧ TurnAt B wx F g k Na Nc ∧ wx.cell? ⟨w.heap.size, 1, none⟩ = some (.slice (some ⟨g, 0, none⟩) F.n cap) ∧ w.heap.size < wx.heap.size ∧ Below B w wx) (fun mv _ => F.an k - (intOf mv).toNat)
      case atStart => exact ⟨0, by omega, rfl, HTK.out, c1, hsz, hbl⟩
      case round =>
        clear n6 c1 hsz hbl
        obtain ⟨m, hm, rfl, htm, c1, hsz, hbl⟩ := hrel
        rename World => w2
        have n6 := htm.af k (Nat.le_refl _) h1
        by_cases h2 : m < F.an k
        · obtain ⟨ab, hA, hB1, hB2, hB3, hB4, hB5⟩ := (htm.it k h1).resolve_left (by omega)
          obtain ⟨ab', hA', _, _, _, _, hW⟩ := (HT.out.it k h1).resolve_left (by omega)
          obtain rfl : ab = ab' := by rw [hA] at hA'; simpa using hA'
          obtain ⟨uw, huw⟩ := Option.isSome_iff_exists.1 (hW m h2).1
          have hlt := World.block_lt_of_cell? _ _ huw
          simp only at hlt
          obtain ⟨u, hu⟩ := Option.isSome_iff_exists.1 (hB5 m h2).1
          have fu := (hB5 m h2).2
          rw [hA] at n6
          unfold maxLen at hB4
          have hset : Hid (∀ v, TurnAt B (w2.setCell ⟨ab, m, none⟩ v) F g k Na Nc ∧ (w2.setCell ⟨ab, m, none⟩ v).cell? ⟨w.heap.size, 1, none⟩ = some (.slice (some ⟨g, 0, none⟩) F.n cap) ∧ w.heap.size < (w2.setCell ⟨ab, m, none⟩ v).heap.size ∧ Below B w (w2.setCell ⟨ab, m, none⟩ v)) := Hid.mk fun v =>
            ⟨htm.set hB2 v, (World.cell?_of_block (w := w2) (Below.heap_setCell w2 ⟨ab, m, none⟩ v w.heap.size (by simp; omega))).trans c1, by simpa [World.setCell] using hsz, hbl.setCell hB1 v⟩
          clear hA hA' hW huw htm hB5 hbl
          go_wp2_with fail
          go_roundw
          case rel => exact ⟨m + 1, by omega, by go_num, hset.out _⟩
          case measure => simp [intOf]; omega
        · obtain rfl : m = F.an k := by omega
          obtain ⟨q0, p0⟩ := htm.wr k h1 0 (by omega)
          obtain ⟨q1, p1⟩ := htm.wr k h1 1 (by omega)
          obtain ⟨q2, p2⟩ := htm.wr k h1 2 (by omega)
          obtain ⟨q3, p3⟩ := htm.wr k h1 3 (by omega)
          obtain ⟨q4, p4⟩ := htm.wr k h1 4 (by omega)
          obtain ⟨q5, p5⟩ := htm.wr k h1 5 (by omega)
          obtain ⟨x0, y0⟩ := Option.isSome_iff_exists.1 q0
          obtain ⟨x1, y1⟩ := Option.isSome_iff_exists.1 q1
          obtain ⟨x2, y2⟩ := Option.isSome_iff_exists.1 q2
          obtain ⟨x3, y3⟩ := Option.isSome_iff_exists.1 q3
          obtain ⟨x4, y4⟩ := Option.isSome_iff_exists.1 q4
          obtain ⟨x5, y5⟩ := Option.isSome_iff_exists.1 q5
          obtain ⟨_, p6⟩ := htm.wr k h1 6 (by omega)
          simp only [Nat.add_zero] at y0 p0
          have hI : TurnI B w w2 F g cap k Na Nc := ⟨htm, c1, hsz, hbl⟩
          have HI := Hid.mk (((((((hI.node (k' := k + 1) hgw k (k * 7) (by omega) (by omega) (by omega) (.int .i64 0)).node (k' := k + 1) hgw k (k * 7 + 1) (by omega) (by omega) (by omega) (.int .i64 0)).node (k' := k + 1) hgw k (k * 7 + 2) (by omega) (by omega) (by omega) (.int .i64 0)).node (k' := k + 1) hgw k (k * 7 + 3) (by omega) (by omega) (by omega) (.int .i64 0)).node (k' := k + 1) hgw k (k * 7 + 4) (by omega) (by omega) (by omega) (.int .i64 0)).node (k' := k + 1) hgw k (k * 7 + 5) (by omega) (by omega) (by omega) (.int .i64 0)).node (k' := k + 1) hgw k (k * 7 + 6) (by omega) (by omega) (by omega) (.slice none 0 0))
          clear htm hbl hI q0 q1 q2 q3 q4 q5
          go_wp2_with fail
          go_roundw
          case rel => exact ⟨k + 1, by omega, by go_num, HI.out.at', HI.out.c1, HI.out.sz, HI.out.bl⟩
          case measure => simp [intOf]; omega
    · go_wp2_with fail
      go_end0
      exact ⟨rfl, hbl⟩
end Go.Proofs.YtgdcjccbdmcebaaDoor
