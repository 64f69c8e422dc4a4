/- What plain writes into a copy behind the call turns no other block. -/
import Derived.Test.YtgdcjccbdmcebaaDoorWTurn
namespace Go.Proofs.YtgdcjccbdmcebaaDoor
open Go.RowKit
set_option maxRecDepth 100000

/-- No block of w has turned in wx but the copy's own. -/
def Sp (w wx : World) (F : FlowD) (g : Nat) (Na : Nat → Option Addr) : Prop :=
  ∀ z, z < w.heap.size → z ≠ g → (∀ i, i < F.n → F.an i ≠ 0 → Na i ≠ some ⟨z, 0, none⟩) → wx.heap[z]? = w.heap[z]?
theorem Sp.alloc (w : World) (o : Obj) (F : FlowD) (g : Nat) (Na : Nat → Option Addr) : Sp w (w.alloc o) F g Na := fun z hz _ _ => ((Below.refl _ w).alloc (Nat.le_refl _) o).block z hz
theorem Sp.setG {w wx : World} {F : FlowD} {g : Nat} {Na : Nat → Option Addr} (h : Sp w wx F g Na) (o : Nat) (v : Value) : Sp w (wx.setCell ⟨g, o, none⟩ v) F g Na := fun z hz hg hn =>
  (Below.heap_setCell wx ⟨g, o, none⟩ v z hg).trans (h z hz hg hn)
theorem Sp.setA {w wx : World} {F : FlowD} {g : Nat} {Na : Nat → Option Addr} (h : Sp w wx F g Na) {k ab : Nat} (hk : k < F.n) (hm : F.an k ≠ 0) (hA : Na k = some ⟨ab, 0, none⟩) (o : Nat) (v : Value) : Sp w (wx.setCell ⟨ab, o, none⟩ v) F g Na := fun z hz hg hn =>
  (Below.heap_setCell wx ⟨ab, o, none⟩ v z (fun e => hn k hk hm (by rw [hA, e]))).trans (h z hz hg hn)

set_option maxHeartbeats 4000000 in
theorem turn_spare (F : FlowD) (B g cap : Nat) (Na : Nat → Option Addr) (Nc : Nat → Nat) (w : World) (hB : B ≤ w.heap.size) (hcap : F.n ≤ maxLen) (ht : TurnAt B w F g 0 Na Nc) (hgw : g < w.heap.size) :
    Calls Tryd.prog 28 #[flV F.dl (.slice (some ⟨g, 0, none⟩) F.n cap)] w fun e w' => e = .returned (.tuple #[]) ∧ Below B w w' ∧ Sp w w' F g Na := by
  unfold maxLen at hcap
  have HT := Hid.mk ht
  clear ht
  go_enter Tryd.func28, Tryd.ntmps28
  go_wp2_with fail
  go_loopw [7] (fun iv wx => ∃ k : Nat, k ≤ F.n ∧ iv = .int .i64 k ∧ TurnAt B wx F g k Na Nc ∧ wx.cell? ⟨w.heap.size, 1, none⟩ = some (.slice (some ⟨g, 0, none⟩) F.n cap) ∧ w.heap.size < wx.heap.size ∧ Below B w wx ∧ Sp w wx F g Na) (fun iv _ => F.n - (intOf iv).toNat)
  case atStart => exact ⟨0, by omega, rfl, HT.out.below rfl ((Below.refl _ _).alloc (Nat.le_refl _) _), by simp, by simp, (Below.refl _ _).alloc hB _, Sp.alloc _ _ _ _ _⟩
  case round =>
    obtain ⟨k, hk, rfl, htk, c1, hsz, hbl, hsp⟩ := hrel
    have HSP := Hid.mk hsp
    clear hsp
    rename World => w1
    have HTK := Hid.mk htk
    clear htk
    by_cases h1 : k < F.n
    · have n6 := HTK.out.af k (Nat.le_refl _) h1
      go_wp2_with fail
      go_loopw [17] (fun mv wx => ∃ m : Nat, m ≤ F.an k ∧ mv = .int .i64 m ∧ TurnAt B wx F g k Na Nc ∧ wx.cell? ⟨w.heap.size, 1, none⟩ = some (.slice (some ⟨g, 0, none⟩) F.n cap) ∧ w.heap.size < wx.heap.size ∧ Below B w wx ∧ Sp w wx F g Na) (fun mv _ => F.an k - (intOf mv).toNat)
      case atStart => exact ⟨0, by omega, rfl, HTK.out, c1, hsz, hbl, HSP.out⟩
      case round =>
        clear n6 c1 hsz hbl
        obtain ⟨m, hm, rfl, htm, c1, hsz, hbl, hsp⟩ := hrel
        have HSP2 := Hid.mk hsp
        clear hsp
        rename World => w2
        have n6 := htm.af k (Nat.le_refl _) h1
        by_cases h2 : m < F.an k
        · obtain ⟨ab, hA, hB1, hB2, hB3, hB4, hB5⟩ := (htm.it k h1).resolve_left (by omega)
          obtain ⟨ab', hA', _, _, _, _, hW⟩ := (HT.out.it k h1).resolve_left (by omega)
          obtain rfl : ab = ab' := by rw [hA] at hA'; simpa using hA'
          obtain ⟨uw, huw⟩ := Option.isSome_iff_exists.1 (hW m h2).1
          have hlt := World.block_lt_of_cell? _ _ huw
          simp only at hlt
          obtain ⟨u, hu⟩ := Option.isSome_iff_exists.1 (hB5 m h2).1
          have fu := (hB5 m h2).2
          rw [hA] at n6
          unfold maxLen at hB4
          have hset : Hid (∀ v, TurnAt B (w2.setCell ⟨ab, m, none⟩ v) F g k Na Nc ∧ (w2.setCell ⟨ab, m, none⟩ v).cell? ⟨w.heap.size, 1, none⟩ = some (.slice (some ⟨g, 0, none⟩) F.n cap) ∧ w.heap.size < (w2.setCell ⟨ab, m, none⟩ v).heap.size ∧ Below B w (w2.setCell ⟨ab, m, none⟩ v) ∧ Sp w (w2.setCell ⟨ab, m, none⟩ v) F g Na) := Hid.mk fun v =>
            ⟨htm.set hB2 v, (World.cell?_of_block (w := w2) (Below.heap_setCell w2 ⟨ab, m, none⟩ v w.heap.size (by simp; omega))).trans c1, by simpa [World.setCell] using hsz, hbl.setCell hB1 v, HSP2.out.setA h1 (by omega) hA m v⟩
          clear hA hA' hW huw htm hB5 hbl
          go_wp2_with fail
          go_roundw
          case rel => exact ⟨m + 1, by omega, by go_num, hset.out _⟩
          case measure => simp [intOf]; omega
        · obtain rfl : m = F.an k := by omega
          obtain ⟨q0, p0⟩ := htm.wr k h1 0 (by omega)
          obtain ⟨q1, p1⟩ := htm.wr k h1 1 (by omega)
          obtain ⟨q2, p2⟩ := htm.wr k h1 2 (by omega)
          obtain ⟨q3, p3⟩ := htm.wr k h1 3 (by omega)
          obtain ⟨q4, p4⟩ := htm.wr k h1 4 (by omega)
          obtain ⟨q5, p5⟩ := htm.wr k h1 5 (by omega)
          obtain ⟨x0, y0⟩ := Option.isSome_iff_exists.1 q0
          obtain ⟨x1, y1⟩ := Option.isSome_iff_exists.1 q1
          obtain ⟨x2, y2⟩ := Option.isSome_iff_exists.1 q2
          obtain ⟨x3, y3⟩ := Option.isSome_iff_exists.1 q3
          obtain ⟨x4, y4⟩ := Option.isSome_iff_exists.1 q4
          obtain ⟨x5, y5⟩ := Option.isSome_iff_exists.1 q5
          obtain ⟨_, p6⟩ := htm.wr k h1 6 (by omega)
          simp only [Nat.add_zero] at y0 p0
          have hI : TurnI B w w2 F g cap k Na Nc := ⟨htm, c1, hsz, hbl⟩
          have HI := Hid.mk (((((((hI.node (k' := k + 1) hgw k (k * 7) (by omega) (by omega) (by omega) (.int .i64 0)).node (k' := k + 1) hgw k (k * 7 + 1) (by omega) (by omega) (by omega) (.int .i64 0)).node (k' := k + 1) hgw k (k * 7 + 2) (by omega) (by omega) (by omega) (.int .i64 0)).node (k' := k + 1) hgw k (k * 7 + 3) (by omega) (by omega) (by omega) (.int .i64 0)).node (k' := k + 1) hgw k (k * 7 + 4) (by omega) (by omega) (by omega) (.int .i64 0)).node (k' := k + 1) hgw k (k * 7 + 5) (by omega) (by omega) (by omega) (.int .i64 0)).node (k' := k + 1) hgw k (k * 7 + 6) (by omega) (by omega) (by omega) (.slice none 0 0))
          clear htm hbl hI q0 q1 q2 q3 q4 q5
          go_wp2_with fail
          go_roundw
          case rel => exact ⟨k + 1, by omega, by go_num, HI.out.at', HI.out.c1, HI.out.sz, HI.out.bl, (((((((HSP2.out.setG _ _).setG _ _).setG _ _).setG _ _).setG _ _).setG _ _).setG _ _)⟩
          case measure => simp [intOf]; omega
    · go_wp2_with fail
      go_end0
      exact ⟨rfl, hbl, HSP.out⟩

theorem turn_copy (F : FlowD) (B : Nat) (la : Option Addr) (lc : Nat) (Na : Nat → Option Addr) (Nc : Nat → Nat) (w0 w : World) (hB : B ≤ w0.heap.size) (hn : F.n ≤ maxLen) (h : CopyAt B w0 F (.slice la F.n lc) F.n Na Nc) (hb0 : Below w0.heap.size w0 w) :
    Calls Tryd.prog 28 #[flV F.dl (.slice la F.n lc)] w fun e w' => e = .returned (.tuple #[]) ∧ Below B w w' ∧ ∀ z, w0.heap.size ≤ z → z < w.heap.size → w'.heap[z]? = w.heap[z]? := by
  by_cases h0 : F.n = 0
  · refine (turn_none F la lc w h0).mono ?_
    rintro e w' ⟨rfl, hb⟩
    exact ⟨rfl, hb.mono (Nat.le_trans hB hb0.size), fun z _ hz => hb.block z hz⟩
  · have h9 := h.below hb0
    rcases h.own.2 with ⟨_, h2⟩ | ⟨g, cap, cur, h2, hBg, hh, _⟩
    · exact absurd h2 h0
    · obtain ⟨h7, _, h8⟩ : la = some ⟨g, 0, none⟩ ∧ F.n = F.n ∧ lc = cap := by simpa using h2
      subst h7 h8
      have hg0 := h.lt.2
      have hs := hb0.size
      refine (turn_spare F B g lc Na Nc w (by omega) hn h9.turn h9.lt.2).mono ?_
      rintro e w' ⟨rfl, hb, hsp⟩
      refine ⟨rfl, hb, fun z hz1 hz2 => hsp z hz2 (by omega) fun i hi hai e => ?_⟩
      rcases (h.aft i hi).2 with ⟨_, h3⟩ | ⟨g', cap', cur', h3, _, hh', _⟩
      · exact hai h3
      · obtain ⟨h7, _, _⟩ : Na i = some ⟨g', 0, none⟩ ∧ F.an i = F.an i ∧ Nc i = cap' := by simpa using h3
        rw [h7] at e
        obtain rfl : g' = z := by simpa using e
        obtain ⟨hlt, _⟩ := Array.getElem?_eq_some_iff.1 hh'
        omega

theorem own_spare {w w' : World} {N : Nat} {e : TypeId} {size n : Nat} {v : Value} {xs : List Value} (h : w.ownsRow N e size v n xs) (hk : ∀ z, N ≤ z → z < w.heap.size → w'.heap[z]? = w.heap[z]?) : w'.ownsRow N e size v n xs := by
  obtain ⟨h1, h2⟩ := h
  refine ⟨h1, ?_⟩
  rcases h2 with h2 | ⟨g, cap, cur, rfl, hg, hh, hr⟩
  · exact Or.inl h2
  · obtain ⟨hlt, _⟩ := Array.getElem?_eq_some_iff.1 hh
    exact Or.inr ⟨g, cap, cur, rfl, hg, (hk g hg hlt).trans hh, hr⟩
end Go.Proofs.YtgdcjccbdmcebaaDoor
