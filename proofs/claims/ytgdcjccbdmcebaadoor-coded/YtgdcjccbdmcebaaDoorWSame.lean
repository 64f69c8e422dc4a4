/- Two lists of the same ints, two flows of the same numbers: the statements' sameInts and sameFlows say so. -/
import Derived.Test.YtgdcjccbdmcebaaDoorWEnc
import Derived.Deep.QuietTactic
import Derived.BigQuiet
namespace Go.Proofs.YtgdcjccbdmcebaaDoor
open Go.RowKit
set_option maxRecDepth 100000

set_option maxHeartbeats 2000000 in
theorem sameInts_any (a a' : Option Addr) (n c c' : Nat) (f : Nat → Int) (w : World) (hn : n ≤ maxLen) (h : IntsAt w a n c f) (h' : IntsAt w a' n c' f) :
    Calls Tryd.prog 54 #[.slice a n c, .slice a' n c'] w fun e w' => e = .returned (.bool true) ∧ Below w.heap.size w w' := by
  unfold maxLen at hn
  have H := Hid.mk (And.intro h h')
  clear h h'
  go_enter Tryd.func54, Tryd.ntmps54
  go_wp2_with fail
  go_loopw [5] (fun iv wr => ∃ k : Nat, iv = .int .i64 k ∧ k ≤ n ∧ Below w.heap.size w wr) (fun iv _ => n - (intOf iv).toNat)
  case atStart => exact ⟨0, rfl, by omega, Below.refl _ _⟩
  case round =>
    obtain ⟨k, rfl, hk, hbl⟩ := hrel
    rename World => w1
    by_cases h1 : k < n
    · rcases (H.out.1.keep hbl) with h0 | ⟨b, o, rfl, _, _, _, hc⟩
      · omega
      rcases (H.out.2.keep hbl) with h0 | ⟨b', o', rfl, _, _, _, hc'⟩
      · omega
      have y := hc k h1
      have y' := hc' k h1
      have HBL := Hid.mk hbl
      clear hc hc' hbl
      go_wp2_with fail
      go_quiet (fail)
      go_wp2_with fail
      go_roundw
      case rel => exact ⟨k + 1, by go_num, by omega, below_drewN HBL.out _⟩
      case measure => simp [intOf]; omega
    · obtain rfl : k = n := by omega
      go_wp2_with fail
      go_ret
      exact ⟨rfl, hbl⟩

/-- The boxes of two flows. -/
structure Box2 (w wr : World) (F : FlowD) (a a' : Option Addr) (cap cap' : Nat) : Prop where
  b : wr.heap[w.heap.size]? = some (.cells #[.int .i64 F.dl, .slice a F.n cap] 24 (0, 0))
  b' : wr.heap[w.heap.size + 1]? = some (.cells #[.int .i64 F.dl, .slice a' F.n cap'] 24 (0, 0))
  sz : w.heap.size + 1 < wr.heap.size
  bl : Below w.heap.size w wr
theorem Box2.start (w : World) (F : FlowD) (a a' : Option Addr) (cap cap' : Nat) : Box2 w ((w.alloc (.cells #[.int .i64 F.dl, .slice a F.n cap] 24)).alloc (.cells #[.int .i64 F.dl, .slice a' F.n cap'] 24)) F a a' cap cap' :=
  ⟨heap_alloc2_old _ _ _, heap_alloc2_new _ _ _, by simp, ((Below.refl _ _).alloc (Nat.le_refl _) _).alloc (by simp) _⟩
theorem Box2.keep {w wr wx : World} {F : FlowD} {a a' : Option Addr} {cap cap' : Nat} (h : Box2 w wr F a a' cap cap') (hb : Below wr.heap.size wr wx) : Box2 w wx F a a' cap cap' :=
  ⟨(hb.block _ (by have := h.sz; omega)).trans h.b, (hb.block _ h.sz).trans h.b', Nat.lt_of_lt_of_le h.sz hb.size, h.bl.trans (hb.mono (by have := h.sz; omega))⟩

set_option maxHeartbeats 4000000 in
theorem sameFlows_any (F : FlowD) (a a' : Option Addr) (cap cap' : Nat) (Aa Aa' : Nat → Option Addr) (Ac Ac' : Nat → Nat) (w : World) (hn : F.n ≤ maxLen) (hm : ∀ i, i < F.n → F.an i ≤ maxLen) (h : NodesAt w a cap F Aa Ac) (h' : NodesAt w a' cap' F Aa' Ac') :
    Calls Tryd.prog 32 #[flV F.dl (.slice a F.n cap), flV F.dl (.slice a' F.n cap')] w fun e w' => e = .returned (.bool true) ∧ Below w.heap.size w w' := by
  unfold maxLen at hn
  have H := Hid.mk (And.intro h h')
  have HM := Hid.mk hm
  clear h h' hm
  go_enter Tryd.func32, Tryd.ntmps32
  go_wp2_with fail
  go_loopw [5] (fun iv wr => ∃ k : Nat, iv = .int .i64 k ∧ k ≤ F.n ∧ Box2 w wr F a a' cap cap') (fun iv _ => F.n - (intOf iv).toNat)
  case atStart => exact ⟨0, rfl, by omega, Box2.start _ _ _ _ _ _⟩
  case round =>
    obtain ⟨k, rfl, hk, hbx⟩ := hrel
    rename World => w1
    have HX := Hid.mk hbx
    have c1 := cell_at hbx.b 1
    have c1' := cell_at hbx.b' 1
    have hs := hbx.sz
    clear hbx
    by_cases h1 : k < F.n
    · rcases H.out.1 with h0 | ⟨b, o, rfl, _, _, hb, hc⟩
      · omega
      rcases H.out.2 with h0 | ⟨b', o', rfl, _, _, hb', hc'⟩
      · omega
      obtain ⟨n0, n1, n2, n3, n4, n5, n6, ni⟩ := (hc k h1).keep hb HX.out.bl
      have hk2 : Hid (∀ ob, Below w1.heap.size w1 (w1.alloc ob)) := Hid.mk fun ob => (Below.refl _ _).alloc (Nat.le_refl _) _
      have hbl2 : Below w1.heap.size w1 ((w1.alloc (.cells #[.int .i64 (F.bu k), .int .i64 (F.cl k), .int .i64 (F.be k), .int .i64 (F.ba k), .int .i64 (F.ca k), .int .i64 (F.ji k), .slice (Aa k) (F.an k) (Ac k)] 27)).alloc (.cells #[.int .i64 (F.bu k), .int .i64 (F.cl k), .int .i64 (F.be k), .int .i64 (F.ba k), .int .i64 (F.ca k), .int .i64 (F.ji k), .slice (Aa' k) (F.an k) (Ac' k)] 27)) := ((Below.refl _ _).alloc (Nat.le_refl _) _).alloc (by simp) _
      obtain ⟨m0, m1, m2, m3, m4, m5, m6, mi⟩ := ((hc' k h1).keep hb' HX.out.bl).keep (by have := HX.out.bl.size; omega) (hk2.out (.cells #[.int .i64 (F.bu k), .int .i64 (F.cl k), .int .i64 (F.be k), .int .i64 (F.ba k), .int .i64 (F.ca k), .int .i64 (F.ji k), .slice (Aa k) (F.an k) (Ac k)] 27))
      have d1' := cell_later (hk2.out (.cells #[.int .i64 (F.bu k), .int .i64 (F.cl k), .int .i64 (F.be k), .int .i64 (F.ba k), .int .i64 (F.ca k), .int .i64 (F.ji k), .slice (Aa k) (F.an k) (Ac k)] 27)) c1'
      have NI := Hid.mk (And.intro (ni.keep hbl2) (((hc' k h1).keep hb' HX.out.bl).ints.keep hbl2))
      have HBL2 := Hid.mk hbl2
      clear ni mi hc hc' hbl2
      go_wp2_with fail
      refine (sameInts_any _ _ _ _ _ _ _ (HM.out k h1) NI.out.1 NI.out.2).mono ?_
      rintro e w2 ⟨rfl, hb2⟩
      have HB2 := Hid.mk (HBL2.out.trans (hb2.mono HBL2.out.size))
      have q := heap_alloc2_old w1 (.cells #[.int .i64 (F.bu k), .int .i64 (F.cl k), .int .i64 (F.be k), .int .i64 (F.ba k), .int .i64 (F.ca k), .int .i64 (F.ji k), .slice (Aa k) (F.an k) (Ac k)] 27) (.cells #[.int .i64 (F.bu k), .int .i64 (F.cl k), .int .i64 (F.be k), .int .i64 (F.ba k), .int .i64 (F.ca k), .int .i64 (F.ji k), .slice (Aa' k) (F.an k) (Ac' k)] 27)
      have q' := heap_alloc2_new w1 (.cells #[.int .i64 (F.bu k), .int .i64 (F.cl k), .int .i64 (F.be k), .int .i64 (F.ba k), .int .i64 (F.ca k), .int .i64 (F.ji k), .slice (Aa k) (F.an k) (Ac k)] 27) (.cells #[.int .i64 (F.bu k), .int .i64 (F.cl k), .int .i64 (F.be k), .int .i64 (F.ba k), .int .i64 (F.ca k), .int .i64 (F.ji k), .slice (Aa' k) (F.an k) (Ac' k)] 27)
      have e1 := (hb2.block w1.heap.size (by simp; omega)).trans q
      have e2 := (hb2.block (w1.heap.size + 1) (by simp)).trans q'
      have x0 := cell_at e1 0
      have x1 := cell_at e1 1
      have x2 := cell_at e1 2
      have x3 := cell_at e1 3
      have x4 := cell_at e1 4
      have x5 := cell_at e1 5
      have y0 := cell_at e2 0
      have y1 := cell_at e2 1
      have y2 := cell_at e2 2
      have y3 := cell_at e2 3
      have y4 := cell_at e2 4
      have y5 := cell_at e2 5
      clear q q' e1 e2 hb2 n0 n1 n2 n3 n4 n5 n6 m0 m1 m2 m3 m4 m5 m6 c1 c1' d1'
      go_wp2_with fail
      go_roundw
      case rel => exact ⟨k + 1, by go_num, by omega, HX.out.keep HB2.out⟩
      case measure => simp [intOf]; omega
    · obtain rfl : k = F.n := by omega
      go_wp2_with fail
      go_ret
      exact ⟨rfl, HX.out.bl⟩
end Go.Proofs.YtgdcjccbdmcebaaDoor
