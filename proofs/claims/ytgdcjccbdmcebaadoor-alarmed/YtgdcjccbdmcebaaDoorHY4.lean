/- One step of a wheel's script: Cancel, Next, none. -/
import Derived.Test.YtgdcjccbdmcebaaDoorHY2
namespace Go.Proofs.YtgdcjccbdmcebaaDoor
open Go.RowKit
set_option maxRecDepth 100000
attribute [local go_sem ↓] Go.wp_at_zero Go.wp_at_succ

theorem Two.can {w w0 w1 w3 : World} {P M B now : Nat} {l l1 l2 : List Tm} {sq id x y : Int} (h : Two w P M B now l sq) (hb : Below w.heap.size w w0) (h1 : CanIs l id x l1) (hw1 : WhAt w1 P B now l1) (hf1 : PF w0 w1 P B)
    (h2 : CanIs l id y l2) {a' : Option Addr} {cap' : Nat} (hr3 : RwAt w3 M B now a' cap' l2 sq) (hf3 : RwF w1 w3 M none) : x = y ∧ After w w3 P M B sq := by
  obtain ⟨rfl, rfl⟩ := h1.uniq h2
  obtain ⟨_, _, hr⟩ := h.rw_
  have hB := hr.bs
  have hf : TF w w3 P M B := ((TF.below hb hB).trans (TF.pf hf1 (Nat.le_trans hB hb.size))).trans (TF.rf hf3 (Nat.le_trans (Nat.le_trans hB hb.size) hf1.size) (fun z hz => by cases hz))
  exact ⟨rfl, now, l1, sq, ⟨hw1.rfN hf3 h.pm hr.mb h.pb, ⟨_, _, hr3⟩, h.good.can h1, h.sq0, h.tab.tf hf h.g1.1 h.g1.2.1 h.g1.2.2, h.err.tf hf h.g2.1 h.g2.2.1 h.g2.2.2, h.pm, h.pb, h.g1, h.g2⟩, by omega, hf⟩
theorem Two.same {w w' : World} {P M B now : Nat} {l : List Tm} {sq : Int} (h : Two w P M B now l sq) (hb : Below w.heap.size w w') : After w w' P M B sq := by
  obtain ⟨_, _, hr⟩ := h.rw_
  have hf : TF w w' P M B := TF.below hb hr.bs
  exact ⟨now, l, sq, ⟨h.wh.keep hb, ⟨_, _, hr.keep hb⟩, h.good, h.sq0, h.tab.tf hf h.g1.1 h.g1.2.1 h.g1.2.2, h.err.tf hf h.g2.1 h.g2.2.1 h.g2.2.2, h.pm, h.pb, h.g1, h.g2⟩, by omega, hf⟩

set_option maxHeartbeats 8000000 in
theorem turns_can (w : World) (P M B now : Nat) (l : List Tm) (sq id n : Int) (h : Two w P M B now l sq) (hid : (Lit.int .i64 id).wf = true) :
    Calls Tryd.prog 18 #[.pointer (some ⟨P, 0, none⟩), .pointer (some ⟨M, 0, none⟩), .agg #[.int .i64 2, .int .i64 id, .int .u64 n]] w fun e w' => e = .returned (.bool true) ∧ After w w' P M B sq := by
  obtain ⟨a, cap, hr⟩ := h.rw_
  have hB := hr.bs
  obtain ⟨wa, hwa⟩ : ∃ wa, wa = w.alloc (.cells #[.int .i64 2, .int .i64 id, .int .u64 n] 50) := ⟨_, rfl⟩
  have hal : Below w.heap.size w wa := by rw [hwa]; exact (Below.refl _ _).alloc (Nat.le_refl _) _
  have hbx : wa.heap[w.heap.size]? = some (.cells #[.int .i64 2, .int .i64 id, .int .u64 n] 50 (0, 0)) := by rw [hwa]; exact heap_alloc_new w _
  have HS := Hid.mk (pcancel_any wa P B now l id (h.wh.keep hal) hid (h.err.keep hal) h.g2.1 h.g2.2.1)
  have H := Hid.mk h
  have HR := Hid.mk hr
  have HAL := Hid.mk hal
  have hMP := h.pm
  have hPB := h.pb
  have HWA := Hid.mk hwa
  clear h hr hal hwa
  go_enter Tryd.func18, Tryd.ntmps18
  go_upto_region 11 with fail
  rw [← HWA.out]
  have b1 : wa.cell? ⟨w.heap.size, 1, none⟩ = some (.int .i64 id) := by simp [World.cell?, hbx]
  go_upto_region 12 with (go_at_call 23; refine HS.out.mono ?_; rintro e w1 ⟨x, l1, rfl, hs1, hw1, hf1⟩)
  have hbx1 : w1.heap[w.heap.size]? = some (.cells #[.int .i64 2, .int .i64 id, .int .u64 n] 50 (0, 0)) := (hf1.block w.heap.size (lt_of_block hbx) (by omega) (Or.inr ⟨_, _, _, hbx, by decide⟩)).trans hbx
  have hr1 := (HR.out.keep HAL.out).pf hf1 (Ne.symm hMP) hPB
  have HS2 := Hid.mk (rcancel_any w1 M B now a cap l sq id hr1)
  have H1 := Hid.mk (And.intro hs1 (And.intro hw1 hf1))
  clear b1 hbx hs1 hw1 hf1 hr1
  have b1 : w1.cell? ⟨w.heap.size, 1, none⟩ = some (.int .i64 id) := by simp [World.cell?, hbx1]
  clear hbx1
  go_upto_region 13 with (go_at_call 38; refine HS2.out.mono ?_; rintro e w3 ⟨y, a', cap', l2, rfl, hs2, hr3, hf3⟩)
  obtain ⟨hs1, hw1, hf1⟩ := H1.out
  obtain ⟨hxy, haf⟩ := H.out.can HAL.out hs1 hw1 hf1 hs2 hr3 hf3
  subst hxy
  have HAF := Hid.mk haf
  clear hs1 hw1 hf1 hs2 hr3 hf3 haf
  go_wp2_with fail
  go_ret
  exact ⟨rfl, HAF.out⟩

set_option maxHeartbeats 8000000 in
theorem turns_next (w : World) (P M B now : Nat) (l : List Tm) (sq id n : Int) (h : Two w P M B now l sq) :
    Calls Tryd.prog 18 #[.pointer (some ⟨P, 0, none⟩), .pointer (some ⟨M, 0, none⟩), .agg #[.int .i64 4, .int .i64 id, .int .u64 n]] w fun e w' => e = .returned (.bool true) ∧ After w w' P M B sq := by
  obtain ⟨a, cap, hr⟩ := h.rw_
  obtain ⟨wa, hwa⟩ : ∃ wa, wa = w.alloc (.cells #[.int .i64 4, .int .i64 id, .int .u64 n] 50) := ⟨_, rfl⟩
  have hal : Below w.heap.size w wa := by rw [hwa]; exact (Below.refl _ _).alloc (Nat.le_refl _) _
  have HS := Hid.mk (pnext_any wa P B now l (h.wh.keep hal) (fun j hj => cell_later hal (h.tab j hj)))
  have HS2 := Hid.mk (rnext_any' wa M B now a cap l sq (hr.keep hal) h.good.rising)
  have H := Hid.mk h
  have HAL := Hid.mk hal
  have HWA := Hid.mk hwa
  clear h hr hal hwa
  go_enter Tryd.func18, Tryd.ntmps18
  go_upto_region 15 with fail
  rw [← HWA.out]
  go_upto_region 16 with (go_at_call 25; refine HS.out.mono ?_; rintro e w1 ⟨t, ok, rfl, hn1, hw1⟩; rw [hw1])
  go_upto_region 17 with (go_at_call 39; refine HS2.out.mono ?_; rintro e w3 ⟨u, ok2, rfl, hn2, hb3⟩)
  obtain ⟨e1, e2⟩ := hn1.uniq hn2
  subst e1 e2
  have HAF := Hid.mk (H.out.same (HAL.out.trans (hb3.mono HAL.out.size)))
  clear hn1 hn2 hb3
  go_wp2_with fail
  all_goals go_ret
  all_goals exact ⟨rfl, HAF.out⟩

set_option maxHeartbeats 8000000 in
theorem turns_else (w : World) (P M B now : Nat) (l : List Tm) (sq kd id n : Int) (h : Two w P M B now l sq) (k1 : kd ≠ 1) (k2 : kd ≠ 2) (k3 : kd ≠ 3) (k4 : kd ≠ 4) (k5 : kd ≠ 5) :
    Calls Tryd.prog 18 #[.pointer (some ⟨P, 0, none⟩), .pointer (some ⟨M, 0, none⟩), .agg #[.int .i64 kd, .int .i64 id, .int .u64 n]] w fun e w' => e = .returned (.bool true) ∧ After w w' P M B sq := by
  have hal : Below w.heap.size w (w.alloc (.cells #[.int .i64 kd, .int .i64 id, .int .u64 n] 50)) := (Below.refl _ _).alloc (Nat.le_refl _) _
  have HAF := Hid.mk (h.same hal)
  have g1 : (kd == 1) = false := by simpa using k1
  have g2 : (kd == 2) = false := by simpa using k2
  have g3 : (kd == 3) = false := by simpa using k3
  have g4 : (kd == 4) = false := by simpa using k4
  have g5 : (kd == 5) = false := by simpa using k5
  clear h hal k1 k2 k3 k4 k5
  go_enter Tryd.func18, Tryd.ntmps18
  go_wp2_with fail
  go_ret
  exact ⟨rfl, HAF.out⟩
end Go.Proofs.YtgdcjccbdmcebaaDoor
