/- One step of a wheel's script: Set so much later. -/
import Derived.Test.YtgdcjccbdmcebaaDoorHY2
import Derived.Deep.RegionHeld3
namespace Go.Proofs.YtgdcjccbdmcebaaDoor
open Go.RowKit
set_option maxRecDepth 100000
attribute [local go_sem ↓] Go.wp_at_zero Go.wp_at_succ

set_option maxHeartbeats 8000000 in
theorem turns_set (w : World) (P M B now : Nat) (l : List Tm) (sq id n : Int) (h : Two w P M B now l sq) (hsq : sq ≤ 4611686018427387904) (hid : (Lit.int .i64 id).wf = true) (_h0 : 0 ≤ n) (_h1 : n < 18446744073709551616) :
    Calls Tryd.prog 18 #[.pointer (some ⟨P, 0, none⟩), .pointer (some ⟨M, 0, none⟩), .agg #[.int .i64 1, .int .i64 id, .int .u64 n]] w fun e w' => e = .returned (.bool true) ∧ After w w' P M B sq := by
  obtain ⟨a, cap, hr⟩ := h.rw_
  have hB := hr.bs
  obtain ⟨wa, hwa⟩ : ∃ wa, wa = w.alloc (.cells #[.int .i64 1, .int .i64 id, .int .u64 n] 50) := ⟨_, rfl⟩
  obtain ⟨tm, htm⟩ : ∃ tm, IntKind.u64.wrap ((now : Int) + n) = tm := ⟨_, rfl⟩
  have ht0 : 0 ≤ tm := by rw [← htm, IntKind.wrap_u64]; omega
  have ht1 : tm < 18446744073709551616 := by rw [← htm, IntKind.wrap_u64]; omega
  have hal : Below w.heap.size w wa := by rw [hwa]; exact (Below.refl _ _).alloc (Nat.le_refl _) _
  have hbx : wa.heap[w.heap.size]? = some (.cells #[.int .i64 1, .int .i64 id, .int .u64 n] 50 (0, 0)) := by rw [hwa]; exact heap_alloc_new w _
  have hald : Below w.heap.size w wa.drew := hal.drew
  have HS := Hid.mk (pset_any wa.drew P B now l id tm sq (h.wh.keep hald) hid ht0 ht1 (h.err.keep hald) h.g2.1 h.g2.2.1)
  have H := Hid.mk h
  have HR := Hid.mk hr
  have HAL := Hid.mk hald
  have hMP := h.pm
  have hPB := h.pb
  have HWA := Hid.mk hwa
  have HBX := Hid.mk hbx
  have b3 : wa.cell? ⟨M, 0, none⟩ = some (.int .u64 now) := (hr.keep hal).c0
  have HT := Hid.mk (And.intro ht0 ht1)
  clear h hr hal hwa hald ht0 ht1
  go_enter Tryd.func18, Tryd.ntmps18
  go_upto_region 3 with fail
  rw [← HWA.out]
  have b1 : wa.cell? ⟨w.heap.size, 1, none⟩ = some (.int .i64 id) := by simp [World.cell?, hbx]
  have b2 : wa.cell? ⟨w.heap.size, 2, none⟩ = some (.int .u64 n) := by simp [World.cell?, hbx]
  clear hbx
  go_region_held3 (fun w' => w'.cell? ⟨w.heap.size, 1, none⟩ = some (.int .i64 id) ∧ w'.cell? ⟨w.heap.size, 2, none⟩ = some (.int .u64 n) ∧ w'.cell? ⟨M, 0, none⟩ = some (.int .u64 now)) (go_keep)
    ((go_at_call 22; refine HS.out.mono ?_; rintro e w1 ⟨x, l1, s1, rfl, hs1, hw1, hf1⟩; have hbx1 : w1.heap[w.heap.size]? = some (.cells #[.int .i64 1, .int .i64 id, .int .u64 n] 50 (0, 0)) := (hf1.block w.heap.size (lt_of_block HBX.out) (by omega) (Or.inr ⟨_, _, _, HBX.out, by decide⟩)).trans HBX.out; have hr1 := (HR.out.keep HAL.out).pf hf1 (Ne.symm hMP) hPB; have d1 : w1.cell? ⟨w.heap.size, 1, none⟩ = some (.int .i64 id) := (by simp [World.cell?, hbx1]); have d2 : w1.cell? ⟨w.heap.size, 2, none⟩ = some (.int .u64 n) := (by simp [World.cell?, hbx1]); have d3 := hr1.c0))
  have HS2 := Hid.mk (rset_any w1.drew M B now a cap l sq id tm (hr1.keep ((Below.refl _ _).drew)) (by omega) (by have := H.out.wh.now_; omega) H.out.sq0 hsq)
  have H1 := Hid.mk (And.intro hs1 (And.intro hw1 (And.intro hf1 (And.intro hr1 hbx1))))
  clear b1 b2 b3 hs1 hw1 hf1 hr1 hbx1
  go_upto_region 4 with fail
  go_region_held3 (fun w' => w'.cell? ⟨w.heap.size, 1, none⟩ = some (.int .i64 id) ∧ w'.cell? ⟨w.heap.size, 2, none⟩ = some (.int .u64 n) ∧ w'.cell? ⟨M, 0, none⟩ = some (.int .u64 now)) (go_keep)
    ((go_at_call 37; refine HS2.out.mono ?_; rintro e w3 ⟨y, a', cap', l2, s2, rfl, hs2, hr3, hf3⟩; have hbx3 : w3.heap[w.heap.size]? = some (.cells #[.int .i64 1, .int .i64 id, .int .u64 n] 50 (0, 0)) := (hf3.block w.heap.size (lt_of_block H1.out.2.2.2.2) (by have := HR.out.mb; omega) (fun e => by obtain ⟨cs2, e2⟩ := own_row H1.out.2.2.2.1.own _ e.symm; rw [H1.out.2.2.2.2] at e2; simp at e2)).trans H1.out.2.2.2.2; have f1 : w3.cell? ⟨w.heap.size, 1, none⟩ = some (.int .i64 id) := (by simp [World.cell?, hbx3]); have f2 : w3.cell? ⟨w.heap.size, 2, none⟩ = some (.int .u64 n) := (by simp [World.cell?, hbx3]); have f3 := hr3.c0))
  obtain ⟨hs1, hw1, hf1, hr1, _⟩ := H1.out
  obtain ⟨hxy, haf⟩ := H.out.set HAL.out hs1 hw1 hf1 ((Below.refl _ _).drew) (hr1.keep ((Below.refl _ _).drew)) hs2 hr3 hf3
  subst hxy
  have HAF := Hid.mk haf
  clear hs1 hw1 hf1 hr1 hs2 hr3 hf3 haf
  go_wp2_with fail
  go_ret
  exact ⟨rfl, HAF.out⟩
end Go.Proofs.YtgdcjccbdmcebaaDoor
