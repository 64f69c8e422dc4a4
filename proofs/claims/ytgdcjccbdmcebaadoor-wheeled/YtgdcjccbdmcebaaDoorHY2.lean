/- One step of a wheel's script: Set at a time, Cancel, Next. -/
import Derived.Test.YtgdcjccbdmcebaaDoorHY1
namespace Go.Proofs.YtgdcjccbdmcebaaDoor
open Go.RowKit
set_option maxRecDepth 100000
attribute [local go_sem ↓] Go.wp_at_zero Go.wp_at_succ

/-- What a step leaves. -/
def After (w w' : World) (P M B : Nat) (sq : Int) : Prop := ∃ (now' : Nat) (l' : List Tm) (sq' : Int), Two w' P M B now' l' sq' ∧ sq' ≤ sq + 1 ∧ TF w w' P M B
theorem Two.set {w w0 w1 w2 w3 : World} {P M B now : Nat} {l l1 l2 : List Tm} {sq id tm x y s1 s2 : Int} (h : Two w P M B now l sq) (hb : Below w.heap.size w w0) (h1 : SetIs l now sq id tm x l1 s1) (hw1 : WhAt w1 P B now l1) (hf1 : PF w0 w1 P B) (hb2 : Below w1.heap.size w1 w2) {a : Option Addr} {cap : Nat} (hr2 : RwAt w2 M B now a cap l sq)
    (h2 : SetIs l now sq id tm y l2 s2) {a' : Option Addr} {cap' : Nat} (hr3 : RwAt w3 M B now a' cap' l2 s2) (hf3 : RwF w2 w3 M (Value.slice a l.length cap).ownBlock) : x = y ∧ After w w3 P M B sq := by
  obtain ⟨rfl, rfl, rfl⟩ := h1.uniq h2
  obtain ⟨_, _, hr⟩ := h.rw_
  have hB := hr.bs
  have hf : TF w w3 P M B := (((TF.below hb hB).trans (TF.pf hf1 (Nat.le_trans hB hb.size))).trans (TF.below hb2 (Nat.le_trans (Nat.le_trans hB hb.size) hf1.size))).trans (TF.rf hf3 hr2.bs (fun z hz => (hr2.own.lt z hz).1))
  refine ⟨rfl, now, l1, s1, ⟨(hw1.keep hb2).rfO hr2 hf3 h.pm h.pb, ⟨_, _, hr3⟩, h.good.set h1, ?_, h.tab.tf hf h.g1.1 h.g1.2.1 h.g1.2.2, h.err.tf hf h.g2.1 h.g2.2.1 h.g2.2.2, h.pm, h.pb, h.g1, h.g2⟩, ?_, hf⟩
  · have := h.sq0
    rcases h1 with ⟨_, _, _, rfl⟩ | ⟨_, _, _, _, rfl⟩ | ⟨_, _, _, _, rfl⟩ <;> omega
  · rcases h1 with ⟨_, _, _, rfl⟩ | ⟨_, _, _, _, rfl⟩ | ⟨_, _, _, _, rfl⟩ <;> omega

set_option maxHeartbeats 8000000 in
theorem turns_at (w : World) (P M B now : Nat) (l : List Tm) (sq id tm : Int) (h : Two w P M B now l sq) (hsq : sq ≤ 4611686018427387904) (hid : (Lit.int .i64 id).wf = true) (h0 : 0 ≤ tm) (h1 : tm < 18446744073709551616) :
    Calls Tryd.prog 18 #[.pointer (some ⟨P, 0, none⟩), .pointer (some ⟨M, 0, none⟩), .agg #[.int .i64 5, .int .i64 id, .int .u64 tm]] w fun e w' => e = .returned (.bool true) ∧ After w w' P M B sq := by
  obtain ⟨a, cap, hr⟩ := h.rw_
  have hB := hr.bs
  obtain ⟨wa, hwa⟩ : ∃ wa, wa = w.alloc (.cells #[.int .i64 5, .int .i64 id, .int .u64 tm] 50) := ⟨_, rfl⟩
  have hal : Below w.heap.size w wa := by rw [hwa]; exact (Below.refl _ _).alloc (Nat.le_refl _) _
  have hbx : wa.heap[w.heap.size]? = some (.cells #[.int .i64 5, .int .i64 id, .int .u64 tm] 50 (0, 0)) := by rw [hwa]; exact heap_alloc_new w _
  have HS := Hid.mk (pset_any wa P B now l id tm sq (h.wh.keep hal) hid h0 h1 (h.err.keep hal) h.g2.1 h.g2.2.1)
  have H := Hid.mk h
  have HR := Hid.mk hr
  have HAL := Hid.mk hal
  have hMP := h.pm
  have hPB := h.pb
  have HWA := Hid.mk hwa
  clear h hr hal hwa
  go_enter Tryd.func18, Tryd.ntmps18
  go_upto_region 7 with fail
  rw [← HWA.out]
  have b1 : wa.cell? ⟨w.heap.size, 1, none⟩ = some (.int .i64 id) := by simp [World.cell?, hbx]
  have b2 : wa.cell? ⟨w.heap.size, 2, none⟩ = some (.int .u64 tm) := by simp [World.cell?, hbx]
  go_upto_region 8 with (go_at_call 22; refine HS.out.mono ?_; rintro e w1 ⟨x, l1, s1, rfl, hs1, hw1, hf1⟩)
  have hbx1 : w1.heap[w.heap.size]? = some (.cells #[.int .i64 5, .int .i64 id, .int .u64 tm] 50 (0, 0)) := (hf1.block w.heap.size (lt_of_block hbx) (by omega) (Or.inr ⟨_, _, _, hbx, by decide⟩)).trans hbx
  have hr1 := (HR.out.keep HAL.out).pf hf1 (Ne.symm hMP) hPB
  have HS2 := Hid.mk (rset_any w1 M B now a cap l sq id tm hr1 (by omega) (by have := H.out.wh.now_; omega) H.out.sq0 hsq)
  have H1 := Hid.mk (And.intro hs1 (And.intro hw1 (And.intro hf1 hr1)))
  clear b1 b2 hbx hs1 hw1 hf1 hr1
  have b1 : w1.cell? ⟨w.heap.size, 1, none⟩ = some (.int .i64 id) := by simp [World.cell?, hbx1]
  have b2 : w1.cell? ⟨w.heap.size, 2, none⟩ = some (.int .u64 tm) := by simp [World.cell?, hbx1]
  clear hbx1
  go_upto_region 9 with (go_at_call 37; refine HS2.out.mono ?_; rintro e w3 ⟨y, a', cap', l2, s2, rfl, hs2, hr3, hf3⟩)
  obtain ⟨hs1, hw1, hf1, hr1⟩ := H1.out
  obtain ⟨hxy, haf⟩ := H.out.set HAL.out hs1 hw1 hf1 (Below.refl _ _) hr1 hs2 hr3 hf3
  subst hxy
  have HAF := Hid.mk haf
  clear hs1 hw1 hf1 hr1 hs2 hr3 hf3 haf
  go_wp2_with fail
  go_ret
  exact ⟨rfl, HAF.out⟩
end Go.Proofs.YtgdcjccbdmcebaaDoor
