/- The document's wheel: which timer is due first. -/
import Derived.Test.YtgdcjccbdmcebaaDoorHTimM
import Derived.Deep.QuietTactic
import Derived.BigQuiet
namespace Go.Proofs.YtgdcjccbdmcebaaDoor
open Go.RowKit
set_option maxRecDepth 100000

set_option maxHeartbeats 8000000 in
theorem rfirst_any (w : World) (M B : Nat) (now : Int) (a : Option Addr) (cap : Nat) (l : List Tm) (sq : Int) (h : RwAt w M B now a cap l sq) (hr : Rising l) :
    Calls Tryd.prog 57 #[.pointer (some ⟨M, 0, none⟩)] w fun e w' => e = .returned (.int .i64 (bestI (bestN l l.length))) ∧ Below w.heap.size w w' := by
  have H := Hid.mk h
  have HR := Hid.mk hr
  have hf := h.few
  have HT := Hid.mk (tms_of_own h.own)
  clear h hr
  go_enter Tryd.func57, Tryd.ntmps57
  go_wp2_with fail
  go_loopw [3, 4] (fun bv iv wr => ∃ k : Nat, iv = .int .i64 k ∧ k ≤ l.length ∧ bv = .int .i64 (bestI (bestN l k)) ∧ Below w.heap.size w wr) (fun _ iv _ => l.length - (intOf iv).toNat)
  case atStart => exact ⟨0, rfl, Nat.zero_le _, rfl, Below.refl _ _⟩
  case round =>
    obtain ⟨k, rfl, hk, rfl, hbl⟩ := hrel
    rename World => w1
    have c1 := (H.out.keep hbl).c1
    have HBL := Hid.mk hbl
    by_cases h1 : k < l.length
    · rcases (HT.out.keep hbl) with h0 | ⟨b0, o, rfl, hcap, hmax, _, hc⟩
      · omega
      unfold maxLen at hmax
      obtain ⟨_, x1, x2⟩ := hc k h1
      cases hb : bestN l k with
      | none =>
        have HS : Hid (bestN l (k + 1) = some k) := Hid.mk (by simp only [bestN, hb])
        clear hb hbl hc x1 x2
        simp only [bestI]
        go_wp2_with fail
        go_quiet (fail)
        go_wp2_with fail
        go_roundw
        case rel => exact ⟨k + 1, by go_num, by omega, by rw [HS.out], below_drewN HBL.out _⟩
        case measure => simp [intOf]; omega
      | some b =>
        obtain ⟨hb1, _, _⟩ := bestN_some hb
        obtain ⟨_, y1, y2⟩ := hc b (by omega)
        have hseq := HR.out b k hb1 h1
        have HN : Hid (bestN l (k + 1) = if (l.getD k .z).tm < (l.getD b .z).tm then some k else some b) := Hid.mk (by simp only [bestN, hb])
        have hb2 : (b : Int) < (l.length : Int) := by omega
        clear hb hbl hc
        have hbd : decide ((b : Int) < 0) = false := decide_eq_false (by omega)
        simp only [bestI]
        generalize (l.getD k .z).tm = tk at *
        generalize (l.getD b .z).tm = tb at *
        generalize (l.getD k .z).sq = sk at *
        generalize (l.getD b .z).sq = sb at *
        by_cases h2 : tk < tb
        · have HS : Hid (bestN l (k + 1) = some k) := Hid.mk (by rw [HN.out, if_pos h2])
          have hd2 : decide (tk < tb) = true := decide_eq_true h2
          clear hseq
          go_wp2_with fail
          go_quiet (fail)
          go_wp2_with fail
          go_roundw
          case rel => exact ⟨k + 1, by go_num, by omega, by rw [HS.out], below_drewN HBL.out _⟩
          case measure => simp [intOf]; omega
        · have HS : Hid (bestN l (k + 1) = some b) := Hid.mk (by rw [HN.out, if_neg h2])
          by_cases h3 : tk = tb
          · subst h3
            have hd2 : decide (tk < tk) = false := decide_eq_false h2
            have hd4 : decide (sk < sb) = false := decide_eq_false (by omega)
            clear hseq
            go_wp2_with fail
            go_quiet (fail)
            go_wp2_with fail
            go_roundw
            case rel => exact ⟨k + 1, by go_num, by omega, by rw [HS.out], below_drewN HBL.out _⟩
            case measure => simp [intOf]; omega
          · have h4 : (tk == tb) = false := by simpa using h3
            have hd2 : decide (tk < tb) = false := decide_eq_false h2
            clear hseq
            go_wp2_with fail
            go_quiet (fail)
            go_wp2_with fail
            go_roundw
            case rel => exact ⟨k + 1, by go_num, by omega, by rw [HS.out], below_drewN HBL.out _⟩
            case measure => simp [intOf]; omega
    · obtain rfl : k = l.length := by omega
      clear hbl
      go_wp2_with fail
      go_ret
      exact ⟨rfl, HBL.out⟩
end Go.Proofs.YtgdcjccbdmcebaaDoor
