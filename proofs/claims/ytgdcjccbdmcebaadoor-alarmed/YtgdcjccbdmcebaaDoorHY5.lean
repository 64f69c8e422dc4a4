/- One step of a wheel's script: Advance. -/
import Derived.Test.YtgdcjccbdmcebaaDoorHY4
namespace Go.Proofs.YtgdcjccbdmcebaaDoor
open Go.RowKit
set_option maxRecDepth 100000
attribute [local go_sem ↓] Go.wp_at_zero Go.wp_at_succ

theorem Two.adv {w w0 w1 w3 : World} {P M B now n1 : Nat} {l l1 l2 : List Tm} {sq ticks : Int} {o1 o2 : List Fr} (h : Two w P M B now l sq) (hb : Below w.heap.size w w0) (h1 : AdvR l (advTo now ticks) o1 l1) (e1 : ∀ b, bestN l1 l1.length = some b → advTo now ticks < (l1.getD b .z).tm) (hn : n1 = (advTo now ticks).toNat) (h0 : 0 ≤ advTo now ticks) (hw1 : WhAt w1 P B n1 l1) (hf1 : PF w0 w1 P B)
    (h2 : AdvR l (advTo now ticks) o2 l2) (e2 : ∀ b, bestN l2 l2.length = some b → advTo now ticks < (l2.getD b .z).tm) {a' : Option Addr} {cap' : Nat} (hr3 : RwAt w3 M B (advTo now ticks) a' cap' l2 sq) (hf3 : RwF w1 w3 M none) : o1 = o2 ∧ After w w3 P M B sq := by
  obtain ⟨rfl, rfl⟩ := h1.uniq h2 e1 e2
  obtain ⟨_, _, hr⟩ := h.rw_
  have hB := hr.bs
  have hf : TF w w3 P M B := ((TF.below hb hB).trans (TF.pf hf1 (Nat.le_trans hB hb.size))).trans (TF.rf hf3 (Nat.le_trans (Nat.le_trans hB hb.size) hf1.size) (fun z hz => by cases hz))
  have hn2 : (n1 : Int) = advTo now ticks := by omega
  exact ⟨rfl, n1, l1, sq, ⟨hw1.rfN hf3 h.pm hr.mb h.pb, ⟨_, _, by rw [hn2]; exact hr3⟩, h.good.adv h1, h.sq0, h.tab.tf hf h.g1.1 h.g1.2.1 h.g1.2.2, h.err.tf hf h.g2.1 h.g2.2.1 h.g2.2.2, h.pm, h.pb, h.g1, h.g2⟩, by omega, hf⟩
theorem frL_length (l : List Fr) : (frL l).length = l.length * 2 := by
  induction l with
  | nil => rfl
  | cons t r ih =>
    have : frL (t :: r) = frV t ++ frL r := rfl
    rw [this, List.length_append, ih]
    simp [frV]
    omega
theorem frL_at : ∀ (l : List Fr) (i : Nat), i < l.length → ∃ x y, (frL l)[i * 2]? = some (.int .i64 x) ∧ (frL l)[i * 2 + 1]? = some (.int .u64 y)
  | [], i, hi => by simp at hi
  | t :: r, 0, _ => ⟨t.id, t.tm, rfl, rfl⟩
  | t :: r, i + 1, hi => by
    obtain ⟨x, y, h1, h2⟩ := frL_at r i (by simpa using hi)
    have e : frL (t :: r) = frV t ++ frL r := rfl
    have hl : (frV t).length = 2 := rfl
    refine ⟨x, y, ?_, ?_⟩
    · rw [e, List.getElem?_append_right (by rw [hl]; omega), hl, show (i + 1) * 2 - 2 = i * 2 by omega, h1]
    · rw [e, List.getElem?_append_right (by rw [hl]; omega), hl, show (i + 1) * 2 + 1 - 2 = i * 2 + 1 by omega, h2]
/-- The cells of a row of what has come. -/
theorem fr_cells {w : World} {B : Nat} {a : Option Addr} {n c : Nat} {l : List Fr} (h : w.ownsRow B 63 2 (.slice a n c) n (frL l)) (_hn : l.length = n) (h0 : 0 < n) : ∃ g, a = some ⟨g, 0, none⟩ ∧ n ≤ c ∧ c ≤ maxLen ∧ ∀ i, i < n → ∀ x y, (frL l)[i * 2]? = some (.int .i64 x) → (frL l)[i * 2 + 1]? = some (.int .u64 y) → w.cell? ⟨g, i * 2, none⟩ = some (.int .i64 x) ∧ w.cell? ⟨g, i * 2 + 1, none⟩ = some (.int .u64 y) := by
  rcases h.2 with ⟨_, h2⟩ | ⟨g, cap, cur, h2, _, _, h3, h4, _⟩
  · omega
  · obtain ⟨rfl, _, rfl⟩ : a = some ⟨g, 0, none⟩ ∧ n = n ∧ c = cap := by simpa using h2
    refine ⟨g, rfl, h3, h4, fun i hi x y h5 h6 => ⟨?_, ?_⟩⟩
    · rw [h.cellAt (i * 2) (by omega)]; exact h5
    · rw [h.cellAt (i * 2 + 1) (by omega)]; exact h6

theorem After.keep {w w1 w2 : World} {P M B : Nat} {sq : Int} (h : After w w1 P M B sq) (hb : Below w1.heap.size w1 w2) : After w w2 P M B sq := by
  obtain ⟨n1, l1, s1, h1, h2, h3⟩ := h
  obtain ⟨n2, l2, s2, g1, g2, g3⟩ := h1.same hb
  obtain ⟨_, _, hr⟩ := h1.rw_
  have hf : TF w1 w2 P M B := TF.below hb hr.bs
  exact ⟨n1, l1, s1, ⟨h1.wh.keep hb, ⟨_, _, hr.keep hb⟩, h1.good, h1.sq0, h1.tab.tf hf h1.g1.1 h1.g1.2.1 h1.g1.2.2, h1.err.tf hf h1.g2.1 h1.g2.2.1 h1.g2.2.2, h1.pm, h1.pb, h1.g1, h1.g2⟩, h2, h3.trans hf⟩
theorem sl_nil (w : World) : (binOp .neq 60 (.slice none 0 0) (.slice none 0 0)).run Tryd.prog w = .ok (.bool false) w := by kernel_rfl

set_option maxHeartbeats 8000000 in
theorem turns_adv (w : World) (P M B now : Nat) (l : List Tm) (sq id n : Int) (h : Two w P M B now l sq) (h0 : 0 ≤ n) (h1 : n < 18446744073709551616) :
    Calls Tryd.prog 18 #[.pointer (some ⟨P, 0, none⟩), .pointer (some ⟨M, 0, none⟩), .agg #[.int .i64 3, .int .i64 id, .int .u64 n]] w fun e w' => e = .returned (.bool true) ∧ After w w' P M B sq := by
  obtain ⟨a, cap, hr⟩ := h.rw_
  have hB := hr.bs
  obtain ⟨wa, hwa⟩ : ∃ wa, wa = w.alloc (.cells #[.int .i64 3, .int .i64 id, .int .u64 n] 50) := ⟨_, rfl⟩
  have hal : Below w.heap.size w wa := by rw [hwa]; exact (Below.refl _ _).alloc (Nat.le_refl _) _
  have hbx : wa.heap[w.heap.size]? = some (.cells #[.int .i64 3, .int .i64 id, .int .u64 n] 50 (0, 0)) := by rw [hwa]; exact heap_alloc_new w _
  have HS := Hid.mk (padvance_any wa P B now l n (h.wh.keep hal) (fun j hj => cell_later hal (h.tab j hj)) h.g1.1 h.g1.2.1 h0 h1)
  have H := Hid.mk h
  have HR := Hid.mk hr
  have HAL := Hid.mk hal
  have hMP := h.pm
  have hPB := h.pb
  have HWA := Hid.mk hwa
  clear h hr hal hwa
  go_enter Tryd.func18, Tryd.ntmps18
  go_upto_region 19 with fail
  rw [← HWA.out]
  have b2 : wa.cell? ⟨w.heap.size, 2, none⟩ = some (.int .u64 n) := by simp [World.cell?, hbx]
  go_upto_region 20 with (go_at_call 24; refine HS.out.mono ?_; rintro e w1 ⟨xa, xc, outs, l1, rfl, ha1, hf1, hrow1, hnil1, hw1, hp1⟩)
  have hbx1 : w1.heap[w.heap.size]? = some (.cells #[.int .i64 3, .int .i64 id, .int .u64 n] 50 (0, 0)) := (hp1.block w.heap.size (lt_of_block hbx) (by omega) (Or.inr ⟨_, _, _, hbx, by decide⟩)).trans hbx
  have hr1 := (HR.out.keep HAL.out).pf hp1 (Ne.symm hMP) hPB
  have HS2 := Hid.mk (radvance_any w1 M B now a cap l sq n hr1 H.out.good.rising H.out.good.apart (by omega) (by have := H.out.wh.now_; omega) h0 h1)
  have H1 := Hid.mk (And.intro ha1 (And.intro hf1 (And.intro hrow1 (And.intro hnil1 (And.intro hw1 hp1)))))
  clear b2 hbx ha1 hf1 hrow1 hnil1 hw1 hp1
  have b2 : w1.cell? ⟨w.heap.size, 2, none⟩ = some (.int .u64 n) := by simp [World.cell?, hbx1]
  clear hbx1
  go_upto_region 21 with (go_at_call 40; refine HS2.out.mono ?_; rintro e w3 ⟨ya, yc, outs2, a', cap', l2, rfl, ha2, hf2, hrow2, hr3, hrf⟩)
  obtain ⟨ha1, hf1, hrow1, hnil1, hw1, hp1⟩ := H1.out
  have had : 0 ≤ advTo now n := by have := H.out.wh.now_; unfold advTo; split <;> omega
  obtain ⟨hoo, haf⟩ := H.out.adv HAL.out ha1 hf1 rfl had hw1 hp1 ha2 hf2 hr3 hrf
  subst hoo
  have HAF := Hid.mk haf
  have hrow1' : w3.ownsRow wa.heap.size 63 2 (.slice xa outs.length xc) outs.length (frL outs) := own_kept hrow1 (fun k hk he _ => by
    obtain ⟨cs, fr, e⟩ := he
    exact hrf.block k (lt_of_block e) (by have := HR.out.mb; have := HAL.out.size; omega) (by simp))
  have HROW := Hid.mk (And.intro hrow1' (And.intro hrow2 hnil1))
  clear ha1 hf1 hrow1 hnil1 hw1 hp1 ha2 hf2 hrow2 hr3 hrf haf hrow1' had b2 HS HS2 H1
  obtain ⟨m, hm⟩ : ∃ m, m = outs.length := ⟨_, rfl⟩
  by_cases hm0 : m = 0
  · have e0 : outs = [] := List.eq_nil_of_length_eq_zero (by omega)
    have ex := HROW.out.2.2 e0
    subst ex
    have ec := own_nil HROW.out.1
    subst ec
    rw [← hm, hm0]
    clear hm hm0 e0
    have hsn := sl_nil
    go_wp2_with fail
    go_loopw [19] (fun iv wr => iv = .int .i64 0 ∧ wr = w3) (fun _ _ => 0)
    case atStart => exact ⟨rfl, rfl⟩
    case round =>
      obtain ⟨rfl, rfl⟩ := hrel
      go_wp2_with fail
      go_ret
      exact ⟨rfl, HAF.out⟩
  · have hm1 : 0 < m := by omega
    obtain ⟨g1, rfl, hc1, hc2, hcell1⟩ := fr_cells HROW.out.1 rfl (by omega)
    obtain ⟨g2, rfl, hc3, hc4, hcell2⟩ := fr_cells HROW.out.2.1 rfl (by omega)
    have HC := Hid.mk (And.intro hcell1 hcell2)
    have HMO := Hid.mk hm
    have q1 : ((m : Int) == 0) = false := by simp; omega
    have hml : (m : Int) ≤ 9223372036854775807 := by unfold maxLen at hc2; omega
    rw [← hm]
    clear hcell1 hcell2 hm hm0
    go_wp2_with fail
    go_loopw [19] (fun iv wr => ∃ k : Nat, iv = .int .i64 k ∧ k ≤ m ∧ Below w3.heap.size w3 wr) (fun iv _ => m - (intOf iv).toNat)
    case atStart => exact ⟨0, rfl, by omega, Below.refl _ _⟩
    case round =>
      obtain ⟨k, rfl, hk, hbl⟩ := hrel
      have HBL := Hid.mk hbl
      by_cases h2 : k < m
      · obtain ⟨x, y, f1, f2⟩ := frL_at outs k (by have := HMO.out; omega)
        obtain ⟨d1, d2⟩ := HC.out.1 k (by have := HMO.out; omega) x y f1 f2
        obtain ⟨d3, d4⟩ := HC.out.2 k (by have := HMO.out; omega) x y f1 f2
        have x1 := cell_later hbl d1
        have x2 := cell_later hbl d2
        have x3 := cell_later hbl d3
        have x4 := cell_later hbl d4
        have i1 : (k : Int) < (m : Int) := by omega
        clear f1 f2 d1 d2 d3 d4 hbl
        go_wp2_with fail
        go_quiet (fail)
        go_wp2_with fail
        go_roundw
        case rel => exact ⟨k + 1, by go_num, by omega, below_drewN HBL.out _⟩
        case measure => simp [intOf]; omega
      · obtain rfl : k = m := by omega
        clear hbl
        go_wp2_with fail
        go_ret
        exact ⟨rfl, HAF.out.keep HBL.out⟩
end Go.Proofs.YtgdcjccbdmcebaaDoor
