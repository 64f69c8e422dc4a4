/- The law Wheeled: every call of a wheel answers as the document's. -/
import Derived.Test.YtgdcjccbdmcebaaDoorHY3
import Derived.Test.YtgdcjccbdmcebaaDoorHY5
import Derived.Deep.CutRange
namespace Go.Proofs.YtgdcjccbdmcebaaDoor
open Go.RowKit
set_option maxRecDepth 100000
attribute [local go_sem ↓] Go.wp_at_zero Go.wp_at_succ

/-- A script's steps: kind, id, number. -/
structure Sc where
  kd : Int
  id : Int
  n : Int
def Sc.z : Sc := ⟨0, 0, 0⟩
def ScOk (s : Sc) : Prop := (Lit.int .i64 s.kd).wf = true ∧ (Lit.int .i64 s.id).wf = true ∧ 0 ≤ s.n ∧ s.n < 18446744073709551616
/-- Behind the address a lie these steps. -/
def ScAt (w : World) (a : Option Addr) (cap : Nat) (l : List Sc) : Prop :=
  l.length = 0 ∨ (∃ b o, a = some ⟨b, o, none⟩ ∧ l.length ≤ cap ∧ cap ≤ maxLen ∧ b < w.heap.size ∧ ∀ i, i < l.length → w.cell? ⟨b, o + i * 3, none⟩ = some (.int .i64 (l.getD i .z).kd) ∧ w.cell? ⟨b, o + i * 3 + 1, none⟩ = some (.int .i64 (l.getD i .z).id) ∧ w.cell? ⟨b, o + i * 3 + 2, none⟩ = some (.int .u64 (l.getD i .z).n))
theorem ScAt.keep {w w' : World} {a : Option Addr} {cap : Nat} {l : List Sc} (h : ScAt w a cap l) (hb : Below w.heap.size w w') : ScAt w' a cap l := by
  rcases h with h | ⟨b, o, h1, h2, h3, h4, h5⟩
  · exact Or.inl h
  · exact Or.inr ⟨b, o, h1, h2, h3, Nat.lt_of_lt_of_le h4 hb.size, fun i hi => ⟨(hb.cell (p := ⟨b, o + i * 3, none⟩) h4).trans (h5 i hi).1, (hb.cell (p := ⟨b, o + i * 3 + 1, none⟩) h4).trans (h5 i hi).2.1, (hb.cell (p := ⟨b, o + i * 3 + 2, none⟩) h4).trans (h5 i hi).2.2⟩⟩
theorem turns_any (w : World) (P M B now : Nat) (l : List Tm) (sq kd id n : Int) (h : Two w P M B now l sq) (hsq : sq ≤ 4611686018427387904) (hid : (Lit.int .i64 id).wf = true) (h0 : 0 ≤ n) (h1 : n < 18446744073709551616) :
    Calls Tryd.prog 18 #[.pointer (some ⟨P, 0, none⟩), .pointer (some ⟨M, 0, none⟩), .agg #[.int .i64 kd, .int .i64 id, .int .u64 n]] w fun e w' => e = .returned (.bool true) ∧ After w w' P M B sq := by
  by_cases k1 : kd = 1
  · subst k1; exact turns_set w P M B now l sq id n h hsq hid h0 h1
  by_cases k2 : kd = 2
  · subst k2; exact turns_can w P M B now l sq id n h hid
  by_cases k3 : kd = 3
  · subst k3; exact turns_adv w P M B now l sq id n h h0 h1
  by_cases k4 : kd = 4
  · subst k4; exact turns_next w P M B now l sq id n h
  by_cases k5 : kd = 5
  · subst k5; exact turns_at w P M B now l sq id n h hsq hid h0 h1
  exact turns_else w P M B now l sq kd id n h k1 k2 k3 k4 k5

/-- Both wheels as they are made. -/
theorem two_new {w w1 w2 : World} {P : Nat} {now u : Int} (h0 : 0 ≤ now) (hu : u = min now 4611686018427387904) (hT : TabIn w) (hE : ErrTypeIn w) (hP : w.heap.size ≤ P)
    (hb1 : Below w.heap.size w w1) (hc1 : w1.heap[P]? = some (.cells (Tryd.zeroCells82.setIfInBounds 0 (.int .u64 (min now 4611686018427387904))) 85 (0, 0))) (hw2 : w2 = w1.alloc (.cells #[.int .u64 u, .slice none 0 0, .int .i64 0] 47)) :
    Two w2 P w1.heap.size w2.heap.size (min now 4611686018427387904).toNat [] 0 ∧ Below w.heap.size w w2 := by
  have hal : Below w1.heap.size w1 w2 := by rw [hw2]; exact (Below.refl _ _).alloc (Nat.le_refl _) _
  have hM : w2.heap[w1.heap.size]? = some (.cells #[.int .u64 u, .slice none 0 0, .int .i64 0] 47 (0, 0)) := by rw [hw2]; exact heap_alloc_new w1 _
  clear hw2
  have hb2 := hb1.trans (hal.mono hb1.size)
  have hP1 := lt_of_block hc1
  have hMs := lt_of_block hM
  have hw1s := hb1.size
  have g1 : 1 < w.heap.size := World.block_lt_of_cell? _ _ (hT 0 (by decide))
  have g2 : 0 < w.heap.size := World.block_lt_of_cell? _ _ hE
  have e : ((min now 4611686018427387904).toNat : Int) = u := by omega
  refine ⟨⟨wh_new h0 ((hal.block P hP1).trans hc1) (by omega) (Nat.le_refl _), ⟨none, 0, ⟨?_, ?_, ?_, ?_, ?_, ?_, World.ownsRow_nil _ _ _ _, hMs, Nat.le_refl _, by simp⟩⟩, good_nil 0, by omega, fun j hj => cell_later hb2 (hT j hj), hE.keep hb2, by omega, by omega, ⟨by omega, by omega, by omega⟩, ⟨by omega, by omega, by omega⟩⟩, hb2⟩
  · rw [e]; exact cell_of_row _ _ 0 _ _ _ hM
  · exact cell_of_row _ _ 1 _ _ _ hM
  · exact cell_of_row _ _ 2 _ _ _ hM
  · simp [World.frozen?, hM]
  · simp [World.frozen?, hM]
  · simp [World.frozen?, hM]

set_option maxHeartbeats 8000000 in
theorem wheeled_any (w : World) (a : Option Addr) (cap : Nat) (l : List Sc) (now : Int) (hs : ScAt w a cap l) (hok : ∀ i, i < l.length → ScOk (l.getD i .z)) (hlen : l.length ≤ maxLen) (h0 : 0 ≤ now) (h1 : now < 18446744073709551616) (hT : TabIn w) (hE : ErrTypeIn w) :
    Calls Tryd.prog 5 #[.slice a l.length cap, .int .u64 now] w fun e w' => e = .returned (.bool true) ∧ Below w.heap.size w w' := by
  have HS := Hid.mk hs
  have HOK := Hid.mk hok
  have HTE := Hid.mk (And.intro hT hE)
  have HNW := Hid.mk (newWheel_any w now)
  unfold maxLen at hlen
  obtain ⟨m, hm⟩ : ∃ m, m = l.length := ⟨_, rfl⟩
  have HM := Hid.mk hm
  rw [← hm] at hlen
  rw [← hm]
  clear hs hok hT hE hm
  by_cases h2 : m > 2000
  · have g1 : decide (2000 < m) = true := decide_eq_true (by omega)
    have g2 : decide ((2000 : Int) < (m : Int)) = true := decide_eq_true (by omega)
    go_enter Tryd.func5, Tryd.ntmps5
    go_wp2_with fail
    go_ret
    exact ⟨rfl, Below.refl _ _⟩
  · have g1 : decide (2000 < m) = false := decide_eq_false (by omega)
    have g2 : decide ((2000 : Int) < (m : Int)) = false := decide_eq_false (by omega)
    go_enter Tryd.func5, Tryd.ntmps5
    go_upto_region 6 with (go_at_call 17; refine HNW.out.mono ?_; rintro e w1 ⟨P, rfl, hP, hc1, hb1⟩)
    have HN1 := Hid.mk (And.intro hP (And.intro hc1 hb1))
    clear hP hc1 hb1
    go_upto_if 17 with fail
    go_cut [1] from 16 to 17 (fun v wx => v = .int .u64 (min now 4611686018427387904) ∧ wx = w1)
    case first =>
      by_cases h3 : 4611686018427387904 < now
      · have q1 : decide (4611686018427387904 < now) = true := decide_eq_true h3
        go_wp2_with fail
        all_goals go_meet
        all_goals exact ⟨by congr 1; omega, rfl⟩
      · have q1 : decide (4611686018427387904 < now) = false := decide_eq_false h3
        go_wp2_with fail
        all_goals go_meet
        all_goals exact ⟨by congr 1; omega, rfl⟩
    case rest =>
      obtain ⟨rfl, rfl⟩ := hcut
      rename World => w1
      obtain ⟨u, hu⟩ : ∃ u, u = min now 4611686018427387904 := ⟨_, rfl⟩
      have HU := Hid.mk hu
      rw [← hu]
      clear hu
      go_upto_region 9 with fail
      obtain ⟨w2, hw2⟩ : ∃ w2, w2 = w1.alloc (.cells #[.int .u64 u, .slice none 0 0, .int .i64 0] 47) := ⟨_, rfl⟩
      obtain ⟨htwo, hb2⟩ := two_new h0 HU.out HTE.out.1 HTE.out.2 HN1.out.1 HN1.out.2.2 HN1.out.2.1 hw2
      rw [← hw2]
      have HTW := Hid.mk (And.intro htwo hb2)
      have hMge : w.heap.size ≤ w1.heap.size := HN1.out.2.2.size
      have hBge : w.heap.size ≤ w2.heap.size := hb2.size
      clear htwo hb2 hw2
      generalize w1.heap.size = M at *
      go_wp2_with fail
      go_loopw [7] (fun iv wr => ∃ (i : Nat) (n : Nat) (l' : List Tm) (sq : Int), iv = .int .i64 i ∧ i ≤ m ∧ Two wr P M w2.heap.size n l' sq ∧ sq ≤ i ∧ TF w2 wr P M w2.heap.size) (fun iv _ => m - (intOf iv).toNat)
      case atStart => exact ⟨0, _, _, _, rfl, by omega, HTW.out.1, by omega, TF.refl _ _ _ _⟩
      case round =>
        obtain ⟨i, n, l', sq, rfl, hi, htw, hsq, htf⟩ := hrel
        have hbl : Below w.heap.size w wr := HTW.out.2.trans ⟨htf.os, htf.tape, htf.output, htf.size, fun k hk => htf.block k (by omega) (by have := HN1.out.1; omega) (by omega)⟩
        have HR := Hid.mk (And.intro htw (And.intro htf hbl))
        clear htw htf
        by_cases h4 : i < m
        · have hok := HOK.out i (by have := HM.out; omega)
          rcases HS.out.keep hbl with h5 | ⟨b0, o, rfl, hcap, hmax, _, hc⟩
          · have := HM.out; omega
          · obtain ⟨x0, x1, x2⟩ := hc i (by have := HM.out; omega)
            rw [← HM.out] at hcap
            have HT := Hid.mk (turns_any wr P M w2.heap.size n l' sq (l.getD i .z).kd (l.getD i .z).id (l.getD i .z).n HR.out.1 (by omega) hok.2.1 hok.2.2.1 hok.2.2.2)
            generalize (l.getD i .z).kd = kd at *
            generalize (l.getD i .z).id = id at *
            generalize (l.getD i .z).n = nn at *
            unfold maxLen at hmax
            clear hok hc hbl
            go_wp2_with (go_at_call 18; refine HT.out.mono ?_; rintro e w4 ⟨rfl, haf⟩; have HAF := Hid.mk haf; clear haf)
            go_roundw
            case rel =>
              obtain ⟨n2, l2, s2, g1, g2, g3⟩ := HAF.out
              exact ⟨i + 1, n2, l2, s2, by go_num, by omega, g1, by omega, HR.out.2.1.trans g3⟩
            case measure => simp [intOf]; omega
        · obtain rfl : i = m := by omega
          clear hbl
          go_wp2_with fail
          go_ret
          exact ⟨rfl, HR.out.2.2⟩
end Go.Proofs.YtgdcjccbdmcebaaDoor
