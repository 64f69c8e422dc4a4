/- The law Alarmed: its walk. -/
import Derived.Test.YtgdcjccbdmcebaaDoorHA3
import Derived.Deep.CutRange
namespace Go.Proofs.YtgdcjccbdmcebaaDoor
open Go.RowKit
set_option maxRecDepth 100000
attribute [local go_sem ↓] Go.wp_at_zero Go.wp_at_succ

theorem infoU64 : (Tryd.prog.info? 34).map (fun i => (i.zero, i.size, i.bytes)) = some (some (.int .u64 0), 1, 8) := by kernel_rfl
theorem infoBool : (Tryd.prog.info? 4).map (fun i => (i.zero, i.size, i.bytes)) = some (some (.bool false), 1, 1) := by kernel_rfl
/-- The wheel that was tried once: a timer was set, and cancelled. -/
theorem tried_once {l1 l2 : List Tm} {now : Nat} {x y : Int} {s1 : Int} (_hn : now < 1099511627776) (h1 : SetIs [] now 0 1000 (now + 5) x l1 s1) (h2 : CanIs l1 1000 y l2) : x = 0 ∧ y = 0 ∧ l2 = [] := by
  rcases h1 with ⟨⟨j, hj, _⟩, _⟩ | ⟨_, h, _⟩ | ⟨_, _, rfl, rfl, _⟩
  · simp at hj
  · simp at h
  · rcases h2 with ⟨i, a1, a2, _, rfl, rfl⟩ | ⟨a1, _, _⟩
    · simp at a1
      subst a1
      exact ⟨rfl, rfl, rfl⟩
    · exact absurd ⟨0, by simp, rfl⟩ a1

theorem AlR.storeD {w0 wr : World} {P B Bd Bl n now : Nat} {l : List Tm} {due : Nat → Int} {left : Nat → Bool} (h : AlR w0 wr P B Bd Bl n now l due left) (h1 : Bd ≠ P) (hB : w0.heap.size ≤ Bd) (hne : Bl ≠ Bd) (i : Nat) (v : Int) : WhAt (wr.setCell ⟨Bd, i, none⟩ (.int .u64 v)) P B now l ∧ (wr.setCell ⟨Bd, i, none⟩ (.int .u64 v)).rowIs Bd 34 n (fun j => .int .u64 (if j = i then v else due j)) ∧ (wr.setCell ⟨Bd, i, none⟩ (.int .u64 v)).rowIs Bl 4 n (fun j => .bool (left j)) ∧ Below w0.heap.size w0 (wr.setCell ⟨Bd, i, none⟩ (.int .u64 v)) := by
  obtain ⟨cs, fr, e⟩ := rowIs_block h.rd
  refine ⟨h.wh.setO (x := ⟨Bd, i, none⟩) ⟨_, _, _, e, by decide⟩ h1 _, (h.rd.set i (.int .u64 v)).congr (fun j _ => by split <;> rfl), h.rl.setOther (a := ⟨Bd, i, none⟩) hne _, h.bl.setCell (by simpa using hB) _⟩
theorem wh_storeL {w0 w1 : World} {P B Bd Bl n now : Nat} {l : List Tm} {due : Nat → Int} {left : Nat → Bool} (hw : WhAt w1 P B now l) (hd : w1.rowIs Bd 34 n (fun j => .int .u64 (due j))) (hl : w1.rowIs Bl 4 n (fun j => .bool (left j))) (hb : Below w0.heap.size w0 w1) (h1 : Bl ≠ P) (hB : w0.heap.size ≤ Bl) (hne : Bd ≠ Bl) (i : Nat) (v : Bool) : WhAt (w1.setCell ⟨Bl, i, none⟩ (.bool v)) P B now l ∧ (w1.setCell ⟨Bl, i, none⟩ (.bool v)).rowIs Bd 34 n (fun j => .int .u64 (due j)) ∧ (w1.setCell ⟨Bl, i, none⟩ (.bool v)).rowIs Bl 4 n (fun j => .bool (if j = i then v else left j)) ∧ Below w0.heap.size w0 (w1.setCell ⟨Bl, i, none⟩ (.bool v)) := by
  obtain ⟨cs, fr, e⟩ := rowIs_block hl
  exact ⟨hw.setO (x := ⟨Bl, i, none⟩) ⟨_, _, _, e, by decide⟩ h1 _, hd.setOther (a := ⟨Bl, i, none⟩) hne _, (hl.set i (.bool v)).congr (fun j _ => by split <;> rfl), hb.setCell (by simpa using hB) _⟩
/-- So many timers have been set. -/
structure SetSo (n now i : Nat) (l : List Tm) (due : Nat → Int) (left : Nat → Bool) : Prop where
  no : ∀ k, i ≤ k → left k = false
  len : l.length ≤ i
  hi : ∀ k, k < n → left k = true → due k ≤ (now : Int) + 1099511627776

theorem wf_i64_small {x : Int} (h0 : -9223372036854775808 ≤ x) (h1 : x ≤ 9223372036854775807) : (Lit.int .i64 x).wf = true := by
  have e1 : IntKind.i64.min = -9223372036854775808 := by decide
  have e2 : IntKind.i64.max = 9223372036854775807 := by decide
  simp only [Lit.wf, e1, e2, Bool.and_eq_true, decide_eq_true_eq]
  omega
theorem set_new {l l' : List Tm} {now id tm x sq sq' : Int} (h : SetIs l now sq id tm x l' sq') (hn : ¬ hasId l id l.length) (hl : l.length ≠ 200) (h1 : now < tm) (h2 : tm ≤ 4611686018427387904) : x = 0 ∧ l' = l ++ [⟨id, tm, sq + 1⟩] := by
  rcases h with ⟨a1, _⟩ | ⟨_, a2, _⟩ | ⟨_, _, rfl, rfl, _⟩
  · exact absurd a1 hn
  · exact absurd a2 hl
  · have e : clampT now tm = tm := by unfold clampT; rw [if_neg (by omega), if_neg (by omega)]
    rw [e]; exact ⟨rfl, rfl⟩

set_option maxHeartbeats 16000000 in
theorem alarmed_any (w : World) (a0 a1 a2 : Option Addr) (n n1 n2 c0 c1 c2 : Nat) (f0 f1 f2 : Nat → Int) (start : Int) (h0 : IntsIn w a0 n c0 f0) (h1 : IntsIn w a1 n1 c1 f1) (h2 : IntsIn w a2 n2 c2 f2) (s1 : -9223372036854775808 ≤ start) (s2 : start ≤ 9223372036854775807) (hT : TabIn w) (hE : ErrTypeIn w) :
    Calls Tryd.prog 7 #[.slice a0 n c0, .slice a1 n1 c1, .slice a2 n2 c2, .int .i64 start] w fun e w' => e = .returned (.bool true) ∧ Below w.heap.size w w' := by
  have HI := Hid.mk (And.intro h0 (And.intro h1 h2))
  have HTE := Hid.mk (And.intro hT hE)
  have hn0 := h0.len
  have hn1 := h1.len
  have hn2 := h2.len
  unfold maxLen at hn0 hn1 hn2
  have HPK := Hid.mk (kpick_any start 1099511627776 w s1 s2 (by omega) (by omega))
  obtain ⟨nw, hnw⟩ : ∃ nw : Nat, pickI start 1099511627776 = (nw : Int) := ⟨(pickI start 1099511627776).toNat, by have := pickI_lo start 1099511627776 (by omega); omega⟩
  have hnw2 : nw < 1099511627776 := by have := pickI_hi start 1099511627776 (by omega); omega
  rw [hnw] at HPK
  have e1 : IntKind.u64.wrap (nw : Int) = (nw : Int) := by rw [IntKind.wrap_u64]; omega
  have HNW := Hid.mk (newWheel_any w (nw : Int))
  clear h0 h1 h2 hT hE hnw s1 s2
  go_enter Tryd.func7, Tryd.ntmps7
  go_upto_region 3 with (first
    | (go_at_call 21; refine HPK.out.mono ?_; rintro e w0 ⟨rfl, hw0⟩; rw [hw0])
    | (go_at_call 17; refine HNW.out.mono ?_; rintro e w1 ⟨P, rfl, hP, hc1, hb1⟩))
  have HN1 := Hid.mk (And.intro hP (And.intro hc1 hb1))
  clear hP hc1 hb1
  by_cases hbig : 100 < n ∨ 200 < n2
  · by_cases hb100 : 100 < n
    · have g1 : decide ((100 : Int) < (n : Int)) = true := decide_eq_true (by omega)
      have g1' : decide (100 < n) = true := decide_eq_true (by omega)
      go_wp2_with fail
      go_ret
      exact ⟨rfl, HN1.out.2.2⟩
    · have g1 : decide ((100 : Int) < (n : Int)) = false := decide_eq_false (by omega)
      have g2 : decide ((200 : Int) < (n2 : Int)) = true := decide_eq_true (by omega)
      have g1' : decide (100 < n) = false := decide_eq_false (by omega)
      have g2' : decide (200 < n2) = true := decide_eq_true (by omega)
      go_wp2_with fail
      go_ret
      exact ⟨rfl, HN1.out.2.2⟩
  · have g1 : decide ((100 : Int) < (n : Int)) = false := decide_eq_false (by omega)
    have g2 : decide ((200 : Int) < (n2 : Int)) = false := decide_eq_false (by omega)
    have g1' : decide (100 < n) = false := decide_eq_false (by omega)
    have g2' : decide (200 < n2) = false := decide_eq_false (by omega)
    have hn100 : n ≤ 100 := by omega
    have hn200 : n2 ≤ 200 := by omega
    have G1 : 1 < w.heap.size := World.block_lt_of_cell? _ _ (HTE.out.1 0 (by decide))
    have G2 : 0 < w.heap.size := World.block_lt_of_cell? _ _ HTE.out.2
    have hP1 := lt_of_block HN1.out.2.1
    have hPw := HN1.out.1
    have hw1 := HN1.out.2.2.size
    have hwh1 : WhAt w1 P w1.heap.size nw [] := by
      have := wh_new (w := w1) (P := P) (B := w1.heap.size) (now := (nw : Int)) (by omega) HN1.out.2.1 hP1 (Nat.le_refl _)
      have e : (min (nw : Int) 4611686018427387904).toNat = nw := by omega
      rwa [e] at this
    have e2 : IntKind.u64.wrap ((nw : Int) + 5) = (nw : Int) + 5 := by rw [IntKind.wrap_u64]; omega
    have HS1 := Hid.mk (pset_any w1 P w1.heap.size nw [] 1000 ((nw : Int) + 5) 0 hwh1 (by decide) (by omega) (by omega) (HTE.out.2.keep HN1.out.2.2) (by omega) (by omega))
    clear hwh1
    go_upto_region 6 with (go_at_call 22; refine HS1.out.mono ?_; rintro e w2 ⟨x1, l1, sq1, rfl, hs1, hw2, hf2⟩)
    have hb2 : Below w.heap.size w w2 := below_pf HN1.out.2.2 hf2 hPw hw1
    have HS2 := Hid.mk (pcancel_any w2 P w1.heap.size nw l1 1000 hw2 (by decide) (HTE.out.2.keep hb2) (by omega) (by omega))
    have HX2 := Hid.mk (And.intro hs1 (And.intro hw2 (And.intro hf2 hb2)))
    clear hs1 hw2 hf2 hb2 e2
    go_upto_region 7 with (go_at_call 23; refine HS2.out.mono ?_; rintro e w3 ⟨x2, l2, rfl, hc2, hw3, hf3⟩)
    obtain ⟨rfl, rfl, rfl⟩ := tried_once hnw2 HX2.out.1 hc2
    have HX3 := Hid.mk (And.intro hw3 (below_pf HX2.out.2.2.2 hf3 hPw hw1))
    have hs3 : w1.heap.size ≤ w3.heap.size := Nat.le_trans HX2.out.2.2.1.size hf3.size
    clear hc2 hw3 hf3 HS1 HS2
    have hmk1 := run_make_row' (P := Tryd.prog) 59 34 (.int .u64 0) 8 Tryd.underlying59 infoU64 rfl .i64 .i64 n (by omega) (by omega)
    have hmk2 := run_make_row' (P := Tryd.prog) 55 4 (.bool false) 1 Tryd.underlying55 infoBool rfl .i64 .i64 n (by omega) (by omega)
    go_upto_region 11 with fail
    obtain ⟨Bd, hBd⟩ : ∃ Bd, Bd = w3.heap.size := ⟨_, rfl⟩
    have hst : AlR w ((w3.alloc (.cells (madeCells #[.int .u64 0] n) 34)).alloc (.cells (madeCells #[.bool false] n) 4)) P w1.heap.size w3.heap.size (w3.heap.size + 1) n nw [] (fun _ => 0) (fun _ => false) := by
      have h1 := World.rowIs_made w3 (.int .u64 0) n 34
      have h2 := World.rowIs_made (w3.alloc (.cells (madeCells #[.int .u64 0] n) 34)) (.bool false) n 4
      have e : (w3.alloc (.cells (madeCells #[.int .u64 0] n) 34)).heap.size = w3.heap.size + 1 := by simp
      rw [e] at h2
      have hb : Below w3.heap.size w3 ((w3.alloc (.cells (madeCells #[.int .u64 0] n) 34)).alloc (.cells (madeCells #[.bool false] n) 4)) := ((Below.refl _ _).alloc (Nat.le_refl _) _).alloc (by simp) _
      exact ⟨HX3.out.1.keep hb, h1.alloc _, h2, live_nil n _, HX3.out.2.trans (hb.mono HX3.out.2.size)⟩
    rw [← hBd] at hst hs3
    rw [← hBd]
    have HST := Hid.mk hst
    have hB5 := hst.rl.lt
    clear hst hmk1 hmk2 hBd
    generalize (w3.alloc (.cells (madeCells #[.int .u64 0] n) 34)).alloc (.cells (madeCells #[.bool false] n) 4) = w5 at *
    have hBP : Bd ≠ P ∧ Bd + 1 ≠ P := ⟨by omega, by omega⟩
    go_wp2_with fail
    go_loopw [15] (fun iv wr => ∃ (i : Nat) (l : List Tm) (due : Nat → Int) (left : Nat → Bool), iv = .int .i64 i ∧ i ≤ n ∧ AlR w wr P w1.heap.size Bd (Bd + 1) n nw l due left ∧ SetSo n nw i l due left) (fun iv _ => n - (intOf iv).toNat)
    case atStart => exact ⟨0, [], _, _, rfl, by omega, HST.out, ⟨fun _ _ => rfl, Nat.zero_le _, fun k _ h => by cases h⟩⟩
    case round =>
      obtain ⟨i, l, due, left, rfl, hi, hal, hss⟩ := hrel
      have HAL := Hid.mk hal
      have HSS := Hid.mk hss
      by_cases h1 : i < n
      · have hti := HI.out.1.keep (w' := wr) hal.bl
        rcases hti.at' with h5 | ⟨b0, o, rfl, hcap, hmax, _, hc⟩
        · omega
        have x0 := hc i h1
        unfold maxLen at hmax
        have HP2 := Hid.mk (kpick_any (f0 i) 1099511627776 wr (hti.lo i h1) (hti.hi i h1) (by omega) (by omega))
        obtain ⟨p, hp⟩ : ∃ p : Nat, pickI (f0 i) 1099511627776 = (p : Int) := ⟨(pickI (f0 i) 1099511627776).toNat, by have := pickI_lo (f0 i) 1099511627776 (by omega); omega⟩
        have hp2 : p < 1099511627776 := by have := pickI_hi (f0 i) 1099511627776 (by omega); omega
        rw [hp] at HP2
        have q1 : IntKind.u64.wrap (p : Int) = (p : Int) := by rw [IntKind.wrap_u64]; omega
        have q2 : IntKind.u64.wrap ((nw : Int) + 1) = (nw : Int) + 1 := by rw [IntKind.wrap_u64]; omega
        have q3 : IntKind.u64.wrap ((nw : Int) + 1 + (p : Int)) = (nw : Int) + 1 + (p : Int) := by rw [IntKind.wrap_u64]; omega
        have d0 := hal.rd.cell h1
        have d1 := hal.rd.frozen i
        have b0' := hal.rl.cell h1
        have b1 := hal.rl.frozen i
        have i1 : (i : Int) < (n : Int) := by omega
        clear hal hss hti hc hp
        go_upto_region 16 with (go_at_call 21; refine HP2.out.mono ?_; rintro e w0 ⟨rfl, hw0⟩; rw [hw0])
        obtain ⟨k1, k2, k3, k4⟩ := HAL.out.storeD hBP.1 (by omega) (by omega) i ((nw : Int) + 1 + (p : Int))
        obtain ⟨j1, j2, j3, j4⟩ := wh_storeL k1 k2 k3 k4 hBP.2 (by omega) (by omega) i true
        have HJ := Hid.mk (And.intro j1 (And.intro j2 (And.intro j3 j4)))
        have d2 := j2.cell h1
        simp only [if_true] at d2
        clear k1 k2 k3 k4 j1 j2 j3 j4 d0 d1 b0' b1
        generalize (wr.setCell ⟨Bd, i, none⟩ (.int .u64 ((nw : Int) + 1 + (p : Int)))).setCell ⟨Bd + 1, i, none⟩ (.bool true) = w6 at *
        obtain ⟨v, hv⟩ : ∃ v : Int, v = (nw : Int) + 1 + (p : Int) := ⟨_, rfl⟩
        have HV := Hid.mk hv
        rw [← hv] at d2
        have hv0 : (nw : Int) < v ∧ v ≤ (nw : Int) + 1099511627776 := by omega
        have hidw : (Lit.int .i64 (i : Int)).wf = true := wf_i64_small (by omega) (by omega)
        have HS6 := Hid.mk (pset_any w6 P w1.heap.size nw l (i : Int) v 0 HJ.out.1 hidw (by omega) (by omega) (HTE.out.2.keep HJ.out.2.2.2) (by omega) (by omega))
        clear hv q1 q2 q3
        go_upto_region 17 with (go_at_call 22; refine HS6.out.mono ?_; rintro e w7 ⟨x, l7, sq7, rfl, hs7, hw7, hf7⟩)
        obtain ⟨rfl, hl7⟩ := set_new hs7 (fun hh => by have := (HAL.out.live.has h1).1 hh; rw [HSS.out.no i (Nat.le_refl _)] at this; cases this) (by have := HSS.out.len; omega) hv0.1 (by omega)
        have HREL : Hid (∃ (l : List Tm) (due : Nat → Int) (left : Nat → Bool), AlR w w7 P w1.heap.size Bd (Bd + 1) n nw l due left ∧ SetSo n nw (i + 1) l due left) := Hid.mk (by
          subst hl7
          refine ⟨_, (fun j => if j = i then v else due j), (fun j => if j = i then true else left j), ⟨hw7, (rowIs_pf HJ.out.2.1 hf7 (by decide) hBP.1).congr (fun j _ => by rw [← HV.out]), rowIs_pf HJ.out.2.2.1 hf7 (by decide) hBP.2, ?_, below_pf HJ.out.2.2.2 hf7 hPw hw1⟩, ?_⟩
          · exact HAL.out.live.set h1 (HSS.out.no i (Nat.le_refl _))
          · refine ⟨fun k hk => ?_, by rw [List.length_append, List.length_singleton]; have := HSS.out.len; omega, fun k hk hl => ?_⟩
            · rw [if_neg (by omega)]; exact HSS.out.no k (by omega)
            · by_cases e : k = i
              · rw [if_pos e]; omega
              · rw [if_neg e] at hl ⊢; exact HSS.out.hi k hk hl)
        clear hs7 hw7 hf7 hl7 HS6 d2
        go_wp2_with fail
        go_roundw
        case rel =>
          obtain ⟨l8, d8, f8, r1, r2⟩ := HREL.out
          exact ⟨i + 1, l8, d8, f8, by go_num, by omega, r1, r2⟩
        case measure => simp [intOf]; omega
      · obtain rfl : i = n := by omega
        have hin : AlR w wr P w1.heap.size Bd (Bd + 1) i nw l due left ∧ ∀ k, k < i → left k = true → due k ≤ (nw : Int) + 1099511627776 := ⟨hal, hss.hi⟩
        have HIN := Hid.mk hin
        clear hal hss hin HAL HSS
        go_wp2_with fail
        go_loopw [16] (fun jv wy => ∃ (j : Nat) (l : List Tm) (due : Nat → Int) (left : Nat → Bool), jv = .int .i64 j ∧ j ≤ 200 ∧ AlR w wy P w1.heap.size Bd (Bd + 1) i nw l due left ∧ ∀ k, k < i → left k = true → due k ≤ (nw : Int) + 1099511627776) (fun jv _ => 200 - (intOf jv).toNat)
        case atStart => exact ⟨0, _, _, _, rfl, by omega, HIN.out⟩
        case round =>
          clear HIN
          obtain ⟨j, l, due, left, rfl, hj, hal, hhi⟩ := hrel
          rename World => wy
          have HAL := Hid.mk hal
          have HHI := Hid.mk hhi
          clear hal hhi
          go_upto_region 20 with fail
          go_cut [107] from 95 to 107 (fun v wx => v = .bool (decide (j < n1) && decide (j < 200) && decide (0 < i)) ∧ wx = wy)
          case first =>
            by_cases q1 : j < n1
            · by_cases q2 : j < 200
              · by_cases q3 : 0 < i
                · have r1 : decide ((j : Int) < (n1 : Int)) = true := decide_eq_true (by omega)
                  have r2 : decide ((j : Int) < 200) = true := decide_eq_true (by omega)
                  have r3 : decide ((0 : Int) < (i : Int)) = true := decide_eq_true (by omega)
                  go_wp2_with fail
                  all_goals go_meet
                  all_goals exact ⟨by simp [q1, q2, q3], rfl⟩
                · have r1 : decide ((j : Int) < (n1 : Int)) = true := decide_eq_true (by omega)
                  have r2 : decide ((j : Int) < 200) = true := decide_eq_true (by omega)
                  have r3 : decide ((0 : Int) < (i : Int)) = false := decide_eq_false (by omega)
                  go_wp2_with fail
                  all_goals go_meet
                  all_goals exact ⟨by simp [q3], rfl⟩
              · have r1 : decide ((j : Int) < (n1 : Int)) = true := decide_eq_true (by omega)
                have r2 : decide ((j : Int) < 200) = false := decide_eq_false (by omega)
                go_wp2_with fail
                all_goals go_meet
                all_goals exact ⟨by simp [q2], rfl⟩
            · have r1 : decide ((j : Int) < (n1 : Int)) = false := decide_eq_false (by omega)
              go_wp2_with fail
              all_goals go_meet
              all_goals exact ⟨by simp [q1], rfl⟩
          case rest =>
            obtain ⟨rfl, rfl⟩ := hcut
            rename World => wy
            go_upto_if 107 with fail
            by_cases hc3 : j < n1 ∧ j < 200 ∧ 0 < i
            · have gc : (decide (j < n1) && decide (j < 200) && decide (0 < i)) = true := by simp [hc3.1, hc3.2.1, hc3.2.2]
              have hti := HI.out.2.1.keep (w' := wy) HAL.out.bl
              rcases hti.at' with h5 | ⟨b0, o, rfl, hcap, hmax, _, hc⟩
              · omega
              have x0 := hc j hc3.1
              unfold maxLen at hmax
              have HP2 := Hid.mk (kpick_any (f1 j) (i : Int) wy (hti.lo j hc3.1) (hti.hi j hc3.1) (by omega) (by omega))
              obtain ⟨k, hk⟩ : ∃ k : Nat, pickI (f1 j) i = (k : Int) := ⟨(pickI (f1 j) i).toNat, by have := pickI_lo (f1 j) (i : Int) (by omega); omega⟩
              have hk2 : k < i := by have := pickI_hi (f1 j) (i : Int) (by omega); omega
              rw [hk] at HP2
              have i1 : (j : Int) < (n1 : Int) := by omega
              have hidw : (Lit.int .i64 (k : Int)).wf = true := wf_i64_small (by omega) (by omega)
              have HC7 := Hid.mk (pcancel_any wy P w1.heap.size nw l (k : Int) HAL.out.wh hidw (HTE.out.2.keep HAL.out.bl) (by omega) (by omega))
              clear hti hc hk
              go_upto_region 23 with (go_at_call 21; refine HP2.out.mono ?_; rintro e w0 ⟨rfl, hw0⟩; rw [hw0])
              clear x0
              go_upto_region 24 with (go_at_call 23; refine HC7.out.mono ?_; rintro e w7 ⟨x, l7, rfl, hc7, hw7, hf7⟩)
              obtain ⟨hx, hlive⟩ := HAL.out.live.can HAL.out.wh.apart hk2 hc7
              have hrd := rowIs_pf HAL.out.rd hf7 (by decide) hBP.1
              have hrl := rowIs_pf HAL.out.rl hf7 (by decide) hBP.2
              have hbl := below_pf HAL.out.bl hf7 hPw hw1
              have b0' := hrl.cell hk2
              have b1 := hrl.frozen k
              have i2 : (k : Int) < (i : Int) := by omega
              obtain ⟨j1, j2, j3, j4⟩ := wh_storeL hw7 hrd hrl hbl hBP.2 (by omega) (by omega) k false
              have HREL : Hid (∃ (l : List Tm) (due : Nat → Int) (left : Nat → Bool), AlR w (w7.setCell ⟨Bd + 1, k, none⟩ (.bool false)) P w1.heap.size Bd (Bd + 1) i nw l due left ∧ ∀ k, k < i → left k = true → due k ≤ (nw : Int) + 1099511627776) := Hid.mk ⟨l7, due, (fun j => if j = k then false else left j), ⟨j1, j2, j3, hlive, j4⟩, fun k2 h2 h3 => HHI.out k2 h2 (by by_cases e : k2 = k <;> simp_all)⟩
              clear j1 j2 j3 j4 hrd hrl hbl hc7 hw7 hf7 hlive HC7 HP2 hcap hmax
              cases hlk : left k with
              | true =>
                rw [hlk] at hx b0'
                have hx2 : x = 0 := by simpa using hx
                subst hx2
                clear hx hlk
                go_wp2_with fail
                go_roundw
                case rel =>
                  obtain ⟨l8, d8, f8, r1, r2⟩ := HREL.out
                  exact ⟨j + 1, l8, d8, f8, by go_num, by omega, r1, r2⟩
                case measure => simp [intOf]; omega
              | false =>
                rw [hlk] at hx b0'
                have hx3 : decide (x = 0) = false := by simpa using hx
                clear hlk
                go_wp2_with fail
                go_roundw
                case rel =>
                  obtain ⟨l8, d8, f8, r1, r2⟩ := HREL.out
                  exact ⟨j + 1, l8, d8, f8, by go_num, by omega, r1, r2⟩
                case measure => simp [intOf]; omega
            · have gc : (decide (j < n1) && decide (j < 200) && decide (0 < i)) = false := by
                cases e : (decide (j < n1) && decide (j < 200) && decide (0 < i)) with
                | false => rfl
                | true => simp at e; omega
              have HIN3 := Hid.mk (And.intro HAL.out HHI.out)
              clear HAL HHI
              go_wp2_with fail
              go_loopw [9, 18] (fun nv jv wz => ∃ (now j : Nat) (l : List Tm) (left : Nat → Bool), nv = .int .u64 now ∧ jv = .int .i64 j ∧ j ≤ n2 + 1 ∧ nw ≤ now ∧ (j ≤ n2 → now ≤ 1099511627776 * (j + 1)) ∧ AlR w wz P w1.heap.size Bd (Bd + 1) i now l due left ∧ (∀ k, k < i → left k = true → due k ≤ (nw : Int) + 1099511627776) ∧ (j = n2 + 1 → ∀ k, k < i → left k = false)) (fun _ jv _ => n2 + 1 - (intOf jv).toNat)
              case atStart => exact ⟨nw, 0, _, _, rfl, rfl, by omega, by omega, by omega, HIN3.out.1, HIN3.out.2, by omega⟩
              case round =>
                clear HIN3 gc hc3
                obtain ⟨now, j, l, left, rfl, rfl, hj, hnow1, hnow2, hal, hhi, hno⟩ := hrel
                rename World => wz
                have HAL := Hid.mk hal
                have HHI := Hid.mk hhi
                have HNO := Hid.mk hno
                clear hal hhi hno
                by_cases hj2 : j ≤ n2
                · have hj3 : (j : Int) ≤ (n2 : Int) := by omega
                  have hnow3 := hnow2 hj2
                  go_upto_if 139 with fail
                  go_cut [19] from 136 to 145 (fun v wx => ∃ st : Nat, v = .int .u64 st ∧ wx = wz ∧ st ≤ 2199023255552 ∧ (j < n2 → st < 1099511627776) ∧ (j = n2 → st = 2199023255552))
                  case first =>
                    by_cases hj4 : j < n2
                    · have i1 : (j : Int) < (n2 : Int) := by omega
                      have hti := HI.out.2.2.keep (w' := wz) HAL.out.bl
                      rcases hti.at' with h5 | ⟨b0, o, rfl, hcap, hmax, _, hc⟩
                      · omega
                      have x0 := hc j hj4
                      unfold maxLen at hmax
                      have HP3 := Hid.mk (kpick_any (f2 j) 1099511627776 wz (hti.lo j hj4) (hti.hi j hj4) (by omega) (by omega))
                      obtain ⟨p, hp⟩ : ∃ p : Nat, pickI (f2 j) 1099511627776 = (p : Int) := ⟨(pickI (f2 j) 1099511627776).toNat, by have := pickI_lo (f2 j) 1099511627776 (by omega); omega⟩
                      have hp2 : p < 1099511627776 := by have := pickI_hi (f2 j) 1099511627776 (by omega); omega
                      rw [hp] at HP3
                      have q1 : IntKind.u64.wrap (p : Int) = (p : Int) := by rw [IntKind.wrap_u64]; omega
                      clear hti hc hp
                      go_wp2_with (go_at_call 21; refine HP3.out.mono ?_; rintro e w0 ⟨rfl, hw0⟩; rw [hw0])
                      all_goals go_meet
                      all_goals exact ⟨p, rfl, rfl, by omega, by omega, by omega⟩
                    · have i1 : ¬ (j : Int) < (n2 : Int) := by omega
                      go_wp2_with fail
                      all_goals go_meet
                      all_goals exact ⟨2199023255552, rfl, rfl, by omega, by omega, by omega⟩
                  case rest =>
                    obtain ⟨st, rfl, rfl, hst1, hst2, hst3⟩ := hcut
                    rename World => wz
                    obtain ⟨tt, htt⟩ : ∃ tt : Nat, (tt : Int) = (now : Int) + (st : Int) := ⟨now + st, by omega⟩
                    have q1 : IntKind.u64.wrap ((now : Int) + (st : Int)) = (tt : Int) := by rw [IntKind.wrap_u64]; omega
                    have hat : advTo now st = (tt : Int) := by unfold advTo; rw [if_neg (by omega)]; omega
                    have HA := Hid.mk (padvance_any wz P w1.heap.size now l (st : Int) HAL.out.wh (fun x hx => cell_later HAL.out.bl (HTE.out.1 x hx)) (by omega) (by omega) (by omega) (by omega))
                    rw [hat] at HA
                    go_upto_region 34 with fail
                    clear q1
                    go_upto_region 35 with (go_at_call 24; refine HA.out.mono ?_; rintro e w7 ⟨xa, xc, outs, l7, rfl, ha7, he7, hrow7, _, hw7, hf7⟩)
                    have e7 : (tt : Int).toNat = tt := by omega
                    rw [e7] at hw7
                    have hrd := rowIs_pf HAL.out.rd hf7 (by decide) hBP.1
                    have hrl := rowIs_pf HAL.out.rl hf7 (by decide) hBP.2
                    have hbl := below_pf HAL.out.bl hf7 hPw hw1
                    have hout : Out i l tt outs due left 0 now := Out.first outs HAL.out.live HAL.out.wh.apart (fun q hq => (HAL.out.wh.later _ (mem_getD hq)).1)
                    have hBs : Bd + 1 < wz.heap.size := HAL.out.rl.lt
                    obtain ⟨m, hm⟩ : ∃ m, m = outs.length := ⟨_, rfl⟩
                    have hml : m ≤ 9223372036854775807 := by
                      by_cases h5 : m = 0
                      · omega
                      · obtain ⟨g, _, hc1, hc2, _⟩ := fr_cells hrow7 rfl (by omega)
                        unfold maxLen at hc2
                        omega
                    have HK := Hid.mk (And.intro ha7 (And.intro he7 (And.intro hrow7 hm)))
                    have HST4 := Hid.mk (And.intro hw7 (And.intro hrd (And.intro hrl (And.intro hbl hout))))
                    rw [← hm]
                    clear ha7 he7 hrow7 hm hw7 hrd hrl hbl hout hf7 e7 hat HA
                    go_wp2_with fail
                    go_loopw [22, 23] (fun lv tv wy => ∃ (last : Int) (t : Nat) (left4 : Nat → Bool), lv = .int .u64 last ∧ tv = .int .i64 t ∧ t ≤ m ∧ WhAt wy P w1.heap.size tt l7 ∧ wy.rowIs Bd 34 i (fun j => .int .u64 (due j)) ∧ wy.rowIs (Bd + 1) 4 i (fun j => .bool (left4 j)) ∧ Below w.heap.size w wy ∧ (∀ g, wz.heap.size ≤ g → g < w7.heap.size → wy.heap[g]? = w7.heap[g]?) ∧ Out i l tt outs due left4 t last ∧ (∀ k, k < i → left4 k = true → left k = true)) (fun _ tv _ => m - (intOf tv).toNat)
                    case atStart => exact ⟨now, 0, left, rfl, rfl, by omega, HST4.out.1, HST4.out.2.1, HST4.out.2.2.1, HST4.out.2.2.2.1, fun _ _ _ => rfl, HST4.out.2.2.2.2, fun _ _ h => h⟩
                    case round =>
                      clear HST4
                      obtain ⟨last, t, left4, rfl, rfl, ht, y1, y2, y3, y4, y5, y6, y7⟩ := hrel
                      rename World => wy
                      by_cases ht2 : t < m
                      · obtain ⟨g, rfl, hc1, hc2, hcell⟩ := fr_cells HK.out.2.2.1 rfl (by have := HK.out.2.2.2; omega)
                        obtain ⟨k, k1, k2, k3, k4, k5, hout'⟩ := y6.next HK.out.1 (by have := HK.out.2.2.2; omega)
                        obtain ⟨f3, f4⟩ := frL_of k3
                        obtain ⟨d1, d2⟩ := hcell t (by have := HK.out.2.2.2; omega) _ _ f3 f4
                        obtain ⟨z1, z2⟩ := HK.out.2.2.1.lt g rfl
                        have hz : g ≠ Bd + 1 ∧ Bd + 1 ≠ g := by omega
                        have hgw := y5 g z1 z2
                        have x1 := (World.cell?_of_block (a := ⟨g, t * 2, none⟩) hgw).trans d1
                        have x2 := (World.cell?_of_block (a := ⟨g, t * 2 + 1, none⟩) hgw).trans d2
                        have x3 := y2.cell k1
                        have x4 := y3.cell k1
                        have x5 := y3.frozen k
                        rw [k2] at x4
                        have hset : ∀ wd, Below wy.heap.size wy wd → WhAt (wd.setCell ⟨Bd + 1, k, none⟩ (.bool false)) P w1.heap.size tt l7 ∧ (wd.setCell ⟨Bd + 1, k, none⟩ (.bool false)).rowIs Bd 34 i (fun j => .int .u64 (due j)) ∧ (wd.setCell ⟨Bd + 1, k, none⟩ (.bool false)).rowIs (Bd + 1) 4 i (fun j => .bool (if j = k then false else left4 j)) ∧ Below w.heap.size w (wd.setCell ⟨Bd + 1, k, none⟩ (.bool false)) ∧ (∀ g, wz.heap.size ≤ g → g < w7.heap.size → (wd.setCell ⟨Bd + 1, k, none⟩ (.bool false)).heap[g]? = w7.heap[g]?) := by
                          intro wd hb
                          have hsz := y3.lt
                          obtain ⟨j1, j2, j3, j4⟩ := wh_storeL (y1.keep hb) (y2.of_block (hb.block _ y2.lt)) (y3.of_block (hb.block _ y3.lt)) (y4.trans (hb.mono y4.size)) hBP.2 (by omega) (by omega) k false
                          refine ⟨j1, j2, j3, j4, fun g2 h1 h2 => ?_⟩
                          have h3 := y5 g2 h1 h2
                          rw [Array.getElem?_eq_getElem h2] at h3
                          rw [Below.heap_setCell wd _ _ g2 (by show g2 ≠ Bd + 1; omega), hb.block g2 (lt_of_block h3), y5 g2 h1 h2]
                        have hset2 : ∀ wd, Below wy.heap.size wy wd → (wd.setCell ⟨Bd + 1, k, none⟩ (.bool false)).cell? ⟨g, t * 2 + 1, none⟩ = some (.int .u64 (due k)) := fun wd hb => (World.cell?_of_block (a := ⟨g, t * 2 + 1, none⟩) ((hset wd hb).2.2.2.2 g z1 z2)).trans d2
                        have HSET := Hid.mk (And.intro hset hset2)
                        have HOUT := Hid.mk hout'
                        have H7 := Hid.mk (And.intro k1 y7)
                        obtain ⟨v, hv⟩ : ∃ v, v = due k := ⟨_, rfl⟩
                        have HV := Hid.mk hv
                        rw [← hv] at x2 x3 k4 k5
                        have i1 : (t : Int) < (m : Int) := by omega
                        have i2 : (k : Int) < (i : Int) := by omega
                        have i3 : decide ((k : Int) < 0) = false := by simp
                        have i4 : decide ((i : Int) ≤ (k : Int)) = false := decide_eq_false (by omega)
                        have i4' : decide (i ≤ k) = false := decide_eq_false (by omega)
                        have i5 : decide ((now : Int) + (st : Int) < v) = false := decide_eq_false (by omega)
                        have i6 : decide (v < last) = false := decide_eq_false (by omega)
                        clear hset hset2 hout' y1 y2 y3 y4 y5 y6 y7 k1 k2 k3 f3 f4 d1 d2 z1 z2 hgw hcell hv
                        go_wp2_with fail
                        go_quiet (fail)
                        go_upto_region 42 with fail
                        obtain ⟨w9, hw9⟩ : ∃ w9, w9 = (wy.drewN nq).setCell ⟨Bd + 1, k, none⟩ (.bool false) := ⟨_, rfl⟩
                        have H9 := Hid.mk (HSET.out.1 (wy.drewN nq) (below_drewN (Below.refl _ _) _))
                        have x6 := HSET.out.2 (wy.drewN nq) (below_drewN (Below.refl _ _) _)
                        rw [← hw9] at H9 x6
                        rw [← HV.out] at x6
                        go_upto_region 43 with fail
                        rw [← hw9]
                        clear hw9 x1 x2 x3 x4 x5
                        go_wp2_with fail
                        go_roundw
                        case rel => exact ⟨v, t + 1, (fun j => if j = k then false else left4 j), rfl, by go_num, by omega, H9.out.1, H9.out.2.1, H9.out.2.2.1, H9.out.2.2.2.1, H9.out.2.2.2.2, by rw [HV.out]; exact HOUT.out, fun k2 h2 h3 => H7.out.2 k2 h2 (by by_cases e : k2 = k <;> simp_all)⟩
                        case measure => simp [intOf]; omega
                      · have e : t = outs.length := by have := HK.out.2.2.2; omega
                        rw [e] at y6
                        obtain ⟨hl7, hnd⟩ := y6.done HK.out.1 HK.out.2.1
                        have HX := Hid.mk (And.intro y1 (And.intro y2 (And.intro y3 (And.intro y4 hl7))))
                        have HN := Hid.mk (And.intro hnd y7)
                        have i1 : ¬ (t : Int) < (m : Int) := by omega
                        clear y1 y2 y3 y4 y5 y6 y7 hl7 hnd e HK
                        go_wp2_with fail
                        go_loopw [25] (fun kv wx => ∃ q : Nat, kv = .int .i64 q ∧ q ≤ i ∧ wx = wy) (fun kv _ => i - (intOf kv).toNat)
                        case atStart => exact ⟨0, rfl, by omega, rfl⟩
                        case round =>
                          obtain ⟨q, rfl, hq, rfl⟩ := hrel
                          rename World => wy
                          by_cases hq2 : q < i
                          · have c3 := HX.out.2.2.1.cell hq2
                            have c4 := HX.out.2.1.cell hq2
                            have i2 : (q : Int) < (i : Int) := by omega
                            cases hlq : left4 q with
                            | true =>
                              have i5 : decide (due q ≤ (now : Int) + (st : Int)) = false := decide_eq_false (by have := HN.out.1 q hq2 hlq; omega)
                              rw [hlq] at c3
                              clear hlq
                              go_wp2_with fail
                              go_roundw
                              case rel => exact ⟨q + 1, by go_num, by omega, trivial⟩
                              case measure => simp [intOf]; omega
                            | false =>
                              rw [hlq] at c3
                              clear hlq
                              go_wp2_with fail
                              go_roundw
                              case rel => exact ⟨q + 1, by go_num, by omega, trivial⟩
                              case measure => simp [intOf]; omega
                          · have i2 : ¬ (q : Int) < (i : Int) := by omega
                            go_wp2_with fail
                            go_roundw
                            case rel =>
                              refine ⟨tt, j + 1, l7, left4, by rw [htt], by go_num, by omega, by omega, by omega, ⟨HX.out.1, HX.out.2.1, HX.out.2.2.1, HX.out.2.2.2.2, HX.out.2.2.2.1⟩, fun k h1 h2 => HHI.out k h1 (HN.out.2 k h1 h2), fun h k hk => ?_⟩
                              cases hlk : left4 k with
                              | false => rfl
                              | true =>
                                have := HN.out.1 k hk hlk
                                have := HHI.out k hk (HN.out.2 k hk hlk)
                                omega
                            case measure => simp [intOf]; omega
                · have i1 : ¬ (j : Int) ≤ (n2 : Int) := by omega
                  have HNX := Hid.mk (pnext_any wz P w1.heap.size now l HAL.out.wh (fun x hx => cell_later HAL.out.bl (HTE.out.1 x hx)))
                  go_upto_region 51 with (go_at_call 25; refine HNX.out.mono ?_; rintro e w9 ⟨tx, ok, rfl, hnx, rfl⟩)
                  have hok := nxt_none HAL.out.live (HNO.out (by omega)) hnx
                  subst hok
                  go_wp2_with fail
                  go_ret
                  exact ⟨rfl, HAL.out.bl⟩
end Go.Proofs.YtgdcjccbdmcebaaDoor
