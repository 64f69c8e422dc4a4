/- The document's Check: what is wrong with a flow, and where: what 'ChkIs' says. -/
import Derived.Test.YtgdcjccbdmcebaaDoorWMem2
import Derived.Deep.OwnRows
import Derived.Deep.QuietTactic
import Derived.BigQuiet
namespace Go.Proofs.YtgdcjccbdmcebaaDoor
open Go.RowKit
set_option maxRecDepth 100000

/-- Is n in its span? -/
def spanB (n lo : Int) : Bool := decide (lo ≤ n ∧ n ≤ 1048576)
theorem spanB_t {n lo : Int} (h : lo ≤ n) (h2 : n ≤ 1048576) : spanB n lo = true := decide_eq_true ⟨h, h2⟩
theorem spanB_f {n lo : Int} (h : n < lo ∨ 1048576 < n) : spanB n lo = false := decide_eq_false (by omega)
theorem span_b (n lo : Int) (w : World) :
    Calls Tryd.prog 33 #[.int .i64 n, .int .i64 lo] w fun e w' => e = .returned (.bool (spanB n lo)) ∧ w' = w := span_any n lo w

set_option maxHeartbeats 400000 in
theorem refCheck_top (F : FlowD) (a : Option Addr) (cap : Nat) (w : World) (hn : F.n ≤ maxLen) (h : ¬ OkTop F) :
    Calls Tryd.prog 11 #[flV F.dl (.slice a F.n cap)] w fun e w' => ∃ x y : Int, e = .returned (.tuple #[.int .i64 x, .int .i64 y]) ∧ ChkIs F x y ∧ Below w.heap.size w w' := by
  unfold maxLen at hn
  have hc : ChkIs F 2 (-1) := Or.inl ⟨rfl, rfl, h⟩
  by_cases h1 : F.dl < 1 ∨ 1048576 < F.dl
  · have s0 := spanB_f h1
    clear h1
    go_enter Tryd.func11, Tryd.ntmps11
    go_wp2_with (go_at_call 33; refine (span_b _ _ _).mono ?_; rintro e w' ⟨rfl, rfl⟩)
    go_ret2
    exact ⟨_, _, rfl, hc, (Below.refl _ _).alloc (Nat.le_refl _) _⟩
  · have s0 := spanB_t (n := F.dl) (lo := 1) (by omega) (by omega)
    by_cases h2 : F.n = 0
    · have h2' : ((F.n : Int) == 0) = true := by simp [h2]
      clear h2
      go_enter Tryd.func11, Tryd.ntmps11
      go_wp2_with (go_at_call 33; refine (span_b _ _ _).mono ?_; rintro e w' ⟨rfl, rfl⟩)
      go_ret2
      exact ⟨_, _, rfl, hc, (Below.refl _ _).alloc (Nat.le_refl _) _⟩
    · have h3 : 12 < F.n := by
        apply Nat.lt_of_not_le
        intro h3
        exact h ⟨by omega, by omega, by omega, h3⟩
      have h2' : ((F.n : Int) == 0) = false := by simp [h2]
      clear h2 h1
      go_enter Tryd.func11, Tryd.ntmps11
      go_wp2_with (go_at_call 33; refine (span_b _ _ _).mono ?_; rintro e w' ⟨rfl, rfl⟩)
      go_ret2
      exact ⟨_, _, rfl, hc, (Below.refl _ _).alloc (Nat.le_refl _) _⟩

theorem info4 : (Tryd.prog.info? 4).map (fun i => (i.zero, i.size, i.bytes)) = some (some (.bool false), 1, 1) := by kernel_rfl

set_option maxHeartbeats 16000000 in
theorem refCheck_ok (F : FlowD) (b o cap : Nat) (Aa : Nat → Option Addr) (Ac : Nat → Nat) (w : World) (ht : OkTop F) (hb : b < w.heap.size)
    (hc : ∀ i, i < F.n → NodeAt w F i b (o + i * 7) (Aa i) (Ac i)) :
    Calls Tryd.prog 11 #[flV F.dl (.slice (some ⟨b, o, none⟩) F.n cap)] w fun e w' => ∃ x y : Int, e = .returned (.tuple #[.int .i64 x, .int .i64 y]) ∧ ChkIs F x y ∧ Below w.heap.size w w' := by
  obtain ⟨t1, t2, t3, t4⟩ := ht
  have s0 := spanB_t t1 t2
  have h2' : ((F.n : Int) == 0) = false := by simp; omega
  go_enter Tryd.func11, Tryd.ntmps11
  go_wp2_with (go_at_call 33; refine (span_b _ _ _).mono ?_; rintro e w' ⟨rfl, rfl⟩)
  go_loopw [5] (fun i wr => ∃ k : Nat, k ≤ F.n ∧ i = .int .i64 k ∧ (∀ j, j < k → OkNode F j ∧ OkEdges F j) ∧ Own2 w wr F (some ⟨b, o, none⟩) cap) (fun i _ => F.n - (intOf i).toNat)
  case atStart => exact ⟨0, by omega, rfl, fun j hj => by omega, Own2.start _ _ _ _ _⟩
  case round =>
    obtain ⟨k, hk, rfl, hpre, hown⟩ := hrel
    rename World => w1
    obtain ⟨c0, c1, hsz, hbl⟩ := hown
    by_cases h1 : k < F.n
    · --[done
      obtain ⟨n0, n1, n2, n3, n4, n5, n6, ni⟩ := (hc k h1).keep hb hbl
      by_cases hok : OkNode F k
      · obtain ⟨a1, a2, b1, b2, d1, d2, e1, e2, f1, f2, g1, g2⟩ := hok
        have s1 := spanB_t b1 b2
        have s2 := spanB_t d1 d2
        have s3 := spanB_t e1 e2
        have s4 := spanB_t f1 f2
        have s5 := spanB_t g1 g2
        have HP := Hid.mk hpre
        clear hpre
        go_wp2_with (go_at_call 33; refine (span_b _ _ _).mono ?_; rintro e w' ⟨rfl, rfl⟩)
        clear n0 n1 n2 n3 n4 n5 n6 s1 s2 s3 s4 s5
        go_loopw [12] (fun kk wx => ∃ m : Nat, m ≤ F.an k ∧ kk = .int .i64 m ∧ (∀ j, j < m → OkEdge F k j) ∧ wx.cell? ⟨w1.heap.size, 6, none⟩ = some (.slice (Aa k) (F.an k) (Ac k)) ∧ w1.heap.size < wx.heap.size ∧ Below w1.heap.size w1 wx) (fun kk _ => F.an k - (intOf kk).toNat)
        case atStart => exact ⟨0, by omega, rfl, fun j hj => by omega, by simp, by simp, (Below.refl _ _).alloc (Nat.le_refl _) _⟩
        case round =>
          obtain ⟨m, hm, rfl, hpm, x6, xsz, xbl⟩ := hrel
          have x1 := (xbl.cell (p := ⟨w.heap.size, 1, none⟩) hsz).trans c1
          by_cases hlt : m < F.an k
          · obtain ⟨ab, ao, ha, hcap, hcap2, hab, hcell⟩ := ni.resolve_left (by omega)
            unfold maxLen at hcap2
            have y0 := (xbl.cell (p := ⟨ab, ao + m, none⟩) hab).trans (hcell m hlt)
            have x6' := x6
            rw [ha] at x6
            have HPM := Hid.mk hpm
            have HX := Hid.mk x6'
            have HA := Hid.mk ha
            clear hpm x6' ha
            have hbadE : ¬ OkEdge F k m → ChkIs F 3 k := fun hne => Or.inr (Or.inr (Or.inl ⟨rfl, ⟨t1, t2, t3, t4⟩, k, h1, rfl, HP.out, ⟨a1, a2, b1, b2, d1, d2, e1, e2, f1, f2, g1, g2⟩, fun h => hne (h m hlt)⟩))
            have hfin : ∀ nq, Below w.heap.size w (wr.drewN nq) := fun nq => (hbl.trans (xbl.mono (by omega))).trans (below_drewN (Below.refl _ _) nq)
            have hdr : ∀ nq, (wr.drewN nq).cell? ⟨w1.heap.size, 6, none⟩ = some (.slice (Aa k) (F.an k) (Ac k)) ∧ w1.heap.size < (wr.drewN nq).heap.size ∧ Below w1.heap.size w1 (wr.drewN nq) :=
              fun nq => ⟨HX.out, xsz, below_drewN xbl nq⟩
            have HDR := Hid.mk hdr
            have HFIN := Hid.mk hfin
            clear hdr hfin
            by_cases v1 : F.af k m < 0
            · have v1' : decide (F.af k m < 0) = true := by simpa using v1
              have hbd := hbadE (fun h => by have := h.1; omega)
              clear hbadE
              go_wp2_with fail
              go_quiet (fail)
              go_wp2_with fail
              go_ret2
              exact ⟨_, _, rfl, hbd, HFIN.out _⟩
            · have v1' : decide (F.af k m < 0) = false := by simpa using v1
              by_cases v2 : F.n ≤ F.af k m
              · have v2' : decide ((F.n : Int) ≤ F.af k m) = true := by simpa using v2
                have hbd := hbadE (fun h => by have := h.2.1; omega)
                clear hbadE
                go_wp2_with fail
                go_quiet (fail)
                go_wp2_with fail
                go_ret2
                exact ⟨_, _, rfl, hbd, HFIN.out _⟩
              · have v2' : decide ((F.n : Int) ≤ F.af k m) = false := by simpa using v2
                cases m with
                | zero =>
                  have y00 : wr.cell? ⟨ab, ao, none⟩ = some (.int .i64 (F.af k 0)) := y0
                  have hok1 : Hid (∀ j, j < 0 + 1 → OkEdge F k j) := Hid.mk fun j hj => by
                    obtain rfl : j = 0 := by omega
                    exact ⟨by omega, by omega, by omega⟩
                  clear hbadE y0
                  go_wp2_with fail
                  go_quiet (fail)
                  go_wp2_with fail
                  go_roundw
                  case rel => exact ⟨1, by omega, by go_num, hok1.out, HDR.out _⟩
                  case measure => simp [intOf]; omega
                | succ p =>
                  have y1 := (xbl.cell (p := ⟨ab, ao + p, none⟩) hab).trans (hcell p (by omega))
                  have e1 : decide ((0 : Int) < ((p + 1 : Nat) : Int)) = true := by rw [decide_eq_true_eq]; omega
                  by_cases v3 : F.af k (p + 1) ≤ F.af k p
                  · have v3' : decide (F.af k (p + 1) ≤ F.af k p) = true := by simpa using v3
                    have hbd := hbadE (fun h => by have := h.2.2 (by omega); simp at this; omega)
                    clear hbadE
                    go_wp2_with fail
                    go_quiet (fail)
                    go_wp2_with fail
                    go_ret2
                    exact ⟨_, _, rfl, hbd, HFIN.out _⟩
                  · have v3' : decide (F.af k (p + 1) ≤ F.af k p) = false := by simpa using v3
                    have hok1 : Hid (∀ j, j < p + 1 + 1 → OkEdge F k j) := Hid.mk fun j hj => by
                      by_cases hj2 : j < p + 1
                      · exact HPM.out j hj2
                      · obtain rfl : j = p + 1 := by omega
                        exact ⟨by omega, by omega, fun _ => by simp; omega⟩
                    clear hbadE
                    go_wp2_with fail
                    go_quiet (fail)
                    go_wp2_with fail
                    go_roundw
                    case rel => exact ⟨p + 1 + 1, by omega, by go_num, hok1.out, HDR.out _⟩
                    case measure => simp [intOf]; omega
          · obtain rfl : m = F.an k := by omega
            have hk1 : Hid (∀ j, j < k + 1 → OkNode F j ∧ OkEdges F j) := Hid.mk fun j hj => by
              by_cases hj2 : j < k
              · exact HP.out j hj2
              · obtain rfl : j = k := by omega
                exact ⟨⟨a1, a2, b1, b2, d1, d2, e1, e2, f1, f2, g1, g2⟩, hpm⟩
            have hown : Hid (Own2 w wr F (some ⟨b, o, none⟩) cap) := Hid.mk (Own2.keep ⟨c0, c1, hsz, hbl⟩ xbl)
            clear hpm
            go_wp2_with fail
            go_roundw
            case rel => exact ⟨k + 1, by omega, by go_num, hk1.out, hown.out⟩
            case measure => simp [intOf]; omega
      · have hbad : ChkIs F 2 k := Or.inr (Or.inl ⟨rfl, ⟨t1, t2, t3, t4⟩, k, h1, rfl, hpre, hok⟩)
        have hcs : F.bu k < 1 ∨ 5 < F.bu k ∨ (1 ≤ F.bu k ∧ F.bu k ≤ 5 ∧ spanB (F.cl k) 1 = false) ∨ (1 ≤ F.bu k ∧ F.bu k ≤ 5 ∧ spanB (F.cl k) 1 = true ∧ spanB (F.be k) 0 = false)
          ∨ (1 ≤ F.bu k ∧ F.bu k ≤ 5 ∧ spanB (F.cl k) 1 = true ∧ spanB (F.be k) 0 = true ∧ spanB (F.ba k) 1 = false)
          ∨ (1 ≤ F.bu k ∧ F.bu k ≤ 5 ∧ spanB (F.cl k) 1 = true ∧ spanB (F.be k) 0 = true ∧ spanB (F.ba k) 1 = true ∧ spanB (F.ca k) (F.ba k) = false)
          ∨ (1 ≤ F.bu k ∧ F.bu k ≤ 5 ∧ spanB (F.cl k) 1 = true ∧ spanB (F.be k) 0 = true ∧ spanB (F.ba k) 1 = true ∧ spanB (F.ca k) (F.ba k) = true ∧ spanB (F.ji k) 0 = false) := by
          apply Classical.byContradiction
          intro hno
          apply hok
          unfold spanB at hno
          simp only [decide_eq_true_eq, decide_eq_false_iff_not] at hno
          constructor <;> omega
        clear hok
        have HP := Hid.mk hpre
        clear hpre
        rcases hcs with q | q | ⟨q1, q2, q3⟩ | ⟨q1, q2, q3, q4⟩ | ⟨q1, q2, q3, q4, q5⟩ | ⟨q1, q2, q3, q4, q5, q6⟩ | ⟨q1, q2, q3, q4, q5, q6, q7⟩
        all_goals
          go_wp2_with (go_at_call 33; refine (span_b _ _ _).mono ?_; rintro e w' ⟨rfl, rfl⟩)
          go_ret2
          exact ⟨_, _, rfl, hbad, hbl.alloc (by omega) _⟩
      --done]
    · obtain rfl : k = F.n := by omega
      have hmk := run_make_row' (P := Tryd.prog) 55 4 (.bool false) 1 Tryd.underlying55 info4 rfl .i64 .i64 F.n (by omega) (by omega)
      have HP := Hid.mk hpre
      clear hpre
      go_wp2_with fail
      go_loopw [14] (fun rv wx => ∃ (r : Nat) (S : Nat → Bool), r ≤ F.n ∧ rv = .int .i64 r ∧ wx.rowIs w1.heap.size 4 F.n (fun j => .bool (S j)) ∧ Sound F S ∧ (Closed F S ∨ r ≤ cnt S F.n) ∧ Own2 w wx F (some ⟨b, o, none⟩) cap) (fun rv _ => F.n - (intOf rv).toNat)
      case atStart => exact ⟨0, fun _ => false, by omega, rfl, World.rowIs_made _ _ _ _, (fun j _ h => by cases h), Or.inr (Nat.zero_le _), Own2.keep ⟨c0, c1, hsz, hbl⟩ ((Below.refl _ _).alloc (Nat.le_refl _) _)⟩
      case round =>
        obtain ⟨r, S, hr, rfl, hrow, hsound, hclo, hown⟩ := hrel
        rename World => w2
        obtain ⟨d0, d1, hsz2, hbl2⟩ := hown
        by_cases h3 : r < F.n
        · go_wp2_with fail
          go_loopw [15] (fun iv wx => ∃ (i : Nat) (S' : Nat → Bool), i ≤ F.n ∧ iv = .int .i64 i ∧ wx.rowIs w1.heap.size 4 F.n (fun j => .bool (S' j)) ∧ Pass F S S' i ∧ Own2 w wx F (some ⟨b, o, none⟩) cap) (fun iv _ => F.n - (intOf iv).toNat)
          case atStart => exact ⟨0, S, by omega, rfl, hrow, Pass.start hsound, d0, d1, hsz2, hbl2⟩
          case round =>
            obtain ⟨i, S', hi, rfl, hrow', hpass, hown'⟩ := hrel
            rename World => w3
            obtain ⟨x0, x1, hsz3, hbl3⟩ := hown'
            by_cases h4 : i < F.n
            · obtain ⟨n0, n1, n2, n3, n4, n5, n6, ni⟩ := (hc i h4).keep hb hbl3
              have hed := (HP.out i h4).2
              have HED := Hid.mk hed
              clear hed n0 n1 n2 n3 n4 n5
              go_wp2_with fail
              go_loop [16, 17] (fun tv mv => ∃ (m : Nat) (t : Bool), m ≤ F.an i ∧ mv = .int .i64 m ∧ tv = .bool t ∧ (t = true ↔ ∀ k, k < m → S' (F.af i k).toNat = true)) (fun _ mv => F.an i - (intOf mv).toNat)
              case atStart => exact ⟨0, true, by omega, rfl, rfl, fun _ k hk => by omega, fun _ => rfl⟩
              case round =>
                obtain ⟨m, t, hm, rfl, rfl, htt⟩ := hrel
                have HT := Hid.mk htt
                clear htt
                by_cases h5 : m < F.an i
                · obtain ⟨ab, ao, ha, hcap, hcap2, hab, hcell⟩ := ni.resolve_left (by omega)
                  unfold maxLen at hcap2
                  have y0 := hcell m h5
                  have y1 := HED.out m h5
                  obtain ⟨y2, y3, _⟩ := y1
                  rw [ha] at n6
                  have y4 := hrow'.cell (i := (F.af i m).toNat) (by omega)
                  have HA := Hid.mk ha
                  clear ha
                  cases t with
                  | false =>
                    have H6 : Hid (false = true ↔ ∀ k, k < m + 1 → S' (F.af i k).toNat = true) := Hid.mk ⟨(fun h => by cases h), fun h => HT.out.2 fun k hk => h k (by omega)⟩
                    go_wp2_with fail
                    go_round
                    case rel => exact ⟨m + 1, false, by omega, by go_num, rfl, H6.out⟩
                    case measure => simp [intOf]; omega
                  | true =>
                    have H6 : Hid (S' (F.af i m).toNat = true ↔ ∀ k, k < m + 1 → S' (F.af i k).toNat = true) := Hid.mk ⟨fun h k hk => by
                      by_cases hk2 : k < m
                      · exact HT.out.1 rfl k hk2
                      · obtain rfl : k = m := by omega
                        exact h, fun h => h m (by omega)⟩
                    go_wp2_with fail
                    go_round
                    case rel => exact ⟨m + 1, _, by omega, by go_num, rfl, H6.out⟩
                    case measure => simp [intOf]; omega
                · obtain rfl : m = F.an i := by omega
                  have hps := Hid.mk (Pass.step (fun j hj => (HP.out j hj).2) hpass h4 HT.out)
                  have c2 := hrow'.cell h4
                  have f2 := hrow'.frozen i
                  have hgb : w.heap.size < w1.heap.size := hsz
                  have hset : Hid (∀ v : Bool, v = (S' i || t) → (w3.setCell ⟨w1.heap.size, i, none⟩ (.bool v)).rowIs w1.heap.size 4 F.n (fun j => .bool ((fun j => if j = i then (S' i || t) else S' j) j))) := Hid.mk fun v hv =>
                    (hrow'.set i (.bool v)).congr fun j hj => by
                      by_cases e : j = i
                      · subst e; simp [hv]
                      · simp [e]
                  have hkeep : Hid (∀ v : Bool, Own2 w (w3.setCell ⟨w1.heap.size, i, none⟩ (.bool v)) F (some ⟨b, o, none⟩) cap) := Hid.mk fun v => by
                    refine ⟨?_, ?_, ?_, ?_⟩
                    · exact (World.cell?_of_block (w := w3) (Below.heap_setCell w3 ⟨w1.heap.size, i, none⟩ (.bool v) w.heap.size (by simp; omega))).trans x0
                    · exact (World.cell?_of_block (w := w3) (Below.heap_setCell w3 ⟨w1.heap.size, i, none⟩ (.bool v) w.heap.size (by simp; omega))).trans x1
                    · simpa [World.setCell] using hsz3
                    · exact hbl3.setCell (by simp; omega) _
                  cases hs : S' i <;> cases t
                  all_goals
                    rw [hs] at c2
                    have HS := Hid.mk hs
                    clear hs
                    go_wp2_with fail
                    go_roundw
                    case rel => exact ⟨i + 1, _, by omega, by go_num, hset.out _ (by rw [HS.out]; rfl), hps.out, hkeep.out _⟩
                    case measure => simp [intOf]; omega
            · obtain rfl : i = F.n := by omega
              have hd := Hid.mk (Pass.done (fun j hj => (HP.out j hj).2) hpass hclo)
              have hs := Hid.mk hpass.sound
              go_wp2_with fail
              go_roundw
              case rel => exact ⟨r + 1, S', by omega, by go_num, hrow', hs.out, hd.out, x0, x1, hsz3, hbl3⟩
              case measure => simp [intOf]; omega
        · obtain rfl : r = F.n := by omega
          have hgi := Hid.mk (gone_iff (fun j hj => (HP.out j hj).2) hsound (closed_of hclo))
          clear hsound hclo
          go_wp2_with fail
          go_loop [18] (fun iv => ∃ i : Nat, i ≤ F.n ∧ iv = .int .i64 i ∧ (∀ j, j < i → S j = true)) (fun iv => F.n - (intOf iv).toNat)
          case atStart => exact ⟨0, by omega, rfl, fun j hj => by omega⟩
          case round =>
            obtain ⟨i, hi, rfl, hall⟩ := hrel
            have HALL := Hid.mk hall
            clear hall
            by_cases h4 : i < F.n
            · have c2 := hrow.cell h4
              cases hs : S i
              · have hbad : Hid (ChkIs F 4 i) := Hid.mk (Or.inr (Or.inr (Or.inr (Or.inl ⟨rfl, ⟨t1, t2, t3, t4⟩, HP.out, i, h4, rfl, (fun hg => by rw [(hgi.out i h4).1 hg] at hs; cases hs), fun j hj => (hgi.out j (by omega)).2 (HALL.out j hj)⟩))))
                rw [hs] at c2
                clear hs
                go_wp2_with fail
                go_ret2
                exact ⟨_, _, rfl, hbad.out, hbl2⟩
              · have H7 : Hid (∀ j, j < i + 1 → S j = true) := Hid.mk fun j hj => by
                  by_cases hj2 : j < i
                  · exact HALL.out j hj2
                  · obtain rfl : j = i := by omega
                    exact hs
                rw [hs] at c2
                clear hs
                go_wp2_with fail
                go_round
                case rel => exact ⟨i + 1, by omega, by go_num, H7.out⟩
                case measure => simp [intOf]; omega
            · have hgood : Hid (ChkIs F 0 (-1)) := Hid.mk (Or.inr (Or.inr (Or.inr (Or.inr ⟨rfl, rfl, ⟨t1, t2, t3, t4⟩, HP.out, fun j hj => (hgi.out j hj).2 (HALL.out j (by omega))⟩))))
              go_wp2_with fail
              go_ret2
              exact ⟨_, _, rfl, hgood.out, hbl2⟩
end Go.Proofs.YtgdcjccbdmcebaaDoor
