/- The program's Check: what is wrong with a flow, and where: what 'ChkIs' says. -/
import Derived.Test.YtgdcjccbdmcebaaDoorWCircle2
namespace Go.Proofs.YtgdcjccbdmcebaaDoor
open Go.RowKit
set_option maxRecDepth 100000

/-- What Check hands back: nil, and nothing is wrong; or a fault, new in memory, that says what is wrong. -/
def CheckEnds (F : FlowD) (w w' : World) (e : Ending) : Prop :=
  (e = .returned .nilIface ∧ ChkIs F 0 (-1)) ∨ (∃ (x y : Int) (q : Nat), e = .returned (.iface 97 (.pointer (some ⟨q, 0, none⟩))) ∧ x ≠ 0 ∧ ChkIs F x y ∧ w.heap.size ≤ q ∧ q < w'.heap.size ∧ FaultAt w' q x y)

set_option maxHeartbeats 1000000 in
theorem check_top (F : FlowD) (a : Option Addr) (cap : Nat) (w : World) (hn : F.n ≤ maxLen) (h : ¬ OkTop F) :
    Calls Tryd.prog 65 #[flV F.dl (.slice a F.n cap)] w fun e w' => CheckEnds F w w' e ∧ Below w.heap.size w w' := by
  unfold maxLen at hn
  have hc : ChkIs F 2 (-1) := Or.inl ⟨rfl, rfl, h⟩
  have hcs : withinB F.dl 1 1048576 = false ∨ (withinB F.dl 1 1048576 = true ∧ withinB F.n 1 12 = false) := by
    apply Classical.byContradiction
    intro hno
    apply h
    unfold withinB at hno
    simp only [decide_eq_true_eq, decide_eq_false_iff_not] at hno
    constructor <;> omega
  have H := Hid.mk hc
  clear hc h
  rcases hcs with s0 | ⟨s0, s1⟩
  all_goals
    go_enter Tryd.func65, Tryd.ntmps65
    go_wp2_with (first | (go_at_call 83; refine (within_b _ _ _ _).mono ?_; rintro e w' ⟨rfl, rfl⟩) | (go_at_call 84; refine (fault_any _ _ _).mono ?_; rintro e w' ⟨q, rfl, hq1, hq2, hf, hbq⟩))
    go_ret
    exact ⟨Or.inr ⟨_, _, q, rfl, by omega, H.out, by simp at hq1; omega, hq2, hf⟩, ((Below.refl _ _).alloc (Nat.le_refl _) _).trans (hbq.mono (by simp))⟩

set_option maxHeartbeats 4000000 in
theorem check_ok (F : FlowD) (b o cap : Nat) (Aa : Nat → Option Addr) (Ac : Nat → Nat) (w : World) (ht : OkTop F) (hb : b < w.heap.size) (hT : TabIn w) (hg : 1 < w.heap.size)
    (hc : ∀ i, i < F.n → NodeAt w F i b (o + i * 7) (Aa i) (Ac i)) :
    Calls Tryd.prog 65 #[flV F.dl (.slice (some ⟨b, o, none⟩) F.n cap)] w fun e w' => CheckEnds F w w' e ∧ Below w.heap.size w w' := by
  obtain ⟨t1, t2, t3, t4⟩ := ht
  have s0 := withinB_t t1 t2
  have s1 : withinB F.n 1 12 = true := withinB_t (by omega) (by omega)
  have HC := Hid.mk hc
  have HTT := Hid.mk hT
  clear hc hT
  go_enter Tryd.func65, Tryd.ntmps65
  go_wp2_with (go_at_call 83; refine (within_b _ _ _ _).mono ?_; rintro e w' ⟨rfl, rfl⟩)
  go_loopw [22] (fun i wr => ∃ k : Nat, k ≤ F.n ∧ i = .int .i64 k ∧ (∀ j, j < k → OkNode F j ∧ OkEdges F j) ∧ Own2 w wr F (some ⟨b, o, none⟩) cap) (fun i _ => F.n - (intOf i).toNat)
  case atStart => exact ⟨0, by omega, rfl, fun j hj => by omega, Own2.start _ _ _ _ _⟩
  case round =>
    obtain ⟨k, hk, rfl, hpre, hown⟩ := hrel
    rename World => w1
    obtain ⟨c0, c1, hsz, hbl⟩ := hown
    have HP := Hid.mk hpre
    clear hpre
    by_cases h1 : k < F.n
    · obtain ⟨n0, n1, n2, n3, n4, n5, n6, ni⟩ := (HC.out k h1).keep hb hbl
      have hkb : Hid (∀ o, Below w1.heap.size w1 (w1.alloc o)) := Hid.mk fun o => (Below.refl _ _).alloc (Nat.le_refl _) _
      by_cases hok : OkNode F k
      · have s2 := okNodeB_t hok
        by_cases hed : OkEdges F k
        · have s3 := okEdgesB_t hed
          have H6 : Hid (∀ j, j < k + 1 → OkNode F j ∧ OkEdges F j) := Hid.mk fun j hj => by
            by_cases hj2 : j < k
            · exact HP.out j hj2
            · obtain rfl : j = k := by omega
              exact ⟨hok, hed⟩
          clear hok hed
          go_wp2_with fail
          refine (bounded_any F k _ _).mono ?_
          rintro e w4 ⟨rfl, hb4⟩
          have hb14 : Below w1.heap.size w1 w4 := (hkb.out _).trans (hb4.mono (by simp))
          have m6 : w4.cell? ⟨w1.heap.size, 6, none⟩ = some (.slice (Aa k) (F.an k) (Ac k)) := (hb4.cell (p := ⟨w1.heap.size, 6, none⟩) (by simp)).trans (by simp)
          have m1 : w4.cell? ⟨w.heap.size, 1, none⟩ = some (.slice (some ⟨b, o, none⟩) F.n cap) := (hb14.cell (p := ⟨w.heap.size, 1, none⟩) hsz).trans c1
          have hown4 := Hid.mk (Own2.keep ⟨c0, c1, hsz, hbl⟩ hb14)
          have ni4 := ni.keep hb14
          clear hb4 hb14 n0 n1 n2 n3 n4 n5 n6 ni c0 c1
          go_wp2_with fail
          refine (rising_any F k _ _ _ ni4 t4).mono ?_
          rintro e w' ⟨rfl, rfl⟩
          go_wp2_with fail
          go_roundw
          case rel => exact ⟨k + 1, by omega, by go_num, H6.out, hown4.out⟩
          case measure => simp [intOf]; omega
        · have s3 := okEdgesB_f hed
          have H6 : Hid (ChkIs F 3 k) := Hid.mk (Or.inr (Or.inr (Or.inl ⟨rfl, ⟨t1, t2, t3, t4⟩, k, h1, rfl, HP.out, hok, hed⟩)))
          clear hok hed
          go_wp2_with fail
          refine (bounded_any F k _ _).mono ?_
          rintro e w4 ⟨rfl, hb4⟩
          have hb14 : Below w1.heap.size w1 w4 := (hkb.out _).trans (hb4.mono (by simp))
          have m6 : w4.cell? ⟨w1.heap.size, 6, none⟩ = some (.slice (Aa k) (F.an k) (Ac k)) := (hb4.cell (p := ⟨w1.heap.size, 6, none⟩) (by simp)).trans (by simp)
          have m1 : w4.cell? ⟨w.heap.size, 1, none⟩ = some (.slice (some ⟨b, o, none⟩) F.n cap) := (hb14.cell (p := ⟨w.heap.size, 1, none⟩) hsz).trans c1
          have hown4 := Hid.mk (Own2.keep ⟨c0, c1, hsz, hbl⟩ hb14)
          have ni4 := ni.keep hb14
          clear hb4 hb14 n0 n1 n2 n3 n4 n5 n6 ni c0 c1
          go_wp2_with fail
          refine (rising_any F k _ _ _ ni4 t4).mono ?_
          rintro e w' ⟨rfl, rfl⟩
          go_wp2_with fail
          refine (fault_any _ _ _).mono ?_
          rintro e w5 ⟨q, rfl, hq1, hq2, hf, hbq⟩
          go_wp2_with fail
          go_ret
          exact ⟨Or.inr ⟨_, _, q, rfl, by omega, H6.out, by have := hown4.out.sz; omega, hq2, hf⟩, hown4.out.bl.trans (hbq.mono (by have := hown4.out.sz; omega))⟩
      · have s2 := okNodeB_f hok
        have H6 : Hid (ChkIs F 2 k) := Hid.mk (Or.inr (Or.inl ⟨rfl, ⟨t1, t2, t3, t4⟩, k, h1, rfl, HP.out, hok⟩))
        clear hok
        go_wp2_with fail
        refine (bounded_any F k _ _).mono ?_
        rintro e w4 ⟨rfl, hb4⟩
        have hb14 : Below w1.heap.size w1 w4 := (hkb.out _).trans (hb4.mono (by simp))
        have hown4 := Hid.mk (Own2.keep ⟨c0, c1, hsz, hbl⟩ hb14)
        clear hb4 hb14 n0 n1 n2 n3 n4 n5 n6 ni c0 c1
        go_wp2_with fail
        refine (fault_any _ _ _).mono ?_
        rintro e w5 ⟨q, rfl, hq1, hq2, hf, hbq⟩
        go_wp2_with fail
        go_ret
        exact ⟨Or.inr ⟨_, _, q, rfl, by omega, H6.out, by have := hown4.out.sz; omega, hq2, hf⟩, hown4.out.bl.trans (hbq.mono (by have := hown4.out.sz; omega))⟩
    · obtain rfl : k = F.n := by omega
      go_wp2_with fail
      refine (circling_any F b o cap Aa Ac _ t3 t4 (by omega) (HTT.out.keep hg hbl) (by omega) (fun j hj => (HP.out j hj).2) (fun i hi => (HC.out i hi).keep hb hbl)).mono ?_
      rintro e w4 ⟨hcase, hb4⟩
      rcases hcase with ⟨j, rfl, hj1, hj2, hj3⟩ | ⟨j, rfl, hj1⟩
      · have H6 : Hid (ChkIs F 4 j) := Hid.mk (Or.inr (Or.inr (Or.inr (Or.inl ⟨rfl, ⟨t1, t2, t3, t4⟩, HP.out, j, hj1, rfl, hj2, hj3⟩))))
        have hown4 := Hid.mk (Own2.keep ⟨c0, c1, hsz, hbl⟩ hb4)
        clear hj2 hj3 hb4 c0 c1
        go_wp2_with fail
        refine (fault_any _ _ _).mono ?_
        rintro e w5 ⟨q, rfl, hq1, hq2, hf, hbq⟩
        go_wp2_with fail
        go_ret
        exact ⟨Or.inr ⟨_, _, q, rfl, by omega, H6.out, by have := hown4.out.sz; omega, hq2, hf⟩, hown4.out.bl.trans (hbq.mono (by have := hown4.out.sz; omega))⟩
      · have H6 : Hid (ChkIs F 0 (-1)) := Hid.mk (Or.inr (Or.inr (Or.inr (Or.inr ⟨rfl, rfl, ⟨t1, t2, t3, t4⟩, HP.out, hj1⟩))))
        have hown4 := Hid.mk (Own2.keep ⟨c0, c1, hsz, hbl⟩ hb4)
        clear hj1 hb4 c0 c1
        go_wp2_with fail
        go_ret
        exact ⟨Or.inl ⟨rfl, H6.out⟩, hown4.out.bl⟩
end Go.Proofs.YtgdcjccbdmcebaaDoor
