/- The program's Bound, and what plain hands to it. -/
import Derived.Test.YtgdcjccbdmcebaaDoorWCheck
import Derived.Test.YtgdcjccbdmcebaaDoorMSum
namespace Go.Proofs.YtgdcjccbdmcebaaDoor
open Go.RowKit
set_option maxRecDepth 100000

/-- gap, 0 to 2^20: what is less or more counts as these. -/
def clampI (g : Int) : Int := min (max g 0) 1048576

theorem clampI_bd (g : Int) : 0 ≤ clampI g ∧ clampI g ≤ 1048576 := by unfold clampI; omega
theorem ChkIs.good {F : FlowD} {a : Int} (h : ChkIs F 0 a) : ∀ j, j < F.n → OkNode F j ∧ OkEdges F j := by
  rcases h with ⟨h, _⟩ | ⟨h, _⟩ | ⟨h, _⟩ | ⟨h, _⟩ | ⟨_, _, _, h, _⟩
  · cases h
  · cases h
  · cases h
  · cases h
  · exact h

/-- What Bound gives: 0, if the flow is none; else the deadline or the sum, whatever is less. -/
def BoundIs (F : FlowD) (g x : Int) : Prop := (ChkIs F 0 (-1) ∧ x = min F.dl (sumB F (clampI g) F.n)) ∨ (∃ e a : Int, e ≠ 0 ∧ ChkIs F e a ∧ x = 0)

set_option maxHeartbeats 1000000 in
theorem bound_top (F : FlowD) (g : Int) (a : Option Addr) (cap : Nat) (w : World) (hn : F.n ≤ maxLen) (h : ¬ OkTop F) :
    Calls Tryd.prog 55 #[flV F.dl (.slice a F.n cap), .int .i64 g] w fun e w' => (∃ x : Int, e = .returned (.int .i64 x) ∧ BoundIs F g x) ∧ Below w.heap.size w w' := by
  go_enter Tryd.func55, Tryd.ntmps55
  go_wp2_with fail
  refine (check_top F a cap _ hn h).mono ?_
  rintro e w4 ⟨he, hb4⟩
  rcases he with ⟨rfl, h1⟩ | ⟨x, y, q, rfl, h1, h2, h3, h4, h5⟩
  · exact absurd (h1.one (Or.inl ⟨rfl, rfl, h⟩)).1 (by decide)
  · have H := Hid.mk h2
    have HB : Below w.heap.size w w4 := ((Below.refl _ _).alloc (Nat.le_refl _) _).trans (hb4.mono (by simp))
    clear h2 h3 h4 h5 hb4
    go_wp2_with fail
    go_ret
    exact ⟨⟨0, rfl, Or.inr ⟨x, y, h1, H.out, rfl⟩⟩, HB⟩

set_option maxHeartbeats 2000000 in
theorem bound_ok (F : FlowD) (g : Int) (b o cap : Nat) (Aa : Nat → Option Addr) (Ac : Nat → Nat) (w : World) (ht : OkTop F) (hb : b < w.heap.size) (hT : TabIn w) (hg : 1 < w.heap.size)
    (hg1 : -9223372036854775808 ≤ g) (hg2 : g ≤ 9223372036854775807) (hc : ∀ i, i < F.n → NodeAt w F i b (o + i * 7) (Aa i) (Ac i)) :
    Calls Tryd.prog 55 #[flV F.dl (.slice (some ⟨b, o, none⟩) F.n cap), .int .i64 g] w fun e w' => (∃ x : Int, e = .returned (.int .i64 x) ∧ BoundIs F g x) ∧ Below w.heap.size w w' := by
  have hn := ht.n2
  have HC := Hid.mk hc
  have HTT := Hid.mk hT
  clear hc hT
  go_enter Tryd.func55, Tryd.ntmps55
  go_wp2_with fail
  refine (check_ok F b o cap Aa Ac _ ht (by simp; omega) (HTT.out.keep hg ((Below.refl _ _).alloc (Nat.le_refl _) _)) (by simp; omega) (fun i hi => (HC.out i hi).keep hb ((Below.refl _ _).alloc (Nat.le_refl _) _))).mono ?_
  rintro e w4 ⟨he, hb4⟩
  rcases he with ⟨rfl, h1⟩ | ⟨x, y, q, rfl, h1, h2, h3, h4, h5⟩
  · have H := Hid.mk h1
    have hown4 := Own2.keep (Own2.start w F (some ⟨b, o, none⟩) cap _) hb4
    obtain ⟨c0, c1, hsz, hbl⟩ := hown4
    clear hb4 h1
    go_wp2_with fail
    · have HG : Hid (clampI g = 1048576) := Hid.mk (by unfold clampI; omega)
      have hgb := clampI_bd g
      rw [HG.out] at hgb
      obtain ⟨gb1, gb2⟩ := hgb
      have hok : ∀ j, j < F.n → OkNode F j := fun j hj => (ChkIs.good H.out j hj).1
      go_loopw [5, 17] (fun s i wr => ∃ k : Nat, k ≤ F.n ∧ i = .int .i64 k ∧ s = .int .i64 (sumB F (clampI g) k) ∧ Own2 w wr F (some ⟨b, o, none⟩) cap) (fun _ i _ => F.n - (intOf i).toNat)
      case atStart => exact ⟨0, by omega, rfl, rfl, c0, c1, hsz, hbl⟩
      case round =>
        obtain ⟨k, hk, rfl, rfl, hown⟩ := hrel
        rename World => w5
        clear c0 c1 hsz hbl
        obtain ⟨c0, c1, hsz, hbl⟩ := hown
        have hs := sumB_bd F (clampI g) (clampI_bd g).1 (clampI_bd g).2 k fun i hi => hok i (by omega)
        obtain ⟨s1, s2⟩ := hs
        by_cases h1 : k < F.n
        · obtain ⟨n0, n1, n2, n3, n4, n5, n6, ni⟩ := (HC.out k h1).keep hb hbl
          obtain ⟨a1, a2, b1, b2, _, _, d1, d2, e1, e2, f1, f2⟩ := hok k h1
          obtain ⟨p1, p2⟩ := prod_bd (F.bu k) (F.cl k + F.ca k + F.ji k + 1048576) a1 a2 (by omega) (by omega)
          have hown5 : Hid (∀ o', Own2 w (w5.alloc o') F (some ⟨b, o, none⟩) cap) := Hid.mk fun o' => Own2.keep ⟨c0, c1, hsz, hbl⟩ ((Below.refl _ _).alloc (Nat.le_refl _) _)
          have HK := Hid.mk hok
          clear hok
          go_wp2_with fail
          go_roundw
          case rel => exact ⟨k + 1, by omega, by go_num, congrArg (Value.int .i64) (by simp [sumB, HG.out]), hown5.out _⟩
          case measure => simp [intOf]; omega
        · obtain rfl : k = F.n := by omega
          have HK := Hid.mk hok
          clear hok
          go_wp2_with fail
          all_goals go_ret
          all_goals exact ⟨⟨_, rfl, Or.inl ⟨H.out, by omega⟩⟩, hbl⟩
    · have HG : Hid (clampI g = 0) := Hid.mk (by unfold clampI; omega)
      have hgb := clampI_bd g
      rw [HG.out] at hgb
      obtain ⟨gb1, gb2⟩ := hgb
      have hok : ∀ j, j < F.n → OkNode F j := fun j hj => (ChkIs.good H.out j hj).1
      go_loopw [5, 17] (fun s i wr => ∃ k : Nat, k ≤ F.n ∧ i = .int .i64 k ∧ s = .int .i64 (sumB F (clampI g) k) ∧ Own2 w wr F (some ⟨b, o, none⟩) cap) (fun _ i _ => F.n - (intOf i).toNat)
      case atStart => exact ⟨0, by omega, rfl, rfl, c0, c1, hsz, hbl⟩
      case round =>
        obtain ⟨k, hk, rfl, rfl, hown⟩ := hrel
        rename World => w5
        clear c0 c1 hsz hbl
        obtain ⟨c0, c1, hsz, hbl⟩ := hown
        have hs := sumB_bd F (clampI g) (clampI_bd g).1 (clampI_bd g).2 k fun i hi => hok i (by omega)
        obtain ⟨s1, s2⟩ := hs
        by_cases h1 : k < F.n
        · obtain ⟨n0, n1, n2, n3, n4, n5, n6, ni⟩ := (HC.out k h1).keep hb hbl
          obtain ⟨a1, a2, b1, b2, _, _, d1, d2, e1, e2, f1, f2⟩ := hok k h1
          obtain ⟨p1, p2⟩ := prod_bd (F.bu k) (F.cl k + F.ca k + F.ji k) a1 a2 (by omega) (by omega)
          have hown5 : Hid (∀ o', Own2 w (w5.alloc o') F (some ⟨b, o, none⟩) cap) := Hid.mk fun o' => Own2.keep ⟨c0, c1, hsz, hbl⟩ ((Below.refl _ _).alloc (Nat.le_refl _) _)
          have HK := Hid.mk hok
          clear hok
          go_wp2_with fail
          go_roundw
          case rel => exact ⟨k + 1, by omega, by go_num, congrArg (Value.int .i64) (by simp [sumB, HG.out]), hown5.out _⟩
          case measure => simp [intOf]; omega
        · obtain rfl : k = F.n := by omega
          have HK := Hid.mk hok
          clear hok
          go_wp2_with fail
          all_goals go_ret
          all_goals exact ⟨⟨_, rfl, Or.inl ⟨H.out, by omega⟩⟩, hbl⟩
    · have HG : Hid (clampI g = g) := Hid.mk (by unfold clampI; omega)
      have hgb := clampI_bd g
      rw [HG.out] at hgb
      obtain ⟨gb1, gb2⟩ := hgb
      have hok : ∀ j, j < F.n → OkNode F j := fun j hj => (ChkIs.good H.out j hj).1
      go_loopw [5, 17] (fun s i wr => ∃ k : Nat, k ≤ F.n ∧ i = .int .i64 k ∧ s = .int .i64 (sumB F (clampI g) k) ∧ Own2 w wr F (some ⟨b, o, none⟩) cap) (fun _ i _ => F.n - (intOf i).toNat)
      case atStart => exact ⟨0, by omega, rfl, rfl, c0, c1, hsz, hbl⟩
      case round =>
        obtain ⟨k, hk, rfl, rfl, hown⟩ := hrel
        rename World => w5
        clear c0 c1 hsz hbl
        obtain ⟨c0, c1, hsz, hbl⟩ := hown
        have hs := sumB_bd F (clampI g) (clampI_bd g).1 (clampI_bd g).2 k fun i hi => hok i (by omega)
        obtain ⟨s1, s2⟩ := hs
        by_cases h1 : k < F.n
        · obtain ⟨n0, n1, n2, n3, n4, n5, n6, ni⟩ := (HC.out k h1).keep hb hbl
          obtain ⟨a1, a2, b1, b2, _, _, d1, d2, e1, e2, f1, f2⟩ := hok k h1
          obtain ⟨p1, p2⟩ := prod_bd (F.bu k) (F.cl k + F.ca k + F.ji k + g) a1 a2 (by omega) (by omega)
          have hown5 : Hid (∀ o', Own2 w (w5.alloc o') F (some ⟨b, o, none⟩) cap) := Hid.mk fun o' => Own2.keep ⟨c0, c1, hsz, hbl⟩ ((Below.refl _ _).alloc (Nat.le_refl _) _)
          have HK := Hid.mk hok
          clear hok
          go_wp2_with fail
          go_roundw
          case rel => exact ⟨k + 1, by omega, by go_num, congrArg (Value.int .i64) (by simp [sumB, HG.out]), hown5.out _⟩
          case measure => simp [intOf]; omega
        · obtain rfl : k = F.n := by omega
          have HK := Hid.mk hok
          clear hok
          go_wp2_with fail
          all_goals go_ret
          all_goals exact ⟨⟨_, rfl, Or.inl ⟨H.out, by omega⟩⟩, hbl⟩
  · have H := Hid.mk h2
    have HB : Below w.heap.size w w4 := ((Below.refl _ _).alloc (Nat.le_refl _) _).trans (hb4.mono (by simp))
    clear h2 h3 h4 h5 hb4
    go_wp2_with fail
    go_ret
    exact ⟨⟨0, rfl, Or.inr ⟨x, y, h1, H.out, rfl⟩⟩, HB⟩
end Go.Proofs.YtgdcjccbdmcebaaDoor
