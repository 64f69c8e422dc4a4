/- The law Reckoned: it answers true, whatever the flow, and turns nothing that was there. -/
import Derived.Test.YtgdcjccbdmcebaaDoorWPlain
import Derived.Test.YtgdcjccbdmcebaaDoorWRefCheck
import Derived.Test.YtgdcjccbdmcebaaDoorWBound
import Derived.Test.YtgdcjccbdmcebaaDoorWPick
import Derived.Deep.RegionWith
import Derived.Deep.CutRange
namespace Go.Proofs.YtgdcjccbdmcebaaDoor
open Go.RowKit
set_option maxRecDepth 100000

theorem refcheck_any (F : FlowD) (a : Option Addr) (cap : Nat) (Aa : Nat → Option Addr) (Ac : Nat → Nat) (w : World) (h : FlowIn w F a cap Aa Ac) :
    Calls Tryd.prog 11 #[flV F.dl (.slice a F.n cap)] w fun e w' => ∃ x y : Int, e = .returned (.tuple #[.int .i64 x, .int .i64 y]) ∧ ChkIs F x y ∧ Below w.heap.size w w' := by
  by_cases ht : OkTop F
  · rcases h.at' with h0 | ⟨b, o, rfl, h1, h2, h3, h4⟩
    · exact absurd h0 (by have := ht.n1; omega)
    · exact refCheck_ok F b o cap Aa Ac w ht h3 h4
  · exact refCheck_top F a cap w h.len ht

theorem ChkIs.top {F : FlowD} {a : Int} (h : ChkIs F 0 a) : OkTop F := by
  rcases h with ⟨h, _⟩ | ⟨h, _⟩ | ⟨h, _⟩ | ⟨h, _⟩ | ⟨_, _, h, _⟩
  · cases h
  · cases h
  · cases h
  · cases h
  · exact h

/-- Of each flow something is said. -/
theorem first_of {P : Nat → Prop} {n : Nat} (h : ¬ ∀ j, j < n → P j) : ∃ i, i < n ∧ ¬ P i ∧ ∀ j, j < i → P j := by
  induction n with
  | zero => exact absurd (fun j hj => absurd hj (Nat.not_lt_zero _)) h
  | succ n ih =>
    by_cases h2 : ∀ j, j < n → P j
    · refine ⟨n, Nat.lt_succ_self _, fun hp => h fun j hj => ?_, h2⟩
      by_cases e : j = n
      · subst e; exact hp
      · exact h2 j (by omega)
    · obtain ⟨i, hi, h3, h4⟩ := ih h2
      exact ⟨i, by omega, h3, h4⟩
theorem ChkIs.ex (F : FlowD) : ∃ x y : Int, ChkIs F x y := by
  by_cases ht : OkTop F
  · by_cases h1 : ∀ j, j < F.n → OkNode F j ∧ OkEdges F j
    · by_cases h2 : ∀ j, j < F.n → Gone F j
      · exact ⟨0, -1, Or.inr (Or.inr (Or.inr (Or.inr ⟨rfl, rfl, ht, h1, h2⟩)))⟩
      · obtain ⟨i, hi, h3, h4⟩ := first_of h2
        exact ⟨4, i, Or.inr (Or.inr (Or.inr (Or.inl ⟨rfl, ht, h1, i, hi, rfl, h3, h4⟩)))⟩
    · obtain ⟨i, hi, h3, h4⟩ := first_of h1
      by_cases h5 : OkNode F i
      · exact ⟨3, i, Or.inr (Or.inr (Or.inl ⟨rfl, ht, i, hi, rfl, h4, h5, fun h => h3 ⟨h5, h⟩⟩))⟩
      · exact ⟨2, i, Or.inr (Or.inl ⟨rfl, ht, i, hi, rfl, h4, h5⟩)⟩
  · exact ⟨2, -1, Or.inl ⟨rfl, rfl, ht⟩⟩

set_option maxHeartbeats 4000000 in
theorem reckoned_bad (F : FlowD) (nd k s g : Int) (a : Option Addr) (cap : Nat) (Aa : Nat → Option Addr) (Ac : Nat → Nat) (w : World) (h : FlowIn w F a cap Aa Ac) (x y : Int) (hx : x ≠ 0) (hc : ChkIs F x y)
    (hg1 : -9223372036854775808 ≤ g) (hg2 : g ≤ 9223372036854775807) :
    Calls Tryd.prog 4 #[flV F.dl (.slice a F.n cap), .int .i64 nd, .int .i64 k, .int .u64 s, .int .i64 g] w fun e w' => e = .returned (.bool true) ∧ Below w.heap.size w w' := by
  have hkb : Hid (∀ o, Below w.heap.size w (w.alloc o)) := Hid.mk fun o => (Below.refl _ _).alloc (Nat.le_refl _) _
  have H := Hid.mk h
  have HC := Hid.mk hc
  clear h hc
  have hxb : (x == 0) = false := by simpa using hx
  go_enter Tryd.func4, Tryd.ntmps4
  go_wp2_with fail
  refine (refcheck_any F a cap Aa Ac _ (H.out.keep (hkb.out _))).mono ?_
  rintro e w1 ⟨x', y', rfl, hc', hb1⟩
  obtain ⟨rfl, rfl⟩ := HC.out.one hc'
  have d0 : w1.cell? ⟨w.heap.size, 0, none⟩ = some (.int .i64 F.dl) := cell_later hb1 (by simp)
  have d1 : w1.cell? ⟨w.heap.size, 1, none⟩ = some (.slice a F.n cap) := cell_later hb1 (by simp)
  have hb01 : Hid (Below w.heap.size w w1) := Hid.mk ((hkb.out _).trans (hb1.mono (by simp)))
  clear hc' hb1
  go_wp2_with fail
  refine (pbound_any F g a cap Aa Ac _ hg1 hg2 (H.out.keep hb01.out)).mono ?_
  rintro e w2 ⟨⟨z, rfl, hz⟩, hb2⟩
  obtain rfl : z = 0 := by
    rcases hz with ⟨hz, _⟩ | ⟨_, _, _, _, hz⟩
    · exact absurd (HC.out.one hz).1 hx
    · exact hz
  have HB : Below w.heap.size w w2 := hb01.out.trans (hb2.mono (by have := hb01.out.size; omega))
  clear hz hb2 d0 d1
  go_wp2_with fail
  go_ret
  exact ⟨rfl, HB⟩

set_option maxHeartbeats 4000000 in
theorem reckoned_good (F : FlowD) (nd k s g : Int) (b o cap : Nat) (Aa : Nat → Option Addr) (Ac : Nat → Nat) (w : World) (h : FlowIn w F (some ⟨b, o, none⟩) cap Aa Ac) (hc : ChkIs F 0 (-1)) (hb : b < w.heap.size) (hnode : ∀ i, i < F.n → NodeAt w F i b (o + i * 7) (Aa i) (Ac i))
    (hg1 : -9223372036854775808 ≤ g) (hg2 : g ≤ 9223372036854775807) (hn1 : -9223372036854775808 ≤ nd) (hn2 : nd ≤ 9223372036854775807) (hk1 : -9223372036854775808 ≤ k) (hk2 : k ≤ 9223372036854775807) (hs1 : 0 ≤ s) (hs2 : s ≤ 18446744073709551615) :
    Calls Tryd.prog 4 #[flV F.dl (.slice (some ⟨b, o, none⟩) F.n cap), .int .i64 nd, .int .i64 k, .int .u64 s, .int .i64 g] w fun e w' => e = .returned (.bool true) ∧ Below w.heap.size w w' := by
  have hkb : Hid (∀ o, Below w.heap.size w (w.alloc o)) := Hid.mk fun o => (Below.refl _ _).alloc (Nat.le_refl _) _
  have H := Hid.mk h
  have HC := Hid.mk hc
  have HN := Hid.mk hnode
  have hnn := hc.top.n1
  have hnn2 := hc.top.n2
  obtain ⟨j, hj⟩ := Int.eq_ofNat_of_zero_le (pickI_lo nd F.n (by omega))
  have hjn : j < F.n := by have := pickI_hi nd F.n (by omega); omega
  have hpick : Hid (∀ w : World, Calls Tryd.prog 14 #[.int .i64 nd, .int .i64 F.n] w fun e w' => e = .returned (.int .i64 (j : Int)) ∧ w' = w) := Hid.mk fun w => by
    have := lawpick_any nd F.n w hn1 hn2 (by omega) (by omega)
    rwa [hj] at this
  clear hj
  clear h hc hnode
  go_enter Tryd.func4, Tryd.ntmps4
  go_wp2_with fail
  refine (refcheck_any F _ cap Aa Ac _ (H.out.keep (hkb.out _))).mono ?_
  rintro e w1 ⟨x', y', rfl, hc', hb1⟩
  obtain ⟨rfl, rfl⟩ := HC.out.one hc'
  have d0 : w1.cell? ⟨w.heap.size, 0, none⟩ = some (.int .i64 F.dl) := cell_later hb1 (by simp)
  have d1 : w1.cell? ⟨w.heap.size, 1, none⟩ = some (.slice (some ⟨b, o, none⟩) F.n cap) := cell_later hb1 (by simp)
  have hb01 : Hid (Below w.heap.size w w1) := Hid.mk ((hkb.out _).trans (hb1.mono (by simp)))
  have hs01 : w.heap.size < w1.heap.size := by have := hb1.size; simp at this; omega
  clear hc' hb1
  go_wp2_with fail
  refine (pbound_any F g _ cap Aa Ac _ hg1 hg2 (H.out.keep hb01.out)).mono ?_
  rintro e w2 ⟨⟨z, rfl, hz⟩, hb2⟩
  obtain rfl : z = min F.dl (sumB F (clampI g) F.n) := by
    rcases hz with ⟨_, hz⟩ | ⟨_, _, hx, hz, _⟩
    · exact hz
    · exact absurd (HC.out.one hz).1.symm hx
  have d0' : w2.cell? ⟨w.heap.size, 0, none⟩ = some (.int .i64 F.dl) := cell_later hb2 d0
  have d1' : w2.cell? ⟨w.heap.size, 1, none⟩ = some (.slice (some ⟨b, o, none⟩) F.n cap) := cell_later hb2 d1
  have hb02 : Hid (Below w.heap.size w w2) := Hid.mk (hb01.out.trans (hb2.mono (by omega)))
  have hs02 : w.heap.size < w2.heap.size := by have := hb2.size; omega
  generalize hZ : min F.dl (sumB F (clampI g) F.n) = Z
  have HZ := Hid.mk hZ
  clear hz hb2 d0 d1 hZ
  go_upto_if 33 with fail
  go_cut [14] from 32 to 33 (fun v wx => v = .int .i64 (max g 0) ∧ wx = w2)
  case first =>
    go_wp2_with fail
    all_goals go_meet
    all_goals exact ⟨congrArg (Value.int .i64) (by omega), rfl⟩
  case rest =>
    obtain ⟨rfl, rfl⟩ := hcut
    rename World => w2
    go_upto_if 35 with fail
    go_cut [14] from 34 to 35 (fun v wx => v = .int .i64 (clampI g) ∧ wx = w2)
    case first =>
      go_wp2_with fail
      all_goals go_meet
      all_goals exact ⟨congrArg (Value.int .i64) (by unfold clampI; omega), rfl⟩
    case rest =>
      obtain ⟨rfl, rfl⟩ := hcut
      rename World => w2
      obtain ⟨cb1, cb2⟩ := clampI_bd g
      go_wp2_with fail
      refine (refBound_any F (clampI g) b o cap Aa Ac _ hnn2 (by omega) (by omega) (fun i hi => (ChkIs.good HC.out i hi).1) (fun i hi => (HN.out i hi).keep hb hb02.out) (by omega)).mono ?_
      rintro e w3 ⟨rfl, hb3⟩
      rw [HZ.out]
      have d1'' : w3.cell? ⟨w.heap.size, 1, none⟩ = some (.slice (some ⟨b, o, none⟩) F.n cap) := cell_later hb3 d1'
      have hb03 : Hid (Below w.heap.size w w3) := Hid.mk (hb02.out.trans (hb3.mono (by omega)))
      have hs03 : w.heap.size < w3.heap.size := by have := hb3.size; omega
      clear hb3 d0' d1'
      obtain ⟨n0, n1, n2, n3, n4, n5, n6, _⟩ := (HN.out j hjn).keep hb hb03.out
      have hal : ∀ ob : Obj, Below w3.heap.size w3 (w3.alloc ob) := fun ob => (Below.refl _ _).alloc (Nat.le_refl _) _
      have m0 := fun ob : Obj => cell_later (hal ob) n0
      have m1 := fun ob : Obj => cell_later (hal ob) n1
      have m2 := fun ob : Obj => cell_later (hal ob) n2
      have m3 := fun ob : Obj => cell_later (hal ob) n3
      have m4 := fun ob : Obj => cell_later (hal ob) n4
      have m5 := fun ob : Obj => cell_later (hal ob) n5
      have m6 := fun ob : Obj => cell_later (hal ob) n6
      have md := fun ob : Obj => cell_later (hal ob) d1''
      clear hal
      go_wp2_with (fail)
      go_cut [16] from 39 to 47 (fun p wx => p = .pointer (some ⟨w3.heap.size, 0, none⟩) ∧ wx = (w3.alloc (.cells #[.int .i64 (F.bu j), .int .i64 (F.cl j), .int .i64 (F.be j), .int .i64 (F.ba j), .int .i64 (F.ca j), .int .i64 (F.ji j), .slice (Aa j) (F.an j) (Ac j)] 27)).drew)
      case first =>
        --[done
        go_region_with (go_at_call 14; refine (hpick.out _).mono ?_; rintro e w' ⟨rfl, rfl⟩)
        all_goals (go_wp2_with fail; go_meet; exact ⟨rfl, rfl⟩)
        --done]
      case rest =>
        obtain ⟨rfl, rfl⟩ := hcut
        obtain ⟨w4, hw4⟩ : ∃ w4, w4 = (w3.alloc (.cells #[.int .i64 (F.bu j), .int .i64 (F.cl j), .int .i64 (F.be j), .int .i64 (F.ba j), .int .i64 (F.ca j), .int .i64 (F.ji j), .slice (Aa j) (F.an j) (Ac j)] 27)).drew := ⟨_, rfl⟩
        have hblk : w4.heap[w3.heap.size]? = some (.cells #[.int .i64 (F.bu j), .int .i64 (F.cl j), .int .i64 (F.be j), .int .i64 (F.ba j), .int .i64 (F.ca j), .int .i64 (F.ji j), .slice (Aa j) (F.an j) (Ac j)] 27 (0, 0)) := by rw [hw4]; exact heap_alloc_new w3 _
        have hbl34 : Below w3.heap.size w3 w4 := by rw [hw4]; exact ((Below.refl _ _).alloc (Nat.le_refl _) _).drew
        have hs34 : w3.heap.size < w4.heap.size := lt_of_block hblk
        obtain ⟨q1, q2, q3, q4, _, _, q5, q6, q7, q8, q9, q10⟩ := (ChkIs.good HC.out j hjn).1
        have e0 := cell_at hblk 0
        have e1 := cell_at hblk 1
        have e2 := cell_at hblk 2
        have e3 := cell_at hblk 3
        have e4 := cell_at hblk 4
        have e5 := cell_at hblk 5
        have e6 := cell_at hblk 6
        clear n0 n1 n2 n3 n4 n5 n6 m0 m1 m2 m3 m4 m5 m6 md d1''
        rw [← hw4]
        have HW4 := Hid.mk hw4
        have HBLK := Hid.mk hblk
        clear hw4 hblk
        go_wp2_with fail
        refine (prest_any _ _ _ _ _ _ k s _ _ q5 q6 q7 q8 q9 q10 hk1 hk2 hs1 hs2).mono ?_
        rintro e w5 ⟨rfl, hb5⟩
        have hblk5 : w5.heap[w3.heap.size]? = some (.cells #[.int .i64 (F.bu j), .int .i64 (F.cl j), .int .i64 (F.be j), .int .i64 (F.ba j), .int .i64 (F.ca j), .int .i64 (F.ji j), .slice (Aa j) (F.an j) (Ac j)] 27 (0, 0)) := (hb5.block _ hs34).trans HBLK.out
        have hb05 : Hid (Below w.heap.size w w5) := Hid.mk ((hb03.out.trans (hbl34.mono (by omega))).trans (hb5.mono (by omega)))
        have hs05 : w.heap.size < w5.heap.size := by have := hb5.size; omega
        clear e0 e1 e2 e3 e4 e5 e6 hbl34 hb5
        have e0 := cell_at hblk5 0
        have e1 := cell_at hblk5 1
        have e2 := cell_at hblk5 2
        have e3 := cell_at hblk5 3
        have e4 := cell_at hblk5 4
        have e5 := cell_at hblk5 5
        have e6 := cell_at hblk5 6
        obtain ⟨R, hR⟩ : ∃ R, R = restI (F.ba j) (F.ca j) (F.ji j) k s := ⟨_, rfl⟩
        rw [← hR]
        have HR := Hid.mk hR
        clear hblk5 hR
        go_wp2_with fail
        refine (refRest_any _ _ _ _ _ _ k s _ _ q5 q6 q7 q8 q9 q10 hk1 hk2 hs1 hs2).mono ?_
        rintro e w6 ⟨rfl, hb6⟩
        rw [← HR.out]
        have HB : Below w.heap.size w w6 := hb05.out.trans (hb6.mono (by omega))
        clear e0 e1 e2 e3 e4 e5 e6 hb6
        go_wp2_with fail
        go_ret
        exact ⟨rfl, HB⟩

theorem reckoned_any (F : FlowD) (nd k s g : Int) (a : Option Addr) (cap : Nat) (Aa : Nat → Option Addr) (Ac : Nat → Nat) (w : World) (h : FlowIn w F a cap Aa Ac)
    (hn1 : -9223372036854775808 ≤ nd) (hn2 : nd ≤ 9223372036854775807) (hk1 : -9223372036854775808 ≤ k) (hk2 : k ≤ 9223372036854775807) (hs1 : 0 ≤ s) (hs2 : s ≤ 18446744073709551615) (hg1 : -9223372036854775808 ≤ g) (hg2 : g ≤ 9223372036854775807) :
    Calls Tryd.prog 4 #[flV F.dl (.slice a F.n cap), .int .i64 nd, .int .i64 k, .int .u64 s, .int .i64 g] w fun e w' => e = .returned (.bool true) ∧ Below w.heap.size w w' := by
  obtain ⟨x, y, hc⟩ := ChkIs.ex F
  by_cases hx : x = 0
  · subst hx
    obtain rfl : y = -1 := by
      rcases hc with ⟨h, _⟩ | ⟨h, _⟩ | ⟨h, _⟩ | ⟨h, _⟩ | ⟨_, h, _⟩
      · cases h
      · cases h
      · cases h
      · cases h
      · exact h
    rcases h.at' with h0 | ⟨b, o, rfl, h1, h2, h3, h4⟩
    · exact absurd h0 (by have := hc.top.n1; omega)
    · exact reckoned_good F nd k s g b o cap Aa Ac w h hc h3 h4 hg1 hg2 hn1 hn2 hk1 hk2 hs1 hs2
  · exact reckoned_bad F nd k s g a cap Aa Ac w h x y hx hc hg1 hg2
end Go.Proofs.YtgdcjccbdmcebaaDoor
