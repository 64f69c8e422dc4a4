/- What plain asks of the program: Bound and Rest. -/
import Derived.Test.YtgdcjccbdmcebaaDoorWTurn
namespace Go.Proofs.YtgdcjccbdmcebaaDoor
open Go.RowKit
set_option maxRecDepth 100000

/-- A flow that was handed in, as it lies in w: its nodes, what they wait for, and that all of it may be copied. -/
structure FlowIn (w : World) (F : FlowD) (a : Option Addr) (cap : Nat) (Aa : Nat → Option Addr) (Ac : Nat → Nat) : Prop where
  at' : NodesAt w a cap F Aa Ac
  len : F.n ≤ maxLen
  sz : F.n * 72 ≤ 140737488355328
  nil : ∀ i, i < F.n → Aa i = none → Ac i = 0
  sz2 : ∀ i, i < F.n → F.an i * 8 ≤ 140737488355328
  tab : TabIn w
  tabg : 1 < w.heap.size
theorem FlowIn.keep {w w' : World} {F : FlowD} {a : Option Addr} {cap : Nat} {Aa : Nat → Option Addr} {Ac : Nat → Nat} (h : FlowIn w F a cap Aa Ac) (hb : Below w.heap.size w w') : FlowIn w' F a cap Aa Ac :=
  ⟨h.at'.keep hb, h.len, h.sz, h.nil, h.sz2, h.tab.keep h.tabg hb, Nat.lt_of_lt_of_le h.tabg hb.size⟩

theorem CopyAt.base {B B' : Nat} {w : World} {F : FlowD} {v : Value} {k : Nat} {Na : Nat → Option Addr} {Nc : Nat → Nat} (h : CopyAt B w F v k Na Nc) (hB : B' ≤ B) : CopyAt B' w F v k Na Nc :=
  ⟨own_base h.own hB, fun i hi => own_base (h.aft i hi) hB⟩
theorem copied_any (F : FlowD) (a : Option Addr) (cap : Nat) (Aa : Nat → Option Addr) (Ac : Nat → Nat) (w : World) (h : FlowIn w F a cap Aa Ac) :
    Calls Tryd.prog 26 #[flV F.dl (.slice a F.n cap)] w fun e w' => ∃ (la : Option Addr) (lc : Nat) (Na : Nat → Option Addr) (Nc : Nat → Nat), e = .returned (flV F.dl (.slice la F.n lc)) ∧ CopyAt w.heap.size w' F (.slice la F.n lc) F.n Na Nc ∧ Below w.heap.size w w' := by
  rcases h.at' with h0 | ⟨b, o, rfl, h1, h2, h3, h4⟩
  · refine (copied_none F a cap w h0).mono ?_
    rintro e w' ⟨rfl, hb⟩
    exact ⟨none, 0, fun _ => none, fun _ => 0, by rw [h0], by rw [h0]; exact ⟨World.ownsRow_nil _ _ _ _, fun i hi => by omega⟩, hb⟩
  · refine (copied_some F b o cap Aa Ac w h3 h.sz h.nil h.sz2 h4).mono ?_
    rintro e w' ⟨lv, Na, Nc, rfl, hc, hb⟩
    obtain ⟨la, lc, rfl⟩ := own_slice hc.own
    exact ⟨la, lc, Na, Nc, rfl, hc.base (by omega), hb⟩

theorem turn_any (F : FlowD) (B : Nat) (la : Option Addr) (lc : Nat) (Na : Nat → Option Addr) (Nc : Nat → Nat) (w : World) (hB : B ≤ w.heap.size) (hn : F.n ≤ maxLen) (h : CopyAt B w F (.slice la F.n lc) F.n Na Nc) :
    Calls Tryd.prog 28 #[flV F.dl (.slice la F.n lc)] w fun e w' => e = .returned (.tuple #[]) ∧ Below B w w' := by
  by_cases h0 : F.n = 0
  · refine (turn_none F la lc w h0).mono ?_
    rintro e w' ⟨rfl, hb⟩
    exact ⟨rfl, hb.mono hB⟩
  · rcases h.own.2 with ⟨_, h2⟩ | ⟨g, cap, cur, h2, _⟩
    · exact absurd h2 h0
    · obtain ⟨h7, _, h8⟩ : la = some ⟨g, 0, none⟩ ∧ F.n = F.n ∧ lc = cap := by simpa using h2
      subst h7 h8
      exact turn_some F B g lc Na Nc w hB hn h.turn h.lt.2

theorem fbound_any (F : FlowD) (g : Int) (B : Nat) (la : Option Addr) (lc : Nat) (Na : Nat → Option Addr) (Nc : Nat → Nat) (w : World) (hn : F.n ≤ maxLen) (hT : TabIn w) (hg : 1 < w.heap.size) (hg1 : -9223372036854775808 ≤ g) (hg2 : g ≤ 9223372036854775807)
    (h : CopyAt B w F (.slice la F.n lc) F.n Na Nc) :
    Calls Tryd.prog 55 #[flV F.dl (.slice la F.n lc), .int .i64 g] w fun e w' => (∃ x : Int, e = .returned (.int .i64 x) ∧ BoundIs F g x) ∧ Below w.heap.size w w' := by
  by_cases ht : OkTop F
  · rcases h.own.2 with ⟨_, h2⟩ | ⟨g', cap, cur, h2, _⟩
    · exact absurd h2 (by have := ht.n1; omega)
    · obtain ⟨h7, _, h8⟩ : la = some ⟨g', 0, none⟩ ∧ F.n = F.n ∧ lc = cap := by simpa using h2
      subst h7 h8
      exact bound_ok F g g' 0 lc Na Nc w ht h.lt.2 hT hg hg1 hg2 h.node
  · exact bound_top F g la lc w hn ht

set_option maxHeartbeats 1000000 in
theorem fkbound_any (F : FlowD) (g : Int) (B : Nat) (la : Option Addr) (lc : Nat) (Na : Nat → Option Addr) (Nc : Nat → Nat) (w : World) (hn : F.n ≤ maxLen) (hT : TabIn w) (hg : 1 < w.heap.size) (hg1 : -9223372036854775808 ≤ g) (hg2 : g ≤ 9223372036854775807)
    (h : CopyAt B w F (.slice la F.n lc) F.n Na Nc) :
    Calls Tryd.prog 34 #[flV F.dl (.slice la F.n lc), .int .i64 g] w fun e w' => (∃ x : Int, e = .returned (.int .i64 x) ∧ BoundIs F g x) ∧ Below w.heap.size w w' := by
  have hkb : Hid (∀ o, Below w.heap.size w (w.alloc o)) := Hid.mk fun o => (Below.refl _ _).alloc (Nat.le_refl _) _
  have H := Hid.mk h
  have HT := Hid.mk hT
  clear h hT
  go_enter Tryd.func34, Tryd.ntmps34
  go_wp2_with fail
  refine (fbound_any F g B la lc Na Nc _ hn (HT.out.keep hg (hkb.out _)) (by simp; omega) hg1 hg2 (H.out.below (hkb.out _))).mono ?_
  rintro e w' ⟨⟨x, rfl, hx⟩, hb⟩
  have HX := Hid.mk hx
  have HB : Below w.heap.size w w' := (hkb.out _).trans (hb.mono (by simp))
  clear hx hb
  go_wp2_with fail
  go_ret
  exact ⟨⟨x, rfl, HX.out⟩, HB⟩

set_option maxHeartbeats 1000000 in
theorem pbound_any (F : FlowD) (g : Int) (a : Option Addr) (cap : Nat) (Aa : Nat → Option Addr) (Ac : Nat → Nat) (w : World) (hg1 : -9223372036854775808 ≤ g) (hg2 : g ≤ 9223372036854775807) (h : FlowIn w F a cap Aa Ac) :
    Calls Tryd.prog 12 #[flV F.dl (.slice a F.n cap), .int .i64 g] w fun e w' => (∃ x : Int, e = .returned (.int .i64 x) ∧ BoundIs F g x) ∧ Below w.heap.size w w' := by
  have hkb : Hid (∀ o, Below w.heap.size w (w.alloc o)) := Hid.mk fun o => (Below.refl _ _).alloc (Nat.le_refl _) _
  have H := Hid.mk h
  clear h
  go_enter Tryd.func12, Tryd.ntmps12
  go_wp2_with fail
  refine (copied_any F a cap Aa Ac _ (H.out.keep (hkb.out _))).mono ?_
  rintro e w1 ⟨la, lc, Na, Nc, rfl, hc, hb⟩
  have hb1 : Hid (Below w.heap.size w w1) := Hid.mk ((hkb.out _).trans (hb.mono (by simp)))
  have hsz1 : w.heap.size + 1 ≤ w1.heap.size := by have := hb.size; simpa using this
  have HC := Hid.mk hc
  clear hc hb
  go_wp2_with fail
  have hkb1 : Below w1.heap.size w1 (w1.alloc (.cells #[.int .i64 F.dl, .slice la F.n lc] 24)) := (Below.refl _ _).alloc (Nat.le_refl _) _
  refine (fkbound_any F g _ la lc Na Nc _ H.out.len ((H.out.tab.keep H.out.tabg hb1.out).keep (by have := H.out.tabg; omega) hkb1) (by have := H.out.tabg; simp; omega) hg1 hg2 (HC.out.below hkb1)).mono ?_
  rintro e w2 ⟨⟨x, rfl, hx⟩, hb2⟩
  have HX := Hid.mk hx
  have hb12 : Hid (Below w1.heap.size w1 w2) := Hid.mk (hkb1.trans (hb2.mono (by simp)))
  have d0 : w2.cell? ⟨w1.heap.size, 0, none⟩ = some (.int .i64 F.dl) := cell_later hb2 (by simp)
  have d1 : w2.cell? ⟨w1.heap.size, 1, none⟩ = some (.slice la F.n lc) := cell_later hb2 (by simp)
  have hsz2 : w1.heap.size ≤ w2.heap.size := hb12.out.size
  clear hx hb2 hkb1
  go_wp2_with fail
  refine (turn_any F _ la lc Na Nc _ (by simp; omega) H.out.len (HC.out.below hb12.out)).mono ?_
  rintro e w3 ⟨rfl, hb3⟩
  have HB : Below w.heap.size w w3 := (hb1.out.trans (hb12.out.mono (by omega))).trans (hb3.mono (by simp))
  clear hb3 d0 d1
  go_wp2_with fail
  go_ret
  exact ⟨⟨x, rfl, HX.out⟩, HB⟩

set_option maxHeartbeats 400000 in
theorem fkrest_any (bu cl be ba ca ji k s : Int) (af : Value) (w : World) (hb : 1 ≤ ba) (hb2 : ba ≤ 1048576) (hc : ba ≤ ca) (hc2 : ca ≤ 1048576) (hj : 0 ≤ ji) (hj2 : ji ≤ 1048576)
    (hk : -9223372036854775808 ≤ k) (hk2 : k ≤ 9223372036854775807) (hs : 0 ≤ s) (hs2 : s ≤ 18446744073709551615) :
    Calls Tryd.prog 35 #[ndV bu cl be ba ca ji af, .int .i64 k, .int .u64 s] w fun e w' => e = .returned (.int .i64 (restI ba ca ji k s)) ∧ Below w.heap.size w w' := by
  go_enter Tryd.func35, Tryd.ntmps35
  go_wp2_with fail
  refine (rest_any bu cl be ba ca ji k s af _ hb hb2 hc hc2 hj hj2 hk hk2 hs hs2).mono ?_
  rintro e w' ⟨rfl, hbb⟩
  have HB : Below w.heap.size w w' := ((Below.refl _ _).alloc (Nat.le_refl _) _).trans (hbb.mono (by simp))
  clear hbb
  go_wp2_with fail
  go_ret
  exact ⟨rfl, HB⟩
set_option maxHeartbeats 400000 in
theorem prest_any (bu cl be ba ca ji k s : Int) (af : Value) (w : World) (hb : 1 ≤ ba) (hb2 : ba ≤ 1048576) (hc : ba ≤ ca) (hc2 : ca ≤ 1048576) (hj : 0 ≤ ji) (hj2 : ji ≤ 1048576)
    (hk : -9223372036854775808 ≤ k) (hk2 : k ≤ 9223372036854775807) (hs : 0 ≤ s) (hs2 : s ≤ 18446744073709551615) :
    Calls Tryd.prog 15 #[ndV bu cl be ba ca ji af, .int .i64 k, .int .u64 s] w fun e w' => e = .returned (.int .i64 (restI ba ca ji k s)) ∧ Below w.heap.size w w' := by
  go_enter Tryd.func15, Tryd.ntmps15
  go_wp2_with fail
  refine (fkrest_any bu cl be ba ca ji k s af _ hb hb2 hc hc2 hj hj2 hk hk2 hs hs2).mono ?_
  rintro e w' ⟨rfl, hbb⟩
  have HB : Below w.heap.size w w' := ((Below.refl _ _).alloc (Nat.le_refl _) _).trans (hbb.mono (by simp))
  clear hbb
  go_wp2_with fail
  go_ret
  exact ⟨rfl, HB⟩
end Go.Proofs.YtgdcjccbdmcebaaDoor
