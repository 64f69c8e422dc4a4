/- The copy of a flow that plain makes ahead of a call. -/
import Derived.Test.YtgdcjccbdmcebaaDoorWCopyM
import Derived.Test.YtgdcjccbdmcebaaDoorWBound2
namespace Go.Proofs.YtgdcjccbdmcebaaDoor
open Go.RowKit
set_option maxRecDepth 100000

theorem info3 : (Tryd.prog.info? 3).map (fun i => (i.zero, i.size, i.bytes)) = some (some (.int .i64 0), 1, 8) := by kernel_rfl
theorem info27 : (Tryd.prog.info? 27).map (fun i => (i.zero, i.size, i.bytes)) = some (some (.agg #[.int .i64 0, .int .i64 0, .int .i64 0, .int .i64 0, .int .i64 0, .int .i64 0, .slice none 0 0]), 7, 72) := by kernel_rfl

theorem news7 (W : World) (N : Nat) (l : List Value) (t : TypeId) (hN : N = W.heap.size) (j : Nat) (u : Value) (h : l[j]? = some u) : (W.alloc (.cells l.toArray t)).cell? ((⟨N, 0, none⟩ : Addr).add j) = some u := by
  subst hN
  have := cell_at (heap_alloc_new W (.cells l.toArray t)) (0 + j)
  rw [addr_add, this, ← h, Nat.zero_add]
  simp
theorem ones7 (F : FlowD) (k : Nat) (a : Option Addr) (c : Nat) : ∀ u ∈ nodeL F k a c, u.oneCell' = true := by
  intro u hu
  simp only [nodeL, List.mem_cons, List.not_mem_nil, or_false] at hu
  rcases hu with rfl | rfl | rfl | rfl | rfl | rfl | rfl <;> rfl

set_option maxHeartbeats 1000000 in
theorem copied_none (F : FlowD) (a : Option Addr) (cap : Nat) (w : World) (hn : F.n = 0) :
    Calls Tryd.prog 26 #[flV F.dl (.slice a F.n cap)] w fun e w' => e = .returned (flV F.dl (.slice none 0 0)) ∧ Below w.heap.size w w' := by
  rw [hn]
  clear hn
  go_enter Tryd.func26, Tryd.ntmps26
  go_wp2_with fail
  go_loop [3, 9] (fun l k => l = .slice none 0 0 ∧ k = .int .i64 0) (fun _ _ => 0)
  case atStart => exact ⟨rfl, rfl⟩
  case round =>
    obtain ⟨rfl, rfl⟩ := hrel
    go_wp2_with fail
    exact bodyPost_ret (v := .agg #[.int .i64 F.dl, .slice none 0 0]) (by simp [results, Tryd.results26, go_sem]) rfl ⟨rfl, ((Below.refl _ _).alloc (Nat.le_refl _) _).alloc (by simp) _⟩

set_option maxHeartbeats 4000000 in
theorem copied_some (F : FlowD) (b o cap : Nat) (Aa : Nat → Option Addr) (Ac : Nat → Nat) (w : World) (hb : b < w.heap.size) (hsz : F.n * 72 ≤ 140737488355328)
    (hnil : ∀ i, i < F.n → Aa i = none → Ac i = 0) (hsz2 : ∀ i, i < F.n → F.an i * 8 ≤ 140737488355328) (hc : ∀ i, i < F.n → NodeAt w F i b (o + i * 7) (Aa i) (Ac i)) :
    Calls Tryd.prog 26 #[flV F.dl (.slice (some ⟨b, o, none⟩) F.n cap)] w fun e w' => ∃ (lv : Value) (Na : Nat → Option Addr) (Nc : Nat → Nat), e = .returned (flV F.dl lv) ∧ CopyAt (w.heap.size + 2) w' F lv F.n Na Nc ∧ Below w.heap.size w w' := by
  obtain ⟨i3, hi3, hz30, hz31, hz32⟩ := info_parts info3
  obtain ⟨i27, hi27, hz270, hz271, hz272⟩ := info_parts info27
  have HC := Hid.mk hc
  have HN := Hid.mk hnil
  have HS2 := Hid.mk hsz2
  have HI3 := Hid.mk (And.intro hi3 (And.intro hz30 (And.intro hz31 hz32)))
  have HI27 := Hid.mk (And.intro hi27 (And.intro hz270 (And.intro hz271 hz272)))
  clear hc hnil hsz2 hi3 hz30 hz31 hz32 hi27 hz270 hz271 hz272
  go_enter Tryd.func26, Tryd.ntmps26
  go_wp2_with fail
  go_loopw [3, 9] (fun lv iv wx => ∃ (k : Nat) (la : Option Addr) (lc : Nat) (Na : Nat → Option Addr) (Nc : Nat → Nat), k ≤ F.n ∧ iv = .int .i64 k ∧ lv = .slice la k lc ∧ CopyAt (w.heap.size + 2) wx F (.slice la k lc) k Na Nc ∧ Own4 w wx F (some ⟨b, o, none⟩) cap) (fun _ iv _ => F.n - (intOf iv).toNat)
  case atStart => exact ⟨0, none, 0, fun _ => none, fun _ => 0, by omega, rfl, rfl, ⟨World.ownsRow_nil _ _ _ _, fun i hi => by omega⟩, Own4.start _ _ _ _⟩
  case round =>
    obtain ⟨k, la, lc, Na, Nc, hk, rfl, rfl, hcopy, hown⟩ := hrel
    rename World => w1
    have HCOPY := Hid.mk hcopy
    have HOWN := Hid.mk hown
    have hszz := hown.sz
    by_cases h1 : k < F.n
    · obtain ⟨n0, n1, n2, n3, n4, n5, n6, ni⟩ := (HC.out k h1).keep hb hown.bl
      have hs2 := HS2.out k h1
      have hmx : F.an k ≤ 9223372036854775807 := by omega
      clear hcopy hown
      cases ha : Aa k with
      | none =>
        have h0 : F.an k = 0 := by
          rcases ni with h0 | ⟨ab, ao, hA, _⟩
          · exact h0
          · rw [ha] at hA; cases hA
        have hc0 := HN.out k h1 ha
        rw [ha, h0, hc0] at n6
        have hO1 : Hid (∀ o1 o2, ((w1.alloc o1).alloc o2).ownsRow (w.heap.size + 2) 27 7 (.slice la k lc) k (nodesL F Na Nc k)) := Hid.mk fun o1 o2 => (HCOPY.out.own.alloc _).alloc _
        have hO2 : Hid (∀ o1 o2, ((w1.alloc o1).alloc o2).ownsRow (w.heap.size + 2) 3 1 (.slice none (F.an k) 0) (F.an k) (intsL (F.an k) (F.af k))) := Hid.mk fun o1 o2 => by
          rw [h0]
          exact World.ownsRow_nil _ _ _ _
        have hO3 : Hid (∀ o1 o2, Below w1.heap.size w1 ((w1.alloc o1).alloc o2)) := Hid.mk fun o1 o2 => ((Below.refl _ _).alloc (Nat.le_refl _) _).alloc (by simp) _
        have hN0 : Hid (nodeL F k none 0 = [.int .i64 (F.bu k), .int .i64 (F.cl k), .int .i64 (F.be k), .int .i64 (F.ba k), .int .i64 (F.ca k), .int .i64 (F.ji k), .slice none 0 0]) := Hid.mk (by simp [nodeL, h0])
        have hones : Hid (∀ u ∈ [.int .i64 (F.bu k), .int .i64 (F.cl k), .int .i64 (F.be k), .int .i64 (F.ba k), .int .i64 (F.ca k), .int .i64 (F.ji k), Value.slice none 0 0], u.oneCell' = true) := Hid.mk (by rw [← hN0.out]; exact ones7 _ _ _ _)
        clear ni ha h0 hc0
        go_wp2_with (first
          | (at_builtin; refine wpList_append_own_none rfl (.const (.slice none 0 0)) (.tmp 14) 25 rfl (w.heap.size + 2) 3 i3 1 Tryd.underlying25 HI3.out.1 (.slice none 0 0) 0 [] rfl (World.ownsRow_nil _ _ _ _) rfl ?_)
          | (at_builtin; refine wpList_append_own _ rfl (.tmp 17) (.tmp 19) 22 rfl (w.heap.size + 2) 27 i27 (.agg #[.int .i64 0, .int .i64 0, .int .i64 0, .int .i64 0, .int .i64 0, .int .i64 0, .slice none 0 0]) 7 72 Tryd.underlying22 HI27.out.1 HI27.out.2.1 HI27.out.2.2.1 HI27.out.2.2.2 rfl (by decide) (.slice la k lc) k (nodesL F Na Nc k) rfl (hO1.out _ _) ⟨w1.heap.size + 1, 0, none⟩ 1 1 [.int .i64 (F.bu k), .int .i64 (F.cl k), .int .i64 (F.be k), .int .i64 (F.ba k), .int .i64 (F.ca k), .int .i64 (F.ji k), .slice none 0 0] rfl rfl (news7 _ _ _ _ (by simp)) hones.out (by unfold maxLen; omega) (by omega) (by simp; omega) ?_; intro v2 w3 hown2 hgrow2 hiff; clear hiff; rw [← hN0.out] at hown2; obtain ⟨la', lc', Na', Nc', rfl, hC, hO⟩ := copy_step2 HCOPY.out HOWN.out (hO2.out _ _) (hO3.out _ _) hown2 hgrow2; have HC' := Hid.mk hC; have HO' := Hid.mk hO; clear hC hO hown2 hgrow2 n0 n1 n2 n3 n4 n5 n6))
        go_roundw
        case rel => exact ⟨k + 1, la', lc', Na', Nc', by omega, by go_num, rfl, HC'.out, HO'.out⟩
        case measure => simp [intOf]; omega
      | some ad =>
        rw [ha] at n6 ni
        have hnews : Hid (∀ (ob : Obj) (j : Nat) (u : Value), (intsL (F.an k) (F.af k))[j]? = some u → (w1.alloc ob).cell? (ad.add j) = some u) := Hid.mk fun ob j u hj => by
          have hjl : j < F.an k := by
            have := (List.getElem?_eq_some_iff.1 hj).1
            rwa [intsL_length] at this
          rcases ni with h0 | ⟨ab, ao, hA, _, _, hab, hcell⟩
          · omega
          · obtain rfl : ad = ⟨ab, ao, none⟩ := by simpa using hA
            rw [intsL_at _ _ _ hjl] at hj
            rw [← hj]
            rw [addr_add]
            exact cell_later ((Below.refl _ _).alloc (Nat.le_refl _) _) (hcell j hjl)
        have hones : Hid (∀ u ∈ intsL (F.an k) (F.af k), u.oneCell' = true) := Hid.mk fun u hu => by
          simp only [intsL, List.mem_map] at hu
          obtain ⟨x, _, rfl⟩ := hu
          rfl
        clear ni ha
        go_wp2_with (first
          | (at_builtin; refine wpList_append_own _ rfl (.const (.slice none 0 0)) (.tmp 14) 25 rfl (w.heap.size + 2) 3 i3 (.int .i64 0) 1 8 Tryd.underlying25 HI3.out.1 HI3.out.2.1 HI3.out.2.2.1 HI3.out.2.2.2 rfl (by decide) (.slice none 0 0) 0 [] rfl (World.ownsRow_nil _ _ _ _) ad (F.an k) (Ac k) (intsL (F.an k) (F.af k)) rfl (by rw [intsL_length]; omega) (hnews.out _) hones.out (by unfold maxLen; omega) (by omega) (by simp; omega) ?_; intro v1 w2 hown1 hgrow1 hiff; clear hiff; obtain ⟨na, nc, rfl, hs12, hblk, hO1, hO2, hO3⟩ := copy_step1 HCOPY.out hown1 hgrow1; have m0 := cell_at hblk 0; have m1 := cell_at hblk 1; have m2 := cell_at hblk 2; have m3 := cell_at hblk 3; have m4 := cell_at hblk 4; have m5 := cell_at hblk 5; have m6 := cell_at hblk 6; have f6 := free_at hblk 6; have HO1 := Hid.mk hO1; have HO2 := Hid.mk hO2; have HO3 := Hid.mk hO3; clear hO1 hO2 hO3 hown1 hgrow1 hblk n0 n1 n2 n3 n4 n5 n6)
          | (at_builtin; refine wpList_append_own _ rfl (.tmp 17) (.tmp 19) 22 rfl (w.heap.size + 2) 27 i27 (.agg #[.int .i64 0, .int .i64 0, .int .i64 0, .int .i64 0, .int .i64 0, .int .i64 0, .slice none 0 0]) 7 72 Tryd.underlying22 HI27.out.1 HI27.out.2.1 HI27.out.2.2.1 HI27.out.2.2.2 rfl (by decide) (.slice la k lc) k (nodesL F Na Nc k) rfl (HO1.out _ _) ⟨w2.heap.size, 0, none⟩ 1 1 (nodeL F k na nc) rfl rfl (news7 _ _ _ _ (by simp [World.setCell])) (ones7 _ _ _ _) (by unfold maxLen; omega) (by omega) (by simp [World.setCell]; omega) ?_; intro v2 w3 hown2 hgrow2 hiff; clear hiff; obtain ⟨la', lc', Na', Nc', rfl, hC, hO⟩ := copy_step2 HCOPY.out HOWN.out (HO2.out _ _) (HO3.out _ _) hown2 hgrow2; have HC' := Hid.mk hC; have HO' := Hid.mk hO; clear hC hO hown2 hgrow2 m0 m1 m2 m3 m4 m5 m6 f6))
        go_roundw
        case rel => exact ⟨k + 1, la', lc', Na', Nc', by omega, by go_num, rfl, HC'.out, HO'.out⟩
        case measure => simp [intOf]; omega
    · obtain rfl : k = F.n := by omega
      have a0 := cell_at hown.bA 0
      have a1 := cell_at hown.bA 1
      have fa1 := free_at hown.bA 1
      have r0 := cell_at hown.bB 0
      have r1 := cell_at hown.bB 1
      have fr0 := free_at hown.bB 0
      have fr1 := free_at hown.bB 1
      clear hcopy hown
      go_wp2_with fail
      have hsz4 := HOWN.out.sz
      have hC3 : CopyAt (w.heap.size + 2) (((w1.setCell ⟨w.heap.size, 1, none⟩ (.slice la F.n lc)).setCell ⟨w.heap.size + 1, 0, none⟩ (.int .i64 F.dl)).setCell ⟨w.heap.size + 1, 1, none⟩ (.slice la F.n lc)) F (.slice la F.n lc) F.n Na Nc :=
        ⟨ownsRow_setCell_below (ownsRow_setCell_below (ownsRow_setCell_below HCOPY.out.own (by simp) _) (by simp) _) (by simp) _,
         fun i hi => ownsRow_setCell_below (ownsRow_setCell_below (ownsRow_setCell_below (HCOPY.out.aft i hi) (by simp) _) (by simp) _) (by simp) _⟩
      exact bodyPost_ret (v := .agg #[.int .i64 F.dl, .slice la F.n lc]) (by simp [results, Tryd.results26, go_sem, r0, r1]) rfl ⟨_, _, _, rfl, hC3, ((HOWN.out.bl.setCell (by simp) _).setCell (by simp) _).setCell (by simp) _⟩
end Go.Proofs.YtgdcjccbdmcebaaDoor
