/- The program's list of nodes, read. -/
import Derived.Test.YtgdcjccbdmcebaaDoorWPnode
namespace Go.Proofs.YtgdcjccbdmcebaaDoor
open Go.RowKit
set_option maxRecDepth 100000

theorem own_grownR {w w' : World} {B R : Nat} {e : TypeId} {size n : Nat} {v : Value} {xs : List Value} (h : w.ownsRow B e size v n xs) (hg : w.grownBy w' (some R)) (hR : R < B) : w'.ownsRow B e size v n xs := by
  refine h.kept hg ?_
  cases hob : v.ownBlock with
  | none => exact Or.inl rfl
  | some z => right; have := (h.lt z hob).1; simp; omega
theorem CopyAt.grownR {B R : Nat} {w w' : World} {F : FlowD} {v : Value} {k : Nat} {Na : Nat → Option Addr} {Nc : Nat → Nat} (h : CopyAt B w F v k Na Nc) (hg : w.grownBy w' (some R)) (hR : R < B) : CopyAt B w' F v k Na Nc :=
  ⟨own_grownR h.own hg hR, fun i hi => own_grownR (h.aft i hi) hg hR⟩

/-- What the list of nodes comes to. -/
def PnodesIs (B : Nat) (w' : World) (R : Nat) (a : Option Addr) (n cap : Nat) (f : Nat → Nat) (e : Ending) : Prop :=
  (∃ q s la lc Na Nc, stE n f = .good q s ∧ q ≤ n ∧ e = .returned (.slice la (flowOf n f).n lc) ∧ CopyAt B w' (flowOf n f) (.slice la (flowOf n f).n lc) (flowOf n f).n Na Nc ∧ PdAt w' R a n cap (q : Nat)) ∨
  (∃ s, stE n f = .bad s ∧ e = badP s)

set_option maxHeartbeats 4000000 in
theorem pnodes_any (w : World) (R V : Nat) (a : Option Addr) (n cap : Nat) (f : Nat → Nat) (p s : Nat) (hst0 : nxN n f 1 (.good 0 0) = .good p s) (hRB : R < w.heap.size) (hVR : V ≠ R) (hV : w.cell? ⟨V, 0, none⟩ = some (.pointer (some ⟨R, 0, none⟩))) (hn : n ≤ maxLen) (hp : p ≤ n) (h : PdAt w R a n cap p) (hR : ∀ b o, a = some ⟨b, o, none⟩ → b ≠ R) (hb : BytesAt w a n cap f) :
    Calls Tryd.prog 92 #[.pointer (some ⟨R, 0, none⟩), .func (.func 93) #[] #[.pointer (some ⟨V, 0, none⟩)]] w fun e w' => PnodesIs w.heap.size w' R a n cap f e ∧ w.grownBy w' (some R) := by
  obtain ⟨i27, hi27, hz270, hz271, hz272⟩ := info_parts info27
  have HI27 := Hid.mk (And.intro hi27 (And.intro hz270 (And.intro hz271 hz272)))
  have HB := Hid.mk hb
  have HRR := Hid.mk hR
  have HV := Hid.mk (fun x (hg : w.grownBy x (some R)) => hg.cell (a := ⟨V, 0, none⟩) hV (by simpa using hVR))
  have hm : (flowOf n f).n = nxV n f (.good p s) := by show nxV n f (nxN n f 1 (.good 0 0)) = _; rw [hst0]
  have hmle := nxV_le n f (.good p s)
  have hE : stE n f = ndN n f (nxV n f (.good p s)) (st0 n f) := by unfold stE st; rw [hm]
  have h0 : st0 n f = nxN n f 1 (.good p s) := by unfold st0; rw [show 2 = 1 + 1 from rfl, nxN_add, hst0]
  have HE := Hid.mk (And.intro hE (And.intro h0 hm))
  clear hi27 hz270 hz271 hz272 hb hR hE h0 hm hst0
  go_enter Tryd.func92, Tryd.ntmps92
  go_wp2_with fail
  refine (pnum_any _ R a n cap f p hn hp h HRR.out HB.out).mono ?_
  rintro e w1 ⟨⟨m, q, hv, rfl, hpd⟩ | ⟨hv, rfl, hpd⟩, ht⟩
  case inr =>
    have HX := Hid.mk (And.intro hv ht.grown)
    clear hv hpd ht h
    go_wp2_with fail
    refine ⟨rfl, Or.inr ⟨p, ?_, rfl⟩, HX.out.2⟩
    rw [HE.out.1, HE.out.2.1]
    have : nxN n f 1 (.good p s) = .bad p := by simp only [nxN]; exact nxS_none HX.out.1
    rw [this, ndN_bad]
  have hq := numAt_lt hv
  have hs1 : nxN n f 1 (.good p s) = .good q p := by simp only [nxN]; exact nxS_some hv
  have hv1 : nxV n f (.good p s) = m := nxV_some hv
  have HS1 := Hid.mk (And.intro (HE.out.2.1.trans hs1) hv1)
  have HT1 := Hid.mk ht.grown
  have HP1 := Hid.mk hpd
  rw [hv1] at hmle
  clear hv hs1 hv1 ht hpd h
  go_wp2_with fail
  go_loopw [5, 8] (fun lv iv wr => ∃ (k : Nat) (la : Option Addr) (lc q s' : Nat) (Na : Nat → Option Addr) (Nc : Nat → Nat), iv = .int .i64 k ∧ k ≤ m ∧ lv = .slice la k lc ∧ CopyAt w.heap.size wr (flowOf n f) (.slice la k lc) k Na Nc ∧ st n f k = .good q s' ∧ q ≤ n ∧ PdAt wr R a n cap (q : Nat) ∧ w.grownBy wr (some R)) (fun _ iv _ => m - (intOf iv).toNat)
  case atStart => exact ⟨0, none, 0, q, p, fun _ => none, fun _ => 0, rfl, by omega, rfl, ⟨World.ownsRow_nil _ _ _ _, fun i hi => by omega⟩, HS1.out.1, hq.2.1, HP1.out, HT1.out⟩
  case round =>
    obtain ⟨k, la, lc, q2, s2, Na, Nc, rfl, hk, rfl, hcp, hst, hq2, hpd2, hg2⟩ := hrel
    rename World => w2
    have HO := Hid.mk hcp
    have HST := Hid.mk hst
    have HPD := Hid.mk hpd2
    have HG2 := Hid.mk hg2
    have hB2 : w.heap.size ≤ w2.heap.size := hg2.size
    clear hcp hst hpd2 hg2
    by_cases h1 : k < m
    · go_wp2_with fail
      refine (pnode_any _ R V a n cap f q2 s2 (by omega) hVR (HV.out _ HG2.out) hn hq2 HPD.out HRR.out (HB.out.grown HRR.out HG2.out)).mono ?_
      rintro e w3 ⟨hx, hg3⟩
      have hst1 : st n f (k + 1) = ndS n f (.good q2 s2) := by
        have := HST.out
        unfold st at this ⊢
        simp only [ndN]
        rw [this]
      have HST1 := Hid.mk hst1
      rcases hx with ⟨q3, s3, na, nc, hnd, hq3, rfl, hown, hpd⟩ | ⟨s3, hnd, rfl⟩
      case inr =>
        have HX := Hid.mk (And.intro hnd hg3)
        clear hnd hg3 hst1
        go_wp2_with fail
        refine ⟨rfl, Or.inr ⟨s3, ?_, rfl⟩, grown_trans HG2.out HX.out.2⟩
        rw [HE.out.1, HS1.out.2]
        exact ndN_stuck (j := k + 1) (by have := HST1.out; unfold st at this; rw [this]; exact HX.out.1) (by omega)
      have hr : st n f k = .good q2 s2 := HST.out
      rw [← hr] at hown
      have HX := Hid.mk (And.intro hnd (And.intro hown (And.intro hpd hg3)))
      have hs3 : w2.heap.size ≤ w3.heap.size := hg3.size
      have HC3 : Hid (CopyAt w.heap.size w3 (flowOf n f) (.slice la k lc) k Na Nc) := Hid.mk (HO.out.grownR hg3 (by omega))
      have HNL : Hid (nodeL (flowOf n f) k na nc = [.int .i64 (nxV n f (.good q2 s2) : Nat), .int .i64 (nxV n f (nxN n f 1 (.good q2 s2)) : Nat), .int .i64 (nxV n f (nxN n f 2 (.good q2 s2)) : Nat), .int .i64 (nxV n f (nxN n f 3 (.good q2 s2)) : Nat), .int .i64 (nxV n f (nxN n f 4 (.good q2 s2)) : Nat), .int .i64 (nxV n f (nxN n f 5 (.good q2 s2)) : Nat), .slice na (nxV n f (nxN n f 6 (.good q2 s2))) nc]) := Hid.mk (by rw [← hr]; rfl)
      clear hnd hown hpd hg3 hst1 hr
      generalize nxV n f (.good q2 s2) = z0 at HNL ⊢
      generalize nxV n f (nxN n f 1 (.good q2 s2)) = z1 at HNL ⊢
      generalize nxV n f (nxN n f 2 (.good q2 s2)) = z2 at HNL ⊢
      generalize nxV n f (nxN n f 3 (.good q2 s2)) = z3 at HNL ⊢
      generalize nxV n f (nxN n f 4 (.good q2 s2)) = z4 at HNL ⊢
      generalize nxV n f (nxN n f 5 (.good q2 s2)) = z5 at HNL ⊢
      generalize nxV n f (nxN n f 6 (.good q2 s2)) = z6 at HNL ⊢
      have hones : Hid (∀ u ∈ [Value.int .i64 z0, .int .i64 z1, .int .i64 z2, .int .i64 z3, .int .i64 z4, .int .i64 z5, .slice na z6 nc], u.oneCell' = true) := Hid.mk (by rw [← HNL.out]; exact ones7 _ _ _ _)
      go_wp2_with (at_builtin; refine wpList_append_own _ rfl (.tmp 10) (.tmp 13) 22 rfl w.heap.size 27 i27 (.agg #[.int .i64 0, .int .i64 0, .int .i64 0, .int .i64 0, .int .i64 0, .int .i64 0, .slice none 0 0]) 7 72 Tryd.underlying22 HI27.out.1 HI27.out.2.1 HI27.out.2.2.1 HI27.out.2.2.2 rfl (by decide) (.slice la k lc) k (nodesL (flowOf n f) Na Nc k) rfl (HC3.out.own.alloc _) ⟨w3.heap.size, 0, none⟩ 1 1 [.int .i64 z0, .int .i64 z1, .int .i64 z2, .int .i64 z3, .int .i64 z4, .int .i64 z5, .slice na z6 nc] rfl rfl (news7 _ _ _ _ rfl) hones.out (by unfold maxLen; omega) (by omega) (by simp; omega) ?_; intro v4 w4 hown4 hgrow4 hiff; clear hiff; rw [← HNL.out] at hown4; obtain ⟨xa, xc, rfl⟩ := own_slice hown4; have HO4 := Hid.mk (And.intro hown4 hgrow4); clear hown4 hgrow4)
      go_roundw
      case rel =>
        have hrow : ∀ z, (Value.slice la k lc).ownBlock = some z → w.heap.size ≤ z := fun z hz => (HO.out.own.lt z hz).1
        refine ⟨k + 1, xa, xc, q3, s3, _, _, by go_num, by omega, rfl, HC3.out.more ((own_base HX.out.2.1 hB2).alloc _) ((Below.refl _ _).alloc (Nat.le_refl _) _) HO4.out.1 HO4.out.2, ?_, hq3, ?_, grown_row (grown_trans HG2.out HX.out.2.2.2) HO4.out.2 hrow⟩
        · rw [HST1.out]; exact HX.out.1
        · exact HX.out.2.2.1.grown (by omega) HO4.out.2 (fun e => by have := hrow R e.symm; omega)
      case measure => simp [intOf]; omega
    · obtain rfl : k = m := by omega
      go_wp2_with fail
      go_ret
      have hN : (flowOf n f).n = k := HE.out.2.2.trans HS1.out.2
      exact ⟨Or.inl ⟨q2, s2, la, lc, Na, Nc, by unfold stE; rw [hN]; exact HST.out, hq2, (by rw [hN]; rfl), by rw [hN]; exact HO.out, HPD.out⟩, HG2.out⟩
end Go.Proofs.YtgdcjccbdmcebaaDoor
