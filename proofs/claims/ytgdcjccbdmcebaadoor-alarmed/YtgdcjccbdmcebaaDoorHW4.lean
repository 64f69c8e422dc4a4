/- The program's wheel: drop. -/
import Derived.Test.YtgdcjccbdmcebaaDoorHW3
namespace Go.Proofs.YtgdcjccbdmcebaaDoor
open Go.RowKit
open Go.Maps (keyOf_int_mk)
set_option maxRecDepth 100000
attribute [local go_sem ↓] Go.wp_at_zero Go.wp_at_succ

theorem andNot_bitW (x s : Nat) (_hx : x < 18446744073709551616) (hs : s < 64) : ∃ y : Nat, bits .andNot .u64 (x : Int) (IntKind.u64.wrap (2 ^ s)) = (y : Int) ∧ y < 18446744073709551616 ∧ ∀ j, j < 64 → y.testBit j = (x.testBit j && !decide (s = j)) := by
  have h2 : 2 ^ s < 18446744073709551616 := by
    have : 2 ^ s < 2 ^ 64 := Nat.pow_lt_pow_right (by decide) hs
    omega
  have e : IntKind.u64.wrap ((2 : Int) ^ s) = ((2 ^ s : Nat) : Int) := by
    have : (2 : Int) ^ s = ((2 ^ s : Nat) : Int) := by norm_cast
    rw [this, IntKind.wrap_u64]
    generalize 2 ^ s = y at *
    omega
  rw [e]
  have h1 : (BitVec.ofInt 64 (x : Int)) = BitVec.ofNat 64 x := BitVec.ofInt_natCast ..
  have h3 : (BitVec.ofInt 64 ((2 ^ s : Nat) : Int)) = BitVec.ofNat 64 (2 ^ s) := BitVec.ofInt_natCast ..
  refine ⟨(BitVec.ofNat 64 x &&& ~~~ BitVec.ofNat 64 (2 ^ s)).toNat, ?_, by have := (BitVec.ofNat 64 x &&& ~~~ BitVec.ofNat 64 (2 ^ s)).isLt; omega, fun j hj => ?_⟩
  · show IntKind.u64.wrap ((BitVec.ofInt 64 (x : Int) &&& ~~~ BitVec.ofInt 64 ((2 ^ s : Nat) : Int)).toNat : Int) = _
    rw [h1, h3, IntKind.wrap_u64]
    have := (BitVec.ofNat 64 x &&& ~~~ BitVec.ofNat 64 (2 ^ s)).isLt
    omega
  · rw [BitVec.testBit_toNat, BitVec.getLsbD_and, BitVec.getLsbD_not, BitVec.getLsbD_ofNat, BitVec.getLsbD_ofNat, Nat.testBit_two_pow]
    simp [hj]
/-- A word behind a drop: the bit of a list that is empty then is gone. -/
def DropW (y x s n : Nat) : Prop := y < 18446744073709551616 ∧ ∀ j, j < 64 → (y.testBit j = true ↔ x.testBit j = true ∧ ¬ (s = j ∧ n = 1))
theorem PwAt.mapped {w w' : World} {P B now : Nat} {dm : Value} {rw_ : Nat → Value} {ls : Nat → List Int} {wd : Nat → Nat} (h : PwAt w P B now dm rw_ ls wd) {D : DataW Unit} {bm nn : Nat} (hm : mapOf D w bm nn) (hbm : B ≤ bm) (hg : w.grownBy w' (some bm)) : PwAt w' P B now dm rw_ ls wd ∧ PF w w' P B := by
  obtain ⟨es, clock, hb, _⟩ := hm
  have hpb := h.pb
  refine ⟨h.keepK hg.size (hg.block P (Nat.lt_of_lt_of_le h.pb h.bs) (by simp; omega)) (fun k _ he => ?_), PF.of_grown hg (fun z hz => ?_)⟩
  · obtain ⟨cs, fr, e⟩ := he
    refine hg.block k (Array.getElem?_eq_some_iff.1 e).1 (fun e2 => ?_)
    simp only [Option.some.injEq] at e2
    subst e2
    rw [hb] at e
    cases e
  · simp only [Option.some.injEq] at hz
    subst hz
    exact ⟨hbm, fun cs t fr e => by rw [hb] at e; cases e⟩
/-- An id goes out of a list: stored. -/
theorem PwAt.less {w w7 : World} {P B now : Nat} {dm : Value} {rw_ : Nat → Value} {ls : Nat → List Int} {wd : Nat → Nat} (h : PwAt w P B now dm rw_ ls wd) {k n c L s i : Nat} {a : Option Addr} (hk704 : k < 704) (hk : k = L * 64 + s) (hv : rw_ k = .slice a n c) (hn : n = (ls k).length) (hi : i < n) {D : DataW Unit} {bm nn : Nat} (hm : mapOf D w bm nn) (hbm : B ≤ bm)
    (hown : w7.ownsRow B 3 1 (.slice a (n - 1) c) (n - 1) (idsL ((ls k).take i ++ (ls k).drop (i + 1)))) (hg : w.grownBy w7 (Value.slice a n c).ownBlock) :
    PwAt (w7.setCell ⟨P, 2 + L * 64 + s, none⟩ (.slice a (n - 1) c)) P B now dm (upd rw_ k (.slice a (n - 1) c)) (upd ls k ((ls k).take i ++ (ls k).drop (i + 1))) wd ∧ mapOf D (w7.setCell ⟨P, 2 + L * 64 + s, none⟩ (.slice a (n - 1) c)) bm nn ∧ PF w (w7.setCell ⟨P, 2 + L * 64 + s, none⟩ (.slice a (n - 1) c)) P B := by
  have ho := h.own k hk704
  rw [hv] at ho
  refine ⟨?_, ?_, ?_⟩
  · have := h.slot (w7 := w7) (k := k) hk704 (v' := .slice a (n - 1) c) (xs := (ls k).take i ++ (ls k).drop (i + 1)) (n' := n - 1) (by rw [List.length_append, List.length_take, List.length_drop]; omega) hg.size (fun j hj hne => hg.block j hj (by rw [← hv]; exact hne)) hown (fun z hz => by
      left; rw [hv]
      cases a with
      | none => simp [Value.ownBlock] at hz
      | some a => exact hz)
    rwa [hk, ← Nat.add_assoc, ← hk] at this
  · exact World.ownsMap.setCell (World.ownsMap.kept hm hg (map_ne hm ho)) (by simp; have := h.pb; omega) _
  · exact (PF.of_grown hg (own_int ho)).trans (PF.setP _ _ _ _ _)

set_option maxHeartbeats 8000000 in
theorem drop_any (w : World) (P B now tn : Nat) (rw_ : Nat → Value) (ls : Nat → List Int) (wd : Nat → Nat) (bm i : Nat) (D : DataW Unit) (id : Int) (h : PwAt w P B now (.map (some bm)) rw_ ls wd) (hd : mapOf D w bm (Maps.size D)) (hbm : B ≤ bm) (hid : (Lit.int .i64 id).wf = true) (hat : D.atKey (.int .i64 id) u0 = .lit (.int .u64 tn)) (hnow : now ≤ 4611686018427387904) (htn : tn ≤ 4611686018427387904) (hw : ∀ j, j < 11 → wd j < 18446744073709551616) (hlen : (ls (pl now tn)).length < 1048576) (hi : i < (ls (pl now tn)).length) (he : (ls (pl now tn)).getD i 0 = id) (hne : ∀ j, j < i → (ls (pl now tn)).getD j 0 ≠ id) :
    Calls Tryd.prog 64 #[.pointer (some ⟨P, 0, none⟩), .int .i64 id] w fun e w' => e = .returned (.tuple #[]) ∧ ∃ v' x', PwAt w' P B now (.map (some bm)) (upd rw_ (pl now tn) v') (upd ls (pl now tn) ((ls (pl now tn)).take i ++ (ls (pl now tn)).drop (i + 1))) (upd wd (lev now tn) x') ∧ DropW x' (wd (lev now tn)) (slt (lev now tn) tn) (ls (pl now tn)).length ∧ mapOf (D.del (.int .i64 id)) w' bm (Maps.size (D.del (.int .i64 id))) ∧ PF w w' P B := by
  obtain ⟨c, hrun, hat2, _⟩ := World.ownsMap.lookup_int (q := .u64) hd lawI Tryd.underlying77 Tryd.underlying34 (zeroU w) (keyOf_int_mk Tryd.underlying3 hid)
  obtain rfl : c = (tn : Int) := by
    have := hat2.symm.trans hat
    simpa using this
  have H := Hid.mk h
  have c0 := h.c0
  have c1 := h.c1
  clear hat2 h
  go_enter Tryd.func64, Tryd.ntmps64
  go_upto_region 1 with (go_at_call 80; refine (place_any w P now tn c0 (by omega) (by omega)).mono ?_; rintro e w1 ⟨rfl, q, rfl⟩)
  obtain ⟨L, hL⟩ : ∃ L, L = lev now tn := ⟨_, rfl⟩
  obtain ⟨s, hs⟩ : ∃ s, s = slt L tn := ⟨_, rfl⟩
  obtain ⟨k, hk⟩ : ∃ k, k = L * 64 + s := ⟨_, rfl⟩
  have hpl : pl now tn = k := by unfold pl; rw [hk, hs, hL]
  have hL10 : L < 11 := by have := lev_top now tn hnow htn; omega
  have hs64 : s < 64 := by rw [hs]; exact slt_lt _ _
  have hk704 : k < 704 := by omega
  rw [hpl] at hlen hi he hne
  rw [← hL, ← hs]
  have HQ := Hid.mk (And.intro hL (And.intro hs (And.intro hk hpl)))
  have hb1 : Below w.heap.size w (w.drewN q) := ⟨rfl, rfl, rfl, Nat.le_refl _, fun _ _ => rfl⟩
  have HP1 := Hid.mk (H.out.keep hb1)
  have HM1 : Hid (mapOf D (w.drewN q) bm (Maps.size D)) := Hid.mk hd
  have HF1 := Hid.mk (PF.of_below (P := P) (B := B) hb1)
  have HW := Hid.mk hw
  clear hL hs hpl hrun c0 c1 hd hb1 hw
  generalize w.drewN q = w1 at *
  obtain ⟨a, c, hv⟩ := own_slice (HP1.out.own k hk704)
  obtain ⟨n, hn⟩ : ∃ n, n = (ls k).length := ⟨_, rfl⟩
  rw [← hn] at hv hlen hi
  have HV := Hid.mk (And.intro hv hn)
  have m1 := HP1.out.at_ (L := L) (s := s) hk.symm hk704
  rw [hv] at m1
  have hown := HP1.out.own k hk704
  rw [hv, ← hn] at hown
  have HO := Hid.mk hown
  have HN := Hid.mk (And.intro he hne)
  have hpb := HP1.out.pb
  have hbs := HP1.out.bs
  clear hv hn hown hk he hne
  have g1 : (L : Int) < 11 := by omega
  have g2 : (s : Int) < 64 := by omega
  have g3 : IntKind.i64.wrap ((i : Int) + 1) = ((i + 1 : Nat) : Int) := by rw [IntKind.wrap_i64]; omega
  go_upto_region 4 with (first
    | (go_at_call 81; refine (idx_any w1 B a n c (ls k) i id HO.out HV.out.2.symm hi HN.out.1 HN.out.2).mono ?_; rintro e w2 ⟨rfl, hw2⟩; rw [hw2])
    | (go_at_call 82; refine (del_any w1 B a n c (ls k) i HO.out HV.out.2.symm hi).mono ?_; rintro e w7 ⟨rfl, hown7, hgrow, hsz⟩))
  have hPb : w7.heap[P]? = w1.heap[P]? := hgrow.block P (by omega) (fun e => by have := (HO.out.lt P e.symm).1; omega)
  have s1 := (World.cell?_of_block (a := ⟨P, 2 + L * 64 + s, none⟩) hPb).trans m1
  have sz := (World.frozen?_of_block (a := ⟨P, 2 + L * 64 + s, none⟩) hPb).trans (HP1.out.fz (2 + L * 64 + s))
  obtain ⟨k1, k2, k3⟩ := HP1.out.less hk704 HQ.out.2.2.1 HV.out.1 HV.out.2 hi HM1.out hbm hown7 hgrow
  have HK := Hid.mk (And.intro k1 (And.intro k2 k3))
  clear hPb m1 k1 k2 k3 hown7 hgrow hsz g3
  go_upto_region 5 with fail
  have HP8 := Hid.mk HK.out.1
  have HM8 := Hid.mk HK.out.2.1
  have HF8 := Hid.mk (HF1.out.trans HK.out.2.2)
  clear HK s1 sz
  generalize w7.setCell ⟨P, 2 + L * 64 + s, none⟩ (.slice a (n - 1) c) = w8 at *
  have x1 := HP8.out.cw L hL10
  have x2 := HP8.out.fz (706 + L)
  have d1 := HP8.out.c1
  by_cases h1 : n = 1
  · subst h1
    go_upto_region 6 with fail
    go_region
    all_goals
      obtain ⟨y, hbit, hy, hyb⟩ := andNot_bitW (wd L) s (HW.out L hL10) hs64
      rw [hbit]
      have HP9 := Hid.mk ((HP8.out.setWord L y hL10).keep (((Below.refl _ _).drew)))
      have HM9 : Hid (mapOf D ((w8.setCell ⟨P, 706 + L, none⟩ (.int .u64 (y : Int))).drew) bm (Maps.size D)) := Hid.mk (World.ownsMap.setCell HM8.out (by simp; omega) _)
      have HF9 := Hid.mk ((HF8.out.trans (PF.setP w8 P B (706 + L) (.int .u64 (y : Int)))).trans (PF.of_below ((Below.refl _ _).drew)))
      clear x1 x2 d1
      generalize (w8.setCell ⟨P, 706 + L, none⟩ (.int .u64 (y : Int))).drew = w9 at *
      have d1 := HP9.out.c1
      go_wp2_with (first | (at_delete; refine wpList_delete_own _ rfl _ _ 77 3 rfl 34 lawI Tryd.underlying77 _ bm (Maps.size D) D rfl HM9.out _ _ rfl (keyOf_int_mk Tryd.underlying3 hid) ?_; intro w10 hown10 hturn10) | fail)
      obtain ⟨j1, j2⟩ := HP9.out.mapped HM9.out hbm hturn10.grown
      have hQ := HQ.out
      have hV := HV.out
      clear HQ HV
      obtain ⟨q1, q2, q3, q4⟩ := hQ
      go_end0
      refine ⟨rfl, .slice a (1 - 1) c, y, ?_, ?_, ownsMap_tight hown10, HF9.out.trans j2⟩
      · rw [q4, ← q1]
        exact j1
      · rw [q4, ← q1, ← q2, ← hV.2]
        exact ⟨hy, fun j hj => by rw [hyb j hj]; simp⟩
  · have e1 : (((n - 1 : Nat) : Int) == 0) = false := by simp; omega
    have HM9 := HM8
    have HP9 := HP8
    have HF9 := HF8
    go_wp2_with (first | (at_delete; refine wpList_delete_own _ rfl _ _ 77 3 rfl 34 lawI Tryd.underlying77 _ bm (Maps.size D) D rfl HM9.out _ _ rfl (keyOf_int_mk Tryd.underlying3 hid) ?_; intro w10 hown10 hturn10) | fail)
    all_goals
      obtain ⟨j1, j2⟩ := HP9.out.mapped HM9.out hbm hturn10.grown
      have hQ := HQ.out
      have hV := HV.out
      clear HQ HV
      obtain ⟨q1, q2, q3, q4⟩ := hQ
      go_end0
      refine ⟨rfl, .slice a (n - 1) c, wd L, ?_, ?_, ownsMap_tight hown10, HF9.out.trans j2⟩
      · rw [q4, ← q1]
        have hu : upd wd L (wd L) = wd := by funext j; unfold upd; split <;> simp_all
        rw [hu]
        exact j1
      · rw [q4, ← q1, ← q2, ← hV.2]
        exact ⟨HW.out L hL10, fun j hj => ⟨fun e => ⟨e, fun e2 => h1 e2.2⟩, fun e => e.1⟩⟩
end Go.Proofs.YtgdcjccbdmcebaaDoor
