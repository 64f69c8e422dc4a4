/- The program's wheel: put. -/
import Derived.Test.YtgdcjccbdmcebaaDoorHW2
import Derived.Test.YtgdcjccbdmcebaaDoorHWhD
import Derived.Deep.RegionHeld3
import Derived.Deep.RegionLaw
import Derived.Deep.DrawnRows
import Derived.Deep.AppendLies
namespace Go.Proofs.YtgdcjccbdmcebaaDoor
open Go.RowKit
open Go.Maps (keyOf_int_mk)
set_option maxRecDepth 100000
attribute [local go_sem ↓] Go.wp_at_zero Go.wp_at_succ

theorem infoInt : (Tryd.prog.info? 3).map (fun i => (i.zero, i.size, i.bytes)) = some (some (.int .i64 0), 1, 8) := by kernel_rfl
theorem PwAt.at_ {w : World} {P B now : Nat} {dm : Value} {rw_ : Nat → Value} {ls : Nat → List Int} {wd : Nat → Nat} (h : PwAt w P B now dm rw_ ls wd) {L s k : Nat} (hk : L * 64 + s = k) (h1 : k < 704) : w.cell? ⟨P, 2 + L * 64 + s, none⟩ = some (rw_ k) := by
  subst hk
  rw [Nat.add_assoc]
  exact h.cs _ h1

theorem map_ne {w : World} {D : DataW Unit} {bm n' : Nat} (h : mapOf D w bm n') {B : Nat} {e : TypeId} {size n : Nat} {v : Value} {xs : List Value} (g : w.ownsRow B e size v n xs) : some bm ≠ v.ownBlock := by
  obtain ⟨es, clock, hb, _⟩ := h
  intro e2
  rcases g.2 with ⟨rfl, _⟩ | ⟨z, cap, cur, rfl, _, hh, _⟩
  · simp [Value.ownBlock] at e2
  · simp only [Value.ownBlock, Option.some.injEq] at e2
    subst e2
    rw [hb] at hh
    cases hh
/-- Of the blocks that were there, but for P and the row o, none has turned; the row v lies where o lay, or in a new block. -/
structure Near (w w' : World) (P : Nat) (o v : Value) : Prop where
  size : w.heap.size ≤ w'.heap.size
  at_ : ∀ z, v.ownBlock = some z → o.ownBlock = some z ∨ w.heap.size ≤ z
  block : ∀ j, j < w.heap.size → j ≠ P → some j ≠ o.ownBlock → w'.heap[j]? = w.heap[j]?
/-- A list behind which one id more stands, stored. -/
theorem PwAt.more {w w7 : World} {P B now : Nat} {dm : Value} {rw_ : Nat → Value} {ls : Nat → List Int} {wd : Nat → Nat} (h : PwAt w P B now dm rw_ ls wd) {k n c gg gcap L s : Nat} {a : Option Addr} (hk704 : k < 704) (hk : k = L * 64 + s) (hv : rw_ k = .slice a n c) (hn : n = (ls k).length) {id : Int} {o : Obj} {D : DataW Unit} {bm nn : Nat} (hm : mapOf D w bm nn) (hbm : B ≤ bm)
    (hown : w7.ownsRow B 3 1 (.slice (some ⟨gg, 0, none⟩) (n + 1) gcap) (n + 1) (idsL (ls k) ++ [.int .i64 id])) (hg : (w.alloc o).drew.grownBy w7 (Value.slice a n c).ownBlock) (hat : (Value.slice a n c).ownBlock = some gg ∨ gg = w.heap.size + 1) :
    PwAt (w7.setCell ⟨P, 2 + L * 64 + s, none⟩ (.slice (some ⟨gg, 0, none⟩) (n + 1) gcap)) P B now dm (upd rw_ k (.slice (some ⟨gg, 0, none⟩) (n + 1) gcap)) (upd ls k (ls k ++ [id])) wd ∧ mapOf D (w7.setCell ⟨P, 2 + L * 64 + s, none⟩ (.slice (some ⟨gg, 0, none⟩) (n + 1) gcap)) bm nn ∧ PF w (w7.setCell ⟨P, 2 + L * 64 + s, none⟩ (.slice (some ⟨gg, 0, none⟩) (n + 1) gcap)) P B ∧ Near w (w7.setCell ⟨P, 2 + L * 64 + s, none⟩ (.slice (some ⟨gg, 0, none⟩) (n + 1) gcap)) P (rw_ k) (.slice (some ⟨gg, 0, none⟩) (n + 1) gcap) := by
  have hs7 : w.heap.size ≤ w7.heap.size := by have := hg.size; simp at this; omega
  have ho := h.own k hk704
  rw [hv] at ho
  have ho2 := (ho.alloc o).drew
  have hm2 : mapOf D (w.alloc o).drew bm nn := World.ownsMap.alloc hm o
  have hblk : ∀ j, j < w.heap.size → some j ≠ (rw_ k).ownBlock → w7.heap[j]? = w.heap[j]? := fun j hj hne =>
      (hg.block j (by simp; omega) (by rw [← hv]; exact hne)).trans (heap_alloc_before w o j hj)
  have hatz : ∀ z, (Value.slice (some ⟨gg, 0, none⟩) (n + 1) gcap).ownBlock = some z → (rw_ k).ownBlock = some z ∨ w.heap.size ≤ z := fun z hz => by
      simp only [Value.ownBlock, Option.some.injEq] at hz
      subst hz
      rcases hat with e | e
      · left; rw [hv]; exact e
      · right; omega
  refine ⟨?_, ?_, ?_, ⟨by simpa [World.setCell] using hs7, hatz, fun j hj hjP hne => (Below.heap_setCell w7 ⟨P, 2 + L * 64 + s, none⟩ _ j (by simpa using hjP)).trans (hblk j hj hne)⟩⟩
  · have := h.slot (w7 := w7) (k := k) hk704 (v' := .slice (some ⟨gg, 0, none⟩) (n + 1) gcap) (xs := ls k ++ [id]) (n' := n + 1) (by rw [List.length_append, ← hn]; rfl) hs7 hblk (by rw [idsL_append]; exact hown) hatz
    rwa [hk, ← Nat.add_assoc, ← hk] at this
  · exact World.ownsMap.setCell (World.ownsMap.kept hm2 hg (map_ne hm2 ho2)) (by simp; have := h.pb; omega) _
  · have f1 : PF w (w.alloc o).drew P B := PF.of_below (((Below.refl w.heap.size w).alloc (Nat.le_refl _) o).drew)
    have f2 : PF (w.alloc o).drew w7 P B := PF.of_grown hg (own_int ho2)
    exact (f1.trans f2).trans (PF.setP _ _ _ _ _)

theorem or_bitW (x s : Nat) (hx : x < 18446744073709551616) (hs : s < 64) : bits .or .u64 (x : Int) (IntKind.u64.wrap (2 ^ s)) = ((x ||| 2 ^ s : Nat) : Int) := by
  have h2 : 2 ^ s < 18446744073709551616 := by
    have : 2 ^ s < 2 ^ 64 := Nat.pow_lt_pow_right (by decide) hs
    omega
  have e : IntKind.u64.wrap ((2 : Int) ^ s) = ((2 ^ s : Nat) : Int) := by
    have : (2 : Int) ^ s = ((2 ^ s : Nat) : Int) := by norm_cast
    rw [this, IntKind.wrap_u64]
    generalize 2 ^ s = y at *
    omega
  rw [e, bits_or_u64_nat _ _ hx h2]

set_option maxHeartbeats 8000000 in
theorem put_any (w : World) (P B now tn : Nat) (_dm : Value) (rw_ : Nat → Value) (ls : Nat → List Int) (wd : Nat → Nat) (bm : Nat) (D : DataW Unit) (id : Int) (h : PwAt w P B now (.map (some bm)) rw_ ls wd) (hd : mapOf D w bm (Maps.size D)) (hbm : B ≤ bm) (hid : (Lit.int .i64 id).wf = true) (hat : D.atKey (.int .i64 id) u0 = .lit (.int .u64 tn)) (hnow : now ≤ 4611686018427387904) (htn : tn ≤ 4611686018427387904) (hw : ∀ j, j < 11 → wd j < 18446744073709551616) (hlen : (ls (pl now tn)).length < 1048576) :
    Calls Tryd.prog 78 #[.pointer (some ⟨P, 0, none⟩), .int .i64 id] w fun e w' => e = .returned (.tuple #[]) ∧ ∃ v' x', PwAt w' P B now (.map (some bm)) (upd rw_ (pl now tn) v') (upd ls (pl now tn) (ls (pl now tn) ++ [id])) (upd wd (lev now tn) x') ∧ x' = wd (lev now tn) ||| 2 ^ slt (lev now tn) tn ∧ mapOf D w' bm (Maps.size D) ∧ PF w w' P B ∧ Near w w' P (rw_ (pl now tn)) v' := by
  obtain ⟨c, hrun, hat2, _⟩ := World.ownsMap.lookup_int (q := .u64) hd lawI Tryd.underlying77 Tryd.underlying34 (zeroU w) (keyOf_int_mk Tryd.underlying3 hid)
  obtain rfl : c = (tn : Int) := by
    have := hat2.symm.trans hat
    simpa using this
  have H := Hid.mk h
  have c0 := h.c0
  have c1 := h.c1
  clear hat2 h
  go_enter Tryd.func78, Tryd.ntmps78
  go_wp2_with (go_at_call 80; refine (place_any w P now tn c0 (by omega) (by omega)).mono ?_; rintro e w1 ⟨rfl, q, rfl⟩)
  obtain ⟨L, hL⟩ : ∃ L, L = lev now tn := ⟨_, rfl⟩
  obtain ⟨s, hs⟩ : ∃ s, s = slt L tn := ⟨_, rfl⟩
  obtain ⟨k, hk⟩ : ∃ k, k = L * 64 + s := ⟨_, rfl⟩
  have hpl : pl now tn = k := by unfold pl; rw [hk, hs, hL]
  have hL10 : L < 11 := by have := lev_top now tn hnow htn; omega
  have hs64 : s < 64 := by rw [hs]; exact slt_lt _ _
  have hk704 : k < 704 := by omega
  rw [hpl] at hlen
  rw [← hL, ← hs]
  have HQ := Hid.mk (And.intro hL (And.intro hs (And.intro hk hpl)))
  have hb1 : Below w.heap.size w (w.drewN q) := ⟨rfl, rfl, rfl, Nat.le_refl _, fun _ _ => rfl⟩
  have HP1 := Hid.mk (H.out.keep hb1)
  have HM1 : Hid (mapOf D (w.drewN q) bm (Maps.size D)) := Hid.mk hd
  have HF1 := Hid.mk (PF.of_below (P := P) (B := B) hb1)
  have HN1 : Hid (w.heap.size ≤ (w.drewN q).heap.size ∧ ∀ j, j < w.heap.size → (w.drewN q).heap[j]? = w.heap[j]?) := Hid.mk ⟨Nat.le_refl _, fun _ _ => rfl⟩
  have HW := Hid.mk hw
  clear hL hs hpl hrun c0 c1 hd hb1 hw
  generalize w.drewN q = w1 at *
  obtain ⟨a, c, hv⟩ := own_slice (HP1.out.own k hk704)
  obtain ⟨n, hn⟩ : ∃ n, n = (ls k).length := ⟨_, rfl⟩
  rw [← hn] at hv hlen
  have HV := Hid.mk (And.intro hv hn)
  have m1 := HP1.out.at_ (L := L) (s := s) hk.symm hk704
  rw [hv] at m1
  have m2 := HP1.out.fz (2 + L * 64 + s)
  have hown := HP1.out.own k hk704
  rw [hv, ← hn] at hown
  have HO := Hid.mk hown
  have hpb := HP1.out.pb
  have hbs := HP1.out.bs
  have hob : Hid (some P ≠ (Value.slice a n c).ownBlock) := Hid.mk fun e => by have := (HO.out.lt P e.symm).1; omega
  obtain ⟨i3, hi, hz0, hz1, hz2⟩ := info_parts infoInt
  have HI := Hid.mk (And.intro hi (And.intro hz0 (And.intro hz1 hz2)))
  clear hv hn hown hi hz0 hz1 hz2 hk
  have g1 : (L : Int) < 11 := by omega
  have g2 : (s : Int) < 64 := by omega
  have m1a := cell_later (((Below.refl w1.heap.size w1).alloc (Nat.le_refl _) (.cells #[.int .i64 id] 3)).drew) m1
  have m1b := cell_later ((Below.refl w1.heap.size w1).alloc (Nat.le_refl _) (.cells #[.int .i64 id] 3)) m1
  go_region_law ((refine step_append_lies _ (by rfl) _ _ _ (by rfl) B 3 i3 _ 1 8 Tryd.underlying25 HI.out.1 HI.out.2.1 HI.out.2.2.1 HI.out.2.2.2 rfl (by omega) (.slice a n c) n (idsL (ls k)) (by rfl) ((HO.out.alloc _).drew) ⟨w1.heap.size, 0, none⟩ 1 1 [.int .i64 id] (by rfl) (by rfl) (World.news_of_block (cs := #[.int .i64 id]) (t := 3) (fr := (0, 0)) (heap_alloc_new w1 _)) (by simp [Value.oneCell']) (by omega) (by unfold maxLen; omega) (by omega) (by simp; omega) (w1.heap.size + 1) (by simp) ?_; intro gg gcap w7 hown7 hgrow hat7 hlt; have s1 := (hgrow.cell_far ⟨P, 2 + L * 64 + s, none⟩ (by simp; omega) hob.out).trans (cell_later (((Below.refl w1.heap.size w1).alloc (Nat.le_refl _) _).drew) m1); have sz := (hgrow.frozen_far ⟨P, 2 + L * 64 + s, none⟩ (by simp; omega) hob.out).trans (((((Below.refl w1.heap.size w1).alloc (Nat.le_refl _) (.cells #[.int .i64 id] 3)).drew).frozen (p := ⟨P, 2 + L * 64 + s, none⟩) (by simp only []; omega)).trans m2)))
  all_goals
    obtain ⟨k1, k2, k3, k4⟩ := HP1.out.more hk704 HQ.out.2.2.1 HV.out.1 HV.out.2 HM1.out hbm hown7 hgrow hat7
    have HP8 := Hid.mk k1
    have HM8 := Hid.mk k2
    have HF8 := Hid.mk (HF1.out.trans k3)
    have HE8 := Hid.mk k4
    have x1 := k1.cw L hL10
    have x2 := k1.fz (706 + L)
    clear k1 k2 k3 k4 hown7 hgrow hat7 hlt s1 sz m1 m1a m1b m2
    generalize w7.setCell ⟨P, 2 + L * 64 + s, none⟩ (.slice (some ⟨gg, 0, none⟩) (n + 1) gcap) = w8 at *
    go_wp2_with fail
    go_region
    all_goals
      have hbit := or_bitW (wd L) s (HW.out L hL10) hs64
      rw [hbit]
      have HP9 := (HP8.out.setWord L (wd L ||| 2 ^ s) hL10).keep (((Below.refl _ _).drew))
      have HM9 : mapOf D ((w8.setCell ⟨P, 706 + L, none⟩ (.int .u64 ((wd L ||| 2 ^ s : Nat) : Int))).drew) bm (Maps.size D) := World.ownsMap.setCell HM8.out (by simp; omega) _
      have HF9 := (HF8.out.trans (PF.setP w8 P B (706 + L) (.int .u64 ((wd L ||| 2 ^ s : Nat) : Int)))).trans (PF.of_below ((Below.refl _ _).drew))
      have hQ := HQ.out
      clear HQ
      obtain ⟨q1, q2, q3, q4⟩ := hQ
      go_end0
      refine ⟨rfl, .slice (some ⟨gg, 0, none⟩) (n + 1) gcap, wd L ||| 2 ^ s, ?_, by rw [← q1, ← q2], HM9, HF9, ?_⟩
      · rw [q4, ← q1]
        exact HP9
      · rw [q4]
        have hE := HE8.out
        refine ⟨Nat.le_trans HN1.out.1 (by simpa [World.setCell] using hE.size), fun z hz => (hE.at_ z hz).imp (fun e => e) (fun e => by have := HN1.out.1; omega), fun j hj hjP hne => ?_⟩
        exact (Below.heap_setCell w8 ⟨P, 706 + L, none⟩ _ j (by simpa using hjP)).trans ((hE.block j (by have := HN1.out.1; omega) hjP hne).trans (HN1.out.2 j hj))
end Go.Proofs.YtgdcjccbdmcebaaDoor
