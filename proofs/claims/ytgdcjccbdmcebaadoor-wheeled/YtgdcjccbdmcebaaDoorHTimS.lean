/- The document's wheel: Set. -/
import Derived.Test.YtgdcjccbdmcebaaDoorHTimM
import Derived.Deep.RegionHeld3
import Derived.Deep.RegionLaw
import Derived.Deep.DrawnRows
import Derived.Deep.AppendLies
namespace Go.Proofs.YtgdcjccbdmcebaaDoor
open Go.RowKit
set_option maxRecDepth 100000
attribute [local go_sem ↓] Go.wp_at_zero Go.wp_at_succ

theorem info112 : (Tryd.prog.info? 112).map (fun i => (i.zero, i.size, i.bytes)) = some (some (.agg #[.int .i64 0, .int .u64 0, .int .i64 0]), 3, 24) := by kernel_rfl

/-- What a call of the wheel leaves: the wheel has turned; of all else that was there nothing but the block ob. -/
structure RwF (w w' : World) (M : Nat) (ob : Option Nat) : Prop where
  os : w'.os = w.os
  tape : w'.tape = w.tape
  output : w'.output = w.output
  size : w.heap.size ≤ w'.heap.size
  block : ∀ k, k < w.heap.size → k ≠ M → some k ≠ ob → w'.heap[k]? = w.heap[k]?
theorem RwF.of_below {w w' : World} {M : Nat} {ob : Option Nat} (h : Below w.heap.size w w') : RwF w w' M ob := ⟨h.os, h.tape, h.output, h.size, fun k hk _ _ => h.block k hk⟩
theorem RwF.trans {x y z : World} {M : Nat} {ob : Option Nat} (h : RwF x y M ob) (h2 : RwF y z M ob) : RwF x z M ob :=
  ⟨h2.os.trans h.os, h2.tape.trans h.tape, h2.output.trans h.output, Nat.le_trans h.size h2.size, fun k hk hm ho => (h2.block k (Nat.lt_of_lt_of_le hk h.size) hm ho).trans (h.block k hk hm ho)⟩
theorem RwF.setM (w : World) (M o : Nat) (v : Value) (ob : Option Nat) : RwF w (w.setCell ⟨M, o, none⟩ v) M ob :=
  ⟨rfl, rfl, rfl, by simp [World.setCell], fun k _ hm _ => Below.heap_setCell w ⟨M, o, none⟩ v k (by simpa using hm)⟩
theorem RwF.none {w w' : World} {M : Nat} (h : RwF w w' M none) (ob : Option Nat) : RwF w w' M ob := ⟨h.os, h.tape, h.output, h.size, fun k hk hm _ => h.block k hk hm (by simp)⟩

theorem RwAt.setSq {w : World} {M B : Nat} {now : Int} {a : Option Addr} {cap : Nat} {l : List Tm} {sq : Int} (h : RwAt w M B now a cap l sq) (sq' : Int) : RwAt (w.setCell ⟨M, 2, none⟩ (.int .i64 sq')) M B now a cap l sq' :=
  ⟨(cell_setCell_off w M 2 0 _ (by decide)).trans h.c0, (cell_setCell_off w M 2 1 _ (by decide)).trans h.c1, World.cell?_setCell_same _ _ _ h.c2, by rw [World.frozen?_setCell]; exact h.f0, by rw [World.frozen?_setCell]; exact h.f1, by rw [World.frozen?_setCell]; exact h.f2, ownsRow_setCell_below h.own h.mb _, h.mb, by simpa [World.setCell] using h.bs, h.few⟩
/-- One timer more is appended and stored. -/
theorem RwAt.more {w w7 : World} {M B : Nat} {now : Int} {a : Option Addr} {cap gg gcap : Nat} {l : List Tm} {sq : Int} {t : Tm} {o : Obj} (h : RwAt w M B now a cap l sq) (hl : l.length < 200) (hown : w7.ownsRow B 112 3 (.slice (some ⟨gg, 0, none⟩) (l.length + 1) gcap) (l.length + 1) (tmL l ++ tmV t)) (hg : (w.alloc o).drew.grownBy w7 (Value.slice a l.length cap).ownBlock) :
    RwAt (w7.setCell ⟨M, 1, none⟩ (.slice (some ⟨gg, 0, none⟩) (l.length + 1) gcap)) M B now (some ⟨gg, 0, none⟩) gcap (l ++ [t]) sq ∧ RwF w (w7.setCell ⟨M, 1, none⟩ (.slice (some ⟨gg, 0, none⟩) (l.length + 1) gcap)) M (Value.slice a l.length cap).ownBlock := by
  have hM : M < w.heap.size := Nat.lt_of_lt_of_le h.mb h.bs
  have hs : w.heap.size ≤ w7.heap.size := by have := hg.size; simp at this; omega
  have hob : ∀ z, (Value.slice a l.length cap).ownBlock = some z → B ≤ z := fun z hz => (h.own.lt z hz).1
  have hblk : ∀ k, k < w.heap.size → some k ≠ (Value.slice a l.length cap).ownBlock → w7.heap[k]? = w.heap[k]? := fun k hkw hko => by
    refine (hg.block k (by simp; omega) hko).trans ?_
    exact heap_alloc_before w o k hkw
  have hb := hblk M hM (fun e => by have := hob M e.symm; have := h.mb; omega)
  have hlen : (l ++ [t]).length = l.length + 1 := by simp
  refine ⟨⟨?_, ?_, ?_, ?_, ?_, ?_, ?_, h.mb, by have := h.bs; simp [World.setCell]; omega, by omega⟩, ⟨?_, ?_, ?_, by simpa [World.setCell] using hs, fun k hk hkM hko => ?_⟩⟩
  · exact (cell_setCell_off w7 M 1 0 _ (by decide)).trans ((World.cell?_of_block (a := ⟨M, 0, none⟩) hb).trans h.c0)
  · rw [hlen]; exact World.cell?_setCell_same _ _ _ ((World.cell?_of_block (a := ⟨M, 1, none⟩) hb).trans h.c1)
  · exact (cell_setCell_off w7 M 1 2 _ (by decide)).trans ((World.cell?_of_block (a := ⟨M, 2, none⟩) hb).trans h.c2)
  · rw [World.frozen?_setCell]; exact (World.frozen?_of_block (a := ⟨M, 0, none⟩) hb).trans h.f0
  · rw [World.frozen?_setCell]; exact (World.frozen?_of_block (a := ⟨M, 1, none⟩) hb).trans h.f1
  · rw [World.frozen?_setCell]; exact (World.frozen?_of_block (a := ⟨M, 2, none⟩) hb).trans h.f2
  · rw [hlen, tmL_append]
    have : tmL [t] = tmV t := by simp [tmL]
    rw [this]
    exact ownsRow_setCell_below hown h.mb _
  · exact hg.os
  · exact hg.tape
  · exact hg.output
  · exact (Below.heap_setCell w7 ⟨M, 1, none⟩ _ k (by simpa using hkM)).trans (hblk k hk hko)
set_option maxHeartbeats 8000000 in
theorem rset_any (w : World) (M B : Nat) (now : Int) (a : Option Addr) (cap : Nat) (l : List Tm) (sq id tm : Int) (h : RwAt w M B now a cap l sq) (hnow : 0 ≤ now) (hnow2 : now ≤ 4611686018427387904) (hsq : 0 ≤ sq) (hsq2 : sq ≤ 4611686018427387904) :
    Calls Tryd.prog 37 #[.pointer (some ⟨M, 0, none⟩), .int .i64 id, .int .u64 tm] w fun e w' => ∃ (x : Int) (a' : Option Addr) (cap' : Nat) (l' : List Tm) (sq' : Int), e = .returned (.int .i64 x) ∧ SetIs l now sq id tm x l' sq' ∧ RwAt w' M B now a' cap' l' sq' ∧ RwF w w' M (Value.slice a l.length cap).ownBlock := by
  have H := Hid.mk h
  have hf := h.few
  have HT := Hid.mk (tms_of_own h.own)
  obtain ⟨i112, hi, hz0, hz1, hz2⟩ := info_parts info112
  have HI := Hid.mk (And.intro hi (And.intro hz0 (And.intro hz1 hz2)))
  clear h hi hz0 hz1 hz2
  go_enter Tryd.func37, Tryd.ntmps37
  go_wp2_with fail
  go_loopw [7] (fun iv wr => ∃ k : Nat, iv = .int .i64 k ∧ k ≤ l.length ∧ ¬ hasId l id k ∧ Below w.heap.size w wr) (fun iv _ => l.length - (intOf iv).toNat)
  case atStart => exact ⟨0, rfl, Nat.zero_le _, fun ⟨j, hj, _⟩ => by omega, Below.refl _ _⟩
  case round =>
    obtain ⟨k, rfl, hk, hno, hbl⟩ := hrel
    rename World => w1
    have HW1 := Hid.mk (H.out.keep hbl)
    have c1 := HW1.out.c1
    have HBL := Hid.mk hbl
    have HNO := Hid.mk hno
    clear hno
    by_cases h1 : k < l.length
    · rcases (HT.out.keep hbl) with h0 | ⟨b0, o, rfl, hcap, hmax, _, hc⟩
      · omega
      unfold maxLen at hmax
      obtain ⟨x0, _, _⟩ := hc k h1
      clear hc hbl
      by_cases h2 : (l.getD k .z).id = id
      · have HAS : Hid (hasId l id l.length) := Hid.mk ⟨k, h1, h2⟩
        rw [h2] at x0
        clear h2
        go_wp2_with fail
        go_ret
        exact ⟨8, _, _, _, _, rfl, Or.inl ⟨HAS.out, rfl, rfl, rfl⟩, HW1.out, RwF.of_below HBL.out⟩
      · have hx : ((l.getD k .z).id == id) = false := by simpa using h2
        have HN2 : Hid (¬ hasId l id (k + 1)) := Hid.mk fun ⟨j, hj, hj2⟩ => by
          by_cases e : j = k
          · subst e; exact h2 hj2
          · exact HNO.out ⟨j, by omega, hj2⟩
        generalize (l.getD k .z).id = ik at *
        clear h2
        go_wp2_with fail
        go_roundw
        case rel => exact ⟨k + 1, by go_num, by omega, HN2.out, HBL.out⟩
        case measure => simp [intOf]; omega
    · obtain rfl : k = l.length := by omega
      clear hbl
      by_cases h3 : l.length = 200
      · have c1' := c1
        rw [h3] at c1'
        go_wp2_with fail
        go_ret
        exact ⟨5, _, _, _, _, rfl, Or.inr (Or.inl ⟨HNO.out, h3, rfl, rfl, rfl⟩), HW1.out, RwF.of_below HBL.out⟩
      · have c0 := HW1.out.c0
        have c2 := HW1.out.c2
        have f2 := HW1.out.f2
        have HW2 := Hid.mk (HW1.out.setSq (sq + 1))
        have HT2 : Hid (RwF w (w1.setCell ⟨M, 2, none⟩ (.int .i64 (sq + 1))) M (Value.slice a l.length cap).ownBlock) := Hid.mk ((RwF.of_below HBL.out).trans (RwF.setM w1 M 2 (.int .i64 (sq + 1)) _))
        have hM := H.out.mb
        have hbs := HW1.out.bs
        have hob : Hid (∀ z, z < B → some z ≠ (Value.slice a l.length cap).ownBlock) := Hid.mk fun z hz e => by have := (H.out.own.lt z e.symm).1; omega
        have hl2 : l.length < 200 := by omega
        have hwr : IntKind.i64.wrap (sq + 1) = sq + 1 := by rw [IntKind.wrap_i64]; omega
        have m1 := HW2.out.c1
        have m2 := HW2.out.c2
        have m3 := HW2.out.f1
        clear hk HT hf
        by_cases h4 : tm ≤ now
        case pos =>
          by_cases h5 : now + 1 > 4611686018427387904
          case pos =>
            have HC : Hid (4611686018427387904 = clampT now tm) := Hid.mk (by unfold clampT; rw [if_pos h4, if_pos h5])
            go_wp2_with fail
            generalize hw2 : w1.setCell ⟨M, 2, none⟩ (.int .i64 (sq + 1)) = w2 at *
            have hbs2 := HW2.out.bs
            have m1a := cell_later (((Below.refl w2.heap.size w2).alloc (Nat.le_refl _) (.cells #[.int .i64 id, .int .u64 4611686018427387904, .int .i64 (sq + 1)] 112)).drew) m1
            have m1b := cell_later ((Below.refl w2.heap.size w2).alloc (Nat.le_refl _) (.cells #[.int .i64 id, .int .u64 4611686018427387904, .int .i64 (sq + 1)] 112)) m1
            go_region_law ((refine step_append_lies _ (by rfl) _ _ _ (by rfl) B 112 i112 _ 3 24 Tryd.underlying45 HI.out.1 HI.out.2.1 HI.out.2.2.1 HI.out.2.2.2 rfl (by omega) (.slice a l.length cap) l.length (tmL l) (by rfl) ((HW2.out.own.alloc _).drew) ⟨w2.heap.size, 0, none⟩ 1 1 [.int .i64 id, .int .u64 4611686018427387904, .int .i64 (sq + 1)] (by rfl) (by rfl) (World.news_of_block (cs := #[.int .i64 id, .int .u64 4611686018427387904, .int .i64 (sq + 1)]) (t := 112) (fr := (0, 0)) (heap_alloc_new w2 _)) (by simp [Value.oneCell']) (by omega) (by unfold maxLen; omega) (by omega) (by simp; omega) (w2.heap.size + 1) (by simp) ?_; intro gg gcap w7 hown7 hgrow hat hlt; have s1 := (hgrow.cell_far ⟨M, 1, none⟩ (by simp; omega) (hob.out M hM)).trans (cell_later (((Below.refl w2.heap.size w2).alloc (Nat.le_refl _) _).drew) m1); have sz := (hgrow.frozen_far ⟨M, 1, none⟩ (by simp; omega) (hob.out M hM)).trans (((((Below.refl w2.heap.size w2).alloc (Nat.le_refl _) (.cells #[.int .i64 id, .int .u64 4611686018427387904, .int .i64 (sq + 1)] 112)).drew).frozen (p := ⟨M, 1, none⟩) (by simp only []; omega)).trans m3)))
            all_goals
              obtain ⟨k1, k2⟩ := HW2.out.more (t := ⟨id, 4611686018427387904, sq + 1⟩) hl2 hown7 hgrow
              have HK := Hid.mk (And.intro k1 k2)
              clear k1 k2 hown7 hgrow hat hlt s1 sz m1 m1a m1b m2 m3
              go_wp2_with fail
              go_ret
              exact ⟨0, _, _, _, _, rfl, Or.inr (Or.inr ⟨HNO.out, h3, rfl, by rw [← HC.out], rfl⟩), HK.out.1, HT2.out.trans HK.out.2⟩
          case neg =>
            have HC : Hid ((now + 1) = clampT now tm) := Hid.mk (by unfold clampT; rw [if_pos h4, if_neg h5])
            go_wp2_with fail
            generalize hw2 : w1.setCell ⟨M, 2, none⟩ (.int .i64 (sq + 1)) = w2 at *
            have hbs2 := HW2.out.bs
            have m1a := cell_later (((Below.refl w2.heap.size w2).alloc (Nat.le_refl _) (.cells #[.int .i64 id, .int .u64 (now + 1), .int .i64 (sq + 1)] 112)).drew) m1
            have m1b := cell_later ((Below.refl w2.heap.size w2).alloc (Nat.le_refl _) (.cells #[.int .i64 id, .int .u64 (now + 1), .int .i64 (sq + 1)] 112)) m1
            go_region_law ((refine step_append_lies _ (by rfl) _ _ _ (by rfl) B 112 i112 _ 3 24 Tryd.underlying45 HI.out.1 HI.out.2.1 HI.out.2.2.1 HI.out.2.2.2 rfl (by omega) (.slice a l.length cap) l.length (tmL l) (by rfl) ((HW2.out.own.alloc _).drew) ⟨w2.heap.size, 0, none⟩ 1 1 [.int .i64 id, .int .u64 (now + 1), .int .i64 (sq + 1)] (by rfl) (by rfl) (World.news_of_block (cs := #[.int .i64 id, .int .u64 (now + 1), .int .i64 (sq + 1)]) (t := 112) (fr := (0, 0)) (heap_alloc_new w2 _)) (by simp [Value.oneCell']) (by omega) (by unfold maxLen; omega) (by omega) (by simp; omega) (w2.heap.size + 1) (by simp) ?_; intro gg gcap w7 hown7 hgrow hat hlt; have s1 := (hgrow.cell_far ⟨M, 1, none⟩ (by simp; omega) (hob.out M hM)).trans (cell_later (((Below.refl w2.heap.size w2).alloc (Nat.le_refl _) _).drew) m1); have sz := (hgrow.frozen_far ⟨M, 1, none⟩ (by simp; omega) (hob.out M hM)).trans (((((Below.refl w2.heap.size w2).alloc (Nat.le_refl _) (.cells #[.int .i64 id, .int .u64 (now + 1), .int .i64 (sq + 1)] 112)).drew).frozen (p := ⟨M, 1, none⟩) (by simp only []; omega)).trans m3)))
            all_goals
              obtain ⟨k1, k2⟩ := HW2.out.more (t := ⟨id, (now + 1), sq + 1⟩) hl2 hown7 hgrow
              have HK := Hid.mk (And.intro k1 k2)
              clear k1 k2 hown7 hgrow hat hlt s1 sz m1 m1a m1b m2 m3
              go_wp2_with fail
              go_ret
              exact ⟨0, _, _, _, _, rfl, Or.inr (Or.inr ⟨HNO.out, h3, rfl, by rw [← HC.out], rfl⟩), HK.out.1, HT2.out.trans HK.out.2⟩
        case neg =>
          by_cases h5 : tm > 4611686018427387904
          case pos =>
            have HC : Hid (4611686018427387904 = clampT now tm) := Hid.mk (by unfold clampT; rw [if_neg h4, if_pos h5])
            go_wp2_with fail
            generalize hw2 : w1.setCell ⟨M, 2, none⟩ (.int .i64 (sq + 1)) = w2 at *
            have hbs2 := HW2.out.bs
            have m1a := cell_later (((Below.refl w2.heap.size w2).alloc (Nat.le_refl _) (.cells #[.int .i64 id, .int .u64 4611686018427387904, .int .i64 (sq + 1)] 112)).drew) m1
            have m1b := cell_later ((Below.refl w2.heap.size w2).alloc (Nat.le_refl _) (.cells #[.int .i64 id, .int .u64 4611686018427387904, .int .i64 (sq + 1)] 112)) m1
            go_region_law ((refine step_append_lies _ (by rfl) _ _ _ (by rfl) B 112 i112 _ 3 24 Tryd.underlying45 HI.out.1 HI.out.2.1 HI.out.2.2.1 HI.out.2.2.2 rfl (by omega) (.slice a l.length cap) l.length (tmL l) (by rfl) ((HW2.out.own.alloc _).drew) ⟨w2.heap.size, 0, none⟩ 1 1 [.int .i64 id, .int .u64 4611686018427387904, .int .i64 (sq + 1)] (by rfl) (by rfl) (World.news_of_block (cs := #[.int .i64 id, .int .u64 4611686018427387904, .int .i64 (sq + 1)]) (t := 112) (fr := (0, 0)) (heap_alloc_new w2 _)) (by simp [Value.oneCell']) (by omega) (by unfold maxLen; omega) (by omega) (by simp; omega) (w2.heap.size + 1) (by simp) ?_; intro gg gcap w7 hown7 hgrow hat hlt; have s1 := (hgrow.cell_far ⟨M, 1, none⟩ (by simp; omega) (hob.out M hM)).trans (cell_later (((Below.refl w2.heap.size w2).alloc (Nat.le_refl _) _).drew) m1); have sz := (hgrow.frozen_far ⟨M, 1, none⟩ (by simp; omega) (hob.out M hM)).trans (((((Below.refl w2.heap.size w2).alloc (Nat.le_refl _) (.cells #[.int .i64 id, .int .u64 4611686018427387904, .int .i64 (sq + 1)] 112)).drew).frozen (p := ⟨M, 1, none⟩) (by simp only []; omega)).trans m3)))
            all_goals
              obtain ⟨k1, k2⟩ := HW2.out.more (t := ⟨id, 4611686018427387904, sq + 1⟩) hl2 hown7 hgrow
              have HK := Hid.mk (And.intro k1 k2)
              clear k1 k2 hown7 hgrow hat hlt s1 sz m1 m1a m1b m2 m3
              go_wp2_with fail
              go_ret
              exact ⟨0, _, _, _, _, rfl, Or.inr (Or.inr ⟨HNO.out, h3, rfl, by rw [← HC.out], rfl⟩), HK.out.1, HT2.out.trans HK.out.2⟩
          case neg =>
            have HC : Hid (tm = clampT now tm) := Hid.mk (by unfold clampT; rw [if_neg h4, if_neg h5])
            go_wp2_with fail
            generalize hw2 : w1.setCell ⟨M, 2, none⟩ (.int .i64 (sq + 1)) = w2 at *
            have hbs2 := HW2.out.bs
            have m1a := cell_later (((Below.refl w2.heap.size w2).alloc (Nat.le_refl _) (.cells #[.int .i64 id, .int .u64 tm, .int .i64 (sq + 1)] 112)).drew) m1
            have m1b := cell_later ((Below.refl w2.heap.size w2).alloc (Nat.le_refl _) (.cells #[.int .i64 id, .int .u64 tm, .int .i64 (sq + 1)] 112)) m1
            go_region_law ((refine step_append_lies _ (by rfl) _ _ _ (by rfl) B 112 i112 _ 3 24 Tryd.underlying45 HI.out.1 HI.out.2.1 HI.out.2.2.1 HI.out.2.2.2 rfl (by omega) (.slice a l.length cap) l.length (tmL l) (by rfl) ((HW2.out.own.alloc _).drew) ⟨w2.heap.size, 0, none⟩ 1 1 [.int .i64 id, .int .u64 tm, .int .i64 (sq + 1)] (by rfl) (by rfl) (World.news_of_block (cs := #[.int .i64 id, .int .u64 tm, .int .i64 (sq + 1)]) (t := 112) (fr := (0, 0)) (heap_alloc_new w2 _)) (by simp [Value.oneCell']) (by omega) (by unfold maxLen; omega) (by omega) (by simp; omega) (w2.heap.size + 1) (by simp) ?_; intro gg gcap w7 hown7 hgrow hat hlt; have s1 := (hgrow.cell_far ⟨M, 1, none⟩ (by simp; omega) (hob.out M hM)).trans (cell_later (((Below.refl w2.heap.size w2).alloc (Nat.le_refl _) _).drew) m1); have sz := (hgrow.frozen_far ⟨M, 1, none⟩ (by simp; omega) (hob.out M hM)).trans (((((Below.refl w2.heap.size w2).alloc (Nat.le_refl _) (.cells #[.int .i64 id, .int .u64 tm, .int .i64 (sq + 1)] 112)).drew).frozen (p := ⟨M, 1, none⟩) (by simp only []; omega)).trans m3)))
            all_goals
              obtain ⟨k1, k2⟩ := HW2.out.more (t := ⟨id, tm, sq + 1⟩) hl2 hown7 hgrow
              have HK := Hid.mk (And.intro k1 k2)
              clear k1 k2 hown7 hgrow hat hlt s1 sz m1 m1a m1b m2 m3
              go_wp2_with fail
              go_ret
              exact ⟨0, _, _, _, _, rfl, Or.inr (Or.inr ⟨HNO.out, h3, rfl, by rw [← HC.out], rfl⟩), HK.out.1, HT2.out.trans HK.out.2⟩
end Go.Proofs.YtgdcjccbdmcebaaDoor
