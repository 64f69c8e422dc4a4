/- The document's wheel: Cancel. -/
import Derived.Test.YtgdcjccbdmcebaaDoorHTimS
namespace Go.Proofs.YtgdcjccbdmcebaaDoor
open Go.RowKit
set_option maxRecDepth 100000

theorem tmL_take (l : List Tm) (k : Nat) : tmL (l.take k) = (tmL l).take (k * 3) := by
  induction l generalizing k with
  | nil => simp [tmL]
  | cons t r ih =>
    cases k with
    | zero => simp [tmL]
    | succ k =>
      have e : ∀ s, tmL (t :: s) = tmV t ++ tmL s := fun _ => rfl
      rw [List.take_succ_cons, e, e, ih, List.take_append]
      have h3 : (tmV t).length = 3 := rfl
      have h4 : List.take ((k + 1) * 3) (tmV t) = tmV t := List.take_of_length_le (by rw [h3]; omega)
      rw [h4, h3, show (k + 1) * 3 - 3 = k * 3 by omega]
theorem tmL_drop (l : List Tm) (k : Nat) : tmL (l.drop k) = (tmL l).drop (k * 3) := by
  induction l generalizing k with
  | nil => simp [tmL]
  | cons t r ih =>
    cases k with
    | zero => simp [tmL]
    | succ k =>
      have e : ∀ s, tmL (t :: s) = tmV t ++ tmL s := fun _ => rfl
      rw [List.drop_succ_cons, e, ih, List.drop_append]
      have h3 : (tmV t).length = 3 := rfl
      have h4 : List.drop ((k + 1) * 3) (tmV t) = [] := List.drop_of_length_le (by rw [h3]; omega)
      rw [h4, h3, show (k + 1) * 3 - 3 = k * 3 by omega]
      rfl
/-- Another list is stored. -/
theorem RwAt.put {w w3 : World} {M B : Nat} {now : Int} {a a' : Option Addr} {cap cap' : Nat} {l l' : List Tm} {sq : Int} {n' : Nat} (h : RwAt w M B now a cap l sq) (hl : l'.length ≤ 200) (hn : l'.length = n') (hown : w3.ownsRow B 112 3 (.slice a' n' cap') n' (tmL l')) (ho : w3.os = w.os) (ht : w3.tape = w.tape) (hp : w3.output = w.output) (hs : w.heap.size ≤ w3.heap.size) (hblk : ∀ k, k < w.heap.size → w3.heap[k]? = w.heap[k]?) :
    RwAt (w3.setCell ⟨M, 1, none⟩ (.slice a' n' cap')) M B now a' cap' l' sq ∧ RwF w (w3.setCell ⟨M, 1, none⟩ (.slice a' n' cap')) M none := by
  subst hn
  have hb := hblk M (Nat.lt_of_lt_of_le h.mb h.bs)
  refine ⟨⟨?_, ?_, ?_, ?_, ?_, ?_, ?_, h.mb, by have := h.bs; simp [World.setCell]; omega, hl⟩, ⟨ho, ht, hp, by simpa [World.setCell] using hs, fun k hk hkM _ => ?_⟩⟩
  · exact (cell_setCell_off w3 M 1 0 _ (by decide)).trans ((World.cell?_of_block (a := ⟨M, 0, none⟩) hb).trans h.c0)
  · exact World.cell?_setCell_same _ _ _ ((World.cell?_of_block (a := ⟨M, 1, none⟩) hb).trans h.c1)
  · exact (cell_setCell_off w3 M 1 2 _ (by decide)).trans ((World.cell?_of_block (a := ⟨M, 2, none⟩) hb).trans h.c2)
  · rw [World.frozen?_setCell]; exact (World.frozen?_of_block (a := ⟨M, 0, none⟩) hb).trans h.f0
  · rw [World.frozen?_setCell]; exact (World.frozen?_of_block (a := ⟨M, 1, none⟩) hb).trans h.f1
  · rw [World.frozen?_setCell]; exact (World.frozen?_of_block (a := ⟨M, 2, none⟩) hb).trans h.f2
  · exact ownsRow_setCell_below hown h.mb _
  · exact (Below.heap_setCell w3 ⟨M, 1, none⟩ _ k (by simpa using hkM)).trans (hblk k hk)
/-- Where the timers lie, cell by cell. -/
theorem RwAt.cells {w : World} {M B : Nat} {now : Int} {a : Option Addr} {cap : Nat} {l : List Tm} {sq : Int} (h : RwAt w M B now a cap l sq) (h0 : l.length ≠ 0) : ∃ g, a = some ⟨g, 0, none⟩ ∧ B ≤ g ∧ g < w.heap.size ∧ l.length ≤ cap ∧ cap ≤ maxLen ∧ ∀ j, j < l.length * 3 → w.cell? ⟨g, j, none⟩ = (tmL l)[j]? := by
  rcases h.own.2 with ⟨_, h2⟩ | ⟨g, cap2, cur, h2, hg, hh, h3, h4, h5, h6⟩
  · exact absurd h2 h0
  · obtain ⟨h7, _, h8⟩ : a = some ⟨g, 0, none⟩ ∧ l.length = l.length ∧ cap = cap2 := by simpa using h2
    subst h7 h8
    obtain ⟨hlt, _⟩ := Array.getElem?_eq_some_iff.1 hh
    exact ⟨g, rfl, hg, hlt, h3, h4, fun j hj => h.own.cellAt j hj⟩

set_option maxHeartbeats 8000000 in
theorem rcancel_any (w : World) (M B : Nat) (now : Int) (a : Option Addr) (cap : Nat) (l : List Tm) (sq id : Int) (h : RwAt w M B now a cap l sq) :
    Calls Tryd.prog 38 #[.pointer (some ⟨M, 0, none⟩), .int .i64 id] w fun e w' => ∃ (x : Int) (a' : Option Addr) (cap' : Nat) (l' : List Tm), e = .returned (.int .i64 x) ∧ CanIs l id x l' ∧ RwAt w' M B now a' cap' l' sq ∧ RwF w w' M none := by
  have H := Hid.mk h
  have hf := h.few
  have HT := Hid.mk (tms_of_own h.own)
  obtain ⟨i112, hi, hz0, hz1, hz2⟩ := info_parts info112
  have HI := Hid.mk (And.intro hi (And.intro hz0 (And.intro hz1 hz2)))
  clear h hi hz0 hz1 hz2
  go_enter Tryd.func38, Tryd.ntmps38
  go_wp2_with fail
  go_loopw [5] (fun iv wr => ∃ k : Nat, iv = .int .i64 k ∧ k ≤ l.length ∧ ¬ hasId l id k ∧ Below w.heap.size w wr) (fun iv _ => l.length - (intOf iv).toNat)
  case atStart => exact ⟨0, rfl, Nat.zero_le _, fun ⟨j, hj, _⟩ => by omega, Below.refl _ _⟩
  case round =>
    obtain ⟨k, rfl, hk, hno, hbl⟩ := hrel
    rename World => w1
    have HW1 := Hid.mk (H.out.keep hbl)
    have c1 := HW1.out.c1
    have HBL := Hid.mk hbl
    have HNO := Hid.mk hno
    clear hno
    by_cases h1 : k < l.length
    · rcases (HT.out.keep hbl) with h0 | ⟨b0, o, rfl, hcap, hmax, _, hc⟩
      · omega
      unfold maxLen at hmax
      obtain ⟨x0, _, _⟩ := hc k h1
      clear hc hbl
      by_cases h2 : (l.getD k .z).id = id
      · obtain ⟨g, hg0, hgB, hgs, _, _, hcell⟩ := HW1.out.cells (by omega)
        obtain ⟨rfl, rfl⟩ : b0 = g ∧ o = 0 := by simpa using hg0
        have HFOUND : Hid (CanIs l id 0 (l.take k ++ l.drop (k + 1))) := Hid.mk (Or.inl ⟨k, h1, h2, fun j hj he => HNO.out ⟨j, hj, he⟩, rfl, rfl⟩)
        rw [h2, Nat.zero_add] at x0
        have hn1 : Hid (∀ (j : Nat) (u : Value), (tmL (l.take k))[j]? = some u → w1.cell? ((⟨b0, 0, none⟩ : Addr).add j) = some u) := Hid.mk fun j u hj => by
          have hjl : j < k * 3 := by
            have := (List.getElem?_eq_some_iff.1 hj).1
            rw [tmL_length, List.length_take] at this
            omega
          rw [addr_add, Nat.zero_add, hcell j (by omega), ← hj, tmL_take, List.getElem?_take_of_lt hjl]
        have hn2 : Hid (∀ (j : Nat) (u : Value), (tmL (l.drop (k + 1)))[j]? = some u → w1.cell? ((⟨b0, (k + 1) * 3, none⟩ : Addr).add j) = some u) := Hid.mk fun j u hj => by
          have hjl : j < (l.length - (k + 1)) * 3 := by
            have := (List.getElem?_eq_some_iff.1 hj).1
            rwa [tmL_length, List.length_drop] at this
          rw [addr_add, hcell _ (by omega), ← hj, tmL_drop, List.getElem?_drop]
        have hbs := HW1.out.bs
        have hM := HW1.out.mb
        have hMs : M < w1.heap.size := by omega
        have hlen1 : (l.take k).length = k := by rw [List.length_take]; omega
        have ht1 : (tmL (l.take k)).length = k * 3 := by rw [tmL_length, hlen1]
        clear hcell h2 hg0
        by_cases hcap1 : cap = k + 1
        case neg =>
          have ht2 : (tmL (l.drop (k + 1))).length = (l.length - (k + 1)) * 3 := by rw [tmL_length, List.length_drop]
          go_wp2_with (first | (at_builtin; refine wpList_append_own _ rfl (.const (.slice none 0 0)) (.tmp 31) 45 rfl w1.heap.size 112 i112 (.agg #[.int .i64 0, .int .u64 0, .int .i64 0]) 3 24 Tryd.underlying45 HI.out.1 HI.out.2.1 HI.out.2.2.1 HI.out.2.2.2 rfl (by decide) (.slice none 0 0) 0 [] rfl (World.ownsRow_nil _ _ _ _) ⟨b0, 0, none⟩ k cap (tmL (l.take k)) rfl ht1 hn1.out (tmL_ones _) (by unfold maxLen; omega) (by omega) (by omega) ?_; intro v2 w2 hown2 hgrow2 hiff2; clear hiff2; rw [Nat.zero_add, List.nil_append] at hown2; obtain ⟨xa, xc, rfl⟩ := own_slice hown2; have hn3 : Hid (∀ (j : Nat) (u : Value), (tmL (l.drop (k + 1)))[j]? = some u → w2.cell? ((⟨b0, (k + 1) * 3, none⟩ : Addr).add j) = some u) := Hid.mk (fun j u hj => by rw [addr_add]; exact hgrow2.cell (a := ⟨b0, (k + 1) * 3 + j, none⟩) (by have := hn2.out j u hj; rwa [addr_add] at this) (by simp [Value.ownBlock])); have HO2 := Hid.mk (And.intro hown2 hgrow2); have q1 := (hgrow2.cell (a := ⟨M, 1, none⟩) c1 (by simp [Value.ownBlock])); have hs2 := hgrow2.size; clear hown2 hgrow2) | (at_builtin; refine wpList_append_own _ rfl (.tmp 34) (.tmp 41) 45 rfl w1.heap.size 112 i112 (.agg #[.int .i64 0, .int .u64 0, .int .i64 0]) 3 24 Tryd.underlying45 HI.out.1 HI.out.2.1 HI.out.2.2.1 HI.out.2.2.2 rfl (by decide) (.slice xa k xc) k (tmL (l.take k)) rfl HO2.out.1 ⟨b0, (k + 1) * 3, none⟩ (l.length - (k + 1)) (cap - (k + 1)) (tmL (l.drop (k + 1))) rfl ht2 hn3.out (tmL_ones _) (by unfold maxLen; omega) (by omega) (by omega) ?_; intro v3 w3 hown3 hgrow3 hiff3; clear hiff3; obtain ⟨ya, yc, rfl⟩ := own_slice hown3; have hblk : ∀ z, z < w1.heap.size → w3.heap[z]? = w1.heap[z]? := (fun z hz => (hgrow3.block z (by omega) (fun e => by have := (HO2.out.1.lt z e.symm).1; omega)).trans (HO2.out.2.block z hz (by simp [Value.ownBlock]))); have q3 := (World.cell?_of_block (a := ⟨M, 1, none⟩) (hblk M hMs)).trans c1; have z3 := (World.frozen?_of_block (a := ⟨M, 1, none⟩) (hblk M hMs)).trans HW1.out.f1; have HO3 := Hid.mk (And.intro hown3 (And.intro hgrow3 hblk)); clear hown3 hgrow3 hblk))
          obtain ⟨k1, k2⟩ := HW1.out.put (l' := l.take k ++ l.drop (k + 1)) (n' := k + (l.length - (k + 1))) (by simp; omega) (by simp; omega) (by rw [tmL_append]; exact own_base HO3.out.1 hbs) (HO3.out.2.1.os.trans HO2.out.2.os) (HO3.out.2.1.tape.trans HO2.out.2.tape) (HO3.out.2.1.output.trans HO2.out.2.output) (Nat.le_trans hs2 HO3.out.2.1.size) HO3.out.2.2
          have HK := Hid.mk (And.intro k1 k2)
          clear k1 k2 q1 q3 z3 c1
          go_ret
          exact ⟨0, _, _, _, rfl, HFOUND.out, HK.out.1, (RwF.of_below HBL.out).trans HK.out.2⟩
        case pos =>
          subst hcap1
          have hll : l.length = k + 1 := by omega
          go_wp2_with (first | (at_builtin; refine wpList_append_own _ rfl (.const (.slice none 0 0)) (.tmp 31) 45 rfl w1.heap.size 112 i112 (.agg #[.int .i64 0, .int .u64 0, .int .i64 0]) 3 24 Tryd.underlying45 HI.out.1 HI.out.2.1 HI.out.2.2.1 HI.out.2.2.2 rfl (by decide) (.slice none 0 0) 0 [] rfl (World.ownsRow_nil _ _ _ _) ⟨b0, 0, none⟩ k (k + 1) (tmL (l.take k)) rfl ht1 hn1.out (tmL_ones _) (by unfold maxLen; omega) (by omega) (by omega) ?_; intro v2 w2 hown2 hgrow2 hiff2; clear hiff2; rw [Nat.zero_add, List.nil_append] at hown2; obtain ⟨xa, xc, rfl⟩ := own_slice hown2; have HO2 := Hid.mk (And.intro hown2 hgrow2); have q1 := (hgrow2.cell (a := ⟨M, 1, none⟩) c1 (by simp [Value.ownBlock])); have hs2 := hgrow2.size; clear hown2 hgrow2) | (at_builtin; refine wpList_append_own _ rfl (.tmp 34) (.tmp 41) 45 rfl w1.heap.size 112 i112 (.agg #[.int .i64 0, .int .u64 0, .int .i64 0]) 3 24 Tryd.underlying45 HI.out.1 HI.out.2.1 HI.out.2.2.1 HI.out.2.2.2 rfl (by decide) (.slice xa k xc) k (tmL (l.take k)) rfl HO2.out.1 ⟨b0, 0, none⟩ 0 0 [] rfl rfl (fun j u hj => by simp at hj) (fun u hu => by cases hu) (by unfold maxLen; omega) (by omega) (by omega) ?_; intro v3 w3 hown3 hgrow3 hiff3; clear hiff3; rw [Nat.add_zero, List.append_nil] at hown3; obtain ⟨ya, yc, rfl⟩ := own_slice hown3; have hblk : ∀ z, z < w1.heap.size → w3.heap[z]? = w1.heap[z]? := (fun z hz => (hgrow3.block z (by omega) (fun e => by have := (HO2.out.1.lt z e.symm).1; omega)).trans (HO2.out.2.block z hz (by simp [Value.ownBlock]))); have q3 := (World.cell?_of_block (a := ⟨M, 1, none⟩) (hblk M hMs)).trans c1; have z3 := (World.frozen?_of_block (a := ⟨M, 1, none⟩) (hblk M hMs)).trans HW1.out.f1; have HO3 := Hid.mk (And.intro hown3 (And.intro hgrow3 hblk)); clear hown3 hgrow3 hblk))
          have hdn : l.drop (k + 1) = [] := List.drop_of_length_le (by omega)
          obtain ⟨k1, k2⟩ := HW1.out.put (l' := l.take k ++ l.drop (k + 1)) (n' := k) (by rw [hdn, List.append_nil, hlen1]; omega) (by rw [hdn, List.append_nil, hlen1]) (by rw [hdn, List.append_nil]; exact own_base HO3.out.1 hbs) (HO3.out.2.1.os.trans HO2.out.2.os) (HO3.out.2.1.tape.trans HO2.out.2.tape) (HO3.out.2.1.output.trans HO2.out.2.output) (Nat.le_trans hs2 HO3.out.2.1.size) HO3.out.2.2
          have HK := Hid.mk (And.intro k1 k2)
          clear k1 k2 q1 q3 z3 c1
          go_ret
          exact ⟨0, _, _, _, rfl, HFOUND.out, HK.out.1, (RwF.of_below HBL.out).trans HK.out.2⟩
      · have hx : ((l.getD k .z).id == id) = false := by simpa using h2
        have HN2 : Hid (¬ hasId l id (k + 1)) := Hid.mk fun ⟨j, hj, hj2⟩ => by
          by_cases e : j = k
          · subst e; exact h2 hj2
          · exact HNO.out ⟨j, by omega, hj2⟩
        generalize (l.getD k .z).id = ik at *
        clear h2
        go_wp2_with fail
        go_roundw
        case rel => exact ⟨k + 1, by go_num, by omega, HN2.out, HBL.out⟩
        case measure => simp [intOf]; omega
    · obtain rfl : k = l.length := by omega
      clear hbl
      go_wp2_with fail
      go_ret
      exact ⟨8, _, _, _, rfl, Or.inr ⟨HNO.out, rfl, rfl⟩, HW1.out, RwF.of_below HBL.out⟩
end Go.Proofs.YtgdcjccbdmcebaaDoor
