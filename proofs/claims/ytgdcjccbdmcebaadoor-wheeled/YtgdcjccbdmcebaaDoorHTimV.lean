/- The document's wheel: Advance. -/
import Derived.Test.YtgdcjccbdmcebaaDoorHTimA
import Derived.Deep.RegionHeld3
import Derived.Deep.RegionLaw
import Derived.Deep.DrawnRows
import Derived.Deep.AppendLies
namespace Go.Proofs.YtgdcjccbdmcebaaDoor
open Go.RowKit
set_option maxRecDepth 100000
attribute [local go_sem ↓] Go.wp_at_zero Go.wp_at_succ

theorem RwAt.keepB {w w' : World} {M B : Nat} {now : Int} {a : Option Addr} {cap : Nat} {l : List Tm} {sq : Int} (ob : Option Nat) (h : RwAt w M B now a cap l sq) (hs : w.heap.size ≤ w'.heap.size) (hb : ∀ k, k < w.heap.size → some k ≠ ob → w'.heap[k]? = w.heap[k]?) (hM : some M ≠ ob) (ho : ∀ z, (Value.slice a l.length cap).ownBlock = some z → some z ≠ ob) : RwAt w' M B now a cap l sq := by
  have e := hb M (Nat.lt_of_lt_of_le h.mb h.bs) hM
  refine ⟨(World.cell?_of_block (a := ⟨M, 0, none⟩) e).trans h.c0, (World.cell?_of_block (a := ⟨M, 1, none⟩) e).trans h.c1, (World.cell?_of_block (a := ⟨M, 2, none⟩) e).trans h.c2, (World.frozen?_of_block (a := ⟨M, 0, none⟩) e).trans h.f0, (World.frozen?_of_block (a := ⟨M, 1, none⟩) e).trans h.f1, (World.frozen?_of_block (a := ⟨M, 2, none⟩) e).trans h.f2, ?_, h.mb, Nat.le_trans h.bs hs, h.few⟩
  obtain ⟨h1, h2⟩ := h.own
  refine ⟨h1, ?_⟩
  rcases h2 with h2 | ⟨g, c2, cur, hv, hg, hh, hr⟩
  · exact Or.inl h2
  · refine Or.inr ⟨g, c2, cur, hv, hg, ?_, hr⟩
    rw [hb g (by obtain ⟨hlt, _⟩ := Array.getElem?_eq_some_iff.1 hh; exact hlt) (ho g (by rw [hv]; rfl))]
    exact hh
theorem own_ne {w : World} {B1 B2 : Nat} {e1 e2 : TypeId} {s1 s2 n1 n2 : Nat} {v1 v2 : Value} {xs1 xs2 : List Value} (h1 : w.ownsRow B1 e1 s1 v1 n1 xs1) (h2 : w.ownsRow B2 e2 s2 v2 n2 xs2) (he : e1 ≠ e2) : ∀ z, v1.ownBlock = some z → some z ≠ v2.ownBlock := by
  intro z hz hz2
  rcases h1.2 with ⟨rfl, _⟩ | ⟨g, c, cur, rfl, _, hh, _⟩
  · simp [Value.ownBlock] at hz
  · rcases h2.2 with ⟨rfl, _⟩ | ⟨g2, c2, cur2, rfl, _, hh2, _⟩
    · simp [Value.ownBlock] at hz2
    · simp only [Value.ownBlock, Option.some.injEq] at hz hz2
      subst hz
      subst hz2
      rw [hh] at hh2
      simp at hh2
      exact he hh2.2
theorem RwAt.setNow {w : World} {M B : Nat} {now : Int} {a : Option Addr} {cap : Nat} {l : List Tm} {sq : Int} (h : RwAt w M B now a cap l sq) (u : Int) : RwAt (w.setCell ⟨M, 0, none⟩ (.int .u64 u)) M B u a cap l sq :=
  ⟨World.cell?_setCell_same _ _ _ h.c0, (cell_setCell_off w M 0 1 _ (by decide)).trans h.c1, (cell_setCell_off w M 0 2 _ (by decide)).trans h.c2, by rw [World.frozen?_setCell]; exact h.f0, by rw [World.frozen?_setCell]; exact h.f1, by rw [World.frozen?_setCell]; exact h.f2, ownsRow_setCell_below h.own h.mb _, h.mb, by simpa [World.setCell] using h.bs, h.few⟩
def lenV : Value → Nat | .slice _ n _ => n | _ => 0

set_option maxHeartbeats 8000000 in
theorem radvance_any (w : World) (M B : Nat) (now : Int) (a : Option Addr) (cap : Nat) (l : List Tm) (sq ticks : Int) (h : RwAt w M B now a cap l sq) (hr : Rising l) (hap : Apart l) (hnow : 0 ≤ now) (hnow2 : now ≤ 4611686018427387904) (ht : 0 ≤ ticks) (ht2 : ticks < 18446744073709551616) :
    Calls Tryd.prog 40 #[.pointer (some ⟨M, 0, none⟩), .int .u64 ticks] w fun e w' => ∃ (xa : Option Addr) (xc : Nat) (outs : List Fr) (a' : Option Addr) (cap' : Nat) (l' : List Tm), e = .returned (.slice xa outs.length xc) ∧ AdvR l (advTo now ticks) outs l' ∧ (∀ b, bestN l' l'.length = some b → advTo now ticks < (l'.getD b .z).tm) ∧ w'.ownsRow w.heap.size 63 2 (.slice xa outs.length xc) outs.length (frL outs) ∧ RwAt w' M B (advTo now ticks) a' cap' l' sq ∧ RwF w w' M none := by
  have H := Hid.mk h
  have hf := h.few
  have HR := Hid.mk (And.intro hr hap)
  have c0 := h.c0
  obtain ⟨i63, hi, hz0, hz1, hz2⟩ := info_parts info63
  have HI := Hid.mk (And.intro hi (And.intro hz0 (And.intro hz1 hz2)))
  have hMw : M < w.heap.size := Nat.lt_of_lt_of_le h.mb h.bs
  clear h hi hz0 hz1 hz2 hr hap
  go_enter Tryd.func40, Tryd.ntmps40
  go_upto_region 2 with fail
  generalize htt : IntKind.u64.wrap (now + ticks) = tt
  rw [IntKind.wrap_u64] at htt
  go_cut [23] from 8 to 23 (fun v wx => v = .bool (decide (tt < now) || decide (4611686018427387904 < tt)) ∧ wx = w)
  case first =>
    by_cases h1 : tt < now
    · have g1 : decide (tt < now) = true := by simpa using h1
      go_wp2_with fail
      all_goals go_meet
      all_goals exact ⟨by first | (simp [h1]; done) | (simp; omega), rfl⟩
    · have g1 : decide (tt < now) = false := by simpa using h1
      go_wp2_with fail
      all_goals go_meet
      all_goals exact ⟨by simp; omega, rfl⟩
  case rest =>
   obtain ⟨rfl, rfl⟩ := hcut
   rename World => w
   go_upto_if 23 with fail
   go_cut [5] from 8 to 23 (fun v wx => v = .int .u64 (advTo now ticks) ∧ wx = w)
   case first =>
    by_cases h1 : tt < now ∨ 4611686018427387904 < tt
    · have g1 : (decide (tt < now) || decide (4611686018427387904 < tt)) = true := by simpa using h1
      go_wp2_with fail
      all_goals go_meet
      all_goals exact ⟨congrArg (Value.int .u64) (by unfold advTo; rw [if_pos]; omega), rfl⟩
    · have g1 : (decide (tt < now) || decide (4611686018427387904 < tt)) = false := by simpa using h1
      go_wp2_with fail
      all_goals go_meet
      all_goals refine ⟨congrArg (Value.int .u64) ?_, rfl⟩
      all_goals unfold advTo
      all_goals split <;> omega
   case rest =>
    obtain ⟨rfl, rfl⟩ := hcut
    rename World => w
    have HB0 : Hid (Below w.heap.size w w) := Hid.mk (Below.refl _ _)
    obtain ⟨u, hu⟩ : ∃ x, x = advTo now ticks := ⟨_, rfl⟩
    have HU := Hid.mk hu
    rw [← hu]
    clear htt hu c0
    go_wp2_with fail
    go_loopw [6] (fun ov wr => ∃ (xa : Option Addr) (xc : Nat) (outs : List Fr) (a' : Option Addr) (cap' : Nat) (l' : List Tm), ov = .slice xa outs.length xc ∧ AdvR l u outs l' ∧ Rising l' ∧ Apart l' ∧ outs.length + l'.length = l.length ∧ wr.ownsRow w.heap.size 63 2 (.slice xa outs.length xc) outs.length (frL outs) ∧ RwAt wr M B now a' cap' l' sq ∧ RwF w wr M none) (fun ov _ => 201 - lenV ov)
    case atStart => exact ⟨none, 0, [], a, cap, l, rfl, .base, HR.out.1, HR.out.2, by simp, World.ownsRow_nil _ _ _ _, H.out.keep HB0.out, RwF.of_below HB0.out⟩
    case round =>
      obtain ⟨xa, xc, outs, a', cap', l', rfl, hav, hri, hap, hlen, hown, hrw, hfr⟩ := hrel
      rename World => w1
      have HRW := Hid.mk hrw
      have HA := Hid.mk (And.intro hav (And.intro hri hap))
      have HF := Hid.mk hfr
      have HO := Hid.mk hown
      have hmb := hrw.mb
      have hbs := hrw.bs
      clear hav hap hown hfr hrw
      go_upto_region 6 with (go_at_call 57; refine (rfirst_any w1 M B now a' cap' l' sq HRW.out HA.out.2.1).mono ?_; rintro e w2 ⟨rfl, hb2⟩)
      have HB2 := Hid.mk hb2
      have HRW2 := Hid.mk (HRW.out.keep hb2)
      have c1 := HRW2.out.c1
      have HT := tms_of_own HRW2.out.own
      clear hb2
      cases hb : bestN l' l'.length with
      | none =>
        have HBN := Hid.mk hb
        simp only [bestI]
        have c0 := HRW2.out.c0
        have f0 := HRW2.out.f0
        clear hb HT
        go_wp2_with fail
        go_ret
        exact ⟨xa, xc, outs, a', cap', l', rfl, by rw [← HU.out]; exact HA.out.1, fun b hb => (by rw [HBN.out] at hb; cases hb), ownsRow_setCell_below (own_below HO.out HB2.out) hMw _, by rw [← HU.out]; exact HRW2.out.setNow u, (HF.out.trans (RwF.of_below HB2.out)).trans (RwF.setM w2 M 0 _ none)⟩
      | some b =>
        obtain ⟨h1, _, _⟩ := bestN_some hb
        rcases HT with h0 | ⟨b0, o, rfl, hcap, hmax, hbl, hc⟩
        · omega
        obtain ⟨x0, x1, _⟩ := hc b h1
        unfold maxLen at hmax
        have HBN := Hid.mk hb
        simp only [bestI]
        obtain ⟨tb, htb⟩ : ∃ x, x = (l'.getD b .z).tm := ⟨_, rfl⟩
        obtain ⟨ib, hib⟩ : ∃ x, x = (l'.getD b .z).id := ⟨_, rfl⟩
        have HTB := Hid.mk (And.intro htb hib)
        rw [← htb] at x1
        rw [← hib] at x0
        clear hb hc htb hib
        by_cases h2 : u < tb
        · have g1 : decide (u < tb) = true := by simpa using h2
          have g2 : decide ((b : Int) < 0) = false := by simp
          have c0 := HRW2.out.c0
          have f0 := HRW2.out.f0
          go_wp2_with fail
          go_ret
          exact ⟨xa, xc, outs, _, cap', l', rfl, by rw [← HU.out]; exact HA.out.1, fun b2 hb => (by rw [HBN.out] at hb; cases hb; rw [← HU.out, ← HTB.out.1]; exact h2), ownsRow_setCell_below (own_below HO.out HB2.out) hMw _, by rw [← HU.out]; exact HRW2.out.setNow u, (HF.out.trans (RwF.of_below HB2.out)).trans (RwF.setM w2 M 0 _ none)⟩
        · have g1 : decide (u < tb) = false := by simpa using h2
          have g2 : decide ((b : Int) < 0) = false := by simp
          go_upto_region 7 with fail
          have HO2 := Hid.mk (own_below HO.out HB2.out)
          have neM : Hid (some M ≠ (Value.slice xa outs.length xc).ownBlock) := Hid.mk fun e => by have := (HO2.out.lt M e.symm).1; omega
          have neB : Hid (some b0 ≠ (Value.slice xa outs.length xc).ownBlock) := Hid.mk (own_ne HRW2.out.own HO2.out (by decide) b0 rfl)
          have hs2 := HB2.out.size
          have hsw := HF.out.size
          have hMs : M < w2.heap.size := by omega
          have hal : Below w2.heap.size w2 ((w2.alloc (.cells #[.int .i64 ib, .int .u64 tb] 63)).drew) := ((Below.refl _ _).alloc (Nat.le_refl _) _).drew
          have HY := Hid.mk (And.intro (cell_later hal c1) (And.intro (cell_later hal x0) (And.intro (cell_later hal x1) hal)))
          have hol : outs.length < 200 := by omega
          clear hal
          go_region_held3 (fun w' => w'.cell? ⟨M, 1, none⟩ = some (.slice (some ⟨b0, o, none⟩) l'.length cap') ∧ w'.cell? ⟨b0, o + b * 3, none⟩ = some (.int .i64 ib) ∧ w'.cell? ⟨b0, o + b * 3 + 1, none⟩ = some (.int .u64 tb)) (go_keep)
            ((refine step_append_lies _ (by rfl) _ _ _ (by rfl) w.heap.size 63 i63 _ 2 16 Tryd.underlying60 HI.out.1 HI.out.2.1 HI.out.2.2.1 HI.out.2.2.2 rfl (by omega) (.slice xa outs.length xc) outs.length (frL outs) (by rfl) ((HO2.out.alloc _).drew) ⟨w2.heap.size, 0, none⟩ 1 1 [.int .i64 ib, .int .u64 tb] (by rfl) (by rfl) (World.news_of_block (cs := #[.int .i64 ib, .int .u64 tb]) (t := 63) (fr := (0, 0)) (heap_alloc_new w2 _)) (by simp [Value.oneCell']) (by omega) (by unfold maxLen; omega) (by omega) (by simp; omega) (w2.heap.size + 1) (by simp) ?_; intro gg gcap w7 hown7 hgrow hat hlt; have s1 := (hgrow.cell_far ⟨M, 1, none⟩ (by simp; omega) neM.out).trans HY.out.1; have s2 := (hgrow.cell_far ⟨b0, o + b * 3, none⟩ (by simp; omega) neB.out).trans HY.out.2.1; have s3 := (hgrow.cell_far ⟨b0, o + b * 3 + 1, none⟩ (by simp; omega) neB.out).trans HY.out.2.2.1))
          have hs7 : w2.heap.size ≤ w7.heap.size := Nat.le_trans HY.out.2.2.2.size hgrow.size
          have hblk : ∀ k, k < w2.heap.size → some k ≠ (Value.slice xa outs.length xc).ownBlock → w7.heap[k]? = w2.heap[k]? := fun k hk hk2 => (hgrow.block k (by simp; omega) hk2).trans (HY.out.2.2.2.block k hk)
          have HRW7 := Hid.mk (HRW2.out.keepB (w' := w7) (Value.slice xa outs.length xc).ownBlock hs7 hblk neM.out (fun z hz => own_ne HRW2.out.own HO2.out (by decide) z hz))
          have HF7 : Hid (RwF w w7 M none) := Hid.mk ⟨hgrow.os.trans (HY.out.2.2.2.os.trans (HB2.out.os.trans HF.out.os)), hgrow.tape.trans (HY.out.2.2.2.tape.trans (HB2.out.tape.trans HF.out.tape)), hgrow.output.trans (HY.out.2.2.2.output.trans (HB2.out.output.trans HF.out.output)), by omega, fun k hk hm ho => (hblk k (by omega) (fun e => by have := (HO2.out.lt k e.symm).1; omega)).trans ((HB2.out.block k (by omega)).trans (HF.out.block k hk hm ho))⟩
          have HO7 := Hid.mk hown7
          clear hblk hown7 hgrow hat HY
          go_wp2_with (go_at_call 38; refine (rcancel_any w7 M B now (some ⟨b0, o, none⟩) cap' l' sq ib HRW7.out).mono ?_; rintro e w8 ⟨x, a2, cap2, l2, rfl, hcan, hrw8, hfr8⟩; have HC := Hid.mk (And.intro hcan (And.intro hrw8 hfr8)); clear hcan hrw8 hfr8)
          obtain ⟨_, hl2⟩ := CanIs.at' HA.out.2.2 h1 (by rw [← HTB.out.2]; exact HC.out.1)
          subst hl2
          have HAV := Hid.mk (AdvR.step outs l' b HA.out.1 HBN.out (by rw [← HTB.out.1]; omega))
          have hlc := length_cut l' b h1
          go_roundw
          case rel => exact ⟨some ⟨gg, 0, none⟩, gcap, outs ++ [⟨ib, tb⟩], a2, cap2, l'.take b ++ l'.drop (b + 1), by rw [List.length_append]; rfl, by rw [HTB.out.1, HTB.out.2]; exact HAV.out, HA.out.2.1.cut h1, HA.out.2.2.cut h1, by rw [List.length_append, List.length_singleton]; omega, by rw [frL_append, List.length_append]; exact own_F HO7.out HC.out.2.2 hMw (fun z _ => by simp), HC.out.2.1, HF7.out.trans HC.out.2.2⟩
          case measure => simp [lenV]; omega
end Go.Proofs.YtgdcjccbdmcebaaDoor
