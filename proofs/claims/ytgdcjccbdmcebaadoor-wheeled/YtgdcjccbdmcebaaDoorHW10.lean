/- The program's wheel: Advance. -/
import Derived.Test.YtgdcjccbdmcebaaDoorHW9
namespace Go.Proofs.YtgdcjccbdmcebaaDoor
open Go.RowKit
open Go.Maps (keyOf_int_mk)
set_option maxRecDepth 100000
attribute [local go_sem ↓] Go.wp_at_zero Go.wp_at_succ

/-- In the midst of it. -/
def AdvAt (w : World) (P B B3 C : Nat) (l : List Tm) (tt : Nat) (n : Nat) (l' : List Tm) (outs : List Fr) (wr : World) : Prop :=
  WhAt wr P B n l' ∧ n ≤ tt ∧ AdvR l tt outs l' ∧ CameAt wr C B3 outs ∧ outs.length + l'.length = l.length ∧ TabIn wr ∧ PA w wr P B B3

/-- The time turns, and no timer's place with it. -/
theorem WhAt.setNow {w : World} {P B n m : Nat} {l : List Tm} (h : WhAt w P B n l) (hp : ∀ t ∈ l, pl m t.tm.toNat = pl n t.tm.toNat) (hL : Later m l) (hm : m ≤ 4611686018427387904) : WhAt (w.setCell ⟨P, 0, none⟩ (.int .u64 m)) P B m l := by
  obtain ⟨dm, rw_, wd, h1, hdue, hw⟩ := h.mem
  have e : placed m l = placed n l := by funext j; exact placed_congr hp j
  refine ⟨⟨dm, rw_, wd, by rw [e]; exact h1.setNow m, hdue.kept (fun k es c hk _ => Below.heap_setCell w ⟨P, 0, none⟩ _ k (by simp; have := h1.pb; omega)), by rw [e]; exact hw⟩, hm, h.few, hL, h.ids, h.apart⟩
theorem WhAt.keep {w w' : World} {P B n : Nat} {l : List Tm} (h : WhAt w P B n l) (hb : Below w.heap.size w w') : WhAt w' P B n l := by
  obtain ⟨dm, rw_, wd, hp, hdue, hw⟩ := h.mem
  exact ⟨⟨dm, rw_, wd, hp.keep hb, hdue.kept (fun k es c _ e => hb.block k (lt_of_block e)), hw⟩, h.now_, h.few, h.later, h.ids, h.apart⟩
theorem AdvAt.keep {w wr w' : World} {P B B3 C n tt : Nat} {l l' : List Tm} {outs : List Fr} (h : AdvAt w P B B3 C l tt n l' outs wr) (hf : PF wr w' P B) (hw : WhAt w' P B n l') (hB3w : B3 ≤ w.heap.size) (hP3 : P < B3) (hB3 : B3 ≤ C) (hG : 1 < B) (hGP : 1 ≠ P) : AdvAt w P B B3 C l tt n l' outs w' := by
  obtain ⟨_, h2, h3, h4, h5, h6, h7⟩ := h
  exact ⟨hw, h2, h3, h4.pf hf (by omega) hP3, h5, h6.pf hf hG hGP, h7.pf hf hB3w⟩

theorem adv_few (w : World) (l : List Tm) (wr : World) (P B B3 C tt n : Nat) (l' : List Tm) (outs : List Fr) (h : AdvAt w P B B3 C l tt n l' outs wr) (hl : l.length ≤ 200) : outs.length ≤ 200 := by
  have := h.2.2.2.2.1
  omega

set_option maxHeartbeats 8000000 in
theorem wadvance_any (w : World) (P B B3 C now : Nat) (l : List Tm) (ticks : Int) (h : WhAt w P B now l) (hT : TabIn w) (hC : CameAt w C B3 []) (hP3 : P < B3) (hB3 : B3 ≤ C) (hB3w : B3 ≤ w.heap.size) (hG : 1 < B) (hG3 : 1 < B3) (hGP : 1 ≠ P) (h0 : 0 ≤ ticks) (h1 : ticks < 18446744073709551616) :
    Calls Tryd.prog 46 #[.pointer (some ⟨P, 0, none⟩), .int .u64 ticks, .func (.func 47) #[] #[.pointer (some ⟨C, 0, none⟩)]] w fun e w' => ∃ outs l', e = .returned (.tuple #[]) ∧ AdvR l (advTo now ticks) outs l' ∧ (∀ b, bestN l' l'.length = some b → advTo now ticks < (l'.getD b .z).tm) ∧ CameAt w' C B3 outs ∧ WhAt w' P B (advTo now ticks).toNat l' ∧ PA w w' P B B3 := by
  obtain ⟨tt, htt⟩ : ∃ tt : Nat, advTo now ticks = (tt : Int) := ⟨(advTo now ticks).toNat, by have := h.now_; unfold advTo; split <;> omega⟩
  have hntt : now ≤ tt := by have := h.now_; unfold advTo at htt; split at htt <;> omega
  have htm : tt ≤ 4611686018427387904 := by have := h.now_; unfold advTo at htt; split at htt <;> omega
  have e1 : IntKind.u64.wrap (4611686018427387904 - (now : Int)) = 4611686018427387904 - (now : Int) := by have := h.now_; rw [IntKind.wrap_u64]; omega
  have e2 : IntKind.u64.wrap ((now : Int) + min ticks (4611686018427387904 - (now : Int))) = (tt : Int) := by
    have := h.now_
    rw [IntKind.wrap_u64, ← htt]
    unfold advTo
    split <;> omega
  obtain ⟨dm, rw_, wd, hp, _⟩ := h.mem
  have c0 := hp.c0
  have H := Hid.mk h
  have HT := Hid.mk hT
  have HC := Hid.mk hC
  have HTT := Hid.mk htt
  clear h hT hC hp htt
  go_enter Tryd.func46, Tryd.ntmps46
  go_wp2_with fail
  go_region
  all_goals
    have HB0 : Hid (Below w.heap.size w w.drew) := Hid.mk ((Below.refl _ _).drew)
    have HIN : Hid (AdvAt w P B B3 C l tt now l [] w.drew) := Hid.mk (by
      obtain ⟨dm, rw_, wd, hp, hdue, hw⟩ := H.out.mem
      refine ⟨⟨⟨dm, rw_, wd, hp.keep HB0.out, hdue.kept (fun k es c _ e => HB0.out.block k (lt_of_block e)), hw⟩, H.out.now_, H.out.few, H.out.later, H.out.ids, H.out.apart⟩, hntt, .base, ?_, by simp, fun j hj => HT.out j hj, ⟨rfl, rfl, rfl, Nat.le_refl _, fun _ _ _ _ => rfl⟩⟩
      exact ⟨HC.out.cell, HC.out.le⟩)
    clear c0 e1 e2
    go_wp2_with fail
    go_loopw [7] (fun _ wr => ∃ (n : Nat) (l' : List Tm) (outs : List Fr), AdvAt w P B B3 C l tt n l' outs wr) (fun _ wr => meas P wr)
    case atStart => exact ⟨now, l, [], HIN.out⟩
    case round =>
      obtain ⟨n, l', outs, hrel⟩ := hrel
      have HR := Hid.mk hrel
      clear hrel
      obtain ⟨hwh, hntt2, hadv, hcame, hlen, htab, hpa⟩ := HR.out
      obtain ⟨dm2, rw2, wd2, hp2, hdue2, hw2⟩ := hwh.mem
      have hfst := first_any wr P B n dm2 rw2 (placed n l') wd2 hp2 (fun j hj => (hw2 j hj).1) htab
      have HF := Hid.mk hfst
      have HM2 := Hid.mk (And.intro hp2 (And.intro hdue2 hw2))
      have hnn := hwh.now_
      clear hwh hadv hcame hlen htab hpa hp2 hdue2 hw2 hfst
      go_upto_region 2 with (go_at_call 61; refine HF.out.mono ?_; rintro e w1 ⟨L, s, ok, rfl, hfw, hw1⟩; rw [hw1])
      have HFW := Hid.mk hfw
      have c0 := HM2.out.1.c0
      have f0 := HM2.out.1.fz 0
      cases ok with
      | false =>
        have hl0 := Hid.mk (none_of HM2.out.2.2 HR.out.1.later hnn hfw)
        clear hfw
        go_wp2_with fail
        refine bodyPost_ret (results_none rfl _ _ _) rfl ?_
        have hR := HR.out
        have hl := hl0.out
        subst hl
        refine ⟨outs, [], rfl, by rw [HTT.out]; exact hR.2.2.1, fun b hb => by simp [bestN] at hb, ?_, ?_, ?_⟩
        · exact hR.2.2.2.1.pf (PF.setP wr P B 0 _) (by omega) hP3
        · rw [HTT.out]
          exact hR.1.setNow (m := tt) (fun t ht => by cases ht) (fun t ht => by cases ht) htm
        · exact hR.2.2.2.2.2.2.pf (PF.setP wr P B 0 _) hB3w
      | true =>
        obtain ⟨hL11, hs64, hfs⟩ := fst_of HM2.out.2.2 hfw
        obtain ⟨k, hk⟩ : ∃ k, k = L * 64 + s := ⟨_, rfl⟩
        obtain ⟨st, hst⟩ : ∃ st, st = start n k := ⟨_, rfl⟩
        rw [← hk] at hfs
        obtain ⟨b1, b2, b3⟩ := fst_start HR.out.1.later hfs
        rw [← hst] at b1 b2 b3
        have hstart : ∀ wx : World, wx.cell? ⟨P, 0, none⟩ = some (.int .u64 n) → Calls Tryd.prog 62 #[.pointer (some ⟨P, 0, none⟩), .int .i64 L, .int .i64 s] wx fun e w' => e = .returned (.int .u64 (start n (L * 64 + s))) ∧ ∃ q, w' = wx.drewN q := fun wx cx => start_any wx P n L s cx (by omega) (by omega) hs64 (by rw [← hk, ← hst]; omega)
        rw [← hk, ← hst] at hstart
        have HST := Hid.mk hstart
        have HS := Hid.mk (And.intro hfs (And.intro b3 (And.intro hk hst)))
        clear hfw hfs b3 hk hst hstart
        by_cases h2 : tt < st
        · go_wp2_with (go_at_call 62; refine (HST.out wr c0).mono ?_; rintro e w2 ⟨rfl, q, rfl⟩)
          refine bodyPost_ret (results_none rfl _ _ _) rfl ?_
          have hR := HR.out
          have hS := HS.out
          have hbq : Below wr.heap.size wr (wr.drewN q) := ⟨rfl, rfl, rfl, Nat.le_refl _, fun _ _ => rfl⟩
          refine ⟨outs, l', rfl, by rw [HTT.out]; exact hR.2.2.1, fun b hb => ?_, ?_, ?_, ?_⟩
          · rw [HTT.out]
            have := hS.2.1 _ (mem_getD (bestN_some hb).1)
            omega
          · exact (hR.2.2.2.1.pf (PF.of_below (P := P) (B := B) hbq) (by omega) hP3).pf (PF.setP _ P B 0 _) (by omega) hP3
          · rw [HTT.out]
            exact (hR.1.keep hbq).setNow (m := tt) (fun t ht => wait_stay hS.1 hntt2 (by rw [← hS.2.2.2]; exact h2) ht) (fun t ht => ⟨by have := hS.2.1 t ht; omega, (hR.1.later t ht).2⟩) htm
          · exact (hR.2.2.2.2.2.2.pf (PF.of_below (P := P) (B := B) hbq) hB3w).pf (PF.setP _ P B 0 _) hB3w
        · have g1 : decide ((tt : Int) < (st : Int)) = false := decide_eq_false (by omega)
          go_upto_region 4 with (go_at_call 62; refine (HST.out wr c0).mono ?_; rintro e w2 ⟨rfl, q, rfl⟩)
          have hbq : Below wr.heap.size wr (wr.drewN q) := ⟨rfl, rfl, rfl, Nat.le_refl _, fun _ _ => rfl⟩
          go_upto_region 5 with (go_at_call 62; refine (HST.out (wr.drewN q) c0).mono ?_; rintro e w3 ⟨rfl, q2, rfl⟩)
          have hbq3 : Below wr.heap.size wr (wr.drewN (q + q2)) := ⟨rfl, rfl, rfl, Nat.le_refl _, fun _ _ => rfl⟩
          have HP5 := Hid.mk ((HM2.out.1.keep hbq3).setNow st)
          have HD5 : Hid (DueAt ((wr.drewN (q + q2)).setCell ⟨P, 0, none⟩ (.int .u64 st)) B dm2 l') := Hid.mk (HM2.out.2.1.kept (fun k es c hk e => (Below.heap_setCell (wr.drewN (q + q2)) ⟨P, 0, none⟩ _ k (by simp; have := HM2.out.1.pb; omega)).trans rfl))
          have HF5 : Hid (PF wr ((wr.drewN (q + q2)).setCell ⟨P, 0, none⟩ (.int .u64 st)) P B) := Hid.mk ((PF.of_below hbq3).trans (PF.setP _ P B 0 _))
          clear hbq hbq3 c0 f0
          generalize (wr.drewN (q + q2)).setCell ⟨P, 0, none⟩ (.int .u64 st) = w5 at *
          have hk704 : k < 704 := by have := HS.out.2.2.1; omega
          have hwh := HR.out.1
          rcases HD5.out with ⟨_, hl0⟩ | ⟨bm, D, rfl, hbm, hm, hD⟩
          · exfalso
            exact HS.out.1.2 (by rw [hl0]; rfl)
          have HMD := Hid.mk (And.intro hm hD)
          have hap := hwh.apart
          have hids := hwh.ids
          have hlat := hwh.later
          have hfew := hwh.few
          clear hm hD hwh
          by_cases hL0 : L = 0
          · obtain ⟨b, hb, hbest, htb, hplb, r, hplc, _⟩ := fst_low hlat HS.out.1 (by have := HS.out.2.2.1; omega)
            rw [← HS.out.2.2.2] at htb
            have hst2 : placed st l' = placed n l' := by
              funext j
              exact placed_congr (fun t ht => by rw [HS.out.2.2.2]; exact low_stay HS.out.1 (by have := HS.out.2.2.1; omega) ht) j
            obtain ⟨id, hid⟩ : ∃ x, x = (l'.getD b .z).id := ⟨_, rfl⟩
            obtain ⟨i, hi, hi2, hi3, hcut⟩ := placed_cut_all (n := st) (tn := st) hb hap (by omega)
            rw [← hid] at hi2 hi3 hplc
            have hp5 := HP5.out
            rw [← hst2] at hp5
            have hdrop := drop_any w5 P B st st rw2 (placed st l') wd2 bm i D id hp5 HMD.out.1 hbm (by rw [hid]; exact hids b hb) (by rw [hid, ← htb]; exact HMD.out.2.tm b hb) b2 b2 (fun j hj => (HM2.out.2.2 j hj).1) (by have := placed_few st l' (pl st st); omega) hi hi2 hi3
            have HDROP := Hid.mk hdrop
            obtain ⟨a, c, hv⟩ := own_slice (HP5.out.own k hk704)
            have m1 := HP5.out.at_ (L := L) (s := s) HS.out.2.2.1.symm hk704
            obtain ⟨nn, hnn2⟩ : ∃ nn, nn = (placed n l' k).length := ⟨_, rfl⟩
            have hnn3 : 0 < nn := by rw [hnn2, hplc]; simp
            rw [← hnn2] at hv
            rw [hv] at m1
            have hown := HP5.out.own k hk704
            rw [hv, ← hnn2] at hown
            have hcell : ∃ g, a = some ⟨g, 0, none⟩ ∧ w5.cell? ⟨g, 0, none⟩ = some (.int .i64 id) := by
              rcases hown.2 with ⟨_, e2⟩ | ⟨g, cap, cur, e2, _⟩
              · omega
              · obtain ⟨e1, _, e3⟩ : a = some ⟨g, 0, none⟩ ∧ nn = nn ∧ c = cap := by simpa using e2
                subst e1
                refine ⟨g, rfl, ?_⟩
                have := hown.cellAt 0 (by omega)
                rw [this, hplc]
                rfl
            obtain ⟨g, rfl, x0⟩ := hcell
            have g2 : (L : Int) < 11 := by omega
            have g3 : (s : Int) < 64 := by omega
            have g4 : decide (0 < L) = false := decide_eq_false (by omega)
            have g5 : (0 : Int) < (nn : Int) := by omega
            have HB := Hid.mk (And.intro hb (And.intro hbest (And.intro htb (And.intro hst2 (And.intro hid (And.intro hi (And.intro hcut HMD.out.2)))))))
            have HL0 := Hid.mk hL0
            clear hb hbest htb hplb hplc hst2 hid hi hi2 hi3 hcut hp5 hdrop hv hown hnn2 hL0
            have HW2 := Hid.mk HM2.out.2.2
            go_upto_region 9 with (go_at_call 64; refine HDROP.out.mono ?_; rintro e w6 ⟨rfl, v', x', hp', hx, hm', hf'⟩; have HN := Hid.mk (And.intro hp' (And.intro hx (And.intro hm' hf'))); clear hp' hx hm' hf')
            have c06 := HN.out.1.c0
            have hcome := come_any w6 C B3 id st outs (((HR.out.2.2.2.1).pf HF5.out (by omega) hP3).pf HN.out.2.2.2 (by omega) hP3) (by have := adv_few w l wr P B B3 C tt n l' outs HR.out H.out.few; omega)
            have HCOME := Hid.mk hcome
            clear hcome
            go_wp2_with (go_at_call 47; refine HCOME.out.mono ?_; rintro e w7 ⟨rfl, hcame7, hcf7⟩; have HC7 := Hid.mk (And.intro hcame7 hcf7); clear hcame7 hcf7)
            have hL0 := HL0.out
            have hB := HB.out
            obtain ⟨hb, hbest, htb, hst2, hid, hi, hcut, hDue⟩ := hB
            have hT := HMD.out.1.tidy lawI
            have hlatS : Later st l' := fun t ht => ⟨HS.out.2.1 t ht, (hlat t ht).2⟩
            have hwS : Words wd2 (placed st l') := by rw [hst2]; exact HW2.out
            have hwh6 : WhAt w6 P B st (l'.take b ++ l'.drop (b + 1)) := wh_drop hb (tn := st) (by omega) b2 hfew hlatS hids hap hDue hT hbm hwS hi hcut HN.out.1 HN.out.2.1 (by rw [← hid]; exact HN.out.2.2.1)
            have hcame6 := ((HR.out.2.2.2.1).pf HF5.out (by omega) hP3).pf HN.out.2.2.2 (by omega) hP3
            obtain ⟨xa6, xc6, hC6, _, _⟩ := hcame6.cell
            have hwh7 := hwh6.cf HC7.out.2 ⟨_, hC6⟩ (by omega) hP3
            have hR := HR.out
            have hlc := length_cut l' b hb
            have hlen5 := hR.2.2.2.2.1
            have HREL : Hid (AdvAt w P B B3 C l tt st (l'.take b ++ l'.drop (b + 1)) (outs ++ [⟨id, st⟩]) w7) := Hid.mk (by
              refine ⟨hwh7, by omega, ?_, HC7.out.1, by rw [List.length_append, List.length_singleton]; omega, ?_, ?_⟩
              · have := AdvR.step outs l' b hR.2.2.1 hbest (by rw [htb]; omega)
                rwa [← hid, htb] at this
              · exact ((hR.2.2.2.2.2.1.pf HF5.out hG hGP).pf HN.out.2.2.2 hG hGP).cf HC7.out.2 hG3 (by omega)
              · exact ((hR.2.2.2.2.2.2.pf HF5.out hB3w).pf HN.out.2.2.2 hB3w).cf HC7.out.2 hB3w hB3)
            have HME : Hid (meas P w7 < meas P wr) := Hid.mk (by
              rw [hwh7.meas, hR.1.meas]
              have e1 := todo_cut (n := st) hb
              have e2 : todo st l' = todo n l' := todo_same (fun t ht => by rw [HS.out.2.2.2]; exact low_stay HS.out.1 (by have := HS.out.2.2.1; omega) ht)
              omega)
            clear hlen5 hL0 hb hbest htb hst2 hid hi hcut hDue hT hlatS hwS hwh6 hcame6 hC6 hwh7 hR hlc
            go_roundw
            case rel => exact ⟨st, _, _, HREL.out⟩
            case measure => exact HME.out
          · have g4 : decide (0 < L) = true := decide_eq_true (by omega)
            have HL0 := Hid.mk hL0
            clear hL0
            have hk64 : 64 ≤ k := by have := HS.out.2.2.1; have := HL0.out; omega
            obtain ⟨nn, hnn2⟩ : ∃ nn, nn = (memb n l' k).length := ⟨_, rfl⟩
            have hnn3 : nn ≤ 200 := by
              have := placed_few n l' k
              have e : (placed n l' k).length = nn := by rw [placed_memb, hnn2]; simp
              omega
            have hsp := spread_any w5 P B st L s nn rw2 (placed n l') wd2 bm D (memb n l' k) HP5.out HMD.out.1 hbm hL11 hs64 HM2.out.2.2 (by rw [← HS.out.2.2.1]; rfl) hnn2
              (fun i hi => by obtain ⟨j, hj, e, _⟩ := memb_at (n := n) (l := l') (k := k) (i := i) (by omega); rw [← e]; exact hids j hj)
              (fun i hi => by obtain ⟨j, hj, e, _⟩ := memb_at (n := n) (l := l') (k := k) (i := i) (by omega); rw [← e]; exact HMD.out.2.tm j hj)
              (fun i hi => by obtain ⟨j, hj, e, _⟩ := memb_at (n := n) (l := l') (k := k) (i := i) (by omega); rw [← e]; have := hlat _ (mem_getD hj); omega)
              b2 (fun j => by have := placed_few n l' j; omega)
            have HSP := Hid.mk hsp
            clear hsp hnn2
            go_wp2_with (go_at_call 63; refine HSP.out.mono ?_; rintro e w6 ⟨rfl, rw6, ls6, wd6, hp6, hm6, hf6, hw6, hls6⟩; have HN := Hid.mk (And.intro hp6 (And.intro hm6 (And.intro hf6 (And.intro hw6 hls6)))); clear hp6 hm6 hf6 hw6 hls6)
            obtain ⟨hp6, hm6, hf6, hw6, hls6⟩ := HN.out
            have els : ls6 = placed st l' := by
              funext j
              rw [hls6 j, HS.out.2.2.2, high_placed HS.out.1 hk64 j, ← HS.out.2.2.1]
              rfl
            subst els
            have hR := HR.out
            have hwh6 : WhAt w6 P B st l' := ⟨⟨_, rw6, wd6, hp6, Or.inr ⟨bm, D, rfl, hbm, hm6, HMD.out.2⟩, hw6⟩, b2, hfew, fun t ht => ⟨HS.out.2.1 t ht, (hlat t ht).2⟩, hids, hap⟩
            have HREL : Hid (AdvAt w P B B3 C l tt st l' outs w6) := Hid.mk (by
              refine ⟨hwh6, by omega, hR.2.2.1, (hR.2.2.2.1.pf HF5.out (by omega) hP3).pf hf6 (by omega) hP3, hR.2.2.2.2.1, (hR.2.2.2.2.2.1.pf HF5.out hG hGP).pf hf6 hG hGP, (hR.2.2.2.2.2.2.pf HF5.out hB3w).pf hf6 hB3w⟩)
            have HME : Hid (meas P w6 < meas P wr) := Hid.mk (by
              rw [hwh6.meas, hR.1.meas, HS.out.2.2.2]
              exact todo_fall HS.out.1 hk64)
            clear hp6 hm6 hf6 hw6 hls6 hR hwh6
            go_roundw
            case rel => exact ⟨st, _, _, HREL.out⟩
            case measure => exact HME.out
end Go.Proofs.YtgdcjccbdmcebaaDoor
