/- Returned: a flow is read as it was written; an edge back is refused just if it closes a circle. -/
import Derived.Test.YtgdcjccbdmcebaaDoorKFlow
import Derived.Test.YtgdcjccbdmcebaaDoorKRetM
import Derived.Test.YtgdcjccbdmcebaaDoorWPdec4
import Derived.Deep.RegionHeld3
import Derived.Deep.DrawnRows
import Derived.Deep.AppendLies
namespace Go.Proofs.YtgdcjccbdmcebaaDoor
open Go.RowKit
set_option maxRecDepth 100000
attribute [local go_sem ↓] Go.wp_at_zero Go.wp_at_succ

set_option maxHeartbeats 8000000 in
theorem returned_any (w : World) (c0 d0 c4 c5 : Int) (ab an : Option Addr) (nb cb nn cn : Nat) (fb fn : Nat → Int) (h0 : -9223372036854775808 ≤ c0) (h1 : c0 ≤ 9223372036854775807) (h2 : -9223372036854775808 ≤ d0) (h3 : d0 ≤ 9223372036854775807)
    (h4 : -9223372036854775808 ≤ c4) (h5 : c4 ≤ 9223372036854775807) (h6 : -9223372036854775808 ≤ c5) (h7 : c5 ≤ 9223372036854775807) (hb : IntsIn w ab nb cb fb) (hn : IntsIn w an nn cn fn) (hT : TabIn w) (hg : 1 < w.heap.size) (hE : ErrTypeIn w) :
    Calls Tryd.prog 6 #[.int .i64 c0, .slice ab nb cb, .slice an nn cn, .int .i64 d0, .int .i64 c4, .int .i64 c5] w fun e w' => e = .returned (.bool true) ∧ Below w.heap.size w w' := by
  have HF := Hid.mk (kflow_any w c0 d0 ab an nb cb nn cn fb fn h0 h1 h2 h3 hb hn)
  have HT := Hid.mk (And.intro hT (And.intro hg hE))
  obtain ⟨i3, hi3, hz30, hz31, hz32⟩ := info_parts info3
  have HI3 := Hid.mk (And.intro hi3 (And.intro hz30 (And.intro hz31 hz32)))
  clear hi3 hz30 hz31 hz32
  clear h0 h1 h2 h3 hb hn hT hg hE
  go_enter Tryd.func6, Tryd.ntmps6
  go_wp2_with fail
  refine HF.out.mono ?_
  rintro e w1 ⟨⟨F, la, lc, Na, Nc, rfl, hcp, hW, hn1, hn2⟩, hb1⟩
  have HW := Hid.mk hW
  have HCP := Hid.mk hcp
  have HB1 := Hid.mk hb1
  have hs1 := hb1.size
  clear hcp hW hb1
  go_wp2_with fail
  have hk1 : Below w1.heap.size w1 (w1.alloc (.cells #[.int .i64 F.dl, .slice la F.n lc] 24)) := (Below.refl _ _).alloc (Nat.le_refl _) _
  have hT1 := (HT.out.1.keep HT.out.2.1 HB1.out).keep (Nat.lt_of_lt_of_le HT.out.2.1 hs1) hk1
  have hg1 : 1 < w1.heap.size := Nat.lt_of_lt_of_le HT.out.2.1 hs1
  have HAN := Hid.mk (HW.out.an hn1 hn2)
  refine (pencode_any F la lc Na Nc _ ((HCP.out.below hk1).flowIn (by omega) (fun i hi => by have := HAN.out i hi; omega) hT1 (by simp; omega)) ((HT.out.2.2.keep HB1.out).keep hk1)).mono ?_
  rintro e w2 ⟨⟨v, x, y, l, rfl, hchk, hrow, hl0, hl1⟩, hb2⟩
  obtain ⟨rfl, rfl⟩ := hchk.one (HW.out.chk hn1 hn2)
  obtain rfl := hl0 rfl
  obtain ⟨a1, q1, rfl, ha1, hA1, hBy1, hF1, hcs1⟩ := row_bytes hrow (flowB_byte F)
  have hL9 := flowB_nine hn1
  have hL : (flowB F).length ≤ 4096 := flowB_len (HW.out.ok hn1 hn2).1 (HW.out.nat hn1 hn2)
  rcases hcs1 with h0 | ⟨g1, rfl, hcs1⟩
  · omega
  have hb12 : Below w1.heap.size w1 w2 := hk1.trans (hb2.mono (by simp))
  have d0' : w2.cell? ⟨w1.heap.size, 0, none⟩ = some (.int .i64 F.dl) := cell_later hb2 (by simp)
  have d1' : w2.cell? ⟨w1.heap.size, 1, none⟩ = some (.slice la F.n lc) := cell_later hb2 (by simp)
  have hs2 : w1.heap.size + 1 ≤ w2.heap.size := by have := hb2.size; simpa using this
  have hg1b : g1 < w2.heap.size := hA1 g1 0 rfl
  have HC1 := Hid.mk hcs1
  have HB2 := Hid.mk (And.intro hb12 (HB1.out.trans (hb12.mono hs1)))
  have HD1 := Hid.mk (And.intro hF1 (And.intro ha1 hBy1))
  clear hchk hrow hl0 hl1 hb2 hk1 hT1 hA1 hcs1 hF1 ha1 hBy1 hb12
  go_wp2_with fail
  refine (pdecode_any w2 _ (flowB F).length q1 (byF (flowB F)) (by omega) HD1.out.1 HD1.out.2.1 (HT.out.1.keep HT.out.2.1 HB2.out.2) (by omega) (HT.out.2.2.keep HB2.out.2) HD1.out.2.2).mono ?_
  rintro e w3 ⟨⟨x2, y2, G, ga, gc, Ga, Gc, rfl, hd, hcg⟩, hb3⟩
  obtain ⟨rfl, hGd, hGn, hGs⟩ := dec_back HW.out hn1 hn2 hd
  have HG := Hid.mk (And.intro hGd (And.intro hGn hGs))
  have HGW := Hid.mk (HW.out.same hGd hGn hGs)
  have HCG := Hid.mk hcg
  have e0 := cell_later hb3 d0'
  have e1 := cell_later hb3 d1'
  have hs3 := hb3.size
  have HB3 := Hid.mk (And.intro hb3 (HB2.out.2.trans (hb3.mono (by omega))))
  clear hd hcg hb3 d0' d1' hGd hGs hGn
  go_wp2_with fail
  have hk3 : Below w3.heap.size w3 (w3.alloc (.cells #[.int .i64 G.dl, .slice ga G.n gc] 24)) := (Below.refl _ _).alloc (Nat.le_refl _) _
  have hGn2 : 1 ≤ G.n ∧ G.n ≤ 12 := by rw [HG.out.2.1]; exact ⟨hn1, hn2⟩
  have hT3 := (HT.out.1.keep HT.out.2.1 HB3.out.2).keep (by omega) hk3
  have hE3 := (HT.out.2.2.keep HB3.out.2).keep hk3
  refine (pencode_any G ga gc Ga Gc _ ((HCG.out.below hk3).flowIn (by omega) (fun i hi => by have := HGW.out.an hGn2.1 hGn2.2 i hi; omega) hT3 (by simp; omega)) hE3).mono ?_
  rintro e w4 ⟨⟨v, x, y, l, rfl, hchk, hrow, hl0, hl1⟩, hb4⟩
  obtain ⟨rfl, rfl⟩ := hchk.one (HGW.out.chk hGn2.1 hGn2.2)
  obtain rfl := hl0 rfl
  rw [flowB_same HG.out.1 HG.out.2.1 HG.out.2.2] at hrow
  obtain ⟨a2, q2, rfl, -, -, -, -, hcs2⟩ := row_bytes hrow (flowB_byte F)
  rcases hcs2 with h0 | ⟨g2, rfl, hcs2⟩
  · omega
  have hb34 : Below w3.heap.size w3 w4 := hk3.trans (hb4.mono (by simp))
  have f0 : w4.cell? ⟨w3.heap.size, 0, none⟩ = some (.int .i64 G.dl) := cell_later hb4 (by simp)
  have f1 : w4.cell? ⟨w3.heap.size, 1, none⟩ = some (.slice ga G.n gc) := cell_later hb4 (by simp)
  have t0 := cell_later hb34 e0
  have t1 := cell_later hb34 e1
  have hs4 := hb34.size
  have hs4b : w3.heap.size + 1 ≤ w4.heap.size := by have := hb4.size; simpa using this
  have k2 := run_string_of (c := q2) hcs2
  have k1 := run_string_of (w := w4) (g := g1) (c := q1) (fun k hk => by
    have hz : w3.heap.size ≤ w4.heap.size := hs4
    rw [(hb34.cell (p := ⟨g1, k, none⟩) (by simp only []; omega)), (HB3.out.1.cell (p := ⟨g1, k, none⟩) hg1b)]
    exact HC1.out k hk)
  have HB4 := Hid.mk (And.intro hb34 (HB3.out.2.trans (hb34.mono (by omega))))
  have HCF := Hid.mk ((((HCP.out.below HB2.out.1).below HB3.out.1).below hb34))
  have hGn := HG.out.2.1
  clear hchk hrow hl0 hl1 hb4 hb34 hk3 hT3 hE3 e0 e1 hcs2
  generalize hLe : (flowB F).length = L at *
  go_wp2_with fail
  have hz4 : w1.heap.size < w4.heap.size := by omega
  clear f0 f1 k1 k2 hGn hGn2 hLe hL hL9 hs4 hs4b hs3 hs2 hg1b HC1 HD1 HB3 HG HGW HCG hg1 HF
  refine (kpick_any c4 F.n w4 h4 h5 (by omega) (by omega)).mono ?_
  rintro e w5 ⟨rfl, rfl⟩
  have p0 := pickI_lo c4 F.n (by omega)
  have p1 := pickI_hi c4 F.n (by omega)
  generalize pickI c4 F.n = av' at *
  obtain ⟨av, rfl⟩ : ∃ av : Nat, av' = av := ⟨av'.toNat, by omega⟩
  go_wp2_with fail
  refine (kpick_any c5 (F.n - av) w5 h6 h7 (by omega) (by omega)).mono ?_
  rintro e w6 ⟨rfl, rfl⟩
  have p2 := pickI_lo c5 (F.n - av) (by omega)
  have p3 := pickI_hi c5 (F.n - av) (by omega)
  generalize pickI c5 (F.n - av) = dz' at *
  obtain ⟨dz, rfl⟩ : ∃ dz : Nat, dz' = dz := ⟨dz'.toNat, by omega⟩
  have hmk := run_make_row' (P := Tryd.prog) 55 4 (.bool false) 1 Tryd.underlying55 info4 rfl .i64 .i64 F.n (by omega) (by omega)
  have hmr := World.rowIs_made w6 (.bool false) F.n 4
  have m0 := hmr.cell (i := av) (by omega)
  have m1 := hmr.frozen av
  have HMR := Hid.mk hmr
  clear hmr h4 h5 h6 h7
  go_wp2_with fail
  have hinit : (w6.alloc (.cells ((madeCells #[.bool false] F.n).setIfInBounds av (.bool true)) 4)).rowIs w6.heap.size 4 F.n (fun j => .bool ((fun j => decide (j = av)) j)) := by
    have h8 := HMR.out.set av (.bool true)
    rw [World.setCell_alloc_at _ _ _ _ _ rfl] at h8
    exact h8.congr fun j hj => by
      by_cases e : j = av
      · simp [e]
      · simp [e]
  have HINIT := Hid.mk hinit
  rcases HCF.out.nodesAt with h0 | ⟨b, o, rfl, hcap, hmax, hbw, hc⟩
  · omega
  have HNB := Hid.mk hc
  unfold maxLen at hmax
  clear hinit hmk m0 m1 HMR hc
  go_loopw [27] (fun iv wx => ∃ (i : Nat) (S : Nat → Bool), iv = .int .i64 i ∧ av + 1 ≤ i ∧ i ≤ F.n ∧ wx.rowIs w6.heap.size 4 F.n (fun j => .bool (S j)) ∧ Below w6.heap.size w6 wx ∧ ReS F av i S) (fun iv _ => F.n - (intOf iv).toNat)
  case atStart => exact ⟨av + 1, _, by go_num, by omega, by omega, HINIT.out, (Below.refl _ _).alloc (Nat.le_refl _) _, ReS.start HW.out av⟩
  case round =>
    obtain ⟨i, S, rfl, hi1, hi, hrow, hbl, hS⟩ := hrel
    rename World => wx
    have HROW := Hid.mk hrow
    have HBL := Hid.mk hbl
    have HS := Hid.mk hS
    have u1 := cell_later hbl t1
    clear hrow hbl hS HINIT
    by_cases h8 : i < F.n
    case pos =>
      go_wp2_with fail
      go_loopw [28] (fun kv wy => ∃ (k : Nat) (S' : Nat → Bool), kv = .int .i64 k ∧ k ≤ F.an i ∧ wy.rowIs w6.heap.size 4 F.n (fun j => .bool (S' j)) ∧ Below w6.heap.size w6 wy ∧ ReT F av i k S') (fun kv _ => F.an i - (intOf kv).toNat)
      case atStart => exact ⟨0, S, rfl, Nat.zero_le _, HROW.out, HBL.out, HS.out.inner⟩
      case round =>
        obtain ⟨k, S', rfl, hk, hrow', hbl', hT'⟩ := hrel
        rename World => wy
        have hnb := (HNB.out i h8).keep hbw hbl'
        have y6 := hnb.af
        have hints := hnb.ints
        have v1 := cell_later hbl' t1
        have HROW' := Hid.mk hrow'
        have HBL' := Hid.mk hbl'
        have HT' := Hid.mk hT'
        have han := HAN.out i h8
        clear hnb hbl' hT' u1
        by_cases h9 : k < F.an i
        · obtain ⟨e1, e2, _⟩ := (HW.out.nodes i h8).af k h9
          obtain ⟨ia, io, hia, hic, him, hib, hcell⟩ := hints.resolve_left (by omega)
          have yc := hcell k h9
          rw [hia] at y6
          unfold maxLen at him
          have r1 : wy.cell? ⟨w6.heap.size, i, none⟩ = some (.bool (S' i)) := hrow'.cell h8
          have r2 : wy.cell? ⟨w6.heap.size, (F.af i k).toNat, none⟩ = some (.bool (S' (F.af i k).toNat)) := hrow'.cell (by omega)
          have rz := hrow'.frozen i
          have HM := Hid.mk (HT'.out.more h8 (by omega))
          have HIA := Hid.mk hia
          clear hcell hints hrow' hia
          cases hSi : S' i with
          | true =>
            rw [hSi] at r1
            have HSI := Hid.mk hSi
            clear hSi
            go_wp2_with fail
            go_roundw
            case rel =>
              refine ⟨k + 1, _, by go_num, by omega, (HROW'.out.set i (.bool true)).congr fun j hj => ?_, HBL'.out.setCell (by simp) _, HM.out⟩
              by_cases e : j = i
              · simp [e, HSI.out]
              · simp [e]
            case measure => simp [intOf]; omega
          | false =>
            rw [hSi] at r1
            have HSI := Hid.mk hSi
            clear hSi
            go_wp2_with fail
            go_roundw
            case rel =>
              refine ⟨k + 1, _, by go_num, by omega, (HROW'.out.set i (.bool (S' (F.af i k).toNat))).congr fun j hj => ?_, HBL'.out.setCell (by simp) _, HM.out⟩
              by_cases e : j = i
              · simp [e, HSI.out]
              · simp [e]
            case measure => simp [intOf]; omega
        · obtain rfl : k = F.an i := by omega
          clear hints hrow'
          go_wp2_with fail
          go_roundw
          case rel => exact ⟨i + 1, S', by go_num, by omega, by omega, HROW'.out, HBL'.out, HT'.out.done (by omega)⟩
          case measure => simp [intOf]; omega
    case neg =>
      obtain rfl : i = F.n := by omega
      go_wp2_with fail
      have u0 := cell_later HBL.out t0
      have hsx := HBL.out.size
      have hanv := HAN.out av (by omega)
      clear t0 t1
      go_loopw [29, 30] (fun lv kv wy => ∃ (k : Nat) (ra : Option Addr) (rc : Nat), kv = .int .i64 k ∧ lv = .slice ra k rc ∧ k ≤ F.an av ∧ wy.ownsRow wx.heap.size 3 1 (.slice ra k rc) k (intsL k (F.af av)) ∧ Below wx.heap.size wx wy) (fun _ kv _ => F.an av - (intOf kv).toNat)
      case atStart => exact ⟨0, none, 0, rfl, rfl, Nat.zero_le _, World.ownsRow_nil _ _ _ _, Below.refl _ _⟩
      case round =>
        obtain ⟨k, ra, rc, rfl, rfl, hk, hrow3, hbl3⟩ := hrel
        rename World => wy
        have HROW3 := Hid.mk hrow3
        have HBL3 := Hid.mk hbl3
        have hnb := ((HNB.out av (by omega)).keep hbw HBL.out).keep (Nat.lt_of_lt_of_le hbw hsx) hbl3
        have y6 := hnb.af
        have hints := hnb.ints
        have v1 := cell_later hbl3 u1
        have hsy := hbl3.size
        clear hrow3 hnb
        by_cases h9 : k < F.an av
        · obtain ⟨ia, io, hia, hic, him, hib, hcell⟩ := hints.resolve_left (by omega)
          have yc := hcell k h9
          rw [hia] at y6
          unfold maxLen at him
          clear hcell hints hia hbl3
          go_wp2_with (at_builtin; refine wpList_append_own _ rfl (.tmp 153) (.tmp 163) 25 rfl wx.heap.size 3 i3 (.int .i64 0) 1 8 Tryd.underlying25 HI3.out.1 HI3.out.2.1 HI3.out.2.2.1 HI3.out.2.2.2 rfl (by decide) (.slice ra k rc) k (intsL k (F.af av)) rfl (HROW3.out.alloc _) ⟨wy.heap.size, 0, none⟩ 1 1 [.int .i64 (F.af av k)] rfl rfl (news1 _ _ _ _ rfl) (by intro u hu; simp only [List.mem_singleton] at hu; subst hu; rfl) (by unfold maxLen; omega) (by omega) (by simp; omega) ?_; intro v5' w7 hown7 hgrow7 hiff; clear hiff; obtain ⟨xb, xd, rfl⟩ := own_slice hown7; have HO7 := Hid.mk (And.intro hown7 hgrow7); clear hown7 hgrow7)
          go_roundw
          case rel =>
            refine ⟨k + 1, xb, xd, by go_num, rfl, by omega, ?_, (HBL3.out.alloc (by omega) _).grown HO7.out.2 (by simp; omega) (fun z hz => (HROW3.out.lt z hz).1)⟩
            have e : intsL (k + 1) (F.af av) = intsL k (F.af av) ++ [.int .i64 (F.af av k)] := by simp only [intsL, List.range_succ, List.map_append, List.map_cons, List.map_nil]
            rw [e]
            exact HO7.out.1
          case measure => simp [intOf]; omega
        · obtain rfl : k = F.an av := by omega
          clear hints
          have v0 := cell_later HBL3.out u0
          have yz : wy.frozen? ⟨b, o + av * 7 + 6, none⟩ = false := (HBL3.out.frozen (p := ⟨b, o + av * 7 + 6, none⟩) (by simp only []; omega)).trans ((HBL.out.frozen (p := ⟨b, o + av * 7 + 6, none⟩) hbw).trans (own_frozen HCF.out.own _))
          have hne : ∀ z, z < wx.heap.size → some z ≠ (Value.slice ra (F.an av) rc).ownBlock := fun z hz e => by have := HROW3.out.lt z e.symm; omega
          have HNE := Hid.mk hne
          have ha0 : (0 : Int) ≤ (av : Int) := by omega
          have ha1 : (av : Int) < (F.n : Int) := by omega
          have hal : Below wy.heap.size wy ((wy.alloc (.cells #[.int .i64 ((av : Int) + dz)] 3)).drew) := ((Below.refl _ _).alloc (Nat.le_refl _) _).drew
          have hby : b < wy.heap.size := by omega
          have hb1 : b < w1.heap.size := (HCP.out.own.lt b rfl).2
          have HY := Hid.mk (And.intro (cell_later hal y6) (And.intro ((hal.frozen (p := ⟨b, o + av * 7 + 6, none⟩) hby).trans yz) (And.intro (cell_later hal v0) (And.intro (cell_later hal v1) hal))))
          clear hne hbl3 u0 u1 hal yz
          go_wp2_with fail
          go_region_held3 (fun w' => w'.cell? ⟨w1.heap.size, 1, none⟩ = some (.slice (some ⟨b, o, none⟩) F.n lc))
            (first | go_keep | (rw [hgrow.cell_far _ (by simp; omega) (HNE.out w1.heap.size (by omega))]; assumption) | (rw [setCell_far _ _ _ _ _ _ (by omega)]; assumption))
            ((refine step_append_lies _ (by rfl) _ _ _ (by rfl) wx.heap.size 3 i3 _ 1 8 Tryd.underlying25 HI3.out.1 HI3.out.2.1 HI3.out.2.2.1 HI3.out.2.2.2 rfl (by omega) (.slice ra (F.an av) rc) (F.an av) (intsL (F.an av) (F.af av)) (by rfl) ((HROW3.out.alloc _).drew) ⟨wy.heap.size, 0, none⟩ 1 1 [.int .i64 ((av : Int) + dz)] (by rfl) (by rfl) (World.news_of_block (cs := #[.int .i64 ((av : Int) + dz)]) (t := 3) (fr := (0, 0)) (heap_alloc_new wy _)) (by simp [Value.oneCell']) (by omega) (by unfold maxLen; omega) (by omega) (by simp; omega) (wy.heap.size + 1) (by simp) ?_; intro gg gcap w7 hown7 hgrow hat hlt; have s6 := (hgrow.cell_far ⟨b, o + av * 7 + 6, none⟩ (by simp; omega) (HNE.out b (by omega))).trans HY.out.1; have sz := (hgrow.frozen_far ⟨b, o + av * 7 + 6, none⟩ (by simp; omega) (HNE.out b (by omega))).trans HY.out.2.1; have s0 := (hgrow.cell_far ⟨w1.heap.size, 0, none⟩ (by simp; omega) (HNE.out w1.heap.size (by omega))).trans HY.out.2.2.1; have s1 := (hgrow.cell_far ⟨w1.heap.size, 1, none⟩ (by simp; omega) (HNE.out w1.heap.size (by omega))).trans HY.out.2.2.2.1))
          have hB7 : Below wx.heap.size wx w7 := ((HBL3.out.alloc (by omega) (.cells #[.int .i64 ((av : Int) + dz)] 3)).drew).grown hgrow (by simp; omega) (fun z hz => (HROW3.out.lt z hz).1)
          have hB67 : Below w6.heap.size w6 w7 := HBL.out.trans (hB7.mono hsx)
          have hs7 := hB67.size
          have hBw7 : Below w.heap.size w w7 := HB4.out.2.trans (hB67.mono HB4.out.2.size)
          have hbw2 : w.heap.size ≤ b := (HCF.out.own.lt b rfl).1
          have hBw8 : Below w.heap.size w (w7.setCell ⟨b, o + av * 7 + 6, none⟩ (.slice (some ⟨gg, 0, none⟩) (F.an av + 1) gcap)) := hBw7.setCell (by simpa using hbw2) _
          have hcast : ((av : Int) + (dz : Int)) = ((av + dz : Nat) : Int) := by omega
          rw [hcast] at hown7
          have HFI := Hid.mk (edge_flowIn (HCF.out.below hB67) hn1 hn2 HAN.out (by omega) hown7 (HT.out.1.keep HT.out.2.1 hBw8) (Nat.lt_of_lt_of_le HT.out.2.1 hBw7.size))
          have HW8 := Hid.mk (And.intro hBw8 (HT.out.2.2.keep hBw8))
          have q0 := (setCell_far w7 b w1.heap.size (o + av * 7 + 6) 0 (.slice (some ⟨gg, 0, none⟩) (F.an av + 1) gcap) (by omega)).trans s0
          have q1' := (setCell_far w7 b w1.heap.size (o + av * 7 + 6) 1 (.slice (some ⟨gg, 0, none⟩) (F.an av + 1) gcap) (by omega)).trans s1
          have hz : av + dz < F.n := by omega
          have r0 : w7.cell? ⟨w6.heap.size, av + dz, none⟩ = some (.bool (S (av + dz))) := cell_later hB7 (HROW.out.cell hz)
          have r1 := (setCell_far w7 b w6.heap.size (o + av * 7 + 6) (av + dz) (.slice (some ⟨gg, 0, none⟩) (F.an av + 1) gcap) (by omega)).trans r0
          have hsz8 : (w7.setCell ⟨b, o + av * 7 + 6, none⟩ (.slice (some ⟨gg, 0, none⟩) (F.an av + 1) gcap)).heap.size = w7.heap.size := by simp [World.setCell]
          clear hown7 hgrow hat hlt s6 sz s0 s1 hB7 hB67 hBw7 hBw8 r0 v0 v1 y6 hcast
          generalize w7.setCell ⟨b, o + av * 7 + 6, none⟩ (.slice (some ⟨gg, 0, none⟩) (F.an av + 1) gcap) = w8 at *
          go_wp2_with fail
          refine (pencode_any (F.edge av (av + dz)) _ lc _ _ w8 HFI.out HW8.out.2).mono ?_
          rintro e w9 ⟨⟨v, x, y, l, rfl, hchk, -, -, -⟩, hb9⟩
          have r2 := cell_later hb9 r1
          have HB9 := Hid.mk (HW8.out.1.trans (hb9.mono HW8.out.1.size))
          rcases edge_chk HW.out hn1 hn2 (by omega) (by omega) hz hchk with ⟨hr, rfl⟩ | ⟨hr, rfl⟩
          · have hS1 : S (av + dz) = true := (HS.out.1 _ hz hz).2 hr
            rw [hS1] at r2
            have hd0 : (0 : Int) ≤ (av : Int) + (dz : Int) := by omega
            have hd1 : (av : Int) + (dz : Int) < (F.n : Int) := by omega
            clear hS1 hr hb9 r1 q0 q1'
            go_wp2_with fail
            go_ret
            exact ⟨rfl, HB9.out⟩
          · have hS1 : S (av + dz) = false := by
              cases h : S (av + dz) with
              | false => rfl
              | true => exact absurd ((HS.out.1 _ hz hz).1 h) hr
            rw [hS1] at r2
            clear hS1 hr hb9 r1 q0 q1'
            go_wp2_with fail
            go_ret
            exact ⟨rfl, HB9.out⟩
end Go.Proofs.YtgdcjccbdmcebaaDoor
