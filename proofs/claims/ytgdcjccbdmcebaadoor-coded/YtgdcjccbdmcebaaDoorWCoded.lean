/- Coded: Encode and Decode as the document has them, at every flow and at any bytes. -/
import Derived.Test.YtgdcjccbdmcebaaDoorWRows
import Derived.Test.YtgdcjccbdmcebaaDoorWReads
import Derived.Test.YtgdcjccbdmcebaaDoorWRenc
import Derived.WalkSpells
namespace Go.Proofs.YtgdcjccbdmcebaaDoor
open Go.RowKit
set_option maxRecDepth 100000

set_option maxHeartbeats 8000000 in
theorem coded_any (F : FlowD) (a : Option Addr) (cap : Nat) (Aa : Nat → Option Addr) (Ac : Nat → Nat) (s : ByteArray) (w : World) (h : FlowIn w F a cap Aa Ac) (hE : ErrTypeIn w) (hs : s.size ≤ 140737488355328) :
    Calls Tryd.prog 3 #[flV F.dl (.slice a F.n cap), .string s] w fun e w' => e = .returned (.bool true) ∧ Below w.heap.size w w' := by
  have H := Hid.mk h
  have HE := Hid.mk hE
  have hsz := h.sz
  have hsa := Hid.mk h.sz2
  have HN := Hid.mk h.at'
  have kc := fun (W : World) => run_bytes_of_string (P := Tryd.prog) W 9 28 5 s Tryd.underlying9 Tryd.underlying28 Tryd.underlying5
  clear h hE
  go_enter Tryd.func3, Tryd.ntmps3
  go_wp2_with fail
  go_loopw [5, 6] (fun nv iv wr => ∃ i m : Nat, iv = .int .i64 i ∧ nv = .int .i64 m ∧ i ≤ F.n ∧ s.size ≤ m ∧ m ≤ 562949953421312 ∧ Own2 w wr F a cap) (fun _ iv _ => F.n - (intOf iv).toNat)
  case atStart => exact ⟨0, s.size + F.n, rfl, by go_num, by omega, by omega, by omega, Own2.start _ _ _ _ _⟩
  case round =>
    obtain ⟨i, m, rfl, rfl, hi, hsm, hm, hown⟩ := hrel
    rename World => w1
    have c0 := hown.c0
    have c1 := hown.c1
    have HOWN := Hid.mk hown
    clear hown
    by_cases h2 : m ≤ 16384
    case neg =>
      by_cases h1 : i < F.n
      all_goals
        go_wp2_with fail
        go_ret
        exact ⟨rfl, HOWN.out.bl⟩
    by_cases h1 : i < F.n
    case pos =>
      rcases HN.out with h0 | ⟨b, o, rfl, hcap, hmax, hb, hc⟩
      · omega
      have n6 := ((hc i h1).keep hb HOWN.out.bl).af
      have han := hsa.out i h1
      unfold maxLen at hmax
      clear hc
      go_wp2_with fail
      go_roundw
      case rel => exact ⟨i + 1, m + F.an i, by go_num, by go_num, by omega, by omega, by omega, HOWN.out⟩
      case measure => simp [intOf]; omega
    case neg =>
      obtain rfl : i = F.n := by omega
      go_wp2_with fail
      refine (pencode_any F a cap Aa Ac _ (H.out.keep HOWN.out.bl) (HE.out.keep HOWN.out.bl)).mono ?_
      rintro e w2 ⟨⟨v, x, y, l, rfl, hchk, hrow, hl0, hl1⟩, hb2⟩
      have d0 := cell_later hb2 c0
      have d1 := cell_later hb2 c1
      have HB2 := Hid.mk (HOWN.out.bl.trans (hb2.mono HOWN.out.bl.size))
      have HX := Hid.mk (And.intro hchk (And.intro hrow (And.intro hl0 hl1)))
      clear hb2 hchk hrow hl0 hl1 c0 c1
      go_wp2_with fail
      refine (rencode_any F a cap Aa Ac _ (H.out.keep HB2.out)).mono ?_
      rintro e w3 ⟨⟨v', x', y', l', rfl, hchk', hrow', hl0', hl1'⟩, hb3⟩
      obtain ⟨rfl, rfl⟩ := HX.out.1.one hchk'
      have HB3 := Hid.mk (HB2.out.trans (hb3.mono HB2.out.size))
      have HR3 := Hid.mk (HX.out.2.1.below hb3)
      have HX' := Hid.mk (And.intro hrow' (And.intro hl0' hl1'))
      have HW := Hid.mk (And.intro (H.out.tab.keep H.out.tabg HB3.out) (HE.out.keep HB3.out))
      have hg3 : 1 < w3.heap.size := Nat.lt_of_lt_of_le H.out.tabg HB3.out.size
      have hk4 : Below w3.heap.size w3 (w3.drew.alloc (.cells (bytesRow s (grownCap w3 s.size 0 5)) 5 ((bytesRow s (grownCap w3 s.size 0 5)).size, (bytesRow s (grownCap w3 s.size 0 5)).size + 1))) := (Below.drew (Below.refl _ _)).alloc (Nat.le_refl _) _
      clear hb3 hchk' hrow' hl0' hl1' d0 d1
      by_cases hx : x = 0
      · subst hx
        have hbyte := flowB_byte F
        have hpos := flowB_pos F
        obtain rfl := HX.out.2.2.1 rfl
        obtain rfl := HX'.out.2.1 rfl
        obtain ⟨a1, q1, rfl, _, _, _, _, hcs⟩ := row_bytes HR3.out hbyte
        obtain ⟨a2, q2, rfl, hn2, hA2, hB2, hF2, hcs2⟩ := row_bytes HX'.out.1 hbyte
        rcases hcs with h0 | ⟨g1, rfl, hcs⟩
        · omega
        rcases hcs2 with h0 | ⟨g2, rfl, hcs2⟩
        · omega
        have k1 := run_string_of (c := q1) hcs
        have k2 := run_string_of (c := q2) hcs2
        have hlen : Hid ((flowB F).length ≤ 1073741824) := Hid.mk (by
          obtain ⟨ht, hok⟩ := chk0 HX.out.1
          have := flowB_len ht hok
          omega)
        have HY := Hid.mk (And.intro hn2 (And.intro hA2 (And.intro hB2 hF2)))
        clear hcs hcs2 hn2 hA2 hB2 hF2 hbyte
        generalize hLe : (flowB F).length = L at *
        go_wp2_with fail
        refine (reads_any _ (some ⟨w3.heap.size, 0, none⟩) s.size (grownCap w3 s.size 0 5) (fun k => (s.data.getD k 0).toNat) (by omega) (fun k _ => UInt8.toNat_lt _) (fun e => by cases e) (fun b o e => by (obtain ⟨rfl, _⟩ : w3.heap.size = b ∧ 0 = o := by simpa using e); simp) (HW.out.1.keep hg3 hk4) (by simp; omega) (HW.out.2.keep hk4) (str_bytes w3 s hs)).mono ?_
        rintro e w4 ⟨rfl, hb4⟩
        have hb34 : Below w3.heap.size w3 w4 := hk4.trans (hb4.mono (by simp))
        have HB4 := Hid.mk hb34
        have hs34 := hb34.size
        clear hb4 hb34 hk4
        go_wp2_with fail
        refine (reads_any w4 _ _ _ (fun k => ((flowB F).getD k 0).toNat) hlen.out HY.out.2.2.2 HY.out.1 (fun b o h => Nat.lt_of_lt_of_le (HY.out.2.1 b o h) hs34) (HW.out.1.keep hg3 HB4.out) (Nat.lt_of_lt_of_le hg3 hs34) (HW.out.2.keep HB4.out) (HY.out.2.2.1.below HB4.out)).mono ?_
        rintro e w5 ⟨rfl, hb5⟩
        have HB5 : Below w.heap.size w w5 := (HB3.out.trans (HB4.out.mono HB3.out.size)).trans (hb5.mono (Nat.le_trans HB3.out.size hs34))
        clear hb5
        go_wp2_with fail
        go_ret
        exact ⟨rfl, HB5⟩
      · have hxb : (x == 0) = false := by simpa using hx
        obtain ⟨rfl, rfl⟩ := HX.out.2.2.2 hx
        obtain ⟨rfl, rfl⟩ := HX'.out.2.2 hx
        have k1 := run_string_nil w3
        have k3 := run_neq_slice_nil_any (P := Tryd.prog) w3 28 5 none 0 0 0 0 Tryd.underlying28
        go_wp2_with fail
        refine (reads_any _ (some ⟨w3.heap.size, 0, none⟩) s.size (grownCap w3 s.size 0 5) (fun k => (s.data.getD k 0).toNat) (by omega) (fun k _ => UInt8.toNat_lt _) (fun e => by cases e) (fun b o e => by (obtain ⟨rfl, _⟩ : w3.heap.size = b ∧ 0 = o := by simpa using e); simp) (HW.out.1.keep hg3 hk4) (by simp; omega) (HW.out.2.keep hk4) (str_bytes w3 s hs)).mono ?_
        rintro e w4 ⟨rfl, hb4⟩
        have hb34 : Below w3.heap.size w3 w4 := hk4.trans (hb4.mono (by simp))
        have HB4 := Hid.mk hb34
        have hs34 := hb34.size
        clear hb4 hb34 hk4
        go_wp2_with fail
        refine (reads_any w4 none 0 0 (fun _ => 0) (by omega) (fun k h => by omega) (fun _ => ⟨rfl, rfl⟩) (fun b o h => by cases h) (HW.out.1.keep hg3 HB4.out) (Nat.lt_of_lt_of_le hg3 hs34) (HW.out.2.keep HB4.out) (Or.inl rfl)).mono ?_
        rintro e w5 ⟨rfl, hb5⟩
        have HB5 : Below w.heap.size w w5 := (HB3.out.trans (HB4.out.mono HB3.out.size)).trans (hb5.mono (Nat.le_trans HB3.out.size hs34))
        clear hb5
        go_wp2_with fail
        go_ret
        exact ⟨rfl, HB5⟩
end Go.Proofs.YtgdcjccbdmcebaaDoor
