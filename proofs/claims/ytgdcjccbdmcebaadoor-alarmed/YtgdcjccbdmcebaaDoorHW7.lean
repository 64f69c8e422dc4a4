/- The program's wheel: Cancel. -/
import Derived.Test.YtgdcjccbdmcebaaDoorHW6
namespace Go.Proofs.YtgdcjccbdmcebaaDoor
open Go.RowKit
open Go.Maps (keyOf_int_mk)
set_option maxRecDepth 100000
attribute [local go_sem ↓] Go.wp_at_zero Go.wp_at_succ

theorem placed_cut_all {n : Nat} {l : List Tm} {b tn : Nat} (hb : b < l.length) (ha : Apart l) (htn : (l.getD b .z).tm.toNat = tn) : ∃ i, i < (placed n l (pl n tn)).length ∧ (placed n l (pl n tn)).getD i 0 = (l.getD b .z).id ∧ (∀ j, j < i → (placed n l (pl n tn)).getD j 0 ≠ (l.getD b .z).id) ∧ placed n (l.take b ++ l.drop (b + 1)) = upd (placed n l) (pl n tn) ((placed n l (pl n tn)).take i ++ (placed n l (pl n tn)).drop (i + 1)) := by
  subst htn
  obtain ⟨i, h1, h2, h3, h4⟩ := placed_cut n l b hb ha
  refine ⟨i, h1, h2, h3, ?_⟩
  funext j
  by_cases e : j = pl n (l.getD b .z).tm.toNat
  · rw [e, upd_same]; exact h4
  · rw [upd_other _ _ _ e]; exact placed_cut_off n l b j hb (Ne.symm e)
/-- The wheel behind a drop. -/
theorem wh_drop {w' : World} {P B now bm i b tn x' : Nat} {rw' : Nat → Value} {wd : Nat → Nat} {l : List Tm} {D : DataW Unit} (hb : b < l.length) (htn : (l.getD b .z).tm.toNat = tn) (hnow : now ≤ 4611686018427387904) (hlen : l.length ≤ 200) (hL : Later now l) (hids : IdsOk l) (hap : Apart l) (hD : Due D l) (hT : Maps.Tidy D) (hbm : B ≤ bm) (hw : Words wd (placed now l)) (hi : i < (placed now l (pl now tn)).length)
    (hcut : placed now (l.take b ++ l.drop (b + 1)) = upd (placed now l) (pl now tn) ((placed now l (pl now tn)).take i ++ (placed now l (pl now tn)).drop (i + 1)))
    (hp : PwAt w' P B now (.map (some bm)) rw' (upd (placed now l) (pl now tn) ((placed now l (pl now tn)).take i ++ (placed now l (pl now tn)).drop (i + 1))) (upd wd (lev now tn) x')) (hx : DropW x' (wd (lev now tn)) (slt (lev now tn) tn) (placed now l (pl now tn)).length) (hm : mapOf (D.del (.int .i64 (l.getD b .z).id)) w' bm (Maps.size (D.del (.int .i64 (l.getD b .z).id)))) : WhAt w' P B now (l.take b ++ l.drop (b + 1)) := by
  have hlc := length_cut l b hb
  have hlat := hL _ (mem_getD hb)
  refine ⟨⟨_, rw', _, by rw [hcut]; exact hp, Or.inr ⟨bm, _, rfl, hbm, hm, hD.cut hT hap hb⟩, ?_⟩, hnow, by omega, hL.cut, hids.cut hb, hap.cut hb⟩
  rw [hcut]
  exact hw.drop (by have := lev_top now tn hnow (by omega); omega) (slt_lt _ _) hi hx

set_option maxHeartbeats 8000000 in
theorem wcancel_any (w : World) (P B now : Nat) (l : List Tm) (id : Int) (h : WhAt w P B now l) (hid : (Lit.int .i64 id).wf = true) :
    Calls Tryd.prog 60 #[.pointer (some ⟨P, 0, none⟩), .int .i64 id] w fun e w' => ∃ x l', e = .returned (errV x) ∧ CanIs l id x l' ∧ WhAt w' P B now l' ∧ PF w w' P B := by
  have HWH := Hid.mk h
  obtain ⟨⟨dm, rw_, wd, hp, hdue, hw⟩, hnow, hfew, hlat, hids, hap⟩ := h
  have HA := Hid.mk (And.intro hnow (And.intro hfew (And.intro hlat (And.intro hids (And.intro hap hw)))))
  have hkey := keyOf_int_mk Tryd.underlying3 hid
  have HP := Hid.mk hp
  have c1 := hp.c1
  have HID := Hid.mk hid
  clear hnow hlat hids hp
  rcases hdue with ⟨rfl, hl0⟩ | ⟨bm, D, rfl, hbm, hm, hD⟩
  · have lk := Maps.look_nil (w := w) true lawI Tryd.underlying77 (zeroU w) hkey
    rw [if_pos rfl] at lk
    have HL := Hid.mk hl0
    clear hkey hw hap hl0
    go_enter Tryd.func60, Tryd.ntmps60
    go_wp2_with fail
    go_ret
    exact ⟨8, l, rfl, Or.inr ⟨(fun ⟨j, hj, _⟩ => by rw [HL.out] at hj; simp at hj), rfl, rfl⟩, HWH.out, PF.refl _ _ _⟩
  · obtain ⟨v0, ps, lk, _⟩ := World.ownsMap.look_ok hm lawI Tryd.underlying77 (zeroU w) (plainElem_int Tryd.underlying34 (by decide)) hkey
    by_cases hh : hasId l id l.length
    · have eh : Maps.has D (.int .i64 id) = true := (hD.has id).2 hh
      rw [eh] at lk
      obtain ⟨b, hb, he⟩ := hh
      obtain ⟨tn, htn⟩ : ∃ tn, (l.getD b .z).tm.toNat = tn := ⟨_, rfl⟩
      have hlt := HA.out.2.2.1 _ (mem_getD hb)
      have htm : (l.getD b .z).tm = (tn : Int) := by omega
      obtain ⟨i, hi, hi2, hi3, hcut⟩ := placed_cut_all (n := now) hb hap htn
      rw [he] at hi2 hi3
      have hdrop := drop_any w P B now tn rw_ (placed now l) wd bm i D id HP.out hm hbm hid (by rw [← he, ← htm]; exact hD.tm b hb) HA.out.1 (by omega) (fun j hj => (hw j hj).1) (by have := placed_few now l (pl now tn); omega) hi hi2 hi3
      have HDROP := Hid.mk hdrop
      have HALL := Hid.mk (And.intro hb (And.intro he (And.intro htn (And.intro hi (And.intro hcut (And.intro hD (hm.tidy lawI)))))))
      clear hkey hm hD eh hb he htn hlt htm hi hi2 hi3 hcut hdrop hw hap
      go_enter Tryd.func60, Tryd.ntmps60
      go_wp2_with (go_at_call 64; refine HDROP.out.mono ?_; rintro e w4 ⟨rfl, v', x', hp', hx, hm', hf'⟩; have HN := Hid.mk (And.intro hp' (And.intro hx (And.intro hm' hf'))); clear hp' hx hm' hf')
      go_ret
      obtain ⟨a1, a2, a3, a4, a5, a6, a7⟩ := HALL.out
      obtain ⟨b1, b2, b3, b4, b5, b6⟩ := HA.out
      obtain ⟨n1, n2, n3, n4⟩ := HN.out
      refine ⟨0, _, rfl, Or.inl ⟨b, a1, a2, (fun j hj e => b5 j b hj a1 (by rw [e, a2])), rfl, rfl⟩, ?_, n4⟩
      exact wh_drop a1 a3 b1 b2 b3 b4 b5 a6 a7 hbm b6 a4 a5 n1 n2 (by rw [a2]; exact n3)
    · have eh : Maps.has D (.int .i64 id) = false := by
        cases e : Maps.has D (.int .i64 id)
        · rfl
        · exact absurd ((hD.has id).1 e) hh
      rw [eh] at lk
      have HH := Hid.mk hh
      clear hkey hm hD eh hh hw hap
      go_enter Tryd.func60, Tryd.ntmps60
      go_wp2_with fail
      go_ret
      exact ⟨8, l, rfl, Or.inr ⟨HH.out, rfl, rfl⟩, HWH.out, PF.refl _ _ _⟩
end Go.Proofs.YtgdcjccbdmcebaaDoor
