/- The law Wheeled answers true for every script of a wheel and every time that can be handed in, and leaves them as they were: each call of the program's wheel answers as the document's does (P8 to P10). The condition: the table of math/bits and the type error of package errors read as the program's text lays them (the card ties them to it). -/
import Derived.Test.YtgdcjccbdmcebaaDoorCards
import Derived.Test.YtgdcjccbdmcebaaDoorTie
import Derived.Test.YtgdcjccbdmcebaaDoorHY6
import Derived.ProofKit
import Derived.OpenShut
import Derived.Lib.SmallJoins
import Derived.Deep.Slices
import Derived.SizedLaws
import Derived.Deep.DeepHandedRow
import Derived.Test.YtgdcjccbdmcebaaDoorWLaid
namespace Go.Proofs.YtgdcjccbdmcebaaDoor.Whe
open Go.RowKit Go.ChangeShapes Go.WideShapes Go.ChangeAt Go.Joins Go.Deep Go.Proofs.YtgdcjccbdmcebaaDoor
set_option maxRecDepth 100000

theorem own : ownKnob Tryd.prog.godebug = none := by kernel_rfl
theorem laidOut : laidOutB Tryd.prog = true := by kernel_rfl
theorem cellsT : Tryd.prog.cellsOf 50 = 3 := by kernel_rfl
theorem cellsI : Tryd.prog.cellsOf 3 = 1 := by kernel_rfl
theorem cellsU : Tryd.prog.cellsOf 34 = 1 := by kernel_rfl

theorem table {W : World} (h : laidMetH Tryd.prog Rows.wheeledRow.laid W) : TabIn W := Laid.tab_of (laidMetH.filter (fun x => x.1 == "math/bits.deBruijn64tab") h)
theorem errs {W : World} (h : laidMetH Tryd.prog Rows.wheeledRow.laid W) : ErrTypeIn W := Laid.err_of (laidMetH.filter (fun x => x.1 == "errors.errorType") h)
theorem list3 {α : Type} {cs : List α} (h : cs.length = 3) : ∃ c0 c1 c2, cs = [c0, c1, c2] := by
  match cs, h with
  | [c0, c1, c2], _ => exact ⟨c0, c1, c2, rfl⟩
theorem bounds_u {x : Int} (h : (Lit.int .u64 x).wf = true) : 0 ≤ x ∧ x < 18446744073709551616 := of_wf_u64 h

/-- A step, out of its reading. -/
theorem open_turn {H : Type} {enc : TypeId × Value → H} {W : World} {fuel : Nat} {cs : List Value} {x : DataW H × List MemPlace} (h : DataW.trod enc Tryd.prog W 0 (fun _ => true) true fuel 50 cs = some x) :
    ∃ r : Sc, cs = [.int .i64 r.kd, .int .i64 r.id, .int .u64 r.n] ∧ ScOk r := by
  obtain ⟨xs, n, _, rfl, hl, hxl, hf⟩ := DataW.trod_struct Tryd.underlying50 h
  rw [cellsT] at hl
  obtain ⟨c0, c1, c2, rfl⟩ := list3 hl
  obtain ⟨x0, x1, x2, rfl⟩ := list3 hxl
  have h0 : DataW.trod enc Tryd.prog W 0 (fun _ => true) true n 3 [c0] = some x0 := by simpa [cellsI] using hf 0 _ rfl
  have h1 : DataW.trod enc Tryd.prog W 0 (fun _ => true) true n 3 [c1] = some x1 := by simpa [cellsI] using hf 1 _ rfl
  have h2 : DataW.trod enc Tryd.prog W 0 (fun _ => true) true n 34 [c2] = some x2 := by simpa [cellsU] using hf 2 _ rfl
  obtain ⟨z0, e0, rfl, w0⟩ := DataW.trod_int Tryd.underlying3 h0
  obtain ⟨z1, e1, rfl, w1⟩ := DataW.trod_int Tryd.underlying3 h1
  obtain ⟨z2, e2, rfl, w2⟩ := DataW.trod_int Tryd.underlying34 h2
  simp only [List.cons.injEq, and_true] at e0 e1 e2
  subst e0 e1 e2
  exact ⟨⟨z0, z1, z2⟩, rfl, w0, w1, of_wf_u64 w2⟩

/-- A script, out of its reading. -/
theorem open_script {H : Type} {enc : TypeId × Value → H} {W : World} {base : Nat} {v : Value} {d : DataW H} {p : List MemPlace} (hval : Value.okWide Tryd.prog W .any base 41 v)
    (h : DataW.Trod enc Tryd.prog W 0 (fun _ => true) true 41 v d p) : ∃ (a : Option Addr) (c : Nat) (l : List Sc), v = .slice a l.length c ∧ ScAt W a c l ∧ (∀ i, i < l.length → ScOk (l.getD i .z)) ∧ l.length ≤ maxLen := by
  obtain ⟨a0, len, cap, rfl⟩ := okWide_slice Tryd.underlying41 hval
  obtain ⟨fuel, hf⟩ := h
  rcases open_slice Tryd.underlying41 hf with ⟨e1, _⟩ | ⟨a, len, cap, mm, nn, D, Pl, e1, _, hl, hm, hmm, _, hx⟩
  · simp only [Value.cells, List.cons.injEq, Value.slice.injEq, and_true] at e1
    obtain ⟨rfl, rfl, rfl⟩ := e1
    exact ⟨none, 0, [], rfl, Or.inl rfl, fun i hi => absurd hi (Nat.not_lt_zero _), Nat.zero_le _⟩
  · simp only [Value.cells, List.cons.injEq, Value.slice.injEq, and_true] at e1
    obtain ⟨rfl, rfl, rfl⟩ := e1
    simp only [if_true] at hmm
    obtain rfl : cap = mm := hmm.symm
    rw [cellsT] at hx
    haveI : Inhabited Sc := ⟨Sc.z⟩
    obtain ⟨R, hR⟩ := choose_lt (α := Sc) (n := len) (p := fun i r => W.cells? 0 (a.add (i * 3)) 3 = some [.int .i64 r.kd, .int .i64 r.id, .int .u64 r.n] ∧ ScOk r) (fun i hi => by
      obtain ⟨cs', h1, h2⟩ := hx i (by omega)
      obtain ⟨r, rfl, h3⟩ := open_turn h2
      exact ⟨r, h1, h3⟩)
    have hlen : ((List.range len).map R).length = len := by simp
    have hget : ∀ i, i < len → ((List.range len).map R).getD i .z = R i := fun i hi => by
      rw [List.getD_eq_getElem?_getD, List.getElem?_map, List.getElem?_range hi]
      rfl
    refine ⟨some a, cap, (List.range len).map R, by rw [hlen], ?_, fun i hi => by rw [hlen] at hi; rw [hget i hi]; exact (hR i hi).2, by rw [hlen]; omega⟩
    by_cases h0 : len = 0
    · exact Or.inl (by rw [hlen]; exact h0)
    · obtain ⟨b, off, spot⟩ := a
      have hc0 := (World.cells?_some (hR 0 (by omega)).1).2.2 0 (by omega)
      simp only [Nat.zero_mul, Addr.add, if_true, List.getElem?_cons_zero] at hc0
      have hspot : spot = none := by simpa using World.cell?_spot hc0
      subst hspot
      refine Or.inr ⟨b, off, rfl, by rw [hlen]; exact hl, hm, World.block_lt_of_cell? _ _ hc0, fun i hi => ?_⟩
      rw [hlen] at hi
      rw [hget i hi]
      have hci := (World.cells?_some (hR i hi).1).2.2
      have key : ∀ j, j < 3 → W.cell? ⟨b, off + i * 3 + j, none⟩ = [Value.int .i64 (R i).kd, .int .i64 (R i).id, .int .u64 (R i).n][j]? := fun j hj => by
        have := hci j hj
        rwa [add_plain, add_plain] at this
      exact ⟨key 0 (by omega), key 1 (by omega), key 2 (by omega)⟩

/-- What the walk gives, for every reading of the arguments. -/
theorem contract (H : Type) (enc : TypeId × Value → H) (W : World) (base : Nat) (args : Array Value) (ds gs : List (DataW H)) (before : List MemPlace)
    (hval : ∀ (j : Nat) t v, Tryd.f5.params[j]? = some t → args[j]? = some v → Value.okWide Tryd.prog W .any base t v)
    (hW : DataW.Whole enc Tryd.prog Tryd.f5.params.toList Rows.wheeledSpec.vars false W args.toList ds gs before)
    (hL : laidMetH Tryd.prog Rows.wheeledRow.laid W) :
    Calls Tryd.prog 5 args W fun e W' => ∃ v, e = .returned v ∧ Rows.wheeledSpec.post enc Tryd.prog Tryd.f5 false true false false W args v W' := by
  have hW' := hW
  obtain ⟨p, q, hA0, hV, rfl, hfz, hnd⟩ := hW
  have hA : DataW.TrodAll enc Tryd.prog W 0 (fun _ => true) true Tryd.f5.params.toList args.toList ds p := hA0
  rw [Tryd.params5] at hA hval
  obtain ⟨v0, vs0, d0, ds0, p0, q0, hargs, rfl, rfl, h0, r0⟩ := trodAll_cons hA
  obtain ⟨v1, vs1, d1, ds1, p1, q1, rfl, rfl, rfl, h1, r1⟩ := trodAll_cons r0
  obtain ⟨rfl, rfl, rfl⟩ := trodAll_nil r1
  obtain rfl : args = #[v0, v1] := by cases args; simp_all
  obtain ⟨rfl, rfl⟩ := trodVars_none hV
  obtain ⟨x1, rfl, rfl, rfl, w1⟩ := open_int Tryd.underlying34 (hval 1 34 v1 rfl rfl) h1
  clear hA0 hA r0 r1
  simp only [List.append_nil] at hW'
  have hlt : ∀ x ∈ p0, x.block < W.heap.size := fun x hx => by simpa using hW'.lt x hx
  have harg : ∀ W' : World, Below W.heap.size W W' → DataW.Trod enc Tryd.prog W' 0 (fun b => decide (b < W.heap.size)) true 41 v0 d0 p0 :=
    fun W' hb => Below.trod laidOut (by kernel_rfl) (of_decide_eq_true (by kernel_rfl)) h0 hb hlt
  obtain ⟨a, c, l, rfl, hs, hok, hlen⟩ := open_script (hval 0 41 v0 rfl rfl) h0
  obtain ⟨b1, b2⟩ := of_wf_u64 w1
  refine (wheeled_any W a c l x1 hs hok hlen b1 b2 (table hL) (errs hL)).mono fun e W' ⟨he, hb⟩ => ?_
  subst he
  refine ⟨_, rfl, _, _, _, [] ++ [], p0 ++ ([] ++ []), [], hW', ?_, ?_, rfl, hb.frame _, fun h => by cases h⟩
  · exact trodAll_cons_mk (shut_bool Tryd.underlying4 true) trodAll_mk0
  · exact trodAll_cons_mk (harg _ hb) (trodAll_cons_mk (shut_int Tryd.underlying34 w1) trodAll_mk0)

/-- The witness: no steps, in the world that holds what is listed. -/
def wargs : Array Value := #[.slice none 0 0, .int .u64 0]
theorem laid_met (os : Os) : laidMetH Tryd.prog Rows.wheeledRow.laid ((Laid.laidWorld os).forCall (fun _ _ => 0) ⟨#[], wargs, []⟩).memory :=
  laidMetH_of_parts (laidMet_of_run' 8 (by kernel_rfl) (by kernel_rfl)) (by kernel_rfl)
theorem reads (os : Os) {H : Type} (enc : TypeId × Value → H) : ∃ places, DataW.whole enc Tryd.prog ((Laid.laidWorld os).forCall (fun _ _ => 0) ⟨#[], wargs, []⟩).memory Tryd.f5.params.toList Rows.wheeledSpec.vars false wargs.toList 8 = some ([.nil, .lit (.int .u64 0)], [], places) :=
  ⟨[], by kernel_rfl⟩

theorem lifted (os : Os) (started : os.Started) (H : Type) (enc : TypeId × Value → H) (F : Stop.Interp) :
    ReturnsInHanded {} Tryd.checked os 5 .any ((OpenSpec.ofChange Rows.wheeledSpec).preRow enc Tryd.prog Tryd.f5 Rows.wheeledRow.domain false Rows.wheeledRow.laid) (((OpenSpec.ofChange Rows.wheeledSpec).at F).post enc Tryd.prog Tryd.f5 false true false false) := by
  obtain ⟨places, hx⟩ := reads os enc
  refine returnsInHanded_of_row (C := Tryd.checked) (s := OpenSpec.ofChange Rows.wheeledSpec) own started (by kernel_rfl) Tryd.func5
    (witness_row_at (enc := enc) (C := Tryd.checked) false (Laid.laidWorld os) wargs rfl (by kernel_rfl) (by kernel_rfl) (by kernel_rfl)
      (OpenSpec.preRow_of_cond 8 hx (by kernel_rfl) (fun k hk => by cases hk) (by kernel_rfl) (laid_met os))) ?_
  intro W base args ds gs before hval hW _ _ _ hL _ _
  exact contract H enc W base args ds gs before hval hW hL

theorem said : Rows.WheeledSaid :=
  OpenClaim.holds_of_cond 5 Tryd.f5 rfl rfl rfl rfl rfl rfl rfl ⟨rfl, rfl, rfl, rfl, rfl⟩ rfl rfl rfl rfl rfl (by kernel_rfl) Tryd.func5 (by kernel_rfl)
    (of_decide_eq_true (by kernel_rfl)) (by unfold Func.isWrapper; first | (rw [if_pos (by decide +kernel)]; kernel_rfl) | (rw [if_neg (by decide +kernel)]; exact ⟨rfl, rfl⟩))
    (fun os started H enc _ F => by rw [OpenClaim.pre_eq_preRow]; exact lifted os started H enc F)

/-- What the card asks besides: the program's own looks are on; no parameter wants a stand-in. -/
theorem plain (f : FuncId) (fn : Func) (hf : Tryd.pinned.checked.prog.funcNamed "flowkeeper/flowkeeperlaw.Wheeled" = some f) (hfn : Tryd.pinned.checked.prog.funcs[f]? = some fn) :
    true = Tryd.pinned.checked.prog.looks [] ∧ ∀ (j : Nat) t, fn.params[j]? = some t → Tryd.pinned.checked.prog.wantsStandIn t = false := by
  obtain rfl : f = 5 := Option.some.inj ((show Tryd.prog.funcNamed "flowkeeper/flowkeeperlaw.Wheeled" = some 5 by kernel_rfl).symm.trans hf) |>.symm
  obtain rfl : fn = Tryd.f5 := (Option.some.inj (Tryd.func5.symm.trans hfn)).symm
  refine ⟨by kernel_rfl, fun j t ht => ?_⟩
  rw [Tryd.params5] at ht
  have hm := Array.mem_of_getElem? ht
  have h41 : Tryd.prog.wantsStandIn 41 = false := by kernel_rfl
  have h34 : Tryd.prog.wantsStandIn 34 = false := by kernel_rfl
  simp only [Array.mem_def, List.mem_cons, List.not_mem_nil, or_false] at hm
  rcases hm with rfl | rfl
  · exact h41
  · exact h34

/-- The card. -/
theorem card : Rows.WheeledCardSaid :=
  Claim7.holds_tied_plain_at .later [] _ _ _ _ said (fun _ h => by cases h) (by kernel_rfl) (fun _ h => by cases h) wheeled_row_tie rfl ⟨rfl, rfl⟩ (by kernel_rfl) rfl plain (by kernel_rfl)
end Go.Proofs.YtgdcjccbdmcebaaDoor.Whe
namespace Go.Proofs.YtgdcjccbdmcebaaDoor
/-- Wheeled, tied to the program's text. -/
theorem wheeled_card : Rows.WheeledCardSaid := Whe.card
end Go.Proofs.YtgdcjccbdmcebaaDoor
