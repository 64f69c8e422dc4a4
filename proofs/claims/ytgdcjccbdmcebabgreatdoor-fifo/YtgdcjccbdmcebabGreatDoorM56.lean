import Derived.Test.YtgdcjccbdmcebabGreatDoorM55
import Derived.Test.YtgdcjccbdmcebabGreatDoorCards
import Derived.Test.YtgdcjccbdmcebabGreatDoorTie
import Derived.OpenShut
import Derived.Lib.SmallJoins
import Derived.Deep.Slices
import Derived.SizedLaws
import Derived.Deep.DeepHandedRow
set_option linter.unusedSimpArgs false
set_option linter.unusedVariables false
namespace Go.Proofs.YtgdcjccbdmcebabGreatDoor.Fif
open Go.RowKit Go.ChangeShapes Go.WideShapes Go.ChangeAt Go.Joins Go.Deep Go.Proofs.YtgdcjccbdmcebabGreatDoor
set_option maxRecDepth 100000
theorem own:ownKnob Tryz.prog.godebug=none:=by kernel_rfl
theorem laidOut:laidOutB Tryz.prog=true:=by kernel_rfl
theorem cells3:Tryz.prog.cellsOf 3=1:=by kernel_rfl
theorem table {W:World}(h:laidMetH Tryz.prog Rows.fifoRow.laid W):TabIn W:=Laid.tab_of (laidMetH.filter (fun x=>x.1 == "math/bits.deBruijn64tab") h)
theorem errs {W:World}(h:laidMetH Tryz.prog Rows.fifoRow.laid W):ErrTypeIn W:=Laid.err_of (laidMetH.filter (fun x=>x.1 == "errors.errorType") h)
theorem nams {W:World}(h:laidMetH Tryz.prog Rows.fifoRow.laid W):Zbi W:=Laid.names_of (laidMetH.filter (fun x=>x.1 == "flowkeeper/logs.names") h)
theorem open_list {H:Type}{enc:TypeId×Value->H}{W:World}{base:Nat}{v:Value}{d:DataW H}{p:List MemPlace}(hval:Value.okWide Tryz.prog W .any base 22 v)
  (h:DataW.Trod enc Tryz.prog W 0 (fun _=>true) true 22 v d p):∃(a:Option Addr) (n c:Nat) (f:Nat->Int),v= .slice a n c/\IntsIn W a n c f:=by
 obtain⟨a0,len,cap,rfl⟩:=okWide_slice Tryz.underlying22 hval
 obtain⟨fuel,hf⟩:=h
 rcases open_ints Tryz.underlying22 Tryz.underlying3 cells3 hf with⟨e,_⟩ | ⟨a,n,c,zs,e,_,hl,hm,hz,_,hcell,hwf⟩
 ·simp only [Value.cells,List.cons.injEq,Value.slice.injEq,and_true] at e
  obtain⟨rfl,rfl,rfl⟩:=e
  exact⟨none,0,0,fun _=>0,rfl,Or.inl rfl,fun k hk=>by omega,fun k hk=>by omega,Nat.zero_le _⟩
 ·simp only [Value.cells,List.cons.injEq,Value.slice.injEq,and_true] at e
  obtain⟨rfl,rfl,rfl⟩:=e
  simp only [if_true] at hz
  have hb:∀k,k<len-> -9223372036854775808<=zs.getD k 0/\zs.getD k 0<=9223372036854775807:=fun k hk=>by
   refine bounds_i64 (hwf _ ?_)
   rw [List.getD_eq_getElem?_getD,List.getElem?_eq_getElem (by omega)]
   exact List.getElem_mem _
  refine⟨some a,len,cap,fun k=>zs.getD k 0,rfl,?_,fun k hk=>(hb k hk).1,fun k hk=>(hb k hk).2,by omega⟩
  by_cases h0:len=0
  ·exact Or.inl h0
  ·obtain⟨b,off,rfl,hc⟩:=ints_at hcell (by omega)
   exact Or.inr ⟨b,off,rfl,hl,hm,World.block_lt_of_cell? _ _ (hc 0 (by omega)),fun k hk=>hc k (by omega)⟩
theorem contract (H:Type)(enc:TypeId×Value->H)(W:World)(base:Nat)(args:Array Value)(ds gs:List (DataW H))(before:List MemPlace)
  (hval:∀(j:Nat) t v,Tryz.f3.params[j]? =some t->args[j]? =some v->Value.okWide Tryz.prog W .any base t v)
  (hW:DataW.Whole enc Tryz.prog Tryz.f3.params.toList Rows.fifoSpec.vars false W args.toList ds gs before)
  (hL:laidMetH Tryz.prog Rows.fifoRow.laid W) (hS:W.ShapedOpen Tryz.prog) :
  Calls Tryz.prog 3 args W fun e W'=>∃v,e= .returned v/\Rows.fifoSpec.post enc Tryz.prog Tryz.f3 false true false false W args v W':=by
 have hW':=hW
 obtain⟨p,q,hA0,hV,rfl,hfz,hnd⟩:=hW
 have hA:DataW.TrodAll enc Tryz.prog W 0 (fun _=>true) true Tryz.f3.params.toList args.toList ds p:=hA0
 rw [Tryz.params3] at hA hval
 obtain⟨v0,vs0,d0,ds0,p0,q0,hargs,rfl,rfl,h0,r0⟩:=trodAll_cons hA
 obtain⟨v1,vs1,d1,ds1,p1,q1,rfl,rfl,rfl,h1,r1⟩:=trodAll_cons r0
 obtain⟨rfl,rfl,rfl⟩:=trodAll_nil r1
 obtain rfl:args=#[v0,v1]:=by cases args;simp_all
 obtain⟨rfl,rfl⟩:=trodVars_none hV
 clear hA0 hA r0 r1
 simp only [List.append_nil] at hW'
 have hlt:∀x∈p0++p1,x.block<W.heap.size:=fun x hx=>by simpa using hW'.lt x hx
 have harg0:∀W':World,Below W.heap.size W W'->DataW.Trod enc Tryz.prog W' 0 (fun b=>decide (b<W.heap.size)) true 22 v0 d0 p0 :=
  fun W' hb=>Below.trod laidOut (by kernel_rfl) (of_decide_eq_true (by kernel_rfl)) h0 hb fun x hx=>hlt x (List.mem_append_left _ hx)
 have harg1:∀W':World,Below W.heap.size W W'->DataW.Trod enc Tryz.prog W' 0 (fun b=>decide (b<W.heap.size)) true 22 v1 d1 p1 :=
  fun W' hb=>Below.trod laidOut (by kernel_rfl) (of_decide_eq_true (by kernel_rfl)) h1 hb fun x hx=>hlt x (List.mem_append_right _ hx)
 obtain⟨a0,n0,c0,f0,rfl,hin0⟩:=open_list (hval 0 22 v0 rfl rfl) h0
 obtain⟨a1,n1,c1,f1,rfl,hin1⟩:=open_list (hval 1 22 v1 rfl rfl) h1
 refine (fifo_any W a0 a1 n0 c0 n1 c1 f0 f1 hin0 hin1 (errs hL) (nams hL) (table hL) (Laid.shape_lt hS) (Laid.tab_lt (table hL)) (Laid.err_lt (errs hL))).mono fun e W' ⟨he,hb⟩=> ?_
 subst he
 refine⟨_,rfl,_,_,_,[]++[],p0++(p1++[]),[],hW',?_,?_,rfl,hb.frame _,fun h=>by cases h⟩
 ·exact trodAll_cons_mk (shut_bool Tryz.underlying4 true) trodAll_mk0
 ·exact trodAll_cons_mk (harg0 _ hb) (trodAll_cons_mk (harg1 _ hb) trodAll_mk0)
def wargs:Array Value:=#[.slice none 0 0, .slice none 0 0]
theorem laid_met (os:Os):laidMetH Tryz.prog Rows.fifoRow.laid ((Laid.namWorld os).forCall (fun _ _=>0) ⟨#[],wargs,[]⟩).memory :=
 laidMetH_of_parts (laidMet_of_run' 8 (by kernel_rfl) (by kernel_rfl)) (by kernel_rfl)
theorem reads (os:Os){H:Type}(enc:TypeId×Value->H):∃places,DataW.whole enc Tryz.prog ((Laid.namWorld os).forCall (fun _ _=>0) ⟨#[],wargs,[]⟩).memory Tryz.f3.params.toList Rows.fifoSpec.vars false wargs.toList 8=some ([.nil, .nil],[],places) :=
 ⟨[],by kernel_rfl⟩
theorem lifted (os:Os)(started:os.Started)(H:Type)(enc:TypeId×Value->H)(F:Stop.Interp) :
  ReturnsInHanded {} Tryz.checked os 3 .any ((OpenSpec.ofChange Rows.fifoSpec).preRow enc Tryz.prog Tryz.f3 Rows.fifoRow.domain false Rows.fifoRow.laid) (((OpenSpec.ofChange Rows.fifoSpec).at F).post enc Tryz.prog Tryz.f3 false true false false):=by
 obtain⟨places,hx⟩:=reads os enc
 refine returnsInHanded_of_row (C:=Tryz.checked) (s:=OpenSpec.ofChange Rows.fifoSpec) own started (by kernel_rfl) Tryz.func3
  (witness_row_at (enc:=enc) (C:=Tryz.checked) false (Laid.namWorld os) wargs rfl (by kernel_rfl) (by kernel_rfl) (by kernel_rfl)
   (OpenSpec.preRow_of_cond 8 hx (by kernel_rfl) (fun k hk=>by cases hk) (by kernel_rfl) (laid_met os))) ?_
 intro W base args ds gs before hval hW _ _ _ hL hS _
 exact contract H enc W base args ds gs before hval hW hL hS
theorem said:Rows.FifoSaid :=
 OpenClaim.holds_of_cond 3 Tryz.f3 rfl rfl rfl rfl rfl rfl rfl ⟨rfl,rfl,rfl,rfl,rfl⟩ rfl rfl rfl rfl rfl (by kernel_rfl) Tryz.func3 (by kernel_rfl)
  (of_decide_eq_true (by kernel_rfl)) (by unfold Func.isWrapper;first | (rw [if_pos (by decide +kernel)];kernel_rfl) | (rw [if_neg (by decide +kernel)];exact⟨rfl,rfl⟩))
  (fun os started H enc _ F=>by rw [OpenClaim.pre_eq_preRow];exact lifted os started H enc F)
theorem plain (f:FuncId)(fn:Func)(hf:Tryz.pinned.checked.prog.funcNamed "flowkeeper/flowkeeperkeep.Fifo"=some f)(hfn:Tryz.pinned.checked.prog.funcs[f]? =some fn) :
  true=Tryz.pinned.checked.prog.looks []/\∀(j:Nat) t,fn.params[j]? =some t->Tryz.pinned.checked.prog.wantsStandIn t=false:=by
 obtain rfl:f=3:=Option.some.inj ((show Tryz.prog.funcNamed "flowkeeper/flowkeeperkeep.Fifo"=some 3 by kernel_rfl).symm.trans hf) |>.symm
 obtain rfl:fn=Tryz.f3:=(Option.some.inj (Tryz.func3.symm.trans hfn)).symm
 refine⟨by kernel_rfl,fun j t ht=> ?_⟩
 rw [Tryz.params3] at ht
 have hm:=Array.mem_of_getElem? ht
 have h25:Tryz.prog.wantsStandIn 22=false:=by kernel_rfl
 simp only [Array.mem_def,List.mem_cons,List.not_mem_nil,or_false] at hm
 rcases hm with rfl | rfl
 ·exact h25
 ·exact h25
theorem card:Rows.FifoCardSaid :=
 Claim7.holds_tied_plain_at .later [] _ _ _ _ said (fun _ h=>by cases h) (by kernel_rfl) (fun _ h=>by cases h) fifo_row_tie rfl ⟨rfl,rfl⟩ (by kernel_rfl) rfl plain (by kernel_rfl)
end Go.Proofs.YtgdcjccbdmcebabGreatDoor.Fif
namespace Go.Proofs.YtgdcjccbdmcebabGreatDoor
theorem fifo_card:Rows.FifoCardSaid:=Fif.card
end Go.Proofs.YtgdcjccbdmcebabGreatDoor
