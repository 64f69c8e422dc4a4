import Derived.Test.YtgdcjccbdmcebabGreatDoorM22
import Derived.Shelf.SlicesQ.Index
import Derived.Laws.StructEq
import Derived.Deep.RegionHeld3
import Derived.Deep.RegionLaw
import Derived.Deep.DrawnRows
import Derived.Deep.AppendLies
import Derived.Lib.SliceRun
import Derived.Shelf.RegionOpenPlain
set_option linter.unusedSimpArgs false
set_option linter.unusedVariables false
namespace Go.Proofs.YtgdcjccbdmcebabGreatDoor
open Go.RowKit Go.Shelf
set_option maxRecDepth 100000
def lays_idx_ren:Go.Shelf.Ren:=⟨fun | 6=>195 | n=>n,fun | 0=>0 | 3=>3 | 4=>4 | 22=>133 | 24=>183 | n=>n,fun | n=>n⟩
theorem lays_idx:Go.Proofs.SlLaysQ.n6 Tryz.prog lays_idx_ren:={
 mixed:=by kernel_rfl
 f6:=⟨Tryz.f195.name,by kernel_rfl,Tryz.func195.trans (congrArg some (by kernel_rfl))⟩
 t0:=Tryz.underlying0
 a0:=Tryz.isAgg0
 z0:=Tryz.sizeOf0
 v0:=Tryz.zeroValue0
 t3:=Tryz.underlying3
 a3:=Tryz.isAgg3
 z3:=Tryz.sizeOf3
 v3:=Tryz.zeroValue3
 t4:=Tryz.underlying4
 a4:=Tryz.isAgg4
 z4:=Tryz.sizeOf4
 v4:=Tryz.zeroValue4
 t22:=Tryz.underlying133
 a22:=Tryz.isAgg133
 z22:=Tryz.sizeOf133
 v22:=Tryz.zeroValue133 }
def keyEq (x y:Int):Bool:=x / 64 == y / 64&&x / 4 % 16 == y / 4 % 16&&x % 4 == y % 4
theorem keyEq_iff {x y:Int}:keyEq x y=true↔x=y:=by
 unfold keyEq
 simp only [Bool.and_eq_true,beq_iff_eq]
 constructor
 ·intro h;omega
 ·rintro rfl;simp
theorem eqK:EqlAt Tryz.prog 183 (fun x=> .agg (keyC x).toArray) keyEq:=by
 refine⟨fun x y w=> ?_,GuardAt.agg _ (by kernel_rfl)⟩
 have u3:=Tryz.underlying3
 have a3:=Tryz.isAgg3
 have z3:=Tryz.sizeOf3
 have hS:Tryz.prog.underlying 183=some (.struct (Tryz.prog.fieldsOf 183)):=by kernel_rfl
 have hp:Tryz.prog.stoodInHeld 183=false:=by kernel_rfl
 simp only [keyC]
 rw [run_eql_struct,show (10000:Nat)=9999+1 from rfl,run_equalIn_agg w 9999 183 _ _ hS hp]
 simp only [Program.fieldsOf,Tryz.underlying183]
 go_simp
 unfold keyEq
 by_cases h1:x / 64=y / 64<;>by_cases h2:x / 4 % 16=y / 4 % 16<;>by_cases h3:x % 4=y % 4<;>simp [h1,h2,h3]
theorem sizeOfK:∀w,(Go.sizeOf 183).run Tryz.prog w= .ok 3 w:=Tryz.sizeOf183
theorem idx_any (w:World)(B:Nat)(a:Option Addr)(n c:Nat)(l:List Int)(i:Nat)(id:Int)(h:w.ownsRow B 183 3 (.slice a n c) n (idsL l))(hn:l.length=n)(hi:i<n)(he:l.getD i 0=id)(hne:∀j,j<i->l.getD j 0≠id) :
  Calls Tryz.prog 195 #[.slice a n c, .agg (keyC id).toArray] w fun e w'=>e= .returned (.int .i64 i)/\∃q,w'=(w.alloc (.cells (keyC id).toArray 183)).drewN q:=by
 rcases h.2 with⟨h1,h2⟩ | ⟨g,cap,cur,h1,hg,hh,h3,h4,h5,h6⟩
 ·omega
 ·obtain⟨rfl,_,rfl⟩:a=some ⟨g,0,none⟩/\n=n/\c=cap:=by simpa using h1
  unfold maxLen at h4
  have hc:∀j,j<l.length->∀i v,(keyC l[j]!)[i]? =some v->w.cell? ⟨g,0+j * 3+i,none⟩=some v:=fun j hj i v hv=>by
   have hi3:i<3:=by have:=(List.getElem?_eq_some_iff.1 hv).1;rw [Zdp] at this;exact this
   have e:=idsL_at l hj hi3
   have e2:l.getD j 0=l[j]! :=by rw [List.getD_eq_getElem?_getD,List.getElem!_eq_getElem?_getD];rfl
   rw [e2,hv] at e
   rw [Nat.zero_add,h.cellAt (j * 3+i) (by omega),e]
  have:=AnyQ.slices_Index lays_idx 3 Tryz.isAgg183 sizeOfK keyC Zdp keyEq eqK g 0 n c l id w (by omega) (by omega) hc
  refine this.mono ?_
  rintro e w' ⟨rfl,hw'⟩
  refine⟨?_,hw'⟩
  have e2:∀j,j<l.length->l.getD j 0=l[j]! :=fun j _=>by rw [List.getD_eq_getElem?_getD,List.getElem!_eq_getElem?_getD];rfl
  rw [Lib.idxBy_hit keyEq l n i id hi (by omega) (by rw [<-e2 i (by omega),he];exact keyEq_iff.2 rfl) (fun j hj=>by
   have h7:=hne j hj
   rw [e2 j (by omega)] at h7
   cases h8:keyEq id l[j]!
   ·rfl
   ·exact absurd (keyEq_iff.1 h8).symm h7)]
theorem zeroK (w:World):(zeroValue 183).run Tryz.prog w= .ok (.agg #[.int .u64 0, .int .i64 0, .int .i64 0]) w:=by kernel_rfl
theorem infoK:(Tryz.prog.info? 183).map (fun i=>(i.zero,i.size,i.bytes))=some (some (.agg #[.int .u64 0, .int .i64 0, .int .i64 0]),3,24):=by kernel_rfl
theorem run_clear_one {P:Program}(w:World)(t e ty:TypeId)(z:Value)(ht:P.underlying t=some (.slice e))(hv:∀w,(zeroValue e).run P w= .ok z w)(zs:List Value)(hz:(Builtin.zeroCells z.cells 1).toList=zs)(h1:∀v∈zs,v.oneCell'=true)(b o c:Nat)
  (hc:∀j,j<zs.length->(w.cell? ⟨b,o+j,none⟩).isSome=true) (hf:∀j,j<zs.length->w.frozen? ⟨b,o+j,none⟩=false) :
  (Builtin.clear_ #[t] ty #[.slice (some ⟨b,o,none⟩) 1 c]).run P w= .ok (.tuple #[]) (w.setCells b o zs):=by
 have hst:=run_storeCells_cells (P:=P) b o zs 0 w (by simpa using hc) (by simpa using hf) h1
 simp only [Nat.add_zero] at hst
 simp [Builtin.clear_,run_underlying ht,hv,hz,hst]
theorem Zc6 (g:Nat)(e:TypeId):∀(vs:List Value) (o:Nat) (w:World) (cur:Array Value),w.heap[g]? =some (.cells cur e (0,0))->o+vs.length<=cur.size->∃cur',(w.setCells g o vs).heap[g]? =some (.cells cur' e (0,0))/\cur'.size=cur.size/\cur'.toList.take (o+vs.length)=cur.toList.take o++vs
 | [],o,w,cur,h,_=>⟨cur,h,rfl,by simp⟩
 | v::r,o,w,cur,h,hl=>by
  have h2:(w.setCell ⟨g,o,none⟩ v).heap[g]? =some (.cells (cur.setIfInBounds o v) e (0,0)):=by
   simp [World.setCell,Array.getElem?_modify,h]
  obtain⟨cur',h3,h4,h5⟩:=Zc6 g e r (o+1) (w.setCell ⟨g,o,none⟩ v) (cur.setIfInBounds o v) h2 (by simp at hl ⊢;omega)
  refine⟨cur',h3,by simpa using h4,?_⟩
  simp only [List.length_cons] at hl ⊢
  rw [show o+(r.length+1)=o+1+r.length by omega,h5,Array.toList_setIfInBounds,List.take_set,List.take_add_one]
  have ho:o<cur.toList.length:=by simp;omega
  rw [List.getElem?_eq_getElem ho,Option.toList_some,List.set_append_right _ _ (by simp;omega)]
  have:o - (List.take o cur.toList).length=0:=by simp;omega
  rw [this]
  simp
theorem Zbs:∀(vs:List Value) (g o:Nat) (x:World),(x.setCells g o vs).heap.size=x.heap.size
 | [],_,_,_=>rfl
 | v::r,g,o,x=>by rw [World.setCells,Zbs r];simp [World.setCell]
theorem Zb6:∀(vs:List Value) (g o:Nat) (x:World),(x.setCells g o vs).os=x.os/\(x.setCells g o vs).tape=x.tape/\(x.setCells g o vs).output=x.output
 | [],_,_,_=>⟨rfl,rfl,rfl⟩
 | v::r,g,o,x=>by rw [World.setCells];exact Zb6 r _ _ _
theorem idsL_take (l:List Int)(i:Nat):(idsL l).take (i * 3)=idsL (l.take i):=by
 induction l generalizing i with
 | nil=>simp [idsL]
 | cons a l ih =>
  cases i with
  | zero=>simp [idsL]
  | succ i =>
   have:=ih i
   unfold idsL at *
   rw [List.flatMap_cons,List.take_succ_cons,List.flatMap_cons,List.take_append,Zdp,List.take_of_length_le (by rw [Zdp];omega),show (i+1) * 3 - 3=i * 3 by omega,this]
theorem idsL_one (l:List Int):∀u∈idsL l,u.oneCell'=true:=by
 intro u hu
 obtain⟨x,_,hx⟩:=List.mem_flatMap.1 hu
 simp only [keyC,List.mem_cons,List.not_mem_nil,or_false] at hx
 rcases hx with rfl | rfl | rfl<;>rfl
theorem zc1:(Builtin.zeroCells (Value.agg #[.int .u64 0, .int .i64 0, .int .i64 0]).cells 1).toList=[.int .u64 0, .int .i64 0, .int .i64 0]:=by kernel_rfl
set_option maxHeartbeats 2000000 in
theorem del_any (w:World)(B:Nat)(a:Option Addr)(n c:Nat)(l:List Int)(i:Nat)(h:w.ownsRow B 183 3 (.slice a n c) n (idsL l))(hn:l.length=n)(hi:i<n) :
  Calls Tryz.prog 196 #[.slice a n c, .int .i64 i, .int .i64 (i+1:Nat)] w fun e w'=>e= .returned (.slice a (n - 1) c)/\w'.ownsRow B 183 3 (.slice a (n - 1) c) (n - 1) (idsL (l.take i++l.drop (i+1)))/\w.grownBy w' (Value.slice a n c).ownBlock/\w'.heap.size=w.heap.size:=by
 rcases h.2 with⟨h1,h2⟩ | ⟨g,cap,cur,h1,hg,hh,h3,h4,h5,h6⟩
 ·omega
 ·obtain⟨rfl,_,rfl⟩:a=some ⟨g,0,none⟩/\n=n/\c=cap:=by simpa using h1
  have h4':=h4
  unfold maxLen at h4'
  have HO:=Hid.mk h
  obtain⟨news,hnews⟩:∃news,news=idsL (l.drop (i+1)):=⟨_,rfl⟩
  have hlen:news.length=(n - (i+1)) * 3:=by rw [hnews,Zdc,List.length_drop,hn]
  obtain⟨i3,hi3,hz0,hz1,hz2⟩:=info_parts infoK
  have HI:=Hid.mk (And.intro hi3 hz1)
  have HL:=Hid.mk hlen
  have HN:=Hid.mk hnews
  have g1:(IntKind.i64.wrap ((i+1:Nat):Int))=((i+1:Nat):Int):=by rw [IntKind.wrap_i64];omega
  have g2:((i:Int) == ((i+1:Nat):Int))=false:=by simp;omega
  have hcell:∀t,t<n * 3->w.cell? ⟨g,t,none⟩=(idsL l)[t]? :=fun t ht=>h.cellAt t ht
  have hfr:∀t,w.frozen? ⟨g,t,none⟩=false:=fun t=>h.frozenAt t
  obtain⟨A,hA,hsrc⟩:∃A:Addr,(if c=i+1 then (some (⟨g,0,none⟩:Addr)) else some ⟨g,(i+1) * 3,none⟩)=some A/\Hid (∀t u,news[t]? =some u->w.drew.cell? (A.add t)=some u):=by
   by_cases hci:c=i+1
   ·refine⟨⟨g,0,none⟩,by simp [hci],fun t u hu=> ?_⟩
    have h0:news.length=0:=by rw [hlen];omega
    rw [List.length_eq_zero_iff.1 h0] at hu
    simp at hu
   ·refine⟨⟨g,(i+1) * 3,none⟩,by simp [hci],fun t u hu=> ?_⟩
    have ht:t<(n - (i+1)) * 3:=by
     have:=(List.getElem?_eq_some_iff.1 hu).1
     rwa [hlen] at this
    rw [Zb5]
    refine (hcell ((i+1) * 3+t) (by omega)).trans ?_
    rw [<-hu,hnews]
    have e1:idsL l=idsL (l.take (i+1))++idsL (l.drop (i+1)):=by rw [<-idsL_append,List.take_append_drop]
    rw [e1,List.getElem?_append_right (by rw [Zdc,List.length_take];omega),Zdc,List.length_take,Nat.min_eq_left (by omega),Nat.add_sub_cancel_left]
  have s2:Hid (∀u∈news,u.oneCell'=true):=by rw [hnews];exact idsL_one _
  have s3:Hid (∀t,t<news.length->(w.drew.cell? ⟨g,0+i * 3+t,none⟩).isSome=true/\w.drew.frozen? ⟨g,0+i * 3+t,none⟩=false):=by
   intro t ht
   rw [hlen] at ht
   refine⟨?_,hfr _⟩
   show (w.cell? _).isSome=true
   rw [hcell _ (by omega),List.getElem?_eq_getElem (by rw [Zdc,hn];omega)]
   rfl
  have hic:i<=c:=by omega
  have hjc:i+1<=c:=by omega
  have hjn:(0:Int)<=(i:Int)+1/\(i:Int)+1<=(n:Int):=⟨by omega,by omega⟩
  have HC:=Hid.mk (And.intro hh h6)
  clear h hh h6 hz0 hz1 hz2 hi3 hlen hnews hcell hfr
  go_enter Tryz.func196,Tryz.ntmps196
  go_wp2_with fail
  go_region_law (refine step_append_room rfl (.tmp 22) (.tmp 25) 133 rfl 183 i3 3 Tryz.underlying133 HI.out.1 HI.out.2 g 0 i c (by simp [Act.eval,Act.put]) A (n - (i+1)) (c - (i+1)) news (by simp [Act.eval,Act.put]) HL.out hsrc.out s2.out (by omega) s3.out ?_)
  rw [show i+(n - (i+1))=n - 1 by omega]
  have hw1:Hid (∃cur',(w.drew.setCells g (i * 3) news).heap[g]? =some (.cells cur' 183 (0,0))/\cur'.size=c * 3/\cur'.toList.take ((n - 1) * 3)=idsL (l.take i++l.drop (i+1))):=by
   obtain⟨k1,k2⟩:=HC.out
   have hl:=HL.out
   obtain⟨cur',q1,q2,q3⟩:=Zc6 g 183 news (i * 3) w.drew cur k1 (by omega)
   refine⟨cur',q1,by omega,?_⟩
   have e1:cur.toList.take (i * 3)=idsL (l.take i):=by
    have:cur.toList.take (i * 3)=(cur.toList.take (n * 3)).take (i * 3):=by rw [List.take_take,Nat.min_eq_left (by omega)]
    rw [this,k2,idsL_take]
   rw [show (n - 1) * 3=i * 3+news.length by omega,q3,e1,HN.out,idsL_append]
  obtain⟨W1,hW1⟩:∃W1,W1=w.drew.setCells g (i * 3) news:=⟨_,rfl⟩
  have hwk:Hid (W1=w.drew.setCells g (i * 3) news):=hW1
  rw [<-hW1] at hw1 ⊢
  have hcl:∀ty,(Builtin.clear_ #[133] ty #[.slice (some ⟨g,(n - 1) * 3,none⟩) 1 (c - (n - 1))]).run Tryz.prog W1= .ok (.tuple #[]) (W1.setCells g ((n - 1) * 3) [.int .u64 0, .int .i64 0, .int .i64 0]):=by
   intro ty
   obtain⟨cur',k1,k2,_⟩:=hw1.out
   refine run_clear_one W1 133 183 ty (.agg #[.int .u64 0, .int .i64 0, .int .i64 0]) Tryz.underlying133 zeroK _ zc1 (by simp [Value.oneCell']) g ((n - 1) * 3) (c - (n - 1)) (fun j hj=> ?_) (fun j _=> ?_)
   ·simp only [List.length_cons,List.length_nil] at hj
    rw [World.cell?,k1]
    simp
    omega
   ·simp [World.frozen?,k1]
  have g5:n - (n - 1)=1:=by omega
  have g6:n - 1<=n:=by omega
  have g7:n<=c:=h3
  have g8:((n - 1:Nat):Int)<=(n:Int):=by omega
  have g9:¬(c=n - 1):=by omega
  clear hW1
  go_wp2_with fail
  go_ret
  obtain⟨cur',k1,k2,k3⟩:=hw1.out
  obtain⟨cur2,q1,q2,q3⟩:=Zc6 g 183 [.int .u64 0, .int .i64 0, .int .i64 0] ((n - 1) * 3) W1 cur' k1 (by simp;omega)
  have e0:=hwk.out
  refine⟨rfl,⟨by rw [Zdc];simp;omega,Or.inr ⟨g,c,cur2,rfl,hg,q1,by omega,h4,by omega,?_⟩⟩,⟨?_,?_,?_,?_,?_⟩,?_⟩
  ·have:=congrArg (List.take ((n - 1) * 3)) q3
   rw [List.take_take,Nat.min_eq_left (by omega),List.take_append_of_le_length (by rw [List.length_take,Array.length_toList];omega),List.take_take,Nat.min_self] at this
   rw [this,k3]
  ·rw [(Zb6 _ _ _ _).1,e0,(Zb6 _ _ _ _).1];rfl
  ·rw [(Zb6 _ _ _ _).2.1,e0,(Zb6 _ _ _ _).2.1];rfl
  ·rw [(Zb6 _ _ _ _).2.2,e0,(Zb6 _ _ _ _).2.2];rfl
  ·rw [Zbs,e0,Zbs];exact Nat.le_refl _
  ·intro k hk hne
   have hkg:k≠g:=fun e=>hne (by rw [e];rfl)
   refine (World.heap_setCells_other W1 g _ _ (by rw [e0,Zbs];exact hk) hkg).trans ?_
   rw [e0]
   exact World.heap_setCells_other w.drew g _ _ hk hkg
  ·rw [Zbs,e0,Zbs];rfl
end Go.Proofs.YtgdcjccbdmcebabGreatDoor
namespace Go.Proofs.YtgdcjccbdmcebabGreatDoor
open Go.RowKit
set_option maxRecDepth 100000
attribute [local go_sem ↓] Go.wp_at_zero Go.wp_at_succ
theorem PwAt.at_ {w:World}{P B:Nat}{K:Nat->Prop}{now:Nat}{dm:Value}{rw_:Nat->Value}{ls:Nat->List Int}{wd:Nat->Nat}(h:PwAt w P B K now dm rw_ ls wd){L s k:Nat}(hk:L * 64+s=k)(h1:k<704):w.cell? ⟨P,13+L * 64+s,none⟩=some (rw_ k):=by
 subst hk
 rw [Nat.add_assoc]
 exact h.cs _ h1
theorem map_ne {w:World}{D:DataW Unit}{bm n':Nat}(h:Za8 D w bm n'){B:Nat}{e:TypeId}{size n:Nat}{v:Value}{xs:List Value}(g:w.ownsRow B e size v n xs):some bm≠v.ownBlock:=by
 obtain⟨es,clock,hb,_⟩:=h
 intro e2
 rcases g.2 with⟨rfl,_⟩ | ⟨z,cap,cur,rfl,_,hh,_⟩
 ·simp [Value.ownBlock] at e2
 ·simp only [Value.ownBlock,Option.some.injEq] at e2
  subst e2
  rw [hb] at hh
  cases hh
structure Near (w w':World)(P:Nat)(o v:Value):Prop where
 size:w.heap.size<=w'.heap.size
 at_:∀z,v.ownBlock=some z->o.ownBlock=some z\/w.heap.size<=z
 block:∀j,j<w.heap.size->j≠P->some j≠o.ownBlock->w'.heap[j]? =w.heap[j]?
theorem PwAt.more {w w7:World}{P B:Nat}{K:Nat->Prop}{now:Nat}{dm:Value}{rw_:Nat->Value}{ls:Nat->List Int}{wd:Nat->Nat}(h:PwAt w P B K now dm rw_ ls wd){k n c gg gcap L s:Nat}{a:Option Addr}(hk704:k<704)(hk:k=L * 64+s)(hv:rw_ k= .slice a n c)(hn:n=(ls k).length){id:Int}{o:Obj}{D:DataW Unit}{bm nn:Nat}(hm:Za8 D w bm nn)(hbm:B<=bm)
  (hown:w7.ownsRow B 183 3 (.slice (some ⟨gg,0,none⟩) (n+1) gcap) (n+1) (idsL (ls k)++keyC id)) (hg:(w.alloc o).drew.grownBy w7 (Value.slice a n c).ownBlock) (hat:(Value.slice a n c).ownBlock=some gg\/gg=w.heap.size+1) :
  PwAt (w7.setCell ⟨P,13+L * 64+s,none⟩ (.slice (some ⟨gg,0,none⟩) (n+1) gcap)) P B K now dm (updF rw_ k (.slice (some ⟨gg,0,none⟩) (n+1) gcap)) (updF ls k (ls k++[id])) wd/\Za8 D (w7.setCell ⟨P,13+L * 64+s,none⟩ (.slice (some ⟨gg,0,none⟩) (n+1) gcap)) bm nn/\PF w (w7.setCell ⟨P,13+L * 64+s,none⟩ (.slice (some ⟨gg,0,none⟩) (n+1) gcap)) P B K/\Near w (w7.setCell ⟨P,13+L * 64+s,none⟩ (.slice (some ⟨gg,0,none⟩) (n+1) gcap)) P (rw_ k) (.slice (some ⟨gg,0,none⟩) (n+1) gcap):=by
 have hs7:w.heap.size<=w7.heap.size:=by have:=hg.size;simp at this;omega
 have ho:=h.own k hk704
 rw [hv] at ho
 have ho2:=(ho.alloc o).drew
 have hm2:Za8 D (w.alloc o).drew bm nn:=World.ownsMap.alloc hm o
 have hblk:∀j,j<w.heap.size->some j≠(rw_ k).ownBlock->w7.heap[j]? =w.heap[j]? :=fun j hj hne =>
   (hg.block j (by simp;omega) (by rw [<-hv];exact hne)).trans (Zaj w o j hj)
 have hatz:∀z,(Value.slice (some ⟨gg,0,none⟩) (n+1) gcap).ownBlock=some z->(rw_ k).ownBlock=some z\/w.heap.size<=z:=fun z hz=>by
   simp only [Value.ownBlock,Option.some.injEq] at hz
   subst hz
   rcases hat with e | e
   ·left;rw [hv];exact e
   ·right;omega
 refine⟨?_,?_,?_,⟨by simpa [World.setCell] using hs7,hatz,fun j hj hjP hne=>(Below.heap_setCell w7 ⟨P,13+L * 64+s,none⟩ _ j (by simpa using hjP)).trans (hblk j hj hne)⟩⟩
 ·have:=h.slot (w7:=w7) (k:=k) hk704 (v':= .slice (some ⟨gg,0,none⟩) (n+1) gcap) (xs:=ls k++[id]) (n':=n+1) (by rw [List.length_append,<-hn];rfl) hs7 hblk (by rw [idsL_append];simpa [idsL] using hown) hatz
  rwa [hk,<-Nat.add_assoc,<-hk] at this
 ·exact World.ownsMap.setCell (World.ownsMap.kept hm2 hg (map_ne hm2 ho2)) (by simp;have:=h.pb;omega) _
 ·have f1:PF w (w.alloc o).drew P B K:=PF.of_below (((Below.refl w.heap.size w).alloc (Nat.le_refl _) o).drew)
  have f2:PF (w.alloc o).drew w7 P B K:=PF.of_grown hg (fun e=>by have:=(ho.lt P e.symm).1;have:=h.pb;omega) (own_int ho2) (fun z hz=>h.sp k hk704 z (by rw [hv];exact hz))
  exact (f1.trans f2).trans (PF.setP _ _ _ _ _ _ (by omega))
theorem or_bitW (x s:Nat)(hx:x<18446744073709551616)(hs:s<64):bits .or .u64 (x:Int) (IntKind.u64.wrap (2 ^ s))=((x ||| 2 ^ s:Nat):Int):=by
 have h2:2 ^ s<18446744073709551616:=by
  have:2 ^ s<2 ^ 64:=Nat.pow_lt_pow_right (by decide) hs
  omega
 have e:IntKind.u64.wrap ((2:Int) ^ s)=((2 ^ s:Nat):Int):=by
  have:(2:Int) ^ s=((2 ^ s:Nat):Int):=by norm_cast
  rw [this,IntKind.wrap_u64]
  generalize 2 ^ s=y at *
  omega
 rw [e,bits_or_u64_nat _ _ hx h2]
theorem boxed (w:World)(r nd q:Int)(b:Nat)(hb:b=w.heap.size):((w.alloc (.cells #[.int .u64 r, .int .i64 nd, .int .i64 q] 183)).cell? ⟨b,0,none⟩=some (.int .u64 r)/\(w.alloc (.cells #[.int .u64 r, .int .i64 nd, .int .i64 q] 183)).cell? ⟨b,1,none⟩=some (.int .i64 nd))/\(w.alloc (.cells #[.int .u64 r, .int .i64 nd, .int .i64 q] 183)).cell? ⟨b,2,none⟩=some (.int .i64 q):=by
 subst hb
 have h:=heap_alloc_new w (.cells #[.int .u64 r, .int .i64 nd, .int .i64 q] 183)
 refine⟨⟨?_,?_⟩,?_⟩<;>(unfold World.cell?;rw [h];rfl)
set_option maxHeartbeats 8000000 in
theorem put_any (w:World)(P B:Nat)(K:Nat->Prop)(now tn:Nat)(rw_:Nat->Value)(ls:Nat->List Int)(wd:Nat->Nat)(bm:Nat)(D:DataW Unit)(id r nd q:Int)(h:PwAt w P B K now (.map (some bm)) rw_ ls wd)(hd:Za8 D w bm (Maps.size D))(hbm:B<=bm)(hid:KeyOk r nd q id)(hat:D.atKey (keyL id) u0= .lit (.int .u64 tn))(hnow:now<=4611686018427387904)(htn:tn<=4611686018427387904)(hw:∀j,j<11->wd j<18446744073709551616)(hlen:(ls (pl now tn)).length<1048576) :
  Calls Tryz.prog 191 #[.pointer (some ⟨P,11,none⟩), .agg #[.int .u64 r, .int .i64 nd, .int .i64 q]] w fun e w'=>e= .returned (.tuple #[])/\∃v' x',PwAt w' P B K now (.map (some bm)) (updF rw_ (pl now tn) v') (updF ls (pl now tn) (ls (pl now tn)++[id])) (updF wd (lev now tn) x')/\x'=wd (lev now tn) ||| 2 ^ slt (lev now tn) tn/\Za8 D w' bm (Maps.size D)/\PF w w' P B K/\Near w w' P (rw_ (pl now tn)) v':=by
 have hkv:keyV id= .agg #[.int .u64 r, .int .i64 nd, .int .i64 q]:=by unfold keyV;rw [Zcw hid]
 obtain⟨w0,hw0⟩:∃w0,w0=w.alloc (.cells #[.int .u64 r, .int .i64 nd, .int .i64 q] 183):=⟨_,rfl⟩
 obtain⟨bx,hbx⟩:∃bx,bx=w.heap.size:=⟨_,rfl⟩
 obtain⟨⟨x0,x1⟩,x2⟩:=boxed w r nd q bx hbx
 have hB0:Below w.heap.size w w0:=by rw [hw0];exact (Below.refl _ _).alloc (Nat.le_refl _) _
 have hbx0:bx<w0.heap.size:=by rw [hw0,hbx];show w.heap.size<(w.heap.push _).size;rw [Array.size_push];omega
 have hd0:Za8 D w0 bm (Maps.size D):=by rw [hw0];exact World.ownsMap.alloc hd _
 rw [<-hw0] at x0 x1 x2
 have hrun:∀m,(Instr.lookup 132 (.map (some bm)) (.agg #[.int .u64 r, .int .i64 nd, .int .i64 q]) false).run Tryz.prog (w0.drewN m)= .ok (.int .u64 tn) (w0.drewN m):=fun m=>by
  obtain⟨c,hrun,hat2,_⟩:=World.ownsMap.lookup_int (q:= .u64) (w:=w0.drewN m) hd0 lawK Tryz.underlying132 Tryz.underlying39 (zeroU _) (Zc4 hid.ok)
  obtain rfl:c=(tn:Int):=by
   have:=hat2.symm.trans hat
   simpa using this
  rw [hkv] at hrun
  exact hrun
 have H:=Hid.mk (h.keep hB0)
 have HB0:=Hid.mk hB0
 have HKC:=Hid.mk (Zcw hid)
 have c0:=H.out.c0
 have c1:=H.out.c1
 clear h hd hB0 hid hat hkv
 go_enter Tryz.func191,Tryz.ntmps191
 go_upto_region 1 with fail
 rw [<-hbx,<-hw0]
 have HBX:=Hid.mk (And.intro hbx hw0)
 clear hbx hw0
 go_quiet ((go_at_call 194;refine Calls.quiet_of (place_any _ P now tn (by rw [World.cell?_drewN];exact c0) (by omega) (by omega))))
 go_wp2_with fail
 obtain⟨L,hL⟩:∃L,L=lev now tn:=⟨_,rfl⟩
 obtain⟨s,hs⟩:∃s,s=slt L tn:=⟨_,rfl⟩
 obtain⟨k,hk⟩:∃k,k=L * 64+s:=⟨_,rfl⟩
 have hpl:pl now tn=k:=by unfold pl;rw [hk,hs,hL]
 have hL10:L<11:=by have:=lev_top now tn hnow htn;omega
 have hs64:s<64:=by rw [hs];exact Zds _ _
 have hk704:k<704:=by omega
 rw [hpl] at hlen
 rw [<-hL,<-hs]
 have HQ:=Hid.mk (And.intro hL (And.intro hs (And.intro hk hpl)))
 have hb1:Below w0.heap.size w0 (w0.drewN nq):=⟨rfl,rfl,rfl,Nat.le_refl _,fun _ _=>rfl⟩
 have hbw:Below w.heap.size w (w0.drewN nq):=⟨HB0.out.os,HB0.out.tape,HB0.out.output,HB0.out.size,fun k hk=>HB0.out.block k hk⟩
 have HP1:=Hid.mk (H.out.keep hb1)
 have HM1:Hid (Za8 D (w0.drewN nq) bm (Maps.size D)):=Hid.mk hd0
 have HF1:=Hid.mk (PF.of_below (P:=P) (B:=B) (K:=K) hbw)
 have HN1:Hid (w.heap.size<=(w0.drewN nq).heap.size/\∀j,j<w.heap.size->(w0.drewN nq).heap[j]? =w.heap[j]?):=Hid.mk ⟨hbw.size,hbw.block⟩
 have z0:(w0.drewN nq).cell? ⟨bx,0,none⟩=some (.int .u64 r):=x0
 have z1:(w0.drewN nq).cell? ⟨bx,1,none⟩=some (.int .i64 nd):=x1
 have z2:(w0.drewN nq).cell? ⟨bx,2,none⟩=some (.int .i64 q):=x2
 have HW:=Hid.mk hw
 clear hL hs hpl hrun c0 c1 hd0 hb1 hbw hw x0 x1 x2 hbx0
 generalize w0.drewN nq=w1 at *
 obtain⟨a,c,hv⟩:=Za3 (HP1.out.own k hk704)
 obtain⟨n,hn⟩:∃n,n=(ls k).length:=⟨_,rfl⟩
 rw [<-hn] at hv hlen
 have HV:=Hid.mk (And.intro hv hn)
 have m1:=HP1.out.at_ (L:=L) (s:=s) hk.symm hk704
 rw [hv] at m1
 have m2:=HP1.out.fz (13+L * 64+s)
 have hown:=HP1.out.own k hk704
 rw [hv,<-hn] at hown
 have HO:=Hid.mk hown
 have hpb:=HP1.out.pb
 have hbs:=HP1.out.bs
 have hob:Hid (some P≠(Value.slice a n c).ownBlock):=Hid.mk fun e=>by have:=(HO.out.lt P e.symm).1;omega
 obtain⟨i3,hi,hz0,hz1,hz2⟩:=info_parts infoK
 have HI:=Hid.mk (And.intro hi (And.intro hz0 (And.intro hz1 hz2)))
 clear hv hn hown hi hz0 hz1 hz2 hk
 have g1:(L:Int)<11:=by omega
 have g2:(s:Int)<64:=by omega
 have m1a:=cell_later (((Below.refl w1.heap.size w1).alloc (Nat.le_refl _) (.cells #[.int .u64 r, .int .i64 nd, .int .i64 q] 183)).drew) m1
 have m1b:=cell_later ((Below.refl w1.heap.size w1).alloc (Nat.le_refl _) (.cells #[.int .u64 r, .int .i64 nd, .int .i64 q] 183)) m1
 go_region_law ((refine step_append_lies _ (by rfl) _ _ _ (by rfl) B 183 i3 _ 3 24 Tryz.underlying133 HI.out.1 HI.out.2.1 HI.out.2.2.1 HI.out.2.2.2 rfl (by omega) (.slice a n c) n (idsL (ls k)) (by rfl) ((HO.out.alloc _).drew) ⟨w1.heap.size,0,none⟩ 1 1 [.int .u64 r, .int .i64 nd, .int .i64 q] (by rfl) (by rfl) (World.news_of_block (cs:=#[.int .u64 r, .int .i64 nd, .int .i64 q]) (t:=183) (fr:=(0,0)) (heap_alloc_new w1 _)) (by simp [Value.oneCell']) (by omega) (by unfold maxLen;omega) (by omega) (by simp;omega) (w1.heap.size+1) (by simp) ?_;intro gg gcap w7 hown7 hgrow hat7 hlt;have s1:=(hgrow.cell_far ⟨P,13+L * 64+s,none⟩ (by simp;omega) hob.out).trans (cell_later (((Below.refl w1.heap.size w1).alloc (Nat.le_refl _) _).drew) m1);have sz:=(hgrow.frozen_far ⟨P,13+L * 64+s,none⟩ (by simp;omega) hob.out).trans (((((Below.refl w1.heap.size w1).alloc (Nat.le_refl _) (.cells #[.int .u64 r, .int .i64 nd, .int .i64 q] 183)).drew).frozen (p:=⟨P,13+L * 64+s,none⟩) (by simp only [];omega)).trans m2)))
 all_goals
  obtain⟨k1,k2,k3,k4⟩:=HP1.out.more hk704 HQ.out.2.2.1 HV.out.1 HV.out.2 HM1.out hbm (by rw [HKC.out];exact hown7) hgrow hat7
  have HP8:=Hid.mk k1
  have HM8:=Hid.mk k2
  have HF8:=Hid.mk (HF1.out.trans k3)
  have HE8:=Hid.mk k4
  have x1:=k1.cw L hL10
  have x2:=k1.fz (717+L)
  clear k1 k2 k3 k4 hown7 hgrow hat7 hlt s1 sz m1 m1a m1b m2
  generalize w7.setCell ⟨P,13+L * 64+s,none⟩ (.slice (some ⟨gg,0,none⟩) (n+1) gcap)=w8 at *
  go_wp2_with fail
  go_region
  all_goals
   have hbit:=or_bitW (wd L) s (HW.out L hL10) hs64
   rw [hbit]
   have HP9:=(HP8.out.setWord L (wd L ||| 2 ^ s) hL10).keep (((Below.refl _ _).drew))
   have HM9:Za8 D ((w8.setCell ⟨P,717+L,none⟩ (.int .u64 ((wd L ||| 2 ^ s:Nat):Int))).drew) bm (Maps.size D):=World.ownsMap.setCell HM8.out (by simp;omega) _
   have HF9:=(HF8.out.trans (PF.setP w8 P B K (717+L) (.int .u64 ((wd L ||| 2 ^ s:Nat):Int)) (by omega))).trans (PF.of_below ((Below.refl _ _).drew))
   have hQ:=HQ.out
   clear HQ
   obtain⟨q1,q2,q3,q4⟩:=hQ
   go_end0
   refine⟨rfl, .slice (some ⟨gg,0,none⟩) (n+1) gcap,wd L ||| 2 ^ s,?_,by rw [<-q1,<-q2],HM9,HF9,?_⟩
   ·rw [q4,<-q1]
    exact HP9
   ·rw [q4]
    have hE:=HE8.out
    refine⟨Nat.le_trans HN1.out.1 (by simpa [World.setCell] using hE.size),fun z hz=>(hE.at_ z hz).imp (fun e=>e) (fun e=>by have:=HN1.out.1;omega),fun j hj hjP hne=> ?_⟩
    exact (Below.heap_setCell w8 ⟨P,717+L,none⟩ _ j (by simpa using hjP)).trans ((hE.block j (by have:=HN1.out.1;omega) hjP hne).trans (HN1.out.2 j hj))
end Go.Proofs.YtgdcjccbdmcebabGreatDoor
