import Derived.Test.YtgdcjccbdmcebaaGreatDoorM23
set_option linter.all false
set_option maxHeartbeats 8000000
set_option maxRecDepth 100000
open Go.Proofs.Tryz
open Go renaming results_cell_tmp->QJv,cell_later->QFa,info_parts->QJk,wpList_append_own->QFb,wpList_append_lies->QJt,bodyPost_ret->QEz,heap_alloc_new->QFm
open Go.RowKit renaming ownsRow_setCell_below->QDu
open Go.Value renaming oneCell'->QFu,int->QJw,ownBlock->QCi,slice->QFv
open Go.World renaming setCell->QDw,cell?->QEk,news_of_block->QJh,frozen?_setCell->QEa,frozen?_of_block->QDx,ownsRow_nil->QEj,cell?_of_block->QEc
open List renaming map_append->QAp,getElem?_map->QEp,take_add_one->QEq,take_of_length_le->QCw
open Nat renaming zero_le->QBp,le_of_eq->QJx
open Option renaming some.injEq->QCf
namespace Go.Proofs.YtgdcjccbdmcebaaGreatDoor
open Go.RowKit
attribute [local go_sem ↓] Go.wp_at_zero Go.wp_at_succ
variable {w x w2:World}{rb i c1 c2 ib qh:Nat}{v v1 v2:Value}{g:Nat->Value}{a1 a2:Option Addr}{a b d id st:Int}{xs:List Value}
theorem Qe (w:World)(P B:Nat)(ob:Option Nat)(e:Ab)(h:BE qh w P B ob e) :
  Calls prog 141 #[.pointer (some ⟨P,4,none⟩)] w fun x w'=>x=.returned (.tuple #[.int .u64 e.time,.int .u64 e.Ar])/\ZY w w':=by
 obtain⟨rs,l,n,s⟩:=h;obtain⟨el,now,f,c,j⟩:=n.ex;have c0:=f.wh.VR;have c1:=f.sd;have k:∀m,Calls prog 208 #[.pointer (some ⟨P,11,none⟩)] (w.drewN m) fun x w'=>x=.returned (.int .u64 now)/\∃q,w'=(w.drewN m).drewN q:=fun m=>(Ry (w.drewN m) P now ((f.wh.Ak (below_drewN w m)).VR)).mono (by rintro x w' ⟨rfl,rfl⟩;exact⟨rfl,0,rfl⟩)
 have p:=Zz k;have r:=Zz c;clear n s f c j k
 go_enter func141,ntmps141
 go_upto_region 1 with fail
 go_quiet ((go_at_call 208;refine Calls.quiet_of (p.o _)))
 go_wp2_with fail
 go_ret2
 exact⟨by rw[r.o];rfl,below_drewN w _⟩
structure BD (w:World)(rb:Nat)(a b:Int)(v1 v2:Value):Prop where
 Au:w.heap[rb]? =some (.cells #[.int .u64 a,.int .i64 b,v1,v2] 50 (0,0))
theorem BD.cells (h:BD w rb a b v1 v2):((w.cell? ⟨rb,0,none⟩=some (.int .u64 a)/\w.cell? ⟨rb,1,none⟩=some (.int .i64 b))/\w.cell? ⟨rb,2,none⟩=some v1)/\w.cell? ⟨rb,3,none⟩=some v2:=by
 refine⟨⟨⟨?_,?_⟩,?_⟩,?_⟩<;>(unfold QEk;rw[h.Au];rfl)
theorem BD.AD (h:BD w rb a b v1 v2):((w.frozen? ⟨rb,0,none⟩=false/\w.frozen? ⟨rb,1,none⟩=false)/\w.frozen? ⟨rb,2,none⟩=false)/\w.frozen? ⟨rb,3,none⟩=false:=by
 refine⟨⟨⟨?_,?_⟩,?_⟩,?_⟩<;>simp[World.frozen?,h.Au]
theorem BD.at_ {w':World}(h:BD w rb a b v1 v2)(e:w'.heap[rb]? =w.heap[rb]?):BD w' rb a b v1 v2:=⟨e.trans h.Au⟩
theorem BD.set (w:World)(rb:Nat)(h:BD w rb a b v1 v2)(x y:Int)(z t:Value):BD ((((w.setCell ⟨rb,0,none⟩ (.int .u64 x)).setCell ⟨rb,1,none⟩ (.int .i64 y)).setCell ⟨rb,2,none⟩ z).setCell ⟨rb,3,none⟩ t) rb x y z t:=by
 refine⟨?_⟩;rw[Zab (Zab (Zab (Zab h.Au _) _) _) _]
 rfl
theorem BD.set2 (h:BD w rb a b v1 v2)(z:Value):BD (w.setCell ⟨rb,2,none⟩ z) rb a b z v2:=⟨by rw[Zab h.Au];rfl⟩
theorem BD.set3 (h:BD w rb a b v1 v2)(z:Value):BD (w.setCell ⟨rb,3,none⟩ z) rb a b v1 z:=⟨by rw[Zab h.Au];rfl⟩
theorem GO {n1 n2:Nat}(h:BD w rb a b (.slice a1 n1 c1) (.slice a2 n2 c2)):(loadVar 50 ⟨rb,0,none⟩).run prog w=.ok (.agg #[.int .u64 a,.int .i64 b,.slice a1 n1 c1,.slice a2 n2 c2]) w:=by
 obtain⟨⟨⟨z0,c⟩,z2⟩,z3⟩:=h.cells
 go_simp
def IL (id st:Int)(v1 v2:Value):Value:=.agg #[.int .u64 id,.int .i64 st,v1,v2]
def Ag.sts (r:Ag):List Int:=r.steps.map (·.st)
def Ag.trs (r:Ag):List Int:=r.steps.map (·.tries)
def Xu (r:Ag)(i:Nat):List Value:=(r.sts.take i).map (QJw .i64)
def Xw (r:Ag)(i:Nat):List Value:=(r.trs.take i).map (QJw .i64)
theorem WN {r:Ag}(h:i<r.steps.length):Xu r (i+1)=Xu r i++[.int .i64 (r.at_ i).st]:=by
 unfold Xu Ag.sts;rw[QEq,QAp,QEp,ZZ h];unfold Ag.at_;rw[ZQ,ZZ h]
 rfl
theorem Xe {r:Ag}(h:i<r.steps.length):Xw r (i+1)=Xw r i++[.int .i64 (r.at_ i).tries]:=by
 unfold Xw Ag.trs;rw[QEq,QAp,QEp,ZZ h];unfold Ag.at_;rw[ZQ,ZZ h]
 rfl
theorem Zt (r:Ag):Xu r r.steps.length=r.sts.map (QJw .i64):=by unfold Xu;rw[QCw (by unfold Ag.sts;simp)]
theorem ZE (r:Ag):Xw r r.steps.length=r.trs.map (QJw .i64):=by unfold Xw;rw[QCw (by unfold Ag.trs;simp)]
structure IE (w wr:World)(rb ib:Nat)(id st:Int)(d:Ag)(i:Nat)(a1 a2:Option Addr)(c1 c2:Nat):Prop where
 info:BD wr ib id st (.slice a1 i c1) (.slice a2 i c2)
 res:BD wr rb 0 0 (.slice none 0 0) (.slice none 0 0)
 r1:wr.ownsRow w.heap.size 3 1 (.slice a1 i c1) i (Xu d i)
 r2:wr.ownsRow w.heap.size 3 1 (.slice a2 i c2) i (Xw d i)
 ap:∀z,(QFv a1 i c1).ownBlock=some z->(QFv a2 i c2).ownBlock≠some z
 Db:ZY w wr
 BF:w.heap.size<=rb
 iw_:w.heap.size<=ib
 ne:rb≠ib
theorem IE.below {wr wx:World}{d:Ag}(h:IE w wr rb ib id st d i a1 a2 c1 c2)(hb:ZY wr wx):IE w wx rb ib id st d i a1 a2 c1 c2 :=
 ⟨h.info.at_ (hb.block _ (Zaa h.info.Au)),h.res.at_ (hb.block _ (Zaa h.res.Au)),Zak h.r1 hb,Zak h.r2 hb,h.ap,h.Db.trans (hb.mono h.Db.size),h.BF,h.iw_,h.ne⟩
structure Ps (w wr:World)(rb ib:Nat)(id st:Int)(d:Ag)(i:Nat)(a1 a2:Option Addr)(c1 c2:Nat):Prop where
 info:BD wr ib id st (.slice a1 (i+1) c1) (.slice a2 i c2)
 res:BD wr rb 0 0 (.slice none 0 0) (.slice none 0 0)
 r1:wr.ownsRow w.heap.size 3 1 (.slice a1 (i+1) c1) (i+1) (Xu d (i+1))
 r2:wr.ownsRow w.heap.size 3 1 (.slice a2 i c2) i (Xw d i)
 ap:∀z,(QFv a1 (i+1) c1).ownBlock=some z->(QFv a2 i c2).ownBlock≠some z
 Db:ZY w wr
 BF:w.heap.size<=rb
 iw_:w.heap.size<=ib
 ne:rb≠ib
theorem Zc1 {B n:Nat}(h:w.ownsRow B 3 1 v n xs)(hi:BD w rb a b v1 v2):v.ownBlock≠some rb:=fun e=>by
 rcases h.2 with⟨c,_⟩ | ⟨g,cap,cur,c,_,hh,_⟩
 .rw[c] at e;simp[QCi] at e
 .rw[c] at e
  simp only[QCi,QCf] at e;subst e;exact Zah hh hi.Au (by decide) rfl
theorem IE.one {wr k w7:World}{d:Ag}{gg f:Nat}{x:Value}(h:IE w wr rb ib id st d i a1 a2 c1 c2)(hi:i<d.steps.length)(t:x=.int .i64 (d.at_ i).st)(hb:ZY wr w2)(s:k=w2.alloc (.cells #[x] 3))
  (hown:w7.ownsRow w.heap.size 3 1 (.slice (some ⟨gg,0,none⟩) (i+1) f) (i+1) (Xu d i++[x])) (hg:k.grownBy w7 (QFv a1 i c1).ownBlock) (hat:(QFv a1 i c1).ownBlock=some gg\/gg=k.heap.size) :
  Ps w (w7.setCell ⟨ib,2,none⟩ (.slice (some ⟨gg,0,none⟩) (i+1) f)) rb ib id st d i (some ⟨gg,0,none⟩) a2 f c2:=by
 have c:=(h.below hb).below (wx:=k) (by rw[s];exact ZV.alloc ZU _);have n1:=Zc1 c.r1 c.info;have n2:=Zc1 c.r1 c.res;have r:w7.heap[ib]? =k.heap[ib]? :=hg.block ib (Zaa c.info.Au) (fun e=>n1 e.symm);have l:w7.heap[rb]? =k.heap[rb]? :=hg.block rb (Zaa c.res.Au) (fun e=>n2 e.symm);have m:=c.info.at_ r
 have o:(some gg:Option Nat)≠(QFv a2 i c2).ownBlock:=fun e=>by
  rcases hat with q | q
  .exact c.ap gg q e.symm
  .have:=(c.r2.lt gg e.symm).2;omega
 have p:w7.ownsRow w.heap.size 3 1 (.slice a2 i c2) i (Xw d i):=c.r2.kept hg (by
  by_cases e:(QFv a2 i c2).ownBlock=none
  .exact Zu e
  .refine Zj (fun l=> ?_)
   obtain⟨z,j⟩:=Option.ne_none_iff_exists'.1 e;rw[j] at l;exact c.ap z l.symm j)
 have n:ZY w w7:=c.Db.grown hg c.Db.size (fun z j=>(c.r1.lt z j).1);refine⟨m.set2 _,(c.res.at_ l).at_ (Zl _ _ _ _ c.ne),Zaf ?_ m.Au (by decide) _,Zaf p m.Au (by decide) _,fun z j e=>o ?_,n.setCell c.iw_ _,c.BF,c.iw_,c.ne⟩
 .rw[WN hi,<-t];exact hown
 .simp only[QCi,QCf] at j;rw[j];exact e.symm
theorem Ps.two {wr l w7:World}{d:Ag}{gg c:Nat}{x:Value}(h:Ps w wr rb ib id st d i a1 a2 c1 c2)(hi:i<d.steps.length)(y:x=.int .i64 (d.at_ i).tries)(u:l=wr.alloc (.cells #[x] 3))
  (hown:w7.ownsRow w.heap.size 3 1 (.slice (some ⟨gg,0,none⟩) (i+1) c) (i+1) (Xw d i++[x])) (hg:l.grownBy w7 (QFv a2 i c2).ownBlock) (hat:(QFv a2 i c2).ownBlock=some gg\/gg=l.heap.size) :
  IE w (w7.setCell ⟨ib,3,none⟩ (.slice (some ⟨gg,0,none⟩) (i+1) c)) rb ib id st d (i+1) a1 (some ⟨gg,0,none⟩) c1 c:=by
 have hb:ZY wr l:=by rw[u];exact ZV.alloc ZU _
 have f:=h.info.at_ (hb.block _ (Zaa h.info.Au));have j:=h.res.at_ (hb.block _ (Zaa h.res.Au));have r1:=Zak h.r1 hb;have r2:=Zak h.r2 hb;have m:=h.Db.trans (hb.mono h.Db.size);have n1:=Zc1 r2 f;have n2:=Zc1 r2 j;have t:w7.heap[ib]? =l.heap[ib]? :=hg.block ib (Zaa f.Au) (fun e=>n1 e.symm);have n:w7.heap[rb]? =l.heap[rb]? :=hg.block rb (Zaa j.Au) (fun e=>n2 e.symm);have o:=f.at_ t
 have r:(some gg:Option Nat)≠(QFv a1 (i+1) c1).ownBlock:=fun e=>by
  rcases hat with q | q
  .exact h.ap gg e.symm q
  .have:=(r1.lt gg e.symm).2;omega
 have s:w7.ownsRow w.heap.size 3 1 (.slice a1 (i+1) c1) (i+1) (Xu d (i+1)):=r1.kept hg (by
  by_cases e:(QFv a1 (i+1) c1).ownBlock=none
  .exact Zu e
  .refine Zj (fun n=> ?_)
   obtain⟨z,k⟩:=Option.ne_none_iff_exists'.1 e;rw[k] at n;exact h.ap z k n.symm)
 have p:ZY w w7:=m.grown hg m.size (fun z k=>(r2.lt z k).1);refine⟨o.set3 _,(j.at_ n).at_ (Zl _ _ _ _ h.ne),Zaf s o.Au (by decide) _,Zaf ?_ o.Au (by decide) _,fun z k e=>r ?_,p.setCell h.iw_ _,h.BF,h.iw_,h.ne⟩
 .rw[Xe hi,<-y];exact hown
 .simp only[QCi,QCf] at e;rw[e];exact k.symm
theorem Qi (w:World)(P B:Nat)(ob:Option Nat)(e:Ab)(id:Int)(h:BE qh w P B ob e) :
  Calls prog 115 #[.pointer (some ⟨P,4,none⟩),.int .u64 id] w fun x w'=>((e.find id=none/\x=.returned (.tuple #[IL 0 0 (.slice none 0 0) (.slice none 0 0),AK 6]))\/∃i a1 a2 c1 c2,e.find id=some i/\x=.returned (.tuple #[IL id (e.at_ i).st (.slice a1 (e.at_ i).steps.length c1) (.slice a2 (e.at_ i).steps.length c2),.nilIface])/\w'.ownsRow w.heap.size 3 1 (.slice a1 (e.at_ i).steps.length c1) (e.at_ i).steps.length ((e.at_ i).sts.map (QJw .i64))/\w'.ownsRow w.heap.size 3 1 (.slice a2 (e.at_ i).steps.length c2) (e.at_ i).steps.length ((e.at_ i).trs.map (QJw .i64)))/\ZY w w':=by
 obtain⟨rs,l,hx,ht⟩:=h;obtain⟨E,M⟩:∃E,E=w.alloc (.cells #[.int .u64 0,.int .i64 0,.slice none 0 0,.slice none 0 0] 50):=⟨_,rfl⟩;obtain⟨rb,U⟩:∃rb,rb=w.heap.size:=⟨_,rfl⟩;have N:ZY w E:=by rw[M];exact ZV.alloc ZU _
 have c:BD E rb 0 0 (.slice none 0 0) (.slice none 0 0):=⟨by rw[M,U];exact QFm w _⟩;have D:=hx.below N;obtain⟨el,now,hM,cz,bw⟩:=D.ex;obtain⟨ka,kc,S⟩:=hM.kn;have f:=GK E P B kc ka rs id S;rw[JM D.len D.runs] at f;have q:=Zz (Zq N (Zq U M));have HR:=Zz c
 cases hf:e.find id with
 | none =>
  rw[hf] at f;have ag:Hid (Calls prog 157 #[.pointer (some ⟨P,4,none⟩),.int .u64 id] E fun e w'=>e=.returned (.pointer none)/\w'=E):=Zz f;obtain⟨⟨⟨f0,f1⟩,f2⟩,f3⟩:=c.AD;obtain⟨⟨⟨z0,z1⟩,z2⟩,z3⟩:=c.cells;clear f hf hx D ht hM S cz bw M U N c
  go_enter func115,ntmps115
  go_upto_region 1 with fail
  rw[<-q.o.2.1,<-q.o.2.2];go_wp2_with (go_at_call 157;refine ag.o.mono ?_;rintro _ w1 ⟨rfl,C⟩;rw[C])
  (try simp only[Exit.inBlock,Exit.then])
  have L:=GO (HR.o.set _ _ 0 0 (.slice none 0 0) (.slice none 0 0));refine QEz (v:=.tuple #[IL 0 0 (.slice none 0 0) (.slice none 0 0),AK 6]) (by rw[QJv rfl];simp[Result.andThen,asAddr,L,IL,AK]) rfl ?_;refine⟨Zu ⟨trivial,rfl⟩,?_⟩;have T:=q.o.2.1;exact (((q.o.1.setCell (p:=⟨rb,0,none⟩) (QJx T.symm) _).setCell (p:=⟨rb,1,none⟩) (QJx T.symm) _).setCell (p:=⟨rb,2,none⟩) (QJx T.symm) _).setCell (p:=⟨rb,3,none⟩) (QJx T.symm) _
 | some i =>
  rw[hf] at f;have hi:=Rp hf;have al:i<rs.length:=by rw[hx.len];exact hi
  have Q:=S.runs i al
  have bo:AR qh w B (Am rs i):=by
   obtain⟨_,_,dp,_,_⟩:=hx.ex;obtain⟨_,_,cr⟩:=dp.kn;exact cr.runs i al
  have O:=D.runs i hi;obtain⟨b,hb⟩:∃b,b=(Am rs i).b:=⟨_,rfl⟩;obtain⟨ng,ax⟩:∃ng,ng=(Am rs i).ng:=⟨_,rfl⟩;obtain⟨m,hm⟩:∃m,m=(Am rs i).ns.length:=⟨_,rfl⟩;have ag:Hid (Calls prog 157 #[.pointer (some ⟨P,4,none⟩),.int .u64 id] E fun e w'=>e=.returned (.pointer (some ⟨b,0,none⟩))/\w'=E):=Zz (by rw[hb];exact f);obtain⟨⟨_,t1,t2⟩,_⟩:=Q.CP;rw[<-hb,O.st] at t1;rw[<-hb,<-ax,<-hm] at t2;obtain⟨_,_,cy,dr,_,_⟩:=Q.Bj;have dj:=Q.Br;rw[<-hm] at cy dj;obtain⟨nc,ae⟩:∃nc,nc=(Am rs i).nc:=⟨_,rfl⟩;rw[<-ae] at cy t2;have ar:m=(e.at_ i).steps.length:=by rw[hm];exact O.len
  obtain⟨d,hd⟩:∃d,d=e.at_ i:=⟨_,rfl⟩;rw[<-hd] at t1 ar;obtain⟨st,ay⟩:∃st,st=d.st:=⟨_,rfl⟩;rw[<-ay] at t1;obtain⟨i3,ck,da,db,dc⟩:=QJk Vl;have X:=Zz (Zq ck (Zq da (Zq db dc)));have s:=Zz (Zq bo (Zq O (Zq hb (Zq ax (Zq hm (Zq ar (Zq hd (Zq ay hf))))))));clear f hf hx D ht hM S cz bw M U N c hi al Q bo O hb ax hm ar hd ay ae ck da db dc dr;obtain⟨w1,C⟩:∃w1,w1=E.alloc (.cells #[.int .u64 id,.int .i64 st,.slice none 0 0,.slice none 0 0] 50):=⟨_,rfl⟩;obtain⟨ib,R⟩:∃ib,ib=E.heap.size:=⟨_,rfl⟩;have G:ZY E w1:=by rw[C];exact ZV.alloc ZU _
  have K:IE w w1 rb ib id st d 0 none none 0 0:=by
   have ei:=Zaa HR.o.Au;refine⟨⟨by rw[C,R];exact QFm E _⟩,HR.o.at_ (G.block _ ei),QEj _ _ _ _,QEj _ _ _ _,fun z hz=>by simp[QCi] at hz,q.o.1.trans (G.mono q.o.1.size),QJx q.o.2.1.symm,by rw[R];exact q.o.1.size,by omega⟩
  have fg:=QFa G t2;have HQ:=Zz (Zq K G);have bh:=Zz (Zq R C);clear C R G K
  go_enter func115,ntmps115
  go_upto_region 1 with fail
  rw[<-q.o.2.1,<-q.o.2.2]
  go_upto_region 5 with (go_at_call 157;refine ag.o.mono ?_;rintro _ wz ⟨rfl,ep⟩;rw[ep])
  rw[<-bh.o.1,<-bh.o.2];clear t2;go_wp2_with fail
  go_loopw [28] (fun iv wr=>∃(k:Nat) (a1 a2:Option Addr) (c1 c2:Nat),iv=.int .i64 k/\k<=m/\IE w wr rb ib id st d k a1 a2 c1 c2) (fun iv _=>m - (intOf iv).toNat)
  case atStart=>exact⟨0,none,none,0,0,rfl,by omega,HQ.o.1⟩
  case round =>
   obtain⟨k,a1,a2,c1,c2,rfl,hk,K⟩:=hrel;have j:=Zz K;by_cases h1:k<m
   .have cq:k<(Am rs i).ns.length:=by have:=s.o.2.2.2.2.1;omega
    have y:k<d.steps.length:=by have:=s.o.2.2.2.2.2.1;omega
    obtain⟨nd,aw⟩:∃nd,nd=(Am rs i).at_ k:=⟨_,rfl⟩;obtain⟨y0,y1,y2,y3,y4,y5,y6,y7,y8,y9⟩:=(s.o.1.below K.Db).nd cq;rw[<-s.o.2.2.2.1,<-aw] at y0 y1 y2 y3 y4 y5 y6 y7 y8 y9;obtain⟨af,bp⟩:∃af,af=nd.af.length:=⟨_,rfl⟩;rw[<-bp] at y6
    have bf:=Zz (show nd.st=(d.at_ k).st/\nd.tries=(d.at_ k).tries by
     have:=s.o.2.1.nd k (by rw[<-s.o.2.2.2.2.2.2.1];exact y);rw[aw,s.o.2.2.2.2.2.2.1];exact this)
    obtain⟨w2,V⟩:∃w2,w2=wr.alloc (.cells #[.int .i64 nd.bu,.int .i64 nd.cl,.int .i64 nd.be,.int .i64 nd.ba,.int .i64 nd.ca,.int .i64 nd.ji,.slice nd.aa af nd.ac,.int .i64 nd.st,.int .i64 nd.tries,.int .u64 nd.tok] 276):=⟨_,rfl⟩;obtain⟨nb,au⟩:∃nb,nb=wr.heap.size:=⟨_,rfl⟩;have aj:ZY wr w2:=by rw[V];exact ZV.alloc ZU _
    have c:w2.heap[nb]? =some (.cells #[.int .i64 nd.bu,.int .i64 nd.cl,.int .i64 nd.be,.int .i64 nd.ba,.int .i64 nd.ca,.int .i64 nd.ji,.slice nd.aa af nd.ac,.int .i64 nd.st,.int .i64 nd.tries,.int .u64 nd.tok] 276 (0,0)):=by rw[V,au];exact QFm _ _
    have u7:w2.cell? ⟨nb,7,none⟩=some (.int .i64 nd.st):=by unfold QEk;rw[c];rfl
    have W:=K.below aj;obtain⟨⟨⟨x0,x1⟩,x2⟩,x3⟩:=W.info.cells;have xz:=W.info.AD.1.2;have ey:w.heap.size<=w2.heap.size:=W.Db.size;have cm:ib<w2.heap.size:=Zaa W.info.Au;have H:some ib≠(QFv a1 k c1).ownBlock:=fun e=>Zc1 W.r1 W.info e.symm;have HO:=Zz W.r1;have A:=Zz (Zq V (Zq au (Zq aj (Zq c (Zq y W)))));have i1:(k:Int)<(m:Int):=by omega
    clear aw bp V au aj c cq y K W
    go_upto_region 8 with fail
    rw[<-A.o.2.1,<-A.o.1];clear y0 y1 y2 y3 y4 y5 y6 y7 y8 y9 x0 x1 x3
    go_upto_region 9 with (at_builtin;refine QJt _ rfl (.tmp 33) (.tmp 36) 24 rfl w.heap.size 3 i3 _ 1 8 underlying24 X.o.1 X.o.2.1 X.o.2.2.1 X.o.2.2.2 rfl (by omega) (.slice a1 k c1) k (Xu d k) rfl (HO.o.alloc _) ⟨w2.heap.size,0,none⟩ 1 1 [.int .i64 nd.st] rfl rfl (QJh (cs:=#[.int .i64 nd.st]) (t:=3) (fr:=(0,0)) (QFm w2 _)) (by simp[QFu]) (by omega) (by unfold maxLen;omega) (by omega) (by simp;omega) (w2.heap.size+1) (by simp) ?_;intro gg bj w7 I r br dw;have s1:=(r.cell_far ⟨ib,2,none⟩ (by simp;omega) H).trans (QFa ((Zk w2.heap.size w2).alloc ZU (.cells #[.int .i64 nd.st] 3)) x2);have sz:=(r.frozen_far ⟨ib,2,none⟩ (by simp;omega) H).trans ((((Zk w2.heap.size w2).alloc ZU (.cells #[.int .i64 nd.st] 3)).frozen (p:=⟨ib,2,none⟩) (by simp only[];omega)).trans xz))
    have u:=Zz (A.o.2.2.2.2.2.one A.o.2.2.2.2.1 (x:=.int .i64 nd.st) (by rw[bf.o.1]) ZV rfl I r (by simpa using br));obtain⟨F,az⟩:∃F,F=w7.setCell ⟨ib,2,none⟩ (.slice (some ⟨gg,0,none⟩) (k+1) bj):=⟨_,rfl⟩;rw[<-az] at u ⊢
    have Z:F.heap[nb]? =some (.cells #[.int .i64 nd.bu,.int .i64 nd.cl,.int .i64 nd.be,.int .i64 nd.ba,.int .i64 nd.ca,.int .i64 nd.ji,.slice nd.aa af nd.ac,.int .i64 nd.st,.int .i64 nd.tries,.int .u64 nd.tok] 276 (0,0)):=by
     have c:=A.o.2.2.2.1;have ee:=Zaa c;have dy:nb≠ib:=Zah c A.o.2.2.2.2.2.info.Au (by decide)
     have eg:(QFv a1 k c1).ownBlock≠some nb:=fun e=>by
      rcases HO.o.2 with⟨h2,_⟩ | ⟨g,cap,cur,h2,_,hh,_⟩
      .rw[h2] at e;simp[QCi] at e
      .rw[h2] at e
       simp only[QCi,QCf] at e;subst e;exact Zah hh c (by decide) rfl
     rw[az,Zl _ _ _ _ dy,r.block nb (by simp;omega) (fun e=>eg e.symm),Zam _ _ _ ee];exact c
    have v8:F.cell? ⟨nb,8,none⟩=some (.int .i64 nd.tries):=by unfold QEk;rw[Z];rfl
    obtain⟨⟨⟨x0,x1⟩,x2⟩,x3⟩:=u.o.info.cells;have xz:=u.o.info.AD.2;have ez:w.heap.size<=F.heap.size:=u.o.Db.size;have cm:ib<F.heap.size:=Zaa u.o.info.Au;have H:some ib≠(QFv a2 k c2).ownBlock:=fun e=>Zc1 u.o.r2 u.o.info e.symm;have de:=Zz u.o.r2;clear az Z I r br dw s1 sz u7 x0 x1 x2
    go_upto_region 10 with (at_builtin;refine QJt _ rfl (.tmp 40) (.tmp 43) 24 rfl w.heap.size 3 i3 _ 1 8 underlying24 X.o.1 X.o.2.1 X.o.2.2.1 X.o.2.2.2 rfl (by omega) (.slice a2 k c2) k (Xw d k) rfl (de.o.alloc _) ⟨F.heap.size,0,none⟩ 1 1 [.int .i64 nd.tries] rfl rfl (QJh (cs:=#[.int .i64 nd.tries]) (t:=3) (fr:=(0,0)) (QFm F _)) (by simp[QFu]) (by omega) (by unfold maxLen;omega) (by omega) (by simp;omega) (F.heap.size+1) (by simp) ?_;intro fe dh w8 J n Y cu;have s1:=(n.cell_far ⟨ib,3,none⟩ (by simp;omega) H).trans (QFa ((Zk F.heap.size F).alloc ZU (.cells #[.int .i64 nd.tries] 3)) x3);have sz:=(n.frozen_far ⟨ib,3,none⟩ (by simp;omega) H).trans ((((Zk F.heap.size F).alloc ZU (.cells #[.int .i64 nd.tries] 3)).frozen (p:=⟨ib,3,none⟩) (by simp only[];omega)).trans xz))
    have dd:=Zz (u.o.two A.o.2.2.2.2.1 (x:=.int .i64 nd.tries) (by rw[bf.o.2]) rfl J n (by simpa using Y));clear J n Y cu s1 sz x3 xz v8;go_wp2_with fail
    go_roundw
    case rel=>exact⟨k+1,_,_,_,_,by go_num,by omega,dd.o⟩
    case measure=>simp[intOf];omega
   .have du:k=m:=by omega
    subst du;obtain⟨⟨⟨x0,x1⟩,x2⟩,x3⟩:=K.info.cells;obtain⟨⟨⟨f0,f1⟩,f2⟩,f3⟩:=K.res.AD;obtain⟨⟨⟨z0,z1⟩,z2⟩,z3⟩:=K.res.cells;have i1:¬(k:Int)<(k:Int):=by omega
    clear K;go_wp2_with fail
    (try simp only[Exit.inBlock,Exit.then])
    have L:=GO (j.o.res.set _ _ id st (.slice a1 k c1) (.slice a2 k c2));refine QEz (v:=.tuple #[IL id st (.slice a1 k c1) (.slice a2 k c2),.nilIface]) (by rw[QJv rfl];simp[Result.andThen,asAddr,L,IL]) rfl ?_;have T:=q.o.2.1;have y:=s.o.2.2.2.2.2.1;have hd:=s.o.2.2.2.2.2.2.1;have s1:=Zt d;have s2:=ZE d;rw[<-y] at s1 s2;refine⟨⟨a1,a2,c1,c2,?_,?_,?_⟩,?_⟩
    .rw[<-hd,<-y,<-s.o.2.2.2.2.2.2.2.1]
    .rw[<-hd,<-y,<-s1]
     exact Zaf (Zaf (Zaf (Zaf j.o.r1 j.o.res.Au (by decide) _) (Zab j.o.res.Au _) (by decide) _) (Zab (Zab j.o.res.Au _) _) (by decide) _) (Zab (Zab (Zab j.o.res.Au _) _) _) (by decide) _
    .rw[<-hd,<-y,<-s2]
     exact Zaf (Zaf (Zaf (Zaf j.o.r2 j.o.res.Au (by decide) _) (Zab j.o.res.Au _) (by decide) _) (Zab (Zab j.o.res.Au _) _) (by decide) _) (Zab (Zab (Zab j.o.res.Au _) _) _) (by decide) _
    .exact (((j.o.Db.setCell (p:=⟨rb,0,none⟩) (QJx T.symm) _).setCell (p:=⟨rb,1,none⟩) (QJx T.symm) _).setCell (p:=⟨rb,2,none⟩) (QJx T.symm) _).setCell (p:=⟨rb,3,none⟩) (QJx T.symm) _
theorem infoTk:(prog.info? 48).map (fun i=>(i.zero,i.size,i.bytes))=some (some (.agg #[.int .u64 0,.int .i64 0,.int .i64 0,.int .u64 0]),4,32):=by kernel_rfl
structure Pn (w x:World)(d:Int)(v:Value):Prop where
 bl:ZY w x
 a0:x.cell? ⟨w.heap.size,0,none⟩=some (.int .i64 0)
 a1:x.cell? ⟨w.heap.size,1,none⟩=some (.slice none 0 0)
 f0:x.cell? ⟨w.heap.size+1,0,none⟩=some (.int .i64 d)
 f1:x.cell? ⟨w.heap.size+1,1,none⟩=some v
 za:∀j,x.frozen? ⟨w.heap.size,j,none⟩=false
 zf:∀j,x.frozen? ⟨w.heap.size+1,j,none⟩=false
 sz:w.heap.size+1<x.heap.size
theorem Pn.start (w:World)(d:Int):Pn w ((w.alloc (.cells #[.int .i64 0,.slice none 0 0] 61)).alloc (.cells #[.int .i64 d,.slice none 0 0] 61)) d (.slice none 0 0):=by
 have e0:=heap_alloc2_old w (.cells #[.int .i64 0,.slice none 0 0] 61) (.cells #[.int .i64 d,.slice none 0 0] 61);have c:=heap_alloc2_new w (.cells #[.int .i64 0,.slice none 0 0] 61) (.cells #[.int .i64 d,.slice none 0 0] 61);exact⟨(ZV.alloc ZU _).alloc (by simp) _,Zae e0 0,Zae e0 1,Zae c 0,Zae c 1,Zbb e0,Zbb c,by simp⟩
theorem Pn.Ak {y:World}(h:Pn w x d v)(l:y.os=x.os)(m:y.tape=x.tape)(hp:y.output=x.output)(f:x.heap.size<=y.heap.size)(hk:∀k,k<w.heap.size+2->y.heap[k]? =x.heap[k]?):Pn w y d v:=by
 have e0:=hk w.heap.size (by omega);have c:=hk (w.heap.size+1) (by omega)
 exact⟨⟨l.trans h.bl.os,m.trans h.bl.tape,hp.trans h.bl.output,Zv h.bl.size f,fun k e=>(hk k (by omega)).trans (h.bl.block k e)⟩,
  (QEc (a:=⟨w.heap.size,0,none⟩) e0).trans h.a0,(QEc (a:=⟨w.heap.size,1,none⟩) e0).trans h.a1,
  (QEc (a:=⟨w.heap.size+1,0,none⟩) c).trans h.f0,(QEc (a:=⟨w.heap.size+1,1,none⟩) c).trans h.f1,
  fun j=>(QDx (a:=⟨w.heap.size,j,none⟩) e0).trans (h.za j),fun j=>(QDx (a:=⟨w.heap.size+1,j,none⟩) c).trans (h.zf j),Zy h.sz f⟩
theorem Pn.Zp (h:Pn w x d v)(v':Value):Pn w (x.setCell ⟨w.heap.size+1,1,none⟩ v') d v' :=
 ⟨h.bl.setCell (by simp) _,(Za6 x _ _ 1 0 _ (by omega)).trans h.a0,(Za6 x _ _ 1 1 _ (by omega)).trans h.a1,(Zac x _ 1 0 _ (by decide)).trans h.f0,World.cell?_setCell_same _ _ _ h.f1,
  fun j=>by rw[QEa];exact h.za j,fun j=>by rw[QEa];exact h.zf j,by simpa[QDw] using h.sz⟩
theorem Pn.grown {y:World}{o:Obj}{rb:Option Nat}(h:Pn w x d v)(hg:(x.alloc o).grownBy y rb)(c:∀z,rb=some z->w.heap.size+2<=z):Pn w y d v:=by
 have f:x.heap.size<=y.heap.size:=by have:=hg.size;simp at this;omega
 have j:=h.sz;refine h.Ak hg.os hg.tape hg.output f fun k hk=>IJ hg (by omega) fun e=> ?_
 have:=c k e.symm;omega
structure Rc (w2 x:World)(g:Nat->Value):Prop where
 os:x.os=w2.os
 tape:x.tape=w2.tape
 output:x.output=w2.output
 size:w2.heap.size<x.heap.size
 block:∀k,k<w2.heap.size->x.heap[k]? =w2.heap[k]?
 nd:Nd x w2.heap.size g
theorem Rc.start (w2:World)(u0 c u2 f h l:Int):Rc w2 (w2.alloc (.cells #[.int .i64 u0,.int .i64 c,.int .i64 u2,.int .i64 f,.int .i64 h,.int .i64 l,.slice none 0 0] 130)) (gg u0 c u2 f h l (.slice none 0 0)):=by
 refine⟨rfl,rfl,rfl,by simp,fun k hk=>Zam _ _ _ hk,fun j m=> ?_⟩;have e:=QFm w2 (.cells #[.int .i64 u0,.int .i64 c,.int .i64 u2,.int .i64 f,.int .i64 h,.int .i64 l,.slice none 0 0] 130);refine⟨(Zae e j).trans ?_,Zbb e j⟩;rcases (show j=0\/j=1\/j=2\/j=3\/j=4\/j=5\/j=6 by omega) with rfl | rfl | rfl | rfl | rfl | rfl | rfl<;>rfl
theorem Rc.set6 {u0 c u2 e f l:Int}(h:Rc w2 x (gg u0 c u2 e f l v))(v':Value):Rc w2 (x.setCell ⟨w2.heap.size,6,none⟩ v') (gg u0 c u2 e f l v'):=by
 refine⟨h.os,h.tape,h.output,by simpa[QDw] using h.size,fun k hk=>(Zl x ⟨w2.heap.size,6,none⟩ v' k (by simp;omega)).trans (h.block k hk),fun j m=> ?_⟩;have:=h.nd.set 6 (by omega) v' j m;rcases (show j=0\/j=1\/j=2\/j=3\/j=4\/j=5\/j=6 by omega) with rfl | rfl | rfl | rfl | rfl | rfl | rfl<;>exact this
theorem Rc.grown {y:World}{o:Obj}{rb:Option Nat}(h:Rc w2 x g)(hg:(x.alloc o).grownBy y rb)(c:∀z,rb=some z->w2.heap.size+1<=z):Rc w2 y g:=by
 have j:x.heap.size<=y.heap.size:=by have:=hg.size;simp at this;omega
 have f:=h.size;have hb:∀k,k<=w2.heap.size->y.heap[k]? =x.heap[k]? :=fun k hk=>IJ hg (by omega) fun e=>by have:=c k e.symm;omega
 exact⟨hg.os.trans h.os,hg.tape.trans h.tape,hg.output.trans h.output,by omega,fun k hk=>(hb k (by omega)).trans (h.block k hk),h.nd.block (hb _ ZU)⟩
theorem Rc.drew (h:Rc w2 x g):Rc w2 x.drew g:=⟨h.os,h.tape,h.output,h.size,h.block,h.nd⟩
theorem Pn.round (h:Pn w w2 d v)(c:Rc w2 x g):Pn w x d v :=
 h.Ak c.os c.tape c.output (Nat.le_of_lt c.size) fun k hk=>c.block k (by have:=h.sz;omega)
def KflI (w wr:World)(d:Int)(n:Nat)(i:Nat):Prop :=
 ∃(F:Ad) (la:Option Addr) (lc:Nat) (Na:Nat->Option Addr) (Nc:Nat->Nat),F.dl=d/\F.n=n/\i<=n/\(∀j,j<i->NC F j)/\Pn w wr d (.slice la i lc)/\An (w.heap.size+2) wr F (.slice la i lc) i Na Nc
def KinI (w2 wz:World)(u0 u1 u2 u3 u4 u5:Int)(k:Nat):Prop :=
 ∃(m:Nat) (xa:Option Addr) (xc:Nat) (zs:Nat->Int),Rc w2 wz (gg u0 u1 u2 u3 u4 u5 (.slice xa m xc))/\wz.ownsRow (w2.heap.size+1) 3 1 (.slice xa m xc) m (Zbx m zs)/\m<=k/\∀j,j<m->0<=zs j/\zs j<k/\(0<j->zs (j - 1)<zs j)
theorem JC (x:Int)(k:Nat)(hk:2<=k)(h: -9223372036854775808<=x)(c:x<=9223372036854775807): -9223372036854775808<=x.tdiv k/\x.tdiv k<=9223372036854775807:=by
 have e:(x.tdiv k).natAbs=x.natAbs / (k:Int).natAbs:=Int.natAbs_tdiv x k;have f:x.natAbs / (k:Int).natAbs<=x.natAbs / 2:=Nat.div_le_div_left (by simpa using hk) (by omega);omega
theorem Zeh (x:Int)(k:Nat)(n:Int)(w:World)(hk:2<=k)(h: -9223372036854775808<=x)(j:x<=9223372036854775807)(hn:1<=n)(c:n<=9223372036854775807) :
  Calls prog 22 #[.int .i64 (x.tdiv k),.int .i64 n] w fun e w'=>∃v:Int,e=.returned (.int .i64 v)/\0<=v/\v<n/\w=w':=by
 have f:=JC x k hk h j;refine (Zdd (x.tdiv k) n w f.1 f.2 hn c).mono ?_;rintro e w' ⟨rfl,rfl⟩;exact⟨_,rfl,Zc8 _ _ hn,Zdy _ _ hn,rfl⟩
theorem JZ (x:Int)(n:Int)(w:World)(h: -9223372036854775808<=x)(f:x<=9223372036854775807)(hn:1<=n)(c:n<=9223372036854775807) :
  Calls prog 22 #[.int .i64 x,.int .i64 n] w fun e w'=>∃v:Int,e=.returned (.int .i64 v)/\0<=v/\v<n/\w=w':=by
 refine (Zdd x n w h f hn c).mono ?_;rintro e w' ⟨rfl,rfl⟩;exact⟨_,rfl,Zc8 _ _ hn,Zdy _ _ hn,rfl⟩
theorem Ta (w:World)(c0 d0:Int)(ab an:Option Addr)(nb cb nn cn:Nat)(fb fn:Nat->Int)(h0: -9223372036854775808<=c0)(h1:c0<=9223372036854775807)(h2: -9223372036854775808<=d0)(h3:d0<=9223372036854775807)(hb:Di w ab nb cb fb)(hn:Di w an nn cn fn) :
  Calls prog 18 #[.int .i64 c0,.slice ab nb cb,.slice an nn cn,.int .i64 d0] w fun e w' =>
   (∃(F:Ad) (la:Option Addr) (lc:Nat) (Na:Nat->Option Addr) (Nc:Nat->Nat),e=.returned (GL F.dl (.slice la F.n lc))/\An w.heap.size w' F (.slice la F.n lc) F.n Na Nc/\Gx F F.n/\1<=F.n/\F.n<=12)/\ZY w w':=by
 have HB:=Zz hb;have HN:=Zz hn;obtain⟨i27,Z,N,O,P⟩:=QJk Qc;have A:=Zz (Zq Z (Zq N (Zq O P)));obtain⟨i3,bw,ag,aj,al⟩:=QJk Vk;have S:=Zz (Zq bw (Zq ag (Zq aj al)));have p0:=Zc8 d0 2000 (by omega);have p1:=Zdy d0 2000 (by omega);have q0:=Zc8 c0 12 (by omega);have q1:=Zdy c0 12 (by omega);have HP:=Zz (Zq p0 p1);clear hb hn Z N O P bw ag aj al
 go_enter func18,ntmps18
 go_wp2_with fail
 refine (Zdd d0 2000 _ h2 h3 (by omega) (by omega)).mono ?_;rintro e w1 ⟨rfl,rfl⟩
 generalize Zem d0 2000=d1 at *
 go_wp2_with fail
 refine (Zdd c0 12 _ h0 h1 (by omega) (by omega)).mono ?_;rintro e w1 ⟨rfl,rfl⟩
 generalize Zem c0 12=c1 at *
 obtain⟨n,rfl⟩:∃n:Nat,c1=n:=⟨c1.toNat,by omega⟩;go_wp2_with fail
 have ay:=Zz (Pn.start w (1+d1))
 go_loopw [11] (fun iv wr=>∃i:Nat,iv=.int .i64 i/\KflI w wr (1+d1) (n+1) i) (fun iv _=>n+1 - (intOf iv).toNat)
 case atStart=>exact⟨0,rfl,⟨1+d1,n+1,fun _=>0,fun _=>0,fun _=>0,fun _=>0,fun _=>0,fun _=>0,fun _=>0,fun _ _=>0⟩,none,0,fun _=>none,fun _=>0,rfl,rfl,QBp _,fun j X=>by omega,ay.o,QEj _ _ _ _,fun i hi=>by omega⟩
 case round =>
  obtain⟨i,rfl,F,la,lc,Na,Nc,y,s,hi,l,hK,K⟩:=hrel
  rename World=>wr
  have Q:=Zz hK;have R:=Zz K;have HW:=Zz (Zq l (Zq y s));have cu:=hK.sz;clear hK K l y s ay;by_cases h4:i<n+1
  case neg =>
   have f0:=Q.o.f0;have f1:=Q.o.f1;have a0:=Q.o.a0;have a1:=Q.o.a1;have z0:=Q.o.za 0;have t:=Q.o.za 1;obtain rfl:i=n+1:=by omega
   go_wp2_with fail
   obtain⟨l,y,s⟩:=HW.o;refine QEz (v:=GL F.dl (.slice la F.n lc)) (by rw[y,s];simp[results,Tryz.results18,go_sem,a0,a1]) rfl ⟨⟨F,la,lc,Na,Nc,rfl,?_,⟨by rw[y];have:=HP.o;omega,by rw[s];exact l⟩,by omega,by omega⟩,?_⟩
   .rw[s]
    have bj:=R.o;exact An.base (B:=w.heap.size+2) ⟨QDu (QDu bj.own (by simp) _) (by simp) _,fun i hi=>QDu (QDu (bj.DW i hi) (by simp) _) (by simp) _⟩ (by omega)
   .exact (Q.o.bl.setCell (by simp) _).setCell (by simp) _
  case pos =>
   go_wp2_with fail
   refine (Oy _ an nn cn fn i (by omega) (HN.o.Ak Q.o.bl)).mono ?_;rintro e w1 ⟨rfl,rfl⟩;have r:=Rz HN.o i
   generalize Lh nn fn i=at' at *
   go_wp2_with fail
   refine (JZ at' 5 _ r.1 r.2 (by omega) (by omega)).mono ?_;rintro e w2 ⟨v1,rfl,a1,b1,rfl⟩;go_wp2_with fail
   refine (Zeh at' 5 30 _ (by omega) r.1 r.2 (by omega) (by omega)).mono ?_;rintro e w2 ⟨v2,rfl,a2,b2,rfl⟩;go_wp2_with fail
   refine (Zeh at' 150 6 _ (by omega) r.1 r.2 (by omega) (by omega)).mono ?_;rintro e w2 ⟨v3,rfl,a3,b3,rfl⟩;go_wp2_with fail
   refine (Zeh at' 7 4 _ (by omega) r.1 r.2 (by omega) (by omega)).mono ?_;rintro e w2 ⟨v4,rfl,a4,b4,rfl⟩;go_wp2_with fail
   have M:Hid (∀W,Calls prog 22 #[.int .i64 (at'.tdiv 11),.int .i64 20] W fun e w'=>e=.returned (.int .i64 (Zem (at'.tdiv 11) 20))/\w'=W):=Zz fun W=>Zdd _ 20 W (JC at' 11 (by omega) r.1 r.2).1 (JC at' 11 (by omega) r.1 r.2).2 (by omega) (by omega)
   have a5:=Zc8 (at'.tdiv 11) 20 (by omega);have b5:=Zdy (at'.tdiv 11) 20 (by omega)
   generalize Zem (at'.tdiv 11) 20=v5 at *
   clear h0 h1 h2 h3
   go_cut [] from 46 to 52 (fun wx=>wx=(w1.alloc (.cells #[.int .i64 (1+v1),.int .i64 (1+v2),.int .i64 0,.int .i64 (1+v3),.int .i64 (1+v3+v5),.int .i64 v4,.slice none 0 0] 130)).drew)
   case first =>
    have hq: -9223372036854775808<=at'.tdiv 11/\at'.tdiv 11<=9223372036854775807:=JC at' 11 (by omega) r.1 r.2;have cz:IntKind.i64.wrap (at'.tdiv 11)=at'.tdiv 11:=by rw[IntKind.wrap_i64];omega
    have cy:IntKind.i64.wrap (1+v3+v5)=1+v3+v5:=by rw[IntKind.wrap_i64];omega
    clear hq
    go_region_held3 (fun w'=>w'.cell? ⟨w1.heap.size,3,none⟩=some (.int .i64 (1+v3))) (go_keep) ((go_at_call 22;refine (M.o _).mono ?_;rintro e w' ⟨rfl,rfl⟩))
    all_goals (go_wp2_with fail;go_meet;exact rfl)
   case rest =>
    obtain rfl:=hcut
    rename World=>w2
    clear M;go_wp2_with fail
    refine (Zeh at' 3 2 _ (by omega) r.1 r.2 (by omega) (by omega)).mono ?_;rintro e x ⟨v6,rfl,a6,b6,rfl⟩
    go_upto_if 56 with fail
    go_cut [] from 57 to 61 (fun wx=>∃p:Int,0<=p/\p<=20/\wx=(w2.alloc (.cells #[.int .i64 (1+v1),.int .i64 (1+v2),.int .i64 p,.int .i64 (1+v3),.int .i64 (1+v3+v5),.int .i64 v4,.slice none 0 0] 130)).drew)
    case first =>
     by_cases h5:v6=1
     .subst h5
      go_wp2_with fail
      refine (Zeh at' 13 20 _ (by omega) r.1 r.2 (by omega) (by omega)).mono ?_;rintro e x ⟨p,rfl,a7,b7,rfl⟩;go_wp2_with fail
      go_meet
      exact⟨1+p,by omega,by omega,rfl⟩
     .have da:(v6 == 1)=false:=by simpa using h5
      go_wp2_with fail
      go_meet
      exact⟨0,by omega,by omega,rfl⟩
    case rest =>
     obtain⟨p,a7,b7,rfl⟩:=hcut;have bh:=Zz (Rc.start w2 (1+v1) (1+v2) p (1+v3) (1+v3+v5) v4).drew;go_wp2_with fail
     refine (Oy _ ab nb cb fb i (by omega) (HB.o.Ak (Q.o.round bh.o).bl)).mono ?_;rintro e x ⟨rfl,rfl⟩;have br:=Rz HB.o i
     generalize Lh nb fb i=bt at *
     go_wp2_with fail
     have bf:Hid ((1<=1+v1/\1+v1<=5)/\(1<=1+v2/\1+v2<=30)/\(0<=p/\p<=20)/\(1<=1+v3/\1+v3<=6)/\(1+v3<=1+v3+v5/\1+v3+v5<=30)/\(0<=v4/\v4<=3)):=Zz (by omega);clear a1 b1 a2 b2 a3 b3 a4 b4 a5 b5 a6 b6 a7 b7 r p0 p1
     generalize 1+v3+v5=z4 at *
     generalize 1+v1=z0 at *
     generalize 1+v2=t at *
     generalize 1+v3=z3 at *
     go_loopw [15] (fun kv D=>∃k:Nat,kv=.int .i64 k/\k<=i/\KinI w2 D z0 t p z3 z4 v4 k) (fun kv _=>i - (intOf kv).toNat)
     case atStart=>exact⟨0,rfl,QBp _,0,none,0,fun _=>0,bh.o,QEj _ _ _ _,Zx _,fun j X=>by omega⟩
     case round =>
      obtain⟨k,rfl,hk,m,I,J,H,hX,ae,hm,ck⟩:=hrel
      rename World=>D
      have G:=Zz hX;have C:=Zz ae;have T:=Zz ck;have db:=hX.size;have aw:Hid (∀z,(QFv I m J).ownBlock=some z->w2.heap.size+1<=z):=Zz fun z hz=>(C.o.lt z hz).1;clear hX ae ck;by_cases h5:k<i
      case pos =>
       go_wp2_with fail
       refine (JZ bt 1048576 _ br.1 br.2 (by omega) (by omega)).mono ?_;rintro e x ⟨v8,rfl,a8,b8,rfl⟩;have n6:D.cell? ⟨w2.heap.size,6,none⟩=some (.slice I m J):=(G.o.nd 6 (by omega)).1;go_wp2_with (at_builtin;refine QFb _ rfl (.tmp 78) (.tmp 80) 24 rfl (w2.heap.size+1) 3 i3 (.int .i64 0) 1 8 underlying24 S.o.1 S.o.2.1 S.o.2.2.1 S.o.2.2.2 rfl (by decide) (.slice I m J) m (Zbx m H) rfl (C.o.alloc _) ⟨D.heap.size,0,none⟩ 1 1 [.int .i64 k] rfl rfl (Ki _ _ _ _ rfl) (by intro u hu;simp only[List.mem_singleton] at hu;subst hu;rfl) (by unfold maxLen;omega) (by omega) (by simp;omega) ?_;intro cq w4 c f L;clear L;obtain⟨xb,xd,rfl⟩:=Zaz c;have V:=G.o.grown f aw.o;have E:=Zz (Zq c V);have n4:w4.cell? ⟨w2.heap.size,6,none⟩=some (.slice I m J):=(V.nd 6 (by omega)).1;have cr:w4.frozen? ⟨w2.heap.size,6,none⟩=false:=(V.nd 6 (by omega)).2;clear c f V)
       .go_roundw
        case rel =>
         refine⟨k+1,by go_num,by omega,m+1,xb,xd,fun j=>if j=m then (k:Int) else H j,E.o.2.set6 _,?_,by omega,fun j X=> ?_⟩
         .rw[Qd]
          exact QDu E.o.1 (by simp) _
         .by_cases e:j=m
          .subst e
           simp only[if_true];refine⟨by omega,by omega,fun h0=> ?_⟩;rw[if_neg (by omega)];exact (T.o (j - 1) (by omega)).2.1
          .have h9:=T.o j (by omega)
           simp only[e,if_false];refine⟨h9.1,by omega,fun h0=> ?_⟩;rw[if_neg (by omega)];exact h9.2.2 h0
        case measure=>simp[intOf];omega
       .go_roundw
        case rel=>exact⟨k+1,by go_num,by omega,m,I,J,H,G.o,C.o,by omega,fun j X=>by have h9:=T.o j X;exact⟨h9.1,by omega,h9.2.2⟩⟩
        case measure=>simp[intOf];omega
      case neg =>
       obtain rfl:k=i:=by omega
       have az:=Zz (Q.o.round G.o);have Y:Hid (An (w.heap.size+2) D F (.slice la k lc) k Na Nc):=Zz ⟨Iq R.o.own fun z _ h2=>G.o.block z h2,fun j X=>Iq (R.o.DW j X) fun z _ h2=>G.o.block z h2⟩;have cm:Hid (∀z,(QFv la k lc).ownBlock=some z->w.heap.size+2<=z):=Zz fun z hz=>(R.o.own.lt z hz).1;have f1:=az.o.f1;have n0:D.cell? ⟨w2.heap.size,0,none⟩=some (.int .i64 z0):=(G.o.nd 0 (by omega)).1;have n1:D.cell? ⟨w2.heap.size,1,none⟩=some (.int .i64 t):=(G.o.nd 1 (by omega)).1;have n2:D.cell? ⟨w2.heap.size,2,none⟩=some (.int .i64 p):=(G.o.nd 2 (by omega)).1;have n3:D.cell? ⟨w2.heap.size,3,none⟩=some (.int .i64 z3):=(G.o.nd 3 (by omega)).1;have n4:D.cell? ⟨w2.heap.size,4,none⟩=some (.int .i64 z4):=(G.o.nd 4 (by omega)).1;have n5:D.cell? ⟨w2.heap.size,5,none⟩=some (.int .i64 v4):=(G.o.nd 5 (by omega)).1;have n6:D.cell? ⟨w2.heap.size,6,none⟩=some (.slice I m J):=(G.o.nd 6 (by omega)).1;have au:Hid (∀u∈[QJw .i64 z0,.int .i64 t,.int .i64 p,.int .i64 z3,.int .i64 z4,.int .i64 v4,.slice I m J],u.oneCell'=true):=Zz (by intro u hu;simp only[List.mem_cons,List.not_mem_nil,or_false] at hu;rcases hu with rfl | rfl | rfl | rfl | rfl | rfl | rfl<;>rfl);go_wp2_with (at_builtin;refine QFb _ rfl (.tmp 84) (.tmp 86) 59 rfl (w.heap.size+2) 130 i27 (.agg #[.int .i64 0,.int .i64 0,.int .i64 0,.int .i64 0,.int .i64 0,.int .i64 0,.slice none 0 0]) 7 72 underlying59 A.o.1 A.o.2.1 A.o.2.2.1 A.o.2.2.2 rfl (by decide) (.slice la k lc) k (Zbw F Na Nc k) rfl (Y.o.own.alloc _) ⟨D.heap.size,0,none⟩ 1 1 [.int .i64 z0,.int .i64 t,.int .i64 p,.int .i64 z3,.int .i64 z4,.int .i64 v4,.slice I m J] rfl rfl (Rx _ _ _ _ rfl) au.o (by unfold maxLen;omega) (by omega) (by simp;omega) ?_;intro cq w4 c f L;clear L;obtain⟨xb,xd,rfl⟩:=Zaz c;have U:=az.o.grown f cm.o;have E:=Zz (Zq c (Zq f U));have q4:=U.f1;have cr:=U.zf 1;clear c f U)
       go_roundw
       case rel =>
        have hs:=F.Xi k z0 t p z3 z4 v4 m H;have bp:(F.upd k z0 t p z3 z4 v4 m H).an k=m:=if_pos rfl;have bo:(F.upd k z0 t p z3 z4 v4 m H).af k=H:=if_pos rfl;have ar:[QJw .i64 z0,.int .i64 t,.int .i64 p,.int .i64 z3,.int .i64 z4,.int .i64 v4,.slice I m J]=Zd8 (F.upd k z0 t p z3 z4 v4 m H) k I J:=by simp[Zd8,Ad.upd]
        have c:=E.o.1;rw[ar,IT hs Na Nc k ZU] at c
        have ax:D.ownsRow (w.heap.size+2) 3 1 (.slice I ((F.upd k z0 t p z3 z4 v4 m H).an k) J) ((F.upd k z0 t p z3 z4 v4 m H).an k) (Zbx ((F.upd k z0 t p z3 z4 v4 m H).an k) ((F.upd k z0 t p z3 z4 v4 m H).af k)):=by
         rw[bp,bo];exact Zcs C.o (by omega)
        have K:=(Y.o.same hs).more (ax.alloc (.cells #[.int .i64 z0,.int .i64 t,.int .i64 p,.int .i64 z3,.int .i64 z4,.int .i64 v4,.slice I m J] 130)) (ZV.alloc ZU _) c E.o.2.1;obtain⟨l,y,s⟩:=HW.o;refine⟨k+1,by go_num,F.upd k z0 t p z3 z4 v4 m H,xb,xd,_,_,y,s,by omega,fun j X=> ?_,E.o.2.2.Zp _,⟨QDu K.own (by simp) _,fun j X=>QDu (K.DW j X) (by simp) _⟩⟩;by_cases e:j=k
        .subst e
         obtain⟨x1,x2,x3,x4,x5,x6⟩:=bf.o;refine⟨?_,?_,?_,?_,?_,?_,fun q hq=> ?_⟩
         .simpa[Ad.upd] using x1
         .simpa[Ad.upd] using x2
         .simpa[Ad.upd] using x3
         .simpa[Ad.upd] using x4
         .simpa[Ad.upd] using x5
         .simpa[Ad.upd] using x6
         .rw[bp] at hq
          rw[bo];exact T.o q hq
        .exact (l j (by omega)).same hs (by omega)
       case measure=>simp[intOf];omega
