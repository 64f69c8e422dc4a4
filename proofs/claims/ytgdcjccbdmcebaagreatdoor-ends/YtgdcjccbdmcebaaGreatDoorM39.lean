import Derived.Test.YtgdcjccbdmcebaaGreatDoorM38
set_option linter.unusedSimpArgs false
set_option linter.unusedVariables false
set_option maxHeartbeats 8000000
set_option maxRecDepth 100000
open Go.Proofs.Tryz
namespace Go.Proofs.YtgdcjccbdmcebaaGreatDoor
open Go.RowKit
attribute [local go_sem ↓] Go.wp_at_zero Go.wp_at_succ
variable {w:World}{rb i c1 c2 ib:Nat}{v1 v2 x:Value}{a1 a2:Option Addr}{a b id st:Int}{xs:List Value}
structure BC (w:World)(rb:Nat)(a b:Int)(v1 v2:Value):Prop where
 Au:w.heap[rb]? =some (.cells #[.int .u64 a, .int .i64 b,v1,v2] 50 (0,0))
theorem BC.cells (h:BC w rb a b v1 v2):((w.cell? ⟨rb,0,none⟩=some (.int .u64 a)/\w.cell? ⟨rb,1,none⟩=some (.int .i64 b))/\w.cell? ⟨rb,2,none⟩=some v1)/\w.cell? ⟨rb,3,none⟩=some v2:=by
 refine⟨⟨⟨?_,?_⟩,?_⟩,?_⟩<;>(unfold World.cell?;rw[h.Au];rfl)
theorem BC.AE (h:BC w rb a b v1 v2):((w.frozen? ⟨rb,0,none⟩=false/\w.frozen? ⟨rb,1,none⟩=false)/\w.frozen? ⟨rb,2,none⟩=false)/\w.frozen? ⟨rb,3,none⟩=false:=by
 refine⟨⟨⟨?_,?_⟩,?_⟩,?_⟩<;>simp[World.frozen?,h.Au]
theorem BC.at_ {w':World}(h:BC w rb a b v1 v2)(e:w'.heap[rb]? =w.heap[rb]?):BC w' rb a b v1 v2:=⟨e.trans h.Au⟩
theorem BC.set (w:World)(rb:Nat)(h:BC w rb a b v1 v2)(x y:Int)(z t:Value):BC ((((w.setCell ⟨rb,0,none⟩ (.int .u64 x)).setCell ⟨rb,1,none⟩ (.int .i64 y)).setCell ⟨rb,2,none⟩ z).setCell ⟨rb,3,none⟩ t) rb x y z t:=by
 refine⟨?_⟩;rw[Zab (Zab (Zab (Zab h.Au _) _) _) _]
 rfl
theorem BC.set2 (h:BC w rb a b v1 v2)(z:Value):BC (w.setCell ⟨rb,2,none⟩ z) rb a b z v2:=⟨by rw[Zab h.Au];rfl⟩
theorem BC.set3 (h:BC w rb a b v1 v2)(z:Value):BC (w.setCell ⟨rb,3,none⟩ z) rb a b v1 z:=⟨by rw[Zab h.Au];rfl⟩
theorem GN {n1 n2:Nat}(h:BC w rb a b (.slice a1 n1 c1) (.slice a2 n2 c2)):(loadVar 50 ⟨rb,0,none⟩).run prog w= .ok (.agg #[.int .u64 a, .int .i64 b, .slice a1 n1 c1, .slice a2 n2 c2]) w:=by
 obtain⟨⟨⟨z0,c⟩,z2⟩,z3⟩:=h.cells
 go_simp
def IK (id st:Int)(v1 v2:Value):Value:= .agg #[.int .u64 id, .int .i64 st,v1,v2]
def Ag.sts (r:Ag):List Int:=r.steps.map (·.st)
def Ag.trs (r:Ag):List Int:=r.steps.map (·.tries)
def XJ (r:Ag)(i:Nat):List Value:=(r.sts.take i).map (Value.int .i64)
def XK (r:Ag)(i:Nat):List Value:=(r.trs.take i).map (Value.int .i64)
theorem WY {r:Ag}(h:i<r.steps.length):XJ r (i+1)=XJ r i++[.int .i64 (r.at_ i).st]:=by
 unfold XJ Ag.sts;rw[List.take_add_one,List.map_append,List.getElem?_map,ZZ h];unfold Ag.at_;rw[ZQ,ZZ h]
 rfl
theorem Xn {r:Ag}(h:i<r.steps.length):XK r (i+1)=XK r i++[.int .i64 (r.at_ i).tries]:=by
 unfold XK Ag.trs;rw[List.take_add_one,List.map_append,List.getElem?_map,ZZ h];unfold Ag.at_;rw[ZQ,ZZ h]
 rfl
theorem ZP (r:Ag):XJ r r.steps.length=r.sts.map (Value.int .i64):=by unfold XJ;rw[List.take_of_length_le (by unfold Ag.sts;simp)]
theorem ZW (r:Ag):XK r r.steps.length=r.trs.map (Value.int .i64):=by unfold XK;rw[List.take_of_length_le (by unfold Ag.trs;simp)]
structure IC (w wr:World)(rb ib:Nat)(id st:Int)(d:Ag)(i:Nat)(a1 a2:Option Addr)(c1 c2:Nat):Prop where
 info:BC wr ib id st (.slice a1 i c1) (.slice a2 i c2)
 res:BC wr rb 0 0 (.slice none 0 0) (.slice none 0 0)
 r1:wr.ownsRow w.heap.size 3 1 (.slice a1 i c1) i (XJ d i)
 r2:wr.ownsRow w.heap.size 3 1 (.slice a2 i c2) i (XK d i)
 ap:∀z,(Value.slice a1 i c1).ownBlock=some z->(Value.slice a2 i c2).ownBlock≠some z
 Dt:Below w.heap.size w wr
 Bz:w.heap.size<=rb
 iw_:w.heap.size<=ib
 ne:rb≠ib
theorem IC.below {wr wx:World}{d:Ag}(h:IC w wr rb ib id st d i a1 a2 c1 c2)(c:Below wr.heap.size wr wx):IC w wx rb ib id st d i a1 a2 c1 c2 :=
 ⟨h.info.at_ (c.block _ (Zaa h.info.Au)),h.res.at_ (c.block _ (Zaa h.res.Au)),Zam h.r1 c,Zam h.r2 c,h.ap,h.Dt.trans (c.mono h.Dt.size),h.Bz,h.iw_,h.ne⟩
structure PC (w wr:World)(rb ib:Nat)(id st:Int)(d:Ag)(i:Nat)(a1 a2:Option Addr)(c1 c2:Nat):Prop where
 info:BC wr ib id st (.slice a1 (i+1) c1) (.slice a2 i c2)
 res:BC wr rb 0 0 (.slice none 0 0) (.slice none 0 0)
 r1:wr.ownsRow w.heap.size 3 1 (.slice a1 (i+1) c1) (i+1) (XJ d (i+1))
 r2:wr.ownsRow w.heap.size 3 1 (.slice a2 i c2) i (XK d i)
 ap:∀z,(Value.slice a1 (i+1) c1).ownBlock=some z->(Value.slice a2 i c2).ownBlock≠some z
 Dt:Below w.heap.size w wr
 Bz:w.heap.size<=rb
 iw_:w.heap.size<=ib
 ne:rb≠ib
theorem Zc2 {B n:Nat}{v:Value}(h:w.ownsRow B 3 1 v n xs)(hi:BC w rb a b v1 v2):v.ownBlock≠some rb:=fun e=>by
 rcases h.2 with⟨c,_⟩ | ⟨g,cap,cur,c,_,hh,_⟩
 ·rw[c] at e;simp[Value.ownBlock] at e
 ·rw[c] at e
  simp only[Value.ownBlock,Option.some.injEq] at e;subst e;exact Zai hh hi.Au (by decide) rfl
theorem IC.one {wr p j w7:World}{d:Ag}{gg f:Nat}(h:IC w wr rb ib id st d i a1 a2 c1 c2)(hi:i<d.steps.length)(u:x= .int .i64 (d.at_ i).st)(t:Below wr.heap.size wr p)(s:j=p.alloc (.cells #[x] 3))
  (hown:w7.ownsRow w.heap.size 3 1 (.slice (some ⟨gg,0,none⟩) (i+1) f) (i+1) (XJ d i++[x])) (hg:j.grownBy w7 (Value.slice a1 i c1).ownBlock) (hat:(Value.slice a1 i c1).ownBlock=some gg\/gg=j.heap.size) :
  PC w (w7.setCell ⟨ib,2,none⟩ (.slice (some ⟨gg,0,none⟩) (i+1) f)) rb ib id st d i (some ⟨gg,0,none⟩) a2 f c2:=by
 have c:=(h.below t).below (wx:=j) (by rw[s];exact (Zk _ _).alloc (Zx _) _);have n1:=Zc2 c.r1 c.info;have n2:=Zc2 c.r1 c.res;have r:w7.heap[ib]? =j.heap[ib]? :=hg.block ib (Zaa c.info.Au) (fun e=>n1 e.symm);have k:w7.heap[rb]? =j.heap[rb]? :=hg.block rb (Zaa c.res.Au) (fun e=>n2 e.symm);have l:=c.info.at_ r
 have n:(some gg:Option Nat)≠(Value.slice a2 i c2).ownBlock:=fun e=>by
  rcases hat with q | q
  ·exact c.ap gg q e.symm
  ·have:=(c.r2.lt gg e.symm).2;omega
 have o:w7.ownsRow w.heap.size 3 1 (.slice a2 i c2) i (XK d i):=c.r2.kept hg (by
  by_cases e:(Value.slice a2 i c2).ownBlock=none
  ·exact Zu e
  ·refine Zj (fun k=> ?_)
   obtain⟨z,g⟩:=Option.ne_none_iff_exists'.1 e;rw[g] at k;exact c.ap z k.symm g)
 have m:Below w.heap.size w w7:=c.Dt.grown hg c.Dt.size (fun z g=>(c.r1.lt z g).1);refine⟨l.set2 _,(c.res.at_ k).at_ (Zl _ _ _ _ c.ne),Zae ?_ l.Au (by decide) _,Zae o l.Au (by decide) _,fun z g e=>n ?_,m.setCell c.iw_ _,c.Bz,c.iw_,c.ne⟩
 ·rw[WY hi,<-u];exact hown
 ·simp only[Value.ownBlock,Option.some.injEq] at g;rw[g];exact e.symm
theorem PC.two {wr k w7:World}{d:Ag}{gg c:Nat}(h:PC w wr rb ib id st d i a1 a2 c1 c2)(hi:i<d.steps.length)(v:x= .int .i64 (d.at_ i).tries)(u:k=wr.alloc (.cells #[x] 3))
  (hown:w7.ownsRow w.heap.size 3 1 (.slice (some ⟨gg,0,none⟩) (i+1) c) (i+1) (XK d i++[x])) (hg:k.grownBy w7 (Value.slice a2 i c2).ownBlock) (hat:(Value.slice a2 i c2).ownBlock=some gg\/gg=k.heap.size) :
  IC w (w7.setCell ⟨ib,3,none⟩ (.slice (some ⟨gg,0,none⟩) (i+1) c)) rb ib id st d (i+1) a1 (some ⟨gg,0,none⟩) c1 c:=by
 have l:Below wr.heap.size wr k:=by rw[u];exact (Zk _ _).alloc (Zx _) _
 have f:=h.info.at_ (l.block _ (Zaa h.info.Au));have g:=h.res.at_ (l.block _ (Zaa h.res.Au));have r1:=Zam h.r1 l;have r2:=Zam h.r2 l;have m:=h.Dt.trans (l.mono h.Dt.size);have n1:=Zc2 r2 f;have n2:=Zc2 r2 g;have t:w7.heap[ib]? =k.heap[ib]? :=hg.block ib (Zaa f.Au) (fun e=>n1 e.symm);have n:w7.heap[rb]? =k.heap[rb]? :=hg.block rb (Zaa g.Au) (fun e=>n2 e.symm);have o:=f.at_ t
 have r:(some gg:Option Nat)≠(Value.slice a1 (i+1) c1).ownBlock:=fun e=>by
  rcases hat with q | q
  ·exact h.ap gg e.symm q
  ·have:=(r1.lt gg e.symm).2;omega
 have s:w7.ownsRow w.heap.size 3 1 (.slice a1 (i+1) c1) (i+1) (XJ d (i+1)):=r1.kept hg (by
  by_cases e:(Value.slice a1 (i+1) c1).ownBlock=none
  ·exact Zu e
  ·refine Zj (fun n=> ?_)
   obtain⟨z,j⟩:=Option.ne_none_iff_exists'.1 e;rw[j] at n;exact h.ap z j n.symm)
 have p:Below w.heap.size w w7:=m.grown hg m.size (fun z j=>(r2.lt z j).1);refine⟨o.set3 _,(g.at_ n).at_ (Zl _ _ _ _ h.ne),Zae s o.Au (by decide) _,Zae ?_ o.Au (by decide) _,fun z j e=>r ?_,p.setCell h.iw_ _,h.Bz,h.iw_,h.ne⟩
 ·rw[Xn hi,<-v];exact hown
 ·simp only[Value.ownBlock,Option.some.injEq] at e;rw[e];exact j.symm
theorem Qo (w:World)(P B:Nat)(ob:Option Nat)(e:Ab)(id:Int)(h:BY w P B ob e) :
  Calls prog 115 #[.pointer (some ⟨P,4,none⟩), .int .u64 id] w fun x w'=>((e.find id=none/\x= .returned (.tuple #[IK 0 0 (.slice none 0 0) (.slice none 0 0),AH 6]))\/∃i a1 a2 c1 c2,e.find id=some i/\x= .returned (.tuple #[IK id (e.at_ i).st (.slice a1 (e.at_ i).steps.length c1) (.slice a2 (e.at_ i).steps.length c2), .nilIface])/\w'.ownsRow w.heap.size 3 1 (.slice a1 (e.at_ i).steps.length c1) (e.at_ i).steps.length ((e.at_ i).sts.map (Value.int .i64))/\w'.ownsRow w.heap.size 3 1 (.slice a2 (e.at_ i).steps.length c2) (e.at_ i).steps.length ((e.at_ i).trs.map (Value.int .i64)))/\Below w.heap.size w w':=by
 obtain⟨rs,l,hx,ht⟩:=h;obtain⟨C,N⟩:∃C,C=w.alloc (.cells #[.int .u64 0, .int .i64 0, .slice none 0 0, .slice none 0 0] 50):=⟨_,rfl⟩;obtain⟨rb,V⟩:∃rb,rb=w.heap.size:=⟨_,rfl⟩;have O:Below w.heap.size w C:=by rw[N];exact (Zk _ _).alloc (Zx _) _
 have c:BC C rb 0 0 (.slice none 0 0) (.slice none 0 0):=⟨by rw[N,V];exact heap_alloc_new w _⟩;have F:=hx.below O;obtain⟨el,now,hM,cu,br⟩:=F.ex;obtain⟨ka,kc,T⟩:=hM.kn;have f:=GK C P B kc ka rs id T;rw[JO F.len F.runs] at f;have q:=Zz (Zq O (Zq V N));have HR:=Zz c
 cases hf:e.find id with
 | none =>
  rw[hf] at f;have aj:Hid (Calls prog 157 #[.pointer (some ⟨P,4,none⟩), .int .u64 id] C fun e w'=>e= .returned (.pointer none)/\w'=C):=Zz f;obtain⟨⟨⟨f0,f1⟩,f2⟩,f3⟩:=c.AE;obtain⟨⟨⟨z0,z1⟩,z2⟩,z3⟩:=c.cells;clear f hf hx F ht hM T cu br N V O c
  go_enter func115,ntmps115
  go_upto_region 1 with fail
  rw[<-q.o.2.1,<-q.o.2.2];go_wp2_with (go_at_call 157;refine aj.o.mono ?_;rintro _ w1 ⟨rfl,E⟩;rw[E])
  (try simp only[Exit.inBlock,Exit.then])
  have M:=GN (HR.o.set _ _ 0 0 (.slice none 0 0) (.slice none 0 0));refine bodyPost_ret (v:= .tuple #[IK 0 0 (.slice none 0 0) (.slice none 0 0),AH 6]) (by rw[results_cell_tmp rfl];simp[Result.andThen,asAddr,M,IK,AH]) rfl ?_;refine⟨Zu ⟨trivial,rfl⟩,?_⟩;have U:=q.o.2.1;exact (((q.o.1.setCell (p:=⟨rb,0,none⟩) (Nat.le_of_eq U.symm) _).setCell (p:=⟨rb,1,none⟩) (Nat.le_of_eq U.symm) _).setCell (p:=⟨rb,2,none⟩) (Nat.le_of_eq U.symm) _).setCell (p:=⟨rb,3,none⟩) (Nat.le_of_eq U.symm) _
 | some i =>
  rw[hf] at f;have hi:=RA hf;have ar:i<rs.length:=by rw[hx.len];exact hi
  have R:=T.runs i ar
  have bj:AW w B (Am rs i):=by
   obtain⟨_,_,dj,_,_⟩:=hx.ex;obtain⟨_,_,cq⟩:=dj.kn;exact cq.runs i ar
  have Q:=F.runs i hi;obtain⟨b,hb⟩:∃b,b=(Am rs i).b:=⟨_,rfl⟩;obtain⟨ng,ax⟩:∃ng,ng=(Am rs i).ng:=⟨_,rfl⟩;obtain⟨m,hm⟩:∃m,m=(Am rs i).ns.length:=⟨_,rfl⟩;have aj:Hid (Calls prog 157 #[.pointer (some ⟨P,4,none⟩), .int .u64 id] C fun e w'=>e= .returned (.pointer (some ⟨b,0,none⟩))/\w'=C):=Zz (by rw[hb];exact f);obtain⟨⟨_,t1,t2⟩,_⟩:=R.CP;rw[<-hb,Q.st] at t1;rw[<-hb,<-ax,<-hm] at t2;obtain⟨_,_,ct,dp,_,_⟩:=R.Bi;have dh:=R.Bs;rw[<-hm] at ct dh;obtain⟨nc,ag⟩:∃nc,nc=(Am rs i).nc:=⟨_,rfl⟩;rw[<-ag] at ct t2;have au:m=(e.at_ i).steps.length:=by rw[hm];exact Q.len
  obtain⟨d,hd⟩:∃d,d=e.at_ i:=⟨_,rfl⟩;rw[<-hd] at t1 au;obtain⟨st,ay⟩:∃st,st=d.st:=⟨_,rfl⟩;rw[<-ay] at t1;obtain⟨i3,bw,cy,da,db⟩:=info_parts Vs;have Y:=Zz (Zq bw (Zq cy (Zq da db)));have s:=Zz (Zq bj (Zq Q (Zq hb (Zq ax (Zq hm (Zq au (Zq hd (Zq ay hf))))))));clear f hf hx F ht hM T cu br N V O c hi ar R bj Q hb ax hm au hd ay ag bw cy da db dp;obtain⟨w1,E⟩:∃w1,w1=C.alloc (.cells #[.int .u64 id, .int .i64 st, .slice none 0 0, .slice none 0 0] 50):=⟨_,rfl⟩;obtain⟨ib,S⟩:∃ib,ib=C.heap.size:=⟨_,rfl⟩;have H:Below C.heap.size C w1:=by rw[E];exact (Zk _ _).alloc (Zx _) _
  have L:IC w w1 rb ib id st d 0 none none 0 0:=by
   have eg:=Zaa HR.o.Au;refine⟨⟨by rw[E,S];exact heap_alloc_new C _⟩,HR.o.at_ (H.block _ eg),World.ownsRow_nil _ _ _ _,World.ownsRow_nil _ _ _ _,fun z hz=>by simp[Value.ownBlock] at hz,q.o.1.trans (H.mono q.o.1.size),Nat.le_of_eq q.o.2.1.symm,by rw[S];exact q.o.1.size,by omega⟩
  have ey:=cell_later H t2;have HQ:=Zz (Zq L H);have bf:=Zz (Zq S E);clear E S H L
  go_enter func115,ntmps115
  go_upto_region 1 with fail
  rw[<-q.o.2.1,<-q.o.2.2]
  go_upto_region 5 with (go_at_call 157;refine aj.o.mono ?_;rintro _ wz ⟨rfl,ei⟩;rw[ei])
  rw[<-bf.o.1,<-bf.o.2];clear t2;go_wp2_with fail
  go_loopw [28] (fun iv wr=>∃(k:Nat) (a1 a2:Option Addr) (c1 c2:Nat),iv= .int .i64 k/\k<=m/\IC w wr rb ib id st d k a1 a2 c1 c2) (fun iv _=>m - (intOf iv).toNat)
  case atStart=>exact⟨0,none,none,0,0,rfl,by omega,HQ.o.1⟩
  case round =>
   obtain⟨k,a1,a2,c1,c2,rfl,hk,L⟩:=hrel;have j:=Zz L;by_cases h1:k<m
   ·have cm:k<(Am rs i).ns.length:=by have:=s.o.2.2.2.2.1;omega
    have y:k<d.steps.length:=by have:=s.o.2.2.2.2.2.1;omega
    obtain⟨nd,aw⟩:∃nd,nd=(Am rs i).at_ k:=⟨_,rfl⟩;obtain⟨y0,y1,y2,y3,y4,y5,y6,y7,y8,y9⟩:=(s.o.1.below L.Dt).nd cm;rw[<-s.o.2.2.2.1,<-aw] at y0 y1 y2 y3 y4 y5 y6 y7 y8 y9;obtain⟨af,bo⟩:∃af,af=nd.af.length:=⟨_,rfl⟩;rw[<-bo] at y6
    have b9:=Zz (show nd.st=(d.at_ k).st/\nd.tries=(d.at_ k).tries by
     have:=s.o.2.1.nd k (by rw[<-s.o.2.2.2.2.2.2.1];exact y);rw[aw,s.o.2.2.2.2.2.2.1];exact this)
    obtain⟨D,W⟩:∃D,D=wr.alloc (.cells #[.int .i64 nd.bu, .int .i64 nd.cl, .int .i64 nd.be, .int .i64 nd.ba, .int .i64 nd.ca, .int .i64 nd.ji, .slice nd.aa af nd.ac, .int .i64 nd.st, .int .i64 nd.tries, .int .u64 nd.tok] 276):=⟨_,rfl⟩;obtain⟨nb,av⟩:∃nb,nb=wr.heap.size:=⟨_,rfl⟩;have al:Below wr.heap.size wr D:=by rw[W];exact (Zk _ _).alloc (Zx _) _
    have c:D.heap[nb]? =some (.cells #[.int .i64 nd.bu, .int .i64 nd.cl, .int .i64 nd.be, .int .i64 nd.ba, .int .i64 nd.ca, .int .i64 nd.ji, .slice nd.aa af nd.ac, .int .i64 nd.st, .int .i64 nd.tries, .int .u64 nd.tok] 276 (0,0)):=by rw[W,av];exact heap_alloc_new _ _
    have u7:D.cell? ⟨nb,7,none⟩=some (.int .i64 nd.st):=by unfold World.cell?;rw[c];rfl
    have X:=L.below al;obtain⟨⟨⟨x0,x1⟩,x2⟩,x3⟩:=X.info.cells;have xz:=X.info.AE.1.2;have eo:w.heap.size<=D.heap.size:=X.Dt.size;have ck:ib<D.heap.size:=Zaa X.info.Au;have I:some ib≠(Value.slice a1 k c1).ownBlock:=fun e=>Zc2 X.r1 X.info e.symm;have HO:=Zz X.r1;have A:=Zz (Zq W (Zq av (Zq al (Zq c (Zq y X)))));have i1:(k:Int)<(m:Int):=by omega
    clear aw bo W av al c cm y L X
    go_upto_region 8 with fail
    rw[<-A.o.2.1,<-A.o.1];clear y0 y1 y2 y3 y4 y5 y6 y7 y8 y9 x0 x1 x3
    go_upto_region 9 with (at_builtin;refine wpList_append_lies _ rfl (.tmp 33) (.tmp 36) 24 rfl w.heap.size 3 i3 _ 1 8 underlying24 Y.o.1 Y.o.2.1 Y.o.2.2.1 Y.o.2.2.2 rfl (by omega) (.slice a1 k c1) k (XJ d k) rfl (HO.o.alloc _) ⟨D.heap.size,0,none⟩ 1 1 [.int .i64 nd.st] rfl rfl (World.news_of_block (cs:=#[.int .i64 nd.st]) (t:=3) (fr:=(0,0)) (heap_alloc_new D _)) (by simp[Value.oneCell']) (by omega) (by unfold maxLen;omega) (by omega) (by simp;omega) (D.heap.size+1) (by simp) ?_;intro gg bh w7 J r bp du;have s1:=(r.cell_far ⟨ib,2,none⟩ (by simp;omega) I).trans (cell_later ((Zk D.heap.size D).alloc (Zx _) (.cells #[.int .i64 nd.st] 3)) x2);have sz:=(r.frozen_far ⟨ib,2,none⟩ (by simp;omega) I).trans ((((Zk D.heap.size D).alloc (Zx _) (.cells #[.int .i64 nd.st] 3)).frozen (p:=⟨ib,2,none⟩) (by simp only[];omega)).trans xz))
    have u:=Zz (A.o.2.2.2.2.2.one A.o.2.2.2.2.1 (x:= .int .i64 nd.st) (by rw[b9.o.1]) (Zk _ _) rfl J r (by simpa using bp));obtain⟨G,az⟩:∃G,G=w7.setCell ⟨ib,2,none⟩ (.slice (some ⟨gg,0,none⟩) (k+1) bh):=⟨_,rfl⟩;rw[<-az] at u ⊢
    have ae:G.heap[nb]? =some (.cells #[.int .i64 nd.bu, .int .i64 nd.cl, .int .i64 nd.be, .int .i64 nd.ba, .int .i64 nd.ca, .int .i64 nd.ji, .slice nd.aa af nd.ac, .int .i64 nd.st, .int .i64 nd.tries, .int .u64 nd.tok] 276 (0,0)):=by
     have c:=A.o.2.2.2.1;have dy:=Zaa c;have dw:nb≠ib:=Zai c A.o.2.2.2.2.2.info.Au (by decide)
     have ee:(Value.slice a1 k c1).ownBlock≠some nb:=fun e=>by
      rcases HO.o.2 with⟨h2,_⟩ | ⟨g,cap,cur,h2,_,hh,_⟩
      ·rw[h2] at e;simp[Value.ownBlock] at e
      ·rw[h2] at e
       simp only[Value.ownBlock,Option.some.injEq] at e;subst e;exact Zai hh c (by decide) rfl
     rw[az,Zl _ _ _ _ dw,r.block nb (by simp;omega) (fun e=>ee e.symm),Zao _ _ _ dy];exact c
    have v8:G.cell? ⟨nb,8,none⟩=some (.int .i64 nd.tries):=by unfold World.cell?;rw[ae];rfl
    obtain⟨⟨⟨x0,x1⟩,x2⟩,x3⟩:=u.o.info.cells;have xz:=u.o.info.AE.2;have ep:w.heap.size<=G.heap.size:=u.o.Dt.size;have ck:ib<G.heap.size:=Zaa u.o.info.Au;have I:some ib≠(Value.slice a2 k c2).ownBlock:=fun e=>Zc2 u.o.r2 u.o.info e.symm;have dd:=Zz u.o.r2;clear az ae J r bp du s1 sz u7 x0 x1 x2
    go_upto_region 10 with (at_builtin;refine wpList_append_lies _ rfl (.tmp 40) (.tmp 43) 24 rfl w.heap.size 3 i3 _ 1 8 underlying24 Y.o.1 Y.o.2.1 Y.o.2.2.1 Y.o.2.2.2 rfl (by omega) (.slice a2 k c2) k (XK d k) rfl (dd.o.alloc _) ⟨G.heap.size,0,none⟩ 1 1 [.int .i64 nd.tries] rfl rfl (World.news_of_block (cs:=#[.int .i64 nd.tries]) (t:=3) (fr:=(0,0)) (heap_alloc_new G _)) (by simp[Value.oneCell']) (by omega) (by unfold maxLen;omega) (by omega) (by simp;omega) (G.heap.size+1) (by simp) ?_;intro eu de w8 K n Z cr;have s1:=(n.cell_far ⟨ib,3,none⟩ (by simp;omega) I).trans (cell_later ((Zk G.heap.size G).alloc (Zx _) (.cells #[.int .i64 nd.tries] 3)) x3);have sz:=(n.frozen_far ⟨ib,3,none⟩ (by simp;omega) I).trans ((((Zk G.heap.size G).alloc (Zx _) (.cells #[.int .i64 nd.tries] 3)).frozen (p:=⟨ib,3,none⟩) (by simp only[];omega)).trans xz))
    have dc:=Zz (u.o.two A.o.2.2.2.2.1 (x:= .int .i64 nd.tries) (by rw[b9.o.2]) rfl K n (by simpa using Z));clear K n Z cr s1 sz x3 xz v8;go_wp2_with fail
    go_roundw
    case rel=>exact⟨k+1,_,_,_,_,by go_num,by omega,dc.o⟩
    case measure=>simp[intOf];omega
   ·have dr:k=m:=by omega
    subst dr;obtain⟨⟨⟨x0,x1⟩,x2⟩,x3⟩:=L.info.cells;obtain⟨⟨⟨f0,f1⟩,f2⟩,f3⟩:=L.res.AE;obtain⟨⟨⟨z0,z1⟩,z2⟩,z3⟩:=L.res.cells;have i1:¬(k:Int)<(k:Int):=by omega
    clear L;go_wp2_with fail
    (try simp only[Exit.inBlock,Exit.then])
    have M:=GN (j.o.res.set _ _ id st (.slice a1 k c1) (.slice a2 k c2));refine bodyPost_ret (v:= .tuple #[IK id st (.slice a1 k c1) (.slice a2 k c2), .nilIface]) (by rw[results_cell_tmp rfl];simp[Result.andThen,asAddr,M,IK]) rfl ?_;have U:=q.o.2.1;have y:=s.o.2.2.2.2.2.1;have hd:=s.o.2.2.2.2.2.2.1;have s1:=ZP d;have s2:=ZW d;rw[<-y] at s1 s2;refine⟨⟨a1,a2,c1,c2,?_,?_,?_⟩,?_⟩
    ·rw[<-hd,<-y,<-s.o.2.2.2.2.2.2.2.1]
    ·rw[<-hd,<-y,<-s1]
     exact Zae (Zae (Zae (Zae j.o.r1 j.o.res.Au (by decide) _) (Zab j.o.res.Au _) (by decide) _) (Zab (Zab j.o.res.Au _) _) (by decide) _) (Zab (Zab (Zab j.o.res.Au _) _) _) (by decide) _
    ·rw[<-hd,<-y,<-s2]
     exact Zae (Zae (Zae (Zae j.o.r2 j.o.res.Au (by decide) _) (Zab j.o.res.Au _) (by decide) _) (Zab (Zab j.o.res.Au _) _) (by decide) _) (Zab (Zab (Zab j.o.res.Au _) _) _) (by decide) _
    ·exact (((j.o.Dt.setCell (p:=⟨rb,0,none⟩) (Nat.le_of_eq U.symm) _).setCell (p:=⟨rb,1,none⟩) (Nat.le_of_eq U.symm) _).setCell (p:=⟨rb,2,none⟩) (Nat.le_of_eq U.symm) _).setCell (p:=⟨rb,3,none⟩) (Nat.le_of_eq U.symm) _
end Go.Proofs.YtgdcjccbdmcebaaGreatDoor
