/- The law Honest answers true for all raw numbers and all lists of events that can be handed in, and leaves them as they were: a node is handed out only when all for which it waits are done, no more often than it may be, not ahead of its rest; what has ended stays so; a run has succeeded just if all its nodes are done; failures of power between. The condition: the tables of math/bits, the type error of package errors and the names of the log's files read as the program's text lays them. -/
import Derived.Test.YtgdcjccbdmcebaaGreatDoorM34
import Derived.Test.YtgdcjccbdmcebaaGreatDoorM35
import Derived.Test.YtgdcjccbdmcebaaGreatDoorCards
import Derived.Test.YtgdcjccbdmcebaaGreatDoorTie
import Derived.OpenShut
import Derived.Lib.SmallJoins
import Derived.Deep.Slices
import Derived.SizedLaws
import Derived.Deep.DeepHandedRow
set_option linter.all false
set_option maxHeartbeats 16000000
set_option maxRecDepth 100000
namespace Go.Proofs.YtgdcjccbdmcebaaGreatDoor
open Go.RowKit
attribute [local go_sem ↓] Go.wp_at_zero Go.wp_at_succ
structure Uf where
 kd:Int
 nn:Int
 kp:Int
def Uf.z:Uf:=⟨0,0,0⟩
structure XC (r:Uf):Prop where
 kd: -9223372036854775808<=r.kd/\r.kd<=9223372036854775807
 nn: -9223372036854775808<=r.nn/\r.nn<=9223372036854775807
 kp: -9223372036854775808<=r.kp/\r.kp<=9223372036854775807
def EvAt (w:World)(a:Option Addr)(c:Nat)(l:List Uf):Prop:=l.length=0\/∃b off,a=some ⟨b,off,none⟩/\l.length<=c/\c<=maxLen/\b<w.heap.size/\∀i,i<l.length->w.cell? ⟨b,off+i * 3,none⟩=some (.int .i64 (l.getD i .z).kd)/\w.cell? ⟨b,off+i * 3+1,none⟩=some (.int .i64 (l.getD i .z).nn)/\w.cell? ⟨b,off+i * 3+2,none⟩=some (.int .i64 (l.getD i .z).kp)
theorem HoS.seen {w wx wy:World}{ub hb D bd rk tb a lc i c:Nat}{F G:Ad}{b:List CM}{rd:List Int}{e:Ab}{r0:Ag}{tv:Nat->Int}(h:HoS w wx ub hb D bd rk tb a lc i F G b rd e c r0 tv)(hh:HH tb w wy hb D bd (some rk) (13000000+1000000 * i) e)(wa:Sb w wy ub hb rk tb F.n F.dl a lc b rd F.n (e.at_ 1) (fun k=>((e.at_ 1).at_ k).tries)):HoS w wy ub hb D bd rk tb a lc i F G b rd e F.n (e.at_ 1) (fun k=>((e.at_ 1).at_ k).tries) :=
 ⟨hh,wa,h.Cc,h.fl,h.tok,h.tl⟩
theorem ho_start {w w':World}{ub hb D bd rk tb c lc:Nat}{F G:Ad}{e:Ab}(hh:HH tb w w' hb D bd (some rk) 13000000 e)(b:EG e G)(g:Ug F G)(hu:StrS w w' ub hb D bd rk tb F (some ⟨c,0,none⟩) lc):HoS w w' ub hb D bd rk tb c lc 0 F G [] (List.replicate F.n 0) e 0 (e.at_ 1) (fun _=>0):=by
 have a:=b.Cc;rw[g.n] at a;refine⟨hh,⟨⟨none,0,0,0,none,0,none,0,hu.Au,World.ownsRow_nil _ _ _ _,fun _=>rfl,Zu rfl⟩,hu.rr.congr fun k hk=> ?_,hu.tr,hu.GJ⟩,{ a with time:=by have:=a.time;omega },b.fl,by rw[b.tok];omega,Zx _⟩;rw[ZQ,List.getElem?_replicate,if_pos hk]
 rfl
theorem honest_any (w:World)(c0 d0:Int)(ab an:Option Addr)(nb cb nn cn:Nat)(fb fn:Nat->Int)(ea:Option Addr)(ec:Nat)(l:List Uf)(J: -9223372036854775808<=c0/\c0<=9223372036854775807)(K: -9223372036854775808<=d0/\d0<=9223372036854775807)(hb:Di w ab nb cb fb)(hn:Di w an nn cn fn)(hs:EvAt w ea ec l)(p:∀i,i<l.length->XC (l.getD i .z))(hlen:l.length<=maxLen)(he:Ay w)(Y:Za4 w)(ht:AP w)(hg:4<w.heap.size)(X:2<w.heap.size)(W:0<w.heap.size) :
  Calls Tryz.prog 8 #[.int .i64 c0,.slice ab nb cb,.slice an nn cn,.int .i64 d0,.slice ea l.length ec] w fun x w'=>x=.returned (.bool true)/\ZY w w':=by
 have H:=Zz (Ta w c0 d0 ab an nb cb nn cn fb fn J.1 J.2 K.1 K.2 hb hn);unfold GL at H;have B:=Zz (Zq he (Zq Y (Zq ht (Zq hg (Zq X W)))));obtain⟨m,hm⟩:∃m,m=l.length:=⟨_,rfl⟩;rw[<-hm];have HL:=Zz (Zq hs (Zq p (Zq hlen hm)));clear J K hb hn he Y ht hg X W hs p hlen hm
 go_enter Tryz.func8,Tryz.ntmps8
 go_upto_region 2 with (go_at_call 18;refine H.o.mono ?_;rintro _ w1 ⟨⟨F,la,lc,R,S,rfl,q1,q,q3,q4⟩,T⟩;have H1:=Zz (Zq q1 (Zq q (Zq q3 (Zq q4 T))));clear q1 q q3 q4 T)
 obtain⟨A,rfl,V⟩:=H1.o.1.fwc H1.o.2.2.1;obtain⟨dl,v⟩:∃dl,dl=F.dl:=⟨_,rfl⟩;obtain⟨n,hn⟩:∃n,n=F.n:=⟨_,rfl⟩;obtain⟨fb,M⟩:∃fb,fb=w1.heap.size:=⟨_,rfl⟩;obtain⟨s,y⟩:∃s,s=w1.alloc (.cells #[.int .i64 dl,.slice (some ⟨A,0,none⟩) n lc] 61):=⟨_,rfl⟩;rw[<-M,<-v,<-hn,<-y];have c:ZY w1 s:=by rw[y];exact ZV.alloc ZU _
 have a:ZY w s:=H1.o.2.2.2.2.trans (c.mono H1.o.2.2.2.2.size);have L:s.heap[fb]? =some (.cells #[.int .i64 dl,.slice (some ⟨A,0,none⟩) n lc] 61 (0,0)):=by rw[y,M];exact heap_alloc_new w1 _
 have f0:s.cell? ⟨fb,0,none⟩=some (.int .i64 dl):=Zad L 0;have f1:s.cell? ⟨fb,1,none⟩=some (.slice (some ⟨A,0,none⟩) n lc):=Zad L 1;have t:=Zz (Qj s w.heap.size F (some ⟨A,0,none⟩) lc R S (H1.o.1.below c) H1.o.2.1 H1.o.2.2.1 H1.o.2.2.2.1 (B.o.1.Ak a) (fun i hi=>cell_later a (B.o.2.1 i hi)) (B.o.2.2.1.Ak B.o.2.2.2.2.1 a) (Zy B.o.2.2.2.1 a.size) (Zy B.o.2.2.2.2.1 a.size) (Zy B.o.2.2.2.2.2 a.size));unfold GL at t;rw[<-v,<-hn] at t
 have d:=Zz (Zq c (Zq a (Zq (show XD s s.heap.size F.n F A R S from by
  obtain⟨z1,z2,z3,z4,z5⟩:=V.Ak c.size (fun k hk=>c.block k hk)
  exact⟨Zx _,Zy z2 c.size,z3,fun k j hk hj=>by
   obtain⟨g,y1,y2,y3⟩:=z4 k j hk hj;exact⟨g,y1,Zy y2 c.size,y3⟩,z5⟩) (Zq v hn))))
 clear H c a L M y V v hn
 go_upto_region 3 with (go_at_call 19;refine t.o.mono ?_;rintro _ w3 ⟨ub,hb,D,bd,rk,tb,e,G,rfl,q1,q,q3,q4⟩;have C:=Zz (Zq q1 (Zq q (Zq q3 q4)));clear q1 q q3 q4)
 clear f0 f1 t
 have hg:Ug F G:=by
  have h3:=C.o.2.2.1;rw[d.o.2.2.2.1,d.o.2.2.2.2] at h3;exact⟨H1.o.2.1,H1.o.2.2.1,H1.o.2.2.2.1,h3.1,h3.2.1,h3.2.2⟩
 have h0:=ho_start C.o.1 C.o.2.1 hg C.o.2.2.2;have f:=Zz (Zq hg (Zq h0 (Zy B.o.2.2.2.1 d.o.2.1.size)));clear hg h0;by_cases h4:m<=400
 case neg =>
  have i1:(400:Int)<(m:Int):=by omega
  go_wp2_with fail
  go_ret
  exact⟨rfl,d.o.2.1.trans (C.o.1.Db.mono d.o.2.1.size)⟩
 case pos =>
  have i1:¬(400:Int)<(m:Int):=by omega
  have P:=Zz (Mm s w3 ub hb D bd rk tb 13000000 F.n A lc 0 F.dl [] (List.replicate F.n 0) (e.at_ 1) (fun _=>0) e F R S C.o.1 f.o.2.1.wa d.o.2.2.1 (f.o.2.1.wtd f.o.1 (fun x=>by have:=f.o.1.n1;omega) (fun k hk=>by
   have:=C.o.2.1.nd k (by rw[f.o.1.n];exact hk);rw[this.1];exact Int.le_refl _) (fun x=>by have:=f.o.1.n1;omega)) f.o.2.1.find f.o.2.2 f.o.1.n2)
  go_upto_region 6 with (go_at_call 20;refine P.o.mono ?_;rintro _ w4 ⟨rfl,q1,q⟩;have H4:=Zz (f.o.2.1.seen q1 q);clear q1 q)
  clear P i1;go_wp2_with fail
  go_loopw [14,13] (fun iv kv wr=>∃(i:Nat) (ts:List CM) (rd:List Int) (I:Ab),iv=.int .i64 i/\i<=m/\kv=.bool true/\HoS s wr ub hb D bd rk tb A lc i F G ts rd I F.n (I.at_ 1) (fun k=>((I.at_ 1).at_ k).tries)) (fun iv _ _=>m - (intOf iv).toNat)
  case atStart=>exact⟨0,[],List.replicate F.n 0,e,rfl,by omega,rfl,H4.o⟩
  case round =>
   obtain⟨i,ts,rd,I,rfl,hi,rfl,Z⟩:=hrel
   rename World=>wr
   have O:=Zz Z;clear Z;by_cases h1:i<m
   case neg =>
    have i1:¬(i:Int)<(m:Int):=by omega
    go_wp2_with fail
    go_ret
    exact⟨rfl,d.o.2.1.trans (O.o.hh.Db.mono d.o.2.1.size)⟩
   case pos =>
    have i1:(i:Int)<(m:Int):=by omega
    have ar:=HL.o.2.2.2
    obtain⟨eb,eo,rfl,aj,_,al,U⟩:∃b off,ea=some ⟨b,off,none⟩/\l.length<=ec/\ec<=maxLen/\b<w.heap.size/\∀i,i<l.length->w.cell? ⟨b,off+i * 3,none⟩=some (.int .i64 (l.getD i .z).kd)/\w.cell? ⟨b,off+i * 3+1,none⟩=some (.int .i64 (l.getD i .z).nn)/\w.cell? ⟨b,off+i * 3+2,none⟩=some (.int .i64 (l.getD i .z).kp):=by
     rcases HL.o.1 with x | x
     .omega
     .exact x
    obtain⟨e1,e2,e3⟩:=U i (by omega);have p:=HL.o.2.1 i (by omega);obtain⟨r,Z⟩:∃r,r=l.getD i Uf.z:=⟨_,rfl⟩;rw[<-Z] at e1 e2 e3 p;obtain⟨kd,nn,kp⟩:=r;have u:ZY w wr:=d.o.2.1.trans (O.o.hh.Db.mono d.o.2.1.size);have v0:wr.cell? ⟨eb,eo+i * 3,none⟩=some (.int .i64 kd):=cell_later u e1;have v1:wr.cell? ⟨eb,eo+i * 3+1,none⟩=some (.int .i64 nn):=cell_later u e2;have v2:wr.cell? ⟨eb,eo+i * 3+2,none⟩=some (.int .i64 kp):=cell_later u e3;have N:=Zz (Te s wr ub hb D bd rk tb A lc i F G ts rd I R S kd nn kp O.o f.o.1 d.o.2.2.1 f.o.2.2 (by omega) p.kd p.nn p.kp);clear ar aj al U e1 e2 e3 p Z u
    go_upto_region 10 with (go_at_call 21;refine N.o.mono ?_;rintro _ w5 ⟨rfl,ag,ae,e',q1,q⟩;have E:=Zz (Zq q1 q);clear q1 q)
    have Q:=Zz (Mm s w5 ub hb D bd rk tb (13000000+1000000 * (i+1)) F.n A lc F.n F.dl ag ae (I.at_ 1) (fun k=>((I.at_ 1).at_ k).tries) e' F R S E.o.1.hh E.o.1.wa d.o.2.2.1 (E.o.1.wtd f.o.1 (fun _=>E.o.2) (fun k hk=>E.o.2.tries k (by rw[O.o.len f.o.1];exact hk)) (fun _=>O.o.len f.o.1)) E.o.1.find f.o.2.2 f.o.1.n2);clear v0 v1 v2 N
    go_upto_region 11 with (go_at_call 20;refine Q.o.mono ?_;rintro _ w6 ⟨rfl,q1,q⟩;have H6:=Zz (E.o.1.seen q1 q);clear q1 q)
    clear Q;go_wp2_with fail
    exact⟨⟨i+1,ag,ae,e',by go_num,by omega,rfl,H6.o⟩,by simp[intOf];omega⟩
end Go.Proofs.YtgdcjccbdmcebaaGreatDoor
namespace Go.Proofs.YtgdcjccbdmcebaaGreatDoor.Ho
open Go.RowKit Go.ChangeShapes Go.WideShapes Go.ChangeAt Go.Joins Go.Deep Go.Proofs.YtgdcjccbdmcebaaGreatDoor
theorem own:ownKnob Tryz.prog.godebug=none:=by kernel_rfl
theorem laidOut:laidOutB Tryz.prog=true:=by kernel_rfl
theorem cellsT:Tryz.prog.cellsOf 68=3:=by kernel_rfl
theorem cellsI:Tryz.prog.cellsOf 3=1:=by kernel_rfl
theorem cells3:Tryz.prog.cellsOf 3=1:=by kernel_rfl
theorem table {W:World}(h:laidMetH Tryz.prog Rows.honestRow.laid W):AP W:=Laid.tab_of (laidMetH.filter (fun x=>x.1 == "math/bits.deBruijn64tab") h)
theorem errs {W:World}(h:laidMetH Tryz.prog Rows.honestRow.laid W):Ay W:=Laid.err_of (laidMetH.filter (fun x=>x.1 == "errors.errorType") h)
theorem nams {W:World}(h:laidMetH Tryz.prog Rows.honestRow.laid W):Za4 W:=Laid.VP (laidMetH.filter (fun x=>x.1 == "flowkeeper/logs.names") h)
theorem open_list {H:Type}{enc:TypeId×Value->H}{W:World}{base:Nat}{v:Value}{d:DataW H}{p:List MemPlace}(i:Value.okWide Tryz.prog W .any base 24 v)
  (h:DataW.Trod enc Tryz.prog W 0 (fun _=>true) true 24 v d p):∃(a:Option Addr) (n c:Nat) (f:Nat->Int),v=.slice a n c/\Di W a n c f:=by
 obtain⟨a0,len,cap,rfl⟩:=okWide_slice Tryz.underlying24 i;obtain⟨fuel,hf⟩:=h;rcases open_ints Tryz.underlying24 Tryz.underlying3 cells3 hf with⟨e,_⟩ | ⟨a,n,c,l,e,_,hl,hm,q,_,g,j⟩
 .simp only[Value.cells,List.cons.injEq,Value.slice.injEq,and_true] at e
  obtain⟨rfl,rfl,rfl⟩:=e;exact⟨none,0,0,fun _=>0,rfl,Zu rfl,fun k hk=>by omega,fun k hk=>by omega,Nat.zero_le _⟩
 .simp only[Value.cells,List.cons.injEq,Value.slice.injEq,and_true] at e
  obtain⟨rfl,rfl,rfl⟩:=e;simp only[if_true] at q
  have hb:∀k,k<len-> -9223372036854775808<=l.getD k 0/\l.getD k 0<=9223372036854775807:=fun k hk=>by
   refine bounds_i64 (j _ ?_);rw[ZQ,ZZ (by omega)];exact List.getElem_mem _
  refine⟨some a,len,cap,fun k=>l.getD k 0,rfl,?_,fun k hk=>(hb k hk).1,fun k hk=>(hb k hk).2,by omega⟩;by_cases o:len=0
  .exact Zu o
  .obtain⟨b,off,rfl,m⟩:=ints_at g (by omega)
   exact Zj ⟨b,off,rfl,hl,hm,World.block_lt_of_cell? _ _ (m 0 (by omega)),fun k hk=>m k (by omega)⟩
theorem list3 {α:Type}{cs:List α}(h:cs.length=3):∃c0 c1 c2,cs=[c0,c1,c2]:=by
 match cs,h with
 | [c0,c1,c2],_=>exact⟨c0,c1,c2,rfl⟩
theorem open_turn {H:Type}{enc:TypeId×Value->H}{W:World}{fuel:Nat}{cs:List Value}{x:DataW H×List MemPlace}(h:DataW.trod enc Tryz.prog W 0 (fun _=>true) true fuel 68 cs=some x) :
  ∃r:Uf,cs=[.int .i64 r.kd,.int .i64 r.nn,.int .i64 r.kp]/\XC r:=by
 obtain⟨xs,n,_,rfl,hl,a,hf⟩:=DataW.trod_struct Tryz.underlying68 h;rw[cellsT] at hl;obtain⟨c0,c1,c2,rfl⟩:=list3 hl;obtain⟨k,x1,x2,rfl⟩:=list3 a;have d:DataW.trod enc Tryz.prog W 0 (fun _=>true) true n 3 [c0]=some k:=by simpa[cellsI] using hf 0 _ rfl
 have e:DataW.trod enc Tryz.prog W 0 (fun _=>true) true n 3 [c1]=some x1:=by simpa[cellsI] using hf 1 _ rfl
 have f:DataW.trod enc Tryz.prog W 0 (fun _=>true) true n 3 [c2]=some x2:=by simpa[cellsI] using hf 2 _ rfl
 obtain⟨z0,e0,rfl,g⟩:=DataW.trod_int Tryz.underlying3 d;obtain⟨l,b,rfl,i⟩:=DataW.trod_int Tryz.underlying3 e;obtain⟨z2,c,rfl,j⟩:=DataW.trod_int Tryz.underlying3 f;simp only[List.cons.injEq,and_true] at e0 b c;subst e0 b c;exact⟨⟨z0,l,z2⟩,rfl,bounds_i64 g,bounds_i64 i,bounds_i64 j⟩
theorem open_script {H:Type}{enc:TypeId×Value->H}{W:World}{base:Nat}{v:Value}{d:DataW H}{p:List MemPlace}(o:Value.okWide Tryz.prog W .any base 58 v)
  (h:DataW.Trod enc Tryz.prog W 0 (fun _=>true) true 58 v d p):∃(a:Option Addr) (c:Nat) (l:List Uf),v=.slice a l.length c/\EvAt W a c l/\(∀i,i<l.length->XC (l.getD i .z))/\l.length<=maxLen:=by
 obtain⟨a0,len,cap,rfl⟩:=okWide_slice Tryz.underlying58 o;obtain⟨fuel,hf⟩:=h;rcases open_slice Tryz.underlying58 hf with⟨k,_⟩ | ⟨a,len,cap,C,nn,D,E,k,_,hl,hm,m,_,t⟩
 .simp only[Value.cells,List.cons.injEq,Value.slice.injEq,and_true] at k
  obtain⟨rfl,rfl,rfl⟩:=k;exact⟨none,0,[],rfl,Zu rfl,fun i hi=>absurd hi (Nat.not_lt_zero _),Nat.zero_le _⟩
 .simp only[Value.cells,List.cons.injEq,Value.slice.injEq,and_true] at k
  obtain⟨rfl,rfl,rfl⟩:=k;simp only[if_true] at m;obtain rfl:cap=C:=m.symm;rw[cellsT] at t
  haveI:Inhabited Uf:=⟨Uf.z⟩
  obtain⟨R,q⟩:=choose_lt (α:=Uf) (n:=len) (p:=fun i r=>W.cells? 0 (a.add (i * 3)) 3=some [.int .i64 r.kd,.int .i64 r.nn,.int .i64 r.kp]/\XC r) (fun i hi=>by
   obtain⟨u,x,y⟩:=t i (by omega);obtain⟨r,rfl,A⟩:=open_turn y;exact⟨r,x,A⟩)
  have hlen:((List.range len).map R).length=len:=by simp
  have e:∀i,i<len->((List.range len).map R).getD i .z=R i:=fun i hi=>by
   rw[ZQ,List.getElem?_map,List.getElem?_range hi]
   rfl
  refine⟨some a,cap,(List.range len).map R,by rw[hlen],?_,fun i hi=>by rw[hlen] at hi;rw[e i hi];exact (q i hi).2,by rw[hlen];omega⟩;by_cases w:len=0
  .exact Zu (by rw[hlen];exact w)
  .obtain⟨b,off,spot⟩:=a
   have f:=(World.cells?_some (q 0 (by omega)).1).2.2 0 (by omega);simp only[Nat.zero_mul,Addr.add,if_true,List.getElem?_cons_zero] at f;have g:spot=none:=by simpa using World.cell?_spot f
   subst g;refine Zj ⟨b,off,rfl,by rw[hlen];exact hl,hm,World.block_lt_of_cell? _ _ f,fun i hi=> ?_⟩;rw[hlen] at hi;rw[e i hi];have s:=(World.cells?_some (q i hi).1).2.2
   have key:∀j,j<3->W.cell? ⟨b,off+i * 3+j,none⟩=[Value.int .i64 (R i).kd,.int .i64 (R i).nn,.int .i64 (R i).kp][j]? :=fun j B=>by
    have:=s j B
    rwa[add_plain,add_plain] at this
   exact⟨key 0 (by omega),key 1 (by omega),key 2 (by omega)⟩
theorem contract (H:Type)(enc:TypeId×Value->H)(W:World)(base:Nat)(args:Array Value)(z gs:List (DataW H))(before:List MemPlace)
  (hval:∀(j:Nat) t v,Tryz.f8.params[j]? =some t->args[j]? =some v->Value.okWide Tryz.prog W .any base t v)
  (hW:DataW.Whole enc Tryz.prog Tryz.f8.params.toList Rows.honestSpec.vars false W args.toList z gs before)
  (hL:laidMetH Tryz.prog Rows.honestRow.laid W) (hS:W.ShapedOpen Tryz.prog) :
  Calls Tryz.prog 8 args W fun e d=>∃v,e=.returned v/\Rows.honestSpec.post enc Tryz.prog Tryz.f8 false true false false W args v d:=by
 have f:=hW;obtain⟨p,q,o,P,rfl,Q,R⟩:=hW;have u:DataW.TrodAll enc Tryz.prog W 0 (fun _=>true) true Tryz.f8.params.toList args.toList z p:=o;rw[Tryz.params8] at u hval;obtain⟨v0,T,d0,I,p0,q0,w,rfl,rfl,N,r0⟩:=trodAll_cons u;obtain⟨v1,U,d1,J,p1,q1,rfl,rfl,rfl,A,r1⟩:=trodAll_cons r0;obtain⟨v2,V,d2,K,p2,q2,rfl,rfl,rfl,B,r2⟩:=trodAll_cons r1;obtain⟨v3,X,d3,L,p3,q3,rfl,rfl,rfl,O,D⟩:=trodAll_cons r2;obtain⟨v4,Y,d4,M,p4,q4,rfl,rfl,rfl,C,E⟩:=trodAll_cons D;obtain⟨rfl,rfl,rfl⟩:=trodAll_nil E;obtain rfl:args=#[v0,v1,v2,v3,v4]:=by cases args;simp_all
 obtain⟨rfl,rfl⟩:=trodVars_none P;obtain⟨Z,rfl,rfl,rfl,F⟩:=open_int Tryz.underlying3 (hval 0 3 v0 rfl rfl) N;obtain⟨x3,rfl,rfl,rfl,G⟩:=open_int Tryz.underlying3 (hval 3 3 v3 rfl rfl) O;clear o u r0 r1 r2 D E;simp only[List.append_nil,List.nil_append] at f;have m:∀x∈p1++(p2++p4),x.block<W.heap.size:=fun x n=>by simpa using f.lt x n
 have g:∀d:World,ZY W d->DataW.Trod enc Tryz.prog d 0 (fun b=>decide (b<W.heap.size)) true 24 v1 d1 p1 :=
  fun d hb=>Below.trod laidOut (by kernel_rfl) (of_decide_eq_true (by kernel_rfl)) A hb fun x n=>m x (List.mem_append_left _ n)
 have i:∀d:World,ZY W d->DataW.Trod enc Tryz.prog d 0 (fun b=>decide (b<W.heap.size)) true 24 v2 d2 p2 :=
  fun d hb=>Below.trod laidOut (by kernel_rfl) (of_decide_eq_true (by kernel_rfl)) B hb fun x n=>m x (List.mem_append_right _ (List.mem_append_left _ n))
 have k:∀d:World,ZY W d->DataW.Trod enc Tryz.prog d 0 (fun b=>decide (b<W.heap.size)) true 58 v4 d4 p4 :=
  fun d hb=>Below.trod laidOut (by kernel_rfl) (of_decide_eq_true (by kernel_rfl)) C hb fun x n=>m x (List.mem_append_right _ (List.mem_append_right _ n))
 obtain⟨a1,n1,c1,f1,rfl,r⟩:=open_list (hval 1 24 v1 rfl rfl) A;obtain⟨a2,n2,c2,f2,rfl,s⟩:=open_list (hval 2 24 v2 rfl rfl) B;obtain⟨a,c,l,rfl,S,y,hlen⟩:=open_script (hval 4 58 v4 rfl rfl) C;refine (honest_any W Z x3 a1 a2 n1 c1 n2 c2 f1 f2 a c l (bounds_i64 F) (bounds_i64 G) r s S y hlen (errs hL) (nams hL) (table hL) (Laid.WK hS) (Laid.tab_lt (table hL)) (Laid.err_lt (errs hL))).mono fun e d ⟨he,hb⟩=> ?_;subst he;refine⟨_,rfl,_,_,_,[]++[],[]++(p1++(p2++([]++(p4++[])))),[],f,?_,?_,rfl,hb.frame _,fun h=>by cases h⟩
 .exact trodAll_cons_mk (shut_bool Tryz.underlying4 true) trodAll_mk0
 .exact trodAll_cons_mk (shut_int Tryz.underlying3 F) (trodAll_cons_mk (g _ hb) (trodAll_cons_mk (i _ hb) (trodAll_cons_mk (shut_int Tryz.underlying3 G) (trodAll_cons_mk (k _ hb) trodAll_mk0))))
def wargs:Array Value:=#[.int .i64 0,.slice none 0 0,.slice none 0 0,.int .i64 0,.slice none 0 0]
theorem laid_met (os:Os):laidMetH Tryz.prog Rows.honestRow.laid ((Laid.Kg os).forCall (fun _ _=>0) ⟨#[],wargs,[]⟩).memory :=
 laidMetH_of_parts (laidMet_of_run' 8 (by kernel_rfl) (by kernel_rfl)) (by kernel_rfl)
theorem reads (os:Os){H:Type}(enc:TypeId×Value->H):∃places,DataW.whole enc Tryz.prog ((Laid.Kg os).forCall (fun _ _=>0) ⟨#[],wargs,[]⟩).memory Tryz.f8.params.toList Rows.honestSpec.vars false wargs.toList 8=some ([.lit (.int .i64 0),.nil,.nil,.lit (.int .i64 0),.nil],[],places) :=
 ⟨[],by kernel_rfl⟩
theorem lifted (os:Os)(started:os.Started)(H:Type)(enc:TypeId×Value->H)(F:Stop.Interp) :
  ReturnsInHanded {} Tryz.checked os 8 .any ((OpenSpec.ofChange Rows.honestSpec).preRow enc Tryz.prog Tryz.f8 Rows.honestRow.domain false Rows.honestRow.laid) (((OpenSpec.ofChange Rows.honestSpec).at F).post enc Tryz.prog Tryz.f8 false true false false):=by
 obtain⟨places,f⟩:=reads os enc
 refine returnsInHanded_of_row (C:=Tryz.checked) (s:=OpenSpec.ofChange Rows.honestSpec) own started (by kernel_rfl) Tryz.func8
  (witness_row_at (enc:=enc) (C:=Tryz.checked) false (Laid.Kg os) wargs rfl (by kernel_rfl) (by kernel_rfl) (by kernel_rfl)
   (OpenSpec.preRow_of_cond 8 f (by kernel_rfl) (fun k hk=>by cases hk) (by kernel_rfl) (laid_met os))) ?_
 intro W base args b gs before a e _ _ _ c d _;exact contract H enc W base args b gs before a e c d
theorem p1:Tryz.prog.funcNamed "flowkeeper/flowkeeperkeep.Honest"=some 8:=by kernel_rfl
theorem p2:(Rows.honestRow.inPlace == Tryz.prog.inPlace 8)=true:=by kernel_rfl
theorem p3:(Rows.honestRow.unfollowed == Tryz.prog.unfollowed 8)=true:=by kernel_rfl
theorem p4:(Rows.honestRow.recurses == Tryz.prog.recurses 8)=true:=by kernel_rfl
theorem p5:(Rows.honestRow.named == Tryz.prog.varsNamed 8)=true:=by kernel_rfl
theorem p6:(Rows.honestRow.plainKeys == Tryz.prog.plainKeys)=true:=by kernel_rfl
theorem p7:mapsRowed Tryz.prog=true:=by kernel_rfl
theorem p8:true=Rows.honestRow.goesBy Tryz.prog:=by kernel_rfl
theorem closed:joinedFacts Tryz.prog 8 Tryz.f8 Rows.honestSpec Rows.honestRow=true:=by
 unfold joinedFacts;rw[laidOut,p7,p2,p3,p4,p5,p6]
 kernel_rfl
theorem said:Rows.HonestSaid :=
 OpenClaim.holds_of_wide_leaving 8 Tryz.f8 rfl rfl rfl rfl rfl rfl rfl ⟨rfl,rfl,rfl,rfl,rfl⟩ rfl rfl rfl rfl rfl p1 Tryz.func8 closed
  (of_decide_eq_true (by kernel_rfl)) (by unfold Func.isWrapper;first | (rw[if_pos (by decide +kernel)];kernel_rfl) | (rw[if_neg (by decide +kernel)];exact⟨rfl,rfl⟩))
  (fun os started H enc _=>Ik (by rw[OpenClaim.pre_eq_preRow];exact lifted os started H enc (fun _ _ _=>0)))
theorem plain (f:FuncId)(fn:Func)(hf:Tryz.pinned.checked.prog.funcNamed "flowkeeper/flowkeeperkeep.Honest"=some f)(b:Tryz.pinned.checked.prog.funcs[f]? =some fn) :
  true=Tryz.pinned.checked.prog.looks []/\∀(j:Nat) t,fn.params[j]? =some t->Tryz.pinned.checked.prog.wantsStandIn t=false:=by
 obtain rfl:f=8:=(Option.some.inj (p1.symm.trans hf)).symm;obtain rfl:fn=Tryz.f8:=(Option.some.inj (Tryz.func8.symm.trans b)).symm;refine⟨by kernel_rfl,fun j t c=> ?_⟩;rw[Tryz.params8] at c;have hm:=Array.mem_of_getElem? c;have d:Tryz.prog.wantsStandIn 3=false:=by kernel_rfl
 have e:Tryz.prog.wantsStandIn 58=false:=by kernel_rfl
 have a:Tryz.prog.wantsStandIn 24=false:=by kernel_rfl
 simp only[Array.mem_def,List.mem_cons,List.not_mem_nil,or_false] at hm;rcases hm with rfl | rfl | rfl | rfl | rfl
 all_goals first | exact d | exact a | exact e
theorem card:Rows.HonestCardSaid :=
 TK .later _ _ _ _ said (by kernel_rfl) honest_row_tie rfl ⟨rfl,rfl⟩ (by kernel_rfl) rfl plain p8
end Go.Proofs.YtgdcjccbdmcebaaGreatDoor.Ho
namespace Go.Proofs.YtgdcjccbdmcebaaGreatDoor
theorem honest_card:Rows.HonestCardSaid:=Ho.card
end Go.Proofs.YtgdcjccbdmcebaaGreatDoor
