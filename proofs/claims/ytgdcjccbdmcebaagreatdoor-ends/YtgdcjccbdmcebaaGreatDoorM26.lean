import Derived.Test.YtgdcjccbdmcebaaGreatDoorM04
import Derived.Test.YtgdcjccbdmcebaaGreatDoorM10
import Derived.Test.YtgdcjccbdmcebaaGreatDoorM24
set_option linter.unusedSimpArgs false
set_option linter.unusedVariables false
set_option maxHeartbeats 8000000
set_option maxRecDepth 100000
namespace Go.Proofs.YtgdcjccbdmcebaaGreatDoor
open Tryz
open Go.RowKit
attribute [local go_sem ↓] Go.wp_at_zero Go.wp_at_succ
variable {rs:List Aq}{ka:Option Addr}{e:Ab}{t:Tm}{id:Int}{l:List Tm}{i k kc P B:Nat}{w w':World}
def Am (rs:List Aq)(i:Nat):Aq:=rs.getD i .z
structure Co (w:World)(P B:Nat)(ka:Option Addr)(kc:Nat)(rs:List Aq):Prop where
 c:w.cell? ⟨P,4,none⟩=some (.slice ka rs.length kc)
 fz:∀o,w.frozen? ⟨P,o,none⟩=false
 row:By w B 266 1 Lm ka kc rs
 runs:∀i,i<rs.length->AW w B (Am rs i)
 bA:∀i j,i<rs.length->j<rs.length->(Am rs i).b=(Am rs j).b->i=j
 gA:∀i j,i<rs.length->j<rs.length->(Am rs i).ng=(Am rs j).ng->i=j
 pb:P<B
 bs:B<=w.heap.size
 Bs:rs.length<=6
theorem Co.Cx (h:Co w P B ka kc rs)(m:w.heap.size<=w'.heap.size)(f:w'.cell? ⟨P,4,none⟩=w.cell? ⟨P,4,none⟩)(hf:∀o,w'.frozen? ⟨P,o,none⟩=w.frozen? ⟨P,o,none⟩)
  (hb:∀k cs t fr,B<=k->w.heap[k]? =some (.cells cs t fr)->(t=266\/t=272\/t=276\/t=3)->w'.heap[k]? =w.heap[k]?):Co w' P B ka kc rs:=by
 refine⟨f.trans h.c,fun o=>(hf o).trans (h.fz o),?_,fun i hi=>(h.runs i hi).Cx (fun k cs t fr b a d=>hb k cs t fr b a (Zj d)),h.bA,h.gA,h.pb,Zv h.bs m,h.Bs⟩;refine⟨h.row.1,?_⟩;rcases h.row.2 with a | ⟨g,cap,cur,a,hg,hh,j⟩
 ·exact Zu a
 ·exact Zj ⟨g,cap,cur,a,hg,(hb g cur _ (0,0) hg hh (Zu rfl)).trans hh,j⟩
theorem Co.below (h:Co w P B ka kc rs)(b:Below w.heap.size w w'):Co w' P B ka kc rs:=by
 have c:P<w.heap.size:=Zy h.pb h.bs;exact h.Cx b.size (World.cell?_of_block (a:=⟨P,4,none⟩) (b.block P c)) (fun o=>World.frozen?_of_block (a:=⟨P,o,none⟩) (b.block P c)) (fun k _ _ _ _ e _=>b.block k (Zaa e))
theorem Co.ptr (h:Co w P B ka kc rs)(hn:0<rs.length):∃g,ka=some ⟨g,0,none⟩/\rs.length<=kc/\kc<=maxLen/\B<=g/\g<w.heap.size/\∀i,i<rs.length->w.cell? ⟨g,i,none⟩=some (.pointer (some ⟨(Am rs i).b,0,none⟩)):=by
 obtain⟨g,cur,hg,a,c,d,f,hh⟩:=Zdt h.row hn;subst hg;refine⟨g,rfl,d,f,a,c,fun i hi=> ?_⟩;have:=DS (z:=Aq.z) h.row Dj (i:=i) (j:=0) hi (by omega);rw[Nat.mul_one,Nat.add_zero] at this;exact this
theorem Co.AG (h:Co w P B ka kc rs)(hi:i<rs.length){r':Aq}(N:AW w' B r')(H:r'.b=(Am rs i).b)(hg:r'.ng=(Am rs i).ng)(hf:Du w w' (Am rs i).b (Am rs i).ng):Co w' P B ka kc (rs.set i r'):=by
 have J:P<w.heap.size:=Zy h.pb h.bs;obtain⟨O,u,_,_,K,_⟩:=(h.runs i hi).Bi;have p:=(h.runs i hi).top;have E:P≠(Am rs i).b:=by have:=(h.runs i hi).bb;have:=h.pb;omega
 have F:P≠(Am rs i).ng:=by have:=h.pb;omega
 have C:=hf.block P J E F
 have D:∀j,j<rs.length->Am (rs.set i r') j=if i=j then r' else Am rs j:=by
  intro j s;unfold Am;rw[ZQ,ZQ,List.getElem?_set];by_cases e:i=j
  ·subst e;rw[if_pos rfl,if_pos hi,if_pos rfl];rfl
  ·rw[if_neg e,if_neg e]
 have r:∀j,j<rs.length->(Am (rs.set i r') j).b=(Am rs j).b/\(Am (rs.set i r') j).ng=(Am rs j).ng:=by
  intro j s;rw[D j s]
  split
  ·rename_i e;subst e;exact⟨H,hg⟩
  ·exact⟨rfl,rfl⟩
 refine⟨?_,fun o=>(World.frozen?_of_block (a:=⟨P,o,none⟩) C).trans (h.fz o),?_,?_,?_,?_,h.pb,Zv h.bs hf.size,by rw[List.length_set];exact h.Bs⟩
 ·rw[List.length_set];exact (World.cell?_of_block (a:=⟨P,4,none⟩) C).trans h.c
 ·have I:(rs.set i r').flatMap Lm=rs.flatMap Lm:=by
   rw[List.flatMap_def,List.flatMap_def]
   congr 1
   apply List.ext_getElem (by simp)
   intro j R f;simp only[List.getElem_map,List.getElem_set]
   split
   ·rename_i e
    subst e;unfold Lm;rw[H];have:Am rs i=rs[i]:=by unfold Am;rw[ZQ,ZZ hi];rfl
    rw[this]
   ·rfl
  unfold By;rw[I,List.length_set];refine⟨h.row.1,?_⟩;rcases h.row.2 with f | ⟨g,cap,cur,f,m,hh,n⟩
  ·exact Zu f
  ·exact Zj ⟨g,cap,cur,f,m,(hf.block g (Zaa hh) (Zai hh p (by decide)) (Zai hh u (by decide))).trans hh,n⟩
 ·intro j s
  rw[List.length_set] at s;rw[D j s];by_cases e:i=j
  ·subst e;rw[if_pos rfl];exact N
  ·rw[if_neg e]
   have d:=h.runs j s;obtain⟨Q,L,_,_,_,_⟩:=d.Bi;refine⟨(hf.block _ d.lt (fun x=>e (h.bA i j hi s x.symm)) (Zai d.top u (by decide))).trans d.top,d.bb,?_,fun k M=> ?_,d.some_,d.Bs⟩
   ·refine⟨d.row.1,?_⟩
    rcases d.row.2 with f | ⟨g,cap,cur,f,m,hh,n⟩
    ·exact Zu f
    ·refine Zj ⟨g,cap,cur,f,m,(hf.block g (Zaa hh) (Zai hh p (by decide)) (fun x=> ?_)).trans hh,n⟩
     obtain rfl:(Am rs j).ng=g:=by simpa using congrArg (fun v=>match v with | Value.slice (some a) _ _=>a.block | _=>0) f
     exact e (h.gA i j hi s x.symm)
   ·have G:=d.ID k M
    refine⟨G.1,?_⟩;rcases G.2 with f | ⟨g,cap,cur,f,m,hh,n⟩
    ·exact Zu f
    ·exact Zj ⟨g,cap,cur,f,m,(hf.block g (Zaa hh) (Zai hh p (by decide)) (Zai hh u (by decide))).trans hh,n⟩
 ·intro x y z A q
  rw[List.length_set] at z A;rw[(r x z).1,(r y A).1] at q;exact h.bA x y z A q
 ·intro x y z A q
  rw[List.length_set] at z A;rw[(r x z).2,(r y A).2] at q;exact h.gA x y z A q
def JN (rs:List Aq)(id:Int):Option Nat:=rs.findIdx? (fun r=>r.id == id)
def ptrR (rs:List Aq):Option Nat->Value
 | none=> .pointer none
 | some i=> .pointer (some ⟨(Am rs i).b,0,none⟩)
theorem Nk (hi:i<rs.length):Am rs i=rs[i]:=by unfold Am;rw[ZQ,ZZ hi];rfl
theorem Gh (hi:i<rs.length)(h:(Am rs i).id=id)(hn:∀j,j<i->(Am rs j).id≠id):JN rs id=some i:=by
 unfold JN;rw[List.findIdx?_eq_some_iff_getElem];refine⟨hi,by rw[<-Nk hi];simpa using h,fun j a=> ?_⟩;rw[<-Nk (by omega)];simpa using hn j a
theorem JP (hn:∀j,j<rs.length->(Am rs j).id≠id):JN rs id=none:=by
 unfold JN;rw[List.findIdx?_eq_none_iff];intro x b;obtain⟨j,a,rfl⟩:=List.getElem_of_mem b;have:=hn j a;rw[Nk a] at this;simpa using this
theorem GK (w:World)(P B kc:Nat)(ka:Option Addr)(rs:List Aq)(id:Int)(h:Co w P B ka kc rs) :
  Calls prog 157 #[.pointer (some ⟨P,4,none⟩), .int .u64 id] w fun e w'=>e= .returned (ptrR rs (JN rs id))/\w'=w:=by
 have H:=Zz h;have c:=h.c;have n:=h.Bs;obtain⟨m,hm⟩:∃m,m=rs.length:=⟨_,rfl⟩;rw[<-hm] at c n;have f:=Zz hm;clear h hm
 go_enter func157,ntmps157
 go_wp2_with fail
 go_loopw [12] (fun y wr=>∃i:Nat,y= .int .i64 i/\i<=m/\wr=w/\∀j,j<i->(Am rs j).id≠id) (fun y _=>m - (intOf y).toNat)
 case atStart=>exact⟨0,rfl,by omega,rfl,by omega⟩
 case round =>
  obtain⟨i,rfl,hi,d,p⟩:=hrel;have a:=Zz p;have E:=Zz d;rw[d];clear p d;by_cases z:i<m
  ·obtain⟨g,rfl,F,G,_,I,A⟩:=H.o.ptr (by have:=f.o;omega)
   have K:=A i (by have:=f.o;omega);have C:=H.o.runs i (by have:=f.o;omega);obtain⟨⟨t0,_,_⟩,_⟩:=C.CP;rw[<-f.o] at F;obtain⟨r,x⟩:∃r,r=Am rs i:=⟨_,rfl⟩;rw[<-x] at K t0;have u:=Zz x;have i1:(i:Int)<(m:Int):=by omega
   clear G I A C x;by_cases e:r.id=id
   ·have g1:(r.id == id)=true:=by simpa using e
    have v:decide (r.id=id)=true:=decide_eq_true e;have s:=Zz e;go_wp2_with fail
    go_ret
    rw[Gh (by have:=f.o;omega) (by rw[<-u.o];exact s.o) a.o];exact⟨by show _=Ending.returned (.pointer (some ⟨(Am rs i).b,0,none⟩));rw[<-u.o];rfl,rfl⟩
   ·have g1:(r.id == id)=false:=by simpa using e
    have v:decide (r.id=id)=false:=decide_eq_false e;have s:=Zz e;go_wp2_with fail
    go_roundw
    case rel=>exact⟨i+1,by go_num,by omega,by first | rfl | trivial,fun j J=>by
     by_cases q:j=i
     ·subst q;rw[<-u.o];exact s.o
     ·exact a.o j (by omega)⟩
    case measure=>simp[intOf];omega
  ·have i1:¬(i:Int)<(m:Int):=by omega
   have D:=Zz z;clear z;go_wp2_with fail
   go_ret
   rw[JP (fun j J=>a.o j (by have:=D.o;have:=f.o;omega))];exact⟨rfl,rfl⟩
def Cl.Ji (n:Cl)(tok:Int):Prop:=n.st=3/\n.tok=tok
inductive Hs (rs:List Aq) (tok:Int):Option (Nat×Nat)->Prop
 | no:(∀i k,i<rs.length->k<(Am rs i).ns.length->¬((Am rs i).at_ k).Ji tok)->Hs rs tok none
 | at_ (i k:Nat):i<rs.length->k<(Am rs i).ns.length->((Am rs i).at_ k).Ji tok->(∀j,j<k->¬((Am rs i).at_ j).Ji tok)->(∀j m,j<i->m<(Am rs j).ns.length->¬((Am rs j).at_ m).Ji tok)->Hs rs tok (some (i,k))
def workV (rs:List Aq):Option (Nat×Nat)->Value
 | none=> .tuple #[.pointer none, .int .i64 0, .bool false]
 | some (i,k)=> .tuple #[.pointer (some ⟨(Am rs i).b,0,none⟩), .int .i64 k, .bool true]
theorem Jh (w:World)(P B kc:Nat)(ka:Option Addr)(rs:List Aq)(tok:Int)(h:Co w P B ka kc rs) :
  Calls prog 221 #[.pointer (some ⟨P,4,none⟩), .int .u64 tok] w fun e w'=>∃o,e= .returned (workV rs o)/\Hs rs tok o/\Below w.heap.size w w':=by
 have H:=Zz h;have HB:=Zz (Zk w.heap.size w);have c:=h.c;have K:=h.Bs;obtain⟨m,hm⟩:∃m,m=rs.length:=⟨_,rfl⟩;rw[<-hm] at c K;have A:=Zz hm;clear h hm
 go_enter func221,ntmps221
 go_wp2_with fail
 clear c
 go_loopw [16] (fun Y wr=>∃i:Nat,Y= .int .i64 i/\i<=m/\Below w.heap.size w wr/\∀j k,j<i->k<(Am rs j).ns.length->¬((Am rs j).at_ k).Ji tok) (fun Y _=>m - (intOf Y).toNat)
 case atStart=>exact⟨0,rfl,by omega,HB.o,by omega⟩
 case round =>
  obtain⟨i,rfl,hi,I,N⟩:=hrel;have x:=Zz N;have d:=Zz I;clear N I;by_cases h1:i<m
  ·have U:=H.o.below d.o
   obtain⟨g,rfl,h2,h3,_,h5,F⟩:=U.ptr (by have:=A.o;omega);have p0:=F i (by have:=A.o;omega);have D:=U.runs i (by have:=A.o;omega);obtain⟨⟨t0,_,t2⟩,_⟩:=D.CP;obtain⟨_,_,L,_,_,_⟩:=D.Bi;have E:=D.Bs;rw[<-A.o] at h2;obtain⟨r,W⟩:∃r,r=Am rs i:=⟨_,rfl⟩;rw[<-W] at p0 t0 t2 D L E;have C:=Zz (Zq W D);obtain⟨n,hn⟩:∃n,n=r.ns.length:=⟨_,rfl⟩;rw[<-hn] at t2 L E;have Q:=Zz hn;have i1:(i:Int)<(m:Int):=by omega
   clear h3 h5 F D W U hn t0;go_wp2_with fail
   clear p0 t2
   go_loopw [25] (fun Z wx=>∃k:Nat,Z= .int .i64 k/\k<=n/\Below wr.heap.size wr wx/\∀j,j<k->¬(r.at_ j).Ji tok) (fun Z _=>n - (intOf Z).toNat)
   case atStart=>exact⟨0,rfl,by omega,Zk _ _,by omega⟩
   case round =>
    obtain⟨k,rfl,hk,J,M⟩:=hrel
    rename World=>wx
    have a:=Zz J;have q:=Zz M;clear M J;by_cases F:k<n
    ·have V:=(C.o.2.below a.o).nd (k:=k) (by have:=Q.o;omega)
     obtain⟨y0,y1,y2,y3,y4,y5,y6,y7,y8,y9⟩:=V;obtain⟨s,X⟩:∃s,s=r.at_ k:=⟨_,rfl⟩;rw[<-X] at y0 y1 y2 y3 y4 y5 y6 y7 y8 y9;have S:=Zz X;have k1:(k:Int)<(n:Int):=by omega
     have G:=((Zk wx.heap.size wx).alloc (Zx _) (.cells #[.int .i64 s.bu, .int .i64 s.cl, .int .i64 s.be, .int .i64 s.ba, .int .i64 s.ca, .int .i64 s.ji, .slice s.aa s.af.length s.ac, .int .i64 s.st, .int .i64 s.tries, .int .u64 s.tok] 276));have p:=Zz G;clear G X;by_cases q1:s.st=3
     ·have f:=p.o
      rw[q1] at f;have u:=Zz f;have R:=Zz q1;rw[q1] at y7;clear q1 f;by_cases v:s.tok=tok
      ·have g2:(s.tok == tok)=true:=by simpa using v
       have T:decide (s.tok=tok)=true:=by simpa using v
       have y:=Zz v;clear v;go_wp2_with fail
       (try simp only[Exit.inBlock,Exit.then])
       refine bodyPost_ret (results_tmp3 rfl _ _ _) rfl ?_;refine⟨some (i,k),?_, .at_ i k (by have:=A.o;omega) (by rw[<-C.o.1];have:=Q.o;omega) (by rw[<-C.o.1,<-S.o];exact⟨R.o,y.o⟩) (fun j z=>by rw[<-C.o.1];exact q.o j z) (fun j t z O=>x.o j t z O),?_⟩
       ·show _=Ending.returned (.tuple #[.pointer (some ⟨(Am rs i).b,0,none⟩), .int .i64 k, .bool true])
        rw[<-C.o.1]
        rfl
       ·first | exact (d.o.trans' a.o).trans' u.o | exact (d.o.trans' a.o).trans' p.o
      ·have g2:(s.tok == tok)=false:=by simpa using v
       have T:decide (s.tok=tok)=false:=by simpa using v
       have y:=Zz v;clear v;go_wp2_with fail
       go_roundw
       case rel=>exact⟨k+1,by go_num,by omega,by first | exact a.o.trans' u.o | exact a.o.trans' p.o,fun j z=>by
        by_cases e:j=k
        ·subst e;rw[<-S.o];exact fun hh=>y.o hh.2
        ·exact q.o j (by omega)⟩
       case measure=>simp[intOf];omega
     ·have g1:(s.st == 3)=false:=by simpa using q1
      have ae:decide (s.st=3)=false:=by simpa using q1
      have HQ:=Zz q1;clear q1;go_wp2_with fail
      go_roundw
      case rel=>exact⟨k+1,by go_num,by omega,a.o.trans' p.o,fun j z=>by
       by_cases e:j=k
       ·subst e;rw[<-S.o];exact fun hh=>HQ.o hh.1
       ·exact q.o j (by omega)⟩
      case measure=>simp[intOf];omega
    ·have k1:¬(k:Int)<(n:Int):=by omega
     have HK:=Zz F;clear F;go_wp2_with fail
     go_roundw
     case rel=>exact⟨i+1,by go_num,by omega,d.o.trans' a.o,fun j t z O=>by
      by_cases e:j=i
      ·subst e;rw[<-C.o.1] at O ⊢;exact q.o t (by have:=HK.o;have:=Q.o;omega)
      ·exact x.o j t (by omega) O⟩
     case measure=>simp[intOf];omega
  ·have i1:¬(i:Int)<(m:Int):=by omega
   have HJ:=Zz h1;clear h1;go_wp2_with fail
   (try simp only[Exit.inBlock,Exit.then])
   refine bodyPost_ret (results_tmp3 rfl _ _ _) rfl ?_;exact⟨none,rfl, .no (fun j k z hk=>x.o j k (by have:=HJ.o;have:=A.o;omega) hk),d.o⟩
structure XL (w w':World)(B:Nat)(r r2:Aq)(n:Nat):Prop where
 sk:Uh r r2
 at_:AW w' B r2
 fr:Du w w' r.b r.ng
 box:Iy w' w.heap.size r.b
 n_:n=r2.waits
def JumpK (w:World)(B:Nat)(r:Aq)(n:Nat)(a':Act)(w':World):Prop :=
 ∃(r2:Aq) (u3 u4 u5 u6 u7 u8 u9 u10 u11 u12 u13 u14 u15 u16 u17 u18 u19 u20 u21 u22 u23 u24 u25 u26 u27 u28 u29 u30 u31 u32 u33:Value),XL w w' B r r2 n /\
  a'={ tmps:=#[.pointer (some ⟨r.b,0,none⟩), .pointer (some ⟨w.heap.size,0,none⟩), .func (.func 272) #[] #[.pointer (some ⟨w.heap.size,0,none⟩)],u3,u4,u5,u6,u7,u8,u9,u10,u11,u12,u13,u14,u15,u16,u17,u18,u19,u20,u21,u22,u23,u24,u25,u26,u27,u28,u29,u30,u31,u32,u33],defers:=[] }
theorem WX (w:World)(B:Nat)(r:Aq)(h:AW w B r)(T:r.within) :
  Calls prog 227 #[.pointer (some ⟨r.b,0,none⟩)] w fun e w'=>e= .returned (.tuple #[])/\∃r2,Uh r r2/\r2.shut/\AW w' B r2/\Du w w' r.b r.ng:=by
 have b9:∀(fn:Fn) (first cap:Array Value) (w:World),(Instr.makeFunc fn first cap).run prog w= .ok (.func fn first cap) w:=fun _ _ _ _=>rfl;have H:=Zz h;have ae:=Zz T;have az:=h.Bs;clear h T
 go_enter func227,ntmps227
 go_wp2
 refine Hj 0 (JumpK w B r) rfl ?_ ?_
 ·intro R E
  have HH:=Zz E;clear E
  go_wp2
  go_step3
  rename_i K hK
  refine hK _ _ (HH.o r.waits _ _ ?_);refine⟨r,_,_,_,_,_,_,_,_,_,_,_,_,_,_,_,_,_,_,_,_,_,_,_,_,_,_,_,_,_,_,_,⟨.refl r,?_,?_,?_,rfl⟩,rfl⟩
  ·exact H.o.below ((Zk _ _).alloc (Zx _) _)
  ·exact Du.Ae _ _ ((Zk _ _).alloc (Zx _) _)
  ·exact⟨by rw[World.cell?_alloc_at (hn:=rfl)];rfl,by simp⟩
 ·rintro gn a' w' ⟨r2,Z,N,u5,u6,u7,u8,u9,bf,bh,bj,bo,bp,br,u16,bw,ck,cm,cq,cr,ct,cu,cy,da,db,dc,dd,de,dh,dj,u32,dp,aj,rfl⟩
  obtain⟨G,c,D,d,rfl⟩:=aj;have L:=Zz (Zq G (Zq c (Zq D d)));obtain⟨s1,s2,s3,s4,s5,s6,s7⟩:=G.same;have b0:=d.b;obtain⟨⟨c0,c1,c2⟩,_⟩:=c.CP;obtain⟨_,_,au,al,_,_⟩:=c.Bi;obtain⟨m,hm⟩:∃m,m=r2.ns.length:=⟨_,rfl⟩;rw[<-hm] at c2 au;rw[s1,s4] at c2;have Q:=Zz (Zq hm s6);have aw:m<=12:=by omega
  have ag:=Zz (G.within ae.o);have M:=Zz (Zq s1 s4);clear G c D d s1 s2 s3 s4 s5 s6 s7 c0 c1 al hm;go_wp2_with fail
  go_loopw [11] (fun iv wx=>∃i:Nat,iv= .int .i64 i/\i<=m/\AW wx B r2/\Du w wx r.b r.ng/\Iy wx w.heap.size r.b/\∀j,j<i->r2.lost j=false) (fun iv _=>m - (intOf iv).toNat)
  case atStart=>exact⟨0,rfl,by omega,L.o.2.1,L.o.2.2.1,L.o.2.2.2,fun j hj=>by omega⟩
  case round =>
   obtain⟨i,rfl,hi,c,D,d,W⟩:=hrel
   rename World=>wx
   have E:=Zz (Zq c (Zq D (Zq d W)));clear b0 c2;by_cases h1:i<m
   ·have p:i<r2.ns.length:=by have:=Q.o.1;omega
    have V:=c.nd p;rw[M.o.2] at V;obtain⟨t0,t1,t2,t3,t4,t5,t6,t7,t8,t9⟩:=V;have O:=Zz (c.ID i p);have S:=Zz (ag.o i p);have g:=c.FQ (k:=i) (j:=7) (f:=skM) (v:= .int .i64 7) p (by omega) rfl ⟨rfl,rfl,rfl⟩;rw[M.o.2] at g;have av:=Zz g;obtain⟨n,hn⟩:∃n,n=r2.at_ i:=⟨_,rfl⟩;have HN:=Zz hn;rw[<-hn] at t0 t1 t2 t3 t4 t5 t6 t7 t8 t9 O S;have i1:(i:Int)<(m:Int):=by omega
    obtain⟨wa,q⟩:∃wa,wa=wx.alloc (.cells #[.int .i64 n.bu, .int .i64 n.cl, .int .i64 n.be, .int .i64 n.ba, .int .i64 n.ca, .int .i64 n.ji, .slice n.aa n.af.length n.ac, .int .i64 n.st, .int .i64 n.tries, .int .u64 n.tok] 276):=⟨_,rfl⟩;have u:Below wx.heap.size wx wa:=by rw[q];exact (Zk _ _).alloc (Zx _) _
    have J:=Zz (Zq q u);have hC:=Uz wa B w.heap.size r2 n (c.below u) (by rw[M.o.1];exact d.below u) (Zam O.o u) S.o;obtain⟨bb,F⟩:∃bb,bb=n.af.any (fun a=>r2.JM a.toNat):=⟨_,rfl⟩;rw[<-F] at hC;have HC:=Zz hC;have ax:=Zz F;obtain⟨z,hz⟩:∃z,z=n.af.length:=⟨_,rfl⟩;rw[<-hz] at t6 HC;rw[<-hz] at q;have ar:=c.below u;have A:r2.lost i=(n.st == 1&&bb):=by unfold Aq.lost;rw[<-hn,F]
    have I:=Zz A;clear hn p c D d W g u hC F hz ar A;by_cases q1:n.st=1
    ·have HQ:=Zz q1
     rw[q1] at t7 q;clear q1
     cases bb with
     | false =>
      go_wp2_with (go_at_call 186;rw[<-q];refine HC.o.mono ?_;rintro e w3 ⟨rfl,y⟩;have x:=Zz y;clear y)
      go_roundw
      case rel =>
       obtain⟨X,Y,Z,N⟩:=E.o;have s:Below wx.heap.size wx w3:=J.o.2.trans' x.o
       exact⟨i+1,by go_num,by omega,X.below s,Y.trans (Du.Ae _ _ s),Z.below s,fun j hj=>by
        by_cases e:j=i
        ·subst e;rw[I.o,Bool.and_false]
        ·exact N j (by omega)⟩
      case measure=>simp[intOf];omega
     | true =>
      go_wp2_with (go_at_call 186;rw[<-q];refine HC.o.mono ?_;rintro e w3 ⟨rfl,y⟩;have s:=J.o.2.trans' y;have C:=E.o.1.below s;have b0:=(E.o.2.2.1.below s).b;have c2:=C.CP.1.2.2;have y7:=(C.nd (k:=i) (by have:=Q.o.1;omega)).c7;have f7:=C.AE (i * 10+7);rw[M.o.2] at y7 f7 c2;rw[M.o.1,<-Q.o.1] at c2;have x:=Zz (Zq s C);clear y s C)
      go_step3
      have p:i<r2.ns.length:=by have:=Q.o.1;omega
      have U:r2.lost i=true:=by rw[I.o,HQ.o];rfl
      have g:=x.o.2.FQ (k:=i) (j:=7) (f:=skM) (v:= .int .i64 7) p (by omega) rfl ⟨rfl,rfl,rfl⟩;rw[M.o.2] at g;refine⟨rfl,_,r2.Rd p U,r2.BE i skM,_,_,_,_,_,_,_,_,_,_,_,_,_,_,_,_,_,_,_,_,_,_,_,_,_,_,_,_,_,_,_,⟨.step r r2 i L.o.1 p U,g,?_,?_,rfl⟩,rfl⟩
      ·exact (E.o.2.1.trans (Du.Ae _ _ x.o.1)).trans (Du.Ey w3 r.b r.ng _ _)
      ·refine⟨?_,?_⟩
       ·rw[World.cell?_of_block (a:=⟨w.heap.size,0,none⟩) (Zl w3 _ _ _ ?_)]
        ·exact b0
        ·intro e
         have:=L.o.2.2.2.bl;obtain⟨cur,q1,_,_,_,q5⟩:=H.o.Bi;have:w.heap.size=r.ng:=e;omega
       ·have:=x.o.1.size;have:=E.o.2.2.1.bl;simp only[World.setCell,Array.size_modify];omega
    ·have g1:(n.st == 1)=false:=by simpa using q1
     have ay:decide (n.st=1)=false:=decide_eq_false q1;have HQ:=Zz q1;go_wp2_with fail
     go_roundw
     case rel =>
      obtain⟨X,Y,Z,N⟩:=E.o;have s:=J.o.2;rw[q] at s
      exact⟨i+1,by go_num,by omega,X.below s,Y.trans (Du.Ae _ _ s),Z.below s,fun j hj=>by
       by_cases e:j=i
       ·subst e;rw[I.o];simp[HQ.o]
       ·exact N j (by omega)⟩
     case measure=>simp[intOf];omega
   ·have e:i=m:=by omega
    have HE:=Zz e;have i1:¬(i:Int)<(m:Int):=by omega
    clear e h1;go_wp2_with fail
    simp only[Exit.jump]
    go_end0
    obtain⟨X,Y,Z,N⟩:=E.o;exact⟨rfl,r2,L.o.1,fun k hk=>N k (by have:=HE.o;have:=Q.o.1;omega),X,Y⟩
def Iz (id:Int)(k:Nat)(s:AM)(t:Tm):Prop:=(s.st=3/\t=⟨Bb id k 1,s.fin,s.BN⟩)\/(s.st=4/\t=⟨Bb id k 3,s.fin,s.BN⟩)\/(s.st=3/\0<s.sign/\t=⟨Bb id k 2,s.sign,s.Bc⟩)
def KX (r:Ag)(t:Tm):Prop:=r.st=1/\(t=⟨Bb r.id (-1) 0,r.BP,r.Cs⟩\/∃k,k<r.steps.length/\Iz r.id k (r.at_ k) t)
def BF (e:Ab)(t:Tm):Prop:=∃i,i<e.runs.length/\KX (e.at_ i) t
theorem EN (e:Ab)(t:Tm):BF e t↔∃d,d∈e.AR/\t=e.DU d:=by
 constructor
 ·rintro⟨i,hi,g,n⟩
  rcases n with rfl | ⟨k,o,j⟩
  ·exact⟨⟨i,none,false,(e.at_ i).BP,(e.at_ i).Cs⟩,Zar.2 ⟨hi,g,rfl,rfl,rfl⟩,rfl⟩
  ·rcases j with⟨a,rfl⟩ | ⟨a,rfl⟩ | ⟨a,c,rfl⟩
   ·refine⟨⟨i,some k,false,((e.at_ i).at_ k).fin,((e.at_ i).at_ k).BN⟩,Zar.2 ⟨hi,g,o,Zu a,rfl,rfl⟩,?_⟩
    simp[Ab.DU,Ab.kindOf,EW,a]
   ·refine⟨⟨i,some k,false,((e.at_ i).at_ k).fin,((e.at_ i).at_ k).BN⟩,Zar.2 ⟨hi,g,o,Zj a,rfl,rfl⟩,?_⟩
    simp[Ab.DU,Ab.kindOf,EW,a]
   ·exact⟨⟨i,some k,true,((e.at_ i).at_ k).sign,((e.at_ i).at_ k).Bc⟩,Zar.2 ⟨hi,g,o,a,c,rfl,rfl⟩,rfl⟩
 ·rintro⟨d,q,rfl⟩
  obtain⟨i,k,sg,tm,sq⟩:=d;obtain⟨g,n,j⟩:=Zar.1 q;refine⟨i,g,n,?_⟩
  cases k with
  | none =>
   obtain⟨rfl,a,c⟩:=j
   left
   simp only at a c;subst a c
   rfl
  | some k =>
   right
   obtain⟨a,c⟩:=j;refine⟨k,a,?_⟩
   cases sg with
   | true =>
    obtain⟨f,m,h,p⟩:=c;simp only at h p;subst h p;exact Zj (Zj ⟨f,m,rfl⟩)
   | false =>
    obtain⟨f,m,h⟩:=c;simp only at m h;subst m h;rcases f with f | f
    ·left
     have b:((e.at_ i).at_ k).st=3:=f;exact⟨b,by simp[Ab.DU,Ab.kindOf,EW,b]⟩
    ·right;left
     have b:((e.at_ i).at_ k).st=4:=f;exact⟨b,by simp[Ab.DU,Ab.kindOf,EW,b]⟩
theorem Zbc :Be e l↔Bn l/\∀t,t∈l↔BF e t:=by
 constructor
 ·intro h
  refine⟨h.rising,fun t=> ?_⟩;rw[EN];constructor
  ·exact fun b=>h.mem t b
  ·rintro⟨d,a,rfl⟩
   exact h.all d a
 ·rintro⟨f,c⟩
  exact⟨f,fun d a=>(c _).2 ((EN e _).2 ⟨d,a,rfl⟩),fun t b=>(EN e t).1 ((c t).1 b)⟩
def Dw (id:Int)(k:Nat)(t:Tm):Prop:=∃q:Int,1<=q/\q<=3/\t.id=Bb id k q
theorem Iz.own {s:AM}(h:Iz id k s t):Dw id k t:=by
 rcases h with⟨_,rfl⟩ | ⟨_,rfl⟩ | ⟨_,_,rfl⟩
 ·exact⟨1,by decide,by decide,rfl⟩
 ·exact⟨3,by decide,by decide,rfl⟩
 ·exact⟨2,by decide,by decide,rfl⟩
def IA (id:Int)(t:Tm):Prop:=∃nd q:Int,(-1<=nd/\nd<15)/\(0<=q/\q<4)/\t.id=Bb id nd q
theorem KX.of {r:Ag}(h:KX r t)(hn:r.steps.length<=12):IA r.id t:=by
 obtain⟨_,a⟩:=h;rcases a with rfl | ⟨k,g,b⟩
 ·exact⟨-1,0,by omega,by omega,rfl⟩
 ·obtain⟨q,d,f,c⟩:=b.own
  exact⟨k,q,by omega,by omega,c⟩
theorem IA.uniq {a b:Int}(h:IA a t)(g:IA b t):a=b:=by
 obtain⟨n,q,c,d,f⟩:=h;obtain⟨m,p,g1,g2,g3⟩:=g;exact (DK (f.symm.trans g3) c g1 d g2).1
theorem Dw.of (h:Dw id k t)(d:k<12):IA id t:=by
 obtain⟨q,b,c,a⟩:=h;exact⟨k,q,by omega,by omega,a⟩
theorem Dw.uniq {m:Nat}(h:Dw id k t)(g:Dw id m t)(d:k<12)(hm:m<12):k=m:=by
 obtain⟨q,b,c,a⟩:=h;obtain⟨p,g1,g2,g3⟩:=g;have:=(DK (a.symm.trans g3) (by omega) (by omega) (by omega) (by omega)).2.1;omega
theorem IW (d:k<12)(h:Dw id k t)(a:t.id=Bb id (-1) 0):False:=by
 obtain⟨q,c,_,b⟩:=h;have:=(DK (b.symm.trans a) (by omega) (by omega) (by omega) (by omega)).2.1;omega
theorem Ao.IQ (h:Ao e)(hi:i<e.runs.length):(e.at_ i).steps.length<=12:=(h.runs i hi).IQ.2
theorem BF.node (wk:Ao e)(hi:i<e.runs.length)(o:k<(e.at_ i).steps.length)(h:BF e t)(d:Dw (e.at_ i).id k t):(e.at_ i).st=1/\Iz (e.at_ i).id k ((e.at_ i).at_ k) t:=by
 obtain⟨j,n,f,a⟩:=h;have b:=(d.of (by have:=wk.IQ hi;omega)).uniq (KX.of ⟨f,a⟩ (wk.IQ n));have c:=wk.CA hi n b;subst c;refine⟨f,?_⟩;rcases a with a | ⟨m,hm,g⟩
 ·exact (IW (by have:=wk.IQ hi;omega) d (by rw[a])).elim
 ·have:=d.uniq g.own (by have:=wk.IQ hi;omega) (by have:=wk.IQ hi;omega)
  subst this;exact g
theorem Zdp {e':Ab}(wk:Ao e)(hi:i<e.runs.length)(p:k<(e.at_ i).steps.length){f:AM->AM}(h:e'.runs=(e.Af i k f).runs)(t:Tm) :
  BF e' t↔(BF e t/\¬Dw (e.at_ i).id k t)\/((e.at_ i).st=1/\Iz (e.at_ i).id k (f ((e.at_ i).at_ k)) t):=by
 have hl:=Za7 h;have hn:=wk.IQ hi;constructor
 ·rintro⟨j,a,d,b⟩
  rw[hl] at a;have c:=Zba h a;rw[c.2.2.1] at d;rw[c.1,c.2.2.2.1,c.2.2.2.2.1,Zb9 h a] at b;rcases b with b | ⟨m,hm,g⟩
  ·left
   refine⟨⟨j,a,d,Zu b⟩,fun q=> ?_⟩;have n:=(q.of (by omega)).uniq (KX.of (r:=e.at_ j) ⟨d,Zu b⟩ (wk.IQ a));obtain rfl:=wk.CA hi a n;exact IW (by omega) q (by rw[b])
  ·rw[Zel h p a hm] at g
   by_cases o:i=j/\k=m
   ·obtain⟨rfl,rfl⟩:=o
    rw[if_pos ⟨rfl,rfl⟩] at g;exact Zj ⟨d,g⟩
   ·rw[if_neg o] at g
    left
    refine⟨⟨j,a,d,Zj ⟨m,hm,g⟩⟩,fun q=> ?_⟩;have n:=(q.of (by omega)).uniq (KX.of (r:=e.at_ j) ⟨d,Zj ⟨m,hm,g⟩⟩ (wk.IQ a));obtain rfl:=wk.CA hi a n;exact o ⟨rfl,q.uniq g.own (by omega) (by omega)⟩
 ·rintro (⟨⟨j,a,d,b⟩,s⟩ | ⟨d,b⟩)
  ·have c:=Zba h a
   refine⟨j,by rw[hl];exact a,by rw[c.2.2.1];exact d,?_⟩;rw[c.1,c.2.2.2.1,c.2.2.2.2.1,Zb9 h a];rcases b with b | ⟨m,hm,g⟩
   ·exact Zu b
   ·right
    refine⟨m,hm,?_⟩;rw[Zel h p a hm];by_cases o:i=j/\k=m
    ·obtain⟨rfl,rfl⟩:=o
     exact absurd g.own s
    ·rw[if_neg o];exact g
  ·have c:=Zba h hi
   refine⟨i,by rw[hl];exact hi,by rw[c.2.2.1];exact d,?_⟩;rw[c.1,Zb9 h hi]
   right
   refine⟨k,p,?_⟩;rw[Zel h p hi p,if_pos ⟨rfl,rfl⟩];exact b
theorem UX (wk:Ao e)(hi:i<e.runs.length){st:Int}(d:st≠1)(t:Tm):BF (e.end_ i st) t↔BF e t/\¬IA (e.at_ i).id t:=by
 constructor
 ·rintro⟨j,a,h⟩
  rw[Zd8] at a;rw[Zei e i st a] at h;by_cases c:i=j
  ·rw[if_pos c] at h
   exact absurd h.1 d
  ·rw[if_neg c] at h
   exact⟨⟨j,a,h⟩,fun f=>c (wk.CA hi a (f.uniq (h.of (wk.IQ a))))⟩
 ·rintro⟨⟨j,a,h⟩,b⟩
  refine⟨j,by rw[Zd8];exact a,?_⟩;rw[Zei e i st a];by_cases c:i=j
  ·subst c;exact absurd (h.of (wk.IQ a)) b
  ·rw[if_neg c];exact h
theorem SD (f:Ad)(t:Tm):BF (e.more f) t↔BF e t\/t=⟨Bb (e.Ah+1) (-1) 0,Zak e.time f.dl,e.timers+1⟩:=by
 constructor
 ·rintro⟨j,b,h⟩
  rw[Za5] at b;by_cases c:j<e.runs.length
  ·rw[Zb1 e f c] at h
   exact Zu ⟨j,c,h⟩
  ·obtain rfl:j=e.runs.length:=by omega
   rw[Zbj] at h
   right
   rcases h.2 with m | ⟨k,g,d⟩
   ·exact m
   ·rw[Zb7] at g
    rw[Zdh e f g] at d;rcases d with⟨a,_⟩ | ⟨a,_⟩ | ⟨a,_⟩<;>simp[Hk] at a
 ·rintro (⟨j,b,h⟩ | rfl)
  ·exact⟨j,by rw[Za5];omega,by rw[Zb1 e f b];exact h⟩
  ·refine⟨e.runs.length,by rw[Za5];omega,?_⟩
   rw[Zbj];exact⟨rfl,Zu rfl⟩
theorem BF.same {e':Ab}(a:e'.runs=e.runs)(t:Tm):BF e' t↔BF e t:=by
 unfold BF Ab.at_;rw[a]
theorem Be.same {e':Ab}(h:Be e l)(a:e'.runs=e.runs):Be e' l:=by
 rw[Zbc] at h ⊢;exact⟨h.1,fun t=>(h.2 t).trans (BF.same a t).symm⟩
theorem BF.sq (wk:Ao e)(h:BF e t):t.sq<=e.timers:=by
 obtain⟨d,a,rfl⟩:=(EN e t).1 h;exact (wk.Cq (Zar.1 a)).1
theorem DR {a:List Tm}{T:Int}(h:Bn a)(n:∀t,t∈a->t.sq<=T)(o:T<t.sq):Bn (a++[t]):=by
 intro i j b f;rw[ZX,List.length_singleton] at f
 have g:∀m,m<a.length->(a++[t]).getD m .z=a.getD m .z:=fun m hm=>by
  rw[ZQ,ZQ,List.getElem?_append_left hm]
 rw[g i (by omega)];by_cases c:j<a.length
 ·rw[g j c];exact h i j b c
 ·obtain rfl:j=a.length:=by omega
  have d:(a++[t]).getD a.length .z=t:=by
   rw[ZQ,List.getElem?_append_right (Zx _),Nat.sub_self];rfl
  rw[d];have:=n _ (Zbw (z:=Tm.z) b);omega
theorem UT (wk:Ao e):e.AR.length<=150:=by
 have a:∀(s:AM) (i k:Nat),(s.AR i k).length<=2:=by
  intro s i k;unfold AM.AR;rw[ZX]
  split<;>split<;>simp
 have b:∀i,i<e.runs.length->((e.at_ i).AR i).length<=25:=by
  intro i hi;unfold Ag.AR
  split
  ·rw[List.length_cons]
   have:=MC (fun k=>((e.at_ i).at_ k).AR i k) 2 (List.range (e.at_ i).steps.length) (fun k _=>a _ _ _);rw[List.length_range] at this;have:=wk.IQ hi;omega
  ·simp
 have:=MC (fun i=>(e.at_ i).AR i) 25 (List.range e.runs.length) (fun i hi=>b i (List.mem_range.1 hi));rw[List.length_range] at this;have:=wk.WW;unfold Ab.AR;omega
theorem BF.Bs (u:Bn l)(g:∀t,t∈l->BF e t)(wk:Ao e):l.length<=150:=by
 have m:l.Nodup:=by
  rw[List.nodup_iff_pairwise_ne,List.pairwise_iff_getElem];intro i j hi n h r;have:=u i j h n;rw[ZQ,ZQ,ZZ hi,ZZ n] at this;simp only[Option.getD_some] at this;rw[r] at this;omega
 have s:l.length<=(e.AR.map e.DU).length:=by
  classical
  have:∀(a b:List Tm),a.Nodup->(∀x∈a,x∈b)->a.length<=b.length:=by
   intro a
   induction a with
   | nil=>intro b _ _;simp
   | cons x a z =>
    intro b f g;rw[List.nodup_cons] at f;obtain⟨p,q,rfl⟩:=List.append_of_mem (g x (List.mem_cons_self ..))
    have:=z (p++q) f.2 (fun y o=>by
     have c:=g y (List.mem_cons_of_mem _ o);rw[List.mem_append,List.mem_cons] at c;rw[List.mem_append];rcases c with c | rfl | c
     ·exact Zu c
     ·exact absurd o f.1
     ·exact Zj c)
    simp only[ZX,List.length_cons] at this ⊢;omega
  exact this _ _ m (fun t v=>by
   obtain⟨d,f,rfl⟩:=(EN e t).1 (g t v);exact List.mem_map.2 ⟨d,f,rfl⟩)
 rw[List.length_map] at s;have:=UT wk;omega
theorem Be.Bs (h:Be e l)(wk:Ao e):l.length<=150:=BF.Bs h.rising (fun t a=>((Zbc.1 h).2 t).1 a) wk
theorem Zc6 {now span:Int}(a:1<=span):Za2 now (now+span)=Zak now span:=by
 unfold Za2 Zak;rw[if_neg (by omega)]
end Go.Proofs.YtgdcjccbdmcebaaGreatDoor
