import Derived.Test.YtgdcjccbdmcebaaGreatDoorM33
set_option linter.all false
set_option maxHeartbeats 16000000
set_option maxRecDepth 100000
open Go.Proofs.Tryz
namespace Go.Proofs.YtgdcjccbdmcebaaGreatDoor
open Go.RowKit
attribute [local go_sem ↓] Go.wp_at_zero Go.wp_at_succ
theorem Mm (w wx:World)(ub hb D bd rk tb Z n lb lc C:Nat)(dl:Int)(ts:List CM)(rd:List Int)(r0:Ag)(tv:Nat->Int)(e:Ab)(F:Ad)(Na:Nat->Option Addr)(Nc:Nat->Nat)(hH:HH tb w wx hb D bd (some rk) Z e)(hA:Sb w wx ub hb rk tb n dl lb lc ts rd C r0 tv)(hF:XD w w.heap.size n F lb Na Nc)(hD:WtD n C F r0 (e.at_ 1) tv)(hf:e.find 2=some 1)(hG:4<w.heap.size)(O:n<=12) :
  Calls prog 20 #[.pointer (some ⟨ub,0,none⟩)] wx fun x w'=>x=.returned (.bool true)/\HH tb w w' hb D bd (some rk) Z e/\Sb w w' ub hb rk tb n dl lb lc ts rd n (e.at_ 1) (fun k=>((e.at_ 1).at_ k).tries):=by
 obtain⟨ta,tc,ir,is,ia,ic,ja,jc,p,h2,J,h3⟩:=hA.ex;have HQ:=Zz (fun wy (dr:ZY wx wy)=>Ys (hH.below dr).1 hf hD.len hD.n1);have b0:wx.cell? ⟨ub,0,none⟩=some (.pointer (some ⟨hb,0,none⟩)):=Zad p 0;have b3:wx.cell? ⟨ub,3,none⟩=some (.int .u64 2):=Zad p 3;have b2:wx.cell? ⟨ub,2,none⟩=some (.slice (some ⟨lb,0,none⟩) n lc):=Zad p 2;have b9:wx.cell? ⟨ub,9,none⟩=some (.slice ia C ic):=Zad p 9;have de:=fun o=>cell_later ((Zk wx.heap.size wx).alloc ZU o) b0;have dh:=fun o=>cell_later ((Zk wx.heap.size wx).alloc ZU o) b3;have H:=Zz (Zq hH (Zq hA (Zq hF (Zq hD (Zq hG O)))));have HX:=Zz (Zq p (Zq h2 (Zq J h3)));have al:=hD.n1;obtain⟨st,bj⟩:∃st,st=(e.at_ 1).st:=⟨_,rfl⟩;rw[<-bj] at HQ;have HS:=Zz bj;clear hH hA hF hD hf hG p h2 J h3 bj
 go_enter func20,ntmps20
 go_wp2_with fail
 go_cut [3,4] from 10 to 21 (fun xv ev wc=>∃Q g1 c1 g2 c2:Nat,xv=.pointer (some ⟨Q,0,none⟩)/\ev=.int .i64 0/\ZY wx wc/\wc.heap[Q]? =some (.cells (infC st g1 c1 g2 c2 n) 50 (0,0))/\(wx.heap.size<=Q/\wx.heap.size<=g1/\wx.heap.size<=g2/\n<=c1/\n<=c2)/\BO wc g1 n (fun k=>((e.at_ 1).at_ k).st)/\BO wc g2 n (fun k=>((e.at_ 1).at_ k).tries))
 case first =>
  go_region_with (go_at_call 27;refine (HQ.o _ (by first | exact (Zk _ wx).drew | exact ((Zk _ wx).alloc ZU _).drew)).mono ?_;rintro _ K ⟨g1,c1,g2,c2,rfl,q0,q1,q2,q3⟩;have T:=Zz (Zq q0 (Zq q1 (Zq q2 q3)));first
   | (have hk:=(q3.block wx.heap.size (by simp)).trans (heap_alloc_new wx (.cells #[.int .u64 0,.int .i64 0,.slice none 0 0,.slice none 0 0] 50));have k0:=Zae hk 0;have k1:=Zae hk 1;have k2:=Zae hk 2;have k3:=Zae hk 3;have z0:=Zbb hk 0;have z1:=Zbb hk 1;have z2:=Zbb hk 2;have z3:=Zbb hk 3;have B:=Zz hk;clear hk q0 q1 q2 q3)
   | clear q0 q1 q2 q3)
  all_goals go_wp2_with fail
  all_goals go_meet
  all_goals first
   | (have J:ZY wx K:=((Zk wx.heap.size wx).drew).trans (Below.mono (B':=wx.heap.size) T.o.2.2.2 ZU)
      obtain⟨p1,p2,p3,p4⟩:=T.o.1;have l1:=T.o.2.1.lt;have l2:=T.o.2.2.1.lt;exact⟨_,g1,c1,g2,c2,rfl,rfl,J.alloc J.size _,heap_alloc_new _ _,⟨J.size,p1,p2,p3,p4⟩,T.o.2.1.at_ (Zam _ _ _ l1),T.o.2.2.1.at_ (Zam _ _ _ l2)⟩)
   | skip
  all_goals
   have J:ZY wx K:=(((Zk wx.heap.size wx).alloc ZU _).drew).trans (Below.mono (B':=wx.heap.size) T.o.2.2.2 (by simp));obtain⟨p1,p2,p3,p4⟩:=T.o.1
   replace p1:(wx.alloc _).heap.size<=g1:=p1
   replace p2:(wx.alloc _).heap.size<=g2:=p2
   rw[World.size_alloc] at p1 p2;refine⟨_,g1,c1,g2,c2,rfl,rfl,?_,Zab (Zab (Zab (Zab B.o _) _) _) _,⟨Zx _,by omega,by omega,p3,p4⟩,T.o.2.1.at_ (Hj (by omega) _ _ _ _ _ _ _ _),T.o.2.2.1.at_ (Hj (by omega) _ _ _ _ _ _ _ _)⟩;exact (((J.setCell ZU _).setCell ZU _).setCell ZU _).setCell ZU _
 case rest =>
  obtain⟨Q,g1,c1,g2,c2,rfl,rfl,A,hx,hle,hs,ht⟩:=hcut
  rename World=>w1
  have hW:Wt1 w w1 ub tb Q g1 c1 g2 c2 n C lb (waC hb dl (some ⟨lb,0,none⟩) n lc (.slice ta ts.length tc) rk tb ir is (.slice ia C ic) (.slice ja C jc)) is ia ic F r0 (e.at_ 1) Na Nc:=by
   obtain⟨p,h2,J,h3⟩:=HX.o;obtain⟨hH,hA,hF,hD,hG,O⟩:=H.o;have eg:=hA.tr.lt;have bo:=hH.Db;obtain⟨c,hc,_,hv⟩:=hA.tr;refine⟨(A.block ub (Zaa p)).trans p,by rw[<-HS.o];exact hx,hs,ht,h3.imp id ?_,(hF.Ak ZU (fun _ _=>rfl)).Ak (Zv bo.size A.size) (fun k hk=>((bo.trans (A.mono bo.size)).block k hk)),Zah p hc (by decide),by omega,by omega,by omega,hA.lo.2.2⟩;rintro⟨q1,q2,ig,jg,q3,q4,q5,q6,q7,q8,q9,ei⟩;exact⟨q1,q2,ig,q3,q5,q7.at_ (A.block ig q7.lt),q9⟩
  have hL:Ua w w1 w1 hb D bd rk tb Z n 0 e tv:=⟨(H.o.1.below A).1,fun _ _ _=>rfl,Zx _,(H.o.2.1.tr.of_block (A.block tb H.o.2.1.tr.lt)).congr fun k hk=>by rw[if_neg (by omega)]⟩;have x2:w1.cell? ⟨Q,2,none⟩=some (.slice (some ⟨g1,0,none⟩) n c1):=Zad hx 2;have y2:=cell_later A b2;have r:=Zz (Zq hW (Zq hL (Zq hle A)));clear b0 b3 b2 b9 de dh A hx hle hs ht hW hL HQ
  go_upto_region 2 with fail
  go_cut [35] from 22 to 35 (fun v wc=>v=.bool false/\ZY w1 wc)
  case first =>
   go_quiet (fail)
   all_goals go_wp2_with fail
   all_goals go_meet
   all_goals exact⟨rfl,FE ZV _⟩
  obtain⟨rfl,cr⟩:=hcut
  rename World=>w2
  have hL:=r.o.2.1.below cr;have HL:=Zz hL;clear hL cr;go_wp2_with fail
  go_loopw [6,5] (fun iv av wr=>∃(i:Nat) (y:Bool),iv=.int .i64 i/\i<=n/\av=.bool y/\(y=true↔∀k,k<i->((e.at_ 1).at_ k).st=5)/\Ua w w1 wr hb D bd rk tb Z n i e tv) (fun iv _ _=>n - (intOf iv).toNat)
  case atStart=>exact⟨0,true,rfl,by omega,rfl,by simp,HL.o⟩
  case round =>
   obtain⟨i,y,rfl,hi,rfl,hy,hl⟩:=hrel
   rename World=>wr
   have HR:=Zz (Zq hy hl);clear hy hl;have O:=H.o.2.2.2.2.2;by_cases p:i<n
   case neg =>
    have i1:¬(i:Int)<(n:Int):=by omega
    obtain⟨u2,u6,u8,u9,x1,x2,x3,s,t,b,a,v,vz,o⟩:=r.o.1.cells HR.o.2 (k:=0) al;rw[<-HS.o] at x1;clear u2 u6 x3 s t b a v vz o;go_wp2_with fail
    go_cut [264] from 240 to 264 (fun z wc=>z=.bool false/\ZY wr wc)
    case first =>
     rcases r.o.1.o with N | ⟨N,ay,_⟩
     .have j1:decide ((0:Int)<(C:Int))=false:=decide_eq_false (by omega)
      have j5:decide (0<C)=false:=decide_eq_false (by omega)
      go_quiet (fail)
      all_goals go_wp2_with fail
      all_goals go_meet
      all_goals exact⟨rfl,FE ZV _⟩
     .have j1:(0:Int)<(C:Int):=by omega
      have dj:is≠1->st=is:=fun x=>by rw[HS.o,ay];exact H.o.2.2.2.1.st N (by rw[<-ay];exact x)
      have j4:decide ((0:Int)<(C:Int))=true:=decide_eq_true j1;have j5:decide (0<C)=true:=decide_eq_true (by omega);clear N ay j1;by_cases c1:is=1
      .have cm:(is != 1)=false:=by rw[c1];rfl
       go_quiet (fail)
       all_goals go_wp2_with fail
       all_goals go_meet
       all_goals exact⟨rfl,FE ZV _⟩
      .have cm:(is != 1)=true:=bne_iff_ne.2 c1
       have e2:st=is:=dj c1;subst e2
       go_quiet (fail)
       all_goals go_wp2_with fail
       all_goals go_meet
       all_goals exact⟨rfl,FE ZV _⟩
    obtain⟨rfl,R⟩:=hcut
    rename World=>K
    have M:=Zz (HR.o.2.below R);have G:=(M.o.on ub (Zaa r.o.1.u) r.o.1.ne.1).trans r.o.1.u;have I:=(M.o.on Q (Zaa r.o.1.x) r.o.1.ne.2.1).trans r.o.1.x;rw[<-HS.o] at I;have x0:K.cell? ⟨Q,0,none⟩=some (.int .u64 2):=Zad I 0;clear x1;have x1:K.cell? ⟨Q,1,none⟩=some (.int .i64 st):=Zad I 1;clear x2;have x2:K.cell? ⟨Q,2,none⟩=some (.slice (some ⟨g1,0,none⟩) n c1):=Zad I 2;have x3:K.cell? ⟨Q,3,none⟩=some (.slice (some ⟨g2,0,none⟩) n c2):=Zad I 3;have y7:K.cell? ⟨ub,7,none⟩=some (.int .u64 ir):=Zad G 7;have y8:K.cell? ⟨ub,8,none⟩=some (.int .i64 is):=Zad G 8;have y9:K.cell? ⟨ub,9,none⟩=some (.slice ia C ic):=Zad G 9;have ep:K.cell? ⟨ub,10,none⟩=some (.slice ja C jc):=Zad G 10;have yz:∀o,K.frozen? ⟨ub,o,none⟩=false:=fun o=>by simp[World.frozen?,G]
    have ee:Q≠ub:=Zah I G (by decide);have ax:i=n:=by omega
    have dc:y=(st == 2):=by
     have cy:=H.o.2.2.2.1.sc;rw[<-HS.o] at cy;have P:=HR.o.1;rw[ax] at P;rw[Bool.eq_iff_iff,P,<-cy,beq_iff_eq]
    have HE:=Zz (TV (wx:=wx) (st:=st) r.o.1 (by have:=M.o;rw[ax] at this;exact this) r.o.2.2.2 ⟨r.o.2.2.1.2.2.2.1,r.o.2.2.1.2.2.2.2⟩ HX.o.2.1 HX.o.2.2.1 H.o.2.1.rd H.o.2.1.tr H.o.2.1.lo H.o.2.2.2.2.1 HS.o);subst dc;clear G I R ax i1 u8 u9;go_wp2_with fail
    go_ret
    refine⟨by simp,?_⟩;exact HE.o
   case pos =>
    have i1:(i:Int)<(n:Int):=by omega
    have hC:=r.o.1.cells HR.o.2 p;obtain⟨u2,u6,u8,u9,x1,x2,x3,s,t,b,a,v,vz,o⟩:=hC;rw[if_neg (Nat.lt_irrefl i)] at v;obtain⟨sk,E⟩:∃x,x=((e.at_ 1).at_ i).st:=⟨_,rfl⟩;obtain⟨tk,S⟩:∃x,x=((e.at_ 1).at_ i).tries:=⟨_,rfl⟩;obtain⟨bk,ae⟩:∃x,x=F.bu i:=⟨_,rfl⟩;obtain⟨vk,ar⟩:∃x,x=tv i:=⟨_,rfl⟩;rw[<-E] at s;rw[<-S] at t;rw[<-ae] at b;rw[<-ar] at v;have d1:decide (bk<tk)=false:=decide_eq_false (by rw[ae,S];exact Int.not_lt.2 (H.o.2.2.2.1.Xv i p));have d2:decide (tk<vk)=false:=decide_eq_false (by rw[ar,S];exact Int.not_lt.2 (H.o.2.2.2.1.trM i p));have B:=Zz (Zq E (Zq S (Zq ae ar)));clear E S ae ar
    go_upto_region 8 with fail
    go_cut [72] from 43 to 72 (fun z wc=>z=.bool false/\ZY wr wc)
    case first =>
     go_quiet (fail)
     all_goals go_wp2_with fail
     all_goals go_meet
     all_goals exact⟨rfl,FE ZV _⟩
    obtain⟨rfl,cu⟩:=hcut
    rename World=>w3
    have bp:=Zz (HR.o.2.below cu);obtain⟨u2,u6,u8,u9,x1,x2,x3,s,t,b,a,v,vz,o⟩:=r.o.1.cells bp.o p;rw[<-B.o.1] at s;rw[<-B.o.2.1] at t;clear cu d1 d2 o u8
    go_upto_region 10 with fail
    go_cut [] from 73 to 83 (fun wc=>Ua w w1 wc hb D bd rk tb Z n (i+1) e tv)
    case first =>
     go_region
     all_goals go_wp2_with fail
     all_goals go_meet
     all_goals (rw[B.o.2.1];exact (bp.o.below ZV.drew).put p r.o.1.ne.2.2.2.2 H.o.2.2.2.2.1)
    rename World=>w4
    have br:=Zz hcut;obtain⟨u2,u6,u8,u9,x1,x2,x3,s,t,b,a,v,vz,o⟩:=r.o.1.cells br.o p;rw[<-B.o.1] at s;rw[<-B.o.2.1] at t;rw[<-B.o.2.2.1] at b;clear hcut
    have L:∃l:Int,(C=n->l=(r0.at_ i).st)/\(C=0->l=0):=by
     by_cases c:C=0
     .exact⟨0,fun x=>by have:=H.o.2.2.2.1.n1;omega,fun _=>rfl⟩
     .exact⟨_,fun _=>rfl,fun x=>absurd x c⟩
    obtain⟨l,L⟩:=L;have W:=Zz L;clear L
    go_upto_region 12 with fail
    go_cut [90] from 84 to 90 (fun z wc=>∃y9:Bool,z=.bool y9/\(y9=true↔0<C)/\wc=w4)
    case first =>
     go_wp2_with fail
     go_meet
     exact⟨_,rfl,by simp,rfl⟩
    obtain⟨y9,rfl,db,d⟩:=hcut;have d:=d.symm;subst d;have ck:=Zz db;clear db
    go_upto_if 90 with fail
    go_cut [7] from 91 to 98 (fun z wc=>z=.int .i64 l/\wc=w4)
    case first =>
     rcases r.o.1.o with N | ⟨N,_⟩
     .have e1:=W.o.2 N
      have e2:y9=false:=by
       cases y9
       .rfl
       .have:=ck.o.1 rfl;omega
      subst e2;go_wp2_with fail
      go_meet
      exact⟨by rw[e1],rfl⟩
     .have dw:=H.o.2.2.2.1.n1
      have e2:y9=true:=ck.o.2 (by omega);subst e2;have j2:(i:Int)<(C:Int):=by omega
      obtain⟨ig,rfl,dy,o1⟩:=o N;have e1:=W.o.1 N;go_wp2_with fail
      go_meet
      exact⟨by rw[e1],rfl⟩
    obtain⟨rfl,d⟩:=hcut;have d:=d.symm;subst d;clear o u8
    have au:l=5\/l=6\/l=7->sk=l:=fun x=>by
     rcases r.o.1.o with N | ⟨N,_⟩
     .have:=W.o.2 N;omega
     .rw[W.o.1 N] at x ⊢
      rw[B.o.1];exact H.o.2.2.2.1.ov N i p x
    go_upto_region 14 with fail
    go_cut [117] from 99 to 117 (fun z wc=>z=.bool false/\wc=w4)
    case first =>
     by_cases c5:l=5
     .have c:=au (Zu c5)
      subst c5;subst c;go_wp2_with fail
      go_meet
      exact⟨rfl,rfl⟩
     by_cases c6:l=6
     .have c:=au (Zj (Zu c6))
      subst c6;subst c;go_wp2_with fail
      go_meet
      exact⟨rfl,rfl⟩
     by_cases c7:l=7
     .have c:=au (Zj (Zj c7))
      subst c7;subst c;go_wp2_with fail
      go_meet
      exact⟨rfl,rfl⟩
     have g5:(l == 5)=false:=beq_eq_false_iff_ne.2 c5;have g6:(l == 6)=false:=beq_eq_false_iff_ne.2 c6;have g7:(l == 7)=false:=beq_eq_false_iff_ne.2 c7;go_wp2_with fail
     go_meet
     exact⟨rfl,rfl⟩
    obtain⟨rfl,d⟩:=hcut;have d:=d.symm;subst d;clear au
    go_upto_region 16 with fail
    go_cut [140] from 118 to 140 (fun z wc=>z=.bool false/\ZY w4 wc)
    case first =>
     by_cases c6:sk=6
     .have c:tk=bk:=by
       rw[B.o.2.1,B.o.2.2.1];exact H.o.2.2.2.1.dead i p (B.o.1.symm.trans c6)
      subst c6;subst c
      go_quiet (fail)
      all_goals go_wp2_with fail
      all_goals go_meet
      all_goals exact⟨rfl,FE ZV _⟩
     .have g6:(sk == 6)=false:=beq_eq_false_iff_ne.2 c6
      go_quiet (fail)
      all_goals go_wp2_with fail
      all_goals go_meet
      all_goals exact⟨rfl,FE ZV _⟩
    obtain⟨rfl,R⟩:=hcut
    rename World=>K
    have M:=Zz (br.o.below R);obtain⟨u2,u6,u8,u9,x1,x2,x3,s,t,b,a,v,vz,o⟩:=r.o.1.cells M.o p;rw[<-B.o.1] at s;clear R o u8 t b v vz
    go_upto_region 18 with fail
    go_cut [5] from 141 to 149 (fun z wc=>∃y2:Bool,z=.bool y2/\(y2=true↔∀k,k<i+1->((e.at_ 1).at_ k).st=5)/\wc=K)
    case first =>
     cases y with
     | false =>
      go_wp2_with fail
      go_meet
      refine⟨false,rfl,⟨fun x=>by simp at x,fun x=> ?_⟩,rfl⟩;have P:=HR.o.1;have:=P.2 fun k hk=>x k (by omega)
      simp at this
     | true =>
      by_cases c5:sk=5
      .have g5:(sk == 5)=true:=beq_iff_eq.2 c5
       go_wp2_with fail
       go_meet
       refine⟨true,rfl,⟨fun _ k hk=> ?_,fun _=>rfl⟩,rfl⟩;by_cases c:k=i
       .subst c;rw[<-B.o.1];exact c5
       .exact HR.o.1.1 (by trivial) k (by omega)
      .have g5:(sk == 5)=false:=beq_eq_false_iff_ne.2 c5
       go_wp2_with fail
       go_meet
       refine⟨false,rfl,⟨fun x=>by simp at x,fun x=> ?_⟩,rfl⟩;exact absurd (B.o.1.trans (x i (by omega))) c5
    obtain⟨y2,rfl,da,d⟩:=hcut;have d:=d.symm;subst d;have dd:=Zz da;clear da;obtain⟨an,Y⟩:∃an,an=F.an i:=⟨_,rfl⟩;obtain⟨na,bf⟩:∃na,na=Na i:=⟨_,rfl⟩;obtain⟨nc,bh⟩:∃nc,nc=Nc i:=⟨_,rfl⟩;rw[<-Y,<-bf,<-bh] at a;have U:=Zz (Zq Y (Zq bf bh));have cq:an<=1000:=by rw[Y];exact H.o.2.2.2.1.anB i p
    clear Y bf bh;go_wp2_with fail
    go_loopw [9,8] (fun jv uv wj=>∃(j:Nat) (u:Bool),jv=.int .i64 j/\j<=an/\uv=.bool u/\(u=true↔∀q,q<j->((e.at_ 1).at_ (F.af i q).toNat).st=5)/\ZY K wj) (fun jv _ _=>an - (intOf jv).toNat)
    case atStart=>exact⟨0,true,rfl,by omega,rfl,by simp,Zk _ _⟩
    case round =>
     obtain⟨j,u,rfl,hj,rfl,hu,aw⟩:=hrel
     rename World=>wj
     have HU:=Zz (Zq hu aw);have V:=Zz (M.o.below aw);clear hu aw;obtain⟨u2,u6,u8,u9,x1,x2,x3,s,t,b,a,v,vz,o⟩:=r.o.1.cells V.o p;rw[<-B.o.1] at s;rw[<-U.o.1,<-U.o.2.1,<-U.o.2.2] at a;clear o u8 t b v vz;by_cases j1:j<an
     case neg =>
      have i2:¬(j:Int)<(an:Int):=by omega
      have cz:u=true↔∀q,q<F.an i->((e.at_ 1).at_ (F.af i q).toNat).st=5:=by
       have hx:=HU.o.1;rw[show j=F.an i from (by have:=U.o.1;omega)] at hx;exact hx
      have bw:=Zz cz;clear cz
      go_upto_region 24 with fail
      go_cut [225] from 184 to 225 (fun z wc=>z=.bool false/\wc=wj)
      case first =>
       cases u with
       | true =>
        go_wp2_with fail
        go_meet
        exact⟨rfl,rfl⟩
       | false =>
        have E:¬(2<=sk/\sk<=6):=fun x=>by
         have hq:=bw.o.2 (by have J:=H.o.2.2.2.1.up i p;rw[<-B.o.1] at J;exact J x.1 x.2);simp at hq
        have g2:(sk == 2)=false:=beq_eq_false_iff_ne.2 (by omega);have g3:(sk == 3)=false:=beq_eq_false_iff_ne.2 (by omega);have g4:(sk == 4)=false:=beq_eq_false_iff_ne.2 (by omega);have g5:(sk == 5)=false:=beq_eq_false_iff_ne.2 (by omega);have g6:(sk == 6)=false:=beq_eq_false_iff_ne.2 (by omega);clear E;go_wp2_with fail
        go_meet
        exact⟨rfl,rfl⟩
      obtain⟨rfl,d⟩:=hcut;have d:=d.symm;subst d;rw[<-HS.o] at x1
      go_upto_region 26 with fail
      go_cut [239] from 226 to 239 (fun z wc=>z=.bool false/\wc=wj)
      case first =>
       cases u with
       | false =>
        go_wp2_with fail
        go_meet
        exact⟨rfl,rfl⟩
       | true =>
        by_cases c1:st=1
        .have E:sk≠1:=by
          have J:=H.o.2.2.2.1.free i p (bw.o.1 (by trivial)) (HS.o.symm.trans c1);rw[<-B.o.1] at J;exact J
         have cm:(sk == 1)=false:=beq_eq_false_iff_ne.2 E;have dp:(st == 1)=true:=beq_iff_eq.2 c1;clear E c1;go_wp2_with fail
         go_meet
         exact⟨rfl,rfl⟩
        .have dp:(st == 1)=false:=beq_eq_false_iff_ne.2 c1
         go_wp2_with fail
         go_meet
         exact⟨rfl,rfl⟩
      obtain⟨rfl,d⟩:=hcut;have d:=d.symm;subst d;clear i2 cq hj x1 x2 x3 s a u2 u6 u9;go_wp2_with fail
      exact⟨⟨i+1,y2,by go_num,by omega,rfl,dd.o,V.o⟩,by simp[intOf];omega⟩
     case pos =>
      have i2:(j:Int)<(an:Int):=by omega
      obtain⟨g,hg,ga⟩:=r.o.1.DW V.o p (by rw[<-U.o.1];exact j1);have X:=r.o.1.f.ac i p;rw[<-U.o.1,<-U.o.2.2] at X;rw[<-U.o.2.1] at hg;subst hg;obtain⟨du,ag⟩:=H.o.2.2.2.1.af i j p (by rw[<-U.o.1];exact j1);obtain⟨m,hm⟩:∃m:Nat,F.af i j=(m:Int):=⟨(F.af i j).toNat,by omega⟩;rw[hm] at ga ag;have aj:m<n:=by omega
      have sm:=(r.o.1.cells V.o aj).s;obtain⟨km,az⟩:∃x,x=((e.at_ 1).at_ m).st:=⟨_,rfl⟩;rw[<-az] at sm;have HM:=Zz (Zq hm az);clear hm az du
      cases u with
      | false =>
       go_wp2_with fail
       go_quiet (fail)
       all_goals go_wp2_with fail
       all_goals
        refine⟨?_,by clear X aj ag i1 O al hj;simp[intOf];omega⟩;refine⟨j+1,false,by go_num,by omega,rfl,⟨fun x=>by simp at x,fun x=> ?_⟩,FE HU.o.2 _⟩;have P:=HU.o.1;have:=P.2 fun k hk=>x k (by omega)
        simp at this
      | true =>
       by_cases c5:km=5
       .have g5:(km == 5)=true:=beq_iff_eq.2 c5
        go_wp2_with fail
        go_quiet (fail)
        all_goals go_wp2_with fail
        all_goals
         refine⟨?_,by clear X aj ag i1 O al hj;simp[intOf];omega⟩;refine⟨j+1,true,by go_num,by omega,rfl,⟨fun _ k hk=> ?_,fun _=>rfl⟩,FE HU.o.2 _⟩;by_cases c:k=j
         .subst c;rw[HM.o.1,Int.toNat_natCast,<-HM.o.2];exact c5
         .exact HU.o.1.1 (by trivial) k (by omega)
       .have g5:(km == 5)=false:=beq_eq_false_iff_ne.2 c5
        go_wp2_with fail
        go_quiet (fail)
        all_goals go_wp2_with fail
        all_goals
         refine⟨?_,by clear X aj ag i1 O al hj;simp[intOf];omega⟩;refine⟨j+1,false,by go_num,by omega,rfl,⟨fun x=>by simp at x,fun x=> ?_⟩,FE HU.o.2 _⟩;have:=x j (by omega);rw[HM.o.1,Int.toNat_natCast,<-HM.o.2] at this;exact absurd this c5
