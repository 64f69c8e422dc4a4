import Derived.Test.YtgdcjccbdmcebaaGreatDoorM16
set_option linter.all false
set_option maxHeartbeats 16000000
set_option maxRecDepth 100000
open Go.Proofs.Tryz
open Go renaming bodyPost_ret->QEz,results_none->QIu,heap_alloc_new->QFm,cell_later->QFa
open Go.Lib renaming ctz->QIv,ctzFrom->QIw
open List renaming mem_cons->QDc,not_mem_nil->QCq,mem_singleton->QDd,length_set->QAo
namespace Go.Proofs.YtgdcjccbdmcebaaGreatDoor
open Go.RowKit
attribute [local go_sem ↓] Go.wp_at_zero Go.wp_at_succ
variable {l:List Tm}{e:Ab}{ob:Option Nat}{qh k i n P B:Nat}{rs:List Aq}{d:CL}{w w':World}{wd:Nat->Nat}{t:Int}
def Ul (e:Ab)(i k:Nat)(l:List Tm):Prop:=Bo l/\(∀t,t∈l->BH e t)/\∀t,BH e t->¬Dr (e.at_ i).id k t->t∈l
theorem Bf.toN (h:Bf e l)(i k:Nat):Ul e i k l:=by
 rw[Zbc] at h;exact⟨h.1,fun t a=>(h.2 t).1 a,fun t a _=>(h.2 t).2 a⟩
theorem Ul.RN (wk:Ao e)(hi:i<e.runs.length)(hk:k<(e.at_ i).steps.length)(j:((e.at_ i).at_ k).st=3){f:List Tm}(m:Bk l)(h:Ul e i k l)(p:FJ l (Jm (e.at_ i).id k [1,2]) f):Bo f/\Bk f/\f.length<=l.length/\∀t,t∈f↔BH e t/\¬Dr (e.at_ i).id k t:=by
 obtain⟨s1,s2,s3,q⟩:=p.all m;refine⟨s3 h.1,s1,s2,fun t=> ?_⟩;rw[q];simp only[Jm,List.map_cons,List.map_nil,QDc,QCq,or_false,not_or];constructor
 .rintro⟨a,b,c⟩
  refine⟨h.2.1 t a,fun o=> ?_⟩;rcases ((h.2.1 t a).node wk hi hk o).2 with⟨_,g⟩ | ⟨g,_⟩ | ⟨_,_,g⟩
  .exact b (by rw[g])
  .rw[j] at g;cases g
  .exact c (by rw[g])
 .rintro⟨a,b⟩
  exact⟨h.2.2 t a b,fun x=>b ⟨1,by decide,by decide,x⟩,fun x=>b ⟨2,by decide,by decide,x⟩⟩
theorem Es.runT {a b:Ag}(h:Es a b)(t:Tm):KY b t↔KY a t:=by
 induction h with
 | refl=>exact Iff.rfl
 | step r r2 k hk hl _ o =>
  rw[o];have hw:=EU hl;unfold KY;have f:(r.Af k JB).st=r.st/\(r.Af k JB).id=r.id/\(r.Af k JB).CW=r.CW/\(r.Af k JB).Cz=r.Cz:=⟨rfl,rfl,rfl,rfl⟩;rw[f.1,f.2.1,f.2.2.1,f.2.2.2,Zal]
  have j:∀m,m<r.steps.length->(IC r.id m ((r.Af k JB).at_ m) t↔IC r.id m (r.at_ m) t):=by
   intro m hm;rw[Zeg _ _ _ _ hm];by_cases c:k=m
   .subst c
    rw[if_pos rfl];constructor
    .rintro (⟨g,_⟩ | ⟨g,_⟩ | ⟨g,_⟩)<;>cases g
    .rintro (⟨g,_⟩ | ⟨g,_⟩ | ⟨g,_⟩)<;>(rw[hw] at g;cases g)
   .rw[if_neg c]
  constructor
  .rintro⟨a,b | ⟨m,hm,c⟩⟩
   .exact⟨a,Zu b⟩
   .exact⟨a,Zj ⟨m,hm,(j m hm).1 c⟩⟩
  .rintro⟨a,b | ⟨m,hm,c⟩⟩
   .exact⟨a,Zu b⟩
   .exact⟨a,Zj ⟨m,hm,(j m hm).2 c⟩⟩
theorem PK {d2:Ag}(hi:i<e.runs.length)(h:Es (e.at_ i) d2)(t:Tm):BH (e.AL i (fun _=>d2)) t↔BH e t:=by
 constructor
 .rintro⟨j,a,g⟩
  rw[Zbk] at a;rw[Zbr e i j _ a] at g;by_cases c:i=j
  .subst c;rw[if_pos rfl] at g;exact⟨i,a,(h.runT t).1 g⟩
  .rw[if_neg c] at g;exact⟨j,a,g⟩
 .rintro⟨j,a,g⟩
  refine⟨j,by rw[Zbk];exact a,?_⟩;rw[Zbr e i j _ a];by_cases c:i=j
  .subst c;rw[if_pos rfl];exact (h.runT t).2 g
  .rw[if_neg c];exact g
theorem LO (w:World)(P B:Nat)(ob:Option Nat)(e:Ab)(rs:List Aq)(l:List Tm)(i k:Nat)(h:Ch qh w P B ob e rs l)(wk:Ao e)(hi:i<e.runs.length)(hk:k<(e.at_ i).steps.length)(Q:((e.at_ i).at_ k).st=3)(hT:Ul e i k l)(K:e.Ah<18446744073709551616)(M:0<=e.Ar/\e.Ar<18446744073709551616) :
  Calls prog 156 #[.pointer (some ⟨P,4,none⟩),.pointer (some ⟨(Am rs i).b,0,none⟩),.int .i64 k] w fun x w'=>x=.returned (.tuple #[])/\∃bh l' bf,Ch qh w' P B bf (e.AH i k) bh l'/\BQ rs bh/\Bf (e.AH i k) l'/\KF w w' P B ob/\As w ob bf:=by
 obtain⟨el,now,Z,G,H⟩:=h.ex;obtain⟨ka,kc,gb⟩:=Z.kn;have C:i<rs.length:=by rw[h.len];exact hi
 have D:=gb.runs i C;have A:=h.runs i hi;have X:=wk.Bi hi hk (by omega);have m:=wk.runs i hi;obtain⟨r,V⟩:∃r,r=Am rs i:=⟨_,rfl⟩;rw[<-V] at D A ⊢;have F:=Z.pb;have j7:k<r.ns.length:=by rw[A.len];exact hk
 obtain⟨nd,E⟩:∃nd,nd=r.at_ k:=⟨_,rfl⟩;obtain⟨⟨t0,_,t2⟩,_⟩:=D.CP;obtain⟨_,_,j8,_,N,_⟩:=D.Bj;have gy:=D.Br;obtain⟨n,hn⟩:∃n,n=r.ns.length:=⟨_,rfl⟩;rw[<-hn] at t2 j8 gy j7;have I:r.id=(e.at_ i).id:=A.id;rw[I] at t0;obtain⟨id,cm⟩:∃id,id=(e.at_ i).id:=⟨_,rfl⟩;rw[<-cm] at t0;have k1:(k:Int)<(n:Int):=by omega
 have HH:=Zz (Zq h (Zq wk (Zq hi (Zq hk (Zq Q (Zq hT (Zq M (Zq K (Zq Z (Zq G (Zq H (Zq C (Zq D (Zq A (Zq X (Zq V (Zq E (Zq hn (Zq cm (Zq m (Zq F N)))))))))))))))))))));obtain⟨b,hb⟩:∃b,b=r.b:=⟨_,rfl⟩;obtain⟨ng,ee⟩:∃ng,ng=r.ng:=⟨_,rfl⟩;rw[<-hb] at t0 t2 ⊢;rw[<-ee] at t2;have O:=Zz (Zq hb ee)
 generalize r.nc=nc at *
 clear h wk hi hk Q hT M K Z G H C D A X V E hn I cm m F N gb hb ee
 go_enter func156,ntmps156
 go_upto_region 0 with fail
 have jd:=QFa ((Zk w.heap.size w).alloc ZU (.cells #[.int .u64 0,.int .i64 0] 274)) t0;have jf:=QFa ((Zk w.heap.size w).alloc ZU (.cells #[.int .u64 0,.int .i64 0] 274)) t2;have je:=QFa ((Zk w.heap.size w).alloc ZU (.cells #[.int .u64 id,.int .i64 k] 274)) t0;have jh:=QFa ((Zk w.heap.size w).alloc ZU (.cells #[.int .u64 id,.int .i64 k] 274)) t2
 go_region
 all_goals
  go_upto_region 1 with fail
  clear t0 t2 jd je jf jh;obtain⟨w1,dc⟩:∃w1,w1=(w.alloc (.cells #[.int .u64 id,.int .i64 k] 274)).drew:=⟨_,rfl⟩;obtain⟨sb,db⟩:∃sb,sb=w.heap.size:=⟨_,rfl⟩;rw[<-dc,<-db];have da:ZY w w1:=by rw[dc];exact (ZV.alloc ZU _).drew
  have eg:Bx w1 sb id k:=by rw[dc,db];exact QFm w _
  obtain⟨z0,z1⟩:=eg.cells;have cz:=Zz (Zq da (Zq eg db))
  have gx:=Zz (by
   obtain⟨h,wk,hi,hk,Q,hT,M,K,Z,G,H,C,D,A,X,V,E,hn,I,m,F,N⟩:=HH.o
   exact Hl (w1.alloc (.cells #[.int .i64 1,.int .i64 2] 280)) P B now w1.heap.size l id k [1,2] ((Z.wh.Ak da).Ak (ZV.alloc ZU _)) (fun q hq=>by
    have gd:0<=q/\q<4:=by simp only[QDc,QCq,or_false] at hq;rcases hq with rfl | rfl<;>decide
    have:=wk.Uc i hi;have:=wk.Rr i hi;exact FM (by omega) (by omega) (by omega) (by omega) gd.1 gd.2) (Fm w1 [1,2]) (by have:=da.size;omega) (by decide))
  clear da eg dc db;go_wp2_with (go_at_call 152;refine gx.o.mono ?_;rintro _ w2 ⟨rfl,l1,gi,gu,ft⟩;have fe:=Zz (Zq gi (Zq gu ft));clear gi gu ft)
  have R:=Zz (show Dq qh w2 P B ob rs el e.queue now l1 e.Ah e.Ai e.Ar/\AR qh w2 B r/\Bx w2 sb id k/\KF w w2 P B ob/\(Bo l1/\Bk l1/\l1.length<=l.length/\∀t,t∈l1↔BH e t/\¬Dr (e.at_ i).id k t) by
   obtain⟨h,wk,hi,hk,Q,hT,M,K,Z,G,H,C,D,A,X,V,E,hn,I,m,F,N⟩:=HH.o;obtain⟨q1,q2,q3⟩:=fe.o;have fs:ZY w1 (w1.alloc (.cells #[.int .i64 1,.int .i64 2] 280)):=ZV.alloc ZU _;have hb:=cz.o.1.trans' fs;have im:AR qh w2 B r:=(D.below hb).Cv (fun k cs t fr hk e ht=>q3.other e (by rcases ht with rfl | rfl | rfl<;>decide) (by omega));refine⟨(Z.below hb).Dh q3 q2,im,?_,(KF.Ae P B ob hb).trans (KF.DL q3 ob) (As.refl _ _),?_⟩
   .have hs:=cz.o.2.1
    have gh:Bx (w1.alloc (.cells #[.int .i64 1,.int .i64 2] 280)) sb id k:=(fs.block sb (Zaa hs)).trans hs;exact (q3.other gh (by decide) (by have:=cz.o.2.2;omega)).trans gh
   .rw[I] at q1
    exact hT.RN wk hi hk Q Z.wh.apart q1)
  obtain⟨y0,y1,y2,y3,y4,y5,y6,y7,y8,y9⟩:=(show NdC w2 ng (k * 10) nd by
   obtain⟨h,wk,hi,hk,Q,hT,M,K,Z,G,H,C,D,A,X,V,E,hn,I,m,F,N⟩:=HH.o;have:=R.o.2.1.nd (k:=k) (by omega);rw[<-E,<-O.o.2] at this;exact this)
  have fw:∀j,w2.frozen? ⟨ng,j,none⟩=false:=fun j=>by rw[O.o.2];exact R.o.2.1.AD j
  have f7:=fw (k * 10+7)
  have fi:Pr (e.at_ i).fl k ((e.at_ i).at_ k) nd/\nd.st=3/\nd.tries=((e.at_ i).at_ k).tries:=by
   obtain⟨h,wk,hi,hk,Q,hT,M,K,Z,G,H,C,D,A,X,V,E,hn,I,m,F,N⟩:=HH.o;have q1:=A.live X k hk;have q2:=A.nd k hk;rw[<-E] at q1 q2;exact⟨q1,q2.1.trans Q,q2.2⟩
  have br:=Zz fi;clear z0 z1 fw fi;by_cases aj:nd.tries<nd.bu
  .have cy:=Zz aj
   go_region
   go_upto_region 4 with fail
   obtain⟨W,az⟩:∃W,W=(w2.setCell ⟨ng,k * 10+7,none⟩ (.int .i64 4)).drew:=⟨_,rfl⟩;rw[<-az]
   have Q:AR qh W B (r.BG k (fun n=>{ n with st:=4 }))/\Dq qh W P B ob (rs.set i (r.BG k (fun n=>{ n with st:=4 }))) el e.queue now l1 e.Ah e.Ai e.Ar/\KF w W P B ob/\Bx W sb id k:=by
    obtain⟨h,wk,hi,hk,Q,hT,M,K,Z,G,H,C,D,A,X,V,E,hn,I,m,F,N⟩:=HH.o;obtain⟨m1,m2,m3,m4,m5⟩:=R.o;have u:=m2.FP (k:=k) (j:=7) (f:=fun n=>{ n with st:=4 }) (v:=.int .i64 4) (by omega) (by omega) rfl ⟨rfl,rfl,rfl⟩;have hf:=Dm.EA w2 r.b r.ng (k * 10+7) (.int .i64 4);rw[<-O.o.2] at u hf;have u:=u.drew;have S:=hf.drew;rw[<-az] at u S;refine⟨u,m1.run C u (by rw[<-V];rfl) (by rw[<-V];rfl) (by rw[<-V,<-O.o.2];exact S),(m4.trans (KF.IU m2 (by rw[<-O.o.2];exact S) F.1) (As.refl _ _)),?_⟩;obtain⟨cg,j3,_⟩:=m2.Bj;exact (S.block sb (Zaa m3) (Zah m3 m2.top (by decide)) (by rw[O.o.2];exact Zah m3 j3 (by decide))).trans m3
   have H3:=Zz Q
   obtain⟨x0,x1,x2,x3,x4,x5,x6,x7,x8,x9⟩:=(show NdC W ng (k * 10) { nd with st:=4 } by
    obtain⟨h,wk,hi,hk,Q,hT,M,K,Z,G,H,C,D,A,X,V,E,hn,I,m,F,N⟩:=HH.o;have:=H3.o.1.nd (k:=k) (by rw[Aq.AW];omega);rw[Aq.BY _ _ _ _ (by omega),if_pos rfl,<-E] at this;have e2:(r.BG k (fun n=>{ n with st:=4 })).ng=ng:=O.o.2.symm;rw[e2] at this;exact this)
   obtain⟨v0,v1⟩:=Q.2.2.2.cells;have sd:=Q.2.1.sd
   have ck:∀w4,ZY W w4->Calls prog 145 #[ndV nd.bu nd.cl nd.be nd.ba nd.ca nd.ji (.slice nd.aa nd.af.length nd.ac),.int .i64 nd.tries,.int .u64 e.Ar] w4 fun x w'=>x=.returned (.int .i64 (Zbs nd.ba nd.ca nd.ji nd.tries e.Ar))/\ZY w4 w':=by
    obtain⟨h,wk,hi,hk,Q,hT,M,K,Z,G,H,C,D,A,X,V,E,hn,I,m,F,N⟩:=HH.o;obtain⟨n1,n2,n3⟩:=br.o;have U:=m.fl.node k (by rw[<-m.len];exact hk);have gq:=m.steps k hk;have:=gq.Xv;have:=gq.tr0;have:=U.bu2;intro w4 _;exact OS nd.bu nd.cl nd.be nd.ba nd.ca nd.ji nd.tries e.Ar _ w4 (by rw[n1.ba];exact U.ba1) (by rw[n1.ba];exact U.ba2) (by rw[n1.ba,n1.ca];exact U.ca1) (by rw[n1.ca];exact U.ca2) (by rw[n1.ji];exact U.ji1) (by rw[n1.ji];exact U.ji2) (by omega) (by omega) M.1 (by omega)
   have dp:=Zz ck
   have al:∀w4,ZY W w4->Calls prog 198 #[.pointer (some ⟨P,4,none⟩),.agg #[.int .u64 id,.int .i64 k,.int .i64 3],.int .i64 (Zbs nd.ba nd.ca nd.ji nd.tries e.Ar)] w4 fun x w'=>x=.returned (.tuple #[])/\∃y l2,BZ l1 (Bc id k 3) y l2/\Bh w' P B Ck now (l2++[⟨Bc id k 3,Za2 now (now+Zbs nd.ba nd.ca nd.ji nd.tries e.Ar),e.timers+1⟩])/\PF w4 w' P B Ck:=by
    obtain⟨h,wk,hi,hk,Q,hT,M,K,Z,G,H,C,D,A,X,V,E,hn,I,m,F,N⟩:=HH.o;obtain⟨n1,n2,n3⟩:=br.o;have U:=m.fl.node k (by rw[<-m.len];exact hk);have du:=Ff U nd.tries e.Ar;rw[<-n1.ba,<-n1.ca,<-n1.ji] at du;have:=wk.Uc i hi;have:=wk.Rr i hi;have jj:=fe.o.2.1.Br;have hlen:=BH.Br hT.1 hT.2.1 wk;intro w4 p;exact ES w4 P B now l1 (Bc id k 3) id k 3 _ e.timers (H3.o.2.1.wh.Ak p) (FM (by omega) (by omega) (by omega) (by omega) (by decide) (by decide)) (by omega) (by omega) (by have:=R.o.2.2.2.2.2.2.1;omega)
   have bw:=Zz al
   have dd:∀w4 w5,ZY W w4->PF w4 w5 P B Ck->((((((((((w5.cell? ⟨sb,0,none⟩=some (.int .u64 id)/\w5.cell? ⟨sb,1,none⟩=some (.int .i64 k))/\w5.cell? ⟨ng,k * 10,none⟩=some (.int .i64 nd.bu))/\w5.cell? ⟨ng,k * 10+1,none⟩=some (.int .i64 nd.cl))/\w5.cell? ⟨ng,k * 10+2,none⟩=some (.int .i64 nd.be))/\w5.cell? ⟨ng,k * 10+3,none⟩=some (.int .i64 nd.ba))/\w5.cell? ⟨ng,k * 10+4,none⟩=some (.int .i64 nd.ca))/\w5.cell? ⟨ng,k * 10+5,none⟩=some (.int .i64 nd.ji))/\w5.cell? ⟨ng,k * 10+6,none⟩=some (.slice nd.aa nd.af.length nd.ac))/\w5.cell? ⟨ng,k * 10+8,none⟩=some (.int .i64 nd.tries))/\w5.cell? ⟨P,730,none⟩=some (.int .u64 e.Ar)):=by
    obtain⟨h,wk,hi,hk,Q,hT,M,K,Z,G,H,C,D,A,X,V,E,hn,I,m,F,N⟩:=HH.o;intro w4 w5 p dw;have J:(r.BG k (fun n=>{ n with st:=4 })).ng=ng:=O.o.2.symm;have iq:=(H3.o.1.below p).Cv (w':=w5) (fun k cs t fr hk e ht=>dw.other e (by rcases ht with rfl | rfl | rfl<;>decide) (by omega))
    have bp:Bx w5 sb id k:=by
     have gm:Bx w4 sb id k:=(p.block sb (Zaa H3.o.2.2.2)).trans H3.o.2.2.2;exact (dw.other gm (by decide) (by have:=cz.o.2.2;omega)).trans gm
    have ae:=iq.nd (k:=k) (by rw[Aq.AW];omega);rw[Aq.BY _ _ _ _ (by omega),if_pos rfl,<-E,J] at ae;have ie:P<w4.heap.size:=by have:=p.size;have:=H3.o.2.1.pl;omega
    exact⟨⟨⟨⟨⟨⟨⟨⟨⟨⟨bp.cells.1,bp.cells.2⟩,ae.c0⟩,ae.c1⟩,ae.c2⟩,ae.c3⟩,ae.c4⟩,ae.c5⟩,ae.c6⟩,ae.c8⟩,(dw.off ie 730 (Zj (by decide))).trans (H3.o.2.1.below p).sd⟩
   have ez:=Zz dd;clear Q ck al dd y0 y1 y2 y3 y4 y5 y6 y7 y8 y9 f7 az
   go_region_held3 (fun w'=>((((((((((w'.cell? ⟨sb,0,none⟩=some (.int .u64 id)/\w'.cell? ⟨sb,1,none⟩=some (.int .i64 k))/\w'.cell? ⟨ng,k * 10,none⟩=some (.int .i64 nd.bu))/\w'.cell? ⟨ng,k * 10+1,none⟩=some (.int .i64 nd.cl))/\w'.cell? ⟨ng,k * 10+2,none⟩=some (.int .i64 nd.be))/\w'.cell? ⟨ng,k * 10+3,none⟩=some (.int .i64 nd.ba))/\w'.cell? ⟨ng,k * 10+4,none⟩=some (.int .i64 nd.ca))/\w'.cell? ⟨ng,k * 10+5,none⟩=some (.int .i64 nd.ji))/\w'.cell? ⟨ng,k * 10+6,none⟩=some (.slice nd.aa nd.af.length nd.ac))/\w'.cell? ⟨ng,k * 10+8,none⟩=some (.int .i64 nd.tries))/\w'.cell? ⟨P,730,none⟩=some (.int .u64 e.Ar))) (go_keep) ((first
    | (go_at_call 145;refine (dp.o _ (ZV.drew)).mono ?_;rintro _ w4 ⟨rfl,p⟩;have p:ZY W w4:=Below.trans' ((Zk W.heap.size W).drew) p;have cu:=Zz p;have v0:=QFa p v0;have v1:=QFa p v1;have x0:=QFa p x0;have x1:=QFa p x1;have x2:=QFa p x2;have x3:=QFa p x3;have x4:=QFa p x4;have x5:=QFa p x5;have x6:=QFa p x6;have x8:=QFa p x8;have sd:=QFa p sd;clear p)
    | (go_at_call 198;refine (bw.o _ cu.o).mono ?_;rintro _ w5 ⟨rfl,bp⟩;have gw:=Zz bp;obtain⟨⟨⟨⟨⟨⟨⟨⟨⟨⟨p0,p1⟩,p2⟩,p3⟩,p4⟩,p5⟩,p6⟩,p7⟩,p8⟩,p9⟩,jk⟩:=ez.o _ _ cu.o bp.choose_spec.choose_spec.2.2;clear bp)))
   all_goals
    go_wp2_with fail
    (try simp only[Exit.inBlock,Exit.then])
    refine QEz (QIu rfl _ _ _) rfl ?_;obtain⟨h,wk,hi,hk,Q,hT,M,K,Z,G,H,C,D,A,X,V,E,hn,I,m,F,N⟩:=HH.o;obtain⟨n1,n2,n3⟩:=br.o;obtain⟨y,l2,c1,c2,c3⟩:=gw.o;obtain⟨m1,m2,m3,m4,m5⟩:=R.o;obtain⟨g1,g2,g3,g4⟩:=m5;have aj:((e.at_ i).at_ k).tries<(e.at_ i).fl.bu k:=by have:=cy.o;rw[n3,n1.bu] at this;exact this
    have S:=Ed (e:=e) (i:=i) (k:=k) aj;have ag:(e.AH i k).runs=(e.Af i k (fun s=>{ s with st:=4,fin:=Zao e.time (Zbs ((e.at_ i).fl.ba k) ((e.at_ i).fl.ca k) ((e.at_ i).fl.ji k) s.tries e.Ar),BM:=e.timers+1 })).runs:=by rw[S];rfl
    have ey:=A.step X hk (f:=fun n=>{ n with st:=4 }) (g:=fun s=>{ s with st:=4,fin:=Zao e.time (Zbs ((e.at_ i).fl.ba k) ((e.at_ i).fl.ca k) ((e.at_ i).fl.ji k) s.tries e.Ar),BM:=e.timers+1 }) rfl (A.nd k hk).2 (by have:=A.live X k hk;exact⟨this.tok,this.bu,this.cl,this.be,this.ba,this.ca,this.ji,this.af⟩);have u:=DR (e:=e) (e':=e.AH i k) h.len h.runs hi ag ey;have hq:(e.AH i k).queue=e.queue/\(e.AH i k).Ah=e.Ah/\(e.AH i k).Ai=e.Ai/\(e.AH i k).Ar=e.Ar/\(e.AH i k).time=e.time:=by rw[S];exact⟨rfl,rfl,rfl,rfl,rfl⟩
    refine⟨rfl,rs.set i (r.BG k (fun n=>{ n with st:=4 })),l2++[⟨Bc id k 3,Za2 now (now+Zbs nd.ba nd.ca nd.ji nd.tries e.Ar),e.timers+1⟩],ob,⟨⟨el,now,?_,by rw[hq.2.2.2.2];exact G,?_⟩,u.1,u.2⟩,?_,?_,?_,As.refl _ _⟩
    .rw[hq.1,hq.2.1,hq.2.2.1,hq.2.2.2.1]
     exact (H3.o.2.1.below cu.o).Dh c3 c2
    .exact H.same (Za9 ag) (fun j hj=>by have:=Zba ag hj;exact⟨this.1,this.2.2.2.2.2⟩)
    .refine⟨by rw[QAo],fun x hx=> ?_⟩
     rw[Zdi C hx]
     split
     .rename_i e2;subst e2;rw[V];rfl
     .rfl
    .rw[Zbc]
     refine⟨DP (T:=e.timers) (c1.rising g1) (fun t ht=>((g4 t).1 ((c1.gone g2 t).1 ht).1).1.sq wk) (by show e.timers<e.timers+1;omega),fun t=> ?_⟩;rw[List.mem_append,QDd,c1.gone g2,g4,Zdt wk hi hk ag];have U:=m.fl.node k (by rw[<-m.len];exact hk);have du:=Ff U ((e.at_ i).at_ k).tries e.Ar
     have iz:Za2 now (now+Zbs nd.ba nd.ca nd.ji nd.tries e.Ar)=Zao e.time (Zbs ((e.at_ i).fl.ba k) ((e.at_ i).fl.ca k) ((e.at_ i).fl.ji k) ((e.at_ i).at_ k).tries e.Ar):=by
      rw[n1.ba,n1.ca,n1.ji,n3,G,Zc6 du.1]
     rw[iz,I];constructor
     .rintro (⟨⟨a,b⟩,c⟩ | rfl)
      .exact Zu ⟨a,b⟩
      .exact Zj ⟨X,Zj (Zu ⟨rfl,rfl⟩)⟩
     .rintro (⟨a,b⟩ | ⟨_,b⟩)
      .exact Zu ⟨⟨a,b⟩,fun x=>b ⟨3,by decide,by decide,x⟩⟩
      .right
       rcases b with⟨b,_⟩ | ⟨_,b⟩ | ⟨b,_⟩
       .cases b
       .exact b
       .cases b
    .exact (H3.o.2.2.1.trans (KF.Ae P B ob cu.o) (As.refl _ _)).trans (KF.DL c3 ob) (As.refl _ _)
  .have cy:=Zz aj
   go_region
   go_upto_region 6 with fail
   obtain⟨W,az⟩:∃W,W=(w2.setCell ⟨ng,k * 10+7,none⟩ (.int .i64 6)).drew:=⟨_,rfl⟩;rw[<-az];obtain⟨Y,bo⟩:∃Y,Y=r.BG k (fun n=>{ n with st:=6 }):=⟨_,rfl⟩;obtain⟨J,ar⟩:∃J,J=e.Af i k (fun s=>{ s with st:=6 }):=⟨_,rfl⟩
   have Q:AR qh W B Y/\Dq qh W P B ob (rs.set i Y) el e.queue now l1 e.Ah e.Ai e.Ar/\KF w W P B ob/\Bu Y (J.at_ i)/\Ao J/\i<J.runs.length/\(J.at_ i).st=1/\Y.within/\Y.b=b:=by
    obtain⟨h,wk,hi,hk,Q,hT,M,K,Z,G,H,C,D,A,X,V,E,hn,I,m,F,N⟩:=HH.o;obtain⟨m1,m2,m3,m4,m5⟩:=R.o;obtain⟨n1,n2,n3⟩:=br.o;have u:=m2.FP (k:=k) (j:=7) (f:=fun n=>{ n with st:=6 }) (v:=.int .i64 6) (by omega) (by omega) rfl ⟨rfl,rfl,rfl⟩;have hf:=Dm.EA w2 r.b r.ng (k * 10+7) (.int .i64 6);rw[<-O.o.2] at u hf;have u:=u.drew;have S:=hf.drew;rw[<-az] at u S;rw[<-bo] at u;have fj:=A.Mh X hk 6;have au:J.runs=(e.Af i k (fun s=>{ s with st:=6 })).runs:=by rw[ar]
    have fm:=Zbf au hi;rw[if_pos rfl] at fm;have aw:=Zba au hi
    have dj:Ao J:=by
     rw[ar];refine wk.over hi hk 6 (by omega) (by omega) (fun _=> ?_);have aj:=cy.o;have:=(m.steps k hk).Xv;rw[n3,n1.bu] at aj;omega
    have fg:(J.at_ i).st=1:=by rw[aw.2.2.1];exact X
    have fy:i<J.runs.length:=by rw[Za9 au];exact hi
    have de:Bu Y (J.at_ i):=by rw[fm,bo];exact fj
    have L:=dj.runs i fy;refine⟨u,m1.run C u (by rw[bo,<-V];rfl) (by rw[bo,<-V];rfl) (by rw[<-V,<-O.o.2];exact S),(m4.trans (KF.IU m2 (by rw[<-O.o.2];exact S) F.1) (As.refl _ _)),de,dj,fy,fg,de.within fg L.fl L.len,by rw[bo];exact O.o.1.symm⟩
   have H3:=Zz Q;have ax:=WM W B Y Q.1 Q.2.2.2.2.2.2.2.1;rw[Q.2.2.2.2.2.2.2.2] at ax;have dr:=Zz ax
   have al:∀w4 r4,TZ Y r4->r4.shut->AR qh w4 B r4->Dm W w4 b Y.ng->Calls prog 155 #[.pointer (some ⟨P,4,none⟩),.pointer (some ⟨b,0,none⟩)] w4 fun x w'=>x=.returned (.tuple #[])/\∃bh l' bf,Ch qh w' P B bf (e.AH i k) bh l'/\BQ rs bh/\Bf (e.AH i k) l'/\KF w w' P B ob/\As w ob bf:=by
    intro w4 r4 gp jb j9 fv;obtain⟨h,wk,hi,hk,Q,hT,M,K,Z,G,H,C,D,A,X,V,E,hn,I,m,F,N⟩:=HH.o;obtain⟨q1,q2,q3,q4,q5,q6,q7,q8,q9⟩:=H3.o;obtain⟨m1,m2,m3,m4,m5⟩:=R.o;obtain⟨n1,n2,n3⟩:=br.o;have aj:¬((e.at_ i).at_ k).tries<(e.at_ i).fl.bu k:=by have:=cy.o;rw[n3,n1.bu] at this;exact this
    have au:J.runs=(e.Af i k (fun s=>{ s with st:=6 })).runs:=by rw[ar]
    have L:=q5.runs i q6;obtain⟨d2,hd,fh⟩:=gp.is q4 q7 L.fl L.len;have aw:=hd.same;have ep:Shut d2:=jb.is fh (by rw[aw.2.2.1];exact q7) (by rw[aw.2.1];exact L.fl) (by rw[hd.len,aw.2.1];exact L.len);obtain⟨s1,s2⟩:=Zed (J.at_ i);have j0:d2=Ag.BN (J.at_ i).steps.length (J.at_ i):=hd.uniq s1 ep s2;have dy:=Gf (e:=e) (i:=i) (k:=k) hi aj;rw[<-ar] at dy;have hlen:(e.at_ i).steps.length=(J.at_ i).steps.length:=(Zcb au hi).symm;rw[hlen,<-j0] at dy;have p:=gp.same;have gv:Ao (J.AL i (fun _=>d2)):=hd.wk q5 q6 rfl;have j6:i<(J.AL i (fun _=>d2)).runs.length:=by rw[Zbk];exact q6
    have fq:(J.AL i (fun _=>d2)).at_ i=d2:=by rw[Zbr J i i _ q6,if_pos rfl]
    have bj:i<(rs.set i Y).length:=by rw[QAo];exact C
    have ay:Am (rs.set i Y) i=Y:=by rw[Zdi C C,if_pos rfl]
    have cq:=DR (r:=Y) (e:=e) (e':=J) (f:=fun d=>d.Af k (fun s=>{ s with st:=6 })) h.len h.runs hi (by rw[ar];rfl) (by rw[bo];exact A.Mh X hk 6);have cr:=DR (e:=J) (e':=J.AL i (fun _=>d2)) (f:=fun _=>d2) cq.1 cq.2 q6 rfl fh;have gz:=q2.run bj (r':=r4) j9 (by rw[ay];exact p.1) (by rw[ay];exact p.2.2.2.1) (by rw[ay,q9];exact fv)
    have iw:Ch qh w4 P B ob (J.AL i (fun _=>d2)) ((rs.set i Y).set i r4) l1:=by
     refine⟨⟨el,now,?_,?_,?_⟩,cr.1,cr.2⟩
     .rw[ar];exact gz
     .rw[ar];exact G
     .refine (H.same (e':=J) (Za9 au) (fun j hj=>by have:=Zba au hj;exact⟨this.1,this.2.2.2.2.2⟩)).same (Zbk J i _) (fun j hj=> ?_)
      rw[Zbr J i j _ hj];by_cases c:i=j
      .subst c;rw[if_pos rfl];exact⟨aw.1,aw.2.2.2.2.2⟩
      .rw[if_neg c];exact⟨rfl,rfl⟩
    have iu:Bf (J.AL i (fun _=>d2)) l1:=by
     rw[Zbc];refine⟨m5.1,fun t=> ?_⟩;rw[PK q6 hd,m5.2.2.2,Zdt wk hi hk au];constructor
     .exact fun g=>Zu g
     .rintro (g | ⟨_,⟨g,_⟩ | ⟨g,_⟩ | ⟨g,_⟩⟩)
      .exact g
      .cases g
      .cases g
      .cases g
    have iy:(Am ((rs.set i Y).set i r4) i).b=b:=by
     rw[Zdi bj bj,if_pos rfl,p.1,q9]
    have hc:=IM w4 P B ob (J.AL i (fun _=>d2)) ((rs.set i Y).set i r4) l1 i iw gv j6 (by rw[fq,aw.2.2.1];exact q7) iu (by rw[ar];exact K);rw[iy,<-dy] at hc;refine hc.mono ?_;rintro x w5 ⟨rfl,bh,l',bf,p1,p2,p3,p4,p5⟩
    have ei:BQ rs ((rs.set i Y).set i r4):=by
     refine⟨by rw[QAo,QAo],fun j hj=> ?_⟩;rw[Zdi bj (by rw[QAo];exact hj),Zdi C hj];by_cases c:i=j
     .subst c;rw[if_pos rfl,p.1,q9,<-V];exact O.o.1
     .rw[if_neg c,if_neg c]
    have dh:KF W w4 P B ob:=KF.IU (r:=Y) q1 (by rw[q9];exact fv) F.1;refine⟨rfl,bh,l',bf,p1,ei.trans p2,p3,((q3.trans dh (As.refl _ _)).trans p4 (As.refl _ _)),fun z hz=> ?_⟩;rcases p5 z hz with g | g
    .exact Zu g
    .right;have:=q3.size;have:=dh.size;omega
   have bw:=Zz al;clear Q ax al y0 y1 y2 y3 y4 y5 y6 y7 y8 y9 f7 az aj
   go_wp2_with (first
    | (go_at_call 227;refine dr.o.mono ?_;rintro _ w4 ⟨rfl,hx⟩;have HX:=Zz hx;clear hx)
    | (go_at_call 155;refine (bw.o w4 HX.o.choose HX.o.choose_spec.1 HX.o.choose_spec.2.1 HX.o.choose_spec.2.2.1 HX.o.choose_spec.2.2.2).mono ?_;rintro _ w5 ⟨rfl,hy⟩;have HY:=Zz hy;clear hy))
   go_end0
   exact⟨rfl,HY.o⟩
def Mr (e:Ab)(d:CL)(l:List Tm):Prop:=Bo l/\∀t,t∈l↔BH e t/\t.id≠(e.DT d).id
theorem Mr.toE (h:Mr e d l)(hn:d.k=none):XL e d.i l:=by
 refine⟨h.1,fun t a=>((h.2 t).1 a).1,fun t a c=>(h.2 t).2 ⟨a,fun b=>c ⟨-1,0,by omega,by omega,?_⟩⟩⟩;rw[b];unfold Ab.DT Ab.kindOf EV;rw[hn]
theorem Mr.toW (wk:Ao e)(h:Mr e d l)(hn:d.k=some k)(hi:d.i<e.runs.length)(hk:k<(e.at_ d.i).steps.length)(o:((e.at_ d.i).at_ k).st=4)(f:d.sign=false):Mt e d.i [k] l:=by
 have c:(e.DT d).id=Bc (e.at_ d.i).id k 3:=by
  unfold Ab.DT Ab.kindOf EV;rw[hn];simp[o,f]
 refine⟨h.1,fun t=> ?_⟩;rw[h.2,c];constructor
 .rintro⟨a,b⟩
  refine⟨a,fun m hm p=> ?_⟩;rw[QDd] at hm;subst hm;rcases (a.node wk hi hk p).2 with⟨g,_⟩ | ⟨_,g⟩ | ⟨g,_⟩
  .omega
  .exact b (by rw[g])
  .omega
 .rintro⟨a,b⟩
  exact⟨a,fun j=>b k (List.mem_singleton.2 rfl) ⟨3,by omega,by omega,j⟩⟩
theorem Mr.toN (h:Mr e d l)(hn:d.k=some k)(c:((e.at_ d.i).at_ k).st=3):Ul e d.i k l:=by
 refine⟨h.1,fun t a=>((h.2 t).1 a).1,fun t a f=>(h.2 t).2 ⟨a,fun b=>f ?_⟩⟩
 have:(e.DT d).id=Bc (e.at_ d.i).id k (if d.sign then 2 else 1):=by
  unfold Ab.DT Ab.kindOf EV;rw[hn];simp[c]
 rw[this] at b;exact⟨if d.sign then 2 else 1,by split<;>omega,by split<;>omega,b⟩
theorem Qh (wk:Ao e)(c:BV e d){r nd q:Int}(hk:BL r nd q (e.DT d).id):r=(e.at_ d.i).id/\nd=EV d.k/\q=e.kindOf d:=by
 obtain⟨hi,g,a⟩:=c;have b:=wk.IS hi
 have hn: -1<=EV d.k/\EV d.k<15:=by
  cases h:d.k with
  | none=>exact⟨by decide,by decide⟩
  | some k =>
   rw[h] at a;have:=a.1;show -1<=(k:Int)/\(k:Int)<15;omega
 have f:0<=e.kindOf d/\e.kindOf d<4:=by
  unfold Ab.kindOf
  split
  .exact⟨by decide,by decide⟩
  .split
   .exact⟨by decide,by decide⟩
   .split<;>exact⟨by decide,by decide⟩
 have:=DI (hk.e.symm.trans rfl) ⟨hk.n0,hk.n1⟩ hn ⟨hk.q0,hk.q1⟩ f;exact this
theorem US (wk:Ao e)(hl:rs.length=e.runs.length)(hi:∀i,i<e.runs.length->Bu (Am rs i) (e.at_ i))(h:i<e.runs.length):JL rs (e.at_ i).id=some i :=
 Gg (by omega) (hi i h).id (fun j a x=>by
  have:=wk.Cy (by omega) h ((hi j (by omega)).id.symm.trans x);omega)
theorem MF (a:e.time=d.tm)(hn:d.k=none):e.At d=e.end_ d.i 5:=by
 have:({ e with time:=max e.time d.tm }:Ab)=e:=by rw[<-a,Int.max_self]
 unfold Ab.At;simp only;rw[this,hn]
theorem GM (a:e.time=d.tm)(hn:d.k=some k):e.At d=if ((e.at_ d.i).at_ k).st=4 then e.ready d.i k else e.AH d.i k:=by
 have:({ e with time:=max e.time d.tm }:Ab)=e:=by rw[<-a,Int.max_self]
 unfold Ab.At;simp only;rw[this,hn]
theorem Ox (w:World)(P B:Nat)(ob:Option Nat)(e:Ab)(rs:List Aq)(l:List Tm)(d:CL)(r nd q at_:Int)(h:Ch qh w P B ob e rs l)(wk:Ao e)(hd:BV e d)(R:e.time=d.tm)(Q:Mr e d l)(hk:BL r nd q (e.DT d).id)(ae:e.Ah<18446744073709551616)(au:0<=e.Ar/\e.Ar<18446744073709551616) :
  Calls prog 160 #[.pointer (some ⟨P,4,none⟩),.agg #[.int .u64 r,.int .i64 nd,.int .i64 q],.int .u64 at_] w fun x w'=>x=.returned (.tuple #[])/\∃p T f,Ch qh w' P B f (e.At d) p T/\BQ rs p/\Bf (e.At d) T/\KF w w' P B ob/\As w ob f:=by
 obtain⟨kr,kn,S⟩:=Qh wk hd hk;have N:=hd;obtain⟨hi,X,A⟩:=hd;obtain⟨u,G⟩:∃u,u=w.alloc (.cells #[.int .u64 r,.int .i64 nd,.int .i64 q] 288):=⟨_,rfl⟩;obtain⟨bx,M⟩:∃bx,bx=w.heap.size:=⟨_,rfl⟩;have aj:=Zz (show Dj u bx r nd q by rw[G,M];exact GA w r nd q);have L:ZY w u:=by rw[G];exact ZV.alloc ZU _
 have C:=Zz (h.below L);have V:=Zz L;obtain⟨el,now,hM,aw,ar⟩:=C.o.ex;obtain⟨ka,kc,Z⟩:=hM.kn;have s:=GK u P B kc ka rs r Z;rw[kr,US wk h.len h.runs hi] at s
 have v:Calls prog 157 #[.pointer (some ⟨P,4,none⟩),.int .u64 r] u fun e w'=>e=.returned (.pointer (some ⟨(Am rs d.i).b,0,none⟩))/\w'=u:=by
  rw[kr];exact s
 have J:=Zz v
 have Y:∀(w':World) (f:Option Nat),KF u w' P B ob->As u ob f->KF w w' P B ob/\As w ob f:=fun w' f g1 g2=>⟨(KF.Ae P B ob V.o).trans g1 (As.refl _ _),fun z hz=>by
  rcases g2 z hz with h | h
  .exact Zu h
  .right;have:=V.o.size;omega⟩
 have K:=Zz Y;have y:=Zz (Zq M G);clear Y s v Z hM aw ar h M G L;obtain⟨⟨z0,z1⟩,z2⟩:=aj.o
 cases a:d.k with
 | none =>
  have HH:=Zz (MF R a);obtain rfl:q=0:=by rw[S];unfold Ab.kindOf;rw[a]
  have HE:=Zz (JX u P B ob e rs l d.i 5 C.o wk hi X (by omega) (Q.toE a) ae);clear R a kr kn S N A hi X Q hk
  go_enter func160,ntmps160
  go_upto_region 1 with fail
  rw[<-y.o.1,<-y.o.2]
  go_wp2_with (first
   | (go_at_call 157;refine J.o.mono ?_;rintro _ U ⟨rfl,E⟩;rw[E])
   | (go_at_call 158;refine HE.o.mono ?_;rintro _ w2 ⟨rfl,I⟩;have W:=Zz I;clear I))
  go_end0
  obtain⟨p,T,f,q1,q2,q3,q4,q5⟩:=W.o;rw[HH.o];exact⟨rfl,p,T,f,q1,q2,q3,K.o _ _ q4 q5⟩
 | some k =>
  rw[a] at A;obtain⟨D,A⟩:=A;have ag:nd=(k:Int):=by rw[kn,a];rfl
  have H:=wk.IS hi;by_cases F:((e.at_ d.i).at_ k).st=4
  .have HH:=Zz (show e.At d=e.ready d.i k by rw[GM R a,if_pos F])
   have O:d.sign=false:=by
    unfold AO.due at A
    split at A
    .omega
    .rename_i c;simpa using c
   obtain rfl:q=3:=by rw[S];unfold Ab.kindOf;rw[a];simp[F,O]
   have HR:=Zz (fun (U:World) (g c:Nat) (hb:ZY u U) (hc:1<=c) (hg:g≠P) (hh:U.heap[g]? =some (.cells #[.int .i64 (k:Int)] 3 (0,0))) =>
    Ka U P B ob e rs l d.i c (some ⟨g,0,none⟩) [k] (C.o.below hb) wk hi X ⟨by simp,fun m hm=>by rw[QDd] at hm;subst hm;exact⟨D,Zj F⟩⟩ (Q.toW wk a hi D F O) (Zj ⟨g,_,rfl,hg,hc,hh,fun j hj=>by
     obtain rfl:j=0:=by simpa using hj
     rfl⟩))
   have al:=Zz (show P<u.heap.size by obtain⟨_,_,hM,_⟩:=C.o.ex;exact hM.pl);clear R a kr kn S N A hi X Q hk D F O H;subst ag
   go_enter func160,ntmps160
   go_upto_region 1 with fail
   rw[<-y.o.1,<-y.o.2]
   go_wp2_with (first
    | (go_at_call 157;refine J.o.mono ?_;rintro _ U ⟨rfl,E⟩;rw[E])
    | (go_at_call 153;refine (HR.o _ u.heap.size 1 (ZV.alloc ZU _) ZU (by have:=al.o;omega) (QFm u _)).mono ?_;rintro _ w2 ⟨rfl,I⟩;have W:=Zz I;clear I))
   go_end0
   obtain⟨p,q1,q2,q3,q4,q5,q6⟩:=W.o;rw[HH.o];exact⟨rfl,p,l,ob,q1,q2,q3,K.o _ _ ((KF.Ae P B ob (ZV.alloc ZU _)).trans q6 (As.refl _ _)) (As.refl _ _)⟩
  .have HH:=Zz (show e.At d=e.AH d.i k by rw[GM R a,if_neg F])
   have h3:((e.at_ d.i).at_ k).st=3:=by
    unfold AO.due at A
    split at A
    .exact A.1
    .exact A.1.resolve_right F
   have HF:=Zz (LO u P B ob e rs l d.i k C.o wk hi D h3 (Q.toN a h3) ae au)
   have hq:q=1\/q=2:=by
    rw[S];unfold Ab.kindOf;rw[a];simp only
    split
    .exact Zj rfl
    .first | exact Zu rfl | (rw[if_neg F];exact Zu rfl)
   clear R a kr kn S N A hi X Q hk D F H h3;subst ag;rcases hq with rfl | rfl
   all_goals
    go_enter func160,ntmps160
    go_upto_region 1 with fail
    rw[<-y.o.1,<-y.o.2]
    go_wp2_with (first
     | (go_at_call 157;refine J.o.mono ?_;rintro _ U ⟨rfl,E⟩;rw[E])
     | (go_at_call 156;refine HF.o.mono ?_;rintro _ w2 ⟨rfl,I⟩;have W:=Zz I;clear I))
    go_end0
    obtain⟨p,T,f,q1,q2,q3,q4,q5⟩:=W.o;rw[HH.o];exact⟨rfl,p,T,f,q1,q2,q3,K.o _ _ q4 q5⟩
open Go.RowKit
theorem GC:∀(f x:Nat),0<x->x<2 ^ f->QIw f x<f/\x.testBit (QIw f x)=true/\∀j,j<QIw f x->x.testBit j=false
 | 0,x,h0,h=>by simp at h;omega
 | f+1,x,h0,h=>by
  unfold QIw;by_cases e:x % 2=1
  .rw[if_pos e]
   exact⟨by omega,by simp[Nat.testBit_zero,e],fun j c=>by omega⟩
  .rw[if_neg e]
   have hp:2 ^ (f+1)=2 * 2 ^ f:=by rw[Nat.pow_succ];omega
   obtain⟨g,a,b⟩:=GC f (x / 2) (by omega) (by omega);refine⟨by omega,by rw[Nat.add_comm,Nat.testBit_succ];exact a,fun j c=> ?_⟩
   cases j with
   | zero=>simp[Nat.testBit_zero,e]
   | succ j=>rw[Nat.testBit_succ];exact b j (by omega)
theorem UF (x:Nat)(a:x≠0)(h:x<18446744073709551616):QIv 64 x<64/\x.testBit (QIv 64 x)=true/\∀j,j<QIv 64 x->x.testBit j=false:=by
 unfold QIv;rw[if_neg a];exact GC 64 x (by omega) (by omega)
theorem fst_of {L s:Nat}(hw:Words wd (Zai n l))(h:FstW wd L s true):L<11/\s<64/\ZN n l (L * 64+s):=by
 rcases h with⟨h,_⟩ | ⟨_,f,m,b,rfl⟩
 .cases h
 .obtain⟨g,c⟩:=hw L f
  obtain⟨c1,c2,c3⟩:=UF (wd L) b g;refine⟨f,c1,fun j o=> ?_,(c _ c1).1 c2⟩;by_cases e:j / 64=L
  .have hb:=(c (j % 64) (by omega))
   rw[show L * 64+j % 64=j by omega] at hb;have:=c3 (j % 64) (by omega);rw[this] at hb;by_cases a:Zai n l j=[]
   .exact a
   .exact absurd (hb.2 a) (by simp)
  .have hb:=((hw (j / 64) (by omega)).2 (j % 64) (by omega))
   rw[show j / 64 * 64+j % 64=j by omega,m (j / 64) (by omega)] at hb;by_cases a:Zai n l j=[]
   .exact a
   .exact absurd (hb.2 a) (by simp)
theorem YJ {L s:Nat}(hw:Words wd (Zai n l))(b:CR n l)(hn:n<=4611686018427387904)(h:FstW wd L s false):l=[]:=by
 rcases h with⟨_,_,_,c⟩ | ⟨h,_⟩
 .refine no_fst b hn (fun j f=> ?_)
  have hb:=((hw (j / 64) (by omega)).2 (j % 64) (by omega));rw[show j / 64 * 64+j % 64=j by omega,c (j / 64) (by omega)] at hb;by_cases a:Zai n l j=[]
  .exact a
  .exact absurd (hb.2 a) (by simp)
 .cases h
def Tf (n:Nat)(l:List Tm)(k:Nat):List Tm:=l.filter (fun t=>pl n t.tm.toNat == k)
theorem OK (n:Nat)(l:List Tm)(k:Nat):Zai n l k=(Tf n l k).map (·.id):=rfl
theorem MN (hi:i<(Tf n l k).length):∃j,j<l.length/\l.getD j .z=(Tf n l k).getD i .z/\pl n ((Tf n l k).getD i .z).tm.toNat=k:=by
 have h:=Zcf hi;obtain⟨a,b⟩:=List.mem_filter.1 h;obtain⟨j,c,e⟩:=Qs a;exact⟨j,c,e,by simpa using b⟩
theorem CZ.onward {f:Int}{c:Ab}(h:CZ f { e with time:=t } c)(m:e.time<=t)(g:∀d,BV e d->t<=d.tm):CZ f e c:=by
 obtain⟨e',a⟩:∃e',e'=({ e with time:=t }:Ab):=⟨_,rfl⟩;rw[<-a] at h
 cases h with
 | none _ hn=>subst a;exact .none e hn
 | step _ _ b hb hle j =>
  subst a;refine .step e c b hb hle ?_;have o:=g _ (Zeu (e:=e) hb).1
  have:({ e with time:=t }:Ab).At (e.AS.getD b .z)=e.At (e.AS.getD b .z):=by
   unfold Ab.At;have:max t (e.AS.getD b .z).tm=max e.time (e.AS.getD b .z).tm:=by omega
   simp only;rw[this]
   rfl
  rw[<-this];exact j
theorem MG (e:Ab)(d:CL):(e.At d).time=max e.time d.tm/\(e.At d).Ah=e.Ah/\(e.At d).Ar=e.Ar:=by
 unfold Ab.At
 split
 .exact⟨rfl,rfl,rfl⟩
 .split
  .exact⟨rfl,rfl,rfl⟩
  .unfold Ab.AH
   simp only
   split
   .exact⟨rfl,rfl,rfl⟩
   .unfold Ab.settle
    split
    .exact⟨rfl,rfl,rfl⟩
    .exact⟨rfl,rfl,rfl⟩
theorem RO {n:Nat}(hn:n<=4611686018427387904):∀l:List Tm,CR n l->todo n l<=l.length * 704
 | [],_=>by simp[todo]
 | t::r,h=>by
  have b:=RO hn r (fun x a=>h x (by simp[a]));have c:=(h t (by simp));have f:=Ws n t.tm.toNat hn (by omega);simp only[todo,List.length_cons,Nat.add_mul];omega
theorem Ch.time (h:Ch qh w P B ob e rs l):∃now:Nat,e.time=(now:Int)/\Bh w P B Ck now l:=by
 obtain⟨el,now,a,b,_⟩:=h.ex;exact⟨now,b,a.wh⟩
theorem Ab.QN (e:Ab)(h:e.time=t):({ e with time:=t }:Ab)=e:=by rw[<-h]
theorem Ch.Dh (h:Ch qh w P B ob e rs l)(hf:PF w w' P B Ck){m:Nat}{a:List Tm}(hw:Bh w' P B Ck m a):Ch qh w' P B ob { e with time:=(m:Nat) } rs a:=by
 obtain⟨el,now,b,j,is,c,f,g⟩:=h.ex;exact⟨⟨el,m,b.Dh hf hw,rfl,is,c,f,g⟩,h.len,h.runs⟩
theorem Bh.KI {m:Nat}{K:Nat->Prop}(h:Bh w P B K n l)(hp:∀t∈l,pl m t.tm.toNat=pl n t.tm.toNat)(g:CR m l)(hm:m<=4611686018427387904):Bh (w.setCell ⟨P,11,none⟩ (.int .u64 m)) P B K m l:=by
 obtain⟨f,BF,wd,b,a,hw⟩:=h.mem;have e:Zai m l=Zai n l:=by funext j;exact Hd hp j
 refine⟨⟨f,BF,wd,by rw[e];exact b.KI m,a.kept (fun k es c hk _=>Zl w ⟨P,11,none⟩ _ k (by simp;have:=b.pb;omega)),by rw[e];exact hw⟩,hm,h.Br,g,h.ids,h.apart⟩
theorem Bf.NH (h:Bf e l)(b:∀x∈l,t<=x.tm):∀d,BV e d->t<=d.tm:=fun d a=>b _ (h.all d (Zas.2 a))
theorem Bf.drop_ (h:Bf e l)(a:Bk l){b:Nat}(hb:b<l.length)(c:e.DT d=l.getD b .z):Mr e d (l.take b++l.drop (b+1)):=by
 rw[Zbc] at h;refine⟨h.1.cut hb,fun t=> ?_⟩;rw[Rl hb a,h.2,c]
open Go.RowKit
attribute [local go_sem ↓] Go.wp_at_zero Go.wp_at_succ
structure Po (qh:Nat)(w:World)(P B:Nat)(ob:Option Nat)(e:Ab)(rs:List Aq)(tt n:Nat)(ej:Ab)(rj:List Aq)(lj:List Tm)(oj:Option Nat)(wr:World):Prop where
 x:Ch qh wr P B oj ej rj lj
 TL:Bf ej lj
 ok:Aj ej
 now:ej.time=(n:Int)
 le:n<=tt
 goes:∀e2,CZ tt ej e2->CZ tt e e2
 sb:BQ rs rj
 kf:KF w wr P B ob
 LV:As w ob oj
 Ix:AP wr
 lr:ej.Ah=e.Ah
 sd:ej.Ar=e.Ar
theorem AP.at_ (h:AP w)(hf:w'.heap[2]? =w.heap[2]?):AP w':=fun j b=>(World.cell?_of_block (a:=⟨2,j,none⟩) hf).trans (h j b)
theorem AP.kf (h:AP w)(hf:KF w w' P B ob)(a:2<B)(b:2≠P):AP w' :=
 h.at_ (hf.block _ (World.block_lt_of_cell? _ _ (h 0 (by decide))) b (Zu a))
theorem Po.Dh {wr:World}{g:Option Nat}{o:Ab}{p:List Aq}{j m:Nat}{c:List Tm}(h:Po qh w P B ob e rs j n o p c g wr)(hf:PF wr w' P B Ck)(hw:Bh w' P B Ck m c)(v:n<=m)(r:m<=j)(y:m<=4611686018427387904)(u:∀x∈c,(m:Int)<=x.tm)(s:2<B)(f:2≠P):Po qh w P B ob e rs j m { o with time:=(m:Nat) } p c g w':=by
 have a:=h.TL.NH u;have b:=KF.DL hf g;exact⟨h.x.Dh hf hw,h.TL.same rfl,h.ok.Fi (by rw[h.now];omega) (by omega) a,rfl,r,fun q he=>h.goes q (he.onward (by rw[h.now];omega) a),h.sb,h.kf.trans b h.LV,h.LV,h.Ix.kf b s f,h.lr,h.sd⟩
theorem MH (w:World)(P B:Nat)(ob:Option Nat)(e:Ab)(rs:List Aq)(l:List Tm)(u:Int)(h:Ch qh w P B ob e rs l)(hT:Bf e l)(ok:Aj e)(fe:AP w)(hG:2<B)(bh:2≠P)(h0:0<=u)(h1:u<18446744073709551616)(kx:e.Ah<18446744073709551616)(l9:0<=e.Ar/\e.Ar<18446744073709551616) :
  Calls prog 159 #[.pointer (some ⟨P,11,none⟩),.int .u64 u,.func (.func 160) #[.pointer (some ⟨P,4,none⟩)] #[]] w fun x w'=>x=.returned (.tuple #[])/\∃e2 jy l' jx,BR e u e2/\Ch qh w' P B jx e2 jy l'/\BQ rs jy/\Bf e2 l'/\KF w w' P B ob/\As w ob jx:=by
 obtain⟨now,dp,A⟩:=h.time;obtain⟨Y,au⟩:∃Y:Nat,e.Hm u=(Y:Int):=⟨(e.Hm u).toNat,by have:=A.MU;unfold Ab.Hm;split<;>omega⟩;have js:now<=Y:=by have:=A.MU;unfold Ab.Hm at au;split at au<;>omega
 have ep:Y<=4611686018427387904:=by have:=A.MU;unfold Ab.Hm at au;split at au<;>omega
 have e1:IntKind.u64.wrap (4611686018427387904 - (now:Int))=4611686018427387904 - (now:Int):=by have:=A.MU;rw[IntKind.wrap_u64];omega
 have e2:IntKind.u64.wrap ((now:Int)+min u (4611686018427387904 - (now:Int)))=(Y:Int):=by
  have:=A.MU;rw[IntKind.wrap_u64,<-au];unfold Ab.Hm;rw[dp]
  split<;>omega
 have c0:=A.VR;have j6:=Zz (show Po qh w P B ob e rs Y now e rs l ob w from⟨h,hT,ok,dp,js,fun _ h=>h,BQ.refl _,KF.refl _ _ _ _,As.refl _ _,fe,rfl,rfl⟩);have j8:=Zz au;clear h hT ok fe A dp au
 go_enter func159,ntmps159
 go_wp2_with fail
 go_region
 all_goals
  have k9:Hid (Po qh w P B ob e rs Y now e rs l ob w.drew):=Zz (by
   have hI:=j6.o;have hb:ZY w w.drew:=ZV.drew;exact { hI with x:=hI.x.below hb,kf:=KF.Ae P B ob hb,Ix:=fun j hj=>hI.Ix j hj })
  clear c0 e1 e2;go_wp2_with fail
  go_loopg [7] (e.load * 200000+todo now l) (fun gk _ wr=>∃(n:Nat) (ej:Ab) (rj:List Aq) (f:List Tm) (oj:Option Nat),gk=ej.load * 200000+todo n f/\Po qh w P B ob e rs Y n ej rj f oj wr)
  case atStart=>exact⟨now,e,rs,l,ob,rfl,k9.o⟩
  case round =>
   obtain⟨n,ej,rj,f,oj,rfl,hrel⟩:=hrel;have T:=Zz hrel;clear hrel
   have A:Bh wr P B Ck n f:=by
    obtain⟨n',q1,q2⟩:=T.o.x.time;obtain rfl:n=n':=by have:=T.o.now;omega
    exact q2
   have N:=Zz A;obtain⟨jd,im,iu,gw,cz,gz⟩:=A.mem;have fh:=SF wr P B Ck n jd im (Zai n f) iu gw (fun j hj=>(gz j hj).1) T.o.Ix;have HF:=Zz fh;have M:=Zz (Zq gw (Zq cz gz));have ky:=A.MU;have ar:=T.o.le;clear A gw cz gz fh
   go_upto_region 2 with (go_at_call 231;refine HF.o.mono ?_;rintro e w1 ⟨L,s,ok,rfl,dc,ld⟩;rw[ld])
   have lu:=Zz dc;have c0:=M.o.1.c0;have f0:=M.o.1.fz 11
   cases ok with
   | false =>
    have dj:=Zz (YJ M.o.2.2 N.o.later ky dc);clear dc;go_wp2_with fail
    refine QEz (QIu rfl _ _ _) rfl ?_;have hl:=dj.o;subst hl;have hR:=T.o.Dh (PF.Bv wr P B Ck 11 (.int .u64 Y) (by omega)) (N.o.KI (m:=Y) (fun t Z=>by cases Z) (fun t Z=>by cases Z) ep) ar ZU ep (fun x hx=>by cases hx) hG bh;refine⟨rfl,{ ej with time:=(Y:Nat) },rj,[],oj,?_,hR.x,hR.sb,hR.TL,hR.kf,hR.LV⟩;unfold BR;rw[j8.o];refine hR.goes _ (.none _ (fun b hb=> ?_));have:=hR.TL.none rfl;rw[this] at hb
    cases hb
   | true =>
    obtain⟨je,fs,ei⟩:=fst_of M.o.2.2 dc;obtain⟨k,hk⟩:∃k,k=L * 64+s:=⟨_,rfl⟩;obtain⟨st,du⟩:∃st,st=start n k:=⟨_,rfl⟩;rw[<-hk] at ei;obtain⟨b1,b2,b3⟩:=SN N.o.later ei;rw[<-du] at b1 b2 b3;have S:∀wx:World,wx.cell? ⟨P,11,none⟩=some (.int .u64 n)->Calls prog 232 #[.pointer (some ⟨P,11,none⟩),.int .i64 L,.int .i64 s] wx fun e w'=>e=.returned (.int .u64 (start n (L * 64+s)))/\∃q,w'=wx.drewN q:=fun wx cx=>TH wx P n L s cx (by omega) (by omega) fs (by rw[<-hk,<-du];omega)
    rw[<-hk,<-du] at S;have gm:=Zz S;have G:=Zz (Zq ei (Zq b3 (Zq hk du)));clear dc ei b3 hk du S;by_cases h2:Y<st
    .go_wp2_with (go_at_call 232;refine (gm.o wr c0).mono ?_;rintro e w2 ⟨rfl,q,rfl⟩)
     refine QEz (QIu rfl _ _ _) rfl ?_;have hS:=G.o;have eg:ZY wr (wr.drewN q):=below_drewN wr q;have ll:Bh (wr.drewN q) P B Ck n f:=N.o.Ak eg;have hR:=T.o.Dh ((PF.Ae eg).trans (PF.Bv _ P B Ck 11 (.int .u64 Y) (by omega))) (ll.KI (m:=Y) (fun t Z=>TT hS.1 ar (by rw[<-hS.2.2.2];exact h2) Z) (fun t Z=>⟨by have:=hS.2.1 t Z;omega,(N.o.later t Z).2⟩) ep) ar ZU ep (fun x hx=>by have:=hS.2.1 x hx;omega) hG bh;refine⟨rfl,{ ej with time:=(Y:Nat) },rj,f,oj,?_,hR.x,hR.sb,hR.TL,hR.kf,hR.LV⟩;unfold BR;rw[j8.o];refine hR.goes _ (.none _ (fun b hb=> ?_));have:=hR.TL.NH (t:=st) hS.2.1 _ (Zeu hb).1;omega
    .have g1:decide ((Y:Int)<(st:Int))=false:=decide_eq_false (by omega)
     go_upto_region 4 with (go_at_call 232;refine (gm.o wr c0).mono ?_;rintro e w2 ⟨rfl,q,rfl⟩)
     have eg:ZY wr (wr.drewN q):=below_drewN wr q
     go_upto_region 5 with (go_at_call 232;refine (gm.o (wr.drewN q) c0).mono ?_;rintro e w3 ⟨rfl,q2,rfl⟩)
     have cm:ZY wr (wr.drewN (q+q2)):=below_drewN wr _;have ae:=Zz ((M.o.1.Ak cm).KI st);have jz:Hid (NB ((wr.drewN (q+q2)).setCell ⟨P,11,none⟩ (.int .u64 st)) B jd f):=Zz (M.o.2.1.kept (fun k es c hk e=>(Zl (wr.drewN (q+q2)) ⟨P,11,none⟩ _ k (by simp;have:=M.o.1.pb;omega)).trans rfl));have gh:Hid (PF wr ((wr.drewN (q+q2)).setCell ⟨P,11,none⟩ (.int .u64 st)) P B Ck):=Zz ((PF.Ae cm).trans (PF.Bv _ P B Ck 11 _ (by omega)));clear eg cm c0 f0
     generalize (wr.drewN (q+q2)).setCell ⟨P,11,none⟩ (.int .u64 st)=w5 at *
     have aj:k<704:=by have:=G.o.2.2.1;omega
     rcases jz.o with⟨_,dj⟩ | ⟨bm,D,rfl,gq,hm,hD⟩
     .exfalso
      exact G.o.1.2 (by rw[dj];rfl)
     have dy:=Zz (Zq hm hD);have bw:=N.o.apart;have V:=N.o.ids;have ay:=N.o.later;have db:=N.o.Br;clear hm hD;by_cases ee:L=0
     .obtain⟨b,hb,C,bp,ju,r0,bf,_⟩:=Yo ay G.o.1 (by have:=G.o.2.2.1;omega)
      rw[<-G.o.2.2.2] at bp
      have I:Zai st f=Zai n f:=by
       funext j
       exact Hd (fun t Z=>by rw[G.o.2.2.2];exact VD G.o.1 (by have:=G.o.2.2.1;omega) Z) j
      obtain⟨id,U⟩:∃x,x=(f.getD b .z).id:=⟨_,rfl⟩;obtain⟨r,nd,qk,W⟩:∃r nd qk,BL r nd qk id:=⟨_,_,_,BL.of (by rw[U];exact V b hb)⟩;obtain⟨i,hi,dd,de,hcut⟩:=Fc (n:=st) (tn:=st) hb bw (by omega);rw[<-U] at dd de bf;have gx:=ae.o;rw[<-I] at gx;have fv:Bh w5 P B Ck st f:=⟨⟨_,im,iu,gx,Zj ⟨bm,D,rfl,gq,dy.o⟩,by rw[I];exact M.o.2.2⟩,b2,db,fun t Z=>⟨G.o.2.1 t Z,(ay t Z).2⟩,V,bw⟩;have ez:=Zz fv;obtain⟨a,c,hv⟩:=Zaz (ae.o.own k aj);have m1:=ae.o.at_ (L:=L) (s:=s) G.o.2.2.1.symm aj;obtain⟨nn,y⟩:∃nn,nn=(Zai n f k).length:=⟨_,rfl⟩;have jr:0<nn:=by rw[y,bf];simp
      rw[<-y] at hv;rw[hv] at m1;have E:=ae.o.own k aj;rw[hv,<-y] at E
      have gu:∃g,a=some ⟨g,0,none⟩/\(w5.cell? ⟨g,0,none⟩=some (.int .u64 r)/\w5.cell? ⟨g,1,none⟩=some (.int .i64 nd))/\w5.cell? ⟨g,2,none⟩=some (.int .i64 qk):=by
       rcases E.2 with⟨_,e2⟩ | ⟨g,cap,cur,e2,_⟩
       .omega
       .obtain⟨e1,_,e3⟩:a=some ⟨g,0,none⟩/\nn=nn/\c=cap:=by simpa using e2
        subst e1;have e4:0<(Zai n f k).length:=by omega
        have e3:(Zai n f k).getD 0 0=id:=by rw[bf];rfl
        refine⟨g,rfl,⟨?_,?_⟩,?_⟩
        .have:=E.cellAt (0 * 3+0) (by omega)
         rw[Eh _ e4 (by omega),e3,Zc2 W] at this;exact this
        .have:=E.cellAt (0 * 3+1) (by omega)
         rw[Eh _ e4 (by omega),e3,Zc2 W] at this;exact this
        .have:=E.cellAt (0 * 3+2) (by omega)
         rw[Eh _ e4 (by omega),e3,Zc2 W] at this;exact this
      obtain⟨g,rfl,⟨x0,x1⟩,x2⟩:=gu;have g2:(L:Int)<11:=by omega
      have g3:(s:Int)<64:=by omega
      have g4:decide (0<L)=false:=decide_eq_false (by omega);have g5:(0:Int)<(nn:Int):=by omega
      have HB:=Zz (Zq hb (Zq C (Zq bp (Zq I (Zq U (Zq hi (Zq hcut (Zq W (Zq dd de)))))))));have j7:=Zz ee;have lx:Hid (g<w5.heap.size):=Zz (E.lt g rfl).2;clear hb C bp ju bf I U hi dd de hcut gx hv E y ee fv W
      go_upto_region 8 with fail
      obtain⟨w6,F⟩:∃w6,w6=w5.alloc (.cells #[.int .u64 r,.int .i64 nd,.int .i64 qk] 288):=⟨_,rfl⟩;obtain⟨bx,cq⟩:∃bx,bx=w5.heap.size:=⟨_,rfl⟩;have gb:=Zz (show Dj w6 bx r nd qk by rw[F,cq];exact GA w5 r nd qk);have ck:w6.heap[bx]? =some (.cells #[.int .u64 r,.int .i64 nd,.int .i64 qk] 288 (0,0)):=by rw[F,cq];exact QFm w5 _
      have iy:Hid (ZY w5 w6):=Zz (by rw[F];exact ZV.alloc ZU _);have j9:=Zz (ez.o.boxes (K:=fun z=>z=bx) iy.o (fun z hz=>by subst hz;exact⟨by omega,_,_,ck⟩));have lq:=Zz ck;rw[<-F,<-cq];have j0:=Zz cq;obtain⟨⟨z0,z1⟩,z2⟩:=gb.o;clear F cq ck x0 x1 x2 m1;obtain⟨ma,iq,iw,R,gv,dw⟩:=j9.o.mem;rcases gv with⟨_,dj⟩ | ⟨kh,D6,rfl,fg,Q,gp⟩
      .exfalso
       have:=HB.o.1;rw[dj] at this;simp at this
      have ly:=Zz R;have ey:=Zz (Zq Q gp);have jb:=Zz dw;have cy:=NU w6 P B (fun z=>z=bx) st st iq (Zai st f) iw kh i D6 id r nd qk R Q fg HB.o.2.2.2.2.2.2.2.1 (by rw[HB.o.2.2.2.2.1,<-HB.o.2.2.1];exact gp.tm b HB.o.1) b2 b2 (fun j hj=>(dw j hj).1) (by have:=Zc0 st f (pl st st);omega) HB.o.2.2.2.2.2.1 HB.o.2.2.2.2.2.2.2.2.1 HB.o.2.2.2.2.2.2.2.2.2;have gd:=Zz cy;clear R Q gp dw cy
      go_upto_region 9 with (go_at_call 234;refine gd.o.mono ?_;rintro e w7 ⟨rfl,v',x',jt,hx,jo,jk⟩;have HN:=Zz (Zq jt (Zq hx (Zq jo jk)));clear jt hx jo jk)
      have ko:P≠bx:=by have:=ae.o.pb;have:=ae.o.bs;have:=j0.o;omega
      have iz:=Zz (gb.o.at_ (HN.o.2.2.2.block bx gb.o.lt (Ne.symm ko) (Zu (Zj rfl))));obtain⟨⟨y0,y1⟩,y2⟩:=iz.o;have lz:=HN.o.1.c0;clear z0 z1 z2;obtain⟨hb,C,bp,I,U,hi,hcut,W,dd,de⟩:=HB.o;obtain⟨cd,bj,cr⟩:=T.o.TL.best C;obtain⟨d,bo⟩:∃d,d=ej.AS.getD cd .z:=⟨_,rfl⟩;have aw:=Zeu bj;rw[<-bo] at cr aw;have J:d.tm=(st:Int):=by rw[<-bp,<-cr];rfl
      obtain⟨O,v⟩:∃O,O=({ ej with time:=(st:Nat) }:Ab):=⟨_,rfl⟩;have fy:Bh w7 P B (fun z=>z=bx) st (f.take b++f.drop (b+1)):=RV hb (tn:=st) (by omega) b2 db j9.o.later V bw ey.o.2 (ey.o.1.tidy Ij) fg jb.o hi hcut HN.o.1 HN.o.2.1 (by rw[<-U];exact HN.o.2.2.1);have H:PF wr w7 P B Ck:=(gh.o.trans (PF.Ae iy.o)).trans HN.o.2.2.2.TW;have jh:Ch qh w7 P B oj O rj (f.take b++f.drop (b+1)):=by rw[v];exact T.o.x.Dh H fy.TW
      have p:=T.o.Dh gh.o ez.o b1 (by omega) b2 G.o.2.1 hG bh;rw[<-v] at p;have ag:BV O d:=by rw[v];exact aw.1
      have jf:Mr O d (f.take b++f.drop (b+1)):=p.TL.drop_ bw hb (by rw[<-cr,v];rfl)
      have fj:BL r nd qk (O.DT d).id:=by
       have:(O.DT d).id=id:=by rw[U,<-cr,v];rfl
       rw[this];exact W
      have j3:=Zz (fun (wx:World) (hb:ZY w7 wx)=>Ox wx P B oj O rj _ d r nd qk st (jh.below hb) p.ok.wk ag (by rw[v,J]) jf fj (by rw[p.lr];exact kx) (by rw[p.sd];exact l9));have HD:=Zz (Zq H (Zq p (Zq ag (Zq v (Zq bj (Zq bo (Zq J aw.2)))))));clear hb C bp I U hi hcut W dd de bj cr bo aw J v fy H jh p ag jf fj
      go_region_with (go_at_call 160;refine (j3.o _ (ZV.drew)).mono ?_;rintro _ w8 ⟨rfl,hx⟩;have kg:=Zz hx;clear hx)
      all_goals go_wp2_with fail
      all_goals
       obtain⟨r8,l8,o8,ie,ft,gy,dh,fq⟩:=kg.o;obtain⟨H,p,ag,v,bj,bo,J,fm⟩:=HD.o;have jj:CB O.AS O.AS.length=some cd:=by rw[v];exact bj
       have cu:d=O.AS.getD cd .z:=by rw[bo,v];rfl
       have al:∀x,BV O x->d.tm<=x.tm:=fun x hx=>fm x (by rw[v] at hx;exact hx)
       have az:=MG O d;have jl:=GV p.ok ag al;have jm:O.load=ej.load:=by rw[v];rfl
       have ax:=(KF.DL H oj).trans (KF.Ae P B oj ((Zk w7.heap.size w7).drew)) (As.refl _ _);have dr:=p.ok.At ag al;have jq:(O.At d).time=(st:Int):=by rw[az.1,p.now,J];exact Int.max_self _
       have br:Hid (Po qh w P B ob e rs Y st (O.At d) r8 l8 o8 w8):=Zz (by
        refine⟨ie,gy,dr,jq,by omega,fun e2 ku=>p.goes e2 (.step O e2 cd jj (by rw[<-cu];omega) (by rw[<-cu];exact ku)),T.o.sb.trans ft,(T.o.kf.trans ax T.o.LV).trans dh T.o.LV,T.o.LV.trans fq ?_,(T.o.Ix.kf ax hG bh).kf dh hG bh,by rw[az.2.1,p.lr],by rw[az.2.2,p.sd]⟩;exact (T.o.kf.trans ax T.o.LV).size)
       have gi:Hid ((O.At d).load * 200000+todo st l8<ej.load * 200000+todo n f):=Zz (by
        have lh:Bh w8 P B Ck st l8:=by
         obtain⟨n',q1,q2⟩:=ie.time;obtain rfl:st=n':=by omega
         exact q2
        have:=RO b2 l8 lh.later;have:=gy.Br dr.wk;have:=jl.1;omega)
       clear ie ft gy dh fq H p ag v bj bo J fm jj cu al az jl jm ax dr jq
       go_roundg ((O.At d).load * 200000+todo st l8)
       case rel=>exact⟨st,_,_,_,_,rfl,br.o⟩
       case measure=>exact gi.o
     .have g4:decide (0<L)=true:=decide_eq_true (by omega)
      have j7:=Zz ee;clear ee;have fi:64<=k:=by have:=G.o.2.2.1;have:=j7.o;omega
      obtain⟨nn,y⟩:∃nn,nn=(Tf n f k).length:=⟨_,rfl⟩
      have jr:nn<=200:=by
       have:=Zc0 n f k;have e:(Zai n f k).length=nn:=by rw[OK,y];simp
       omega
      have jw:=QR w5 P B Ck st L s nn im (Zai n f) iu bm D (Tf n f k) ae.o dy.o.1 gq je fs M.o.2.2 (by rw[<-G.o.2.2.1];rfl) y
       (fun i hi=>by obtain⟨j,hj,e,_⟩:=MN (n:=n) (l:=f) (k:=k) (i:=i) (by omega);rw[<-e];exact V j hj)
       (fun i hi=>by obtain⟨j,hj,e,_⟩:=MN (n:=n) (l:=f) (k:=k) (i:=i) (by omega);rw[<-e];exact dy.o.2.tm j hj)
       (fun i hi=>by obtain⟨j,hj,e,_⟩:=MN (n:=n) (l:=f) (k:=k) (i:=i) (by omega);rw[<-e];have:=ay _ (Zcf hj);omega)
       b2 (fun j=>by have:=Zc0 n f j;omega)
      have ke:=Zz jw;clear jw y;go_wp2_with (go_at_call 233;refine ke.o.mono ?_;rintro e w6 ⟨rfl,iq,lp,iw,R,Q,da,F,X⟩;have HN:=Zz (Zq R (Zq Q (Zq da (Zq F X))));clear R Q da F X)
      obtain⟨R,Q,da,F,X⟩:=HN.o
      have kj:lp=Zai st f:=by
       funext j
       rw[X j,G.o.2.2.2,Oo G.o.1 fi j,<-G.o.2.2.1]
       rfl
      subst kj;have fw:Bh w6 P B Ck st f:=⟨⟨_,iq,iw,R,Zj ⟨bm,D,rfl,gq,Q,dy.o.2⟩,F⟩,b2,db,fun t Z=>⟨G.o.2.1 t Z,(ay t Z).2⟩,V,bw⟩;have br:=Zz (T.o.Dh (gh.o.trans da) fw b1 (by omega) b2 G.o.2.1 hG bh)
      have gi:Hid (ej.load * 200000+todo st f<ej.load * 200000+todo n f):=Zz (by
       have:=TM G.o.1 fi;rw[<-G.o.2.2.2] at this;omega)
      clear R Q da F X fw
      go_roundg (ej.load * 200000+todo st f)
      case rel=>exact⟨st,{ ej with time:=(st:Nat) },_,_,_,rfl,br.o⟩
      case measure=>exact gi.o
