import Derived.Test.YtgdcjccbdmcebaaGreatDoorM22
import Derived.Test.YtgdcjccbdmcebaaGreatDoorM24
set_option linter.all false
set_option maxHeartbeats 8000000
set_option maxRecDepth 100000
open Go.Proofs.Tryz
open Go renaming bodyPost_ret->QEz,heap_alloc_new->QFm,cell_later->QFa
open Go.World renaming cell?_of_block->QEc
open Nat renaming le_of_eq->QJx,zero_le->QBp
open Option renaming some.injEq->QCf
namespace Go.Proofs.YtgdcjccbdmcebaaGreatDoor
open Go.RowKit
attribute [local go_sem ↓] Go.wp_at_zero Go.wp_at_succ
variable {ob:Option Nat}{qh bd bn P R D B:Nat}{w w':World}{g:AQ}{d:Ax}{e:Ab}{op:Int}
structure KNe (P B R D bd bn:Nat):Prop where
 l:LNe P R D bd bn
 p:P<B
 d:D<B
 md:bd<B
 mn:bn<B
theorem NF.RD (h:LF w w' P R D bd bn)(hn:KNe P B R D bd bn):NF w w' P B:=by
 refine⟨h.size,h.off,h.AD,fun k cs t fr hk e f=>h.block k (Zaa e) (by have:=hn.p;omega) (by have:=hn.d;omega) (by have:=hn.md;omega) (by have:=hn.mn;omega) (Zj (fun a b e'=> ?_)),fun k es c hk e=>h.block k (Zaa e) (by have:=hn.p;omega) (by have:=hn.d;omega) (by have:=hn.md;omega) (by have:=hn.mn;omega) (Zj (fun a b e'=>by rw[e] at e';cases e'))⟩;rw[e] at e';simp only[QCf,Obj.cells.injEq] at e';have i:=e'.2.1;rw[i] at f;unfold Rb at f
 revert f
 decide
structure LOk (w:World)(P R D bd bn M:Nat)(g:AQ)(d:Ax):Prop where
 log:Bs w P D g
 dk:Av w R D bd bn d
 pl:P<w.heap.size
 Br:d.Ap.length<8
 at_:g.at_<3
 short:g.short<=100000
 nm:Za4 w
 s1:Hs d.CH M
 s2:Hs d.now M
 s3:∀o∈d.Ap,o.data.length<=M
 m1:M<=1000000000000
 m2:2000000<=M
theorem LOk.below {M:Nat}(h:LOk w P R D bd bn M g d)(hb:ZY w w'):LOk w' P R D bd bn M g d :=
 ⟨h.log.at_ (hb.block P h.pl),h.dk.below hb,Zy h.pl hb.size,h.Br,h.at_,h.short,fun i hi=>QFa hb (h.nm i hi),h.s1,h.s2,h.s3,h.m1,h.m2⟩
def KpL (w:World)(P R D bd bn:Nat)(g:AQ)(d:Ax)(l:List Int)(v:Int)(w':World):Prop:=v=Ec g d l/\Bs w' P D (FD g d l)/\Av w' R D bd bn (CN g d l)/\LF w w' P R D bd bn
theorem It {data:List Int}{n:Nat}(b:0<=op/\op<256)(c:BC data):BC (AU op data n):=by
 unfold AU;intro x a;rw[List.cons_append] at a;rcases List.mem_cons.1 a with rfl | a
 .exact b
 .rcases List.mem_append.1 a with a | a
  .exact c x a
  .exact Vw n x a
theorem Zdj {data:List Int}{n:Nat}(hn:n<18446744073709551616):1<=(AU op data n).length/\(AU op data n).length<=data.length+9:=by
 have:=Zd9 8 n hn;unfold AU;rw[List.cons_append,List.length_cons,ZX];omega
theorem Qf (w:World)(P R D bd bn M E m:Nat)(g:AQ)(d:Ax)(op:Int)(N:Nat)(data:List Int)(h:LOk w P R D bd bn M g d)(hn:LNe P R D bd bn)(z:0<=op/\op<256)(Q:N<18446744073709551616)(S:BC data)(T:data.length<=900000)(i:w.heap[E]? =some (.cells #[.pointer (some ⟨P,0,none⟩)] 93 (0,0)))(r:w.heap[m]? =some (.cells #[.int .i64 op,.int .u64 N,.string (Zbn data)] 29 (0,0))) :
  Calls prog 149 #[.pointer (some ⟨E,0,none⟩),.pointer (some ⟨m,0,none⟩)] w fun x w'=>∃v,x=.returned (AK v)/\KpL w P R D bd bn g d (AU op data N) v w':=by
 obtain⟨sd,A⟩:∃sd,sd=Zbn data:=⟨_,rfl⟩;rw[<-A] at r;obtain⟨l,hl⟩:∃l,l=AU op data N:=⟨_,rfl⟩;obtain⟨n,y⟩:∃n,n=l.length:=⟨_,rfl⟩
 have H:=Zz (show ∀wx,Calls prog 151 #[.agg #[.int .i64 op,.int .u64 N,.string sd]] wx fun x w'=>∃g c,x=.returned (.slice (some ⟨g,0,none⟩) n c)/\Al wx.heap.size w' (.slice (some ⟨g,0,none⟩) n c) l/\ZY wx w' from fun wx=>by
  have:=QK wx op N data z Q S (by omega);rw[<-hl,<-y,<-A] at this;exact this)
 have j:=Zz (show ∀wx,ZY w wx->∀B0 rg rc,Al B0 wx (.slice (some ⟨rg,0,none⟩) n rc) l->Calls prog 150 #[.pointer (some ⟨P,0,none⟩),.slice (some ⟨rg,0,none⟩) n rc] wx fun x w'=>x=.returned (AK (Ec g d l))/\KpL w P R D bd bn g d l (Ec g d l) w'/\w'.heap[E]? =w.heap[E]? /\w'.heap[m]? =w.heap[m]? from fun wx hb B0 rg rc W=>by
  have K:=i;have i:=h.below hb;have hlen:=Zdj (op:=op) (data:=data) Q;rw[<-hl] at hlen;rw[y] at W ⊢;refine (Vr wx P R D bd bn B0 rg rc M g d l i.log i.dk hn i.pl i.Br i.at_ i.short i.nm W (by rw[hl];exact It z S) hlen.1 (by omega) i.s1 i.s2 i.s3 i.m1 i.m2).mono ?_;rintro x w' ⟨rfl,q1,q2,q3⟩;have hf:=(LF.Ae R D bd bn hb h.pl).trans q3;obtain⟨pa,pc,dk,_⟩:=h.dk.c;obtain⟨Dd,f3⟩:=h.dk.fd;obtain⟨Dn,f4⟩:=h.dk.fn
  have stay:∀(k:Nat) (cs:Array Value) (t:TypeId) (fr:Nat×Nat),w.heap[k]? =some (Obj.cells cs t fr)->k≠P->t≠92->t≠210->w'.heap[k]? =w.heap[k]? :=fun k cs t fr e U t1 t3=>by
   have hm:∀O f V,AE w O f V->k≠O:=fun O f V i e2=>by
    obtain⟨es,c,F,_⟩:=i.own;rw[<-e2,e] at F;cases F
   exact hf.block k (Zaa e) U (Zah e dk.Au t1) (hm _ _ _ f3) (hm _ _ _ f4) (Zj (fun ae ag F=>by rw[e] at F;simp only[QCf,Obj.cells.injEq] at F;exact t3 F.2.1))
  exact⟨rfl,⟨rfl,q1,q2,hf⟩,stay E _ _ _ K (fun e=>by
   have c1:=h.log.c1;rw[<-e] at c1;have:=Zad K 1;rw[this] at c1;simp at c1) (by decide) (by decide),stay m _ _ _ r (fun e=>by
   have c1:=h.log.c3;rw[<-e] at c1;have:=Zad r 3;rw[this] at c1;simp at c1) (by decide) (by decide)⟩)
 have u0:=Zad i 0;have c0:=Zad r 0;have c1:=Zad r 1;have c2:=Zad r 2;have Y:=Zz (Zq i r);obtain⟨I,u⟩:∃I,I=Ec g d l:=⟨_,rfl⟩;rw[<-u] at j;have p:=Fl I;obtain⟨X,C⟩:∃X,X=AK I:=⟨_,rfl⟩;rw[<-C] at j p;rw[<-hl];have HV:=Zz (Zq C u);clear h hn z Q S T i r A hl y u C;rcases p with rfl | ⟨ty,xv,rfl⟩
 all_goals
  go_enter func149,ntmps149
  go_upto_region 3 with fail
  go_region_held3 (fun w'=>((w'.cell? ⟨E,0,none⟩=some (.pointer (some ⟨P,0,none⟩))/\w'.cell? ⟨m,0,none⟩=some (.int .i64 op))/\w'.cell? ⟨m,1,none⟩=some (.int .u64 N))/\w'.cell? ⟨m,2,none⟩=some (.string sd)) (go_keep) ((first
   | (go_at_call 151;refine (H.o _).mono ?_;rintro _ w2 ⟨rg,rc,rfl,J,s⟩;have b:ZY w w2:=(by first | exact s | exact (ZV.drew).trans' s);have y0:=QFa b u0;have y1:=QFa b c0;have y2:=QFa b c1;have y3:=QFa b c2;have G:=Zz (Zq J b);clear J s b)
   | (go_at_call 150;refine (j.o _ G.o.2 _ _ _ G.o.1).mono ?_;rintro _ w3 ⟨rfl,hk,L,q⟩;have Z:=Zz hk;have z0:=(QEc (a:=⟨E,0,none⟩) L).trans u0;have z1:=(QEc (a:=⟨m,0,none⟩) q).trans c0;have z2:=(QEc (a:=⟨m,1,none⟩) q).trans c1;have z3:=(QEc (a:=⟨m,2,none⟩) q).trans c2;clear hk L q)))
  all_goals
   clear u0 c0 c1 c2 z0 z1 z2 z3;go_wp2_with fail
   go_ret
   exact⟨I,by rw[<-HV.o.1];rfl,Z.o⟩
theorem DH {M b a:Nat}{N:Nat}{data:List Int}(h:LOk w P R D bd bn M g d)(hn:KNe P B R D bd bn)(i:0<=op/\op<256)(o:N<18446744073709551616)(p:BC data)(f:data.length<=900000)(m:w.heap[b]? =some (.cells #[.pointer (some ⟨P,0,none⟩)] 93 (0,0)))(k:w.heap[a]? =some (.cells #[.int .i64 op,.int .u64 N,.string (Zbn data)] 29 (0,0))) :
  EE w P B 149 #[.pointer (some ⟨b,0,none⟩),.pointer (some ⟨a,0,none⟩)] (KpL w P R D bd bn g d (AU op data N)):=by
 refine⟨fun wx=>by kernel_rfl,fun wx hb=> ?_⟩;have j:=(hb.block b (Zaa m)).trans m;have c:=(hb.block a (Zaa k)).trans k;refine (Qf wx P R D bd bn M b a g d op N data (h.below hb) hn.l i o p f j c).mono ?_;rintro x w' ⟨v,rfl,q1,q,r,n⟩;exact⟨v,rfl,NF.RD n hn,q1,q,r,(LF.Ae R D bd bn hb h.pl).trans n⟩
structure EF (w w':World)(P B R D bd bn:Nat)(ob:Option Nat):Prop where
 os:w'.os=w.os
 tape:w'.tape=w.tape
 output:w'.output=w.output
 size:w.heap.size<=w'.heap.size
 block:∀k,k<w.heap.size->k≠P->k≠D->k≠bd->k≠bn->(k<R\/∀cs fr,w.heap[k]? ≠some (.cells cs 210 fr))->(k<B\/∃cs t fr,w.heap[k]? =some (.cells cs t fr)/\t≠288/\t≠274/\t≠266/\t≠272/\t≠276/\(t=27->some k≠ob))->w'.heap[k]? =w.heap[k]?
theorem EF.Ae (P B R D bd bn:Nat)(ob:Option Nat)(h:ZY w w'):EF w w' P B R D bd bn ob:=⟨h.os,h.tape,h.output,h.size,fun k hk _ _ _ _ _ _=>h.block k hk⟩
theorem EF.RD (B:Nat)(ob:Option Nat)(h:LF w w' P R D bd bn):EF w w' P B R D bd bn ob:=⟨h.os,h.tape,h.output,h.size,fun k hk a b c f i _=>h.block k hk a b c f i⟩
theorem EF.of_kf (R D bd bn:Nat)(h:KF w w' P B ob):EF w w' P B R D bd bn ob:=⟨h.os,h.tape,h.output,h.size,fun k hk a _ _ _ _ b=>h.block k hk a b⟩
theorem EF.trans {x y z:World}{a:Option Nat}(h:EF x y P B R D bd bn ob)(g:EF y z P B R D bd bn a)(o:As x ob a):EF x z P B R D bd bn ob:=by
 refine⟨g.os.trans h.os,g.tape.trans h.tape,g.output.trans h.output,Zv h.size g.size,fun k hk i j l m b c=> ?_⟩;have e:=h.block k hk i j l m b c;refine (g.block k (Zy hk h.size) i j l m (b.imp id (fun b cs fr=>by rw[e];exact b cs fr)) ?_).trans e;rcases c with c | ⟨cs,t,fr,q1,q,r,s,u,v,A⟩
 .exact Zu c
 .refine Zj ⟨cs,t,fr,e.trans q1,q,r,s,u,v,fun p f=> ?_⟩
  rcases o k f.symm with n | n
  .exact A p n.symm
  .omega
structure AI (qh:Nat)(w:World)(P B R D bd bn:Nat)(ob:Option Nat)(g:AQ)(d:Ax)(e:Ab):Prop where
 kp:BE qh w P B ob e
 log:Bs w P D g
 dk:Av w R D bd bn d
 nm:Za4 w
 Ix:AP w
 ne:KNe P B R D bd bn
theorem AI.pl (h:AI qh w P B R D bd bn ob g d e):P<B/\B<=w.heap.size:=by
 obtain⟨rs,l,b,_⟩:=h.kp;obtain⟨_,_,a,_,_⟩:=b.ex;exact a.pb
theorem AI.below (h:AI qh w P B R D bd bn ob g d e)(hb:ZY w w'):AI qh w' P B R D bd bn ob g d e:=by
 obtain⟨b,c⟩:=h.pl;have a:=h.ne.l.gl;refine⟨h.kp.below hb,h.log.at_ (hb.block P (by omega)),h.dk.below hb,fun i hi=>QFa hb (h.nm i hi),h.Ix.at_ (hb.block _ (by omega)),h.ne⟩
structure Fit (g:AQ)(d:Ax)(M:Nat):Prop where
 Br:d.Ap.length<8
 at_:g.at_<3
 short:g.short<=100000
 s1:Hs d.CH M
 s2:Hs d.now M
 s3:∀o∈d.Ap,o.data.length<=M
 m1:M<=1000000000000
 m2:2000000<=M
theorem AI.ok {M:Nat}(h:AI qh w P B R D bd bn ob g d e)(f:Fit g d M):LOk w P R D bd bn M g d :=
 ⟨h.log,h.dk,by have:=h.pl;omega,f.Br,f.at_,f.short,h.nm,f.s1,f.s2,f.s3,f.m1,f.m2⟩
theorem log_kf (hf:KF w w' P B ob)(hn:KNe P B R D bd bn)(h:P<w.heap.size)(hl:Bs w P D g)(b:Av w R D bd bn d)(n:Za4 w)(f:AP w)(G:B<=w.heap.size):Bs w' P D g/\Av w' R D bd bn d/\Za4 w'/\AP w':=by
 have E:=hn.l.gl;have hp:=hn.p;refine⟨⟨(hf.off h 0 (by omega)).trans hl.c0,(hf.off h 1 (by omega)).trans hl.c1,(hf.off h 2 (by omega)).trans hl.c2,(hf.off h 3 (by omega)).trans hl.c3,fun o=>(hf.AD h o).trans (hl.fz o)⟩,?_,fun i hi=> ?_,f.at_ (hf.block _ (by omega) (by omega) (Zu (by omega)))⟩
 .have F:∀k j,w.heap[k]? =some j->k<w.heap.size:=fun k j e=>Zaa e
  obtain⟨u,v,dk,_⟩:=b.c;obtain⟨A,f3⟩:=b.fd;obtain⟨C,f4⟩:=b.fn;obtain⟨u,v,q1,z⟩:=b.c;have stay:∀(k:Nat) (cs:Array Value) (t:TypeId) (fr:Nat×Nat),w.heap[k]? =some (Obj.cells cs t fr)->k≠P->(t=9\/t=210)->w'.heap[k]? =w.heap[k]? :=fun k cs t fr e m f=>hf.block k (Zaa e) m (Zj ⟨cs,t,fr,e,by rcases f with rfl | rfl<;>decide,by rcases f with rfl | rfl<;>decide,by rcases f with rfl | rfl<;>decide,by rcases f with rfl | rfl<;>decide,by rcases f with rfl | rfl<;>decide,fun x=>by rcases f with rfl | rfl<;>exact absurd x (by decide)⟩)
  have q:∀k s,Zdg w k s->w'.heap[k]? =w.heap[k]? :=fun k s e=>stay k _ _ _ e (fun y=>by
   have c1:=hl.c1;rw[<-y] at c1;have:=Zad e 1;rw[this] at c1;simp at c1) (Zu rfl)
  refine⟨Zv b.rs hf.size,⟨u,v,q1.at_ (hf.block D (Zaa q1.Au) (Ne.symm hn.l.d) (Zu hn.d)),z.1,?_⟩,⟨A,f3.Eu (hf.block bd f3.lt (Ne.symm hn.l.md) (Zu hn.md)) q⟩,⟨C,f4.Eu (hf.block bn f4.lt (Ne.symm hn.l.mn) (Zu hn.mn)) q⟩,b.ne,b.Br,b.ops⟩;rcases z.2 with x | ⟨g,cap,cur,x,hg,hh,r⟩
  .exact Zu x
  .exact Zj ⟨g,cap,cur,x,hg,(stay g _ _ _ hh (by have:=hn.l.r;omega) (Zj rfl)).trans hh,r⟩
 .have e:=hf.block 1 (by omega) (by omega) (Zu (by omega))
  exact (QEc (a:=⟨1,i,none⟩) e).trans (n i hi)
theorem AI.kept {p:World}{n:Ab}{l:List Int}{v:Int}(h:AI qh w P B R D bd bn ob g d e)(hb:ZY w p)(hk:BX qh P B ob (KpL p P R D bd bn g d l) e n v w') :
  v=Ec g d l/\(∃b,AI qh w' P B R D bd bn b (FD g d l) (CN g d l) (if v=0 then n else e)/\As w ob b)/\EF w w' P B R D bd bn ob:=by
 obtain⟨q,b,⟨k1,k2,k3,k4⟩,s,o,t⟩:=hk;have j:=h.below hb;obtain⟨p1,p2⟩:=j.pl;have u:=h.ne.l.gl;have E:=h.ne.l.r
 have f:Za4 q:=fun i hi=>by
  have e:=k4.block 1 (by omega) (by omega) (by omega) (by omega) (by omega) (Zu (by omega));exact (QEc (a:=⟨1,i,none⟩) e).trans (j.nm i hi)
 have c:AP q:=j.Ix.at_ (k4.block 2 (by omega) (by omega) (by omega) (by omega) (by omega) (Zu (by omega)));have y:=k4.size;obtain⟨q1,z,A,C⟩:=log_kf o h.ne (by omega) k2 k3 f c (by omega);have m:As w ob b:=fun k hk=>(t k hk).imp id (fun x=>by have:=hb.size;omega)
 exact⟨k1,⟨b,⟨s,q1,z,A,C,h.ne⟩,m⟩,((EF.Ae P B R D bd bn ob hb).trans (EF.RD B ob k4) (As.refl _ _)).trans (EF.of_kf R D bd bn o) (As.refl _ _)⟩
theorem Zb0 (w:World)(P:Nat):Calls prog 107 #[.pointer (some ⟨P,0,none⟩)] w fun x w'=>x=.returned (.pointer (some ⟨P,4,none⟩))/\w'=w:=by
 go_enter func107,ntmps107
 go_wp2_with fail
 go_ret
 exact⟨rfl,rfl⟩
theorem Zdm (w:World)(P:Nat)(op:Int)(N:Nat)(s:ByteArray):Calls prog 109 #[.pointer (some ⟨P,0,none⟩),.agg #[.int .i64 op,.int .u64 N,.string s]] w fun x w'=>∃b a,x=.returned (.func (.func 149) #[] #[.pointer (some ⟨b,0,none⟩),.pointer (some ⟨a,0,none⟩)])/\w'.heap[b]? =some (.cells #[.pointer (some ⟨P,0,none⟩)] 93 (0,0))/\w'.heap[a]? =some (.cells #[.int .i64 op,.int .u64 N,.string s] 29 (0,0))/\ZY w w':=by
 have c:∀(fn:Fn) (first cap:Array Value) (w:World),(Instr.makeFunc fn first cap).run prog w=.ok (.func fn first cap) w:=fun _ _ _ _=>rfl
 go_enter func109,ntmps109
 go_wp2_with fail
 go_ret
 refine⟨_,_,rfl,?_,?_,(ZV.alloc ZU _).alloc (by simp) _⟩
 .rw[Zam _ _ _ (by simp)];exact QFm w _
 .exact Zbm _ _ _ _ (by simp)
def Gu (g:AQ)(d:Ax)(e:Ab)(l:List Int)(er:Int)(r:Option Ab)(v:Int)(g':AQ)(d':Ax)(e':Ab):Prop:=(r=none/\v=er/\g'=g/\d'=d/\e'=e)\/∃e2,r=some e2/\v=Ec g d l/\g'=FD g d l/\d'=CN g d l/\e'=if v=0 then e2 else e
structure Az (e:Ab):Prop where
 lr:e.Ah<18446744073709551615
 lt:e.Ai<18446744073709551615
 s0:0<=e.Ar
 s1:e.Ar<18446744073709551616
theorem Zdp {a:Int}(h:a<18446744073709551615):a<18446744073709551616:=Int.lt_trans h (by decide)
theorem DS:(⟨#[]⟩:ByteArray)=Zbn []:=rfl
theorem Dt:BC []:=fun _ h=>by cases h
theorem Sr (w:World)(P B R D bd bn M:Nat)(ob:Option Nat)(g:AQ)(d:Ax)(e:Ab)(N:Nat)(h:AI qh w P B R D bd bn ob g d e)(ok:Aj e)(AZ:Az e)(f:Fit g d M)(r:N<18446744073709551616) :
  Calls prog 67 #[.pointer (some ⟨P,0,none⟩),.int .u64 N] w fun x w'=>∃v c b e' a,x=.returned (AK v)/\Gu g d e (AU 3 [] N) 7 (e.AY N) v c b e'/\AI qh w' P B R D bd bn a c b e'/\As w ob a/\EF w w' P B R D bd bn ob:=by
 have t:=Zz (show ∀i n j,ZY w i->i.heap[n]? =some (.cells #[.pointer (some ⟨P,0,none⟩)] 93 (0,0))->i.heap[j]? =some (.cells #[.int .i64 3,.int .u64 N,.string ⟨#[]⟩] 29 (0,0))->Calls prog 108 #[.pointer (some ⟨P,4,none⟩),.int .u64 N,.func (.func 149) #[] #[.pointer (some ⟨n,0,none⟩),.pointer (some ⟨j,0,none⟩)]] i fun x w'=>∃v c b e' a,x=.returned (AK v)/\Gu g d e (AU 3 [] N) 7 (e.AY N) v c b e'/\AI qh w' P B R D bd bn a c b e'/\As w ob a/\EF w w' P B R D bd bn ob from fun i n j hb l k=>by
  have q:=h.below hb;have hk:=DH (op:=3) (data:=[]) (q.ok f) h.ne (by decide) r Dt (QBp _) l (by rw[<-DS];exact k);refine (LM i P B ob e N _ _ q.kp ok.wk hk (Zdp AZ.lr)).mono ?_;rintro x w' (⟨q1,rfl,m⟩ | ⟨v,y,q1,rfl,m⟩)
  .exact⟨7,g,d,e,ob,rfl,Zu ⟨q1,rfl,rfl,rfl,rfl⟩,q.below m,As.refl _ _,EF.Ae P B R D bd bn ob (hb.trans (m.mono hb.size))⟩
  .obtain⟨k1,⟨a,k2,k3⟩,k4⟩:=h.kept hb m
   exact⟨v,_,_,_,a,rfl,Zj ⟨y,q1,k1,rfl,rfl,rfl⟩,k2,k3,k4⟩)
 clear h ok AZ f r
 go_enter func67,ntmps67
 go_wp2_with (first
  | (go_at_call 107;refine (Zb0 _ P).mono ?_;rintro _ z ⟨rfl,rfl⟩)
  | (go_at_call 109;refine (Zdm _ P 3 N ⟨#[]⟩).mono ?_;rintro _ i ⟨n,j,rfl,l,k,hb⟩;have p:=Zz (Zq hb (Zq l k));clear l k hb)
  | (go_at_call 108;refine (t.o _ _ _ p.o.1 p.o.2.1 p.o.2.2).mono ?_;rintro _ A ⟨v,c,b,e',a,rfl,s⟩;have u:=Zz s;clear s))
 go_ret
 exact⟨v,c,b,e',a,rfl,u.o⟩
theorem Ld (w:World)(P B R D bd bn M:Nat)(ob:Option Nat)(g:AQ)(d:Ax)(e:Ab)(N:Nat)(h:AI qh w P B R D bd bn ob g d e)(ok:Aj e)(AZ:Az e)(f:Fit g d M)(r:N<18446744073709551616) :
  Calls prog 68 #[.pointer (some ⟨P,0,none⟩),.int .u64 N] w fun x w'=>∃v c b e' a,x=.returned (AK v)/\Gu g d e (AU 4 [] N) 7 (e.complete N) v c b e'/\AI qh w' P B R D bd bn a c b e'/\As w ob a/\EF w w' P B R D bd bn ob:=by
 have t:=Zz (show ∀i n j,ZY w i->i.heap[n]? =some (.cells #[.pointer (some ⟨P,0,none⟩)] 93 (0,0))->i.heap[j]? =some (.cells #[.int .i64 4,.int .u64 N,.string ⟨#[]⟩] 29 (0,0))->Calls prog 110 #[.pointer (some ⟨P,4,none⟩),.int .u64 N,.func (.func 149) #[] #[.pointer (some ⟨n,0,none⟩),.pointer (some ⟨j,0,none⟩)]] i fun x w'=>∃v c b e' a,x=.returned (AK v)/\Gu g d e (AU 4 [] N) 7 (e.complete N) v c b e'/\AI qh w' P B R D bd bn a c b e'/\As w ob a/\EF w w' P B R D bd bn ob from fun i n j hb l k=>by
  have q:=h.below hb;have hk:=DH (op:=4) (data:=[]) (q.ok f) h.ne (by decide) r Dt (QBp _) l (by rw[<-DS];exact k);refine (FL i P B ob e N _ _ q.kp ok.wk hk (Zdp AZ.lr)).mono ?_;rintro x w' (⟨q1,rfl,m⟩ | ⟨v,y,q1,rfl,m⟩)
  .exact⟨7,g,d,e,ob,rfl,Zu ⟨q1,rfl,rfl,rfl,rfl⟩,q.below m,As.refl _ _,EF.Ae P B R D bd bn ob (hb.trans (m.mono hb.size))⟩
  .obtain⟨k1,⟨a,k2,k3⟩,k4⟩:=h.kept hb m
   exact⟨v,_,_,_,a,rfl,Zj ⟨y,q1,k1,rfl,rfl,rfl⟩,k2,k3,k4⟩)
 clear h ok AZ f r
 go_enter func68,ntmps68
 go_wp2_with (first
  | (go_at_call 107;refine (Zb0 _ P).mono ?_;rintro _ z ⟨rfl,rfl⟩)
  | (go_at_call 109;refine (Zdm _ P 4 N ⟨#[]⟩).mono ?_;rintro _ i ⟨n,j,rfl,l,k,hb⟩;have p:=Zz (Zq hb (Zq l k));clear l k hb)
  | (go_at_call 110;refine (t.o _ _ _ p.o.1 p.o.2.1 p.o.2.2).mono ?_;rintro _ A ⟨v,c,b,e',a,rfl,s⟩;have u:=Zz s;clear s))
 go_ret
 exact⟨v,c,b,e',a,rfl,u.o⟩
theorem St (w:World)(P B R D bd bn M:Nat)(ob:Option Nat)(g:AQ)(d:Ax)(e:Ab)(N:Nat)(h:AI qh w P B R D bd bn ob g d e)(ok:Aj e)(AZ:Az e)(f:Fit g d M)(r:N<18446744073709551616) :
  Calls prog 69 #[.pointer (some ⟨P,0,none⟩),.int .u64 N] w fun x w'=>∃v c b e' a,x=.returned (AK v)/\Gu g d e (AU 5 [] N) 7 (e.fail N) v c b e'/\AI qh w' P B R D bd bn a c b e'/\As w ob a/\EF w w' P B R D bd bn ob:=by
 have t:=Zz (show ∀i n j,ZY w i->i.heap[n]? =some (.cells #[.pointer (some ⟨P,0,none⟩)] 93 (0,0))->i.heap[j]? =some (.cells #[.int .i64 5,.int .u64 N,.string ⟨#[]⟩] 29 (0,0))->Calls prog 111 #[.pointer (some ⟨P,4,none⟩),.int .u64 N,.func (.func 149) #[] #[.pointer (some ⟨n,0,none⟩),.pointer (some ⟨j,0,none⟩)]] i fun x w'=>∃v c b e' a,x=.returned (AK v)/\Gu g d e (AU 5 [] N) 7 (e.fail N) v c b e'/\AI qh w' P B R D bd bn a c b e'/\As w ob a/\EF w w' P B R D bd bn ob from fun i n j hb l k=>by
  have q:=h.below hb;have hk:=DH (op:=5) (data:=[]) (q.ok f) h.ne (by decide) r Dt (QBp _) l (by rw[<-DS];exact k);refine (JU i P B ob e N _ _ q.kp ok.wk hk (Zdp AZ.lr) ⟨AZ.s0,AZ.s1⟩).mono ?_;rintro x w' (⟨q1,rfl,m⟩ | ⟨v,y,q1,rfl,m⟩)
  .exact⟨7,g,d,e,ob,rfl,Zu ⟨q1,rfl,rfl,rfl,rfl⟩,q.below m,As.refl _ _,EF.Ae P B R D bd bn ob (hb.trans (m.mono hb.size))⟩
  .obtain⟨k1,⟨a,k2,k3⟩,k4⟩:=h.kept hb m
   exact⟨v,_,_,_,a,rfl,Zj ⟨y,q1,k1,rfl,rfl,rfl⟩,k2,k3,k4⟩)
 clear h ok AZ f r
 go_enter func69,ntmps69
 go_wp2_with (first
  | (go_at_call 107;refine (Zb0 _ P).mono ?_;rintro _ z ⟨rfl,rfl⟩)
  | (go_at_call 109;refine (Zdm _ P 5 N ⟨#[]⟩).mono ?_;rintro _ i ⟨n,j,rfl,l,k,hb⟩;have p:=Zz (Zq hb (Zq l k));clear l k hb)
  | (go_at_call 111;refine (t.o _ _ _ p.o.1 p.o.2.1 p.o.2.2).mono ?_;rintro _ A ⟨v,c,b,e',a,rfl,s⟩;have u:=Zz s;clear s))
 go_ret
 exact⟨v,c,b,e',a,rfl,u.o⟩
theorem Sz (w:World)(P B R D bd bn M:Nat)(ob:Option Nat)(g:AQ)(d:Ax)(e:Ab)(N:Nat)(h:AI qh w P B R D bd bn ob g d e)(ok:Aj e)(AZ:Az e)(f:Fit g d M)(z:N<18446744073709551616) :
  Calls prog 71 #[.pointer (some ⟨P,0,none⟩),.int .u64 N] w fun x w'=>∃v j c e' a,x=.returned (AK v)/\(∃i,(v=0->BR e N i)/\v=Ec g d (AU 7 [] N)/\j=FD g d (AU 7 [] N)/\c=CN g d (AU 7 [] N)/\e'=if v=0 then i else e)/\AI qh w' P B R D bd bn a j c e'/\As w ob a/\EF w w' P B R D bd bn ob:=by
 have C:=Zz (show ∀b t m,ZY w b->b.heap[t]? =some (.cells #[.pointer (some ⟨P,0,none⟩)] 93 (0,0))->b.heap[m]? =some (.cells #[.int .i64 7,.int .u64 N,.string ⟨#[]⟩] 29 (0,0))->Calls prog 113 #[.pointer (some ⟨P,4,none⟩),.int .u64 N,.func (.func 149) #[] #[.pointer (some ⟨t,0,none⟩),.pointer (some ⟨m,0,none⟩)]] b fun x w'=>∃v j c e' a,x=.returned (AK v)/\(∃i,(v=0->BR e N i)/\v=Ec g d (AU 7 [] N)/\j=FD g d (AU 7 [] N)/\c=CN g d (AU 7 [] N)/\e'=if v=0 then i else e)/\AI qh w' P B R D bd bn a j c e'/\As w ob a/\EF w w' P B R D bd bn ob from fun b t m hb s q=>by
  have n:=h.below hb;have hk:=DH (op:=7) (data:=[]) (n.ok f) h.ne (by decide) z Dt (QBp _) s (by rw[<-DS];exact q);have F:=h.ne.l.gl;have G:=h.ne.p;have k:∀w',KpL b P R D bd bn g d (AU 7 [] N) 0 w'->AP w':=fun w' y=>n.Ix.at_ (y.2.2.2.block 2 (by have:=n.pl;omega) (by omega) (by omega) (by omega) (by omega) (Zu (by have:=h.ne.l.r;omega)))
  refine (LQ b P B ob e N _ _ _ n.kp ok hk k (by omega) (by omega) (by omega) (by omega) (Zdp AZ.lr) ⟨AZ.s0,AZ.s1⟩).mono ?_;rintro x w' ⟨v,i,rfl,q1,H⟩;obtain⟨k1,⟨a,k2,k3⟩,k4⟩:=h.kept hb H;exact⟨v,_,_,_,a,rfl,⟨i,q1,k1,rfl,rfl,rfl⟩,k2,k3,k4⟩)
 clear h ok AZ f z
 go_enter func71,ntmps71
 go_wp2_with (first
  | (go_at_call 107;refine (Zb0 _ P).mono ?_;rintro _ I ⟨rfl,rfl⟩)
  | (go_at_call 109;refine (Zdm _ P 7 N ⟨#[]⟩).mono ?_;rintro _ b ⟨t,m,rfl,s,q,hb⟩;have u:=Zz (Zq hb (Zq s q));clear s q hb)
  | (go_at_call 113;refine (C.o _ _ _ u.o.1 u.o.2.1 u.o.2.2).mono ?_;rintro _ J ⟨v,j,c,e',a,rfl,A⟩;have E:=Zz A;clear A))
 go_ret
 exact⟨v,j,c,e',a,rfl,E.o⟩
theorem AI.one {rb:Nat}(h:AI qh w P B R D bd bn ob g d e)(b:AA w w' rb)(r:P≠rb)(v:∃cs fr,w.heap[rb]? =some (.cells cs 48 fr))(C:4<rb):AI qh w' P B R D bd bn ob g d e:=by
 obtain⟨z,A⟩:=h.pl;have u:=h.ne.l.gl;have m:P<w.heap.size:=by omega
 obtain⟨rs,l,o,n⟩:=h.kp;obtain⟨cs,fr,hb⟩:=v;obtain⟨E,F,dk,_⟩:=h.dk.c;obtain⟨x,f3⟩:=h.dk.fd;obtain⟨y,f4⟩:=h.dk.fn
 have hm:∀j f p,AE w j f p->j≠rb:=fun j f p o s=>by
  obtain⟨es,c,q,_⟩:=o.own;rw[s,hb] at q;cases q
 refine⟨⟨rs,l,o.one b r ⟨cs,fr,hb⟩,n⟩,h.log.at_ (b.block P m r),h.dk.Ak b.size (b.block D (Zaa dk.Au) (Zah dk.Au hb (by decide))) (b.block bd f3.lt (hm _ _ _ f3)) (b.block bn f4.lt (hm _ _ _ f4)) (fun k cs t fr e n=>b.block k (Zaa e) (Zah e hb (by rcases n with rfl | rfl<;>decide))),fun i hi=> ?_,h.Ix.at_ (b.block _ (by omega) (by omega)),h.ne⟩;have e:=b.block 1 (by omega) (by omega);exact (QEc (a:=⟨1,i,none⟩) e).trans (h.nm i hi)
theorem EF.one {b:World}{rb:Nat}(h:EF w b P B R D bd bn ob)(a:AA b w' rb)(n:w.heap.size<=rb):EF w w' P B R D bd bn ob :=
 ⟨a.os.trans h.os,a.tape.trans h.tape,a.output.trans h.output,Zv h.size a.size,fun k hk c f i j l m=>(a.block k (Zy hk h.size) (by omega)).trans (h.block k hk c f i j l m)⟩
theorem PG (w:World)(P B R D bd bn:Nat)(ob:Option Nat)(g:AQ)(d:Ax)(e:Ab)(h:AI qh w P B R D bd bn ob g d e) :
  Calls prog 97 #[.pointer (some ⟨P,0,none⟩)] w fun x w'=>x=.returned (.tuple #[.int .u64 e.time,.int .u64 e.Ar])/\ZY w w':=by
 have c:=Zz (Qe w P B ob e h.kp);clear h
 go_enter func97,ntmps97
 go_wp2_with (first
  | (go_at_call 107;refine (Zb0 _ P).mono ?_;rintro _ f ⟨rfl,a⟩;rw[a])
  | (go_at_call 141;refine c.o.mono ?_;rintro _ i ⟨rfl,hb⟩;have b:=Zz hb;clear hb))
 go_ret2
 exact⟨rfl,b.o⟩
def Ea (B0:Nat)(w':World)(e:Ab)(id:Int)(v:Value)(er:Int):Prop :=
 (e.find id=none/\v=IL 0 0 (.slice none 0 0) (.slice none 0 0)/\er=6)\/∃i a1 a2 c1 c2,e.find id=some i/\er=0/\v=IL id (e.at_ i).st (.slice a1 (e.at_ i).steps.length c1) (.slice a2 (e.at_ i).steps.length c2)/\w'.ownsRow B0 3 1 (.slice a1 (e.at_ i).steps.length c1) (e.at_ i).steps.length ((e.at_ i).sts.map (Value.int .i64))/\w'.ownsRow B0 3 1 (.slice a2 (e.at_ i).steps.length c2) (e.at_ i).steps.length ((e.at_ i).trs.map (Value.int .i64))
theorem Ea.form {B0:Nat}{id:Int}{v:Value}{b:Int}(h:Ea B0 w' e id v b):∃a st a1 n1 c1 a2 n2 c2,v=.agg #[.int .u64 a,.int .i64 st,.slice a1 n1 c1,.slice a2 n2 c2]:=by
 rcases h with⟨_,rfl,_⟩ | ⟨i,a1,a2,c1,c2,_,_,rfl,_⟩
 .exact⟨_,_,_,_,_,_,_,_,rfl⟩
 .exact⟨_,_,_,_,_,_,_,_,rfl⟩
theorem PN (w:World)(P B R D bd bn:Nat)(ob:Option Nat)(g:AQ)(d:Ax)(e:Ab)(id:Int)(h:AI qh w P B R D bd bn ob g d e) :
  Calls prog 73 #[.pointer (some ⟨P,0,none⟩),.int .u64 id] w fun x w'=>∃v l,x=.returned (.tuple #[v,AK l])/\Ea w.heap.size w' e id v l/\ZY w w':=by
 obtain⟨j,c⟩:∃j,j=w.alloc (.cells #[.int .u64 0,.int .i64 0,.slice none 0 0,.slice none 0 0] 50):=⟨_,rfl⟩;obtain⟨rb,r⟩:∃rb,rb=w.heap.size:=⟨_,rfl⟩;have q:ZY w j:=by rw[c];exact ZV.alloc ZU _
 have m:BD j rb 0 0 (.slice none 0 0) (.slice none 0 0):=⟨by rw[c,r];exact QFm w _⟩
 have L:=Zz (show Calls prog 115 #[.pointer (some ⟨P,4,none⟩),.int .u64 id] j fun x w'=>∃v l,x=.returned (.tuple #[v,AK l])/\Ea j.heap.size w' e id v l/\ZY j w' from by
  refine (Qi j P B ob e id (h.kp.below q)).mono ?_;rintro x w' ⟨⟨hf,rfl⟩ | ⟨i,a1,a2,c1,c2,hf,rfl,r1,r2⟩,hb⟩
  .exact⟨_,6,rfl,Zu ⟨hf,rfl,rfl⟩,hb⟩
  .exact⟨_,0,by rw[Zaw],Zj ⟨i,a1,a2,c1,c2,hf,rfl,rfl,r1,r2⟩,hb⟩)
 have k:=Zz (Zq m (Zq q (Zq r c)));clear h c r q m
 go_enter func73,ntmps73
 go_upto_region 1 with fail
 rw[<-k.o.2.2.1,<-k.o.2.2.2]
 go_wp2_with (first
  | (go_at_call 107;refine (Zb0 _ P).mono ?_;rintro _ Q ⟨rfl,G⟩;rw[G])
  | (go_at_call 115;refine L.o.mono ?_;rintro _ J ⟨v,l,rfl,F,hb⟩;obtain⟨f,st,a1,n1,c1,a2,n2,c2,rfl⟩:=F.form;have K:=Zz (Zq F hb);have u:=k.o.1.at_ (hb.block rb (Zaa k.o.1.Au));have s:=Zz u;obtain⟨⟨⟨f0,f1⟩,f2⟩,f3⟩:=u.AD;obtain⟨⟨⟨z0,S⟩,z2⟩,z3⟩:=u.cells;clear F hb u))
 (try simp only[Exit.inBlock,Exit.then])
 have t:=GO (s.o.set _ _ f st (.slice a1 n1 c1) (.slice a2 n2 c2));have b:=k.o.2.2.1;have E:ZY w ((((J.setCell ⟨rb,0,none⟩ (.int .u64 f)).setCell ⟨rb,1,none⟩ (.int .i64 st)).setCell ⟨rb,2,none⟩ (.slice a1 n1 c1)).setCell ⟨rb,3,none⟩ (.slice a2 n2 c2)):=((((k.o.2.1.trans (K.o.2.mono k.o.2.1.size)).setCell (p:=⟨rb,0,none⟩) (QJx b.symm) _).setCell (p:=⟨rb,1,none⟩) (QJx b.symm) _).setCell (p:=⟨rb,2,none⟩) (QJx b.symm) _).setCell (p:=⟨rb,3,none⟩) (QJx b.symm) _;refine QEz (v:=.tuple #[.agg #[.int .u64 f,.int .i64 st,.slice a1 n1 c1,.slice a2 n2 c2],AK l]) (by rw[results_cell_tmp rfl];simp[Result.andThen,asAddr,t]) rfl ?_;refine⟨_,l,rfl,?_,E⟩
 have a:∀{B0 n:Nat} {x:Value} {xs:List Value},J.ownsRow j.heap.size 3 1 x n xs->((((J.setCell ⟨rb,0,none⟩ (.int .u64 f)).setCell ⟨rb,1,none⟩ (.int .i64 st)).setCell ⟨rb,2,none⟩ (.slice a1 n1 c1)).setCell ⟨rb,3,none⟩ (.slice a2 n2 c2)).ownsRow w.heap.size 3 1 x n xs:=fun M =>
  Zcs (Zaf (Zaf (Zaf (Zaf M s.o.Au (by decide) _) (Zab s.o.Au _) (by decide) _) (Zab (Zab s.o.Au _) _) (by decide) _) (Zab (Zab (Zab s.o.Au _) _) _) (by decide) _) k.o.2.1.size
 rcases K.o.1 with⟨q1,H,I⟩ | ⟨i,y,z,A,C,q1,H,I,N,O⟩
 .exact Zu ⟨q1,H,I⟩
 .exact Zj ⟨i,y,z,A,C,q1,H,I,a (B0:=0) N,a (B0:=0) O⟩
def Lp (g:AQ)(d:Ax)(e:Ab)(x:Value)(g':AQ)(d':Ax)(e':Ab):Prop :=
 (e.Bl=none/\x=.tuple #[KP,.bool false,.nilIface]/\g'=g/\d'=d/\e'=e)\/∃p t tk e2 v,e.Bl=some (p,t,tk,e2)/\x=OM p t tk v/\v=Ec g d (AU 2 [] 0)/\g'=FD g d (AU 2 [] 0)/\d'=CN g d (AU 2 [] 0)/\e'=if v=0 then e2 else e
theorem QE (p:Ba)(t tk v:Int):∃a b c f x y,OM p t tk v=.tuple #[.agg #[.int .u64 a,.int .i64 b,.int .i64 c,.int .u64 f],.bool x,y]/\(y=.nilIface\/∃ty z,y=.iface ty z):=by
 unfold OM
 split
 .exact⟨_,_,_,_,_,_,rfl,Zu rfl⟩
 .exact⟨_,_,_,_,_,_,rfl,Fl v⟩
theorem Lp.form {j:AQ}{i:Ax}{e':Ab}{x:Value}(h:Lp g d e x j i e'):∃a b c f y z,x=.tuple #[.agg #[.int .u64 a,.int .i64 b,.int .i64 c,.int .u64 f],.bool y,z]/\(z=.nilIface\/∃ty u,z=.iface ty u):=by
 rcases h with⟨_,rfl,_⟩ | ⟨p,t,tk,k,v,_,rfl,_⟩
 .exact⟨0,0,0,0,false,.nilIface,rfl,Zu rfl⟩
 .exact QE p t tk v
theorem Sy (w:World)(P B R D bd bn M:Nat)(ob:Option Nat)(g:AQ)(d:Ax)(e:Ab)(h:AI qh w P B R D bd bn ob g d e)(ok:Aj e)(AZ:Az e)(f:Fit g d M) :
  Calls prog 102 #[.pointer (some ⟨P,0,none⟩)] w fun x w'=>∃v F E e' j,x=.returned v/\Lp g d e v F E e'/\AI qh w' P B R D bd bn j F E e'/\As w ob j/\EF w w' P B R D bd bn ob:=by
 obtain⟨W,u⟩:∃W,W=w.alloc (.cells #[.int .u64 0,.int .i64 0,.int .i64 0,.int .u64 0] 48):=⟨_,rfl⟩;obtain⟨rb,H⟩:∃rb,rb=w.heap.size:=⟨_,rfl⟩;have r:ZY w W:=by rw[u];exact ZV.alloc ZU _
 have k:DV W rb 0 0 0 0:=⟨by rw[u,H];exact QFm w _⟩;have S:=h.pl;have O:=h.ne.l.gl
 have HK:=Zz (show ∀m xb X,ZY W m->m.heap[xb]? =some (.cells #[.pointer (some ⟨P,0,none⟩)] 93 (0,0))->m.heap[X]? =some (.cells #[.int .i64 2,.int .u64 0,.string ⟨#[]⟩] 29 (0,0))->Calls prog 129 #[.pointer (some ⟨P,4,none⟩),.func (.func 149) #[] #[.pointer (some ⟨xb,0,none⟩),.pointer (some ⟨X,0,none⟩)]] m fun x w'=>∃v F E e' j,x=.returned v/\Lp g d e v F E e'/\AI qh w' P B R D bd bn j F E e'/\As w ob j/\EF w w' P B R D bd bn ob/\DV w' rb 0 0 0 0 from fun m xb X hb K Z=>by
  have q:ZY w m:=r.trans (hb.mono r.size);have G:=h.below q;have i:DV m rb 0 0 0 0:=k.at_ (hb.block rb (Zaa k.Au));have hk:=DH (op:=2) (N:=0) (data:=[]) (G.ok f) h.ne (by decide) (by decide) Dt (QBp _) K (by rw[<-DS];exact Z);refine (LP m P B ob e _ _ G.kp ok.wk hk (Zdp AZ.lr) AZ.lt).mono ?_;rintro x w' (⟨q1,rfl,C⟩ | ⟨p,t,tk,Y,v,I,aw,q1,rfl,C,q3,q4,q5⟩)
  .exact⟨_,g,d,e,ob,rfl,Zu ⟨q1,rfl,rfl,rfl,rfl⟩,G.below C,As.refl _ _,EF.Ae P B R D bd bn ob (q.trans (C.mono q.size)),i.at_ (C.block rb (Zaa i.Au))⟩
  .obtain⟨ax,au,kk,_⟩:=C
   have C:BX qh P B ob (KpL m P R D bd bn g d (AU 2 [] 0)) e Y v I:=⟨ax,au,kk,by assumption⟩;obtain⟨k1,⟨j,k2,k3⟩,k4⟩:=h.kept q C;have V:=Zaa i.Au;have az:=q.size;have aj:rb≠aw:=by omega
   have ag:EF m I P B R D bd bn ob:=(G.kept ZV C).2.2
   have T:I.heap[rb]? =m.heap[rb]? :=by
    obtain⟨pa,pc,dk,_⟩:=G.dk.c;obtain⟨Dd,f3⟩:=G.dk.fd;obtain⟨Dn,f4⟩:=G.dk.fn
    have hm:∀bm f Dx,AE m bm f Dx->rb≠bm:=fun bm f Dx K Y=>by
     obtain⟨es,c,e3,_⟩:=K.own;rw[<-Y,i.Au] at e3;cases e3
    exact ag.block rb V (by omega) (Zah i.Au dk.Au (by decide)) (hm _ _ _ f3) (hm _ _ _ f4) (Zj (fun cs fr e=>by rw[i.Au] at e;simp only[QCf,Obj.cells.injEq] at e;exact absurd e.2.1 (by decide))) (Zj ⟨_,_,_,i.Au,by decide,by decide,by decide,by decide,by decide,fun x=>absurd x (by decide)⟩)
   have A:DV I rb 0 0 0 0:=i.at_ T;exact⟨_,_,_,_,j,rfl,Zj ⟨p,t,tk,Y,v,q1,rfl,k1,rfl,rfl,rfl⟩,k2.one q3 (by omega) q5 (by omega),k3,k4.one q3 (by omega),A.at_ (q3.block rb (Zaa A.Au) aj)⟩)
 have n:=Zz (Zq k (Zq r (Zq H (Zq u (Zq S O)))));clear h ok AZ f u H r k S O
 go_enter func102,ntmps102
 go_upto_region 1 with fail
 rw[<-n.o.2.2.1,<-n.o.2.2.2.1]
 go_wp2_with (first
  | (go_at_call 107;refine (Zb0 _ P).mono ?_;rintro _ w1 ⟨rfl,ar⟩;rw[ar])
  | (go_at_call 109;refine (Zdm _ P 2 0 ⟨#[]⟩).mono ?_;rintro _ m ⟨xb,X,rfl,K,Z,hb⟩;have HC:=Zz (Zq hb (Zq K Z));clear K Z hb)
  | (go_at_call 129;refine (HK.o _ _ _ HC.o.1 HC.o.2.1 HC.o.2.2).mono ?_;rintro _ I ⟨v,F,E,e',j,rfl,hp,h3,Q,L,s⟩;obtain⟨a,b,c,fx,y,z,rfl,hz⟩:=hp.form;have J:=Zz (Zq hp (Zq h3 (Zq Q (Zq L s))));obtain⟨⟨⟨f0,f1⟩,f2⟩,f3⟩:=s.AD;obtain⟨⟨⟨z0,z1⟩,z2⟩,z3⟩:=s.cells;clear hp h3 Q L s))
 have U:=Fh (J.o.2.2.2.2.set a b c fx);have ay:=n.o.1;have hP:P≠rb:=by have:=n.o.2.2.2.2.1;have:=n.o.2.2.1;omega
 have al:4<rb:=by have:=n.o.2.2.2.2.2;have:=n.o.2.2.2.2.1;have:=n.o.2.2.1;omega
 have hw:=n.o.2.2.2.1;have ae:=J.o.2.2.2.2.Au;refine QEz (v:=.tuple #[.agg #[.int .u64 a,.int .i64 b,.int .i64 c,.int .u64 fx],.bool y,z]) (by rw[Zbo rfl];simp[Result.andThen,asAddr,U]) rfl ?_;exact⟨_,F,E,e',j,rfl,J.o.1,J.o.2.1.one (AA.Jo I rb _ _ _ _) hP ⟨_,_,ae⟩ al,J.o.2.2.1,J.o.2.2.2.1.one (AA.Jo I rb _ _ _ _) (by have:=n.o.2.2.2.2.1;have:=n.o.2.2.1;omega)⟩
