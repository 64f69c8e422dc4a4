import Derived.Test.YtgdcjccbdmcebaaGreatDoorM36
import Derived.Test.YtgdcjccbdmcebaaGreatDoorM39
set_option linter.unusedSimpArgs false
set_option linter.unusedVariables false
set_option maxHeartbeats 8000000
set_option maxRecDepth 100000
open Go.Proofs.Tryz
namespace Go.Proofs.YtgdcjccbdmcebaaGreatDoor
open Go.RowKit
attribute [local go_sem ↓] Go.wp_at_zero Go.wp_at_succ
variable {ob:Option Nat}{w w':World}{bd bn P R D B:Nat}{g:AS}{d:Ay}{op:Int}{e:Ab}
structure KNe (P B R D bd bn:Nat):Prop where
 l:LNe P R D bd bn
 p:P<B
 d:D<B
 md:bd<B
 mn:bn<B
theorem NF.RP (h:LF w w' P R D bd bn)(hn:KNe P B R D bd bn):NF w w' P B:=by
 refine⟨h.size,h.off,h.AE,fun k cs t fr j e f=>h.block k (Zaa e) (by have:=hn.p;omega) (by have:=hn.d;omega) (by have:=hn.md;omega) (by have:=hn.mn;omega) (Zj (fun a b e'=> ?_)),fun k es c j e=>h.block k (Zaa e) (by have:=hn.p;omega) (by have:=hn.d;omega) (by have:=hn.md;omega) (by have:=hn.mn;omega) (Zj (fun a b e'=>by rw[e] at e';cases e'))⟩;rw[e] at e';simp only[Option.some.injEq,Obj.cells.injEq] at e';have i:=e'.2.1;rw[i] at f;unfold Rl at f
 revert f
 decide
structure LOk (w:World)(P R D bd bn M:Nat)(g:AS)(d:Ay):Prop where
 log:Bp w P D g
 dk:Av w R D bd bn d
 pl:P<w.heap.size
 Bs:d.Ap.length<8
 at_:g.at_<3
 short:g.short<=100000
 nm:Za4 w
 s1:Hr d.CJ M
 s2:Hr d.now M
 s3:∀o∈d.Ap,o.data.length<=M
 m1:M<=1000000000000
 m2:2000000<=M
theorem LOk.below {M:Nat}(h:LOk w P R D bd bn M g d)(a:Below w.heap.size w w'):LOk w' P R D bd bn M g d :=
 ⟨h.log.at_ (a.block P h.pl),h.dk.below a,Zy h.pl a.size,h.Bs,h.at_,h.short,fun i hi=>cell_later a (h.nm i hi),h.s1,h.s2,h.s3,h.m1,h.m2⟩
def KpL (w:World)(P R D bd bn:Nat)(g:AS)(d:Ay)(l:List Int)(v:Int)(w':World):Prop:=v=Ea g d l/\Bp w' P D (FH g d l)/\Av w' R D bd bn (CO g d l)/\LF w w' P R D bd bn
theorem Ip {data:List Int}{n:Nat}(b:0<=op/\op<256)(c:BB data):BB (AX op data n):=by
 unfold AX;intro x a;rw[List.cons_append] at a;rcases List.mem_cons.1 a with rfl | a
 ·exact b
 ·rcases List.mem_append.1 a with a | a
  ·exact c x a
  ·exact VD n x a
theorem Zdu {data:List Int}{n:Nat}(hn:n<18446744073709551616):1<=(AX op data n).length/\(AX op data n).length<=data.length+9:=by
 have:=Zd7 8 n hn;unfold AX;rw[List.cons_append,List.length_cons,ZX];omega
theorem Ql (w:World)(P R D bd bn M E m:Nat)(g:AS)(d:Ay)(op:Int)(N:Nat)(data:List Int)(h:LOk w P R D bd bn M g d)(hn:LNe P R D bd bn)(z:0<=op/\op<256)(Q:N<18446744073709551616)(S:BB data)(T:data.length<=900000)(i:w.heap[E]? =some (.cells #[.pointer (some ⟨P,0,none⟩)] 93 (0,0)))(r:w.heap[m]? =some (.cells #[.int .i64 op, .int .u64 N, .string (Zbm data)] 29 (0,0))) :
  Calls prog 149 #[.pointer (some ⟨E,0,none⟩), .pointer (some ⟨m,0,none⟩)] w fun x w'=>∃v,x= .returned (AH v)/\KpL w P R D bd bn g d (AX op data N) v w':=by
 obtain⟨sd,A⟩:∃sd,sd=Zbm data:=⟨_,rfl⟩;rw[<-A] at r;obtain⟨l,hl⟩:∃l,l=AX op data N:=⟨_,rfl⟩;obtain⟨n,y⟩:∃n,n=l.length:=⟨_,rfl⟩
 have H:=Zz (show ∀wx,Calls prog 151 #[.agg #[.int .i64 op, .int .u64 N, .string sd]] wx fun x w'=>∃g c,x= .returned (.slice (some ⟨g,0,none⟩) n c)/\Al wx.heap.size w' (.slice (some ⟨g,0,none⟩) n c) l/\Below wx.heap.size wx w' from fun wx=>by
  have:=QR wx op N data z Q S (by omega);rw[<-hl,<-y,<-A] at this;exact this)
 have j:=Zz (show ∀wx,Below w.heap.size w wx->∀B0 rg rc,Al B0 wx (.slice (some ⟨rg,0,none⟩) n rc) l->Calls prog 150 #[.pointer (some ⟨P,0,none⟩), .slice (some ⟨rg,0,none⟩) n rc] wx fun x w'=>x= .returned (AH (Ea g d l))/\KpL w P R D bd bn g d l (Ea g d l) w'/\w'.heap[E]? =w.heap[E]? /\w'.heap[m]? =w.heap[m]? from fun wx W B0 rg rc Y=>by
  have K:=i;have i:=h.below W;have hlen:=Zdu (op:=op) (data:=data) Q;rw[<-hl] at hlen;rw[y] at Y ⊢;refine (Vy wx P R D bd bn B0 rg rc M g d l i.log i.dk hn i.pl i.Bs i.at_ i.short i.nm Y (by rw[hl];exact Ip z S) hlen.1 (by omega) i.s1 i.s2 i.s3 i.m1 i.m2).mono ?_;rintro x w' ⟨rfl,q1,q2,q3⟩;have hf:=(LF.Ae R D bd bn W h.pl).trans q3;obtain⟨pa,pc,dk,_⟩:=h.dk.c;obtain⟨Dd,f3⟩:=h.dk.fd;obtain⟨Dn,f4⟩:=h.dk.fn
  have stay:∀(k:Nat) (cs:Array Value) (t:TypeId) (fr:Nat×Nat),w.heap[k]? =some (Obj.cells cs t fr)->k≠P->t≠92->t≠210->w'.heap[k]? =w.heap[k]? :=fun k cs t fr e U t1 t3=>by
   have hm:∀O f V,AB w O f V->k≠O:=fun O f V i e2=>by
    obtain⟨es,c,F,_⟩:=i.own;rw[<-e2,e] at F;cases F
   exact hf.block k (Zaa e) U (Zai e dk.Au t1) (hm _ _ _ f3) (hm _ _ _ f4) (Zj (fun ag aj F=>by rw[e] at F;simp only[Option.some.injEq,Obj.cells.injEq] at F;exact t3 F.2.1))
  exact⟨rfl,⟨rfl,q1,q2,hf⟩,stay E _ _ _ K (fun e=>by
   have c1:=h.log.c1;rw[<-e] at c1;have:=Zaj K 1;rw[this] at c1;simp at c1) (by decide) (by decide),stay m _ _ _ r (fun e=>by
   have c1:=h.log.c3;rw[<-e] at c1;have:=Zaj r 3;rw[this] at c1;simp at c1) (by decide) (by decide)⟩)
 have u0:=Zaj i 0;have c0:=Zaj r 0;have c1:=Zaj r 1;have c2:=Zaj r 2;have ae:=Zz (Zq i r);obtain⟨I,u⟩:∃I,I=Ea g d l:=⟨_,rfl⟩;rw[<-u] at j;have p:=Fm I;obtain⟨Z,C⟩:∃Z,Z=AH I:=⟨_,rfl⟩;rw[<-C] at j p;rw[<-hl];have HV:=Zz (Zq C u);clear h hn z Q S T i r A hl y u C;rcases p with rfl | ⟨ty,xv,rfl⟩
 all_goals
  go_enter func149,ntmps149
  go_upto_region 3 with fail
  go_region_held3 (fun w'=>((w'.cell? ⟨E,0,none⟩=some (.pointer (some ⟨P,0,none⟩))/\w'.cell? ⟨m,0,none⟩=some (.int .i64 op))/\w'.cell? ⟨m,1,none⟩=some (.int .u64 N))/\w'.cell? ⟨m,2,none⟩=some (.string sd)) (go_keep) ((first
   | (go_at_call 151;refine (H.o _).mono ?_;rintro _ w2 ⟨rg,rc,rfl,J,s⟩;have b:Below w.heap.size w w2:=(by first | exact s | exact ((Zk _ _).drew).trans' s);have y0:=cell_later b u0;have y1:=cell_later b c0;have y2:=cell_later b c1;have y3:=cell_later b c2;have G:=Zz (Zq J b);clear J s b)
   | (go_at_call 150;refine (j.o _ G.o.2 _ _ _ G.o.1).mono ?_;rintro _ w3 ⟨rfl,X,L,q⟩;have HK:=Zz X;have z0:=(World.cell?_of_block (a:=⟨E,0,none⟩) L).trans u0;have z1:=(World.cell?_of_block (a:=⟨m,0,none⟩) q).trans c0;have z2:=(World.cell?_of_block (a:=⟨m,1,none⟩) q).trans c1;have z3:=(World.cell?_of_block (a:=⟨m,2,none⟩) q).trans c2;clear X L q)))
  all_goals
   clear u0 c0 c1 c2 z0 z1 z2 z3;go_wp2_with fail
   go_ret
   exact⟨I,by rw[<-HV.o.1];rfl,HK.o⟩
theorem ER {M c a:Nat}{N:Nat}{data:List Int}(h:LOk w P R D bd bn M g d)(hn:KNe P B R D bd bn)(j:0<=op/\op<256)(p:N<18446744073709551616)(q:BB data)(i:data.length<=900000)(n:w.heap[c]? =some (.cells #[.pointer (some ⟨P,0,none⟩)] 93 (0,0)))(m:w.heap[a]? =some (.cells #[.int .i64 op, .int .u64 N, .string (Zbm data)] 29 (0,0))) :
  ED w P B 149 #[.pointer (some ⟨c,0,none⟩), .pointer (some ⟨a,0,none⟩)] (KpL w P R D bd bn g d (AX op data N)):=by
 refine⟨fun wx=>by kernel_rfl,fun wx b=> ?_⟩;have k:=(b.block c (Zaa n)).trans n;have f:=(b.block a (Zaa m)).trans m;refine (Ql wx P R D bd bn M c a g d op N data (h.below b) hn.l j p q i k f).mono ?_;rintro x w' ⟨v,rfl,q1,r,s,o⟩;exact⟨v,rfl,NF.RP o hn,q1,r,s,(LF.Ae R D bd bn b h.pl).trans o⟩
structure EF (w w':World)(P B R D bd bn:Nat)(ob:Option Nat):Prop where
 os:w'.os=w.os
 tape:w'.tape=w.tape
 output:w'.output=w.output
 size:w.heap.size<=w'.heap.size
 block:∀k,k<w.heap.size->k≠P->k≠D->k≠bd->k≠bn->(k<R\/∀cs fr,w.heap[k]? ≠some (.cells cs 210 fr))->(k<B\/∃cs t fr,w.heap[k]? =some (.cells cs t fr)/\t≠288/\t≠274/\t≠266/\t≠272/\t≠276/\(t=27->some k≠ob))->w'.heap[k]? =w.heap[k]?
theorem EF.Ae (P B R D bd bn:Nat)(ob:Option Nat)(h:Below w.heap.size w w'):EF w w' P B R D bd bn ob:=⟨h.os,h.tape,h.output,h.size,fun k a _ _ _ _ _ _=>h.block k a⟩
theorem EF.RP (B:Nat)(ob:Option Nat)(h:LF w w' P R D bd bn):EF w w' P B R D bd bn ob:=⟨h.os,h.tape,h.output,h.size,fun k j a b c f i _=>h.block k j a b c f i⟩
theorem EF.of_kf (R D bd bn:Nat)(h:KF w w' P B ob):EF w w' P B R D bd bn ob:=⟨h.os,h.tape,h.output,h.size,fun k c a _ _ _ _ b=>h.block k c a b⟩
theorem EF.trans {x y z:World}{a:Option Nat}(h:EF x y P B R D bd bn ob)(g:EF y z P B R D bd bn a)(p:As x ob a):EF x z P B R D bd bn ob:=by
 refine⟨g.os.trans h.os,g.tape.trans h.tape,g.output.trans h.output,Zv h.size g.size,fun k o i j l m b c=> ?_⟩;have e:=h.block k o i j l m b c;refine (g.block k (Zy o h.size) i j l m (b.imp id (fun b cs fr=>by rw[e];exact b cs fr)) ?_).trans e;rcases c with c | ⟨cs,t,fr,q1,r,s,u,v,A,C⟩
 ·exact Zu c
 ·refine Zj ⟨cs,t,fr,e.trans q1,r,s,u,v,A,fun q f=> ?_⟩
  rcases p k f.symm with n | n
  ·exact C q n.symm
  ·omega
structure AK (w:World)(P B R D bd bn:Nat)(ob:Option Nat)(g:AS)(d:Ay)(e:Ab):Prop where
 kp:BY w P B ob e
 log:Bp w P D g
 dk:Av w R D bd bn d
 nm:Za4 w
 Je:AL w
 ne:KNe P B R D bd bn
theorem AK.pl (h:AK w P B R D bd bn ob g d e):P<B/\B<=w.heap.size:=by
 obtain⟨rs,l,b,_⟩:=h.kp;obtain⟨_,_,a,_,_⟩:=b.ex;exact a.pb
theorem AK.below (h:AK w P B R D bd bn ob g d e)(a:Below w.heap.size w w'):AK w' P B R D bd bn ob g d e:=by
 obtain⟨c,f⟩:=h.pl;have b:=h.ne.l.gl;refine⟨h.kp.below a,h.log.at_ (a.block P (by omega)),h.dk.below a,fun i hi=>cell_later a (h.nm i hi),h.Je.at_ (a.block _ (by omega)),h.ne⟩
structure Fit (g:AS)(d:Ay)(M:Nat):Prop where
 Bs:d.Ap.length<8
 at_:g.at_<3
 short:g.short<=100000
 s1:Hr d.CJ M
 s2:Hr d.now M
 s3:∀o∈d.Ap,o.data.length<=M
 m1:M<=1000000000000
 m2:2000000<=M
theorem AK.ok {M:Nat}(h:AK w P B R D bd bn ob g d e)(f:Fit g d M):LOk w P R D bd bn M g d :=
 ⟨h.log,h.dk,by have:=h.pl;omega,f.Bs,f.at_,f.short,h.nm,f.s1,f.s2,f.s3,f.m1,f.m2⟩
theorem log_kf (hf:KF w w' P B ob)(hn:KNe P B R D bd bn)(h:P<w.heap.size)(hl:Bp w P D g)(b:Av w R D bd bn d)(n:Za4 w)(f:AL w)(G:B<=w.heap.size):Bp w' P D g/\Av w' R D bd bn d/\Za4 w'/\AL w':=by
 have E:=hn.l.gl;have hp:=hn.p;refine⟨⟨(hf.off h 0 (by omega)).trans hl.c0,(hf.off h 1 (by omega)).trans hl.c1,(hf.off h 2 (by omega)).trans hl.c2,(hf.off h 3 (by omega)).trans hl.c3,fun o=>(hf.AE h o).trans (hl.fz o)⟩,?_,fun i hi=> ?_,f.at_ (hf.block _ (by omega) (by omega) (Zu (by omega)))⟩
 ·have F:∀k j,w.heap[k]? =some j->k<w.heap.size:=fun k j e=>Zaa e
  obtain⟨u,v,dk,_⟩:=b.c;obtain⟨A,f3⟩:=b.fd;obtain⟨C,f4⟩:=b.fn;obtain⟨u,v,q1,z⟩:=b.c;have stay:∀(k:Nat) (cs:Array Value) (t:TypeId) (fr:Nat×Nat),w.heap[k]? =some (Obj.cells cs t fr)->k≠P->(t=9\/t=210)->w'.heap[k]? =w.heap[k]? :=fun k cs t fr e m f=>hf.block k (Zaa e) m (Zj ⟨cs,t,fr,e,by rcases f with rfl | rfl<;>decide,by rcases f with rfl | rfl<;>decide,by rcases f with rfl | rfl<;>decide,by rcases f with rfl | rfl<;>decide,by rcases f with rfl | rfl<;>decide,fun x=>by rcases f with rfl | rfl<;>exact absurd x (by decide)⟩)
  have q:∀k s,Zde w k s->w'.heap[k]? =w.heap[k]? :=fun k s e=>stay k _ _ _ e (fun y=>by
   have c1:=hl.c1;rw[<-y] at c1;have:=Zaj e 1;rw[this] at c1;simp at c1) (Zu rfl)
  refine⟨Zv b.rs hf.size,⟨u,v,q1.at_ (hf.block D (Zaa q1.Au) (Ne.symm hn.l.d) (Zu hn.d)),z.1,?_⟩,⟨A,f3.Et (hf.block bd f3.lt (Ne.symm hn.l.md) (Zu hn.md)) q⟩,⟨C,f4.Et (hf.block bn f4.lt (Ne.symm hn.l.mn) (Zu hn.mn)) q⟩,b.ne,b.Bs,b.ops⟩;rcases z.2 with x | ⟨g,cap,cur,x,hg,hh,r⟩
  ·exact Zu x
  ·exact Zj ⟨g,cap,cur,x,hg,(stay g _ _ _ hh (by have:=hn.l.r;omega) (Zj rfl)).trans hh,r⟩
 ·have e:=hf.block 1 (by omega) (by omega) (Zu (by omega))
  exact (World.cell?_of_block (a:=⟨1,i,none⟩) e).trans (n i hi)
theorem AK.kept {s:World}{p:Ab}{l:List Int}{v:Int}(h:AK w P B R D bd bn ob g d e)(m:Below w.heap.size w s)(n:BX P B ob (KpL s P R D bd bn g d l) e p v w') :
  v=Ea g d l/\(∃b,AK w' P B R D bd bn b (FH g d l) (CO g d l) (if v=0 then p else e)/\As w ob b)/\EF w w' P B R D bd bn ob:=by
 obtain⟨t,b,⟨k1,k2,k3,k4⟩,u,q,y⟩:=n;have j:=h.below m;obtain⟨p1,p2⟩:=j.pl;have z:=h.ne.l.gl;have G:=h.ne.l.r
 have f:Za4 t:=fun i hi=>by
  have e:=k4.block 1 (by omega) (by omega) (by omega) (by omega) (by omega) (Zu (by omega));exact (World.cell?_of_block (a:=⟨1,i,none⟩) e).trans (j.nm i hi)
 have c:AL t:=j.Je.at_ (k4.block 2 (by omega) (by omega) (by omega) (by omega) (by omega) (Zu (by omega)));have A:=k4.size;obtain⟨q1,C,E,F⟩:=log_kf q h.ne (by omega) k2 k3 f c (by omega);have o:As w ob b:=fun k n=>(y k n).imp id (fun x=>by have:=m.size;omega)
 exact⟨k1,⟨b,⟨u,q1,C,E,F,h.ne⟩,o⟩,((EF.Ae P B R D bd bn ob m).trans (EF.RP B ob k4) (As.refl _ _)).trans (EF.of_kf R D bd bn q) (As.refl _ _)⟩
theorem Zci (w:World)(P:Nat):Calls prog 107 #[.pointer (some ⟨P,0,none⟩)] w fun x w'=>x= .returned (.pointer (some ⟨P,4,none⟩))/\w'=w:=by
 go_enter func107,ntmps107
 go_wp2_with fail
 go_ret
 exact⟨rfl,rfl⟩
theorem Zej (w:World)(P:Nat)(op:Int)(N:Nat)(s:ByteArray):Calls prog 109 #[.pointer (some ⟨P,0,none⟩), .agg #[.int .i64 op, .int .u64 N, .string s]] w fun x w'=>∃b a,x= .returned (.func (.func 149) #[] #[.pointer (some ⟨b,0,none⟩), .pointer (some ⟨a,0,none⟩)])/\w'.heap[b]? =some (.cells #[.pointer (some ⟨P,0,none⟩)] 93 (0,0))/\w'.heap[a]? =some (.cells #[.int .i64 op, .int .u64 N, .string s] 29 (0,0))/\Below w.heap.size w w':=by
 have c:∀(fn:Fn) (first cap:Array Value) (w:World),(Instr.makeFunc fn first cap).run prog w= .ok (.func fn first cap) w:=fun _ _ _ _=>rfl
 go_enter func109,ntmps109
 go_wp2_with fail
 go_ret
 refine⟨_,_,rfl,?_,?_,((Zk _ _).alloc (Zx _) _).alloc (by simp) _⟩
 ·rw[Zao _ _ _ (by simp)];exact heap_alloc_new w _
 ·exact Zbk _ _ _ _ (by simp)
def JG (g:AS)(d:Ay)(e:Ab)(l:List Int)(er:Int)(r:Option Ab)(v:Int)(g':AS)(d':Ay)(e':Ab):Prop:=(r=none/\v=er/\g'=g/\d'=d/\e'=e)\/∃e2,r=some e2/\v=Ea g d l/\g'=FH g d l/\d'=CO g d l/\e'=if v=0 then e2 else e
structure AD (e:Ab):Prop where
 lr:e.Ah<18446744073709551615
 lt:e.Ai<18446744073709551615
 s0:0<=e.At
 s1:e.At<18446744073709551616
theorem Zd6 {a:Int}(h:a<18446744073709551615):a<18446744073709551616:=Int.lt_trans h (by decide)
theorem Fy:(⟨#[]⟩:ByteArray)=Zbm []:=rfl
theorem EG:BB []:=fun _ h=>by cases h
theorem Lc (w:World)(P B R D bd bn M:Nat)(ob:Option Nat)(g:AS)(d:Ay)(e:Ab)(N:Nat)(h:AK w P B R D bd bn ob g d e)(ok:Ak e)(AQ:AD e)(f:Fit g d M)(r:N<18446744073709551616) :
  Calls prog 68 #[.pointer (some ⟨P,0,none⟩), .int .u64 N] w fun x w'=>∃v b d' e' a,x= .returned (AH v)/\JG g d e (AX 4 [] N) 7 (e.complete N) v b d' e'/\AK w' P B R D bd bn a b d' e'/\As w ob a/\EF w w' P B R D bd bn ob:=by
 have t:=Zz (show ∀i n j,Below w.heap.size w i->i.heap[n]? =some (.cells #[.pointer (some ⟨P,0,none⟩)] 93 (0,0))->i.heap[j]? =some (.cells #[.int .i64 4, .int .u64 N, .string ⟨#[]⟩] 29 (0,0))->Calls prog 110 #[.pointer (some ⟨P,4,none⟩), .int .u64 N, .func (.func 149) #[] #[.pointer (some ⟨n,0,none⟩), .pointer (some ⟨j,0,none⟩)]] i fun x w'=>∃v b d' e' a,x= .returned (AH v)/\JG g d e (AX 4 [] N) 7 (e.complete N) v b d' e'/\AK w' P B R D bd bn a b d' e'/\As w ob a/\EF w w' P B R D bd bn ob from fun i n j c l k=>by
  have q:=h.below c;have z:=ER (op:=4) (data:=[]) (q.ok f) h.ne (by decide) r EG (Nat.zero_le _) l (by rw[<-Fy];exact k);refine (FM i P B ob e N _ _ q.kp ok.wk z (Zd6 AQ.lr)).mono ?_;rintro x w' (⟨q1,rfl,m⟩ | ⟨v,y,q1,rfl,m⟩)
  ·exact⟨7,g,d,e,ob,rfl,Zu ⟨q1,rfl,rfl,rfl,rfl⟩,q.below m,As.refl _ _,EF.Ae P B R D bd bn ob (c.trans (m.mono c.size))⟩
  ·obtain⟨k1,⟨a,k2,k3⟩,k4⟩:=h.kept c m
   exact⟨v,_,_,_,a,rfl,Zj ⟨y,q1,k1,rfl,rfl,rfl⟩,k2,k3,k4⟩)
 clear h ok AQ f r
 go_enter func68,ntmps68
 go_wp2_with (first
  | (go_at_call 107;refine (Zci _ P).mono ?_;rintro _ A ⟨rfl,rfl⟩)
  | (go_at_call 109;refine (Zej _ P 4 N ⟨#[]⟩).mono ?_;rintro _ i ⟨n,j,rfl,l,k,c⟩;have p:=Zz (Zq c (Zq l k));clear l k c)
  | (go_at_call 110;refine (t.o _ _ _ p.o.1 p.o.2.1 p.o.2.2).mono ?_;rintro _ C ⟨v,b,d',e',a,rfl,s⟩;have u:=Zz s;clear s))
 go_ret
 exact⟨v,b,d',e',a,rfl,u.o⟩
theorem SB (w:World)(P B R D bd bn M:Nat)(ob:Option Nat)(g:AS)(d:Ay)(e:Ab)(N:Nat)(h:AK w P B R D bd bn ob g d e)(ok:Ak e)(AQ:AD e)(f:Fit g d M)(r:N<18446744073709551616) :
  Calls prog 69 #[.pointer (some ⟨P,0,none⟩), .int .u64 N] w fun x w'=>∃v b d' e' a,x= .returned (AH v)/\JG g d e (AX 5 [] N) 7 (e.fail N) v b d' e'/\AK w' P B R D bd bn a b d' e'/\As w ob a/\EF w w' P B R D bd bn ob:=by
 have t:=Zz (show ∀i n j,Below w.heap.size w i->i.heap[n]? =some (.cells #[.pointer (some ⟨P,0,none⟩)] 93 (0,0))->i.heap[j]? =some (.cells #[.int .i64 5, .int .u64 N, .string ⟨#[]⟩] 29 (0,0))->Calls prog 111 #[.pointer (some ⟨P,4,none⟩), .int .u64 N, .func (.func 149) #[] #[.pointer (some ⟨n,0,none⟩), .pointer (some ⟨j,0,none⟩)]] i fun x w'=>∃v b d' e' a,x= .returned (AH v)/\JG g d e (AX 5 [] N) 7 (e.fail N) v b d' e'/\AK w' P B R D bd bn a b d' e'/\As w ob a/\EF w w' P B R D bd bn ob from fun i n j c l k=>by
  have q:=h.below c;have z:=ER (op:=5) (data:=[]) (q.ok f) h.ne (by decide) r EG (Nat.zero_le _) l (by rw[<-Fy];exact k);refine (JW i P B ob e N _ _ q.kp ok.wk z (Zd6 AQ.lr) ⟨AQ.s0,AQ.s1⟩).mono ?_;rintro x w' (⟨q1,rfl,m⟩ | ⟨v,y,q1,rfl,m⟩)
  ·exact⟨7,g,d,e,ob,rfl,Zu ⟨q1,rfl,rfl,rfl,rfl⟩,q.below m,As.refl _ _,EF.Ae P B R D bd bn ob (c.trans (m.mono c.size))⟩
  ·obtain⟨k1,⟨a,k2,k3⟩,k4⟩:=h.kept c m
   exact⟨v,_,_,_,a,rfl,Zj ⟨y,q1,k1,rfl,rfl,rfl⟩,k2,k3,k4⟩)
 clear h ok AQ f r
 go_enter func69,ntmps69
 go_wp2_with (first
  | (go_at_call 107;refine (Zci _ P).mono ?_;rintro _ A ⟨rfl,rfl⟩)
  | (go_at_call 109;refine (Zej _ P 5 N ⟨#[]⟩).mono ?_;rintro _ i ⟨n,j,rfl,l,k,c⟩;have p:=Zz (Zq c (Zq l k));clear l k c)
  | (go_at_call 111;refine (t.o _ _ _ p.o.1 p.o.2.1 p.o.2.2).mono ?_;rintro _ C ⟨v,b,d',e',a,rfl,s⟩;have u:=Zz s;clear s))
 go_ret
 exact⟨v,b,d',e',a,rfl,u.o⟩
theorem SH (w:World)(P B R D bd bn M:Nat)(ob:Option Nat)(g:AS)(d:Ay)(e:Ab)(N:Nat)(h:AK w P B R D bd bn ob g d e)(ok:Ak e)(AQ:AD e)(f:Fit g d M)(z:N<18446744073709551616) :
  Calls prog 71 #[.pointer (some ⟨P,0,none⟩), .int .u64 N] w fun x w'=>∃v i d' e' a,x= .returned (AH v)/\(∃c,(v=0->BU e N c)/\v=Ea g d (AX 7 [] N)/\i=FH g d (AX 7 [] N)/\d'=CO g d (AX 7 [] N)/\e'=if v=0 then c else e)/\AK w' P B R D bd bn a i d' e'/\As w ob a/\EF w w' P B R D bd bn ob:=by
 have C:=Zz (show ∀b t m,Below w.heap.size w b->b.heap[t]? =some (.cells #[.pointer (some ⟨P,0,none⟩)] 93 (0,0))->b.heap[m]? =some (.cells #[.int .i64 7, .int .u64 N, .string ⟨#[]⟩] 29 (0,0))->Calls prog 113 #[.pointer (some ⟨P,4,none⟩), .int .u64 N, .func (.func 149) #[] #[.pointer (some ⟨t,0,none⟩), .pointer (some ⟨m,0,none⟩)]] b fun x w'=>∃v i d' e' a,x= .returned (AH v)/\(∃c,(v=0->BU e N c)/\v=Ea g d (AX 7 [] N)/\i=FH g d (AX 7 [] N)/\d'=CO g d (AX 7 [] N)/\e'=if v=0 then c else e)/\AK w' P B R D bd bn a i d' e'/\As w ob a/\EF w w' P B R D bd bn ob from fun b t m k s q=>by
  have n:=h.below k;have G:=ER (op:=7) (data:=[]) (n.ok f) h.ne (by decide) z EG (Nat.zero_le _) s (by rw[<-Fy];exact q);have F:=h.ne.l.gl;have H:=h.ne.p;have j:∀w',KpL b P R D bd bn g d (AX 7 [] N) 0 w'->AL w':=fun w' y=>n.Je.at_ (y.2.2.2.block 2 (by have:=n.pl;omega) (by omega) (by omega) (by omega) (by omega) (Zu (by have:=h.ne.l.r;omega)))
  refine (LQ b P B ob e N _ _ _ n.kp ok G j (by omega) (by omega) (by omega) (by omega) (Zd6 AQ.lr) ⟨AQ.s0,AQ.s1⟩).mono ?_;rintro x w' ⟨v,c,rfl,q1,I⟩;obtain⟨k1,⟨a,k2,k3⟩,k4⟩:=h.kept k I;exact⟨v,_,_,_,a,rfl,⟨c,q1,k1,rfl,rfl,rfl⟩,k2,k3,k4⟩)
 clear h ok AQ f z
 go_enter func71,ntmps71
 go_wp2_with (first
  | (go_at_call 107;refine (Zci _ P).mono ?_;rintro _ J ⟨rfl,rfl⟩)
  | (go_at_call 109;refine (Zej _ P 7 N ⟨#[]⟩).mono ?_;rintro _ b ⟨t,m,rfl,s,q,k⟩;have u:=Zz (Zq k (Zq s q));clear s q k)
  | (go_at_call 113;refine (C.o _ _ _ u.o.1 u.o.2.1 u.o.2.2).mono ?_;rintro _ K ⟨v,i,d',e',a,rfl,A⟩;have E:=Zz A;clear A))
 go_ret
 exact⟨v,i,d',e',a,rfl,E.o⟩
end Go.Proofs.YtgdcjccbdmcebaaGreatDoor
