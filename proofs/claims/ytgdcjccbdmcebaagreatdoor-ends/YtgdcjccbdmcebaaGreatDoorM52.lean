import Derived.Test.YtgdcjccbdmcebaaGreatDoorM42
import Derived.Test.YtgdcjccbdmcebaaGreatDoorM49
import Derived.Test.YtgdcjccbdmcebaaGreatDoorM51
set_option linter.unusedSimpArgs false
set_option linter.unusedVariables false
set_option maxHeartbeats 16000000
set_option maxRecDepth 100000
open Go.Proofs.Tryz
namespace Go.Proofs.YtgdcjccbdmcebaaGreatDoor
open Go.RowKit
variable {ob:Option Nat}{w wx wy:World}{e e' e2:Ab}{hb bd bn wb D P B R N n:Nat}{F:Ad}{m:Int}{cs:Array Value}{y:Bool}
theorem UF (a:List Nat):a.length<=(Cf a).length:=by
 induction a with
 | nil=>exact Nat.zero_le _
 | cons v r b=>have:=Wa v;simp only[Cf,List.length_cons,ZX];omega
theorem Ed (a:1<=F.n):9<=(Zat F).length:=by
 rw[Ie];have c:=UF (Dh F)
 have d:9<=(Dh F).length:=by
  obtain⟨r,b⟩:=Km F 1 F.n a;have f:(Zdf F 1).length=7+F.an 0:=by simp[Zdf,Eh]
  simp only[Dh,ZX,List.length_cons,List.length_nil,b];omega
 omega
theorem De.chk (h:De F F.n)(a:1<=F.n)(b:F.n<=12):BL F 0 (-1):=Zj (Zj (Zj (Zj ⟨rfl,rfl,(h.ok a b).1,(h.ok a b).2.1,(h.ok a b).2.2⟩)))
theorem De.an (h:De F F.n)(a:1<=F.n)(b:F.n<=12):∀i,i<F.n->F.an i<=12:=fun i hi=>by have:=((h.ok a b).2.1 i hi).2.Uv;omega
theorem BQ.same {G:Ad}(h:BQ F)(r:G.dl=F.dl)(hn:G.n=F.n)(l:Ce F G F.n):BQ G:=by
 have q:∀j,j<G.n->AJ G j:=fun j a=>by
  have a:j<F.n:=by omega
  obtain⟨a1,a2,a3,a4,a5,x,z,A,a9,s,t,a12⟩:=h.node j a;have b:=l.bu j a;have c:=l.cl j a;have d:=l.be j a;have e:=l.ba j a;have f:=l.ca j a;have g:=l.ji j a;constructor<;>omega
 have p:∀j,j<G.n->AP G j:=fun j a=>by
  have a:j<F.n:=by omega
  intro k o;have o:k<F.an j:=by rw[l.an j a];exact o
  have:=h.SA j a k o;unfold CS at this ⊢;rw[<-l.af j a k o,hn];refine⟨this.1,this.2.1,fun u=> ?_⟩;rw[<-l.af j a (k - 1) (by omega)];exact this.2.2 u
 refine⟨⟨by rw[r];exact h.top.XG,by rw[r];exact h.top.dl2,by rw[hn];exact h.top.n1,by rw[hn];exact h.top.n2⟩,q,p,fun j a=> ?_⟩;have a:j<F.n:=by omega
 have key:∀i,Db F i->i<F.n->Db G i:=fun i hg=>by
  induction hg with
  | mk i _ v =>
   intro hi;refine .mk i fun k o=> ?_;have o:k<F.an i:=by rw[l.an i hi];exact o
   rw[<-l.af i hi k o];refine v k o ?_;have:=h.SA i hi k o;unfold CS at this;omega
 exact key j (h.gone j a) a
theorem BQ.chk (h:BQ F):BL F 0 (-1):=Zj (Zj (Zj (Zj ⟨rfl,rfl,h.top,fun j a=>⟨h.node j a,h.SA j a⟩,h.gone⟩)))
theorem BQ.nat (h:BQ F):∀i,i<F.n->Cp F i:=fun i hi=>RI h.top (h.node i hi) (h.SA i hi)
theorem My (h:BQ F){x y:Int}{G:Ad}(o:Cn (Zat F).length (BV (Zat F)) x y G):x=0/\G=Zah (Zat F).length (BV (Zat F))/\BQ G/\G.dl=F.dl/\G.n=F.n/\Ce F G F.n:=by
 obtain⟨⟨s,i⟩,c,d,f⟩:=back h.top h.nat;have g:=h.same c d f;have l:=g.chk;rcases o with⟨j,a,_⟩ | ⟨p,j,a,hp,_⟩ | ⟨p,j,a,hp,b,k,q⟩
 ·rw[i] at a;cases a
 ·rw[i] at a;cases a;omega
 ·obtain⟨rfl,rfl⟩:=b.one l
  rw[k rfl];exact⟨rfl,rfl,g,c,d,f⟩
def Oj:Ad:=⟨100,2,fun i=>if i=0 then 2 else 1,fun _=>9,fun _=>0,fun i=>if i=0 then 3 else 1,fun i=>if i=0 then 9 else 1,fun _=>0,fun i=>if i=0 then 0 else 1,fun _ _=>0⟩
theorem SX (h:∀i,i<F.n->∀k,k<F.an i->(F.af i k).toNat<i):∀i,i<F.n->Db F i:=by
 intro i
 induction i using Nat.strongRecOn with
 | _ i b=>exact fun hi=> .mk i fun k a=>b _ (h i hi k a) (by have:=h i hi k a;omega)
theorem Vd:BQ Oj:=by
 have a:∀j,j<Oj.n->j=0\/j=1:=fun j b=>by
  have:Oj.n=2:=rfl;omega
 refine⟨⟨by decide,by decide,by decide,by decide⟩,fun j b=> ?_,fun j b=> ?_,SX fun j b k c=> ?_⟩
 ·rcases a j b with rfl | rfl<;>(constructor<;>decide)
 ·rcases a j b with rfl | rfl
  ·intro k c;exact absurd c (by show ¬k<0;omega)
  ·intro k c
   obtain rfl:k=0:=by replace c:k<1:=c;omega
   exact⟨by decide,by decide,fun h=>absurd h (by decide)⟩
 ·rcases a j b with rfl | rfl
  ·exact absurd c (by show ¬k<0;omega)
  ·show (0:Int).toNat<1;decide
theorem f2_is {G:Ad}(b:G.dl=Oj.dl)(hn:G.n=Oj.n)(a:Ce Oj G Oj.n):Mm G :=
 ⟨hn,b,(a.bu 0 (by decide)).symm,(a.cl 0 (by decide)).symm,(a.cl 1 (by decide)).symm,(a.be 0 (by decide)).symm,(a.be 1 (by decide)).symm,(a.ba 0 (by decide)).symm,(a.ca 0 (by decide)).symm,(a.ji 0 (by decide)).symm,(a.an 0 (by decide)).symm,(a.an 1 (by decide)).symm,(a.af 1 (by decide) 0 (by decide)).symm⟩
open Go.RowKit
attribute [local go_sem ↓] Go.wp_at_zero Go.wp_at_succ
structure OW (w wx:World)(hb P B R D bd bn:Nat)(ob:Option Nat)(N:Nat)(e:Ab):Prop where
 host:Bd wx hb P B R D bd bn ob N e
 Dt:Below w.heap.size w wx
 Jr:(w.heap.size<=hb/\w.heap.size<=P/\w.heap.size<=D/\w.heap.size<=bd/\w.heap.size<=bn)/\w.heap.size<=B/\w.heap.size<=R
theorem OW.below (h:OW w wx hb P B R D bd bn ob N e)(a:Below wx.heap.size wx wy):OW w wy hb P B R D bd bn ob N e :=
 ⟨h.host.below a,h.Dt.trans (a.mono h.Dt.size),h.Jr⟩
theorem OW.call {b:Nat}{a:Option Nat}(h:OW w wx hb P B R D bd bn ob N e)(c:Bd wy hb P B R D bd bn a b e')(hf:EF wx wy P B R D bd bn ob):OW w wy hb P B R D bd bn a b e':=by
 refine⟨c,?_,h.Jr⟩;obtain⟨⟨f1,f2,f3,f4,f5⟩,f6,f7⟩:=h.Jr;have f:=h.Dt.size;exact⟨hf.os.trans h.Dt.os,hf.tape.trans h.Dt.tape,hf.output.trans h.Dt.output,Zv h.Dt.size hf.size,fun k d=>(hf.block k (by omega) (by omega) (by omega) (by omega) (by omega) (Zu (by omega)) (Zu (by omega))).trans (h.Dt.block k d)⟩
theorem Bd.box {w':World}{k:Nat}{t:TypeId}{fr:Nat×Nat}(h:Bd w hb P B R D bd bn ob N e)(hf:EF w w' P B R D bd bn ob)(b:w.heap[k]? =some (.cells cs t fr))(p:∃q x,cs[0]? =some (.int q x))(s:t≠210/\t≠288/\t≠274/\t≠266/\t≠272/\t≠276/\t≠27)(r:t≠92):w'.heap[k]? =some (.cells cs t fr):=by
 obtain⟨g,d,a,_⟩:=h.ex;obtain⟨z,A,dk,_⟩:=a.dk.c;obtain⟨u,f3⟩:=a.dk.fd;obtain⟨v,f4⟩:=a.dk.fn
 have hm:∀i f l,AB w i f l->k≠i:=fun i f l j e2=>by
  obtain⟨es,c,o,_⟩:=j.own;rw[<-e2,b] at o;cases o
 refine hf.Cx b ⟨fun x=> ?_,Zai b dk.Au r,hm _ _ _ f3,hm _ _ _ f4⟩ s;subst x;have c0:=a.log.c0;rw[Zaj b 0] at c0;obtain⟨q,x,j⟩:=p;rw[j] at c0;unfold Bw at c0
 cases c0
theorem IB.some_ {a b c f t d:Int}{p:AZ}(h:IB e a b c f y e')(he:e.Bk=some (p,t,d,e2)):a=p.run/\b=p.node/\c=t/\f=d/\y=true/\e'=e2:=by
 rcases h with⟨h,_⟩ | ⟨i,j,g,h,rfl,rfl,rfl,rfl,rfl⟩
 ·rw[he] at h;cases h
 ·rw[he] at h
  simp only[Option.some.injEq,Prod.mk.injEq] at h;obtain⟨rfl,rfl,rfl,rfl⟩:=h;exact⟨rfl,rfl,rfl,rfl,rfl,rfl⟩
theorem IB.none_ {a b c f:Int}(h:IB e a b c f y e')(he:e.Bk=none):a=0/\b=0/\c=0/\f=0/\y=false/\e'=e:=by
 rcases h with⟨_,h⟩ | ⟨g,i,d,h,_⟩
 ·exact h
 ·rw[he] at h;cases h
theorem Fx (w:World):Calls prog 13 #[] w fun x w'=>x= .returned (Zbl (-1) (-1) 0 0)/\Below w.heap.size w w':=by
 unfold Zbl
 go_enter func13,ntmps13
 go_wp2_with fail
 refine bodyPost_ret (results_cell_row rfl _ _ w.heap.size 35 #[.int .i64 (-1), .int .i64 (-1), .int .i64 0, .int .i64 0] (0,0) _ rfl (heap_alloc_new w _) underlying35 rfl rfl) rfl ⟨rfl,(Zk _ _).alloc (Zx _) _⟩
theorem PZ {nb ab:Nat}(f:AL w)(hg:2<w.heap.size)
  (hn:w.heap[nb]? =some (.cells #[.int .i64 2, .int .i64 9, .int .i64 0, .int .i64 3, .int .i64 9, .int .i64 0, .slice none 0 0, .int .i64 1, .int .i64 9, .int .i64 0, .int .i64 1, .int .i64 1, .int .i64 0, .slice (some ⟨ab,0,none⟩) 1 1] 130 (0,0)))
  (ha:w.heap[ab]? =some (.cells #[.int .i64 0] 3 (0,0))):EA w Oj (some ⟨nb,0,none⟩) 2 (fun i=>if i=0 then none else some ⟨ab,0,none⟩) (fun i=>if i=0 then 0 else 1):=by
 have b:∀j,j<Oj.n->j=0\/j=1:=fun j g=>by
  have:Oj.n=2:=rfl;omega
 have a:=fun j=>Zaj hn j;have c:=Zaj ha 0;refine⟨Zj ⟨nb,0,rfl,Zx _,by decide,Zaa hn,fun i hi=> ?_⟩,by decide,by decide,fun i hi h=> ?_,fun i hi=> ?_,f,hg⟩
 ·rcases b i hi with rfl | rfl
  ·exact⟨a 0,a 1,a 2,a 3,a 4,a 5,a 6,Zu rfl⟩
  ·refine⟨a 7,a 8,a 9,a 10,a 11,a 12,a 13,Zj ⟨ab,0,rfl,Zx _,by decide,Zaa ha,fun k d=> ?_⟩⟩
   obtain rfl:k=0:=by replace d:k<1:=d;omega
   exact c
 ·rcases b i hi with rfl | rfl
  ·rfl
  ·simp at h
 ·rcases b i hi with rfl | rfl<;>decide
structure OX (w wx:World)(hb P B R D bd bn wb:Nat)(ob:Option Nat)(N:Nat)(e:Ab):Prop where
 ow:OW w wx hb P B R D bd bn ob N e
 wb:wx.heap[wb]? =some (.cells #[.int .i64 (-1), .int .i64 (-1), .int .i64 0, .int .i64 0] 35 (0,0))
theorem OX.below (h:OX w wx hb P B R D bd bn wb ob N e)(a:Below wx.heap.size wx wy):OX w wy hb P B R D bd bn wb ob N e :=
 ⟨h.ow.below a,(a.block wb (Zaa h.wb)).trans h.wb⟩
theorem OX.call {b:Nat}{a:Option Nat}(h:OX w wx hb P B R D bd bn wb ob N e)(c:Bd wy hb P B R D bd bn a b e')(hf:EF wx wy P B R D bd bn ob):OX w wy hb P B R D bd bn wb a b e' :=
 ⟨h.ow.call c hf,h.ow.host.box hf h.wb ⟨_,_,rfl⟩ (by decide) (by decide)⟩
theorem OX.cells (h:OX w wx hb P B R D bd bn wb ob N e):((wx.cell? ⟨wb,0,none⟩=some (.int .i64 (-1))/\wx.cell? ⟨wb,1,none⟩=some (.int .i64 (-1)))/\wx.cell? ⟨wb,2,none⟩=some (.int .i64 0))/\wx.cell? ⟨wb,3,none⟩=some (.int .i64 0):=by
 refine⟨⟨⟨?_,?_⟩,?_⟩,?_⟩<;>(rw[Zaj h.wb];rfl)
theorem Dg.call {tb:Nat}{a b c f:Int}(t:Dg wx tb a b c f)(h:OX w wx hb P B R D bd bn wb ob N e)(hf:EF wx wy P B R D bd bn ob):Dg wy tb a b c f :=
 ⟨h.ow.host.box hf t.Au ⟨_,_,rfl⟩ (by decide) (by decide)⟩
theorem Dg.CV {tb:Nat}{a b c f:Int}(t:Dg wx tb a b c f)(hb:Below wx.heap.size wx wy):Dg wy tb a b c f:=⟨(hb.block tb (Zaa t.Au)).trans t.Au⟩
theorem CW (b:e.Ah<=100)(c:e.Ai<=1000000)(a:e.At=0):AD e:=⟨Int.lt_of_le_of_lt b (by decide),Int.lt_of_le_of_lt c (by decide),by rw[a];decide,by rw[a];decide⟩
theorem Nf {i g t k:Int}{p:AZ}(h:OX w wx hb P B R D bd bn wb ob N e)(ok:Ak e)(AQ:AD e)(l:N<=1000000000000)(he:e.Bk=some (p,t,k,e2))(o:p.run=i)(hn:(p.node:Int)=g) :
  Calls prog 61 #[.pointer (some ⟨hb,0,none⟩), .agg #[.int .i64 (-1), .int .i64 (-1), .int .i64 0, .int .i64 0]] wx fun x w'=>x= .returned (.tuple #[.agg #[.int .u64 i, .int .i64 g, .int .i64 t, .int .u64 k], .bool true, .int .i64 0])/\∃d,OX w w' hb P B R D bd bn wb d (N+1000000) e2/\EF wx w' P B R D bd bn ob:=by
 refine (If wx hb P B R D bd bn N ob e h.ow.host ok AQ l).mono ?_;rintro x w' ⟨d,a,b,c,f,y,e',rfl,q1,q,r,j⟩;obtain⟨rfl,rfl,rfl,rfl,rfl,rfl⟩:=q1.some_ he;subst o hn;exact⟨rfl,d,h.call q j,j⟩
theorem Ww (h:OX w wx hb P B R D bd bn wb ob N e)(ok:Ak e)(AQ:AD e)(i:N<=1000000000000)(he:e.Bk=none) :
  Calls prog 61 #[.pointer (some ⟨hb,0,none⟩), .agg #[.int .i64 (-1), .int .i64 (-1), .int .i64 0, .int .i64 0]] wx fun x w'=>x= .returned (.tuple #[.agg #[.int .u64 0, .int .i64 0, .int .i64 0, .int .u64 0], .bool false, .int .i64 0])/\∃d,OX w w' hb P B R D bd bn wb d (N+1000000) e/\EF wx w' P B R D bd bn ob:=by
 refine (If wx hb P B R D bd bn N ob e h.ow.host ok AQ i).mono ?_;rintro x w' ⟨d,a,b,c,f,y,e',rfl,q1,j,k,g⟩;obtain⟨rfl,rfl,rfl,rfl,rfl,rfl⟩:=q1.none_ he;exact⟨rfl,d,h.call j g,g⟩
theorem IX (h:OX w wx hb P B R D bd bn wb ob N e)(ok:Ak e)(AQ:AD e)(c:N<=1000000000000)(hn:n<18446744073709551616)(hm:(n:Int)=m)(he:e.complete m=some e2) :
  Calls prog 26 #[.pointer (some ⟨hb,0,none⟩), .int .i64 4, .int .u64 m, .agg #[.int .i64 (-1), .int .i64 (-1), .int .i64 0, .int .i64 0]] wx fun x w'=>x= .returned (.int .i64 0)/\∃a,OX w w' hb P B R D bd bn wb a (N+1000000) e2/\EF wx w' P B R D bd bn ob:=by
 subst hm;have:=Ox wx hb P B R D bd bn N ob e n h.ow.host ok AQ c hn;rw[he] at this;refine this.mono ?_;rintro x w' ⟨a,rfl,d,f,b⟩;exact⟨rfl,a,h.call d b,b⟩
theorem Zi (h:OX w wx hb P B R D bd bn wb ob N e)(ok:Ak e)(AQ:AD e)(c:N<=1000000000000)(hn:n<18446744073709551616)(hm:(n:Int)=m)(he:e.fail m=some e2) :
  Calls prog 26 #[.pointer (some ⟨hb,0,none⟩), .int .i64 5, .int .u64 m, .agg #[.int .i64 (-1), .int .i64 (-1), .int .i64 0, .int .i64 0]] wx fun x w'=>x= .returned (.int .i64 0)/\∃a,OX w w' hb P B R D bd bn wb a (N+1000000) e2/\EF wx w' P B R D bd bn ob:=by
 subst hm;have:=Oy wx hb P B R D bd bn N ob e n h.ow.host ok AQ c hn;rw[he] at this;refine this.mono ?_;rintro x w' ⟨a,rfl,d,f,b⟩;exact⟨rfl,a,h.call d b,b⟩
theorem Zn (h:OX w wx hb P B R D bd bn wb ob N e)(ok:Ak e)(AQ:AD e)(c:N<=1000000000000)(hn:n<18446744073709551616)(hm:(n:Int)=m) :
  Calls prog 26 #[.pointer (some ⟨hb,0,none⟩), .int .i64 7, .int .u64 m, .agg #[.int .i64 (-1), .int .i64 (-1), .int .i64 0, .int .i64 0]] wx fun x w'=>x= .returned (.int .i64 0)/\∃a e2,BU e m e2/\OX w w' hb P B R D bd bn wb a (N+1000000) e2/\EF wx w' P B R D bd bn ob:=by
 subst hm;refine (Oz wx hb P B R D bd bn N ob e n h.ow.host ok AQ c hn).mono ?_;rintro x w' ⟨a,e2,rfl,q1,d,f,b⟩;exact⟨rfl,a,e2,q1,h.call d b,b⟩
theorem Tz {B0 f c:Nat}{L:Nat}(h:OX w wx hb P B R D bd bn wb ob N e)(ok:Ak e)(AQ:AD e)(o:N<=1000000000000)(b:BQ F)(l:L=(Zat F).length)(p:Al B0 wx (.slice (some ⟨f,0,none⟩) L c) (Zat F)) :
  Calls prog 60 #[.pointer (some ⟨hb,0,none⟩), .slice (some ⟨f,0,none⟩) L c, .agg #[.int .i64 (-1), .int .i64 (-1), .int .i64 0, .int .i64 0]] wx fun x w'=>∃G n d e2 a,x= .returned (.tuple #[.int .u64 n, .int .i64 d, .int .i64 (-1)])/\(BQ G/\G.dl=F.dl/\G.n=F.n/\Ce F G F.n)/\d=Jm 5 (e.AN G)/\n=(if d=0 then e.Ah+1 else 0)/\e2=(e.AN G).getD e/\OX w w' hb P B R D bd bn wb a (N+1000000) e2/\EF wx w' P B R D bd bn ob:=by
 have k:1<=(Zat F).length:=by have:=Ed (F:=F) b.top.n1;omega
 have v:=LG b.top b.nat;subst l;refine (IJ wx hb P B R D bd bn N B0 f c ob e (Zat F) h.ow.host ok AQ o p (JQ F) k (by omega)).mono ?_;rintro x w' ⟨a,n,d,at_,e',rfl,q1,q,z,i⟩;rcases q1 with⟨g,j,_⟩ | ⟨y,g,rfl,rfl,rfl,rfl⟩
 ·exact absurd (My b j).1 g
 ·obtain⟨_,r2,r,s,t,u⟩:=My b g
  exact⟨_,_,_,_,a,rfl,⟨r,s,t,u⟩,rfl,rfl,rfl,h.call q i,i⟩
theorem o1_lim (f:Ad):AD (o1 f):=CW (by show (1:Int)<=100;decide) (by show (0:Int)<=1000000;decide) rfl
theorem We (f:Ad):AD (o2 f):=CW (by show (1:Int)<=100;decide) (by show (1:Int)<=1000000;decide) rfl
theorem o3_lim (f:Ad):AD (o3 f):=CW (by show (1:Int)<=100;decide) (by show (1:Int)<=1000000;decide) rfl
theorem o4_lim (f:Ad):AD (o4 f):=CW (by show (1:Int)<=100;decide) (by show (1:Int)<=1000000;decide) rfl
theorem o5_lim (f:Ad):AD (o5 f):=CW (by show (1:Int)<=100;decide) (by show (2:Int)<=1000000;decide) rfl
theorem o6_lim (f:Ad):AD (o6 f):=CW (by show (1:Int)<=100;decide) (by show (2:Int)<=1000000;decide) rfl
theorem o7_lim (f:Ad):AD (o7 f):=CW (by show (1:Int)<=100;decide) (by show (3:Int)<=1000000;decide) rfl
theorem YM:AD Za1:=CW (by show (0:Int)<=100;decide) (by show (0:Int)<=1000000;decide) rfl
theorem Ws {w4:World}{nb ab:Nat}(j:AL w4)(i:Az w4)(hg:2<w4.heap.size)(hb:Below w4.heap.size w4 wx)
  (hn:wx.heap[nb]? =some (.cells #[.int .i64 2, .int .i64 9, .int .i64 0, .int .i64 3, .int .i64 9, .int .i64 0, .slice none 0 0, .int .i64 1, .int .i64 9, .int .i64 0, .int .i64 1, .int .i64 1, .int .i64 0, .slice (some ⟨ab,0,none⟩) 1 1] 130 (0,0))) (ha:wx.heap[ab]? =some (.cells #[.int .i64 0] 3 (0,0))) :
  Calls prog 59 #[.agg #[.int .i64 100, .slice (some ⟨nb,0,none⟩) 2 2]] wx fun x w'=>∃h c,x= .returned (.tuple #[.slice (some ⟨h,0,none⟩) (Zat Oj).length c, .int .i64 0, .int .i64 (-1)])/\Al wx.heap.size w' (.slice (some ⟨h,0,none⟩) (Zat Oj).length c) (Zat Oj)/\Below w4.heap.size w4 w':=by
 refine (IY Oj (some ⟨nb,0,none⟩) 2 _ _ wx (PZ (j.Aj hg hb) (Zy hg hb.size) hn ha) (i.Aj hb)).mono ?_;rintro e p ⟨⟨v,x,y,l,rfl,b,a,f,k⟩,d⟩;obtain⟨rfl,rfl⟩:=b.one Vd.chk;obtain rfl:=f rfl;have o:1<=(Zat Oj).length:=by have:=Ed (F:=Oj) (by decide);omega
 rcases a.2 with⟨_,q⟩ | ⟨g,cap,cur,rfl,_⟩
 ·omega
 ·exact⟨g,cap,rfl,a,hb.trans (d.mono hb.size)⟩
theorem Tx {l o:World}(h:Rk l hb D bd bn)(c:Below w.heap.size w l)(hl:w.heap.size<=hb/\w.heap.size<=D/\w.heap.size<=bd/\w.heap.size<=bn)(q:hb≠D/\hb≠bd/\hb≠bn)(b:Below l.heap.size l o)(hw:l.heap.size<=wb)(j:o.heap[wb]? =some (.cells #[.int .i64 (-1), .int .i64 (-1), .int .i64 0, .int .i64 0] 35 (0,0)))(he:Az w)(r:Za4 w)(E:AL w)(hg:4<w.heap.size)(p:2<w.heap.size)(v:0<w.heap.size) :
  Calls prog 12 #[.pointer (some ⟨hb,0,none⟩), .agg #[.int .i64 (-1), .int .i64 (-1), .int .i64 0, .int .i64 0]] o fun x w'=>x= .returned (.int .i64 0)/\∃P B,OX w w' hb P B B D bd bn wb none 2000000 Za1:=by
 have a:=c.trans (b.mono c.size);obtain⟨s,f⟩:=h.fd;obtain⟨t,g⟩:=h.fn;have G:=Zaa h.host.Au;have H:=Zaa h.dk.Au;have I:=f.lt;have J:=g.lt;have u:Rk o hb D bd bn:=⟨h.host.at_ (b.block hb G),h.dk.at_ (b.block D H),⟨s,f.below b⟩,⟨t,g.below b⟩,h.ne⟩;have C:=b.size;refine (Qh o hb D bd bn 2000000 u (he.Aj a) (fun i hi=>cell_later a (r i hi)) (E.Aj p a) ⟨by omega,by omega,by omega,by omega⟩ q (Zx _)).mono ?_;rintro x w' ⟨rfl,P,B,q1,K,L,d⟩;have A:=c.size;refine⟨rfl,P,B,⟨q1,⟨d.os.trans a.os,d.tape.trans a.tape,d.output.trans a.output,Zv a.size d.size,fun k z=>(d.block k (by omega) (by omega) (by omega) (by omega) (by omega)).trans (a.block k z)⟩,⟨by omega,by omega,by omega,by omega,by omega⟩,by omega,by omega⟩,(d.block wb (Zaa j) (by omega) (by omega) (by omega) (by omega)).trans j⟩
theorem Wm {f:Ad}(h:Bd w hb P B R D bd bn ob N (o8 f)) :
  Calls prog 27 #[.pointer (some ⟨hb,0,none⟩), .int .u64 1] w fun x w'=>∃a1 n1 c1 a2 n2 c2,x= .returned (.tuple #[.agg #[.int .u64 1, .int .i64 2, .slice a1 n1 c1, .slice a2 n2 c2], .int .i64 0])/\Below w.heap.size w w':=by
 have hf:(o8 f).find 1=some 0:=rfl;refine (JU w hb P B R D bd bn N ob (o8 f) 1 h).mono ?_;rintro x w' ⟨v,a,rfl,q,hb⟩;rcases q with⟨q,_⟩ | ⟨i,a1,a2,c1,c2,q1,rfl,rfl,_⟩
 ·rw[hf] at q;cases q
 ·rw[hf] at q1
  cases q1
  exact⟨_,_,_,_,_,_,rfl,hb⟩
theorem QF (w:World)(he:Az w)(cu:Za4 w)(i:AL w)(hg:4<w.heap.size)(ct:2<w.heap.size)(cr:0<w.heap.size) :
  Calls prog 58 #[] w fun x w'=>∃hb P B R D bd bn ob f,x= .returned (.pointer (some ⟨hb,0,none⟩))/\OW w w' hb P B R D bd bn ob 11000000 (o8 f)/\Mn f:=by
 have I:=Zz (Zq he (Zq cu (Zq i (Zq hg (Zq ct cr)))));have HW:=Zz (fun wx=>Fx wx);unfold Zbl at HW;clear he cu i hg ct cr
 go_enter func58,ntmps58
 go_upto_region 2 with (go_at_call 11;go_loud (refine (OP w).mono ?_;rintro _ w1 ⟨hb,D,bd,bn,rfl,t,C,u,M,h5,h6⟩;have H1:=Zz (Zq t (Zq C (Zq (Zq u (Zq M h5)) h6)));clear t C u M h5 h6))
 go_upto_region 3 with (go_at_call 13;refine (HW.o w1).mono ?_;rintro _ w2 ⟨rfl,bp⟩;have H2:=Zz bp;clear bp)
 obtain⟨wb,Q⟩:∃wb,wb=w2.heap.size:=⟨_,rfl⟩;obtain⟨V,O⟩:∃V,V=w2.alloc (.cells #[.int .i64 (-1), .int .i64 (-1), .int .i64 0, .int .i64 0] 35):=⟨_,rfl⟩;rw[<-O,<-Q];have br:Below w1.heap.size w1 V:=by rw[O];exact H2.o.alloc H2.o.size _
 have A:V.heap[wb]? =some (.cells #[.int .i64 (-1), .int .i64 (-1), .int .i64 0, .int .i64 0] 35 (0,0)):=by rw[O,Q];exact heap_alloc_new w2 _
 have da:w1.heap.size<=wb:=by rw[Q];exact H2.o.size
 have au:=Zz (Tx H1.o.1 H1.o.2.2.2 H1.o.2.1 H1.o.2.2.1 br da A I.o.1 I.o.2.1 I.o.2.2.1 I.o.2.2.2.1 I.o.2.2.2.2.1 I.o.2.2.2.2.2);have z0:V.cell? ⟨wb,0,none⟩=some (.int .i64 (-1)):=Zaj A 0;have H:V.cell? ⟨wb,1,none⟩=some (.int .i64 (-1)):=Zaj A 1;have z2:V.cell? ⟨wb,2,none⟩=some (.int .i64 0):=Zaj A 2;have z3:V.cell? ⟨wb,3,none⟩=some (.int .i64 0):=Zaj A 3;clear br A da O Q
 go_upto_region 4 with (go_at_call 12;refine au.o.mono ?_;rintro _ w4 ⟨rfl,P,B,q⟩;have X4:=Zz q;clear q)
 have W:=Zz (fun (wx:World) (nb ab:Nat)=>Ws (w4:=w4) (wx:=wx) (nb:=nb) (ab:=ab) (I.o.2.2.1.Aj I.o.2.2.2.2.1 X4.o.ow.Dt) X4.o.ow.host.err (Zy I.o.2.2.2.2.1 X4.o.ow.Dt.size));obtain⟨L,hL⟩:∃L,L=(Zat Oj).length:=⟨_,rfl⟩;rw[<-hL] at W;have HL:=Zz hL;clear z0 H z2 z3 hL
 go_upto_region 5 with (go_at_call 59;refine (W.o _ (w4.heap.size+1) w4.heap.size (((Zk _ _).alloc (Zx _) _).alloc (by simp) _) (Zbk _ _ _ _ (by simp)) (by rw[Zao _ _ _ (by simp)];exact heap_alloc_new _ _)).mono ?_;rintro _ w5 ⟨bg,c,rfl,q1,a⟩;have X5:=Zz (Zq (X4.o.below a) q1);clear q1 a)
 have z:=X5.o.1.cells;obtain⟨⟨⟨z0,H⟩,z2⟩,z3⟩:=z;have bj:=Zz (Tz X5.o.1 Fl YM (by omega) Vd HL.o X5.o.2);clear W
 go_upto_region 6 with (go_at_call 60;refine bj.o.mono ?_;rintro _ w6 ⟨f,n,er,e2,dy,rfl,hf,t,C,u,M,h5⟩;have X6:=Zz (Zq hf (Zq t (Zq C (Zq u M))));clear hf t C u M h5)
 obtain⟨⟨bw,ck,cm,cq⟩,t,C,u,M⟩:=X6.o;have hF:=f2_is ck cm cq;have hC:=Zf hF bw;rw[Wc hF] at t u
 replace t:er=0:=t
 replace u:e2=o1 f:=u
 subst t u
 replace C:n=1:=C
 subst C;have HF:=Zz (Zq hF hC);have de:=Zz M;obtain⟨⟨⟨z0,H⟩,z2⟩,z3⟩:=M.cells;clear bw ck cm cq M hF hC X5 bj au;have av:=Zz (Nf de.o HF.o.2.k1 (o1_lim f) (by omega) (Wd HF.o.1) rfl rfl)
 go_upto_region 7 with (go_at_call 61;refine av.o.mono ?_;rintro _ w7 ⟨rfl,ee,q1,a⟩;have X7:=Zz q1;clear q1 a)
 obtain⟨ta,ae⟩:∃ta,ta=w7.heap.size:=⟨_,rfl⟩;obtain⟨y7,S⟩:∃y7,y7=w7.alloc (.cells #[.int .u64 1, .int .i64 0, .int .i64 1, .int .u64 1] 48):=⟨_,rfl⟩;rw[<-S,<-ae];have b:=X7.o.below (show Below w7.heap.size w7 y7 from by rw[S];exact (Zk _ _).alloc (Zx _) _);have i:Dg y7 ta 1 0 1 1:=⟨by rw[S,ae];exact heap_alloc_new _ _⟩;have Y7:=Zz (Zq b i);obtain⟨⟨⟨z0,H⟩,z2⟩,z3⟩:=b.cells;clear b i S ae X7 av X6;have aw:=Zz (Ww Y7.o.1 HF.o.2.k2 (We f) (by omega) (Zb f))
 go_upto_region 8 with (go_at_call 61;refine aw.o.mono ?_;rintro _ w8 ⟨rfl,eg,q1,a⟩;have X8:=Zz (Zq q1 (Y7.o.2.call Y7.o.1 a));clear q1 a)
 obtain⟨y8,ar⟩:∃y8,y8=w8.alloc (.cells #[.int .u64 0, .int .i64 0, .int .i64 0, .int .u64 0] 48):=⟨_,rfl⟩;obtain⟨tx,cy⟩:∃tx,tx=w8.heap.size:=⟨_,rfl⟩;rw[<-ar,<-cy];have Y:Below w8.heap.size w8 y8:=by rw[ar];exact (Zk _ _).alloc (Zx _) _
 have b:=X8.o.1.below Y;have i:=X8.o.2.CV Y;have Y8:=Zz (Zq b i);obtain⟨⟨⟨z0,H⟩,z2⟩,z3⟩:=b.cells;obtain⟨⟨⟨_,_⟩,_⟩,k3⟩:=i.cells;clear b i ar cy Y X8 aw Y7;have ax:=Zz (Zi (n:=1) (m:=1) Y8.o.1 HF.o.2.k2 (We f) (by omega) (by omega) rfl (Wf HF.o.1))
 go_upto_region 9 with (go_at_call 26;refine ax.o.mono ?_;rintro _ w9 ⟨rfl,ei,q1,a⟩;have X9:=Zz (Zq q1 (Y8.o.2.call Y8.o.1 a));clear q1 a)
 obtain⟨⟨⟨z0,H⟩,z2⟩,z3⟩:=X9.o.1.cells;clear k3 Y8 ax;have ay:=Zz (Zn (n:=3) (m:=3) X9.o.1 HF.o.2.k3 (o3_lim f) (by omega) (by omega) rfl)
 go_upto_region 10 with (go_at_call 26;refine ay.o.mono ?_;rintro _ eo ⟨rfl,dj,e4,q0,q1,a⟩;have bo:=Zz (Zq q0 (Zq q1 (X9.o.2.call X9.o.1 a)));clear q0 q1 a)
 obtain⟨q0,q1,a⟩:=bo.o;obtain rfl:=Zc q0;have K:=Zz (Zq q1 a);obtain⟨⟨⟨z0,H⟩,z2⟩,z3⟩:=q1.cells;clear q0 q1 a X9 ay bo;have az:=Zz (Nf K.o.1 HF.o.2.k4 (o4_lim f) (by omega) (Wi HF.o.1) rfl rfl)
 go_upto_region 11 with (go_at_call 61;refine az.o.mono ?_;rintro _ Iu ⟨rfl,dp,q1,a⟩;have X:=Zz (Zq q1 (K.o.2.call K.o.1 a));clear q1 a)
 obtain⟨db,k⟩:∃y,y=Iu.alloc (.cells #[.int .u64 1, .int .i64 0, .int .i64 2, .int .u64 2] 48):=⟨_,rfl⟩;obtain⟨tb,ag⟩:∃tb,tb=Iu.heap.size:=⟨_,rfl⟩;rw[<-k,<-ag];have G:Below Iu.heap.size Iu db:=by rw[k];exact (Zk _ _).alloc (Zx _) _
 have b:=X.o.1.below G;have i:=X.o.2.CV G;have v:Dg db tb 1 0 2 2:=⟨by rw[k,ag];exact heap_alloc_new _ _⟩;have s:=Zz (Zq b (Zq i v));obtain⟨⟨⟨z0,H⟩,z2⟩,z3⟩:=b.cells;obtain⟨⟨⟨_,_⟩,_⟩,k3⟩:=v.cells;clear b i v k ag G X az K;have b9:=Zz (IX (n:=2) (m:=2) s.o.1 HF.o.2.k5 (o5_lim f) (by omega) (by omega) rfl (Wj HF.o.1))
 go_upto_region 12 with (go_at_call 26;refine b9.o.mono ?_;rintro _ ep ⟨rfl,dr,q1,a⟩;have h:=Zz (Zq q1 (Zq (s.o.2.1.call s.o.1 a) (s.o.2.2.call s.o.1 a)));clear q1 a)
 obtain⟨⟨⟨z0,H⟩,z2⟩,z3⟩:=h.o.1.cells;clear k3 s b9;have bf:=Zz (Nf h.o.1 HF.o.2.k6 (o6_lim f) (by omega) (Wk HF.o.1) rfl rfl)
 go_upto_region 13 with (go_at_call 61;refine bf.o.mono ?_;rintro _ T ⟨rfl,du,q1,a⟩;have J:=Zz (Zq q1 (Zq (h.o.2.1.call h.o.1 a) (h.o.2.2.call h.o.1 a)));clear q1 a)
 obtain⟨dc,l⟩:∃y,y=T.alloc (.cells #[.int .u64 1, .int .i64 1, .int .i64 1, .int .u64 3] 48):=⟨_,rfl⟩;obtain⟨tc,aj⟩:∃tc,tc=T.heap.size:=⟨_,rfl⟩;rw[<-l,<-aj];have j:Below T.heap.size T dc:=by rw[l];exact (Zk _ _).alloc (Zx _) _
 have b:=J.o.1.below j;have i:=J.o.2.1.CV j;have v:=J.o.2.2.CV j;have Z:Dg dc tc 1 1 1 3:=⟨by rw[l,aj];exact heap_alloc_new _ _⟩;have d:=Zz (Zq b (Zq i (Zq v Z)));obtain⟨⟨⟨z0,H⟩,z2⟩,z3⟩:=b.cells;obtain⟨⟨⟨_,_⟩,_⟩,k3⟩:=Z.cells;clear b i v Z l aj j h J bf;have bh:=Zz (IX (n:=3) (m:=3) d.o.1 HF.o.2.k7 (o7_lim f) (by omega) (by omega) rfl (Wl HF.o.1))
 go_upto_region 14 with (go_at_call 26;refine bh.o.mono ?_;rintro _ eu ⟨rfl,dw,q1,a⟩;have r:=Zz (Zq q1 (Zq (d.o.2.1.call d.o.1 a) (Zq (d.o.2.2.1.call d.o.1 a) (d.o.2.2.2.call d.o.1 a))));clear q1 a)
 clear k3 z0 H z2 z3 d bh;have HQ:=Zz (Wm r.o.1.ow.host)
 go_upto_region 15 with (go_at_call 27;refine HQ.o.mono ?_;rintro _ U ⟨u1,u2,u3,u4,u5,u6,rfl,hb⟩;have b:=r.o.1.below hb;have t:=r.o.2.1.CV hb;have C:=r.o.2.2.1.CV hb;have u:=r.o.2.2.2.CV hb;have E:=Zz (Zq b (Zq t (Zq C u)));clear b t C u hb)
 obtain⟨dd,p⟩:∃y,y=U.alloc (.cells #[.int .u64 1, .int .i64 2, .slice u1 u2 u3, .slice u4 u5 u6] 50):=⟨_,rfl⟩;obtain⟨ti,al⟩:∃ti,ti=U.heap.size:=⟨_,rfl⟩;rw[<-p,<-al];have g:Below U.heap.size U dd:=by rw[p];exact (Zk _ _).alloc (Zx _) _
 have b:=E.o.1.below g;obtain⟨⟨⟨_,a1⟩,a2⟩,a3⟩:=(E.o.2.1.CV g).cells;obtain⟨⟨⟨_,b1⟩,b2⟩,b3⟩:=(E.o.2.2.1.CV g).cells;obtain⟨⟨⟨_,c1⟩,_⟩,_⟩:=(E.o.2.2.2.CV g).cells;have i1:dd.cell? ⟨ti,1,none⟩=some (.int .i64 2):=by rw[p,al,Zaj (heap_alloc_new _ _)];rfl
 have dh:=Zz b;clear b p al g HQ r E;go_wp2_with fail
 go_ret
 exact⟨hb,P,B,B,D,bd,bn,_,f,rfl,dh.o.ow,HF.o.2⟩
end Go.Proofs.YtgdcjccbdmcebaaGreatDoor
