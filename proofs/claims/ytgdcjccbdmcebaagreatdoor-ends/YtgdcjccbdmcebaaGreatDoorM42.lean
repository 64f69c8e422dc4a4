import Derived.Test.YtgdcjccbdmcebaaGreatDoorM25
set_option linter.unusedSimpArgs false
set_option linter.unusedVariables false
set_option maxHeartbeats 8000000
set_option maxRecDepth 100000
open Go.Proofs.Tryz
namespace Go.Proofs.YtgdcjccbdmcebaaGreatDoor
open Go.RowKit
def BV (l:List Int)(k:Nat):Nat:=(l.getD k 0).toNat
def Cf:List Nat->List Int
 | []=>[]
 | v::r=>Bo v++Cf r
theorem Zdq (a b:List Nat):Cf (a++b)=Cf a++Cf b:=by
 induction a with
 | nil=>rfl
 | cons v r c=>simp only[List.cons_append,Cf,c,List.append_assoc]
theorem Hx (pre l post:List Int)(k:Nat)(a:k<l.length):BV (pre++(l++post)) (pre.length+k)=(l.getD k 0).toNat:=by
 unfold BV;rw[ZQ,ZQ,List.getElem?_append_right (by omega),List.getElem?_append_left (by omega)]
 congr 2
 congr 1
 omega
theorem Ko (pre post:List Int)(v:Nat)(h:v<=2097151):Zcg (pre++(Bo v++post)).length (BV (pre++(Bo v++post))) pre.length=some (v,pre.length+(Bo v).length):=by
 by_cases c:v<128
 ·have e:Bo v=[(v:Int)]:=Zby c
  have a:=Hx pre (Bo v) post 0 (by rw[e];simp);rw[e] at a ⊢;simp only[List.getD_cons_zero,Int.toNat_natCast,Nat.add_zero] at a;unfold Zcg;rw[a,if_neg (by simp),if_pos c];simp
 by_cases g:v<16384
 ·have e:Bo v=[((v % 128+128:Nat):Int),((v / 128:Nat):Int)]:=by rw[Zdw c,Zby (by omega)]
  have a:=Hx pre (Bo v) post 0 (by rw[e];simp);have b:=Hx pre (Bo v) post 1 (by rw[e];simp);rw[e] at a b ⊢;simp only[List.getD_cons_zero,List.getD_cons_succ,Int.toNat_natCast,Nat.add_zero] at a b;unfold Zcg;rw[a,b,if_neg (by simp),if_neg (by omega),if_neg (by simp),if_pos (by omega),if_neg (by omega)];have f:(v % 128+128) % 128+v / 128 * 128=v:=by omega
  rw[f]
  rfl
 ·have e:Bo v=[((v % 128+128:Nat):Int),((v / 128 % 128+128:Nat):Int),((v / 128 / 128:Nat):Int)]:=by rw[Zdw c,Zdw (by omega),Zby (by omega)]
  have a:=Hx pre (Bo v) post 0 (by rw[e];simp);have b:=Hx pre (Bo v) post 1 (by rw[e];simp);have d:=Hx pre (Bo v) post 2 (by rw[e];simp);rw[e] at a b d ⊢;simp only[List.getD_cons_zero,List.getD_cons_succ,Int.toNat_natCast,Nat.add_zero] at a b d;unfold Zcg;rw[a,b,d,if_neg (by simp),if_neg (by omega),if_neg (by simp),if_neg (by omega),if_neg (by simp),if_pos (by omega),if_neg (by omega)];have f:(v % 128+128) % 128+(v / 128 % 128+128) % 128 * 128+v / 128 / 128 * 16384=v:=by omega
  rw[f]
  rfl
theorem RO (a:List Nat)(d:∀v∈a,v<=2097151):∀k,k<=a.length->∃s,Bg (Cf a).length (BV (Cf a)) k (.AA 0 0)= .AA (Cf (a.take k)).length s:=by
 intro k
 induction k with
 | zero=>intro _;exact⟨0,rfl⟩
 | succ k f =>
  intro g;obtain⟨s,c⟩:=f (by omega);have b:k<a.length:=by omega
  have e:Cf a=Cf (a.take k)++(Bo a[k]++Cf (a.drop (k+1))):=by
   conv=>lhs;rw[<-List.take_append_drop k a,List.drop_eq_getElem_cons b]
   rw[Zdq]
   rfl
  have hn:=Ko (Cf (a.take k)) (Cf (a.drop (k+1))) a[k] (d _ (List.getElem_mem _));rw[<-e] at hn;refine⟨(Cf (a.take k)).length,?_⟩;simp only[Bg];rw[c,Zcb hn,List.take_succ_eq_append_getElem b,Zdq,ZX];simp[Cf]
theorem Za (a:List Nat)(b:∀v∈a,v<=2097151)(k:Nat)(c:k<a.length):BI (Cf a).length (BV (Cf a)) (Bg (Cf a).length (BV (Cf a)) k (.AA 0 0))=a[k]:=by
 obtain⟨s,d⟩:=RO a b k (by omega)
 have e:Cf a=Cf (a.take k)++(Bo a[k]++Cf (a.drop (k+1))):=by
  conv=>lhs;rw[<-List.take_append_drop k a,List.drop_eq_getElem_cons c]
  rw[Zdq]
  rfl
 have hn:=Ko (Cf (a.take k)) (Cf (a.drop (k+1))) a[k] (b _ (List.getElem_mem _));rw[<-e] at hn;rw[d,Zca hn]
def EX (F:Ad)(i:Nat):List Nat :=
 [(F.bu i).toNat,(F.cl i).toNat,(F.be i).toNat,(F.ba i).toNat,(F.ca i).toNat,(F.ji i).toNat,F.an i]++(List.range (F.an i)).map fun k=>(F.af i k).toNat
def Zdf (F:Ad):Nat->List Nat
 | 0=>[]
 | k+1=>Zdf F k++EX F k
def Dh (F:Ad):List Nat:=[F.dl.toNat,F.n]++Zdf F F.n
theorem Tv (f:Nat->Nat)(n:Nat):Cy f n=Cf ((List.range n).map f):=by
 induction n with
 | zero=>rfl
 | succ n a=>simp only[Cy,List.range_succ,List.map_append,List.map_cons,List.map_nil,Zdq,a,Cf,List.append_nil]
theorem Ts (F:Ad)(i:Nat):Kk F i=Cf (EX F i):=by
 unfold Kk EX;rw[Tv];simp[Cf]
theorem QC (F:Ad)(k:Nat):CL F k=Cf (Zdf F k):=by
 induction k with
 | zero=>rfl
 | succ k a=>simp only[CL,Zdf,Zdq,a,Ts]
theorem Ie (F:Ad):Zat F=Cf (Dh F):=by
 unfold Zat Dh;rw[QC];simp[Cf]
open Go.RowKit
theorem An.YU {B:Nat}{w:World}{F:Ad}{b:Option Addr}{lc:Nat}{c:Nat->Option Addr}{d:Nat->Nat}(h:An B w F (.slice b F.n lc) F.n c d):Gz w b lc F c d:=by
 by_cases e:F.n=0
 ·exact Zu e
 ·rcases h.own.2 with⟨_,a⟩ | ⟨g,cap,cur,a,l,hh,f,i,m,o⟩
  ·exact absurd a e
  ·obtain⟨j,_,k⟩:b=some ⟨g,0,none⟩/\F.n=F.n/\lc=cap:=by simpa using a
   subst j k;exact Zj ⟨g,0,rfl,f,i,h.lt.2,h.node⟩
theorem An.Vf {B:Nat}{w:World}{F:Ad}{c:Option Addr}{lc:Nat}{a:Nat->Option Addr}{b:Nat->Nat}(h:An B w F (.slice c F.n lc) F.n a b)(hn:F.n<=2097151)(f:∀i,i<F.n->F.an i<=2097151)(d:AL w)(hg:2<w.heap.size):EA w F c lc a b:=by
 refine⟨h.YU,by unfold maxLen;omega,by omega,fun i hi e=> ?_,fun i hi=>by have:=f i hi;omega,d,hg⟩;have:=h.ID i hi;rw[e] at this;exact Zh this
def gg (u0 u1 u2 u3 u4 u5:Int)(v:Value)(j:Nat):Value :=
 if j=0 then .int .i64 u0 else if j=1 then .int .i64 u1 else if j=2 then .int .i64 u2 else if j=3 then .int .i64 u3 else if j=4 then .int .i64 u4 else if j=5 then .int .i64 u5 else v
theorem II {x y:World}{o:Obj}{r:Option Nat}(hg:(x.alloc o).grownBy y r){b:Nat}(a:b<x.heap.size)(c:some b≠r):y.heap[b]? =x.heap[b]? :=
 (hg.block b (by simp;omega) c).trans (Zao x o b a)
theorem Qk (k:Nat)(a:Nat->Int)(d:Int):Zbz (k+1) (fun j=>if j=k then d else a j)=Zbz k a++[.int .i64 d]:=by
 simp only[Zbz,List.range_succ,List.map_append,List.map_cons,List.map_nil,if_true]
 congr 1
 apply List.map_congr_left
 intro j b;have:=List.mem_range.1 b;rw[if_neg (by omega)]
theorem OC {k:Nat}{f g:Nat->Int}(h:∀j,j<k->f j=g j):Zbz k f=Zbz k g:=by
 unfold Zbz
 apply List.map_congr_left
 intro j a;rw[h j (List.mem_range.1 a)]
def Lg (n:Nat)(f:Nat->Int)(i:Nat):Int:=if i<n then f i else 0
theorem RL {w:World}{a:Option Addr}{n cap:Nat}{f:Nat->Int}(h:Dq w a n cap f)(i:Nat): -9223372036854775808<=Lg n f i/\Lg n f i<=9223372036854775807:=by
 unfold Lg
 split
 ·exact⟨h.lo i ‹_›,h.hi i ‹_›⟩
 ·omega
theorem OI (w:World)(a:Option Addr)(n cap:Nat)(f:Nat->Int)(i:Nat)(hi:i<=1024)(h:Dq w a n cap f) :
  Calls prog 57 #[.slice a n cap, .int .i64 i] w fun e w'=>e= .returned (.int .i64 (Lg n f i))/\w'=w:=by
 by_cases d:i<n
 ·have hl:=h.len
  unfold maxLen at hl;rcases h.at' with k | ⟨b,o,rfl,l,j,m,g⟩
  ·omega
  have y:=g i d;unfold maxLen at j;have c:Hid (Lg n f i=f i):=Zz (by unfold Lg;rw[if_pos d]);clear h g
  go_enter func57,ntmps57
  go_wp2_with fail
  go_ret
  exact⟨ri c.o.symm,rfl⟩
 ·have c:Hid (Lg n f i=0):=Zz (by unfold Lg;rw[if_neg d])
  clear h
  go_enter func57,ntmps57
  go_wp2_with fail
  go_ret
  exact⟨ri c.o.symm,rfl⟩
def Ad.upd (F:Ad)(i:Nat)(bu cl be ba ca ji:Int)(an:Nat)(af:Nat->Int):Ad where
 dl:=F.dl
 n:=F.n
 bu j:=if j=i then bu else F.bu j
 cl j:=if j=i then cl else F.cl j
 be j:=if j=i then be else F.be j
 ba j:=if j=i then ba else F.ba j
 ca j:=if j=i then ca else F.ca j
 ji j:=if j=i then ji else F.ji j
 an j:=if j=i then an else F.an j
 af j:=if j=i then af else F.af j
structure Ce (F G:Ad)(k:Nat):Prop where
 bu:∀i,i<k->F.bu i=G.bu i
 cl:∀i,i<k->F.cl i=G.cl i
 be:∀i,i<k->F.be i=G.be i
 ba:∀i,i<k->F.ba i=G.ba i
 ca:∀i,i<k->F.ca i=G.ca i
 ji:∀i,i<k->F.ji i=G.ji i
 an:∀i,i<k->F.an i=G.an i
 af:∀i,i<k->∀j,j<F.an i->F.af i j=G.af i j
theorem Ad.Xs (F:Ad)(i:Nat)(bu cl be ba ca ji:Int)(an:Nat)(af:Nat->Int):Ce F (F.upd i bu cl be ba ca ji an af) i:=by
 constructor<;>intro j a
 all_goals simp[Ad.upd,show j≠i by omega]
theorem IS {F G:Ad}{k:Nat}(h:Ce F G k)(a:Nat->Option Addr)(b:Nat->Nat):∀j,j<=k->Zbv F a b j=Zbv G a b j:=by
 intro j
 induction j with
 | zero=>intro _;rfl
 | succ j c =>
  intro d;simp only[Zbv,Zef];rw[c (by omega),h.bu j (by omega),h.cl j (by omega),h.be j (by omega),h.ba j (by omega),h.ca j (by omega),h.ji j (by omega),h.an j (by omega)]
theorem An.same {B:Nat}{w:World}{F G:Ad}{v:Value}{k:Nat}{a:Nat->Option Addr}{b:Nat->Nat}(h:An B w F v k a b)(c:Ce F G k):An B w G v k a b:=by
 refine⟨by rw[<-IS c a b k (Zx _)];exact h.own,fun i hi=> ?_⟩;have d:=h.ID i hi;rw[OC (c.af i hi),c.an i hi] at d;exact d
structure Lp (F:Ad)(i:Nat):Prop where
 bu:1<=F.bu i/\F.bu i<=5
 cl:1<=F.cl i/\F.cl i<=30
 be:0<=F.be i/\F.be i<=20
 ba:1<=F.ba i/\F.ba i<=6
 ca:F.ba i<=F.ca i/\F.ca i<=30
 ji:0<=F.ji i/\F.ji i<=3
 af:∀k,k<F.an i->0<=F.af i k/\F.af i k<i/\(0<k->F.af i (k - 1)<F.af i k)
structure De (F:Ad)(k:Nat):Prop where
 dl:1<=F.dl/\F.dl<=2000
 nodes:∀i,i<k->Lp F i
theorem Lp.same {F G:Ad}{k i:Nat}(h:Lp F i)(a:Ce F G k)(hi:i<k):Lp G i:=by
 obtain⟨d,e,f,g,j,l,m⟩:=h;refine⟨by rw[<-a.bu i hi];exact d,by rw[<-a.cl i hi];exact e,by rw[<-a.be i hi];exact f,by rw[<-a.ba i hi];exact g,by rw[<-a.ba i hi,<-a.ca i hi];exact j,by rw[<-a.ji i hi];exact l,fun k b=> ?_⟩;rw[<-a.an i hi] at b;have:=m k b;rw[<-a.af i hi k b];refine⟨this.1,this.2.1,fun c=> ?_⟩;rw[<-a.af i hi (k - 1) (by omega)];exact this.2.2 c
theorem De.ok {F:Ad}(h:De F F.n)(d:1<=F.n)(e:F.n<=12):Cc F/\(∀j,j<F.n->AJ F j/\AP F j)/\∀i,i<F.n->Db F i:=by
 have a:∀i,i<F.n->Db F i:=by
  intro i
  induction i using Nat.strongRecOn with
  | _ i f =>
   intro hi;refine Db.mk i fun k b=> ?_;have:=(h.nodes i hi).af k b;exact f _ (by omega) (by omega)
 refine⟨⟨h.dl.1,by have:=h.dl.2;omega,d,e⟩,fun j c=>⟨?_,fun k b=> ?_⟩,a⟩
 ·obtain⟨n1,n2,g,l,m,n6,n7⟩:=h.nodes j c
  constructor<;>omega
 ·have:=(h.nodes j c).af k b
  exact⟨this.1,by omega,this.2.2⟩
open Go.RowKit
theorem Eh (F:Ad)(i:Nat):(EX F i).length=7+F.an i:=by simp[EX];omega
theorem Km (F:Ad)(i n:Nat)(h:i<=n):∃r,Zdf F n=Zdf F i++r:=by
 induction n with
 | zero=>obtain rfl:i=0:=by omega
         exact⟨[],by simp⟩
 | succ n b =>
  by_cases e:i=n+1
  ·subst e;exact⟨[],by simp⟩
  ·obtain⟨r,a⟩:=b (by omega)
   exact⟨r++EX F n,by simp only[Zdf,a,List.append_assoc]⟩
def Ld (F:Ad)(i:Nat):Nat:=2+(Zdf F i).length
theorem Te (F:Ad)(i:Nat):Ld F (i+1)=Ld F i+(7+F.an i):=by
 unfold Ld;simp only[Zdf,ZX,Eh];omega
theorem Ol (F:Ad)(i j:Nat)(hi:i<F.n)(a:j<7+F.an i):(Dh F)[Ld F i+j]? =(EX F i)[j]? :=by
 obtain⟨r,b⟩:=Km F (i+1) F.n hi;unfold Dh Ld;rw[b,show 2+(Zdf F i).length+j=([F.dl.toNat,F.n]:List Nat).length+((Zdf F i).length+j) by simp;omega,List.getElem?_append_right (by omega),Nat.add_sub_cancel_left];simp only[Zdf,List.append_assoc];rw[List.getElem?_append_right (by omega),Nat.add_sub_cancel_left,List.getElem?_append_left (by rw[Eh];exact a)]
theorem Om {F:Ad}(b:Cc F)(h:∀i,i<F.n->Cp F i):∀v∈Dh F,v<=2097151:=by
 have c:∀k,k<=F.n->∀v∈Zdf F k,v<=2097151:=by
  intro k
  induction k with
  | zero=>intro _ v a;cases a
  | succ k e =>
   intro g v a;simp only[Zdf] at a;rcases List.mem_append.1 a with a | a
   ·exact e (by omega) v a
   ·have hn:=h k (by omega)
    obtain⟨l,m,o,p,q,r,s,f⟩:=hn;simp only[EX,List.mem_append,List.mem_cons,List.not_mem_nil,or_false,List.mem_map,List.mem_range] at a;rcases a with (rfl | rfl | rfl | rfl | rfl | rfl | rfl) | ⟨j,d,rfl⟩
    all_goals first | omega | (have:=f j d;omega)
 intro v a;simp only[Dh,List.mem_append,List.mem_cons,List.not_mem_nil,or_false] at a;have t1:=b.dl2;have t2:=b.n2;rcases a with (rfl | rfl) | a
 ·omega
 ·omega
 ·exact c F.n (Zx _) v a
section
variable {F:Ad}
theorem NA (c:Cc F)(h:∀i,i<F.n->Cp F i)(k v:Nat)(b:(Dh F)[k]? =some v):BI (Zat F).length (BV (Zat F)) (Bg (Zat F).length (BV (Zat F)) k (.AA 0 0))=v:=by
 rw[Ie];obtain⟨a,e⟩:=List.getElem?_eq_some_iff.1 b;rw[Za (Dh F) (Om c h) k a,e]
theorem st_at (d:Cc F)(h:∀i,i<F.n->Cp F i):∀i,i<=F.n->st (Zat F).length (BV (Zat F)) i=Bg (Zat F).length (BV (Zat F)) (Ld F i) (.AA 0 0):=by
 intro i
 induction i with
 | zero=>intro _;rfl
 | succ i e =>
  intro hi;have b:=e (by omega);have c:st (Zat F).length (BV (Zat F)) (i+1)=VX (Zat F).length (BV (Zat F)) (st (Zat F).length (BV (Zat F)) i):=rfl;rw[c,b];have a:=NA d h (Ld F i+6) (F.an i) (by rw[Ol F i 6 (by omega) (by omega)];rfl);rw[Ei] at a;unfold VX;rw[a,<-Ei,Te]
theorem nd_at (a:Cc F)(h:∀i,i<F.n->Cp F i)(i j v:Nat)(hi:i<F.n)(b:j<7+F.an i)(c:(EX F i)[j]? =some v):BI (Zat F).length (BV (Zat F)) (Bg (Zat F).length (BV (Zat F)) j (st (Zat F).length (BV (Zat F)) i))=v:=by
 rw[st_at a h i (by omega),<-Ei];exact NA a h _ v (by rw[Ol F i j hi b];exact c)
theorem back (a:Cc F)(h:∀i,i<F.n->Cp F i) :
  (∃s,NH (Zat F).length (BV (Zat F))= .AA (Zat F).length s)/\(Zah (Zat F).length (BV (Zat F))).dl=F.dl/\(Zah (Zat F).length (BV (Zat F))).n=F.n/\Ce F (Zah (Zat F).length (BV (Zat F))) F.n:=by
 have hn:(Zah (Zat F).length (BV (Zat F))).n=F.n:=NA a h 1 F.n rfl
 have d:(Zah (Zat F).length (BV (Zat F))).dl=F.dl:=by
  show ((BI (Zat F).length (BV (Zat F)) (Bg (Zat F).length (BV (Zat F)) 0 (.AA 0 0)):Nat):Int)=_;rw[NA a h 0 F.dl.toNat rfl,Int.toNat_of_nonneg (by have:=a.XG;omega)]
 refine⟨?_,d,hn,?_⟩
 ·unfold NH
  rw[hn,st_at a h F.n (Zx _)];have hl:Ld F F.n=(Dh F).length:=by simp[Ld,Dh];omega
  obtain⟨s,c⟩:=RO (Dh F) (Om a h) (Ld F F.n) (by omega);rw[hl,List.take_length] at c;rw[hl,Ie];exact⟨s,c⟩
 ·have key:∀(i j:Nat) (x:Int),i<F.n->j<7+F.an i->x=(x.toNat:Int)->(EX F i)[j]? =some x.toNat->x=((BI (Zat F).length (BV (Zat F)) (Bg (Zat F).length (BV (Zat F)) j (st (Zat F).length (BV (Zat F)) i)):Nat):Int):=fun i j x hi b f e=>by
   rw[nd_at a h i j x.toNat hi b e];exact f
  constructor
  ·intro i hi;exact key i 0 (F.bu i) hi (by omega) (h i hi).bu.1 rfl
  ·intro i hi;exact key i 1 (F.cl i) hi (by omega) (h i hi).cl.1 rfl
  ·intro i hi;exact key i 2 (F.be i) hi (by omega) (h i hi).be.1 rfl
  ·intro i hi;exact key i 3 (F.ba i) hi (by omega) (h i hi).ba.1 rfl
  ·intro i hi;exact key i 4 (F.ca i) hi (by omega) (h i hi).ca.1 rfl
  ·intro i hi;exact key i 5 (F.ji i) hi (by omega) (h i hi).ji.1 rfl
  ·intro i hi;exact (nd_at a h i 6 (F.an i) hi (by omega) rfl).symm
  ·intro i hi j b
   refine key i (7+j) (F.af i j) hi (by omega) ((h i hi).af j b).1 ?_;unfold EX;rw[List.getElem?_append_right (by simp)];simp[b]
end
theorem De.same {F G:Ad}(h:De F F.n)(a:G.dl=F.dl)(hn:G.n=F.n)(b:Ce F G F.n):De G G.n:=⟨by rw[a];exact h.dl,fun i hi=>(h.nodes i (by omega)).same b (by omega)⟩
open Go.RowKit
attribute [local go_sem ↓] Go.wp_at_zero Go.wp_at_succ
structure Px (w x:World)(d:Int)(v:Value):Prop where
 bl:Below w.heap.size w x
 a0:x.cell? ⟨w.heap.size,0,none⟩=some (.int .i64 0)
 a1:x.cell? ⟨w.heap.size,1,none⟩=some (.slice none 0 0)
 f0:x.cell? ⟨w.heap.size+1,0,none⟩=some (.int .i64 d)
 f1:x.cell? ⟨w.heap.size+1,1,none⟩=some v
 za:∀j,x.frozen? ⟨w.heap.size,j,none⟩=false
 zf:∀j,x.frozen? ⟨w.heap.size+1,j,none⟩=false
 sz:w.heap.size+1<x.heap.size
theorem Px.start (w:World)(d:Int):Px w ((w.alloc (.cells #[.int .i64 0, .slice none 0 0] 61)).alloc (.cells #[.int .i64 d, .slice none 0 0] 61)) d (.slice none 0 0):=by
 have e0:=heap_alloc2_old w (.cells #[.int .i64 0, .slice none 0 0] 61) (.cells #[.int .i64 d, .slice none 0 0] 61);have a:=heap_alloc2_new w (.cells #[.int .i64 0, .slice none 0 0] 61) (.cells #[.int .i64 d, .slice none 0 0] 61);exact⟨((Zk _ _).alloc (Zx _) _).alloc (by simp) _,Zad e0 0,Zad e0 1,Zad a 0,Zad a 1,Za9 e0,Za9 a,by simp⟩
theorem Px.Aj {w x y:World}{d:Int}{v:Value}(h:Px w x d v)(g:y.os=x.os)(i:y.tape=x.tape)(hp:y.output=x.output)(f:x.heap.size<=y.heap.size)(c:∀k,k<w.heap.size+2->y.heap[k]? =x.heap[k]?):Px w y d v:=by
 have e0:=c w.heap.size (by omega);have b:=c (w.heap.size+1) (by omega)
 exact⟨⟨g.trans h.bl.os,i.trans h.bl.tape,hp.trans h.bl.output,Zv h.bl.size f,fun k e=>(c k (by omega)).trans (h.bl.block k e)⟩,
  (World.cell?_of_block (a:=⟨w.heap.size,0,none⟩) e0).trans h.a0,(World.cell?_of_block (a:=⟨w.heap.size,1,none⟩) e0).trans h.a1,
  (World.cell?_of_block (a:=⟨w.heap.size+1,0,none⟩) b).trans h.f0,(World.cell?_of_block (a:=⟨w.heap.size+1,1,none⟩) b).trans h.f1,
  fun j=>(World.frozen?_of_block (a:=⟨w.heap.size,j,none⟩) e0).trans (h.za j),fun j=>(World.frozen?_of_block (a:=⟨w.heap.size+1,j,none⟩) b).trans (h.zf j),Zy h.sz f⟩
theorem Px.ZL {w x:World}{d:Int}{v:Value}(h:Px w x d v)(v':Value):Px w (x.setCell ⟨w.heap.size+1,1,none⟩ v') d v' :=
 ⟨h.bl.setCell (by simp) _,(Za6 x _ _ 1 0 _ (by omega)).trans h.a0,(Za6 x _ _ 1 1 _ (by omega)).trans h.a1,(Zac x _ 1 0 _ (by decide)).trans h.f0,World.cell?_setCell_same _ _ _ h.f1,
  fun j=>by rw[World.frozen?_setCell];exact h.za j,fun j=>by rw[World.frozen?_setCell];exact h.zf j,by simpa[World.setCell] using h.sz⟩
theorem Px.grown {w x y:World}{d:Int}{v:Value}{o:Obj}{rb:Option Nat}(h:Px w x d v)(hg:(x.alloc o).grownBy y rb)(a:∀z,rb=some z->w.heap.size+2<=z):Px w y d v:=by
 have b:x.heap.size<=y.heap.size:=by have:=hg.size;simp at this;omega
 have c:=h.sz;refine h.Aj hg.os hg.tape hg.output b fun k f=>II hg (by omega) fun e=> ?_
 have:=a k e.symm;omega
structure Rm (w2 x:World)(g:Nat->Value):Prop where
 os:x.os=w2.os
 tape:x.tape=w2.tape
 output:x.output=w2.output
 size:w2.heap.size<x.heap.size
 block:∀k,k<w2.heap.size->x.heap[k]? =w2.heap[k]?
 nd:Nd x w2.heap.size g
theorem Rm.start (g:World)(u0 a b c d f:Int):Rm g (g.alloc (.cells #[.int .i64 u0, .int .i64 a, .int .i64 b, .int .i64 c, .int .i64 d, .int .i64 f, .slice none 0 0] 130)) (gg u0 a b c d f (.slice none 0 0)):=by
 refine⟨rfl,rfl,rfl,by simp,fun k h=>Zao _ _ _ h,fun j i=> ?_⟩;have e:=heap_alloc_new g (.cells #[.int .i64 u0, .int .i64 a, .int .i64 b, .int .i64 c, .int .i64 d, .int .i64 f, .slice none 0 0] 130);refine⟨(Zad e j).trans ?_,Za9 e j⟩;rcases (show j=0\/j=1\/j=2\/j=3\/j=4\/j=5\/j=6 by omega) with rfl | rfl | rfl | rfl | rfl | rfl | rfl<;>rfl
theorem Rm.set6 {a x:World}{u0 b c d e f:Int}{v:Value}(h:Rm a x (gg u0 b c d e f v))(v':Value):Rm a (x.setCell ⟨a.heap.size,6,none⟩ v') (gg u0 b c d e f v'):=by
 refine⟨h.os,h.tape,h.output,by simpa[World.setCell] using h.size,fun k i=>(Zl x ⟨a.heap.size,6,none⟩ v' k (by simp;omega)).trans (h.block k i),fun j g=> ?_⟩;have:=h.nd.set 6 (by omega) v' j g;rcases (show j=0\/j=1\/j=2\/j=3\/j=4\/j=5\/j=6 by omega) with rfl | rfl | rfl | rfl | rfl | rfl | rfl<;>exact this
theorem Rm.grown {a x y:World}{g:Nat->Value}{o:Obj}{rb:Option Nat}(h:Rm a x g)(hg:(x.alloc o).grownBy y rb)(d:∀z,rb=some z->a.heap.size+1<=z):Rm a y g:=by
 have i:x.heap.size<=y.heap.size:=by have:=hg.size;simp at this;omega
 have f:=h.size;have b:∀k,k<=a.heap.size->y.heap[k]? =x.heap[k]? :=fun k c=>II hg (by omega) fun e=>by have:=d k e.symm;omega
 exact⟨hg.os.trans h.os,hg.tape.trans h.tape,hg.output.trans h.output,by omega,fun k c=>(b k (by omega)).trans (h.block k c),h.nd.block (b _ (Zx _))⟩
theorem Rm.drew {a x:World}{g:Nat->Value}(h:Rm a x g):Rm a x.drew g:=⟨h.os,h.tape,h.output,h.size,h.block,h.nd⟩
theorem Px.round {w b x:World}{d:Int}{v:Value}{g:Nat->Value}(h:Px w b d v)(a:Rm b x g):Px w x d v :=
 h.Aj a.os a.tape a.output (Nat.le_of_lt a.size) fun k c=>a.block k (by have:=h.sz;omega)
def KflI (w wr:World)(d:Int)(n:Nat)(i:Nat):Prop :=
 ∃(F:Ad) (la:Option Addr) (lc:Nat) (Na:Nat->Option Addr) (Nc:Nat->Nat),F.dl=d/\F.n=n/\i<=n/\(∀j,j<i->Lp F j)/\Px w wr d (.slice la i lc)/\An (w.heap.size+2) wr F (.slice la i lc) i Na Nc
def KinI (w2 wz:World)(u0 u1 u2 u3 u4 u5:Int)(k:Nat):Prop :=
 ∃(m:Nat) (xa:Option Addr) (xc:Nat) (zs:Nat->Int),Rm w2 wz (gg u0 u1 u2 u3 u4 u5 (.slice xa m xc))/\wz.ownsRow (w2.heap.size+1) 3 1 (.slice xa m xc) m (Zbz m zs)/\m<=k/\∀j,j<m->0<=zs j/\zs j<k/\(0<j->zs (j - 1)<zs j)
theorem JD (x:Int)(k:Nat)(a:2<=k)(h: -9223372036854775808<=x)(b:x<=9223372036854775807): -9223372036854775808<=x.tdiv k/\x.tdiv k<=9223372036854775807:=by
 have c:(x.tdiv k).natAbs=x.natAbs / (k:Int).natAbs:=Int.natAbs_tdiv x k;have d:x.natAbs / (k:Int).natAbs<=x.natAbs / 2:=Nat.div_le_div_left (by simpa using a) (by omega);omega
theorem Zeg (x:Int)(k:Nat)(n:Int)(w:World)(d:2<=k)(h: -9223372036854775808<=x)(c:x<=9223372036854775807)(hn:1<=n)(a:n<=9223372036854775807) :
  Calls prog 22 #[.int .i64 (x.tdiv k), .int .i64 n] w fun e w'=>∃v:Int,e= .returned (.int .i64 v)/\0<=v/\v<n/\w=w':=by
 have b:=JD x k d h c;refine (Zdb (x.tdiv k) n w b.1 b.2 hn a).mono ?_;rintro e w' ⟨rfl,rfl⟩;exact⟨_,rfl,Zen _ _ hn,Zeo _ _ hn,rfl⟩
theorem Kb (x:Int)(n:Int)(w:World)(h: -9223372036854775808<=x)(b:x<=9223372036854775807)(hn:1<=n)(a:n<=9223372036854775807) :
  Calls prog 22 #[.int .i64 x, .int .i64 n] w fun e w'=>∃v:Int,e= .returned (.int .i64 v)/\0<=v/\v<n/\w=w':=by
 refine (Zdb x n w h b hn a).mono ?_;rintro e w' ⟨rfl,rfl⟩;exact⟨_,rfl,Zen _ _ hn,Zeo _ _ hn,rfl⟩
theorem Tk (w:World)(c0 d0:Int)(ab an:Option Addr)(nb cb nn cn:Nat)(fb fn:Nat->Int)(h0: -9223372036854775808<=c0)(h1:c0<=9223372036854775807)(h2: -9223372036854775808<=d0)(h3:d0<=9223372036854775807)(hb:Dq w ab nb cb fb)(hn:Dq w an nn cn fn) :
  Calls prog 18 #[.int .i64 c0, .slice ab nb cb, .slice an nn cn, .int .i64 d0] w fun e w' =>
   (∃(F:Ad) (la:Option Addr) (lc:Nat) (Na:Nat->Option Addr) (Nc:Nat->Nat),e= .returned (Ex F.dl (.slice la F.n lc))/\An w.heap.size w' F (.slice la F.n lc) F.n Na Nc/\De F F.n/\1<=F.n/\F.n<=12)/\Below w.heap.size w w':=by
 have HB:=Zz hb;have HN:=Zz hn;obtain⟨i27,U,J,K,L⟩:=info_parts Qj;have r:=Zz (Zq U (Zq J (Zq K L)));obtain⟨i3,bf,X,Y,Z⟩:=info_parts Vr;have O:=Zz (Zq bf (Zq X (Zq Y Z)));have p0:=Zen d0 2000 (by omega);have p1:=Zeo d0 2000 (by omega);have q0:=Zen c0 12 (by omega);have q1:=Zeo c0 12 (by omega);have HP:=Zz (Zq p0 p1);clear hb hn U J K L bf X Y Z
 go_enter func18,ntmps18
 go_wp2_with fail
 refine (Zdb d0 2000 _ h2 h3 (by omega) (by omega)).mono ?_;rintro e w1 ⟨rfl,rfl⟩
 generalize CE d0 2000=d1 at *
 go_wp2_with fail
 refine (Zdb c0 12 _ h0 h1 (by omega) (by omega)).mono ?_;rintro e w1 ⟨rfl,rfl⟩
 generalize CE c0 12=c1 at *
 obtain⟨n,rfl⟩:∃n:Nat,c1=n:=⟨c1.toNat,by omega⟩;go_wp2_with fail
 have ar:=Zz (Px.start w (1+d1))
 go_loopw [11] (fun iv wr=>∃i:Nat,iv= .int .i64 i/\KflI w wr (1+d1) (n+1) i) (fun iv _=>n+1 - (intOf iv).toNat)
 case atStart=>exact⟨0,rfl,⟨1+d1,n+1,fun _=>0,fun _=>0,fun _=>0,fun _=>0,fun _=>0,fun _=>0,fun _=>0,fun _ _=>0⟩,none,0,fun _=>none,fun _=>0,rfl,rfl,Nat.zero_le _,fun j S=>by omega,ar.o,World.ownsRow_nil _ _ _ _,fun i hi=>by omega⟩
 case round =>
  obtain⟨i,rfl,F,la,lc,Na,Nc,p,h,hi,c,hK,G⟩:=hrel
  rename World=>wr
  have M:=Zz hK;have N:=Zz G;have HW:=Zz (Zq c (Zq p h));have br:=hK.sz;clear hK G c p h ar;by_cases h4:i<n+1
  case neg =>
   have f0:=M.o.f0;have f1:=M.o.f1;have a0:=M.o.a0;have a1:=M.o.a1;have z0:=M.o.za 0;have l:=M.o.za 1;obtain rfl:i=n+1:=by omega
   go_wp2_with fail
   obtain⟨c,p,h⟩:=HW.o;refine bodyPost_ret (v:=Ex F.dl (.slice la F.n lc)) (by rw[p,h];simp[results,Tryz.results18,go_sem,a0,a1]) rfl ⟨⟨F,la,lc,Na,Nc,rfl,?_,⟨by rw[p];have:=HP.o;omega,by rw[h];exact c⟩,by omega,by omega⟩,?_⟩
   ·rw[h]
    have ax:=N.o;exact An.base (B:=w.heap.size+2) ⟨ownsRow_setCell_below (ownsRow_setCell_below ax.own (by simp) _) (by simp) _,fun i hi=>ownsRow_setCell_below (ownsRow_setCell_below (ax.ID i hi) (by simp) _) (by simp) _⟩ (by omega)
   ·exact (M.o.bl.setCell (by simp) _).setCell (by simp) _
  case pos =>
   go_wp2_with fail
   refine (OI _ an nn cn fn i (by omega) (HN.o.Aj M.o.bl)).mono ?_;rintro e w1 ⟨rfl,rfl⟩;have f:=RL HN.o i
   generalize Lg nn fn i=at' at *
   go_wp2_with fail
   refine (Kb at' 5 _ f.1 f.2 (by omega) (by omega)).mono ?_;rintro e g ⟨v1,rfl,a1,b1,rfl⟩;go_wp2_with fail
   refine (Zeg at' 5 30 _ (by omega) f.1 f.2 (by omega) (by omega)).mono ?_;rintro e g ⟨v2,rfl,a2,b2,rfl⟩;go_wp2_with fail
   refine (Zeg at' 150 6 _ (by omega) f.1 f.2 (by omega) (by omega)).mono ?_;rintro e g ⟨v3,rfl,a3,b3,rfl⟩;go_wp2_with fail
   refine (Zeg at' 7 4 _ (by omega) f.1 f.2 (by omega) (by omega)).mono ?_;rintro e g ⟨v4,rfl,a4,b4,rfl⟩;go_wp2_with fail
   have I:Hid (∀W,Calls prog 22 #[.int .i64 (at'.tdiv 11), .int .i64 20] W fun e w'=>e= .returned (.int .i64 (CE (at'.tdiv 11) 20))/\w'=W):=Zz fun W=>Zdb _ 20 W (JD at' 11 (by omega) f.1 f.2).1 (JD at' 11 (by omega) f.1 f.2).2 (by omega) (by omega)
   have a5:=Zen (at'.tdiv 11) 20 (by omega);have b5:=Zeo (at'.tdiv 11) 20 (by omega)
   generalize CE (at'.tdiv 11) 20=v5 at *
   clear h0 h1 h2 h3
   go_cut [] from 46 to 52 (fun wx=>wx=(w1.alloc (.cells #[.int .i64 (1+v1), .int .i64 (1+v2), .int .i64 0, .int .i64 (1+v3), .int .i64 (1+v3+v5), .int .i64 v4, .slice none 0 0] 130)).drew)
   case first =>
    have hq: -9223372036854775808<=at'.tdiv 11/\at'.tdiv 11<=9223372036854775807:=JD at' 11 (by omega) f.1 f.2;have ck:IntKind.i64.wrap (at'.tdiv 11)=at'.tdiv 11:=by rw[IntKind.wrap_i64];omega
    have bw:IntKind.i64.wrap (1+v3+v5)=1+v3+v5:=by rw[IntKind.wrap_i64];omega
    clear hq
    go_region_held3 (fun w'=>w'.cell? ⟨w1.heap.size,3,none⟩=some (.int .i64 (1+v3))) (go_keep) ((go_at_call 22;refine (I.o _).mono ?_;rintro e w' ⟨rfl,rfl⟩))
    all_goals (go_wp2_with fail;go_meet;exact rfl)
   case rest =>
    obtain rfl:=hcut
    rename World=>g
    clear I;go_wp2_with fail
    refine (Zeg at' 3 2 _ (by omega) f.1 f.2 (by omega) (by omega)).mono ?_;rintro e x ⟨v6,rfl,a6,b6,rfl⟩
    go_upto_if 56 with fail
    go_cut [] from 57 to 61 (fun wx=>∃d:Int,0<=d/\d<=20/\wx=(g.alloc (.cells #[.int .i64 (1+v1), .int .i64 (1+v2), .int .i64 d, .int .i64 (1+v3), .int .i64 (1+v3+v5), .int .i64 v4, .slice none 0 0] 130)).drew)
    case first =>
     by_cases h5:v6=1
     ·subst h5
      go_wp2_with fail
      refine (Zeg at' 13 20 _ (by omega) f.1 f.2 (by omega) (by omega)).mono ?_;rintro e x ⟨d,rfl,a7,b7,rfl⟩;go_wp2_with fail
      go_meet
      exact⟨1+d,by omega,by omega,rfl⟩
     ·have cm:(v6 == 1)=false:=by simpa using h5
      go_wp2_with fail
      go_meet
      exact⟨0,by omega,by omega,rfl⟩
    case rest =>
     obtain⟨d,a7,b7,rfl⟩:=hcut;have aw:=Zz (Rm.start g (1+v1) (1+v2) d (1+v3) (1+v3+v5) v4).drew;go_wp2_with fail
     refine (OI _ ab nb cb fb i (by omega) (HB.o.Aj (M.o.round aw.o).bl)).mono ?_;rintro e x ⟨rfl,rfl⟩;have b9:=RL HB.o i
     generalize Lg nb fb i=bt at *
     go_wp2_with fail
     have av:Hid ((1<=1+v1/\1+v1<=5)/\(1<=1+v2/\1+v2<=30)/\(0<=d/\d<=20)/\(1<=1+v3/\1+v3<=6)/\(1+v3<=1+v3+v5/\1+v3+v5<=30)/\(0<=v4/\v4<=3)):=Zz (by omega);clear a1 b1 a2 b2 a3 b3 a4 b4 a5 b5 a6 b6 a7 b7 f p0 p1
     generalize 1+v3+v5=z4 at *
     generalize 1+v1=z0 at *
     generalize 1+v2=l at *
     generalize 1+v3=z3 at *
     go_loopw [15] (fun kv t=>∃k:Nat,kv= .int .i64 k/\k<=i/\KinI g t z0 l d z3 z4 v4 k) (fun kv _=>i - (intOf kv).toNat)
     case atStart=>exact⟨0,rfl,Nat.zero_le _,0,none,0,fun _=>0,aw.o,World.ownsRow_nil _ _ _ _,Zx _,fun j S=>by omega⟩
     case round =>
      obtain⟨k,rfl,hk,m,D,E,C,hX,V,hm,bh⟩:=hrel
      rename World=>t
      have A:=Zz hX;have s:=Zz V;have P:=Zz bh;have cq:=hX.size;have aj:Hid (∀z,(Value.slice D m E).ownBlock=some z->g.heap.size+1<=z):=Zz fun z hz=>(s.o.lt z hz).1;clear hX V bh;by_cases h5:k<i
      case pos =>
       go_wp2_with fail
       refine (Kb bt 1048576 _ b9.1 b9.2 (by omega) (by omega)).mono ?_;rintro e x ⟨v8,rfl,a8,b8,rfl⟩;have n6:t.cell? ⟨g.heap.size,6,none⟩=some (.slice D m E):=(A.o.nd 6 (by omega)).1;go_wp2_with (at_builtin;refine wpList_append_own _ rfl (.tmp 78) (.tmp 80) 24 rfl (g.heap.size+1) 3 i3 (.int .i64 0) 1 8 underlying24 O.o.1 O.o.2.1 O.o.2.2.1 O.o.2.2.2 rfl (by decide) (.slice D m E) m (Zbz m C) rfl (s.o.alloc _) ⟨t.heap.size,0,none⟩ 1 1 [.int .i64 k] rfl rfl (Kj _ _ _ _ rfl) (by intro u hu;simp only[List.mem_singleton] at hu;subst hu;rfl) (by unfold maxLen;omega) (by omega) (by simp;omega) ?_;intro bo w4 a b H;clear H;obtain⟨xb,xd,rfl⟩:=Zaz a;have R:=A.o.grown b aj.o;have y:=Zz (Zq a R);have n4:w4.cell? ⟨g.heap.size,6,none⟩=some (.slice D m E):=(R.nd 6 (by omega)).1;have bp:w4.frozen? ⟨g.heap.size,6,none⟩=false:=(R.nd 6 (by omega)).2;clear a b R)
       ·go_roundw
        case rel =>
         refine⟨k+1,by go_num,by omega,m+1,xb,xd,fun j=>if j=m then (k:Int) else C j,y.o.2.set6 _,?_,by omega,fun j S=> ?_⟩
         ·rw[Qk]
          exact ownsRow_setCell_below y.o.1 (by simp) _
         ·by_cases e:j=m
          ·subst e
           simp only[if_true];refine⟨by omega,by omega,fun h0=> ?_⟩;rw[if_neg (by omega)];exact (P.o (j - 1) (by omega)).2.1
          ·have h9:=P.o j (by omega)
           simp only[e,if_false];refine⟨h9.1,by omega,fun h0=> ?_⟩;rw[if_neg (by omega)];exact h9.2.2 h0
        case measure=>simp[intOf];omega
       ·go_roundw
        case rel=>exact⟨k+1,by go_num,by omega,m,D,E,C,A.o,s.o,by omega,fun j S=>by have h9:=P.o j S;exact⟨h9.1,by omega,h9.2.2⟩⟩
        case measure=>simp[intOf];omega
      case neg =>
       obtain rfl:k=i:=by omega
       have au:=Zz (M.o.round A.o);have T:Hid (An (w.heap.size+2) t F (.slice la k lc) k Na Nc):=Zz ⟨Im N.o.own fun z _ h2=>A.o.block z h2,fun j S=>Im (N.o.ID j S) fun z _ h2=>A.o.block z h2⟩;have bj:Hid (∀z,(Value.slice la k lc).ownBlock=some z->w.heap.size+2<=z):=Zz fun z hz=>(N.o.own.lt z hz).1;have f1:=au.o.f1;have n0:t.cell? ⟨g.heap.size,0,none⟩=some (.int .i64 z0):=(A.o.nd 0 (by omega)).1;have n1:t.cell? ⟨g.heap.size,1,none⟩=some (.int .i64 l):=(A.o.nd 1 (by omega)).1;have n2:t.cell? ⟨g.heap.size,2,none⟩=some (.int .i64 d):=(A.o.nd 2 (by omega)).1;have n3:t.cell? ⟨g.heap.size,3,none⟩=some (.int .i64 z3):=(A.o.nd 3 (by omega)).1;have n4:t.cell? ⟨g.heap.size,4,none⟩=some (.int .i64 z4):=(A.o.nd 4 (by omega)).1;have n5:t.cell? ⟨g.heap.size,5,none⟩=some (.int .i64 v4):=(A.o.nd 5 (by omega)).1;have n6:t.cell? ⟨g.heap.size,6,none⟩=some (.slice D m E):=(A.o.nd 6 (by omega)).1;have ag:Hid (∀u∈[Value.int .i64 z0, .int .i64 l, .int .i64 d, .int .i64 z3, .int .i64 z4, .int .i64 v4, .slice D m E],u.oneCell'=true):=Zz (by intro u hu;simp only[List.mem_cons,List.not_mem_nil,or_false] at hu;rcases hu with rfl | rfl | rfl | rfl | rfl | rfl | rfl<;>rfl);go_wp2_with (at_builtin;refine wpList_append_own _ rfl (.tmp 84) (.tmp 86) 59 rfl (w.heap.size+2) 130 i27 (.agg #[.int .i64 0, .int .i64 0, .int .i64 0, .int .i64 0, .int .i64 0, .int .i64 0, .slice none 0 0]) 7 72 underlying59 r.o.1 r.o.2.1 r.o.2.2.1 r.o.2.2.2 rfl (by decide) (.slice la k lc) k (Zbv F Na Nc k) rfl (T.o.own.alloc _) ⟨t.heap.size,0,none⟩ 1 1 [.int .i64 z0, .int .i64 l, .int .i64 d, .int .i64 z3, .int .i64 z4, .int .i64 v4, .slice D m E] rfl rfl (RK _ _ _ _ rfl) ag.o (by unfold maxLen;omega) (by omega) (by simp;omega) ?_;intro bo w4 a b H;clear H;obtain⟨xb,xd,rfl⟩:=Zaz a;have Q:=au.o.grown b bj.o;have y:=Zz (Zq a (Zq b Q));have q4:=Q.f1;have bp:=Q.zf 1;clear a b Q)
       go_roundw
       case rel =>
        have hs:=F.Xs k z0 l d z3 z4 v4 m C;have az:(F.upd k z0 l d z3 z4 v4 m C).an k=m:=if_pos rfl;have ay:(F.upd k z0 l d z3 z4 v4 m C).af k=C:=if_pos rfl;have ae:[Value.int .i64 z0, .int .i64 l, .int .i64 d, .int .i64 z3, .int .i64 z4, .int .i64 v4, .slice D m E]=Zef (F.upd k z0 l d z3 z4 v4 m C) k D E:=by simp[Zef,Ad.upd]
        have a:=y.o.1;rw[ae,IS hs Na Nc k (Zx _)] at a
        have al:t.ownsRow (w.heap.size+2) 3 1 (.slice D ((F.upd k z0 l d z3 z4 v4 m C).an k) E) ((F.upd k z0 l d z3 z4 v4 m C).an k) (Zbz ((F.upd k z0 l d z3 z4 v4 m C).an k) ((F.upd k z0 l d z3 z4 v4 m C).af k)):=by
         rw[az,ay];exact Zcr s.o (by omega)
        have G:=(T.o.same hs).more (al.alloc (.cells #[.int .i64 z0, .int .i64 l, .int .i64 d, .int .i64 z3, .int .i64 z4, .int .i64 v4, .slice D m E] 130)) ((Zk _ _).alloc (Zx _) _) a y.o.2.1;obtain⟨c,p,h⟩:=HW.o;refine⟨k+1,by go_num,F.upd k z0 l d z3 z4 v4 m C,xb,xd,_,_,p,h,by omega,fun j S=> ?_,y.o.2.2.ZL _,⟨ownsRow_setCell_below G.own (by simp) _,fun j S=>ownsRow_setCell_below (G.ID j S) (by simp) _⟩⟩;by_cases e:j=k
        ·subst e
         obtain⟨x1,x2,x3,x4,x5,x6⟩:=av.o;refine⟨?_,?_,?_,?_,?_,?_,fun q hq=> ?_⟩
         ·simpa[Ad.upd] using x1
         ·simpa[Ad.upd] using x2
         ·simpa[Ad.upd] using x3
         ·simpa[Ad.upd] using x4
         ·simpa[Ad.upd] using x5
         ·simpa[Ad.upd] using x6
         ·rw[az] at hq
          rw[ay];exact P.o q hq
        ·exact (c j (by omega)).same hs (by omega)
       case measure=>simp[intOf];omega
end Go.Proofs.YtgdcjccbdmcebaaGreatDoor
