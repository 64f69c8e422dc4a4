import Derived.Test.YtgdcjccbdmcebaaGreatDoorM30
set_option linter.unusedSimpArgs false
set_option linter.unusedVariables false
set_option maxHeartbeats 8000000
set_option maxRecDepth 100000
namespace Go.Proofs.YtgdcjccbdmcebaaGreatDoor
open Tryz
open Go.RowKit
attribute [local go_sem ↓] Go.wp_at_zero Go.wp_at_succ
def Rl (t:TypeId):Prop:=t=288\/t=274\/t=266\/t=272\/t=276\/t=3\/t=27\/t=130\/t=61\/t=48
structure NF (w w':World)(P B:Nat):Prop where
 size:w.heap.size<=w'.heap.size
 cell:∀o,4<=o->w'.cell? ⟨P,o,none⟩=w.cell? ⟨P,o,none⟩
 AE:∀o,w'.frozen? ⟨P,o,none⟩=w.frozen? ⟨P,o,none⟩
 block:∀k cs t fr,B<=k->w.heap[k]? =some (.cells cs t fr)->Rl t->w'.heap[k]? =w.heap[k]?
 map:∀k es c,B<=k->w.heap[k]? =some (.map es c)->w'.heap[k]? =w.heap[k]?
theorem NF.gf {w w':World}{P B:Nat}(h:NF w w' P B):GF w { w' with heap:=w'.heap } P (fun o=>o<4) (fun k=>w'.heap[k]? ≠w.heap[k]?) :=
 ⟨h.size,fun k _ _ a=>by simpa using a,fun o b=>h.cell o (by omega),h.AE⟩
theorem Er.side {w w':World}{P B:Nat}{ob:Option Nat}{rs:List Aq}{el:List Int}{qu:List AZ}{now:Nat}{l:List Tm}{lr lt sd:Int}(h:Er w P B ob rs el qu now l lr lt sd)(hn:NF w w' P B):Er w' P B ob rs el qu now l lr lt sd:=by
 have g:=hn.gf;obtain⟨x,y,s⟩:=h.kn;obtain⟨a,n,c,f,z,u,j⟩:=h.en;obtain⟨p,n',q,r,m,v⟩:=h.qu
 refine⟨⟨x,y,s.gf g (by omega) (fun k cs t fr b e i d=>d (hn.block k cs t fr b e ?_))⟩,
  ⟨a,n,c,f,z,u.gf g (fun o _ _=>by omega) (fun k cs t fr b e i _ d=>d (hn.block k cs t fr b e ?_)),j⟩,
  ⟨p,n',q,r,m,v.gf g (fun o _ _=>by omega) (fun k cs t fr b e i d=>d (hn.block k cs t fr b e ?_))⟩,
  h.wh.gf g (fun o _ _=>by omega) (fun k cs t fr b e i d=>d (hn.block k cs t fr b e ?_)) (fun k es c b e d=>d (hn.map k es c b e)),(hn.cell 728 (by omega)).trans h.lr,(hn.cell 729 (by omega)).trans h.lt,(hn.cell 730 (by omega)).trans h.sd,fun o=>(hn.AE o).trans (h.fz o)⟩
 ·unfold Rl;rcases i with rfl | rfl | rfl | rfl<;>simp
 ·unfold Rl;subst i;simp
 ·unfold Rl;subst i;simp
 ·unfold Rl;subst i;simp
theorem Cj.side {w w':World}{P B:Nat}{ob:Option Nat}{e:Ab}{rs:List Aq}{l:List Tm}(h:Cj w P B ob e rs l)(hn:NF w w' P B):Cj w' P B ob e rs l:=by
 obtain⟨el,now,a,b,c⟩:=h.ex;exact⟨⟨el,now,a.side hn,b,c⟩,h.len,h.runs⟩
def ED (w:World)(P B fn:Nat)(cs:Array Value)(Kp:Int->World->Prop):Prop :=
 (∀wx,(callFunc fn cs).run prog wx= .ok (.enter fn cs) wx)/\∀wx,Below w.heap.size w wx->Calls prog fn cs wx fun x w'=>∃v,x= .returned (AH v)/\NF wx w' P B/\Kp v w'
def BX (P B:Nat)(ob:Option Nat)(Kp:Int->World->Prop)(e e':Ab)(v:Int)(w':World):Prop:=∃w1 ob',Kp v w1/\BY w' P B ob' (if v=0 then e' else e)/\KF w1 w' P B ob/\As w1 ob ob'
theorem Zaw:AH 0= .nilIface:=rfl
theorem Zan {v:Int}(h:v≠0):AH v= .iface 32 (.int .i64 v):=if_neg h
theorem BX.err {P B:Nat}{ob:Option Nat}{Kp:Int->World->Prop}{e e':Ab}{v:Int}{w':World}{rs:List Aq}{l:List Tm}(c:v≠0)(a:Kp v w')(d:Cj w' P B ob e rs l)(b:Be e l):BX P B ob Kp e e' v w':=⟨w',ob,a,by rw[if_neg c];exact⟨rs,l,d,b⟩,KF.refl _ _ _ _,As.refl _ _⟩
theorem BX.ok {P B:Nat}{ob a:Option Nat}{Kp:Int->World->Prop}{e e':Ab}{b w':World}{rs:List Aq}{l:List Tm}(c:Kp 0 b)(g:Cj w' P B a e' rs l)(f:Be e' l)(hf:KF b w' P B ob)(d:As b ob a):BX P B ob Kp e e' 0 w':=⟨b,a,c,⟨rs,l,g,f⟩,hf,d⟩
theorem Tl (w:World)(P B:Nat)(ob:Option Nat)(e:Ab)(n:Int)(fn:Nat)(cs:Array Value)(Kp:Int->World->Prop)(h:BY w P B ob e)(p:ED w P B fn cs Kp) :
  Calls prog 114 #[.pointer (some ⟨P,4,none⟩), .int .u64 n, .func (.func fn) #[] cs] w fun x w'=>∃v,x= .returned (AH v)/\BX P B ob Kp e { e with At:=n } v w':=by
 obtain⟨rs,l,s,r⟩:=h;have H:=Zz (Zq s r);have t:=Zz p.2;have u:=p.1 w;clear s r p
 go_enter func114,ntmps114
 go_upto_region 2 with (refine (t.o w (Zk _ _)).mono ?_;rintro _ y ⟨v,rfl,hn,f⟩;have k:=Zz (Zq hn f);clear hn f)
 have a:=H.o.1.side k.o.1;by_cases j:v=0
 ·subst j
  rw[Zaw];obtain⟨el,now,i,g,d⟩:=a.ex;have b:=Zz a;have c6:=i.sd;have f6:=i.fz 730;have m:=Zz (i.num 730 n e.Ah e.Ai n (Zj (Zj ⟨rfl,rfl,rfl,rfl⟩)));have c:=Zz (Zq g d);clear a i g d;go_wp2_with fail
  go_ret
  refine⟨0,rfl,BX.ok (l:=l) (rs:=rs) k.o.2 ⟨⟨el,now,m.o,c.o.1,c.o.2⟩,b.o.len,b.o.runs⟩ (H.o.2.same rfl) (KF.Bt y P B 730 ob _ (by omega)) (As.refl _ _)⟩
 ·rw[Zan j]
  have q:=Zz j;have b:=Zz a;clear j a;go_wp2_with fail
  go_ret
  exact⟨v,by rw[Zan q.o];rfl,BX.err q.o k.o.2 b.o H.o.2⟩
theorem LQ (w:World)(P B:Nat)(ob:Option Nat)(e:Ab)(a:Int)(fn:Nat)(cs:Array Value)(Kp:Int->World->Prop)(h:BY w P B ob e)(ok:Ak e)(q:ED w P B fn cs Kp)(f:∀w',Kp 0 w'->AL w')(E:2<B)(p:2≠P)(C:0<=a)(D:a<18446744073709551616)(r:e.Ah<18446744073709551616)(s:0<=e.At/\e.At<18446744073709551616) :
  Calls prog 113 #[.pointer (some ⟨P,4,none⟩), .int .u64 a, .func (.func fn) #[] cs] w fun x w'=>∃v m,x= .returned (AH v)/\(v=0->BU e a m)/\BX P B ob Kp e m v w':=by
 obtain⟨rs,l,j,t⟩:=h;have H:=Zz (Zq j t);have z:=Zz q.2;have g:=q.1 w;clear j t q
 go_enter func113,ntmps113
 go_upto_region 2 with (refine (z.o w (Zk _ _)).mono ?_;rintro _ u ⟨v,rfl,hn,i⟩;have k:=Zz (Zq hn i);clear hn i)
 have b:=H.o.1.side k.o.1;by_cases c:v=0
 ·subst c
  rw[Zaw];have d:=Zz b;have y:=Zz (MH u P B ob e rs l a b H.o.2 ok (f u k.o.2) E p C D r s);clear b g;go_wp2_with (go_at_call 159;refine y.o.mono ?_;rintro _ N ⟨rfl,j⟩;have A:=Zz j;clear j)
  go_ret
  obtain⟨m,L,M,F,q1,G,_,I,J,K⟩:=A.o;exact⟨0,m,rfl,fun _=>q1,BX.ok k.o.2 G I J K⟩
 ·rw[Zan c]
  have n:=Zz c;have d:=Zz b;clear c b g;go_wp2_with fail
  go_ret
  exact⟨v,e,by rw[Zan n.o];rfl,fun c=>absurd c n.o,BX.err n.o k.o.2 d.o H.o.2⟩
open Go.RowKit
attribute [local go_sem ↓] Go.wp_at_zero Go.wp_at_succ
variable {Kp:Int->World->Prop}
theorem work_of {rs:List Aq}{tok:Int}{i k:Nat}{e:Ab}(h:Hs rs tok (some (i,k)))(hl:rs.length=e.runs.length)(hi:∀i,i<e.runs.length->Br (Am rs i) (e.at_ i)):i<e.runs.length/\k<(e.at_ i).steps.length/\((e.at_ i).at_ k).st=3:=by
 cases h with
 | at_ _ _ g d f _ _ =>
  have a:i<e.runs.length:=by omega
  have c:=hi i a;have b:k<(e.at_ i).steps.length:=by rw[<-c.len];exact d
  exact⟨a,b,by rw[<-(c.nd k b).1];exact f.1⟩
theorem Gk (w:World)(P B:Nat)(ob:Option Nat)(e:Ab)(rs:List Aq)(l:List Tm)(tok:Int)(fn:Nat)(cs:Array Value)(h:Cj w P B ob e rs l)(wk:Ao e)(hn:e.task tok=none) :
  Calls prog 147 #[.pointer (some ⟨P,4,none⟩), .int .u64 tok, .func (.func fn) #[] cs] w fun x w'=>x= .returned (.tuple #[.pointer none, .int .i64 0,AH 7])/\Below w.heap.size w w':=by
 obtain⟨el,now,f,d,c⟩:=h.ex;obtain⟨k,m,a⟩:=f.kn
 have i:Hid (Calls prog 221 #[.pointer (some ⟨P,4,none⟩), .int .u64 tok] w fun e w'=>e= .returned (.tuple #[.pointer none, .int .i64 0, .bool false])/\Below w.heap.size w w'):=Zz ((Jh w P B m k rs tok a).mono (by
  rintro x w' ⟨o,rfl,j,b⟩;have:=j.task h.len h.runs wk;rw[hn] at this;subst this;exact⟨rfl,b⟩))
 clear h wk hn f d c a
 go_enter func147,ntmps147
 go_wp2_with (go_at_call 221;refine i.o.mono ?_;rintro _ n ⟨rfl,b⟩;have g:=Zz b;clear b)
 go_ret3
 exact⟨rfl,g.o⟩
theorem Gl (w:World)(P B:Nat)(ob:Option Nat)(e:Ab)(rs:List Aq)(l:List Tm)(tok:Int)(i k fn:Nat)(cs:Array Value)(h:Cj w P B ob e rs l)(wk:Ao e)(hn:e.task tok=some (i,k))(m:ED w P B fn cs Kp) :
  Calls prog 147 #[.pointer (some ⟨P,4,none⟩), .int .u64 tok, .func (.func fn) #[] cs] w fun x w'=>∃v,x= .returned (.tuple #[.pointer (some ⟨(Am rs i).b,0,none⟩), .int .i64 k,AH v])/\(i<e.runs.length/\k<(e.at_ i).steps.length/\((e.at_ i).at_ k).st=3)/\Cj w' P B ob e rs l/\Kp v w':=by
 obtain⟨el,now,q,n,j⟩:=h.ex;obtain⟨z,A,c⟩:=q.kn
 have u:Hid (Calls prog 221 #[.pointer (some ⟨P,4,none⟩), .int .u64 tok] w fun x w'=>x= .returned (.tuple #[.pointer (some ⟨(Am rs i).b,0,none⟩), .int .i64 k, .bool true])/\(i<e.runs.length/\k<(e.at_ i).steps.length/\((e.at_ i).at_ k).st=3)/\Below w.heap.size w w'):=Zz ((Jh w P B A z rs tok c).mono (by
  rintro x w' ⟨o,rfl,r,f⟩;have:=r.task h.len h.runs wk;rw[hn] at this;subst this;exact⟨rfl,work_of r h.len h.runs,f⟩))
 have H:=Zz h;have t:=Zz m.2;have a:=m.1;clear h wk hn q n j c m
 go_enter func147,ntmps147
 go_wp2_with (first
  | (go_at_call 221;refine u.o.mono ?_;rintro _ s ⟨rfl,hw,f⟩;have g:=Zz (Zq hw f);clear hw f;have y:=a s)
  | (refine (t.o s g.o.2).mono ?_;rintro _ C ⟨v,rfl,hn,d⟩;have p:=Zz (Zq hn d);clear hn d))
 go_ret3
 exact⟨v,rfl,g.o.1,(H.o.below g.o.2).side p.o.1,p.o.2⟩
theorem JW (w:World)(P B:Nat)(ob:Option Nat)(e:Ab)(tok:Int)(fn:Nat)(cs:Array Value)(h:BY w P B ob e)(wk:Ao e)(n:ED w P B fn cs Kp)(p:e.Ah<18446744073709551616)(q:0<=e.At/\e.At<18446744073709551616) :
  Calls prog 111 #[.pointer (some ⟨P,4,none⟩), .int .u64 tok, .func (.func fn) #[] cs] w fun x w'=>(e.fail tok=none/\x= .returned (AH 7)/\Below w.heap.size w w')\/∃v t,e.fail tok=some t/\x= .returned (AH v)/\BX P B ob Kp e t v w':=by
 obtain⟨rs,l,b,r⟩:=h
 cases a:e.task tok with
 | none =>
  have hf:e.fail tok=none:=by unfold Ab.fail;rw[a]
  have j:=Zz (Gk w P B ob e rs l tok fn cs b wk a);clear a b r n
  go_enter func111,ntmps111
  go_wp2_with (go_at_call 147;refine j.o.mono ?_;rintro _ y ⟨rfl,u⟩;have z:=Zz u;clear u;rw[Zan (by decide)])
  go_ret
  exact Zu ⟨hf,rfl,z.o⟩
 | some A =>
  obtain⟨i,k⟩:=A;have hf:e.fail tok=some (e.AT i k):=by unfold Ab.fail;rw[a]
  have j:=Zz (Gl w P B ob e rs l tok i k fn cs b wk a n);have d:=Zz r;clear a b r n
  go_enter func111,ntmps111
  go_upto_region 2 with (go_at_call 147;refine j.o.mono ?_;rintro _ y ⟨v,rfl,hw,b,f⟩;have c:=Zz (Zq hw (Zq b f));clear hw b f)
  by_cases g:v=0
  ·subst g
   rw[Zaw];have HF:=Zz (LO y P B ob e rs l i k c.o.2.1 wk c.o.1.1 c.o.1.2.1 c.o.1.2.2 (d.o.toN i k) p q);go_wp2_with (go_at_call 156;refine HF.o.mono ?_;rintro _ I ⟨rfl,b⟩;have m:=Zz b;clear b)
   go_ret
   obtain⟨G,H,C,q1,_,D,E,F⟩:=m.o;exact Zj ⟨0,_,hf,rfl,BX.ok c.o.2.2 q1 D E F⟩
  ·rw[Zan g]
   have s:=Zz g;clear g;go_wp2_with fail
   go_ret
   exact Zj ⟨v,_,hf,by rw[Zan s.o];rfl,BX.err s.o c.o.2.2 c.o.2.1 d.o⟩
theorem Cj.KU {w w':World}{P B:Nat}{ob:Option Nat}{e:Ab}{rs:List Aq}{l:List Tm}(h:Cj w P B ob e rs l)(hf:PF w w' P B Ck){m:Nat}{a:List Tm}(hw:Bf w' P B Ck m a)(hm:e.time=(m:Int)):Cj w' P B ob e rs a:=by
 have:=h.Dm hf hw;rw[e.QU hm] at this;exact this
theorem Cj.BE {w w':World}{P B:Nat}{ob:Option Nat}{e e':Ab}{rs:List Aq}{l:List Tm}(h:Cj w P B ob e rs l){i k:Nat}(hi:i<e.runs.length)(s:(e.at_ i).st=1)(t:k<(e.at_ i).steps.length){f:Cl->Cl}{g:AM->AM}
  (hs:(f ((Am rs i).at_ k)).st=(g ((e.at_ i).at_ k)).st) (ht:(f ((Am rs i).at_ k)).tries=(g ((e.at_ i).at_ k)).tries) (hn:PB (e.at_ i).fl k (g ((e.at_ i).at_ k)) (f ((Am rs i).at_ k)))
  (hr:AW w' B ((Am rs i).BE k f)) (hf:Du w w' (Am rs i).b (Am rs i).ng) (he:e'.runs=(e.Af i k g).runs) (h2:e'.queue=e.queue) (h3:e'.time=e.time) (h4:e'.Ah=e.Ah) (h5:e'.Ai=e.Ai) (h6:e'.At=e.At) :
  Cj w' P B ob e' (rs.set i ((Am rs i).BE k f)) l/\BS rs (rs.set i ((Am rs i).BE k f))/\KF w w' P B ob:=by
 obtain⟨el,now,m,q,o⟩:=h.ex;have j:i<rs.length:=by rw[h.len];exact hi
 have n:=m.run j hr rfl rfl hf;have a:=DT (e:=e) (e':=e') (f:=fun d=>d.Af k g) h.len h.runs hi he ((h.runs i hi).step s t hs ht hn);obtain⟨u,v,p⟩:=m.kn;refine⟨⟨⟨el,now,by rw[h2,h4,h5,h6];exact n,h3.trans q,o.same (Za7 he) (fun x r=> ?_)⟩,a.1,a.2⟩,⟨by rw[List.length_set],fun x r=> ?_⟩,KF.IT (p.runs i j) hf m.pb.1⟩
 ·have:=Zba (e:=e) (e':=e') (i:=i) (k:=k) (f:=g) he r
  exact⟨this.1,this.2.2.2.2.2⟩
 ·rw[Zdg j r]
  split
  ·rename_i c;subst c;rfl
  ·rfl
theorem Xk {e e':Ab}(wk:Ao e){i k:Nat}(hi:i<e.runs.length)(g:k<(e.at_ i).steps.length){f:AM->AM}(j:e'.runs=(e.Af i k f).runs)(a:(f ((e.at_ i).at_ k)).st≠3/\(f ((e.at_ i).at_ k)).st≠4){b:List Tm}(c:Bn b)(d:∀t,t∈b↔BF e t/\¬Dw (e.at_ i).id k t):Be e' b:=by
 rw[Zbc];refine⟨c,fun t=> ?_⟩;rw[d,Zdp wk hi g j];constructor
 ·exact fun h=>Zu h
 ·rintro (h | ⟨_,h⟩)
  ·exact h
  ·rcases h with⟨h,_⟩ | ⟨h,_⟩ | ⟨h,_⟩
   ·exact absurd h a.1
   ·exact absurd h a.2
   ·exact absurd h a.1
theorem UC {e:Ab}{i:Nat}:((List.range (e.at_ i).steps.length).filter (e.at_ i).free).Nodup/\∀k∈(List.range (e.at_ i).steps.length).filter (e.at_ i).free,k<(e.at_ i).steps.length/\((e.at_ i).at_ k).st=1:=by
 refine⟨List.nodup_range.filter _,fun k c=> ?_⟩;obtain⟨a,b⟩:=List.mem_filter.1 c;exact⟨List.mem_range.1 a,EO b⟩
theorem Pf {e:Ab}{i:Nat}(hi:i<e.runs.length):Zdj e i ((List.range (e.at_ i).steps.length).filter (e.at_ i).free)=e.Bl i:=(JF e i hi).symm
theorem Mu {w:World}{P B:Nat}{ob:Option Nat}{e:Ab}{rs:List Aq}{l:List Tm}{i:Nat}(h:Cj w P B ob e rs l)(wk:Ao e)(hi:i<e.runs.length)(p:(e.at_ i).st=1)(D:Be e l) :
  Calls prog 154 #[.pointer (some ⟨(Am rs i).b,0,none⟩)] w fun x o=>∃a n c,x= .returned (.slice a n c)/\Below w.heap.size w o/\Calls prog 153 #[.pointer (some ⟨P,4,none⟩), .pointer (some ⟨(Am rs i).b,0,none⟩), .slice a n c] o fun x w'=>x= .returned (.tuple #[])/\∃g,Cj w' P B ob (e.Bl i) g l/\BS rs g/\Be (e.Bl i) l/\Ao (e.Bl i)/\FJ e (e.Bl i) i/\KF w w' P B ob:=by
 obtain⟨el,now,u,F,E⟩:=h.ex;obtain⟨I,J,t⟩:=u.kn;have s:i<rs.length:=by rw[h.len];exact hi
 have m:=h.runs i hi;have d:=wk.runs i hi;have q:=m.awake p d.fl d.len;refine (Sr w B (Am rs i) (t.runs i s) (m.within p d.fl d.len)).mono ?_;rintro x o ⟨a,c,rfl,j,r⟩;refine⟨a,_,c,rfl,r,?_⟩;have f:=UC (e:=e) (i:=i);rw[q] at j ⊢;have C:P<w.heap.size:=u.pl;have:=Kc o P B ob e rs l i c a _ (h.below r) wk hi p ⟨f.1,fun k v=>⟨(f.2 k v).1,Zu (f.2 k v).2⟩⟩ (D.toW wk hi f.2) (BR.of_own C j);refine this.mono ?_;rintro x w' ⟨rfl,g,q1,G,y,z,A,H⟩;rw[Pf hi] at q1 y z A;exact⟨rfl,g,q1,G,y,z,A,(KF.Ae P B ob r).trans H (As.refl _ _)⟩
theorem FM (w:World)(P B:Nat)(ob:Option Nat)(e:Ab)(tok:Int)(fn:Nat)(cs:Array Value)(h:BY w P B ob e)(wk:Ao e)(hk:ED w P B fn cs Kp)(cr:e.Ah<18446744073709551616) :
  Calls prog 110 #[.pointer (some ⟨P,4,none⟩), .int .u64 tok, .func (.func fn) #[] cs] w fun x w'=>(e.complete tok=none/\x= .returned (AH 7)/\Below w.heap.size w w')\/∃v e2,e.complete tok=some e2/\x= .returned (AH v)/\BX P B ob Kp e e2 v w':=by
 obtain⟨rs,l,D,ht⟩:=h
 cases G:e.task tok with
 | none =>
  have hf:e.complete tok=none:=by unfold Ab.complete;rw[G]
  have HT:=Zz (Gk w P B ob e rs l tok fn cs D wk G);clear G D ht hk
  go_enter func110,ntmps110
  go_wp2_with (go_at_call 147;refine HT.o.mono ?_;rintro _ N ⟨rfl,Z⟩;have HB:=Zz Z;clear Z;rw[Zan (by decide)])
  go_ret
  exact Zu ⟨hf,rfl,HB.o⟩
 | some ik =>
  obtain⟨i,k⟩:=ik;have hf:e.complete tok=some (((e.Af i k (fun s=>{ s with st:=5 })).Bl i).settle i):=by unfold Ab.complete;rw[G]
  have HT:=Zz (Gl w P B ob e rs l tok i k fn cs D wk G hk);have ag:=Zz ht;obtain⟨b,Z⟩:∃b,b=(Am rs i).b:=⟨_,rfl⟩;rw[<-Z] at HT;have K:=Zz Z;clear G D ht hk Z
  go_enter func110,ntmps110
  go_upto_region 2 with (go_at_call 147;refine HT.o.mono ?_;rintro _ N ⟨v,rfl,hw,D,y⟩;have Y:=Zz (Zq hw (Zq D y));clear hw D y)
  by_cases hv:v=0
  ·subst hv
   rw[Zaw];obtain⟨⟨hi,d,h3⟩,O,y⟩:=Y.o;obtain⟨el,now,L,I,cq⟩:=O.ex;obtain⟨ka,kc,aw⟩:=L.kn;have av:i<rs.length:=by rw[O.len];exact hi
   have r:=aw.runs i av;have p:=O.runs i hi;have S:=wk.Bh hi d (by omega);obtain⟨⟨t0,_,t2⟩,_⟩:=r.CP;obtain⟨_,_,ct,_,M,_⟩:=r.Bi;have ck:=r.Bs;obtain⟨n,hn⟩:∃n,n=(Am rs i).ns.length:=⟨_,rfl⟩;have H:k<(Am rs i).ns.length:=by rw[p.len];exact d
   obtain⟨id,F⟩:∃id,id=(Am rs i).id:=⟨_,rfl⟩;obtain⟨ng,A⟩:∃ng,ng=(Am rs i).ng:=⟨_,rfl⟩;have u:id=(e.at_ i).id:=by rw[F];exact p.id
   rw[<-K.o,<-F] at t0;rw[<-K.o,<-hn,<-A] at t2;rw[<-hn] at ct ck
   have ar:=Hl (N.alloc (.cells #[.int .i64 1, .int .i64 2] 280)) P B now N.heap.size l id k [1,2] (L.wh.Aj ((Zk _ _).alloc (Zx _) _)) (fun q hq=>by
    have ax:0<=q/\q<4:=by simp only[List.mem_cons,List.not_mem_nil,or_false] at hq;rcases hq with rfl | rfl<;>decide
    have:=wk.Ui i hi;have:=wk.RD i hi;exact FN (by omega) (by omega) (by omega) (by omega) ax.1 ax.2) (Fo N [1,2]) (by have:=L.pl;omega) (by decide)
   have br:=Zz ar;have cu:(k:Int)<(n:Int):=by omega
   have HH:=Zz (Zq hi (Zq d (Zq h3 (Zq O (Zq y (Zq L (Zq I (Zq r (Zq p (Zq S (Zq hn (Zq F (Zq A (Zq u (Zq H M)))))))))))))))
   generalize (Am rs i).nc=nc at *
   clear hi d h3 O y L I cq aw av r p S hn F A u ar H M
   go_upto_region 5 with (go_at_call 152;refine br.o.mono ?_;rintro _ w2 ⟨rfl,R,az,b9,au⟩;have bo:=Zz (Zq az (Zq b9 au));clear az b9 au)
   have C:=Zz (show Cj w2 P B ob e rs R/\AW w2 B (Am rs i)/\KF N w2 P B ob/\(Bn R/\Bj R/\R.length<=l.length/\∀t,t∈R↔BF e t/\¬Dw (e.at_ i).id k t) by
    obtain⟨hi,d,h3,O,y,L,I,r,p,S,hn,F,A,u,H,M⟩:=HH.o;obtain⟨q1,q2,q3⟩:=bo.o;have U:Below N.heap.size N (N.alloc (.cells #[.int .i64 1, .int .i64 2] 280)):=(Zk _ _).alloc (Zx _) _;have cy:=L.pb;refine⟨(O.below U).KU q3 q2 I,(r.below U).Cx (fun k cs t fr hk e ht=>q3.other e (by rcases ht with rfl | rfl | rfl<;>decide) (by omega)),(KF.Ae P B ob U).trans (KF.DN q3 ob) (As.refl _ _),?_⟩;rw[u] at q1;exact (ag.o.toN i k).RY wk hi d h3 L.wh.apart q1)
   clear t0 t2;obtain⟨⟨_,_,t2⟩,_⟩:=C.o.2.1.CP;have t7:=(C.o.2.1.nd (k:=k) (by have:=HH.o;omega)).c7;have f7:=C.o.2.1.AE (k * 10+7);rw[<-K.o,<-HH.o.2.2.2.2.2.2.2.2.2.2.1,<-HH.o.2.2.2.2.2.2.2.2.2.2.2.2.1] at t2;rw[<-HH.o.2.2.2.2.2.2.2.2.2.2.2.2.1] at t7 f7
   go_upto_region 6 with fail
   obtain⟨w3,V⟩:∃w3,w3=w2.setCell ⟨ng,k * 10+7,none⟩ (.int .i64 5):=⟨_,rfl⟩;rw[<-V];obtain⟨J,m⟩:∃J,J=e.Af i k (fun s=>{ s with st:=5 }):=⟨_,rfl⟩
   have H3:=Zz (show (∃r1,Cj w3 P B ob J r1 R/\BS rs r1/\KF N w3 P B ob)/\Be J R/\Ao J/\i<J.runs.length/\(J.at_ i).st=1 by
    obtain⟨hi,d,h3,O,y,L,I,r,p,S,hn,F,A,u,H,M⟩:=HH.o;obtain⟨m1,m2,m3,m4⟩:=C.o;have Q:=m2.FQ (k:=k) (j:=7) (f:=fun n=>{ n with st:=5 }) (v:= .int .i64 5) H (by omega) rfl ⟨rfl,rfl,rfl⟩;have hf:=Du.Ey w2 (Am rs i).b (Am rs i).ng (k * 10+7) (.int .i64 5);rw[<-A,<-V] at Q hf;have D:=m1.BE (e':=J) hi S d (f:=fun n=>{ n with st:=5 }) (g:=fun s=>{ s with st:=5 }) rfl (p.nd k d).2 ((p.live S k d).st 5 5) Q (by rw[<-A];exact hf) (by rw[m]) (by rw[m];rfl) (by rw[m];rfl) (by rw[m];rfl) (by rw[m];rfl) (by rw[m];rfl);have bf:FJ e J i:=by rw[m];exact FJ.Af e k (fun s=>{ s with st:=5 }) e.queue hi
    refine⟨⟨_,D.1,D.2.1,m3.trans D.2.2 (As.refl _ _)⟩,Xk wk hi d (f:=fun s=>{ s with st:=5 }) (by rw[m]) ⟨by simp,by simp⟩ m4.1 m4.2.2.2,?_,by rw[bf.len];exact hi,by rw[bf.st];exact S⟩;rw[m];exact wk.over hi d 5 (Zu rfl) (by omega) (by omega))
   obtain⟨⟨r1,x1,x2,x3⟩,x4,x5,W,x7⟩:=H3.o;have T:=Mu x1 x5 W x7 x4;have E:(Am r1 i).b=b:=by rw[K.o];exact x2.2 i (by rw[Y.o.2.1.len];exact Y.o.1.1)
   rw[E] at T;have bh:=Zz T;have aj:=Zz (Zq x1 (Zq x2 (Zq x3 (Zq x4 (Zq x5 (Zq W (Zq x7 E)))))));have ae:=Zz m;clear t2 t7 f7 V m x1 x2 x3 x4 x5 W x7 E T
   go_upto_region 7 with (first
    | (go_at_call 154;refine bh.o.mono ?_;rintro _ w4 ⟨a,nn,c,rfl,cm,ay⟩;have bj:=Zz ay;clear cm ay)
    | (go_at_call 153;refine bj.o.mono ?_;rintro _ w5 ⟨rfl,r2,y1,y2,y3,y4,X,y6⟩;have HY:=Zz (Zq y1 (Zq y2 (Zq y3 (Zq y4 (Zq X y6)))));clear y1 y2 y3 y4 X y6))
   have al:=(by
    obtain⟨y1,y2,y3,y4,X,y6⟩:=HY.o;obtain⟨x1,x2,x3,x4,x5,W,x7,E⟩:=aj.o;have:=IL w5 P B ob (J.Bl i) r2 R i y1 y4 (by rw[X.len];exact W) (by rw[X.st];exact x7) y3 (by rw[X.Ah,ae.o];exact cr);rw[y2.2 i (by rw[x1.len];exact W),E] at this;exact this)
   have bp:=Zz al;clear al;go_wp2_with (go_at_call 155;refine bp.o.mono ?_;rintro _ w6 ⟨rfl,D⟩;have bw:=Zz D;clear D)
   go_ret
   obtain⟨r6,l6,o6,z1,z2,z3,z4,z5⟩:=bw.o;obtain⟨y1,y2,y3,y4,X,y6⟩:=HY.o;obtain⟨x1,x2,x3,x4,x5,W,x7,E⟩:=aj.o;rw[ae.o] at z1 z3;refine Zj ⟨0,_,hf,rfl,BX.ok Y.o.2.2 z1 z3 ((x3.trans y6 (As.refl _ _)).trans z4 (As.refl _ _)) (fun z hz=> ?_)⟩;rcases z5 z hz with h | h
   ·exact Zu h
   ·right;have:=(x3.trans y6 (As.refl _ _)).size;omega
  ·rw[Zan hv]
   have HV:=Zz hv;clear hv;go_wp2_with fail
   go_ret
   exact Zj ⟨v,_,hf,by rw[Zan HV.o];rfl,BX.err HV.o Y.o.2.2 Y.o.2.1 ag.o⟩
theorem RA {e:Ab}{id:Int}{i:Nat}(h:e.find id=some i):i<e.runs.length:=by
 unfold Ab.find at h;rw[List.findIdx?_eq_some_iff_getElem] at h;exact h.1
theorem OE (w:World)(P B:Nat)(ob:Option Nat)(e:Ab)(id:Int)(fn:Nat)(cs:Array Value)(h:BY w P B ob e)(wk:Ao e)(A:ED w P B fn cs Kp)(K:e.Ah<18446744073709551616) :
  Calls prog 112 #[.pointer (some ⟨P,4,none⟩), .int .u64 id, .func (.func fn) #[] cs] w fun x w'=>(e.cancel id=none/\x= .returned (AH 6)/\Below w.heap.size w w')\/∃v N,e.cancel id=some N/\x= .returned (AH v)/\BX P B ob Kp e N v w':=by
 obtain⟨rs,l,d,L⟩:=h;obtain⟨el,now,J,y,s⟩:=d.ex;obtain⟨S,T,j⟩:=J.kn;have a:=GK w P B T S rs id j;rw[JO d.len d.runs] at a
 cases hf:e.find id with
 | none =>
  have m:e.cancel id=none:=by unfold Ab.cancel;rw[hf]
  rw[hf] at a;have f:Hid (Calls prog 157 #[.pointer (some ⟨P,4,none⟩), .int .u64 id] w fun e w'=>e= .returned (.pointer none)/\w'=w):=Zz a;clear a hf d L J j A y s
  go_enter func112,ntmps112
  go_wp2_with (go_at_call 157;refine f.o.mono ?_;rintro _ D ⟨rfl,c⟩;rw[c])
  go_ret
  exact Zu ⟨m,by rw[Zan (by decide)];rfl,Zk _ _⟩
 | some i =>
  rw[hf] at a;have hi:=RA hf;have t:i<rs.length:=by rw[d.len];exact hi
  have r:=j.runs i t;have q:=d.runs i hi;obtain⟨b,z⟩:∃b,b=(Am rs i).b:=⟨_,rfl⟩;have f:Hid (Calls prog 157 #[.pointer (some ⟨P,4,none⟩), .int .u64 id] w fun e w'=>e= .returned (.pointer (some ⟨b,0,none⟩))/\w'=w):=Zz (by rw[z];exact a);obtain⟨⟨_,t1,_⟩,_⟩:=r.CP;rw[<-z,q.st] at t1;have O:=Zz z;have F:=Zz (Zq d (Zq L hi));have R:=Zz A.2;have n:=A.1 w;clear a d L J j A y s t r q z;by_cases k:(e.at_ i).st=1
  ·have m:e.cancel id=some (e.end_ i 4):=by unfold Ab.cancel;rw[hf];exact if_pos k
   have p:=Zz (Zq m (Zq k hi));rw[k] at t1;clear hf k m hi
   go_enter func112,ntmps112
   go_upto_region 5 with (first
    | (go_at_call 157;refine f.o.mono ?_;rintro _ D ⟨rfl,c⟩;rw[c])
    | (refine (R.o w (Zk _ _)).mono ?_;rintro _ D ⟨v,rfl,hn,u⟩;have E:=Zz (Zq hn u);clear hn u))
   have g:=F.o.1.side E.o.1;by_cases C:v=0
   ·subst C
    rw[Zaw];have I:=JZ D P B ob e rs l i 4 g wk p.o.2.2 p.o.2.1 (by omega) (F.o.2.1.toE i) K;rw[<-O.o] at I;have Q:=Zz I;clear g I n t1;go_wp2_with (go_at_call 158;refine Q.o.mono ?_;rintro _ w2 ⟨rfl,d⟩;have H:=Zz d;clear d)
    go_ret
    obtain⟨Y,Z,U,q1,_,V,W,X⟩:=H.o;exact Zj ⟨0,_,p.o.1,rfl,BX.ok E.o.2 q1 V W X⟩
   ·rw[Zan C]
    have M:=Zz C;have G:=Zz g;clear C g n t1;go_wp2_with fail
    go_ret
    exact Zj ⟨v,_,p.o.1,by rw[Zan M.o];rfl,BX.err M.o E.o.2 G.o F.o.2.1⟩
  ·have m:e.cancel id=none:=by unfold Ab.cancel;rw[hf];exact if_neg k
   have g1:((e.at_ i).st != 1)=true:=by simpa using k
   have g2:decide ((e.at_ i).st=1)=false:=decide_eq_false k;have p:=Zz m;clear hf m n
   go_enter func112,ntmps112
   go_wp2_with (go_at_call 157;refine f.o.mono ?_;rintro _ D ⟨rfl,c⟩;rw[c])
   go_ret
   exact Zu ⟨p.o,by rw[Zan (by decide)];rfl,Zk _ _⟩
theorem Xm {e e':Ab}(wk:Ao e){i k:Nat}(hi:i<e.runs.length)(c:k<(e.at_ i).steps.length)(f:((e.at_ i).at_ k).st=3){sg:Int}(h:0<sg)(v:e'.runs=(e.Af i k (fun s=>{ s with sign:=sg,Bc:=e.timers+1 })).runs){l o:List Tm}(r:Be e l)(u:Bj l){x:Int}(m:Cb l (Bb (e.at_ i).id k 2) x o):Be e' (o++[⟨Bb (e.at_ i).id k 2,sg,e.timers+1⟩]):=by
 have a:=Zbc.1 r;have hg:=m.gone u;have p:=wk.IQ hi;have d:=wk.Bh hi c (by omega);rw[Zbc];refine⟨DR (m.rising a.1) (T:=e.timers) (fun t w=>((a.2 t).1 ((hg t).1 w).1).sq wk) (by show e.timers<e.timers+1;omega),fun t=> ?_⟩;rw[List.mem_append,List.mem_singleton,hg,a.2,Zdp wk hi c v];constructor
 ·rintro (⟨q1,j⟩ | rfl)
  ·by_cases n:Dw (e.at_ i).id k t
   ·right
    refine⟨d,?_⟩;rcases (q1.node wk hi c n).2 with⟨_,g⟩ | ⟨g,_⟩ | ⟨_,_,g⟩
    ·exact Zu ⟨f,g⟩
    ·omega
    ·exact absurd (by rw[g]) j
   ·exact Zu ⟨q1,n⟩
  ·exact Zj ⟨d,Zj (Zj ⟨f,h,rfl⟩)⟩
 ·rintro (⟨q1,j⟩ | ⟨_,q⟩)
  ·exact Zu ⟨q1,fun b=>j ⟨2,by omega,by omega,b⟩⟩
  ·rcases q with⟨_,g⟩ | ⟨g,_⟩ | ⟨_,_,g⟩
   ·left
    refine⟨⟨i,hi,d,Zj ⟨k,c,Zu ⟨f,g⟩⟩⟩,fun b=> ?_⟩;rw[g] at b;have:=(DK b (by omega) (by omega) (by omega) (by omega)).2.2;omega
   ·have:((e.at_ i).at_ k).st=4:=g
    omega
   ·exact Zj g
theorem Br.times {r:Aq}{d:Ag}(h:Br r d)(k:Nat){g:AM->AM}(hg:∀s,(g s).st=s.st/\(g s).tries=s.tries/\(g s).tok=s.tok):Br r (d.Af k g):=by
 refine⟨h.id,h.st,by rw[Zal];exact h.len,fun m hm=> ?_,fun a m hm=> ?_,fun a m hm=> ?_⟩
 ·rw[Zal] at hm
  rw[Zee _ _ _ _ hm]
  split
  ·rw[(hg _).1,(hg _).2.1];exact h.nd m hm
  ·exact h.nd m hm
 ·rw[Zal] at hm
  rw[Zee _ _ _ _ hm,Fv];have:=h.live a m hm
  split
  ·exact⟨by rw[(hg _).2.2];exact this.tok,this.bu,this.cl,this.be,this.ba,this.ca,this.ji,this.af⟩
  ·exact this
 ·rw[Zal] at hm
  exact h.over a m hm
theorem Cj.times {w:World}{P B:Nat}{ob:Option Nat}{e e':Ab}{rs:List Aq}{l:List Tm}(h:Cj w P B ob e rs l){i k:Nat}(hi:i<e.runs.length){g:AM->AM}(hg:∀s,(g s).st=s.st/\(g s).tries=s.tries/\(g s).tok=s.tok)(he:e'.runs=(e.Af i k g).runs)(m:e'.queue=e.queue)(n:e'.time=e.time)(o:e'.Ah=e.Ah)(p:e'.Ai=e.Ai)(q:e'.At=e.At):Cj w P B ob e' rs l:=by
 obtain⟨el,now,r,d,b⟩:=h.ex;have hl:=Za7 he;refine⟨⟨el,now,by rw[m,o,p,q];exact r,n.trans d,b.same hl (fun x t=> ?_)⟩,by rw[hl];exact h.len,fun j a=> ?_⟩
 ·have:=Zba (e:=e) (e':=e') (i:=i) (k:=k) (f:=g) he t
  exact⟨this.1,this.2.2.2.2.2⟩
 ·rw[hl] at a
  rw[Zbo he a]
  split
  ·rename_i c;subst c;exact (h.runs i a).times k hg
  ·exact h.runs j a
theorem Ti (w:World)(P B:Nat)(ob:Option Nat)(e:Ab)(tok:Int)(fn:Nat)(cs:Array Value)(h:BY w P B ob e)(wk:Ao e)(hk:ED w P B fn cs Kp)(b9:e.Ah<18446744073709551616) :
  Calls prog 108 #[.pointer (some ⟨P,4,none⟩), .int .u64 tok, .func (.func fn) #[] cs] w fun x w'=>(e.BZ tok=none/\x= .returned (AH 7)/\Below w.heap.size w w')\/∃v e2,e.BZ tok=some e2/\x= .returned (AH v)/\BX P B ob Kp e e2 v w':=by
 obtain⟨rs,l,R,ht⟩:=h
 cases r:e.task tok with
 | none =>
  have hf:e.BZ tok=none:=by unfold Ab.BZ;rw[r]
  have HT:=Zz (Gk w P B ob e rs l tok fn cs R wk r);clear r R ht hk
  go_enter func108,ntmps108
  go_wp2_with (go_at_call 147;refine HT.o.mono ?_;rintro _ t ⟨rfl,u⟩;have HB:=Zz u;clear u;rw[Zan (by decide)])
  go_ret
  exact Zu ⟨hf,rfl,HB.o⟩
 | some ik =>
  obtain⟨i,k⟩:=ik
  have hf:e.BZ tok=some (if 0<(e.at_ i).fl.be k then { e with timers:=e.timers+1 }.Af i k (fun s=>{ s with sign:=Zak e.time ((e.at_ i).fl.be k),Bc:=e.timers+1 }) else e):=by
   unfold Ab.BZ;rw[r];simp only
   split<;>rfl
  have HT:=Zz (Gl w P B ob e rs l tok i k fn cs R wk r hk);have E:=Zz ht;obtain⟨b,u⟩:∃b,b=(Am rs i).b:=⟨_,rfl⟩;rw[<-u] at HT;have D:=Zz u;have HF:=Zz hf;clear r R ht hk u hf
  go_enter func108,ntmps108
  go_upto_region 2 with (go_at_call 147;refine HT.o.mono ?_;rintro _ t ⟨v,rfl,hw,R,f⟩;have HX:=Zz (Zq hw (Zq R f));clear hw R f)
  by_cases hv:v=0
  ·subst hv
   rw[Zaw];obtain⟨⟨hi,d,h3⟩,M,f⟩:=HX.o;obtain⟨el,now,K,C,au⟩:=M.ex;obtain⟨ka,kc,Z⟩:=K.kn;have X:i<rs.length:=by rw[M.len];exact hi
   have j:=Z.runs i X;have F:=M.runs i hi;have h1:=wk.Bh hi d (by omega);have A:=wk.runs i hi;have q:=A.fl.node k (by rw[<-A.len];exact d);obtain⟨⟨t0,_,t2⟩,_⟩:=j.CP;obtain⟨cg,I,aw,_,av,_⟩:=j.Bi;have aj:=j.Bs;obtain⟨n,hn⟩:∃n,n=(Am rs i).ns.length:=⟨_,rfl⟩;have ae:k<(Am rs i).ns.length:=by rw[F.len];exact d
   have tb:=(j.nd ae).c2;have N:((Am rs i).at_ k).be=(e.at_ i).fl.be k:=(F.live h1 k d).be;rw[N] at tb;obtain⟨be,c⟩:∃be,be=(e.at_ i).fl.be k:=⟨_,rfl⟩;rw[<-c] at tb N;obtain⟨id,O⟩:∃id,id=(Am rs i).id:=⟨_,rfl⟩;obtain⟨ng,Q⟩:∃ng,ng=(Am rs i).ng:=⟨_,rfl⟩;have m:id=(e.at_ i).id:=by rw[O];exact F.id
   rw[<-D.o,<-O] at t0;rw[<-D.o,<-hn,<-Q] at t2;rw[<-Q] at tb I;rw[<-hn] at aw aj;have H:=j.top;rw[<-D.o] at H;have U:b≠P:=by have:=j.bb;have:=K.pb;rw[D.o];omega
   have W:ng≠P:=by have:=K.pb;omega
   have hlen:l.length<=150:=E.o.Bs wk
   have T:=fun (wx:World) (u:Below t.heap.size t wx)=>Lt wx P B now l id k be e.timers (K.wh.Aj u) (by
    have:=wk.Ui i hi;have:=wk.RD i hi;exact FN (by omega) (by omega) (by omega) (by omega) (by decide) (by decide)) (by rw[c];exact q.Rr) (by rw[c];have:=q.be2;omega) (by omega)
   have ag:=Zz T
   have L:∀wx w',Below t.heap.size t wx->PF wx w' P B Ck->(w'.cell? ⟨b,0,none⟩=some (.int .u64 id)/\w'.cell? ⟨b,2,none⟩=some (.slice (some ⟨ng,0,none⟩) n (Am rs i).nc))/\w'.cell? ⟨ng,k * 10+2,none⟩=some (.int .i64 be):=fun wx w' u hf=>by
    have z:w'.heap[b]? =t.heap[b]? :=by
     have:=(u.block b (Zaa H));exact (hf.other (this.trans H) (by decide) U).trans this
    have al:w'.heap[ng]? =t.heap[ng]? :=by
     have:=(u.block ng (Zaa I));exact (hf.other (this.trans I) (by decide) W).trans this
    exact⟨⟨(World.cell?_of_block (a:=⟨b,0,none⟩) z).trans t0,(World.cell?_of_block (a:=⟨b,2,none⟩) z).trans t2⟩,(World.cell?_of_block (a:=⟨ng,k * 10+2,none⟩) al).trans tb⟩
   have S:=Zz L;have ay:(k:Int)<(n:Int):=by omega
   have HH:=Zz (Zq hi (Zq d (Zq h3 (Zq M (Zq f (Zq K (Zq C (Zq h1 (Zq m (Zq c q))))))))))
   generalize (Am rs i).nc=nc at *
   clear hi d h3 M f K C au Z X j F h1 hn O Q m ae av A q I N c H U W hlen T L
   go_upto_region 4 with fail
   go_region_held3 (fun w'=>(w'.cell? ⟨b,0,none⟩=some (.int .u64 id)/\w'.cell? ⟨b,2,none⟩=some (.slice (some ⟨ng,0,none⟩) n nc))/\w'.cell? ⟨ng,k * 10+2,none⟩=some (.int .i64 be)) (go_keep) ((go_at_call 148;refine (ag.o t.drew ((Zk _ _).drew)).mono ?_;rintro _ w2 ⟨rfl,J,p⟩;have HN:=Zz (Zq J p);have y:=S.o t.drew w2 ((Zk _ _).drew) p;have y0:=y.1.1;have y1:=y.1.2;have y2:=y.2;clear J p y))
   all_goals
    go_wp2_with fail
    go_ret
    obtain⟨hi,d,h3,M,f,K,C,h1,m,c,q⟩:=HH.o;obtain⟨⟨l2,J,ax⟩,p⟩:=HN.o;have V:Below t.heap.size t t.drew:=(Zk _ _).drew;have G:=(M.below V).KU p ax C;have Y:KF t w2 P B ob:=(KF.Ae P B ob V).trans (KF.DN p ob) (As.refl _ _);refine Zj ⟨0,_,HF.o,rfl,?_⟩;rw[<-c];rcases J with⟨q1,rfl⟩ | ⟨q1,x,l1,q2,rfl⟩
    ·rw[if_neg (by omega)]
     exact BX.ok f G E.o Y (As.refl _ _)
    ·have:=q.Rr
     have z:1<=be:=by omega
     rw[if_pos (by omega)];have az:=Zdk wk.t0 wk.tB z;rw[m] at q2 G;have ar:Za2 now (now+be)=Zak e.time be:=by rw[C];exact Zc6 z
     rw[ar] at G;refine BX.ok f (G.times (e':={ e with timers:=e.timers+1 }.Af i k (fun s=>{ s with sign:=Zak e.time be,Bc:=e.timers+1 })) hi (g:=fun s=>{ s with sign:=Zak e.time be,Bc:=e.timers+1 }) (fun _=>⟨rfl,rfl,rfl⟩) rfl rfl rfl rfl rfl rfl) (Xm (e':={ e with timers:=e.timers+1 }.Af i k (fun s=>{ s with sign:=Zak e.time be,Bc:=e.timers+1 })) wk hi d h3 (sg:=Zak e.time be) (by omega) rfl E.o K.wh.apart q2) Y (As.refl _ _)
  ·rw[Zan hv]
   have HV:=Zz hv;clear hv;go_wp2_with fail
   go_ret
   exact Zj ⟨v,_,HF.o,by rw[Zan HV.o];rfl,BX.err HV.o HX.o.2.2 HX.o.2.1 E.o⟩
open Go.RowKit
def Kx (e:Ab)(i k:Nat)(s:AM):AM:={ s with st:=3,tries:=((e.at_ i).at_ k).tries+1,tok:=e.Ai+1,fin:=Zak e.time ((e.at_ i).fl.cl k),BN:=e.timers+1,sign:=if (e.at_ i).fl.be k > 0 then Zak e.time ((e.at_ i).fl.be k) else 0,Bc:=if (e.at_ i).fl.be k > 0 then e.timers+2 else s.Bc }
def Ma (e:Ab)(q:List AZ)(i k:Nat):Ab:={ e with queue:=q,Ai:=e.Ai+1,timers:=e.timers+1+(if (e.at_ i).fl.be k > 0 then 1 else 0) }.Af i k (Kx e i k)
theorem QM {e:Ab}(h:e.queue=[]):e.Bk=none:=by unfold Ab.Bk;rw[h]
theorem Vb {l:List Ag}{id:Int}{i:Nat}(hi:i<l.length)(h:(l.getD i .z).id=id)(hn:∀j,j<i->(l.getD j .z).id≠id):l.findIdx? (fun r=>r.id == id)=some i:=by
 rw[List.findIdx?_eq_some_iff_getElem];have e:∀j (a:j<l.length),l.getD j .z=l[j]:=fun j a=>by rw[ZQ,ZZ a];rfl
 refine⟨hi,by rw[<-e i hi];simpa using h,fun j a=> ?_⟩;rw[<-e j (by omega)];simpa using hn j a
theorem TF {e:Ab}(wk:Ao e){p:AZ}{q:List AZ}(h:e.queue=p::q):∃i,i<e.runs.length/\p.node<(e.at_ i).steps.length/\p.run=(e.at_ i).id/\((e.at_ i).at_ p.node).st=2/\e.find p.run=some i/\e.Bk=some (p,((e.at_ i).at_ p.node).tries+1,e.Ai+1,Ma e q i p.node):=by
 obtain⟨i,q1,a,b,c⟩:=(wk.qm p).1 (by rw[h];exact List.mem_cons_self ..)
 have hf:e.find p.run=some i:=by
  unfold Ab.find;refine Vb q1 a (fun j d x=> ?_);have:=wk.CA (i:=j) (j:=i) (by omega) q1 (by unfold Ab.at_;rw[x,<-a];rfl);omega
 refine⟨i,q1,b,a.symm,c,hf,?_⟩;unfold Ab.Bk;rw[h];simp only;rw[hf]
 rfl
theorem Aq.Fu (r:Aq)(k:Nat)(f g:Cl->Cl):(r.BE k f).BE k g=r.BE k (fun n=>g (f n)):=by
 unfold Aq.BE;simp only[Aq.mk.injEq,true_and]
 apply List.ext_getElem?
 intro j;simp only[List.getElem?_modify];by_cases e:k=j
 ·subst e;simp only[if_true];cases r.ns[k]? <;>rfl
 ·simp only[if_neg e];cases r.ns[j]? <;>rfl
theorem Xl {e:Ab}(wk:Ao e){i k:Nat}{q:List AZ}(hi:i<e.runs.length)(u:k<(e.at_ i).steps.length)(I:((e.at_ i).at_ k).st=2){l j C:List Tm}(F:Be e l)(G:Bj l){x:Int}(D:Cb l (Bb (e.at_ i).id k 1) x j)
  (ha2:Bj (j++[⟨Bb (e.at_ i).id k 1,Zak e.time ((e.at_ i).fl.cl k),e.timers+1⟩])) (h3:((e.at_ i).fl.be k=0/\C=j++[⟨Bb (e.at_ i).id k 1,Zak e.time ((e.at_ i).fl.cl k),e.timers+1⟩])\/(0<(e.at_ i).fl.be k/\∃y w,Cb (j++[⟨Bb (e.at_ i).id k 1,Zak e.time ((e.at_ i).fl.cl k),e.timers+1⟩]) (Bb (e.at_ i).id k 2) y w/\C=w++[⟨Bb (e.at_ i).id k 2,Zak e.time ((e.at_ i).fl.be k),e.timers+2⟩])):Be (Ma e q i k) C:=by
 have m:=Zbc.1 F;have hg:=D.gone G;have E:=wk.IQ hi;have z:=wk.Bh hi u (by omega)
 have b:∀t,BF e t->¬Dw (e.at_ i).id k t:=fun t c H=>by
  rcases (c.node wk hi u H).2 with⟨g,_⟩ | ⟨g,_⟩ | ⟨g,_⟩<;>omega
 have p:∀t,BF e t->∀v:Int,1<=v->v<=3->t.id≠Bb (e.at_ i).id k v:=fun t c v v1 v2 s=>b t c ⟨v,v1,v2,s⟩
 have a:∀t,t∈j↔BF e t:=fun t=>by
  rw[hg,m.2];exact⟨fun h=>h.1,fun h=>⟨h,p t h 1 (by omega) (by omega)⟩⟩
 have r:Bn (j++[⟨Bb (e.at_ i).id k 1,Zak e.time ((e.at_ i).fl.cl k),e.timers+1⟩]):=DR (D.rising m.1) (T:=e.timers) (fun t c=>((a t).1 c).sq wk) (by show e.timers<e.timers+1;omega);have B:=Zdk wk.t0 wk.tB (span:=(e.at_ i).fl.be k);rw[Zbc];rcases h3 with⟨d,rfl⟩ | ⟨d,y,w,n,rfl⟩
 ·refine⟨r,fun t=> ?_⟩
  rw[List.mem_append,List.mem_singleton,a,Zdp wk hi u (f:=Kx e i k) (e':=Ma e q i k) rfl];constructor
  ·rintro (h | rfl)
   ·exact Zu ⟨h,b t h⟩
   ·exact Zj ⟨z,Zu ⟨rfl,rfl⟩⟩
  ·rintro (h | ⟨_,h⟩)
   ·exact Zu h.1
   ·rcases h with⟨_,g⟩ | ⟨g,_⟩ | ⟨_,g,_⟩
    ·exact Zj g
    ·cases g
    ·simp only[Kx] at g
     rw[if_neg (by omega)] at g;omega
 ·have A:=n.gone ha2
  have o:∀t,t∈w↔BF e t\/t=⟨Bb (e.at_ i).id k 1,Zak e.time ((e.at_ i).fl.cl k),e.timers+1⟩:=fun t=>by
   rw[A,List.mem_append,List.mem_singleton,a];refine⟨fun h=>h.1,fun h=>⟨h,fun s=> ?_⟩⟩;rcases h with h | rfl
   ·exact p t h 2 (by omega) (by omega) s
   ·have:=(DK s (by omega) (by omega) (by omega) (by omega)).2.2
    omega
  refine⟨DR (n.rising r) (T:=e.timers+1) (fun t c=> ?_) (by show e.timers+1<e.timers+2;omega),fun t=> ?_⟩
  ·rcases (o t).1 c with h | rfl
   ·have:=h.sq wk;omega
   ·exact Int.le_refl _
  ·rw[List.mem_append,List.mem_singleton,o,Zdp wk hi u (f:=Kx e i k) (e':=Ma e q i k) rfl]
   constructor
   ·rintro ((h | rfl) | rfl)
    ·exact Zu ⟨h,b t h⟩
    ·exact Zj ⟨z,Zu ⟨rfl,rfl⟩⟩
    ·refine Zj ⟨z,Zj (Zj ⟨rfl,?_,?_⟩)⟩
     ·simp only[Kx];rw[if_pos d];have:=(B (by omega)).2.1;omega
     ·simp only[Kx];rw[if_pos d,if_pos d]
   ·rintro (h | ⟨_,h⟩)
    ·exact Zu (Zu h.1)
    ·rcases h with⟨_,g⟩ | ⟨g,_⟩ | ⟨_,_,g⟩
     ·exact Zu (Zj g)
     ·cases g
     ·simp only[Kx] at g
      rw[if_pos d,if_pos d] at g;exact Zj g
end Go.Proofs.YtgdcjccbdmcebaaGreatDoor
