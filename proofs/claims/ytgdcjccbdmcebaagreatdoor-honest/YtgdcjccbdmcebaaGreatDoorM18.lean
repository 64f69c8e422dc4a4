import Derived.Test.YtgdcjccbdmcebaaGreatDoorM17
set_option linter.all false
set_option maxHeartbeats 8000000
set_option maxRecDepth 100000
open Go.Proofs.Tryz
open Go.World renaming cell?_of_block->QEc
open List renaming range->QAr,findIdx?_eq_some_iff_getElem->QCz,mem_append->QCn,mem_singleton->QDd
namespace Go.Proofs.YtgdcjccbdmcebaaGreatDoor
open Go.RowKit
attribute [local go_sem ↓] Go.wp_at_zero Go.wp_at_succ
def Rb (t:TypeId):Prop:=t=288\/t=274\/t=266\/t=272\/t=276\/t=3\/t=27\/t=130\/t=61\/t=48
structure NF (w w':World)(P B:Nat):Prop where
 size:w.heap.size<=w'.heap.size
 cell:∀o,4<=o->w'.cell? ⟨P,o,none⟩=w.cell? ⟨P,o,none⟩
 AD:∀o,w'.frozen? ⟨P,o,none⟩=w.frozen? ⟨P,o,none⟩
 block:∀k cs t fr,B<=k->w.heap[k]? =some (.cells cs t fr)->Rb t->w'.heap[k]? =w.heap[k]?
 map:∀k es c,B<=k->w.heap[k]? =some (.map es c)->w'.heap[k]? =w.heap[k]?
theorem NF.gf {w w':World}{P B:Nat}(h:NF w w' P B):GF w { w' with heap:=w'.heap } P (fun o=>o<4) (fun k=>w'.heap[k]? ≠w.heap[k]?) :=
 ⟨h.size,fun k _ _ a=>by simpa using a,fun o b=>h.cell o (by omega),h.AD⟩
theorem Dq.side {qh:Nat}{w w':World}{P B:Nat}{ob:Option Nat}{rs:List Aq}{el:List Int}{qu:List Ba}{now:Nat}{l:List Tm}{lr lt sd:Int}(h:Dq qh w P B ob rs el qu now l lr lt sd)(hn:NF w w' P B):Dq qh w' P B ob rs el qu now l lr lt sd:=by
 have g:=hn.gf;obtain⟨x,y,s⟩:=h.kn;obtain⟨a,n,c,f,z,u,j⟩:=h.en;obtain⟨p,n',q,r,m,v⟩:=h.qu
 refine⟨⟨x,y,s.gf g (by omega) (fun k cs t fr b e i d=>d (hn.block k cs t fr b e ?_))⟩,
  ⟨a,n,c,f,z,u.gf g (fun o _ _=>by omega) (fun k cs t fr b e i _ d=>d (hn.block k cs t fr b e ?_)),j⟩,
  ⟨p,n',q,r,m,v.gf g (fun o _ _=>by omega) (fun k cs t fr b e i d=>d (hn.block k cs t fr b e ?_))⟩,
  h.wh.gf g (fun o _ _=>by omega) (fun k cs t fr b e i d=>d (hn.block k cs t fr b e ?_)) (fun k es c b e d=>d (hn.map k es c b e)),(hn.cell 728 (by omega)).trans h.lr,(hn.cell 729 (by omega)).trans h.lt,(hn.cell 730 (by omega)).trans h.sd,fun o=>(hn.AD o).trans (h.fz o),Zy h.qs g.size⟩
 .unfold Rb;rcases i with rfl | rfl | rfl | rfl<;>simp
 .unfold Rb;subst i;simp
 .unfold Rb;subst i;simp
 .unfold Rb;subst i;simp
theorem Ch.side {qh:Nat}{w w':World}{P B:Nat}{ob:Option Nat}{e:Ab}{rs:List Aq}{l:List Tm}(h:Ch qh w P B ob e rs l)(hn:NF w w' P B):Ch qh w' P B ob e rs l:=by
 obtain⟨el,now,a,b,c⟩:=h.ex;exact⟨⟨el,now,a.side hn,b,c⟩,h.len,h.runs⟩
def EE (w:World)(P B fn:Nat)(cs:Array Value)(Kp:Int->World->Prop):Prop :=
 (∀wx,(callFunc fn cs).run prog wx=.ok (.enter fn cs) wx)/\∀wx,ZY w wx->Calls prog fn cs wx fun x w'=>∃v,x=.returned (AK v)/\NF wx w' P B/\Kp v w'
def BX (qh:Nat)(P B:Nat)(ob:Option Nat)(Kp:Int->World->Prop)(e e':Ab)(v:Int)(w':World):Prop:=∃w1 ob',Kp v w1/\BE qh w' P B ob' (if v=0 then e' else e)/\KF w1 w' P B ob/\As w1 ob ob'
theorem Zaw:AK 0=.nilIface:=rfl
theorem Zan {v:Int}(h:v≠0):AK v=.iface 32 (.int .i64 v):=if_neg h
theorem BX.err {qh:Nat}{P B:Nat}{ob:Option Nat}{Kp:Int->World->Prop}{e e':Ab}{v:Int}{w':World}{rs:List Aq}{l:List Tm}(b:v≠0)(hk:Kp v w')(c:Ch qh w' P B ob e rs l)(a:Bf e l):BX qh P B ob Kp e e' v w':=⟨w',ob,hk,by rw[if_neg b];exact⟨rs,l,c,a⟩,KF.refl _ _ _ _,As.refl _ _⟩
theorem BX.ok {qh:Nat}{P B:Nat}{ob a:Option Nat}{Kp:Int->World->Prop}{e e':Ab}{b w':World}{rs:List Aq}{l:List Tm}(hk:Kp 0 b)(f:Ch qh w' P B a e' rs l)(d:Bf e' l)(hf:KF b w' P B ob)(c:As b ob a):BX qh P B ob Kp e e' 0 w':=⟨b,a,hk,⟨rs,l,f,d⟩,hf,c⟩
theorem Tb {qh:Nat}(w:World)(P B:Nat)(ob:Option Nat)(e:Ab)(n:Int)(fn:Nat)(cs:Array Value)(Kp:Int->World->Prop)(h:BE qh w P B ob e)(hk:EE w P B fn cs Kp) :
  Calls prog 114 #[.pointer (some ⟨P,4,none⟩),.int .u64 n,.func (.func fn) #[] cs] w fun x w'=>∃v,x=.returned (AK v)/\BX qh P B ob Kp e { e with Ar:=n } v w':=by
 obtain⟨rs,l,r,q⟩:=h;have H:=Zz (Zq r q);have s:=Zz hk.2;have t:=hk.1 w;clear r q hk
 go_enter func114,ntmps114
 go_upto_region 2 with (refine (s.o w ZV).mono ?_;rintro _ u ⟨v,rfl,hn,f⟩;have k:=Zz (Zq hn f);clear hn f)
 have a:=H.o.1.side k.o.1;by_cases j:v=0
 .subst j
  rw[Zaw];obtain⟨el,now,i,g,d⟩:=a.ex;have b:=Zz a;have c6:=i.sd;have f6:=i.fz 730;have m:=Zz (i.num 730 n e.Ah e.Ai n (Zj (Zj ⟨rfl,rfl,rfl,rfl⟩)));have c:=Zz (Zq g d);clear a i g d;go_wp2_with fail
  go_ret
  refine⟨0,rfl,BX.ok (l:=l) (rs:=rs) k.o.2 ⟨⟨el,now,m.o,c.o.1,c.o.2⟩,b.o.len,b.o.runs⟩ (H.o.2.same rfl) (KF.Bv u P B 730 ob _ (by omega)) (As.refl _ _)⟩
 .rw[Zan j]
  have p:=Zz j;have b:=Zz a;clear j a;go_wp2_with fail
  go_ret
  exact⟨v,by rw[Zan p.o];rfl,BX.err p.o k.o.2 b.o H.o.2⟩
theorem LQ {qh:Nat}(w:World)(P B:Nat)(ob:Option Nat)(e:Ab)(a:Int)(fn:Nat)(cs:Array Value)(Kp:Int->World->Prop)(h:BE qh w P B ob e)(ok:Aj e)(hk:EE w P B fn cs Kp)(f:∀w',Kp 0 w'->AP w')(D:2<B)(p:2≠P)(A:0<=a)(C:a<18446744073709551616)(q:e.Ah<18446744073709551616)(r:0<=e.Ar/\e.Ar<18446744073709551616) :
  Calls prog 113 #[.pointer (some ⟨P,4,none⟩),.int .u64 a,.func (.func fn) #[] cs] w fun x w'=>∃v m,x=.returned (AK v)/\(v=0->BR e a m)/\BX qh P B ob Kp e m v w':=by
 obtain⟨rs,l,j,s⟩:=h;have H:=Zz (Zq j s);have y:=Zz hk.2;have g:=hk.1 w;clear j s hk
 go_enter func113,ntmps113
 go_upto_region 2 with (refine (y.o w ZV).mono ?_;rintro _ t ⟨v,rfl,hn,i⟩;have k:=Zz (Zq hn i);clear hn i)
 have b:=H.o.1.side k.o.1;by_cases c:v=0
 .subst c
  rw[Zaw];have d:=Zz b;have u:=Zz (MH t P B ob e rs l a b H.o.2 ok (f t k.o.2) D p A C q r);clear b g;go_wp2_with (go_at_call 159;refine u.o.mono ?_;rintro _ M ⟨rfl,j⟩;have z:=Zz j;clear j)
  go_ret
  obtain⟨m,K,L,E,q1,F,_,G,I,J⟩:=z.o;exact⟨0,m,rfl,fun _=>q1,BX.ok k.o.2 F G I J⟩
 .rw[Zan c]
  have n:=Zz c;have d:=Zz b;clear c b g;go_wp2_with fail
  go_ret
  exact⟨v,e,by rw[Zan n.o];rfl,fun c=>absurd c n.o,BX.err n.o k.o.2 d.o H.o.2⟩
open Go.RowKit
attribute [local go_sem ↓] Go.wp_at_zero Go.wp_at_succ
variable {Kp:Int->World->Prop}
theorem ZI {rs:List Aq}{tok:Int}{i k:Nat}{e:Ab}(h:Ht rs tok (some (i,k)))(hl:rs.length=e.runs.length)(hi:∀i,i<e.runs.length->Bu (Am rs i) (e.at_ i)):i<e.runs.length/\k<(e.at_ i).steps.length/\((e.at_ i).at_ k).st=3:=by
 cases h with
 | at_ _ _ g d f _ _ =>
  have a:i<e.runs.length:=by omega
  have c:=hi i a;have b:k<(e.at_ i).steps.length:=by rw[<-c.len];exact d
  exact⟨a,b,by rw[<-(c.nd k b).1];exact f.1⟩
theorem Gj {qh:Nat}(w:World)(P B:Nat)(ob:Option Nat)(e:Ab)(rs:List Aq)(l:List Tm)(tok:Int)(fn:Nat)(cs:Array Value)(h:Ch qh w P B ob e rs l)(wk:Ao e)(hn:e.task tok=none) :
  Calls prog 147 #[.pointer (some ⟨P,4,none⟩),.int .u64 tok,.func (.func fn) #[] cs] w fun x w'=>x=.returned (.tuple #[.pointer none,.int .i64 0,AK 7])/\ZY w w':=by
 obtain⟨el,now,d,c,b⟩:=h.ex;obtain⟨j,k,a⟩:=d.kn
 have g:Hid (Calls prog 221 #[.pointer (some ⟨P,4,none⟩),.int .u64 tok] w fun e w'=>e=.returned (.tuple #[.pointer none,.int .i64 0,.bool false])/\ZY w w'):=Zz ((Jh w P B k j rs tok a).mono (by
  rintro x w' ⟨o,rfl,i,hb⟩;have:=i.task h.len h.runs wk;rw[hn] at this;subst this;exact⟨rfl,hb⟩))
 clear h wk hn d c b a
 go_enter func147,ntmps147
 go_wp2_with (go_at_call 221;refine g.o.mono ?_;rintro _ m ⟨rfl,hb⟩;have f:=Zz hb;clear hb)
 go_ret3
 exact⟨rfl,f.o⟩
theorem Gk {qh:Nat}(w:World)(P B:Nat)(ob:Option Nat)(e:Ab)(rs:List Aq)(l:List Tm)(tok:Int)(i k fn:Nat)(cs:Array Value)(h:Ch qh w P B ob e rs l)(wk:Ao e)(hn:e.task tok=some (i,k))(hk:EE w P B fn cs Kp) :
  Calls prog 147 #[.pointer (some ⟨P,4,none⟩),.int .u64 tok,.func (.func fn) #[] cs] w fun x w'=>∃v,x=.returned (.tuple #[.pointer (some ⟨(Am rs i).b,0,none⟩),.int .i64 k,AK v])/\(i<e.runs.length/\k<(e.at_ i).steps.length/\((e.at_ i).at_ k).st=3)/\Ch qh w' P B ob e rs l/\Kp v w':=by
 obtain⟨el,now,n,j,g⟩:=h.ex;obtain⟨u,y,c⟩:=n.kn
 have s:Hid (Calls prog 221 #[.pointer (some ⟨P,4,none⟩),.int .u64 tok] w fun x w'=>x=.returned (.tuple #[.pointer (some ⟨(Am rs i).b,0,none⟩),.int .i64 k,.bool true])/\(i<e.runs.length/\k<(e.at_ i).steps.length/\((e.at_ i).at_ k).st=3)/\ZY w w'):=Zz ((Jh w P B y u rs tok c).mono (by
  rintro x w' ⟨o,rfl,p,hb⟩;have:=p.task h.len h.runs wk;rw[hn] at this;subst this;exact⟨rfl,ZI p h.len h.runs,hb⟩))
 have H:=Zz h;have r:=Zz hk.2;have a:=hk.1;clear h wk hn n j g c hk
 go_enter func147,ntmps147
 go_wp2_with (first
  | (go_at_call 221;refine s.o.mono ?_;rintro _ q ⟨rfl,hw,hb⟩;have f:=Zz (Zq hw hb);clear hw hb;have t:=a q)
  | (refine (r.o q f.o.2).mono ?_;rintro _ z ⟨v,rfl,hn,d⟩;have m:=Zz (Zq hn d);clear hn d))
 go_ret3
 exact⟨v,rfl,f.o.1,(H.o.below f.o.2).side m.o.1,m.o.2⟩
theorem JU {qh:Nat}(w:World)(P B:Nat)(ob:Option Nat)(e:Ab)(tok:Int)(fn:Nat)(cs:Array Value)(h:BE qh w P B ob e)(wk:Ao e)(hk:EE w P B fn cs Kp)(n:e.Ah<18446744073709551616)(p:0<=e.Ar/\e.Ar<18446744073709551616) :
  Calls prog 111 #[.pointer (some ⟨P,4,none⟩),.int .u64 tok,.func (.func fn) #[] cs] w fun x w'=>(e.fail tok=none/\x=.returned (AK 7)/\ZY w w')\/∃v s,e.fail tok=some s/\x=.returned (AK v)/\BX qh P B ob Kp e s v w':=by
 obtain⟨rs,l,b,q⟩:=h
 cases a:e.task tok with
 | none =>
  have hf:e.fail tok=none:=by unfold Ab.fail;rw[a]
  have j:=Zz (Gj w P B ob e rs l tok fn cs b wk a);clear a b q hk
  go_enter func111,ntmps111
  go_wp2_with (go_at_call 147;refine j.o.mono ?_;rintro _ t ⟨rfl,hb⟩;have u:=Zz hb;clear hb;rw[Zan (by decide)])
  go_ret
  exact Zu ⟨hf,rfl,u.o⟩
 | some y =>
  obtain⟨i,k⟩:=y;have hf:e.fail tok=some (e.AH i k):=by unfold Ab.fail;rw[a]
  have j:=Zz (Gk w P B ob e rs l tok i k fn cs b wk a hk);have d:=Zz q;clear a b q hk
  go_enter func111,ntmps111
  go_upto_region 2 with (go_at_call 147;refine j.o.mono ?_;rintro _ t ⟨v,rfl,hw,b,f⟩;have c:=Zz (Zq hw (Zq b f));clear hw b f)
  by_cases g:v=0
  .subst g
   rw[Zaw];have HF:=Zz (LO t P B ob e rs l i k c.o.2.1 wk c.o.1.1 c.o.1.2.1 c.o.1.2.2 (d.o.toN i k) n p);go_wp2_with (go_at_call 156;refine HF.o.mono ?_;rintro _ G ⟨rfl,b⟩;have m:=Zz b;clear b)
   go_ret
   obtain⟨E,F,z,q1,_,A,C,D⟩:=m.o;exact Zj ⟨0,_,hf,rfl,BX.ok c.o.2.2 q1 A C D⟩
  .rw[Zan g]
   have r:=Zz g;clear g;go_wp2_with fail
   go_ret
   exact Zj ⟨v,_,hf,by rw[Zan r.o];rfl,BX.err r.o c.o.2.2 c.o.2.1 d.o⟩
theorem Ch.KU {qh:Nat}{w w':World}{P B:Nat}{ob:Option Nat}{e:Ab}{rs:List Aq}{l:List Tm}(h:Ch qh w P B ob e rs l)(hf:PF w w' P B Ck){m:Nat}{a:List Tm}(hw:Bh w' P B Ck m a)(hm:e.time=(m:Int)):Ch qh w' P B ob e rs a:=by
 have:=h.Dh hf hw;rw[e.QN hm] at this;exact this
theorem Ch.BG {qh:Nat}{w w':World}{P B:Nat}{ob:Option Nat}{e e':Ab}{rs:List Aq}{l:List Tm}(h:Ch qh w P B ob e rs l){i k:Nat}(hi:i<e.runs.length)(s:(e.at_ i).st=1)(hk:k<(e.at_ i).steps.length){f:Cl->Cl}{g:AO->AO}
  (hs:(f ((Am rs i).at_ k)).st=(g ((e.at_ i).at_ k)).st) (ht:(f ((Am rs i).at_ k)).tries=(g ((e.at_ i).at_ k)).tries) (hn:Pr (e.at_ i).fl k (g ((e.at_ i).at_ k)) (f ((Am rs i).at_ k)))
  (hr:AR qh w' B ((Am rs i).BG k f)) (hf:Dm w w' (Am rs i).b (Am rs i).ng) (he:e'.runs=(e.Af i k g).runs) (h2:e'.queue=e.queue) (h3:e'.time=e.time) (h4:e'.Ah=e.Ah) (h5:e'.Ai=e.Ai) (h6:e'.Ar=e.Ar) :
  Ch qh w' P B ob e' (rs.set i ((Am rs i).BG k f)) l/\BQ rs (rs.set i ((Am rs i).BG k f))/\KF w w' P B ob:=by
 obtain⟨el,now,m,q,o⟩:=h.ex;have j:i<rs.length:=by rw[h.len];exact hi
 have n:=m.run j hr rfl rfl hf;have a:=DR (e:=e) (e':=e') (f:=fun d=>d.Af k g) h.len h.runs hi he ((h.runs i hi).step s hk hs ht hn);obtain⟨t,u,p⟩:=m.kn;refine⟨⟨⟨el,now,by rw[h2,h4,h5,h6];exact n,h3.trans q,o.same (Za9 he) (fun x r=> ?_)⟩,a.1,a.2⟩,⟨by rw[List.length_set],fun x r=> ?_⟩,KF.IU (p.runs i j) hf m.pb.1⟩
 .have:=Zba (e:=e) (e':=e') (i:=i) (k:=k) (f:=g) he r
  exact⟨this.1,this.2.2.2.2.2⟩
 .rw[Zdi j r]
  split
  .rename_i c;subst c;rfl
  .rfl
theorem Xa {e e':Ab}(wk:Ao e){i k:Nat}(hi:i<e.runs.length)(hk:k<(e.at_ i).steps.length){f:AO->AO}(g:e'.runs=(e.Af i k f).runs)(a:(f ((e.at_ i).at_ k)).st≠3/\(f ((e.at_ i).at_ k)).st≠4){b:List Tm}(c:Bo b)(d:∀t,t∈b↔BH e t/\¬Dr (e.at_ i).id k t):Bf e' b:=by
 rw[Zbc];refine⟨c,fun t=> ?_⟩;rw[d,Zdt wk hi hk g];constructor
 .exact fun h=>Zu h
 .rintro (h | ⟨_,h⟩)
  .exact h
  .rcases h with⟨h,_⟩ | ⟨h,_⟩ | ⟨h,_⟩
   .exact absurd h a.1
   .exact absurd h a.2
   .exact absurd h a.1
theorem Uv {e:Ab}{i:Nat}:((QAr (e.at_ i).steps.length).filter (e.at_ i).free).Nodup/\∀k∈(QAr (e.at_ i).steps.length).filter (e.at_ i).free,k<(e.at_ i).steps.length/\((e.at_ i).at_ k).st=1:=by
 refine⟨List.nodup_range.filter _,fun k hk=> ?_⟩;obtain⟨a,b⟩:=List.mem_filter.1 hk;exact⟨List.mem_range.1 a,EO b⟩
theorem OQ {e:Ab}{i:Nat}(hi:i<e.runs.length):Zdo e i ((QAr (e.at_ i).steps.length).filter (e.at_ i).free)=e.Bm i:=(JE e i hi).symm
theorem Mw {qh:Nat}{w:World}{P B:Nat}{ob:Option Nat}{e:Ab}{rs:List Aq}{l:List Tm}{i:Nat}(h:Ch qh w P B ob e rs l)(wk:Ao e)(hi:i<e.runs.length)(p:(e.at_ i).st=1)(A:Bf e l) :
  Calls prog 154 #[.pointer (some ⟨(Am rs i).b,0,none⟩)] w fun x o=>∃a n c,x=.returned (.slice a n c)/\ZY w o/\Calls prog 153 #[.pointer (some ⟨P,4,none⟩),.pointer (some ⟨(Am rs i).b,0,none⟩),.slice a n c] o fun x w'=>x=.returned (.tuple #[])/\∃g,Ch qh w' P B ob (e.Bm i) g l/\BQ rs g/\Bf (e.Bm i) l/\Ao (e.Bm i)/\FF e (e.Bm i) i/\KF w w' P B ob:=by
 obtain⟨el,now,t,D,C⟩:=h.ex;obtain⟨G,H,s⟩:=t.kn;have r:i<rs.length:=by rw[h.len];exact hi
 have m:=h.runs i hi;have d:=wk.runs i hi;have q:=m.awake p d.fl d.len;refine (Sh w B (Am rs i) (s.runs i r) (m.within p d.fl d.len)).mono ?_;rintro x o ⟨a,c,rfl,j,hb⟩;refine⟨a,_,c,rfl,hb,?_⟩;have f:=Uv (e:=e) (i:=i);rw[q] at j ⊢;have z:P<w.heap.size:=t.pl;have:=Ka o P B ob e rs l i c a _ (h.below hb) wk hi p ⟨f.1,fun k hk=>⟨(f.2 k hk).1,Zu (f.2 k hk).2⟩⟩ (A.toW wk hi f.2) (BP.MY z j);refine this.mono ?_;rintro x w' ⟨rfl,g,q1,E,u,v,y,F⟩;rw[OQ hi] at q1 u v y;exact⟨rfl,g,q1,E,u,v,y,(KF.Ae P B ob hb).trans F (As.refl _ _)⟩
theorem FL {qh:Nat}(w:World)(P B:Nat)(ob:Option Nat)(e:Ab)(tok:Int)(fn:Nat)(cs:Array Value)(h:BE qh w P B ob e)(wk:Ao e)(hk:EE w P B fn cs Kp)(cy:e.Ah<18446744073709551616) :
  Calls prog 110 #[.pointer (some ⟨P,4,none⟩),.int .u64 tok,.func (.func fn) #[] cs] w fun x w'=>(e.complete tok=none/\x=.returned (AK 7)/\ZY w w')\/∃v e2,e.complete tok=some e2/\x=.returned (AK v)/\BX qh P B ob Kp e e2 v w':=by
 obtain⟨rs,l,D,ht⟩:=h
 cases G:e.task tok with
 | none =>
  have hf:e.complete tok=none:=by unfold Ab.complete;rw[G]
  have HT:=Zz (Gj w P B ob e rs l tok fn cs D wk G);clear G D ht hk
  go_enter func110,ntmps110
  go_wp2_with (go_at_call 147;refine HT.o.mono ?_;rintro _ R ⟨rfl,hb⟩;have HB:=Zz hb;clear hb;rw[Zan (by decide)])
  go_ret
  exact Zu ⟨hf,rfl,HB.o⟩
 | some ik =>
  obtain⟨i,k⟩:=ik;have hf:e.complete tok=some (((e.Af i k (fun s=>{ s with st:=5 })).Bm i).settle i):=by unfold Ab.complete;rw[G]
  have HT:=Zz (Gk w P B ob e rs l tok i k fn cs D wk G hk);have ag:=Zz ht;obtain⟨b,hb⟩:∃b,b=(Am rs i).b:=⟨_,rfl⟩;rw[<-hb] at HT;have K:=Zz hb;clear G D ht hk hb
  go_enter func110,ntmps110
  go_upto_region 2 with (go_at_call 147;refine HT.o.mono ?_;rintro _ R ⟨v,rfl,hw,D,y⟩;have Y:=Zz (Zq hw (Zq D y));clear hw D y)
  by_cases hv:v=0
  .subst hv
   rw[Zaw];obtain⟨⟨hi,d,h3⟩,N,y⟩:=Y.o;obtain⟨el,now,L,I,cu⟩:=N.ex;obtain⟨ka,kc,ax⟩:=L.kn;have aw:i<rs.length:=by rw[N.len];exact hi
   have r:=ax.runs i aw;have p:=N.runs i hi;have S:=wk.Bi hi d (by omega);obtain⟨⟨t0,_,t2⟩,_⟩:=r.CP;obtain⟨_,_,cz,_,M,_⟩:=r.Bj;have cq:=r.Br;obtain⟨n,hn⟩:∃n,n=(Am rs i).ns.length:=⟨_,rfl⟩;have H:k<(Am rs i).ns.length:=by rw[p.len];exact d
   obtain⟨id,F⟩:∃id,id=(Am rs i).id:=⟨_,rfl⟩;obtain⟨ng,A⟩:∃ng,ng=(Am rs i).ng:=⟨_,rfl⟩;have u:id=(e.at_ i).id:=by rw[F];exact p.id
   rw[<-K.o,<-F] at t0;rw[<-K.o,<-hn,<-A] at t2;rw[<-hn] at cz cq
   have ar:=Hl (R.alloc (.cells #[.int .i64 1,.int .i64 2] 280)) P B now R.heap.size l id k [1,2] (L.wh.Ak (ZV.alloc ZU _)) (fun q hq=>by
    have ay:0<=q/\q<4:=by simp only[List.mem_cons,List.not_mem_nil,or_false] at hq;rcases hq with rfl | rfl<;>decide
    have:=wk.Uc i hi;have:=wk.Rr i hi;exact FM (by omega) (by omega) (by omega) (by omega) ay.1 ay.2) (Fm R [1,2]) (by have:=L.pl;omega) (by decide)
   have ck:=Zz ar;have da:(k:Int)<(n:Int):=by omega
   have HH:=Zz (Zq hi (Zq d (Zq h3 (Zq N (Zq y (Zq L (Zq I (Zq r (Zq p (Zq S (Zq hn (Zq F (Zq A (Zq u (Zq H M)))))))))))))))
   generalize (Am rs i).nc=nc at *
   clear hi d h3 N y L I cu ax aw r p S hn F A u ar H M
   go_upto_region 5 with (go_at_call 152;refine ck.o.mono ?_;rintro _ w2 ⟨rfl,Q,bf,bh,au⟩;have br:=Zz (Zq bf (Zq bh au));clear bf bh au)
   have C:=Zz (show Ch qh w2 P B ob e rs Q/\AR qh w2 B (Am rs i)/\KF R w2 P B ob/\(Bo Q/\Bk Q/\Q.length<=l.length/\∀t,t∈Q↔BH e t/\¬Dr (e.at_ i).id k t) by
    obtain⟨hi,d,h3,N,y,L,I,r,p,S,hn,F,A,u,H,M⟩:=HH.o;obtain⟨q1,q2,q3⟩:=br.o;have U:ZY R (R.alloc (.cells #[.int .i64 1,.int .i64 2] 280)):=ZV.alloc ZU _;have db:=L.pb;refine⟨(N.below U).KU q3 q2 I,(r.below U).Cv (fun k cs t fr hk e ht=>q3.other e (by rcases ht with rfl | rfl | rfl<;>decide) (by omega)),(KF.Ae P B ob U).trans (KF.DL q3 ob) (As.refl _ _),?_⟩;rw[u] at q1;exact (ag.o.toN i k).RN wk hi d h3 L.wh.apart q1)
   clear t0 t2;obtain⟨⟨_,_,t2⟩,_⟩:=C.o.2.1.CP;have t7:=(C.o.2.1.nd (k:=k) (by have:=HH.o;omega)).c7;have f7:=C.o.2.1.AD (k * 10+7);rw[<-K.o,<-HH.o.2.2.2.2.2.2.2.2.2.2.1,<-HH.o.2.2.2.2.2.2.2.2.2.2.2.2.1] at t2;rw[<-HH.o.2.2.2.2.2.2.2.2.2.2.2.2.1] at t7 f7
   go_upto_region 6 with fail
   obtain⟨w3,V⟩:∃w3,w3=w2.setCell ⟨ng,k * 10+7,none⟩ (.int .i64 5):=⟨_,rfl⟩;rw[<-V];obtain⟨J,m⟩:∃J,J=e.Af i k (fun s=>{ s with st:=5 }):=⟨_,rfl⟩
   have H3:=Zz (show (∃r1,Ch qh w3 P B ob J r1 Q/\BQ rs r1/\KF R w3 P B ob)/\Bf J Q/\Ao J/\i<J.runs.length/\(J.at_ i).st=1 by
    obtain⟨hi,d,h3,N,y,L,I,r,p,S,hn,F,A,u,H,M⟩:=HH.o;obtain⟨m1,m2,m3,m4⟩:=C.o;have O:=m2.FP (k:=k) (j:=7) (f:=fun n=>{ n with st:=5 }) (v:=.int .i64 5) H (by omega) rfl ⟨rfl,rfl,rfl⟩;have hf:=Dm.EA w2 (Am rs i).b (Am rs i).ng (k * 10+7) (.int .i64 5);rw[<-A,<-V] at O hf;have D:=m1.BG (e':=J) hi S d (f:=fun n=>{ n with st:=5 }) (g:=fun s=>{ s with st:=5 }) rfl (p.nd k d).2 ((p.live S k d).st 5 5) O (by rw[<-A];exact hf) (by rw[m]) (by rw[m];rfl) (by rw[m];rfl) (by rw[m];rfl) (by rw[m];rfl) (by rw[m];rfl);have bj:FF e J i:=by rw[m];exact FF.Af e k (fun s=>{ s with st:=5 }) e.queue hi
    refine⟨⟨_,D.1,D.2.1,m3.trans D.2.2 (As.refl _ _)⟩,Xa wk hi d (f:=fun s=>{ s with st:=5 }) (by rw[m]) ⟨by simp,by simp⟩ m4.1 m4.2.2.2,?_,by rw[bj.len];exact hi,by rw[bj.st];exact S⟩;rw[m];exact wk.over hi d 5 (Zu rfl) (by omega) (by omega))
   obtain⟨⟨r1,x1,x2,x3⟩,x4,x5,W,Z⟩:=H3.o;have T:=Mw x1 x5 W Z x4;have E:(Am r1 i).b=b:=by rw[K.o];exact x2.2 i (by rw[Y.o.2.1.len];exact Y.o.1.1)
   rw[E] at T;have bo:=Zz T;have aj:=Zz (Zq x1 (Zq x2 (Zq x3 (Zq x4 (Zq x5 (Zq W (Zq Z E)))))));have ae:=Zz m;clear t2 t7 f7 V m x1 x2 x3 x4 x5 W Z E T
   go_upto_region 7 with (first
    | (go_at_call 154;refine bo.o.mono ?_;rintro _ w4 ⟨a,nn,c,rfl,cr,az⟩;have bp:=Zz az;clear cr az)
    | (go_at_call 153;refine bp.o.mono ?_;rintro _ w5 ⟨rfl,r2,y1,y2,y3,y4,X,y6⟩;have HY:=Zz (Zq y1 (Zq y2 (Zq y3 (Zq y4 (Zq X y6)))));clear y1 y2 y3 y4 X y6))
   have al:=(by
    obtain⟨y1,y2,y3,y4,X,y6⟩:=HY.o;obtain⟨x1,x2,x3,x4,x5,W,Z,E⟩:=aj.o;have:=IM w5 P B ob (J.Bm i) r2 Q i y1 y4 (by rw[X.len];exact W) (by rw[X.st];exact Z) y3 (by rw[X.Ah,ae.o];exact cy);rw[y2.2 i (by rw[x1.len];exact W),E] at this;exact this)
   have bw:=Zz al;clear al;go_wp2_with (go_at_call 155;refine bw.o.mono ?_;rintro _ w6 ⟨rfl,D⟩;have cm:=Zz D;clear D)
   go_ret
   obtain⟨r6,l6,o6,z1,z2,z3,z4,z5⟩:=cm.o;obtain⟨y1,y2,y3,y4,X,y6⟩:=HY.o;obtain⟨x1,x2,x3,x4,x5,W,Z,E⟩:=aj.o;rw[ae.o] at z1 z3;refine Zj ⟨0,_,hf,rfl,BX.ok Y.o.2.2 z1 z3 ((x3.trans y6 (As.refl _ _)).trans z4 (As.refl _ _)) (fun z hz=> ?_)⟩;rcases z5 z hz with h | h
   .exact Zu h
   .right;have:=(x3.trans y6 (As.refl _ _)).size;omega
  .rw[Zan hv]
   have HV:=Zz hv;clear hv;go_wp2_with fail
   go_ret
   exact Zj ⟨v,_,hf,by rw[Zan HV.o];rfl,BX.err HV.o Y.o.2.2 Y.o.2.1 ag.o⟩
theorem Rp {e:Ab}{id:Int}{i:Nat}(h:e.find id=some i):i<e.runs.length:=by
 unfold Ab.find at h;rw[QCz] at h;exact h.1
theorem Ou {qh:Nat}(w:World)(P B:Nat)(ob:Option Nat)(e:Ab)(id:Int)(fn:Nat)(cs:Array Value)(h:BE qh w P B ob e)(wk:Ao e)(hk:EE w P B fn cs Kp)(I:e.Ah<18446744073709551616) :
  Calls prog 112 #[.pointer (some ⟨P,4,none⟩),.int .u64 id,.func (.func fn) #[] cs] w fun x w'=>(e.cancel id=none/\x=.returned (AK 6)/\ZY w w')\/∃v L,e.cancel id=some L/\x=.returned (AK v)/\BX qh P B ob Kp e L v w':=by
 obtain⟨rs,l,d,J⟩:=h;obtain⟨el,now,H,y,s⟩:=d.ex;obtain⟨Q,R,j⟩:=H.kn;have a:=GK w P B R Q rs id j;rw[JM d.len d.runs] at a
 cases hf:e.find id with
 | none =>
  have m:e.cancel id=none:=by unfold Ab.cancel;rw[hf]
  rw[hf] at a;have f:Hid (Calls prog 157 #[.pointer (some ⟨P,4,none⟩),.int .u64 id] w fun e w'=>e=.returned (.pointer none)/\w'=w):=Zz a;clear a hf d J H j hk y s
  go_enter func112,ntmps112
  go_wp2_with (go_at_call 157;refine f.o.mono ?_;rintro _ A ⟨rfl,c⟩;rw[c])
  go_ret
  exact Zu ⟨m,by rw[Zan (by decide)];rfl,Zk _ _⟩
 | some i =>
  rw[hf] at a;have hi:=Rp hf;have t:i<rs.length:=by rw[d.len];exact hi
  have r:=j.runs i t;have q:=d.runs i hi;obtain⟨b,hb⟩:∃b,b=(Am rs i).b:=⟨_,rfl⟩;have f:Hid (Calls prog 157 #[.pointer (some ⟨P,4,none⟩),.int .u64 id] w fun e w'=>e=.returned (.pointer (some ⟨b,0,none⟩))/\w'=w):=Zz (by rw[hb];exact a);obtain⟨⟨_,t1,_⟩,_⟩:=r.CP;rw[<-hb,q.st] at t1;have M:=Zz hb;have D:=Zz (Zq d (Zq J hi));have O:=Zz hk.2;have n:=hk.1 w;clear a d J H j hk y s t r q hb;by_cases k:(e.at_ i).st=1
  .have m:e.cancel id=some (e.end_ i 4):=by unfold Ab.cancel;rw[hf];exact if_pos k
   have p:=Zz (Zq m (Zq k hi));rw[k] at t1;clear hf k m hi
   go_enter func112,ntmps112
   go_upto_region 5 with (first
    | (go_at_call 157;refine f.o.mono ?_;rintro _ A ⟨rfl,c⟩;rw[c])
    | (refine (O.o w ZV).mono ?_;rintro _ A ⟨v,rfl,hn,u⟩;have C:=Zz (Zq hn u);clear hn u))
   have g:=D.o.1.side C.o.1;by_cases z:v=0
   .subst z
    rw[Zaw];have G:=JX A P B ob e rs l i 4 g wk p.o.2.2 p.o.2.1 (by omega) (D.o.2.1.toE i) I;rw[<-M.o] at G;have N:=Zz G;clear g G n t1;go_wp2_with (go_at_call 158;refine N.o.mono ?_;rintro _ Y ⟨rfl,d⟩;have F:=Zz d;clear d)
    go_ret
    obtain⟨W,X,S,q1,_,T,U,V⟩:=F.o;exact Zj ⟨0,_,p.o.1,rfl,BX.ok C.o.2 q1 T U V⟩
   .rw[Zan z]
    have K:=Zz z;have E:=Zz g;clear z g n t1;go_wp2_with fail
    go_ret
    exact Zj ⟨v,_,p.o.1,by rw[Zan K.o];rfl,BX.err K.o C.o.2 E.o D.o.2.1⟩
  .have m:e.cancel id=none:=by unfold Ab.cancel;rw[hf];exact if_neg k
   have g1:((e.at_ i).st != 1)=true:=by simpa using k
   have g2:decide ((e.at_ i).st=1)=false:=decide_eq_false k;have p:=Zz m;clear hf m n
   go_enter func112,ntmps112
   go_wp2_with (go_at_call 157;refine f.o.mono ?_;rintro _ A ⟨rfl,c⟩;rw[c])
   go_ret
   exact Zu ⟨p.o,by rw[Zan (by decide)];rfl,Zk _ _⟩
theorem Xc {e e':Ab}(wk:Ao e){i k:Nat}(hi:i<e.runs.length)(hk:k<(e.at_ i).steps.length)(d:((e.at_ i).at_ k).st=3){sg:Int}(f:0<sg)(u:e'.runs=(e.Af i k (fun s=>{ s with sign:=sg,Bg:=e.timers+1 })).runs){l n:List Tm}(p:Bf e l)(r:Bk l){x:Int}(j:BZ l (Bc (e.at_ i).id k 2) x n):Bf e' (n++[⟨Bc (e.at_ i).id k 2,sg,e.timers+1⟩]):=by
 have a:=Zbc.1 p;have hg:=j.gone r;have o:=wk.IS hi;have c:=wk.Bi hi hk (by omega);rw[Zbc];refine⟨DP (j.rising a.1) (T:=e.timers) (fun t v=>((a.2 t).1 ((hg t).1 v).1).sq wk) (by show e.timers<e.timers+1;omega),fun t=> ?_⟩;rw[QCn,QDd,hg,a.2,Zdt wk hi hk u];constructor
 .rintro (⟨q1,h⟩ | rfl)
  .by_cases m:Dr (e.at_ i).id k t
   .right
    refine⟨c,?_⟩;rcases (q1.node wk hi hk m).2 with⟨_,g⟩ | ⟨g,_⟩ | ⟨_,_,g⟩
    .exact Zu ⟨d,g⟩
    .omega
    .exact absurd (by rw[g]) h
   .exact Zu ⟨q1,m⟩
  .exact Zj ⟨c,Zj (Zj ⟨d,f,rfl⟩)⟩
 .rintro (⟨q1,h⟩ | ⟨_,q⟩)
  .exact Zu ⟨q1,fun b=>h ⟨2,by omega,by omega,b⟩⟩
  .rcases q with⟨_,g⟩ | ⟨g,_⟩ | ⟨_,_,g⟩
   .left
    refine⟨⟨i,hi,c,Zj ⟨k,hk,Zu ⟨d,g⟩⟩⟩,fun b=> ?_⟩;rw[g] at b;have:=(DI b (by omega) (by omega) (by omega) (by omega)).2.2;omega
   .have:((e.at_ i).at_ k).st=4:=g
    omega
   .exact Zj g
theorem Bu.times {r:Aq}{d:Ag}(h:Bu r d)(k:Nat){g:AO->AO}(hg:∀s,(g s).st=s.st/\(g s).tries=s.tries/\(g s).tok=s.tok):Bu r (d.Af k g):=by
 refine⟨h.id,h.st,by rw[Zal];exact h.len,fun m hm=> ?_,fun a m hm=> ?_,fun a m hm=> ?_⟩
 .rw[Zal] at hm
  rw[Zeg _ _ _ _ hm]
  split
  .rw[(hg _).1,(hg _).2.1];exact h.nd m hm
  .exact h.nd m hm
 .rw[Zal] at hm
  rw[Zeg _ _ _ _ hm,Io];have:=h.live a m hm
  split
  .exact⟨by rw[(hg _).2.2];exact this.tok,this.bu,this.cl,this.be,this.ba,this.ca,this.ji,this.af⟩
  .exact this
 .rw[Zal] at hm
  exact h.over a m hm
theorem Ch.times {qh:Nat}{w:World}{P B:Nat}{ob:Option Nat}{e e':Ab}{rs:List Aq}{l:List Tm}(h:Ch qh w P B ob e rs l){i k:Nat}(hi:i<e.runs.length){g:AO->AO}(hg:∀s,(g s).st=s.st/\(g s).tries=s.tries/\(g s).tok=s.tok)(he:e'.runs=(e.Af i k g).runs)(m:e'.queue=e.queue)(n:e'.time=e.time)(o:e'.Ah=e.Ah)(p:e'.Ai=e.Ai)(q:e'.Ar=e.Ar):Ch qh w P B ob e' rs l:=by
 obtain⟨el,now,r,d,b⟩:=h.ex;have hl:=Za9 he;refine⟨⟨el,now,by rw[m,o,p,q];exact r,n.trans d,b.same hl (fun x t=> ?_)⟩,by rw[hl];exact h.len,fun j a=> ?_⟩
 .have:=Zba (e:=e) (e':=e') (i:=i) (k:=k) (f:=g) he t
  exact⟨this.1,this.2.2.2.2.2⟩
 .rw[hl] at a
  rw[Zbf he a]
  split
  .rename_i c;subst c;exact (h.runs i a).times k hg
  .exact h.runs j a
theorem LM {qh:Nat}(w:World)(P B:Nat)(ob:Option Nat)(e:Ab)(tok:Int)(fn:Nat)(cs:Array Value)(h:BE qh w P B ob e)(wk:Ao e)(hk:EE w P B fn cs Kp)(bf:e.Ah<18446744073709551616) :
  Calls prog 108 #[.pointer (some ⟨P,4,none⟩),.int .u64 tok,.func (.func fn) #[] cs] w fun x w'=>(e.AY tok=none/\x=.returned (AK 7)/\ZY w w')\/∃v e2,e.AY tok=some e2/\x=.returned (AK v)/\BX qh P B ob Kp e e2 v w':=by
 obtain⟨rs,l,Q,ht⟩:=h
 cases r:e.task tok with
 | none =>
  have hf:e.AY tok=none:=by unfold Ab.AY;rw[r]
  have HT:=Zz (Gj w P B ob e rs l tok fn cs Q wk r);clear r Q ht hk
  go_enter func108,ntmps108
  go_wp2_with (go_at_call 147;refine HT.o.mono ?_;rintro _ A ⟨rfl,hb⟩;have HB:=Zz hb;clear hb;rw[Zan (by decide)])
  go_ret
  exact Zu ⟨hf,rfl,HB.o⟩
 | some ik =>
  obtain⟨i,k⟩:=ik
  have hf:e.AY tok=some (if 0<(e.at_ i).fl.be k then { e with timers:=e.timers+1 }.Af i k (fun s=>{ s with sign:=Zao e.time ((e.at_ i).fl.be k),Bg:=e.timers+1 }) else e):=by
   unfold Ab.AY;rw[r];simp only
   split<;>rfl
  have HT:=Zz (Gk w P B ob e rs l tok i k fn cs Q wk r hk);have D:=Zz ht;obtain⟨b,hb⟩:∃b,b=(Am rs i).b:=⟨_,rfl⟩;rw[<-hb] at HT;have C:=Zz hb;have HF:=Zz hf;clear r Q ht hk hb hf
  go_enter func108,ntmps108
  go_upto_region 2 with (go_at_call 147;refine HT.o.mono ?_;rintro _ A ⟨v,rfl,hw,Q,f⟩;have HX:=Zz (Zq hw (Zq Q f));clear hw Q f)
  by_cases hv:v=0
  .subst hv
   rw[Zaw];obtain⟨⟨hi,d,h3⟩,L,f⟩:=HX.o;obtain⟨el,now,J,z,ar⟩:=L.ex;obtain⟨ka,kc,Y⟩:=J.kn;have W:i<rs.length:=by rw[L.len];exact hi
   have j:=Y.runs i W;have E:=L.runs i hi;have h1:=wk.Bi hi d (by omega);have u:=wk.runs i hi;have q:=u.fl.node k (by rw[<-u.len];exact d);obtain⟨⟨t0,_,t2⟩,_⟩:=j.CP;obtain⟨cg,H,aw,_,au,_⟩:=j.Bj;have ag:=j.Br;obtain⟨n,hn⟩:∃n,n=(Am rs i).ns.length:=⟨_,rfl⟩;have Z:k<(Am rs i).ns.length:=by rw[E.len];exact d
   have tb:=(j.nd Z).c2;have M:((Am rs i).at_ k).be=(e.at_ i).fl.be k:=(E.live h1 k d).be;rw[M] at tb;obtain⟨be,c⟩:∃be,be=(e.at_ i).fl.be k:=⟨_,rfl⟩;rw[<-c] at tb M;obtain⟨id,N⟩:∃id,id=(Am rs i).id:=⟨_,rfl⟩;obtain⟨ng,O⟩:∃ng,ng=(Am rs i).ng:=⟨_,rfl⟩;have m:id=(e.at_ i).id:=by rw[N];exact E.id
   rw[<-C.o,<-N] at t0;rw[<-C.o,<-hn,<-O] at t2;rw[<-O] at tb H;rw[<-hn] at aw ag;have G:=j.top;rw[<-C.o] at G;have T:b≠P:=by have:=j.bb;have:=J.pb;rw[C.o];omega
   have V:ng≠P:=by have:=J.pb;omega
   have hlen:l.length<=150:=D.o.Br wk
   have S:=fun (wx:World) (hb:ZY A wx)=>Ls wx P B now l id k be e.timers (J.wh.Ak hb) (by
    have:=wk.Uc i hi;have:=wk.Rr i hi;exact FM (by omega) (by omega) (by omega) (by omega) (by decide) (by decide)) (by rw[c];exact q.Rh) (by rw[c];have:=q.be2;omega) (by omega)
   have ae:=Zz S
   have K:∀wx w',ZY A wx->PF wx w' P B Ck->(w'.cell? ⟨b,0,none⟩=some (.int .u64 id)/\w'.cell? ⟨b,2,none⟩=some (.slice (some ⟨ng,0,none⟩) n (Am rs i).nc))/\w'.cell? ⟨ng,k * 10+2,none⟩=some (.int .i64 be):=fun wx w' hb hf=>by
    have t:w'.heap[b]? =A.heap[b]? :=by
     have:=(hb.block b (Zaa G));exact (hf.other (this.trans G) (by decide) T).trans this
    have aj:w'.heap[ng]? =A.heap[ng]? :=by
     have:=(hb.block ng (Zaa H));exact (hf.other (this.trans H) (by decide) V).trans this
    exact⟨⟨(QEc (a:=⟨b,0,none⟩) t).trans t0,(QEc (a:=⟨b,2,none⟩) t).trans t2⟩,(QEc (a:=⟨ng,k * 10+2,none⟩) aj).trans tb⟩
   have R:=Zz K;have ay:(k:Int)<(n:Int):=by omega
   have HH:=Zz (Zq hi (Zq d (Zq h3 (Zq L (Zq f (Zq J (Zq z (Zq h1 (Zq m (Zq c q))))))))))
   generalize (Am rs i).nc=nc at *
   clear hi d h3 L f J z ar Y W j E h1 hn N O m Z au u q H M c G T V hlen S K
   go_upto_region 4 with fail
   go_region_held3 (fun w'=>(w'.cell? ⟨b,0,none⟩=some (.int .u64 id)/\w'.cell? ⟨b,2,none⟩=some (.slice (some ⟨ng,0,none⟩) n nc))/\w'.cell? ⟨ng,k * 10+2,none⟩=some (.int .i64 be)) (go_keep) ((go_at_call 148;refine (ae.o A.drew (ZV.drew)).mono ?_;rintro _ w2 ⟨rfl,I,p⟩;have HN:=Zz (Zq I p);have y:=R.o A.drew w2 (ZV.drew) p;have y0:=y.1.1;have y1:=y.1.2;have y2:=y.2;clear I p y))
   all_goals
    go_wp2_with fail
    go_ret
    obtain⟨hi,d,h3,L,f,J,z,h1,m,c,q⟩:=HH.o;obtain⟨⟨l2,I,ax⟩,p⟩:=HN.o;have U:ZY A A.drew:=ZV.drew;have F:=(L.below U).KU p ax z;have X:KF A w2 P B ob:=(KF.Ae P B ob U).trans (KF.DL p ob) (As.refl _ _);refine Zj ⟨0,_,HF.o,rfl,?_⟩;rw[<-c];rcases I with⟨q1,rfl⟩ | ⟨q1,x,l1,q2,rfl⟩
    .rw[if_neg (by omega)]
     exact BX.ok f F D.o X (As.refl _ _)
    .have:=q.Rh
     have t:1<=be:=by omega
     rw[if_pos (by omega)];have az:=Zdc wk.t0 wk.tB t;rw[m] at q2 F;have al:Za2 now (now+be)=Zao e.time be:=by rw[z];exact Zc6 t
     rw[al] at F;refine BX.ok f (F.times (e':={ e with timers:=e.timers+1 }.Af i k (fun s=>{ s with sign:=Zao e.time be,Bg:=e.timers+1 })) hi (g:=fun s=>{ s with sign:=Zao e.time be,Bg:=e.timers+1 }) (fun _=>⟨rfl,rfl,rfl⟩) rfl rfl rfl rfl rfl rfl) (Xc (e':={ e with timers:=e.timers+1 }.Af i k (fun s=>{ s with sign:=Zao e.time be,Bg:=e.timers+1 })) wk hi d h3 (sg:=Zao e.time be) (by omega) rfl D.o J.wh.apart q2) X (As.refl _ _)
  .rw[Zan hv]
   have HV:=Zz hv;clear hv;go_wp2_with fail
   go_ret
   exact Zj ⟨v,_,HF.o,by rw[Zan HV.o];rfl,BX.err HV.o HX.o.2.2 HX.o.2.1 D.o⟩
open Go.RowKit
def Kw (e:Ab)(i k:Nat)(s:AO):AO:={ s with st:=3,tries:=((e.at_ i).at_ k).tries+1,tok:=e.Ai+1,fin:=Zao e.time ((e.at_ i).fl.cl k),BM:=e.timers+1,sign:=if (e.at_ i).fl.be k > 0 then Zao e.time ((e.at_ i).fl.be k) else 0,Bg:=if (e.at_ i).fl.be k > 0 then e.timers+2 else s.Bg }
def Mb (e:Ab)(q:List Ba)(i k:Nat):Ab:={ e with queue:=q,Ai:=e.Ai+1,timers:=e.timers+1+(if (e.at_ i).fl.be k > 0 then 1 else 0) }.Af i k (Kw e i k)
theorem QF {e:Ab}(h:e.queue=[]):e.Bl=none:=by unfold Ab.Bl;rw[h]
theorem UR {l:List Ag}{id:Int}{i:Nat}(hi:i<l.length)(h:(l.getD i .z).id=id)(hn:∀j,j<i->(l.getD j .z).id≠id):l.findIdx? (fun r=>r.id == id)=some i:=by
 rw[QCz];have e:∀j (a:j<l.length),l.getD j .z=l[j]:=fun j a=>by rw[ZQ,ZZ a];rfl
 refine⟨hi,by rw[<-e i hi];simpa using h,fun j a=> ?_⟩;rw[<-e j (by omega)];simpa using hn j a
theorem Tv {e:Ab}(wk:Ao e){p:Ba}{q:List Ba}(h:e.queue=p::q):∃i,i<e.runs.length/\p.node<(e.at_ i).steps.length/\p.run=(e.at_ i).id/\((e.at_ i).at_ p.node).st=2/\e.find p.run=some i/\e.Bl=some (p,((e.at_ i).at_ p.node).tries+1,e.Ai+1,Mb e q i p.node):=by
 obtain⟨i,q1,a,b,c⟩:=(wk.qm p).1 (by rw[h];exact List.mem_cons_self ..)
 have hf:e.find p.run=some i:=by
  unfold Ab.find;refine UR q1 a (fun j d x=> ?_);have:=wk.Cy (i:=j) (j:=i) (by omega) q1 (by unfold Ab.at_;rw[x,<-a];rfl);omega
 refine⟨i,q1,b,a.symm,c,hf,?_⟩;unfold Ab.Bl;rw[h];simp only;rw[hf]
 rfl
theorem Aq.Ft (r:Aq)(k:Nat)(f g:Cl->Cl):(r.BG k f).BG k g=r.BG k (fun n=>g (f n)):=by
 unfold Aq.BG;simp only[Aq.mk.injEq,true_and]
 apply List.ext_getElem?
 intro j;simp only[List.getElem?_modify];by_cases e:k=j
 .subst e;simp only[if_true];cases r.ns[k]? <;>rfl
 .simp only[if_neg e];cases r.ns[j]? <;>rfl
theorem Xb {e:Ab}(wk:Ao e){i k:Nat}{q:List Ba}(hi:i<e.runs.length)(hk:k<(e.at_ i).steps.length)(H:((e.at_ i).at_ k).st=2){l j B:List Tm}(E:Bf e l)(F:Bk l){x:Int}(C:BZ l (Bc (e.at_ i).id k 1) x j)
  (ha2:Bk (j++[⟨Bc (e.at_ i).id k 1,Zao e.time ((e.at_ i).fl.cl k),e.timers+1⟩])) (h3:((e.at_ i).fl.be k=0/\B=j++[⟨Bc (e.at_ i).id k 1,Zao e.time ((e.at_ i).fl.cl k),e.timers+1⟩])\/(0<(e.at_ i).fl.be k/\∃y u,BZ (j++[⟨Bc (e.at_ i).id k 1,Zao e.time ((e.at_ i).fl.cl k),e.timers+1⟩]) (Bc (e.at_ i).id k 2) y u/\B=u++[⟨Bc (e.at_ i).id k 2,Zao e.time ((e.at_ i).fl.be k),e.timers+2⟩])):Bf (Mb e q i k) B:=by
 have m:=Zbc.1 E;have hg:=C.gone F;have D:=wk.IS hi;have w:=wk.Bi hi hk (by omega)
 have b:∀t,BH e t->¬Dr (e.at_ i).id k t:=fun t c G=>by
  rcases (c.node wk hi hk G).2 with⟨g,_⟩ | ⟨g,_⟩ | ⟨g,_⟩<;>omega
 have p:∀t,BH e t->∀v:Int,1<=v->v<=3->t.id≠Bc (e.at_ i).id k v:=fun t c v v1 v2 s=>b t c ⟨v,v1,v2,s⟩
 have a:∀t,t∈j↔BH e t:=fun t=>by
  rw[hg,m.2];exact⟨fun h=>h.1,fun h=>⟨h,p t h 1 (by omega) (by omega)⟩⟩
 have r:Bo (j++[⟨Bc (e.at_ i).id k 1,Zao e.time ((e.at_ i).fl.cl k),e.timers+1⟩]):=DP (C.rising m.1) (T:=e.timers) (fun t c=>((a t).1 c).sq wk) (by show e.timers<e.timers+1;omega);have A:=Zdc wk.t0 wk.tB (span:=(e.at_ i).fl.be k);rw[Zbc];rcases h3 with⟨d,rfl⟩ | ⟨d,y,u,n,rfl⟩
 .refine⟨r,fun t=> ?_⟩
  rw[QCn,QDd,a,Zdt wk hi hk (f:=Kw e i k) (e':=Mb e q i k) rfl];constructor
  .rintro (h | rfl)
   .exact Zu ⟨h,b t h⟩
   .exact Zj ⟨w,Zu ⟨rfl,rfl⟩⟩
  .rintro (h | ⟨_,h⟩)
   .exact Zu h.1
   .rcases h with⟨_,g⟩ | ⟨g,_⟩ | ⟨_,g,_⟩
    .exact Zj g
    .cases g
    .simp only[Kw] at g
     rw[if_neg (by omega)] at g;omega
 .have z:=n.gone ha2
  have o:∀t,t∈u↔BH e t\/t=⟨Bc (e.at_ i).id k 1,Zao e.time ((e.at_ i).fl.cl k),e.timers+1⟩:=fun t=>by
   rw[z,QCn,QDd,a];refine⟨fun h=>h.1,fun h=>⟨h,fun s=> ?_⟩⟩;rcases h with h | rfl
   .exact p t h 2 (by omega) (by omega) s
   .have:=(DI s (by omega) (by omega) (by omega) (by omega)).2.2
    omega
  refine⟨DP (n.rising r) (T:=e.timers+1) (fun t c=> ?_) (by show e.timers+1<e.timers+2;omega),fun t=> ?_⟩
  .rcases (o t).1 c with h | rfl
   .have:=h.sq wk;omega
   .exact Int.le_refl _
  .rw[QCn,QDd,o,Zdt wk hi hk (f:=Kw e i k) (e':=Mb e q i k) rfl]
   constructor
   .rintro ((h | rfl) | rfl)
    .exact Zu ⟨h,b t h⟩
    .exact Zj ⟨w,Zu ⟨rfl,rfl⟩⟩
    .refine Zj ⟨w,Zj (Zj ⟨rfl,?_,?_⟩)⟩
     .simp only[Kw];rw[if_pos d];have:=(A (by omega)).2.1;omega
     .simp only[Kw];rw[if_pos d,if_pos d]
   .rintro (h | ⟨_,h⟩)
    .exact Zu (Zu h.1)
    .rcases h with⟨_,g⟩ | ⟨g,_⟩ | ⟨_,_,g⟩
     .exact Zu (Zj g)
     .cases g
     .simp only[Kw] at g
      rw[if_pos d,if_pos d] at g;exact Zj g
