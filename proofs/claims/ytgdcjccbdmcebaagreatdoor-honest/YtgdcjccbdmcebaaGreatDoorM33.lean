import Derived.Test.YtgdcjccbdmcebaaGreatDoorM32
import Derived.Deep.Draws
import Derived.RangeFuncFrom
import Derived.RangeFuncNested
import Derived.RangeFuncBound
import Derived.RangeFuncCalls
import Derived.RangeFuncLeaves
import Derived.Shelf.Abstract
import Derived.Shelf.RegionOpen
import Derived.OwnWalkIn
import Derived.TacticsInMore
import Derived.LoopNIn
import Derived.LoopIn
set_option linter.all false
set_option maxRecDepth 100000
open Go.Proofs.Tryz
open Go.Value renaming ownBlock->QCi,slice.injEq->QGx
open Go.World renaming holding->QKi,setCell->QDw,block_lt_of_cell?->QDv,cell?_of_block->QEc
open List renaming getElem?_eq_none->QAy,length_singleton->QGq,getElem?_map->QEp
open Ne renaming symm->QJr
open Option renaming some.injEq->QCf,some.inj->QJi
namespace Go.Proofs.YtgdcjccbdmcebaaGreatDoor
open Go.RowKit
attribute [local go_sem ↓] Go.wp_at_zero Go.wp_at_succ
def oTy (t:TypeId):Bool:=hTy t||[3,130,61,48,9].contains t
theorem Wh {t:TypeId}(h:oTy t=false):hTy t=false/\¬Rb t/\t≠9:=by
 unfold oTy at h;rw[Bool.or_eq_false_iff] at h;obtain⟨a,b⟩:=h;obtain⟨a1,a2,a3,a4,a5,c,d,f,a9⟩:=JQ a;refine⟨a,?_,?_⟩
 .unfold Rb
  rintro (e | e | e | e | e | e | e | e | e | e)<;>first | contradiction | (subst e;revert b;decide)
 .intro e;subst e;revert b;decide
theorem HH.one {qh:Nat}{w wx wy:World}{hb D bd Z rb:Nat}{rk:Option Nat}{e:Ab}{cs:Array Value}{t:TypeId}{fr:Nat×Nat}(h:HH qh w wx hb D bd rk Z e)(b:AA wx wy rb)(p:wx.heap[rb]? =some (.cells cs t fr))(hn:RZ cs)(r:t=48\/oTy t=false)(hw:w.heap.size<=rb)(hg:4<w.heap.size):HH qh w wy hb D bd rk Z e:=by
 obtain⟨P,B,R,bn,ob,N,f,F,E⟩:=h.ex
 have t1:hTy t=false:=by
  rcases r with rfl | r
  .decide
  .exact (Wh r).1
 obtain⟨K,_,_,_,_,_,L,u8,u9⟩:=JQ t1;obtain⟨a0,a1,a2,a3,a4⟩:=f.host.apart p hn u8 u9;obtain⟨g,d,q,ws⟩:=f.host.ex;obtain⟨rs,l,I,A⟩:=q.kp;obtain⟨pb,bs⟩:=q.pl;have H:=q.ne.l.gl;obtain⟨⟨f1,f2,f3,f4,f5⟩,f6,f7⟩:=f.GJ;have C:=f.Db.size;obtain⟨Q,S,dk,_⟩:=q.dk.c;obtain⟨M,f8⟩:=q.dk.fd;obtain⟨O,f9⟩:=q.dk.fn;have s:P<wx.heap.size:=by omega
 have n:=b.block P s (QJr a1);have v:4<rb:=Zy hg hw
 have G:AI qh wy P B R D bd bn ob g d e:=by
  rcases r with rfl | r
  .exact q.one b (QJr a1) ⟨cs,fr,p⟩ v
  obtain⟨_,t2,t3⟩:=Wh r;refine⟨⟨rs,l,I.side ⟨b.size,fun o _=>QEc (a:=⟨P,o,none⟩) n,fun o=>World.frozen?_of_block (a:=⟨P,o,none⟩) n,fun k j J m _ e' hk=>b.block k (Zaa e') (fun x=>by rw[x,p] at e';simp only[QCf,Obj.cells.injEq] at e';exact t2 (by rw[e'.2.1];exact hk)),fun k es c _ e'=>b.block k (Zaa e') (fun x=>by rw[x,p] at e';cases e')⟩,A⟩,q.log.at_ n,q.dk.Ak b.size (b.block D (Zaa dk.Au) (QJr a2)) (b.block bd f8.lt (QJr a3)) (b.block bn f9.lt (QJr a4)) (fun k j J m e' hk=>b.block k (Zaa e') (Zah e' p (fun x=>by subst x;rcases hk with y | y;exact t3 y;exact K y))),fun i hi=> ?_,q.Ix.at_ (b.block _ (by omega) (by omega)),q.ne⟩;exact (QEc (a:=⟨1,i,none⟩) (b.block 1 (by omega) (by omega))).trans (q.nm i hi)
 have u:=QDv _ _ f.host.err;refine⟨P,B,R,bn,ob,N,⟨⟨⟨g,d,G,ws⟩,f.host.host.at_ (b.block hb (Zaa f.host.host.Au) (QJr a0)),(QEc (a:=⟨0,0,none⟩) (b.block _ u (by show 0≠rb;omega))).trans f.host.err,f.host.ne⟩,⟨b.os.trans f.Db.os,b.tape.trans f.Db.tape,b.output.trans f.Db.output,Zv C b.size,fun k hk=>(b.block k (by omega) (by omega)).trans (f.Db.block k hk)⟩,f.GJ⟩,F,fun k hk=> ?_⟩;obtain⟨j,m,e',z⟩:=(E k hk).Au;exact⟨⟨j,m,(b.block k (Zaa e') (Zah e' p (QJr L))).trans e',z⟩,(E k hk).GJ⟩
theorem Xd {a b c d:Int}:RZ #[.int .u64 a,.int .i64 b,.int .i64 c,.int .u64 d]:=fun t v x=>by cases x
open Go.RowKit
def BO (w:World)(g n:Nat)(f:Nat->Int):Prop:=∃c fr,w.heap[g]? =some (.cells c 3 fr)/\∀i,i<n->c[i]? =some (.int .i64 (f i))
theorem BO.at_ {w w':World}{g n:Nat}{f:Nat->Int}(h:BO w g n f)(e:w'.heap[g]? =w.heap[g]?):BO w' g n f:=by
 obtain⟨c,fr,a,b⟩:=h;exact⟨c,fr,e.trans a,b⟩
theorem BO.lt {w:World}{g n:Nat}{f:Nat->Int}(h:BO w g n f):g<w.heap.size:=by
 obtain⟨c,fr,a,_⟩:=h;exact Zaa a
theorem BO.cell {w:World}{g n:Nat}{f:Nat->Int}(h:BO w g n f){i:Nat}(hi:i<n):w.cell? ⟨g,i,none⟩=some (.int .i64 (f i)):=by
 obtain⟨c,fr,a,b⟩:=h;rw[Zad a,b i hi]
theorem BO.Au {w:World}{g n:Nat}{f:Nat->Int}(h:BO w g n f)(hn:1<=n):∃c fr,w.heap[g]? =some (.cells c 3 fr)/\RZ c:=by
 obtain⟨c,fr,a,b⟩:=h;exact⟨c,fr,a,fun t v x=>by rw[b 0 hn] at x;cases x⟩
theorem BO.Ak {w w':World}{g n:Nat}{rk:Option Nat}{f:Nat->Int}(h:BO w g n f)(hn:1<=n)(hk:Ex w w' rk):BO w' g n f:=by
 obtain⟨c,fr,a,b⟩:=h.Au hn;exact h.at_ (hk.block g c _ fr a b (by decide))
theorem BO.MY {w:World}{B n c:Nat}{a:Option Addr}{l:List Int}{f:Nat->Int}(h:w.ownsRow B 3 1 (.slice a n c) n (l.map (Value.int .i64)))(hn:1<=n)(hf:∀i,i<n->l[i]? =some (f i)):∃g,a=some ⟨g,0,none⟩/\B<=g/\n<=c/\BO w g n f:=by
 rcases h.2 with⟨_,b⟩ | ⟨g,cap,cur,b,hg,hh,e,j,k,m⟩
 .omega
 .simp only[QGx] at b
  obtain⟨rfl,_,rfl⟩:=b;refine⟨g,rfl,hg,e,cur,_,hh,fun i hi=> ?_⟩;have d:=h.cellAt i (by omega);rw[Zad hh] at d;rw[d,QEp,hf i hi]
  rfl
structure XD (w:World)(U n:Nat)(F:Ad)(lb:Nat)(Na:Nat->Option Addr)(Nc:Nat->Nat):Prop where
 us:U<=w.heap.size
 lt:lb<U
 nd:∀k j,k<n->j<7->w.cell? ⟨lb,k * 7+j,none⟩=(Zd8 F k (Na k) (Nc k))[j]?
 af:∀k j,k<n->j<F.an k->∃g,Na k=some ⟨g,0,none⟩/\g<U/\w.cell? ⟨g,j,none⟩=some (.int .i64 (F.af k j))
 ac:∀k,k<n->F.an k<=Nc k
theorem XD.Ak {w w':World}{U n b:Nat}{F:Ad}{d:Nat->Option Addr}{e:Nat->Nat}(h:XD w U n F b d e)(m:U<=w'.heap.size)(hb:∀k,k<U->w'.heap[k]? =w.heap[k]?):XD w' U n F b d e :=
 ⟨m,h.lt,fun k j hk c=>(QEc (a:=⟨b,k * 7+j,none⟩) (hb b h.lt)).trans (h.nd k j hk c),fun k j hk c=>by
  obtain⟨g,i,f,l⟩:=h.af k j hk c;exact⟨g,i,f,(QEc (a:=⟨g,j,none⟩) (hb g f)).trans l⟩,h.ac⟩
theorem An.fwc {B:Nat}{w:World}{F:Ad}{a:Option Addr}{c:Nat}{i:Nat->Option Addr}{l:Nat->Nat}(h:An B w F (.slice a F.n c) F.n i l)(hn:1<=F.n):∃m,a=some ⟨m,0,none⟩/\XD w w.heap.size F.n F m i l:=by
 obtain⟨g,rfl,f,_,d⟩:=LR h hn;refine⟨g,rfl,Zx _,f,d,fun k j hk p=> ?_,fun k hk=> ?_⟩
 .have e:=h.DW k hk
  rcases e.2 with⟨_,b⟩ | ⟨g2,cap,cur,b,hg,hh,o,_⟩
  .omega
  .simp only[QGx] at b
   refine⟨g2,b.1,Zaa hh,?_⟩;rw[b.1] at e;rw[e.cellAt j (by omega)];unfold Zbx;rw[QEp,List.getElem?_range p]
   rfl
 .rcases (h.DW k hk).2 with⟨_,b⟩ | ⟨g2,cap,cur,b,hg,hh,o,_⟩
  .omega
  .simp only[QGx] at b;omega
def TN (t:CM):List Value:=[.int .u64 2,.int .i64 t.node,.int .i64 t.nth,.int .u64 t.tok]
theorem RR (t:CM):(TN t).length=4:=rfl
structure Sb (w wx:World)(ub hb rk tb n:Nat)(dl:Int)(lb lc:Nat)(ts:List CM)(rd:List Int)(sn:Nat)(r0:Ag)(tv:Nat->Int):Prop where
 ex:∃ta tc ir is ia ic ja jc,wx.heap[ub]? =some (.cells (waC hb dl (some ⟨lb,0,none⟩) n lc (.slice ta ts.length tc) rk tb ir is (.slice ia sn ic) (.slice ja sn jc)) 77 (0,0))/\wx.ownsRow w.heap.size 48 4 (.slice ta ts.length tc) ts.length (ts.flatMap TN)/\(ts=[]->ta=none)/\(sn=0\/(sn=n/\is=r0.st/\∃ig jg,ia=some ⟨ig,0,none⟩/\ja=some ⟨jg,0,none⟩/\n<=ic/\n<=jc/\BO wx ig n (fun k=>(r0.at_ k).st)/\BO wx jg n (fun k=>(r0.at_ k).tries)/\ig≠tb/\jg≠tb))
 rd:wx.rowIs rk 27 n (fun k=> .int .u64 (rd.getD k 0))
 tr:wx.rowIs tb 3 n (fun k=> .int .i64 (tv k))
 lo:w.heap.size<=ub/\w.heap.size<=rk/\w.heap.size<=tb
theorem Sb.stayR {w wx wy:World}{ub hb rk tb n B lc C:Nat}{dl:Int}{y:List CM}{rd m:List Int}{r0:Ag}{tv:Nat->Int}(h:Sb w wx ub hb rk tb n dl B lc y rd C r0 tv)(hn:1<=n)(b:∀(k:Nat) (cs:Array Value) (t:TypeId) (fr:Nat×Nat),wx.heap[k]? =some (.cells cs t fr)->RZ cs->t=3\/t=48\/t=77->wy.heap[k]? =wx.heap[k]?)(J:wy.rowIs rk 27 n (fun k=> .int .u64 (m.getD k 0))):Sb w wy ub hb rk tb n dl B lc y m C r0 tv:=by
 obtain⟨U,V,N,is,K,L,O,P,z,s,A,D⟩:=h.ex
 have hi:∀{g f},BO wx g n f->BO wy g n f:=fun {g f} q=>by
  obtain⟨c,fr,e,hn⟩:=q.Au hn;exact q.at_ (b g c _ fr e hn (Zu rfl))
 refine⟨⟨U,V,N,is,K,L,O,P,(b ub _ _ _ z (fun t v x=>by cases x) (Zj (Zj rfl))).trans z,?_,A,D.imp id ?_⟩,J,?_,h.lo⟩
 .refine⟨s.1,?_⟩
  rcases s.2 with x | ⟨g,cap,cur,e,hg,hh,q1,R,S,T⟩
  .exact Zu x
  .refine Zj ⟨g,cap,cur,e,hg,(b g cur _ _ hh (fun t v x=> ?_) (Zj (Zu rfl))).trans hh,q1,R,S,T⟩
   cases d:y with
   | nil =>
    have u:=A d;simp only[QGx] at e;rw[u] at e
    cases e.1
   | cons a l =>
    have e':=e;simp only[QGx] at e';have i:=s;rw[e'.1] at i;have j:=i.cellAt 0 (by rw[d];simp);rw[Zad hh,x] at j;rw[d] at j;simp[TN] at j
 .rintro⟨E,j,M,Q,u,F,G,H,o,p,r⟩
  exact⟨E,j,M,Q,u,F,G,H,hi o,hi p,r⟩
 .obtain⟨c,e,_,I⟩:=h.tr
  exact h.tr.of_block (b tb c _ _ e (fun t v x=>by rw[I 0 hn] at x;cases x) (Zu rfl))
theorem Sb.stay {w wx wy:World}{ub hb rk tb n b lc c:Nat}{dl:Int}{d:List CM}{rd:List Int}{r0:Ag}{tv:Nat->Int}(h:Sb w wx ub hb rk tb n dl b lc d rd c r0 tv)(hn:1<=n)(a:∀(k:Nat) (cs:Array Value) (t:TypeId) (fr:Nat×Nat),wx.heap[k]? =some (.cells cs t fr)->RZ cs->t=3\/t=48\/t=77->wy.heap[k]? =wx.heap[k]?)(e:wy.heap[rk]? =wx.heap[rk]?):Sb w wy ub hb rk tb n dl b lc d rd c r0 tv :=
 h.stayR hn a (h.rd.of_block e)
open Go.RowKit
attribute [local go_sem ↓] Go.wp_at_zero Go.wp_at_succ
structure WtD (n sn:Nat)(F:Ad)(r0 r:Ag)(tv:Nat->Int):Prop where
 n1:1<=n
 len:r.steps.length=n
 Xv:∀k,k<n->(r.at_ k).tries<=F.bu k
 trM:∀k,k<n->tv k<=(r.at_ k).tries
 ov:sn=n->∀k,k<n->(r0.at_ k).st=5\/(r0.at_ k).st=6\/(r0.at_ k).st=7->(r.at_ k).st=(r0.at_ k).st
 dead:∀k,k<n->(r.at_ k).st=6->(r.at_ k).tries=F.bu k
 up:∀k,k<n->2<=(r.at_ k).st->(r.at_ k).st<=6->∀j,j<F.an k->(r.at_ (F.af k j).toNat).st=5
 free:∀k,k<n->(∀j,j<F.an k->(r.at_ (F.af k j).toNat).st=5)->r.st=1->(r.at_ k).st≠1
 st:sn=n->r0.st≠1->r.st=r0.st
 sc:r.st=2↔∀k,k<n->(r.at_ k).st=5
 af:∀k j,k<n->j<F.an k->0<=F.af k j/\F.af k j<n
 anB:∀k,k<n->F.an k<=1000
theorem FE {B:Nat}{a w:World}(h:Below B a w)(n:Nat):Below B a (w.drewN n):=h.trans ⟨rfl,rfl,rfl,Zx _,fun _ _=>rfl⟩
theorem Hj {w:World}{b k:Nat}(h:k≠b)(a o1 o2 o3:Nat)(v0 v1 v2 v3:Value):((((w.setCell ⟨b,a,none⟩ v0).setCell ⟨b,o1,none⟩ v1).setCell ⟨b,o2,none⟩ v2).setCell ⟨b,o3,none⟩ v3).heap[k]? =w.heap[k]? :=by
 rw[Zl _ ⟨b,o3,none⟩ _ k h,Zl _ ⟨b,o2,none⟩ _ k h,Zl _ ⟨b,o1,none⟩ _ k h,Zl _ ⟨b,a,none⟩ _ k h]
theorem OV (w:World)(b a o1 o2 o3:Nat)(v0 v1 v2 v3:Value):AA w ((((w.setCell ⟨b,a,none⟩ v0).setCell ⟨b,o1,none⟩ v1).setCell ⟨b,o2,none⟩ v2).setCell ⟨b,o3,none⟩ v3) b :=
 ⟨rfl,rfl,rfl,by simp[QDw],fun k _ h=>Hj h _ _ _ _ _ _ _ _⟩
theorem Ys {qh:Nat}{w wx:World}{hb D bd Z n:Nat}{rk:Option Nat}{e:Ab}(h:HH qh w wx hb D bd rk Z e)(hf:e.find 2=some 1)(hl:(e.at_ 1).steps.length=n)(hn:1<=n) :
  Calls prog 27 #[.pointer (some ⟨hb,0,none⟩),.int .u64 2] wx fun x w'=>∃g1 c1 g2 c2,x=.returned (.tuple #[.agg #[.int .u64 2,.int .i64 (e.at_ 1).st,.slice (some ⟨g1,0,none⟩) n c1,.slice (some ⟨g2,0,none⟩) n c2],.int .i64 0])/\(wx.heap.size<=g1/\wx.heap.size<=g2/\n<=c1/\n<=c2)/\BO w' g1 n (fun k=>((e.at_ 1).at_ k).st)/\BO w' g2 n (fun k=>((e.at_ 1).at_ k).tries)/\ZY wx w':=by
 refine (Vf h 2).mono ?_;rintro x w' ⟨v,l,rfl,q1,g⟩;rcases q1 with⟨a,_⟩ | ⟨i,a1,a2,c1,c2,a,rfl,rfl,c,d⟩
 .rw[hf] at a;cases a
 .rw[hf] at a
  obtain rfl:=QJi a;rw[hl] at c d
  have b:∀k,k<n->(e.at_ 1).steps[k]? =some ((e.at_ 1).at_ k):=fun k hk=>by
   unfold Ag.at_;rw[ZQ,ZZ (by omega)];rfl
  obtain⟨g1,rfl,r1,r2,j⟩:=BO.MY (f:=fun k=>((e.at_ 1).at_ k).st) c hn (fun k hk=>by unfold Ag.sts;rw[QEp,b k hk];rfl);obtain⟨g2,rfl,s1,s2,s3⟩:=BO.MY (f:=fun k=>((e.at_ 1).at_ k).tries) d hn (fun k hk=>by unfold Ag.trs;rw[QEp,b k hk];rfl);rw[hl];exact⟨g1,c1,g2,c2,rfl,⟨r1,s1,r2,s2⟩,j,s3,g⟩
def infC (st:Int)(g1 c1 g2 c2 n:Nat):Array Value:=#[.int .u64 2,.int .i64 st,.slice (some ⟨g1,0,none⟩) n c1,.slice (some ⟨g2,0,none⟩) n c2]
structure Wt1 (w w1:World)(ub tb xb g1 c1 g2 c2 n sn lb:Nat)(C:Array Value)(is:Int)(ia:Option Addr)(ic:Nat)(F:Ad)(r0 r:Ag)(Na:Nat->Option Addr)(Nc:Nat->Nat):Prop where
 u:w1.heap[ub]? =some (.cells C 77 (0,0))
 x:w1.heap[xb]? =some (.cells (infC r.st g1 c1 g2 c2 n) 50 (0,0))
 s:BO w1 g1 n (fun k=>(r.at_ k).st)
 t:BO w1 g2 n (fun k=>(r.at_ k).tries)
 o:sn=0\/(sn=n/\is=r0.st/\∃ig,ia=some ⟨ig,0,none⟩/\n<=ic/\BO w1 ig n (fun k=>(r0.at_ k).st)/\ig≠tb)
 f:XD w1 w.heap.size n F lb Na Nc
 ne:ub≠tb/\xb≠tb/\g1≠tb/\g2≠tb/\w.heap.size<=tb
structure Ua (w w1 wr:World)(hb D bd rk tb Z n i:Nat)(e:Ab)(tv:Nat->Int):Prop where
 hh:HH tb w wr hb D bd (some rk) Z e
 on:∀k,k<w1.heap.size->k≠tb->wr.heap[k]? =w1.heap[k]?
 sz:w1.heap.size<=wr.heap.size
 tr:wr.rowIs tb 3 n (fun k=> .int .i64 (if k<i then ((e.at_ 1).at_ k).tries else tv k))
theorem Ua.below {w c wr wy:World}{hb D bd rk tb Z n i:Nat}{e:Ab}{tv:Nat->Int}(h:Ua w c wr hb D bd rk tb Z n i e tv)(a:ZY wr wy):Ua w c wy hb D bd rk tb Z n i e tv :=
 ⟨(h.hh.below a).1,fun k hk b=>(a.block k (Zy hk h.sz)).trans (h.on k hk b),Zv h.sz a.size,h.tr.of_block (a.block tb h.tr.lt)⟩
theorem Ua.put {w b wr:World}{hb D bd rk tb Z n i:Nat}{e:Ab}{tv:Nat->Int}(h:Ua w b wr hb D bd rk tb Z n i e tv)(hi:i<n)(hw:w.heap.size<=tb)(j:4<w.heap.size):Ua w b (wr.setCell ⟨tb,i,none⟩ (.int .i64 ((e.at_ 1).at_ i).tries)) hb D bd rk tb Z n (i+1) e tv:=by
 obtain⟨c,d,f,g⟩:=h.tr;refine⟨h.hh.put d (fun t v x=>by rw[g 0 (by omega)] at x;cases x) hw (by omega) (Zu ⟨rfl,rfl⟩) _ _,fun k hk a=>(Zl wr ⟨tb,i,none⟩ _ k a).trans (h.on k hk a),by have:=h.sz;simpa[QDw] using this,(h.tr.set i _).congr fun k hk=> ?_⟩;by_cases c:k=i
 .subst c;rw[if_pos rfl,if_pos (by omega)]
 .rw[if_neg c]
  by_cases c2:k<i
  .rw[if_pos c2,if_pos (by omega)]
  .rw[if_neg c2,if_neg (by omega)]
structure WtC (wr:World)(ub tb xb g1 c1 g2 c2 n sn lb lc ic k:Nat)(is:Int)(ia:Option Addr)(F:Ad)(r0 r:Ag)(Na:Nat->Option Addr)(Nc:Nat->Nat)(tk:Int):Prop where
 u2:wr.cell? ⟨ub,2,none⟩=some (.slice (some ⟨lb,0,none⟩) n lc)
 u6:wr.cell? ⟨ub,6,none⟩=some (.slice (some ⟨tb,0,none⟩) n n)
 u8:wr.cell? ⟨ub,8,none⟩=some (.int .i64 is)
 u9:wr.cell? ⟨ub,9,none⟩=some (.slice ia sn ic)
 x1:wr.cell? ⟨xb,1,none⟩=some (.int .i64 r.st)
 x2:wr.cell? ⟨xb,2,none⟩=some (.slice (some ⟨g1,0,none⟩) n c1)
 x3:wr.cell? ⟨xb,3,none⟩=some (.slice (some ⟨g2,0,none⟩) n c2)
 s:wr.cell? ⟨g1,k,none⟩=some (.int .i64 (r.at_ k).st)
 t:wr.cell? ⟨g2,k,none⟩=some (.int .i64 (r.at_ k).tries)
 b:wr.cell? ⟨lb,k * 7,none⟩=some (.int .i64 (F.bu k))
 a:wr.cell? ⟨lb,k * 7+6,none⟩=some (.slice (Na k) (F.an k) (Nc k))
 v:wr.cell? ⟨tb,k,none⟩=some (.int .i64 tk)
 vz:wr.frozen? ⟨tb,k,none⟩=false
 o:sn=n->∃ig,ia=some ⟨ig,0,none⟩/\n<=ic/\wr.cell? ⟨ig,k,none⟩=some (.int .i64 (r0.at_ k).st)
theorem Wt1.cells {w A wr:World}{hb D bd rk Z i k:Nat}{e:Ab}{tv:Nat->Int}{ub tb p g1 c1 g2 c2 n j b lc g:Nat}{dl G is:Int}{m H:Value}{d:Option Addr}{F:Ad}{r0:Ag}{r:Nat->Option Addr}{v:Nat->Nat}(h:Wt1 w A ub tb p g1 c1 g2 c2 n j b (waC hb dl (some ⟨b,0,none⟩) n lc m rk tb G is (.slice d j g) H) is d g F r0 (e.at_ 1) r v)(l:Ua w A wr hb D bd rk tb Z n i e tv)(hk:k<n):WtC wr ub tb p g1 c1 g2 c2 n j b lc g k is d F r0 (e.at_ 1) r v (if k<i then ((e.at_ 1).at_ k).tries else tv k):=by
 obtain⟨n1,n2,I,J,N⟩:=h.ne;have c:=l.on ub (Zaa h.u) n1;have ex:=l.on p (Zaa h.x) n2;have B:=l.on g1 h.s.lt I;have C:=l.on g2 h.t.lt J;have hl:=h.f.lt;have E:=h.f.us;have el:=l.on b (by omega) (by omega);refine⟨(Zad (c.trans h.u) 2),(Zad (c.trans h.u) 6),(Zad (c.trans h.u) 8),(Zad (c.trans h.u) 9),(Zad (ex.trans h.x) 1),(Zad (ex.trans h.x) 2),(Zad (ex.trans h.x) 3),(h.s.at_ B).cell hk,(h.t.at_ C).cell hk,?_,?_,l.tr.cell hk,l.tr.frozen k,fun M=> ?_⟩
 .exact (QEc (a:=⟨b,k * 7,none⟩) el).trans (h.f.nd k 0 hk (by omega))
 .exact (QEc (a:=⟨b,k * 7+6,none⟩) el).trans (h.f.nd k 6 hk (by omega))
 .rcases h.o with q | ⟨_,_,y,q1,K,z,L⟩
  .omega
  .exact⟨y,q1,K,(z.at_ (l.on y z.lt L)).cell hk⟩
theorem Wt1.DW {w c wr:World}{hb D bd rk Z i k j:Nat}{e:Ab}{tv:Nat->Int}{ub tb v g1 c1 g2 c2 n u s q:Nat}{C:Array Value}{is:Int}{p:Option Addr}{F:Ad}{r0 r:Ag}{b:Nat->Option Addr}{d:Nat->Nat}(h:Wt1 w c ub tb v g1 c1 g2 c2 n u s C is p q F r0 r b d)(l:Ua w c wr hb D bd rk tb Z n i e tv)(hk:k<n)(m:j<F.an k):∃g,b k=some ⟨g,0,none⟩/\wr.cell? ⟨g,j,none⟩=some (.int .i64 (F.af k j)):=by
 obtain⟨n1,n2,x,y,z⟩:=h.ne;obtain⟨g,q1,A,t⟩:=h.f.af k j hk m;have o:=h.f.us;exact⟨g,q1,(QEc (a:=⟨g,j,none⟩) (l.on g (by omega) (by omega))).trans t⟩
theorem TV {w wx y wr:World}{hb D bd rk Z:Nat}{e:Ab}{tv:Nat->Int}{ub tb W g1 c1 g2 c2 n N E lc K G:Nat}{dl U is st:Int}{V:Value}{J r:Option Addr}{F:Ad}{r0:Ag}{O:Nat->Option Addr}{P:Nat->Nat}{i:List CM}{rd:List Int}(h:Wt1 w y ub tb W g1 c1 g2 c2 n N E (waC hb dl (some ⟨E,0,none⟩) n lc (.slice r i.length G) rk tb U is (.slice J N K) V) is J K F r0 (e.at_ 1) O P)(l:Ua w y wr hb D bd rk tb Z n n e tv)(a:ZY wx y)(I:n<=c1/\n<=c2)(o:wx.ownsRow w.heap.size 48 4 (.slice r i.length G) i.length (i.flatMap TN))(T:i=[]->r=none)(m:wx.rowIs rk 27 n (fun k=> .int .u64 (rd.getD k 0)))(C:wx.rowIs tb 3 n (fun k=> .int .i64 (tv k)))(lo:w.heap.size<=ub/\w.heap.size<=rk/\w.heap.size<=tb)(Q:4<w.heap.size)(B:st=(e.at_ 1).st) :
  HH tb w ((((wr.setCell ⟨ub,7,none⟩ (.int .u64 2)).setCell ⟨ub,8,none⟩ (.int .i64 st)).setCell ⟨ub,9,none⟩ (.slice (some ⟨g1,0,none⟩) n c1)).setCell ⟨ub,10,none⟩ (.slice (some ⟨g2,0,none⟩) n c2)) hb D bd (some rk) Z e/\Sb w ((((wr.setCell ⟨ub,7,none⟩ (.int .u64 2)).setCell ⟨ub,8,none⟩ (.int .i64 st)).setCell ⟨ub,9,none⟩ (.slice (some ⟨g1,0,none⟩) n c1)).setCell ⟨ub,10,none⟩ (.slice (some ⟨g2,0,none⟩) n c2)) ub hb rk tb n dl E lc i rd n (e.at_ 1) (fun k=>((e.at_ 1).at_ k).tries):=by
 subst B;obtain⟨n1,n2,L,M,Y⟩:=h.ne;have p:=(l.on ub (Zaa h.u) n1).trans h.u;have z:=OV wr ub 7 8 9 10 (.int .u64 2) (.int .i64 (e.at_ 1).st) (.slice (some ⟨g1,0,none⟩) n c1) (.slice (some ⟨g2,0,none⟩) n c2);have b:∀{k:Nat},k≠ub->((((wr.setCell ⟨ub,7,none⟩ (.int .u64 2)).setCell ⟨ub,8,none⟩ (.int .i64 (e.at_ 1).st)).setCell ⟨ub,9,none⟩ (.slice (some ⟨g1,0,none⟩) n c1)).setCell ⟨ub,10,none⟩ (.slice (some ⟨g2,0,none⟩) n c2)).heap[k]? =wr.heap[k]? :=fun hk=>Hj hk _ _ _ _ _ _ _ _;obtain⟨X,d,_,R⟩:=C;have S:=(a.block tb (Zaa d)).trans d
 have j:∀(k:Nat) (cs:Array Value) (t:TypeId) (fr:Nat×Nat),wx.heap[k]? =some (.cells cs t fr)->t≠3->t≠77->((((wr.setCell ⟨ub,7,none⟩ (.int .u64 2)).setCell ⟨ub,8,none⟩ (.int .i64 (e.at_ 1).st)).setCell ⟨ub,9,none⟩ (.slice (some ⟨g1,0,none⟩) n c1)).setCell ⟨ub,10,none⟩ (.slice (some ⟨g2,0,none⟩) n c2)).heap[k]? =wx.heap[k]? :=fun k cs t fr hk t1 t2=>by
  have H:=a.block k (Zaa hk);rw[b (Zah (H.trans hk) h.u t2),l.on k (Zy (Zaa hk) a.size) (Zah hk d t1),H]
 have hi:∀{g f},BO y g n f->g≠tb->BO ((((wr.setCell ⟨ub,7,none⟩ (.int .u64 2)).setCell ⟨ub,8,none⟩ (.int .i64 (e.at_ 1).st)).setCell ⟨ub,9,none⟩ (.slice (some ⟨g1,0,none⟩) n c1)).setCell ⟨ub,10,none⟩ (.slice (some ⟨g2,0,none⟩) n c2)) g n f:=fun {g f} q hg=>by
  obtain⟨c,fr,e0,_⟩:=id q;exact q.at_ ((b (Zah e0 h.u (by decide))).trans (l.on g q.lt hg))
 refine⟨l.hh.one z p (fun t v x=>by cases x) (Zj (by decide)) lo.1 Q,⟨r,G,2,(e.at_ 1).st,some ⟨g1,0,none⟩,c1,some ⟨g2,0,none⟩,c2,?_,?_,T,Zj ⟨rfl,rfl,g1,g2,rfl,rfl,I.1,I.2,hi h.s L,hi h.t M,L,M⟩⟩,?_,?_,lo⟩
 .exact Zab (Zab (Zab (Zab p _) _) _) _
 .refine⟨o.1,?_⟩
  rcases o.2 with x | ⟨g,cap,cur,x,hg,hh,q⟩
  .exact Zu x
  .exact Zj ⟨g,cap,cur,x,hg,(j g _ _ _ hh (by decide) (by decide)).trans hh,q⟩
 .obtain⟨c,A,_,_⟩:=id m
  exact m.of_block (j rk _ _ _ A (by decide) (by decide))
 .exact (l.tr.of_block (b (fun x=>by rw[x] at n1;exact n1 rfl))).congr fun k hk=>by rw[if_pos hk]
open Go.RowKit
structure HoS (w wx:World)(ub hb D bd rk tb lb lc i:Nat)(F G:Ad)(ts:List CM)(rd:List Int)(e:Ab)(sn:Nat)(r0:Ag)(tv:Nat->Int):Prop where
 hh:HH tb w wx hb D bd (some rk) (13000000+1000000 * i) e
 wa:Sb w wx ub hb rk tb F.n F.dl lb lc ts rd sn r0 tv
 Cc:KW e ts rd (3+40 * i)
 fl:(e.at_ 1).fl=G
 tok:e.Ai<=3+i
 tl:ts.length<=i
structure Ug (F G:Ad):Prop where
 w:Gx F F.n
 n1:1<=F.n
 n2:F.n<=12
 dl:G.dl=F.dl
 n:G.n=F.n
 same:Ci F G F.n
theorem HoS.len {w wx:World}{ub hb D bd rk tb a lc i b:Nat}{F G:Ad}{c:List CM}{rd:List Int}{e:Ab}{r0:Ag}{tv:Nat->Int}(h:HoS w wx ub hb D bd rk tb a lc i F G c rd e b r0 tv)(g:Ug F G):(e.at_ 1).steps.length=F.n:=by
 rw[(h.Cc.ok.wk.runs 1 h.Cc.i1).len,h.fl,g.n]
theorem HoS.AZ {w wx:World}{ub hb D bd rk tb a lc i b:Nat}{F G:Ad}{c:List CM}{rd:List Int}{e:Ab}{r0:Ag}{tv:Nat->Int}(h:HoS w wx ub hb D bd rk tb a lc i F G c rd e b r0 tv)(hi:i<=400):Az e :=
 Dl (by rw[h.Cc.lr];decide) (by have:=h.tok;omega) h.Cc.sd
theorem HoS.find {w wx:World}{ub hb D bd rk tb a lc i b:Nat}{F G:Ad}{c:List CM}{rd:List Int}{e:Ab}{r0:Ag}{tv:Nat->Int}(h:HoS w wx ub hb D bd rk tb a lc i F G c rd e b r0 tv):e.find 2=some 1:=by
 rw[<-h.Cc.id];exact h.Cc.ok.wk.Ym h.Cc.i1
theorem HoS.wtd {w wx:World}{ub hb D bd rk tb y lc i f:Nat}{F G:Ad}{z:List CM}{rd:List Int}{e:Ab}{r0:Ag}{tv:Nat->Int}(h:HoS w wx ub hb D bd rk tb y lc i F G z rd e f r0 tv)(g:Ug F G)(hm:f=F.n->Jj r0 (e.at_ 1))(m:∀k,k<F.n->tv k<=((e.at_ 1).at_ k).tries)(q:f=F.n->r0.steps.length=F.n):WtD F.n f F r0 (e.at_ 1) tv:=by
 have hl:=h.len g;have u:=h.Cc.ok.wk.runs 1 h.Cc.i1;have p:=h.Cc.up 1 h.Cc.i1
 have o:∀k,k<F.n->Hr G k e.time e.timers e.Ai ((e.at_ 1).at_ k):=fun k hk=>by
  have:=u.steps k (by omega);rw[h.fl] at this;exact this
 refine⟨g.n1,hl,fun k hk=>by rw[g.same.bu k hk];exact (o k hk).Xv,m,fun d k hk x=>(hm d).over k (by rw[q d];exact hk) x,fun k hk l=>by rw[g.same.bu k hk];exact (o k hk).dead l,fun k hk s l j c=> ?_,fun k hk v r t=> ?_,fun d=>(hm d).st,?_,fun k j hk c=> ?_,fun k hk=>by have:=g.w.an g.n1 g.n2 k hk;omega⟩
 .have:=p.half.up k (by omega) s l j (by rw[h.fl,<-g.same.an k hk];exact c)
  rw[h.fl,<-g.same.af k hk j c] at this;exact this
 .have:=p.still r k (by omega)
  rw[Bool.eq_false_iff] at this;refine this (Zd5.2 ⟨t,fun a b=> ?_⟩);rw[h.fl,<-g.same.an k hk] at b;rw[h.fl,<-g.same.af k hk a b];exact v a b
 .have:=h.Cc.sc
  unfold Sc at this;rw[hl] at this;exact this
 .have:=(g.w.nodes k hk).af j c
  omega
def FH (r:Ag)(ts:List CM)(nd:Nat)(nth tok:Int)(y:Bool):Prop:=(tok=0/\y=false)\/∃t,t∈ts/\nd=t.node/\nth=t.nth/\tok=t.tok/\(y=true↔JF r t)
theorem FH.none_ {e:Ab}{b:List CM}{rd:List Int}{T nth tok:Int}{nd:Nat}(h:FH (e.at_ 1) b nd nth tok false)(hh:KW e b rd T):e.task tok=none:=by
 refine hh.Nu ?_;rcases h with⟨a,_⟩ | ⟨t,a,_,_,c,d⟩
 .exact Zu a
 .exact Zj ⟨t,a,c,fun x=>by have:=d.2 x;simp at this⟩
theorem FH.some_ {r:Ag}{b:List CM}{nth tok:Int}{nd:Nat}(h:FH r b nd nth tok true):∃t,t∈b/\nd=t.node/\nth=t.nth/\tok=t.tok/\JF r t:=by
 rcases h with⟨_,a⟩ | ⟨t,a,c,d,e,f⟩
 .simp at a
 .exact⟨t,a,c,d,e,f.1 rfl⟩
theorem FH.tok0 {e:Ab}{b:List CM}{rd:List Int}{T nth tok:Int}{nd:Nat}{y:Bool}(h:FH (e.at_ 1) b nd nth tok y)(hh:KW e b rd T):0<=tok/\tok<=e.Ai:=by
 have:=hh.ok.wk.Xt;rcases h with⟨rfl,_⟩ | ⟨t,a,_,_,rfl,_⟩
 .omega
 .have:=hh.tk t a
  have:=this.t1;have:=(hh.tk t a).t2;omega
theorem FH.res {e:Ab}{a:List CM}{rd:List Int}{T nth tok:Int}{nd:Nat}{y:Bool}(h:FH (e.at_ 1) a nd nth tok y)(hh:KW e a rd T)(d:0<=tok):CO 7 (e.complete tok)=(if y=true then 0 else 7)/\CO 7 (e.fail tok)=(if y=true then 0 else 7)/\CO 7 (e.AY tok)=(if y=true then 0 else 7):=by
 cases y with
 | false =>
  have:=h.none_ hh;unfold CO Ab.complete Ab.fail Ab.AY;rw[this];exact⟨rfl,rfl,rfl⟩
 | true =>
  obtain⟨t,b,rfl,rfl,rfl,c⟩:=h.some_;have:=hh.task b c;unfold CO Ab.complete Ab.fail Ab.AY;rw[this];refine⟨rfl,rfl,?_⟩;simp only
  split<;>rfl
theorem Sj {e e':Ab}{tok:Int}(he:e.AY tok=some e'):e'.time=e.time:=by
 unfold Ab.AY at he
 split at he
 .cases he
 .simp only at he
  split at he<;>(obtain rfl:=QJi he;rfl)
theorem HoS.step {w wx wy:World}{ub hb D bd rk tb c lc i d:Nat}{F G:Ad}{f:List CM}{rd:List Int}{e e':Ab}{r0:Ag}{tv:Nat->Int}(h:HoS w wx ub hb D bd rk tb c lc i F G f rd e d r0 tv)(g:Ug F G)(hh:HH tb w wy hb D bd (some rk) (13000000+1000000 * (i+1)) e')(hk:Ex wx wy (some rk))(n:Bq XH e e')(ok:Aj e')(up:AG e')(b:e'.time<=e.time+40):HoS w wy ub hb D bd rk tb c lc (i+1) F G f rd e' d r0 tv/\Jj (e.at_ 1) (e'.at_ 1):=by
 obtain⟨j,a⟩:=h.Cc.call n ok up (T':=3+40 * ((i+1:Nat):Int)) (by have:=h.Cc.time;push_cast;omega);exact⟨⟨hh,h.wa.stay g.n1 (fun k cs t fr e hn b=>hk.block k cs t fr e hn (by rcases b with rfl | rfl | rfl<;>decide)) (hk.row rk rfl),j,a.fl.trans h.fl,by rw[n.lt];have:=h.tok;push_cast;omega,by have:=h.tl;omega⟩,a⟩
theorem HoS.stay {w wx wy:World}{ub hb D bd rk tb a lc i b:Nat}{F G:Ad}{c:List CM}{rd:List Int}{e:Ab}{r0:Ag}{tv:Nat->Int}(h:HoS w wx ub hb D bd rk tb a lc i F G c rd e b r0 tv)(g:Ug F G)(hh:HH tb w wy hb D bd (some rk) (13000000+1000000 * (i+1)) e)(hk:Ex wx wy (some rk)):HoS w wy ub hb D bd rk tb a lc (i+1) F G c rd e b r0 tv/\Jj (e.at_ 1) (e.at_ 1) :=
 h.step g hh hk (.refl OR e) h.Cc.ok h.Cc.up (by omega)
theorem HoS.below {w wx wy:World}{ub hb D bd rk tb b lc i c:Nat}{F G:Ad}{d:List CM}{rd:List Int}{e:Ab}{r0:Ag}{tv:Nat->Int}(h:HoS w wx ub hb D bd rk tb b lc i F G d rd e c r0 tv)(g:Ug F G)(a:ZY wx wy):HoS w wy ub hb D bd rk tb b lc i F G d rd e c r0 tv :=
 ⟨(h.hh.below a).1,h.wa.stay g.n1 (fun k cs t fr e _ _=>a.block k (Zaa e)) (a.block rk h.wa.rd.lt),h.Cc,h.fl,h.tok,h.tl⟩
theorem HoS.opt {w wx wy:World}{ub hb D bd rk tb a lc i b:Nat}{F G:Ad}{c:List CM}{rd:List Int}{e:Ab}{r0:Ag}{tv:Nat->Int}{o:Option Ab}(h:HoS w wx ub hb D bd rk tb a lc i F G c rd e b r0 tv)(g:Ug F G)(hh:HH tb w wy hb D bd (some rk) (13000000+1000000 * (i+1)) (o.getD e))(hk:Ex wx wy (some rk))(l:∀e',o=some e'->Bq XH e e'/\Aj e'/\AG e'/\e'.time<=e.time+40):HoS w wy ub hb D bd rk tb a lc (i+1) F G c rd (o.getD e) b r0 tv/\Jj (e.at_ 1) ((o.getD e).at_ 1):=by
 cases o with
 | none=>exact h.stay g hh hk
 | some e' =>
  obtain⟨d,f,j,k⟩:=l e' rfl;exact h.step g hh hk d f j k
theorem Zc3 {c g w7:World}{rk:Option Nat}{ub a:Nat}{hb:Nat}{C:Array Value}{v1 v2 v3:Value}{q:Int}(hu:c.heap[ub]? =some (.cells C 77 (0,0)))(hC:C[0]? =some (.pointer (some ⟨hb,0,none⟩)))(f:c.heap[a]? =some (.cells #[.int .u64 q,v1,v2,v3] 48 (0,0)))(b:ZY c g)(hk:Ex g w7 rk):w7.heap[ub]? =c.heap[ub]? /\w7.heap[a]? =c.heap[a]? :=by
 have d:=b.block ub (Zaa hu);have e:=b.block a (Zaa f);exact⟨(hk.block ub _ _ _ (d.trans hu) (fun t v x=>by rw[hC] at x;cases x) (by decide)).trans d,(hk.block a _ _ _ (e.trans f) (fun t v x=>by cases x) (by decide)).trans e⟩
theorem Rn {f h w7:World}{rk:Option Nat}{d:Nat}{a b c:Int}(he:f.heap[d]? =some (.cells #[.int .i64 a,.int .i64 b,.int .i64 c] 68 (0,0)))(e:ZY f h)(hk:Ex h w7 rk){j:Nat}:w7.cell? ⟨d,j,none⟩=f.cell? ⟨d,j,none⟩:=by
 have g:=e.block d (Zaa he);exact QEc (a:=⟨d,j,none⟩) ((hk.block d _ _ _ (g.trans he) (fun t v x=>by cases x) (by decide)).trans g)
theorem Ex.Ae {w w':World}{rk:Nat}(hb:ZY w w')(a:rk<w.heap.size):Ex w w' (some rk):=⟨hb.size,fun k cs t fr e _ _=>hb.block k (Zaa e),fun k e=>by cases e;exact hb.block rk a⟩
theorem RK {w:World}{rk n:Nat}{f:Nat->Int}(h:w.rowIs rk 27 n (fun k=> .int .u64 (f k)))(hn:1<=n){cs:Array Value}{fr:Nat×Nat}(e:w.heap[rk]? =some (.cells cs 27 fr)):RZ cs:=by
 obtain⟨c,a,_,b⟩:=h;rw[a] at e;simp only[QCf,Obj.cells.injEq] at e;obtain⟨rfl,_,_⟩:=e;exact fun t v x=>by rw[b 0 hn] at x;cases x
theorem HoS.tick {w wx wy:World}{ub hb D bd rk tb d lc i f p:Nat}{F G:Ad}{j:List CM}{rd:List Int}{e e':Ab}{r0:Ag}{tv:Nat->Int}(h:HoS w wx ub hb D bd rk tb d lc i F G j rd e f r0 tv)(g:Ug F G)(hh:HH tb w wy hb D bd (some rk) (13000000+1000000 * (i+1)) e')(hk:Ex wx wy (some rk))(b:BR e p e')(hp:p<40)(hi:i<400):HoS w wy ub hb D bd rk tb d lc (i+1) F G j rd e' f r0 tv/\Jj (e.at_ 1) (e'.at_ 1):=by
 have l:=h.Cc.ok.wk.t0;have m:=h.Cc.time;have a:e.Hm p=e.time+p:=by unfold Ab.Hm;rw[if_neg (by omega)]
 have n:=b.engN OR h.Cc.ok (by omega) (fun _ _=>trivial);obtain⟨c,_,_,_,_⟩:=b.ok h.Cc.ok (by omega)
 have k:e'.time=e.time+p:=by
  have:=(CZ.ok b h.Cc.ok (by rw[a];omega) (by rw[a];omega)).2.1;rw[this,a]
 exact h.step g hh hk n c (b.Rm h.Cc.up h.Cc.ok (by omega)) (by omega)
theorem HoS.failed {w wx b:World}{ub hb D bd rk tb o lc i p:Nat}{F G:Ad}{a:List CM}{rd:List Int}{e:Ab}{r0:Ag}{tv:Nat->Int}{t:CM}{r:Int}(h:HoS w wx ub hb D bd rk tb o lc i F G a rd e p r0 tv)(g:Ug F G)(hi:i<400)(s:t∈a)(hw:JF (e.at_ 1) t)(hh:HH tb w b hb D bd (some rk) (13000000+1000000 * (i+1)) (e.AH 1 t.node))(wa:Sb w b ub hb rk tb F.n F.dl o lc a rd p r0 tv)(A:4<w.heap.size)(z:r=Zbs (F.ba t.node) (F.ca t.node) (F.ji t.node) t.nth 0) :
  HoS w (b.setCell ⟨rk,t.node,none⟩ (.int .u64 (e.time+r))) ub hb D bd rk tb o lc (i+1) F G a (rd.set t.node (e.time+r)) (e.AH 1 t.node) p r0 tv/\Jj (e.at_ 1) ((e.AH 1 t.node).at_ 1):=by
 obtain⟨v,d,q⟩:=h.Cc.fail (by omega) s hw;have hk:=(h.Cc.tk t s).k;rw[h.len g] at hk
 have l:r=Zbs ((e.at_ 1).fl.ba t.node) ((e.at_ 1).fl.ca t.node) ((e.at_ 1).fl.ji t.node) t.nth 0:=by
  rw[z,h.fl,g.same.ba _ hk,g.same.ca _ hk,g.same.ji _ hk]
 rw[<-l] at d;have n:=Bq.fail OR h.Cc.ok trivial v;obtain⟨c,f,_,B⟩:=id wa.rd;have j:=h.Cc.rl;rw[h.len g] at j;refine⟨⟨hh.put f (RK wa.rd g.n1 f) wa.lo.2.1 (by have:=wa.lo.2.1;omega) (Zj ⟨rfl,rfl⟩) _ _,wa.stayR g.n1 (fun k cs C fr u _ m=>Zl b ⟨rk,t.node,none⟩ _ k (Zah u f (by rcases m with rfl | rfl | rfl<;>decide))) ((wa.rd.set t.node _).congr fun k y=> ?_),{ d with time:=by have:=d.time;push_cast;omega },q.fl.trans h.fl,by rw[n.lt];have:=h.tok;push_cast;omega,by have:=h.tl;omega⟩,q⟩;by_cases c:k=t.node
 .subst c
  rw[if_pos rfl,ZQ,List.getElem?_set_self (by omega),Option.getD_some]
 .rw[if_neg c,ZQ,ZQ,List.getElem?_set_ne (fun x=>c x.symm)]
theorem ZF {w wx wy:World}{rk:Option Nat}{b:List CM}{h:Option Addr}{j:Nat}(f:wx.ownsRow w.heap.size 48 4 (.slice h b.length j) b.length (b.flatMap TN))(k:b=[]->h=none)(hk:Ex wx wy rk):wy.ownsRow w.heap.size 48 4 (.slice h b.length j) b.length (b.flatMap TN):=by
 refine⟨f.1,?_⟩;rcases f.2 with x | ⟨g,cap,cur,e,hg,hh,q⟩
 .exact Zu x
 .refine Zj ⟨g,cap,cur,e,hg,(hk.block g cur _ _ hh (fun t v x=> ?_) (by decide)).trans hh,q⟩
  have e':=e;simp only[QGx] at e'
  cases c:b with
  | nil=>rw[k c] at e';cases e'.1
  | cons a l =>
   have d:=f;rw[e'.1] at d;have i:=d.cellAt 0 (by rw[c];simp);rw[Zad hh,x,c] at i;simp[TN] at i
theorem TR {w d w7:World}{ub hb D bd rk tb Z n R lc z N c7:Nat}{dl Q is:Int}{C m I K:Option Addr}{J L:Nat}{b:List CM}{t:CM}{rd:List Int}{r0:Ag}{tv:Nat->Int}{e:Ab}(hh:HH tb w d hb D bd (some rk) Z e)
  (hub:d.heap[ub]? =some (.cells (waC hb dl (some ⟨R,0,none⟩) n lc (.slice C b.length N) rk tb Q is (.slice I z J) (.slice K z L)) 77 (0,0))) (hts:d.ownsRow w.heap.size 48 4 (.slice C b.length N) b.length (b.flatMap TN)) (hz:b=[]->C=none)
  (hin:z=0\/(z=n/\is=r0.st/\∃u y,I=some ⟨u,0,none⟩/\K=some ⟨y,0,none⟩/\n<=J/\n<=L/\BO d u n (fun k=>(r0.at_ k).st)/\BO d y n (fun k=>(r0.at_ k).tries)/\u≠tb/\y≠tb))
  (hrd:d.rowIs rk 27 n (fun k=> .int .u64 (rd.getD k 0))) (htr:d.rowIs tb 3 n (fun k=> .int .i64 (tv k))) (lo:w.heap.size<=ub/\w.heap.size<=rk/\w.heap.size<=tb) (hG:4<w.heap.size)
  (hg:d.grownBy w7 (Value.slice C b.length N).ownBlock) (ho:w7.ownsRow w.heap.size 48 4 (.slice m (b.length+1) c7) (b.length+1) (b.flatMap TN++TN t)) :
  HH tb w (w7.setCell ⟨ub,4,none⟩ (.slice m (b.length+1) c7)) hb D bd (some rk) Z e/\Sb w (w7.setCell ⟨ub,4,none⟩ (.slice m (b.length+1) c7)) ub hb rk tb n dl R lc (b++[t]) rd z r0 tv:=by
 have A:∀(k:Nat) (cs:Array Value) (t:TypeId) (fr:Nat×Nat),d.heap[k]? =some (.cells cs t fr)->t≠48->w7.heap[k]? =d.heap[k]? :=fun k cs t fr r E=>by
  refine hg.block k (Zaa r) fun x=> ?_;rcases hts.2 with⟨q,_⟩ | ⟨g,cap,cur,q,_,j,_⟩
  .rw[q] at x;simp[QCi] at x
  .rw[q] at x
   simp only[QCi,QCf] at x;exact Zah r j E x
 have i:=(A ub _ _ _ hub (by decide)).trans hub
 have F:HH tb w w7 hb D bd (some rk) Z e:=by
  rcases hts.2 with⟨q,_⟩ | ⟨g,cap,cur,q,G,j,_⟩
  .exact (hh.below ⟨hg.os,hg.tape,hg.output,hg.size,fun k hk=>hg.block k hk (by rw[q];simp[QCi])⟩).1
  .have B:=q
   simp only[QGx] at B;refine hh.one (rb:=g) ⟨hg.os,hg.tape,hg.output,hg.size,fun k hk H=>hg.block k hk (by rw[q];simp[QCi];exact H)⟩ j (fun t v x=> ?_) (Zu rfl) G hG
   cases h:b with
   | nil=>rw[hz h] at B;cases B.1
   | cons a l =>
    have s:=hts;rw[B.1] at s;have O:=s.cellAt 0 (by rw[h];simp);rw[Zad j,x,h] at O;simp[TN] at O
 have p:∀(k:Nat) (cs:Array Value) (t:TypeId) (fr:Nat×Nat),d.heap[k]? =some (.cells cs t fr)->t≠48->t≠77->(w7.setCell ⟨ub,4,none⟩ (.slice m (b.length+1) c7)).heap[k]? =d.heap[k]? :=fun k cs t fr r E S=>(Zl w7 ⟨ub,4,none⟩ _ k (Zah r hub S)).trans (A k cs t fr r E)
 have P:∀{g f},BO d g n f->BO (w7.setCell ⟨ub,4,none⟩ (.slice m (b.length+1) c7)) g n f:=fun {g f} q=>by
  obtain⟨c,fr,e0,_⟩:=id q;exact q.at_ (p g _ _ _ e0 (by decide) (by decide))
 refine⟨F.one (rb:=ub) ⟨rfl,rfl,rfl,by simp[QDw],fun k _ hk=>Zl w7 ⟨ub,4,none⟩ _ k hk⟩ i (fun t v x=>by cases x) (Zj (by decide)) lo.1 hG,⟨m,c7,Q,is,I,J,K,L,?_,?_,fun x=>by simp at x,hin.imp id ?_⟩,?_,?_,lo⟩
 .have:=Zab (o:=4) i (.slice m (b.length+1) c7)
  rw[this,ZX,QGq]
  rfl
 .have:=Zaf ho i (by decide) (.slice m (b.length+1) c7) (o:=4)
  rw[ZX,QGq,List.flatMap_append,List.flatMap_singleton];exact this
 .rintro⟨p1,p2,u,y,p3,p4,p5,p6,p7,p8,T,M⟩
  exact⟨p1,p2,u,y,p3,p4,p5,p6,P p7,P p8,T,M⟩
 .obtain⟨c,e0,_,_⟩:=id hrd
  exact hrd.of_block (p rk _ _ _ e0 (by decide) (by decide))
 .obtain⟨c,e0,_,_⟩:=id htr
  exact htr.of_block (p tb _ _ _ e0 (by decide) (by decide))
structure ZO (w wx wy:World)(hb D bd rk tb Z:Nat)(e:Ab):Prop where
 hh:HH tb w wy hb D bd (some rk) Z e
 hk:Ex wx wy (some rk)
theorem ZO.put {w wx wy:World}{hb D bd rk tb Z rb:Nat}{e:Ab}{v1 v2 v3:Value}{q0:Int}(h:ZO w wx wy hb D bd rk tb Z e)(j:wy.heap[rb]? =some (.cells #[.int .u64 q0,v1,v2,v3] 48 (0,0)))(hl:wx.heap.size<=rb)(i:rk<wx.heap.size)(hw:w.heap.size<=wx.heap.size)(l:4<w.heap.size)(a b c f:Int) :
  ((((wy.setCell ⟨rb,0,none⟩ (.int .u64 a)).setCell ⟨rb,1,none⟩ (.int .i64 b)).setCell ⟨rb,2,none⟩ (.int .i64 c)).setCell ⟨rb,3,none⟩ (.int .u64 f)).heap[rb]? =some (.cells #[.int .u64 a,.int .i64 b,.int .i64 c,.int .u64 f] 48 (0,0))/\ZO w wx ((((wy.setCell ⟨rb,0,none⟩ (.int .u64 a)).setCell ⟨rb,1,none⟩ (.int .i64 b)).setCell ⟨rb,2,none⟩ (.int .i64 c)).setCell ⟨rb,3,none⟩ (.int .u64 f)) hb D bd rk tb Z e:=by
 have g:=OV wy rb 0 1 2 3 (.int .u64 a) (.int .i64 b) (.int .i64 c) (.int .u64 f);refine⟨Zab (Zab (Zab (Zab j _) _) _) _,h.hh.one g j (fun t v x=>by cases x) (Zu rfl) (Zv hw hl) l,Zv h.hk.size g.size,fun k cs t fr d hn m=> ?_,fun k d=> ?_⟩
 .exact (g.block k (Zy (Zaa d) h.hk.size) (fun x=>by have:=Zaa d;omega)).trans (h.hk.block k cs t fr d hn m)
 .obtain rfl:=QJi d
  exact (g.block rk (Zy i h.hk.size) (by omega)).trans (h.hk.row rk rfl)
theorem ZO.new {w wx wy:World}{hb D bd rk tb Z:Nat}{e:Ab}(h:ZO w wx wy hb D bd rk tb Z e)(g:rk<wx.heap.size)(a b c f:Int) :
  (wy.alloc (.cells #[.int .u64 a,.int .i64 b,.int .i64 c,.int .u64 f] 48)).heap[wy.heap.size]? =some (.cells #[.int .u64 a,.int .i64 b,.int .i64 c,.int .u64 f] 48 (0,0))/\ZO w wx (wy.alloc (.cells #[.int .u64 a,.int .i64 b,.int .i64 c,.int .u64 f] 48)) hb D bd rk tb Z e:=by
 have d:ZY wy (wy.alloc (.cells #[.int .u64 a,.int .i64 b,.int .i64 c,.int .u64 f] 48)):=(Zk wy.heap.size wy).alloc ZU _;exact⟨heap_alloc_new wy _,(h.hh.below d).1,h.hk.trans (Ex.Ae d (Zy g h.hk.size))⟩
theorem HL.below {w wx wy:World}{hb D bd Z:Nat}{rk:Option Nat}{e:Ab}(h:HL w wx hb D bd rk Z e)(a:ZY wx wy):HL w wy hb D bd rk Z e:=by
 obtain⟨R,bn,N,c,b,f,d,g,j,l⟩:=h.ex;refine⟨R,bn,N,c,⟨b.host.at_ (a.block hb (Zaa b.host.Au)),b.dk.below a,cell_later a b.nil,b.log,b.sz,b.m2,b.err.Ak a,fun i hi=>cell_later a (b.nm i hi),?_,b.gl,b.ne⟩,f,d.trans (a.mono d.size),g,j,fun k hk=> ?_⟩
 .exact fun i hi=>cell_later a (b.Ix i hi)
 .obtain⟨cs,fr,e⟩:=l k hk
  exact⟨cs,fr,(a.block k (Zaa e)).trans e⟩
end Go.Proofs.YtgdcjccbdmcebaaGreatDoor
namespace Go.Proofs.YtgdcjccbdmcebaaGreatDoor.Laid
open Go.RowKit Go.ChangeShapes Go.WideShapes Go.Proofs.YtgdcjccbdmcebaaGreatDoor
def Ns {H:Type}(zs:List ByteArray):DataW H:=.agg (zs.map fun s=> .lit (.string s.data.toList))
theorem KZ {H:Type}{enc:TypeId×Value->H}{P:Program}{w:World}{base:Nat}{sp:Nat->Bool}{held:Bool}{fuel:Nat}{t e:TypeId}{n:Nat}{cs:List Value}{c:List ByteArray}{p:List MemPlace}
  (ht:P.underlying t=some (.array n e)) (he:P.underlying e=some .string) (hce:P.cellsOf e=1) (hct:P.cellsOf t=n)
  (h:DataW.trod enc P w base sp held fuel t cs=some (Ns c,p)):cs=c.map fun s=>Value.string s:=by
 cases fuel with
 | zero=>simp[DataW.trod] at h
 | succ fuel =>
  simp only[DataW.trod,ht,hce,hct,Nat.mul_one] at h
  split at h
  .rename_i hl
   obtain⟨xs,hm,m⟩:=Option.map_eq_some_iff.1 h
   have a:xs.map (·.1)=c.map fun s=>(DataW.lit (.string s.data.toList):DataW H):=by
    have:=congrArg Prod.fst m;simpa[Ns] using this
   have o:xs.length=n:=by simpa using Lib.mapM_length hm
   have q:c.length=n:=by
    have:=congrArg List.length a;simp at this;omega
   apply List.ext_getElem?
   intro i;by_cases hi:i<n
   .obtain⟨b,hb,hf⟩:=Lib.mapM_at hm i i (by simp[hi])
    obtain⟨s,l,rfl,_⟩:=DataW.trod_string he hf
    have j:cs[i]? =some (.string s):=by
     have:=congrArg (·[0]?) l;simpa[List.getElem?_take,List.getElem?_drop] using this
    have d:(xs.map (·.1))[i]? =some (DataW.lit (.string s.data.toList):DataW H):=by simp[hb]
    rw[a] at d;simp only[QEp,Option.map_eq_some_iff,DataW.lit.injEq,Lit.string.injEq] at d;obtain⟨g,f,k⟩:=d
    obtain rfl:g=s:=by
     cases g;cases s
     simp only[ByteArray.mk.injEq];exact Array.toList_inj.1 k
    simp[j,f]
   .rw[QAy (by omega),QAy (by simp;omega)]
  .cases h
theorem gNam:prog.globalNamed "flowkeeper/logs.names"=some 1:=by kernel_rfl
theorem UY:(prog.globals[1]?).map (·.type)=some 298:=by kernel_rfl
theorem XV:prog.cellsOf 298=3:=by kernel_rfl
theorem XU:prog.cellsOf 9=1:=by kernel_rfl
theorem VP {W:World}(e:laidMetH prog [("flowkeeper/logs.names",Rows.laid_flowkeeper_logs_names)] W):Za4 W:=by
 have h:laidMet prog [("flowkeeper/logs.names",Ns [CX 0,CX 1,CX 2])] W:=e;obtain⟨ps,⟨j,k,cs,fuel,p,q,c,d,a,g,_,_⟩,_⟩:=h;obtain rfl:=QJi (gNam.symm.trans c);obtain rfl:=QJi (UY.symm.trans d);have b:=KZ underlying298 underlying9 XU XV g;intro i hi;have:=World.var?_cell gNam a i;rw[this];have f:cs.toList=_:=b;rw[<-Array.getElem?_toList,f]
 match i,hi with
 | 0,_=>rfl
 | 1,_=>rfl
 | 2,_=>rfl
theorem WK {W:World}(h:W.ShapedOpen prog):4<W.heap.size:=by
 obtain⟨o,b,a,_⟩:=h.2 4 (by decide) (of_decide_eq_true (by kernel_rfl));exact (Array.getElem?_eq_some_iff.1 a).1
theorem tab_lt {W:World}(h:AP W):2<W.heap.size:=QDv _ _ (h 0 (by omega))
theorem err_lt {W:World}(h:Ay W):0<W.heap.size:=QDv _ _ h
def layNam:Obj->Obj
 | .cells _ t frozen=> .cells #[.string (CX 0),.string (CX 1),.string (CX 2)] t frozen
 | o=>o
noncomputable def Kg (os:Os):World :=
 { QKi prog os ⟨#[],#[],[]⟩ with heap:=((((QKi prog os ⟨#[],#[],[]⟩).heap.modify 3 lay32).modify 2 lay64).modify 0 layErr).modify 1 layNam }
end Go.Proofs.YtgdcjccbdmcebaaGreatDoor.Laid
