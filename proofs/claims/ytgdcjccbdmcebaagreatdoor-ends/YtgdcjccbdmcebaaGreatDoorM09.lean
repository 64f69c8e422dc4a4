import Derived.Test.YtgdcjccbdmcebaaGreatDoorM03
import Derived.Test.YtgdcjccbdmcebaaGreatDoorM05
import Derived.Recover
import Derived.ScopeJumps
import Derived.WalkMore
set_option linter.unusedSimpArgs false
set_option linter.unusedVariables false
set_option maxHeartbeats 2000000
set_option maxRecDepth 100000
namespace Go.Proofs.YtgdcjccbdmcebaaGreatDoor
open Tryz
open Go.RowKit
variable {i k j:Nat}{e e':Ab}{f:Nat->Int}{F:Ad}{d:CH}
def Za0 (n lo hi:Int):Bool:=decide (lo<=n/\n<=hi)
theorem Zcn {n lo hi:Int}(h:lo<=n)(a:n<=hi):Za0 n lo hi=true:=decide_eq_true ⟨h,a⟩
theorem Ue {n lo hi:Int}(h:n<lo\/hi<n):Za0 n lo hi=false:=decide_eq_false (by omega)
theorem DV (n lo hi:Int)(w:World) :
  Calls prog 216 #[.int .i64 n, .int .i64 lo, .int .i64 hi] w fun e w'=>e= .returned (.bool (Za0 n lo hi))/\w'=w:=Rg n lo hi w
open Classical in
noncomputable def GZ (F:Ad)(i:Nat):Bool:=decide (AJ F i)
open Classical in
noncomputable def EZ (F:Ad)(i:Nat):Bool:=decide (AP F i)
theorem LW (h:AJ F i):GZ F i=true:=by unfold GZ;exact @decide_eq_true _ (Classical.propDecidable _) h
theorem LV (h:¬AJ F i):GZ F i=false:=by unfold GZ;exact @decide_eq_false _ (Classical.propDecidable _) h
theorem Gp (h:AP F i):EZ F i=true:=by unfold EZ;exact @decide_eq_true _ (Classical.propDecidable _) h
theorem Kr (h:¬AP F i):EZ F i=false:=by unfold EZ;exact @decide_eq_false _ (Classical.propDecidable _) h
theorem EK (F:Ad)(i:Nat)(af:Value)(w:World) :
  Calls prog 218 #[ndV (F.bu i) (F.cl i) (F.be i) (F.ba i) (F.ca i) (F.ji i) af] w fun e w'=>e= .returned (.bool (GZ F i))/\Below w.heap.size w w':=by
 by_cases a:AJ F i
 ·obtain⟨a1,a2,l,m,d1,d2,n,p,f1,f2,g1,g2⟩:=a
  have s0:=Zcn a1 a2;have s1:=Zcn l m;have s2:=Zcn d1 d2;have s3:=Zcn n p;have t:=Zcn f1 f2;have u:=Zcn g1 g2;have H:=Zz (show AJ F i from⟨a1,a2,l,m,d1,d2,n,p,f1,f2,g1,g2⟩)
  go_enter func218,ntmps218
  go_wp2_with (go_at_call 216;refine (DV _ _ _ _).mono ?_;rintro e w' ⟨rfl,rfl⟩)
  go_ret
  exact⟨rb (LW H.o).symm,(Zk _ _).alloc (Zx _) _⟩
 ·have g:(Za0 (F.bu i) 1 5=false)\/(Za0 (F.bu i) 1 5=true/\Za0 (F.cl i) 1 1048576=false)\/(Za0 (F.bu i) 1 5=true/\Za0 (F.cl i) 1 1048576=true/\Za0 (F.be i) 0 1048576=false)
     \/ (Za0 (F.bu i) 1 5=true/\Za0 (F.cl i) 1 1048576=true/\Za0 (F.be i) 0 1048576=true/\Za0 (F.ba i) 1 1048576=false)
     \/ (Za0 (F.bu i) 1 5=true/\Za0 (F.cl i) 1 1048576=true/\Za0 (F.be i) 0 1048576=true/\Za0 (F.ba i) 1 1048576=true/\Za0 (F.ca i) (F.ba i) 1048576=false)
     \/ (Za0 (F.bu i) 1 5=true/\Za0 (F.cl i) 1 1048576=true/\Za0 (F.be i) 0 1048576=true/\Za0 (F.ba i) 1 1048576=true/\Za0 (F.ca i) (F.ba i) 1048576=true/\Za0 (F.ji i) 0 1048576=false):=by
   apply Classical.byContradiction
   intro b
   apply a
   unfold Za0 at b;simp only[decide_eq_true_eq,decide_eq_false_iff_not] at b;constructor<;>omega
  have H:=Zz a;clear a;rcases g with q1 | ⟨q1,c⟩ | ⟨q1,c,h⟩ | ⟨q1,c,h,q⟩ | ⟨q1,c,h,q,r⟩ | ⟨q1,c,h,q,r,s⟩
  all_goals
   go_enter func218,ntmps218
   go_wp2_with (go_at_call 216;refine (DV _ _ _ _).mono ?_;rintro e w' ⟨rfl,rfl⟩)
   go_ret
   exact⟨rb (LV H.o).symm,(Zk _ _).alloc (Zx _) _⟩
theorem KA (F:Ad)(i:Nat)(a:Option Addr)(c:Nat)(w:World)(hi:Cz w a (F.an i) c (F.af i))(hn:F.n<=12) :
  Calls prog 219 #[.slice a (F.an i) c, .int .i64 F.n] w fun e w'=>e= .returned (.bool (EZ F i))/\w'=w:=by
 rcases hi with G | ⟨ab,Q,rfl,C,q,J,r⟩
 ·have H:Hid (AP F i):=Zz fun k R=>by omega
  have I:((F.an i:Nat):Int)<=0:=by omega
  clear G
  go_enter func219,ntmps219
  go_wp2_with fail
  go_loop [5,10] (fun l k=>k= .int .i64 0/\l= .int .i64 (-1)) (fun _ _=>0)
  case atStart=>exact⟨rfl,rfl⟩
  case round =>
   obtain⟨rfl,rfl⟩:=hrel;go_wp2_with fail
   go_ret
   exact⟨rb (Gp H.o).symm,rfl⟩
 ·unfold maxLen at q
  go_enter func219,ntmps219
  go_wp2_with fail
  go_loop [5,10] (fun l k=>∃(m:Nat) (x:Int),m<=F.an i/\k= .int .i64 m/\l= .int .i64 x/\(∀j,j<m->CS F i j)/\ -1<=x/\x<F.n/\(m=0->x= -1)/\(∀p,m=p+1->x=F.af i p)) (fun _ k=>F.an i - (intOf k).toNat)
  case atStart=>exact⟨0,-1,by omega,rfl,rfl,fun j D=>by omega,by omega,by omega,fun _=>rfl,fun p hp=>by omega⟩
  case round =>
   obtain⟨m,x,hm,rfl,rfl,g,N,O,v,y⟩:=hrel;have B:=Zz g;have E:=Zz v;have A:=Zz y;clear g v y;by_cases u:m<F.an i
   ·have T:=r m u
    by_cases b:CS F i m
    ·have s:x+1<=F.af i m/\F.af i m<=(F.n:Int) - 1:=by
      obtain⟨q1,S,P⟩:=b;refine⟨?_,by omega⟩
      cases m with
      | zero=>have:=E.o rfl;omega
      | succ p=>have:=A.o p rfl;have:=P (by omega);simp at this;omega
     have s0:=Zcn s.1 s.2
     have t:Hid (∀j,j<m+1->CS F i j):=Zz fun j D=>by
      by_cases z:j<m
      ·exact B.o j z
      ·obtain rfl:j=m:=by omega
       exact b
     have K:0<=F.af i m:=b.1;have L:F.af i m<F.n:=b.2.1;clear s b;go_wp2_with (go_at_call 216;refine (DV _ _ _ _).mono ?_;rintro e w' ⟨rfl,rfl⟩)
     go_round
     case rel=>exact⟨m+1,F.af i m,by omega,by go_num,rfl,t.o,by omega,by omega,by omega,fun p hp=>(congrArg (F.af i) (show m=p by omega))⟩
     case measure=>simp[intOf];omega
    ·have s:F.af i m<x+1\/(F.n:Int) - 1<F.af i m:=by
      apply Classical.byContradiction
      intro M
      apply b
      refine⟨by omega,by omega,fun hp=> ?_⟩;obtain⟨p,rfl⟩:∃p,m=p+1:=⟨m - 1,by omega⟩;have:=A.o p rfl;simp;omega
     have s0:=Ue s;have t:Hid (¬AP F i):=Zz fun h=>b (h m u);clear s b;go_wp2_with (go_at_call 216;refine (DV _ _ _ _).mono ?_;rintro e w' ⟨rfl,rfl⟩)
     go_ret
     exact⟨rb (Kr t.o).symm,rfl⟩
   ·have t:Hid (AP F i):=Zz fun j D=>B.o j (by omega)
    go_wp2_with fail
    go_ret
    exact⟨rb (Gp t.o).symm,rfl⟩
def Ba (w:World)(q:Nat)(x y:Int):Prop:=w.cell? ⟨q,0,none⟩=some (.int .i64 x)/\w.cell? ⟨q,1,none⟩=some (.int .i64 y)
theorem Of (w:World)(x y:Int)(t:TypeId):Ba (w.alloc (.cells #[.int .i64 x, .int .i64 y] t)) w.heap.size x y:=⟨by simp,by simp⟩
theorem Ba.Aj {w w':World}{q:Nat}{x y:Int}(h:Ba w q x y)(b:q<w.heap.size)(a:Below w.heap.size w w'):Ba w' q x y :=
 ⟨(a.cell (p:=⟨q,0,none⟩) b).trans h.1,(a.cell (p:=⟨q,1,none⟩) b).trans h.2⟩
theorem DG (x y:Int)(w:World) :
  Calls prog 217 #[.int .i64 x, .int .i64 y] w fun r w'=>∃q:Nat,r= .returned (.iface 172 (.pointer (some ⟨q,0,none⟩)))/\w.heap.size<=q/\q<w'.heap.size/\Ba w' q x y/\Below w.heap.size w w':=by
 go_enter func217,ntmps217
 go_wp2
 go_ret
 exact⟨_,rfl,Zx _,by simp,Of _ _ _ _,(Zk _ _).alloc (Zx _) _⟩
open Go.RowKit
def Zer (p i:Nat):Bool:= !p.testBit i
theorem VG (p i:Nat)(hp:p<4096):(bits BinOp.and IntKind.u64 ((p:Int) / 2 ^ i) 1 == 0)=Zer p i:=by
 have b:((p:Int) / 2 ^ i)=((p / 2 ^ i:Nat):Int):=by simp
 have c:p / 2 ^ i<18446744073709551616:=by have:=Nat.div_le_self p (2 ^ i);omega
 rw[b,show (1:Int)=((1:Nat):Int) from rfl,bits_and_u64_nat _ _ c (by decide),Nat.and_one_is_mod];unfold Zer;rw[Nat.testBit_eq_decide_div_mod_eq];have a:p / 2 ^ i % 2=0\/p / 2 ^ i % 2=1:=by omega
 rcases a with a | a<;>simp[a]
theorem EU (p:Nat)(i:Int)(pb:Nat)(w:World)(a:0<=i)(hi:i<12)(hp:p<4096)(b:w.cell? ⟨pb,0,none⟩=some (.int .u64 p)) :
  Calls prog 270 #[.int .i64 i, .pointer (some ⟨pb,0,none⟩)] w fun e w'=>e= .returned (.bool (Zer p i.toNat))/\w'=w:=by
 obtain⟨j,rfl⟩:=Int.eq_ofNat_of_zero_le a
 go_enter func270,ntmps270
 go_wp2
 go_ret
 exact⟨rb (VG p j hp),rfl⟩
noncomputable def Hu (p n:Nat)(f:Nat->Int):Bool:=@decide (∃k,k<n/\Zer p (f k).toNat=true) (Classical.propDecidable _)
theorem Uy {p n:Nat}(k:Nat)(a:k<n)(h:Zer p (f k).toNat=true):Hu p n f=true:=@decide_eq_true (∃k,k<n/\Zer p (f k).toNat=true) (Classical.propDecidable _) ⟨k,a,h⟩
theorem PG {p n:Nat}(h:∀k,k<n->Zer p (f k).toNat=false):Hu p n f=false :=
 @decide_eq_false (∃k,k<n/\Zer p (f k).toNat=true) (Classical.propDecidable _) (fun ⟨k,b,a⟩=>by rw[h k b] at a;cases a)
theorem Ux {p n:Nat}(h:Hu p n f=false):∀k,k<n->Zer p (f k).toNat=false:=by
 intro k a
 cases hl:Zer p (f k).toNat with
 | false=>rfl
 | true=>rw[Uy k a hl] at h;cases h
theorem Tf (p pb n cap:Nat)(a:Option Addr)(f:Nat->Int)(w:World)(hp:p<4096)(s:w.cell? ⟨pb,0,none⟩=some (.int .u64 p))(hi:Cz w a n cap f)(hf:∀k,k<n->0<=f k/\f k<12) :
  Calls prog 255 #[.slice a n cap, .func (.func 270) #[] #[.pointer (some ⟨pb,0,none⟩)]] w fun e w'=>∃r:Int,e= .returned (.int .i64 r)/\((0<=r/\Hu p n f=true)\/(r<0/\Hu p n f=false))/\w'=w:=by
 rcases hi with u | ⟨ab,z,rfl,t,c,v,g⟩
 ·subst u
  have H:Hid (Hu p 0 f=false):=Zz (PG fun k y=>by omega)
  go_enter func255,ntmps255
  go_wp2_with fail
  go_loop [8] (fun k=>k= .int .i64 0) (fun _=>0)
  case atStart=>rfl
  case round =>
   obtain rfl:=hrel;go_wp2_with fail
   go_ret
   exact⟨-1,rfl,Zj ⟨by omega,H.o⟩,rfl⟩
 ·unfold maxLen at c
  go_enter func255,ntmps255
  go_wp2_with fail
  go_loop [8] (fun k=>∃m:Nat,m<=n/\k= .int .i64 m/\(∀j,j<m->Zer p (f j).toNat=false)) (fun k=>n - (intOf k).toNat)
  case atStart=>exact⟨0,by omega,rfl,fun j x=>by omega⟩
  case round =>
   obtain⟨m,hm,rfl,b⟩:=hrel;have q:=Zz b;clear b;by_cases h:m<n
   ·have A:=g m h
    obtain⟨B,C⟩:=hf m h
    cases hl:Zer p (f m).toNat with
    | true =>
     have H:Hid (Hu p n f=true):=Zz (Uy m h hl);go_wp2_with (go_at_call 270;refine (EU p _ pb _ (by assumption) (by assumption) hp s).mono ?_;rintro e w' ⟨rfl,rfl⟩)
     go_ret
     exact⟨m,rfl,Zu ⟨by omega,H.o⟩,rfl⟩
    | false =>
     have H:Hid (∀j,j<m+1->Zer p (f j).toNat=false):=Zz fun j x=>by
      by_cases l:j<m
      ·exact q.o j l
      ·obtain rfl:j=m:=by omega
       exact hl
     go_wp2_with (go_at_call 270;refine (EU p _ pb _ (by assumption) (by assumption) hp s).mono ?_;rintro e w' ⟨rfl,rfl⟩)
     go_round
     case rel=>exact⟨m+1,by omega,by go_num,H.o⟩
     case measure=>simp[intOf];omega
   ·have H:Hid (Hu p n f=false):=Zz (PG fun k y=>q.o k (by omega))
    go_wp2_with fail
    go_ret
    exact⟨-1,rfl,Zj ⟨by omega,H.o⟩,rfl⟩
theorem GC (p pb n cap:Nat)(a:Option Addr)(f:Nat->Int)(w:World)(hp:p<4096)(g:w.cell? ⟨pb,0,none⟩=some (.int .u64 p))(hi:Cz w a n cap f)(hf:∀k,k<n->0<=f k/\f k<12) :
  Calls prog 186 #[.slice a n cap, .func (.func 270) #[] #[.pointer (some ⟨pb,0,none⟩)]] w fun e w'=>e= .returned (.bool (Hu p n f))/\w'=w:=by
 go_enter func186,ntmps186
 go_wp2_with fail
 refine (Tf p pb n cap a f w hp g hi hf).mono ?_;rintro e w' ⟨r,rfl,h,rfl⟩;rcases h with⟨c,b⟩ | ⟨c,b⟩
 ·have H:=Zz b
  clear b;go_wp2_with fail
  go_ret
  exact⟨rb H.o.symm,rfl⟩
 ·have H:=Zz b
  clear b;go_wp2_with fail
  go_ret
  exact⟨rb (by rw[H.o];exact decide_eq_false (by omega)),rfl⟩
structure Hq (F:Ad)(k:Nat)(time timers tok:Int)(s:AM):Prop where
 XI:1<=s.st
 ZO:s.st<=7
 tr0:0<=s.tries
 trB:s.tries<=F.bu k
 wait:s.st=1->s.tries=0
 more:s.st=2\/s.st=4->s.tries<F.bu k
 once:s.st=3\/s.st=4->1<=s.tries
 dead:s.st=6->s.tries=F.bu k
 tok0:0<=s.tok
 tokB:s.tok<=tok
 fin0:0<=s.fin
 finB:s.fin<=4611686018427387904
 sign0:0<=s.sign
 signB:s.sign<=4611686018427387904
 MA:s.st=3\/s.st=4->time<=s.fin
 KK:s.st=3->0<s.sign->time<=s.sign
 BZ:s.st=3->(0<s.sign↔0<F.be k)
 UY:0<=s.BN
 faB:s.BN<=timers
 sa0:0<=s.Bc
 saB:s.Bc<=timers
theorem Hq.mono {time timers tok a b:Int}{s:AM}(h:Hq F k time timers tok s)(c:timers<=a)(g:tok<=b):Hq F k time a b s :=
 { h with tokB:=Int.le_trans h.tokB g,faB:=Int.le_trans h.faB c,saB:=Int.le_trans h.saB c }
structure Lr (time timers tok ends:Int)(r:Ag):Prop where
 fl:BQ r.fl
 len:r.steps.length=r.fl.n
 XI:1<=r.st
 ZO:r.st<=5
 goes:r.st=1↔r.ended=0
 XH:0<=r.ended
 enB:r.ended<=ends
 till0:0<=r.BP
 Xi:r.BP<=4611686018427387904
 Xj:r.st=1->time<=r.BP
 ta0:0<=r.Cs
 taB:r.Cs<=timers
 steps:∀k,k<r.steps.length->Hq r.fl k time timers tok (r.at_ k)
 over:r.st≠1->∀k,k<r.steps.length->(r.at_ k).st=5\/(r.at_ k).st=6\/(r.at_ k).st=7
theorem Lr.mono {time timers tok ends a c b:Int}{r:Ag}(h:Lr time timers tok ends r)(g:timers<=a)(l:tok<=c)(m:ends<=b):Lr time a c b r :=
 { h with enB:=Int.le_trans h.enB m,taB:=Int.le_trans h.taB g,steps:=fun k n=>(h.steps k n).mono g l }
theorem Lr.IQ {time timers tok ends:Int}{r:Ag}(h:Lr time timers tok ends r):1<=r.steps.length/\r.steps.length<=12:=by
 rw[h.len];exact⟨h.fl.top.n1,h.fl.top.n2⟩
def QIn (e:Ab)(p:AZ):Prop:=∃i,i<e.runs.length/\(e.at_ i).id=p.run/\p.node<(e.at_ i).steps.length/\((e.at_ i).at_ p.node).st=2
structure Ao (e:Ab):Prop where
 t0:0<=e.time
 tB:e.time<=4611686018427387904
 tm0:0<=e.timers
 lr0:0<=e.Ah
 YO:0<=e.Ai
 XH:0<=e.ends
 WW:e.runs.length<=6
 up:∀i j,i<j->j<e.runs.length->(e.at_ i).id<(e.at_ j).id
 Ui:∀i,i<e.runs.length->1<=(e.at_ i).id
 RD:∀i,i<e.runs.length->(e.at_ i).id<=e.Ah
 runs:∀i,i<e.runs.length->Lr e.time e.timers e.Ai e.ends (e.at_ i)
 qn:e.queue.Nodup
 qm:∀p,p∈e.queue↔QIn e p
 sq:∀a∈e.AR,∀b∈e.AR,a.sq=b.sq->a=b
 en:∀i j,i<e.runs.length->j<e.runs.length->0<(e.at_ i).ended->(e.at_ i).ended=(e.at_ j).ended->i=j
theorem Ao.CA (h:Ao e)(hi:i<e.runs.length)(a:j<e.runs.length)(heq:(e.at_ i).id=(e.at_ j).id):i=j:=by
 rcases Nat.lt_trichotomy i j with g | g | g
 ·have:=h.up i j g a;omega
 ·exact g
 ·have:=h.up j i g hi;omega
def AM.due (s:AM)(sign:Bool)(tm sq:Int):Prop:=if sign then s.st=3/\0<s.sign/\tm=s.sign/\sq=s.Bc else (s.st=3\/s.st=4)/\tm=s.fin/\sq=s.BN
def BA (e:Ab)(d:CH):Prop :=
 d.i<e.runs.length/\(e.at_ d.i).st=1/\match d.k with
  | none=>d.sign=false/\d.tm=(e.at_ d.i).BP/\d.sq=(e.at_ d.i).Cs
  | some k=>k<(e.at_ d.i).steps.length/\((e.at_ d.i).at_ k).due d.sign d.tm d.sq
theorem RX {s:AM}:d∈s.AR i k↔d.i=i/\d.k=some k/\s.due d.sign d.tm d.sq:=by
 unfold AM.AR AM.due;rw[List.mem_append];constructor
 ·rintro (h | h)
  ·split at h
   ·rename_i b
    rw[List.mem_singleton] at h;subst h;exact⟨rfl,rfl,by simp only[Bool.false_eq_true,if_false];exact⟨b,trivial,trivial⟩⟩
   ·simp at h
  ·split at h
   ·rename_i b
    rw[List.mem_singleton] at h;subst h;exact⟨rfl,rfl,by simp only[if_true];exact⟨b.1,b.2,trivial,trivial⟩⟩
   ·simp at h
 ·obtain⟨o,dk,m,q,p⟩:=d
  rintro⟨g,l,a⟩;simp only at g l;subst g l
  cases m with
  | false =>
   simp only[Bool.false_eq_true,if_false] at a;obtain⟨c,rfl,rfl⟩:=a
   left;rw[if_pos c];simp
  | true =>
   simp only[if_true] at a;obtain⟨c,n,rfl,rfl⟩:=a
   right;rw[if_pos ⟨c,n⟩];simp
theorem Zar :d∈e.AR↔BA e d:=by
 unfold Ab.AR BA;rw[List.mem_flatMap];constructor
 ·rintro⟨i,hi,h⟩
  have hi:=List.mem_range.1 hi;unfold Ag.AR at h
  split at h
  ·rename_i b
   rw[List.mem_cons] at h;rcases h with rfl | h
   ·exact⟨hi,b,rfl,rfl,rfl⟩
   ·obtain⟨k,a,h⟩:=List.mem_flatMap.1 h
    obtain⟨c,g,h⟩:=RX.1 h;subst c;rw[g];exact⟨hi,b,List.mem_range.1 a,h⟩
  ·simp at h
 ·rintro⟨hi,b,h⟩
  refine⟨d.i,List.mem_range.2 hi,?_⟩;unfold Ag.AR;rw[if_pos b,List.mem_cons]
  cases a:d.k with
  | none =>
   rw[a] at h
   left
   obtain⟨l,dk,n,o,m⟩:=d;simp only at a h ⊢;subst a;obtain⟨rfl,rfl,rfl⟩:=h
   rfl
  | some k =>
   rw[a] at h
   right
   exact List.mem_flatMap.2 ⟨k,List.mem_range.2 h.1,RX.2 ⟨rfl,a,h.2⟩⟩
theorem Ao.Cq (h:Ao e)(b:BA e d):d.sq<=e.timers/\e.time<=d.tm/\d.tm<=4611686018427387904:=by
 obtain⟨hi,q,b⟩:=b;have g:=h.runs _ hi
 cases p:d.k with
 | none =>
  rw[p] at b;obtain⟨_,l,a⟩:=b;rw[l,a];exact⟨g.taB,g.Xj q,g.Xi⟩
 | some k =>
  rw[p] at b;obtain⟨l,a⟩:=b;have c:=g.steps k l;unfold AM.due at a
  split at a
  ·obtain⟨m,r,n,o⟩:=a
   rw[n,o];exact⟨c.saB,c.KK m r,c.signB⟩
  ·obtain⟨m,n,o⟩:=a
   rw[n,o];exact⟨c.faB,c.MA m,c.finB⟩
theorem Zbo {f:AM->AM}(b:e'.runs=(e.Af i k f).runs)(a:j<e.runs.length):e'.at_ j=if i=j then (e.at_ j).Af k f else e.at_ j:=by
 have:=Zbr e i j (fun r=>r.Af k f) a;unfold Ab.at_ at this ⊢;rw[b];exact this
theorem Za7 {f:AM->AM}(a:e'.runs=(e.Af i k f).runs):e'.runs.length=e.runs.length:=by
 rw[a];exact Zbi _ _ _
theorem Zb9 {f:AM->AM}(b:e'.runs=(e.Af i k f).runs)(a:j<e.runs.length):(e'.at_ j).steps.length=(e.at_ j).steps.length:=by
 rw[Zbo b a];split
 ·exact Zal _ _ _
 ·rfl
theorem Zba {f:AM->AM}(b:e'.runs=(e.Af i k f).runs)(a:j<e.runs.length):(e'.at_ j).id=(e.at_ j).id/\(e'.at_ j).fl=(e.at_ j).fl/\(e'.at_ j).st=(e.at_ j).st/\(e'.at_ j).BP=(e.at_ j).BP/\(e'.at_ j).Cs=(e.at_ j).Cs/\(e'.at_ j).ended=(e.at_ j).ended:=by
 rw[Zbo b a];split<;>exact⟨rfl,rfl,rfl,rfl,rfl,rfl⟩
theorem Zel {f:AM->AM}(c:e'.runs=(e.Af i k f).runs)(b:k<(e.at_ i).steps.length){m:Nat}(a:j<e.runs.length)(hm:m<(e.at_ j).steps.length) :
  (e'.at_ j).at_ m=if i=j/\k=m then f ((e.at_ i).at_ k) else (e.at_ j).at_ m:=by
 rw[Zbo c a];by_cases h:i=j
 ·subst h
  rw[if_pos rfl];by_cases g:k=m
  ·subst g;rw[if_pos ⟨rfl,rfl⟩];exact Zbb _ _ b
  ·rw[if_neg (fun x=>g x.2)];exact Zbh _ _ g
 ·rw[if_neg h,if_neg (fun x=>h x.1)]
theorem QIn.step {f:AM->AM}(h:Ao e)(c:e'.runs=(e.Af i k f).runs)(hi:i<e.runs.length)(n:k<(e.at_ i).steps.length)(p:AZ) :
  QIn e' p↔(p=⟨(e.at_ i).id,k⟩/\(f ((e.at_ i).at_ k)).st=2)\/(p≠⟨(e.at_ i).id,k⟩/\QIn e p):=by
 have hl:=Za7 c;constructor
 ·rintro⟨j,a,b,l,g⟩
  rw[hl] at a;rw[Zb9 c a] at l;rw[(Zba c a).1] at b;rw[Zel c n a l] at g;by_cases m:i=j/\k=p.node
  ·rw[if_pos m] at g
   left
   refine⟨?_,g⟩;obtain⟨q,o⟩:=p;simp only at b m;obtain⟨rfl,rfl⟩:=m;rw[b]
  ·rw[if_neg m] at g
   right
   refine⟨fun hp=>m ?_,j,a,b,l,g⟩;subst hp;exact⟨h.CA hi a b.symm,rfl⟩
 ·rintro (⟨rfl,b⟩ | ⟨hp,j,a,b,l,g⟩)
  ·refine⟨i,by rw[hl];exact hi,(Zba c hi).1,by rw[Zb9 c hi];exact n,?_⟩
   rw[Zel c n hi n,if_pos ⟨rfl,rfl⟩];exact b
  ·refine⟨j,by rw[hl];exact a,by rw[(Zba c a).1];exact b,by rw[Zb9 c a];exact l,?_⟩
   rw[Zel c n a l,if_neg]
   ·exact g
   ·rintro⟨rfl,rfl⟩
    exact hp (by obtain⟨q,o⟩:=p;simp only at b ⊢;rw[b])
theorem BA.step {f:AM->AM}(n:e'.runs=(e.Af i k f).runs)(r:k<(e.at_ i).steps.length)(q:BA e' d) :
  (d.i=i/\d.k=some k/\(e.at_ i).st=1/\(f ((e.at_ i).at_ k)).due d.sign d.tm d.sq)\/(¬(d.i=i/\d.k=some k)/\BA e d):=by
 obtain⟨c,h,a⟩:=q;rw[Za7 n] at c;have o:=Zba n c;rw[o.2.2.1] at h
 cases b:d.k with
 | none =>
  rw[b] at a
  right
  refine⟨by simp,c,h,?_⟩;rw[b];rw[o.2.2.2.1,o.2.2.2.2.1] at a;exact a
 | some m =>
  rw[b] at a;simp only at a;rw[Zb9 n c] at a;rw[Zel n r c a.1] at a;by_cases l:i=d.i/\k=m
  ·rw[if_pos l] at a
   obtain⟨g,rfl⟩:=l
   left
   exact⟨g.symm,rfl,by rw[g];exact h,a.2⟩
  ·rw[if_neg l] at a
   right
   refine⟨fun p=>l ⟨p.1.symm,by simpa using p.2.symm⟩,c,h,?_⟩;rw[b];exact a
theorem Ao.step (h:Ao e)(hi:i<e.runs.length)(t:k<(e.at_ i).steps.length){f:AM->AM}(q:e'.runs=(e.Af i k f).runs)
  (ht:e'.time=e.time) (htm:e.timers<=e'.timers) (htok:e.Ai<=e'.Ai) (hen:e'.ends=e.ends) (hlr:e'.Ah=e.Ah)
  (hs:Hq (e.at_ i).fl k e.time e'.timers e'.Ai (f ((e.at_ i).at_ k)))
  (hov:(e.at_ i).st≠1->(f ((e.at_ i).at_ k)).st=5\/(f ((e.at_ i).at_ k)).st=6\/(f ((e.at_ i).at_ k)).st=7)
  (hqn:e'.queue.Nodup) (hqm:∀p,p∈e'.queue↔(p=⟨(e.at_ i).id,k⟩/\(f ((e.at_ i).at_ k)).st=2)\/(p≠⟨(e.at_ i).id,k⟩/\p∈e.queue))
  (hd:∀b tm sq,(f ((e.at_ i).at_ k)).due b tm sq->((e.at_ i).at_ k).due b tm sq\/e.timers<sq)
  (hd2:∀tm sq B u,(f ((e.at_ i).at_ k)).due false tm sq->(f ((e.at_ i).at_ k)).due true B u->sq≠u):Ao e':=by
 have hl:=Za7 q;have same:=fun j H=>Zba (e:=e) (e':=e') q (j:=j) H;refine⟨by rw[ht];exact h.t0,by rw[ht];exact h.tB,Int.le_trans h.tm0 htm,by rw[hlr];exact h.lr0,Int.le_trans h.YO htok,by rw[hen];exact h.XH,by rw[hl];exact h.WW,?_,?_,?_,?_,hqn,?_,?_,?_⟩
 ·intro a b l o
  rw[hl] at o;rw[(same a (by omega)).1,(same b o).1];exact h.up a b l o
 ·intro a g
  rw[hl] at g;rw[(same a g).1];exact h.Ui a g
 ·intro a g
  rw[hl] at g;rw[(same a g).1,hlr];exact h.RD a g
 ·intro a g
  rw[hl] at g;obtain⟨s1,s2,s3,z,E,A⟩:=same a g;have c:=(h.runs a g).mono htm htok (Int.le_refl e.ends);rw[ht,hen]
  refine⟨by rw[s2];exact c.fl,by rw[s2,Zb9 q g];exact c.len,by rw[s3];exact c.XI,by rw[s3];exact c.ZO,by rw[s3,A];exact c.goes,by rw[A];exact c.XH,by rw[A];exact c.enB,
   by rw[z];exact c.till0,by rw[z];exact c.Xi,by rw[s3,z];exact c.Xj,by rw[E];exact c.ta0,by rw[E];exact c.taB,?_,?_⟩
  ·intro m hm
   rw[Zb9 q g] at hm;rw[Zel q t g hm,s2];by_cases s:i=a/\k=m
   ·rw[if_pos s]
    obtain⟨rfl,rfl⟩:=s;exact hs
   ·rw[if_neg s];exact c.steps m hm
  ·intro y m hm
   rw[s3] at y;rw[Zb9 q g] at hm;rw[Zel q t g hm];by_cases s:i=a/\k=m
   ·rw[if_pos s]
    obtain⟨rfl,rfl⟩:=s;exact hov y
   ·rw[if_neg s];exact c.over y m hm
 ·intro p
  rw[hqm p,QIn.step h q hi t p,h.qm p]
 ·intro a g b o l
  rw[Zar] at g o
  have key:∀{x:CH},x.i=i->x.k=some k->(e.at_ i).st=1->(f ((e.at_ i).at_ k)).due x.sign x.tm x.sq->BA e x\/e.timers<x.sq:=by
   intro x C I J K;rcases hd _ _ _ K with D | D
   ·left
    refine⟨by rw[C];exact hi,by rw[C];exact J,?_⟩;rw[I,C];exact⟨t,D⟩
   ·exact Zj D
  rcases BA.step q t g with⟨a1,a2,a3,a4⟩ | ⟨a0,a1⟩<;>rcases BA.step q t o with⟨r,w,G,n⟩ | ⟨O,r⟩
  ·obtain⟨L,M,v,at',N⟩:=a
   obtain⟨bi,P,bs,R,Q⟩:=b;simp only at a1 a2 a4 r w n l;subst a1 a2 r w l
   cases v<;>cases bs
   ·unfold AM.due at a4 n
    simp only[Bool.false_eq_true,if_false] at a4 n;rw[a4.2.1,n.2.1]
   ·exact absurd rfl (hd2 _ _ _ _ a4 n)
   ·exact absurd rfl (hd2 _ _ _ _ n a4)
   ·unfold AM.due at a4 n
    simp only[if_true] at a4 n;rw[a4.2.2.1,n.2.2.1]
  ·rcases key a1 a2 a3 a4 with x | x
   ·exact h.sq a (Zar.2 x) b (Zar.2 r) l
   ·have:=(h.Cq r).1;omega
  ·rcases key r w G n with x | x
   ·exact h.sq a (Zar.2 a1) b (Zar.2 x) l
   ·have:=(h.Cq a1).1;omega
  ·exact h.sq a (Zar.2 a1) b (Zar.2 r) l
 ·intro a b g o
  rw[hl] at g o;rw[(same a g).2.2.2.2.2,(same b o).2.2.2.2.2];exact h.en a b g o
theorem Ao.notin (h:Ao e)(hi:i<e.runs.length)(a:((e.at_ i).at_ k).st≠2):(⟨(e.at_ i).id,k⟩:AZ) ∉ e.queue:=by
 intro hp;obtain⟨j,b,c,_,g⟩:=(h.qm _).1 hp;have:=h.CA b hi c;subst this;exact a g
theorem Ao.calm (h:Ao e)(hi:i<e.runs.length)(g:k<(e.at_ i).steps.length){f:AM->AM}(l:e'.runs=(e.Af i k f).runs)
  (ht:e'.time=e.time) (htm:e.timers<=e'.timers) (htok:e.Ai<=e'.Ai) (hen:e'.ends=e.ends) (hlr:e'.Ah=e.Ah)
  (hs:Hq (e.at_ i).fl k e.time e'.timers e'.Ai (f ((e.at_ i).at_ k)))
  (hov:(e.at_ i).st≠1->(f ((e.at_ i).at_ k)).st=5\/(f ((e.at_ i).at_ k)).st=6\/(f ((e.at_ i).at_ k)).st=7)
  (h2:((e.at_ i).at_ k).st≠2) (h3:(f ((e.at_ i).at_ k)).st≠2) (hq:e'.queue=e.queue)
  (hd:∀b tm sq,(f ((e.at_ i).at_ k)).due b tm sq->((e.at_ i).at_ k).due b tm sq\/e.timers<sq)
  (hd2:∀tm sq c a,(f ((e.at_ i).at_ k)).due false tm sq->(f ((e.at_ i).at_ k)).due true c a->sq≠a):Ao e':=by
 have hn:=h.notin hi h2;refine h.step hi g l ht htm htok hen hlr hs hov (by rw[hq];exact h.qn) (fun p=> ?_) hd hd2;rw[hq];constructor
 ·intro hp
  exact Zj ⟨fun x=>hn (x▸hp),hp⟩
 ·rintro (⟨_,x⟩ | ⟨_,x⟩)
  ·exact absurd x h3
  ·exact x
theorem GY {s:AM}(a:s.st≠3)(c:s.st≠4){b:Bool}{tm sq:Int}:¬s.due b tm sq:=by
 unfold AM.due;intro h
 split at h
 ·exact a h.1
 ·rcases h.1 with x | x
  ·exact a x
  ·exact c x
structure FJ (e e':Ab)(i:Nat):Prop where
 time:e'.time=e.time
 At:e'.At=e.At
 Ah:e'.Ah=e.Ah
 Ai:e'.Ai=e.Ai
 timers:e'.timers=e.timers
 ends:e'.ends=e.ends
 len:e'.runs.length=e.runs.length
 others:∀j,j<e.runs.length->j≠i->e'.at_ j=e.at_ j
 id:(e'.at_ i).id=(e.at_ i).id
 fl:(e'.at_ i).fl=(e.at_ i).fl
 st:(e'.at_ i).st=(e.at_ i).st
 steps:(e'.at_ i).steps.length=(e.at_ i).steps.length
theorem FJ.refl (e:Ab)(i:Nat):FJ e e i:=⟨rfl,rfl,rfl,rfl,rfl,rfl,rfl,fun _ _ _=>rfl,rfl,rfl,rfl,rfl⟩
theorem FJ.trans {a b c:Ab}(h:FJ a b i)(g:FJ b c i):FJ a c i :=
 ⟨g.time.trans h.time,g.At.trans h.At,g.Ah.trans h.Ah,g.Ai.trans h.Ai,g.timers.trans h.timers,g.ends.trans h.ends,g.len.trans h.len,
  fun j l hn=>(g.others j (by rw[h.len];exact l) hn).trans (h.others j l hn),g.id.trans h.id,g.fl.trans h.fl,g.st.trans h.st,g.steps.trans h.steps⟩
theorem FJ.Af (e:Ab)(k:Nat)(f:AM->AM)(q:List AZ)(hi:i<e.runs.length):FJ e { e.Af i k f with queue:=q } i:=by
 have a:({ e.Af i k f with queue:=q }:Ab).runs=(e.Af i k f).runs:=rfl;obtain⟨s1,s2,s3,_,_,_⟩:=Zba a hi;refine⟨rfl,rfl,rfl,rfl,rfl,rfl,Za7 a,fun j b hn=> ?_,s1,s2,s3,Zb9 a hi⟩;rw[Zbo a b,if_neg (fun x=>hn x.symm)]
theorem Ao.ready (h:Ao e)(hi:i<e.runs.length)(m:k<(e.at_ i).steps.length)(n:(e.at_ i).st=1)(r:((e.at_ i).at_ k).st=1\/((e.at_ i).at_ k).st=4):Ao (e.ready i k):=by
 have hn:=h.notin hi (k:=k) (by omega);have c:=(h.runs i hi).steps k m;have q:=(h.runs i hi).fl.node k (by rw[<-(h.runs i hi).len];exact m);refine h.step hi m (f:=fun s=>{ s with st:=2 }) rfl rfl (Int.le_refl _) (Int.le_refl _) rfl rfl ?_ (fun x=>absurd n x) ?_ ?_ (fun b tm sq x=>absurd x (GY (by simp) (by simp))) (fun _ _ _ _ x=>absurd x (GY (by simp) (by simp)))
 ·refine { c with XI:=by simp,ZO:=by simp,wait:=fun x=>by simp at x,more:=fun _=> ?_,once:=fun x=>by simp at x,dead:=fun x=>by simp at x,MA:=fun x=>by simp at x,KK:=fun x=>by simp at x,BZ:=fun x=>by simp at x }
  show ((e.at_ i).at_ k).tries<_;rcases r with x | x
  ·have:=c.wait x;have:=q.bu1;omega
  ·exact c.more (Zj x)
 ·show (e.queue++_).Nodup
  rw[List.nodup_append];refine⟨h.qn,by simp,?_⟩;intro a o b g l;simp only[List.mem_singleton] at g;subst g l;exact hn o
 ·intro p
  show p∈e.queue++_↔_;rw[List.mem_append,List.mem_singleton];constructor
  ·rintro (x | x)
   ·exact Zj ⟨fun y=>hn (y▸x),x⟩
   ·exact Zu ⟨x,rfl⟩
  ·rintro (⟨x,_⟩ | ⟨_,x⟩)
   ·exact Zj x
   ·exact Zu x
theorem FJ.ready (e:Ab)(k:Nat)(hi:i<e.runs.length):FJ e (e.ready i k) i:=FJ.Af e k _ _ hi
theorem Iw (i:Nat):∀(L:List Nat) (e:Ab),Ao e->i<e.runs.length->(e.at_ i).st=1->(∀k∈L,k<(e.at_ i).steps.length) ->
  Ao (L.foldl (fun e k=>if (e.at_ i).free k then e.ready i k else e) e)/\FJ e (L.foldl (fun e k=>if (e.at_ i).free k then e.ready i k else e) e) i
 | [],e,h,_,_,_=>⟨h, .refl e i⟩
 | k::L,e,h,hi,h1,hl=>by
  rw[List.foldl_cons];have b:=hl k (List.mem_cons_self ..)
  cases hf:(e.at_ i).free k with
  | false =>
   rw[if_neg (by simp)];exact Iw i L e h hi h1 (fun k h=>hl k (List.mem_cons_of_mem _ h))
  | true =>
   rw[if_pos rfl];have a:=FJ.ready e k hi;obtain⟨g1,g2⟩:=Iw i L (e.ready i k) (h.ready hi b h1 (Zu (EO hf))) (by rw[a.len];exact hi) (by rw[a.st];exact h1) (fun k h=>by rw[a.steps];exact hl k (List.mem_cons_of_mem _ h));exact⟨g1,a.trans g2⟩
theorem Ao.Bl (h:Ao e)(hi:i<e.runs.length)(a:(e.at_ i).st=1):Ao (e.Bl i)/\FJ e (e.Bl i) i :=
 Iw i _ e h hi a (fun _ b=>List.mem_range.1 b)
theorem Ho (i:Nat):∀(L:List Nat) (e:Ab),i<e.runs.length->(∀k∈L,k<(e.at_ i).steps.length)->∀m,m<(e.at_ i).steps.length ->
  let b:=L.foldl (fun e k=>e.ready i k) e
  (b.at_ i).at_ m=if m∈L then { (e.at_ i).at_ m with st:=2 } else (e.at_ i).at_ m
 | [],e,_,_,m,_=>by simp
 | k::L,e,hi,hl,m,hm=>by
  have a:=FJ.ready e k hi;have g:=Ho i L (e.ready i k) (by rw[a.len];exact hi) (fun x h=>by rw[a.steps];exact hl x (List.mem_cons_of_mem _ h)) m (by rw[a.steps];exact hm);simp only[List.foldl_cons] at g ⊢;rw[g,DQ e i k hi];by_cases c:k=m
  ·subst c
   rw[Zbb _ _ hm];simp
  ·rw[Zbh _ _ c]
   have:m∈k::L↔m∈L:=by rw[List.mem_cons];exact⟨fun x=>x.resolve_left (fun y=>c y.symm),Zj⟩
   by_cases b:m∈L
   ·rw[if_pos b,if_pos (this.2 b)]
   ·rw[if_neg b,if_neg (fun x=>b (this.1 x))]
theorem Hn (hi:i<e.runs.length){m:Nat}(hm:m<(e.at_ i).steps.length) :
  ((e.Bl i).at_ i).at_ m=if (e.at_ i).free m then { (e.at_ i).at_ m with st:=2 } else (e.at_ i).at_ m:=by
 rw[JF e i hi];have:=Ho i ((List.range (e.at_ i).steps.length).filter (fun k=>(e.at_ i).free k)) e hi (fun k a=>List.mem_range.1 (List.mem_filter.1 a).1) m hm;simp only at this;rw[this];by_cases hf:(e.at_ i).free m=true
 ·rw[if_pos (List.mem_filter.2 ⟨List.mem_range.2 hm,hf⟩),if_pos hf]
 ·rw[if_neg (fun x=>hf (List.mem_filter.1 x).2),if_neg hf]
theorem Ao.over (h:Ao e)(hi:i<e.runs.length)(g:k<(e.at_ i).steps.length)(st:Int)(c:st=5\/st=6\/st=7)(l:((e.at_ i).at_ k).st≠2)(m:st=6->((e.at_ i).at_ k).tries=(e.at_ i).fl.bu k) :
  Ao (e.Af i k (fun s=>{ s with st:=st })):=by
 have a:=(h.runs i hi).steps k g;refine h.calm hi g (f:=fun s=>{ s with st:=st }) rfl rfl (Int.le_refl _) (Int.le_refl _) rfl rfl ?_ (fun _=>c) l (by show st≠2;omega) rfl (fun b tm sq x=>absurd x (GY (by show st≠3;omega) (by show st≠4;omega))) (fun _ _ _ _ x=>absurd x (GY (by show st≠3;omega) (by show st≠4;omega)));exact { a with XI:=by show 1<=st;omega,ZO:=by show st<=7;omega,wait:=fun x=>by replace x:st=1:=x;omega,more:=fun x=>by replace x:st=2\/st=4:=x;omega,once:=fun x=>by replace x:st=3\/st=4:=x;omega,dead:=m,MA:=fun x=>by replace x:st=3\/st=4:=x;omega,KK:=fun x=>by replace x:st=3:=x;omega,BZ:=fun x=>by replace x:st=3:=x;omega }
theorem QE :e.AG i (fun _=>e.at_ i)=e:=by
 unfold Ab.AG Ab.at_
 have:e.runs.modify i (fun _=>e.runs.getD i .z)=e.runs:=by
  apply List.ext_getElem (by simp)
  intro j c a;rw[List.getElem_modify]
  split
  ·rename_i b;subst b;rw[ZQ,ZZ a];rfl
  ·rfl
 rw[this]
theorem Zep (e:Ab)(i:Nat)(f g:Ag->Ag):(e.AG i f).AG i g=e.AG i (fun r=>g (f r)):=by
 unfold Ab.AG;simp only[List.modify_modify_eq]
 rfl
theorem IU (e:Ab)(i:Nat)(f:Ag->Ag):e.AG i f=e.AG i (fun _=>f (e.at_ i)):=by
 unfold Ab.AG Ab.at_
 congr 1
 apply List.ext_getElem (by simp)
 intro j a c;rw[List.getElem_modify,List.getElem_modify]
 split
 ·rename_i b;subst b
  rw[ZQ,ZZ (by simpa using a)];rfl
 ·rfl
theorem Es.wk {r r2:Ag}(h:Es r r2):∀{e:Ab} {i:Nat},Ao e->i<e.runs.length->e.at_ i=r->Ao (e.AG i (fun _=>r2)):=by
 induction h with
 | refl r=>intro e i h hi a;subst a;rw[QE];exact h
 | step r r2 k c g _ l =>
  intro e i h hi a;subst a;have hw:=h.over hi c 7 (by omega) (by have:=EV g;omega) (by omega);have a:(e.Af i k (fun s=>{ s with st:=7 })).runs=(e.Af i k JC).runs:=rfl;have b:=Zbo (e':=e.Af i k (fun s=>{ s with st:=7 })) a hi;rw[if_pos rfl] at b;have:=l hw (by rw[Za7 a];exact hi) b;unfold Ab.Af at this;rw[Zep] at this;exact this
theorem Es.same {a b:Ag}(h:Es a b):b.id=a.id/\b.fl=a.fl/\b.st=a.st/\b.BP=a.BP/\b.Cs=a.Cs/\b.ended=a.ended:=by
 induction h with
 | refl=>exact⟨rfl,rfl,rfl,rfl,rfl,rfl⟩
 | step r r2 k _ _ _ c=>exact c
def DE (s:AM):AM:=if s.st=5\/s.st=6 then s else { s with st:=7 }
def Zd2 (st ends:Int)(r:Ag):Ag:={ r with st:=st,ended:=ends+1,steps:=r.steps.map DE }
theorem Zei (e:Ab)(i:Nat)(st:Int)(a:j<e.runs.length):(e.end_ i st).at_ j=if i=j then Zd2 st e.ends (e.at_ j) else e.at_ j:=Zbr e i j _ a
theorem Zd8 (e:Ab)(i:Nat)(st:Int):(e.end_ i st).runs.length=e.runs.length:=Zbi e i _
theorem Zb8 (st ends:Int)(r:Ag)(a:k<r.steps.length):(Zd2 st ends r).at_ k=DE (r.at_ k):=by
 unfold Ag.at_ Zd2;simp only[ZQ,List.getElem?_map,ZZ a,Option.map_some,Option.getD_some]
theorem JL (s:AM):(DE s).st=5\/(DE s).st=6\/(DE s).st=7:=by
 unfold DE;split
 ·rename_i h;omega
 ·exact Zj (Zj rfl)
theorem Zbe (st ends:Int)(r:Ag):(Zd2 st ends r).steps.length=r.steps.length:=by unfold Zd2;simp
theorem Ao.end_ (h:Ao e)(hi:i<e.runs.length)(D:(e.at_ i).st=1)(st:Int)(B:2<=st/\st<=5):Ao (e.end_ i st):=by
 have hl:=Zd8 e i st;have l:=fun j w=>Zei e i st (j:=j) w;have A:=h.runs i hi;have H:=A.goes.1 D;have v:=h.XH;have o:∀j,j<e.runs.length->((e.end_ i st).at_ j).id=(e.at_ j).id:=fun j w=>by rw[l j w];split<;>rfl
 refine⟨h.t0,h.tB,h.tm0,h.lr0,h.YO,(by show 0<=e.ends+1;omega),by rw[hl];exact h.WW,?_,?_,?_,?_,h.qn.filter _,?_,?_,?_⟩
 ·intro a b r n
  rw[hl] at n;rw[o a (by omega),o b n];exact h.up a b r n
 ·intro a c
  rw[hl] at c;rw[o a c];exact h.Ui a c
 ·intro a c
  rw[hl] at c;rw[o a c];exact h.RD a c
 ·intro a c
  rw[hl] at c;rw[l a c];have g:=(h.runs a c).mono (Int.le_refl e.timers) (Int.le_refl e.Ai) (show e.ends<=e.ends+1 by omega)
  split
  ·rename_i I
   subst I;refine⟨g.fl,by rw[Zbe];exact g.len,by show 1<=st;omega,B.2,?_,by show 0<=e.ends+1;omega,Int.le_refl _,g.till0,g.Xi,fun x=>by replace x:st=1:=x;omega,g.ta0,g.taB,?_,?_⟩
   ·show st=1↔e.ends+1=0
    omega
   ·intro k s
    rw[Zbe] at s;rw[Zb8 _ _ _ s];have t:=g.steps k s;unfold DE
    split
    ·exact t
    ·exact { t with XI:=by simp,ZO:=by simp,wait:=fun x=>by simp at x,more:=fun x=>by simp at x,once:=fun x=>by simp at x,dead:=fun x=>by simp at x,MA:=fun x=>by simp at x,KK:=fun x=>by simp at x,BZ:=fun x=>by simp at x }
   ·intro _ k s
    rw[Zbe] at s;rw[Zb8 _ _ _ s];exact JL _
  ·exact g
 ·intro p
  show p∈e.queue.filter _↔_;rw[List.mem_filter,h.qm p];constructor
  ·rintro⟨⟨j,q1,q,u,C⟩,J⟩
   have z:i≠j:=fun x=>by subst x;simp[q] at J
   refine⟨j,by rw[hl];exact q1,?_⟩;rw[l j q1,if_neg z];exact⟨q,u,C⟩
  ·rintro⟨j,q1,q⟩
   rw[hl] at q1;rw[l j q1] at q;by_cases m:i=j
   ·subst m
    rw[if_pos rfl] at q;obtain⟨_,u,C⟩:=q;rw[Zbe] at u;rw[Zb8 _ _ _ u] at C;have:=JL ((e.at_ i).at_ p.node);omega
   ·rw[if_neg m] at q
    refine⟨⟨j,q1,q⟩,?_⟩;have:p.run≠(e.at_ i).id:=fun x=>m (h.CA hi q1 (by rw[q.1,x]))
    simpa using this
 ·have key:∀d,BA (e.end_ i st) d->BA e d:=by
   rintro d ⟨d1,d2,d3⟩;rw[hl] at d1;rw[l _ d1] at d2 d3;by_cases m:i=d.i
   ·rw[if_pos m] at d2
    replace d2:st=1:=d2
    omega
   ·rw[if_neg m] at d2 d3
    exact⟨d1,d2,d3⟩
  intro a c b n r;exact h.sq a (Zar.2 (key a (Zar.1 c))) b (Zar.2 (key b (Zar.1 n))) r
 ·intro a b c n
  rw[hl] at c n;rw[l a c,l b n];have E:=(h.runs a c).enB;have G:=(h.runs b n).enB;by_cases x:i=a<;>by_cases y:i=b
  ·intros;omega
  ·rw[if_pos x,if_neg y]
   show 0<e.ends+1->e.ends+1=_->_
   intros;omega
  ·rw[if_neg x,if_pos y]
   show _->_=e.ends+1->_
   intros;omega
  ·rw[if_neg x,if_neg y];exact h.en a b c n
end Go.Proofs.YtgdcjccbdmcebaaGreatDoor
