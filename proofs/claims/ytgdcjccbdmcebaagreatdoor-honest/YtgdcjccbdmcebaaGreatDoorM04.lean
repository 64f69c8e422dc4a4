import Derived.Test.YtgdcjccbdmcebaaGreatDoorM02
import Derived.Recover
import Derived.ScopeJumps
import Derived.WalkMore
set_option linter.all false
set_option maxHeartbeats 2000000
set_option maxRecDepth 100000
open Classical renaming not_forall->QEd,byContradiction->QEe,propDecidable->QEf
open Int renaming le_refl->QCm
open List renaming map_cons->QEg,sum_cons->QEh,mem_cons_self->QDa,getElem?_append_left->QBg,getElem?_append_right->QBe,length_take->QBf,findIdx?_eq_some_iff_getElem->QCz
namespace Go.Proofs.YtgdcjccbdmcebaaGreatDoor
open Tryz
open Go.RowKit
variable {i k o:Nat}{f:Nat->Int}{F:Ad}{t id:Int}
def Za0 (n lo hi:Int):Bool:=decide (lo<=n/\n<=hi)
theorem Zco {n lo hi:Int}(h:lo<=n)(a:n<=hi):Za0 n lo hi=true:=decide_eq_true ⟨h,a⟩
theorem TX {n lo hi:Int}(h:n<lo\/hi<n):Za0 n lo hi=false:=decide_eq_false (by omega)
theorem DU (n lo hi:Int)(w:World) :
  Calls prog 216 #[.int .i64 n,.int .i64 lo,.int .i64 hi] w fun e w'=>e=.returned (.bool (Za0 n lo hi))/\w'=w:=QW n lo hi w
open Classical in
noncomputable def GZ (F:Ad)(i:Nat):Bool:=decide (Be F i)
open Classical in
noncomputable def EY (F:Ad)(i:Nat):Bool:=decide (AN F i)
theorem LX (h:Be F i):GZ F i=true:=by unfold GZ;exact @decide_eq_true _ (QEf _) h
theorem LW (h:¬Be F i):GZ F i=false:=by unfold GZ;exact @decide_eq_false _ (QEf _) h
theorem Gn (h:AN F i):EY F i=true:=by unfold EY;exact @decide_eq_true _ (QEf _) h
theorem Kq (h:¬AN F i):EY F i=false:=by unfold EY;exact @decide_eq_false _ (QEf _) h
theorem EK (F:Ad)(i:Nat)(af:Value)(w:World) :
  Calls prog 218 #[ndV (F.bu i) (F.cl i) (F.be i) (F.ba i) (F.ca i) (F.ji i) af] w fun e w'=>e=.returned (.bool (GZ F i))/\ZY w w':=by
 by_cases a:Be F i
 .obtain⟨a1,a2,j,l,d1,d2,m,n,f1,f2,g1,g2⟩:=a
  have s0:=Zco a1 a2;have s1:=Zco j l;have s2:=Zco d1 d2;have s3:=Zco m n;have s:=Zco f1 f2;have u:=Zco g1 g2;have H:=Zz (show Be F i from⟨a1,a2,j,l,d1,d2,m,n,f1,f2,g1,g2⟩)
  go_enter func218,ntmps218
  go_wp2_with (go_at_call 216;refine (DU _ _ _ _).mono ?_;rintro e w' ⟨rfl,rfl⟩)
  go_ret
  exact⟨rb (LX H.o).symm,ZV.alloc ZU _⟩
 .have d:(Za0 (F.bu i) 1 5=false)\/(Za0 (F.bu i) 1 5=true/\Za0 (F.cl i) 1 1048576=false)\/(Za0 (F.bu i) 1 5=true/\Za0 (F.cl i) 1 1048576=true/\Za0 (F.be i) 0 1048576=false)
     \/ (Za0 (F.bu i) 1 5=true/\Za0 (F.cl i) 1 1048576=true/\Za0 (F.be i) 0 1048576=true/\Za0 (F.ba i) 1 1048576=false)
     \/ (Za0 (F.bu i) 1 5=true/\Za0 (F.cl i) 1 1048576=true/\Za0 (F.be i) 0 1048576=true/\Za0 (F.ba i) 1 1048576=true/\Za0 (F.ca i) (F.ba i) 1048576=false)
     \/ (Za0 (F.bu i) 1 5=true/\Za0 (F.cl i) 1 1048576=true/\Za0 (F.be i) 0 1048576=true/\Za0 (F.ba i) 1 1048576=true/\Za0 (F.ca i) (F.ba i) 1048576=true/\Za0 (F.ji i) 0 1048576=false):=by
   apply QEe
   intro b
   apply a
   unfold Za0 at b;simp only[decide_eq_true_eq,decide_eq_false_iff_not] at b;constructor<;>omega
  have H:=Zz a;clear a;rcases d with q1 | ⟨q1,c⟩ | ⟨q1,c,g⟩ | ⟨q1,c,g,p⟩ | ⟨q1,c,g,p,q⟩ | ⟨q1,c,g,p,q,r⟩
  all_goals
   go_enter func218,ntmps218
   go_wp2_with (go_at_call 216;refine (DU _ _ _ _).mono ?_;rintro e w' ⟨rfl,rfl⟩)
   go_ret
   exact⟨rb (LW H.o).symm,ZV.alloc ZU _⟩
theorem Kz (F:Ad)(i:Nat)(a:Option Addr)(c:Nat)(w:World)(hi:Cx w a (F.an i) c (F.af i))(hn:F.n<=12) :
  Calls prog 219 #[.slice a (F.an i) c,.int .i64 F.n] w fun e w'=>e=.returned (.bool (EY F i))/\w'=w:=by
 rcases hi with E | ⟨ab,P,rfl,B,g,I,q⟩
 .have H:Hid (AN F i):=Zz fun k hk=>by omega
  have G:((F.an i:Nat):Int)<=0:=by omega
  clear E
  go_enter func219,ntmps219
  go_wp2_with fail
  go_loop [5,10] (fun l k=>k=.int .i64 0/\l=.int .i64 (-1)) (fun _ _=>0)
  case atStart=>exact⟨rfl,rfl⟩
  case round =>
   obtain⟨rfl,rfl⟩:=hrel;go_wp2_with fail
   go_ret
   exact⟨rb (Gn H.o).symm,rfl⟩
 .unfold maxLen at g
  go_enter func219,ntmps219
  go_wp2_with fail
  go_loop [5,10] (fun l k=>∃(m:Nat) (x:Int),m<=F.an i/\k=.int .i64 m/\l=.int .i64 x/\(∀j,j<m->CS F i j)/\ -1<=x/\x<F.n/\(m=0->x= -1)/\(∀p,m=p+1->x=F.af i p)) (fun _ k=>F.an i - (intOf k).toNat)
  case atStart=>exact⟨0,-1,by omega,rfl,rfl,fun j C=>by omega,by omega,by omega,fun _=>rfl,fun p hp=>by omega⟩
  case round =>
   obtain⟨m,x,hm,rfl,rfl,d,M,N,u,v⟩:=hrel;have A:=Zz d;have D:=Zz u;have z:=Zz v;clear d u v;by_cases s:m<F.an i
   .have R:=q m s
    by_cases b:CS F i m
    .have hb:x+1<=F.af i m/\F.af i m<=(F.n:Int) - 1:=by
      obtain⟨q1,Q,O⟩:=b;refine⟨?_,by omega⟩
      cases m with
      | zero=>have:=D.o rfl;omega
      | succ p=>have:=z.o p rfl;have:=O (by omega);simp at this;omega
     have s0:=Zco hb.1 hb.2
     have r:Hid (∀j,j<m+1->CS F i j):=Zz fun j C=>by
      by_cases y:j<m
      .exact A.o j y
      .obtain rfl:j=m:=by omega
       exact b
     have J:0<=F.af i m:=b.1;have K:F.af i m<F.n:=b.2.1;clear hb b;go_wp2_with (go_at_call 216;refine (DU _ _ _ _).mono ?_;rintro e w' ⟨rfl,rfl⟩)
     go_round
     case rel=>exact⟨m+1,F.af i m,by omega,by go_num,rfl,r.o,by omega,by omega,by omega,fun p hp=>(congrArg (F.af i) (show m=p by omega))⟩
     case measure=>simp[intOf];omega
    .have hb:F.af i m<x+1\/(F.n:Int) - 1<F.af i m:=by
      apply QEe
      intro L
      apply b
      refine⟨by omega,by omega,fun hp=> ?_⟩;obtain⟨p,rfl⟩:∃p,m=p+1:=⟨m - 1,by omega⟩;have:=z.o p rfl;simp;omega
     have s0:=TX hb;have r:Hid (¬AN F i):=Zz fun h=>b (h m s);clear hb b;go_wp2_with (go_at_call 216;refine (DU _ _ _ _).mono ?_;rintro e w' ⟨rfl,rfl⟩)
     go_ret
     exact⟨rb (Kq r.o).symm,rfl⟩
   .have r:Hid (AN F i):=Zz fun j C=>A.o j (by omega)
    go_wp2_with fail
    go_ret
    exact⟨rb (Gn r.o).symm,rfl⟩
def Bb (w:World)(q:Nat)(x y:Int):Prop:=w.cell? ⟨q,0,none⟩=some (.int .i64 x)/\w.cell? ⟨q,1,none⟩=some (.int .i64 y)
theorem NW (w:World)(x y:Int)(t:TypeId):Bb (w.alloc (.cells #[.int .i64 x,.int .i64 y] t)) w.heap.size x y:=⟨by simp,by simp⟩
theorem Bb.Ak {w w':World}{q:Nat}{x y:Int}(h:Bb w q x y)(a:q<w.heap.size)(hb:ZY w w'):Bb w' q x y :=
 ⟨(hb.cell (p:=⟨q,0,none⟩) a).trans h.1,(hb.cell (p:=⟨q,1,none⟩) a).trans h.2⟩
theorem DC (x y:Int)(w:World) :
  Calls prog 217 #[.int .i64 x,.int .i64 y] w fun r w'=>∃q:Nat,r=.returned (.iface 172 (.pointer (some ⟨q,0,none⟩)))/\w.heap.size<=q/\q<w'.heap.size/\Bb w' q x y/\ZY w w':=by
 go_enter func217,ntmps217
 go_wp2
 go_ret
 exact⟨_,rfl,Zx _,by simp,NW _ _ _ _,ZV.alloc ZU _⟩
open Go.RowKit
def Zep (p i:Nat):Bool:= !p.testBit i
theorem Vz (p i:Nat)(hp:p<4096):(bits BinOp.and IntKind.u64 ((p:Int) / 2 ^ i) 1 == 0)=Zep p i:=by
 have b:((p:Int) / 2 ^ i)=((p / 2 ^ i:Nat):Int):=by simp
 have c:p / 2 ^ i<18446744073709551616:=by have:=Nat.div_le_self p (2 ^ i);omega
 rw[b,show (1:Int)=((1:Nat):Int) from rfl,bits_and_u64_nat _ _ c (by decide),Nat.and_one_is_mod];unfold Zep;rw[Nat.testBit_eq_decide_div_mod_eq];have a:p / 2 ^ i % 2=0\/p / 2 ^ i % 2=1:=by omega
 rcases a with a | a<;>simp[a]
theorem ET (p:Nat)(i:Int)(pb:Nat)(w:World)(a:0<=i)(hi:i<12)(hp:p<4096)(b:w.cell? ⟨pb,0,none⟩=some (.int .u64 p)) :
  Calls prog 270 #[.int .i64 i,.pointer (some ⟨pb,0,none⟩)] w fun e w'=>e=.returned (.bool (Zep p i.toNat))/\w'=w:=by
 obtain⟨j,rfl⟩:=Int.eq_ofNat_of_zero_le a
 go_enter func270,ntmps270
 go_wp2
 go_ret
 exact⟨rb (Vz p j hp),rfl⟩
noncomputable def Hv (p n:Nat)(f:Nat->Int):Bool:=@decide (∃k,k<n/\Zep p (f k).toNat=true) (QEf _)
theorem Ur {p n:Nat}(k:Nat)(hk:k<n)(h:Zep p (f k).toNat=true):Hv p n f=true:=@decide_eq_true (∃k,k<n/\Zep p (f k).toNat=true) (QEf _) ⟨k,hk,h⟩
theorem Pv {p n:Nat}(h:∀k,k<n->Zep p (f k).toNat=false):Hv p n f=false :=
 @decide_eq_false (∃k,k<n/\Zep p (f k).toNat=true) (QEf _) (fun ⟨k,hk,a⟩=>by rw[h k hk] at a;cases a)
theorem Uq {p n:Nat}(h:Hv p n f=false):∀k,k<n->Zep p (f k).toNat=false:=by
 intro k hk
 cases hl:Zep p (f k).toNat with
 | false=>rfl
 | true=>rw[Ur k hk hl] at h;cases h
theorem SW (p pb n cap:Nat)(a:Option Addr)(f:Nat->Int)(w:World)(hp:p<4096)(s:w.cell? ⟨pb,0,none⟩=some (.int .u64 p))(hi:Cx w a n cap f)(hf:∀k,k<n->0<=f k/\f k<12) :
  Calls prog 255 #[.slice a n cap,.func (.func 270) #[] #[.pointer (some ⟨pb,0,none⟩)]] w fun e w'=>∃r:Int,e=.returned (.int .i64 r)/\((0<=r/\Hv p n f=true)\/(r<0/\Hv p n f=false))/\w'=w:=by
 rcases hi with v | ⟨ab,z,rfl,u,c,x,d⟩
 .subst v
  have H:Hid (Hv p 0 f=false):=Zz (Pv fun k hk=>by omega)
  go_enter func255,ntmps255
  go_wp2_with fail
  go_loop [8] (fun k=>k=.int .i64 0) (fun _=>0)
  case atStart=>rfl
  case round =>
   obtain rfl:=hrel;go_wp2_with fail
   go_ret
   exact⟨-1,rfl,Zj ⟨by omega,H.o⟩,rfl⟩
 .unfold maxLen at c
  go_enter func255,ntmps255
  go_wp2_with fail
  go_loop [8] (fun k=>∃m:Nat,m<=n/\k=.int .i64 m/\(∀j,j<m->Zep p (f j).toNat=false)) (fun k=>n - (intOf k).toNat)
  case atStart=>exact⟨0,by omega,rfl,fun j y=>by omega⟩
  case round =>
   obtain⟨m,hm,rfl,b⟩:=hrel;have q:=Zz b;clear b;by_cases g:m<n
   .have A:=d m g
    obtain⟨B,C⟩:=hf m g
    cases hl:Zep p (f m).toNat with
    | true =>
     have H:Hid (Hv p n f=true):=Zz (Ur m g hl);go_wp2_with (go_at_call 270;refine (ET p _ pb _ (by assumption) (by assumption) hp s).mono ?_;rintro e w' ⟨rfl,rfl⟩)
     go_ret
     exact⟨m,rfl,Zu ⟨by omega,H.o⟩,rfl⟩
    | false =>
     have H:Hid (∀j,j<m+1->Zep p (f j).toNat=false):=Zz fun j y=>by
      by_cases l:j<m
      .exact q.o j l
      .obtain rfl:j=m:=by omega
       exact hl
     go_wp2_with (go_at_call 270;refine (ET p _ pb _ (by assumption) (by assumption) hp s).mono ?_;rintro e w' ⟨rfl,rfl⟩)
     go_round
     case rel=>exact⟨m+1,by omega,by go_num,H.o⟩
     case measure=>simp[intOf];omega
   .have H:Hid (Hv p n f=false):=Zz (Pv fun k hk=>q.o k (by omega))
    go_wp2_with fail
    go_ret
    exact⟨-1,rfl,Zj ⟨by omega,H.o⟩,rfl⟩
theorem GB (p pb n cap:Nat)(a:Option Addr)(f:Nat->Int)(w:World)(hp:p<4096)(d:w.cell? ⟨pb,0,none⟩=some (.int .u64 p))(hi:Cx w a n cap f)(hf:∀k,k<n->0<=f k/\f k<12) :
  Calls prog 186 #[.slice a n cap,.func (.func 270) #[] #[.pointer (some ⟨pb,0,none⟩)]] w fun e w'=>e=.returned (.bool (Hv p n f))/\w'=w:=by
 go_enter func186,ntmps186
 go_wp2_with fail
 refine (SW p pb n cap a f w hp d hi hf).mono ?_;rintro e w' ⟨r,rfl,g,rfl⟩;rcases g with⟨c,b⟩ | ⟨c,b⟩
 .have H:=Zz b
  clear b;go_wp2_with fail
  go_ret
  exact⟨rb H.o.symm,rfl⟩
 .have H:=Zz b
  clear b;go_wp2_with fail
  go_ret
  exact⟨rb (by rw[H.o];exact decide_eq_false (by omega)),rfl⟩
def Goes (r:Ag):Prop:=r.st=1->∃k,k<r.steps.length/\(r.at_ k).st≠5/\(r.at_ k).st≠6/\(r.at_ k).st≠7
structure Aj (e:Ab):Prop where
 wk:Ao e
 goes:∀i,i<e.runs.length->Goes (e.at_ i)
theorem Mu {r:Ag}{p:AO->Bool}:r.steps.all p=true↔∀k,k<r.steps.length->p (r.at_ k)=true:=by
 rw[List.all_eq_true];constructor
 .intro h k hk
  exact h _ (Zbz (z:=AO.z) hk)
 .intro h x a
  obtain⟨k,hk,e⟩:=Zb8 (z:=AO.z) a;have:=h k hk;unfold Ag.at_ at this;rw[e] at this;exact this
theorem MZ {r:Ag}(h:r.outcome=none):∃k,k<r.steps.length/\(r.at_ k).st≠5/\(r.at_ k).st≠6/\(r.at_ k).st≠7:=by
 unfold Ag.outcome at h
 split at h
 .cases h
 .rename_i hn
  rw[Mu] at hn;simp only[QEd] at hn;obtain⟨k,hk,a⟩:=hn;refine⟨k,hk,?_⟩;simp only[Bool.or_eq_true,beq_iff_eq,not_or] at a;exact⟨a.1.1,a.1.2,a.2⟩
theorem Zdz {r:Ag}{st:Int}(h:r.outcome=some st):st=2\/st=3:=by
 unfold Ag.outcome at h
 split at h
 .split at h<;>simp at h<;>omega
 .cases h
theorem Ao.settle {e:Ab}(h:Ao e)(hi:i<e.runs.length)(d:(e.at_ i).st=1)(hg:∀j,j<e.runs.length->j≠i->Goes (e.at_ j)):Aj (e.settle i):=by
 unfold Ab.settle
 cases c:(e.at_ i).outcome with
 | none =>
  refine⟨h,fun j b=> ?_⟩;by_cases a:j=i
  .subst a;exact fun _=>MZ c
  .exact hg j b a
 | some st =>
  have g:=Zdz c;refine⟨h.end_ hi d st (by omega),fun j b=> ?_⟩;show Goes ((e.end_ i st).at_ j)
  replace b:j<(e.end_ i st).runs.length:=b
  rw[Zea] at b;rw[Zej e i st b];by_cases a:i=j
  .rw[if_pos a]
   intro x
   replace x:st=1:=x
   omega
  .rw[if_neg a];exact hg j b (fun x=>a x.symm)
theorem Zdn {e:Ab}{tok:Int}(h:e.task tok=some (i,k)):i<e.runs.length/\k<(e.at_ i).steps.length/\((e.at_ i).at_ k).st=3/\((e.at_ i).at_ k).tok=tok:=by
 unfold Ab.task at h
 cases hf:e.runs.findIdx? (fun r=>(r.work tok).isSome) with
 | none=>rw[hf] at h;cases h
 | some a =>
  rw[hf] at h
  replace h:((e.at_ a).work tok).bind (fun k=>some (a,k))=some (i,k):=h
  cases hw:(e.at_ a).work tok with
  | none=>rw[hw] at h;cases h
  | some k' =>
   rw[hw] at h
   replace h:some (a,k')=some (i,k):=h
   cases h
   rw[QCz] at hf;unfold Ag.work at hw;rw[QCz] at hw;obtain⟨hi,_,_⟩:=hf;obtain⟨hk,hp,_⟩:=hw;simp only[Bool.and_eq_true,beq_iff_eq] at hp;have b:(e.at_ i).at_ k=(e.at_ i).steps[k]:=by rw[Ag.at_,ZQ,ZZ hk];rfl
   rw[b];exact⟨hi,hk,hp.1,hp.2⟩
theorem Ao.Bi {e:Ab}(h:Ao e)(hi:i<e.runs.length)(hk:k<(e.at_ i).steps.length)(b:((e.at_ i).at_ k).st<5):(e.at_ i).st=1:=by
 by_cases a:(e.at_ i).st=1
 .exact a
 .have:=(h.runs i hi).over a k hk;omega
theorem Zdc {now span:Int}(a:0<=now)(b:now<=4611686018427387904)(c:1<=span):now<=Zao now span/\1<=Zao now span/\Zao now span<=4611686018427387904:=by
 unfold Zao;split<;>omega
theorem Ff (h:Be F k)(t Ar:Int):1<=Zbs (F.ba k) (F.ca k) (F.ji k) t Ar/\Zbs (F.ba k) (F.ca k) (F.ji k) t Ar<=2097152:=by
 unfold Zbs;have a:=Ky (F.ba k) h.ba1 (t - 1).toNat;have b:=h.ca1;have c:=h.ca2;have d:=h.ji1;have e:=h.ji2;have g:=h.ba1;have j:=Int.emod_nonneg Ar (show F.ji k+1≠0 by omega);have l:=Int.emod_lt_of_pos Ar (show 0<F.ji k+1 by omega);omega
theorem Aj.AH {e:Ab}(h:Aj e)(hi:i<e.runs.length)(hk:k<(e.at_ i).steps.length)(D:((e.at_ i).at_ k).st=3):Aj (e.AH i k):=by
 have y:=h.wk.Bi hi hk (by omega);have c:=(h.wk.runs i hi).steps k hk;have hb:=(h.wk.runs i hi).fl.node k (by rw[<-(h.wk.runs i hi).len];exact hk);unfold Ab.AH;simp only
 split
 .rename_i v
  have C:=Ff hb ((e.at_ i).at_ k).tries e.Ar;have p:=Zdc h.wk.t0 h.wk.tB (show 1<=Zbs ((e.at_ i).fl.ba k) ((e.at_ i).fl.ca k) ((e.at_ i).fl.ji k) ((e.at_ i).at_ k).tries e.Ar by omega);have E:=h.wk.tm0
  generalize hf:(fun s:AO=>({ s with st:=4,fin:=Zao e.time (Zbs ((e.at_ i).fl.ba k) ((e.at_ i).fl.ca k) ((e.at_ i).fl.ji k) s.tries e.Ar),BM:=e.timers+1 }:AO))=f
  generalize w:Zbs ((e.at_ i).fl.ba k) ((e.at_ i).fl.ca k) ((e.at_ i).fl.ji k) ((e.at_ i).at_ k).tries e.Ar=span at *
  have A:(f ((e.at_ i).at_ k)).st=4:=by rw[<-hf]
  have l:(({ e with timers:=e.timers+1 }:Ab).Af i k f).runs=(e.Af i k f).runs:=rfl;constructor
  .refine h.wk.calm hi hk l rfl (show e.timers<=e.timers+1 by omega) (QCm _) rfl rfl ?_ (fun x=>absurd y x) (by omega) (by omega) rfl ?_ ?_
   .rw[<-hf]
    simp only[w];exact { c with st1:=by simp,st2:=by simp,wait:=fun x=>by simp at x,more:=fun _=>v,once:=fun _=>c.once (Zu D),dead:=fun x=>by simp at x,fin0:=by show 0<=Zao e.time span;omega,finB:=p.2.2,SE:=fun _=>p.1,KJ:=fun x=>by simp at x,AY:=fun x=>by simp at x,UO:=by show 0<=e.timers+1;omega,faB:=QCm _,saB:=by have:=c.saB;show ((e.at_ i).at_ k).Bg<=e.timers+1;omega }
   .intro b tm sq x
    right
    rw[<-hf] at x;unfold AO.due at x
    split at x
    .simp at x
    .have:=x.2.2;simp only at this;omega
   .intro tm sq H G _ x
    rw[<-hf] at x;unfold AO.due at x;simp at x
  .intro j a
   rw[Za9 l] at a;rw[Zbf l a];by_cases n:i=j
   .subst n
    rw[if_pos rfl];intro _;exact⟨k,by rw[Zal];exact hk,by rw[Za7 _ _ hk];omega⟩
   .rw[if_neg n];exact h.goes j a
 .rename_i B
  have q:((e.at_ i).at_ k).tries=(e.at_ i).fl.bu k:=by have:=c.Xv;omega
  have hw:=h.wk.over hi hk 6 (by omega) (by omega) (fun _=>q)
  generalize hg:(fun s:AO=>({ s with st:=6 }:AO))=g at hw
  have l:(e.Af i k g).runs=(e.Af i k g).runs:=rfl;have z:=Zbf l hi;rw[if_pos rfl] at z;obtain⟨k1,_⟩:=Zed ((e.at_ i).Af k g);have d:=Es.wk k1 hw (by rw[Za9 l];exact hi) z;unfold Ab.Af at d;rw[Zen] at d
  have heq:e.AL i (fun r=>Ag.BN r.steps.length (r.Af k g))=e.AL i (fun _=>Ag.BN ((e.at_ i).Af k g).steps.length ((e.at_ i).Af k g)):=by
   rw[IV,Zal]
  rw[heq];have m:=fun j a=>Zbr e i j (fun _=>Ag.BN ((e.at_ i).Af k g).steps.length ((e.at_ i).Af k g)) a;refine d.settle (by rw[Zbk];exact hi) ?_ (fun j a u=> ?_)
  .rw[m i hi,if_pos rfl,k1.same.2.2.1];exact y
  .rw[Zbk] at a
   rw[m j a,if_neg (fun x=>u x.symm)];exact h.goes j a
theorem Aj.fail {e e':Ab}(h:Aj e){tok:Int}(he:e.fail tok=some e'):Aj e':=by
 unfold Ab.fail at he
 split at he
 .cases he
 .rename_i i k d
  obtain⟨a,b,c,_⟩:=Zdn d
  cases he
  exact h.AH a b c
theorem Aj.complete {e e':Ab}(h:Aj e){tok:Int}(he:e.complete tok=some e'):Aj e':=by
 unfold Ab.complete at he
 split at he
 .cases he
 .rename_i i k l
  obtain⟨hi,hk,m,_⟩:=Zdn l
  cases he
  have g:=h.wk.Bi hi hk (by omega);have hw:=h.wk.over hi hk 5 (by omega) (by omega) (by omega);have b:=FF.Af e k (fun s=>{ s with st:=5 }) e.queue hi;have b:FF e (e.Af i k (fun s=>{ s with st:=5 })) i:=b;obtain⟨g1,g2⟩:=hw.Bm (by rw[b.len];exact hi) (by rw[b.st];exact g);have a:=b.trans g2;refine g1.settle (by rw[a.len];exact hi) (by rw[a.st];exact g) (fun j c d=> ?_);rw[a.len] at c;rw[a.others j c d];exact h.goes j c
theorem Aj.cancel {e e':Ab}(h:Aj e)(he:e.cancel id=some e'):Aj e':=by
 unfold Ab.cancel at he
 split at he
 .cases he
 .rename_i i hf
  split at he
  .rename_i b
   cases he
   have hi:i<e.runs.length:=by
    unfold Ab.find at hf;rw[QCz] at hf;exact hf.1
   refine⟨h.wk.end_ hi b 4 (by omega),fun j a=> ?_⟩;rw[Zea] at a;rw[Zej e i 4 a]
   split
   .intro x;replace x:(4:Int)=1:=x;omega
   .exact h.goes j a
  .cases he
theorem Aj.AY {e e':Ab}(h:Aj e){tok:Int}(he:e.AY tok=some e'):Aj e':=by
 unfold Ab.AY at he
 split at he
 .cases he
 .rename_i i k u
  obtain⟨hi,hk,r,_⟩:=Zdn u;simp only at he
  split at he
  .rename_i g
   cases he
   have p:=h.wk.Bi hi hk (by omega);have a:=(h.wk.runs i hi).steps k hk;have d:=Zdc h.wk.t0 h.wk.tB (show 1<=(e.at_ i).fl.be k by omega);have v:=h.wk.tm0
   generalize hf:(fun s:AO=>({ s with sign:=Zao e.time ((e.at_ i).fl.be k),Bg:=e.timers+1 }:AO))=f
   have q:(f ((e.at_ i).at_ k)).st=3:=by rw[<-hf];exact r
   have n:(({ e with timers:=e.timers+1 }:Ab).Af i k f).runs=(e.Af i k f).runs:=rfl;constructor
   .refine h.wk.calm hi hk n rfl (show e.timers<=e.timers+1 by omega) (QCm _) rfl rfl ?_ (fun x=>absurd p x) (by omega) (by omega) rfl ?_ ?_
    .rw[<-hf]
     exact { a with sign0:=by show 0<=Zao e.time _;omega,signB:=d.2.2,KJ:=fun _ _=>d.1,AY:=fun _=>⟨fun _=>g,fun _=>by show 0<Zao e.time _;omega⟩,faB:=by have:=a.faB;show ((e.at_ i).at_ k).BM<=e.timers+1;omega,sa0:=by show 0<=e.timers+1;omega,saB:=QCm _ }
    .intro b tm sq x
     rw[<-hf] at x;unfold AO.due at x ⊢
     split at x
     .right;have:=x.2.2.2;simp only at this;omega
     .rename_i l;left;rw[if_neg l];exact x
    .intro tm sq z w y x
     rw[<-hf] at x y;unfold AO.due at x y;simp only[if_true,Bool.false_eq_true,if_false] at x y;have:=a.faB;omega
   .intro j m
    rw[Za9 n] at m;rw[Zbf n m];by_cases c:i=j
    .subst c
     rw[if_pos rfl];intro _;exact⟨k,by rw[Zal];exact hk,by rw[Za7 _ _ hk];omega⟩
    .rw[if_neg c];exact h.goes j m
  .cases he;exact h
theorem Rq {e:Ab}(hf:e.find id=some i):i<e.runs.length/\(e.at_ i).id=id:=by
 unfold Ab.find at hf;rw[QCz] at hf;obtain⟨hi,hp,_⟩:=hf;refine⟨hi,?_⟩;unfold Ab.at_;rw[ZQ,ZZ hi];simpa using hp
theorem Ao.Ym {e:Ab}(h:Ao e)(hi:i<e.runs.length):e.find (e.at_ i).id=some i:=by
 unfold Ab.find;rw[QCz];have c:∀j (a:j<e.runs.length),e.runs[j]=e.at_ j:=fun j a=>by unfold Ab.at_;rw[ZQ,ZZ a];rfl
 refine⟨hi,by rw[c];simp,fun j a=> ?_⟩;rw[c];have:=h.up j i a hi;have b:(e.at_ j).id≠(e.at_ i).id:=by omega
 simpa using b
theorem Aj.Bl {e e':Ab}(h:Aj e){p:Ba}{tk:Int}(he:e.Bl=some (p,t,tk,e')):Aj e':=by
 unfold Ab.Bl at he
 split at he
 .cases he
 .rename_i C q w
  split at he
  .cases he
  .rename_i i hf
   obtain⟨hi,g⟩:=Rq hf;simp only[Option.some.injEq,Prod.mk.injEq] at he;obtain⟨rfl,rfl,rfl,rfl⟩:=he;obtain⟨i2,q1,D,m,E⟩:=(h.wk.qm C).1 (by rw[w];exact QDa ..);have:=h.wk.Cy hi q1 (by rw[g,D]);subst this;obtain⟨O,k⟩:=C;simp only at g D m E hf ⊢;subst g;have G:=h.wk.Bi hi m (by omega);have d:=(h.wk.runs i hi).steps k m;have hb:=(h.wk.runs i hi).fl.node k (by rw[<-(h.wk.runs i hi).len];exact m);have K:=h.wk.tm0;have z:=h.wk.Xt;have c:=Zdc h.wk.t0 h.wk.tB hb.Ub;have H:=hb.Rh
   generalize hf:(fun s:AO=>({ s with st:=3,tries:=((e.at_ i).at_ k).tries+1,tok:=e.Ai+1,fin:=Zao e.time ((e.at_ i).fl.cl k),BM:=e.timers+1,sign:=if (e.at_ i).fl.be k > 0 then Zao e.time ((e.at_ i).fl.be k) else 0,Bg:=if (e.at_ i).fl.be k > 0 then e.timers+2 else s.Bg }:AO))=f
   have I:(f ((e.at_ i).at_ k)).st=3:=by rw[<-hf]
   have l:=h.wk.qn;rw[w,List.nodup_cons] at l;constructor
   .refine h.wk.step hi m (f:=f) rfl rfl (by show e.timers<=e.timers+1+_;split<;>omega) (show e.Ai<=e.Ai+1 by omega) rfl rfl ?_ (fun x=>absurd G x) l.2 ?_ ?_ ?_
    .have v:=d.more (Zu E)
     have L:=d.tr0;have J:=d.saB;have B:=d.sa0;show Hr _ _ _ (e.timers+1+_) (e.Ai+1) _;rw[<-hf];by_cases a:(e.at_ i).fl.be k > 0
     .have r:=Zdc h.wk.t0 h.wk.tB (show 1<=(e.at_ i).fl.be k by omega)
      simp only[if_pos a];exact⟨by simp,by simp,by simp only;omega,by simp only;omega,fun x=>by simp at x,fun x=>by simp at x,fun _=>by simp only;omega,fun x=>by simp at x,by simp only;omega,by simp only;omega,by simp only;omega,c.2.2,by simp only;omega,r.2.2,fun _=>c.1,fun _ _=>r.1,fun _=>⟨fun _=>a,fun _=>by simp only;omega⟩,by simp only;omega,by simp only;omega,by simp only;omega,by simp only;omega⟩
     .simp only[if_neg a]
      exact⟨by simp,by simp,by simp only;omega,by simp only;omega,fun x=>by simp at x,fun x=>by simp at x,fun _=>by simp only;omega,fun x=>by simp at x,by simp only;omega,by simp only;omega,by simp only;omega,c.2.2,by simp,by simp,fun _=>c.1,fun _ x=>by simp at x,fun _=>⟨fun x=>by simp at x,fun x=>absurd x a⟩,by simp only;omega,by simp only;omega,by simp only;omega,by simp only;omega⟩
    .intro p
     show p∈q↔_;rw[w,List.mem_cons];constructor
     .intro x
      exact Zj ⟨fun y=>l.1 (y▸x),Zj x⟩
     .rintro (⟨_,x⟩ | ⟨x,y | y⟩)
      .omega
      .exact absurd y x
      .exact y
    .intro b tm sq x
     right
     rw[<-hf] at x;unfold AO.due at x
     split at x
     .simp only at x
      split at x
      .omega
      .omega
     .simp only at x;omega
    .intro tm sq N M y x
     rw[<-hf] at x y;unfold AO.due at x y;simp only[if_true,Bool.false_eq_true,if_false] at x y
     split at x<;>omega
   .intro j u
    have A:∀q lt tm,((({ e with queue:=q,Ai:=lt,timers:=tm }:Ab).Af i k f).runs=(e.Af i k f).runs):=fun _ _ _=>rfl;rw[Za9 (A _ _ _)] at u;rw[Zbf (A _ _ _) u];by_cases n:i=j
    .subst n
     rw[if_pos rfl];intro _;exact⟨k,by rw[Zal];exact m,by rw[Za7 _ _ m];omega⟩
    .rw[if_neg n];exact h.goes j u
theorem Zeu {e:Ab}{b:Nat}(hb:CB e.AS e.AS.length=some b):BV e (e.AS.getD b .z)/\∀d,BV e d->(e.AS.getD b .z).tm<=d.tm:=by
 obtain⟨c,g⟩:=Gb hb;refine⟨Zas.1 (Zbz (z:=CL.z) c),fun d h=> ?_⟩;obtain⟨j,l,a⟩:=Zb8 (z:=CL.z) (Zas.2 h);have:=g j l;rw[a] at this;unfold CL.lt at this;omega
theorem Aj.Fi {e:Ab}(h:Aj e)(p:e.time<=t)(l:t<=4611686018427387904)(c:∀d,BV e d->t<=d.tm):Aj { e with time:=t }:=by
 have n:=h.wk.t0;refine⟨⟨(by show 0<=t;omega),l,h.wk.tm0,h.wk.lr0,h.wk.Xt,h.wk.Xs,h.wk.WL,h.wk.up,h.wk.Uc,h.wk.Rr,fun i hi=> ?_,h.wk.qn,h.wk.qm,h.wk.sq,h.wk.en⟩,h.goes⟩;have j:=h.wk.runs i hi;refine { j with WZ:=fun x=>c ⟨i,none,false,(e.at_ i).CW,(e.at_ i).Cz⟩ ⟨hi,x,rfl,rfl,rfl⟩,steps:=fun k hk=> ?_ };have m:=j.steps k hk
 have g:∀b tm sq,((e.at_ i).at_ k).due b tm sq->t<=tm:=fun b tm sq x=>by
  have a:((e.at_ i).at_ k).st<5:=by
   unfold AO.due at x
   split at x<;>omega
  exact c ⟨i,some k,b,tm,sq⟩ ⟨hi,h.wk.Bi hi hk a,hk,x⟩
 exact { m with SE:=fun x=>g false _ _ ⟨x,rfl,rfl⟩,KJ:=fun x y=>g true _ _ ⟨x,y,rfl,rfl⟩ }
theorem Aj.end_ {e:Ab}(h:Aj e)(hi:i<e.runs.length)(c:(e.at_ i).st=1)(st:Int)(b:2<=st/\st<=5):Aj (e.end_ i st):=by
 refine⟨h.wk.end_ hi c st b,fun j a=> ?_⟩;rw[Zea] at a;rw[Zej e i st a]
 split
 .intro x;replace x:st=1:=x;omega
 .exact h.goes j a
theorem Aj.ready {e:Ab}(h:Aj e)(hi:i<e.runs.length)(hk:k<(e.at_ i).steps.length)(g:((e.at_ i).at_ k).st=1\/((e.at_ i).at_ k).st=4):Aj (e.ready i k):=by
 have d:=h.wk.Bi hi hk (by omega);have a:=FF.ready e k hi;refine⟨h.wk.ready hi hk d g,fun j c=> ?_⟩;rw[a.len] at c;by_cases b:j=i
 .subst b
  intro _;refine⟨k,by rw[a.steps];exact hk,?_⟩;rw[DO e j k hi,Za7 _ _ hk];simp
 .rw[a.others j c b];exact h.goes j c
theorem Aj.At {e:Ab}(h:Aj e){d:CL}(g:BV e d)(hm:∀x,BV e x->d.tm<=x.tm):Aj (e.At d):=by
 have m:=h.wk.Cr g;have a:Aj { e with time:=max e.time d.tm }:=h.Fi (by omega) (by have:=h.wk.tB;omega) (fun x j=>by have:=hm x j;have:=(h.wk.Cr j).2;omega);obtain⟨hi,l,hk⟩:=g;unfold Ab.At
 cases c:d.k with
 | none =>
  simp only;exact Aj.end_ a hi l 5 (by omega)
 | some k =>
  rw[c] at hk;simp only at hk ⊢
  split
  .rename_i b
   exact Aj.ready a hi hk.1 (Zj b)
  .rename_i b
   refine Aj.AH a hi hk.1 ?_;have:=hk.2;unfold AO.due at this
   split at this
   .exact this.1
   .exact this.1.resolve_right b
def wt (s:AO):Nat:=if s.st=3 then 2 else if s.st=4 then 1 else 0
def Ag.load (r:Ag):Nat:=if r.st=1 then 1+(r.steps.map wt).sum else 0
def Ab.load (e:Ab):Nat:=(e.runs.map Ag.load).sum
theorem Gr {α:Type}{z:α}(g:α->Nat)(f:α->α):∀(l:List α) (i:Nat),i<l.length->((l.modify i f).map g).sum+g (l.getD i z)=(l.map g).sum+g (f (l.getD i z))
 | [],i,h=>by simp at h
 | a::l,0,_=>by simp;omega
 | a::l,i+1,h=>by
  have:=Gr (z:=z) g f l i (by simpa using h);simp only[List.modify_succ_cons,QEg,QEh,List.getD_cons_succ];omega
theorem Iw {α:Type}(g:α->Nat)(b:Nat):∀(l:List α),(∀x∈l,g x<=b)->(l.map g).sum<=l.length * b
 | [],_=>by simp
 | a::l,h=>by
  have d:=h a (QDa ..);have:=Iw g b l (fun x c=>h x (List.mem_cons_of_mem _ c));simp only[QEg,QEh,List.length_cons,Nat.add_mul];omega
theorem wt_le (s:AO):wt s<=2:=by
 unfold wt
 split
 .omega
 .split<;>omega
theorem Ao.YC {e:Ab}(h:Ao e):e.load<=150:=by
 have a:∀x∈e.runs,x.load<=25:=by
  intro x b;obtain⟨i,hi,ex⟩:=Zb8 (z:=Ag.z) b;have:=(h.runs i hi).IS;unfold Ab.at_ at this;rw[ex] at this;unfold Ag.load
  split
  .have:=Iw wt 2 x.steps (fun s _=>wt_le s)
   omega
  .omega
 have:=Iw Ag.load 25 e.runs a;have:=h.WL;unfold Ab.load;omega
theorem Gl {e:Ab}(hi:i<e.runs.length)(f:Ag->Ag):(e.AL i f).load+(e.at_ i).load=e.load+(f (e.at_ i)).load:=Gr (z:=Ag.z) Ag.load f e.runs i hi
theorem Il {r:Ag}(hk:k<r.steps.length)(f:AO->AO)(a:r.st=1):(r.Af k f).load+wt (r.at_ k)=r.load+wt (f (r.at_ k)):=by
 have:=Gr (z:=AO.z) wt f r.steps k hk;unfold Ag.load;rw[if_pos (show (r.Af k f).st=1 from a),if_pos a];unfold Ag.at_;show 1+((r.steps.modify k f).map wt).sum+_=_;omega
theorem IP {e:Ab}(hi:i<e.runs.length)(hk:k<(e.at_ i).steps.length)(c:(e.at_ i).st=1)(f:AO->AO):(e.Af i k f).load+wt ((e.at_ i).at_ k)=e.load+wt (f ((e.at_ i).at_ k)):=by
 have a:=Gl hi (fun r=>r.Af k f);have b:=Il hk f c;show (e.AL i (fun r=>r.Af k f)).load+_=_;omega
theorem OA {e:Ab}(hi:i<e.runs.length)(g:(e.at_ i).st=1)(st:Int)(d:st≠1):(e.end_ i st).load+1<=e.load:=by
 have a:=Gl hi (Zd6 st e.ends);have b:(Zd6 st e.ends (e.at_ i)).load=0:=by unfold Ag.load;rw[if_neg];exact d
 have c:1<=(e.at_ i).load:=by unfold Ag.load;rw[if_pos g];omega
 show (e.AL i (Zd6 st e.ends)).load+1<=_;omega
theorem OB {e:Ab}(hi:i<e.runs.length)(a:(e.at_ i).st=1):(e.settle i).load<=e.load/\(e.settle i).timers=e.timers:=by
 unfold Ab.settle
 cases b:(e.at_ i).outcome with
 | none=>exact⟨Zx _,rfl⟩
 | some st =>
  have:=Zdz b;have:=OA hi a st (by omega);exact⟨by simp only;omega,rfl⟩
theorem Es.load {r r2:Ag}(h:Es r r2)(a:r.st=1):r2.load=r.load:=by
 induction h with
 | refl=>rfl
 | step r r2 k hk hl _ b =>
  have:=Il hk JB a;have c:=EU hl;have d:wt (r.at_ k)=0:=by unfold wt;rw[if_neg (by omega),if_neg (by omega)]
  have e:wt (JB (r.at_ k))=0:=by unfold wt JB;rw[if_neg (by simp),if_neg (by simp)]
  rw[b a];omega
theorem Ql {e:Ab}(h:Aj e)(hi:i<e.runs.length)(hk:k<(e.at_ i).steps.length)(n:((e.at_ i).at_ k).st=3):(e.AH i k).load<e.load/\(e.AH i k).timers+(e.AH i k).load<=e.timers+e.load:=by
 have d:=h.wk.Bi hi hk (by omega);have p:wt ((e.at_ i).at_ k)=2:=by unfold wt;rw[if_pos n]
 unfold Ab.AH;simp only
 split
 .generalize hf:(fun s:AO=>({ s with st:=4,fin:=Zao e.time (Zbs ((e.at_ i).fl.ba k) ((e.at_ i).fl.ca k) ((e.at_ i).fl.ji k) s.tries e.Ar),BM:=e.timers+1 }:AO))=f
  have w4:wt (f ((e.at_ i).at_ k))=1:=by rw[<-hf];unfold wt;rw[if_neg (by simp),if_pos (by simp)]
  have:=IP hi hk d f;have j:(({ e with timers:=e.timers+1 }:Ab).Af i k f).load=(e.Af i k f).load:=rfl;have l:(({ e with timers:=e.timers+1 }:Ab).Af i k f).timers=e.timers+1:=rfl;rw[j,l];omega
 .generalize hg:(fun s:AO=>({ s with st:=6 }:AO))=g
  have q:wt (g ((e.at_ i).at_ k))=0:=by rw[<-hg];unfold wt;rw[if_neg (by simp),if_neg (by simp)]
  have b:=Il hk g d;obtain⟨k1,_⟩:=Zed ((e.at_ i).Af k g);have c:=k1.load d;have a:=Gl hi (fun r=>Ag.BN r.steps.length (r.Af k g));have j:(Ag.BN (e.at_ i).steps.length ((e.at_ i).Af k g)).load=((e.at_ i).Af k g).load:=by rw[<-Zal (e.at_ i) k g];exact c
  rw[j] at a
  have m:((e.AL i (fun r=>Ag.BN r.steps.length (r.Af k g))).at_ i).st=1:=by
   rw[Zbr e i i _ hi,if_pos rfl,<-Zal (e.at_ i) k g,k1.same.2.2.1];exact d
  obtain⟨s1,s2⟩:=OB (e:=e.AL i (fun r=>Ag.BN r.steps.length (r.Af k g))) (by rw[Zbk];exact hi) m;have l:(e.AL i (fun r=>Ag.BN r.steps.length (r.Af k g))).timers=e.timers:=rfl;rw[s2,l];omega
theorem Qm {e:Ab}(hi:i<e.runs.length)(hk:k<(e.at_ i).steps.length)(a:(e.at_ i).st=1):(e.ready i k).load+wt ((e.at_ i).at_ k)=e.load/\(e.ready i k).timers=e.timers:=by
 have:=IP hi hk a (fun s=>{ s with st:=2 });have w:wt ({ (e.at_ i).at_ k with st:=2 }:AO)=0:=by unfold wt;rw[if_neg (by simp),if_neg (by simp)]
 rw[w] at this;exact⟨this,rfl⟩
theorem GV {e:Ab}(h:Aj e){d:CL}(j:BV e d)(hm:∀x,BV e x->d.tm<=x.tm):(e.At d).load<e.load/\(e.At d).timers+(e.At d).load<=e.timers+e.load:=by
 have p:Aj { e with time:=max e.time d.tm }:=h.Fi (by omega) (by have:=h.wk.tB;have:=(h.wk.Cr j).2;omega) (fun x m=>by have:=hm x m;have:=(h.wk.Cr m).2;omega);obtain⟨hi,l,hk⟩:=j;unfold Ab.At;have r:({ e with time:=max e.time d.tm }:Ab).load=e.load:=rfl;have s:({ e with time:=max e.time d.tm }:Ab).timers=e.timers:=rfl
 cases g:d.k with
 | none =>
  simp only;have:=OA (e:={ e with time:=max e.time d.tm }) hi l 5 (by omega);have n:(({ e with time:=max e.time d.tm }:Ab).end_ d.i 5).timers=e.timers:=rfl;rw[n];omega
 | some k =>
  rw[g] at hk;simp only at hk ⊢
  split
  .rename_i c
   have w4:wt ((e.at_ d.i).at_ k)=1:=by unfold wt;rw[if_neg (by replace c:((e.at_ d.i).at_ k).st=4:=c;omega),if_pos c]
   obtain⟨a,b⟩:=Qm (e:={ e with time:=max e.time d.tm }) hi hk.1 l;rw[b]
   replace a:(({ e with time:=max e.time d.tm }:Ab).ready d.i k).load+wt ((e.at_ d.i).at_ k)=e.load:=a
   omega
  .rename_i c
   have q:((e.at_ d.i).at_ k).st=3:=by
    have:=hk.2;unfold AO.due at this
    split at this
    .exact this.1
    .exact this.1.resolve_right c
   exact Ql p hi hk.1 q
theorem CZ.ok {m:Int}{e n:Ab}(s:CZ m e n)(h:Aj e)(q:e.time<=m)(r:m<=4611686018427387904):Aj n/\n.time=m/\n.timers<=e.timers+e.load/\n.Ah=e.Ah/\n.Ar=e.Ar/\n.Ai=e.Ai:=by
 induction s with
 | none e hn =>
  refine⟨h.Fi q r (fun d p=> ?_),rfl,by show e.timers<=_;omega,rfl,rfl,rfl⟩
  cases hb:CB e.AS e.AS.length with
  | none =>
   have:=Ga hb;obtain⟨j,v,_⟩:=Zb8 (z:=CL.z) (Zas.2 p);omega
  | some b =>
   have:=hn b hb;have:=(Zeu hb).2 d p;omega
 | step e n b hb hle _ u =>
  obtain⟨d1,d2⟩:=Zeu hb;have hl:=GV h d1 d2;have hk:=h.At d1 d2
  have l:(e.At (e.AS.getD b .z)).time<=m/\(e.At (e.AS.getD b .z)).Ah=e.Ah/\(e.At (e.AS.getD b .z)).Ar=e.Ar/\(e.At (e.AS.getD b .z)).Ai=e.Ai:=by
   generalize e.AS.getD b .z=d at *
   unfold Ab.At
   split
   .exact⟨by show max _ _<=m;omega,rfl,rfl,rfl⟩
   .split
    .exact⟨by show max _ _<=m;omega,rfl,rfl,rfl⟩
    .unfold Ab.AH
     simp only
     split
     .exact⟨by show max _ _<=m;omega,rfl,rfl,rfl⟩
     .unfold Ab.settle
      split
      .exact⟨by show max _ _<=m;omega,rfl,rfl,rfl⟩
      .exact⟨by show max _ _<=m;omega,rfl,rfl,rfl⟩
  obtain⟨a,b,c,d,f,g⟩:=u hk l.1;exact⟨a,b,by omega,by rw[d,l.2.1],by rw[f,l.2.2.1],by rw[g,l.2.2.2]⟩
theorem Nv {e:Ab}(h:Ao e)(a:0<=t):e.time<=e.Hm t/\e.Hm t<=4611686018427387904:=by
 have:=h.tB;unfold Ab.Hm;split<;>omega
theorem BR.ok {e g:Ab}(j:BR e t g)(h:Aj e)(l:0<=t):Aj g/\g.timers<=e.timers+150/\g.Ah=e.Ah/\g.Ar=e.Ar/\g.Ai=e.Ai:=by
 obtain⟨a,b⟩:=Nv h.wk l;obtain⟨c,_,d,f⟩:=CZ.ok j h a b;have:=h.wk.YC;exact⟨c,by omega,f⟩
theorem Fk:Aj Za1:=by
 refine⟨⟨by simp[Za1],by simp[Za1],by simp[Za1],by simp[Za1],by simp[Za1],by simp[Za1],by simp[Za1],fun i j _ c=>by simp[Za1] at c,fun i hi=>by simp[Za1] at hi,fun i hi=>by simp[Za1] at hi,fun i hi=>by simp[Za1] at hi,by simp[Za1],fun p=> ?_,fun a b=> ?_,fun i j hi=>by simp[Za1] at hi⟩,fun i hi=>by simp[Za1] at hi⟩
 .constructor
  .intro h;simp[Za1] at h
  .rintro⟨i,hi,_⟩;simp[Za1] at hi
 .obtain⟨hi,_⟩:=Zas.1 b
  simp[Za1] at hi
def Hk:AO:=⟨1,0,0,0,0,0,0⟩
def Ab.fresh (e:Ab)(f:Ad):Ag:=⟨e.Ah+1,f,1,Zao e.time f.dl,e.timers+1,List.replicate f.n Hk,0⟩
def Ab.more (e:Ab)(f:Ad):Ab:={ e with Ah:=e.Ah+1,timers:=e.timers+1,runs:=e.runs++[e.fresh f] }
theorem Du (e:Ab)(f:Ad):e.begin f=(e.more f).Bm e.runs.length:=rfl
theorem Za5 (e:Ab)(f:Ad):(e.more f).runs.length=e.runs.length+1:=by simp[Ab.more]
theorem Zb4 (e:Ab)(f:Ad)(hi:i<e.runs.length):(e.more f).at_ i=e.at_ i:=by
 unfold Ab.at_ Ab.more;simp only[ZQ];rw[QBg hi]
theorem Zbl (e:Ab)(f:Ad):(e.more f).at_ e.runs.length=e.fresh f:=by
 unfold Ab.at_ Ab.more;simp only[ZQ];rw[QBe ZU];simp
theorem Zb9 (e:Ab)(f:Ad):(e.fresh f).steps.length=f.n:=by simp[Ab.fresh]
theorem Zdk (e:Ab)(f:Ad)(hk:k<f.n):(e.fresh f).at_ k=Hk:=by
 unfold Ag.at_ Ab.fresh;simp[ZQ,hk]
theorem Ao.more {e:Ab}(h:Ao e)(G:e.runs.length<6){f:Ad}(hf:BW f):Ao (e.more f):=by
 have hl:=Za5 e f;have A:=h.tm0;have w:=h.lr0;have v:=h.Xs;have z:=h.Xt;have q:=Zdc h.t0 h.tB hf.top.Yg
 have g:∀i,i<(e.more f).runs.length->(i<e.runs.length/\(e.more f).at_ i=e.at_ i)\/(i=e.runs.length/\(e.more f).at_ i=e.fresh f):=fun i hi=>by
  by_cases c:i<e.runs.length
  .exact Zu ⟨c,Zb4 e f c⟩
  .have:i=e.runs.length:=by omega
   subst this;exact Zj ⟨rfl,Zbl e f⟩
 have m:∀d,BV (e.more f) d->BV e d\/(d=⟨e.runs.length,none,false,Zao e.time f.dl,e.timers+1⟩):=by
  rintro d ⟨d1,d2,d3⟩;rcases g _ d1 with⟨c1,c2⟩ | ⟨c1,c2⟩
  .rw[c2] at d2 d3
   exact Zu ⟨c1,d2,d3⟩
  .rw[c2] at d2 d3
   right
   obtain⟨B,dk,D,E,C⟩:=d
   cases dk with
   | none =>
    obtain⟨x1,x2,x3⟩:=d3;simp only at c1 x1 x2 x3;subst c1 x1 x2 x3
    rfl
   | some k =>
    exfalso
    simp only[Zb9] at d3;rw[Zdk e f d3.1] at d3;exact GY (by unfold Hk;simp) (by unfold Hk;simp) d3.2
 refine⟨h.t0,h.tB,by show 0<=e.timers+1;omega,by show 0<=e.Ah+1;omega,h.Xt,h.Xs,by omega,?_,?_,?_,?_,h.qn,?_,?_,?_⟩
 .intro a b j hb
  rcases g b hb with⟨c1,c2⟩ | ⟨c1,c2⟩
  .rw[c2,Zb4 e f (by omega)];exact h.up a b j c1
  .rw[c2,Zb4 e f (by omega)]
   have:=h.Rr a (by omega);show _<e.Ah+1;omega
 .intro a l
  rcases g a l with⟨c1,c2⟩ | ⟨c1,c2⟩
  .rw[c2];exact h.Uc a c1
  .rw[c2];show 1<=e.Ah+1;omega
 .intro a l
  rcases g a l with⟨c1,c2⟩ | ⟨c1,c2⟩
  .rw[c2];have:=h.Rr a c1;show _<=e.Ah+1;omega
  .rw[c2];exact QCm _
 .intro a l
  rcases g a l with⟨c1,c2⟩ | ⟨c1,c2⟩
  .rw[c2];exact (h.runs a c1).mono (show e.timers<=e.timers+1 by omega) (QCm _) (QCm _)
  .rw[c2]
   refine⟨hf,Zb9 e f,by simp[Ab.fresh],by simp[Ab.fresh],by simp[Ab.fresh],QCm _,h.Xs,by show 0<=Zao _ _;omega,q.2.2,fun _=>q.1,by show 0<=e.timers+1;omega,QCm _,?_,fun x=>absurd rfl x⟩;intro k hk;rw[Zb9] at hk;rw[Zdk e f hk];have hb:=hf.node k hk;have:=hb.bu1;show Hr f k e.time (e.timers+1) e.Ai Hk;unfold Hk;exact⟨by simp,by simp,by simp,by simp only;omega,fun _=>rfl,fun x=>by simp at x,fun x=>by simp at x,fun x=>by simp at x,by simp,by simp only;omega,by simp,by simp,by simp,by simp,fun x=>by simp at x,fun x=>by simp at x,fun x=>by simp at x,by simp,by simp only;omega,by simp,by simp only;omega⟩
 .intro p
  show p∈e.queue↔_;rw[h.qm p];constructor
  .rintro⟨i,q1,u⟩
   refine⟨i,by omega,?_⟩;rw[Zb4 e f q1];exact u
  .rintro⟨i,q1,u,r,s⟩
   rcases g i q1 with⟨c1,c2⟩ | ⟨c1,c2⟩
   .rw[c2] at u r s;exact⟨i,c1,u,r,s⟩
   .rw[c2] at r s
    rw[Zb9] at r;rw[Zdk e f r] at s;simp[Hk] at s
 .intro a l b hb j
  rcases m a (Zas.1 l) with a1 | a1<;>rcases m b (Zas.1 hb) with n | n
  .exact h.sq a (Zas.2 a1) b (Zas.2 n) j
  .have:=(h.Cr a1).1
   rw[n] at j;simp only at j;omega
  .have:=(h.Cr n).1
   rw[a1] at j;simp only at j;omega
  .rw[a1,n]
 .intro a b l hb
  rcases g a l with⟨c1,c2⟩ | ⟨c1,c2⟩<;>rcases g b hb with⟨d1,d2⟩ | ⟨d1,d2⟩
  .rw[c2,d2];exact h.en a b c1 d1
  .rw[c2,d2]
   intro x y;have:(e.fresh f).ended=0:=rfl;omega
  .rw[c2]
   intro x;have:(e.fresh f).ended=0:=rfl;omega
  .intros;omega
theorem Aj.begin {e:Ab}(h:Aj e)(b:e.runs.length<6){f:Ad}(hf:BW f):Aj (e.begin f):=by
 have hw:=h.wk.more b hf;have hi:e.runs.length<(e.more f).runs.length:=by rw[Za5];omega
 obtain⟨g1,g2⟩:=hw.Bm hi (by rw[Zbl];rfl);rw[Du];refine⟨g1,fun j c=> ?_⟩;rw[g2.len,Za5] at c;by_cases a:j=e.runs.length
 .subst a
  intro _;have d:=hf.top.n1;have hn:0<((e.more f).at_ e.runs.length).steps.length:=by rw[Zbl,Zb9];omega
  refine⟨0,by rw[g2.steps];exact hn,?_⟩;rw[Hn hi hn,Zbl,Zdk e f (by omega)]
  split<;>simp[Hk]
 .rw[g2.others j (by rw[Za5];omega) a,Zb4 e f (by omega)]
  exact h.goes j (by omega)
theorem FY {e:Ab}(h:Aj e)(a:e.runs.length<6){f:Ad}(hf:BW f):(e.begin f).time=e.time/\(e.begin f).Ar=e.Ar/\(e.begin f).Ah=e.Ah+1/\(e.begin f).Ai=e.Ai/\(e.begin f).timers=e.timers+1/\(e.begin f).ends=e.ends/\(e.begin f).runs.length=e.runs.length+1:=by
 have hi:e.runs.length<(e.more f).runs.length:=by rw[Za5];omega
 obtain⟨_,g⟩:=(h.wk.more a hf).Bm hi (by rw[Zbl];rfl);rw[Du];exact⟨g.time,g.Ar,g.Ah,g.Ai,g.timers,g.ends,by rw[g.len,Za5]⟩
theorem LI {α:Type}{z:α}(l:List α)(b i:Nat)(hb:b<l.length):(l.take b++l.drop (b+1)).getD i z=l.getD (if i<b then i else i+1) z:=by
 rw[ZQ,ZQ]
 congr 1
 by_cases h:i<b
 .rw[if_pos h,QBg (by rw[QBf];omega),List.getElem?_take_of_lt h]
 .rw[if_neg h,QBe (by rw[QBf];omega),List.getElem?_drop,QBf]
  congr 1
  omega
def Ab.cut (e:Ab)(o:Nat):Ab:={ e with runs:=e.runs.take o++e.runs.drop (o+1) }
theorem Zer (e:Ab)(a:o<e.runs.length):(e.cut o).runs.length+1=e.runs.length:=by
 show (e.runs.take o++e.runs.drop (o+1)).length+1=_;rw[ZX,QBf,List.length_drop];omega
theorem Gd (e:Ab)(a:o<e.runs.length)(i:Nat):(e.cut o).at_ i=e.at_ (if i<o then i else i+1):=LI (z:=Ag.z) e.runs o i a
theorem Aj.cut {e:Ab}(h:Aj e)(s:o<e.runs.length)(v:(e.at_ o).st≠1):Aj (e.cut o):=by
 have hl:=Zer e s;have g:=Gd e s;have lt:∀i,i<(e.cut o).runs.length->(if i<o then i else i+1)<e.runs.length:=fun i hi=>by split<;>omega
 have back:∀j,j<e.runs.length->j≠o->∃i,i<(e.cut o).runs.length/\(if i<o then i else i+1)=j:=fun j B hn=>by
  by_cases c:j<o
  .exact⟨j,by omega,by rw[if_pos c]⟩
  .exact⟨j - 1,by omega,by rw[if_neg (by omega)];omega⟩
 have inj:∀i j,(if i<o then i else i+1)=(if j<o then j else j+1)->i=j:=fun i j=>by split<;>split<;>omega
 have m:∀d,BV (e.cut o) d->BV e ⟨if d.i<o then d.i else d.i+1,d.k,d.sign,d.tm,d.sq⟩:=by
  rintro d ⟨d1,d2,d3⟩;rw[g] at d2 d3;exact⟨lt _ d1,d2,d3⟩
 refine⟨⟨h.wk.t0,h.wk.tB,h.wk.tm0,h.wk.lr0,h.wk.Xt,h.wk.Xs,by have:=h.wk.WL;omega,?_,?_,?_,?_,h.wk.qn,?_,?_,?_⟩,?_⟩
 .intro a b n hb
  rw[g,g];exact h.wk.up _ _ (by split<;>split<;>omega) (lt b hb)
 .intro a l;rw[g];exact h.wk.Uc _ (lt a l)
 .intro a l;rw[g];exact h.wk.Rr _ (lt a l)
 .intro a l;rw[g];exact h.wk.runs _ (lt a l)
 .intro p
  show p∈e.queue↔_;rw[h.wk.qm p];constructor
  .rintro⟨j,q1,q,u,w⟩
   have r:j≠o:=fun x=>by subst x;have:=(h.wk.runs j q1).over v p.node u;omega
   obtain⟨i,i1,i2⟩:=back j q1 r;refine⟨i,i1,?_⟩;rw[g,i2];exact⟨q,u,w⟩
  .rintro⟨i,q1,q⟩
   rw[g] at q;exact⟨_,lt i q1,q⟩
 .intro a l b hb n
  have:=h.wk.sq _ (Zas.2 (m a (Zas.1 l))) _ (Zas.2 (m b (Zas.1 hb))) n;simp only[CL.mk.injEq] at this;obtain⟨x1,x2,x3,z,A⟩:=this;have:=inj _ _ x1
  cases a;cases b
  simp only at *;subst this x2 x3 z A
  rfl
 .intro a b l hb
  rw[g,g];intro x y;exact inj _ _ (h.wk.en _ _ (lt a l) (lt b hb) x y)
 .intro i hi
  rw[g];exact h.goes _ (lt i hi)
theorem DM {l:List Ag}:∀{k o:Nat},Zdb l k=some o->o<k/\0<(l.getD o .z).ended/\∀j,j<k->0<(l.getD j .z).ended->(l.getD o .z).ended<=(l.getD j .z).ended:=by
 intro k
 induction k with
 | zero=>intro o h;cases h
 | succ k p =>
  intro o h;unfold Zdb at h
  cases hk:Zdb l k with
  | none =>
   rw[hk] at h;simp only at h
   split at h
   .rename_i q
    cases h
    refine⟨by omega,q,fun j c a=> ?_⟩;by_cases e:j=k
    .subst e;exact QCm _
    .exfalso
     clear p
     have:∀m,Zdb l m=none->∀j,j<m->¬0<(l.getD j .z).ended:=by
      intro m
      induction m with
      | zero=>intro _ j c;omega
      | succ m d =>
       intro hm j c;unfold Zdb at hm
       cases b:Zdb l m with
       | none =>
        rw[b] at hm;simp only at hm
        split at hm
        .cases hm
        .rename_i s
         by_cases e:j=m
         .subst e;exact s
         .exact d b j (by omega)
       | some x=>rw[b] at hm;simp only at hm;split at hm<;>cases hm
     exact this k hk j (by omega) a
   .cases h
  | some x =>
   rw[hk] at h;obtain⟨u,r,g⟩:=p hk;simp only at h
   split at h
   .rename_i n
    cases h
    refine⟨by omega,n.1,fun j c a=> ?_⟩;by_cases e:j=k
    .subst e;exact QCm _
    .have:=g j (by omega) a;omega
   .rename_i n
    cases h
    refine⟨by omega,r,fun j c a=> ?_⟩;by_cases e:j=k
    .subst e;omega
    .exact g j (by omega) a
theorem OI {l:List Ag}:∀{k:Nat},Zdb l k=none->∀j,j<k->¬0<(l.getD j .z).ended:=by
 intro m
 induction m with
 | zero=>intro _ j c;omega
 | succ m b =>
  intro hm j c;unfold Zdb at hm
  cases a:Zdb l m with
  | none =>
   rw[a] at hm;simp only at hm
   split at hm
   .cases hm
   .rename_i d
    by_cases e:j=m
    .subst e;exact d
    .exact b a j (by omega)
  | some x=>rw[a] at hm;simp only at hm;split at hm<;>cases hm
theorem Aj.AM {e e':Ab}(h:Aj e){f:Ad}(hf:BW f)(he:e.AM f=some e'):Aj e'/\e'.time=e.time/\e'.Ar=e.Ar/\e'.Ah=e.Ah+1/\e'.Ai=e.Ai/\e'.timers=e.timers+1/\e'.ends=e.ends:=by
 have p:=h.wk.WL;unfold Ab.AM at he
 split at he
 .rename_i hl
  split at he
  .cases he
  .rename_i o n
   cases he
   obtain⟨o1,o2,_⟩:=DM n
   have j:(e.at_ o).st≠1:=fun x=>by
    have:=(h.wk.runs o o1).goes.1 x;unfold Ab.at_ at this;omega
   have l:=h.cut o1 j;have m:=Zer e o1;have hb:=l.begin (by omega) hf;obtain⟨a,b,c,d,g,k,_⟩:=FY l (by omega) hf;exact⟨hb,a,b,c,d,g,k⟩
 .cases he
  obtain⟨a,b,c,d,g,k,_⟩:=FY h (by omega) hf;exact⟨h.begin (by omega) hf,a,b,c,d,g,k⟩
