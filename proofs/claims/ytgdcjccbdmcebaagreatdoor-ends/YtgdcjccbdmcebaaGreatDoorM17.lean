import Derived.Test.YtgdcjccbdmcebaaGreatDoorM16
import Derived.Shelf.Small.Bits
import Derived.Deep.Upon
import Derived.Lib.ItoaNum
set_option linter.unusedSimpArgs false
set_option linter.unusedVariables false
set_option maxHeartbeats 8000000
set_option maxRecDepth 100000
open Go.Proofs.Tryz
namespace Go.Proofs.YtgdcjccbdmcebaaGreatDoor
open Go.RowKit Go.Shelf
def Aw (w:World)(a:Option Addr)(n cap:Nat)(f:Nat->Nat):Prop :=
 n=0\/(∃b o,a=some ⟨b,o,none⟩/\n<=cap/\cap<=maxLen/\b<w.heap.size/\∀k,k<n->w.cell? ⟨b,o+k,none⟩=some (.int .u8 (f k))/\f k<256)
def Gu (x:Nat):Nat:=if x=0 then 0 else Nat.log2 x+1
theorem Gc (x k:Nat):Gu x<=k↔x<2 ^ k:=by
 unfold Gu
 split
 ·rename_i h;subst h;exact⟨fun _=>Nat.two_pow_pos _,fun _=>Nat.zero_le _⟩
 ·rename_i h;exact Nat.log2_lt h
def Gt (f:Nat->Nat):Nat->Nat
 | 0=>0
 | i+1=>Gt f i+f i % 128 * 2 ^ (7 * i)
theorem JE (f:Nat->Nat)(i:Nat):Gt f i<2 ^ (7 * i):=by
 induction i with
 | zero=>simp[Gt]
 | succ i d =>
  have a:f i % 128<128:=Nat.mod_lt _ (by decide);have b:2 ^ (7 * (i+1))=128 * 2 ^ (7 * i):=by rw[Nat.mul_add,Nat.pow_add];omega
  have c:f i % 128 * 2 ^ (7 * i)<=127 * 2 ^ (7 * i):=Nat.mul_le_mul_right _ (by omega);unfold Gt;omega
def FR (f:Nat->Nat)(i:Nat):Prop:=(∀j,j<i->128<=f j)/\f i<128/\(i=0\/0<f i)/\7 * i+Gu (f i)<=64
def DZ (f:Nat->Nat)(m:Nat)(x:Int)(k:Nat)(ok:Bool):Prop :=
 (∃i,i<m/\FR f i/\x=(Gt f (i+1):Int)/\k=i+1/\ok=true)\/((∀i,i<m->¬FR f i)/\x=0/\k=0/\ok=false)
def Lf:Go.Shelf.Ren:=⟨fun | 126=>293 | n=>n,fun | 3=>3 | 5=>5 | 9=>9 | n=>n,fun | n=>n⟩
theorem Tn:Go.Proofs.Lays.n126 prog Lf:={
 mixed:=by kernel_rfl
 f126:=Tryz.func293.trans (congrArg some (by kernel_rfl))
 t3:=underlying3
 a3:=Tryz.isAgg3
 z3:=Tryz.sizeOf3
 v3:=Tryz.zeroValue3
 t5:=underlying5
 a5:=Tryz.isAgg5
 z5:=Tryz.sizeOf5
 v5:=Tryz.zeroValue5
 t9:=underlying9
 a9:=Tryz.isAgg9
 z9:=Tryz.sizeOf9
 v9:=Tryz.zeroValue9 }
theorem PH (x:Nat)(h:x<256):Lib.bitLen x=Gu x:=by
 by_cases a:x=0
 ·subst a;rfl
 ·obtain⟨d,f,c⟩:=Lib.bitLenAux_bounds 64 x (by omega) a
  have e:Lib.bitLen x=Lib.bitLenAux 64 x:=rfl;rw[e]
  generalize Lib.bitLenAux 64 x=L at *
  apply Nat.le_antisymm
  ·rcases Nat.lt_or_ge (Gu x) L with b | b
   ·have g:x<2 ^ (L - 1):=(Gc x (L - 1)).1 (by omega)
    omega
   ·exact b
  ·exact (Gc x L).2 c
theorem OK (x:Nat)(w:World)(a:x<256) :
  Calls prog 293 #[.int .u8 x] w fun e w'=>e= .returned (.int .i64 (Gu x))/\w'=w:=by
 have h:=Any.bits_Len8 Tn (x:Int) w (by omega) (by omega);refine h.mono ?_;rintro e w' ⟨rfl,rfl⟩;refine⟨?_,rfl⟩;rw[Int.toNat_natCast,PH x a]
set_option maxRecDepth 1000000 in
theorem Uw:∀x:Fin 256,bits .and .u8 (x.val:Int) 127=(x.val:Int) % 128:=by decide
theorem Rq (y:Nat)(h:y<256):bits .and .u8 (y:Int) 127=((y % 128:Nat):Int):=(Uw ⟨y,h⟩).trans rfl
theorem or_val {v c i:Nat}(l:v<2 ^ (7 * i))(hi:i<=9)(k:i=9->c % 128<=1):bits .or .u64 (v:Int) (IntKind.u64.wrap ((c:Int) % 128 * 2 ^ (7 * i)))=((v+c % 128 * 2 ^ (7 * i):Nat):Int):=by
 have hp:i<=8->2 ^ (7 * i)<=72057594037927936:=fun h=>by
  have:2 ^ (7 * i)<=2 ^ 56:=Nat.pow_le_pow_right (by decide) (by omega);omega
 have a:i=9->2 ^ (7 * i)=9223372036854775808:=by rintro rfl;rfl
 have m:c % 128 * 2 ^ (7 * i)<18446744073709551616:=by
  by_cases e:i=9
  ·have j:=k e
   have d:=a e;rw[d];omega
  ·have j:=hp (by omega)
   have d:c % 128<128:=Nat.mod_lt _ (by decide);have n:c % 128 * 2 ^ (7 * i)<=127 * 2 ^ (7 * i):=Nat.mul_le_mul_right _ (by omega);omega
 have b:v<18446744073709551616:=by
  by_cases e:i=9
  ·have:=a e;omega
  ·have:=hp (by omega);omega
 have f:(c:Int) % 128 * 2 ^ (7 * i)=((c % 128 * 2 ^ (7 * i):Nat):Int):=by norm_cast
 rw[f,IntKind.wrap_u64];have g:((c % 128 * 2 ^ (7 * i):Nat):Int) % 18446744073709551616=((c % 128 * 2 ^ (7 * i):Nat):Int):=by omega
 rw[g,bits_or_u64_nat _ _ b m]
 congr 1
 rw[Nat.or_comm,Nat.mul_comm (c % 128),<-Nat.two_pow_add_eq_or_of_lt l];omega
theorem MT {f:Nat->Nat}{i:Nat}(h:∀j,j<i->128<=f j)(b:f i<128)(a:¬FR f i)(k:Nat):¬FR f k:=by
 intro e;rcases Nat.lt_trichotomy k i with g | rfl | g
 ·have:=h k g;have:=e.2.1;omega
 ·exact a e
 ·have:=e.1 i g;omega
theorem WK (w:World)(a:Option Addr)(n cap d:Nat)(f:Nat->Nat)(hn:n<=maxLen)(hm:d<=10)(I:Aw w a n cap f) :
  Calls prog 283 #[.slice a n cap, .int .i64 d] w fun e w'=>∃x k ok,e= .returned (.tuple #[.int .u64 x, .int .i64 (k:Nat), .bool ok])/\DZ f (min n d) x k ok/\w'=w:=by
 obtain⟨m,y⟩:∃m,m=min n d:=⟨_,rfl⟩;have T:=Zz I
 have ag:m<=cap:=by
  rcases I with h | ⟨b,o,_,h,_⟩
  ·omega
  ·omega
 unfold maxLen at hn;have V:(m:Int)<=(cap:Int):=by omega
 have U:m<=10:=by omega
 by_cases ae:d<n
 ·have A:=Zz (show m=min n d from y)
  obtain rfl:d=m:=by omega
  clear I y
  go_enter func283,ntmps283
  go_wp2_with fail
  go_loopw [4,17] (fun R E wr=>∃(i:Nat) (v:Int),E= .int .i64 i/\R= .int .u64 v/\i<=d/\((∀j,j<i->128<=f j)/\(i<=9->v=(Gt f i:Nat)))/\wr=w) (fun _ E _=>d - (intOf E).toNat)
  case atStart=>exact⟨0,0,rfl,rfl,by omega,⟨fun j G=>by omega,fun _=>rfl⟩,rfl⟩
  case round =>
   obtain⟨i,v,rfl,rfl,hi,z,rfl⟩:=hrel;have q:=Zz z;clear z;by_cases h1:i<d
   ·rcases T.o with h0 | ⟨ab,W,rfl,P,Q,N,l⟩
    ·omega
    obtain⟨S,z0⟩:=l i (by omega);have e0:=Rq (f i) z0;have X:IntKind.i64.wrap (7 * (i:Int))=((7 * i:Nat):Int):=by rw[IntKind.wrap_i64];omega
    have hlen:=OK (f i) wr z0;have HL:=Zz hlen;obtain⟨c,C⟩:∃c,c=f i:=⟨_,rfl⟩;rw[<-C] at S z0 e0;have g:=Zz C;clear l hlen C;by_cases h2:127<c
    ·have g2:decide ((127:Int)<(c:Int))=true:=decide_eq_true (by omega)
     go_wp2_with fail
     go_roundw
     case rel =>
      refine⟨i+1,_,by go_num,rfl,by omega,⟨fun j G=> ?_,fun h9=> ?_⟩,by trivial⟩
      ·by_cases K:j=i
       ·subst K;rw[<-g.o];omega
       ·exact q.o.1 j (by omega)
      ·rw[q.o.2 (by omega),or_val (JE f i) (by omega) (by omega),g.o]
       rfl
     case measure=>simp[intOf];omega
    ·have g2:decide ((127:Int)<(c:Int))=false:=decide_eq_false (by omega)
     by_cases L:c=0/\0<i
     ·have g3:((c:Int) == 0)=true:=by simp[L.1]
      have g4:decide ((0:Int)<(i:Int))=true:=decide_eq_true (by omega);go_wp2_with fail
      go_ret3
      refine⟨0,0,false,rfl,Zj ⟨fun j _=>MT q.o.1 (by rw[<-g.o];omega) (fun e=> ?_) j,rfl,rfl,rfl⟩,rfl⟩;have:=e.2.2.1;rw[<-g.o] at this;omega
     ·have O:Gu c<=8:=(Gc c 8).2 z0
      have Y:IntKind.i64.wrap (((7 * i:Nat):Int)+((Gu c:Nat):Int))=((7 * i+Gu c:Nat):Int):=by rw[IntKind.wrap_i64];omega
      rw[<-g.o] at HL;have u:i<=9:=by omega
      have z:=q.o.2 u;subst z;by_cases M:7 * i+Gu c<=64
      ·have g5:decide ((64:Int)<((7 * i+Gu c:Nat):Int))=false:=decide_eq_false (by omega)
       have B:decide ((64:Int)<7 * (i:Int)+(Gu c:Int))=false:=decide_eq_false (by omega)
       have D:=or_val (c:=c) (JE f i) u (fun Z=>by
        have:Gu c<=1:=by omega
        have:=(Gc c 1).1 this;omega)
       have s:=Zz (show Gt f i+c % 128 * 2 ^ (7 * i)=Gt f (i+1) by rw[g.o];rfl);rw[s.o] at D;have F:=Zz (show FR f i from⟨q.o.1,by rw[<-g.o];omega,by rw[<-g.o];omega,by rw[<-g.o];exact M⟩);clear s;by_cases r:c=0
       ·have t:i=0:=by omega
        have g3:((c:Int) == 0)=true:=by simp[r]
        have g4:decide ((0:Int)<(i:Int))=false:=decide_eq_false (by omega);have J:=Zz t;clear r t;go_wp2_with (go_at_call 293;refine HL.o.mono ?_;rintro e H ⟨rfl,p⟩;rw[p])
        go_ret3
        have t:=J.o;subst t;exact⟨_,1,true,rfl,Zu ⟨0,by have:=A.o;omega,F.o,rfl,rfl,rfl⟩,rfl⟩
       ·have g3:((c:Int) == 0)=false:=by simpa using r
        go_wp2_with (go_at_call 293;refine HL.o.mono ?_;rintro e H ⟨rfl,p⟩;rw[p])
        go_ret3
        exact⟨_,i+1,true,rfl,Zu ⟨i,by have:=A.o;omega,F.o,rfl,rfl,rfl⟩,rfl⟩
      ·have g5:decide ((64:Int)<((7 * i+Gu c:Nat):Int))=true:=decide_eq_true (by omega)
       have B:decide ((64:Int)<7 * (i:Int)+(Gu c:Int))=true:=decide_eq_true (by omega);have r:c≠0:=by rintro rfl;have:Gu 0=0:=rfl;omega
       have g3:((c:Int) == 0)=false:=by simpa using r
       go_wp2_with (go_at_call 293;refine HL.o.mono ?_;rintro e H ⟨rfl,p⟩;rw[p])
       go_ret3
       refine⟨0,0,false,rfl,Zj ⟨fun j _=>MT q.o.1 (by rw[<-g.o];omega) (fun e=> ?_) j,rfl,rfl,rfl⟩,rfl⟩;have:=e.2.2.2;rw[<-g.o] at this;omega
   ·obtain rfl:i=d:=by omega
    go_wp2_with fail
    go_ret3
    refine⟨0,0,false,rfl,Zj ⟨fun j G e=> ?_,rfl,rfl,rfl⟩,rfl⟩;have r:=q.o.1 j (by have:=A.o;omega);have t:=e.2.1;omega
 ·have A:=Zz (show m=min n d from y)
  obtain rfl:n=m:=by omega
  clear I y
  go_enter func283,ntmps283
  go_wp2_with fail
  go_loopw [4,17] (fun R E wr=>∃(i:Nat) (v:Int),E= .int .i64 i/\R= .int .u64 v/\i<=n/\((∀j,j<i->128<=f j)/\(i<=9->v=(Gt f i:Nat)))/\wr=w) (fun _ E _=>n - (intOf E).toNat)
  case atStart=>exact⟨0,0,rfl,rfl,by omega,⟨fun j G=>by omega,fun _=>rfl⟩,rfl⟩
  case round =>
   obtain⟨i,v,rfl,rfl,hi,z,rfl⟩:=hrel;have q:=Zz z;clear z;by_cases h1:i<n
   ·rcases T.o with h0 | ⟨ab,W,rfl,P,Q,N,l⟩
    ·omega
    obtain⟨S,z0⟩:=l i (by omega);have e0:=Rq (f i) z0;have X:IntKind.i64.wrap (7 * (i:Int))=((7 * i:Nat):Int):=by rw[IntKind.wrap_i64];omega
    have hlen:=OK (f i) wr z0;have HL:=Zz hlen;obtain⟨c,C⟩:∃c,c=f i:=⟨_,rfl⟩;rw[<-C] at S z0 e0;have g:=Zz C;clear l hlen C;by_cases h2:127<c
    ·have g2:decide ((127:Int)<(c:Int))=true:=decide_eq_true (by omega)
     go_wp2_with fail
     go_roundw
     case rel =>
      refine⟨i+1,_,by go_num,rfl,by omega,⟨fun j G=> ?_,fun h9=> ?_⟩,by trivial⟩
      ·by_cases K:j=i
       ·subst K;rw[<-g.o];omega
       ·exact q.o.1 j (by omega)
      ·rw[q.o.2 (by omega),or_val (JE f i) (by omega) (by omega),g.o]
       rfl
     case measure=>simp[intOf];omega
    ·have g2:decide ((127:Int)<(c:Int))=false:=decide_eq_false (by omega)
     by_cases L:c=0/\0<i
     ·have g3:((c:Int) == 0)=true:=by simp[L.1]
      have g4:decide ((0:Int)<(i:Int))=true:=decide_eq_true (by omega);go_wp2_with fail
      go_ret3
      refine⟨0,0,false,rfl,Zj ⟨fun j _=>MT q.o.1 (by rw[<-g.o];omega) (fun e=> ?_) j,rfl,rfl,rfl⟩,rfl⟩;have:=e.2.2.1;rw[<-g.o] at this;omega
     ·have O:Gu c<=8:=(Gc c 8).2 z0
      have Y:IntKind.i64.wrap (((7 * i:Nat):Int)+((Gu c:Nat):Int))=((7 * i+Gu c:Nat):Int):=by rw[IntKind.wrap_i64];omega
      rw[<-g.o] at HL;have u:i<=9:=by omega
      have z:=q.o.2 u;subst z;by_cases M:7 * i+Gu c<=64
      ·have g5:decide ((64:Int)<((7 * i+Gu c:Nat):Int))=false:=decide_eq_false (by omega)
       have B:decide ((64:Int)<7 * (i:Int)+(Gu c:Int))=false:=decide_eq_false (by omega)
       have D:=or_val (c:=c) (JE f i) u (fun Z=>by
        have:Gu c<=1:=by omega
        have:=(Gc c 1).1 this;omega)
       have s:=Zz (show Gt f i+c % 128 * 2 ^ (7 * i)=Gt f (i+1) by rw[g.o];rfl);rw[s.o] at D;have F:=Zz (show FR f i from⟨q.o.1,by rw[<-g.o];omega,by rw[<-g.o];omega,by rw[<-g.o];exact M⟩);clear s;by_cases r:c=0
       ·have t:i=0:=by omega
        have g3:((c:Int) == 0)=true:=by simp[r]
        have g4:decide ((0:Int)<(i:Int))=false:=decide_eq_false (by omega);have J:=Zz t;clear r t;go_wp2_with (go_at_call 293;refine HL.o.mono ?_;rintro e H ⟨rfl,p⟩;rw[p])
        go_ret3
        have t:=J.o;subst t;exact⟨_,1,true,rfl,Zu ⟨0,by have:=A.o;omega,F.o,rfl,rfl,rfl⟩,rfl⟩
       ·have g3:((c:Int) == 0)=false:=by simpa using r
        go_wp2_with (go_at_call 293;refine HL.o.mono ?_;rintro e H ⟨rfl,p⟩;rw[p])
        go_ret3
        exact⟨_,i+1,true,rfl,Zu ⟨i,by have:=A.o;omega,F.o,rfl,rfl,rfl⟩,rfl⟩
      ·have g5:decide ((64:Int)<((7 * i+Gu c:Nat):Int))=true:=decide_eq_true (by omega)
       have B:decide ((64:Int)<7 * (i:Int)+(Gu c:Int))=true:=decide_eq_true (by omega);have r:c≠0:=by rintro rfl;have:Gu 0=0:=rfl;omega
       have g3:((c:Int) == 0)=false:=by simpa using r
       go_wp2_with (go_at_call 293;refine HL.o.mono ?_;rintro e H ⟨rfl,p⟩;rw[p])
       go_ret3
       refine⟨0,0,false,rfl,Zj ⟨fun j _=>MT q.o.1 (by rw[<-g.o];omega) (fun e=> ?_) j,rfl,rfl,rfl⟩,rfl⟩;have:=e.2.2.2;rw[<-g.o] at this;omega
   ·obtain rfl:i=n:=by omega
    go_wp2_with fail
    go_ret3
    refine⟨0,0,false,rfl,Zj ⟨fun j G e=> ?_,rfl,rfl,rfl⟩,rfl⟩;have r:=q.o.1 j (by have:=A.o;omega);have t:=e.2.1;omega
theorem DZ.uniq {f:Nat->Nat}{m k k':Nat}{x c:Int}{ok a:Bool}(h:DZ f m x k ok)(g:DZ f m c k' a):x=c/\k=k'/\ok=a:=by
 rcases h with⟨i,hi,he,rfl,rfl,rfl⟩ | ⟨hn,rfl,rfl,rfl⟩
 ·rcases g with⟨j,b,ge,rfl,rfl,rfl⟩ | ⟨d,_⟩
  ·have:i=j:=by
    rcases Nat.lt_trichotomy i j with q | q | q
    ·have:=ge.1 i q;have:=he.2.1;omega
    ·exact q
    ·have:=he.1 j q;have:=ge.2.1;omega
   subst this;exact⟨rfl,rfl,rfl⟩
  ·exact absurd he (d i hi)
 ·rcases g with⟨j,b,ge,_⟩ | ⟨_,rfl,rfl,rfl⟩
  ·exact absurd ge (hn j b)
  ·exact⟨rfl,rfl,rfl⟩
theorem DZ.ex (f:Nat->Nat)(m:Nat):∃x k ok,DZ f m x k ok:=by
 by_cases h:∃i,i<m/\FR f i
 ·obtain⟨i,hi,he⟩:=h
  exact⟨_,_,_,Zu ⟨i,hi,he,rfl,rfl,rfl⟩⟩
 ·exact⟨0,0,false,Zj ⟨fun i hi he=>h ⟨i,hi,he⟩,rfl,rfl,rfl⟩⟩
theorem Pd (w:World)(a:Option Addr)(n cap b:Nat)(f:Nat->Nat)(hn:n<=maxLen)(hm:b<=10)(d:Aw w a n cap f){x:Int}{k:Nat}{ok:Bool}(h:DZ f (min n b) x k ok) :
  Calls prog 283 #[.slice a n cap, .int .i64 b] w fun e w'=>e= .returned (.tuple #[.int .u64 x, .int .i64 (k:Nat), .bool ok])/\w'=w:=by
 refine (WK w a n cap b f hn hm d).mono ?_;rintro e w' ⟨i,k',g,rfl,c,rfl⟩;obtain⟨rfl,rfl,rfl⟩:=h.uniq c;exact⟨rfl,rfl⟩
open Go.RowKit
def Zcg (n:Nat)(f:Nat->Nat)(p:Nat):Option (Nat×Nat) :=
 if n<=p then none else if f p<128 then some (f p,p+1) else
 if n<=p+1 then none else if f (p+1)<128 then (if f (p+1)=0 then none else some (f p % 128+f (p+1) * 128,p+2)) else
 if n<=p+2 then none else if f (p+2)<128 then (if f (p+2)=0 then none else some (f p % 128+f (p+1) % 128 * 128+f (p+2) * 16384,p+3)) else none
theorem Zcc {n:Nat}{f:Nat->Nat}{p v q:Nat}(h:Zcg n f p=some (v,q)):p<q/\q<=n/\v<=2097151:=by
 unfold Zcg at h
 split at h
 ·cases h
 split at h
 ·simp only[Option.some.injEq,Prod.mk.injEq] at h;omega
 split at h
 ·cases h
 split at h
 ·split at h
  ·cases h
  ·simp only[Option.some.injEq,Prod.mk.injEq] at h;omega
 split at h
 ·cases h
 split at h
 ·split at h
  ·cases h
  ·simp only[Option.some.injEq,Prod.mk.injEq] at h;omega
 ·cases h
theorem Kq (n:Nat)(f:Nat->Nat)(p:Nat) :
  (n<=p/\Zcg n f p=none) \/
  (p<n/\f p<128/\Zcg n f p=some (f p,p+1)) \/
  (p<n/\128<=f p/\n<=p+1/\Zcg n f p=none) \/
  (p+1<n/\128<=f p/\f (p+1)=0/\Zcg n f p=none) \/
  (p+1<n/\128<=f p/\0<f (p+1)/\f (p+1)<128/\Zcg n f p=some (f p % 128+f (p+1) * 128,p+2)) \/
  (p+1<n/\128<=f p/\128<=f (p+1)/\n<=p+2/\Zcg n f p=none) \/
  (p+2<n/\128<=f p/\128<=f (p+1)/\f (p+2)=0/\Zcg n f p=none) \/
  (p+2<n/\128<=f p/\128<=f (p+1)/\0<f (p+2)/\f (p+2)<128/\Zcg n f p=some (f p % 128+f (p+1) % 128 * 128+f (p+2) * 16384,p+3)) \/
  (p+2<n/\128<=f p/\128<=f (p+1)/\128<=f (p+2)/\Zcg n f p=none):=by
 unfold Zcg;by_cases i:n<=p
 ·simp[i]
 rw[if_neg i];by_cases a:f p<128
 ·rw[if_pos a];right;left;exact⟨by omega,a,rfl⟩
 rw[if_neg a];by_cases b:n<=p+1
 ·rw[if_pos b];right;right;left;exact⟨by omega,by omega,b,rfl⟩
 rw[if_neg b];by_cases c:f (p+1)<128
 ·rw[if_pos c]
  by_cases d:f (p+1)=0
  ·rw[if_pos d];right;right;right;left;exact⟨by omega,by omega,d,rfl⟩
  ·rw[if_neg d];right;right;right;right;left;exact⟨by omega,by omega,by omega,c,rfl⟩
 rw[if_neg c];by_cases e:n<=p+2
 ·rw[if_pos e];right;right;right;right;right;left;exact⟨by omega,by omega,by omega,e,rfl⟩
 rw[if_neg e];by_cases g:f (p+2)<128
 ·rw[if_pos g]
  by_cases h:f (p+2)=0
  ·rw[if_pos h];right;right;right;right;right;right;left;exact⟨by omega,by omega,by omega,h,rfl⟩
  ·rw[if_neg h];right;right;right;right;right;right;right;left;exact⟨by omega,by omega,by omega,by omega,g,rfl⟩
 ·rw[if_neg g];right;right;right;right;right;right;right;right;exact⟨by omega,by omega,by omega,by omega,rfl⟩
structure FG (w w':World)(R:Nat):Prop where
 os:w'.os=w.os
 tape:w'.tape=w.tape
 output:w'.output=w.output
 size:w'.heap.size=w.heap.size
 block:∀k,k≠R->w'.heap[k]? =w.heap[k]?
theorem FG.refl (w:World)(R:Nat):FG w w R:=⟨rfl,rfl,rfl,rfl,fun _ _=>rfl⟩
theorem FG.set {w w':World}{R:Nat}(h:FG w w' R)(o:Nat)(v:Value):FG w (w'.setCell ⟨R,o,none⟩ v) R :=
 ⟨h.os,h.tape,h.output,by rw[<-h.size];simp[World.setCell],fun k a=>(Zl w' ⟨R,o,none⟩ v k a).trans (h.block k a)⟩
theorem FG.drewN {w w':World}{R:Nat}(h:FG w w' R)(q:Nat):FG w (w'.drewN q) R:=⟨h.os,h.tape,h.output,h.size,h.block⟩
section
open Go.RowKit
structure Cd (w:World)(R:Nat)(a:Option Addr)(n cap:Nat)(p:Int):Prop where
 c0:w.cell? ⟨R,0,none⟩=some (.slice a n cap)
 c1:w.cell? ⟨R,1,none⟩=some (.int .i64 p)
 f1:w.frozen? ⟨R,1,none⟩=false
def KW (w:World)(R:Nat)(a:Option Addr)(n cap:Nat):Prop:=∃p,Cd w R a n cap p
theorem KW.drewN {w:World}{R:Nat}{a:Option Addr}{n cap:Nat}(h:KW w R a n cap)(k:Nat):KW (w.drewN k) R a n cap:=by obtain⟨p,hp⟩:=h;exact⟨p,hp.c0,hp.c1,hp.f1⟩
theorem KW.at' {w:World}{R:Nat}{a:Option Addr}{n cap:Nat}(h:KW w R a n cap){v v':Int}(b:v=v'):Cd (w.setCell ⟨R,1,none⟩ (.int .i64 v)) R a n cap v':=by
 obtain⟨p,hp⟩:=h;subst b;refine⟨?_,World.cell?_setCell_same _ _ _ hp.c1,by rw[World.frozen?_setCell];exact hp.f1⟩;rw[World.cell?_setCell_other _ _ _ _ (by simp)];exact hp.c0
theorem KW.Bt {w:World}{R:Nat}{a:Option Addr}{n cap:Nat}(h:KW w R a n cap)(v:Int):KW (w.setCell ⟨R,1,none⟩ (.int .i64 v)) R a n cap:=⟨v,h.at' rfl⟩
def PnumIs (w':World)(R:Nat)(a:Option Addr)(n cap:Nat)(f:Nat->Nat)(p:Nat)(e:Ending):Prop :=
 (∃v q,Zcg n f p=some (v,q)/\e= .returned (.int .i64 (v:Nat))/\Cd w' R a n cap (q:Nat)) \/
 (Zcg n f p=none/\e= .panicked [{ v:= .iface 412 (.int .i64 (p:Nat)),recovered:=false }]/\KW w' R a n cap)
theorem Hv {x:Nat}(h:x<128):Gu x<=7:=(Gc x 7).2 h
theorem QQ {n p k:Nat}{f:Nat->Nat}{x:Int}{ok:Bool}(h:DZ (fun j=>f (p+j)) (min (n - p) 3) x k ok):(ok=true/\∃v,Zcg n f p=some (v,p+k)/\x=(v:Int))\/(ok=false/\Zcg n f p=none):=by
 rcases h with⟨i,hi,⟨m,g,o,_⟩,rfl,rfl,rfl⟩ | ⟨l,rfl,rfl,rfl⟩
 ·refine Zu ⟨rfl,Gt (fun j=>f (p+j)) (i+1),?_,rfl⟩
  match i,hi with
  | 0,hi =>
   simp only[Nat.add_zero] at g;unfold Zcg;rw[if_neg (by omega),if_pos g];simp only[Gt,Nat.zero_add,Nat.add_zero,Nat.mul_zero,Nat.pow_zero,Nat.mul_one];rw[Nat.mod_eq_of_lt g]
  | 1,hi =>
   have c:=m 0 (by omega);simp only[Nat.add_zero] at c
   have d:f (p+1)≠0:=by
    rcases o with h | h
    ·omega
    ·exact Nat.ne_of_gt h
   unfold Zcg;rw[if_neg (by omega),if_neg (by omega),if_neg (by omega),if_pos g,if_neg d];simp only[Gt,Nat.zero_add,Nat.add_zero,Nat.mul_zero,Nat.pow_zero,Nat.mul_one];rw[Nat.mod_eq_of_lt g]
  | 2,hi =>
   have c:=m 0 (by omega);have b:=m 1 (by omega);simp only[Nat.add_zero] at c
   have d:f (p+2)≠0:=by
    rcases o with h | h
    ·omega
    ·exact Nat.ne_of_gt h
   unfold Zcg;simp only[] at b;rw[if_neg (by omega),if_neg (by omega),if_neg (by omega),if_neg (by omega),if_neg (by omega),if_pos g,if_neg d];simp only[Gt,Nat.zero_add,Nat.add_zero,Nat.mul_zero,Nat.pow_zero,Nat.mul_one];rw[Nat.mod_eq_of_lt g]
  | i+3,hi=>omega
 ·refine Zj ⟨rfl,?_⟩
  rcases Kq n f p with⟨c,a⟩ | ⟨c,b,a⟩ | ⟨c,b,e,a⟩ | ⟨c,b,e,a⟩ | ⟨c,b,e,d,a⟩ | ⟨c,b,e,d,a⟩ | ⟨c,b,e,d,a⟩ | ⟨c,b,e,d,q,a⟩ | ⟨c,b,e,d,a⟩
  ·exact a
  ·exact absurd ⟨fun j r=>by omega,b,Zu rfl,by have:=Hv b;show 7 * 0+Gu (f (p+0))<=64;rw[Nat.add_zero];omega⟩ (l 0 (by omega))
  ·exact a
  ·exact a
  ·exact absurd ⟨fun j r=>by
    obtain rfl:j=0:=by omega
    exact b,d,Zj e,by have:=Hv d;show 7 * 1+Gu (f (p+1))<=64;omega⟩ (l 1 (by omega))
  ·exact a
  ·exact a
  ·exact absurd ⟨fun j r=>by
    rcases (by omega:j=0\/j=1) with rfl | rfl
    ·exact b
    ·exact e,q,Zj d,by have:=Hv q;show 7 * 2+Gu (f (p+2))<=64;omega⟩ (l 2 (by omega))
  ·exact a
theorem Aw.from_ {w:World}{b o n cap p:Nat}{f:Nat->Nat}(h:Aw w (some ⟨b,o,none⟩) n cap f)(hp:p<=n):Aw w (some (if cap=p then ⟨b,o,none⟩ else ⟨b,o+p,none⟩)) (n - p) (cap - p) (fun j=>f (p+j)):=by
 rcases h with h | ⟨a,g,he,i,l,c,d⟩
 ·exact Zu (by omega)
 ·obtain⟨rfl,rfl⟩:b=a/\o=g:=by simpa using he
  by_cases e:n=p
  ·exact Zu (by omega)
  ·rw[if_neg (by omega)]
   exact Zj ⟨b,o+p,rfl,by omega,by omega,c,fun k m=>by rw[Nat.add_assoc];exact d (p+k) (by omega)⟩
theorem Zc7 (w:World)(R:Nat)(a:Option Addr)(n cap:Nat)(f:Nat->Nat)(p:Nat)(hn:n<=maxLen)(hp:p<=n)(h:Cd w R a n cap p)(L:∀b o,a=some ⟨b,o,none⟩->b≠R)(u:Aw w a n cap f) :
  Calls prog 261 #[.pointer (some ⟨R,0,none⟩)] w fun e w'=>PnumIs w' R a n cap f p e/\FG w w' R:=by
 have r:=u;have I:=Zz u;unfold maxLen at hn;have H:=Zz h;obtain⟨c0,c1,f1⟩:=h;obtain⟨x,k,ok,C⟩:=DZ.ex (fun j=>f (p+j)) (min (n - p) 3);have q:=Zz (QQ C)
 have hle:ok=true->(p+k<=n/\0<k)/\(0<=x/\x<=2097151):=by
  intro e;rcases q.o with⟨_,v,y,J⟩ | ⟨y,_⟩
  ·have:=Zcc y;omega
  ·rw[y] at e;cases e
 by_cases G:p=n
 ·have F:ok=false:=by
   cases ok
   ·rfl
   ·have:=hle rfl;omega
  subst F;have e0:n - p=0:=by omega
  have t:=C;rw[e0] at t;have d:∀m A c,Calls prog 283 #[.slice A 0 c, .int .i64 3] (w.drewN m) fun e w'=>e= .returned (.tuple #[.int .u64 x, .int .i64 (k:Nat), .bool false])/\w'=w.drewN m:=fun m A c=>Pd (w.drewN m) A 0 c 3 _ (by omega) (by omega) (Zu rfl) t
  have l:=Zz d
  have i:n=0\/n<=cap:=by
   rcases u with h | ⟨_,_,_,h,_⟩
   ·exact Zu h
   ·exact Zj h
  subst G;clear d C t u r hle e0
  cases a with
  | none =>
   have E:p=0:=by
    rcases I.o with h | ⟨b,o,h,_⟩
    ·exact h
    ·cases h
   subst E
   go_enter func261,ntmps261
   go_wp2_with fail
   go_quiet ((go_at_call 283;refine Calls.quiet_of_same (l.o _ _ _)))
   go_wp2_with fail
   exact⟨rfl,Zj ⟨by rcases q.o with⟨h,_⟩ | ⟨_,h⟩;cases h;exact h,rfl,(by repeat (first | exact⟨_,H.o⟩ | refine KW.Bt ?_ _ | refine KW.drewN ?_ _))⟩,(by repeat (first | exact FG.refl _ _ | apply FG.set | apply FG.drewN))⟩
  | some a0 =>
   obtain⟨b,o,g⟩:=a0;rcases i with rfl | i
   ·go_enter func261,ntmps261
    go_wp2_with fail
    go_quiet ((go_at_call 283;refine Calls.quiet_of_same (l.o _ _ _)))
    go_wp2_with fail
    exact⟨rfl,Zj ⟨by rcases q.o with⟨h,_⟩ | ⟨_,h⟩;cases h;exact h,rfl,(by repeat (first | exact⟨_,H.o⟩ | refine KW.Bt ?_ _ | refine KW.drewN ?_ _))⟩,(by repeat (first | exact FG.refl _ _ | apply FG.set | apply FG.drewN))⟩
   ·by_cases D:cap=p
    ·subst D
     go_enter func261,ntmps261
     go_wp2_with fail
     go_quiet ((go_at_call 283;refine Calls.quiet_of_same (l.o _ _ _)))
     go_wp2_with fail
     exact⟨rfl,Zj ⟨by rcases q.o with⟨h,_⟩ | ⟨_,h⟩;cases h;exact h,rfl,(by repeat (first | exact⟨_,H.o⟩ | refine KW.Bt ?_ _ | refine KW.drewN ?_ _))⟩,(by repeat (first | exact FG.refl _ _ | apply FG.set | apply FG.drewN))⟩
    ·go_enter func261,ntmps261
     go_wp2_with fail
     go_quiet ((go_at_call 283;refine Calls.quiet_of_same (l.o _ _ _)))
     go_wp2_with fail
     exact⟨rfl,Zj ⟨by rcases q.o with⟨h,_⟩ | ⟨_,h⟩;cases h;exact h,rfl,(by repeat (first | exact⟨_,H.o⟩ | refine KW.Bt ?_ _ | refine KW.drewN ?_ _))⟩,(by repeat (first | exact FG.refl _ _ | apply FG.set | apply FG.drewN))⟩
 ·obtain⟨b,o,rfl,i,B,K,s⟩:=u.resolve_left (by omega)
  have d:∀m,Calls prog 283 #[.slice (some ⟨b,o+p,none⟩) (n - p) (cap - p), .int .i64 3] (w.drewN m) fun e w'=>e= .returned (.tuple #[.int .u64 x, .int .i64 (k:Nat), .bool ok])/\w'=w.drewN m:=fun m=>by
   have z:=r.from_ (p:=p) (by omega);rw[if_neg (by omega)] at z;exact Pd (w.drewN m) _ (n - p) (cap - p) 3 _ (by unfold maxLen;omega) (by omega) z C
  have l:=Zz d;have g1:(p:Int)<=(n:Int):=by omega
  have g2:¬(cap=p):=by omega
  clear d C u r s
  cases ok with
  | false =>
   clear hle
   go_enter func261,ntmps261
   go_wp2_with fail
   go_quiet ((go_at_call 283;refine Calls.quiet_of_same (l.o _)))
   go_wp2_with fail
   exact⟨rfl,Zj ⟨by rcases q.o with⟨h,_⟩ | ⟨_,h⟩;cases h;exact h,rfl,(by repeat (first | exact⟨_,H.o⟩ | refine KW.Bt ?_ _ | refine KW.drewN ?_ _))⟩,(by repeat (first | exact FG.refl _ _ | apply FG.set | apply FG.drewN))⟩
  | true =>
   have M:=hle rfl;have g3:IntKind.i64.wrap ((p:Int)+(k:Int))=((p+k:Nat):Int):=by unfold maxLen at B;rw[IntKind.wrap_i64];omega
   have g4:wrap64 x=x:=by unfold wrap64;omega
   clear hle
   go_enter func261,ntmps261
   go_wp2_with fail
   go_quiet ((go_at_call 283;refine Calls.quiet_of_same (l.o _)))
   go_wp2_with fail
   go_ret
   rcases q.o with⟨_,v,y,J⟩ | ⟨h,_⟩
   ·refine⟨Zu ⟨v,p+k,y,ri (by omega),(by refine KW.at' ?_ (by omega);repeat (first | exact⟨_,H.o⟩ | refine KW.Bt ?_ _ | refine KW.drewN ?_ _))⟩,(by repeat (first | exact FG.refl _ _ | apply FG.set | apply FG.drewN))⟩
   ·cases h
end
section
open Go.RowKit
inductive RS where
 | AA (p s:Nat)
 | bad (s:Nat)
def LU (n:Nat)(f:Nat->Nat):RS->RS
 | .AA p _=>match Zcg n f p with
  | some (_,q)=> .AA q p
  | none=> .bad p
 | .bad s=> .bad s
def BI (n:Nat)(f:Nat->Nat):RS->Nat
 | .AA p _=>match Zcg n f p with
  | some (v,_)=>v
  | none=>0
 | .bad _=>0
theorem Zcb {n:Nat}{f:Nat->Nat}{p s v q:Nat}(h:Zcg n f p=some (v,q)):LU n f (.AA p s)= .AA q p:=by simp[LU,h]
theorem Zca {n:Nat}{f:Nat->Nat}{p s v q:Nat}(h:Zcg n f p=some (v,q)):BI n f (.AA p s)=v:=by simp[BI,h]
theorem Zcs {n:Nat}{f:Nat->Nat}{p s:Nat}(h:Zcg n f p=none):LU n f (.AA p s)= .bad p:=by simp[LU,h]
theorem Wb (n:Nat)(f:Nat->Nat)(r:RS):BI n f r<=2097151:=by
 cases r with
 | bad s=>simp[BI]
 | AA p s =>
  cases h:Zcg n f p with
  | none=>simp[BI,h]
  | some x =>
   obtain⟨v,q⟩:=x;rw[Zca h];exact (Zcc h).2.2
def Bg (n:Nat)(f:Nat->Nat):Nat->RS->RS
 | 0,r=>r
 | k+1,r=>LU n f (Bg n f k r)
theorem RN (n:Nat)(f:Nat->Nat)(k s:Nat):Bg n f k (.bad s)= .bad s:=by
 induction k with
 | zero=>rfl
 | succ k a=>simp only[Bg,a,LU]
theorem Ei (n:Nat)(f:Nat->Nat)(j k:Nat)(r:RS):Bg n f (j+k) r=Bg n f k (Bg n f j r):=by
 induction k with
 | zero=>rfl
 | succ k a=>rw[<-Nat.add_assoc];simp only[Bg,a]
theorem Zct {n:Nat}{f:Nat->Nat}{j m:Nat}{r:RS}{s:Nat}(h:Bg n f j r= .bad s)(a:j<=m):Bg n f m r= .bad s:=by
 obtain⟨k,rfl⟩:∃k,m=j+k:=⟨m - j,by omega⟩;rw[Ei,h,RN]
def VX (n:Nat)(f:Nat->Nat)(r:RS):RS:=Bg n f (7+BI n f (Bg n f 6 r)) r
def Uj (n:Nat)(f:Nat->Nat):Nat->RS->RS
 | 0,r=>r
 | k+1,r=>VX n f (Uj n f k r)
theorem YT (n:Nat)(f:Nat->Nat)(s:Nat):VX n f (.bad s)= .bad s:=RN _ _ _ _
theorem MS (n:Nat)(f:Nat->Nat)(k s:Nat):Uj n f k (.bad s)= .bad s:=by
 induction k with
 | zero=>rfl
 | succ k a=>simp only[Uj,a,YT]
theorem YS (n:Nat)(f:Nat->Nat)(j k:Nat)(r:RS):Uj n f (j+k) r=Uj n f k (Uj n f j r):=by
 induction k with
 | zero=>rfl
 | succ k a=>rw[<-Nat.add_assoc];simp only[Uj,a]
theorem Tr {n:Nat}{f:Nat->Nat}{j m:Nat}{r:RS}{s:Nat}(h:Uj n f j r= .bad s)(a:j<=m):Uj n f m r= .bad s:=by
 obtain⟨k,rfl⟩:∃k,m=j+k:=⟨m - j,by omega⟩;rw[YS,h,MS]
def st0 (n:Nat)(f:Nat->Nat):RS:=Bg n f 2 (.AA 0 0)
def st (n:Nat)(f:Nat->Nat)(i:Nat):RS:=Uj n f i (st0 n f)
def Zah (n:Nat)(f:Nat->Nat):Ad where
 dl:=BI n f (.AA 0 0)
 n:=BI n f (Bg n f 1 (.AA 0 0))
 bu i:=BI n f (st n f i)
 cl i:=BI n f (Bg n f 1 (st n f i))
 be i:=BI n f (Bg n f 2 (st n f i))
 ba i:=BI n f (Bg n f 3 (st n f i))
 ca i:=BI n f (Bg n f 4 (st n f i))
 ji i:=BI n f (Bg n f 5 (st n f i))
 an i:=BI n f (Bg n f 6 (st n f i))
 af i k:=BI n f (Bg n f (7+k) (st n f i))
def NH (n:Nat)(f:Nat->Nat):RS:=st n f (Zah n f).n
def Gn:Ad:=⟨0,0,fun _=>0,fun _=>0,fun _=>0,fun _=>0,fun _=>0,fun _=>0,fun _=>0,fun _ _=>0⟩
def Cn (n:Nat)(f:Nat->Nat)(x y:Int)(G:Ad):Prop :=
 (∃s,NH n f= .bad s/\x=1/\y=s/\G=Gn) \/
 (∃p s,NH n f= .AA p s/\p<n/\x=1/\y=p/\G=Gn) \/
 (∃p s,NH n f= .AA p s/\n<=p/\BL (Zah n f) x y/\(x=0->G=Zah n f)/\(x≠0->G=Gn))
theorem Cn.one {n:Nat}{f:Nat->Nat}{x y o q:Int}{G m:Ad}(h:Cn n f x y G)(l:Cn n f o q m):x=o/\y=q/\G=m:=by
 rcases h with⟨s,c,rfl,rfl,rfl⟩ | ⟨p,s,c,hp,rfl,rfl,rfl⟩ | ⟨p,s,c,hp,u,r,t⟩
 ·rcases l with⟨d,a,rfl,rfl,rfl⟩ | ⟨j,d,a,b,rfl,rfl,rfl⟩ | ⟨j,d,a,b,i,e,g⟩
  ·rw[c] at a;cases a;exact⟨rfl,rfl,rfl⟩
  ·rw[c] at a;cases a
  ·rw[c] at a;cases a
 ·rcases l with⟨d,a,rfl,rfl,rfl⟩ | ⟨j,d,a,b,rfl,rfl,rfl⟩ | ⟨j,d,a,b,i,e,g⟩
  ·rw[c] at a;cases a
  ·rw[c] at a;cases a;exact⟨rfl,rfl,rfl⟩
  ·rw[c] at a;cases a;omega
 ·rcases l with⟨d,a,rfl,rfl,rfl⟩ | ⟨j,d,a,b,rfl,rfl,rfl⟩ | ⟨j,d,a,b,i,e,g⟩
  ·rw[c] at a;cases a
  ·rw[c] at a;cases a;omega
  ·obtain⟨rfl,rfl⟩:=u.one i
   refine⟨rfl,rfl,?_⟩;by_cases k:x=0
   ·rw[r k,e k]
   ·rw[t k,g k]
end
open Go.RowKit
abbrev XZ (p:Nat):Ending:= .panicked [{ v:= .iface 412 (.int .i64 (p:Nat)),recovered:=false }]
theorem FG.grown {w w':World}{R:Nat}(h:FG w w' R):w.grownBy w' (some R):=⟨h.os,h.tape,h.output,by rw[h.size];exact Zx _,fun k _ a=>h.block k (fun e=>a (by rw[e]))⟩
theorem Za8 {a b c:World}{R:Nat}(h:a.grownBy b (some R))(d:b.grownBy c (some R)):a.grownBy c (some R) :=
 ⟨d.os.trans h.os,d.tape.trans h.tape,d.output.trans h.output,Zv h.size d.size,fun k e f=>(d.block k (Zy e h.size) f).trans (h.block k e f)⟩
theorem Aw.grown {w w':World}{R:Nat}{a:Option Addr}{n cap:Nat}{f:Nat->Nat}(h:Aw w a n cap f)(m:∀b o,a=some ⟨b,o,none⟩->b≠R)(g:w.grownBy w' (some R)):Aw w' a n cap f:=by
 rcases h with i | ⟨b,o,rfl,j,l,c,d⟩
 ·exact Zu i
 ·have p:=m b o rfl
  exact Zj ⟨b,o,rfl,j,l,Zy c g.size,fun k e=>⟨(Zw (g.block b c (by simpa using p))).trans (d k e).1,(d k e).2⟩⟩
theorem LK {a b c:World}{R:Nat}{o:Obj}{r:Option Nat}(h:a.grownBy b (some R))(d:(b.alloc o).grownBy c r)(l:∀z,r=some z->a.heap.size<=z):a.grownBy c (some R):=by
 have g:Below b.heap.size b (b.alloc o):=(Zk _ _).alloc (Zx _) _;refine⟨d.os.trans h.os,d.tape.trans h.tape,d.output.trans h.output,Zv h.size (Zv g.size d.size),fun k j i=> ?_⟩;have f:=Zy j h.size;rw[d.block k (Zy f g.size) (fun e=>by have:=l k e.symm;omega),g.block k f,h.block k j i]
theorem Cd.grown {w w':World}{R:Nat}{a:Option Addr}{n cap:Nat}{p:Int}{o:Obj}{r:Option Nat}(h:Cd w R a n cap p)(c:R<w.heap.size)(hg:(w.alloc o).grownBy w' r)(d:some R≠r):Cd w' R a n cap p:=by
 have b:Below w.heap.size w (w.alloc o):=(Zk _ _).alloc (Zx _) _;have e:w'.heap[R]? =w.heap[R]? :=(hg.block R (Zy c b.size) d).trans (b.block R c);exact⟨(World.cell?_of_block (a:=⟨R,0,none⟩) e).trans h.c0,(World.cell?_of_block (a:=⟨R,1,none⟩) e).trans h.c1,(World.frozen?_of_block (a:=⟨R,1,none⟩) e).trans h.f1⟩
theorem Wx (w:World)(R:Nat)(a:Option Addr)(n cap:Nat)(p:Nat)(hn:n<=maxLen)(hp:p<=n)(h:Cd w R a n cap p) :
  Calls prog 265 #[.pointer (some ⟨R,0,none⟩)] w fun e w'=>((p<n/\e=XZ p)\/(n<=p/\e= .returned (.tuple #[])))/\FG w w' R:=by
 unfold maxLen at hn;obtain⟨c0,c1,f1⟩:=h;have b:Hid (∀q,FG w (w.drewN q) R):=Zz fun q=>(FG.refl _ _).drewN q;by_cases c:p<n
 ·go_enter func265,ntmps265
  go_wp2_with fail
  go_quiet (fail)
  go_wp2_with fail
  exact⟨rfl,Zu ⟨c,rfl⟩,b.o _⟩
 ·obtain rfl:p=n:=by omega
  go_enter func265,ntmps265
  go_wp2_with fail
  go_quiet (fail)
  go_wp2_with fail
  go_end0
  exact⟨Zj ⟨Zx _,rfl⟩,b.o _⟩
def XR (B:Nat)(w':World)(R:Nat)(a:Option Addr)(n cap:Nat)(f:Nat->Nat)(r:RS)(e:Ending):Prop :=
 (∃q s la lc,Bg n f (1+BI n f r) r= .AA q s/\q<=n/\e= .returned (.slice la (BI n f r) lc)/\w'.ownsRow B 3 1 (.slice la (BI n f r) lc) (BI n f r) (Zbz (BI n f r) fun k=>BI n f (Bg n f (1+k) r))/\Cd w' R a n cap (q:Nat)) \/
 (∃s,Bg n f (1+BI n f r) r= .bad s/\e=XZ s)
theorem TD (w:World)(R:Nat)(a:Option Addr)(n cap:Nat)(f:Nat->Nat)(p s:Nat)(aj:R<w.heap.size)(hn:n<=maxLen)(hp:p<=n)(h:Cd w R a n cap p)(hR:∀b o,a=some ⟨b,o,none⟩->b≠R)(hb:Aw w a n cap f) :
  Calls prog 264 #[.pointer (some ⟨R,0,none⟩), .func (.func 261) #[.pointer (some ⟨R,0,none⟩)] #[]] w fun e w'=>XR w.heap.size w' R a n cap f (.AA p s) e/\w.grownBy w' (some R):=by
 obtain⟨i3,M,E,F,G⟩:=info_parts Vr;have y:=Zz (Zq M (Zq E (Zq F G)));have HB:=Zz hb;have J:=Zz hR;clear M E F G hb hR
 go_enter func264,ntmps264
 go_wp2_with fail
 refine (Zc7 _ R a n cap f p hn hp h J.o HB.o).mono ?_;rintro e w1 ⟨⟨m,q,i,rfl,c⟩ | ⟨i,rfl,c⟩,t⟩
 case inr =>
  have r:=Zz (Zq i t.grown);clear i c t h;go_wp2_with fail
  refine⟨rfl,Zj ⟨p,?_,rfl⟩,r.o.2⟩;exact Zct (j:=1) (by simp only[Bg];exact Zcs r.o.1) (by omega)
 have hq:=Zcc i;have P:Bg n f 1 (.AA p s)= .AA q p:=by simp only[Bg];exact Zcb i
 have S:BI n f (.AA p s)=m:=Zca i;have l:=Zz (Zq P S);have X:=Zz t.grown;have W:=Zz c;clear i P S t c h;go_wp2_with fail
 go_loopw [5,8] (fun lv iv wr=>∃(k:Nat) (H:Option Addr) (lc q s':Nat),iv= .int .i64 k/\k<=m/\lv= .slice H k lc/\wr.ownsRow w.heap.size 3 1 (.slice H k lc) k (Zbz k fun k=>BI n f (Bg n f (1+k) (.AA p s)))/\Bg n f (1+k) (.AA p s)= .AA q s'/\q<=n/\Cd wr R a n cap (q:Nat)/\w.grownBy wr (some R)) (fun _ iv _=>m - (intOf iv).toNat)
 case atStart=>exact⟨0,none,0,q,p,rfl,by omega,rfl,World.ownsRow_nil _ _ _ _,l.o.1,hq.2.1,W.o,X.o⟩
 case round =>
  obtain⟨k,H,lc,U,s2,rfl,hk,rfl,B,Q,O,C,K⟩:=hrel
  rename World=>w2
  have T:=Zz B;have A:=Zz Q;have L:=Zz C;have x:=Zz K;have Y:w.heap.size<=w2.heap.size:=K.size;clear B Q C K;by_cases h1:k<m
  ·go_wp2_with fail
   refine (Zc7 _ R a n cap f U hn O L.o J.o (HB.o.grown J.o x.o)).mono ?_;rintro e w3 ⟨⟨v,q3,i,rfl,c⟩ | ⟨i,rfl,c⟩,t⟩
   case inr =>
    have r:=Zz (Zq i t.grown);clear i c t;go_wp2_with fail
    refine⟨rfl,Zj ⟨U,?_,rfl⟩,Za8 x.o r.o.2⟩;rw[l.o.2];exact Zct (j:=1+k+1) (by simp only[Bg];rw[A.o];exact Zcs r.o.1) (by omega)
   have ae:=Zcc i;have r:=Zz (Zq i (Zq t c));have ag:w.heap.size<=w3.heap.size:=by rw[t.size];exact Y
   clear i t c
   have V:Hid (∀ob,(w3.alloc ob).ownsRow w.heap.size 3 1 (.slice H k lc) k (Zbz k fun k=>BI n f (Bg n f (1+k) (.AA p s)))):=Zz fun ob=>by
    refine (T.o.kept r.o.2.1.grown ?_).alloc ob
    cases Z:(Value.slice H k lc).ownBlock with
    | none=>exact Zu rfl
    | some z=>right;have:=(T.o.lt z Z).1;simp;omega
   go_wp2_with (at_builtin;refine wpList_append_own _ rfl (.tmp 10) (.tmp 13) 24 rfl w.heap.size 3 i3 (.int .i64 0) 1 8 underlying24 y.o.1 y.o.2.1 y.o.2.2.1 y.o.2.2.2 rfl (by decide) (.slice H k lc) k (Zbz k fun k=>BI n f (Bg n f (1+k) (.AA p s))) rfl (V.o _) ⟨w3.heap.size,0,none⟩ 1 1 [.int .i64 v] rfl rfl (Kj _ _ _ _ rfl) (by intro u hu;simp only[List.mem_singleton] at hu;subst hu;rfl) (by unfold maxLen;omega) (by omega) (by simp;omega) ?_;intro v4 w4 d g N;clear N;obtain⟨xa,xc,rfl⟩:=Zaz d;have I:=Zz (Zq d g);clear d g)
   go_roundw
   case rel =>
    have D:∀z,(Value.slice H k lc).ownBlock=some z->w.heap.size<=z:=fun z hz=>(T.o.lt z hz).1;refine⟨k+1,xa,xc,q3,U,by go_num,by omega,rfl,?_,?_,ae.2.1,?_,LK (Za8 x.o r.o.2.1.grown) I.o.2 D⟩
    ·have e:Zbz (k+1) (fun k=>(BI n f (Bg n f (1+k) (.AA p s)):Int))=Zbz k (fun k=>(BI n f (Bg n f (1+k) (.AA p s)):Int))++[.int .i64 v]:=by
      simp only[Zbz,List.range_succ,List.map_append,List.map_cons,List.map_nil];rw[A.o,Zca r.o.1]
     rw[e];exact I.o.1
    ·show Bg n f (1+k+1) _=_
     simp only[Bg];rw[A.o];exact Zcb r.o.1
    ·exact r.o.2.2.grown (by omega) I.o.2 (fun e=>by have:=D R e.symm;omega)
   case measure=>simp[intOf];omega
  ·obtain rfl:k=m:=by omega
   go_wp2_with fail
   go_ret
   exact⟨Zu ⟨U,s2,H,lc,by rw[l.o.2];exact A.o,O,(by rw[l.o.2];rfl),by rw[l.o.2];exact T.o,L.o⟩,x.o⟩
end Go.Proofs.YtgdcjccbdmcebaaGreatDoor
