import Derived.Test.YtgdcjccbdmcebaaGreatDoorM12
import Derived.Shelf.Small.Bits
import Derived.Deep.Upon
import Derived.Lib.ItoaNum
set_option linter.all false
set_option maxHeartbeats 8000000
set_option maxRecDepth 100000
open Go.Proofs.Tryz
open Go renaming wpList_append_own->QFb,rounds_succ->QGv
open Go.Calls renaming quiet_of_same->QIa
open Go.IntKind renaming wrap_i64->QFs
open Go.RowKit renaming ownsRow_setCell_below->QDu
open Go.World renaming setCell->QDw,ownsRow_nil->QEj,frozen?_setCell->QEa,block_lt_of_cell?->QDv,cell?_setCell_same->QDz,cell?_setCell_other->QGd,frozen?_of_block->QDx,cell?_of_block->QEc
open Nat renaming mod_lt->QBw,ne_of_gt->QIb,lt_trichotomy->QDl,mul_one->QHg,mul_le_mul_right->QEy,mul_zero->QIc,pow_zero->QId,zero_add->QDk,add_assoc->QGj,mod_eq_of_lt->QCd,add_zero->QBl
open Option renaming some.injEq->QCf
namespace Go.Proofs.YtgdcjccbdmcebaaGreatDoor
open Go.RowKit Go.Shelf
def Aw (w:World)(a:Option Addr)(n cap:Nat)(f:Nat->Nat):Prop :=
 n=0\/(∃b o,a=some ⟨b,o,none⟩/\n<=cap/\cap<=maxLen/\b<w.heap.size/\∀k,k<n->w.cell? ⟨b,o+k,none⟩=some (.int .u8 (f k))/\f k<256)
def Gt (x:Nat):Nat:=if x=0 then 0 else Nat.log2 x+1
theorem Gc (x k:Nat):Gt x<=k↔x<2 ^ k:=by
 unfold Gt
 split
 .rename_i h;subst h;exact⟨fun _=>Nat.two_pow_pos _,fun _=>Nat.zero_le _⟩
 .rename_i h;exact Nat.log2_lt h
def Gs (f:Nat->Nat):Nat->Nat
 | 0=>0
 | i+1=>Gs f i+f i % 128 * 2 ^ (7 * i)
theorem JD (f:Nat->Nat)(i:Nat):Gs f i<2 ^ (7 * i):=by
 induction i with
 | zero=>simp[Gs]
 | succ i d =>
  have a:f i % 128<128:=QBw _ (by decide);have b:2 ^ (7 * (i+1))=128 * 2 ^ (7 * i):=by rw[Nat.mul_add,Nat.pow_add];omega
  have c:f i % 128 * 2 ^ (7 * i)<=127 * 2 ^ (7 * i):=QEy _ (by omega);unfold Gs;omega
def FQ (f:Nat->Nat)(i:Nat):Prop:=(∀j,j<i->128<=f j)/\f i<128/\(i=0\/0<f i)/\7 * i+Gt (f i)<=64
def Eb (f:Nat->Nat)(m:Nat)(x:Int)(k:Nat)(ok:Bool):Prop :=
 (∃i,i<m/\FQ f i/\x=(Gs f (i+1):Int)/\k=i+1/\ok=true)\/((∀i,i<m->¬FQ f i)/\x=0/\k=0/\ok=false)
def Lg:Go.Shelf.Ren:=⟨fun | 126=>293 | n=>n,fun | 3=>3 | 5=>5 | 9=>9 | n=>n,fun | n=>n⟩
theorem Tc:Go.Proofs.Lays.n126 prog Lg:={
 mixed:=by kernel_rfl
 f126:=Tryz.func293.trans (congrArg some (by kernel_rfl))
 t3:=underlying3
 a3:=Tryz.isAgg3
 z3:=Tryz.sizeOf3
 v3:=Tryz.zeroValue3
 t5:=underlying5
 a5:=Tryz.isAgg5
 z5:=Tryz.sizeOf5
 v5:=Tryz.zeroValue5
 t9:=underlying9
 a9:=Tryz.isAgg9
 z9:=Tryz.sizeOf9
 v9:=Tryz.zeroValue9 }
theorem Pw (x:Nat)(h:x<256):Lib.bitLen x=Gt x:=by
 by_cases a:x=0
 .subst a;rfl
 .obtain⟨d,f,c⟩:=Lib.bitLenAux_bounds 64 x (by omega) a
  have e:Lib.bitLen x=Lib.bitLenAux 64 x:=rfl;rw[e]
  generalize Lib.bitLenAux 64 x=L at *
  apply Nat.le_antisymm
  .rcases Nat.lt_or_ge (Gt x) L with b | b
   .have g:x<2 ^ (L - 1):=(Gc x (L - 1)).1 (by omega)
    omega
   .exact b
  .exact (Gc x L).2 c
theorem Oz (x:Nat)(w:World)(a:x<256) :
  Calls prog 293 #[.int .u8 x] w fun e w'=>e=.returned (.int .i64 (Gt x))/\w'=w:=by
 have h:=Any.bits_Len8 Tc (x:Int) w (by omega) (by omega);refine h.mono ?_;rintro e w' ⟨rfl,rfl⟩;refine⟨?_,rfl⟩;rw[Int.toNat_natCast,Pw x a]
set_option maxRecDepth 1000000 in
theorem Up:∀x:Fin 256,bits .and .u8 (x.val:Int) 127=(x.val:Int) % 128:=by decide
theorem Rg (y:Nat)(h:y<256):bits .and .u8 (y:Int) 127=((y % 128:Nat):Int):=(Up ⟨y,h⟩).trans rfl
theorem or_val {v c i:Nat}(l:v<2 ^ (7 * i))(hi:i<=9)(k:i=9->c % 128<=1):bits .or .u64 (v:Int) (IntKind.u64.wrap ((c:Int) % 128 * 2 ^ (7 * i)))=((v+c % 128 * 2 ^ (7 * i):Nat):Int):=by
 have hp:i<=8->2 ^ (7 * i)<=72057594037927936:=fun h=>by
  have:2 ^ (7 * i)<=2 ^ 56:=Nat.pow_le_pow_right (by decide) (by omega);omega
 have a:i=9->2 ^ (7 * i)=9223372036854775808:=by rintro rfl;rfl
 have m:c % 128 * 2 ^ (7 * i)<18446744073709551616:=by
  by_cases e:i=9
  .have j:=k e
   have d:=a e;rw[d];omega
  .have j:=hp (by omega)
   have d:c % 128<128:=QBw _ (by decide);have n:c % 128 * 2 ^ (7 * i)<=127 * 2 ^ (7 * i):=QEy _ (by omega);omega
 have b:v<18446744073709551616:=by
  by_cases e:i=9
  .have:=a e;omega
  .have:=hp (by omega);omega
 have f:(c:Int) % 128 * 2 ^ (7 * i)=((c % 128 * 2 ^ (7 * i):Nat):Int):=by norm_cast
 rw[f,IntKind.wrap_u64];have g:((c % 128 * 2 ^ (7 * i):Nat):Int) % 18446744073709551616=((c % 128 * 2 ^ (7 * i):Nat):Int):=by omega
 rw[g,bits_or_u64_nat _ _ b m]
 congr 1
 rw[Nat.or_comm,Nat.mul_comm (c % 128),<-Nat.two_pow_add_eq_or_of_lt l];omega
theorem MS {f:Nat->Nat}{i:Nat}(h:∀j,j<i->128<=f j)(b:f i<128)(a:¬FQ f i)(k:Nat):¬FQ f k:=by
 intro e;rcases QDl k i with g | rfl | g
 .have:=h k g;have:=e.2.1;omega
 .exact a e
 .have:=e.1 i g;omega
theorem WA (w:World)(a:Option Addr)(n cap d:Nat)(f:Nat->Nat)(hn:n<=maxLen)(hm:d<=10)(hb:Aw w a n cap f) :
  Calls prog 283 #[.slice a n cap,.int .i64 d] w fun e w'=>∃x k ok,e=.returned (.tuple #[.int .u64 x,.int .i64 (k:Nat),.bool ok])/\Eb f (min n d) x k ok/\w'=w:=by
 obtain⟨m,y⟩:∃m,m=min n d:=⟨_,rfl⟩;have S:=Zz hb
 have ag:m<=cap:=by
  rcases hb with h | ⟨b,o,_,h,_⟩
  .omega
  .omega
 unfold maxLen at hn;have U:(m:Int)<=(cap:Int):=by omega
 have T:m<=10:=by omega
 by_cases ae:d<n
 .have A:=Zz (show m=min n d from y)
  obtain rfl:d=m:=by omega
  clear hb y
  go_enter func283,ntmps283
  go_wp2_with fail
  go_loopw [4,17] (fun Q E wr=>∃(i:Nat) (v:Int),E=.int .i64 i/\Q=.int .u64 v/\i<=d/\((∀j,j<i->128<=f j)/\(i<=9->v=(Gs f i:Nat)))/\wr=w) (fun _ E _=>d - (intOf E).toNat)
  case atStart=>exact⟨0,0,rfl,rfl,by omega,⟨fun j G=>by omega,fun _=>rfl⟩,rfl⟩
  case round =>
   obtain⟨i,v,rfl,rfl,hi,z,rfl⟩:=hrel;have q:=Zz z;clear z;by_cases h1:i<d
   .rcases S.o with Z | ⟨ab,V,rfl,O,P,M,l⟩
    .omega
    obtain⟨R,z0⟩:=l i (by omega);have e0:=Rg (f i) z0;have W:IntKind.i64.wrap (7 * (i:Int))=((7 * i:Nat):Int):=by rw[QFs];omega
    have hlen:=Oz (f i) wr z0;have HL:=Zz hlen;obtain⟨c,C⟩:∃c,c=f i:=⟨_,rfl⟩;rw[<-C] at R z0 e0;have g:=Zz C;clear l hlen C;by_cases h2:127<c
    .have g2:decide ((127:Int)<(c:Int))=true:=decide_eq_true (by omega)
     go_wp2_with fail
     go_roundw
     case rel =>
      refine⟨i+1,_,by go_num,rfl,by omega,⟨fun j G=> ?_,fun h9=> ?_⟩,by trivial⟩
      .by_cases J:j=i
       .subst J;rw[<-g.o];omega
       .exact q.o.1 j (by omega)
      .rw[q.o.2 (by omega),or_val (JD f i) (by omega) (by omega),g.o]
       rfl
     case measure=>simp[intOf];omega
    .have g2:decide ((127:Int)<(c:Int))=false:=decide_eq_false (by omega)
     by_cases K:c=0/\0<i
     .have g3:((c:Int) == 0)=true:=by simp[K.1]
      have g4:decide ((0:Int)<(i:Int))=true:=decide_eq_true (by omega);go_wp2_with fail
      go_ret3
      refine⟨0,0,false,rfl,Zj ⟨fun j _=>MS q.o.1 (by rw[<-g.o];omega) (fun e=> ?_) j,rfl,rfl,rfl⟩,rfl⟩;have:=e.2.2.1;rw[<-g.o] at this;omega
     .have N:Gt c<=8:=(Gc c 8).2 z0
      have X:IntKind.i64.wrap (((7 * i:Nat):Int)+((Gt c:Nat):Int))=((7 * i+Gt c:Nat):Int):=by rw[QFs];omega
      rw[<-g.o] at HL;have u:i<=9:=by omega
      have z:=q.o.2 u;subst z;by_cases L:7 * i+Gt c<=64
      .have g5:decide ((64:Int)<((7 * i+Gt c:Nat):Int))=false:=decide_eq_false (by omega)
       have B:decide ((64:Int)<7 * (i:Int)+(Gt c:Int))=false:=decide_eq_false (by omega)
       have D:=or_val (c:=c) (JD f i) u (fun Y=>by
        have:Gt c<=1:=by omega
        have:=(Gc c 1).1 this;omega)
       have s:=Zz (show Gs f i+c % 128 * 2 ^ (7 * i)=Gs f (i+1) by rw[g.o];rfl);rw[s.o] at D;have F:=Zz (show FQ f i from⟨q.o.1,by rw[<-g.o];omega,by rw[<-g.o];omega,by rw[<-g.o];exact L⟩);clear s;by_cases r:c=0
       .have t:i=0:=by omega
        have g3:((c:Int) == 0)=true:=by simp[r]
        have g4:decide ((0:Int)<(i:Int))=false:=decide_eq_false (by omega);have I:=Zz t;clear r t;go_wp2_with (go_at_call 293;refine HL.o.mono ?_;rintro e H ⟨rfl,p⟩;rw[p])
        go_ret3
        have t:=I.o;subst t;exact⟨_,1,true,rfl,Zu ⟨0,by have:=A.o;omega,F.o,rfl,rfl,rfl⟩,rfl⟩
       .have g3:((c:Int) == 0)=false:=by simpa using r
        go_wp2_with (go_at_call 293;refine HL.o.mono ?_;rintro e H ⟨rfl,p⟩;rw[p])
        go_ret3
        exact⟨_,i+1,true,rfl,Zu ⟨i,by have:=A.o;omega,F.o,rfl,rfl,rfl⟩,rfl⟩
      .have g5:decide ((64:Int)<((7 * i+Gt c:Nat):Int))=true:=decide_eq_true (by omega)
       have B:decide ((64:Int)<7 * (i:Int)+(Gt c:Int))=true:=decide_eq_true (by omega);have r:c≠0:=by rintro rfl;have:Gt 0=0:=rfl;omega
       have g3:((c:Int) == 0)=false:=by simpa using r
       go_wp2_with (go_at_call 293;refine HL.o.mono ?_;rintro e H ⟨rfl,p⟩;rw[p])
       go_ret3
       refine⟨0,0,false,rfl,Zj ⟨fun j _=>MS q.o.1 (by rw[<-g.o];omega) (fun e=> ?_) j,rfl,rfl,rfl⟩,rfl⟩;have:=e.2.2.2;rw[<-g.o] at this;omega
   .obtain rfl:i=d:=by omega
    go_wp2_with fail
    go_ret3
    refine⟨0,0,false,rfl,Zj ⟨fun j G e=> ?_,rfl,rfl,rfl⟩,rfl⟩;have r:=q.o.1 j (by have:=A.o;omega);have t:=e.2.1;omega
 .have A:=Zz (show m=min n d from y)
  obtain rfl:n=m:=by omega
  clear hb y
  go_enter func283,ntmps283
  go_wp2_with fail
  go_loopw [4,17] (fun Q E wr=>∃(i:Nat) (v:Int),E=.int .i64 i/\Q=.int .u64 v/\i<=n/\((∀j,j<i->128<=f j)/\(i<=9->v=(Gs f i:Nat)))/\wr=w) (fun _ E _=>n - (intOf E).toNat)
  case atStart=>exact⟨0,0,rfl,rfl,by omega,⟨fun j G=>by omega,fun _=>rfl⟩,rfl⟩
  case round =>
   obtain⟨i,v,rfl,rfl,hi,z,rfl⟩:=hrel;have q:=Zz z;clear z;by_cases h1:i<n
   .rcases S.o with Z | ⟨ab,V,rfl,O,P,M,l⟩
    .omega
    obtain⟨R,z0⟩:=l i (by omega);have e0:=Rg (f i) z0;have W:IntKind.i64.wrap (7 * (i:Int))=((7 * i:Nat):Int):=by rw[QFs];omega
    have hlen:=Oz (f i) wr z0;have HL:=Zz hlen;obtain⟨c,C⟩:∃c,c=f i:=⟨_,rfl⟩;rw[<-C] at R z0 e0;have g:=Zz C;clear l hlen C;by_cases h2:127<c
    .have g2:decide ((127:Int)<(c:Int))=true:=decide_eq_true (by omega)
     go_wp2_with fail
     go_roundw
     case rel =>
      refine⟨i+1,_,by go_num,rfl,by omega,⟨fun j G=> ?_,fun h9=> ?_⟩,by trivial⟩
      .by_cases J:j=i
       .subst J;rw[<-g.o];omega
       .exact q.o.1 j (by omega)
      .rw[q.o.2 (by omega),or_val (JD f i) (by omega) (by omega),g.o]
       rfl
     case measure=>simp[intOf];omega
    .have g2:decide ((127:Int)<(c:Int))=false:=decide_eq_false (by omega)
     by_cases K:c=0/\0<i
     .have g3:((c:Int) == 0)=true:=by simp[K.1]
      have g4:decide ((0:Int)<(i:Int))=true:=decide_eq_true (by omega);go_wp2_with fail
      go_ret3
      refine⟨0,0,false,rfl,Zj ⟨fun j _=>MS q.o.1 (by rw[<-g.o];omega) (fun e=> ?_) j,rfl,rfl,rfl⟩,rfl⟩;have:=e.2.2.1;rw[<-g.o] at this;omega
     .have N:Gt c<=8:=(Gc c 8).2 z0
      have X:IntKind.i64.wrap (((7 * i:Nat):Int)+((Gt c:Nat):Int))=((7 * i+Gt c:Nat):Int):=by rw[QFs];omega
      rw[<-g.o] at HL;have u:i<=9:=by omega
      have z:=q.o.2 u;subst z;by_cases L:7 * i+Gt c<=64
      .have g5:decide ((64:Int)<((7 * i+Gt c:Nat):Int))=false:=decide_eq_false (by omega)
       have B:decide ((64:Int)<7 * (i:Int)+(Gt c:Int))=false:=decide_eq_false (by omega)
       have D:=or_val (c:=c) (JD f i) u (fun Y=>by
        have:Gt c<=1:=by omega
        have:=(Gc c 1).1 this;omega)
       have s:=Zz (show Gs f i+c % 128 * 2 ^ (7 * i)=Gs f (i+1) by rw[g.o];rfl);rw[s.o] at D;have F:=Zz (show FQ f i from⟨q.o.1,by rw[<-g.o];omega,by rw[<-g.o];omega,by rw[<-g.o];exact L⟩);clear s;by_cases r:c=0
       .have t:i=0:=by omega
        have g3:((c:Int) == 0)=true:=by simp[r]
        have g4:decide ((0:Int)<(i:Int))=false:=decide_eq_false (by omega);have I:=Zz t;clear r t;go_wp2_with (go_at_call 293;refine HL.o.mono ?_;rintro e H ⟨rfl,p⟩;rw[p])
        go_ret3
        have t:=I.o;subst t;exact⟨_,1,true,rfl,Zu ⟨0,by have:=A.o;omega,F.o,rfl,rfl,rfl⟩,rfl⟩
       .have g3:((c:Int) == 0)=false:=by simpa using r
        go_wp2_with (go_at_call 293;refine HL.o.mono ?_;rintro e H ⟨rfl,p⟩;rw[p])
        go_ret3
        exact⟨_,i+1,true,rfl,Zu ⟨i,by have:=A.o;omega,F.o,rfl,rfl,rfl⟩,rfl⟩
      .have g5:decide ((64:Int)<((7 * i+Gt c:Nat):Int))=true:=decide_eq_true (by omega)
       have B:decide ((64:Int)<7 * (i:Int)+(Gt c:Int))=true:=decide_eq_true (by omega);have r:c≠0:=by rintro rfl;have:Gt 0=0:=rfl;omega
       have g3:((c:Int) == 0)=false:=by simpa using r
       go_wp2_with (go_at_call 293;refine HL.o.mono ?_;rintro e H ⟨rfl,p⟩;rw[p])
       go_ret3
       refine⟨0,0,false,rfl,Zj ⟨fun j _=>MS q.o.1 (by rw[<-g.o];omega) (fun e=> ?_) j,rfl,rfl,rfl⟩,rfl⟩;have:=e.2.2.2;rw[<-g.o] at this;omega
   .obtain rfl:i=n:=by omega
    go_wp2_with fail
    go_ret3
    refine⟨0,0,false,rfl,Zj ⟨fun j G e=> ?_,rfl,rfl,rfl⟩,rfl⟩;have r:=q.o.1 j (by have:=A.o;omega);have t:=e.2.1;omega
theorem Eb.uniq {f:Nat->Nat}{m k k':Nat}{x c:Int}{ok a:Bool}(h:Eb f m x k ok)(g:Eb f m c k' a):x=c/\k=k'/\ok=a:=by
 rcases h with⟨i,hi,he,rfl,rfl,rfl⟩ | ⟨hn,rfl,rfl,rfl⟩
 .rcases g with⟨j,b,ge,rfl,rfl,rfl⟩ | ⟨d,_⟩
  .have:i=j:=by
    rcases QDl i j with q | q | q
    .have:=ge.1 i q;have:=he.2.1;omega
    .exact q
    .have:=he.1 j q;have:=ge.2.1;omega
   subst this;exact⟨rfl,rfl,rfl⟩
  .exact absurd he (d i hi)
 .rcases g with⟨j,b,ge,_⟩ | ⟨_,rfl,rfl,rfl⟩
  .exact absurd ge (hn j b)
  .exact⟨rfl,rfl,rfl⟩
theorem Eb.ex (f:Nat->Nat)(m:Nat):∃x k ok,Eb f m x k ok:=by
 by_cases h:∃i,i<m/\FQ f i
 .obtain⟨i,hi,he⟩:=h
  exact⟨_,_,_,Zu ⟨i,hi,he,rfl,rfl,rfl⟩⟩
 .exact⟨0,0,false,Zj ⟨fun i hi he=>h ⟨i,hi,he⟩,rfl,rfl,rfl⟩⟩
theorem OO (w:World)(a:Option Addr)(n cap b:Nat)(f:Nat->Nat)(hn:n<=maxLen)(hm:b<=10)(hb:Aw w a n cap f){x:Int}{k:Nat}{ok:Bool}(h:Eb f (min n b) x k ok) :
  Calls prog 283 #[.slice a n cap,.int .i64 b] w fun e w'=>e=.returned (.tuple #[.int .u64 x,.int .i64 (k:Nat),.bool ok])/\w'=w:=by
 refine (WA w a n cap b f hn hm hb).mono ?_;rintro e w' ⟨g,k',d,rfl,c,rfl⟩;obtain⟨rfl,rfl,rfl⟩:=h.uniq c;exact⟨rfl,rfl⟩
open Go.RowKit
def Zci (n:Nat)(f:Nat->Nat)(p:Nat):Option (Nat×Nat) :=
 if n<=p then none else if f p<128 then some (f p,p+1) else
 if n<=p+1 then none else if f (p+1)<128 then (if f (p+1)=0 then none else some (f p % 128+f (p+1) * 128,p+2)) else
 if n<=p+2 then none else if f (p+2)<128 then (if f (p+2)=0 then none else some (f p % 128+f (p+1) % 128 * 128+f (p+2) * 16384,p+3)) else none
theorem Zce {n:Nat}{f:Nat->Nat}{p v q:Nat}(h:Zci n f p=some (v,q)):p<q/\q<=n/\v<=2097151:=by
 unfold Zci at h
 split at h
 .cases h
 split at h
 .simp only[QCf,Prod.mk.injEq] at h;omega
 split at h
 .cases h
 split at h
 .split at h
  .cases h
  .simp only[QCf,Prod.mk.injEq] at h;omega
 split at h
 .cases h
 split at h
 .split at h
  .cases h
  .simp only[QCf,Prod.mk.injEq] at h;omega
 .cases h
theorem Ko (n:Nat)(f:Nat->Nat)(p:Nat) :
  (n<=p/\Zci n f p=none) \/
  (p<n/\f p<128/\Zci n f p=some (f p,p+1)) \/
  (p<n/\128<=f p/\n<=p+1/\Zci n f p=none) \/
  (p+1<n/\128<=f p/\f (p+1)=0/\Zci n f p=none) \/
  (p+1<n/\128<=f p/\0<f (p+1)/\f (p+1)<128/\Zci n f p=some (f p % 128+f (p+1) * 128,p+2)) \/
  (p+1<n/\128<=f p/\128<=f (p+1)/\n<=p+2/\Zci n f p=none) \/
  (p+2<n/\128<=f p/\128<=f (p+1)/\f (p+2)=0/\Zci n f p=none) \/
  (p+2<n/\128<=f p/\128<=f (p+1)/\0<f (p+2)/\f (p+2)<128/\Zci n f p=some (f p % 128+f (p+1) % 128 * 128+f (p+2) * 16384,p+3)) \/
  (p+2<n/\128<=f p/\128<=f (p+1)/\128<=f (p+2)/\Zci n f p=none):=by
 unfold Zci;by_cases i:n<=p
 .simp[i]
 rw[if_neg i];by_cases a:f p<128
 .rw[if_pos a];right;left;exact⟨by omega,a,rfl⟩
 rw[if_neg a];by_cases b:n<=p+1
 .rw[if_pos b];right;right;left;exact⟨by omega,by omega,b,rfl⟩
 rw[if_neg b];by_cases c:f (p+1)<128
 .rw[if_pos c]
  by_cases d:f (p+1)=0
  .rw[if_pos d];right;right;right;left;exact⟨by omega,by omega,d,rfl⟩
  .rw[if_neg d];right;right;right;right;left;exact⟨by omega,by omega,by omega,c,rfl⟩
 rw[if_neg c];by_cases e:n<=p+2
 .rw[if_pos e];right;right;right;right;right;left;exact⟨by omega,by omega,by omega,e,rfl⟩
 rw[if_neg e];by_cases g:f (p+2)<128
 .rw[if_pos g]
  by_cases h:f (p+2)=0
  .rw[if_pos h];right;right;right;right;right;right;left;exact⟨by omega,by omega,by omega,h,rfl⟩
  .rw[if_neg h];right;right;right;right;right;right;right;left;exact⟨by omega,by omega,by omega,by omega,g,rfl⟩
 .rw[if_neg g];right;right;right;right;right;right;right;right;exact⟨by omega,by omega,by omega,by omega,rfl⟩
structure FC (w w':World)(R:Nat):Prop where
 os:w'.os=w.os
 tape:w'.tape=w.tape
 output:w'.output=w.output
 size:w'.heap.size=w.heap.size
 block:∀k,k≠R->w'.heap[k]? =w.heap[k]?
theorem FC.refl (w:World)(R:Nat):FC w w R:=⟨rfl,rfl,rfl,rfl,fun _ _=>rfl⟩
theorem FC.set {w w':World}{R:Nat}(h:FC w w' R)(o:Nat)(v:Value):FC w (w'.setCell ⟨R,o,none⟩ v) R :=
 ⟨h.os,h.tape,h.output,by rw[<-h.size];simp[QDw],fun k hk=>(Zl w' ⟨R,o,none⟩ v k hk).trans (h.block k hk)⟩
theorem FC.drewN {w w':World}{R:Nat}(h:FC w w' R)(q:Nat):FC w (w'.drewN q) R:=⟨h.os,h.tape,h.output,h.size,h.block⟩
section
open Go.RowKit
structure Ca (w:World)(R:Nat)(a:Option Addr)(n cap:Nat)(p:Int):Prop where
 c0:w.cell? ⟨R,0,none⟩=some (.slice a n cap)
 c1:w.cell? ⟨R,1,none⟩=some (.int .i64 p)
 f1:w.frozen? ⟨R,1,none⟩=false
def KX (w:World)(R:Nat)(a:Option Addr)(n cap:Nat):Prop:=∃p,Ca w R a n cap p
theorem KX.drewN {w:World}{R:Nat}{a:Option Addr}{n cap:Nat}(h:KX w R a n cap)(k:Nat):KX (w.drewN k) R a n cap:=by obtain⟨p,hp⟩:=h;exact⟨p,hp.c0,hp.c1,hp.f1⟩
theorem KX.at' {w:World}{R:Nat}{a:Option Addr}{n cap:Nat}(h:KX w R a n cap){v v':Int}(b:v=v'):Ca (w.setCell ⟨R,1,none⟩ (.int .i64 v)) R a n cap v':=by
 obtain⟨p,hp⟩:=h;subst b;refine⟨?_,QDz _ _ _ hp.c1,by rw[QEa];exact hp.f1⟩;rw[QGd _ _ _ _ (by simp)];exact hp.c0
theorem KX.Bv {w:World}{R:Nat}{a:Option Addr}{n cap:Nat}(h:KX w R a n cap)(v:Int):KX (w.setCell ⟨R,1,none⟩ (.int .i64 v)) R a n cap:=⟨v,h.at' rfl⟩
def PnumIs (w':World)(R:Nat)(a:Option Addr)(n cap:Nat)(f:Nat->Nat)(p:Nat)(e:Ending):Prop :=
 (∃v q,Zci n f p=some (v,q)/\e=.returned (.int .i64 (v:Nat))/\Ca w' R a n cap (q:Nat)) \/
 (Zci n f p=none/\e=.panicked [{ v:=.iface 412 (.int .i64 (p:Nat)),recovered:=false }]/\KX w' R a n cap)
theorem Hw {x:Nat}(h:x<128):Gt x<=7:=(Gc x 7).2 h
theorem QJ {n p k:Nat}{f:Nat->Nat}{x:Int}{ok:Bool}(h:Eb (fun j=>f (p+j)) (min (n - p) 3) x k ok):(ok=true/\∃v,Zci n f p=some (v,p+k)/\x=(v:Int))\/(ok=false/\Zci n f p=none):=by
 rcases h with⟨i,hi,⟨m,g,o,_⟩,rfl,rfl,rfl⟩ | ⟨l,rfl,rfl,rfl⟩
 .refine Zu ⟨rfl,Gs (fun j=>f (p+j)) (i+1),?_,rfl⟩
  match i,hi with
  | 0,hi =>
   simp only[QBl] at g;unfold Zci;rw[if_neg (by omega),if_pos g];simp only[Gs,QDk,QBl,QIc,QId,QHg];rw[QCd g]
  | 1,hi =>
   have c:=m 0 (by omega);simp only[QBl] at c
   have d:f (p+1)≠0:=by
    rcases o with h | h
    .omega
    .exact QIb h
   unfold Zci;rw[if_neg (by omega),if_neg (by omega),if_neg (by omega),if_pos g,if_neg d];simp only[Gs,QDk,QBl,QIc,QId,QHg];rw[QCd g]
  | 2,hi =>
   have c:=m 0 (by omega);have b:=m 1 (by omega);simp only[QBl] at c
   have d:f (p+2)≠0:=by
    rcases o with h | h
    .omega
    .exact QIb h
   unfold Zci;simp only[] at b;rw[if_neg (by omega),if_neg (by omega),if_neg (by omega),if_neg (by omega),if_neg (by omega),if_pos g,if_neg d];simp only[Gs,QDk,QBl,QIc,QId,QHg];rw[QCd g]
  | i+3,hi=>omega
 .refine Zj ⟨rfl,?_⟩
  rcases Ko n f p with⟨c,a⟩ | ⟨c,b,a⟩ | ⟨c,b,e,a⟩ | ⟨c,b,e,a⟩ | ⟨c,b,e,d,a⟩ | ⟨c,b,e,d,a⟩ | ⟨c,b,e,d,a⟩ | ⟨c,b,e,d,q,a⟩ | ⟨c,b,e,d,a⟩
  .exact a
  .exact absurd ⟨fun j r=>by omega,b,Zu rfl,by have:=Hw b;show 7 * 0+Gt (f (p+0))<=64;rw[QBl];omega⟩ (l 0 (by omega))
  .exact a
  .exact a
  .exact absurd ⟨fun j r=>by
    obtain rfl:j=0:=by omega
    exact b,d,Zj e,by have:=Hw d;show 7 * 1+Gt (f (p+1))<=64;omega⟩ (l 1 (by omega))
  .exact a
  .exact a
  .exact absurd ⟨fun j r=>by
    rcases (by omega:j=0\/j=1) with rfl | rfl
    .exact b
    .exact e,q,Zj d,by have:=Hw q;show 7 * 2+Gt (f (p+2))<=64;omega⟩ (l 2 (by omega))
  .exact a
theorem Aw.from_ {w:World}{b o n cap p:Nat}{f:Nat->Nat}(h:Aw w (some ⟨b,o,none⟩) n cap f)(hp:p<=n):Aw w (some (if cap=p then ⟨b,o,none⟩ else ⟨b,o+p,none⟩)) (n - p) (cap - p) (fun j=>f (p+j)):=by
 rcases h with h | ⟨a,g,he,i,l,c,d⟩
 .exact Zu (by omega)
 .obtain⟨rfl,rfl⟩:b=a/\o=g:=by simpa using he
  by_cases e:n=p
  .exact Zu (by omega)
  .rw[if_neg (by omega)]
   exact Zj ⟨b,o+p,rfl,by omega,by omega,c,fun k hk=>by rw[QGj];exact d (p+k) (by omega)⟩
theorem Zc7 (w:World)(R:Nat)(a:Option Addr)(n cap:Nat)(f:Nat->Nat)(p:Nat)(hn:n<=maxLen)(hp:p<=n)(h:Ca w R a n cap p)(K:∀b o,a=some ⟨b,o,none⟩->b≠R)(hb:Aw w a n cap f) :
  Calls prog 261 #[.pointer (some ⟨R,0,none⟩)] w fun e w'=>PnumIs w' R a n cap f p e/\FC w w' R:=by
 have r:=hb;have G:=Zz hb;unfold maxLen at hn;have H:=Zz h;obtain⟨c0,c1,f1⟩:=h;obtain⟨x,k,ok,B⟩:=Eb.ex (fun j=>f (p+j)) (min (n - p) 3);have q:=Zz (QJ B)
 have hle:ok=true->(p+k<=n/\0<k)/\(0<=x/\x<=2097151):=by
  intro e;rcases q.o with⟨_,v,u,I⟩ | ⟨u,_⟩
  .have:=Zce u;omega
  .rw[u] at e;cases e
 by_cases F:p=n
 .have E:ok=false:=by
   cases ok
   .rfl
   .have:=hle rfl;omega
  subst E;have e0:n - p=0:=by omega
  have t:=B;rw[e0] at t;have d:∀m A c,Calls prog 283 #[.slice A 0 c,.int .i64 3] (w.drewN m) fun e w'=>e=.returned (.tuple #[.int .u64 x,.int .i64 (k:Nat),.bool false])/\w'=w.drewN m:=fun m A c=>OO (w.drewN m) A 0 c 3 _ (by omega) (by omega) (Zu rfl) t
  have l:=Zz d
  have i:n=0\/n<=cap:=by
   rcases hb with h | ⟨_,_,_,h,_⟩
   .exact Zu h
   .exact Zj h
  subst F;clear d B t hb r hle e0
  cases a with
  | none =>
   have D:p=0:=by
    rcases G.o with h | ⟨b,o,h,_⟩
    .exact h
    .cases h
   subst D
   go_enter func261,ntmps261
   go_wp2_with fail
   go_quiet ((go_at_call 283;refine QIa (l.o _ _ _)))
   go_wp2_with fail
   exact⟨rfl,Zj ⟨by rcases q.o with⟨h,_⟩ | ⟨_,h⟩;cases h;exact h,rfl,(by repeat (first | exact⟨_,H.o⟩ | refine KX.Bv ?_ _ | refine KX.drewN ?_ _))⟩,(by repeat (first | exact FC.refl _ _ | apply FC.set | apply FC.drewN))⟩
  | some a0 =>
   obtain⟨b,o,g⟩:=a0;rcases i with rfl | i
   .go_enter func261,ntmps261
    go_wp2_with fail
    go_quiet ((go_at_call 283;refine QIa (l.o _ _ _)))
    go_wp2_with fail
    exact⟨rfl,Zj ⟨by rcases q.o with⟨h,_⟩ | ⟨_,h⟩;cases h;exact h,rfl,(by repeat (first | exact⟨_,H.o⟩ | refine KX.Bv ?_ _ | refine KX.drewN ?_ _))⟩,(by repeat (first | exact FC.refl _ _ | apply FC.set | apply FC.drewN))⟩
   .by_cases C:cap=p
    .subst C
     go_enter func261,ntmps261
     go_wp2_with fail
     go_quiet ((go_at_call 283;refine QIa (l.o _ _ _)))
     go_wp2_with fail
     exact⟨rfl,Zj ⟨by rcases q.o with⟨h,_⟩ | ⟨_,h⟩;cases h;exact h,rfl,(by repeat (first | exact⟨_,H.o⟩ | refine KX.Bv ?_ _ | refine KX.drewN ?_ _))⟩,(by repeat (first | exact FC.refl _ _ | apply FC.set | apply FC.drewN))⟩
    .go_enter func261,ntmps261
     go_wp2_with fail
     go_quiet ((go_at_call 283;refine QIa (l.o _ _ _)))
     go_wp2_with fail
     exact⟨rfl,Zj ⟨by rcases q.o with⟨h,_⟩ | ⟨_,h⟩;cases h;exact h,rfl,(by repeat (first | exact⟨_,H.o⟩ | refine KX.Bv ?_ _ | refine KX.drewN ?_ _))⟩,(by repeat (first | exact FC.refl _ _ | apply FC.set | apply FC.drewN))⟩
 .obtain⟨b,o,rfl,i,z,J,s⟩:=hb.resolve_left (by omega)
  have d:∀m,Calls prog 283 #[.slice (some ⟨b,o+p,none⟩) (n - p) (cap - p),.int .i64 3] (w.drewN m) fun e w'=>e=.returned (.tuple #[.int .u64 x,.int .i64 (k:Nat),.bool ok])/\w'=w.drewN m:=fun m=>by
   have y:=r.from_ (p:=p) (by omega);rw[if_neg (by omega)] at y;exact OO (w.drewN m) _ (n - p) (cap - p) 3 _ (by unfold maxLen;omega) (by omega) y B
  have l:=Zz d;have g1:(p:Int)<=(n:Int):=by omega
  have g2:¬(cap=p):=by omega
  clear d B hb r s
  cases ok with
  | false =>
   clear hle
   go_enter func261,ntmps261
   go_wp2_with fail
   go_quiet ((go_at_call 283;refine QIa (l.o _)))
   go_wp2_with fail
   exact⟨rfl,Zj ⟨by rcases q.o with⟨h,_⟩ | ⟨_,h⟩;cases h;exact h,rfl,(by repeat (first | exact⟨_,H.o⟩ | refine KX.Bv ?_ _ | refine KX.drewN ?_ _))⟩,(by repeat (first | exact FC.refl _ _ | apply FC.set | apply FC.drewN))⟩
  | true =>
   have hk:=hle rfl;have g3:IntKind.i64.wrap ((p:Int)+(k:Int))=((p+k:Nat):Int):=by unfold maxLen at z;rw[QFs];omega
   have g4:wrap64 x=x:=by unfold wrap64;omega
   clear hle
   go_enter func261,ntmps261
   go_wp2_with fail
   go_quiet ((go_at_call 283;refine QIa (l.o _)))
   go_wp2_with fail
   go_ret
   rcases q.o with⟨_,v,u,I⟩ | ⟨h,_⟩
   .refine⟨Zu ⟨v,p+k,u,ri (by omega),(by refine KX.at' ?_ (by omega);repeat (first | exact⟨_,H.o⟩ | refine KX.Bv ?_ _ | refine KX.drewN ?_ _))⟩,(by repeat (first | exact FC.refl _ _ | apply FC.set | apply FC.drewN))⟩
   .cases h
end
section
open Go.RowKit
inductive RS where
 | AB (p s:Nat)
 | bad (s:Nat)
def LU (n:Nat)(f:Nat->Nat):RS->RS
 | .AB p _=>match Zci n f p with
  | some (_,q)=> .AB q p
  | none=> .bad p
 | .bad s=> .bad s
def BJ (n:Nat)(f:Nat->Nat):RS->Nat
 | .AB p _=>match Zci n f p with
  | some (v,_)=>v
  | none=>0
 | .bad _=>0
theorem Zcd {n:Nat}{f:Nat->Nat}{p s v q:Nat}(h:Zci n f p=some (v,q)):LU n f (.AB p s)=.AB q p:=by simp[LU,h]
theorem Zcc {n:Nat}{f:Nat->Nat}{p s v q:Nat}(h:Zci n f p=some (v,q)):BJ n f (.AB p s)=v:=by simp[BJ,h]
theorem Zct {n:Nat}{f:Nat->Nat}{p s:Nat}(h:Zci n f p=none):LU n f (.AB p s)=.bad p:=by simp[LU,h]
theorem VV (n:Nat)(f:Nat->Nat)(r:RS):BJ n f r<=2097151:=by
 cases r with
 | bad s=>simp[BJ]
 | AB p s =>
  cases h:Zci n f p with
  | none=>simp[BJ,h]
  | some x =>
   obtain⟨v,q⟩:=x;rw[Zcc h];exact (Zce h).2.2
def Bd (n:Nat)(f:Nat->Nat):Nat->RS->RS
 | 0,r=>r
 | k+1,r=>LU n f (Bd n f k r)
theorem RB (n:Nat)(f:Nat->Nat)(k s:Nat):Bd n f k (.bad s)=.bad s:=by
 induction k with
 | zero=>rfl
 | succ k a=>simp only[Bd,a,LU]
theorem Ek (n:Nat)(f:Nat->Nat)(j k:Nat)(r:RS):Bd n f (j+k) r=Bd n f k (Bd n f j r):=by
 induction k with
 | zero=>rfl
 | succ k a=>rw[<-QGj];simp only[Bd,a]
theorem Zcu {n:Nat}{f:Nat->Nat}{j m:Nat}{r:RS}{s:Nat}(h:Bd n f j r=.bad s)(a:j<=m):Bd n f m r=.bad s:=by
 obtain⟨k,rfl⟩:∃k,m=j+k:=⟨m - j,by omega⟩;rw[Ek,h,RB]
def VQ (n:Nat)(f:Nat->Nat)(r:RS):RS:=Bd n f (7+BJ n f (Bd n f 6 r)) r
def Ud (n:Nat)(f:Nat->Nat):Nat->RS->RS
 | 0,r=>r
 | k+1,r=>VQ n f (Ud n f k r)
theorem YH (n:Nat)(f:Nat->Nat)(s:Nat):VQ n f (.bad s)=.bad s:=RB _ _ _ _
theorem MR (n:Nat)(f:Nat->Nat)(k s:Nat):Ud n f k (.bad s)=.bad s:=by
 induction k with
 | zero=>rfl
 | succ k a=>simp only[Ud,a,YH]
theorem YG (n:Nat)(f:Nat->Nat)(j k:Nat)(r:RS):Ud n f (j+k) r=Ud n f k (Ud n f j r):=by
 induction k with
 | zero=>rfl
 | succ k a=>rw[<-QGj];simp only[Ud,a]
theorem Th {n:Nat}{f:Nat->Nat}{j m:Nat}{r:RS}{s:Nat}(h:Ud n f j r=.bad s)(a:j<=m):Ud n f m r=.bad s:=by
 obtain⟨k,rfl⟩:∃k,m=j+k:=⟨m - j,by omega⟩;rw[YG,h,MR]
def st0 (n:Nat)(f:Nat->Nat):RS:=Bd n f 2 (.AB 0 0)
def st (n:Nat)(f:Nat->Nat)(i:Nat):RS:=Ud n f i (st0 n f)
def Zaj (n:Nat)(f:Nat->Nat):Ad where
 dl:=BJ n f (.AB 0 0)
 n:=BJ n f (Bd n f 1 (.AB 0 0))
 bu i:=BJ n f (st n f i)
 cl i:=BJ n f (Bd n f 1 (st n f i))
 be i:=BJ n f (Bd n f 2 (st n f i))
 ba i:=BJ n f (Bd n f 3 (st n f i))
 ca i:=BJ n f (Bd n f 4 (st n f i))
 ji i:=BJ n f (Bd n f 5 (st n f i))
 an i:=BJ n f (Bd n f 6 (st n f i))
 af i k:=BJ n f (Bd n f (7+k) (st n f i))
def NA (n:Nat)(f:Nat->Nat):RS:=st n f (Zaj n f).n
def Gm:Ad:=⟨0,0,fun _=>0,fun _=>0,fun _=>0,fun _=>0,fun _=>0,fun _=>0,fun _=>0,fun _ _=>0⟩
def Co (n:Nat)(f:Nat->Nat)(x y:Int)(G:Ad):Prop :=
 (∃s,NA n f=.bad s/\x=1/\y=s/\G=Gm) \/
 (∃p s,NA n f=.AB p s/\p<n/\x=1/\y=p/\G=Gm) \/
 (∃p s,NA n f=.AB p s/\n<=p/\Cn (Zaj n f) x y/\(x=0->G=Zaj n f)/\(x≠0->G=Gm))
theorem Co.one {n:Nat}{f:Nat->Nat}{x y o q:Int}{G m:Ad}(h:Co n f x y G)(l:Co n f o q m):x=o/\y=q/\G=m:=by
 rcases h with⟨s,c,rfl,rfl,rfl⟩ | ⟨p,s,c,hp,rfl,rfl,rfl⟩ | ⟨p,s,c,hp,u,r,t⟩
 .rcases l with⟨d,a,rfl,rfl,rfl⟩ | ⟨j,d,a,b,rfl,rfl,rfl⟩ | ⟨j,d,a,b,i,e,g⟩
  .rw[c] at a;cases a;exact⟨rfl,rfl,rfl⟩
  .rw[c] at a;cases a
  .rw[c] at a;cases a
 .rcases l with⟨d,a,rfl,rfl,rfl⟩ | ⟨j,d,a,b,rfl,rfl,rfl⟩ | ⟨j,d,a,b,i,e,g⟩
  .rw[c] at a;cases a
  .rw[c] at a;cases a;exact⟨rfl,rfl,rfl⟩
  .rw[c] at a;cases a;omega
 .rcases l with⟨d,a,rfl,rfl,rfl⟩ | ⟨j,d,a,b,rfl,rfl,rfl⟩ | ⟨j,d,a,b,i,e,g⟩
  .rw[c] at a;cases a
  .rw[c] at a;cases a;omega
  .obtain⟨rfl,rfl⟩:=u.one i
   refine⟨rfl,rfl,?_⟩;by_cases k:x=0
   .rw[r k,e k]
   .rw[t k,g k]
end
open Go.RowKit
abbrev XP (p:Nat):Ending:=.panicked [{ v:=.iface 412 (.int .i64 (p:Nat)),recovered:=false }]
theorem FC.grown {w w':World}{R:Nat}(h:FC w w' R):w.grownBy w' (some R):=⟨h.os,h.tape,h.output,by rw[h.size];exact Zx _,fun k _ hk=>h.block k (fun e=>hk (by rw[e]))⟩
theorem Za8 {a b c:World}{R:Nat}(h:a.grownBy b (some R))(d:b.grownBy c (some R)):a.grownBy c (some R) :=
 ⟨d.os.trans h.os,d.tape.trans h.tape,d.output.trans h.output,Zv h.size d.size,fun k hk e=>(d.block k (Zy hk h.size) e).trans (h.block k hk e)⟩
theorem Aw.grown {w w':World}{R:Nat}{a:Option Addr}{n cap:Nat}{f:Nat->Nat}(h:Aw w a n cap f)(l:∀b o,a=some ⟨b,o,none⟩->b≠R)(e:w.grownBy w' (some R)):Aw w' a n cap f:=by
 rcases h with g | ⟨b,o,rfl,i,j,c,d⟩
 .exact Zu g
 .have m:=l b o rfl
  exact Zj ⟨b,o,rfl,i,j,Zy c e.size,fun k hk=>⟨(Zw (e.block b c (by simpa using m))).trans (d k hk).1,(d k hk).2⟩⟩
theorem LJ {a b c:World}{R:Nat}{o:Obj}{r:Option Nat}(h:a.grownBy b (some R))(d:(b.alloc o).grownBy c r)(j:∀z,r=some z->a.heap.size<=z):a.grownBy c (some R):=by
 have g:ZY b (b.alloc o):=ZV.alloc ZU _;refine⟨d.os.trans h.os,d.tape.trans h.tape,d.output.trans h.output,Zv h.size (Zv g.size d.size),fun k hk i=> ?_⟩;have f:=Zy hk h.size;rw[d.block k (Zy f g.size) (fun e=>by have:=j k e.symm;omega),g.block k f,h.block k hk i]
theorem Ca.grown {w w':World}{R:Nat}{a:Option Addr}{n cap:Nat}{p:Int}{o:Obj}{r:Option Nat}(h:Ca w R a n cap p)(c:R<w.heap.size)(hg:(w.alloc o).grownBy w' r)(d:some R≠r):Ca w' R a n cap p:=by
 have b:ZY w (w.alloc o):=ZV.alloc ZU _;have e:w'.heap[R]? =w.heap[R]? :=(hg.block R (Zy c b.size) d).trans (b.block R c);exact⟨(QEc (a:=⟨R,0,none⟩) e).trans h.c0,(QEc (a:=⟨R,1,none⟩) e).trans h.c1,(QDx (a:=⟨R,1,none⟩) e).trans h.f1⟩
theorem Wq (w:World)(R:Nat)(a:Option Addr)(n cap:Nat)(p:Nat)(hn:n<=maxLen)(hp:p<=n)(h:Ca w R a n cap p) :
  Calls prog 265 #[.pointer (some ⟨R,0,none⟩)] w fun e w'=>((p<n/\e=XP p)\/(n<=p/\e=.returned (.tuple #[])))/\FC w w' R:=by
 unfold maxLen at hn;obtain⟨c0,c1,f1⟩:=h;have b:Hid (∀q,FC w (w.drewN q) R):=Zz fun q=>(FC.refl _ _).drewN q;by_cases c:p<n
 .go_enter func265,ntmps265
  go_wp2_with fail
  go_quiet (fail)
  go_wp2_with fail
  exact⟨rfl,Zu ⟨c,rfl⟩,b.o _⟩
 .obtain rfl:p=n:=by omega
  go_enter func265,ntmps265
  go_wp2_with fail
  go_quiet (fail)
  go_wp2_with fail
  go_end0
  exact⟨Zj ⟨Zx _,rfl⟩,b.o _⟩
def XG (B:Nat)(w':World)(R:Nat)(a:Option Addr)(n cap:Nat)(f:Nat->Nat)(r:RS)(e:Ending):Prop :=
 (∃q s la lc,Bd n f (1+BJ n f r) r=.AB q s/\q<=n/\e=.returned (.slice la (BJ n f r) lc)/\w'.ownsRow B 3 1 (.slice la (BJ n f r) lc) (BJ n f r) (Zbx (BJ n f r) fun k=>BJ n f (Bd n f (1+k) r))/\Ca w' R a n cap (q:Nat)) \/
 (∃s,Bd n f (1+BJ n f r) r=.bad s/\e=XP s)
theorem Tt (w:World)(R:Nat)(a:Option Addr)(n cap:Nat)(f:Nat->Nat)(p s:Nat)(aj:R<w.heap.size)(hn:n<=maxLen)(hp:p<=n)(h:Ca w R a n cap p)(hR:∀b o,a=some ⟨b,o,none⟩->b≠R)(hb:Aw w a n cap f) :
  Calls prog 264 #[.pointer (some ⟨R,0,none⟩),.func (.func 261) #[.pointer (some ⟨R,0,none⟩)] #[]] w fun e w'=>XG w.heap.size w' R a n cap f (.AB p s) e/\w.grownBy w' (some R):=by
 obtain⟨i3,M,E,F,G⟩:=info_parts Vk;have y:=Zz (Zq M (Zq E (Zq F G)));have HB:=Zz hb;have J:=Zz hR;clear M E F G hb hR
 go_enter func264,ntmps264
 go_wp2_with fail
 refine (Zc7 _ R a n cap f p hn hp h J.o HB.o).mono ?_;rintro e w1 ⟨⟨m,q,i,rfl,c⟩ | ⟨i,rfl,c⟩,t⟩
 case inr =>
  have r:=Zz (Zq i t.grown);clear i c t h;go_wp2_with fail
  refine⟨rfl,Zj ⟨p,?_,rfl⟩,r.o.2⟩;exact Zcu (j:=1) (by simp only[Bd];exact Zct r.o.1) (by omega)
 have hq:=Zce i;have P:Bd n f 1 (.AB p s)=.AB q p:=by simp only[Bd];exact Zcd i
 have S:BJ n f (.AB p s)=m:=Zcc i;have l:=Zz (Zq P S);have X:=Zz t.grown;have W:=Zz c;clear i P S t c h;go_wp2_with fail
 go_loopw [5,8] (fun lv iv wr=>∃(k:Nat) (H:Option Addr) (lc q s':Nat),iv=.int .i64 k/\k<=m/\lv=.slice H k lc/\wr.ownsRow w.heap.size 3 1 (.slice H k lc) k (Zbx k fun k=>BJ n f (Bd n f (1+k) (.AB p s)))/\Bd n f (1+k) (.AB p s)=.AB q s'/\q<=n/\Ca wr R a n cap (q:Nat)/\w.grownBy wr (some R)) (fun _ iv _=>m - (intOf iv).toNat)
 case atStart=>exact⟨0,none,0,q,p,rfl,by omega,rfl,QEj _ _ _ _,l.o.1,hq.2.1,W.o,X.o⟩
 case round =>
  obtain⟨k,H,lc,U,s2,rfl,hk,rfl,B,Q,O,C,K⟩:=hrel
  rename World=>w2
  have T:=Zz B;have A:=Zz Q;have L:=Zz C;have x:=Zz K;have Y:w.heap.size<=w2.heap.size:=K.size;clear B Q C K;by_cases h1:k<m
  .go_wp2_with fail
   refine (Zc7 _ R a n cap f U hn O L.o J.o (HB.o.grown J.o x.o)).mono ?_;rintro e w3 ⟨⟨v,q3,i,rfl,c⟩ | ⟨i,rfl,c⟩,t⟩
   case inr =>
    have r:=Zz (Zq i t.grown);clear i c t;go_wp2_with fail
    refine⟨rfl,Zj ⟨U,?_,rfl⟩,Za8 x.o r.o.2⟩;rw[l.o.2];exact Zcu (j:=1+k+1) (by simp only[Bd];rw[A.o];exact Zct r.o.1) (by omega)
   have ae:=Zce i;have r:=Zz (Zq i (Zq t c));have ag:w.heap.size<=w3.heap.size:=by rw[t.size];exact Y
   clear i t c
   have V:Hid (∀ob,(w3.alloc ob).ownsRow w.heap.size 3 1 (.slice H k lc) k (Zbx k fun k=>BJ n f (Bd n f (1+k) (.AB p s)))):=Zz fun ob=>by
    refine (T.o.kept r.o.2.1.grown ?_).alloc ob
    cases Z:(Value.slice H k lc).ownBlock with
    | none=>exact Zu rfl
    | some z=>right;have:=(T.o.lt z Z).1;simp;omega
   go_wp2_with (at_builtin;refine QFb _ rfl (.tmp 10) (.tmp 13) 24 rfl w.heap.size 3 i3 (.int .i64 0) 1 8 underlying24 y.o.1 y.o.2.1 y.o.2.2.1 y.o.2.2.2 rfl (by decide) (.slice H k lc) k (Zbx k fun k=>BJ n f (Bd n f (1+k) (.AB p s))) rfl (V.o _) ⟨w3.heap.size,0,none⟩ 1 1 [.int .i64 v] rfl rfl (Ki _ _ _ _ rfl) (by intro u hu;simp only[List.mem_singleton] at hu;subst hu;rfl) (by unfold maxLen;omega) (by omega) (by simp;omega) ?_;intro v4 w4 d g N;clear N;obtain⟨xa,xc,rfl⟩:=Zaz d;have I:=Zz (Zq d g);clear d g)
   go_roundw
   case rel =>
    have D:∀z,(Value.slice H k lc).ownBlock=some z->w.heap.size<=z:=fun z hz=>(T.o.lt z hz).1;refine⟨k+1,xa,xc,q3,U,by go_num,by omega,rfl,?_,?_,ae.2.1,?_,LJ (Za8 x.o r.o.2.1.grown) I.o.2 D⟩
    .have e:Zbx (k+1) (fun k=>(BJ n f (Bd n f (1+k) (.AB p s)):Int))=Zbx k (fun k=>(BJ n f (Bd n f (1+k) (.AB p s)):Int))++[.int .i64 v]:=by
      simp only[Zbx,List.range_succ,List.map_append,List.map_cons,List.map_nil];rw[A.o,Zcc r.o.1]
     rw[e];exact I.o.1
    .show Bd n f (1+k+1) _=_
     simp only[Bd];rw[A.o];exact Zcd r.o.1
    .exact r.o.2.2.grown (by omega) I.o.2 (fun e=>by have:=D R e.symm;omega)
   case measure=>simp[intOf];omega
  .obtain rfl:k=m:=by omega
   go_wp2_with fail
   go_ret
   exact⟨Zu ⟨U,s2,H,lc,by rw[l.o.2];exact A.o,O,(by rw[l.o.2];rfl),by rw[l.o.2];exact T.o,L.o⟩,x.o⟩
section
open Go.RowKit
def Nd (w:World)(D:Nat)(g:Nat->Value):Prop:=∀j,j<7->w.cell? ⟨D,j,none⟩=some (g j)/\w.frozen? ⟨D,j,none⟩=false
theorem Nd.set {w:World}{D:Nat}{g:Nat->Value}(h:Nd w D g)(i:Nat)(hi:i<7)(v:Value):Nd (w.setCell ⟨D,i,none⟩ v) D (fun j=>if j=i then v else g j):=by
 intro j a;refine⟨?_,by rw[QEa];exact (h j a).2⟩;by_cases e:j=i
 .subst e
  simp only[if_true];exact QDz _ _ _ (h j a).1
 .simp only[e,if_false]
  rw[QGd _ _ _ _ (fun b=>e (by have:=(Addr.mk.inj b).2.1;omega))];exact (h j a).1
theorem Nd.block {w w':World}{D:Nat}{g:Nat->Value}(h:Nd w D g)(e:w'.heap[D]? =w.heap[D]?):Nd w' D g:=fun j b =>
 ⟨(QEc (a:=⟨D,j,none⟩) e).trans (h j b).1,(QDx (a:=⟨D,j,none⟩) e).trans (h j b).2⟩
theorem Nd.lt {w:World}{D:Nat}{g:Nat->Value}(h:Nd w D g):D<w.heap.size:=QDv _ _ (h 0 (by omega)).1
theorem Ca.set {w:World}{R D o:Nat}{a:Option Addr}{n cap:Nat}{p:Int}(h:Ca w R a n cap p)(b:D≠R)(v:Value):Ca (w.setCell ⟨D,o,none⟩ v) R a n cap p:=by
 have e:(w.setCell ⟨D,o,none⟩ v).heap[R]? =w.heap[R]? :=Zl w ⟨D,o,none⟩ v R (by simpa using b.symm);exact⟨(QEc (a:=⟨R,0,none⟩) e).trans h.c0,(QEc (a:=⟨R,1,none⟩) e).trans h.c1,(QDx (a:=⟨R,1,none⟩) e).trans h.f1⟩
theorem Ca.below {w w':World}{R:Nat}{a:Option Addr}{n cap:Nat}{p:Int}(h:Ca w R a n cap p)(hb:ZY w w'):Ca w' R a n cap p:=by
 have b:R<w.heap.size:=QDv _ _ h.c0;exact⟨(hb.cell (p:=⟨R,0,none⟩) b).trans h.c0,(hb.cell (p:=⟨R,1,none⟩) b).trans h.c1,(hb.frozen (p:=⟨R,1,none⟩) b).trans h.f1⟩
theorem Zcv {a b:World}{R D:Nat}(h:a.grownBy b (some R))(d:a.heap.size<=D)(o:Nat)(v:Value):a.grownBy (b.setCell ⟨D,o,none⟩ v) (some R) :=
 ⟨h.os,h.tape,h.output,Zv h.size (by simp[QDw]),fun k hk c=>(Zl b ⟨D,o,none⟩ v k (by simp;omega)).trans (h.block k hk c)⟩
theorem Zeq {a b:World}{R:Nat}(h:ZY a b):a.grownBy b (some R):=⟨h.os,h.tape,h.output,h.size,fun k hk _=>h.block k hk⟩
structure PnI (w x:World)(R:Nat)(a:Option Addr)(n cap q:Nat)(g:Nat->Value):Prop where
 gr:w.grownBy x (some R)
 pd:Ca x R a n cap (q:Nat)
 nd:Nd x (w.heap.size+1) g
 ne:Nd x w.heap.size (fun j=>if j=6 then .slice none 0 0 else .int .i64 0)
theorem PnI.num {w x y:World}{R:Nat}{a:Option Addr}{n cap q c:Nat}{g:Nat->Value}(h:PnI w x R a n cap q g)(d:R<w.heap.size)(b:FC x y R)(hp:Ca y R a n cap (c:Nat))(i:Nat)(hi:i<7)(v:Value) :
  PnI w (y.setCell ⟨w.heap.size+1,i,none⟩ v) R a n cap c (fun j=>if j=i then v else g j):=by
 have e:=h.nd.lt;refine⟨Zcv (Za8 h.gr b.grown) (by omega) i v,hp.set (by omega) v,(h.nd.block (b.block _ (by omega))).set i hi v,?_⟩;refine (h.ne.block (b.block _ (by omega))).block (Zl y ⟨w.heap.size+1,i,none⟩ v w.heap.size (by simp))
def XI (B:Nat)(w':World)(R:Nat)(a:Option Addr)(n cap:Nat)(f:Nat->Nat)(r:RS)(e:Ending):Prop :=
 (∃q s la lc,VQ n f r=.AB q s/\q<=n/\e=.returned (.agg #[.int .i64 (BJ n f r:Nat),.int .i64 (BJ n f (Bd n f 1 r):Nat),.int .i64 (BJ n f (Bd n f 2 r):Nat),.int .i64 (BJ n f (Bd n f 3 r):Nat),.int .i64 (BJ n f (Bd n f 4 r):Nat),.int .i64 (BJ n f (Bd n f 5 r):Nat),.slice la (BJ n f (Bd n f 6 r)) lc]) /\
  w'.ownsRow B 3 1 (.slice la (BJ n f (Bd n f 6 r)) lc) (BJ n f (Bd n f 6 r)) (Zbx (BJ n f (Bd n f 6 r)) fun k=>BJ n f (Bd n f (7+k) r))/\Ca w' R a n cap (q:Nat)) \/
 (∃s,VQ n f r=.bad s/\e=XP s)
theorem Rw {n:Nat}{f:Nat->Nat}{r a:RS}(b:Bd n f 6 r=a):VQ n f r=Bd n f (1+BJ n f a) a:=by
 unfold VQ;rw[b,show 7+BJ n f a=6+(1+BJ n f a) by omega,Ek,b]
theorem Tu (w:World)(R V:Nat)(a:Option Addr)(n cap:Nat)(f:Nat->Nat)(p s:Nat)(E:R<w.heap.size)(aw:V≠R)(hV:w.cell? ⟨V,0,none⟩=some (.pointer (some ⟨R,0,none⟩)))(hn:n<=maxLen)(hp:p<=n)(h:Ca w R a n cap p)(hR:∀b o,a=some ⟨b,o,none⟩->b≠R)(hb:Aw w a n cap f) :
  Calls prog 263 #[.pointer (some ⟨V,0,none⟩)] w fun e w'=>XI w.heap.size w' R a n cap f (.AB p s) e/\w.grownBy w' (some R):=by
 have K:=Zz hb;have l:=Zz hR;have HP:=Zz h;have S:=Zz (fun x (hg:w.grownBy x (some R))=>hg.cell (a:=⟨V,0,none⟩) hV (by simpa using aw));clear hb hR h;have ax:Hid (∀o1 o2,ZY w ((w.alloc o1).alloc o2)):=Zz fun o1 o2=>(ZV.alloc ZU _).alloc (by simp) _
 have i0:=six0 (w.heap.size+1);have i1:=six1 (w.heap.size+1);have i2:=six2 (w.heap.size+1);have i3:=six3 (w.heap.size+1);have i4:=six4 (w.heap.size+1);have i5:=six5 (w.heap.size+1)
 go_enter func263,ntmps263
 go_wp2_with fail
 refine (FN (w.heap.size+1) _).mono ?_;rintro e x0 ⟨rfl,H⟩;have T:ZY w x0:=(ax.o _ _).trans (H.mono (by simp;omega))
 have u:Hid (PnI w x0 R a n cap p (fun j=>if j=6 then .slice none 0 0 else .int .i64 0)):=Zz ⟨Zeq T,HP.o.below T,by
  refine Nd.block ?_ (H.block _ (by simp));intro j hj;rcases (show j=0\/j=1\/j=2\/j=3\/j=4\/j=5\/j=6 by omega) with rfl | rfl | rfl | rfl | rfl | rfl | rfl<;>simp,by
  refine Nd.block ?_ (H.block _ (by simp;omega));intro j hj;rcases (show j=0\/j=1\/j=2\/j=3\/j=4\/j=5\/j=6 by omega) with rfl | rfl | rfl | rfl | rfl | rfl | rfl<;>simp⟩
 clear H T
 generalize KK (w.heap.size+1)=pv at i0 i1 i2 i3 i4 i5
 have L:Hid (Bd n f 0 (.AB p s)=.AB p s):=Zz rfl;have V0:=S.o _ u.o.gr;obtain⟨k0,W⟩:=u.o.nd 0 (by omega);go_wp2_with fail
 refine wp_loop_rounds 7 ?_;rw[QGv];go_wp2_with fail
 refine (Zc7 _ R a n cap f p hn hp u.o.pd l.o (K.o.grown l.o u.o.gr)).mono ?_;rintro e y0 ⟨⟨v0,q1,d,rfl,c⟩ | ⟨d,rfl,c⟩,g⟩
 case inr =>
  have q:=Zz (Zq d g.grown);clear d c g;go_wp2_with fail
  refine⟨rfl,Zj ⟨p,?_,rfl⟩,Za8 u.o.gr q.o.2⟩;exact Zcu (j:=0+1) (by show LU n f (Bd n f 0 _)=_;rw[L.o];exact Zct q.o.1) (by omega)
 have ay:q1<=n:=(Zce d).2.1;have M:Hid (Bd n f 1 (.AB p s)=.AB q1 p):=Zz (by show LU n f (Bd n f 0 _)=_;rw[L.o];exact Zcd d);have ae:Hid (BJ n f (Bd n f 0 (.AB p s))=v0):=Zz (by rw[L.o];exact Zcc d);have y:=Zz (u.o.num E g c 0 (by omega) (.int .i64 v0));obtain⟨k0,W⟩:=(u.o.nd.block (g.block _ (by omega))) 0 (by omega);clear d c g V0;go_wp2_with fail
 have V1:=S.o _ y.o.gr;clear k0 W;rw[QGv];go_wp2_with fail
 refine (Zc7 _ R a n cap f q1 hn ay y.o.pd l.o (K.o.grown l.o y.o.gr)).mono ?_;rintro e y1 ⟨⟨v1,X,d,rfl,c⟩ | ⟨d,rfl,c⟩,g⟩
 case inr =>
  have q:=Zz (Zq d g.grown);clear d c g;go_wp2_with fail
  refine⟨rfl,Zj ⟨q1,?_,rfl⟩,Za8 y.o.gr q.o.2⟩;exact Zcu (j:=1+1) (by show LU n f (Bd n f 1 _)=_;rw[M.o];exact Zct q.o.1) (by omega)
 have az:X<=n:=(Zce d).2.1;have N:Hid (Bd n f 2 (.AB p s)=.AB X q1):=Zz (by show LU n f (Bd n f 1 _)=_;rw[M.o];exact Zcd d);have ag:Hid (BJ n f (Bd n f 1 (.AB p s))=v1):=Zz (by rw[M.o];exact Zcc d);have A:=Zz (y.o.num E g c 1 (by omega) (.int .i64 v1));obtain⟨k1,br⟩:=(y.o.nd.block (g.block _ (by omega))) 1 (by omega);clear d c g V1;go_wp2_with fail
 have V2:=S.o _ A.o.gr;clear k1 br;rw[QGv];go_wp2_with fail
 refine (Zc7 _ R a n cap f X hn az A.o.pd l.o (K.o.grown l.o A.o.gr)).mono ?_;rintro e y2 ⟨⟨v2,Y,d,rfl,c⟩ | ⟨d,rfl,c⟩,g⟩
 case inr =>
  have q:=Zz (Zq d g.grown);clear d c g;go_wp2_with fail
  refine⟨rfl,Zj ⟨X,?_,rfl⟩,Za8 A.o.gr q.o.2⟩;exact Zcu (j:=2+1) (by show LU n f (Bd n f 2 _)=_;rw[N.o];exact Zct q.o.1) (by omega)
 have bf:Y<=n:=(Zce d).2.1;have O:Hid (Bd n f 3 (.AB p s)=.AB Y X):=Zz (by show LU n f (Bd n f 2 _)=_;rw[N.o];exact Zcd d);have aj:Hid (BJ n f (Bd n f 2 (.AB p s))=v2):=Zz (by rw[N.o];exact Zcc d);have B:=Zz (A.o.num E g c 2 (by omega) (.int .i64 v2));obtain⟨k2,bw⟩:=(A.o.nd.block (g.block _ (by omega))) 2 (by omega);clear d c g V2;go_wp2_with fail
 have V3:=S.o _ B.o.gr;clear k2 bw;rw[QGv];go_wp2_with fail
 refine (Zc7 _ R a n cap f Y hn bf B.o.pd l.o (K.o.grown l.o B.o.gr)).mono ?_;rintro e y3 ⟨⟨v3,Z,d,rfl,c⟩ | ⟨d,rfl,c⟩,g⟩
 case inr =>
  have q:=Zz (Zq d g.grown);clear d c g;go_wp2_with fail
  refine⟨rfl,Zj ⟨Y,?_,rfl⟩,Za8 B.o.gr q.o.2⟩;exact Zcu (j:=3+1) (by show LU n f (Bd n f 3 _)=_;rw[O.o];exact Zct q.o.1) (by omega)
 have bh:Z<=n:=(Zce d).2.1;have P:Hid (Bd n f 4 (.AB p s)=.AB Z Y):=Zz (by show LU n f (Bd n f 3 _)=_;rw[O.o];exact Zcd d);have al:Hid (BJ n f (Bd n f 3 (.AB p s))=v3):=Zz (by rw[O.o];exact Zcc d);have C:=Zz (B.o.num E g c 3 (by omega) (.int .i64 v3));obtain⟨k3,ck⟩:=(B.o.nd.block (g.block _ (by omega))) 3 (by omega);clear d c g V3;go_wp2_with fail
 have V4:=S.o _ C.o.gr;clear k3 ck;rw[QGv];go_wp2_with fail
 refine (Zc7 _ R a n cap f Z hn bh C.o.pd l.o (K.o.grown l.o C.o.gr)).mono ?_;rintro e y4 ⟨⟨v4,J,d,rfl,c⟩ | ⟨d,rfl,c⟩,g⟩
 case inr =>
  have q:=Zz (Zq d g.grown);clear d c g;go_wp2_with fail
  refine⟨rfl,Zj ⟨Z,?_,rfl⟩,Za8 C.o.gr q.o.2⟩;exact Zcu (j:=4+1) (by show LU n f (Bd n f 4 _)=_;rw[P.o];exact Zct q.o.1) (by omega)
 have bj:J<=n:=(Zce d).2.1;have Q:Hid (Bd n f 5 (.AB p s)=.AB J Z):=Zz (by show LU n f (Bd n f 4 _)=_;rw[P.o];exact Zcd d);have ar:Hid (BJ n f (Bd n f 4 (.AB p s))=v4):=Zz (by rw[P.o];exact Zcc d);have D:=Zz (C.o.num E g c 4 (by omega) (.int .i64 v4));obtain⟨k4,cm⟩:=(C.o.nd.block (g.block _ (by omega))) 4 (by omega);clear d c g V4;go_wp2_with fail
 have V5:=S.o _ D.o.gr;clear k4 cm;rw[QGv];go_wp2_with fail
 refine (Zc7 _ R a n cap f J hn bj D.o.pd l.o (K.o.grown l.o D.o.gr)).mono ?_;rintro e y5 ⟨⟨v5,q6,d,rfl,c⟩ | ⟨d,rfl,c⟩,g⟩
 case inr =>
  have q:=Zz (Zq d g.grown);clear d c g;go_wp2_with fail
  refine⟨rfl,Zj ⟨J,?_,rfl⟩,Za8 D.o.gr q.o.2⟩;exact Zcu (j:=5+1) (by show LU n f (Bd n f 5 _)=_;rw[Q.o];exact Zct q.o.1) (by omega)
 have bo:q6<=n:=(Zce d).2.1;have G:Hid (Bd n f 6 (.AB p s)=.AB q6 J):=Zz (by show LU n f (Bd n f 5 _)=_;rw[Q.o];exact Zcd d);have au:Hid (BJ n f (Bd n f 5 (.AB p s))=v5):=Zz (by rw[Q.o];exact Zcc d);have t:=Zz (D.o.num E g c 5 (by omega) (.int .i64 v5));obtain⟨k5,cq⟩:=(D.o.nd.block (g.block _ (by omega))) 5 (by omega);clear d c g V5;go_wp2_with fail
 have V6:=S.o _ t.o.gr;clear k5 cq;rw[QGv];go_wp2_with fail
 have dj:=t.o.gr.size;refine (Tt _ R a n cap f q6 J (by omega) hn bo t.o.pd l.o (K.o.grown l.o t.o.gr)).mono ?_;rintro e z ⟨hx,hg⟩;have HG:=Zz (Za8 t.o.gr hg);have hD:=t.o.nd.lt;rcases hx with⟨q7,s7,la,lc,F,bp,rfl,I,c⟩ | ⟨s7,F,rfl⟩
 case inr =>
  have q:=Zz F;clear F hg;go_wp2_with fail
  exact⟨rfl,Zj ⟨s7,by rw[Rw G.o];exact q.o,rfl⟩,HG.o⟩
 have q:=Zz (Zq F (Zq I c));have r:=t.o.nd.block (hg.block _ hD (by simp;omega));have i:=t.o.ne.block (hg.block _ (by omega) (by simp;omega));clear F I c hg V6;have cr:=Zz r;have cu:=Zz i;have d0:z.cell? ⟨w.heap.size+1,0,none⟩=some (.int .i64 v0):=by have:=(r 0 (by omega)).1;simpa using this
 have e0:z.cell? ⟨w.heap.size,0,none⟩=some (.int .i64 0):=by have:=(i 0 (by omega)).1;simpa using this
 have cz:=(i 0 (by omega)).2;have d1:z.cell? ⟨w.heap.size+1,1,none⟩=some (.int .i64 v1):=by have:=(r 1 (by omega)).1;simpa using this
 have e1:z.cell? ⟨w.heap.size,1,none⟩=some (.int .i64 0):=by have:=(i 1 (by omega)).1;simpa using this
 have da:=(i 1 (by omega)).2;have d2:z.cell? ⟨w.heap.size+1,2,none⟩=some (.int .i64 v2):=by have:=(r 2 (by omega)).1;simpa using this
 have e2:z.cell? ⟨w.heap.size,2,none⟩=some (.int .i64 0):=by have:=(i 2 (by omega)).1;simpa using this
 have db:=(i 2 (by omega)).2;have d3:z.cell? ⟨w.heap.size+1,3,none⟩=some (.int .i64 v3):=by have:=(r 3 (by omega)).1;simpa using this
 have e3:z.cell? ⟨w.heap.size,3,none⟩=some (.int .i64 0):=by have:=(i 3 (by omega)).1;simpa using this
 have dc:=(i 3 (by omega)).2;have d4:z.cell? ⟨w.heap.size+1,4,none⟩=some (.int .i64 v4):=by have:=(r 4 (by omega)).1;simpa using this
 have e4:z.cell? ⟨w.heap.size,4,none⟩=some (.int .i64 0):=by have:=(i 4 (by omega)).1;simpa using this
 have dd:=(i 4 (by omega)).2;have d5:z.cell? ⟨w.heap.size+1,5,none⟩=some (.int .i64 v5):=by have:=(r 5 (by omega)).1;simpa using this
 have e5:z.cell? ⟨w.heap.size,5,none⟩=some (.int .i64 0):=by have:=(i 5 (by omega)).1;simpa using this
 have de:=(i 5 (by omega)).2;have d6:z.cell? ⟨w.heap.size+1,6,none⟩=some (.slice none 0 0):=by have:=(r 6 (by omega)).1;simpa using this
 have e6:z.cell? ⟨w.heap.size,6,none⟩=some (.slice none 0 0):=by have:=(i 6 (by omega)).1;simpa using this
 have dh:=(i 6 (by omega)).2;have cy:=(r 6 (by omega)).2
 generalize hm:BJ n f (.AB q6 J)=m
 rw[hm] at q;clear r i;go_wp2_with fail
 have U:BJ n f (Bd n f 6 (.AB p s))=m:=by rw[G.o];exact hm
 refine bodyPost_ret (v:=.agg #[.int .i64 v0,.int .i64 v1,.int .i64 v2,.int .i64 v3,.int .i64 v4,.int .i64 v5,.slice la m lc]) (by simp[results,Tryz.results263,go_sem,e0,e1,e2,e3,e4,e5,e6]) rfl ⟨Zu ⟨q7,s7,la,lc,?_,bp,?_,?_,?_⟩,?_⟩
 .rw[Rw G.o,hm];exact q.o.1
 .rw[U,ag.o,aj.o,al.o,ar.o,au.o]
  have:=ae.o;simp only[Bd] at this;rw[this]
 .rw[U]
  have e:(fun k=>(BJ n f (Bd n f (7+k) (.AB p s)):Int))=fun k=>(BJ n f (Bd n f (1+k) (.AB q6 J)):Int):=by
   funext k
   rw[show 7+k=6+(1+k) by omega,Ek,G.o]
  rw[e];exact Zcs ((QDu (QDu (QDu (QDu (QDu (QDu (QDu (QDu q.o.2.1 (by simp only[];omega) _) (by simp only[];omega) _) (by simp only[];omega) _) (by simp only[];omega) _) (by simp only[];omega) _) (by simp only[];omega) _) (by simp only[];omega) _) (by simp only[];omega) _)) (by omega)
 .exact (Ca.set (Ca.set (Ca.set (Ca.set (Ca.set (Ca.set (Ca.set (Ca.set q.o.2.2 (by omega) _) (by omega) _) (by omega) _) (by omega) _) (by omega) _) (by omega) _) (by omega) _) (by omega) _)
 .exact (Zcv (Zcv (Zcv (Zcv (Zcv (Zcv (Zcv (Zcv HG.o (by omega) _ _) (by omega) _ _) (by omega) _ _) (by omega) _ _) (by omega) _ _) (by omega) _ _) (by omega) _ _) (by omega) _ _)
end
section
open Go.RowKit
theorem Kt {w w':World}{B R:Nat}{e:TypeId}{size n:Nat}{v:Value}{xs:List Value}(h:w.ownsRow B e size v n xs)(hg:w.grownBy w' (some R))(b:R<B):w'.ownsRow B e size v n xs:=by
 refine h.kept hg ?_
 cases a:v.ownBlock with
 | none=>exact Zu rfl
 | some z=>right;have:=(h.lt z a).1;simp;omega
theorem An.Vb {B R:Nat}{w w':World}{F:Ad}{v:Value}{k:Nat}{a:Nat->Option Addr}{b:Nat->Nat}(h:An B w F v k a b)(hg:w.grownBy w' (some R))(c:R<B):An B w' F v k a b :=
 ⟨Kt h.own hg c,fun i hi=>Kt (h.DW i hi) hg c⟩
def Ui (B:Nat)(w':World)(R:Nat)(a:Option Addr)(n cap:Nat)(f:Nat->Nat)(e:Ending):Prop :=
 (∃q s la lc Na Nc,NA n f=.AB q s/\q<=n/\e=.returned (.slice la (Zaj n f).n lc)/\An B w' (Zaj n f) (.slice la (Zaj n f).n lc) (Zaj n f).n Na Nc/\Ca w' R a n cap (q:Nat)) \/
 (∃s,NA n f=.bad s/\e=XP s)
theorem QD (w:World)(R V:Nat)(a:Option Addr)(n cap:Nat)(f:Nat->Nat)(p s:Nat)(C:Bd n f 1 (.AB 0 0)=.AB p s)(bh:R<w.heap.size)(ae:V≠R)(hV:w.cell? ⟨V,0,none⟩=some (.pointer (some ⟨R,0,none⟩)))(hn:n<=maxLen)(hp:p<=n)(h:Ca w R a n cap p)(hR:∀b o,a=some ⟨b,o,none⟩->b≠R)(hb:Aw w a n cap f) :
  Calls prog 262 #[.pointer (some ⟨R,0,none⟩),.func (.func 263) #[] #[.pointer (some ⟨V,0,none⟩)]] w fun e w'=>Ui w.heap.size w' R a n cap f e/\w.grownBy w' (some R):=by
 obtain⟨i27,K,E,F,G⟩:=info_parts Qc;have r:=Zz (Zq K (Zq E (Zq F G)));have HB:=Zz hb;have N:=Zz hR;have HV:=Zz (fun x (hg:w.grownBy x (some R))=>hg.cell (a:=⟨V,0,none⟩) hV (by simpa using ae));have hm:(Zaj n f).n=BJ n f (.AB p s):=by show BJ n f (Bd n f 1 (.AB 0 0))=_;rw[C]
 have al:=VV n f (.AB p s);have hE:NA n f=Ud n f (BJ n f (.AB p s)) (st0 n f):=by unfold NA st;rw[hm]
 have h0:st0 n f=Bd n f 1 (.AB p s):=by unfold st0;rw[show 2=1+1 from rfl,Ek,C]
 have Y:=Zz (Zq hE (Zq h0 hm));clear K E F G hb hR hE h0 hm C
 go_enter func262,ntmps262
 go_wp2_with fail
 refine (Zc7 _ R a n cap f p hn hp h N.o HB.o).mono ?_;rintro e w1 ⟨⟨m,q,T,rfl,l⟩ | ⟨T,rfl,l⟩,ht⟩
 case inr =>
  have H:=Zz (Zq T ht.grown);clear T l ht h;go_wp2_with fail
  refine⟨rfl,Zj ⟨p,?_,rfl⟩,H.o.2⟩;rw[Y.o.1,Y.o.2.1];have:Bd n f 1 (.AB p s)=.bad p:=by simp only[Bd];exact Zct H.o.1
  rw[this,MR]
 have hq:=Zce T;have au:Bd n f 1 (.AB p s)=.AB q p:=by simp only[Bd];exact Zcd T
 have U:BJ n f (.AB p s)=m:=Zcc T;have O:=Zz (Zq (Y.o.2.1.trans au) U);have ay:=Zz ht.grown;have ax:=Zz l;rw[U] at al;clear T au U ht l h;go_wp2_with fail
 go_loopw [5,8] (fun lv iv wr=>∃(k:Nat) (W:Option Addr) (lc q s':Nat) (Na:Nat->Option Addr) (Nc:Nat->Nat),iv=.int .i64 k/\k<=m/\lv=.slice W k lc/\An w.heap.size wr (Zaj n f) (.slice W k lc) k Na Nc/\st n f k=.AB q s'/\q<=n/\Ca wr R a n cap (q:Nat)/\w.grownBy wr (some R)) (fun _ iv _=>m - (intOf iv).toNat)
 case atStart=>exact⟨0,none,0,q,p,fun _=>none,fun _=>0,rfl,by omega,rfl,⟨QEj _ _ _ _,fun i hi=>by omega⟩,O.o.1,hq.2.1,ax.o,ay.o⟩
 case round =>
  obtain⟨k,W,lc,g,s2,Na,Nc,rfl,hk,rfl,ag,aw,ar,L,Q⟩:=hrel
  rename World=>w2
  have HO:=Zz ag;have P:=Zz aw;have Z:=Zz L;have y:=Zz Q;have az:w.heap.size<=w2.heap.size:=Q.size;clear ag aw L Q;by_cases h1:k<m
  .go_wp2_with fail
   refine (Tu _ R V a n cap f g s2 (by omega) ae (HV.o _ y.o) hn ar Z.o N.o (HB.o.grown N.o y.o)).mono ?_;rintro e w3 ⟨hx,v⟩
   have D:st n f (k+1)=VQ n f (.AB g s2):=by
    have:=P.o;unfold st at this ⊢;simp only[Ud];rw[this]
   have J:=Zz D;rcases hx with⟨q3,s3,na,nc,A,bf,rfl,B,l⟩ | ⟨s3,A,rfl⟩
   case inr =>
    have H:=Zz (Zq A v);clear A v D;go_wp2_with fail
    refine⟨rfl,Zj ⟨s3,?_,rfl⟩,Za8 y.o H.o.2⟩;rw[Y.o.1,O.o.2];exact Th (j:=k+1) (by have:=J.o;unfold st at this;rw[this];exact H.o.1) (by omega)
   have hr:st n f k=.AB g s2:=P.o;rw[<-hr] at B;have H:=Zz (Zq A (Zq B (Zq l v)));have bj:w2.heap.size<=w3.heap.size:=v.size;have X:Hid (An w.heap.size w3 (Zaj n f) (.slice W k lc) k Na Nc):=Zz (HO.o.Vb v (by omega));have c:Hid (Zd8 (Zaj n f) k na nc=[.int .i64 (BJ n f (.AB g s2):Nat),.int .i64 (BJ n f (Bd n f 1 (.AB g s2)):Nat),.int .i64 (BJ n f (Bd n f 2 (.AB g s2)):Nat),.int .i64 (BJ n f (Bd n f 3 (.AB g s2)):Nat),.int .i64 (BJ n f (Bd n f 4 (.AB g s2)):Nat),.int .i64 (BJ n f (Bd n f 5 (.AB g s2)):Nat),.slice na (BJ n f (Bd n f 6 (.AB g s2))) nc]):=Zz (by rw[<-hr];rfl);clear A B l v D hr
   generalize BJ n f (.AB g s2)=z0 at c ⊢
   generalize BJ n f (Bd n f 1 (.AB g s2))=z1 at c ⊢
   generalize BJ n f (Bd n f 2 (.AB g s2))=z2 at c ⊢
   generalize BJ n f (Bd n f 3 (.AB g s2))=z3 at c ⊢
   generalize BJ n f (Bd n f 4 (.AB g s2))=z4 at c ⊢
   generalize BJ n f (Bd n f 5 (.AB g s2))=z5 at c ⊢
   generalize BJ n f (Bd n f 6 (.AB g s2))=z6 at c ⊢
   have S:Hid (∀u∈[Value.int .i64 z0,.int .i64 z1,.int .i64 z2,.int .i64 z3,.int .i64 z4,.int .i64 z5,.slice na z6 nc],u.oneCell'=true):=Zz (by rw[<-c.o];exact Wk _ _ _ _);go_wp2_with (at_builtin;refine QFb _ rfl (.tmp 10) (.tmp 13) 59 rfl w.heap.size 130 i27 (.agg #[.int .i64 0,.int .i64 0,.int .i64 0,.int .i64 0,.int .i64 0,.int .i64 0,.slice none 0 0]) 7 72 underlying59 r.o.1 r.o.2.1 r.o.2.2.1 r.o.2.2.2 rfl (by decide) (.slice W k lc) k (Zbw (Zaj n f) Na Nc k) rfl (X.o.own.alloc _) ⟨w3.heap.size,0,none⟩ 1 1 [.int .i64 z0,.int .i64 z1,.int .i64 z2,.int .i64 z3,.int .i64 z4,.int .i64 z5,.slice na z6 nc] rfl rfl (Rx _ _ _ _ rfl) S.o (by unfold maxLen;omega) (by omega) (by simp;omega) ?_;intro v4 w4 d t aj;clear aj;rw[<-c.o] at d;obtain⟨xa,xc,rfl⟩:=Zaz d;have I:=Zz (Zq d t);clear d t)
   go_roundw
   case rel =>
    have M:∀z,(Value.slice W k lc).ownBlock=some z->w.heap.size<=z:=fun z hz=>(HO.o.own.lt z hz).1;refine⟨k+1,xa,xc,q3,s3,_,_,by go_num,by omega,rfl,X.o.more ((Zcs H.o.2.1 az).alloc _) (ZV.alloc ZU _) I.o.1 I.o.2,?_,bf,?_,LJ (Za8 y.o H.o.2.2.2) I.o.2 M⟩
    .rw[J.o];exact H.o.1
    .exact H.o.2.2.1.grown (by omega) I.o.2 (fun e=>by have:=M R e.symm;omega)
   case measure=>simp[intOf];omega
  .obtain rfl:k=m:=by omega
   go_wp2_with fail
   go_ret
   have hN:(Zaj n f).n=k:=Y.o.2.2.trans O.o.2;exact⟨Zu ⟨g,s2,W,lc,Na,Nc,by unfold NA;rw[hN];exact P.o,ar,(by rw[hN];rfl),by rw[hN];exact HO.o,Z.o⟩,y.o⟩
end
