import Derived.Test.YtgdcjccbdmcebaaGreatDoorM02
import Derived.Laws.Bits64b
import Derived.Lib.TrailingZeros
import Derived.Deep.CutRange
set_option linter.unusedSimpArgs false
set_option linter.unusedVariables false
set_option maxHeartbeats 4000000
set_option maxRecDepth 100000
namespace Go.Proofs.YtgdcjccbdmcebaaGreatDoor
open Tryz
open Go.RowKit
variable {a:Option Addr}{w w':World}{ys xs:List Int}{F:Ad}{c n B:Nat}{f:Nat->Int}{Aa:Nat->Option Addr}
abbrev ndV (bu cl be ba ca ji:Int)(af:Value):Value:= .agg #[.int .i64 bu, .int .i64 cl, .int .i64 be, .int .i64 ba, .int .i64 ca, .int .i64 ji,af]
theorem refRest_any (bu cl be ba ca ji k s:Int)(af:Value)(w:World)(d:1<=ba)(h:ba<=1048576)(v:ba<=ca)(j:ca<=1048576)(x:0<=ji)(q:ji<=1048576)
  (hk: -9223372036854775808<=k) (hk2:k<=9223372036854775807) (hs:0<=s) (hs2:s<=18446744073709551615) :
  Calls prog 139 #[ndV bu cl be ba ca ji af, .int .i64 k, .int .u64 s] w fun e w'=>e= .returned (.int .i64 (Zb4 ba ca ji k s))/\Below w.heap.size w w':=by
 go_enter func139,ntmps139
 go_wp2
 go_loop [7,8] (fun wt i=>∃m:Nat,i= .int .i64 ((m:Int)+1)/\((m:Int)<=k - 1\/m=0)/\wt= .int .i64 (pw ba m)/\pw ba m<2 * ca) (fun wt _=>(2 * ca - intOf wt).toNat)
 case atStart=>exact⟨0,rfl,Zj rfl,by rw[Fw],by rw[Fw];omega⟩
 case round =>
  obtain⟨m,rfl,hm,rfl,r⟩:=hrel;have hp:=Kz ba d m;have b:=He ba m;have l:0<=s % (ji+1):=Int.emod_nonneg _ (by omega);have p:s % (ji+1)<ji+1:=Int.emod_lt_of_pos _ (by omega);by_cases t:(m:Int)+1<k
  ·by_cases u:pw ba m<ca
   ·have g:Hid (pw ba (m+1)=2 * pw ba m):=b
    clear b
    go_wp2
    go_round
    case rel=>exact⟨m+1,by go_num,Zu (by omega),by rw[g.o];go_num,by rw[g.o];omega⟩
    case measure=>simp[intOf];omega
   ·have key:=Zz (JB ba ca k m d hm (Zj (by omega)))
    clear b
    go_wp2
    all_goals go_ret
    all_goals exact⟨ri (by unfold Zb4;rw[key.o];omega),(Zk _ _).alloc (Zx _) _⟩
  ·have key:=Zz (JB ba ca k m d hm (Zu (by omega)))
   clear b
   go_wp2
   all_goals go_ret
   all_goals exact⟨ri (by unfold Zb4;rw[key.o];omega),(Zk _ _).alloc (Zx _) _⟩
def WO (n:Int):Int:=min (2 * n) 9223372036854775807
theorem TY (n:Int)(w:World)(h:0<=n)(d:n<=9223372036854775807) :
  Calls prog 214 #[.int .i64 n] w fun e w'=>e= .returned (.int .i64 (WO n))/\w'=w:=by
 by_cases b:4611686018427387903<n
 ·go_enter func214,ntmps214
  go_wp2
  go_ret
  exact⟨ri (by unfold WO;omega),rfl⟩
 ·go_enter func214,ntmps214
  go_wp2
  go_ret
  exact⟨ri (by unfold WO;omega),rfl⟩
theorem Ll (s j:Int)(w:World)(k:0<=s)(h:s<=18446744073709551615)(i:0<=j)(g:j<=1048576) :
  Calls prog 215 #[.int .u64 s, .int .i64 j] w fun e w'=>e= .returned (.int .i64 (s % (j+1)))/\w'=w:=by
 have b:0<=s % (j+1):=Int.emod_nonneg _ (by omega);have d:s % (j+1)<j+1:=Int.emod_lt_of_pos _ (by omega)
 go_enter func215,ntmps215
 go_wp2
 go_ret
 exact⟨rfl,rfl⟩
def KG (b:Int)(m:Nat):Int:=min (pw b m) 9223372036854775807
theorem TO (b:Int)(h:b<=1048576):KG b 0=b:=by unfold KG;rw[Fw];omega
theorem TN (b:Int)(d:1<=b)(m:Nat):WO (KG b m)=KG b (m+1):=by have:=Kz b d m;unfold WO KG;rw[He];omega
theorem ZK (b:Int)(d:1<=b)(m:Nat):1<=KG b m/\KG b m<=9223372036854775807:=by have:=Kz b d m;unfold KG;omega
theorem WQ (b c k:Int)(m:Nat)(d:1<=b)(j:c<=1048576)(hm:(m:Int)=min (max k 1) 64 - 1):min (KG b m) c=min (pw b (k - 1).toNat) c:=by
 have key:min (pw b (k - 1).toNat) c=min (pw b m) c:=by
  by_cases h:k<=64
  ·exact JB b c k m d (by omega) (Zu (by omega))
  ·have e:m=63:=by omega
   subst e;refine JB b c k 63 d (Zu (by omega)) (Zj ?_);have:=JA b d 40 63 (by omega);have i:=pw_ge b d 40;have g:((2 ^ 40:Nat):Int)=1099511627776:=by decide
   omega
 rw[key];unfold KG;omega
theorem WM (bu cl be ba ca ji k s:Int)(af:Value)(w:World)(b:1<=ba)(d:ba<=1048576)(u:ba<=ca)(g:ca<=1048576)(v:0<=ji)(p:ji<=1048576)
  (hk: -9223372036854775808<=k) (hk2:k<=9223372036854775807) (hs:0<=s) (hs2:s<=18446744073709551615) :
  Calls prog 145 #[ndV bu cl be ba ca ji af, .int .i64 k, .int .u64 s] w fun e w'=>e= .returned (.int .i64 (Zb4 ba ca ji k s))/\Below w.heap.size w w':=by
 go_enter func145,ntmps145
 go_wp2_with fail
 all_goals
  go_loop [7,15] (fun wt i=>∃m:Nat,i= .int .i64 m/\(m:Int)<=min (max k 1) 64 - 1/\wt= .int .i64 (KG ba m)) (fun _ i=>(64 - intOf i).toNat)
  case atStart=>exact⟨0,rfl,by omega,by rw[TO _ d]⟩
  case round =>
   obtain⟨m,rfl,hm,rfl⟩:=hrel;have hp:=ZK ba b m;obtain⟨q,r⟩:=hp;have j:0<=s % (ji+1):=Int.emod_nonneg _ (by omega);have l:s % (ji+1)<ji+1:=Int.emod_lt_of_pos _ (by omega);by_cases t:(m:Int)<min (max k 1) 64 - 1
   ·first
     | (exfalso;omega)
     | (have h:=Zz (TN ba b m)
        go_wp2_with (go_at_call 214;refine (TY _ _ (by omega) (by omega)).mono ?_;rintro e w' ⟨rfl,rfl⟩)
        go_round
        case rel=>exact⟨m+1,by go_num,by omega,by rw[h.o]⟩
        case measure=>simp[intOf];omega)
   ·have key:=Zz (WQ ba ca k m b g (by omega))
    go_wp2_with (go_at_call 215;refine (Ll _ _ _ (by omega) (by omega) (by omega) (by omega)).mono ?_;rintro e w' ⟨rfl,rfl⟩)
    all_goals go_ret
    all_goals exact⟨ri (by unfold Zb4;first | (rw[<-key.o];omega) | rw[<-key.o]),(Zk _ _).alloc (Zx _) _⟩
def Cz (w:World)(a:Option Addr)(n cap:Nat)(f:Nat->Int):Prop :=
 n=0\/(∃b o,a=some ⟨b,o,none⟩/\n<=cap/\cap<=maxLen/\b<w.heap.size/\∀k,k<n->w.cell? ⟨b,o+k,none⟩=some (.int .i64 (f k)))
structure Ds (w:World)(F:Ad)(i b o:Nat)(a:Option Addr)(c:Nat):Prop where
 bu:w.cell? ⟨b,o,none⟩=some (.int .i64 (F.bu i))
 cl:w.cell? ⟨b,o+1,none⟩=some (.int .i64 (F.cl i))
 be:w.cell? ⟨b,o+2,none⟩=some (.int .i64 (F.be i))
 ba:w.cell? ⟨b,o+3,none⟩=some (.int .i64 (F.ba i))
 ca:w.cell? ⟨b,o+4,none⟩=some (.int .i64 (F.ca i))
 ji:w.cell? ⟨b,o+5,none⟩=some (.int .i64 (F.ji i))
 af:w.cell? ⟨b,o+6,none⟩=some (.slice a (F.an i) c)
 ints:Cz w a (F.an i) c (F.af i)
def Gz (w:World)(a:Option Addr)(cap:Nat)(F:Ad)(Aa:Nat->Option Addr)(Ac:Nat->Nat):Prop :=
 F.n=0\/(∃b o,a=some ⟨b,o,none⟩/\F.n<=cap/\cap<=maxLen/\b<w.heap.size/\∀i,i<F.n->Ds w F i b (o+i * 7) (Aa i) (Ac i))
theorem Cz.Aj {cap:Nat}(h:Cz w a n cap f)(e:Below w.heap.size w w'):Cz w' a n cap f:=by
 rcases h with h | ⟨b,o,g,i,j,d,l⟩
 ·exact Zu h
 ·exact Zj ⟨b,o,g,i,j,Zy d e.size,fun k m=>(e.cell (p:=⟨b,o+k,none⟩) d).trans (l k m)⟩
theorem Ds.Aj {i b o:Nat}(h:Ds w F i b o a c)(e:b<w.heap.size)(d:Below w.heap.size w w'):Ds w' F i b o a c :=
 ⟨(d.cell (p:=⟨b,o,none⟩) e).trans h.bu,(d.cell (p:=⟨b,o+1,none⟩) e).trans h.cl,(d.cell (p:=⟨b,o+2,none⟩) e).trans h.be,(d.cell (p:=⟨b,o+3,none⟩) e).trans h.ba,
  (d.cell (p:=⟨b,o+4,none⟩) e).trans h.ca,(d.cell (p:=⟨b,o+5,none⟩) e).trans h.ji,(d.cell (p:=⟨b,o+6,none⟩) e).trans h.af,h.ints.Aj d⟩
theorem Gz.Aj {cap:Nat}{d:Nat->Nat}(h:Gz w a cap F Aa d)(g:Below w.heap.size w w'):Gz w' a cap F Aa d:=by
 rcases h with h | ⟨b,o,j,k,l,e,m⟩
 ·exact Zu h
 ·exact Zj ⟨b,o,j,k,l,Zy e g.size,fun i hi=>(m i hi).Aj e g⟩
abbrev Ex (dl:Int)(v:Value):Value:= .agg #[.int .i64 dl,v]
def AL (w:World):Prop:=∀j,j<64->w.cell? ⟨2,j,none⟩=some (.int .u8 (Lib.deBruijn64tab.getD j 0))
theorem Xp (x a:Nat)(e:x<18446744073709551616)(g:x≠0)(b:x &&& (18446744073709551616 - x)=a) :
  IntKind.u64.wrap (bits BinOp.and IntKind.u64 (x:Int) (IntKind.u64.wrap (-(x:Int))) * 285870213051353865) / 288230376151711744=((a * 285870213051353865 % 18446744073709551616 / 288230376151711744:Nat):Int):=by
 have d:IntKind.u64.wrap (-(x:Int))=((18446744073709551616 - x:Nat):Int):=by rw[IntKind.wrap_u64];omega
 rw[d,bits_and_u64_nat x _ e (by omega),b,IntKind.wrap_u64];omega
theorem TZ (x k idx:Nat)(w:World)(b:((x:Int) == 0)=false)
  (key:IntKind.u64.wrap (bits BinOp.and IntKind.u64 (x:Int) (IntKind.u64.wrap (-(x:Int))) * 285870213051353865) / 288230376151711744=(idx:Int))
  (hi:idx<64) (hk:k<64) (hcell:w.cell? ⟨2,idx,none⟩=some (.int .u8 k)) :
  Calls prog 237 #[.int .u64 x] w fun e w'=>e= .returned (.int .i64 k)/\w'=w:=by
 go_enter func237,ntmps237
 go_wp2_with (simp only[key])
 go_ret
 exact⟨rfl,rfl⟩
theorem Pv (x:Nat)(j:x<18446744073709551616)(h:x≠0)(w:World)(k:AL w) :
  Calls prog 237 #[.int .u64 x] w fun e w'=>e= .returned (.int .i64 (Lib.ctz 64 x))/\w'=w:=by
 obtain⟨d,i⟩:=Lib.lowest_bit 64 x h j;obtain⟨hi,g⟩:=Lib.deBruijn64_at _ i;have b:=k _ hi;rw[g] at b;exact TZ x _ _ w (by simp;omega) (Xp x _ j h d) hi i b
theorem tz_any (x:Nat)(i:x<18446744073709551616)(g:x≠0)(w:World)(h:AL w) :
  Calls prog 271 #[.int .u64 x] w fun e w'=>e= .returned (.int .i64 (Lib.ctz 64 x))/\w'=w:=by
 have b:=Pv x i g w h
 go_enter func271,ntmps271
 go_wp2_with (go_at_call 237;refine b.mono ?_;rintro e w' ⟨rfl,d⟩;rw[d])
 go_ret
 exact⟨rfl,rfl⟩
theorem Lb (f p j:Nat)(hf:p<2 ^ f)(k:j<f)(b:∀i,i<j->p.testBit i=true)(d:p.testBit j=false):Lib.ctzFrom f (2 ^ f - 1 - p)=j:=by
 induction f generalizing p j with
 | zero=>omega
 | succ f h =>
  have g:2 ^ (f+1)=2 * 2 ^ f:=by rw[Nat.pow_succ];omega
  unfold Lib.ctzFrom
  cases j with
  | zero =>
   have:p % 2=0:=by simpa[Nat.testBit_zero] using d
   rw[if_pos (by omega)]
  | succ j =>
   have e0:p % 2=1:=by simpa[Nat.testBit_zero] using b 0 (by omega)
   rw[if_neg (by omega)];have e:(2 ^ (f+1) - 1 - p) / 2=2 ^ f - 1 - p / 2:=by omega
   rw[e,h (p / 2) j (by omega) (by omega) (fun i hi=>by have:=b (i+1) (by omega);rwa[Nat.testBit_succ] at this) (by rwa[Nat.testBit_succ] at d)];omega
theorem Sw (p j:Nat)(hp:p<2 ^ 63)(e:j<64)(b:∀i,i<j->p.testBit i=true)(d:p.testBit j=false):Lib.ctz 64 (18446744073709551615 - p)=j:=by
 unfold Lib.ctz;rw[if_neg (by omega)];exact Lb 64 p j (by omega) e b d
def BL (F:Ad)(e a:Int):Prop :=
 (e=2/\a= -1/\¬Cc F) \/
 (e=2/\Cc F/\∃i,i<F.n/\a=(i:Int)/\(∀j,j<i->AJ F j/\AP F j)/\¬AJ F i) \/
 (e=3/\Cc F/\∃i,i<F.n/\a=(i:Int)/\(∀j,j<i->AJ F j/\AP F j)/\AJ F i/\¬AP F i) \/
 (e=4/\Cc F/\(∀j,j<F.n->AJ F j/\AP F j)/\∃i,i<F.n/\a=(i:Int)/\¬Db F i/\∀j,j<i->Db F j) \/
 (e=0/\a= -1/\Cc F/\(∀j,j<F.n->AJ F j/\AP F j)/\∀i,i<F.n->Db F i)
theorem LC {P:Nat->Prop}{i j:Nat}(b:∀k,k<i->P k)(d:¬P i)(e:∀k,k<j->P k)(g:¬P j):i=j:=by
 rcases Nat.lt_trichotomy i j with h | h | h
 ·exact absurd (e i h) d
 ·exact h
 ·exact absurd (b j h) g
theorem BL.one {e a e' y:Int}(h:BL F e a)(A:BL F e' y):e=e'/\a=y:=by
 have key:∀{i j:Nat},(∀k,k<i->AJ F k/\AP F k)->¬(AJ F i/\AP F i)->(∀k,k<j->AJ F k/\AP F k)->¬(AJ F j/\AP F j)->i=j:=fun a b c d=>LC a b c d;rcases h with⟨rfl,rfl,u⟩ | ⟨rfl,u,i,hi,rfl,r,s⟩ | ⟨rfl,u,i,hi,rfl,r,s,hl⟩ | ⟨rfl,u,p,i,hi,rfl,r,s⟩ | ⟨rfl,rfl,u,p,hg⟩ <;>
 rcases A with⟨rfl,rfl,o⟩ | ⟨rfl,o,z,q,rfl,g,l⟩ | ⟨rfl,o,z,q,rfl,g,l,t⟩ | ⟨rfl,o,m,z,q,rfl,g,l⟩ | ⟨rfl,rfl,o,m,v⟩
 case inl.inl=>exact⟨rfl,rfl⟩
 case inr.inl.inr.inl=>obtain rfl:=key r (fun x=>s x.1) g (fun x=>l x.1);exact⟨rfl,rfl⟩
 case inr.inl.inr.inr.inl=>obtain rfl:=key r (fun x=>s x.1) g (fun x=>t x.2);exact absurd l s
 case inr.inr.inl.inr.inl=>obtain rfl:=key r (fun x=>hl x.2) g (fun x=>l x.1);exact absurd s l
 case inr.inr.inl.inr.inr.inl=>obtain rfl:=key r (fun x=>hl x.2) g (fun x=>t x.2);exact⟨rfl,rfl⟩
 case inr.inr.inr.inl.inr.inr.inr.inl=>obtain rfl:=LC s r l g;exact⟨rfl,rfl⟩
 case inr.inr.inr.inr.inr.inr.inr.inr=>exact⟨rfl,rfl⟩
 all_goals exfalso
 all_goals first
  | exact u o
  | exact o u
  | exact s (m _ hi).1
  | exact hl (m _ hi).2
  | exact l (p _ q).1
  | exact t (p _ q).2
  | exact r (v _ hi)
  | exact g (hg _ q)
def cnt (S:Nat->Bool):Nat->Nat
 | 0=>0
 | n+1=>cnt S n+if S n then 1 else 0
def Sound (F:Ad)(S:Nat->Bool):Prop:=∀j,j<F.n->S j=true->Db F j
def Closed (F:Ad)(S:Nat->Bool):Prop:=∀j,j<F.n->(∀k,k<F.an j->S (F.af j k).toNat=true)->S j=true
theorem Vk {S:Nat->Bool}(he:∀j,j<F.n->AP F j)(e:Sound F S)(d:Closed F S):∀i,i<F.n->(Db F i↔S i=true):=by
 intro i hi;refine⟨fun h=> ?_,e i hi⟩
 induction h with
 | mk i _ g=>exact d i hi fun k b=>g k b (by have:=he i hi k b;unfold CS at this;omega)
theorem CS.lt {i k:Nat}(h:CS F i k):(F.af i k).toNat<F.n:=by have:=h.1;have:=h.2.1;omega
structure CT (w wr:World)(F:Ad)(a:Option Addr)(cap:Nat):Prop where
 c0:wr.cell? ⟨w.heap.size,0,none⟩=some (.int .i64 F.dl)
 c1:wr.cell? ⟨w.heap.size,1,none⟩=some (.slice a F.n cap)
 sz:w.heap.size<wr.heap.size
 bl:Below w.heap.size w wr
theorem CT.Aj {wr wx:World}{cap:Nat}(h:CT w wr F a cap)(b:Below wr.heap.size wr wx):CT w wx F a cap :=
 ⟨(b.cell (p:=⟨w.heap.size,0,none⟩) h.sz).trans h.c0,(b.cell (p:=⟨w.heap.size,1,none⟩) h.sz).trans h.c1,Zy h.sz b.size,h.bl.trans (b.mono (Nat.le_of_lt h.sz))⟩
theorem CT.start (w:World)(F:Ad)(a:Option Addr)(cap:Nat)(t:TypeId):CT w (w.alloc (.cells #[.int .i64 F.dl, .slice a F.n cap] t)) F a cap :=
 ⟨by simp,by simp,by simp,(Zk _ _).alloc (Zx _) _⟩
open Go.RowKit
attribute [local go_sem ↓] Go.wp_at_zero Go.wp_at_succ
theorem madeTU (n:Nat):(madeCells (.int .u64 0:Value).cells (n * 1)).toList=(List.replicate n (0:Int)).flatMap AF:=by
 rw[<-KT,<-Zb2]
 rfl
theorem PJ (w:World)(ty:TypeId)(b o d g m:Nat)(a:Addr)(e h:Nat)(cur:Array Value)(i:List Int)(hw:w.heap[b]? =some (.cells cur 27 (0,0)))(hm:Nat.min e d=m)(p:i.length=m)(k:o+m * 1<=cur.size)
  (hsrc:∀j v,(i.flatMap AF)[j]? =some v->w.cell? (a.add j)=some v) :
  (Builtin.copy_ #[75,75] ty #[.slice (some ⟨b,o,none⟩) d g, .slice (some a) e h]).run prog w= .ok (goInt m) (w.setCells b o (i.flatMap AF)):=by
 have hl:=Zav i;refine KC w 75 75 ty 27 1 m b o d g a e h (i.flatMap AF) underlying75 QX hm (by omega) hsrc (fun j l=> ?_) (fun j _=> ?_) (Pw i)
 ·unfold World.cell?
  rw[hw];simp only[Array.getElem?_eq_getElem (show o+j<cur.size by omega)]
  rfl
 ·simp[World.frozen?,hw]
theorem Zdi (g:Nat)(e:TypeId):∀(d:List Value) (o:Nat) (w:World) (cur:Array Value),w.heap[g]? =some (.cells cur e (0,0))->o+d.length<=cur.size->∃b,(w.setCells g o d).heap[g]? =some (.cells b e (0,0))/\b.size=cur.size/\b.toList=cur.toList.take o++d++cur.toList.drop (o+d.length)
 | [],o,w,cur,h,_=>⟨cur,h,rfl,by simp⟩
 | v::r,o,w,cur,h,hl=>by
  have i:(w.setCell ⟨g,o,none⟩ v).heap[g]? =some (.cells (cur.setIfInBounds o v) e (0,0)):=by
   simp[World.setCell,Array.getElem?_modify,h]
  obtain⟨b,j,k,l⟩:=Zdi g e r (o+1) (w.setCell ⟨g,o,none⟩ v) (cur.setIfInBounds o v) i (by simp at hl ⊢;omega);refine⟨b,j,by simpa using k,?_⟩;simp only[List.length_cons] at hl ⊢;have m:o<cur.toList.length:=by simp;omega
  rw[l,Array.toList_setIfInBounds,List.take_set,List.take_add_one,ZZ m,Option.toList_some,List.set_append_right _ _ (by simp;omega),List.drop_set_of_lt (by omega)];have:o - (List.take o cur.toList).length=0:=by simp;omega
  rw[this,show o+(r.length+1)=o+1+r.length by omega];simp
theorem Zbs (w:World)(g o:Nat)(b:List Value):(w.setCells g o b).heap.size=w.heap.size/\(w.setCells g o b).os=w.os/\(w.setCells g o b).tape=w.tape/\(w.setCells g o b).output=w.output:=by
 induction b generalizing o w with
 | nil=>exact⟨rfl,rfl,rfl,rfl⟩
 | cons v r j =>
  obtain⟨d,e,h,i⟩:=j (w.setCell ⟨g,o,none⟩ v) (o+1);rw[World.setCells];exact⟨by rw[d];simp[World.setCell],e,h,i⟩
theorem Zau (g k:Nat)(b:k≠g):∀(d:List Value) (o:Nat) (w:World),(w.setCells g o d).heap[k]? =w.heap[k]?
 | [],_,_=>rfl
 | v::r,o,w=>by rw[World.setCells,Zau g k b r];exact Zl w ⟨g,o,none⟩ v k b
theorem EI {k:Nat}(h:Below k w w')(g o:Nat)(b:List Value)(hg:k<=g):Below k w (w'.setCells g o b):=by
 obtain⟨d,e,i,l⟩:=Zbs w' g o b;exact⟨e.trans h.os,i.trans h.tape,l.trans h.output,by rw[d];exact h.size,fun j m=>(Zau g j (by omega) b o w').trans (h.block j m)⟩
theorem Qq (w:World)(P B n c first:Nat)(a:Option Addr)(ys xs:List Int)(h:Gw w P B a n c first ys xs) :
  Calls prog 258 #[.pointer (some ⟨P,5,none⟩)] w fun e w'=>∃a' c',e= .returned (.slice a' xs.length c')/\w'.ownsRow w.heap.size 27 1 (.slice a' xs.length c') xs.length (xs.flatMap AF)/\Below w.heap.size w w':=by
 obtain⟨m,hm⟩:∃m,m=xs.length:=⟨_,rfl⟩;have c0:=h.c0;have c1:=h.c1;have c2:=h.c2;have hlen:=h.len;have b:=h.ring;have az:=h.Bs;have hf:=b.Bs;have bf:m<=n:=by omega
 rw[<-hm] at c2 ⊢;have O:=EM w P m c2;have HE:=Zz O;by_cases h0:m=0
 ·subst h0
  have U:xs=[]:=List.eq_nil_of_length_eq_zero hm.symm;have HX:=Zz U;clear hm U b hf O
  go_enter func258,ntmps258
  go_wp2_with (go_at_call 195;refine HE.o.mono ?_;rintro e H ⟨rfl,s⟩;rw[s])
  go_ret
  exact⟨none,0,rfl,by rw[HX.o];exact World.ownsRow_nil _ _ _ _,Zk _ _⟩
 ·obtain⟨g,cur,rfl,hg,ax,au,W⟩:∃g cur,a=some ⟨g,0,none⟩/\B<=g/\n<=c/\c<=maxLen/\w.heap[g]? =some (.cells cur 27 (0,0)):=by
   rcases h.row.2 with⟨D,h3⟩ | ⟨g,cap,cur,D,hg,hh,h3,h4,_⟩
   ·simp only[Value.slice.injEq] at D
    omega
   ·obtain⟨rfl,_,rfl⟩:a=some ⟨g,0,none⟩/\n=n/\c=cap:=by simpa using D
    exact⟨g,cur,rfl,hg,h3,h4,hh⟩
  have k:∀j,j<n * 1->w.cell? ⟨g,j,none⟩=(ys.flatMap AF)[j]? :=fun j Y=>h.row.cellAt j Y
  have b9:first<n:=by
   rcases b.Ec with V | ⟨_,D⟩
   ·omega
   ·subst D;simp at hlen;omega
  have X:g<w.heap.size:=(Array.getElem?_eq_some_iff.1 W).1;have ae:=b.list;unfold maxLen at au;have aw:=VQ w m (by omega);have z:=Zz (Zq hm (Zq ae (Zq hlen k)));have HP:=Zz (Zq h.pb h.bs);obtain⟨lb,E⟩:∃lb,lb=w.heap.size:=⟨_,rfl⟩;obtain⟨H,s⟩:∃H,H=w.alloc (.cells (madeCells (.int .u64 0:Value).cells (m * 1)) 27):=⟨_,rfl⟩;rw[<-E,<-s] at aw;have q:Below w.heap.size w H:=by rw[s];exact (Zk _ _).alloc (Zx _) _
  have Q:H.heap[lb]? =some (.cells (madeCells (.int .u64 0:Value).cells (m * 1)) 27 (0,0)):=by rw[s,E];exact heap_alloc_new w _
  have c0:=cell_later q c0;have c1:=cell_later q c1;have c2:=cell_later q c2;have i:=Zz (Zq q (Zq E Q));have aj:=Zz h.c0;have g0:decide (m=0)=false:=decide_eq_false h0;have g1:(first:Int)<=(n:Int):=by omega
  have g2:¬(c=first):=by omega
  have g3:n<=c:=ax;obtain⟨m1,r⟩:∃m1,m1=Nat.min (n - first) m:=⟨_,rfl⟩;have Z:m1<=m:=by rw[r];exact Nat.min_le_right _ _
  have l:∀j v,(((ys.drop first).take m1).flatMap AF)[j]? =some v->H.drew.cell? (Addr.add ⟨g,first * 1,none⟩ j)=some v:=by
   intro j v hv
   have Y:j<m1 * 1:=by
    have:=(List.getElem?_eq_some_iff.1 hv).1;rw[Zav,List.length_take] at this;have:=Nat.min_le_left m1 (ys.drop first).length;omega
   have x:m1<=n - first:=by rw[r];exact Nat.min_le_left _ _
   rw[Zce];refine (World.cell?_of_block (a:=⟨g,first * 1+j,none⟩) (q.block g X)).trans ?_;rw[k _ (by omega),<-hv,<-FA,<-Fz,List.getElem?_take_of_lt Y,List.getElem?_drop]
  have S:((ys.drop first).take m1).length=m1:=by
   rw[List.length_take,List.length_drop,hlen];have:m1<=n - first:=by rw[r];exact Nat.min_le_left _ _
   omega
  have K:=fun ty=>PJ H.drew ty lb 0 m m m1 ⟨g,first * 1,none⟩ (n - first) (c - first) _ ((ys.drop first).take m1) Q r.symm S (by rw[size_madeCells];omega) l
  have u:=Zz (Zq l (Zq S r))
  try simp only[Nat.mul_one] at K
  clear s hm ae hlen k b hf O W l S q Q h E r
  go_enter func258,ntmps258
  go_upto_region 4 with (go_at_call 195;refine HE.o.mono ?_;rintro e w9 ⟨rfl,ay⟩;rw[ay])
  try rw[<-i.o.2.1]
  go_region
  obtain⟨I,G⟩:∃I,I=H.drew.setCells lb 0 (((ys.drop first).take m1).flatMap AF):=⟨_,rfl⟩
  try rw[<-G]
  have p:=Zav ((ys.drop first).take m1);have N:Below w.heap.size w I:=by rw[G];exact EI i.o.1.drew _ _ _ (by have:=i.o.2.1;omega)
  obtain⟨d,k1,k2,k3⟩:=Zdi lb 27 (((ys.drop first).take m1).flatMap AF) 0 H.drew _ i.o.2.2 (by rw[size_madeCells,p,u.o.2.1,Nat.zero_add];exact Nat.mul_le_mul_right _ Z);rw[<-G] at k1;rw[size_madeCells] at k2
  have ag:d.toList.take (m1 * 1)=((ys.drop first).take m1).flatMap AF:=by
   rw[k3];simp only[List.take_zero,List.nil_append];rw[List.take_append_of_le_length (by rw[p,u.o.2.1];exact Zx _),List.take_of_length_le (by rw[p,u.o.2.1];exact Zx _)]
  have t:=Zz (Zq N (Zq k1 (Zq k2 ag)));have ar:P<w.heap.size:=by have:=HP.o;omega
  have c0:=(World.cell?_of_block (a:=⟨P,5,none⟩) (N.block P ar)).trans (aj.o);clear K k1 k2 k3 ag G N p c1 c2;by_cases V:m1=m
  ·subst V
   have L:∀A C,∀ty,(Builtin.copy_ #[75,75] ty #[.slice A 0 C, .slice (some ⟨g,0,none⟩) n c]).run prog I.drew= .ok (goInt 0) I.drew:=fun A C ty=>Zc0 I.drew 75 75 ty 27 1 A _ 0 C n c underlying75 QX (Nat.min_zero _);go_wp2_with fail
   go_region
   go_wp2_with fail
   go_ret
   obtain⟨q1,q2,q3,q4⟩:=t.o;obtain⟨x1,x2,x3,_⟩:=z.o
   have hle:m1<=n - first:=by
    have:=u.o.2.2;rw[this];exact Nat.min_le_left _ _
   have U:xs.flatMap AF=d.toList.take (m1 * 1):=by
    rw[q4,x2,<-x1,show m1 - (ys.length - first)=0 by omega];simp
   refine⟨some ⟨lb,0,none⟩,m1,rfl,⟨by rw[Zav,<-x1],Zj ⟨lb,m1,d,rfl,by have:=i.o.2.1;omega,q2,Zx _,by unfold maxLen;omega,q3,U.symm⟩⟩,⟨q1.os,q1.tape,q1.output,q1.size,q1.block⟩⟩
  ·have x:m1=n - first:=by
    have:=u.o.2.2;rcases Nat.le_total (n - first) m with D | D
    ·rw[this];exact Nat.min_eq_left D
    ·exact absurd (this.trans (Nat.min_eq_right D)) V
   obtain⟨m2,R⟩:∃m2,m2=m - m1:=⟨_,rfl⟩
   have y:∀j v,((ys.take m2).flatMap AF)[j]? =some v->I.drew.cell? (Addr.add ⟨g,0,none⟩ j)=some v:=by
    intro j v hv
    have Y:j<m2 * 1:=by
     have:=(List.getElem?_eq_some_iff.1 hv).1;rw[Zav,List.length_take] at this;have:=Nat.min_le_left m2 ys.length;omega
    rw[Zce];refine (World.cell?_of_block (a:=⟨g,0+j,none⟩) (t.o.1.block g X)).trans ?_;rw[z.o.2.2.2 _ (by omega),<-hv,<-FA,List.getElem?_take_of_lt Y,Nat.zero_add]
   have T:(ys.take m2).length=m2:=by rw[List.length_take,z.o.2.2.1];omega
   have L:=fun ty=>PJ I.drew ty lb (m1 * 1) m2 m2 m2 ⟨g,0,none⟩ n c d (ys.take m2) t.o.2.1 (by show min n m2=m2;omega) T (by rw[t.o.2.2.1,<-Nat.add_mul];exact Nat.mul_le_mul_right _ (by omega)) y
   try simp only[Nat.mul_one] at L
   have g5:(m1:Int)<=(m:Int):=by omega
   have g6:m - m1=m2:=R.symm;have g7:¬(m=m1):=fun e=>V e.symm;have al:=Zz (Zq R (Zq x T));clear y x T R V;go_wp2_with fail
   go_region
   go_wp2_with fail
   go_ret
   obtain⟨q1,q2,q3,q4⟩:=t.o;obtain⟨x1,x2,x3,_⟩:=z.o;obtain⟨y1,y2,y3⟩:=al.o;have M:=Zav (ys.take m2);obtain⟨J,k1,k2,k3⟩:=Zdi lb 27 ((ys.take m2).flatMap AF) (m1 * 1) I.drew d q2 (by rw[M,y3,q3,<-Nat.add_mul];exact Nat.mul_le_mul_right _ (by omega))
   have U:J.toList.take (m * 1)=xs.flatMap AF:=by
    have e1:m * 1=(d.toList.take (m1 * 1)++(ys.take m2).flatMap AF).length:=by
     rw[ZX,List.length_take,Array.length_toList,q3,M,y3];omega
    rw[k3,e1,List.take_append_of_le_length (Zx _),List.take_length,q4,x2,<-x1,List.flatMap_append,show m - (ys.length - first)=m2 by omega];have hd:(ys.drop first).length<=m:=by rw[List.length_drop];omega
    have av:(ys.drop first).length<=m1:=by rw[List.length_drop];omega
    rw[List.take_of_length_le hd,List.take_of_length_le av]
   refine⟨some ⟨lb,0,none⟩,m,rfl,⟨by rw[Zav,<-x1],Zj ⟨lb,m,J,rfl,by have:=i.o.2.1;omega,(by first | exact k1 | (rw[Nat.mul_one] at k1;exact k1)),Zx _,by unfold maxLen;omega,by rw[k2,q3],U⟩⟩,?_⟩;exact EI q1.drew _ _ _ (by have:=i.o.2.1;omega)
theorem Xq (ys:List Int)(p:Nat)(x:Int)(hp:p<ys.length):(ys.flatMap AF).take (p * 1)++AF x++(ys.flatMap AF).drop (p * 1+1)=(ys.set p x).flatMap AF:=by
 rw[FA,show p * 1+1=(p+1) * 1 by omega,Fz,List.set_eq_take_append_cons_drop,if_pos hp,List.flatMap_append,List.flatMap_cons,List.append_assoc]
theorem Ty {g p:Nat}(h:w.ownsRow B 27 1 (.slice (some ⟨g,0,none⟩) n c) n (ys.flatMap AF))(hl:ys.length=n)(hp:p<n)(x:Int):(w.setCells g (p * 1) (AF x)).ownsRow B 27 1 (.slice (some ⟨g,0,none⟩) n c) n ((ys.set p x).flatMap AF):=by
 rcases h.2 with⟨e,_⟩ | ⟨k,cap,cur,e,hg,hh,i,l,r,m⟩
 ·cases e
 ·obtain⟨rfl,rfl⟩:g=k/\c=cap:=by simpa using e
  have q:p * 1+1<=n * 1:=by have:=Nat.mul_le_mul_right 1 (show p+1<=n by omega);omega
  have o:n * 1<=c * 1:=Nat.mul_le_mul_right _ i;have b:=Zbq x;obtain⟨d,k1,k2,k3⟩:=Zdi g 27 (AF x) (p * 1) w cur hh (by omega);refine⟨by rw[Zav,List.length_set,hl],Zj ⟨g,c,d,rfl,hg,k1,i,l,by omega,?_⟩⟩;rw[<-Xq ys p x (by omega),<-m,k3,b];have j:(cur.toList.take (n * 1)).take (p * 1)=cur.toList.take (p * 1):=by rw[List.take_take,Nat.min_eq_left (by omega)]
  rw[j,List.take_append,List.take_of_length_le (by rw[ZX,List.length_take,Array.length_toList,b];omega),ZX,List.length_take,Array.length_toList,b,Nat.min_eq_left (by omega),List.drop_take]
theorem Gw.frame {P first:Nat}(h:Gw w P B a n c first ys xs)(j:w.heap.size<=w'.heap.size)(d:∀o,5<=o->o<8->w'.cell? ⟨P,o,none⟩=w.cell? ⟨P,o,none⟩)(hf:∀o,w'.frozen? ⟨P,o,none⟩=w.frozen? ⟨P,o,none⟩)(i:∀z,(Value.slice a n c).ownBlock=some z->w'.heap[z]? =w.heap[z]?):Gw w' P B a n c first ys xs:=by
 refine⟨(d 5 (by omega) (by omega)).trans h.c0,(d 6 (by omega) (by omega)).trans h.c1,(d 7 (by omega) (by omega)).trans h.c2,fun o=>(hf o).trans (h.fz o),⟨h.row.1,?_⟩,h.len,h.ring,h.Bs,h.pb,Zv h.bs j⟩;rcases h.row.2 with b | ⟨g,cap,cur,b,hg,hh,e⟩
 ·exact Zu b
 ·exact Zj ⟨g,cap,cur,b,hg,(i g (by rw[b];rfl)).trans hh,e⟩
theorem Gw.below {P first:Nat}(h:Gw w P B a n c first ys xs)(b:Below w.heap.size w w'):Gw w' P B a n c first ys xs:=by
 have d:P<w.heap.size:=Zy h.pb h.bs;exact h.frame b.size (fun o _ _=>World.cell?_of_block (a:=⟨P,o,none⟩) (b.block P d)) (fun o=>World.frozen?_of_block (a:=⟨P,o,none⟩) (b.block P d)) (fun z e=>b.block z (h.row.lt z e).2)
theorem Gw.CX {P g first:Nat}(h:Gw w P B (some ⟨g,0,none⟩) n c first ys xs)(q:xs.length<n)(x:Int) :
  Gw (((w.setCells g ((first+xs.length) % n * 1) (AF x)).setCell ⟨P,7,none⟩ (.int .i64 (xs.length+1:Nat))).drew) P B (some ⟨g,0,none⟩) n c first (ys.set ((first+xs.length) % n) x) (xs++[x])/\RF w (((w.setCells g ((first+xs.length) % n * 1) (AF x)).setCell ⟨P,7,none⟩ (.int .i64 (xs.length+1:Nat))).drew) P (some g) 5 8:=by
 have d:g≠P:=by
  have:=(h.row.lt g rfl).1;have:=h.pb;omega
 have i:(first+xs.length) % n<n:=Nat.mod_lt _ (by omega);have j:=Ty h.row h.len i x;have l:∀o,(w.setCells g ((first+xs.length) % n * 1) (AF x)).cell? ⟨P,o,none⟩=w.cell? ⟨P,o,none⟩:=fun o=>World.cell?_of_block (a:=⟨P,o,none⟩) (Zau g P (Ne.symm d) _ _ _);have b:∀o,(w.setCells g ((first+xs.length) % n * 1) (AF x)).frozen? ⟨P,o,none⟩=w.frozen? ⟨P,o,none⟩:=fun o=>World.frozen?_of_block (a:=⟨P,o,none⟩) (Zau g P (Ne.symm d) _ _ _);obtain⟨s1,s2,s3,r⟩:=Zbs w g ((first+xs.length) % n * 1) (AF x);have hlen:=h.len
 generalize p:w.setCells g ((first+xs.length) % n * 1) (AF x)=w1 at *
 refine⟨⟨?_,?_,?_,fun o=> ?_,?_,by rw[List.length_set];exact h.len,?_,h.Bs,h.pb,?_⟩,?_⟩
 ·exact (Zac w1 P 7 5 _ (by decide)).trans ((l 5).trans h.c0)
 ·exact (Zac w1 P 7 6 _ (by decide)).trans ((l 6).trans h.c1)
 ·rw[ZX,List.length_singleton]
  exact World.cell?_setCell_same w1 ⟨P,7,none⟩ _ ((l 7).trans h.c2)
 ·exact (World.frozen?_setCell w1 ⟨P,7,none⟩ _ _).trans ((b o).trans (h.fz o))
 ·exact (ownsRow_setCell_below j h.pb _).drew
 ·have:=h.ring.push (by omega) x
  rw[hlen] at this;exact this
 ·show B<=(World.setCell w1 ⟨P,7,none⟩ _).heap.size
  simp only[World.setCell,Array.size_modify];rw[s1];exact h.bs
 ·refine⟨s2,s3,r,?_,fun k s m q=> ?_,fun _ o t=> ?_,fun _ o=> ?_⟩
  ·show w.heap.size<=(World.setCell w1 ⟨P,7,none⟩ _).heap.size
   simp only[World.setCell,Array.size_modify];rw[s1];exact Zx _
  ·refine (Zl w1 ⟨P,7,none⟩ _ k m).trans ?_
   rw[<-p];exact Zau g k (fun e=>q (by rw[e])) _ _ _
  ·exact (Zac w1 P 7 o _ (by omega)).trans (l o)
  ·exact (World.frozen?_setCell w1 ⟨P,7,none⟩ _ _).trans (b o)
theorem NX {b N m:Nat}{cur:Array Value}(hw:w.heap[b]? =some (.cells cur 27 (0,0)))(i:w.ownsRow B 27 1 (.slice a m c) m (xs.flatMap AF))(hm:m=xs.length)(h:m<=N)(p:cur.size=N * 1)(ty:TypeId) :
  (Builtin.copy_ #[75,75] ty #[.slice (some ⟨b,0,none⟩) N N, .slice a m c]).run prog w= .ok (goInt m) (w.setCells b 0 (xs.flatMap AF)):=by
 rcases i.2 with⟨d,r⟩ | ⟨g,cap,e,d,hg,hh,s⟩
 ·have l:m=0:=by
   simp only[Value.slice.injEq] at d;omega
  have q:xs=[]:=List.eq_nil_of_length_eq_zero (by omega);subst q l;exact Zc0 w 75 75 ty 27 1 _ a N N 0 c underlying75 QX (Nat.zero_min _)
 ·obtain⟨rfl,_,rfl⟩:a=some ⟨g,0,none⟩/\m=m/\c=cap:=by simpa using d
  refine PJ w ty b 0 N N m ⟨g,0,none⟩ m c cur xs hw (Nat.min_eq_left h) hm.symm (by rw[p,Nat.zero_add];exact Nat.mul_le_mul_right _ h) (fun j v k=> ?_)
  have o:j<m * 1:=by
   have:=(List.getElem?_eq_some_iff.1 k).1;rw[Zav] at this;rw[hm];exact this
  rw[Zce,Nat.zero_add,i.cellAt j o];exact k
theorem Gw.grown {e:World}{P first nb N:Nat}(h:Gw w P B a n c first ys xs)(t:Below w.heap.size w e)(l:w.heap.size<=nb)(hl:e.heap[nb]? =some (.cells (madeCells (.int .u64 0:Value).cells (N * 1)) 27 (0,0)))(s:xs.length+1<=N/\N<=1000) :
  Gw (((e.setCells nb 0 (xs.flatMap AF)).setCell ⟨P,5,none⟩ (.slice (some ⟨nb,0,none⟩) N N)).setCell ⟨P,6,none⟩ (.int .i64 0)) P B (some ⟨nb,0,none⟩) N N 0 (xs++List.replicate (N - xs.length) (0:Int)) xs/\RF w (((e.setCells nb 0 (xs.flatMap AF)).setCell ⟨P,5,none⟩ (.slice (some ⟨nb,0,none⟩) N N)).setCell ⟨P,6,none⟩ (.int .i64 0)) P (Value.slice a n c).ownBlock 5 8:=by
 have i:P<w.heap.size:=Zy h.pb h.bs;have q:=Zav xs;have y:xs.length * 1<=N * 1:=Nat.mul_le_mul_right _ (by omega);obtain⟨d,k1,k2,k3⟩:=Zdi nb 27 (xs.flatMap AF) 0 e _ hl (by rw[size_madeCells];omega);have b:=EI t nb 0 (xs.flatMap AF) l
 generalize x:e.setCells nb 0 (xs.flatMap AF)=w4 at *
 have p:∀o,w4.cell? ⟨P,o,none⟩=w.cell? ⟨P,o,none⟩:=fun o=>World.cell?_of_block (a:=⟨P,o,none⟩) (b.block P i);have g:∀o,w4.frozen? ⟨P,o,none⟩=w.frozen? ⟨P,o,none⟩:=fun o=>World.frozen?_of_block (a:=⟨P,o,none⟩) (b.block P i)
 have m:w4.ownsRow B 27 1 (.slice (some ⟨nb,0,none⟩) N N) N ((xs++List.replicate (N - xs.length) (0:Int)).flatMap AF):=by
  refine⟨by rw[Zav];simp;omega,Zj ⟨nb,N,d,rfl,Zv h.bs l,k1,Zx _,by unfold maxLen;omega,by rw[k2,size_madeCells],?_⟩⟩;have r:d.toList.take (N * 1)=d.toList:=List.take_of_length_le (by rw[Array.length_toList,k2,size_madeCells];exact Zx _);rw[r,k3,madeTU,List.take_zero,List.nil_append,List.flatMap_append,Nat.zero_add,q,Fz,List.drop_replicate]
 refine⟨⟨?_,?_,?_,fun o=> ?_,?_,by simp;omega,Bq.MZ _ _,s.2,h.pb,?_⟩,⟨b.os,b.tape,b.output,?_,fun k v j _=> ?_,fun _ o z=> ?_,fun _ o=> ?_⟩⟩
 ·rw[Zac _ P 6 5 _ (by decide)]
  exact World.cell?_setCell_same _ _ _ ((p 5).trans h.c0)
 ·exact World.cell?_setCell_same _ _ _ (u:= .int .i64 first) (by rw[Zac _ P 5 6 _ (by decide)];exact (p 6).trans h.c1)
 ·rw[Zac _ P 6 7 _ (by decide),Zac _ P 5 7 _ (by decide)];exact (p 7).trans h.c2
 ·rw[World.frozen?_setCell,World.frozen?_setCell];exact (g o).trans (h.fz o)
 ·exact ownsRow_setCell_below (ownsRow_setCell_below m h.pb _) h.pb _
 ·simp only[World.setCell,Array.size_modify]
  exact Zv h.bs b.size
 ·simp only[World.setCell,Array.size_modify]
  exact b.size
 ·exact (Zl _ ⟨P,6,none⟩ _ k j).trans ((Zl _ ⟨P,5,none⟩ _ k j).trans (b.block k v))
 ·rw[Zac _ P 6 o _ (by omega),Zac _ P 5 o _ (by omega)];exact p o
 ·rw[World.frozen?_setCell,World.frozen?_setCell];exact g o
open Go.RowKit
theorem Zdb (c n:Int)(w:World)(h: -9223372036854775808<=c)(d:c<=9223372036854775807)(hn:1<=n)(g:n<=9223372036854775807) :
  Calls prog 22 #[.int .i64 c, .int .i64 n] w fun e w'=>e= .returned (.int .i64 (CE c n))/\w'=w:=by
 by_cases b:c<0
 ·go_enter func22,ntmps22
  go_wp2
  go_ret
  exact⟨ri (by rw[TA b,<-Int.neg_tmod,Int.tmod_eq_emod_of_nonneg (by omega)]),rfl⟩
 ·go_enter func22,ntmps22
  go_wp2
  go_ret
  exact⟨ri (by rw[TB (by omega)]),rfl⟩
structure Dq (w:World)(a:Option Addr)(n cap:Nat)(f:Nat->Int):Prop where
 at':Cz w a n cap f
 lo:∀k,k<n-> -9223372036854775808<=f k
 hi:∀k,k<n->f k<=9223372036854775807
 len:n<=maxLen
theorem Dq.Aj {cap:Nat}(h:Dq w a n cap f)(b:Below w.heap.size w w'):Dq w' a n cap f:=⟨h.at'.Aj b,h.lo,h.hi,h.len⟩
end Go.Proofs.YtgdcjccbdmcebaaGreatDoor
