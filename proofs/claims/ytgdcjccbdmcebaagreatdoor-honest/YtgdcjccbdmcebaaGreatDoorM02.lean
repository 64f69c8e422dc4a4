import Derived.Test.YtgdcjccbdmcebaaGreatDoorM01
import Derived.Laws.Bits64b
import Derived.Lib.TrailingZeros
import Derived.Laws.MakeOwn
import Derived.Laws.OwnMore
import Derived.Deep.RegionHeld3
import Derived.Deep.RegionLaw
import Derived.Deep.DrawnRows
import Derived.Deep.AppendLies
set_option linter.all false
set_option maxHeartbeats 1000000
set_option maxRecDepth 100000
open Bool renaming and_eq_true->QCg,false_eq_true->QCh
open Go.Value renaming ownBlock->QCi
open Int renaming emod_nonneg->QCj,emod_lt_of_pos->QCk,le_trans->QCl,le_refl->QCm
open List renaming mem_append->QCn,countP_cons->QCo,drop_append->QCp,not_mem_nil->QCq,take_append->QCr,flatten_cons->QCs,drop_succ_cons->QCt,take_succ_cons->QCu,getElem?_eq_none->QAy,drop_of_length_le->QCv,take_of_length_le->QCw,findIdx?_eq_none_iff->QCx,ext_getElem->QCy,length_cons->QAs,range->QAr,findIdx?_eq_some_iff_getElem->QCz,mem_cons_self->QDa,getElem_modify->QDb,replicate->QAw,mem_cons->QDc,mem_singleton->QDd,foldl_cons->QDe,replicate_succ->QDf,mem_cons_of_mem->QDg,flatMap_cons->QDh
open Nat renaming le_refl->QCc,testBit_succ->QDi,testBit_zero->QDj,zero_add->QDk,lt_trichotomy->QDl
open Option renaming some.injEq->QCf
namespace Go.Proofs.YtgdcjccbdmcebaaGreatDoor
open Tryz
open Go.RowKit
variable {k i j B c b g n:Nat}{Na Aa:Nat->Option Addr}{a a0 na:Option Addr}{w w' w1:World}{Nc:Nat->Nat}{F:Ad}{f:Nat->Int}{cs:Array Value}{p:Prop}{l:List CL}{d:CL}{v:Value}{t:TypeId}
theorem Zz (h:p):Go.RowKit.Hid p:=h
theorem Zq {a b:Prop}(h:a)(g:b):a/\b:=⟨h,g⟩
theorem Zx (n:Nat):n<=n:=QCc n
theorem Zy {a:Nat}(h:a<b)(g:b<=c):a<c:=Nat.lt_of_lt_of_le h g
theorem Zv {a:Nat}(h:a<=b)(g:b<=c):a<=c:=Nat.le_trans h g
theorem Zu {a b:Prop}(h:a):a\/b:=Or.inl h
theorem Zj {a b:Prop}(h:b):a\/b:=Or.inr h
theorem Zk (B:Nat)(w:World):Below B w w:=Below.refl B w
theorem Zw {v:World}{a:Addr}(h:v.heap[a.block]? =w.heap[a.block]?):v.cell? a=w.cell? a:=World.cell?_of_block h
theorem Zm {v:World}{a:Addr}(h:v.heap[a.block]? =w.heap[a.block]?):v.frozen? a=w.frozen? a:=World.frozen?_of_block h
theorem Zl (w:World)(a:Addr)(u:Value)(k:Nat)(h:k≠a.block):(w.setCell a u).heap[k]? =w.heap[k]? :=Below.heap_setCell w a u k h
theorem ZZ {α:Type}{l:List α}(h:i<l.length):l[i]? =some l[i]:=List.getElem?_eq_getElem h
theorem ZQ {α:Type}{l:List α}{a:α}:l.getD i a=l[i]?.getD a:=List.getD_eq_getElem?_getD
theorem ZX {α:Type}{a b:List α}:(a++b).length=a.length+b.length:=List.length_append
theorem _root_.Go.RowKit.Hid.o (h:Go.RowKit.Hid p):p:=h
abbrev ZY(w v:World):=Below w.heap.size w v
theorem ZV{B:Nat}{w:World}:Below B w w:=Below.refl B w
theorem ZU{n:Nat}:n<=n:=QCc n
theorem Hid.mk (h:p):Hid p:=h
abbrev ndV (bu cl be ba ca ji:Int)(af:Value):Value:=.agg #[.int .i64 bu,.int .i64 cl,.int .i64 be,.int .i64 ba,.int .i64 ca,.int .i64 ji,af]
theorem refRest_any (bu cl be ba ca ji k s:Int)(af:Value)(w:World)(hb:1<=ba)(u:ba<=1048576)(G:ba<=ca)(x:ca<=1048576)(H:0<=ji)(A:ji<=1048576)
  (hk: -9223372036854775808<=k) (hk2:k<=9223372036854775807) (hs:0<=s) (hs2:s<=18446744073709551615) :
  Calls prog 139 #[ndV bu cl be ba ca ji af,.int .i64 k,.int .u64 s] w fun e w'=>e=.returned (.int .i64 (Zbs ba ca ji k s))/\ZY w w':=by
 go_enter func139,ntmps139
 go_wp2
 go_loop [7,8] (fun wt i=>∃m:Nat,i=.int .i64 ((m:Int)+1)/\((m:Int)<=k - 1\/m=0)/\wt=.int .i64 (pw ba m)/\pw ba m<2 * ca) (fun wt _=>(2 * ca - intOf wt).toNat)
 case atStart=>exact⟨0,rfl,Zj rfl,by rw[Fu],by rw[Fu];omega⟩
 case round =>
  obtain⟨m,rfl,hm,rfl,C⟩:=hrel;have hp:=Ky ba hb m;have q:=He ba m;have y:0<=s % (ji+1):=QCj _ (by omega);have z:s % (ji+1)<ji+1:=QCk _ (by omega);by_cases D:(m:Int)+1<k
  .by_cases E:pw ba m<ca
   .have r:Hid (pw ba (m+1)=2 * pw ba m):=q
    clear q
    go_wp2
    go_round
    case rel=>exact⟨m+1,by go_num,Zu (by omega),by rw[r.o];go_num,by rw[r.o];omega⟩
    case measure=>simp[intOf];omega
   .have key:=Zz (JA ba ca k m hb hm (Zj (by omega)))
    clear q
    go_wp2
    all_goals go_ret
    all_goals exact⟨ri (by unfold Zbs;rw[key.o];omega),ZV.alloc ZU _⟩
  .have key:=Zz (JA ba ca k m hb hm (Zu (by omega)))
   clear q
   go_wp2
   all_goals go_ret
   all_goals exact⟨ri (by unfold Zbs;rw[key.o];omega),ZV.alloc ZU _⟩
def WD (n:Int):Int:=min (2 * n) 9223372036854775807
theorem TP (n:Int)(w:World)(h:0<=n)(o:n<=9223372036854775807) :
  Calls prog 214 #[.int .i64 n] w fun e w'=>e=.returned (.int .i64 (WD n))/\w'=w:=by
 by_cases m:4611686018427387903<n
 .go_enter func214,ntmps214
  go_wp2
  go_ret
  exact⟨ri (by unfold WD;omega),rfl⟩
 .go_enter func214,ntmps214
  go_wp2
  go_ret
  exact⟨ri (by unfold WD;omega),rfl⟩
theorem Lm (s j:Int)(w:World)(x:0<=s)(r:s<=18446744073709551615)(u:0<=j)(q:j<=1048576) :
  Calls prog 215 #[.int .u64 s,.int .i64 j] w fun e w'=>e=.returned (.int .i64 (s % (j+1)))/\w'=w:=by
 have m:0<=s % (j+1):=QCj _ (by omega);have o:s % (j+1)<j+1:=QCk _ (by omega)
 go_enter func215,ntmps215
 go_wp2
 go_ret
 exact⟨rfl,rfl⟩
def KE (b:Int)(m:Nat):Int:=min (pw b m) 9223372036854775807
theorem TE (b:Int)(h:b<=1048576):KE b 0=b:=by unfold KE;rw[Fu];omega
theorem TD (b:Int)(hb:1<=b)(m:Nat):WD (KE b m)=KE b (m+1):=by have:=Ky b hb m;unfold WD KE;rw[He];omega
theorem Zo (b:Int)(hb:1<=b)(m:Nat):1<=KE b m/\KE b m<=9223372036854775807:=by have:=Ky b hb m;unfold KE;omega
theorem WE (b c k:Int)(m:Nat)(hb:1<=b)(r:c<=1048576)(hm:(m:Int)=min (max k 1) 64 - 1):min (KE b m) c=min (pw b (k - 1).toNat) c:=by
 have key:min (pw b (k - 1).toNat) c=min (pw b m) c:=by
  by_cases h:k<=64
  .exact JA b c k m hb (by omega) (Zu (by omega))
  .have e:m=63:=by omega
   subst e;refine JA b c k 63 hb (Zu (by omega)) (Zj ?_);have:=Jz b hb 40 63 (by omega);have q:=pw_ge b hb 40;have o:((2 ^ 40:Nat):Int)=1099511627776:=by decide
   omega
 rw[key];unfold KE;omega
theorem OS (bu cl be ba ca ji k s:Int)(af:Value)(w:World)(hb:1<=ba)(q:ba<=1048576)(E:ba<=ca)(r:ca<=1048576)(G:0<=ji)(z:ji<=1048576)
  (hk: -9223372036854775808<=k) (hk2:k<=9223372036854775807) (hs:0<=s) (hs2:s<=18446744073709551615) :
  Calls prog 145 #[ndV bu cl be ba ca ji af,.int .i64 k,.int .u64 s] w fun e w'=>e=.returned (.int .i64 (Zbs ba ca ji k s))/\ZY w w':=by
 go_enter func145,ntmps145
 go_wp2_with fail
 all_goals
  go_loop [7,15] (fun wt i=>∃m:Nat,i=.int .i64 m/\(m:Int)<=min (max k 1) 64 - 1/\wt=.int .i64 (KE ba m)) (fun _ i=>(64 - intOf i).toNat)
  case atStart=>exact⟨0,rfl,by omega,by rw[TE _ q]⟩
  case round =>
   obtain⟨m,rfl,hm,rfl⟩:=hrel;have hp:=Zo ba hb m;obtain⟨A,C⟩:=hp;have x:0<=s % (ji+1):=QCj _ (by omega);have y:s % (ji+1)<ji+1:=QCk _ (by omega);by_cases D:(m:Int)<min (max k 1) 64 - 1
   .first
     | (exfalso;omega)
     | (have u:=Zz (TD ba hb m)
        go_wp2_with (go_at_call 214;refine (TP _ _ (by omega) (by omega)).mono ?_;rintro e w' ⟨rfl,rfl⟩)
        go_round
        case rel=>exact⟨m+1,by go_num,by omega,by rw[u.o]⟩
        case measure=>simp[intOf];omega)
   .have key:=Zz (WE ba ca k m hb r (by omega))
    go_wp2_with (go_at_call 215;refine (Lm _ _ _ (by omega) (by omega) (by omega) (by omega)).mono ?_;rintro e w' ⟨rfl,rfl⟩)
    all_goals go_ret
    all_goals exact⟨ri (by unfold Zbs;first | (rw[<-key.o];omega) | rw[<-key.o]),ZV.alloc ZU _⟩
def Cx (w:World)(a:Option Addr)(n cap:Nat)(f:Nat->Int):Prop :=
 n=0\/(∃b o,a=some ⟨b,o,none⟩/\n<=cap/\cap<=maxLen/\b<w.heap.size/\∀k,k<n->w.cell? ⟨b,o+k,none⟩=some (.int .i64 (f k)))
structure DX (w:World)(F:Ad)(i b o:Nat)(a:Option Addr)(c:Nat):Prop where
 bu:w.cell? ⟨b,o,none⟩=some (.int .i64 (F.bu i))
 cl:w.cell? ⟨b,o+1,none⟩=some (.int .i64 (F.cl i))
 be:w.cell? ⟨b,o+2,none⟩=some (.int .i64 (F.be i))
 ba:w.cell? ⟨b,o+3,none⟩=some (.int .i64 (F.ba i))
 ca:w.cell? ⟨b,o+4,none⟩=some (.int .i64 (F.ca i))
 ji:w.cell? ⟨b,o+5,none⟩=some (.int .i64 (F.ji i))
 af:w.cell? ⟨b,o+6,none⟩=some (.slice a (F.an i) c)
 ints:Cx w a (F.an i) c (F.af i)
def Gy (w:World)(a:Option Addr)(cap:Nat)(F:Ad)(Aa:Nat->Option Addr)(Ac:Nat->Nat):Prop :=
 F.n=0\/(∃b o,a=some ⟨b,o,none⟩/\F.n<=cap/\cap<=maxLen/\b<w.heap.size/\∀i,i<F.n->DX w F i b (o+i * 7) (Aa i) (Ac i))
theorem Cx.Ak {cap:Nat}(h:Cx w a n cap f)(hb:ZY w w'):Cx w' a n cap f:=by
 rcases h with h | ⟨b,o,m,q,r,e,s⟩
 .exact Zu h
 .exact Zj ⟨b,o,m,q,r,Zy e hb.size,fun k hk=>(hb.cell (p:=⟨b,o+k,none⟩) e).trans (s k hk)⟩
theorem DX.Ak {o:Nat}(h:DX w F i b o a c)(e:b<w.heap.size)(hb:ZY w w'):DX w' F i b o a c :=
 ⟨(hb.cell (p:=⟨b,o,none⟩) e).trans h.bu,(hb.cell (p:=⟨b,o+1,none⟩) e).trans h.cl,(hb.cell (p:=⟨b,o+2,none⟩) e).trans h.be,(hb.cell (p:=⟨b,o+3,none⟩) e).trans h.ba,
  (hb.cell (p:=⟨b,o+4,none⟩) e).trans h.ca,(hb.cell (p:=⟨b,o+5,none⟩) e).trans h.ji,(hb.cell (p:=⟨b,o+6,none⟩) e).trans h.af,h.ints.Ak hb⟩
theorem Gy.Ak {cap:Nat}{e:Nat->Nat}(h:Gy w a cap F Aa e)(hb:ZY w w'):Gy w' a cap F Aa e:=by
 rcases h with h | ⟨b,o,q,r,s,m,u⟩
 .exact Zu h
 .exact Zj ⟨b,o,q,r,s,Zy m hb.size,fun i hi=>(u i hi).Ak m hb⟩
abbrev GL (dl:Int)(v:Value):Value:=.agg #[.int .i64 dl,v]
def Zd8 (F:Ad)(i:Nat)(a:Option Addr)(c:Nat):List Value :=
 [.int .i64 (F.bu i),.int .i64 (F.cl i),.int .i64 (F.be i),.int .i64 (F.ba i),.int .i64 (F.ca i),.int .i64 (F.ji i),.slice a (F.an i) c]
def Zbw (F:Ad)(Na:Nat->Option Addr)(Nc:Nat->Nat):Nat->List Value
 | 0=>[]
 | k+1=>Zbw F Na Nc k++Zd8 F k (Na k) (Nc k)
def Zbx (n:Nat)(f:Nat->Int):List Value:=(QAr n).map fun k=> .int .i64 (f k)
theorem Zeo (F:Ad)(Na:Nat->Option Addr)(Nc:Nat->Nat)(k:Nat):(Zbw F Na Nc k).length=k * 7:=by
 induction k with
 | zero=>rfl
 | succ k e=>simp only[Zbw,ZX,e,Zd8,QAs,List.length_nil];omega
theorem MT {e:Nat->Option Addr}{m:Nat->Nat}(h:∀i,i<k->Na i=e i/\Nc i=m i):Zbw F Na Nc k=Zbw F e m k:=by
 induction k with
 | zero=>rfl
 | succ k o=>simp only[Zbw];rw[o fun i hi=>h i (by omega),(h k (by omega)).1,(h k (by omega)).2]
theorem Im (F:Ad)(Na:Nat->Option Addr)(Nc:Nat->Nat)(k i j:Nat)(hi:i<k)(m:j<7):(Zbw F Na Nc k)[i * 7+j]? =(Zd8 F i (Na i) (Nc i))[j]? :=by
 induction k with
 | zero=>omega
 | succ k h =>
  simp only[Zbw];by_cases e:i=k
  .subst e
   rw[List.getElem?_append_right (by rw[Zeo];omega),Zeo]
   congr 1
   omega
  .rw[List.getElem?_append_left (by rw[Zeo];omega)]
   exact h (by omega)
theorem GP (n:Nat)(f:Nat->Int):(Zbx n f).length=n:=by simp[Zbx]
theorem JT (n:Nat)(f:Nat->Int)(k:Nat)(h:k<n):(Zbx n f)[k]? =some (.int .i64 (f k)):=by simp[Zbx,h]
structure An (B:Nat)(w:World)(F:Ad)(v:Value)(k:Nat)(Na:Nat->Option Addr)(Nc:Nat->Nat):Prop where
 own:w.ownsRow B 130 7 v k (Zbw F Na Nc k)
 DW:∀i,i<k->w.ownsRow B 3 1 (.slice (Na i) (F.an i) (Nc i)) (F.an i) (Zbx (F.an i) (F.af i))
theorem An.below (h:An B w F v k Na Nc)(hb:ZY w w'):An B w' F v k Na Nc :=
 ⟨Zak h.own hb,fun i hi=>Zak (h.DW i hi) hb⟩
theorem Ip {e e':TypeId}{size o n':Nat}{v':Value}{xs q:List Value}(h:w.ownsRow B e size v n xs)(x:w.ownsRow B e' o v' n' q)(he:e≠e'):v.ownBlock=none\/v.ownBlock≠v'.ownBlock:=by
 rcases h.2 with⟨rfl,rfl⟩ | ⟨g,cap,cur,rfl,hg,hh,_⟩
 .exact Zu rfl
 .right
  rcases x.2 with⟨rfl,rfl⟩ | ⟨z,r,s,rfl,y,m,_⟩
  .simp[QCi]
  .intro u
   simp only[QCi,QCf] at u;subst u;rw[hh] at m;simp only[QCf,Obj.cells.injEq] at m;exact he m.2.1
theorem Ot (h:w.ownsRow B 3 1 (.slice a n c) n (Zbx n f)):Cx w a n c f:=by
 by_cases hn:n=0
 .exact Zu hn
 .rcases h.2 with⟨_,e⟩ | ⟨g,cap,cur,e,hg,hh,o,q,u,x⟩
  .exact absurd e hn
  .obtain⟨r,_,s⟩:a=some ⟨g,0,none⟩/\n=n/\c=cap:=by simpa using e
   subst r s;obtain⟨m,_⟩:=Array.getElem?_eq_some_iff.1 hh;refine Zj ⟨g,0,rfl,o,q,m,fun k hk=> ?_⟩;have:=h.cellAt k (by omega);rw[QDk,this,JT n f k hk]
theorem An.node {cap:Nat}(h:An B w F (.slice (some ⟨g,0,none⟩) k cap) k Na Nc):∀i,i<k->DX w F i g (0+i * 7) (Na i) (Nc i):=by
 intro i hi
 have key:∀j,j<7->w.cell? ⟨g,0+i * 7+j,none⟩=(Zd8 F i (Na i) (Nc i))[j]? :=fun j e=>by
  have:=h.own.cellAt (i * 7+j) (by omega);rw[QDk,this,Im F Na Nc k i j hi e]
 exact⟨key 0 (by omega),key 1 (by omega),key 2 (by omega),key 3 (by omega),key 4 (by omega),key 5 (by omega),key 6 (by omega),Ot (h.DW i hi)⟩
theorem An.lt {cap:Nat}(h:An B w F (.slice (some ⟨g,0,none⟩) k cap) k Na Nc):B<=g/\g<w.heap.size:=h.own.lt g rfl
theorem An.more {o:World}{v':Value}(h:An B w F v k Na Nc)(q:w1.ownsRow B 3 1 (.slice a (F.an k) c) (F.an k) (Zbx (F.an k) (F.af k)))
  (hb:ZY w w1) (hown:o.ownsRow B 130 7 v' (k+1) (Zbw F Na Nc k++Zd8 F k a c)) (hg:w1.grownBy o v.ownBlock) :
  An B o F v' (k+1) (fun i=>if i=k then a else Na i) (fun i=>if i=k then c else Nc i):=by
 have m:=Zak h.own hb;constructor
 .have e:Zbw F (fun i=>if i=k then a else Na i) (fun i=>if i=k then c else Nc i) (k+1)=Zbw F Na Nc k++Zd8 F k a c:=by
   simp only[Zbw,if_true]
   congr 1
   exact MT fun i hi=>⟨if_neg (by omega),if_neg (by omega)⟩
  rw[e];exact hown
 .intro i hi
  by_cases e:i=k
  .subst e
   simp only[if_true];exact q.kept hg (Ip q m (by decide))
  .simp only[e,if_false]
   have r:=Zak (h.DW i (by omega)) hb;exact r.kept hg (Ip r m (by decide))
structure Mq (w wr:World)(F:Ad)(a:Option Addr)(cap:Nat):Prop where
 bA:wr.heap[w.heap.size]? =some (.cells #[.int .i64 F.dl,.slice a F.n cap] 61 (0,0))
 bB:wr.heap[w.heap.size+1]? =some (.cells #[.int .i64 0,.slice none 0 0] 61 (0,0))
 sz:w.heap.size+1<wr.heap.size
 bl:ZY w wr
theorem Mq.Ak {wr wx:World}{cap:Nat}(h:Mq w wr F a cap)(hb:Below (w.heap.size+2) wr wx):Mq w wx F a cap :=
 ⟨(hb.block _ (by omega)).trans h.bA,(hb.block _ (by omega)).trans h.bB,Zy h.sz hb.size,h.bl.trans (hb.mono (by omega))⟩
theorem Mq.start (w:World)(F:Ad)(a:Option Addr)(cap:Nat):Mq w ((w.alloc (.cells #[.int .i64 F.dl,.slice a F.n cap] 61)).alloc (.cells #[.int .i64 0,.slice none 0 0] 61)) F a cap :=
 ⟨heap_alloc2_old _ _ _,heap_alloc2_new _ _ _,by simp,(ZV.alloc ZU _).alloc (by simp) _⟩
theorem Zae (h:w.heap[g]? =some (.cells cs t (0,0)))(j:Nat):w.cell? ⟨g,j,none⟩=cs[j]? :=cell_of_row w g j cs t (0,0) h
theorem Zbb (h:w.heap[g]? =some (.cells cs t (0,0)))(j:Nat):w.frozen? ⟨g,j,none⟩=false:=frozen_of_row w g j cs t h
theorem PA {m:World}{z v1:Value}{c0:Nat}(s:An (w.heap.size+2) w1 F z k Na Nc)
  (hown1:m.ownsRow (w.heap.size+2) 3 1 v1 (0+F.an k) ([]++Zbx (F.an k) (F.af k)))
  (hgrow1:(w1.alloc (.cells #[.int .i64 (F.bu k),.int .i64 (F.cl k),.int .i64 (F.be k),.int .i64 (F.ba k),.int .i64 (F.ca k),.int .i64 (F.ji k),.slice a0 (F.an k) c0] 130)).grownBy m none) :
  ∃na nc,v1=.slice na (F.an k) nc/\w1.heap.size<m.heap.size/\m.heap[w1.heap.size]? =some (.cells #[.int .i64 (F.bu k),.int .i64 (F.cl k),.int .i64 (F.be k),.int .i64 (F.ba k),.int .i64 (F.ca k),.int .i64 (F.ji k),.slice a0 (F.an k) c0] 130 (0,0)) /\
   (∀x o,((m.setCell ⟨w1.heap.size,6,none⟩ x).alloc o).ownsRow (w.heap.size+2) 130 7 z k (Zbw F Na Nc k)) /\
   (∀x o,((m.setCell ⟨w1.heap.size,6,none⟩ x).alloc o).ownsRow (w.heap.size+2) 3 1 (.slice na (F.an k) nc) (F.an k) (Zbx (F.an k) (F.af k))) /\
   (∀x o,ZY w1 ((m.setCell ⟨w1.heap.size,6,none⟩ x).alloc o)):=by
 rw[QDk,List.nil_append] at hown1;obtain⟨na,nc,rfl⟩:=Zaz hown1;have y:w1.heap.size<m.heap.size:=by have:=hgrow1.size;simp at this;omega
 have r:m.heap[w1.heap.size]? =some (.cells #[.int .i64 (F.bu k),.int .i64 (F.cl k),.int .i64 (F.be k),.int .i64 (F.ba k),.int .i64 (F.ca k),.int .i64 (F.ji k),.slice a0 (F.an k) c0] 130 (0,0)) :=
  (hgrow1.block _ (by simp) (by simp)).trans (heap_alloc_new _ _)
 have u:ZY w1 m:=(ZV.alloc ZU _).grown hgrow1 (by simp) (fun k h=>by cases h);have q:∀x o,ZY w1 ((m.setCell ⟨w1.heap.size,6,none⟩ x).alloc o):=fun x o=>(u.setCell (by simp) x).alloc (by simp[World.setCell];omega) o
 refine⟨na,nc,rfl,y,r,fun x o=>Zak s.own (q x o),fun x o=> ?_,q⟩;refine (ownsRow_setCell_other hown1 (fun e=> ?_) x).alloc o;rcases hown1.2 with⟨h,_⟩ | ⟨g,cap,cur,h,hg,hh,_⟩
 .rw[h] at e;simp[QCi] at e
 .rw[h] at e
  simp only[QCi,QCf] at e;rw[e,r] at hh;simp only[QCf,Obj.cells.injEq] at hh;exact absurd hh.2.1 (by decide)
theorem JH {w4 q:World}{r v2:Value}{o cap:Nat}{nc:Nat}(e:An (w.heap.size+2) w1 F r k Na Nc)(h:Mq w w1 F (some ⟨b,o,none⟩) cap)
  (hints:w4.ownsRow (w.heap.size+2) 3 1 (.slice na (F.an k) nc) (F.an k) (Zbx (F.an k) (F.af k))) (hb:ZY w1 w4)
  (hown2:q.ownsRow (w.heap.size+2) 130 7 v2 (k+1) (Zbw F Na Nc k++Zd8 F k na nc)) (hgrow2:w4.grownBy q r.ownBlock) :
  ∃(m:Option Addr) (lc:Nat) (Na':Nat->Option Addr) (Nc':Nat->Nat),v2=.slice m (k+1) lc/\An (w.heap.size+2) q F (.slice m (k+1) lc) (k+1) Na' Nc'/\Mq w q F (some ⟨b,o,none⟩) cap:=by
 have s:=e.more hints hb hown2 hgrow2;obtain⟨m,lc,rfl⟩:=Zaz hown2;refine⟨m,lc,_,_,rfl,s,h.Ak ?_⟩;have u:=h.sz;have x:=hb.size;refine (hb.mono (by omega)).grown hgrow2 (by omega) fun g hg=> ?_;exact (e.own.lt g hg).1
def Cn (F:Ad)(e a:Int):Prop :=
 (e=2/\a= -1/\¬Cq F) \/
 (e=2/\Cq F/\∃i,i<F.n/\a=(i:Int)/\(∀j,j<i->Be F j/\AN F j)/\¬Be F i) \/
 (e=3/\Cq F/\∃i,i<F.n/\a=(i:Int)/\(∀j,j<i->Be F j/\AN F j)/\Be F i/\¬AN F i) \/
 (e=4/\Cq F/\(∀j,j<F.n->Be F j/\AN F j)/\∃i,i<F.n/\a=(i:Int)/\¬CY F i/\∀j,j<i->CY F j) \/
 (e=0/\a= -1/\Cq F/\(∀j,j<F.n->Be F j/\AN F j)/\∀i,i<F.n->CY F i)
theorem LB {P:Nat->Prop}(e:∀k,k<i->P k)(m:¬P i)(o:∀k,k<j->P k)(q:¬P j):i=j:=by
 rcases QDl i j with h | h | h
 .exact absurd (o i h) m
 .exact h
 .exact absurd (e j h) q
theorem Cn.one {e a e' D:Int}(h:Cn F e a)(G:Cn F e' D):e=e'/\a=D:=by
 have key:∀{i j:Nat},(∀k,k<i->Be F k/\AN F k)->¬(Be F i/\AN F i)->(∀k,k<j->Be F k/\AN F k)->¬(Be F j/\AN F j)->i=j:=fun a b c d=>LB a b c d;rcases h with⟨rfl,rfl,A⟩ | ⟨rfl,A,i,hi,rfl,y,hk⟩ | ⟨rfl,A,i,hi,rfl,y,hk,hl⟩ | ⟨rfl,A,s,i,hi,rfl,y,hk⟩ | ⟨rfl,rfl,A,s,hg⟩ <;>
 rcases G with⟨rfl,rfl,r⟩ | ⟨rfl,r,E,u,rfl,m,o⟩ | ⟨rfl,r,E,u,rfl,m,o,z⟩ | ⟨rfl,r,q,E,u,rfl,m,o⟩ | ⟨rfl,rfl,r,q,C⟩
 case inl.inl=>exact⟨rfl,rfl⟩
 case inr.inl.inr.inl=>obtain rfl:=key y (fun x=>hk x.1) m (fun x=>o x.1);exact⟨rfl,rfl⟩
 case inr.inl.inr.inr.inl=>obtain rfl:=key y (fun x=>hk x.1) m (fun x=>z x.2);exact absurd o hk
 case inr.inr.inl.inr.inl=>obtain rfl:=key y (fun x=>hl x.2) m (fun x=>o x.1);exact absurd hk o
 case inr.inr.inl.inr.inr.inl=>obtain rfl:=key y (fun x=>hl x.2) m (fun x=>z x.2);exact⟨rfl,rfl⟩
 case inr.inr.inr.inl.inr.inr.inr.inl=>obtain rfl:=LB hk y o m;exact⟨rfl,rfl⟩
 case inr.inr.inr.inr.inr.inr.inr.inr=>exact⟨rfl,rfl⟩
 all_goals exfalso
 all_goals first
  | exact A r
  | exact r A
  | exact hk (q _ hi).1
  | exact hl (q _ hi).2
  | exact o (s _ u).1
  | exact z (s _ u).2
  | exact y (C _ hi)
  | exact m (hg _ u)
def cnt (S:Nat->Bool):Nat->Nat
 | 0=>0
 | n+1=>cnt S n+if S n then 1 else 0
def Sound (F:Ad)(S:Nat->Bool):Prop:=∀j,j<F.n->S j=true->CY F j
def Closed (F:Ad)(S:Nat->Bool):Prop:=∀j,j<F.n->(∀k,k<F.an j->S (F.af j k).toNat=true)->S j=true
theorem Va {S:Nat->Bool}(he:∀j,j<F.n->AN F j)(m:Sound F S)(e:Closed F S):∀i,i<F.n->(CY F i↔S i=true):=by
 intro i hi;refine⟨fun h=> ?_,m i hi⟩
 induction h with
 | mk i _ o=>exact e i hi fun k hk=>o k hk (by have:=he i hi k hk;unfold CS at this;omega)
theorem CS.lt (h:CS F i k):(F.af i k).toNat<F.n:=by have:=h.1;have:=h.2.1;omega
structure Jk (w wr:World)(F:Ad)(a:Option Addr)(cap:Nat):Prop where
 c0:wr.cell? ⟨w.heap.size,0,none⟩=some (.int .i64 F.dl)
 c1:wr.cell? ⟨w.heap.size,1,none⟩=some (.slice a F.n cap)
 sz:w.heap.size<wr.heap.size
 bl:ZY w wr
theorem Jk.Ak {wr wx:World}{cap:Nat}(h:Jk w wr F a cap)(hb:ZY wr wx):Jk w wx F a cap :=
 ⟨(hb.cell (p:=⟨w.heap.size,0,none⟩) h.sz).trans h.c0,(hb.cell (p:=⟨w.heap.size,1,none⟩) h.sz).trans h.c1,Zy h.sz hb.size,h.bl.trans (hb.mono (Nat.le_of_lt h.sz))⟩
theorem Jk.start (w:World)(F:Ad)(a:Option Addr)(cap:Nat)(t:TypeId):Jk w (w.alloc (.cells #[.int .i64 F.dl,.slice a F.n cap] t)) F a cap :=
 ⟨by simp,by simp,by simp,ZV.alloc ZU _⟩
def AP (w:World):Prop:=∀j,j<64->w.cell? ⟨2,j,none⟩=some (.int .u8 (Lib.deBruijn64tab.getD j 0))
theorem Xf (x a:Nat)(m:x<18446744073709551616)(o:x≠0)(e:x &&& (18446744073709551616 - x)=a) :
  IntKind.u64.wrap (bits BinOp.and IntKind.u64 (x:Int) (IntKind.u64.wrap (-(x:Int))) * 285870213051353865) / 288230376151711744=((a * 285870213051353865 % 18446744073709551616 / 288230376151711744:Nat):Int):=by
 have h:IntKind.u64.wrap (-(x:Int))=((18446744073709551616 - x:Nat):Int):=by rw[IntKind.wrap_u64];omega
 rw[h,bits_and_u64_nat x _ m (by omega),e,IntKind.wrap_u64];omega
theorem TQ (x k idx:Nat)(w:World)(m:((x:Int) == 0)=false)
  (key:IntKind.u64.wrap (bits BinOp.and IntKind.u64 (x:Int) (IntKind.u64.wrap (-(x:Int))) * 285870213051353865) / 288230376151711744=(idx:Int))
  (hi:idx<64) (hk:k<64) (hcell:w.cell? ⟨2,idx,none⟩=some (.int .u8 k)) :
  Calls prog 237 #[.int .u64 x] w fun e w'=>e=.returned (.int .i64 k)/\w'=w:=by
 go_enter func237,ntmps237
 go_wp2_with (simp only[key])
 go_ret
 exact⟨rfl,rfl⟩
theorem Pj (x:Nat)(r:x<18446744073709551616)(q:x≠0)(w:World)(s:AP w) :
  Calls prog 237 #[.int .u64 x] w fun e w'=>e=.returned (.int .i64 (Lib.ctz 64 x))/\w'=w:=by
 obtain⟨m,hk⟩:=Lib.lowest_bit 64 x q r;obtain⟨hi,o⟩:=Lib.deBruijn64_at _ hk;have h:=s _ hi;rw[o] at h;exact TQ x _ _ w (by simp;omega) (Xf x _ r q m) hi hk h
theorem tz_any (x:Nat)(s:x<18446744073709551616)(q:x≠0)(w:World)(r:AP w) :
  Calls prog 271 #[.int .u64 x] w fun e w'=>e=.returned (.int .i64 (Lib.ctz 64 x))/\w'=w:=by
 have m:=Pj x s q w r
 go_enter func271,ntmps271
 go_wp2_with (go_at_call 237;refine m.mono ?_;rintro e w' ⟨rfl,o⟩;rw[o])
 go_ret
 exact⟨rfl,rfl⟩
theorem Lc (f p j:Nat)(hf:p<2 ^ f)(r:j<f)(e:∀i,i<j->p.testBit i=true)(h:p.testBit j=false):Lib.ctzFrom f (2 ^ f - 1 - p)=j:=by
 induction f generalizing p j with
 | zero=>omega
 | succ f q =>
  have o:2 ^ (f+1)=2 * 2 ^ f:=by rw[Nat.pow_succ];omega
  unfold Lib.ctzFrom
  cases j with
  | zero =>
   have:p % 2=0:=by simpa[QDj] using h
   rw[if_pos (by omega)]
  | succ j =>
   have e0:p % 2=1:=by simpa[QDj] using e 0 (by omega)
   rw[if_neg (by omega)];have m:(2 ^ (f+1) - 1 - p) / 2=2 ^ f - 1 - p / 2:=by omega
   rw[m,q (p / 2) j (by omega) (by omega) (fun i hi=>by have:=e (i+1) (by omega);rwa[QDi] at this) (by rwa[QDi] at h)];omega
theorem Sn (p j:Nat)(hp:p<2 ^ 63)(m:j<64)(e:∀i,i<j->p.testBit i=true)(h:p.testBit j=false):Lib.ctz 64 (18446744073709551615 - p)=j:=by
 unfold Lib.ctz;rw[if_neg (by omega)];exact Lc 64 p j (by omega) m e h
open Go.RowKit
attribute [local go_sem ↓] Go.wp_at_zero Go.wp_at_succ
def AX (p:Ba):List Value:=[.int .u64 p.run,.int .i64 p.node]
theorem Zbp (p:Ba):(AX p).length=2:=rfl
structure FV (w:World)(P B:Nat)(a:Option Addr)(n c first:Nat)(ys xs:List Ba):Prop where
 c0:w.cell? ⟨P,8,none⟩=some (.slice a n c)
 c1:w.cell? ⟨P,9,none⟩=some (.int .i64 first)
 c2:w.cell? ⟨P,10,none⟩=some (.int .i64 xs.length)
 fz:∀o,w.frozen? ⟨P,o,none⟩=false
 row:w.ownsRow B 274 2 (.slice a n c) n (ys.flatMap AX)
 len:ys.length=n
 ring:Bt ys first xs
 Br:n<=1000
 pb:P<B
 bs:B<=w.heap.size
theorem RG (l:List Ba):∀u∈l.flatMap AX,u.oneCell'=true:=by
 intro u hu;obtain⟨x,_,e⟩:=List.mem_flatMap.1 hu;simp only[AX,QDc,QCq,or_false] at e
 first | (rcases e with rfl | rfl<;>rfl) | (rcases e with rfl;rfl)
theorem Zaq (l:List Ba):(l.flatMap AX).length=l.length * 2:=by
 induction l with
 | nil=>rfl
 | cons a l e=>rw[QDh,ZX,e,Zbp,QAs];omega
theorem DN (l:List Ba)(i:Nat):(l.flatMap AX).take (i * 2)=(l.take i).flatMap AX:=by
 induction l generalizing i with
 | nil=>simp
 | cons a l e =>
  cases i with
  | zero=>simp
  | succ i=>rw[QDh,QCu,QDh,QCr,Zbp,QCw (by rw[Zbp];omega),show (i+1) * 2 - 2=i * 2 by omega,e]
theorem Fa (l:List Ba)(i:Nat):(l.flatMap AX).drop (i * 2)=(l.drop i).flatMap AX:=by
 induction l generalizing i with
 | nil=>simp
 | cons a l e =>
  cases i with
  | zero=>simp
  | succ i=>rw[QDh,QCt,QCp,Zbp,QCv (by rw[Zbp];omega),show (i+1) * 2 - 2=i * 2 by omega,e];rfl
theorem LZ (n:Nat):(QAw n (.agg #[.int .u64 0,.int .i64 0]:Value).cells.toList).flatten=(QAw n (⟨0,0⟩:Ba)).flatMap AX:=by
 induction n with
 | zero=>rfl
 | succ n e=>rw[QDf,QCs,QDf,QDh,e];rfl
theorem infoTR:(prog.info? 274).map (fun i=>(i.zero,i.size,i.bytes))=some (some (.agg #[.int .u64 0,.int .i64 0]),2,16):=by kernel_rfl
theorem zeroTR (w:World):(zeroValue 274).run prog w=.ok (.agg #[.int .u64 0,.int .i64 0]) w:=by kernel_rfl
theorem KL:(prog.info? 274).map (·.size)=some 2:=by kernel_rfl
theorem VI (w:World)(n:Nat)(hn:n<=100000):(Instr.makeSlice 152 (.int .i64 (n:Int)) (.int .i64 (n:Int))).run prog w=.ok (.slice (some ⟨w.heap.size,0,none⟩) n n) (w.alloc (.cells (madeCells (.agg #[.int .u64 0,.int .i64 0]:Value).cells (n * 2)) 274)):=by
 obtain⟨i,hi,h,e,hb⟩:=info_parts infoTR;have:=run_makeSlice (P:=prog) w 152 274 i _ underlying152 hi h .i64 .i64 n n (by omega) (by omega) (by rw[e];simp;omega) (by rw[hb];omega) (by omega);rw[e] at this;simpa using this
theorem EL (w:World)(P n:Nat)(h:w.cell? ⟨P,10,none⟩=some (.int .i64 n)) :
  Calls prog 199 #[.pointer (some ⟨P,8,none⟩)] w fun e w'=>e=.returned (.bool (decide (n=0)))/\w'=w:=by
 go_enter func199,ntmps199
 go_wp2_with fail
 go_ret
 exact⟨by first | rfl | (congr 2;by_cases e:n=0<;>simp[e]),rfl⟩
def AF (x:Int):List Value:=[.int .u64 x]
theorem Zbq (x:Int):(AF x).length=1:=rfl
structure Gv (w:World)(P B:Nat)(a:Option Addr)(n c first:Nat)(ys xs:List Int):Prop where
 c0:w.cell? ⟨P,5,none⟩=some (.slice a n c)
 c1:w.cell? ⟨P,6,none⟩=some (.int .i64 first)
 c2:w.cell? ⟨P,7,none⟩=some (.int .i64 xs.length)
 fz:∀o,w.frozen? ⟨P,o,none⟩=false
 row:w.ownsRow B 27 1 (.slice a n c) n (ys.flatMap AF)
 len:ys.length=n
 ring:Bt ys first xs
 Br:n<=1000
 pb:P<B
 bs:B<=w.heap.size
theorem Pk (l:List Int):∀u∈l.flatMap AF,u.oneCell'=true:=by
 intro u hu;obtain⟨x,_,e⟩:=List.mem_flatMap.1 hu;simp only[AF,QDc,QCq,or_false] at e
 first | (rcases e with rfl | rfl<;>rfl) | (rcases e with rfl;rfl)
theorem Zav (l:List Int):(l.flatMap AF).length=l.length * 1:=by
 induction l with
 | nil=>rfl
 | cons a l e=>rw[QDh,ZX,e,Zbq,QAs];omega
theorem Fw (l:List Int)(i:Nat):(l.flatMap AF).take (i * 1)=(l.take i).flatMap AF:=by
 induction l generalizing i with
 | nil=>simp
 | cons a l e =>
  cases i with
  | zero=>simp
  | succ i=>rw[QDh,QCu,QDh,QCr,Zbq,QCw (by rw[Zbq];omega),show (i+1) * 1 - 1=i * 1 by omega,e]
theorem Fv (l:List Int)(i:Nat):(l.flatMap AF).drop (i * 1)=(l.drop i).flatMap AF:=by
 induction l generalizing i with
 | nil=>simp
 | cons a l e =>
  cases i with
  | zero=>simp
  | succ i=>rw[QDh,QCt,QCp,Zbq,QCv (by rw[Zbq];omega),show (i+1) * 1 - 1=i * 1 by omega,e];rfl
theorem KS (n:Nat):(QAw n (.int .u64 0:Value).cells.toList).flatten=(QAw n (0:Int)).flatMap AF:=by
 induction n with
 | zero=>rfl
 | succ n e=>rw[QDf,QCs,QDf,QDh,e];rfl
theorem infoTU:(prog.info? 27).map (fun i=>(i.zero,i.size,i.bytes))=some (some (.int .u64 0),1,8):=by kernel_rfl
theorem zeroTU (w:World):(zeroValue 27).run prog w=.ok (.int .u64 0) w:=by kernel_rfl
theorem QQ:(prog.info? 27).map (·.size)=some 1:=by kernel_rfl
theorem VJ (w:World)(n:Nat)(hn:n<=100000):(Instr.makeSlice 75 (.int .i64 (n:Int)) (.int .i64 (n:Int))).run prog w=.ok (.slice (some ⟨w.heap.size,0,none⟩) n n) (w.alloc (.cells (madeCells (.int .u64 0:Value).cells (n * 1)) 27)):=by
 obtain⟨i,hi,h,e,hb⟩:=info_parts infoTU;have:=run_makeSlice (P:=prog) w 75 27 i _ underlying75 hi h .i64 .i64 n n (by omega) (by omega) (by rw[e];simp;omega) (by rw[hb];omega) (by omega);rw[e] at this;simpa using this
theorem EM (w:World)(P n:Nat)(h:w.cell? ⟨P,7,none⟩=some (.int .i64 n)) :
  Calls prog 195 #[.pointer (some ⟨P,5,none⟩)] w fun e w'=>e=.returned (.bool (decide (n=0)))/\w'=w:=by
 go_enter func195,ntmps195
 go_wp2_with fail
 go_ret
 exact⟨by first | rfl | (congr 2;by_cases e:n=0<;>simp[e]),rfl⟩
theorem Zbj (r:Ag)(f:AO->AO)(h:k≠j):(r.Af k f).at_ j=r.at_ j:=by
 unfold Ag.at_ Ag.Af;simp only[ZQ,List.getElem?_modify,if_neg h]
 cases r.steps[j]? <;>rfl
theorem Za7 (r:Ag)(f:AO->AO)(h:k<r.steps.length):(r.Af k f).at_ k=f (r.at_ k):=by
 rw[Zeg r k k f h,if_pos rfl]
theorem Io (r:Ag)(k:Nat)(f:AO->AO):(r.Af k f).fl=r.fl:=rfl
theorem Is (e:Ab)(i k:Nat):(e.ready i k).runs.length=e.runs.length:=by simp[Ab.ready,Ab.Af,Ab.AL]
theorem DO (e:Ab)(i k:Nat)(hi:i<e.runs.length):(e.ready i k).at_ i=(e.at_ i).Af k (fun s=>{ s with st:=2 }):=by
 have h:=Zbr e i i (fun r=>r.Af k (fun s=>{ s with st:=2 })) hi;rw[if_pos rfl] at h;exact h
theorem EO {r:Ag}(h:r.free k=true):(r.at_ k).st=1:=by
 unfold Ag.free at h;simp only[QCg,beq_iff_eq] at h;exact h.1
theorem PV {r:Ag}(hk:k<r.steps.length)(h:(r.at_ k).st=1)(m:k≠j):(r.Af k (fun s=>{ s with st:=2 })).free j=r.free j:=by
 unfold Ag.free;rw[Zbj r _ m,Io]
 congr 1
 refine List.all_congr rfl (fun a=> ?_);by_cases e:k=(r.fl.af j a).toNat
 .rw[<-e,Za7 r _ hk,h];rfl
 .rw[Zbj r _ e]
theorem Ml (i n:Nat):∀(L:List Nat),L.Nodup->(∀k∈L,k<n)->∀e:Ab,i<e.runs.length->(e.at_ i).steps.length=n ->
  L.foldl (fun e k=>if (e.at_ i).free k then e.ready i k else e) e=(L.filter (fun k=>(e.at_ i).free k)).foldl (fun e k=>e.ready i k) e
 | [],_,_,_,_,_=>rfl
 | k::L,hd,hl,e,hi,hn=>by
  rw[List.nodup_cons] at hd;have hk:=hl k (QDa ..);have o:=Ml i n L hd.2 (fun k h=>hl k (QDg _ h));rw[QDe]
  cases hf:(e.at_ i).free k with
  | false =>
   rw[List.filter_cons_of_neg (by simp[hf])];exact o e hi hn
  | true =>
   rw[List.filter_cons_of_pos (by simp[hf]),QDe];show L.foldl _ (e.ready i k)=_;have m:=DO e i k hi;rw[o (e.ready i k) (by rw[Is];exact hi) (by rw[m,Zal];exact hn)]
   congr 1
   refine List.filter_congr (fun j q=> ?_);rw[m];exact PV (by omega) (EO hf) (fun e=>by subst e;exact hd.1 q)
theorem JE (e:Ab)(i:Nat)(hi:i<e.runs.length):e.Bm i=((QAr (e.at_ i).steps.length).filter (fun k=>(e.at_ i).free k)).foldl (fun e k=>e.ready i k) e :=
 Ml i _ _ List.nodup_range (fun _ h=>List.mem_range.1 h) e hi rfl
def JB (s:AO):AO:={ s with st:=7 }
inductive Es:Ag->Ag->Prop
 | refl (r:Ag):Es r r
 | step (r r2:Ag) (k:Nat):k<r.steps.length->r.lost k=true->Es (r.Af k JB) r2->Es r r2
def Shut (r:Ag):Prop:=∀k,k<r.steps.length->r.lost k=false
theorem Es.trans {a b c:Ag}(h:Es a b)(g:Es b c):Es a c:=by
 induction h with
 | refl=>exact g
 | step r r2 k e m _ o=>exact .step r c k e m (o g)
theorem Es.len {a b:Ag}(h:Es a b):b.steps.length=a.steps.length:=by
 induction h with
 | refl=>rfl
 | step r r2 k _ _ _ e=>rw[e,Zal]
structure Pq (a b:Ag):Prop where
 one:{ b with steps:=a.steps }=a
 len:b.steps.length=a.steps.length
 at_:∀k,k<a.steps.length->b.at_ k=a.at_ k\/((a.at_ k).st=1/\b.at_ k=JB (a.at_ k))
theorem Pq.fl {a b:Ag}(h:Pq a b):b.fl=a.fl:=by rw[<-h.one]
theorem Pq.o {a b:Ag}(h:Pq a b)(hk:¬k<a.steps.length):b.at_ k=a.at_ k:=by
 unfold Ag.at_;rw[ZQ,ZQ,QAy (by have:=h.len;omega),QAy (by omega)]
theorem Pq.refl (a:Ag):Pq a a:=⟨rfl,rfl,fun _ _=>Zu rfl⟩
theorem EU {r:Ag}(h:r.lost k=true):(r.at_ k).st=1:=by
 unfold Ag.lost at h;simp only[QCg,beq_iff_eq] at h;exact h.1
theorem Pq.YQ {a b:Ag}(h:Pq a b)(z:Shut b)(hk:k<a.steps.length)(hl:a.lost k=true):Pq (a.Af k JB) b:=by
 have hb:b.at_ k=JB (a.at_ k):=by
  rcases h.at_ k hk with e | e
  .exfalso
   have hn:=z k (by rw[h.len];exact hk)
   have:b.lost k=true:=by
    unfold Ag.lost at hl ⊢;rw[e,h.fl];simp only[QCg,List.any_eq_true] at hl ⊢;obtain⟨u,x,y,m⟩:=hl;refine⟨u,x,y,?_⟩;by_cases s:(a.fl.af k x).toNat<a.steps.length
    .rcases h.at_ _ s with q | ⟨q,_⟩
     .rw[q];exact m
     .rw[q] at m;simp at m
    .rw[h.o s];exact m
   rw[hn] at this
   cases this
  .exact e.2
 refine⟨?_,by rw[Zal];exact h.len,fun j r=> ?_⟩
 .have:=h.one
  cases a;cases b
  simp[Ag.Af] at this ⊢;exact this
 .rw[Zal] at r
  by_cases e:k=j
  .subst e;rw[Za7 a _ hk];exact Zu hb
  .rw[Zbj a _ e];exact h.at_ j r
theorem Es.le {a b c:Ag}(h:Es a c)(g:Pq a b)(o:Shut b):Pq c b:=by
 induction h with
 | refl=>exact g
 | step r r2 k e m _ q=>exact q (g.YQ o e m)
theorem Es.leS {a b:Ag}(h:Es a b):Pq a b:=by
 induction h with
 | refl=>exact .refl _
 | step r r2 k q s _ o =>
  refine⟨?_,by rw[o.len,Zal],fun j x=> ?_⟩
  .have:=o.one
   cases r;cases r2
   simp[Ag.Af] at this ⊢;exact this
  .have:=o.at_ j (by rw[Zal];exact x)
   by_cases e:k=j
   .subst e
    rw[Za7 r _ q] at this;have u:=EU s;rcases this with m | ⟨m,_⟩
    .exact Zj ⟨u,m⟩
    .simp[JB] at m
   .rw[Zbj r _ e] at this;exact this
theorem Pq.eq {a b:Ag}(h:Pq a b)(g:Pq b a):a=b:=by
 have u:a.steps=b.steps:=by
  apply QCy (by rw[h.len])
  intro k m q;have s:a.at_ k=a.steps[k]:=by unfold Ag.at_;rw[ZQ,ZZ m];rfl
  have hb:b.at_ k=b.steps[k]:=by unfold Ag.at_;rw[ZQ,ZZ q];rfl
  rw[<-s,<-hb];rcases h.at_ k m with e | ⟨x,r⟩
  .exact e.symm
  .rcases g.at_ k q with e | ⟨o,_⟩
   .exact e
   .rw[r] at o;simp[JB] at o
 have m:=h.one;rw[u] at m;exact m.symm
theorem Es.uniq {r a b:Ag}(h:Es r a)(g:Es r b)(e:Shut a)(hb:Shut b):a=b :=
 (h.le g.leS hb).eq (g.le h.leS e)
def Ag.wait (r:Ag):Nat:=r.steps.countP (fun s=>s.st == 1)
theorem FK {p:AO->Bool}{f:AO->AO}:∀(l:List AO) (k:Nat),k<l.length->p (l.getD k .z)=true->p (f (l.getD k .z))=false->(l.modify k f).countP p+1=l.countP p
 | [],k,h,_,_=>by simp at h
 | s::l,0,_,h1,h2=>by
  simp only[List.getD_cons_zero] at h1 h2;rw[List.modify_zero_cons,List.countP_cons_of_neg (by simp[h2]),List.countP_cons_of_pos (by simp[h1])]
 | s::l,k+1,h,h1,h2=>by
  simp only[List.getD_cons_succ] at h1 h2;have:=FK l k (by simpa using h) h1 h2;rw[List.modify_succ_cons,QCo,QCo];omega
theorem Iy {r:Ag}(hk:k<r.steps.length)(hl:r.lost k=true):(r.Af k JB).wait+1=r.wait:=by
 have h:=EU hl;exact FK (p:=fun s=>s.st == 1) (f:=JB) r.steps k hk (by show (r.at_ k).st == 1;rw[h];rfl) rfl
theorem Es.ZG {a b:Ag}(h:Es a b):b.wait<=a.wait:=by
 induction h with
 | refl=>exact Zx _
 | step r r2 k e m _ o=>have:=Iy e m;omega
theorem Gp:∀(L:List Nat) (r:Ag),(∀k∈L,k<r.steps.length) ->
  Es r (L.foldl (fun r k=>if r.lost k then r.Af k JB else r) r)/\((∀k∈L,r.lost k=false)\/(L.foldl (fun r k=>if r.lost k then r.Af k JB else r) r).wait<r.wait)
 | [],r,_=>⟨.refl _,Zu (fun k h=>by cases h)⟩
 | k::L,r,hl=>by
  have hk:=hl k (QDa ..);rw[QDe]
  cases hf:r.lost k with
  | false =>
   obtain⟨o,m⟩:=Gp L r (fun k h=>hl k (QDg _ h));refine⟨o,?_⟩;rcases m with m | m
   .exact Zu (fun j q=>by
     rcases List.mem_cons.1 q with e | e
     .subst e;exact hf
     .exact m j e)
   .exact Zj m
  | true =>
   obtain⟨o,_⟩:=Gp L (r.Af k JB) (fun k h=>by rw[Zal];exact hl k (QDg _ h));have hw:=Iy hk hf;have:=o.ZG;refine⟨.step r _ k hk hf o,Zj ?_⟩;show (L.foldl _ (r.Af k JB)).wait<r.wait;omega
theorem Nr (r:Ag):r.Cm=(QAr r.steps.length).foldl (fun r k=>if r.lost k then r.Af k JB else r) r:=rfl
theorem WC (r:Ag):Es r r.Cm/\(Shut r\/r.Cm.wait<r.wait):=by
 obtain⟨e,m⟩:=Gp (QAr r.steps.length) r (fun k h=>List.mem_range.1 h);rw[<-Nr] at e m;refine⟨e,m.imp (fun h k hk=>h k (List.mem_range.2 hk)) id⟩
theorem Mi {r a:Ag}(h:Shut r)(g:Es r a):a=r:=by
 cases g with
 | refl=>rfl
 | step _ _ k m e _=>rw[h k m] at e;cases e
theorem KM:∀(m:Nat) (r:Ag),Es r (Ag.BN m r)/\(Shut (Ag.BN m r)\/(Ag.BN m r).wait+m<=r.wait)
 | 0,r=>⟨.refl r,Zj ZU⟩
 | m+1,r=>by
  obtain⟨o,h⟩:=WC r;obtain⟨g1,g2⟩:=KM m r.Cm;refine⟨o.trans g1,?_⟩;rcases h with h | h
  .have e:r.Cm=r:=Mi h o
   left
   show Shut (Ag.BN m r.Cm);rw[e]
   have:Ag.BN m r=r:=by
    have:=(KM m r).1;exact Mi h this
   rw[this];exact h
  .rcases g2 with g2 | g2
   .exact Zu g2
   .right
    show (Ag.BN m r.Cm).wait+(m+1)<=r.wait;omega
theorem QU (r:Ag):r.wait<=r.steps.length:=List.countP_le_length
theorem TS {r:Ag}(h:r.wait=0):Shut r:=fun k hk=>by
 cases e:r.lost k with
 | false=>rfl
 | true =>
  have m:=Iy hk e;omega
theorem Zed (r:Ag):Es r (Ag.BN r.steps.length r)/\Shut (Ag.BN r.steps.length r):=by
 obtain⟨h,e⟩:=KM r.steps.length r;refine⟨h,?_⟩;rcases e with e | e
 .exact e
 .have:=QU r
  exact TS (by omega)
def Ab.kindOf (e:Ab)(d:CL):Int :=
 match d.k with
 | none=>0
 | some k=>if d.sign then 2 else if ((e.at_ d.i).at_ k).st=4 then 3 else 1
def EV:Option Nat->Int
 | none=> -1
 | some k=>k
def Ab.DT (e:Ab)(d:CL):Tm:=⟨Bc (e.at_ d.i).id (EV d.k) (e.kindOf d),d.tm,d.sq⟩
structure Bf (e:Ab)(l:List Tm):Prop where
 rising:Bo l
 all:∀d∈e.AS,e.DT d∈l
 mem:∀t∈l,∃d∈e.AS,t=e.DT d
theorem Ga (h:CB l k=none):k=0:=by
 cases k with
 | zero=>rfl
 | succ k =>
  unfold CB at h
  cases e:CB l k with
  | none=>rw[e] at h;cases h
  | some b=>rw[e] at h;simp only at h;split at h<;>cases h
theorem Gb :∀{k b:Nat},CB l k=some b->b<k/\∀j,j<k->¬(l.getD j .z).lt (l.getD b .z):=by
 intro k
 induction k with
 | zero=>intro b h;cases h
 | succ k r =>
  intro b h;unfold CB at h
  cases e:CB l k with
  | none =>
   rw[e] at h;obtain rfl:k=b:=by simpa using h
   have:=Ga e;subst this;refine⟨by omega,fun j q=> ?_⟩;obtain rfl:j=0:=by omega
   unfold CL.lt;omega
  | some c =>
   rw[e] at h;obtain⟨s,o⟩:=r e;by_cases m:(l.getD k .z).lt (l.getD c .z)
   .simp only[if_pos m,QCf] at h
    subst h;refine⟨by omega,fun j q=> ?_⟩;by_cases hk:j=k
    .subst hk;unfold CL.lt;omega
    .have:=o j (by omega)
     unfold CL.lt at this m ⊢;omega
   .simp only[if_neg m,QCf] at h
    subst h;refine⟨by omega,fun j q=> ?_⟩;by_cases hk:j=k
    .subst hk;exact m
    .exact o j (by omega)
theorem Zbz {α:Type}{z:α}{l:List α}(h:i<l.length):l.getD i z∈l:=by
 rw[ZQ,ZZ h];exact List.getElem_mem h
theorem Zb8 {α:Type}{z:α}{l:List α}{t:α}(h:t∈l):∃i,i<l.length/\l.getD i z=t:=by
 obtain⟨i,hi,e⟩:=List.getElem_of_mem h;exact⟨i,hi,by rw[ZQ,ZZ hi];exact e⟩
theorem Bf.best {e:Ab}{l:List Tm}(h:Bf e l)(hb:EJ l l.length=some b):∃c,CB e.AS e.AS.length=some c/\e.DT (e.AS.getD c .z)=l.getD b .z:=by
 obtain⟨u,y,A⟩:=JG hb;obtain⟨d,C,q⟩:=h.mem _ (Zbz (z:=Tm.z) u);obtain⟨x,D,ex⟩:=Zb8 (z:=CL.z) C
 cases r:CB e.AS e.AS.length with
 | none=>have:=Ga r;omega
 | some c =>
  obtain⟨c1,c2⟩:=Gb r;obtain⟨j,s,m⟩:=Zb8 (z:=Tm.z) (h.all _ (Zbz (z:=CL.z) c1));have q1:=c2 x D;rw[ex] at q1;have J:=y j s;have E:(l.getD b .z).tm=d.tm:=by rw[q];rfl
  have G:(l.getD b .z).sq=d.sq:=by rw[q];rfl
  have H:(l.getD j .z).tm=(e.AS.getD c .z).tm:=by rw[m];rfl
  have I:(l.getD j .z).sq=(e.AS.getD c .z).sq:=by rw[m];rfl
  have o:j=b:=by
   rcases QDl j b with g | g | g
   .have:=A j g
    unfold CL.lt at q1;omega
   .exact g
   .have:=h.rising b j g s
    unfold CL.lt at q1;omega
  exact⟨c,rfl,by rw[<-m,o]⟩
theorem Bf.none {e:Ab}{l:List Tm}(h:Bf e l)(hb:EJ l l.length=none):CB e.AS e.AS.length=none:=by
 have o:=FZ hb
 cases m:CB e.AS e.AS.length with
 | none=>rfl
 | some c =>
  obtain⟨j,q,_⟩:=Zb8 (z:=Tm.z) (h.all _ (Zbz (z:=CL.z) (Gb m).1));omega
structure Hr (F:Ad)(k:Nat)(time timers tok:Int)(s:AO):Prop where
 st1:1<=s.st
 st2:s.st<=7
 tr0:0<=s.tries
 Xv:s.tries<=F.bu k
 wait:s.st=1->s.tries=0
 more:s.st=2\/s.st=4->s.tries<F.bu k
 once:s.st=3\/s.st=4->1<=s.tries
 dead:s.st=6->s.tries=F.bu k
 tok0:0<=s.tok
 tokB:s.tok<=tok
 fin0:0<=s.fin
 finB:s.fin<=4611686018427387904
 sign0:0<=s.sign
 signB:s.sign<=4611686018427387904
 SE:s.st=3\/s.st=4->time<=s.fin
 KJ:s.st=3->0<s.sign->time<=s.sign
 AY:s.st=3->(0<s.sign↔0<F.be k)
 UO:0<=s.BM
 faB:s.BM<=timers
 sa0:0<=s.Bg
 saB:s.Bg<=timers
theorem Hr.mono {time timers tok e m:Int}{s:AO}(h:Hr F k time timers tok s)(o:timers<=e)(q:tok<=m):Hr F k time e m s :=
 { h with tokB:=QCl h.tokB q,faB:=QCl h.faB o,saB:=QCl h.saB o }
structure Lq (time timers tok ends:Int)(r:Ag):Prop where
 fl:BW r.fl
 len:r.steps.length=r.fl.n
 st1:1<=r.st
 st2:r.st<=5
 goes:r.st=1↔r.ended=0
 Xs:0<=r.ended
 enB:r.ended<=ends
 till0:0<=r.CW
 WY:r.CW<=4611686018427387904
 WZ:r.st=1->time<=r.CW
 ta0:0<=r.Cz
 taB:r.Cz<=timers
 steps:∀k,k<r.steps.length->Hr r.fl k time timers tok (r.at_ k)
 over:r.st≠1->∀k,k<r.steps.length->(r.at_ k).st=5\/(r.at_ k).st=6\/(r.at_ k).st=7
theorem Lq.mono {time timers tok ends e o m:Int}{r:Ag}(h:Lq time timers tok ends r)(q:timers<=e)(s:tok<=o)(u:ends<=m):Lq time e o m r :=
 { h with enB:=QCl h.enB u,taB:=QCl h.taB q,steps:=fun k hk=>(h.steps k hk).mono q s }
theorem Lq.IS {time timers tok ends:Int}{r:Ag}(h:Lq time timers tok ends r):1<=r.steps.length/\r.steps.length<=12:=by
 rw[h.len];exact⟨h.fl.top.n1,h.fl.top.n2⟩
def QIn (e:Ab)(p:Ba):Prop:=∃i,i<e.runs.length/\(e.at_ i).id=p.run/\p.node<(e.at_ i).steps.length/\((e.at_ i).at_ p.node).st=2
structure Ao (e:Ab):Prop where
 t0:0<=e.time
 tB:e.time<=4611686018427387904
 tm0:0<=e.timers
 lr0:0<=e.Ah
 Xt:0<=e.Ai
 Xs:0<=e.ends
 WL:e.runs.length<=6
 up:∀i j,i<j->j<e.runs.length->(e.at_ i).id<(e.at_ j).id
 Uc:∀i,i<e.runs.length->1<=(e.at_ i).id
 Rr:∀i,i<e.runs.length->(e.at_ i).id<=e.Ah
 runs:∀i,i<e.runs.length->Lq e.time e.timers e.Ai e.ends (e.at_ i)
 qn:e.queue.Nodup
 qm:∀p,p∈e.queue↔QIn e p
 sq:∀a∈e.AS,∀b∈e.AS,a.sq=b.sq->a=b
 en:∀i j,i<e.runs.length->j<e.runs.length->0<(e.at_ i).ended->(e.at_ i).ended=(e.at_ j).ended->i=j
theorem Ao.Cy {e:Ab}(h:Ao e)(hi:i<e.runs.length)(m:j<e.runs.length)(heq:(e.at_ i).id=(e.at_ j).id):i=j:=by
 rcases QDl i j with g | g | g
 .have:=h.up i j g m;omega
 .exact g
 .have:=h.up j i g hi;omega
def AO.due (s:AO)(sign:Bool)(tm sq:Int):Prop:=if sign then s.st=3/\0<s.sign/\tm=s.sign/\sq=s.Bg else (s.st=3\/s.st=4)/\tm=s.fin/\sq=s.BM
def BV (e:Ab)(d:CL):Prop :=
 d.i<e.runs.length/\(e.at_ d.i).st=1/\match d.k with
  | none=>d.sign=false/\d.tm=(e.at_ d.i).CW/\d.sq=(e.at_ d.i).Cz
  | some k=>k<(e.at_ d.i).steps.length/\((e.at_ d.i).at_ k).due d.sign d.tm d.sq
theorem RM {s:AO}:d∈s.AS i k↔d.i=i/\d.k=some k/\s.due d.sign d.tm d.sq:=by
 unfold AO.AS AO.due;rw[QCn];constructor
 .rintro (h | h)
  .split at h
   .rename_i m
    rw[QDd] at h;subst h;exact⟨rfl,rfl,by simp only[QCh,if_false];exact⟨m,trivial,trivial⟩⟩
   .simp at h
  .split at h
   .rename_i m
    rw[QDd] at h;subst h;exact⟨rfl,rfl,by simp only[if_true];exact⟨m.1,m.2,trivial,trivial⟩⟩
   .simp at h
 .obtain⟨y,dk,u,A,z⟩:=d
  rintro⟨q,r,e⟩;simp only at q r;subst q r
  cases u with
  | false =>
   simp only[QCh,if_false] at e;obtain⟨o,rfl,rfl⟩:=e
   left;rw[if_pos o];simp
  | true =>
   simp only[if_true] at e;obtain⟨o,x,rfl,rfl⟩:=e
   right;rw[if_pos ⟨o,x⟩];simp
theorem Zas {e:Ab}:d∈e.AS↔BV e d:=by
 unfold Ab.AS BV;rw[List.mem_flatMap];constructor
 .rintro⟨i,hi,h⟩
  have hi:=List.mem_range.1 hi;unfold Ag.AS at h
  split at h
  .rename_i m
   rw[QDc] at h;rcases h with rfl | h
   .exact⟨hi,m,rfl,rfl,rfl⟩
   .obtain⟨k,hk,h⟩:=List.mem_flatMap.1 h
    obtain⟨o,q,h⟩:=RM.1 h;subst o;rw[q];exact⟨hi,m,List.mem_range.1 hk,h⟩
  .simp at h
 .rintro⟨hi,m,h⟩
  refine⟨d.i,List.mem_range.2 hi,?_⟩;unfold Ag.AS;rw[if_pos m,QDc]
  cases hk:d.k with
  | none =>
   rw[hk] at h
   left
   obtain⟨r,dk,u,x,s⟩:=d;simp only at hk h ⊢;subst hk;obtain⟨rfl,rfl,rfl⟩:=h
   rfl
  | some k =>
   rw[hk] at h
   right
   exact List.mem_flatMap.2 ⟨k,List.mem_range.2 h.1,RM.2 ⟨rfl,hk,h.2⟩⟩
theorem Ao.Cr {e:Ab}(h:Ao e)(o:BV e d):d.sq<=e.timers/\e.time<=d.tm/\d.tm<=4611686018427387904:=by
 obtain⟨hi,z,o⟩:=o;have r:=h.runs _ hi
 cases hk:d.k with
 | none =>
  rw[hk] at o;obtain⟨_,s,m⟩:=o;rw[s,m];exact⟨r.taB,r.WZ z,r.WY⟩
 | some k =>
  rw[hk] at o;obtain⟨s,m⟩:=o;have q:=r.steps k s;unfold AO.due at m
  split at m
  .obtain⟨u,A,x,y⟩:=m
   rw[x,y];exact⟨q.saB,q.KJ u A,q.signB⟩
  .obtain⟨u,x,y⟩:=m
   rw[x,y];exact⟨q.faB,q.SE u,q.finB⟩
theorem Zbf {e e':Ab}{f:AO->AO}(m:e'.runs=(e.Af i k f).runs)(h:j<e.runs.length):e'.at_ j=if i=j then (e.at_ j).Af k f else e.at_ j:=by
 have:=Zbr e i j (fun r=>r.Af k f) h;unfold Ab.at_ at this ⊢;rw[m];exact this
theorem Za9 {e e':Ab}{f:AO->AO}(h:e'.runs=(e.Af i k f).runs):e'.runs.length=e.runs.length:=by
 rw[h];exact Zbk _ _ _
theorem Zcb {e e':Ab}{f:AO->AO}(m:e'.runs=(e.Af i k f).runs)(h:j<e.runs.length):(e'.at_ j).steps.length=(e.at_ j).steps.length:=by
 rw[Zbf m h];split
 .exact Zal _ _ _
 .rfl
theorem Zba {e e':Ab}{f:AO->AO}(m:e'.runs=(e.Af i k f).runs)(h:j<e.runs.length):(e'.at_ j).id=(e.at_ j).id/\(e'.at_ j).fl=(e.at_ j).fl/\(e'.at_ j).st=(e.at_ j).st/\(e'.at_ j).CW=(e.at_ j).CW/\(e'.at_ j).Cz=(e.at_ j).Cz/\(e'.at_ j).ended=(e.at_ j).ended:=by
 rw[Zbf m h];split<;>exact⟨rfl,rfl,rfl,rfl,rfl,rfl⟩
theorem Zek {e e':Ab}{f:AO->AO}(q:e'.runs=(e.Af i k f).runs)(hk:k<(e.at_ i).steps.length){m:Nat}(o:j<e.runs.length)(hm:m<(e.at_ j).steps.length) :
  (e'.at_ j).at_ m=if i=j/\k=m then f ((e.at_ i).at_ k) else (e.at_ j).at_ m:=by
 rw[Zbf q o];by_cases h:i=j
 .subst h
  rw[if_pos rfl];by_cases g:k=m
  .subst g;rw[if_pos ⟨rfl,rfl⟩];exact Za7 _ _ hk
  .rw[if_neg (fun x=>g x.2)];exact Zbj _ _ g
 .rw[if_neg h,if_neg (fun x=>h x.1)]
theorem QIn.step {e e':Ab}{f:AO->AO}(h:Ao e)(q:e'.runs=(e.Af i k f).runs)(hi:i<e.runs.length)(hk:k<(e.at_ i).steps.length)(p:Ba) :
  QIn e' p↔(p=⟨(e.at_ i).id,k⟩/\(f ((e.at_ i).at_ k)).st=2)\/(p≠⟨(e.at_ i).id,k⟩/\QIn e p):=by
 have hl:=Za9 q;constructor
 .rintro⟨j,m,o,s,r⟩
  rw[hl] at m;rw[Zcb q m] at s;rw[(Zba q m).1] at o;rw[Zek q hk m s] at r;by_cases u:i=j/\k=p.node
  .rw[if_pos u] at r
   left
   refine⟨?_,r⟩;obtain⟨y,x⟩:=p;simp only at o u;obtain⟨rfl,rfl⟩:=u;rw[o]
  .rw[if_neg u] at r
   right
   refine⟨fun hp=>u ?_,j,m,o,s,r⟩;subst hp;exact⟨h.Cy hi m o.symm,rfl⟩
 .rintro (⟨rfl,o⟩ | ⟨hp,j,m,o,s,r⟩)
  .refine⟨i,by rw[hl];exact hi,(Zba q hi).1,by rw[Zcb q hi];exact hk,?_⟩
   rw[Zek q hk hi hk,if_pos ⟨rfl,rfl⟩];exact o
  .refine⟨j,by rw[hl];exact m,by rw[(Zba q m).1];exact o,by rw[Zcb q m];exact s,?_⟩
   rw[Zek q hk m s,if_neg]
   .exact r
   .rintro⟨rfl,rfl⟩
    exact hp (by obtain⟨y,x⟩:=p;simp only at o ⊢;rw[o])
theorem BV.step {e e':Ab}{f:AO->AO}(x:e'.runs=(e.Af i k f).runs)(hk:k<(e.at_ i).steps.length)(A:BV e' d) :
  (d.i=i/\d.k=some k/\(e.at_ i).st=1/\(f ((e.at_ i).at_ k)).due d.sign d.tm d.sq)\/(¬(d.i=i/\d.k=some k)/\BV e d):=by
 obtain⟨q,s,h⟩:=A;rw[Za9 x] at q;have y:=Zba x q;rw[y.2.2.1] at s
 cases o:d.k with
 | none =>
  rw[o] at h
  right
  refine⟨by simp,q,s,?_⟩;rw[o];rw[y.2.2.2.1,y.2.2.2.2.1] at h;exact h
 | some m =>
  rw[o] at h;simp only at h;rw[Zcb x q] at h;rw[Zek x hk q h.1] at h;by_cases u:i=d.i/\k=m
  .rw[if_pos u] at h
   obtain⟨r,rfl⟩:=u
   left
   exact⟨r.symm,rfl,by rw[r];exact s,h.2⟩
  .rw[if_neg u] at h
   right
   refine⟨fun z=>u ⟨z.1.symm,by simpa using z.2.symm⟩,q,s,?_⟩;rw[o];exact h
theorem Ao.step {e e':Ab}(h:Ao e)(hi:i<e.runs.length)(hk:k<(e.at_ i).steps.length){f:AO->AO}(u:e'.runs=(e.Af i k f).runs)
  (ht:e'.time=e.time) (htm:e.timers<=e'.timers) (htok:e.Ai<=e'.Ai) (hen:e'.ends=e.ends) (hlr:e'.Ah=e.Ah)
  (hs:Hr (e.at_ i).fl k e.time e'.timers e'.Ai (f ((e.at_ i).at_ k)))
  (hov:(e.at_ i).st≠1->(f ((e.at_ i).at_ k)).st=5\/(f ((e.at_ i).at_ k)).st=6\/(f ((e.at_ i).at_ k)).st=7)
  (hqn:e'.queue.Nodup) (hqm:∀p,p∈e'.queue↔(p=⟨(e.at_ i).id,k⟩/\(f ((e.at_ i).at_ k)).st=2)\/(p≠⟨(e.at_ i).id,k⟩/\p∈e.queue))
  (hd:∀b tm sq,(f ((e.at_ i).at_ k)).due b tm sq->((e.at_ i).at_ k).due b tm sq\/e.timers<sq)
  (hd2:∀tm sq I A,(f ((e.at_ i).at_ k)).due false tm sq->(f ((e.at_ i).at_ k)).due true I A->sq≠A):Ao e':=by
 have hl:=Za9 u;have same:=fun j M=>Zba (e:=e) (e':=e') u (j:=j) M;refine⟨by rw[ht];exact h.t0,by rw[ht];exact h.tB,QCl h.tm0 htm,by rw[hlr];exact h.lr0,QCl h.Xt htok,by rw[hen];exact h.Xs,by rw[hl];exact h.WL,?_,?_,?_,?_,hqn,?_,?_,?_⟩
 .intro a b r hb
  rw[hl] at hb;rw[(same a (by omega)).1,(same b hb).1];exact h.up a b r hb
 .intro a q
  rw[hl] at q;rw[(same a q).1];exact h.Uc a q
 .intro a q
  rw[hl] at q;rw[(same a q).1,hlr];exact h.Rr a q
 .intro a q
  rw[hl] at q;obtain⟨s1,s2,s3,G,K,H⟩:=same a q;have o:=(h.runs a q).mono htm htok (QCm e.ends);rw[ht,hen]
  refine⟨by rw[s2];exact o.fl,by rw[s2,Zcb u q];exact o.len,by rw[s3];exact o.st1,by rw[s3];exact o.st2,by rw[s3,H];exact o.goes,by rw[H];exact o.Xs,by rw[H];exact o.enB,
   by rw[G];exact o.till0,by rw[G];exact o.WY,by rw[s3,G];exact o.WZ,by rw[K];exact o.ta0,by rw[K];exact o.taB,?_,?_⟩
  .intro m hm
   rw[Zcb u q] at hm;rw[Zek u hk q hm,s2];by_cases z:i=a/\k=m
   .rw[if_pos z]
    obtain⟨rfl,rfl⟩:=z;exact hs
   .rw[if_neg z];exact o.steps m hm
  .intro E m hm
   rw[s3] at E;rw[Zcb u q] at hm;rw[Zek u hk q hm];by_cases z:i=a/\k=m
   .rw[if_pos z]
    obtain⟨rfl,rfl⟩:=z;exact hov E
   .rw[if_neg z];exact o.over E m hm
 .intro p
  rw[hqm p,QIn.step h u hi hk p,h.qm p]
 .intro a q b hb r
  rw[Zas] at q hb
  have key:∀{x:CL},x.i=i->x.k=some k->(e.at_ i).st=1->(f ((e.at_ i).at_ k)).due x.sign x.tm x.sq->BV e x\/e.timers<x.sq:=by
   intro x x1 x2 x3 N;rcases hd _ _ _ N with J | J
   .left
    refine⟨by rw[x1];exact hi,by rw[x1];exact x3,?_⟩;rw[x2,x1];exact⟨hk,J⟩
   .exact Zj J
  rcases BV.step u hk q with⟨a1,a2,a3,a4⟩ | ⟨a0,a1⟩<;>rcases BV.step u hk hb with⟨y,D,L,s⟩ | ⟨R,y⟩
  .obtain⟨O,P,C,at',Q⟩:=a
   obtain⟨bi,S,bs,U,T⟩:=b;simp only at a1 a2 a4 y D s r;subst a1 a2 y D r
   cases C<;>cases bs
   .unfold AO.due at a4 s
    simp only[QCh,if_false] at a4 s;rw[a4.2.1,s.2.1]
   .exact absurd rfl (hd2 _ _ _ _ a4 s)
   .exact absurd rfl (hd2 _ _ _ _ s a4)
   .unfold AO.due at a4 s
    simp only[if_true] at a4 s;rw[a4.2.2.1,s.2.2.1]
  .rcases key a1 a2 a3 a4 with x | x
   .exact h.sq a (Zas.2 x) b (Zas.2 y) r
   .have:=(h.Cr y).1;omega
  .rcases key y D L s with x | x
   .exact h.sq a (Zas.2 a1) b (Zas.2 x) r
   .have:=(h.Cr a1).1;omega
  .exact h.sq a (Zas.2 a1) b (Zas.2 y) r
 .intro a b q hb
  rw[hl] at q hb;rw[(same a q).2.2.2.2.2,(same b hb).2.2.2.2.2];exact h.en a b q hb
theorem Ao.notin {e:Ab}(h:Ao e)(hi:i<e.runs.length)(m:((e.at_ i).at_ k).st≠2):(⟨(e.at_ i).id,k⟩:Ba) ∉ e.queue:=by
 intro hp;obtain⟨j,o,q,_,r⟩:=(h.qm _).1 hp;have:=h.Cy o hi q;subst this;exact m r
theorem Ao.calm {e e':Ab}(h:Ao e)(hi:i<e.runs.length)(hk:k<(e.at_ i).steps.length){f:AO->AO}(q:e'.runs=(e.Af i k f).runs)
  (ht:e'.time=e.time) (htm:e.timers<=e'.timers) (htok:e.Ai<=e'.Ai) (hen:e'.ends=e.ends) (hlr:e'.Ah=e.Ah)
  (hs:Hr (e.at_ i).fl k e.time e'.timers e'.Ai (f ((e.at_ i).at_ k)))
  (hov:(e.at_ i).st≠1->(f ((e.at_ i).at_ k)).st=5\/(f ((e.at_ i).at_ k)).st=6\/(f ((e.at_ i).at_ k)).st=7)
  (h2:((e.at_ i).at_ k).st≠2) (h3:(f ((e.at_ i).at_ k)).st≠2) (hq:e'.queue=e.queue)
  (hd:∀b tm sq,(f ((e.at_ i).at_ k)).due b tm sq->((e.at_ i).at_ k).due b tm sq\/e.timers<sq)
  (hd2:∀tm sq o m,(f ((e.at_ i).at_ k)).due false tm sq->(f ((e.at_ i).at_ k)).due true o m->sq≠m):Ao e':=by
 have hn:=h.notin hi h2;refine h.step hi hk q ht htm htok hen hlr hs hov (by rw[hq];exact h.qn) (fun p=> ?_) hd hd2;rw[hq];constructor
 .intro hp
  exact Zj ⟨fun x=>hn (x▸hp),hp⟩
 .rintro (⟨_,x⟩ | ⟨_,x⟩)
  .exact absurd x h3
  .exact x
theorem GY {s:AO}(e:s.st≠3)(m:s.st≠4){b:Bool}{tm sq:Int}:¬s.due b tm sq:=by
 unfold AO.due;intro h
 split at h
 .exact e h.1
 .rcases h.1 with x | x
  .exact e x
  .exact m x
structure FF (e e':Ab)(i:Nat):Prop where
 time:e'.time=e.time
 Ar:e'.Ar=e.Ar
 Ah:e'.Ah=e.Ah
 Ai:e'.Ai=e.Ai
 timers:e'.timers=e.timers
 ends:e'.ends=e.ends
 len:e'.runs.length=e.runs.length
 others:∀j,j<e.runs.length->j≠i->e'.at_ j=e.at_ j
 id:(e'.at_ i).id=(e.at_ i).id
 fl:(e'.at_ i).fl=(e.at_ i).fl
 st:(e'.at_ i).st=(e.at_ i).st
 steps:(e'.at_ i).steps.length=(e.at_ i).steps.length
theorem FF.refl (e:Ab)(i:Nat):FF e e i:=⟨rfl,rfl,rfl,rfl,rfl,rfl,rfl,fun _ _ _=>rfl,rfl,rfl,rfl,rfl⟩
theorem FF.trans {a b c:Ab}(h:FF a b i)(g:FF b c i):FF a c i :=
 ⟨g.time.trans h.time,g.Ar.trans h.Ar,g.Ah.trans h.Ah,g.Ai.trans h.Ai,g.timers.trans h.timers,g.ends.trans h.ends,g.len.trans h.len,
  fun j e hn=>(g.others j (by rw[h.len];exact e) hn).trans (h.others j e hn),g.id.trans h.id,g.fl.trans h.fl,g.st.trans h.st,g.steps.trans h.steps⟩
theorem FF.Af (e:Ab)(k:Nat)(f:AO->AO)(q:List Ba)(hi:i<e.runs.length):FF e { e.Af i k f with queue:=q } i:=by
 have h:({ e.Af i k f with queue:=q }:Ab).runs=(e.Af i k f).runs:=rfl;obtain⟨s1,s2,s3,_,_,_⟩:=Zba h hi;refine⟨rfl,rfl,rfl,rfl,rfl,rfl,Za9 h,fun j m hn=> ?_,s1,s2,s3,Zcb h hi⟩;rw[Zbf h m,if_neg (fun x=>hn x.symm)]
theorem Ao.ready {e:Ab}(h:Ao e)(hi:i<e.runs.length)(hk:k<(e.at_ i).steps.length)(r:(e.at_ i).st=1)(z:((e.at_ i).at_ k).st=1\/((e.at_ i).at_ k).st=4):Ao (e.ready i k):=by
 have hn:=h.notin hi (k:=k) (by omega);have m:=(h.runs i hi).steps k hk;have hb:=(h.runs i hi).fl.node k (by rw[<-(h.runs i hi).len];exact hk);refine h.step hi hk (f:=fun s=>{ s with st:=2 }) rfl rfl (QCm _) (QCm _) rfl rfl ?_ (fun x=>absurd r x) ?_ ?_ (fun b tm sq x=>absurd x (GY (by simp) (by simp))) (fun _ _ _ _ x=>absurd x (GY (by simp) (by simp)))
 .refine { m with st1:=by simp,st2:=by simp,wait:=fun x=>by simp at x,more:=fun _=> ?_,once:=fun x=>by simp at x,dead:=fun x=>by simp at x,SE:=fun x=>by simp at x,KJ:=fun x=>by simp at x,AY:=fun x=>by simp at x }
  show ((e.at_ i).at_ k).tries<_;rcases z with x | x
  .have:=m.wait x;have:=hb.bu1;omega
  .exact m.more (Zj x)
 .show (e.queue++_).Nodup
  rw[List.nodup_append];refine⟨h.qn,by simp,?_⟩;intro a u b o q;simp only[QDd] at o;subst o q;exact hn u
 .intro p
  show p∈e.queue++_↔_;rw[QCn,QDd];constructor
  .rintro (x | x)
   .exact Zj ⟨fun y=>hn (y▸x),x⟩
   .exact Zu ⟨x,rfl⟩
  .rintro (⟨x,_⟩ | ⟨_,x⟩)
   .exact Zj x
   .exact Zu x
theorem FF.ready (e:Ab)(k:Nat)(hi:i<e.runs.length):FF e (e.ready i k) i:=FF.Af e k _ _ hi
theorem Iz (i:Nat):∀(L:List Nat) (e:Ab),Ao e->i<e.runs.length->(e.at_ i).st=1->(∀k∈L,k<(e.at_ i).steps.length) ->
  Ao (L.foldl (fun e k=>if (e.at_ i).free k then e.ready i k else e) e)/\FF e (L.foldl (fun e k=>if (e.at_ i).free k then e.ready i k else e) e) i
 | [],e,h,_,_,_=>⟨h,.refl e i⟩
 | k::L,e,h,hi,h1,hl=>by
  rw[QDe];have hk:=hl k (QDa ..)
  cases hf:(e.at_ i).free k with
  | false =>
   rw[if_neg (by simp)];exact Iz i L e h hi h1 (fun k h=>hl k (QDg _ h))
  | true =>
   rw[if_pos rfl];have m:=FF.ready e k hi;obtain⟨g1,g2⟩:=Iz i L (e.ready i k) (h.ready hi hk h1 (Zu (EO hf))) (by rw[m.len];exact hi) (by rw[m.st];exact h1) (fun k h=>by rw[m.steps];exact hl k (QDg _ h));exact⟨g1,m.trans g2⟩
theorem Ao.Bm {e:Ab}(h:Ao e)(hi:i<e.runs.length)(m:(e.at_ i).st=1):Ao (e.Bm i)/\FF e (e.Bm i) i :=
 Iz i _ e h hi m (fun _ hk=>List.mem_range.1 hk)
theorem Hp (i:Nat):∀(L:List Nat) (e:Ab),i<e.runs.length->(∀k∈L,k<(e.at_ i).steps.length)->∀m,m<(e.at_ i).steps.length ->
  let o:=L.foldl (fun e k=>e.ready i k) e
  (o.at_ i).at_ m=if m∈L then { (e.at_ i).at_ m with st:=2 } else (e.at_ i).at_ m
 | [],e,_,_,m,_=>by simp
 | k::L,e,hi,hl,m,hm=>by
  have h:=FF.ready e k hi;have r:=Hp i L (e.ready i k) (by rw[h.len];exact hi) (fun x s=>by rw[h.steps];exact hl x (QDg _ s)) m (by rw[h.steps];exact hm);simp only[QDe] at r ⊢;rw[r,DO e i k hi];by_cases q:k=m
  .subst q
   rw[Za7 _ _ hm];simp
  .rw[Zbj _ _ q]
   have:m∈k::L↔m∈L:=by rw[QDc];exact⟨fun x=>x.resolve_left (fun y=>q y.symm),Zj⟩
   by_cases o:m∈L
   .rw[if_pos o,if_pos (this.2 o)]
   .rw[if_neg o,if_neg (fun x=>o (this.1 x))]
theorem Hn {e:Ab}(hi:i<e.runs.length){m:Nat}(hm:m<(e.at_ i).steps.length) :
  ((e.Bm i).at_ i).at_ m=if (e.at_ i).free m then { (e.at_ i).at_ m with st:=2 } else (e.at_ i).at_ m:=by
 rw[JE e i hi];have:=Hp i ((QAr (e.at_ i).steps.length).filter (fun k=>(e.at_ i).free k)) e hi (fun k hk=>List.mem_range.1 (List.mem_filter.1 hk).1) m hm;simp only at this;rw[this];by_cases hf:(e.at_ i).free m=true
 .rw[if_pos (List.mem_filter.2 ⟨List.mem_range.2 hm,hf⟩),if_pos hf]
 .rw[if_neg (fun x=>hf (List.mem_filter.1 x).2),if_neg hf]
theorem Ao.over {e:Ab}(h:Ao e)(hi:i<e.runs.length)(hk:k<(e.at_ i).steps.length)(st:Int)(o:st=5\/st=6\/st=7)(q:((e.at_ i).at_ k).st≠2)(r:st=6->((e.at_ i).at_ k).tries=(e.at_ i).fl.bu k) :
  Ao (e.Af i k (fun s=>{ s with st:=st })):=by
 have m:=(h.runs i hi).steps k hk;refine h.calm hi hk (f:=fun s=>{ s with st:=st }) rfl rfl (QCm _) (QCm _) rfl rfl ?_ (fun _=>o) q (by show st≠2;omega) rfl (fun b tm sq x=>absurd x (GY (by show st≠3;omega) (by show st≠4;omega))) (fun _ _ _ _ x=>absurd x (GY (by show st≠3;omega) (by show st≠4;omega)));exact { m with st1:=by show 1<=st;omega,st2:=by show st<=7;omega,wait:=fun x=>by replace x:st=1:=x;omega,more:=fun x=>by replace x:st=2\/st=4:=x;omega,once:=fun x=>by replace x:st=3\/st=4:=x;omega,dead:=r,SE:=fun x=>by replace x:st=3\/st=4:=x;omega,KJ:=fun x=>by replace x:st=3:=x;omega,AY:=fun x=>by replace x:st=3:=x;omega }
theorem Qy {e:Ab}:e.AL i (fun _=>e.at_ i)=e:=by
 unfold Ab.AL Ab.at_
 have:e.runs.modify i (fun _=>e.runs.getD i .z)=e.runs:=by
  apply QCy (by simp)
  intro j o h;rw[QDb]
  split
  .rename_i m;subst m;rw[ZQ,ZZ h];rfl
  .rfl
 rw[this]
theorem Zen (e:Ab)(i:Nat)(f g:Ag->Ag):(e.AL i f).AL i g=e.AL i (fun r=>g (f r)):=by
 unfold Ab.AL;simp only[List.modify_modify_eq]
 rfl
theorem IV (e:Ab)(i:Nat)(f:Ag->Ag):e.AL i f=e.AL i (fun _=>f (e.at_ i)):=by
 unfold Ab.AL Ab.at_
 congr 1
 apply QCy (by simp)
 intro j h o;rw[QDb,QDb]
 split
 .rename_i m;subst m
  rw[ZQ,ZZ (by simpa using h)];rfl
 .rfl
theorem Es.wk {r r2:Ag}(h:Es r r2):∀{e:Ab} {i:Nat},Ao e->i<e.runs.length->e.at_ i=r->Ao (e.AL i (fun _=>r2)):=by
 induction h with
 | refl r=>intro e i h hi m;subst m;rw[Qy];exact h
 | step r r2 k q u _ x =>
  intro e i h hi m;subst m;have hw:=h.over hi q 7 (by omega) (by have:=EU u;omega) (by omega);have m:(e.Af i k (fun s=>{ s with st:=7 })).runs=(e.Af i k JB).runs:=rfl;have o:=Zbf (e':=e.Af i k (fun s=>{ s with st:=7 })) m hi;rw[if_pos rfl] at o;have:=x hw (by rw[Za9 m];exact hi) o;unfold Ab.Af at this;rw[Zen] at this;exact this
theorem Es.same {a b:Ag}(h:Es a b):b.id=a.id/\b.fl=a.fl/\b.st=a.st/\b.CW=a.CW/\b.Cz=a.Cz/\b.ended=a.ended:=by
 induction h with
 | refl=>exact⟨rfl,rfl,rfl,rfl,rfl,rfl⟩
 | step r r2 k _ _ _ e=>exact e
def Dz (s:AO):AO:=if s.st=5\/s.st=6 then s else { s with st:=7 }
def Zd6 (st ends:Int)(r:Ag):Ag:={ r with st:=st,ended:=ends+1,steps:=r.steps.map Dz }
theorem Zej (e:Ab)(i:Nat)(st:Int)(h:j<e.runs.length):(e.end_ i st).at_ j=if i=j then Zd6 st e.ends (e.at_ j) else e.at_ j:=Zbr e i j _ h
theorem Zea (e:Ab)(i:Nat)(st:Int):(e.end_ i st).runs.length=e.runs.length:=Zbk e i _
theorem Zca (st ends:Int)(r:Ag)(hk:k<r.steps.length):(Zd6 st ends r).at_ k=Dz (r.at_ k):=by
 unfold Ag.at_ Zd6;simp only[ZQ,List.getElem?_map,ZZ hk,Option.map_some,Option.getD_some]
theorem JJ (s:AO):(Dz s).st=5\/(Dz s).st=6\/(Dz s).st=7:=by
 unfold Dz;split
 .rename_i h;omega
 .exact Zj (Zj rfl)
theorem Zbg (st ends:Int)(r:Ag):(Zd6 st ends r).steps.length=r.steps.length:=by unfold Zd6;simp
theorem Ao.end_ {e:Ab}(h:Ao e)(hi:i<e.runs.length)(K:(e.at_ i).st=1)(st:Int)(I:2<=st/\st<=5):Ao (e.end_ i st):=by
 have hl:=Zea e i st;have q:=fun j E=>Zej e i st (j:=j) E;have H:=h.runs i hi;have N:=H.goes.1 K;have D:=h.Xs;have s:∀j,j<e.runs.length->((e.end_ i st).at_ j).id=(e.at_ j).id:=fun j E=>by rw[q j E];split<;>rfl
 refine⟨h.t0,h.tB,h.tm0,h.lr0,h.Xt,(by show 0<=e.ends+1;omega),by rw[hl];exact h.WL,?_,?_,?_,?_,h.qn.filter _,?_,?_,?_⟩
 .intro a b z hb
  rw[hl] at hb;rw[s a (by omega),s b hb];exact h.up a b z hb
 .intro a m
  rw[hl] at m;rw[s a m];exact h.Uc a m
 .intro a m
  rw[hl] at m;rw[s a m];exact h.Rr a m
 .intro a m
  rw[hl] at m;rw[q a m];have o:=(h.runs a m).mono (QCm e.timers) (QCm e.Ai) (show e.ends<=e.ends+1 by omega)
  split
  .rename_i O
   subst O;refine⟨o.fl,by rw[Zbg];exact o.len,by show 1<=st;omega,I.2,?_,by show 0<=e.ends+1;omega,QCm _,o.till0,o.WY,fun x=>by replace x:st=1:=x;omega,o.ta0,o.taB,?_,?_⟩
   .show st=1↔e.ends+1=0
    omega
   .intro k hk
    rw[Zbg] at hk;rw[Zca _ _ _ hk];have A:=o.steps k hk;unfold Dz
    split
    .exact A
    .exact { A with st1:=by simp,st2:=by simp,wait:=fun x=>by simp at x,more:=fun x=>by simp at x,once:=fun x=>by simp at x,dead:=fun x=>by simp at x,SE:=fun x=>by simp at x,KJ:=fun x=>by simp at x,AY:=fun x=>by simp at x }
   .intro _ k hk
    rw[Zbg] at hk;rw[Zca _ _ _ hk];exact JJ _
  .exact o
 .intro p
  show p∈e.queue.filter _↔_;rw[List.mem_filter,h.qm p];constructor
  .rintro⟨⟨j,q1,u,C,J⟩,P⟩
   have G:i≠j:=fun x=>by subst x;simp[u] at P
   refine⟨j,by rw[hl];exact q1,?_⟩;rw[q j q1,if_neg G];exact⟨u,C,J⟩
  .rintro⟨j,q1,u⟩
   rw[hl] at q1;rw[q j q1] at u;by_cases r:i=j
   .subst r
    rw[if_pos rfl] at u;obtain⟨_,C,J⟩:=u;rw[Zbg] at C;rw[Zca _ _ _ C] at J;have:=JJ ((e.at_ i).at_ p.node);omega
   .rw[if_neg r] at u
    refine⟨⟨j,q1,u⟩,?_⟩;have:p.run≠(e.at_ i).id:=fun x=>r (h.Cy hi q1 (by rw[u.1,x]))
    simpa using this
 .have key:∀d,BV (e.end_ i st) d->BV e d:=by
   rintro d ⟨d1,d2,d3⟩;rw[hl] at d1;rw[q _ d1] at d2 d3;by_cases r:i=d.i
   .rw[if_pos r] at d2
    replace d2:st=1:=d2
    omega
   .rw[if_neg r] at d2 d3
    exact⟨d1,d2,d3⟩
  intro a m b hb z;exact h.sq a (Zas.2 (key a (Zas.1 m))) b (Zas.2 (key b (Zas.1 hb))) z
 .intro a b m hb
  rw[hl] at m hb;rw[q a m,q b hb];have L:=(h.runs a m).enB;have M:=(h.runs b hb).enB;by_cases x:i=a<;>by_cases y:i=b
  .intros;omega
  .rw[if_pos x,if_neg y]
   show 0<e.ends+1->e.ends+1=_->_
   intros;omega
  .rw[if_neg x,if_pos y]
   show _->_=e.ends+1->_
   intros;omega
  .rw[if_neg x,if_neg y];exact h.en a b m hb
theorem ZH {r:Ag}{tok:Int}(hk:k<r.steps.length)(h:(r.at_ k).st=3/\(r.at_ k).tok=tok)(hn:∀j,j<k->¬((r.at_ j).st=3/\(r.at_ j).tok=tok)):r.work tok=some k:=by
 unfold Ag.work;rw[QCz];have e:∀j (m:j<r.steps.length),r.at_ j=r.steps[j]:=fun j m=>by unfold Ag.at_;rw[ZQ,ZZ m];rfl
 refine⟨hk,by rw[<-e k hk];simpa using h,fun j m=> ?_⟩;rw[<-e j (by omega)];simpa using hn j m
theorem RW {r:Ag}{tok:Int}(hn:∀j,j<r.steps.length->¬((r.at_ j).st=3/\(r.at_ j).tok=tok)):r.work tok=none:=by
 unfold Ag.work;rw[QCx];intro x m;obtain⟨j,h,e⟩:=Zb8 (z:=AO.z) m;have:=hn j h;unfold Ag.at_ at this;rw[e] at this;simpa using this
theorem ZA {e:Ab}{tok:Int}(hi:i<e.runs.length)(hw:(e.at_ i).work tok=some k)(hn:∀j,j<i->(e.at_ j).work tok=none):e.task tok=some (i,k):=by
 have o:∀j (m:j<e.runs.length),e.at_ j=e.runs[j]:=fun j m=>by unfold Ab.at_;rw[ZQ,ZZ m];rfl
 have h:e.runs.findIdx? (fun r=>(r.work tok).isSome)=some i:=by
  rw[QCz];refine⟨hi,by rw[<-o i hi,hw];rfl,fun j m=> ?_⟩;rw[<-o j (by omega),hn j m];simp
 unfold Ab.task;rw[h];show ((e.at_ i).work tok).bind _=_;rw[hw];rfl
theorem Nu {e:Ab}{tok:Int}(hn:∀j,j<e.runs.length->(e.at_ j).work tok=none):e.task tok=none:=by
 have h:e.runs.findIdx? (fun r=>(r.work tok).isSome)=none:=by
  rw[QCx];intro x q;obtain⟨j,o,m⟩:=Zb8 (z:=Ag.z) q;have:=hn j o;unfold Ab.at_ at this;rw[<-m,this];rfl
 unfold Ab.task;rw[h];rfl
open Go.RowKit
theorem Zdd (c n:Int)(w:World)(r: -9223372036854775808<=c)(o:c<=9223372036854775807)(hn:1<=n)(q:n<=9223372036854775807) :
  Calls prog 22 #[.int .i64 c,.int .i64 n] w fun e w'=>e=.returned (.int .i64 (Zem c n))/\w'=w:=by
 by_cases m:c<0
 .go_enter func22,ntmps22
  go_wp2
  go_ret
  exact⟨ri (by rw[Tq m,<-Int.neg_tmod,Int.tmod_eq_emod_of_nonneg (by omega)]),rfl⟩
 .go_enter func22,ntmps22
  go_wp2
  go_ret
  exact⟨ri (by rw[Tr (by omega)]),rfl⟩
structure Di (w:World)(a:Option Addr)(n cap:Nat)(f:Nat->Int):Prop where
 at':Cx w a n cap f
 lo:∀k,k<n-> -9223372036854775808<=f k
 hi:∀k,k<n->f k<=9223372036854775807
 len:n<=maxLen
theorem Di.Ak {cap:Nat}(h:Di w a n cap f)(hb:ZY w w'):Di w' a n cap f:=⟨h.at'.Ak hb,h.lo,h.hi,h.len⟩
