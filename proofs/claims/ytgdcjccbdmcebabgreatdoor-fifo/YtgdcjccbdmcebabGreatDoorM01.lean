import Init
import Derived.Test.YtgdcjccbdmcebabGreatDoorProg
import GoSem.Claim
import GoSem.ClaimJoined
import GoSem.ClaimMapViews
import Derived.JoinedTies
import Derived.KernelRfl
import Derived.RowKit
import Derived.WalkKit
import Derived.WalkSpells
import Derived.WalkLawsBesides
import Derived.Deep.OwnRows
import Derived.Deep.QuietTactic
import Derived.BigQuiet
import Derived.Below
import Derived.ScopeJumps
import Derived.WalkMore
set_option linter.unusedSimpArgs false
set_option linter.unusedVariables false
namespace Go.Proofs.YtgdcjccbdmcebabGreatDoor
structure FlowD where
 dl:Int
 n:Nat
 bu:Nat->Int
 cl:Nat->Int
 be:Nat->Int
 ba:Nat->Int
 ca:Nat->Int
 ji:Nat->Int
 an:Nat->Nat
 af:Nat->Nat->Int
def pw (b:Int)(m:Nat):Int:=b * 2 ^ m
theorem pw_zero (b:Int):pw b 0=b:=by simp [pw]
theorem pw_succ (b:Int)(m:Nat):pw b (m+1)=2 * pw b m:=by unfold pw;rw [Int.pow_succ];rw [<-Int.mul_assoc,Int.mul_comm]
theorem pw_pos (b:Int)(h:1<=b)(m:Nat):1<=pw b m:=by
 induction m with
 | zero=>rw [pw_zero];exact h
 | succ m ih=>rw [pw_succ];omega
theorem pw_mono (b:Int)(h:1<=b)(m n:Nat)(hmn:m<=n):pw b m<=pw b n:=by
 obtain⟨d,rfl⟩:=Nat.exists_eq_add_of_le hmn
 clear hmn
 induction d with
 | zero=>exact Int.le_refl _
 | succ d ih=>have:=pw_succ b (m+d);have:=pw_pos b h (m+d);rw [<-Nat.add_assoc];omega
theorem pw_ge (b:Int)(h:1<=b)(m:Nat):((2 ^ m:Nat):Int)<=pw b m:=by
 induction m with
 | zero=>rw [pw_zero];simpa using h
 | succ m ih=>rw [pw_succ,Nat.pow_succ];omega
def Zdt (base cap jit k:Int)(seed:Int):Int:=min (pw base (k - 1).toNat) cap+seed % (jit+1)
theorem rest_at (base cap k:Int)(m:Nat)(hb:1<=base)(h:(m:Int)<=k - 1\/m=0)(h2:k<=(m:Int)+1\/cap<=pw base m) :
  min (pw base (k - 1).toNat) cap=min (pw base m) cap:=by
 rcases h2 with h2 | h2
 ·have:(k - 1).toNat=m:=by omega
  rw [this]
 ·rcases h with h | h
  ·have:=pw_mono base hb m (k - 1).toNat (by omega)
   omega
  ·subst h
   have:=pw_mono base hb 0 (k - 1).toNat (by omega)
   omega
structure StD where
 st:Int
 tries:Int
 tok:Int
 fin:Int
 sign:Int
 finAt:Int
 signAt:Int
def StD.z:StD:=⟨0,0,0,0,0,0,0⟩
structure RunD where
 id:Int
 fl:FlowD
 st:Int
 till:Int
 tillAt:Int
 steps:List StD
 ended:Int
def RunD.z:RunD:=⟨0,⟨0,0,fun _=>0,fun _=>0,fun _=>0,fun _=>0,fun _=>0,fun _=>0,fun _=>0,fun _ _=>0⟩,0,0,0,[],0⟩
structure PlD where
 run:Int
 node:Nat
def PlD.z:PlD:=⟨0,0⟩
structure EngD where
 time:Int
 seed:Int
 runs:List RunD
 queue:List PlD
 lastRun:Int
 lastTok:Int
 timers:Int
 ends:Int
def Za5:EngD:=⟨0,0,[],[],0,0,0,0⟩
def Zas (now span:Int):Int:=if now+span > 4611686018427387904 then 4611686018427387904 else now+span
def EngD.at_ (e:EngD)(i:Nat):RunD:=e.runs.getD i .z
def RunD.at_ (r:RunD)(k:Nat):StD:=r.steps.getD k .z
def EngD.onRun (e:EngD)(i:Nat)(f:RunD->RunD):EngD:={ e with runs:=e.runs.modify i f }
def RunD.onStep (r:RunD)(k:Nat)(f:StD->StD):RunD:={ r with steps:=r.steps.modify k f }
def EngD.onStep (e:EngD)(i k:Nat)(f:StD->StD):EngD:=e.onRun i (fun r=>r.onStep k f)
def EngD.find (e:EngD)(id:Int):Option Nat:=e.runs.findIdx? (fun r=>r.id == id)
def RunD.work (r:RunD)(tok:Int):Option Nat:=r.steps.findIdx? (fun s=>s.st == 3&&s.tok == tok)
def EngD.task (e:EngD)(tok:Int):Option (Nat×Nat):=do
 let i <-e.runs.findIdx? (fun r=>(r.work tok).isSome)
 let k <-(e.at_ i).work tok
 return (i,k)
def EngD.ready (e:EngD)(i k:Nat):EngD:={ e.onStep i k (fun s=>{ s with st:=2 }) with queue:=e.queue++[⟨(e.at_ i).id,k⟩] }
def RunD.free (r:RunD)(k:Nat):Bool:=(r.at_ k).st == 1&&(List.range (r.fl.an k)).all (fun j=>(r.at_ (r.fl.af k j).toNat).st == 5)
def EngD.wake (e:EngD)(i:Nat):EngD:=(List.range (e.at_ i).steps.length).foldl (fun e k=>if (e.at_ i).free k then e.ready i k else e) e
def Zc3:List RunD->Nat->Option Nat
 | _,0=>none
 | l,k+1=>match Zc3 l k with
  | none=>if 0<(l.getD k .z).ended then some k else none
  | some o=>if 0<(l.getD k .z).ended/\(l.getD k .z).ended<(l.getD o .z).ended then some k else some o
def EngD.begin (e:EngD)(f:FlowD):EngD :=
 let n:=e.lastRun+1
 let r:RunD:=⟨n,f,1,Zas e.time f.dl,e.timers+1,List.replicate f.n ⟨1,0,0,0,0,0,0⟩,0⟩
 ({ e with lastRun:=n,timers:=e.timers+1,runs:=e.runs++[r] }:EngD).wake e.runs.length
def EngD.submit (e:EngD)(f:FlowD):Option EngD :=
 if e.runs.length=6 then
  match Zc3 e.runs e.runs.length with
  | none=>none
  | some o=>some (({ e with runs:=e.runs.take o++e.runs.drop (o+1) }:EngD).begin f)
 else some (e.begin f)
def EngD.poll (e:EngD):Option (PlD×Int×Int×EngD) :=
 match e.queue with
 | []=>none
 | p::q =>
  match e.find p.run with
  | none=>none
  | some i =>
   let r:=e.at_ i
   let t:=(r.at_ p.node).tries+1
   let beat:=r.fl.be p.node
   let e1:={ e with queue:=q,lastTok:=e.lastTok+1,timers:=e.timers+1+(if beat > 0 then 1 else 0) }.onStep i p.node (fun s=>{ s with st:=3,tries:=t,tok:=e.lastTok+1,fin:=Zas e.time (r.fl.cl p.node),finAt:=e.timers+1,sign:=if beat > 0 then Zas e.time beat else 0,signAt:=if beat > 0 then e.timers+2 else s.signAt })
   some (p,t,e.lastTok+1,e1)
def EngD.beat (e:EngD)(tok:Int):Option EngD :=
 match e.task tok with
 | none=>none
 | some (i,k) =>
  let beat:=(e.at_ i).fl.be k
  if beat > 0 then some ({ e with timers:=e.timers+1 }.onStep i k (fun s=>{ s with sign:=Zas e.time beat,signAt:=e.timers+1 })) else some e
def EngD.end_ (e:EngD)(i:Nat)(st:Int):EngD :=
 { e.onRun i (fun r=>{ r with st:=st,ended:=e.ends+1,steps:=r.steps.map (fun s=>if s.st=5\/s.st=6 then s else { s with st:=7 }) }) with ends:=e.ends+1,queue:=e.queue.filter (fun p=> !(p.run == (e.at_ i).id)) }
def RunD.outcome (r:RunD):Option Int :=
 if r.steps.all (fun s=>s.st == 5||s.st == 6||s.st == 7) then some (if r.steps.all (fun s=>s.st == 5) then 2 else 3) else none
def EngD.settle (e:EngD)(i:Nat):EngD :=
 match (e.at_ i).outcome with
 | none=>e
 | some st=>e.end_ i st
def EngD.complete (e:EngD)(tok:Int):Option EngD :=
 match e.task tok with
 | none=>none
 | some (i,k)=>some (((e.onStep i k (fun s=>{ s with st:=5 })).wake i).settle i)
def RunD.lost (r:RunD)(k:Nat):Bool:=(r.at_ k).st == 1&&(List.range (r.fl.an k)).any (fun j=>(r.at_ (r.fl.af k j).toNat).st == 6||(r.at_ (r.fl.af k j).toNat).st == 7)
def RunD.skipRound (r:RunD):RunD:=(List.range r.steps.length).foldl (fun r k=>if r.lost k then r.onStep k (fun s=>{ s with st:=7 }) else r) r
def RunD.skipN:Nat->RunD->RunD
 | 0,r=>r
 | m+1,r=>RunD.skipN m r.skipRound
def EngD.fails (e:EngD)(i k:Nat):EngD :=
 let r:=e.at_ i
 let s:=r.at_ k
 if s.tries<r.fl.bu k then
  { e with timers:=e.timers+1 }.onStep i k (fun s=>{ s with st:=4,fin:=Zas e.time (Zdt (r.fl.ba k) (r.fl.ca k) (r.fl.ji k) s.tries e.seed),finAt:=e.timers+1 })
 else (e.onRun i (fun r=>RunD.skipN r.steps.length (r.onStep k (fun s=>{ s with st:=6 })))).settle i
def EngD.fail (e:EngD)(tok:Int):Option EngD :=
 match e.task tok with
 | none=>none
 | some (i,k)=>some (e.fails i k)
def EngD.cancel (e:EngD)(id:Int):Option EngD :=
 match e.find id with
 | none=>none
 | some i=>if (e.at_ i).st=1 then some (e.end_ i 4) else none
structure TmD where
 i:Nat
 k:Option Nat
 sign:Bool
 tm:Int
 sq:Int
def TmD.z:TmD:=⟨0,none,false,0,0⟩
def StD.dues (s:StD)(i k:Nat):List TmD :=
 (if s.st=3\/s.st=4 then [⟨i,some k,false,s.fin,s.finAt⟩] else [])++(if s.st=3/\s.sign > 0 then [⟨i,some k,true,s.sign,s.signAt⟩] else [])
def RunD.dues (r:RunD)(i:Nat):List TmD :=
 if r.st=1 then ⟨i,none,false,r.till,r.tillAt⟩::(List.range r.steps.length).flatMap (fun k=>(r.at_ k).dues i k) else []
def EngD.dues (e:EngD):List TmD:=(List.range e.runs.length).flatMap (fun i=>(e.at_ i).dues i)
abbrev TmD.lt (a b:TmD):Prop:=a.tm<b.tm\/(a.tm=b.tm/\a.sq<b.sq)
def bestT:List TmD->Nat->Option Nat
 | _,0=>none
 | l,k+1=>match bestT l k with
  | none=>some k
  | some b=>if (l.getD k .z).lt (l.getD b .z) then some k else some b
def EngD.happens (e:EngD)(t:TmD):EngD :=
 let e1:={ e with time:=max e.time t.tm }
 match t.k with
 | none=>e1.end_ t.i 5
 | some k=>if ((e.at_ t.i).at_ k).st=4 then e1.ready t.i k else e1.fails t.i k
inductive HapR (tt:Int):EngD->EngD->Prop
 | none (e:EngD):(∀b,bestT e.dues e.dues.length=some b->tt<(e.dues.getD b .z).tm)->HapR tt e { e with time:=tt }
 | step (e e2:EngD) (b:Nat):bestT e.dues e.dues.length=some b->(e.dues.getD b .z).tm<=tt->HapR tt (e.happens (e.dues.getD b .z)) e2->HapR tt e e2
def EngD.upTo (e:EngD)(ticks:Int):Int:=if e.time+ticks > 4611686018427387904 then 4611686018427387904 else e.time+ticks
def TickR (e:EngD)(ticks:Int)(e2:EngD):Prop:=HapR (e.upTo ticks) e e2
theorem HapR.uniq {tt:Int}{e a b:EngD}(h:HapR tt e a)(g:HapR tt e b):a=b:=by
 induction h generalizing b with
 | none e h1 =>
  cases g with
  | none _ _=>rfl
  | step _ _ k q1 q2 _=>have:=h1 k q1;omega
 | step e e2 k h1 h2 _ ih =>
  cases g with
  | none _ q=>have:=q k h1;omega
  | step _ _ k2 q1 _ q3 =>
   rw [h1] at q1
   cases q1
   exact ih q3
theorem Zbh (e:EngD)(i:Nat)(f:RunD->RunD):(e.onRun i f).runs.length=e.runs.length:=by simp [EngD.onRun]
theorem Zb1 (e:EngD)(i j:Nat)(f:RunD->RunD)(hj:j<e.runs.length):(e.onRun i f).at_ j=if i=j then f (e.at_ j) else e.at_ j:=by
 unfold EngD.at_ EngD.onRun
 simp only [List.getD_eq_getElem?_getD,List.getElem?_modify,List.getElem?_eq_getElem hj,Option.getD_some]
 split<;>rfl
theorem Zal (r:RunD)(k:Nat)(f:StD->StD):(r.onStep k f).steps.length=r.steps.length:=by simp [RunD.onStep]
theorem Zdu (r:RunD)(k j:Nat)(f:StD->StD)(hj:j<r.steps.length):(r.onStep k f).at_ j=if k=j then f (r.at_ j) else r.at_ j:=by
 unfold RunD.at_ RunD.onStep
 simp only [List.getD_eq_getElem?_getD,List.getElem?_modify,List.getElem?_eq_getElem hj,Option.getD_some]
 split<;>rfl
structure Tm where
 id:Int
 tm:Int
 sq:Int
def Tm.z:Tm:=⟨0,0,0⟩
def bestN (l:List Tm):Nat->Option Nat
 | 0=>none
 | k+1=>match bestN l k with
  | none=>some k
  | some b=>if (l.getD k .z).tm<(l.getD b .z).tm then some k else some b
theorem bestN_none {l:List Tm}{k:Nat}(h:bestN l k=none):k=0:=by
 cases k with
 | zero=>rfl
 | succ k =>
  simp only [bestN] at h
  split at h
  ·cases h
  ·split at h<;>cases h
theorem bestN_some {l:List Tm}:∀{k b:Nat},bestN l k=some b->b<k/\(∀j,j<k->(l.getD b .z).tm<=(l.getD j .z).tm)/\∀j,j<b->(l.getD b .z).tm<(l.getD j .z).tm:=by
 intro k
 induction k with
 | zero=>intro b h;cases h
 | succ k ih =>
  intro b h
  simp only [bestN] at h
  cases hb:bestN l k with
  | none =>
   rw [hb] at h
   simp only [Option.some.injEq] at h
   subst h
   have:=bestN_none hb
   subst this
   exact⟨by omega,fun j hj=>by obtain rfl:j=0:=by omega
                               exact Int.le_refl _,fun j hj=>by omega⟩
  | some b' =>
   rw [hb] at h
   obtain⟨h1,h2,h3⟩:=ih hb
   simp only at h
   by_cases hlt:(l.getD k .z).tm<(l.getD b' .z).tm
   ·rw [if_pos hlt] at h
    simp only [Option.some.injEq] at h
    subst h
    refine⟨by omega,fun j hj=> ?_,fun j hj=> ?_⟩
    ·by_cases e:j=k
     ·subst e;exact Int.le_refl _
     ·have:=h2 j (by omega);omega
    ·have:=h2 j hj;omega
   ·rw [if_neg hlt] at h
    simp only [Option.some.injEq] at h
    subst h
    refine⟨by omega,fun j hj=> ?_,h3⟩
    by_cases e:j=k
    ·subst e;omega
    ·exact h2 j (by omega)
def Rising (l:List Tm):Prop:=∀i j,i<j->j<l.length->(l.getD i .z).sq<(l.getD j .z).sq
def hasId (l:List Tm)(id:Int)(k:Nat):Prop:=∃j,j<k/\(l.getD j .z).id=id
def Za0 (now tm:Int):Int:=if tm<=now then (if now+1 > 4611686018427387904 then 4611686018427387904 else now+1) else if tm > 4611686018427387904 then 4611686018427387904 else tm
def SetIs (l:List Tm)(now sq id tm:Int)(x:Int)(l':List Tm)(sq':Int):Prop :=
 (hasId l id l.length/\x=8/\l'=l/\sq'=sq) \/
 (¬hasId l id l.length/\l.length=200/\x=5/\l'=l/\sq'=sq) \/
 (¬hasId l id l.length/\l.length≠200/\x=0/\l'=l++[⟨id,Za0 now tm,sq+1⟩]/\sq'=sq+1)
def CanIs (l:List Tm)(id:Int)(x:Int)(l':List Tm):Prop :=
 (∃i,i<l.length/\(l.getD i .z).id=id/\(∀j,j<i->(l.getD j .z).id≠id)/\x=0/\l'=l.take i++l.drop (i+1)) \/
 (¬hasId l id l.length/\x=8/\l'=l)
def Apart (l:List Tm):Prop:=∀i j,i<j->j<l.length->(l.getD i .z).id≠(l.getD j .z).id
theorem Zc1 (l:List Tm)(b i:Nat)(hb:b<l.length):(l.take b++l.drop (b+1)).getD i .z=l.getD (if i<b then i else i+1) .z:=by
 rw [List.getD_eq_getElem?_getD,List.getD_eq_getElem?_getD]
 congr 1
 by_cases h:i<b
 ·rw [if_pos h,List.getElem?_append_left (by rw [List.length_take];omega),List.getElem?_take_of_lt h]
 ·rw [if_neg h,List.getElem?_append_right (by rw [List.length_take];omega),List.getElem?_drop,List.length_take]
  congr 1
  omega
theorem Zcb (l:List Tm)(b:Nat)(hb:b<l.length):(l.take b++l.drop (b+1)).length+1=l.length:=by
 rw [List.length_append,List.length_take,List.length_drop];omega
theorem Rising.cut {l:List Tm}(h:Rising l){b:Nat}(hb:b<l.length):Rising (l.take b++l.drop (b+1)):=by
 intro i j hij hj
 have hl:=Zcb l b hb
 rw [Zc1 l b i hb,Zc1 l b j hb]
 by_cases h1:i<b<;>by_cases h2:j<b<;>simp only [h1,h2,if_true,if_false]<;>exact h _ _ (by omega) (by omega)
theorem Apart.cut {l:List Tm}(h:Apart l){b:Nat}(hb:b<l.length):Apart (l.take b++l.drop (b+1)):=by
 intro i j hij hj
 have hl:=Zcb l b hb
 rw [Zc1 l b i hb,Zc1 l b j hb]
 by_cases h1:i<b<;>by_cases h2:j<b<;>simp only [h1,h2,if_true,if_false]<;>exact h _ _ (by omega) (by omega)
def bl (x:Nat):Nat:=if x=0 then 0 else Nat.log2 x+1
theorem bl_le (x k:Nat):bl x<=k↔x<2 ^ k:=by
 unfold bl
 split
 ·rename_i h;subst h;exact⟨fun _=>Nat.two_pow_pos _,fun _=>Nat.zero_le _⟩
 ·rename_i h;exact Nat.log2_lt h
def lev (n t:Nat):Nat:=(bl (t ^^^ n) - 1) / 6
def slt (L t:Nat):Nat:=t / 2 ^ (6 * L) % 64
def pl (n t:Nat):Nat:=lev n t * 64+slt (lev n t) t
theorem xor_zero {a b:Nat}(h:a ^^^ b=0):a=b:=by
 have h2:(a ^^^ b) ^^^ b=0 ^^^ b:=by rw [h]
 rwa [Nat.xor_assoc,Nat.xor_self,Nat.xor_zero,Nat.zero_xor] at h2
theorem xor_div (a b k:Nat):(a ^^^ b)<2 ^ k↔a / 2 ^ k=b / 2 ^ k:=by
 have e:(a ^^^ b) / 2 ^ k=(a / 2 ^ k) ^^^ (b / 2 ^ k):=by
  rw [<-Nat.shiftRight_eq_div_pow,<-Nat.shiftRight_eq_div_pow,<-Nat.shiftRight_eq_div_pow,Nat.shiftRight_xor_distrib]
 constructor
 ·intro h
  have:(a ^^^ b) / 2 ^ k=0:=Nat.div_eq_of_lt h
  rw [e] at this
  exact xor_zero this
 ·intro h
  have h0:(a ^^^ b) / 2 ^ k=0:=by rw [e,h,Nat.xor_self]
  rcases Nat.lt_or_ge (a ^^^ b) (2 ^ k) with h1 | h1
  ·exact h1
  ·have:=Nat.div_pos h1 (Nat.two_pow_pos k);omega
theorem Zdn (n t L:Nat):lev n t<=L↔t / 2 ^ (6 * (L+1))=n / 2 ^ (6 * (L+1)):=by
 rw [<-xor_div,<-bl_le]
 unfold lev
 omega
theorem Zds (L t:Nat):slt L t<64:=Nat.mod_lt _ (by decide)
theorem pl_div (n t:Nat):pl n t / 64=lev n t:=by unfold pl;have:=Zds (lev n t) t;omega
theorem pl_mod (n t:Nat):pl n t % 64=slt (lev n t) t:=by unfold pl;have:=Zds (lev n t) t;omega
theorem lev_top (n t:Nat)(hn:n<=4611686018427387904)(ht:t<=4611686018427387904):lev n t<=10:=by
 rw [Zdn,Nat.div_eq_of_lt (by omega),Nat.div_eq_of_lt (by omega)]
theorem pl_lt (n t:Nat)(hn:n<=4611686018427387904)(ht:t<=4611686018427387904):pl n t<704:=by
 unfold pl;have:=Zds (lev n t) t;have:=lev_top n t hn ht;omega
def start (n k:Nat):Nat:=n / 2 ^ (6 * (k / 64+1)) * 2 ^ (6 * (k / 64+1))+k % 64 * 2 ^ (6 * (k / 64))
theorem pow_step (L:Nat):2 ^ (6 * (L+1))=64 * 2 ^ (6 * L):=by rw [Nat.mul_add,Nat.pow_add];omega
theorem div_step (t L:Nat):t / 2 ^ (6 * (L+1))=t / 2 ^ (6 * L) / 64:=by rw [pow_step,Nat.mul_comm,Nat.div_div_eq_div_mul]
theorem div_up {a b i j:Nat}(h:i<=j)(e:a / 2 ^ (6 * i)=b / 2 ^ (6 * i)):a / 2 ^ (6 * j)=b / 2 ^ (6 * j):=by
 obtain⟨d,rfl⟩:∃d,j=i+d:=⟨j - i,by omega⟩
 rw [Nat.mul_add,Nat.pow_add,<-Nat.div_div_eq_div_mul,<-Nat.div_div_eq_div_mul,e]
theorem start_eq (n k:Nat):start n k=(n / 2 ^ (6 * (k / 64+1)) * 64+k % 64) * 2 ^ (6 * (k / 64)):=by
 unfold start
 rw [pow_step,Nat.add_mul,Nat.mul_assoc _ 64]
theorem Zbx (n k:Nat):start n k / 2 ^ (6 * (k / 64))=n / 2 ^ (6 * (k / 64+1)) * 64+k % 64:=by
 rw [start_eq,Nat.mul_div_cancel _ (Nat.two_pow_pos _)]
theorem start_above (n k:Nat):start n k / 2 ^ (6 * (k / 64+1))=n / 2 ^ (6 * (k / 64+1)):=by
 rw [div_step,Zbx]
 have:=Nat.mod_lt k (show 0<64 by decide)
 omega
theorem cut_eq (t L:Nat):t / 2 ^ (6 * L)=t / 2 ^ (6 * (L+1)) * 64+slt L t:=by
 rw [div_step];unfold slt;omega
theorem cut_of_pl {n t k:Nat}(h:pl n t=k):t / 2 ^ (6 * (k / 64))=n / 2 ^ (6 * (k / 64+1)) * 64+k % 64:=by
 subst h
 rw [pl_div,pl_mod,cut_eq,(Zdn n t (lev n t)).1 (Nat.le_refl _)]
theorem not_lev {n t L:Nat}(h:L<lev n t):t / 2 ^ (6 * (L+1))≠n / 2 ^ (6 * (L+1)):=fun e=>by
 have:=(Zdn n t L).2 e;omega
theorem start_le {n t k:Nat}(hn:n<=t)(hk:k<=pl n t):start n k<=t:=by
 have hd:k / 64<=lev n t:=by rw [<-pl_div];omega
 suffices h:n / 2 ^ (6 * (k / 64+1)) * 64+k % 64<=t / 2 ^ (6 * (k / 64)) by
  rw [start_eq];exact (Nat.le_div_iff_mul_le (Nat.two_pow_pos _)).1 h
 rw [cut_eq t (k / 64)]
 by_cases e:lev n t=k / 64
 ·have h1:=pl_mod n t
  rw [(Zdn n t (k / 64)).1 (by omega),<-e,<-h1,e]
  have h2:=pl_div n t
  omega
 ·have h1:=not_lev (n:=n) (t:=t) (L:=k / 64) (by omega)
  have h2:n / 2 ^ (6 * (k / 64+1))<=t / 2 ^ (6 * (k / 64+1)):=Nat.div_le_div_right hn
  omega
theorem le_start {n t k:Nat}(hn:n<=t)(hk:pl n t=k):n<=start n k:=by
 by_cases h0:k / 64=0
 ·have h1:=cut_of_pl hk
  have h2:=Zbx n k
  rw [h0] at h1 h2
  simp at h1 h2
  omega
 ·have h1:=not_lev (n:=n) (t:=t) (L:=k / 64 - 1) (by rw [<-hk,pl_div] at *;omega)
  rw [show k / 64 - 1+1=k / 64 by omega] at h1
  have h2:n / 2 ^ (6 * (k / 64))<=t / 2 ^ (6 * (k / 64)):=Nat.div_le_div_right hn
  have h3:n / 2 ^ (6 * (k / 64))<start n k / 2 ^ (6 * (k / 64)):=by rw [Zbx,<-cut_of_pl hk];omega
  exact Nat.le_of_lt (Nat.lt_of_div_lt_div h3)
theorem start_low {n t k:Nat}(hk:pl n t=k)(h0:k<64):start n k=t:=by
 have h1:=cut_of_pl hk
 have h2:=Zbx n k
 rw [show k / 64=0 by omega] at h1 h2
 simp at h1 h2
 omega
theorem pl_of_low {n t k:Nat}(h0:k<64)(h:start n k=t):pl n t=k:=by
 have h2:=Zbx n k
 rw [show k / 64=0 by omega] at h2
 simp at h2
 have hl:lev n t=0:=by
  have:lev n t<=0:=by rw [Zdn];simp;omega
  omega
 unfold pl
 rw [hl]
 unfold slt
 simp
 omega
theorem pl_fall {n t k:Nat}(hk:pl n t=k)(h0:64<=k):pl (start n k) t<64 * (k / 64):=by
 have h1:=cut_of_pl hk
 have h2:=Zbx n k
 have h3:lev (start n k) t<=k / 64 - 1:=by
  rw [Zdn,show k / 64 - 1+1=k / 64 by omega,h1,h2]
 have h4:=Zds (lev (start n k) t) t
 unfold pl
 omega
theorem lev_same {n m t L:Nat}(hn:L<=lev n t)(hs:∀j,L<=j->m / 2 ^ (6 * (j+1))=n / 2 ^ (6 * (j+1)))(hl:L=0\/t / 2 ^ (6 * L)≠m / 2 ^ (6 * L)):lev m t=lev n t:=by
 have a1:L<=lev m t:=by
  rcases hl with h | h
  ·omega
  ·rcases Nat.lt_or_ge (lev m t) L with h1 | h1
   ·exfalso
    apply h
    have h2:=(Zdn m t (L - 1)).1 (by omega)
    rwa [show L - 1+1=L by omega] at h2
   ·exact h1
 apply Nat.le_antisymm
 ·rw [Zdn,hs _ hn];exact (Zdn n t _).1 (Nat.le_refl _)
 ·rw [Zdn,<-hs _ a1];exact (Zdn m t _).1 (Nat.le_refl _)
theorem pl_stay {n t k:Nat}(hk:k<pl n t):pl (start n k) t=pl n t:=by
 have hd:k / 64<=lev n t:=by rw [<-pl_div];omega
 have hs:∀j,k / 64<=j->start n k / 2 ^ (6 * (j+1))=n / 2 ^ (6 * (j+1)):=fun j hj=>div_up (by omega) (start_above n k)
 have e:lev (start n k) t=lev n t:=by
  by_cases h1:lev n t=k / 64
  ·refine lev_same hd hs (Or.inr ?_)
   rw [Zbx,cut_eq t (k / 64),(Zdn n t (k / 64)).1 (by omega)]
   have h2:=pl_mod n t
   rw [h1] at h2
   have h3:=pl_div n t
   omega
  ·refine lev_same hd hs (Or.inr ?_)
   rw [Zbx]
   have h2:=not_lev (n:=n) (t:=t) (L:=k / 64) (by omega)
   have h3:=cut_eq t (k / 64)
   have h4:=Zds (k / 64) t
   have:=Nat.mod_lt k (show 0<64 by decide)
   omega
 unfold pl
 rw [e]
theorem pl_wait {n m t k:Nat}(h1:n<=m)(h2:m<start n k)(hk:k<=pl n t):pl m t=pl n t:=by
 have hd:k / 64<=lev n t:=by rw [<-pl_div];omega
 have hm:m / 2 ^ (6 * (k / 64+1))=n / 2 ^ (6 * (k / 64+1)):=by
  have a1:n / 2 ^ (6 * (k / 64+1))<=m / 2 ^ (6 * (k / 64+1)):=Nat.div_le_div_right h1
  have a2:m / 2 ^ (6 * (k / 64+1))<=start n k / 2 ^ (6 * (k / 64+1)):=Nat.div_le_div_right (Nat.le_of_lt h2)
  rw [start_above] at a2
  omega
 have hs:∀j,k / 64<=j->m / 2 ^ (6 * (j+1))=n / 2 ^ (6 * (j+1)):=fun j hj=>div_up (by omega) hm
 have e:lev m t=lev n t:=by
  by_cases h0:k / 64=0
  ·exact lev_same (L:=0) (Nat.zero_le _) (by rw [h0] at hs;exact hs) (Or.inl rfl)
  ·refine lev_same hd hs (Or.inr ?_)
   have b1:m / 2 ^ (6 * (k / 64))<start n k / 2 ^ (6 * (k / 64)):=by
    rw [Nat.div_lt_iff_lt_mul (Nat.two_pow_pos _),Zbx,<-start_eq];exact h2
   rw [Zbx] at b1
   have b2:=cut_eq t (k / 64)
   by_cases h3:lev n t=k / 64
   ·have h4:=pl_mod n t
    rw [h3] at h4
    have h5:=pl_div n t
    rw [(Zdn n t (k / 64)).1 (by omega)] at b2
    omega
   ·have h4:=not_lev (n:=n) (t:=t) (L:=k / 64) (by omega)
    have c3:=cut_eq m (k / 64)
    rw [hm] at c3
    have:=Zds (k / 64) t
    have:=Zds (k / 64) m
    omega
 unfold pl
 rw [e]
def Zaf (n:Nat)(l:List Tm)(k:Nat):List Int:=(l.filter (fun t=>pl n t.tm.toNat == k)).map (·.id)
def Later (n:Nat)(l:List Tm):Prop:=∀t∈l,(n:Int)<=t.tm/\t.tm<=4611686018427387904
def Fst (n:Nat)(l:List Tm)(k:Nat):Prop:=(∀j,j<k->Zaf n l j=[])/\Zaf n l k≠[]
theorem Zb4 {l:List Tm}{b:Nat}(h:b<l.length):l.getD b .z∈l:=by
 rw [List.getD_eq_getElem?_getD,List.getElem?_eq_getElem h]
 exact List.getElem_mem h
theorem mem_at {l:List Tm}{t:Tm}(h:t∈l):∃i,i<l.length/\l.getD i .z=t:=by
 obtain⟨i,hi,rfl⟩:=List.mem_iff_getElem.1 h
 exact⟨i,hi,by rw [List.getD_eq_getElem?_getD,List.getElem?_eq_getElem hi];rfl⟩
theorem cut_split {l:List Tm}{b:Nat}(h:b<l.length):l=l.take b++l.getD b .z::l.drop (b+1):=by
 conv=>lhs;rw [<-List.take_append_drop b l]
 congr 1
 rw [List.getD_eq_getElem?_getD,List.getElem?_eq_getElem h]
 exact List.drop_eq_getElem_cons h
theorem placed_nil {n:Nat}{l:List Tm}{k:Nat}(h:Zaf n l k=[]){t:Tm}(ht:t∈l):pl n t.tm.toNat≠k:=by
 unfold Zaf at h
 rw [List.map_eq_nil_iff,List.filter_eq_nil_iff] at h
 have:=h t ht
 simpa using this
theorem placed_snoc (n:Nat)(l:List Tm)(t:Tm)(k:Nat):Zaf n (l++[t]) k=if pl n t.tm.toNat=k then Zaf n l k++[t.id] else Zaf n l k:=by
 unfold Zaf
 rw [List.filter_append,List.map_append]
 by_cases h:pl n t.tm.toNat=k
 ·rw [if_pos h,List.filter_cons_of_pos (by simpa using h)];rfl
 ·rw [if_neg h,List.filter_cons_of_neg (by simpa using h)];simp
theorem placed_cut_off (n:Nat)(l:List Tm)(b k:Nat)(hb:b<l.length)(h:pl n (l.getD b .z).tm.toNat≠k):Zaf n (l.take b++l.drop (b+1)) k=Zaf n l k:=by
 unfold Zaf
 conv=>rhs;rw [cut_split hb]
 rw [List.filter_append,List.filter_append,List.filter_cons_of_neg (by simpa using h)]
theorem placed_cut (n:Nat)(l:List Tm)(b:Nat)(hb:b<l.length)(ha:Apart l):∃i,i<(Zaf n l (pl n (l.getD b .z).tm.toNat)).length/\(Zaf n l (pl n (l.getD b .z).tm.toNat)).getD i 0=(l.getD b .z).id/\(∀j,j<i->(Zaf n l (pl n (l.getD b .z).tm.toNat)).getD j 0≠(l.getD b .z).id)/\Zaf n (l.take b++l.drop (b+1)) (pl n (l.getD b .z).tm.toNat)=(Zaf n l (pl n (l.getD b .z).tm.toNat)).take i++(Zaf n l (pl n (l.getD b .z).tm.toNat)).drop (i+1):=by
 generalize hk:pl n (l.getD b .z).tm.toNat=k
 generalize hx:l.getD b .z=x at *
 have e1:Zaf n l k=((l.take b).filter (fun t=>pl n t.tm.toNat == k)).map (·.id)++x.id::((l.drop (b+1)).filter (fun t=>pl n t.tm.toNat == k)).map (·.id):=by
  unfold Zaf
  conv=>lhs;rw [cut_split hb]
  rw [hx,List.filter_append,List.filter_cons_of_pos (by simpa using hk),List.map_append,List.map_cons]
 have e2:Zaf n (l.take b++l.drop (b+1)) k=((l.take b).filter (fun t=>pl n t.tm.toNat == k)).map (·.id)++((l.drop (b+1)).filter (fun t=>pl n t.tm.toNat == k)).map (·.id):=by
  unfold Zaf
  rw [List.filter_append,List.map_append]
 have e3:∀y∈((l.take b).filter (fun t=>pl n t.tm.toNat == k)).map (·.id),y≠x.id:=by
  intro y hy
  obtain⟨t,ht,rfl⟩:=List.mem_map.1 hy
  have ht2:=(List.mem_filter.1 ht).1
  obtain⟨i,hi,rfl⟩:=mem_at ht2
  rw [List.length_take] at hi
  have:(l.take b).getD i .z=l.getD i .z:=by
   rw [List.getD_eq_getElem?_getD,List.getD_eq_getElem?_getD,List.getElem?_take_of_lt (by omega)]
  rw [this,<-hx]
  exact ha i b (by omega) hb
 rw [e1,e2]
 generalize ((l.take b).filter (fun t=>pl n t.tm.toNat == k)).map (·.id)=A at *
 generalize ((l.drop (b+1)).filter (fun t=>pl n t.tm.toNat == k)).map (·.id)=C at *
 refine⟨A.length,by simp,?_,fun j hj=> ?_,?_⟩
 ·rw [List.getD_eq_getElem?_getD,List.getElem?_append_right (Nat.le_refl _)];simp
 ·rw [List.getD_eq_getElem?_getD,List.getElem?_append_left hj]
  refine e3 _ ?_
  rw [List.getElem?_eq_getElem hj]
  exact List.getElem_mem hj
 ·rw [List.take_left,List.drop_append]
  simp
theorem fst_le {n:Nat}{l:List Tm}{k:Nat}(h:Fst n l k){t:Tm}(ht:t∈l):k<=pl n t.tm.toNat:=by
 rcases Nat.lt_or_ge (pl n t.tm.toNat) k with h1 | h1
 ·exact absurd rfl (placed_nil (h.1 _ h1) ht)
 ·exact h1
theorem placed_first {n:Nat}{l:List Tm}{k:Nat}(h:Zaf n l k≠[]):∃b,b<l.length/\pl n (l.getD b .z).tm.toNat=k/\∀j,j<b->pl n (l.getD j .z).tm.toNat≠k:=by
 induction l with
 | nil=>exact absurd rfl h
 | cons t r ih =>
  by_cases ht:pl n t.tm.toNat=k
  ·exact⟨0,by simp,by simpa using ht,fun j hj=>by omega⟩
  ·have e:Zaf n (t::r) k=Zaf n r k:=by
    unfold Zaf;rw [List.filter_cons_of_neg (by simpa using ht)]
   rw [e] at h
   obtain⟨b,h1,h2,h3⟩:=ih h
   refine⟨b+1,by simp;omega,by simpa using h2,fun j hj=> ?_⟩
   cases j with
   | zero=>simpa using ht
   | succ j=>have:=h3 j (by omega);simpa using this
theorem best_of {l:List Tm}{b:Nat}(hb:b<l.length)(h1:∀j,j<l.length->(l.getD b .z).tm<=(l.getD j .z).tm)(h2:∀j,j<b->(l.getD b .z).tm<(l.getD j .z).tm):bestN l l.length=some b:=by
 cases h:bestN l l.length with
 | none=>have:=bestN_none h;omega
 | some c =>
  obtain⟨c1,c2,c3⟩:=bestN_some h
  rcases Nat.lt_trichotomy b c with e | e | e
  ·have:=c3 b e;have:=h1 c c1;omega
  ·rw [e]
  ·have:=h2 c e;have:=c2 b hb;omega
theorem fst_low {n:Nat}{l:List Tm}{k:Nat}(hL:Later n l)(hf:Fst n l k)(h0:k<64):∃b,b<l.length/\bestN l l.length=some b/\(l.getD b .z).tm=(start n k:Int)/\pl n (l.getD b .z).tm.toNat=k/\∃r,Zaf n l k=(l.getD b .z).id::r/\Zaf n (l.take b++l.drop (b+1)) k=r:=by
 obtain⟨b,hb,h1,h2⟩:=placed_first hf.2
 have e1:=start_low h1 h0
 have e2:(l.getD b .z).tm=(start n k:Int):=by
  have:=(hL _ (Zb4 hb)).1
  omega
 refine⟨b,hb,best_of hb (fun j hj=> ?_) (fun j hj=> ?_),e2,h1,?_⟩
 ·have a1:=fst_le hf (Zb4 hj)
  have a2:=(hL _ (Zb4 hj)).1
  have a3:=start_le (n:=n) (t:=(l.getD j .z).tm.toNat) (by omega) a1
  omega
 ·have hj2:j<l.length:=by omega
  have a1:=fst_le hf (Zb4 hj2)
  have a2:=(hL _ (Zb4 hj2)).1
  have a3:=start_le (n:=n) (t:=(l.getD j .z).tm.toNat) (by omega) a1
  have a4:=h2 j hj
  have a5:start n k≠(l.getD j .z).tm.toNat:=fun e=>a4 (pl_of_low h0 e)
  omega
 ·refine⟨((l.drop (b+1)).filter (fun t=>pl n t.tm.toNat == k)).map (·.id),?_,?_⟩
  all_goals
   have e3:(l.take b).filter (fun t=>pl n t.tm.toNat == k)=[]:=by
    rw [List.filter_eq_nil_iff]
    intro t ht
    obtain⟨i,hi,rfl⟩:=mem_at ht
    rw [List.length_take] at hi
    have:(l.take b).getD i .z=l.getD i .z:=by
     rw [List.getD_eq_getElem?_getD,List.getD_eq_getElem?_getD,List.getElem?_take_of_lt (by omega)]
    rw [this]
    have:=h2 i (by omega)
    simpa using this
   unfold Zaf
  ·conv=>lhs;rw [cut_split hb]
   rw [List.filter_append,e3,List.filter_cons_of_pos (by simpa using h1)]
   rfl
  ·rw [List.filter_append,e3];rfl
theorem low_stay {n:Nat}{l:List Tm}{k:Nat}(hf:Fst n l k)(h0:k<64){t:Tm}(ht:t∈l):pl (start n k) t.tm.toNat=pl n t.tm.toNat:=by
 have a1:=fst_le hf ht
 by_cases e:pl n t.tm.toNat=k
 ·rw [e,start_low e h0]
  have e2:=cut_of_pl e
  rw [show k / 64=0 by omega] at e2
  simp at e2
  have e3:lev t.tm.toNat t.tm.toNat=0:=by
   have:lev t.tm.toNat t.tm.toNat<=0:=by rw [Zdn]
   omega
  unfold pl
  rw [e3]
  unfold slt
  simp
  omega
 ·exact pl_stay (by omega)
theorem placed_congr {n m:Nat}{l:List Tm}(h:∀t∈l,pl m t.tm.toNat=pl n t.tm.toNat)(k:Nat):Zaf m l k=Zaf n l k:=by
 unfold Zaf
 congr 1
 exact List.filter_congr (fun t ht=>by rw [h t ht])
theorem high_placed {n:Nat}{l:List Tm}{k:Nat}(hf:Fst n l k)(h0:64<=k)(j:Nat):Zaf (start n k) l j=(if j=k then [] else Zaf n l j)++Zaf (start n k) (l.filter (fun t=>pl n t.tm.toNat == k)) j:=by
 unfold Zaf
 rw [List.filter_filter]
 by_cases hj:j<64 * (k / 64)
 ·rw [if_neg (by omega)]
  have e1:=hf.1 j (by omega)
  unfold Zaf at e1
  rw [e1,List.nil_append]
  congr 1
  refine List.filter_congr (fun t ht=> ?_)
  have a1:=fst_le hf ht
  by_cases e:pl n t.tm.toNat=k
  ·simp [e]
  ·have a2:=pl_stay (n:=n) (t:=t.tm.toNat) (k:=k) (by omega)
   rw [a2]
   simp [e]
   omega
 ·have e2:l.filter (fun t=>(pl (start n k) t.tm.toNat == j)&&(pl n t.tm.toNat == k))=[]:=by
   rw [List.filter_eq_nil_iff]
   intro t ht
   simp only [Bool.and_eq_true,beq_iff_eq,not_and]
   intro e1 e
   have:=pl_fall e h0
   omega
  rw [e2,List.map_nil,List.append_nil]
  by_cases hk:j=k
  ·rw [if_pos hk,List.map_eq_nil_iff,List.filter_eq_nil_iff]
   intro t ht
   have a1:=fst_le hf ht
   by_cases e:pl n t.tm.toNat=k
   ·have:=pl_fall e h0;simp;omega
   ·rw [pl_stay (by omega)];simp;omega
  ·rw [if_neg hk]
   congr 1
   refine List.filter_congr (fun t ht=> ?_)
   have a1:=fst_le hf ht
   by_cases e:pl n t.tm.toNat=k
   ·have:=pl_fall e h0
    have b1:(pl (start n k) t.tm.toNat == j)=false:=by simp;omega
    have b2:(pl n t.tm.toNat == j)=false:=by simp;omega
    rw [b1,b2]
   ·rw [pl_stay (by omega)]
def todo (n:Nat):List Tm->Nat
 | []=>0
 | t::r=>pl n t.tm.toNat+1+todo n r
theorem todo_le {n m:Nat}:∀{l:List Tm},(∀t∈l,pl m t.tm.toNat<=pl n t.tm.toNat)->todo m l<=todo n l
 | [],_=>Nat.le_refl _
 | t::r,h=>by
  have h1:=h t (by simp)
  have h2:=todo_le (l:=r) (fun x hx=>h x (by simp [hx]))
  simp only [todo];omega
theorem todo_lt {n m:Nat}:∀{l:List Tm},(∀t∈l,pl m t.tm.toNat<=pl n t.tm.toNat)->(∃t∈l,pl m t.tm.toNat<pl n t.tm.toNat)->todo m l<todo n l
 | [],_,h=>by obtain⟨t,ht,_⟩:=h;cases ht
 | t::r,h,h3=>by
  have h1:=h t (by simp)
  have h2:=todo_le (l:=r) (fun x hx=>h x (by simp [hx]))
  obtain⟨x,hx,hlt⟩:=h3
  simp only [todo]
  rcases List.mem_cons.1 hx with rfl | hx
  ·omega
  ·have:=todo_lt (l:=r) (fun x hx=>h x (by simp [hx])) ⟨x,hx,hlt⟩;omega
theorem todo_fall {n:Nat}{l:List Tm}{k:Nat}(hf:Fst n l k)(h0:64<=k):todo (start n k) l<todo n l:=by
 refine todo_lt (fun t ht=> ?_) ?_
 ·have a1:=fst_le hf ht
  by_cases e:pl n t.tm.toNat=k
  ·have:=pl_fall e h0;omega
  ·rw [pl_stay (by omega)];exact Nat.le_refl _
 ·obtain⟨b,hb,h1,_⟩:=placed_first hf.2
  exact⟨_,Zb4 hb,by have:=pl_fall h1 h0;omega⟩
theorem fst_start {n:Nat}{l:List Tm}{k:Nat}(hL:Later n l)(hf:Fst n l k):n<=start n k/\start n k<=4611686018427387904/\∀t∈l,(start n k:Int)<=t.tm:=by
 obtain⟨b,hb,h1,_⟩:=placed_first hf.2
 have a1:=hL _ (Zb4 hb)
 have h3:∀t∈l,(start n k:Int)<=t.tm:=fun t ht=>by
  have a2:=(hL t ht).1
  have a3:=start_le (n:=n) (t:=t.tm.toNat) (by omega) (fst_le hf ht)
  omega
 refine⟨le_start (by omega) h1,?_,h3⟩
 have:=h3 _ (Zb4 hb)
 omega
theorem wait_stay {n m:Nat}{l:List Tm}{k:Nat}(hf:Fst n l k)(h1:n<=m)(h2:m<start n k){t:Tm}(ht:t∈l):pl m t.tm.toNat=pl n t.tm.toNat:=pl_wait h1 h2 (fst_le hf ht)
theorem no_fst {n:Nat}{l:List Tm}(hL:Later n l)(hn:n<=4611686018427387904)(h:∀k,k<704->Zaf n l k=[]):l=[]:=by
 cases l with
 | nil=>rfl
 | cons t r =>
  exfalso
  have a:=hL t (by simp)
  exact placed_nil (h _ (pl_lt n t.tm.toNat hn (by omega))) (List.mem_cons_self ..) rfl
theorem Zct (n:Nat)(l:List Tm)(k:Nat):(Zaf n l k).length<=l.length:=by
 unfold Zaf;rw [List.length_map];exact List.length_filter_le _ _
def keyI (run node kind:Int):Int:=(run * 16+(node+1)) * 4+kind
theorem keyI_inj {a b c x y z:Int}(h:keyI a b c=keyI x y z)(hb: -1<=b/\b<15)(hy: -1<=y/\y<15)(hc:0<=c/\c<4)(hz:0<=z/\z<4):a=x/\b=y/\c=z:=by
 unfold keyI at h;omega
structure KeyOk (r nd q id:Int):Prop where
 e:id=keyI r nd q
 r0:0<=r
 r1:r<18446744073709551616
 n0: -1<=nd
 n1:nd<15
 q0:0<=q
 q1:q<4
def IdOk (id:Int):Prop:=0<=id/\id<1180591620717411303424
theorem KeyOk.ok {r nd q id:Int}(h:KeyOk r nd q id):IdOk id:=by
 obtain⟨h0,h1,h2,h3,h4,h5,h6⟩:=h
 unfold keyI at h0;unfold IdOk;omega
theorem KeyOk.parts {r nd q id:Int}(h:KeyOk r nd q id):id / 64=r/\id / 4 % 16 - 1=nd/\id % 4=q:=by
 obtain⟨h0,h1,h2,h3,h4,h5,h6⟩:=h
 unfold keyI at h0;omega
theorem KeyOk.of {id:Int}(h:IdOk id):KeyOk (id / 64) (id / 4 % 16 - 1) (id % 4) id:=by
 unfold IdOk at h
 refine⟨by unfold keyI;omega,?_,?_,?_,?_,?_,?_⟩<;>omega
end Go.Proofs.YtgdcjccbdmcebabGreatDoor
namespace Go.Proofs.YtgdcjccbdmcebabGreatDoor
open Go.RowKit
theorem rb {a b:Bool}(h:a=b):Ending.returned (.bool a)= .returned (.bool b):=by rw [h]
theorem ri {k:IntKind}{a b:Int}(h:a=b):Ending.returned (.int k a)= .returned (.int k b):=by rw [h]
theorem dT {p:Prop} [Decidable p](h:p):true=decide p:=(decide_eq_true h).symm
theorem dF {p:Prop} [Decidable p](h:¬p):false=decide p:=(decide_eq_false h).symm
set_option maxHeartbeats 400000 in
theorem within_any (n lo hi:Int)(w:World) :
  Calls Tryz.prog 121 #[.int .i64 n, .int .i64 lo, .int .i64 hi] w fun e w'=>e= .returned (.bool (decide (lo<=n/\n<=hi)))/\w'=w:=by
 by_cases h1:lo<=n
 ·by_cases h2:n<=hi
  ·go_enter Tryz.func121,Tryz.ntmps121
   go_wp2
   go_ret
   exact⟨rb (dT (by omega)),rfl⟩
  ·go_enter Tryz.func121,Tryz.ntmps121
   go_wp2
   go_ret
   exact⟨rb (dF (by omega)),rfl⟩
 ·go_enter Tryz.func121,Tryz.ntmps121
  go_wp2
  go_ret
  exact⟨rb (by have:=decide_eq_false (p:=lo<=n) (by omega);simp [this]),rfl⟩
def pickI (c n:Int):Int:=if c<0 then (-(c+1)) % n else c % n
theorem pickI_neg {c n:Int}(h:c<0):pickI c n=(-(c+1)) % n:=by unfold pickI;rw [if_pos h]
theorem pickI_pos {c n:Int}(h:¬c<0):pickI c n=c % n:=by unfold pickI;rw [if_neg h]
theorem pickI_lo (c n:Int)(h:1<=n):0<=pickI c n:=by unfold pickI;split<;>exact Int.emod_nonneg _ (by omega)
theorem pickI_hi (c n:Int)(h:1<=n):pickI c n<n:=by unfold pickI;split<;>exact Int.emod_lt_of_pos _ (by omega)
end Go.Proofs.YtgdcjccbdmcebabGreatDoor
namespace Go.Proofs.YtgdcjccbdmcebabGreatDoor
open Go.RowKit
set_option maxRecDepth 100000
theorem Zah {w w':World}{B:Nat}{e:TypeId}{size n:Nat}{v:Value}{xs:List Value}(h:w.ownsRow B e size v n xs)(hb:Below w.heap.size w w'):w'.ownsRow B e size v n xs:=by
 obtain⟨h1,h2⟩:=h
 refine⟨h1,?_⟩
 rcases h2 with h2 | ⟨g,cap,cur,rfl,hg,hh,hr⟩
 ·exact Or.inl h2
 ·refine Or.inr ⟨g,cap,cur,rfl,hg,?_,hr⟩
  rw [hb.block g (by obtain⟨hlt,_⟩:=Array.getElem?_eq_some_iff.1 hh;exact hlt)]
  exact hh
theorem Za3 {w:World}{B:Nat}{e:TypeId}{size n:Nat}{v:Value}{xs:List Value}(h:w.ownsRow B e size v n xs):∃a c,v= .slice a n c:=by
 rcases h.2 with⟨rfl,rfl⟩ | ⟨g,cap,cur,rfl,_⟩
 ·exact⟨none,0,rfl⟩
 ·exact⟨_,_,rfl⟩
theorem Zab (w:World)(g o o':Nat)(v:Value)(h:o≠o'):(w.setCell ⟨g,o,none⟩ v).cell? ⟨g,o',none⟩=w.cell? ⟨g,o',none⟩ :=
 World.cell?_setCell_other _ _ _ _ (fun e=>h (Addr.mk.inj e).2.1)
theorem Zci {w:World}{B B':Nat}{e:TypeId}{size n:Nat}{v:Value}{xs:List Value}(h:w.ownsRow B e size v n xs)(hB:B'<=B):w.ownsRow B' e size v n xs:=by
 obtain⟨h1,h2⟩:=h
 refine⟨h1,?_⟩
 rcases h2 with h2 | ⟨g,cap,cur,hv,hg,hr⟩
 ·exact Or.inl h2
 ·exact Or.inr ⟨g,cap,cur,hv,Nat.le_trans hB hg,hr⟩
theorem own_nil {w:World}{B:Nat}{e:TypeId}{size n c:Nat}{xs:List Value}(h:w.ownsRow B e size (.slice none n c) n xs):c=0:=by
 rcases h.2 with⟨h1,_⟩ | ⟨g,cap,cur,h1,_⟩
 ·simpa using congrArg (fun v=>match v with | Value.slice _ _ c=>c | _=>0) h1
 ·simp at h1
theorem Zbd (x:World)(cs:Array Value)(t:TypeId)(b:Nat)(hb:b=x.heap.size):(x.alloc (.cells cs t)).heap[b]? =some (.cells cs t (0,0)):=by subst hb;exact heap_alloc_new x _
theorem Zaj (x:World)(o:Obj)(b:Nat)(hb:b<x.heap.size):(x.alloc o).heap[b]? =x.heap[b]? :=((Below.refl x.heap.size x).alloc (Nat.le_refl _) o).block b hb
theorem Zb5 (b o j:Nat):(⟨b,o,none⟩:Addr).add j=⟨b,o+j,none⟩:=by
 cases j<;>simp [Addr.add]
end Go.Proofs.YtgdcjccbdmcebabGreatDoor
namespace Go.Proofs.YtgdcjccbdmcebabGreatDoor
theorem Zde (l:List Tm)(t:Tm)(i:Nat)(hi:i<l.length+1):(l++[t]).getD i .z=if i<l.length then l.getD i .z else t:=by
 rw [List.getD_eq_getElem?_getD,List.getD_eq_getElem?_getD]
 by_cases h:i<l.length
 ·rw [if_pos h,List.getElem?_append_left h]
 ·obtain rfl:i=l.length:=by omega
  rw [if_neg h,List.getElem?_append_right (Nat.le_refl _),Nat.sub_self]
  rfl
end Go.Proofs.YtgdcjccbdmcebabGreatDoor
namespace Go.Proofs.YtgdcjccbdmcebabGreatDoor
open Go.RowKit
theorem Hid.mk {p:Prop}(h:p):Hid p:=h
end Go.Proofs.YtgdcjccbdmcebabGreatDoor
namespace Go.Proofs.YtgdcjccbdmcebabGreatDoor
structure OkNode (F:FlowD)(i:Nat):Prop where
 bu1:1<=F.bu i
 bu2:F.bu i<=5
 cl1:1<=F.cl i
 cl2:F.cl i<=1048576
 be1:0<=F.be i
 be2:F.be i<=1048576
 ba1:1<=F.ba i
 ba2:F.ba i<=1048576
 ca1:F.ba i<=F.ca i
 ca2:F.ca i<=1048576
 ji1:0<=F.ji i
 ji2:F.ji i<=1048576
def OkEdge (F:FlowD)(i k:Nat):Prop:=0<=F.af i k/\F.af i k<F.n/\(0<k->F.af i (k - 1)<F.af i k)
def OkEdges (F:FlowD)(i:Nat):Prop:=∀k,k<F.an i->OkEdge F i k
structure OkTop (F:FlowD):Prop where
 dl1:1<=F.dl
 dl2:F.dl<=1048576
 n1:1<=F.n
 n2:F.n<=12
inductive Gone (F:FlowD):Nat->Prop
 | mk (i:Nat):(∀k,k<F.an i->Gone F (F.af i k).toNat)->Gone F i
structure FlOk (F:FlowD):Prop where
 top:OkTop F
 node:∀j,j<F.n->OkNode F j
 edge:∀j,j<F.n->OkEdges F j
 gone:∀j,j<F.n->Gone F j
theorem scope_jumps_one {P:Program}{Q:Exit->Act->World->Prop}{a:Act}{w:World}{c rest:Code}(l:Nat)(J:Act->World->Prop)(μ:Act->World->Nat)(hf:findLabel c l=some (Code.skip.seq rest))
  (start:∀R:Exit->Act->World->Prop,(∀a w,J a w->rest.wp P R a w)->c.wp P R a w)
  (pass:∀a w,J a w->rest.wp P (Exit.jump l (fun a' w'=>J a' w'/\μ a' w'<μ a w) Q) a w):(Code.scope c).wp P Q a w :=
 wp_scope_jumps l J μ hf (start _ fun a w hJ=>wp_mono (pass a w hJ) fun e a w h=>by
  cases e with
  | goto l'=>exact⟨h.1,h.2.1⟩
  | normal=>exact h
  | exit id=>exact h
  | ret=>exact h
  | panic ch=>exact h
  | outgrown=>exact h) (fun a w hJ=>wp_seq (wp_skip (pass a w hJ)))
theorem least_of {p:Nat->Prop}(h:∃n,p n):∃n,p n/\∀m,p m->n<=m:=by
 obtain⟨n,hn⟩:=h
 induction n using Nat.strongRecOn with
 | _ n ih =>
  by_cases h2:∃m,m<n/\p m
  ·obtain⟨m,h3,h4⟩:=h2
   exact ih m h3 h4
  ·refine⟨n,hn,fun m hm=> ?_⟩
   rcases Nat.lt_or_ge m n with h3 | h3
   ·exact absurd ⟨m,h3,hm⟩ h2
   ·exact h3
theorem scope_jumps_ghost {P:Program}{Q:Exit->Act->World->Prop}{a:Act}{w:World}{c rest:Code}(l:Nat)(J:Nat->Act->World->Prop)(hf:findLabel c l=some (Code.skip.seq rest))
  (start:∀R:Exit->Act->World->Prop,(∀n a w,J n a w->rest.wp P R a w)->c.wp P R a w)
  (pass:∀n a w,J n a w->rest.wp P (Exit.jump l (fun a' w'=>∃m,m<n/\J m a' w') Q) a w):(Code.scope c).wp P Q a w:=by
 obtain⟨μ,hμ⟩:∃μ:Act->World->Nat,∀a w,(∃n,J n a w)->J (μ a w) a w/\∀m,J m a w->μ a w<=m:=by
  refine Classical.skolem (p:=fun a (f:World->Nat)=>∀w,(∃n,J n a w)->J (f w) a w/\∀m,J m a w->f w<=m) |>.1 (fun a=> ?_)
  refine Classical.skolem (p:=fun w (k:Nat)=>(∃n,J n a w)->J k a w/\∀m,J m a w->k<=m) |>.1 (fun w=> ?_)
  by_cases h:∃n,J n a w
  ·obtain⟨n,h1,h2⟩:=least_of h
   exact⟨n,fun _=>⟨h1,h2⟩⟩
  ·exact⟨0,fun h2=>absurd h2 h⟩
 refine scope_jumps_one l (fun a w=>∃n,J n a w) μ hf (fun R hR=>start R (fun n a w hJ=>hR a w ⟨n,hJ⟩)) (fun a w hJ=> ?_)
 obtain⟨h1,h2⟩:=hμ a w hJ
 refine wp_mono (pass _ a w h1) fun e a' w' h=> ?_
 cases e with
 | goto l' =>
  obtain⟨g1,m,g2,g3⟩:=h
  exact⟨g1,⟨m,g3⟩,Nat.lt_of_le_of_lt ((hμ a' w' ⟨m,g3⟩).2 m g3) g2⟩
 | normal=>exact h
 | exit id=>exact h
 | ret=>exact h
 | panic ch=>exact h
 | outgrown=>exact h
end Go.Proofs.YtgdcjccbdmcebabGreatDoor
