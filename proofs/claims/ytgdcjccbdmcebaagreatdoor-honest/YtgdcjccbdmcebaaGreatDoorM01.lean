import Init
import Derived.Test.YtgdcjccbdmcebaaGreatDoorProg
import GoSem.Claim
import GoSem.ClaimJoined
import GoSem.ClaimMapViews
import Derived.JoinedTies
import Derived.KernelRfl
import Derived.RowKit
import Derived.WalkKit
import Derived.WalkSpells
import Derived.WalkLawsBesides
import Derived.Deep.OwnRows
import Derived.Deep.QuietTactic
import Derived.BigQuiet
import Derived.Lib.SliceRun
import Derived.Laws.IdiomCopy
import Derived.Below
import Derived.Conc.Holds
import Derived.SevenTiedAt
import Derived.Handed
set_option linter.all false
set_option maxHeartbeats 400000
set_option maxRecDepth 100000
open Go renaming run_loadCells_list->QAa,run_storeCells_cells->QAb,run_underlying->QAc
open Go.Builtin renaming lenOf->QAd,clear_->QAe,firstCells->QAf,zeroCells->QAg,copy_->QAh
open List renaming getElem_mem->QAi,ext_getElem?->QAj,getElem?_drop->QAk,map_eq_nil_iff->QAl,getElem?_modify->QAm,getElem?_set_ne->QAn,length_set->QAo,map_append->QAp,filter_congr->QAq,range->QAr,length_cons->QAs,filter_cons_of_neg->QAu,filter_cons_of_pos->QAv,replicate->QAw,length_drop->QAx,getElem?_eq_none->QAy,filter_eq_nil_iff->QAz,length_append->QBa,getElem?_take_of_lt->QBb,filter_append->QBc,getElem?_eq_getElem->QBd,getElem?_append_right->QBe,length_take->QBf,getElem?_append_left->QBg,getD_eq_getElem?_getD->QBh
open Nat renaming add_mul->QBi,mul_add->QBj,pow_add->QBk,add_zero->QBl,le_of_lt->QBm,sub_self->QBn,xor_self->QBo,zero_le->QBp,le_trans->QBq,lt_or_ge->QBr,div_eq_of_lt->QBs,mul_comm->QBt,lt_of_lt_of_le->QBu,pow_succ->QBv,mod_lt->QBw,shiftRight_eq_div_pow->QBx,two_pow_pos->QBy,div_le_div_right->QBz,div_div_eq_div_mul->QCa,mod_eq_sub_mod->QCb,le_refl->QCc,mod_eq_of_lt->QCd
open Option renaming getD_some->QCe,some.injEq->QCf
namespace Go.Proofs.YtgdcjccbdmcebaaGreatDoor
open Tryz
structure Ad where
 dl:Int
 n:Nat
 bu:Nat->Int
 cl:Nat->Int
 be:Nat->Int
 ba:Nat->Int
 ca:Nat->Int
 ji:Nat->Int
 an:Nat->Nat
 af:Nat->Nat->Int
def pw (b:Int)(m:Nat):Int:=b * 2 ^ m
theorem Fu (b:Int):pw b 0=b:=by simp[pw]
theorem He (b:Int)(m:Nat):pw b (m+1)=2 * pw b m:=by unfold pw;rw[Int.pow_succ];rw[<-Int.mul_assoc,Int.mul_comm]
theorem Ky (b:Int)(h:1<=b)(m:Nat):1<=pw b m:=by
 induction m with
 | zero=>rw[Fu];exact h
 | succ m a=>rw[He];omega
theorem Jz (b:Int)(h:1<=b)(m n:Nat)(a:m<=n):pw b m<=pw b n:=by
 obtain⟨d,rfl⟩:=Nat.exists_eq_add_of_le a;clear a
 induction d with
 | zero=>exact Int.le_refl _
 | succ d c=>have:=He b (m+d);have:=Ky b h (m+d);rw[<-Nat.add_assoc];omega
theorem pw_ge (b:Int)(h:1<=b)(m:Nat):((2 ^ m:Nat):Int)<=pw b m:=by
 induction m with
 | zero=>rw[Fu];simpa using h
 | succ m a=>rw[He,QBv];omega
def Zbs (base cap jit k:Int)(Ar:Int):Int:=min (pw base (k - 1).toNat) cap+Ar % (jit+1)
theorem JA (base cap k:Int)(m:Nat)(hb:1<=base)(h:(m:Int)<=k - 1\/m=0)(a:k<=(m:Int)+1\/cap<=pw base m) :
  min (pw base (k - 1).toNat) cap=min (pw base m) cap:=by
 rcases a with a | a
 .have:(k - 1).toNat=m:=by omega
  rw[this]
 .rcases h with h | h
  .have:=Jz base hb m (k - 1).toNat (by omega)
   omega
  .subst h
   have:=Jz base hb 0 (k - 1).toNat (by omega);omega
structure AO where
 st:Int
 tries:Int
 tok:Int
 fin:Int
 sign:Int
 BM:Int
 Bg:Int
def AO.z:AO:=⟨0,0,0,0,0,0,0⟩
structure Ag where
 id:Int
 fl:Ad
 st:Int
 CW:Int
 Cz:Int
 steps:List AO
 ended:Int
def Ag.z:Ag:=⟨0,⟨0,0,fun _=>0,fun _=>0,fun _=>0,fun _=>0,fun _=>0,fun _=>0,fun _=>0,fun _ _=>0⟩,0,0,0,[],0⟩
structure Ba where
 run:Int
 node:Nat
def Ba.z:Ba:=⟨0,0⟩
structure Ab where
 time:Int
 Ar:Int
 runs:List Ag
 queue:List Ba
 Ah:Int
 Ai:Int
 timers:Int
 ends:Int
def Za1:Ab:=⟨0,0,[],[],0,0,0,0⟩
def Zao (now span:Int):Int:=if now+span > 4611686018427387904 then 4611686018427387904 else now+span
def Ab.at_ (e:Ab)(i:Nat):Ag:=e.runs.getD i .z
def Ag.at_ (r:Ag)(k:Nat):AO:=r.steps.getD k .z
def Ab.AL (e:Ab)(i:Nat)(f:Ag->Ag):Ab:={ e with runs:=e.runs.modify i f }
def Ag.Af (r:Ag)(k:Nat)(f:AO->AO):Ag:={ r with steps:=r.steps.modify k f }
def Ab.Af (e:Ab)(i k:Nat)(f:AO->AO):Ab:=e.AL i (fun r=>r.Af k f)
def Ab.find (e:Ab)(id:Int):Option Nat:=e.runs.findIdx? (fun r=>r.id == id)
def Ag.work (r:Ag)(tok:Int):Option Nat:=r.steps.findIdx? (fun s=>s.st == 3&&s.tok == tok)
def Ab.task (e:Ab)(tok:Int):Option (Nat×Nat):=do
 let i <-e.runs.findIdx? (fun r=>(r.work tok).isSome)
 let k <-(e.at_ i).work tok
 return (i,k)
def Ab.ready (e:Ab)(i k:Nat):Ab:={ e.Af i k (fun s=>{ s with st:=2 }) with queue:=e.queue++[⟨(e.at_ i).id,k⟩] }
def Ag.free (r:Ag)(k:Nat):Bool:=(r.at_ k).st == 1&&(QAr (r.fl.an k)).all (fun j=>(r.at_ (r.fl.af k j).toNat).st == 5)
def Ab.Bm (e:Ab)(i:Nat):Ab:=(QAr (e.at_ i).steps.length).foldl (fun e k=>if (e.at_ i).free k then e.ready i k else e) e
def Zdb:List Ag->Nat->Option Nat
 | _,0=>none
 | l,k+1=>match Zdb l k with
  | none=>if 0<(l.getD k .z).ended then some k else none
  | some o=>if 0<(l.getD k .z).ended/\(l.getD k .z).ended<(l.getD o .z).ended then some k else some o
def Ab.begin (e:Ab)(f:Ad):Ab :=
 let n:=e.Ah+1
 let r:Ag:=⟨n,f,1,Zao e.time f.dl,e.timers+1,QAw f.n ⟨1,0,0,0,0,0,0⟩,0⟩
 ({ e with Ah:=n,timers:=e.timers+1,runs:=e.runs++[r] }:Ab).Bm e.runs.length
def Ab.AM (e:Ab)(f:Ad):Option Ab :=
 if e.runs.length=6 then
  match Zdb e.runs e.runs.length with
  | none=>none
  | some o=>some (({ e with runs:=e.runs.take o++e.runs.drop (o+1) }:Ab).begin f)
 else some (e.begin f)
def Ab.Bl (e:Ab):Option (Ba×Int×Int×Ab) :=
 match e.queue with
 | []=>none
 | p::q =>
  match e.find p.run with
  | none=>none
  | some i =>
   let r:=e.at_ i
   let t:=(r.at_ p.node).tries+1
   let AY:=r.fl.be p.node
   let e1:={ e with queue:=q,Ai:=e.Ai+1,timers:=e.timers+1+(if AY > 0 then 1 else 0) }.Af i p.node (fun s=>{ s with st:=3,tries:=t,tok:=e.Ai+1,fin:=Zao e.time (r.fl.cl p.node),BM:=e.timers+1,sign:=if AY > 0 then Zao e.time AY else 0,Bg:=if AY > 0 then e.timers+2 else s.Bg })
   some (p,t,e.Ai+1,e1)
def Ab.AY (e:Ab)(tok:Int):Option Ab :=
 match e.task tok with
 | none=>none
 | some (i,k) =>
  let AY:=(e.at_ i).fl.be k
  if AY > 0 then some ({ e with timers:=e.timers+1 }.Af i k (fun s=>{ s with sign:=Zao e.time AY,Bg:=e.timers+1 })) else some e
def Ab.end_ (e:Ab)(i:Nat)(st:Int):Ab :=
 { e.AL i (fun r=>{ r with st:=st,ended:=e.ends+1,steps:=r.steps.map (fun s=>if s.st=5\/s.st=6 then s else { s with st:=7 }) }) with ends:=e.ends+1,queue:=e.queue.filter (fun p=> !(p.run == (e.at_ i).id)) }
def Ag.outcome (r:Ag):Option Int :=
 if r.steps.all (fun s=>s.st == 5||s.st == 6||s.st == 7) then some (if r.steps.all (fun s=>s.st == 5) then 2 else 3) else none
def Ab.settle (e:Ab)(i:Nat):Ab :=
 match (e.at_ i).outcome with
 | none=>e
 | some st=>e.end_ i st
def Ab.complete (e:Ab)(tok:Int):Option Ab :=
 match e.task tok with
 | none=>none
 | some (i,k)=>some (((e.Af i k (fun s=>{ s with st:=5 })).Bm i).settle i)
def Ag.lost (r:Ag)(k:Nat):Bool:=(r.at_ k).st == 1&&(QAr (r.fl.an k)).any (fun j=>(r.at_ (r.fl.af k j).toNat).st == 6||(r.at_ (r.fl.af k j).toNat).st == 7)
def Ag.Cm (r:Ag):Ag:=(QAr r.steps.length).foldl (fun r k=>if r.lost k then r.Af k (fun s=>{ s with st:=7 }) else r) r
def Ag.BN:Nat->Ag->Ag
 | 0,r=>r
 | m+1,r=>Ag.BN m r.Cm
def Ab.AH (e:Ab)(i k:Nat):Ab :=
 let r:=e.at_ i
 let s:=r.at_ k
 if s.tries<r.fl.bu k then
  { e with timers:=e.timers+1 }.Af i k (fun s=>{ s with st:=4,fin:=Zao e.time (Zbs (r.fl.ba k) (r.fl.ca k) (r.fl.ji k) s.tries e.Ar),BM:=e.timers+1 })
 else (e.AL i (fun r=>Ag.BN r.steps.length (r.Af k (fun s=>{ s with st:=6 })))).settle i
def Ab.fail (e:Ab)(tok:Int):Option Ab :=
 match e.task tok with
 | none=>none
 | some (i,k)=>some (e.AH i k)
def Ab.cancel (e:Ab)(id:Int):Option Ab :=
 match e.find id with
 | none=>none
 | some i=>if (e.at_ i).st=1 then some (e.end_ i 4) else none
structure CL where
 i:Nat
 k:Option Nat
 sign:Bool
 tm:Int
 sq:Int
def CL.z:CL:=⟨0,none,false,0,0⟩
def AO.AS (s:AO)(i k:Nat):List CL :=
 (if s.st=3\/s.st=4 then [⟨i,some k,false,s.fin,s.BM⟩] else [])++(if s.st=3/\s.sign > 0 then [⟨i,some k,true,s.sign,s.Bg⟩] else [])
def Ag.AS (r:Ag)(i:Nat):List CL :=
 if r.st=1 then ⟨i,none,false,r.CW,r.Cz⟩::(QAr r.steps.length).flatMap (fun k=>(r.at_ k).AS i k) else []
def Ab.AS (e:Ab):List CL:=(QAr e.runs.length).flatMap (fun i=>(e.at_ i).AS i)
abbrev CL.lt (a b:CL):Prop:=a.tm<b.tm\/(a.tm=b.tm/\a.sq<b.sq)
def CB:List CL->Nat->Option Nat
 | _,0=>none
 | l,k+1=>match CB l k with
  | none=>some k
  | some b=>if (l.getD k .z).lt (l.getD b .z) then some k else some b
def Ab.At (e:Ab)(t:CL):Ab :=
 let e1:={ e with time:=max e.time t.tm }
 match t.k with
 | none=>e1.end_ t.i 5
 | some k=>if ((e.at_ t.i).at_ k).st=4 then e1.ready t.i k else e1.AH t.i k
inductive CZ (tt:Int):Ab->Ab->Prop
 | none (e:Ab):(∀b,CB e.AS e.AS.length=some b->tt<(e.AS.getD b .z).tm)->CZ tt e { e with time:=tt }
 | step (e e2:Ab) (b:Nat):CB e.AS e.AS.length=some b->(e.AS.getD b .z).tm<=tt->CZ tt (e.At (e.AS.getD b .z)) e2->CZ tt e e2
def Ab.Hm (e:Ab)(ticks:Int):Int:=if e.time+ticks > 4611686018427387904 then 4611686018427387904 else e.time+ticks
def BR (e:Ab)(ticks:Int)(e2:Ab):Prop:=CZ (e.Hm ticks) e e2
theorem CZ.uniq {d:Int}{e a b:Ab}(h:CZ d e a)(g:CZ d e b):a=b:=by
 induction h generalizing b with
 | none e c =>
  cases g with
  | none _ _=>rfl
  | step _ _ k q1 m _=>have:=c k q1;omega
 | step e j k c l _ f =>
  cases g with
  | none _ q=>have:=q k c;omega
  | step _ _ k2 q1 _ i =>
   rw[c] at q1
   cases q1
   exact f i
theorem Zbk (e:Ab)(i:Nat)(f:Ag->Ag):(e.AL i f).runs.length=e.runs.length:=by simp[Ab.AL]
theorem Zbr (e:Ab)(i j:Nat)(f:Ag->Ag)(a:j<e.runs.length):(e.AL i f).at_ j=if i=j then f (e.at_ j) else e.at_ j:=by
 unfold Ab.at_ Ab.AL;simp only[QBh,QAm,QBd a,QCe]
 split<;>rfl
theorem Zal (r:Ag)(k:Nat)(f:AO->AO):(r.Af k f).steps.length=r.steps.length:=by simp[Ag.Af]
theorem Zeg (r:Ag)(k j:Nat)(f:AO->AO)(a:j<r.steps.length):(r.Af k f).at_ j=if k=j then f (r.at_ j) else r.at_ j:=by
 unfold Ag.at_ Ag.Af;simp only[QBh,QAm,QBd a,QCe]
 split<;>rfl
structure Jr where
 kind:Int
 at_:Nat
 data:List Int
def Jr.z:Jr:=⟨0,0,[]⟩
abbrev BI:=Nat->Option (List Int)
def Df:BI:=fun _=>none
def EB (f:BI)(o:Jr):BI:=fun i=>if i=o.at_ then (if o.kind=3 then none else if o.kind=2 then some ((f i).getD []++o.data) else some o.data) else f i
structure Ax where
 CH:BI
 now:BI
 Ap:List Jr
 left:Int
 full:Int
 down:Bool
def wI (x:Int):Int:=(x+9223372036854775808) % 18446744073709551616 - 9223372036854775808
def Ax.Bz (d:Ax):Int:=if d.down=true\/d.left=0 then 11 else if d.full=0 then 10 else 0
def Ax.wrote (d:Ax):Ax:=if d.down=true\/d.left=0 then { d with down:=true } else if d.full=0 then { d with left:=wI (d.left - 1),full:= -1 } else { d with left:=wI (d.left - 1),full:=wI (d.full - 1) }
def Ax.BU (d:Ax)(o:Jr):Int:=if d.Bz≠0 then d.Bz else if d.now o.at_=none/\o.kind=3 then 9 else 0
def Ax.told (d:Ax)(o:Jr):Ax :=
 if d.Bz=11 then { d.wrote with Ap:=d.Ap++[o] } else if d.BU o≠0 then d.wrote else { d.wrote with now:=EB d.now o,Ap:=d.Ap++[o] }
def Ax.synced (d:Ax):Ax:=if d.Bz≠0 then d.wrote else { d.wrote with CH:=d.Ap.foldl EB d.CH,Ap:=[] }
def Ct (n:Nat):List Int:=if h:n=0 then [] else ((n % 256:Nat):Int)::Ct (n / 256)
theorem Zd3:Ct 0=[]:=by unfold Ct;rw[dif_pos rfl]
theorem Fo {n:Nat}(h:n≠0):Ct n=((n % 256:Nat):Int)::Ct (n / 256):=by
 rw[Ct,dif_neg h]
theorem Zd9:∀k n:Nat,n<256 ^ k->(Ct n).length<=k
 | 0,n,h=>by
  have:n=0:=by simpa using h
  subst this;rw[Zd3];exact QCc _
 | k+1,n,h=>by
  by_cases a:n=0
  .subst a;rw[Zd3];exact QBp _
  .rw[Fo a,QAs]
   have:=Zd9 k (n / 256) (Nat.div_lt_of_lt_mul (by rw[QBv] at h;rw[QBt];exact h));omega
def AU (op:Int)(data:List Int)(n:Nat):List Int:=op::data++Ct n
def SI (s c:Nat):Nat:=(s ^^^ c) * 16777619 % 4294967296
def DE (l:List Int):Nat:=l.foldl (fun s c=>SI s c.toNat) 2166136261
def CV (l:List Int):List Int:=[((DE l % 256:Nat):Int),((DE l / 256 % 256:Nat):Int),((DE l / 65536 % 256:Nat):Int),((DE l / 16777216 % 256 ||| 1:Nat):Int)]
theorem Mf (l:List Int):(CV l).length=4:=rfl
def Cu (l:List Int):List Int:=[((l.length % 256:Nat):Int),((l.length / 256 % 256:Nat):Int)]
def Zar (l:List Int):List Int:=Cu l++l++CV l
theorem Zei (l:List Int):(Zar l).length=l.length+6:=by unfold Zar Cu;simp[Mf]
def Zcx (short:Nat)(l:List Int):List Int:=QAw short 0++Zar l
theorem QX (short:Nat)(l:List Int):(Zcx short l).length=short+l.length+6:=by unfold Zcx;rw[QBa,List.length_replicate,Zei];omega
def Hs (f:BI)(M:Nat):Prop:=∀i s,f i=some s->s.length<=M
theorem Hs.do_ {f:BI}{M:Nat}(h:Hs f M)(o:Jr){N:Nat}(b:M+o.data.length<=N):Hs (EB f o) N:=by
 intro i s a;unfold EB at a
 split at a
 .split at a
  .cases a
  .split at a
   .simp only[QCf] at a
    subst a;rw[QBa]
    cases e:f i with
    | none=>simp;omega
    | some t=>have:=h i t e;simp;omega
   .simp only[QCf] at a
    subst a;omega
 .have:=h i s a;omega
theorem Hs.mono {f:BI}{M N:Nat}(h:Hs f M)(a:M<=N):Hs f N:=fun i s b=>QBq (h i s b) a
def Np (x i:Nat):Nat:=if i<8 then x * 2 ^ (8 * i) else 0
def DJ (f:Nat->Nat):Nat->Nat
 | 0=>0
 | i+1=>DJ f i ||| Np (f i) i
theorem Nq {x:Nat}(h:x<256)(i:Nat):Np x i<18446744073709551616:=by
 unfold Np
 split
 .rename_i hi
  have:2 ^ (8 * i)<=2 ^ 56:=Nat.pow_le_pow_right (by decide) (by omega);have a:x * 2 ^ (8 * i)<=255 * 2 ^ 56:=Nat.mul_le_mul (by omega) this;omega
 .decide
theorem RA {f:Nat->Nat}(n:Nat)(h:∀k,k<n->f k<256):∀i,i<=n->DJ f i<18446744073709551616
 | 0,_=>by show (0:Nat)<18446744073709551616;decide
 | i+1,hi=>by
  have a:=RA n h i (by omega);have b:=Nq (h i (by omega)) i;exact Nat.or_lt_two_pow (n:=64) a b
theorem Vv:∀(i n:Nat),i<(Ct n).length->(Ct n)[i]? =some ((n / 256 ^ i % 256:Nat):Int)
 | i,0,h=>by rw[Zd3] at h;simp at h
 | 0,n+1,_=>by rw[Fo (by omega)];simp
 | i+1,n+1,h=>by
  rw[Fo (by omega)] at h ⊢;simp only[QAs] at h;rw[List.getElem?_cons_succ,Vv i ((n+1) / 256) (by omega),QCa,QBv,QBt]
theorem Td (n:Nat):n<256 ^ (Ct n).length:=by
 induction n using Nat.strongRecOn with
 | _ n b =>
  by_cases a:n=0
  .subst a;rw[Zd3];decide
  .rw[Fo a,QAs,QBv]
   have:=b (n / 256) (Nat.div_lt_self (by omega) (by decide));omega
theorem OG {n:Nat}(hn:n<18446744073709551616){f:Nat->Nat}(hf:∀k,k<(Ct n).length->f k=n / 256 ^ k % 256):∀i,i<=(Ct n).length->DJ f i=n % 256 ^ i
 | 0,_=>by simp[DJ,Nat.mod_one]
 | i+1,hi=>by
  have d:(Ct n).length<=8:=Zd9 8 n (by omega);have c:=OG hn hf i (by omega);unfold DJ;rw[c,hf i (by omega)];unfold Np;rw[if_pos (by omega)];have e:(256:Nat) ^ i=2 ^ (8 * i):=by rw[show (256:Nat)=2 ^ 8 by rfl,<-Nat.pow_mul]
  have a:n % 256 ^ i<2 ^ (8 * i):=by rw[<-e];exact QBw _ (Nat.pow_pos (by decide))
  have b:=Nat.two_pow_add_eq_or_of_lt a (n / 256 ^ i % 256);rw[QBt,Nat.or_comm,<-b,<-e,QBv,Nat.mod_mul];omega
theorem DK {n:Nat}(hn:n<18446744073709551616){f:Nat->Nat}(hf:∀k,k<(Ct n).length->f k=((Ct n).getD k 0).toNat):DJ f (Ct n).length=n:=by
 rw[OG hn (fun k hk=>by rw[hf k hk,QBh,Vv k n hk];rfl) _ (QCc _),QCd (Td n)]
open Go.RowKit
theorem rb {a b:Bool}(h:a=b):Ending.returned (.bool a)=.returned (.bool b):=by rw[h]
theorem ri {k:IntKind}{a b:Int}(h:a=b):Ending.returned (.int k a)=.returned (.int k b):=by rw[h]
theorem dT {p:Prop} [Decidable p](h:p):true=decide p:=(decide_eq_true h).symm
theorem dF {p:Prop} [Decidable p](h:¬p):false=decide p:=(decide_eq_false h).symm
theorem QW (n lo hi:Int)(w:World) :
  Calls prog 216 #[.int .i64 n,.int .i64 lo,.int .i64 hi] w fun e w'=>e=.returned (.bool (decide (lo<=n/\n<=hi)))/\w'=w:=by
 by_cases a:lo<=n
 .by_cases b:n<=hi
  .go_enter func216,ntmps216
   go_wp2
   go_ret
   exact⟨rb (dT (by omega)),rfl⟩
  .go_enter func216,ntmps216
   go_wp2
   go_ret
   exact⟨rb (dF (by omega)),rfl⟩
 .go_enter func216,ntmps216
  go_wp2
  go_ret
  exact⟨rb (by have:=decide_eq_false (p:=lo<=n) (by omega);simp[this]),rfl⟩
def Zem (c n:Int):Int:=if c<0 then (-(c+1)) % n else c % n
theorem Tq {c n:Int}(h:c<0):Zem c n=(-(c+1)) % n:=by unfold Zem;rw[if_pos h]
theorem Tr {c n:Int}(h:¬c<0):Zem c n=c % n:=by unfold Zem;rw[if_neg h]
theorem Zc8 (c n:Int)(h:1<=n):0<=Zem c n:=by unfold Zem;split<;>exact Int.emod_nonneg _ (by omega)
theorem Zdy (c n:Int)(h:1<=n):Zem c n<n:=by unfold Zem;split<;>exact Int.emod_lt_of_pos _ (by omega)
open Go.RowKit
theorem Zak {w w':World}{B:Nat}{e:TypeId}{size n:Nat}{v:Value}{xs:List Value}(h:w.ownsRow B e size v n xs)(hb:Below w.heap.size w w'):w'.ownsRow B e size v n xs:=by
 obtain⟨c,a⟩:=h;refine⟨c,?_⟩;rcases a with a | ⟨g,cap,cur,rfl,hg,hh,d⟩
 .exact Or.inl a
 .refine Or.inr ⟨g,cap,cur,rfl,hg,?_,d⟩
  rw[hb.block g (by obtain⟨b,_⟩:=Array.getElem?_eq_some_iff.1 hh;exact b)];exact hh
theorem Zaz {w:World}{B:Nat}{e:TypeId}{size n:Nat}{v:Value}{xs:List Value}(h:w.ownsRow B e size v n xs):∃a c,v=.slice a n c:=by
 rcases h.2 with⟨rfl,rfl⟩ | ⟨g,cap,cur,rfl,_⟩
 .exact⟨none,0,rfl⟩
 .exact⟨_,_,rfl⟩
theorem Zac (w:World)(g o a:Nat)(v:Value)(h:o≠a):(w.setCell ⟨g,o,none⟩ v).cell? ⟨g,a,none⟩=w.cell? ⟨g,a,none⟩ :=
 World.cell?_setCell_other _ _ _ _ (fun e=>h (Addr.mk.inj e).2.1)
theorem Zcs {w:World}{B B':Nat}{e:TypeId}{size n:Nat}{v:Value}{xs:List Value}(h:w.ownsRow B e size v n xs)(c:B'<=B):w.ownsRow B' e size v n xs:=by
 obtain⟨b,a⟩:=h;refine⟨b,?_⟩;rcases a with a | ⟨g,cap,cur,f,hg,d⟩
 .exact Or.inl a
 .exact Or.inr ⟨g,cap,cur,f,QBq c hg,d⟩
theorem YU {w:World}{B:Nat}{e:TypeId}{size n c:Nat}{xs:List Value}(h:w.ownsRow B e size (.slice none n c) n xs):c=0:=by
 rcases h.2 with⟨a,_⟩ | ⟨g,cap,cur,a,_⟩
 .simpa using congrArg (fun v=>match v with | Value.slice _ _ c=>c | _=>0) a
 .simp at a
theorem Zbm (x:World)(cs:Array Value)(t:TypeId)(b:Nat)(hb:b=x.heap.size):(x.alloc (.cells cs t)).heap[b]? =some (.cells cs t (0,0)):=by subst hb;exact heap_alloc_new x _
theorem Zam (x:World)(o:Obj)(b:Nat)(hb:b<x.heap.size):(x.alloc o).heap[b]? =x.heap[b]? :=((Below.refl x.heap.size x).alloc (QCc _) o).block b hb
theorem Zcg (b o j:Nat):(⟨b,o,none⟩:Addr).add j=⟨b,o+j,none⟩:=by
 cases j<;>simp[Addr.add]
open Go.RowKit
variable {P:Program}
theorem _root_.Go.RowKit.Below.trans' {a b c:World}(h:Below a.heap.size a b)(k:Below b.heap.size b c):Below a.heap.size a c:=h.trans (k.mono h.size)
theorem KB (w:World)(dT l ty elem:TypeId)(k m b o c e:Nat)(a:Addr)(d f:Nat)(cs:List Value)
  (hu:P.underlying dT=some (.slice elem)) (hs:(P.info? elem).map (·.size)=some k) (hm:Nat.min d c=m) (hn:cs.length=m * k)
  (hsrc:∀j v,cs[j]? =some v->w.cell? (a.add j)=some v) (hc:∀j,j<cs.length->(w.cell? ⟨b,o+j,none⟩).isSome=true) (hf:∀j,j<cs.length->w.frozen? ⟨b,o+j,none⟩=false) (h1:∀v∈cs,v.oneCell'=true) :
  (QAh #[dT,l] ty #[.slice (some ⟨b,o,none⟩) c e,.slice (some a) d f]).run P w=.ok (goInt m) (w.setCells b o cs):=by
 have hl:=QAa (P:=P) w a cs hsrc;have h:=QAb (P:=P) b o cs 0 w (by simpa using hc) (by simpa using hf) h1
 cases g:P.info? elem with
 | none=>simp[g] at hs
 | some i =>
  have hi:i.size=k:=by simpa[g] using hs
  simp[QAh,QAc hu,QAd,QAf,sizeOf,typeInfo,g,hi,hm,<-hn,hl,h]
theorem Zcz (w:World)(dT j ty elem:TypeId)(k:Nat)(d a:Option Addr)(b e c f:Nat)(hu:P.underlying dT=some (.slice elem))(h:(P.info? elem).map (·.size)=some k)(hn:Nat.min c b=0) :
  (QAh #[dT,j] ty #[.slice d b e,.slice a c f]).run P w=.ok (goInt 0) w:=by
 cases g:P.info? elem with
 | none=>simp[g] at h
 | some i =>
  have hl:∀(x:Addr),(loadCells x 0).run P w=.ok #[] w:=fun x=>by simpa using QAa (P:=P) w x [] (by simp)
  cases d<;>cases a<;>simp[QAh,QAc hu,QAd,QAf,sizeOf,typeInfo,g,hn,storeCells,hl]
theorem Zb5 (z:Array Value)(n:Nat):(QAg z n).toList=(QAw n z.toList).flatten:=by
 apply QAj
 intro i;unfold QAg;by_cases b:z.size=0
 .have c:z.toList=[]:=by apply List.eq_nil_of_length_eq_zero;simpa using b
  rw[c];simp[b]
 .rw[Array.toList_map,List.getElem?_map,Array.toList_range]
  by_cases hi:i<n * z.size
  .rw[List.getElem?_range hi]
   simp only[Option.map_some];have hk:i % z.size<z.size:=QBw _ (by omega)
   have:∀n i,i<n * z.size->(QAw n z.toList).flatten[i]? =z.toList[i % z.size]? :=by
    intro n
    induction n with
    | zero=>intro i h;simp at h
    | succ n d =>
     intro i h;rw[List.replicate_succ,List.flatten_cons];by_cases a:i<z.size
     .rw[QBg (by simpa using a),QCd a]
     .rw[QBe (by simp;omega),Array.length_toList,d (i - z.size) (by rw[QBi] at h;omega)]
      congr 1
      conv=>rhs;rw[show i=(i - z.size)+z.size by omega,Nat.add_mod_right]
   rw[this n i hi,Array.getElem?_toList,Array.getElem?_eq_getElem hk,getElem!_pos z _ hk]
  .rw[QAy (by simpa using hi)]
   simp only[Option.map_none]
   symm
   apply QAy
   rw[List.length_flatten,List.map_replicate,List.sum_replicate_nat,Array.length_toList];omega
theorem Fg (w:World)(t e ty:TypeId)(z:Value)(h:P.underlying t=some (.slice e))(i:∀w,(zeroValue e).run P w=.ok z w)(n:Nat)(a:List Value)(k:(QAw n z.cells.toList).flatten=a)(g:∀v∈a,v.oneCell'=true)(b o c:Nat)(hn:0<n)
  (hc:∀j,j<a.length->(w.cell? ⟨b,o+j,none⟩).isSome=true) (hf:∀j,j<a.length->w.frozen? ⟨b,o+j,none⟩=false) :
  (QAe #[t] ty #[.slice (some ⟨b,o,none⟩) n c]).run P w=.ok (.tuple #[]) (w.setCells b o a):=by
 have d:=QAb (P:=P) b o a 0 w (by simpa using hc) (by simpa using hf) g;have f:(QAg z.cells n).toList=a:=by rw[Zb5];exact k
 simp only[QBl] at d;obtain⟨m,rfl⟩:∃m,n=m+1:=⟨n - 1,by omega⟩;simp[QAe,QAc h,i,f,d]
structure RF (w w':World)(P:Nat)(ob:Option Nat)(lo hi:Nat):Prop where
 os:w'.os=w.os
 tape:w'.tape=w.tape
 output:w'.output=w.output
 size:w.heap.size<=w'.heap.size
 block:∀k,k<w.heap.size->k≠P->some k≠ob->w'.heap[k]? =w.heap[k]?
 off:P<w.heap.size->∀o,o<lo\/hi<=o->w'.cell? ⟨P,o,none⟩=w.cell? ⟨P,o,none⟩
 AD:P<w.heap.size->∀o,w'.frozen? ⟨P,o,none⟩=w.frozen? ⟨P,o,none⟩
theorem RF.Ae {w w':World}(P:Nat)(ob:Option Nat)(lo hi:Nat)(h:Below w.heap.size w w'):RF w w' P ob lo hi:=⟨h.os,h.tape,h.output,h.size,fun k hk _ _=>h.block k hk,fun b o _=>World.cell?_of_block (a:=⟨P,o,none⟩) (h.block P b),fun b o=>World.frozen?_of_block (a:=⟨P,o,none⟩) (h.block P b)⟩
theorem RF.trans {x y z:World}{P:Nat}{ob b:Option Nat}{lo hi:Nat}(h:RF x y P ob lo hi)(g:RF y z P b lo hi)(f:∀k,b=some k->ob=some k\/x.heap.size<=k):RF x z P ob lo hi:=by
 refine⟨g.os.trans h.os,g.tape.trans h.tape,g.output.trans h.output,QBq h.size g.size,fun k hk a d=> ?_,fun a o hl=>(g.off (QBu a h.size) o hl).trans (h.off a o hl),fun a o=>(g.AD (QBu a h.size) o).trans (h.AD a o)⟩;refine (g.block k (QBu hk h.size) a (fun e=> ?_)).trans (h.block k hk a d);rcases f k e.symm with c | c
 .exact d c.symm
 .omega
theorem RF.Bv (w:World)(P o:Nat)(ob:Option Nat)(v:Value){lo hi:Nat}(h:lo<=o/\o<hi):RF w (w.setCell ⟨P,o,none⟩ v) P ob lo hi :=
 ⟨rfl,rfl,rfl,by simp[World.setCell],fun k _ a _=>Below.heap_setCell w ⟨P,o,none⟩ v k (by simpa using a),fun _ b c=>World.cell?_setCell_other _ _ _ _ (fun e=>by have:=(Addr.mk.inj e).2.1;omega),fun _ b=>by rw[World.frozen?_setCell]⟩
structure Bt {α:Type}(ys:List α)(first:Nat)(xs:List α):Prop where
 Br:xs.length<=ys.length
 Ee:first<ys.length\/(first=0/\ys=[])
 at_:∀i,i<xs.length->ys[(first+i) % ys.length]? =xs[i]?
theorem Bt.nil {α:Type}:Bt ([]:List α) 0 []:=⟨QCc _,Or.inr ⟨rfl,rfl⟩,fun i h=>by simp at h⟩
theorem Bt.list {α:Type}{a xs:List α}{first:Nat}(h:Bt a first xs):xs=(a.drop first).take xs.length++a.take (xs.length - (a.length - first)):=by
 have hf:=h.Br
 apply QAj
 intro i;rcases h.Ee with b | ⟨b,c⟩
 .by_cases hi:i<xs.length
  .rw[<-h.at_ i hi]
   by_cases d:i<a.length - first
   .rw[QBg (by rw[QBf,QAx];omega),QBb hi,QAk,QCd (by omega)]
   .rw[QBe (by rw[QBf,QAx];omega),QBf,QAx,Nat.min_eq_right (by omega),QBb (by omega)]
    congr 1
    rw[QCb (by omega),QCd (by omega)];omega
  .rw[QAy (by omega),QAy]
   rw[QBa,QBf,QAx,QBf];omega
 .subst b c
  simp only[List.length_nil,Nat.le_zero_eq,List.length_eq_zero_iff] at hf;subst hf;simp
theorem Bt.push {α:Type}{b xs:List α}{first:Nat}(h:Bt b first xs)(l:xs.length<b.length)(x:α):Bt (b.set ((first+xs.length) % b.length) x) first (xs++[x]):=by
 have hf:first<b.length:=by
  rcases h.Ee with f | ⟨_,g⟩
  .exact f
  .subst g;simp at l
 refine⟨by simp;omega,Or.inl (by simpa using hf),fun i hi=> ?_⟩;rw[QBa,List.length_singleton] at hi;rw[QAo];by_cases e:i=xs.length
 .subst e
  rw[List.getElem?_set_self (QBw _ (by omega)),QBe (QCc _),QBn]
  rfl
 .have d:(first+xs.length) % b.length≠(first+i) % b.length:=by
   intro c;have hn:0<b.length:=by omega
   by_cases j:first+i<b.length
   .rw[QCd j] at c
    by_cases k:first+xs.length<b.length
    .rw[QCd k] at c;omega
    .rw[QCb (by omega),QCd (by omega)] at c;omega
   .rw[QCb (a:=first+i) (by omega),QCd (a:=first+i - b.length) (by omega),QCb (by omega),QCd (by omega)] at c
    omega
  rw[QAn d,QBg (by omega)];exact h.at_ i (by omega)
theorem Bt.pop {α:Type}{a xs:List α}{first:Nat}{x:α}(h:Bt a first (x::xs))(z:α):a[first]? =some x/\Bt (a.set first z) ((first+1) % a.length) xs:=by
 have hlen:=h.Br;simp only[QAs] at hlen
 have hf:first<a.length:=by
  rcases h.Ee with c | ⟨_,d⟩
  .exact c
  .subst d;simp at hlen
 refine⟨?_,by simp;omega,Or.inl (by rw[QAo];exact QBw _ (by omega)),fun i hi=> ?_⟩
 .have:=h.at_ 0 (by simp)
  rw[QBl,QCd hf] at this;simpa using this
 .rw[QAo,Nat.mod_add_mod]
  have:=h.at_ (i+1) (by simp;omega);rw[show first+1+i=first+(i+1) by omega]
  have b:first≠(first+(i+1)) % a.length:=by
   by_cases e:first+(i+1)<a.length
   .rw[QCd e];omega
   .rw[QCb (by omega),QCd (by omega)];omega
  rw[QAn b,this];simp
theorem Bt.MX {α:Type}(xs b:List α):Bt (xs++b) 0 xs:=by
 refine⟨by simp,?_,fun i hi=> ?_⟩
 .cases h:xs++b with
  | nil=>exact Or.inr ⟨rfl,rfl⟩
  | cons a l=>exact Or.inl (by simp)
 .rw[Nat.zero_add,QCd (by simp;omega),QBg hi]
theorem Zaa {w:World}{k:Nat}{o:Obj}(h:w.heap[k]? =some o):k<w.heap.size:=(Array.getElem?_eq_some_iff.1 h).1
structure Tm where
 id:Int
 tm:Int
 sq:Int
def Tm.z:Tm:=⟨0,0,0⟩
def EJ (l:List Tm):Nat->Option Nat
 | 0=>none
 | k+1=>match EJ l k with
  | none=>some k
  | some b=>if (l.getD k .z).tm<(l.getD b .z).tm then some k else some b
theorem FZ {l:List Tm}{k:Nat}(h:EJ l k=none):k=0:=by
 cases k with
 | zero=>rfl
 | succ k =>
  simp only[EJ] at h
  split at h
  .cases h
  .split at h<;>cases h
theorem JG {l:List Tm}:∀{k b:Nat},EJ l k=some b->b<k/\(∀j,j<k->(l.getD b .z).tm<=(l.getD j .z).tm)/\∀j,j<b->(l.getD b .z).tm<(l.getD j .z).tm:=by
 intro k
 induction k with
 | zero=>intro b h;cases h
 | succ k i =>
  intro b h;simp only[EJ] at h
  cases hb:EJ l k with
  | none =>
   rw[hb] at h;simp only[QCf] at h;subst h;have:=FZ hb;subst this
   exact⟨by omega,fun j a=>by obtain rfl:j=0:=by omega
                              exact Int.le_refl _,fun j a=>by omega⟩
  | some f =>
   rw[hb] at h;obtain⟨m,d,g⟩:=i hb;simp only at h;by_cases c:(l.getD k .z).tm<(l.getD f .z).tm
   .rw[if_pos c] at h
    simp only[QCf] at h;subst h;refine⟨by omega,fun j a=> ?_,fun j a=> ?_⟩
    .by_cases e:j=k
     .subst e;exact Int.le_refl _
     .have:=d j (by omega);omega
    .have:=d j a;omega
   .rw[if_neg c] at h
    simp only[QCf] at h;subst h;refine⟨by omega,fun j a=> ?_,g⟩;by_cases e:j=k
    .subst e;omega
    .exact d j (by omega)
def Bo (l:List Tm):Prop:=∀i j,i<j->j<l.length->(l.getD i .z).sq<(l.getD j .z).sq
def CD (l:List Tm)(id:Int)(k:Nat):Prop:=∃j,j<k/\(l.getD j .z).id=id
def Za2 (now tm:Int):Int:=if tm<=now then (if now+1 > 4611686018427387904 then 4611686018427387904 else now+1) else if tm > 4611686018427387904 then 4611686018427387904 else tm
def Uj (l:List Tm)(now sq id tm:Int)(x:Int)(l':List Tm)(sq':Int):Prop :=
 (CD l id l.length/\x=8/\l'=l/\sq'=sq) \/
 (¬CD l id l.length/\l.length=200/\x=5/\l'=l/\sq'=sq) \/
 (¬CD l id l.length/\l.length≠200/\x=0/\l'=l++[⟨id,Za2 now tm,sq+1⟩]/\sq'=sq+1)
def BZ (l:List Tm)(id:Int)(x:Int)(l':List Tm):Prop :=
 (∃i,i<l.length/\(l.getD i .z).id=id/\(∀j,j<i->(l.getD j .z).id≠id)/\x=0/\l'=l.take i++l.drop (i+1)) \/
 (¬CD l id l.length/\x=8/\l'=l)
def Bk (l:List Tm):Prop:=∀i j,i<j->j<l.length->(l.getD i .z).id≠(l.getD j .z).id
theorem Zc9 (l:List Tm)(b i:Nat)(hb:b<l.length):(l.take b++l.drop (b+1)).getD i .z=l.getD (if i<b then i else i+1) .z:=by
 rw[QBh,QBh]
 congr 1
 by_cases h:i<b
 .rw[if_pos h,QBg (by rw[QBf];omega),QBb h]
 .rw[if_neg h,QBe (by rw[QBf];omega),QAk,QBf]
  congr 1
  omega
theorem Zcl (l:List Tm)(b:Nat)(hb:b<l.length):(l.take b++l.drop (b+1)).length+1=l.length:=by
 rw[QBa,QBf,QAx];omega
theorem Bo.cut {l:List Tm}(h:Bo l){b:Nat}(hb:b<l.length):Bo (l.take b++l.drop (b+1)):=by
 intro i j d e;have hl:=Zcl l b hb;rw[Zc9 l b i hb,Zc9 l b j hb];by_cases a:i<b<;>by_cases c:j<b<;>simp only[a,c,if_true,if_false]<;>exact h _ _ (by omega) (by omega)
theorem Bk.cut {l:List Tm}(h:Bk l){b:Nat}(hb:b<l.length):Bk (l.take b++l.drop (b+1)):=by
 intro i j d e;have hl:=Zcl l b hb;rw[Zc9 l b i hb,Zc9 l b j hb];by_cases a:i<b<;>by_cases c:j<b<;>simp only[a,c,if_true,if_false]<;>exact h _ _ (by omega) (by omega)
def bl (x:Nat):Nat:=if x=0 then 0 else Nat.log2 x+1
theorem Ri (x k:Nat):bl x<=k↔x<2 ^ k:=by
 unfold bl
 split
 .rename_i h;subst h;exact⟨fun _=>QBy _,fun _=>QBp _⟩
 .rename_i h;exact Nat.log2_lt h
def CE (n t:Nat):Nat:=(bl (t ^^^ n) - 1) / 6
def slt (L t:Nat):Nat:=t / 2 ^ (6 * L) % 64
def pl (n t:Nat):Nat:=CE n t * 64+slt (CE n t) t
theorem xor_zero {a b:Nat}(h:a ^^^ b=0):a=b:=by
 have c:(a ^^^ b) ^^^ b=0 ^^^ b:=by rw[h]
 rwa[Nat.xor_assoc,QBo,Nat.xor_zero,Nat.zero_xor] at c
theorem ZK (a b k:Nat):(a ^^^ b)<2 ^ k↔a / 2 ^ k=b / 2 ^ k:=by
 have e:(a ^^^ b) / 2 ^ k=(a / 2 ^ k) ^^^ (b / 2 ^ k):=by
  rw[<-QBx,<-QBx,<-QBx,Nat.shiftRight_xor_distrib]
 constructor
 .intro h
  have:(a ^^^ b) / 2 ^ k=0:=QBs h;rw[e] at this;exact xor_zero this
 .intro h
  have d:(a ^^^ b) / 2 ^ k=0:=by rw[e,h,QBo]
  rcases QBr (a ^^^ b) (2 ^ k) with c | c
  .exact c
  .have:=Nat.div_pos c (QBy k);omega
theorem Zd1 (n t L:Nat):CE n t<=L↔t / 2 ^ (6 * (L+1))=n / 2 ^ (6 * (L+1)):=by
 rw[<-ZK,<-Ri];unfold CE;omega
theorem Zec (L t:Nat):slt L t<64:=QBw _ (by decide)
theorem Fb (n t:Nat):pl n t / 64=CE n t:=by unfold pl;have:=Zec (CE n t) t;omega
theorem Nf (n t:Nat):pl n t % 64=slt (CE n t) t:=by unfold pl;have:=Zec (CE n t) t;omega
theorem Fp (n t:Nat)(hn:n<=4611686018427387904)(a:t<=4611686018427387904):CE n t<=10:=by
 rw[Zd1,QBs (by omega),QBs (by omega)]
theorem Ws (n t:Nat)(hn:n<=4611686018427387904)(a:t<=4611686018427387904):pl n t<704:=by
 unfold pl;have:=Zec (CE n t) t;have:=Fp n t hn a;omega
def start (n k:Nat):Nat:=n / 2 ^ (6 * (k / 64+1)) * 2 ^ (6 * (k / 64+1))+k % 64 * 2 ^ (6 * (k / 64))
theorem Kx (L:Nat):2 ^ (6 * (L+1))=64 * 2 ^ (6 * L):=by rw[QBj,QBk];omega
theorem NS (t L:Nat):t / 2 ^ (6 * (L+1))=t / 2 ^ (6 * L) / 64:=by rw[Kx,QBt,QCa]
theorem UH {a b i j:Nat}(h:i<=j)(e:a / 2 ^ (6 * i)=b / 2 ^ (6 * i)):a / 2 ^ (6 * j)=b / 2 ^ (6 * j):=by
 obtain⟨d,rfl⟩:∃d,j=i+d:=⟨j - i,by omega⟩;rw[QBj,QBk,<-QCa,<-QCa,e]
theorem start_eq (n k:Nat):start n k=(n / 2 ^ (6 * (k / 64+1)) * 64+k % 64) * 2 ^ (6 * (k / 64)):=by
 unfold start;rw[Kx,QBi,Nat.mul_assoc _ 64]
theorem Zb6 (n k:Nat):start n k / 2 ^ (6 * (k / 64))=n / 2 ^ (6 * (k / 64+1)) * 64+k % 64:=by
 rw[start_eq,Nat.mul_div_cancel _ (QBy _)]
theorem Je (n k:Nat):start n k / 2 ^ (6 * (k / 64+1))=n / 2 ^ (6 * (k / 64+1)):=by
 rw[NS,Zb6];have:=QBw k (show 0<64 by decide);omega
theorem Ia (t L:Nat):t / 2 ^ (6 * L)=t / 2 ^ (6 * (L+1)) * 64+slt L t:=by
 rw[NS];unfold slt;omega
theorem Dy {n t k:Nat}(h:pl n t=k):t / 2 ^ (6 * (k / 64))=n / 2 ^ (6 * (k / 64+1)) * 64+k % 64:=by
 subst h;rw[Fb,Nf,Ia,(Zd1 n t (CE n t)).1 (QCc _)]
theorem Jy {n t L:Nat}(h:L<CE n t):t / 2 ^ (6 * (L+1))≠n / 2 ^ (6 * (L+1)):=fun e=>by
 have:=(Zd1 n t L).2 e;omega
theorem KN {n t k:Nat}(hn:n<=t)(hk:k<=pl n t):start n k<=t:=by
 have c:k / 64<=CE n t:=by rw[<-Fb];omega
 suffices h:n / 2 ^ (6 * (k / 64+1)) * 64+k % 64<=t / 2 ^ (6 * (k / 64)) by
  rw[start_eq];exact (Nat.le_div_iff_mul_le (QBy _)).1 h
 rw[Ia t (k / 64)];by_cases e:CE n t=k / 64
 .have a:=Nf n t
  rw[(Zd1 n t (k / 64)).1 (by omega),<-e,<-a,e];have b:=Fb n t;omega
 .have a:=Jy (n:=n) (t:=t) (L:=k / 64) (by omega)
  have b:n / 2 ^ (6 * (k / 64+1))<=t / 2 ^ (6 * (k / 64+1)):=QBz hn;omega
theorem Vx {n t k:Nat}(hn:n<=t)(hk:pl n t=k):n<=start n k:=by
 by_cases c:k / 64=0
 .have a:=Dy hk
  have b:=Zb6 n k;rw[c] at a b;simp at a b;omega
 .have a:=Jy (n:=n) (t:=t) (L:=k / 64 - 1) (by rw[<-hk,Fb] at *;omega)
  rw[show k / 64 - 1+1=k / 64 by omega] at a;have b:n / 2 ^ (6 * (k / 64))<=t / 2 ^ (6 * (k / 64)):=QBz hn;have d:n / 2 ^ (6 * (k / 64))<start n k / 2 ^ (6 * (k / 64)):=by rw[Zb6,<-Dy hk];omega
  exact QBm (Nat.lt_of_div_lt_div d)
theorem Mj {n t k:Nat}(hk:pl n t=k)(c:k<64):start n k=t:=by
 have a:=Dy hk;have b:=Zb6 n k;rw[show k / 64=0 by omega] at a b;simp at a b;omega
theorem Ts {n t k:Nat}(b:k<64)(h:start n k=t):pl n t=k:=by
 have a:=Zb6 n k;rw[show k / 64=0 by omega] at a;simp at a
 have hl:CE n t=0:=by
  have:CE n t<=0:=by rw[Zd1];simp;omega
  omega
 unfold pl;rw[hl];unfold slt;simp;omega
theorem Hb {n t k:Nat}(hk:pl n t=k)(c:64<=k):pl (start n k) t<64 * (k / 64):=by
 have a:=Dy hk;have b:=Zb6 n k
 have d:CE (start n k) t<=k / 64 - 1:=by
  rw[Zd1,show k / 64 - 1+1=k / 64 by omega,a,b]
 have e:=Zec (CE (start n k) t) t;unfold pl;omega
theorem GU {n m t L:Nat}(hn:L<=CE n t)(b:∀j,L<=j->m / 2 ^ (6 * (j+1))=n / 2 ^ (6 * (j+1)))(hl:L=0\/t / 2 ^ (6 * L)≠m / 2 ^ (6 * L)):CE m t=CE n t:=by
 have a1:L<=CE m t:=by
  rcases hl with h | h
  .omega
  .rcases QBr (CE m t) L with a | a
   .exfalso
    apply h
    have c:=(Zd1 m t (L - 1)).1 (by omega)
    rwa[show L - 1+1=L by omega] at c
   .exact a
 apply Nat.le_antisymm
 .rw[Zd1,b _ hn];exact (Zd1 n t _).1 (QCc _)
 .rw[Zd1,<-b _ a1];exact (Zd1 m t _).1 (QCc _)
theorem Hc {n t k:Nat}(hk:k<pl n t):pl (start n k) t=pl n t:=by
 have b:k / 64<=CE n t:=by rw[<-Fb];omega
 have c:∀j,k / 64<=j->start n k / 2 ^ (6 * (j+1))=n / 2 ^ (6 * (j+1)):=fun j h=>UH (by omega) (Je n k)
 have e:CE (start n k) t=CE n t:=by
  by_cases d:CE n t=k / 64
  .refine GU b c (Or.inr ?_)
   rw[Zb6,Ia t (k / 64),(Zd1 n t (k / 64)).1 (by omega)];have a:=Nf n t;rw[d] at a;have f:=Fb n t;omega
  .refine GU b c (Or.inr ?_)
   rw[Zb6];have a:=Jy (n:=n) (t:=t) (L:=k / 64) (by omega);have f:=Ia t (k / 64);have g:=Zec (k / 64) t;have:=QBw k (show 0<64 by decide);omega
 unfold pl;rw[e]
theorem YY {n m t k:Nat}(h:n<=m)(b:m<start n k)(hk:k<=pl n t):pl m t=pl n t:=by
 have l:k / 64<=CE n t:=by rw[<-Fb];omega
 have hm:m / 2 ^ (6 * (k / 64+1))=n / 2 ^ (6 * (k / 64+1)):=by
  have a1:n / 2 ^ (6 * (k / 64+1))<=m / 2 ^ (6 * (k / 64+1)):=QBz h;have a2:m / 2 ^ (6 * (k / 64+1))<=start n k / 2 ^ (6 * (k / 64+1)):=QBz (QBm b);rw[Je] at a2;omega
 have a:∀j,k / 64<=j->m / 2 ^ (6 * (j+1))=n / 2 ^ (6 * (j+1)):=fun j p=>UH (by omega) hm
 have e:CE m t=CE n t:=by
  by_cases g:k / 64=0
  .exact GU (L:=0) (QBp _) (by rw[g] at a;exact a) (Or.inl rfl)
  .refine GU l a (Or.inr ?_)
   have d:m / 2 ^ (6 * (k / 64))<start n k / 2 ^ (6 * (k / 64)):=by
    rw[Nat.div_lt_iff_lt_mul (QBy _),Zb6,<-start_eq];exact b
   rw[Zb6] at d;have f:=Ia t (k / 64);by_cases i:CE n t=k / 64
   .have c:=Nf n t
    rw[i] at c;have o:=Fb n t;rw[(Zd1 n t (k / 64)).1 (by omega)] at f;omega
   .have c:=Jy (n:=n) (t:=t) (L:=k / 64) (by omega)
    have c3:=Ia m (k / 64);rw[hm] at c3;have:=Zec (k / 64) t;have:=Zec (k / 64) m;omega
 unfold pl;rw[e]
def Zai (n:Nat)(l:List Tm)(k:Nat):List Int:=(l.filter (fun t=>pl n t.tm.toNat == k)).map (·.id)
def CR (n:Nat)(l:List Tm):Prop:=∀t∈l,(n:Int)<=t.tm/\t.tm<=4611686018427387904
def ZN (n:Nat)(l:List Tm)(k:Nat):Prop:=(∀j,j<k->Zai n l j=[])/\Zai n l k≠[]
theorem Zcf {l:List Tm}{b:Nat}(h:b<l.length):l.getD b .z∈l:=by
 rw[QBh,QBd h];exact QAi h
theorem Qs {l:List Tm}{t:Tm}(h:t∈l):∃i,i<l.length/\l.getD i .z=t:=by
 obtain⟨i,hi,rfl⟩:=List.mem_iff_getElem.1 h;exact⟨i,hi,by rw[QBh,QBd hi];rfl⟩
theorem Ib {l:List Tm}{b:Nat}(h:b<l.length):l=l.take b++l.getD b .z::l.drop (b+1):=by
 conv=>lhs;rw[<-List.take_append_drop b l]
 congr 1
 rw[QBh,QBd h];exact List.drop_eq_getElem_cons h
theorem Kv {n:Nat}{l:List Tm}{k:Nat}(h:Zai n l k=[]){t:Tm}(a:t∈l):pl n t.tm.toNat≠k:=by
 unfold Zai at h;rw[QAl,QAz] at h;have:=h t a;simpa using this
theorem Ja (n:Nat)(l:List Tm)(t:Tm)(k:Nat):Zai n (l++[t]) k=if pl n t.tm.toNat=k then Zai n l k++[t.id] else Zai n l k:=by
 unfold Zai;rw[QBc,QAp];by_cases h:pl n t.tm.toNat=k
 .rw[if_pos h,QAv (by simpa using h)];rfl
 .rw[if_neg h,QAu (by simpa using h)];simp
theorem Ku (n:Nat)(l:List Tm)(b k:Nat)(hb:b<l.length)(h:pl n (l.getD b .z).tm.toNat≠k):Zai n (l.take b++l.drop (b+1)) k=Zai n l k:=by
 unfold Zai
 conv=>rhs;rw[Ib hb]
 rw[QBc,QBc,QAu (by simpa using h)]
theorem QC (n:Nat)(l:List Tm)(b:Nat)(hb:b<l.length)(h:Bk l):∃i,i<(Zai n l (pl n (l.getD b .z).tm.toNat)).length/\(Zai n l (pl n (l.getD b .z).tm.toNat)).getD i 0=(l.getD b .z).id/\(∀j,j<i->(Zai n l (pl n (l.getD b .z).tm.toNat)).getD j 0≠(l.getD b .z).id)/\Zai n (l.take b++l.drop (b+1)) (pl n (l.getD b .z).tm.toNat)=(Zai n l (pl n (l.getD b .z).tm.toNat)).take i++(Zai n l (pl n (l.getD b .z).tm.toNat)).drop (i+1):=by
 generalize hk:pl n (l.getD b .z).tm.toNat=k
 generalize d:l.getD b .z=x at *
 have e:Zai n l k=((l.take b).filter (fun t=>pl n t.tm.toNat == k)).map (·.id)++x.id::((l.drop (b+1)).filter (fun t=>pl n t.tm.toNat == k)).map (·.id):=by
  unfold Zai
  conv=>lhs;rw[Ib hb]
  rw[d,QBc,QAv (by simpa using hk),QAp,List.map_cons]
 have f:Zai n (l.take b++l.drop (b+1)) k=((l.take b).filter (fun t=>pl n t.tm.toNat == k)).map (·.id)++((l.drop (b+1)).filter (fun t=>pl n t.tm.toNat == k)).map (·.id):=by
  unfold Zai;rw[QBc,QAp]
 have g:∀y∈((l.take b).filter (fun t=>pl n t.tm.toNat == k)).map (·.id),y≠x.id:=by
  intro y o;obtain⟨t,m,rfl⟩:=List.mem_map.1 o;have c:=(List.mem_filter.1 m).1;obtain⟨i,hi,rfl⟩:=Qs c;rw[QBf] at hi
  have:(l.take b).getD i .z=l.getD i .z:=by
   rw[QBh,QBh,QBb (by omega)]
  rw[this,<-d];exact h i b (by omega) hb
 rw[e,f]
 generalize ((l.take b).filter (fun t=>pl n t.tm.toNat == k)).map (·.id)=A at *
 generalize ((l.drop (b+1)).filter (fun t=>pl n t.tm.toNat == k)).map (·.id)=C at *
 refine⟨A.length,by simp,?_,fun j a=> ?_,?_⟩
 .rw[QBh,QBe (QCc _)];simp
 .rw[QBh,QBg a]
  refine g _ ?_;rw[QBd a];exact QAi a
 .rw[List.take_left,List.drop_append]
  simp
theorem Eg {n:Nat}{l:List Tm}{k:Nat}(h:ZN n l k){t:Tm}(b:t∈l):k<=pl n t.tm.toNat:=by
 rcases QBr (pl n t.tm.toNat) k with a | a
 .exact absurd rfl (Kv (h.1 _ a) b)
 .exact a
theorem Em {n:Nat}{l:List Tm}{k:Nat}(h:Zai n l k≠[]):∃b,b<l.length/\pl n (l.getD b .z).tm.toNat=k/\∀j,j<b->pl n (l.getD j .z).tm.toNat≠k:=by
 induction l with
 | nil=>exact absurd rfl h
 | cons t r g =>
  by_cases a:pl n t.tm.toNat=k
  .exact⟨0,by simp,by simpa using a,fun j f=>by omega⟩
  .have e:Zai n (t::r) k=Zai n r k:=by
    unfold Zai;rw[QAu (by simpa using a)]
   rw[e] at h;obtain⟨b,i,c,d⟩:=g h;refine⟨b+1,by simp;omega,by simpa using c,fun j f=> ?_⟩
   cases j with
   | zero=>simpa using a
   | succ j=>have:=d j (by omega);simpa using this
theorem XR {l:List Tm}{b:Nat}(hb:b<l.length)(a:∀j,j<l.length->(l.getD b .z).tm<=(l.getD j .z).tm)(d:∀j,j<b->(l.getD b .z).tm<(l.getD j .z).tm):EJ l l.length=some b:=by
 cases h:EJ l l.length with
 | none=>have:=FZ h;omega
 | some c =>
  obtain⟨c1,c2,c3⟩:=JG h;rcases Nat.lt_trichotomy b c with e | e | e
  .have:=c3 b e;have:=a c c1;omega
  .rw[e]
  .have:=d c e;have:=c2 b hb;omega
theorem Yo {n:Nat}{l:List Tm}{k:Nat}(f:CR n l)(hf:ZN n l k)(h:k<64):∃b,b<l.length/\EJ l l.length=some b/\(l.getD b .z).tm=(start n k:Int)/\pl n (l.getD b .z).tm.toNat=k/\∃r,Zai n l k=(l.getD b .z).id::r/\Zai n (l.take b++l.drop (b+1)) k=r:=by
 obtain⟨b,hb,d,m⟩:=Em hf.2;have q:=Mj d h
 have o:(l.getD b .z).tm=(start n k:Int):=by
  have:=(f _ (Zcf hb)).1;omega
 refine⟨b,hb,XR hb (fun j c=> ?_) (fun j c=> ?_),o,d,?_⟩
 .have a1:=Eg hf (Zcf c)
  have a2:=(f _ (Zcf c)).1;have a3:=KN (n:=n) (t:=(l.getD j .z).tm.toNat) (by omega) a1;omega
 .have a:j<l.length:=by omega
  have a1:=Eg hf (Zcf a);have a2:=(f _ (Zcf a)).1;have a3:=KN (n:=n) (t:=(l.getD j .z).tm.toNat) (by omega) a1;have a4:=m j c;have a5:start n k≠(l.getD j .z).tm.toNat:=fun e=>a4 (Ts h e);omega
 .refine⟨((l.drop (b+1)).filter (fun t=>pl n t.tm.toNat == k)).map (·.id),?_,?_⟩
  all_goals
   have g:(l.take b).filter (fun t=>pl n t.tm.toNat == k)=[]:=by
    rw[QAz];intro t p;obtain⟨i,hi,rfl⟩:=Qs p;rw[QBf] at hi
    have:(l.take b).getD i .z=l.getD i .z:=by
     rw[QBh,QBh,QBb (by omega)]
    rw[this];have:=m i (by omega);simpa using this
   unfold Zai
  .conv=>lhs;rw[Ib hb]
   rw[QBc,g,QAv (by simpa using d)]
   rfl
  .rw[QBc,g];rfl
theorem VD {n:Nat}{l:List Tm}{k:Nat}(hf:ZN n l k)(c:k<64){t:Tm}(d:t∈l):pl (start n k) t.tm.toNat=pl n t.tm.toNat:=by
 have a1:=Eg hf d;by_cases e:pl n t.tm.toNat=k
 .rw[e,Mj e c]
  have a:=Dy e;rw[show k / 64=0 by omega] at a;simp at a
  have b:CE t.tm.toNat t.tm.toNat=0:=by
   have:CE t.tm.toNat t.tm.toNat<=0:=by rw[Zd1]
   omega
  unfold pl;rw[b];unfold slt;simp;omega
 .exact Hc (by omega)
theorem Hd {n m:Nat}{l:List Tm}(h:∀t∈l,pl m t.tm.toNat=pl n t.tm.toNat)(k:Nat):Zai m l k=Zai n l k:=by
 unfold Zai
 congr 1
 exact QAq (fun t a=>by rw[h t a])
theorem Oo {n:Nat}{l:List Tm}{k:Nat}(hf:ZN n l k)(c:64<=k)(j:Nat):Zai (start n k) l j=(if j=k then [] else Zai n l j)++Zai (start n k) (l.filter (fun t=>pl n t.tm.toNat == k)) j:=by
 unfold Zai;rw[List.filter_filter];by_cases h:j<64 * (k / 64)
 .rw[if_neg (by omega)]
  have b:=hf.1 j (by omega);unfold Zai at b;rw[b,List.nil_append]
  congr 1
  refine QAq (fun t a=> ?_);have a1:=Eg hf a;by_cases e:pl n t.tm.toNat=k
  .simp[e]
  .have a2:=Hc (n:=n) (t:=t.tm.toNat) (k:=k) (by omega)
   rw[a2];simp[e];omega
 .have g:l.filter (fun t=>(pl (start n k) t.tm.toNat == j)&&(pl n t.tm.toNat == k))=[]:=by
   rw[QAz];intro t a;simp only[Bool.and_eq_true,beq_iff_eq,not_and];intro b e;have:=Hb e c;omega
  rw[g,List.map_nil,List.append_nil];by_cases hk:j=k
  .rw[if_pos hk,QAl,QAz]
   intro t a;have a1:=Eg hf a;by_cases e:pl n t.tm.toNat=k
   .have:=Hb e c;simp;omega
   .rw[Hc (by omega)];simp;omega
  .rw[if_neg hk]
   congr 1
   refine QAq (fun t a=> ?_);have a1:=Eg hf a;by_cases e:pl n t.tm.toNat=k
   .have:=Hb e c
    have d:(pl (start n k) t.tm.toNat == j)=false:=by simp;omega
    have f:(pl n t.tm.toNat == j)=false:=by simp;omega
    rw[d,f]
   .rw[Hc (by omega)]
def todo (n:Nat):List Tm->Nat
 | []=>0
 | t::r=>pl n t.tm.toNat+1+todo n r
theorem RP {n m:Nat}:∀{l:List Tm},(∀t∈l,pl m t.tm.toNat<=pl n t.tm.toNat)->todo m l<=todo n l
 | [],_=>QCc _
 | t::r,h=>by
  have b:=h t (by simp);have c:=RP (l:=r) (fun x a=>h x (by simp[a]));simp only[todo];omega
theorem RQ {n m:Nat}:∀{l:List Tm},(∀t∈l,pl m t.tm.toNat<=pl n t.tm.toNat)->(∃t∈l,pl m t.tm.toNat<pl n t.tm.toNat)->todo m l<todo n l
 | [],_,h=>by obtain⟨t,c,_⟩:=h;cases c
 | t::r,h,h3=>by
  have d:=h t (by simp);have e:=RP (l:=r) (fun x a=>h x (by simp[a]));obtain⟨x,a,b⟩:=h3;simp only[todo];rcases List.mem_cons.1 a with rfl | a
  .omega
  .have:=RQ (l:=r) (fun x a=>h x (by simp[a])) ⟨x,a,b⟩;omega
theorem TM {n:Nat}{l:List Tm}{k:Nat}(hf:ZN n l k)(a:64<=k):todo (start n k) l<todo n l:=by
 refine RQ (fun t d=> ?_) ?_
 .have a1:=Eg hf d
  by_cases e:pl n t.tm.toNat=k
  .have:=Hb e a;omega
  .rw[Hc (by omega)];exact QCc _
 .obtain⟨b,hb,c,_⟩:=Em hf.2
  exact⟨_,Zcf hb,by have:=Hb c a;omega⟩
theorem SN {n:Nat}{l:List Tm}{k:Nat}(c:CR n l)(hf:ZN n l k):n<=start n k/\start n k<=4611686018427387904/\∀t∈l,(start n k:Int)<=t.tm:=by
 obtain⟨b,hb,e,_⟩:=Em hf.2;have a1:=c _ (Zcf hb)
 have a:∀t∈l,(start n k:Int)<=t.tm:=fun t d=>by
  have a2:=(c t d).1;have a3:=KN (n:=n) (t:=t.tm.toNat) (by omega) (Eg hf d);omega
 refine⟨Vx (by omega) e,?_,a⟩;have:=a _ (Zcf hb);omega
theorem TT {n m:Nat}{l:List Tm}{k:Nat}(hf:ZN n l k)(a:n<=m)(b:m<start n k){t:Tm}(c:t∈l):pl m t.tm.toNat=pl n t.tm.toNat:=YY a b (Eg hf c)
theorem no_fst {n:Nat}{l:List Tm}(b:CR n l)(hn:n<=4611686018427387904)(h:∀k,k<704->Zai n l k=[]):l=[]:=by
 cases l with
 | nil=>rfl
 | cons t r =>
  exfalso
  have a:=b t (by simp);exact Kv (h _ (Ws n t.tm.toNat hn (by omega))) (List.mem_cons_self ..) rfl
theorem Zc0 (n:Nat)(l:List Tm)(k:Nat):(Zai n l k).length<=l.length:=by
 unfold Zai;rw[List.length_map];exact List.length_filter_le _ _
def Bc (run node kind:Int):Int:=(run * 16+(node+1)) * 4+kind
theorem DI {a b c x y z:Int}(h:Bc a b c=Bc x y z)(hb: -1<=b/\b<15)(e: -1<=y/\y<15)(d:0<=c/\c<4)(f:0<=z/\z<4):a=x/\b=y/\c=z:=by
 unfold Bc at h;omega
structure BL (r nd q id:Int):Prop where
 e:id=Bc r nd q
 r0:0<=r
 r1:r<18446744073709551616
 n0: -1<=nd
 n1:nd<15
 q0:0<=q
 q1:q<4
def FB (id:Int):Prop:=0<=id/\id<1180591620717411303424
theorem BL.ok {r nd q id:Int}(h:BL r nd q id):FB id:=by
 obtain⟨a,b,c,d,e,f,g⟩:=h;unfold Bc at a;unfold FB;omega
theorem BL.parts {r nd q id:Int}(h:BL r nd q id):id / 64=r/\id / 4 % 16 - 1=nd/\id % 4=q:=by
 obtain⟨a,b,c,d,e,f,g⟩:=h;unfold Bc at a;omega
theorem BL.of {id:Int}(h:FB id):BL (id / 64) (id / 4 % 16 - 1) (id % 4) id:=by
 unfold FB at h;refine⟨by unfold Bc;omega,?_,?_,?_,?_,?_,?_⟩<;>omega
theorem Zdr (l:List Tm)(t:Tm)(i:Nat)(hi:i<l.length+1):(l++[t]).getD i .z=if i<l.length then l.getD i .z else t:=by
 rw[QBh,QBh];by_cases h:i<l.length
 .rw[if_pos h,QBg h]
 .obtain rfl:i=l.length:=by omega
  rw[if_neg h,QBe (QCc _),QBn]
  rfl
structure Be (F:Ad)(i:Nat):Prop where
 bu1:1<=F.bu i
 bu2:F.bu i<=5
 Ub:1<=F.cl i
 cl2:F.cl i<=1048576
 Rh:0<=F.be i
 be2:F.be i<=1048576
 ba1:1<=F.ba i
 ba2:F.ba i<=1048576
 ca1:F.ba i<=F.ca i
 ca2:F.ca i<=1048576
 ji1:0<=F.ji i
 ji2:F.ji i<=1048576
def CS (F:Ad)(i k:Nat):Prop:=0<=F.af i k/\F.af i k<F.n/\(0<k->F.af i (k - 1)<F.af i k)
def AN (F:Ad)(i:Nat):Prop:=∀k,k<F.an i->CS F i k
structure Cq (F:Ad):Prop where
 Yg:1<=F.dl
 dl2:F.dl<=1048576
 n1:1<=F.n
 n2:F.n<=12
inductive CY (F:Ad):Nat->Prop
 | mk (i:Nat):(∀k,k<F.an i->CY F (F.af i k).toNat)->CY F i
structure BW (F:Ad):Prop where
 top:Cq F
 node:∀j,j<F.n->Be F j
 Ss:∀j,j<F.n->AN F j
 gone:∀j,j<F.n->CY F j
open Go
theorem Ik {a:Assume}{C:Checked}{os:Os}{f:FuncId}{r:Reach}{c:World->Array Value->Prop}{b:World->Array Value->Value->World->Prop}(h:ReturnsInHanded a C os f r c b):ReturnsInLeavingWide a C os f r c b:=fun enter=>by
 obtain⟨g0,g1,g2,g3,all⟩:=h enter;refine⟨g0,g1,g2,g3,fun w tape i hf=> ?_⟩;obtain⟨n,v,w',hn,k,m,hp,⟨j,last,l,o,d,hh,he⟩,e⟩:=all w tape i hf;refine⟨n,v,w',hn,k,m,hp,⟨j,last,l,o,hh,⟨fun g hg=>⟨0,?_⟩,d.2⟩,he⟩,e⟩;exact beq_iff_eq.1 (List.all_eq_true.1 d.1 g hg)
theorem TK (e:Looks){p:Pinned}{s:OpenSpec}{c:OpenClaim}(kinds:List LaidKind)(a:Bool)(b:Bool×String)(d:Bool)
  (hc:c.holds p s) (hw:c.wfByText s=true) (htie:c.laidByTextAt e p kinds a)
  (hst:c.start=.entering) (hnb:c.noBlocks=false/\c.again=false) (hm:p.checked.prog.mainIs=some (b.1,b.2.toList)) (hn:(!b.1&&b.2.isEmpty&& !d)=false)
  (hl:∀f fn,p.checked.prog.funcNamed c.func=some f->p.checked.prog.funcs[f]? =some fn->d=p.checked.prog.looks []/\∀(j:Nat) t,fn.params[j]? =some t->p.checked.prog.wantsStandIn t=false)
  (hg:true=c.goesBy p.checked.prog) :
  Claim7.holds p (.plain s) { stood:={ row:=c,standIns:=[],harness:=b,looks:=d },kinds:=[],alts:=[],goes:=true,laidByText:=true,laidKinds:=kinds,laidTests:=a,laidLooks:=e }:=by
 have g:Claim7.isSixth { stood:={ row:=c,standIns:=[],harness:=b,looks:=d },kinds:=[] }=false:=by simpa[Claim7.isSixth] using hn
 exact⟨Claim7.tied_new_at e kinds a (Claim7.new_of_sixth hc b d hst hnb hm g hl) hw,fun D i=>(by cases i),htie,(fun h=>by cases h),hg⟩
