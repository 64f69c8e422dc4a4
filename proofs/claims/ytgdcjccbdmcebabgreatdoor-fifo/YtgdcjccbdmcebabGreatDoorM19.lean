import Derived.Test.YtgdcjccbdmcebabGreatDoorM01
set_option linter.unusedSimpArgs false
set_option linter.unusedVariables false
namespace Go.Proofs.YtgdcjccbdmcebabGreatDoor
theorem Zbb (r:RunD){k j:Nat}(f:StD->StD)(h:k≠j):(r.onStep k f).at_ j=r.at_ j:=by
 unfold RunD.at_ RunD.onStep
 simp only [List.getD_eq_getElem?_getD,List.getElem?_modify,if_neg h]
 cases r.steps[j]? <;>rfl
theorem Zbc (r:RunD){k:Nat}(f:StD->StD)(h:k<r.steps.length):(r.onStep k f).at_ k=f (r.at_ k):=by
 rw [Zdu r k k f h,if_pos rfl]
theorem onStep_fl (r:RunD)(k:Nat)(f:StD->StD):(r.onStep k f).fl=r.fl:=rfl
theorem ready_len (e:EngD)(i k:Nat):(e.ready i k).runs.length=e.runs.length:=by simp [EngD.ready,EngD.onStep,EngD.onRun]
theorem ready_at (e:EngD)(i k:Nat)(hi:i<e.runs.length):(e.ready i k).at_ i=(e.at_ i).onStep k (fun s=>{ s with st:=2 }):=by
 have h:=Zb1 e i i (fun r=>r.onStep k (fun s=>{ s with st:=2 })) hi
 rw [if_pos rfl] at h
 exact h
theorem free_one {r:RunD}{k:Nat}(h:r.free k=true):(r.at_ k).st=1:=by
 unfold RunD.free at h
 simp only [Bool.and_eq_true,beq_iff_eq] at h
 exact h.1
theorem free_ready {r:RunD}{k j:Nat}(hk:k<r.steps.length)(h:(r.at_ k).st=1)(hj:k≠j):(r.onStep k (fun s=>{ s with st:=2 })).free j=r.free j:=by
 unfold RunD.free
 rw [Zbb r _ hj,onStep_fl]
 congr 1
 refine List.all_congr rfl (fun a=> ?_)
 by_cases e:k=(r.fl.af j a).toNat
 ·rw [<-e,Zbc r _ hk,h];rfl
 ·rw [Zbb r _ e]
theorem wake_fold (i n:Nat):∀(L:List Nat),L.Nodup->(∀k∈L,k<n)->∀e:EngD,i<e.runs.length->(e.at_ i).steps.length=n ->
  L.foldl (fun e k=>if (e.at_ i).free k then e.ready i k else e) e=(L.filter (fun k=>(e.at_ i).free k)).foldl (fun e k=>e.ready i k) e
 | [],_,_,_,_,_=>rfl
 | k::L,hd,hl,e,hi,hn=>by
  rw [List.nodup_cons] at hd
  have hk:=hl k (List.mem_cons_self ..)
  have ih:=wake_fold i n L hd.2 (fun k h=>hl k (List.mem_cons_of_mem _ h))
  rw [List.foldl_cons]
  cases hf:(e.at_ i).free k with
  | false =>
   rw [List.filter_cons_of_neg (by simp [hf])]
   exact ih e hi hn
  | true =>
   rw [List.filter_cons_of_pos (by simp [hf]),List.foldl_cons]
   show L.foldl _ (e.ready i k)=_
   have hr:=ready_at e i k hi
   rw [ih (e.ready i k) (by rw [ready_len];exact hi) (by rw [hr,Zal];exact hn)]
   congr 1
   refine List.filter_congr (fun j hj=> ?_)
   rw [hr]
   exact free_ready (by omega) (free_one hf) (fun e=>by subst e;exact hd.1 hj)
theorem wake_eq (e:EngD)(i:Nat)(hi:i<e.runs.length):e.wake i=((List.range (e.at_ i).steps.length).filter (fun k=>(e.at_ i).free k)).foldl (fun e k=>e.ready i k) e :=
 wake_fold i _ _ List.nodup_range (fun _ h=>List.mem_range.1 h) e hi rfl
def skp (s:StD):StD:={ s with st:=7 }
inductive SkR:RunD->RunD->Prop
 | refl (r:RunD):SkR r r
 | step (r r2:RunD) (k:Nat):k<r.steps.length->r.lost k=true->SkR (r.onStep k skp) r2->SkR r r2
def Shut (r:RunD):Prop:=∀k,k<r.steps.length->r.lost k=false
theorem SkR.trans {a b c:RunD}(h:SkR a b)(g:SkR b c):SkR a c:=by
 induction h with
 | refl=>exact g
 | step r r2 k h1 h2 _ ih=>exact .step r c k h1 h2 (ih g)
theorem SkR.len {a b:RunD}(h:SkR a b):b.steps.length=a.steps.length:=by
 induction h with
 | refl=>rfl
 | step r r2 k _ _ _ ih=>rw [ih,Zal]
structure LeS (a b:RunD):Prop where
 one:{ b with steps:=a.steps }=a
 len:b.steps.length=a.steps.length
 at_:∀k,k<a.steps.length->b.at_ k=a.at_ k\/((a.at_ k).st=1/\b.at_ k=skp (a.at_ k))
theorem LeS.fl {a b:RunD}(h:LeS a b):b.fl=a.fl:=by rw [<-h.one]
theorem LeS.out {a b:RunD}(h:LeS a b){k:Nat}(hk:¬k<a.steps.length):b.at_ k=a.at_ k:=by
 unfold RunD.at_
 rw [List.getD_eq_getElem?_getD,List.getD_eq_getElem?_getD,List.getElem?_eq_none (by have:=h.len;omega),List.getElem?_eq_none (by omega)]
theorem LeS.refl (a:RunD):LeS a a:=⟨rfl,rfl,fun _ _=>Or.inl rfl⟩
theorem lost_one {r:RunD}{k:Nat}(h:r.lost k=true):(r.at_ k).st=1:=by
 unfold RunD.lost at h
 simp only [Bool.and_eq_true,beq_iff_eq] at h
 exact h.1
theorem LeS.of_lost {a b:RunD}(h:LeS a b)(hs:Shut b){k:Nat}(hk:k<a.steps.length)(hl:a.lost k=true):LeS (a.onStep k skp) b:=by
 have hb:b.at_ k=skp (a.at_ k):=by
  rcases h.at_ k hk with e | e
  ·exfalso
   have hn:=hs k (by rw [h.len];exact hk)
   have:b.lost k=true:=by
    unfold RunD.lost at hl ⊢
    rw [e,h.fl]
    simp only [Bool.and_eq_true,List.any_eq_true] at hl ⊢
    obtain⟨h1,x,h2,h3⟩:=hl
    refine⟨h1,x,h2,?_⟩
    by_cases hx:(a.fl.af k x).toNat<a.steps.length
    ·rcases h.at_ _ hx with e2 | ⟨e2,_⟩
     ·rw [e2];exact h3
     ·rw [e2] at h3;simp at h3
    ·rw [h.out hx];exact h3
   rw [hn] at this
   cases this
  ·exact e.2
 refine⟨?_,by rw [Zal];exact h.len,fun j hj=> ?_⟩
 ·have:=h.one
  cases a;cases b
  simp [RunD.onStep] at this ⊢
  exact this
 ·rw [Zal] at hj
  by_cases e:k=j
  ·subst e;rw [Zbc a _ hk];exact Or.inl hb
  ·rw [Zbb a _ e];exact h.at_ j hj
theorem SkR.le {a b c:RunD}(h:SkR a c)(g:LeS a b)(hs:Shut b):LeS c b:=by
 induction h with
 | refl=>exact g
 | step r r2 k h1 h2 _ ih=>exact ih (g.of_lost hs h1 h2)
theorem SkR.leS {a b:RunD}(h:SkR a b):LeS a b:=by
 induction h with
 | refl=>exact .refl _
 | step r r2 k h1 h2 _ ih =>
  refine⟨?_,by rw [ih.len,Zal],fun j hj=> ?_⟩
  ·have:=ih.one
   cases r;cases r2
   simp [RunD.onStep] at this ⊢
   exact this
  ·have:=ih.at_ j (by rw [Zal];exact hj)
   by_cases e:k=j
   ·subst e
    rw [Zbc r _ h1] at this
    have h3:=lost_one h2
    rcases this with e1 | ⟨e1,_⟩
    ·exact Or.inr ⟨h3,e1⟩
    ·simp [skp] at e1
   ·rw [Zbb r _ e] at this;exact this
theorem LeS.eq {a b:RunD}(h:LeS a b)(g:LeS b a):a=b:=by
 have hs:a.steps=b.steps:=by
  apply List.ext_getElem (by rw [h.len])
  intro k h1 h2
  have ha:a.at_ k=a.steps[k]:=by unfold RunD.at_;rw [List.getD_eq_getElem?_getD,List.getElem?_eq_getElem h1];rfl
  have hb:b.at_ k=b.steps[k]:=by unfold RunD.at_;rw [List.getD_eq_getElem?_getD,List.getElem?_eq_getElem h2];rfl
  rw [<-ha,<-hb]
  rcases h.at_ k h1 with e | ⟨e1,e2⟩
  ·exact e.symm
  ·rcases g.at_ k h2 with e | ⟨e3,_⟩
   ·exact e
   ·rw [e2] at e3;simp [skp] at e3
 have h1:=h.one
 rw [hs] at h1
 exact h1.symm
theorem SkR.uniq {r a b:RunD}(h:SkR r a)(g:SkR r b)(ha:Shut a)(hb:Shut b):a=b :=
 (h.le g.leS hb).eq (g.le h.leS ha)
def RunD.wait (r:RunD):Nat:=r.steps.countP (fun s=>s.st == 1)
theorem countP_modify {p:StD->Bool}{f:StD->StD}:∀(l:List StD) (k:Nat),k<l.length->p (l.getD k .z)=true->p (f (l.getD k .z))=false->(l.modify k f).countP p+1=l.countP p
 | [],k,h,_,_=>by simp at h
 | s::l,0,_,h1,h2=>by
  simp only [List.getD_cons_zero] at h1 h2
  rw [List.modify_zero_cons,List.countP_cons_of_neg (by simp [h2]),List.countP_cons_of_pos (by simp [h1])]
 | s::l,k+1,h,h1,h2=>by
  simp only [List.getD_cons_succ] at h1 h2
  have:=countP_modify l k (by simpa using h) h1 h2
  rw [List.modify_succ_cons,List.countP_cons,List.countP_cons]
  omega
theorem wait_less {r:RunD}{k:Nat}(hk:k<r.steps.length)(hl:r.lost k=true):(r.onStep k skp).wait+1=r.wait:=by
 have h:=lost_one hl
 exact countP_modify (p:=fun s=>s.st == 1) (f:=skp) r.steps k hk (by show (r.at_ k).st == 1;rw [h];rfl) rfl
theorem SkR.wait_le {a b:RunD}(h:SkR a b):b.wait<=a.wait:=by
 induction h with
 | refl=>exact Nat.le_refl _
 | step r r2 k h1 h2 _ ih=>have:=wait_less h1 h2;omega
theorem round_fold:∀(L:List Nat) (r:RunD),(∀k∈L,k<r.steps.length) ->
  SkR r (L.foldl (fun r k=>if r.lost k then r.onStep k skp else r) r)/\((∀k∈L,r.lost k=false)\/(L.foldl (fun r k=>if r.lost k then r.onStep k skp else r) r).wait<r.wait)
 | [],r,_=>⟨.refl _,Or.inl (fun k h=>by cases h)⟩
 | k::L,r,hl=>by
  have hk:=hl k (List.mem_cons_self ..)
  rw [List.foldl_cons]
  cases hf:r.lost k with
  | false =>
   obtain⟨h1,h2⟩:=round_fold L r (fun k h=>hl k (List.mem_cons_of_mem _ h))
   refine⟨h1,?_⟩
   rcases h2 with h2 | h2
   ·exact Or.inl (fun j hj=>by
     rcases List.mem_cons.1 hj with e | e
     ·subst e;exact hf
     ·exact h2 j e)
   ·exact Or.inr h2
  | true =>
   obtain⟨h1,_⟩:=round_fold L (r.onStep k skp) (fun k h=>by rw [Zal];exact hl k (List.mem_cons_of_mem _ h))
   have hw:=wait_less hk hf
   have:=h1.wait_le
   refine⟨.step r _ k hk hf h1,Or.inr ?_⟩
   show (L.foldl _ (r.onStep k skp)).wait<r.wait
   omega
theorem skipRound_eq (r:RunD):r.skipRound=(List.range r.steps.length).foldl (fun r k=>if r.lost k then r.onStep k skp else r) r:=rfl
theorem round_is (r:RunD):SkR r r.skipRound/\(Shut r\/r.skipRound.wait<r.wait):=by
 obtain⟨h1,h2⟩:=round_fold (List.range r.steps.length) r (fun k h=>List.mem_range.1 h)
 rw [<-skipRound_eq] at h1 h2
 refine⟨h1,h2.imp (fun h k hk=>h k (List.mem_range.2 hk)) id⟩
theorem shut_same {r a:RunD}(h:Shut r)(g:SkR r a):a=r:=by
 cases g with
 | refl=>rfl
 | step _ _ k h1 h2 _=>rw [h k h1] at h2;cases h2
theorem skipN_is:∀(m:Nat) (r:RunD),SkR r (RunD.skipN m r)/\(Shut (RunD.skipN m r)\/(RunD.skipN m r).wait+m<=r.wait)
 | 0,r=>⟨.refl r,Or.inr (Nat.le_refl _)⟩
 | m+1,r=>by
  obtain⟨h1,h2⟩:=round_is r
  obtain⟨g1,g2⟩:=skipN_is m r.skipRound
  refine⟨h1.trans g1,?_⟩
  rcases h2 with h2 | h2
  ·have e:r.skipRound=r:=shut_same h2 h1
   left
   show Shut (RunD.skipN m r.skipRound)
   rw [e]
   have:RunD.skipN m r=r:=by
    have:=(skipN_is m r).1
    exact shut_same h2 this
   rw [this];exact h2
  ·rcases g2 with g2 | g2
   ·exact Or.inl g2
   ·right
    show (RunD.skipN m r.skipRound).wait+(m+1)<=r.wait
    omega
theorem wait_bound (r:RunD):r.wait<=r.steps.length:=List.countP_le_length
theorem wait_none {r:RunD}(h:r.wait=0):Shut r:=fun k hk=>by
 cases e:r.lost k with
 | false=>rfl
 | true =>
  have h1:=wait_less hk e
  omega
theorem skipN_shut (r:RunD):SkR r (RunD.skipN r.steps.length r)/\Shut (RunD.skipN r.steps.length r):=by
 obtain⟨h1,h2⟩:=skipN_is r.steps.length r
 refine⟨h1,?_⟩
 rcases h2 with h2 | h2
 ·exact h2
 ·have:=wait_bound r
  exact wait_none (by omega)
def EngD.kindOf (e:EngD)(d:TmD):Int :=
 match d.k with
 | none=>0
 | some k=>if d.sign then 2 else if ((e.at_ d.i).at_ k).st=4 then 3 else 1
def nodeI:Option Nat->Int
 | none=> -1
 | some k=>k
def EngD.tmOf (e:EngD)(d:TmD):Tm:=⟨keyI (e.at_ d.i).id (nodeI d.k) (e.kindOf d),d.tm,d.sq⟩
structure TimR (e:EngD)(l:List Tm):Prop where
 rising:Rising l
 all:∀d∈e.dues,e.tmOf d∈l
 mem:∀t∈l,∃d∈e.dues,t=e.tmOf d
theorem bestT_none {l:List TmD}{k:Nat}(h:bestT l k=none):k=0:=by
 cases k with
 | zero=>rfl
 | succ k =>
  unfold bestT at h
  cases e:bestT l k with
  | none=>rw [e] at h;cases h
  | some b=>rw [e] at h;simp only at h;split at h<;>cases h
theorem bestT_some {l:List TmD}:∀{k b:Nat},bestT l k=some b->b<k/\∀j,j<k->¬(l.getD j .z).lt (l.getD b .z):=by
 intro k
 induction k with
 | zero=>intro b h;cases h
 | succ k ih =>
  intro b h
  unfold bestT at h
  cases e:bestT l k with
  | none =>
   rw [e] at h
   obtain rfl:k=b:=by simpa using h
   have:=bestT_none e
   subst this
   refine⟨by omega,fun j hj=> ?_⟩
   obtain rfl:j=0:=by omega
   unfold TmD.lt;omega
  | some c =>
   rw [e] at h
   obtain⟨h1,h2⟩:=ih e
   by_cases hlt:(l.getD k .z).lt (l.getD c .z)
   ·simp only [if_pos hlt,Option.some.injEq] at h
    subst h
    refine⟨by omega,fun j hj=> ?_⟩
    by_cases hk:j=k
    ·subst hk;unfold TmD.lt;omega
    ·have:=h2 j (by omega)
     unfold TmD.lt at this hlt ⊢
     omega
   ·simp only [if_neg hlt,Option.some.injEq] at h
    subst h
    refine⟨by omega,fun j hj=> ?_⟩
    by_cases hk:j=k
    ·subst hk;exact hlt
    ·exact h2 j (by omega)
theorem Zbj {α:Type}{z:α}{l:List α}{i:Nat}(h:i<l.length):l.getD i z∈l:=by
 rw [List.getD_eq_getElem?_getD,List.getElem?_eq_getElem h]
 exact List.getElem_mem h
theorem Zbz {α:Type}{z:α}{l:List α}{t:α}(h:t∈l):∃i,i<l.length/\l.getD i z=t:=by
 obtain⟨i,hi,e⟩:=List.getElem_of_mem h
 exact⟨i,hi,by rw [List.getD_eq_getElem?_getD,List.getElem?_eq_getElem hi];exact e⟩
theorem TimR.best {e:EngD}{l:List Tm}(h:TimR e l){b:Nat}(hb:bestN l l.length=some b):∃c,bestT e.dues e.dues.length=some c/\e.tmOf (e.dues.getD c .z)=l.getD b .z:=by
 obtain⟨b1,b2,b3⟩:=bestN_some hb
 obtain⟨d,hd,ed⟩:=h.mem _ (Zbj (z:=Tm.z) b1)
 obtain⟨x,hx,ex⟩:=Zbz (z:=TmD.z) hd
 cases hc:bestT e.dues e.dues.length with
 | none=>have:=bestT_none hc;omega
 | some c =>
  obtain⟨c1,c2⟩:=bestT_some hc
  obtain⟨j,hj,ej⟩:=Zbz (z:=Tm.z) (h.all _ (Zbj (z:=TmD.z) c1))
  have q1:=c2 x hx
  rw [ex] at q1
  have q2:=b2 j hj
  have e1:(l.getD b .z).tm=d.tm:=by rw [ed];rfl
  have e2:(l.getD b .z).sq=d.sq:=by rw [ed];rfl
  have e3:(l.getD j .z).tm=(e.dues.getD c .z).tm:=by rw [ej];rfl
  have e4:(l.getD j .z).sq=(e.dues.getD c .z).sq:=by rw [ej];rfl
  have hjb:j=b:=by
   rcases Nat.lt_trichotomy j b with g | g | g
   ·have:=b3 j g
    unfold TmD.lt at q1;omega
   ·exact g
   ·have:=h.rising b j g hj
    unfold TmD.lt at q1;omega
  exact⟨c,rfl,by rw [<-ej,hjb]⟩
theorem TimR.none {e:EngD}{l:List Tm}(h:TimR e l)(hb:bestN l l.length=none):bestT e.dues e.dues.length=none:=by
 have h0:=bestN_none hb
 cases hc:bestT e.dues e.dues.length with
 | none=>rfl
 | some c =>
  obtain⟨j,hj,_⟩:=Zbz (z:=Tm.z) (h.all _ (Zbj (z:=TmD.z) (bestT_some hc).1))
  omega
structure StOk (F:FlowD)(k:Nat)(time timers tok:Int)(s:StD):Prop where
 st1:1<=s.st
 st2:s.st<=7
 tr0:0<=s.tries
 trB:s.tries<=F.bu k
 wait:s.st=1->s.tries=0
 more:s.st=2\/s.st=4->s.tries<F.bu k
 once:s.st=3\/s.st=4->1<=s.tries
 dead:s.st=6->s.tries=F.bu k
 tok0:0<=s.tok
 tokB:s.tok<=tok
 fin0:0<=s.fin
 finB:s.fin<=4611686018427387904
 sign0:0<=s.sign
 signB:s.sign<=4611686018427387904
 finT:s.st=3\/s.st=4->time<=s.fin
 signT:s.st=3->0<s.sign->time<=s.sign
 beat:s.st=3->(0<s.sign↔0<F.be k)
 fa0:0<=s.finAt
 faB:s.finAt<=timers
 sa0:0<=s.signAt
 saB:s.signAt<=timers
theorem StOk.mono {F:FlowD}{k:Nat}{time timers tok timers' tok':Int}{s:StD}(h:StOk F k time timers tok s)(h1:timers<=timers')(h2:tok<=tok'):StOk F k time timers' tok' s :=
 { h with tokB:=Int.le_trans h.tokB h2,faB:=Int.le_trans h.faB h1,saB:=Int.le_trans h.saB h1 }
structure RunOk (time timers tok ends:Int)(r:RunD):Prop where
 fl:FlOk r.fl
 len:r.steps.length=r.fl.n
 st1:1<=r.st
 st2:r.st<=5
 goes:r.st=1↔r.ended=0
 en0:0<=r.ended
 enB:r.ended<=ends
 till0:0<=r.till
 tillB:r.till<=4611686018427387904
 tillT:r.st=1->time<=r.till
 ta0:0<=r.tillAt
 taB:r.tillAt<=timers
 steps:∀k,k<r.steps.length->StOk r.fl k time timers tok (r.at_ k)
 over:r.st≠1->∀k,k<r.steps.length->(r.at_ k).st=5\/(r.at_ k).st=6\/(r.at_ k).st=7
theorem RunOk.mono {time timers tok ends timers' tok' ends':Int}{r:RunD}(h:RunOk time timers tok ends r)(h1:timers<=timers')(h2:tok<=tok')(h3:ends<=ends'):RunOk time timers' tok' ends' r :=
 { h with enB:=Int.le_trans h.enB h3,taB:=Int.le_trans h.taB h1,steps:=fun k hk=>(h.steps k hk).mono h1 h2 }
theorem RunOk.n12 {time timers tok ends:Int}{r:RunD}(h:RunOk time timers tok ends r):1<=r.steps.length/\r.steps.length<=12:=by
 rw [h.len];exact⟨h.fl.top.n1,h.fl.top.n2⟩
def QIn (e:EngD)(p:PlD):Prop:=∃i,i<e.runs.length/\(e.at_ i).id=p.run/\p.node<(e.at_ i).steps.length/\((e.at_ i).at_ p.node).st=2
structure EngWk (e:EngD):Prop where
 t0:0<=e.time
 tB:e.time<=4611686018427387904
 tm0:0<=e.timers
 lr0:0<=e.lastRun
 lt0:0<=e.lastTok
 en0:0<=e.ends
 six:e.runs.length<=6
 up:∀i j,i<j->j<e.runs.length->(e.at_ i).id<(e.at_ j).id
 id1:∀i,i<e.runs.length->1<=(e.at_ i).id
 idB:∀i,i<e.runs.length->(e.at_ i).id<=e.lastRun
 runs:∀i,i<e.runs.length->RunOk e.time e.timers e.lastTok e.ends (e.at_ i)
 qn:e.queue.Nodup
 qm:∀p,p∈e.queue↔QIn e p
 sq:∀a∈e.dues,∀b∈e.dues,a.sq=b.sq->a=b
 en:∀i j,i<e.runs.length->j<e.runs.length->0<(e.at_ i).ended->(e.at_ i).ended=(e.at_ j).ended->i=j
theorem EngWk.id_inj {e:EngD}(h:EngWk e){i j:Nat}(hi:i<e.runs.length)(hj:j<e.runs.length)(heq:(e.at_ i).id=(e.at_ j).id):i=j:=by
 rcases Nat.lt_trichotomy i j with g | g | g
 ·have:=h.up i j g hj;omega
 ·exact g
 ·have:=h.up j i g hi;omega
def StD.due (s:StD)(sign:Bool)(tm sq:Int):Prop:=if sign then s.st=3/\0<s.sign/\tm=s.sign/\sq=s.signAt else (s.st=3\/s.st=4)/\tm=s.fin/\sq=s.finAt
def DueE (e:EngD)(d:TmD):Prop :=
 d.i<e.runs.length/\(e.at_ d.i).st=1/\match d.k with
  | none=>d.sign=false/\d.tm=(e.at_ d.i).till/\d.sq=(e.at_ d.i).tillAt
  | some k=>k<(e.at_ d.i).steps.length/\((e.at_ d.i).at_ k).due d.sign d.tm d.sq
theorem st_dues {s:StD}{i k:Nat}{d:TmD}:d∈s.dues i k↔d.i=i/\d.k=some k/\s.due d.sign d.tm d.sq:=by
 unfold StD.dues StD.due
 rw [List.mem_append]
 constructor
 ·rintro (h | h)
  ·split at h
   ·rename_i hc
    rw [List.mem_singleton] at h
    subst h
    exact⟨rfl,rfl,by simp only [Bool.false_eq_true,if_false];exact⟨hc,trivial,trivial⟩⟩
   ·simp at h
  ·split at h
   ·rename_i hc
    rw [List.mem_singleton] at h
    subst h
    exact⟨rfl,rfl,by simp only [if_true];exact⟨hc.1,hc.2,trivial,trivial⟩⟩
   ·simp at h
 ·obtain⟨di,dk,ds,dt,dq⟩:=d
  rintro⟨h1,h2,h3⟩
  simp only at h1 h2
  subst h1 h2
  cases ds with
  | false =>
   simp only [Bool.false_eq_true,if_false] at h3
   obtain⟨h4,rfl,rfl⟩:=h3
   left;rw [if_pos h4];simp
  | true =>
   simp only [if_true] at h3
   obtain⟨h4,h5,rfl,rfl⟩:=h3
   right;rw [if_pos ⟨h4,h5⟩];simp
theorem Zaq {e:EngD}{d:TmD}:d∈e.dues↔DueE e d:=by
 unfold EngD.dues DueE
 rw [List.mem_flatMap]
 constructor
 ·rintro⟨i,hi,h⟩
  have hi:=List.mem_range.1 hi
  unfold RunD.dues at h
  split at h
  ·rename_i h1
   rw [List.mem_cons] at h
   rcases h with rfl | h
   ·exact⟨hi,h1,rfl,rfl,rfl⟩
   ·obtain⟨k,hk,h⟩:=List.mem_flatMap.1 h
    obtain⟨e1,e2,h⟩:=st_dues.1 h
    subst e1
    rw [e2]
    exact⟨hi,h1,List.mem_range.1 hk,h⟩
  ·simp at h
 ·rintro⟨hi,h1,h⟩
  refine⟨d.i,List.mem_range.2 hi,?_⟩
  unfold RunD.dues
  rw [if_pos h1,List.mem_cons]
  cases hk:d.k with
  | none =>
   rw [hk] at h
   left
   obtain⟨di,dk,ds,dt,dq⟩:=d
   simp only at hk h ⊢
   subst hk
   obtain⟨rfl,rfl,rfl⟩:=h
   rfl
  | some k =>
   rw [hk] at h
   right
   exact List.mem_flatMap.2 ⟨k,List.mem_range.2 h.1,st_dues.2 ⟨rfl,hk,h.2⟩⟩
theorem EngWk.due_sq {e:EngD}(h:EngWk e){d:TmD}(hd:DueE e d):d.sq<=e.timers/\e.time<=d.tm/\d.tm<=4611686018427387904:=by
 obtain⟨hi,h1,hd⟩:=hd
 have hr:=h.runs _ hi
 cases hk:d.k with
 | none =>
  rw [hk] at hd
  obtain⟨_,h2,h3⟩:=hd
  rw [h2,h3]
  exact⟨hr.taB,hr.tillT h1,hr.tillB⟩
 | some k =>
  rw [hk] at hd
  obtain⟨h2,h3⟩:=hd
  have hs:=hr.steps k h2
  unfold StD.due at h3
  split at h3
  ·obtain⟨h4,h5,h6,h7⟩:=h3
   rw [h6,h7];exact⟨hs.saB,hs.signT h4 h5,hs.signB⟩
  ·obtain⟨h4,h6,h7⟩:=h3
   rw [h6,h7];exact⟨hs.faB,hs.finT h4,hs.finB⟩
theorem Zbr {e e':EngD}{i k:Nat}{f:StD->StD}(hr:e'.runs=(e.onStep i k f).runs){j:Nat}(hj:j<e.runs.length):e'.at_ j=if i=j then (e.at_ j).onStep k f else e.at_ j:=by
 have:=Zb1 e i j (fun r=>r.onStep k f) hj
 unfold EngD.at_ at this ⊢
 rw [hr];exact this
theorem Zbf {e e':EngD}{i k:Nat}{f:StD->StD}(hr:e'.runs=(e.onStep i k f).runs):e'.runs.length=e.runs.length:=by
 rw [hr];exact Zbh _ _ _
theorem Zb0 {e e':EngD}{i k:Nat}{f:StD->StD}(hr:e'.runs=(e.onStep i k f).runs){j:Nat}(hj:j<e.runs.length):(e'.at_ j).steps.length=(e.at_ j).steps.length:=by
 rw [Zbr hr hj];split
 ·exact Zal _ _ _
 ·rfl
theorem Za6 {e e':EngD}{i k:Nat}{f:StD->StD}(hr:e'.runs=(e.onStep i k f).runs){j:Nat}(hj:j<e.runs.length):(e'.at_ j).id=(e.at_ j).id/\(e'.at_ j).fl=(e.at_ j).fl/\(e'.at_ j).st=(e.at_ j).st/\(e'.at_ j).till=(e.at_ j).till/\(e'.at_ j).tillAt=(e.at_ j).tillAt/\(e'.at_ j).ended=(e.at_ j).ended:=by
 rw [Zbr hr hj];split<;>exact⟨rfl,rfl,rfl,rfl,rfl,rfl⟩
theorem Zdy {e e':EngD}{i k:Nat}{f:StD->StD}(hr:e'.runs=(e.onStep i k f).runs)(hk:k<(e.at_ i).steps.length){j m:Nat}(hj:j<e.runs.length)(hm:m<(e.at_ j).steps.length) :
  (e'.at_ j).at_ m=if i=j/\k=m then f ((e.at_ i).at_ k) else (e.at_ j).at_ m:=by
 rw [Zbr hr hj]
 by_cases h:i=j
 ·subst h
  rw [if_pos rfl]
  by_cases g:k=m
  ·subst g;rw [if_pos ⟨rfl,rfl⟩];exact Zbc _ _ hk
  ·rw [if_neg (fun x=>g x.2)];exact Zbb _ _ g
 ·rw [if_neg h,if_neg (fun x=>h x.1)]
theorem QIn.step {e e':EngD}{i k:Nat}{f:StD->StD}(h:EngWk e)(hr:e'.runs=(e.onStep i k f).runs)(hi:i<e.runs.length)(hk:k<(e.at_ i).steps.length)(p:PlD) :
  QIn e' p↔(p=⟨(e.at_ i).id,k⟩/\(f ((e.at_ i).at_ k)).st=2)\/(p≠⟨(e.at_ i).id,k⟩/\QIn e p):=by
 have hl:=Zbf hr
 constructor
 ·rintro⟨j,h1,h2,h3,h4⟩
  rw [hl] at h1
  rw [Zb0 hr h1] at h3
  rw [(Za6 hr h1).1] at h2
  rw [Zdy hr hk h1 h3] at h4
  by_cases hc:i=j/\k=p.node
  ·rw [if_pos hc] at h4
   left
   refine⟨?_,h4⟩
   obtain⟨pr,pn⟩:=p
   simp only at h2 hc
   obtain⟨rfl,rfl⟩:=hc
   rw [h2]
  ·rw [if_neg hc] at h4
   right
   refine⟨fun hp=>hc ?_,j,h1,h2,h3,h4⟩
   subst hp
   exact⟨h.id_inj hi h1 h2.symm,rfl⟩
 ·rintro (⟨rfl,h2⟩ | ⟨hp,j,h1,h2,h3,h4⟩)
  ·refine⟨i,by rw [hl];exact hi,(Za6 hr hi).1,by rw [Zb0 hr hi];exact hk,?_⟩
   rw [Zdy hr hk hi hk,if_pos ⟨rfl,rfl⟩];exact h2
  ·refine⟨j,by rw [hl];exact h1,by rw [(Za6 hr h1).1];exact h2,by rw [Zb0 hr h1];exact h3,?_⟩
   rw [Zdy hr hk h1 h3,if_neg]
   ·exact h4
   ·rintro⟨rfl,rfl⟩
    exact hp (by obtain⟨pr,pn⟩:=p;simp only at h2 ⊢;rw [h2])
theorem DueE.step {e e':EngD}{i k:Nat}{f:StD->StD}(hr:e'.runs=(e.onStep i k f).runs)(hk:k<(e.at_ i).steps.length){d:TmD}(hd:DueE e' d) :
  (d.i=i/\d.k=some k/\(e.at_ i).st=1/\(f ((e.at_ i).at_ k)).due d.sign d.tm d.sq)\/(¬(d.i=i/\d.k=some k)/\DueE e d):=by
 obtain⟨h1,h2,h3⟩:=hd
 rw [Zbf hr] at h1
 have hs:=Za6 hr h1
 rw [hs.2.2.1] at h2
 cases hdk:d.k with
 | none =>
  rw [hdk] at h3
  right
  refine⟨by simp,h1,h2,?_⟩
  rw [hdk]
  rw [hs.2.2.2.1,hs.2.2.2.2.1] at h3
  exact h3
 | some m =>
  rw [hdk] at h3
  simp only at h3
  rw [Zb0 hr h1] at h3
  rw [Zdy hr hk h1 h3.1] at h3
  by_cases hc:i=d.i/\k=m
  ·rw [if_pos hc] at h3
   obtain⟨hc1,rfl⟩:=hc
   left
   exact⟨hc1.symm,rfl,by rw [hc1];exact h2,h3.2⟩
  ·rw [if_neg hc] at h3
   right
   refine⟨fun hx=>hc ⟨hx.1.symm,by simpa using hx.2.symm⟩,h1,h2,?_⟩
   rw [hdk];exact h3
theorem EngWk.step {e e':EngD}(h:EngWk e){i k:Nat}(hi:i<e.runs.length)(hk:k<(e.at_ i).steps.length){f:StD->StD}(hr:e'.runs=(e.onStep i k f).runs)
  (ht:e'.time=e.time) (htm:e.timers<=e'.timers) (htok:e.lastTok<=e'.lastTok) (hen:e'.ends=e.ends) (hlr:e'.lastRun=e.lastRun)
  (hs:StOk (e.at_ i).fl k e.time e'.timers e'.lastTok (f ((e.at_ i).at_ k)))
  (hov:(e.at_ i).st≠1->(f ((e.at_ i).at_ k)).st=5\/(f ((e.at_ i).at_ k)).st=6\/(f ((e.at_ i).at_ k)).st=7)
  (hqn:e'.queue.Nodup) (hqm:∀p,p∈e'.queue↔(p=⟨(e.at_ i).id,k⟩/\(f ((e.at_ i).at_ k)).st=2)\/(p≠⟨(e.at_ i).id,k⟩/\p∈e.queue))
  (hd:∀b tm sq,(f ((e.at_ i).at_ k)).due b tm sq->((e.at_ i).at_ k).due b tm sq\/e.timers<sq)
  (hd2:∀tm sq tm' sq',(f ((e.at_ i).at_ k)).due false tm sq->(f ((e.at_ i).at_ k)).due true tm' sq'->sq≠sq'):EngWk e':=by
 have hl:=Zbf hr
 have same:=fun j hj=>Za6 (e:=e) (e':=e') hr (j:=j) hj
 refine⟨by rw [ht];exact h.t0,by rw [ht];exact h.tB,Int.le_trans h.tm0 htm,by rw [hlr];exact h.lr0,Int.le_trans h.lt0 htok,by rw [hen];exact h.en0,by rw [hl];exact h.six,?_,?_,?_,?_,hqn,?_,?_,?_⟩
 ·intro a b hab hb
  rw [hl] at hb
  rw [(same a (by omega)).1,(same b hb).1]
  exact h.up a b hab hb
 ·intro a ha
  rw [hl] at ha
  rw [(same a ha).1];exact h.id1 a ha
 ·intro a ha
  rw [hl] at ha
  rw [(same a ha).1,hlr];exact h.idB a ha
 ·intro a ha
  rw [hl] at ha
  obtain⟨s1,s2,s3,s4,s5,s6⟩:=same a ha
  have hra:=(h.runs a ha).mono htm htok (Int.le_refl e.ends)
  rw [ht,hen]
  refine⟨by rw [s2];exact hra.fl,by rw [s2,Zb0 hr ha];exact hra.len,by rw [s3];exact hra.st1,by rw [s3];exact hra.st2,by rw [s3,s6];exact hra.goes,by rw [s6];exact hra.en0,by rw [s6];exact hra.enB,
   by rw [s4];exact hra.till0,by rw [s4];exact hra.tillB,by rw [s3,s4];exact hra.tillT,by rw [s5];exact hra.ta0,by rw [s5];exact hra.taB,?_,?_⟩
  ·intro m hm
   rw [Zb0 hr ha] at hm
   rw [Zdy hr hk ha hm,s2]
   by_cases hc:i=a/\k=m
   ·rw [if_pos hc]
    obtain⟨rfl,rfl⟩:=hc
    exact hs
   ·rw [if_neg hc];exact hra.steps m hm
  ·intro h1 m hm
   rw [s3] at h1
   rw [Zb0 hr ha] at hm
   rw [Zdy hr hk ha hm]
   by_cases hc:i=a/\k=m
   ·rw [if_pos hc]
    obtain⟨rfl,rfl⟩:=hc
    exact hov h1
   ·rw [if_neg hc];exact hra.over h1 m hm
 ·intro p
  rw [hqm p,QIn.step h hr hi hk p,h.qm p]
 ·intro a ha b hb hab
  rw [Zaq] at ha hb
  have key:∀{x:TmD},x.i=i->x.k=some k->(e.at_ i).st=1->(f ((e.at_ i).at_ k)).due x.sign x.tm x.sq->DueE e x\/e.timers<x.sq:=by
   intro x x1 x2 x3 x4
   rcases hd _ _ _ x4 with x5 | x5
   ·left
    refine⟨by rw [x1];exact hi,by rw [x1];exact x3,?_⟩
    rw [x2,x1]
    exact⟨hk,x5⟩
   ·exact Or.inr x5
  rcases DueE.step hr hk ha with⟨a1,a2,a3,a4⟩ | ⟨a0,a1⟩<;>rcases DueE.step hr hk hb with⟨b1,b2,b3,b4⟩ | ⟨b0,b1⟩
  ·obtain⟨ai,ak,as0,at',aq⟩:=a
   obtain⟨bi,bk,bs,bt,bq⟩:=b
   simp only at a1 a2 a4 b1 b2 b4 hab
   subst a1 a2 b1 b2 hab
   cases as0<;>cases bs
   ·unfold StD.due at a4 b4
    simp only [Bool.false_eq_true,if_false] at a4 b4
    rw [a4.2.1,b4.2.1]
   ·exact absurd rfl (hd2 _ _ _ _ a4 b4)
   ·exact absurd rfl (hd2 _ _ _ _ b4 a4)
   ·unfold StD.due at a4 b4
    simp only [if_true] at a4 b4
    rw [a4.2.2.1,b4.2.2.1]
  ·rcases key a1 a2 a3 a4 with x | x
   ·exact h.sq a (Zaq.2 x) b (Zaq.2 b1) hab
   ·have:=(h.due_sq b1).1;omega
  ·rcases key b1 b2 b3 b4 with x | x
   ·exact h.sq a (Zaq.2 a1) b (Zaq.2 x) hab
   ·have:=(h.due_sq a1).1;omega
  ·exact h.sq a (Zaq.2 a1) b (Zaq.2 b1) hab
 ·intro a b ha hb
  rw [hl] at ha hb
  rw [(same a ha).2.2.2.2.2,(same b hb).2.2.2.2.2]
  exact h.en a b ha hb
theorem EngWk.notin {e:EngD}(h:EngWk e){i k:Nat}(hi:i<e.runs.length)(h2:((e.at_ i).at_ k).st≠2):(⟨(e.at_ i).id,k⟩:PlD) ∉ e.queue:=by
 intro hp
 obtain⟨j,h3,h4,_,h6⟩:=(h.qm _).1 hp
 have:=h.id_inj h3 hi h4
 subst this
 exact h2 h6
theorem EngWk.calm {e e':EngD}(h:EngWk e){i k:Nat}(hi:i<e.runs.length)(hk:k<(e.at_ i).steps.length){f:StD->StD}(hr:e'.runs=(e.onStep i k f).runs)
  (ht:e'.time=e.time) (htm:e.timers<=e'.timers) (htok:e.lastTok<=e'.lastTok) (hen:e'.ends=e.ends) (hlr:e'.lastRun=e.lastRun)
  (hs:StOk (e.at_ i).fl k e.time e'.timers e'.lastTok (f ((e.at_ i).at_ k)))
  (hov:(e.at_ i).st≠1->(f ((e.at_ i).at_ k)).st=5\/(f ((e.at_ i).at_ k)).st=6\/(f ((e.at_ i).at_ k)).st=7)
  (h2:((e.at_ i).at_ k).st≠2) (h3:(f ((e.at_ i).at_ k)).st≠2) (hq:e'.queue=e.queue)
  (hd:∀b tm sq,(f ((e.at_ i).at_ k)).due b tm sq->((e.at_ i).at_ k).due b tm sq\/e.timers<sq)
  (hd2:∀tm sq tm' sq',(f ((e.at_ i).at_ k)).due false tm sq->(f ((e.at_ i).at_ k)).due true tm' sq'->sq≠sq'):EngWk e':=by
 have hn:=h.notin hi h2
 refine h.step hi hk hr ht htm htok hen hlr hs hov (by rw [hq];exact h.qn) (fun p=> ?_) hd hd2
 rw [hq]
 constructor
 ·intro hp
  exact Or.inr ⟨fun x=>hn (x▸hp),hp⟩
 ·rintro (⟨_,x⟩ | ⟨_,x⟩)
  ·exact absurd x h3
  ·exact x
theorem not_due {s:StD}(h3:s.st≠3)(h4:s.st≠4){b:Bool}{tm sq:Int}:¬s.due b tm sq:=by
 unfold StD.due
 intro h
 split at h
 ·exact h3 h.1
 ·rcases h.1 with x | x
  ·exact h3 x
  ·exact h4 x
structure Kin (e e':EngD)(i:Nat):Prop where
 time:e'.time=e.time
 seed:e'.seed=e.seed
 lastRun:e'.lastRun=e.lastRun
 lastTok:e'.lastTok=e.lastTok
 timers:e'.timers=e.timers
 ends:e'.ends=e.ends
 len:e'.runs.length=e.runs.length
 others:∀j,j<e.runs.length->j≠i->e'.at_ j=e.at_ j
 id:(e'.at_ i).id=(e.at_ i).id
 fl:(e'.at_ i).fl=(e.at_ i).fl
 st:(e'.at_ i).st=(e.at_ i).st
 steps:(e'.at_ i).steps.length=(e.at_ i).steps.length
theorem Kin.refl (e:EngD)(i:Nat):Kin e e i:=⟨rfl,rfl,rfl,rfl,rfl,rfl,rfl,fun _ _ _=>rfl,rfl,rfl,rfl,rfl⟩
theorem Kin.trans {a b c:EngD}{i:Nat}(h:Kin a b i)(g:Kin b c i):Kin a c i :=
 ⟨g.time.trans h.time,g.seed.trans h.seed,g.lastRun.trans h.lastRun,g.lastTok.trans h.lastTok,g.timers.trans h.timers,g.ends.trans h.ends,g.len.trans h.len,
  fun j hj hn=>(g.others j (by rw [h.len];exact hj) hn).trans (h.others j hj hn),g.id.trans h.id,g.fl.trans h.fl,g.st.trans h.st,g.steps.trans h.steps⟩
theorem Kin.onStep (e:EngD){i:Nat}(k:Nat)(f:StD->StD)(q:List PlD)(hi:i<e.runs.length):Kin e { e.onStep i k f with queue:=q } i:=by
 have hr:({ e.onStep i k f with queue:=q }:EngD).runs=(e.onStep i k f).runs:=rfl
 obtain⟨s1,s2,s3,_,_,_⟩:=Za6 hr hi
 refine⟨rfl,rfl,rfl,rfl,rfl,rfl,Zbf hr,fun j hj hn=> ?_,s1,s2,s3,Zb0 hr hi⟩
 rw [Zbr hr hj,if_neg (fun x=>hn x.symm)]
theorem EngWk.ready {e:EngD}(h:EngWk e){i k:Nat}(hi:i<e.runs.length)(hk:k<(e.at_ i).steps.length)(h1:(e.at_ i).st=1)(hs:((e.at_ i).at_ k).st=1\/((e.at_ i).at_ k).st=4):EngWk (e.ready i k):=by
 have hn:=h.notin hi (k:=k) (by omega)
 have hso:=(h.runs i hi).steps k hk
 have hb:=(h.runs i hi).fl.node k (by rw [<-(h.runs i hi).len];exact hk)
 refine h.step hi hk (f:=fun s=>{ s with st:=2 }) rfl rfl (Int.le_refl _) (Int.le_refl _) rfl rfl ?_ (fun x=>absurd h1 x) ?_ ?_ (fun b tm sq x=>absurd x (not_due (by simp) (by simp))) (fun _ _ _ _ x=>absurd x (not_due (by simp) (by simp)))
 ·refine { hso with st1:=by simp,st2:=by simp,wait:=fun x=>by simp at x,more:=fun _=> ?_,once:=fun x=>by simp at x,dead:=fun x=>by simp at x,finT:=fun x=>by simp at x,signT:=fun x=>by simp at x,beat:=fun x=>by simp at x }
  show ((e.at_ i).at_ k).tries<_
  rcases hs with x | x
  ·have:=hso.wait x;have:=hb.bu1;omega
  ·exact hso.more (Or.inr x)
 ·show (e.queue++_).Nodup
  rw [List.nodup_append]
  refine⟨h.qn,by simp,?_⟩
  intro a ha b hb' hab
  simp only [List.mem_singleton] at hb'
  subst hb' hab
  exact hn ha
 ·intro p
  show p∈e.queue++_↔_
  rw [List.mem_append,List.mem_singleton]
  constructor
  ·rintro (x | x)
   ·exact Or.inr ⟨fun y=>hn (y▸x),x⟩
   ·exact Or.inl ⟨x,rfl⟩
  ·rintro (⟨x,_⟩ | ⟨_,x⟩)
   ·exact Or.inr x
   ·exact Or.inl x
theorem Kin.ready (e:EngD){i:Nat}(k:Nat)(hi:i<e.runs.length):Kin e (e.ready i k) i:=Kin.onStep e k _ _ hi
theorem wake_step (i:Nat):∀(L:List Nat) (e:EngD),EngWk e->i<e.runs.length->(e.at_ i).st=1->(∀k∈L,k<(e.at_ i).steps.length) ->
  EngWk (L.foldl (fun e k=>if (e.at_ i).free k then e.ready i k else e) e)/\Kin e (L.foldl (fun e k=>if (e.at_ i).free k then e.ready i k else e) e) i
 | [],e,h,_,_,_=>⟨h, .refl e i⟩
 | k::L,e,h,hi,h1,hl=>by
  rw [List.foldl_cons]
  have hk:=hl k (List.mem_cons_self ..)
  cases hf:(e.at_ i).free k with
  | false =>
   rw [if_neg (by simp)]
   exact wake_step i L e h hi h1 (fun k h=>hl k (List.mem_cons_of_mem _ h))
  | true =>
   rw [if_pos rfl]
   have hkin:=Kin.ready e k hi
   obtain⟨g1,g2⟩:=wake_step i L (e.ready i k) (h.ready hi hk h1 (Or.inl (free_one hf))) (by rw [hkin.len];exact hi) (by rw [hkin.st];exact h1) (fun k h=>by rw [hkin.steps];exact hl k (List.mem_cons_of_mem _ h))
   exact⟨g1,hkin.trans g2⟩
theorem EngWk.wake {e:EngD}(h:EngWk e){i:Nat}(hi:i<e.runs.length)(h1:(e.at_ i).st=1):EngWk (e.wake i)/\Kin e (e.wake i) i :=
 wake_step i _ e h hi h1 (fun _ hk=>List.mem_range.1 hk)
theorem wake_at_fold (i:Nat):∀(L:List Nat) (e:EngD),i<e.runs.length->(∀k∈L,k<(e.at_ i).steps.length)->∀m,m<(e.at_ i).steps.length ->
  let e2:=L.foldl (fun e k=>e.ready i k) e
  (e2.at_ i).at_ m=if m∈L then { (e.at_ i).at_ m with st:=2 } else (e.at_ i).at_ m
 | [],e,_,_,m,_=>by simp
 | k::L,e,hi,hl,m,hm=>by
  have hkin:=Kin.ready e k hi
  have ih:=wake_at_fold i L (e.ready i k) (by rw [hkin.len];exact hi) (fun x hx=>by rw [hkin.steps];exact hl x (List.mem_cons_of_mem _ hx)) m (by rw [hkin.steps];exact hm)
  simp only [List.foldl_cons] at ih ⊢
  rw [ih,ready_at e i k hi]
  by_cases e1:k=m
  ·subst e1
   rw [Zbc _ _ hm]
   simp
  ·rw [Zbb _ _ e1]
   have:m∈k::L↔m∈L:=by rw [List.mem_cons];exact⟨fun x=>x.resolve_left (fun y=>e1 y.symm),Or.inr⟩
   by_cases e2:m∈L
   ·rw [if_pos e2,if_pos (this.2 e2)]
   ·rw [if_neg e2,if_neg (fun x=>e2 (this.1 x))]
theorem wake_at {e:EngD}{i:Nat}(hi:i<e.runs.length){m:Nat}(hm:m<(e.at_ i).steps.length) :
  ((e.wake i).at_ i).at_ m=if (e.at_ i).free m then { (e.at_ i).at_ m with st:=2 } else (e.at_ i).at_ m:=by
 rw [wake_eq e i hi]
 have:=wake_at_fold i ((List.range (e.at_ i).steps.length).filter (fun k=>(e.at_ i).free k)) e hi (fun k hk=>List.mem_range.1 (List.mem_filter.1 hk).1) m hm
 simp only at this
 rw [this]
 by_cases hf:(e.at_ i).free m=true
 ·rw [if_pos (List.mem_filter.2 ⟨List.mem_range.2 hm,hf⟩),if_pos hf]
 ·rw [if_neg (fun x=>hf (List.mem_filter.1 x).2),if_neg hf]
theorem EngWk.over {e:EngD}(h:EngWk e){i k:Nat}(hi:i<e.runs.length)(hk:k<(e.at_ i).steps.length)(st:Int)(hst:st=5\/st=6\/st=7)(h2:((e.at_ i).at_ k).st≠2)(h6:st=6->((e.at_ i).at_ k).tries=(e.at_ i).fl.bu k) :
  EngWk (e.onStep i k (fun s=>{ s with st:=st })):=by
 have hso:=(h.runs i hi).steps k hk
 refine h.calm hi hk (f:=fun s=>{ s with st:=st }) rfl rfl (Int.le_refl _) (Int.le_refl _) rfl rfl ?_ (fun _=>hst) h2 (by show st≠2;omega) rfl (fun b tm sq x=>absurd x (not_due (by show st≠3;omega) (by show st≠4;omega))) (fun _ _ _ _ x=>absurd x (not_due (by show st≠3;omega) (by show st≠4;omega)))
 exact { hso with st1:=by show 1<=st;omega,st2:=by show st<=7;omega,wait:=fun x=>by replace x:st=1:=x;omega,more:=fun x=>by replace x:st=2\/st=4:=x;omega,once:=fun x=>by replace x:st=3\/st=4:=x;omega,dead:=h6,finT:=fun x=>by replace x:st=3\/st=4:=x;omega,signT:=fun x=>by replace x:st=3:=x;omega,beat:=fun x=>by replace x:st=3:=x;omega }
theorem onRun_same {e:EngD}{i:Nat}:e.onRun i (fun _=>e.at_ i)=e:=by
 unfold EngD.onRun EngD.at_
 have:e.runs.modify i (fun _=>e.runs.getD i .z)=e.runs:=by
  apply List.ext_getElem (by simp)
  intro j h1 h2
  rw [List.getElem_modify]
  split
  ·rename_i hj;subst hj;rw [List.getD_eq_getElem?_getD,List.getElem?_eq_getElem h2];rfl
  ·rfl
 rw [this]
theorem Zdz (e:EngD)(i:Nat)(f g:RunD->RunD):(e.onRun i f).onRun i g=e.onRun i (fun r=>g (f r)):=by
 unfold EngD.onRun
 simp only [List.modify_modify_eq]
 rfl
theorem onRun_const (e:EngD)(i:Nat)(f:RunD->RunD):e.onRun i f=e.onRun i (fun _=>f (e.at_ i)):=by
 unfold EngD.onRun EngD.at_
 congr 1
 apply List.ext_getElem (by simp)
 intro j h1 h2
 rw [List.getElem_modify,List.getElem_modify]
 split
 ·rename_i hj;subst hj
  rw [List.getD_eq_getElem?_getD,List.getElem?_eq_getElem (by simpa using h1)];rfl
 ·rfl
theorem SkR.wk {r r2:RunD}(h:SkR r r2):∀{e:EngD} {i:Nat},EngWk e->i<e.runs.length->e.at_ i=r->EngWk (e.onRun i (fun _=>r2)):=by
 induction h with
 | refl r=>intro e i h hi hr;subst hr;rw [onRun_same];exact h
 | step r r2 k h1 h2 _ ih =>
  intro e i h hi hr
  subst hr
  have hw:=h.over hi h1 7 (by omega) (by have:=lost_one h2;omega) (by omega)
  have hr:(e.onStep i k (fun s=>{ s with st:=7 })).runs=(e.onStep i k skp).runs:=rfl
  have ha:=Zbr (e':=e.onStep i k (fun s=>{ s with st:=7 })) hr hi
  rw [if_pos rfl] at ha
  have:=ih hw (by rw [Zbf hr];exact hi) ha
  unfold EngD.onStep at this
  rw [Zdz] at this
  exact this
theorem SkR.same {a b:RunD}(h:SkR a b):b.id=a.id/\b.fl=a.fl/\b.st=a.st/\b.till=a.till/\b.tillAt=a.tillAt/\b.ended=a.ended:=by
 induction h with
 | refl=>exact⟨rfl,rfl,rfl,rfl,rfl,rfl⟩
 | step r r2 k _ _ _ ih=>exact ih
def endSt (s:StD):StD:=if s.st=5\/s.st=6 then s else { s with st:=7 }
def Zdq (st ends:Int)(r:RunD):RunD:={ r with st:=st,ended:=ends+1,steps:=r.steps.map endSt }
theorem end_at (e:EngD)(i:Nat)(st:Int){j:Nat}(hj:j<e.runs.length):(e.end_ i st).at_ j=if i=j then Zdq st e.ends (e.at_ j) else e.at_ j:=Zb1 e i j _ hj
theorem end_len (e:EngD)(i:Nat)(st:Int):(e.end_ i st).runs.length=e.runs.length:=Zbh e i _
theorem Zdw (st ends:Int)(r:RunD){k:Nat}(hk:k<r.steps.length):(Zdq st ends r).at_ k=endSt (r.at_ k):=by
 unfold RunD.at_ Zdq
 simp only [List.getD_eq_getElem?_getD,List.getElem?_map,List.getElem?_eq_getElem hk,Option.map_some,Option.getD_some]
theorem endSt_st (s:StD):(endSt s).st=5\/(endSt s).st=6\/(endSt s).st=7:=by
 unfold endSt;split
 ·rename_i h;omega
 ·exact Or.inr (Or.inr rfl)
theorem Zbk (st ends:Int)(r:RunD):(Zdq st ends r).steps.length=r.steps.length:=by unfold Zdq;simp
theorem EngWk.end_ {e:EngD}(h:EngWk e){i:Nat}(hi:i<e.runs.length)(h1:(e.at_ i).st=1)(st:Int)(hst:2<=st/\st<=5):EngWk (e.end_ i st):=by
 have hl:=end_len e i st
 have hat:=fun j hj=>end_at e i st (j:=j) hj
 have hri:=h.runs i hi
 have he0:=hri.goes.1 h1
 have hends:=h.en0
 have hid:∀j,j<e.runs.length->((e.end_ i st).at_ j).id=(e.at_ j).id:=fun j hj=>by rw [hat j hj];split<;>rfl
 refine⟨h.t0,h.tB,h.tm0,h.lr0,h.lt0,(by show 0<=e.ends+1;omega),by rw [hl];exact h.six,?_,?_,?_,?_,h.qn.filter _,?_,?_,?_⟩
 ·intro a b hab hb
  rw [hl] at hb
  rw [hid a (by omega),hid b hb];exact h.up a b hab hb
 ·intro a ha
  rw [hl] at ha
  rw [hid a ha];exact h.id1 a ha
 ·intro a ha
  rw [hl] at ha
  rw [hid a ha];exact h.idB a ha
 ·intro a ha
  rw [hl] at ha
  rw [hat a ha]
  have hra:=(h.runs a ha).mono (Int.le_refl e.timers) (Int.le_refl e.lastTok) (show e.ends<=e.ends+1 by omega)
  split
  ·rename_i hx
   subst hx
   refine⟨hra.fl,by rw [Zbk];exact hra.len,by show 1<=st;omega,hst.2,?_,by show 0<=e.ends+1;omega,Int.le_refl _,hra.till0,hra.tillB,fun x=>by replace x:st=1:=x;omega,hra.ta0,hra.taB,?_,?_⟩
   ·show st=1↔e.ends+1=0
    omega
   ·intro k hk
    rw [Zbk] at hk
    rw [Zdw _ _ _ hk]
    have hso:=hra.steps k hk
    unfold endSt
    split
    ·exact hso
    ·exact { hso with st1:=by simp,st2:=by simp,wait:=fun x=>by simp at x,more:=fun x=>by simp at x,once:=fun x=>by simp at x,dead:=fun x=>by simp at x,finT:=fun x=>by simp at x,signT:=fun x=>by simp at x,beat:=fun x=>by simp at x }
   ·intro _ k hk
    rw [Zbk] at hk
    rw [Zdw _ _ _ hk]
    exact endSt_st _
  ·exact hra
 ·intro p
  show p∈e.queue.filter _↔_
  rw [List.mem_filter,h.qm p]
  constructor
  ·rintro⟨⟨j,q1,q2,q3,q4⟩,q5⟩
   have hji:i≠j:=fun x=>by subst x;simp [q2] at q5
   refine⟨j,by rw [hl];exact q1,?_⟩
   rw [hat j q1,if_neg hji]
   exact⟨q2,q3,q4⟩
  ·rintro⟨j,q1,q2⟩
   rw [hl] at q1
   rw [hat j q1] at q2
   by_cases hij:i=j
   ·subst hij
    rw [if_pos rfl] at q2
    obtain⟨_,q3,q4⟩:=q2
    rw [Zbk] at q3
    rw [Zdw _ _ _ q3] at q4
    have:=endSt_st ((e.at_ i).at_ p.node)
    omega
   ·rw [if_neg hij] at q2
    refine⟨⟨j,q1,q2⟩,?_⟩
    have:p.run≠(e.at_ i).id:=fun x=>hij (h.id_inj hi q1 (by rw [q2.1,x]))
    simpa using this
 ·have key:∀d,DueE (e.end_ i st) d->DueE e d:=by
   rintro d ⟨d1,d2,d3⟩
   rw [hl] at d1
   rw [hat _ d1] at d2 d3
   by_cases hij:i=d.i
   ·rw [if_pos hij] at d2
    replace d2:st=1:=d2
    omega
   ·rw [if_neg hij] at d2 d3
    exact⟨d1,d2,d3⟩
  intro a ha b hb hab
  exact h.sq a (Zaq.2 (key a (Zaq.1 ha))) b (Zaq.2 (key b (Zaq.1 hb))) hab
 ·intro a b ha hb
  rw [hl] at ha hb
  rw [hat a ha,hat b hb]
  have ha2:=(h.runs a ha).enB
  have hb2:=(h.runs b hb).enB
  by_cases x:i=a<;>by_cases y:i=b
  ·intros;omega
  ·rw [if_pos x,if_neg y]
   show 0<e.ends+1->e.ends+1=_->_
   intros;omega
  ·rw [if_neg x,if_pos y]
   show _->_=e.ends+1->_
   intros;omega
  ·rw [if_neg x,if_neg y];exact h.en a b ha hb
theorem work_at {r:RunD}{tok:Int}{k:Nat}(hk:k<r.steps.length)(h:(r.at_ k).st=3/\(r.at_ k).tok=tok)(hn:∀j,j<k->¬((r.at_ j).st=3/\(r.at_ j).tok=tok)):r.work tok=some k:=by
 unfold RunD.work
 rw [List.findIdx?_eq_some_iff_getElem]
 have e:∀j (hj:j<r.steps.length),r.at_ j=r.steps[j]:=fun j hj=>by unfold RunD.at_;rw [List.getD_eq_getElem?_getD,List.getElem?_eq_getElem hj];rfl
 refine⟨hk,by rw [<-e k hk];simpa using h,fun j hj=> ?_⟩
 rw [<-e j (by omega)]
 simpa using hn j hj
theorem work_no {r:RunD}{tok:Int}(hn:∀j,j<r.steps.length->¬((r.at_ j).st=3/\(r.at_ j).tok=tok)):r.work tok=none:=by
 unfold RunD.work
 rw [List.findIdx?_eq_none_iff]
 intro x hx
 obtain⟨j,hj,e⟩:=Zbz (z:=StD.z) hx
 have:=hn j hj
 unfold RunD.at_ at this
 rw [e] at this
 simpa using this
theorem task_at {e:EngD}{tok:Int}{i k:Nat}(hi:i<e.runs.length)(hw:(e.at_ i).work tok=some k)(hn:∀j,j<i->(e.at_ j).work tok=none):e.task tok=some (i,k):=by
 have e1:∀j (hj:j<e.runs.length),e.at_ j=e.runs[j]:=fun j hj=>by unfold EngD.at_;rw [List.getD_eq_getElem?_getD,List.getElem?_eq_getElem hj];rfl
 have h:e.runs.findIdx? (fun r=>(r.work tok).isSome)=some i:=by
  rw [List.findIdx?_eq_some_iff_getElem]
  refine⟨hi,by rw [<-e1 i hi,hw];rfl,fun j hj=> ?_⟩
  rw [<-e1 j (by omega),hn j hj];simp
 unfold EngD.task
 rw [h]
 show ((e.at_ i).work tok).bind _=_
 rw [hw];rfl
theorem task_no {e:EngD}{tok:Int}(hn:∀j,j<e.runs.length->(e.at_ j).work tok=none):e.task tok=none:=by
 have h:e.runs.findIdx? (fun r=>(r.work tok).isSome)=none:=by
  rw [List.findIdx?_eq_none_iff]
  intro x hx
  obtain⟨j,hj,e2⟩:=Zbz (z:=RunD.z) hx
  have:=hn j hj
  unfold EngD.at_ at this
  rw [<-e2,this];rfl
 unfold EngD.task
 rw [h];rfl
end Go.Proofs.YtgdcjccbdmcebabGreatDoor
