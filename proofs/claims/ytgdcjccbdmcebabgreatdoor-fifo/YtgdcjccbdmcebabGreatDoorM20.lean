import Derived.Test.YtgdcjccbdmcebabGreatDoorM19
set_option linter.unusedSimpArgs false
set_option linter.unusedVariables false
namespace Go.Proofs.YtgdcjccbdmcebabGreatDoor
def Goes (r:RunD):Prop:=r.st=1->∃k,k<r.steps.length/\(r.at_ k).st≠5/\(r.at_ k).st≠6/\(r.at_ k).st≠7
structure EngOk (e:EngD):Prop where
 wk:EngWk e
 goes:∀i,i<e.runs.length->Goes (e.at_ i)
theorem all_at {r:RunD}{p:StD->Bool}:r.steps.all p=true↔∀k,k<r.steps.length->p (r.at_ k)=true:=by
 rw [List.all_eq_true]
 constructor
 ·intro h k hk
  exact h _ (Zbj (z:=StD.z) hk)
 ·intro h x hx
  obtain⟨k,hk,e⟩:=Zbz (z:=StD.z) hx
  have:=h k hk
  unfold RunD.at_ at this
  rw [e] at this;exact this
theorem outcome_none {r:RunD}(h:r.outcome=none):∃k,k<r.steps.length/\(r.at_ k).st≠5/\(r.at_ k).st≠6/\(r.at_ k).st≠7:=by
 unfold RunD.outcome at h
 split at h
 ·cases h
 ·rename_i hn
  rw [all_at] at hn
  simp only [Classical.not_forall] at hn
  obtain⟨k,hk,hx⟩:=hn
  refine⟨k,hk,?_⟩
  simp only [Bool.or_eq_true,beq_iff_eq,not_or] at hx
  exact⟨hx.1.1,hx.1.2,hx.2⟩
theorem Zdm {r:RunD}{st:Int}(h:r.outcome=some st):st=2\/st=3:=by
 unfold RunD.outcome at h
 split at h
 ·split at h<;>simp at h<;>omega
 ·cases h
theorem EngWk.settle {e:EngD}(h:EngWk e){i:Nat}(hi:i<e.runs.length)(h1:(e.at_ i).st=1)(hg:∀j,j<e.runs.length->j≠i->Goes (e.at_ j)):EngOk (e.settle i):=by
 unfold EngD.settle
 cases ho:(e.at_ i).outcome with
 | none =>
  refine⟨h,fun j hj=> ?_⟩
  by_cases hji:j=i
  ·subst hji;exact fun _=>outcome_none ho
  ·exact hg j hj hji
 | some st =>
  have hst:=Zdm ho
  refine⟨h.end_ hi h1 st (by omega),fun j hj=> ?_⟩
  show Goes ((e.end_ i st).at_ j)
  replace hj:j<(e.end_ i st).runs.length:=hj
  rw [end_len] at hj
  rw [end_at e i st hj]
  by_cases hji:i=j
  ·rw [if_pos hji]
   intro x
   replace x:st=1:=x
   omega
  ·rw [if_neg hji];exact hg j hj (fun x=>hji x.symm)
theorem task_is {e:EngD}{tok:Int}{i k:Nat}(h:e.task tok=some (i,k)):i<e.runs.length/\k<(e.at_ i).steps.length/\((e.at_ i).at_ k).st=3/\((e.at_ i).at_ k).tok=tok:=by
 unfold EngD.task at h
 cases hf:e.runs.findIdx? (fun r=>(r.work tok).isSome) with
 | none=>rw [hf] at h;cases h
 | some i' =>
  rw [hf] at h
  replace h:((e.at_ i').work tok).bind (fun k=>some (i',k))=some (i,k):=h
  cases hw:(e.at_ i').work tok with
  | none=>rw [hw] at h;cases h
  | some k' =>
   rw [hw] at h
   replace h:some (i',k')=some (i,k):=h
   cases h
   rw [List.findIdx?_eq_some_iff_getElem] at hf
   unfold RunD.work at hw
   rw [List.findIdx?_eq_some_iff_getElem] at hw
   obtain⟨hi,_,_⟩:=hf
   obtain⟨hk,hp,_⟩:=hw
   simp only [Bool.and_eq_true,beq_iff_eq] at hp
   have e1:(e.at_ i).at_ k=(e.at_ i).steps[k]:=by rw [RunD.at_,List.getD_eq_getElem?_getD,List.getElem?_eq_getElem hk];rfl
   rw [e1]
   exact⟨hi,hk,hp.1,hp.2⟩
theorem EngWk.runs_of {e:EngD}(h:EngWk e){i k:Nat}(hi:i<e.runs.length)(hk:k<(e.at_ i).steps.length)(hs:((e.at_ i).at_ k).st<5):(e.at_ i).st=1:=by
 by_cases h1:(e.at_ i).st=1
 ·exact h1
 ·have:=(h.runs i hi).over h1 k hk;omega
theorem laterI_bd {now span:Int}(h0:0<=now)(h1:now<=4611686018427387904)(h2:1<=span):now<=Zas now span/\1<=Zas now span/\Zas now span<=4611686018427387904:=by
 unfold Zas;split<;>omega
theorem restI_bd {F:FlowD}{k:Nat}(h:OkNode F k)(t seed:Int):1<=Zdt (F.ba k) (F.ca k) (F.ji k) t seed/\Zdt (F.ba k) (F.ca k) (F.ji k) t seed<=2097152:=by
 unfold Zdt
 have h1:=pw_pos (F.ba k) h.ba1 (t - 1).toNat
 have h2:=h.ca1;have h3:=h.ca2;have h4:=h.ji1;have h5:=h.ji2;have h6:=h.ba1
 have h7:=Int.emod_nonneg seed (show F.ji k+1≠0 by omega)
 have h8:=Int.emod_lt_of_pos seed (show 0<F.ji k+1 by omega)
 omega
theorem EngOk.fails {e:EngD}(h:EngOk e){i k:Nat}(hi:i<e.runs.length)(hk:k<(e.at_ i).steps.length)(hs:((e.at_ i).at_ k).st=3):EngOk (e.fails i k):=by
 have h1:=h.wk.runs_of hi hk (by omega)
 have hso:=(h.wk.runs i hi).steps k hk
 have hb:=(h.wk.runs i hi).fl.node k (by rw [<-(h.wk.runs i hi).len];exact hk)
 unfold EngD.fails
 simp only
 split
 ·rename_i hlt
  have hre:=restI_bd hb ((e.at_ i).at_ k).tries e.seed
  have hla:=laterI_bd h.wk.t0 h.wk.tB (show 1<=Zdt ((e.at_ i).fl.ba k) ((e.at_ i).fl.ca k) ((e.at_ i).fl.ji k) ((e.at_ i).at_ k).tries e.seed by omega)
  have htm:=h.wk.tm0
  generalize hf:(fun s:StD=>({ s with st:=4,fin:=Zas e.time (Zdt ((e.at_ i).fl.ba k) ((e.at_ i).fl.ca k) ((e.at_ i).fl.ji k) s.tries e.seed),finAt:=e.timers+1 }:StD))=f
  generalize hsp:Zdt ((e.at_ i).fl.ba k) ((e.at_ i).fl.ca k) ((e.at_ i).fl.ji k) ((e.at_ i).at_ k).tries e.seed=span at *
  have hf4:(f ((e.at_ i).at_ k)).st=4:=by rw [<-hf]
  have hr:(({ e with timers:=e.timers+1 }:EngD).onStep i k f).runs=(e.onStep i k f).runs:=rfl
  constructor
  ·refine h.wk.calm hi hk hr rfl (show e.timers<=e.timers+1 by omega) (Int.le_refl _) rfl rfl ?_ (fun x=>absurd h1 x) (by omega) (by omega) rfl ?_ ?_
   ·rw [<-hf]
    simp only [hsp]
    exact { hso with st1:=by simp,st2:=by simp,wait:=fun x=>by simp at x,more:=fun _=>hlt,once:=fun _=>hso.once (Or.inl hs),dead:=fun x=>by simp at x,fin0:=by show 0<=Zas e.time span;omega,finB:=hla.2.2,finT:=fun _=>hla.1,signT:=fun x=>by simp at x,beat:=fun x=>by simp at x,fa0:=by show 0<=e.timers+1;omega,faB:=Int.le_refl _,saB:=by have:=hso.saB;show ((e.at_ i).at_ k).signAt<=e.timers+1;omega }
   ·intro b tm sq x
    right
    rw [<-hf] at x
    unfold StD.due at x
    split at x
    ·simp at x
    ·have:=x.2.2;simp only at this;omega
   ·intro tm sq tm' sq' _ x
    rw [<-hf] at x
    unfold StD.due at x
    simp at x
  ·intro j hj
   rw [Zbf hr] at hj
   rw [Zbr hr hj]
   by_cases hij:i=j
   ·subst hij
    rw [if_pos rfl]
    intro _
    exact⟨k,by rw [Zal];exact hk,by rw [Zbc _ _ hk];omega⟩
   ·rw [if_neg hij];exact h.goes j hj
 ·rename_i hge
  have hbu:((e.at_ i).at_ k).tries=(e.at_ i).fl.bu k:=by have:=hso.trB;omega
  have hw:=h.wk.over hi hk 6 (by omega) (by omega) (fun _=>hbu)
  generalize hg:(fun s:StD=>({ s with st:=6 }:StD))=g at hw
  have hr:(e.onStep i k g).runs=(e.onStep i k g).runs:=rfl
  have ha:=Zbr hr hi
  rw [if_pos rfl] at ha
  obtain⟨k1,_⟩:=skipN_shut ((e.at_ i).onStep k g)
  have hw2:=SkR.wk k1 hw (by rw [Zbf hr];exact hi) ha
  unfold EngD.onStep at hw2
  rw [Zdz] at hw2
  have heq:e.onRun i (fun r=>RunD.skipN r.steps.length (r.onStep k g))=e.onRun i (fun _=>RunD.skipN ((e.at_ i).onStep k g).steps.length ((e.at_ i).onStep k g)):=by
   rw [onRun_const,Zal]
  rw [heq]
  have hat:=fun j hj=>Zb1 e i j (fun _=>RunD.skipN ((e.at_ i).onStep k g).steps.length ((e.at_ i).onStep k g)) hj
  refine hw2.settle (by rw [Zbh];exact hi) ?_ (fun j hj hji=> ?_)
  ·rw [hat i hi,if_pos rfl,k1.same.2.2.1];exact h1
  ·rw [Zbh] at hj
   rw [hat j hj,if_neg (fun x=>hji x.symm)];exact h.goes j hj
theorem EngOk.fail {e e':EngD}(h:EngOk e){tok:Int}(he:e.fail tok=some e'):EngOk e':=by
 unfold EngD.fail at he
 split at he
 ·cases he
 ·rename_i i k ht
  obtain⟨a,b,c,_⟩:=task_is ht
  cases he
  exact h.fails a b c
theorem EngOk.complete {e e':EngD}(h:EngOk e){tok:Int}(he:e.complete tok=some e'):EngOk e':=by
 unfold EngD.complete at he
 split at he
 ·cases he
 ·rename_i i k ht
  obtain⟨hi,hk,hs,_⟩:=task_is ht
  cases he
  have h1:=h.wk.runs_of hi hk (by omega)
  have hw:=h.wk.over hi hk 5 (by omega) (by omega) (by omega)
  have kin:=Kin.onStep e k (fun s=>{ s with st:=5 }) e.queue hi
  have kin:Kin e (e.onStep i k (fun s=>{ s with st:=5 })) i:=kin
  obtain⟨g1,g2⟩:=hw.wake (by rw [kin.len];exact hi) (by rw [kin.st];exact h1)
  have kin2:=kin.trans g2
  refine g1.settle (by rw [kin2.len];exact hi) (by rw [kin2.st];exact h1) (fun j hj hji=> ?_)
  rw [kin2.len] at hj
  rw [kin2.others j hj hji];exact h.goes j hj
theorem find_is {e:EngD}{id:Int}{i:Nat}(hf:e.find id=some i):i<e.runs.length/\(e.at_ i).id=id:=by
 unfold EngD.find at hf
 rw [List.findIdx?_eq_some_iff_getElem] at hf
 obtain⟨hi,hp,_⟩:=hf
 refine⟨hi,?_⟩
 unfold EngD.at_
 rw [List.getD_eq_getElem?_getD,List.getElem?_eq_getElem hi]
 simpa using hp
theorem EngWk.find_at {e:EngD}(h:EngWk e){i:Nat}(hi:i<e.runs.length):e.find (e.at_ i).id=some i:=by
 unfold EngD.find
 rw [List.findIdx?_eq_some_iff_getElem]
 have e1:∀j (hj:j<e.runs.length),e.runs[j]=e.at_ j:=fun j hj=>by unfold EngD.at_;rw [List.getD_eq_getElem?_getD,List.getElem?_eq_getElem hj];rfl
 refine⟨hi,by rw [e1];simp,fun j hj=> ?_⟩
 rw [e1]
 have:=h.up j i hj hi
 have hne:(e.at_ j).id≠(e.at_ i).id:=by omega
 simpa using hne
theorem EngOk.poll {e e':EngD}(h:EngOk e){p:PlD}{t tk:Int}(he:e.poll=some (p,t,tk,e')):EngOk e':=by
 unfold EngD.poll at he
 split at he
 ·cases he
 ·rename_i p0 q hq
  split at he
  ·cases he
  ·rename_i i hf
   obtain⟨hi,hid⟩:=find_is hf
   simp only [Option.some.injEq,Prod.mk.injEq] at he
   obtain⟨rfl,rfl,rfl,rfl⟩:=he
   obtain⟨i2,q1,q2,q3,q4⟩:=(h.wk.qm p0).1 (by rw [hq];exact List.mem_cons_self ..)
   have:=h.wk.id_inj hi q1 (by rw [hid,q2])
   subst this
   obtain⟨pr,k⟩:=p0
   simp only at hid q2 q3 q4 hf ⊢
   subst hid
   have h1:=h.wk.runs_of hi q3 (by omega)
   have hso:=(h.wk.runs i hi).steps k q3
   have hb:=(h.wk.runs i hi).fl.node k (by rw [<-(h.wk.runs i hi).len];exact q3)
   have htm:=h.wk.tm0
   have hlt0:=h.wk.lt0
   have hl1:=laterI_bd h.wk.t0 h.wk.tB hb.cl1
   have hbe:=hb.be1
   generalize hf:(fun s:StD=>({ s with st:=3,tries:=((e.at_ i).at_ k).tries+1,tok:=e.lastTok+1,fin:=Zas e.time ((e.at_ i).fl.cl k),finAt:=e.timers+1,sign:=if (e.at_ i).fl.be k > 0 then Zas e.time ((e.at_ i).fl.be k) else 0,signAt:=if (e.at_ i).fl.be k > 0 then e.timers+2 else s.signAt }:StD))=f
   have hf4:(f ((e.at_ i).at_ k)).st=3:=by rw [<-hf]
   have hq0:=h.wk.qn
   rw [hq,List.nodup_cons] at hq0
   constructor
   ·refine h.wk.step hi q3 (f:=f) rfl rfl (by show e.timers<=e.timers+1+_;split<;>omega) (show e.lastTok<=e.lastTok+1 by omega) rfl rfl ?_ (fun x=>absurd h1 x) hq0.2 ?_ ?_ ?_
    ·have hmore:=hso.more (Or.inl q4)
     have htr:=hso.tr0
     have hsa:=hso.saB
     have hsa0:=hso.sa0
     show StOk _ _ _ (e.timers+1+_) (e.lastTok+1) _
     rw [<-hf]
     by_cases hbb:(e.at_ i).fl.be k > 0
     ·have hl2:=laterI_bd h.wk.t0 h.wk.tB (show 1<=(e.at_ i).fl.be k by omega)
      simp only [if_pos hbb]
      exact⟨by simp,by simp,by simp only;omega,by simp only;omega,fun x=>by simp at x,fun x=>by simp at x,fun _=>by simp only;omega,fun x=>by simp at x,by simp only;omega,by simp only;omega,by simp only;omega,hl1.2.2,by simp only;omega,hl2.2.2,fun _=>hl1.1,fun _ _=>hl2.1,fun _=>⟨fun _=>hbb,fun _=>by simp only;omega⟩,by simp only;omega,by simp only;omega,by simp only;omega,by simp only;omega⟩
     ·simp only [if_neg hbb]
      exact⟨by simp,by simp,by simp only;omega,by simp only;omega,fun x=>by simp at x,fun x=>by simp at x,fun _=>by simp only;omega,fun x=>by simp at x,by simp only;omega,by simp only;omega,by simp only;omega,hl1.2.2,by simp,by simp,fun _=>hl1.1,fun _ x=>by simp at x,fun _=>⟨fun x=>by simp at x,fun x=>absurd x hbb⟩,by simp only;omega,by simp only;omega,by simp only;omega,by simp only;omega⟩
    ·intro p
     show p∈q↔_
     rw [hq,List.mem_cons]
     constructor
     ·intro x
      exact Or.inr ⟨fun y=>hq0.1 (y▸x),Or.inr x⟩
     ·rintro (⟨_,x⟩ | ⟨x,y | y⟩)
      ·omega
      ·exact absurd y x
      ·exact y
    ·intro b tm sq x
     right
     rw [<-hf] at x
     unfold StD.due at x
     split at x
     ·simp only at x
      split at x
      ·omega
      ·omega
     ·simp only at x;omega
    ·intro tm sq tm' sq' y x
     rw [<-hf] at x y
     unfold StD.due at x y
     simp only [if_true,Bool.false_eq_true,if_false] at x y
     split at x<;>omega
   ·intro j hj
    have hr:∀q lt tm,((({ e with queue:=q,lastTok:=lt,timers:=tm }:EngD).onStep i k f).runs=(e.onStep i k f).runs):=fun _ _ _=>rfl
    rw [Zbf (hr _ _ _)] at hj
    rw [Zbr (hr _ _ _) hj]
    by_cases hij:i=j
    ·subst hij
     rw [if_pos rfl]
     intro _
     exact⟨k,by rw [Zal];exact q3,by rw [Zbc _ _ q3];omega⟩
    ·rw [if_neg hij];exact h.goes j hj
theorem best_min {e:EngD}{b:Nat}(hb:bestT e.dues e.dues.length=some b):DueE e (e.dues.getD b .z)/\∀d,DueE e d->(e.dues.getD b .z).tm<=d.tm:=by
 obtain⟨h1,h2⟩:=bestT_some hb
 refine⟨Zaq.1 (Zbj (z:=TmD.z) h1),fun d hd=> ?_⟩
 obtain⟨j,hj,ej⟩:=Zbz (z:=TmD.z) (Zaq.2 hd)
 have:=h2 j hj
 rw [ej] at this
 unfold TmD.lt at this
 omega
theorem EngOk.at_time {e:EngD}(h:EngOk e){t:Int}(h1:e.time<=t)(h2:t<=4611686018427387904)(h3:∀d,DueE e d->t<=d.tm):EngOk { e with time:=t }:=by
 have h0:=h.wk.t0
 refine⟨⟨(by show 0<=t;omega),h2,h.wk.tm0,h.wk.lr0,h.wk.lt0,h.wk.en0,h.wk.six,h.wk.up,h.wk.id1,h.wk.idB,fun i hi=> ?_,h.wk.qn,h.wk.qm,h.wk.sq,h.wk.en⟩,h.goes⟩
 have hr:=h.wk.runs i hi
 refine { hr with tillT:=fun x=>h3 ⟨i,none,false,(e.at_ i).till,(e.at_ i).tillAt⟩ ⟨hi,x,rfl,rfl,rfl⟩,steps:=fun k hk=> ?_ }
 have hs:=hr.steps k hk
 have hd:∀b tm sq,((e.at_ i).at_ k).due b tm sq->t<=tm:=fun b tm sq x=>by
  have hst:((e.at_ i).at_ k).st<5:=by
   unfold StD.due at x
   split at x<;>omega
  exact h3 ⟨i,some k,b,tm,sq⟩ ⟨hi,h.wk.runs_of hi hk hst,hk,x⟩
 exact { hs with finT:=fun x=>hd false _ _ ⟨x,rfl,rfl⟩,signT:=fun x y=>hd true _ _ ⟨x,y,rfl,rfl⟩ }
theorem EngOk.end_ {e:EngD}(h:EngOk e){i:Nat}(hi:i<e.runs.length)(h1:(e.at_ i).st=1)(st:Int)(hst:2<=st/\st<=5):EngOk (e.end_ i st):=by
 refine⟨h.wk.end_ hi h1 st hst,fun j hj=> ?_⟩
 rw [end_len] at hj
 rw [end_at e i st hj]
 split
 ·intro x;replace x:st=1:=x;omega
 ·exact h.goes j hj
theorem EngOk.ready {e:EngD}(h:EngOk e){i k:Nat}(hi:i<e.runs.length)(hk:k<(e.at_ i).steps.length)(hs:((e.at_ i).at_ k).st=1\/((e.at_ i).at_ k).st=4):EngOk (e.ready i k):=by
 have h1:=h.wk.runs_of hi hk (by omega)
 have kin:=Kin.ready e k hi
 refine⟨h.wk.ready hi hk h1 hs,fun j hj=> ?_⟩
 rw [kin.len] at hj
 by_cases hij:j=i
 ·subst hij
  intro _
  refine⟨k,by rw [kin.steps];exact hk,?_⟩
  rw [ready_at e j k hi,Zbc _ _ hk]
  simp
 ·rw [kin.others j hj hij];exact h.goes j hj
theorem EngOk.happens {e:EngD}(h:EngOk e){d:TmD}(hd:DueE e d)(hm:∀x,DueE e x->d.tm<=x.tm):EngOk (e.happens d):=by
 have hq:=h.wk.due_sq hd
 have h1:EngOk { e with time:=max e.time d.tm }:=h.at_time (by omega) (by have:=h.wk.tB;omega) (fun x hx=>by have:=hm x hx;have:=(h.wk.due_sq hx).2;omega)
 obtain⟨hi,hs,hk⟩:=hd
 unfold EngD.happens
 cases hdk:d.k with
 | none =>
  simp only
  exact EngOk.end_ h1 hi hs 5 (by omega)
 | some k =>
  rw [hdk] at hk
  simp only at hk ⊢
  split
  ·rename_i h4
   exact EngOk.ready h1 hi hk.1 (Or.inr h4)
  ·rename_i h4
   refine EngOk.fails h1 hi hk.1 ?_
   have:=hk.2
   unfold StD.due at this
   split at this
   ·exact this.1
   ·exact this.1.resolve_right h4
def wt (s:StD):Nat:=if s.st=3 then 2 else if s.st=4 then 1 else 0
def RunD.load (r:RunD):Nat:=if r.st=1 then 1+(r.steps.map wt).sum else 0
def EngD.load (e:EngD):Nat:=(e.runs.map RunD.load).sum
theorem sum_modify {α:Type}{z:α}(g:α->Nat)(f:α->α):∀(l:List α) (i:Nat),i<l.length->((l.modify i f).map g).sum+g (l.getD i z)=(l.map g).sum+g (f (l.getD i z))
 | [],i,h=>by simp at h
 | a::l,0,_=>by simp;omega
 | a::l,i+1,h=>by
  have:=sum_modify (z:=z) g f l i (by simpa using h)
  simp only [List.modify_succ_cons,List.map_cons,List.sum_cons,List.getD_cons_succ]
  omega
theorem sum_bound {α:Type}(g:α->Nat)(b:Nat):∀(l:List α),(∀x∈l,g x<=b)->(l.map g).sum<=l.length * b
 | [],_=>by simp
 | a::l,h=>by
  have h1:=h a (List.mem_cons_self ..)
  have:=sum_bound g b l (fun x hx=>h x (List.mem_cons_of_mem _ hx))
  simp only [List.map_cons,List.sum_cons,List.length_cons,Nat.add_mul]
  omega
theorem wt_le (s:StD):wt s<=2:=by
 unfold wt
 split
 ·omega
 ·split<;>omega
theorem EngWk.load_le {e:EngD}(h:EngWk e):e.load<=150:=by
 have h1:∀x∈e.runs,x.load<=25:=by
  intro x hx
  obtain⟨i,hi,ex⟩:=Zbz (z:=RunD.z) hx
  have:=(h.runs i hi).n12
  unfold EngD.at_ at this
  rw [ex] at this
  unfold RunD.load
  split
  ·have:=sum_bound wt 2 x.steps (fun s _=>wt_le s)
   omega
  ·omega
 have:=sum_bound RunD.load 25 e.runs h1
 have:=h.six
 unfold EngD.load
 omega
theorem load_onRun {e:EngD}{i:Nat}(hi:i<e.runs.length)(f:RunD->RunD):(e.onRun i f).load+(e.at_ i).load=e.load+(f (e.at_ i)).load:=sum_modify (z:=RunD.z) RunD.load f e.runs i hi
theorem load_step {r:RunD}{k:Nat}(hk:k<r.steps.length)(f:StD->StD)(h1:r.st=1):(r.onStep k f).load+wt (r.at_ k)=r.load+wt (f (r.at_ k)):=by
 have:=sum_modify (z:=StD.z) wt f r.steps k hk
 unfold RunD.load
 rw [if_pos (show (r.onStep k f).st=1 from h1),if_pos h1]
 unfold RunD.at_
 show 1+((r.steps.modify k f).map wt).sum+_=_
 omega
theorem load_onStep {e:EngD}{i k:Nat}(hi:i<e.runs.length)(hk:k<(e.at_ i).steps.length)(h1:(e.at_ i).st=1)(f:StD->StD):(e.onStep i k f).load+wt ((e.at_ i).at_ k)=e.load+wt (f ((e.at_ i).at_ k)):=by
 have a:=load_onRun hi (fun r=>r.onStep k f)
 have b:=load_step hk f h1
 show (e.onRun i (fun r=>r.onStep k f)).load+_=_
 omega
theorem load_end {e:EngD}{i:Nat}(hi:i<e.runs.length)(h1:(e.at_ i).st=1)(st:Int)(hst:st≠1):(e.end_ i st).load+1<=e.load:=by
 have a:=load_onRun hi (Zdq st e.ends)
 have b:(Zdq st e.ends (e.at_ i)).load=0:=by unfold RunD.load;rw [if_neg];exact hst
 have c:1<=(e.at_ i).load:=by unfold RunD.load;rw [if_pos h1];omega
 show (e.onRun i (Zdq st e.ends)).load+1<=_
 omega
theorem load_settle {e:EngD}{i:Nat}(hi:i<e.runs.length)(h1:(e.at_ i).st=1):(e.settle i).load<=e.load/\(e.settle i).timers=e.timers:=by
 unfold EngD.settle
 cases ho:(e.at_ i).outcome with
 | none=>exact⟨Nat.le_refl _,rfl⟩
 | some st =>
  have:=Zdm ho
  have:=load_end hi h1 st (by omega)
  exact⟨by simp only;omega,rfl⟩
theorem SkR.load {r r2:RunD}(h:SkR r r2)(h1:r.st=1):r2.load=r.load:=by
 induction h with
 | refl=>rfl
 | step r r2 k hk hl _ ih =>
  have:=load_step hk skp h1
  have e1:=lost_one hl
  have e2:wt (r.at_ k)=0:=by unfold wt;rw [if_neg (by omega),if_neg (by omega)]
  have e3:wt (skp (r.at_ k))=0:=by unfold wt skp;rw [if_neg (by simp),if_neg (by simp)]
  rw [ih h1];omega
theorem load_fails {e:EngD}(h:EngOk e){i k:Nat}(hi:i<e.runs.length)(hk:k<(e.at_ i).steps.length)(hs:((e.at_ i).at_ k).st=3):(e.fails i k).load<e.load/\(e.fails i k).timers+(e.fails i k).load<=e.timers+e.load:=by
 have h1:=h.wk.runs_of hi hk (by omega)
 have w3:wt ((e.at_ i).at_ k)=2:=by unfold wt;rw [if_pos hs]
 unfold EngD.fails
 simp only
 split
 ·generalize hf:(fun s:StD=>({ s with st:=4,fin:=Zas e.time (Zdt ((e.at_ i).fl.ba k) ((e.at_ i).fl.ca k) ((e.at_ i).fl.ji k) s.tries e.seed),finAt:=e.timers+1 }:StD))=f
  have w4:wt (f ((e.at_ i).at_ k))=1:=by rw [<-hf];unfold wt;rw [if_neg (by simp),if_pos (by simp)]
  have:=load_onStep hi hk h1 f
  have e1:(({ e with timers:=e.timers+1 }:EngD).onStep i k f).load=(e.onStep i k f).load:=rfl
  have e2:(({ e with timers:=e.timers+1 }:EngD).onStep i k f).timers=e.timers+1:=rfl
  rw [e1,e2];omega
 ·generalize hg:(fun s:StD=>({ s with st:=6 }:StD))=g
  have w6:wt (g ((e.at_ i).at_ k))=0:=by rw [<-hg];unfold wt;rw [if_neg (by simp),if_neg (by simp)]
  have b:=load_step hk g h1
  obtain⟨k1,_⟩:=skipN_shut ((e.at_ i).onStep k g)
  have c:=k1.load h1
  have a:=load_onRun hi (fun r=>RunD.skipN r.steps.length (r.onStep k g))
  have e1:(RunD.skipN (e.at_ i).steps.length ((e.at_ i).onStep k g)).load=((e.at_ i).onStep k g).load:=by rw [<-Zal (e.at_ i) k g];exact c
  rw [e1] at a
  have hst:((e.onRun i (fun r=>RunD.skipN r.steps.length (r.onStep k g))).at_ i).st=1:=by
   rw [Zb1 e i i _ hi,if_pos rfl,<-Zal (e.at_ i) k g,k1.same.2.2.1];exact h1
  obtain⟨s1,s2⟩:=load_settle (e:=e.onRun i (fun r=>RunD.skipN r.steps.length (r.onStep k g))) (by rw [Zbh];exact hi) hst
  have e2:(e.onRun i (fun r=>RunD.skipN r.steps.length (r.onStep k g))).timers=e.timers:=rfl
  rw [s2,e2];omega
theorem load_ready {e:EngD}{i k:Nat}(hi:i<e.runs.length)(hk:k<(e.at_ i).steps.length)(h1:(e.at_ i).st=1):(e.ready i k).load+wt ((e.at_ i).at_ k)=e.load/\(e.ready i k).timers=e.timers:=by
 have:=load_onStep hi hk h1 (fun s=>{ s with st:=2 })
 have w:wt ({ (e.at_ i).at_ k with st:=2 }:StD)=0:=by unfold wt;rw [if_neg (by simp),if_neg (by simp)]
 rw [w] at this
 exact⟨this,rfl⟩
theorem load_happens {e:EngD}(h:EngOk e){d:TmD}(hd:DueE e d)(hm:∀x,DueE e x->d.tm<=x.tm):(e.happens d).load<e.load/\(e.happens d).timers+(e.happens d).load<=e.timers+e.load:=by
 have h1:EngOk { e with time:=max e.time d.tm }:=h.at_time (by omega) (by have:=h.wk.tB;have:=(h.wk.due_sq hd).2;omega) (fun x hx=>by have:=hm x hx;have:=(h.wk.due_sq hx).2;omega)
 obtain⟨hi,hs,hk⟩:=hd
 unfold EngD.happens
 have e1:({ e with time:=max e.time d.tm }:EngD).load=e.load:=rfl
 have e2:({ e with time:=max e.time d.tm }:EngD).timers=e.timers:=rfl
 cases hdk:d.k with
 | none =>
  simp only
  have:=load_end (e:={ e with time:=max e.time d.tm }) hi hs 5 (by omega)
  have e3:(({ e with time:=max e.time d.tm }:EngD).end_ d.i 5).timers=e.timers:=rfl
  rw [e3];omega
 | some k =>
  rw [hdk] at hk
  simp only at hk ⊢
  split
  ·rename_i h4
   have w4:wt ((e.at_ d.i).at_ k)=1:=by unfold wt;rw [if_neg (by replace h4:((e.at_ d.i).at_ k).st=4:=h4;omega),if_pos h4]
   obtain⟨a,b⟩:=load_ready (e:={ e with time:=max e.time d.tm }) hi hk.1 hs
   rw [b]
   replace a:(({ e with time:=max e.time d.tm }:EngD).ready d.i k).load+wt ((e.at_ d.i).at_ k)=e.load:=a
   omega
  ·rename_i h4
   have h3:((e.at_ d.i).at_ k).st=3:=by
    have:=hk.2
    unfold StD.due at this
    split at this
    ·exact this.1
    ·exact this.1.resolve_right h4
   exact load_fails h1 hi hk.1 h3
theorem HapR.ok {tt:Int}{e e2:EngD}(hr:HapR tt e e2)(h:EngOk e)(h1:e.time<=tt)(h2:tt<=4611686018427387904):EngOk e2/\e2.time=tt/\e2.timers<=e.timers+e.load/\e2.lastRun=e.lastRun/\e2.seed=e.seed/\e2.lastTok=e.lastTok:=by
 induction hr with
 | none e hn =>
  refine⟨h.at_time h1 h2 (fun d hd=> ?_),rfl,by show e.timers<=_;omega,rfl,rfl,rfl⟩
  cases hb:bestT e.dues e.dues.length with
  | none =>
   have:=bestT_none hb
   obtain⟨j,hj,_⟩:=Zbz (z:=TmD.z) (Zaq.2 hd)
   omega
  | some b =>
   have:=hn b hb
   have:=(best_min hb).2 d hd
   omega
 | step e e2 b hb hle _ ih =>
  obtain⟨d1,d2⟩:=best_min hb
  have hl:=load_happens h d1 d2
  have hk:=h.happens d1 d2
  have hsame:(e.happens (e.dues.getD b .z)).time<=tt/\(e.happens (e.dues.getD b .z)).lastRun=e.lastRun/\(e.happens (e.dues.getD b .z)).seed=e.seed/\(e.happens (e.dues.getD b .z)).lastTok=e.lastTok:=by
   generalize e.dues.getD b .z=d at *
   unfold EngD.happens
   split
   ·exact⟨by show max _ _<=tt;omega,rfl,rfl,rfl⟩
   ·split
    ·exact⟨by show max _ _<=tt;omega,rfl,rfl,rfl⟩
    ·unfold EngD.fails
     simp only
     split
     ·exact⟨by show max _ _<=tt;omega,rfl,rfl,rfl⟩
     ·unfold EngD.settle
      split
      ·exact⟨by show max _ _<=tt;omega,rfl,rfl,rfl⟩
      ·exact⟨by show max _ _<=tt;omega,rfl,rfl,rfl⟩
  obtain⟨a,b,c,d,f,g⟩:=ih hk hsame.1
  exact⟨a,b,by omega,by rw [d,hsame.2.1],by rw [f,hsame.2.2.1],by rw [g,hsame.2.2.2]⟩
theorem upTo_bd {e:EngD}(h:EngWk e){t:Int}(ht:0<=t):e.time<=e.upTo t/\e.upTo t<=4611686018427387904:=by
 have:=h.tB
 unfold EngD.upTo;split<;>omega
theorem TickR.ok {e e2:EngD}{t:Int}(hr:TickR e t e2)(h:EngOk e)(ht:0<=t):EngOk e2/\e2.timers<=e.timers+150/\e2.lastRun=e.lastRun/\e2.seed=e.seed/\e2.lastTok=e.lastTok:=by
 obtain⟨a,b⟩:=upTo_bd h.wk ht
 obtain⟨c,_,d,f⟩:=HapR.ok hr h a b
 have:=h.wk.load_le
 exact⟨c,by omega,f⟩
end Go.Proofs.YtgdcjccbdmcebabGreatDoor
