import Derived.Test.YtgdcjccbdmcebaaGreatDoorM09
set_option linter.unusedSimpArgs false
set_option linter.unusedVariables false
namespace Go.Proofs.YtgdcjccbdmcebaaGreatDoor
variable {i k o:Nat}{t id:Int}{f:Ad}
def Goes (r:Ag):Prop:=r.st=1->∃k,k<r.steps.length/\(r.at_ k).st≠5/\(r.at_ k).st≠6/\(r.at_ k).st≠7
structure Ak (e:Ab):Prop where
 wk:Ao e
 goes:∀i,i<e.runs.length->Goes (e.at_ i)
theorem Ms {r:Ag}{p:AM->Bool}:r.steps.all p=true↔∀k,k<r.steps.length->p (r.at_ k)=true:=by
 rw[List.all_eq_true];constructor
 ·intro h k a
  exact h _ (Zbw (z:=AM.z) a)
 ·intro h x b
  obtain⟨k,a,e⟩:=Zb6 (z:=AM.z) b;have:=h k a;unfold Ag.at_ at this;rw[e] at this;exact this
theorem Nb {r:Ag}(h:r.outcome=none):∃k,k<r.steps.length/\(r.at_ k).st≠5/\(r.at_ k).st≠6/\(r.at_ k).st≠7:=by
 unfold Ag.outcome at h
 split at h
 ·cases h
 ·rename_i hn
  rw[Ms] at hn;simp only[Classical.not_forall] at hn;obtain⟨k,b,a⟩:=hn;refine⟨k,b,?_⟩;simp only[Bool.or_eq_true,beq_iff_eq,not_or] at a;exact⟨a.1.1,a.1.2,a.2⟩
theorem Zdv {r:Ag}{st:Int}(h:r.outcome=some st):st=2\/st=3:=by
 unfold Ag.outcome at h
 split at h
 ·split at h<;>simp at h<;>omega
 ·cases h
theorem Ao.settle {e:Ab}(h:Ao e)(hi:i<e.runs.length)(d:(e.at_ i).st=1)(hg:∀j,j<e.runs.length->j≠i->Goes (e.at_ j)):Ak (e.settle i):=by
 unfold Ab.settle
 cases c:(e.at_ i).outcome with
 | none =>
  refine⟨h,fun j b=> ?_⟩;by_cases a:j=i
  ·subst a;exact fun _=>Nb c
  ·exact hg j b a
 | some st =>
  have g:=Zdv c;refine⟨h.end_ hi d st (by omega),fun j b=> ?_⟩;show Goes ((e.end_ i st).at_ j)
  replace b:j<(e.end_ i st).runs.length:=b
  rw[Zd8] at b;rw[Zei e i st b];by_cases a:i=j
  ·rw[if_pos a]
   intro x
   replace x:st=1:=x
   omega
  ·rw[if_neg a];exact hg j b (fun x=>a x.symm)
theorem Dk {e:Ab}{tok:Int}(h:e.task tok=some (i,k)):i<e.runs.length/\k<(e.at_ i).steps.length/\((e.at_ i).at_ k).st=3/\((e.at_ i).at_ k).tok=tok:=by
 unfold Ab.task at h
 cases hf:e.runs.findIdx? (fun r=>(r.work tok).isSome) with
 | none=>rw[hf] at h;cases h
 | some a =>
  rw[hf] at h
  replace h:((e.at_ a).work tok).bind (fun k=>some (a,k))=some (i,k):=h
  cases hw:(e.at_ a).work tok with
  | none=>rw[hw] at h;cases h
  | some k' =>
   rw[hw] at h
   replace h:some (a,k')=some (i,k):=h
   cases h
   rw[List.findIdx?_eq_some_iff_getElem] at hf;unfold Ag.work at hw;rw[List.findIdx?_eq_some_iff_getElem] at hw;obtain⟨hi,_,_⟩:=hf;obtain⟨b,hp,_⟩:=hw;simp only[Bool.and_eq_true,beq_iff_eq] at hp;have c:(e.at_ i).at_ k=(e.at_ i).steps[k]:=by rw[Ag.at_,ZQ,ZZ b];rfl
   rw[c];exact⟨hi,b,hp.1,hp.2⟩
theorem Ao.Bh {e:Ab}(h:Ao e)(hi:i<e.runs.length)(b:k<(e.at_ i).steps.length)(c:((e.at_ i).at_ k).st<5):(e.at_ i).st=1:=by
 by_cases a:(e.at_ i).st=1
 ·exact a
 ·have:=(h.runs i hi).over a k b;omega
theorem Zdk {now span:Int}(a:0<=now)(b:now<=4611686018427387904)(c:1<=span):now<=Zak now span/\1<=Zak now span/\Zak now span<=4611686018427387904:=by
 unfold Zak;split<;>omega
theorem Hg {F:Ad}(h:AJ F k)(t At:Int):1<=Zb4 (F.ba k) (F.ca k) (F.ji k) t At/\Zb4 (F.ba k) (F.ca k) (F.ji k) t At<=2097152:=by
 unfold Zb4;have a:=Kz (F.ba k) h.ba1 (t - 1).toNat;have b:=h.ca1;have c:=h.ca2;have d:=h.ji1;have e:=h.ji2;have g:=h.ba1;have j:=Int.emod_nonneg At (show F.ji k+1≠0 by omega);have l:=Int.emod_lt_of_pos At (show 0<F.ji k+1 by omega);omega
theorem Ak.AT {e:Ab}(h:Ak e)(hi:i<e.runs.length)(d:k<(e.at_ i).steps.length)(F:((e.at_ i).at_ k).st=3):Ak (e.AT i k):=by
 have z:=h.wk.Bh hi d (by omega);have c:=(h.wk.runs i hi).steps k d;have B:=(h.wk.runs i hi).fl.node k (by rw[<-(h.wk.runs i hi).len];exact d);unfold Ab.AT;simp only
 split
 ·rename_i w
  have E:=Hg B ((e.at_ i).at_ k).tries e.At;have q:=Zdk h.wk.t0 h.wk.tB (show 1<=Zb4 ((e.at_ i).fl.ba k) ((e.at_ i).fl.ca k) ((e.at_ i).fl.ji k) ((e.at_ i).at_ k).tries e.At by omega);have G:=h.wk.tm0
  generalize hf:(fun s:AM=>({ s with st:=4,fin:=Zak e.time (Zb4 ((e.at_ i).fl.ba k) ((e.at_ i).fl.ca k) ((e.at_ i).fl.ji k) s.tries e.At),BN:=e.timers+1 }:AM))=f
  generalize y:Zb4 ((e.at_ i).fl.ba k) ((e.at_ i).fl.ca k) ((e.at_ i).fl.ji k) ((e.at_ i).at_ k).tries e.At=span at *
  have C:(f ((e.at_ i).at_ k)).st=4:=by rw[<-hf]
  have m:(({ e with timers:=e.timers+1 }:Ab).Af i k f).runs=(e.Af i k f).runs:=rfl;constructor
  ·refine h.wk.calm hi d m rfl (show e.timers<=e.timers+1 by omega) (Int.le_refl _) rfl rfl ?_ (fun x=>absurd z x) (by omega) (by omega) rfl ?_ ?_
   ·rw[<-hf]
    simp only[y];exact { c with XI:=by simp,ZO:=by simp,wait:=fun x=>by simp at x,more:=fun _=>w,once:=fun _=>c.once (Zu F),dead:=fun x=>by simp at x,fin0:=by show 0<=Zak e.time span;omega,finB:=q.2.2,MA:=fun _=>q.1,KK:=fun x=>by simp at x,BZ:=fun x=>by simp at x,UY:=by show 0<=e.timers+1;omega,faB:=Int.le_refl _,saB:=by have:=c.saB;show ((e.at_ i).at_ k).Bc<=e.timers+1;omega }
   ·intro b tm sq x
    right
    rw[<-hf] at x;unfold AM.due at x
    split at x
    ·simp at x
    ·have:=x.2.2;simp only at this;omega
   ·intro tm sq I H _ x
    rw[<-hf] at x;unfold AM.due at x;simp at x
  ·intro j a
   rw[Za7 m] at a;rw[Zbo m a];by_cases p:i=j
   ·subst p
    rw[if_pos rfl];intro _;exact⟨k,by rw[Zal];exact d,by rw[Zbb _ _ d];omega⟩
   ·rw[if_neg p];exact h.goes j a
 ·rename_i D
  have u:((e.at_ i).at_ k).tries=(e.at_ i).fl.bu k:=by have:=c.trB;omega
  have hw:=h.wk.over hi d 6 (by omega) (by omega) (fun _=>u)
  generalize hg:(fun s:AM=>({ s with st:=6 }:AM))=g at hw
  have m:(e.Af i k g).runs=(e.Af i k g).runs:=rfl;have A:=Zbo m hi;rw[if_pos rfl] at A;obtain⟨k1,_⟩:=Zeb ((e.at_ i).Af k g);have l:=Es.wk k1 hw (by rw[Za7 m];exact hi) A;unfold Ab.Af at l;rw[Zep] at l
  have heq:e.AG i (fun r=>Ag.BO r.steps.length (r.Af k g))=e.AG i (fun _=>Ag.BO ((e.at_ i).Af k g).steps.length ((e.at_ i).Af k g)):=by
   rw[IU,Zal]
  rw[heq];have n:=fun j a=>Zbr e i j (fun _=>Ag.BO ((e.at_ i).Af k g).steps.length ((e.at_ i).Af k g)) a;refine l.settle (by rw[Zbi];exact hi) ?_ (fun j a v=> ?_)
  ·rw[n i hi,if_pos rfl,k1.same.2.2.1];exact z
  ·rw[Zbi] at a
   rw[n j a,if_neg (fun x=>v x.symm)];exact h.goes j a
theorem Ak.fail {e e':Ab}(h:Ak e){tok:Int}(he:e.fail tok=some e'):Ak e':=by
 unfold Ab.fail at he
 split at he
 ·cases he
 ·rename_i i k d
  obtain⟨a,b,c,_⟩:=Dk d
  cases he
  exact h.AT a b c
theorem Ak.complete {e e':Ab}(h:Ak e){tok:Int}(he:e.complete tok=some e'):Ak e':=by
 unfold Ab.complete at he
 split at he
 ·cases he
 ·rename_i i k m
  obtain⟨hi,l,n,_⟩:=Dk m
  cases he
  have g:=h.wk.Bh hi l (by omega);have hw:=h.wk.over hi l 5 (by omega) (by omega) (by omega);have b:=FJ.Af e k (fun s=>{ s with st:=5 }) e.queue hi;have b:FJ e (e.Af i k (fun s=>{ s with st:=5 })) i:=b;obtain⟨g1,g2⟩:=hw.Bl (by rw[b.len];exact hi) (by rw[b.st];exact g);have a:=b.trans g2;refine g1.settle (by rw[a.len];exact hi) (by rw[a.st];exact g) (fun j c d=> ?_);rw[a.len] at c;rw[a.others j c d];exact h.goes j c
theorem Ak.cancel {e e':Ab}(h:Ak e)(he:e.cancel id=some e'):Ak e':=by
 unfold Ab.cancel at he
 split at he
 ·cases he
 ·rename_i i hf
  split at he
  ·rename_i b
   cases he
   have hi:i<e.runs.length:=by
    unfold Ab.find at hf;rw[List.findIdx?_eq_some_iff_getElem] at hf;exact hf.1
   refine⟨h.wk.end_ hi b 4 (by omega),fun j a=> ?_⟩;rw[Zd8] at a;rw[Zei e i 4 a]
   split
   ·intro x;replace x:(4:Int)=1:=x;omega
   ·exact h.goes j a
  ·cases he
theorem Ak.BZ {e e':Ab}(h:Ak e){tok:Int}(he:e.BZ tok=some e'):Ak e':=by
 unfold Ab.BZ at he
 split at he
 ·cases he
 ·rename_i i k v
  obtain⟨hi,d,u,_⟩:=Dk v;simp only at he
  split at he
  ·rename_i l
   cases he
   have q:=h.wk.Bh hi d (by omega);have a:=(h.wk.runs i hi).steps k d;have g:=Zdk h.wk.t0 h.wk.tB (show 1<=(e.at_ i).fl.be k by omega);have w:=h.wk.tm0
   generalize hf:(fun s:AM=>({ s with sign:=Zak e.time ((e.at_ i).fl.be k),Bc:=e.timers+1 }:AM))=f
   have r:(f ((e.at_ i).at_ k)).st=3:=by rw[<-hf];exact u
   have p:(({ e with timers:=e.timers+1 }:Ab).Af i k f).runs=(e.Af i k f).runs:=rfl;constructor
   ·refine h.wk.calm hi d p rfl (show e.timers<=e.timers+1 by omega) (Int.le_refl _) rfl rfl ?_ (fun x=>absurd q x) (by omega) (by omega) rfl ?_ ?_
    ·rw[<-hf]
     exact { a with sign0:=by show 0<=Zak e.time _;omega,signB:=g.2.2,KK:=fun _ _=>g.1,BZ:=fun _=>⟨fun _=>l,fun _=>by show 0<Zak e.time _;omega⟩,faB:=by have:=a.faB;show ((e.at_ i).at_ k).BN<=e.timers+1;omega,sa0:=by show 0<=e.timers+1;omega,saB:=Int.le_refl _ }
    ·intro b tm sq x
     rw[<-hf] at x;unfold AM.due at x ⊢
     split at x
     ·right;have:=x.2.2.2;simp only at this;omega
     ·rename_i m;left;rw[if_neg m];exact x
    ·intro tm sq A z y x
     rw[<-hf] at x y;unfold AM.due at x y;simp only[if_true,Bool.false_eq_true,if_false] at x y;have:=a.faB;omega
   ·intro j n
    rw[Za7 p] at n;rw[Zbo p n];by_cases c:i=j
    ·subst c
     rw[if_pos rfl];intro _;exact⟨k,by rw[Zal];exact d,by rw[Zbb _ _ d];omega⟩
    ·rw[if_neg c];exact h.goes j n
  ·cases he;exact h
theorem RB {e:Ab}(hf:e.find id=some i):i<e.runs.length/\(e.at_ i).id=id:=by
 unfold Ab.find at hf;rw[List.findIdx?_eq_some_iff_getElem] at hf;obtain⟨hi,hp,_⟩:=hf;refine⟨hi,?_⟩;unfold Ab.at_;rw[ZQ,ZZ hi];simpa using hp
theorem Ao.Rz {e:Ab}(h:Ao e)(hi:i<e.runs.length):e.find (e.at_ i).id=some i:=by
 unfold Ab.find;rw[List.findIdx?_eq_some_iff_getElem];have c:∀j (a:j<e.runs.length),e.runs[j]=e.at_ j:=fun j a=>by unfold Ab.at_;rw[ZQ,ZZ a];rfl
 refine⟨hi,by rw[c];simp,fun j a=> ?_⟩;rw[c];have:=h.up j i a hi;have b:(e.at_ j).id≠(e.at_ i).id:=by omega
 simpa using b
theorem Ak.Bk {e e':Ab}(h:Ak e){p:AZ}{N:Int}(he:e.Bk=some (p,t,N,e')):Ak e':=by
 unfold Ab.Bk at he
 split at he
 ·cases he
 ·rename_i D q w
  split at he
  ·cases he
  ·rename_i i hf
   obtain⟨hi,g⟩:=RB hf;simp only[Option.some.injEq,Prod.mk.injEq] at he;obtain⟨rfl,rfl,rfl,rfl⟩:=he;obtain⟨i2,q1,E,m,F⟩:=(h.wk.qm D).1 (by rw[w];exact List.mem_cons_self ..);have:=h.wk.CA hi q1 (by rw[g,E]);subst this;obtain⟨P,k⟩:=D;simp only at g E m F hf ⊢;subst g;have G:=h.wk.Bh hi m (by omega);have d:=(h.wk.runs i hi).steps k m;have z:=(h.wk.runs i hi).fl.node k (by rw[<-(h.wk.runs i hi).len];exact m);have K:=h.wk.tm0;have A:=h.wk.YO;have c:=Zdk h.wk.t0 h.wk.tB z.Rt;have H:=z.Rr
   generalize hf:(fun s:AM=>({ s with st:=3,tries:=((e.at_ i).at_ k).tries+1,tok:=e.Ai+1,fin:=Zak e.time ((e.at_ i).fl.cl k),BN:=e.timers+1,sign:=if (e.at_ i).fl.be k > 0 then Zak e.time ((e.at_ i).fl.be k) else 0,Bc:=if (e.at_ i).fl.be k > 0 then e.timers+2 else s.Bc }:AM))=f
   have I:(f ((e.at_ i).at_ k)).st=3:=by rw[<-hf]
   have l:=h.wk.qn;rw[w,List.nodup_cons] at l;constructor
   ·refine h.wk.step hi m (f:=f) rfl rfl (by show e.timers<=e.timers+1+_;split<;>omega) (show e.Ai<=e.Ai+1 by omega) rfl rfl ?_ (fun x=>absurd G x) l.2 ?_ ?_ ?_
    ·have v:=d.more (Zu F)
     have L:=d.tr0;have J:=d.saB;have C:=d.sa0;show Hq _ _ _ (e.timers+1+_) (e.Ai+1) _;rw[<-hf];by_cases a:(e.at_ i).fl.be k > 0
     ·have r:=Zdk h.wk.t0 h.wk.tB (show 1<=(e.at_ i).fl.be k by omega)
      simp only[if_pos a];exact⟨by simp,by simp,by simp only;omega,by simp only;omega,fun x=>by simp at x,fun x=>by simp at x,fun _=>by simp only;omega,fun x=>by simp at x,by simp only;omega,by simp only;omega,by simp only;omega,c.2.2,by simp only;omega,r.2.2,fun _=>c.1,fun _ _=>r.1,fun _=>⟨fun _=>a,fun _=>by simp only;omega⟩,by simp only;omega,by simp only;omega,by simp only;omega,by simp only;omega⟩
     ·simp only[if_neg a]
      exact⟨by simp,by simp,by simp only;omega,by simp only;omega,fun x=>by simp at x,fun x=>by simp at x,fun _=>by simp only;omega,fun x=>by simp at x,by simp only;omega,by simp only;omega,by simp only;omega,c.2.2,by simp,by simp,fun _=>c.1,fun _ x=>by simp at x,fun _=>⟨fun x=>by simp at x,fun x=>absurd x a⟩,by simp only;omega,by simp only;omega,by simp only;omega,by simp only;omega⟩
    ·intro p
     show p∈q↔_;rw[w,List.mem_cons];constructor
     ·intro x
      exact Zj ⟨fun y=>l.1 (y▸x),Zj x⟩
     ·rintro (⟨_,x⟩ | ⟨x,y | y⟩)
      ·omega
      ·exact absurd y x
      ·exact y
    ·intro b tm sq x
     right
     rw[<-hf] at x;unfold AM.due at x
     split at x
     ·simp only at x
      split at x
      ·omega
      ·omega
     ·simp only at x;omega
    ·intro tm sq O M y x
     rw[<-hf] at x y;unfold AM.due at x y;simp only[if_true,Bool.false_eq_true,if_false] at x y
     split at x<;>omega
   ·intro j u
    have B:∀q lt tm,((({ e with queue:=q,Ai:=lt,timers:=tm }:Ab).Af i k f).runs=(e.Af i k f).runs):=fun _ _ _=>rfl;rw[Za7 (B _ _ _)] at u;rw[Zbo (B _ _ _) u];by_cases n:i=j
    ·subst n
     rw[if_pos rfl];intro _;exact⟨k,by rw[Zal];exact m,by rw[Zbb _ _ m];omega⟩
    ·rw[if_neg n];exact h.goes j u
theorem Zd5 {e:Ab}{b:Nat}(h:Cv e.AR e.AR.length=some b):BA e (e.AR.getD b .z)/\∀d,BA e d->(e.AR.getD b .z).tm<=d.tm:=by
 obtain⟨c,g⟩:=Gb h;refine⟨Zar.1 (Zbw (z:=CH.z) c),fun d l=> ?_⟩;obtain⟨j,m,a⟩:=Zb6 (z:=CH.z) (Zar.2 l);have:=g j m;rw[a] at this;unfold CH.lt at this;omega
theorem Ak.Fi {e:Ab}(h:Ak e)(q:e.time<=t)(m:t<=4611686018427387904)(g:∀d,BA e d->t<=d.tm):Ak { e with time:=t }:=by
 have p:=h.wk.t0;refine⟨⟨(by show 0<=t;omega),m,h.wk.tm0,h.wk.lr0,h.wk.YO,h.wk.XH,h.wk.WW,h.wk.up,h.wk.Ui,h.wk.RD,fun i hi=> ?_,h.wk.qn,h.wk.qm,h.wk.sq,h.wk.en⟩,h.goes⟩;have l:=h.wk.runs i hi;refine { l with Xj:=fun x=>g ⟨i,none,false,(e.at_ i).BP,(e.at_ i).Cs⟩ ⟨hi,x,rfl,rfl,rfl⟩,steps:=fun k a=> ?_ };have n:=l.steps k a
 have j:∀b tm sq,((e.at_ i).at_ k).due b tm sq->t<=tm:=fun b tm sq x=>by
  have c:((e.at_ i).at_ k).st<5:=by
   unfold AM.due at x
   split at x<;>omega
  exact g ⟨i,some k,b,tm,sq⟩ ⟨hi,h.wk.Bh hi a c,a,x⟩
 exact { n with MA:=fun x=>j false _ _ ⟨x,rfl,rfl⟩,KK:=fun x y=>j true _ _ ⟨x,y,rfl,rfl⟩ }
theorem Ak.end_ {e:Ab}(h:Ak e)(hi:i<e.runs.length)(c:(e.at_ i).st=1)(st:Int)(b:2<=st/\st<=5):Ak (e.end_ i st):=by
 refine⟨h.wk.end_ hi c st b,fun j a=> ?_⟩;rw[Zd8] at a;rw[Zei e i st a]
 split
 ·intro x;replace x:st=1:=x;omega
 ·exact h.goes j a
theorem Ak.ready {e:Ab}(h:Ak e)(hi:i<e.runs.length)(c:k<(e.at_ i).steps.length)(l:((e.at_ i).at_ k).st=1\/((e.at_ i).at_ k).st=4):Ak (e.ready i k):=by
 have g:=h.wk.Bh hi c (by omega);have a:=FJ.ready e k hi;refine⟨h.wk.ready hi c g l,fun j d=> ?_⟩;rw[a.len] at d;by_cases b:j=i
 ·subst b
  intro _;refine⟨k,by rw[a.steps];exact c,?_⟩;rw[DQ e j k hi,Zbb _ _ c];simp
 ·rw[a.others j d b];exact h.goes j d
theorem Ak.Ar {e:Ab}(h:Ak e){d:CH}(j:BA e d)(hm:∀x,BA e x->d.tm<=x.tm):Ak (e.Ar d):=by
 have n:=h.wk.Cq j;have b:Ak { e with time:=max e.time d.tm }:=h.Fi (by omega) (by have:=h.wk.tB;omega) (fun x l=>by have:=hm x l;have:=(h.wk.Cq l).2;omega);obtain⟨hi,m,a⟩:=j;unfold Ab.Ar
 cases g:d.k with
 | none =>
  simp only;exact Ak.end_ b hi m 5 (by omega)
 | some k =>
  rw[g] at a;simp only at a ⊢
  split
  ·rename_i c
   exact Ak.ready b hi a.1 (Zj c)
  ·rename_i c
   refine Ak.AT b hi a.1 ?_;have:=a.2;unfold AM.due at this
   split at this
   ·exact this.1
   ·exact this.1.resolve_right c
def wt (s:AM):Nat:=if s.st=3 then 2 else if s.st=4 then 1 else 0
def Ag.load (r:Ag):Nat:=if r.st=1 then 1+(r.steps.map wt).sum else 0
def Ab.load (e:Ab):Nat:=(e.runs.map Ag.load).sum
theorem Gs {α:Type}{z:α}(g:α->Nat)(f:α->α):∀(l:List α) (i:Nat),i<l.length->((l.modify i f).map g).sum+g (l.getD i z)=(l.map g).sum+g (f (l.getD i z))
 | [],i,h=>by simp at h
 | a::l,0,_=>by simp;omega
 | a::l,i+1,h=>by
  have:=Gs (z:=z) g f l i (by simpa using h);simp only[List.modify_succ_cons,List.map_cons,List.sum_cons,List.getD_cons_succ];omega
theorem It {α:Type}(g:α->Nat)(b:Nat):∀(l:List α),(∀x∈l,g x<=b)->(l.map g).sum<=l.length * b
 | [],_=>by simp
 | a::l,h=>by
  have d:=h a (List.mem_cons_self ..);have:=It g b l (fun x c=>h x (List.mem_cons_of_mem _ c));simp only[List.map_cons,List.sum_cons,List.length_cons,Nat.add_mul];omega
theorem wt_le (s:AM):wt s<=2:=by
 unfold wt
 split
 ·omega
 ·split<;>omega
theorem Ao.YN {e:Ab}(h:Ao e):e.load<=150:=by
 have a:∀x∈e.runs,x.load<=25:=by
  intro x b;obtain⟨i,hi,ex⟩:=Zb6 (z:=Ag.z) b;have:=(h.runs i hi).IQ;unfold Ab.at_ at this;rw[ex] at this;unfold Ag.load
  split
  ·have:=It wt 2 x.steps (fun s _=>wt_le s)
   omega
  ·omega
 have:=It Ag.load 25 e.runs a;have:=h.WW;unfold Ab.load;omega
theorem Gm {e:Ab}(hi:i<e.runs.length)(f:Ag->Ag):(e.AG i f).load+(e.at_ i).load=e.load+(f (e.at_ i)).load:=Gs (z:=Ag.z) Ag.load f e.runs i hi
theorem Ij {r:Ag}(b:k<r.steps.length)(f:AM->AM)(a:r.st=1):(r.Af k f).load+wt (r.at_ k)=r.load+wt (f (r.at_ k)):=by
 have:=Gs (z:=AM.z) wt f r.steps k b;unfold Ag.load;rw[if_pos (show (r.Af k f).st=1 from a),if_pos a];unfold Ag.at_;show 1+((r.steps.modify k f).map wt).sum+_=_;omega
theorem IN {e:Ab}(hi:i<e.runs.length)(d:k<(e.at_ i).steps.length)(c:(e.at_ i).st=1)(f:AM->AM):(e.Af i k f).load+wt ((e.at_ i).at_ k)=e.load+wt (f ((e.at_ i).at_ k)):=by
 have a:=Gm hi (fun r=>r.Af k f);have b:=Ij d f c;show (e.AG i (fun r=>r.Af k f)).load+_=_;omega
theorem OL {e:Ab}(hi:i<e.runs.length)(g:(e.at_ i).st=1)(st:Int)(d:st≠1):(e.end_ i st).load+1<=e.load:=by
 have a:=Gm hi (Zd2 st e.ends);have b:(Zd2 st e.ends (e.at_ i)).load=0:=by unfold Ag.load;rw[if_neg];exact d
 have c:1<=(e.at_ i).load:=by unfold Ag.load;rw[if_pos g];omega
 show (e.AG i (Zd2 st e.ends)).load+1<=_;omega
theorem OM {e:Ab}(hi:i<e.runs.length)(a:(e.at_ i).st=1):(e.settle i).load<=e.load/\(e.settle i).timers=e.timers:=by
 unfold Ab.settle
 cases b:(e.at_ i).outcome with
 | none=>exact⟨Zx _,rfl⟩
 | some st =>
  have:=Zdv b;have:=OL hi a st (by omega);exact⟨by simp only;omega,rfl⟩
theorem Es.load {r r2:Ag}(h:Es r r2)(a:r.st=1):r2.load=r.load:=by
 induction h with
 | refl=>rfl
 | step r r2 k b hl _ c =>
  have:=Ij b JC a;have d:=EV hl;have e:wt (r.at_ k)=0:=by unfold wt;rw[if_neg (by omega),if_neg (by omega)]
  have g:wt (JC (r.at_ k))=0:=by unfold wt JC;rw[if_neg (by simp),if_neg (by simp)]
  rw[c a];omega
theorem Qr {e:Ab}(h:Ak e)(hi:i<e.runs.length)(m:k<(e.at_ i).steps.length)(p:((e.at_ i).at_ k).st=3):(e.AT i k).load<e.load/\(e.AT i k).timers+(e.AT i k).load<=e.timers+e.load:=by
 have d:=h.wk.Bh hi m (by omega);have q:wt ((e.at_ i).at_ k)=2:=by unfold wt;rw[if_pos p]
 unfold Ab.AT;simp only
 split
 ·generalize hf:(fun s:AM=>({ s with st:=4,fin:=Zak e.time (Zb4 ((e.at_ i).fl.ba k) ((e.at_ i).fl.ca k) ((e.at_ i).fl.ji k) s.tries e.At),BN:=e.timers+1 }:AM))=f
  have w4:wt (f ((e.at_ i).at_ k))=1:=by rw[<-hf];unfold wt;rw[if_neg (by simp),if_pos (by simp)]
  have:=IN hi m d f;have j:(({ e with timers:=e.timers+1 }:Ab).Af i k f).load=(e.Af i k f).load:=rfl;have l:(({ e with timers:=e.timers+1 }:Ab).Af i k f).timers=e.timers+1:=rfl;rw[j,l];omega
 ·generalize hg:(fun s:AM=>({ s with st:=6 }:AM))=g
  have u:wt (g ((e.at_ i).at_ k))=0:=by rw[<-hg];unfold wt;rw[if_neg (by simp),if_neg (by simp)]
  have b:=Ij m g d;obtain⟨k1,_⟩:=Zeb ((e.at_ i).Af k g);have c:=k1.load d;have a:=Gm hi (fun r=>Ag.BO r.steps.length (r.Af k g));have j:(Ag.BO (e.at_ i).steps.length ((e.at_ i).Af k g)).load=((e.at_ i).Af k g).load:=by rw[<-Zal (e.at_ i) k g];exact c
  rw[j] at a
  have n:((e.AG i (fun r=>Ag.BO r.steps.length (r.Af k g))).at_ i).st=1:=by
   rw[Zbr e i i _ hi,if_pos rfl,<-Zal (e.at_ i) k g,k1.same.2.2.1];exact d
  obtain⟨s1,s2⟩:=OM (e:=e.AG i (fun r=>Ag.BO r.steps.length (r.Af k g))) (by rw[Zbi];exact hi) n;have l:(e.AG i (fun r=>Ag.BO r.steps.length (r.Af k g))).timers=e.timers:=rfl;rw[s2,l];omega
theorem Qs {e:Ab}(hi:i<e.runs.length)(b:k<(e.at_ i).steps.length)(a:(e.at_ i).st=1):(e.ready i k).load+wt ((e.at_ i).at_ k)=e.load/\(e.ready i k).timers=e.timers:=by
 have:=IN hi b a (fun s=>{ s with st:=2 });have w:wt ({ (e.at_ i).at_ k with st:=2 }:AM)=0:=by unfold wt;rw[if_neg (by simp),if_neg (by simp)]
 rw[w] at this;exact⟨this,rfl⟩
theorem GV {e:Ab}(h:Ak e){d:CH}(l:BA e d)(hm:∀x,BA e x->d.tm<=x.tm):(e.Ar d).load<e.load/\(e.Ar d).timers+(e.Ar d).load<=e.timers+e.load:=by
 have q:Ak { e with time:=max e.time d.tm }:=h.Fi (by omega) (by have:=h.wk.tB;have:=(h.wk.Cq l).2;omega) (fun x n=>by have:=hm x n;have:=(h.wk.Cq n).2;omega);obtain⟨hi,m,g⟩:=l;unfold Ab.Ar;have s:({ e with time:=max e.time d.tm }:Ab).load=e.load:=rfl;have u:({ e with time:=max e.time d.tm }:Ab).timers=e.timers:=rfl
 cases j:d.k with
 | none =>
  simp only;have:=OL (e:={ e with time:=max e.time d.tm }) hi m 5 (by omega);have p:(({ e with time:=max e.time d.tm }:Ab).end_ d.i 5).timers=e.timers:=rfl;rw[p];omega
 | some k =>
  rw[j] at g;simp only at g ⊢
  split
  ·rename_i c
   have w4:wt ((e.at_ d.i).at_ k)=1:=by unfold wt;rw[if_neg (by replace c:((e.at_ d.i).at_ k).st=4:=c;omega),if_pos c]
   obtain⟨a,b⟩:=Qs (e:={ e with time:=max e.time d.tm }) hi g.1 m;rw[b]
   replace a:(({ e with time:=max e.time d.tm }:Ab).ready d.i k).load+wt ((e.at_ d.i).at_ k)=e.load:=a
   omega
  ·rename_i c
   have r:((e.at_ d.i).at_ k).st=3:=by
    have:=g.2;unfold AM.due at this
    split at this
    ·exact this.1
    ·exact this.1.resolve_right c
   exact Qr q hi g.1 r
theorem CG.ok {m:Int}{e n:Ab}(v:CG m e n)(h:Ak e)(r:e.time<=m)(s:m<=4611686018427387904):Ak n/\n.time=m/\n.timers<=e.timers+e.load/\n.Ah=e.Ah/\n.At=e.At/\n.Ai=e.Ai:=by
 induction v with
 | none e hn =>
  refine⟨h.Fi r s (fun d q=> ?_),rfl,by show e.timers<=_;omega,rfl,rfl,rfl⟩
  cases p:Cv e.AR e.AR.length with
  | none =>
   have:=Eb p;obtain⟨j,x,_⟩:=Zb6 (z:=CH.z) (Zar.2 q);omega
  | some b =>
   have:=hn b p;have:=(Zd5 p).2 d q;omega
 | step e n b p hle _ w =>
  obtain⟨d1,d2⟩:=Zd5 p;have hl:=GV h d1 d2;have u:=h.Ar d1 d2
  have l:(e.Ar (e.AR.getD b .z)).time<=m/\(e.Ar (e.AR.getD b .z)).Ah=e.Ah/\(e.Ar (e.AR.getD b .z)).At=e.At/\(e.Ar (e.AR.getD b .z)).Ai=e.Ai:=by
   generalize e.AR.getD b .z=d at *
   unfold Ab.Ar
   split
   ·exact⟨by show max _ _<=m;omega,rfl,rfl,rfl⟩
   ·split
    ·exact⟨by show max _ _<=m;omega,rfl,rfl,rfl⟩
    ·unfold Ab.AT
     simp only
     split
     ·exact⟨by show max _ _<=m;omega,rfl,rfl,rfl⟩
     ·unfold Ab.settle
      split
      ·exact⟨by show max _ _<=m;omega,rfl,rfl,rfl⟩
      ·exact⟨by show max _ _<=m;omega,rfl,rfl,rfl⟩
  obtain⟨a,b,c,d,f,g⟩:=w u l.1;exact⟨a,b,by omega,by rw[d,l.2.1],by rw[f,l.2.2.1],by rw[g,l.2.2.2]⟩
theorem Nz {e:Ab}(h:Ao e)(a:0<=t):e.time<=e.Hm t/\e.Hm t<=4611686018427387904:=by
 have:=h.tB;unfold Ab.Hm;split<;>omega
theorem BU.ok {e g:Ab}(j:BU e t g)(h:Ak e)(l:0<=t):Ak g/\g.timers<=e.timers+150/\g.Ah=e.Ah/\g.At=e.At/\g.Ai=e.Ai:=by
 obtain⟨a,b⟩:=Nz h.wk l;obtain⟨c,_,d,f⟩:=CG.ok j h a b;have:=h.wk.YN;exact⟨c,by omega,f⟩
theorem Fl:Ak Za1:=by
 refine⟨⟨by simp[Za1],by simp[Za1],by simp[Za1],by simp[Za1],by simp[Za1],by simp[Za1],by simp[Za1],fun i j _ c=>by simp[Za1] at c,fun i hi=>by simp[Za1] at hi,fun i hi=>by simp[Za1] at hi,fun i hi=>by simp[Za1] at hi,by simp[Za1],fun p=> ?_,fun a b=> ?_,fun i j hi=>by simp[Za1] at hi⟩,fun i hi=>by simp[Za1] at hi⟩
 ·constructor
  ·intro h;simp[Za1] at h
  ·rintro⟨i,hi,_⟩;simp[Za1] at hi
 ·obtain⟨hi,_⟩:=Zar.1 b
  simp[Za1] at hi
def Hk:AM:=⟨1,0,0,0,0,0,0⟩
def Ab.fresh (e:Ab)(f:Ad):Ag:=⟨e.Ah+1,f,1,Zak e.time f.dl,e.timers+1,List.replicate f.n Hk,0⟩
def Ab.more (e:Ab)(f:Ad):Ab:={ e with Ah:=e.Ah+1,timers:=e.timers+1,runs:=e.runs++[e.fresh f] }
theorem Dz (e:Ab)(f:Ad):e.begin f=(e.more f).Bl e.runs.length:=rfl
theorem Za5 (e:Ab)(f:Ad):(e.more f).runs.length=e.runs.length+1:=by simp[Ab.more]
theorem Zb1 (e:Ab)(f:Ad)(hi:i<e.runs.length):(e.more f).at_ i=e.at_ i:=by
 unfold Ab.at_ Ab.more;simp only[ZQ];rw[List.getElem?_append_left hi]
theorem Zbj (e:Ab)(f:Ad):(e.more f).at_ e.runs.length=e.fresh f:=by
 unfold Ab.at_ Ab.more;simp only[ZQ];rw[List.getElem?_append_right (Zx _)];simp
theorem Zb7 (e:Ab)(f:Ad):(e.fresh f).steps.length=f.n:=by simp[Ab.fresh]
theorem Zdh (e:Ab)(f:Ad)(a:k<f.n):(e.fresh f).at_ k=Hk:=by
 unfold Ag.at_ Ab.fresh;simp[ZQ,a]
theorem Ao.more {e:Ab}(h:Ao e)(K:e.runs.length<6)(hf:BQ f):Ao (e.more f):=by
 have hl:=Za5 e f;have F:=h.tm0;have D:=h.lr0;have C:=h.XH;have E:=h.YO;have r:=Zdk h.t0 h.tB hf.top.XG
 have g:∀i,i<(e.more f).runs.length->(i<e.runs.length/\(e.more f).at_ i=e.at_ i)\/(i=e.runs.length/\(e.more f).at_ i=e.fresh f):=fun i hi=>by
  by_cases c:i<e.runs.length
  ·exact Zu ⟨c,Zb1 e f c⟩
  ·have:i=e.runs.length:=by omega
   subst this;exact Zj ⟨rfl,Zbj e f⟩
 have m:∀d,BA (e.more f) d->BA e d\/(d=⟨e.runs.length,none,false,Zak e.time f.dl,e.timers+1⟩):=by
  rintro d ⟨d1,d2,d3⟩;rcases g _ d1 with⟨c1,c2⟩ | ⟨c1,c2⟩
  ·rw[c2] at d2 d3
   exact Zu ⟨c1,d2,d3⟩
  ·rw[c2] at d2 d3
   right
   obtain⟨G,dk,I,J,H⟩:=d
   cases dk with
   | none =>
    obtain⟨z,A,B⟩:=d3;simp only at c1 z A B;subst c1 z A B
    rfl
   | some k =>
    exfalso
    simp only[Zb7] at d3;rw[Zdh e f d3.1] at d3;exact GY (by unfold Hk;simp) (by unfold Hk;simp) d3.2
 refine⟨h.t0,h.tB,by show 0<=e.timers+1;omega,by show 0<=e.Ah+1;omega,h.YO,h.XH,by omega,?_,?_,?_,?_,h.qn,?_,?_,?_⟩
 ·intro a b j n
  rcases g b n with⟨c1,c2⟩ | ⟨c1,c2⟩
  ·rw[c2,Zb1 e f (by omega)];exact h.up a b j c1
  ·rw[c2,Zb1 e f (by omega)]
   have:=h.RD a (by omega);show _<e.Ah+1;omega
 ·intro a l
  rcases g a l with⟨c1,c2⟩ | ⟨c1,c2⟩
  ·rw[c2];exact h.Ui a c1
  ·rw[c2];show 1<=e.Ah+1;omega
 ·intro a l
  rcases g a l with⟨c1,c2⟩ | ⟨c1,c2⟩
  ·rw[c2];have:=h.RD a c1;show _<=e.Ah+1;omega
  ·rw[c2];exact Int.le_refl _
 ·intro a l
  rcases g a l with⟨c1,c2⟩ | ⟨c1,c2⟩
  ·rw[c2];exact (h.runs a c1).mono (show e.timers<=e.timers+1 by omega) (Int.le_refl _) (Int.le_refl _)
  ·rw[c2]
   refine⟨hf,Zb7 e f,by simp[Ab.fresh],by simp[Ab.fresh],by simp[Ab.fresh],Int.le_refl _,h.XH,by show 0<=Zak _ _;omega,r.2.2,fun _=>r.1,by show 0<=e.timers+1;omega,Int.le_refl _,?_,fun x=>absurd rfl x⟩;intro k w;rw[Zb7] at w;rw[Zdh e f w];have n:=hf.node k w;have:=n.bu1;show Hq f k e.time (e.timers+1) e.Ai Hk;unfold Hk;exact⟨by simp,by simp,by simp,by simp only;omega,fun _=>rfl,fun x=>by simp at x,fun x=>by simp at x,fun x=>by simp at x,by simp,by simp only;omega,by simp,by simp,by simp,by simp,fun x=>by simp at x,fun x=>by simp at x,fun x=>by simp at x,by simp,by simp only;omega,by simp,by simp only;omega⟩
 ·intro p
  show p∈e.queue↔_;rw[h.qm p];constructor
  ·rintro⟨i,q1,v⟩
   refine⟨i,by omega,?_⟩;rw[Zb1 e f q1];exact v
  ·rintro⟨i,q1,v,s,u⟩
   rcases g i q1 with⟨c1,c2⟩ | ⟨c1,c2⟩
   ·rw[c2] at v s u;exact⟨i,c1,v,s,u⟩
   ·rw[c2] at s u
    rw[Zb7] at s;rw[Zdh e f s] at u;simp[Hk] at u
 ·intro a l b n j
  rcases m a (Zar.1 l) with a1 | a1<;>rcases m b (Zar.1 n) with q | q
  ·exact h.sq a (Zar.2 a1) b (Zar.2 q) j
  ·have:=(h.Cq a1).1
   rw[q] at j;simp only at j;omega
  ·have:=(h.Cq q).1
   rw[a1] at j;simp only at j;omega
  ·rw[a1,q]
 ·intro a b l n
  rcases g a l with⟨c1,c2⟩ | ⟨c1,c2⟩<;>rcases g b n with⟨d1,d2⟩ | ⟨d1,d2⟩
  ·rw[c2,d2];exact h.en a b c1 d1
  ·rw[c2,d2]
   intro x y;have:(e.fresh f).ended=0:=rfl;omega
  ·rw[c2]
   intro x;have:(e.fresh f).ended=0:=rfl;omega
  ·intros;omega
theorem Ak.begin {e:Ab}(h:Ak e)(b:e.runs.length<6)(hf:BQ f):Ak (e.begin f):=by
 have hw:=h.wk.more b hf;have hi:e.runs.length<(e.more f).runs.length:=by rw[Za5];omega
 obtain⟨g1,g2⟩:=hw.Bl hi (by rw[Zbj];rfl);rw[Dz];refine⟨g1,fun j c=> ?_⟩;rw[g2.len,Za5] at c;by_cases a:j=e.runs.length
 ·subst a
  intro _;have d:=hf.top.n1;have hn:0<((e.more f).at_ e.runs.length).steps.length:=by rw[Zbj,Zb7];omega
  refine⟨0,by rw[g2.steps];exact hn,?_⟩;rw[Hn hi hn,Zbj,Zdh e f (by omega)]
  split<;>simp[Hk]
 ·rw[g2.others j (by rw[Za5];omega) a,Zb1 e f (by omega)]
  exact h.goes j (by omega)
theorem FZ {e:Ab}(h:Ak e)(a:e.runs.length<6)(hf:BQ f):(e.begin f).time=e.time/\(e.begin f).At=e.At/\(e.begin f).Ah=e.Ah+1/\(e.begin f).Ai=e.Ai/\(e.begin f).timers=e.timers+1/\(e.begin f).ends=e.ends/\(e.begin f).runs.length=e.runs.length+1:=by
 have hi:e.runs.length<(e.more f).runs.length:=by rw[Za5];omega
 obtain⟨_,g⟩:=(h.wk.more a hf).Bl hi (by rw[Zbj];rfl);rw[Dz];exact⟨g.time,g.At,g.Ah,g.Ai,g.timers,g.ends,by rw[g.len,Za5]⟩
theorem LJ {α:Type}{z:α}(l:List α)(b i:Nat)(a:b<l.length):(l.take b++l.drop (b+1)).getD i z=l.getD (if i<b then i else i+1) z:=by
 rw[ZQ,ZQ]
 congr 1
 by_cases h:i<b
 ·rw[if_pos h,List.getElem?_append_left (by rw[List.length_take];omega),List.getElem?_take_of_lt h]
 ·rw[if_neg h,List.getElem?_append_right (by rw[List.length_take];omega),List.getElem?_drop,List.length_take]
  congr 1
  omega
def Ab.cut (e:Ab)(o:Nat):Ab:={ e with runs:=e.runs.take o++e.runs.drop (o+1) }
theorem Zet (e:Ab)(a:o<e.runs.length):(e.cut o).runs.length+1=e.runs.length:=by
 show (e.runs.take o++e.runs.drop (o+1)).length+1=_;rw[ZX,List.length_take,List.length_drop];omega
theorem Gd (e:Ab)(a:o<e.runs.length)(i:Nat):(e.cut o).at_ i=e.at_ (if i<o then i else i+1):=LJ (z:=Ag.z) e.runs o i a
theorem Ak.cut {e:Ab}(h:Ak e)(u:o<e.runs.length)(w:(e.at_ o).st≠1):Ak (e.cut o):=by
 have hl:=Zet e u;have g:=Gd e u;have lt:∀i,i<(e.cut o).runs.length->(if i<o then i else i+1)<e.runs.length:=fun i hi=>by split<;>omega
 have back:∀j,j<e.runs.length->j≠o->∃i,i<(e.cut o).runs.length/\(if i<o then i else i+1)=j:=fun j F hn=>by
  by_cases c:j<o
  ·exact⟨j,by omega,by rw[if_pos c]⟩
  ·exact⟨j - 1,by omega,by rw[if_neg (by omega)];omega⟩
 have inj:∀i j,(if i<o then i else i+1)=(if j<o then j else j+1)->i=j:=fun i j=>by split<;>split<;>omega
 have m:∀d,BA (e.cut o) d->BA e ⟨if d.i<o then d.i else d.i+1,d.k,d.sign,d.tm,d.sq⟩:=by
  rintro d ⟨d1,d2,d3⟩;rw[g] at d2 d3;exact⟨lt _ d1,d2,d3⟩
 refine⟨⟨h.wk.t0,h.wk.tB,h.wk.tm0,h.wk.lr0,h.wk.YO,h.wk.XH,by have:=h.wk.WW;omega,?_,?_,?_,?_,h.wk.qn,?_,?_,?_⟩,?_⟩
 ·intro a b n q
  rw[g,g];exact h.wk.up _ _ (by split<;>split<;>omega) (lt b q)
 ·intro a l;rw[g];exact h.wk.Ui _ (lt a l)
 ·intro a l;rw[g];exact h.wk.RD _ (lt a l)
 ·intro a l;rw[g];exact h.wk.runs _ (lt a l)
 ·intro p
  show p∈e.queue↔_;rw[h.wk.qm p];constructor
  ·rintro⟨j,q1,r,v,z⟩
   have s:j≠o:=fun x=>by subst x;have:=(h.wk.runs j q1).over w p.node v;omega
   obtain⟨i,i1,i2⟩:=back j q1 s;refine⟨i,i1,?_⟩;rw[g,i2];exact⟨r,v,z⟩
  ·rintro⟨i,q1,r⟩
   rw[g] at r;exact⟨_,lt i q1,r⟩
 ·intro a l b q n
  have:=h.wk.sq _ (Zar.2 (m a (Zar.1 l))) _ (Zar.2 (m b (Zar.1 q))) n;simp only[CH.mk.injEq] at this;obtain⟨A,B,C,D,E⟩:=this;have:=inj _ _ A
  cases a;cases b
  simp only at *;subst this B C D E
  rfl
 ·intro a b l q
  rw[g,g];intro x y;exact inj _ _ (h.wk.en _ _ (lt a l) (lt b q) x y)
 ·intro i hi
  rw[g];exact h.goes _ (lt i hi)
theorem DO {l:List Ag}:∀{k o:Nat},Zda l k=some o->o<k/\0<(l.getD o .z).ended/\∀j,j<k->0<(l.getD j .z).ended->(l.getD o .z).ended<=(l.getD j .z).ended:=by
 intro k
 induction k with
 | zero=>intro o h;cases h
 | succ k q =>
  intro o h;unfold Zda at h
  cases d:Zda l k with
  | none =>
   rw[d] at h;simp only at h
   split at h
   ·rename_i r
    cases h
    refine⟨by omega,r,fun j c a=> ?_⟩;by_cases e:j=k
    ·subst e;exact Int.le_refl _
    ·exfalso
     clear q
     have:∀m,Zda l m=none->∀j,j<m->¬0<(l.getD j .z).ended:=by
      intro m
      induction m with
      | zero=>intro _ j c;omega
      | succ m g =>
       intro hm j c;unfold Zda at hm
       cases b:Zda l m with
       | none =>
        rw[b] at hm;simp only at hm
        split at hm
        ·cases hm
        ·rename_i u
         by_cases e:j=m
         ·subst e;exact u
         ·exact g b j (by omega)
       | some x=>rw[b] at hm;simp only at hm;split at hm<;>cases hm
     exact this k d j (by omega) a
   ·cases h
  | some x =>
   rw[d] at h;obtain⟨v,s,n⟩:=q d;simp only at h
   split at h
   ·rename_i p
    cases h
    refine⟨by omega,p.1,fun j c a=> ?_⟩;by_cases e:j=k
    ·subst e;exact Int.le_refl _
    ·have:=n j (by omega) a;omega
   ·rename_i p
    cases h
    refine⟨by omega,s,fun j c a=> ?_⟩;by_cases e:j=k
    ·subst e;omega
    ·exact n j (by omega) a
theorem OT {l:List Ag}:∀{k:Nat},Zda l k=none->∀j,j<k->¬0<(l.getD j .z).ended:=by
 intro m
 induction m with
 | zero=>intro _ j c;omega
 | succ m b =>
  intro hm j c;unfold Zda at hm
  cases a:Zda l m with
  | none =>
   rw[a] at hm;simp only at hm
   split at hm
   ·cases hm
   ·rename_i d
    by_cases e:j=m
    ·subst e;exact d
    ·exact b a j (by omega)
  | some x=>rw[a] at hm;simp only at hm;split at hm<;>cases hm
theorem Ak.AN {e e':Ab}(h:Ak e)(hf:BQ f)(he:e.AN f=some e'):Ak e'/\e'.time=e.time/\e'.At=e.At/\e'.Ah=e.Ah+1/\e'.Ai=e.Ai/\e'.timers=e.timers+1/\e'.ends=e.ends:=by
 have q:=h.wk.WW;unfold Ab.AN at he
 split at he
 ·rename_i hl
  split at he
  ·cases he
  ·rename_i o p
   cases he
   obtain⟨o1,o2,_⟩:=DO p
   have j:(e.at_ o).st≠1:=fun x=>by
    have:=(h.wk.runs o o1).goes.1 x;unfold Ab.at_ at this;omega
   have l:=h.cut o1 j;have n:=Zet e o1;have m:=l.begin (by omega) hf;obtain⟨a,b,c,d,g,k,_⟩:=FZ l (by omega) hf;exact⟨m,a,b,c,d,g,k⟩
 ·cases he
  obtain⟨a,b,c,d,g,k,_⟩:=FZ h (by omega) hf;exact⟨h.begin (by omega) hf,a,b,c,d,g,k⟩
end Go.Proofs.YtgdcjccbdmcebaaGreatDoor
