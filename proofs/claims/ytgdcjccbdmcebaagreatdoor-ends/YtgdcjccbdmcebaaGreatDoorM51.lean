import Derived.Test.YtgdcjccbdmcebaaGreatDoorM24
set_option linter.unusedSimpArgs false
set_option linter.unusedVariables false
set_option maxRecDepth 100000
namespace Go.Proofs.YtgdcjccbdmcebaaGreatDoor
structure Mm (f:Ad):Prop where
 n:f.n=2
 dl:f.dl=100
 bu0:f.bu 0=2
 Yi:f.cl 0=9
 Rt:f.cl 1=9
 Ya:f.be 0=0
 Rr:f.be 1=0
 ba0:f.ba 0=3
 ca0:f.ca 0=9
 ji0:f.ji 0=0
 an0:f.an 0=0
 XX:f.an 1=1
 XW:f.af 1 0=0
def o1 (f:Ad):Ab:=⟨0,0,[⟨1,f,1,100,1,[⟨2,0,0,0,0,0,0⟩,⟨1,0,0,0,0,0,0⟩],0⟩],[⟨1,0⟩],1,0,1,0⟩
def o2 (f:Ad):Ab:=⟨0,0,[⟨1,f,1,100,1,[⟨3,1,1,9,0,2,0⟩,⟨1,0,0,0,0,0,0⟩],0⟩],[],1,1,2,0⟩
def o3 (f:Ad):Ab:=⟨0,0,[⟨1,f,1,100,1,[⟨4,1,1,3,0,3,0⟩,⟨1,0,0,0,0,0,0⟩],0⟩],[],1,1,3,0⟩
def o4 (f:Ad):Ab:=⟨3,0,[⟨1,f,1,100,1,[⟨2,1,1,3,0,3,0⟩,⟨1,0,0,0,0,0,0⟩],0⟩],[⟨1,0⟩],1,1,3,0⟩
def o5 (f:Ad):Ab:=⟨3,0,[⟨1,f,1,100,1,[⟨3,2,2,12,0,4,0⟩,⟨1,0,0,0,0,0,0⟩],0⟩],[],1,2,4,0⟩
def o6 (f:Ad):Ab:=⟨3,0,[⟨1,f,1,100,1,[⟨5,2,2,12,0,4,0⟩,⟨2,0,0,0,0,0,0⟩],0⟩],[⟨1,1⟩],1,2,4,0⟩
def o7 (f:Ad):Ab:=⟨3,0,[⟨1,f,1,100,1,[⟨5,2,2,12,0,4,0⟩,⟨3,1,3,12,0,5,0⟩],0⟩],[],1,3,5,0⟩
def o8 (f:Ad):Ab:=⟨3,0,[⟨1,f,2,100,1,[⟨5,2,2,12,0,4,0⟩,⟨5,1,3,12,0,5,0⟩],1⟩],[],1,3,5,1⟩
theorem Wc {f:Ad}(h:Mm f):Za1.AN f=some (o1 f):=by
 obtain⟨n,dl,bu0,Yi,Rt,Ya,Rr,ba0,ca0,ji0,an0,XX,XW⟩:=h;simp[Za1,Ab.AN,Ab.begin,Ab.Bl,Ab.at_,Ag.at_,Ag.free,Ab.ready,Ab.Af,Ab.AG,Ag.Af,n,dl,an0,XX,XW,Zak,List.range_succ,List.replicate_succ,o1]
theorem Wd {f:Ad}(h:Mm f):(o1 f).Bk=some (⟨1,0⟩,1,1,o2 f):=by
 obtain⟨n,dl,bu0,Yi,Rt,Ya,Rr,ba0,ca0,ji0,an0,XX,XW⟩:=h;simp[o1,o2,Ab.Bk,Ab.find,List.findIdx?_cons,Ab.at_,Ag.at_,Ab.Af,Ab.AG,Ag.Af,Yi,Ya,Zak]
theorem Zb (f:Ad):(o2 f).Bk=none:=by simp[o2,Ab.Bk]
theorem Wf {f:Ad}(h:Mm f):(o2 f).fail 1=some (o3 f):=by
 obtain⟨n,dl,bu0,Yi,Rt,Ya,Rr,ba0,ca0,ji0,an0,XX,XW⟩:=h;simp[o2,o3,Ab.fail,Ab.task,Ag.work,List.findIdx?_cons,Ab.AT,Ab.at_,Ag.at_,Ab.Af,Ab.AG,Ag.Af,bu0,ba0,ca0,ji0,Zak,Zb4,pw];decide
theorem MX {f:Ad}:(o3 f).AR=[⟨0,none,false,100,1⟩,⟨0,some 0,false,3,3⟩]:=by
 simp[o3,Ab.AR,Ab.at_,Ag.at_,Ag.AR,AM.AR,List.range_succ]
theorem Wg {f:Ad}:(o4 f).AR=[⟨0,none,false,100,1⟩]:=by
 simp[o4,Ab.AR,Ab.at_,Ag.at_,Ag.AR,AM.AR,List.range_succ]
theorem Wh {f:Ad}:BU (o3 f) 3 (o4 f):=by
 unfold BU;have e:(o3 f).Hm 3=3:=by simp[Ab.Hm,o3]
 rw[e];refine .step _ _ 1 ?_ ?_ ?_
 ·rw[MX];decide
 ·rw[MX];decide
 ·rw[MX]
  have d:(o3 f).Ar (([⟨0,none,false,100,1⟩,⟨0,some 0,false,3,3⟩]:List CH).getD 1 .z)=o4 f:=by
   simp[o3,o4,Ab.Ar,Ab.at_,Ag.at_,Ab.ready,Ab.Af,Ab.AG,Ag.Af];decide
  rw[d];have c:o4 f={ o4 f with time:=3 }:=rfl;rw[c];refine .none _ ?_;intro b a;rw[<-c,Wg] at a ⊢;have:Cv ([⟨0,none,false,100,1⟩]:List CH) 1=some 0:=by decide
  rw[show ([⟨0,none,false,100,1⟩]:List CH).length=1 from rfl,this] at a
  cases a
  decide
theorem Zc {f:Ad}{e:Ab}(h:BU (o3 f) 3 e):e=o4 f:=h.uniq Wh
theorem Wi {f:Ad}(h:Mm f):(o4 f).Bk=some (⟨1,0⟩,2,2,o5 f):=by
 obtain⟨n,dl,bu0,Yi,Rt,Ya,Rr,ba0,ca0,ji0,an0,XX,XW⟩:=h;simp[o4,o5,Ab.Bk,Ab.find,List.findIdx?_cons,Ab.at_,Ag.at_,Ab.Af,Ab.AG,Ag.Af,Yi,Ya,Zak]
theorem Wj {f:Ad}(h:Mm f):(o5 f).complete 2=some (o6 f):=by
 obtain⟨n,dl,bu0,Yi,Rt,Ya,Rr,ba0,ca0,ji0,an0,XX,XW⟩:=h;simp[o5,o6,Ab.complete,Ab.task,Ag.work,List.findIdx?_cons,Ab.Bl,Ag.free,Ab.ready,Ab.settle,Ag.outcome,Ab.at_,Ag.at_,Ab.Af,Ab.AG,Ag.Af,XX,XW,List.range_succ]
theorem Wk {f:Ad}(h:Mm f):(o6 f).Bk=some (⟨1,1⟩,1,3,o7 f):=by
 obtain⟨n,dl,bu0,Yi,Rt,Ya,Rr,ba0,ca0,ji0,an0,XX,XW⟩:=h;simp[o6,o7,Ab.Bk,Ab.find,List.findIdx?_cons,Ab.at_,Ag.at_,Ab.Af,Ab.AG,Ag.Af,Rt,Rr,Zak]
theorem Wl {f:Ad}(h:Mm f):(o7 f).complete 3=some (o8 f):=by
 obtain⟨n,dl,bu0,Yi,Rt,Ya,Rr,ba0,ca0,ji0,an0,XX,XW⟩:=h;simp[o7,o8,Ab.complete,Ab.task,Ag.work,List.findIdx?_cons,Ab.Bl,Ag.free,Ab.ready,Ab.settle,Ag.outcome,Ab.end_,Ab.at_,Ag.at_,Ab.Af,Ab.AG,Ag.Af,List.range_succ]
theorem ZT {e:Ab}{tok:Int}{i k:Nat}(hi:i<e.runs.length)(l:k<(e.at_ i).steps.length)(m:((e.at_ i).at_ k).st=3)(n:((e.at_ i).at_ k).tok=tok)
  (hu:∀a b,a<e.runs.length->b<(e.at_ a).steps.length->((e.at_ a).at_ b).st=3->((e.at_ a).at_ b).tok=tok->a=i/\b=k):e.task tok=some (i,k):=by
 have h:∀j (d:j<e.runs.length),e.runs[j]=e.at_ j:=fun j d=>by unfold Ab.at_;rw[ZQ,ZZ d];rfl
 have es:∀(r:Ag) j (d:j<r.steps.length),r.steps[j]=r.at_ j:=fun r j d=>by unfold Ag.at_;rw[ZQ,ZZ d];rfl
 have hw:(e.at_ i).work tok=some k:=by
  unfold Ag.work;rw[List.findIdx?_eq_some_iff_getElem];refine⟨l,by rw[es];simp[m,n],fun j d=> ?_⟩;rw[es];intro x;simp only[Bool.and_eq_true,beq_iff_eq] at x;have:=(hu i j hi (by omega) x.1 x.2).2;omega
 have hf:e.runs.findIdx? (fun r=>(r.work tok).isSome)=some i:=by
  rw[List.findIdx?_eq_some_iff_getElem];refine⟨hi,by rw[h,hw];rfl,fun j d=> ?_⟩;rw[h];intro x;obtain⟨b,f⟩:=Option.isSome_iff_exists.1 x;unfold Ag.work at f;rw[List.findIdx?_eq_some_iff_getElem] at f;obtain⟨g,c,_⟩:=f;rw[es] at c;simp only[Bool.and_eq_true,beq_iff_eq] at c;have:=(hu j b (by omega) g c.1 c.2).1;omega
 unfold Ab.task;rw[hf];simp[hw]
structure Mn (f:Ad):Prop where
 k1:Ak (o1 f)
 k2:Ak (o2 f)
 k3:Ak (o3 f)
 k4:Ak (o4 f)
 k5:Ak (o5 f)
 k6:Ak (o6 f)
 k7:Ak (o7 f)
 k8:Ak (o8 f)
 u8:AI (o8 f)
theorem Zf {f:Ad}(h:Mm f)(hf:BQ f):Mn f:=by
 have k1:=(Fl.AN hf (Wc h)).1;have k2:=k1.Bk (Wd h);have k3:=k2.fail (Wf h);have k4:=(Wh.ok k3 (by decide)).1;have k5:=k4.Bk (Wi h);have k6:=k5.complete (Wj h);have k7:=k6.Bk (Wk h);have a:=SC.AN Fl hf (Wc h);have b:=a.Bk k1 (Wd h);have c:=b.fail k2 (Wf h);have d:=(Wh (f:=f)).Rx c k3 (by decide);have e:=d.Bk k4 (Wi h);have g:=e.complete k5 (Wj h);have i:=g.Bk k6 (Wk h);exact⟨k1,k2,k3,k4,k5,k6,k7,k7.complete (Wl h),i.complete k7 (Wl h)⟩
structure EE (P:Int->Prop)(X:Ad->Nat->Int->Int->AM->AM->Prop):Prop where
 up:∀t t',P t->t<=t'->P t'
 refl:∀F k t t' s,X F k t t' s s
 trans:∀F k t t' t'' a b c,X F k t t' a b->X F k t' t'' b c->t<=t'->t'<=t''->X F k t t'' a c
 Bl:∀F k t tm tk s,P t->Hq F k t tm tk s->s.st=1->X F k t t s { s with st:=2 }
 over:∀F k t tm tk s v,P t->Hq F k t tm tk s->v=5\/v=6\/v=7->s.st=v\/s.st<5->X F k t t s { s with st:=v }
 rest:∀F k t tm tk s fa sd,P t->AJ F k->Hq F k t tm tk s->s.st=3->s.tries<F.bu k->0<=t->t<=4611686018427387904->X F k t t s { s with st:=4,fin:=Zak t (Zb4 (F.ba k) (F.ca k) (F.ji k) s.tries sd),BN:=fa }
 due:∀F k t t' tm tk s,P s.fin->t<=t'->s.fin<=t'->Hq F k t tm tk s->s.st=4->X F k t t' s { s with st:=2 }
 BZ:∀F k t s x ga,P t->s.st=3->1<=x->0<=t->t<=4611686018427387904->X F k t t s { s with sign:=Zak t x,Bc:=ga }
theorem WL {F:Ad}{k:Nat}(h:AJ F k)(t At:Int):F.ba k<=Zb4 (F.ba k) (F.ca k) (F.ji k) t At/\Zb4 (F.ba k) (F.ca k) (F.ji k) t At<=F.ca k+F.ji k:=by
 unfold Zb4;have a:=JA (F.ba k) h.ba1 0 (t - 1).toNat (Nat.zero_le _);rw[Fw] at a;have b:=h.ca1;have c:=h.ji1;have d:=Int.emod_nonneg At (show F.ji k+1≠0 by omega);have e:=Int.emod_lt_of_pos At (show 0<F.ji k+1 by omega);omega
def Sc (r:Ag):Prop:=r.st=2↔∀k,k<r.steps.length->(r.at_ k).st=5
def Ovr (r:Ag):Prop:=∀k,k<r.steps.length->(r.at_ k).st=5\/(r.at_ k).st=6\/(r.at_ k).st=7
def Stays (r r':Ag):Prop:=∀k,k<r.steps.length->(r.at_ k).st=5\/(r.at_ k).st=6\/(r.at_ k).st=7->(r'.at_ k).st=(r.at_ k).st
section
variable {P:Int->Prop} {X:Ad->Nat->Int->Int->AM->AM->Prop}
structure XF (X:Ad->Nat->Int->Int->AM->AM->Prop)(t t':Int)(r r':Ag):Prop where
 id:r'.id=r.id
 fl:r'.fl=r.fl
 len:r'.steps.length=r.steps.length
 BP:r'.BP=r.BP
 st:r.st≠1->r'.st=r.st
 ov:Stays r r'
 nd:∀k,k<r.steps.length->X r.fl k t t' (r.at_ k) (r'.at_ k)
 new:r.st=1->r'.st≠1->Sc r'/\Ovr r'
theorem XF.refl (R:EE P X)(t a:Int)(r:Ag):XF X t a r r:=⟨rfl,rfl,rfl,rfl,fun _=>rfl,fun _ _ _=>rfl,fun _ _=>R.refl _ _ _ _ _,fun h g=>absurd h g⟩
theorem XF.trans (R:EE P X){t i f:Int}{a b c:Ag}(h:XF X t i a b)(g:XF X i f b c)(m:t<=i)(n:i<=f):XF X t f a c:=by
 refine⟨g.id.trans h.id,g.fl.trans h.fl,g.len.trans h.len,g.BP.trans h.BP,fun x=> ?_,fun k d x=> ?_,fun k d=> ?_,fun x y=> ?_⟩
 ·have:=h.st x;rw[g.st (by omega),this]
 ·have:=h.ov k d x;rw[g.ov k (by rw[h.len];exact d) (by omega),this]
 ·have:=g.nd k (by rw[h.len];exact d)
  rw[h.fl] at this;exact R.trans _ _ _ _ _ _ _ _ (h.nd k d) this m n
 ·by_cases e:b.st=1
  ·exact g.new e y
  ·obtain⟨s1,s2⟩:=h.new x e
   have l:=g.st e;have j:∀k,k<b.steps.length->(c.at_ k).st=(b.at_ k).st:=fun k d=>g.ov k d (s2 k d);refine⟨?_,fun k d=>by rw[g.len] at d;rw[j k d];exact s2 k d⟩;unfold Sc at s1 ⊢;rw[l,s1,g.len];exact⟨fun q k d=>by rw[j k d];exact q k d,fun q k d=>by rw[<-j k d];exact q k d⟩
structure BK (X:Ad->Nat->Int->Int->AM->AM->Prop)(e e':Ab):Prop where
 time:e.time<=e'.time
 lr:e'.Ah=e.Ah
 lt:e'.Ai=e.Ai
 sd:e'.At=e.At
 len:e'.runs.length=e.runs.length
 run:∀i,i<e.runs.length->XF X e.time e'.time (e.at_ i) (e'.at_ i)
theorem BK.trans (R:EE P X){a b c:Ab}(h:BK X a b)(g:BK X b c):BK X a c :=
 ⟨Int.le_trans h.time g.time,g.lr.trans h.lr,g.lt.trans h.lt,g.sd.trans h.sd,g.len.trans h.len,fun i hi=>(h.run i hi).trans R (g.run i (by rw[h.len];exact hi)) h.time g.time⟩
theorem BK.one (R:EE P X){e e':Ab}{i:Nat}(k:e.time<=e'.time)(b:e'.Ah=e.Ah)(d:e'.Ai=e.Ai)(f:e'.At=e.At)(hl:e'.runs.length=e.runs.length)(g:∀j,j<e.runs.length->j≠i->e'.at_ j=e.at_ j)(h:i<e.runs.length->XF X e.time e'.time (e.at_ i) (e'.at_ i)):BK X e e' :=
 ⟨k,b,d,f,hl,fun j a=>by
  by_cases c:j=i
  ·subst c;exact h a
  ·rw[g j a c];exact .refl R _ _ _⟩
theorem BK.refl (R:EE P X)(e:Ab):BK X e e:= .one R (i:=0) (Int.le_refl _) rfl rfl rfl rfl (fun _ _ _=>rfl) fun _=> .refl R _ _ _
theorem BK.step (R:EE P X){e e':Ab}{i k:Nat}{f:AM->AM}(hi:i<e.runs.length)(a:e'.runs=(e.Af i k f).runs)(l:e.time<=e'.time)(b:e'.Ah=e.Ah)(d:e'.Ai=e.Ai)(g:e'.At=e.At)(n:((e.at_ i).at_ k).st<5)(hn:X (e.at_ i).fl k e.time e'.time ((e.at_ i).at_ k) (f ((e.at_ i).at_ k))):BK X e e':=by
 refine .one R (i:=i) l b d g (Za7 a) (fun j h c=>by rw[Zbo a h,if_neg (fun x=>c x.symm)]) fun _=> ?_;rw[Zbo a hi,if_pos rfl];refine⟨rfl,rfl,Zal _ _ _,rfl,fun _=>rfl,fun m hm x=> ?_,fun m hm=> ?_,fun x y=>absurd x y⟩
 ·by_cases c:k=m
  ·subst c;omega
  ·rw[Zbh _ _ c]
 ·by_cases c:k=m
  ·subst c;rw[Zbb _ _ hm];exact hn
  ·rw[Zbh _ _ c];exact R.refl _ _ _ _ _
theorem Ix (i:Nat):∀(L:List Nat) (e:Ab),i<e.runs.length->((L.foldl (fun e k=>e.ready i k) e).at_ i).BP=(e.at_ i).BP
 | [],_,_=>rfl
 | k::L,e,hi=>by rw[List.foldl_cons,Ix i L (e.ready i k) (by rw[Io];exact hi),DQ e i k hi];rfl
theorem BK.Bl (R:EE P X){e:Ab}(h:Ao e)(b:P e.time){i:Nat}(hi:i<e.runs.length)(a:(e.at_ i).st=1):BK X e (e.Bl i):=by
 have k:=(h.Bl hi a).2;refine .one R (i:=i) (by rw[k.time];exact Int.le_refl _) k.Ah k.Ai k.At k.len k.others fun hi=>⟨k.id,k.fl,k.steps,?_,fun _=>k.st,fun m hm x=> ?_,fun m hm=> ?_,fun x y=>absurd (k.st.trans x) y⟩
 ·rw[JF e i hi];exact Ix i _ e hi
 ·rw[Hn hi hm]
  split
  ·rename_i hf
   have:=EO hf;omega
  ·rfl
 ·rw[Hn hi hm,k.time]
  split
  ·rename_i hf
   exact R.Bl _ _ _ _ _ _ b ((h.runs i hi).steps m hm) (EO hf)
  ·exact R.refl _ _ _ _ _
theorem sc_end {r:Ag}{st:Int}(ends:Int)(h:st=2↔∀k,k<r.steps.length->(r.at_ k).st=5):Sc (Zd2 st ends r):=by
 show st=2↔_;rw[h,Zbe];refine⟨fun q k a=>by rw[Zb8 _ _ _ a];have:=q k a;unfold DE;rw[if_pos (Zu this)];exact this,fun q k a=> ?_⟩;have:=q k a;rw[Zb8 _ _ _ a] at this;unfold DE at this
 split at this
 ·exact this
 ·exact absurd this (by simp)
theorem BK.end_ (R:EE P X){e:Ab}(h:Ao e)(f:P e.time){i:Nat}(d:(e.at_ i).st=1){st:Int}(l:st=2↔∀k,k<(e.at_ i).steps.length->((e.at_ i).at_ k).st=5):BK X e (e.end_ i st):=by
 refine .one R (i:=i) (Int.le_refl _) rfl rfl rfl (Zd8 e i st) (fun j g c=>by rw[Zei e i st g,if_neg (fun x=>c x.symm)]) fun hi=> ?_;rw[Zei e i st hi,if_pos rfl];refine⟨rfl,rfl,Zbe _ _ _,rfl,fun x=>absurd d x,fun k a x=> ?_,fun k a=> ?_,fun _ _=>⟨sc_end _ l,fun k a=> ?_⟩⟩
 ·rw[Zb8 _ _ _ a]
  unfold DE
  split
  ·rfl
  ·show (7:Int)=_;omega
 ·rw[Zb8 _ _ _ a]
  unfold DE
  split
  ·exact R.refl _ _ _ _ _
  ·have b:=(h.runs i hi).steps k a
   have:=b.ZO;exact R.over _ _ _ _ _ _ 7 f b (by omega) (by omega)
 ·rw[Zbe] at a
  rw[Zb8 _ _ _ a];exact JL _
theorem BK.settle (R:EE P X){e:Ab}(h:Ao e)(d:P e.time){i:Nat}(b:(e.at_ i).st=1):BK X e (e.settle i):=by
 unfold Ab.settle
 cases a:(e.at_ i).outcome with
 | none=>exact .refl R e
 | some st =>
  refine .end_ R h d b ?_;unfold Ag.outcome at a
  split at a
  ·split at a
   ·rename_i c
    cases a
    rw[Ms] at c;simp only[beq_iff_eq] at c;exact⟨fun _=>c,fun _=>rfl⟩
   ·rename_i c
    cases a
    rw[Ms] at c;simp only[beq_iff_eq] at c;exact⟨fun x=>absurd x (by decide),fun x=>absurd x c⟩
  ·cases a
theorem SK (R:EE P X){e:Ab}(h:Ak e)(q:P e.time){i k:Nat}(hi:i<e.runs.length)(l:k<(e.at_ i).steps.length)(B:((e.at_ i).at_ k).st=3)(c:¬((e.at_ i).at_ k).tries<(e.at_ i).fl.bu k):BK X e (e.Af i k (fun s=>{ s with st:=6 }))/\BK X (e.Af i k (fun s=>{ s with st:=6 })) (e.AT i k):=by
 have t:=h.wk.Bh hi l (by omega);have r:=(h.wk.runs i hi).steps k l;rw[Gf hi c];have p:=h.wk.over hi l 6 (by omega) (by omega) (fun _=>by have:=r.trB;omega);obtain⟨a,b⟩:∃a,a=e.Af i k (fun s=>{ s with st:=6 }):=⟨_,rfl⟩;have k1:FJ e a i:=by rw[b];exact FJ.Af e k (fun s=>{ s with st:=6 }) e.queue hi
 have n1:BK X e a:=by
  rw[b];exact .step R hi rfl (Int.le_refl _) rfl rfl rfl (by omega) (R.over _ _ _ _ _ _ 6 q r (by omega) (by omega))
 rw[<-b] at p ⊢;refine⟨n1,?_⟩;obtain⟨s1,_⟩:=Zeb (a.at_ i);have n:(a.at_ i).steps.length=(e.at_ i).steps.length:=k1.steps;rw[n] at s1
 generalize Ag.BO (e.at_ i).steps.length (a.at_ i)=r2 at s1 ⊢
 have d:i<a.runs.length:=by rw[k1.len];exact hi
 have f:P a.time:=by rw[k1.time];exact q
 have g:(a.AG i (fun _=>r2)).at_ i=r2:=by rw[Zbr a i i _ d,if_pos rfl]
 obtain⟨q1,v,o,w,_⟩:=s1.same;have A:=s1.wk p d rfl
 have n2:BK X a (a.AG i (fun _=>r2)):=by
  refine .one R (i:=i) (Int.le_refl _) rfl rfl rfl (Zbi a i _) (fun j u c=>by rw[Zbr a i j _ u,if_neg (fun x=>c x.symm)]) fun _=> ?_;rw[g];refine⟨q1,v,s1.leS.len,w,fun _=>o,fun m hm x=> ?_,fun m hm=> ?_,fun x y=>absurd (o.trans x) y⟩
  ·rcases s1.leS.at_ m hm with y | ⟨y,z⟩
   ·rw[y]
   ·omega
  ·rcases s1.leS.at_ m hm with y | ⟨y,z⟩
   ·rw[y];exact R.refl _ _ _ _ _
   ·rw[z];exact R.over _ _ _ _ _ _ 7 f ((p.runs i d).steps m hm) (by omega) (by omega)
 refine n2.trans R (.settle R A f ?_);rw[g,o,k1.st];exact t
theorem BK.AT (R:EE P X){e:Ab}(h:Ak e)(f:P e.time){i k:Nat}(hi:i<e.runs.length)(d:k<(e.at_ i).steps.length)(g:((e.at_ i).at_ k).st=3):BK X e (e.AT i k):=by
 by_cases c:((e.at_ i).at_ k).tries<(e.at_ i).fl.bu k
 ·rw[Gg c]
  exact .step R hi rfl (Int.le_refl _) rfl rfl rfl (by omega) (R.rest _ _ _ _ _ _ _ _ f (h.wk.runs i hi |>.fl.node k (by rw[<-(h.wk.runs i hi).len];exact d)) ((h.wk.runs i hi).steps k d) g c h.wk.t0 h.wk.tB)
 ·obtain⟨a,b⟩:=SK R h f hi d g c
  exact a.trans R b
theorem BK.Ar (R:EE P X){e:Ab}(b:Ak e){d:CH}(n:BA e d)(hm:∀x,BA e x->d.tm<=x.tm)(m:P d.tm):BK X e (e.Ar d):=by
 have r:=b.wk.Cq n;have l:Ak { e with time:=max e.time d.tm }:=b.Fi (by omega) (by have:=b.wk.tB;omega) (fun x p=>by have:=hm x p;have:=(b.wk.Cq p).2;omega);have c:P (max e.time d.tm):=R.up _ _ m (by omega);have n0:BK X e { e with time:=max e.time d.tm }:=⟨by show e.time<=max e.time d.tm;omega,rfl,rfl,rfl,rfl,fun _ _=> .refl R _ _ _⟩;obtain⟨hi,o,g⟩:=n;unfold Ab.Ar
 cases j:d.k with
 | none =>
  refine n0.trans R (BK.end_ R (e:={ e with time:=max e.time d.tm }) l.wk c (i:=d.i) (st:=5) o ⟨fun x=>absurd x (by decide),fun x=> ?_⟩);obtain⟨k,q1,q,_⟩:=b.goes d.i hi o;exact absurd (x k q1) q
 | some k =>
  rw[j] at g;simp only at g ⊢;have a:=g.2;unfold AM.due at a
  split
  ·rename_i h
   split at a
   ·omega
   ·refine .step R (f:=fun s=>{ s with st:=2 }) hi rfl (by show e.time<=max e.time d.tm;omega) rfl rfl rfl (by omega) (R.due _ _ _ _ _ _ _ (by rw[<-a.2.1];exact m) (by show e.time<=max e.time d.tm;omega) ?_ ((b.wk.runs _ hi).steps k g.1) h)
    show _<=max e.time d.tm;omega
  ·rename_i h
   refine n0.trans R (.AT R l c hi g.1 ?_)
   split at a
   ·exact a.1
   ·exact a.1.resolve_right h
theorem CG.engN (R:EE P X){g:Int}{e c:Ab}(k:CG g e c)(f:Ak e)(h:e.time<=g)(i:∀x,BA e x->P x.tm):BK X e c:=by
 induction k with
 | none e _=>exact⟨h,rfl,rfl,rfl,rfl,fun _ _=> .refl R _ _ _⟩
 | step e c b j hle _ n =>
  obtain⟨d1,d2⟩:=Zd5 j;have d:=i _ d1;have a:=f.Ar d1 d2;have l:=GM e (e.AR.getD b .z);exact (BK.Ar R f d1 d2 d).trans R (n a (by rw[l];omega) fun x m=>R.up _ _ d (by have:=(a.wk.Cq m).2;omega))
theorem BU.engN (R:EE P X){e a:Ab}{t:Int}(d:BU e t a)(b:Ak e)(f:0<=t)(c:∀x,BA e x->P x.tm):BK X e a :=
 CG.engN R d b (Nz b.wk f).1 c
theorem BK.complete (R:EE P X){e e':Ab}(h:Ak e)(j:P e.time){tok:Int}(he:e.complete tok=some e'):BK X e e':=by
 unfold Ab.complete at he
 split at he
 ·cases he
 ·rename_i i k m
  obtain⟨a,b,c,_⟩:=Dk m
  cases he
  have l:=h.wk.Bh a b (by omega);have hw:=h.wk.over a b 5 (by omega) (by omega) (by omega);have k1:=FJ.Af e k (fun s=>{ s with st:=5 }) e.queue a;have f:i<(e.Af i k (fun s=>{ s with st:=5 })).runs.length:=by rw[k1.len];exact a
  have g:=k1.st.trans l;have n1:BK X e (e.Af i k (fun s=>{ s with st:=5 })):= .step R a rfl (Int.le_refl _) rfl rfl rfl (by omega) (R.over _ _ _ _ _ _ 5 j ((h.wk.runs i a).steps k b) (by omega) (by omega));have d:=hw.Bl f g;exact (n1.trans R (.Bl R hw j f g)).trans R (.settle R d.1 (by rw[d.2.time];exact j) (d.2.st.trans g))
theorem BK.fail (R:EE P X){e e':Ab}(h:Ak e)(d:P e.time){tok:Int}(he:e.fail tok=some e'):BK X e e':=by
 unfold Ab.fail at he
 split at he
 ·cases he
 ·rename_i i k f
  obtain⟨a,b,c,_⟩:=Dk f
  cases he
  exact .AT R h d a b c
end
def NI (F:Ad)(k:Nat)(g:Int):Int:=F.cl k+F.ca k+F.ji k+g
def NG (F:Ad)(k:Nat)(g d u:Int)(s:AM):Int :=
 if s.st=1 then F.bu k * NI F k g
 else if s.st=2 then (F.bu k - s.tries) * NI F k g - g+d
 else if s.st=3 then (s.fin - u)+F.ca k+F.ji k+(F.bu k - s.tries) * NI F k g
 else if s.st=4 then (s.fin - u)+(F.bu k - s.tries) * NI F k g
 else 0
theorem WA {F:Ad}{k:Nat}{g d u:Int}{s:AM}(h:s.st=1):NG F k g d u s=F.bu k * NI F k g:=by unfold NG;rw[if_pos h]
theorem Pa {F:Ad}{k:Nat}{g d u:Int}{s:AM}(h:s.st=2):NG F k g d u s=(F.bu k - s.tries) * NI F k g - g+d:=by unfold NG;rw[if_neg (by omega),if_pos h]
theorem Pb {F:Ad}{k:Nat}{g d u:Int}{s:AM}(h:s.st=3):NG F k g d u s=(s.fin - u)+F.ca k+F.ji k+(F.bu k - s.tries) * NI F k g:=by unfold NG;rw[if_neg (by omega),if_neg (by omega),if_pos h]
theorem TK {F:Ad}{k:Nat}{g d u:Int}{s:AM}(h:s.st=4):NG F k g d u s=(s.fin - u)+(F.bu k - s.tries) * NI F k g:=by unfold NG;rw[if_neg (by omega),if_neg (by omega),if_neg (by omega),if_pos h]
theorem Zs {F:Ad}{k:Nat}{g d u:Int}{s:AM}(h:5<=s.st):NG F k g d u s=0:=by unfold NG;rw[if_neg (by omega),if_neg (by omega),if_neg (by omega),if_neg (by omega)]
structure Uk (u:Int)(s:AM):Prop where
 fin:s.st=3\/s.st=4->u<s.fin
 sign:s.st=3->0<s.sign->u<s.sign
theorem Ny {F:Ad}{k:Nat}{g:Int}(h:AJ F k):NI F k g≥2+g:=by
 have a:=h.Rt;have b:=h.ba1;have c:=h.ca1;have d:=h.ji1;unfold NI;omega
theorem GS {F:Ad}{k:Nat}{g:Int}(hg:0<=g)(h:AJ F k){m:Int}(hm:m<=F.bu k):0<=(F.bu k - m) * NI F k g:=Int.mul_nonneg (by omega) (by have:=Ny (g:=g) h;omega)
theorem LR (F:Ad)(k:Nat)(g m:Int):(F.bu k - m) * NI F k g=(F.bu k - (m+1)) * NI F k g+NI F k g:=by
 rw[show F.bu k - m=(F.bu k - (m+1))+1 by omega,Int.add_mul,Int.one_mul]
theorem OJ {F:Ad}{k:Nat}{g:Int}(hg:0<=g)(h:AJ F k){m:Int}(hm:m<F.bu k):NI F k g<=(F.bu k - m) * NI F k g:=by
 rw[LR];have:=GS hg h (m:=m+1) (by omega);omega
theorem WB {F:Ad}{k:Nat}{g d u t tm c:Int}{s:AM}(hg:0<=g)(m:0<=d)(h:AJ F k)(n:u<=t)(a:Hq F k t tm c s):0<=NG F k g d u s:=by
 have f:=a.XI;have b:=a.trB;have hC:=Ny (g:=g) h;have i:=h.ji1;have j:=h.ca1;have l:=h.ba1;rcases (by omega:s.st=1\/s.st=2\/s.st=3\/s.st=4\/5<=s.st) with e | e | e | e | e
 ·rw[WA e];exact Int.mul_nonneg (by have:=h.bu1;omega) (by omega)
 ·rw[Pa e];have:=OJ hg h (a.more (Zu e));omega
 ·rw[Pb e];have:=GS hg h b;have:=a.MA (Zu e);omega
 ·rw[TK e];have:=GS hg h b;have:=a.MA (Zj e);omega
 ·rw[Zs e];exact Int.le_refl _
structure NdE (F:Ad)(k:Nat)(g d u:Int)(s s':AM):Prop where
 tries:s'.tries=s.tries
 less:AJ F k->NG F k g d u s'<=NG F k g d u s
 ahead:AJ F k->Uk u s->Uk u s'
def XE (g d u:Int):Ad->Nat->Int->Int->AM->AM->Prop:=fun F k _ _ s s'=>NdE F k g d u s s'
theorem relE {g d u:Int}(i:0<=d)(hg:d<=g)(hu:u<4611686018427387904):EE (fun t=>u<=t) (XE g d u) where
 up:=fun _ _ h a=>Int.le_trans h a
 refl:=fun _ _ _ _ _=>⟨rfl,fun _=>Int.le_refl _,fun _=>id⟩
 trans:=fun _ _ _ _ _ _ _ _ h a _ _=>⟨a.tries.trans h.tries,fun x=>Int.le_trans (a.less x) (h.less x),fun x y=>a.ahead x (h.ahead x y)⟩
 Bl:=fun F k t tm e s _ b h=>⟨rfl,fun _=>by
  rw[WA h,Pa (s:={ s with st:=2 }) rfl];have:=b.wait h;show (F.bu k - s.tries) * _ - g+d<=_;rw[this,Int.sub_zero];omega,fun _ _=>⟨fun x=>by replace x:(2:Int)=3\/(2:Int)=4:=x;omega,fun x=>by replace x:(2:Int)=3:=x;omega⟩⟩
 over:=fun F k t tm e s v c b o _=>⟨rfl,fun x=>by rw[Zs (s:={ s with st:=v }) (by show 5<=v;omega)];exact WB (by omega) i x c b,fun _ _=>⟨fun x=>by replace x:v=3\/v=4:=x;omega,fun x=>by replace x:v=3:=x;omega⟩⟩
 rest:=fun F k t tm e s f sd c hn b h j t0 tB=>⟨rfl,fun _=>by
  rw[Pb h,TK (s:={ s with st:=4,fin:=Zak t (Zb4 (F.ba k) (F.ca k) (F.ji k) s.tries sd),BN:=f }) rfl];have m:=WL hn s.tries sd;have a:=b.MA (Zu h);have n:Zak t (Zb4 (F.ba k) (F.ca k) (F.ji k) s.tries sd)<=t+Zb4 (F.ba k) (F.ca k) (F.ji k) s.tries sd:=by unfold Zak;split<;>omega
  show Zak t (Zb4 (F.ba k) (F.ca k) (F.ji k) s.tries sd) - u+(F.bu k - s.tries) * _<=_
  omega,fun _ _=>⟨fun _=>by
   show u<Zak t (Zb4 (F.ba k) (F.ca k) (F.ji k) s.tries sd);have:=(Hg hn s.tries sd).1;unfold Zak;split<;>omega,fun x=>by replace x:(4:Int)=3:=x;omega⟩⟩
 due:=fun F k t q tm e s hf _ _ _ h=>⟨rfl,fun _=>by
  rw[TK h,Pa (s:={ s with st:=2 }) rfl]
  replace hf:u<=s.fin:=hf
  show (F.bu k - s.tries) * _ - g+d<=_;omega,fun _ _=>⟨fun x=>by replace x:(2:Int)=3\/(2:Int)=4:=x;omega,fun x=>by replace x:(2:Int)=3:=x;omega⟩⟩
 BZ:=fun F k t s x l c h p t0 tB=>⟨rfl,fun _=>by rw[Pb h,Pb (s:={ s with sign:=Zak t x,Bc:=l }) h];exact Int.le_refl _,fun _ y=>⟨y.fin,fun _ _=>by
  show u<Zak t x
  replace c:u<=t:=c
  unfold Zak;split<;>omega⟩⟩
structure FW (e:Ab)(F:Ad):Prop where
 ok:Ak e
 up:AI e
 len:e.runs.length=2
 id:(e.at_ 1).id=2
 lr:e.Ah=2
 old:(e.at_ 0).st≠1
 sd:e.At=0
 time:e.time=3
 tok:e.Ai=3
 fl:(e.at_ 1).fl=F
 sl:(e.at_ 1).steps.length=F.n
 st:(e.at_ 1).st=1
 BP:(e.at_ 1).BP=3+F.dl
 nd:∀k,k<F.n->((e.at_ 1).at_ k).tries=0/\(((e.at_ 1).at_ k).st=1\/((e.at_ 1).at_ k).st=2)
theorem TM {f F:Ad}(j:Mn f)(hf:BQ F):∃e,(o8 f).AN F=some e/\FW e F:=by
 have k8:=j.k8;have h:(o8 f).runs.length<6:=by show 1<6;decide
 have g:(o8 f).AN F=some ((o8 f).begin F):=by unfold Ab.AN;rw[if_neg (by show ¬1=6;decide)]
 have hl:=Za5 (o8 f) F;have hm:=k8.wk.more h hf;have hi:(o8 f).runs.length<((o8 f).more F).runs.length:=by omega
 have a:=Zbj (o8 f) F;have i:(((o8 f).more F).at_ (o8 f).runs.length).st=1:=by rw[a];rfl
 obtain⟨r,b⟩:=hm.Bl hi i;have d:=fun m o=>Hn (e:=(o8 f).more F) hi (m:=m) o;have c:=Ix (o8 f).runs.length ((List.range (((o8 f).more F).at_ (o8 f).runs.length).steps.length).filter (((o8 f).more F).at_ (o8 f).runs.length).free) _ hi;rw[<-JF _ _ hi] at c;obtain⟨n1,n2,p,q,_⟩:=FZ k8 h hf;have n:(o8 f).runs.length=1:=rfl;rw[<-Dz] at b d c;rw[n] at a i hi b d c;refine⟨_,g,k8.begin h hf,j.u8.begin k8 h hf,by rw[b.len,hl];rfl,by rw[b.id,a];rfl,by rw[p];rfl,?_,by rw[n2];rfl,by rw[n1];rfl,by rw[q];rfl,by rw[b.fl,a];rfl,by rw[b.steps,a,Zb7],by rw[b.st,a];rfl,?_,fun k l=> ?_⟩
 ·rw[b.others 0 (by omega) (by decide),Zb1 _ _ (by show 0<1;decide)]
  show (2:Int)≠1;decide
 ·rw[c,a]
  have:=hf.top.dl2;show Zak 3 F.dl=_;unfold Zak;rw[if_neg (by omega)]
 ·rw[d k (by rw[a,Zb7];exact l),a,Zdh _ _ l]
  split
  ·exact⟨rfl,Zj rfl⟩
  ·exact⟨rfl,Zu rfl⟩
def CZ (f:Nat->Int):Nat->Int
 | 0=>0
 | k+1=>CZ f k+f k
theorem Zek {f g:Nat->Int}:∀{n:Nat},(∀k,k<n->f k<=g k)->CZ f n<=CZ g n
 | 0,_=>Int.le_refl _
 | n+1,h=>by have:=Zek (n:=n) fun k a=>h k (by omega);have:=h n (by omega);simp only[CZ];omega
theorem Nx {f g:Nat->Int}{j:Nat}:∀{n:Nat},(∀k,k<n->f k<=g k)->j<n->f j+1<=g j->CZ f n+1<=CZ g n
 | 0,_,h,_=>by omega
 | n+1,h,hj,h1=>by
  simp only[CZ];have b:=h n (by omega);by_cases c:j=n
  ·subst c;have:=Zek (n:=j) fun k a=>h k (by omega);omega
  ·have:=Nx (n:=n) (fun k a=>h k (by omega)) (by omega) h1;omega
theorem Nw {f g:Nat->Int}{n:Nat}(h:∀k,k<n->f k=g k):CZ f n=CZ g n :=
 Int.le_antisymm (Zek fun k a=>Int.le_of_eq (h k a)) (Zek fun k a=>Int.le_of_eq (h k a).symm)
theorem Pp {f g:Nat->Int}{j:Nat}:∀{n:Nat},(∀k,k<n->k≠j->f k=g k)->j<n->f j+1=g j->CZ f n+1=CZ g n
 | 0,_,h,_=>by omega
 | n+1,h,hj,h1=>by
  simp only[CZ];by_cases c:j=n
  ·subst c;have:=Nw (n:=j) fun k a=>h k (by omega) (by omega);omega
  ·have:=Pp (n:=n) (fun k a=>h k (by omega)) (by omega) h1;have:=h n (by omega) (by omega);omega
theorem Xf (F:Ad)(g:Int):∀n,CN F g n=CZ (fun k=>F.bu k * NI F k g) n
 | 0=>rfl
 | n+1=>by simp only[CN,CZ,Xf F g n];rfl
theorem Is:∀n:Nat,CZ (fun _=>0) n=0
 | 0=>rfl
 | n+1=>by simp only[CZ,Is n];rfl
def Jy (r:Ag)(g d u:Int):Int:=CZ (fun k=>NG r.fl k g d u (r.at_ k)) r.steps.length
def left (r:Ag):Int:=CZ (fun k=>r.fl.bu k - (r.at_ k).tries) r.steps.length
theorem Ur {r:Ag}(i:r.st=1)(hu:Cu r)(hg:Goes r)(d:∀k,k<r.steps.length->1<=(r.at_ k).st/\(r.at_ k).st<=7)(l:∀k,k<r.steps.length->∀a,a<r.fl.an k->(r.fl.af k a).toNat<k):∃k,k<r.steps.length/\2<=(r.at_ k).st/\(r.at_ k).st<=4:=by
 refine Classical.byContradiction fun hn=> ?_
 have g:∀k,k<r.steps.length->(r.at_ k).st=1\/5<=(r.at_ k).st:=fun k f=>by
  have:=d k f;rcases (by omega:(r.at_ k).st=1\/5<=(r.at_ k).st\/(2<=(r.at_ k).st/\(r.at_ k).st<=4)) with e | e | e
  ·exact Zu e
  ·exact Zj e
  ·exact absurd ⟨k,f,e⟩ hn
 have key:∀k,k<r.steps.length->(r.at_ k).st≠1:=fun k=>by
  induction k using Nat.strongRecOn with
  | _ k m =>
   intro f e
   have j:∀a,a<r.fl.an k->5<=(r.at_ (r.fl.af k a).toNat).st/\(r.at_ (r.fl.af k a).toNat).st<=7:=fun a h=>by
    have hl:=l k f a h;have b:(r.fl.af k a).toNat<r.steps.length:=by omega
    have:=d _ b;rcases g _ b with x | x
    ·exact absurd x (m _ hl b)
    ·omega
   by_cases c:∀a,a<r.fl.an k->(r.at_ (r.fl.af k a).toNat).st=5
   ·have:=hu.still i k f
    rw[Zd1.2 ⟨e,c⟩] at this
    cases this
   ·simp only[Classical.not_forall] at c
    obtain⟨a,h,n⟩:=c;have:=hu.half.shut i k f;rw[GX.2 ⟨e,a,h,by have:=j a h;omega⟩] at this
    cases this
 obtain⟨k,q1,o,p,q⟩:=hg i;have:=d k q1;rcases g k q1 with x | x
 ·exact key k q1 x
 ·omega
structure Gy (e:Ab)(T M:Int):Prop where
 ok:Ak e
 up:AI e
 len:e.runs.length=2
 id:(e.at_ 1).id=2
 lr:e.Ah=2
 old:(e.at_ 0).st≠1
 sd:e.At=0
 time:e.time=T
 BP:(e.at_ 1).BP=3+(e.at_ 1).fl.dl
 ord:∀k,k<(e.at_ 1).steps.length->∀a,a<(e.at_ 1).fl.an k->((e.at_ 1).fl.af k a).toNat<k
 tok:e.Ai+left (e.at_ 1)=M
 ah:∀k,k<(e.at_ 1).steps.length->Uk T ((e.at_ 1).at_ k)
 tl:(e.at_ 1).st=1->T<(e.at_ 1).BP
theorem Gy.i1 {e:Ab}{T M:Int}(h:Gy e T M):1<e.runs.length:=by rw[h.len];decide
theorem Gy.node {e:Ab}{T M:Int}(h:Gy e T M){k:Nat}(b:k<(e.at_ 1).steps.length):AJ (e.at_ 1).fl k:=by
 have a:=h.ok.wk.runs 1 h.i1;exact a.fl.node k (by rw[<-a.len];exact b)
theorem Gy.lt {e:Ab}{T M:Int}(h:Gy e T M):0<=left (e.at_ 1):=by
 have a:=h.ok.wk.runs 1 h.i1;unfold left;rw[<-Is (e.at_ 1).steps.length];exact Zek fun k b=>by have:=(a.steps k b).trB;omega
theorem Gy.due {e:Ab}{T M:Int}(h:Gy e T M){d:CH}(m:BA e d):T<d.tm:=by
 obtain⟨hi,f,g⟩:=m;have hl:=h.len
 have j:d.i=1:=by
  rcases Nat.eq_zero_or_pos d.i with c | c
  ·rw[c] at f;exact absurd f h.old
  ·omega
 rw[j] at f g
 cases a:d.k with
 | none=>rw[a] at g;have:=h.tl f;omega
 | some k =>
  rw[a] at g;obtain⟨q1,b⟩:=g;have l:=h.ah k q1;unfold AM.due at b
  split at b
  ·have:=l.sign b.1 b.2.1;omega
  ·have:=l.fin b.1;omega
theorem Wz {g d u:Int}{e e':Ab}(h:XF (XE g d u) e.time e'.time (e.at_ 1) (e'.at_ 1))(hn:∀k,k<(e.at_ 1).steps.length->AJ (e.at_ 1).fl k):Jy (e'.at_ 1) g d u<=Jy (e.at_ 1) g d u:=by
 unfold Jy;rw[h.len,h.fl];exact Zek fun k a=>(h.nd k a).less (hn k a)
theorem left_eq {g d u:Int}{e e':Ab}(h:XF (XE g d u) e.time e'.time (e.at_ 1) (e'.at_ 1)):left (e'.at_ 1)=left (e.at_ 1):=by
 unfold left;rw[h.len,h.fl];exact Nw fun k a=>by rw[NdE.tries (h.nd k a)]
theorem Gy.call {e e':Ab}{T M g d:Int}(h:Gy e T M)(n:BK (XE g d T) e e')(ok:Ak e')(up:AI e')(c:e'.time=T):Gy e' T M/\Jy (e'.at_ 1) g d T<=Jy (e.at_ 1) g d T/\((e'.at_ 1).st=1->(e.at_ 1).st=1)/\left (e'.at_ 1)=left (e.at_ 1)/\(e'.at_ 1).fl=(e.at_ 1).fl:=by
 have i1:=h.i1;have r:=n.run 1 i1;have a:(e'.at_ 1).st=1->(e.at_ 1).st=1:=fun x=>Classical.byContradiction fun y=>y ((r.st y).symm.trans x);refine⟨⟨ok,up,by rw[n.len,h.len],by rw[r.id,h.id],by rw[n.lr,h.lr],?_,by rw[n.sd,h.sd],c,by rw[r.BP,r.fl,h.BP],by rw[r.len,r.fl];exact h.ord,by rw[n.lt,left_eq r,h.tok],fun k b=> ?_,fun x=>by rw[r.BP];exact h.tl (a x)⟩,Wz r fun k b=>h.node b,a,left_eq r,r.fl⟩
 ·rw[(n.run 0 (by rw[h.len];decide)).st h.old];exact h.old
 ·rw[r.len] at b
  exact (r.nd k b).ahead (h.node b) (h.ah k b)
theorem Jc (e:Ab)(i:Nat):(e.settle i).time=e.time:=by unfold Ab.settle;split<;>rfl
theorem SJ {e e':Ab}{tok:Int}(he:e.fail tok=some e'):e'.time=e.time:=by
 unfold Ab.fail at he
 split at he
 ·cases he
 ·cases he
  unfold Ab.AT;simp only
  split
  ·rfl
  ·rw[Jc];rfl
theorem La {e e':Ab}(h:Ak e){tok:Int}(he:e.complete tok=some e'):e'.time=e.time:=by
 unfold Ab.complete at he
 split at he
 ·cases he
 ·rename_i i k f
  obtain⟨a,b,c,_⟩:=Dk f
  cases he
  have d:=h.wk.Bh a b (by omega);have hw:=h.wk.over a b 5 (by omega) (by omega) (by omega);have k1:=FJ.Af e k (fun s=>{ s with st:=5 }) e.queue a;rw[Jc];exact ((hw.Bl (by rw[k1.len];exact a) (k1.st.trans d)).2.time).trans k1.time
theorem Gy.fail {e e':Ab}{T M g:Int}(h:Gy e T M)(hg:0<=g)(a:T<4611686018427387904){tok:Int}(he:e.fail tok=some e'):Gy e' T M/\Jy (e'.at_ 1) g 0 T<=Jy (e.at_ 1) g 0 T/\((e'.at_ 1).st=1->(e.at_ 1).st=1)/\left (e'.at_ 1)=left (e.at_ 1)/\(e'.at_ 1).fl=(e.at_ 1).fl :=
 h.call (BK.fail (relE (Int.le_refl 0) hg a) h.ok (Int.le_of_eq h.time.symm) he) (h.ok.fail he) (h.up.fail h.ok he) ((SJ he).trans h.time)
theorem Gy.complete {e e':Ab}{T M g:Int}(h:Gy e T M)(hg:0<=g)(a:T<4611686018427387904){tok:Int}(he:e.complete tok=some e'):Gy e' T M/\Jy (e'.at_ 1) g 0 T<=Jy (e.at_ 1) g 0 T/\((e'.at_ 1).st=1->(e.at_ 1).st=1)/\left (e'.at_ 1)=left (e.at_ 1)/\(e'.at_ 1).fl=(e.at_ 1).fl :=
 h.call (BK.complete (relE (Int.le_refl 0) hg a) h.ok (Int.le_of_eq h.time.symm) he) (h.ok.complete he) (h.up.complete h.ok he) ((La h.ok he).trans h.time)
theorem Gy.Bk {e e':Ab}{T M g:Int}(h:Gy e T M)(W:T<4611686018427387904){p:AZ}{t B:Int}(he:e.Bk=some (p,t,B,e')) :
  Gy e' T M/\Jy (e'.at_ 1) g 0 T<=Jy (e.at_ 1) g 0 T/\(e'.at_ 1).st=(e.at_ 1).st/\left (e'.at_ 1)+1=left (e.at_ 1)/\(e'.at_ 1).fl=(e.at_ 1).fl/\B=e.Ai+1/\e'.task B=some (1,p.node):=by
 obtain⟨i,_,q1,Z,A,Q,R,S,U,q8,q9,G,H,O,I,n⟩:=Nh h.ok he;have hl:=h.len
 have hi:i=1:=by
  rcases Nat.eq_zero_or_pos i with c | c
  ·subst c;exact absurd R h.old
  ·omega
 subst hi;have F:=h.ok.Bk he;have J:=h.ok.wk.runs 1 q1;have Y:=J.steps p.node A;have K:=h.node A;have q:=h.time;have V:0<=T:=by rw[<-q];exact h.ok.wk.t0
 have L:=K.Rt
 generalize hf:(fun s:AM=>({ s with st:=3,tries:=t,tok:=B,fin:=Zak e.time ((e.at_ 1).fl.cl p.node),BN:=e.timers+1,sign:=if (e.at_ 1).fl.be p.node > 0 then Zak e.time ((e.at_ 1).fl.be p.node) else 0,Bc:=if (e.at_ 1).fl.be p.node > 0 then e.timers+2 else s.Bc }:AM))=f at n
 have C:∀s,(f s).st=3/\(f s).tries=t/\(f s).tok=B/\(f s).fin=Zak e.time ((e.at_ 1).fl.cl p.node)/\(f s).sign=if (e.at_ 1).fl.be p.node > 0 then Zak e.time ((e.at_ 1).fl.be p.node) else 0:=fun s=>by subst hf;exact⟨rfl,rfl,rfl,rfl,rfl⟩
 clear hf;have d:e'.at_ 1=(e.at_ 1).Af p.node f:=by rw[Zbo n q1,if_pos rfl]
 have y:e'.at_ 0=e.at_ 0:=by rw[Zbo n (by omega),if_neg (by omega)]
 have m:(e'.at_ 1).steps.length=(e.at_ 1).steps.length:=by rw[d,Zal]
 have o:(e'.at_ 1).fl=(e.at_ 1).fl:=by rw[d,Fv]
 have u:(e'.at_ 1).at_ p.node=f ((e.at_ 1).at_ p.node):=by rw[d,Zbb _ _ A]
 have l:∀k,p.node≠k->(e'.at_ 1).at_ k=(e.at_ 1).at_ k:=fun k w=>by rw[d,Zbh _ _ w]
 obtain⟨f1,f2,f3,f4,f5⟩:=C ((e.at_ 1).at_ p.node);rw[<-u] at f1 f2 f3 f4 f5;have z:Zak e.time ((e.at_ 1).fl.cl p.node)<=T+(e.at_ 1).fl.cl p.node/\T<Zak e.time ((e.at_ 1).fl.cl p.node):=by rw[q];unfold Zak;split<;>omega
 have r:left (e'.at_ 1)+1=left (e.at_ 1):=by
  unfold left;rw[m,o];refine Pp (j:=p.node) (fun k w c=>by rw[l k (Ne.symm c)]) A (by rw[f2];omega)
 refine⟨⟨F,h.up.Bk h.ok he,by rw[Za7 n,hl],by rw[d];exact h.id,by rw[I,h.lr],by rw[y];exact h.old,by rw[H,h.sd],by rw[G,q],by rw[d];exact h.BP,by rw[m,o];exact h.ord,?_,fun k w=> ?_,fun x=>by rw[d] at x ⊢;exact h.tl x⟩,?_,by rw[d];rfl,?_,o,U,?_⟩
 ·have:=h.tok;omega
 ·rw[m] at w
  by_cases c:p.node=k
  ·subst c
   refine⟨fun _=>by rw[f4];exact z.2,fun _ x=> ?_⟩;rw[f5] at x ⊢
   split at x
   ·rename_i v
    rw[if_pos v,q];unfold Zak;split<;>omega
   ·omega
  ·rw[l k c];exact h.ah k w
 ·unfold Jy
  rw[m,o];refine Zek fun k w=> ?_;by_cases c:p.node=k
  ·subst c
   rw[Pb f1,Pa Q,f2,f4,S,LR _ _ _ ((e.at_ 1).at_ p.node).tries];unfold NI;omega
  ·rw[l k c];exact Int.le_refl _
 ·exact r
 ·refine ZT (by rw[Za7 n];exact q1) (by rw[m];exact A) f1 f3 fun a b N v D E=> ?_
  rw[Za7 n] at N;rcases (by omega:a=0\/a=1) with c | c
  ·subst c
   rw[y] at v D;have:=(h.ok.wk.runs 0 (by omega)).over h.old b v;omega
  ·subst c
   refine⟨rfl,Classical.byContradiction fun c=> ?_⟩;rw[m] at v;rw[l b (fun x=>c x.symm)] at E;have:=(J.steps b v).tokB;omega
theorem CG.due {g:Int}{e f:Ab}(k:CG g e f):∀d,BA f d->g<d.tm:=by
 induction k with
 | none e h =>
  intro d a
  replace a:BA e d:=a
  cases c:Cv e.AR e.AR.length with
  | none =>
   have i:=List.length_pos_of_mem (Zar.2 a);have j:=Eb c;omega
  | some b =>
   have i:=h b c;have j:=(Zd5 c).2 d a;omega
 | step _ _ _ _ _ _ l=>exact l
theorem Gy.tick {e a:Ab}{T M g d:Int}(h:Gy e T M)(l:BU e 1 a)(q:0<=d)(hg:d<=g)(t:T<1000000):Gy a (T+1) M/\Jy (a.at_ 1) g d (T+1)<=Jy (e.at_ 1) g d (T+1)/\((a.at_ 1).st=1->(e.at_ 1).st=1)/\left (a.at_ 1)=left (e.at_ 1)/\(a.at_ 1).fl=(e.at_ 1).fl:=by
 have i1:=h.i1;have p:=h.time;have f:e.Hm 1=T+1:=by unfold Ab.Hm;rw[p,if_neg (by omega)]
 have n:=l.engN (relE (u:=T+1) q hg (by omega)) h.ok (by decide) (fun x s=>by have:=h.due s;omega);have r:=n.run 1 i1;obtain⟨m,_,_,_,_⟩:=l.ok h.ok (by decide)
 have o:a.time=T+1:=by
  have:=(CG.ok l h.ok (by rw[f];omega) (by rw[f];omega)).2.1;rw[this,f]
 have b:=CG.due l;rw[f] at b;have i:(a.at_ 1).st=1->(e.at_ 1).st=1:=fun x=>Classical.byContradiction fun y=>y ((r.st y).symm.trans x);have i2:1<a.runs.length:=by rw[n.len];exact i1
 refine⟨⟨m,l.Rx h.up h.ok (by decide),by rw[n.len,h.len],by rw[r.id,h.id],by rw[n.lr,h.lr],?_,by rw[n.sd,h.sd],o,by rw[r.BP,r.fl,h.BP],by rw[r.len,r.fl];exact h.ord,by rw[n.lt,left_eq r,h.tok],fun k j=> ?_,fun x=> ?_⟩,Wz r fun k j=>h.node j,i,left_eq r,r.fl⟩
 ·rw[(n.run 0 (by rw[h.len];decide)).st h.old];exact h.old
 ·by_cases c:(a.at_ 1).st=1
  ·refine⟨fun x=> ?_,fun x y=> ?_⟩
   ·exact b ⟨1,some k,false,((a.at_ 1).at_ k).fin,((a.at_ 1).at_ k).BN⟩ ⟨i2,c,j,by unfold AM.due;simp only[Bool.false_eq_true,if_false];exact⟨x,trivial,trivial⟩⟩
   ·exact b ⟨1,some k,true,((a.at_ 1).at_ k).sign,((a.at_ 1).at_ k).Bc⟩ ⟨i2,c,j,by unfold AM.due;simp only[if_true];exact⟨x,y,trivial,trivial⟩⟩
  ·have:=(m.wk.runs 1 i2).over c k j
   exact⟨fun x=>by omega,fun x=>by omega⟩
 ·exact b ⟨1,none,false,(a.at_ 1).BP,(a.at_ 1).Cs⟩ ⟨i2,x,rfl,rfl,rfl⟩
theorem Gy.shift {e:Ab}{T M g d d':Int}(h:Gy e T M)(i:(e.at_ 1).st=1)(l:∀k,k<(e.at_ 1).steps.length->((e.at_ 1).at_ k).st=2->d'+1<=d):Jy (e.at_ 1) g d' (T+1)+1<=Jy (e.at_ 1) g d T:=by
 have b:=h.ok.wk.runs 1 h.i1;obtain⟨j,f,m,n⟩:=Ur i (h.up 1 h.i1) (h.ok.goes 1 h.i1) (fun k a=>⟨(b.steps k a).XI,(b.steps k a).ZO⟩) h.ord
 have key:∀k,k<(e.at_ 1).steps.length->NG (e.at_ 1).fl k g d' (T+1) ((e.at_ 1).at_ k)+(if 2<=((e.at_ 1).at_ k).st/\((e.at_ 1).at_ k).st<=4 then 1 else 0)<=NG (e.at_ 1).fl k g d T ((e.at_ 1).at_ k):=fun k a=>by
  have o:=(b.steps k a).XI;rcases (by omega:((e.at_ 1).at_ k).st=1\/((e.at_ 1).at_ k).st=2\/((e.at_ 1).at_ k).st=3\/((e.at_ 1).at_ k).st=4\/5<=((e.at_ 1).at_ k).st) with c | c | c | c | c
  ·rw[WA c,WA c,if_neg (by omega)];omega
  ·rw[Pa c,Pa c,if_pos (by omega)];have:=l k a c;omega
  ·rw[Pb c,Pb c,if_pos (by omega)];omega
  ·rw[TK c,TK c,if_pos (by omega)];omega
  ·rw[Zs c,Zs c,if_neg (by omega)];omega
 unfold Jy;refine Nx (j:=j) (fun k a=> ?_) f ?_
 ·have:=key k a;split at this<;>omega
 ·have:=key j f;rw[if_pos ⟨m,n⟩] at this;exact this
theorem Gy.pos {e:Ab}{T M g d:Int}(h:Gy e T M)(q:(e.at_ 1).st=1)(r:0<=d)(hg:d<=g):1<=Jy (e.at_ 1) g d T:=by
 have b:=h.ok.wk.runs 1 h.i1;obtain⟨j,l,v,w⟩:=Ur q (h.up 1 h.i1) (h.ok.goes 1 h.i1) (fun k i=>⟨(b.steps k i).XI,(b.steps k i).ZO⟩) h.ord;have m:=Int.le_of_eq h.time.symm;have:=Nx (f:=fun _=>0) (g:=fun k=>NG (e.at_ 1).fl k g d T ((e.at_ 1).at_ k)) (j:=j) (n:=(e.at_ 1).steps.length) (fun k i=>WB (by omega) r (h.node i) m (b.steps k i)) l ?_
 ·rw[Is] at this;unfold Jy;omega
 ·have a:=h.node l
  have hC:=Ny (g:=g) a;have p:=h.ah j l;have o:=(b.steps j l).trB;have s:=a.ji1;have t:=a.ca1;have u:=a.ba1;show (0:Int)+1<=NG _ j g d T _;rcases (by omega:((e.at_ 1).at_ j).st=2\/((e.at_ 1).at_ j).st=3\/((e.at_ 1).at_ j).st=4) with c | c | c
  ·rw[Pa c];have:=OJ (g:=g) (by omega) a ((b.steps j l).more (Zu c));omega
  ·rw[Pb c];have:=GS (g:=g) (by omega) a o;have:=p.fin (Zu c);omega
  ·rw[TK c];have:=GS (g:=g) (by omega) a o;have:=p.fin (Zj c);omega
def Dl (g t:Nat):Nat:=if t % g=0 then 0 else g - t % g
def Us (F:Ad):Int:=3+CZ (fun k=>F.bu k) F.n
def OrdF (F:Ad):Prop:=∀k,k<F.n->∀a,a<F.an k->(F.af k a).toNat<k
structure Lo (e:Ab)(F:Ad)(g t:Nat)(pl:Bool):Prop where
 i:Gy e (3+(t:Int)) (Us F)
 fl:(e.at_ 1).fl=F
 pt:pl=true->(e.at_ 1).st=1->Jy (e.at_ 1) g (Dl g t) (3+(t:Int))+t<=CN F g F.n
theorem FW.en {e:Ab}{F:Ad}(h:FW e F)(j:OrdF F){g:Nat}(hg:1<=g)(pl:Bool):Lo e F g 0 pl:=by
 have i1:1<e.runs.length:=by rw[h.len];decide
 have i:=h.ok.wk.runs 1 i1;have hn:=h.nd;have a:=h.fl;have b:=h.sl;refine⟨⟨h.ok,h.up,h.len,h.id,h.lr,h.old,h.sd,h.time,by rw[a];exact h.BP,by rw[b,a];exact j,?_,fun k d=> ?_,fun _=> ?_⟩,a,fun _ _=> ?_⟩
 ·unfold left Us
  rw[h.tok,b,a]
  congr 1
  exact Nw fun k d=>by rw[(hn k d).1,Int.sub_zero]
 ·rw[b] at d
  have:=(hn k d).2;exact⟨fun x=>by omega,fun x=>by omega⟩
 ·have l:=h.BP
  have:=i.fl.top.XG;rw[a] at this;show 3+((0:Nat):Int)<_;omega
 ·have f:Dl g 0=0:=by unfold Dl;rw[if_pos (Nat.zero_mod g)]
  rw[f,Xf];show Jy (e.at_ 1) g 0 (3+0)+0<=_;rw[Int.add_zero];unfold Jy;rw[b,a];refine Zek fun k d=> ?_;rcases (hn k d).2 with c | c
  ·rw[WA c];exact Int.le_refl _
  ·rw[Pa c,(hn k d).1,Int.sub_zero];omega
theorem Lo.call {e e':Ab}{F:Ad}{g t:Nat}{pl:Bool}(h:Lo e F g t pl)(a:t % g=0)(b:Gy e' (3+(t:Int)) (Us F))(c:Jy (e'.at_ 1) g 0 (3+(t:Int))<=Jy (e.at_ 1) g 0 (3+(t:Int)))(d:(e'.at_ 1).st=1->(e.at_ 1).st=1)(f:(e'.at_ 1).fl=(e.at_ 1).fl):Lo e' F g t pl:=by
 refine⟨b,f.trans h.fl,fun x y=> ?_⟩;have:=h.pt x (d y);have e0:Dl g t=0:=by unfold Dl;rw[if_pos a]
 rw[e0] at this ⊢;exact Int.le_trans (Int.add_le_add_right c _) this
theorem Lo.tick {e f:Ab}{F:Ad}{g t:Nat}{pl:Bool}(h:Lo e F g t pl)(n:1<=g)(o:g<=9)(u:t<=2000)(q:pl=true->t % g=0->e.queue=[])(r:BU e 1 f):Lo f F g (t+1) pl:=by
 have m:Dl g (t+1)<=g:=by unfold Dl;split<;>omega
 obtain⟨a1,a2,a3,_,a5⟩:=h.i.tick (g:=g) (d:=(Dl g (t+1):Nat)) r (by omega) (by omega) (by omega);have b:(3:Int)+((t+1:Nat):Int)=3+(t:Int)+1:=by push_cast;omega
 refine⟨by rw[b];exact a1,a5.trans h.fl,fun x y=> ?_⟩;have j:=a3 y;have hp:=h.pt x j
 have s:=h.i.shift (g:=g) (d:=(Dl g t:Nat)) (d':=(Dl g (t+1):Nat)) j fun k p l=>by
  by_cases c:t % g=0
  ·have a:=q x c
   have:(⟨(e.at_ 1).id,k⟩:AZ)∈e.queue:=(h.i.ok.wk.qm _).2 ⟨1,h.i.i1,rfl,p,l⟩;rw[a] at this
   cases this
  ·have:g=1\/g=2\/g=3\/g=4\/g=5\/g=6\/g=7\/g=8\/g=9:=by omega
   unfold Dl;rw[if_neg c];rcases this with rfl | rfl | rfl | rfl | rfl | rfl | rfl | rfl | rfl<;>(split<;>omega)
 rw[b];omega
theorem Lo.over {e:Ab}{F:Ad}{g t:Nat}{pl:Bool}(h:Lo e F g t pl)(hg:1<=g)(f:(t:Int)=F.dl\/(pl=true/\(t:Int)=CN F g F.n)):(e.at_ 1).st≠1:=fun x=>by
 rcases f with c | ⟨c1,c2⟩
 ·have b:=h.i.tl x
  have a:=h.i.BP;rw[h.fl] at a;omega
 ·have b:=h.pt c1 x
  have j:Dl g t<=g:=by unfold Dl;split<;>omega
  have a:=h.i.pos (g:=g) (d:=(Dl g t:Nat)) x (by omega) (by omega);omega
theorem Lo.none_ {e:Ab}{F:Ad}{g t:Nat}{pl:Bool}(h:Lo e F g t pl)(b:(e.at_ 1).st≠1):∀d,¬BA e d:=fun d ⟨hi,a,_⟩=>by
 have hl:=h.i.len;rcases (by omega:d.i=0\/d.i=1) with c | c
 ·rw[c] at a;exact h.i.old a
 ·rw[c] at a;exact b a
theorem Rp {F:Ad}(h:BQ F):Us F<=63:=by
 have d:=h.top.n2;have e:CZ (fun k=>F.bu k) F.n<=CZ (fun _=>5) F.n:=Zek fun k b=>(h.node k b).bu2
 have a:∀n:Nat,CZ (fun _=>5) n=5 * n:=fun n=>by
  induction n with
  | zero=>rfl
  | succ n c=>simp only[CZ,c];push_cast;omega
 unfold Us;have:=a F.n;omega
theorem Lo.AQ {e:Ab}{F:Ad}{g t:Nat}{pl:Bool}(h:Lo e F g t pl):e.Ai<=63/\e.Ah=2/\e.At=0:=by
 have a:=h.i.ok.wk.runs 1 h.i.i1;have b:=h.i.tok;have c:=h.i.lt;have d:=Rp (F:=F) (by rw[<-h.fl];exact a.fl);exact⟨by omega,h.i.lr,h.i.sd⟩
end Go.Proofs.YtgdcjccbdmcebaaGreatDoor
