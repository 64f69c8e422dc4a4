import Derived.Test.YtgdcjccbdmcebaaGreatDoorM01
import Derived.Conc.Holds
import Derived.SevenTiedAt
import Derived.Handed
set_option linter.unusedSimpArgs false
set_option linter.unusedVariables false
set_option maxRecDepth 100000
namespace Go.Proofs.YtgdcjccbdmcebaaGreatDoor
variable {k:Nat}{l:List CH}
theorem Zdn (l:List Tm)(t:Tm)(i:Nat)(hi:i<l.length+1):(l++[t]).getD i .z=if i<l.length then l.getD i .z else t:=by
 rw[List.getD_eq_getElem?_getD,List.getD_eq_getElem?_getD];by_cases h:i<l.length
 ·rw[if_pos h,List.getElem?_append_left h]
 ·obtain rfl:i=l.length:=by omega
  rw[if_neg h,List.getElem?_append_right (Nat.le_refl _),Nat.sub_self]
  rfl
structure Jp where
 kind:Int
 at_:Nat
 data:List Int
def Jp.z:Jp:=⟨0,0,[]⟩
abbrev BG:=Nat->Option (List Int)
def Di:BG:=fun _=>none
def Ez (f:BG)(o:Jp):BG:=fun i=>if i=o.at_ then (if o.kind=3 then none else if o.kind=2 then some ((f i).getD []++o.data) else some o.data) else f i
structure Ay where
 CJ:BG
 now:BG
 Ap:List Jp
 left:Int
 full:Int
 down:Bool
def wI (x:Int):Int:=(x+9223372036854775808) % 18446744073709551616 - 9223372036854775808
def Ay.Bx (d:Ay):Int:=if d.down=true\/d.left=0 then 11 else if d.full=0 then 10 else 0
def Ay.wrote (d:Ay):Ay:=if d.down=true\/d.left=0 then { d with down:=true } else if d.full=0 then { d with left:=wI (d.left - 1),full:= -1 } else { d with left:=wI (d.left - 1),full:=wI (d.full - 1) }
def Ay.BW (d:Ay)(o:Jp):Int:=if d.Bx≠0 then d.Bx else if d.now o.at_=none/\o.kind=3 then 9 else 0
def Ay.told (d:Ay)(o:Jp):Ay :=
 if d.Bx=11 then { d.wrote with Ap:=d.Ap++[o] } else if d.BW o≠0 then d.wrote else { d.wrote with now:=Ez d.now o,Ap:=d.Ap++[o] }
def Ay.synced (d:Ay):Ay:=if d.Bx≠0 then d.wrote else { d.wrote with CJ:=d.Ap.foldl Ez d.CJ,Ap:=[] }
def Ct (n:Nat):List Int:=if h:n=0 then [] else ((n % 256:Nat):Int)::Ct (n / 256)
theorem Zdz:Ct 0=[]:=by unfold Ct;rw[dif_pos rfl]
theorem Fp {n:Nat}(h:n≠0):Ct n=((n % 256:Nat):Int)::Ct (n / 256):=by
 rw[Ct,dif_neg h]
theorem Zd7:∀k n:Nat,n<256 ^ k->(Ct n).length<=k
 | 0,n,h=>by
  have:n=0:=by simpa using h
  subst this;rw[Zdz];exact Nat.le_refl _
 | k+1,n,h=>by
  by_cases a:n=0
  ·subst a;rw[Zdz];exact Nat.zero_le _
  ·rw[Fp a,List.length_cons]
   have:=Zd7 k (n / 256) (Nat.div_lt_of_lt_mul (by rw[Nat.pow_succ] at h;rw[Nat.mul_comm];exact h));omega
def AX (op:Int)(data:List Int)(n:Nat):List Int:=op::data++Ct n
def SQ (s c:Nat):Nat:=(s ^^^ c) * 16777619 % 4294967296
def DI (l:List Int):Nat:=l.foldl (fun s c=>SQ s c.toNat) 2166136261
def CY (l:List Int):List Int:=[((DI l % 256:Nat):Int),((DI l / 256 % 256:Nat):Int),((DI l / 65536 % 256:Nat):Int),((DI l / 16777216 % 256 ||| 1:Nat):Int)]
theorem Me (l:List Int):(CY l).length=4:=rfl
def Cw (l:List Int):List Int:=[((l.length % 256:Nat):Int),((l.length / 256 % 256:Nat):Int)]
def Zas (l:List Int):List Int:=Cw l++l++CY l
theorem Zeh (l:List Int):(Zas l).length=l.length+6:=by unfold Zas Cw;simp[Me]
def Zcx (short:Nat)(l:List Int):List Int:=List.replicate short 0++Zas l
theorem Rh (short:Nat)(l:List Int):(Zcx short l).length=short+l.length+6:=by unfold Zcx;rw[List.length_append,List.length_replicate,Zeh];omega
def Hr (f:BG)(M:Nat):Prop:=∀i s,f i=some s->s.length<=M
theorem Hr.do_ {f:BG}{M:Nat}(h:Hr f M)(o:Jp){N:Nat}(b:M+o.data.length<=N):Hr (Ez f o) N:=by
 intro i s a;unfold Ez at a
 split at a
 ·split at a
  ·cases a
  ·split at a
   ·simp only[Option.some.injEq] at a
    subst a;rw[List.length_append]
    cases e:f i with
    | none=>simp;omega
    | some t=>have:=h i t e;simp;omega
   ·simp only[Option.some.injEq] at a
    subst a;omega
 ·have:=h i s a;omega
theorem Hr.mono {f:BG}{M N:Nat}(h:Hr f M)(a:M<=N):Hr f N:=fun i s b=>Nat.le_trans (h i s b) a
def Nq (x i:Nat):Nat:=if i<8 then x * 2 ^ (8 * i) else 0
def DL (f:Nat->Nat):Nat->Nat
 | 0=>0
 | i+1=>DL f i ||| Nq (f i) i
theorem Nr {x:Nat}(h:x<256)(i:Nat):Nq x i<18446744073709551616:=by
 unfold Nq
 split
 ·rename_i hi
  have:2 ^ (8 * i)<=2 ^ 56:=Nat.pow_le_pow_right (by decide) (by omega);have a:x * 2 ^ (8 * i)<=255 * 2 ^ 56:=Nat.mul_le_mul (by omega) this;omega
 ·decide
theorem RM {f:Nat->Nat}(n:Nat)(h:∀k,k<n->f k<256):∀i,i<=n->DL f i<18446744073709551616
 | 0,_=>by show (0:Nat)<18446744073709551616;decide
 | i+1,hi=>by
  have a:=RM n h i (by omega);have b:=Nr (h i (by omega)) i;exact Nat.or_lt_two_pow (n:=64) a b
theorem VC:∀(i n:Nat),i<(Ct n).length->(Ct n)[i]? =some ((n / 256 ^ i % 256:Nat):Int)
 | i,0,h=>by rw[Zdz] at h;simp at h
 | 0,n+1,_=>by rw[Fp (by omega)];simp
 | i+1,n+1,h=>by
  rw[Fp (by omega)] at h ⊢;simp only[List.length_cons] at h;rw[List.getElem?_cons_succ,VC i ((n+1) / 256) (by omega),Nat.div_div_eq_div_mul,Nat.pow_succ,Nat.mul_comm]
theorem To (n:Nat):n<256 ^ (Ct n).length:=by
 induction n using Nat.strongRecOn with
 | _ n b =>
  by_cases a:n=0
  ·subst a;rw[Zdz];decide
  ·rw[Fp a,List.length_cons,Nat.pow_succ]
   have:=b (n / 256) (Nat.div_lt_self (by omega) (by decide));omega
theorem OR {n:Nat}(hn:n<18446744073709551616){f:Nat->Nat}(hf:∀k,k<(Ct n).length->f k=n / 256 ^ k % 256):∀i,i<=(Ct n).length->DL f i=n % 256 ^ i
 | 0,_=>by simp[DL,Nat.mod_one]
 | i+1,hi=>by
  have d:(Ct n).length<=8:=Zd7 8 n (by omega);have c:=OR hn hf i (by omega);unfold DL;rw[c,hf i (by omega)];unfold Nq;rw[if_pos (by omega)];have e:(256:Nat) ^ i=2 ^ (8 * i):=by rw[show (256:Nat)=2 ^ 8 by rfl,<-Nat.pow_mul]
  have a:n % 256 ^ i<2 ^ (8 * i):=by rw[<-e];exact Nat.mod_lt _ (Nat.pow_pos (by decide))
  have b:=Nat.two_pow_add_eq_or_of_lt a (n / 256 ^ i % 256);rw[Nat.mul_comm,Nat.or_comm,<-b,<-e,Nat.pow_succ,Nat.mod_mul];omega
theorem DM {n:Nat}(hn:n<18446744073709551616){f:Nat->Nat}(hf:∀k,k<(Ct n).length->f k=((Ct n).getD k 0).toNat):DL f (Ct n).length=n:=by
 rw[OR hn (fun k a=>by rw[hf k a,List.getD_eq_getElem?_getD,VC k n a];rfl) _ (Nat.le_refl _),Nat.mod_eq_of_lt (To n)]
def CN (F:Ad)(g:Int):Nat->Int
 | 0=>0
 | k+1=>CN F g k+F.bu k * (F.cl k+F.ca k+F.ji k+g)
theorem Jz (a x:Int)(e:1<=a)(b:a<=5)(d:0<=x)(c:x<=4194304):0<=a * x/\a * x<=20971520:=by
 refine⟨Int.mul_nonneg (by omega) d,?_⟩;have h:=Int.mul_le_mul b c d (by decide);omega
theorem Nv (F:Ad)(g:Int)(hg:0<=g)(a:g<=1048576)(k:Nat)(h:∀i,i<k->AJ F i):0<=CN F g k/\CN F g k<=20971520 * k:=by
 induction k with
 | zero=>simp[CN]
 | succ k b =>
  have j:=b fun i hi=>h i (by omega)
  obtain⟨a1,a2,c,d,_,_,d1,d2,e,f,f1,f2⟩:=h k (by omega);have m:=Jz (F.bu k) (F.cl k+F.ca k+F.ji k+g) a1 a2 (by omega) (by omega);simp only[CN];omega
theorem Zbh (r:Ag){j:Nat}(f:AM->AM)(h:k≠j):(r.Af k f).at_ j=r.at_ j:=by
 unfold Ag.at_ Ag.Af;simp only[List.getD_eq_getElem?_getD,List.getElem?_modify,if_neg h]
 cases r.steps[j]? <;>rfl
theorem Zbb (r:Ag)(f:AM->AM)(h:k<r.steps.length):(r.Af k f).at_ k=f (r.at_ k):=by
 rw[Zee r k k f h,if_pos rfl]
theorem Fv (r:Ag)(k:Nat)(f:AM->AM):(r.Af k f).fl=r.fl:=rfl
theorem Io (e:Ab)(i k:Nat):(e.ready i k).runs.length=e.runs.length:=by simp[Ab.ready,Ab.Af,Ab.AG]
theorem DQ (e:Ab)(i k:Nat)(hi:i<e.runs.length):(e.ready i k).at_ i=(e.at_ i).Af k (fun s=>{ s with st:=2 }):=by
 have h:=Zbr e i i (fun r=>r.Af k (fun s=>{ s with st:=2 })) hi;rw[if_pos rfl] at h;exact h
theorem EO {r:Ag}(h:r.free k=true):(r.at_ k).st=1:=by
 unfold Ag.free at h;simp only[Bool.and_eq_true,beq_iff_eq] at h;exact h.1
theorem Qd {r:Ag}{j:Nat}(c:k<r.steps.length)(h:(r.at_ k).st=1)(b:k≠j):(r.Af k (fun s=>{ s with st:=2 })).free j=r.free j:=by
 unfold Ag.free;rw[Zbh r _ b,Fv]
 congr 1
 refine List.all_congr rfl (fun a=> ?_);by_cases e:k=(r.fl.af j a).toNat
 ·rw[<-e,Zbb r _ c,h];rfl
 ·rw[Zbh r _ e]
theorem Ml (i n:Nat):∀(L:List Nat),L.Nodup->(∀k∈L,k<n)->∀e:Ab,i<e.runs.length->(e.at_ i).steps.length=n ->
  L.foldl (fun e k=>if (e.at_ i).free k then e.ready i k else e) e=(L.filter (fun k=>(e.at_ i).free k)).foldl (fun e k=>e.ready i k) e
 | [],_,_,_,_,_=>rfl
 | k::L,hd,hl,e,hi,hn=>by
  rw[List.nodup_cons] at hd;have d:=hl k (List.mem_cons_self ..);have b:=Ml i n L hd.2 (fun k h=>hl k (List.mem_cons_of_mem _ h));rw[List.foldl_cons]
  cases hf:(e.at_ i).free k with
  | false =>
   rw[List.filter_cons_of_neg (by simp[hf])];exact b e hi hn
  | true =>
   rw[List.filter_cons_of_pos (by simp[hf]),List.foldl_cons];show L.foldl _ (e.ready i k)=_;have a:=DQ e i k hi;rw[b (e.ready i k) (by rw[Io];exact hi) (by rw[a,Zal];exact hn)]
   congr 1
   refine List.filter_congr (fun j c=> ?_);rw[a];exact Qd (by omega) (EO hf) (fun e=>by subst e;exact hd.1 c)
theorem JF (e:Ab)(i:Nat)(hi:i<e.runs.length):e.Bl i=((List.range (e.at_ i).steps.length).filter (fun k=>(e.at_ i).free k)).foldl (fun e k=>e.ready i k) e :=
 Ml i _ _ List.nodup_range (fun _ h=>List.mem_range.1 h) e hi rfl
def JC (s:AM):AM:={ s with st:=7 }
inductive Es:Ag->Ag->Prop
 | refl (r:Ag):Es r r
 | step (r r2:Ag) (k:Nat):k<r.steps.length->r.lost k=true->Es (r.Af k JC) r2->Es r r2
def Shut (r:Ag):Prop:=∀k,k<r.steps.length->r.lost k=false
theorem Es.trans {a b c:Ag}(h:Es a b)(g:Es b c):Es a c:=by
 induction h with
 | refl=>exact g
 | step r r2 k d e _ f=>exact .step r c k d e (f g)
theorem Es.len {a b:Ag}(h:Es a b):b.steps.length=a.steps.length:=by
 induction h with
 | refl=>rfl
 | step r r2 k _ _ _ c=>rw[c,Zal]
structure PA (a b:Ag):Prop where
 one:{ b with steps:=a.steps }=a
 len:b.steps.length=a.steps.length
 at_:∀k,k<a.steps.length->b.at_ k=a.at_ k\/((a.at_ k).st=1/\b.at_ k=JC (a.at_ k))
theorem PA.fl {a b:Ag}(h:PA a b):b.fl=a.fl:=by rw[<-h.one]
theorem PA.out {a b:Ag}(h:PA a b)(c:¬k<a.steps.length):b.at_ k=a.at_ k:=by
 unfold Ag.at_;rw[List.getD_eq_getElem?_getD,List.getD_eq_getElem?_getD,List.getElem?_eq_none (by have:=h.len;omega),List.getElem?_eq_none (by omega)]
theorem PA.refl (a:Ag):PA a a:=⟨rfl,rfl,fun _ _=>Or.inl rfl⟩
theorem EV {r:Ag}(h:r.lost k=true):(r.at_ k).st=1:=by
 unfold Ag.lost at h;simp only[Bool.and_eq_true,beq_iff_eq] at h;exact h.1
theorem PA.Zd {a b:Ag}(h:PA a b)(p:Shut b)(f:k<a.steps.length)(hl:a.lost k=true):PA (a.Af k JC) b:=by
 have o:b.at_ k=JC (a.at_ k):=by
  rcases h.at_ k f with e | e
  ·exfalso
   have hn:=p k (by rw[h.len];exact f)
   have:b.lost k=true:=by
    unfold Ag.lost at hl ⊢;rw[e,h.fl];simp only[Bool.and_eq_true,List.any_eq_true] at hl ⊢;obtain⟨m,x,n,c⟩:=hl;refine⟨m,x,n,?_⟩;by_cases i:(a.fl.af k x).toNat<a.steps.length
    ·rcases h.at_ _ i with d | ⟨d,_⟩
     ·rw[d];exact c
     ·rw[d] at c;simp at c
    ·rw[h.out i];exact c
   rw[hn] at this
   cases this
  ·exact e.2
 refine⟨?_,by rw[Zal];exact h.len,fun j g=> ?_⟩
 ·have:=h.one
  cases a;cases b
  simp[Ag.Af] at this ⊢;exact this
 ·rw[Zal] at g
  by_cases e:k=j
  ·subst e;rw[Zbb a _ f];exact Or.inl o
  ·rw[Zbh a _ e];exact h.at_ j g
theorem Es.le {a b c:Ag}(h:Es a c)(g:PA a b)(f:Shut b):PA c b:=by
 induction h with
 | refl=>exact g
 | step r r2 k d e _ i=>exact i (g.Zd f d e)
theorem Es.leS {a b:Ag}(h:Es a b):PA a b:=by
 induction h with
 | refl=>exact .refl _
 | step r r2 k f g _ d =>
  refine⟨?_,by rw[d.len,Zal],fun j m=> ?_⟩
  ·have:=d.one
   cases r;cases r2
   simp[Ag.Af] at this ⊢;exact this
  ·have:=d.at_ j (by rw[Zal];exact m)
   by_cases e:k=j
   ·subst e
    rw[Zbb r _ f] at this;have i:=EV g;rcases this with c | ⟨c,_⟩
    ·exact Or.inr ⟨i,c⟩
    ·simp[JC] at c
   ·rw[Zbh r _ e] at this;exact this
theorem PA.eq {a b:Ag}(h:PA a b)(g:PA b a):a=b:=by
 have n:a.steps=b.steps:=by
  apply List.ext_getElem (by rw[h.len])
  intro k c f;have j:a.at_ k=a.steps[k]:=by unfold Ag.at_;rw[List.getD_eq_getElem?_getD,List.getElem?_eq_getElem c];rfl
  have m:b.at_ k=b.steps[k]:=by unfold Ag.at_;rw[List.getD_eq_getElem?_getD,List.getElem?_eq_getElem f];rfl
  rw[<-j,<-m];rcases h.at_ k c with e | ⟨o,i⟩
  ·exact e.symm
  ·rcases g.at_ k f with e | ⟨d,_⟩
   ·exact e
   ·rw[i] at d;simp[JC] at d
 have c:=h.one;rw[n] at c;exact c.symm
theorem Es.uniq {r a b:Ag}(h:Es r a)(g:Es r b)(c:Shut a)(d:Shut b):a=b :=
 (h.le g.leS d).eq (g.le h.leS c)
def Ag.wait (r:Ag):Nat:=r.steps.countP (fun s=>s.st == 1)
theorem FL {p:AM->Bool}{f:AM->AM}:∀(l:List AM) (k:Nat),k<l.length->p (l.getD k .z)=true->p (f (l.getD k .z))=false->(l.modify k f).countP p+1=l.countP p
 | [],k,h,_,_=>by simp at h
 | s::l,0,_,h1,h2=>by
  simp only[List.getD_cons_zero] at h1 h2;rw[List.modify_zero_cons,List.countP_cons_of_neg (by simp[h2]),List.countP_cons_of_pos (by simp[h1])]
 | s::l,k+1,h,h1,h2=>by
  simp only[List.getD_cons_succ] at h1 h2;have:=FL l k (by simpa using h) h1 h2;rw[List.modify_succ_cons,List.countP_cons,List.countP_cons];omega
theorem Iv {r:Ag}(a:k<r.steps.length)(hl:r.lost k=true):(r.Af k JC).wait+1=r.wait:=by
 have h:=EV hl;exact FL (p:=fun s=>s.st == 1) (f:=JC) r.steps k a (by show (r.at_ k).st == 1;rw[h];rfl) rfl
theorem Es.ZY {a b:Ag}(h:Es a b):b.wait<=a.wait:=by
 induction h with
 | refl=>exact Nat.le_refl _
 | step r r2 k c d _ e=>have:=Iv c d;omega
theorem Gq:∀(L:List Nat) (r:Ag),(∀k∈L,k<r.steps.length) ->
  Es r (L.foldl (fun r k=>if r.lost k then r.Af k JC else r) r)/\((∀k∈L,r.lost k=false)\/(L.foldl (fun r k=>if r.lost k then r.Af k JC else r) r).wait<r.wait)
 | [],r,_=>⟨.refl _,Or.inl (fun k h=>by cases h)⟩
 | k::L,r,hl=>by
  have c:=hl k (List.mem_cons_self ..);rw[List.foldl_cons]
  cases hf:r.lost k with
  | false =>
   obtain⟨b,a⟩:=Gq L r (fun k h=>hl k (List.mem_cons_of_mem _ h));refine⟨b,?_⟩;rcases a with a | a
   ·exact Or.inl (fun j d=>by
     rcases List.mem_cons.1 d with e | e
     ·subst e;exact hf
     ·exact a j e)
   ·exact Or.inr a
  | true =>
   obtain⟨b,_⟩:=Gq L (r.Af k JC) (fun k h=>by rw[Zal];exact hl k (List.mem_cons_of_mem _ h));have hw:=Iv c hf;have:=b.ZY;refine⟨.step r _ k c hf b,Or.inr ?_⟩;show (L.foldl _ (r.Af k JC)).wait<r.wait;omega
theorem Ns (r:Ag):r.Cm=(List.range r.steps.length).foldl (fun r k=>if r.lost k then r.Af k JC else r) r:=rfl
theorem WN (r:Ag):Es r r.Cm/\(Shut r\/r.Cm.wait<r.wait):=by
 obtain⟨a,b⟩:=Gq (List.range r.steps.length) r (fun k h=>List.mem_range.1 h);rw[<-Ns] at a b;refine⟨a,b.imp (fun h k c=>h k (List.mem_range.2 c)) id⟩
theorem Mh {r a:Ag}(h:Shut r)(g:Es r a):a=r:=by
 cases g with
 | refl=>rfl
 | step _ _ k c b _=>rw[h k c] at b;cases b
theorem KN:∀(m:Nat) (r:Ag),Es r (Ag.BO m r)/\(Shut (Ag.BO m r)\/(Ag.BO m r).wait+m<=r.wait)
 | 0,r=>⟨.refl r,Or.inr (Nat.le_refl _)⟩
 | m+1,r=>by
  obtain⟨b,a⟩:=WN r;obtain⟨g1,g2⟩:=KN m r.Cm;refine⟨b.trans g1,?_⟩;rcases a with a | a
  ·have e:r.Cm=r:=Mh a b
   left
   show Shut (Ag.BO m r.Cm);rw[e]
   have:Ag.BO m r=r:=by
    have:=(KN m r).1;exact Mh a this
   rw[this];exact a
  ·rcases g2 with g2 | g2
   ·exact Or.inl g2
   ·right
    show (Ag.BO m r.Cm).wait+(m+1)<=r.wait;omega
theorem Rc (r:Ag):r.wait<=r.steps.length:=List.countP_le_length
theorem Ua {r:Ag}(h:r.wait=0):Shut r:=fun k a=>by
 cases e:r.lost k with
 | false=>rfl
 | true =>
  have b:=Iv a e;omega
theorem Zeb (r:Ag):Es r (Ag.BO r.steps.length r)/\Shut (Ag.BO r.steps.length r):=by
 obtain⟨b,a⟩:=KN r.steps.length r;refine⟨b,?_⟩;rcases a with a | a
 ·exact a
 ·have:=Rc r
  exact Ua (by omega)
def Ab.kindOf (e:Ab)(d:CH):Int :=
 match d.k with
 | none=>0
 | some k=>if d.sign then 2 else if ((e.at_ d.i).at_ k).st=4 then 3 else 1
def EW:Option Nat->Int
 | none=> -1
 | some k=>k
def Ab.DU (e:Ab)(d:CH):Tm:=⟨Bb (e.at_ d.i).id (EW d.k) (e.kindOf d),d.tm,d.sq⟩
structure Be (e:Ab)(l:List Tm):Prop where
 rising:Bn l
 all:∀d∈e.AR,e.DU d∈l
 mem:∀t∈l,∃d∈e.AR,t=e.DU d
theorem Eb (h:Cv l k=none):k=0:=by
 cases k with
 | zero=>rfl
 | succ k =>
  unfold Cv at h
  cases e:Cv l k with
  | none=>rw[e] at h;cases h
  | some b=>rw[e] at h;simp only at h;split at h<;>cases h
theorem Gb :∀{k b:Nat},Cv l k=some b->b<k/\∀j,j<k->¬(l.getD j .z).lt (l.getD b .z):=by
 intro k
 induction k with
 | zero=>intro b h;cases h
 | succ k i =>
  intro b h;unfold Cv at h
  cases e:Cv l k with
  | none =>
   rw[e] at h;obtain rfl:k=b:=by simpa using h
   have:=Eb e;subst this;refine⟨by omega,fun j g=> ?_⟩;obtain rfl:j=0:=by omega
   unfold CH.lt;omega
  | some c =>
   rw[e] at h;obtain⟨m,f⟩:=i e;by_cases a:(l.getD k .z).lt (l.getD c .z)
   ·simp only[if_pos a,Option.some.injEq] at h
    subst h;refine⟨by omega,fun j g=> ?_⟩;by_cases d:j=k
    ·subst d;unfold CH.lt;omega
    ·have:=f j (by omega)
     unfold CH.lt at this a ⊢;omega
   ·simp only[if_neg a,Option.some.injEq] at h
    subst h;refine⟨by omega,fun j g=> ?_⟩;by_cases d:j=k
    ·subst d;exact a
    ·exact f j (by omega)
theorem Zbw {α:Type}{z:α}{l:List α}{i:Nat}(h:i<l.length):l.getD i z∈l:=by
 rw[List.getD_eq_getElem?_getD,List.getElem?_eq_getElem h];exact List.getElem_mem h
theorem Zb6 {α:Type}{z:α}{l:List α}{t:α}(h:t∈l):∃i,i<l.length/\l.getD i z=t:=by
 obtain⟨i,hi,e⟩:=List.getElem_of_mem h;exact⟨i,hi,by rw[List.getD_eq_getElem?_getD,List.getElem?_eq_getElem hi];exact e⟩
theorem Be.best {e:Ab}{l:List Tm}(h:Be e l){b:Nat}(r:EJ l l.length=some b):∃c,Cv e.AR e.AR.length=some c/\e.DU (e.AR.getD c .z)=l.getD b .z:=by
 obtain⟨o,p,q⟩:=JH r;obtain⟨d,s,i⟩:=h.mem _ (Zbw (z:=Tm.z) o);obtain⟨x,t,ex⟩:=Zb6 (z:=CH.z) s
 cases m:Cv e.AR e.AR.length with
 | none=>have:=Eb m;omega
 | some c =>
  obtain⟨c1,c2⟩:=Gb m;obtain⟨j,n,a⟩:=Zb6 (z:=Tm.z) (h.all _ (Zbw (z:=CH.z) c1));have q1:=c2 x t;rw[ex] at q1;have A:=p j n;have u:(l.getD b .z).tm=d.tm:=by rw[i];rfl
  have v:(l.getD b .z).sq=d.sq:=by rw[i];rfl
  have w:(l.getD j .z).tm=(e.AR.getD c .z).tm:=by rw[a];rfl
  have y:(l.getD j .z).sq=(e.AR.getD c .z).sq:=by rw[a];rfl
  have f:j=b:=by
   rcases Nat.lt_trichotomy j b with g | g | g
   ·have:=q j g
    unfold CH.lt at q1;omega
   ·exact g
   ·have:=h.rising b j g n
    unfold CH.lt at q1;omega
  exact⟨c,rfl,by rw[<-a,f]⟩
theorem Be.none {e:Ab}{l:List Tm}(h:Be e l)(a:EJ l l.length=none):Cv e.AR e.AR.length=none:=by
 have d:=Ga a
 cases b:Cv e.AR e.AR.length with
 | none=>rfl
 | some c =>
  obtain⟨j,f,_⟩:=Zb6 (z:=Tm.z) (h.all _ (Zbw (z:=CH.z) (Gb b).1));omega
theorem work_at {r:Ag}{tok:Int}(b:k<r.steps.length)(h:(r.at_ k).st=3/\(r.at_ k).tok=tok)(hn:∀j,j<k->¬((r.at_ j).st=3/\(r.at_ j).tok=tok)):r.work tok=some k:=by
 unfold Ag.work;rw[List.findIdx?_eq_some_iff_getElem];have e:∀j (a:j<r.steps.length),r.at_ j=r.steps[j]:=fun j a=>by unfold Ag.at_;rw[List.getD_eq_getElem?_getD,List.getElem?_eq_getElem a];rfl
 refine⟨b,by rw[<-e k b];simpa using h,fun j a=> ?_⟩;rw[<-e j (by omega)];simpa using hn j a
theorem Si {r:Ag}{tok:Int}(hn:∀j,j<r.steps.length->¬((r.at_ j).st=3/\(r.at_ j).tok=tok)):r.work tok=none:=by
 unfold Ag.work;rw[List.findIdx?_eq_none_iff];intro x b;obtain⟨j,a,e⟩:=Zb6 (z:=AM.z) b;have:=hn j a;unfold Ag.at_ at this;rw[e] at this;simpa using this
theorem ZR {e:Ab}{tok:Int}{i:Nat}(hi:i<e.runs.length)(hw:(e.at_ i).work tok=some k)(hn:∀j,j<i->(e.at_ j).work tok=none):e.task tok=some (i,k):=by
 have b:∀j (a:j<e.runs.length),e.at_ j=e.runs[j]:=fun j a=>by unfold Ab.at_;rw[List.getD_eq_getElem?_getD,List.getElem?_eq_getElem a];rfl
 have h:e.runs.findIdx? (fun r=>(r.work tok).isSome)=some i:=by
  rw[List.findIdx?_eq_some_iff_getElem];refine⟨hi,by rw[<-b i hi,hw];rfl,fun j a=> ?_⟩;rw[<-b j (by omega),hn j a];simp
 unfold Ab.task;rw[h];show ((e.at_ i).work tok).bind _=_;rw[hw];rfl
theorem ZS {e:Ab}{tok:Int}(hn:∀j,j<e.runs.length->(e.at_ j).work tok=none):e.task tok=none:=by
 have h:e.runs.findIdx? (fun r=>(r.work tok).isSome)=none:=by
  rw[List.findIdx?_eq_none_iff];intro x c;obtain⟨j,b,a⟩:=Zb6 (z:=Ag.z) c;have:=hn j b;unfold Ab.at_ at this;rw[<-a,this];rfl
 unfold Ab.task;rw[h];rfl
open Go
theorem Ii {a:Assume}{C:Checked}{os:Os}{f:FuncId}{r:Reach}{c:World->Array Value->Prop}{b:World->Array Value->Value->World->Prop}(h:ReturnsInHanded a C os f r c b):ReturnsInLeavingWide a C os f r c b:=fun enter=>by
 obtain⟨g0,g1,g2,g3,all⟩:=h enter;refine⟨g0,g1,g2,g3,fun w tape i hf=> ?_⟩;obtain⟨n,v,w',hn,m,p,hp,⟨j,last,o,q,d,hh,he⟩,e⟩:=all w tape i hf;refine⟨n,v,w',hn,m,p,hp,⟨j,last,o,q,hh,⟨fun g hg=>⟨0,?_⟩,d.2⟩,he⟩,e⟩;exact beq_iff_eq.1 (List.all_eq_true.1 d.1 g hg)
theorem TU (e:Looks){p:Pinned}{s:OpenSpec}{c:OpenClaim}(kinds:List LaidKind)(a:Bool)(b:Bool×String)(d:Bool)
  (hc:c.holds p s) (hw:c.wfByText s=true) (htie:c.laidByTextAt e p kinds a)
  (hst:c.start= .entering) (hnb:c.noBlocks=false/\c.again=false) (hm:p.checked.prog.mainIs=some (b.1,b.2.toList)) (hn:(!b.1&&b.2.isEmpty&& !d)=false)
  (hl:∀f fn,p.checked.prog.funcNamed c.func=some f->p.checked.prog.funcs[f]? =some fn->d=p.checked.prog.looks []/\∀(j:Nat) t,fn.params[j]? =some t->p.checked.prog.wantsStandIn t=false)
  (hg:true=c.goesBy p.checked.prog) :
  Claim7.holds p (.plain s) { stood:={ row:=c,standIns:=[],harness:=b,looks:=d },kinds:=[],alts:=[],goes:=true,laidByText:=true,laidKinds:=kinds,laidTests:=a,laidLooks:=e }:=by
 have g:Claim7.isSixth { stood:={ row:=c,standIns:=[],harness:=b,looks:=d },kinds:=[] }=false:=by simpa[Claim7.isSixth] using hn
 exact⟨Claim7.tied_new_at e kinds a (Claim7.new_of_sixth hc b d hst hnb hm g hl) hw,fun D i=>(by cases i),htie,(fun h=>by cases h),hg⟩
end Go.Proofs.YtgdcjccbdmcebaaGreatDoor
