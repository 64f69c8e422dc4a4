import Init
set_option linter.unusedSimpArgs false
set_option linter.unusedVariables false
namespace Go.Proofs.YtgdcjccbdmcebaaGreatDoor
variable {n k b t m:Nat}{id:Int}
structure Tm where
 id:Int
 tm:Int
 sq:Int
def Tm.z:Tm:=⟨0,0,0⟩
def EJ (l:List Tm):Nat->Option Nat
 | 0=>none
 | k+1=>match EJ l k with
  | none=>some k
  | some b=>if (l.getD k .z).tm<(l.getD b .z).tm then some k else some b
theorem Ga {l:List Tm}(h:EJ l k=none):k=0:=by
 cases k with
 | zero=>rfl
 | succ k =>
  simp only[EJ] at h
  split at h
  ·cases h
  ·split at h<;>cases h
theorem JH {l:List Tm}:∀{k b:Nat},EJ l k=some b->b<k/\(∀j,j<k->(l.getD b .z).tm<=(l.getD j .z).tm)/\∀j,j<b->(l.getD b .z).tm<(l.getD j .z).tm:=by
 intro k
 induction k with
 | zero=>intro b h;cases h
 | succ k o =>
  intro b h;simp only[EJ] at h
  cases d:EJ l k with
  | none =>
   rw[d] at h;simp only[Option.some.injEq] at h;subst h;have:=Ga d;subst this
   exact⟨by omega,fun j a=>by obtain rfl:j=0:=by omega
                              exact Int.le_refl _,fun j a=>by omega⟩
  | some g =>
   rw[d] at h;obtain⟨p,f,i⟩:=o d;simp only at h;by_cases c:(l.getD k .z).tm<(l.getD g .z).tm
   ·rw[if_pos c] at h
    simp only[Option.some.injEq] at h;subst h;refine⟨by omega,fun j a=> ?_,fun j a=> ?_⟩
    ·by_cases e:j=k
     ·subst e;exact Int.le_refl _
     ·have:=f j (by omega);omega
    ·have:=f j a;omega
   ·rw[if_neg c] at h
    simp only[Option.some.injEq] at h;subst h;refine⟨by omega,fun j a=> ?_,i⟩;by_cases e:j=k
    ·subst e;omega
    ·exact f j (by omega)
def Bn (l:List Tm):Prop:=∀i j,i<j->j<l.length->(l.getD i .z).sq<(l.getD j .z).sq
def CC (l:List Tm)(id:Int)(k:Nat):Prop:=∃j,j<k/\(l.getD j .z).id=id
def Za2 (now tm:Int):Int:=if tm<=now then (if now+1 > 4611686018427387904 then 4611686018427387904 else now+1) else if tm > 4611686018427387904 then 4611686018427387904 else tm
def Uo (l:List Tm)(now sq id tm:Int)(x:Int)(l':List Tm)(sq':Int):Prop :=
 (CC l id l.length/\x=8/\l'=l/\sq'=sq) \/
 (¬CC l id l.length/\l.length=200/\x=5/\l'=l/\sq'=sq) \/
 (¬CC l id l.length/\l.length≠200/\x=0/\l'=l++[⟨id,Za2 now tm,sq+1⟩]/\sq'=sq+1)
def Cb (l:List Tm)(id:Int)(x:Int)(l':List Tm):Prop :=
 (∃i,i<l.length/\(l.getD i .z).id=id/\(∀j,j<i->(l.getD j .z).id≠id)/\x=0/\l'=l.take i++l.drop (i+1)) \/
 (¬CC l id l.length/\x=8/\l'=l)
def Bj (l:List Tm):Prop:=∀i j,i<j->j<l.length->(l.getD i .z).id≠(l.getD j .z).id
theorem Zc8 (l:List Tm)(b i:Nat)(a:b<l.length):(l.take b++l.drop (b+1)).getD i .z=l.getD (if i<b then i else i+1) .z:=by
 rw[List.getD_eq_getElem?_getD,List.getD_eq_getElem?_getD]
 congr 1
 by_cases h:i<b
 ·rw[if_pos h,List.getElem?_append_left (by rw[List.length_take];omega),List.getElem?_take_of_lt h]
 ·rw[if_neg h,List.getElem?_append_right (by rw[List.length_take];omega),List.getElem?_drop,List.length_take]
  congr 1
  omega
theorem Zcl (l:List Tm)(b:Nat)(a:b<l.length):(l.take b++l.drop (b+1)).length+1=l.length:=by
 rw[List.length_append,List.length_take,List.length_drop];omega
theorem Bn.cut {l:List Tm}(h:Bn l)(a:b<l.length):Bn (l.take b++l.drop (b+1)):=by
 intro i j e f;have hl:=Zcl l b a;rw[Zc8 l b i a,Zc8 l b j a];by_cases c:i<b<;>by_cases d:j<b<;>simp only[c,d,if_true,if_false]<;>exact h _ _ (by omega) (by omega)
theorem Bj.cut {l:List Tm}(h:Bj l)(a:b<l.length):Bj (l.take b++l.drop (b+1)):=by
 intro i j e f;have hl:=Zcl l b a;rw[Zc8 l b i a,Zc8 l b j a];by_cases c:i<b<;>by_cases d:j<b<;>simp only[c,d,if_true,if_false]<;>exact h _ _ (by omega) (by omega)
def bl (x:Nat):Nat:=if x=0 then 0 else Nat.log2 x+1
theorem Rs (x k:Nat):bl x<=k↔x<2 ^ k:=by
 unfold bl
 split
 ·rename_i h;subst h;exact⟨fun _=>Nat.two_pow_pos _,fun _=>Nat.zero_le _⟩
 ·rename_i h;exact Nat.log2_lt h
def CD (n t:Nat):Nat:=(bl (t ^^^ n) - 1) / 6
def slt (L t:Nat):Nat:=t / 2 ^ (6 * L) % 64
def pl (n t:Nat):Nat:=CD n t * 64+slt (CD n t) t
theorem xor_zero {a:Nat}(h:a ^^^ b=0):a=b:=by
 have c:(a ^^^ b) ^^^ b=0 ^^^ b:=by rw[h]
 rwa[Nat.xor_assoc,Nat.xor_self,Nat.xor_zero,Nat.zero_xor] at c
theorem xor_div (a b k:Nat):(a ^^^ b)<2 ^ k↔a / 2 ^ k=b / 2 ^ k:=by
 have e:(a ^^^ b) / 2 ^ k=(a / 2 ^ k) ^^^ (b / 2 ^ k):=by
  rw[<-Nat.shiftRight_eq_div_pow,<-Nat.shiftRight_eq_div_pow,<-Nat.shiftRight_eq_div_pow,Nat.shiftRight_xor_distrib]
 constructor
 ·intro h
  have:(a ^^^ b) / 2 ^ k=0:=Nat.div_eq_of_lt h;rw[e] at this;exact xor_zero this
 ·intro h
  have d:(a ^^^ b) / 2 ^ k=0:=by rw[e,h,Nat.xor_self]
  rcases Nat.lt_or_ge (a ^^^ b) (2 ^ k) with c | c
  ·exact c
  ·have:=Nat.div_pos c (Nat.two_pow_pos k);omega
theorem Zdx (n t L:Nat):CD n t<=L↔t / 2 ^ (6 * (L+1))=n / 2 ^ (6 * (L+1)):=by
 rw[<-xor_div,<-Rs];unfold CD;omega
theorem Zea (L t:Nat):slt L t<64:=Nat.mod_lt _ (by decide)
theorem Fc (n t:Nat):pl n t / 64=CD n t:=by unfold pl;have:=Zea (CD n t) t;omega
theorem Ng (n t:Nat):pl n t % 64=slt (CD n t) t:=by unfold pl;have:=Zea (CD n t) t;omega
theorem Fq (n t:Nat)(hn:n<=4611686018427387904)(a:t<=4611686018427387904):CD n t<=10:=by
 rw[Zdx,Nat.div_eq_of_lt (by omega),Nat.div_eq_of_lt (by omega)]
theorem Wy (n t:Nat)(hn:n<=4611686018427387904)(a:t<=4611686018427387904):pl n t<704:=by
 unfold pl;have:=Zea (CD n t) t;have:=Fq n t hn a;omega
def start (n k:Nat):Nat:=n / 2 ^ (6 * (k / 64+1)) * 2 ^ (6 * (k / 64+1))+k % 64 * 2 ^ (6 * (k / 64))
theorem Ky (L:Nat):2 ^ (6 * (L+1))=64 * 2 ^ (6 * L):=by rw[Nat.mul_add,Nat.pow_add];omega
theorem Oa (t L:Nat):t / 2 ^ (6 * (L+1))=t / 2 ^ (6 * L) / 64:=by rw[Ky,Nat.mul_comm,Nat.div_div_eq_div_mul]
theorem UO {a i j:Nat}(h:i<=j)(e:a / 2 ^ (6 * i)=b / 2 ^ (6 * i)):a / 2 ^ (6 * j)=b / 2 ^ (6 * j):=by
 obtain⟨d,rfl⟩:∃d,j=i+d:=⟨j - i,by omega⟩;rw[Nat.mul_add,Nat.pow_add,<-Nat.div_div_eq_div_mul,<-Nat.div_div_eq_div_mul,e]
theorem start_eq (n k:Nat):start n k=(n / 2 ^ (6 * (k / 64+1)) * 64+k % 64) * 2 ^ (6 * (k / 64)):=by
 unfold start;rw[Ky,Nat.add_mul,Nat.mul_assoc _ 64]
theorem Zb3 (n k:Nat):start n k / 2 ^ (6 * (k / 64))=n / 2 ^ (6 * (k / 64+1)) * 64+k % 64:=by
 rw[start_eq,Nat.mul_div_cancel _ (Nat.two_pow_pos _)]
theorem Jd (n k:Nat):start n k / 2 ^ (6 * (k / 64+1))=n / 2 ^ (6 * (k / 64+1)):=by
 rw[Oa,Zb3];have:=Nat.mod_lt k (show 0<64 by decide);omega
theorem Hz (t L:Nat):t / 2 ^ (6 * L)=t / 2 ^ (6 * (L+1)) * 64+slt L t:=by
 rw[Oa];unfold slt;omega
theorem DD (h:pl n t=k):t / 2 ^ (6 * (k / 64))=n / 2 ^ (6 * (k / 64+1)) * 64+k % 64:=by
 subst h;rw[Fc,Ng,Hz,(Zdx n t (CD n t)).1 (Nat.le_refl _)]
theorem Jw {L:Nat}(h:L<CD n t):t / 2 ^ (6 * (L+1))≠n / 2 ^ (6 * (L+1)):=fun e=>by
 have:=(Zdx n t L).2 e;omega
theorem KO (hn:n<=t)(f:k<=pl n t):start n k<=t:=by
 have d:k / 64<=CD n t:=by rw[<-Fc];omega
 suffices h:n / 2 ^ (6 * (k / 64+1)) * 64+k % 64<=t / 2 ^ (6 * (k / 64)) by
  rw[start_eq];exact (Nat.le_div_iff_mul_le (Nat.two_pow_pos _)).1 h
 rw[Hz t (k / 64)];by_cases e:CD n t=k / 64
 ·have a:=Ng n t
  rw[(Zdx n t (k / 64)).1 (by omega),<-e,<-a,e];have c:=Fc n t;omega
 ·have a:=Jw (n:=n) (t:=t) (L:=k / 64) (by omega)
  have c:n / 2 ^ (6 * (k / 64+1))<=t / 2 ^ (6 * (k / 64+1)):=Nat.div_le_div_right hn;omega
theorem VE (hn:n<=t)(d:pl n t=k):n<=start n k:=by
 by_cases e:k / 64=0
 ·have a:=DD d
  have c:=Zb3 n k;rw[e] at a c;simp at a c;omega
 ·have a:=Jw (n:=n) (t:=t) (L:=k / 64 - 1) (by rw[<-d,Fc] at *;omega)
  rw[show k / 64 - 1+1=k / 64 by omega] at a;have c:n / 2 ^ (6 * (k / 64))<=t / 2 ^ (6 * (k / 64)):=Nat.div_le_div_right hn;have f:n / 2 ^ (6 * (k / 64))<start n k / 2 ^ (6 * (k / 64)):=by rw[Zb3,<-DD d];omega
  exact Nat.le_of_lt (Nat.lt_of_div_lt_div f)
theorem Mi (d:pl n t=k)(e:k<64):start n k=t:=by
 have a:=DD d;have c:=Zb3 n k;rw[show k / 64=0 by omega] at a c;simp at a c;omega
theorem TC (c:k<64)(h:start n k=t):pl n t=k:=by
 have a:=Zb3 n k;rw[show k / 64=0 by omega] at a;simp at a
 have hl:CD n t=0:=by
  have:CD n t<=0:=by rw[Zdx];simp;omega
  omega
 unfold pl;rw[hl];unfold slt;simp;omega
theorem Hb (d:pl n t=k)(e:64<=k):pl (start n k) t<64 * (k / 64):=by
 have a:=DD d;have c:=Zb3 n k
 have f:CD (start n k) t<=k / 64 - 1:=by
  rw[Zdx,show k / 64 - 1+1=k / 64 by omega,a,c]
 have g:=Zea (CD (start n k) t) t;unfold pl;omega
theorem GU {L:Nat}(hn:L<=CD n t)(c:∀j,L<=j->m / 2 ^ (6 * (j+1))=n / 2 ^ (6 * (j+1)))(hl:L=0\/t / 2 ^ (6 * L)≠m / 2 ^ (6 * L)):CD m t=CD n t:=by
 have a1:L<=CD m t:=by
  rcases hl with h | h
  ·omega
  ·rcases Nat.lt_or_ge (CD m t) L with a | a
   ·exfalso
    apply h
    have d:=(Zdx m t (L - 1)).1 (by omega)
    rwa[show L - 1+1=L by omega] at d
   ·exact a
 apply Nat.le_antisymm
 ·rw[Zdx,c _ hn];exact (Zdx n t _).1 (Nat.le_refl _)
 ·rw[Zdx,<-c _ a1];exact (Zdx m t _).1 (Nat.le_refl _)
theorem Hc (l:k<pl n t):pl (start n k) t=pl n t:=by
 have c:k / 64<=CD n t:=by rw[<-Fc];omega
 have d:∀j,k / 64<=j->start n k / 2 ^ (6 * (j+1))=n / 2 ^ (6 * (j+1)):=fun j i=>UO (by omega) (Jd n k)
 have e:CD (start n k) t=CD n t:=by
  by_cases f:CD n t=k / 64
  ·refine GU c d (Or.inr ?_)
   rw[Zb3,Hz t (k / 64),(Zdx n t (k / 64)).1 (by omega)];have a:=Ng n t;rw[f] at a;have g:=Fc n t;omega
  ·refine GU c d (Or.inr ?_)
   rw[Zb3];have a:=Jw (n:=n) (t:=t) (L:=k / 64) (by omega);have g:=Hz t (k / 64);have h:=Zea (k / 64) t;have:=Nat.mod_lt k (show 0<64 by decide);omega
 unfold pl;rw[e]
theorem Zp (i:n<=m)(c:m<start n k)(r:k<=pl n t):pl m t=pl n t:=by
 have o:k / 64<=CD n t:=by rw[<-Fc];omega
 have hm:m / 2 ^ (6 * (k / 64+1))=n / 2 ^ (6 * (k / 64+1)):=by
  have a1:n / 2 ^ (6 * (k / 64+1))<=m / 2 ^ (6 * (k / 64+1)):=Nat.div_le_div_right i;have a2:m / 2 ^ (6 * (k / 64+1))<=start n k / 2 ^ (6 * (k / 64+1)):=Nat.div_le_div_right (Nat.le_of_lt c);rw[Jd] at a2;omega
 have a:∀j,k / 64<=j->m / 2 ^ (6 * (j+1))=n / 2 ^ (6 * (j+1)):=fun j q=>UO (by omega) hm
 have e:CD m t=CD n t:=by
  by_cases h:k / 64=0
  ·exact GU (L:=0) (Nat.zero_le _) (by rw[h] at a;exact a) (Or.inl rfl)
  ·refine GU o a (Or.inr ?_)
   have f:m / 2 ^ (6 * (k / 64))<start n k / 2 ^ (6 * (k / 64)):=by
    rw[Nat.div_lt_iff_lt_mul (Nat.two_pow_pos _),Zb3,<-start_eq];exact c
   rw[Zb3] at f;have g:=Hz t (k / 64);by_cases l:CD n t=k / 64
   ·have d:=Ng n t
    rw[l] at d;have p:=Fc n t;rw[(Zdx n t (k / 64)).1 (by omega)] at g;omega
   ·have d:=Jw (n:=n) (t:=t) (L:=k / 64) (by omega)
    have c3:=Hz m (k / 64);rw[hm] at c3;have:=Zea (k / 64) t;have:=Zea (k / 64) m;omega
 unfold pl;rw[e]
def Zag (n:Nat)(l:List Tm)(k:Nat):List Int:=(l.filter (fun t=>pl n t.tm.toNat == k)).map (·.id)
def CR (n:Nat)(l:List Tm):Prop:=∀t∈l,(n:Int)<=t.tm/\t.tm<=4611686018427387904
def Fst (n:Nat)(l:List Tm)(k:Nat):Prop:=(∀j,j<k->Zag n l j=[])/\Zag n l k≠[]
theorem Zcd {l:List Tm}(h:b<l.length):l.getD b .z∈l:=by
 rw[List.getD_eq_getElem?_getD,List.getElem?_eq_getElem h];exact List.getElem_mem h
theorem Qy {l:List Tm}{t:Tm}(h:t∈l):∃i,i<l.length/\l.getD i .z=t:=by
 obtain⟨i,hi,rfl⟩:=List.mem_iff_getElem.1 h;exact⟨i,hi,by rw[List.getD_eq_getElem?_getD,List.getElem?_eq_getElem hi];rfl⟩
theorem HU {l:List Tm}(h:b<l.length):l=l.take b++l.getD b .z::l.drop (b+1):=by
 conv=>lhs;rw[<-List.take_append_drop b l]
 congr 1
 rw[List.getD_eq_getElem?_getD,List.getElem?_eq_getElem h];exact List.drop_eq_getElem_cons h
theorem Kw {l:List Tm}(h:Zag n l k=[]){t:Tm}(a:t∈l):pl n t.tm.toNat≠k:=by
 unfold Zag at h;rw[List.map_eq_nil_iff,List.filter_eq_nil_iff] at h;have:=h t a;simpa using this
theorem IZ (n:Nat)(l:List Tm)(t:Tm)(k:Nat):Zag n (l++[t]) k=if pl n t.tm.toNat=k then Zag n l k++[t.id] else Zag n l k:=by
 unfold Zag;rw[List.filter_append,List.map_append];by_cases h:pl n t.tm.toNat=k
 ·rw[if_pos h,List.filter_cons_of_pos (by simpa using h)];rfl
 ·rw[if_neg h,List.filter_cons_of_neg (by simpa using h)];simp
theorem Kv (n:Nat)(l:List Tm)(b k:Nat)(a:b<l.length)(h:pl n (l.getD b .z).tm.toNat≠k):Zag n (l.take b++l.drop (b+1)) k=Zag n l k:=by
 unfold Zag
 conv=>rhs;rw[HU a]
 rw[List.filter_append,List.filter_append,List.filter_cons_of_neg (by simpa using h)]
theorem QJ (n:Nat)(l:List Tm)(b:Nat)(d:b<l.length)(o:Bj l):∃i,i<(Zag n l (pl n (l.getD b .z).tm.toNat)).length/\(Zag n l (pl n (l.getD b .z).tm.toNat)).getD i 0=(l.getD b .z).id/\(∀j,j<i->(Zag n l (pl n (l.getD b .z).tm.toNat)).getD j 0≠(l.getD b .z).id)/\Zag n (l.take b++l.drop (b+1)) (pl n (l.getD b .z).tm.toNat)=(Zag n l (pl n (l.getD b .z).tm.toNat)).take i++(Zag n l (pl n (l.getD b .z).tm.toNat)).drop (i+1):=by
 generalize p:pl n (l.getD b .z).tm.toNat=k
 generalize e:l.getD b .z=x at *
 have f:Zag n l k=((l.take b).filter (fun t=>pl n t.tm.toNat == k)).map (·.id)++x.id::((l.drop (b+1)).filter (fun t=>pl n t.tm.toNat == k)).map (·.id):=by
  unfold Zag
  conv=>lhs;rw[HU d]
  rw[e,List.filter_append,List.filter_cons_of_pos (by simpa using p),List.map_append,List.map_cons]
 have g:Zag n (l.take b++l.drop (b+1)) k=((l.take b).filter (fun t=>pl n t.tm.toNat == k)).map (·.id)++((l.drop (b+1)).filter (fun t=>pl n t.tm.toNat == k)).map (·.id):=by
  unfold Zag;rw[List.filter_append,List.map_append]
 have h:∀y∈((l.take b).filter (fun t=>pl n t.tm.toNat == k)).map (·.id),y≠x.id:=by
  intro y r;obtain⟨t,q,rfl⟩:=List.mem_map.1 r;have c:=(List.mem_filter.1 q).1;obtain⟨i,hi,rfl⟩:=Qy c;rw[List.length_take] at hi
  have:(l.take b).getD i .z=l.getD i .z:=by
   rw[List.getD_eq_getElem?_getD,List.getD_eq_getElem?_getD,List.getElem?_take_of_lt (by omega)]
  rw[this,<-e];exact o i b (by omega) d
 rw[f,g]
 generalize ((l.take b).filter (fun t=>pl n t.tm.toNat == k)).map (·.id)=A at *
 generalize ((l.drop (b+1)).filter (fun t=>pl n t.tm.toNat == k)).map (·.id)=C at *
 refine⟨A.length,by simp,?_,fun j a=> ?_,?_⟩
 ·rw[List.getD_eq_getElem?_getD,List.getElem?_append_right (Nat.le_refl _)];simp
 ·rw[List.getD_eq_getElem?_getD,List.getElem?_append_left a]
  refine h _ ?_;rw[List.getElem?_eq_getElem a];exact List.getElem_mem a
 ·rw[List.take_left,List.drop_append]
  simp
theorem Ee {l:List Tm}(h:Fst n l k){t:Tm}(c:t∈l):k<=pl n t.tm.toNat:=by
 rcases Nat.lt_or_ge (pl n t.tm.toNat) k with a | a
 ·exact absurd rfl (Kw (h.1 _ a) c)
 ·exact a
theorem Ek {l:List Tm}(h:Zag n l k≠[]):∃b,b<l.length/\pl n (l.getD b .z).tm.toNat=k/\∀j,j<b->pl n (l.getD j .z).tm.toNat≠k:=by
 induction l with
 | nil=>exact absurd rfl h
 | cons t r g =>
  by_cases a:pl n t.tm.toNat=k
  ·exact⟨0,by simp,by simpa using a,fun j f=>by omega⟩
  ·have e:Zag n (t::r) k=Zag n r k:=by
    unfold Zag;rw[List.filter_cons_of_neg (by simpa using a)]
   rw[e] at h;obtain⟨b,i,c,d⟩:=g h;refine⟨b+1,by simp;omega,by simpa using c,fun j f=> ?_⟩
   cases j with
   | zero=>simpa using a
   | succ j=>have:=d j (by omega);simpa using this
theorem Yb {l:List Tm}(f:b<l.length)(a:∀j,j<l.length->(l.getD b .z).tm<=(l.getD j .z).tm)(d:∀j,j<b->(l.getD b .z).tm<(l.getD j .z).tm):EJ l l.length=some b:=by
 cases h:EJ l l.length with
 | none=>have:=Ga h;omega
 | some c =>
  obtain⟨c1,c2,c3⟩:=JH h;rcases Nat.lt_trichotomy b c with e | e | e
  ·have:=c3 b e;have:=a c c1;omega
  ·rw[e]
  ·have:=d c e;have:=c2 b f;omega
theorem YB {l:List Tm}(g:CR n l)(hf:Fst n l k)(o:k<64):∃b,b<l.length/\EJ l l.length=some b/\(l.getD b .z).tm=(start n k:Int)/\pl n (l.getD b .z).tm.toNat=k/\∃r,Zag n l k=(l.getD b .z).id::r/\Zag n (l.take b++l.drop (b+1)) k=r:=by
 obtain⟨b,c,f,p⟩:=Ek hf.2;have u:=Mi f o
 have q:(l.getD b .z).tm=(start n k:Int):=by
  have:=(g _ (Zcd c)).1;omega
 refine⟨b,c,Yb c (fun j d=> ?_) (fun j d=> ?_),q,f,?_⟩
 ·have a1:=Ee hf (Zcd d)
  have a2:=(g _ (Zcd d)).1;have a3:=KO (n:=n) (t:=(l.getD j .z).tm.toNat) (by omega) a1;omega
 ·have a:j<l.length:=by omega
  have a1:=Ee hf (Zcd a);have a2:=(g _ (Zcd a)).1;have a3:=KO (n:=n) (t:=(l.getD j .z).tm.toNat) (by omega) a1;have a4:=p j d;have a5:start n k≠(l.getD j .z).tm.toNat:=fun e=>a4 (TC o e);omega
 ·refine⟨((l.drop (b+1)).filter (fun t=>pl n t.tm.toNat == k)).map (·.id),?_,?_⟩
  all_goals
   have h:(l.take b).filter (fun t=>pl n t.tm.toNat == k)=[]:=by
    rw[List.filter_eq_nil_iff];intro t s;obtain⟨i,hi,rfl⟩:=Qy s;rw[List.length_take] at hi
    have:(l.take b).getD i .z=l.getD i .z:=by
     rw[List.getD_eq_getElem?_getD,List.getD_eq_getElem?_getD,List.getElem?_take_of_lt (by omega)]
    rw[this];have:=p i (by omega);simpa using this
   unfold Zag
  ·conv=>lhs;rw[HU c]
   rw[List.filter_append,h,List.filter_cons_of_pos (by simpa using f)]
   rfl
  ·rw[List.filter_append,h];rfl
theorem VK {l:List Tm}(hf:Fst n l k)(d:k<64){t:Tm}(f:t∈l):pl (start n k) t.tm.toNat=pl n t.tm.toNat:=by
 have a1:=Ee hf f;by_cases e:pl n t.tm.toNat=k
 ·rw[e,Mi e d]
  have a:=DD e;rw[show k / 64=0 by omega] at a;simp at a
  have c:CD t.tm.toNat t.tm.toNat=0:=by
   have:CD t.tm.toNat t.tm.toNat<=0:=by rw[Zdx]
   omega
  unfold pl;rw[c];unfold slt;simp;omega
 ·exact Hc (by omega)
theorem Hd {l:List Tm}(h:∀t∈l,pl m t.tm.toNat=pl n t.tm.toNat)(k:Nat):Zag m l k=Zag n l k:=by
 unfold Zag
 congr 1
 exact List.filter_congr (fun t a=>by rw[h t a])
theorem OB {l:List Tm}(hf:Fst n l k)(d:64<=k)(j:Nat):Zag (start n k) l j=(if j=k then [] else Zag n l j)++Zag (start n k) (l.filter (fun t=>pl n t.tm.toNat == k)) j:=by
 unfold Zag;rw[List.filter_filter];by_cases o:j<64 * (k / 64)
 ·rw[if_neg (by omega)]
  have c:=hf.1 j (by omega);unfold Zag at c;rw[c,List.nil_append]
  congr 1
  refine List.filter_congr (fun t a=> ?_);have a1:=Ee hf a;by_cases e:pl n t.tm.toNat=k
  ·simp[e]
  ·have a2:=Hc (n:=n) (t:=t.tm.toNat) (k:=k) (by omega)
   rw[a2];simp[e];omega
 ·have i:l.filter (fun t=>(pl (start n k) t.tm.toNat == j)&&(pl n t.tm.toNat == k))=[]:=by
   rw[List.filter_eq_nil_iff];intro t a;simp only[Bool.and_eq_true,beq_iff_eq,not_and];intro c e;have:=Hb e d;omega
  rw[i,List.map_nil,List.append_nil];by_cases f:j=k
  ·rw[if_pos f,List.map_eq_nil_iff,List.filter_eq_nil_iff]
   intro t a;have a1:=Ee hf a;by_cases e:pl n t.tm.toNat=k
   ·have:=Hb e d;simp;omega
   ·rw[Hc (by omega)];simp;omega
  ·rw[if_neg f]
   congr 1
   refine List.filter_congr (fun t a=> ?_);have a1:=Ee hf a;by_cases e:pl n t.tm.toNat=k
   ·have:=Hb e d
    have g:(pl (start n k) t.tm.toNat == j)=false:=by simp;omega
    have h:(pl n t.tm.toNat == j)=false:=by simp;omega
    rw[g,h]
   ·rw[Hc (by omega)]
def todo (n:Nat):List Tm->Nat
 | []=>0
 | t::r=>pl n t.tm.toNat+1+todo n r
theorem Sd {n m:Nat}:∀{l:List Tm},(∀t∈l,pl m t.tm.toNat<=pl n t.tm.toNat)->todo m l<=todo n l
 | [],_=>Nat.le_refl _
 | t::r,h=>by
  have c:=h t (by simp);have d:=Sd (l:=r) (fun x a=>h x (by simp[a]));simp only[todo];omega
theorem Se {n m:Nat}:∀{l:List Tm},(∀t∈l,pl m t.tm.toNat<=pl n t.tm.toNat)->(∃t∈l,pl m t.tm.toNat<pl n t.tm.toNat)->todo m l<todo n l
 | [],_,h=>by obtain⟨t,d,_⟩:=h;cases d
 | t::r,h,h3=>by
  have e:=h t (by simp);have f:=Sd (l:=r) (fun x a=>h x (by simp[a]));obtain⟨x,a,c⟩:=h3;simp only[todo];rcases List.mem_cons.1 a with rfl | a
  ·omega
  ·have:=Se (l:=r) (fun x a=>h x (by simp[a])) ⟨x,a,c⟩;omega
theorem TW {l:List Tm}(hf:Fst n l k)(a:64<=k):todo (start n k) l<todo n l:=by
 refine Se (fun t f=> ?_) ?_
 ·have a1:=Ee hf f
  by_cases e:pl n t.tm.toNat=k
  ·have:=Hb e a;omega
  ·rw[Hc (by omega)];exact Nat.le_refl _
 ·obtain⟨b,d,c,_⟩:=Ek hf.2
  exact⟨_,Zcd d,by have:=Hb c a;omega⟩
theorem SW {l:List Tm}(c:CR n l)(hf:Fst n l k):n<=start n k/\start n k<=4611686018427387904/\∀t∈l,(start n k:Int)<=t.tm:=by
 obtain⟨b,d,f,_⟩:=Ek hf.2;have a1:=c _ (Zcd d)
 have a:∀t∈l,(start n k:Int)<=t.tm:=fun t e=>by
  have a2:=(c t e).1;have a3:=KO (n:=n) (t:=t.tm.toNat) (by omega) (Ee hf e);omega
 refine⟨VE (by omega) f,?_,a⟩;have:=a _ (Zcd d);omega
theorem Ub {l:List Tm}(hf:Fst n l k)(a:n<=m)(c:m<start n k){t:Tm}(d:t∈l):pl m t.tm.toNat=pl n t.tm.toNat:=Zp a c (Ee hf d)
theorem no_fst {l:List Tm}(c:CR n l)(hn:n<=4611686018427387904)(h:∀k,k<704->Zag n l k=[]):l=[]:=by
 cases l with
 | nil=>rfl
 | cons t r =>
  exfalso
  have a:=c t (by simp);exact Kw (h _ (Wy n t.tm.toNat hn (by omega))) (List.mem_cons_self ..) rfl
theorem Zc1 (n:Nat)(l:List Tm)(k:Nat):(Zag n l k).length<=l.length:=by
 unfold Zag;rw[List.length_map];exact List.length_filter_le _ _
def Bb (run node kind:Int):Int:=(run * 16+(node+1)) * 4+kind
theorem DK {a b c x y z:Int}(h:Bb a b c=Bb x y z)(d: -1<=b/\b<15)(f: -1<=y/\y<15)(e:0<=c/\c<4)(g:0<=z/\z<4):a=x/\b=y/\c=z:=by
 unfold Bb at h;omega
structure BM (r nd q id:Int):Prop where
 e:id=Bb r nd q
 r0:0<=r
 r1:r<18446744073709551616
 n0: -1<=nd
 n1:nd<15
 q0:0<=q
 q1:q<4
def FF (id:Int):Prop:=0<=id/\id<1180591620717411303424
theorem BM.ok {r nd q:Int}(h:BM r nd q id):FF id:=by
 obtain⟨a,c,d,e,f,g,i⟩:=h;unfold Bb at a;unfold FF;omega
theorem BM.parts {r nd q:Int}(h:BM r nd q id):id / 64=r/\id / 4 % 16 - 1=nd/\id % 4=q:=by
 obtain⟨a,c,d,e,f,g,i⟩:=h;unfold Bb at a;omega
theorem BM.of (h:FF id):BM (id / 64) (id / 4 % 16 - 1) (id % 4) id:=by
 unfold FF at h;refine⟨by unfold Bb;omega,?_,?_,?_,?_,?_,?_⟩<;>omega
def pw (b:Int)(m:Nat):Int:=b * 2 ^ m
theorem Fw (b:Int):pw b 0=b:=by simp[pw]
theorem He (b:Int)(m:Nat):pw b (m+1)=2 * pw b m:=by unfold pw;rw[Int.pow_succ];rw[<-Int.mul_assoc,Int.mul_comm]
theorem Kz (b:Int)(h:1<=b)(m:Nat):1<=pw b m:=by
 induction m with
 | zero=>rw[Fw];exact h
 | succ m a=>rw[He];omega
theorem JA (b:Int)(h:1<=b)(m n:Nat)(a:m<=n):pw b m<=pw b n:=by
 obtain⟨d,rfl⟩:=Nat.exists_eq_add_of_le a;clear a
 induction d with
 | zero=>exact Int.le_refl _
 | succ d c=>have:=He b (m+d);have:=Kz b h (m+d);rw[<-Nat.add_assoc];omega
theorem pw_ge (b:Int)(h:1<=b)(m:Nat):((2 ^ m:Nat):Int)<=pw b m:=by
 induction m with
 | zero=>rw[Fw];simpa using h
 | succ m a=>rw[He,Nat.pow_succ];omega
def Zb4 (base cap jit k:Int)(At:Int):Int:=min (pw base (k - 1).toNat) cap+At % (jit+1)
theorem JB (base cap k:Int)(m:Nat)(c:1<=base)(h:(m:Int)<=k - 1\/m=0)(a:k<=(m:Int)+1\/cap<=pw base m) :
  min (pw base (k - 1).toNat) cap=min (pw base m) cap:=by
 rcases a with a | a
 ·have:(k - 1).toNat=m:=by omega
  rw[this]
 ·rcases h with h | h
  ·have:=JA base c m (k - 1).toNat (by omega)
   omega
  ·subst h
   have:=JA base c 0 (k - 1).toNat (by omega);omega
structure Ad where
 dl:Int
 n:Nat
 bu:Nat->Int
 cl:Nat->Int
 be:Nat->Int
 ba:Nat->Int
 ca:Nat->Int
 ji:Nat->Int
 an:Nat->Nat
 af:Nat->Nat->Int
structure AM where
 st:Int
 tries:Int
 tok:Int
 fin:Int
 sign:Int
 BN:Int
 Bc:Int
def AM.z:AM:=⟨0,0,0,0,0,0,0⟩
structure Ag where
 id:Int
 fl:Ad
 st:Int
 BP:Int
 Cs:Int
 steps:List AM
 ended:Int
def Ag.z:Ag:=⟨0,⟨0,0,fun _=>0,fun _=>0,fun _=>0,fun _=>0,fun _=>0,fun _=>0,fun _=>0,fun _ _=>0⟩,0,0,0,[],0⟩
structure AZ where
 run:Int
 node:Nat
def AZ.z:AZ:=⟨0,0⟩
structure Ab where
 time:Int
 At:Int
 runs:List Ag
 queue:List AZ
 Ah:Int
 Ai:Int
 timers:Int
 ends:Int
def Za1:Ab:=⟨0,0,[],[],0,0,0,0⟩
def Zak (now span:Int):Int:=if now+span > 4611686018427387904 then 4611686018427387904 else now+span
def Ab.at_ (e:Ab)(i:Nat):Ag:=e.runs.getD i .z
def Ag.at_ (r:Ag)(k:Nat):AM:=r.steps.getD k .z
def Ab.AG (e:Ab)(i:Nat)(f:Ag->Ag):Ab:={ e with runs:=e.runs.modify i f }
def Ag.Af (r:Ag)(k:Nat)(f:AM->AM):Ag:={ r with steps:=r.steps.modify k f }
def Ab.Af (e:Ab)(i k:Nat)(f:AM->AM):Ab:=e.AG i (fun r=>r.Af k f)
def Ab.find (e:Ab)(id:Int):Option Nat:=e.runs.findIdx? (fun r=>r.id == id)
def Ag.work (r:Ag)(tok:Int):Option Nat:=r.steps.findIdx? (fun s=>s.st == 3&&s.tok == tok)
def Ab.task (e:Ab)(tok:Int):Option (Nat×Nat):=do
 let i <-e.runs.findIdx? (fun r=>(r.work tok).isSome)
 let k <-(e.at_ i).work tok
 return (i,k)
def Ab.ready (e:Ab)(i k:Nat):Ab:={ e.Af i k (fun s=>{ s with st:=2 }) with queue:=e.queue++[⟨(e.at_ i).id,k⟩] }
def Ag.free (r:Ag)(k:Nat):Bool:=(r.at_ k).st == 1&&(List.range (r.fl.an k)).all (fun j=>(r.at_ (r.fl.af k j).toNat).st == 5)
def Ab.Bl (e:Ab)(i:Nat):Ab:=(List.range (e.at_ i).steps.length).foldl (fun e k=>if (e.at_ i).free k then e.ready i k else e) e
def Zda:List Ag->Nat->Option Nat
 | _,0=>none
 | l,k+1=>match Zda l k with
  | none=>if 0<(l.getD k .z).ended then some k else none
  | some o=>if 0<(l.getD k .z).ended/\(l.getD k .z).ended<(l.getD o .z).ended then some k else some o
def Ab.begin (e:Ab)(f:Ad):Ab :=
 let n:=e.Ah+1
 let r:Ag:=⟨n,f,1,Zak e.time f.dl,e.timers+1,List.replicate f.n ⟨1,0,0,0,0,0,0⟩,0⟩
 ({ e with Ah:=n,timers:=e.timers+1,runs:=e.runs++[r] }:Ab).Bl e.runs.length
def Ab.AN (e:Ab)(f:Ad):Option Ab :=
 if e.runs.length=6 then
  match Zda e.runs e.runs.length with
  | none=>none
  | some o=>some (({ e with runs:=e.runs.take o++e.runs.drop (o+1) }:Ab).begin f)
 else some (e.begin f)
def Ab.Bk (e:Ab):Option (AZ×Int×Int×Ab) :=
 match e.queue with
 | []=>none
 | p::q =>
  match e.find p.run with
  | none=>none
  | some i =>
   let r:=e.at_ i
   let t:=(r.at_ p.node).tries+1
   let BZ:=r.fl.be p.node
   let e1:={ e with queue:=q,Ai:=e.Ai+1,timers:=e.timers+1+(if BZ > 0 then 1 else 0) }.Af i p.node (fun s=>{ s with st:=3,tries:=t,tok:=e.Ai+1,fin:=Zak e.time (r.fl.cl p.node),BN:=e.timers+1,sign:=if BZ > 0 then Zak e.time BZ else 0,Bc:=if BZ > 0 then e.timers+2 else s.Bc })
   some (p,t,e.Ai+1,e1)
def Ab.BZ (e:Ab)(tok:Int):Option Ab :=
 match e.task tok with
 | none=>none
 | some (i,k) =>
  let BZ:=(e.at_ i).fl.be k
  if BZ > 0 then some ({ e with timers:=e.timers+1 }.Af i k (fun s=>{ s with sign:=Zak e.time BZ,Bc:=e.timers+1 })) else some e
def Ab.end_ (e:Ab)(i:Nat)(st:Int):Ab :=
 { e.AG i (fun r=>{ r with st:=st,ended:=e.ends+1,steps:=r.steps.map (fun s=>if s.st=5\/s.st=6 then s else { s with st:=7 }) }) with ends:=e.ends+1,queue:=e.queue.filter (fun p=> !(p.run == (e.at_ i).id)) }
def Ag.outcome (r:Ag):Option Int :=
 if r.steps.all (fun s=>s.st == 5||s.st == 6||s.st == 7) then some (if r.steps.all (fun s=>s.st == 5) then 2 else 3) else none
def Ab.settle (e:Ab)(i:Nat):Ab :=
 match (e.at_ i).outcome with
 | none=>e
 | some st=>e.end_ i st
def Ab.complete (e:Ab)(tok:Int):Option Ab :=
 match e.task tok with
 | none=>none
 | some (i,k)=>some (((e.Af i k (fun s=>{ s with st:=5 })).Bl i).settle i)
def Ag.lost (r:Ag)(k:Nat):Bool:=(r.at_ k).st == 1&&(List.range (r.fl.an k)).any (fun j=>(r.at_ (r.fl.af k j).toNat).st == 6||(r.at_ (r.fl.af k j).toNat).st == 7)
def Ag.Cm (r:Ag):Ag:=(List.range r.steps.length).foldl (fun r k=>if r.lost k then r.Af k (fun s=>{ s with st:=7 }) else r) r
def Ag.BO:Nat->Ag->Ag
 | 0,r=>r
 | m+1,r=>Ag.BO m r.Cm
def Ab.AT (e:Ab)(i k:Nat):Ab :=
 let r:=e.at_ i
 let s:=r.at_ k
 if s.tries<r.fl.bu k then
  { e with timers:=e.timers+1 }.Af i k (fun s=>{ s with st:=4,fin:=Zak e.time (Zb4 (r.fl.ba k) (r.fl.ca k) (r.fl.ji k) s.tries e.At),BN:=e.timers+1 })
 else (e.AG i (fun r=>Ag.BO r.steps.length (r.Af k (fun s=>{ s with st:=6 })))).settle i
def Ab.fail (e:Ab)(tok:Int):Option Ab :=
 match e.task tok with
 | none=>none
 | some (i,k)=>some (e.AT i k)
def Ab.cancel (e:Ab)(id:Int):Option Ab :=
 match e.find id with
 | none=>none
 | some i=>if (e.at_ i).st=1 then some (e.end_ i 4) else none
structure CH where
 i:Nat
 k:Option Nat
 sign:Bool
 tm:Int
 sq:Int
def CH.z:CH:=⟨0,none,false,0,0⟩
def AM.AR (s:AM)(i k:Nat):List CH :=
 (if s.st=3\/s.st=4 then [⟨i,some k,false,s.fin,s.BN⟩] else [])++(if s.st=3/\s.sign > 0 then [⟨i,some k,true,s.sign,s.Bc⟩] else [])
def Ag.AR (r:Ag)(i:Nat):List CH :=
 if r.st=1 then ⟨i,none,false,r.BP,r.Cs⟩::(List.range r.steps.length).flatMap (fun k=>(r.at_ k).AR i k) else []
def Ab.AR (e:Ab):List CH:=(List.range e.runs.length).flatMap (fun i=>(e.at_ i).AR i)
abbrev CH.lt (a b:CH):Prop:=a.tm<b.tm\/(a.tm=b.tm/\a.sq<b.sq)
def Cv:List CH->Nat->Option Nat
 | _,0=>none
 | l,k+1=>match Cv l k with
  | none=>some k
  | some b=>if (l.getD k .z).lt (l.getD b .z) then some k else some b
def Ab.Ar (e:Ab)(t:CH):Ab :=
 let e1:={ e with time:=max e.time t.tm }
 match t.k with
 | none=>e1.end_ t.i 5
 | some k=>if ((e.at_ t.i).at_ k).st=4 then e1.ready t.i k else e1.AT t.i k
inductive CG (tt:Int):Ab->Ab->Prop
 | none (e:Ab):(∀b,Cv e.AR e.AR.length=some b->tt<(e.AR.getD b .z).tm)->CG tt e { e with time:=tt }
 | step (e e2:Ab) (b:Nat):Cv e.AR e.AR.length=some b->(e.AR.getD b .z).tm<=tt->CG tt (e.Ar (e.AR.getD b .z)) e2->CG tt e e2
def Ab.Hm (e:Ab)(ticks:Int):Int:=if e.time+ticks > 4611686018427387904 then 4611686018427387904 else e.time+ticks
def BU (e:Ab)(ticks:Int)(e2:Ab):Prop:=CG (e.Hm ticks) e e2
theorem CG.uniq {d:Int}{e a b:Ab}(h:CG d e a)(g:CG d e b):a=b:=by
 induction h generalizing b with
 | none e c =>
  cases g with
  | none _ _=>rfl
  | step _ _ k q1 o _=>have:=c k q1;omega
 | step e j k c l _ f =>
  cases g with
  | none _ q=>have:=q k c;omega
  | step _ _ k2 q1 _ i =>
   rw[c] at q1
   cases q1
   exact f i
theorem Zbi (e:Ab)(i:Nat)(f:Ag->Ag):(e.AG i f).runs.length=e.runs.length:=by simp[Ab.AG]
theorem Zbr (e:Ab)(i j:Nat)(f:Ag->Ag)(a:j<e.runs.length):(e.AG i f).at_ j=if i=j then f (e.at_ j) else e.at_ j:=by
 unfold Ab.at_ Ab.AG;simp only[List.getD_eq_getElem?_getD,List.getElem?_modify,List.getElem?_eq_getElem a,Option.getD_some]
 split<;>rfl
theorem Zal (r:Ag)(k:Nat)(f:AM->AM):(r.Af k f).steps.length=r.steps.length:=by simp[Ag.Af]
theorem Zee (r:Ag)(k j:Nat)(f:AM->AM)(a:j<r.steps.length):(r.Af k f).at_ j=if k=j then f (r.at_ j) else r.at_ j:=by
 unfold Ag.at_ Ag.Af;simp only[List.getD_eq_getElem?_getD,List.getElem?_modify,List.getElem?_eq_getElem a,Option.getD_some]
 split<;>rfl
structure AJ (F:Ad)(i:Nat):Prop where
 bu1:1<=F.bu i
 bu2:F.bu i<=5
 Rt:1<=F.cl i
 cl2:F.cl i<=1048576
 Rr:0<=F.be i
 be2:F.be i<=1048576
 ba1:1<=F.ba i
 ba2:F.ba i<=1048576
 ca1:F.ba i<=F.ca i
 ca2:F.ca i<=1048576
 ji1:0<=F.ji i
 ji2:F.ji i<=1048576
def CS (F:Ad)(i k:Nat):Prop:=0<=F.af i k/\F.af i k<F.n/\(0<k->F.af i (k - 1)<F.af i k)
def AP (F:Ad)(i:Nat):Prop:=∀k,k<F.an i->CS F i k
structure Cc (F:Ad):Prop where
 XG:1<=F.dl
 dl2:F.dl<=1048576
 n1:1<=F.n
 n2:F.n<=12
inductive Db (F:Ad):Nat->Prop
 | mk (i:Nat):(∀k,k<F.an i->Db F (F.af i k).toNat)->Db F i
structure BQ (F:Ad):Prop where
 top:Cc F
 node:∀j,j<F.n->AJ F j
 SA:∀j,j<F.n->AP F j
 gone:∀j,j<F.n->Db F j
end Go.Proofs.YtgdcjccbdmcebaaGreatDoor
