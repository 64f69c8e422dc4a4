import Derived.Test.YtgdcjccbdmcebabGreatDoorM20
set_option linter.unusedSimpArgs false
set_option linter.unusedVariables false
namespace Go.Proofs.YtgdcjccbdmcebabGreatDoor
theorem engNew_ok:EngOk Za5:=by
 refine⟨⟨by simp [Za5],by simp [Za5],by simp [Za5],by simp [Za5],by simp [Za5],by simp [Za5],by simp [Za5],fun i j _ hj=>by simp [Za5] at hj,fun i hi=>by simp [Za5] at hi,fun i hi=>by simp [Za5] at hi,fun i hi=>by simp [Za5] at hi,by simp [Za5],fun p=> ?_,fun a ha=> ?_,fun i j hi=>by simp [Za5] at hi⟩,fun i hi=>by simp [Za5] at hi⟩
 ·constructor
  ·intro h;simp [Za5] at h
  ·rintro⟨i,hi,_⟩;simp [Za5] at hi
 ·obtain⟨hi,_⟩:=Zaq.1 ha
  simp [Za5] at hi
def stNew:StD:=⟨1,0,0,0,0,0,0⟩
def EngD.fresh (e:EngD)(f:FlowD):RunD:=⟨e.lastRun+1,f,1,Zas e.time f.dl,e.timers+1,List.replicate f.n stNew,0⟩
def EngD.more (e:EngD)(f:FlowD):EngD:={ e with lastRun:=e.lastRun+1,timers:=e.timers+1,runs:=e.runs++[e.fresh f] }
theorem Zc2 (e:EngD)(f:FlowD):e.begin f=(e.more f).wake e.runs.length:=rfl
theorem Za2 (e:EngD)(f:FlowD):(e.more f).runs.length=e.runs.length+1:=by simp [EngD.more]
theorem Zbv (e:EngD)(f:FlowD){i:Nat}(hi:i<e.runs.length):(e.more f).at_ i=e.at_ i:=by
 unfold EngD.at_ EngD.more
 simp only [List.getD_eq_getElem?_getD]
 rw [List.getElem?_append_left hi]
theorem Za1 (e:EngD)(f:FlowD):(e.more f).at_ e.runs.length=e.fresh f:=by
 unfold EngD.at_ EngD.more
 simp only [List.getD_eq_getElem?_getD]
 rw [List.getElem?_append_right (Nat.le_refl _)]
 simp
theorem Zbp (e:EngD)(f:FlowD):(e.fresh f).steps.length=f.n:=by simp [EngD.fresh]
theorem Zcn (e:EngD)(f:FlowD){k:Nat}(hk:k<f.n):(e.fresh f).at_ k=stNew:=by
 unfold RunD.at_ EngD.fresh
 simp [List.getD_eq_getElem?_getD,hk]
theorem EngWk.more {e:EngD}(h:EngWk e)(h5:e.runs.length<6){f:FlowD}(hf:FlOk f):EngWk (e.more f):=by
 have hl:=Za2 e f
 have htm:=h.tm0
 have hlr:=h.lr0
 have hen:=h.en0
 have hlt:=h.lt0
 have hla:=laterI_bd h.t0 h.tB hf.top.dl1
 have cases_:∀i,i<(e.more f).runs.length->(i<e.runs.length/\(e.more f).at_ i=e.at_ i)\/(i=e.runs.length/\(e.more f).at_ i=e.fresh f):=fun i hi=>by
  by_cases c:i<e.runs.length
  ·exact Or.inl ⟨c,Zbv e f c⟩
  ·have:i=e.runs.length:=by omega
   subst this
   exact Or.inr ⟨rfl,Za1 e f⟩
 have hdue:∀d,DueE (e.more f) d->DueE e d\/(d=⟨e.runs.length,none,false,Zas e.time f.dl,e.timers+1⟩):=by
  rintro d ⟨d1,d2,d3⟩
  rcases cases_ _ d1 with⟨c1,c2⟩ | ⟨c1,c2⟩
  ·rw [c2] at d2 d3
   exact Or.inl ⟨c1,d2,d3⟩
  ·rw [c2] at d2 d3
   right
   obtain⟨di,dk,ds,dt,dq⟩:=d
   cases dk with
   | none =>
    obtain⟨x1,x2,x3⟩:=d3
    simp only at c1 x1 x2 x3
    subst c1 x1 x2 x3
    rfl
   | some k =>
    exfalso
    simp only [Zbp] at d3
    rw [Zcn e f d3.1] at d3
    exact not_due (by unfold stNew;simp) (by unfold stNew;simp) d3.2
 refine⟨h.t0,h.tB,by show 0<=e.timers+1;omega,by show 0<=e.lastRun+1;omega,h.lt0,h.en0,by omega,?_,?_,?_,?_,h.qn,?_,?_,?_⟩
 ·intro a b hab hb
  rcases cases_ b hb with⟨c1,c2⟩ | ⟨c1,c2⟩
  ·rw [c2,Zbv e f (by omega)];exact h.up a b hab c1
  ·rw [c2,Zbv e f (by omega)]
   have:=h.idB a (by omega)
   show _<e.lastRun+1
   omega
 ·intro a ha
  rcases cases_ a ha with⟨c1,c2⟩ | ⟨c1,c2⟩
  ·rw [c2];exact h.id1 a c1
  ·rw [c2];show 1<=e.lastRun+1;omega
 ·intro a ha
  rcases cases_ a ha with⟨c1,c2⟩ | ⟨c1,c2⟩
  ·rw [c2];have:=h.idB a c1;show _<=e.lastRun+1;omega
  ·rw [c2];exact Int.le_refl _
 ·intro a ha
  rcases cases_ a ha with⟨c1,c2⟩ | ⟨c1,c2⟩
  ·rw [c2];exact (h.runs a c1).mono (show e.timers<=e.timers+1 by omega) (Int.le_refl _) (Int.le_refl _)
  ·rw [c2]
   refine⟨hf,Zbp e f,by simp [EngD.fresh],by simp [EngD.fresh],by simp [EngD.fresh],Int.le_refl _,h.en0,by show 0<=Zas _ _;omega,hla.2.2,fun _=>hla.1,by show 0<=e.timers+1;omega,Int.le_refl _,?_,fun x=>absurd rfl x⟩
   intro k hk
   rw [Zbp] at hk
   rw [Zcn e f hk]
   have hb:=hf.node k hk
   have:=hb.bu1
   show StOk f k e.time (e.timers+1) e.lastTok stNew
   unfold stNew
   exact⟨by simp,by simp,by simp,by simp only;omega,fun _=>rfl,fun x=>by simp at x,fun x=>by simp at x,fun x=>by simp at x,by simp,by simp only;omega,by simp,by simp,by simp,by simp,fun x=>by simp at x,fun x=>by simp at x,fun x=>by simp at x,by simp,by simp only;omega,by simp,by simp only;omega⟩
 ·intro p
  show p∈e.queue↔_
  rw [h.qm p]
  constructor
  ·rintro⟨i,q1,q2⟩
   refine⟨i,by omega,?_⟩
   rw [Zbv e f q1];exact q2
  ·rintro⟨i,q1,q2,q3,q4⟩
   rcases cases_ i q1 with⟨c1,c2⟩ | ⟨c1,c2⟩
   ·rw [c2] at q2 q3 q4;exact⟨i,c1,q2,q3,q4⟩
   ·rw [c2] at q3 q4
    rw [Zbp] at q3
    rw [Zcn e f q3] at q4
    simp [stNew] at q4
 ·intro a ha b hb hab
  rcases hdue a (Zaq.1 ha) with a1 | a1<;>rcases hdue b (Zaq.1 hb) with b1 | b1
  ·exact h.sq a (Zaq.2 a1) b (Zaq.2 b1) hab
  ·have:=(h.due_sq a1).1
   rw [b1] at hab;simp only at hab;omega
  ·have:=(h.due_sq b1).1
   rw [a1] at hab;simp only at hab;omega
  ·rw [a1,b1]
 ·intro a b ha hb
  rcases cases_ a ha with⟨c1,c2⟩ | ⟨c1,c2⟩<;>rcases cases_ b hb with⟨d1,d2⟩ | ⟨d1,d2⟩
  ·rw [c2,d2];exact h.en a b c1 d1
  ·rw [c2,d2]
   intro x y
   have:(e.fresh f).ended=0:=rfl
   omega
  ·rw [c2]
   intro x
   have:(e.fresh f).ended=0:=rfl
   omega
  ·intros;omega
theorem EngOk.begin {e:EngD}(h:EngOk e)(h5:e.runs.length<6){f:FlowD}(hf:FlOk f):EngOk (e.begin f):=by
 have hw:=h.wk.more h5 hf
 have hi:e.runs.length<(e.more f).runs.length:=by rw [Za2];omega
 obtain⟨g1,g2⟩:=hw.wake hi (by rw [Za1];rfl)
 rw [Zc2]
 refine⟨g1,fun j hj=> ?_⟩
 rw [g2.len,Za2] at hj
 by_cases hji:j=e.runs.length
 ·subst hji
  intro _
  have h1:=hf.top.n1
  have hn:0<((e.more f).at_ e.runs.length).steps.length:=by rw [Za1,Zbp];omega
  refine⟨0,by rw [g2.steps];exact hn,?_⟩
  rw [wake_at hi hn,Za1,Zcn e f (by omega)]
  split<;>simp [stNew]
 ·rw [g2.others j (by rw [Za2];omega) hji,Zbv e f (by omega)]
  exact h.goes j (by omega)
theorem begin_nums {e:EngD}(h:EngOk e)(h5:e.runs.length<6){f:FlowD}(hf:FlOk f):(e.begin f).time=e.time/\(e.begin f).seed=e.seed/\(e.begin f).lastRun=e.lastRun+1/\(e.begin f).lastTok=e.lastTok/\(e.begin f).timers=e.timers+1/\(e.begin f).ends=e.ends/\(e.begin f).runs.length=e.runs.length+1:=by
 have hi:e.runs.length<(e.more f).runs.length:=by rw [Za2];omega
 obtain⟨_,g⟩:=(h.wk.more h5 hf).wake hi (by rw [Za1];rfl)
 rw [Zc2]
 exact⟨g.time,g.seed,g.lastRun,g.lastTok,g.timers,g.ends,by rw [g.len,Za2]⟩
theorem getD_cut' {α:Type}{z:α}(l:List α)(b i:Nat)(hb:b<l.length):(l.take b++l.drop (b+1)).getD i z=l.getD (if i<b then i else i+1) z:=by
 rw [List.getD_eq_getElem?_getD,List.getD_eq_getElem?_getD]
 congr 1
 by_cases h:i<b
 ·rw [if_pos h,List.getElem?_append_left (by rw [List.length_take];omega),List.getElem?_take_of_lt h]
 ·rw [if_neg h,List.getElem?_append_right (by rw [List.length_take];omega),List.getElem?_drop,List.length_take]
  congr 1
  omega
def EngD.cut (e:EngD)(o:Nat):EngD:={ e with runs:=e.runs.take o++e.runs.drop (o+1) }
theorem Zd4 (e:EngD){o:Nat}(ho:o<e.runs.length):(e.cut o).runs.length+1=e.runs.length:=by
 show (e.runs.take o++e.runs.drop (o+1)).length+1=_
 rw [List.length_append,List.length_take,List.length_drop];omega
theorem cut_at (e:EngD){o:Nat}(ho:o<e.runs.length)(i:Nat):(e.cut o).at_ i=e.at_ (if i<o then i else i+1):=getD_cut' (z:=RunD.z) e.runs o i ho
theorem EngOk.cut {e:EngD}(h:EngOk e){o:Nat}(ho:o<e.runs.length)(h1:(e.at_ o).st≠1):EngOk (e.cut o):=by
 have hl:=Zd4 e ho
 have hat:=cut_at e ho
 have lt:∀i,i<(e.cut o).runs.length->(if i<o then i else i+1)<e.runs.length:=fun i hi=>by split<;>omega
 have back:∀j,j<e.runs.length->j≠o->∃i,i<(e.cut o).runs.length/\(if i<o then i else i+1)=j:=fun j hj hn=>by
  by_cases c:j<o
  ·exact⟨j,by omega,by rw [if_pos c]⟩
  ·exact⟨j - 1,by omega,by rw [if_neg (by omega)];omega⟩
 have inj:∀i j,(if i<o then i else i+1)=(if j<o then j else j+1)->i=j:=fun i j=>by split<;>split<;>omega
 have hdue:∀d,DueE (e.cut o) d->DueE e ⟨if d.i<o then d.i else d.i+1,d.k,d.sign,d.tm,d.sq⟩:=by
  rintro d ⟨d1,d2,d3⟩
  rw [hat] at d2 d3
  exact⟨lt _ d1,d2,d3⟩
 refine⟨⟨h.wk.t0,h.wk.tB,h.wk.tm0,h.wk.lr0,h.wk.lt0,h.wk.en0,by have:=h.wk.six;omega,?_,?_,?_,?_,h.wk.qn,?_,?_,?_⟩,?_⟩
 ·intro a b hab hb
  rw [hat,hat]
  exact h.wk.up _ _ (by split<;>split<;>omega) (lt b hb)
 ·intro a ha;rw [hat];exact h.wk.id1 _ (lt a ha)
 ·intro a ha;rw [hat];exact h.wk.idB _ (lt a ha)
 ·intro a ha;rw [hat];exact h.wk.runs _ (lt a ha)
 ·intro p
  show p∈e.queue↔_
  rw [h.wk.qm p]
  constructor
  ·rintro⟨j,q1,q2,q3,q4⟩
   have hjo:j≠o:=fun x=>by subst x;have:=(h.wk.runs j q1).over h1 p.node q3;omega
   obtain⟨i,i1,i2⟩:=back j q1 hjo
   refine⟨i,i1,?_⟩
   rw [hat,i2];exact⟨q2,q3,q4⟩
  ·rintro⟨i,q1,q2⟩
   rw [hat] at q2
   exact⟨_,lt i q1,q2⟩
 ·intro a ha b hb hab
  have:=h.wk.sq _ (Zaq.2 (hdue a (Zaq.1 ha))) _ (Zaq.2 (hdue b (Zaq.1 hb))) hab
  simp only [TmD.mk.injEq] at this
  obtain⟨x1,x2,x3,x4,x5⟩:=this
  have:=inj _ _ x1
  cases a;cases b
  simp only at *
  subst this x2 x3 x4 x5
  rfl
 ·intro a b ha hb
  rw [hat,hat]
  intro x y
  exact inj _ _ (h.wk.en _ _ (lt a ha) (lt b hb) x y)
 ·intro i hi
  rw [hat];exact h.goes _ (lt i hi)
theorem oldest_is {l:List RunD}:∀{k o:Nat},Zc3 l k=some o->o<k/\0<(l.getD o .z).ended/\∀j,j<k->0<(l.getD j .z).ended->(l.getD o .z).ended<=(l.getD j .z).ended:=by
 intro k
 induction k with
 | zero=>intro o h;cases h
 | succ k ih =>
  intro o h
  unfold Zc3 at h
  cases hk:Zc3 l k with
  | none =>
   rw [hk] at h
   simp only at h
   split at h
   ·rename_i h0
    cases h
    refine⟨by omega,h0,fun j hj hj2=> ?_⟩
    by_cases e:j=k
    ·subst e;exact Int.le_refl _
    ·exfalso
     clear ih
     have:∀m,Zc3 l m=none->∀j,j<m->¬0<(l.getD j .z).ended:=by
      intro m
      induction m with
      | zero=>intro _ j hj;omega
      | succ m ihm =>
       intro hm j hj
       unfold Zc3 at hm
       cases hm2:Zc3 l m with
       | none =>
        rw [hm2] at hm
        simp only at hm
        split at hm
        ·cases hm
        ·rename_i hz
         by_cases e:j=m
         ·subst e;exact hz
         ·exact ihm hm2 j (by omega)
       | some x=>rw [hm2] at hm;simp only at hm;split at hm<;>cases hm
     exact this k hk j (by omega) hj2
   ·cases h
  | some x =>
   rw [hk] at h
   obtain⟨h1,h2,h3⟩:=ih hk
   simp only at h
   split at h
   ·rename_i hc
    cases h
    refine⟨by omega,hc.1,fun j hj hj2=> ?_⟩
    by_cases e:j=k
    ·subst e;exact Int.le_refl _
    ·have:=h3 j (by omega) hj2;omega
   ·rename_i hc
    cases h
    refine⟨by omega,h2,fun j hj hj2=> ?_⟩
    by_cases e:j=k
    ·subst e;omega
    ·exact h3 j (by omega) hj2
theorem oldest_none {l:List RunD}:∀{k:Nat},Zc3 l k=none->∀j,j<k->¬0<(l.getD j .z).ended:=by
 intro m
 induction m with
 | zero=>intro _ j hj;omega
 | succ m ihm =>
  intro hm j hj
  unfold Zc3 at hm
  cases hm2:Zc3 l m with
  | none =>
   rw [hm2] at hm
   simp only at hm
   split at hm
   ·cases hm
   ·rename_i hz
    by_cases e:j=m
    ·subst e;exact hz
    ·exact ihm hm2 j (by omega)
  | some x=>rw [hm2] at hm;simp only at hm;split at hm<;>cases hm
theorem EngOk.submit {e e':EngD}(h:EngOk e){f:FlowD}(hf:FlOk f)(he:e.submit f=some e'):EngOk e'/\e'.time=e.time/\e'.seed=e.seed/\e'.lastRun=e.lastRun+1/\e'.lastTok=e.lastTok/\e'.timers=e.timers+1/\e'.ends=e.ends:=by
 have h6:=h.wk.six
 unfold EngD.submit at he
 split at he
 ·rename_i hl
  split at he
  ·cases he
  ·rename_i o ho
   cases he
   obtain⟨o1,o2,_⟩:=oldest_is ho
   have hst:(e.at_ o).st≠1:=fun x=>by
    have:=(h.wk.runs o o1).goes.1 x
    unfold EngD.at_ at this
    omega
   have hc:=h.cut o1 hst
   have hcl:=Zd4 e o1
   have hb:=hc.begin (by omega) hf
   obtain⟨a,b,c,d,g,k,_⟩:=begin_nums hc (by omega) hf
   exact⟨hb,a,b,c,d,g,k⟩
 ·cases he
  obtain⟨a,b,c,d,g,k,_⟩:=begin_nums h (by omega) hf
  exact⟨h.begin (by omega) hf,a,b,c,d,g,k⟩
theorem nodup_len {α:Type} [BEq α] [LawfulBEq α]:∀(a b:List α),a.Nodup->(∀x∈a,x∈b)->a.length<=b.length
 | [],_,_,_=>Nat.zero_le _
 | x::a,b,h,hs=>by
  have hx:=hs x (List.mem_cons_self ..)
  have h1:=nodup_len a (b.erase x) (List.nodup_cons.1 h).2 (fun y hy=>(List.mem_erase_of_ne (fun (e:y=x)=>(List.nodup_cons.1 h).1 (e▸hy))).2 (hs y (List.mem_cons_of_mem _ hy)))
  have h2:=List.length_erase_of_mem hx
  have h3:0<b.length:=List.length_pos_of_mem hx
  simp only [List.length_cons]
  omega
theorem flat_bd {α β:Type}(f:α->List β)(b:Nat)(l:List α)(h:∀x∈l,(f x).length<=b):(l.flatMap f).length<=l.length * b:=by
 induction l with
 | nil=>simp
 | cons a l ih =>
  have h1:=h a (List.mem_cons_self ..)
  have h2:=ih (fun x hx=>h x (List.mem_cons_of_mem _ hx))
  rw [List.flatMap_cons,List.length_append,List.length_cons,Nat.add_mul]
  omega
theorem EngWk.queue_len {e:EngD}(h:EngWk e):e.queue.length<=72:=by
 classical
 have h1:=nodup_len e.queue ((List.range e.runs.length).flatMap (fun i=>(List.range (e.at_ i).steps.length).map (fun k=>(⟨(e.at_ i).id,k⟩:PlD)))) h.qn (fun p hp=>by
  obtain⟨i,hi,h1,h2,_⟩:=(h.qm p).1 hp
  rw [List.mem_flatMap]
  refine⟨i,List.mem_range.2 hi,List.mem_map.2 ⟨p.node,List.mem_range.2 h2,?_⟩⟩
  cases p
  simp only [PlD.mk.injEq,and_true]
  exact h1)
 have h2:=flat_bd (fun i=>(List.range (e.at_ i).steps.length).map (fun k=>(⟨(e.at_ i).id,k⟩:PlD))) 12 (List.range e.runs.length) (fun i hi=>by
  have:=(h.runs i (List.mem_range.1 hi)).n12
  simp;omega)
 have:=h.six
 rw [List.length_range] at h2
 omega
theorem fails_rest {e:EngD}{i k:Nat}(h:((e.at_ i).at_ k).tries<(e.at_ i).fl.bu k):e.fails i k=({ e with timers:=e.timers+1 }:EngD).onStep i k (fun s=>{ s with st:=4,fin:=Zas e.time (Zdt ((e.at_ i).fl.ba k) ((e.at_ i).fl.ca k) ((e.at_ i).fl.ji k) s.tries e.seed),finAt:=e.timers+1 }):=by
 unfold EngD.fails
 simp only
 rw [if_pos h]
theorem fails_dead {e:EngD}{i k:Nat}(hi:i<e.runs.length)(h:¬((e.at_ i).at_ k).tries<(e.at_ i).fl.bu k):e.fails i k=((e.onStep i k (fun s=>{ s with st:=6 })).onRun i (fun _=>RunD.skipN (e.at_ i).steps.length (((e.onStep i k (fun s=>{ s with st:=6 }))).at_ i))).settle i:=by
 unfold EngD.fails
 simp only
 rw [if_neg h]
 have ha:=Zbr (e':=e.onStep i k (fun s=>{ s with st:=6 })) (f:=fun s=>{ s with st:=6 }) (k:=k) rfl hi
 rw [if_pos rfl] at ha
 rw [ha]
 have heq:e.onRun i (fun r=>RunD.skipN r.steps.length (r.onStep k (fun s=>{ s with st:=6 })))=e.onRun i (fun _=>RunD.skipN (e.at_ i).steps.length ((e.at_ i).onStep k (fun s=>{ s with st:=6 }))):=by
  rw [onRun_const]
 rw [heq]
 congr 1
 unfold EngD.onStep
 rw [Zdz]
def NodeT (id:Int)(k:Nat)(s:StD)(t:Tm):Prop:=(s.st=3/\t=⟨keyI id k 1,s.fin,s.finAt⟩)\/(s.st=4/\t=⟨keyI id k 3,s.fin,s.finAt⟩)\/(s.st=3/\0<s.sign/\t=⟨keyI id k 2,s.sign,s.signAt⟩)
def RunT (r:RunD)(t:Tm):Prop:=r.st=1/\(t=⟨keyI r.id (-1) 0,r.till,r.tillAt⟩\/∃k,k<r.steps.length/\NodeT r.id k (r.at_ k) t)
def EngT (e:EngD)(t:Tm):Prop:=∃i,i<e.runs.length/\RunT (e.at_ i) t
theorem engT_iff (e:EngD)(t:Tm):EngT e t↔∃d,d∈e.dues/\t=e.tmOf d:=by
 constructor
 ·rintro⟨i,hi,h1,h2⟩
  rcases h2 with rfl | ⟨k,hk,h3⟩
  ·exact⟨⟨i,none,false,(e.at_ i).till,(e.at_ i).tillAt⟩,Zaq.2 ⟨hi,h1,rfl,rfl,rfl⟩,rfl⟩
  ·rcases h3 with⟨h4,rfl⟩ | ⟨h4,rfl⟩ | ⟨h4,h5,rfl⟩
   ·refine⟨⟨i,some k,false,((e.at_ i).at_ k).fin,((e.at_ i).at_ k).finAt⟩,Zaq.2 ⟨hi,h1,hk,Or.inl h4,rfl,rfl⟩,?_⟩
    simp [EngD.tmOf,EngD.kindOf,nodeI,h4]
   ·refine⟨⟨i,some k,false,((e.at_ i).at_ k).fin,((e.at_ i).at_ k).finAt⟩,Zaq.2 ⟨hi,h1,hk,Or.inr h4,rfl,rfl⟩,?_⟩
    simp [EngD.tmOf,EngD.kindOf,nodeI,h4]
   ·exact⟨⟨i,some k,true,((e.at_ i).at_ k).sign,((e.at_ i).at_ k).signAt⟩,Zaq.2 ⟨hi,h1,hk,h4,h5,rfl,rfl⟩,rfl⟩
 ·rintro⟨d,hd,rfl⟩
  obtain⟨i,k,sg,tm,sq⟩:=d
  obtain⟨h1,h2,h3⟩:=Zaq.1 hd
  refine⟨i,h1,h2,?_⟩
  cases k with
  | none =>
   obtain⟨rfl,h4,h5⟩:=h3
   left
   simp only at h4 h5
   subst h4 h5
   rfl
  | some k =>
   right
   obtain⟨h4,h5⟩:=h3
   refine⟨k,h4,?_⟩
   cases sg with
   | true =>
    obtain⟨h6,h7,h8,h9⟩:=h5
    simp only at h8 h9
    subst h8 h9
    exact Or.inr (Or.inr ⟨h6,h7,rfl⟩)
   | false =>
    obtain⟨h6,h7,h8⟩:=h5
    simp only at h7 h8
    subst h7 h8
    rcases h6 with h6 | h6
    ·left
     have h6':((e.at_ i).at_ k).st=3:=h6
     exact⟨h6',by simp [EngD.tmOf,EngD.kindOf,nodeI,h6']⟩
    ·right;left
     have h6':((e.at_ i).at_ k).st=4:=h6
     exact⟨h6',by simp [EngD.tmOf,EngD.kindOf,nodeI,h6']⟩
theorem Zbe {e:EngD}{l:List Tm}:TimR e l↔Rising l/\∀t,t∈l↔EngT e t:=by
 constructor
 ·intro h
  refine⟨h.rising,fun t=> ?_⟩
  rw [engT_iff]
  constructor
  ·exact fun ht=>h.mem t ht
  ·rintro⟨d,hd,rfl⟩
   exact h.all d hd
 ·rintro⟨h1,h2⟩
  exact⟨h1,fun d hd=>(h2 _).2 ((engT_iff e _).2 ⟨d,hd,rfl⟩),fun t ht=>(engT_iff e t).1 ((h2 t).1 ht)⟩
def OwnT (id:Int)(k:Nat)(t:Tm):Prop:=∃q:Int,1<=q/\q<=3/\t.id=keyI id k q
theorem NodeT.own {id:Int}{k:Nat}{s:StD}{t:Tm}(h:NodeT id k s t):OwnT id k t:=by
 rcases h with⟨_,rfl⟩ | ⟨_,rfl⟩ | ⟨_,_,rfl⟩
 ·exact⟨1,by decide,by decide,rfl⟩
 ·exact⟨3,by decide,by decide,rfl⟩
 ·exact⟨2,by decide,by decide,rfl⟩
def OfRun (id:Int)(t:Tm):Prop:=∃nd q:Int,(-1<=nd/\nd<15)/\(0<=q/\q<4)/\t.id=keyI id nd q
theorem RunT.of {r:RunD}{t:Tm}(h:RunT r t)(hn:r.steps.length<=12):OfRun r.id t:=by
 obtain⟨_,h2⟩:=h
 rcases h2 with rfl | ⟨k,hk,h3⟩
 ·exact⟨-1,0,by omega,by omega,rfl⟩
 ·obtain⟨q,h4,h5,h6⟩:=h3.own
  exact⟨k,q,by omega,by omega,h6⟩
theorem OfRun.uniq {a b:Int}{t:Tm}(h:OfRun a t)(g:OfRun b t):a=b:=by
 obtain⟨n,q,h1,h2,h3⟩:=h
 obtain⟨m,p,g1,g2,g3⟩:=g
 exact (keyI_inj (h3.symm.trans g3) h1 g1 h2 g2).1
theorem OwnT.of {id:Int}{k:Nat}{t:Tm}(h:OwnT id k t)(hk:k<12):OfRun id t:=by
 obtain⟨q,h1,h2,h3⟩:=h
 exact⟨k,q,by omega,by omega,h3⟩
theorem OwnT.uniq {id:Int}{k m:Nat}{t:Tm}(h:OwnT id k t)(g:OwnT id m t)(hk:k<12)(hm:m<12):k=m:=by
 obtain⟨q,h1,h2,h3⟩:=h
 obtain⟨p,g1,g2,g3⟩:=g
 have:=(keyI_inj (h3.symm.trans g3) (by omega) (by omega) (by omega) (by omega)).2.1
 omega
theorem own_not_top {id:Int}{k:Nat}{t:Tm}(hk:k<12)(h:OwnT id k t)(h2:t.id=keyI id (-1) 0):False:=by
 obtain⟨q,h1,_,h3⟩:=h
 have:=(keyI_inj (h3.symm.trans h2) (by omega) (by omega) (by omega) (by omega)).2.1
 omega
theorem EngWk.n12 {e:EngD}(h:EngWk e){i:Nat}(hi:i<e.runs.length):(e.at_ i).steps.length<=12:=(h.runs i hi).n12.2
theorem EngT.node {e:EngD}(wk:EngWk e){i k:Nat}(hi:i<e.runs.length)(hk:k<(e.at_ i).steps.length){t:Tm}(h:EngT e t)(ho:OwnT (e.at_ i).id k t):(e.at_ i).st=1/\NodeT (e.at_ i).id k ((e.at_ i).at_ k) t:=by
 obtain⟨j,hj,h1,h2⟩:=h
 have hid:=(ho.of (by have:=wk.n12 hi;omega)).uniq (RunT.of ⟨h1,h2⟩ (wk.n12 hj))
 have hij:=wk.id_inj hi hj hid
 subst hij
 refine⟨h1,?_⟩
 rcases h2 with h2 | ⟨m,hm,h3⟩
 ·exact (own_not_top (by have:=wk.n12 hi;omega) ho (by rw [h2])).elim
 ·have:=ho.uniq h3.own (by have:=wk.n12 hi;omega) (by have:=wk.n12 hi;omega)
  subst this
  exact h3
theorem Zdv {e e':EngD}(wk:EngWk e){i k:Nat}(hi:i<e.runs.length)(hk:k<(e.at_ i).steps.length){f:StD->StD}(hr:e'.runs=(e.onStep i k f).runs)(t:Tm) :
  EngT e' t↔(EngT e t/\¬OwnT (e.at_ i).id k t)\/((e.at_ i).st=1/\NodeT (e.at_ i).id k (f ((e.at_ i).at_ k)) t):=by
 have hl:=Zbf hr
 have hn:=wk.n12 hi
 constructor
 ·rintro⟨j,hj,h1,h2⟩
  rw [hl] at hj
  have hs:=Za6 hr hj
  rw [hs.2.2.1] at h1
  rw [hs.1,hs.2.2.2.1,hs.2.2.2.2.1,Zb0 hr hj] at h2
  rcases h2 with h2 | ⟨m,hm,h3⟩
  ·left
   refine⟨⟨j,hj,h1,Or.inl h2⟩,fun ho=> ?_⟩
   have hid:=(ho.of (by omega)).uniq (RunT.of (r:=e.at_ j) ⟨h1,Or.inl h2⟩ (wk.n12 hj))
   obtain rfl:=wk.id_inj hi hj hid
   exact own_not_top (by omega) ho (by rw [h2])
  ·rw [Zdy hr hk hj hm] at h3
   by_cases hc:i=j/\k=m
   ·obtain⟨rfl,rfl⟩:=hc
    rw [if_pos ⟨rfl,rfl⟩] at h3
    exact Or.inr ⟨h1,h3⟩
   ·rw [if_neg hc] at h3
    left
    refine⟨⟨j,hj,h1,Or.inr ⟨m,hm,h3⟩⟩,fun ho=> ?_⟩
    have hid:=(ho.of (by omega)).uniq (RunT.of (r:=e.at_ j) ⟨h1,Or.inr ⟨m,hm,h3⟩⟩ (wk.n12 hj))
    obtain rfl:=wk.id_inj hi hj hid
    exact hc ⟨rfl,ho.uniq h3.own (by omega) (by omega)⟩
 ·rintro (⟨⟨j,hj,h1,h2⟩,hno⟩ | ⟨h1,h2⟩)
  ·have hs:=Za6 hr hj
   refine⟨j,by rw [hl];exact hj,by rw [hs.2.2.1];exact h1,?_⟩
   rw [hs.1,hs.2.2.2.1,hs.2.2.2.2.1,Zb0 hr hj]
   rcases h2 with h2 | ⟨m,hm,h3⟩
   ·exact Or.inl h2
   ·right
    refine⟨m,hm,?_⟩
    rw [Zdy hr hk hj hm]
    by_cases hc:i=j/\k=m
    ·obtain⟨rfl,rfl⟩:=hc
     exact absurd h3.own hno
    ·rw [if_neg hc];exact h3
  ·have hs:=Za6 hr hi
   refine⟨i,by rw [hl];exact hi,by rw [hs.2.2.1];exact h1,?_⟩
   rw [hs.1,Zb0 hr hi]
   right
   refine⟨k,hk,?_⟩
   rw [Zdy hr hk hi hk,if_pos ⟨rfl,rfl⟩]
   exact h2
theorem engT_end {e:EngD}(wk:EngWk e){i:Nat}(hi:i<e.runs.length){st:Int}(hst:st≠1)(t:Tm):EngT (e.end_ i st) t↔EngT e t/\¬OfRun (e.at_ i).id t:=by
 constructor
 ·rintro⟨j,hj,h⟩
  rw [end_len] at hj
  rw [end_at e i st hj] at h
  by_cases c:i=j
  ·rw [if_pos c] at h
   exact absurd h.1 hst
  ·rw [if_neg c] at h
   exact⟨⟨j,hj,h⟩,fun ho=>c (wk.id_inj hi hj (ho.uniq (h.of (wk.n12 hj))))⟩
 ·rintro⟨⟨j,hj,h⟩,hno⟩
  refine⟨j,by rw [end_len];exact hj,?_⟩
  rw [end_at e i st hj]
  by_cases c:i=j
  ·subst c;exact absurd (h.of (wk.n12 hj)) hno
  ·rw [if_neg c];exact h
theorem engT_more {e:EngD}(f:FlowD)(t:Tm):EngT (e.more f) t↔EngT e t\/t=⟨keyI (e.lastRun+1) (-1) 0,Zas e.time f.dl,e.timers+1⟩:=by
 constructor
 ·rintro⟨j,hj,h⟩
  rw [Za2] at hj
  by_cases c:j<e.runs.length
  ·rw [Zbv e f c] at h
   exact Or.inl ⟨j,c,h⟩
  ·obtain rfl:j=e.runs.length:=by omega
   rw [Za1] at h
   right
   rcases h.2 with h2 | ⟨k,hk,h3⟩
   ·exact h2
   ·rw [Zbp] at hk
    rw [Zcn e f hk] at h3
    rcases h3 with⟨h4,_⟩ | ⟨h4,_⟩ | ⟨h4,_⟩<;>simp [stNew] at h4
 ·rintro (⟨j,hj,h⟩ | rfl)
  ·exact⟨j,by rw [Za2];omega,by rw [Zbv e f hj];exact h⟩
  ·refine⟨e.runs.length,by rw [Za2];omega,?_⟩
   rw [Za1]
   exact⟨rfl,Or.inl rfl⟩
theorem EngT.same {e e':EngD}(hr:e'.runs=e.runs)(t:Tm):EngT e' t↔EngT e t:=by
 unfold EngT EngD.at_
 rw [hr]
theorem TimR.same {e e':EngD}{l:List Tm}(h:TimR e l)(hr:e'.runs=e.runs):TimR e' l:=by
 rw [Zbe] at h ⊢
 exact⟨h.1,fun t=>(h.2 t).trans (EngT.same hr t).symm⟩
theorem EngT.sq {e:EngD}(wk:EngWk e){t:Tm}(h:EngT e t):t.sq<=e.timers:=by
 obtain⟨d,hd,rfl⟩:=(engT_iff e t).1 h
 exact (wk.due_sq (Zaq.1 hd)).1
theorem rise_snoc {l1:List Tm}{T:Int}(hr:Rising l1)(hs:∀t,t∈l1->t.sq<=T){t:Tm}(ht:T<t.sq):Rising (l1++[t]):=by
 intro i j hij hj
 rw [List.length_append,List.length_singleton] at hj
 have g:∀m,m<l1.length->(l1++[t]).getD m .z=l1.getD m .z:=fun m hm=>by
  rw [List.getD_eq_getElem?_getD,List.getD_eq_getElem?_getD,List.getElem?_append_left hm]
 rw [g i (by omega)]
 by_cases c:j<l1.length
 ·rw [g j c];exact hr i j hij c
 ·obtain rfl:j=l1.length:=by omega
  have e1:(l1++[t]).getD l1.length .z=t:=by
   rw [List.getD_eq_getElem?_getD,List.getElem?_append_right (Nat.le_refl _),Nat.sub_self];rfl
  rw [e1]
  have:=hs _ (Zbj (z:=Tm.z) hij)
  omega
theorem dues_few {e:EngD}(wk:EngWk e):e.dues.length<=150:=by
 have h1:∀(s:StD) (i k:Nat),(s.dues i k).length<=2:=by
  intro s i k
  unfold StD.dues
  rw [List.length_append]
  split<;>split<;>simp
 have h2:∀i,i<e.runs.length->((e.at_ i).dues i).length<=25:=by
  intro i hi
  unfold RunD.dues
  split
  ·rw [List.length_cons]
   have:=flat_bd (fun k=>((e.at_ i).at_ k).dues i k) 2 (List.range (e.at_ i).steps.length) (fun k _=>h1 _ _ _)
   rw [List.length_range] at this
   have:=wk.n12 hi
   omega
  ·simp
 have:=flat_bd (fun i=>(e.at_ i).dues i) 25 (List.range e.runs.length) (fun i hi=>h2 i (List.mem_range.1 hi))
 rw [List.length_range] at this
 have:=wk.six
 unfold EngD.dues
 omega
theorem EngT.few {e:EngD}{l:List Tm}(hr:Rising l)(hs:∀t,t∈l->EngT e t)(wk:EngWk e):l.length<=150:=by
 have hnd:l.Nodup:=by
  rw [List.nodup_iff_pairwise_ne,List.pairwise_iff_getElem]
  intro i j hi hj hij e2
  have:=hr i j hij hj
  rw [List.getD_eq_getElem?_getD,List.getD_eq_getElem?_getD,List.getElem?_eq_getElem hi,List.getElem?_eq_getElem hj] at this
  simp only [Option.getD_some] at this
  rw [e2] at this
  omega
 have h2:l.length<=(e.dues.map e.tmOf).length:=by
  classical
  have:∀(a b:List Tm),a.Nodup->(∀x∈a,x∈b)->a.length<=b.length:=by
   intro a
   induction a with
   | nil=>intro b _ _;simp
   | cons x a ih =>
    intro b hd hs
    rw [List.nodup_cons] at hd
    obtain⟨b1,b2,rfl⟩:=List.append_of_mem (hs x (List.mem_cons_self ..))
    have:=ih (b1++b2) hd.2 (fun y hy=>by
     have h3:=hs y (List.mem_cons_of_mem _ hy)
     rw [List.mem_append,List.mem_cons] at h3
     rw [List.mem_append]
     rcases h3 with h3 | rfl | h3
     ·exact Or.inl h3
     ·exact absurd hy hd.1
     ·exact Or.inr h3)
    simp only [List.length_append,List.length_cons] at this ⊢
    omega
  exact this _ _ hnd (fun t ht=>by
   obtain⟨d,hd,rfl⟩:=(engT_iff e t).1 (hs t ht)
   exact List.mem_map.2 ⟨d,hd,rfl⟩)
 rw [List.length_map] at h2
 have:=dues_few wk
 omega
theorem TimR.few {e:EngD}{l:List Tm}(h:TimR e l)(wk:EngWk e):l.length<=150:=EngT.few h.rising (fun t ht=>((Zbe.1 h).2 t).1 ht) wk
theorem Zdg {now span:Int}(h0:1<=span):Za0 now (now+span)=Zas now span:=by
 unfold Za0 Zas
 rw [if_neg (by omega)]
def RunD.upAll (r:RunD)(k:Nat):Prop:=∀a,a<r.fl.an k->(r.at_ (r.fl.af k a).toNat).st=5
theorem Zbt {r:RunD}{k:Nat}:r.free k=true↔(r.at_ k).st=1/\r.upAll k:=by
 unfold RunD.free RunD.upAll
 simp only [Bool.and_eq_true,beq_iff_eq,List.all_eq_true,List.mem_range]
theorem lost_iff {r:RunD}{k:Nat}:r.lost k=true↔(r.at_ k).st=1/\∃a,a<r.fl.an k/\((r.at_ (r.fl.af k a).toNat).st=6\/(r.at_ (r.fl.af k a).toNat).st=7):=by
 unfold RunD.lost
 simp only [Bool.and_eq_true,beq_iff_eq,List.any_eq_true,List.mem_range,Bool.or_eq_true]
structure RunHalf (r:RunD):Prop where
 up:∀k,k<r.steps.length->2<=(r.at_ k).st->(r.at_ k).st<=6->r.upAll k
 shut:r.st=1->∀k,k<r.steps.length->r.lost k=false
structure RunUp (r:RunD):Prop where
 half:RunHalf r
 still:r.st=1->∀k,k<r.steps.length->r.free k=false
def EngUp (e:EngD):Prop:=∀i,i<e.runs.length->RunUp (e.at_ i)
theorem at_out {r:RunD}{k:Nat}(h:¬k<r.steps.length):r.at_ k=StD.z:=by
 unfold RunD.at_
 rw [List.getD_eq_getElem?_getD,List.getElem?_eq_none (by omega)];rfl
theorem RunHalf.to {r r2:RunD}(h:RunHalf r)(hf:r2.fl=r.fl)(hl:r2.steps.length=r.steps.length)
  (hu:∀k,k<r.steps.length->2<=(r2.at_ k).st->(r2.at_ k).st<=6->(2<=(r.at_ k).st/\(r.at_ k).st<=6)\/r2.upAll k)
  (hd:∀m,(r.at_ m).st=5->(r2.at_ m).st=5)
  (hs:r2.st=1->∀k,k<r.steps.length->r2.lost k=false):RunHalf r2:=by
 refine⟨fun k hk h2 h6=> ?_,fun h1 k hk=>hs h1 k (by omega)⟩
 rw [hl] at hk
 rcases hu k hk h2 h6 with⟨a,b⟩ | a
 ·intro x hx
  rw [hf] at hx ⊢
  exact hd _ (h.up k hk a b x hx)
 ·exact a
theorem not_lost {r r2:RunD}{k:Nat}(hf:r2.fl=r.fl)(h:r.lost k=false)(h1:(r2.at_ k).st=1->(r.at_ k).st=1)
  (h6:∀m,(r2.at_ m).st=6\/(r2.at_ m).st=7->(r.at_ m).st=6\/(r.at_ m).st=7):r2.lost k=false:=by
 rw [Bool.eq_false_iff] at h ⊢
 intro x
 obtain⟨a,b,c,d⟩:=lost_iff.1 x
 rw [hf] at c d
 exact h (lost_iff.2 ⟨h1 a,b,c,h6 _ d⟩)
theorem not_free {r r2:RunD}{k:Nat}(hf:r2.fl=r.fl)(h:r.free k=false)(h1:(r2.at_ k).st=1->(r.at_ k).st=1)
  (h5:∀m,(r2.at_ m).st=5->(r.at_ m).st=5):r2.free k=false:=by
 rw [Bool.eq_false_iff] at h ⊢
 intro x
 obtain⟨a,b⟩:=Zbt.1 x
 refine h (Zbt.2 ⟨h1 a,fun c hc=>h5 _ ?_⟩)
 have:=b c (by rw [hf];exact hc)
 rwa [hf] at this
theorem RunUp.calm {r:RunD}(h:RunUp r){k:Nat}(hk:k<r.steps.length){f:StD->StD}(a:2<=(r.at_ k).st/\(r.at_ k).st<=4)(b:2<=(f (r.at_ k)).st/\(f (r.at_ k)).st<=4):RunUp (r.onStep k f):=by
 have hs:∀m,(r.onStep k f).at_ m=r.at_ m\/(m=k/\(r.onStep k f).at_ m=f (r.at_ k)):=fun m=>by
  by_cases c:k=m
  ·subst c;exact Or.inr ⟨rfl,Zbc _ _ hk⟩
  ·exact Or.inl (Zbb _ _ c)
 have e1:∀m,((r.onStep k f).at_ m).st=1->(r.at_ m).st=1:=fun m x=>by
  rcases hs m with c | ⟨c,d⟩
  ·rwa [c] at x
  ·rw [d] at x;omega
 have e5:∀m,((r.onStep k f).at_ m).st=5->(r.at_ m).st=5:=fun m x=>by
  rcases hs m with c | ⟨c,d⟩
  ·rwa [c] at x
  ·rw [d] at x;omega
 have e6:∀m,((r.onStep k f).at_ m).st=6\/((r.onStep k f).at_ m).st=7->(r.at_ m).st=6\/(r.at_ m).st=7:=fun m x=>by
  rcases hs m with c | ⟨c,d⟩
  ·rwa [c] at x
  ·rw [d] at x;omega
 refine⟨h.half.to rfl (Zal _ _ _) (fun m hm x y=> ?_) (fun m x=> ?_) (fun g m hm=>not_lost (r:=r) rfl (h.half.shut g m hm) (e1 m) e6),fun g m hm=>not_free (r:=r) rfl (h.still g m (by rwa [Zal] at hm)) (e1 m) e5⟩
 ·rcases hs m with c | ⟨c,d⟩
  ·rw [c] at x y;exact Or.inl ⟨x,y⟩
  ·subst c;exact Or.inl ⟨a.1,by omega⟩
 ·rcases hs m with c | ⟨c,d⟩
  ·rw [c];exact x
  ·subst c;omega
theorem endRun_out (st ends:Int){r:RunD}{k:Nat}(h:¬k<r.steps.length):(Zdq st ends r).at_ k=r.at_ k:=by
 rw [at_out (by rw [Zbk];exact h),at_out h]
theorem RunHalf.ended {r:RunD}(h:RunHalf r){st ends:Int}(hst:st≠1):RunUp (Zdq st ends r):=by
 have hs:∀m,m<r.steps.length->((Zdq st ends r).at_ m).st=(if (r.at_ m).st=5\/(r.at_ m).st=6 then (r.at_ m).st else 7):=fun m hm=>by
  rw [Zdw _ _ _ hm];unfold endSt;split<;>rfl
 refine⟨h.to rfl (Zbk _ _ _) (fun m hm x y=> ?_) (fun m x=> ?_) (fun g=>absurd g hst),fun g=>absurd g hst⟩
 ·have:=hs m hm
  split at this<;>omega
 ·by_cases hm:m<r.steps.length
  ·rw [hs m hm,if_pos (Or.inl x)];exact x
  ·rw [endRun_out _ _ hm];exact x
theorem RunUp.of_settle {e:EngD}{i:Nat}(hi:i<e.runs.length)(h:RunUp (e.at_ i)):RunUp ((e.settle i).at_ i):=by
 unfold EngD.settle
 cases ho:(e.at_ i).outcome with
 | none=>exact h
 | some st =>
  simp only
  rw [end_at e i st hi,if_pos rfl]
  exact h.half.ended (by have:=Zdm ho;omega)
theorem settle_len (e:EngD)(i:Nat):(e.settle i).runs.length=e.runs.length:=by
 unfold EngD.settle
 split
 ·rfl
 ·exact end_len e i _
theorem settle_other {e:EngD}{i j:Nat}(hj:j<e.runs.length)(hn:j≠i):(e.settle i).at_ j=e.at_ j:=by
 unfold EngD.settle
 split
 ·rfl
 ·rw [end_at e i _ hj,if_neg (fun x=>hn x.symm)]
theorem wake_any {e:EngD}(h:EngWk e){i:Nat}(hi:i<e.runs.length)(h1:(e.at_ i).st=1)(m:Nat):((e.wake i).at_ i).at_ m=if (e.at_ i).free m then { (e.at_ i).at_ m with st:=2 } else (e.at_ i).at_ m:=by
 by_cases hm:m<(e.at_ i).steps.length
 ·exact wake_at hi hm
 ·rw [at_out (by rw [(h.wake hi h1).2.steps];exact hm),at_out hm,if_neg]
  intro x
  have:=(Zbt.1 x).1
  rw [at_out hm] at this
  exact absurd this (by decide)
theorem RunHalf.wake {e:EngD}(h:EngWk e){i:Nat}(hi:i<e.runs.length)(h1:(e.at_ i).st=1)(hh:RunHalf (e.at_ i)):RunUp ((e.wake i).at_ i):=by
 have kin:=(h.wake hi h1).2
 have hw:=wake_any h hi h1
 have hs:∀m,(((e.wake i).at_ i).at_ m).st=if (e.at_ i).free m then 2 else ((e.at_ i).at_ m).st:=fun m=>by rw [hw m];split<;>rfl
 have e5:∀m,(((e.wake i).at_ i).at_ m).st=5↔((e.at_ i).at_ m).st=5:=fun m=>by
  rw [hs m]
  split
  ·rename_i g
   have:=(Zbt.1 g).1
   omega
  ·rfl
 have e1:∀m,(((e.wake i).at_ i).at_ m).st=1->((e.at_ i).at_ m).st=1/\(e.at_ i).free m=false:=fun m x=>by
  rw [hs m] at x
  split at x
  ·omega
  ·rename_i g;exact⟨x,by simpa using g⟩
 have e6:∀m,(((e.wake i).at_ i).at_ m).st=6\/(((e.wake i).at_ i).at_ m).st=7->((e.at_ i).at_ m).st=6\/((e.at_ i).at_ m).st=7:=fun m x=>by
  rw [hs m] at x
  split at x
  ·omega
  ·exact x
 refine⟨hh.to kin.fl kin.steps (fun m hm x y=> ?_) (fun m=>(e5 m).2) (fun _ m hm=>not_lost kin.fl (hh.shut h1 m hm) (fun x=>(e1 m x).1) e6),fun _ m hm=> ?_⟩
 ·by_cases g:(e.at_ i).free m=true
  ·right
   intro a ha
   rw [kin.fl] at ha ⊢
   exact (e5 _).2 ((Zbt.1 g).2 a ha)
  ·left
   rw [hs m,if_neg g] at x y
   exact⟨x,y⟩
 ·rw [kin.steps] at hm
  rw [Bool.eq_false_iff]
  intro x
  obtain⟨a,b⟩:=Zbt.1 x
  obtain⟨c,d⟩:=e1 m a
  have:(e.at_ i).free m=true:=Zbt.2 ⟨c,fun z hz=>(e5 _).1 (by have:=b z (by rw [kin.fl];exact hz);rwa [kin.fl] at this)⟩
  rw [d] at this;cases this
end Go.Proofs.YtgdcjccbdmcebabGreatDoor
