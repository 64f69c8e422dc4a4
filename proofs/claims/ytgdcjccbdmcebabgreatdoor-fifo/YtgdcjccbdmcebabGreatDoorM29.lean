import Derived.Test.YtgdcjccbdmcebabGreatDoorM28
set_option linter.unusedSimpArgs false
set_option linter.unusedVariables false
namespace Go.Proofs.YtgdcjccbdmcebabGreatDoor
open Go.RowKit
set_option maxRecDepth 100000
attribute [local go_sem ↓] Go.wp_at_zero Go.wp_at_succ
structure WhAt (w:World)(P B:Nat)(K:Nat->Prop)(now:Nat)(l:List Tm):Prop where
 mem:∃dm rw_ wd,PwAt w P B K now dm rw_ (Zaf now l) wd/\DueAt w B dm l/\Words wd (Zaf now l)
 now_:now<=4611686018427387904
 few:l.length<=200
 later:Later now l
 ids:IdsOk l
 apart:Apart l
theorem nil_eq (w:World):(binOp .eql 132 (.map none) (.map none)).run Tryz.prog w= .ok (.bool true) w:=by kernel_rfl
theorem nil_ne (bm:Nat)(w:World):(binOp .eql 132 (.map (some bm)) (.map none)).run Tryz.prog w= .ok (.bool false) w:=by kernel_rfl
def errV (x:Int):Value:=if x=0 then .nilIface else .iface 36 (.int .i64 x)
theorem clamp_val (now:Nat)(tm:Int)(h0:0<=tm)(hn:now<=4611686018427387904):min (max tm ((now:Int)+1)) 4611686018427387904=Za0 now tm:=by
 unfold Za0
 split<;>split<;>omega
theorem clamp_ok (now:Nat)(tm:Int)(h0:0<=tm)(hn:now<=4611686018427387904):(now:Int)<=Za0 now tm/\Za0 now tm<=4611686018427387904:=by
 rw [<-clamp_val now tm h0 hn];omega
theorem Later.snoc {n:Nat}{l:List Tm}(h:Later n l){t:Tm}(ht:(n:Int)<=t.tm/\t.tm<=4611686018427387904):Later n (l++[t]):=by
 intro x hx
 rcases List.mem_append.1 hx with h1 | h1
 ·exact h x h1
 ·simp at h1;subst h1;exact ht
theorem IdsOk.snoc {l:List Tm}(h:IdsOk l){t:Tm}(ht:IdOk t.id):IdsOk (l++[t]):=by
 intro i hi
 rw [List.length_append,List.length_singleton] at hi
 rw [Zde l t i hi]
 by_cases h1:i<l.length
 ·rw [if_pos h1];exact h i h1
 ·rw [if_neg h1];exact ht
theorem Apart.snoc {l:List Tm}(h:Apart l){t:Tm}(hn:¬hasId l t.id l.length):Apart (l++[t]):=by
 intro i j hij hj
 rw [List.length_append,List.length_singleton] at hj
 rw [Zde _ _ i (by omega),Zde _ _ j hj,if_pos (by omega:i<l.length)]
 by_cases h1:j<l.length
 ·rw [if_pos h1];exact h i j hij h1
 ·rw [if_neg h1];exact fun e=>hn ⟨i,by omega,e⟩
theorem Later.cut {n:Nat}{l:List Tm}(h:Later n l){b:Nat}:Later n (l.take b++l.drop (b+1)):=by
 intro x hx
 rcases List.mem_append.1 hx with h1 | h1
 ·exact h x (List.mem_of_mem_take h1)
 ·exact h x (List.mem_of_mem_drop h1)
theorem IdsOk.cut {l:List Tm}(h:IdsOk l){b:Nat}(hb:b<l.length):IdsOk (l.take b++l.drop (b+1)):=by
 intro i hi
 have hl:=Zcb l b hb
 rw [Zc1 l b i hb]
 exact h _ (by split<;>omega)
theorem wh_put {w':World}{P B:Nat}{K:Nat->Prop}{now bm:Nat}{rw':Nat->Value}{wd:Nat->Nat}{l:List Tm}{D:DataW Unit}{t:Tm}{tn x':Nat}(htn:t.tm=(tn:Int))(hnow:now<=4611686018427387904)(hlen:l.length<200)(hL:Later now l)(hids:IdsOk l)(hap:Apart l)(hno:¬hasId l t.id l.length)(hid:IdOk t.id)(ht:(now:Int)<=t.tm/\t.tm<=4611686018427387904)(hD:Due D l)(hT:Maps.Tidy D)(hbm:B<=bm)(hw:Words wd (Zaf now l))
  (hp:PwAt w' P B K now (.map (some bm)) rw' (updF (Zaf now l) (pl now tn) (Zaf now l (pl now tn)++[t.id])) (updF wd (lev now tn) x')) (hx:x'=wd (lev now tn) ||| 2 ^ slt (lev now tn) tn) (hm:Za8 (D.put (keyL t.id) (.lit (.int .u64 t.tm))) w' bm (Maps.size (D.put (keyL t.id) (.lit (.int .u64 t.tm))))):WhAt w' P B K now (l++[t]):=by
 have e0:t.tm.toNat=tn:=by rw [htn];rfl
 have e:Zaf now (l++[t])=updF (Zaf now l) (pl now tn) (Zaf now l (pl now tn)++[t.id]):=by
  funext j
  rw [placed_snoc,e0]
  by_cases h:pl now tn=j
  ·subst h;rw [if_pos rfl,Za9]
  ·rw [if_neg h,Zaz _ _ _ (Ne.symm h)]
 refine⟨⟨_,rw',_,by rw [e];exact hp,Or.inr ⟨bm,_,rfl,hbm,hm,hD.put hT t hno hid hids⟩,?_⟩,hnow,by simp;omega,hL.snoc ht,hids.snoc hid,hap.snoc hno⟩
 rw [e,hx]
 exact hw.put (by have:=lev_top now tn hnow (by omega);omega) (Zds _ _) t.id
def KBox (w:World)(b:Nat)(r nd q:Int):Prop:=(w.cell? ⟨b,0,none⟩=some (.int .u64 r)/\w.cell? ⟨b,1,none⟩=some (.int .i64 nd))/\w.cell? ⟨b,2,none⟩=some (.int .i64 q)
theorem KBox.at_ {w w':World}{b:Nat}{r nd q:Int}(h:KBox w b r nd q)(e:w'.heap[b]? =w.heap[b]?):KBox w' b r nd q :=
 ⟨⟨(World.cell?_of_block (a:=⟨b,0,none⟩) e).trans h.1.1,(World.cell?_of_block (a:=⟨b,1,none⟩) e).trans h.1.2⟩,(World.cell?_of_block (a:=⟨b,2,none⟩) e).trans h.2⟩
theorem KBox.lt {w:World}{b:Nat}{r nd q:Int}(h:KBox w b r nd q):b<w.heap.size:=by
 rcases Nat.lt_or_ge b w.heap.size with h' | h'
 ·exact h'
 ·have:=h.1.1;simp [World.cell?,Array.getElem?_eq_none h'] at this
theorem KBox.below {w w':World}{b:Nat}{r nd q:Int}(h:KBox w b r nd q)(e:Below w.heap.size w w'):KBox w' b r nd q:=h.at_ (e.block b h.lt)
theorem KBox.setCell {w:World}{b:Nat}{r nd q:Int}(h:KBox w b r nd q){a:Addr}(v:Value)(e:b≠a.block):KBox (w.setCell a v) b r nd q:=h.at_ (Below.heap_setCell w a v b e)
theorem KBox.grown {w w':World}{b:Nat}{r nd q:Int}(h:KBox w b r nd q){o:Option Nat}(g:w.grownBy w' o)(e:some b≠o):KBox w' b r nd q:=h.at_ (g.block b h.lt e)
theorem box_new (w:World)(r nd q:Int):KBox (w.alloc (.cells #[.int .u64 r, .int .i64 nd, .int .i64 q] 183)) w.heap.size r nd q:=boxed w r nd q _ rfl
theorem pe_inj {v v':Value}{d:DataW Unit}{p p':List MemPlace}(h:plainElem Tryz.prog 39 v=some (d,p))(h':plainElem Tryz.prog 39 v'=some (d,p')):v=v':=by
 unfold plainElem at h h'
 rw [Tryz.underlying39] at h h'
 cases v<;>simp at h
 cases v'<;>simp at h'
 obtain⟨⟨rfl,_⟩,rfl,_⟩:=h
 obtain⟨⟨rfl,_⟩,h2,_⟩:=h'
 injection h2 with h2
 injection h2 with _ h2
 rw [h2]
theorem drewN_mapOf {D:DataW Unit}{w:World}{bm n m:Nat}(h:Za8 D w bm n):Za8 D (w.drewN m) bm n:=h
theorem below_drewN (w:World)(m:Nat):Below w.heap.size w (w.drewN m):=⟨rfl,rfl,rfl,Nat.le_refl _,fun _ _=>rfl⟩
theorem mapOf_below {D:DataW Unit}{w w':World}{bm n:Nat}(h:Za8 D w bm n)(hb:Below w.heap.size w w'):Za8 D w' bm n:=by
 obtain⟨es,clock,m1,m2⟩:=h
 exact⟨es,clock,(hb.block bm (Array.getElem?_eq_some_iff.1 m1).1).trans m1,m2⟩
theorem look_all {D:DataW Unit}{w:World}{bm n:Nat}(h:Za8 D w bm n){r nd q id:Int}(hk:KeyOk r nd q id):∃v0,∀m,(Instr.lookup 132 (.map (some bm)) (.agg #[.int .u64 r, .int .i64 nd, .int .i64 q]) true).run Tryz.prog (w.drewN m)= .ok (.tuple #[v0, .bool (Maps.has D (keyL id))]) (w.drewN m):=by
 have hkv:keyV id= .agg #[.int .u64 r, .int .i64 nd, .int .i64 q]:=by unfold keyV;rw [Zcw hk]
 have one:∀m,∃v ps,(Instr.lookup 132 (.map (some bm)) (.agg #[.int .u64 r, .int .i64 nd, .int .i64 q]) true).run Tryz.prog (w.drewN m)= .ok (.tuple #[v, .bool (Maps.has D (keyL id))]) (w.drewN m)/\plainElem Tryz.prog 39 v=some (D.atKey (keyL id) u0,ps):=fun m=>by
  rw [<-hkv]
  exact World.ownsMap.look_ok (drewN_mapOf (m:=m) h) lawK Tryz.underlying132 (zeroU _) (plainElem_int Tryz.underlying39 (by decide)) (Zc4 hk.ok)
 obtain⟨v0,p0,_,e0⟩:=one 0
 refine⟨v0,fun m=> ?_⟩
 obtain⟨v,p,h1,h2⟩:=one m
 rw [h1,pe_inj h2 e0]
theorem look_no (w:World){r nd q id:Int}(hk:KeyOk r nd q id):∀m,(Instr.lookup 132 (.map none) (.agg #[.int .u64 r, .int .i64 nd, .int .i64 q]) true).run Tryz.prog (w.drewN m)= .ok (.tuple #[.int .u64 0, .bool false]) (w.drewN m):=fun m=>by
 have hkv:keyV id= .agg #[.int .u64 r, .int .i64 nd, .int .i64 q]:=by unfold keyV;rw [Zcw hk]
 have lk:=Maps.look_nil (w:=w.drewN m) true lawK Tryz.underlying132 (zeroU _) (Zc4 hk.ok)
 rw [if_pos rfl,hkv] at lk
 exact lk
set_option maxHeartbeats 8000000 in
theorem wset_any (w:World)(P B:Nat)(K:Nat->Prop)(now:Nat)(l:List Tm)(id r nd q tm sq:Int)(h:WhAt w P B K now l)(hid:KeyOk r nd q id)(h0:0<=tm)(_h1:tm<18446744073709551616) :
  Calls Tryz.prog 138 #[.pointer (some ⟨P,11,none⟩), .agg #[.int .u64 r, .int .i64 nd, .int .i64 q], .int .u64 tm] w fun e w'=>∃x l' sq',e= .returned (errV x)/\SetIs l now sq id tm x l' sq'/\WhAt w' P B K now l'/\PF w w' P B K:=by
 have hkv:keyV id= .agg #[.int .u64 r, .int .i64 nd, .int .i64 q]:=by unfold keyV;rw [Zcw hid]
 have HKO:=Hid.mk (hkv▸Zc4 hid.ok)
 have HID:=Hid.mk hid
 obtain⟨w0,hw0⟩:∃w0,w0=w.alloc (.cells #[.int .u64 r, .int .i64 nd, .int .i64 q] 183):=⟨_,rfl⟩
 obtain⟨bx,hbx⟩:∃bx,bx=w.heap.size:=⟨_,rfl⟩
 have HBX:=Hid.mk (show KBox w0 bx r nd q by rw [hw0,hbx];exact box_new w r nd q)
 have hB0:Below w.heap.size w w0:=by rw [hw0];exact (Below.refl _ _).alloc (Nat.le_refl _) _
 obtain⟨⟨dm,rw_,wd,hp,hdue,hw⟩,hnow,hfew,hlat,hids,hap⟩:=h
 have HA:=Hid.mk (And.intro hnow (And.intro hfew (And.intro hlat (And.intro hids (And.intro hap hw)))))
 have HC:=Hid.mk (clamp_ok now tm h0 hnow)
 have e1:IntKind.u64.wrap ((now:Int)+1)=(now:Int)+1:=by rw [IntKind.wrap_u64];omega
 have e2:=clamp_val now tm h0 hnow
 have hmm:=@run_makeMap Tryz.prog
 have HBP:Hid (bx≠P):=Hid.mk (by have:=hp.pb;have:=hp.bs;omega)
 have HP0:=Hid.mk (hp.keep hB0)
 have HF0:=Hid.mk (PF.of_below (P:=P) (B:=B) (K:=K) hB0)
 have c1:=HP0.out.c1
 have HW0:=Hid.mk (And.intro hbx hw0)
 clear hnow hlat hids hap hw hp hkv hid hbx hw0
 obtain⟨⟨z0,z1⟩,z2⟩:=HBX.out
 rcases hdue with⟨rfl,hl0⟩ | ⟨bm,D,rfl,hbm,hm,hD⟩
 ·have lk:=look_no w0 HID.out
  clear hB0
  go_enter Tryz.func138,Tryz.ntmps138
  go_upto_region 1 with fail
  rw [<-HW0.out.1,<-HW0.out.2]
  go_quiet (fail)
  have HP1:=Hid.mk (HP0.out.keep (below_drewN w0 nq))
  have HF1:=Hid.mk (HF0.out.trans (PF.of_below (P:=P) (B:=B) (K:=K) (below_drewN w0 nq)))
  have HX1:=Hid.mk (HBX.out.below (below_drewN w0 nq))
  have ln:=Maps.len_nil (w:=w0.drewN nq) Tryz.underlying132 3
  have HPB:=Hid.mk (And.intro HP1.out.pb HP1.out.bs)
  clear c1 z0 z1 z2 lk
  generalize w0.drewN nq=w1 at *
  have c1:=HP1.out.c1
  have f1:=HP1.out.fz 12
  have c1a:=cell_later ((Below.refl _ _).alloc (Nat.le_refl _) (.map #[] 0)) c1
  have f1a:=(((Below.refl w1.heap.size w1).alloc (Nat.le_refl _) (.map #[] 0)).frozen (p:=⟨P,12,none⟩) (by simp;have:=HPB.out;omega)).trans f1
  have nil1:=nil_eq
  go_upto_region 8 with fail
  have HP2:=Hid.mk ((HP1.out.keep ((Below.refl _ _).alloc (Nat.le_refl _) (.map #[] 0))).setDue (.map (some w1.heap.size)))
  have HM2:Hid (Za8 (.map []) ((w1.alloc (.map #[] 0)).setCell ⟨P,12,none⟩ (.map (some w1.heap.size))) w1.heap.size (Maps.size (.map []:DataW Unit))):=Hid.mk (World.ownsMap.setCell (World.ownsMap_made w1 _ _ _) (by simp;have:=HPB.out;omega) _)
  have HF2:Hid (PF w ((w1.alloc (.map #[] 0)).setCell ⟨P,12,none⟩ (.map (some w1.heap.size))) P B K):=Hid.mk (HF1.out.trans ((PF.of_below ((Below.refl _ _).alloc (Nat.le_refl _) (.map #[] 0))).trans (PF.setP _ P B K 12 _ (by omega))))
  have HX2:Hid (KBox ((w1.alloc (.map #[] 0)).setCell ⟨P,12,none⟩ (.map (some w1.heap.size))) bx r nd q):=Hid.mk ((HX1.out.below ((Below.refl _ _).alloc (Nat.le_refl _) (.map #[] 0))).setCell _ HBP.out)
  have HBM:Hid (bx≠w1.heap.size):=Hid.mk (by have:=HX1.out.lt;omega)
  have hbm:B<=w1.heap.size:=HPB.out.2
  have HD2:Hid (Due (.map []) l/\¬hasId l id l.length/\l.length≠200):=Hid.mk (by subst hl0;exact⟨due_nil,(fun ⟨j,hj,_⟩=>by simp at hj),by simp⟩)
  clear c1a f1a c1 f1 ln nil1 HP1 HF1 HX1
  generalize (DataW.map []:DataW Unit)=D at *
  clear hl0
  generalize (w1.alloc (.map #[] 0)).setCell ⟨P,12,none⟩ (.map (some w1.heap.size))=w2 at *
  generalize w1.heap.size=bm at *
  have c0:=HP2.out.c0
  have c1:=HP2.out.c1
  obtain⟨⟨z0,z1⟩,z2⟩:=HX2.out
  obtain⟨w3,hup,hown3,hg3⟩:=World.ownsMap.update (w:=w2.drew) HM2.out lawK Tryz.underlying132 (by have:=HD2.out.1.size;have:=HA.out.2.1;unfold maxLen;omega) HKO.out (plainElem_int Tryz.underlying39 (wf_u64 (x:=Za0 now tm) (by have:=HC.out;omega) (by have:=HC.out;omega)))
  have h3:=HP2.out.keep ((Below.refl w2.heap.size w2).drew)
  obtain⟨k1,k2⟩:=h3.mapped (HM2.out:Za8 D w2.drew bm (Maps.size D)) hbm hg3
  have HP3:=Hid.mk k1
  have HF3:=Hid.mk (HF2.out.trans ((PF.of_below ((Below.refl w2.heap.size w2).drew)).trans k2))
  have HM3:=Hid.mk (Zch hown3)
  have HX3:=Hid.mk ((HX2.out.below ((Below.refl w2.heap.size w2).drew)).grown hg3 (by simpa using HBM.out))
  clear h3 k1 k2 hown3 hg3
  go_region
  have HT:=Hid.mk (HM2.out.tidy lawK)
  clear hup HP2 HM2 c0 c1 HF2 z0 z1 z2 HX2
  have c1:=HP3.out.c1
  obtain⟨⟨z0,z1⟩,z2⟩:=HX3.out
  obtain⟨tn,htn⟩:∃tn:Nat,Za0 now tm=(tn:Int):=⟨(Za0 now tm).toNat,by have:=HC.out;omega⟩
  have hput:=put_any w3 P B K now tn rw_ (Zaf now l) wd bm (D.put (keyL id) (.lit (.int .u64 (Za0 now tm)))) id r nd q HP3.out HM3.out hbm HID.out (by rw [Maps.atKey_put_same HT.out.isMap (keyLit id),htn]) HA.out.1 (by have:=HC.out;omega) (fun j hj=>(HA.out.2.2.2.2.2 j hj).1) (by have:=Zct now l (pl now tn);have:=HA.out.2.1;omega)
  have HPUT:=Hid.mk hput
  have HTN:=Hid.mk htn
  clear hput htn
  go_wp2_with (go_at_call 191;refine HPUT.out.mono ?_;rintro e w4 ⟨rfl,v',x',hp',hx,hm',hf',hn'⟩;have HN:=Hid.mk (And.intro hp' (And.intro hx (And.intro hm' hf')));clear hp' hx hm' hf' hn')
  go_ret
  refine⟨0,l++[⟨id,Za0 now tm,sq+1⟩],sq+1,rfl,Or.inr (Or.inr ⟨HD2.out.2.1,HD2.out.2.2,rfl,rfl,rfl⟩),?_,HF3.out.trans HN.out.2.2.2⟩
  exact wh_put (t:=⟨id,Za0 now tm,sq+1⟩) HTN.out HA.out.1 (by have:=HA.out.2.1;have:=HD2.out.2.2;omega) HA.out.2.2.1 HA.out.2.2.2.1 HA.out.2.2.2.2.1 HD2.out.2.1 HID.out.ok HC.out HD2.out.1 HT.out hbm HA.out.2.2.2.2.2 HN.out.1 HN.out.2.1 HN.out.2.2.1
 ·have hm0:Za8 D w0 bm (Maps.size D):=mapOf_below hm hB0
  obtain⟨v0,lk⟩:=look_all hm0 HID.out
  have HM0:=Hid.mk hm0
  have HBM:Hid (bx≠bm):=Hid.mk (by have:=hm.lt;have:=HW0.out.1;omega)
  have HD:=Hid.mk hD
  clear hB0 hm hm0
  by_cases hh:hasId l id l.length
  ·have eh:Maps.has D (keyL id)=true:=(hD.has id HID.out.ok).2 hh
   rw [eh] at lk
   have HH:=Hid.mk hh
   clear hD eh hh
   go_enter Tryz.func138,Tryz.ntmps138
   go_upto_region 1 with fail
   rw [<-HW0.out.1,<-HW0.out.2]
   go_quiet (fail)
   have HP1:=Hid.mk (HP0.out.keep (below_drewN w0 nq))
   have HF1:=Hid.mk (HF0.out.trans (PF.of_below (P:=P) (B:=B) (K:=K) (below_drewN w0 nq)))
   have HX1:=Hid.mk (HBX.out.below (below_drewN w0 nq))
   have HM1:Hid (Za8 D (w0.drewN nq) bm (Maps.size D)):=HM0
   go_wp2_with fail
   go_ret
   exact⟨8,l,sq,rfl,Or.inl ⟨HH.out,rfl,rfl,rfl⟩,⟨⟨_,rw_,wd,HP1.out,Or.inr ⟨bm,D,rfl,hbm,HM1.out,HD.out⟩,HA.out.2.2.2.2.2⟩,HA.out.1,HA.out.2.1,HA.out.2.2.1,HA.out.2.2.2.1,HA.out.2.2.2.2.1⟩,HF1.out⟩
  ·have eh:Maps.has D (keyL id)=false:=by
    cases e:Maps.has D (keyL id)
    ·rfl
    ·exact absurd ((hD.has id HID.out.ok).1 e) hh
   rw [eh] at lk
   have HH:=Hid.mk hh
   clear eh hh
   by_cases h200:l.length=200
   ·have hsz:=hD.size
    clear hD
    go_enter Tryz.func138,Tryz.ntmps138
    go_upto_region 1 with fail
    rw [<-HW0.out.1,<-HW0.out.2]
    go_quiet (fail)
    have HP1:=Hid.mk (HP0.out.keep (below_drewN w0 nq))
    have HF1:=Hid.mk (HF0.out.trans (PF.of_below (P:=P) (B:=B) (K:=K) (below_drewN w0 nq)))
    have HX1:=Hid.mk (HBX.out.below (below_drewN w0 nq))
    have HM1:Hid (Za8 D (w0.drewN nq) bm (Maps.size D)):=HM0
    have ln:=World.ownsMap.len HM1.out Tryz.underlying132 3
    rw [hsz,h200] at ln
    clear lk hsz z0 z1 z2
    generalize w0.drewN nq=w1 at *
    have c1:=HP1.out.c1
    go_wp2_with fail
    go_ret
    exact⟨5,l,sq,rfl,Or.inr (Or.inl ⟨HH.out,h200,rfl,rfl,rfl⟩),⟨⟨_,rw_,wd,HP1.out,Or.inr ⟨bm,D,rfl,hbm,HM1.out,HD.out⟩,HA.out.2.2.2.2.2⟩,HA.out.1,HA.out.2.1,HA.out.2.2.1,HA.out.2.2.2.1,HA.out.2.2.2.2.1⟩,HF1.out⟩
   ·have hsz:=hD.size
    have g3:decide ((200:Int)<=(l.length:Int))=false:=decide_eq_false (by have:=HA.out.2.1;omega)
    have HD2:Hid (Due D l/\¬hasId l id l.length/\l.length≠200):=Hid.mk ⟨HD.out,HH.out,h200⟩
    clear hD
    go_enter Tryz.func138,Tryz.ntmps138
    go_upto_region 1 with fail
    rw [<-HW0.out.1,<-HW0.out.2]
    go_quiet (fail)
    have HP1:=Hid.mk (HP0.out.keep (below_drewN w0 nq))
    have HF1:=Hid.mk (HF0.out.trans (PF.of_below (P:=P) (B:=B) (K:=K) (below_drewN w0 nq)))
    have HX1:=Hid.mk (HBX.out.below (below_drewN w0 nq))
    have HM2:Hid (Za8 D (w0.drewN nq) bm (Maps.size D)):=HM0
    have ln:=World.ownsMap.len HM2.out Tryz.underlying132 3
    rw [hsz] at ln
    have HP2:=HP1
    have HF2:=HF1
    have HX2:=HX1
    clear lk hsz z0 z1 z2 HP1 HF1 HX1
    generalize w0.drewN nq=w2 at *
    have c1:=HP2.out.c1
    have nil1:=nil_ne bm
    go_upto_region 8 with fail
    clear c1 ln nil1
    have c0:=HP2.out.c0
    have c1:=HP2.out.c1
    obtain⟨⟨z0,z1⟩,z2⟩:=HX2.out
    obtain⟨w3,hup,hown3,hg3⟩:=World.ownsMap.update (w:=w2.drew) HM2.out lawK Tryz.underlying132 (by have:=HD2.out.1.size;have:=HA.out.2.1;unfold maxLen;omega) HKO.out (plainElem_int Tryz.underlying39 (wf_u64 (x:=Za0 now tm) (by have:=HC.out;omega) (by have:=HC.out;omega)))
    have h3:=HP2.out.keep ((Below.refl w2.heap.size w2).drew)
    obtain⟨k1,k2⟩:=h3.mapped (HM2.out:Za8 D w2.drew bm (Maps.size D)) hbm hg3
    have HP3:=Hid.mk k1
    have HF3:=Hid.mk (HF2.out.trans ((PF.of_below ((Below.refl w2.heap.size w2).drew)).trans k2))
    have HM3:=Hid.mk (Zch hown3)
    have HX3:=Hid.mk ((HX2.out.below ((Below.refl w2.heap.size w2).drew)).grown hg3 (by simpa using HBM.out))
    clear h3 k1 k2 hown3 hg3
    go_region
    have HT:=Hid.mk (HM2.out.tidy lawK)
    clear hup HP2 HM2 c0 c1 HF2 z0 z1 z2 HX2
    have c1:=HP3.out.c1
    obtain⟨⟨z0,z1⟩,z2⟩:=HX3.out
    obtain⟨tn,htn⟩:∃tn:Nat,Za0 now tm=(tn:Int):=⟨(Za0 now tm).toNat,by have:=HC.out;omega⟩
    have hput:=put_any w3 P B K now tn rw_ (Zaf now l) wd bm (D.put (keyL id) (.lit (.int .u64 (Za0 now tm)))) id r nd q HP3.out HM3.out hbm HID.out (by rw [Maps.atKey_put_same HT.out.isMap (keyLit id),htn]) HA.out.1 (by have:=HC.out;omega) (fun j hj=>(HA.out.2.2.2.2.2 j hj).1) (by have:=Zct now l (pl now tn);have:=HA.out.2.1;omega)
    have HPUT:=Hid.mk hput
    have HTN:=Hid.mk htn
    clear hput htn
    go_wp2_with (go_at_call 191;refine HPUT.out.mono ?_;rintro e w4 ⟨rfl,v',x',hp',hx,hm',hf',hn'⟩;have HN:=Hid.mk (And.intro hp' (And.intro hx (And.intro hm' hf')));clear hp' hx hm' hf' hn')
    go_ret
    refine⟨0,l++[⟨id,Za0 now tm,sq+1⟩],sq+1,rfl,Or.inr (Or.inr ⟨HD2.out.2.1,HD2.out.2.2,rfl,rfl,rfl⟩),?_,HF3.out.trans HN.out.2.2.2⟩
    exact wh_put (t:=⟨id,Za0 now tm,sq+1⟩) HTN.out HA.out.1 (by have:=HA.out.2.1;have:=HD2.out.2.2;omega) HA.out.2.2.1 HA.out.2.2.2.1 HA.out.2.2.2.2.1 HD2.out.2.1 HID.out.ok HC.out HD2.out.1 HT.out hbm HA.out.2.2.2.2.2 HN.out.1 HN.out.2.1 HN.out.2.2.1
end Go.Proofs.YtgdcjccbdmcebabGreatDoor
