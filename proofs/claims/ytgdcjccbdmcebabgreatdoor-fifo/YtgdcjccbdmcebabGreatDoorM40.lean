import Derived.Test.YtgdcjccbdmcebabGreatDoorM39
set_option linter.unusedSimpArgs false
set_option linter.unusedVariables false
namespace Go.Proofs.YtgdcjccbdmcebabGreatDoor
open Go.RowKit
set_option maxRecDepth 100000
attribute [local go_sem ↓] Go.wp_at_zero Go.wp_at_succ
theorem Zam {w:World}{k:Nat}{cs:Array Value}{t:TypeId}{fr:Nat×Nat}(h:w.heap[k]? =some (.cells cs t fr))(j:Nat):w.cell? ⟨k,j,none⟩=cs[j]? :=by unfold World.cell?;rw [h];rfl
theorem Zav (d:DkD):d.wrote.dur=d.dur/\d.wrote.now=d.now/\d.wrote.pend=d.pend:=by
 unfold DkD.wrote
 split
 ·exact⟨rfl,rfl,rfl⟩
 ·split<;>exact⟨rfl,rfl,rfl⟩
theorem wErr_cases (d:DkD):d.wErr=0\/d.wErr=10\/d.wErr=11:=by
 unfold DkD.wErr
 split
 ·exact Or.inr (Or.inr rfl)
 ·split
  ·exact Or.inr (Or.inl rfl)
  ·exact Or.inl rfl
theorem DkAt.did {w w':World}{R D bd bn:Nat}{d:DkD}{o:OpD}(h:DkAt w R D bd bn d)(hf:∃D',FilAt w' bn (doF d.now o) D')(ho:OneF w w' bn):DkAt w' R D bd bn { d with now:=doF d.now o }/\∀(k:Nat) (ob:Obj),w.heap[k]? =some ob->(∀es c,ob≠Obj.map es c)->w'.heap[k]? =w.heap[k]? :=by
 obtain⟨pa,pc,q1,q2⟩:=h.c
 obtain⟨Dd,q3⟩:=h.fd
 obtain⟨Dn,q4⟩:=h.fn
 obtain⟨es,cl,hm,_⟩:=q4.own
 have stay:∀(k:Nat) (ob:Obj),w.heap[k]? =some ob->(∀es c,ob≠Obj.map es c)->w'.heap[k]? =w.heap[k]? :=fun k ob e hn=>ho.block k (Zaa e) (fun x=>by
  subst x
  rw [hm] at e
  exact hn es cl (Option.some.inj e).symm)
 refine⟨⟨Nat.le_trans h.rs ho.size,⟨pa,pc,q1.at_ (stay D _ q1.blk (fun _ _ x=>by cases x)),q2.1,?_⟩,⟨Dd,q3.keep (ho.block bd q3.lt h.ne) (fun k cs fr e=>stay k _ e (fun _ _ x=>by cases x))⟩,hf,h.ne,h.few,h.ops⟩,stay⟩
 rcases q2.2 with x | ⟨g,cap,cur,x,hg,hh,r⟩
 ·exact Or.inl x
 ·exact Or.inr ⟨g,cap,cur,x,hg,(stay g _ hh (fun _ _ x=>by cases x)).trans hh,r⟩
theorem strR_inj {v v':Value}{x:DataW Unit}{p p':List MemPlace}(h:strR v=some (x,p))(h':strR v'=some (x,p')):v=v':=by
 unfold strR at h h'
 split at h<;>split at h'<;>simp_all
 ·have h1:=h.1.trans h'.1.symm
  simp at h1 ⊢
  omega
 ·have h1:=h.1.trans h'.1.symm
  cases h1
 ·have h1:=h.1.trans h'.1.symm
  cases h1
theorem FilAt.look_all {w:World}{bm:Nat}{f:FilD}{D:DataW Unit}(h:FilAt w bm f D){i:Nat}(hi:i<3):∃v,∀m,(Instr.lookup 98 (.map (some bm)) (.string (nmB i)) true).run Tryz.prog (w.drewN m)= .ok (.tuple #[v, .bool (f i).isSome]) (w.drewN m):=by
 have one:∀m,∃v ps,(Instr.lookup 98 (.map (some bm)) (.string (nmB i)) true).run Tryz.prog (w.drewN m)= .ok (.tuple #[v, .bool (f i).isSome]) (w.drewN m)/\strR v=some (D.atKey (.string (nmL i)) .nil,ps):=fun m=>by
  obtain⟨v,ps,hrun,hv⟩:=World.ownsMap.look_ok (w:=w.drewN m) h.own keyedS Tryz.underlying98 (zeroSp _) (zd:= .nil) (zp:=[]) rfl (keyOf_nm i)
  rw [h.hasI hi] at hrun
  exact⟨v,ps,hrun,hv⟩
 obtain⟨v0,p0,_,e0⟩:=one 0
 refine⟨v0,fun m=> ?_⟩
 obtain⟨v,p,h1,h2⟩:=one m
 rw [h1,strR_inj h2 e0]
theorem DkAt.look {w:World}{R D bd bn:Nat}{d:DkD}(h:DkAt w R D bd bn d){i:Nat}(hi:i<3):∃v,∀m,(Instr.lookup 98 (.map (some bn)) (.string (nmB i)) true).run Tryz.prog (w.drewN m)= .ok (.tuple #[v, .bool (d.now i).isSome]) (w.drewN m):=by
 obtain⟨Dn,h1⟩:=h.fn
 exact h1.look_all hi
theorem FilAt.one {w w':World}{bm k:Nat}{f:FilD}{D:DataW Unit}(h:FilAt w bm f D)(ho:OneF w w' k)(hb:bm≠k)(hs:∀cs fr,w.heap[k]? ≠some (.cells cs 9 fr)):FilAt w' bm f D :=
 h.keep (ho.block _ h.lt hb) (fun j cs fr e=>ho.block j (Zaa e) (fun x=>hs cs fr (by rw [<-x];exact e)))
theorem DkAt.wrote {w w':World}{R D bd bn pc:Nat}{pa:Option Addr}{d:DkD}(h:DkAt w R D bd bn d)(q1:DkC w D bd bn (.slice pa d.pend.length pc) d.left d.full d.down)(q2:w.ownsRow R 147 3 (.slice pa d.pend.length pc) d.pend.length (d.pend.flatMap opC))(hc:DkC w' D bd bn (.slice pa d.pend.length pc) d.wrote.left d.wrote.full d.wrote.down)(ho:OneF w w' D):DkAt w' R D bd bn d.wrote/\w'.ownsRow R 147 3 (.slice pa d.pend.length pc) d.pend.length (d.pend.flatMap opC):=by
 obtain⟨Dd,q3⟩:=h.fd
 obtain⟨Dn,q4⟩:=h.fn
 obtain⟨e1,e2,e3⟩:=Zav d
 have hno:∀bm f D',FilAt w bm f D'->bm≠D:=fun bm f D' hf e=>by
  obtain⟨es,c,e2,_⟩:=hf.own
  rw [e,q1.blk] at e2
  cases e2
 have hown:w'.ownsRow R 147 3 (.slice pa d.pend.length pc) d.pend.length (d.pend.flatMap opC):=by
  refine⟨q2.1,?_⟩
  rcases q2.2 with x | ⟨g,cap,cur,x,hg,hh,r⟩
  ·exact Or.inl x
  ·exact Or.inr ⟨g,cap,cur,x,hg,(ho.block g (Zaa hh) (Zak hh q1.blk (by decide))).trans hh,r⟩
 refine⟨⟨Nat.le_trans h.rs ho.size,⟨pa,pc,by rw [e3];exact hc,by rw [e3];exact hown⟩,⟨Dd,by rw [e1];exact q3.one ho (hno _ _ _ q3) (fun cs fr e=>by rw [q1.blk] at e;cases e)⟩,⟨Dn,by rw [e2];exact q4.one ho (hno _ _ _ q4) (fun cs fr e=>by rw [q1.blk] at e;cases e)⟩,h.ne,by rw [e3];exact h.few,by rw [e3];exact h.ops⟩,hown⟩
theorem DkAt.pushed {w w7:World}{R D bd bn gg gcap pc:Nat}{pa:Option Addr}{d:DkD}{o:OpD}(h:DkAt w R D bd bn d)(q1:DkC w D bd bn (.slice pa d.pend.length pc) d.left d.full d.down)(q2:w.ownsRow R 147 3 (.slice pa d.pend.length pc) d.pend.length (d.pend.flatMap opC))(hf:d.pend.length<8)(ho:o.at_<3/\(o.kind=1\/o.kind=2\/o.kind=3))
  (hown:w7.ownsRow R 147 3 (.slice (some ⟨gg,0,none⟩) (d.pend.length+1) gcap) (d.pend.length+1) (d.pend.flatMap opC++opC o)) {b:Obj} (hg:(w.alloc b).drew.grownBy w7 (Value.slice pa d.pend.length pc).ownBlock) :
  DkAt (w7.setCell ⟨D,2,none⟩ (.slice (some ⟨gg,0,none⟩) (d.pend.length+1) gcap)) R D bd bn { d with pend:=d.pend++[o] }/\DF w (w7.setCell ⟨D,2,none⟩ (.slice (some ⟨gg,0,none⟩) (d.pend.length+1) gcap)) R D bd bn:=by
 obtain⟨Dd,q3⟩:=h.fd
 obtain⟨Dn,q4⟩:=h.fn
 have hbA:Below w.heap.size w (w.alloc b).drew:=((Below.refl _ _).alloc (Nat.le_refl _) _).drew
 have hob:∀k,some k=(Value.slice pa d.pend.length pc).ownBlock->∃cs fr,w.heap[k]? =some (.cells cs 147 fr):=fun k hk=>by
  rcases q2.2 with⟨h2,_⟩ | ⟨g,cap,cur,h2,_,hh,_⟩
  ·rw [h2] at hk;simp [Value.ownBlock] at hk
  ·rw [h2] at hk
   simp only [Value.ownBlock,Option.some.injEq] at hk
   subst hk
   exact⟨_,_,hh⟩
 have stay:∀(k:Nat) (ob:Obj),w.heap[k]? =some ob->(∀cs fr,ob≠Obj.cells cs 147 fr)->w7.heap[k]? =w.heap[k]? :=fun k ob e hn=>by
  have hk:=Zaa e
  refine (hg.block k (Nat.lt_of_lt_of_le hk hbA.size) (fun x=> ?_)).trans (hbA.block k hk)
  obtain⟨cs,fr,e2⟩:=hob k x
  rw [e] at e2
  exact hn cs fr (Option.some.inj e2)
 have hD7:DkC w7 D bd bn (.slice pa d.pend.length pc) d.left d.full d.down:=q1.at_ (stay D _ q1.blk (fun cs fr x=>by simp at x))
 have hfil:∀bm f Dx,FilAt w bm f Dx->FilAt (w7.setCell ⟨D,2,none⟩ (.slice (some ⟨gg,0,none⟩) (d.pend.length+1) gcap)) bm f Dx:=fun bm f Dx hx=>by
  obtain⟨es,c,e2,_⟩:=hx.own
  have hne:bm≠D:=fun e=>by rw [e,q1.blk] at e2;cases e2
  refine hx.keep ((Below.heap_setCell w7 ⟨D,2,none⟩ _ bm hne).trans (stay bm _ e2 (fun cs fr x=>by cases x))) (fun k cs fr e=> ?_)
  have hkD:k≠D:=Zak e q1.blk (by decide)
  exact (Below.heap_setCell w7 ⟨D,2,none⟩ _ k hkD).trans (stay k _ e (fun cs fr x=>by simp at x))
 refine⟨⟨?_,⟨some ⟨gg,0,none⟩,gcap,?_,?_⟩,⟨Dd,hfil _ _ _ q3⟩,⟨Dn,hfil _ _ _ q4⟩,h.ne,?_,fun x hx=> ?_⟩,⟨?_,?_,?_,?_,fun k hk h1 _ _ h4=> ?_⟩⟩
 ·have:=hg.size
  have hr:=h.rs
  simp only [World.setCell,Array.size_modify]
  exact Nat.le_trans hr (Nat.le_trans hbA.size this)
 ·simp only [List.length_append,List.length_singleton]
  exact hD7.setP _
 ·simp only [List.length_append,List.length_singleton,List.flatMap_append,List.flatMap_singleton]
  exact Zad hown hD7.blk (by decide) _
 ·simp only [List.length_append,List.length_singleton];omega
 ·rcases List.mem_append.1 hx with hx | hx
  ·exact h.ops x hx
  ·rw [List.mem_singleton.1 hx];exact ho
 ·exact hg.os
 ·exact hg.tape
 ·exact hg.output
 ·show w.heap.size<=(w7.setCell _ _).heap.size
  have:=hg.size
  simp only [World.setCell,Array.size_modify]
  exact Nat.le_trans hbA.size this
 ·refine (Below.heap_setCell w7 ⟨D,2,none⟩ _ k h1).trans ((hg.block k (Nat.lt_of_lt_of_le hk hbA.size) (fun x=> ?_)).trans (hbA.block k hk))
  obtain⟨cs,fr,e2⟩:=hob k x
  rcases h4 with h4 | h4
  ·have:=q2.lt k x.symm
   omega
  ·exact h4 cs fr e2
set_option maxHeartbeats 8000000 in
theorem tell_any (w:World)(R D bd bn:Nat)(d:DkD)(o:OpD)(h:DkAt w R D bd bn d)(hf:d.pend.length<8)(ha:o.at_<3/\(o.kind=1\/o.kind=2\/o.kind=3))(hs:∀s,d.now o.at_=some s->s.length+o.data.length<=9223372036854775807) :
  Calls Tryz.prog 257 #[.pointer (some ⟨D,0,none⟩),opV o] w fun x w'=>x= .returned (errV (d.tErr o))/\DkAt w' R D bd bn (d.told o)/\DF w w' R D bd bn:=by
 obtain⟨nm,hnm⟩:∃nm,nm=nmB o.at_:=⟨_,rfl⟩
 obtain⟨sd,hsd⟩:∃sd,sd=Zcd o.data:=⟨_,rfl⟩
 obtain⟨kd,hkd⟩:∃kd,kd=o.kind:=⟨_,rfl⟩
 obtain⟨n,hn⟩:∃n,n=d.pend.length:=⟨_,rfl⟩
 obtain⟨w0,hw0⟩:∃w0,w0=w.alloc (.cells #[.int .i64 kd, .string nm, .string sd] 147):=⟨_,rfl⟩
 obtain⟨ob,hob⟩:∃ob,ob=w.heap.size:=⟨_,rfl⟩
 have hb0:Below w.heap.size w w0:=by rw [hw0];exact (Below.refl _ _).alloc (Nat.le_refl _) _
 have hoblk:w0.heap[ob]? =some (.cells #[.int .i64 kd, .string nm, .string sd] 147 (0,0)):=by rw [hw0,hob];exact heap_alloc_new w _
 have h0:=h.below hb0
 obtain⟨pa,pc,q1,q2⟩:=h0.c
 have HWR:=Hid.mk (writes_any w0 D bd bn (.slice pa d.pend.length pc) d q1)
 rw [<-hn] at HWR
 have hDo:D≠ob:=Zak q1.blk hoblk (by decide)
 have H0:=Hid.mk (And.intro h0 (And.intro q1 (And.intro q2 (And.intro hoblk (And.intro hb0 (And.intro hw0 (And.intro hob hn)))))))
 have HO:=Hid.mk (And.intro hnm (And.intro hsd (And.intro hkd (And.intro ha hs))))
 have hf':n<8:=by rw [hn];exact hf
 obtain⟨io,hi,hz0,hz1,hz2⟩:=info_parts infoOp
 have HI:=Hid.mk (And.intro hi (And.intro hz0 (And.intro hz1 hz2)))
 unfold opV
 rw [<-hnm,<-hsd,<-hkd]
 clear h hw0 hob hb0 hoblk h0 q1 q2 hnm hsd hkd hn ha hs hf hi hz0 hz1 hz2
 rcases wErr_cases d with hE | hE | hE
 ·have hw:=hE
  rw [hE] at HWR
  clear hE
  cases hnow:d.now o.at_ with
  | none =>
   by_cases hk3:kd=3
   ·have e1:d.tErr o=9:=by unfold DkD.tErr;rw [if_neg (by rw [hw];decide),if_pos ⟨hnow,by rw [<-HO.out.2.2.1];exact hk3⟩]
    have e2:d.told o=d.wrote:=by unfold DkD.told;rw [if_neg (by rw [hw];decide),if_pos (by rw [e1];decide)]
    rw [e1,e2]
    have HNW:=Hid.mk hnow
    clear e1 e2 hw hnow
    subst hk3
    go_enter Tryz.func257,Tryz.ntmps257
    go_upto_region 1 with fail
    rw [<-H0.out.2.2.2.2.2.1,<-H0.out.2.2.2.2.2.2.1]
    go_upto_region 6 with (go_at_call 258;refine HWR.out.mono ?_;rintro _ w1 ⟨rfl,hc1,ho1⟩;have HW1:=Hid.mk (And.intro hc1 ho1);clear hc1 ho1;rw [Zay])
    obtain⟨dx,hdx⟩:∃dx,dx=d.wrote:=⟨_,rfl⟩
    have HC1:=Hid.mk (show DkC w1 D bd bn (.slice pa n pc) dx.left dx.full dx.down/\DkAt w1 R D bd bn dx/\w1.ownsRow R 147 3 (.slice pa n pc) n (d.pend.flatMap opC)/\w1.heap[ob]? =some (.cells #[.int .i64 3, .string nm, .string sd] 147 (0,0))/\dx.pend=d.pend by
     have hc1:=HW1.out.1
     have hn:=H0.out.2.2.2.2.2.2.2
     rw [hdx]
     rw [hn] at hc1 ⊢
     have hw:=H0.out.1.wrote H0.out.2.1 H0.out.2.2.1 hc1 HW1.out.2
     exact⟨hc1,hw.1,hw.2,(HW1.out.2.block ob (Zaa H0.out.2.2.2.1) (Ne.symm hDo)).trans H0.out.2.2.2.1,(Zav d).2.2⟩)
    have HDX:=Hid.mk hdx
    clear hdx
    obtain⟨v,hlook⟩:=HC1.out.2.1.look HO.out.2.2.2.1.1
    rw [HDX.out,(Zav d).2.1,HNW.out,<-HO.out.1] at hlook
    have m0:=HC1.out.1.cells.1.1.1.1.2
    have u0:w1.cell? ⟨ob,0,none⟩=some (.int .i64 3):=by unfold World.cell?;rw [HC1.out.2.2.2.1];rfl
    have u1:w1.cell? ⟨ob,1,none⟩=some (.string nm):=by unfold World.cell?;rw [HC1.out.2.2.2.1];rfl
    simp only [Option.isSome_none] at hlook
    go_quiet (fail)
    go_wp2_with fail
    go_ret
    refine⟨by rw [Zap (by decide)];rfl,?_,((DF.of_below R D bd bn H0.out.2.2.2.2.1).trans (DF.of_one HW1.out.2 (Or.inl rfl))).trans (DF.of_below R D bd bn (below_drewN w1 _))⟩
    have:=HC1.out.2.1.below (below_drewN w1 nq)
    rw [HDX.out] at this
    exact this
   ·have e1:d.tErr o=0:=by unfold DkD.tErr;rw [if_neg (by rw [hw];decide),if_neg (by rintro⟨_,x⟩;exact hk3 (HO.out.2.2.1.trans x))]
    have e2:d.told o={ d.wrote with now:=doF d.now o,pend:=d.pend++[o] }:=by unfold DkD.told;rw [if_neg (by rw [hw];decide),if_neg (by rw [e1];decide)]
    rw [e1,e2]
    have HNW:=Hid.mk hnow
    have b3:(kd == 3)=false:=by simpa using hk3
    have b3':decide (kd=3)=false:=decide_eq_false hk3
    clear e1 e2 hw hnow
    go_enter Tryz.func257,Tryz.ntmps257
    go_upto_region 1 with fail
    rw [<-H0.out.2.2.2.2.2.1,<-H0.out.2.2.2.2.2.2.1]
    go_upto_region 6 with (go_at_call 258;refine HWR.out.mono ?_;rintro _ w1 ⟨rfl,hc1,ho1⟩;have HW1:=Hid.mk (And.intro hc1 ho1);clear hc1 ho1;rw [Zay])
    obtain⟨dx,hdx⟩:∃dx,dx=d.wrote:=⟨_,rfl⟩
    have HC1:=Hid.mk (show DkC w1 D bd bn (.slice pa n pc) dx.left dx.full dx.down/\DkAt w1 R D bd bn dx/\w1.ownsRow R 147 3 (.slice pa n pc) n (d.pend.flatMap opC)/\w1.heap[ob]? =some (.cells #[.int .i64 kd, .string nm, .string sd] 147 (0,0))/\dx.pend=d.pend by
     have hc1:=HW1.out.1
     have hn:=H0.out.2.2.2.2.2.2.2
     rw [hdx]
     rw [hn] at hc1 ⊢
     have hw:=H0.out.1.wrote H0.out.2.1 H0.out.2.2.1 hc1 HW1.out.2
     exact⟨hc1,hw.1,hw.2,(HW1.out.2.block ob (Zaa H0.out.2.2.2.1) (Ne.symm hDo)).trans H0.out.2.2.2.1,(Zav d).2.2⟩)
    have HDX:=Hid.mk hdx
    clear hdx
    obtain⟨v,hlook⟩:=HC1.out.2.1.look HO.out.2.2.2.1.1
    rw [HDX.out,(Zav d).2.1,HNW.out,<-HO.out.1] at hlook
    have m0:=HC1.out.1.cells.1.1.1.1.2
    have u0:w1.cell? ⟨ob,0,none⟩=some (.int .i64 kd):=by unfold World.cell?;rw [HC1.out.2.2.2.1];rfl
    have u1:w1.cell? ⟨ob,1,none⟩=some (.string nm):=by unfold World.cell?;rw [HC1.out.2.2.2.1];rfl
    have u2:w1.cell? ⟨ob,2,none⟩=some (.string sd):=by unfold World.cell?;rw [HC1.out.2.2.2.1];rfl
    simp only [Option.isSome_none] at hlook
    go_quiet (fail)
    go_upto_region 9 with fail
    have HB2:=Hid.mk (below_drewN w1 nq)
    have HC2:=Hid.mk (show DkC (w1.drewN nq) D bd bn (.slice pa n pc) dx.left dx.full dx.down/\DkAt (w1.drewN nq) R D bd bn dx/\(w1.drewN nq).ownsRow R 147 3 (.slice pa n pc) n (d.pend.flatMap opC)/\(w1.drewN nq).heap[ob]? =some (.cells #[.int .i64 kd, .string nm, .string sd] 147 (0,0)) by
     obtain⟨h1,h2,h3,h4,_⟩:=HC1.out
     exact⟨⟨h1.blk⟩,h2.below (below_drewN w1 nq),Zah h3 (below_drewN w1 nq),h4⟩)
    clear u0 u1 u2 m0 hlook
    generalize w1.drewN nq=w2 at *
    have m0:=HC2.out.1.cells.1.1.1.1.2
    have u0:w2.cell? ⟨ob,0,none⟩=some (.int .i64 kd):=by unfold World.cell?;rw [HC2.out.2.2.2];rfl
    have u1:w2.cell? ⟨ob,1,none⟩=some (.string nm):=by unfold World.cell?;rw [HC2.out.2.2.2];rfl
    have u2:w2.cell? ⟨ob,2,none⟩=some (.string sd):=by unfold World.cell?;rw [HC2.out.2.2.2];rfl
    obtain⟨dz,hdz⟩:∃dz,dz={ dx with now:=doF dx.now o }:=⟨_,rfl⟩
    have HDO:=Hid.mk (show ∀wx,Below w2.heap.size w2 wx->Calls Tryz.prog 70 #[.map (some bn), .agg #[.int .i64 kd, .string nm, .string sd]] wx fun x w'=>x= .returned (.tuple #[])/\DkC w' D bd bn (.slice pa n pc) dz.left dz.full dz.down/\DkAt w' R D bd bn dz/\w'.ownsRow R 147 3 (.slice pa n pc) n (d.pend.flatMap opC)/\w'.heap[ob]? =some (.cells #[.int .i64 kd, .string nm, .string sd] 147 (0,0))/\dz.pend=d.pend/\DF w2 w' R D bd bn from fun wx hb=>by
     obtain⟨h1,h2,h3,h4⟩:=HC2.out
     have h2:=h2.below hb
     obtain⟨Dn,hfn⟩:=h2.fn
     have hd:=do_any wx bn dx.now Dn o hfn HO.out.2.2.2.1.1 HO.out.2.2.2.1.2 (by rw [HDX.out,(Zav d).2.1];exact HO.out.2.2.2.2)
     unfold opV at hd
     rw [<-HO.out.1,<-HO.out.2.1,<-HO.out.2.2.1] at hd
     refine hd.mono ?_
     rintro x w' ⟨rfl,hf,ho⟩
     have hdid:=h2.did hf ho
     rw [hdz]
     have hDk:=hb.block D (Zaa h1.blk)
     have hD':=hdid.2 D _ (hDk.trans h1.blk) (fun _ _ x=>by cases x)
     have hob:=hdid.2 ob _ ((hb.block ob (Zaa h4)).trans h4) (fun _ _ x=>by cases x)
     have h3b:=Zah h3 hb
     refine⟨rfl,h1.at_ (hD'.trans hDk),hdid.1,⟨h3b.1,?_⟩,hob.trans ((hb.block ob (Zaa h4)).trans h4),HC1.out.2.2.2.2,(DF.of_below R D bd bn hb).trans (DF.of_one ho (Or.inr (Or.inr rfl)))⟩
     rcases h3b.2 with x | ⟨g,cap,cur,x,hg,hh,r⟩
     ·exact Or.inl x
     ·exact Or.inr ⟨g,cap,cur,x,hg,(hdid.2 g _ hh (fun _ _ x=>by cases x)).trans hh,r⟩)
    have HDZ:=Hid.mk hdz
    clear hdz
    go_region_held3 (fun w'=>((w'.cell? ⟨D,1,none⟩=some (.map (some bn))/\w'.cell? ⟨ob,0,none⟩=some (.int .i64 kd))/\w'.cell? ⟨ob,1,none⟩=some (.string nm))/\w'.cell? ⟨ob,2,none⟩=some (.string sd)) (go_keep) ((go_at_call 70;refine (HDO.out w2.drew ((Below.refl _ _).drew)).mono ?_;rintro _ w3 ⟨rfl,z1,z2,z3,z4,z5,z6⟩;have HC3:=Hid.mk (And.intro z1 (And.intro z2 (And.intro z3 (And.intro z4 z5))));have HF3:=Hid.mk z6;have y0:=z1.cells.1.1.1.1.2;have y1:w3.cell? ⟨ob,0,none⟩=some (.int .i64 kd):=Zam z4 0;have y2:w3.cell? ⟨ob,1,none⟩=some (.string nm):=Zam z4 1;have y3:w3.cell? ⟨ob,2,none⟩=some (.string sd):=Zam z4 2;clear z1 z2 z3 z4 z5 z6))
    clear u0 u1 u2 m0 y0 y1 y2 y3
    go_upto_region 10 with fail
    have m1:=HC3.out.1.cells.1.1.1.2
    have m2:=HC3.out.1.froz 2
    have u0:w3.cell? ⟨ob,0,none⟩=some (.int .i64 kd):=by unfold World.cell?;rw [HC3.out.2.2.2.1];rfl
    have u1:w3.cell? ⟨ob,1,none⟩=some (.string nm):=by unfold World.cell?;rw [HC3.out.2.2.2.1];rfl
    have u2:w3.cell? ⟨ob,2,none⟩=some (.string sd):=by unfold World.cell?;rw [HC3.out.2.2.2.1];rfl
    have hDl:D<w3.heap.size:=Zaa HC3.out.1.blk
    have HOW:=Hid.mk HC3.out.2.2.1
    have hMq:some D≠(Value.slice pa n pc).ownBlock:=fun e=>by
     rcases HOW.out.2 with⟨h2,_⟩ | ⟨g,cap,cur,h2,_,hh,_⟩
     ·rw [h2] at e;simp [Value.ownBlock] at e
     ·rw [h2] at e
      simp only [Value.ownBlock,Option.some.injEq] at e
      subst e
      exact Zak HC3.out.1.blk hh (by decide) rfl
    have m1a:=cell_later (((Below.refl w3.heap.size w3).alloc (Nat.le_refl _) (.cells #[.int .i64 kd, .string nm, .string sd] 147)).drew) m1
    have m1b:=cell_later ((Below.refl w3.heap.size w3).alloc (Nat.le_refl _) (.cells #[.int .i64 kd, .string nm, .string sd] 147)) m1
    go_region_law ((refine step_append_lies _ (by rfl) _ _ _ (by rfl) R 147 io _ 3 40 Tryz.underlying99 HI.out.1 HI.out.2.1 HI.out.2.2.1 HI.out.2.2.2 rfl (by omega) (.slice pa n pc) n (d.pend.flatMap opC) (by rfl) ((HOW.out.alloc _).drew) ⟨w3.heap.size,0,none⟩ 1 1 [.int .i64 kd, .string nm, .string sd] (by rfl) (by rfl) (World.news_of_block (cs:=#[.int .i64 kd, .string nm, .string sd]) (t:=147) (fr:=(0,0)) (heap_alloc_new w3 _)) (by simp [Value.oneCell']) (by omega) (by unfold maxLen;omega) (by omega) (by have:=HC3.out.2.1.rs;simp;omega) (w3.heap.size+1) (by simp) ?_;intro gg gcap w7 hown7 hgrow hat hlt;have s1:=(hgrow.cell_far ⟨D,2,none⟩ (by simp;omega) hMq).trans (cell_later (((Below.refl w3.heap.size w3).alloc (Nat.le_refl _) _).drew) m1);have sz:=(hgrow.frozen_far ⟨D,2,none⟩ (by simp;omega) hMq).trans (((((Below.refl w3.heap.size w3).alloc (Nat.le_refl _) (.cells #[.int .i64 kd, .string nm, .string sd] 147)).drew).frozen (p:=⟨D,2,none⟩) (by simp only [];omega)).trans m2)))
    all_goals
     have HP:=Hid.mk (show DkAt (w7.setCell ⟨D,2,none⟩ (.slice (some ⟨gg,0,none⟩) (n+1) gcap)) R D bd bn { dz with pend:=d.pend++[o] }/\DF w3 (w7.setCell ⟨D,2,none⟩ (.slice (some ⟨gg,0,none⟩) (n+1) gcap)) R D bd bn by
      have e3:=HC3.out.2.2.2.2
      have hn:=H0.out.2.2.2.2.2.2.2
      have h1:=HC3.out.1
      have h3:=HC3.out.2.2.1
      rw [hn,<-e3] at h1 h3
      rw [hn,<-e3] at hgrow hown7
      rw [hn,<-e3]
      refine HC3.out.2.1.pushed h1 h3 (by rw [e3,<-hn];exact hf') HO.out.2.2.2.1 ?_ hgrow
      unfold opC
      rw [<-HO.out.1,<-HO.out.2.1,<-HO.out.2.2.1]
      exact hown7)
     clear hown7 hgrow hat hlt s1 sz m1 m2 m1a m1b u0 u1 u2
     generalize w7.setCell ⟨D,2,none⟩ (.slice (some ⟨gg,0,none⟩) (n+1) gcap)=w8 at *
     go_wp2_with fail
     go_ret
     refine⟨by rw [Zay];rfl,?_,((((DF.of_below R D bd bn H0.out.2.2.2.2.1).trans (DF.of_one HW1.out.2 (Or.inl rfl))).trans (DF.of_below R D bd bn HB2.out)).trans HF3.out).trans HP.out.2⟩
     have:=HP.out.1
     rw [HDZ.out,HDX.out,(Zav d).2.1] at this
     exact this
  | some s =>
   have e1:d.tErr o=0:=by unfold DkD.tErr;rw [if_neg (by rw [hw];decide),if_neg (by rintro⟨x,_⟩;rw [hnow] at x;cases x)]
   have e2:d.told o={ d.wrote with now:=doF d.now o,pend:=d.pend++[o] }:=by unfold DkD.told;rw [if_neg (by rw [hw];decide),if_neg (by rw [e1];decide)]
   rw [e1,e2]
   have HNW:=Hid.mk hnow
   clear e1 e2 hw hnow
   go_enter Tryz.func257,Tryz.ntmps257
   go_upto_region 1 with fail
   rw [<-H0.out.2.2.2.2.2.1,<-H0.out.2.2.2.2.2.2.1]
   go_upto_region 6 with (go_at_call 258;refine HWR.out.mono ?_;rintro _ w1 ⟨rfl,hc1,ho1⟩;have HW1:=Hid.mk (And.intro hc1 ho1);clear hc1 ho1;rw [Zay])
   obtain⟨dx,hdx⟩:∃dx,dx=d.wrote:=⟨_,rfl⟩
   have HC1:=Hid.mk (show DkC w1 D bd bn (.slice pa n pc) dx.left dx.full dx.down/\DkAt w1 R D bd bn dx/\w1.ownsRow R 147 3 (.slice pa n pc) n (d.pend.flatMap opC)/\w1.heap[ob]? =some (.cells #[.int .i64 kd, .string nm, .string sd] 147 (0,0))/\dx.pend=d.pend by
    have hc1:=HW1.out.1
    have hn:=H0.out.2.2.2.2.2.2.2
    rw [hdx]
    rw [hn] at hc1 ⊢
    have hw:=H0.out.1.wrote H0.out.2.1 H0.out.2.2.1 hc1 HW1.out.2
    exact⟨hc1,hw.1,hw.2,(HW1.out.2.block ob (Zaa H0.out.2.2.2.1) (Ne.symm hDo)).trans H0.out.2.2.2.1,(Zav d).2.2⟩)
   have HDX:=Hid.mk hdx
   clear hdx
   obtain⟨v,hlook⟩:=HC1.out.2.1.look HO.out.2.2.2.1.1
   rw [HDX.out,(Zav d).2.1,HNW.out,<-HO.out.1] at hlook
   have m0:=HC1.out.1.cells.1.1.1.1.2
   have u0:w1.cell? ⟨ob,0,none⟩=some (.int .i64 kd):=by unfold World.cell?;rw [HC1.out.2.2.2.1];rfl
   have u1:w1.cell? ⟨ob,1,none⟩=some (.string nm):=by unfold World.cell?;rw [HC1.out.2.2.2.1];rfl
   have u2:w1.cell? ⟨ob,2,none⟩=some (.string sd):=by unfold World.cell?;rw [HC1.out.2.2.2.1];rfl
   simp only [Option.isSome_some] at hlook
   go_quiet (fail)
   go_upto_region 9 with fail
   have HB2:=Hid.mk (below_drewN w1 nq)
   have HC2:=Hid.mk (show DkC (w1.drewN nq) D bd bn (.slice pa n pc) dx.left dx.full dx.down/\DkAt (w1.drewN nq) R D bd bn dx/\(w1.drewN nq).ownsRow R 147 3 (.slice pa n pc) n (d.pend.flatMap opC)/\(w1.drewN nq).heap[ob]? =some (.cells #[.int .i64 kd, .string nm, .string sd] 147 (0,0)) by
    obtain⟨h1,h2,h3,h4,_⟩:=HC1.out
    exact⟨⟨h1.blk⟩,h2.below (below_drewN w1 nq),Zah h3 (below_drewN w1 nq),h4⟩)
   clear u0 u1 u2 m0 hlook
   generalize w1.drewN nq=w2 at *
   have m0:=HC2.out.1.cells.1.1.1.1.2
   have u0:w2.cell? ⟨ob,0,none⟩=some (.int .i64 kd):=by unfold World.cell?;rw [HC2.out.2.2.2];rfl
   have u1:w2.cell? ⟨ob,1,none⟩=some (.string nm):=by unfold World.cell?;rw [HC2.out.2.2.2];rfl
   have u2:w2.cell? ⟨ob,2,none⟩=some (.string sd):=by unfold World.cell?;rw [HC2.out.2.2.2];rfl
   obtain⟨dz,hdz⟩:∃dz,dz={ dx with now:=doF dx.now o }:=⟨_,rfl⟩
   have HDO:=Hid.mk (show ∀wx,Below w2.heap.size w2 wx->Calls Tryz.prog 70 #[.map (some bn), .agg #[.int .i64 kd, .string nm, .string sd]] wx fun x w'=>x= .returned (.tuple #[])/\DkC w' D bd bn (.slice pa n pc) dz.left dz.full dz.down/\DkAt w' R D bd bn dz/\w'.ownsRow R 147 3 (.slice pa n pc) n (d.pend.flatMap opC)/\w'.heap[ob]? =some (.cells #[.int .i64 kd, .string nm, .string sd] 147 (0,0))/\dz.pend=d.pend/\DF w2 w' R D bd bn from fun wx hb=>by
    obtain⟨h1,h2,h3,h4⟩:=HC2.out
    have h2:=h2.below hb
    obtain⟨Dn,hfn⟩:=h2.fn
    have hd:=do_any wx bn dx.now Dn o hfn HO.out.2.2.2.1.1 HO.out.2.2.2.1.2 (by rw [HDX.out,(Zav d).2.1];exact HO.out.2.2.2.2)
    unfold opV at hd
    rw [<-HO.out.1,<-HO.out.2.1,<-HO.out.2.2.1] at hd
    refine hd.mono ?_
    rintro x w' ⟨rfl,hf,ho⟩
    have hdid:=h2.did hf ho
    rw [hdz]
    have hDk:=hb.block D (Zaa h1.blk)
    have hD':=hdid.2 D _ (hDk.trans h1.blk) (fun _ _ x=>by cases x)
    have hob:=hdid.2 ob _ ((hb.block ob (Zaa h4)).trans h4) (fun _ _ x=>by cases x)
    have h3b:=Zah h3 hb
    refine⟨rfl,h1.at_ (hD'.trans hDk),hdid.1,⟨h3b.1,?_⟩,hob.trans ((hb.block ob (Zaa h4)).trans h4),HC1.out.2.2.2.2,(DF.of_below R D bd bn hb).trans (DF.of_one ho (Or.inr (Or.inr rfl)))⟩
    rcases h3b.2 with x | ⟨g,cap,cur,x,hg,hh,r⟩
    ·exact Or.inl x
    ·exact Or.inr ⟨g,cap,cur,x,hg,(hdid.2 g _ hh (fun _ _ x=>by cases x)).trans hh,r⟩)
   have HDZ:=Hid.mk hdz
   clear hdz
   go_region_held3 (fun w'=>((w'.cell? ⟨D,1,none⟩=some (.map (some bn))/\w'.cell? ⟨ob,0,none⟩=some (.int .i64 kd))/\w'.cell? ⟨ob,1,none⟩=some (.string nm))/\w'.cell? ⟨ob,2,none⟩=some (.string sd)) (go_keep) ((go_at_call 70;refine (HDO.out w2.drew ((Below.refl _ _).drew)).mono ?_;rintro _ w3 ⟨rfl,z1,z2,z3,z4,z5,z6⟩;have HC3:=Hid.mk (And.intro z1 (And.intro z2 (And.intro z3 (And.intro z4 z5))));have HF3:=Hid.mk z6;have y0:=z1.cells.1.1.1.1.2;have y1:w3.cell? ⟨ob,0,none⟩=some (.int .i64 kd):=Zam z4 0;have y2:w3.cell? ⟨ob,1,none⟩=some (.string nm):=Zam z4 1;have y3:w3.cell? ⟨ob,2,none⟩=some (.string sd):=Zam z4 2;clear z1 z2 z3 z4 z5 z6))
   clear u0 u1 u2 m0 y0 y1 y2 y3
   go_upto_region 10 with fail
   have m1:=HC3.out.1.cells.1.1.1.2
   have m2:=HC3.out.1.froz 2
   have u0:w3.cell? ⟨ob,0,none⟩=some (.int .i64 kd):=by unfold World.cell?;rw [HC3.out.2.2.2.1];rfl
   have u1:w3.cell? ⟨ob,1,none⟩=some (.string nm):=by unfold World.cell?;rw [HC3.out.2.2.2.1];rfl
   have u2:w3.cell? ⟨ob,2,none⟩=some (.string sd):=by unfold World.cell?;rw [HC3.out.2.2.2.1];rfl
   have hDl:D<w3.heap.size:=Zaa HC3.out.1.blk
   have HOW:=Hid.mk HC3.out.2.2.1
   have hMq:some D≠(Value.slice pa n pc).ownBlock:=fun e=>by
    rcases HOW.out.2 with⟨h2,_⟩ | ⟨g,cap,cur,h2,_,hh,_⟩
    ·rw [h2] at e;simp [Value.ownBlock] at e
    ·rw [h2] at e
     simp only [Value.ownBlock,Option.some.injEq] at e
     subst e
     exact Zak HC3.out.1.blk hh (by decide) rfl
   have m1a:=cell_later (((Below.refl w3.heap.size w3).alloc (Nat.le_refl _) (.cells #[.int .i64 kd, .string nm, .string sd] 147)).drew) m1
   have m1b:=cell_later ((Below.refl w3.heap.size w3).alloc (Nat.le_refl _) (.cells #[.int .i64 kd, .string nm, .string sd] 147)) m1
   go_region_law ((refine step_append_lies _ (by rfl) _ _ _ (by rfl) R 147 io _ 3 40 Tryz.underlying99 HI.out.1 HI.out.2.1 HI.out.2.2.1 HI.out.2.2.2 rfl (by omega) (.slice pa n pc) n (d.pend.flatMap opC) (by rfl) ((HOW.out.alloc _).drew) ⟨w3.heap.size,0,none⟩ 1 1 [.int .i64 kd, .string nm, .string sd] (by rfl) (by rfl) (World.news_of_block (cs:=#[.int .i64 kd, .string nm, .string sd]) (t:=147) (fr:=(0,0)) (heap_alloc_new w3 _)) (by simp [Value.oneCell']) (by omega) (by unfold maxLen;omega) (by omega) (by have:=HC3.out.2.1.rs;simp;omega) (w3.heap.size+1) (by simp) ?_;intro gg gcap w7 hown7 hgrow hat hlt;have s1:=(hgrow.cell_far ⟨D,2,none⟩ (by simp;omega) hMq).trans (cell_later (((Below.refl w3.heap.size w3).alloc (Nat.le_refl _) _).drew) m1);have sz:=(hgrow.frozen_far ⟨D,2,none⟩ (by simp;omega) hMq).trans (((((Below.refl w3.heap.size w3).alloc (Nat.le_refl _) (.cells #[.int .i64 kd, .string nm, .string sd] 147)).drew).frozen (p:=⟨D,2,none⟩) (by simp only [];omega)).trans m2)))
   all_goals
    have HP:=Hid.mk (show DkAt (w7.setCell ⟨D,2,none⟩ (.slice (some ⟨gg,0,none⟩) (n+1) gcap)) R D bd bn { dz with pend:=d.pend++[o] }/\DF w3 (w7.setCell ⟨D,2,none⟩ (.slice (some ⟨gg,0,none⟩) (n+1) gcap)) R D bd bn by
     have e3:=HC3.out.2.2.2.2
     have hn:=H0.out.2.2.2.2.2.2.2
     have h1:=HC3.out.1
     have h3:=HC3.out.2.2.1
     rw [hn,<-e3] at h1 h3
     rw [hn,<-e3] at hgrow hown7
     rw [hn,<-e3]
     refine HC3.out.2.1.pushed h1 h3 (by rw [e3,<-hn];exact hf') HO.out.2.2.2.1 ?_ hgrow
     unfold opC
     rw [<-HO.out.1,<-HO.out.2.1,<-HO.out.2.2.1]
     exact hown7)
    clear hown7 hgrow hat hlt s1 sz m1 m2 m1a m1b u0 u1 u2
    generalize w7.setCell ⟨D,2,none⟩ (.slice (some ⟨gg,0,none⟩) (n+1) gcap)=w8 at *
    go_wp2_with fail
    go_ret
    refine⟨by rw [Zay];rfl,?_,((((DF.of_below R D bd bn H0.out.2.2.2.2.1).trans (DF.of_one HW1.out.2 (Or.inl rfl))).trans (DF.of_below R D bd bn HB2.out)).trans HF3.out).trans HP.out.2⟩
    have:=HP.out.1
    rw [HDZ.out,HDX.out,(Zav d).2.1] at this
    exact this
 ·have e1:d.tErr o=10:=by unfold DkD.tErr;rw [hE];rfl
  have e2:d.told o=d.wrote:=by unfold DkD.told;rw [if_neg (by rw [hE];decide),if_pos (by rw [e1];decide)]
  rw [hE] at HWR
  rw [e1,e2]
  clear e1 e2 hE
  go_enter Tryz.func257,Tryz.ntmps257
  go_upto_region 1 with fail
  rw [<-H0.out.2.2.2.2.2.1,<-H0.out.2.2.2.2.2.2.1]
  go_upto_region 3 with (go_at_call 258;refine HWR.out.mono ?_;rintro _ w1 ⟨rfl,hc1,ho1⟩;have HW1:=Hid.mk (And.intro hc1 ho1);clear hc1 ho1;rw [Zap (by decide)])
  have heq:=Go.Lib.run_eql_iface_int (P:=Tryz.prog) w1 (k:= .i64) 10 11 Tryz.underlying74 s_comp Tryz.underlying36
  go_wp2_with fail
  go_ret
  have hc1:=HW1.out.1
  rw [H0.out.2.2.2.2.2.2.2] at hc1
  exact⟨by rw [Zap (by decide)];rfl,(H0.out.1.wrote H0.out.2.1 H0.out.2.2.1 hc1 HW1.out.2).1,(DF.of_below R D bd bn H0.out.2.2.2.2.1).trans (DF.of_one HW1.out.2 (Or.inl rfl))⟩
 ·have e1:d.tErr o=11:=by unfold DkD.tErr;rw [hE];rfl
  have e2:d.told o={ d.wrote with pend:=d.pend++[o] }:=by unfold DkD.told;rw [if_pos hE]
  rw [hE] at HWR
  rw [e1,e2]
  clear e1 e2 hE
  go_enter Tryz.func257,Tryz.ntmps257
  go_upto_region 1 with fail
  rw [<-H0.out.2.2.2.2.2.1,<-H0.out.2.2.2.2.2.2.1]
  go_upto_region 3 with (go_at_call 258;refine HWR.out.mono ?_;rintro _ w1 ⟨rfl,hc1,ho1⟩;have HW1:=Hid.mk (And.intro hc1 ho1);clear hc1 ho1;rw [Zap (by decide)])
  have heq:=Go.Lib.run_eql_iface_int (P:=Tryz.prog) w1 (k:= .i64) 11 11 Tryz.underlying74 s_comp Tryz.underlying36
  go_upto_region 4 with fail
  obtain⟨dx,hdx⟩:∃dx,dx=d.wrote:=⟨_,rfl⟩
  have HC1:=Hid.mk (show DkC w1 D bd bn (.slice pa n pc) dx.left dx.full dx.down/\DkAt w1 R D bd bn dx/\w1.ownsRow R 147 3 (.slice pa n pc) n (d.pend.flatMap opC)/\w1.heap[ob]? =some (.cells #[.int .i64 kd, .string nm, .string sd] 147 (0,0))/\dx.pend=d.pend by
   have hc1:=HW1.out.1
   have hn:=H0.out.2.2.2.2.2.2.2
   rw [hdx]
   rw [hn] at hc1 ⊢
   have hw:=H0.out.1.wrote H0.out.2.1 H0.out.2.2.1 hc1 HW1.out.2
   exact⟨hc1,hw.1,hw.2,(HW1.out.2.block ob (Zaa H0.out.2.2.2.1) (Ne.symm hDo)).trans H0.out.2.2.2.1,(Zav d).2.2⟩)
  have HDX:=Hid.mk hdx
  clear hdx
  have m1:=HC1.out.1.cells.1.1.1.2
  have m2:=HC1.out.1.froz 2
  have u0:w1.cell? ⟨ob,0,none⟩=some (.int .i64 kd):=by unfold World.cell?;rw [HC1.out.2.2.2.1];rfl
  have u1:w1.cell? ⟨ob,1,none⟩=some (.string nm):=by unfold World.cell?;rw [HC1.out.2.2.2.1];rfl
  have u2:w1.cell? ⟨ob,2,none⟩=some (.string sd):=by unfold World.cell?;rw [HC1.out.2.2.2.1];rfl
  have hDl:D<w1.heap.size:=Zaa HC1.out.1.blk
  have HOW:=Hid.mk HC1.out.2.2.1
  have hMq:some D≠(Value.slice pa n pc).ownBlock:=fun e=>by
   rcases HOW.out.2 with⟨h2,_⟩ | ⟨g,cap,cur,h2,_,hh,_⟩
   ·rw [h2] at e;simp [Value.ownBlock] at e
   ·rw [h2] at e
    simp only [Value.ownBlock,Option.some.injEq] at e
    subst e
    exact Zak HC1.out.1.blk hh (by decide) rfl
  have m1a:=cell_later (((Below.refl w1.heap.size w1).alloc (Nat.le_refl _) (.cells #[.int .i64 kd, .string nm, .string sd] 147)).drew) m1
  have m1b:=cell_later ((Below.refl w1.heap.size w1).alloc (Nat.le_refl _) (.cells #[.int .i64 kd, .string nm, .string sd] 147)) m1
  go_region_law ((refine step_append_lies _ (by rfl) _ _ _ (by rfl) R 147 io _ 3 40 Tryz.underlying99 HI.out.1 HI.out.2.1 HI.out.2.2.1 HI.out.2.2.2 rfl (by omega) (.slice pa n pc) n (d.pend.flatMap opC) (by rfl) ((HOW.out.alloc _).drew) ⟨w1.heap.size,0,none⟩ 1 1 [.int .i64 kd, .string nm, .string sd] (by rfl) (by rfl) (World.news_of_block (cs:=#[.int .i64 kd, .string nm, .string sd]) (t:=147) (fr:=(0,0)) (heap_alloc_new w1 _)) (by simp [Value.oneCell']) (by omega) (by unfold maxLen;omega) (by omega) (by have:=HC1.out.2.1.rs;simp;omega) (w1.heap.size+1) (by simp) ?_;intro gg gcap w7 hown7 hgrow hat hlt;have s1:=(hgrow.cell_far ⟨D,2,none⟩ (by simp;omega) hMq).trans (cell_later (((Below.refl w1.heap.size w1).alloc (Nat.le_refl _) _).drew) m1);have sz:=(hgrow.frozen_far ⟨D,2,none⟩ (by simp;omega) hMq).trans (((((Below.refl w1.heap.size w1).alloc (Nat.le_refl _) (.cells #[.int .i64 kd, .string nm, .string sd] 147)).drew).frozen (p:=⟨D,2,none⟩) (by simp only [];omega)).trans m2)))
  all_goals
   have HP:=Hid.mk (show DkAt (w7.setCell ⟨D,2,none⟩ (.slice (some ⟨gg,0,none⟩) (n+1) gcap)) R D bd bn { dx with pend:=d.pend++[o] }/\DF w1 (w7.setCell ⟨D,2,none⟩ (.slice (some ⟨gg,0,none⟩) (n+1) gcap)) R D bd bn by
    have e3:=HC1.out.2.2.2.2
    have hn:=H0.out.2.2.2.2.2.2.2
    have h1:=HC1.out.1
    have h3:=HC1.out.2.2.1
    rw [hn,<-e3] at h1 h3
    rw [hn,<-e3] at hgrow hown7
    rw [hn,<-e3]
    refine HC1.out.2.1.pushed h1 h3 (by rw [e3,<-hn];exact hf') HO.out.2.2.2.1 ?_ hgrow
    unfold opC
    rw [<-HO.out.1,<-HO.out.2.1,<-HO.out.2.2.1]
    exact hown7)
   clear hown7 hgrow hat hlt s1 sz m1 m2 m1a m1b u0 u1 u2
   generalize w7.setCell ⟨D,2,none⟩ (.slice (some ⟨gg,0,none⟩) (n+1) gcap)=w8 at *
   go_wp2_with fail
   go_ret
   refine⟨by rw [Zap (by decide)];rfl,?_,((DF.of_below R D bd bn H0.out.2.2.2.2.1).trans (DF.of_one HW1.out.2 (Or.inl rfl))).trans HP.out.2⟩
   have:=HP.out.1
   rw [HDX.out] at this
   exact this
end Go.Proofs.YtgdcjccbdmcebabGreatDoor
