import Derived.Test.YtgdcjccbdmcebabGreatDoorM40
import Derived.Laws.BitsAllLaws
import Derived.Lib.AppendStr
set_option linter.unusedSimpArgs false
set_option linter.unusedVariables false
namespace Go.Proofs.YtgdcjccbdmcebabGreatDoor
open Go.RowKit
set_option maxRecDepth 100000
attribute [local go_sem ↓] Go.wp_at_zero Go.wp_at_succ
structure DFb (w w':World)(R D bd bn g:Nat):Prop where
 os:w'.os=w.os
 tape:w'.tape=w.tape
 output:w'.output=w.output
 size:w.heap.size<=w'.heap.size
 block:∀k,k<w.heap.size->k≠D->k≠bd->k≠bn->k≠g->(k<R\/∀cs fr,w.heap[k]? ≠some (.cells cs 147 fr))->w'.heap[k]? =w.heap[k]?
theorem DkAt.one {w w':World}{R D bd bn g:Nat}{d:DkD}(h:DkAt w R D bd bn d)(ho:OneF w w' g){cs:Array Value}{fr:Nat×Nat}(hg:w.heap[g]? =some (.cells cs 5 fr)):DkAt w' R D bd bn d:=by
 obtain⟨pa,pc,q1,_⟩:=h.c
 obtain⟨Dd,q3⟩:=h.fd
 obtain⟨Dn,q4⟩:=h.fn
 have hm:∀bm f Dx,FilAt w bm f Dx->bm≠g:=fun bm f Dx hx e=>by
  obtain⟨es,c,e2,_⟩:=hx.own
  rw [e,hg] at e2;cases e2
 exact h.keep ho.size (ho.block D (Zaa q1.blk) (Zak q1.blk hg (by decide))) (ho.block bd q3.lt (hm _ _ _ q3)) (ho.block bn q4.lt (hm _ _ _ q4)) (fun k cs t fr e ht=>ho.block k (Zaa e) (Zak e hg (by rcases ht with rfl | rfl<;>decide)))
set_option maxHeartbeats 4000000 in
theorem dput_any (w:World)(R D bd bn B0 g c:Nat)(d:DkD)(o:OpD)(h:DkAt w R D bd bn d)(hf:d.pend.length<8)(ha:o.at_<3)(hk:o.kind=1\/o.kind=2)(hs:∀s,d.now o.at_=some s->s.length+o.data.length<=9223372036854775807)(hr:ByteRow B0 w (.slice (some ⟨g,0,none⟩) o.data.length c) o.data)(hl:o.data.length<=1099511627776) :
  Calls Tryz.prog 255 #[.pointer (some ⟨D,0,none⟩), .int .i64 o.kind, .string (nmB o.at_), .slice (some ⟨g,0,none⟩) o.data.length c] w fun x w'=>x= .returned (errV (d.tErr o))/\DkAt w' R D bd bn (d.told o)/\DFb w w' R D bd bn g:=by
 have hkind:o.kind=1\/o.kind=2\/o.kind=3:=by rcases hk with h | h;exact Or.inl h;exact Or.inr (Or.inl h)
 have HT:=Hid.mk (tell_any w R D bd bn d o h hf ⟨ha,hkind⟩ hs)
 obtain⟨nm,hnm⟩:∃nm,nm=nmB o.at_:=⟨_,rfl⟩
 obtain⟨sd,hsd⟩:∃sd,sd=Zcd o.data:=⟨_,rfl⟩
 obtain⟨kd,hkd⟩:∃kd,kd=o.kind:=⟨_,rfl⟩
 obtain⟨n,hn⟩:∃n,n=o.data.length:=⟨_,rfl⟩
 obtain⟨er,her⟩:∃er,er=errV (d.tErr o):=⟨_,rfl⟩
 have hconv:(convert 35 9 (.slice (some ⟨g,0,none⟩) n c)).run Tryz.prog w= .ok (.string sd) w:=by
  rw [hn,hsd];exact run_string_of (fun k hk=>World.ownsRow.cellAt hr k (by omega))
 have HO:=Hid.mk (And.intro hnm (And.intro hsd (And.intro hkd (And.intro hn her))))
 have HR:=Hid.mk (And.intro hr h)
 unfold opV at HT
 rw [<-hnm,<-hsd,<-hkd,<-her] at HT
 rw [<-hnm,<-hkd,<-hn,<-her]
 rw [<-hn] at hl
 clear h hnm hsd hkd hn hr hs hkind hk ha hf her
 go_enter Tryz.func255,Tryz.ntmps255
 go_wp2_with (go_at_call 257;refine HT.out.mono ?_;rintro _ w1 ⟨rfl,hd1,hf1⟩;have H1:=Hid.mk (And.intro hd1 hf1);clear hd1 hf1)
 have HG:=Hid.mk (show w1.ownsRow B0 5 1 (.slice (some ⟨g,0,none⟩) n c) n (bv o.data) by
  have hr:=HR.out.1
  unfold ByteRow at hr
  rw [<-HO.out.2.2.2.1] at hr
  refine⟨hr.1,?_⟩
  rcases hr.2 with x | ⟨g',cap,cur,x,hg,hh,r⟩
  ·exact Or.inl x
  ·obtain⟨pa,pc,q1,_⟩:=HR.out.2.c
   obtain⟨Dd,q3⟩:=HR.out.2.fd
   obtain⟨Dn,q4⟩:=HR.out.2.fn
   have hm:∀bm f Dx,FilAt w bm f Dx->g'≠bm:=fun bm f Dx hx e=>by
    obtain⟨es,c,e2,_⟩:=hx.own
    rw [<-e,hh] at e2;cases e2
   exact Or.inr ⟨g',cap,cur,x,hg,(H1.out.2.block g' (Zaa hh) (Zak hh q1.blk (by decide)) (hm _ _ _ q3) (hm _ _ _ q4) (Or.inr (fun cs fr e=>by rw [hh] at e;simp only [Option.some.injEq,Obj.cells.injEq] at e;exact absurd e.2.1 (by decide)))).trans hh,r⟩)
 go_loopw [20] (fun iv wr=>∃(i:Nat) (zs:List Value),iv= .int .i64 i/\i<=n/\wr.ownsRow B0 5 1 (.slice (some ⟨g,0,none⟩) n c) n zs/\OneF w1 wr g) (fun iv _=>n - (intOf iv).toNat)
 case atStart =>
  exact⟨0,bv o.data,rfl,by omega,HG.out,OneF.refl _ _⟩
 case round =>
  obtain⟨i,zs,rfl,hi,hown,ho⟩:=hrel
  by_cases h1:i<n
  ·have t0:=hown.cellAt i (by omega)
   obtain⟨u,hu⟩:∃u,wr.cell? ⟨g,i,none⟩=some u:=by
    have hz:=hown.1
    rw [t0]
    exact⟨_,List.getElem?_eq_getElem (by omega)⟩
   have f0:=hown.frozenAt i
   have HW:=Hid.mk (And.intro hown ho)
   have i1:(i:Int)<(n:Int):=by omega
   clear t0 hown ho
   go_wp2_with fail
   go_roundw
   case rel=>exact⟨i+1,_,by go_num,by omega,(HW.out.1.stored i (.int .u8 33)).1,HW.out.2.set i _⟩
   case measure=>simp [intOf];omega
  ·have i1:¬(i:Int)<(n:Int):=by omega
   have HW:=Hid.mk (And.intro hown ho)
   clear hown ho
   go_wp2_with fail
   go_ret
   obtain⟨cs,fr,hg⟩:∃cs fr,w1.heap[g]? =some (.cells cs 5 fr):=by
    rcases HG.out.2 with⟨x,_⟩ | ⟨g',cap,cur,x,_,hh,_⟩
    ·simp at x
    ·obtain rfl:g=g':=by simp only [Value.slice.injEq,Option.some.injEq,Addr.mk.injEq] at x;exact x.1.1
     exact⟨_,_,hh⟩
   refine⟨rfl,H1.out.1.one HW.out.2 hg,?_⟩
   have hf1:=H1.out.2
   have ho:=HW.out.2
   exact⟨ho.os.trans hf1.os,ho.tape.trans hf1.tape,ho.output.trans hf1.output,Nat.le_trans hf1.size ho.size,fun k hk a1 a2 a3 a4 a5=>(ho.block k (Nat.lt_of_lt_of_le hk hf1.size) a4).trans (hf1.block k hk a1 a2 a3 a5)⟩
theorem dappend_any (w:World)(R D bd bn B0 g c:Nat)(d:DkD)(i:Nat)(l:List Int)(h:DkAt w R D bd bn d)(hf:d.pend.length<8)(ha:i<3)(hs:∀s,d.now i=some s->s.length+l.length<=9223372036854775807)(hr:ByteRow B0 w (.slice (some ⟨g,0,none⟩) l.length c) l)(hl:l.length<=1099511627776) :
  Calls Tryz.prog 249 #[.pointer (some ⟨D,0,none⟩), .string (nmB i), .slice (some ⟨g,0,none⟩) l.length c] w fun x w'=>x= .returned (errV (d.tErr ⟨2,i,l⟩))/\DkAt w' R D bd bn (d.told ⟨2,i,l⟩)/\DFb w w' R D bd bn g:=by
 have HP:=Hid.mk (dput_any w R D bd bn B0 g c d ⟨2,i,l⟩ h hf ha (Or.inr rfl) hs hr hl)
 clear h hf hs hr
 go_enter Tryz.func249,Tryz.ntmps249
 go_wp2_with (go_at_call 255;refine HP.out.mono ?_;rintro _ w1 ⟨rfl,h2⟩)
 go_ret
 exact⟨rfl,h2⟩
theorem DkAt.didD {w w':World}{R D bd bn:Nat}{d:DkD}{f:FilD}(h:DkAt w R D bd bn d)(hf:∃D',FilAt w' bd f D')(ho:OneF w w' bd):DkAt w' R D bd bn { d with dur:=f }/\∀(k:Nat) (ob:Obj),w.heap[k]? =some ob->(∀es c,ob≠Obj.map es c)->w'.heap[k]? =w.heap[k]? :=by
 obtain⟨pa,pc,q1,q2⟩:=h.c
 obtain⟨Dd,q3⟩:=h.fd
 obtain⟨Dn,q4⟩:=h.fn
 obtain⟨es,cl,hm,_⟩:=q3.own
 have stay:∀(k:Nat) (ob:Obj),w.heap[k]? =some ob->(∀es c,ob≠Obj.map es c)->w'.heap[k]? =w.heap[k]? :=fun k ob e hn=>ho.block k (Zaa e) (fun x=>by
  subst x
  rw [hm] at e
  exact hn es cl (Option.some.inj e).symm)
 refine⟨⟨Nat.le_trans h.rs ho.size,⟨pa,pc,q1.at_ (stay D _ q1.blk (fun _ _ x=>by cases x)),q2.1,?_⟩,hf,⟨Dn,q4.keep (ho.block bn q4.lt (Ne.symm h.ne)) (fun k cs fr e=>stay k _ e (fun _ _ x=>by cases x))⟩,h.ne,h.few,h.ops⟩,stay⟩
 rcases q2.2 with x | ⟨g,cap,cur,x,hg,hh,r⟩
 ·exact Or.inl x
 ·exact Or.inr ⟨g,cap,cur,x,hg,(stay g _ hh (fun _ _ x=>by cases x)).trans hh,r⟩
theorem fold_size {M:Nat}:∀(l:List OpD) (f:FilD) (N:Nat),SzF f N->(∀o∈l,o.data.length<=M)->SzF (l.foldl doF f) (N+l.length * M)
 | [],f,N,h,_=>by simpa using h
 | o::l,f,N,h,hd=>by
  rw [List.foldl_cons,List.length_cons]
  have:=fold_size l (doF f o) (N+M) (h.do_ o (by have:=hd o (List.mem_cons_self ..);omega)) (fun x hx=>hd x (List.mem_cons_of_mem _ hx))
  refine this.mono ?_
  rw [Nat.add_mul];omega
theorem dcell {w:World}{R pc pg n:Nat}{l:List OpD}(h:w.ownsRow R 147 3 (.slice (some ⟨pg,0,none⟩) n pc) n (l.flatMap opC))(hn:l.length=n){i:Nat}(hi:i<n):w.cell? ⟨pg,i * 3,none⟩=some (.int .i64 (l.getD i .z).kind)/\w.cell? ⟨pg,i * 3+1,none⟩=some (.string (nmB (l.getD i .z).at_))/\w.cell? ⟨pg,i * 3+2,none⟩=some (.string (Zcd (l.getD i .z).data)):=by
 have hc:∀j,j<3->w.cell? ⟨pg,i * 3+j,none⟩=(opC (l.getD i .z))[j]? :=fun j hj=>by
  rw [h.cellAt (i * 3+j) (by omega),flat_at (z:=OpD.z) opC_len l (by omega) hj]
 exact⟨hc 0 (by omega),hc 1 (by omega),hc 2 (by omega)⟩
structure SynAt (w wr:World)(R D bd bn pc:Nat)(pa:Option Addr)(d:DkD)(i:Nat):Prop where
 c:DkC wr D bd bn (.slice pa d.pend.length pc) d.left d.full d.down
 own:wr.ownsRow R 147 3 (.slice pa d.pend.length pc) d.pend.length (d.pend.flatMap opC)
 at_:DkAt wr R D bd bn { d with dur:=(d.pend.take i).foldl doF d.dur }
 f:DF w wr R D bd bn
theorem SynAt.below {w wr wx:World}{R D bd bn pc:Nat}{pa:Option Addr}{d:DkD}{i:Nat}(h:SynAt w wr R D bd bn pc pa d i)(hb:Below wr.heap.size wr wx):SynAt w wx R D bd bn pc pa d i :=
 ⟨h.c.at_ (hb.block _ (Zaa h.c.blk)),Zah h.own hb,h.at_.below hb,h.f.trans (DF.of_below R D bd bn hb)⟩
set_option maxHeartbeats 8000000 in
theorem dsync_all (w:World)(R D bd bn M:Nat)(d:DkD)(h:DkAt w R D bd bn d)(hs:SzF d.dur M)(hs2:∀o∈d.pend,o.data.length<=M)(hM:M<=1099511627776) :
  Calls Tryz.prog 253 #[.pointer (some ⟨D,0,none⟩)] w fun x w'=>x= .returned (errV d.wErr)/\DkAt w' R D bd bn d.synced/\DF w w' R D bd bn/\(d.wErr=0->w'.cell? ⟨D,2,none⟩=some (.slice none 0 0)):=by
 obtain⟨pa,pc,q1,q2⟩:=h.c
 have HWR:=Hid.mk (writes_any w D bd bn (.slice pa d.pend.length pc) d q1)
 have H0:=Hid.mk (And.intro h (And.intro q1 q2))
 obtain⟨n,hn⟩:∃n,n=d.pend.length:=⟨_,rfl⟩
 have hn8:n<=8:=by rw [hn];exact h.few
 have HN:=Hid.mk hn
 rw [<-hn] at HWR
 by_cases hE:d.wErr=0
 ·have e2:d.synced={ d.wrote with dur:=d.pend.foldl doF d.dur,pend:=[] }:=by unfold DkD.synced;rw [if_neg (by rw [hE];decide)]
  rw [hE] at HWR
  rw [hE,e2]
  clear h q1 q2 hn hE e2
  go_enter Tryz.func253,Tryz.ntmps253
  go_upto_region 4 with (go_at_call 258;refine HWR.out.mono ?_;rintro _ w1 ⟨rfl,hc1,ho1⟩;have HW1:=Hid.mk (And.intro hc1 ho1);clear hc1 ho1;rw [Zay])
  obtain⟨dx,hdx⟩:∃dx,dx=d.wrote:=⟨_,rfl⟩
  have hs0:SynAt w w1 R D bd bn pc pa dx 0:=by
   have hc1:=HW1.out.1
   have hw:=Zav d
   rw [HN.out] at hc1
   have h2:=H0.out.1.wrote H0.out.2.1 H0.out.2.2 hc1 HW1.out.2
   rw [hdx]
   exact⟨by rw [hw.2.2];exact hc1,by rw [hw.2.2];exact h2.2,h2.1,DF.of_one HW1.out.2 (Or.inl rfl)⟩
  have hp:dx.pend=d.pend:=by rw [hdx];exact (Zav d).2.2
  have m2:=hs0.c.cells.1.1.1.2
  rw [hp,<-HN.out] at m2
  have HS:=Hid.mk hs0
  have HDX:=Hid.mk (And.intro hdx hp)
  clear hs0 hdx hp
  go_wp2_with fail
  go_loopw [16] (fun iv wr=>∃i:Nat,iv= .int .i64 i/\i<=n/\SynAt w wr R D bd bn pc pa dx i) (fun iv _=>n - (intOf iv).toNat)
  case atStart=>exact⟨0,rfl,by omega,HS.out⟩
  case round =>
   obtain⟨i,rfl,hi,hS⟩:=hrel
   by_cases h1:i<n
   ·have hnd:dx.pend.length=n:=by rw [HDX.out.2];exact HN.out.symm
    obtain⟨pg,hpg,hpc⟩:∃pg,pa=some ⟨pg,0,none⟩/\n<=pc:=by
     rcases hS.own.2 with⟨_,x⟩ | ⟨g,cap,cur,x,_,_,x2,_⟩
     ·omega
     ·simp only [Value.slice.injEq] at x
      exact⟨g,x.1,by omega⟩
    subst hpg
    obtain⟨o,ho⟩:∃o,o=dx.pend.getD i .z:=⟨_,rfl⟩
    have hown:=hS.own
    rw [hnd] at hown
    obtain⟨t0,t1,t2⟩:=dcell hown hnd h1
    rw [<-ho] at t0 t1 t2
    obtain⟨nm,hnm⟩:∃nm,nm=nmB o.at_:=⟨_,rfl⟩
    obtain⟨sd,hsd⟩:∃sd,sd=Zcd o.data:=⟨_,rfl⟩
    obtain⟨kd,hkd⟩:∃kd,kd=o.kind:=⟨_,rfl⟩
    rw [<-hkd] at t0
    rw [<-hnm] at t1
    rw [<-hsd] at t2
    obtain⟨w2,hw2⟩:∃w2,w2=wr.alloc (.cells #[.int .i64 kd, .string nm, .string sd] 147):=⟨_,rfl⟩
    obtain⟨ob,hob⟩:∃ob,ob=wr.heap.size:=⟨_,rfl⟩
    have hb2:Below wr.heap.size wr w2:=by rw [hw2];exact (Below.refl _ _).alloc (Nat.le_refl _) _
    have hblk:w2.heap[ob]? =some (.cells #[.int .i64 kd, .string nm, .string sd] 147 (0,0)):=by rw [hw2,hob];exact heap_alloc_new wr _
    have hS2:=hS.below hb2
    have m0:=hS2.c.cells.1.1.1.1.1
    have u0:=Zam hblk 0
    have u1:=Zam hblk 1
    have u2:=Zam hblk 2
    have hom:o∈dx.pend:=by rw [ho];exact Zbj (z:=OpD.z) (by omega)
    have HDO:=Hid.mk (show ∀wx,Below w2.heap.size w2 wx->Calls Tryz.prog 70 #[.map (some bd), .agg #[.int .i64 kd, .string nm, .string sd]] wx fun x w'=>x= .returned (.tuple #[])/\SynAt w w' R D bd bn pc (some ⟨pg,0,none⟩) dx (i+1)/\w'.heap[ob]? =some (.cells #[.int .i64 kd, .string nm, .string sd] 147 (0,0)) from fun wx hb=>by
     have h3:=hS2.below hb
     obtain⟨Dd,hfd⟩:=h3.at_.fd
     have hops:=h3.at_.ops o hom
     have hsz:SzF ((dx.pend.take i).foldl doF dx.dur) (M+(dx.pend.take i).length * M):=fold_size _ _ _ (by rw [HDX.out.1,(Zav d).1];exact hs) (fun x hx=>hs2 x (by rw [<-HDX.out.2];exact List.mem_of_mem_take hx))
     have hd:=do_any wx bd _ Dd o hfd hops.1 hops.2 (fun s hss=>by
      have h4:=hsz _ _ hss
      have h5:=hs2 o (by rw [<-HDX.out.2];exact hom)
      have h6:(dx.pend.take i).length * M<=8 * M:=Nat.mul_le_mul_right _ (by rw [List.length_take];omega)
      omega)
     unfold opV at hd
     rw [<-hnm,<-hsd,<-hkd] at hd
     refine hd.mono ?_
     rintro x w' ⟨rfl,hf,ho'⟩
     have hdid:=h3.at_.didD hf ho'
     have hx:(dx.pend.take (i+1)).foldl doF dx.dur=doF ((dx.pend.take i).foldl doF dx.dur) o:=by
      rw [List.take_add_one,List.foldl_append,List.getElem?_eq_getElem (by omega)]
      have:dx.pend[i]=o:=by rw [ho,List.getD_eq_getElem?_getD,List.getElem?_eq_getElem (by omega)];rfl
      rw [Option.toList_some,this];rfl
     refine⟨rfl,⟨h3.c.at_ (hdid.2 D _ h3.c.blk (fun _ _ x=>by cases x)),⟨h3.own.1,?_⟩,?_,h3.f.trans (DF.of_one ho' (Or.inr (Or.inl rfl)))⟩,?_⟩
     ·rcases h3.own.2 with x | ⟨g,cap,cur,x,hg,hh,r⟩
      ·exact Or.inl x
      ·exact Or.inr ⟨g,cap,cur,x,hg,(hdid.2 g _ hh (fun _ _ x=>by cases x)).trans hh,r⟩
     ·rw [hx];exact hdid.1
     ·have e1:=(hb.block ob (Zaa hblk)).trans hblk
      exact (hdid.2 ob _ e1 (fun _ _ x=>by cases x)).trans e1)
    have HW2:=Hid.mk (And.intro hw2 hob)
    have i1:(i:Int)<(n:Int):=by omega
    clear hw2 hob hb2 hblk hS hS2 hown hom ho hnm hsd hkd hnd
    go_upto_region 7 with fail
    rw [<-HW2.out.2,<-HW2.out.1]
    clear t0 t1 t2
    go_region_held3 (fun w'=>((w'.cell? ⟨D,0,none⟩=some (.map (some bd))/\w'.cell? ⟨ob,0,none⟩=some (.int .i64 kd))/\w'.cell? ⟨ob,1,none⟩=some (.string nm))/\w'.cell? ⟨ob,2,none⟩=some (.string sd)) (go_keep) ((go_at_call 70;refine (HDO.out w2.drew ((Below.refl _ _).drew)).mono ?_;rintro _ w3 ⟨rfl,z1,z4⟩;have HS3:=Hid.mk z1;have y0:=z1.c.cells.1.1.1.1.1;have y1:w3.cell? ⟨ob,0,none⟩=some (.int .i64 kd):=Zam z4 0;have y2:w3.cell? ⟨ob,1,none⟩=some (.string nm):=Zam z4 1;have y3:w3.cell? ⟨ob,2,none⟩=some (.string sd):=Zam z4 2;clear z1 z4))
    all_goals
     clear u0 u1 u2 m0 y0 y1 y2 y3
     go_wp2_with fail
     go_roundw
     case rel=>exact⟨i+1,by go_num,by omega,HS3.out⟩
     case measure=>simp [intOf];omega
   ·have i1:¬(i:Int)<(n:Int):=by omega
    have hin:i=n:=by omega
    have HSF:=Hid.mk hS
    have m0:=hS.c.cells.1.1.1.2
    have m2:=hS.c.froz 2
    clear hS
    go_wp2_with fail
    go_ret
    have hS:=HSF.out
    have hnd:dx.pend.length=n:=by rw [HDX.out.2];exact HN.out.symm
    obtain⟨Dd,q3⟩:=hS.at_.fd
    obtain⟨Dn,q4⟩:=hS.at_.fn
    have hsetF:∀bm f Dx,FilAt wr bm f Dx->FilAt (wr.setCell ⟨D,2,none⟩ (.slice none 0 0)) bm f Dx:=fun bm f Dx hx=>by
     obtain⟨es,c,e2,_⟩:=hx.own
     exact hx.keep (Below.heap_setCell wr ⟨D,2,none⟩ _ bm (fun e=>by rw [e,hS.c.blk] at e2;cases e2)) (fun k cs fr e=>Below.heap_setCell wr ⟨D,2,none⟩ _ k (Zak e hS.c.blk (by decide)))
    refine⟨by rw [Zay];rfl,⟨by have:=hS.at_.rs;simpa [World.setCell] using this,⟨none,0,?_,World.ownsRow_nil _ _ _ _⟩,⟨Dd,?_⟩,⟨Dn,?_⟩,hS.at_.ne,Nat.zero_le _,fun o ho=>by cases ho⟩,?_,(hS.c.setP (.slice none 0 0)).cells.1.1.1.2⟩
    ·have:=hS.c.setP (.slice none 0 0)
     rw [HDX.out.1] at this
     exact this
    ·have:=hsetF _ _ _ q3
     rw [hin,<-hnd,List.take_length,HDX.out.2,HDX.out.1,(Zav d).1] at this
     exact this
    ·have:=hsetF _ _ _ q4
     rw [HDX.out.1] at this
     exact this
    ·exact hS.f.trans (DF.of_one ((OneF.refl wr D).set 2 _) (Or.inl rfl))
 ·have e2:d.synced=d.wrote:=by unfold DkD.synced;rw [if_pos hE]
  rw [e2]
  obtain⟨er,her⟩:∃er,er=d.wErr:=⟨_,rfl⟩
  rw [<-her] at HWR hE ⊢
  have HE:=Hid.mk hE
  clear h q1 q2 hn e2 her hE
  go_enter Tryz.func253,Tryz.ntmps253
  go_wp2_with (go_at_call 258;refine HWR.out.mono ?_;rintro _ w1 ⟨rfl,hc1,ho1⟩;have HW1:=Hid.mk (And.intro hc1 ho1);clear hc1 ho1;rw [Zap HE.out])
  go_ret
  have hc1:=HW1.out.1
  rw [HN.out] at hc1
  exact⟨by rw [Zap HE.out];rfl,(H0.out.1.wrote H0.out.2.1 H0.out.2.2 hc1 HW1.out.2).1,DF.of_one HW1.out.2 (Or.inl rfl),fun x=>absurd x HE.out⟩
theorem dsync_any (w:World)(R D bd bn M:Nat)(d:DkD)(h:DkAt w R D bd bn d)(hs:SzF d.dur M)(hs2:∀o∈d.pend,o.data.length<=M)(hM:M<=1099511627776) :
  Calls Tryz.prog 253 #[.pointer (some ⟨D,0,none⟩)] w fun x w'=>x= .returned (errV d.wErr)/\DkAt w' R D bd bn d.synced/\DF w w' R D bd bn :=
 (dsync_all w R D bd bn M d h hs hs2 hM).mono fun _ _ h=>⟨h.1,h.2.1,h.2.2.1⟩
theorem DkAt.raise {w:World}{R R' D bd bn:Nat}{d:DkD}(h:DkAt w R D bd bn d)(hp:d.pend=[])(hc:w.cell? ⟨D,2,none⟩=some (.slice none 0 0))(hR:R'<=w.heap.size):DkAt w R' D bd bn d:=by
 obtain⟨pa,pc,q1,q2⟩:=h.c
 have e:=q1.cells.1.1.1.2
 rw [hc] at e
 simp only [Option.some.injEq,Value.slice.injEq] at e
 obtain⟨e1,e2,e3⟩:=e
 subst e1 e3
 refine⟨hR,⟨none,0,q1,?_⟩,h.fd,h.fn,h.ne,h.few,h.ops⟩
 rw [hp]
 exact World.ownsRow_nil _ _ _ _
theorem fnvS_lt (s c:Nat):fnvS s c<4294967296:=by unfold fnvS;exact Nat.mod_lt _ (by omega)
theorem fnv_lt (l:List Int):fnvN l<4294967296:=by
 have:∀(l:List Int) (s:Nat),s<4294967296->l.foldl (fun s c=>fnvS s c.toNat) s<4294967296:=by
  intro l
  induction l with
  | nil=>intro s h;exact h
  | cons a l ih=>intro s h;rw [List.foldl_cons];exact ih _ (fnvS_lt _ _)
 exact this l _ (by omega)
theorem fnv_succ (l:List Int){i:Nat}(hi:i<l.length):fnvN (l.take (i+1))=fnvS (fnvN (l.take i)) (l.getD i 0).toNat:=by
 unfold fnvN
 rw [List.take_add_one,List.foldl_append,List.getElem?_eq_getElem hi,List.getD_eq_getElem?_getD,List.getElem?_eq_getElem hi,Option.toList_some,List.foldl_cons,List.foldl_nil,Option.getD_some]
def sealV (l:List Int):Value:= .agg #[.int .u8 ((fnvN l % 256:Nat):Int), .int .u8 ((fnvN l / 256 % 256:Nat):Int), .int .u8 ((fnvN l / 65536 % 256:Nat):Int), .int .u8 ((fnvN l / 16777216 % 256 ||| 1:Nat):Int)]
set_option maxHeartbeats 4000000 in
theorem seal_any (w:World)(a:Option Addr)(c:Nat)(l:List Int)(hl:AllB l)(hlen:l.length<=1099511627776)(h:BytesAt w a l.length c (fun k=>(l.getD k 0).toNat)) :
  Calls Tryz.prog 158 #[.slice a l.length c] w fun x w'=>x= .returned (sealV l)/\Below w.heap.size w w':=by
 obtain⟨n,hn⟩:∃n,n=l.length:=⟨_,rfl⟩
 have H:=Hid.mk h
 have HN:=Hid.mk hn
 rw [<-hn] at hlen ⊢
 clear h hn
 go_enter Tryz.func158,Tryz.ntmps158
 go_wp2_with fail
 go_loop [3,9] (fun sv iv=>∃i:Nat,i<=n/\iv= .int .i64 i/\sv= .int .u32 (fnvN (l.take i):Nat)) (fun _ iv=>n - (intOf iv).toNat)
 case atStart=>exact⟨0,by omega,rfl,rfl⟩
 case round =>
  obtain⟨i,hi,rfl,rfl⟩:=hrel
  by_cases h1:i<n
  ·obtain⟨b,o,rfl,hnc,_,hbl,hcell⟩:∃b o,a=some ⟨b,o,none⟩/\n<=c/\c<=maxLen/\b<w.heap.size/\∀k,k<n->w.cell? ⟨b,o+k,none⟩=some (.int .u8 (((l.getD k 0).toNat:Nat):Int))/\(l.getD k 0).toNat<256:=by
    rcases H.out with h | h
    ·have:=HN.out;omega
    ·rw [<-HN.out] at h;exact h
   obtain⟨t0,t1⟩:=hcell i h1
   have t0:=cell_later ((Below.refl w.heap.size w).alloc (Nat.le_refl _) (.cells #[.int .u8 0, .int .u8 0, .int .u8 0, .int .u8 0] 284)) t0
   obtain⟨x,hx⟩:∃x,x=(l.getD i 0).toNat:=⟨_,rfl⟩
   obtain⟨s,hs⟩:∃s,s=fnvN (l.take i):=⟨_,rfl⟩
   have hsl:s<4294967296:=by rw [hs];exact fnv_lt _
   rw [<-hx] at t0 t1
   rw [<-hs]
   have hxor:=u32_xor_nat s x hsl (by omega)
   have i1:(i:Int)<(n:Int):=by omega
   have HX:=Hid.mk (And.intro hx hs)
   clear hx hs hcell
   go_wp2_with fail
   go_round
   case rel=>exact⟨i+1,by omega,by go_num,by
    have hsu:=fnv_succ l (i:=i) (by have:=HN.out;omega)
    rw [<-HX.out.1,<-HX.out.2] at hsu
    rw [hsu]
    unfold fnvS
    congr 1⟩
   case measure=>simp [intOf];omega
  ·have hin:i=n:=by omega
   obtain⟨s,hs⟩:∃s,s=fnvN l:=⟨_,rfl⟩
   have hsl:s<4294967296:=by rw [hs];exact fnv_lt _
   have ht:l.take i=l:=by rw [hin,HN.out];exact List.take_length
   rw [ht,<-hs]
   have i1:¬(i:Int)<(n:Int):=by omega
   have HS:=Hid.mk hs
   clear hs ht hin h1
   go_wp2_with fail
   refine wp_loop_rounds 5 ?_
   rw [rounds_succ]
   go_wp2_with fail
   rw [rounds_succ]
   go_wp2_with fail
   rw [rounds_succ]
   go_wp2_with fail
   rw [rounds_succ]
   go_wp2_with fail
   rw [rounds_succ]
   go_wp2_with fail
   have hor:=u8_or_nat (s / 16777216) 1 (by omega) (by omega)
   have hc:((s / 16777216:Nat):Int)=(s:Int) / 16777216:=by omega
   rw [hc] at hor
   have hor':bits BinOp.or .u8 ((s:Int) / 16777216) 1=((s / 16777216 ||| 1:Nat):Int):=hor
   rw [hor']
   have hV:sealV l= .agg #[.int .u8 ((s:Int) % 256), .int .u8 ((s:Int) / 256 % 256), .int .u8 ((s:Int) / 65536 % 256), .int .u8 ((s / 16777216 ||| 1:Nat):Int)]:=by
    unfold sealV
    rw [<-HS.out]
    have e1:((s % 256:Nat):Int)=(s:Int) % 256:=by omega
    have e2:((s / 256 % 256:Nat):Int)=(s:Int) / 256 % 256:=by omega
    have e3:((s / 65536 % 256:Nat):Int)=(s:Int) / 65536 % 256:=by omega
    have e4:s / 16777216 % 256=s / 16777216:=Nat.mod_eq_of_lt (by omega)
    rw [e1,e2,e3,e4]
   refine bodyPost_ret (results_cell_row rfl _ _ w.heap.size 284 #[.int .u8 ((s:Int) % 256), .int .u8 ((s:Int) / 256 % 256), .int .u8 ((s:Int) / 65536 % 256), .int .u8 ((s / 16777216 ||| 1:Nat):Int)] (0,0) _ rfl (heap_alloc_new w _) Tryz.underlying284 rfl rfl) rfl ?_
   exact⟨by rw [hV],(Below.refl _ _).alloc (Nat.le_refl _) _⟩
theorem bytes_step {B:Nat}{w w2:World}{v v':Value}{l m:List Int}(hl:ByteRow B w v l)(hB:B<=w.heap.size){ob:Obj}(hown:w2.ownsRow B 5 1 v' (l.length+m.length) (bv l++bv m))(hg:(w.alloc ob).grownBy w2 v.ownBlock):ByteRow B w2 v' (l++m)/\F8 B w w2:=by
 have h1:ByteRow B (w.alloc ob) v l:=hl.below ((Below.refl _ _).alloc (Nat.le_refl _) _)
 refine⟨?_,((F8.refl B w).alloc hB ob).trans (F8.grown h1 hg (by simp;omega))⟩
 unfold ByteRow
 rw [List.length_append,bv_append]
 exact hown
theorem bytes_step0 {B:Nat}{w w2:World}{v v':Value}{l m:List Int}(hl:ByteRow B w v l)(hB:B<=w.heap.size)(hown:w2.ownsRow B 5 1 v' (l.length+m.length) (bv l++bv m))(hg:w.grownBy w2 v.ownBlock):ByteRow B w2 v' (l++m)/\F8 B w w2:=by
 refine⟨?_,F8.grown hl hg hB⟩
 unfold ByteRow
 rw [List.length_append,bv_append]
 exact hown
set_option maxHeartbeats 8000000 in
theorem frame_any (w:World)(B B0:Nat)(v:Value)(zs:List Int)(rg rc:Nat)(l:List Int)(hv:ByteRow B w v zs)(hB:B<=w.heap.size)(hr:ByteRow B0 w (.slice (some ⟨rg,0,none⟩) l.length rc) l)(hrB:rg<B)(hl:AllB l)(hlen:l.length<=1000000)(hl1:1<=l.length)(hz:zs.length<=1000000000) :
  Calls Tryz.prog 111 #[v, .slice (some ⟨rg,0,none⟩) l.length rc] w fun x w'=>∃v',x= .returned v'/\ByteRow B w' v' (zs++frameB l)/\F8 B w w':=by
 obtain⟨n,hn⟩:∃n,n=l.length:=⟨_,rfl⟩
 obtain⟨m,hm⟩:∃m,m=zs.length:=⟨_,rfl⟩
 obtain⟨i5,hi,hz0,hz1,hz2⟩:=info_parts info5
 have HI:=Hid.mk (And.intro hi (And.intro hz0 (And.intro hz1 hz2)))
 have HN:=Hid.mk (And.intro hn (And.intro hm (And.intro hl hv)))
 have HR:=Hid.mk hr
 rw [<-hn] at hlen hl1 ⊢
 rw [<-hm] at hz
 have HV:=Hid.mk (show w.ownsRow B 5 1 v m (bv zs) by rw [hm];exact hv)
 clear hv hr hn hm hl hi hz0 hz1 hz2
 go_enter Tryz.func111,Tryz.ntmps111
 go_upto_region 2 with (at_builtin;refine wpList_append_own _ rfl (.tmp 6) (.tmp 14) 35 rfl B 5 i5 (.int .u8 0) 1 1 Tryz.underlying35 HI.out.1 HI.out.2.1 HI.out.2.2.1 HI.out.2.2.2 rfl (by decide) v m (bv zs) rfl (HV.out.alloc _) ⟨w.heap.size,0,none⟩ 2 2 [.int .u8 ((n:Int) % 256), .int .u8 ((n:Int) / 256 % 256)] rfl rfl (World.news_of_block (cs:=#[.int .u8 ((n:Int) % 256), .int .u8 ((n:Int) / 256 % 256)]) (t:=5) (fr:=(0,0)) (heap_alloc_new w _)) (by simp [Value.oneCell']) (by unfold maxLen;omega) (by omega) (by simp;omega) ?_;intro v2 w2 hown2 hgrow2 hiff;clear hiff;have HO2:=Hid.mk (And.intro hown2 hgrow2);clear hown2 hgrow2)
 have H2:=Hid.mk (show ByteRow B w2 v2 (zs++headB l)/\F8 B w w2 by
  obtain⟨h1,h2⟩:=HO2.out
  have e1:headB l=[(n:Int) % 256,(n:Int) / 256 % 256]:=by
   unfold headB
   rw [<-HN.out.1]
   have a1:((n % 256:Nat):Int)=(n:Int) % 256:=by omega
   have a2:((n / 256 % 256:Nat):Int)=(n:Int) / 256 % 256:=by omega
   rw [a1,a2]
  rw [HN.out.2.1] at h1
  rw [e1]
  exact bytes_step HN.out.2.2.2 hB h1 h2)
 have hB2:B<=w2.heap.size:=Nat.le_trans hB H2.out.2.bl.size
 have HV2:=Hid.mk (show w2.ownsRow B 5 1 v2 (m+2) (bv (zs++headB l)) by
  have:=H2.out.1
  unfold ByteRow at this
  rw [List.length_append,<-HN.out.2.1] at this
  exact this)
 have HR2:=Hid.mk (show ByteRow B0 w2 (.slice (some ⟨rg,0,none⟩) n rc) l/\(bv l).length=n * 1 by
  refine⟨?_,by rw [bv_length,HN.out.1];omega⟩
  have hr:=HR.out
  rw [<-HN.out.1] at hr
  refine⟨hr.1,?_⟩
  rcases hr.2 with x | ⟨g,cap,cur,x,hg,hh,r⟩
  ·exact Or.inl x
  ·obtain rfl:rg=g:=by simp only [Value.slice.injEq,Option.some.injEq,Addr.mk.injEq] at x;exact x.1.1
   exact Or.inr ⟨rg,cap,cur,x,hg,(H2.out.2.bl.block rg hrB).trans hh,r⟩)
 go_upto_region 3 with (at_builtin;refine wpList_append_own _ rfl (.tmp 16) (.tmp 17) 35 rfl B 5 i5 (.int .u8 0) 1 1 Tryz.underlying35 HI.out.1 HI.out.2.1 HI.out.2.2.1 HI.out.2.2.2 rfl (by decide) v2 (m+2) (bv (zs++headB l)) rfl HV2.out ⟨rg,0,none⟩ n rc (bv l) rfl HR2.out.2 (World.ownsRow.cells HR2.out.1 rfl) (bv_one l) (by unfold maxLen;omega) (by omega) hB2 ?_;intro v3 w3 hown3 hgrow3 hiff;clear hiff;have HO3:=Hid.mk (And.intro hown3 hgrow3);clear hown3 hgrow3)
 have H3:=Hid.mk (show ByteRow B w3 v3 (zs++headB l++l)/\F8 B w w3 by
  obtain⟨h1,h2⟩:=HO3.out
  have e:(zs++headB l).length+l.length=m+2+n:=by rw [List.length_append,HN.out.2.1,HN.out.1];rfl
  rw [<-e] at h1
  have:=bytes_step0 H2.out.1 hB2 h1 h2
  exact⟨this.1,H2.out.2.trans this.2⟩)
 have hB3:B<=w3.heap.size:=Nat.le_trans hB H3.out.2.bl.size
 obtain⟨s0,s1,s2,s3,hsv,hsl⟩:∃s0 s1 s2 s3,sealV l= .agg #[.int .u8 s0, .int .u8 s1, .int .u8 s2, .int .u8 s3]/\sealB l=[s0,s1,s2,s3]:=⟨_,_,_,_,rfl,rfl⟩
 have HSE:=Hid.mk (show Calls Tryz.prog 158 #[.slice (some ⟨rg,0,none⟩) n rc] w3 fun x w'=>x= .returned (.agg #[.int .u8 s0, .int .u8 s1, .int .u8 s2, .int .u8 s3])/\Below w3.heap.size w3 w' by
  have hr:=HR.out
  have hr3:ByteRow B0 w3 (.slice (some ⟨rg,0,none⟩) l.length rc) l:=by
   refine⟨hr.1,?_⟩
   rcases hr.2 with x | ⟨g,cap,cur,x,hg,hh,r⟩
   ·exact Or.inl x
   ·obtain rfl:rg=g:=by simp only [Value.slice.injEq,Option.some.injEq,Addr.mk.injEq] at x;exact x.1.1
    exact Or.inr ⟨rg,cap,cur,x,hg,(H3.out.2.bl.block rg hrB).trans hh,r⟩
  obtain⟨a,c,e,_,_,hb,_,_⟩:=row_bytes hr3 HN.out.2.2.1
  simp only [Value.slice.injEq,true_and] at e
  obtain⟨rfl,rfl⟩:=e
  have:=seal_any w3 (some ⟨rg,0,none⟩) rc l HN.out.2.2.1 (by rw [<-HN.out.1];omega) hb
  rw [<-HN.out.1,hsv] at this
  exact this)
 have HSL:=Hid.mk hsl
 clear hsv hsl
 go_upto_region 4 with (go_at_call 158;refine HSE.out.mono ?_;rintro _ w4 ⟨rfl,hb4⟩;have HB4:=Hid.mk hb4;clear hb4)
 obtain⟨w5,hw5⟩:∃w5,w5=w4.alloc (.cells #[.int .u8 s0, .int .u8 s1, .int .u8 s2, .int .u8 s3] 284):=⟨_,rfl⟩
 obtain⟨sb,hsb⟩:∃sb,sb=w4.heap.size:=⟨_,rfl⟩
 have hblk:w5.heap[sb]? =some (.cells #[.int .u8 s0, .int .u8 s1, .int .u8 s2, .int .u8 s3] 284 (0,0)):=by rw [hw5,hsb];exact heap_alloc_new w4 _
 have hb45:Below w4.heap.size w4 w5:=by rw [hw5];exact (Below.refl _ _).alloc (Nat.le_refl _) _
 rw [<-hw5,<-hsb]
 have H5:=Hid.mk (show ByteRow B w5 v3 (zs++headB l++l)/\F8 B w w5 by
  have hb:Below w3.heap.size w3 w5:=HB4.out.trans' hb45
  exact⟨H3.out.1.below hb,H3.out.2.trans (F8.of_below hb hB3)⟩)
 have hB5:B<=w5.heap.size:=Nat.le_trans hB H5.out.2.bl.size
 have HV5:=Hid.mk (show w5.ownsRow B 5 1 v3 (m+2+n) (bv (zs++headB l++l)) by
  have:=H5.out.1
  unfold ByteRow at this
  rw [List.length_append,List.length_append,<-HN.out.2.1,<-HN.out.1] at this
  exact this)
 have HNW:=Hid.mk (World.news_of_block hblk)
 clear hw5 hsb hblk hb45
 go_wp2_with (at_builtin;refine wpList_append_own _ rfl (.tmp 21) (.tmp 22) 35 rfl B 5 i5 (.int .u8 0) 1 1 Tryz.underlying35 HI.out.1 HI.out.2.1 HI.out.2.2.1 HI.out.2.2.2 rfl (by decide) v3 (m+2+n) (bv (zs++headB l++l)) rfl HV5.out ⟨sb,0,none⟩ 4 4 [.int .u8 s0, .int .u8 s1, .int .u8 s2, .int .u8 s3] rfl rfl HNW.out (by simp [Value.oneCell']) (by unfold maxLen;omega) (by omega) hB5 ?_;intro v6 w6 hown6 hgrow6 hiff;clear hiff;have HO6:=Hid.mk (And.intro hown6 hgrow6);clear hown6 hgrow6)
 go_ret
 obtain⟨h1,h2⟩:=HO6.out
 have e:(zs++headB l++l).length+(sealB l).length=m+2+n+4:=by rw [List.length_append,List.length_append,HN.out.2.1,HN.out.1];rfl
 have e2:bv (sealB l)=[.int .u8 s0, .int .u8 s1, .int .u8 s2, .int .u8 s3]:=by rw [HSL.out];rfl
 rw [<-e,<-e2] at h1
 have h3:=bytes_step0 H5.out.1 hB5 h1 h2
 refine⟨v6,rfl,?_,H5.out.2.trans h3.2⟩
 have:=h3.1
 unfold frameB
 rw [<-List.append_assoc,<-List.append_assoc]
 exact this
theorem leB_byte:∀n:Nat,AllB (leB n):=by
 intro n
 induction n using Nat.strongRecOn with
 | _ n ih =>
  by_cases h:n=0
  ·subst h;rw [leB_zero];intro x hx;cases hx
  ·rw [leB_pos h]
   intro x hx
   rcases List.mem_cons.1 hx with rfl | hx
   ·omega
   ·exact ih (n / 256) (by omega) x hx
theorem strOf_list (l:List Int)(hl:AllB l):(Zcd l).data.toList.map (fun b=>(b.toNat:Int))=l:=by
 have:∀(l:List Int) (b:ByteArray),AllB l->(l.foldl (fun r n=>r.push (UInt8.ofNat n.toNat)) b).data.toList.map (fun b=>(b.toNat:Int))=b.data.toList.map (fun b=>(b.toNat:Int))++l:=by
  intro l
  induction l with
  | nil=>intro b _;simp
  | cons a l ih =>
   intro b h
   have ha:=h a (List.mem_cons_self ..)
   rw [List.foldl_cons,ih _ (fun x hx=>h x (List.mem_cons_of_mem _ hx))]
   simp only [ByteArray.push,Array.toList_push,List.map_append,List.map_cons,List.map_nil,List.append_assoc,List.singleton_append]
   congr 2
   have e:a.toNat<256:=by omega
   simp only [UInt8.toNat_ofNat',Nat.mod_eq_of_lt e]
   omega
 have h:=this l ByteArray.empty hl
 unfold Zcd
 rw [h]
 simp
theorem strCells_of (l:List Int)(hl:AllB l):Lib.strCells (Zcd l)=bv l:=by
 have h:=strOf_list l hl
 unfold bv Lib.strCells
 conv=>rhs;rw [<-h]
 rw [List.map_map]
 rfl
set_option maxHeartbeats 4000000 in
theorem record_any (w:World)(op:Int)(N:Nat)(data:List Int)(hop:0<=op/\op<256)(hN:N<18446744073709551616)(hd:AllB data)(hl:data.length<=1000000) :
  Calls Tryz.prog 92 #[.agg #[.int .i64 op, .int .u64 N, .string (Zcd data)]] w fun x w'=>∃g c,x= .returned (.slice (some ⟨g,0,none⟩) (recB op data N).length c)/\ByteRow w.heap.size w' (.slice (some ⟨g,0,none⟩) (recB op data N).length c) (recB op data N)/\Below w.heap.size w w':=by
 obtain⟨sd,hsd⟩:∃sd,sd=Zcd data:=⟨_,rfl⟩
 obtain⟨n,hn⟩:∃n,n=data.length:=⟨_,rfl⟩
 have hsz:sd.size=n:=by rw [hsd,strOf_size,hn]
 obtain⟨i5,hi,hz0,hz1,hz2⟩:=info_parts info5
 have HI:=Hid.mk (And.intro hi (And.intro hz0 (And.intro hz1 hz2)))
 obtain⟨w0,hw0⟩:∃w0,w0=w.alloc (.cells #[.int .i64 op, .int .u64 N, .string sd] 119):=⟨_,rfl⟩
 obtain⟨cb,hcb⟩:∃cb,cb=w.heap.size:=⟨_,rfl⟩
 have hb0:Below w.heap.size w w0:=by rw [hw0];exact (Below.refl _ _).alloc (Nat.le_refl _) _
 have hblk:w0.heap[cb]? =some (.cells #[.int .i64 op, .int .u64 N, .string sd] 119 (0,0)):=by rw [hw0,hcb];exact heap_alloc_new w _
 have u0:=Zam hblk 0
 have u1:=Zam hblk 1
 have u2:=Zam hblk 2
 have hcl:=Zaa hblk
 have u2':=cell_later ((Below.refl w0.heap.size w0).alloc (Nat.le_refl _) (.cells #[.int .u8 op] 5)) u2
 have hro:=World.ownsRow_lit (e:=5) (base:=w.heap.size) (size:=1) w0 #[.int .u8 op] 1 hb0.size (by unfold maxLen;omega) rfl
 have hsc:Lib.strCells sd=bv data:=by rw [hsd];exact strCells_of data hd
 have HRO:=Hid.mk hro
 have HW:=Hid.mk (And.intro hcb (And.intro hw0 (And.intro hb0 (And.intro hblk (And.intro hsd (And.intro hn (And.intro hsz hsc)))))))
 have hb8:IntKind.u8.wrap op=op:=by rw [IntKind.wrap_u8];omega
 rw [<-hsd]
 rw [<-hn] at hl
 clear hsd hw0 hcb hb0 hblk hn hsz hro hi hz0 hz1 hz2 hd hsc
 go_enter Tryz.func92,Tryz.ntmps92
 go_upto_region 1 with fail
 rw [<-HW.out.1,<-HW.out.2.1]
 go_upto_region 2 with (at_builtin;refine Lib.wpList_append_own_string _ rfl (.tmp 8) (.tmp 10) 35 9 rfl w.heap.size 5 i5 Tryz.underlying35 Tryz.underlying9 HI.out.1 HI.out.2.1 HI.out.2.2.1 HI.out.2.2.2 (.slice (some ⟨w0.heap.size,0,none⟩) 1 1) 1 [.int .u8 op] rfl HRO.out sd rfl (by have:=HW.out.2.2.2.2.2.2.1;unfold maxLen;omega) (by have:=HW.out.2.2.2.2.2.2.1;omega) (by have:=HW.out.2.2.1.size;simp;omega) ?_;intro v2 w2 hown2 hgrow2 hiff;clear hiff;have HO2:=Hid.mk (And.intro hown2 hgrow2);clear hown2 hgrow2)
 have H2:=Hid.mk (show ByteRow w.heap.size w2 v2 (op::data)/\Below w.heap.size w w2/\w2.cell? ⟨cb,1,none⟩=some (.int .u64 N) by
  obtain⟨h1,h2⟩:=HO2.out
  obtain⟨q1,q2,q3,q4,q5,q6,q7,q8⟩:=HW.out
  have hba:Below w0.heap.size w0 (w0.alloc (.cells #[.int .u8 op] 5)):=(Below.refl _ _).alloc (Nat.le_refl _) _
  refine⟨?_,?_,?_⟩
  ·unfold ByteRow
   rw [q8,q7,q6] at h1
   have:(op::data).length=1+data.length:=by rw [List.length_cons];omega
   rw [this]
   exact h1
  ·have hsz0:=q3.size
   refine (q3.trans (hba.mono hsz0)).grown h2 (by simp;omega) (fun k hk=> ?_)
   simp only [Value.ownBlock,Option.some.injEq] at hk
   omega
  ·refine (World.cell?_of_block (a:=⟨cb,1,none⟩) ((h2.block cb (by simp;omega) (fun e=> ?_)).trans (Zaj _ _ _ hcl))).trans u1
   simp only [Value.ownBlock,Option.some.injEq] at e
   omega)
 have u1:=H2.out.2.2
 clear u0 u2 u2'
 go_wp2_with fail
 go_loopw [3,4] (fun xv nv wr=>∃(k:Nat) (l:List Int) (vb:Value),vb=xv/\nv= .int .u64 k/\k<18446744073709551616/\l++leB k=recB op data N/\ByteRow w.heap.size wr vb l/\Below w.heap.size w wr/\1<=l.length/\l.length+(leB k).length<=1000009) (fun _ nv _=>(intOf nv).toNat)
 case atStart =>
  have:=leB_len 8 N hN
  exact⟨N,op::data,v2,rfl,rfl,hN,rfl,H2.out.1,H2.out.2.1,by rw [List.length_cons];omega,by rw [List.length_cons,<-HW.out.2.2.2.2.2.1];omega⟩
 case round =>
  obtain⟨k,l,vb,rfl,rfl,hk,hrec,hrow,hbl,hl1,hll⟩:=hrel
  by_cases h0:k=0
  ·subst h0
   have HR:=Hid.mk (And.intro hrec (And.intro hrow hbl))
   clear hrec hrow hbl
   go_wp2_with fail
   go_ret
   obtain⟨r1,r2,r3⟩:=HR.out
   rw [leB_zero,List.append_nil] at r1
   obtain⟨a,c,e⟩:=Za3 r2
   obtain⟨g,cap,e2,_⟩:=World.ownsRow.form r2 (by omega)
   rw [e] at e2
   simp only [Value.slice.injEq] at e2
   obtain⟨rfl,_,rfl⟩:=e2
   rw [<-r1]
   refine⟨g,c,?_,?_,r3⟩
   ·exact congrArg Ending.returned e
   ·rw [<-e];exact r2
  ·obtain⟨m,hm⟩:∃m,m=l.length:=⟨_,rfl⟩
   have hlb:=leB_pos h0
   have HR:=Hid.mk (And.intro hrec (And.intro hrow (And.intro hbl (And.intro hlb hm))))
   have HV:=Hid.mk (show wr.ownsRow w.heap.size 5 1 vb m (bv l) by rw [hm];exact hrow)
   have hws:=hbl.size
   have hk0:(0:Int)<(k:Int):=by omega
   rw [hlb,List.length_cons,<-hm] at hll
   rw [<-hm] at hl1
   have HK:=Hid.mk hk
   have HNN:=Hid.mk hN
   clear hrec hrow hbl hlb hm hk hN
   go_wp2_with (at_builtin;refine wpList_append_own _ rfl (.tmp 18) (.tmp 21) 35 rfl w.heap.size 5 i5 (.int .u8 0) 1 1 Tryz.underlying35 HI.out.1 HI.out.2.1 HI.out.2.2.1 HI.out.2.2.2 rfl (by decide) vb m (bv l) rfl (HV.out.alloc _) ⟨wr.heap.size,0,none⟩ 1 1 [.int .u8 ((k:Int) % 256)] rfl rfl (news1 _ _ _ _ rfl) (one_byte _) (by unfold maxLen;omega) (by omega) (by simp;omega) ?_;intro v3 w3 hown3 hgrow3 hiff;clear hiff;have HO3:=Hid.mk (And.intro hown3 hgrow3);clear hown3 hgrow3)
   go_roundw
   case rel =>
    obtain⟨r1,r2,r3,r4,r5⟩:=HR.out
    obtain⟨h1,h2⟩:=HO3.out
    rw [r5] at h1
    have h3:=byte_step r2 r3.size h1 h2
    refine⟨k / 256,l++[(k:Int) % 256],_,rfl,by go_num,by have:=HK.out;omega,?_,h3.1,r3.trans (h3.2.bl),by rw [List.length_append];simp,by rw [List.length_append,List.length_singleton,<-r5];omega⟩
    rw [List.append_assoc,List.singleton_append,<-r1,r4]
    have:((k % 256:Nat):Int)=(k:Int) % 256:=by omega
    rw [this]
   case measure=>simp [intOf];omega
structure LogD where
 at_:Nat
 short:Nat
 err:Int
def dkI (D:Nat):Value:= .iface 80 (.pointer (some ⟨D,0,none⟩))
structure LogAt (w:World)(P D:Nat)(g:LogD):Prop where
 c0:w.cell? ⟨P,0,none⟩=some (dkI D)
 c1:w.cell? ⟨P,1,none⟩=some (.int .i64 g.at_)
 c2:w.cell? ⟨P,2,none⟩=some (.int .i64 g.short)
 c3:w.cell? ⟨P,3,none⟩=some (errV g.err)
 fz:∀o,w.frozen? ⟨P,o,none⟩=false
def Zbi (w:World):Prop:=∀i,i<3->w.cell? ⟨1,i,none⟩=some (.string (nmB i))
theorem m_append (v:Value)(w:World):(Go.method 513 80 v "Append").run Tryz.prog w= .ok (249,v) w:=by kernel_rfl
theorem m_sync (v:Value)(w:World):(Go.method 513 80 v "Sync").run Tryz.prog w= .ok (253,v) w:=by kernel_rfl
theorem m_read (v:Value)(w:World):(Go.method 513 80 v "Read").run Tryz.prog w= .ok (251,v) w:=by kernel_rfl
theorem make8 (w:World)(n:Nat)(hn:n<=100000):(Instr.makeSlice 35 (.int .i64 (n:Int)) (.int .i64 (n:Int))).run Tryz.prog w= .ok (.slice (some ⟨w.heap.size,0,none⟩) n n) (w.alloc (.cells (madeCells (.int .u8 0:Value).cells (n * 1)) 5)):=by
 obtain⟨i,hi,hz,hs,hb⟩:=info_parts info5
 have:=run_makeSlice (P:=Tryz.prog) w 35 5 i _ Tryz.underlying35 hi hz .i64 .i64 n n (by omega) (by omega) (by rw [hs];simp;omega) (by rw [hb];omega) (by omega)
 rw [hs] at this
 simpa using this
theorem made8 (n:Nat):(madeCells (.int .u8 0:Value).cells (n * 1)).toList=bv (List.replicate n 0):=by
 have h:(madeCells (.int .u8 0:Value).cells (n * 1)).toList=(List.replicate n (.int .u8 0:Value).cells.toList).flatten:=by rw [<-Zbw];rfl
 rw [h]
 unfold bv
 rw [List.map_replicate]
 induction n with
 | zero=>rfl
 | succ n ih=>rw [List.replicate_succ,List.flatten_cons,List.replicate_succ,ih (by rw [<-Zbw];rfl)];rfl
theorem lerr_any (w:World)(P D:Nat)(g:LogD)(h:LogAt w P D g) :
  Calls Tryz.prog 108 #[.pointer (some ⟨P,0,none⟩)] w fun x w'=>x= .returned (errV g.err)/\w'=w:=by
 have c0:=h.c0
 have c3:=h.c3
 unfold dkI at c0
 obtain⟨v,hv⟩:∃v,v=errV g.err:=⟨_,rfl⟩
 rw [<-hv] at c3 ⊢
 clear h hv
 go_enter Tryz.func108,Tryz.ntmps108
 go_wp2_with fail
 go_ret
 exact⟨rfl,rfl⟩
theorem ladd_close (w:World)(P eb lb:Nat)(v:Value)(h1:w.cell? ⟨lb,0,none⟩=some (.pointer (some ⟨P,0,none⟩)))(h2:w.cell? ⟨eb,0,none⟩=some v)(hv:v= .nilIface\/∃t x,v= .iface t x)(h3:∃x,w.cell? ⟨P,3,none⟩=some x)(h4:w.frozen? ⟨P,3,none⟩=false) :
  CallsD Tryz.prog 141 #[.pointer (some ⟨eb,0,none⟩), .pointer (some ⟨lb,0,none⟩)] .returning w fun e u' w'=>u'= .returning/\(e= .returned (.tuple #[])/\w'=w.setCell ⟨P,3,none⟩ v):=by
 obtain⟨x,h3⟩:=h3
 rcases hv with rfl | ⟨t,y,rfl⟩
 all_goals
  go_enter_d Tryz.func141,Tryz.ntmps141
  go_wp2_with fail
  go_end0
  exact⟨rfl,rfl⟩
def LogD.op (g:LogD)(l:List Int):OpD:=⟨2,g.at_,Zcq g.short l⟩
def addE (g:LogD)(d:DkD)(l:List Int):Int:=if g.err≠0 then g.err else if d.tErr (g.op l)≠0 then d.tErr (g.op l) else (d.told (g.op l)).wErr
def addG (g:LogD)(d:DkD)(l:List Int):LogD:=if g.err≠0 then g else if d.tErr (g.op l)≠0 then { g with err:=d.tErr (g.op l) } else { g with short:=0,err:=(d.told (g.op l)).wErr }
def addD (g:LogD)(d:DkD)(l:List Int):DkD:=if g.err≠0 then d else if d.tErr (g.op l)≠0 then d.told (g.op l) else (d.told (g.op l)).synced
structure LF (w w':World)(P R D bd bn:Nat):Prop where
 os:w'.os=w.os
 tape:w'.tape=w.tape
 output:w'.output=w.output
 size:w.heap.size<=w'.heap.size
 block:∀k,k<w.heap.size->k≠P->k≠D->k≠bd->k≠bn->(k<R\/∀cs fr,w.heap[k]? ≠some (.cells cs 147 fr))->w'.heap[k]? =w.heap[k]?
 off:∀o,4<=o->w'.cell? ⟨P,o,none⟩=w.cell? ⟨P,o,none⟩
 froz:∀o,w'.frozen? ⟨P,o,none⟩=w.frozen? ⟨P,o,none⟩
theorem LF.trans {x y z:World}{P R D bd bn:Nat}(h:LF x y P R D bd bn)(g:LF y z P R D bd bn):LF x z P R D bd bn :=
 ⟨g.os.trans h.os,g.tape.trans h.tape,g.output.trans h.output,Nat.le_trans h.size g.size,fun k hk h0 h1 h2 h3 h4=>by
  have e:=h.block k hk h0 h1 h2 h3 h4
  exact (g.block k (Nat.lt_of_lt_of_le hk h.size) h0 h1 h2 h3 (h4.imp id (fun h4 cs fr=>by rw [e];exact h4 cs fr))).trans e,fun o ho=>(g.off o ho).trans (h.off o ho),fun o=>(g.froz o).trans (h.froz o)⟩
structure LNe (P R D bd bn:Nat):Prop where
 d:P≠D
 md:P≠bd
 mn:P≠bn
 r:P<R
 gl:4<P/\4<D/\4<bd/\4<bn
theorem LF.of_below {w w':World}{P:Nat}(R D bd bn:Nat)(h:Below w.heap.size w w')(hP:P<w.heap.size):LF w w' P R D bd bn:=⟨h.os,h.tape,h.output,h.size,fun k hk _ _ _ _ _=>h.block k hk,fun o _=>World.cell?_of_block (a:=⟨P,o,none⟩) (h.block P hP),fun o=>World.frozen?_of_block (a:=⟨P,o,none⟩) (h.block P hP)⟩
theorem LF.setP (w:World)(P R D bd bn o:Nat)(v:Value)(ho:o<4):LF w (w.setCell ⟨P,o,none⟩ v) P R D bd bn :=
 have g:=GF.set w P o v
 ⟨rfl,rfl,rfl,g.size,fun k hk h0 _ _ _ _=>g.block k hk h0 (fun x=>x),fun x hx=>g.off x (by omega),g.froz⟩
theorem LF.of_df {w w':World}{P R D bd bn:Nat}(h:DF w w' R D bd bn)(hP:P<w.heap.size)(hn:LNe P R D bd bn):LF w w' P R D bd bn:=by
 have e:=h.block P hP hn.d hn.md hn.mn (Or.inl hn.r)
 exact⟨h.os,h.tape,h.output,h.size,fun k hk _ h1 h2 h3 h4=>h.block k hk h1 h2 h3 h4,fun o _=>World.cell?_of_block (a:=⟨P,o,none⟩) e,fun o=>World.frozen?_of_block (a:=⟨P,o,none⟩) e⟩
theorem LogAt.at_ {w w':World}{P D:Nat}{g:LogD}(h:LogAt w P D g)(e:w'.heap[P]? =w.heap[P]?):LogAt w' P D g :=
 ⟨(World.cell?_of_block (a:=⟨P,0,none⟩) e).trans h.c0,(World.cell?_of_block (a:=⟨P,1,none⟩) e).trans h.c1,(World.cell?_of_block (a:=⟨P,2,none⟩) e).trans h.c2,(World.cell?_of_block (a:=⟨P,3,none⟩) e).trans h.c3,fun o=>(World.frozen?_of_block (a:=⟨P,o,none⟩) e).trans (h.fz o)⟩
theorem LogAt.setS {w:World}{P D:Nat}{g:LogD}(h:LogAt w P D g)(n:Nat):LogAt (w.setCell ⟨P,2,none⟩ (.int .i64 n)) P D { g with short:=n } :=
 have f:=GF.set w P 2 (.int .i64 n)
 ⟨(f.off 0 (by omega)).trans h.c0,(f.off 1 (by omega)).trans h.c1,World.cell?_setCell_same _ _ _ h.c2,(f.off 3 (by omega)).trans h.c3,fun o=>(f.froz o).trans (h.fz o)⟩
theorem LogAt.setE {w:World}{P D:Nat}{g:LogD}(h:LogAt w P D g)(v:Int):LogAt (w.setCell ⟨P,3,none⟩ (errV v)) P D { g with err:=v } :=
 have f:=GF.set w P 3 (errV v)
 ⟨(f.off 0 (by omega)).trans h.c0,(f.off 1 (by omega)).trans h.c1,(f.off 2 (by omega)).trans h.c2,World.cell?_setCell_same _ _ _ h.c3,fun o=>(f.froz o).trans (h.fz o)⟩
theorem DkAt.setP {w:World}{P R D bd bn:Nat}{d:DkD}(h:DkAt w R D bd bn d)(hn:LNe P R D bd bn)(o:Nat)(v:Value){x:Value}(hP:w.cell? ⟨P,1,none⟩=some x):DkAt (w.setCell ⟨P,o,none⟩ v) R D bd bn d:=by
 obtain⟨pa,pc,q1,q2⟩:=h.c
 have hne:∀k,k≠P->(w.setCell ⟨P,o,none⟩ v).heap[k]? =w.heap[k]? :=fun k hk=>Below.heap_setCell w ⟨P,o,none⟩ v k hk
 obtain⟨Dd,q3⟩:=h.fd
 obtain⟨Dn,q4⟩:=h.fn
 have hs:∀k s,StrAt w k s->(w.setCell ⟨P,o,none⟩ v).heap[k]? =w.heap[k]? :=fun k s e=>hne k (fun y=>by
  subst y
  unfold World.cell? at hP
  unfold StrAt at e
  rw [e] at hP
  simp at hP)
 refine⟨by simpa [World.setCell] using h.rs,⟨pa,pc,q1.at_ (hne D (Ne.symm hn.d)),q2.1,?_⟩,⟨Dd,q3.keepS (hne bd (Ne.symm hn.md)) hs⟩,⟨Dn,q4.keepS (hne bn (Ne.symm hn.mn)) hs⟩,h.ne,h.few,h.ops⟩
 rcases q2.2 with x | ⟨g,cap,cur,x,hg,hh,r⟩
 ·exact Or.inl x
 ·exact Or.inr ⟨g,cap,cur,x,hg,(hne g (by have:=hn.r;omega)).trans hh,r⟩
end Go.Proofs.YtgdcjccbdmcebabGreatDoor
