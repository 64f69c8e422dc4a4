import Derived.Test.YtgdcjccbdmcebaaGreatDoorM37
set_option linter.unusedSimpArgs false
set_option linter.unusedVariables false
set_option maxHeartbeats 16000000
set_option maxRecDepth 100000
open Go.Proofs.Tryz
namespace Go.Proofs.YtgdcjccbdmcebaaGreatDoor
open Go.RowKit
attribute [local go_sem ↓] Go.wp_at_zero Go.wp_at_succ
variable {Kp:Int->World->Prop}
theorem Vt:(prog.info? 266).map (fun i=>(i.zero,i.size,i.bytes))=some (some (.pointer none),1,8):=by kernel_rfl
theorem Yw {e:Ab}{el:List Int}(h:Gx el e)(c:Zda e.runs e.runs.length=none):el=[]:=by
 obtain⟨is,rfl,b,_⟩:=h
 cases is with
 | nil=>rfl
 | cons a is =>
  obtain⟨q1,d⟩:=(b a).1 (List.mem_cons_self ..);exact absurd d (OT c a q1)
structure Sub4 (w1 w4:World)(P B:Nat)(ob:Option Nat)(e e4:Ab)(rs4:List Aq)(l:List Tm)(F:Ad)(a:Option Addr)(c fb:Nat)(Na:Nat->Option Addr)(Nc:Nat->Nat):Prop where
 x:Cj w4 P B ob e4 rs4 l
 ok:Ak e4
 TV:Be e4 l
 Bs:e4.runs.length<6
 kf:KF w1 w4 P B ob
 cp:An B w4 F (.slice a F.n c) F.n Na Nc
 fb:w4.heap[fb]? =some (.cells #[.int .i64 F.dl, .slice a F.n c] 61 (0,0))
 is:e.AN F=some (e4.begin F)
 lr:e4.Ah=e.Ah
theorem Po {e:Ab}{F:Ad}(h:e.runs.length<6):e.AN F=some (e.begin F):=by unfold Ab.AN;rw[if_neg (by omega)]
theorem Pm {e:Ab}{F:Ad}{o:Nat}(h:e.runs.length=6)(a:Zda e.runs e.runs.length=some o):e.AN F=some ((e.cut o).begin F):=by unfold Ab.AN;rw[if_pos h,a];rfl
theorem Pn {e:Ab}{F:Ad}(h:e.runs.length=6)(a:Zda e.runs e.runs.length=none):e.AN F=none:=by unfold Ab.AN;rw[if_pos h,a]
theorem GR {w w':World}{P B fb:Nat}{ob:Option Nat}{cs:Array Value}{fr:Nat×Nat}(hf:KF w w' P B ob)(h:w.heap[fb]? =some (.cells cs 61 fr))(a:fb≠P):w'.heap[fb]? =w.heap[fb]? :=hf.block fb (Zaa h) a (Zj ⟨_,_,_,h,by decide,by decide,by decide,by decide,by decide,fun x=>absurd x (by decide)⟩)
theorem IM (w:World)(P B:Nat)(ob:Option Nat)(e:Ab)(F:Ad)(a:Option Addr)(c:Nat)(Na:Nat->Option Addr)(Nc:Nat->Nat)(fn:Nat)(cs:Array Value)(h:BY w P B ob e)(ok:Ak e)(hF:BQ F)(iy:An B w F (.slice a F.n c) F.n Na Nc)(T:ED w P B fn cs Kp)(G:e.Ah<18446744073709551615) :
  Calls prog 127 #[.pointer (some ⟨P,4,none⟩), .agg #[.int .i64 F.dl, .slice a F.n c], .func (.func fn) #[] cs] w fun x w'=>(e.AN F=none/\x= .returned (.tuple #[.int .u64 0,AH 5])/\Below w.heap.size w w')\/∃v e2,e.AN F=some e2/\x= .returned (.tuple #[.int .u64 (if v=0 then e.Ah+1 else 0),AH v])/\BX P B ob Kp e e2 v w':=by
 obtain⟨rs,l,hx,ht⟩:=h;obtain⟨w0,fm⟩:∃w0,w0=w.alloc (.cells #[.int .i64 F.dl, .slice a F.n c] 61):=⟨_,rfl⟩;obtain⟨fb,gm⟩:∃fb,fb=w.heap.size:=⟨_,rfl⟩;have de:Below w.heap.size w w0:=by rw[fm];exact (Zk _ _).alloc (Zx _) _
 have fq:w0.heap[fb]? =some (.cells #[.int .i64 F.dl, .slice a F.n c] 61 (0,0)):=by rw[fm,gm];exact heap_alloc_new w _
 have gz:=hx.below de;obtain⟨el,now,I,je,gi⟩:=gz.ex;obtain⟨ka,kc,cm⟩:=I.kn;obtain⟨ea,en,ec,ef,jm,iz,j9⟩:=I.en;have c4:=cm.c;have c7:=iz.c2;have iu:=I.pb;have iw:fb≠P:=by have:=hx.ex;obtain⟨_,_,bf,_⟩:=this;have:=bf.pl;omega
 obtain⟨n,hn⟩:∃n,n=rs.length:=⟨_,rfl⟩;have eo:n=e.runs.length:=by rw[hn];exact hx.len
 rw[<-hn] at c4;have h6:n<=6:=by rw[eo];exact ok.wk.WW
 have ft:B<=fb:=by have:=hx.ex;obtain⟨_,_,bf,_⟩:=this;have:=bf.pb;omega
 have HK:=Zz (T.2 w0 de);have du:=T.1 w0;have A:=Zz (Zq gz (Zq (iy.below de) (Zq fq (Zq iw (Zq ft gi)))));have ay:=Zz (Zq gm (Zq fm de));have HL:=Zz G;have ig:=Zz gi;have ie:=Zz (EM w0 P el.length c7);have da:=Zz iu;have HT:=Zz ht;have HE:=Zz eo;clear hx T iy gz I je gi cm iz j9 gm fm de fq iw ft G c7 iu ht hn;by_cases gq:n=6
 ·subst gq
  cases ho:Zda e.runs e.runs.length with
  | none =>
   have fv:=Yw ig.o ho;have hr:=Pn (F:=F) HE.o.symm ho;have cr:Hid (Calls prog 195 #[.pointer (some ⟨P,5,none⟩)] w0 fun x w'=>x= .returned (.bool true)/\w'=w0):=Zz (by have:=ie.o;rw[fv] at this;exact this);have HR:=Zz hr;clear hr fv ho du eo
   go_enter func127,ntmps127
   go_upto_region 1 with fail
   rw[<-ay.o.1,<-ay.o.2.1];go_wp2_with (go_at_call 195;refine cr.o.mono ?_;rintro _ w1 ⟨rfl,gx⟩;rw[gx])
   go_ret2
   exact Zu ⟨HR.o,by rw[Zan (by decide)];rfl,ay.o.2.2⟩
  | some o =>
   obtain⟨Y,fs,_⟩:=ig.o.first ok.wk ho;have cr:Hid (Calls prog 195 #[.pointer (some ⟨P,5,none⟩)] w0 fun x w'=>x= .returned (.bool false)/\w'=w0):=Zz (by have:=ie.o;rw[fs] at this;exact this);have HR:=Zz (Pm (F:=F) HE.o.symm ho);have HO:=Zz ho;clear fs ho eo
   go_enter func127,ntmps127
   go_upto_region 1 with fail
   rw[<-ay.o.1,<-ay.o.2.1]
   go_upto_region 5 with (first
    | (go_at_call 195;refine cr.o.mono ?_;rintro _ w1 ⟨rfl,gx⟩;rw[gx])
    | (refine HK.o.mono ?_;rintro _ w1 ⟨v,rfl,hn,ee⟩;have HN:=Zz (Zq hn ee);clear hn ee))
   have S:=A.o.1.side HN.o.1;by_cases hv:v=0
   ·subst hv
    rw[Zaw];have j6:=Zz (OG w1 P B ob e rs l o S ok.wk HT.o HO.o);have az:=Zz S;clear S du c4
    go_upto_region 9 with (go_at_call 196;refine j6.o.mono ?_;rintro _ w4 ⟨rfl,j4⟩;have im:=Zz j4;clear j4)
    obtain⟨f,dw⟩:∃f,f=e.cut o:=⟨_,rfl⟩;obtain⟨g,al⟩:∃g,g=CI rs o:=⟨_,rfl⟩
    have m:=Zz (show Sub4 w1 w4 P B ob e f g l F a c fb Na Nc by
     obtain⟨q1,q2,q3⟩:=im.o;obtain⟨o1,o2,_⟩:=DO HO.o;have jd:(e.at_ o).st≠1:=fun x=>by have:=((ok.wk.runs o o1).goes).1 x;have o2:0<(e.at_ o).ended:=o2;omega
     have fj:=Zet e o1;have fi:=(HN.o.1.block fb _ _ _ A.o.2.2.2.2.1 A.o.2.2.1 (by unfold Rl;simp)).trans A.o.2.2.1;rw[dw,al];exact⟨q1,ok.cut o1 jd,q2,by have:=HE.o;omega,q3,(A.o.2.1.side HN.o.1).kf q3 da.o.1,(GR q3 fi A.o.2.2.2.1).trans fi,HR.o,rfl⟩)
    clear dw al;obtain⟨lr,G⟩:∃lr,lr=f.Ah:=⟨_,rfl⟩;have ja:0<=lr:=by rw[G];exact m.o.ok.wk.lr0
    have jb:lr<18446744073709551615:=by rw[G,m.o.lr];exact HL.o
    obtain⟨d0,dz⟩:w4.cell? ⟨P,728,none⟩=some (.int .u64 lr)/\w4.frozen? ⟨P,728,none⟩=false:=by
     obtain⟨_,_,I,_,_⟩:=m.o.x.ex;rw[G];exact⟨I.lr,I.fz 728⟩
    have ew:IntKind.u64.wrap (lr+1)=lr+1:=by rw[IntKind.wrap_u64];omega
    have K:=Zz G;clear G
    go_upto_region 10 with fail
    obtain⟨id,bo⟩:∃id,id=lr+1:=⟨_,rfl⟩;rw[<-bo];obtain⟨s,br⟩:∃s,s=w4.setCell ⟨P,728,none⟩ (.int .u64 id):=⟨_,rfl⟩;rw[<-br]
    have J:=Zz (show Cj s P B ob { f with Ah:=id } g l/\An B s F (.slice a F.n c) F.n Na Nc/\s.heap[fb]? =some (.cells #[.int .i64 F.dl, .slice a F.n c] 61 (0,0))/\KF w1 s P B ob by
     obtain⟨Y,R,bf,m2,m3⟩:=m.o.x.ex;have V:=bf.num 728 id id f.Ai f.At (Zu ⟨rfl,rfl,rfl,rfl⟩);have D:=KF.Bt w4 P B 728 ob (.int .u64 id) (by omega);rw[<-br] at V D;exact⟨⟨⟨Y,R,V,m2,m3.same rfl (fun _ _=>⟨rfl,rfl⟩)⟩,m.o.x.len,m.o.x.runs⟩,m.o.cp.kf D da.o.1,(GR D m.o.fb A.o.2.2.2.1).trans m.o.fb,m.o.kf.trans D (As.refl _ _)⟩)
    have H:=Zz bo;clear d0 dz ew br bo;have au:s.cell? ⟨P,728,none⟩=some (.int .u64 id):=by obtain⟨_,_,I,_,_⟩:=J.o.1.ex;exact I.lr
    have f0:s.cell? ⟨fb,0,none⟩=some (.int .i64 F.dl):=by unfold World.cell?;rw[J.o.2.2.1];rfl
    have f1:s.cell? ⟨fb,1,none⟩=some (.slice a F.n c):=by unfold World.cell?;rw[J.o.2.2.1];rfl
    have cy:=Zz (fun (wx:World) (W:Below s.heap.size s wx)=>Ki wx B id F a c Na Nc (J.o.2.1.below W) hF.top.n1 hF.top.n2 (by obtain⟨_,_,I,_,_⟩:=J.o.1.ex;exact Zv I.pb.2 W.size))
    go_region_held3 (fun w'=>(w'.cell? ⟨P,728,none⟩=some (.int .u64 id)/\w'.cell? ⟨fb,0,none⟩=some (.int .i64 F.dl))/\w'.cell? ⟨fb,1,none⟩=some (.slice a F.n c)) (go_keep) ((go_at_call 197;refine (cy.o s.drew ((Zk _ _).drew)).mono ?_;rintro _ C ⟨r,rfl,r1,r2,r3,r4,r5,r6,r7⟩;have U:=Zz (Zq r1 (Zq r2 (Zq r3 (Zq r4 (Zq r5 (Zq r6 r7))))));have y0:=cell_later r7 au;have y1:=cell_later r7 f0;have y2:=cell_later r7 f1;clear r1 r2 r3 r4 r5 r6 r7))
    go_upto_region 11 with fail
    obtain⟨bw,ck,j⟩:∃ka kc,Co C P B ka kc g:=by
     obtain⟨_,_,I,_,_⟩:=(J.o.1.below (((Zk s.heap.size s).drew).trans' U.o.2.2.2.2.2.2)).ex;exact I.kn
    obtain⟨X,O⟩:∃X,X=g.length:=⟨_,rfl⟩;obtain⟨rb,bp⟩:∃rb,rb=r.b:=⟨_,rfl⟩;have ei:X<6:=by rw[O,m.o.x.len];exact m.o.Bs
    have m1:=j.c;rw[<-O] at m1;have m2:=j.fz 4;have gd:P<C.heap.size:=Zy j.pb j.bs;have dp:=j.bs;have HO:=Zz (show C.ownsRow B 266 1 (.slice bw X ck) X (g.flatMap Lm) by rw[O];exact j.row);have bh:some P≠(Value.slice bw X ck).ownBlock:=fun e=>by have:=(HO.o.lt P e.symm).1;have:=j.pb;omega
    have av:=Zz (Zq j (Zq O bp));obtain⟨ir,hi,fc,fe,fg⟩:=info_parts Vt;have HI:=Zz (Zq hi (Zq fc (Zq fe fg)));have ic:=cell_later (((Zk C.heap.size C).alloc (Zx _) (.cells #[.pointer (some ⟨rb,0,none⟩)] 266)).drew) m1;have fh:=cell_later ((Zk C.heap.size C).alloc (Zx _) (.cells #[.pointer (some ⟨rb,0,none⟩)] 266)) m1;rw[<-bp];clear j O bp hi fc fe fg y0 y1 y2 au f0 f1
    go_upto_region 12 with (at_builtin;refine wpList_append_lies _ rfl (.tmp 50) (.tmp 52) 149 rfl B 266 ir _ 1 8 underlying149 HI.o.1 HI.o.2.1 HI.o.2.2.1 HI.o.2.2.2 rfl (by omega) (.slice bw X ck) X (g.flatMap Lm) rfl (HO.o.alloc _) ⟨C.heap.size,0,none⟩ 1 1 [.pointer (some ⟨rb,0,none⟩)] rfl rfl (World.news_of_block (cs:=#[.pointer (some ⟨rb,0,none⟩)]) (t:=266) (fr:=(0,0)) (heap_alloc_new C _)) (by simp[Value.oneCell']) (by omega) (by unfold maxLen;omega) (by omega) (by simp;omega) (C.heap.size+1) (by simp) ?_;intro gg Z w7 Q z gh gw;have s1:=(z.cell_far ⟨P,4,none⟩ (by simp;omega) bh).trans fh;have sz:=(z.frozen_far ⟨P,4,none⟩ (by simp;omega) bh).trans ((((Zk C.heap.size C).alloc (Zx _) (.cells #[.pointer (some ⟨rb,0,none⟩)] 266)).frozen (p:=⟨P,4,none⟩) (by simp only[];omega)).trans m2))
    have cu:=Zz (Zq Q z);obtain⟨u,E⟩:∃u,u=w7.setCell ⟨P,4,none⟩ (.slice (some ⟨gg,0,none⟩) (X+1) Z):=⟨_,rfl⟩;rw[<-E]
    have H8:=Zz (show Cj u P B ob (f.more F) (g++[r]) l/\KF w1 u P B ob/\u.heap[fb]? =some (.cells #[.int .i64 F.dl, .slice a F.n c] 61 (0,0))/\AW u B r/\Am (g++[r]) f.runs.length=r by
     obtain⟨r1,r2,r3,r4,r5,r6,r7⟩:=U.o;obtain⟨k1,k2,k3⟩:=av.o;obtain⟨g1,g2⟩:=cu.o;have dd:Below s.heap.size s C:=((Zk s.heap.size s).drew).trans' r7;have L:Below C.heap.size C (C.alloc (.cells #[.pointer (some ⟨rb,0,none⟩)] 266)):=(Zk _ _).alloc (Zx _) _;obtain⟨Y,R,gb,m2,m3⟩:=(J.o.1.below dd).ex;obtain⟨_,_,V,_,_⟩:=J.o.1.ex;obtain⟨jg,jj,ag⟩:=V.kn;have hlen:=m.o.x.len
     have ey:By w7 B 266 1 Lm (some ⟨gg,0,none⟩) Z (g++[r]):=by
      unfold By;rw[ZX,List.length_singleton,<-k2,List.flatMap_append,List.flatMap_singleton];have:Lm r=[.pointer (some ⟨rb,0,none⟩)]:=by rw[k3];rfl
      rw[this];exact g1
     rw[k2] at g2 E;have j5:s.heap.size<=s.drew.heap.size:=Zx _;obtain⟨s1,s2,s3,s4⟩:=(k1.below L).snoc (r:=r) (by rw[<-k2];exact ei) (r6.below L) (fun i hi e=>by have:=(ag.runs i hi).lt;omega) (fun i hi e=>by obtain⟨_,_,_,_,_,q⟩:=(ag.runs i hi).Bi;omega) g2 ey;rw[<-E] at s1 s2;have M:=(gb.below L).Ka s2 s3 ⟨_,_,s1⟩;have aj:=s1.runs g.length (by rw[ZX,List.length_singleton];omega);have eu:Am (g++[r]) f.runs.length=r:=by rw[Zco (by omega),if_neg (by omega)]
     have D:KF s u P B ob:=((KF.Ae P B ob dd).trans (KF.Ae P B ob L) (As.refl _ _)).trans (KF.Ka (by rw[E];exact g2.os) (by rw[E];exact g2.tape) (by rw[E];exact g2.output) s2 (fun k T=>⟨by
      rcases (k1.below L).row.2 with⟨h2,_⟩ | ⟨g',cap,cur,h2,hg,hh,_⟩
      ·rw[h2] at T;simp[Value.ownBlock] at T
      ·rw[h2] at T
       simp only[Value.ownBlock,Option.some.injEq] at T;subst T;exact hg,s3 k T⟩) ob) (As.refl _ _)
     have eg:(f.more F).Ah=id:=by show f.Ah+1=id;rw[H.o,K.o]
     refine⟨⟨⟨Y,R,by rw[eg];exact M,m2,(m3.same (e':=f) rfl (fun _ _=>⟨rfl,rfl⟩)).more⟩,by rw[ZX,List.length_singleton,Za5,hlen],fun i hi=> ?_⟩,J.o.2.2.2.trans D (As.refl _ _),(GR D J.o.2.2.1 A.o.2.2.2.1).trans J.o.2.2.1,?_,eu⟩
     ·rw[Za5] at hi
      rw[Zco (by omega)]
      split
      ·rename_i hc;rw[Zb1 f F (by omega)];exact m.o.x.runs i (by omega)
      ·rename_i hc
       have gu:i=f.runs.length:=by omega
       subst gu;rw[Zbj];exact Br.fresh (by rw[r1,H.o,K.o]) r2 r3
     ·rw[hlen,eu] at aj;exact aj)
    have ax:=Zz (show r.b=rb from av.o.2.2.symm);have fy:=Zz U.o.1;clear E cu U av z Q gh gw s1 sz m1 m2 ic fh bh HO gd dp HI cy;obtain⟨j8,d,M,ar,dy⟩:=H8.o.1.ex
    have ae:∀wx,Below u.heap.size u wx->Calls prog 198 #[.pointer (some ⟨P,4,none⟩), .agg #[.int .u64 id, .int .i64 (-1), .int .i64 0], .int .i64 F.dl] wx fun x w'=>x= .returned (.tuple #[])/\∃y l1,Cb l (Bb id (-1) 0) y l1/\Bf w' P B Ck d (l1++[⟨Bb id (-1) 0,Za2 d (d+F.dl),f.timers+1⟩])/\PF wx w' P B Ck:=fun wx W=>by
     have:=hF.top.XG;have:=hF.top.dl2;have:=H.o;exact ET wx P B d l (Bb id (-1) 0) id (-1) 0 F.dl f.timers (M.wh.Aj W) (FN (by omega) (by omega) (by omega) (by omega) (by omega) (by omega)) (by omega) (by omega) (by have:=m.o.TV.Bs m.o.ok.wk;omega)
    have dc:=Zz ae
    have N:∀wx w',Below u.heap.size u wx->PF wx w' P B Ck->w'.cell? ⟨rb,0,none⟩=some (.int .u64 id)/\w'.cell? ⟨fb,0,none⟩=some (.int .i64 F.dl):=fun wx w' W hf=>by
     obtain⟨x1,x2,x3,x4,x5⟩:=H8.o
     have stay:∀k cs t fr,u.heap[k]? =some (.cells cs t fr)->t≠288->k≠P->w'.heap[k]? =u.heap[k]? :=fun k cs t fr e ht T=>by
      have e1:=W.block k (Zaa e);exact (hf.other (e1.trans e) ht T).trans e1
     have t0:=x4.CP.1.1;have h1:=stay r.b _ _ _ x4.top (by decide) (by have:=x4.bb;have:=da.o.1;omega);have h2:=stay fb _ _ _ x3 (by decide) A.o.2.2.2.1;rw[ax.o] at t0 h1;rw[fy.o] at t0;exact⟨(World.cell?_of_block (a:=⟨rb,0,none⟩) h1).trans t0,by unfold World.cell?;rw[h2,x3];rfl⟩
    have ct:=Zz N;obtain⟨u0,u1⟩:=N u u (Zk _ _) (PF.refl _ _ _ _);have aw:=Zz (Zq M ar);clear ae N M ar dy
    go_region_held3 (fun w'=>w'.cell? ⟨rb,0,none⟩=some (.int .u64 id)/\w'.cell? ⟨fb,0,none⟩=some (.int .i64 F.dl)) (go_keep) ((go_at_call 198;refine (dc.o u.drew ((Zk _ _).drew)).mono ?_;rintro _ w9 ⟨rfl,y,l1,dr,ez,bj⟩;have fw:=Zz (Zq dr (Zq ez bj));have y:=ct.o u.drew w9 ((Zk _ _).drew) bj;have y0:=y.1;have y1:=y.2;clear dr ez bj y))
    go_upto_region 13 with fail
    have H9:=Zz (show Cj w9 P B ob (f.more F) (g++[r]) (l1++[⟨Bb id (-1) 0,Za2 d (d+F.dl),f.timers+1⟩])/\Be (f.more F) (l1++[⟨Bb id (-1) 0,Za2 d (d+F.dl),f.timers+1⟩])/\KF w1 w9 P B ob/\Ao (f.more F) by
     obtain⟨q1,q2,q3⟩:=fw.o;obtain⟨x1,x2,x3,x4,x5⟩:=H8.o;have dj:Below u.heap.size u u.drew:=(Zk _ _).drew;have hi:id=f.Ah+1:=by rw[H.o,K.o]
     have fj:Za2 d (d+F.dl)=Zak f.time F.dl:=by
      have:f.time=(d:Int):=aw.o.2;rw[this];exact Zc6 hF.top.XG
     refine⟨(x1.below dj).KU q3 q2 aw.o.2,?_,(x2.trans (KF.Ae P B ob dj) (As.refl _ _)).trans (KF.DN q3 ob) (As.refl _ _),m.o.ok.wk.more m.o.Bs hF⟩;rw[fj,hi];rw[hi] at q1;exact Pu m.o.ok.wk hF.top.XG m.o.TV aw.o.1.wh.apart q1)
    have b9:=Mu (i:=f.runs.length) H9.o.1 H9.o.2.2.2 (by rw[Za5];omega) (by rw[Zbj];rfl) H9.o.2.1;rw[H8.o.2.2.2.2,ax.o] at b9;have cq:=Zz b9;clear b9 u0 u1 y0 y1
    go_upto_region 14 with (first
     | (go_at_call 154;refine cq.o.mono ?_;rintro _ jl ⟨aa,nn,cc,rfl,dh,ep⟩;have db:=Zz ep;clear dh ep)
     | (go_at_call 153;refine db.o.mono ?_;rintro _ Iu ⟨rfl,jk,z1,z2,z3,z4,z5,z6⟩;have HZ:=Zz (Zq z1 (Zq z2 (Zq z3 (Zq z4 (Zq z5 z6)))));clear z1 z2 z3 z4 z5 z6))
    have t0:Iu.cell? ⟨rb,0,none⟩=some (.int .u64 id):=by
     obtain⟨z1,z2,z3,z4,z5,z6⟩:=HZ.o;obtain⟨_,_,I,_,_⟩:=z1.ex;obtain⟨jf,jh,cm⟩:=I.kn;have gv:f.runs.length<(f.more F).runs.length:=by rw[Za5];omega
     have jc:(g++[r]).length=(f.more F).runs.length:=H9.o.1.len;have W:=z2.2 f.runs.length (by omega);rw[H8.o.2.2.2.2,ax.o] at W;have:=(cm.runs f.runs.length (by have:=z2.1;omega)).CP.1.1;rw[W,(z1.runs f.runs.length (by rw[z5.len];exact gv)).id,z5.id,Zbj] at this;rw[this,H.o,K.o]
     rfl
    clear cq db;go_wp2_with fail
    go_ret2
    obtain⟨z1,z2,z3,z4,z5,z6⟩:=HZ.o;refine Zj ⟨0,_,m.o.is,?_,?_⟩
    ·rw[if_pos rfl,H.o,K.o,m.o.lr];rfl
    ·rw[Dz]
     exact BX.ok HN.o.2 z1 z3 (H9.o.2.2.1.trans z6 (As.refl _ _)) (As.refl _ _)
   ·rw[Zan hv]
    have HV:=Zz hv;have az:=Zz S;clear hv S du c4;go_wp2_with fail
    go_ret2
    exact Zj ⟨v,_,HR.o,by rw[Zan HV.o,if_neg HV.o];rfl,BX.err HV.o HN.o.2 az.o HT.o⟩
 ·have g6:¬(6:Int)<=(n:Int):=by omega
  have h5:e.runs.length<6:=by omega
  have HR:=Zz (Po (F:=F) h5);have J:=Zz h5;clear eo h5
  go_enter func127,ntmps127
  go_upto_region 1 with fail
  rw[<-ay.o.1,<-ay.o.2.1]
  go_upto_region 5 with (refine HK.o.mono ?_;rintro _ w1 ⟨v,rfl,hn,ee⟩;have HN:=Zz (Zq hn ee);clear hn ee)
  have S:=A.o.1.side HN.o.1;by_cases hv:v=0
  ·subst hv
   rw[Zaw];have az:=Zz S;clear S du c4
   go_upto_region 9 with fail
   obtain⟨w4,gy⟩:∃w4,w4=w1:=⟨_,rfl⟩;obtain⟨f,dw⟩:∃f,f=e:=⟨_,rfl⟩;obtain⟨g,al⟩:∃g,g=rs:=⟨_,rfl⟩
   have m:=Zz (show Sub4 w1 w4 P B ob e f g l F a c fb Na Nc by
    have fi:=(HN.o.1.block fb _ _ _ A.o.2.2.2.2.1 A.o.2.2.1 (by unfold Rl;simp)).trans A.o.2.2.1;rw[dw,al,gy];exact⟨az.o,ok,HT.o,J.o,KF.refl _ _ _ _,A.o.2.1.side HN.o.1,fi,HR.o,rfl⟩)
   clear dw al;have j7:=Zz HN.o.2;rw[<-gy];have iq:=HN;clear az HN;have HN:Hid (NF w0 w1 P B/\Kp 0 w1):=iq;clear iq j7 gy;obtain⟨lr,G⟩:∃lr,lr=f.Ah:=⟨_,rfl⟩;have ja:0<=lr:=by rw[G];exact m.o.ok.wk.lr0
   have jb:lr<18446744073709551615:=by rw[G,m.o.lr];exact HL.o
   obtain⟨d0,dz⟩:w4.cell? ⟨P,728,none⟩=some (.int .u64 lr)/\w4.frozen? ⟨P,728,none⟩=false:=by
    obtain⟨_,_,I,_,_⟩:=m.o.x.ex;rw[G];exact⟨I.lr,I.fz 728⟩
   have ew:IntKind.u64.wrap (lr+1)=lr+1:=by rw[IntKind.wrap_u64];omega
   have K:=Zz G;clear G
   go_upto_region 10 with fail
   obtain⟨id,bo⟩:∃id,id=lr+1:=⟨_,rfl⟩;rw[<-bo];obtain⟨s,br⟩:∃s,s=w4.setCell ⟨P,728,none⟩ (.int .u64 id):=⟨_,rfl⟩;rw[<-br]
   have J:=Zz (show Cj s P B ob { f with Ah:=id } g l/\An B s F (.slice a F.n c) F.n Na Nc/\s.heap[fb]? =some (.cells #[.int .i64 F.dl, .slice a F.n c] 61 (0,0))/\KF w1 s P B ob by
    obtain⟨Y,R,bf,m2,m3⟩:=m.o.x.ex;have V:=bf.num 728 id id f.Ai f.At (Zu ⟨rfl,rfl,rfl,rfl⟩);have D:=KF.Bt w4 P B 728 ob (.int .u64 id) (by omega);rw[<-br] at V D;exact⟨⟨⟨Y,R,V,m2,m3.same rfl (fun _ _=>⟨rfl,rfl⟩)⟩,m.o.x.len,m.o.x.runs⟩,m.o.cp.kf D da.o.1,(GR D m.o.fb A.o.2.2.2.1).trans m.o.fb,m.o.kf.trans D (As.refl _ _)⟩)
   have H:=Zz bo;clear d0 dz ew br bo;have au:s.cell? ⟨P,728,none⟩=some (.int .u64 id):=by obtain⟨_,_,I,_,_⟩:=J.o.1.ex;exact I.lr
   have f0:s.cell? ⟨fb,0,none⟩=some (.int .i64 F.dl):=by unfold World.cell?;rw[J.o.2.2.1];rfl
   have f1:s.cell? ⟨fb,1,none⟩=some (.slice a F.n c):=by unfold World.cell?;rw[J.o.2.2.1];rfl
   have cy:=Zz (fun (wx:World) (W:Below s.heap.size s wx)=>Ki wx B id F a c Na Nc (J.o.2.1.below W) hF.top.n1 hF.top.n2 (by obtain⟨_,_,I,_,_⟩:=J.o.1.ex;exact Zv I.pb.2 W.size))
   go_region_held3 (fun w'=>(w'.cell? ⟨P,728,none⟩=some (.int .u64 id)/\w'.cell? ⟨fb,0,none⟩=some (.int .i64 F.dl))/\w'.cell? ⟨fb,1,none⟩=some (.slice a F.n c)) (go_keep) ((go_at_call 197;refine (cy.o s.drew ((Zk _ _).drew)).mono ?_;rintro _ C ⟨r,rfl,r1,r2,r3,r4,r5,r6,r7⟩;have U:=Zz (Zq r1 (Zq r2 (Zq r3 (Zq r4 (Zq r5 (Zq r6 r7))))));have y0:=cell_later r7 au;have y1:=cell_later r7 f0;have y2:=cell_later r7 f1;clear r1 r2 r3 r4 r5 r6 r7))
   go_upto_region 11 with fail
   obtain⟨bw,ck,j⟩:∃ka kc,Co C P B ka kc g:=by
    obtain⟨_,_,I,_,_⟩:=(J.o.1.below (((Zk s.heap.size s).drew).trans' U.o.2.2.2.2.2.2)).ex;exact I.kn
   obtain⟨X,O⟩:∃X,X=g.length:=⟨_,rfl⟩;obtain⟨rb,bp⟩:∃rb,rb=r.b:=⟨_,rfl⟩;have ei:X<6:=by rw[O,m.o.x.len];exact m.o.Bs
   have m1:=j.c;rw[<-O] at m1;have m2:=j.fz 4;have gd:P<C.heap.size:=Zy j.pb j.bs;have dp:=j.bs;have HO:=Zz (show C.ownsRow B 266 1 (.slice bw X ck) X (g.flatMap Lm) by rw[O];exact j.row);have bh:some P≠(Value.slice bw X ck).ownBlock:=fun e=>by have:=(HO.o.lt P e.symm).1;have:=j.pb;omega
   have av:=Zz (Zq j (Zq O bp));obtain⟨ir,hi,fc,fe,fg⟩:=info_parts Vt;have HI:=Zz (Zq hi (Zq fc (Zq fe fg)));have ic:=cell_later (((Zk C.heap.size C).alloc (Zx _) (.cells #[.pointer (some ⟨rb,0,none⟩)] 266)).drew) m1;have fh:=cell_later ((Zk C.heap.size C).alloc (Zx _) (.cells #[.pointer (some ⟨rb,0,none⟩)] 266)) m1;rw[<-bp];clear j O bp hi fc fe fg y0 y1 y2 au f0 f1
   go_upto_region 12 with (at_builtin;refine wpList_append_lies _ rfl (.tmp 50) (.tmp 52) 149 rfl B 266 ir _ 1 8 underlying149 HI.o.1 HI.o.2.1 HI.o.2.2.1 HI.o.2.2.2 rfl (by omega) (.slice bw X ck) X (g.flatMap Lm) rfl (HO.o.alloc _) ⟨C.heap.size,0,none⟩ 1 1 [.pointer (some ⟨rb,0,none⟩)] rfl rfl (World.news_of_block (cs:=#[.pointer (some ⟨rb,0,none⟩)]) (t:=266) (fr:=(0,0)) (heap_alloc_new C _)) (by simp[Value.oneCell']) (by omega) (by unfold maxLen;omega) (by omega) (by simp;omega) (C.heap.size+1) (by simp) ?_;intro gg Z w7 Q z gh gw;have s1:=(z.cell_far ⟨P,4,none⟩ (by simp;omega) bh).trans fh;have sz:=(z.frozen_far ⟨P,4,none⟩ (by simp;omega) bh).trans ((((Zk C.heap.size C).alloc (Zx _) (.cells #[.pointer (some ⟨rb,0,none⟩)] 266)).frozen (p:=⟨P,4,none⟩) (by simp only[];omega)).trans m2))
   have cu:=Zz (Zq Q z);obtain⟨u,E⟩:∃u,u=w7.setCell ⟨P,4,none⟩ (.slice (some ⟨gg,0,none⟩) (X+1) Z):=⟨_,rfl⟩;rw[<-E]
   have H8:=Zz (show Cj u P B ob (f.more F) (g++[r]) l/\KF w1 u P B ob/\u.heap[fb]? =some (.cells #[.int .i64 F.dl, .slice a F.n c] 61 (0,0))/\AW u B r/\Am (g++[r]) f.runs.length=r by
    obtain⟨r1,r2,r3,r4,r5,r6,r7⟩:=U.o;obtain⟨k1,k2,k3⟩:=av.o;obtain⟨g1,g2⟩:=cu.o;have dd:Below s.heap.size s C:=((Zk s.heap.size s).drew).trans' r7;have L:Below C.heap.size C (C.alloc (.cells #[.pointer (some ⟨rb,0,none⟩)] 266)):=(Zk _ _).alloc (Zx _) _;obtain⟨Y,R,gb,m2,m3⟩:=(J.o.1.below dd).ex;obtain⟨_,_,V,_,_⟩:=J.o.1.ex;obtain⟨jg,jj,ag⟩:=V.kn;have hlen:=m.o.x.len
    have ey:By w7 B 266 1 Lm (some ⟨gg,0,none⟩) Z (g++[r]):=by
     unfold By;rw[ZX,List.length_singleton,<-k2,List.flatMap_append,List.flatMap_singleton];have:Lm r=[.pointer (some ⟨rb,0,none⟩)]:=by rw[k3];rfl
     rw[this];exact g1
    rw[k2] at g2 E;have j5:s.heap.size<=s.drew.heap.size:=Zx _;obtain⟨s1,s2,s3,s4⟩:=(k1.below L).snoc (r:=r) (by rw[<-k2];exact ei) (r6.below L) (fun i hi e=>by have:=(ag.runs i hi).lt;omega) (fun i hi e=>by obtain⟨_,_,_,_,_,q⟩:=(ag.runs i hi).Bi;omega) g2 ey;rw[<-E] at s1 s2;have M:=(gb.below L).Ka s2 s3 ⟨_,_,s1⟩;have aj:=s1.runs g.length (by rw[ZX,List.length_singleton];omega);have eu:Am (g++[r]) f.runs.length=r:=by rw[Zco (by omega),if_neg (by omega)]
    have D:KF s u P B ob:=((KF.Ae P B ob dd).trans (KF.Ae P B ob L) (As.refl _ _)).trans (KF.Ka (by rw[E];exact g2.os) (by rw[E];exact g2.tape) (by rw[E];exact g2.output) s2 (fun k T=>⟨by
     rcases (k1.below L).row.2 with⟨h2,_⟩ | ⟨g',cap,cur,h2,hg,hh,_⟩
     ·rw[h2] at T;simp[Value.ownBlock] at T
     ·rw[h2] at T
      simp only[Value.ownBlock,Option.some.injEq] at T;subst T;exact hg,s3 k T⟩) ob) (As.refl _ _)
    have eg:(f.more F).Ah=id:=by show f.Ah+1=id;rw[H.o,K.o]
    refine⟨⟨⟨Y,R,by rw[eg];exact M,m2,(m3.same (e':=f) rfl (fun _ _=>⟨rfl,rfl⟩)).more⟩,by rw[ZX,List.length_singleton,Za5,hlen],fun i hi=> ?_⟩,J.o.2.2.2.trans D (As.refl _ _),(GR D J.o.2.2.1 A.o.2.2.2.1).trans J.o.2.2.1,?_,eu⟩
    ·rw[Za5] at hi
     rw[Zco (by omega)]
     split
     ·rename_i hc;rw[Zb1 f F (by omega)];exact m.o.x.runs i (by omega)
     ·rename_i hc
      have gu:i=f.runs.length:=by omega
      subst gu;rw[Zbj];exact Br.fresh (by rw[r1,H.o,K.o]) r2 r3
    ·rw[hlen,eu] at aj;exact aj)
   have ax:=Zz (show r.b=rb from av.o.2.2.symm);have fy:=Zz U.o.1;clear E cu U av z Q gh gw s1 sz m1 m2 ic fh bh HO gd dp HI cy;obtain⟨j8,d,M,ar,dy⟩:=H8.o.1.ex
   have ae:∀wx,Below u.heap.size u wx->Calls prog 198 #[.pointer (some ⟨P,4,none⟩), .agg #[.int .u64 id, .int .i64 (-1), .int .i64 0], .int .i64 F.dl] wx fun x w'=>x= .returned (.tuple #[])/\∃y l1,Cb l (Bb id (-1) 0) y l1/\Bf w' P B Ck d (l1++[⟨Bb id (-1) 0,Za2 d (d+F.dl),f.timers+1⟩])/\PF wx w' P B Ck:=fun wx W=>by
    have:=hF.top.XG;have:=hF.top.dl2;have:=H.o;exact ET wx P B d l (Bb id (-1) 0) id (-1) 0 F.dl f.timers (M.wh.Aj W) (FN (by omega) (by omega) (by omega) (by omega) (by omega) (by omega)) (by omega) (by omega) (by have:=m.o.TV.Bs m.o.ok.wk;omega)
   have dc:=Zz ae
   have N:∀wx w',Below u.heap.size u wx->PF wx w' P B Ck->w'.cell? ⟨rb,0,none⟩=some (.int .u64 id)/\w'.cell? ⟨fb,0,none⟩=some (.int .i64 F.dl):=fun wx w' W hf=>by
    obtain⟨x1,x2,x3,x4,x5⟩:=H8.o
    have stay:∀k cs t fr,u.heap[k]? =some (.cells cs t fr)->t≠288->k≠P->w'.heap[k]? =u.heap[k]? :=fun k cs t fr e ht T=>by
     have e1:=W.block k (Zaa e);exact (hf.other (e1.trans e) ht T).trans e1
    have t0:=x4.CP.1.1;have h1:=stay r.b _ _ _ x4.top (by decide) (by have:=x4.bb;have:=da.o.1;omega);have h2:=stay fb _ _ _ x3 (by decide) A.o.2.2.2.1;rw[ax.o] at t0 h1;rw[fy.o] at t0;exact⟨(World.cell?_of_block (a:=⟨rb,0,none⟩) h1).trans t0,by unfold World.cell?;rw[h2,x3];rfl⟩
   have ct:=Zz N;obtain⟨u0,u1⟩:=N u u (Zk _ _) (PF.refl _ _ _ _);have aw:=Zz (Zq M ar);clear ae N M ar dy
   go_region_held3 (fun w'=>w'.cell? ⟨rb,0,none⟩=some (.int .u64 id)/\w'.cell? ⟨fb,0,none⟩=some (.int .i64 F.dl)) (go_keep) ((go_at_call 198;refine (dc.o u.drew ((Zk _ _).drew)).mono ?_;rintro _ w9 ⟨rfl,y,l1,dr,ez,bj⟩;have fw:=Zz (Zq dr (Zq ez bj));have y:=ct.o u.drew w9 ((Zk _ _).drew) bj;have y0:=y.1;have y1:=y.2;clear dr ez bj y))
   go_upto_region 13 with fail
   have H9:=Zz (show Cj w9 P B ob (f.more F) (g++[r]) (l1++[⟨Bb id (-1) 0,Za2 d (d+F.dl),f.timers+1⟩])/\Be (f.more F) (l1++[⟨Bb id (-1) 0,Za2 d (d+F.dl),f.timers+1⟩])/\KF w1 w9 P B ob/\Ao (f.more F) by
    obtain⟨q1,q2,q3⟩:=fw.o;obtain⟨x1,x2,x3,x4,x5⟩:=H8.o;have dj:Below u.heap.size u u.drew:=(Zk _ _).drew;have hi:id=f.Ah+1:=by rw[H.o,K.o]
    have fj:Za2 d (d+F.dl)=Zak f.time F.dl:=by
     have:f.time=(d:Int):=aw.o.2;rw[this];exact Zc6 hF.top.XG
    refine⟨(x1.below dj).KU q3 q2 aw.o.2,?_,(x2.trans (KF.Ae P B ob dj) (As.refl _ _)).trans (KF.DN q3 ob) (As.refl _ _),m.o.ok.wk.more m.o.Bs hF⟩;rw[fj,hi];rw[hi] at q1;exact Pu m.o.ok.wk hF.top.XG m.o.TV aw.o.1.wh.apart q1)
   have b9:=Mu (i:=f.runs.length) H9.o.1 H9.o.2.2.2 (by rw[Za5];omega) (by rw[Zbj];rfl) H9.o.2.1;rw[H8.o.2.2.2.2,ax.o] at b9;have cq:=Zz b9;clear b9 u0 u1 y0 y1
   go_upto_region 14 with (first
    | (go_at_call 154;refine cq.o.mono ?_;rintro _ jl ⟨aa,nn,cc,rfl,dh,ep⟩;have db:=Zz ep;clear dh ep)
    | (go_at_call 153;refine db.o.mono ?_;rintro _ Iu ⟨rfl,jk,z1,z2,z3,z4,z5,z6⟩;have HZ:=Zz (Zq z1 (Zq z2 (Zq z3 (Zq z4 (Zq z5 z6)))));clear z1 z2 z3 z4 z5 z6))
   have t0:Iu.cell? ⟨rb,0,none⟩=some (.int .u64 id):=by
    obtain⟨z1,z2,z3,z4,z5,z6⟩:=HZ.o;obtain⟨_,_,I,_,_⟩:=z1.ex;obtain⟨jf,jh,cm⟩:=I.kn;have gv:f.runs.length<(f.more F).runs.length:=by rw[Za5];omega
    have jc:(g++[r]).length=(f.more F).runs.length:=H9.o.1.len;have W:=z2.2 f.runs.length (by omega);rw[H8.o.2.2.2.2,ax.o] at W;have:=(cm.runs f.runs.length (by have:=z2.1;omega)).CP.1.1;rw[W,(z1.runs f.runs.length (by rw[z5.len];exact gv)).id,z5.id,Zbj] at this;rw[this,H.o,K.o]
    rfl
   clear cq db;go_wp2_with fail
   go_ret2
   obtain⟨z1,z2,z3,z4,z5,z6⟩:=HZ.o;refine Zj ⟨0,_,m.o.is,?_,?_⟩
   ·rw[if_pos rfl,H.o,K.o,m.o.lr];rfl
   ·rw[Dz]
    exact BX.ok HN.o.2 z1 z3 (H9.o.2.2.1.trans z6 (As.refl _ _)) (As.refl _ _)
  ·rw[Zan hv]
   have HV:=Zz hv;have az:=Zz S;clear hv S du c4;go_wp2_with fail
   go_ret2
   exact Zj ⟨v,_,HR.o,by rw[Zan HV.o,if_neg HV.o];rfl,BX.err HV.o HN.o.2 az.o HT.o⟩
end Go.Proofs.YtgdcjccbdmcebaaGreatDoor
