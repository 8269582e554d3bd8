/- The program's own MemSame, whole. (Written by program: wip/tools/mkim.py.) -/
import Derived.Deep.Cut
import Derived.Test.YtcpnkpogebjieaaGreatS28Lo
open List renaming setIfInBounds_toArray→QhR,set_cons_zero→QhS,set_cons_succ→QhT,getElem_toArray→QhW,getElem_cons_zero→QhX,getElem_cons_succ→QhY
open Nat renaming le_refl→QhU,le_trans→QhV,ne_of_lt→Qh0,ne_of_gt→Qh1
open Go.Value renaming slice→QhZ
set_option maxHeartbeats 6400000
set_option maxRecDepth 100000
namespace Go.Proofs.YtcpnkpogebjieaaGreat
section
open Go.RowKit
def Qq (w:World)(h:Hp):Prop:=∃B,Q4 w B h
theorem Qq.step {w w':World}{h:Hp}(hh:Qq w h)(hb:Below w.heap.size w w'):Qq w' h:=by
 obtain⟨B,q⟩:=hh;exact⟨B,q.below hb (QhU _)⟩
theorem Qq.keep {w w':World}{h:Hp}(hh:Qq w h)(hk:Qf 27 w w'):Qq w' h:=by
 obtain⟨B,q⟩:=hh;exact⟨B,q.keep hk⟩
theorem Blk.step {w w':World}{B t:Nat}{cs:List Value}(h:Blk w B cs t)(hb:Below w.heap.size w w'):Blk w' B cs t:=h.below hb h.lt
theorem Qo {w:World}{B t:Nat}{cs:List Value}(h:Blk w B cs t):w.frozen? ⟨B,0,none⟩=false∧w.frozen? ⟨B,1,none⟩=false∧w.frozen? ⟨B,2,none⟩=false∧w.frozen? ⟨B,3,none⟩=false:=⟨h.free 0,h.free 1,h.free 2,h.free 3⟩
abbrev SC (w:World)(a b:Hp)(W:World):Prop:=
 (W.cell? ⟨w.heap.size,0,none⟩=some (.slice a.oa a.os.length a.ocap)∧W.cell? ⟨w.heap.size,1,none⟩=some (.slice a.ra a.rs.length a.rcap)∧W.cell? ⟨w.heap.size,2,none⟩=some (.slice a.wa a.ws.length a.wcap)∧W.cell? ⟨w.heap.size,3,none⟩=some (.slice a.da a.ds.length a.dcap))∧
 (W.cell? ⟨w.heap.size+1,0,none⟩=some (.slice b.oa b.os.length b.ocap)∧W.cell? ⟨w.heap.size+1,1,none⟩=some (.slice b.ra b.rs.length b.rcap)∧W.cell? ⟨w.heap.size+1,2,none⟩=some (.slice b.wa b.ws.length b.wcap)∧W.cell? ⟨w.heap.size+1,3,none⟩=some (.slice b.da b.ds.length b.dcap))
theorem QgX {w W:World}{a b x y:Hp}{B C D:Nat}{c0 c1 c2 c3 d0 d1 d2 d3:Value}(hB:Blk W B [c0,c1,c2,c3] 27)(hC:Blk W C [d0,d1,d2,d3] 27)(hne:B≠C)(hK:K2 w W a b)(hD:D≤B)(hx:Qq W x)(hy:Qq W y)(hw:w.heap.size+1+1≤D)(v0 v1 v2 v3:Value):
 ∃_:True,Qf 27 W ((((W.setCell ⟨B,0,none⟩ v0).setCell ⟨B,1,none⟩ v1).setCell ⟨B,2,none⟩ v2).setCell ⟨B,3,none⟩ v3)∧Blk ((((W.setCell ⟨B,0,none⟩ v0).setCell ⟨B,1,none⟩ v1).setCell ⟨B,2,none⟩ v2).setCell ⟨B,3,none⟩ v3) C [d0,d1,d2,d3] 27∧
  Blk ((((W.setCell ⟨B,0,none⟩ v0).setCell ⟨B,1,none⟩ v1).setCell ⟨B,2,none⟩ v2).setCell ⟨B,3,none⟩ v3) B [v0,v1,v2,v3] 27∧K2 w ((((W.setCell ⟨B,0,none⟩ v0).setCell ⟨B,1,none⟩ v1).setCell ⟨B,2,none⟩ v2).setCell ⟨B,3,none⟩ v3) a b∧
  Qq ((((W.setCell ⟨B,0,none⟩ v0).setCell ⟨B,1,none⟩ v1).setCell ⟨B,2,none⟩ v2).setCell ⟨B,3,none⟩ v3) x∧Qq ((((W.setCell ⟨B,0,none⟩ v0).setCell ⟨B,1,none⟩ v1).setCell ⟨B,2,none⟩ v2).setCell ⟨B,3,none⟩ v3) y:=by
 obtain⟨hk,hb⟩:=QR hB v0 v1 v2 v3;have o4:∀(E t:Nat) (cs:List Value),Blk W E cs t→E≠B→Blk ((((W.setCell ⟨B,0,none⟩ v0).setCell ⟨B,1,none⟩ v1).setCell ⟨B,2,none⟩ v2).setCell ⟨B,3,none⟩ v3) E cs t:=fun E t cs h e=>(((h.other ⟨B,0,none⟩ v0 e).other ⟨B,1,none⟩ v1 e).other ⟨B,2,none⟩ v2 e).other ⟨B,3,none⟩ v3 e;exact⟨trivial,hk,o4 C _ _ hC hne.symm,hb,⟨ZS hK.below (by omega) v0 v1 v2 v3,o4 _ _ _ hK.ba (by omega),o4 _ _ _ hK.bb (by omega)⟩,hx.keep hk,hy.keep hk⟩
theorem ZC {w W:World}{a b x y:Hp}{B C D:Nat}{c0 c1 c2 c3 d0 d1 d2 d3:Value}(hB:Blk W B [c0,c1,c2,c3] 27)(hC:Blk W C [d0,d1,d2,d3] 27)(hne:B≠C)(hK:K2 w W a b)(hD:D≤B)(hx:Qq W x)(hy:Qq W y)(hw:w.heap.size+1+1≤D)(z:Hp):
 ∃V,Hid (((((W.setCell ⟨B,0,none⟩ (.slice z.oa z.os.length z.ocap)).setCell ⟨B,1,none⟩ (.slice z.ra z.rs.length z.rcap)).setCell ⟨B,2,none⟩ (.slice z.wa z.ws.length z.wcap)).setCell ⟨B,3,none⟩ (.slice z.da z.ds.length z.dcap))=V)∧Qf 27 W V∧Blk V C [d0,d1,d2,d3] 27∧Blk V B [QhZ z.oa z.os.length z.ocap,QhZ z.ra z.rs.length z.rcap,QhZ z.wa z.ws.length z.wcap,QhZ z.da z.ds.length z.dcap] 27∧K2 w V a b∧Qq V x∧Qq V y:=by
 obtain⟨-,h⟩:=QgX hB hC hne hK hD hx hy hw (.slice z.oa z.os.length z.ocap) (.slice z.ra z.rs.length z.rcap) (.slice z.wa z.ws.length z.wcap) (.slice z.da z.ds.length z.dcap);exact⟨_,rfl,h⟩
theorem Z2 (V:World):∃W,V.alloc (Obj.cells #[QhZ none 0 0,QhZ none 0 0,QhZ none 0 0,QhZ none 0 0] 27)=W∧Below V.heap.size V W∧Blk W V.heap.size [QhZ none 0 0,QhZ none 0 0,QhZ none 0 0,QhZ none 0 0] 27:=⟨_,rfl,(Below.refl _ _).alloc (QhU _) _,Blk.new V _ _⟩
structure Qb3 (w W:World) (a b x y:Hp) (B C:Nat):Prop where
 px:x.p=((lookP a.p).o,(lookP a.p).r,(lookP a.p).w,(lookP a.p).d)
 py:y.p=((lookP b.p).o,(lookP b.p).r,(lookP b.p).w,(lookP b.p).d)
 bx:Blk W B [QhZ x.oa x.os.length x.ocap,QhZ x.ra x.rs.length x.rcap,QhZ x.wa x.ws.length x.wcap,QhZ x.da x.ds.length x.dcap] 27
 by_:Blk W C [QhZ y.oa y.os.length y.ocap,QhZ y.ra y.rs.length y.rcap,QhZ y.wa y.ws.length y.wcap,QhZ y.da y.ds.length y.dcap] 27
 ox:Qq W x
 oy:Qq W y
 be:Below w.heap.size w W
theorem Qgz {a b x y:Hp}(ha:okP a.p=true)(hb:okP b.p=true)(hx:x.p=((lookP a.p).o,(lookP a.p).r,(lookP a.p).w,(lookP a.p).d))(hy:y.p=((lookP b.p).o,(lookP b.p).r,(lookP b.p).w,(lookP b.p).d)):
 Q8 a.p b.p↔x.rs=y.rs∧x.os.map Ob.p=y.os.map Ob.p∧x.ws=y.ws∧x.ds=y.ds:=by
 unfold Q8;generalize lookP a.p=u at *;generalize lookP b.p=v at *;obtain⟨uo,ur,uw,ud⟩:=u;obtain⟨vo,vr,vw,vd⟩:=v;simp only[Hp.p,Prod.mk.injEq]at hx hy;obtain⟨x1,x2,x3,x4⟩:=hx;obtain⟨y1,y2,y3,y4⟩:=hy;simp only[UF.mk.injEq,x1,x2,x3,x4,y1,y2,y3,y4,ha,hb,true_and];constructor
 ·rintro⟨h1,h2,h3,h4⟩;exact⟨h2,h1,h3,h4⟩
 ·rintro⟨h1,h2,h3,h4⟩;exact⟨h2,h1,h3,h4⟩
theorem QaB {w:World}{B:Nat}{h:Hp}(hh:Q4 w B h):h.rs.length≤maxLen∧h.ws.length≤maxLen∧h.ds.length≤maxLen∧∀i (hi:i<h.os.length),h.os[i].r.length≤maxLen:=by
 obtain⟨_,_,_,_,a1,a2⟩:=hh.ro.form;obtain⟨_,_,_,_,b1,b2⟩:=hh.wa.form;obtain⟨_,_,_,_,c1,c2⟩:=hh.da.form;refine⟨by omega,by omega,by omega,fun i hi=>?_⟩;obtain⟨_,_,_,_,d1,d2⟩:=(hh.rs.own i hi).form;omega
theorem VB (a b:Hp)(w:World)(ha:Fit w a)(hb:Fit w b):
 Calls Cut.prog 20 #[a.v,b.v] w fun e w'=>∃r:Bool,e=.returned (.bool r)∧(r=true↔Q8 a.p b.p)∧Below w.heap.size w w':=by
 have hK:=K2.start w a b;have c1:=VA a _ (ha.isIn.below hK.below (QhU _)) ha.small ha.txt;go_enter (Cut.func_of Tryz.func20 rfl),Tryz.ntmps20;simp only[Hp.v]at c1⊢;go_wp2_with fail;refine c1.mono ?_;rintro e w1 ⟨rfl,hb1⟩;have hK1:=hK.step hb1;clear c1 hb1 hK
 cases hoka:okP a.p with
 |false=>
  have HF:Hid (¬Q8 a.p b.p):=fun h=>by have:=h.1;rw[hoka]at this;simp at this
  clear hoka;have hlt:=hK1.bb.lt;go_wp2;go_ret;exact⟨_,rfl,by simp[HF.out],hK1.below⟩
 |true=>
  have HA:Hid (okP a.p=true):=hoka;clear hoka;have c2:=VA b _ (hb.isIn.below hK1.below (QhU _)) hb.small hb.txt;simp only[Hp.v]at c2;obtain⟨⟨a0,a1,a2,a3⟩,b0,b1,b2,b3⟩:=hK1.cells;go_wp2_with fail;refine c2.mono ?_;rintro e w2 ⟨rfl,hb2⟩;have hK2:=hK1.step hb2;clear c2 hb2 hK1 a0 a1 a2 a3 b0 b1 b2 b3;obtain⟨⟨a0,a1,a2,a3⟩,b0,b1,b2,b3⟩:=hK2.cells
  cases hokb:okP b.p with
  |false=>
   have HF:Hid (¬Q8 a.p b.p):=fun h=>by have:=h.2.1;rw[hokb]at this;simp at this
   clear hokb;go_wp2;go_ret;exact⟨_,rfl,by simp[HF.out],hK2.below⟩
  |true=>
   have HB:Hid (okP b.p=true):=hokb;clear hokb;have hdr:Below w2.heap.size w2 w2.drew:=(Below.refl _ _).drew;have hK2d:=hK2.step hdr;have hw2s:w.heap.size+1+1≤w2.drew.heap.size:=hK2d.bb.lt;clear hdr hK2 a0 a1 a2 a3 b0 b1 b2 b3;go_wp2_with fail;go_cut [5,6]from 15 (fun s5 s6 wx=>∃(B C:Nat) (x y:Hp),s5=.pointer (some ⟨B,0,none⟩)∧s6=.pointer (some ⟨C,0,none⟩)∧Qb3 w wx a b x y B C)
   case first=>
    refine wp_region_held_drew (S:=SC w a b) (by kernel_rfl) hK2d.cells (fun hHeld=>?_);have hS:SC w a b w2.drew:=hK2d.cells;generalize hW0:w2.drew=W0 at hK2d hS hw2s⊢;clear hW0 hHeld;refine tk 0 15 rfl rfl hS ?_;simp only[QhR,QhS,QhT];refine tk 2 17 rfl rfl hS ?_;simp only[QhR,QhS,QhT];refine wpAnyH_ready (rs:=[1,4,5]) (by kernel_rfl) (by simp) ?_;refine AllReadyH.cons (o:=_) rfl (fun K hK=>?ca0) (AllReadyH.cons (o:=_) rfl (fun K hK=>?al0) (AllReadyH.cons (o:=_) rfl (fun K hK=>?am0) AllReadyH.nil))
    case ca0=>
     have c:=Jf a (W0) (ha.below hK2d.below (QhU _)) HA.out;simp only[Hp.v]at c;go_simp;refine c.mono ?_;rintro e V1 ⟨x,rfl,hpx,hox,hb1⟩;have HPX:Hid (x.p=((lookP a.p).o,(lookP a.p).r,(lookP a.p).w,(lookP a.p).d)):=hpx;have ex1:Qq V1 x:=⟨_,hox⟩;clear hpx hox c;go_wp2_with fail;have kk1:=hK2d.step hb1;have sz1:W0.heap.size≤V1.heap.size:=QhV (QhU W0.heap.size) hb1.size;refine hK.out _ _ kk1.cells (fun _=>?_);clear hK K
     try simp only[Act.put,QhW,QhX,QhY,QhR,QhS,QhT]
     refine wpAnyH_ready (rs:=[3,4,5]) (by kernel_rfl) (by simp) ?_;refine AllReadyH.cons (o:=_) rfl (fun K hK=>?cb2) (AllReadyH.cons (o:=_) rfl (fun K hK=>?al2) (AllReadyH.cons (o:=_) rfl (fun K hK=>?am2) AllReadyH.nil))
     case cb2=>
      have c:=Jf b (V1) (hb.below kk1.below (QhU _)) HB.out;simp only[Hp.v]at c;go_simp;refine c.mono ?_;rintro e V3 ⟨y,rfl,hpy,hoy,hb3⟩;have HPY:Hid (y.p=((lookP b.p).o,(lookP b.p).r,(lookP b.p).w,(lookP b.p).d)):=hpy;have ex3:Qq V3 y:=⟨_,hoy⟩;clear hpy hoy c;go_wp2_with fail;have kk3:=kk1.step hb3;have sz3:W0.heap.size≤V3.heap.size:=QhV sz1 hb3.size;have hx_3:=Qq.step ex1 hb3;refine hK.out _ _ kk3.cells (fun _=>?_);clear hK K
      try simp only[Act.put,QhW,QhX,QhY,QhR,QhS,QhT]
      refine wpAnyH_ready (rs:=[4,5]) (by kernel_rfl) (by simp) ?_;refine AllReadyH.cons (o:=_) rfl (fun K hK=>?al4) (AllReadyH.cons (o:=_) rfl (fun K hK=>?am4) AllReadyH.nil)
      case al4=>
       go_simp;obtain⟨V5,hW5,hb5,new5⟩:=Z2 (V3);rw[hW5];clear hW5;have kk5:=kk3.step hb5;have sz5:W0.heap.size≤V5.heap.size:=QhV sz3 hb5.size;have hx_5:=Qq.step hx_3 hb5;have hy_5:=Qq.step ex3 hb5;refine hK.out _ _ kk5.cells (fun _=>?_);clear hK K
       try simp only[Act.put,QhW,QhX,QhY,QhR,QhS,QhT]
       refine wpAnyH_ready (rs:=[5]) (by kernel_rfl) (by simp) ?_;refine AllReadyH.cons (o:=_) rfl (fun K hK=>?am6) AllReadyH.nil
       case am6=>
        go_simp;obtain⟨V7,hW7,hb7,new7⟩:=Z2 (V5);rw[hW7];clear hW7;have lt7:=new5.lt;have kk7:=kk5.step hb7;have sz7:W0.heap.size≤V7.heap.size:=QhV sz5 hb7.size;have hx_7:=Qq.step hx_5 hb7;have hy_7:=Qq.step hy_5 hb7;have h5_7:=Blk.step new5 hb7;refine hK.out _ _ kk7.cells (fun _=>?_);clear hK K
        try simp only[Act.put,QhW,QhX,QhY,QhR,QhS,QhT]
        obtain⟨r0,r1,r2,r3⟩:=Qb h5_7;obtain⟨f0,f1,f2,f3⟩:=Qo h5_7;have hne:(V3).heap.size≠(V5).heap.size:=(Qh0 lt7);obtain⟨WX,hWX,hkx,h6x,h5x,hKx,hxx,hyx⟩:=ZC h5_7 new7 hne kk7 (by exact sz3) hx_7 hy_7 hw2s x;refine wpAnyH_ready (rs:=[6]) (by kernel_rfl) (by simp) ?_;refine AllReadyH.cons (o:=_) rfl (fun K hK=>?_) AllReadyH.nil;go_simp;rw[hWX.out];refine hK.out _ _ hKx.cells (fun _=>?_);clear hK K hWX;clear r0 r1 r2 r3 f0 f1 f2 f3 hkx;obtain⟨r0,r1,r2,r3⟩:=Qb h6x;obtain⟨f0,f1,f2,f3⟩:=Qo h6x;obtain⟨WY,hWY,hky,h5y,h6y,hKy,hxy,hyy⟩:=ZC h6x h5x hne.symm hKx (by exact sz5) hxx hyx hw2s y;refine wpAnyH_ready (rs:=[7]) (by kernel_rfl) (by simp) ?_;refine AllReadyH.cons (o:=_) rfl (fun K hK=>?_) AllReadyH.nil;go_simp;rw[hWY.out];refine hK.out _ _ hKy.cells (fun _=>?_);clear hK K hWY;refine wpAnyH_done (by kernel_rfl) ?_ _;go_wp2_with fail;go_meet
        case rel=>exact⟨(V3).heap.size,(V5).heap.size,x,y,rfl,rfl,⟨HPX,HPY,h5y,h6y,hxy,hyy,hKy.below⟩⟩
      case am4=>
       go_simp;obtain⟨V9,hW9,hb9,new9⟩:=Z2 (V3);rw[hW9];clear hW9;have kk9:=kk3.step hb9;have sz9:W0.heap.size≤V9.heap.size:=QhV sz3 hb9.size;have hx_9:=Qq.step hx_3 hb9;have hy_9:=Qq.step ex3 hb9;refine hK.out _ _ kk9.cells (fun _=>?_);clear hK K
       try simp only[Act.put,QhW,QhX,QhY,QhR,QhS,QhT]
       refine wpAnyH_ready (rs:=[4]) (by kernel_rfl) (by simp) ?_;refine AllReadyH.cons (o:=_) rfl (fun K hK=>?al10) AllReadyH.nil
       case al10=>
        go_simp;obtain⟨V11,hW11,hb11,new11⟩:=Z2 (V9);rw[hW11];clear hW11;have lt11:=new9.lt;have kk11:=kk9.step hb11;have sz11:W0.heap.size≤V11.heap.size:=QhV sz9 hb11.size;have hx_11:=Qq.step hx_9 hb11;have hy_11:=Qq.step hy_9 hb11;have h6_11:=Blk.step new9 hb11;refine hK.out _ _ kk11.cells (fun _=>?_);clear hK K
        try simp only[Act.put,QhW,QhX,QhY,QhR,QhS,QhT]
        obtain⟨r0,r1,r2,r3⟩:=Qb new11;obtain⟨f0,f1,f2,f3⟩:=Qo new11;have hne:(V9).heap.size≠(V3).heap.size:=(Qh1 lt11);obtain⟨WX,hWX,hkx,h6x,h5x,hKx,hxx,hyx⟩:=ZC new11 h6_11 hne kk11 (by exact sz9) hx_11 hy_11 hw2s x;refine wpAnyH_ready (rs:=[6]) (by kernel_rfl) (by simp) ?_;refine AllReadyH.cons (o:=_) rfl (fun K hK=>?_) AllReadyH.nil;go_simp;rw[hWX.out];refine hK.out _ _ hKx.cells (fun _=>?_);clear hK K hWX;clear r0 r1 r2 r3 f0 f1 f2 f3 hkx;obtain⟨r0,r1,r2,r3⟩:=Qb h6x;obtain⟨f0,f1,f2,f3⟩:=Qo h6x;obtain⟨WY,hWY,hky,h5y,h6y,hKy,hxy,hyy⟩:=ZC h6x h5x hne.symm hKx (by exact sz3) hxx hyx hw2s y;refine wpAnyH_ready (rs:=[7]) (by kernel_rfl) (by simp) ?_;refine AllReadyH.cons (o:=_) rfl (fun K hK=>?_) AllReadyH.nil;go_simp;rw[hWY.out];refine hK.out _ _ hKy.cells (fun _=>?_);clear hK K hWY;refine wpAnyH_done (by kernel_rfl) ?_ _;go_wp2_with fail;go_meet
        case rel=>exact⟨(V9).heap.size,(V3).heap.size,x,y,rfl,rfl,⟨HPX,HPY,h5y,h6y,hxy,hyy,hKy.below⟩⟩
     case al2=>
      go_simp;obtain⟨V13,hW13,hb13,new13⟩:=Z2 (V1);rw[hW13];clear hW13;have kk13:=kk1.step hb13;have sz13:W0.heap.size≤V13.heap.size:=QhV sz1 hb13.size;have hx_13:=Qq.step ex1 hb13;refine hK.out _ _ kk13.cells (fun _=>?_);clear hK K
      try simp only[Act.put,QhW,QhX,QhY,QhR,QhS,QhT]
      refine wpAnyH_ready (rs:=[3,5]) (by kernel_rfl) (by simp) ?_;refine AllReadyH.cons (o:=_) rfl (fun K hK=>?cb14) (AllReadyH.cons (o:=_) rfl (fun K hK=>?am14) AllReadyH.nil)
      case cb14=>
       have c:=Jf b (V13) (hb.below kk13.below (QhU _)) HB.out;simp only[Hp.v]at c;go_simp;refine c.mono ?_;rintro e V15 ⟨y,rfl,hpy,hoy,hb15⟩;have HPY:Hid (y.p=((lookP b.p).o,(lookP b.p).r,(lookP b.p).w,(lookP b.p).d)):=hpy;have ex15:Qq V15 y:=⟨_,hoy⟩;clear hpy hoy c;go_wp2_with fail;have kk15:=kk13.step hb15;have sz15:W0.heap.size≤V15.heap.size:=QhV sz13 hb15.size;have hx_15:=Qq.step hx_13 hb15;have h5_15:=Blk.step new13 hb15;refine hK.out _ _ kk15.cells (fun _=>?_);clear hK K
       try simp only[Act.put,QhW,QhX,QhY,QhR,QhS,QhT]
       refine wpAnyH_ready (rs:=[5]) (by kernel_rfl) (by simp) ?_;refine AllReadyH.cons (o:=_) rfl (fun K hK=>?am16) AllReadyH.nil
       case am16=>
        go_simp;obtain⟨V17,hW17,hb17,new17⟩:=Z2 (V15);rw[hW17];clear hW17;have lt17:=h5_15.lt;have kk17:=kk15.step hb17;have sz17:W0.heap.size≤V17.heap.size:=QhV sz15 hb17.size;have hx_17:=Qq.step hx_15 hb17;have hy_17:=Qq.step ex15 hb17;have h5_17:=Blk.step h5_15 hb17;refine hK.out _ _ kk17.cells (fun _=>?_);clear hK K
        try simp only[Act.put,QhW,QhX,QhY,QhR,QhS,QhT]
        obtain⟨r0,r1,r2,r3⟩:=Qb h5_17;obtain⟨f0,f1,f2,f3⟩:=Qo h5_17;have hne:(V1).heap.size≠(V15).heap.size:=(Qh0 lt17);obtain⟨WX,hWX,hkx,h6x,h5x,hKx,hxx,hyx⟩:=ZC h5_17 new17 hne kk17 (by exact sz1) hx_17 hy_17 hw2s x;refine wpAnyH_ready (rs:=[6]) (by kernel_rfl) (by simp) ?_;refine AllReadyH.cons (o:=_) rfl (fun K hK=>?_) AllReadyH.nil;go_simp;rw[hWX.out];refine hK.out _ _ hKx.cells (fun _=>?_);clear hK K hWX;clear r0 r1 r2 r3 f0 f1 f2 f3 hkx;obtain⟨r0,r1,r2,r3⟩:=Qb h6x;obtain⟨f0,f1,f2,f3⟩:=Qo h6x;obtain⟨WY,hWY,hky,h5y,h6y,hKy,hxy,hyy⟩:=ZC h6x h5x hne.symm hKx (by exact sz15) hxx hyx hw2s y;refine wpAnyH_ready (rs:=[7]) (by kernel_rfl) (by simp) ?_;refine AllReadyH.cons (o:=_) rfl (fun K hK=>?_) AllReadyH.nil;go_simp;rw[hWY.out];refine hK.out _ _ hKy.cells (fun _=>?_);clear hK K hWY;refine wpAnyH_done (by kernel_rfl) ?_ _;go_wp2_with fail;go_meet
        case rel=>exact⟨(V1).heap.size,(V15).heap.size,x,y,rfl,rfl,⟨HPX,HPY,h5y,h6y,hxy,hyy,hKy.below⟩⟩
      case am14=>
       go_simp;obtain⟨V19,hW19,hb19,new19⟩:=Z2 (V13);rw[hW19];clear hW19;have lt19:=new13.lt;have kk19:=kk13.step hb19;have sz19:W0.heap.size≤V19.heap.size:=QhV sz13 hb19.size;have hx_19:=Qq.step hx_13 hb19;have h5_19:=Blk.step new13 hb19;refine hK.out _ _ kk19.cells (fun _=>?_);clear hK K
       try simp only[Act.put,QhW,QhX,QhY,QhR,QhS,QhT]
       refine wpAnyH_ready (rs:=[3]) (by kernel_rfl) (by simp) ?_;refine AllReadyH.cons (o:=_) rfl (fun K hK=>?cb20) AllReadyH.nil
       case cb20=>
        have c:=Jf b (V19) (hb.below kk19.below (QhU _)) HB.out;simp only[Hp.v]at c;go_simp;refine c.mono ?_;rintro e V21 ⟨y,rfl,hpy,hoy,hb21⟩;have HPY:Hid (y.p=((lookP b.p).o,(lookP b.p).r,(lookP b.p).w,(lookP b.p).d)):=hpy;have ex21:Qq V21 y:=⟨_,hoy⟩;clear hpy hoy c;go_wp2_with fail;have kk21:=kk19.step hb21;have sz21:W0.heap.size≤V21.heap.size:=QhV sz19 hb21.size;have hx_21:=Qq.step hx_19 hb21;have h5_21:=Blk.step h5_19 hb21;have h6_21:=Blk.step new19 hb21;refine hK.out _ _ kk21.cells (fun _=>?_);clear hK K
        try simp only[Act.put,QhW,QhX,QhY,QhR,QhS,QhT]
        obtain⟨r0,r1,r2,r3⟩:=Qb h5_21;obtain⟨f0,f1,f2,f3⟩:=Qo h5_21;have hne:(V1).heap.size≠(V13).heap.size:=(Qh0 lt19);obtain⟨WX,hWX,hkx,h6x,h5x,hKx,hxx,hyx⟩:=ZC h5_21 h6_21 hne kk21 (by exact sz1) hx_21 ex21 hw2s x;refine wpAnyH_ready (rs:=[6]) (by kernel_rfl) (by simp) ?_;refine AllReadyH.cons (o:=_) rfl (fun K hK=>?_) AllReadyH.nil;go_simp;rw[hWX.out];refine hK.out _ _ hKx.cells (fun _=>?_);clear hK K hWX;clear r0 r1 r2 r3 f0 f1 f2 f3 hkx;obtain⟨r0,r1,r2,r3⟩:=Qb h6x;obtain⟨f0,f1,f2,f3⟩:=Qo h6x;obtain⟨WY,hWY,hky,h5y,h6y,hKy,hxy,hyy⟩:=ZC h6x h5x hne.symm hKx (by exact sz13) hxx hyx hw2s y;refine wpAnyH_ready (rs:=[7]) (by kernel_rfl) (by simp) ?_;refine AllReadyH.cons (o:=_) rfl (fun K hK=>?_) AllReadyH.nil;go_simp;rw[hWY.out];refine hK.out _ _ hKy.cells (fun _=>?_);clear hK K hWY;refine wpAnyH_done (by kernel_rfl) ?_ _;go_wp2_with fail;go_meet
        case rel=>exact⟨(V1).heap.size,(V13).heap.size,x,y,rfl,rfl,⟨HPX,HPY,h5y,h6y,hxy,hyy,hKy.below⟩⟩
     case am2=>
      go_simp;obtain⟨V23,hW23,hb23,new23⟩:=Z2 (V1);rw[hW23];clear hW23;have kk23:=kk1.step hb23;have sz23:W0.heap.size≤V23.heap.size:=QhV sz1 hb23.size;have hx_23:=Qq.step ex1 hb23;refine hK.out _ _ kk23.cells (fun _=>?_);clear hK K
      try simp only[Act.put,QhW,QhX,QhY,QhR,QhS,QhT]
      refine wpAnyH_ready (rs:=[3,4]) (by kernel_rfl) (by simp) ?_;refine AllReadyH.cons (o:=_) rfl (fun K hK=>?cb24) (AllReadyH.cons (o:=_) rfl (fun K hK=>?al24) AllReadyH.nil)
      case cb24=>
       have c:=Jf b (V23) (hb.below kk23.below (QhU _)) HB.out;simp only[Hp.v]at c;go_simp;refine c.mono ?_;rintro e V25 ⟨y,rfl,hpy,hoy,hb25⟩;have HPY:Hid (y.p=((lookP b.p).o,(lookP b.p).r,(lookP b.p).w,(lookP b.p).d)):=hpy;have ex25:Qq V25 y:=⟨_,hoy⟩;clear hpy hoy c;go_wp2_with fail;have kk25:=kk23.step hb25;have sz25:W0.heap.size≤V25.heap.size:=QhV sz23 hb25.size;have hx_25:=Qq.step hx_23 hb25;have h6_25:=Blk.step new23 hb25;refine hK.out _ _ kk25.cells (fun _=>?_);clear hK K
       try simp only[Act.put,QhW,QhX,QhY,QhR,QhS,QhT]
       refine wpAnyH_ready (rs:=[4]) (by kernel_rfl) (by simp) ?_;refine AllReadyH.cons (o:=_) rfl (fun K hK=>?al26) AllReadyH.nil
       case al26=>
        go_simp;obtain⟨V27,hW27,hb27,new27⟩:=Z2 (V25);rw[hW27];clear hW27;have lt27:=h6_25.lt;have kk27:=kk25.step hb27;have sz27:W0.heap.size≤V27.heap.size:=QhV sz25 hb27.size;have hx_27:=Qq.step hx_25 hb27;have hy_27:=Qq.step ex25 hb27;have h6_27:=Blk.step h6_25 hb27;refine hK.out _ _ kk27.cells (fun _=>?_);clear hK K
        try simp only[Act.put,QhW,QhX,QhY,QhR,QhS,QhT]
        obtain⟨r0,r1,r2,r3⟩:=Qb new27;obtain⟨f0,f1,f2,f3⟩:=Qo new27;have hne:(V25).heap.size≠(V1).heap.size:=(Qh1 lt27);obtain⟨WX,hWX,hkx,h6x,h5x,hKx,hxx,hyx⟩:=ZC new27 h6_27 hne kk27 (by exact sz25) hx_27 hy_27 hw2s x;refine wpAnyH_ready (rs:=[6]) (by kernel_rfl) (by simp) ?_;refine AllReadyH.cons (o:=_) rfl (fun K hK=>?_) AllReadyH.nil;go_simp;rw[hWX.out];refine hK.out _ _ hKx.cells (fun _=>?_);clear hK K hWX;clear r0 r1 r2 r3 f0 f1 f2 f3 hkx;obtain⟨r0,r1,r2,r3⟩:=Qb h6x;obtain⟨f0,f1,f2,f3⟩:=Qo h6x;obtain⟨WY,hWY,hky,h5y,h6y,hKy,hxy,hyy⟩:=ZC h6x h5x hne.symm hKx (by exact sz1) hxx hyx hw2s y;refine wpAnyH_ready (rs:=[7]) (by kernel_rfl) (by simp) ?_;refine AllReadyH.cons (o:=_) rfl (fun K hK=>?_) AllReadyH.nil;go_simp;rw[hWY.out];refine hK.out _ _ hKy.cells (fun _=>?_);clear hK K hWY;refine wpAnyH_done (by kernel_rfl) ?_ _;go_wp2_with fail;go_meet
        case rel=>exact⟨(V25).heap.size,(V1).heap.size,x,y,rfl,rfl,⟨HPX,HPY,h5y,h6y,hxy,hyy,hKy.below⟩⟩
      case al24=>
       go_simp;obtain⟨V29,hW29,hb29,new29⟩:=Z2 (V23);rw[hW29];clear hW29;have lt29:=new23.lt;have kk29:=kk23.step hb29;have sz29:W0.heap.size≤V29.heap.size:=QhV sz23 hb29.size;have hx_29:=Qq.step hx_23 hb29;have h6_29:=Blk.step new23 hb29;refine hK.out _ _ kk29.cells (fun _=>?_);clear hK K
       try simp only[Act.put,QhW,QhX,QhY,QhR,QhS,QhT]
       refine wpAnyH_ready (rs:=[3]) (by kernel_rfl) (by simp) ?_;refine AllReadyH.cons (o:=_) rfl (fun K hK=>?cb30) AllReadyH.nil
       case cb30=>
        have c:=Jf b (V29) (hb.below kk29.below (QhU _)) HB.out;simp only[Hp.v]at c;go_simp;refine c.mono ?_;rintro e V31 ⟨y,rfl,hpy,hoy,hb31⟩;have HPY:Hid (y.p=((lookP b.p).o,(lookP b.p).r,(lookP b.p).w,(lookP b.p).d)):=hpy;have ex31:Qq V31 y:=⟨_,hoy⟩;clear hpy hoy c;go_wp2_with fail;have kk31:=kk29.step hb31;have sz31:W0.heap.size≤V31.heap.size:=QhV sz29 hb31.size;have hx_31:=Qq.step hx_29 hb31;have h5_31:=Blk.step new29 hb31;have h6_31:=Blk.step h6_29 hb31;refine hK.out _ _ kk31.cells (fun _=>?_);clear hK K
        try simp only[Act.put,QhW,QhX,QhY,QhR,QhS,QhT]
        obtain⟨r0,r1,r2,r3⟩:=Qb h5_31;obtain⟨f0,f1,f2,f3⟩:=Qo h5_31;have hne:(V23).heap.size≠(V1).heap.size:=(Qh1 lt29);obtain⟨WX,hWX,hkx,h6x,h5x,hKx,hxx,hyx⟩:=ZC h5_31 h6_31 hne kk31 (by exact sz23) hx_31 ex31 hw2s x;refine wpAnyH_ready (rs:=[6]) (by kernel_rfl) (by simp) ?_;refine AllReadyH.cons (o:=_) rfl (fun K hK=>?_) AllReadyH.nil;go_simp;rw[hWX.out];refine hK.out _ _ hKx.cells (fun _=>?_);clear hK K hWX;clear r0 r1 r2 r3 f0 f1 f2 f3 hkx;obtain⟨r0,r1,r2,r3⟩:=Qb h6x;obtain⟨f0,f1,f2,f3⟩:=Qo h6x;obtain⟨WY,hWY,hky,h5y,h6y,hKy,hxy,hyy⟩:=ZC h6x h5x hne.symm hKx (by exact sz1) hxx hyx hw2s y;refine wpAnyH_ready (rs:=[7]) (by kernel_rfl) (by simp) ?_;refine AllReadyH.cons (o:=_) rfl (fun K hK=>?_) AllReadyH.nil;go_simp;rw[hWY.out];refine hK.out _ _ hKy.cells (fun _=>?_);clear hK K hWY;refine wpAnyH_done (by kernel_rfl) ?_ _;go_wp2_with fail;go_meet
        case rel=>exact⟨(V23).heap.size,(V1).heap.size,x,y,rfl,rfl,⟨HPX,HPY,h5y,h6y,hxy,hyy,hKy.below⟩⟩
    case al0=>
     go_simp;obtain⟨V33,hW33,hb33,new33⟩:=Z2 (W0);rw[hW33];clear hW33;have kk33:=hK2d.step hb33;have sz33:W0.heap.size≤V33.heap.size:=QhV (QhU W0.heap.size) hb33.size;refine hK.out _ _ kk33.cells (fun _=>?_);clear hK K
     try simp only[Act.put,QhW,QhX,QhY,QhR,QhS,QhT]
     refine wpAnyH_ready (rs:=[1,5]) (by kernel_rfl) (by simp) ?_;refine AllReadyH.cons (o:=_) rfl (fun K hK=>?ca34) (AllReadyH.cons (o:=_) rfl (fun K hK=>?am34) AllReadyH.nil)
     case ca34=>
      have c:=Jf a (V33) (ha.below kk33.below (QhU _)) HA.out;simp only[Hp.v]at c;go_simp;refine c.mono ?_;rintro e V35 ⟨x,rfl,hpx,hox,hb35⟩;have HPX:Hid (x.p=((lookP a.p).o,(lookP a.p).r,(lookP a.p).w,(lookP a.p).d)):=hpx;have ex35:Qq V35 x:=⟨_,hox⟩;clear hpx hox c;go_wp2_with fail;have kk35:=kk33.step hb35;have sz35:W0.heap.size≤V35.heap.size:=QhV sz33 hb35.size;have h5_35:=Blk.step new33 hb35;refine hK.out _ _ kk35.cells (fun _=>?_);clear hK K
      try simp only[Act.put,QhW,QhX,QhY,QhR,QhS,QhT]
      refine wpAnyH_ready (rs:=[3,5]) (by kernel_rfl) (by simp) ?_;refine AllReadyH.cons (o:=_) rfl (fun K hK=>?cb36) (AllReadyH.cons (o:=_) rfl (fun K hK=>?am36) AllReadyH.nil)
      case cb36=>
       have c:=Jf b (V35) (hb.below kk35.below (QhU _)) HB.out;simp only[Hp.v]at c;go_simp;refine c.mono ?_;rintro e V37 ⟨y,rfl,hpy,hoy,hb37⟩;have HPY:Hid (y.p=((lookP b.p).o,(lookP b.p).r,(lookP b.p).w,(lookP b.p).d)):=hpy;have ex37:Qq V37 y:=⟨_,hoy⟩;clear hpy hoy c;go_wp2_with fail;have kk37:=kk35.step hb37;have sz37:W0.heap.size≤V37.heap.size:=QhV sz35 hb37.size;have hx_37:=Qq.step ex35 hb37;have h5_37:=Blk.step h5_35 hb37;refine hK.out _ _ kk37.cells (fun _=>?_);clear hK K
       try simp only[Act.put,QhW,QhX,QhY,QhR,QhS,QhT]
       refine wpAnyH_ready (rs:=[5]) (by kernel_rfl) (by simp) ?_;refine AllReadyH.cons (o:=_) rfl (fun K hK=>?am38) AllReadyH.nil
       case am38=>
        go_simp;obtain⟨V39,hW39,hb39,new39⟩:=Z2 (V37);rw[hW39];clear hW39;have lt39:=h5_37.lt;have kk39:=kk37.step hb39;have sz39:W0.heap.size≤V39.heap.size:=QhV sz37 hb39.size;have hx_39:=Qq.step hx_37 hb39;have hy_39:=Qq.step ex37 hb39;have h5_39:=Blk.step h5_37 hb39;refine hK.out _ _ kk39.cells (fun _=>?_);clear hK K
        try simp only[Act.put,QhW,QhX,QhY,QhR,QhS,QhT]
        obtain⟨r0,r1,r2,r3⟩:=Qb h5_39;obtain⟨f0,f1,f2,f3⟩:=Qo h5_39;have hne:(W0).heap.size≠(V37).heap.size:=(Qh0 lt39);obtain⟨WX,hWX,hkx,h6x,h5x,hKx,hxx,hyx⟩:=ZC h5_39 new39 hne kk39 (by exact(QhU W0.heap.size)) hx_39 hy_39 hw2s x;refine wpAnyH_ready (rs:=[6]) (by kernel_rfl) (by simp) ?_;refine AllReadyH.cons (o:=_) rfl (fun K hK=>?_) AllReadyH.nil;go_simp;rw[hWX.out];refine hK.out _ _ hKx.cells (fun _=>?_);clear hK K hWX;clear r0 r1 r2 r3 f0 f1 f2 f3 hkx;obtain⟨r0,r1,r2,r3⟩:=Qb h6x;obtain⟨f0,f1,f2,f3⟩:=Qo h6x;obtain⟨WY,hWY,hky,h5y,h6y,hKy,hxy,hyy⟩:=ZC h6x h5x hne.symm hKx (by exact sz37) hxx hyx hw2s y;refine wpAnyH_ready (rs:=[7]) (by kernel_rfl) (by simp) ?_;refine AllReadyH.cons (o:=_) rfl (fun K hK=>?_) AllReadyH.nil;go_simp;rw[hWY.out];refine hK.out _ _ hKy.cells (fun _=>?_);clear hK K hWY;refine wpAnyH_done (by kernel_rfl) ?_ _;go_wp2_with fail;go_meet
        case rel=>exact⟨(W0).heap.size,(V37).heap.size,x,y,rfl,rfl,⟨HPX,HPY,h5y,h6y,hxy,hyy,hKy.below⟩⟩
      case am36=>
       go_simp;obtain⟨V41,hW41,hb41,new41⟩:=Z2 (V35);rw[hW41];clear hW41;have lt41:=h5_35.lt;have kk41:=kk35.step hb41;have sz41:W0.heap.size≤V41.heap.size:=QhV sz35 hb41.size;have hx_41:=Qq.step ex35 hb41;have h5_41:=Blk.step h5_35 hb41;refine hK.out _ _ kk41.cells (fun _=>?_);clear hK K
       try simp only[Act.put,QhW,QhX,QhY,QhR,QhS,QhT]
       refine wpAnyH_ready (rs:=[3]) (by kernel_rfl) (by simp) ?_;refine AllReadyH.cons (o:=_) rfl (fun K hK=>?cb42) AllReadyH.nil
       case cb42=>
        have c:=Jf b (V41) (hb.below kk41.below (QhU _)) HB.out;simp only[Hp.v]at c;go_simp;refine c.mono ?_;rintro e V43 ⟨y,rfl,hpy,hoy,hb43⟩;have HPY:Hid (y.p=((lookP b.p).o,(lookP b.p).r,(lookP b.p).w,(lookP b.p).d)):=hpy;have ex43:Qq V43 y:=⟨_,hoy⟩;clear hpy hoy c;go_wp2_with fail;have kk43:=kk41.step hb43;have sz43:W0.heap.size≤V43.heap.size:=QhV sz41 hb43.size;have hx_43:=Qq.step hx_41 hb43;have h5_43:=Blk.step h5_41 hb43;have h6_43:=Blk.step new41 hb43;refine hK.out _ _ kk43.cells (fun _=>?_);clear hK K
        try simp only[Act.put,QhW,QhX,QhY,QhR,QhS,QhT]
        obtain⟨r0,r1,r2,r3⟩:=Qb h5_43;obtain⟨f0,f1,f2,f3⟩:=Qo h5_43;have hne:(W0).heap.size≠(V35).heap.size:=(Qh0 lt41);obtain⟨WX,hWX,hkx,h6x,h5x,hKx,hxx,hyx⟩:=ZC h5_43 h6_43 hne kk43 (by exact(QhU W0.heap.size)) hx_43 ex43 hw2s x;refine wpAnyH_ready (rs:=[6]) (by kernel_rfl) (by simp) ?_;refine AllReadyH.cons (o:=_) rfl (fun K hK=>?_) AllReadyH.nil;go_simp;rw[hWX.out];refine hK.out _ _ hKx.cells (fun _=>?_);clear hK K hWX;clear r0 r1 r2 r3 f0 f1 f2 f3 hkx;obtain⟨r0,r1,r2,r3⟩:=Qb h6x;obtain⟨f0,f1,f2,f3⟩:=Qo h6x;obtain⟨WY,hWY,hky,h5y,h6y,hKy,hxy,hyy⟩:=ZC h6x h5x hne.symm hKx (by exact sz35) hxx hyx hw2s y;refine wpAnyH_ready (rs:=[7]) (by kernel_rfl) (by simp) ?_;refine AllReadyH.cons (o:=_) rfl (fun K hK=>?_) AllReadyH.nil;go_simp;rw[hWY.out];refine hK.out _ _ hKy.cells (fun _=>?_);clear hK K hWY;refine wpAnyH_done (by kernel_rfl) ?_ _;go_wp2_with fail;go_meet
        case rel=>exact⟨(W0).heap.size,(V35).heap.size,x,y,rfl,rfl,⟨HPX,HPY,h5y,h6y,hxy,hyy,hKy.below⟩⟩
     case am34=>
      go_simp;obtain⟨V45,hW45,hb45,new45⟩:=Z2 (V33);rw[hW45];clear hW45;have lt45:=new33.lt;have kk45:=kk33.step hb45;have sz45:W0.heap.size≤V45.heap.size:=QhV sz33 hb45.size;have h5_45:=Blk.step new33 hb45;refine hK.out _ _ kk45.cells (fun _=>?_);clear hK K
      try simp only[Act.put,QhW,QhX,QhY,QhR,QhS,QhT]
      refine wpAnyH_ready (rs:=[1]) (by kernel_rfl) (by simp) ?_;refine AllReadyH.cons (o:=_) rfl (fun K hK=>?ca46) AllReadyH.nil
      case ca46=>
       have c:=Jf a (V45) (ha.below kk45.below (QhU _)) HA.out;simp only[Hp.v]at c;go_simp;refine c.mono ?_;rintro e V47 ⟨x,rfl,hpx,hox,hb47⟩;have HPX:Hid (x.p=((lookP a.p).o,(lookP a.p).r,(lookP a.p).w,(lookP a.p).d)):=hpx;have ex47:Qq V47 x:=⟨_,hox⟩;clear hpx hox c;go_wp2_with fail;have kk47:=kk45.step hb47;have sz47:W0.heap.size≤V47.heap.size:=QhV sz45 hb47.size;have h5_47:=Blk.step h5_45 hb47;have h6_47:=Blk.step new45 hb47;refine hK.out _ _ kk47.cells (fun _=>?_);clear hK K
       try simp only[Act.put,QhW,QhX,QhY,QhR,QhS,QhT]
       refine wpAnyH_ready (rs:=[3]) (by kernel_rfl) (by simp) ?_;refine AllReadyH.cons (o:=_) rfl (fun K hK=>?cb48) AllReadyH.nil
       case cb48=>
        have c:=Jf b (V47) (hb.below kk47.below (QhU _)) HB.out;simp only[Hp.v]at c;go_simp;refine c.mono ?_;rintro e V49 ⟨y,rfl,hpy,hoy,hb49⟩;have HPY:Hid (y.p=((lookP b.p).o,(lookP b.p).r,(lookP b.p).w,(lookP b.p).d)):=hpy;have ex49:Qq V49 y:=⟨_,hoy⟩;clear hpy hoy c;go_wp2_with fail;have kk49:=kk47.step hb49;have sz49:W0.heap.size≤V49.heap.size:=QhV sz47 hb49.size;have hx_49:=Qq.step ex47 hb49;have h5_49:=Blk.step h5_47 hb49;have h6_49:=Blk.step h6_47 hb49;refine hK.out _ _ kk49.cells (fun _=>?_);clear hK K
        try simp only[Act.put,QhW,QhX,QhY,QhR,QhS,QhT]
        obtain⟨r0,r1,r2,r3⟩:=Qb h5_49;obtain⟨f0,f1,f2,f3⟩:=Qo h5_49;have hne:(W0).heap.size≠(V33).heap.size:=(Qh0 lt45);obtain⟨WX,hWX,hkx,h6x,h5x,hKx,hxx,hyx⟩:=ZC h5_49 h6_49 hne kk49 (by exact(QhU W0.heap.size)) hx_49 ex49 hw2s x;refine wpAnyH_ready (rs:=[6]) (by kernel_rfl) (by simp) ?_;refine AllReadyH.cons (o:=_) rfl (fun K hK=>?_) AllReadyH.nil;go_simp;rw[hWX.out];refine hK.out _ _ hKx.cells (fun _=>?_);clear hK K hWX;clear r0 r1 r2 r3 f0 f1 f2 f3 hkx;obtain⟨r0,r1,r2,r3⟩:=Qb h6x;obtain⟨f0,f1,f2,f3⟩:=Qo h6x;obtain⟨WY,hWY,hky,h5y,h6y,hKy,hxy,hyy⟩:=ZC h6x h5x hne.symm hKx (by exact sz33) hxx hyx hw2s y;refine wpAnyH_ready (rs:=[7]) (by kernel_rfl) (by simp) ?_;refine AllReadyH.cons (o:=_) rfl (fun K hK=>?_) AllReadyH.nil;go_simp;rw[hWY.out];refine hK.out _ _ hKy.cells (fun _=>?_);clear hK K hWY;refine wpAnyH_done (by kernel_rfl) ?_ _;go_wp2_with fail;go_meet
        case rel=>exact⟨(W0).heap.size,(V33).heap.size,x,y,rfl,rfl,⟨HPX,HPY,h5y,h6y,hxy,hyy,hKy.below⟩⟩
    case am0=>
     go_simp;obtain⟨V51,hW51,hb51,new51⟩:=Z2 (W0);rw[hW51];clear hW51;have kk51:=hK2d.step hb51;have sz51:W0.heap.size≤V51.heap.size:=QhV (QhU W0.heap.size) hb51.size;refine hK.out _ _ kk51.cells (fun _=>?_);clear hK K
     try simp only[Act.put,QhW,QhX,QhY,QhR,QhS,QhT]
     refine wpAnyH_ready (rs:=[1,4]) (by kernel_rfl) (by simp) ?_;refine AllReadyH.cons (o:=_) rfl (fun K hK=>?ca52) (AllReadyH.cons (o:=_) rfl (fun K hK=>?al52) AllReadyH.nil)
     case ca52=>
      have c:=Jf a (V51) (ha.below kk51.below (QhU _)) HA.out;simp only[Hp.v]at c;go_simp;refine c.mono ?_;rintro e V53 ⟨x,rfl,hpx,hox,hb53⟩;have HPX:Hid (x.p=((lookP a.p).o,(lookP a.p).r,(lookP a.p).w,(lookP a.p).d)):=hpx;have ex53:Qq V53 x:=⟨_,hox⟩;clear hpx hox c;go_wp2_with fail;have kk53:=kk51.step hb53;have sz53:W0.heap.size≤V53.heap.size:=QhV sz51 hb53.size;have h6_53:=Blk.step new51 hb53;refine hK.out _ _ kk53.cells (fun _=>?_);clear hK K
      try simp only[Act.put,QhW,QhX,QhY,QhR,QhS,QhT]
      refine wpAnyH_ready (rs:=[3,4]) (by kernel_rfl) (by simp) ?_;refine AllReadyH.cons (o:=_) rfl (fun K hK=>?cb54) (AllReadyH.cons (o:=_) rfl (fun K hK=>?al54) AllReadyH.nil)
      case cb54=>
       have c:=Jf b (V53) (hb.below kk53.below (QhU _)) HB.out;simp only[Hp.v]at c;go_simp;refine c.mono ?_;rintro e V55 ⟨y,rfl,hpy,hoy,hb55⟩;have HPY:Hid (y.p=((lookP b.p).o,(lookP b.p).r,(lookP b.p).w,(lookP b.p).d)):=hpy;have ex55:Qq V55 y:=⟨_,hoy⟩;clear hpy hoy c;go_wp2_with fail;have kk55:=kk53.step hb55;have sz55:W0.heap.size≤V55.heap.size:=QhV sz53 hb55.size;have hx_55:=Qq.step ex53 hb55;have h6_55:=Blk.step h6_53 hb55;refine hK.out _ _ kk55.cells (fun _=>?_);clear hK K
       try simp only[Act.put,QhW,QhX,QhY,QhR,QhS,QhT]
       refine wpAnyH_ready (rs:=[4]) (by kernel_rfl) (by simp) ?_;refine AllReadyH.cons (o:=_) rfl (fun K hK=>?al56) AllReadyH.nil
       case al56=>
        go_simp;obtain⟨V57,hW57,hb57,new57⟩:=Z2 (V55);rw[hW57];clear hW57;have lt57:=h6_55.lt;have kk57:=kk55.step hb57;have sz57:W0.heap.size≤V57.heap.size:=QhV sz55 hb57.size;have hx_57:=Qq.step hx_55 hb57;have hy_57:=Qq.step ex55 hb57;have h6_57:=Blk.step h6_55 hb57;refine hK.out _ _ kk57.cells (fun _=>?_);clear hK K
        try simp only[Act.put,QhW,QhX,QhY,QhR,QhS,QhT]
        obtain⟨r0,r1,r2,r3⟩:=Qb new57;obtain⟨f0,f1,f2,f3⟩:=Qo new57;have hne:(V55).heap.size≠(W0).heap.size:=(Qh1 lt57);obtain⟨WX,hWX,hkx,h6x,h5x,hKx,hxx,hyx⟩:=ZC new57 h6_57 hne kk57 (by exact sz55) hx_57 hy_57 hw2s x;refine wpAnyH_ready (rs:=[6]) (by kernel_rfl) (by simp) ?_;refine AllReadyH.cons (o:=_) rfl (fun K hK=>?_) AllReadyH.nil;go_simp;rw[hWX.out];refine hK.out _ _ hKx.cells (fun _=>?_);clear hK K hWX;clear r0 r1 r2 r3 f0 f1 f2 f3 hkx;obtain⟨r0,r1,r2,r3⟩:=Qb h6x;obtain⟨f0,f1,f2,f3⟩:=Qo h6x;obtain⟨WY,hWY,hky,h5y,h6y,hKy,hxy,hyy⟩:=ZC h6x h5x hne.symm hKx (by exact(QhU W0.heap.size)) hxx hyx hw2s y;refine wpAnyH_ready (rs:=[7]) (by kernel_rfl) (by simp) ?_;refine AllReadyH.cons (o:=_) rfl (fun K hK=>?_) AllReadyH.nil;go_simp;rw[hWY.out];refine hK.out _ _ hKy.cells (fun _=>?_);clear hK K hWY;refine wpAnyH_done (by kernel_rfl) ?_ _;go_wp2_with fail;go_meet
        case rel=>exact⟨(V55).heap.size,(W0).heap.size,x,y,rfl,rfl,⟨HPX,HPY,h5y,h6y,hxy,hyy,hKy.below⟩⟩
      case al54=>
       go_simp;obtain⟨V59,hW59,hb59,new59⟩:=Z2 (V53);rw[hW59];clear hW59;have lt59:=h6_53.lt;have kk59:=kk53.step hb59;have sz59:W0.heap.size≤V59.heap.size:=QhV sz53 hb59.size;have hx_59:=Qq.step ex53 hb59;have h6_59:=Blk.step h6_53 hb59;refine hK.out _ _ kk59.cells (fun _=>?_);clear hK K
       try simp only[Act.put,QhW,QhX,QhY,QhR,QhS,QhT]
       refine wpAnyH_ready (rs:=[3]) (by kernel_rfl) (by simp) ?_;refine AllReadyH.cons (o:=_) rfl (fun K hK=>?cb60) AllReadyH.nil
       case cb60=>
        have c:=Jf b (V59) (hb.below kk59.below (QhU _)) HB.out;simp only[Hp.v]at c;go_simp;refine c.mono ?_;rintro e V61 ⟨y,rfl,hpy,hoy,hb61⟩;have HPY:Hid (y.p=((lookP b.p).o,(lookP b.p).r,(lookP b.p).w,(lookP b.p).d)):=hpy;have ex61:Qq V61 y:=⟨_,hoy⟩;clear hpy hoy c;go_wp2_with fail;have kk61:=kk59.step hb61;have sz61:W0.heap.size≤V61.heap.size:=QhV sz59 hb61.size;have hx_61:=Qq.step hx_59 hb61;have h5_61:=Blk.step new59 hb61;have h6_61:=Blk.step h6_59 hb61;refine hK.out _ _ kk61.cells (fun _=>?_);clear hK K
        try simp only[Act.put,QhW,QhX,QhY,QhR,QhS,QhT]
        obtain⟨r0,r1,r2,r3⟩:=Qb h5_61;obtain⟨f0,f1,f2,f3⟩:=Qo h5_61;have hne:(V53).heap.size≠(W0).heap.size:=(Qh1 lt59);obtain⟨WX,hWX,hkx,h6x,h5x,hKx,hxx,hyx⟩:=ZC h5_61 h6_61 hne kk61 (by exact sz53) hx_61 ex61 hw2s x;refine wpAnyH_ready (rs:=[6]) (by kernel_rfl) (by simp) ?_;refine AllReadyH.cons (o:=_) rfl (fun K hK=>?_) AllReadyH.nil;go_simp;rw[hWX.out];refine hK.out _ _ hKx.cells (fun _=>?_);clear hK K hWX;clear r0 r1 r2 r3 f0 f1 f2 f3 hkx;obtain⟨r0,r1,r2,r3⟩:=Qb h6x;obtain⟨f0,f1,f2,f3⟩:=Qo h6x;obtain⟨WY,hWY,hky,h5y,h6y,hKy,hxy,hyy⟩:=ZC h6x h5x hne.symm hKx (by exact(QhU W0.heap.size)) hxx hyx hw2s y;refine wpAnyH_ready (rs:=[7]) (by kernel_rfl) (by simp) ?_;refine AllReadyH.cons (o:=_) rfl (fun K hK=>?_) AllReadyH.nil;go_simp;rw[hWY.out];refine hK.out _ _ hKy.cells (fun _=>?_);clear hK K hWY;refine wpAnyH_done (by kernel_rfl) ?_ _;go_wp2_with fail;go_meet
        case rel=>exact⟨(V53).heap.size,(W0).heap.size,x,y,rfl,rfl,⟨HPX,HPY,h5y,h6y,hxy,hyy,hKy.below⟩⟩
     case al52=>
      go_simp;obtain⟨V63,hW63,hb63,new63⟩:=Z2 (V51);rw[hW63];clear hW63;have lt63:=new51.lt;have kk63:=kk51.step hb63;have sz63:W0.heap.size≤V63.heap.size:=QhV sz51 hb63.size;have h6_63:=Blk.step new51 hb63;refine hK.out _ _ kk63.cells (fun _=>?_);clear hK K
      try simp only[Act.put,QhW,QhX,QhY,QhR,QhS,QhT]
      refine wpAnyH_ready (rs:=[1]) (by kernel_rfl) (by simp) ?_;refine AllReadyH.cons (o:=_) rfl (fun K hK=>?ca64) AllReadyH.nil
      case ca64=>
       have c:=Jf a (V63) (ha.below kk63.below (QhU _)) HA.out;simp only[Hp.v]at c;go_simp;refine c.mono ?_;rintro e V65 ⟨x,rfl,hpx,hox,hb65⟩;have HPX:Hid (x.p=((lookP a.p).o,(lookP a.p).r,(lookP a.p).w,(lookP a.p).d)):=hpx;have ex65:Qq V65 x:=⟨_,hox⟩;clear hpx hox c;go_wp2_with fail;have kk65:=kk63.step hb65;have sz65:W0.heap.size≤V65.heap.size:=QhV sz63 hb65.size;have h5_65:=Blk.step new63 hb65;have h6_65:=Blk.step h6_63 hb65;refine hK.out _ _ kk65.cells (fun _=>?_);clear hK K
       try simp only[Act.put,QhW,QhX,QhY,QhR,QhS,QhT]
       refine wpAnyH_ready (rs:=[3]) (by kernel_rfl) (by simp) ?_;refine AllReadyH.cons (o:=_) rfl (fun K hK=>?cb66) AllReadyH.nil
       case cb66=>
        have c:=Jf b (V65) (hb.below kk65.below (QhU _)) HB.out;simp only[Hp.v]at c;go_simp;refine c.mono ?_;rintro e V67 ⟨y,rfl,hpy,hoy,hb67⟩;have HPY:Hid (y.p=((lookP b.p).o,(lookP b.p).r,(lookP b.p).w,(lookP b.p).d)):=hpy;have ex67:Qq V67 y:=⟨_,hoy⟩;clear hpy hoy c;go_wp2_with fail;have kk67:=kk65.step hb67;have sz67:W0.heap.size≤V67.heap.size:=QhV sz65 hb67.size;have hx_67:=Qq.step ex65 hb67;have h5_67:=Blk.step h5_65 hb67;have h6_67:=Blk.step h6_65 hb67;refine hK.out _ _ kk67.cells (fun _=>?_);clear hK K
        try simp only[Act.put,QhW,QhX,QhY,QhR,QhS,QhT]
        obtain⟨r0,r1,r2,r3⟩:=Qb h5_67;obtain⟨f0,f1,f2,f3⟩:=Qo h5_67;have hne:(V51).heap.size≠(W0).heap.size:=(Qh1 lt63);obtain⟨WX,hWX,hkx,h6x,h5x,hKx,hxx,hyx⟩:=ZC h5_67 h6_67 hne kk67 (by exact sz51) hx_67 ex67 hw2s x;refine wpAnyH_ready (rs:=[6]) (by kernel_rfl) (by simp) ?_;refine AllReadyH.cons (o:=_) rfl (fun K hK=>?_) AllReadyH.nil;go_simp;rw[hWX.out];refine hK.out _ _ hKx.cells (fun _=>?_);clear hK K hWX;clear r0 r1 r2 r3 f0 f1 f2 f3 hkx;obtain⟨r0,r1,r2,r3⟩:=Qb h6x;obtain⟨f0,f1,f2,f3⟩:=Qo h6x;obtain⟨WY,hWY,hky,h5y,h6y,hKy,hxy,hyy⟩:=ZC h6x h5x hne.symm hKx (by exact(QhU W0.heap.size)) hxx hyx hw2s y;refine wpAnyH_ready (rs:=[7]) (by kernel_rfl) (by simp) ?_;refine AllReadyH.cons (o:=_) rfl (fun K hK=>?_) AllReadyH.nil;go_simp;rw[hWY.out];refine hK.out _ _ hKy.cells (fun _=>?_);clear hK K hWY;refine wpAnyH_done (by kernel_rfl) ?_ _;go_wp2_with fail;go_meet
        case rel=>exact⟨(V51).heap.size,(W0).heap.size,x,y,rfl,rfl,⟨HPX,HPY,h5y,h6y,hxy,hyy,hKy.below⟩⟩
   case rest=>
    obtain⟨B,C,x,y,rfl,rfl,hM⟩:=hcut;have HS:Hid (Q8 a.p b.p↔x.rs=y.rs∧x.os.map Ob.p=y.os.map Ob.p∧x.ws=y.ws∧x.ds=y.ds):=Qgz HA.out HB.out hM.px hM.py
    have hxl:x.os.length≤1048576:=by
     have h1:=congrArg List.length (congrArg Prod.fst hM.px);have h2:=(Py HA.out ha.small ha.cap).len;have h3:=(ZP HA.out).1;simp only[Hp.p,lookP,List.length_map]at h1;simp only[Hp.p]at h2;omega
    obtain⟨ex,ox⟩:=hM.ox;obtain⟨ey,oy⟩:=hM.oy;have hIx:=ox.isIn;have hIy:=oy.isIn;have hbe:=hM.be;have lx:=QaB ox;have ly:=QaB oy;have hbx:=hM.bx;have hby:=hM.by_;obtain⟨x0,x1,x2,x3⟩:=Qu hbx;obtain⟨y0,y1,y2,y3⟩:=Qu hby;have c3:=OU x.ra y.ra x.rs.length y.rs.length x.rcap y.rcap x.rs y.rs wc rfl rfl hIx.sr hIy.sr lx.1 ly.1;clear hM ox oy;go_wp2_with fail;refine c3.mono ?_;rintro e w5 ⟨rfl,hb5⟩;have hB5:=hbe.trans (hb5.mono hbe.size);clear c3;by_cases hR:x.rs=y.rs
    ·have hRd:decide (x.rs=y.rs)=true:=by simpa using hR
     have HR:Hid (x.rs=y.rs):=hR;clear hR x0 x1 x2 x3 y0 y1 y2 y3;have hbx5:=hbx.step hb5;have hby5:=hby.step hb5;have hIx5:=hIx.below hb5 (QhU _);have hIy5:=hIy.below hb5 (QhU _);obtain⟨x0,x1,x2,x3⟩:=Qu hbx5;obtain⟨y0,y1,y2,y3⟩:=Qu hby5;have c4:=Qd4 x.oa y.oa x.ocap y.ocap x.os y.os w5 hIx5.so hIy5.so hxl lx.2.2.2 ly.2.2.2;clear hbx hby hIx hIy hbe hb5;go_wp2_with fail;refine c4.mono ?_;rintro e w6 ⟨r6,rfl,hr6,hb6⟩;have HR6:Hid (r6=true↔x.os.map Ob.p=y.os.map Ob.p):=hr6;have hB6:=hB5.trans (hb6.mono hB5.size);clear c4 hr6
     cases r6 with
     |false=>
      have HF:Hid (¬Q8 a.p b.p):=fun h=>by
       have:=HR6.out.2 (HS.out.1 h).2.1;simp at this
      go_wp2;go_ret;exact⟨_,rfl,by simp[HF.out],hB6⟩
     |true=>
      have HO:Hid (x.os.map Ob.p=y.os.map Ob.p):=HR6.out.1 rfl;clear x0 x1 x2 x3 y0 y1 y2 y3;have hbx6:=hbx5.step hb6;have hby6:=hby5.step hb6;have hIx6:=hIx5.below hb6 (QhU _);have hIy6:=hIy5.below hb6 (QhU _);obtain⟨x0,x1,x2,x3⟩:=Qu hbx6;obtain⟨y0,y1,y2,y3⟩:=Qu hby6;have c5:=OV x.wa y.wa x.ws.length y.ws.length x.wcap y.wcap x.ws y.ws w6 rfl rfl hIx6.sw hIy6.sw lx.2.1 ly.2.1;clear hbx5 hby5 hIx5 hIy5 hB5 hb6;go_wp2_with fail;refine c5.mono ?_;rintro e w7 ⟨rfl,hb7⟩;have hB7:=hB6.trans (hb7.mono hB6.size);clear c5;by_cases hW:x.ws=y.ws
      ·have hWd:decide (x.ws=y.ws)=true:=by simpa using hW
       have HW:Hid (x.ws=y.ws):=hW;clear hW x0 x1 x2 x3 y0 y1 y2 y3;have hbx7:=hbx6.step hb7;have hby7:=hby6.step hb7;have hIx7:=hIx6.below hb7 (QhU _);have hIy7:=hIy6.below hb7 (QhU _);obtain⟨x0,x1,x2,x3⟩:=Qu hbx7;obtain⟨y0,y1,y2,y3⟩:=Qu hby7;have c6:=OV x.da y.da x.ds.length y.ds.length x.dcap y.dcap x.ds y.ds w7 rfl rfl hIx7.sd hIy7.sd lx.2.2.1 ly.2.2.1;clear hbx6 hby6 hIx6 hIy6 hB6 hb7;go_wp2_with fail;refine c6.mono ?_;rintro e w8 ⟨rfl,hb8⟩;have hB8:=hB7.trans (hb8.mono hB7.size)
       have HE:Hid (decide (x.ds=y.ds)=true↔Q8 a.p b.p):=by
        show _↔_;rw[HS.out,decide_eq_true_eq];exact⟨fun h=>⟨HR.out,HO.out,HW.out,h⟩,fun h=>h.2.2.2⟩
       clear c6;go_wp2;go_ret;exact⟨_,rfl,HE.out,hB8⟩
      ·have hWd:decide (x.ws=y.ws)=false:=by simpa using hW
       have HF:Hid (¬Q8 a.p b.p):=fun h=>hW (HS.out.1 h).2.2.1;clear hW;go_wp2;go_ret;exact⟨_,rfl,by simp[HF.out],hB7⟩
    ·have hRd:decide (x.rs=y.rs)=false:=by simpa using hR
     have HF:Hid (¬Q8 a.p b.p):=fun h=>hR (HS.out.1 h).1;clear hR;go_wp2;go_ret;exact⟨_,rfl,by simp[HF.out],hB5⟩
end
end Go.Proofs.YtcpnkpogebjieaaGreat
