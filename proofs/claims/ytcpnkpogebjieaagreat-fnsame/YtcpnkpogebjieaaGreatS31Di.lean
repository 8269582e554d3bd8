/- The specification's own copy of a heap, whole. -/
import Derived.Test.YtcpnkpogebjieaaGreatS30De
import Derived.Test.YtcpnkpogebjieaaGreatS10Vc
open Go.Value renaming slice→QhR,int→QhX
open Go.Obj renaming cells→QhS
open List renaming setIfInBounds_toArray→QhT,set_cons_zero→QhU,set_cons_succ→QhV,all_eq_true→QhY
open Nat renaming le_refl→QhW
set_option maxHeartbeats 3200000
set_option maxRecDepth 100000
namespace Go.Proofs.YtcpnkpogebjieaaGreat
section
open Go.RowKit
def YD (h:Hp)(B:Nat)(s:ZR):Act:=⟨#[.agg #[QhR h.oa h.os.length h.ocap,QhR h.ra h.rs.length h.rcap,QhR h.wa h.ws.length h.wcap,QhR h.da h.ds.length h.dcap],.pointer (some ⟨B,0,none⟩),.pointer (some ⟨B+1,0,none⟩),s.s3,undef,s.s5,.pointer (some ⟨B,1,none⟩),.slice h.ra h.rs.length h.rcap,s.s8,s.s9,.pointer (some ⟨B,2,none⟩),.slice h.wa h.ws.length h.wcap,s.s12,s.s13,.pointer (some ⟨B,3,none⟩),.slice h.da h.ds.length h.dcap,s.s16,s.s17,undef,undef,undef,undef,undef,undef,undef,undef,undef,undef,undef,undef,undef,undef,undef,undef,undef,undef,undef],[]⟩
structure PS (w0:World) (h:Hp) (W:World) (g:Nat) (s8 s12 s16:Value):Prop where
 be:Below w0.heap.size w0 W
 bh:Blk W w0.heap.size [QhR h.oa h.os.length h.ocap,QhR h.ra h.rs.length h.rcap,QhR h.wa h.ws.length h.wcap,QhR h.da h.ds.length h.dcap] 27
 br:Blk W (w0.heap.size+1) [QhR none 0 0,QhR none 0 0,QhR none 0 0,QhR none 0 0] 27
 bx:Blk W g [.slice none 0 0,s8,s12,s16] 27
 ge:w0.heap.size+1+1≤g
 o8:Qa W w0.heap.size s8 h.rs
 o12:Qe W w0.heap.size s12 h.ws
 o16:Qe W w0.heap.size s16 h.ds
 ap:ZM s12 s16
structure Ub (w:World) (h:Hp) (m g:Nat) (s8 s12 s16:Value) (wr:World) (l:List Ob) (vo:Value) (ps:List (Int×ByteArray×List Int)):Prop where
 mp:l.map Ob.p=ps
 bx:Blk wr g [vo,s8,s12,s16] 27
 ge:w.heap.size+1+1≤g
 ob:Qw wr m vo l
 rs:QN wr m l
 be:Below w.heap.size w wr
 sz:m≤wr.heap.size
 bm:w.heap.size≤m
 bh:Blk wr w.heap.size [QhR h.oa h.os.length h.ocap,QhR h.ra h.rs.length h.rcap,QhR h.wa h.ws.length h.wcap,QhR h.da h.ds.length h.dcap] 27
 br:Blk wr (w.heap.size+1) [QhR none 0 0,QhR none 0 0,QhR none 0 0,QhR none 0 0] 27
 o8:Qa wr w.heap.size s8 h.rs
 l8:∀k,s8.ownBlock=some k→k<m
 o12:Qe wr w.heap.size s12 h.ws
 o16:Qe wr w.heap.size s16 h.ds
 ap:ZM s12 s16
theorem Ub.next {w:World}{h:Hp}{m g:Nat}{s8 s12 s16:Value}{wr w2 w3:World}{l:List Ob}{va:Option Addr}{vcap:Nat}{ps:List (Int×ByteArray×List Int)}(H:Ub w h m g s8 s12 s16 wr l (.slice va l.length vcap) ps)(o:Ob)(h2:Below wr.heap.size wr w2)(ho:Qa w2 wr.heap.size o.rv o.r)
 (q cap:Nat)(hown:w3.ownsRow m 37 3 (.slice (some ⟨q,0,none⟩) (l.length+1) cap) (l.length+1) (l.flatMap Ob.cs++o.cs))(hg:(w2.alloc (QhS #[.int .i64 o.k,.string o.t,.slice o.ra o.r.length o.rcap] 37)).grownBy w3 (QhR va l.length vcap).ownBlock):
 Ub w h m g s8 s12 s16 (w3.setCell ⟨g,0,none⟩ (.slice (some ⟨q,0,none⟩) (l.length+1) cap)) (l++ [o]) (.slice (some ⟨q,0,none⟩) (l.length+1) cap) (ps++ [o.p]):=by
 have hA:Below w2.heap.size w2 (w2.alloc (QhS #[.int .i64 o.k,.string o.t,.slice o.ra o.r.length o.rcap] 37)):=(Below.refl _ _).alloc (QhW _) _;have b2:Below wr.heap.size wr (w2.alloc (QhS #[.int .i64 o.k,.string o.t,.slice o.ra o.r.length o.rcap] 37)):=h2.trans (hA.mono h2.size);have b3:=H.be.trans (b2.mono H.be.size);have ob2:=H.ob.below b2 (QhW _);have rs2:=H.rs.below b2 (QhW _);have ro2:=(ho.below hA (QhW _)).base (C:=m) H.sz;have bx2:=H.bx.below b2 H.bx.lt;have bh2:=H.bh.below b2 H.bh.lt;have br2:=H.br.below b2 H.br.lt;have bx3:=bx2.grown hg (Qs ob2 bx2 (by decide));have hown':Qw w3 m (.slice (some ⟨q,0,none⟩) (l.length+1) cap) (l++ [o]):=by unfold Qw;simpa using hown
 have rs3:=rs2.grown ob2 (by decide) hg;have ro3:=ro2.kept hg (UB ro2 ob2 (by decide));have k3:Qf 27 w3 (w3.setCell ⟨g,0,none⟩ (.slice (some ⟨q,0,none⟩) (l.length+1) cap)):=Qf.set bx3 0 _;have hlt:∀k,(QhR va l.length vcap).ownBlock=some k→w.heap.size≤k:=fun k e=>Nat.le_trans H.bm (ob2.lt k e).1;refine⟨by rw[List.map_append,H.mp];rfl,bx3.store 0 _,H.ge,Qm hown' k3 (by decide),?_,?_,?_,H.bm,?_,?_,?_,H.l8,?_,?_,H.ap⟩
 ·refine(rs3.snoc o ro3 fun i hi a b ha hb=>?_).keep k3;have h1:=(H.rs.lt i hi a ha).2;have h2':=(ho.lt b hb).1;omega
 ·exact(b3.trans (QJ hg b3.size hlt)).setCell (by have:=H.ge;dsimp only;omega) _
 ·have:=hg.size;have:=b2.size;have:=H.sz;simp[World.setCell]at *;omega
 ·exact(bh2.grown hg (Qs ob2 bh2 (by decide))).other _ _ (by have:=H.ge;dsimp only;omega)
 ·exact(br2.grown hg (Qs ob2 br2 (by decide))).other _ _ (by have:=H.ge;dsimp only;omega)
 ·exact Qm (QO (H.o8.below b2 (QhW _)) ob2 hg (by decide)) k3 (by decide)
 ·exact Qm (QO (H.o12.below b2 (QhW _)) ob2 hg (by decide)) k3 (by decide)
 ·exact Qm (QO (H.o16.below b2 (QhW _)) ob2 hg (by decide)) k3 (by decide)
theorem Ut (h:Hp)(w:World)(hh:Qj w h)(hs:ZV h):
 Calls Cut.prog 35 #[h.v] w fun e w'=>∃h':Hp,e=.returned h'.v∧h'.p=h.p∧Qk w' w.heap.size h'∧Below w.heap.size w w':=by
 obtain⟨i0,hi,hz0,hz1,hz2⟩:=info_parts Je;obtain⟨j0,hj,hy0,hy1,hy2⟩:=info_parts Jr;obtain⟨n0,hn,hx0,hx1,hx2⟩:=info_parts YT;have hso:=hs.o;have hB0:Below w.heap.size w ((w.alloc (QhS #[QhR h.oa h.os.length h.ocap,QhR h.ra h.rs.length h.rcap,QhR h.wa h.ws.length h.wcap,QhR h.da h.ds.length h.dcap] 27)).alloc (QhS #[QhR none 0 0,QhR none 0 0,QhR none 0 0,QhR none 0 0] 27)):=((Below.refl _ _).alloc (QhW _) _).alloc (by simp) _;have hK0:=(Blk.new w [QhR h.oa h.os.length h.ocap,QhR h.ra h.rs.length h.rcap,QhR h.wa h.ws.length h.wcap,QhR h.da h.ds.length h.dcap] 27).alloc (QhS #[QhR none 0 0,QhR none 0 0,QhR none 0 0,QhR none 0 0] 27)
 have hR0:Blk ((w.alloc (QhS #[QhR h.oa h.os.length h.ocap,QhR h.ra h.rs.length h.rcap,QhR h.wa h.ws.length h.wcap,QhR h.da h.ds.length h.dcap] 27)).alloc (QhS #[QhR none 0 0,QhR none 0 0,QhR none 0 0,QhR none 0 0] 27)) (w.heap.size+1) [QhR none 0 0,QhR none 0 0,QhR none 0 0,QhR none 0 0] 27:=by
  have:=Blk.new (w.alloc (QhS #[QhR h.oa h.os.length h.ocap,QhR h.ra h.rs.length h.rcap,QhR h.wa h.ws.length h.wcap,QhR h.da h.ds.length h.dcap] 27)) [QhR none 0 0,QhR none 0 0,QhR none 0 0,QhR none 0 0] 27;rw[World.size_alloc]at this;exact this
 go_enter (Cut.func_of Tryz.func35 rfl),Tryz.ntmps35;simp only[Hp.v];go_wp2_with fail;obtain⟨W0,hW0⟩:∃W0,W0=((w.alloc (QhS #[QhR h.oa h.os.length h.ocap,QhR h.ra h.rs.length h.rcap,QhR h.wa h.ws.length h.wcap,QhR h.da h.ds.length h.dcap] 27)).alloc (QhS #[QhR none 0 0,QhR none 0 0,QhR none 0 0,QhR none 0 0] 27)):=⟨_,rfl⟩;rw[←hW0]at hB0 hK0 hR0⊢;clear hW0;have hdr:Below W0.heap.size W0 W0.drew:=(Below.refl _ _).drew;go_cut [3]from 5 (fun s3 wx=>∃(g:Nat) (s8 s12 s16:Value),s3=.pointer (some ⟨g,0,none⟩)∧PS w h wx g s8 s12 s16)
 case first=>
  have hK0d:=hK0.step hdr;have hR0d:=hR0.step hdr;have hB0d:=hB0.trans (hdr.mono hB0.size);refine wp_region_held_drew (S:=(fun W=>W.cell? ⟨w.heap.size,0,none⟩=some (.slice h.oa h.os.length h.ocap)∧W.cell? ⟨w.heap.size,1,none⟩=some (.slice h.ra h.rs.length h.rcap)∧W.cell? ⟨w.heap.size,2,none⟩=some (.slice h.wa h.ws.length h.wcap)∧W.cell? ⟨w.heap.size,3,none⟩=some (.slice h.da h.ds.length h.dcap))) (by kernel_rfl) (Qu hK0d) (fun hHeld=>?_);have hS:(fun W=>W.cell? ⟨w.heap.size,0,none⟩=some (.slice h.oa h.os.length h.ocap)∧W.cell? ⟨w.heap.size,1,none⟩=some (.slice h.ra h.rs.length h.rcap)∧W.cell? ⟨w.heap.size,2,none⟩=some (.slice h.wa h.ws.length h.wcap)∧W.cell? ⟨w.heap.size,3,none⟩=some (.slice h.da h.ds.length h.dcap)) W0.drew:=Qu hK0d;generalize hW1:W0.drew=W1 at hK0d hR0d hB0d hS⊢;clear hW1 hHeld hdr;refine tk 1 6 rfl rfl hS ?_;simp only[QhT,QhU,QhV];refine tk 2 7 rfl rfl hS ?_;simp only[QhT,QhU,QhV];refine tk 5 10 rfl rfl hS ?_;simp only[QhT,QhU,QhV];refine tk 6 11 rfl rfl hS ?_;simp only[QhT,QhU,QhV];refine tk 9 14 rfl rfl hS ?_;simp only[QhT,QhU,QhV];refine tk 10 15 rfl rfl hS ?_;simp only[QhT,QhU,QhV];refine QhO (fun l a W=>∃s:ZR,l=s.arr∧a=YD h w.heap.size s∧CpW w h s W) ?hS ?step ?done _ _ _ _ (by decide) ⟨⟨false,false,false,false,false,false,false,false,false,undef,undef,undef,undef,undef,undef,undef,undef⟩,rfl,rfl,?start⟩
  case start=>
   exact⟨hB0d,hK0d,hR0d,fun e=>by simp at e,fun e=>by simp at e,fun e=>by simp at e,fun e=>by simp at e,fun e=>by simp at e,fun e=>by simp at e,fun e=>by simp at e,fun e=>by simp at e,fun e=>by simp at e,fun e=>by simp at e,fun e=>by simp at e,fun e=>by simp at e,fun e=>by simp at e,fun e=>by simp at e,fun e=>by simp at e,fun e=>by simp at e⟩
  case hS=>
   rintro l a W ⟨s,rfl,rfl,c⟩;exact Qu c.bh
  case step=>
   rintro l a W i o ⟨s,rfl,rfl,c⟩ hi' ho haf K hK;have hlt:i<15:=(Array.getElem?_eq_some_iff.1 ho).1;obtain⟨b0,b3,b4,b7,b8,b11,b12,b13,b14,s3,s5,s8,s9,s12,s13,s16,s17⟩:=s;rcases(show i=0∨i=1∨i=2∨i=3∨i=4∨i=5∨i=6∨i=7∨i=8∨i=9∨i=10∨i=11∨i=12∨i=13∨i=14 by omega)with rfl|rfl|rfl|rfl|rfl|rfl|rfl|rfl|rfl|rfl|rfl|rfl|rfl|rfl|rfl
   all_goals
    simp only[List.getElem?_toArray,List.getElem?_cons_zero,List.getElem?_cons_succ,Option.some.injEq]at ho;subst ho;simp[ZR.arr,Region.binds]at hi' haf
   ·
    subst hi'
    have hb:b3=false:=by
     cases e:b3 with
     |false=>rfl
     |true=>have:=c.o30 e;simp at this
    simp only[YD];go_simp;refine hK.out _ _ ⟨_,?_,?_,c.s0 hb⟩<;>rfl
   ·
    subst hi';refine U4 _ rfl _ _ 24 rfl w.heap.size 3 i0 (.int .i64 0) 1 8 ((Cut.under_eq 24).trans Tryz.underlying24) hi hz0 hz1 hz2 rfl (by decide) s5 0 [] rfl (c.f0 haf rfl) h.ra h.rs.length h.rcap (h.rs.map (QhX .i64)) rfl (by simp) ((hh.sr.below c.be (QhW _)).src) (UT _) (by have:=hs.r;unfold maxLen;omega) (by have:=hs.r;omega) c.be.size ?_;intro v' w' hown hgr hat;refine hK.out _ _ ⟨_,?_,?_,c.s3_ rfl haf v' (by unfold Qa;simpa using hown) hgr⟩<;>rfl
   ·
    subst hi'
    have hb:b7=false:=by
     cases e:b7 with
     |false=>rfl
     |true=>have:=c.o74 e;simp at this
    simp only[YD];go_simp;refine hK.out _ _ ⟨_,?_,?_,c.s4 hb⟩<;>rfl
   ·
    subst hi';refine U4 _ rfl _ _ 25 rfl w.heap.size 40 j0 _ 2 16 ((Cut.under_eq 25).trans Tryz.underlying25) hj hy0 hy1 hy2 rfl (by decide) s9 0 [] rfl (c.f4 haf.1 rfl) h.wa h.ws.length h.wcap (h.ws.flatMap wc) rfl (JY wc 2 (fun _=>rfl) _) ((hh.sw.below c.be (QhW _)).src) (JU _) (by have:=hs.w;unfold maxLen;omega) (by have:=hs.w;omega) c.be.size ?_;intro v' w' hown hgr hat;refine hK.out _ _ ⟨_,?_,?_,c.s7_ rfl haf.1 v' (by unfold Qe;simpa using hown) hgr hat⟩<;>rfl
   ·
    subst hi'
    have hb:b11=false:=by
     cases e:b11 with
     |false=>rfl
     |true=>have:=(c.o118 e).1;simp at this
    simp only[YD];go_simp;refine hK.out _ _ ⟨_,?_,?_,c.s8_ hb⟩<;>rfl
   ·
    subst hi';refine U4 _ rfl _ _ 25 rfl w.heap.size 40 j0 _ 2 16 ((Cut.under_eq 25).trans Tryz.underlying25) hj hy0 hy1 hy2 rfl (by decide) s13 0 [] rfl (c.f8 haf.1 rfl) h.da h.ds.length h.dcap (h.ds.flatMap wc) rfl (JY wc 2 (fun _=>rfl) _) ((hh.sd.below c.be (QhW _)).src) (JU _) (by have:=hs.d;unfold maxLen;omega) (by have:=hs.d;omega) c.be.size ?_;intro v' w' hown hgr hat;refine hK.out _ _ ⟨_,?_,?_,c.s11_ rfl haf.1 haf.2 v' (by unfold Qe;simpa using hown) hgr hat⟩<;>rfl
   ·
    subst hi';obtain⟨a8,c8,e8,-⟩:=(c.f3 haf.1).form;obtain⟨a12,c12,e12,-⟩:=(c.f7 haf.2.1).form;obtain⟨a16,c16,e16,-⟩:=(c.f11 haf.2.2).form;dsimp only at e8 e12 e16;subst e8 e12 e16;have k:=c.s12_ haf.1 haf.2.1 haf.2.2;simp only[YD];go_simp;refine hK.out _ _ ⟨_,?_,?_,k⟩<;>rfl
   ·
    subst hi'
    have hb:b14=false:=by
     cases e:b14 with
     |false=>rfl
     |true=>have:=(c.o14 e).2;simp at this
    simp only[YD];go_simp;refine hK.out _ _ ⟨_,?_,?_,c.s13_ hb⟩<;>rfl
   ·
    subst hi';obtain⟨h13,h12,h11,-,h3,-,h7,-⟩:=haf;have e17:=c.f12 h12;obtain⟨g,e3,e3b,e3c⟩:=c.f13 h13;obtain⟨a8,c8,e8,-⟩:=(c.f3 h3).form;obtain⟨a12,c12,e12,-⟩:=(c.f7 h7).form;obtain⟨a16,c16,e16,-⟩:=(c.f11 h11).form;dsimp only at e17 e3 e8 e12 e16 e3c;subst e8 e12 e16;subst e17 e3;simp only[Bool.false_eq_true,if_false]at e3c;obtain⟨r0,r1,r2,r3⟩:=Qb e3c;obtain⟨f0,f1,f2,f3⟩:=Qo e3c;have k:=c.s14_ rfl h12 h13 rfl;simp only[YD];go_simp;refine hK.out _ _ ⟨_,?_,?_,k⟩<;>rfl
  case done=>
   rintro l a W ⟨s,rfl,rfl,c⟩ hr;obtain⟨b0,b3,b4,b7,b8,b11,b12,b13,b14,s3,s5,s8,s9,s12,s13,s16,s17⟩:=s;have q0:=Yq hr (i:=0) rfl (by simp);have q4:=Yq hr (i:=4) rfl (by simp);have q8:=Yq hr (i:=8) rfl (by simp);have q13:=Yq hr (i:=13) rfl (by simp);simp[ZR.arr]at q0 q4 q8 q13;subst q0 q4 q8 q13;have q3:=Yq hr (i:=3) rfl (by simp[ZR.arr]);simp[ZR.arr]at q3;subst q3;have q7:=Yq hr (i:=7) rfl (by simp[ZR.arr]);simp[ZR.arr]at q7;subst q7;have q11:=Yq hr (i:=11) rfl (by simp[ZR.arr]);simp[ZR.arr]at q11;subst q11;have q12:=Yq hr (i:=12) rfl (by simp[ZR.arr]);simp[ZR.arr]at q12;subst q12;have q14:=Yq hr (i:=14) rfl (by simp[ZR.arr]);simp[ZR.arr]at q14;subst q14;obtain⟨g,e3,e3b,e3c⟩:=c.f13 rfl;dsimp only at e3 e3c;subst e3;simp only[if_true]at e3c;have hM:PS w h W g s8 s12 s16:=⟨c.be,c.bh,c.br,e3c,e3b,c.f3 rfl,c.f7 rfl,c.f11 rfl,c.d711 rfl rfl⟩;simp only[YD];go_wp2_with fail;go_meet
   case rel=>exact⟨g,s8,s12,s16,rfl,hM⟩
 case rest=>
  obtain⟨g,s8,s12,s16,rfl,hM⟩:=hcut;have H0:Ub w h wc.heap.size g s8 s12 s16 wc [] (.slice none 0 0) ((h.os.take 0).map Ob.p):=⟨rfl,hM.bx,hM.ge,World.ownsRow_nil _ _ _ _,QN.nil _ _,hM.be,QhW _,hM.be.size,hM.bh,hM.br,hM.o8,fun k e=>(hM.o8.lt k e).2,hM.o12,hM.o16,hM.ap⟩;generalize wc.heap.size=m at H0;clear hM hdr hB0 hK0 hR0;go_wp2;go_loopw [4] (fun i wr=>∃(k:Nat) (l:List Ob) (vo:Value),k≤h.os.length∧i=.int .i64 k∧Ub w h m g s8 s12 s16 wr l vo ((h.os.take k).map Ob.p)) (fun i _=>h.os.length-(intOf i).toNat)
  case atStart=>exact⟨0,[],_,Nat.zero_le _,rfl,H0⟩
  case round=>
   obtain⟨k,l,vo,hk,rfl,H⟩:=hrel;clear H0;obtain⟨x0,x1,x2,x3⟩:=Qu H.bh;by_cases hlt:k<h.os.length
   ·have hb:=H.be;have hbs:=hb.size
    have hll:l.length≤k:=by
     have:=congrArg List.length H.mp;simp[Nat.min_eq_left hk]at this;omega
    obtain⟨b,off,eo,hbo,e1,e2,e3⟩:=hh.so.get hlt
    have HF:Hid ((h.os.take (k+1)).map Ob.p=(h.os.take k).map Ob.p++ [h.os[k].p]):=by
     show _=_;rw[List.take_succ_eq_append_getElem hlt,List.map_append];rfl
    have sr:=(hh.so.2 k hlt).below hb.drew (QhW _);have hrl1:=hs.oo k hlt;have hi1:(k:Int)<(h.os.length:Int):=by omega
    have HLT:Hid (k<h.os.length):=hlt;have HBH:=H.bh;rw[eo]at HBH;generalize hOA:h.oa=OA at eo x0⊢;clear hOA;subst eo;generalize h.os[k]=o at *;obtain⟨k0,t0,ra0,rc0,r0⟩:=o;dsimp only at *;obtain⟨va,vcap,rfl,-,-⟩:=H.ob.form;have c1:=K5 ⟨k0,t0,ra0,rc0,r0⟩ wr.drew sr hrl1;dsimp only at c1;have hdr:Below wr.heap.size wr wr.drew:=(Below.refl _ _).drew
    have HC:Hid (∀w2,Below wr.drew.heap.size wr.drew w2→w2.cell? ⟨g,0,none⟩=some (.slice va l.length vcap)∧(w2.cell? ⟨w.heap.size,0,none⟩=some (.slice (some ⟨b,off,none⟩) h.os.length h.ocap)∧w2.cell? ⟨b,off+k*3,none⟩=some (.int .i64 k0)∧w2.cell? ⟨b,off+k*3+1,none⟩=some (.string t0)∧w2.cell? ⟨b,off+k*3+2,none⟩=some (.slice ra0 r0.length rc0))):=fun w2 hb2=>by
     have hb2':Below wr.heap.size wr w2:=hdr.trans hb2;have hbo':b<wr.heap.size:=Nat.lt_of_lt_of_le hbo hbs;have hbw2:=hb.trans (hb2'.mono hb.size);exact⟨(hb2'.cell (p:=⟨g,0,none⟩) H.bx.lt).trans (H.bx.cell 0),(HBH.step hb2').cell 0,(hbw2.cell (p:=⟨b,off+k*3,none⟩) hbo).trans e1,(hbw2.cell (p:=⟨b,off+k*3+1,none⟩) hbo).trans e2,(hbw2.cell (p:=⟨b,off+k*3+2,none⟩) hbo).trans e3⟩
    have HV:Hid (∀w2 a' c',Below wr.drew.heap.size wr.drew w2→(w2.alloc (QhS #[.int .i64 k0,.string t0,.slice a' r0.length c'] 37)).ownsRow m 37 3 (.slice va l.length vcap) l.length (l.flatMap Ob.cs)∧m≤(w2.alloc (QhS #[.int .i64 k0,.string t0,.slice a' r0.length c'] 37)).heap.size∧(w2.alloc (QhS #[.int .i64 k0,.string t0,.slice a' r0.length c'] 37)).cell? ⟨g,0,none⟩=some (.slice va l.length vcap)∧((w2.alloc (QhS #[.int .i64 k0,.string t0,.slice a' r0.length c'] 37)).cell? ⟨w.heap.size,0,none⟩=some (.slice (some ⟨b,off,none⟩) h.os.length h.ocap)∧(w2.alloc (QhS #[.int .i64 k0,.string t0,.slice a' r0.length c'] 37)).cell? ⟨b,off+k*3,none⟩=some (.int .i64 k0)∧(w2.alloc (QhS #[.int .i64 k0,.string t0,.slice a' r0.length c'] 37)).cell? ⟨b,off+k*3+1,none⟩=some (.string t0)∧(w2.alloc (QhS #[.int .i64 k0,.string t0,.slice a' r0.length c'] 37)).cell? ⟨b,off+k*3+2,none⟩=some (.slice ra0 r0.length rc0))):=fun w2 a' c' hb2=>by
     have hb2':Below wr.heap.size wr w2:=hdr.trans hb2;have hA2:Below w2.heap.size w2 (w2.alloc (QhS #[.int .i64 k0,.string t0,.slice a' r0.length c'] 37)):=(Below.refl _ _).alloc (QhW _) _;have hbb:Below wr.heap.size wr (w2.alloc (QhS #[.int .i64 k0,.string t0,.slice a' r0.length c'] 37)):=hb2'.trans (hA2.mono hb2'.size);have hbw2:=hb.trans (hbb.mono hb.size);exact⟨H.ob.below hbb (QhW _),Nat.le_trans H.sz hbb.size,(hbb.cell (p:=⟨g,0,none⟩) H.bx.lt).trans (H.bx.cell 0),(HBH.step hbb).cell 0,(hbw2.cell (p:=⟨b,off+k*3,none⟩) hbo).trans e1,(hbw2.cell (p:=⟨b,off+k*3+1,none⟩) hbo).trans e2,(hbw2.cell (p:=⟨b,off+k*3+2,none⟩) hbo).trans e3⟩
    have HE:Hid (∀w2 a' c' q cap w3,Below wr.drew.heap.size wr.drew w2→Qa w2 wr.drew.heap.size (.slice a' r0.length c') r0→w3.ownsRow m 37 3 (.slice (some ⟨q,0,none⟩) (l.length+1) cap) (l.length+1) (l.flatMap Ob.cs++ [.int .i64 k0,.string t0,.slice a' r0.length c'])→(w2.alloc (QhS #[.int .i64 k0,.string t0,.slice a' r0.length c'] 37)).grownBy w3 (QhR va l.length vcap).ownBlock→
     (Ub w h m g s8 s12 s16 (w3.setCell ⟨g,0,none⟩ (.slice (some ⟨q,0,none⟩) (l.length+1) cap)) (l++ [⟨k0,t0,a',c',r0⟩]) (.slice (some ⟨q,0,none⟩) (l.length+1) cap) ((h.os.take (k+1)).map Ob.p))∧(w3.cell? ⟨g,0,none⟩=some (.slice va l.length vcap)∧w3.frozen? ⟨g,0,none⟩=false∧(w3.cell? ⟨w.heap.size,0,none⟩=some (.slice (some ⟨b,off,none⟩) h.os.length h.ocap)∧w3.cell? ⟨b,off+k*3,none⟩=some (.int .i64 k0)∧w3.cell? ⟨b,off+k*3+1,none⟩=some (.string t0)∧w3.cell? ⟨b,off+k*3+2,none⟩=some (.slice ra0 r0.length rc0)))∧((w3.setCell ⟨g,0,none⟩ (.slice (some ⟨q,0,none⟩) (l.length+1) cap)).cell? ⟨w.heap.size,0,none⟩=some (.slice (some ⟨b,off,none⟩) h.os.length h.ocap)∧(w3.setCell ⟨g,0,none⟩ (.slice (some ⟨q,0,none⟩) (l.length+1) cap)).cell? ⟨b,off+k*3,none⟩=some (.int .i64 k0)∧(w3.setCell ⟨g,0,none⟩ (.slice (some ⟨q,0,none⟩) (l.length+1) cap)).cell? ⟨b,off+k*3+1,none⟩=some (.string t0)∧(w3.setCell ⟨g,0,none⟩ (.slice (some ⟨q,0,none⟩) (l.length+1) cap)).cell? ⟨b,off+k*3+2,none⟩=some (.slice ra0 r0.length rc0))):=fun w2 a' c' q cap w3 hb2 ho2 hown hgr=>by
     have hb2':Below wr.heap.size wr w2:=hdr.trans hb2;obtain⟨q0,q1,q2,q3,q4,q5,q6⟩:=HV.out w2 a' c' hb2;have HN:=H.next ⟨k0,t0,a',c',r0⟩ hb2' ho2 q cap hown hgr;rw[HF.out];have hA2:Below w2.heap.size w2 (w2.alloc (QhS #[.int .i64 k0,.string t0,.slice a' r0.length c'] 37)):=(Below.refl _ _).alloc (QhW _) _;have hbb:Below wr.heap.size wr (w2.alloc (QhS #[.int .i64 k0,.string t0,.slice a' r0.length c'] 37)):=hb2'.trans (hA2.mono hb2'.size);have bxA:=H.bx.step hbb;have bx3:=bxA.grown hgr (Qs q0 bxA (by decide));have bhA:=HBH.step hbb;have bh3:=bhA.grown hgr (Qs q0 bhA (by decide));have hge:=H.ge;have hneb:some b≠(QhR va l.length vcap).ownBlock:=fun e=>by have:=(H.ob.lt b e.symm).1;have:=H.bm;omega
     have hbl:b<(w2.alloc (QhS #[.int .i64 k0,.string t0,.slice a' r0.length c'] 37)).heap.size:=by have:=hbb.size;omega
     have t1:=(hgr.cell_far ⟨b,off+k*3,none⟩ hbl hneb).trans q4;have t2:=(hgr.cell_far ⟨b,off+k*3+1,none⟩ hbl hneb).trans q5;have t3:=(hgr.cell_far ⟨b,off+k*3+2,none⟩ hbl hneb).trans q6
     have sc:∀(p:Addr) (u:Value),p.block≠g→w3.cell? p=some u→(w3.setCell ⟨g,0,none⟩ (.slice (some ⟨q,0,none⟩) (l.length+1) cap)).cell? p=some u:=fun p u hp hc=>by
      rw[World.cell?_of_block (Below.heap_setCell _ _ _ _ hp)];exact hc
     have hbg:b≠g:=by omega
     have hwg:w.heap.size≠g:=by omega
     exact⟨HN,⟨bx3.cell 0,bx3.free 0,bh3.cell 0,t1,t2,t3⟩,sc _ _ hwg (bh3.cell 0),sc _ _ hbg t1,sc _ _ hbg t2,sc _ _ hbg t3⟩
    have hone:∀a' c',∀u∈[QhX .i64 k0,.string t0,.slice a' r0.length c'],u.oneCell'=true:=fun a' c'=>Ob.one ⟨k0,t0,a',c',r0⟩;have hnw:∀(w2:World) a' c',∀j u,[QhX .i64 k0,.string t0,.slice a' r0.length c'][j]? =some u→(w2.alloc (QhS #[.int .i64 k0,.string t0,.slice a' r0.length c'] 37)).cell? ((⟨w2.heap.size,0,none⟩:Addr).add j)=some u:=fun w2 a' c'=>Uz ⟨k0,t0,a',c',r0⟩ _;have hl3:l.length+1≤maxLen:=by have:=hs.o;unfold maxLen;omega
    have hl4:(l.length+1)*48≤140737488355328:=by have:=hs.o;omega
    have x0d:wr.drew.cell? ⟨g,0,none⟩=some (.slice va l.length vcap):=H.bx.cell 0;have hS:(wr.drew.cell? ⟨w.heap.size,0,none⟩=some (.slice (some ⟨b,off,none⟩) h.os.length h.ocap)∧wr.drew.cell? ⟨b,off+k*3,none⟩=some (.int .i64 k0)∧wr.drew.cell? ⟨b,off+k*3+1,none⟩=some (.string t0)∧wr.drew.cell? ⟨b,off+k*3+2,none⟩=some (.slice ra0 r0.length rc0)):=⟨x0,(hb.cell (p:=⟨b,off+k*3,none⟩) hbo).trans e1,(hb.cell (p:=⟨b,off+k*3+1,none⟩) hbo).trans e2,(hb.cell (p:=⟨b,off+k*3+2,none⟩) hbo).trans e3⟩;have HLL:Hid (l.length≤k):=hll;clear sr H hb HBH hdr e1 e2 e3 hll;go_wp2_with fail;refine wp_region_held_drew (S:=(fun w'=>(w'.cell? ⟨w.heap.size,0,none⟩=some (.slice (some ⟨b,off,none⟩) h.os.length h.ocap)∧w'.cell? ⟨b,off+k*3,none⟩=some (.int .i64 k0)∧w'.cell? ⟨b,off+k*3+1,none⟩=some (.string t0)∧w'.cell? ⟨b,off+k*3+2,none⟩=some (.slice ra0 r0.length rc0)))) (by kernel_rfl) hS (fun hHeld=>?_);clear hHeld;refine tk 0 25 rfl rfl hS ?_;simp only[QhT,QhU,QhV];refine tk 2 27 rfl rfl hS ?_;simp only[QhT,QhU,QhV];refine tk 3 28 rfl rfl hS ?_;simp only[QhT,QhU,QhV];refine tk 4 29 rfl rfl hS ?_;simp only[QhT,QhU,QhV];refine tk 5 30 rfl rfl hS ?_;simp only[QhT,QhU,QhV];refine tk 6 31 rfl rfl hS ?_;simp only[QhT,QhU,QhV];refine wpAnyH_ready (rs:=[1,7]) (by kernel_rfl) (by simp) ?_;refine AllReadyH.cons (o:=_) rfl (fun K hK=>?ld) (AllReadyH.cons (o:=_) rfl (fun K hK=>?cl) AllReadyH.nil)
    case' cl=>
     go_simp;refine c1.mono ?_;rintro e w2 ⟨a',c',rfl,ho2,hb2⟩;obtain⟨p0,p1⟩:=HC.out w2 hb2;obtain⟨hvA,hszA,p4,p5⟩:=HV.out w2 a' c' hb2;go_wp2_with fail;refine hK.out _ _ p1 (fun _=>?_);clear hK K
     try simp only[Act.put,QhT,QhU,QhV]
     refine wpAnyH_ready (rs:=[1,8]) (by kernel_rfl) (by simp) ?_;refine AllReadyH.cons (o:=_) rfl (fun K hK=>?l1) (AllReadyH.cons (o:=_) rfl (fun K hK=>?b1) AllReadyH.nil)
    case' l1=>
     go_simp;refine hK.out _ _ p1 (fun _=>?_);clear hK K
     try simp only[Act.put,QhT,QhU,QhV]
     refine wpAnyH_ready (rs:=[8]) (by kernel_rfl) (by simp) ?_;refine AllReadyH.cons (o:=_) rfl (fun K hK=>?_) AllReadyH.nil;go_simp;refine hK.out _ _ p5 (fun _=>?_);clear hK K
     try simp only[Act.put,QhT,QhU,QhV]
    case' b1=>
     go_simp;refine hK.out _ _ p5 (fun _=>?_);clear hK K
     try simp only[Act.put,QhT,QhU,QhV]
     refine wpAnyH_ready (rs:=[1]) (by kernel_rfl) (by simp) ?_;refine AllReadyH.cons (o:=_) rfl (fun K hK=>?_) AllReadyH.nil;go_simp;refine hK.out _ _ p5 (fun _=>?_);clear hK K
     try simp only[Act.put,QhT,QhU,QhV]
    case' ld=>
     go_simp;refine hK.out _ _ hS (fun _=>?_);clear hK K
     try simp only[Act.put,QhT,QhU,QhV]
     refine wpAnyH_ready (rs:=[7]) (by kernel_rfl) (by simp) ?_;refine AllReadyH.cons (o:=_) rfl (fun K hK=>?_) AllReadyH.nil;go_simp;refine c1.mono ?_;rintro e w2 ⟨a',c',rfl,ho2,hb2⟩;obtain⟨p0,p1⟩:=HC.out w2 hb2;obtain⟨hvA,hszA,p4,p5⟩:=HV.out w2 a' c' hb2;go_wp2_with fail;refine hK.out _ _ p1 (fun _=>?_);clear hK K
     try simp only[Act.put,QhT,QhU,QhV]
     refine wpAnyH_ready (rs:=[8]) (by kernel_rfl) (by simp) ?_;refine AllReadyH.cons (o:=_) rfl (fun K hK=>?_) AllReadyH.nil;go_simp;refine hK.out _ _ p5 (fun _=>?_);clear hK K
     try simp only[Act.put,QhT,QhU,QhV]
    all_goals
     refine wpAnyH_ready (rs:=[9]) (by kernel_rfl) (by simp) ?_;refine AllReadyH.cons (o:=_) rfl (fun K hK=>?_) AllReadyH.nil;refine step_append_lies _ rfl _ _ 23 rfl m 37 n0 _ 3 48 ((Cut.under_eq 23).trans Tryz.underlying23) hn hx0 hx1 hx2 rfl (by decide) _ _ _ rfl hvA ⟨w2.heap.size,0,none⟩ 1 1 [.int .i64 k0,.string t0,.slice a' r0.length c'] rfl rfl (hnw _ _ _) (hone _ _) (by decide) hl3 hl4 hszA _ rfl ?_;intro q cap w3 hown3 hgrow hat hlt3;obtain⟨hEnd,⟨s1,s2,s3⟩,s4⟩:=HE.out w2 a' c' q cap w3 hb2 ho2 hown3 hgrow;refine hK.out _ _ s3 (fun _=>?_);clear hK K;simp only[Act.put,List.getElem_toArray,List.getElem_cons_zero,List.getElem_cons_succ,QhT,QhU,QhV];refine tk 10 35 rfl rfl s3 ?_;simp only[QhT,QhU,QhV];refine wpAnyH_ready (rs:=[11]) (by kernel_rfl) (by simp) ?_;refine AllReadyH.cons (o:=_) rfl (fun K hK=>?_) AllReadyH.nil;go_simp;refine hK.out _ _ s4 (fun _=>?_);clear hK K
     try simp only[Act.put]
     refine wpAnyH_done (by kernel_rfl) ?_ _;clear hown3 hgrow hat hvA HE HV HC c1;go_wp2;go_roundw
     case rel=>exact⟨k+1,_,_,by have:=HLT.out;omega,by go_num,hEnd⟩
     case measure=>have:=HLT.out;simp[intOf];omega
   ·have ek:h.os.take k=h.os:=List.take_of_length_le (by omega);rw[ek]at H;clear ek;obtain⟨va,vcap,rfl,-,-⟩:=H.ob.form;obtain⟨a8,c8,e8,-⟩:=H.o8.form;obtain⟨a12,c12,e12,-⟩:=H.o12.form;obtain⟨a16,c16,e16,-⟩:=H.o16.form;subst e8 e12 e16;obtain⟨y0,y1,y2,y3⟩:=Qb H.bx;obtain⟨r0,r1,r2,r3⟩:=Qb H.br;obtain⟨f0,f1,f2,f3⟩:=Qo H.br
    have hOQ:Qk wr w.heap.size ⟨va,vcap,l,a8,c8,h.rs,a12,c12,h.ws,a16,c16,h.ds⟩:=by
     refine⟨H.ob.base H.bm,fun i hi=>(H.rs.own i hi).base H.bm,fun i j hi hj hij=>?_,H.o8,fun i hi q hq e=>?_,H.o12,H.o16,H.ap⟩
     ·rcases Nat.lt_or_gt_of_ne hij with hlt'|hlt'
      ·intro q hq e;have:=H.rs.inc i j hi hj hlt' q q hq e;omega
      ·intro q hq e;have:=H.rs.inc j i hj hi hlt' q q e hq;omega
     ·have:=(H.rs.lt i hi q hq).1;have:=H.l8 q e;omega
    obtain⟨kq,bq⟩:=QR H.br (.slice va l.length vcap) (.slice a8 h.rs.length c8) (.slice a12 h.ws.length c12) (.slice a16 h.ds.length c16);have hOQ':=hOQ.keep kq;have hBQ:=ZS H.be (C:=w.heap.size+1) (by omega) (.slice va l.length vcap) (.slice a8 h.rs.length c8) (.slice a12 h.ws.length c12) (.slice a16 h.ds.length c16);obtain⟨z0,z1,z2,z3⟩:=Qb bq;have HMP:Hid (l.map Ob.p=h.os.map Ob.p):=H.mp;clear kq bq hOQ H;go_wp2;refine bodyPost_ret (v:=.agg #[.slice va l.length vcap,.slice a8 h.rs.length c8,.slice a12 h.ws.length c12,.slice a16 h.ds.length c16]) ?_ rfl ⟨⟨va,vcap,l,a8,c8,h.rs,a12,c12,h.ws,a16,c16,h.ds⟩,rfl,?_,hOQ',hBQ⟩
    ·simp[results,Tryz.results35,go_sem,z0,z1,z2,z3]
    ·simp only[Hp.p,HMP.out]
def rootP (rs:List Int)(k:Int):Int:=if 0≤k then(rs[k.toNat]?).getD (-1)else-1
theorem QaQ {rs:List Int}{k:Int}(h0:0≤k)(h1:k.toNat<rs.length):rootP rs k=rs[k.toNat]:=by
 simp[rootP,h0,List.getElem?_eq_getElem h1]
theorem QaR {rs:List Int}{k:Int}(h:¬(0≤k∧k<rs.length)):rootP rs k= -1:=by
 unfold rootP;split
 ·rw[List.getElem?_eq_none (by omega)];rfl
 ·rfl
theorem U2 {rs:List Int}{n:Int}(h:∀z∈rs,-1≤z∧z<n)(hn:0≤n)(k:Int):-1≤rootP rs k∧rootP rs k<n:=by
 by_cases hk:0≤k∧k<rs.length
 ·rw[QaQ hk.1 (by omega)];exact h _ (List.getElem_mem _)
 ·rw[QaR hk];omega
theorem Uw (h:Hp)(k:Int)(w:World)(hr:Qi w h.ra h.rs)(hl:h.rs.length≤1048576):
 Calls Cut.prog 124 #[h.v,.int .i64 k] w fun e w'=>e=.returned (.int .i64 (rootP h.rs k))∧Below w.heap.size w w':=by
 have hB0:Below w.heap.size w (w.alloc (QhS #[QhR h.oa h.os.length h.ocap,QhR h.ra h.rs.length h.rcap,QhR h.wa h.ws.length h.wcap,QhR h.da h.ds.length h.dcap] 27)):=(Below.refl _ _).alloc (QhW _) _;by_cases hk:0≤k∧k<h.rs.length
 ·have hin:inB k 0 ((h.rs.length:Int)-1)=true:=by simp[inB];omega
  have hlt:k.toNat<h.rs.length:=by omega
  obtain⟨b,off,eo,hb,e1⟩:=hr.get hlt;have d1:=(hB0.cell (p:=⟨b,off+k.toNat,none⟩) hb).trans e1;have HR:Hid (rootP h.rs k=h.rs[k.toNat]):=QaQ hk.1 hlt;have hk0:=hk.1;have hk1:=hk.2;clear hk;go_enter (Cut.func_of Tryz.func124 rfl),Tryz.ntmps124;simp only[Hp.v];generalize h.ra=RA at eo d1 hB0⊢;subst eo;go_wp2_with fail;refine(Ym _ _ _ _).mono ?_;rintro e w1 ⟨rfl,rfl⟩;go_wp2;go_ret;exact⟨VS HR.out.symm,hB0⟩
 ·have hin:inB k 0 ((h.rs.length:Int)-1)=false:=by
   rw[Bool.eq_false_iff];intro e;simp[inB]at e;omega
  have HR:Hid (rootP h.rs k= -1):=QaR hk;clear hk;go_enter (Cut.func_of Tryz.func124 rfl),Tryz.ntmps124;simp only[Hp.v];go_wp2_with fail;refine(Ym _ _ _ _).mono ?_;rintro e w1 ⟨rfl,rfl⟩;go_wp2;go_ret;exact⟨VS HR.out.symm,hB0⟩
theorem VE (h:Hp)(x:Int)(w:World)(hh:ZE w h.oa h.os)(hl:∀i (hi:i<h.os.length),h.os[i].r.length≤1048576)(hx:x<h.os.length):
 Calls Cut.prog 123 #[h.v,.int .i64 x] w fun e w'=>∃s:ByteArray,e=.returned (.string s)∧Below w.heap.size w w':=by
 have hB0:Below w.heap.size w (w.alloc (QhS #[QhR h.oa h.os.length h.ocap,QhR h.ra h.rs.length h.rcap,QhR h.wa h.ws.length h.wcap,QhR h.da h.ds.length h.dcap] 27)):=(Below.refl _ _).alloc (QhW _) _;by_cases h0:x<0
 ·go_enter (Cut.func_of Tryz.func123 rfl),Tryz.ntmps123;simp only[Hp.v];go_wp2;go_ret;exact⟨_,rfl,hB0⟩
 ·have hx0:0≤x:=by omega
  have hlt:x.toNat<h.os.length:=by omega
  obtain⟨b,off,eo,hb,e1,e2,e3⟩:=hh.get hlt;have d1:=(hB0.cell (p:=⟨b,off+x.toNat*3,none⟩) hb).trans e1;have d2:=(hB0.cell (p:=⟨b,off+x.toNat*3+1,none⟩) hb).trans e2;have d3:=(hB0.cell (p:=⟨b,off+x.toNat*3+2,none⟩) hb).trans e3;have hr1:=hl _ hlt;have hA:=hB0.alloc hB0.size (QhS #[QhX .i64 h.os[x.toNat].k,Value.string h.os[x.toNat].t,QhR h.os[x.toNat].ra h.os[x.toNat].r.length h.os[x.toNat].rcap] 37);clear e1 e2 e3 h0;go_enter (Cut.func_of Tryz.func123 rfl),Tryz.ntmps123;simp only[Hp.v];generalize h.oa=OA at eo d1 d2 d3 hB0 hA⊢;subst eo;generalize h.os[x.toNat]=o at *;obtain⟨k0,t0,ra0,rc0,r0⟩:=o;dsimp only at *;by_cases k1:k0=1
  ·subst k1;go_wp2;go_ret;exact⟨_,rfl,hA⟩
  have n1:(k0 ==1)=false:=by simp[k1]
  by_cases k2:k0=2
  ·subst k2;have hcv:=QcK ((48+(r0.length:Int))%256) ((w.alloc (QhS #[QhR (some ⟨b,off,none⟩) h.os.length h.ocap,QhR h.ra h.rs.length h.rcap,QhR h.wa h.ws.length h.wcap,QhR h.da h.ds.length h.dcap] 27)).alloc (QhS #[QhX .i64 2,Value.string t0,QhR ra0 r0.length rc0] 37));simp only[World.size_alloc]at hcv;go_wp2;go_ret;exact⟨_,rfl,hA.alloc hA.size _⟩
  have n2:(k0 ==2)=false:=by simp[k2]
  by_cases k3:k0=3
  ·subst k3;go_wp2;go_ret;exact⟨_,rfl,hA⟩
  have n3:(k0 ==3)=false:=by simp[k3]
  clear k1 k2 k3;go_wp2;go_ret;exact⟨_,rfl,hA⟩
structure OkC (h:Hp):Prop where
 n60:h.os.length≤60
 r8:h.rs.length≤8
 w20:h.ws.length+h.ds.length≤20
 ob:∀i (hi:i<h.os.length),Qt h.os.length h.os[i].p=true
 ro:∀z∈h.rs,-1≤z∧z<h.os.length
 wo:∀p∈h.ws,Qn (h.os.map Ob.p) p=true
 dd:∀p∈h.ds,Qn (h.os.map Ob.p) p=true
theorem YZ {h:Hp}(hok:okP h.p=true):OkC h:=by
 obtain⟨h1,h2,h3,h4,h5,h6,h7⟩:=ZP hok;exact⟨h1,h2,h3,h4,JT h5,h6,h7⟩
theorem Yo {h:Hp}(c:OkC h):okP h.p=true:=by
 rw[VL c.n60 c.r8 c.w20];simp only[Bool.and_eq_true];refine⟨?_,?_,?_,?_⟩
 ·rw[QhY];intro x hx;obtain⟨i,hi,rfl⟩:=List.getElem_of_mem hx;exact c.ob i hi
 ·unfold Q2;rw[QhY];intro z hz;have:=c.ro z hz;simp[inB];omega
 ·rw[QhY];exact c.wo
 ·rw[QhY];exact c.dd
theorem OkC.kind {h:Hp}(c:OkC h)(i:Nat)(hi:i<h.os.length):h.os[i].r.length≤6∧h.os[i].t.size≤12:=by
 have h1:=c.ob i hi;simp only[Qt,Ob.p,Bool.and_eq_true]at h1;have h2:=h1.2;unfold QU at h2;split at h2
 ·simp only[Zr,Bool.and_eq_true,decide_eq_true_eq]at h2;omega
 split at h2
 ·simp only[Bool.and_eq_true,decide_eq_true_eq]at h2;omega
 split at h2
 ·simp only[Bool.and_eq_true,decide_eq_true_eq]at h2;omega
 split at h2
 ·simp only[Bool.and_eq_true,decide_eq_true_eq]at h2;omega
 ·simp at h2
theorem OkC.refs {h:Hp}(c:OkC h)(i:Nat)(hi:i<h.os.length):∀z∈h.os[i].r,-1≤z∧z<h.os.length:=by
 have h1:=c.ob i hi;simp only[Qt,Ob.p,Bool.and_eq_true]at h1;exact JT h1.1
theorem OkC.small {h:Hp}(c:OkC h):ZV h:=⟨by have:=c.n60;omega,fun i hi=>by have:=(c.kind i hi).1;omega,by have:=c.r8;omega,by have:=c.w20;omega,by have:=c.w20;omega⟩
theorem OkC.fit {w:World}{h:Hp}(c:OkC h)(hin:Qj w h)(hcap:∀(i:Nat) (hi:i<h.os.length),h.os[i].r.length≤h.os[i].rcap):Fit w h:=
 ⟨hin,c.small,fun i hi=>by have:=(c.kind i hi).2;unfold maxLen;omega,hcap⟩
theorem Qk.cap {w:World}{B:Nat}{h:Hp}(hh:Qk w B h)(i:Nat)(hi:i<h.os.length):h.os[i].r.length≤h.os[i].rcap:=by
 obtain⟨a,cap,e,_,h1,_⟩:=(hh.rs i hi).form;simp only[Ob.rv,Value.slice.injEq]at e;omega
theorem OkC.fitQ {w:World}{B:Nat}{h:Hp}(c:OkC h)(hq:Qk w B h):Fit w h:=c.fit hq.isIn hq.cap
structure Ev where
 k:Int
 to:Int
 fr:Int
 pt:Int
 o:Ob
def Ev.cs (e:Ev):List Value:=[.int .i64 e.k,.int .i64 e.to,.int .i64 e.fr,.int .i64 e.pt,.int .i64 e.o.k,.string e.o.t,.slice e.o.ra e.o.r.length e.o.rcap]
def Ev.v (e:Ev):Value:=.agg e.cs.toArray
theorem Qah (h:Hp)(f p:Int)(w:World)(hh:Qj w h)(c:OkC h):
 Calls Cut.prog 122 #[h.v,.int .i64 f,.int .i64 p] w fun e w'=>∃r:Int,e=.returned (.int .i64 r)∧(r<0∨∃hr:r.toNat<h.os.length,0≤r∧r=rootP h.rs f∧0≤p∧p<h.os[r.toNat].r.length)∧Below w.heap.size w w':=by
 have hB0:Below w.heap.size w (w.alloc (QhS #[QhR h.oa h.os.length h.ocap,QhR h.ra h.rs.length h.rcap,QhR h.wa h.ws.length h.wcap,QhR h.da h.ds.length h.dcap] 27)):=(Below.refl _ _).alloc (QhW _) _;have hK0:=Blk.new w [QhR h.oa h.os.length h.ocap,QhR h.ra h.rs.length h.rcap,QhR h.wa h.ws.length h.wcap,QhR h.da h.ds.length h.dcap] 27;have c1:=Uw h f _ (hh.sr.below hB0 (QhW _)) c.small.r;have hbd:=U2 c.ro (by omega) f;go_enter (Cut.func_of Tryz.func122 rfl),Tryz.ntmps122;simp only[Hp.v]at c1⊢;go_wp2_with fail;refine c1.mono ?_;rintro e w1 ⟨rfl,hb1⟩;have hB1:=hB0.trans (hb1.mono hB0.size);have hK1:=hK0.step hb1;obtain⟨x0,x1,x2,x3⟩:=Qu hK1;clear c1 hB0 hK0 hb1;generalize hR:rootP h.rs f=R at *;have HR:Hid (rootP h.rs f=R):=hR;clear hR;by_cases hneg:R<0
 ·go_wp2;go_ret;exact⟨_,rfl,Or.inl (by omega),hB1⟩
 ·have h0:0≤R:=by omega
  have hlt:R.toNat<h.os.length:=by omega
  have hR1:R<(h.os.length:Int):=hbd.2;obtain⟨b,off,eo,hb,e1,e2,e3⟩:=hh.so.get hlt;have d3:=(hB1.cell (p:=⟨b,off+R.toNat*3+2,none⟩) hb).trans e3;have hkr:=(c.kind _ hlt).1;have hdn:decide (R<0)=false:=by simpa using h0
  generalize hOA:h.oa=OA at eo x0⊢;clear hOA;subst eo;clear e1 e2 e3 hneg;have HX:Hid (h.os[R.toNat].r.length=h.os[R.toNat].r.length):=rfl;generalize hN:h.os[R.toNat].r.length=N at *;have HN:Hid (h.os[R.toNat].r.length=N):=hN;clear hN;go_wp2_with fail;refine(Ym _ _ _ _).mono ?_;rintro e w2 ⟨rfl,rfl⟩
  cases hin:inB p 0 ((N:Int)-1)with
  |false=>
   go_wp2;go_ret;exact⟨_,rfl,Or.inl (by omega),hB1⟩
  |true=>
   have HP:Hid (0≤p∧p<(N:Int)):=by
    show _∧_;simp[inB]at hin;omega
   go_wp2;go_ret;exact⟨_,rfl,Or.inr ⟨hlt,h0,HR.out.symm,HP.out.1,by rw[HN.out];exact HP.out.2⟩,hB1⟩
end
end Go.Proofs.YtcpnkpogebjieaaGreat
