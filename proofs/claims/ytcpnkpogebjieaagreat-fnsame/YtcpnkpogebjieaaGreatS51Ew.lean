/- The specification's own drawing for the law on MemSame. -/
import Derived.Test.YtcpnkpogebjieaaGreatS50El
import Derived.Test.YtcpnkpogebjieaaGreatS31Di
import Derived.Test.YtcpnkpogebjieaaGreatS45Eb
import Derived.Test.YtcpnkpogebjieaaGreatS37Vj
import Derived.Test.YtcpnkpogebjieaaGreatS43Jc0
import Derived.Test.YtcpnkpogebjieaaGreatS12SpecOk4
open Go.Value renaming slice→QhR,int→QhU,string→QhV
open Go.Obj renaming cells→QhS
open Nat renaming le_refl→QhT
set_option maxHeartbeats 8000000
set_option maxRecDepth 100000
namespace Go.Proofs.YtcpnkpogebjieaaGreat
section
open Go.RowKit
set_option linter.unusedSimpArgs false
theorem QeJ {g:Nat}{cd:Cd}{k:Int}{a:Hp}{w w2:World}(h:∀W,Qf 27 w W→Fit W a)(hg:w.grownBy w2 (some g))(hgw:g<w.heap.size)(hr:Rd w2 g cd k)(hv:QM a (some g)):∀W,Qf 27 w2 W→Fit W a:=fun W hW=>by
 have hWg:=hW g _ _ hr.blk (by decide)
 have hlt:g<W.heap.size:=by
  rcases Nat.lt_or_ge g W.heap.size with q|q
  ·exact q
  ·rw[Array.getElem?_eq_none q]at hWg
   cases hWg
 have hK:Qf 27 w {W with heap:=W.heap.setIfInBounds g w.heap[g]}:=fun k cs e hk he=>by
  show(W.heap.setIfInBounds g w.heap[g])[k]? =_;rw[Array.getElem?_setIfInBounds];by_cases hkg:g=k
  ·subst hkg;rw[if_pos rfl,if_pos hlt,←hk,Array.getElem?_eq_getElem hgw]
  ·rw[if_neg hkg];exact hW k cs e ((hg.block k (lt_of_block hk) (fun q=>hkg (Option.some.inj q).symm)).trans hk) he
 have hF:=h _ hK;refine⟨hF.isIn.grown (w':=W) (r:=some g) ⟨rfl,rfl,rfl,by simp,fun b _ hne=>?_⟩ hv,hF.small,hF.txt,hF.cap⟩;show W.heap[b]? =(W.heap.setIfInBounds g w.heap[g])[b]?;rw[Array.getElem?_setIfInBounds,if_neg (fun q=>hne (by rw[q]))]
theorem Qea {a y:Hp}{w W:World}{B:Nat}(e:y.p=a.p)(hf:Fit w a)(q:Qk W B y):Fit W y:=by
 simp only[Hp.p,Prod.mk.injEq]at e;obtain⟨e1,e2,e3,e4⟩:=e;have el:y.os.length=a.os.length:=by have:=congrArg List.length e1;simpa using this
 have ho:∀i (hi:i<y.os.length),∃hi':i<a.os.length,y.os[i].t=a.os[i].t∧y.os[i].r=a.os[i].r:=fun i hi=>by
  have hi':i<a.os.length:=by omega
  have e5:(y.os.map Ob.p)[i]? =(a.os.map Ob.p)[i]? :=by rw[e1]
  rw[List.getElem?_map,List.getElem?_map,List.getElem?_eq_getElem hi,List.getElem?_eq_getElem hi']at e5;simp only[Option.map_some,Option.some.injEq,Ob.p,Prod.mk.injEq]at e5;exact⟨hi',e5.2.1,e5.2.2⟩
 refine⟨q.isIn,⟨by rw[el];exact hf.small.o,fun i hi=>?_,by rw[e2];exact hf.small.r,by rw[e3];exact hf.small.w,by rw[e4];exact hf.small.d⟩,fun i hi=>?_,q.cap⟩
 ·obtain⟨hi',_,h2⟩:=ho i hi;rw[h2];exact hf.small.oo i hi'
 ·obtain⟨hi',h1,_⟩:=ho i hi;rw[h1];exact hf.txt i hi'
structure HBx (g B:Nat) (a:Hp) (W:World):Prop where
 bx:Blk W B [QhR a.oa a.os.length a.ocap,QhR a.ra a.rs.length a.rcap,QhR a.wa a.ws.length a.wcap,QhR a.da a.ds.length a.dcap] 27
 fa:∀W',Qf 27 W W'→Fit W' a
 av:QM a (some g)
section
variable {g B:Nat} {a:Hp} {W W':World} {cd:Cd} {k:Int}
theorem HBx.fit (H:HBx g B a W):Fit W a:=H.fa W (Qf.refl _ _)
theorem HBx.turn (H:HBx g B a W)(hg:W.grownBy W' (some g))(hgW:g<W.heap.size)(hr:Rd W' g cd k)(hne:B≠g):HBx g B a W':=⟨H.bx.grown hg (by simp;omega),QeJ H.fa hg hgW hr H.av,H.av⟩
theorem HBx.below (H:HBx g B a W)(hb:Below W.heap.size W W'):HBx g B a W':=⟨H.bx.below hb H.bx.lt,fun X hX=>H.fa X ((Qf.below _ hb (QhT _)).trans hX),H.av⟩
theorem HBx.make (fa:∀W',Qf 27 W W'→Fit W' a)(av:QM a (some g)):HBx g W.heap.size a (W.alloc (QhS #[QhR a.oa a.os.length a.ocap,QhR a.ra a.rs.length a.rcap,QhR a.wa a.ws.length a.wcap,QhR a.da a.ds.length a.dcap] 27)):=
 ⟨Blk.new W _ _,fun X hX=>fa X ((Qf.below _ ((Below.refl _ _).alloc (QhT _) _) (QhT _)).trans hX),av⟩
theorem HBx.put {b:Hp}{C:Nat}{c0 c1 c2 c3:Value}(H:HBx g B a W)(hC:Blk W C [c0,c1,c2,c3] 27)(hne:B≠C):HBx g B a ((((W.setCell ⟨C,0,none⟩ (.slice b.oa b.os.length b.ocap)).setCell ⟨C,1,none⟩ (.slice b.ra b.rs.length b.rcap)).setCell ⟨C,2,none⟩ (.slice b.wa b.ws.length b.wcap)).setCell ⟨C,3,none⟩ (.slice b.da b.ds.length b.dcap)):=
 ⟨H.bx.other4 hne _ _ _ _,fun X hX=>H.fa X ((QR hC _ _ _ _).1.trans hX),H.av⟩
theorem HBx.here {b:Hp}{c0 c1 c2 c3:Value}(hC:Blk W B [c0,c1,c2,c3] 27)(fb:∀W',Qf 27 W W'→Fit W' b)(av:QM b (some g)):HBx g B b ((((W.setCell ⟨B,0,none⟩ (.slice b.oa b.os.length b.ocap)).setCell ⟨B,1,none⟩ (.slice b.ra b.rs.length b.rcap)).setCell ⟨B,2,none⟩ (.slice b.wa b.ws.length b.wcap)).setCell ⟨B,3,none⟩ (.slice b.da b.ds.length b.dcap)):=
 ⟨(QR hC _ _ _ _).2,fun X hX=>fb X ((QR hC _ _ _ _).1.trans hX),av⟩
end
structure DsW (w1:World) (g:Nat) (cd:Cd) (B5 B6:Nat) (a:Hp) (m:Int) (b:Hp) (k:Int) (W:World):Prop where
 dw:Dw w1 g cd k W
 km:k≤m
 ha:HBx g B5 a W
 hb:HBx g B6 b W
theorem DsW.turn {w1 W W':World}{g:Nat}{cd:Cd}{B5 B6:Nat}{a b:Hp}{k k' m m':Int}(d:DsW w1 g cd B5 B6 a m b k W)(dw:Dw w1 g cd k' W')(hg:W.grownBy W' (some g))(h5:B5≠g)(h6:B6≠g)(hk:k'≤m'):DsW w1 g cd B5 B6 a m' b k' W':=
 ⟨dw,hk,d.ha.turn hg d.dw.rd.blk.lt dw.rd h5,d.hb.turn hg d.dw.rd.blk.lt dw.rd h6⟩
theorem DsW.below {w1 W W':World}{g:Nat}{cd:Cd}{B5 B6:Nat}{a b:Hp}{k m:Int}(d:DsW w1 g cd B5 B6 a m b k W)(hb:Below W.heap.size W W'):DsW w1 g cd B5 B6 a m b k W':=⟨d.dw.grow hb,d.km,d.ha.below hb,d.hb.below hb⟩
theorem DsW.put {w1 W:World}{g:Nat}{cd:Cd}{B5 B6:Nat}{a b c:Hp}{k m:Int}(d:DsW w1 g cd B5 B6 a m b k W)(h56:B5≠B6)(h6:w1.heap.size≤B6)(fb:∀W',Qf 27 W W'→Fit W' c)(av:QM c (some g)):DsW w1 g cd B5 B6 a m c k ((((W.setCell ⟨B6,0,none⟩ (.slice c.oa c.os.length c.ocap)).setCell ⟨B6,1,none⟩ (.slice c.ra c.rs.length c.rcap)).setCell ⟨B6,2,none⟩ (.slice c.wa c.ws.length c.wcap)).setCell ⟨B6,3,none⟩ (.slice c.da c.ds.length c.dcap)):=
 ⟨d.dw.sets4 h6 _ _ _ _,d.km,d.ha.put d.hb.bx h56,.here d.hb.bx fb av⟩
theorem QdL (a0:Option Addr)(cap:Nat)(bs:List Int)(w:World)(hcap:bs.length≤cap)(hm:cap≤maxLen)(hby:∀x∈bs,0≤x∧x<256)(hs:0<bs.length→∃b off,a0=some ⟨b,off,none⟩∧b<w.heap.size∧∀i (hi:i<bs.length),w.cell? ⟨b,off+i,none⟩=some (.int .u8 bs[i])):
 Calls Cut.prog 19 #[.slice a0 bs.length cap] w fun e w'=>∃a b:Hp,e=.returned (.tuple #[a.v,b.v])∧(∀W,Qf 27 w' W→Fit W a∧Fit W b)∧Below w.heap.size w w':=by
 have hA:Below w.heap.size w ((w.alloc (QhS #[QhR none 0 0,QhR none 0 0,QhR none 0 0,QhR none 0 0] 27)).alloc (QhS #[QhR none 0 0,QhR none 0 0,QhR none 0 0,QhR none 0 0] 27)):=((Below.refl _ _).alloc (QhT _) _).alloc (by simp) _;have br0:=(Blk.new w [QhR none 0 0,QhR none 0 0,QhR none 0 0,QhR none 0 0] 27).alloc (QhS #[QhR none 0 0,QhR none 0 0,QhR none 0 0,QhR none 0 0] 27)
 have bs0:Blk ((w.alloc (QhS #[QhR none 0 0,QhR none 0 0,QhR none 0 0,QhR none 0 0] 27)).alloc (QhS #[QhR none 0 0,QhR none 0 0,QhR none 0 0,QhR none 0 0] 27)) (w.heap.size+1) [QhR none 0 0,QhR none 0 0,QhR none 0 0,QhR none 0 0] 27:=by
  have:=Blk.new (w.alloc (QhS #[QhR none 0 0,QhR none 0 0,QhR none 0 0,QhR none 0 0] 27)) [QhR none 0 0,QhR none 0 0,QhR none 0 0,QhR none 0 0] 27;rw[World.size_alloc]at this;exact this
 have hs0:0<bs.length→∃b off,a0=some ⟨b,off,none⟩∧b<((w.alloc (QhS #[QhR none 0 0,QhR none 0 0,QhR none 0 0,QhR none 0 0] 27)).alloc (QhS #[QhR none 0 0,QhR none 0 0,QhR none 0 0,QhR none 0 0] 27)).heap.size∧∀i (hi:i<bs.length),((w.alloc (QhS #[QhR none 0 0,QhR none 0 0,QhR none 0 0,QhR none 0 0] 27)).alloc (QhS #[QhR none 0 0,QhR none 0 0,QhR none 0 0,QhR none 0 0] 27)).cell? ⟨b,off+i,none⟩=some (.int .u8 bs[i]):=fun hp=>by
  obtain⟨b,off,h1,h2,h3⟩:=hs hp;exact⟨b,off,h1,Nat.lt_of_lt_of_le h2 hA.size,fun i hi=>(hA.cell (p:=⟨b,_,none⟩) h2).trans (h3 i hi)⟩
 go_enter (Cut.func_of Tryz.func19 rfl),Tryz.ntmps19;go_upto_region 1 with fail;generalize (w.alloc (QhS #[QhR none 0 0,QhR none 0 0,QhR none 0 0,QhR none 0 0] 27)).alloc (QhS #[QhR none 0 0,QhR none 0 0,QhR none 0 0,QhR none 0 0] 27)=W0 at *;have c1:=QeL a0 cap bs W0 hcap hm hby hs0;go_wp2_with fail;refine c1.mono ?_;rintro en w1 ⟨g,cd,rfl,hc,hr,hgs,hb1⟩;have br1:=br0.below hb1 br0.lt;have bs1:=bs0.below hb1 bs0.lt;have hB1:=hA.trans (hb1.mono hA.size);have hl0:=bs0.lt;have hg1:g<w1.heap.size:=hr.blk.lt;clear c1 hs0 hb1 hs br0 bs0 hA;have c2:=QeY g cd 0 w1 hc hr (by decide);go_wp2_with fail;refine c2.mono ?_;rintro en w2 ⟨a,k',rfl,hf,hv,dy,hk'⟩;have hg2:=dy.gb.size;have hA3:Below w2.heap.size w2 (w2.alloc (QhS #[QhR a.oa a.os.length a.ocap,QhR a.ra a.rs.length a.rcap,QhR a.wa a.ws.length a.wcap,QhR a.da a.ds.length a.dcap] 27)):=(Below.refl _ _).alloc (QhT _) _;have D3:=dy.grow hA3;have H3:=HBx.make hf hv;have hz3:(w2.alloc (QhS #[QhR a.oa a.os.length a.ocap,QhR a.ra a.rs.length a.rcap,QhR a.wa a.ws.length a.wcap,QhR a.da a.ds.length a.dcap] 27)).heap.size=w2.heap.size+1:=by simp
 clear c2 hf dy hA3;simp only[Hp.v];go_upto_region 3 with fail;generalize w2.alloc (QhS #[QhR a.oa a.os.length a.ocap,QhR a.ra a.rs.length a.rcap,QhR a.wa a.ws.length a.wcap,QhR a.da a.ds.length a.dcap] 27)=W3 at *;generalize hB5:w2.heap.size=B5 at *;have c3:=Qa9 a W3 H3.fit;simp only[Hp.v]at c3;obtain⟨x0,x1,x2,x3⟩:=Qb H3.bx;have hg3:g<W3.heap.size:=by omega
 go_wp2_with fail;refine c3.mono ?_;rintro en w4 ⟨b,v,ms,rfl,cb,hfb,-,-,-,hb4,hav⟩;have D4:=D3.grow hb4;have H4:=H3.below hb4;have hz4:=hb4.size;have hA5:Below w4.heap.size w4 (w4.alloc (QhS #[QhR b.oa b.os.length b.ocap,QhR b.ra b.rs.length b.rcap,QhR b.wa b.ws.length b.wcap,QhR b.da b.ds.length b.dcap] 27)):=(Below.refl _ _).alloc (QhT _) _;have S5:DsW w1 g cd B5 w4.heap.size a 5000 b k' (w4.alloc (QhS #[QhR b.oa b.os.length b.ocap,QhR b.ra b.rs.length b.rcap,QhR b.wa b.ws.length b.wcap,QhR b.da b.ds.length b.dcap] 27)):=⟨D4.grow hA5,by omega,H4.below hA5,.make hfb (hav g hg3)⟩;clear c3 hfb hav hb4 D3 H3 D4 H4 hA5 x0 x1 x2 x3;simp only[Hp.v];go_upto_region 4 with fail;generalize w4.alloc (QhS #[QhR b.oa b.os.length b.ocap,QhR b.ra b.rs.length b.rcap,QhR b.wa b.ws.length b.wcap,QhR b.da b.ds.length b.dcap] 27)=W5 at *;generalize hB6:w4.heap.size=B6 at *;have h5g:B5≠g:=by omega
 have h6g:B6≠g:=by omega
 have h56:B5≠B6:=by omega
 have h16:w1.heap.size≤B6:=by omega
 clear hB5 hB6 hz3 hz4 hg3;have c4:=QK g cd k' 3 W5 hc S5.dw.rd (by have:=S5.km;omega) (by decide);go_wp2_with fail;refine c4.mono ?_;rintro en w6 ⟨z,rfl,-,-,-,hP⟩;have S6:DsW w1 g cd B5 B6 a 5001 b (k'+1) w6:=S5.turn (S5.dw.pick hP) hP.gb h5g h6g (by have:=S5.km;omega);clear c4 S5 hP;go_upto_if 20 with fail;go_cut [8]from 21 to 33 (fun _ wx=>∃(c:Hp) (kk:Int),DsW w1 g cd B5 B6 a 6000 c kk wx)
 case first=>
  by_cases h0:z=0
  ·subst h0;obtain⟨x0,x1,x2,x3⟩:=Qb S6.hb.bx;have c5:=Qai b false g cd (k'+1) w6 hc S6.dw.rd (by have:=S6.km;omega) cb S6.hb.fit.isIn S6.hb.av;simp only[Hp.v]at c5;go_wp2_with fail;refine c5.mono ?_;rintro en w7 ⟨e,k7,rfl,ho,hl,ht,dW,hk7⟩;have S7:DsW w1 g cd B5 B6 a 6000 b k7 w7:=S6.turn (S6.dw.call dW) dW.gb h5g h6g (by have:=S6.km;omega);have hA8:Below w7.heap.size w7 (w7.alloc (QhS #[QhU .i64 e.k,QhU .i64 e.to,QhU .i64 e.fr,QhU .i64 e.pt,QhU .i64 e.o.k,QhV e.o.t,QhR e.o.ra e.o.r.length e.o.rcap] 75)):=(Below.refl _ _).alloc (QhT _) _;have S8:=S7.below hA8;have be2:=Blk.new w7 e.cs 75;simp only[Ev.cs]at be2
   have hs2:Qi (w7.alloc (QhS #[QhU .i64 e.k,QhU .i64 e.to,QhU .i64 e.fr,QhU .i64 e.pt,QhU .i64 e.o.k,QhV e.o.t,QhR e.o.ra e.o.r.length e.o.rcap] 75)) e.o.ra e.o.r:=by
    refine Qi.below ?_ hA8 (QhT _);obtain⟨a',cap',q,hs,_⟩:=ho.form;simp only[Value.slice.injEq]at q;rw[q.1];exact hs
   clear x0 x1 x2 x3 c5 S6 S7 dW hA8 ho;simp only[Ev.v,Ev.cs];go_upto_region 6 with fail;generalize (w7.alloc (QhS #[QhU .i64 e.k,QhU .i64 e.to,QhU .i64 e.fr,QhU .i64 e.pt,QhU .i64 e.o.k,QhV e.o.t,QhR e.o.ra e.o.r.length e.o.rcap] 75))=W8 at *;generalize w7.heap.size=eb at *;obtain⟨b0,b1,b2,b3⟩:=Qb S8.hb.bx;by_cases hrs:0<b.rs.length
   ·have hrb:decide (0<(b.rs.length:Int))=true:=decide_eq_true (by omega);have x0:=be2.cell 0;have x1:=be2.cell 1;have x2:=be2.cell 2;have x3:=be2.cell 3;have x4:=be2.cell 4;have x5:=be2.cell 5;have x6:=be2.cell 6;simp only[List.getElem?_cons_zero,List.getElem?_cons_succ]at x0 x1 x2 x3 x4 x5 x6;have c6:=Qba b e W8 S8.hb.fit cb hs2 (by omega) (by unfold maxLen;omega);simp only[Hp.v,Ev.v,Ev.cs]at c6;have hg8:=S8.dw.rd.blk.lt;go_wp2_with fail;refine c6.mono ?_;rintro en w9 ⟨y,st,rfl,cy,qy,hb9⟩;have S9:=S8.below hb9;have S10:=S9.put h56 h16 (c:=y) (fun W hK=>cy.fitQ (qy.keep hK)) (qy.av hg8);obtain⟨r0,r1,r2,r3⟩:=Qb S9.hb.bx;obtain⟨f0,f1,f2,f3⟩:=Qo S9.hb.bx;clear b0 b1 b2 b3 x0 x1 x2 x3 x4 x5 x6 c6 S8 S9 hb9 hs2 be2 qy;simp only[Hp.v];go_wp2;go_meet
    case rel=>exact⟨_,_,S10⟩
   ·have hrb:decide (0<(b.rs.length:Int))=false:=decide_eq_false (by omega);go_wp2;go_meet
    case rel=>exact⟨_,_,S8⟩
  ·have n0:(z ==0)=false:=by simpa using h0
   have S7:DsW w1 g cd B5 B6 a 6000 b (k'+1) w6:=⟨S6.dw,by have:=S6.km;omega,S6.ha,S6.hb⟩;go_wp2;go_meet
   case rel=>exact⟨_,_,S7⟩
 case rest=>
 clear S6;obtain⟨c,kk,S⟩:=hcut;go_upto_region 8 with fail;have c7:=QK g cd kk 6 wc hc S.dw.rd (by have:=S.km;omega) (by decide);go_wp2_with fail;refine c7.mono ?_;rintro en w9 ⟨z2,rfl,-,-,-,hP⟩;have S9:DsW w1 g cd B5 B6 a 6001 c (kk+1) w9:=S.turn (S.dw.pick hP) hP.gb h5g h6g (by have:=S.km;omega);clear c7 S hP;go_upto_if 36 with fail;go_cut []from 37 to 38 (fun wx=>∃(c:Hp) (kk:Int),DsW w1 g cd B5 B6 a 6001 c kk wx)
 case first=>
  by_cases h0:z2=0
  ·subst h0;obtain⟨x0,x1,x2,x3⟩:=Qb S9.ha.bx;have c8:=Ut a w9 S9.ha.fit.isIn S9.ha.fit.small;simp only[Hp.v]at c8;have hg9:=S9.dw.rd.blk.lt;go_wp2_with fail;refine c8.mono ?_;rintro en w10 ⟨y,rfl,hyp,qy,hb10⟩;have S10:=S9.below hb10;have S11:=S10.put h56 h16 (c:=y) (fun W hK=>Qea hyp S9.ha.fit (qy.keep hK)) (qy.av hg9);obtain⟨r0,r1,r2,r3⟩:=Qb S10.hb.bx;obtain⟨f0,f1,f2,f3⟩:=Qo S10.hb.bx;clear x0 x1 x2 x3 c8 S9 S10 hb10 hyp qy;simp only[Hp.v];go_wp2;go_meet
   case rel=>exact⟨_,_,S11⟩
  ·have n0:(z2 ==0)=false:=by simpa using h0
   go_wp2;go_meet
   case rel=>exact⟨_,_,S9⟩
 case rest=>
 clear S9;obtain⟨c,kk,S⟩:=hcut;obtain⟨x0,x1,x2,x3⟩:=Qb S.ha.bx;obtain⟨y0,y1,y2,y3⟩:=Qb S.hb.bx;have br2:=S.dw.blk br1 (by omega);have bs2:=S.dw.blk bs1 (by omega);obtain⟨r0,r1,r2,r3⟩:=Qb br2;obtain⟨f0,f1,f2,f3⟩:=Qo br2;obtain⟨s0,s1,s2,s3⟩:=Qb bs2;obtain⟨g0,g1,g2,g3⟩:=Qo bs2;obtain⟨kq,bq⟩:=QR br2 (.slice a.oa a.os.length a.ocap) (.slice a.ra a.rs.length a.rcap) (.slice a.wa a.ws.length a.wcap) (.slice a.da a.ds.length a.dcap);have bs3:=bs2.other4 (R:=w.heap.size) (by omega) (.slice a.oa a.os.length a.ocap) (.slice a.ra a.rs.length a.rcap) (.slice a.wa a.ws.length a.wcap) (.slice a.da a.ds.length a.dcap);obtain⟨kq2,bq2⟩:=QR bs3 (.slice c.oa c.os.length c.ocap) (.slice c.ra c.rs.length c.rcap) (.slice c.wa c.ws.length c.wcap) (.slice c.da c.ds.length c.dcap);have bq3:=bq.other4 (R:=w.heap.size+1) (by omega) (.slice c.oa c.os.length c.ocap) (.slice c.ra c.rs.length c.rcap) (.slice c.wa c.ws.length c.wcap) (.slice c.da c.ds.length c.dcap);have hKd:∀ {A C:World},Qf 27 A.drew C→Qf 27 A C:=fun h=>h;have hF:=fun W (hK:Qf 27 (World.drew _) W)=>And.intro (S.ha.fa W ((kq.trans kq2).trans (hKd hK))) (S.hb.fa W ((kq.trans kq2).trans (hKd hK)));have hB2:=hB1.trans (QJ S.dw.gb hB1.size (fun j e=>by simp at e;omega));have hBq:=(ZS (ZS hB2 (C:=w.heap.size) (QhT _) (.slice a.oa a.os.length a.ocap) (.slice a.ra a.rs.length a.rcap) (.slice a.wa a.ws.length a.wcap) (.slice a.da a.ds.length a.dcap)) (C:=w.heap.size+1) (by omega) (.slice c.oa c.os.length c.ocap) (.slice c.ra c.rs.length c.rcap) (.slice c.wa c.ws.length c.wcap) (.slice c.da c.ds.length c.dcap)).drew;obtain⟨z0,z1,z2,z3⟩:=Qb bq3;obtain⟨z4,z5,z6,z7⟩:=Qb bq2;clear hKd kq kq2 bq bs3 bq2 bq3 hB2 S br2 bs2;go_wp2_with fail;go_region;go_wp2;refine bodyPost_ret (v:=.tuple #[a.v,c.v]) ?_ rfl ⟨a,c,rfl,hF,hBq⟩;simp[results,Tryz.results19,go_sem,z0,z1,z2,z3,z4,z5,z6,z7,Hp.v]
end
namespace Co
open Go.RowKit
set_option linter.unusedSimpArgs false
theorem Qd3 (v:Value):(#[v]++Array.replicate 71 undef:Array Value)=A72 fun i=>if i=0 then v else undef:=by kernel_rfl
def Sd1 (u:World)(c:Code)(a:Act)(w1:World):Prop:=
 c=sdC∧a.defers=[]∧a.tmps.size=72∧Below u.heap.size u w1∧∃(b3:Nat) (y:Hp),a.tmps[3]? =some (.pointer (some ⟨b3,0,none⟩))∧Blk w1 b3 (Hp.cells y) 27∧Fit w1 y
theorem Qe4 (a0:Option Addr)(cap:Nat)(bs:List Int)(u:World)(hcap:bs.length≤cap)(hm:cap≤maxLen)(hby:∀x∈bs,0≤x∧x<256)(hs:0<bs.length→∃b off,a0=some ⟨b,off,none⟩∧b<u.heap.size∧∀i (hi:i<bs.length),u.cell? ⟨b,off+i,none⟩=some (.int .u8 bs[i])):
 chain Cut.prog (Sd1 u) (SdR u) 5 sdB ⟨#[.slice a0 bs.length cap]++Array.replicate 71 undef,[]⟩ u:=by
 rw[Qd3];unfold A72;simp only[reduceIte,Nat.reduceEqDiff];have c1:=QdL a0 cap bs u hcap hm hby hs;unfold maxLen at hm;simp only[sdB,Tryz.f5,chain];go_wp2;simp only[JQ,chain];by_cases hn:1048576<bs.length
 ·have hd:decide ((1048576:Int)<(bs.length:Int))=true:=decide_eq_true (by omega);go_wp2;exact⟨rfl,rfl,rfl,Below.refl _ _⟩
 have hd:decide ((1048576:Int)<(bs.length:Int))=false:=decide_eq_false (by omega);go_wp2;simp only[JQ,chain];go_wp2_with fail;refine c1.mono ?_;rintro e w1 ⟨a,b,rfl,hf,hb1⟩;have k3:=(Blk.new w1 [QhR a.oa a.os.length a.ocap,QhR a.ra a.rs.length a.rcap,QhR a.wa a.ws.length a.wcap,QhR a.da a.ds.length a.dcap] 27).alloc (QhS #[QhR b.oa b.os.length b.ocap,QhR b.ra b.rs.length b.rcap,QhR b.wa b.ws.length b.wcap,QhR b.da b.ds.length b.dcap] 27)
 have k4:Blk ((w1.alloc (QhS #[QhR a.oa a.os.length a.ocap,QhR a.ra a.rs.length a.rcap,QhR a.wa a.ws.length a.wcap,QhR a.da a.ds.length a.dcap] 27)).alloc (QhS #[QhR b.oa b.os.length b.ocap,QhR b.ra b.rs.length b.rcap,QhR b.wa b.ws.length b.wcap,QhR b.da b.ds.length b.dcap] 27)) (w1.heap.size+1) [QhR b.oa b.os.length b.ocap,QhR b.ra b.rs.length b.rcap,QhR b.wa b.ws.length b.wcap,QhR b.da b.ds.length b.dcap] 27:=by
  have:=Blk.new (w1.alloc (QhS #[QhR a.oa a.os.length a.ocap,QhR a.ra a.rs.length a.rcap,QhR a.wa a.ws.length a.wcap,QhR a.da a.ds.length a.dcap] 27)) [QhR b.oa b.os.length b.ocap,QhR b.ra b.rs.length b.rcap,QhR b.wa b.ws.length b.wcap,QhR b.da b.ds.length b.dcap] 27;rw[World.size_alloc]at this;exact this
 have hA:Below w1.heap.size w1 ((w1.alloc (QhS #[QhR a.oa a.os.length a.ocap,QhR a.ra a.rs.length a.rcap,QhR a.wa a.ws.length a.wcap,QhR a.da a.ds.length a.dcap] 27)).alloc (QhS #[QhR b.oa b.os.length b.ocap,QhR b.ra b.rs.length b.rcap,QhR b.wa b.ws.length b.wcap,QhR b.da b.ds.length b.dcap] 27)):=((Below.refl _ _).alloc (QhT _) _).alloc (by simp) _;obtain⟨fa,fb⟩:=hf w1 (Qf.refl _ _);replace fa:=fa.below hA (QhT _);replace fb:=fb.below hA (QhT _);have hB:=hb1.trans (hA.mono hb1.size);clear c1 hf hb1 hA hs;simp only[Hp.v];go_wp2;simp only[JQ,chain];generalize (w1.alloc (QhS #[QhR a.oa a.os.length a.ocap,QhR a.ra a.rs.length a.rcap,QhR a.wa a.ws.length a.wcap,QhR a.da a.ds.length a.dcap] 27)).alloc (QhS #[QhR b.oa b.os.length b.ocap,QhR b.ra b.rs.length b.rcap,QhR b.wa b.ws.length b.wcap,QhR b.da b.ds.length b.dcap] 27)=w2 at *;generalize hb3:w1.heap.size=b3 at *;clear hb3;obtain⟨x0,x1,x2,x3⟩:=Qu k3;obtain⟨y0,y1,y2,y3⟩:=Qu k4;have c2:=VB a b w2 fa fb;simp only[Hp.v]at c2;go_wp2_with fail;refine c2.mono ?_;rintro e w3 ⟨r,rfl,hr,hb3⟩;have hB3:=hB.trans (hb3.mono hB.size);have k33:=k3.below hb3 k3.lt;have k43:=k4.below hb3 k4.lt;have fa3:=fa.below hb3 (QhT _);have fb3:=fb.below hb3 (QhT _);have HR:Hid (∀q:Bool,(q=true↔Q8 a.p b.p)→q=r):=fun q hq=>by rw[Bool.eq_iff_iff];exact hq.trans hr.symm
 have HR2:Hid (∀q:Bool,(q=true↔Q8 b.p a.p)→q=r):=fun q hq=>HR.out q (hq.trans ⟨Qa1,Qa1⟩);have HR3:Hid (∀q:Bool,(q=true↔Q8 a.p a.p)→q=okP a.p):=fun q hq=>by rw[Bool.eq_iff_iff];exact hq.trans Qgy
 clear c2 x0 x1 x2 x3 y0 y1 y2 y3 k3 k4 fa fb hB hb3 hr;go_wp2;simp only[JQ,chain];have hne1:(r !=r)=false:=by simp
 have hne2:(okP a.p !=okP a.p)=false:=by simp
 have hbd:=hB3.drew;have hd3:=(Below.refl w3.heap.size w3).drew;have k3d:=k33.below hd3 k33.lt;have k4d:=k43.below hd3 k43.lt;have fad:=fa3.below hd3 (QhT _);have fbd:=fb3.below hd3 (QhT _);obtain⟨x0,x1,x2,x3⟩:=Qu k33;obtain⟨y0,y1,y2,y3⟩:=Qu k43;have c3:=QgO a b w3.drew fad fbd;simp only[Hp.v]at c3;clear hd3;go_wp2_with fail
 go_region_held3 (fun W=>(W.cell? ⟨b3,0,none⟩=some (.slice a.oa a.os.length a.ocap)∧W.cell? ⟨b3,1,none⟩=some (.slice a.ra a.rs.length a.rcap)∧W.cell? ⟨b3,2,none⟩=some (.slice a.wa a.ws.length a.wcap)∧W.cell? ⟨b3,3,none⟩=some (.slice a.da a.ds.length a.dcap))∧(W.cell? ⟨b3+1,0,none⟩=some (.slice b.oa b.os.length b.ocap)∧W.cell? ⟨b3+1,1,none⟩=some (.slice b.ra b.rs.length b.rcap)∧W.cell? ⟨b3+1,2,none⟩=some (.slice b.wa b.ws.length b.wcap)∧W.cell? ⟨b3+1,3,none⟩=some (.slice b.da b.ds.length b.dcap))) (first|(refine⟨⟨?_,?_,?_,?_⟩,?_,?_,?_,?_⟩<;>with_reducible assumption)|go_keep) (first
  |(go_at_call 21;refine c3.mono ?_;rintro e w4 ⟨q,rfl,hq,hb4⟩;obtain rfl:=HR.out q hq;have hB4:=hbd.trans (hb4.mono hbd.size);have k34:=k3d.below hb4 k3d.lt;have k44:=k4d.below hb4 k4d.lt;obtain⟨u0,u1,u2,u3⟩:=Qu k34;obtain⟨v0,v1,v2,v3⟩:=Qu k44;have fa4:=fad.below hb4 (QhT _);have fb4:=fbd.below hb4 (QhT _);have c4:=VB b a w4 fb4 fa4;simp only[Hp.v]at c4;clear c3)
  |(go_at_call 20;refine c4.mono ?_;rintro e w5 ⟨q5,rfl,hq5,hb5⟩;obtain rfl:=HR2.out q5 hq5;have hB5:=hB4.trans (hb5.mono hB4.size);have k35:=k34.below hb5 k34.lt;have k45:=k44.below hb5 k44.lt;obtain⟨t0,t1,t2,t3⟩:=Qu k35;obtain⟨p0,p1,p2,p3⟩:=Qu k45;have fa5:=fa4.below hb5 (QhT _);have c5:=VB a a w5 fa5 fa5;simp only[Hp.v]at c5;clear c4)
  |(go_at_call 20;refine c5.mono ?_;rintro e w6 ⟨q6,rfl,hq6,hb6⟩;obtain rfl:=HR3.out q6 hq6;have hB6:=hB5.trans (hb6.mono hB5.size);have k36:=k35.below hb6 k35.lt;have k46:=k45.below hb6 k45.lt;obtain⟨z0,z1,z2,z3⟩:=Qu k36;obtain⟨m0,m1,m2,m3⟩:=Qu k46;have fa6:=fa5.below hb6 (QhT _);have c6:=Y5 a w6 fa6.isIn fa6.small fa6.txt;simp only[Hp.v]at c6;clear c5)
  |(go_at_call 12;refine c6.mono ?_;rintro e w7 ⟨rfl,hb7⟩;have k37:=k36.below hb7 k36.lt;have k47:=k46.below hb7 k46.lt;obtain⟨n0,n1,n2,n3⟩:=Qu k37;obtain⟨o0,o1,o2,o3⟩:=Qu k47))
 all_goals
  have hB7:=hB6.trans (hb7.mono hB6.size);have fa7:=fa6.below hb7 (QhT _);clear c6 u0 u1 u2 u3 v0 v1 v2 v3 t0 t1 t2 t3 z0 z1 z2 z3 p0 p1 p2 p3 m0 m1 m2 m3 n0 n1 n2 n3 o0 o1 o2 o3 x0 x1 x2 x3 y0 y1 y2 y3 hb4 hb5 hb6 hb7 hB4 hB5 hB6 k34 k44 k35 k36 k45 k46 k47;go_wp2;exact⟨rfl,rfl,rfl,hB7,b3,a,rfl,k37,fa7⟩
end Co
section
open Go.RowKit
theorem QfK {xs:List Int}{n:Int}{k:Nat}(h:∀i (hi:i<xs.length),i<k→xs[i]≠n)(hk:xs.length≤k):n∉xs:=fun hm=>by
 obtain⟨i,hi,e⟩:=List.getElem_of_mem hm;exact h i hi (by omega) e
theorem U8 (a:Option Addr)(m ca:Nat)(n:Int)(xs:List Int)(w:World)(hm:xs.length=m)(hx:Qi w a xs)(hm1:m≤maxLen):
 Calls Cut.prog 16 #[.slice a m ca,.int .i64 n] w fun e w'=>e=.returned (.bool (decide (n∈xs)))∧w'=w:=by
 unfold maxLen at hm1;go_enter (Cut.func_of Tryz.func16 rfl),Tryz.ntmps16;go_wp2;go_loopw [5] (fun i wr=>∃k:Nat,k≤m∧i=.int .i64 k∧(∀i (hi:i<xs.length),i<k→xs[i]≠n)∧wr=w) (fun i _=>m-(intOf i).toNat)
 case atStart=>exact⟨0,Nat.zero_le _,rfl,fun i _ h=>by omega,rfl⟩
 case round=>
  obtain⟨k,hk,rfl,htk,rfl⟩:=hrel;have HT:Hid (∀i (hi:i<xs.length),i<k→xs[i]≠n):=htk;clear htk;by_cases hlt:k<m
  ·have hkx:k<xs.length:=by omega
   obtain⟨b1,o1,rfl,hb1,d1⟩:=hx.get hkx;have hi1:(k:Int)<(m:Int):=by omega
   by_cases he:xs[k]=n
   ·have hne:(xs[k]==n)=true:=by simp[he]
    have HE:Hid (n∈xs):=by
     show n∈xs;rw[←he];exact List.getElem_mem hkx
    clear he;go_wp2;go_ret;exact⟨by simp[HE.out],rfl⟩
   ·have hne:(xs[k]==n)=false:=by simp[he]
    have HE:Hid (xs[k]≠n):=he;clear he;go_wp2;go_roundw
    case rel=>
     refine⟨k+1,by omega,by go_num,fun i hi hik=>?_,trivial⟩;by_cases e:i=k
     ·subst e;exact HE.out
     ·exact HT.out i hi (by omega)
    case measure=>simp[intOf];omega
  ·go_wp2;go_ret;exact⟨by simp[QfK HT.out (by omega)],rfl⟩
end
end Go.Proofs.YtcpnkpogebjieaaGreat
