/- The specification's own drawing: a heap spoilt. -/
import Derived.Deep.CutBlock
import Derived.Deep.RegionLaw
import Derived.Deep.AppendLies
import Derived.Test.YtcpnkpogebjieaaGreatS48Ej
import Derived.Test.YtcpnkpogebjieaaGreatS49Eh
open Go.Value renaming slice→QhR,int→QhS,string→QhZ
open Go.Obj renaming cells→QhT
open List renaming setIfInBounds_toArray→QhU,set_cons_zero→QhV,set_cons_succ→QhW,getElem_toArray→Qh1,getElem_cons_zero→Qh2,getElem_cons_succ→Qh3,getElem?_cons_zero→Qh6
open Or renaming inl→QhX
open Nat renaming le_refl→QhY,ne_of_gt→Qh0,ne_of_lt→Qh4,le_trans→Qh5
set_option maxHeartbeats 1600000
set_option maxRecDepth 100000
namespace Go.Proofs.YtcpnkpogebjieaaGreat
section
open Go.RowKit
theorem Qe3 (h:Hp)(g:Nat)(cd:Cd)(k:Int)(w:World)(hc:J5 cd)(hr:Rd w g cd k)(hk:k+2000<900000)(c:OkC h)(hh:Qj w h):
 Calls Cut.prog 76 #[.pointer (some ⟨g,0,none⟩),h.v] w fun en w'=>∃(y:Hp) (k':Int),en=.returned y.v∧(∀W,Qf 27 w' W→Fit W y)∧QM y (some g)∧Dw w g cd k' w'∧k'≤k+1000:=by
 obtain⟨i0,hi0,hz0,hz1,hz2⟩:=info_parts Je;obtain⟨j0,hj0,hy0,hy1,hy2⟩:=info_parts Jr;obtain⟨n0,hn0,hx0,hx1,hx2⟩:=info_parts YT;have hone:∀z:Int,∀u∈[QhS .i64 z],u.oneCell'=true:=fun z u hu=>by simp at hu;subst hu;rfl
 have hone2:∀p q:Int,∀u∈wc (p,q),u.oneCell'=true:=fun p q u hu=>by
  simp[wc]at hu;rcases hu with rfl|rfl<;>rfl
 have hA:Below w.heap.size w ((w.alloc (QhT #[QhR h.oa h.os.length h.ocap,QhR h.ra h.rs.length h.rcap,QhR h.wa h.ws.length h.wcap,QhR h.da h.ds.length h.dcap] 27)).alloc (QhT #[QhR none 0 0,QhR none 0 0,QhR none 0 0,QhR none 0 0] 27)):=((Below.refl _ _).alloc (QhY _) _).alloc (by simp) _;have d0:=(Dw.start hr).grow hA;have bh0:Blk ((w.alloc (QhT #[QhR h.oa h.os.length h.ocap,QhR h.ra h.rs.length h.rcap,QhR h.wa h.ws.length h.wcap,QhR h.da h.ds.length h.dcap] 27)).alloc (QhT #[QhR none 0 0,QhR none 0 0,QhR none 0 0,QhR none 0 0] 27)) w.heap.size [QhR h.oa h.os.length h.ocap,QhR h.ra h.rs.length h.rcap,QhR h.wa h.ws.length h.wcap,QhR h.da h.ds.length h.dcap] 27:=(Blk.new w _ _).alloc _
 have br0:Blk ((w.alloc (QhT #[QhR h.oa h.os.length h.ocap,QhR h.ra h.rs.length h.rcap,QhR h.wa h.ws.length h.wcap,QhR h.da h.ds.length h.dcap] 27)).alloc (QhT #[QhR none 0 0,QhR none 0 0,QhR none 0 0,QhR none 0 0] 27)) (w.heap.size+1) [QhR none 0 0,QhR none 0 0,QhR none 0 0,QhR none 0 0] 27:=by
  have:=Blk.new (w.alloc (QhT #[QhR h.oa h.os.length h.ocap,QhR h.ra h.rs.length h.rcap,QhR h.wa h.ws.length h.wcap,QhR h.da h.ds.length h.dcap] 27)) [QhR none 0 0,QhR none 0 0,QhR none 0 0,QhR none 0 0] 27;simpa using this
 have hh0:=hh.below hA (QhY _);go_enter (Cut.func_of Tryz.func76 rfl),Tryz.ntmps76;simp only[Hp.v];go_upto_region 1 with fail;generalize ((w.alloc (QhT #[QhR h.oa h.os.length h.ocap,QhR h.ra h.rs.length h.rcap,QhR h.wa h.ws.length h.wcap,QhR h.da h.ds.length h.dcap] 27)).alloc (QhT #[QhR none 0 0,QhR none 0 0,QhR none 0 0,QhR none 0 0] 27))=W0 at *;have hs0:=hA.size;clear hA;obtain⟨x0,x1,x2,x3⟩:=Qb bh0;have c1:=Ut h W0 hh0 c.small;simp only[Hp.v]at c1;go_wp2_with fail;refine c1.mono ?_;rintro en w1 ⟨x,rfl,hxp,qx,hb1⟩;have sx:=(OkC.of_p hxp c).sm;have hA:Below w1.heap.size w1 (w1.alloc (QhT #[QhR x.oa x.os.length x.ocap,QhR x.ra x.rs.length x.rcap,QhR x.wa x.ws.length x.wcap,QhR x.da x.ds.length x.dcap] 27)):=(Below.refl _ _).alloc (QhY _) _
 have d1:SpW w g cd w1.heap.size k x (w1.alloc (QhT #[QhR x.oa x.os.length x.ocap,QhR x.ra x.rs.length x.rcap,QhR x.wa x.ws.length x.wcap,QhR x.da x.ds.length x.dcap] 27)):=
  ⟨(d0.grow hb1).grow hA,(br0.below hb1 br0.lt).below hA (br0.below hb1 br0.lt).lt,Blk.new w1 _ _,(br0.below hb1 br0.lt).lt,(qx.below hA (QhY _)).base hs0,sx⟩
 have hr9:x.rs.length≤8∧x.ws.length≤20∧x.os.length≤60:=by
  have c':=OkC.of_p hxp c;have:=c'.r8;have:=c'.w20;have:=c'.n60;omega
 have hp12:∀i (hi:i<x.os.length),x.os[i].r.length≤6:=fun i hi=>((OkC.of_p hxp c).kind i hi).1;clear c1 hxp qx hb1 d0 bh0 br0 hh0 x0 x1 x2 x3 hA;go_upto_region 2 with fail;generalize (w1.alloc (QhT #[QhR x.oa x.os.length x.ocap,QhR x.ra x.rs.length x.rcap,QhR x.wa x.ws.length x.wcap,QhR x.da x.ds.length x.dcap] 27))=W2 at *;generalize w1.heap.size=q at *;have c1:=QK g cd k 6 W2 hc d1.dw.rd (by omega) (by omega);go_wp2_with fail;refine c1.mono ?_;rintro en w2 ⟨z,rfl,hz,hz',-,hP⟩;have d:=d1.pick hP;have hz':=hz' (by omega);clear c1 hP d1
 go_upto_block 0 with fail
 go_cut []from 12 to 106 (fun wx=>∃(k':Int) (y:Hp),SpW w g cd q k' y wx∧k'≤k+1000)
 case first=>
  obtain⟨b0,b1,b2,b3⟩:=Qb d.bx;by_cases h0:z=0
  ·subst h0;have hdr:Below w2.heap.size w2 w2.drew:=(Below.refl _ _).drew;have hdA:Below w2.heap.size w2 (w2.drew.alloc (QhT #[QhS .i64 (-2),QhS .i64 (-1),QhS .i64 (x.os.length:Int)] 3)):=hdr.alloc (QhY _) _;have dd:=d.grow hdr;have dE:=d.grow hdA;have c1:=QK g cd (k+1) 3 w2.drew hc dd.dw.rd (by omega) (by decide);have c2:=QK g cd (k+1) 3 (w2.drew.alloc (QhT #[QhS .i64 (-2),QhS .i64 (-1),QhS .i64 (x.os.length:Int)] 3)) hc dE.dw.rd (by omega) (by decide);have hgs:g<w2.heap.size:=d.dw.rd.blk.lt
   have hthree:∀z3:Int,0≤z3→z3<3→∃zz:Int,[QhS .i64 (-2),QhS .i64 (-1),QhS .i64 (x.os.length:Int)][z3.toNat]? =some (.int .i64 zz):=fun z3 g0 g3=>by
    rcases(by omega:z3=0∨z3=1∨z3=2)with rfl|rfl|rfl
    ·exact⟨_,rfl⟩
    ·exact⟨_,rfl⟩
    ·exact⟨_,rfl⟩
   have HN:Hid (∀ {wA:World} {zA:Int},0≤zA→zA<3→ZO g cd (k+1+1) w2.drew wA→SpW w g cd q (k+1+1) x wA∧SpW w g cd q (k+1+1) x (wA.alloc (QhT #[QhS .i64 (-2),QhS .i64 (-1),QhS .i64 (x.os.length:Int)] 3))∧∃zz:Int,(wA.alloc (QhT #[QhS .i64 (-2),QhS .i64 (-1),QhS .i64 (x.os.length:Int)] 3)).cell? ⟨wA.heap.size,zA.toNat,none⟩=some (.int .i64 zz)∧∀(y:Int) (j:Nat) (u:Value),[QhS .i64 y][j]? =some u→((wA.alloc (QhT #[QhS .i64 (-2),QhS .i64 (-1),QhS .i64 (x.os.length:Int)] 3)).alloc (QhT #[QhS .i64 y] 3)).cell? ((⟨wA.heap.size+1,0,none⟩:Addr).add j)=some u):=fun {wA zA} g0 g3 hP=>by
    obtain⟨zz,e⟩:=hthree zA g0 g3;refine⟨dd.pick hP,(dd.pick hP).grow ((Below.refl _ _).alloc (QhY _) _),zz,((Blk.new wA _ _).cell zA.toNat).trans e,fun y j u hu=>?_⟩;have:=cell_one_new (wA.alloc (QhT #[QhS .i64 (-2),QhS .i64 (-1),QhS .i64 (x.os.length:Int)] 3)) (QhS .i64 y) 3 j u hu;rwa[World.size_alloc]at this
   have HM:Hid (∀ {wA:World} {zA:Int},0≤zA→zA<3→ZO g cd (k+1+1) (w2.drew.alloc (QhT #[QhS .i64 (-2),QhS .i64 (-1),QhS .i64 (x.os.length:Int)] 3)) wA→SpW w g cd q (k+1+1) x wA∧∃zz:Int,wA.cell? ⟨w2.heap.size,zA.toNat,none⟩=some (.int .i64 zz)):=fun {wA zA} g0 g3 hP=>by
    obtain⟨zz,e⟩:=hthree zA g0 g3;have bN:=(Blk.new w2.drew [QhS .i64 (-2),QhS .i64 (-1),QhS .i64 (x.os.length:Int)] 3).grown hP.gb (show some g≠some w2.drew.heap.size from fun e=>by simp at e;omega);exact⟨dE.pick hP,zz,(bN.cell zA.toNat).trans e⟩
   have hl1:x.rs.length+1≤maxLen:=by unfold maxLen;omega
   have hl2:(x.rs.length+1)*8≤140737488355328:=by omega
   have hl3:x.rs.length<100:=by omega
   have hqs:q<w2.heap.size:=d.bx.lt;have hqn:¬w2.heap.size=q:=Qh0 hqs;have hqn':¬q=w2.heap.size:=Qh4 hqs;clear d dd dE hdr hdA hthree;go_wp2_with fail
   go_region_law (first
    |(refine step_append_lies _ rfl _ _ 24 rfl w.heap.size 3 i0 (.int .i64 0) 1 8 ((Cut.under_eq 24).trans Tryz.underlying24) hi0 hz0 hz1 hz2 rfl (by decide) _ _ _ rfl (World.ownsRow.alloc dL.oq.ro (QhT #[QhS .i64 zz] 3)) ⟨wA.heap.size+1,0,none⟩ 1 1 [.int .i64 zz] rfl rfl (hnA zz) (hone zz) (by decide) hl1 hl2 (Qh5 dL.dw.gb.size (by simp)) _ rfl ?_;intro g' c' wC hown3 hgr hat hlt3;obtain⟨bx,dC⟩:=dL.roots zz hl3 (by simp) (by simp) hown3 hgr (hat.imp id (fun e=>e.trans (by simp)));obtain⟨m0,m1,m2,m3⟩:=Qb bx;obtain⟨f0,f1,f2,f3⟩:=Qo bx)
    |(refine step_append_lies _ rfl _ _ 24 rfl w.heap.size 3 i0 (.int .i64 0) 1 8 ((Cut.under_eq 24).trans Tryz.underlying24) hi0 hz0 hz1 hz2 rfl (by decide) _ _ _ rfl (World.ownsRow.alloc dL.oq.ro (QhT #[QhS .i64 zz] 3)) ⟨wA.heap.size,0,none⟩ 1 1 [.int .i64 zz] rfl rfl (cell_one_new _ _ _) (hone zz) (by decide) hl1 hl2 (Qh5 dL.dw.gb.size (by simp)) _ rfl ?_;intro g' c' wC hown3 hgr hat hlt3;obtain⟨bx,dC⟩:=dL.roots zz hl3 (by simp) (by simp) hown3 hgr (hat.imp id (fun e=>e.trans (by simp)));obtain⟨m0,m1,m2,m3⟩:=Qb bx;obtain⟨f0,f1,f2,f3⟩:=Qo bx)
    |(go_simp;go_at_call 50;refine c1.mono ?_;rintro en wA ⟨zA,rfl,g0,g3,-,hP⟩;have g4:=g3 (by decide);clear g3;obtain⟨dA,dL,zz,dz,hnA⟩:=HN.out g0 g4 hP;obtain⟨v0,v1,v2,v3⟩:=Qb dA.bx;obtain⟨l0,l1,l2,l3⟩:=Qb dL.bx;have hqs2:q<wA.heap.size:=dA.bx.lt;have hqm:¬wA.heap.size=q:=Qh0 hqs2;have hqm':¬q=wA.heap.size:=Qh4 hqs2)
    |(go_simp;go_at_call 50;refine c2.mono ?_;rintro en wA ⟨zA,rfl,g0,g3,-,hP⟩;have g4:=g3 (by decide);clear g3;obtain⟨dL,zz,dz⟩:=HM.out g0 g4 hP;obtain⟨v0,v1,v2,v3⟩:=Qb dL.bx;have hqs2:q<wA.heap.size:=dL.bx.lt;have hqm:¬wA.heap.size=q:=Qh0 hqs2;have hqm':¬q=wA.heap.size:=Qh4 hqs2))
   all_goals
    clear c1 c2 HN HM;go_wp2;go_meet
    case rel=>exact⟨_,_,dC,by omega⟩
  have n0b:(z ==0)=false:=by simpa using h0
  by_cases h1:z=1
  ·subst h1;have dd:=d.grow (W':=w2.drew) ((Below.refl _ _).drew);have c1:=QK g cd (k+1) 4 w2.drew hc dd.dw.rd (by omega) (by decide);have HN:Hid (∀ {wA:World},ZO g cd (k+1+1) w2.drew wA→SpW w g cd q (k+1+1) x wA):=fun hP=>dd.pick hP;have hl1:x.ws.length+1≤maxLen:=by unfold maxLen;omega
   have hl2:(x.ws.length+1)*16≤140737488355328:=by omega
   have hl3:x.ws.length<100:=by omega
   have hk2:k+1+1+1<1000000:=by omega
   clear d dd;go_wp2_with fail
   go_region_law (first
    |(refine step_append_lies _ rfl _ _ 25 rfl w.heap.size 40 j0 _ 2 16 ((Cut.under_eq 25).trans Tryz.underlying25) hj0 hy0 hy1 hy2 rfl (by decide) _ _ _ rfl (World.ownsRow.alloc dB.oq.wa (QhT #[QhS .i64 (IntKind.i64.wrap (zA-1)),QhS .i64 (IntKind.i64.wrap (zB-1))] 40)) ⟨wB.heap.size,0,none⟩ 1 1 (Go.Proofs.YtcpnkpogebjieaaGreat.wc (IntKind.i64.wrap (zA-1),IntKind.i64.wrap (zB-1))) rfl rfl (Yc (w:=wB) (IntKind.i64.wrap (zA-1),IntKind.i64.wrap (zB-1)) 40) (hone2 _ _) (by decide) hl1 hl2 (Qh5 dB.dw.gb.size (by simp)) _ rfl ?_;intro g' c' wC hown3 hgr hat hlt3;obtain⟨bx,dC⟩:=dB.watch (IntKind.i64.wrap (zA-1),IntKind.i64.wrap (zB-1)) hl3 (by simp) (by simp) hown3 hgr (hat.imp id (fun e=>e.trans (by simp)));obtain⟨m0,m1,m2,m3⟩:=Qb bx;obtain⟨f0,f1,f2,f3⟩:=Qo bx)
    |(go_simp;go_at_call 50;refine(QK g cd (k+1+1) 4 wA hc dA.dw.rd hk2 (by decide)).mono ?_;rintro en wB ⟨zB,rfl,-,-,-,hP2⟩;have dB:=dA.pick hP2;obtain⟨v0,v1,v2,v3⟩:=Qb dB.bx;have hqs:q<wB.heap.size:=dB.bx.lt;have hqn:¬wB.heap.size=q:=Qh0 hqs;have hqn':¬q=wB.heap.size:=Qh4 hqs)
    |(go_simp;go_at_call 50;refine c1.mono ?_;rintro en wA ⟨zA,rfl,-,-,-,hP⟩;have dA:=HN.out hP;obtain⟨y0,y1,y2,y3⟩:=Qb dA.bx))
   all_goals
    clear c1 HN;go_wp2;go_meet
    case rel=>exact⟨_,_,dC,by omega⟩
  have n1b:(z ==1)=false:=by simpa using h1
  by_cases h2:z=2
  ·subst h2;have c1:=QK g cd (k+1) 2 w2 hc d.dw.rd (by omega) (by decide);go_wp2_with fail;refine c1.mono ?_;rintro en w3 ⟨zn,rfl,hzn,hzn',-,hP⟩;have d3:=d.pick hP;have hzn':=hzn' (by omega);clear c1 hP d b0 b1 b2 b3;go_wp2
   go_loopg [] ((60+zn).toNat-x.os.length) (fun n wr=>∃y:Hp,y.os.length+n=(60+zn).toNat∧SpW w g cd q (k+1+1) y wr)
   case atStart=>exact⟨x,by omega,d3⟩
   case round=>
    clear d3;obtain⟨y,hyn,d⟩:=hrel;obtain⟨b0,b1,b2,b3⟩:=Qb d.bx;by_cases hlt:(y.os.length:Int)<60+zn
    ·have hltb:decide ((y.os.length:Int)<60+zn)=true:=by simpa using hlt
     have hl3:y.os.length<100:=by omega
     have hvA:=World.ownsRow.alloc d.oq.ob (QhT #[QhS .i64 4,QhZ ⟨#[]⟩,QhR none 0 0] 37);have hsz:=d.dw.gb.size;have hsA:w.heap.size≤(wr.alloc (QhT #[QhS .i64 4,QhZ ⟨#[]⟩,QhR none 0 0] 37)).heap.size:=Qh5 hsz (by simp);have hnews:=World.news_of_block (cs:=#[QhS .i64 4,QhZ ⟨#[]⟩,QhR none 0 0]) (heap_alloc_new wr (QhT #[QhS .i64 4,QhZ ⟨#[]⟩,QhR none 0 0] 37))
     have hone3:∀u∈[QhS .i64 4,QhZ ⟨#[]⟩,QhR none 0 0],u.oneCell'=true:=fun u hu=>by
      simp at hu;rcases hu with rfl|rfl|rfl<;>rfl
     have HAPP:Hid (∀ {v':Value} {wB:World},wB.ownsRow w.heap.size 37 3 v' (y.os.length+1) (y.os.flatMap Ob.cs++ [QhS .i64 4,QhZ ⟨#[]⟩,QhR none 0 0])→(wr.alloc (QhT #[QhS .i64 4,QhZ ⟨#[]⟩,QhR none 0 0] 37)).grownBy wB (QhR y.oa y.os.length y.ocap).ownBlock→∃g' c',v'=.slice (some ⟨g',0,none⟩) (y.os.length+1) c'∧Blk wB q [QhR y.oa y.os.length y.ocap,QhR y.ra y.rs.length y.rcap,QhR y.wa y.ws.length y.wcap,QhR y.da y.ds.length y.dcap] 27∧SpW w g cd q (k+1+1) {y with oa:=some ⟨g',0,none⟩,ocap:=c',os:=y.os++ [(⟨4,⟨#[]⟩,none,0,[]⟩:Ob)]} (wB.setCell ⟨q,0,none⟩ (.slice (some ⟨g',0,none⟩) (y.os.length+1) c'))):=fun {v' wB} ho hg=>by
      rcases ho.2 with⟨_,q2⟩|⟨g',c',cur,q1,_⟩
      ·omega
      ·subst q1;exact⟨g',c',rfl,d.guard hl3 (by simp) (by simp[Ob.cs]) ho hg⟩
     clear d;go_wp2_with (at_builtin;refine wpList_append_own_at _ rfl _ _ 23 rfl w.heap.size 37 n0 _ 3 48 ((Cut.under_eq 23).trans Tryz.underlying23) hn0 hx0 hx1 hx2 rfl (by decide) _ _ _ rfl hvA ⟨wr.heap.size,0,none⟩ 1 1 _ rfl rfl hnews hone3 ?c3 ?c4 hsA ?_)
     case c3=>unfold maxLen;omega
     case c4=>omega
     intro v' wB hownB hgr _ _;obtain⟨g',c',rfl,bx,dB⟩:=HAPP.out hownB hgr;obtain⟨m0,m1,m2,m3⟩:=Qb bx;obtain⟨f0,f1,f2,f3⟩:=Qo bx;clear HAPP hownB hgr hvA hsA hnews hone3 bx b0 b1 b2 b3;go_wp2
     go_roundg (gk-1)
     case measure=>omega
     case rel=>exact⟨_,by simp;omega,dB⟩
    ·have hltb:decide ((y.os.length:Int)<60+zn)=false:=by simpa using hlt
     go_wp2;go_meet
     case rel=>exact⟨_,_,d,by omega⟩
  have n2b:(z ==2)=false:=by simpa using h2
  clear h0 h1 h2;by_cases hl0:x.os.length=0
  ·have hl0b:decide (0<(x.os.length:Int))=false:=decide_eq_false (by omega);go_wp2;go_meet
   case rel=>exact⟨_,_,d,by omega⟩
  have hl0b:decide (0<(x.os.length:Int))=true:=decide_eq_true (by omega);have c1:=QK g cd (k+1) x.os.length w2 hc d.dw.rd (by omega) (by omega);go_wp2_with fail;refine c1.mono ?_;rintro en w3 ⟨kk,rfl,hkk,hkk',-,hP⟩;have d3:=d.pick hP;have hkk':=hkk' (by omega);clear c1 hP d b0 b1 b2 b3;have c1:=QK g cd (k+1+1) 3 w3 hc d3.dw.rd (by omega) (by omega);go_wp2_with fail;refine c1.mono ?_;rintro en w4 ⟨z5,rfl,hz5,-,-,hP⟩;have d4:=d3.pick hP;clear c1 hP d3;obtain⟨go,hoa⟩:=d4.oq.ob.ptr (by omega);obtain⟨i,rfl⟩:∃i:Nat,kk=(i:Int):=⟨kk.toNat,by omega⟩;have hix:i<x.os.length:=by omega
  obtain⟨b0,b1,b2,b3⟩:=Qb d4.bx;rw[hoa]at b0;have HOA:Hid (x.oa=some ⟨go,0,none⟩):=hoa
  have HAT:Hid (∀ {W:World} {k':Int},SpW w g cd q k' x W→(W.cell? ⟨go,i*3,none⟩=some (.int .i64 x.os[i].k)∧W.cell? ⟨go,i*3+1,none⟩=some (.string x.os[i].t)∧W.cell? ⟨go,i*3+2,none⟩=some (.slice x.os[i].ra x.os[i].r.length x.os[i].rcap))∧(W.frozen? ⟨go,i*3,none⟩=false∧W.frozen? ⟨go,i*3+1,none⟩=false∧W.frozen? ⟨go,i*3+2,none⟩=false)∧W.cell? ⟨q,0,none⟩=some (.slice (some ⟨go,0,none⟩) x.os.length x.ocap)∧go<W.heap.size∧q<W.heap.size):=fun {W k'} dW=>by
   have hob:Qw W w.heap.size (.slice (some ⟨go,0,none⟩) x.os.length x.ocap) x.os:=by rw[←HOA.out];exact dW.oq.ob
   have:=dW.bx.cell 0;simp only[Qh6,HOA.out]at this;exact⟨hob.at hix,⟨hob.free _,hob.free _,hob.free _⟩,this,(hob.lt go rfl).2,dW.bx.lt⟩
  clear hoa;by_cases h0:z5=0
  ·subst h0;have dd:=d4.grow (W':=w4.drew) ((Below.refl _ _).drew);have c1:=QK g cd (k+1+1+1) 6 w4.drew hc dd.dw.rd (by omega) (by decide);have HN:Hid (∀ {wA:World},ZO g cd (k+1+1+1+1) w4.drew wA→SpW w g cd q (k+1+1+1+1) x wA):=fun hP=>dd.pick hP;clear d4 dd;go_wp2_with fail;go_region_law (go_simp;go_at_call 50;refine c1.mono ?_;rintro en wA ⟨zA,rfl,-,-,-,hP⟩;have dA:=HN.out hP;obtain⟨⟨t0,t1,t2⟩,⟨p0,p1,p2⟩,y0,-,-⟩:=HAT.out dA)
   all_goals
    have dB:=dA.ob (j:=0) (o:={x.os[i]with k:=zA}) HOA.out hix (by omega) (v:=.int .i64 zA) rfl rfl rfl ⟨by have:=hp12 i hix;simp only;omega,(dA.sm.oo i hix).2⟩;clear c1 HN dA HAT;go_wp2;go_meet
    case rel=>exact⟨_,_,dB,by omega⟩
  have m0b:(z5 ==0)=false:=by simpa using h0
  by_cases h1:z5=1
  ·subst h1;have hA:Below w4.heap.size w4 (w4.drew.alloc (QhT #[QhZ ⟨#[]⟩,QhZ ⟨#[97]⟩,QhZ ⟨#[65]⟩] 9)):=(Below.refl _ _).drew.alloc (QhY _) _;have dd:=d4.grow hA;have c1:=Pl g w4.heap.size cd (k+1+1+1) [⟨#[]⟩,⟨#[97]⟩,⟨#[65]⟩] _ hc dd.dw.rd (by omega) (by simp) (by simp) (Blk.new w4.drew _ _) (by have:=d4.dw.rd.blk.lt;omega);have HN:Hid (∀ {wA:World},ZO g cd (k+1+1+1+1) (w4.drew.alloc (QhT #[QhZ ⟨#[]⟩,QhZ ⟨#[97]⟩,QhZ ⟨#[65]⟩] 9)) wA→SpW w g cd q (k+1+1+1+1) x wA):=fun hP=>dd.pick hP;have hqs:q<w4.heap.size:=d4.bx.lt;have hqn:¬w4.heap.size=q:=Qh0 hqs;have hqn':¬q=w4.heap.size:=Qh4 hqs;clear d4 dd hA;go_wp2_with fail;go_region_law (go_simp;go_at_call 95;refine c1.mono ?_;rintro en wA ⟨t,ht,rfl,hP⟩;have dA:=HN.out hP;obtain⟨⟨t0,t1,t2⟩,⟨p0,p1,p2⟩,y0,-,-⟩:=HAT.out dA)
   all_goals
    have htz:t.size≤100:=by
     simp only[List.mem_cons,List.not_mem_nil,or_false]at ht;rcases ht with rfl|rfl|rfl<;>decide
    have dB:=dA.ob (j:=1) (o:={x.os[i]with t:=t}) HOA.out hix (by omega) (v:=.string t) rfl rfl rfl ⟨by have:=hp12 i hix;simp only;omega,htz⟩;clear c1 HN dA HAT ht;go_wp2;go_meet
    case rel=>exact⟨_,_,dB,by omega⟩
  have m1b:(z5 ==1)=false:=by simpa using h1
  have hl1:x.os[i].r.length+1≤maxLen:=by have:=hp12 i hix;unfold maxLen;omega
  have hl2:(x.os[i].r.length+1)*8≤140737488355328:=by have:=hp12 i hix;omega
  have hl3:x.os[i].r.length<100:=by have:=hp12 i hix;omega
  have dd:=d4.grow (W':=w4.drew) ((Below.refl _ _).drew);have c1:=QK g cd (k+1+1+1) (IntKind.i64.wrap ((x.os.length:Int)+3)) w4.drew hc dd.dw.rd (by omega) (by rw[Kd (by omega) (by omega)];omega);have HN:Hid (∀ {wA:World},ZO g cd (k+1+1+1+1) w4.drew wA→SpW w g cd q (k+1+1+1+1) x wA):=fun hP=>dd.pick hP;obtain⟨⟨t0,t1,t2⟩,⟨p0,p1,p2⟩,y0,hgo,hqs⟩:=HAT.out d4;have hone1:∀z:Int,∀u∈[QhS .i64 z],u.oneCell'=true:=hone;clear d4 dd;go_wp2_with fail;have hC:(fun(W':World)=>W'.cell? ⟨q,0,none⟩=some (.slice (some ⟨go,0,none⟩) x.os.length x.ocap)∧W'.cell? ⟨go,i*3+2,none⟩=some (.slice x.os[i].ra x.os[i].r.length x.os[i].rcap)) w4.drew:=⟨b0,t2⟩;have hib:(i:Int)<(x.os.length:Int):=by omega
  refine PQ (by kernel_rfl) 20 (fun(W':World)=>W'.cell? ⟨q,0,none⟩=some (.slice (some ⟨go,0,none⟩) x.os.length x.ocap)∧W'.cell? ⟨go,i*3+2,none⟩=some (.slice x.os[i].ra x.os[i].r.length x.os[i].rcap)) ?_;refine Q3 (i:=0) (v:=?_) 23 rfl rfl rfl (by kernel_rfl) (by kernel_rfl) (by kernel_rfl) (by kernel_rfl) (by kernel_rfl) rfl (fun _ _ _ h=>h) (QhX ⟨by rfl,?_⟩) hC ?_;rotate_left
  ·intro W hSw;obtain⟨hS1,hS2⟩:=hSw;go_simp
   try with_reducible rfl
  simp only[QhU,QhV,QhW];refine Q3 (i:=1) (v:=?_) 24 rfl rfl rfl (by kernel_rfl) (by kernel_rfl) (by kernel_rfl) (by kernel_rfl) (by kernel_rfl) rfl (fun _ _ _ h=>h) (QhX ⟨by rfl,?_⟩) hC ?_;rotate_left
  ·intro W hSw;obtain⟨hS1,hS2⟩:=hSw;go_simp
   try with_reducible rfl
  simp only[QhU,QhV,QhW];refine Q3 (i:=2) (v:=?_) 25 rfl rfl rfl (by kernel_rfl) (by kernel_rfl) (by kernel_rfl) (by kernel_rfl) (by kernel_rfl) rfl (fun _ _ _ h=>h) (QhX ⟨by rfl,?_⟩) hC ?_;rotate_left
  ·intro W hSw;obtain⟨hS1,hS2⟩:=hSw;go_simp
   try with_reducible rfl
  simp only[QhU,QhV,QhW];refine Q3 (i:=3) (v:=?_) 26 rfl rfl rfl (by kernel_rfl) (by kernel_rfl) (by kernel_rfl) (by kernel_rfl) (by kernel_rfl) rfl (fun _ _ _ h=>h) (QhX ⟨by rfl,?_⟩) hC ?_;rotate_left
  ·intro W hSw;obtain⟨hS1,hS2⟩:=hSw;go_simp
   try with_reducible rfl
  simp only[QhU,QhV,QhW];refine Q3 (i:=4) (v:=?_) 27 rfl rfl rfl (by kernel_rfl) (by kernel_rfl) (by kernel_rfl) (by kernel_rfl) (by kernel_rfl) rfl (fun _ _ _ h=>h) (QhX ⟨by rfl,?_⟩) hC ?_;rotate_left
  ·intro W hSw;obtain⟨hS1,hS2⟩:=hSw;go_simp
   try with_reducible rfl
  simp only[QhU,QhV,QhW];refine Q3 (i:=5) (v:=?_) 28 rfl rfl rfl (by kernel_rfl) (by kernel_rfl) (by kernel_rfl) (by kernel_rfl) (by kernel_rfl) rfl (fun _ _ _ h=>h) (QhX ⟨by rfl,?_⟩) hC ?_;rotate_left
  ·intro W hSw;obtain⟨hS1,hS2⟩:=hSw;go_simp
   try with_reducible rfl
  simp only[QhU,QhV,QhW];refine Q3 (i:=6) (v:=?_) 29 rfl rfl rfl (by kernel_rfl) (by kernel_rfl) (by kernel_rfl) (by kernel_rfl) (by kernel_rfl) rfl (fun _ _ _ h=>h) (QhX ⟨by rfl,?_⟩) hC ?_;rotate_left
  ·intro W hSw;obtain⟨hS1,hS2⟩:=hSw;go_simp
   try with_reducible rfl
  simp only[QhU,QhV,QhW];refine Q3 (i:=7) (v:=?_) 30 rfl rfl rfl (by kernel_rfl) (by kernel_rfl) (by kernel_rfl) (by kernel_rfl) (by kernel_rfl) rfl (fun _ _ _ h=>h) (QhX ⟨by rfl,?_⟩) hC ?_;rotate_left
  ·intro W hSw;obtain⟨hS1,hS2⟩:=hSw;go_simp
   try with_reducible rfl
  simp only[QhU,QhV,QhW];refine Q3 (i:=8) (v:=?_) 31 rfl rfl rfl (by kernel_rfl) (by kernel_rfl) (by kernel_rfl) (by kernel_rfl) (by kernel_rfl) rfl (fun _ _ _ h=>h) (QhX ⟨by rfl,?_⟩) hC ?_;rotate_left
  ·intro W hSw;obtain⟨hS1,hS2⟩:=hSw;go_simp
   try with_reducible rfl
  simp only[QhU,QhV,QhW];refine Q3 (i:=9) (v:=?_) 32 rfl rfl rfl (by kernel_rfl) (by kernel_rfl) (by kernel_rfl) (by kernel_rfl) (by kernel_rfl) rfl (fun _ _ _ h=>h) (QhX ⟨by rfl,?_⟩) hC ?_;rotate_left
  ·intro W hSw;obtain⟨hS1,hS2⟩:=hSw;go_simp
   try with_reducible rfl
  simp only[QhU,QhV,QhW];refine Q3 (i:=10) (v:=?_) 33 rfl rfl rfl (by kernel_rfl) (by kernel_rfl) (by kernel_rfl) (by kernel_rfl) (by kernel_rfl) rfl (fun _ _ _ h=>h) (QhX ⟨by rfl,?_⟩) hC ?_;rotate_left
  ·intro W hSw;obtain⟨hS1,hS2⟩:=hSw;go_simp
   try with_reducible rfl
  simp only[QhU,QhV,QhW];refine Q3 (i:=11) (v:=?_) 34 rfl rfl rfl (by kernel_rfl) (by kernel_rfl) (by kernel_rfl) (by kernel_rfl) (by kernel_rfl) rfl (fun _ _ _ h=>h) (QhX ⟨by rfl,?_⟩) hC ?_;rotate_left
  ·intro W hSw;obtain⟨hS1,hS2⟩:=hSw;go_simp
   try with_reducible rfl
  simp only[QhU,QhV,QhW];refine Q3 (i:=12) (v:=?_) 35 rfl rfl rfl (by kernel_rfl) (by kernel_rfl) (by kernel_rfl) (by kernel_rfl) (by kernel_rfl) rfl (fun _ _ _ h=>h) (QhX ⟨by rfl,?_⟩) hC ?_;rotate_left
  ·intro W hSw;obtain⟨hS1,hS2⟩:=hSw;go_simp
   try with_reducible rfl
  simp only[QhU,QhV,QhW];refine Q3 (i:=13) (v:=?_) 36 rfl rfl rfl (by kernel_rfl) (by kernel_rfl) (by kernel_rfl) (by kernel_rfl) (by kernel_rfl) rfl (fun _ _ _ h=>h) (QhX ⟨by rfl,?_⟩) hC ?_;rotate_left
  ·intro W hSw;obtain⟨hS1,hS2⟩:=hSw;go_simp
   try with_reducible rfl
  simp only[QhU,QhV,QhW];refine JB (rs:=[14]) (by kernel_rfl) (by simp) ?_;refine QP.cons (o:=_) rfl (fun K hK=>?_) QP.nil;go_simp;go_at_call 50;refine c1.mono ?_;rintro en wA ⟨zA,rfl,-,-,-,hP⟩;have dA:=HN.out hP;obtain⟨⟨r0,r1,r2⟩,⟨o0,o1,o2⟩,l0,hgoA,hqsA⟩:=HAT.out dA;have hqm:¬wA.heap.size=q:=Qh0 hqsA;have hgm:¬wA.heap.size=go:=Qh0 hgoA;have hCA:(fun(W':World)=>W'.cell? ⟨q,0,none⟩=some (.slice (some ⟨go,0,none⟩) x.os.length x.ocap)∧W'.cell? ⟨go,i*3+2,none⟩=some (.slice x.os[i].ra x.os[i].r.length x.os[i].rcap)) wA:=⟨l0,r2⟩
  try go_simp
  refine hK.out _ _ hCA ?_;clear hK K c1 HN hC b0 b1 b2 b3 t0 t1 t2 p0 p1 p2 y0
  try simp only[Act.put,Qh1,Qh2,Qh3,QhU,QhV,QhW]
  refine Q3 (i:=15) (v:=?_) 38 rfl rfl rfl (by kernel_rfl) (by kernel_rfl) (by kernel_rfl) (by kernel_rfl) (by kernel_rfl) rfl (fun _ _ _ h=>h) (QhX ⟨by rfl,?_⟩) hCA ?_;rotate_left
  ·intro W hSw;obtain⟨hS1,hS2⟩:=hSw;go_simp
   try with_reducible rfl
  simp only[QhU,QhV,QhW];refine JB (rs:=[16]) (by kernel_rfl) (by simp) ?_;refine QP.cons (o:=_) rfl (fun K hK=>?_) QP.nil;go_simp;have hA:Below wA.heap.size wA (wA.alloc (QhT #[QhS .i64 (IntKind.i64.wrap (zA-2))] 3)):=(Below.refl _ _).alloc (QhY _) _;have hCB:(fun(W':World)=>W'.cell? ⟨q,0,none⟩=some (.slice (some ⟨go,0,none⟩) x.os.length x.ocap)∧W'.cell? ⟨go,i*3+2,none⟩=some (.slice x.os[i].ra x.os[i].r.length x.os[i].rcap)) (wA.alloc (QhT #[QhS .i64 (IntKind.i64.wrap (zA-2))] 3)):=⟨(hA.cell (p:=⟨q,0,none⟩) hqsA).trans l0,(hA.cell (p:=⟨go,i*3+2,none⟩) hgoA).trans r2⟩;refine hK.out _ _ hCB ?_;clear hK K
  try simp only[Act.put,Qh1,Qh2,Qh3,QhU,QhV,QhW]
  refine JB (rs:=[17]) (by kernel_rfl) (by simp) ?_;refine QP.cons (o:=_) rfl (fun K hK=>?_) QP.nil;refine step_append_lies _ rfl _ _ 24 rfl w.heap.size 3 i0 (.int .i64 0) 1 8 ((Cut.under_eq 24).trans Tryz.underlying24) hi0 hz0 hz1 hz2 rfl (by decide) _ _ _ rfl (World.ownsRow.alloc (dA.oq.rs i hix) (QhT #[QhS .i64 (IntKind.i64.wrap (zA-2))] 3)) ⟨wA.heap.size,0,none⟩ 1 1 [.int .i64 (IntKind.i64.wrap (zA-2))] rfl rfl (cell_one_new _ _ _) (hone1 _) (by decide) hl1 hl2 (Qh5 dA.dw.gb.size (by simp)) _ rfl ?_;intro g' c' wC hown3 hgr hat hlt3;obtain⟨ob2,dC⟩:=dA.part (IntKind.i64.wrap (zA-2)) HOA.out hix (by simp) (by simp) hl3 hown3 hgr (hat.imp id (fun e=>e.trans (by simp)));obtain⟨s0,s1,s2⟩:=ob2.at hix;have sf:=ob2.free (i*3+2);have bxC:=(dA.bx.alloc (QhT #[QhS .i64 (IntKind.i64.wrap (zA-2))] 3)).grown hgr (Z7 (dA.bx.alloc _) (World.ownsRow.alloc (dA.oq.rs i hix) (QhT #[QhS .i64 (IntKind.i64.wrap (zA-2))] 3)) (by decide));have lC:=bxC.cell 0;simp only[Qh6,HOA.out]at lC;have hCC:(fun(W':World)=>W'.cell? ⟨q,0,none⟩=some (.slice (some ⟨go,0,none⟩) x.os.length x.ocap)∧W'.cell? ⟨go,i*3+2,none⟩=some (.slice x.os[i].ra x.os[i].r.length x.os[i].rcap)) wC:=⟨lC,s2⟩;refine hK.out _ _ hCC ?_;clear hK K hCA hCB hA hown3 hgr hat bxC ob2 dA HAT
  try simp only[Act.put,Qh1,Qh2,Qh3,QhU,QhV,QhW]
  refine JB (rs:=[18]) (by kernel_rfl) (by simp) ?_;refine QP.cons (o:=_) rfl (fun K hK=>?_) QP.nil;go_simp;refine hK.out _ _ hCC ?_;clear hK K
  try simp only[Act.put,Qh1,Qh2,Qh3,QhU,QhV,QhW]
  refine JB (rs:=[19]) (by kernel_rfl) (by simp) ?_;refine QP.cons (o:=_) rfl (fun K hK=>?_) QP.nil;go_simp;refine hK.out _ _ hCC ?_;clear hK K
  try simp only[Act.put,Qh1,Qh2,Qh3,QhU,QhV,QhW]
  refine JB (rs:=[20]) (by kernel_rfl) (by simp) ?_;refine QP.last (o:=_) rfl (fun K hK=>?_) QP.nil;go_simp;refine hK.out _ _ ?_;clear hK K
  try simp only[Act.put,Qh1,Qh2,Qh3,QhU,QhV,QhW]
  refine PN (by kernel_rfl) ?_ _;go_wp2;go_meet
  case rel=>exact⟨_,_,dC,by omega⟩
 case rest=>
 clear d;obtain⟨k',y,d,hk'⟩:=hcut;obtain⟨x0,x1,x2,x3⟩:=Qb d.bx;obtain⟨y0,y1,y2,y3⟩:=Qb d.br;obtain⟨f0,f1,f2,f3⟩:=Qo d.br;obtain⟨kq,bq⟩:=QR d.br (.slice y.oa y.os.length y.ocap) (.slice y.ra y.rs.length y.rcap) (.slice y.wa y.ws.length y.wcap) (.slice y.da y.ds.length y.dcap);have dq:=d.dw.sets4 (R:=w.heap.size+1) (by omega) (.slice y.oa y.os.length y.ocap) (.slice y.ra y.rs.length y.rcap) (.slice y.wa y.ws.length y.wcap) (.slice y.da y.ds.length y.dcap);have hf:=fun W hK=>d.sm.fit (W:=W) ((d.oq.keep kq).keep hK);obtain⟨z0,z1,z2,z3⟩:=Qb bq;have hav:=d.oq.av d.dw.gw;clear kq bq d;go_wp2;refine bodyPost_ret (v:=y.v) ?_ rfl ⟨y,k',rfl,hf,hav,dq,hk'⟩;simp[results,Tryz.results76,go_sem,z0,z1,z2,z3,Hp.v]
theorem QeY (g:Nat)(cd:Cd)(k:Int)(w:World)(hc:J5 cd)(hr:Rd w g cd k)(hk:k+9000<800000):
 Calls Cut.prog 30 #[.pointer (some ⟨g,0,none⟩)] w fun en w'=>∃(y:Hp) (k':Int),en=.returned y.v∧(∀W,Qf 27 w' W→Fit W y)∧QM y (some g)∧Dw w g cd k' w'∧k'≤k+5000:=by
 have hA:Below w.heap.size w (w.alloc (QhT #[QhR none 0 0,QhR none 0 0,QhR none 0 0,QhR none 0 0] 27)):=(Below.refl _ _).alloc (QhY _) _;have d0:=(Dw.start hr).grow hA;have br0:=Blk.new w [QhR none 0 0,QhR none 0 0,QhR none 0 0,QhR none 0 0] 27;go_enter (Cut.func_of Tryz.func30 rfl),Tryz.ntmps30;go_upto_region 1 with fail;generalize (w.alloc (QhT #[QhR none 0 0,QhR none 0 0,QhR none 0 0,QhR none 0 0] 27))=W0 at *;clear hA;have c1:=QK g cd k 10 W0 hc d0.rd (by omega) (by decide);go_wp2_with fail;refine c1.mono ?_;rintro en w1 ⟨z,rfl,hz,-,-,hP⟩;have d1:=d0.pick hP;have hg:=d0.gw;have br1:=br0.grown hP.gb (by simp;omega);clear c1 hP d0 br0;by_cases h0:z=0
 ·subst h0;have c1:=Qe2 g cd (k+1) w1 hc d1.rd (by omega);go_wp2_with fail;refine c1.mono ?_;rintro en w2 ⟨y,k',rfl,hf,hv,dy,hk'⟩;have d2:=d1.call dy;have br2:=dy.blk br1 (by omega);clear c1 d1 dy br1;simp only[Hp.v];obtain⟨r0,r1,r2,r3⟩:=Qb br2;obtain⟨f0,f1,f2,f3⟩:=Qo br2;obtain⟨kq,bq⟩:=QR br2 (.slice y.oa y.os.length y.ocap) (.slice y.ra y.rs.length y.rcap) (.slice y.wa y.ws.length y.wcap) (.slice y.da y.ds.length y.dcap);have dq:=d2.sets4 (R:=w.heap.size) (QhY _) (.slice y.oa y.os.length y.ocap) (.slice y.ra y.rs.length y.rcap) (.slice y.wa y.ws.length y.wcap) (.slice y.da y.ds.length y.dcap);have hF:=fun W hK=>hf W (kq.trans hK);obtain⟨z0,z1,z2,z3⟩:=Qb bq;clear kq bq;go_wp2;refine bodyPost_ret (v:=y.v) ?_ rfl ⟨y,k',rfl,hF,hv,dq,by omega⟩;simp[results,Tryz.results30,go_sem,z0,z1,z2,z3,Hp.v]
 have n0:(z ==0)=false:=by simpa using h0
 have c1:=Qe1 g cd (k+1) w1 hc d1.rd (by omega);go_wp2_with fail;refine c1.mono ?_;rintro en w2 ⟨h,k',rfl,ok,qh,dh,hk'⟩;have d2:=d1.call dh;have br2:=dh.blk br1 (by omega);have hA:Below w2.heap.size w2 (w2.alloc (QhT #[QhR h.oa h.os.length h.ocap,QhR h.ra h.rs.length h.rcap,QhR h.wa h.ws.length h.wcap,QhR h.da h.ds.length h.dcap] 27)):=(Below.refl _ _).alloc (QhY _) _;have d3:=d2.grow hA;have br3:=br2.below hA br2.lt;have q3:=qh.below hA (QhY _);have bx3:=Blk.new w2 [QhR h.oa h.os.length h.ocap,QhR h.ra h.rs.length h.rcap,QhR h.wa h.ws.length h.wcap,QhR h.da h.ds.length h.dcap] 27;have hw2:=br2.lt;have hg1:g<w1.heap.size:=d1.rd.blk.lt;clear c1 d1 d2 br1 br2 dh qh hA;simp only[Hp.v];go_upto_region 4 with fail;generalize (w2.alloc (QhT #[QhR h.oa h.os.length h.ocap,QhR h.ra h.rs.length h.rcap,QhR h.wa h.ws.length h.wcap,QhR h.da h.ds.length h.dcap] 27))=W3 at *;generalize w2.heap.size=xb at *;have c1:=QK g cd k' 20 W3 hc d3.rd (by omega) (by decide);go_wp2_with fail;refine c1.mono ?_;rintro en w4 ⟨z2,rfl,hz2,-,-,hP⟩;have d4:=d3.pick hP;have br4:=br3.grown hP.gb (by simp;omega);have bx4:=bx3.grown hP.gb (by simp;omega);have q4:=q3.far hP.gb hg1;clear c1 hP d3 br3 bx3 q3;obtain⟨x0,x1,x2,x3⟩:=Qb bx4;by_cases h1:z2=0
 ·subst h1;have c1:=Qe3 h g cd (k'+1) w4 hc d4.rd (by omega) ok q4.isIn;simp only[Hp.v]at c1;go_wp2_with fail;refine c1.mono ?_;rintro en w5 ⟨y,k5,rfl,hf,hv,dy,hk5⟩;have d5:=d4.call dy;have br5:=dy.blk br4 (by omega);clear c1 d4 dy br4 bx4 q4 x0 x1 x2 x3;obtain⟨r0,r1,r2,r3⟩:=Qb br5;obtain⟨f0,f1,f2,f3⟩:=Qo br5;obtain⟨kq,bq⟩:=QR br5 (.slice y.oa y.os.length y.ocap) (.slice y.ra y.rs.length y.rcap) (.slice y.wa y.ws.length y.wcap) (.slice y.da y.ds.length y.dcap);have dq:=d5.sets4 (R:=w.heap.size) (QhY _) (.slice y.oa y.os.length y.ocap) (.slice y.ra y.rs.length y.rcap) (.slice y.wa y.ws.length y.wcap) (.slice y.da y.ds.length y.dcap);have hF:=fun W hK=>hf W (kq.trans hK);obtain⟨z0,z1,z2,z3⟩:=Qb bq;clear kq bq;go_wp2;refine bodyPost_ret (v:=y.v) ?_ rfl ⟨y,k5,rfl,hF,hv,dq,by omega⟩;simp[results,Tryz.results30,go_sem,z0,z1,z2,z3,Hp.v]
 ·have n1:(z2 ==0)=false:=by simpa using h1
  have hf:=fun(W:World) (hK:Qf 27 w4 W)=>ok.fitQ (q4.keep hK);obtain⟨r0,r1,r2,r3⟩:=Qb br4;obtain⟨f0,f1,f2,f3⟩:=Qo br4;obtain⟨kq,bq⟩:=QR br4 (.slice h.oa h.os.length h.ocap) (.slice h.ra h.rs.length h.rcap) (.slice h.wa h.ws.length h.wcap) (.slice h.da h.ds.length h.dcap);have dq:=d4.sets4 (R:=w.heap.size) (QhY _) (.slice h.oa h.os.length h.ocap) (.slice h.ra h.rs.length h.rcap) (.slice h.wa h.ws.length h.wcap) (.slice h.da h.ds.length h.dcap);have hF:=fun W hK=>hf W (kq.trans hK);obtain⟨z0,z1,z2,z3⟩:=Qb bq;clear kq bq;go_wp2;refine bodyPost_ret (v:=h.v) ?_ rfl ⟨h,(k'+1),rfl,hF,q4.av hg1,dq,by omega⟩;simp[results,Tryz.results30,go_sem,z0,z1,z2,z3,Hp.v]
end
end Go.Proofs.YtcpnkpogebjieaaGreat
