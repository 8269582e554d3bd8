/- The specification's own drawing: an event. -/
import Derived.Deep.CutBlock
import Derived.Deep.RegionLaw
import Derived.Deep.AppendLies
import Derived.Deep.QuietTactic
import Derived.BigQuiet
import Derived.Test.YtcpnkpogebjieaaGreatS46Ee
open Go.Value renaming int→QhR,slice→QhS,string→QhU
open Go.Obj renaming cells→QhT
open Nat renaming le_refl→QhV,zero_le→QhW
set_option maxHeartbeats 1600000
set_option maxRecDepth 100000
namespace Go.Proofs.YtcpnkpogebjieaaGreat
section
open Go.RowKit
theorem DrW.start {w W:World}{h:Hp}{g:Nat}{cd:Cd}{k:Int}(d:Dw w g cd k W)(bh:Blk W w.heap.size [QhS h.oa h.os.length h.ocap,QhS h.ra h.rs.length h.rcap,QhS h.wa h.ws.length h.wcap,QhS h.da h.ds.length h.dcap] 27)
 (br:Blk W (w.heap.size+1) [QhR .i64 0,QhR .i64 0,QhR .i64 0,QhR .i64 0,QhR .i64 0,QhU ⟨#[]⟩,QhS none 0 0] 75)(x y z:Int):
 DrW w h g cd W.heap.size 0 k ⟨0,x,y,z,⟨0,⟨#[]⟩,none,0,[]⟩⟩ (W.alloc (QhT #[QhR .i64 0,QhR .i64 x,QhR .i64 y,QhR .i64 z,QhR .i64 0,QhU ⟨#[]⟩,QhS none 0 0] 75)):=by
 have hA:Below W.heap.size W (W.alloc (QhT #[QhR .i64 0,QhR .i64 x,QhR .i64 y,QhR .i64 z,QhR .i64 0,QhU ⟨#[]⟩,QhS none 0 0] 75)):=(Below.refl _ _).alloc (QhV _) _;have dA:=d.grow hA;exact⟨dA.gb,dA.rd,dA.gw,bh.below hA bh.lt,br.below hA br.lt,Blk.new W _ _,br.lt,U0 _ _,QhW _,QhV _⟩
theorem Qai (h:Hp)(pl:Bool)(g:Nat)(cd:Cd)(k:Int)(w:World)(hc:J5 cd)(hr:Rd w g cd k)(hk:k+20<1000000)(c:OkC h)(hh:Qj w h)(ha:QM h (some g)):
 Calls Cut.prog 51 #[.pointer (some ⟨g,0,none⟩),h.v,.bool pl] w fun en w'=>∃(e:Ev) (k':Int),en=.returned e.v∧Qa w' w.heap.size (.slice e.o.ra e.o.r.length e.o.rcap) e.o.r∧e.o.r.length≤8∧e.o.t.size≤13∧Dw w g cd k' w'∧k'≤k+20:=by
 have hr8:=c.r8;obtain⟨i0,hi0,hz0,hz1,hz2⟩:=info_parts Je;have hA:Below w.heap.size w ((w.alloc (QhT #[QhS h.oa h.os.length h.ocap,QhS h.ra h.rs.length h.rcap,QhS h.wa h.ws.length h.wcap,QhS h.da h.ds.length h.dcap] 27)).alloc (QhT #[QhR .i64 0,QhR .i64 0,QhR .i64 0,QhR .i64 0,QhR .i64 0,QhU ⟨#[]⟩,QhS none 0 0] 75)):=((Below.refl _ _).alloc (QhV _) _).alloc (by simp) _;have d0:=(Dw.start hr).grow hA;have bh0:Blk ((w.alloc (QhT #[QhS h.oa h.os.length h.ocap,QhS h.ra h.rs.length h.rcap,QhS h.wa h.ws.length h.wcap,QhS h.da h.ds.length h.dcap] 27)).alloc (QhT #[QhR .i64 0,QhR .i64 0,QhR .i64 0,QhR .i64 0,QhR .i64 0,QhU ⟨#[]⟩,QhS none 0 0] 75)) w.heap.size [QhS h.oa h.os.length h.ocap,QhS h.ra h.rs.length h.rcap,QhS h.wa h.ws.length h.wcap,QhS h.da h.ds.length h.dcap] 27:=(Blk.new w _ _).alloc _
 have br0:Blk ((w.alloc (QhT #[QhS h.oa h.os.length h.ocap,QhS h.ra h.rs.length h.rcap,QhS h.wa h.ws.length h.wcap,QhS h.da h.ds.length h.dcap] 27)).alloc (QhT #[QhR .i64 0,QhR .i64 0,QhR .i64 0,QhR .i64 0,QhR .i64 0,QhU ⟨#[]⟩,QhS none 0 0] 75)) (w.heap.size+1) [QhR .i64 0,QhR .i64 0,QhR .i64 0,QhR .i64 0,QhR .i64 0,QhU ⟨#[]⟩,QhS none 0 0] 75:=by
  have:=Blk.new (w.alloc (QhT #[QhS h.oa h.os.length h.ocap,QhS h.ra h.rs.length h.rcap,QhS h.wa h.ws.length h.wcap,QhS h.da h.ds.length h.dcap] 27)) [QhR .i64 0,QhR .i64 0,QhR .i64 0,QhR .i64 0,QhR .i64 0,QhU ⟨#[]⟩,QhS none 0 0] 75;simpa using this
 go_enter (Cut.func_of Tryz.func51 rfl),Tryz.ntmps51;simp only[Hp.v];go_upto_region 2 with fail;generalize ((w.alloc (QhT #[QhS h.oa h.os.length h.ocap,QhS h.ra h.rs.length h.rcap,QhS h.wa h.ws.length h.wcap,QhS h.da h.ds.length h.dcap] 27)).alloc (QhT #[QhR .i64 0,QhR .i64 0,QhR .i64 0,QhR .i64 0,QhR .i64 0,QhU ⟨#[]⟩,QhS none 0 0] 75))=W0 at *;clear hA;have c1:=QK g cd k h.rs.length W0 hc d0.rd (by omega) (by omega);go_wp2_with fail;refine c1.mono ?_;rintro e w1 ⟨z1,rfl,-,-,-,hP⟩;have hg:=d0.gw;have d1:=d0.pick hP;have bh1:=bh0.grown hP.gb (by simp;omega);have br1:=br0.grown hP.gb (by simp;omega);clear c1 hP d0 bh0 br0;have c1:=QK g cd (k+1) h.rs.length w1 hc d1.rd (by omega) (by omega);go_wp2_with fail;refine c1.mono ?_;rintro e w2 ⟨z2,rfl,-,-,-,hP⟩;have d2:=d1.pick hP;have bh2:=bh1.grown hP.gb (by simp;omega);have br2:=br1.grown hP.gb (by simp;omega);clear c1 hP d1 bh1 br1;have c1:=QK g cd (k+1+1) 3 w2 hc d2.rd (by omega) (by omega);go_wp2_with fail;refine c1.mono ?_;rintro e w3 ⟨z3,rfl,-,-,-,hP⟩;have d3:=d2.pick hP;have bh3:=bh2.grown hP.gb (by simp;omega);have br3:=br2.grown hP.gb (by simp;omega);clear c1 hP d2 bh2 br2;have D0:=DrW.start d3 bh3 br3 z1 z2 z3;clear d3 bh3 br3;go_upto_region 3 with fail;generalize hq:w3.heap.size=q at *;generalize (w3.alloc (QhT #[QhR .i64 0,QhR .i64 z1,QhR .i64 z2,QhR .i64 z3,QhR .i64 0,QhU ⟨#[]⟩,QhS none 0 0] 75))=W4 at *;clear hq;have c1:=QK g cd (k+1+1+1) 16 W4 hc D0.rd (by omega) (by omega);go_wp2_with fail;refine c1.mono ?_;rintro e w5 ⟨z,rfl,hz,hz',-,hP⟩;have D:=D0.pick hP;have hz':=hz' (by omega);clear c1 hP D0
 go_upto_block 0 with fail
 go_cut []from 26 to 147 (fun wx=>∃(k':Int) (e:Ev),DrW w h g cd q 3 k' e wx∧k'≤k+12)
 case first=>
  obtain⟨⟨x0,x1,x2,x3,x4,x5,x6⟩,f0,f1,f2,f3,f4,f5,f6⟩:=D.cells;dsimp only at x0 x1 x2 x3 x4 x5 x6;by_cases hA:z≤2
  ·have hz3:z=0∨z=1∨z=2:=by omega
   clear hA hz hz';rcases hz3 with rfl|rfl|rfl
   all_goals
    go_upto_region 16 with fail;have D1:DrW w h g cd q 0 (k+1+1+1+1) ⟨1,z1,z2,z3,⟨0,⟨#[]⟩,none,0,[]⟩⟩ (w5.setCell ⟨q,0,none⟩ (.int .i64 1)):=D.set 0 (.int .i64 1) _ rfl rfl rfl rfl D.txt;generalize (w5.setCell ⟨q,0,none⟩ (.int .i64 1))=w6 at *;clear D x0 x1 x2 x3 x4 x5 x6 f0 f1 f2 f3 f4 f5 f6;have hA:Below w6.heap.size w6 (w6.alloc (QhT #[QhU ⟨#[97]⟩,QhU ⟨#[98]⟩,QhU ⟨#[99,49]⟩,QhU ⟨#[100,100]⟩] 9)):=(Below.refl _ _).alloc (QhV _) _;have D2:=D1.grow hA;have c1:=Pl g w6.heap.size cd (k+1+1+1+1) [⟨#[97]⟩,⟨#[98]⟩,⟨#[99,49]⟩,⟨#[100,100]⟩] _ hc D2.rd (by omega) (by simp) (by simp) (Blk.new w6 _ _) (by have:=D1.rd.blk.lt;omega);go_wp2_with fail;refine c1.mono ?_;rintro en w7 ⟨t,ht,rfl,hP⟩
    have htz:t.size≤13:=by
     simp only[List.mem_cons,List.not_mem_nil,or_false]at ht;rcases ht with rfl|rfl|rfl|rfl<;>decide
    have D3:=D2.pick hP;have D4:=D3.obj 1 t htz;dsimp only at D4;clear c1 hP D2 D1 hA ht htz;obtain⟨⟨x0,x1,x2,x3,x4,x5,x6⟩,f0,f1,f2,f3,f4,f5,f6⟩:=D3.cells;dsimp only at x0 x1 x2 x3 x4 x5 x6;clear D3;go_wp2;go_meet
    case rel=>exact⟨_,_,D4.most (by omega),by omega⟩
  by_cases hB:z≤6
  ·have hz4:z=3∨z=4∨z=5∨z=6:=by omega
   clear hA hB hz hz';rcases hz4 with rfl|rfl|rfl|rfl
   all_goals
    go_upto_region 22 with fail;have D1:DrW w h g cd q 0 (k+1+1+1+1) ⟨1,z1,z2,z3,⟨0,⟨#[]⟩,none,0,[]⟩⟩ (w5.setCell ⟨q,0,none⟩ (.int .i64 1)):=D.set 0 (.int .i64 1) _ rfl rfl rfl rfl D.txt;generalize (w5.setCell ⟨q,0,none⟩ (.int .i64 1))=w6 at *;clear D x0 x1 x2 x3 x4 x5 x6 f0 f1 f2 f3 f4 f5 f6;obtain⟨⟨x0,x1,x2,x3,x4,x5,x6⟩,f0,f1,f2,f3,f4,f5,f6⟩:=D1.cells;dsimp only at x0 x1 x2 x3 x4 x5 x6;go_upto_region 23 with fail;have D2:=D1.obj 2 ⟨#[]⟩ (QhW _);dsimp only at D2;generalize (((w6.setCell ⟨q,4,none⟩ (.int .i64 2)).setCell ⟨q,5,none⟩ (.string ⟨#[]⟩)).setCell ⟨q,6,none⟩ (.slice none 0 0))=w7 at *;clear D1 x0 x1 x2 x3 x4 x5 x6 f0 f1 f2 f3 f4 f5 f6;have c1:=QK g cd (k+1+1+1+1) 4 w7 hc D2.rd (by omega) (by omega);go_wp2_with fail;refine c1.mono ?_;rintro e w8 ⟨n,rfl,hn,hn',-,hP⟩;have D3:=D2.pick hP;have hn':=hn' (by omega);clear c1 hP D2;go_wp2;go_loopw [9] (fun i wr=>∃(j:Nat) (k':Int) (e:Ev),i=.int .i64 j∧e.o.r.length+j≤3∧k'+j≤k+8∧DrW w h g cd q (3-j) k' e wr) (fun i _=>(intOf i).toNat)
    case atStart=>exact⟨n.toNat,_,_,by go_num,by simp;omega,by omega,D3.most (by omega)⟩
    case round=>
     clear D3;obtain⟨j,k',e,rfl,hj3,hkj,D⟩:=hrel;by_cases hj:0<j
     ·obtain⟨⟨x0,x1,x2,x3,x4,x5,x6⟩,f0,f1,f2,f3,f4,f5,f6⟩:=D.cells;have hdr:Below wr.heap.size wr wr.drew:=(Below.refl _ _).drew;have Dd:=D.grow hdr;have hE:k'+1<1000000:=by omega
      have c1:=QK g cd k' h.rs.length wr.drew hc Dd.rd hE (by omega);have hone:∀z:Int,∀u∈[QhR .i64 z],u.oneCell'=true:=fun z u hu=>by simp at hu;subst hu;rfl
      have HN:Hid (∀ {w1:World},ZO g cd (k'+1) wr.drew w1→DrW w h g cd q (3-j) (k'+1) e w1):=fun hP=>Dd.pick hP;clear D hdr Dd;go_wp2_with fail
      go_region_law (first
       |(refine step_append_lies _ rfl _ _ 24 rfl w.heap.size 3 i0 (.int .i64 0) 1 8 ((Cut.under_eq 24).trans Tryz.underlying24) hi0 hz0 hz1 hz2 rfl (by decide) _ _ _ rfl (World.ownsRow.alloc D1.own (QhT #[QhR .i64 z] 3)) ⟨w1.heap.size,0,none⟩ 1 1 [.int .i64 z] rfl rfl (cell_one_new _ _ _) (hone z) (by decide) (by unfold maxLen;omega) (by omega) (Nat.le_trans D1.gb.size (by simp)) _ rfl ?_;intro g' cap' w2 hown2 hgr hat hlt2;obtain⟨bx,D2⟩:=D1.app [z] (by simp) (by simp) hown2 hgr;have bx6:w2.cell? ⟨q,6,none⟩=some (.slice e.o.ra e.o.r.length e.o.rcap):=bx.cell 6;have bf6:=bx.free 6)
       |(go_simp;go_at_call 50;refine c1.mono ?_;rintro en w1 ⟨z,rfl,hz,-,-,hP⟩;have D1:=HN.out hP;obtain⟨⟨y0,y1,y2,y3,y4,y5,y6⟩,p0,p1,p2,p3,p4,p5,p6⟩:=D1.cells;have hqs:q<w1.heap.size:=D1.be.lt;have hqn:¬w1.heap.size=q:=Nat.ne_of_gt hqs;have hqn':¬q=w1.heap.size:=Nat.ne_of_lt hqs))
      all_goals
       clear c1 HN hone;go_wp2;go_roundw
       case rel=>exact⟨j-1,k'+1,_,by go_num,by simp;omega,by omega,D2.most (by simp;omega)⟩
       case measure=>simp[intOf];omega
     ·have hj0:j=0:=by omega
      subst hj0;go_wp2;go_meet
      case rel=>exact⟨k',e,D.most (by omega),by omega⟩
  have S0:Hid (∀x:Int,DrW w h g cd q 0 (k+1+1+1+1) ⟨x,z1,z2,z3,⟨0,⟨#[]⟩,none,0,[]⟩⟩ (w5.setCell ⟨q,0,none⟩ (.int .i64 x))):=fun x=>D.set 0 (.int .i64 x) _ rfl rfl rfl rfl D.txt;have hz9:z=7∨z=8∨z=9∨z=10∨z=11∨z=12∨z=13∨z=14∨z=15:=by omega
  clear hA hB hz hz' D;rcases hz9 with rfl|rfl|rfl|rfl|rfl|rfl|rfl|rfl|rfl
  iterate 5
   ·go_wp2;go_meet
    case rel=>exact⟨_,_,(S0.out _).most (by omega),by omega⟩
  ·go_upto_region 37 with fail;have D1:=S0.out 1;generalize (w5.setCell ⟨q,0,none⟩ (.int .i64 1))=w6 at *;clear S0 x0 x1 x2 x3 x4 x5 x6 f0 f1 f2 f3 f4 f5 f6;have c1:=QK g cd (k+1+1+1+1) h.rs.length w6 hc D1.rd (by omega) (by omega);go_wp2_with fail;refine c1.mono ?_;rintro e w7 ⟨n1,rfl,-,-,-,hP⟩;have D2:=D1.pick hP;clear c1 hP D1;have c1:=QK g cd (k+1+1+1+1+1) h.rs.length w7 hc D2.rd (by omega) (by omega);go_wp2_with fail;refine c1.mono ?_;rintro e w8 ⟨n2,rfl,-,-,-,hP⟩;have D3:=D2.pick hP;clear c1 hP D2;have D4:=D3.grow (W':=w8.alloc (QhT #[QhR .i64 n1,QhR .i64 n2] 3)) ((Below.refl _ _).alloc (QhV _) _);have ho:Qa (w8.alloc (QhT #[QhR .i64 n1,QhR .i64 n2] 3)) w.heap.size (.slice (some ⟨w8.heap.size,0,none⟩) [n1,n2].length 2) [n1,n2]:=World.ownsRow_lit (e:=3) (size:=1) (base:=w.heap.size) w8 #[QhR .i64 n1,QhR .i64 n2] 2 D3.gb.size (by decide) rfl;have D5:=D4.obj2 3 ⟨#[]⟩ (QhW _) _ _ _ ho;dsimp only[List.length_cons,List.length_nil]at D5;obtain⟨⟨x0,x1,x2,x3,x4,x5,x6⟩,f0,f1,f2,f3,f4,f5,f6⟩:=D4.cells;dsimp only at x0 x1 x2 x3 x4 x5 x6;clear D4 D3 ho;go_wp2;go_meet
   case rel=>exact⟨_,_,D5.most (by omega),by omega⟩
  ·go_upto_region 40 with fail;have D1:=S0.out 1;generalize (w5.setCell ⟨q,0,none⟩ (.int .i64 1))=w6 at *;clear S0 x0 x1 x2 x3 x4 x5 x6 f0 f1 f2 f3 f4 f5 f6;obtain⟨⟨x0,x1,x2,x3,x4,x5,x6⟩,f0,f1,f2,f3,f4,f5,f6⟩:=D1.cells;dsimp only at x0 x1 x2 x3 x4 x5 x6;have D2:=D1.obj 4 ⟨#[]⟩ (QhW _);dsimp only at D2;clear D1;go_wp2;go_meet
   case rel=>exact⟨_,_,D2.most (by omega),by omega⟩
  ·go_upto_region 43 with fail;have D1:=S0.out 5;generalize (w5.setCell ⟨q,0,none⟩ (.int .i64 5))=w6 at *;clear S0 x0 x1 x2 x3 x4 x5 x6 f0 f1 f2 f3 f4 f5 f6;go_wp2;go_loopw [10] (fun i wr=>∃(j:Nat) (t:Int),i=.int .i64 j∧j≤h.rs.length∧DrW w h g cd q 0 (k+1+1+1+1) ⟨5,t,z2,z3,⟨0,⟨#[]⟩,none,0,[]⟩⟩ wr) (fun i _=>h.rs.length-(intOf i).toNat)
   case atStart=>exact⟨0,_,rfl,QhW _,D1⟩
   case round=>
    clear D1;obtain⟨j,t,rfl,hj,D⟩:=hrel;by_cases hlt:j<h.rs.length
    ·have hin:=hh.grown D.gb ha;obtain⟨b0,b1,b2,b3⟩:=Qb D.bh;obtain⟨⟨x0,x1,x2,x3,x4,x5,x6⟩,f0,f1,f2,f3,f4,f5,f6⟩:=D.cells;dsimp only at x0 x1 x2 x3 x4 x5 x6;obtain⟨rb,roff,er,hrb,d1⟩:=hin.sr.get hlt;rw[er]at b1;have hro:=c.ro _ (List.getElem_mem hlt);have hjb:(j:Int)<(h.rs.length:Int):=by omega
     generalize h.rs[j]=s at d1 hro;clear er hrb;by_cases hs:0≤s
     ·obtain⟨ob,ooff,eo,hob,o1,o2,o3⟩:=hin.so.get (k:=s.toNat) (by omega);rw[eo]at b0;have hsb:decide (0≤s)=true:=by simpa using hs
      have hsl:s<(h.os.length:Int):=hro.2;generalize h.os[s.toNat].k=kk at o1;clear eo hob o2 o3 hin;by_cases hk4:kk=4
      ·subst hk4;have hkb:((4:Int)==4)=true:=rfl;go_wp2_with fail;go_quiet (fail);go_wp2;go_roundw
       case rel=>exact⟨j+1,j,by go_num,by omega,(D.grow (ZX (Below.refl _ _) _)).set 1 (.int .i64 j) _ rfl rfl rfl rfl D.txt⟩
       case measure=>simp[intOf];omega
      ·have hkb:(kk ==4)=false:=by simpa using hk4
       go_wp2_with fail;go_quiet (fail);go_wp2;go_roundw
       case rel=>exact⟨j+1,t,by go_num,by omega,D.grow (ZX (Below.refl _ _) _)⟩
       case measure=>simp[intOf];omega
     ·have hsb:decide (0≤s)=false:=by simpa using hs
      clear hin;go_wp2_with fail;go_quiet (fail);go_wp2;go_roundw
      case rel=>exact⟨j+1,t,by go_num,by omega,D.grow (ZX (Below.refl _ _) _)⟩
      case measure=>simp[intOf];omega
    ·have hjb:decide ((j:Int)<(h.rs.length:Int))=false:=by simp;omega
     go_wp2;go_meet
     case rel=>exact⟨_,_,D.most (by omega),by omega⟩
  ·go_upto_region 5 with fail;have D1:=S0.out 6;generalize (w5.setCell ⟨q,0,none⟩ (.int .i64 6))=w6 at *;clear S0 x0 x1 x2 x3 x4 x5 x6 f0 f1 f2 f3 f4 f5 f6;go_wp2;go_loopw [11] (fun i wr=>∃(j:Nat) (t:Int),i=.int .i64 j∧j≤h.rs.length∧DrW w h g cd q 0 (k+1+1+1+1) ⟨6,z1,t,z3,⟨0,⟨#[]⟩,none,0,[]⟩⟩ wr) (fun i _=>h.rs.length-(intOf i).toNat)
   case atStart=>exact⟨0,_,rfl,QhW _,D1⟩
   case round=>
    clear D1;obtain⟨j,t,rfl,hj,D⟩:=hrel;by_cases hlt:j<h.rs.length
    ·have hin:=hh.grown D.gb ha;obtain⟨b0,b1,b2,b3⟩:=Qb D.bh;obtain⟨⟨x0,x1,x2,x3,x4,x5,x6⟩,f0,f1,f2,f3,f4,f5,f6⟩:=D.cells;dsimp only at x0 x1 x2 x3 x4 x5 x6;obtain⟨rb,roff,er,hrb,d1⟩:=hin.sr.get hlt;rw[er]at b1;have hro:=c.ro _ (List.getElem_mem hlt);have hjb:(j:Int)<(h.rs.length:Int):=by omega
     generalize h.rs[j]=s at d1 hro;clear er hrb;by_cases hs:0≤s
     ·obtain⟨ob,ooff,eo,hob,o1,o2,o3⟩:=hin.so.get (k:=s.toNat) (by omega);rw[eo]at b0;have hsb:decide (0≤s)=true:=by simpa using hs
      have hsl:s<(h.os.length:Int):=hro.2;generalize h.os[s.toNat].k=kk at o1;clear eo hob o2 o3 hin;by_cases hk4:kk=4
      ·subst hk4;have hkb:((4:Int)==4)=true:=rfl;go_wp2_with fail;go_quiet (fail);go_wp2;go_roundw
       case rel=>exact⟨j+1,j,by go_num,by omega,(D.grow (ZX (Below.refl _ _) _)).set 2 (.int .i64 j) _ rfl rfl rfl rfl D.txt⟩
       case measure=>simp[intOf];omega
      ·have hkb:(kk ==4)=false:=by simpa using hk4
       go_wp2_with fail;go_quiet (fail);go_wp2;go_roundw
       case rel=>exact⟨j+1,t,by go_num,by omega,D.grow (ZX (Below.refl _ _) _)⟩
       case measure=>simp[intOf];omega
     ·have hsb:decide (0≤s)=false:=by simpa using hs
      clear hin;go_wp2_with fail;go_quiet (fail);go_wp2;go_roundw
      case rel=>exact⟨j+1,t,by go_num,by omega,D.grow (ZX (Below.refl _ _) _)⟩
      case measure=>simp[intOf];omega
    ·have hjb:decide ((j:Int)<(h.rs.length:Int))=false:=by simp;omega
     have c1:=QK g cd (k+1+1+1+1) 3 wr hc D.rd (by omega) (by omega);go_wp2_with fail;refine c1.mono ?_;rintro e w8 ⟨n1,rfl,hn1,-,-,hP⟩;have D2:=D.pick hP;clear c1 hP D;by_cases hp:0<n1
     ·have hpb:decide (0<n1)=true:=by simpa using hp
      obtain⟨⟨x0,x1,x2,x3,x4,x5,x6⟩,f0,f1,f2,f3,f4,f5,f6⟩:=D2.cells;dsimp only at x0 x1 x2 x3 x4 x5 x6;have D3:=D2.set 0 (.int .i64 7) ⟨7,z1,t,z3,⟨0,⟨#[]⟩,none,0,[]⟩⟩ rfl rfl rfl rfl D2.txt;clear D2;go_wp2;go_meet
      case rel=>exact⟨_,_,D3.most (by omega),by omega⟩
     ·have hpb:decide (0<n1)=false:=by simpa using hp
      go_wp2;go_meet
      case rel=>exact⟨_,_,D2.most (by omega),by omega⟩
 case rest=>
  obtain⟨k',e,D,hkk⟩:=hcut;go_upto_region 48 with fail;obtain⟨⟨x0,x1,x2,x3,x4,x5,x6⟩,f0,f1,f2,f3,f4,f5,f6⟩:=D.cells;go_cut [159]from 148 to 158 (fun s wx=>∃b:Bool,s=.bool b∧wx=wc)
  case first=>
   clear D
   cases pl with
   |false=>
    go_wp2;go_meet
    case rel=>exact⟨false,rfl,rfl⟩
   |true=>
    by_cases h5:5≤e.k
    ·have h5b:decide (5≤e.k)=true:=by simpa using h5
     go_wp2;go_meet
     case rel=>exact⟨true,rfl,rfl⟩
    ·have h5b:decide (5≤e.k)=false:=by simpa using h5
     go_wp2;go_meet
     case rel=>exact⟨_,rfl,rfl⟩
  case rest=>
  obtain⟨b,rfl,rfl⟩:=hcut;go_upto_if 159 with fail;go_cut []from 160 to 162 (fun wx=>∃e:Ev,DrW w h g cd q 3 k' e wx)
  case first=>
   cases b with
   |false=>
    go_wp2;go_meet
    case rel=>exact⟨e,D⟩
   |true=>
    have D2:=D.anew 4 e.to;clear D;go_wp2;go_meet
    case rel=>exact⟨_,D2.most (by omega)⟩
  case rest=>
  clear D x0 x1 x2 x3 x4 x5 x6 f0 f1 f2 f3 f4 f5 f6;obtain⟨e,D⟩:=hcut;have c1:=QK g cd k' 40 _ hc D.rd (by omega) (by omega);go_wp2_with fail;refine c1.mono ?_;rintro en w9 ⟨z,rfl,hz,-,-,hP⟩;have D1:=D.pick hP;clear c1 hP D
  go_upto_block 7 with fail
  go_cut []from 165 to 213 (fun wx=>∃(k':Int) (e:Ev),DrW w h g cd q 8 k' e wx∧k'≤k+20)
  case first=>
   have D:=D1;clear D1;obtain⟨⟨x0,x1,x2,x3,x4,x5,x6⟩,f0,f1,f2,f3,f4,f5,f6⟩:=D.cells;by_cases h0:z=0
   ·subst h0;clear x0 x1 x2 x3 x4 x5 x6 f0 f1 f2 f3 f4 f5 f6;have c1:=QK g cd (k'+1) 10 w9 hc D.rd (by omega) (by omega);go_wp2_with fail;refine c1.mono ?_;rintro en w10 ⟨n1,rfl,hn1,hn2,-,hP⟩;have D3:=D.pick hP;have hn2:=hn2 (by omega);clear c1 hP D;have D4:=D3.set 0 (.int .i64 (n1-1)) ⟨n1-1,e.to,e.fr,e.pt,e.o⟩ rfl rfl rfl rfl D3.txt;obtain⟨⟨x0,x1,x2,x3,x4,x5,x6⟩,f0,f1,f2,f3,f4,f5,f6⟩:=D3.cells;clear D3;go_wp2;go_meet
    case rel=>exact⟨_,_,D4.most (by omega),by omega⟩
   by_cases h1:z=1
   ·subst h1;clear h0;have hA:Below w9.heap.size w9 (w9.alloc (QhT #[QhR .i64 (-1),QhR .i64 (h.rs.length:Int)] 3)):=(Below.refl _ _).alloc (QhV _) _;have D2:=D.grow hA;have bA:=Blk.new w9 [QhR .i64 (-1),QhR .i64 (h.rs.length:Int)] 3;have hgn:w9.heap.size≠g:=by have:=D.rd.blk.lt;omega
    have c1:=QK g cd (k'+1) 2 _ hc D2.rd (by omega) (by omega);go_wp2_with fail;refine c1.mono ?_;rintro en w10 ⟨n1,rfl,hn1,hn2,-,hP⟩;have D3:=D2.pick hP;have bB:=bA.grown hP.gb (by simp;omega);have hn2:=hn2 (by omega);have d0:w10.cell? ⟨w9.heap.size,0,none⟩=some (.int .i64 (-1)):=bB.cell 0;have d1:w10.cell? ⟨w9.heap.size,1,none⟩=some (.int .i64 (h.rs.length:Int)):=bB.cell 1;clear c1 hP D2 hA bA bB D x0 x1 x2 x3 x4 x5 x6 f0 f1 f2 f3 f4 f5 f6;have hn01:n1=0∨n1=1:=by omega
    clear hn1 hn2;obtain⟨⟨x0,x1,x2,x3,x4,x5,x6⟩,f0,f1,f2,f3,f4,f5,f6⟩:=D3.cells;rcases hn01 with rfl|rfl
    ·have D4:=D3.set 1 (.int .i64 (-1)) ⟨e.k,(-1),e.fr,e.pt,e.o⟩ rfl rfl rfl rfl D3.txt;clear D3;go_wp2;go_meet
     case rel=>exact⟨_,_,D4.most (by omega),by omega⟩
    ·have D4:=D3.set 1 (.int .i64 (h.rs.length:Int)) ⟨e.k,(h.rs.length:Int),e.fr,e.pt,e.o⟩ rfl rfl rfl rfl D3.txt;clear D3;go_wp2;go_meet
     case rel=>exact⟨_,_,D4.most (by omega),by omega⟩
   by_cases h2:z=2
   ·subst h2;clear h0 h1;have hA:Below w9.heap.size w9 (w9.alloc (QhT #[QhR .i64 (-1),QhR .i64 9] 3)):=(Below.refl _ _).alloc (QhV _) _;have D2:=D.grow hA;have bA:=Blk.new w9 [QhR .i64 (-1),QhR .i64 9] 3;have hgn:w9.heap.size≠g:=by have:=D.rd.blk.lt;omega
    have c1:=QK g cd (k'+1) 2 _ hc D2.rd (by omega) (by omega);go_wp2_with fail;refine c1.mono ?_;rintro en w10 ⟨n1,rfl,hn1,hn2,-,hP⟩;have D3:=D2.pick hP;have bB:=bA.grown hP.gb (by simp;omega);have hn2:=hn2 (by omega);have d0:w10.cell? ⟨w9.heap.size,0,none⟩=some (.int .i64 (-1)):=bB.cell 0;have d1:w10.cell? ⟨w9.heap.size,1,none⟩=some (.int .i64 9):=bB.cell 1;clear c1 hP D2 hA bA bB D x0 x1 x2 x3 x4 x5 x6 f0 f1 f2 f3 f4 f5 f6;have hn01:n1=0∨n1=1:=by omega
    clear hn1 hn2;obtain⟨⟨x0,x1,x2,x3,x4,x5,x6⟩,f0,f1,f2,f3,f4,f5,f6⟩:=D3.cells;rcases hn01 with rfl|rfl
    ·have D4:=D3.set 3 (.int .i64 (-1)) ⟨e.k,e.to,e.fr,(-1),e.o⟩ rfl rfl rfl rfl D3.txt;clear D3;go_wp2;go_meet
     case rel=>exact⟨_,_,D4.most (by omega),by omega⟩
    ·have D4:=D3.set 3 (.int .i64 9) ⟨e.k,e.to,e.fr,9,e.o⟩ rfl rfl rfl rfl D3.txt;clear D3;go_wp2;go_meet
     case rel=>exact⟨_,_,D4.most (by omega),by omega⟩
   by_cases h3:z=3
   ·subst h3;clear h0 h1 h2;have hA:Below w9.heap.size w9 (w9.alloc (QhT #[QhR .i64 (-1),QhR .i64 (h.rs.length:Int)] 3)):=(Below.refl _ _).alloc (QhV _) _;have D2:=D.grow hA;have bA:=Blk.new w9 [QhR .i64 (-1),QhR .i64 (h.rs.length:Int)] 3;have hgn:w9.heap.size≠g:=by have:=D.rd.blk.lt;omega
    have c1:=QK g cd (k'+1) 2 _ hc D2.rd (by omega) (by omega);go_wp2_with fail;refine c1.mono ?_;rintro en w10 ⟨n1,rfl,hn1,hn2,-,hP⟩;have D3:=D2.pick hP;have bB:=bA.grown hP.gb (by simp;omega);have hn2:=hn2 (by omega);have d0:w10.cell? ⟨w9.heap.size,0,none⟩=some (.int .i64 (-1)):=bB.cell 0;have d1:w10.cell? ⟨w9.heap.size,1,none⟩=some (.int .i64 (h.rs.length:Int)):=bB.cell 1;clear c1 hP D2 hA bA bB D x0 x1 x2 x3 x4 x5 x6 f0 f1 f2 f3 f4 f5 f6;have hn01:n1=0∨n1=1:=by omega
    clear hn1 hn2;obtain⟨⟨x0,x1,x2,x3,x4,x5,x6⟩,f0,f1,f2,f3,f4,f5,f6⟩:=D3.cells;rcases hn01 with rfl|rfl
    ·have D4:=D3.set 2 (.int .i64 (-1)) ⟨e.k,e.to,(-1),e.pt,e.o⟩ rfl rfl rfl rfl D3.txt;clear D3;go_wp2;go_meet
     case rel=>exact⟨_,_,D4.most (by omega),by omega⟩
    ·have D4:=D3.set 2 (.int .i64 (h.rs.length:Int)) ⟨e.k,e.to,(h.rs.length:Int),e.pt,e.o⟩ rfl rfl rfl rfl D3.txt;clear D3;go_wp2;go_meet
     case rel=>exact⟨_,_,D4.most (by omega),by omega⟩
   by_cases h4:z=4
   ·subst h4;clear h0 h1 h2 h3;have hsz:=D.gb.size;have hl3:=D.len;have hvA:=World.ownsRow.alloc D.own (QhT #[QhR .i64 (-1),QhR .i64 (h.rs.length:Int),QhR .i64 0,QhR .i64 0,QhR .i64 0] 3);have hsA:w.heap.size≤(w9.alloc (QhT #[QhR .i64 (-1),QhR .i64 (h.rs.length:Int),QhR .i64 0,QhR .i64 0,QhR .i64 0] 3)).heap.size:=Nat.le_trans hsz (by simp)
    have hone:∀u∈[QhR .i64 (-1),QhR .i64 (h.rs.length:Int),QhR .i64 0,QhR .i64 0,QhR .i64 0],u.oneCell'=true:=fun u hu=>by
     simp at hu;rcases hu with rfl|rfl|rfl<;>rfl
    have bN:=Blk.new w9 [QhR .i64 (-1),QhR .i64 (h.rs.length:Int),QhR .i64 0,QhR .i64 0,QhR .i64 0] 3
    have hcells:∀j u,[QhR .i64 (-1),QhR .i64 (h.rs.length:Int),QhR .i64 0,QhR .i64 0,QhR .i64 0][j]? =some u→(w9.alloc (QhT #[QhR .i64 (-1),QhR .i64 (h.rs.length:Int),QhR .i64 0,QhR .i64 0,QhR .i64 0] 3)).cell? ((⟨w9.heap.size,0,none⟩:Addr).add j)=some u:=fun j u hu=>by
     have:=bN.cell j;rw[hu]at this;by_cases hj:j=0
     ·subst hj;exact this
     ·have e:(⟨w9.heap.size,0,none⟩:Addr).add j=⟨w9.heap.size,j,none⟩:=by simp[Addr.add,hj]
      rw[e];exact this
    have HAPP:Hid (∀ {v':Value} {w2:World},w2.ownsRow w.heap.size 3 1 v' (e.o.r.length+5) (e.o.r.map (QhR .i64)++ [QhR .i64 (-1),QhR .i64 (h.rs.length:Int),QhR .i64 0,QhR .i64 0,QhR .i64 0])→(w9.alloc (QhT #[QhR .i64 (-1),QhR .i64 (h.rs.length:Int),QhR .i64 0,QhR .i64 0,QhR .i64 0] 3)).grownBy w2 (QhS e.o.ra e.o.r.length e.o.rcap).ownBlock→∃g' c',v'=.slice (some ⟨g',0,none⟩) (e.o.r.length+5) c'∧Blk w2 q e.cs 75∧DrW w h g cd q (3+5) (k'+1) ⟨e.k,e.to,e.fr,e.pt,⟨e.o.k,e.o.t,some ⟨g',0,none⟩,c',e.o.r++ [-1,(h.rs.length:Int),0,0,0]⟩⟩ (w2.setCell ⟨q,6,none⟩ (.slice (some ⟨g',0,none⟩) (e.o.r.length+5) c'))):=fun {v' w2} ho hg=>by
     rcases ho.2 with⟨_,q2⟩|⟨g',c',cur,q1,_⟩
     ·omega
     ·subst q1;have hD:=D.app [-1,(h.rs.length:Int),0,0,0] (by simp) (by simp) ho hg;exact⟨g',c',rfl,hD⟩
    clear D f0 f1 f2 f3 f4 f5 x0 x1 x2 x3 x4 x5 bN;go_wp2_with (at_builtin;refine wpList_append_own_at _ rfl _ _ 24 rfl w.heap.size 3 i0 (.int .i64 0) 1 8 ((Cut.under_eq 24).trans Tryz.underlying24) hi0 hz0 hz1 hz2 rfl (by decide) _ _ _ rfl hvA ⟨w9.heap.size,0,none⟩ 5 5 _ rfl rfl hcells hone ?c3 ?c4 hsA ?_)
    case c3=>unfold maxLen;omega
    case c4=>omega
    intro v' w2 hown2 hgr _ _;obtain⟨g',c',rfl,bx,D2⟩:=HAPP.out hown2 hgr;have y6:w2.cell? ⟨q,6,none⟩=some (.slice e.o.ra e.o.r.length e.o.rcap):=bx.cell 6;have p6:=bx.free 6;clear hown2 hgr HAPP hvA hsA hcells hone bx;go_wp2;go_meet
    case rel=>exact⟨_,_,D2.most (by omega),by omega⟩
   by_cases h5:z=5
   ·subst h5;clear h0 h1 h2 h3 h4 x0 x1 x2 x3 x4 x5 x6 f0 f1 f2 f3 f4 f5 f6;have hA:Below w9.heap.size w9 (w9.alloc (QhT #[QhU ⟨#[]⟩,QhU ⟨#[65]⟩,QhU ⟨#[120]⟩,QhU ⟨#[116,104,105,114,116,101,101,110,98,121,116,101,115]⟩] 9)):=(Below.refl _ _).alloc (QhV _) _;have D2:=D.grow hA;have c1:=Pl g w9.heap.size cd (k'+1) [⟨#[]⟩,⟨#[65]⟩,⟨#[120]⟩,⟨#[116,104,105,114,116,101,101,110,98,121,116,101,115]⟩] _ hc D2.rd (by omega) (by simp) (by simp) (Blk.new w9 _ _) (by have:=D.rd.blk.lt;omega);go_wp2_with fail;refine c1.mono ?_;rintro en w10 ⟨t,ht,rfl,hP⟩
    have htz:t.size≤13:=by
     simp only[List.mem_cons,List.not_mem_nil,or_false]at ht;rcases ht with rfl|rfl|rfl|rfl<;>decide
    have D3:=D2.pick hP;have D4:=D3.set 5 (.string t) ⟨e.k,e.to,e.fr,e.pt,⟨e.o.k,t,e.o.ra,e.o.rcap,e.o.r⟩⟩ rfl rfl rfl rfl htz;obtain⟨⟨x0,x1,x2,x3,x4,x5,x6⟩,f0,f1,f2,f3,f4,f5,f6⟩:=D3.cells;clear c1 hP D2 D3 D hA ht htz;go_wp2;go_meet
    case rel=>exact⟨_,_,D4.most (by omega),by omega⟩
   have n0:(z ==0)=false:=by simpa using h0
   have n1:(z ==1)=false:=by simpa using h1
   have n2:(z ==2)=false:=by simpa using h2
   have n3:(z ==3)=false:=by simpa using h3
   have n4:(z ==4)=false:=by simpa using h4
   have n5:(z ==5)=false:=by simpa using h5
   clear h0 h1 h2 h3 h4 h5;go_wp2;go_meet
   case rel=>exact⟨_,_,D.most (by omega),by omega⟩
  case rest=>
  clear D1;obtain⟨k9,e9,D,hk9⟩:=hcut;obtain⟨⟨x0,x1,x2,x3,x4,x5,x6⟩,f0,f1,f2,f3,f4,f5,f6⟩:=D.cells;have r0:=D.br.cell 0;have r1:=D.br.cell 1;have r2:=D.br.cell 2;have r3:=D.br.cell 3;have r4:=D.br.cell 4;have r5:=D.br.cell 5;have r6:=D.br.cell 6;simp only[List.getElem?_cons_zero,List.getElem?_cons_succ]at r0 r1 r2 r3 r4 r5 r6;have p0:=D.br.free 0;have p1:=D.br.free 1;have p2:=D.br.free 2;have p3:=D.br.free 3;have p4:=D.br.free 4;have p5:=D.br.free 5;have p6:=D.br.free 6;obtain⟨bR,dR,oR⟩:=D.ret (.int .i64 e9.k) (.int .i64 e9.to) (.int .i64 e9.fr) (.int .i64 e9.pt) (.int .i64 e9.o.k) (.string e9.o.t) (.slice e9.o.ra e9.o.r.length e9.o.rcap);have hl:=D.len;have ht:=D.txt;have y0:=bR.cell 0;have y1:=bR.cell 1;have y2:=bR.cell 2;have y3:=bR.cell 3;have y4:=bR.cell 4;have y5:=bR.cell 5;have y6:=bR.cell 6;simp only[List.getElem?_cons_zero,List.getElem?_cons_succ]at y0 y1 y2 y3 y4 y5 y6;clear D bR;go_wp2;refine bodyPost_ret (v:=e9.v) ?_ rfl ⟨e9,k9,rfl,oR,hl,ht,dR,hk9⟩;simp[results,Tryz.results51,go_sem,y0,y1,y2,y3,y4,y5,y6,Ev.v,Ev.cs]
end
end Go.Proofs.YtcpnkpogebjieaaGreat
