/- The specification's own drawing: a heap by events from nothing on. -/
import Derived.Test.YtcpnkpogebjieaaGreatS45Eb
import Derived.Test.YtcpnkpogebjieaaGreatS46Ee
import Derived.Test.YtcpnkpogebjieaaGreatS47Ef
import Derived.Deep.LoopGhost
import Derived.Deep.RegionHeld3
open Go.Value renaming slice→QhR,int→QhS,string→QhV
open Go.Obj renaming cells→QhT
open Nat renaming le_refl→QhU
open List renaming getElem_set→QhW,getElem?_cons_zero→QhX,getElem?_cons_succ→QhY,getElem_cons_zero→QhZ
set_option maxHeartbeats 1600000
set_option maxRecDepth 100000
namespace Go.Proofs.YtcpnkpogebjieaaGreat
section
open Go.RowKit
theorem Qey:(Cut.prog.info? 75).map (fun i=>(i.zero,i.size,i.bytes))=some (some (.agg #[.int .i64 0,.int .i64 0,.int .i64 0,.int .i64 0,.int .i64 0,.string ⟨#[]⟩,.slice none 0 0]),7,80):=by kernel_rfl
theorem Y3 {W:World}{B e size n g:Nat}{a:Option Addr}{m c:Nat}{xs:List Value}(h:W.ownsRow B e size (.slice a m c) n xs)(hg:g<B):AvI a m (some g):=fun _ x hx e=>by
 rcases h.2 with⟨q,_⟩|⟨g',cap,cur,q,hB,_⟩
 ·simp at q;rw[q.1]at hx
  cases hx
 ·simp only[Value.slice.injEq]at q;rw[q.1]at hx
  cases hx
  simp at e;omega
theorem Qk.av {W:World}{B g:Nat}{h:Hp}(hh:Qk W B h)(hg:g<B):QM h (some g):=
 ⟨Y3 hh.ob hg,fun i hi=>Y3 (hh.rs i hi) hg,Y3 hh.ro hg,Y3 hh.wa hg,Y3 hh.da hg⟩
theorem Qk.turnE {W W':World}{B base n:Nat}{h:Hp}{v:Value}{xs:List Value}(hh:Qk W B h)(hr:W.ownsRow base 75 7 v n xs)(hg:W.grownBy W' v.ownBlock):Qk W' B h:=
 ⟨QO hh.ob hr hg (by decide),fun i hi=>QO (hh.rs i hi) hr hg (by decide),hh.rne,QO hh.ro hr hg (by decide),hh.rro,QO hh.wa hr hg (by decide),QO hh.da hr hg (by decide),hh.wne⟩
theorem Z7 {W:World}{B t base e size n:Nat}{cs:List Value}{v:Value}{xs:List Value}(h:Blk W B cs t)(hr:W.ownsRow base e size v n xs)(ht:t≠e):v.ownBlock≠some B:=fun q=>by
 obtain⟨c,u⟩:=ZB hr q;unfold Blk at h;rw[h]at u;simp at u;exact ht u.2
theorem Blk.other4 {w:World}{B R:Nat}{cs:List Value}{t:TypeId}(h:Blk w B cs t)(hR:B≠R)(v0 v1 v2 v3:Value):Blk ((((w.setCell ⟨R,0,none⟩ v0).setCell ⟨R,1,none⟩ v1).setCell ⟨R,2,none⟩ v2).setCell ⟨R,3,none⟩ v3) B cs t:=
 (((h.other ⟨R,0,none⟩ v0 hR).other ⟨R,1,none⟩ v1 hR).other ⟨R,2,none⟩ v2 hR).other ⟨R,3,none⟩ v3 hR
structure EvW (w:World) (g:Nat) (cd:Cd) (B:Nat) (k:Int) (y:Hp) (v:Value) (n:Nat) (W:World):Prop where
 dw:Dw w g cd k W
 bh:Blk W w.heap.size [QhR y.oa y.os.length y.ocap,QhR y.ra y.rs.length y.rcap,QhR y.wa y.ws.length y.wcap,QhR y.da y.ds.length y.dcap] 27
 br:Blk W (w.heap.size+1) [QhR none 0 0,QhR none 0 0,QhR none 0 0,QhR none 0 0] 27
 ok:OkC y
 q:Qk W B y
 row:∃xs,W.ownsRow w.heap.size 75 7 v n xs
theorem EvW.grow {w:World}{g:Nat}{cd:Cd}{B:Nat}{k:Int}{y:Hp}{v:Value}{n:Nat}{W W':World}(d:EvW w g cd B k y v n W)(hb:Below W.heap.size W W'):EvW w g cd B k y v n W':=by
 obtain⟨xs,hr⟩:=d.row
 exact⟨d.dw.grow hb,d.bh.below hb d.bh.lt,d.br.below hb d.br.lt,d.ok,d.q.below hb (QhU _),xs,World.ownsRow.kept hr (Jd hb (QhU _) none) (by
  cases e:v.ownBlock with
  |none=>exact Or.inl rfl
  |some k=>exact Or.inr (by simp))⟩
theorem EvW.call {w:World}{g:Nat}{cd:Cd}{B:Nat}{k k':Int}{y:Hp}{v:Value}{n:Nat}{W W':World}(d:EvW w g cd B k y v n W)(hd:Dw W g cd k' W')(hg:g<B):EvW w g cd B k' y v n W':=by
 obtain⟨xs,hr⟩:=d.row;have:=d.dw.gw;exact⟨d.dw.call hd,hd.blk d.bh (by omega),hd.blk d.br (by omega),d.ok,d.q.far hd.gb hg,xs,YL hr hd.gb d.dw.gw⟩
theorem EvW.lay {w:World}{g:Nat}{cd:Cd}{B:Nat}{k:Int}{y y':Hp}{v:Value}{n:Nat}{W:World}(d:EvW w g cd B k y v n W)(ok:OkC y')(hq:Qk W B y'):EvW w g cd B k y' v n ((((W.setCell ⟨w.heap.size,0,none⟩ (.slice y'.oa y'.os.length y'.ocap)).setCell ⟨w.heap.size,1,none⟩ (.slice y'.ra y'.rs.length y'.rcap)).setCell ⟨w.heap.size,2,none⟩ (.slice y'.wa y'.ws.length y'.wcap)).setCell ⟨w.heap.size,3,none⟩ (.slice y'.da y'.ds.length y'.dcap)):=by
 obtain⟨xs,hr⟩:=d.row;obtain⟨kq,bq⟩:=QR d.bh (.slice y'.oa y'.os.length y'.ocap) (.slice y'.ra y'.rs.length y'.rcap) (.slice y'.wa y'.ws.length y'.wcap) (.slice y'.da y'.ds.length y'.dcap);exact⟨d.dw.sets4 (QhU _) _ _ _ _,bq,d.br.other4 (by omega) _ _ _ _,ok,hq.keep kq,xs,Qm hr kq (by decide)⟩
theorem EvW.more {w:World}{g:Nat}{cd:Cd}{B:Nat}{k:Int}{y:Hp}{v v':Value}{n:Nat}{W W':World}{xs xs':List Value}(d:EvW w g cd B k y v n W)(hr:W.ownsRow w.heap.size 75 7 v n xs)(hg:W.grownBy W' v.ownBlock)(hr':W'.ownsRow w.heap.size 75 7 v' (n+1) xs'):EvW w g cd B k y v' (n+1) W':=
 ⟨d.dw.step hg (fun j e=>(World.ownsRow.lt hr j e).1),d.bh.grown hg (Z7 d.bh hr (by decide)),d.br.grown hg (Z7 d.br hr (by decide)),d.ok,d.q.turnE hr hg,xs',hr'⟩
theorem Qe0 (h:Hp)(pl:Bool)(g:Nat)(cd:Cd)(k:Int)(B most:Nat)(w:World)(hc:J5 cd)(hr:Rd w g cd k)(hm:most≤40)(hk:k+1+20*most<999000)(c:OkC h)(hq:Qk w B h)(hg:g<B)(hB:B≤w.heap.size):
 Calls Cut.prog 104 #[.pointer (some ⟨g,0,none⟩),h.v,.int .i64 (most:Int),.bool pl] w fun en w'=>∃(y:Hp) (v:Value) (k':Int),en=.returned (.tuple #[y.v,v])∧OkC y∧Qk w' B y∧Dw w g cd k' w'∧k'≤k+1+20*most:=by
 obtain⟨i0,hi0,hz0,hz1,hz2⟩:=info_parts Qey;have hA:Below w.heap.size w (((w.alloc (QhT #[QhR h.oa h.os.length h.ocap,QhR h.ra h.rs.length h.rcap,QhR h.wa h.ws.length h.wcap,QhR h.da h.ds.length h.dcap] 27)).alloc (QhT #[QhR none 0 0,QhR none 0 0,QhR none 0 0,QhR none 0 0] 27)).alloc (QhT #[] 75)):=(((Below.refl _ _).alloc (QhU _) _).alloc (by simp) _).alloc (by simp;omega) _
 have d0:EvW w g cd B k h (.slice (some ⟨w.heap.size+1+1,0,none⟩) 0 0) 0 (((w.alloc (QhT #[QhR h.oa h.os.length h.ocap,QhR h.ra h.rs.length h.rcap,QhR h.wa h.ws.length h.wcap,QhR h.da h.ds.length h.dcap] 27)).alloc (QhT #[QhR none 0 0,QhR none 0 0,QhR none 0 0,QhR none 0 0] 27)).alloc (QhT #[] 75)):=by
  refine⟨(Dw.start hr).grow hA,((Blk.new w _ _).alloc _).alloc _,?_,c,hq.below hA (QhU _),[],?_⟩
  ·have:=(Blk.new (w.alloc (QhT #[QhR h.oa h.os.length h.ocap,QhR h.ra h.rs.length h.rcap,QhR h.wa h.ws.length h.wcap,QhR h.da h.ds.length h.dcap] 27)) [QhR none 0 0,QhR none 0 0,QhR none 0 0,QhR none 0 0] 27).alloc (QhT #[] 75);simpa using this
  ·have:=World.ownsRow_lit (e:=75) (size:=7) (base:=w.heap.size) ((w.alloc (QhT #[QhR h.oa h.os.length h.ocap,QhR h.ra h.rs.length h.rcap,QhR h.wa h.ws.length h.wcap,QhR h.da h.ds.length h.dcap] 27)).alloc (QhT #[QhR none 0 0,QhR none 0 0,QhR none 0 0,QhR none 0 0] 27)) #[] 0 (by simp;omega) (Nat.zero_le _) rfl;simpa using this
 go_enter (Cut.func_of Tryz.func104 rfl),Tryz.ntmps104;simp only[Hp.v];go_upto_region 2 with fail;generalize (((w.alloc (QhT #[QhR h.oa h.os.length h.ocap,QhR h.ra h.rs.length h.rcap,QhR h.wa h.ws.length h.wcap,QhR h.da h.ds.length h.dcap] 27)).alloc (QhT #[QhR none 0 0,QhR none 0 0,QhR none 0 0,QhR none 0 0] 27)).alloc (QhT #[] 75))=W0 at *;clear hA;have c1:=QK g cd k most W0 hc d0.dw.rd (by omega) (by omega);go_wp2_with fail;refine c1.mono ?_;rintro en w1 ⟨z,rfl,hz,hz1',hz0',hP⟩;have d1:=d0.call (k':=k+1) ⟨hP.gb,hP.rd,d0.dw.rd.blk.lt⟩ hg;have hzm:z≤most:=by omega
 clear c1 hP d0 hz1' hz0';go_wp2;go_loopw [10,11] (fun v i wr=>∃(j n:Nat) (y:Hp) (k':Int),i=.int .i64 j∧n+j≤most∧k'+20*j≤k+1+20*most∧EvW w g cd B k' y v n wr) (fun _ i _=>(intOf i).toNat)
 case atStart=>exact⟨z.toNat,0,h,k+1,by go_num,by omega,by omega,d1⟩
 case round=>
  clear d1;obtain⟨j,n,y,k',rfl,hjn,hkk,d⟩:=hrel;obtain⟨b0,b1,b2,b3⟩:=Qb d.bh;by_cases hj:0<j
  ·have hjb:decide (0<(j:Int))=true:=by simpa using hj
   have c1:=Qai y pl g cd k' wr hc d.dw.rd (by omega) d.ok d.q.isIn (d.q.av hg);simp only[Hp.v]at c1;go_wp2_with fail;refine c1.mono ?_;rintro en w1 ⟨e,k'',rfl,ho,hl,ht,dW,hk''⟩;have d1:=d.call dW hg;have hA:Below w1.heap.size w1 (w1.alloc (QhT #[QhS .i64 e.k,QhS .i64 e.to,QhS .i64 e.fr,QhS .i64 e.pt,QhS .i64 e.o.k,QhV e.o.t,QhR e.o.ra e.o.r.length e.o.rcap] 75)):=(Below.refl _ _).alloc (QhU _) _;have d2:=d1.grow hA;have be2:=Blk.new w1 e.cs 75;simp only[Ev.cs]at be2
   have hs2:Qi (w1.alloc (QhT #[QhS .i64 e.k,QhS .i64 e.to,QhS .i64 e.fr,QhS .i64 e.pt,QhS .i64 e.o.k,QhV e.o.t,QhR e.o.ra e.o.r.length e.o.rcap] 75)) e.o.ra e.o.r:=by
    refine Qi.below ?_ hA (QhU _);obtain⟨a,cap,q,hs,_⟩:=ho.form;simp only[Value.slice.injEq]at q;rw[q.1];exact hs
   have hwb:w.heap.size+1<w1.heap.size:=d1.br.lt;clear b0 b1 b2 b3 c1 d d1 dW hA ho;simp only[Ev.v,Ev.cs];go_upto_region 6 with fail;generalize (w1.alloc (QhT #[QhS .i64 e.k,QhS .i64 e.to,QhS .i64 e.fr,QhS .i64 e.pt,QhS .i64 e.o.k,QhV e.o.t,QhR e.o.ra e.o.r.length e.o.rcap] 75))=W2 at *;generalize w1.heap.size=eb at *;obtain⟨b0,b1,b2,b3⟩:=Qb d2.bh;have x0:=be2.cell 0;have x1:=be2.cell 1;have x2:=be2.cell 2;have x3:=be2.cell 3;have x4:=be2.cell 4;have x5:=be2.cell 5;have x6:=be2.cell 6;simp only[QhX,QhY]at x0 x1 x2 x3 x4 x5 x6;have c2:=Qba y e W2 (d2.ok.fitQ d2.q) d2.ok hs2 (by omega) (by unfold maxLen;omega);simp only[Hp.v,Ev.v,Ev.cs]at c2;go_wp2_with fail;refine c2.mono ?_;rintro en w3 ⟨y2,s,rfl,oky,qy,hb3⟩;have d3:=d2.grow hb3;have be3:=be2.below hb3 be2.lt;have hA:Below w3.heap.size w3 (w3.alloc (QhT #[QhR y2.oa y2.os.length y2.ocap,QhR y2.ra y2.rs.length y2.rcap,QhR y2.wa y2.ws.length y2.wcap,QhR y2.da y2.ds.length y2.dcap] 27)):=(Below.refl _ _).alloc (QhU _) _;have d4:=d3.grow hA;have be4:=be3.below hA be3.lt;have qy4:=(qy.below hA (QhU _)).base (C:=B) (Nat.le_trans hB d2.dw.gb.size);have bx4:=Blk.new w3 [QhR y2.oa y2.os.length y2.ocap,QhR y2.ra y2.rs.length y2.rcap,QhR y2.wa y2.ws.length y2.wcap,QhR y2.da y2.ds.length y2.dcap] 27;clear c2 d2 d3 be2 be3 qy hb3 hA hs2 b0 b1 b2 b3 x0 x1 x2 x3 x4 x5 x6;go_upto_region 7 with fail;generalize (w3.alloc (QhT #[QhR y2.oa y2.os.length y2.ocap,QhR y2.ra y2.rs.length y2.rcap,QhR y2.wa y2.ws.length y2.wcap,QhR y2.da y2.ds.length y2.dcap] 27))=W4 at *;generalize w3.heap.size=xb at *;obtain⟨b0,b1,b2,b3⟩:=Qb d4.bh;obtain⟨f0,f1,f2,f3⟩:=Qo d4.bh;obtain⟨x0,x1,x2,x3⟩:=Qb bx4;have d5:=d4.lay oky qy4;have be5:=be4.other4 (R:=w.heap.size) (by omega) (.slice y2.oa y2.os.length y2.ocap) (.slice y2.ra y2.rs.length y2.rcap) (.slice y2.wa y2.ws.length y2.wcap) (.slice y2.da y2.ds.length y2.dcap);clear d4 qy4 bx4 be4;go_upto_region 8 with fail;generalize ((((W4.setCell ⟨w.heap.size,0,none⟩ (.slice y2.oa y2.os.length y2.ocap)).setCell ⟨w.heap.size,1,none⟩ (.slice y2.ra y2.rs.length y2.rcap)).setCell ⟨w.heap.size,2,none⟩ (.slice y2.wa y2.ws.length y2.wcap)).setCell ⟨w.heap.size,3,none⟩ (.slice y2.da y2.ds.length y2.dcap))=W5 at *;clear b0 b1 b2 b3 f0 f1 f2 f3 x0 x1 x2 x3;have x0:=be5.cell 0;have x1:=be5.cell 1;have x2:=be5.cell 2;have x3:=be5.cell 3;have x4:=be5.cell 4;have x5:=be5.cell 5;have x6:=be5.cell 6;simp only[QhX,QhY]at x0 x1 x2 x3 x4 x5 x6;have hA:Below W5.heap.size W5 (W5.alloc (QhT #[QhS .i64 e.k,QhS .i64 e.to,QhS .i64 e.fr,QhS .i64 e.pt,QhS .i64 e.o.k,QhV e.o.t,QhR e.o.ra e.o.r.length e.o.rcap] 75)):=(Below.refl _ _).alloc (QhU _) _;have d6:=d5.grow hA;obtain⟨xs,hrow⟩:=d6.row;have hnews:=World.news_of_block (cs:=#[QhS .i64 e.k,QhS .i64 e.to,QhS .i64 e.fr,QhS .i64 e.pt,QhS .i64 e.o.k,QhV e.o.t,QhR e.o.ra e.o.r.length e.o.rcap]) (heap_alloc_new W5 (QhT #[QhS .i64 e.k,QhS .i64 e.to,QhS .i64 e.fr,QhS .i64 e.pt,QhS .i64 e.o.k,QhV e.o.t,QhR e.o.ra e.o.r.length e.o.rcap] 75))
   have hone:∀u∈[QhS .i64 e.k,QhS .i64 e.to,QhS .i64 e.fr,QhS .i64 e.pt,QhS .i64 e.o.k,QhV e.o.t,QhR e.o.ra e.o.r.length e.o.rcap],u.oneCell'=true:=fun u hu=>by
    simp at hu;rcases hu with rfl|rfl|rfl|rfl|rfl|rfl|rfl<;>rfl
   have hs6:=d6.dw.gb.size;clear d5 be5 hA;go_wp2_with (at_builtin;refine wpList_append_own_at _ rfl _ _ 130 rfl w.heap.size 75 i0 _ 7 80 ((Cut.under_eq 130).trans Tryz.underlying130) hi0 hz0 hz1 hz2 rfl (by decide) _ n xs rfl hrow ⟨W5.heap.size,0,none⟩ 1 1 [QhS .i64 e.k,QhS .i64 e.to,QhS .i64 e.fr,QhS .i64 e.pt,QhS .i64 e.o.k,QhV e.o.t,QhR e.o.ra e.o.r.length e.o.rcap] rfl rfl hnews hone ?c3 ?c4 hs6 ?_)
   case c3=>unfold maxLen;omega
   case c4=>omega
   intro v' w7 hown7 hgr _ _;have d7:=d6.more hrow hgr hown7;clear d6 hrow hgr hown7 x0 x1 x2 x3 x4 x5 x6 hnews hone;go_wp2;go_roundw
   case rel=>exact⟨j-1,n+1,y2,k'',by go_num,by omega,by omega,d7⟩
   case measure=>simp[intOf];omega
  ·have hj0:j=0:=by omega
   subst hj0;obtain⟨kq,bq⟩:=QR d.br (.slice y.oa y.os.length y.ocap) (.slice y.ra y.rs.length y.rcap) (.slice y.wa y.ws.length y.wcap) (.slice y.da y.ds.length y.dcap);have dq:=d.dw.sets4 (R:=w.heap.size+1) (by omega) (.slice y.oa y.os.length y.ocap) (.slice y.ra y.rs.length y.rcap) (.slice y.wa y.ws.length y.wcap) (.slice y.da y.ds.length y.dcap);have oq:=d.q.keep kq;obtain⟨r0,r1,r2,r3⟩:=Qb d.br;obtain⟨f0,f1,f2,f3⟩:=Qo d.br;obtain⟨z0,z1,z2,z3⟩:=Qb bq;have oky:=d.ok;clear kq bq d;go_wp2;refine bodyPost_ret (v:=.tuple #[y.v,u10]) ?_ rfl ⟨y,u10,k',rfl,oky,oq,dq,by omega⟩;simp[results,Tryz.results104,go_sem,z0,z1,z2,z3,Hp.v]
theorem Qe1 (g:Nat)(cd:Cd)(k:Int)(w:World)(hc:J5 cd)(hr:Rd w g cd k)(hk:k+2000<900000):
 Calls Cut.prog 75 #[.pointer (some ⟨g,0,none⟩)] w fun en w'=>∃(y:Hp) (k':Int),en=.returned y.v∧OkC y∧Qk w' w.heap.size y∧Dw w g cd k' w'∧k'≤k+1000:=by
 have hA:Below w.heap.size w (w.alloc (QhT #[QhR none 0 0,QhR none 0 0,QhR none 0 0,QhR none 0 0] 27)):=(Below.refl _ _).alloc (QhU _) _;have d0:=(Dw.start hr).grow hA;have br0:=Blk.new w [QhR none 0 0,QhR none 0 0,QhR none 0 0,QhR none 0 0] 27;have hs0:=hA.size;go_enter (Cut.func_of Tryz.func75 rfl),Tryz.ntmps75;go_upto_region 1 with fail;generalize (w.alloc (QhT #[QhR none 0 0,QhR none 0 0,QhR none 0 0,QhR none 0 0] 27))=W0 at *;clear hA;have c1:=QeZ g cd k W0 hc d0.rd (by omega);go_wp2_with fail;refine c1.mono ?_;rintro en w1 ⟨y,rfl,oky,qy,dy⟩;have d1:=d0.call dy;have hg:=d0.gw;have br1:=dy.blk br0 (by omega);have c2:=Qe0 y false g cd (k+1) W0.heap.size 40 w1 hc d1.rd (by omega) (by omega) oky qy (by omega) dy.gb.size;clear c1 d0 br0 dy qy oky;simp only[Hp.v]at c2⊢;go_wp2_with fail;refine c2.mono ?_;rintro en w2 ⟨y2,v2,k',rfl,ok2,q2,dy2,hk'⟩;have d2:=d1.call dy2;have br2:=dy2.blk br1 (by omega);have hA:Below w2.heap.size w2 (w2.alloc (QhT #[QhR y2.oa y2.os.length y2.ocap,QhR y2.ra y2.rs.length y2.rcap,QhR y2.wa y2.ws.length y2.wcap,QhR y2.da y2.ds.length y2.dcap] 27)):=(Below.refl _ _).alloc (QhU _) _;have d3:=d2.grow hA;have br3:=br2.below hA br2.lt;have q3:=(q2.below hA (QhU _)).base (C:=w.heap.size) hs0;have bx3:=Blk.new w2 [QhR y2.oa y2.os.length y2.ocap,QhR y2.ra y2.rs.length y2.rcap,QhR y2.wa y2.ws.length y2.wcap,QhR y2.da y2.ds.length y2.dcap] 27;clear c2 d1 d2 br1 br2 dy2 q2 hA;go_upto_region 2 with fail;generalize (w2.alloc (QhT #[QhR y2.oa y2.os.length y2.ocap,QhR y2.ra y2.rs.length y2.rcap,QhR y2.wa y2.ws.length y2.wcap,QhR y2.da y2.ds.length y2.dcap] 27))=W3 at *;generalize w2.heap.size=xb at *;obtain⟨x0,x1,x2,x3⟩:=Qb bx3;obtain⟨r0,r1,r2,r3⟩:=Qb br3;obtain⟨f0,f1,f2,f3⟩:=Qo br3;obtain⟨kq,bq⟩:=QR br3 (.slice y2.oa y2.os.length y2.ocap) (.slice y2.ra y2.rs.length y2.rcap) (.slice y2.wa y2.ws.length y2.wcap) (.slice y2.da y2.ds.length y2.dcap);have dq:=d3.sets4 (R:=w.heap.size) (QhU _) (.slice y2.oa y2.os.length y2.ocap) (.slice y2.ra y2.rs.length y2.rcap) (.slice y2.wa y2.ws.length y2.wcap) (.slice y2.da y2.ds.length y2.dcap);have oq:=q3.keep kq;obtain⟨z0,z1,z2,z3⟩:=Qb bq;clear kq bq d3 q3 bx3 br3;go_wp2;refine bodyPost_ret (v:=y2.v) ?_ rfl ⟨y2,k',rfl,ok2,oq,dq,by omega⟩;simp[results,Tryz.results75,go_sem,z0,z1,z2,z3,Hp.v]
theorem QaT {w:World}{base e size g n c:Nat}{xs:List Value}(h:w.ownsRow base e size (.slice (some ⟨g,0,none⟩) n c) n xs)(k:Nat)(v:Value):(w.setCell ⟨g,k,none⟩ v).ownsRow base e size (.slice (some ⟨g,0,none⟩) n c) n (xs.set k v):=by
 rcases h.2 with⟨h1,_⟩|⟨g',cap,cur,h1,hg,hh,hl,hm,hs,ht⟩
 ·simp at h1
 ·simp only[Value.slice.injEq,Option.some.injEq,Addr.mk.injEq,and_true,true_and]at h1;obtain⟨rfl,rfl⟩:=h1;refine⟨by simpa using h.1,Or.inr ⟨g,c,(cur.toList.set k v).toArray,by simp,hg,?_,hl,hm,by simpa using hs,?_⟩⟩
  ·have hb:Blk w g cur.toList e:=by unfold Blk;simpa using hh
   have:=hb.store k v;unfold Blk at this;exact this
  ·rw[List.toList_toArray,List.take_set,ht]
theorem OZ {os:List Ob}{i j:Nat}(hi:i<os.length)(hj:j<3){o:Ob}{v:Value}(ho:o.cs=os[i].cs.set j v):(os.set i o).flatMap Ob.cs=(os.flatMap Ob.cs).set (i*3+j) v:=by
 have hlen:∀o:Ob,o.cs.length=3:=fun _=>rfl
 induction os generalizing i with
 |nil=>simp at hi
 |cons a os ih=>
  cases i with
  |zero=>
   simp only[List.set_cons_zero,List.flatMap_cons,Nat.zero_mul,Nat.zero_add];simp only[QhZ]at ho;rw[ho,List.set_append_left _ _ (by rw[hlen];exact hj)]
  |succ i=>
   simp only[List.set_cons_succ,List.flatMap_cons];simp only[List.getElem_cons_succ]at ho;rw[ih (by simpa using hi) ho,List.set_append_right _ _ (by rw[hlen];omega),hlen];congr 2;omega
theorem Qk.growR {W W':World}{B:Nat}{h:Hp}(hq:Qk W B h){a:Option Addr}{cap:Nat}{rs:List Int}(hg:W.grownBy W' (QhR h.ra h.rs.length h.rcap).ownBlock)(hown:Qa W' B (.slice a rs.length cap) rs)(hat:(QhR a rs.length cap).ownBlock=(QhR h.ra h.rs.length h.rcap).ownBlock∨(QhR a rs.length cap).ownBlock=some W.heap.size):Qk W' B {h with ra:=a,rcap:=cap,rs:=rs}:=
 ⟨QO hq.ob hq.ro hg (by decide),fun i hi=>YK (hq.rs i hi) hg (hq.rro i hi),hq.rne,hown,fun i hi=>Uh (hq.rs i hi) (hq.rro i hi) hat,QO hq.wa hq.ro hg (by decide),QO hq.da hq.ro hg (by decide),hq.wne⟩
theorem Yt {W:World}{base e size n base' e' size' n' g k:Nat}{v u:Value}{xs xs':List Value}{c m:Nat}(h:W.ownsRow base e size v n xs)(h':W.ownsRow base' e' size' (.slice (some ⟨g,0,none⟩) m c) n' xs')(he:e≠e'):(W.setCell ⟨g,k,none⟩ u).ownsRow base e size v n xs:=by
 refine ownsRow_setCell_other h (fun e1=>?_) _;obtain⟨c1,q1⟩:=ZB h e1;obtain⟨c2,q2⟩:=ZB h' rfl;rw[q1]at q2;simp at q2;exact he q2.2
theorem Qk.setOb {W:World}{B:Nat}{h:Hp}(hq:Qk W B h){g i j:Nat}(hoa:h.oa=some ⟨g,0,none⟩)(hi:i<h.os.length)(hj:j<3){o:Ob}{v:Value}(ho:o.cs=h.os[i].cs.set j v)(hrv:o.rv=h.os[i].rv)(hr:o.r=h.os[i].r):Qk (W.setCell ⟨g,i*3+j,none⟩ v) B {h with os:=h.os.set i o}:=by
 have hob:Qw W B (.slice (some ⟨g,0,none⟩) h.os.length h.ocap) h.os:=by rw[←hoa];exact hq.ob
 have hrvs:∀l (hl:l<(h.os.set i o).length),(h.os.set i o)[l].rv=(h.os[l]'(by simpa using hl)).rv∧(h.os.set i o)[l].r=(h.os[l]'(by simpa using hl)).r:=fun l hl=>by
  rw[QhW];split
  ·rename_i e;subst e;exact⟨hrv,hr⟩
  ·exact⟨rfl,rfl⟩
 refine⟨?_,fun l hl=>?_,fun l m hl hm hlm=>?_,Yt hq.ro hob (by decide),fun l hl=>?_,Yt hq.wa hob (by decide),Yt hq.da hob (by decide),hq.wne⟩
 ·have:=QaT hob (i*3+j) v;unfold Qw;simp only[OZ hi hj ho,List.length_set,hoa];exact this
 ·have hl':l<h.os.length:=by simpa using hl
  simp only[hrvs l hl];exact Yt (hq.rs l hl') hob (by decide)
 ·simp only[hrvs l hl,hrvs m hm];exact hq.rne l m (by simpa using hl) (by simpa using hm) hlm
 ·simp only[hrvs l hl];exact hq.rro l (by simpa using hl)
theorem Qk.growP {W W':World}{B:Nat}{h:Hp}(hq:Qk W B h){g i:Nat}(hoa:h.oa=some ⟨g,0,none⟩)(hi:i<h.os.length){a:Option Addr}{cap:Nat}{r:List Int}(hg:W.grownBy W' h.os[i].rv.ownBlock)(hown:Qa W' B (.slice a r.length cap) r)(hat:(QhR a r.length cap).ownBlock=h.os[i].rv.ownBlock∨(QhR a r.length cap).ownBlock=some W.heap.size):
 Qk (W'.setCell ⟨g,i*3+2,none⟩ (.slice a r.length cap)) B {h with os:=h.os.set i {h.os[i]with ra:=a,rcap:=cap,r:=r}}:=by
 have hob:Qw W B (.slice (some ⟨g,0,none⟩) h.os.length h.ocap) h.os:=by rw[←hoa];exact hq.ob
 have hob':Qw W' B (.slice (some ⟨g,0,none⟩) h.os.length h.ocap) h.os:=QO hob (hq.rs i hi) hg (by decide);have ho:({h.os[i]with ra:=a,rcap:=cap,r:=r}:Ob).cs=h.os[i].cs.set 2 (.slice a r.length cap):=rfl;have hrow:∀l (hl:l<h.os.length),l≠i→Qa W' B h.os[l].rv h.os[l].r:=fun l hl e=>YK (hq.rs l hl) hg (hq.rne l i hl hi e);have hap:∀l (hl:l<h.os.length),l≠i→ZM h.os[l].rv (.slice a r.length cap):=fun l hl e=>Uh (hq.rs l hl) (hq.rne l i hl hi e) hat;have hro:Qa W' B (.slice h.ra h.rs.length h.rcap) h.rs:=YK hq.ro hg (hq.rro i hi).symm;have hwa:Qe W' B (.slice h.wa h.ws.length h.wcap) h.ws:=QO hq.wa (hq.rs i hi) hg (by decide);have hda:Qe W' B (.slice h.da h.ds.length h.dcap) h.ds:=QO hq.da (hq.rs i hi) hg (by decide);refine⟨?_,fun l hl=>?_,fun l m hl hm hlm=>?_,Yt hro hob' (by decide),fun l hl=>?_,Yt hwa hob' (by decide),Yt hda hob' (by decide),hq.wne⟩
 ·have:=QaT hob' (i*3+2) (.slice a r.length cap);unfold Qw;simp only[OZ hi (by omega:2<3) ho,List.length_set,hoa];exact this
 ·have hl':l<h.os.length:=by simpa using hl
  simp only[QhW];by_cases e:i=l
  ·subst e;simp only[if_true];exact Yt hown hob' (by decide)
  ·simp only[if_neg e];exact Yt (hrow l hl' (Ne.symm e)) hob' (by decide)
 ·have hl':l<h.os.length:=by simpa using hl
  have hm':m<h.os.length:=by simpa using hm
  simp only[QhW];by_cases e:i=l
  ·subst e;rw[if_pos rfl,if_neg hlm];exact(hap m hm' (Ne.symm hlm)).symm
  ·rw[if_neg e];by_cases e2:i=m
   ·subst e2;rw[if_pos rfl];exact hap l hl' (Ne.symm e)
   ·rw[if_neg e2];exact hq.rne l m hl' hm' hlm
 ·have hl':l<h.os.length:=by simpa using hl
  simp only[QhW];by_cases e:i=l
  ·subst e;rw[if_pos rfl];exact(Uh hq.ro (hq.rro i hi).symm hat).symm
  ·rw[if_neg e];exact hq.rro l hl'
structure Sm (h:Hp):Prop where
 o:h.os.length≤100
 oo:∀i (hi:i<h.os.length),h.os[i].r.length≤100∧h.os[i].t.size≤100
 r:h.rs.length≤100
 w:h.ws.length≤100
 d:h.ds.length≤100
theorem Sm.fit {h:Hp}{W:World}{B:Nat}(s:Sm h)(hq:Qk W B h):Fit W h:=
 ⟨hq.isIn,⟨by have:=s.o;omega,fun i hi=>by have:=(s.oo i hi).1;omega,by have:=s.r;omega,by have:=s.w;omega,by have:=s.d;omega⟩,fun i hi=>by have:=(s.oo i hi).2;unfold maxLen;omega,hq.cap⟩
theorem OkC.sm {h:Hp}(c:OkC h):Sm h:=⟨by have:=c.n60;omega,fun i hi=>by have:=c.kind i hi;omega,by have:=c.r8;omega,by have:=c.w20;omega,by have:=c.w20;omega⟩
theorem Sm.set {h:Hp}(s:Sm h){i:Nat}(hi:i<h.os.length){o:Ob}(ho:o.r.length≤100∧o.t.size≤100):Sm {h with os:=h.os.set i o}:=by
 have:=hi;refine⟨by simpa using s.o,fun l hl=>?_,s.r,s.w,s.d⟩;have hl':l<h.os.length:=by simpa using hl
 simp only[QhW];split
 ·exact ho
 ·exact s.oo l hl'
theorem Sm.more {h:Hp}(s:Sm h)(hn:h.os.length<100){o:Ob}(ho:o.r.length≤100∧o.t.size≤100)(a:Option Addr)(c:Nat):Sm {h with oa:=a,ocap:=c,os:=h.os++ [o]}:=by
 refine⟨by simp;omega,fun l hl=>?_,s.r,s.w,s.d⟩;simp only at hl⊢;by_cases e:l<h.os.length
 ·rw[List.getElem_append_left e];exact s.oo l e
 ·have e':l=h.os.length:=by simp at hl;omega
  subst e';simp only[List.getElem_append_right (QhU _),Nat.sub_self,QhZ];exact ho
structure SpW (w:World) (g:Nat) (cd:Cd) (q:Nat) (k:Int) (x:Hp) (W:World):Prop where
 dw:Dw w g cd k W
 br:Blk W (w.heap.size+1) [QhR none 0 0,QhR none 0 0,QhR none 0 0,QhR none 0 0] 27
 bx:Blk W q [QhR x.oa x.os.length x.ocap,QhR x.ra x.rs.length x.rcap,QhR x.wa x.ws.length x.wcap,QhR x.da x.ds.length x.dcap] 27
 hq:w.heap.size+1<q
 oq:Qk W w.heap.size x
 sm:Sm x
section
variable {w:World} {g:Nat} {cd:Cd} {q:Nat} {k:Int} {x:Hp} {W W' W2:World}
theorem SpW.grow (d:SpW w g cd q k x W)(hb:Below W.heap.size W W'):SpW w g cd q k x W':=
 ⟨d.dw.grow hb,d.br.below hb d.br.lt,d.bx.below hb d.bx.lt,d.hq,d.oq.below hb (QhU _),d.sm⟩
theorem SpW.pick {k':Int}(d:SpW w g cd q k x W)(hp:ZO g cd k' W W'):SpW w g cd q k' x W':=by
 have:=d.dw.gw;have:=d.hq;exact⟨d.dw.pick hp,d.br.grown hp.gb (by simp;omega),d.bx.grown hp.gb (by simp;omega),d.hq,d.oq.far hp.gb d.dw.gw,d.sm⟩
theorem SpW.back {s:Option Nat}{x':Hp}{j:Nat}{v:Value}(d:SpW w g cd q k x W)(hg:W.grownBy W2 s)(hs:∀i,s=some i→w.heap.size≤i∧i≠w.heap.size+1∧i≠q)(ho:Qk W2 w.heap.size x')(hm:Sm x')
 (hx:[QhR x'.oa x'.os.length x'.ocap,QhR x'.ra x'.rs.length x'.rcap,QhR x'.wa x'.ws.length x'.wcap,QhR x'.da x'.ds.length x'.dcap]=[QhR x.oa x.os.length x.ocap,QhR x.ra x.rs.length x.rcap,QhR x.wa x.ws.length x.wcap,QhR x.da x.ds.length x.dcap].set j v):
 Blk W2 q [QhR x.oa x.os.length x.ocap,QhR x.ra x.rs.length x.rcap,QhR x.wa x.ws.length x.wcap,QhR x.da x.ds.length x.dcap] 27∧SpW w g cd q k x' (W2.setCell ⟨q,j,none⟩ v):=by
 have bx2:=d.bx.grown hg (fun e=>(hs _ e).2.2 rfl);have br2:=d.br.grown hg (fun e=>(hs _ e).2.1 rfl);have hq:=d.hq;refine⟨bx2,(d.dw.step hg (fun j e=>(hs j e).1)).set (by omega) j v,br2.other _ _ (by dsimp only;omega),?_,hq,ho.keep (Qf.set bx2 j v),hm⟩;rw[hx];exact bx2.store j v
theorem SpW.apart (d:SpW w g cd q k x W){e size n:Nat}{v:Value}{xs:List Value}(h:W.ownsRow w.heap.size e size v n xs)(he:27≠e):∀i,v.ownBlock=some i→w.heap.size≤i∧i≠w.heap.size+1∧i≠q:=fun i hi=>
 ⟨(World.ownsRow.lt h i hi).1,fun e1=>Z7 d.br h he (e1▸hi),fun e1=>Z7 d.bx h he (e1▸hi)⟩
theorem Pq {v v':Value}{n g':Nat}{m c:Nat}(hv:v'=.slice (some ⟨g',0,none⟩) m c)(hat:v.ownBlock=some g'∨g'=n):v'.ownBlock=v.ownBlock∨v'.ownBlock=some n:=by
 subst hv;rcases hat with e|e
 ·exact Or.inl (by rw[e];rfl)
 ·exact Or.inr (by rw[←e];rfl)
theorem SpW.roots {o:Obj}{g' c' n:Nat}{vs:List Value}(z:Int)(d:SpW w g cd q k x W)(hl:x.rs.length<100)(hn:n=(x.rs++ [z]).length)(hvs:vs=(x.rs++ [z]).map (QhS .i64))(hown:W2.ownsRow w.heap.size 3 1 (.slice (some ⟨g',0,none⟩) n c') n vs)(hg:(W.alloc o).grownBy W2 (QhR x.ra x.rs.length x.rcap).ownBlock)(hat:(QhR x.ra x.rs.length x.rcap).ownBlock=some g'∨g'=W.heap.size+1):
 Blk W2 q [QhR x.oa x.os.length x.ocap,QhR x.ra x.rs.length x.rcap,QhR x.wa x.ws.length x.wcap,QhR x.da x.ds.length x.dcap] 27∧SpW w g cd q k {x with ra:=some ⟨g',0,none⟩,rcap:=c',rs:=x.rs++ [z]} (W2.setCell ⟨q,1,none⟩ (.slice (some ⟨g',0,none⟩) n c')):=by
 subst hn hvs;have dA:=d.grow (W':=W.alloc o) ((Below.refl _ _).alloc (QhU _) _);have hat':(QhR x.ra x.rs.length x.rcap).ownBlock=some g'∨g'=(W.alloc o).heap.size:=by simpa using hat
 exact dA.back hg (dA.apart dA.oq.ro (by decide)) (dA.oq.growR hg hown (Pq rfl hat')) ⟨d.sm.o,d.sm.oo,by simp;omega,d.sm.w,d.sm.d⟩ rfl
theorem SpW.watch {o:Obj}{g' c' n:Nat}{vs:List Value}(p:Int×Int)(d:SpW w g cd q k x W)(hl:x.ws.length<100)(hn:n=(x.ws++ [p]).length)(hvs:vs=(x.ws++ [p]).flatMap wc)(hown:W2.ownsRow w.heap.size 40 2 (.slice (some ⟨g',0,none⟩) n c') n vs)(hg:(W.alloc o).grownBy W2 (QhR x.wa x.ws.length x.wcap).ownBlock)(hat:(QhR x.wa x.ws.length x.wcap).ownBlock=some g'∨g'=W.heap.size+1):
 Blk W2 q [QhR x.oa x.os.length x.ocap,QhR x.ra x.rs.length x.rcap,QhR x.wa x.ws.length x.wcap,QhR x.da x.ds.length x.dcap] 27∧SpW w g cd q k {x with wa:=some ⟨g',0,none⟩,wcap:=c',ws:=x.ws++ [p]} (W2.setCell ⟨q,2,none⟩ (.slice (some ⟨g',0,none⟩) n c')):=by
 subst hn hvs;have dA:=d.grow (W':=W.alloc o) ((Below.refl _ _).alloc (QhU _) _);have hat':(QhR x.wa x.ws.length x.wcap).ownBlock=some g'∨g'=(W.alloc o).heap.size:=by simpa using hat
 exact dA.back hg (dA.apart dA.oq.wa (by decide)) (dA.oq.growW hg hown (Pq rfl hat')) ⟨d.sm.o,d.sm.oo,d.sm.r,by simp;omega,d.sm.d⟩ rfl
theorem SpW.guard {o:Obj}{g' c' n:Nat}{vs:List Value}(d:SpW w g cd q k x W)(hl:x.os.length<100)(hn:n=(x.os++ [(⟨4,⟨#[]⟩,none,0,[]⟩:Ob)]).length)(hvs:vs=(x.os++ [(⟨4,⟨#[]⟩,none,0,[]⟩:Ob)]).flatMap Ob.cs)(hown:W2.ownsRow w.heap.size 37 3 (.slice (some ⟨g',0,none⟩) n c') n vs)(hg:(W.alloc o).grownBy W2 (QhR x.oa x.os.length x.ocap).ownBlock):
 Blk W2 q [QhR x.oa x.os.length x.ocap,QhR x.ra x.rs.length x.rcap,QhR x.wa x.ws.length x.wcap,QhR x.da x.ds.length x.dcap] 27∧SpW w g cd q k {x with oa:=some ⟨g',0,none⟩,ocap:=c',os:=x.os++ [(⟨4,⟨#[]⟩,none,0,[]⟩:Ob)]} (W2.setCell ⟨q,0,none⟩ (.slice (some ⟨g',0,none⟩) n c')):=by
 subst hn hvs;have dA:=d.grow (W':=W.alloc o) ((Below.refl _ _).alloc (QhU _) _);exact dA.back hg (dA.apart dA.oq.ob (by decide)) (dA.oq.growO hg hown (U0 _ _) (fun i hi k hk e=>by simp[Ob.rv,Value.ownBlock]at e) (fun k hk=>by simp[Ob.rv,Value.ownBlock]at hk)) (d.sm.more hl ⟨Nat.zero_le _,Nat.zero_le _⟩ _ _) rfl
theorem SpW.ob {go i j:Nat}{o:Ob}{v:Value}(d:SpW w g cd q k x W)(hoa:x.oa=some ⟨go,0,none⟩)(hi:i<x.os.length)(hj:j<3)(ho:o.cs=x.os[i].cs.set j v)(hrv:o.rv=x.os[i].rv)(hr:o.r=x.os[i].r)(hs:o.r.length≤100∧o.t.size≤100):SpW w g cd q k {x with os:=x.os.set i o} (W.setCell ⟨go,i*3+j,none⟩ v):=by
 have hob:Qw W w.heap.size (.slice (some ⟨go,0,none⟩) x.os.length x.ocap) x.os:=by rw[←hoa];exact d.oq.ob
 have hne:=d.apart hob (by decide) go rfl;refine⟨d.dw.set hne.1 _ _,d.br.other _ _ (fun e=>hne.2.1 e.symm),?_,d.hq,d.oq.setOb hoa hi hj ho hrv hr,d.sm.set hi hs⟩;simpa using d.bx.other ⟨go,i*3+j,none⟩ v (fun e=>hne.2.2 e.symm)
theorem SpW.part {o:Obj}{go i g' c' n:Nat}{vs:List Value}(z:Int)(d:SpW w g cd q k x W)(hoa:x.oa=some ⟨go,0,none⟩)(hi:i<x.os.length)(hn:n=(x.os[i].r++ [z]).length)(hvs:vs=(x.os[i].r++ [z]).map (QhS .i64))(hl:x.os[i].r.length<100)(hown:W2.ownsRow w.heap.size 3 1 (.slice (some ⟨g',0,none⟩) n c') n vs)(hg:(W.alloc o).grownBy W2 x.os[i].rv.ownBlock)(hat:x.os[i].rv.ownBlock=some g'∨g'=W.heap.size+1):
 Qw W2 w.heap.size (.slice (some ⟨go,0,none⟩) x.os.length x.ocap) x.os∧SpW w g cd q k {x with os:=x.os.set i {x.os[i]with ra:=some ⟨g',0,none⟩,rcap:=c',r:=x.os[i].r++ [z]}} (W2.setCell ⟨go,i*3+2,none⟩ (.slice (some ⟨g',0,none⟩) n c')):=by
 subst hn hvs;have dA:=d.grow (W':=W.alloc o) ((Below.refl _ _).alloc (QhU _) _);have hat':x.os[i].rv.ownBlock=some g'∨g'=(W.alloc o).heap.size:=by simpa using hat
 have hob:Qw (W.alloc o) w.heap.size (.slice (some ⟨go,0,none⟩) x.os.length x.ocap) x.os:=by rw[←hoa];exact dA.oq.ob
 have hne:=dA.apart hob (by decide) go rfl;have hnr:=dA.apart (dA.oq.rs i hi) (by decide);refine⟨QO hob (dA.oq.rs i hi) hg (by decide),(dA.dw.step hg (fun j e=>(hnr j e).1)).set hne.1 _ _,(dA.br.grown hg (fun e=>(hnr _ e).2.1 rfl)).other _ _ (fun e=>hne.2.1 e.symm),?_,d.hq,dA.oq.growP hoa hi hg hown (Pq rfl hat'),d.sm.set hi ⟨by simp;omega,(d.sm.oo i hi).2⟩⟩;simpa using(dA.bx.grown hg (fun e=>(hnr _ e).2.2 rfl)).other ⟨go,i*3+2,none⟩ (.slice (some ⟨g',0,none⟩) (x.os[i].r++ [z]).length c') (fun e=>hne.2.2 e.symm)
theorem Qw.at {base go n c:Nat}{os:List Ob}(h:Qw W base (.slice (some ⟨go,0,none⟩) n c) os){i:Nat}(hi:i<os.length):W.cell? ⟨go,i*3,none⟩=some (.int .i64 os[i].k)∧W.cell? ⟨go,i*3+1,none⟩=some (.string os[i].t)∧W.cell? ⟨go,i*3+2,none⟩=some (.slice os[i].ra os[i].r.length os[i].rcap):=by
 have hn:n=os.length:=by
  rcases h.2 with⟨q,_⟩|⟨g',cap,cur,q,_⟩
  ·simp at q
  ·simp only[Value.slice.injEq]at q;exact q.2.1
 subst hn;have hc:=fun j (hj:j<3)=>(World.ownsRow.cellAt h (i*3+j) (by omega)).trans (JE Ob.cs 3 (fun _=>rfl) os i j hi hj);exact⟨hc 0 (by omega),hc 1 (by omega),hc 2 (by omega)⟩
theorem Qw.free {base go n c:Nat}{os:List Ob}(h:Qw W base (.slice (some ⟨go,0,none⟩) n c) os)(k:Nat):W.frozen? ⟨go,k,none⟩=false:=by
 obtain⟨cur,hh⟩:=ZB h rfl;simp[World.frozen?,hh]
theorem Qw.ptr {base n c:Nat}{a:Option Addr}{os:List Ob}(h:Qw W base (.slice a n c) os)(hn:0<os.length):∃go,a=some ⟨go,0,none⟩:=by
 rcases h.2 with⟨h1,h2⟩|⟨go,cap,cur,h1,_⟩
 ·omega
 ·simp only[Value.slice.injEq]at h1;exact⟨go,h1.1⟩
end
end
end Go.Proofs.YtcpnkpogebjieaaGreat
