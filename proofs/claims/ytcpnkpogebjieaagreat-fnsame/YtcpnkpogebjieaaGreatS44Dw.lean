/- The specification's own MemCollect: an ok heap stays ok. -/
import Derived.Test.YtcpnkpogebjieaaGreatS37Vj
open Go.Value renaming slice→QhR,int→QhT
open Nat renaming le_refl→QhS
open Go.Obj renaming cells→QhU
open List renaming length_set→QhV,getElem_set→QhX,getElem?_cons_zero→QhY,getElem?_cons_succ→QhZ
open Go.World renaming cell?_of_block→QhW
set_option maxHeartbeats 1600000
set_option maxRecDepth 100000
namespace Go.Proofs.YtcpnkpogebjieaaGreat
section
open Go.RowKit
theorem QgM (h:Hp)(w:World)(hf:Fit w h):
 Calls Cut.prog 9 #[h.v] w fun e w'=>∃(y:Hp) (v:Value),e=.returned (.tuple #[y.v,v])∧OkC y∧(∀W,Qf 27 w' W→Fit W y)∧Below w.heap.size w w':=
 (QgN h w hf).mono fun _ _ ⟨y,v,_,e,c,f,_,_,_,b⟩=>⟨y,v,e,c,f,b⟩
theorem Qk.rowsLt {w:World}{B:Nat}{h:Hp}(hq:Qk w B h):Ve h w.heap.size:=⟨fun k e=>(hq.ob.lt k e).2,fun k e=>(hq.ro.lt k e).2,fun k e=>(hq.wa.lt k e).2⟩
theorem QeT (h:Hp)(e:Ev)(B:Nat)(w:World)(hq:Qk w B h)(hB:B≤w.heap.size)(c:OkC h)(he:Qi w e.o.ra e.o.r)(hel:e.o.r.length≤1048576)(het:e.o.t.size≤maxLen)(h01:e.k≠7→0≤e.to∧e.to<h.rs.length)(k2:e.k≠2)(k3:e.k≠3):
 Calls Cut.prog 96 #[h.v,e.v] w fun en w'=>∃(y:Hp) (s:ByteArray),en=.returned (.tuple #[y.v,.string s])∧OkC y∧Fit w' y∧Below B w w':=by
 obtain⟨b0,hb0⟩:=Bx3.start w h e;have hq3:=hq.below hb0 (QhS _);have he3:=he.below hb0 (QhS _);have hB3:=Nat.le_trans hB hb0.size;have hTT:=hq.rowsLt;obtain⟨ek,eto,efr,ept,eo⟩:=e;dsimp only at *;go_enter (Cut.func_of Tryz.func96 rfl),Tryz.ntmps96;simp only[Hp.v,Ev.v,Ev.cs];go_upto_region 1 with fail;obtain⟨W3,hW3⟩:∃W3,W3=(((w.alloc (QhU #[QhR h.oa h.os.length h.ocap,QhR h.ra h.rs.length h.rcap,QhR h.wa h.ws.length h.wcap,QhR h.da h.ds.length h.dcap] 27)).alloc (QhU #[QhT .i64 ek,QhT .i64 eto,QhT .i64 efr,QhT .i64 ept,QhT .i64 eo.k,Value.string eo.t,QhR eo.ra eo.r.length eo.rcap] 75)).alloc (QhU #[QhR none 0 0,QhR none 0 0,QhR none 0 0,QhR none 0 0] 27)):=⟨_,rfl⟩;rw[←hW3]at b0 hb0 hq3 he3 hB3⊢;clear hW3;obtain⟨⟨x0,x1,x2,x3⟩,⟨y0,y1,y2,y3,y4,y5,y6⟩,⟨u0,u1,u2,u3⟩,g0,g1,g2,g3⟩:=b0.cells;obtain⟨hqE,hbE,z0,z1,z2,z3⟩:=Jx (T:=w.heap.size) b0.br hq3 (Md.of hb0 hB) (by omega) (by omega) _ _ _ _ rfl rfl rfl rfl;by_cases k1:ek=1
 ·subst k1;obtain⟨h0,h1⟩:=h01 (by omega);clear hqE hbE z0 z1 z2 z3;have cc:=QeW h ⟨1,eto,efr,ept,eo⟩ B w.heap.size W3 hq3 hB3 c hTT he3 hel het h0 h1;simp only[Hp.v,Ev.v,Ev.cs]at cc;go_wp2_with fail;refine cc.mono ?_;rintro en w1 ⟨y,s,rfl,cy,hqy,hM⟩
  have br1:Blk w1 (w.heap.size+1+1) [QhR none 0 0,QhR none 0 0,QhR none 0 0,QhR none 0 0] 27:=by
   have:=hM.fr (w.heap.size+1+1) (by omega) b0.br.lt;unfold Blk;rw[this];exact b0.br
  clear x0 x1 x2 x3 y0 y1 y2 y3 y4 y5 y6 u0 u1 u2 u3 g0 g1 g2 g3;obtain⟨r0,r1,r2,r3⟩:=Qb br1;obtain⟨f0,f1,f2,f3⟩:=Qo br1;obtain⟨kq,bq⟩:=QR br1 (.slice y.oa y.os.length y.ocap) (.slice y.ra y.rs.length y.rcap) (.slice y.wa y.ws.length y.wcap) (.slice y.da y.ds.length y.dcap);obtain⟨z0,z1,z2,z3⟩:=Qb bq;have hqE:=hqy.keep kq;have hbE:=ZS ((hb0.mono hB).trans hM.be) (C:=w.heap.size+1+1) (by omega) (.slice y.oa y.os.length y.ocap) (.slice y.ra y.rs.length y.rcap) (.slice y.wa y.ws.length y.wcap) (.slice y.da y.ds.length y.dcap);clear kq bq cc hM hqy;go_wp2;refine bodyPost_ret (v:=.tuple #[y.v,.string s]) ?_ rfl ⟨y,s,rfl,cy,cy.fitQ hqE,hbE⟩;simp[results,Tryz.results96,go_sem,z0,z1,z2,z3,Hp.v]
 have n1:(ek ==1)=false:=by simp[k1]
 have n2:(ek ==2)=false:=by simp[k2]
 have n3:(ek ==3)=false:=by simp[k3]
 by_cases k4:ek=4
 ·subst k4;obtain⟨h0,h1⟩:=h01 (by omega);obtain⟨gr,hgr⟩:=hq3.ro.ptr (by omega);have hro3:Qa W3 B (.slice (some ⟨gr,0,none⟩) h.rs.length h.rcap) h.rs:=by rw[←hgr];exact hq3.ro
  have hgT:gr<w.heap.size:=hTT.r gr (by rw[hgr];rfl);have q0:=hro3.at (k:=eto.toNat) (by omega);have q1:=hro3.free eto.toNat;have hqF:=hq3.setRoot hgr eto.toNat (-1);have hMF:Md B w.heap.size w (W3.setCell ⟨gr,eto.toNat,none⟩ (.int .i64 (-1))):=(Md.of hb0 hB).set (p:=⟨gr,eto.toNat,none⟩) (hro3.lt gr rfl).1 (Or.inl hgT) _;have brF:=b0.br.other ⟨gr,eto.toNat,none⟩ (.int .i64 (-1)) (by dsimp only;omega);have cF:=c.root (z:=-1) ⟨by omega,by omega⟩ eto.toNat;clear hqE hbE z0 z1 z2 z3;obtain⟨hqE,hbE,z0,z1,z2,z3⟩:=Jx brF hqF hMF (by omega) (by omega) (.slice h.oa h.os.length h.ocap) (.slice (some ⟨gr,0,none⟩) h.rs.length h.rcap) (.slice h.wa h.ws.length h.wcap) (.slice h.da h.ds.length h.dcap) rfl (by simp[hgr]) rfl rfl;have hne1:¬w.heap.size=gr:=by omega
  have hne2:¬gr=w.heap.size:=by omega
  clear hqF hMF brF;go_wp2;refine bodyPost_ret (v:=.tuple #[Hp.v {h with rs:=h.rs.set eto.toNat (-1)},.string ⟨#[111,107]⟩]) ?_ rfl ⟨{h with rs:=h.rs.set eto.toNat (-1)},⟨_,rfl⟩,cF,cF.fitQ hqE,hbE.be⟩;simp[results,Tryz.results96,go_sem,z0,z1,z2,z3,Hp.v,hgr]
 have n4:(ek ==4)=false:=by simp[k4]
 by_cases k5:ek=5
 ·subst k5;clear hqE hbE z0 z1 z2 z3;have cc:=QeX h ⟨5,eto,efr,ept,eo⟩ B w.heap.size W3 hq3 hB3 c hTT;simp only[Hp.v,Ev.v,Ev.cs]at cc;go_wp2_with fail;refine cc.mono ?_;rintro en w1 ⟨y,s,rfl,cy,hqy,hM⟩
  have br1:Blk w1 (w.heap.size+1+1) [QhR none 0 0,QhR none 0 0,QhR none 0 0,QhR none 0 0] 27:=by
   have:=hM.fr (w.heap.size+1+1) (by omega) b0.br.lt;unfold Blk;rw[this];exact b0.br
  clear x0 x1 x2 x3 y0 y1 y2 y3 y4 y5 y6 u0 u1 u2 u3 g0 g1 g2 g3;obtain⟨r0,r1,r2,r3⟩:=Qb br1;obtain⟨f0,f1,f2,f3⟩:=Qo br1;obtain⟨kq,bq⟩:=QR br1 (.slice y.oa y.os.length y.ocap) (.slice y.ra y.rs.length y.rcap) (.slice y.wa y.ws.length y.wcap) (.slice y.da y.ds.length y.dcap);obtain⟨z0,z1,z2,z3⟩:=Qb bq;have hqE:=hqy.keep kq;have hbE:=ZS ((hb0.mono hB).trans hM.be) (C:=w.heap.size+1+1) (by omega) (.slice y.oa y.os.length y.ocap) (.slice y.ra y.rs.length y.rcap) (.slice y.wa y.ws.length y.wcap) (.slice y.da y.ds.length y.dcap);clear kq bq cc hM hqy;go_wp2;refine bodyPost_ret (v:=.tuple #[y.v,.string s]) ?_ rfl ⟨y,s,rfl,cy,cy.fitQ hqE,hbE⟩;simp[results,Tryz.results96,go_sem,z0,z1,z2,z3,Hp.v]
 have n5:(ek ==5)=false:=by simp[k5]
 by_cases k6:ek=6
 ·subst k6;obtain⟨h0,h1⟩:=h01 (by omega);clear hqE hbE z0 z1 z2 z3;have cc:=QeS h ⟨6,eto,efr,ept,eo⟩ B w.heap.size W3 hq3 hB3 c hTT h0 h1;simp only[Hp.v,Ev.v,Ev.cs]at cc;go_wp2_with fail;refine cc.mono ?_;rintro en w1 ⟨y,s,rfl,cy,hqy,hM⟩
  have br1:Blk w1 (w.heap.size+1+1) [QhR none 0 0,QhR none 0 0,QhR none 0 0,QhR none 0 0] 27:=by
   have:=hM.fr (w.heap.size+1+1) (by omega) b0.br.lt;unfold Blk;rw[this];exact b0.br
  clear x0 x1 x2 x3 y0 y1 y2 y3 y4 y5 y6 u0 u1 u2 u3 g0 g1 g2 g3;obtain⟨r0,r1,r2,r3⟩:=Qb br1;obtain⟨f0,f1,f2,f3⟩:=Qo br1;obtain⟨kq,bq⟩:=QR br1 (.slice y.oa y.os.length y.ocap) (.slice y.ra y.rs.length y.rcap) (.slice y.wa y.ws.length y.wcap) (.slice y.da y.ds.length y.dcap);obtain⟨z0,z1,z2,z3⟩:=Qb bq;have hqE:=hqy.keep kq;have hbE:=ZS ((hb0.mono hB).trans hM.be) (C:=w.heap.size+1+1) (by omega) (.slice y.oa y.os.length y.ocap) (.slice y.ra y.rs.length y.rcap) (.slice y.wa y.ws.length y.wcap) (.slice y.da y.ds.length y.dcap);clear kq bq cc hM hqy;go_wp2;refine bodyPost_ret (v:=.tuple #[y.v,.string s]) ?_ rfl ⟨y,s,rfl,cy,cy.fitQ hqE,hbE⟩;simp[results,Tryz.results96,go_sem,z0,z1,z2,z3,Hp.v]
 have n6:(ek ==6)=false:=by simp[k6]
 by_cases k7:ek=7
 ·subst k7;clear hqE hbE z0 z1 z2 z3;have cc:=QgM h W3 (c.fitQ hq3);simp only[Hp.v]at cc;go_wp2_with fail;refine cc.mono ?_;rintro en w1 ⟨y,v,rfl,cy,fy,hM⟩;have br1:=b0.br.below hM b0.br.lt;clear x0 x1 x2 x3 y0 y1 y2 y3 y4 y5 y6 u0 u1 u2 u3 g0 g1 g2 g3;have hA:Below w1.heap.size w1 (w1.alloc (QhU #[QhR y.oa y.os.length y.ocap,QhR y.ra y.rs.length y.rcap,QhR y.wa y.ws.length y.wcap,QhR y.da y.ds.length y.dcap] 27)):=(Below.refl _ _).alloc (QhS _) _;have bX:=Blk.new w1 [QhR y.oa y.os.length y.ocap,QhR y.ra y.rs.length y.rcap,QhR y.wa y.ws.length y.wcap,QhR y.da y.ds.length y.dcap] 27;have br2:=br1.below hA br1.lt;obtain⟨x0,x1,x2,x3⟩:=Qb bX;obtain⟨r0,r1,r2,r3⟩:=Qb br2;obtain⟨f0,f1,f2,f3⟩:=Qo br2;obtain⟨r4,r5,r6,r7⟩:=Qb br1;obtain⟨f4,f5,f6,f7⟩:=Qo br1;obtain⟨kq,bq⟩:=QR br1 (.slice y.oa y.os.length y.ocap) (.slice y.ra y.rs.length y.rcap) (.slice y.wa y.ws.length y.wcap) (.slice y.da y.ds.length y.dcap);have hlt:=br1.lt;have hne1:¬w1.heap.size=w.heap.size+1+1:=by omega
  have hne2:¬w.heap.size+1+1=w1.heap.size:=by omega
  have hb4:=ZS ((hb0.mono hB).trans (hM.mono hB3)) (C:=w.heap.size+1+1) (by omega) (.slice y.oa y.os.length y.ocap) (.slice y.ra y.rs.length y.rcap) (.slice y.wa y.ws.length y.wcap) (.slice y.da y.ds.length y.dcap);have hA4:Below ((((w1.setCell ⟨w.heap.size+1+1,0,none⟩ (.slice y.oa y.os.length y.ocap)).setCell ⟨w.heap.size+1+1,1,none⟩ (.slice y.ra y.rs.length y.rcap)).setCell ⟨w.heap.size+1+1,2,none⟩ (.slice y.wa y.ws.length y.wcap)).setCell ⟨w.heap.size+1+1,3,none⟩ (.slice y.da y.ds.length y.dcap)).heap.size ((((w1.setCell ⟨w.heap.size+1+1,0,none⟩ (.slice y.oa y.os.length y.ocap)).setCell ⟨w.heap.size+1+1,1,none⟩ (.slice y.ra y.rs.length y.rcap)).setCell ⟨w.heap.size+1+1,2,none⟩ (.slice y.wa y.ws.length y.wcap)).setCell ⟨w.heap.size+1+1,3,none⟩ (.slice y.da y.ds.length y.dcap)) (((((w1.setCell ⟨w.heap.size+1+1,0,none⟩ (.slice y.oa y.os.length y.ocap)).setCell ⟨w.heap.size+1+1,1,none⟩ (.slice y.ra y.rs.length y.rcap)).setCell ⟨w.heap.size+1+1,2,none⟩ (.slice y.wa y.ws.length y.wcap)).setCell ⟨w.heap.size+1+1,3,none⟩ (.slice y.da y.ds.length y.dcap)).alloc (QhU #[QhR y.oa y.os.length y.ocap,QhR y.ra y.rs.length y.rcap,QhR y.wa y.ws.length y.wcap,QhR y.da y.ds.length y.dcap] 27)):=(Below.refl _ _).alloc (QhS _) _;have bq4:=bq.below hA4 bq.lt;obtain⟨z0,z1,z2,z3⟩:=Qb bq4;have fE:=fy _ (kq.trans (Qf.below _ hA4 (QhS _)));have hbE:=hb4.trans (hA4.mono (Nat.le_trans hB hb4.size));clear kq bq cc hM fy br1 br2 bX hA hA4 bq4 hb4;go_wp2;refine bodyPost_ret (v:=.tuple #[y.v,.string ⟨#[111,107]⟩]) ?_ rfl ⟨y,_,rfl,cy,fE,hbE⟩;clear fE hbE;generalize ((((w1.setCell ⟨w.heap.size+1+1,0,none⟩ (.slice y.oa y.os.length y.ocap)).setCell ⟨w.heap.size+1+1,1,none⟩ (.slice y.ra y.rs.length y.rcap)).setCell ⟨w.heap.size+1+1,2,none⟩ (.slice y.wa y.ws.length y.wcap)).setCell ⟨w.heap.size+1+1,3,none⟩ (.slice y.da y.ds.length y.dcap)).alloc (QhU #[QhR y.oa y.os.length y.ocap,QhR y.ra y.rs.length y.rcap,QhR y.wa y.ws.length y.wcap,QhR y.da y.ds.length y.dcap] 27)=WE at z0 z1 z2 z3⊢;simp[results,Tryz.results96,go_sem,z0,z1,z2,z3,Hp.v]
 have n7:(ek ==7)=false:=by simp[k7]
 clear k1 k2 k3 k4 k5 k6 k7
 ·go_wp2;refine bodyPost_ret (v:=.tuple #[h.v,.string ⟨#[110,111]⟩]) ?_ rfl ⟨h,⟨_,rfl⟩,c,c.fitQ hqE,hbE.be⟩;simp[results,Tryz.results96,go_sem,z0,z1,z2,z3,Hp.v]
def Ob.part (o:Ob)(k:Nat)(z:Int):Ob:={o with r:=o.r.set k z}
theorem Ob.part_rv (o:Ob)(k:Nat)(z:Int):(o.part k z).rv=o.rv:=by simp[Ob.part,Ob.rv]
theorem Ob.part_cs (o:Ob)(k:Nat)(z:Int):(o.part k z).cs=o.cs:=by simp[Ob.part,Ob.cs]
theorem QfL {n:Int}{o:Ob}(h:Qt n o.p=true){z:Int}(hz:-1≤z∧z<n)(k:Nat):Qt n (o.part k z).p=true:=by
 simp only[Qt,Ob.p,Ob.part,Bool.and_eq_true,QhV]at *;refine⟨?_,h.2⟩;have h1:=h.1;unfold Q2 at *;rw[List.all_eq_true]at *;intro y hy;rcases List.mem_or_eq_of_mem_set hy with hy|hy
 ·exact h1 y hy
 ·subst hy;simp[inB];omega
theorem QbH {os:List Ob}{i:Nat}(hi:i<os.length)(k:Nat)(z:Int){p:Int×Int}(h:Qn (os.map Ob.p) p=true):Qn ((os.set i (os[i].part k z)).map Ob.p) p=true:=by
 simp only[Qn,List.length_map,QhV]at *
 have e:((os.set i (os[i].part k z)).map Ob.p)[p.1.toNat]?.map (fun o=>o.1)=(os.map Ob.p)[p.1.toNat]?.map (fun o=>o.1):=by
  simp only[List.getElem?_map,List.getElem?_set,Option.map_map];by_cases hj:i=p.1.toNat
  ·rw[if_pos hj,←hj,if_pos hi];simp[Ob.p,Ob.part,hi]
  ·rw[if_neg hj]
 rw[e];exact h
theorem OkC.part {h:Hp}(c:OkC h){i:Nat}(hi:i<h.os.length){z:Int}(hz:-1≤z∧z<h.os.length)(k:Nat):OkC {h with os:=h.os.set i (h.os[i].part k z)}:=by
 refine⟨by simpa using c.n60,c.r8,c.w20,fun j hj=>?_,fun y hy=>?_,fun p hp=>QbH hi k z (c.wo p hp),fun p hp=>QbH hi k z (c.dd p hp)⟩
 ·simp only[QhV]at hj⊢;rw[QhX];split
  ·exact QfL (c.ob i hi) hz k
  ·exact c.ob j hj
 ·simp only[QhV];exact c.ro y hy
theorem Qk.setPart {w:World}{B:Nat}{h:Hp}(hq:Qk w B h){i:Nat}(hi:i<h.os.length){g:Nat}(hg:h.os[i].ra=some ⟨g,0,none⟩)(k:Nat)(z:Int):Qk (w.setCell ⟨g,k,none⟩ (.int .i64 z)) B {h with os:=h.os.set i (h.os[i].part k z)}:=by
 have hri:=hq.rs i hi;have hri':Qa w B (.slice (some ⟨g,0,none⟩) h.os[i].r.length h.os[i].rcap) h.os[i].r:=by rw[←hg];exact hri
 have hgo:h.os[i].rv.ownBlock=some g:=by unfold Ob.rv;rw[hg];rfl
 have hne:∀ {base e size n:Nat} {v:Value} {xs:List Value},w.ownsRow base e size v n xs→e≠3→v.ownBlock≠some g:=fun hr he e1=>by
  obtain⟨c1,q1⟩:=ZB hr e1;obtain⟨c2,q2⟩:=ZB hri' rfl;rw[q1]at q2;simp at q2;exact he q2.2
 have hfl:(h.os.set i (h.os[i].part k z)).flatMap Ob.cs=h.os.flatMap Ob.cs:=by
  rw[List.flatMap_def,List.flatMap_def,List.map_set,Ob.part_cs];congr 1;rw[←List.getElem_map (f:=Ob.cs) (h:=by simpa using hi)];exact List.set_getElem_self _
 have hrv:∀j (hj:j<(h.os.set i (h.os[i].part k z)).length),(h.os.set i (h.os[i].part k z))[j].rv=(h.os[j]'(by simpa using hj)).rv:=fun j hj=>by
  rw[QhX];split
  ·rename_i e;subst e;exact Ob.part_rv _ _ _
  ·rfl
 refine⟨?_,fun j hj=>?_,fun j l hj hl hjl=>?_,?_,fun j hj=>?_,ownsRow_setCell_other hq.wa (hne hq.wa (by decide)) _,ownsRow_setCell_other hq.da (hne hq.da (by decide)) _,hq.wne⟩
 ·have:=ownsRow_setCell_other hq.ob (a:=⟨g,k,none⟩) (hne hq.ob (by decide)) (.int .i64 z);unfold Qw;simp only[hfl,QhV];exact this
 ·have hj':j<h.os.length:=by simpa using hj
  simp only[QhX];by_cases e:i=j
  ·subst e;simp only[if_true];have:=hri'.set rfl (k:=k) z;unfold Ob.part Ob.rv;simp only[hg,QhV];exact this
  ·simp only[if_neg e];exact ownsRow_setCell_other (hq.rs j hj') (fun e1=>hq.rne i j hi hj' e g hgo e1) _
 ·simp only[hrv];exact hq.rne j l (by simpa using hj) (by simpa using hl) hjl
 ·exact ownsRow_setCell_other hq.ro (fun e1=>hq.rro i hi g hgo e1) _
 ·simp only[hrv];exact hq.rro j (by simpa using hj)
theorem QeV (h:Hp)(e:Ev)(B:Nat)(w:World)(hq:Qk w B h)(hB:B≤w.heap.size)(c:OkC h)(he:Qi w e.o.ra e.o.r)(hel:e.o.r.length≤1048576)(het:e.o.t.size≤maxLen)(h0:0≤e.to)(h1:e.to<h.rs.length)(k2:e.k=2):
 Calls Cut.prog 96 #[h.v,e.v] w fun en w'=>∃(y:Hp) (s:ByteArray),en=.returned (.tuple #[y.v,.string s])∧OkC y∧Fit w' y∧Below B w w':=by
 have HK:Hid (e.k=2):=k2;clear k2;obtain⟨b0,hb0⟩:=Bx3.start w h e;have hq3:=hq.below hb0 (QhS _);have he3:=he.below hb0 (QhS _);have hB3:=Nat.le_trans hB hb0.size;have hTT:=hq.rowsLt;obtain⟨ek,eto,efr,ept,eo⟩:=e;dsimp only at *;go_enter (Cut.func_of Tryz.func96 rfl),Tryz.ntmps96;simp only[Hp.v,Ev.v,Ev.cs];go_upto_region 1 with fail;obtain⟨W3,hW3⟩:∃W3,W3=(((w.alloc (QhU #[QhR h.oa h.os.length h.ocap,QhR h.ra h.rs.length h.rcap,QhR h.wa h.ws.length h.wcap,QhR h.da h.ds.length h.dcap] 27)).alloc (QhU #[QhT .i64 ek,QhT .i64 eto,QhT .i64 efr,QhT .i64 ept,QhT .i64 eo.k,Value.string eo.t,QhR eo.ra eo.r.length eo.rcap] 75)).alloc (QhU #[QhR none 0 0,QhR none 0 0,QhR none 0 0,QhR none 0 0] 27)):=⟨_,rfl⟩;rw[←hW3]at b0 hb0 hq3 he3 hB3⊢;clear hW3;obtain⟨⟨x0,x1,x2,x3⟩,⟨y0,y1,y2,y3,y4,y5,y6⟩,⟨u0,u1,u2,u3⟩,g0,g1,g2,g3⟩:=b0.cells;obtain⟨hqE,hbE,z0,z1,z2,z3⟩:=Jx (T:=w.heap.size) b0.br hq3 (Md.of hb0 hB) (by omega) (by omega) _ _ _ _ rfl rfl rfl rfl;have k2:=HK.out;clear HK;subst k2;clear hqE hbE z0 z1 z2 z3;have cc:=Qah h efr ept W3 hq3.isIn c;simp only[Hp.v]at cc;go_wp2_with fail;refine cc.mono ?_;rintro en w1 ⟨R,rfl,hR,hb1⟩;have br1:=b0.br.below hb1 b0.br.lt;have bh1:=b0.bh.below hb1 b0.bh.lt;have be1:=b0.bv.below hb1 b0.bv.lt;have hq4:=hq3.below hb1 (QhS _);have hM4:Md B w.heap.size w w1:=(Md.of hb0 hB).step hb1 hB;clear x0 x1 x2 x3 y0 y1 y2 y3 y4 y5 y6 u0 u1 u2 u3 g0 g1 g2 g3 cc;obtain⟨x0,x1,x2,x3⟩:=Qb bh1;obtain⟨y1,y3⟩:w1.cell? ⟨w.heap.size+1,1,none⟩=some (.int .i64 eto)∧w1.cell? ⟨w.heap.size+1,3,none⟩=some (.int .i64 ept):=⟨be1.cell 1,be1.cell 3⟩;obtain⟨u0,u1,u2,u3⟩:=Qb br1;obtain⟨g0,g1,g2,g3⟩:=Qo br1;rcases hR with hR|⟨hr,hR0,hRe,hp0,hp1⟩
 ·obtain⟨hqE,hbE,z0,z1,z2,z3⟩:=Jx br1 hq4 hM4 (by omega) (by omega) (.slice h.oa h.os.length h.ocap) (.slice h.ra h.rs.length h.rcap) (.slice h.wa h.ws.length h.wcap) (.slice h.da h.ds.length h.dcap) rfl rfl rfl rfl;clear hq4 hM4 br1 bh1 be1 hb1;go_wp2;refine bodyPost_ret (v:=.tuple #[h.v,.string ⟨#[110,111]⟩]) ?_ rfl ⟨h,_,rfl,c,c.fitQ hqE,hbE.be⟩;simp[results,Tryz.results96,go_sem,z0,z1,z2,z3,Hp.v]
 ·obtain⟨gr,hgr⟩:=hq4.ro.ptr (by omega);have hro4:Qa w1 B (.slice (some ⟨gr,0,none⟩) h.rs.length h.rcap) h.rs:=by rw[←hgr];exact hq4.ro
  have hgT:gr<w.heap.size:=hTT.r gr (by rw[hgr];rfl);obtain⟨b,off,eo,hb,e1,e2,e3⟩:=hq4.isIn.so.get hr;obtain⟨ra',rc',eR,hsr,hcr⟩:=(hq4.rs R.toNat hr).form;have hpl:ept.toNat<h.os[R.toNat].r.length:=by omega
  obtain⟨b',off',eo',hb',d1⟩:=hsr.get hpl;have hzb:=c.refs R.toNat hr _ (List.getElem_mem hpl);have hkr:=(c.kind _ hr).1;have hn60:=c.n60;have hr8:=c.r8;have q0:=hro4.at (k:=eto.toNat) (by omega);have q1:=hro4.free eto.toNat;simp only[Ob.rv,Value.slice.injEq]at eR;have HRB:Hid (h.os[R.toNat].rv.ownBlock=some b'):=by unfold Ob.rv;rw[eR.1,eo'];rfl
  rw[eR.1,eo']at e3;have HZ:Hid (h.os[R.toNat].r[ept.toNat]=h.os[R.toNat].r[ept.toNat]):=rfl;obtain⟨Z,hZ⟩:∃Z,Z=h.os[R.toNat].r[ept.toNat]:=⟨_,rfl⟩;rw[←hZ]at d1 hzb;clear hZ HZ;obtain⟨N,hN⟩:∃N,N=h.os[R.toNat].r.length:=⟨_,rfl⟩;rw[←hN]at e3 hp1 hkr;obtain⟨NC,hNC⟩:∃NC,NC=h.os[R.toNat].rcap:=⟨_,rfl⟩;rw[←hNC]at e3;clear hN hNC eR hsr hcr e1 e2;have hqF:=hq4.setRoot hgr eto.toNat Z;have hMF:Md B w.heap.size w (w1.setCell ⟨gr,eto.toNat,none⟩ (.int .i64 Z)):=hM4.set (p:=⟨gr,eto.toNat,none⟩) (hro4.lt gr rfl).1 (Or.inl hgT) _;have brF:=br1.other ⟨gr,eto.toNat,none⟩ (.int .i64 Z) (by dsimp only;omega);have bhF:=bh1.other ⟨gr,eto.toNat,none⟩ (.int .i64 Z) (by dsimp only;omega);have bvF:=be1.other ⟨gr,eto.toNat,none⟩ (.int .i64 Z) (by dsimp only;omega);have cF:=c.root (z:=Z) hzb eto.toNat;have cs:=VE h Z _ hqF.isIn.so (fun i hi=>c.small.oo i hi) hzb.2;have hne1:¬w.heap.size=gr:=by omega
  have hne2:¬gr=w.heap.size:=by omega
  have hne3:¬w.heap.size+1=gr:=by omega
  have hne4:¬gr=w.heap.size+1:=by omega
  have hbne:b≠gr:=by
   intro e;have hro5:=hq4.ro;rw[hgr]at hro5;have hob:=hq4.ob;rw[eo]at hob;obtain⟨cap1,cur1⟩:=ZB hro5 (k:=gr) rfl;obtain⟨cap2,cur2⟩:=ZB hob (k:=b) rfl;rw[e,cur1]at cur2;simp at cur2
  have hbne':b'≠gr:=fun e=>hq4.rro R.toNat hr b' HRB.out (by rw[hgr,e];rfl);have e3F:=(QhW (a:=⟨b,off+R.toNat*3+2,none⟩) (Below.heap_setCell w1 ⟨gr,eto.toNat,none⟩ (.int .i64 Z) b hbne)).trans e3;have d1F:=(QhW (a:=⟨b',off'+ept.toNat,none⟩) (Below.heap_setCell w1 ⟨gr,eto.toNat,none⟩ (.int .i64 Z) b' hbne')).trans d1;obtain⟨s0,s1,s2,s3⟩:=Qb bhF;have t1:=bvF.cell 1;have t3:=bvF.cell 3;simp only[QhY,QhZ]at t1 t3;rw[eo]at x0 s0;rw[hgr]at x1 s1;have HEO:Hid (h.oa=some ⟨b,off,none⟩):=eo;have HGR:Hid (h.ra=some ⟨gr,0,none⟩):=hgr;clear eo hgr hRe eo';have hRl:R<(h.os.length:Int):=by omega
  go_wp2_with fail;go_region_held3 (fun(W':World)=>(W'.cell? ⟨w.heap.size,0,none⟩=some (.slice (some ⟨b,off,none⟩) h.os.length h.ocap)∧W'.cell? ⟨w.heap.size,1,none⟩=some (.slice (some ⟨gr,0,none⟩) h.rs.length h.rcap)∧W'.cell? ⟨w.heap.size+1,1,none⟩=some (.int .i64 eto)∧W'.cell? ⟨w.heap.size+1,3,none⟩=some (.int .i64 ept)∧W'.cell? ⟨b,off+R.toNat*3+2,none⟩=some (.slice (some ⟨b',off',none⟩) N NC)∧W'.cell? ⟨b',off'+ept.toNat,none⟩=some (.int .i64 Z))) (first|(refine⟨?_,?_,?_,?_,?_,?_⟩<;>with_reducible assumption)|go_keep) (fail);go_wp2_with fail;obtain⟨W5,hW5⟩:∃W5,W5=(w1.setCell ⟨gr,eto.toNat,none⟩ (.int .i64 Z)).drew:=⟨_,rfl⟩;have hbD:Below (w1.setCell ⟨gr,eto.toNat,none⟩ (.int .i64 Z)).heap.size (w1.setCell ⟨gr,eto.toNat,none⟩ (.int .i64 Z)) W5:=by rw[hW5];exact(Below.refl _ _).drew
  rw[←hW5];clear hW5;have brG:=brF.step hbD;have bhG:=bhF.step hbD;have bvG:=bvF.step hbD;have hqG:=hqF.below hbD (QhS _);have hMG:=hMF.step hbD hB
  have hroG:Qa W5 B (.slice (some ⟨gr,0,none⟩) h.rs.length h.rcap) (h.rs.set eto.toNat Z):=by
   have:=hqG.ro;simp only[HGR.out,QhV]at this;exact this
  have htl:eto.toNat<h.rs.length:=by omega
  have q5:=hroG.at (k:=eto.toNat) (by simpa using htl);rw[List.getElem_set_self]at q5;clear x0 x1 x2 x3 y1 y3 u0 u1 u2 u3 g0 g1 g2 g3 s0 s1 s2 s3 t1 t3 e3 d1 e3F d1F q0 q1 cs;obtain⟨s0,s1,s2,s3⟩:=Qb bhG;have t1:=bvG.cell 1;simp only[QhY,QhZ]at t1;rw[HEO.out]at s0;rw[HGR.out]at s1;have c5:=VE h Z W5.drew (hqG.below (Below.refl _ W5).drew (QhS _)).isIn.so (fun i hi=>c.small.oo i hi) hzb.2;simp only[Hp.v,HEO.out,HGR.out]at c5
  have HB5:Hid (∀w6,Below W5.drew.heap.size W5.drew w6→(fun(W':World)=>(W'.cell? ⟨w.heap.size,0,none⟩=some (.slice (some ⟨b,off,none⟩) h.os.length h.ocap)∧W'.cell? ⟨w.heap.size,1,none⟩=some (.slice (some ⟨gr,0,none⟩) h.rs.length h.rcap)∧W'.cell? ⟨w.heap.size,2,none⟩=some (.slice h.wa h.ws.length h.wcap)∧W'.cell? ⟨w.heap.size,3,none⟩=some (.slice h.da h.ds.length h.dcap))∧W'.cell? ⟨w.heap.size+1,1,none⟩=some (.int .i64 eto)∧W'.cell? ⟨gr,eto.toNat,none⟩=some (.int .i64 Z)) w6∧Blk w6 (w.heap.size+1+1) [QhR none 0 0,QhR none 0 0,QhR none 0 0,QhR none 0 0] 27∧Md B w.heap.size w w6∧Qk w6 B {h with rs:=h.rs.set eto.toNat Z}):=fun w6 hb6=>by
   have hb6':Below W5.heap.size W5 w6:=((Below.refl _ _).drew).trans hb6;have bh6:=bhG.step hb6';have bv6:=bvG.step hb6';have qq6:=(hroG.below hb6' (QhS _)).at (k:=eto.toNat) (by simpa using htl);rw[List.getElem_set_self]at qq6;have m0:=bh6.cell 0;have m1:=bh6.cell 1;simp only[QhY,QhZ,HEO.out,HGR.out]at m0 m1;exact⟨⟨⟨m0,m1,bh6.cell 2,bh6.cell 3⟩,bv6.cell 1,qq6⟩,brG.step hb6',hMG.step hb6' hB,hqG.below hb6' (QhS _)⟩
  have HS7:Hid (∀w6:World,(fun(W':World)=>(W'.cell? ⟨w.heap.size,0,none⟩=some (.slice (some ⟨b,off,none⟩) h.os.length h.ocap)∧W'.cell? ⟨w.heap.size,1,none⟩=some (.slice (some ⟨gr,0,none⟩) h.rs.length h.rcap)∧W'.cell? ⟨w.heap.size,2,none⟩=some (.slice h.wa h.ws.length h.wcap)∧W'.cell? ⟨w.heap.size,3,none⟩=some (.slice h.da h.ds.length h.dcap))∧W'.cell? ⟨w.heap.size+1,1,none⟩=some (.int .i64 eto)∧W'.cell? ⟨gr,eto.toNat,none⟩=some (.int .i64 Z)) w6→(fun(W':World)=>(W'.cell? ⟨w.heap.size,0,none⟩=some (.slice (some ⟨b,off,none⟩) h.os.length h.ocap)∧W'.cell? ⟨w.heap.size,1,none⟩=some (.slice (some ⟨gr,0,none⟩) h.rs.length h.rcap)∧W'.cell? ⟨w.heap.size,2,none⟩=some (.slice h.wa h.ws.length h.wcap)∧W'.cell? ⟨w.heap.size,3,none⟩=some (.slice h.da h.ds.length h.dcap))∧W'.cell? ⟨w.heap.size+1,1,none⟩=some (.int .i64 eto)∧W'.cell? ⟨gr,eto.toNat,none⟩=some (.int .i64 Z)) ((((w6.setCell ⟨w.heap.size+1+1,0,none⟩ (.slice (some ⟨b,off,none⟩) h.os.length h.ocap)).setCell ⟨w.heap.size+1+1,1,none⟩ (.slice (some ⟨gr,0,none⟩) h.rs.length h.rcap)).setCell ⟨w.heap.size+1+1,2,none⟩ (.slice h.wa h.ws.length h.wcap)).setCell ⟨w.heap.size+1+1,3,none⟩ (.slice h.da h.ds.length h.dcap))):=fun w6 hs=>by
   have sc:∀(p:Addr) (u:Value),p.block≠w.heap.size+1+1→w6.cell? p=some u→((((w6.setCell ⟨w.heap.size+1+1,0,none⟩ (.slice (some ⟨b,off,none⟩) h.os.length h.ocap)).setCell ⟨w.heap.size+1+1,1,none⟩ (.slice (some ⟨gr,0,none⟩) h.rs.length h.rcap)).setCell ⟨w.heap.size+1+1,2,none⟩ (.slice h.wa h.ws.length h.wcap)).setCell ⟨w.heap.size+1+1,3,none⟩ (.slice h.da h.ds.length h.dcap)).cell? p=some u:=fun p u hp hc=>by
    rw[QhW (Below.heap_setCell _ _ _ _ hp),QhW (Below.heap_setCell _ _ _ _ hp),QhW (Below.heap_setCell _ _ _ _ hp),QhW (Below.heap_setCell _ _ _ _ hp)];exact hc
   have p1:w.heap.size≠w.heap.size+1+1:=by omega
   have p2:w.heap.size+1≠w.heap.size+1+1:=by omega
   have p3:gr≠w.heap.size+1+1:=by omega
   exact⟨⟨sc _ _ p1 hs.1.1,sc _ _ p1 hs.1.2.1,sc _ _ p1 hs.1.2.2.1,sc _ _ p1 hs.1.2.2.2⟩,sc _ _ p2 hs.2.1,sc _ _ p3 hs.2.2⟩
  clear hq4 hM4 br1 bh1 be1 hb1 hqF hMF brF bhF bvF hqG hMG brG bhG bvG hroG hro4 hbD;go_region_held3 (fun(W':World)=>(W'.cell? ⟨w.heap.size,0,none⟩=some (.slice (some ⟨b,off,none⟩) h.os.length h.ocap)∧W'.cell? ⟨w.heap.size,1,none⟩=some (.slice (some ⟨gr,0,none⟩) h.rs.length h.rcap)∧W'.cell? ⟨w.heap.size,2,none⟩=some (.slice h.wa h.ws.length h.wcap)∧W'.cell? ⟨w.heap.size,3,none⟩=some (.slice h.da h.ds.length h.dcap))∧W'.cell? ⟨w.heap.size+1,1,none⟩=some (.int .i64 eto)∧W'.cell? ⟨gr,eto.toNat,none⟩=some (.int .i64 Z)) (first|(refine⟨⟨?_,?_,?_,?_⟩,?_,?_⟩<;>with_reducible assumption)|go_keep)
   (first
     |(go_at_call 123;refine c5.mono ?_;rintro en w6 ⟨sx,rfl,hb6⟩;obtain⟨⟨⟨m0,m1,m2,m3⟩,m4,m5⟩,br6,hB6,hq6⟩:=HB5.out w6 hb6;obtain⟨u0,u1,u2,u3⟩:=Qb br6;obtain⟨v0,v1,v2,v3⟩:=Qo br6;obtain⟨⟨d0,d1,d2,d3⟩,d4,d5⟩:=HS7.out w6 ⟨⟨m0,m1,m2,m3⟩,m4,m5⟩))
  all_goals
   obtain⟨hqE,hbE,z0,z1,z2,z3⟩:=Jx br6 hq6 hB6 (by omega) (by omega) (.slice (some ⟨b,off,none⟩) h.os.length h.ocap) (.slice (some ⟨gr,0,none⟩) h.rs.length h.rcap) (.slice h.wa h.ws.length h.wcap) (.slice h.da h.ds.length h.dcap) (by rw[←HEO.out]) (by simp[HGR.out]) rfl rfl;clear br6 hq6 hB6 HB5 HS7 c5;go_wp2;refine bodyPost_ret (v:=.tuple #[Hp.v {h with rs:=h.rs.set eto.toNat Z},.string sx]) ?_ rfl ⟨{h with rs:=h.rs.set eto.toNat Z},_,rfl,cF,cF.fitQ hqE,hbE.be⟩;simp[results,Tryz.results96,go_sem,z0,z1,z2,z3,Hp.v,HEO.out,HGR.out]
end
end Go.Proofs.YtcpnkpogebjieaaGreat
