/- The specification's own events: a part is taken. -/
import Derived.Test.YtcpnkpogebjieaaGreatG45Dv
open Go.Value renaming slice→Qhp,int→Qhs
open Nat renaming le_refl→Qhq,le_trans→Qht
open Go.Obj renaming cells→Qhr
open Go.World renaming cell?_of_block→Qhu
open List renaming getElem?_cons_zero→Qhv,getElem?_cons_succ→Qhw
set_option maxHeartbeats 1600000
set_option maxRecDepth 100000
namespace Go.Proofs.YtcpnkpogebjieaaGreat
section
open Go.RowKit
theorem Qff (h:Hp)(e:Ev)(B:Nat)(w:World)(hq:Ql w B h)(hB:B≤w.heap.size)(c:OkC h)(he:Qk w e.o.ra e.o.r)(hel:e.o.r.length≤1048576)(het:e.o.t.size≤maxLen)(h0:0≤e.to)(h1:e.to<h.rs.length)(k2:e.k=2):
 Calls Cut.prog 96 #[h.v,e.v] w fun en w'=>∃(y:Hp) (s:ByteArray),en=.returned (.tuple #[y.v,.string s])∧OkC y∧Fit w' y∧Below B w w':=by
 have HK:Hid (e.k=2):=k2
 clear k2
 obtain⟨b0,hb0⟩:=Bx3.start w h e
 have hq3:=hq.below hb0 (Qhq _)
 have he3:=he.below hb0 (Qhq _)
 have hB3:=Qht hB hb0.size
 have hTT:=hq.rowsLt
 obtain⟨ek,eto,efr,ept,eo⟩:=e
 dsimp only at *
 go_enter (Cut.func_of Tryz.func96 rfl),Tryz.ntmps96
 simp only[Hp.v,Ev.v,Ev.cs]
 go_upto_region 1 with fail
 obtain⟨W3,hW3⟩:∃W3,W3=(((w.alloc (Qhr #[Qhp h.oa h.os.length h.ocap,Qhp h.ra h.rs.length h.rcap,Qhp h.wa h.ws.length h.wcap,Qhp h.da h.ds.length h.dcap] 27)).alloc (Qhr #[Qhs .i64 ek,Qhs .i64 eto,Qhs .i64 efr,Qhs .i64 ept,Qhs .i64 eo.k,Value.string eo.t,Qhp eo.ra eo.r.length eo.rcap] 75)).alloc (Qhr #[Qhp none 0 0,Qhp none 0 0,Qhp none 0 0,Qhp none 0 0] 27)):=⟨_,rfl⟩
 rw[←hW3]at b0 hb0 hq3 he3 hB3⊢
 clear hW3
 obtain⟨⟨x0,x1,x2,x3⟩,⟨y0,y1,y2,y3,y4,y5,y6⟩,⟨u0,u1,u2,u3⟩,g0,g1,g2,g3⟩:=b0.cells
 obtain⟨hqE,hbE,z0,z1,z2,z3⟩:=Jo (T:=w.heap.size) b0.br hq3 (Md.of hb0 hB) (by omega) (by omega) _ _ _ _ rfl rfl rfl rfl
 have k2:=HK.out
 clear HK
 subst k2
 clear hqE hbE z0 z1 z2 z3
 have cc:=Oo h efr ept W3 hq3.isIn c
 simp only[Hp.v]at cc
 go_wp2_with fail
 refine cc.mono ?_
 rintro en w1 ⟨R,rfl,hR,hb1⟩
 have br1:=b0.br.below hb1 b0.br.lt
 have bh1:=b0.bh.below hb1 b0.bh.lt
 have be1:=b0.bv.below hb1 b0.bv.lt
 have hq4:=hq3.below hb1 (Qhq _)
 have hM4:Md B w.heap.size w w1:=(Md.of hb0 hB).step hb1 hB
 clear x0 x1 x2 x3 y0 y1 y2 y3 y4 y5 y6 u0 u1 u2 u3 g0 g1 g2 g3 cc
 obtain⟨x0,x1,x2,x3⟩:=Qd bh1
 obtain⟨y1,y3⟩:w1.cell? ⟨w.heap.size+1,1,none⟩=some (.int .i64 eto)∧w1.cell? ⟨w.heap.size+1,3,none⟩=some (.int .i64 ept):=⟨be1.cell 1,be1.cell 3⟩
 obtain⟨u0,u1,u2,u3⟩:=Qd br1
 obtain⟨g0,g1,g2,g3⟩:=QF br1
 rcases hR with hR|⟨hr,hR0,hRe,hp0,hp1⟩
 ·obtain⟨hqE,hbE,z0,z1,z2,z3⟩:=Jo br1 hq4 hM4 (by omega) (by omega) (.slice h.oa h.os.length h.ocap) (.slice h.ra h.rs.length h.rcap) (.slice h.wa h.ws.length h.wcap) (.slice h.da h.ds.length h.dcap) rfl rfl rfl rfl
  clear hq4 hM4 br1 bh1 be1 hb1
  go_wp2
  refine bodyPost_ret (v:=.tuple #[h.v,.string ⟨#[110,111]⟩]) ?_ rfl ⟨h,_,rfl,c,c.fitQ hqE,hbE.be⟩
  simp[results,Tryz.results96,go_sem,z0,z1,z2,z3,Hp.v]
 ·obtain⟨gr,hgr⟩:=hq4.ro.ptr (by omega)
  have hro4:Qa w1 B (.slice (some ⟨gr,0,none⟩) h.rs.length h.rcap) h.rs:=by rw[←hgr];exact hq4.ro
  have hgT:gr<w.heap.size:=hTT.r gr (by rw[hgr];rfl)
  obtain⟨b,off,eo,hb,e1,e2,e3⟩:=hq4.isIn.so.get hr
  obtain⟨ra',rc',eR,hsr,hcr⟩:=(hq4.rs R.toNat hr).form
  have hpl:ept.toNat<h.os[R.toNat].r.length:=by omega
  obtain⟨b',off',eo',hb',d1⟩:=hsr.get hpl
  have hzb:=c.refs R.toNat hr _ (List.getElem_mem hpl)
  have hkr:=(c.kind _ hr).1
  have hn60:=c.n60
  have hr8:=c.r8
  have q0:=hro4.at (k:=eto.toNat) (by omega)
  have q1:=hro4.free eto.toNat
  simp only[Ob.rv,Value.slice.injEq]at eR
  have HRB:Hid (h.os[R.toNat].rv.ownBlock=some b'):=by unfold Ob.rv;rw[eR.1,eo'];rfl
  rw[eR.1,eo']at e3
  have HZ:Hid (h.os[R.toNat].r[ept.toNat]=h.os[R.toNat].r[ept.toNat]):=rfl
  obtain⟨Z,hZ⟩:∃Z,Z=h.os[R.toNat].r[ept.toNat]:=⟨_,rfl⟩
  rw[←hZ]at d1 hzb
  clear hZ HZ
  obtain⟨N,hN⟩:∃N,N=h.os[R.toNat].r.length:=⟨_,rfl⟩
  rw[←hN]at e3 hp1 hkr
  obtain⟨NC,hNC⟩:∃NC,NC=h.os[R.toNat].rcap:=⟨_,rfl⟩
  rw[←hNC]at e3
  clear hN hNC eR hsr hcr e1 e2
  have hqF:=hq4.setRoot hgr eto.toNat Z
  have hMF:Md B w.heap.size w (w1.setCell ⟨gr,eto.toNat,none⟩ (.int .i64 Z)):=hM4.set (p:=⟨gr,eto.toNat,none⟩) (hro4.lt gr rfl).1 (Or.inl hgT) _
  have brF:=br1.other ⟨gr,eto.toNat,none⟩ (.int .i64 Z) (by dsimp only;omega)
  have bhF:=bh1.other ⟨gr,eto.toNat,none⟩ (.int .i64 Z) (by dsimp only;omega)
  have bvF:=be1.other ⟨gr,eto.toNat,none⟩ (.int .i64 Z) (by dsimp only;omega)
  have cF:=c.root (z:=Z) hzb eto.toNat
  have cs:=Vw h Z _ hqF.isIn.so (fun i hi=>c.small.oo i hi) hzb.2
  have hne1:¬w.heap.size=gr:=by omega
  have hne2:¬gr=w.heap.size:=by omega
  have hne3:¬w.heap.size+1=gr:=by omega
  have hne4:¬gr=w.heap.size+1:=by omega
  have hbne:b≠gr:=by
   intro e
   have hro5:=hq4.ro
   rw[hgr]at hro5
   have hob:=hq4.ob
   rw[eo]at hob
   obtain⟨cap1,cur1⟩:=Zx hro5 (k:=gr) rfl
   obtain⟨cap2,cur2⟩:=Zx hob (k:=b) rfl
   rw[e,cur1]at cur2
   simp at cur2
  have hbne':b'≠gr:=fun e=>hq4.rro R.toNat hr b' HRB.out (by rw[hgr,e];rfl)
  have e3F:=(Qhu (a:=⟨b,off+R.toNat*3+2,none⟩) (Below.heap_setCell w1 ⟨gr,eto.toNat,none⟩ (.int .i64 Z) b hbne)).trans e3
  have d1F:=(Qhu (a:=⟨b',off'+ept.toNat,none⟩) (Below.heap_setCell w1 ⟨gr,eto.toNat,none⟩ (.int .i64 Z) b' hbne')).trans d1
  obtain⟨s0,s1,s2,s3⟩:=Qd bhF
  have t1:=bvF.cell 1
  have t3:=bvF.cell 3
  simp only[Qhv,Qhw]at t1 t3
  rw[eo]at x0 s0
  rw[hgr]at x1 s1
  have HEO:Hid (h.oa=some ⟨b,off,none⟩):=eo
  have HGR:Hid (h.ra=some ⟨gr,0,none⟩):=hgr
  clear eo hgr hRe eo'
  have hRl:R<(h.os.length:Int):=by omega
  go_wp2_with fail
  go_region_held3 (fun(W':World)=>(W'.cell? ⟨w.heap.size,0,none⟩=some (.slice (some ⟨b,off,none⟩) h.os.length h.ocap)∧W'.cell? ⟨w.heap.size,1,none⟩=some (.slice (some ⟨gr,0,none⟩) h.rs.length h.rcap)∧W'.cell? ⟨w.heap.size+1,1,none⟩=some (.int .i64 eto)∧W'.cell? ⟨w.heap.size+1,3,none⟩=some (.int .i64 ept)∧W'.cell? ⟨b,off+R.toNat*3+2,none⟩=some (.slice (some ⟨b',off',none⟩) N NC)∧W'.cell? ⟨b',off'+ept.toNat,none⟩=some (.int .i64 Z))) (first|(refine⟨?_,?_,?_,?_,?_,?_⟩<;>with_reducible assumption)|go_keep) (fail)
  go_wp2_with fail
  obtain⟨W5,hW5⟩:∃W5,W5=(w1.setCell ⟨gr,eto.toNat,none⟩ (.int .i64 Z)).drew:=⟨_,rfl⟩
  have hbD:Below (w1.setCell ⟨gr,eto.toNat,none⟩ (.int .i64 Z)).heap.size (w1.setCell ⟨gr,eto.toNat,none⟩ (.int .i64 Z)) W5:=by rw[hW5];exact(Below.refl _ _).drew
  rw[←hW5]
  clear hW5
  have brG:=brF.step hbD
  have bhG:=bhF.step hbD
  have bvG:=bvF.step hbD
  have hqG:=hqF.below hbD (Qhq _)
  have hMG:=hMF.step hbD hB
  have hroG:Qa W5 B (.slice (some ⟨gr,0,none⟩) h.rs.length h.rcap) (h.rs.set eto.toNat Z):=by
   have:=hqG.ro
   simp only[HGR.out,List.length_set]at this
   exact this
  have htl:eto.toNat<h.rs.length:=by omega
  have q5:=hroG.at (k:=eto.toNat) (by simpa using htl)
  rw[List.getElem_set_self]at q5
  clear x0 x1 x2 x3 y1 y3 u0 u1 u2 u3 g0 g1 g2 g3 s0 s1 s2 s3 t1 t3 e3 d1 e3F d1F q0 q1 cs
  obtain⟨s0,s1,s2,s3⟩:=Qd bhG
  have t1:=bvG.cell 1
  simp only[Qhv,Qhw]at t1
  rw[HEO.out]at s0
  rw[HGR.out]at s1
  have c5:=Vw h Z W5.drew (hqG.below (Below.refl _ W5).drew (Qhq _)).isIn.so (fun i hi=>c.small.oo i hi) hzb.2
  simp only[Hp.v,HEO.out,HGR.out]at c5
  have HB5:Hid (∀w6,Below W5.drew.heap.size W5.drew w6→(fun(W':World)=>(W'.cell? ⟨w.heap.size,0,none⟩=some (.slice (some ⟨b,off,none⟩) h.os.length h.ocap)∧W'.cell? ⟨w.heap.size,1,none⟩=some (.slice (some ⟨gr,0,none⟩) h.rs.length h.rcap)∧W'.cell? ⟨w.heap.size,2,none⟩=some (.slice h.wa h.ws.length h.wcap)∧W'.cell? ⟨w.heap.size,3,none⟩=some (.slice h.da h.ds.length h.dcap))∧W'.cell? ⟨w.heap.size+1,1,none⟩=some (.int .i64 eto)∧W'.cell? ⟨gr,eto.toNat,none⟩=some (.int .i64 Z)) w6∧Blk w6 (w.heap.size+1+1) [Qhp none 0 0,Qhp none 0 0,Qhp none 0 0,Qhp none 0 0] 27∧Md B w.heap.size w w6∧Ql w6 B {h with rs:=h.rs.set eto.toNat Z}):=fun w6 hb6=>by
   have hb6':Below W5.heap.size W5 w6:=((Below.refl _ _).drew).trans hb6
   have bh6:=bhG.step hb6'
   have bv6:=bvG.step hb6'
   have qq6:=(hroG.below hb6' (Qhq _)).at (k:=eto.toNat) (by simpa using htl)
   rw[List.getElem_set_self]at qq6
   have m0:=bh6.cell 0
   have m1:=bh6.cell 1
   simp only[Qhv,Qhw,HEO.out,HGR.out]at m0 m1
   exact⟨⟨⟨m0,m1,bh6.cell 2,bh6.cell 3⟩,bv6.cell 1,qq6⟩,brG.step hb6',hMG.step hb6' hB,hqG.below hb6' (Qhq _)⟩
  have HS7:Hid (∀w6:World,(fun(W':World)=>(W'.cell? ⟨w.heap.size,0,none⟩=some (.slice (some ⟨b,off,none⟩) h.os.length h.ocap)∧W'.cell? ⟨w.heap.size,1,none⟩=some (.slice (some ⟨gr,0,none⟩) h.rs.length h.rcap)∧W'.cell? ⟨w.heap.size,2,none⟩=some (.slice h.wa h.ws.length h.wcap)∧W'.cell? ⟨w.heap.size,3,none⟩=some (.slice h.da h.ds.length h.dcap))∧W'.cell? ⟨w.heap.size+1,1,none⟩=some (.int .i64 eto)∧W'.cell? ⟨gr,eto.toNat,none⟩=some (.int .i64 Z)) w6→(fun(W':World)=>(W'.cell? ⟨w.heap.size,0,none⟩=some (.slice (some ⟨b,off,none⟩) h.os.length h.ocap)∧W'.cell? ⟨w.heap.size,1,none⟩=some (.slice (some ⟨gr,0,none⟩) h.rs.length h.rcap)∧W'.cell? ⟨w.heap.size,2,none⟩=some (.slice h.wa h.ws.length h.wcap)∧W'.cell? ⟨w.heap.size,3,none⟩=some (.slice h.da h.ds.length h.dcap))∧W'.cell? ⟨w.heap.size+1,1,none⟩=some (.int .i64 eto)∧W'.cell? ⟨gr,eto.toNat,none⟩=some (.int .i64 Z)) ((((w6.setCell ⟨w.heap.size+1+1,0,none⟩ (.slice (some ⟨b,off,none⟩) h.os.length h.ocap)).setCell ⟨w.heap.size+1+1,1,none⟩ (.slice (some ⟨gr,0,none⟩) h.rs.length h.rcap)).setCell ⟨w.heap.size+1+1,2,none⟩ (.slice h.wa h.ws.length h.wcap)).setCell ⟨w.heap.size+1+1,3,none⟩ (.slice h.da h.ds.length h.dcap))):=fun w6 hs=>by
   have sc:∀(p:Addr) (u:Value),p.block≠w.heap.size+1+1→w6.cell? p=some u→((((w6.setCell ⟨w.heap.size+1+1,0,none⟩ (.slice (some ⟨b,off,none⟩) h.os.length h.ocap)).setCell ⟨w.heap.size+1+1,1,none⟩ (.slice (some ⟨gr,0,none⟩) h.rs.length h.rcap)).setCell ⟨w.heap.size+1+1,2,none⟩ (.slice h.wa h.ws.length h.wcap)).setCell ⟨w.heap.size+1+1,3,none⟩ (.slice h.da h.ds.length h.dcap)).cell? p=some u:=fun p u hp hc=>by
    rw[Qhu (Below.heap_setCell _ _ _ _ hp),Qhu (Below.heap_setCell _ _ _ _ hp),Qhu (Below.heap_setCell _ _ _ _ hp),Qhu (Below.heap_setCell _ _ _ _ hp)];exact hc
   have p1:w.heap.size≠w.heap.size+1+1:=by omega
   have p2:w.heap.size+1≠w.heap.size+1+1:=by omega
   have p3:gr≠w.heap.size+1+1:=by omega
   exact⟨⟨sc _ _ p1 hs.1.1,sc _ _ p1 hs.1.2.1,sc _ _ p1 hs.1.2.2.1,sc _ _ p1 hs.1.2.2.2⟩,sc _ _ p2 hs.2.1,sc _ _ p3 hs.2.2⟩
  clear hq4 hM4 br1 bh1 be1 hb1 hqF hMF brF bhF bvF hqG hMG brG bhG bvG hroG hro4 hbD
  go_region_held3 (fun(W':World)=>(W'.cell? ⟨w.heap.size,0,none⟩=some (.slice (some ⟨b,off,none⟩) h.os.length h.ocap)∧W'.cell? ⟨w.heap.size,1,none⟩=some (.slice (some ⟨gr,0,none⟩) h.rs.length h.rcap)∧W'.cell? ⟨w.heap.size,2,none⟩=some (.slice h.wa h.ws.length h.wcap)∧W'.cell? ⟨w.heap.size,3,none⟩=some (.slice h.da h.ds.length h.dcap))∧W'.cell? ⟨w.heap.size+1,1,none⟩=some (.int .i64 eto)∧W'.cell? ⟨gr,eto.toNat,none⟩=some (.int .i64 Z)) (first|(refine⟨⟨?_,?_,?_,?_⟩,?_,?_⟩<;>with_reducible assumption)|go_keep)
   (first
     |(go_at_call 123;refine c5.mono ?_;rintro en w6 ⟨sx,rfl,hb6⟩;obtain⟨⟨⟨m0,m1,m2,m3⟩,m4,m5⟩,br6,hB6,hq6⟩:=HB5.out w6 hb6;obtain⟨u0,u1,u2,u3⟩:=Qd br6;obtain⟨v0,v1,v2,v3⟩:=QF br6;obtain⟨⟨d0,d1,d2,d3⟩,d4,d5⟩:=HS7.out w6 ⟨⟨m0,m1,m2,m3⟩,m4,m5⟩))
  all_goals
   obtain⟨hqE,hbE,z0,z1,z2,z3⟩:=Jo br6 hq6 hB6 (by omega) (by omega) (.slice (some ⟨b,off,none⟩) h.os.length h.ocap) (.slice (some ⟨gr,0,none⟩) h.rs.length h.rcap) (.slice h.wa h.ws.length h.wcap) (.slice h.da h.ds.length h.dcap) (by rw[←HEO.out]) (by simp[HGR.out]) rfl rfl
   clear br6 hq6 hB6 HB5 HS7 c5
   go_wp2
   refine bodyPost_ret (v:=.tuple #[Hp.v {h with rs:=h.rs.set eto.toNat Z},.string sx]) ?_ rfl ⟨{h with rs:=h.rs.set eto.toNat Z},_,rfl,cF,cF.fitQ hqE,hbE.be⟩
   simp[results,Tryz.results96,go_sem,z0,z1,z2,z3,Hp.v,HEO.out,HGR.out]
theorem Qg1 (h:Hp)(e:Ev)(B:Nat)(w:World)(hq:Ql w B h)(hB:B≤w.heap.size)(c:OkC h)(he:Qk w e.o.ra e.o.r)(hel:e.o.r.length≤1048576)(het:e.o.t.size≤maxLen)(h0:0≤e.to)(h1:e.to<h.rs.length)(k2:e.k=3):
 Calls Cut.prog 96 #[h.v,e.v] w fun en w'=>∃(y:Hp) (s:ByteArray),en=.returned (.tuple #[y.v,.string s])∧OkC y∧Fit w' y∧Below B w w':=by
 have HK:Hid (e.k=3):=k2
 clear k2
 obtain⟨b0,hb0⟩:=Bx3.start w h e
 have hq3:=hq.below hb0 (Qhq _)
 have he3:=he.below hb0 (Qhq _)
 have hB3:=Qht hB hb0.size
 have hTT:=hq.rowsLt
 obtain⟨ek,eto,efr,ept,eo⟩:=e
 dsimp only at *
 go_enter (Cut.func_of Tryz.func96 rfl),Tryz.ntmps96
 simp only[Hp.v,Ev.v,Ev.cs]
 go_upto_region 1 with fail
 obtain⟨W3,hW3⟩:∃W3,W3=(((w.alloc (Qhr #[Qhp h.oa h.os.length h.ocap,Qhp h.ra h.rs.length h.rcap,Qhp h.wa h.ws.length h.wcap,Qhp h.da h.ds.length h.dcap] 27)).alloc (Qhr #[Qhs .i64 ek,Qhs .i64 eto,Qhs .i64 efr,Qhs .i64 ept,Qhs .i64 eo.k,Value.string eo.t,Qhp eo.ra eo.r.length eo.rcap] 75)).alloc (Qhr #[Qhp none 0 0,Qhp none 0 0,Qhp none 0 0,Qhp none 0 0] 27)):=⟨_,rfl⟩
 rw[←hW3]at b0 hb0 hq3 he3 hB3⊢
 clear hW3
 obtain⟨⟨x0,x1,x2,x3⟩,⟨y0,y1,y2,y3,y4,y5,y6⟩,⟨u0,u1,u2,u3⟩,g0,g1,g2,g3⟩:=b0.cells
 obtain⟨hqE,hbE,z0,z1,z2,z3⟩:=Jo (T:=w.heap.size) b0.br hq3 (Md.of hb0 hB) (by omega) (by omega) _ _ _ _ rfl rfl rfl rfl
 have k2:=HK.out
 clear HK
 subst k2
 clear hqE hbE z0 z1 z2 z3
 have cc:=Oo h eto ept W3 hq3.isIn c
 simp only[Hp.v]at cc
 go_wp2_with fail
 refine cc.mono ?_
 rintro en w1 ⟨R,rfl,hR,hb1⟩
 have br1:=b0.br.below hb1 b0.br.lt
 have bh1:=b0.bh.below hb1 b0.bh.lt
 have be1:=b0.bv.below hb1 b0.bv.lt
 have hq4:=hq3.below hb1 (Qhq _)
 have hM4:Md B w.heap.size w w1:=(Md.of hb0 hB).step hb1 hB
 clear x0 x1 x2 x3 y0 y1 y2 y3 y4 y5 y6 u0 u1 u2 u3 g0 g1 g2 g3 cc
 obtain⟨x0,x1,x2,x3⟩:=Qd bh1
 obtain⟨y2,y3⟩:w1.cell? ⟨w.heap.size+1,2,none⟩=some (.int .i64 efr)∧w1.cell? ⟨w.heap.size+1,3,none⟩=some (.int .i64 ept):=⟨be1.cell 2,be1.cell 3⟩
 obtain⟨u0,u1,u2,u3⟩:=Qd br1
 obtain⟨g0,g1,g2,g3⟩:=QF br1
 rcases hR with hR|⟨hr,hR0,hRe,hp0,hp1⟩
 ·obtain⟨hqE,hbE,z0,z1,z2,z3⟩:=Jo br1 hq4 hM4 (by omega) (by omega) (.slice h.oa h.os.length h.ocap) (.slice h.ra h.rs.length h.rcap) (.slice h.wa h.ws.length h.wcap) (.slice h.da h.ds.length h.dcap) rfl rfl rfl rfl
  clear hq4 hM4 br1 bh1 be1 hb1
  go_wp2
  refine bodyPost_ret (v:=.tuple #[h.v,.string ⟨#[110,111]⟩]) ?_ rfl ⟨h,_,rfl,c,c.fitQ hqE,hbE.be⟩
  simp[results,Tryz.results96,go_sem,z0,z1,z2,z3,Hp.v]
 ·have hpl:ept.toNat<h.os[R.toNat].r.length:=by omega
  have hkr:=(c.kind _ hr).1
  have hn60:=c.n60
  have hRl:R<(h.os.length:Int):=by omega
  obtain⟨g,hg⟩:=Qa.ptr (a:=h.os[R.toNat].ra) (n:=h.os[R.toNat].r.length) (c:=h.os[R.toNat].rcap) (hq4.rs R.toNat hr) (by omega)
  obtain⟨hgB,hgT⟩:=(hq.rs R.toNat hr).lt g (by unfold Ob.rv;rw[hg];rfl)
  have hri:∀w6,Ql w6 B h→Qa w6 B (.slice (some ⟨g,0,none⟩) h.os[R.toNat].r.length h.os[R.toNat].rcap) h.os[R.toNat].r:=fun w6 hq6=>by rw[←hg];exact hq6.rs R.toNat hr
  obtain⟨b,off,eo,hb,e1,e2,e3⟩:=hq4.isIn.so.get hr
  have hbne:b≠g:=by
   intro e
   have hob:=hq4.ob
   rw[eo]at hob
   obtain⟨cap1,cur1⟩:=Zx (hri w1 hq4) (k:=g) rfl
   obtain⟨cap2,cur2⟩:=Zx hob (k:=b) rfl
   rw[e,cur1]at cur2
   simp at cur2
  have hbd:=UI c.ro (by omega) efr
  have c5:=Uo h efr w1.drew (hq4.below (Below.refl _ w1).drew (Qhq _)).isIn.sr c.small.r
  obtain⟨Z,hZ⟩:∃Z,Z=rootP h.rs efr:=⟨_,rfl⟩
  rw[←hZ]at c5 hbd
  clear hZ
  have cF:=c.part hr (z:=Z) ⟨hbd.1,hbd.2⟩ ept.toNat
  rw[hg]at e3
  obtain⟨N,hN⟩:∃N,N=h.os[R.toNat].r.length:=⟨_,rfl⟩
  obtain⟨NC,hNC⟩:∃NC,NC=h.os[R.toNat].rcap:=⟨_,rfl⟩
  rw[←hN,←hNC]at e3
  rw[←hN]at hp1 hkr
  have HB5:Hid (∀w6,Below w1.drew.heap.size w1.drew w6→(fun(W':World)=>(W'.cell? ⟨w.heap.size,0,none⟩=some (.slice (some ⟨b,off,none⟩) h.os.length h.ocap)∧W'.cell? ⟨w.heap.size,1,none⟩=some (.slice h.ra h.rs.length h.rcap)∧W'.cell? ⟨w.heap.size,2,none⟩=some (.slice h.wa h.ws.length h.wcap)∧W'.cell? ⟨w.heap.size,3,none⟩=some (.slice h.da h.ds.length h.dcap))∧W'.cell? ⟨w.heap.size+1,2,none⟩=some (.int .i64 efr)∧W'.cell? ⟨w.heap.size+1,3,none⟩=some (.int .i64 ept)∧W'.cell? ⟨b,off+R.toNat*3+2,none⟩=some (.slice (some ⟨g,0,none⟩) N NC)) w6∧(fun(W':World)=>(W'.cell? ⟨w.heap.size,0,none⟩=some (.slice (some ⟨b,off,none⟩) h.os.length h.ocap)∧W'.cell? ⟨w.heap.size,1,none⟩=some (.slice h.ra h.rs.length h.rcap)∧W'.cell? ⟨w.heap.size,2,none⟩=some (.slice h.wa h.ws.length h.wcap)∧W'.cell? ⟨w.heap.size,3,none⟩=some (.slice h.da h.ds.length h.dcap))∧W'.cell? ⟨w.heap.size+1,2,none⟩=some (.int .i64 efr)∧W'.cell? ⟨w.heap.size+1,3,none⟩=some (.int .i64 ept)∧W'.cell? ⟨b,off+R.toNat*3+2,none⟩=some (.slice (some ⟨g,0,none⟩) N NC)) (w6.setCell ⟨g,ept.toNat,none⟩ (.int .i64 Z))∧(∃z,w6.cell? ⟨g,ept.toNat,none⟩=some (.int .i64 z))∧w6.frozen? ⟨g,ept.toNat,none⟩=false∧Blk (w6.setCell ⟨g,ept.toNat,none⟩ (.int .i64 Z)) (w.heap.size+1+1) [Qhp none 0 0,Qhp none 0 0,Qhp none 0 0,Qhp none 0 0] 27∧Md B w.heap.size w (w6.setCell ⟨g,ept.toNat,none⟩ (.int .i64 Z))∧Ql (w6.setCell ⟨g,ept.toNat,none⟩ (.int .i64 Z)) B {h with os:=h.os.set R.toNat (h.os[R.toNat].part ept.toNat Z)}):=fun w6 hb6=>by
   have hb6':Below w1.heap.size w1 w6:=((Below.refl _ _).drew).trans hb6
   have bh6:=bh1.step hb6'
   have bv6:=be1.step hb6'
   have hq6:=hq4.below hb6' (Qhq _)
   have m0:=bh6.cell 0
   simp only[Qhv,eo]at m0
   have e6:=(hb6'.cell (p:=⟨b,off+R.toNat*3+2,none⟩) hb).trans e3
   have sc:∀(p:Addr) (u:Value),p.block≠g→w6.cell? p=some u→(w6.setCell ⟨g,ept.toNat,none⟩ (.int .i64 Z)).cell? p=some u:=fun p u hp hc=>by
    rw[Qhu (Below.heap_setCell _ _ _ _ hp)];exact hc
   have p1:w.heap.size≠g:=by omega
   have p2:w.heap.size+1≠g:=by omega
   have m1:=bh6.cell 1
   have m2:=bh6.cell 2
   have m3:=bh6.cell 3
   have m4:=bv6.cell 2
   have m5:=bv6.cell 3
   refine⟨⟨⟨m0,m1,m2,m3⟩,m4,m5,e6⟩,⟨⟨sc _ _ p1 m0,sc _ _ p1 m1,sc _ _ p1 m2,sc _ _ p1 m3⟩,sc _ _ p2 m4,sc _ _ p2 m5,sc _ _ hbne e6⟩,⟨_,(hri w6 hq6).at hpl⟩,(hri w6 hq6).free _,?_,?_,hq6.setPart hr hg ept.toNat Z⟩
   ·exact(br1.step hb6').other _ _ (by dsimp only;omega)
   ·exact(hM4.step hb6' hB).set (p:=⟨g,ept.toNat,none⟩) hgB (Or.inl hgT) _
  simp only[Hp.v,eo]at c5
  rw[eo]at x0
  have HEO:Hid (h.oa=some ⟨b,off,none⟩):=eo
  clear eo hg hri hRe e1 e2 hN hNC hq4 hM4 br1 bh1 be1 hb1
  go_wp2_with fail
  go_region_held3 (fun(W':World)=>(W'.cell? ⟨w.heap.size,0,none⟩=some (.slice (some ⟨b,off,none⟩) h.os.length h.ocap)∧W'.cell? ⟨w.heap.size,1,none⟩=some (.slice h.ra h.rs.length h.rcap)∧W'.cell? ⟨w.heap.size,2,none⟩=some (.slice h.wa h.ws.length h.wcap)∧W'.cell? ⟨w.heap.size,3,none⟩=some (.slice h.da h.ds.length h.dcap))∧W'.cell? ⟨w.heap.size+1,2,none⟩=some (.int .i64 efr)∧W'.cell? ⟨w.heap.size+1,3,none⟩=some (.int .i64 ept)∧W'.cell? ⟨b,off+R.toNat*3+2,none⟩=some (.slice (some ⟨g,0,none⟩) N NC)) (first|(refine⟨⟨?_,?_,?_,?_⟩,?_,?_,?_⟩<;>with_reducible assumption)|go_keep)
   (first
     |(go_at_call 124;refine c5.mono ?_;rintro en w6 ⟨rfl,hb6⟩;obtain⟨⟨⟨m0,m1,m2,m3⟩,m4,m5,m6⟩,⟨⟨d0,d1,d2,d3⟩,d4,d5,d6⟩,⟨z,q0⟩,q1,br6,hB6,hq6⟩:=HB5.out w6 hb6))
  all_goals
   obtain⟨hqE,hbE,z0,z1,z2,z3⟩:=Jo br6 hq6 hB6 (by omega) (by omega) (.slice (some ⟨b,off,none⟩) h.os.length h.ocap) (.slice h.ra h.rs.length h.rcap) (.slice h.wa h.ws.length h.wcap) (.slice h.da h.ds.length h.dcap) (by simp[HEO.out]) rfl rfl rfl
   obtain⟨u0,u1,u2,u3⟩:=Qd br6
   obtain⟨v0,v1,v2,v3⟩:=QF br6
   clear br6 hq6 hB6 HB5 c5
   go_wp2
   refine bodyPost_ret (v:=.tuple #[Hp.v {h with os:=h.os.set R.toNat (h.os[R.toNat].part ept.toNat Z)},.string ⟨#[111,107]⟩]) ?_ rfl ⟨{h with os:=h.os.set R.toNat (h.os[R.toNat].part ept.toNat Z)},_,rfl,cF,cF.fitQ hqE,hbE.be⟩
   simp[results,Tryz.results96,go_sem,z0,z1,z2,z3,Hp.v,HEO.out]
theorem OY (h:Hp)(e:Ev)(B:Nat)(w:World)(hq:Ql w B h)(hB:B≤w.heap.size)(c:OkC h)(he:Qk w e.o.ra e.o.r)(hel:e.o.r.length≤1048576)(het:e.o.t.size≤maxLen)(h01:e.k≠7→0≤e.to∧e.to<h.rs.length):
 Calls Cut.prog 96 #[h.v,e.v] w fun en w'=>∃(y:Hp) (s:ByteArray),en=.returned (.tuple #[y.v,.string s])∧OkC y∧Fit w' y∧Below B w w':=by
 by_cases k2:e.k=2
 ·exact Qff h e B w hq hB c he hel het (h01 (by omega)).1 (h01 (by omega)).2 k2
 by_cases k3:e.k=3
 ·exact Qg1 h e B w hq hB c he hel het (h01 (by omega)).1 (h01 (by omega)).2 k3
 exact QgY h e B w hq hB c he hel het h01 k2 k3
theorem Yc {W:World}{B C e size n:Nat}{v:Value}{xs:List Value}(h:W.ownsRow B e size v n xs)(hC:C≤B):W.ownsRow C e size v n xs:=by
 refine⟨h.1,?_⟩
 rcases h.2 with h1|⟨g,cap,cur,h1,hg,r⟩
 ·exact Or.inl h1
 ·exact Or.inr ⟨g,cap,cur,h1,Qht hC hg,r⟩
theorem Ql.base {W:World}{B C:Nat}{h:Hp}(q:Ql W B h)(hC:C≤B):Ql W C h:=
 ⟨Yc q.ob hC,fun i hi=>Yc (q.rs i hi) hC,q.rne,Yc q.ro hC,q.rro,Yc q.wa hC,Yc q.da hC,q.wne⟩
theorem Qf7 (h:Hp)(e:Ev)(w:World)(hf:Fit w h)(c:OkC h)(he:Qk w e.o.ra e.o.r)(hel:e.o.r.length≤1048576)(het:e.o.t.size≤maxLen):
 Calls Cut.prog 52 #[h.v,e.v] w fun en w'=>∃(y:Hp) (s:ByteArray),en=.returned (.tuple #[y.v,.string s])∧OkC y∧Ql w' w.heap.size y∧Below w.heap.size w w':=by
 obtain⟨b0,hb0⟩:=Bx3.start w h e
 have he3:=he.below hb0 (Qhq _)
 have hf3:=hf.below hb0 (Qhq _)
 have c1:=KA h _ hf3.isIn hf3.small hf3.txt
 rw[YD c]at c1
 obtain⟨ek,eto,efr,ept,eo⟩:=e
 dsimp only at *
 go_enter (Cut.func_of Tryz.func52 rfl),Tryz.ntmps52
 simp only[Hp.v,Ev.v,Ev.cs]at c1⊢
 go_wp2_with fail
 refine c1.mono ?_
 rintro en w1 ⟨rfl,hb1⟩
 have b1:=b0.step hb1
 have hB1:=hb0.trans (hb1.mono hb0.size)
 have hf1:=hf3.below hb1 (Qhq _)
 have he1:=he3.below hb1 (Qhq _)
 clear c1 b0 hb0 hf3 he3 hb1
 obtain⟨⟨x0,x1,x2,x3⟩,⟨y0,y1,y2,y3,y4,y5,y6⟩,⟨u0,u1,u2,u3⟩,g0,g1,g2,g3⟩:=b1.cells
 have c2:=UG h w1 hf1.isIn hf1.small
 simp only[Hp.v]at c2
 go_wp2_with fail
 refine c2.mono ?_
 rintro en w2 ⟨x,rfl,hxp,hqx,hb2⟩
 have cx:=OkC.of_p hxp c
 have HLEN:Hid (x.rs.length=h.rs.length):=by
  show x.rs.length=h.rs.length
  have:=congrArg (fun q=>q.2.1.length) hxp
  simpa[Hp.p]using this
 have hA:Below w2.heap.size w2 (w2.alloc (Qhr #[Qhp x.oa x.os.length x.ocap,Qhp x.ra x.rs.length x.rcap,Qhp x.wa x.ws.length x.wcap,Qhp x.da x.ds.length x.dcap] 27)):=(Below.refl _ _).alloc (Qhq _) _
 have b4:=(b1.step hb2).step hA
 have bX:=Blk.new w2 [Qhp x.oa x.os.length x.ocap,Qhp x.ra x.rs.length x.rcap,Qhp x.wa x.ws.length x.wcap,Qhp x.da x.ds.length x.dcap] 27
 have hq4:=hqx.below hA (Qhq _)
 have hB4:=(hB1.trans (hb2.mono hB1.size)).trans (hA.mono (Qht hB1.size hb2.size))
 have he4:=(he1.below hb2 (Qhq _)).below hA (Qhq _)
 have hs4:w1.heap.size≤(w2.alloc (Qhr #[Qhp x.oa x.os.length x.ocap,Qhp x.ra x.rs.length x.rcap,Qhp x.wa x.ws.length x.wcap,Qhp x.da x.ds.length x.dcap] 27)).heap.size:=Qht hb2.size hA.size
 clear x0 x1 x2 x3 y0 y1 y2 y3 y4 y5 y6 u0 u1 u2 u3 g0 g1 g2 g3 c2
 have hw2:w.heap.size+1+1<w2.heap.size:=(b1.step hb2).br.lt
 have hn1:¬w2.heap.size=w.heap.size:=by omega
 have hn2:¬w2.heap.size=w.heap.size+1:=by omega
 have hn3:¬w2.heap.size=w.heap.size+1+1:=by omega
 have hn4:¬w.heap.size=w2.heap.size:=by omega
 have hn5:¬w.heap.size+1=w2.heap.size:=by omega
 have hn6:¬w.heap.size+1+1=w2.heap.size:=by omega
 have hw1:=b1.br.lt
 obtain⟨⟨x0,x1,x2,x3⟩,⟨y0,y1,y2,y3,y4,y5,y6⟩,⟨u0,u1,u2,u3⟩,g0,g1,g2,g3⟩:=b4.cells
 obtain⟨s0,s1,s2,s3⟩:=Qd bX
 obtain⟨⟨i0,i1,i2,i3⟩,⟨j0,j1,j2,j3,j4,j5,j6⟩,⟨v0,v1,v2,v3⟩,f0,f1,f2,f3⟩:=(b1.step hb2).cells
 clear hxp
 dsimp only at *
 by_cases k7:ek=7
 ·subst k7
  have c6:=OY x ⟨7,eto,efr,ept,eo⟩ w1.heap.size _ hq4 hs4 cx he4 hel het (fun hk=>absurd rfl hk)
  simp only[Hp.v,Ev.v,Ev.cs]at c6
  go_wp2_with fail
  refine c6.mono ?_
  rintro en w5 ⟨y,s,rfl,cy,fy,hb5⟩
  have br5:=b4.br.below hb5 hw1
  have hA6:Below w5.heap.size w5 (w5.alloc (Qhr #[Qhp y.oa y.os.length y.ocap,Qhp y.ra y.rs.length y.rcap,Qhp y.wa y.ws.length y.wcap,Qhp y.da y.ds.length y.dcap] 27)):=(Below.refl _ _).alloc (Qhq _) _
  have bY:=Blk.new w5 [Qhp y.oa y.os.length y.ocap,Qhp y.ra y.rs.length y.rcap,Qhp y.wa y.ws.length y.wcap,Qhp y.da y.ds.length y.dcap] 27
  have br6:=br5.step hA6
  have hB6:=(hB4.trans (hb5.mono hB1.size)).trans (hA6.mono (Qht hB4.size hb5.size))
  have f6:=fy.below hA6 (Qhq _)
  have c7:=UG y (w5.alloc (Qhr #[Qhp y.oa y.os.length y.ocap,Qhp y.ra y.rs.length y.rcap,Qhp y.wa y.ws.length y.wcap,Qhp y.da y.ds.length y.dcap] 27)) f6.isIn f6.small
  simp only[Hp.v]at c7
  clear x0 x1 x2 x3 y0 y1 y2 y3 y4 y5 y6 u0 u1 u2 u3 g0 g1 g2 g3 s0 s1 s2 s3 i0 i1 i2 i3 j0 j1 j2 j3 j4 j5 j6 v0 v1 v2 v3 f0 f1 f2 f3 c6
  obtain⟨x0,x1,x2,x3⟩:=Qd bY
  have hn7:=br5.lt
  go_wp2_with fail
  refine c7.mono ?_
  rintro en w7 ⟨z,rfl,hzp,hqz,hb7⟩
  have cz:=OkC.of_p hzp cy
  have br7:=br6.step hb7
  have hB7:=hB6.trans (hb7.mono hB6.size)
  obtain⟨u0,u1,u2,u3⟩:=Qd br7
  obtain⟨g0,g1,g2,g3⟩:=QF br7
  obtain⟨kq,bq⟩:=Q7 br7 (.slice z.oa z.os.length z.ocap) (.slice z.ra z.rs.length z.rcap) (.slice z.wa z.ws.length z.wcap) (.slice z.da z.ds.length z.dcap)
  obtain⟨z0,z1,z2,z3⟩:=Qd bq
  have hqE:=hqz.keep kq
  have hbE:=Z2 hB7 (C:=w.heap.size+1+1) (by omega) (.slice z.oa z.os.length z.ocap) (.slice z.ra z.rs.length z.rcap) (.slice z.wa z.ws.length z.wcap) (.slice z.da z.ds.length z.dcap)
  clear hzp kq bq c7 hqz br7 hB7
  go_wp2
  refine bodyPost_ret (v:=.tuple #[z.v,.string s]) ?_ rfl ⟨z,s,rfl,cz,hqE.base hB6.size,hbE⟩
  simp[results,Tryz.results52,go_sem,z0,z1,z2,z3,Hp.v]
 ·have n7:(ek !=7)=true:=by simp[k7]
  clear k7
  have hr8:=c.r8
  go_wp2_with fail
  refine(J6 _ _ _ _).mono ?_
  rintro en w' ⟨rfl,rfl⟩
  cases hin:inB eto 0 ((h.rs.length:Int)-1)with
  |false=>
   clear hin
   have br2:=(b1.step hb2).br
   obtain⟨kq,bq⟩:=Q7 br2 (.slice x.oa x.os.length x.ocap) (.slice x.ra x.rs.length x.rcap) (.slice x.wa x.ws.length x.wcap) (.slice x.da x.ds.length x.dcap)
   have hb4':=Z2 (hB1.trans (hb2.mono hB1.size)) (C:=w.heap.size+1+1) (by omega) (.slice x.oa x.os.length x.ocap) (.slice x.ra x.rs.length x.rcap) (.slice x.wa x.ws.length x.wcap) (.slice x.da x.ds.length x.dcap)
   have hA4:Below ((((w2.setCell ⟨w.heap.size+1+1,0,none⟩ (.slice x.oa x.os.length x.ocap)).setCell ⟨w.heap.size+1+1,1,none⟩ (.slice x.ra x.rs.length x.rcap)).setCell ⟨w.heap.size+1+1,2,none⟩ (.slice x.wa x.ws.length x.wcap)).setCell ⟨w.heap.size+1+1,3,none⟩ (.slice x.da x.ds.length x.dcap)).heap.size ((((w2.setCell ⟨w.heap.size+1+1,0,none⟩ (.slice x.oa x.os.length x.ocap)).setCell ⟨w.heap.size+1+1,1,none⟩ (.slice x.ra x.rs.length x.rcap)).setCell ⟨w.heap.size+1+1,2,none⟩ (.slice x.wa x.ws.length x.wcap)).setCell ⟨w.heap.size+1+1,3,none⟩ (.slice x.da x.ds.length x.dcap)) (((((w2.setCell ⟨w.heap.size+1+1,0,none⟩ (.slice x.oa x.os.length x.ocap)).setCell ⟨w.heap.size+1+1,1,none⟩ (.slice x.ra x.rs.length x.rcap)).setCell ⟨w.heap.size+1+1,2,none⟩ (.slice x.wa x.ws.length x.wcap)).setCell ⟨w.heap.size+1+1,3,none⟩ (.slice x.da x.ds.length x.dcap)).alloc (Qhr #[Qhp x.oa x.os.length x.ocap,Qhp x.ra x.rs.length x.rcap,Qhp x.wa x.ws.length x.wcap,Qhp x.da x.ds.length x.dcap] 27)):=(Below.refl _ _).alloc (Qhq _) _
   have bq4:=bq.below hA4 bq.lt
   obtain⟨z0,z1,z2,z3⟩:=Qd bq4
   have hqE:=(hqx.keep kq).below hA4 (Qhq _)
   have hbE:=hb4'.trans (hA4.mono hb4'.size)
   clear kq bq hA4 bq4 hb4' br2
   go_wp2
   refine bodyPost_ret (v:=.tuple #[x.v,.string ⟨#[110,111]⟩]) ?_ rfl ⟨x,_,rfl,cx,hqE.base hB1.size,hbE⟩
   clear hqE hbE
   generalize ((((w2.setCell ⟨w.heap.size+1+1,0,none⟩ (.slice x.oa x.os.length x.ocap)).setCell ⟨w.heap.size+1+1,1,none⟩ (.slice x.ra x.rs.length x.rcap)).setCell ⟨w.heap.size+1+1,2,none⟩ (.slice x.wa x.ws.length x.wcap)).setCell ⟨w.heap.size+1+1,3,none⟩ (.slice x.da x.ds.length x.dcap)).alloc (Qhr #[Qhp x.oa x.os.length x.ocap,Qhp x.ra x.rs.length x.rcap,Qhp x.wa x.ws.length x.wcap,Qhp x.da x.ds.length x.dcap] 27)=WE at z0 z1 z2 z3⊢
   simp[results,Tryz.results52,go_sem,z0,z1,z2,z3,Hp.v]
  |true=>
   have hE:0≤eto∧eto<x.rs.length:=by
    have:=HLEN.out
    simp[inB]at hin
    omega
   clear hin
   have c6:=OY x ⟨ek,eto,efr,ept,eo⟩ w1.heap.size _ hq4 hs4 cx he4 hel het (fun _=>hE)
   simp only[Hp.v,Ev.v,Ev.cs]at c6
   go_wp2_with fail
   refine c6.mono ?_
   rintro en w5 ⟨y,s,rfl,cy,fy,hb5⟩
   have br5:=b4.br.below hb5 hw1
   have hA6:Below w5.heap.size w5 (w5.alloc (Qhr #[Qhp y.oa y.os.length y.ocap,Qhp y.ra y.rs.length y.rcap,Qhp y.wa y.ws.length y.wcap,Qhp y.da y.ds.length y.dcap] 27)):=(Below.refl _ _).alloc (Qhq _) _
   have bY:=Blk.new w5 [Qhp y.oa y.os.length y.ocap,Qhp y.ra y.rs.length y.rcap,Qhp y.wa y.ws.length y.wcap,Qhp y.da y.ds.length y.dcap] 27
   have br6:=br5.step hA6
   have hB6:=(hB4.trans (hb5.mono hB1.size)).trans (hA6.mono (Qht hB4.size hb5.size))
   have f6:=fy.below hA6 (Qhq _)
   have c7:=UG y (w5.alloc (Qhr #[Qhp y.oa y.os.length y.ocap,Qhp y.ra y.rs.length y.rcap,Qhp y.wa y.ws.length y.wcap,Qhp y.da y.ds.length y.dcap] 27)) f6.isIn f6.small
   simp only[Hp.v]at c7
   clear x0 x1 x2 x3 y0 y1 y2 y3 y4 y5 y6 u0 u1 u2 u3 g0 g1 g2 g3 s0 s1 s2 s3 i0 i1 i2 i3 j0 j1 j2 j3 j4 j5 j6 v0 v1 v2 v3 f0 f1 f2 f3 c6
   obtain⟨x0,x1,x2,x3⟩:=Qd bY
   have hn7:=br5.lt
   go_wp2_with fail
   refine c7.mono ?_
   rintro en w7 ⟨z,rfl,hzp,hqz,hb7⟩
   have cz:=OkC.of_p hzp cy
   have br7:=br6.step hb7
   have hB7:=hB6.trans (hb7.mono hB6.size)
   obtain⟨u0,u1,u2,u3⟩:=Qd br7
   obtain⟨g0,g1,g2,g3⟩:=QF br7
   obtain⟨kq,bq⟩:=Q7 br7 (.slice z.oa z.os.length z.ocap) (.slice z.ra z.rs.length z.rcap) (.slice z.wa z.ws.length z.wcap) (.slice z.da z.ds.length z.dcap)
   obtain⟨z0,z1,z2,z3⟩:=Qd bq
   have hqE:=hqz.keep kq
   have hbE:=Z2 hB7 (C:=w.heap.size+1+1) (by omega) (.slice z.oa z.os.length z.ocap) (.slice z.ra z.rs.length z.rcap) (.slice z.wa z.ws.length z.wcap) (.slice z.da z.ds.length z.dcap)
   clear hzp kq bq c7 hqz br7 hB7
   go_wp2
   refine bodyPost_ret (v:=.tuple #[z.v,.string s]) ?_ rfl ⟨z,s,rfl,cz,hqE.base hB6.size,hbE⟩
   simp[results,Tryz.results52,go_sem,z0,z1,z2,z3,Hp.v]
end
end Go.Proofs.YtcpnkpogebjieaaGreat
