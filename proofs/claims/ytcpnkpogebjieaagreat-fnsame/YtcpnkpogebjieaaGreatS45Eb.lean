/- The specification's own events: a part is set. -/
import Derived.Test.YtcpnkpogebjieaaGreatS44Dw
import Derived.Deep.QuietTactic
import Derived.BigQuiet
import Derived.Deep.RegionWith
import Derived.Laws.Bits64
import Derived.Test.YtcpnkpogebjieaaGreatS10Vc
open Go.Value renaming slice→QhR,int→QhV
open Nat renaming le_refl→QhS,le_trans→QhU
open Go.Obj renaming cells→QhT
open Int renaming emod_lt_of_pos→QhW
set_option maxHeartbeats 1600000
set_option maxRecDepth 100000
namespace Go.Proofs.YtcpnkpogebjieaaGreat
section
open Go.RowKit
theorem QeU (h:Hp)(e:Ev)(B:Nat)(w:World)(hq:Qk w B h)(hB:B≤w.heap.size)(c:OkC h)(he:Qi w e.o.ra e.o.r)(hel:e.o.r.length≤1048576)(het:e.o.t.size≤maxLen)(h0:0≤e.to)(h1:e.to<h.rs.length)(k2:e.k=3):
 Calls Cut.prog 96 #[h.v,e.v] w fun en w'=>∃(y:Hp) (s:ByteArray),en=.returned (.tuple #[y.v,.string s])∧OkC y∧Fit w' y∧Below B w w':=by
 have HK:Hid (e.k=3):=k2;clear k2;obtain⟨b0,hb0⟩:=Bx3.start w h e;have hq3:=hq.below hb0 (QhS _);have he3:=he.below hb0 (QhS _);have hB3:=QhU hB hb0.size;have hTT:=hq.rowsLt;obtain⟨ek,eto,efr,ept,eo⟩:=e;dsimp only at *;go_enter (Cut.func_of Tryz.func96 rfl),Tryz.ntmps96;simp only[Hp.v,Ev.v,Ev.cs];go_upto_region 1 with fail;obtain⟨W3,hW3⟩:∃W3,W3=(((w.alloc (QhT #[QhR h.oa h.os.length h.ocap,QhR h.ra h.rs.length h.rcap,QhR h.wa h.ws.length h.wcap,QhR h.da h.ds.length h.dcap] 27)).alloc (QhT #[QhV .i64 ek,QhV .i64 eto,QhV .i64 efr,QhV .i64 ept,QhV .i64 eo.k,Value.string eo.t,QhR eo.ra eo.r.length eo.rcap] 75)).alloc (QhT #[QhR none 0 0,QhR none 0 0,QhR none 0 0,QhR none 0 0] 27)):=⟨_,rfl⟩;rw[←hW3]at b0 hb0 hq3 he3 hB3⊢;clear hW3;obtain⟨⟨x0,x1,x2,x3⟩,⟨y0,y1,y2,y3,y4,y5,y6⟩,⟨u0,u1,u2,u3⟩,g0,g1,g2,g3⟩:=b0.cells;obtain⟨hqE,hbE,z0,z1,z2,z3⟩:=Jx (T:=w.heap.size) b0.br hq3 (Md.of hb0 hB) (by omega) (by omega) _ _ _ _ rfl rfl rfl rfl;have k2:=HK.out;clear HK;subst k2;clear hqE hbE z0 z1 z2 z3;have cc:=Qah h eto ept W3 hq3.isIn c;simp only[Hp.v]at cc;go_wp2_with fail;refine cc.mono ?_;rintro en w1 ⟨R,rfl,hR,hb1⟩;have br1:=b0.br.below hb1 b0.br.lt;have bh1:=b0.bh.below hb1 b0.bh.lt;have be1:=b0.bv.below hb1 b0.bv.lt;have hq4:=hq3.below hb1 (QhS _);have hM4:Md B w.heap.size w w1:=(Md.of hb0 hB).step hb1 hB;clear x0 x1 x2 x3 y0 y1 y2 y3 y4 y5 y6 u0 u1 u2 u3 g0 g1 g2 g3 cc;obtain⟨x0,x1,x2,x3⟩:=Qb bh1;obtain⟨y2,y3⟩:w1.cell? ⟨w.heap.size+1,2,none⟩=some (.int .i64 efr)∧w1.cell? ⟨w.heap.size+1,3,none⟩=some (.int .i64 ept):=⟨be1.cell 2,be1.cell 3⟩;obtain⟨u0,u1,u2,u3⟩:=Qb br1;obtain⟨g0,g1,g2,g3⟩:=Qo br1;rcases hR with hR|⟨hr,hR0,hRe,hp0,hp1⟩
 ·obtain⟨hqE,hbE,z0,z1,z2,z3⟩:=Jx br1 hq4 hM4 (by omega) (by omega) (.slice h.oa h.os.length h.ocap) (.slice h.ra h.rs.length h.rcap) (.slice h.wa h.ws.length h.wcap) (.slice h.da h.ds.length h.dcap) rfl rfl rfl rfl;clear hq4 hM4 br1 bh1 be1 hb1;go_wp2;refine bodyPost_ret (v:=.tuple #[h.v,.string ⟨#[110,111]⟩]) ?_ rfl ⟨h,_,rfl,c,c.fitQ hqE,hbE.be⟩;simp[results,Tryz.results96,go_sem,z0,z1,z2,z3,Hp.v]
 ·have hpl:ept.toNat<h.os[R.toNat].r.length:=by omega
  have hkr:=(c.kind _ hr).1;have hn60:=c.n60;have hRl:R<(h.os.length:Int):=by omega
  obtain⟨g,hg⟩:=Qa.ptr (a:=h.os[R.toNat].ra) (n:=h.os[R.toNat].r.length) (c:=h.os[R.toNat].rcap) (hq4.rs R.toNat hr) (by omega);obtain⟨hgB,hgT⟩:=(hq.rs R.toNat hr).lt g (by unfold Ob.rv;rw[hg];rfl);have hri:∀w6,Qk w6 B h→Qa w6 B (.slice (some ⟨g,0,none⟩) h.os[R.toNat].r.length h.os[R.toNat].rcap) h.os[R.toNat].r:=fun w6 hq6=>by rw[←hg];exact hq6.rs R.toNat hr
  obtain⟨b,off,eo,hb,e1,e2,e3⟩:=hq4.isIn.so.get hr
  have hbne:b≠g:=by
   intro e;have hob:=hq4.ob;rw[eo]at hob;obtain⟨cap1,cur1⟩:=ZB (hri w1 hq4) (k:=g) rfl;obtain⟨cap2,cur2⟩:=ZB hob (k:=b) rfl;rw[e,cur1]at cur2;simp at cur2
  have hbd:=U2 c.ro (by omega) efr;have c5:=Uw h efr w1.drew (hq4.below (Below.refl _ w1).drew (QhS _)).isIn.sr c.small.r;obtain⟨Z,hZ⟩:∃Z,Z=rootP h.rs efr:=⟨_,rfl⟩;rw[←hZ]at c5 hbd;clear hZ;have cF:=c.part hr (z:=Z) ⟨hbd.1,hbd.2⟩ ept.toNat;rw[hg]at e3;obtain⟨N,hN⟩:∃N,N=h.os[R.toNat].r.length:=⟨_,rfl⟩;obtain⟨NC,hNC⟩:∃NC,NC=h.os[R.toNat].rcap:=⟨_,rfl⟩;rw[←hN,←hNC]at e3;rw[←hN]at hp1 hkr
  have HB5:Hid (∀w6,Below w1.drew.heap.size w1.drew w6→(fun(W':World)=>(W'.cell? ⟨w.heap.size,0,none⟩=some (.slice (some ⟨b,off,none⟩) h.os.length h.ocap)∧W'.cell? ⟨w.heap.size,1,none⟩=some (.slice h.ra h.rs.length h.rcap)∧W'.cell? ⟨w.heap.size,2,none⟩=some (.slice h.wa h.ws.length h.wcap)∧W'.cell? ⟨w.heap.size,3,none⟩=some (.slice h.da h.ds.length h.dcap))∧W'.cell? ⟨w.heap.size+1,2,none⟩=some (.int .i64 efr)∧W'.cell? ⟨w.heap.size+1,3,none⟩=some (.int .i64 ept)∧W'.cell? ⟨b,off+R.toNat*3+2,none⟩=some (.slice (some ⟨g,0,none⟩) N NC)) w6∧(fun(W':World)=>(W'.cell? ⟨w.heap.size,0,none⟩=some (.slice (some ⟨b,off,none⟩) h.os.length h.ocap)∧W'.cell? ⟨w.heap.size,1,none⟩=some (.slice h.ra h.rs.length h.rcap)∧W'.cell? ⟨w.heap.size,2,none⟩=some (.slice h.wa h.ws.length h.wcap)∧W'.cell? ⟨w.heap.size,3,none⟩=some (.slice h.da h.ds.length h.dcap))∧W'.cell? ⟨w.heap.size+1,2,none⟩=some (.int .i64 efr)∧W'.cell? ⟨w.heap.size+1,3,none⟩=some (.int .i64 ept)∧W'.cell? ⟨b,off+R.toNat*3+2,none⟩=some (.slice (some ⟨g,0,none⟩) N NC)) (w6.setCell ⟨g,ept.toNat,none⟩ (.int .i64 Z))∧(∃z,w6.cell? ⟨g,ept.toNat,none⟩=some (.int .i64 z))∧w6.frozen? ⟨g,ept.toNat,none⟩=false∧Blk (w6.setCell ⟨g,ept.toNat,none⟩ (.int .i64 Z)) (w.heap.size+1+1) [QhR none 0 0,QhR none 0 0,QhR none 0 0,QhR none 0 0] 27∧Md B w.heap.size w (w6.setCell ⟨g,ept.toNat,none⟩ (.int .i64 Z))∧Qk (w6.setCell ⟨g,ept.toNat,none⟩ (.int .i64 Z)) B {h with os:=h.os.set R.toNat (h.os[R.toNat].part ept.toNat Z)}):=fun w6 hb6=>by
   have hb6':Below w1.heap.size w1 w6:=((Below.refl _ _).drew).trans hb6;have bh6:=bh1.step hb6';have bv6:=be1.step hb6';have hq6:=hq4.below hb6' (QhS _);have m0:=bh6.cell 0;simp only[List.getElem?_cons_zero,eo]at m0;have e6:=(hb6'.cell (p:=⟨b,off+R.toNat*3+2,none⟩) hb).trans e3
   have sc:∀(p:Addr) (u:Value),p.block≠g→w6.cell? p=some u→(w6.setCell ⟨g,ept.toNat,none⟩ (.int .i64 Z)).cell? p=some u:=fun p u hp hc=>by
    rw[World.cell?_of_block (Below.heap_setCell _ _ _ _ hp)];exact hc
   have p1:w.heap.size≠g:=by omega
   have p2:w.heap.size+1≠g:=by omega
   have m1:=bh6.cell 1;have m2:=bh6.cell 2;have m3:=bh6.cell 3;have m4:=bv6.cell 2;have m5:=bv6.cell 3;refine⟨⟨⟨m0,m1,m2,m3⟩,m4,m5,e6⟩,⟨⟨sc _ _ p1 m0,sc _ _ p1 m1,sc _ _ p1 m2,sc _ _ p1 m3⟩,sc _ _ p2 m4,sc _ _ p2 m5,sc _ _ hbne e6⟩,⟨_,(hri w6 hq6).at hpl⟩,(hri w6 hq6).free _,?_,?_,hq6.setPart hr hg ept.toNat Z⟩
   ·exact(br1.step hb6').other _ _ (by dsimp only;omega)
   ·exact(hM4.step hb6' hB).set (p:=⟨g,ept.toNat,none⟩) hgB (Or.inl hgT) _
  simp only[Hp.v,eo]at c5;rw[eo]at x0;have HEO:Hid (h.oa=some ⟨b,off,none⟩):=eo;clear eo hg hri hRe e1 e2 hN hNC hq4 hM4 br1 bh1 be1 hb1;go_wp2_with fail;go_region_held3 (fun(W':World)=>(W'.cell? ⟨w.heap.size,0,none⟩=some (.slice (some ⟨b,off,none⟩) h.os.length h.ocap)∧W'.cell? ⟨w.heap.size,1,none⟩=some (.slice h.ra h.rs.length h.rcap)∧W'.cell? ⟨w.heap.size,2,none⟩=some (.slice h.wa h.ws.length h.wcap)∧W'.cell? ⟨w.heap.size,3,none⟩=some (.slice h.da h.ds.length h.dcap))∧W'.cell? ⟨w.heap.size+1,2,none⟩=some (.int .i64 efr)∧W'.cell? ⟨w.heap.size+1,3,none⟩=some (.int .i64 ept)∧W'.cell? ⟨b,off+R.toNat*3+2,none⟩=some (.slice (some ⟨g,0,none⟩) N NC)) (first|(refine⟨⟨?_,?_,?_,?_⟩,?_,?_,?_⟩<;>with_reducible assumption)|go_keep)
   (first
     |(go_at_call 124;refine c5.mono ?_;rintro en w6 ⟨rfl,hb6⟩;obtain⟨⟨⟨m0,m1,m2,m3⟩,m4,m5,m6⟩,⟨⟨d0,d1,d2,d3⟩,d4,d5,d6⟩,⟨z,q0⟩,q1,br6,hB6,hq6⟩:=HB5.out w6 hb6))
  all_goals
   obtain⟨hqE,hbE,z0,z1,z2,z3⟩:=Jx br6 hq6 hB6 (by omega) (by omega) (.slice (some ⟨b,off,none⟩) h.os.length h.ocap) (.slice h.ra h.rs.length h.rcap) (.slice h.wa h.ws.length h.wcap) (.slice h.da h.ds.length h.dcap) (by simp[HEO.out]) rfl rfl rfl;obtain⟨u0,u1,u2,u3⟩:=Qb br6;obtain⟨v0,v1,v2,v3⟩:=Qo br6;clear br6 hq6 hB6 HB5 c5;go_wp2;refine bodyPost_ret (v:=.tuple #[Hp.v {h with os:=h.os.set R.toNat (h.os[R.toNat].part ept.toNat Z)},.string ⟨#[111,107]⟩]) ?_ rfl ⟨{h with os:=h.os.set R.toNat (h.os[R.toNat].part ept.toNat Z)},_,rfl,cF,cF.fitQ hqE,hbE.be⟩;simp[results,Tryz.results96,go_sem,z0,z1,z2,z3,Hp.v,HEO.out]
theorem Qag (h:Hp)(e:Ev)(B:Nat)(w:World)(hq:Qk w B h)(hB:B≤w.heap.size)(c:OkC h)(he:Qi w e.o.ra e.o.r)(hel:e.o.r.length≤1048576)(het:e.o.t.size≤maxLen)(h01:e.k≠7→0≤e.to∧e.to<h.rs.length):
 Calls Cut.prog 96 #[h.v,e.v] w fun en w'=>∃(y:Hp) (s:ByteArray),en=.returned (.tuple #[y.v,.string s])∧OkC y∧Fit w' y∧Below B w w':=by
 by_cases k2:e.k=2
 ·exact QeV h e B w hq hB c he hel het (h01 (by omega)).1 (h01 (by omega)).2 k2
 by_cases k3:e.k=3
 ·exact QeU h e B w hq hB c he hel het (h01 (by omega)).1 (h01 (by omega)).2 k3
 exact QeT h e B w hq hB c he hel het h01 k2 k3
theorem Ys {W:World}{B C e size n:Nat}{v:Value}{xs:List Value}(h:W.ownsRow B e size v n xs)(hC:C≤B):W.ownsRow C e size v n xs:=by
 refine⟨h.1,?_⟩;rcases h.2 with h1|⟨g,cap,cur,h1,hg,r⟩
 ·exact Or.inl h1
 ·exact Or.inr ⟨g,cap,cur,h1,QhU hC hg,r⟩
theorem Qk.base {W:World}{B C:Nat}{h:Hp}(q:Qk W B h)(hC:C≤B):Qk W C h:=
 ⟨Ys q.ob hC,fun i hi=>Ys (q.rs i hi) hC,q.rne,Ys q.ro hC,q.rro,Ys q.wa hC,Ys q.da hC,q.wne⟩
theorem Qba (h:Hp)(e:Ev)(w:World)(hf:Fit w h)(c:OkC h)(he:Qi w e.o.ra e.o.r)(hel:e.o.r.length≤1048576)(het:e.o.t.size≤maxLen):
 Calls Cut.prog 52 #[h.v,e.v] w fun en w'=>∃(y:Hp) (s:ByteArray),en=.returned (.tuple #[y.v,.string s])∧OkC y∧Qk w' w.heap.size y∧Below w.heap.size w w':=by
 obtain⟨b0,hb0⟩:=Bx3.start w h e;have he3:=he.below hb0 (QhS _);have hf3:=hf.below hb0 (QhS _);have c1:=Y5 h _ hf3.isIn hf3.small hf3.txt;rw[Yo c]at c1;obtain⟨ek,eto,efr,ept,eo⟩:=e;dsimp only at *;go_enter (Cut.func_of Tryz.func52 rfl),Tryz.ntmps52;simp only[Hp.v,Ev.v,Ev.cs]at c1⊢;go_wp2_with fail;refine c1.mono ?_;rintro en w1 ⟨rfl,hb1⟩;have b1:=b0.step hb1;have hB1:=hb0.trans (hb1.mono hb0.size);have hf1:=hf3.below hb1 (QhS _);have he1:=he3.below hb1 (QhS _);clear c1 b0 hb0 hf3 he3 hb1;obtain⟨⟨x0,x1,x2,x3⟩,⟨y0,y1,y2,y3,y4,y5,y6⟩,⟨u0,u1,u2,u3⟩,g0,g1,g2,g3⟩:=b1.cells;have c2:=Ut h w1 hf1.isIn hf1.small;simp only[Hp.v]at c2;go_wp2_with fail;refine c2.mono ?_;rintro en w2 ⟨x,rfl,hxp,hqx,hb2⟩;have cx:=OkC.of_p hxp c
 have HLEN:Hid (x.rs.length=h.rs.length):=by
  show x.rs.length=h.rs.length;have:=congrArg (fun q=>q.2.1.length) hxp;simpa[Hp.p]using this
 have hA:Below w2.heap.size w2 (w2.alloc (QhT #[QhR x.oa x.os.length x.ocap,QhR x.ra x.rs.length x.rcap,QhR x.wa x.ws.length x.wcap,QhR x.da x.ds.length x.dcap] 27)):=(Below.refl _ _).alloc (QhS _) _;have b4:=(b1.step hb2).step hA;have bX:=Blk.new w2 [QhR x.oa x.os.length x.ocap,QhR x.ra x.rs.length x.rcap,QhR x.wa x.ws.length x.wcap,QhR x.da x.ds.length x.dcap] 27;have hq4:=hqx.below hA (QhS _);have hB4:=(hB1.trans (hb2.mono hB1.size)).trans (hA.mono (QhU hB1.size hb2.size));have he4:=(he1.below hb2 (QhS _)).below hA (QhS _);have hs4:w1.heap.size≤(w2.alloc (QhT #[QhR x.oa x.os.length x.ocap,QhR x.ra x.rs.length x.rcap,QhR x.wa x.ws.length x.wcap,QhR x.da x.ds.length x.dcap] 27)).heap.size:=QhU hb2.size hA.size;clear x0 x1 x2 x3 y0 y1 y2 y3 y4 y5 y6 u0 u1 u2 u3 g0 g1 g2 g3 c2;have hw2:w.heap.size+1+1<w2.heap.size:=(b1.step hb2).br.lt;have hn1:¬w2.heap.size=w.heap.size:=by omega
 have hn2:¬w2.heap.size=w.heap.size+1:=by omega
 have hn3:¬w2.heap.size=w.heap.size+1+1:=by omega
 have hn4:¬w.heap.size=w2.heap.size:=by omega
 have hn5:¬w.heap.size+1=w2.heap.size:=by omega
 have hn6:¬w.heap.size+1+1=w2.heap.size:=by omega
 have hw1:=b1.br.lt;obtain⟨⟨x0,x1,x2,x3⟩,⟨y0,y1,y2,y3,y4,y5,y6⟩,⟨u0,u1,u2,u3⟩,g0,g1,g2,g3⟩:=b4.cells;obtain⟨s0,s1,s2,s3⟩:=Qb bX;obtain⟨⟨i0,i1,i2,i3⟩,⟨j0,j1,j2,j3,j4,j5,j6⟩,⟨v0,v1,v2,v3⟩,f0,f1,f2,f3⟩:=(b1.step hb2).cells;clear hxp;dsimp only at *;by_cases k7:ek=7
 ·subst k7;have c6:=Qag x ⟨7,eto,efr,ept,eo⟩ w1.heap.size _ hq4 hs4 cx he4 hel het (fun hk=>absurd rfl hk);simp only[Hp.v,Ev.v,Ev.cs]at c6;go_wp2_with fail;refine c6.mono ?_;rintro en w5 ⟨y,s,rfl,cy,fy,hb5⟩;have br5:=b4.br.below hb5 hw1;have hA6:Below w5.heap.size w5 (w5.alloc (QhT #[QhR y.oa y.os.length y.ocap,QhR y.ra y.rs.length y.rcap,QhR y.wa y.ws.length y.wcap,QhR y.da y.ds.length y.dcap] 27)):=(Below.refl _ _).alloc (QhS _) _;have bY:=Blk.new w5 [QhR y.oa y.os.length y.ocap,QhR y.ra y.rs.length y.rcap,QhR y.wa y.ws.length y.wcap,QhR y.da y.ds.length y.dcap] 27;have br6:=br5.step hA6;have hB6:=(hB4.trans (hb5.mono hB1.size)).trans (hA6.mono (QhU hB4.size hb5.size));have f6:=fy.below hA6 (QhS _);have c7:=Ut y (w5.alloc (QhT #[QhR y.oa y.os.length y.ocap,QhR y.ra y.rs.length y.rcap,QhR y.wa y.ws.length y.wcap,QhR y.da y.ds.length y.dcap] 27)) f6.isIn f6.small;simp only[Hp.v]at c7;clear x0 x1 x2 x3 y0 y1 y2 y3 y4 y5 y6 u0 u1 u2 u3 g0 g1 g2 g3 s0 s1 s2 s3 i0 i1 i2 i3 j0 j1 j2 j3 j4 j5 j6 v0 v1 v2 v3 f0 f1 f2 f3 c6;obtain⟨x0,x1,x2,x3⟩:=Qb bY;have hn7:=br5.lt;go_wp2_with fail;refine c7.mono ?_;rintro en w7 ⟨z,rfl,hzp,hqz,hb7⟩;have cz:=OkC.of_p hzp cy;have br7:=br6.step hb7;have hB7:=hB6.trans (hb7.mono hB6.size);obtain⟨u0,u1,u2,u3⟩:=Qb br7;obtain⟨g0,g1,g2,g3⟩:=Qo br7;obtain⟨kq,bq⟩:=QR br7 (.slice z.oa z.os.length z.ocap) (.slice z.ra z.rs.length z.rcap) (.slice z.wa z.ws.length z.wcap) (.slice z.da z.ds.length z.dcap);obtain⟨z0,z1,z2,z3⟩:=Qb bq;have hqE:=hqz.keep kq;have hbE:=ZS hB7 (C:=w.heap.size+1+1) (by omega) (.slice z.oa z.os.length z.ocap) (.slice z.ra z.rs.length z.rcap) (.slice z.wa z.ws.length z.wcap) (.slice z.da z.ds.length z.dcap);clear hzp kq bq c7 hqz br7 hB7;go_wp2;refine bodyPost_ret (v:=.tuple #[z.v,.string s]) ?_ rfl ⟨z,s,rfl,cz,hqE.base hB6.size,hbE⟩;simp[results,Tryz.results52,go_sem,z0,z1,z2,z3,Hp.v]
 ·have n7:(ek !=7)=true:=by simp[k7]
  clear k7;have hr8:=c.r8;go_wp2_with fail;refine(Ym _ _ _ _).mono ?_;rintro en w' ⟨rfl,rfl⟩
  cases hin:inB eto 0 ((h.rs.length:Int)-1)with
  |false=>
   clear hin;have br2:=(b1.step hb2).br;obtain⟨kq,bq⟩:=QR br2 (.slice x.oa x.os.length x.ocap) (.slice x.ra x.rs.length x.rcap) (.slice x.wa x.ws.length x.wcap) (.slice x.da x.ds.length x.dcap);have hb4':=ZS (hB1.trans (hb2.mono hB1.size)) (C:=w.heap.size+1+1) (by omega) (.slice x.oa x.os.length x.ocap) (.slice x.ra x.rs.length x.rcap) (.slice x.wa x.ws.length x.wcap) (.slice x.da x.ds.length x.dcap);have hA4:Below ((((w2.setCell ⟨w.heap.size+1+1,0,none⟩ (.slice x.oa x.os.length x.ocap)).setCell ⟨w.heap.size+1+1,1,none⟩ (.slice x.ra x.rs.length x.rcap)).setCell ⟨w.heap.size+1+1,2,none⟩ (.slice x.wa x.ws.length x.wcap)).setCell ⟨w.heap.size+1+1,3,none⟩ (.slice x.da x.ds.length x.dcap)).heap.size ((((w2.setCell ⟨w.heap.size+1+1,0,none⟩ (.slice x.oa x.os.length x.ocap)).setCell ⟨w.heap.size+1+1,1,none⟩ (.slice x.ra x.rs.length x.rcap)).setCell ⟨w.heap.size+1+1,2,none⟩ (.slice x.wa x.ws.length x.wcap)).setCell ⟨w.heap.size+1+1,3,none⟩ (.slice x.da x.ds.length x.dcap)) (((((w2.setCell ⟨w.heap.size+1+1,0,none⟩ (.slice x.oa x.os.length x.ocap)).setCell ⟨w.heap.size+1+1,1,none⟩ (.slice x.ra x.rs.length x.rcap)).setCell ⟨w.heap.size+1+1,2,none⟩ (.slice x.wa x.ws.length x.wcap)).setCell ⟨w.heap.size+1+1,3,none⟩ (.slice x.da x.ds.length x.dcap)).alloc (QhT #[QhR x.oa x.os.length x.ocap,QhR x.ra x.rs.length x.rcap,QhR x.wa x.ws.length x.wcap,QhR x.da x.ds.length x.dcap] 27)):=(Below.refl _ _).alloc (QhS _) _;have bq4:=bq.below hA4 bq.lt;obtain⟨z0,z1,z2,z3⟩:=Qb bq4;have hqE:=(hqx.keep kq).below hA4 (QhS _);have hbE:=hb4'.trans (hA4.mono hb4'.size);clear kq bq hA4 bq4 hb4' br2;go_wp2;refine bodyPost_ret (v:=.tuple #[x.v,.string ⟨#[110,111]⟩]) ?_ rfl ⟨x,_,rfl,cx,hqE.base hB1.size,hbE⟩;clear hqE hbE;generalize ((((w2.setCell ⟨w.heap.size+1+1,0,none⟩ (.slice x.oa x.os.length x.ocap)).setCell ⟨w.heap.size+1+1,1,none⟩ (.slice x.ra x.rs.length x.rcap)).setCell ⟨w.heap.size+1+1,2,none⟩ (.slice x.wa x.ws.length x.wcap)).setCell ⟨w.heap.size+1+1,3,none⟩ (.slice x.da x.ds.length x.dcap)).alloc (QhT #[QhR x.oa x.os.length x.ocap,QhR x.ra x.rs.length x.rcap,QhR x.wa x.ws.length x.wcap,QhR x.da x.ds.length x.dcap] 27)=WE at z0 z1 z2 z3⊢;simp[results,Tryz.results52,go_sem,z0,z1,z2,z3,Hp.v]
  |true=>
   have hE:0≤eto∧eto<x.rs.length:=by
    have:=HLEN.out;simp[inB]at hin;omega
   clear hin;have c6:=Qag x ⟨ek,eto,efr,ept,eo⟩ w1.heap.size _ hq4 hs4 cx he4 hel het (fun _=>hE);simp only[Hp.v,Ev.v,Ev.cs]at c6;go_wp2_with fail;refine c6.mono ?_;rintro en w5 ⟨y,s,rfl,cy,fy,hb5⟩;have br5:=b4.br.below hb5 hw1;have hA6:Below w5.heap.size w5 (w5.alloc (QhT #[QhR y.oa y.os.length y.ocap,QhR y.ra y.rs.length y.rcap,QhR y.wa y.ws.length y.wcap,QhR y.da y.ds.length y.dcap] 27)):=(Below.refl _ _).alloc (QhS _) _;have bY:=Blk.new w5 [QhR y.oa y.os.length y.ocap,QhR y.ra y.rs.length y.rcap,QhR y.wa y.ws.length y.wcap,QhR y.da y.ds.length y.dcap] 27;have br6:=br5.step hA6;have hB6:=(hB4.trans (hb5.mono hB1.size)).trans (hA6.mono (QhU hB4.size hb5.size));have f6:=fy.below hA6 (QhS _);have c7:=Ut y (w5.alloc (QhT #[QhR y.oa y.os.length y.ocap,QhR y.ra y.rs.length y.rcap,QhR y.wa y.ws.length y.wcap,QhR y.da y.ds.length y.dcap] 27)) f6.isIn f6.small;simp only[Hp.v]at c7;clear x0 x1 x2 x3 y0 y1 y2 y3 y4 y5 y6 u0 u1 u2 u3 g0 g1 g2 g3 s0 s1 s2 s3 i0 i1 i2 i3 j0 j1 j2 j3 j4 j5 j6 v0 v1 v2 v3 f0 f1 f2 f3 c6;obtain⟨x0,x1,x2,x3⟩:=Qb bY;have hn7:=br5.lt;go_wp2_with fail;refine c7.mono ?_;rintro en w7 ⟨z,rfl,hzp,hqz,hb7⟩;have cz:=OkC.of_p hzp cy;have br7:=br6.step hb7;have hB7:=hB6.trans (hb7.mono hB6.size);obtain⟨u0,u1,u2,u3⟩:=Qb br7;obtain⟨g0,g1,g2,g3⟩:=Qo br7;obtain⟨kq,bq⟩:=QR br7 (.slice z.oa z.os.length z.ocap) (.slice z.ra z.rs.length z.rcap) (.slice z.wa z.ws.length z.wcap) (.slice z.da z.ds.length z.dcap);obtain⟨z0,z1,z2,z3⟩:=Qb bq;have hqE:=hqz.keep kq;have hbE:=ZS hB7 (C:=w.heap.size+1+1) (by omega) (.slice z.oa z.os.length z.ocap) (.slice z.ra z.rs.length z.rcap) (.slice z.wa z.ws.length z.wcap) (.slice z.da z.ds.length z.dcap);clear hzp kq bq c7 hqz br7 hB7;go_wp2;refine bodyPost_ret (v:=.tuple #[z.v,.string s]) ?_ rfl ⟨z,s,rfl,cz,hqE.base hB6.size,hbE⟩;simp[results,Tryz.results52,go_sem,z0,z1,z2,z3,Hp.v]
theorem Qeu (a b:Nat)(ha:a<9223372036854775808)(hb:b<9223372036854775808):bits .xor .i64 (a:Int) (b:Int)=((a ^^^ b:Nat):Int)∧a ^^^ b<9223372036854775808:=by
 have hx:a ^^^ b<2^63:=Nat.xor_lt_two_pow (by omega) (by omega)
 have h1:(BitVec.ofInt 64 (a:Int)).toNat=a:=by
  rw[BitVec.ofInt_natCast,BitVec.toNat_ofNat];exact Nat.mod_eq_of_lt (by omega)
 have h2:(BitVec.ofInt 64 (b:Int)).toNat=b:=by
  rw[BitVec.ofInt_natCast,BitVec.toNat_ofNat];exact Nat.mod_eq_of_lt (by omega)
 refine⟨?_,by omega⟩;show IntKind.i64.wrap ((BitVec.ofInt 64 (a:Int) ^^^ BitVec.ofInt 64 (b:Int)).toNat:Int)=_;rw[BitVec.toNat_xor,h1,h2];simp[IntKind.wrap,IntKind.bits,IntKind.signed];omega
theorem Qet {x y:Int}(hx:0≤x)(hx1:x<9223372036854775808)(hy:0≤y)(hy1:y<9223372036854775808):0≤bits .xor .i64 x y∧bits .xor .i64 x y<9223372036854775808:=by
 obtain⟨h1,h2⟩:=Qeu x.toNat y.toNat (by omega) (by omega);have e1:((x.toNat:Nat):Int)=x:=by omega
 have e2:((y.toNat:Nat):Int)=y:=by omega
 rw[e1,e2]at h1;rw[h1];omega
structure Cd where
 a:Option Addr
 bs:List Int
 cap:Nat
structure J5 (c:Cd):Prop where
 len:c.bs.length≤2000
 byte:∀x∈c.bs,0≤x∧x<256
structure Rd (W:World) (g:Nat) (c:Cd) (k:Int):Prop where
 blk:Blk W g [.slice c.a c.bs.length c.cap,.int .i64 k] 92
 seg:0<c.bs.length→∃b off,c.a=some ⟨b,off,none⟩∧b<g∧∀i (hi:i<c.bs.length),W.cell? ⟨b,off+i,none⟩=some (.int .u8 c.bs[i])
 pos:0≤k
 lt:k<1000000
theorem Rd.grown {W W':World}{g:Nat}{c:Cd}{k:Int}(h:Rd W g c k){r:Option Nat}(hg:W.grownBy W' r)(hr:∀j,r=some j→g<j):Rd W' g c k:=by
 refine⟨h.blk.grown hg (fun e=>by have:=hr g e;omega),fun hm=>?_,h.pos,h.lt⟩;obtain⟨b,off,h1,h2,h3⟩:=h.seg hm;have hlt:b<W.heap.size:=Nat.lt_trans h2 h.blk.lt;refine⟨b,off,h1,h2,fun i hi=>(World.cell?_of_block (w:=W) (a:=⟨b,_,none⟩) (hg.block b hlt (fun e=>?_))).trans (h3 i hi)⟩;have:=hr b e.symm;omega
theorem Rd.below {W W':World}{g B:Nat}{c:Cd}{k:Int}(h:Rd W g c k)(hb:Below B W W')(hB:g<B):Rd W' g c k:=by
 refine⟨h.blk.below hb hB,fun hm=>?_,h.pos,h.lt⟩;obtain⟨b,off,h1,h2,h3⟩:=h.seg hm;exact⟨b,off,h1,h2,fun i hi=>(hb.cell (p:=⟨b,_,none⟩) (by dsimp only;omega)).trans (h3 i hi)⟩
theorem Rd.next {W:World}{g:Nat}{c:Cd}{k:Int}(h:Rd W g c k)(hk:k+1<1000000):Rd (W.setCell ⟨g,1,none⟩ (.int .i64 (k+1))) g c (k+1):=by
 refine⟨h.blk.store 1 _,fun hm=>?_,by have:=h.pos;omega,hk⟩;obtain⟨b,off,h1,h2,h3⟩:=h.seg hm;refine⟨b,off,h1,h2,fun i hi=>?_⟩;rw[World.cell?_of_block (w:=W) (a:=⟨b,off+i,none⟩) (Below.heap_setCell _ _ _ _ (show b≠g by omega))];exact h3 i hi
structure ZO (g:Nat) (c:Cd) (k:Int) (w w':World):Prop where
 gb:w.grownBy w' (some g)
 rd:Rd w' g c k
 size:w'.heap.size=w.heap.size
theorem Rd.picked {W:World}{g:Nat}{c:Cd}{k:Int}(h:Rd W g c k)(hk:k+1<1000000):ZO g c (k+1) W (W.setCell ⟨g,1,none⟩ (.int .i64 (k+1))):=⟨Q1 _ _ _ _,h.next hk,by simp⟩
theorem ZO.drew {W W':World}{g:Nat}{c:Cd}{k:Int}(h:ZO g c k W W')(n:Nat):ZO g c k W (W'.drewN n):=
 ⟨⟨h.gb.os,h.gb.tape,h.gb.output,h.gb.size,h.gb.block⟩,⟨h.rd.blk,h.rd.seg,h.rd.pos,h.rd.lt⟩,h.size⟩
theorem QK (g:Nat)(c:Cd)(k n:Int)(w:World)(hc:J5 c)(hr:Rd w g c k)(hk:k+1<1000000)(hn:n<1000000):
 Calls Cut.prog 50 #[.pointer (some ⟨g,0,none⟩),.int .i64 n] w fun e w'=>∃z:Int,e=.returned (.int .i64 z)∧0≤z∧(1≤n→z<n)∧(n<1→z=0)∧ZO g c (k+1) w w':=by
 have hP:=hr.picked hk;have hr1:=hr.next hk;have hp:=hr.pos;have x0:w.cell? ⟨g,0,none⟩=some (.slice c.a c.bs.length c.cap):=hr.blk.cell 0;have x1:w.cell? ⟨g,1,none⟩=some (.int .i64 k):=hr.blk.cell 1;have f1:=hr.blk.free 1;have y0:(w.setCell ⟨g,1,none⟩ (.int .i64 (k+1))).cell? ⟨g,0,none⟩=some (.slice c.a c.bs.length c.cap):=hr1.blk.cell 0;have y1:(w.setCell ⟨g,1,none⟩ (.int .i64 (k+1))).cell? ⟨g,1,none⟩=some (.int .i64 (k+1)):=hr1.blk.cell 1;have hlen:=hc.len;have hby:=hc.byte;by_cases hn1:n<1
 ·go_enter (Cut.func_of Tryz.func50 rfl),Tryz.ntmps50;go_wp2;go_ret;exact⟨0,rfl,by omega,fun h=>by omega,fun _=>rfl,hP⟩
 have hnb:decide (n<1)=false:=by simpa using hn1
 have hn0:1≤n:=by omega
 clear hn1;by_cases hl0:c.bs.length=0
 ·rw[hl0]at x0 y0;go_enter (Cut.func_of Tryz.func50 rfl),Tryz.ntmps50;go_wp2;go_ret;exact⟨0,rfl,by omega,fun h=>by omega,fun _=>rfl,hP⟩
 obtain⟨b,off,ea,hbg,hcell⟩:=hr1.seg (by omega);rw[ea]at x0 y0;have hcz:∀i:Nat,i<c.bs.length→∃z:Int,(w.setCell ⟨g,1,none⟩ (.int .i64 (k+1))).cell? ⟨b,off+i,none⟩=some (.int .u8 z)∧0≤z∧z<256:=fun i hi=>⟨_,hcell i hi,hby _ (List.getElem_mem hi)⟩;clear hcell hby hr1 hr hc ea;generalize c.bs.length=L at *;have hlb:(((L:Nat):Int)==0)=false:=by rw[beq_eq_false_iff_ne];omega
 by_cases hkl:k<(L:Int)
 ·have hklb:decide (k<(L:Int))=true:=by simpa using hkl
  obtain⟨z,d1,hz0,hz1⟩:=hcz k.toNat (by omega);have hnz:(n ==0)=false:=by rw[beq_eq_false_iff_ne];omega
  go_enter (Cut.func_of Tryz.func50 rfl),Tryz.ntmps50;go_wp2;go_ret;exact⟨z%n,rfl,Int.emod_nonneg _ (by omega),fun _=>QhW _ (by omega),fun h=>by omega,hP⟩
 ·have hklb:decide (k<(L:Int))=false:=by simpa using hkl
  have hq1:0≤k%(L:Int)∧k%(L:Int)<L:=⟨Int.emod_nonneg _ (by omega),QhW _ (by omega)⟩;have hq2:0≤(k*7+3)%(L:Int)∧(k*7+3)%(L:Int)<L:=⟨Int.emod_nonneg _ (by omega),QhW _ (by omega)⟩;obtain⟨z,d1,hz0,hz1⟩:=hcz (k%(L:Int)).toNat (by omega);obtain⟨y,d2,hy0,hy1⟩:=hcz ((k*7+3)%(L:Int)).toNat (by omega);go_enter (Cut.func_of Tryz.func50 rfl),Tryz.ntmps50;have hq3:0≤k/(L:Int)∧k/(L:Int)≤k:=⟨Int.ediv_nonneg hp (by omega),Int.ediv_le_self _ hp⟩;go_wp2;go_quiet (fail);have hxp:0≤z*131+y*1117+k*29+k/(L:Int)*53∧z*131+y*1117+k*29+k/(L:Int)*53<9223372036854775808:=by omega
  generalize z*131+y*1117+k*29+k/(L:Int)*53=X at *;obtain⟨hb0,hb1⟩:=Qet hxp.1 hxp.2 (Int.ediv_nonneg hxp.1 (by omega):0≤X/64) (by omega);go_wp2;go_ret;exact⟨bits .xor .i64 X (X/64)%n,rfl,Int.emod_nonneg _ (by omega),fun _=>QhW _ (by omega),fun h=>by omega,hP.drew _⟩
end
end Go.Proofs.YtcpnkpogebjieaaGreat
