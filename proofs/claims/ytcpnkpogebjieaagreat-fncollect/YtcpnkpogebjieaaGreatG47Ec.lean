/- The specification's own events: one event of a copy of an ok heap, whatever its kind. -/
import Derived.Test.YtcpnkpogebjieaaGreatG46Dx
import Derived.Deep.QuietTactic
import Derived.BigQuiet
import Derived.Deep.RegionWith
import Derived.Laws.Bits64
import Derived.Test.YtcpnkpogebjieaaGreatG11Mk1
open Go.Value renaming slice→Qhp
open Nat renaming le_refl→Qhq,le_trans→Qhs
open Go.Obj renaming cells→Qhr
open Int renaming emod_lt_of_pos→Qht
set_option maxHeartbeats 1600000
set_option maxRecDepth 100000
namespace Go.Proofs.YtcpnkpogebjieaaGreat
section
open Go.RowKit
theorem OI (h:Hp)(e:Ev)(B:Nat)(w:World)(hq:Ql w B h)(hB:B≤w.heap.size)(c:OkC h)(he:Qk w e.o.ra e.o.r)(hel:e.o.r.length≤1048576)(het:e.o.t.size≤maxLen)(h01:e.k≠7→0≤e.to∧e.to<h.rs.length):
 Calls Cut.prog 96 #[h.v,e.v] w fun en w'=>∃(y:Hp) (s:ByteArray),en=.returned (.tuple #[y.v,.string s])∧OkC y∧Fit w' y∧Below B w w':=by
 by_cases k2:e.k=2
 ·exact Qen h e B w hq hB c he hel het (h01 (by omega)).1 (h01 (by omega)).2 k2
 by_cases k3:e.k=3
 ·exact Qem h e B w hq hB c he hel het (h01 (by omega)).1 (h01 (by omega)).2 k3
 exact Qel h e B w hq hB c he hel het h01 k2 k3
theorem Yh {W:World}{B C e size n:Nat}{v:Value}{xs:List Value}(h:W.ownsRow B e size v n xs)(hC:C≤B):W.ownsRow C e size v n xs:=by
 refine⟨h.1,?_⟩
 rcases h.2 with h1|⟨g,cap,cur,h1,hg,r⟩
 ·exact Or.inl h1
 ·exact Or.inr ⟨g,cap,cur,h1,Qhs hC hg,r⟩
theorem Ql.base {W:World}{B C:Nat}{h:Hp}(q:Ql W B h)(hC:C≤B):Ql W C h:=
 ⟨Yh q.ob hC,fun i hi=>Yh (q.rs i hi) hC,q.rne,Yh q.ro hC,q.rro,Yh q.wa hC,Yh q.da hC,q.wne⟩
theorem Qgc (h:Hp)(e:Ev)(w:World)(hf:Fit w h)(c:OkC h)(he:Qk w e.o.ra e.o.r)(hel:e.o.r.length≤1048576)(het:e.o.t.size≤maxLen):
 Calls Cut.prog 52 #[h.v,e.v] w fun en w'=>∃(y:Hp) (s:ByteArray),en=.returned (.tuple #[y.v,.string s])∧OkC y∧Ql w' w.heap.size y∧Below w.heap.size w w':=by
 obtain⟨b0,hb0⟩:=Bx3.start w h e
 have he3:=he.below hb0 (Qhq _)
 have hf3:=hf.below hb0 (Qhq _)
 have c1:=K5 h _ hf3.isIn hf3.small hf3.txt
 rw[YA c]at c1
 obtain⟨ek,eto,efr,ept,eo⟩:=e
 dsimp only at *
 go_enter (Cut.func_of Tryz.func52 rfl),Tryz.ntmps52
 simp only[Hp.v,Ev.v,Ev.cs]at c1⊢
 go_wp2_with fail
 refine c1.mono ?_
 rintro en w1 ⟨rfl,hb1⟩
 have b1:=b0.step hb1
 have hB1:=hb0.trans (hb1.mono hb0.size)
 have hf1:=hf3.below hb1 (Qhq _)
 have he1:=he3.below hb1 (Qhq _)
 clear c1 b0 hb0 hf3 he3 hb1
 obtain⟨⟨x0,x1,x2,x3⟩,⟨y0,y1,y2,y3,y4,y5,y6⟩,⟨u0,u1,u2,u3⟩,g0,g1,g2,g3⟩:=b1.cells
 have c2:=UI h w1 hf1.isIn hf1.small
 simp only[Hp.v]at c2
 go_wp2_with fail
 refine c2.mono ?_
 rintro en w2 ⟨x,rfl,hxp,hqx,hb2⟩
 have cx:=OkC.of_p hxp c
 have HLEN:Hid (x.rs.length=h.rs.length):=by
  show x.rs.length=h.rs.length
  have:=congrArg (fun q=>q.2.1.length) hxp
  simpa[Hp.p]using this
 have hA:Below w2.heap.size w2 (w2.alloc (Qhr #[Qhp x.oa x.os.length x.ocap,Qhp x.ra x.rs.length x.rcap,Qhp x.wa x.ws.length x.wcap,Qhp x.da x.ds.length x.dcap] 27)):=(Below.refl _ _).alloc (Qhq _) _
 have b4:=(b1.step hb2).step hA
 have bX:=Blk.new w2 [Qhp x.oa x.os.length x.ocap,Qhp x.ra x.rs.length x.rcap,Qhp x.wa x.ws.length x.wcap,Qhp x.da x.ds.length x.dcap] 27
 have hq4:=hqx.below hA (Qhq _)
 have hB4:=(hB1.trans (hb2.mono hB1.size)).trans (hA.mono (Qhs hB1.size hb2.size))
 have he4:=(he1.below hb2 (Qhq _)).below hA (Qhq _)
 have hs4:w1.heap.size≤(w2.alloc (Qhr #[Qhp x.oa x.os.length x.ocap,Qhp x.ra x.rs.length x.rcap,Qhp x.wa x.ws.length x.wcap,Qhp x.da x.ds.length x.dcap] 27)).heap.size:=Qhs hb2.size hA.size
 clear x0 x1 x2 x3 y0 y1 y2 y3 y4 y5 y6 u0 u1 u2 u3 g0 g1 g2 g3 c2
 have hw2:w.heap.size+1+1<w2.heap.size:=(b1.step hb2).br.lt
 have hn1:¬w2.heap.size=w.heap.size:=by omega
 have hn2:¬w2.heap.size=w.heap.size+1:=by omega
 have hn3:¬w2.heap.size=w.heap.size+1+1:=by omega
 have hn4:¬w.heap.size=w2.heap.size:=by omega
 have hn5:¬w.heap.size+1=w2.heap.size:=by omega
 have hn6:¬w.heap.size+1+1=w2.heap.size:=by omega
 have hw1:=b1.br.lt
 obtain⟨⟨x0,x1,x2,x3⟩,⟨y0,y1,y2,y3,y4,y5,y6⟩,⟨u0,u1,u2,u3⟩,g0,g1,g2,g3⟩:=b4.cells
 obtain⟨s0,s1,s2,s3⟩:=Qc bX
 obtain⟨⟨i0,i1,i2,i3⟩,⟨j0,j1,j2,j3,j4,j5,j6⟩,⟨v0,v1,v2,v3⟩,f0,f1,f2,f3⟩:=(b1.step hb2).cells
 clear hxp
 dsimp only at *
 by_cases k7:ek=7
 ·subst k7
  have c6:=OI x ⟨7,eto,efr,ept,eo⟩ w1.heap.size _ hq4 hs4 cx he4 hel het (fun hk=>absurd rfl hk)
  simp only[Hp.v,Ev.v,Ev.cs]at c6
  go_wp2_with fail
  refine c6.mono ?_
  rintro en w5 ⟨y,s,rfl,cy,fy,hb5⟩
  have br5:=b4.br.below hb5 hw1
  have hA6:Below w5.heap.size w5 (w5.alloc (Qhr #[Qhp y.oa y.os.length y.ocap,Qhp y.ra y.rs.length y.rcap,Qhp y.wa y.ws.length y.wcap,Qhp y.da y.ds.length y.dcap] 27)):=(Below.refl _ _).alloc (Qhq _) _
  have bY:=Blk.new w5 [Qhp y.oa y.os.length y.ocap,Qhp y.ra y.rs.length y.rcap,Qhp y.wa y.ws.length y.wcap,Qhp y.da y.ds.length y.dcap] 27
  have br6:=br5.step hA6
  have hB6:=(hB4.trans (hb5.mono hB1.size)).trans (hA6.mono (Qhs hB4.size hb5.size))
  have f6:=fy.below hA6 (Qhq _)
  have c7:=UI y (w5.alloc (Qhr #[Qhp y.oa y.os.length y.ocap,Qhp y.ra y.rs.length y.rcap,Qhp y.wa y.ws.length y.wcap,Qhp y.da y.ds.length y.dcap] 27)) f6.isIn f6.small
  simp only[Hp.v]at c7
  clear x0 x1 x2 x3 y0 y1 y2 y3 y4 y5 y6 u0 u1 u2 u3 g0 g1 g2 g3 s0 s1 s2 s3 i0 i1 i2 i3 j0 j1 j2 j3 j4 j5 j6 v0 v1 v2 v3 f0 f1 f2 f3 c6
  obtain⟨x0,x1,x2,x3⟩:=Qc bY
  have hn7:=br5.lt
  go_wp2_with fail
  refine c7.mono ?_
  rintro en w7 ⟨z,rfl,hzp,hqz,hb7⟩
  have cz:=OkC.of_p hzp cy
  have br7:=br6.step hb7
  have hB7:=hB6.trans (hb7.mono hB6.size)
  obtain⟨u0,u1,u2,u3⟩:=Qc br7
  obtain⟨g0,g1,g2,g3⟩:=QH br7
  obtain⟨kq,bq⟩:=Q8 br7 (.slice z.oa z.os.length z.ocap) (.slice z.ra z.rs.length z.rcap) (.slice z.wa z.ws.length z.wcap) (.slice z.da z.ds.length z.dcap)
  obtain⟨z0,z1,z2,z3⟩:=Qc bq
  have hqE:=hqz.keep kq
  have hbE:=Z0 hB7 (C:=w.heap.size+1+1) (by omega) (.slice z.oa z.os.length z.ocap) (.slice z.ra z.rs.length z.rcap) (.slice z.wa z.ws.length z.wcap) (.slice z.da z.ds.length z.dcap)
  clear hzp kq bq c7 hqz br7 hB7
  go_wp2
  refine bodyPost_ret (v:=.tuple #[z.v,.string s]) ?_ rfl ⟨z,s,rfl,cz,hqE.base hB6.size,hbE⟩
  simp[results,Tryz.results52,go_sem,z0,z1,z2,z3,Hp.v]
 ·have n7:(ek !=7)=true:=by simp[k7]
  clear k7
  have hr8:=c.r8
  go_wp2_with fail
  refine(Yc _ _ _ _).mono ?_
  rintro en w' ⟨rfl,rfl⟩
  cases hin:inB eto 0 ((h.rs.length:Int)-1)with
  |false=>
   clear hin
   have br2:=(b1.step hb2).br
   obtain⟨kq,bq⟩:=Q8 br2 (.slice x.oa x.os.length x.ocap) (.slice x.ra x.rs.length x.rcap) (.slice x.wa x.ws.length x.wcap) (.slice x.da x.ds.length x.dcap)
   have hb4':=Z0 (hB1.trans (hb2.mono hB1.size)) (C:=w.heap.size+1+1) (by omega) (.slice x.oa x.os.length x.ocap) (.slice x.ra x.rs.length x.rcap) (.slice x.wa x.ws.length x.wcap) (.slice x.da x.ds.length x.dcap)
   have hA4:Below ((((w2.setCell ⟨w.heap.size+1+1,0,none⟩ (.slice x.oa x.os.length x.ocap)).setCell ⟨w.heap.size+1+1,1,none⟩ (.slice x.ra x.rs.length x.rcap)).setCell ⟨w.heap.size+1+1,2,none⟩ (.slice x.wa x.ws.length x.wcap)).setCell ⟨w.heap.size+1+1,3,none⟩ (.slice x.da x.ds.length x.dcap)).heap.size ((((w2.setCell ⟨w.heap.size+1+1,0,none⟩ (.slice x.oa x.os.length x.ocap)).setCell ⟨w.heap.size+1+1,1,none⟩ (.slice x.ra x.rs.length x.rcap)).setCell ⟨w.heap.size+1+1,2,none⟩ (.slice x.wa x.ws.length x.wcap)).setCell ⟨w.heap.size+1+1,3,none⟩ (.slice x.da x.ds.length x.dcap)) (((((w2.setCell ⟨w.heap.size+1+1,0,none⟩ (.slice x.oa x.os.length x.ocap)).setCell ⟨w.heap.size+1+1,1,none⟩ (.slice x.ra x.rs.length x.rcap)).setCell ⟨w.heap.size+1+1,2,none⟩ (.slice x.wa x.ws.length x.wcap)).setCell ⟨w.heap.size+1+1,3,none⟩ (.slice x.da x.ds.length x.dcap)).alloc (Qhr #[Qhp x.oa x.os.length x.ocap,Qhp x.ra x.rs.length x.rcap,Qhp x.wa x.ws.length x.wcap,Qhp x.da x.ds.length x.dcap] 27)):=(Below.refl _ _).alloc (Qhq _) _
   have bq4:=bq.below hA4 bq.lt
   obtain⟨z0,z1,z2,z3⟩:=Qc bq4
   have hqE:=(hqx.keep kq).below hA4 (Qhq _)
   have hbE:=hb4'.trans (hA4.mono hb4'.size)
   clear kq bq hA4 bq4 hb4' br2
   go_wp2
   refine bodyPost_ret (v:=.tuple #[x.v,.string ⟨#[110,111]⟩]) ?_ rfl ⟨x,_,rfl,cx,hqE.base hB1.size,hbE⟩
   clear hqE hbE
   generalize ((((w2.setCell ⟨w.heap.size+1+1,0,none⟩ (.slice x.oa x.os.length x.ocap)).setCell ⟨w.heap.size+1+1,1,none⟩ (.slice x.ra x.rs.length x.rcap)).setCell ⟨w.heap.size+1+1,2,none⟩ (.slice x.wa x.ws.length x.wcap)).setCell ⟨w.heap.size+1+1,3,none⟩ (.slice x.da x.ds.length x.dcap)).alloc (Qhr #[Qhp x.oa x.os.length x.ocap,Qhp x.ra x.rs.length x.rcap,Qhp x.wa x.ws.length x.wcap,Qhp x.da x.ds.length x.dcap] 27)=WE at z0 z1 z2 z3⊢
   simp[results,Tryz.results52,go_sem,z0,z1,z2,z3,Hp.v]
  |true=>
   have hE:0≤eto∧eto<x.rs.length:=by
    have:=HLEN.out
    simp[inB]at hin
    omega
   clear hin
   have c6:=OI x ⟨ek,eto,efr,ept,eo⟩ w1.heap.size _ hq4 hs4 cx he4 hel het (fun _=>hE)
   simp only[Hp.v,Ev.v,Ev.cs]at c6
   go_wp2_with fail
   refine c6.mono ?_
   rintro en w5 ⟨y,s,rfl,cy,fy,hb5⟩
   have br5:=b4.br.below hb5 hw1
   have hA6:Below w5.heap.size w5 (w5.alloc (Qhr #[Qhp y.oa y.os.length y.ocap,Qhp y.ra y.rs.length y.rcap,Qhp y.wa y.ws.length y.wcap,Qhp y.da y.ds.length y.dcap] 27)):=(Below.refl _ _).alloc (Qhq _) _
   have bY:=Blk.new w5 [Qhp y.oa y.os.length y.ocap,Qhp y.ra y.rs.length y.rcap,Qhp y.wa y.ws.length y.wcap,Qhp y.da y.ds.length y.dcap] 27
   have br6:=br5.step hA6
   have hB6:=(hB4.trans (hb5.mono hB1.size)).trans (hA6.mono (Qhs hB4.size hb5.size))
   have f6:=fy.below hA6 (Qhq _)
   have c7:=UI y (w5.alloc (Qhr #[Qhp y.oa y.os.length y.ocap,Qhp y.ra y.rs.length y.rcap,Qhp y.wa y.ws.length y.wcap,Qhp y.da y.ds.length y.dcap] 27)) f6.isIn f6.small
   simp only[Hp.v]at c7
   clear x0 x1 x2 x3 y0 y1 y2 y3 y4 y5 y6 u0 u1 u2 u3 g0 g1 g2 g3 s0 s1 s2 s3 i0 i1 i2 i3 j0 j1 j2 j3 j4 j5 j6 v0 v1 v2 v3 f0 f1 f2 f3 c6
   obtain⟨x0,x1,x2,x3⟩:=Qc bY
   have hn7:=br5.lt
   go_wp2_with fail
   refine c7.mono ?_
   rintro en w7 ⟨z,rfl,hzp,hqz,hb7⟩
   have cz:=OkC.of_p hzp cy
   have br7:=br6.step hb7
   have hB7:=hB6.trans (hb7.mono hB6.size)
   obtain⟨u0,u1,u2,u3⟩:=Qc br7
   obtain⟨g0,g1,g2,g3⟩:=QH br7
   obtain⟨kq,bq⟩:=Q8 br7 (.slice z.oa z.os.length z.ocap) (.slice z.ra z.rs.length z.rcap) (.slice z.wa z.ws.length z.wcap) (.slice z.da z.ds.length z.dcap)
   obtain⟨z0,z1,z2,z3⟩:=Qc bq
   have hqE:=hqz.keep kq
   have hbE:=Z0 hB7 (C:=w.heap.size+1+1) (by omega) (.slice z.oa z.os.length z.ocap) (.slice z.ra z.rs.length z.rcap) (.slice z.wa z.ws.length z.wcap) (.slice z.da z.ds.length z.dcap)
   clear hzp kq bq c7 hqz br7 hB7
   go_wp2
   refine bodyPost_ret (v:=.tuple #[z.v,.string s]) ?_ rfl ⟨z,s,rfl,cz,hqE.base hB6.size,hbE⟩
   simp[results,Tryz.results52,go_sem,z0,z1,z2,z3,Hp.v]
theorem QdY (a b:Nat)(ha:a<9223372036854775808)(hb:b<9223372036854775808):bits .xor .i64 (a:Int) (b:Int)=((a ^^^ b:Nat):Int)∧a ^^^ b<9223372036854775808:=by
 have hx:a ^^^ b<2^63:=Nat.xor_lt_two_pow (by omega) (by omega)
 have h1:(BitVec.ofInt 64 (a:Int)).toNat=a:=by
  rw[BitVec.ofInt_natCast,BitVec.toNat_ofNat];exact Nat.mod_eq_of_lt (by omega)
 have h2:(BitVec.ofInt 64 (b:Int)).toNat=b:=by
  rw[BitVec.ofInt_natCast,BitVec.toNat_ofNat];exact Nat.mod_eq_of_lt (by omega)
 refine⟨?_,by omega⟩
 show IntKind.i64.wrap ((BitVec.ofInt 64 (a:Int) ^^^ BitVec.ofInt 64 (b:Int)).toNat:Int)=_
 rw[BitVec.toNat_xor,h1,h2]
 simp[IntKind.wrap,IntKind.bits,IntKind.signed]
 omega
theorem QdX {x y:Int}(hx:0≤x)(hx1:x<9223372036854775808)(hy:0≤y)(hy1:y<9223372036854775808):0≤bits .xor .i64 x y∧bits .xor .i64 x y<9223372036854775808:=by
 obtain⟨h1,h2⟩:=QdY x.toNat y.toNat (by omega) (by omega)
 have e1:((x.toNat:Nat):Int)=x:=by omega
 have e2:((y.toNat:Nat):Int)=y:=by omega
 rw[e1,e2]at h1
 rw[h1]
 omega
structure Cd where
 a:Option Addr
 bs:List Int
 cap:Nat
structure JX (c:Cd):Prop where
 len:c.bs.length≤2000
 byte:∀x∈c.bs,0≤x∧x<256
structure Rd (W:World) (g:Nat) (c:Cd) (k:Int):Prop where
 blk:Blk W g [.slice c.a c.bs.length c.cap,.int .i64 k] 92
 seg:0<c.bs.length→∃b off,c.a=some ⟨b,off,none⟩∧b<g∧∀i (hi:i<c.bs.length),W.cell? ⟨b,off+i,none⟩=some (.int .u8 c.bs[i])
 pos:0≤k
 lt:k<1000000
theorem Rd.grown {W W':World}{g:Nat}{c:Cd}{k:Int}(h:Rd W g c k){r:Option Nat}(hg:W.grownBy W' r)(hr:∀j,r=some j→g<j):Rd W' g c k:=by
 refine⟨h.blk.grown hg (fun e=>by have:=hr g e;omega),fun hm=>?_,h.pos,h.lt⟩
 obtain⟨b,off,h1,h2,h3⟩:=h.seg hm
 have hlt:b<W.heap.size:=Nat.lt_trans h2 h.blk.lt
 refine⟨b,off,h1,h2,fun i hi=>(World.cell?_of_block (w:=W) (a:=⟨b,_,none⟩) (hg.block b hlt (fun e=>?_))).trans (h3 i hi)⟩
 have:=hr b e.symm
 omega
theorem Rd.below {W W':World}{g B:Nat}{c:Cd}{k:Int}(h:Rd W g c k)(hb:Below B W W')(hB:g<B):Rd W' g c k:=by
 refine⟨h.blk.below hb hB,fun hm=>?_,h.pos,h.lt⟩
 obtain⟨b,off,h1,h2,h3⟩:=h.seg hm
 exact⟨b,off,h1,h2,fun i hi=>(hb.cell (p:=⟨b,_,none⟩) (by dsimp only;omega)).trans (h3 i hi)⟩
theorem Rd.next {W:World}{g:Nat}{c:Cd}{k:Int}(h:Rd W g c k)(hk:k+1<1000000):Rd (W.setCell ⟨g,1,none⟩ (.int .i64 (k+1))) g c (k+1):=by
 refine⟨h.blk.store 1 _,fun hm=>?_,by have:=h.pos;omega,hk⟩
 obtain⟨b,off,h1,h2,h3⟩:=h.seg hm
 refine⟨b,off,h1,h2,fun i hi=>?_⟩
 rw[World.cell?_of_block (w:=W) (a:=⟨b,off+i,none⟩) (Below.heap_setCell _ _ _ _ (show b≠g by omega))]
 exact h3 i hi
structure ZK (g:Nat) (c:Cd) (k:Int) (w w':World):Prop where
 gb:w.grownBy w' (some g)
 rd:Rd w' g c k
 size:w'.heap.size=w.heap.size
theorem Rd.picked {W:World}{g:Nat}{c:Cd}{k:Int}(h:Rd W g c k)(hk:k+1<1000000):ZK g c (k+1) W (W.setCell ⟨g,1,none⟩ (.int .i64 (k+1))):=⟨QX _ _ _ _,h.next hk,by simp⟩
theorem ZK.drew {W W':World}{g:Nat}{c:Cd}{k:Int}(h:ZK g c k W W')(n:Nat):ZK g c k W (W'.drewN n):=
 ⟨⟨h.gb.os,h.gb.tape,h.gb.output,h.gb.size,h.gb.block⟩,⟨h.rd.blk,h.rd.seg,h.rd.pos,h.rd.lt⟩,h.size⟩
theorem QM (g:Nat)(c:Cd)(k n:Int)(w:World)(hc:JX c)(hr:Rd w g c k)(hk:k+1<1000000)(hn:n<1000000):
 Calls Cut.prog 50 #[.pointer (some ⟨g,0,none⟩),.int .i64 n] w fun e w'=>∃z:Int,e=.returned (.int .i64 z)∧0≤z∧(1≤n→z<n)∧(n<1→z=0)∧ZK g c (k+1) w w':=by
 have hP:=hr.picked hk
 have hr1:=hr.next hk
 have hp:=hr.pos
 have x0:w.cell? ⟨g,0,none⟩=some (.slice c.a c.bs.length c.cap):=hr.blk.cell 0
 have x1:w.cell? ⟨g,1,none⟩=some (.int .i64 k):=hr.blk.cell 1
 have f1:=hr.blk.free 1
 have y0:(w.setCell ⟨g,1,none⟩ (.int .i64 (k+1))).cell? ⟨g,0,none⟩=some (.slice c.a c.bs.length c.cap):=hr1.blk.cell 0
 have y1:(w.setCell ⟨g,1,none⟩ (.int .i64 (k+1))).cell? ⟨g,1,none⟩=some (.int .i64 (k+1)):=hr1.blk.cell 1
 have hlen:=hc.len
 have hby:=hc.byte
 by_cases hn1:n<1
 ·go_enter (Cut.func_of Tryz.func50 rfl),Tryz.ntmps50
  go_wp2
  go_ret
  exact⟨0,rfl,by omega,fun h=>by omega,fun _=>rfl,hP⟩
 have hnb:decide (n<1)=false:=by simpa using hn1
 have hn0:1≤n:=by omega
 clear hn1
 by_cases hl0:c.bs.length=0
 ·rw[hl0]at x0 y0
  go_enter (Cut.func_of Tryz.func50 rfl),Tryz.ntmps50
  go_wp2
  go_ret
  exact⟨0,rfl,by omega,fun h=>by omega,fun _=>rfl,hP⟩
 obtain⟨b,off,ea,hbg,hcell⟩:=hr1.seg (by omega)
 rw[ea]at x0 y0
 have hcz:∀i:Nat,i<c.bs.length→∃z:Int,(w.setCell ⟨g,1,none⟩ (.int .i64 (k+1))).cell? ⟨b,off+i,none⟩=some (.int .u8 z)∧0≤z∧z<256:=fun i hi=>⟨_,hcell i hi,hby _ (List.getElem_mem hi)⟩
 clear hcell hby hr1 hr hc ea
 generalize c.bs.length=L at *
 have hlb:(((L:Nat):Int)==0)=false:=by rw[beq_eq_false_iff_ne];omega
 by_cases hkl:k<(L:Int)
 ·have hklb:decide (k<(L:Int))=true:=by simpa using hkl
  obtain⟨z,d1,hz0,hz1⟩:=hcz k.toNat (by omega)
  have hnz:(n ==0)=false:=by rw[beq_eq_false_iff_ne];omega
  go_enter (Cut.func_of Tryz.func50 rfl),Tryz.ntmps50
  go_wp2
  go_ret
  exact⟨z%n,rfl,Int.emod_nonneg _ (by omega),fun _=>Qht _ (by omega),fun h=>by omega,hP⟩
 ·have hklb:decide (k<(L:Int))=false:=by simpa using hkl
  have hq1:0≤k%(L:Int)∧k%(L:Int)<L:=⟨Int.emod_nonneg _ (by omega),Qht _ (by omega)⟩
  have hq2:0≤(k*7+3)%(L:Int)∧(k*7+3)%(L:Int)<L:=⟨Int.emod_nonneg _ (by omega),Qht _ (by omega)⟩
  obtain⟨z,d1,hz0,hz1⟩:=hcz (k%(L:Int)).toNat (by omega)
  obtain⟨y,d2,hy0,hy1⟩:=hcz ((k*7+3)%(L:Int)).toNat (by omega)
  go_enter (Cut.func_of Tryz.func50 rfl),Tryz.ntmps50
  have hq3:0≤k/(L:Int)∧k/(L:Int)≤k:=⟨Int.ediv_nonneg hp (by omega),Int.ediv_le_self _ hp⟩
  go_wp2
  go_quiet (fail)
  have hxp:0≤z*131+y*1117+k*29+k/(L:Int)*53∧z*131+y*1117+k*29+k/(L:Int)*53<9223372036854775808:=by omega
  generalize z*131+y*1117+k*29+k/(L:Int)*53=X at *
  obtain⟨hb0,hb1⟩:=QdX hxp.1 hxp.2 (Int.ediv_nonneg hxp.1 (by omega):0≤X/64) (by omega)
  go_wp2
  go_ret
  exact⟨bits .xor .i64 X (X/64)%n,rfl,Int.emod_nonneg _ (by omega),fun _=>Qht _ (by omega),fun h=>by omega,hP.drew _⟩
theorem KJ (g b:Nat)(c:Cd)(k:Int)(ts:List ByteArray)(w:World)(hc:JX c)(hr:Rd w g c k)(hk:k+1<1000000)(h0:0<ts.length)(hl:ts.length≤100)(hb:Blk w b (ts.map Value.string) 9)(hne:b≠g):
 Calls Cut.prog 95 #[.pointer (some ⟨g,0,none⟩),.slice (some ⟨b,0,none⟩) ts.length ts.length] w fun e w'=>∃t∈ts,e=.returned (.string t)∧ZK g c (k+1) w w':=by
 have c1:=QM g c k (ts.length:Int) w hc hr hk (by omega)
 go_enter (Cut.func_of Tryz.func95 rfl),Tryz.ntmps95
 go_wp2_with fail
 refine c1.mono ?_
 rintro e w1 ⟨z,rfl,hz0,hz1,-,hP⟩
 have hb1:=hb.grown hP.gb (by simp;omega)
 have hz2:=hz1 (by omega)
 have hi:z.toNat<ts.length:=by omega
 have d1:w1.cell? ⟨b,z.toNat,none⟩=some (.string ts[z.toNat]):=by
  rw[hb1.cell z.toNat,List.getElem?_map,List.getElem?_eq_getElem hi];rfl
 have HM:Hid (ts[z.toNat]∈ts):=List.getElem_mem hi
 generalize ts[z.toNat]=t at d1 HM
 clear c1 hb1 hz1
 go_wp2
 go_ret
 exact⟨t,HM.out,rfl,hP⟩
theorem O7 {w:World}{c:Cd}(hs:0<c.bs.length→∃b off,c.a=some ⟨b,off,none⟩∧b<w.heap.size∧∀i (hi:i<c.bs.length),w.cell? ⟨b,off+i,none⟩=some (.int .u8 c.bs[i])):
 Rd (w.alloc (Qhr #[Qhp c.a c.bs.length c.cap,Value.int .i64 0] 92)) w.heap.size c 0∧Below w.heap.size w (w.alloc (Qhr #[Qhp c.a c.bs.length c.cap,Value.int .i64 0] 92)):=by
 have hA:Below w.heap.size w (w.alloc (Qhr #[Qhp c.a c.bs.length c.cap,Value.int .i64 0] 92)):=(Below.refl _ _).alloc (Qhq _) _
 refine⟨⟨Blk.new w _ _,fun hm=>?_,by omega,by omega⟩,hA⟩
 obtain⟨b,off,h1,h2,h3⟩:=hs hm
 exact⟨b,off,h1,h2,fun i hi=>(hA.cell (p:=⟨b,_,none⟩) h2).trans (h3 i hi)⟩
theorem Qee (a:Option Addr)(cap:Nat)(bs:List Int)(w:World)(hcap:bs.length≤cap)(hm:cap≤maxLen)(hby:∀x∈bs,0≤x∧x<256)(hs:0<bs.length→∃b off,a=some ⟨b,off,none⟩∧b<w.heap.size∧∀i (hi:i<bs.length),w.cell? ⟨b,off+i,none⟩=some (.int .u8 bs[i])):
 Calls Cut.prog 31 #[.slice a bs.length cap] w fun e w'=>∃(g:Nat) (c:Cd),e=.returned (.pointer (some ⟨g,0,none⟩))∧JX c∧Rd w' g c 0∧w.heap.size≤g∧Below w.heap.size w w':=by
 unfold maxLen at hm
 by_cases hl:2000<bs.length
 ·obtain⟨b,off,rfl,hb,hcell⟩:=hs (by omega)
  have hlb:decide (2000<(bs.length:Int))=true:=by simp;omega
  go_enter (Cut.func_of Tryz.func31 rfl),Tryz.ntmps31
  go_wp2
  go_ret
  have ht:(bs.take 2000).length=2000:=by rw[List.length_take];omega
  obtain⟨hR,hB⟩:=O7 (w:=w) (c:=⟨some ⟨b,off,none⟩,bs.take 2000,cap⟩) (fun _=>⟨b,off,rfl,hb,fun i hi=>by
   dsimp only at hi⊢
   rw[List.getElem_take]
   exact hcell i (by omega)⟩)
  dsimp only at hR hB
  rw[ht]at hR hB
  exact⟨_,_,rfl,⟨by dsimp only;omega,fun x hx=>hby x (List.mem_of_mem_take hx)⟩,hR,Qhq _,hB⟩
 ·have hlb:decide (2000<(bs.length:Int))=false:=by simp;omega
  go_enter (Cut.func_of Tryz.func31 rfl),Tryz.ntmps31
  go_wp2
  go_ret
  obtain⟨hR,hB⟩:=O7 (w:=w) (c:=⟨a,bs,cap⟩) hs
  exact⟨_,⟨a,bs,cap⟩,rfl,⟨by dsimp only;omega,hby⟩,hR,Qhq _,hB⟩
end
end Go.Proofs.YtcpnkpogebjieaaGreat
