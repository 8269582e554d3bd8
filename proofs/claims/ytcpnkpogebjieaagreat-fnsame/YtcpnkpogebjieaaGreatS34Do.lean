/- The specification's own events: a guardian that is asked. -/
import Derived.Test.YtcpnkpogebjieaaGreatS33Dm
open Go.Value renaming slice→QhR,int→QhS
open Go.Obj renaming cells→QhT
open Nat renaming le_refl→QhU,zero_le→QhZ
open List renaming setIfInBounds_toArray→QhV,set_cons_zero→QhW,set_cons_succ→QhX,length_set→Qh0,getElem_toArray→Qh1,getElem_cons_zero→Qh2,getElem_cons_succ→Qh3,length_take→Qh4,length_drop→Qh5
open Go.World renaming cell?_of_block→QhY
set_option maxHeartbeats 3200000
set_option maxRecDepth 100000
namespace Go.Proofs.YtcpnkpogebjieaaGreat
section
open Go.RowKit
theorem OkC.root {h:Hp}(c:OkC h){z:Int}(hz:-1≤z∧z<h.os.length)(t:Nat):OkC {h with rs:=h.rs.set t z}:=by
 refine⟨c.n60,by simpa using c.r8,c.w20,c.ob,fun y hy=>?_,c.wo,c.dd⟩;rcases List.mem_or_eq_of_mem_set hy with hy|hy
 ·exact c.ro y hy
 ·subst hy;exact hz
theorem OkC.told {h:Hp}(c:OkC h){ds:List (Int×Int)}(hd:∀p∈ds,p∈h.ds)(hl:ds.length≤h.ds.length)(da:Option Addr)(dcap:Nat):OkC {h with da:=da,dcap:=dcap,ds:=ds}:=
 ⟨c.n60,c.r8,by have:=c.w20;simp only;omega,c.ob,c.ro,c.wo,fun p hp=>c.dd p (hd p hp)⟩
theorem Qk.newD {W W':World}{B:Nat}{h:Hp}(hq:Qk W B h)(hb:Below W.heap.size W W'){a:Option Addr}{cap:Nat}{ds:List (Int×Int)}(hown:Qe W' W.heap.size (.slice a ds.length cap) ds)(hB:B≤W.heap.size):Qk W' B {h with da:=a,dcap:=cap,ds:=ds}:=by
 have q:=hq.below hb (QhU _);exact⟨q.ob,q.rs,q.rne,q.ro,q.rro,q.wa,hown.base hB,Kl hq.wa (QhU _) (fun k e=>(hown.lt k e).1)⟩
theorem Qz.part {w:World}{b off:Nat}{ws:List (Int×Int)}(h:Qz w (some ⟨b,off,none⟩) ws)(i:Nat):Qz w (some ⟨b,off+i*2,none⟩) (ws.drop i):=fun hm=>by
 have hl:i<ws.length:=by simp at hm;omega
 obtain⟨b',off',e,hb,hc⟩:=h (by omega);simp only[Option.some.injEq,Addr.mk.injEq,and_true]at e;obtain⟨rfl,rfl⟩:=e;refine⟨b,off+i*2,rfl,hb,fun j hj=>?_⟩;have hj':i+j<ws.length:=by simp at hj;omega
 have:=hc (i+j) hj';simp only[List.getElem_drop];have e1:off+(i+j)*2=off+i*2+j*2:=by omega
 rw[e1]at this;exact this
theorem Qz.first {w:World}{a:Option Addr}{ws:List (Int×Int)}(h:Qz w a ws)(i:Nat):Qz w a (ws.take i):=fun hm=>by
 have hl:0<ws.length:=by simp at hm;omega
 obtain⟨b,off,e,hb,hc⟩:=h hl;refine⟨b,off,e,hb,fun j hj=>?_⟩;have hj':j<ws.length:=by simp at hj;omega
 simp only[List.getElem_take];exact hc j hj'
structure Yu (w:World) (h:Hp) (e:Ev) (B T gr:Nat) (z:Int) (W:World):Prop where
 b:Bx3 w W h e
 q:Qk W B {h with rs:=h.rs.set e.to.toNat z}
 be:Md B T w W
structure Ke (w:World) (h:Hp) (e:Ev) (B T:Nat) (W:World) (z:Int) (da:Option Addr) (dcap:Nat) (ds:List (Int×Int)):Prop where
 bh:Blk W w.heap.size [QhR h.oa h.os.length h.ocap,QhR h.ra h.rs.length h.rcap,QhR h.wa h.ws.length h.wcap,QhR da ds.length dcap] 27
 bv:Blk W (w.heap.size+1) [QhS .i64 e.k,QhS .i64 e.to,QhS .i64 e.fr,QhS .i64 e.pt,QhS .i64 e.o.k,Value.string e.o.t,QhR e.o.ra e.o.r.length e.o.rcap] 75
 br:Blk W (w.heap.size+1+1) [QhR none 0 0,QhR none 0 0,QhR none 0 0,QhR none 0 0] 27
 q:Qk W B {h with rs:=h.rs.set e.to.toNat z,da:=da,dcap:=dcap,ds:=ds}
 ok:OkC {h with rs:=h.rs.set e.to.toNat z,da:=da,dcap:=dcap,ds:=ds}
 be:Md B T w W
 zb:z<h.os.length
theorem QeS (h:Hp)(e:Ev)(B T:Nat)(w:World)(hq:Qk w B h)(hB:B≤w.heap.size)(c:OkC h)(hT:Ve h T)(h0:0≤e.to)(h1:e.to<h.rs.length):
 Calls Cut.prog 126 #[h.v,e.v] w fun en w'=>∃(y:Hp) (s:ByteArray),en=.returned (.tuple #[y.v,.string s])∧OkC y∧Qk w' B y∧Md B T w w':=by
 obtain⟨i0,hi,hz0,hz1,hz2⟩:=info_parts Jr;obtain⟨b0,hb0⟩:=Bx3.start w h e;have c1:=Uw h e.fr _ ((hq.isIn.sr).below hb0 (QhU _)) c.small.r;have hbd:=U2 c.ro (by omega) e.fr;obtain⟨gr,hgr⟩:=hq.ro.ptr (by omega);have HGR:Hid (h.ra=some ⟨gr,0,none⟩):=hgr;clear hgr;go_enter (Cut.func_of Tryz.func126 rfl),Tryz.ntmps126;simp only[Hp.v,Ev.v,Ev.cs]at c1⊢;go_wp2_with fail;refine c1.mono ?_;rintro en w1 ⟨rfl,hb1⟩;have b1:=b0.step hb1;have hB1:=hb0.trans (hb1.mono hb0.size);have hq1:=hq.below hB1 (QhU _);have hBB:Md B T w w1:=Md.of hB1 hB;clear c1 b0 hb0 hb1;obtain⟨⟨x0,x1,x2,x3⟩,⟨y0,y1,y2,y3,y4,y5,y6⟩,⟨r0,r1,r2,r3⟩,f0,f1,f2,f3⟩:=b1.cells;obtain⟨hqE,hbE,z0,z1,z2,z3⟩:=Jx b1.br hq1 hBB (by omega) (by omega) _ _ _ _ rfl rfl rfl rfl;generalize rootP h.rs e.fr=G at *;by_cases hG:G<0
 ·go_wp2;refine bodyPost_ret (v:=.tuple #[h.v,.string ⟨#[110,111]⟩]) ?_ rfl ⟨h,_,rfl,c,hqE,hbE⟩;simp[results,Tryz.results126,go_sem,z0,z1,z2,z3,Hp.v]
 have hG0:0≤G:=by omega
 have hGd:decide (G<0)=false:=by simpa using hG0
 have hGl:G.toNat<h.os.length:=by omega
 have hG1:G<(h.os.length:Int):=hbd.2;obtain⟨bb,off,eo,hbb,e1,e2,e3⟩:=hq.isIn.so.get hGl;have d1:=(hB1.cell (p:=⟨bb,off+G.toNat*3,none⟩) hbb).trans e1;have HEO:Hid (h.oa=some ⟨bb,off,none⟩):=eo;clear hG e1 e2 e3 hbd;by_cases hk':¬h.os[G.toNat].k=4
 ·have hkd:(h.os[G.toNat].k !=4)=true:=by simpa using hk'
  clear hk';generalize hOA:h.oa=OA at eo x0 hqE hbE z0 z1 z2 z3⊢;clear hOA;subst eo;go_wp2;refine bodyPost_ret (v:=.tuple #[h.v,.string ⟨#[110,111]⟩]) ?_ rfl ⟨h,_,rfl,c,hqE,hbE⟩;simp[results,Tryz.results126,go_sem,z0,z1,z2,z3,Hp.v,HEO.out]
 have hk:h.os[G.toNat].k=4:=Decidable.not_not.1 hk';rw[hk]at d1;clear hk hk' hqE hbE z0 z1 z2 z3;have hgr:=HGR.out;have hro1:Qa w1 B (.slice (some ⟨gr,0,none⟩) h.rs.length h.rcap) h.rs:=by rw[←hgr];exact hq1.ro
 have hgl:gr<w.heap.size:=by
  have:=hq.ro;rw[hgr]at this;exact(this.lt gr rfl).2
 have hgB:B≤gr:=(hro1.lt gr rfl).1;have hgT:gr<T:=hT.r gr (by rw[hgr];rfl);have htl:e.to.toNat<h.rs.length:=by omega
 have q0:=hro1.at htl;have q1:=hro1.free e.to.toNat
 have setR:∀(W:World) (y z:Int),Yu w h e B T gr y W→Yu w h e B T gr z (W.setCell ⟨gr,e.to.toNat,none⟩ (.int .i64 z)):=fun W y z A=>by
  refine⟨⟨A.b.bh.other _ _ (by dsimp only;omega),A.b.bv.other _ _ (by dsimp only;omega),A.b.br.other _ _ (by dsimp only;omega)⟩,?_,A.be.set hgB (Or.inl hgT) _⟩;have:=A.q.setRoot (g:=gr) hgr e.to.toNat z;simpa using this
 have A0:Yu w h e B T gr (-1) (w1.setCell ⟨gr,e.to.toNat,none⟩ (.int .i64 (-1))):=by
  refine setR w1 (h.rs[e.to.toNat]) (-1) ⟨b1,?_,hBB⟩;rw[List.set_getElem_self];exact hq1
 have SETR:Hid (∀(W:World) (y z:Int),Yu w h e B T gr y W→Yu w h e B T gr z (W.setCell ⟨gr,e.to.toNat,none⟩ (.int .i64 z))):=setR;have hw20:=c.w20;clear setR;obtain⟨DA,hDA⟩:∃DA,h.da=DA:=⟨_,rfl⟩;have HDA:Hid (h.da=DA):=hDA
 go_upto_block 0 with fail
 clear hDA;have HOUT:Hid (∀W,Yu w h e B T gr (-1) W→Ke w h e B T W (-1) h.da h.dcap h.ds):=fun W A=>⟨A.b.bh,A.b.bv,A.b.br,A.q,c.root ⟨by omega,by omega⟩ _,A.be,by omega⟩;go_cut []from 29 (fun wx=>∃(z:Int) (da:Option Addr) (dcap:Nat) (ds:List (Int×Int)),Ke w h e B T wx z da dcap ds)
 case first=>
  clear x0 x1 x2 x3 y0 y1 y2 y3 y4 y5 y6 r0 r1 r2 r3 f0 f1 f2 f3 q0 q1 d1 hq1 hBB b1 hB1 hro1;go_wp2_with fail;go_loopw [7] (fun i wr=>∃k:Nat,k≤h.ds.length∧i=.int .i64 k∧Yu w h e B T gr (-1) wr) (fun i _=>h.ds.length-(intOf i).toNat)
  case atStart=>exact⟨0,QhZ _,rfl,A0⟩
  case round=>
   obtain⟨k,hk,rfl,A⟩:=hrel;clear A0;obtain⟨⟨x0,x1,x2,x3⟩,⟨y0,y1,y2,y3,y4,y5,y6⟩,⟨r0,r1,r2,r3⟩,f0,f1,f2,f3⟩:=A.b.cells;rw[HDA.out]at x3;by_cases hlt:k<h.ds.length
   ·have hsd:Qz wr h.da h.ds:=A.q.isIn.sd
    have hda:∃gd,h.da=some ⟨gd,0,none⟩∧h.ds.length≤h.dcap:=by
     rcases A.q.da.2 with⟨_,q2⟩|⟨g',cap',cur,q1,_,_,q3,_⟩
     ·exact absurd q2 (by simp only;omega)
     ·simp only[Value.slice.injEq]at q1;exact⟨g',q1.1,by simp only at q3;omega⟩
    obtain⟨gd,hgd,hdc⟩:=hda;obtain⟨b5,o5,e5,hb5,d1,d2'⟩:=hsd.get hlt;rw[hgd]at e5;simp only[Option.some.injEq,Addr.mk.injEq,and_true]at e5;obtain⟨rfl,rfl⟩:=e5;rw[Nat.zero_add]at d1 d2';have HGD:Hid (h.da=some ⟨gd,0,none⟩):=hgd;obtain rfl:DA=some ⟨gd,0,none⟩:=HDA.out.symm.trans hgd;clear hgd;have HDS:Hid (h.ds[k]∈h.ds):=List.getElem_mem hlt;have hdb:=JH (h:=h) c.dd h.ds[k] (List.getElem_mem hlt);generalize hD1:h.ds[k].1=dd1 at *;generalize hD2:h.ds[k].2=d2 at *;have HD:Hid (h.ds[k].1=dd1∧h.ds[k].2=d2):=⟨hD1,hD2⟩;clear hD1 hD2;by_cases hg:dd1=G
    ·subst hg
     have hro:Qa wr B (.slice (some ⟨gr,0,none⟩) h.rs.length h.rcap) (h.rs.set e.to.toNat (-1)):=by
      have:=A.q.ro;simp only[hgr,Qh0]at this;exact this
     have q0:=hro.at (k:=e.to.toNat) (by simpa using htl);have q1:=hro.free e.to.toNat
     have hgdl:gd≠gr:=fun q=>by
      have h1:=A.q.da;simp only[HGD.out]at h1;obtain⟨c1,u1⟩:=ZB h1 rfl;obtain⟨c2,u2⟩:=ZB hro rfl;rw[q,u2]at u1;simp at u1
     have Ad:=SETR.out wr (-1) d2 A;have hdr:Below (wr.setCell ⟨gr,e.to.toNat,none⟩ (.int .i64 d2)).heap.size (wr.setCell ⟨gr,e.to.toNat,none⟩ (.int .i64 d2)) (wr.setCell ⟨gr,e.to.toNat,none⟩ (.int .i64 d2)).drew:=(Below.refl _ _).drew;have A9:Yu w h e B T gr d2 (wr.setCell ⟨gr,e.to.toNat,none⟩ (.int .i64 d2)).drew:=⟨Ad.b.step hdr,Ad.q.below hdr (QhU _),Ad.be.step hdr hB⟩;rw[hgr]at x1
     have hS9:(fun(W':World)=>W'.cell? ⟨w.heap.size,1,none⟩=some (.slice (some ⟨gr,0,none⟩) h.rs.length h.rcap)∧W'.cell? ⟨w.heap.size,3,none⟩=some (.slice (some ⟨gd,0,none⟩) h.ds.length h.dcap)∧W'.cell? ⟨w.heap.size+1,1,none⟩=some (.int .i64 e.to)∧W'.cell? ⟨gd,k*2+1,none⟩=some (.int .i64 d2)) (wr.setCell ⟨gr,e.to.toNat,none⟩ (.int .i64 d2)).drew:=by
      have sc:∀(p:Addr) (u:Value),p.block≠gr→wr.cell? p=some u→(wr.setCell ⟨gr,e.to.toNat,none⟩ (.int .i64 d2)).drew.cell? p=some u:=fun p u hp hc=>by
       exact(QhY (w:=wr) (w':=(wr.setCell ⟨gr,e.to.toNat,none⟩ (.int .i64 d2)).drew) (Below.heap_setCell _ _ _ _ hp)).trans hc
      have p1:w.heap.size≠gr:=by omega
      have p2:w.heap.size+1≠gr:=by omega
      exact⟨sc _ _ p1 x1,sc _ _ p1 x3,sc _ _ p2 y1,sc _ _ hgdl d2'⟩
     obtain⟨s1,s2,s3,s4⟩:=hS9;have HDB:Hid (0≤d2∧d2<(h.os.length:Int)):=hdb.2;have hd2a:=hdb.2.1;have hd2b:=hdb.2.2;have hi1:(k:Int)<(h.ds.length:Int):=by omega
     have hi2:(k:Int)≤(h.dcap:Int):=by omega
     have hi3:(k:Int)+1≤(h.ds.length:Int):=by omega
     have hi4:(h.ds.length:Int)≤(h.dcap:Int):=by omega
     have hwr:IntKind.i64.wrap ((k:Int)+1)=(k:Int)+1:=IntWalk.i64_in _ (by omega);have hk1:0≤(k:Int)+1:=by omega
     have hk2:((k:Int)+1).toNat=k+1:=by omega
     go_wp2_with fail;go_region_held3 (fun(W':World)=>W'.cell? ⟨w.heap.size,1,none⟩=some (.slice (some ⟨gr,0,none⟩) h.rs.length h.rcap)∧W'.cell? ⟨w.heap.size,3,none⟩=some (.slice (some ⟨gd,0,none⟩) h.ds.length h.dcap)∧W'.cell? ⟨w.heap.size+1,1,none⟩=some (.int .i64 e.to)∧W'.cell? ⟨gd,k*2+1,none⟩=some (.int .i64 d2)) (first|(refine⟨?_,?_,?_,?_⟩<;>with_reducible assumption)|go_keep) (fail);generalize hW9:(wr.setCell ⟨gr,e.to.toNat,none⟩ (.int .i64 d2)).drew=W9 at A9 s1 s2 s3 s4⊢;clear hW9 A Ad hro q0 q1 hdr x0 x1 x2 x3 y0 y1 y2 y3 y4 y5 y6 r0 r1 r2 r3 f0 f1 f2 f3 d1 d2';have hdr9:Below W9.heap.size W9 W9.drew:=(Below.refl _ _).drew;go_wp2_with fail;refine PQ (by kernel_rfl) 13 (fun(W':World)=>W'.cell? ⟨w.heap.size,3,none⟩=some (.slice (some ⟨gd,0,none⟩) h.ds.length h.dcap)) ?_;have hC:(fun(W':World)=>W'.cell? ⟨w.heap.size,3,none⟩=some (.slice (some ⟨gd,0,none⟩) h.ds.length h.dcap)) W9.drew:=s2;generalize hWD:W9.drew=WD at hdr9 hC⊢;clear hWD;refine Q3 (i:=1) (v:=?_) 56 rfl rfl rfl (by kernel_rfl) (by kernel_rfl) (by kernel_rfl) (by kernel_rfl) (by kernel_rfl) rfl (fun _ _ _ h=>h) (Or.inl ⟨by rfl,?_⟩) hC ?_;rotate_left
     ·intro W hSw
      try dsimp only at hSw
      go_simp
      try with_reducible rfl
     simp only[QhV,QhW,QhX];refine Q3 (i:=2) (v:=?_) 57 rfl rfl rfl (by kernel_rfl) (by kernel_rfl) (by kernel_rfl) (by kernel_rfl) (by kernel_rfl) rfl (fun _ _ _ h=>h) (Or.inl ⟨by rfl,?_⟩) hC ?_;rotate_left
     ·intro W hSw
      try dsimp only at hSw
      go_simp
      try with_reducible rfl
     simp only[QhV,QhW,QhX];refine Q3 (i:=3) (v:=?_) 58 rfl rfl rfl (by kernel_rfl) (by kernel_rfl) (by kernel_rfl) (by kernel_rfl) (by kernel_rfl) rfl (fun _ _ _ h=>h) (Or.inl ⟨by rfl,?_⟩) hC ?_;rotate_left
     ·intro W hSw
      try dsimp only at hSw
      go_simp
      try with_reducible rfl
     simp only[QhV,QhW,QhX];refine Q3 (i:=4) (v:=?_) 59 rfl rfl rfl (by kernel_rfl) (by kernel_rfl) (by kernel_rfl) (by kernel_rfl) (by kernel_rfl) rfl (fun _ _ _ h=>h) (Or.inl ⟨by rfl,?_⟩) hC ?_;rotate_left
     ·intro W hSw
      try dsimp only at hSw
      go_simp
      try with_reducible rfl
     simp only[QhV,QhW,QhX];refine Q3 (i:=6) (v:=?_) 61 rfl rfl rfl (by kernel_rfl) (by kernel_rfl) (by kernel_rfl) (by kernel_rfl) (by kernel_rfl) rfl (fun _ _ _ h=>h) (Or.inl ⟨by rfl,?_⟩) hC ?_;rotate_left
     ·intro W hSw
      try dsimp only at hSw
      go_simp
      try with_reducible rfl
     simp only[QhV,QhW,QhX];refine Q3 (i:=7) (v:=?_) 62 rfl rfl rfl (by kernel_rfl) (by kernel_rfl) (by kernel_rfl) (by kernel_rfl) (by kernel_rfl) rfl (fun _ _ _ h=>h) (Or.inl ⟨by rfl,?_⟩) hC ?_;rotate_left
     ·intro W hSw
      try dsimp only at hSw
      go_simp
      try with_reducible rfl
     simp only[QhV,QhW,QhX];refine Q3 (i:=8) (v:=?_) 63 rfl rfl rfl (by kernel_rfl) (by kernel_rfl) (by kernel_rfl) (by kernel_rfl) (by kernel_rfl) rfl (fun _ _ _ h=>h) (Or.inl ⟨by rfl,?_⟩) hC ?_;rotate_left
     ·intro W hSw
      try dsimp only at hSw
      go_simp
      try with_reducible rfl
     simp only[QhV,QhW,QhX];refine Q3 (i:=9) (v:=?_) 64 rfl rfl rfl (by kernel_rfl) (by kernel_rfl) (by kernel_rfl) (by kernel_rfl) (by kernel_rfl) rfl (fun _ _ _ h=>h) (Or.inl ⟨by rfl,?_⟩) hC ?_;rotate_left
     ·intro W hSw
      try dsimp only at hSw
      go_simp
      try with_reducible rfl
     simp only[QhV,QhW,QhX];refine Q3 (i:=10) (v:=?_) 65 rfl rfl rfl (by kernel_rfl) (by kernel_rfl) (by kernel_rfl) (by kernel_rfl) (by kernel_rfl) rfl (fun _ _ _ h=>h) (Or.inl ⟨by rfl,?_⟩) hC ?_;rotate_left
     ·intro W hSw
      try dsimp only at hSw
      go_simp
      try with_reducible rfl
     simp only[QhV,QhW,QhX];have hA0:Below W9.heap.size W9 (WD.alloc (QhT #[] 40)):=hdr9.alloc hdr9.size _;have hO0:(WD.alloc (QhT #[] 40)).ownsRow W9.heap.size 40 2 (.slice (some ⟨WD.heap.size,0,none⟩) 0 0) 0 []:=World.ownsRow_lit (e:=40) (size:=2) (base:=W9.heap.size) WD #[] 0 hdr9.size (QhZ _) rfl;have hC0:(fun(W':World)=>W'.cell? ⟨w.heap.size,3,none⟩=some (.slice (some ⟨gd,0,none⟩) h.ds.length h.dcap)) (WD.alloc (QhT #[] 40)):=(hA0.cell (p:=⟨w.heap.size,3,none⟩) A9.b.bh.lt).trans s2
     have hsd9:Qz W9 (some ⟨gd,0,none⟩) h.ds:=by
      have:=A9.q.isIn.sd;simp only[HGD.out]at this;exact this
     refine JB (rs:=[0]) (by kernel_rfl) (by simp) ?_;refine QP.cons (o:=_) rfl (fun K hK=>?_) QP.nil;go_simp;refine hK.out _ _ hC0 ?_;clear hK K
     try simp only[Act.put,Qh1,Qh2,Qh3,QhV,QhW,QhX]
     generalize hWA:WD.alloc (QhT #[] 40)=WA at hA0 hO0 hC0⊢;clear hWA;refine JB (rs:=[5]) (by kernel_rfl) (by simp) ?_;refine QP.cons (o:=_) rfl (fun K hK=>?_) QP.nil;refine U4 _ rfl _ _ 25 rfl W9.heap.size 40 i0 _ 2 16 ((Cut.under_eq 25).trans Tryz.underlying25) hi hz0 hz1 hz2 rfl (by decide) _ 0 [] rfl hO0 (some ⟨gd,0,none⟩) k h.dcap ((h.ds.take k).flatMap wc) rfl (by rw[JY wc 2 (fun _=>rfl),Qh4];omega) (fun hm=>(((hsd9.below hA0 (QhU _)).first k).src) (by rw[Qh4];omega)) (JU _) (by unfold maxLen;omega) (by omega) hA0.size ?_;intro v5 w5 hown5 hgr5 hat5;have hb5:Below W9.heap.size W9 w5:=hA0.trans (QJ hgr5 hA0.size (fun q e=>(hO0.lt q e).1));have hC5:(fun(W':World)=>W'.cell? ⟨w.heap.size,3,none⟩=some (.slice (some ⟨gd,0,none⟩) h.ds.length h.dcap)) w5:=(hb5.cell (p:=⟨w.heap.size,3,none⟩) A9.b.bh.lt).trans s2;refine hK.out _ _ hC5 ?_;clear hK K
     try simp only[Act.put,Qh1,Qh2,Qh3,QhV,QhW,QhX]
     refine JB (rs:=[11]) (by kernel_rfl) (by simp) ?_;refine QP.cons (o:=_) rfl (fun K hK=>?_) QP.nil
     refine U4 _ rfl _ _ 25 rfl W9.heap.size 40 i0 _ 2 16 ((Cut.under_eq 25).trans Tryz.underlying25) hi hz0 hz1 hz2 rfl (by decide) _ _ _ rfl hown5 (if h.dcap=k+1 then some ⟨gd,0,none⟩else some ⟨gd,(k+1)*2,none⟩) (h.ds.length-(k+1)) (h.dcap-(k+1)) ((h.ds.drop (k+1)).flatMap wc) rfl (by rw[JY wc 2 (fun _=>rfl),Qh5]) (fun hm=>by
      have hne:¬h.dcap=k+1:=by omega
      have:=((hsd9.below hb5 (QhU _)).part (k+1)).src (by rw[Qh5];omega);rw[if_neg hne]
      simpa using this) (JU _) (by unfold maxLen;omega) (by omega) hb5.size ?_
     intro v6 w6 hown6 hgr6 hat6;have hb6:Below W9.heap.size W9 w6:=hb5.trans (QJ hgr6 hb5.size (fun q e=>(hown5.lt q e).1));have hC6:(fun(W':World)=>W'.cell? ⟨w.heap.size,3,none⟩=some (.slice (some ⟨gd,0,none⟩) h.ds.length h.dcap)) w6:=(hb6.cell (p:=⟨w.heap.size,3,none⟩) A9.b.bh.lt).trans s2;refine hK.out _ _ hC6 ?_;clear hK K
     try simp only[Act.put,Qh1,Qh2,Qh3,QhV,QhW,QhX]
     have hlen:k+(h.ds.length-(k+1))=(h.ds.take k++h.ds.drop (k+1)).length:=by rw[List.length_append,Qh4,Qh5];omega
     have ho6:Qe w6 W9.heap.size v6 (h.ds.take k++h.ds.drop (k+1)):=by
      unfold Qe;rw[←hlen,List.flatMap_append];simpa using hown6
     obtain⟨a6,c6,rfl,-⟩:=ho6.form;have A9b:=A9.b.step hb6;have f6:=A9b.bh.free 3;have hC6':w6.cell? ⟨w.heap.size,3,none⟩=some (.slice (some ⟨gd,0,none⟩) h.ds.length h.dcap):=hC6
     have hEnd:Ke w h e B T (w6.setCell ⟨w.heap.size,3,none⟩ (.slice a6 (h.ds.take k++h.ds.drop (k+1)).length c6)) d2 a6 c6 (h.ds.take k++h.ds.drop (k+1)):=by
      have kk:Qf 27 w6 (w6.setCell ⟨w.heap.size,3,none⟩ (.slice a6 (h.ds.take k++h.ds.drop (k+1)).length c6)):=Qf.set A9b.bh 3 _;refine⟨A9b.bh.store 3 _,A9b.bv.other _ _ (by dsimp only;omega),A9b.br.other _ _ (by dsimp only;omega),(A9.q.newD hb6 ho6 (Nat.le_trans hB A9.be.be.size)).keep kk,(c.root ⟨by omega,hd2b⟩ _).told (fun p hp=>?_) (by rw[←hlen];simp only;omega) _ _,(A9.be.step hb6 hB).set hB (Or.inr (QhU _)) _,hd2b⟩;rcases List.mem_append.1 hp with hp|hp
      ·exact List.mem_of_mem_take hp
      ·exact List.mem_of_mem_drop hp
     have HLEN:Hid (k+(h.ds.length-(k+1))=(h.ds.take k++h.ds.drop (k+1)).length):=hlen;generalize hLL:(h.ds.take k++h.ds.drop (k+1)).length=LL at *;clear hLL hlen hown5 hgr5 hat5 hown6 hgr6 hat6 hO0 hsd9 hk2 hwr;refine Q3 (i:=12) (v:=?_) 67 rfl rfl rfl (by kernel_rfl) (by kernel_rfl) (by kernel_rfl) (by kernel_rfl) (by kernel_rfl) rfl (fun _ _ _ h=>h) (Or.inl ⟨by rfl,?_⟩) hC6 ?_;rotate_left
     ·intro W hSw
      try dsimp only at hSw
      go_simp
      try with_reducible rfl
     simp only[QhV,QhW,QhX];refine JB (rs:=[13]) (by kernel_rfl) (by simp) ?_;refine QP.last (o:=_) rfl (fun K hK=>?_) QP.nil;go_simp;refine hK.out _ _ ?_;clear hK K
     try simp only[Act.put]
     refine PN (by kernel_rfl) ?_ _;generalize (if h.dcap=k+1 then some (⟨gd,0,none⟩:Addr)else some ⟨gd,(k+1)*2,none⟩)=IFV;go_wp2;go_meet
     case rel=>exact⟨_,_,_,_,hEnd⟩
    ·have hgd':(dd1 ==G)=false:=by simp[hg]
     clear hg;go_wp2;go_roundw
     case rel=>exact⟨k+1,by omega,by go_num,A⟩
     case measure=>simp[intOf];omega
   ·have hO:=HOUT.out wr A;go_wp2;go_meet
    case rel=>exact⟨_,_,_,_,hO⟩
 case rest=>
  obtain⟨z,da,dcap,ds,hO⟩:=hcut;clear x0 x1 x2 x3 y0 y1 y2 y3 y4 y5 y6 r0 r1 r2 r3 f0 f1 f2 f3 q0 q1 d1 hq1 hBB b1 hB1 hro1 A0 SETR HOUT
  have hro:Qa wc B (.slice (some ⟨gr,0,none⟩) h.rs.length h.rcap) (h.rs.set e.to.toNat z):=by
   have:=hO.q.ro;simp only[hgr,Qh0]at this;exact this
  have hcs:(fun(W':World)=>(W'.cell? ⟨w.heap.size,0,none⟩=some (.slice (some ⟨bb,off,none⟩) h.os.length h.ocap)∧W'.cell? ⟨w.heap.size,1,none⟩=some (.slice (some ⟨gr,0,none⟩) h.rs.length h.rcap)∧W'.cell? ⟨w.heap.size,2,none⟩=some (.slice h.wa h.ws.length h.wcap)∧W'.cell? ⟨w.heap.size,3,none⟩=some (.slice da ds.length dcap))∧W'.cell? ⟨w.heap.size+1,1,none⟩=some (.int .i64 e.to)∧W'.cell? ⟨gr,e.to.toNat,none⟩=some (.int .i64 z)) wc:=by
   have x:=Qb hO.bh;rw[eo,hgr]at x;have q5:=hro.at (k:=e.to.toNat) (by simpa using htl);rw[List.getElem_set_self]at q5;exact⟨x,hO.bv.cell 1,q5⟩
  obtain⟨⟨x0,x1,x2,x3⟩,y1,q5⟩:=hcs;have c5:=VE {h with rs:=h.rs.set e.to.toNat z,da:=da,dcap:=dcap,ds:=ds} z wc.drew (hO.q.isIn.so.below ((Below.refl _ _).drew) (QhU _)) (fun i hi=>by have:=(hO.ok.kind i hi).1;omega) hO.zb;simp only[Hp.v,Qh0,hgr,eo]at c5
  have HB5:Hid (∀w6,Below wc.drew.heap.size wc.drew w6→(fun(W':World)=>(W'.cell? ⟨w.heap.size,0,none⟩=some (.slice (some ⟨bb,off,none⟩) h.os.length h.ocap)∧W'.cell? ⟨w.heap.size,1,none⟩=some (.slice (some ⟨gr,0,none⟩) h.rs.length h.rcap)∧W'.cell? ⟨w.heap.size,2,none⟩=some (.slice h.wa h.ws.length h.wcap)∧W'.cell? ⟨w.heap.size,3,none⟩=some (.slice da ds.length dcap))∧W'.cell? ⟨w.heap.size+1,1,none⟩=some (.int .i64 e.to)∧W'.cell? ⟨gr,e.to.toNat,none⟩=some (.int .i64 z)) w6∧Blk w6 (w.heap.size+1+1) [QhR none 0 0,QhR none 0 0,QhR none 0 0,QhR none 0 0] 27∧Md B T w w6∧Qk w6 B {h with rs:=h.rs.set e.to.toNat z,da:=da,dcap:=dcap,ds:=ds}):=fun w6 hb6=>by
   have hb6':Below wc.heap.size wc w6:=((Below.refl _ _).drew).trans hb6;have bh6:=hO.bh.step hb6';have bv6:=hO.bv.step hb6';have qq6:=(hro.below hb6' (QhU _)).at (k:=e.to.toNat) (by simpa using htl);rw[List.getElem_set_self]at qq6;have x:=Qb bh6;rw[eo,hgr]at x;exact⟨⟨x,bv6.cell 1,qq6⟩,hO.br.step hb6',hO.be.step hb6' hB,hO.q.below hb6' (QhU _)⟩
  have HS7:Hid (∀w6:World,(fun(W':World)=>(W'.cell? ⟨w.heap.size,0,none⟩=some (.slice (some ⟨bb,off,none⟩) h.os.length h.ocap)∧W'.cell? ⟨w.heap.size,1,none⟩=some (.slice (some ⟨gr,0,none⟩) h.rs.length h.rcap)∧W'.cell? ⟨w.heap.size,2,none⟩=some (.slice h.wa h.ws.length h.wcap)∧W'.cell? ⟨w.heap.size,3,none⟩=some (.slice da ds.length dcap))∧W'.cell? ⟨w.heap.size+1,1,none⟩=some (.int .i64 e.to)∧W'.cell? ⟨gr,e.to.toNat,none⟩=some (.int .i64 z)) w6→(fun(W':World)=>(W'.cell? ⟨w.heap.size,0,none⟩=some (.slice (some ⟨bb,off,none⟩) h.os.length h.ocap)∧W'.cell? ⟨w.heap.size,1,none⟩=some (.slice (some ⟨gr,0,none⟩) h.rs.length h.rcap)∧W'.cell? ⟨w.heap.size,2,none⟩=some (.slice h.wa h.ws.length h.wcap)∧W'.cell? ⟨w.heap.size,3,none⟩=some (.slice da ds.length dcap))∧W'.cell? ⟨w.heap.size+1,1,none⟩=some (.int .i64 e.to)∧W'.cell? ⟨gr,e.to.toNat,none⟩=some (.int .i64 z)) ((((w6.setCell ⟨w.heap.size+1+1,0,none⟩ (.slice (some ⟨bb,off,none⟩) h.os.length h.ocap)).setCell ⟨w.heap.size+1+1,1,none⟩ (.slice (some ⟨gr,0,none⟩) h.rs.length h.rcap)).setCell ⟨w.heap.size+1+1,2,none⟩ (.slice h.wa h.ws.length h.wcap)).setCell ⟨w.heap.size+1+1,3,none⟩ (.slice da ds.length dcap))):=fun w6 hs=>by
   have sc:∀(p:Addr) (u:Value),p.block≠w.heap.size+1+1→w6.cell? p=some u→((((w6.setCell ⟨w.heap.size+1+1,0,none⟩ (.slice (some ⟨bb,off,none⟩) h.os.length h.ocap)).setCell ⟨w.heap.size+1+1,1,none⟩ (.slice (some ⟨gr,0,none⟩) h.rs.length h.rcap)).setCell ⟨w.heap.size+1+1,2,none⟩ (.slice h.wa h.ws.length h.wcap)).setCell ⟨w.heap.size+1+1,3,none⟩ (.slice da ds.length dcap)).cell? p=some u:=fun p u hp hc=>by
    rw[QhY (Below.heap_setCell _ _ _ _ hp),QhY (Below.heap_setCell _ _ _ _ hp),QhY (Below.heap_setCell _ _ _ _ hp),QhY (Below.heap_setCell _ _ _ _ hp)];exact hc
   have p1:w.heap.size≠w.heap.size+1+1:=by omega
   have p2:w.heap.size+1≠w.heap.size+1+1:=by omega
   have p3:gr≠w.heap.size+1+1:=by omega
   exact⟨⟨sc _ _ p1 hs.1.1,sc _ _ p1 hs.1.2.1,sc _ _ p1 hs.1.2.2.1,sc _ _ p1 hs.1.2.2.2⟩,sc _ _ p2 hs.2.1,sc _ _ p3 hs.2.2⟩
  have cE:=hO.ok;clear hO hro;go_wp2_with fail;go_region_held3 (fun(W':World)=>(W'.cell? ⟨w.heap.size,0,none⟩=some (.slice (some ⟨bb,off,none⟩) h.os.length h.ocap)∧W'.cell? ⟨w.heap.size,1,none⟩=some (.slice (some ⟨gr,0,none⟩) h.rs.length h.rcap)∧W'.cell? ⟨w.heap.size,2,none⟩=some (.slice h.wa h.ws.length h.wcap)∧W'.cell? ⟨w.heap.size,3,none⟩=some (.slice da ds.length dcap))∧W'.cell? ⟨w.heap.size+1,1,none⟩=some (.int .i64 e.to)∧W'.cell? ⟨gr,e.to.toNat,none⟩=some (.int .i64 z)) (first|(refine⟨⟨?_,?_,?_,?_⟩,?_,?_⟩<;>with_reducible assumption)|go_keep)
   (first
     |(go_at_call 123;refine c5.mono ?_;rintro en w6 ⟨sx,rfl,hb6⟩;obtain⟨⟨⟨m0,m1,m2,m3⟩,m4,m5⟩,br6,hB6,hq6⟩:=HB5.out w6 hb6;obtain⟨u0,u1,u2,u3⟩:=Qb br6;obtain⟨v0,v1,v2,v3⟩:=Qo br6;obtain⟨⟨d0,d1,d2,d3⟩,d4,d5⟩:=HS7.out w6 ⟨⟨m0,m1,m2,m3⟩,m4,m5⟩))
  all_goals
   obtain⟨hqE,hbE,z0,z1,z2,z3⟩:=Jx br6 hq6 hB6 (by omega) (by omega) (.slice (some ⟨bb,off,none⟩) h.os.length h.ocap) (.slice (some ⟨gr,0,none⟩) h.rs.length h.rcap) (.slice h.wa h.ws.length h.wcap) (.slice da ds.length dcap) (by simp[eo]) (by simp[hgr]) rfl rfl;clear br6 hq6 hB6 HB5 HS7 c5;go_wp2;refine bodyPost_ret (v:=.tuple #[Hp.v {h with rs:=h.rs.set e.to.toNat z,da:=da,dcap:=dcap,ds:=ds},.string sx]) ?_ rfl ⟨_,_,rfl,cE,hqE,hbE⟩;simp[results,Tryz.results126,go_sem,z0,z1,z2,z3,Hp.v,hgr,eo]
def Ql (ws:List (Int×Int))(X:List Int):List (Int×Int):=ws.filter fun p=>decide (0≤pos X p.1)&&decide (pos X p.2<0)
theorem Qhq (ws:List (Int×Int))(X:List Int)(k:Nat)(hk:k<ws.length):Ql (ws.take (k+1)) X=if decide (0≤pos X ws[k].1)=true∧decide (pos X ws[k].2<0)=true then Ql (ws.take k) X++ [ws[k]]else Ql (ws.take k) X:=by
 unfold Ql;rw[List.take_succ_eq_append_getElem hk,List.filter_append];by_cases h:decide (0≤pos X ws[k].1)=true∧decide (pos X ws[k].2<0)=true
 ·rw[if_pos h];simp only[List.filter_cons,h.1,h.2,Bool.and_self,if_true,List.filter_nil]
 ·rw[if_neg h]
  have:(decide (0≤pos X ws[k].1)&&decide (pos X ws[k].2<0))=false:=by
   rw[Bool.eq_false_iff];intro e;rw[Bool.and_eq_true]at e;exact h e
  simp[this]
theorem Qhp (ws:List (Int×Int))(X:List Int)(k:Nat):(Ql (ws.take k) X).length≤k:=Nat.le_trans (List.length_filter_le _ _) (List.length_take_le _ _)
theorem QeQ (h:Hp)(xa:Option Addr)(xcap:Nat)(X:List Int)(w:World)(hw:Qz w h.wa h.ws)(hwl:h.ws.length≤1048576)(hx:Qi w xa X)(hxl:X.length≤maxLen):
 Calls Cut.prog 83 #[h.v,.slice xa X.length xcap] w fun e w'=>∃v',e=.returned v'∧Qe w' w.heap.size v' (Ql h.ws X)∧Below w.heap.size w w':=by
 obtain⟨i0,hi,hz0,hz1,hz2⟩:=info_parts Jr;have hB0:Below w.heap.size w (w.alloc (QhT #[QhR h.oa h.os.length h.ocap,QhR h.ra h.rs.length h.rcap,QhR h.wa h.ws.length h.wcap,QhR h.da h.ds.length h.dcap] 27)):=(Below.refl _ _).alloc (QhU _) _;have hK0:=Blk.new w [QhR h.oa h.os.length h.ocap,QhR h.ra h.rs.length h.rcap,QhR h.wa h.ws.length h.wcap,QhR h.da h.ds.length h.dcap] 27;have hA0:Below (w.alloc (QhT #[QhR h.oa h.os.length h.ocap,QhR h.ra h.rs.length h.rcap,QhR h.wa h.ws.length h.wcap,QhR h.da h.ds.length h.dcap] 27)).heap.size (w.alloc (QhT #[QhR h.oa h.os.length h.ocap,QhR h.ra h.rs.length h.rcap,QhR h.wa h.ws.length h.wcap,QhR h.da h.ds.length h.dcap] 27)) ((w.alloc (QhT #[QhR h.oa h.os.length h.ocap,QhR h.ra h.rs.length h.rcap,QhR h.wa h.ws.length h.wcap,QhR h.da h.ds.length h.dcap] 27)).alloc (QhT #[] 40)):=QC _ _;have hO0:=World.ownsRow_lit (e:=40) (size:=2) (base:=w.heap.size) (w.alloc (QhT #[QhR h.oa h.os.length h.ocap,QhR h.ra h.rs.length h.rcap,QhR h.wa h.ws.length h.wcap,QhR h.da h.ds.length h.dcap] 27)) #[] 0 hB0.size (QhZ _) rfl;have hB1:=hB0.trans (hA0.mono hB0.size);have hK1:=hK0.step hA0;simp only[World.size_alloc]at hO0;obtain⟨WA,hWA⟩:∃WA,h.wa=WA:=⟨_,rfl⟩;have HWA:Hid (h.wa=WA):=hWA;clear hB0 hK0 hA0;go_enter (Cut.func_of Tryz.func83 rfl),Tryz.ntmps83;simp only[Hp.v];rw[hWA]at hB1 hK1 hO0 hw⊢;clear hWA;go_wp2;go_loopw [5,6,7] (fun v i _ wr=>∃k:Nat,k≤h.ws.length∧i=.int .i64 k∧Qe wr w.heap.size v (Ql (h.ws.take k) X)∧Blk wr w.heap.size [QhR h.oa h.os.length h.ocap,QhR h.ra h.rs.length h.rcap,QhR WA h.ws.length h.wcap,QhR h.da h.ds.length h.dcap] 27∧Below w.heap.size w wr) (fun _ i _ _=>h.ws.length-(intOf i).toNat)
 case atStart=>exact⟨0,QhZ _,rfl,hO0,hK1,hB1⟩
 case round=>
  obtain⟨k,hk,rfl,hown,hK,hb⟩:=hrel;clear hO0 hB1 hK1;obtain⟨x0,x1,x2,x3⟩:wr.cell? ⟨w.heap.size,0,none⟩=_∧wr.cell? ⟨w.heap.size,1,none⟩=_∧wr.cell? ⟨w.heap.size,2,none⟩=some (.slice WA h.ws.length h.wcap)∧wr.cell? ⟨w.heap.size,3,none⟩=_:=Qb hK;by_cases hlt:k<h.ws.length
  ·obtain⟨b,off,rfl,hbw,e1,e2⟩:=hw.get hlt;have d1:=(hb.cell (p:=⟨b,off+k*2,none⟩) hbw).trans e1;have d2:=(hb.cell (p:=⟨b,off+k*2+1,none⟩) hbw).trans e2;have HF:=Qhq h.ws X k hlt;have hfl:=Qhp h.ws X k;have hi1:(k:Int)<(h.ws.length:Int):=by omega
   have hA:Below wr.heap.size wr (wr.alloc (QhT #[QhS .i64 h.ws[k].1,QhS .i64 h.ws[k].2] 40)):=QC _ _;have hbA:=hb.trans (hA.mono hb.size);have sx:=hx.below hbA (QhU _);have hKA:=hK.step hA;have hownA:=Qe.below hown hA (QhU _);have y0:(wr.alloc (QhT #[QhS .i64 h.ws[k].1,QhS .i64 h.ws[k].2] 40)).cell? ⟨wr.heap.size,0,none⟩=some (.int .i64 h.ws[k].1):=(Blk.new wr [QhS .i64 h.ws[k].1,QhS .i64 h.ws[k].2] 40).cell 0;have y1:(wr.alloc (QhT #[QhS .i64 h.ws[k].1,QhS .i64 h.ws[k].2] 40)).cell? ⟨wr.heap.size,1,none⟩=some (.int .i64 h.ws[k].2):=(Blk.new wr [QhS .i64 h.ws[k].1,QhS .i64 h.ws[k].2] 40).cell 1;obtain⟨va,vcap,rfl,-⟩:=hown.form;generalize hP:h.ws[k]=p at *;clear hP;obtain⟨g1,g2⟩:=p;dsimp only at *;have HW1:∃W1,W1=wr.alloc (QhT #[QhS .i64 g1,QhS .i64 g2] 40):=⟨_,rfl⟩;obtain⟨W1,hW1⟩:=HW1;clear hown hK hA e1 e2;go_wp2_with fail;rw[←hW1]at hbA sx hKA hownA y0 y1⊢;clear hW1;refine(JZ xa _ xcap X g1 _ rfl hxl sx).mono ?_;rintro e w1 ⟨rfl,rfl⟩;by_cases hm1:decide (0≤pos X g1)=true
   ·go_wp2_with fail;refine(JZ xa _ xcap X g2 _ rfl hxl sx).mono ?_;rintro e w2 ⟨rfl,rfl⟩;by_cases hm2:decide (pos X g2<0)=true
    ·rw[if_pos ⟨hm1,hm2⟩]at HF;have HF':Hid (Ql (h.ws.take (k+1)) X=Ql (h.ws.take k) X++ [(g1,g2)]):=HF;clear HF;generalize hL:Ql (h.ws.take k) X=L at *;have HL:Hid (Ql (h.ws.take k) X=L):=hL;clear hL;have hA2:Below w2.heap.size w2 (w2.alloc (QhT #[QhS .i64 g1,QhS .i64 g2] 40)):=QC _ _;have hvA:(w2.alloc (QhT #[QhS .i64 g1,QhS .i64 g2] 40)).ownsRow w.heap.size 40 2 (.slice va L.length vcap) L.length (L.flatMap wc):=hownA.below hA2 (QhU _);have hKA2:=hKA.step hA2;have hbA2:=hbA.trans (hA2.mono hbA.size)
     have HEND:Hid (∀v' w3,w3.ownsRow w.heap.size 40 2 v' (L.length+1) (L.flatMap wc++ [.int .i64 g1,.int .i64 g2])→(w2.alloc (QhT #[QhS .i64 g1,QhS .i64 g2] 40)).grownBy w3 (QhR va L.length vcap).ownBlock→Qe w3 w.heap.size v' (Ql (h.ws.take (k+1)) X)∧Blk w3 w.heap.size _ 27∧Below w.heap.size w w3):=fun v' w3 ho hg=>by
      refine⟨?_,hKA2.grown hg (Qs hvA hKA2 (by decide)),hbA2.trans (QJ hg hbA2.size (fun q e=>(hvA.lt q e).1))⟩;rw[HF'.out];unfold Qe;simpa[wc]using ho
     have hl1:L.length+1≤maxLen:=by unfold maxLen;omega
     have hl2:(L.length+1)*16≤140737488355328:=by omega
     have hbs:=hbA2.size;clear hA2 hKA2 hbA2 hKA hownA sx;go_wp2_with (at_builtin;refine wpList_append_own_at _ rfl _ _ 25 rfl w.heap.size 40 i0 _ 2 16 ((Cut.under_eq 25).trans Tryz.underlying25) hi hz0 hz1 hz2 rfl (by decide) _ _ _ rfl hvA ⟨w2.heap.size,0,none⟩ 1 1 [.int .i64 g1,.int .i64 g2] rfl rfl (Yc (g1,g2) _) (JU [(g1,g2)]) hl1 hl2 hbs ?_);intro v' w3 hown3 hgr _ _;obtain⟨ho3,hK3,hb3⟩:=HEND.out v' w3 hown3 hgr;clear hown3 hgr HEND hvA;go_wp2;go_roundw
     case rel=>exact⟨k+1,by omega,by go_num,ho3,hK3,hb3⟩
     case measure=>simp[intOf];omega
    ·rw[if_neg (fun q=>hm2 q.2)]at HF;have hm2':decide (pos X g2<0)=false:=by simpa using hm2
     have HF':Hid (Qe w2 w.heap.size (QhR va (Ql (h.ws.take k) X).length vcap) (Ql (h.ws.take (k+1)) X)):=by
      show Qe _ _ _ _;rw[HF];exact hownA
     clear HF hm2 hownA;go_wp2;go_roundw
     case rel=>exact⟨k+1,by omega,by go_num,HF'.out,hKA,hbA⟩
     case measure=>simp[intOf];omega
   ·rw[if_neg (fun q=>hm1 q.1)]at HF;have hm1':decide (0≤pos X g1)=false:=by simpa using hm1
    have HF':Hid (Qe w1 w.heap.size (QhR va (Ql (h.ws.take k) X).length vcap) (Ql (h.ws.take (k+1)) X)):=by
     show Qe _ _ _ _;rw[HF];exact hownA
    clear HF hm1 hownA;go_wp2;go_roundw
    case rel=>exact⟨k+1,by omega,by go_num,HF'.out,hKA,hbA⟩
    case measure=>simp[intOf];omega
  ·have ek:h.ws.take k=h.ws:=List.take_of_length_le (by omega);rw[ek]at hown;clear ek;go_wp2;go_ret;exact⟨_,rfl,hown,hb⟩
end
end Go.Proofs.YtcpnkpogebjieaaGreat
