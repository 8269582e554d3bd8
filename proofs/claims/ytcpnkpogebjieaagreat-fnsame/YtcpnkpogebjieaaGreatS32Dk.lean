/- The specification's own events: a guardian that watches. -/
import Derived.Test.YtcpnkpogebjieaaGreatS31Di
open Go.Value renaming slice→QhR,int→QhS,string→QhY
open Go.Obj renaming cells→QhT
open Nat renaming le_refl→QhU,sub_self→QhX
open List renaming getElem_append_left→QhV,getElem_append_right→QhW,getElem_cons_zero→QhZ,map_append→Qh1
open Go.World renaming size_alloc→Qh0
set_option maxHeartbeats 1600000
set_option maxRecDepth 100000
namespace Go.Proofs.YtcpnkpogebjieaaGreat
section
open Go.RowKit
structure Bx3 (w W:World) (h:Hp) (e:Ev):Prop where
 bh:Blk W w.heap.size [QhR h.oa h.os.length h.ocap,QhR h.ra h.rs.length h.rcap,QhR h.wa h.ws.length h.wcap,QhR h.da h.ds.length h.dcap] 27
 bv:Blk W (w.heap.size+1) [QhS .i64 e.k,QhS .i64 e.to,QhS .i64 e.fr,QhS .i64 e.pt,QhS .i64 e.o.k,QhY e.o.t,QhR e.o.ra e.o.r.length e.o.rcap] 75
 br:Blk W (w.heap.size+1+1) [QhR none 0 0,QhR none 0 0,QhR none 0 0,QhR none 0 0] 27
theorem Bx3.step {w W W':World}{h:Hp}{e:Ev}(b:Bx3 w W h e)(hb:Below W.heap.size W W'):Bx3 w W' h e:=⟨b.bh.step hb,b.bv.step hb,b.br.step hb⟩
theorem Bx3.start (w:World)(h:Hp)(e:Ev):Bx3 w (((w.alloc (QhT #[QhR h.oa h.os.length h.ocap,QhR h.ra h.rs.length h.rcap,QhR h.wa h.ws.length h.wcap,QhR h.da h.ds.length h.dcap] 27)).alloc (QhT #[QhS .i64 e.k,QhS .i64 e.to,QhS .i64 e.fr,QhS .i64 e.pt,QhS .i64 e.o.k,QhY e.o.t,QhR e.o.ra e.o.r.length e.o.rcap] 75)).alloc (QhT #[QhR none 0 0,QhR none 0 0,QhR none 0 0,QhR none 0 0] 27)) h e∧Below w.heap.size w (((w.alloc (QhT #[QhR h.oa h.os.length h.ocap,QhR h.ra h.rs.length h.rcap,QhR h.wa h.ws.length h.wcap,QhR h.da h.ds.length h.dcap] 27)).alloc (QhT #[QhS .i64 e.k,QhS .i64 e.to,QhS .i64 e.fr,QhS .i64 e.pt,QhS .i64 e.o.k,QhY e.o.t,QhR e.o.ra e.o.r.length e.o.rcap] 75)).alloc (QhT #[QhR none 0 0,QhR none 0 0,QhR none 0 0,QhR none 0 0] 27)):=by
 refine⟨⟨((Blk.new w _ _).alloc _).alloc _,?_,?_⟩,(((Below.refl _ _).alloc (QhU _) _).alloc (by simp) _).alloc (by simp;omega) _⟩
 ·have:=(Blk.new (w.alloc (QhT #[QhR h.oa h.os.length h.ocap,QhR h.ra h.rs.length h.rcap,QhR h.wa h.ws.length h.wcap,QhR h.da h.ds.length h.dcap] 27)) [QhS .i64 e.k,QhS .i64 e.to,QhS .i64 e.fr,QhS .i64 e.pt,QhS .i64 e.o.k,QhY e.o.t,QhR e.o.ra e.o.r.length e.o.rcap] 75).alloc (QhT #[QhR none 0 0,QhR none 0 0,QhR none 0 0,QhR none 0 0] 27);rw[Qh0]at this;exact this
 ·have:=Blk.new ((w.alloc (QhT #[QhR h.oa h.os.length h.ocap,QhR h.ra h.rs.length h.rcap,QhR h.wa h.ws.length h.wcap,QhR h.da h.ds.length h.dcap] 27)).alloc (QhT #[QhS .i64 e.k,QhS .i64 e.to,QhS .i64 e.fr,QhS .i64 e.pt,QhS .i64 e.o.k,QhY e.o.t,QhR e.o.ra e.o.r.length e.o.rcap] 75)) [QhR none 0 0,QhR none 0 0,QhR none 0 0,QhR none 0 0] 27;rw[Qh0,Qh0]at this;exact this
theorem Bx3.cells {w W:World}{h:Hp}{e:Ev}(b:Bx3 w W h e):
 (W.cell? ⟨w.heap.size,0,none⟩=some (.slice h.oa h.os.length h.ocap)∧W.cell? ⟨w.heap.size,1,none⟩=some (.slice h.ra h.rs.length h.rcap)∧W.cell? ⟨w.heap.size,2,none⟩=some (.slice h.wa h.ws.length h.wcap)∧W.cell? ⟨w.heap.size,3,none⟩=some (.slice h.da h.ds.length h.dcap))∧
 (W.cell? ⟨w.heap.size+1,0,none⟩=some (.int .i64 e.k)∧W.cell? ⟨w.heap.size+1,1,none⟩=some (.int .i64 e.to)∧W.cell? ⟨w.heap.size+1,2,none⟩=some (.int .i64 e.fr)∧W.cell? ⟨w.heap.size+1,3,none⟩=some (.int .i64 e.pt)∧W.cell? ⟨w.heap.size+1,4,none⟩=some (.int .i64 e.o.k)∧W.cell? ⟨w.heap.size+1,5,none⟩=some (.string e.o.t)∧W.cell? ⟨w.heap.size+1,6,none⟩=some (.slice e.o.ra e.o.r.length e.o.rcap))∧
 (W.cell? ⟨w.heap.size+1+1,0,none⟩=some (.slice none 0 0)∧W.cell? ⟨w.heap.size+1+1,1,none⟩=some (.slice none 0 0)∧W.cell? ⟨w.heap.size+1+1,2,none⟩=some (.slice none 0 0)∧W.cell? ⟨w.heap.size+1+1,3,none⟩=some (.slice none 0 0))∧
 (W.frozen? ⟨w.heap.size+1+1,0,none⟩=false∧W.frozen? ⟨w.heap.size+1+1,1,none⟩=false∧W.frozen? ⟨w.heap.size+1+1,2,none⟩=false∧W.frozen? ⟨w.heap.size+1+1,3,none⟩=false):=
 ⟨Qu b.bh,⟨b.bv.cell 0,b.bv.cell 1,b.bv.cell 2,b.bv.cell 3,b.bv.cell 4,b.bv.cell 5,b.bv.cell 6⟩,Qb b.br,Qo b.br⟩
structure Md (B T:Nat) (w W:World):Prop where
 be:Below B w W
 fr:∀k,T≤k→k<w.heap.size→W.heap[k]? =w.heap[k]?
theorem Md.of {B T:Nat}{w W:World}(h:Below w.heap.size w W)(hB:B≤w.heap.size):Md B T w W:=⟨h.mono hB,fun k _ hk=>h.block k hk⟩
theorem Md.step {B T:Nat}{w W W':World}(h:Md B T w W)(hb:Below W.heap.size W W')(hB:B≤w.heap.size):Md B T w W':=
 ⟨h.be.trans (hb.mono (Nat.le_trans hB h.be.size)),fun k h1 h2=>(hb.block k (Nat.lt_of_lt_of_le h2 h.be.size)).trans (h.fr k h1 h2)⟩
theorem Md.grown {B T:Nat}{w W W':World}{r:Option Nat}(h:Md B T w W)(hg:W.grownBy W' r)(hr:∀k,r=some k→B≤k∧(k<T∨w.heap.size≤k))(hB:B≤W.heap.size):Md B T w W':=by
 refine⟨h.be.trans (QJ hg hB (fun k e=>(hr k e).1)),fun k h1 h2=>(hg.block k (Nat.lt_of_lt_of_le h2 h.be.size) (fun e=>?_)).trans (h.fr k h1 h2)⟩;rcases(hr k e.symm).2 with q|q<;>omega
theorem Md.set {B T:Nat}{w W:World}(h:Md B T w W){p:Addr}(hp:B≤p.block)(hq:p.block<T∨w.heap.size≤p.block)(v:Value):Md B T w (W.setCell p v):=by
 refine⟨h.be.setCell hp v,fun k h1 h2=>?_⟩;rw[Below.heap_setCell _ _ _ _ (show k≠p.block by rcases hq with q|q<;>omega)];exact h.fr k h1 h2
structure Ve (h:Hp) (T:Nat):Prop where
 o:∀k,(QhR h.oa h.os.length h.ocap).ownBlock=some k→k<T
 r:∀k,(QhR h.ra h.rs.length h.rcap).ownBlock=some k→k<T
 w:∀k,(QhR h.wa h.ws.length h.wcap).ownBlock=some k→k<T
theorem Jx {w0 W:World}{B T R:Nat}{y:Hp}(hR:Blk W R [QhR none 0 0,QhR none 0 0,QhR none 0 0,QhR none 0 0] 27)(hq:Qk W B y)(hb:Md B T w0 W)(hBR:B≤R)(hRs:w0.heap.size≤R)(v0 v1 v2 v3:Value)(e0:v0=.slice y.oa y.os.length y.ocap)(e1:v1=.slice y.ra y.rs.length y.rcap)(e2:v2=.slice y.wa y.ws.length y.wcap)(e3:v3=.slice y.da y.ds.length y.dcap):
 Qk ((((W.setCell ⟨R,0,none⟩ v0).setCell ⟨R,1,none⟩ v1).setCell ⟨R,2,none⟩ v2).setCell ⟨R,3,none⟩ v3) B y∧Md B T w0 ((((W.setCell ⟨R,0,none⟩ v0).setCell ⟨R,1,none⟩ v1).setCell ⟨R,2,none⟩ v2).setCell ⟨R,3,none⟩ v3)∧
 (((((W.setCell ⟨R,0,none⟩ v0).setCell ⟨R,1,none⟩ v1).setCell ⟨R,2,none⟩ v2).setCell ⟨R,3,none⟩ v3).cell? ⟨R,0,none⟩=some v0∧((((W.setCell ⟨R,0,none⟩ v0).setCell ⟨R,1,none⟩ v1).setCell ⟨R,2,none⟩ v2).setCell ⟨R,3,none⟩ v3).cell? ⟨R,1,none⟩=some v1∧((((W.setCell ⟨R,0,none⟩ v0).setCell ⟨R,1,none⟩ v1).setCell ⟨R,2,none⟩ v2).setCell ⟨R,3,none⟩ v3).cell? ⟨R,2,none⟩=some v2∧((((W.setCell ⟨R,0,none⟩ v0).setCell ⟨R,1,none⟩ v1).setCell ⟨R,2,none⟩ v2).setCell ⟨R,3,none⟩ v3).cell? ⟨R,3,none⟩=some v3):=by
 subst e0 e1 e2 e3;obtain⟨hk,hb'⟩:=QR hR (.slice y.oa y.os.length y.ocap) (.slice y.ra y.rs.length y.rcap) (.slice y.wa y.ws.length y.wcap) (.slice y.da y.ds.length y.dcap);exact⟨hq.keep hk,(((hb.set (p:=⟨R,0,none⟩) hBR (Or.inr hRs) _).set (p:=⟨R,1,none⟩) hBR (Or.inr hRs) _).set (p:=⟨R,2,none⟩) hBR (Or.inr hRs) _).set (p:=⟨R,3,none⟩) hBR (Or.inr hRs) _,Qb hb'⟩
theorem OkC.watch {h:Hp}(c:OkC h){g o:Int}(hg:0≤g)(hg1:g.toNat<h.os.length)(hk:h.os[g.toNat].k=4)(ho:0≤o)(ho1:o<h.os.length)(hl:h.ws.length+h.ds.length<20)(wa:Option Addr)(wcap:Nat):OkC {h with wa:=wa,wcap:=wcap,ws:=h.ws++ [(g,o)]}:=by
 refine⟨c.n60,c.r8,by simp;omega,c.ob,c.ro,fun p hp=>?_,c.dd⟩;rcases List.mem_append.1 hp with hp|hp
 ·exact c.wo p hp
 ·simp at hp;subst hp;simp only[Qn,inB,Bool.and_eq_true,decide_eq_true_eq,List.length_map,List.getElem?_map,List.getElem?_eq_getElem hg1,Option.map_some,Ob.p,hk];exact⟨⟨⟨hg,by omega⟩,ho,by omega⟩,trivial⟩
theorem Qk.growW {W W':World}{B:Nat}{h:Hp}(hq:Qk W B h){a:Option Addr}{cap:Nat}{ws:List (Int×Int)}(hg:W.grownBy W' (QhR h.wa h.ws.length h.wcap).ownBlock)(hown:Qe W' B (.slice a ws.length cap) ws)(hat:(QhR a ws.length cap).ownBlock=(QhR h.wa h.ws.length h.wcap).ownBlock∨(QhR a ws.length cap).ownBlock=some W.heap.size):Qk W' B {h with wa:=a,wcap:=cap,ws:=ws}:=
 ⟨QO hq.ob hq.wa hg (by decide),fun i hi=>QO (hq.rs i hi) hq.wa hg (by decide),hq.rne,QO hq.ro hq.wa hg (by decide),hq.rro,hown,YK hq.da hg hq.wne.symm,(Uh hq.da hq.wne.symm hat).symm⟩
theorem QeX (h:Hp)(e:Ev)(B T:Nat)(w:World)(hq:Qk w B h)(hB:B≤w.heap.size)(c:OkC h)(hT:Ve h T):
 Calls Cut.prog 125 #[h.v,e.v] w fun en w'=>∃(y:Hp) (s:ByteArray),en=.returned (.tuple #[y.v,.string s])∧OkC y∧Qk w' B y∧Md B T w w':=by
 obtain⟨i0,hi,hz0,hz1,hz2⟩:=info_parts Jr;obtain⟨b0,hb0⟩:=Bx3.start w h e;have hr0:=(hq.isIn.sr).below hb0 (QhU _);have c1:=Uw h e.to _ hr0 c.small.r;have hbd1:=U2 c.ro (by omega) e.to;have hbd2:=U2 c.ro (by omega) e.fr;go_enter (Cut.func_of Tryz.func125 rfl),Tryz.ntmps125;simp only[Hp.v,Ev.v,Ev.cs]at c1⊢;go_wp2_with fail;refine c1.mono ?_;rintro en w1 ⟨rfl,hb1⟩;have b1:=b0.step hb1;have hB1:=hb0.trans (hb1.mono hb0.size);have c2:=Uw h e.fr w1 ((hq.isIn.sr).below hB1 (QhU _)) c.small.r;simp only[Hp.v]at c2;obtain⟨⟨x0,x1,x2,x3⟩,⟨y0,y1,y2,y3,y4,y5,y6⟩,⟨r0,r1,r2,r3⟩,f0,f1,f2,f3⟩:=b1.cells;clear c1 b0 hb0 hr0 hb1;go_wp2_with fail;refine c2.mono ?_;rintro en w2 ⟨rfl,hb2⟩;have b2:=b1.step hb2;have hB2:=hB1.trans (hb2.mono hB1.size);clear c2 b1 hB1 hb2 x0 x1 x2 x3 y0 y1 y2 y3 y4 y5 y6 r0 r1 r2 r3 f0 f1 f2 f3;obtain⟨⟨x0,x1,x2,x3⟩,⟨y0,y1,y2,y3,y4,y5,y6⟩,⟨r0,r1,r2,r3⟩,f0,f1,f2,f3⟩:=b2.cells;have hq2:=hq.below hB2 (QhU _);generalize rootP h.rs e.to=G at *;generalize rootP h.rs e.fr=O at *;have hBB:Md B T w w2:=Md.of hB2 hB;obtain⟨hqE,hbE,z0,z1,z2,z3⟩:=Jx b2.br hq2 hBB (by omega) (by omega) _ _ _ _ rfl rfl rfl rfl;by_cases hG:G<0
 ·go_wp2;refine bodyPost_ret (v:=.tuple #[h.v,.string ⟨#[110,111]⟩]) ?_ rfl ⟨h,_,rfl,c,hqE,hbE⟩;simp[results,Tryz.results125,go_sem,z0,z1,z2,z3,Hp.v]
 have hG0:0≤G:=by omega
 have hGd:decide (G<0)=false:=by simpa using hG0
 by_cases hO:O<0
 ·go_wp2;refine bodyPost_ret (v:=.tuple #[h.v,.string ⟨#[110,111]⟩]) ?_ rfl ⟨h,_,rfl,c,hqE,hbE⟩;simp[results,Tryz.results125,go_sem,z0,z1,z2,z3,Hp.v]
 have hO0:0≤O:=by omega
 have hOd:decide (O<0)=false:=by simpa using hO0
 have hGl:G.toNat<h.os.length:=by omega
 have hG1:G<(h.os.length:Int):=hbd1.2;have hO1:O<(h.os.length:Int):=hbd2.2;obtain⟨bb,off,eo,hbb,e1,e2,e3⟩:=hq.isIn.so.get hGl;have d1:=(hB2.cell (p:=⟨bb,off+G.toNat*3,none⟩) hbb).trans e1;clear hG hO e1 e2 e3 hbd1 hbd2;have HEO:Hid (h.oa=some ⟨bb,off,none⟩):=eo;generalize hOA:h.oa=OA at eo x0 hqE hbE z0 z1 z2 z3⊢;clear hOA;subst eo;by_cases hk:h.os[G.toNat].k=4
 ·have HK:Hid (h.os[G.toNat].k=4):=hk;rw[hk]at d1;clear hk;have hkd:((4:Int)!=4)=false:=rfl;have hw20:=c.w20;by_cases hfull:20≤h.ws.length+h.ds.length
  ·have hf:(20:Int)≤(h.ws.length:Int)+(h.ds.length:Int):=by omega
   go_wp2;refine bodyPost_ret (v:=.tuple #[h.v,.string ⟨#[102,117,108,108]⟩]) ?_ rfl ⟨h,_,rfl,c,hqE,hbE⟩;simp[results,Tryz.results125,go_sem,z0,z1,z2,z3,Hp.v,HEO.out]
  ·have hf:¬(20:Int)≤(h.ws.length:Int)+(h.ds.length:Int):=by omega
   have hfd:decide ((20:Int)≤(h.ws.length:Int)+(h.ds.length:Int))=false:=by simpa using hf
   have hA:Below w2.heap.size w2 (w2.alloc (QhT #[QhS .i64 G,QhS .i64 O] 40)):=(Below.refl _ _).alloc (QhU _) _;have hqA:=hq2.below hA (QhU _);have bA:=b2.step hA;have hBA:=hBB.step hA hB;have hvA:(w2.alloc (QhT #[QhS .i64 G,QhS .i64 O] 40)).ownsRow B 40 2 (.slice h.wa h.ws.length h.wcap) h.ws.length (h.ws.flatMap wc):=hqA.wa;have hsA:B≤(w2.alloc (QhT #[QhS .i64 G,QhS .i64 O] 40)).heap.size:=Nat.le_trans (Nat.le_trans hB hB2.size) hA.size
   have HEND:Hid (∀v' w3,w3.ownsRow B 40 2 v' (h.ws.length+1) (h.ws.flatMap wc++ [.int .i64 G,.int .i64 O])→(w2.alloc (QhT #[QhS .i64 G,QhS .i64 O] 40)).grownBy w3 (QhR h.wa h.ws.length h.wcap).ownBlock→(v'.ownBlock=(QhR h.wa h.ws.length h.wcap).ownBlock∨v'.ownBlock=some (w2.heap.size+1))→
    ∃a cap,v'=.slice a (h.ws.length+1) cap∧Bx3 w w3 h e∧Md B T w w3∧Qk w3 B {h with wa:=a,wcap:=cap,ws:=h.ws++ [(G,O)]}∧OkC {h with wa:=a,wcap:=cap,ws:=h.ws++ [(G,O)]}):=fun v' w3 hown hgr hat=>by
    have ho:Qe w3 B v' (h.ws++ [(G,O)]):=by unfold Qe;simpa[wc]using hown
    obtain⟨a,cap,ev,-⟩:=ho.form;have ev':v'=.slice a (h.ws.length+1) cap:=by simpa using ev
    subst ev;refine⟨a,cap,ev',⟨bA.bh.grown hgr (Qs hvA bA.bh (by decide)),bA.bv.grown hgr (Qs hvA bA.bv (by decide)),bA.br.grown hgr (Qs hvA bA.br (by decide))⟩,hBA.grown hgr (fun k q=>⟨(hvA.lt k q).1,Or.inl (hT.w k q)⟩) hsA,hqA.growW hgr ho (by rw[Qh0];exact hat),c.watch hG0 hGl HK.out hO0 hO1 (by omega) a cap⟩
   have hl1:h.ws.length+1≤maxLen:=by unfold maxLen;omega
   have hl2:(h.ws.length+1)*16≤140737488355328:=by omega
   clear hA hqA bA hBA hf hfull;go_wp2_with (at_builtin;refine wpList_append_own_at _ rfl _ _ 25 rfl B 40 i0 _ 2 16 ((Cut.under_eq 25).trans Tryz.underlying25) hi hz0 hz1 hz2 rfl (by decide) _ _ _ rfl hvA ⟨w2.heap.size,0,none⟩ 1 1 [.int .i64 G,.int .i64 O] rfl rfl (Yc (G,O) _) (JU [(G,O)]) hl1 hl2 hsA ?_);intro v' w3 hown hgr _ hat;obtain⟨a,cap,rfl,b3,hB3,hq3,c3⟩:=HEND.out v' w3 hown hgr hat;clear hown hgr hat HEND hvA x0 x1 x2 x3 y0 y1 y2 y3 y4 y5 y6 r0 r1 r2 r3 f0 f1 f2 f3 hqE hbE z0 z1 z2 z3;obtain⟨⟨x0,x1,x2,x3⟩,⟨y0,y1,y2,y3,y4,y5,y6⟩,⟨r0,r1,r2,r3⟩,f0,f1,f2,f3⟩:=b3.cells;have f5:=b3.bh.free 2;have k4:Qf 27 w3 (w3.setCell ⟨w.heap.size,2,none⟩ (.slice a (h.ws.length+1) cap)):=Qf.set b3.bh 2 _;have br4:=b3.br.other ⟨w.heap.size,2,none⟩ (.slice a (h.ws.length+1) cap) (by dsimp only;omega);have hB4:=hB3.set (p:=⟨w.heap.size,2,none⟩) hB (Or.inr (QhU _)) (.slice a (h.ws.length+1) cap);obtain⟨hqE,hbE,z0,z1,z2,z3⟩:=Jx br4 (hq3.keep k4) hB4 (by omega) (by omega) (.slice h.oa h.os.length h.ocap) (.slice h.ra h.rs.length h.rcap) (.slice a (h.ws.length+1) cap) (.slice h.da h.ds.length h.dcap) rfl rfl (by simp) rfl;rw[HEO.out]at hqE hbE z0 z1 z2 z3 x0 c3;clear b3 hB3 hq3 k4 br4 hB4 b2;go_wp2;refine bodyPost_ret (v:=.tuple #[Hp.v {h with oa:=some ⟨bb,off,none⟩,wa:=a,wcap:=cap,ws:=h.ws++ [(G,O)]},.string ⟨#[111,107]⟩]) ?_ rfl ⟨_,_,rfl,c3,hqE,hbE⟩;simp[results,Tryz.results125,go_sem,z0,z1,z2,z3,Hp.v]
 ·have hkd:(h.os[G.toNat].k !=4)=true:=by simpa using hk
  clear hk;go_wp2;refine bodyPost_ret (v:=.tuple #[h.v,.string ⟨#[110,111]⟩]) ?_ rfl ⟨h,_,rfl,c,hqE,hbE⟩;simp[results,Tryz.results125,go_sem,z0,z1,z2,z3,Hp.v,HEO.out]
theorem Qa.set {w:World}{base g n c:Nat}{zs:List Int}(h:Qa w base (.slice (some ⟨g,0,none⟩) n c) zs)(hn:n=zs.length){k:Nat}(z:Int):Qa (w.setCell ⟨g,k,none⟩ (.int .i64 z)) base (.slice (some ⟨g,0,none⟩) n c) (zs.set k z):=by
 subst hn;unfold Qa at *;rcases h.2 with⟨h1,_⟩|⟨g',cap,cur,h1,hg,hh,hl,hm,hs,ht⟩
 ·simp at h1
 ·simp only[Value.slice.injEq,Option.some.injEq,Addr.mk.injEq,and_true,true_and]at h1;obtain⟨rfl,rfl⟩:=h1;refine⟨by simp,Or.inr ⟨g,c,(cur.toList.set k (.int .i64 z)).toArray,by simp,hg,?_,by simpa using hl,hm,by simpa using hs,?_⟩⟩
  ·have hb:Blk w g cur.toList 3:=by unfold Blk;simpa using hh
   have:=hb.store k (.int .i64 z);unfold Blk at this;exact this
  ·rw[List.toList_toArray,List.take_set,List.map_set];simp only[List.length_set]at ht⊢;rw[ht]
theorem Qa.free {w:World}{base g n c:Nat}{zs:List Int}(h:Qa w base (.slice (some ⟨g,0,none⟩) n c) zs)(k:Nat):w.frozen? ⟨g,k,none⟩=false:=by
 obtain⟨cur,hh⟩:=ZB h rfl;simp[World.frozen?,hh]
theorem Qa.at {w:World}{base g n c:Nat}{zs:List Int}(h:Qa w base (.slice (some ⟨g,0,none⟩) n c) zs){k:Nat}(hk:k<zs.length):w.cell? ⟨g,k,none⟩=some (.int .i64 zs[k]):=by
 obtain⟨a,cap,e,hs,_⟩:=h.form;simp only[Value.slice.injEq]at e;obtain⟨rfl,_⟩:=e;obtain⟨b,off,e1,_,e2⟩:=hs.get hk;simp only[Option.some.injEq,Addr.mk.injEq,and_true]at e1;obtain⟨rfl,rfl⟩:=e1;simpa using e2
theorem Qa.ptr {w:World}{base n c:Nat}{a:Option Addr}{zs:List Int}(h:Qa w base (.slice a n c) zs)(hn:0<zs.length):∃g,a=some ⟨g,0,none⟩:=by
 rcases h.2 with⟨h1,h2⟩|⟨g,cap,cur,h1,_⟩
 ·omega
 ·simp only[Value.slice.injEq]at h1;exact⟨g,h1.1⟩
def Jn (f:Int→Int)(r:List Int)(k:Nat):List Int:=(r.take k).map f++r.drop k
theorem UW (f:Int→Int)(r:List Int)(k:Nat)(hk:k≤r.length):(Jn f r k).length=r.length:=by simp[Jn];omega
theorem Qar (f:Int→Int)(r:List Int):Jn f r 0=r:=by simp[Jn]
theorem Pe (f:Int→Int)(r:List Int):Jn f r r.length=r.map f:=by simp[Jn]
theorem Pf (f:Int→Int)(r:List Int)(k:Nat)(hk:k<r.length)(h:k<(Jn f r k).length):(Jn f r k)[k]=r[k]:=by
 simp only[Jn];rw[QhW (by simp;omega)];simp[Nat.min_eq_left (Nat.le_of_lt hk)]
theorem Pg (f:Int→Int)(r:List Int)(k:Nat)(hk:k<r.length):(Jn f r k).set k (f r[k])=Jn f r (k+1):=by
 simp only[Jn];have h1:((r.take k).map f).length=k:=by simp;omega
 rw[List.set_append,if_neg (by omega),h1,QhX,List.drop_eq_getElem_cons hk,List.set_cons_zero,List.take_succ_eq_append_getElem hk,Qh1,List.append_assoc];rfl
theorem Qge {n m:Int}(h:n≤m){r:List Int}(hr:Q2 n r=true):Q2 m r=true:=by
 unfold Q2 at *;rw[List.all_eq_true]at *;intro z hz;have:=hr z hz;simp[inB]at *;omega
theorem Qau {n m:Int}(h:n≤m){o:Int×ByteArray×List Int}(ho:Qt n o=true):Qt m o=true:=by
 simp only[Qt,Bool.and_eq_true]at *;exact⟨Qge h ho.1,ho.2⟩
theorem QbG {os:List (Int×ByteArray×List Int)}{o:Int×ByteArray×List Int}{p:Int×Int}(h:Qn os p=true):Qn (os++ [o]) p=true:=by
 simp only[Qn,inB,Bool.and_eq_true,decide_eq_true_eq,List.length_append,List.length_cons,List.length_nil]at *;obtain⟨⟨⟨h1,h2⟩,h3,h4⟩,h5⟩:=h;have hl:p.1.toNat<os.length:=by omega
 refine⟨⟨⟨h1,by omega⟩,h3,by omega⟩,?_⟩;rw[List.getElem?_append_left hl];exact h5
theorem OkC.make {h:Hp}(c:OkC h){o:Ob}(ho:Qt h.os.length o.p=true)(hn:h.os.length<60)(t:Nat)(oa:Option Addr)(ocap:Nat):OkC {h with oa:=oa,ocap:=ocap,os:=h.os++ [o],rs:=h.rs.set t (h.os.length:Int)}:=by
 have hm:((h.os.length:Nat):Int)≤((h.os++ [o]).length:Int):=by simp;omega
 refine⟨by simp;omega,by simpa using c.r8,c.w20,fun i hi=>?_,fun z hz=>?_,fun p hp=>?_,fun p hp=>?_⟩
 ·simp only at hi⊢;by_cases hl:i<h.os.length
  ·rw[QhV hl];exact Qau hm (c.ob i hl)
  ·have e:i=h.os.length:=by simp at hi;omega
   subst e;simp only[QhW (QhU _),QhX,QhZ];exact Qau hm ho
 ·simp only[List.length_append,List.length_cons,List.length_nil]at hz⊢;rcases List.mem_or_eq_of_mem_set hz with hz|hz
  ·have:=c.ro z hz;omega
  ·omega
 ·rw[Qh1];exact QbG (c.wo p hp)
 ·rw[Qh1];exact QbG (c.dd p hp)
theorem Qk.growO {W W':World}{B:Nat}{h:Hp}(hq:Qk W B h){a:Option Addr}{cap:Nat}{o:Ob}(hg:W.grownBy W' (QhR h.oa h.os.length h.ocap).ownBlock)(hown:Qw W' B (.slice a (h.os++ [o]).length cap) (h.os++ [o]))(ho:Qa W B o.rv o.r)(hap:∀i (hi:i<h.os.length),ZM h.os[i].rv o.rv)(hro:ZM o.rv (.slice h.ra h.rs.length h.rcap)):Qk W' B {h with oa:=a,ocap:=cap,os:=h.os++ [o]}:=by
 have ho':Qa W' B o.rv o.r:=QO ho hq.ob hg (by decide);refine⟨hown,fun i hi=>?_,fun i j hi hj hij=>?_,QO hq.ro hq.ob hg (by decide),fun i hi=>?_,QO hq.wa hq.ob hg (by decide),QO hq.da hq.ob hg (by decide),hq.wne⟩
 ·simp only at hi⊢;by_cases hl:i<h.os.length
  ·rw[QhV hl];exact QO (hq.rs i hl) hq.ob hg (by decide)
  ·have e:i=h.os.length:=by simp at hi;omega
   subst e;simp only[QhW (QhU _),QhX,QhZ];exact ho'
 ·simp only at hi hj⊢;by_cases hl:i<h.os.length
  ·by_cases hl2:j<h.os.length
   ·rw[QhV hl,QhV hl2];exact hq.rne i j hl hl2 hij
   ·have e:j=h.os.length:=by simp at hj;omega
    subst e;rw[QhV hl];simp only[QhW (QhU _),QhX,QhZ];exact hap i hl
  ·have e:i=h.os.length:=by simp at hi;omega
   subst e;have hl2:j<h.os.length:=by simp at hj;omega
   rw[QhV hl2];simp only[QhW (QhU _),QhX,QhZ];exact(hap j hl2).symm
 ·simp only at hi⊢;by_cases hl:i<h.os.length
  ·rw[QhV hl];exact hq.rro i hl
  ·have e:i=h.os.length:=by simp at hi;omega
   subst e;simp only[QhW (QhU _),QhX,QhZ];exact hro
theorem Kl {W:World}{base e size n:Nat}{u v:Value}{xs:List Value}{m:Nat}(h:W.ownsRow base e size u n xs)(hm:W.heap.size≤m)(hv:∀k,v.ownBlock=some k→m≤k):ZM u v:=fun k hk e=>by
 have:=(h.lt k hk).2;have:=hv k e;omega
theorem Qk.setRoot {w:World}{B:Nat}{h:Hp}(hq:Qk w B h){g:Nat}(hg:h.ra=some ⟨g,0,none⟩)(k:Nat)(z:Int):Qk (w.setCell ⟨g,k,none⟩ (.int .i64 z)) B {h with rs:=h.rs.set k z}:=by
 have hro:=hq.ro;rw[hg]at hro
 have hne:∀ {base e size n:Nat} {v:Value} {xs:List Value},w.ownsRow base e size v n xs→e≠3→v.ownBlock≠some g:=fun hr he e1=>by
  obtain⟨c1,q1⟩:=ZB hr e1;obtain⟨c2,q2⟩:=ZB hro rfl;rw[q1]at q2;simp at q2;exact he q2.2
 refine⟨ownsRow_setCell_other hq.ob (hne hq.ob (by decide)) _,fun i hi=>ownsRow_setCell_other (hq.rs i hi) (fun e=>?_) _,hq.rne,?_,?_,ownsRow_setCell_other hq.wa (hne hq.wa (by decide)) _,ownsRow_setCell_other hq.da (hne hq.da (by decide)) _,hq.wne⟩
 ·exact hq.rro i hi g e (by rw[hg];rfl)
 ·have:=hro.set rfl (k:=k) z;simp only[hg,List.length_set];exact this
 ·intro i hi;have:=hq.rro i hi;simpa using this
end
end Go.Proofs.YtcpnkpogebjieaaGreat
