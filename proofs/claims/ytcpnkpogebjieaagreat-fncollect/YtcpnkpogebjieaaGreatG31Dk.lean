/- The specification's own events: what an ok heap is, limb by limb; where a part is; what -/
import Derived.Test.YtcpnkpogebjieaaGreatG30Dh
open Go.Value renaming slice→Qhp,int→Qhq,string→Qhx
open Go.Obj renaming cells→Qhr
open Nat renaming le_refl→Qhs,sub_self→Qhv
open List renaming getElem_append_left→Qht,getElem_append_right→Qhu,all_eq_true→Qhw,getElem_cons_zero→Qhy,map_append→QhA
open Go.World renaming size_alloc→Qhz
set_option maxHeartbeats 1600000
set_option maxRecDepth 100000
namespace Go.Proofs.YtcpnkpogebjieaaGreat
section
open Go.RowKit
structure OkC (h:Hp):Prop where
 n60:h.os.length≤60
 r8:h.rs.length≤8
 w20:h.ws.length+h.ds.length≤20
 ob:∀i (hi:i<h.os.length),Qs h.os.length h.os[i].p=true
 ro:∀z∈h.rs,-1≤z∧z<h.os.length
 wo:∀p∈h.ws,Qp (h.os.map Ob.p) p=true
 dd:∀p∈h.ds,Qp (h.os.map Ob.p) p=true
theorem YN {h:Hp}(hok:okP h.p=true):OkC h:=by
 obtain⟨h1,h2,h3,h4,h5,h6,h7⟩:=JS hok
 exact⟨h1,h2,h3,h4,Yf h5,h6,h7⟩
theorem YA {h:Hp}(c:OkC h):okP h.p=true:=by
 rw[Vt c.n60 c.r8 c.w20]
 simp only[Bool.and_eq_true]
 refine⟨?_,?_,?_,?_⟩
 ·rw[Qhw]
  intro x hx
  obtain⟨i,hi,rfl⟩:=List.getElem_of_mem hx
  exact c.ob i hi
 ·unfold QZ
  rw[Qhw]
  intro z hz
  have:=c.ro z hz
  simp[inB];omega
 ·rw[Qhw];exact c.wo
 ·rw[Qhw];exact c.dd
theorem OkC.kind {h:Hp}(c:OkC h)(i:Nat)(hi:i<h.os.length):h.os[i].r.length≤6∧h.os[i].t.size≤12:=by
 have h1:=c.ob i hi
 simp only[Qs,Ob.p,Bool.and_eq_true]at h1
 have h2:=h1.2
 unfold QS at h2
 split at h2
 ·simp only[Zp,Bool.and_eq_true,decide_eq_true_eq]at h2;omega
 split at h2
 ·simp only[Bool.and_eq_true,decide_eq_true_eq]at h2;omega
 split at h2
 ·simp only[Bool.and_eq_true,decide_eq_true_eq]at h2;omega
 split at h2
 ·simp only[Bool.and_eq_true,decide_eq_true_eq]at h2;omega
 ·simp at h2
theorem OkC.refs {h:Hp}(c:OkC h)(i:Nat)(hi:i<h.os.length):∀z∈h.os[i].r,-1≤z∧z<h.os.length:=by
 have h1:=c.ob i hi
 simp only[Qs,Ob.p,Bool.and_eq_true]at h1
 exact Yf h1.1
theorem OkC.small {h:Hp}(c:OkC h):Zl h:=⟨by have:=c.n60;omega,fun i hi=>by have:=(c.kind i hi).1;omega,by have:=c.r8;omega,by have:=c.w20;omega,by have:=c.w20;omega⟩
theorem OkC.fit {w:World}{h:Hp}(c:OkC h)(hin:Qg w h)(hcap:∀(i:Nat) (hi:i<h.os.length),h.os[i].r.length≤h.os[i].rcap):Fit w h:=
 ⟨hin,c.small,fun i hi=>by have:=(c.kind i hi).2;unfold maxLen;omega,hcap⟩
theorem Ql.cap {w:World}{B:Nat}{h:Hp}(hh:Ql w B h)(i:Nat)(hi:i<h.os.length):h.os[i].r.length≤h.os[i].rcap:=by
 obtain⟨a,cap,e,_,h1,_⟩:=(hh.rs i hi).form
 simp only[Ob.rv,Value.slice.injEq]at e
 omega
theorem OkC.fitQ {w:World}{B:Nat}{h:Hp}(c:OkC h)(hq:Ql w B h):Fit w h:=c.fit hq.isIn hq.cap
structure Ev where
 k:Int
 to:Int
 fr:Int
 pt:Int
 o:Ob
def Ev.cs (e:Ev):List Value:=[.int .i64 e.k,.int .i64 e.to,.int .i64 e.fr,.int .i64 e.pt,.int .i64 e.o.k,.string e.o.t,.slice e.o.ra e.o.r.length e.o.rcap]
def Ev.v (e:Ev):Value:=.agg e.cs.toArray
theorem OJ (h:Hp)(f p:Int)(w:World)(hh:Qg w h)(c:OkC h):
 Calls Cut.prog 122 #[h.v,.int .i64 f,.int .i64 p] w fun e w'=>∃r:Int,e=.returned (.int .i64 r)∧(r<0∨∃hr:r.toNat<h.os.length,0≤r∧r=rootP h.rs f∧0≤p∧p<h.os[r.toNat].r.length)∧Below w.heap.size w w':=by
 have hB0:Below w.heap.size w (w.alloc (Qhr #[Qhp h.oa h.os.length h.ocap,Qhp h.ra h.rs.length h.rcap,Qhp h.wa h.ws.length h.wcap,Qhp h.da h.ds.length h.dcap] 27)):=(Below.refl _ _).alloc (Qhs _) _
 have hK0:=Blk.new w [Qhp h.oa h.os.length h.ocap,Qhp h.ra h.rs.length h.rcap,Qhp h.wa h.ws.length h.wcap,Qhp h.da h.ds.length h.dcap] 27
 have c1:=Ue h f _ (hh.sr.below hB0 (Qhs _)) c.small.r
 have hbd:=UQ c.ro (by omega) f
 go_enter (Cut.func_of Tryz.func122 rfl),Tryz.ntmps122
 simp only[Hp.v]at c1⊢
 go_wp2_with fail
 refine c1.mono ?_
 rintro e w1 ⟨rfl,hb1⟩
 have hB1:=hB0.trans (hb1.mono hB0.size)
 have hK1:=hK0.step hb1
 obtain⟨x0,x1,x2,x3⟩:=QB hK1
 clear c1 hB0 hK0 hb1
 generalize hR:rootP h.rs f=R at *
 have HR:Hid (rootP h.rs f=R):=hR
 clear hR
 by_cases hneg:R<0
 ·go_wp2
  go_ret
  exact⟨_,rfl,Or.inl (by omega),hB1⟩
 ·have h0:0≤R:=by omega
  have hlt:R.toNat<h.os.length:=by omega
  have hR1:R<(h.os.length:Int):=hbd.2
  obtain⟨b,off,eo,hb,e1,e2,e3⟩:=hh.so.get hlt
  have d3:=(hB1.cell (p:=⟨b,off+R.toNat*3+2,none⟩) hb).trans e3
  have hkr:=(c.kind _ hlt).1
  have hdn:decide (R<0)=false:=by simpa using h0
  generalize hOA:h.oa=OA at eo x0⊢
  clear hOA
  subst eo
  clear e1 e2 e3 hneg
  have HX:Hid (h.os[R.toNat].r.length=h.os[R.toNat].r.length):=rfl
  generalize hN:h.os[R.toNat].r.length=N at *
  have HN:Hid (h.os[R.toNat].r.length=N):=hN
  clear hN
  go_wp2_with fail
  refine(Yc _ _ _ _).mono ?_
  rintro e w2 ⟨rfl,rfl⟩
  cases hin:inB p 0 ((N:Int)-1)with
  |false=>
   go_wp2
   go_ret
   exact⟨_,rfl,Or.inl (by omega),hB1⟩
  |true=>
   have HP:Hid (0≤p∧p<(N:Int)):=by
    show _∧_
    simp[inB]at hin
    omega
   go_wp2
   go_ret
   exact⟨_,rfl,Or.inr ⟨hlt,h0,HR.out.symm,HP.out.1,by rw[HN.out];exact HP.out.2⟩,hB1⟩
structure Bx3 (w W:World) (h:Hp) (e:Ev):Prop where
 bh:Blk W w.heap.size [Qhp h.oa h.os.length h.ocap,Qhp h.ra h.rs.length h.rcap,Qhp h.wa h.ws.length h.wcap,Qhp h.da h.ds.length h.dcap] 27
 bv:Blk W (w.heap.size+1) [Qhq .i64 e.k,Qhq .i64 e.to,Qhq .i64 e.fr,Qhq .i64 e.pt,Qhq .i64 e.o.k,Qhx e.o.t,Qhp e.o.ra e.o.r.length e.o.rcap] 75
 br:Blk W (w.heap.size+1+1) [Qhp none 0 0,Qhp none 0 0,Qhp none 0 0,Qhp none 0 0] 27
theorem Bx3.step {w W W':World}{h:Hp}{e:Ev}(b:Bx3 w W h e)(hb:Below W.heap.size W W'):Bx3 w W' h e:=⟨b.bh.step hb,b.bv.step hb,b.br.step hb⟩
theorem Bx3.start (w:World)(h:Hp)(e:Ev):Bx3 w (((w.alloc (Qhr #[Qhp h.oa h.os.length h.ocap,Qhp h.ra h.rs.length h.rcap,Qhp h.wa h.ws.length h.wcap,Qhp h.da h.ds.length h.dcap] 27)).alloc (Qhr #[Qhq .i64 e.k,Qhq .i64 e.to,Qhq .i64 e.fr,Qhq .i64 e.pt,Qhq .i64 e.o.k,Qhx e.o.t,Qhp e.o.ra e.o.r.length e.o.rcap] 75)).alloc (Qhr #[Qhp none 0 0,Qhp none 0 0,Qhp none 0 0,Qhp none 0 0] 27)) h e∧Below w.heap.size w (((w.alloc (Qhr #[Qhp h.oa h.os.length h.ocap,Qhp h.ra h.rs.length h.rcap,Qhp h.wa h.ws.length h.wcap,Qhp h.da h.ds.length h.dcap] 27)).alloc (Qhr #[Qhq .i64 e.k,Qhq .i64 e.to,Qhq .i64 e.fr,Qhq .i64 e.pt,Qhq .i64 e.o.k,Qhx e.o.t,Qhp e.o.ra e.o.r.length e.o.rcap] 75)).alloc (Qhr #[Qhp none 0 0,Qhp none 0 0,Qhp none 0 0,Qhp none 0 0] 27)):=by
 refine⟨⟨((Blk.new w _ _).alloc _).alloc _,?_,?_⟩,(((Below.refl _ _).alloc (Qhs _) _).alloc (by simp) _).alloc (by simp;omega) _⟩
 ·have:=(Blk.new (w.alloc (Qhr #[Qhp h.oa h.os.length h.ocap,Qhp h.ra h.rs.length h.rcap,Qhp h.wa h.ws.length h.wcap,Qhp h.da h.ds.length h.dcap] 27)) [Qhq .i64 e.k,Qhq .i64 e.to,Qhq .i64 e.fr,Qhq .i64 e.pt,Qhq .i64 e.o.k,Qhx e.o.t,Qhp e.o.ra e.o.r.length e.o.rcap] 75).alloc (Qhr #[Qhp none 0 0,Qhp none 0 0,Qhp none 0 0,Qhp none 0 0] 27)
  rw[Qhz]at this
  exact this
 ·have:=Blk.new ((w.alloc (Qhr #[Qhp h.oa h.os.length h.ocap,Qhp h.ra h.rs.length h.rcap,Qhp h.wa h.ws.length h.wcap,Qhp h.da h.ds.length h.dcap] 27)).alloc (Qhr #[Qhq .i64 e.k,Qhq .i64 e.to,Qhq .i64 e.fr,Qhq .i64 e.pt,Qhq .i64 e.o.k,Qhx e.o.t,Qhp e.o.ra e.o.r.length e.o.rcap] 75)) [Qhp none 0 0,Qhp none 0 0,Qhp none 0 0,Qhp none 0 0] 27
  rw[Qhz,Qhz]at this
  exact this
theorem Bx3.cells {w W:World}{h:Hp}{e:Ev}(b:Bx3 w W h e):
 (W.cell? ⟨w.heap.size,0,none⟩=some (.slice h.oa h.os.length h.ocap)∧W.cell? ⟨w.heap.size,1,none⟩=some (.slice h.ra h.rs.length h.rcap)∧W.cell? ⟨w.heap.size,2,none⟩=some (.slice h.wa h.ws.length h.wcap)∧W.cell? ⟨w.heap.size,3,none⟩=some (.slice h.da h.ds.length h.dcap))∧
 (W.cell? ⟨w.heap.size+1,0,none⟩=some (.int .i64 e.k)∧W.cell? ⟨w.heap.size+1,1,none⟩=some (.int .i64 e.to)∧W.cell? ⟨w.heap.size+1,2,none⟩=some (.int .i64 e.fr)∧W.cell? ⟨w.heap.size+1,3,none⟩=some (.int .i64 e.pt)∧W.cell? ⟨w.heap.size+1,4,none⟩=some (.int .i64 e.o.k)∧W.cell? ⟨w.heap.size+1,5,none⟩=some (.string e.o.t)∧W.cell? ⟨w.heap.size+1,6,none⟩=some (.slice e.o.ra e.o.r.length e.o.rcap))∧
 (W.cell? ⟨w.heap.size+1+1,0,none⟩=some (.slice none 0 0)∧W.cell? ⟨w.heap.size+1+1,1,none⟩=some (.slice none 0 0)∧W.cell? ⟨w.heap.size+1+1,2,none⟩=some (.slice none 0 0)∧W.cell? ⟨w.heap.size+1+1,3,none⟩=some (.slice none 0 0))∧
 (W.frozen? ⟨w.heap.size+1+1,0,none⟩=false∧W.frozen? ⟨w.heap.size+1+1,1,none⟩=false∧W.frozen? ⟨w.heap.size+1+1,2,none⟩=false∧W.frozen? ⟨w.heap.size+1+1,3,none⟩=false):=
 ⟨QB b.bh,⟨b.bv.cell 0,b.bv.cell 1,b.bv.cell 2,b.bv.cell 3,b.bv.cell 4,b.bv.cell 5,b.bv.cell 6⟩,Qc b.br,QH b.br⟩
structure Md (B T:Nat) (w W:World):Prop where
 be:Below B w W
 fr:∀k,T≤k→k<w.heap.size→W.heap[k]? =w.heap[k]?
theorem Md.of {B T:Nat}{w W:World}(h:Below w.heap.size w W)(hB:B≤w.heap.size):Md B T w W:=⟨h.mono hB,fun k _ hk=>h.block k hk⟩
theorem Md.step {B T:Nat}{w W W':World}(h:Md B T w W)(hb:Below W.heap.size W W')(hB:B≤w.heap.size):Md B T w W':=
 ⟨h.be.trans (hb.mono (Nat.le_trans hB h.be.size)),fun k h1 h2=>(hb.block k (Nat.lt_of_lt_of_le h2 h.be.size)).trans (h.fr k h1 h2)⟩
theorem Md.grown {B T:Nat}{w W W':World}{r:Option Nat}(h:Md B T w W)(hg:W.grownBy W' r)(hr:∀k,r=some k→B≤k∧(k<T∨w.heap.size≤k))(hB:B≤W.heap.size):Md B T w W':=by
 refine⟨h.be.trans (QL hg hB (fun k e=>(hr k e).1)),fun k h1 h2=>(hg.block k (Nat.lt_of_lt_of_le h2 h.be.size) (fun e=>?_)).trans (h.fr k h1 h2)⟩
 rcases(hr k e.symm).2 with q|q<;>omega
theorem Md.set {B T:Nat}{w W:World}(h:Md B T w W){p:Addr}(hp:B≤p.block)(hq:p.block<T∨w.heap.size≤p.block)(v:Value):Md B T w (W.setCell p v):=by
 refine⟨h.be.setCell hp v,fun k h1 h2=>?_⟩
 rw[Below.heap_setCell _ _ _ _ (show k≠p.block by rcases hq with q|q<;>omega)]
 exact h.fr k h1 h2
structure U3 (h:Hp) (T:Nat):Prop where
 o:∀k,(Qhp h.oa h.os.length h.ocap).ownBlock=some k→k<T
 r:∀k,(Qhp h.ra h.rs.length h.rcap).ownBlock=some k→k<T
 w:∀k,(Qhp h.wa h.ws.length h.wcap).ownBlock=some k→k<T
theorem Jq {w0 W:World}{B T R:Nat}{y:Hp}(hR:Blk W R [Qhp none 0 0,Qhp none 0 0,Qhp none 0 0,Qhp none 0 0] 27)(hq:Ql W B y)(hb:Md B T w0 W)(hBR:B≤R)(hRs:w0.heap.size≤R)(v0 v1 v2 v3:Value)(e0:v0=.slice y.oa y.os.length y.ocap)(e1:v1=.slice y.ra y.rs.length y.rcap)(e2:v2=.slice y.wa y.ws.length y.wcap)(e3:v3=.slice y.da y.ds.length y.dcap):
 Ql ((((W.setCell ⟨R,0,none⟩ v0).setCell ⟨R,1,none⟩ v1).setCell ⟨R,2,none⟩ v2).setCell ⟨R,3,none⟩ v3) B y∧Md B T w0 ((((W.setCell ⟨R,0,none⟩ v0).setCell ⟨R,1,none⟩ v1).setCell ⟨R,2,none⟩ v2).setCell ⟨R,3,none⟩ v3)∧
 (((((W.setCell ⟨R,0,none⟩ v0).setCell ⟨R,1,none⟩ v1).setCell ⟨R,2,none⟩ v2).setCell ⟨R,3,none⟩ v3).cell? ⟨R,0,none⟩=some v0∧((((W.setCell ⟨R,0,none⟩ v0).setCell ⟨R,1,none⟩ v1).setCell ⟨R,2,none⟩ v2).setCell ⟨R,3,none⟩ v3).cell? ⟨R,1,none⟩=some v1∧((((W.setCell ⟨R,0,none⟩ v0).setCell ⟨R,1,none⟩ v1).setCell ⟨R,2,none⟩ v2).setCell ⟨R,3,none⟩ v3).cell? ⟨R,2,none⟩=some v2∧((((W.setCell ⟨R,0,none⟩ v0).setCell ⟨R,1,none⟩ v1).setCell ⟨R,2,none⟩ v2).setCell ⟨R,3,none⟩ v3).cell? ⟨R,3,none⟩=some v3):=by
 subst e0 e1 e2 e3
 obtain⟨hk,hb'⟩:=Q8 hR (.slice y.oa y.os.length y.ocap) (.slice y.ra y.rs.length y.rcap) (.slice y.wa y.ws.length y.wcap) (.slice y.da y.ds.length y.dcap)
 exact⟨hq.keep hk,(((hb.set (p:=⟨R,0,none⟩) hBR (Or.inr hRs) _).set (p:=⟨R,1,none⟩) hBR (Or.inr hRs) _).set (p:=⟨R,2,none⟩) hBR (Or.inr hRs) _).set (p:=⟨R,3,none⟩) hBR (Or.inr hRs) _,Qc hb'⟩
theorem OkC.watch {h:Hp}(c:OkC h){g o:Int}(hg:0≤g)(hg1:g.toNat<h.os.length)(hk:h.os[g.toNat].k=4)(ho:0≤o)(ho1:o<h.os.length)(hl:h.ws.length+h.ds.length<20)(wa:Option Addr)(wcap:Nat):OkC {h with wa:=wa,wcap:=wcap,ws:=h.ws++ [(g,o)]}:=by
 refine⟨c.n60,c.r8,by simp;omega,c.ob,c.ro,fun p hp=>?_,c.dd⟩
 rcases List.mem_append.1 hp with hp|hp
 ·exact c.wo p hp
 ·simp at hp
  subst hp
  simp only[Qp,inB,Bool.and_eq_true,decide_eq_true_eq,List.length_map,List.getElem?_map,List.getElem?_eq_getElem hg1,Option.map_some,Ob.p,hk]
  exact⟨⟨⟨hg,by omega⟩,ho,by omega⟩,trivial⟩
theorem Ql.growW {W W':World}{B:Nat}{h:Hp}(hq:Ql W B h){a:Option Addr}{cap:Nat}{ws:List (Int×Int)}(hg:W.grownBy W' (Qhp h.wa h.ws.length h.wcap).ownBlock)(hown:Qe W' B (.slice a ws.length cap) ws)(hat:(Qhp a ws.length cap).ownBlock=(Qhp h.wa h.ws.length h.wcap).ownBlock∨(Qhp a ws.length cap).ownBlock=some W.heap.size):Ql W' B {h with wa:=a,wcap:=cap,ws:=ws}:=
 ⟨QK hq.ob hq.wa hg (by decide),fun i hi=>QK (hq.rs i hi) hq.wa hg (by decide),hq.rne,QK hq.ro hq.wa hg (by decide),hq.rro,hown,YC hq.da hg hq.wne.symm,(Y2 hq.da hq.wne.symm hat).symm⟩
theorem Qep (h:Hp)(e:Ev)(B T:Nat)(w:World)(hq:Ql w B h)(hB:B≤w.heap.size)(c:OkC h)(hT:U3 h T):
 Calls Cut.prog 125 #[h.v,e.v] w fun en w'=>∃(y:Hp) (s:ByteArray),en=.returned (.tuple #[y.v,.string s])∧OkC y∧Ql w' B y∧Md B T w w':=by
 obtain⟨i0,hi,hz0,hz1,hz2⟩:=info_parts Jx
 obtain⟨b0,hb0⟩:=Bx3.start w h e
 have hr0:=(hq.isIn.sr).below hb0 (Qhs _)
 have c1:=Ue h e.to _ hr0 c.small.r
 have hbd1:=UQ c.ro (by omega) e.to
 have hbd2:=UQ c.ro (by omega) e.fr
 go_enter (Cut.func_of Tryz.func125 rfl),Tryz.ntmps125
 simp only[Hp.v,Ev.v,Ev.cs]at c1⊢
 go_wp2_with fail
 refine c1.mono ?_
 rintro en w1 ⟨rfl,hb1⟩
 have b1:=b0.step hb1
 have hB1:=hb0.trans (hb1.mono hb0.size)
 have c2:=Ue h e.fr w1 ((hq.isIn.sr).below hB1 (Qhs _)) c.small.r
 simp only[Hp.v]at c2
 obtain⟨⟨x0,x1,x2,x3⟩,⟨y0,y1,y2,y3,y4,y5,y6⟩,⟨r0,r1,r2,r3⟩,f0,f1,f2,f3⟩:=b1.cells
 clear c1 b0 hb0 hr0 hb1
 go_wp2_with fail
 refine c2.mono ?_
 rintro en w2 ⟨rfl,hb2⟩
 have b2:=b1.step hb2
 have hB2:=hB1.trans (hb2.mono hB1.size)
 clear c2 b1 hB1 hb2 x0 x1 x2 x3 y0 y1 y2 y3 y4 y5 y6 r0 r1 r2 r3 f0 f1 f2 f3
 obtain⟨⟨x0,x1,x2,x3⟩,⟨y0,y1,y2,y3,y4,y5,y6⟩,⟨r0,r1,r2,r3⟩,f0,f1,f2,f3⟩:=b2.cells
 have hq2:=hq.below hB2 (Qhs _)
 generalize rootP h.rs e.to=G at *
 generalize rootP h.rs e.fr=O at *
 have hBB:Md B T w w2:=Md.of hB2 hB
 obtain⟨hqE,hbE,z0,z1,z2,z3⟩:=Jq b2.br hq2 hBB (by omega) (by omega) _ _ _ _ rfl rfl rfl rfl
 by_cases hG:G<0
 ·go_wp2
  refine bodyPost_ret (v:=.tuple #[h.v,.string ⟨#[110,111]⟩]) ?_ rfl ⟨h,_,rfl,c,hqE,hbE⟩
  simp[results,Tryz.results125,go_sem,z0,z1,z2,z3,Hp.v]
 have hG0:0≤G:=by omega
 have hGd:decide (G<0)=false:=by simpa using hG0
 by_cases hO:O<0
 ·go_wp2
  refine bodyPost_ret (v:=.tuple #[h.v,.string ⟨#[110,111]⟩]) ?_ rfl ⟨h,_,rfl,c,hqE,hbE⟩
  simp[results,Tryz.results125,go_sem,z0,z1,z2,z3,Hp.v]
 have hO0:0≤O:=by omega
 have hOd:decide (O<0)=false:=by simpa using hO0
 have hGl:G.toNat<h.os.length:=by omega
 have hG1:G<(h.os.length:Int):=hbd1.2
 have hO1:O<(h.os.length:Int):=hbd2.2
 obtain⟨bb,off,eo,hbb,e1,e2,e3⟩:=hq.isIn.so.get hGl
 have d1:=(hB2.cell (p:=⟨bb,off+G.toNat*3,none⟩) hbb).trans e1
 clear hG hO e1 e2 e3 hbd1 hbd2
 have HEO:Hid (h.oa=some ⟨bb,off,none⟩):=eo
 generalize hOA:h.oa=OA at eo x0 hqE hbE z0 z1 z2 z3⊢
 clear hOA
 subst eo
 by_cases hk:h.os[G.toNat].k=4
 ·have HK:Hid (h.os[G.toNat].k=4):=hk
  rw[hk]at d1
  clear hk
  have hkd:((4:Int)!=4)=false:=rfl
  have hw20:=c.w20
  by_cases hfull:20≤h.ws.length+h.ds.length
  ·have hf:(20:Int)≤(h.ws.length:Int)+(h.ds.length:Int):=by omega
   go_wp2
   refine bodyPost_ret (v:=.tuple #[h.v,.string ⟨#[102,117,108,108]⟩]) ?_ rfl ⟨h,_,rfl,c,hqE,hbE⟩
   simp[results,Tryz.results125,go_sem,z0,z1,z2,z3,Hp.v,HEO.out]
  ·have hf:¬(20:Int)≤(h.ws.length:Int)+(h.ds.length:Int):=by omega
   have hfd:decide ((20:Int)≤(h.ws.length:Int)+(h.ds.length:Int))=false:=by simpa using hf
   have hA:Below w2.heap.size w2 (w2.alloc (Qhr #[Qhq .i64 G,Qhq .i64 O] 40)):=(Below.refl _ _).alloc (Qhs _) _
   have hqA:=hq2.below hA (Qhs _)
   have bA:=b2.step hA
   have hBA:=hBB.step hA hB
   have hvA:(w2.alloc (Qhr #[Qhq .i64 G,Qhq .i64 O] 40)).ownsRow B 40 2 (.slice h.wa h.ws.length h.wcap) h.ws.length (h.ws.flatMap wc):=hqA.wa
   have hsA:B≤(w2.alloc (Qhr #[Qhq .i64 G,Qhq .i64 O] 40)).heap.size:=Nat.le_trans (Nat.le_trans hB hB2.size) hA.size
   have HEND:Hid (∀v' w3,w3.ownsRow B 40 2 v' (h.ws.length+1) (h.ws.flatMap wc++ [.int .i64 G,.int .i64 O])→(w2.alloc (Qhr #[Qhq .i64 G,Qhq .i64 O] 40)).grownBy w3 (Qhp h.wa h.ws.length h.wcap).ownBlock→(v'.ownBlock=(Qhp h.wa h.ws.length h.wcap).ownBlock∨v'.ownBlock=some (w2.heap.size+1))→
    ∃a cap,v'=.slice a (h.ws.length+1) cap∧Bx3 w w3 h e∧Md B T w w3∧Ql w3 B {h with wa:=a,wcap:=cap,ws:=h.ws++ [(G,O)]}∧OkC {h with wa:=a,wcap:=cap,ws:=h.ws++ [(G,O)]}):=fun v' w3 hown hgr hat=>by
    have ho:Qe w3 B v' (h.ws++ [(G,O)]):=by unfold Qe;simpa[wc]using hown
    obtain⟨a,cap,ev,-⟩:=ho.form
    have ev':v'=.slice a (h.ws.length+1) cap:=by simpa using ev
    subst ev
    refine⟨a,cap,ev',⟨bA.bh.grown hgr (Qr hvA bA.bh (by decide)),bA.bv.grown hgr (Qr hvA bA.bv (by decide)),bA.br.grown hgr (Qr hvA bA.br (by decide))⟩,hBA.grown hgr (fun k q=>⟨(hvA.lt k q).1,Or.inl (hT.w k q)⟩) hsA,hqA.growW hgr ho (by rw[Qhz];exact hat),c.watch hG0 hGl HK.out hO0 hO1 (by omega) a cap⟩
   have hl1:h.ws.length+1≤maxLen:=by unfold maxLen;omega
   have hl2:(h.ws.length+1)*16≤140737488355328:=by omega
   clear hA hqA bA hBA hf hfull
   go_wp2_with (at_builtin;refine wpList_append_own_at _ rfl _ _ 25 rfl B 40 i0 _ 2 16 ((Cut.under_eq 25).trans Tryz.underlying25) hi hz0 hz1 hz2 rfl (by decide) _ _ _ rfl hvA ⟨w2.heap.size,0,none⟩ 1 1 [.int .i64 G,.int .i64 O] rfl rfl (Yj (G,O) _) (JL [(G,O)]) hl1 hl2 hsA ?_)
   intro v' w3 hown hgr _ hat
   obtain⟨a,cap,rfl,b3,hB3,hq3,c3⟩:=HEND.out v' w3 hown hgr hat
   clear hown hgr hat HEND hvA x0 x1 x2 x3 y0 y1 y2 y3 y4 y5 y6 r0 r1 r2 r3 f0 f1 f2 f3 hqE hbE z0 z1 z2 z3
   obtain⟨⟨x0,x1,x2,x3⟩,⟨y0,y1,y2,y3,y4,y5,y6⟩,⟨r0,r1,r2,r3⟩,f0,f1,f2,f3⟩:=b3.cells
   have f5:=b3.bh.free 2
   have k4:Qh 27 w3 (w3.setCell ⟨w.heap.size,2,none⟩ (.slice a (h.ws.length+1) cap)):=Qh.set b3.bh 2 _
   have br4:=b3.br.other ⟨w.heap.size,2,none⟩ (.slice a (h.ws.length+1) cap) (by dsimp only;omega)
   have hB4:=hB3.set (p:=⟨w.heap.size,2,none⟩) hB (Or.inr (Qhs _)) (.slice a (h.ws.length+1) cap)
   obtain⟨hqE,hbE,z0,z1,z2,z3⟩:=Jq br4 (hq3.keep k4) hB4 (by omega) (by omega) (.slice h.oa h.os.length h.ocap) (.slice h.ra h.rs.length h.rcap) (.slice a (h.ws.length+1) cap) (.slice h.da h.ds.length h.dcap) rfl rfl (by simp) rfl
   rw[HEO.out]at hqE hbE z0 z1 z2 z3 x0 c3
   clear b3 hB3 hq3 k4 br4 hB4 b2
   go_wp2
   refine bodyPost_ret (v:=.tuple #[Hp.v {h with oa:=some ⟨bb,off,none⟩,wa:=a,wcap:=cap,ws:=h.ws++ [(G,O)]},.string ⟨#[111,107]⟩]) ?_ rfl ⟨_,_,rfl,c3,hqE,hbE⟩
   simp[results,Tryz.results125,go_sem,z0,z1,z2,z3,Hp.v]
 ·have hkd:(h.os[G.toNat].k !=4)=true:=by simpa using hk
  clear hk
  go_wp2
  refine bodyPost_ret (v:=.tuple #[h.v,.string ⟨#[110,111]⟩]) ?_ rfl ⟨h,_,rfl,c,hqE,hbE⟩
  simp[results,Tryz.results125,go_sem,z0,z1,z2,z3,Hp.v,HEO.out]
theorem Qa.set {w:World}{base g n c:Nat}{zs:List Int}(h:Qa w base (.slice (some ⟨g,0,none⟩) n c) zs)(hn:n=zs.length){k:Nat}(z:Int):Qa (w.setCell ⟨g,k,none⟩ (.int .i64 z)) base (.slice (some ⟨g,0,none⟩) n c) (zs.set k z):=by
 subst hn
 unfold Qa at *
 rcases h.2 with⟨h1,_⟩|⟨g',cap,cur,h1,hg,hh,hl,hm,hs,ht⟩
 ·simp at h1
 ·simp only[Value.slice.injEq,Option.some.injEq,Addr.mk.injEq,and_true,true_and]at h1
  obtain⟨rfl,rfl⟩:=h1
  refine⟨by simp,Or.inr ⟨g,c,(cur.toList.set k (.int .i64 z)).toArray,by simp,hg,?_,by simpa using hl,hm,by simpa using hs,?_⟩⟩
  ·have hb:Blk w g cur.toList 3:=by unfold Blk;simpa using hh
   have:=hb.store k (.int .i64 z)
   unfold Blk at this
   exact this
  ·rw[List.toList_toArray,List.take_set,List.map_set]
   simp only[List.length_set]at ht⊢
   rw[ht]
theorem Qa.free {w:World}{base g n c:Nat}{zs:List Int}(h:Qa w base (.slice (some ⟨g,0,none⟩) n c) zs)(k:Nat):w.frozen? ⟨g,k,none⟩=false:=by
 obtain⟨cur,hh⟩:=Zz h rfl
 simp[World.frozen?,hh]
theorem Qa.at {w:World}{base g n c:Nat}{zs:List Int}(h:Qa w base (.slice (some ⟨g,0,none⟩) n c) zs){k:Nat}(hk:k<zs.length):w.cell? ⟨g,k,none⟩=some (.int .i64 zs[k]):=by
 obtain⟨a,cap,e,hs,_⟩:=h.form
 simp only[Value.slice.injEq]at e
 obtain⟨rfl,_⟩:=e
 obtain⟨b,off,e1,_,e2⟩:=hs.get hk
 simp only[Option.some.injEq,Addr.mk.injEq,and_true]at e1
 obtain⟨rfl,rfl⟩:=e1
 simpa using e2
theorem Qa.ptr {w:World}{base n c:Nat}{a:Option Addr}{zs:List Int}(h:Qa w base (.slice a n c) zs)(hn:0<zs.length):∃g,a=some ⟨g,0,none⟩:=by
 rcases h.2 with⟨h1,h2⟩|⟨g,cap,cur,h1,_⟩
 ·omega
 ·simp only[Value.slice.injEq]at h1
  exact⟨g,h1.1⟩
def Ji (f:Int→Int)(r:List Int)(k:Nat):List Int:=(r.take k).map f++r.drop k
theorem UJ (f:Int→Int)(r:List Int)(k:Nat)(hk:k≤r.length):(Ji f r k).length=r.length:=by simp[Ji];omega
theorem OU (f:Int→Int)(r:List Int):Ji f r 0=r:=by simp[Ji]
theorem KE (f:Int→Int)(r:List Int):Ji f r r.length=r.map f:=by simp[Ji]
theorem KF (f:Int→Int)(r:List Int)(k:Nat)(hk:k<r.length)(h:k<(Ji f r k).length):(Ji f r k)[k]=r[k]:=by
 simp only[Ji]
 rw[Qhu (by simp;omega)]
 simp[Nat.min_eq_left (Nat.le_of_lt hk)]
theorem KG (f:Int→Int)(r:List Int)(k:Nat)(hk:k<r.length):(Ji f r k).set k (f r[k])=Ji f r (k+1):=by
 simp only[Ji]
 have h1:((r.take k).map f).length=k:=by simp;omega
 rw[List.set_append,if_neg (by omega),h1,Qhv,List.drop_eq_getElem_cons hk,List.set_cons_zero,List.take_succ_eq_append_getElem hk,QhA,List.append_assoc]
 rfl
theorem QfJ {n m:Int}(h:n≤m){r:List Int}(hr:QZ n r=true):QZ m r=true:=by
 unfold QZ at *
 rw[Qhw]at *
 intro z hz
 have:=hr z hz
 simp[inB]at *
 omega
theorem OX {n m:Int}(h:n≤m){o:Int×ByteArray×List Int}(ho:Qs n o=true):Qs m o=true:=by
 simp only[Qs,Bool.and_eq_true]at *
 exact⟨QfJ h ho.1,ho.2⟩
theorem Qa8 {os:List (Int×ByteArray×List Int)}{o:Int×ByteArray×List Int}{p:Int×Int}(h:Qp os p=true):Qp (os++ [o]) p=true:=by
 simp only[Qp,inB,Bool.and_eq_true,decide_eq_true_eq,List.length_append,List.length_cons,List.length_nil]at *
 obtain⟨⟨⟨h1,h2⟩,h3,h4⟩,h5⟩:=h
 have hl:p.1.toNat<os.length:=by omega
 refine⟨⟨⟨h1,by omega⟩,h3,by omega⟩,?_⟩
 rw[List.getElem?_append_left hl];exact h5
theorem OkC.make {h:Hp}(c:OkC h){o:Ob}(ho:Qs h.os.length o.p=true)(hn:h.os.length<60)(t:Nat)(oa:Option Addr)(ocap:Nat):OkC {h with oa:=oa,ocap:=ocap,os:=h.os++ [o],rs:=h.rs.set t (h.os.length:Int)}:=by
 have hm:((h.os.length:Nat):Int)≤((h.os++ [o]).length:Int):=by simp;omega
 refine⟨by simp;omega,by simpa using c.r8,c.w20,fun i hi=>?_,fun z hz=>?_,fun p hp=>?_,fun p hp=>?_⟩
 ·simp only at hi⊢
  by_cases hl:i<h.os.length
  ·rw[Qht hl];exact OX hm (c.ob i hl)
  ·have e:i=h.os.length:=by simp at hi;omega
   subst e
   simp only[Qhu (Qhs _),Qhv,Qhy]
   exact OX hm ho
 ·simp only[List.length_append,List.length_cons,List.length_nil]at hz⊢
  rcases List.mem_or_eq_of_mem_set hz with hz|hz
  ·have:=c.ro z hz;omega
  ·omega
 ·rw[QhA];exact Qa8 (c.wo p hp)
 ·rw[QhA];exact Qa8 (c.dd p hp)
theorem Ql.growO {W W':World}{B:Nat}{h:Hp}(hq:Ql W B h){a:Option Addr}{cap:Nat}{o:Ob}(hg:W.grownBy W' (Qhp h.oa h.os.length h.ocap).ownBlock)(hown:Qu W' B (.slice a (h.os++ [o]).length cap) (h.os++ [o]))(ho:Qa W B o.rv o.r)(hap:∀i (hi:i<h.os.length),ZI h.os[i].rv o.rv)(hro:ZI o.rv (.slice h.ra h.rs.length h.rcap)):Ql W' B {h with oa:=a,ocap:=cap,os:=h.os++ [o]}:=by
 have ho':Qa W' B o.rv o.r:=QK ho hq.ob hg (by decide)
 refine⟨hown,fun i hi=>?_,fun i j hi hj hij=>?_,QK hq.ro hq.ob hg (by decide),fun i hi=>?_,QK hq.wa hq.ob hg (by decide),QK hq.da hq.ob hg (by decide),hq.wne⟩
 ·simp only at hi⊢
  by_cases hl:i<h.os.length
  ·rw[Qht hl];exact QK (hq.rs i hl) hq.ob hg (by decide)
  ·have e:i=h.os.length:=by simp at hi;omega
   subst e
   simp only[Qhu (Qhs _),Qhv,Qhy]
   exact ho'
 ·simp only at hi hj⊢
  by_cases hl:i<h.os.length
  ·by_cases hl2:j<h.os.length
   ·rw[Qht hl,Qht hl2];exact hq.rne i j hl hl2 hij
   ·have e:j=h.os.length:=by simp at hj;omega
    subst e
    rw[Qht hl]
    simp only[Qhu (Qhs _),Qhv,Qhy]
    exact hap i hl
  ·have e:i=h.os.length:=by simp at hi;omega
   subst e
   have hl2:j<h.os.length:=by simp at hj;omega
   rw[Qht hl2]
   simp only[Qhu (Qhs _),Qhv,Qhy]
   exact(hap j hl2).symm
 ·simp only at hi⊢
  by_cases hl:i<h.os.length
  ·rw[Qht hl];exact hq.rro i hl
  ·have e:i=h.os.length:=by simp at hi;omega
   subst e
   simp only[Qhu (Qhs _),Qhv,Qhy]
   exact hro
theorem VR {W:World}{base e size n:Nat}{u v:Value}{xs:List Value}{m:Nat}(h:W.ownsRow base e size u n xs)(hm:W.heap.size≤m)(hv:∀k,v.ownBlock=some k→m≤k):ZI u v:=fun k hk e=>by
 have:=(h.lt k hk).2
 have:=hv k e
 omega
theorem Ql.setRoot {w:World}{B:Nat}{h:Hp}(hq:Ql w B h){g:Nat}(hg:h.ra=some ⟨g,0,none⟩)(k:Nat)(z:Int):Ql (w.setCell ⟨g,k,none⟩ (.int .i64 z)) B {h with rs:=h.rs.set k z}:=by
 have hro:=hq.ro
 rw[hg]at hro
 have hne:∀ {base e size n:Nat} {v:Value} {xs:List Value},w.ownsRow base e size v n xs→e≠3→v.ownBlock≠some g:=fun hr he e1=>by
  obtain⟨c1,q1⟩:=Zz hr e1
  obtain⟨c2,q2⟩:=Zz hro rfl
  rw[q1]at q2
  simp at q2
  exact he q2.2
 refine⟨ownsRow_setCell_other hq.ob (hne hq.ob (by decide)) _,fun i hi=>ownsRow_setCell_other (hq.rs i hi) (fun e=>?_) _,hq.rne,?_,?_,ownsRow_setCell_other hq.wa (hne hq.wa (by decide)) _,ownsRow_setCell_other hq.da (hne hq.da (by decide)) _,hq.wne⟩
 ·exact hq.rro i hi g e (by rw[hg];rfl)
 ·have:=hro.set rfl (k:=k) z
  simp only[hg,List.length_set]
  exact this
 ·intro i hi
  have:=hq.rro i hi
  simpa using this
end
end Go.Proofs.YtcpnkpogebjieaaGreat
