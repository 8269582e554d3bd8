/- The law on guardians: behind its call of the program: what is known; how many are ready. -/
import Derived.Test.YtcpnkpogebjieaaGreatG17Zsb
import Derived.Test.YtcpnkpogebjieaaGreatG43Ga
import Derived.Test.YtcpnkpogebjieaaGreatG44Ey
import Derived.Test.YtcpnkpogebjieaaGreatG12SpecOk4
import Derived.Test.YtcpnkpogebjieaaGreatG36Vj
open Go.Value renaming slice→Qhp,int→Qhs
open Nat renaming le_refl→Qhq,le_trans→Qht
open List renaming length_set→Qhr,getElem_set→Qhu
set_option maxRecDepth 100000
set_option maxHeartbeats 8000000
namespace Go.Proofs.YtcpnkpogebjieaaGreat
namespace Co
open Go.RowKit
set_option linter.unusedSimpArgs false
noncomputable def gdB:Code:=match Tryz.f4.body with
 |some c=>c
 |_=>.skip
noncomputable def gdC:Code:=match gdB with
 | .seq _ (.seq _ (.seq _ c))=>c
 |_=>.skip
noncomputable def gdF:Code:=match gdC with
 | .seq _ c=>c
 |_=>.skip
noncomputable def gdG:Code:=match gdF with
 | .seq _ (.seq _ (.seq _ (.seq _ (.seq _ c))))=>c
 |_=>.skip
noncomputable def gdH:Code:=match gdG with
 | .seq _ c=>c
 |_=>.skip
def YL:Hp:=⟨none,0,[],none,0,[],none,0,[],none,0,[]⟩
theorem KG (l:List (Int×Int))(f:Int×Int→Bool)(k:Nat)(hk:k<l.length):((l.take (k+1)).filter f).length=((l.take k).filter f).length+(if f l[k]=true then 1 else 0):=by
 rw[List.take_succ_eq_append_getElem hk,List.filter_append,List.length_append]
 cases hf:f l[k]<;>simp[hf]
structure Sg (b3 b4:Nat) (gv:Value) (a:Act):Prop where
 df:a.defers=[]
 sz:a.tmps.size=130
 t3:a.tmps[3]? =some (.pointer (some ⟨b3,0,none⟩))
 t4:a.tmps[4]? =some (.pointer (some ⟨b4,0,none⟩))
 t5:a.tmps[5]? =some gv
section
variable {h x:Hp} {b3 b4:Nat} {ga:Option Addr} {gcap:Nat} {ms:List Int}
theorem Qdm (v0 v1 v2 v6 v7 v8 v9 v10 v11 v12 v13 v14 v15 v16 v17 v18 v19 v20 v21 v22 v23 v24 v25 v26 v27 v28 v29 v30 v31 v32 v33 v34 v35 v36 v37 v38 v39 v40 v41 v42 v43 v44 v45 v46 v47 v48 v49 v50 v51 v52 v53 v54 v55 v56 v57 v58 v59 v60 v61 v62 v63 v64 v65 v66 v67 v68 v69 v70 v71 v72 v73 v74 v75 v76 v77 v78 v79 v80 v81 v82 v83 v84 v85 v86 v87 v88 v89 v90 v91 v92 v93 v94 v95 v96 v97 v98 v99 v100 v101 v102 v103 v104 v105 v106 v107 v108 v109 v110 v111 v112 v113 v114 v115 v116 v117 v118 v119 v120 v121 v122 v123 v124 v125 v126 v127 v128 v129:Value)(E:World)(k3:Blk E b3 (Hp.cells h) 27)(hf:Fit E h)(k4:Blk E b4 (Hp.cells x) 27)(hx:Qg E x)(hsx:Zk x)(an:okP h.p=false→x.p=([],[],[],[])):
 chain Cut.prog (fun c a w1=>c=gdG∧Sg b3 b4 (.slice ga ms.length gcap) a∧okP h.p=true∧Below E.heap.size E w1∧∃(la:Option Addr) (lcap:Nat) (L:List Int),a.tmps[6]? =some (.slice la L.length lcap)∧a.tmps[7]? =some (.int .i64 ((h.ds.filter fun p=>decide (p.1∈L)).length:Nat))∧a.tmps[8]? =some (.int .i64 0)∧Qk w1 la L∧L.length≤68∧∀z,z∈L↔z∈reachP h.p)
  (fun a w1=>a.defers=[]∧a.tmps.size=130∧a.tmps[2]? =some (.bool true)∧Below E.heap.size E w1) 5 gdF ⟨#[v0,v1,v2,.pointer (some ⟨b3,0,none⟩),.pointer (some ⟨b4,0,none⟩),.slice ga ms.length gcap,v6,v7,v8,v9,v10,v11,v12,v13,v14,v15,v16,v17,v18,v19,v20,v21,v22,v23,v24,v25,v26,v27,v28,v29,v30,v31,v32,v33,v34,v35,v36,v37,v38,v39,v40,v41,v42,v43,v44,v45,v46,v47,v48,v49,v50,v51,v52,v53,v54,v55,v56,v57,v58,v59,v60,v61,v62,v63,v64,v65,v66,v67,v68,v69,v70,v71,v72,v73,v74,v75,v76,v77,v78,v79,v80,v81,v82,v83,v84,v85,v86,v87,v88,v89,v90,v91,v92,v93,v94,v95,v96,v97,v98,v99,v100,v101,v102,v103,v104,v105,v106,v107,v108,v109,v110,v111,v112,v113,v114,v115,v116,v117,v118,v119,v120,v121,v122,v123,v124,v125,v126,v127,v128,v129],[]⟩ E:=by
 obtain⟨x0,x1,x2,x3⟩:=QB (show Blk E b3 [Qhp h.oa h.os.length h.ocap,Qhp h.ra h.rs.length h.rcap,Qhp h.wa h.ws.length h.wcap,Qhp h.da h.ds.length h.dcap] _ from k3)
 have c1:=KA h E hf.isIn hf.small hf.txt
 simp only[Hp.v]at c1
 simp only[gdF,gdC,gdB,Tryz.f4,chain]
 go_wp2_with fail
 refine c1.mono ?_
 rintro e w1 ⟨rfl,hb1⟩
 have k31:=k3.below hb1 k3.lt
 have k41:=k4.below hb1 k4.lt
 have hf1:=hf.below hb1 (Qhq _)
 have hx1:=hx.below hb1 (Qhq _)
 clear c1 x0 x1 x2 x3 k3 k4 hf hx
 obtain⟨y0,y1,y2,y3⟩:=QB (show Blk w1 b4 [Qhp x.oa x.os.length x.ocap,Qhp x.ra x.rs.length x.rcap,Qhp x.wa x.ws.length x.wcap,Qhp x.da x.ds.length x.dcap] _ from k41)
 cases hok:okP h.p with
 |false=>
  have c2:=PL x YL w1 (an hok) hx1 ⟨⟨fun hm=>by simp[YL]at hm,fun i hi=>by simp[YL]at hi⟩,fun hm=>by simp[YL]at hm,fun hm=>by simp[YL]at hm,fun hm=>by simp[YL]at hm⟩ hsx
  simp only[Hp.v,YL,List.length_nil]at c2
  go_wp2_with fail
  refine c2.mono ?_
  rintro e w2 ⟨rfl,hb2⟩
  have hB2:=hb1.trans (hb2.mono hb1.size)
  clear c2
  go_wp2
  exact⟨rfl,rfl,rfl,hB2⟩
 |true=>
  have c:=YH hok
  have hd20:=c.w20
  go_wp2
  simp only[Z4,chain]
  obtain⟨x0,x1,x2,x3⟩:=QB (show Blk w1 b3 [Qhp h.oa h.os.length h.ocap,Qhp h.ra h.rs.length h.rcap,Qhp h.wa h.ws.length h.wcap,Qhp h.da h.ds.length h.dcap] _ from k31)
  have c3:=Qch h w1 (reachP h.p) hf1.isIn c c.comes
  simp only[Hp.v]at c3
  go_wp2_with fail
  refine c3.mono ?_
  rintro e w2 ⟨v',L,rfl,hL,hb2,hl68,hiff⟩
  obtain⟨la,lcap,rfl,hseg,-⟩:=hL.form
  have HIFF:Hid (∀z,z∈L↔z∈reachP h.p):=hiff
  have hB2:=hb1.trans (hb2.mono hb1.size)
  have k32:=k31.below hb2 k31.lt
  have hf2:=hf1.below hb2 (Qhq _)
  have HOK:Hid (okP h.p=true):=hok
  clear c3 x0 x1 x2 x3 y0 y1 y2 y3 k31 k41 hf1 hx1 hL hiff hb1 hb2 hok
  obtain⟨x0,x1,x2,x3⟩:=QB (show Blk w2 b3 [Qhp h.oa h.os.length h.ocap,Qhp h.ra h.rs.length h.rcap,Qhp h.wa h.ws.length h.wcap,Qhp h.da h.ds.length h.dcap] _ from k32)
  go_wp2
  simp only[Z4,chain]
  go_wp2
  simp only[Z4,chain]
  go_wp2
  simp only[Z4,chain]
  go_wp2
  go_loopw [7,9] (fun r i wr=>∃k:Nat,k≤h.ds.length∧i=.int .i64 k∧r=.int .i64 (((h.ds.take k).filter fun p=>decide (p.1∈L)).length:Nat)∧wr=w2) (fun _ i _=>h.ds.length-(intOf i).toNat)
  case atStart=>exact⟨0,Nat.zero_le _,rfl,by simp,rfl⟩
  case round=>
   obtain⟨k,hk,rfl,rfl,rfl⟩:=hrel
   by_cases hlt:k<h.ds.length
   ·obtain⟨b,off,ea,hbw,e1,e2⟩:=hf2.isIn.sd.get hlt
    have c4:=YK la L.length lcap h.ds[k].1 L wr rfl hseg (by unfold maxLen;omega)
    have hfs:=KG h.ds (fun p=>decide (p.1∈L)) k hlt
    have hi1:(k:Int)<(h.ds.length:Int):=by omega
    have hcl:((h.ds.take k).filter fun p=>decide (p.1∈L)).length≤20:=Qht (List.length_filter_le _ _) (Qht (List.length_take_le _ _) (by omega))
    rw[ea]at x3
    clear ea e2
    have HFS:Hid (((h.ds.take (k+1)).filter fun p=>decide (p.1∈L)).length=((h.ds.take k).filter fun p=>decide (p.1∈L)).length+(if decide (h.ds[k].1∈L)=true then 1 else 0)):=hfs
    clear hfs
    generalize ((h.ds.take k).filter fun p=>decide (p.1∈L)).length=cnt at *
    generalize hMM:decide (h.ds[k].1∈L)=mm at c4 HFS
    clear hMM
    go_wp2_with fail
    refine c4.mono ?_
    rintro e w' ⟨rfl,rfl⟩
    clear c4
    cases mm with
    |true=>
     go_wp2
     go_roundw
     case rel=>exact⟨k+1,by omega,by go_num,by rw[HFS.out];go_num,trivial⟩
     case measure=>simp[intOf];omega
    |false=>
     go_wp2
     go_roundw
     case rel=>exact⟨k+1,by omega,by go_num,by rw[HFS.out];go_num,trivial⟩
     case measure=>simp[intOf];omega
   ·have ek:k=h.ds.length:=by omega
    subst ek
    rw[List.take_length]
    go_wp2
    exact⟨rfl,⟨rfl,rfl,rfl,rfl,rfl⟩,HOK.out,hB2,la,lcap,L,rfl,rfl,rfl,hseg,hl68,HIFF.out⟩
end
end Co
section
open Go.RowKit
theorem Qf8 (h:Hp)(w:World)(hf:Fit w h):
 Calls Cut.prog 9 #[h.v] w fun e w'=>∃(y:Hp) (v:Value),e=.returned (.tuple #[y.v,v])∧OkC y∧(∀W,Qh 27 w' W→Fit W y)∧Below w.heap.size w w':=
 (Qa7 h w hf).mono fun _ _ ⟨y,v,_,e,c,f,_,_,_,b⟩=>⟨y,v,e,c,f,b⟩
theorem Ql.rowsLt {w:World}{B:Nat}{h:Hp}(hq:Ql w B h):Vv h w.heap.size:=⟨fun k e=>(hq.ob.lt k e).2,fun k e=>(hq.ro.lt k e).2,fun k e=>(hq.wa.lt k e).2⟩
theorem QgY (h:Hp)(e:Ev)(B:Nat)(w:World)(hq:Ql w B h)(hB:B≤w.heap.size)(c:OkC h)(he:Qk w e.o.ra e.o.r)(hel:e.o.r.length≤1048576)(het:e.o.t.size≤maxLen)(h01:e.k≠7→0≤e.to∧e.to<h.rs.length)(k2:e.k≠2)(k3:e.k≠3):
 Calls Cut.prog 96 #[h.v,e.v] w fun en w'=>∃(y:Hp) (s:ByteArray),en=.returned (.tuple #[y.v,.string s])∧OkC y∧Fit w' y∧Below B w w':=by
 obtain⟨b0,hb0⟩:=Bx3.start w h e
 have hq3:=hq.below hb0 (Qhq _)
 have he3:=he.below hb0 (Qhq _)
 have hB3:=Qht hB hb0.size
 have hTT:=hq.rowsLt
 obtain⟨ek,eto,efr,ept,eo⟩:=e
 dsimp only at *
 go_enter (Cut.func_of Tryz.func96 rfl),Tryz.ntmps96
 simp only[Hp.v,Ev.v,Ev.cs]
 go_upto_region 1 with fail
 obtain⟨W3,hW3⟩:∃W3,W3=(((w.alloc (Obj.cells #[Qhp h.oa h.os.length h.ocap,Qhp h.ra h.rs.length h.rcap,Qhp h.wa h.ws.length h.wcap,Qhp h.da h.ds.length h.dcap] 27)).alloc (Obj.cells #[Qhs .i64 ek,Qhs .i64 eto,Qhs .i64 efr,Qhs .i64 ept,Qhs .i64 eo.k,Value.string eo.t,Qhp eo.ra eo.r.length eo.rcap] 75)).alloc (Obj.cells #[Qhp none 0 0,Qhp none 0 0,Qhp none 0 0,Qhp none 0 0] 27)):=⟨_,rfl⟩
 rw[←hW3]at b0 hb0 hq3 he3 hB3⊢
 clear hW3
 obtain⟨⟨x0,x1,x2,x3⟩,⟨y0,y1,y2,y3,y4,y5,y6⟩,⟨u0,u1,u2,u3⟩,g0,g1,g2,g3⟩:=b0.cells
 obtain⟨hqE,hbE,z0,z1,z2,z3⟩:=Jo (T:=w.heap.size) b0.br hq3 (Md.of hb0 hB) (by omega) (by omega) _ _ _ _ rfl rfl rfl rfl
 by_cases k1:ek=1
 ·subst k1
  obtain⟨h0,h1⟩:=h01 (by omega)
  clear hqE hbE z0 z1 z2 z3
  have cc:=QfM h ⟨1,eto,efr,ept,eo⟩ B w.heap.size W3 hq3 hB3 c hTT he3 hel het h0 h1
  simp only[Hp.v,Ev.v,Ev.cs]at cc
  go_wp2_with fail
  refine cc.mono ?_
  rintro en w1 ⟨y,s,rfl,cy,hqy,hM⟩
  have br1:Blk w1 (w.heap.size+1+1) [Qhp none 0 0,Qhp none 0 0,Qhp none 0 0,Qhp none 0 0] 27:=by
   have:=hM.fr (w.heap.size+1+1) (by omega) b0.br.lt
   unfold Blk
   rw[this];exact b0.br
  clear x0 x1 x2 x3 y0 y1 y2 y3 y4 y5 y6 u0 u1 u2 u3 g0 g1 g2 g3
  obtain⟨r0,r1,r2,r3⟩:=Qd br1
  obtain⟨f0,f1,f2,f3⟩:=QF br1
  obtain⟨kq,bq⟩:=Q7 br1 (.slice y.oa y.os.length y.ocap) (.slice y.ra y.rs.length y.rcap) (.slice y.wa y.ws.length y.wcap) (.slice y.da y.ds.length y.dcap)
  obtain⟨z0,z1,z2,z3⟩:=Qd bq
  have hqE:=hqy.keep kq
  have hbE:=Z2 ((hb0.mono hB).trans hM.be) (C:=w.heap.size+1+1) (by omega) (.slice y.oa y.os.length y.ocap) (.slice y.ra y.rs.length y.rcap) (.slice y.wa y.ws.length y.wcap) (.slice y.da y.ds.length y.dcap)
  clear kq bq cc hM hqy
  go_wp2
  refine bodyPost_ret (v:=.tuple #[y.v,.string s]) ?_ rfl ⟨y,s,rfl,cy,cy.fitQ hqE,hbE⟩
  simp[results,Tryz.results96,go_sem,z0,z1,z2,z3,Hp.v]
 have n1:(ek ==1)=false:=by simp[k1]
 have n2:(ek ==2)=false:=by simp[k2]
 have n3:(ek ==3)=false:=by simp[k3]
 by_cases k4:ek=4
 ·subst k4
  obtain⟨h0,h1⟩:=h01 (by omega)
  obtain⟨gr,hgr⟩:=hq3.ro.ptr (by omega)
  have hro3:Qa W3 B (.slice (some ⟨gr,0,none⟩) h.rs.length h.rcap) h.rs:=by rw[←hgr];exact hq3.ro
  have hgT:gr<w.heap.size:=hTT.r gr (by rw[hgr];rfl)
  have q0:=hro3.at (k:=eto.toNat) (by omega)
  have q1:=hro3.free eto.toNat
  have hqF:=hq3.setRoot hgr eto.toNat (-1)
  have hMF:Md B w.heap.size w (W3.setCell ⟨gr,eto.toNat,none⟩ (.int .i64 (-1))):=(Md.of hb0 hB).set (p:=⟨gr,eto.toNat,none⟩) (hro3.lt gr rfl).1 (Or.inl hgT) _
  have brF:=b0.br.other ⟨gr,eto.toNat,none⟩ (.int .i64 (-1)) (by dsimp only;omega)
  have cF:=c.root (z:=-1) ⟨by omega,by omega⟩ eto.toNat
  clear hqE hbE z0 z1 z2 z3
  obtain⟨hqE,hbE,z0,z1,z2,z3⟩:=Jo brF hqF hMF (by omega) (by omega) (.slice h.oa h.os.length h.ocap) (.slice (some ⟨gr,0,none⟩) h.rs.length h.rcap) (.slice h.wa h.ws.length h.wcap) (.slice h.da h.ds.length h.dcap) rfl (by simp[hgr]) rfl rfl
  have hne1:¬w.heap.size=gr:=by omega
  have hne2:¬gr=w.heap.size:=by omega
  clear hqF hMF brF
  go_wp2
  refine bodyPost_ret (v:=.tuple #[Hp.v {h with rs:=h.rs.set eto.toNat (-1)},.string ⟨#[111,107]⟩]) ?_ rfl ⟨{h with rs:=h.rs.set eto.toNat (-1)},⟨_,rfl⟩,cF,cF.fitQ hqE,hbE.be⟩
  simp[results,Tryz.results96,go_sem,z0,z1,z2,z3,Hp.v,hgr]
 have n4:(ek ==4)=false:=by simp[k4]
 by_cases k5:ek=5
 ·subst k5
  clear hqE hbE z0 z1 z2 z3
  have cc:=Qbv h ⟨5,eto,efr,ept,eo⟩ B w.heap.size W3 hq3 hB3 c hTT
  simp only[Hp.v,Ev.v,Ev.cs]at cc
  go_wp2_with fail
  refine cc.mono ?_
  rintro en w1 ⟨y,s,rfl,cy,hqy,hM⟩
  have br1:Blk w1 (w.heap.size+1+1) [Qhp none 0 0,Qhp none 0 0,Qhp none 0 0,Qhp none 0 0] 27:=by
   have:=hM.fr (w.heap.size+1+1) (by omega) b0.br.lt
   unfold Blk
   rw[this];exact b0.br
  clear x0 x1 x2 x3 y0 y1 y2 y3 y4 y5 y6 u0 u1 u2 u3 g0 g1 g2 g3
  obtain⟨r0,r1,r2,r3⟩:=Qd br1
  obtain⟨f0,f1,f2,f3⟩:=QF br1
  obtain⟨kq,bq⟩:=Q7 br1 (.slice y.oa y.os.length y.ocap) (.slice y.ra y.rs.length y.rcap) (.slice y.wa y.ws.length y.wcap) (.slice y.da y.ds.length y.dcap)
  obtain⟨z0,z1,z2,z3⟩:=Qd bq
  have hqE:=hqy.keep kq
  have hbE:=Z2 ((hb0.mono hB).trans hM.be) (C:=w.heap.size+1+1) (by omega) (.slice y.oa y.os.length y.ocap) (.slice y.ra y.rs.length y.rcap) (.slice y.wa y.ws.length y.wcap) (.slice y.da y.ds.length y.dcap)
  clear kq bq cc hM hqy
  go_wp2
  refine bodyPost_ret (v:=.tuple #[y.v,.string s]) ?_ rfl ⟨y,s,rfl,cy,cy.fitQ hqE,hbE⟩
  simp[results,Tryz.results96,go_sem,z0,z1,z2,z3,Hp.v]
 have n5:(ek ==5)=false:=by simp[k5]
 by_cases k6:ek=6
 ·subst k6
  obtain⟨h0,h1⟩:=h01 (by omega)
  clear hqE hbE z0 z1 z2 z3
  have cc:=Qcv h ⟨6,eto,efr,ept,eo⟩ B w.heap.size W3 hq3 hB3 c hTT h0 h1
  simp only[Hp.v,Ev.v,Ev.cs]at cc
  go_wp2_with fail
  refine cc.mono ?_
  rintro en w1 ⟨y,s,rfl,cy,hqy,hM⟩
  have br1:Blk w1 (w.heap.size+1+1) [Qhp none 0 0,Qhp none 0 0,Qhp none 0 0,Qhp none 0 0] 27:=by
   have:=hM.fr (w.heap.size+1+1) (by omega) b0.br.lt
   unfold Blk
   rw[this];exact b0.br
  clear x0 x1 x2 x3 y0 y1 y2 y3 y4 y5 y6 u0 u1 u2 u3 g0 g1 g2 g3
  obtain⟨r0,r1,r2,r3⟩:=Qd br1
  obtain⟨f0,f1,f2,f3⟩:=QF br1
  obtain⟨kq,bq⟩:=Q7 br1 (.slice y.oa y.os.length y.ocap) (.slice y.ra y.rs.length y.rcap) (.slice y.wa y.ws.length y.wcap) (.slice y.da y.ds.length y.dcap)
  obtain⟨z0,z1,z2,z3⟩:=Qd bq
  have hqE:=hqy.keep kq
  have hbE:=Z2 ((hb0.mono hB).trans hM.be) (C:=w.heap.size+1+1) (by omega) (.slice y.oa y.os.length y.ocap) (.slice y.ra y.rs.length y.rcap) (.slice y.wa y.ws.length y.wcap) (.slice y.da y.ds.length y.dcap)
  clear kq bq cc hM hqy
  go_wp2
  refine bodyPost_ret (v:=.tuple #[y.v,.string s]) ?_ rfl ⟨y,s,rfl,cy,cy.fitQ hqE,hbE⟩
  simp[results,Tryz.results96,go_sem,z0,z1,z2,z3,Hp.v]
 have n6:(ek ==6)=false:=by simp[k6]
 by_cases k7:ek=7
 ·subst k7
  clear hqE hbE z0 z1 z2 z3
  have cc:=Qf8 h W3 (c.fitQ hq3)
  simp only[Hp.v]at cc
  go_wp2_with fail
  refine cc.mono ?_
  rintro en w1 ⟨y,v,rfl,cy,fy,hM⟩
  have br1:=b0.br.below hM b0.br.lt
  clear x0 x1 x2 x3 y0 y1 y2 y3 y4 y5 y6 u0 u1 u2 u3 g0 g1 g2 g3
  have hA:Below w1.heap.size w1 (w1.alloc (Obj.cells #[Qhp y.oa y.os.length y.ocap,Qhp y.ra y.rs.length y.rcap,Qhp y.wa y.ws.length y.wcap,Qhp y.da y.ds.length y.dcap] 27)):=(Below.refl _ _).alloc (Qhq _) _
  have bX:=Blk.new w1 [Qhp y.oa y.os.length y.ocap,Qhp y.ra y.rs.length y.rcap,Qhp y.wa y.ws.length y.wcap,Qhp y.da y.ds.length y.dcap] 27
  have br2:=br1.below hA br1.lt
  obtain⟨x0,x1,x2,x3⟩:=Qd bX
  obtain⟨r0,r1,r2,r3⟩:=Qd br2
  obtain⟨f0,f1,f2,f3⟩:=QF br2
  obtain⟨r4,r5,r6,r7⟩:=Qd br1
  obtain⟨f4,f5,f6,f7⟩:=QF br1
  obtain⟨kq,bq⟩:=Q7 br1 (.slice y.oa y.os.length y.ocap) (.slice y.ra y.rs.length y.rcap) (.slice y.wa y.ws.length y.wcap) (.slice y.da y.ds.length y.dcap)
  have hlt:=br1.lt
  have hne1:¬w1.heap.size=w.heap.size+1+1:=by omega
  have hne2:¬w.heap.size+1+1=w1.heap.size:=by omega
  have hb4:=Z2 ((hb0.mono hB).trans (hM.mono hB3)) (C:=w.heap.size+1+1) (by omega) (.slice y.oa y.os.length y.ocap) (.slice y.ra y.rs.length y.rcap) (.slice y.wa y.ws.length y.wcap) (.slice y.da y.ds.length y.dcap)
  have hA4:Below ((((w1.setCell ⟨w.heap.size+1+1,0,none⟩ (.slice y.oa y.os.length y.ocap)).setCell ⟨w.heap.size+1+1,1,none⟩ (.slice y.ra y.rs.length y.rcap)).setCell ⟨w.heap.size+1+1,2,none⟩ (.slice y.wa y.ws.length y.wcap)).setCell ⟨w.heap.size+1+1,3,none⟩ (.slice y.da y.ds.length y.dcap)).heap.size ((((w1.setCell ⟨w.heap.size+1+1,0,none⟩ (.slice y.oa y.os.length y.ocap)).setCell ⟨w.heap.size+1+1,1,none⟩ (.slice y.ra y.rs.length y.rcap)).setCell ⟨w.heap.size+1+1,2,none⟩ (.slice y.wa y.ws.length y.wcap)).setCell ⟨w.heap.size+1+1,3,none⟩ (.slice y.da y.ds.length y.dcap)) (((((w1.setCell ⟨w.heap.size+1+1,0,none⟩ (.slice y.oa y.os.length y.ocap)).setCell ⟨w.heap.size+1+1,1,none⟩ (.slice y.ra y.rs.length y.rcap)).setCell ⟨w.heap.size+1+1,2,none⟩ (.slice y.wa y.ws.length y.wcap)).setCell ⟨w.heap.size+1+1,3,none⟩ (.slice y.da y.ds.length y.dcap)).alloc (Obj.cells #[Qhp y.oa y.os.length y.ocap,Qhp y.ra y.rs.length y.rcap,Qhp y.wa y.ws.length y.wcap,Qhp y.da y.ds.length y.dcap] 27)):=(Below.refl _ _).alloc (Qhq _) _
  have bq4:=bq.below hA4 bq.lt
  obtain⟨z0,z1,z2,z3⟩:=Qd bq4
  have fE:=fy _ (kq.trans (Qh.below _ hA4 (Qhq _)))
  have hbE:=hb4.trans (hA4.mono (Qht hB hb4.size))
  clear kq bq cc hM fy br1 br2 bX hA hA4 bq4 hb4
  go_wp2
  refine bodyPost_ret (v:=.tuple #[y.v,.string ⟨#[111,107]⟩]) ?_ rfl ⟨y,_,rfl,cy,fE,hbE⟩
  clear fE hbE
  generalize ((((w1.setCell ⟨w.heap.size+1+1,0,none⟩ (.slice y.oa y.os.length y.ocap)).setCell ⟨w.heap.size+1+1,1,none⟩ (.slice y.ra y.rs.length y.rcap)).setCell ⟨w.heap.size+1+1,2,none⟩ (.slice y.wa y.ws.length y.wcap)).setCell ⟨w.heap.size+1+1,3,none⟩ (.slice y.da y.ds.length y.dcap)).alloc (Obj.cells #[Qhp y.oa y.os.length y.ocap,Qhp y.ra y.rs.length y.rcap,Qhp y.wa y.ws.length y.wcap,Qhp y.da y.ds.length y.dcap] 27)=WE at z0 z1 z2 z3⊢
  simp[results,Tryz.results96,go_sem,z0,z1,z2,z3,Hp.v]
 have n7:(ek ==7)=false:=by simp[k7]
 clear k1 k2 k3 k4 k5 k6 k7
 ·go_wp2
  refine bodyPost_ret (v:=.tuple #[h.v,.string ⟨#[110,111]⟩]) ?_ rfl ⟨h,⟨_,rfl⟩,c,c.fitQ hqE,hbE.be⟩
  simp[results,Tryz.results96,go_sem,z0,z1,z2,z3,Hp.v]
def Ob.part (o:Ob)(k:Nat)(z:Int):Ob:={o with r:=o.r.set k z}
theorem Ob.part_rv (o:Ob)(k:Nat)(z:Int):(o.part k z).rv=o.rv:=by simp[Ob.part,Ob.rv]
theorem Ob.part_cs (o:Ob)(k:Nat)(z:Int):(o.part k z).cs=o.cs:=by simp[Ob.part,Ob.cs]
theorem QdU {n:Int}{o:Ob}(h:Qs n o.p=true){z:Int}(hz:-1≤z∧z<n)(k:Nat):Qs n (o.part k z).p=true:=by
 simp only[Qs,Ob.p,Ob.part,Bool.and_eq_true,Qhr]at *
 refine⟨?_,h.2⟩
 have h1:=h.1
 unfold QV at *
 rw[List.all_eq_true]at *
 intro y hy
 rcases List.mem_or_eq_of_mem_set hy with hy|hy
 ·exact h1 y hy
 ·subst hy;simp[inB];omega
theorem Ol {os:List Ob}{i:Nat}(hi:i<os.length)(k:Nat)(z:Int){p:Int×Int}(h:Qp (os.map Ob.p) p=true):Qp ((os.set i (os[i].part k z)).map Ob.p) p=true:=by
 simp only[Qp,List.length_map,Qhr]at *
 have e:((os.set i (os[i].part k z)).map Ob.p)[p.1.toNat]?.map (fun o=>o.1)=(os.map Ob.p)[p.1.toNat]?.map (fun o=>o.1):=by
  simp only[List.getElem?_map,List.getElem?_set,Option.map_map]
  by_cases hj:i=p.1.toNat
  ·rw[if_pos hj,←hj,if_pos hi]
   simp[Ob.p,Ob.part,hi]
  ·rw[if_neg hj]
 rw[e];exact h
theorem OkC.part {h:Hp}(c:OkC h){i:Nat}(hi:i<h.os.length){z:Int}(hz:-1≤z∧z<h.os.length)(k:Nat):OkC {h with os:=h.os.set i (h.os[i].part k z)}:=by
 refine⟨by simpa using c.n60,c.r8,c.w20,fun j hj=>?_,fun y hy=>?_,fun p hp=>Ol hi k z (c.wo p hp),fun p hp=>Ol hi k z (c.dd p hp)⟩
 ·simp only[Qhr]at hj⊢
  rw[Qhu]
  split
  ·exact QdU (c.ob i hi) hz k
  ·exact c.ob j hj
 ·simp only[Qhr];exact c.ro y hy
theorem Ql.setPart {w:World}{B:Nat}{h:Hp}(hq:Ql w B h){i:Nat}(hi:i<h.os.length){g:Nat}(hg:h.os[i].ra=some ⟨g,0,none⟩)(k:Nat)(z:Int):Ql (w.setCell ⟨g,k,none⟩ (.int .i64 z)) B {h with os:=h.os.set i (h.os[i].part k z)}:=by
 have hri:=hq.rs i hi
 have hri':Qa w B (.slice (some ⟨g,0,none⟩) h.os[i].r.length h.os[i].rcap) h.os[i].r:=by rw[←hg];exact hri
 have hgo:h.os[i].rv.ownBlock=some g:=by unfold Ob.rv;rw[hg];rfl
 have hne:∀ {base e size n:Nat} {v:Value} {xs:List Value},w.ownsRow base e size v n xs→e≠3→v.ownBlock≠some g:=fun hr he e1=>by
  obtain⟨c1,q1⟩:=Zx hr e1
  obtain⟨c2,q2⟩:=Zx hri' rfl
  rw[q1]at q2
  simp at q2
  exact he q2.2
 have hfl:(h.os.set i (h.os[i].part k z)).flatMap Ob.cs=h.os.flatMap Ob.cs:=by
  rw[List.flatMap_def,List.flatMap_def,List.map_set,Ob.part_cs]
  congr 1
  rw[←List.getElem_map (f:=Ob.cs) (h:=by simpa using hi)]
  exact List.set_getElem_self _
 have hrv:∀j (hj:j<(h.os.set i (h.os[i].part k z)).length),(h.os.set i (h.os[i].part k z))[j].rv=(h.os[j]'(by simpa using hj)).rv:=fun j hj=>by
  rw[Qhu]
  split
  ·rename_i e;subst e;exact Ob.part_rv _ _ _
  ·rfl
 refine⟨?_,fun j hj=>?_,fun j l hj hl hjl=>?_,?_,fun j hj=>?_,ownsRow_setCell_other hq.wa (hne hq.wa (by decide)) _,ownsRow_setCell_other hq.da (hne hq.da (by decide)) _,hq.wne⟩
 ·have:=ownsRow_setCell_other hq.ob (a:=⟨g,k,none⟩) (hne hq.ob (by decide)) (.int .i64 z)
  unfold Qu
  simp only[hfl,Qhr]
  exact this
 ·have hj':j<h.os.length:=by simpa using hj
  simp only[Qhu]
  by_cases e:i=j
  ·subst e
   simp only[if_true]
   have:=hri'.set rfl (k:=k) z
   unfold Ob.part Ob.rv
   simp only[hg,Qhr]
   exact this
  ·simp only[if_neg e]
   exact ownsRow_setCell_other (hq.rs j hj') (fun e1=>hq.rne i j hi hj' e g hgo e1) _
 ·simp only[hrv]
  exact hq.rne j l (by simpa using hj) (by simpa using hl) hjl
 ·exact ownsRow_setCell_other hq.ro (fun e1=>hq.rro i hi g hgo e1) _
 ·simp only[hrv]
  exact hq.rro j (by simpa using hj)
end
end Go.Proofs.YtcpnkpogebjieaaGreat
