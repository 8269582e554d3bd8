/- The law on guardians: the heap that it draws. -/
import Derived.Test.YtcpnkpogebjieaaGreatG45Vk
import Derived.Test.YtcpnkpogebjieaaGreatG43Ew
import Derived.Test.YtcpnkpogebjieaaGreatG52Erz
import Derived.Test.YtcpnkpogebjieaaGreatG37Vj
open Go.Value renaming slice→Qhp,int→Qhq
open Nat renaming le_refl→Qhr,le_trans→Qhv
open Go.Obj renaming cells→Qhs
open List renaming getElem?_cons_zero→Qht,getElem?_cons_succ→Qhu,getElem?_eq_getElem→Qhw
set_option maxRecDepth 100000
set_option maxHeartbeats 8000000
namespace Go.Proofs.YtcpnkpogebjieaaGreat
namespace Co
open Go.RowKit
set_option linter.unusedSimpArgs false
theorem Qdq (v:Value):(#[v]++Array.replicate 129 undef:Array Value)=#[v,undef,undef,undef,undef,undef,undef,undef,undef,undef,undef,undef,undef,undef,undef,undef,undef,undef,undef,undef,undef,undef,undef,undef,undef,undef,undef,undef,undef,undef,undef,undef,undef,undef,undef,undef,undef,undef,undef,undef,undef,undef,undef,undef,undef,undef,undef,undef,undef,undef,undef,undef,undef,undef,undef,undef,undef,undef,undef,undef,undef,undef,undef,undef,undef,undef,undef,undef,undef,undef,undef,undef,undef,undef,undef,undef,undef,undef,undef,undef,undef,undef,undef,undef,undef,undef,undef,undef,undef,undef,undef,undef,undef,undef,undef,undef,undef,undef,undef,undef,undef,undef,undef,undef,undef,undef,undef,undef,undef,undef,undef,undef,undef,undef,undef,undef,undef,undef,undef,undef,undef,undef,undef,undef,undef,undef,undef,undef,undef,undef]:=by kernel_rfl
theorem UC (T:Array Value)(h:T.size=130):∃f:Nat→Value,T=#[f 0,f 1,f 2,f 3,f 4,f 5,f 6,f 7,f 8,f 9,f 10,f 11,f 12,f 13,f 14,f 15,f 16,f 17,f 18,f 19,f 20,f 21,f 22,f 23,f 24,f 25,f 26,f 27,f 28,f 29,f 30,f 31,f 32,f 33,f 34,f 35,f 36,f 37,f 38,f 39,f 40,f 41,f 42,f 43,f 44,f 45,f 46,f 47,f 48,f 49,f 50,f 51,f 52,f 53,f 54,f 55,f 56,f 57,f 58,f 59,f 60,f 61,f 62,f 63,f 64,f 65,f 66,f 67,f 68,f 69,f 70,f 71,f 72,f 73,f 74,f 75,f 76,f 77,f 78,f 79,f 80,f 81,f 82,f 83,f 84,f 85,f 86,f 87,f 88,f 89,f 90,f 91,f 92,f 93,f 94,f 95,f 96,f 97,f 98,f 99,f 100,f 101,f 102,f 103,f 104,f 105,f 106,f 107,f 108,f 109,f 110,f 111,f 112,f 113,f 114,f 115,f 116,f 117,f 118,f 119,f 120,f 121,f 122,f 123,f 124,f 125,f 126,f 127,f 128,f 129]:=by
 have e:=QbC T
 rw[h]at e
 exact⟨fun i=>T.getD i undef,e⟩
def Gd1 (u:World)(c:Code)(a:Act)(w1:World):Prop:=
 c=gdC∧a.defers=[]∧a.tmps.size=130∧Below u.heap.size u w1∧∃(b3:Nat) (y:Hp),a.tmps[3]? =some (.pointer (some ⟨b3,0,none⟩))∧Blk w1 b3 (Hp.cells y) 27∧Fit w1 y
def GdR (u:World)(a:Act)(w1:World):Prop:=a.defers=[]∧a.tmps.size=130∧a.tmps[2]? =some (.bool true)∧Below u.heap.size u w1
theorem Qex (a:Option Addr)(cap:Nat)(bs:List Int)(u:World)(hcap:bs.length≤cap)(hm:cap≤maxLen)(hby:∀x∈bs,0≤x∧x<256)(hs:0<bs.length→∃b off,a=some ⟨b,off,none⟩∧b<u.heap.size∧∀i (hi:i<bs.length),u.cell? ⟨b,off+i,none⟩=some (.int .u8 bs[i])):
 chain Cut.prog (Gd1 u) (GdR u) 3 gdB ⟨#[.slice a bs.length cap]++Array.replicate 129 undef,[]⟩ u:=by
 rw[Qdq]
 have c1:=Qc8 a cap bs u hcap hm hby hs
 unfold maxLen at hm
 simp only[gdB,Tryz.f4,chain]
 go_wp2
 simp only[Z9,chain]
 by_cases hn:1048576<bs.length
 ·have hd:decide ((1048576:Int)<(bs.length:Int))=true:=decide_eq_true (by omega)
  go_wp2
  exact⟨rfl,rfl,rfl,Below.refl _ _⟩
 have hd:decide ((1048576:Int)<(bs.length:Int))=false:=decide_eq_false (by omega)
 go_wp2
 simp only[Z9,chain]
 go_wp2_with fail
 refine c1.mono ?_
 rintro e w1 ⟨y,rfl,hf,hb1⟩
 have hK:=Blk.new w1 [Qhp y.oa y.os.length y.ocap,Qhp y.ra y.rs.length y.rcap,Qhp y.wa y.ws.length y.wcap,Qhp y.da y.ds.length y.dcap] 27
 have hA:Below w1.heap.size w1 (w1.alloc (Qhs #[Qhp y.oa y.os.length y.ocap,Qhp y.ra y.rs.length y.rcap,Qhp y.wa y.ws.length y.wcap,Qhp y.da y.ds.length y.dcap] 27)):=(Below.refl _ _).alloc (Qhr _) _
 have hf2:=(hf w1 (Qh.refl _ _)).below hA (Qhr _)
 have hB:=hb1.trans (hA.mono hb1.size)
 clear c1 hf hb1 hA hs
 simp only[Hp.v]
 go_wp2
 exact⟨rfl,rfl,rfl,hB,w1.heap.size,y,rfl,hK,hf2⟩
end Co
namespace Co
open Go.Conc Go.ConcN Go.RowKit Go.Conc.Lib Go.ConcR.Gen
open Go.ConcR (DC0)
set_option linter.unusedSimpArgs false
theorem Yb {E E':World}{y:Hp}(h:Fit E y)(o:On E E'):Fit E' y:=⟨Qg.heap h.isIn o.1 o.2,h.small,h.txt,h.cap⟩
theorem K4 {E E':World}{a:Option Addr}{xs:List Int}(h:Qk E a xs)(o:On E E'):Qk E' a xs:=fun hm=>by
 obtain⟨b,off,h1,h2,h3⟩:=h hm
 exact⟨b,off,h1,Nat.lt_of_lt_of_le h2 o.1,fun i hi=>(cell_of_block (o.2 b h2) _).trans (h3 i hi)⟩
theorem Kn {X:Nat→Bool}{a:Act}{c:Code}(hd:a.defers=[])(hc:QO Tryz.progTables c=true):FOk Tryz.progTables Cut.keep X ((base 4).at a [.code c]):=
 ⟨by kernel_rfl,(fun i hi=>by
   have hi':i∈[Item.code c]:=hi
   simp only[List.mem_cons,List.not_mem_nil,or_false]at hi'
   subst hi'
   exact hc),(fun d hq=>by
   have:d∈a.defers:=hq
   rw[hd]at this
   simp at this),rfl,fun l hl=>by cases hl⟩
noncomputable def Vk:Array Oper:=match gdC with
 | .seq (.region _ ops _) _=>ops
 |_=>#[]
noncomputable def Ko (T:Array Value):Frame:=(base 4).at ⟨T,[]⟩ [.inRegion Vk [1,2,3,4,5,6,7],.code gdF]
def U2 (X0:Nat→Bool)(w0:World)(X:Nat→Bool)(g:Goroutine)(w:World):Prop:=
 ∃fr:Frame,g=G fr []∧fr.mode=.returning∧fr.defers=[]∧fr.kind=.normal∧fr.fn=4∧fr.tmps.getD 2 undef=.bool true∧LA X0 w0 X w
def Pm (X0:Nat→Bool)(w0:World)(g:Goroutine)(w:World):Prop:=
 ∃(T:Array Value) (b3:Nat) (y:Hp),T.size=130∧T[3]? =some (.pointer (some ⟨b3,0,none⟩))∧g=G (Frame.enter Tryz.prog 8 #[Hp.v y] .normal) [Ko T]∧LS X0 w0 X0 (fun E=>Blk E b3 (Hp.cells y) 27∧Fit E y) w
section
variable {X:Nat→Bool} {Ch:Nat}
theorem QdK {w0:World}{T:Array Value}{b3:Nat}{y:Hp}(hT:T.size=130)(t3:T[3]? =some (.pointer (some ⟨b3,0,none⟩))){w:World}(hI:LS X w0 X (fun E=>Blk E b3 (Hp.cells y) 27∧Fit E y) w):
 Qt Tryz.prog X Ch (Pm X w0) (G ((base 4).at ⟨T,[]⟩ [.code gdC]) []) w:=by
 obtain⟨f,rfl⟩:=UC T hT
 simp only[List.getElem?_toArray,Qht,Qhu,Option.some.injEq]at t3
 rw[t3]
 clear t3 hT
 have e1:gdC=.seq (.region 4 Vk false) gdF:=rfl
 obtain⟨D0,hD0⟩:∃D0,D0=gdF:=⟨_,rfl⟩
 rw[e1,←hD0]
 refine QI (n:=30) ?_
 u_c stepG_seq LS.rely hI
 simp only[Vk,gdC,gdB,Tryz.f4]
 u_reg LS.rely hI
 refine Goes.stop (fun w3 h3=>?_)
 replace hI:=LS.rely hI h3
 clear h3
 refine ZL rfl (fun w4 h4=>?_)
 have hz:=ZR h4
 replace hI:=LS.rely hI h4
 clear h4
 obtain⟨xb,kb⟩:=Qdm (show Blk (emW X w4) b3 [Qhp y.oa y.os.length y.ocap,Qhp y.ra y.rs.length y.rcap,Qhp y.wa y.ws.length y.wcap,Qhp y.da y.ds.length y.dcap] _ from hI.p.1)
 have hl:=kb.lt
 refine goes_oper_k rfl rfl (by decide) (fun K hK=>?_)
 obtain⟨c0,c1,c2,c3⟩:=Qc kb
 go_simp
 refine hK _ _ ⟨⟨hz,fun B hB e he=>?_⟩,?_⟩
 ·have hm:=mem_listed he
  simp[go_sem,c0,c1,c2,c3]at hm
  rcases hm with rfl|rfl|rfl|rfl<;>exact⟨xb,by show b3<B;omega⟩
 clear hK K hz c0 c1 c2 c3 hl kb xb
 refine QI (n:=5) ?_
 u_in LS.rely hI
 refine goes_call rfl rfl (by decide) rfl Tryz.func8 rfl rfl ⟨by u_nil,?_⟩
 rw[←enter_at _ Tryz.func8 rfl]
 simp only[List.map_toArray,List.map_cons,List.map_nil,Act.eval,Array.getD_eq_getD_getElem?,List.getElem?_toArray,Qhu,Qht,Option.getD_some]
 refine Goes.stop (fun w6 h6=>.stop ?_)
 replace hI:=LS.rely hI h6
 rw[hD0]
 exact⟨_,b3,y,rfl,rfl,rfl,hI⟩
theorem QdG {a:Option Addr}{cap:Nat}{bs:List Int}{w:World}(hcap:bs.length≤cap)(hm:cap≤maxLen)(hby:∀x∈bs,0≤x∧x<256)(hsc:0<bs.length→∃b off,a=some ⟨b,off,none⟩∧b<w.heap.size∧∀i (hi:i<bs.length),(emW X w).cell? ⟨b,off+i,none⟩=some (.int .u8 bs[i]))(hs:Sn X w):
 Qt Tryz.prog X Ch (fun g w1=>Pm X w g w1∨U2 X w X g w1) (G (Frame.enter Tryz.prog 4 #[.slice a bs.length cap] .normal) []) w:=by
 rw[enter_at _ Tryz.func4 (show Tryz.f4.body=some gdB from rfl)]
 have hA:LA X w X w:=⟨fun _ _=>⟨rfl,rfl⟩,Qhr _,hs,.refl _⟩
 have hok:QO Tryz.progTables gdB=true:=by kernel_rfl
 refine V2 3 hs (Kn rfl hok) (R:=fun c a w2=>∃u:World,(u.heap=(emW X w).heap∧OO u w)∧Gd1 u c a w2) (Rr:=fun a w2=>∃u:World,(u.heap=(emW X w).heap∧OO u w)∧GdR u a w2) (fun t d=>?_) (fun c' a' w2 w2' hE hS hK hFO hR=>?_) (fun a' todo w2 w2' hE hS hK hFO hR=>?_)
 ·have h1:=Qex a cap bs {emW X w with tape:=t,drawn:=d} hcap hm hby (fun hp=>by
   obtain⟨b,off,e1,e2,e3⟩:=hsc hp
   exact⟨b,off,e1,by show b<(emW X w).heap.size;rw[QD];exact e2,e3⟩)
  exact Uu h1 (fun c a _ hq=>⟨{emW X w with tape:=t,drawn:=d},⟨rfl,rfl,rfl⟩,hq⟩) (fun a _ hq=>⟨{emW X w with tape:=t,drawn:=d},⟨rfl,rfl,rfl⟩,hq⟩)
 ·obtain⟨u,⟨hu,huo⟩,rfl,r1,r2,hB,b3,y,t3,kb,hf⟩:=hR
  obtain⟨T,D⟩:=a'
  simp only at r1 r2 t3
  subst r1
  have us:u.heap.size=w.heap.size:=by rw[hu,QD]
  rw[us]at hB
  refine Qbc (QdK r2 t3 ⟨hA.piece rfl hu huo hE hS hK hB,fun _ _ o l=>⟨Jd l.1 o,Yb l.2 o⟩,Jd kb (KM hE),Yb hf (KM hE)⟩) fun g w hg=>.inl hg
 ·obtain⟨u,⟨hu,huo⟩,r1,r2,r3,hB⟩:=hR
  have us:u.heap.size=w.heap.size:=by rw[hu,QD]
  rw[us]at hB
  exact .stop (.inr ⟨_,rfl,rfl,r1,rfl,rfl,by
   show a'.tmps.getD 2 undef=_
   rw[Array.getD_eq_getD_getElem?,r3]
   rfl,hA.piece rfl hu huo hE hS hK hB⟩)
end
end Co
namespace Co
open Go.RowKit
set_option linter.unusedSimpArgs false
theorem Qg1 (y:Hp)(v:Value)(w:World):Calls Cut.prog 18 #[y.v,v] w fun e w'=>e=.returned y.v∧Below w.heap.size w w':=by
 obtain⟨oa,ocap,os,ra,rcap,rs,wa,wcap,ws,da,dcap,ds⟩:=y
 simp only[Hp.v]
 go_enter (Cut.func_of Tryz.func18 rfl),Tryz.ntmps18
 have hB:Below w.heap.size w ((w.alloc (Qhs #[Qhp oa os.length ocap,Qhp ra rs.length rcap,Qhp wa ws.length wcap,Qhp da ds.length dcap] 27)).alloc (Qhs #[Qhp oa os.length ocap,Qhp ra rs.length rcap,Qhp wa ws.length wcap,Qhp da ds.length dcap] 27)):=((Below.refl _ _).alloc (Qhr _) _).alloc (by simp) _
 have hK:Blk ((w.alloc (Qhs #[Qhp oa os.length ocap,Qhp ra rs.length rcap,Qhp wa ws.length wcap,Qhp da ds.length dcap] 27)).alloc (Qhs #[Qhp oa os.length ocap,Qhp ra rs.length rcap,Qhp wa ws.length wcap,Qhp da ds.length dcap] 27)) (w.heap.size+1) [Qhp oa os.length ocap,Qhp ra rs.length rcap,Qhp wa ws.length wcap,Qhp da ds.length dcap] 27:=by
  have:=Blk.new (w.alloc (Qhs #[Qhp oa os.length ocap,Qhp ra rs.length rcap,Qhp wa ws.length wcap,Qhp da ds.length dcap] 27)) [Qhp oa os.length ocap,Qhp ra rs.length rcap,Qhp wa ws.length wcap,Qhp da ds.length dcap] 27
  rw[World.size_alloc]at this
  exact this
 go_wp2
 generalize (w.alloc (Qhs #[Qhp oa os.length ocap,Qhp ra rs.length rcap,Qhp wa ws.length wcap,Qhp da ds.length dcap] 27)).alloc (Qhs #[Qhp oa os.length ocap,Qhp ra rs.length rcap,Qhp wa ws.length wcap,Qhp da ds.length dcap] 27)=w2 at *
 obtain⟨z0,z1,z2,z3⟩:=Qc hK
 refine bodyPost_ret (v:=.agg #[Qhp oa os.length ocap,Qhp ra rs.length rcap,Qhp wa ws.length wcap,Qhp da ds.length dcap]) ?_ rfl ⟨rfl,hB⟩
 simp[results,Tryz.results18,go_sem,z0,z1,z2,z3]
section
variable {h x:Hp} {b3 b4:Nat} {ms:List Int} {r q:Nat}
theorem QeA (v0 v1 v2 v5 v6 v9 v10 v11 v12 v13 v14 v15 v16 v17 v18 v19 v20 v21 v22 v23 v24 v25 v26 v27 v28 v29 v30 v31 v32 v33 v34 v35 v36 v37 v38 v39 v40 v41 v42 v43 v44 v45 v46 v47 v48 v49 v50 v51 v52 v53 v54 v55 v56 v57 v58 v59 v60 v61 v62 v63 v64 v65 v66 v67 v68 v69 v70 v71 v72 v73 v74 v75 v76 v77 v78 v79 v80 v81 v82 v83 v84 v85 v86 v87 v88 v89 v90 v91 v92 v93 v94 v95 v96 v97 v98 v99 v100 v101 v102 v103 v104 v105 v106 v107 v108 v109 v110 v111 v112 v113 v114 v115 v116 v117 v118 v119 v120 v121 v122 v123 v124 v125 v126 v127 v128 v129:Value)(E:World)(k3:Blk E b3 (Hp.cells h) 27)(hf:Fit E h)(k4:Blk E b4 (Hp.cells x) 27)(hx:Qg E x)(hsx:Zl x)(hw20:h.ws.length+h.ds.length≤20)(hok:okP h.p=true)(an:∀yy mm,CoP h.p yy mm→yy=x.p∧mm=ms)
 (hr:r≤x.ds.length)(hq:q≤x.ws.length)(hsum:x.ws.length+x.ds.length≤h.ws.length+h.ds.length):
 gdH.wp Cut.prog (Z9 (fun _ _=>False) (fun a w1=>a.defers=[]∧a.tmps.size=130∧a.tmps[2]? =some (.bool true)∧Below E.heap.size E w1)) ⟨#[v0,v1,v2,.pointer (some ⟨b3,0,none⟩),.pointer (some ⟨b4,0,none⟩),v5,v6,.int .i64 (r:Nat),.int .i64 (q:Nat),v9,v10,v11,v12,v13,v14,v15,v16,v17,v18,v19,v20,v21,v22,v23,v24,v25,v26,v27,v28,v29,v30,v31,v32,v33,v34,v35,v36,v37,v38,v39,v40,v41,v42,v43,v44,v45,v46,v47,v48,v49,v50,v51,v52,v53,v54,v55,v56,v57,v58,v59,v60,v61,v62,v63,v64,v65,v66,v67,v68,v69,v70,v71,v72,v73,v74,v75,v76,v77,v78,v79,v80,v81,v82,v83,v84,v85,v86,v87,v88,v89,v90,v91,v92,v93,v94,v95,v96,v97,v98,v99,v100,v101,v102,v103,v104,v105,v106,v107,v108,v109,v110,v111,v112,v113,v114,v115,v116,v117,v118,v119,v120,v121,v122,v123,v124,v125,v126,v127,v128,v129],[]⟩ E:=by
 obtain⟨x0,x1,x2,x3⟩:=QB (show Blk E b3 [Qhp h.oa h.os.length h.ocap,Qhp h.ra h.rs.length h.rcap,Qhp h.wa h.ws.length h.wcap,Qhp h.da h.ds.length h.dcap] _ from k3)
 obtain⟨y0,y1,y2,y3⟩:=QB (show Blk E b4 [Qhp x.oa x.os.length x.ocap,Qhp x.ra x.rs.length x.rcap,Qhp x.wa x.ws.length x.wcap,Qhp x.da x.ds.length x.dcap] _ from k4)
 have q1:decide ((x.ds.length:Int)<(r:Int))=false:=decide_eq_false (by omega)
 have q2:decide ((x.ws.length:Int)<(q:Int))=false:=decide_eq_false (by omega)
 have q3:decide ((h.ws.length:Int)+(h.ds.length:Int)<(x.ws.length:Int)+(x.ds.length:Int))=false:=decide_eq_false (by omega)
 have hdr:Below E.heap.size E E.drew:=(Below.refl _ _).drew
 have c1:=QaA h E.drew (hf.below hdr (Qhr _))
 have HAN:Hid (okP h.p=true∧∀yy mm,CoP h.p yy mm→yy=x.p∧mm=ms):=⟨hok,an⟩
 clear hok an
 simp only[Hp.v]at c1
 simp only[gdH,gdG,gdF,gdC,gdB,Tryz.f4]
 go_wp2_with fail
 have k3d:=(show Blk E b4 [Qhp x.oa x.os.length x.ocap,Qhp x.ra x.rs.length x.rcap,Qhp x.wa x.ws.length x.wcap,Qhp x.da x.ds.length x.dcap] _ from k4).below hdr k4.lt
 have hxd:=hx.below hdr (Qhr _)
 go_region_with (first
  |(go_at_call 9;refine c1.mono ?_;rintro e w1 ⟨y,v,ms',rfl,hyc,hyf,-,-,hco,hb1⟩;have kX:=k3d.below hb1 k3d.lt;obtain⟨z0,z1,z2,z3⟩:=QB kX;have c2:=Qg1 y v w1;simp only[Hp.v]at c2)
  |(go_at_call 18;refine c2.mono ?_;rintro e w2 ⟨rfl,hb2⟩;have kY:=kX.below hb2 kX.lt;obtain⟨z4,z5,z6,z7⟩:=QB kY;have c3:=Qa1 x y w2 ((HAN.out.2 y.p ms' (hco HAN.out.1)).1.symm) ((hxd.below hb1 (Qhr _)).below hb2 (Qhr _)) ((hyf _ (Qh.refl _ _)).isIn.below hb2 (Qhr _)) hsx;simp only[Hp.v]at c3)
  |(go_at_call 10;refine c3.mono ?_;rintro e w3 ⟨rfl,hb3⟩))
 all_goals
  have hB1:=hdr.trans (hb1.mono hdr.size)
  have hB2:=hB1.trans (hb2.mono hB1.size)
  have hB3:=hB2.trans (hb3.mono hB2.size)
  clear c1 c2 c3 kX kY z0 z1 z2 z3 z4 z5 z6 z7 x0 x1 x2 x3 y0 y1 y2 y3 hb1 hb2 hb3
  go_wp2
  exact⟨rfl,rfl,rfl,hB3⟩
end
section
variable {h x:Hp} {b3 b4:Nat} {ga:Option Addr} {gcap:Nat} {ms:List Int} {la:Option Addr} {lcap:Nat} {L:List Int} {r0:Nat}
theorem Ud {a b:Int}(h:a=b):Qhq .i64 a=Qhq .i64 b:=by rw[h]
def GW (x:Hp)(ms:List Int)(L:List Int)(p:Int×Int):Prop:=
 p.1∈L→(0≤p.1∧p.1.toNat<ms.length∧0≤p.2∧p.2.toNat<ms.length)∧(p.2∈L→(ms.getD p.1.toNat 0,ms.getD p.2.toNat 0)∈x.ws)∧(p.2∉L→(ms.getD p.1.toNat 0,ms.getD p.2.toNat 0)∈x.ds)
theorem Qez (v0 v1 v2 v9 v10 v11 v12 v13 v14 v15 v16 v17 v18 v19 v20 v21 v22 v23 v24 v25 v26 v27 v28 v29 v30 v31 v32 v33 v34 v35 v36 v37 v38 v39 v40 v41 v42 v43 v44 v45 v46 v47 v48 v49 v50 v51 v52 v53 v54 v55 v56 v57 v58 v59 v60 v61 v62 v63 v64 v65 v66 v67 v68 v69 v70 v71 v72 v73 v74 v75 v76 v77 v78 v79 v80 v81 v82 v83 v84 v85 v86 v87 v88 v89 v90 v91 v92 v93 v94 v95 v96 v97 v98 v99 v100 v101 v102 v103 v104 v105 v106 v107 v108 v109 v110 v111 v112 v113 v114 v115 v116 v117 v118 v119 v120 v121 v122 v123 v124 v125 v126 v127 v128 v129:Value)(E:World)(k3:Blk E b3 (Hp.cells h) 27)(hh:Qg E h)(k4:Blk E b4 (Hp.cells x) 27)(hx:Qg E x)(hg:Qk E ga ms)(hl:Qk E la L)(hl68:L.length≤68)(hr0:r0≤20)(hw20:h.ws.length≤20)(hx1:x.ws.length≤20)(hx2:x.ds.length≤20)(HW:Hid (∀p∈h.ws,GW x ms L p)):
 chain Cut.prog (fun c a w1=>c=gdH∧Sg b3 b4 (.slice ga ms.length gcap) a∧a.tmps[7]? =some (.int .i64 (r0+(h.ws.filter fun p=>decide (p.1∈L)&& !decide (p.2∈L)).length:Nat))∧a.tmps[8]? =some (.int .i64 ((h.ws.filter fun p=>decide (p.1∈L)&&decide (p.2∈L)).length:Nat))∧Below E.heap.size E w1) (fun _ _=>False) 1 gdG ⟨#[v0,v1,v2,.pointer (some ⟨b3,0,none⟩),.pointer (some ⟨b4,0,none⟩),.slice ga ms.length gcap,.slice la L.length lcap,.int .i64 (r0:Nat),.int .i64 0,v9,v10,v11,v12,v13,v14,v15,v16,v17,v18,v19,v20,v21,v22,v23,v24,v25,v26,v27,v28,v29,v30,v31,v32,v33,v34,v35,v36,v37,v38,v39,v40,v41,v42,v43,v44,v45,v46,v47,v48,v49,v50,v51,v52,v53,v54,v55,v56,v57,v58,v59,v60,v61,v62,v63,v64,v65,v66,v67,v68,v69,v70,v71,v72,v73,v74,v75,v76,v77,v78,v79,v80,v81,v82,v83,v84,v85,v86,v87,v88,v89,v90,v91,v92,v93,v94,v95,v96,v97,v98,v99,v100,v101,v102,v103,v104,v105,v106,v107,v108,v109,v110,v111,v112,v113,v114,v115,v116,v117,v118,v119,v120,v121,v122,v123,v124,v125,v126,v127,v128,v129],[]⟩ E:=by
 simp only[gdG,gdF,gdC,gdB,Tryz.f4,chain]
 go_wp2
 go_loopw [7,8,10] (fun r q i wr=>∃k:Nat,k≤h.ws.length∧i=.int .i64 k∧r=.int .i64 (r0+((h.ws.take k).filter fun p=>decide (p.1∈L)&& !decide (p.2∈L)).length:Nat)∧q=.int .i64 (((h.ws.take k).filter fun p=>decide (p.1∈L)&&decide (p.2∈L)).length:Nat)∧Below E.heap.size E wr) (fun _ _ i _=>h.ws.length-(intOf i).toNat)
 case atStart=>exact⟨0,Nat.zero_le _,rfl,by simp,by simp,Below.refl _ _⟩
 case round=>
  obtain⟨k,hk,rfl,rfl,rfl,hb⟩:=hrel
  have k31:=k3.below hb k3.lt
  obtain⟨x0,x1,x2,x3⟩:=QB (show Blk wr b3 [Qhp h.oa h.os.length h.ocap,Qhp h.ra h.rs.length h.rcap,Qhp h.wa h.ws.length h.wcap,Qhp h.da h.ds.length h.dcap] _ from k31)
  by_cases hlt:k<h.ws.length
  ·obtain⟨b,off,ea,hbw,e1,e2⟩:=hh.sw.get hlt
   have d1:=(hb.cell (p:=⟨b,off+k*2,none⟩) hbw).trans e1
   have d2:=(hb.cell (p:=⟨b,off+k*2+1,none⟩) hbw).trans e2
   have f1:=Kl h.ws (fun p=>decide (p.1∈L)&& !decide (p.2∈L)) k hlt
   have f2:=Kl h.ws (fun p=>decide (p.1∈L)&&decide (p.2∈L)) k hlt
   have hw:=HW.out _ (List.getElem_mem hlt)
   have hi1:(k:Int)<(h.ws.length:Int):=by omega
   have hc1:((h.ws.take k).filter fun p=>decide (p.1∈L)&& !decide (p.2∈L)).length≤20:=Qhv (List.length_filter_le _ _) (Qhv (List.length_take_le _ _) (by omega))
   have hc2:((h.ws.take k).filter fun p=>decide (p.1∈L)&&decide (p.2∈L)).length≤20:=Qhv (List.length_filter_le _ _) (Qhv (List.length_take_le _ _) (by omega))
   rw[ea]at x2
   clear e1 e2 ea
   generalize h.ws[k]=p at *
   obtain⟨pg,po⟩:=p
   dsimp only at *
   have HF1:Hid (((h.ws.take (k+1)).filter fun p=>decide (p.1∈L)&& !decide (p.2∈L)).length=((h.ws.take k).filter fun p=>decide (p.1∈L)&& !decide (p.2∈L)).length+(if(decide (pg∈L)&& !decide (po∈L))=true then 1 else 0)):=f1
   have HF2:Hid (((h.ws.take (k+1)).filter fun p=>decide (p.1∈L)&&decide (p.2∈L)).length=((h.ws.take k).filter fun p=>decide (p.1∈L)&&decide (p.2∈L)).length+(if(decide (pg∈L)&&decide (po∈L))=true then 1 else 0)):=f2
   have HGW:Hid (GW x ms L (pg,po)):=hw
   clear f1 f2 hw
   generalize ((h.ws.take k).filter fun p=>decide (p.1∈L)&& !decide (p.2∈L)).length=n1 at *
   generalize ((h.ws.take k).filter fun p=>decide (p.1∈L)&&decide (p.2∈L)).length=n2 at *
   have hA1:Below wr.heap.size wr (wr.alloc (Qhs #[Qhq .i64 pg,Qhq .i64 po] 40)):=(Below.refl _ _).alloc (Qhr _) _
   have kA:=Blk.new wr [Qhq .i64 pg,Qhq .i64 po] 40
   have hB1:=hb.trans (hA1.mono hb.size)
   have kAl:=kA.lt
   have hEw:=hb.size
   go_wp2_with fail
   generalize wr.alloc (Qhs #[Qhq .i64 pg,Qhq .i64 po] 40)=wA at *
   have bA:wr.heap.size=wr.heap.size:=rfl
   clear bA
   generalize wr.heap.size=bw at *
   have a0:=kA.cell 0
   have a1:=kA.cell 1
   simp only[Qht,Qhu]at a0 a1
   have c1:=YS la L.length lcap pg L wA rfl (hl.below hB1 (Qhr _)) (by unfold maxLen;omega)
   refine c1.mono ?_
   rintro e wA ⟨rfl,rfl⟩
   by_cases h1:pg∈L
   ·simp only[h1,decide_true]
    simp only[h1,decide_true,Bool.true_and]at HF1 HF2
    obtain⟨⟨g0,g1,o0,o1⟩,hin,hout⟩:=HGW.out h1
    dsimp only at g0 g1 o0 o1 hin hout
    obtain⟨bm,om,ea,hbm,em1⟩:=hg.get g1
    obtain⟨bm2,om2,ea2,-,em2⟩:=hg.get o1
    rw[ea]at ea2
    simp only[Option.some.injEq,Addr.mk.injEq,and_true]at ea2
    obtain⟨rfl,rfl⟩:=ea2
    have q1:=(hB1.cell (p:=⟨bm,om+pg.toNat,none⟩) hbm).trans em1
    have q2:=(hB1.cell (p:=⟨bm,om+po.toNat,none⟩) hbm).trans em2
    have eg:ms.getD pg.toNat 0=ms[pg.toNat]:=by simp[List.getD,Qhw g1]
    have eo:ms.getD po.toNat 0=ms[po.toNat]:=by simp[List.getD,Qhw o1]
    rw[eg,eo]at hin hout
    have HIN:Hid (po∈L→(ms[pg.toNat],ms[po.toNat])∈x.ws):=hin
    have HOUT:Hid (po∉L→(ms[pg.toNat],ms[po.toNat])∈x.ds):=hout
    have hgl:pg<(ms.length:Int):=by omega
    have hol:po<(ms.length:Int):=by omega
    have hbm2:bm<wA.heap.size:=Nat.lt_of_lt_of_le hbm hB1.size
    subst ea
    clear hin hout em1 em2 eg eo HGW c1 h1
    generalize ms[pg.toNat]=mg at *
    generalize ms[po.toNat]=mo at *
    have hA2:Below wA.heap.size wA (wA.alloc (Qhs #[Qhq .i64 mg,Qhq .i64 mo] 40)).drew:=((Below.refl _ _).alloc (Qhr _) _).drew
    have kC:Blk (wA.alloc (Qhs #[Qhq .i64 mg,Qhq .i64 mo] 40)).drew wA.heap.size [Qhq .i64 mg,Qhq .i64 mo] 40:=Blk.new wA [Qhq .i64 mg,Qhq .i64 mo] 40
    go_wp2_with fail
    go_region
    have hB2:=hB1.trans (hA2.mono hB1.size)
    have kA2:=kA.below hA2 kA.lt
    clear a0 a1 q1 q2 kA hA1
    generalize (wA.alloc (Qhs #[Qhq .i64 mg,Qhq .i64 mo] 40)).drew=wC at *
    generalize wA.heap.size=bc at *
    have a1:=kA2.cell 1
    have e0:=kC.cell 0
    have e1:=kC.cell 1
    simp only[Qht,Qhu]at a1 e0 e1
    have c2:=YS la L.length lcap po L wC rfl (hl.below hB2 (Qhr _)) (by unfold maxLen;omega)
    go_wp2_with fail
    refine c2.mono ?_
    rintro e wC ⟨rfl,rfl⟩
    have k42:=k4.below hB2 k4.lt
    obtain⟨z0,z1,z2,z3⟩:=QB (show Blk wC b4 [Qhp x.oa x.os.length x.ocap,Qhp x.ra x.rs.length x.rcap,Qhp x.wa x.ws.length x.wcap,Qhp x.da x.ds.length x.dcap] _ from k42)
    by_cases h2:po∈L
    ·simp only[h2,decide_true]
     simp only[h2,decide_true,Bool.not_true,Bool.false_eq_true,if_false,if_true,Nat.add_zero]at HF1 HF2
     have c3:=Qa0 x.wa x.wcap (mg,mo) x.ws wC (hx.sw.below hB2 (Qhr _)) (by omega)
     rw[decide_eq_true (HIN.out h2)]at c3
     clear c2 h2 HIN HOUT
     go_wp2_with fail
     refine c3.mono ?_
     rintro e wD ⟨rfl,hb3⟩
     have hB3:=hB2.trans (hb3.mono hB2.size)
     clear c3 hb3 z0 z1 z2 z3
     go_wp2
     go_roundw
     case rel=>exact⟨k+1,by omega,by go_num,Ud (by have e:=HF1.out;omega),Ud (by have e:=HF2.out;omega),hB3⟩
     case measure=>simp[intOf];omega
    ·simp only[h2,decide_false]
     simp only[h2,decide_false,Bool.not_false,Bool.false_eq_true,if_false,if_true,Nat.add_zero]at HF1 HF2
     have c3:=Qa0 x.da x.dcap (mg,mo) x.ds wC (hx.sd.below hB2 (Qhr _)) (by omega)
     rw[decide_eq_true (HOUT.out h2)]at c3
     clear c2 h2 HIN HOUT
     go_wp2_with fail
     refine c3.mono ?_
     rintro e wD ⟨rfl,hb3⟩
     have hB3:=hB2.trans (hb3.mono hB2.size)
     clear c3 hb3 z0 z1 z2 z3
     go_wp2
     go_roundw
     case rel=>exact⟨k+1,by omega,by go_num,Ud (by have e:=HF1.out;omega),Ud (by have e:=HF2.out;omega),hB3⟩
     case measure=>simp[intOf];omega
   ·simp only[h1,decide_false]
    simp only[h1,decide_false,Bool.false_and,Bool.false_eq_true,if_false,Nat.add_zero]at HF1 HF2
    clear c1 h1
    go_wp2
    go_roundw
    case rel=>exact⟨k+1,by omega,by go_num,Ud (by have e:=HF1.out;omega),Ud (by have e:=HF2.out;omega),hB1⟩
    case measure=>simp[intOf];omega
  ·have ek:k=h.ws.length:=by omega
   subst ek
   rw[List.take_length]
   go_wp2
   exact⟨rfl,⟨rfl,rfl,rfl,rfl,rfl⟩,rfl,rfl,hb⟩
end
end Co
end Go.Proofs.YtcpnkpogebjieaaGreat
