/- The law on collecting: the heap that it draws. -/
import Derived.Test.YtcpnkpogebjieaaGreatG45Vk
import Derived.Test.YtcpnkpogebjieaaGreatG52Erz
import Derived.Test.YtcpnkpogebjieaaGreatG43Fa
import Derived.Test.YtcpnkpogebjieaaGreatG18Ye
import Derived.Test.YtcpnkpogebjieaaGreatG44Ha
import Derived.Test.YtcpnkpogebjieaaGreatG14ImplOk2
import Derived.Test.YtcpnkpogebjieaaGreatG37Vj
import Derived.Test.YtcpnkpogebjieaaGreatG16Ss3
open Go.Value renaming slice→Qhp
open Nat renaming le_refl→Qhq
open List renaming getElem?_toArray→Qhr,getElem?_cons_zero→Qhs,getElem?_cons_succ→Qht
open Go.World renaming setCell→Qhu
open Array renaming getD_eq_getD_getElem?→Qhv
set_option maxRecDepth 100000
set_option maxHeartbeats 8000000
namespace Go.Proofs.YtcpnkpogebjieaaGreat
namespace Co
open Go.RowKit
set_option linter.unusedSimpArgs false
theorem Z9H (v:Value):(#[v]++Array.replicate 223 undef:Array Value)=Z98 fun i=>if i=0 then v else undef:=by kernel_rfl
def Kd1 (u:World)(c:Code)(a:Act)(w1:World):Prop:=
 c=kdC∧a.defers=[]∧a.tmps.size=224∧Below u.heap.size u w1∧∃(b3:Nat) (y:Hp),a.tmps[3]? =some (.pointer (some ⟨b3,0,none⟩))∧Blk w1 b3 (Hp.cells y) 27∧Fit w1 y
theorem Z9t (a:Option Addr)(cap:Nat)(bs:List Int)(u:World)(hcap:bs.length≤cap)(hm:cap≤maxLen)(hby:∀x∈bs,0≤x∧x<256)(hs:0<bs.length→∃b off,a=some ⟨b,off,none⟩∧b<u.heap.size∧∀i (hi:i<bs.length),u.cell? ⟨b,off+i,none⟩=some (.int .u8 bs[i])):
 chain Cut.prog (Kd1 u) (KdR u) 3 kdB ⟨#[.slice a bs.length cap]++Array.replicate 223 undef,[]⟩ u:=by
 rw[Z9H]
 unfold Z98
 simp only[reduceIte,Nat.reduceEqDiff]
 have c1:=Qc8 a cap bs u hcap hm hby hs
 unfold maxLen at hm
 simp only[kdB,Tryz.f3,chain]
 go_wp2
 simp only[Z9,chain]
 by_cases hn:1048576<bs.length
 ·have hd:decide ((1048576:Int)<(bs.length:Int))=true:=decide_eq_true (by omega)
  go_wp2
  exact⟨rfl,rfl,rfl,Below.refl _ _⟩
 have hd:decide ((1048576:Int)<(bs.length:Int))=false:=decide_eq_false (by omega)
 go_wp2
 simp only[Z9,chain]
 go_wp2_with fail
 refine c1.mono ?_
 rintro e w1 ⟨y,rfl,hf,hb1⟩
 have hK:=Blk.new w1 [Qhp y.oa y.os.length y.ocap,Qhp y.ra y.rs.length y.rcap,Qhp y.wa y.ws.length y.wcap,Qhp y.da y.ds.length y.dcap] 27
 have hA:Below w1.heap.size w1 (w1.alloc (Obj.cells #[Qhp y.oa y.os.length y.ocap,Qhp y.ra y.rs.length y.rcap,Qhp y.wa y.ws.length y.wcap,Qhp y.da y.ds.length y.dcap] 27)):=(Below.refl _ _).alloc (Qhq _) _
 have hf2:=(hf w1 (Qh.refl _ _)).below hA (Qhq _)
 have hB:=hb1.trans (hA.mono hb1.size)
 clear c1 hf hb1 hA hs
 simp only[Hp.v]
 go_wp2
 exact⟨rfl,rfl,rfl,hB,w1.heap.size,y,rfl,hK,hf2⟩
end Co
namespace Co
open Go.Conc Go.ConcN Go.RowKit Go.Conc.Lib Go.ConcR.Gen
open Go.ConcR (DC0)
set_option linter.unusedSimpArgs false
theorem Yb {E E':World}{y:Hp}(h:Fit E y)(o:On E E'):Fit E' y:=⟨Qg.heap h.isIn o.1 o.2,h.small,h.txt,h.cap⟩
theorem K4 {E E':World}{a:Option Addr}{xs:List Int}(h:Qk E a xs)(o:On E E'):Qk E' a xs:=fun hm=>by
 obtain⟨b,off,h1,h2,h3⟩:=h hm
 exact⟨b,off,h1,Nat.lt_of_lt_of_le h2 o.1,fun i hi=>(cell_of_block (o.2 b h2) _).trans (h3 i hi)⟩
section
variable {X:Nat→Bool} {Ch:Nat}
end
theorem Z9Y {X:Nat→Bool}{a:Act}{c:Code}(hd:a.defers=[])(hc:QO Tryz.progTables c=true):FOk Tryz.progTables Cut.keep X ((base 3).at a [.code c]):=
 ⟨by kernel_rfl,(fun i hi=>by
   have hi':i∈[Item.code c]:=hi
   simp only[List.mem_cons,List.not_mem_nil,or_false]at hi'
   subst hi'
   exact hc),(fun d hq=>by
   have:d∈a.defers:=hq
   rw[hd]at this
   simp at this),rfl,fun l hl=>by cases hl⟩
noncomputable def Z91:Array Oper:=match kdC with
 | .seq (.region _ ops _) _=>ops
 |_=>#[]
noncomputable def Z90:Array Oper:=match kdH with
 | .seq (.region _ ops _) _=>ops
 |_=>#[]
noncomputable def Z9X (T:Array Value):Frame:=(base 3).at ⟨T,[]⟩ [.inRegion Z91 [1,2,3,4,5,6,7],.code kdF]
noncomputable def Z9W (T:Array Value):Frame:=(base 3).at ⟨T,[]⟩ [.inRegion Z90 [1,2,3,4,5,6,7],.code kdI]
def Z92 (X0:Nat→Bool)(w0:World)(X:Nat→Bool)(g:Goroutine)(w:World):Prop:=
 ∃fr:Frame,g=G fr []∧fr.mode=.returning∧fr.defers=[]∧fr.kind=.normal∧fr.fn=3∧fr.tmps.getD 2 undef=.bool true∧LA X0 w0 X w
def Z9T (X0:Nat→Bool)(w0:World)(X:Nat→Bool)(g:Goroutine)(w:World):Prop:=
 ∃(T:Array Value) (b3:Nat) (y:Hp),T.size=224∧T[3]? =some (.pointer (some ⟨b3,0,none⟩))∧g=G (Frame.enter Tryz.prog 8 #[Hp.v y] .normal) [Z9X T]∧LS X0 w0 X (fun E=>Blk E b3 (Hp.cells y) 27∧Fit E y) w
def Z9S (x:Hp)(X0:Nat→Bool)(w0:World)(X:Nat→Bool)(g:Goroutine)(w:World):Prop:=
 ∃(T:Array Value) (b4:Nat) (y:Hp),T.size=224∧T[4]? =some (.pointer (some ⟨b4,0,none⟩))∧(g=G (Frame.enter Tryz.prog 8 #[Hp.v y] .normal) [Z9W T]∧y=x)∧LS X0 w0 X (fun E=>Blk E b4 (Hp.cells y) 27∧Fit E y) w
section
variable {X0 X:Nat→Bool} {Ch:Nat}
theorem Z9u {w0:World}{T:Array Value}{b3:Nat}{y:Hp}(hT:T.size=224)(tq:T[3]? =some (.pointer (some ⟨b3,0,none⟩))){w:World}(hI:LS X0 w0 X (fun E=>Blk E b3 (Hp.cells y) 27∧Fit E y) w):
 Qt Tryz.prog X Ch (Z9T X0 w0 X) (G ((base 3).at ⟨T,[]⟩ [.code kdC]) []) w:=by
 obtain⟨f,rfl⟩:=Z96 T hT
 unfold Z98 at tq⊢
 simp only[Qhr,Qhs,Qht,Option.some.injEq]at tq
 rw[tq]
 clear tq hT
 have e1:kdC=.seq (.region 4 Z91 false) kdF:=rfl
 obtain⟨D0,hD0⟩:∃D0,D0=kdF:=⟨_,rfl⟩
 rw[e1,←hD0]
 refine QI (n:=30) ?_
 u_c stepG_seq LS.rely hI
 simp only[Z91,kdC,kdB,Tryz.f3]
 u_reg LS.rely hI
 refine Goes.stop (fun w3 h3=>?_)
 replace hI:=LS.rely hI h3
 clear h3
 refine ZL rfl (fun w4 h4=>?_)
 have hz:=ZR h4
 replace hI:=LS.rely hI h4
 clear h4
 obtain⟨xb,kb⟩:=Qdm (show Blk (emW X w4) b3 [Qhp y.oa y.os.length y.ocap,Qhp y.ra y.rs.length y.rcap,Qhp y.wa y.ws.length y.wcap,Qhp y.da y.ds.length y.dcap] _ from hI.p.1)
 have hl:=kb.lt
 refine goes_oper_k rfl rfl (by decide) (fun K hK=>?_)
 obtain⟨c0,c1,c2,c3⟩:=Qc kb
 go_simp
 refine hK _ _ ⟨⟨hz,fun B hB e he=>?_⟩,?_⟩
 ·have hm:=mem_listed he
  simp[go_sem,c0,c1,c2,c3]at hm
  rcases hm with rfl|rfl|rfl|rfl<;>exact⟨xb,by show b3<B;omega⟩
 clear hK K hz c0 c1 c2 c3 hl kb xb
 refine QI (n:=5) ?_
 u_in LS.rely hI
 refine goes_call rfl rfl (by decide) rfl Tryz.func8 rfl rfl ⟨by u_nil,?_⟩
 rw[←enter_at _ Tryz.func8 rfl]
 simp only[List.map_toArray,List.map_cons,List.map_nil,Act.eval,Qhv,Qhr,Qht,Qhs,Option.getD_some]
 refine Goes.stop (fun w6 h6=>.stop ?_)
 replace hI:=LS.rely hI h6
 rw[hD0]
 exact⟨_,b3,y,rfl,rfl,rfl,hI⟩
theorem Z9v {w0:World}{T:Array Value}{b4:Nat}{y:Hp}(hT:T.size=224)(tq:T[4]? =some (.pointer (some ⟨b4,0,none⟩))){w:World}(hI:LS X0 w0 X (fun E=>Blk E b4 (Hp.cells y) 27∧Fit E y) w):
 Qt Tryz.prog X Ch (Z9S y X0 w0 X) (G ((base 3).at ⟨T,[]⟩ [.code kdH]) []) w:=by
 obtain⟨f,rfl⟩:=Z96 T hT
 unfold Z98 at tq⊢
 simp only[Qhr,Qhs,Qht,Option.some.injEq]at tq
 rw[tq]
 clear tq hT
 have e1:kdH=.seq (.region 28 Z90 false) kdI:=rfl
 obtain⟨D0,hD0⟩:∃D0,D0=kdI:=⟨_,rfl⟩
 rw[e1,←hD0]
 refine QI (n:=30) ?_
 u_c stepG_seq LS.rely hI
 simp only[Z90,kdH,kdG,kdF,kdC,kdB,Tryz.f3]
 u_reg LS.rely hI
 refine Goes.stop (fun w3 h3=>?_)
 replace hI:=LS.rely hI h3
 clear h3
 refine ZL rfl (fun w4 h4=>?_)
 have hz:=ZR h4
 replace hI:=LS.rely hI h4
 clear h4
 obtain⟨xb,kb⟩:=Qdm (show Blk (emW X w4) b4 [Qhp y.oa y.os.length y.ocap,Qhp y.ra y.rs.length y.rcap,Qhp y.wa y.ws.length y.wcap,Qhp y.da y.ds.length y.dcap] _ from hI.p.1)
 have hl:=kb.lt
 refine goes_oper_k rfl rfl (by decide) (fun K hK=>?_)
 obtain⟨c0,c1,c2,c3⟩:=Qc kb
 go_simp
 refine hK _ _ ⟨⟨hz,fun B hB e he=>?_⟩,?_⟩
 ·have hm:=mem_listed he
  simp[go_sem,c0,c1,c2,c3]at hm
  rcases hm with rfl|rfl|rfl|rfl<;>exact⟨xb,by show b4<B;omega⟩
 clear hK K hz c0 c1 c2 c3 hl kb xb
 refine QI (n:=5) ?_
 u_in LS.rely hI
 refine goes_call rfl rfl (by decide) rfl Tryz.func8 rfl rfl ⟨by u_nil,?_⟩
 rw[←enter_at _ Tryz.func8 rfl]
 simp only[List.map_toArray,List.map_cons,List.map_nil,Act.eval,Qhv,Qhr,Qht,Qhs,Option.getD_some]
 refine Goes.stop (fun w6 h6=>.stop ?_)
 replace hI:=LS.rely hI h6
 rw[hD0]
 exact⟨_,b4,y,rfl,rfl,⟨rfl,rfl⟩,hI⟩
theorem Z9A {a:Option Addr}{cap:Nat}{bs:List Int}{w:World}(hcap:bs.length≤cap)(hm:cap≤maxLen)(hby:∀x∈bs,0≤x∧x<256)(hsc:0<bs.length→∃b off,a=some ⟨b,off,none⟩∧b<w.heap.size∧∀i (hi:i<bs.length),(emW X w).cell? ⟨b,off+i,none⟩=some (.int .u8 bs[i]))(hs:Sn X w):
 Qt Tryz.prog X Ch (fun g w1=>Z9T X w X g w1∨Z92 X w X g w1) (G (Frame.enter Tryz.prog 3 #[.slice a bs.length cap] .normal) []) w:=by
 rw[enter_at _ Tryz.func3 (show Tryz.f3.body=some kdB from rfl)]
 have hA:LA X w X w:=⟨fun _ _=>⟨rfl,rfl⟩,Qhq _,hs,.refl _⟩
 have hok:QO Tryz.progTables kdB=true:=by kernel_rfl
 refine V2 3 hs (Z9Y rfl hok) (R:=fun c a w2=>∃u:World,(u.heap=(emW X w).heap∧OO u w)∧Kd1 u c a w2) (Rr:=fun a w2=>∃u:World,(u.heap=(emW X w).heap∧OO u w)∧KdR u a w2) (fun t d=>?_) (fun c' a' w2 w2' hE hS hK hFO hR=>?_) (fun a' todo w2 w2' hE hS hK hFO hR=>?_)
 ·have h1:=Z9t a cap bs {emW X w with tape:=t,drawn:=d} hcap hm hby (fun hp=>by
   obtain⟨b,off,e1,e2,e3⟩:=hsc hp
   exact⟨b,off,e1,by show b<(emW X w).heap.size;rw[QD];exact e2,e3⟩)
  exact Uu h1 (fun c a _ hq=>⟨{emW X w with tape:=t,drawn:=d},⟨rfl,rfl,rfl⟩,hq⟩) (fun a _ hq=>⟨{emW X w with tape:=t,drawn:=d},⟨rfl,rfl,rfl⟩,hq⟩)
 ·obtain⟨u,⟨hu,huo⟩,rfl,r1,r2,hB,b3,y,t3,kb,hf⟩:=hR
  obtain⟨T,D⟩:=a'
  simp only at r1 r2 t3
  subst r1
  have us:u.heap.size=w.heap.size:=by rw[hu,QD]
  rw[us]at hB
  refine Qbc (Z9u r2 t3 ⟨hA.piece rfl hu huo hE hS hK hB,fun _ _ o l=>⟨Jd l.1 o,Yb l.2 o⟩,Jd kb (KM hE),Yb hf (KM hE)⟩) fun g w hg=>.inl hg
 ·obtain⟨u,⟨hu,huo⟩,r1,r2,r3,hB⟩:=hR
  have us:u.heap.size=w.heap.size:=by rw[hu,QD]
  rw[us]at hB
  exact .stop (.inr ⟨_,rfl,rfl,r1,rfl,rfl,by
   show a'.tmps.getD 2 undef=_
   rw[Qhv,r3]
   rfl,hA.piece rfl hu huo hE hS hK hB⟩)
end
def KdF (X0:Nat→Bool)(w0:World)(X:Nat→Bool)(g':Goroutine)(w:World):Prop:=
 ∃(T:Array Value) (b3 b4:Nat) (h x:Hp) (ga:Option Addr) (gcap:Nat) (ms:List Int),T.size=224∧T[3]? =some (.pointer (some ⟨b3,0,none⟩))∧T[4]? =some (.pointer (some ⟨b4,0,none⟩))∧T[5]? =some (.slice ga ms.length gcap)∧
  (okP h.p=false→x.p=([],[],[],[])∧ms=[])∧(okP h.p=true→∀yy mm,CoP h.p yy mm→yy=x.p∧mm=ms)∧g'=G ((base 3).at ⟨T,[]⟩ [.code kdF]) []∧
  LS X0 w0 X (fun E=>Blk E b3 (Hp.cells h) 27∧Fit E h∧Fit E x∧Qk E ga ms∧Blk E b4 (Hp.cells x) 27) w
def KdK (x:Hp)(X0:Nat→Bool)(w0:World)(X:Nat→Bool)(g':Goroutine)(w:World):Prop:=
 ∃(T:Array Value) (b4 b13:Nat) (z:Hp) (sa:Option Addr) (scap:Nat) (rs:List Int),T.size=224∧T[4]? =some (.pointer (some ⟨b4,0,none⟩))∧T[13]? =some (.pointer (some ⟨b13,0,none⟩))∧T[14]? =some (.slice sa rs.length scap)∧
  (okP x.p=true→∀yy mm,CoP x.p yy mm→yy=z.p∧mm=rs)∧g'=G ((base 3).at ⟨T,[]⟩ [.code kdI]) []∧
  LS X0 w0 X (fun E=>Blk E b4 (Hp.cells x) 27∧Fit E x∧Fit E z∧Qk E sa rs∧Blk E b13 (Hp.cells z) 27) w
theorem Z9P {h g:Hp}{zs:List Int}(hc:∀(i:Nat) (hi:i<g.os.length),g.os[i].r.length≤g.os[i].rcap)(o7:okP h.p=false→g.p=([],[],[],[])∧zs=[])(o8:okP h.p=true→∀yy mm,CoP h.p yy mm→yy=g.p∧mm=zs):∀E,Qg E g→Fit E g:=fun E hE=>by
 have c:OkC g:=by
  cases ho:okP h.p with
  |false=>exact YN (by rw[(o7 ho).1];rfl)
  |true=>exact KC (YN ho) (o8 ho)
 exact c.fit hE hc
section
variable {X0 X X':Nat→Bool} {Ch:Nat}
theorem Z9x {w0 wq:World}{T:Array Value}{b3:Nat}{h:Hp}(hT:T.size=224)(tq:T[3]? =some (.pointer (some ⟨b3,0,none⟩)))(hI:LS X0 w0 X (fun E=>Blk E b3 (Hp.cells h) 27∧Fit E h) wq){g:Hp}{gv:Value}{w:World}(ho:Uq h X wq X' g gv w):
 Qt Tryz.prog X' Ch (KdF X0 w0 X') (G ((Z9X T).finish (.tuple #[Hp.v g,gv])) []) w:=by
 obtain⟨f,rfl⟩:=Z96 T hT
 unfold Z98 at tq⊢
 simp only[Qhr,Qhs,Qht,Option.some.injEq]at tq
 rw[tq]
 clear tq hT
 obtain⟨M,zs,o1,o2,o3,o4,o5,o6,o7,o8⟩:=ho.res
 obtain⟨ga,gcap,rfl,-⟩:=o2.form
 have hgf:∀E,Qg E g→Fit E g:=Z9P o1.rs.cap o7 o8
 have hM:LS X0 w0 X' (fun E=>Blk E b3 (Hp.cells h) 27∧Fit E h∧Fit E g∧Qk E ga zs) w:=by
  have h1:=hI.mc ho
  refine⟨h1.la,fun E E' o ⟨a1,a2,a3,a4⟩=>⟨Jd a1 o,Yb a2 o,Yb a3 o,K4 a4 o⟩,h1.p.1,h1.p.2,hgf _ (o1.same fun b hb=>Z7 (o5 b hb)).isIn,?_⟩
  obtain⟨a',cap',e,hs,-⟩:=Qa.form (show Qa (emW X' w) wq.heap.size (.slice ga zs.length gcap) zs from ZP o2 fun b hb=>Z7 (o6 b hb))
  simp only[Value.slice.injEq]at e
  rw[e.1];exact hs
 clear o1 o2 o3 o4 o5 o6 hI ho hgf
 obtain⟨goa,goc,gos,gra,grc,grs,gwa,gwc,gws,gda,gdc,gds⟩:=g
 obtain⟨D0,hD0⟩:∃D0,D0=kdF:=⟨_,rfl⟩
 rw[Z9X,Frame.finish_at,←hD0]
 simp only[Z91,kdC,kdB,Tryz.f3,Qhr,Qht,Qhs,Option.bind_some]
 refine QI (n:=10) ?_
 walk_nrm
 u_op LS.rely hM
 u_op LS.rely hM
 u_op LS.rely hM
 refine Goes.stop (fun w3 h3=>?_)
 replace hM:=LS.rely hM h3
 clear h3
 refine ZL rfl (fun w4 h4=>?_)
 have hz:=ZR h4
 replace hM:=LS.rely hM h4
 clear h4
 refine goes_oper_k rfl rfl (by decide) (fun K hK=>?_)
 go_simp
 refine hK _ _ ⟨⟨by simp;omega,fun B hB e he=>?_⟩,?_⟩
 ·have hm:=mem_listed he
  simp[go_sem]at hm
 clear hK K
 have hN:=hM.alloc (m:=0) (Nat.zero_le _)
 clear hM hz
 generalize w4.alloc (Obj.cells #[Qhp none 0 0,Qhp none 0 0,Qhp none 0 0,Qhp none 0 0] 27)=w5 at hN
 generalize w4.heap.size=bq at hN
 clear w4
 refine ZL rfl (fun w6 h6=>?_)
 have hz:=ZR h6
 replace hN:=LT.rely hN h6
 clear h6
 have hl:=hN.k.lt
 obtain⟨c0,c1,c2,c3⟩:=Qc hN.k
 obtain⟨f0,f1,f2,f3⟩:=QH hN.k
 have bk:=(Q8 hN.k (.slice goa gos.length goc) (.slice gra grs.length grc) (.slice gwa gws.length gwc) (.slice gda gds.length gdc)).2
 refine goes_oper_k rfl rfl (by decide) (fun K hK=>?_)
 simp only[Hp.v]
 go_simp
 refine hK _ _ ⟨⟨by simp[Qhu];omega,fun B hB e he=>?_⟩,?_⟩
 ·have hm:=mem_listed he
  have hB':w6.heap.size≤B:=by simpa[Qhu]using hB
  simp[go_sem,Hp.v,c0,c1,c2,c3,f0,f1,f2,f3]at hm
  rcases hm with rfl|rfl|rfl|rfl<;>exact⟨hN.xb,by show bq<B;omega⟩
 clear hK K hz
 replace hN:=hN.box bk (by simp[Qhu]) (fun b hb=>by rw[Below.heap_setCell _ _ _ _ hb,Below.heap_setCell _ _ _ _ hb,Below.heap_setCell _ _ _ _ hb,Below.heap_setCell _ _ _ _ hb]) ⟨rfl,rfl⟩
 generalize (((w6.setCell ⟨bq,0,none⟩ (.slice goa gos.length goc)).setCell ⟨bq,1,none⟩ (.slice gra grs.length grc)).setCell ⟨bq,2,none⟩ (.slice gwa gws.length gwc)).setCell ⟨bq,3,none⟩ (.slice gda gds.length gdc)=w10 at *
 clear c0 c1 c2 c3 f0 f1 f2 f3 bk hl
 refine QI (n:=10) ?_
 try walk_nrm
 u_op LT.rely hN
 u_c stepG_region_end LT.rely hN
 refine Goes.stop (fun w11 h11=>.stop ?_)
 replace hN:=LT.rely hN h11
 obtain⟨⟨d1,d2,d3,d4⟩,d5,-⟩:=hN.done
 rw[hD0]
 exact⟨_,b3,bq,h,_,ga,gcap,zs,rfl,rfl,rfl,rfl,o7,o8,rfl,⟨hN.la,fun E E' o ⟨a1,a2,a3,a4,a5⟩=>⟨Jd a1 o,Yb a2 o,Yb a3 o,K4 a4 o,Jd a5 o⟩,d1,d2,d3,d4,d5⟩⟩
theorem Z9w {w0 wq:World}{T:Array Value}{b4:Nat}{h:Hp}(hT:T.size=224)(tq:T[4]? =some (.pointer (some ⟨b4,0,none⟩)))(hI:LS X0 w0 X (fun E=>Blk E b4 (Hp.cells h) 27∧Fit E h) wq){g:Hp}{gv:Value}{w:World}(ho:Uq h X wq X' g gv w):
 Qt Tryz.prog X' Ch (KdK h X0 w0 X') (G ((Z9W T).finish (.tuple #[Hp.v g,gv])) []) w:=by
 obtain⟨f,rfl⟩:=Z96 T hT
 unfold Z98 at tq⊢
 simp only[Qhr,Qhs,Qht,Option.some.injEq]at tq
 rw[tq]
 clear tq hT
 obtain⟨M,zs,o1,o2,o3,o4,o5,o6,o7,o8⟩:=ho.res
 obtain⟨ga,gcap,rfl,-⟩:=o2.form
 have hgf:∀E,Qg E g→Fit E g:=Z9P o1.rs.cap o7 o8
 have hM:LS X0 w0 X' (fun E=>Blk E b4 (Hp.cells h) 27∧Fit E h∧Fit E g∧Qk E ga zs) w:=by
  have h1:=hI.mc ho
  refine⟨h1.la,fun E E' o ⟨a1,a2,a3,a4⟩=>⟨Jd a1 o,Yb a2 o,Yb a3 o,K4 a4 o⟩,h1.p.1,h1.p.2,hgf _ (o1.same fun b hb=>Z7 (o5 b hb)).isIn,?_⟩
  obtain⟨a',cap',e,hs,-⟩:=Qa.form (show Qa (emW X' w) wq.heap.size (.slice ga zs.length gcap) zs from ZP o2 fun b hb=>Z7 (o6 b hb))
  simp only[Value.slice.injEq]at e
  rw[e.1];exact hs
 clear o1 o2 o3 o4 o5 o6 hI ho hgf
 obtain⟨goa,goc,gos,gra,grc,grs,gwa,gwc,gws,gda,gdc,gds⟩:=g
 obtain⟨D0,hD0⟩:∃D0,D0=kdI:=⟨_,rfl⟩
 rw[Z9W,Frame.finish_at,←hD0]
 simp only[Z90,kdH,kdG,kdF,kdC,kdB,Tryz.f3,Qhr,Qht,Qhs,Option.bind_some]
 refine QI (n:=10) ?_
 walk_nrm
 u_op LS.rely hM
 u_op LS.rely hM
 u_op LS.rely hM
 refine Goes.stop (fun w3 h3=>?_)
 replace hM:=LS.rely hM h3
 clear h3
 refine ZL rfl (fun w4 h4=>?_)
 have hz:=ZR h4
 replace hM:=LS.rely hM h4
 clear h4
 refine goes_oper_k rfl rfl (by decide) (fun K hK=>?_)
 go_simp
 refine hK _ _ ⟨⟨by simp;omega,fun B hB e he=>?_⟩,?_⟩
 ·have hm:=mem_listed he
  simp[go_sem]at hm
 clear hK K
 have hN:=hM.alloc (m:=0) (Nat.zero_le _)
 clear hM hz
 generalize w4.alloc (Obj.cells #[Qhp none 0 0,Qhp none 0 0,Qhp none 0 0,Qhp none 0 0] 27)=w5 at hN
 generalize w4.heap.size=bq at hN
 clear w4
 refine ZL rfl (fun w6 h6=>?_)
 have hz:=ZR h6
 replace hN:=LT.rely hN h6
 clear h6
 have hl:=hN.k.lt
 obtain⟨c0,c1,c2,c3⟩:=Qc hN.k
 obtain⟨f0,f1,f2,f3⟩:=QH hN.k
 have bk:=(Q8 hN.k (.slice goa gos.length goc) (.slice gra grs.length grc) (.slice gwa gws.length gwc) (.slice gda gds.length gdc)).2
 refine goes_oper_k rfl rfl (by decide) (fun K hK=>?_)
 simp only[Hp.v]
 go_simp
 refine hK _ _ ⟨⟨by simp[Qhu];omega,fun B hB e he=>?_⟩,?_⟩
 ·have hm:=mem_listed he
  have hB':w6.heap.size≤B:=by simpa[Qhu]using hB
  simp[go_sem,Hp.v,c0,c1,c2,c3,f0,f1,f2,f3]at hm
  rcases hm with rfl|rfl|rfl|rfl<;>exact⟨hN.xb,by show bq<B;omega⟩
 clear hK K hz
 replace hN:=hN.box bk (by simp[Qhu]) (fun b hb=>by rw[Below.heap_setCell _ _ _ _ hb,Below.heap_setCell _ _ _ _ hb,Below.heap_setCell _ _ _ _ hb,Below.heap_setCell _ _ _ _ hb]) ⟨rfl,rfl⟩
 generalize (((w6.setCell ⟨bq,0,none⟩ (.slice goa gos.length goc)).setCell ⟨bq,1,none⟩ (.slice gra grs.length grc)).setCell ⟨bq,2,none⟩ (.slice gwa gws.length gwc)).setCell ⟨bq,3,none⟩ (.slice gda gds.length gdc)=w10 at *
 clear c0 c1 c2 c3 f0 f1 f2 f3 bk hl
 refine QI (n:=10) ?_
 try walk_nrm
 u_op LT.rely hN
 u_c stepG_region_end LT.rely hN
 refine Goes.stop (fun w11 h11=>.stop ?_)
 replace hN:=LT.rely hN h11
 obtain⟨⟨d1,d2,d3,d4⟩,d5,-⟩:=hN.done
 rw[hD0]
 exact⟨_,b4,bq,_,ga,gcap,zs,rfl,rfl,rfl,rfl,o8,rfl,⟨hN.la,fun E E' o ⟨a1,a2,a3,a4,a5⟩=>⟨Jd a1 o,Yb a2 o,Yb a3 o,K4 a4 o,Jd a5 o⟩,d1,d2,d3,d4,d5⟩⟩
end
end Co
namespace Co
open Go.RowKit
set_option linter.unusedSimpArgs false
structure Sk (b3 b4:Nat) (gv:Value) (a:Act):Prop where
 df:a.defers=[]
 sz:a.tmps.size=224
 t3:a.tmps[3]? =some (.pointer (some ⟨b3,0,none⟩))
 t4:a.tmps[4]? =some (.pointer (some ⟨b4,0,none⟩))
 t5:a.tmps[5]? =some gv
section
variable {h x:Hp} {b3 b4:Nat} {ga:Option Addr} {gcap:Nat} {ms:List Int}
theorem Z9s (f:Nat→Value)(t3:f 3=.pointer (some ⟨b3,0,none⟩))(t4:f 4=.pointer (some ⟨b4,0,none⟩))(t5:f 5=.slice ga ms.length gcap)(E:World)(k3:Blk E b3 (Hp.cells h) 27)(hf:Fit E h)(k4:Blk E b4 (Hp.cells x) 27)(hx:Fit E x)(hg:Qk E ga ms)(hml:ms.length≤60)
 (an1:okP h.p=false→x.p=([],[],[],[])∧ms=[])(an2:okP h.p=true→∀yy mm,CoP h.p yy mm→yy=x.p∧mm=ms):
 chain Cut.prog (fun c a w1=>c=kdG∧Sk b3 b4 (.slice ga ms.length gcap) a∧okP h.p=true∧Below E.heap.size E w1∧∃(la:Option Addr) (lcap:Nat) (L:List Int),a.tmps[8]? =some (.slice la L.length lcap)∧Qk w1 la L∧L.length≤68∧∀z,z∈L↔z∈reachP h.p) (KdR E) 5 kdF ⟨Z98 f,[]⟩ E:=by
 obtain⟨x0,x1,x2,x3⟩:=QB (show Blk E b3 [Qhp h.oa h.os.length h.ocap,Qhp h.ra h.rs.length h.rcap,Qhp h.wa h.ws.length h.wcap,Qhp h.da h.ds.length h.dcap] _ from k3)
 have c1:=QaA h E hf
 simp only[Hp.v]at c1
 unfold Z98
 rw[t3,t4,t5]
 clear t3 t4 t5
 simp only[kdF,kdC,kdB,Tryz.f3,chain]
 go_wp2_with fail
 refine c1.mono ?_
 rintro e w1 ⟨y,v,ms',rfl,hyc,hyf,hms,hno,hco,hb1⟩
 obtain⟨ma,mcap,rfl,hmseg,-⟩:=hms.form
 have hxy:x.p=y.p∧ms'=ms:=by
  cases hok:okP h.p with
  |false=>exact⟨(an1 hok).1.trans (hno hok).1.symm,(hno hok).2.trans (an1 hok).2.symm⟩
  |true=>exact⟨(an2 hok _ _ (hco hok)).1.symm,(an2 hok _ _ (hco hok)).2⟩
 obtain⟨hxp,hme⟩:=hxy
 have HXP:Hid (x.p=y.p):=hxp
 have HAN:Hid ((okP h.p=false→x.p=([],[],[],[])∧ms=[])∧(okP h.p=true→∀yy mm,CoP h.p yy mm→yy=x.p∧mm=ms)):=⟨an1,an2⟩
 rw[hme]at hmseg
 rw[hme]
 clear hme hms hno hco hxp an1 an2 x0 x1 x2 x3 c1
 have kY:=Blk.new w1 [Qhp y.oa y.os.length y.ocap,Qhp y.ra y.rs.length y.rcap,Qhp y.wa y.ws.length y.wcap,Qhp y.da y.ds.length y.dcap] 27
 have hA:Below w1.heap.size w1 (w1.alloc (Obj.cells #[Qhp y.oa y.os.length y.ocap,Qhp y.ra y.rs.length y.rcap,Qhp y.wa y.ws.length y.wcap,Qhp y.da y.ds.length y.dcap] 27)):=(Below.refl _ _).alloc (Qhq _) _
 have hB:=hb1.trans (hA.mono hb1.size)
 have hfy:=(hyf w1 (Qh.refl _ _)).below hA (Qhq _)
 have hmseg2:=hmseg.below hA (Qhq _)
 clear hyf hyc hmseg hb1 hA
 simp only[Hp.v]
 go_wp2
 simp only[Z9,chain]
 generalize w1.alloc (Obj.cells #[Qhp y.oa y.os.length y.ocap,Qhp y.ra y.rs.length y.rcap,Qhp y.wa y.ws.length y.wcap,Qhp y.da y.ds.length y.dcap] 27)=w2 at *
 generalize w1.heap.size=b6 at *
 clear w1
 have k42:=k4.below hB k4.lt
 obtain⟨y0,y1,y2,y3⟩:=QB (show Blk w2 b4 [Qhp x.oa x.os.length x.ocap,Qhp x.ra x.rs.length x.rcap,Qhp x.wa x.ws.length x.wcap,Qhp x.da x.ds.length x.dcap] _ from k42)
 obtain⟨z0,z1,z2,z3⟩:=QB kY
 have c2:=Qa1 x y w2 HXP.out (hx.isIn.below hB (Qhq _)) hfy.isIn hx.small
 simp only[Hp.v]at c2
 go_wp2_with fail
 refine c2.mono ?_
 rintro e w3 ⟨rfl,hb3⟩
 have hB3:=hB.trans (hb3.mono hB.size)
 have c3:=Qg4 ga ma gcap mcap ms w3 (hg.below hB3 (Qhq _)) (hmseg2.below hb3 (Qhq _)) (by omega)
 clear c2 y0 y1 y2 y3 z0 z1 z2 z3 kY k42 hfy hmseg2 hb3 hB
 go_wp2_with fail
 refine c3.mono ?_
 rintro e w4 ⟨rfl,n,rfl⟩
 have hB4:Below E.heap.size E (w3.drewN n):=ZV hB3 n
 clear c3 hB3
 go_wp2
 simp only[Z9,chain]
 generalize w3.drewN n=w4 at *
 clear w3
 have k34:=k3.below hB4 k3.lt
 have hf4:=hf.below hB4 (Qhq _)
 obtain⟨x0,x1,x2,x3⟩:=QB (show Blk w4 b3 [Qhp h.oa h.os.length h.ocap,Qhp h.ra h.rs.length h.rcap,Qhp h.wa h.ws.length h.wcap,Qhp h.da h.ds.length h.dcap] _ from k34)
 have c4:=K5 h w4 hf4.isIn hf4.small hf4.txt
 simp only[Hp.v]at c4
 go_wp2_with fail
 refine c4.mono ?_
 rintro e w5 ⟨rfl,hb5⟩
 have hB5:=hB4.trans (hb5.mono hB4.size)
 clear c4 x0 x1 x2 x3 hb5 hB4 hf4 k34
 cases hok:okP h.p with
 |false=>
  obtain rfl:ms=[]:=(HAN.out.1 hok).2
  go_wp2
  exact⟨rfl,rfl,rfl,hB5⟩
 |true=>
  have c:=YN hok
  obtain⟨cx,hmle,hre,-⟩:=Z9Z c (HAN.out.2 hok)
  have k35:=k3.below hB5 k3.lt
  have k45:=k4.below hB5 k4.lt
  have hx5:=hx.below hB5 (Qhq _)
  have hdr:Below w5.heap.size w5 w5.drew:=(Below.refl _ _).drew
  have hx5d:=hx5.below hdr (Qhq _)
  have k35d:=(show Blk w5 b3 [Qhp h.oa h.os.length h.ocap,Qhp h.ra h.rs.length h.rcap,Qhp h.wa h.ws.length h.wcap,Qhp h.da h.ds.length h.dcap] _ from k35).below hdr k35.lt
  have k45d:=(show Blk w5 b4 [Qhp x.oa x.os.length x.ocap,Qhp x.ra x.rs.length x.rcap,Qhp x.wa x.ws.length x.wcap,Qhp x.da x.ds.length x.dcap] _ from k45).below hdr k45.lt
  have c5:=Ov x w5.drew hx5d.isIn hx5.small hx5.txt
  rw[YA cx]at c5
  simp only[Hp.v]at c5
  have HRE:Hid (reachP x.p=Z99 x.os.length):=hre
  clear hre
  go_wp2
  simp only[Z9,chain]
  obtain⟨x0,x1,x2,x3⟩:=QB (show Blk w5 b3 [Qhp h.oa h.os.length h.ocap,Qhp h.ra h.rs.length h.rcap,Qhp h.wa h.ws.length h.wcap,Qhp h.da h.ds.length h.dcap] _ from k35)
  obtain⟨y0,y1,y2,y3⟩:=QB (show Blk w5 b4 [Qhp x.oa x.os.length x.ocap,Qhp x.ra x.rs.length x.rcap,Qhp x.wa x.ws.length x.wcap,Qhp x.da x.ds.length x.dcap] _ from k45)
  have hx60:=cx.n60
  rw[hmle]
  clear hmle
  go_wp2_with fail
  go_region_with (first
   |(go_at_call 13;refine c5.mono ?_;rintro e w6 ⟨rfl,hb6⟩;have kA:=k35d.below hb6 k35d.lt;have kB:=k45d.below hb6 k45d.lt;obtain⟨u0,u1,u2,u3⟩:=QB kA;obtain⟨v0,v1,v2,v3⟩:=QB kB;have hx6:=hx5d.below hb6 (Qhq _);have c6:=QdZ x w6 hx6.isIn hx6.small hx6.txt hx6.cap;rw[HRE.out]at c6;simp only[Hp.v]at c6)
   |(go_at_call 14;refine c6.mono ?_;rintro e w7 ⟨v',rfl,ho,hb7⟩;obtain⟨ra',rcap',rfl,-⟩:=ho.form;have kC:=kB.below hb7 kB.lt;obtain⟨z0,z1,z2,z3⟩:=QB kC;simp only[Z94]))
  all_goals
   have hD:=hB5.drew
   have hB6:=hD.trans (hb6.mono hD.size)
   have hB7:=hB6.trans (hb7.mono hB6.size)
   clear c5 c6 kA kB kC u0 u1 u2 u3 v0 v1 v2 v3 z0 z1 z2 z3 x0 x1 x2 x3 y0 y1 y2 y3 k35d k45d k35 k45 hx5 hx5d hx6 hb6 hb7 hB6 hD hdr ho hB5
   go_wp2
   simp only[Z9,chain]
   have k37:=k3.below hB7 k3.lt
   have hf7:=hf.below hB7 (Qhq _)
   obtain⟨x0,x1,x2,x3⟩:=QB (show Blk w7 b3 [Qhp h.oa h.os.length h.ocap,Qhp h.ra h.rs.length h.rcap,Qhp h.wa h.ws.length h.wcap,Qhp h.da h.ds.length h.dcap] _ from k37)
   have c8:=Qg5 h w7 (reachP h.p) hf7.isIn c c.comes
   simp only[Hp.v]at c8
   have HOK:Hid (okP h.p=true):=hok
   clear hok
   go_wp2_with fail
   refine c8.mono ?_
   rintro e w8 ⟨v',L,rfl,hL,hb8,hl68,hiff⟩
   obtain⟨la,lcap,rfl,hseg,-⟩:=hL.form
   have hB8:=hB7.trans (hb8.mono hB7.size)
   have HIFF:Hid (∀z,z∈L↔z∈reachP h.p):=hiff
   clear c8 x0 x1 x2 x3 hiff hb8 hB7
   go_wp2
   exact⟨rfl,⟨rfl,rfl,rfl,rfl,rfl⟩,HOK.out,hB8,la,lcap,L,rfl,hseg,hl68,HIFF.out⟩
end
end Co
end Go.Proofs.YtcpnkpogebjieaaGreat
