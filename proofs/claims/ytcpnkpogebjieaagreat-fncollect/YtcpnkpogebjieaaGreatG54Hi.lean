/- The law on collecting: its loop over the objects. -/
import Derived.Test.YtcpnkpogebjieaaGreatG53Hc
import Derived.Test.YtcpnkpogebjieaaGreatG45Vk
import Derived.Conc.CompanyCalls
open Go.Value renaming slice→Qhp,string→Qhr
open Nat renaming le_refl→Qhq
set_option maxRecDepth 100000
set_option maxHeartbeats 16000000
namespace Go.Proofs.YtcpnkpogebjieaaGreat
namespace Co
open Go.RowKit
set_option linter.unusedSimpArgs false
section
variable {h x:Hp} {b3 b4:Nat} {ga:Option Addr} {gcap:Nat} {ms:List Int} {la:Option Addr} {lcap:Nat} {L:List Int}
structure KdS (h x:Hp) (b3 b4 bm om bo oo k:Nat) (ms:List Int) (o:Ob) (mi:Int) (W:World):Prop where
 x0:W.cell? ⟨b3,0,none⟩=some (.slice (some ⟨bo,oo,none⟩) h.os.length h.ocap)
 y0:W.cell? ⟨b4,0,none⟩=some (.slice x.oa x.os.length x.ocap)
 m1:W.cell? ⟨bm,om+k,none⟩=some (.int .i64 mi)
 e1:W.cell? ⟨bo,oo+k*3,none⟩=some (.int .i64 o.k)
 e2:W.cell? ⟨bo,oo+k*3+1,none⟩=some (.string o.t)
 e3:W.cell? ⟨bo,oo+k*3+2,none⟩=some (.slice o.ra o.r.length o.rcap)
 sO:Qk W o.ra o.r
 hm:∀j (hj:j<ms.length),W.cell? ⟨bm,om+j,none⟩=some (.int .i64 ms[j])
 hx:Qg W x
theorem Z9B {E:World}(k3:Blk E b3 (Hp.cells h) 27)(hh:Qg E h)(k4:Blk E b4 (Hp.cells x) 27)(hx:Qg E x)(hg:Qk E ga ms){k:Nat}(hlt:k<h.os.length)(glt:k<ms.length):
 ∃bm om bo oo,ga=some ⟨bm,om,none⟩∧∀W,Below E.heap.size E W→KdS h x b3 b4 bm om bo oo k ms h.os[k] ms[k] W:=by
 obtain⟨bo,oo,ea,hbo,e1,e2,e3⟩:=hh.so.get hlt
 obtain⟨bm,om,eg,hbm,em⟩:=hg.get glt
 refine⟨bm,om,bo,oo,eg,fun W hb=>?_⟩
 obtain⟨x0,-,-,-⟩:=QB (show Blk W b3 [Qhp h.oa h.os.length h.ocap,Qhp h.ra h.rs.length h.rcap,Qhp h.wa h.ws.length h.wcap,Qhp h.da h.ds.length h.dcap] _ from(k3.below hb k3.lt))
 obtain⟨y0,-,-,-⟩:=QB (show Blk W b4 [Qhp x.oa x.os.length x.ocap,Qhp x.ra x.rs.length x.rcap,Qhp x.wa x.ws.length x.wcap,Qhp x.da x.ds.length x.dcap] _ from(k4.below hb k4.lt))
 rw[ea]at x0
 exact⟨x0,y0,(hb.cell (p:=⟨bm,om+k,none⟩) hbm).trans em,(hb.cell (p:=⟨bo,oo+k*3,none⟩) hbo).trans e1,(hb.cell (p:=⟨bo,oo+k*3+1,none⟩) hbo).trans e2,(hb.cell (p:=⟨bo,oo+k*3+2,none⟩) hbo).trans e3,(hh.so.2 k hlt).below hb (Qhq _),fun j hj=>by
  obtain⟨bm',om',eg',-,em'⟩:=hg.get hj
  rw[eg]at eg'
  simp only[Option.some.injEq,Addr.mk.injEq,and_true]at eg'
  obtain⟨rfl,rfl⟩:=eg'
  exact(hb.cell (p:=⟨bm,om+j,none⟩) hbm).trans em',hx.below hb (Qhq _)⟩
theorem Z9r (f:Nat→Value)(t3:f 3=.pointer (some ⟨b3,0,none⟩))(t4:f 4=.pointer (some ⟨b4,0,none⟩))(t5:f 5=.slice ga ms.length gcap)(t8:f 8=.slice la L.length lcap)(E:World)(k3:Blk E b3 (Hp.cells h) 27)(hh:Qg E h)(k4:Blk E b4 (Hp.cells x) 27)(hx:Qg E x)(hg:Qk E ga ms)(hl:Qk E la L)(hl68:L.length≤68)(hn60:h.os.length≤60)(hml:ms.length=h.os.length)
 (hr6:∀i (hi:i<h.os.length),h.os[i].r.length≤6)(HG:Hid (∀i (hi:i<h.os.length),Z9U h x ms L i h.os[i])):
 chain Cut.prog (fun c a w1=>c=kdH∧Sk b3 b4 (.slice ga ms.length gcap) a∧Below E.heap.size E w1) (fun _ _=>False) 1 kdG ⟨Z98 f,[]⟩ E:=by
 have HK:Hid (∀k (hlt:k<h.os.length) (glt:k<ms.length),∃bm om bo oo,ga=some ⟨bm,om,none⟩∧∀W,Below E.heap.size E W→KdS h x b3 b4 bm om bo oo k ms h.os[k] ms[k] W):=fun k hlt glt=>Z9B k3 hh k4 hx hg hlt glt
 have HX:Hid (∀W,Below E.heap.size E W→W.cell? ⟨b3,0,none⟩=some (.slice h.oa h.os.length h.ocap)):=fun W hb=>by
  obtain⟨x0,-,-,-⟩:=QB (show Blk W b3 [Qhp h.oa h.os.length h.ocap,Qhp h.ra h.rs.length h.rcap,Qhp h.wa h.ws.length h.wcap,Qhp h.da h.ds.length h.dcap] _ from(k3.below hb k3.lt))
  exact x0
 have HML:Hid (ms.length=h.os.length):=hml
 unfold Z98
 rw[t3,t4,t5,t8]
 clear t3 t4 t5 t8 k3 k4 hh hx hg hml
 simp only[kdG,kdF,kdC,kdB,Tryz.f3,chain]
 go_wp2
 go_loopw [9] (fun i wr=>∃k:Nat,k≤h.os.length∧i=.int .i64 k∧Below E.heap.size E wr) (fun i _=>h.os.length-(intOf i).toNat)
 case atStart=>exact⟨0,Nat.zero_le _,rfl,Below.refl _ _⟩
 case round=>
  obtain⟨k,hk,rfl,hb⟩:=hrel
  by_cases hlt:k<h.os.length
  ·have hG:=HG.out k hlt
   have hr:=hr6 k hlt
   obtain⟨glt,gbd,gkn,gob⟩:=hG
   obtain⟨bm,om,bo,oo,eg,hS⟩:=HK.out k hlt glt
   obtain⟨gb1,gb2⟩:=gbd
   generalize h.os[k]=o at *
   have HOB:Hid (0≤ms[k]→∃(q:Ob) (hx:ms[k].toNat<x.os.length),x.os[ms[k].toNat]=q∧q.k=o.k∧q.t=o.t∧∃hl:q.r.length=o.r.length,
    ∀j (hk:j<o.r.length),(o.r[j]<0→q.r[j]= -1)∧(0≤o.r[j]→∃ht:o.r[j].toNat<ms.length,q.r[j]=ms[o.r[j].toNat]∧(ms[o.r[j].toNat]<0→o.k=3∧j=0))):=fun h0=>by
    obtain⟨a1,a2,a3,a4,a5⟩:=gob h0
    exact⟨_,a1,rfl,a2,a3,a4,a5⟩
   have HKN:Hid ((k:Int)∈L→0≤ms[k]):=gkn
   clear gkn gob
   subst eg
   have HS:Hid (∀W,Below E.heap.size E W→KdS h x b3 b4 bm om bo oo k ms o ms[k] W):=hS
   clear hS
   generalize ms[k]=mi at *
   obtain⟨ok,ot,ora,ocap,orf⟩:=o
   dsimp only at *
   have hge:decide ((x.os.length:Int)≤mi)=false:=decide_eq_false (by omega)
   have hi1:(k:Int)<(h.os.length:Int):=by omega
   have hi2:(k:Int)<(ms.length:Int):=by omega
   have HC:Hid (∀m,Calls Cut.prog 16 #[.slice la L.length lcap,.int .i64 k] (wr.drewN m) fun e w'=>e=.returned (.bool (decide ((k:Int)∈L)))∧∃n,w'=wr.drewN n):=fun m=>Calls.quiet_of_same (YS la L.length lcap k L (wr.drewN m) rfl (hl.below (ZV hb m) (Qhq _)) (by unfold maxLen;omega))
   obtain⟨x0,y0,m1,-,-,-,-,-,-⟩:=HS.out wr hb
   go_wp2_with fail
   go_cut [95]from 76 to 94 (fun s95 wx=>s95=.bool false∧Below E.heap.size E wx)
   case first=>
    by_cases h1:(k:Int)∈L
    ·have h0:=HKN.out h1
     have hlt0:decide (mi<0)=false:=decide_eq_false (by omega)
     simp only[h1,decide_true]at HC
     clear h1 h0 HKN
     go_quiet ((go_at_call 16;exact HC.out _))
     go_wp2
     go_meet
     case rel=>exact⟨rfl,ZV hb _⟩
    ·simp only[h1,decide_false]at HC
     clear h1 HKN
     go_quiet ((go_at_call 16;exact HC.out _))
     go_wp2
     go_meet
     case rel=>exact⟨rfl,ZV hb _⟩
   case rest=>
   obtain⟨rfl,hbc⟩:=hcut
   clear x0 y0 m1
   obtain⟨x0,y0,m1,-,-,-,-,-,hxc⟩:=HS.out wc hbc
   by_cases h0:mi<0
   ·have hlt0:decide (mi<0)=true:=decide_eq_true h0
    go_wp2
    go_roundw
    case rel=>exact⟨k+1,by omega,by go_num,hbc⟩
    case measure=>simp[intOf];omega
   have hlt0:decide (mi<0)=false:=decide_eq_false h0
   obtain⟨q,hqx,eq,q1,q2,hql,hqr⟩:=HOB.out (by omega)
   obtain⟨bq,oq,eb,hbq,f1,f2,f3⟩:=hxc.so.get hqx
   have HQS:Hid (∀W,Below E.heap.size E W→Qk W q.ra q.r):=fun W hb=>by
    have:=(HS.out W hb).hx.so.2 _ hqx
    rw[eq]at this
    exact this
   rw[eb]at y0
   rw[eq]at f1 f2 f3
   obtain⟨qk,qt,qra,qcap,qrf⟩:=q
   dsimp only at *
   subst q1 q2
   have HQL:Hid (qrf.length=orf.length):=hql
   have HQR:Hid (∀j (hk:j<orf.length) (hq:j<qrf.length),(orf[j]<0→qrf[j]= -1)∧(0≤orf[j]→∃ht:orf[j].toNat<ms.length,qrf[j]=ms[orf[j].toNat]∧(ms[orf[j].toNat]<0→qk=3∧j=0))):=fun j hk _=>hqr j hk
   rw[hql]at f3
   clear eq hqr hql HOB HKN hxc eb
   have hb4:=World.block_lt_of_cell? wc _ y0
   have hbm:=World.block_lt_of_cell? wc _ m1
   dsimp only at hb4 hbm
   have hxl:mi<(x.os.length:Int):=gb2
   have hm0:0≤mi:=by omega
   have kN:=Blk.new wc [Value.int .i64 qk,Qhr qt,Qhp qra orf.length qcap] 37
   have hA:Below E.heap.size E (wc.alloc (Obj.cells #[Value.int .i64 qk,Qhr qt,Qhp qra orf.length qcap] 37)):=hbc.alloc hbc.size _
   go_wp2_with fail
   go_cut [10]from 101 to 108 (fun s10 wx=>∃g:Nat,s10=.pointer (some ⟨g,0,none⟩)∧Below E.heap.size E wx∧Blk wx g [Value.int .i64 qk,Qhr qt,Qhp qra orf.length qcap] 37)
   case first=>
    clear HS HQS HQR HQL HG HX HK
    go_region
    all_goals
     go_wp2
     go_meet
     case rel=>exact⟨_,rfl,hA.drew,kN⟩
   case rest=>
   clear x0 y0 m1 f1 f2 f3 hbq hb4 hbm kN hA hbc
   obtain⟨g,rfl,hbc,kG⟩:=hcut
   obtain⟨x0,y0,m1,e1,e2,e3,-,-,-⟩:=HS.out wc hbc
   have kGl:=kG.lt
   have d0:=kG.cell 0
   have d1:=kG.cell 1
   have d2:=kG.cell 2
   simp only[List.getElem?_cons_zero,List.getElem?_cons_succ]at d0 d1 d2
   have hne:(qk !=qk)=false:=by simp
   go_wp2_with fail
   go_cut [141]from 109 to 140 (fun s wx=>s=.bool false∧∃n,wx=wc.drewN n)
   case first=>
    clear HS HQS HQR HQL HG HX HK
    go_quiet (fail)
    go_wp2
    go_meet
    case rel=>exact⟨rfl,_,rfl⟩
   case rest=>
   clear x0 y0 m1 e1 e2 e3 d0 d1 d2 hne
   obtain⟨rfl,n,ew⟩:=hcut
   replace hbc:=ZV hbc n
   replace kG:=kG.below (ZV (Below.refl _ _) n) kGl
   rw[←ew]at hbc kG
   clear ew kGl
   go_wp2
   go_loopw [11] (fun i wr=>∃j:Nat,j≤orf.length∧i=.int .i64 j∧Below wc.heap.size wc wr) (fun i _=>orf.length-(intOf i).toNat)
   case atStart=>exact⟨0,Nat.zero_le _,rfl,Below.refl _ _⟩
   case round=>
    obtain⟨j,hj,rfl,hb2⟩:=hrel
    have hB:=hbc.trans (hb2.mono hbc.size)
    have kR:=kG.below hb2 kG.lt
    have d0:=kR.cell 0
    have d2:=kR.cell 2
    simp only[List.getElem?_cons_zero,List.getElem?_cons_succ]at d0 d2
    by_cases hjl:j<orf.length
    ·obtain⟨x0,-,-,-,-,e3,sO,hm,-⟩:=HS.out wr hB
     obtain⟨bO,oO,rfl,-,to1⟩:=sO.get hjl
     have hjq:j<qrf.length:=by rw[HQL.out];exact hjl
     obtain⟨bQ,oQ,rfl,-,tq1⟩:=(HQS.out wr hB).get hjq
     obtain⟨qa,qb⟩:=HQR.out j hjl hjq
     have hj1:(j:Int)<(orf.length:Int):=by omega
     generalize orf[j]=tz at *
     generalize qrf[j]=tq at *
     have HM:Hid (∀j (hj:j<ms.length),wr.cell? ⟨bm,om+j,none⟩=some (.int .i64 ms[j])):=hm
     have HQA:Hid (tz<0→tq= -1):=qa
     have HQB:Hid (0≤tz→∃ht:tz.toNat<ms.length,tq=ms[tz.toNat]∧(ms[tz.toNat]<0→qk=3∧j=0)):=qb
     clear qa qb hm sO HQS HQR HS HG HX HK
     by_cases hneg:tz<0
     ·have r1:decide (0≤tz)=false:=decide_eq_false (by omega)
      have r2:decide (tz<0)=true:=decide_eq_true hneg
      obtain rfl:=HQA.out hneg
      clear HQA HQB HM hneg
      go_wp2_with fail
      go_quiet (fail)
      go_wp2
      go_roundw
      case rel=>exact⟨j+1,by omega,by go_num,ZV hb2 _⟩
      case measure=>simp[intOf];omega
     ·have r1:decide (0≤tz)=true:=decide_eq_true (by omega)
      have r2:decide (tz<0)=false:=decide_eq_false hneg
      have r3:0≤tz:=by omega
      obtain⟨ht,et,hw⟩:=HQB.out r3
      have m2:=HM.out _ ht
      have r4:tz<(ms.length:Int):=by omega
      have HW:Hid (ms[tz.toNat]<0→qk=3∧j=0):=hw
      clear HQA HQB HM hneg hw
      generalize ms[tz.toNat]=mz at *
      subst et
      have r5:(tq !=tq)=false:=by simp
      by_cases hmt:tq<0
      ·have r7:(qk !=3)=false:=by rw[(HW.out hmt).1];rfl
       have r8:((j:Int)!=0)=false:=by rw[(HW.out hmt).2];rfl
       have r6:decide (tq<0)=true:=decide_eq_true hmt
       clear HW hmt
       go_wp2_with fail
       go_quiet (fail)
       go_wp2
       go_roundw
       case rel=>exact⟨j+1,by omega,by go_num,ZV hb2 _⟩
       case measure=>simp[intOf];omega
      ·have r6:decide (tq<0)=false:=decide_eq_false hmt
       clear HW hmt
       go_wp2_with fail
       go_quiet (fail)
       go_wp2
       go_roundw
       case rel=>exact⟨j+1,by omega,by go_num,ZV hb2 _⟩
       case measure=>simp[intOf];omega
    ·have ej:j=orf.length:=by omega
     subst ej
     go_wp2
     go_roundw
     case rel=>exact⟨k+1,by omega,by go_num,hB⟩
     case measure=>simp[intOf];omega
  ·have ek:k=h.os.length:=by omega
   subst ek
   have x0:=HX.out wr hb
   go_wp2
   exact⟨rfl,⟨rfl,rfl,rfl,rfl,rfl⟩,hb⟩
end
theorem Z9q {x z:Hp}{b4 b13 n:Nat}{sa:Option Addr}{scap:Nat}(f:Nat→Value)(t4:f 4=.pointer (some ⟨b4,0,none⟩))(t13:f 13=.pointer (some ⟨b13,0,none⟩))(t14:f 14=.slice sa n scap)(E:World)(k4:Blk E b4 (Hp.cells x) 27)(hx:Qg E x)(k13:Blk E b13 (Hp.cells z) 27)(hz:Qg E z)(hsz:Zl z)(hzp:z.p=x.p)(hs:Qk E sa (Z99 n))(hn:n≤60):
 kdI.wp Cut.prog (Z9 (fun _ _=>False) (KdR E)) ⟨Z98 f,[]⟩ E:=by
 unfold Z98
 rw[t4,t13,t14]
 clear t4 t13 t14
 simp only[kdI,kdH,kdG,kdF,kdC,kdB,Tryz.f3]
 go_wp2
 go_loopw [15] (fun i wr=>∃k:Nat,k≤n∧i=.int .i64 k∧wr=E) (fun i _=>n-(intOf i).toNat)
 case atStart=>exact⟨0,Nat.zero_le _,rfl,rfl⟩
 case round=>
  obtain⟨k,hk,rfl,rfl⟩:=hrel
  by_cases hlt:k<n
  ·have hk2:k<(Z99 n).length:=by rw[Z94];exact hlt
   obtain⟨b,off,rfl,hb,e1⟩:=hs.get hk2
   rw[Z95]at e1
   have hi1:(k:Int)<(n:Int):=by omega
   have hne:((k:Int)!=(k:Int))=false:=by simp
   go_wp2
   go_roundw
   case rel=>exact⟨k+1,by omega,by go_num,trivial⟩
   case measure=>simp[intOf];omega
  ·obtain⟨x0,x1,x2,x3⟩:=QB (show Blk wr b4 [Qhp x.oa x.os.length x.ocap,Qhp x.ra x.rs.length x.rcap,Qhp x.wa x.ws.length x.wcap,Qhp x.da x.ds.length x.dcap] _ from k4)
   obtain⟨y0,y1,y2,y3⟩:=QB (show Blk wr b13 [Qhp z.oa z.os.length z.ocap,Qhp z.ra z.rs.length z.rcap,Qhp z.wa z.ws.length z.wcap,Qhp z.da z.ds.length z.dcap] _ from k13)
   have c1:=Qa1 z x wr hzp hz hx hsz
   simp only[Hp.v]at c1
   clear hzp
   go_wp2_with fail
   refine c1.mono ?_
   rintro e w1 ⟨rfl,hb⟩
   go_wp2
   exact⟨rfl,rfl,rfl,hb⟩
end Co
namespace Co
open Go.Conc Go.ConcN Go.RowKit Go.Conc.Lib Go.ConcR.Gen
section
variable {X0 X X':Nat→Bool} {Ch:Nat}
theorem Z97 {f:Nat→Value}{v:Value}(i:Nat)(h:(Z98 f)[i]? =some v)(hi:(Z98 f)[i]? =some (f i)):f i=v:=by
 rw[hi]at h
 exact Option.some.inj h
structure KdX (x:Hp):Prop where
 ok:OkC x
 co:CoP x.p x.p (Z99 x.os.length)
theorem Z9y {w0:World}{g':Goroutine}{w:World}(hD:KdF X0 w0 X g' w):Qt Tryz.prog X Ch (fun g w1=>(∃x,KdX x∧Z9S x X0 w0 X g w1)∨Z92 X0 w0 X g w1) g' w:=by
 obtain⟨T,b3,b4,h,x,ga,gcap,ms,hT,t3,t4,t5,an1,an2,rfl,hI⟩:=hD
 have hok:QO Tryz.progTables kdF=true:=by kernel_rfl
 have hbig:=hI.la.big
 have hml:ms.length≤60:=by
  cases ho:okP h.p with
  |false=>rw[(an1 ho).2];simp
  |true=>
   have h1:=(Z9Z (YN ho) (an2 ho)).2.1
   have h2:=(YN ho).n60
   omega
 refine V2 6 hI.la.sn (Z9Y rfl hok) (R:=fun c a w2=>∃u:World,(u.heap=(emW X w).heap∧OO u w)∧(c=kdH∧Sk b3 b4 (.slice ga ms.length gcap) a∧okP h.p=true∧Below u.heap.size u w2)) (Rr:=fun a w2=>∃u:World,(u.heap=(emW X w).heap∧OO u w)∧KdR u a w2) (fun t d=>?_) (fun c' a w2 w2' hE hS hK hFO hR=>?_) (fun a todo w2 w2' hE hS hK hFO hR=>?_)
 ·have hu:On (emW X w) {emW X w with tape:=t,drawn:=d}:=O1 t d
  obtain⟨p1,p2,p3,p4,p5⟩:=hI.p
  obtain⟨f,rfl⟩:=Z96 T hT
  have c1:=Z9s f (Z97 3 t3 rfl) (Z97 4 t4 rfl) (Z97 5 t5 rfl) {emW X w with tape:=t,drawn:=d} (Jd p1 hu) (Yb p2 hu) (Jd p5 hu) (Yb p3 hu) (K4 p4 hu) hml an1 an2
  refine PC (n:=5) (m:=1) (Uu c1 ?_ (fun a w1 hq=>⟨{emW X w with tape:=t,drawn:=d},⟨rfl,rfl,rfl⟩,hq⟩))
  rintro c ⟨T1,D1⟩ w1 ⟨rfl,s1,hokp,hb1,la,lcap,L,s8,hl,hl68,hiff⟩
  have e1:D1=[]:=s1.df
  subst e1
  have o1:=hu.trans (On.of hb1 (Qhq _))
  have c:=YN hokp
  obtain⟨-,hm,-,-⟩:=Z9Z c (an2 hokp)
  obtain⟨f1,e2⟩:=Z96 T1 s1.sz
  obtain⟨_,_,s3,s4,s5⟩:=s1
  simp only at s3 s4 s5 s8
  subst e2
  have c2:=Z9r f1 (Z97 3 s3 rfl) (Z97 4 s4 rfl) (Z97 5 s5 rfl) (Z97 8 s8 rfl) w1 (Jd p1 o1) (Yb p2 o1).isIn (Jd p5 o1) (Yb p3 o1).isIn (K4 p4 o1) hl hl68 c.n60 hm (fun i hi=>(c.kind i hi).1) (Z9D c (an2 hokp) hiff)
  refine Uu c2 ?_ (fun _ _ h=>h.elim)
  rintro c a w3 ⟨rfl,s2,hb2⟩
  exact⟨{emW X w with tape:=t,drawn:=d},⟨rfl,rfl,rfl⟩,rfl,s2,hokp,hb1.trans (hb2.mono hb1.size)⟩
 ·obtain⟨u,⟨hu,huo⟩,rfl,s,hokp,hB⟩:=hR
  obtain⟨T,D⟩:=a
  have e1:D=[]:=s.df
  subst e1
  have us:u.heap.size=w.heap.size:=by rw[hu,QD]
  have ou:On (emW X w) u:=⟨by rw[hu];exact Qhq _,fun b _=>by rw[hu]⟩
  have o2:On (emW X w) (emW X w2):=ou.trans ((On.of hB (Qhq _)).trans (KM hE))
  obtain⟨p1,p2,p3,p4,p5⟩:=hI.p
  obtain⟨cx,-,-,hco⟩:=Z9Z (YN hokp) (an2 hokp)
  exact Qbc (Z9v s.sz s.t4 ⟨hI.la.piece rfl hu huo hE hS hK (hB.mono (by rw[us];exact hbig)),fun E E' o ⟨a1,a2⟩=>⟨Jd a1 o,Yb a2 o⟩,Jd p5 o2,Yb p3 o2⟩) fun g w hg=>.inl ⟨x,⟨cx,hco⟩,hg⟩
 ·obtain⟨u,⟨hu,huo⟩,r1,r2,r3,hB⟩:=hR
  have us:u.heap.size=w.heap.size:=by rw[hu,QD]
  exact .stop (.inr ⟨_,rfl,rfl,r1,rfl,rfl,by
   show a.tmps.getD 2 undef=_
   rw[Array.getD_eq_getD_getElem?,r3]
   rfl,hI.la.piece rfl hu huo hE hS hK (hB.mono (by rw[us];exact hbig))⟩)
theorem Z9z {x:Hp}(kx:KdX x){w0:World}{g':Goroutine}{w:World}(hD:KdK x X0 w0 X g' w):Qt Tryz.prog X Ch (Z92 X0 w0 X) g' w:=by
 obtain⟨T,b4,b13,z,sa,scap,rs,hT,t4,t13,t14,an,rfl,hI⟩:=hD
 have hok:QO Tryz.progTables kdI=true:=by kernel_rfl
 have hbig:=hI.la.big
 obtain⟨hz,hr⟩:=an (YA kx.ok) _ _ kx.co
 subst hr
 rw[Z94]at t14
 refine V5 hI.la.sn (Z9Y rfl hok) (R:=fun _ _=>False) (Rr:=fun a w2=>∃u:World,(u.heap=(emW X w).heap∧OO u w)∧KdR u a w2) (fun t d=>?_) (fun a w2 w2' hE hS hK hFO hR=>hR.elim) (fun a todo w2 w2' hE hS hK hFO hR=>?_)
 ·have hu:On (emW X w) {emW X w with tape:=t,drawn:=d}:=O1 t d
  obtain⟨p1,p2,p3,p4,p5⟩:=hI.p
  obtain⟨f,rfl⟩:=Z96 T hT
  refine wp_mono (Z9q f (Z97 4 t4 rfl) (Z97 13 t13 rfl) (Z97 14 t14 rfl) {emW X w with tape:=t,drawn:=d} (Jd p1 hu) (Yb p2 hu).isIn (Jd p5 hu) (Yb p3 hu).isIn p3.small hz.symm (K4 p4 hu) kx.ok.n60) fun e a w1 hq=>?_
  cases e with
  |normal=>exact hq.elim
  |ret=>exact⟨{emW X w with tape:=t,drawn:=d},⟨rfl,rfl,rfl⟩,hq⟩
  |_=>exact hq
 ·obtain⟨u,⟨hu,huo⟩,r1,r2,r3,hB⟩:=hR
  have us:u.heap.size=w.heap.size:=by rw[hu,QD]
  exact .stop ⟨_,rfl,rfl,r1,rfl,rfl,by
   show a.tmps.getD 2 undef=_
   rw[Array.getD_eq_getD_getElem?,r3]
   rfl,hI.la.piece rfl hu huo hE hS hK (hB.mono (by rw[us];exact hbig))⟩
end
theorem Z9I (a:Option Addr)(cap:Nat)(bs:List Int)(W:World)(hcap:bs.length≤cap)(hm:cap≤maxLen)(hby:∀x∈bs,0≤x∧x<256)(hsc:0<bs.length→∃b off,a=some ⟨b,off,none⟩∧b<W.heap.size∧∀i (hi:i<bs.length),W.cell? ⟨b,off+i,none⟩=some (.int .u8 bs[i])):
 ∃N last o w' t',runNT Tryz.prog (N+1) (solo (G (Frame.enter Tryz.prog 3 #[.slice a bs.length cap] .normal) []) W) #[]=(.ended o w',t')∧runN Tryz.prog N (solo (G (Frame.enter Tryz.prog 3 #[.slice a bs.length cap] .normal) []) W)=.next last∧step Tryz.prog last=.ended o w'∧
  Go.Conc.Good Tryz.prog (fun v w'=>v=.bool true∧w'.os=W.os∧w'.output=W.output∧W.heap.size≤w'.heap.size∧∀b,b<W.heap.size→w'.heap[b]? =W.heap[b]?) last o w' t':=by
 have hs:=Qf3 W
 have hB:=QbR W (G (Frame.enter Tryz.prog 3 #[.slice a bs.length cap] .normal) [])
 have fin:∀ {X:Nat→Bool} {SB:Nat→Prop} {gs:Array Goroutine} {w:World} {t:Trace} {sl:Option (Nat×Nat)} {K:Nat} {g:Goroutine},runNT Tryz.prog K (solo (G (Frame.enter Tryz.prog 3 #[.slice a bs.length cap] .normal) []) W) #[]=(.next (crowd gs w sl),t)→Bt X SB gs w t→gs[0]? =some g→Z92 (X0 W) W X g w→
  ∃N last o w' t',runNT Tryz.prog (N+1) (solo (G (Frame.enter Tryz.prog 3 #[.slice a bs.length cap] .normal) []) W) #[]=(.ended o w',t')∧runN Tryz.prog N (solo (G (Frame.enter Tryz.prog 3 #[.slice a bs.length cap] .normal) []) W)=.next last∧step Tryz.prog last=.ended o w'∧
  Go.Conc.Good Tryz.prog (fun v w'=>v=.bool true∧w'.os=W.os∧w'.output=W.output∧W.heap.size≤w'.heap.size∧∀b,b<W.heap.size→w'.heap[b]? =W.heap[b]?) last o w' t':=by
  intro X SB gs w t sl K g hr hB h0 hE
  obtain⟨fr,rfl,e1,e2,e3,e4,e5,hA⟩:=hE
  refine QfS hr (Qdp hB h0 e1 e2 e3 (fn:=Tryz.f3) (by rw[e4];exact Tryz.func3) (by rw[e4];kernel_rfl) (v:=.bool true) (fun d=>?_) (fun d=>?_) (fun d=>⟨rfl,hA.oo.1,hA.oo.2,hA.big,fun b hb=>(hA.old b hb).1⟩) sl)
  ·have:=(resultsC_tmp (P:=Tryz.prog) (fn:=Tryz.f3) (t:=2) rfl fr.tmps (w.at d)).1
   rw[e5]at this
   exact this
  ·exact(resultsC_tmp (P:=Tryz.prog) (fn:=Tryz.f3) (t:=2) rfl fr.tmps (w.at d)).2
 obtain⟨n1,gs1,a1,w1,sl1,t1,hr1,hsz1,h01,hor,hB1⟩:=JV hB rfl (Z9A (Ch:=0) hcap hm hby (fun hp=>by
  obtain⟨b,off,e1,e2,e3⟩:=hsc hp
  exact⟨b,off,e1,e2,fun i hi=>(QbZ W b _).trans (e3 i hi)⟩) hs) none
 rw[←solo_eq_crowd]at hr1
 rcases hor with⟨T,b3,y,q0,q3,rfl,hI⟩|hE
 ·have hf:=hI.p.2
  obtain⟨n2,gs2,w2,sl2,t2,X2,SB2,g,gv,hr2,h02,hB2,ho⟩:=QeM hf.small hf.txt hf.cap hB1 hI.la.sn hf.isIn h01 sl1
  obtain⟨n3,gs3,a3,w3,sl3,t3,hr3,hsz3,h03,hE3,hB3⟩:=JV hB2 h02 (Pb (Z9x (Ch:=0) q0 q3 hI ho) fun g w hD=>Z9y hD) sl2
  rcases hE3 with⟨x,kx,T2,b4,x2,q0',q4,⟨rfl,rfl⟩,hI2⟩|hE3
  ·have hf2:=hI2.p.2
   obtain⟨n4,gs4,w4,sl4,t4,X4,SB4,z,zv,hr4,h04,hB4,ho4⟩:=QeM hf2.small hf2.txt hf2.cap hB3 hI2.la.sn hf2.isIn h03 sl3
   obtain⟨n5,gs5,a5,w5,sl5,t5,hr5,hsz5,h05,hE5,hB5⟩:=JV hB4 h04 (Pb (Z9w (Ch:=0) q0' q4 hI2 ho4) fun g w hD=>Z9z kx hD) sl4
   refine fin (K:=n1+(n2+(n3+(n4+n5)))) (sl:=sl5) ?_ hB5 h05 hE5
   rw[runNT_add,hr1]
   simp only
   rw[runNT_add,hr2]
   simp only
   rw[runNT_add,hr3]
   simp only
   rw[runNT_add,hr4]
   exact hr5
  ·refine fin (K:=n1+(n2+n3)) (sl:=sl3) ?_ hB3 h03 hE3
   rw[runNT_add,hr1]
   simp only
   rw[runNT_add,hr2]
   exact hr3
 ·exact fin hr1 hB1 h01 hE
end Co
end Go.Proofs.YtcpnkpogebjieaaGreat
