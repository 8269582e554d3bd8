/- The specification's own MemOk, whole. -/
import Derived.Test.YtcpnkpogebjieaaGreatG13Eq
import Derived.Deep.QuietTactic
import Derived.BigQuiet
import Derived.Deep.RegionWith
import Derived.Test.YtcpnkpogebjieaaGreatG11Mk1
open Go.Value renaming slice→Qhp
open Nat renaming le_refl→Qhq,zero_le→Qhr
open List renaming all_eq_true→Qhs,length_map→Qht,getElem?_cons_zero→Qhu,getElem?_cons_succ→Qhv
set_option maxHeartbeats 1600000
set_option maxRecDepth 100000
namespace Go.Proofs.YtcpnkpogebjieaaGreat
section
open Go.RowKit
def Hp.cs (h:Hp):List Value:=[.slice h.oa h.os.length h.ocap,.slice h.ra h.rs.length h.rcap,.slice h.wa h.ws.length h.wcap,.slice h.da h.ds.length h.dcap]
theorem KL {h:Hp}(hx:60<h.os.length∨8<h.rs.length∨20<h.ws.length+h.ds.length):okP h.p=false:=by
 have:(decide (h.p.1.length≤60)&&decide (h.p.2.1.length≤8)&&decide (h.p.2.2.1.length+h.p.2.2.2.length≤20))=false:=by
  simp only[Hp.p,Qht]
  rcases hx with hx|hx|hx
  ·simp[show ¬h.os.length≤60 by omega]
  ·simp[show ¬h.rs.length≤8 by omega]
  ·simp[show ¬h.ws.length+h.ds.length≤20 by omega]
 unfold okP
 rw[this];rfl
theorem Vt {h:Hp}(h1:h.os.length≤60)(h2:h.rs.length≤8)(h3:h.ws.length+h.ds.length≤20):
 okP h.p=(h.os.all (fun o=>Qs h.os.length o.p)&&(QZ h.os.length h.rs&&(h.ws.all (Qp (h.os.map Ob.p))&&h.ds.all (Qp (h.os.map Ob.p))))):=by
 simp[okP,Hp.p,h1,h2,h3,List.all_map,Function.comp_def]
theorem K5 (h:Hp)(w:World)(hh:Qg w h)(hs:Zl h)(ht:∀i (hi:i<h.os.length),h.os[i].t.size≤maxLen):
 Calls Cut.prog 12 #[h.v] w fun e w'=>e=.returned (.bool (okP h.p))∧Below w.heap.size w w':=by
 have hbig:=@KL h
 have hsmall:=@Vt h
 generalize okP h.p=OK at hbig hsmall⊢
 obtain⟨oa,ocap,os,ra,rcap,rs,wa,wcap,ws,da,dcap,ds⟩:=h
 obtain⟨ho,hr,hw,hd⟩:=hh
 obtain⟨so,soo,sr,sw,sd⟩:=hs
 simp only[Hp.v]at *
 have Hbig:Hid (60<os.length∨8<rs.length∨20<ws.length+ds.length→OK=false):=hbig
 clear hbig
 by_cases g1:60<os.length
 ·have HO:Hid (OK=false):=Hbig.out (Or.inl g1)
  clear Hbig hsmall
  go_enter (Cut.func_of Tryz.func12 rfl),Tryz.ntmps12
  go_wp2
  go_ret
  exact⟨Qx HO.out.symm,(Below.refl _ _).alloc (Qhq _) _⟩
 by_cases g2:8<rs.length
 ·have HO:Hid (OK=false):=Hbig.out (Or.inr (Or.inl g2))
  clear Hbig hsmall
  go_enter (Cut.func_of Tryz.func12 rfl),Tryz.ntmps12
  go_wp2
  go_ret
  exact⟨Qx HO.out.symm,(Below.refl _ _).alloc (Qhq _) _⟩
 by_cases g3:20<ws.length+ds.length
 ·have HO:Hid (OK=false):=Hbig.out (Or.inr (Or.inr g3))
  have g3':(20:Int)<(ws.length:Int)+(ds.length:Int):=by omega
  clear Hbig hsmall
  go_enter (Cut.func_of Tryz.func12 rfl),Tryz.ntmps12
  go_wp2
  go_ret
  exact⟨Qx HO.out.symm,(Below.refl _ _).alloc (Qhq _) _⟩
 have HO:Hid (OK=(os.all (fun o=>Qs os.length o.p)&&(QZ os.length rs&&(ws.all (Qp (os.map Ob.p))&&ds.all (Qp (os.map Ob.p)))))):=hsmall (by omega) (by omega) (by omega)
 clear hsmall Hbig
 have k1:decide ((60:Int)<(os.length:Int))=false:=by simp;omega
 have k2:decide ((8:Int)<(rs.length:Int))=false:=by simp;omega
 have k3:decide ((20:Int)<(ws.length:Int)+(ds.length:Int))=false:=by simp;omega
 go_enter (Cut.func_of Tryz.func12 rfl),Tryz.ntmps12
 go_wp2
 have hB0:Below w.heap.size w (w.alloc (Obj.cells #[Qhp oa os.length ocap,Qhp ra rs.length rcap,Qhp wa ws.length wcap,Qhp da ds.length dcap] 27)):=(Below.refl _ _).alloc (Qhq _) _
 have hK0:Blk (w.alloc (Obj.cells #[Qhp oa os.length ocap,Qhp ra rs.length rcap,Qhp wa ws.length wcap,Qhp da ds.length dcap] 27)) w.heap.size [Qhp oa os.length ocap,Qhp ra rs.length rcap,Qhp wa ws.length wcap,Qhp da ds.length dcap] 27:=Blk.new w _ _
 go_loopw [3] (fun i wr=>∃k:Nat,k≤os.length∧i=.int .i64 k∧Below w.heap.size w wr∧Blk wr w.heap.size [Qhp oa os.length ocap,Qhp ra rs.length rcap,Qhp wa ws.length wcap,Qhp da ds.length dcap] 27∧∀j (hj:j<os.length),j<k→Qs os.length os[j].p=true) (fun i _=>os.length-(intOf i).toNat)
 case atStart=>exact⟨0,Qhr _,rfl,hB0,hK0,fun j _ h=>by omega⟩
 case round=>
  obtain⟨k,hk,rfl,hb,hblk,hall⟩:=hrel
  clear hB0 hK0
  have c0:=hblk.cell 0
  have c1:=hblk.cell 1
  have c2:=hblk.cell 2
  have c3:=hblk.cell 3
  simp only[Qhu,Qhv]at c0 c1 c2 c3
  have hsz:=hblk.lt
  by_cases hlt:k<os.length
  ·have HA:Hid (∀j (hj:j<os.length),j<k→Qs os.length os[j].p=true):=hall
   clear hall
   have hrl:os[k].r.length≤maxLen:=by have:=soo k hlt;unfold maxLen;omega
   have htl:=ht k hlt
   have s1:=((ho.2 k hlt).below hb (Qhq _)).below (Below.refl wr.heap.size wr).drew (Qhq _)
   obtain⟨b,off,rfl,hbw,e1,e2,e3⟩:=ho.get hlt
   have d1:=(hb.cell (p:=⟨b,off+k*3,none⟩) hbw).trans e1
   have d2:=(hb.cell (p:=⟨b,off+k*3+1,none⟩) hbw).trans e2
   have d3:=(hb.cell (p:=⟨b,off+k*3+2,none⟩) hbw).trans e3
   have hi1:(k:Int)<(os.length:Int):=by omega
   clear e1 e2 e3
   go_wp2_with fail
   go_region_with (go_at_call 41;refine(OB _ _ _ _ _ os[k].r _ _ rfl hrl htl s1 (by omega) (by omega)).mono ?_;rintro e w' ⟨rfl,hbx⟩)
   all_goals
    have hbb:=hb.drew.trans (hbx.mono hb.drew.size)
    have hblk1:=(hblk.below (Below.refl wr.heap.size wr).drew hsz).below hbx hsz
    clear hbx d1 d2 d3 s1 c0 c1 c2 c3
    cases hob:Qs os.length (os[k].k,os[k].t,os[k].r)with
    |false=>
     have HF:Hid (OK=false):=by
      show OK=false
      rw[HO.out,Jy (f:=fun o=>Qs os.length o.p) hlt hob];rfl
     clear hob
     go_wp2
     go_ret
     exact⟨Qx HF.out.symm,hbb⟩
    |true=>
     have HR:Hid (∀j (hj:j<os.length),j<k+1→Qs os.length os[j].p=true):=J0 (f:=fun(o:Ob)=>Qs os.length o.p) HA.out hlt hob
     clear hob
     go_wp2
     go_roundw
     case rel=>exact⟨k+1,by omega,by go_num,hbb,hblk1,HR.out⟩
     case measure=>simp[intOf];omega
  ·have HO1:Hid (OK=(QZ os.length rs&&(ws.all (Qp (os.map Ob.p))&&ds.all (Qp (os.map Ob.p))))):=by
    show OK=_
    rw[HO.out,J7 (f:=fun o=>Qs os.length o.p) (fun i hi=>hall i hi (by omega)),Bool.true_and]
   have hnk:decide ((k:Int)<(os.length:Int))=false:=by simp;omega
   clear hall HO
   obtain⟨wo,rfl⟩:∃wo:World,wo=wr:=⟨_,rfl⟩
   go_wp2
   go_loopw [4] (fun i wr=>∃k:Nat,k≤rs.length∧i=.int .i64 k∧Below w.heap.size w wr∧Blk wr w.heap.size [Qhp oa os.length ocap,Qhp ra rs.length rcap,Qhp wa ws.length wcap,Qhp da ds.length dcap] 27∧∀j (hj:j<rs.length),j<k→inB rs[j] (-1) (os.length-1)=true) (fun i _=>rs.length-(intOf i).toNat)
   case atStart=>exact⟨0,Qhr _,rfl,hb,hblk,fun j _ h=>by omega⟩
   case round=>
    obtain⟨m,hm,rfl,hb,hblk,hall⟩:=hrel
    have c0:=hblk.cell 0
    have c1:=hblk.cell 1
    have c2:=hblk.cell 2
    have c3:=hblk.cell 3
    simp only[Qhu,Qhv]at c0 c1 c2 c3
    have hsz:=hblk.lt
    by_cases hlt:m<rs.length
    ·have HA:Hid (∀j (hj:j<rs.length),j<m→inB rs[j] (-1) (os.length-1)=true):=hall
     clear hall
     obtain⟨b,off,rfl,hbw,e1⟩:=hr.get hlt
     have d1:=(hb.cell (p:=⟨b,off+m,none⟩) hbw).trans e1
     have hi1:(m:Int)<(rs.length:Int):=by omega
     clear e1
     go_wp2_with fail
     go_quiet ((go_at_call 42;exact Calls.quiet_of_same (Yc _ _ _ _)))
     have hbb:=ZV hb nq
     have hblk1:=hblk.below (ZV (Below.refl wr.heap.size wr) nq) hsz
     cases hob:inB rs[m] (-1) ((os.length:Int)-1)with
     |false=>
      have HF:Hid (OK=false):=by
       show OK=false
       rw[HO1.out]
       simp only[QZ]
       rw[Jy (f:=fun z=>inB z (-1) ((os.length:Int)-1)) hlt hob];rfl
      clear hob
      go_wp2
      go_ret
      exact⟨Qx HF.out.symm,hbb⟩
     |true=>
      have HR:Hid (∀j (hj:j<rs.length),j<m+1→inB rs[j] (-1) (os.length-1)=true):=J0 (f:=fun z=>inB z (-1) ((os.length:Int)-1)) HA.out hlt hob
      clear hob
      go_wp2
      go_roundw
      case rel=>exact⟨m+1,by omega,by go_num,hbb,hblk1,HR.out⟩
      case measure=>simp[intOf];omega
    ·have HO2:Hid (OK=(ws.all (Qp (os.map Ob.p))&&ds.all (Qp (os.map Ob.p)))):=by
      show OK=_
      rw[HO1.out]
      simp only[QZ]
      rw[J7 (f:=fun z=>inB z (-1) ((os.length:Int)-1)) (fun i hi=>hall i hi (by omega)),Bool.true_and]
     have hnm:decide ((m:Int)<(rs.length:Int))=false:=by simp;omega
     clear hall HO1
     go_wp2_with fail
     have kw:=OC ⟨oa,ocap,os,ra,rcap,rs,wa,wcap,ws,da,dcap,ds⟩ wa ws.length wcap ws wr rfl (by unfold maxLen;omega) ⟨ho.below hb (Qhq _),hr.below hb (Qhq _),hw.below hb (Qhq _),hd.below hb (Qhq _)⟩ so (hw.below hb (Qhq _))
     simp only[Hp.v]at kw
     refine kw.mono ?_
     rintro e w1 ⟨rfl,hb1⟩
     have hbb:=hb.trans (hb1.mono hb.size)
     have hblk1:=hblk.below hb1 hsz
     clear kw c0 c1 c2 c3
     have c0:=hblk1.cell 0
     have c1:=hblk1.cell 1
     have c2:=hblk1.cell 2
     have c3:=hblk1.cell 3
     simp only[Qhu,Qhv]at c0 c1 c2 c3
     cases hob:ws.all (Qp (os.map Ob.p))with
     |false=>
      have HF:Hid (OK=false):=by
       show OK=false
       rw[HO2.out,hob];rfl
      clear hob
      go_wp2
      go_ret
      exact⟨Qx HF.out.symm,hbb⟩
     |true=>
      have HF:Hid (OK=ds.all (Qp (os.map Ob.p))):=by
       show OK=_
       rw[HO2.out,hob,Bool.true_and]
      clear hob
      go_wp2_with fail
      have kw:=OC ⟨oa,ocap,os,ra,rcap,rs,wa,wcap,ws,da,dcap,ds⟩ da ds.length dcap ds w1 rfl (by unfold maxLen;omega) ⟨ho.below hbb (Qhq _),hr.below hbb (Qhq _),hw.below hbb (Qhq _),hd.below hbb (Qhq _)⟩ so (hd.below hbb (Qhq _))
      simp only[Hp.v]at kw
      refine kw.mono ?_
      rintro e w2 ⟨rfl,hb2⟩
      have hb3:=hbb.trans (hb2.mono hbb.size)
      clear kw
      go_wp2
      go_ret
      exact⟨Qx HF.out.symm,hb3⟩
theorem JS {h:Hp}(hok:okP h.p=true):h.os.length≤60∧h.rs.length≤8∧h.ws.length+h.ds.length≤20∧(∀i (hi:i<h.os.length),Qs h.os.length h.os[i].p=true)∧QZ h.os.length h.rs=true∧(∀p∈h.ws,Qp (h.os.map Ob.p) p=true)∧(∀p∈h.ds,Qp (h.os.map Ob.p) p=true):=by
 by_cases hx:60<h.os.length∨8<h.rs.length∨20<h.ws.length+h.ds.length
 ·rw[KL hx]at hok;simp at hok
 ·have h1:h.os.length≤60:=by omega
  have h2:h.rs.length≤8:=by omega
  have h3:h.ws.length+h.ds.length≤20:=by omega
  rw[Vt h1 h2 h3]at hok
  simp only[Bool.and_eq_true]at hok
  obtain⟨a,b,c,d⟩:=hok
  refine⟨h1,h2,h3,fun i hi=>?_,b,fun p hp=>?_,fun p hp=>?_⟩
  ·rw[Qhs]at a
   exact a _ (List.getElem_mem hi)
  ·rw[Qhs]at c;exact c p hp
  ·rw[Qhs]at d;exact d p hp
theorem Yf {n:Nat}{r:List Int}(h:QZ n r=true):∀z∈r,-1≤z∧z<n:=fun z hz=>by
 unfold QZ at h
 rw[Qhs]at h
 have:=h z hz
 simp[inB]at this
 omega
theorem UM {h:Hp}(hok:okP h.p=true)(hs:Zl h)(hcap:∀(i:Nat) (hi:i<h.os.length),h.os[i].r.length≤h.os[i].rcap):Tr h:=by
 obtain⟨h1,_,_,h4,_,_,h7⟩:=JS hok
 refine⟨h1,fun i hi hk=>?_,hcap,fun x z hz=>?_,fun x=>?_⟩
 ·have:=h4 i hi
  simp only[Qs,Ob.p,Bool.and_eq_true]at this
  have h5:=this.2
  simp[QS,hk]at h5
  omega
 ·by_cases hi:x.toNat<h.os.length
  ·have hr:QZ h.os.length h.os[x.toNat].r=true:=by
    have:=h4 _ hi
    simp only[Qs,Ob.p,Bool.and_eq_true]at this
    exact this.1
   rw[Ui rfl hi]at hz
   split at hz
   ·exact(Yf hr z (List.mem_of_mem_drop hz)).2
   ·split at hz
    ·obtain⟨p,hp,rfl⟩:=List.mem_map.1 hz
     have:=h7 p (List.mem_filter.1 hp).1
     simp only[Qp,inB,Bool.and_eq_true,decide_eq_true_eq,Qht]at this
     omega
    ·exact(Yf hr z hz).2
  ·have:nextP (h.os.map Ob.p) h.ds x=[]:=by
    unfold nextP
    rw[List.getElem?_eq_none (by simp;omega)]
   rw[this]at hz
   simp at hz
 ·by_cases hi:x.toNat<h.os.length
  ·rw[Ui rfl hi]
   have hr:=hs.oo _ hi
   have hd:=hs.d
   split
   ·rw[List.length_drop];omega
   ·split
    ·rw[Qht]
     exact Nat.le_trans (List.length_filter_le _ _) hd
    ·exact hr
  ·have:nextP (h.os.map Ob.p) h.ds x=[]:=by
    unfold nextP
    rw[List.getElem?_eq_none (by simp;omega)]
   rw[this];simp
theorem OE (h:Hp)(w:World)(hh:Qg w h)(hs:Zl h)(ht:Tr h)(hr:∀z∈h.rs,z<h.os.length):
 Calls Cut.prog 58 #[h.v] w fun e w'=>∃v',e=.returned v'∧Qa w' w.heap.size v' (traceF (h.os.map Ob.p) h.ds 61 0 (putAll [] h.rs))∧Qq h.os.length (traceF (h.os.map Ob.p) h.ds 61 0 (putAll [] h.rs))∧Below w.heap.size w w':=by
 have hn60:=ht.n60
 have hrl:=hs.r
 go_enter (Cut.func_of Tryz.func58 rfl),Tryz.ntmps58
 simp only[Hp.v]
 go_wp2
 have hB0:Below w.heap.size w (w.alloc (Obj.cells #[Qhp h.oa h.os.length h.ocap,Qhp h.ra h.rs.length h.rcap,Qhp h.wa h.ws.length h.wcap,Qhp h.da h.ds.length h.dcap] 27)):=(Below.refl _ _).alloc (Qhq _) _
 have hK0:=Blk.new w [Qhp h.oa h.os.length h.ocap,Qhp h.ra h.rs.length h.rcap,Qhp h.wa h.ws.length h.wcap,Qhp h.da h.ds.length h.dcap] 27
 have hO0:=World.ownsRow_lit (e:=3) (size:=1) (base:=w.heap.size) (w.alloc (Obj.cells #[Qhp h.oa h.os.length h.ocap,Qhp h.ra h.rs.length h.rcap,Qhp h.wa h.ws.length h.wcap,Qhp h.da h.ds.length h.dcap] 27)) #[] 0 (by simp) (Qhr _) rfl
 simp only[World.size_alloc]at hO0
 have hB1:=hB0.alloc hB0.size (Obj.cells #[] 3)
 go_loopw [3,4] (fun v i wr=>∃(j:Nat),i=.int .i64 j∧j≤h.rs.length∧Qa wr w.heap.size v (putAll [] (h.rs.take j))∧Qq h.os.length (putAll [] (h.rs.take j))∧Below w.heap.size w wr∧(∀k,v.ownBlock=some k→w.heap.size≤k)∧Blk wr w.heap.size [Qhp h.oa h.os.length h.ocap,Qhp h.ra h.rs.length h.rcap,Qhp h.wa h.ws.length h.wcap,Qhp h.da h.ds.length h.dcap] 27) (fun _ i _=>h.rs.length-(intOf i).toNat)
 case atStart=>exact⟨0,rfl,Qhr _,hO0,Qq.nil _,hB1,fun k e=>by simp[Value.ownBlock]at e;omega,hK0.alloc _⟩
 case round=>
  obtain⟨j,rfl,hjn,hown,hpl,hb,hob,hblk⟩:=hrel
  clear hB0 hK0 hO0 hB1
  obtain⟨x0,x1,x2,x3⟩:=QB hblk
  by_cases hj:j<h.rs.length
  ·obtain⟨va,vcap,rfl,-⟩:=hown.form
   have hpj:=hpl.len
   have HP:Hid (putAll [] (h.rs.take (j+1))=put (putAll [] (h.rs.take j)) h.rs[j]):=KU [] h.rs j hj
   have hz:=hr h.rs[j] (List.getElem_mem hj)
   obtain⟨b6,off6,e6,hb6,d1⟩:=hh.sr.get hj
   rw[e6]at x1
   clear e6
   have d2:=(hb.cell (p:=⟨b6,off6+j,none⟩) hb6).trans d1
   have c3:=Kx w.heap.size _ (putAll [] (h.rs.take j)) h.rs[j] wr hown hb.size (by omega)
   clear d1
   go_wp2_with fail
   refine c3.mono ?_
   rintro e w2 ⟨v',rfl,hown',hg',hat⟩
   have hb':=hb.trans (QL hg' hb.size hob)
   have hblk':=hblk.grown hg' (hown.ne hblk (by decide))
   have hob':∀k,v'.ownBlock=some k→w.heap.size≤k:=fun k e=>(hown'.lt k e).1
   have hpl':Hid (Qq h.os.length (putAll [] (h.rs.take (j+1)))):=by
    show Qq _ _
    rw[HP.out];exact hpl.put hz
   have hown2:Hid (Qa w2 w.heap.size v' (putAll [] (h.rs.take (j+1)))):=by
    show Qa _ _ _ _
    rw[HP.out];exact hown'
   clear c3 hown hpl hob hblk hat hg' hown' x0 x1 x2 x3 d2
   go_wp2
   go_roundw
   case rel=>exact⟨j+1,by go_num,by omega,hown2.out,hpl'.out,hb',hob',hblk'⟩
   case measure=>simp[intOf];omega
  ·have ej:h.rs.take j=h.rs:=List.take_of_length_le (by omega)
   rw[ej]at hown hpl
   have hjd:decide ((j:Int)<(h.rs.length:Int))=false:=by simp;omega
   have hin:=hh.below hb (Qhq _)
   have hav:Zg h u3.ownBlock:=by
    cases e:u3.ownBlock with
    |none=>exact Zg.none h
    |some k=>exact hh.av (hob k e)
   have c4:=OF h w.heap.size 61 u3 (putAll [] h.rs) wr hin hs ht hown hb.size hav hpl (by omega)
   simp only[Hp.v]at c4
   clear ej
   go_wp2_with fail
   refine c4.mono ?_
   rintro e w2 ⟨v',rfl,hown',hpl',hg',hat⟩
   have hb':=hb.trans (QL hg' hb.size hob)
   clear c4
   go_wp2
   go_ret
   exact⟨_,rfl,hown',hpl',hb'⟩
def Jg (r:Int):Bool:=(decide (97≤r)&&decide (r≤122))||(decide (48≤r)&&decide (r≤57))
theorem ON (r:Int)(w:World):Calls Cut.prog 118 #[.int .i32 r] w fun e w'=>e=.returned (.bool (Jg r))∧w'=w:=by
 rcases(show(97≤r∧r≤122)∨(48≤r∧r≤57)∨r<48∨(57<r∧r<97)∨122<r from by omega)with⟨h,h'⟩|⟨h,h'⟩|h|⟨h,h'⟩|h
 ·have E:Hid (Jg r=true):=by simp[Hid,Jg];omega
  go_enter (Cut.func_of Tryz.func118 rfl),Tryz.ntmps118
  go_wp2
  go_ret
  exact⟨Qx (by rw[E.out]),rfl⟩
 ·have E:Hid (Jg r=true):=by simp[Hid,Jg];omega
  go_enter (Cut.func_of Tryz.func118 rfl),Tryz.ntmps118
  go_wp2
  go_ret
  exact⟨Qx (by rw[E.out]),rfl⟩
 ·have E:Hid (Jg r=false):=by simp[Hid,Jg];omega
  go_enter (Cut.func_of Tryz.func118 rfl),Tryz.ntmps118
  go_wp2
  go_ret
  exact⟨Qx (by rw[E.out]),rfl⟩
 ·have E:Hid (Jg r=false):=by simp[Hid,Jg];omega
  have hd1:decide (r≤57)=false:=by simp;omega
  go_enter (Cut.func_of Tryz.func118 rfl),Tryz.ntmps118
  go_wp2
  go_ret
  exact⟨Qx (by rw[E.out]),rfl⟩
 ·have E:Hid (Jg r=false):=by simp[Hid,Jg];omega
  have hd1:decide (r≤57)=false:=by simp;omega
  have hd2:decide (r≤122)=false:=by simp;omega
  go_enter (Cut.func_of Tryz.func118 rfl),Tryz.ntmps118
  go_wp2
  go_ret
  exact⟨Qx (by rw[E.out]),rfl⟩
theorem QgI (t:ByteArray)(w:World)(ht:t.size≤maxLen):Calls Cut.prog 88 #[.string t] w fun e w'=>e=.returned (.bool (Zp t))∧Below w.heap.size w w':=by
 unfold maxLen at ht
 by_cases h0:t.size=0
 ·have E:Hid (Zp t=false):=by simp[Hid,Zp];omega
  have hd:(((t.size:Nat):Int)==0)=true:=by rw[Yr];simpa using h0
  go_enter (Cut.func_of Tryz.func88 rfl),Tryz.ntmps88
  go_wp2
  go_ret
  exact⟨Qx (by rw[E.out]),Below.refl _ _⟩
 have hd:(((t.size:Nat):Int)==0)=false:=by rw[Yr];simpa using h0
 by_cases h1:12<t.size
 ·have E:Hid (Zp t=false):=by simp[Hid,Zp];omega
  go_enter (Cut.func_of Tryz.func88 rfl),Tryz.ntmps88
  go_wp2
  go_ret
  exact⟨Qx (by rw[E.out]),Below.refl _ _⟩
 have hd1:decide ((12:Int)<(t.size:Int))=false:=by simp;omega
 go_enter (Cut.func_of Tryz.func88 rfl),Tryz.ntmps88
 go_wp2
 go_loopw [2] (fun v wr=>∃k:Nat,k≤t.size∧v=.bool false∧wr=w.iter t k∧∀j (hj:j<t.data.toList.length),j<k→Zi t.data.toList[j]=true) (fun _ wr=>t.size-wr.iterPos w.heap.size)
 case atStart=>exact⟨0,Qhr _,rfl,rfl,fun j _ h=>by omega⟩
 case round=>
  obtain⟨k,hk,rfl,rfl,hall⟩:=hrel
  by_cases hlt:k<t.size
  ·have hkl:k<t.data.toList.length:=by simpa using hlt
   have hbe:t.data.toList[k]=t[k]:=rfl
   have HB:Hid (Zi t[k]=true→∀j (hj:j<t.data.toList.length),j<k+1→Zi t.data.toList[j]=true):=fun h=>J0 hall hkl (by rw[hbe];exact h)
   have HN:Hid (Zi t[k]=false→Zp t=false):=fun h=>by
    have:=Jy (f:=Zi) hkl (by rw[hbe];exact h)
    simp only[Zp,this,Bool.and_false]
   clear hall hbe
   by_cases ha:t[k].toNat<128
   ·have hnx:∀ty,(Instr.next (.pointer (some ⟨w.heap.size,0,none⟩)) true ty).run Cut.prog (w.iter t k)=_:=fun ty=>run_next_ascii w t k ty hlt ha
    have HL:Hid (Jg (t[k].toNat:Int)=Zi t[k]):=by
     show _=_
     rw[Bool.eq_iff_iff];simp[Jg,Zi];omega
    go_wp2_with fail
    refine(ON _ _).mono ?_
    rintro e w1 ⟨rfl,rfl⟩
    rw[HL.out]
    cases hby:Zi t[k]with
    |true=>
     have HR:=HB.out hby
     clear hby HB HN
     go_wp2
     go_roundw
     case rel=>exact⟨k+1,by omega,rfl,rfl,HR⟩
     case measure=>simp;omega
    |false=>
     have HR:Hid (Zp t=false):=HN.out hby
     clear hby HB HN
     go_wp2
     go_ret
     exact⟨Qx (by rw[HR.out]),(Below.refl _ _).alloc (Qhq _) _⟩
   ·have hnx:∀ty,(Instr.next (.pointer (some ⟨w.heap.size,0,none⟩)) true ty).run Cut.prog (w.iter t k)=_:=fun ty=>run_next_any w t k ty hlt
    obtain⟨hr,_⟩:=decode_high t k hlt (by omega)
    have HR:Hid (Zp t=false):=HN.out (by simp[Zi];omega)
    have HL:Hid (Jg ((Utf8.decode t k).1:Int)=false):=by simp[Hid,Jg];omega
    clear HB HN
    go_wp2_with fail
    refine(ON _ _).mono ?_
    rintro e w1 ⟨rfl,rfl⟩
    rw[HL.out]
    go_wp2
    go_ret
    exact⟨Qx (by rw[HR.out]),(Below.refl _ _).alloc (Qhq _) _⟩
  ·have E:Hid (Zp t=true):=by
    have:=J7 (f:=Zi) (fun i hi=>hall i hi (by simp at hi;omega))
    simp only[Hid,Zp,this];simp;omega
   have hnx:∀ty,(Instr.next (.pointer (some ⟨w.heap.size,0,none⟩)) true ty).run Cut.prog (w.iter t k)=_:=fun ty=>run_next_end w t k ty hlt
   clear hall
   go_wp2
   go_ret
   exact⟨Qx (by rw[E.out]),(Below.refl _ _).alloc (Qhq _) _⟩
def plB (p n:Int):Bool:=decide (0≤p)&&decide (p<n)
theorem KQ (p n:Int)(w:World):Calls Cut.prog 90 #[.int .i64 p,.int .i64 n] w fun e w'=>e=.returned (.bool (plB p n))∧w'=w:=by
 by_cases h1:0≤p
 ·have E:Hid (plB p n=decide (p<n)):=by simp[Hid,plB,h1]
  go_enter (Cut.func_of Tryz.func90 rfl),Tryz.ntmps90
  go_wp2
  go_ret
  exact⟨Qx (by rw[E.out]),rfl⟩
 ·have E:Hid (plB p n=false):=by simp[Hid,plB,h1]
  have hd:decide (0≤p)=false:=by simpa using h1
  go_enter (Cut.func_of Tryz.func90 rfl),Tryz.ntmps90
  go_wp2
  go_ret
  exact⟨Qx (by rw[E.out]),rfl⟩
theorem Qd1 (n:Int):inB (-1) (-1) (n-1)=decide (0≤n):=by
 rw[Bool.eq_iff_iff];simp[inB];omega
theorem Qd2 {p:Int}(n:Int)(h:p≠-1):inB p (-1) (n-1)=plB p n:=by
 rw[Bool.eq_iff_iff];simp[inB,plB];omega
theorem Vv (a:Option Addr)(n cap:Nat)(r:List Int)(most:Int)(w:World)(hl:r.length=n)(hn:n≤maxLen)(h:Qk w a r)(m0:0≤most):
 Calls Cut.prog 46 #[.slice a n cap,.int .i64 most] w fun e w'=>e=.returned (.bool (QZ most r))∧w'=w:=by
 unfold maxLen at hn
 go_enter (Cut.func_of Tryz.func46 rfl),Tryz.ntmps46
 go_wp2
 go_loop [6,9] (fun _ i=>∃j:Nat,j≤n∧i=.int .i64 j∧∀x (hx:x<r.length),x<j→inB r[x] (-1) (most-1)=true) (fun _ i=>n-(intOf i).toNat)
 case atStart=>exact⟨0,Qhr _,rfl,fun j _ h=>by omega⟩
 case round=>
  obtain⟨j,hj,rfl,hall⟩:=hrel
  by_cases hlt:j<n
  ·have hjl:j<r.length:=by omega
   obtain⟨b,off,rfl,hbw,c1⟩:=h.get hjl
   have HA:Hid (∀x (hx:x<r.length),x<j→inB r[x] (-1) (most-1)=true):=hall
   clear hall
   by_cases hm:r[j]= -1
   ·have HR:Hid (∀x (hx:x<r.length),x<j+1→inB r[x] (-1) (most-1)=true):=J0 (f:=fun z=>inB z (-1) (most-1)) HA.out hjl (by rw[hm,Qd1];simpa using m0)
    have hd:(r[j]!= -1)=false:=by simpa using hm
    clear hm
    go_wp2
    go_round
    case rel=>exact⟨j+1,by omega,by go_num,HR.out⟩
    case measure=>simp[intOf];omega
   ·have HP:Hid (inB r[j] (-1) (most-1)=plB r[j] most):=Qd2 most hm
    have hd:(r[j]!= -1)=true:=by simpa using hm
    clear hm
    go_wp2_with fail
    refine(KQ _ _ _).mono ?_
    rintro e w1 ⟨rfl,rfl⟩
    cases hin:plB r[j] most with
    |false=>
     have HF:Hid (QZ most r=false):=Jy (f:=fun z=>inB z (-1) (most-1)) hjl (by rw[HP.out,hin])
     clear hin
     go_wp2
     go_ret
     exact⟨Qx (by rw[HF.out]),rfl⟩
    |true=>
     have HR:Hid (∀x (hx:x<r.length),x<j+1→inB r[x] (-1) (most-1)=true):=J0 (f:=fun z=>inB z (-1) (most-1)) HA.out hjl (by rw[HP.out,hin])
     clear hin
     go_wp2
     go_round
     case rel=>exact⟨j+1,by omega,by go_num,HR.out⟩
     case measure=>simp[intOf];omega
  ·have HF:Hid (QZ most r=true):=J7 (f:=fun z=>inB z (-1) (most-1)) (fun i hi=>hall i hi (by omega))
   clear hall
   go_wp2
   go_ret
   exact⟨Qx (by rw[HF.out]),rfl⟩
def Q3 (k:Int)(t:ByteArray)(a:Option Addr)(n cap:Nat)(r:List Int):Value:=
 if k=1∧n=0 then .iface 106 (.agg #[.string t])
 else if t.size≠0 then .nilIface
 else if k=2 then .iface 108 (.agg #[.slice a n cap])
 else if k=3∧n=2 then .iface 110 (.agg #[.int .i64 (r.getD 0 0),.int .i64 (r.getD 1 0)])
 else if k=4∧n=0 then .iface 112 (.agg #[])
 else .nilIface
theorem Yg {a b:Value}(h:a=b):Ending.returned a=.returned b:=by rw[h]
theorem QaO (k:Int)(t:ByteArray)(a:Option Addr)(n cap:Nat)(r:List Int)(w:World)(hl:r.length=n)(h:Qk w a r):
 Calls Cut.prog 45 #[.agg #[.int .i64 k,.string t,.slice a n cap]] w fun e w'=>e=.returned (Q3 k t a n cap r)∧Below w.heap.size w w':=by
 by_cases h1:k=1
 ·subst h1
  by_cases h0:n=0
  ·subst h0
   have E:Hid (Q3 1 t a 0 cap r=.iface 106 (.agg #[.string t])):=by simp[Hid,Q3]
   go_enter (Cut.func_of Tryz.func45 rfl),Tryz.ntmps45
   go_wp2
   go_ret
   exact⟨Yg (by rw[E.out];rfl),(Below.refl _ _).alloc (Qhq _) _⟩
  ·have hd:((n:Int)==0)=false:=by rw[Yr];simpa using h0
   have E:Hid (Q3 1 t a n cap r=.nilIface):=by simp[Hid,Q3,h0]
   go_enter (Cut.func_of Tryz.func45 rfl),Tryz.ntmps45
   go_wp2
   all_goals go_ret
   all_goals exact⟨Yg (by rw[E.out];rfl),(Below.refl _ _).alloc (Qhq _) _⟩
 have g1:(k ==1)=false:=by simpa using h1
 by_cases ht:t.size=0
 ·have ht':=VE ht
  by_cases h2:k=2
  ·subst h2
   have E:Hid (Q3 2 t a n cap r=.iface 108 (.agg #[.slice a n cap])):=by simp[Hid,Q3,ht]
   clear ht
   go_enter (Cut.func_of Tryz.func45 rfl),Tryz.ntmps45
   go_wp2
   go_ret
   exact⟨Yg (by rw[E.out];rfl),(Below.refl _ _).alloc (Qhq _) _⟩
  have g2:(k ==2)=false:=by simpa using h2
  by_cases h3:k=3
  ·subst h3
   by_cases h0:n=2
   ·subst h0
    have q0:0<r.length:=by omega
    have q1:1<r.length:=by omega
    obtain⟨b,off,rfl,hbw,hc⟩:=h q0
    have c0:w.cell? ⟨b,off,none⟩=some (.int .i64 r[0]):=(hc 0 q0).trans (by simp[List.getD,q0])
    have c1:w.cell? ⟨b,off+1,none⟩=some (.int .i64 r[1]):=(hc 1 q1).trans (by simp[List.getD,q1])
    have E:Hid (Q3 3 t (some ⟨b,off,none⟩) 2 cap r=.iface 110 (.agg #[.int .i64 r[0],.int .i64 r[1]])):=by simp[Hid,Q3,ht,q0,q1]
    clear ht hc h
    go_enter (Cut.func_of Tryz.func45 rfl),Tryz.ntmps45
    go_wp2_with fail
    go_quiet (fail)
    go_wp2
    go_ret
    exact⟨Yg (by rw[E.out];rfl),ZV ((Below.refl _ _).alloc (Qhq _) _) _⟩
   ·have hd:((n:Int)==2)=false:=by rw[Pw];simpa using h0
    have E:Hid (Q3 3 t a n cap r=.nilIface):=by simp[Hid,Q3,h0,ht]
    clear ht
    go_enter (Cut.func_of Tryz.func45 rfl),Tryz.ntmps45
    go_wp2
    go_ret
    exact⟨Yg (by rw[E.out];rfl),(Below.refl _ _).alloc (Qhq _) _⟩
  have g3:(k ==3)=false:=by simpa using h3
  by_cases h4:k=4
  ·subst h4
   by_cases h0:n=0
   ·subst h0
    have E:Hid (Q3 4 t a 0 cap r=.iface 112 (.agg #[])):=by simp[Hid,Q3,ht]
    clear ht
    go_enter (Cut.func_of Tryz.func45 rfl),Tryz.ntmps45
    go_wp2
    go_ret
    exact⟨Yg (by rw[E.out];rfl),(Below.refl _ _).alloc (Qhq _) _⟩
   ·have hd:((n:Int)==0)=false:=by rw[Yr];simpa using h0
    have E:Hid (Q3 4 t a n cap r=.nilIface):=by simp[Hid,Q3,h0,ht]
    clear ht
    go_enter (Cut.func_of Tryz.func45 rfl),Tryz.ntmps45
    go_wp2
    go_ret
    exact⟨Yg (by rw[E.out];rfl),(Below.refl _ _).alloc (Qhq _) _⟩
  have g4:(k ==4)=false:=by simpa using h4
  have E:Hid (Q3 k t a n cap r=.nilIface):=by simp[Hid,Q3,h1,h2,h3,h4]
  clear ht h1 h2 h3 h4
  go_enter (Cut.func_of Tryz.func45 rfl),Tryz.ntmps45
  go_wp2
  go_ret
  exact⟨Yg (by rw[E.out];rfl),(Below.refl _ _).alloc (Qhq _) _⟩
 ·have ht':¬t.toList=[]:=fun e=>ht (Vr e)
  have ht2:t.toList.isEmpty=false:=by simpa using ht'
  have E:Hid (Q3 k t a n cap r=.nilIface):=by simp[Hid,Q3,h1,ht]
  clear ht h1
  go_enter (Cut.func_of Tryz.func45 rfl),Tryz.ntmps45
  go_wp2
  go_ret
  exact⟨Yg (by rw[E.out];rfl),(Below.refl _ _).alloc (Qhq _) _⟩
end
end Go.Proofs.YtcpnkpogebjieaaGreat
