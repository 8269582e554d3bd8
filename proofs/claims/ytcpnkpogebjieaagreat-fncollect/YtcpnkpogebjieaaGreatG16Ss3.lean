/- The program's own MemOk: what is watched; the whole. -/
import Derived.Test.YtcpnkpogebjieaaGreatG15Vm
import Derived.Test.YtcpnkpogebjieaaGreatG14ImplOk2
import Derived.Maps.OwnIn
import Derived.Deep.QuietTactic
import Derived.BigQuiet
import Derived.Deep.RegionWith
import Derived.Test.YtcpnkpogebjieaaGreatG13Eq
import Derived.Deep.RegionHeld3
import Derived.Deep.AppendLies
open Go.Value renaming slice→Qhp,int→Qhs,ownBlock→Qht
open Nat renaming le_refl→Qhq
open Go.Obj renaming cells→Qhr
open List renaming getElem?_cons_zero→Qhu,length_cons→Qhv,mem_cons→Qhw,getElem?_cons_succ→Qhx
set_option maxHeartbeats 4000000
set_option maxRecDepth 100000
namespace Go.Proofs.YtcpnkpogebjieaaGreat
section
open Go.RowKit
theorem KP (p:Int)(n:Int):plB p n=inB p 0 (n-1):=by
 rw[Bool.eq_iff_iff];simp[inB,plB];omega
theorem Qbb (oa:Option Addr)(ocap:Nat)(os:List Ob)(a:Option Addr)(n cap:Nat)(ws:List (Int×Int))(w:World)(hl:ws.length=n)(hn:n≤maxLen)(ho:ZQ w oa os)(_hs:os.length≤1048576)(hw:QE w a ws):
 Calls Cut.prog 47 #[.slice a n cap,.slice oa os.length ocap] w fun e w'=>e=.returned (.bool (ws.all (Qp (os.map Ob.p))))∧Below w.heap.size w w':=by
 have hn1:=hn
 unfold maxLen at hn1
 go_enter (Cut.func_of Tryz.func47 rfl),Tryz.ntmps47
 go_wp2
 go_loopw [6,9] (fun _ i wr=>∃k:Nat,k≤n∧i=.int .i64 k∧Below w.heap.size w wr∧∀j (hj:j<ws.length),j<k→Qp (os.map Ob.p) ws[j]=true) (fun _ i _=>n-(intOf i).toNat)
 case atStart=>exact⟨0,Nat.zero_le _,rfl,Below.refl _ _,fun j _ h=>by omega⟩
 case round=>
  obtain⟨k,hk,rfl,hb,hall⟩:=hrel
  by_cases hlt:k<n
  ·have hkl:k<ws.length:=by omega
   obtain⟨b,off,rfl,hbw,c1,c2⟩:=hw.get hkl
   have d1:=(hb.cell (p:=⟨b,off+k*2,none⟩) hbw).trans c1
   have d2:=(hb.cell (p:=⟨b,off+k*2+1,none⟩) hbw).trans c2
   have hbA:=hb.alloc hb.size (Qhr #[Qhs .i64 ws[k].1,Qhs .i64 ws[k].2] 40)
   have HA:Hid (∀j (hj:j<ws.length),j<k→Qp (os.map Ob.p) ws[j]=true):=hall
   clear hall c1 c2
   go_wp2_with fail
   refine(KQ _ _ _).mono ?_
   rintro e w1 ⟨rfl,rfl⟩
   cases h1:plB ws[k].1 (os.length:Int)with
   |false=>
    have HF:Hid (ws.all (Qp (os.map Ob.p))=false):=Jy hkl (by rw[KP]at h1;simp[Qp,h1])
    clear h1
    go_wp2
    go_ret
    exact⟨Qx HF.out.symm,hbA⟩
   |true=>
    have hx:0≤ws[k].1∧ws[k].1<(os.length:Int):=by simpa[plB]using h1
    obtain⟨hx0,hx1⟩:=hx
    have H1:Hid (plB ws[k].1 (os.length:Int)=true):=h1
    clear h1
    go_wp2_with fail
    refine(KQ _ _ _).mono ?_
    rintro e w1 ⟨rfl,rfl⟩
    cases h2:plB ws[k].2 (os.length:Int)with
    |false=>
     have HF:Hid (ws.all (Qp (os.map Ob.p))=false):=Jy hkl (by rw[KP]at h2;simp[Qp,h2])
     clear h2
     go_wp2
     go_ret
     exact⟨Qx HF.out.symm,hbA⟩
    |true=>
     have hgl:ws[k].1.toNat<os.length:=by omega
     obtain⟨b2,off2,rfl,hbw2,e1,_,_⟩:=ho.get hgl
     have f1:=(hbA.cell (p:=⟨b2,off2+ws[k].1.toNat*3,none⟩) hbw2).trans e1
     have HW:Hid (Qp (os.map Ob.p) ws[k]=decide (os[ws[k].1.toNat].k=4)):=by
      show _=_
      have h1:=H1.out
      rw[KP]at h1 h2
      simp[Qp,h1,h2,hgl,Ob.p]
     clear h2 e1
     by_cases h4:os[ws[k].1.toNat].k=4
     ·have hb4:(os[ws[k].1.toNat].k !=4)=false:=by simp[h4]
      have HR:Hid (∀j (hj:j<ws.length),j<k+1→Qp (os.map Ob.p) ws[j]=true):=J0 HA.out hkl (by rw[HW.out];simp[h4])
      clear h4
      go_wp2
      go_roundw
      case rel=>exact⟨k+1,by omega,by go_num,hbA,HR.out⟩
      case measure=>simp[intOf];omega
     ·have hb4:(os[ws[k].1.toNat].k !=4)=true:=by simp[h4]
      have HF:Hid (ws.all (Qp (os.map Ob.p))=false):=Jy hkl (by rw[HW.out];simp[h4])
      clear h4
      go_wp2
      go_ret
      exact⟨Qx HF.out.symm,hbA⟩
  ·have HF:Hid (ws.all (Qp (os.map Ob.p))=true):=J7 (fun i hi=>hall i hi (by omega))
   clear hall
   go_wp2
   go_ret
   exact⟨Qx HF.out.symm,hb⟩
theorem Ov (h:Hp)(w:World)(hh:Qg w h)(hs:Zl h)(ht:∀i (hi:i<h.os.length),h.os[i].t.size≤maxLen):
 Calls Cut.prog 13 #[h.v] w fun e w'=>e=.returned (.bool (okP h.p))∧Below w.heap.size w w':=by
 have hbig:=@KL h
 have hsmall:=@Vt h
 generalize okP h.p=OK at hbig hsmall⊢
 obtain⟨oa,ocap,os,ra,rcap,rs,wa,wcap,ws,da,dcap,ds⟩:=h
 obtain⟨ho,hr,hw,hd⟩:=hh
 obtain⟨so,soo,sr,sw,sd⟩:=hs
 simp only[Hp.v]at *
 have Hbig:Hid (60<os.length∨8<rs.length∨20<ws.length+ds.length→OK=false):=hbig
 clear hbig
 by_cases g1:60<os.length
 ·have HO:Hid (OK=false):=Hbig.out (Or.inl g1)
  clear Hbig hsmall
  go_enter (Cut.func_of Tryz.func13 rfl),Tryz.ntmps13
  go_wp2
  go_ret
  exact⟨Qx HO.out.symm,(Below.refl _ _).alloc (Qhq _) _⟩
 by_cases g2:8<rs.length
 ·have HO:Hid (OK=false):=Hbig.out (Or.inr (Or.inl g2))
  clear Hbig hsmall
  go_enter (Cut.func_of Tryz.func13 rfl),Tryz.ntmps13
  go_wp2
  go_ret
  exact⟨Qx HO.out.symm,(Below.refl _ _).alloc (Qhq _) _⟩
 by_cases g3:20<ws.length+ds.length
 ·have HO:Hid (OK=false):=Hbig.out (Or.inr (Or.inr g3))
  have g3':(20:Int)<(ws.length:Int)+(ds.length:Int):=by omega
  clear Hbig hsmall
  go_enter (Cut.func_of Tryz.func13 rfl),Tryz.ntmps13
  go_wp2
  go_ret
  exact⟨Qx HO.out.symm,(Below.refl _ _).alloc (Qhq _) _⟩
 have HO:Hid (OK=(os.all (fun o=>Qs os.length o.p)&&(QZ os.length rs&&(ws.all (Qp (os.map Ob.p))&&ds.all (Qp (os.map Ob.p)))))):=hsmall (by omega) (by omega) (by omega)
 clear hsmall Hbig
 have k1:decide ((60:Int)<(os.length:Int))=false:=by simp;omega
 have k2:decide ((8:Int)<(rs.length:Int))=false:=by simp;omega
 have k3:decide ((20:Int)<(ws.length:Int)+(ds.length:Int))=false:=by simp;omega
 go_enter (Cut.func_of Tryz.func13 rfl),Tryz.ntmps13
 go_wp2
 have hB0:Below w.heap.size w (w.alloc (Qhr #[Qhp oa os.length ocap,Qhp ra rs.length rcap,Qhp wa ws.length wcap,Qhp da ds.length dcap] 27)):=(Below.refl _ _).alloc (Qhq _) _
 have hK0:Blk (w.alloc (Qhr #[Qhp oa os.length ocap,Qhp ra rs.length rcap,Qhp wa ws.length wcap,Qhp da ds.length dcap] 27)) w.heap.size [Qhp oa os.length ocap,Qhp ra rs.length rcap,Qhp wa ws.length wcap,Qhp da ds.length dcap] 27:=Blk.new w _ _
 go_loopw [4,28] (fun _ i wr=>∃k:Nat,k≤os.length∧i=.int .i64 k∧Below w.heap.size w wr∧Blk wr w.heap.size [Qhp oa os.length ocap,Qhp ra rs.length rcap,Qhp wa ws.length wcap,Qhp da ds.length dcap] 27∧∀j (hj:j<os.length),j<k→Qs os.length os[j].p=true) (fun _ i _=>os.length-(intOf i).toNat)
 case atStart=>exact⟨0,Nat.zero_le _,rfl,hB0,hK0,fun j _ h=>by omega⟩
 case round=>
  obtain⟨k,hk,rfl,hb,hblk,hall⟩:=hrel
  clear hB0 hK0
  have c0:=hblk.cell 0
  have c1:=hblk.cell 1
  have c2:=hblk.cell 2
  have c3:=hblk.cell 3
  simp only[Qhu,Qhx]at c0 c1 c2 c3
  have hsz:=hblk.lt
  by_cases hlt:k<os.length
  ·have HA:Hid (∀j (hj:j<os.length),j<k→Qs os.length os[j].p=true):=hall
   clear hall
   have hrl:os[k].r.length≤maxLen:=by have:=soo k hlt;unfold maxLen;omega
   have htl:=ht k hlt
   have s0:=(ho.2 k hlt).below hb (Qhq _)
   obtain⟨b,off,rfl,hbw,e1,e2,e3⟩:=ho.get hlt
   have d1:=(hb.cell (p:=⟨b,off+k*3,none⟩) hbw).trans e1
   have d2:=(hb.cell (p:=⟨b,off+k*3+1,none⟩) hbw).trans e2
   have d3:=(hb.cell (p:=⟨b,off+k*3+2,none⟩) hbw).trans e3
   have hi1:(k:Int)<(os.length:Int):=by omega
   clear e1 e2 e3
   have bX:Below wr.heap.size wr (wr.alloc (Qhr #[Qhs .i64 os[k].k,Value.string os[k].t,Qhp os[k].ra os[k].r.length os[k].rcap] 37)).drew:=((Below.refl wr.heap.size wr).alloc (Qhq _) _).drew
   have sX:=s0.below bX (Qhq _)
   have cX:=(bX.cell (p:=⟨w.heap.size,0,none⟩) hsz).trans c0
   have zX:w.heap.size<(wr.alloc (Qhr #[Qhs .i64 os[k].k,Value.string os[k].t,Qhp os[k].ra os[k].r.length os[k].rcap] 37)).drew.heap.size:=Nat.lt_of_lt_of_le hsz bX.size
   have hbX:=hb.trans (bX.mono hb.size)
   have kX:=hblk.below bX hsz
   clear s0 bX
   go_wp2_with fail
   go_region_with (first
    |(go_at_call 45;refine(QaO _ _ _ _ _ os[k].r _ rfl sX).mono ?_;rintro e w1 ⟨rfl,hbx⟩;have s1:=sX.below hbx (Qhq _);have cx1:=(hbx.cell (p:=⟨w.heap.size,0,none⟩) zX).trans cX)
    |(go_at_call 44;refine(QgM _ _ _ _ _ os[k].r _ _ rfl hrl htl s1 (by omega)).mono ?_;rintro e w2 ⟨rfl,hby⟩))
   all_goals
    have h1:=hbX.trans (hbx.mono hbX.size)
    have hbb:=h1.trans (hby.mono h1.size)
    have q1:=kX.below hbx zX
    have hblk1:=q1.below hby q1.lt
    clear hbx hby d1 d2 d3 sX s1 cx1 cX c0 c1 c2 c3 q1 h1 kX hbX hblk hb
    cases hob:Qs os.length (os[k].k,os[k].t,os[k].r)with
    |false=>
     have HF:Hid (OK=false):=by
      show OK=false
      rw[HO.out,Jy (f:=fun o=>Qs os.length o.p) hlt hob];rfl
     clear hob
     go_wp2
     go_ret
     exact⟨Qx HF.out.symm,hbb⟩
    |true=>
     have HR:Hid (∀j (hj:j<os.length),j<k+1→Qs os.length os[j].p=true):=J0 (f:=fun(o:Ob)=>Qs os.length o.p) HA.out hlt hob
     clear hob
     go_wp2
     go_roundw
     case rel=>exact⟨k+1,by omega,by go_num,hbb,hblk1,HR.out⟩
     case measure=>simp[intOf];omega
  ·have HO1:Hid (OK=(QZ os.length rs&&(ws.all (Qp (os.map Ob.p))&&ds.all (Qp (os.map Ob.p))))):=by
    show OK=_
    rw[HO.out,J7 (f:=fun o=>Qs os.length o.p) (fun i hi=>hall i hi (by omega)),Bool.true_and]
   have hnk:decide ((k:Int)<(os.length:Int))=false:=by simp;omega
   clear hall HO
   go_wp2_with fail
   refine(Vv ra rs.length rcap rs os.length wr rfl (by unfold maxLen;omega) (hr.below hb (Qhq _)) (by omega)).mono ?_
   rintro e w1 ⟨rfl,rfl⟩
   cases hob:QZ os.length rs with
   |false=>
    have HF:Hid (OK=false):=by
     show OK=false
     rw[HO1.out,hob];rfl
    clear hob
    go_wp2
    go_ret
    exact⟨Qx HF.out.symm,hb⟩
   |true=>
    have HO2:Hid (OK=(ws.all (Qp (os.map Ob.p))&&ds.all (Qp (os.map Ob.p)))):=by
     show OK=_
     rw[HO1.out,hob,Bool.true_and]
    clear hob HO1
    go_wp2_with fail
    refine(Qbb oa ocap os wa ws.length wcap ws _ rfl (by unfold maxLen;omega) (ho.below hb (Qhq _)) so (hw.below hb (Qhq _))).mono ?_
    rintro e w1 ⟨rfl,hb1⟩
    have hbb:=hb.trans (hb1.mono hb.size)
    have hblk1:=hblk.below hb1 hsz
    clear c0 c1 c2 c3
    have c0:=hblk1.cell 0
    have c3:=hblk1.cell 3
    simp only[Qhu,Qhx]at c0 c3
    cases hob:ws.all (Qp (os.map Ob.p))with
    |false=>
     have HF:Hid (OK=false):=by
      show OK=false
      rw[HO2.out,hob];rfl
     clear hob
     go_wp2
     go_ret
     exact⟨Qx HF.out.symm,hbb⟩
    |true=>
     have HF:Hid (OK=ds.all (Qp (os.map Ob.p))):=by
      show OK=_
      rw[HO2.out,hob,Bool.true_and]
     clear hob
     go_wp2_with fail
     refine(Qbb oa ocap os da ds.length dcap ds _ rfl (by unfold maxLen;omega) (ho.below hbb (Qhq _)) so (hd.below hbb (Qhq _))).mono ?_
     rintro e w2 ⟨rfl,hb2⟩
     have hb3:=hbb.trans (hb2.mono hbb.size)
     go_wp2
     go_ret
     exact⟨Qx HF.out.symm,hb3⟩
end
section
open Go.RowKit Go.Shelf
attribute [local go_sem] Oper.semAt_some
theorem PK (h:Hp)(w:World):
 Calls Cut.prog 48 #[h.v] w fun e w'=>e=.returned (.func (.func 91) #[] #[.pointer (some ⟨w.heap.size,0,none⟩)])∧w'=w.alloc (Qhr #[Qhp h.oa h.os.length h.ocap,Qhp h.ra h.rs.length h.rcap,Qhp h.wa h.ws.length h.wcap,Qhp h.da h.ds.length h.dcap] 27):=by
 simp only[Hp.v]
 have hmf:∀(fn:Fn) (first cap:Array Value) (w:World),(Instr.makeFunc fn first cap).run Cut.prog w=.ok (.func fn first cap) w:=fun _ _ _ _=>rfl
 go_enter (Cut.func_of Tryz.func48 rfl),Tryz.ntmps48
 go_wp2
 go_ret
 exact⟨rfl,rfl⟩
theorem Qfn {W:World}{base:Nat}{v:Value}{zs:List Int}(h:Qa W base v zs){j:Nat}{o:Obj}(e:v.ownBlock=some j)(hj:W.heap[j]? =some o):o.isCells=true:=by
 rcases h.2 with⟨h3,_⟩|⟨g,cap,cur,h3,_,hh,_⟩
 ·rw[h3]at e;simp[Qht]at e
 ·rw[h3]at e
  simp[Qht]at e
  subst e
  rw[hh]at hj
  cases hj
  rfl
theorem QaY {h:Hp}(ht:Tr h)(f i:Nat){l:List Int}(hl:Qq h.os.length l):Qq h.os.length (traceF (h.os.map Ob.p) h.ds f i l):=by
 induction f generalizing i l with
 |zero=>exact hl
 |succ f ih=>
  unfold traceF
  split
  ·exact ih _ (hl.putAll (ht.nx _))
  ·exact hl
def Zk (w:World)(B:Nat)(M:Nat→Prop)(pre:List Int)(W:World):Prop:=
 (∃v,Blk W B [v] 24∧Qa W w.heap.size v pre∧(∀k,v.ownBlock=some k→¬M k))∧¬M B∧(∀k,M k→w.heap.size≤k∧k<W.heap.size)∧Below w.heap.size w W
theorem Zk.chg {w:World}{B:Nat}(M:Nat→Prop)(pre:List Int)(A C:World)(h:Zk w B M pre A)(hc:Chg M A C):Zk w B (Z3 M A C) pre C:=by
 obtain⟨⟨v,hv,ho,hm⟩,hB,hM,hb⟩:=h
 refine⟨⟨v,hv.same (hc.block B hv.lt hB),ho.same (fun k e=>hc.block k (ho.lt k e).2 (hm k e)),fun k e hk=>?_⟩,fun hk=>?_,fun k hk=>?_,?_⟩
 ·rcases hk with hk|hk
  ·exact hm k e hk
  ·have:=(ho.lt k e).2;omega
 ·rcases hk with hk|hk
  ·exact hB hk
  ·have:=hv.lt;omega
 ·rcases hk with hk|hk
  ·exact⟨(hM k hk).1,Nat.lt_of_lt_of_le (hM k hk).2 hc.size⟩
  ·have:=hb.size;omega
 ·exact hb.trans ⟨hc.os,hc.tape,hc.output,hc.size,fun k hk=>hc.block k (by have:=hb.size;omega) (fun h=>by have:=(hM k h).1;omega)⟩
theorem Qe9 {o:Obj}{cs:List Value}{t:TypeId}(e:some o=some (Qhr cs.toArray t (0,0)))(h:o.isCells=false):False:=by
 cases e
 simp[Obj.isCells]at h
theorem Zk.put {w:World}{B s:Nat}(hs:w.heap.size≤s)(M:Nat→Prop)(pre:List Int)(A:World)(k:Nat)(o o':Obj)(h:Zk w B M pre A)(hk:s≤k)(hl:A.heap[k]? =some o)(hn:o.isCells=false):Zk w B M pre (A.putObj k o'):=by
 obtain⟨⟨v,hv,ho,hm⟩,hB,hM,hb⟩:=h
 have hg:=grownBy_putObj' A k o'
 have h1:B≠k:=fun e=>by
  subst e
  unfold Blk at hv
  rw[hl]at hv
  exact Qe9 hv hn
 have h2:∀x,v.ownBlock=some x→x≠k:=fun x e e2=>by
  subst e2
  rcases ho.2 with⟨h3,_⟩|⟨g,cap,cur,h3,_,hh,_⟩
  ·rw[h3]at e;simp[Qht]at e
  ·rw[h3]at e
   simp[Qht]at e
   subst e
   rw[hl]at hh
   cases hh
   simp[Obj.isCells]at hn
 refine⟨⟨v,hv.same (World.putObj_heap_other h1),ho.same (fun x e=>World.putObj_heap_other (h2 x e)),hm⟩,hB,fun x hx=>by simpa using hM x hx,?_⟩
 exact hb.trans (QL hg hb.size (fun x e=>by cases e;omega))
theorem Zk.al {w:World}{B:Nat}(M:Nat→Prop)(pre:List Int)(A:World)(o:Obj)(h:Zk w B M pre A):Zk w B M pre (A.alloc o):=by
 obtain⟨⟨v,hv,ho,hm⟩,hB,hM,hb⟩:=h
 exact⟨⟨v,hv.alloc o,ho.below ((Below.refl A.heap.size A).alloc (Qhq _) o) (Qhq _),hm⟩,hB,fun x hx=>⟨(hM x hx).1,by have:=(hM x hx).2;simp;omega⟩,hb.alloc hb.size o⟩
theorem QdZ (h:Hp)(w:World)(hh:Qg w h)(hs:Zl h)(ht:∀i (hi:i<h.os.length),h.os[i].t.size≤maxLen)(hcap:∀(i:Nat) (hi:i<h.os.length),h.os[i].r.length≤h.os[i].rcap):
 Calls Cut.prog 14 #[h.v] w fun e w'=>∃v',e=.returned v'∧Qa w' w.heap.size v' (reachP h.p)∧Below w.heap.size w w':=by
 have hB0:Below w.heap.size w (w.alloc (Qhr #[Qhp h.oa h.os.length h.ocap,Qhp h.ra h.rs.length h.rcap,Qhp h.wa h.ws.length h.wcap,Qhp h.da h.ds.length h.dcap] 27)):=(Below.refl _ _).alloc (Qhq _) _
 have hK0:=Blk.new w [Qhp h.oa h.os.length h.ocap,Qhp h.ra h.rs.length h.rcap,Qhp h.wa h.ws.length h.wcap,Qhp h.da h.ds.length h.dcap] 27
 have c1:=Ov h _ (hh.below hB0 (Qhq _)) hs ht
 simp only[Hp.v]at c1
 cases hok:okP h.p with
 |false=>
  rw[hok]at c1
  have E:Hid (reachP h.p=[]):=by simp[Hid,reachP,hok]
  clear hok
  go_enter (Cut.func_of Tryz.func14 rfl),Tryz.ntmps14
  simp only[Hp.v]
  go_wp2_with fail
  refine c1.mono ?_
  rintro e w1 ⟨rfl,hb1⟩
  have hB1:=hB0.trans (hb1.mono hB0.size)
  go_wp2
  go_ret
  refine⟨_,rfl,?_,hB1⟩
  rw[E.out]
  exact World.ownsRow_nil _ _ _ _
 |true=>
  rw[hok]at c1
  have E:Hid (reachP h.p=traceF (h.os.map Ob.p) h.ds 61 0 (putAll [] h.rs)):=by
   show _=_
   simp only[reachP,hok,if_true];rfl
  have HOK:Hid (okP h.p=true):=hok
  clear hok
  refine(callsIn_wide (n:=10)).1 ?_
  have hro:Fence.wide.round=none:=rfl
  have h1:(1:Nat)≤10:=by omega
  obtain⟨i0,hi,hz0,hz1,hz2⟩:=info_parts Ja
  refine callsIn_of_wp_marks (Cut.func_of Tryz.func14 rfl) rfl trivial ?_ hro
  simp only[Hp.v,Tryz.ntmps14,List.size_toArray,Qhv,List.length_nil,Nat.reduceAdd,Nat.reduceSub,Array.replicate_succ,Array.replicate_zero,List.push_toArray,List.append_toArray,List.nil_append,List.cons_append]
  gi_wp2_with fail
  refine⟨trivial,?_⟩
  refine(callsIn_wide.2 c1).mono ?_
  rintro e w1 ⟨rfl,hb1⟩
  have hB1:=hB0.trans (hb1.mono hB0.size)
  have hK1:=hK0.below hb1 hK0.lt
  clear c1 hb1 hB0 hK0
  obtain⟨x0,x1,x2,x3⟩:=QB hK1
  have hlt1:=hK1.lt
  have c2:=PK h (w1.alloc (Qhr #[Qhp none 0 0] 24))
  simp only[Hp.v]at c2
  gi_wp2_with fail
  refine⟨trivial,?_⟩
  refine(callsIn_wide.2 c2).mono ?_
  rintro e w2 ⟨rfl,hw2⟩
  have hA1:Below w1.heap.size w1 (w1.alloc (Qhr #[Qhp none 0 0] 24)):=(Below.refl _ _).alloc (Qhq _) _
  have hA2:Below (w1.alloc (Qhr #[Qhp none 0 0] 24)).heap.size (w1.alloc (Qhr #[Qhp none 0 0] 24)) w2:=by rw[hw2];exact(Below.refl _ _).alloc (Qhq _) _
  have hBO:=(Blk.new w1 [Qhp none 0 0] 24).below hA2 (Blk.new w1 [Qhp none 0 0] 24).lt
  have hBH:Blk w2 (w1.heap.size+1) [Qhp h.oa h.os.length h.ocap,Qhp h.ra h.rs.length h.rcap,Qhp h.wa h.ws.length h.wcap,Qhp h.da h.ds.length h.dcap] 27:=by
   have:=Blk.new (w1.alloc (Qhr #[Qhp none 0 0] 24)) [Qhp h.oa h.os.length h.ocap,Qhp h.ra h.rs.length h.rcap,Qhp h.wa h.ws.length h.wcap,Qhp h.da h.ds.length h.dcap] 27
   rw[hw2]
   simpa using this
  have hsz2:w2.heap.size=w1.heap.size+1+1:=by rw[hw2];simp
  have HSZ:Hid (w2.heap.size=w1.heap.size+1+1):=hsz2
  have hB2:Below w.heap.size w w2:=(hB1.trans (hA1.mono hB1.size)).trans (hA2.mono (Nat.le_trans hB1.size hA1.size))
  have hw1s:=hB1.size
  have hle2:w.heap.size≤w2.heap.size:=hB2.size
  have h0:Zk w w1.heap.size (fun k=>k=w1.heap.size+1) [] w2:=⟨⟨_,hBO,World.ownsRow_nil _ _ _ _,fun k e=>by simp[Qht]at e⟩,by omega,fun k e=>by omega,hB2⟩
  have hM0:∀k,k=w1.heap.size+1→k<w2.heap.size:=fun k e=>by omega
  have hseq:=PJ h (10-1) (w1.heap.size+1) w w2 (by omega) hh hB2 hs HOK.out hcap hBH
  have hRl:(traceF (h.os.map Ob.p) h.ds 61 0 (putAll [] h.rs)).length≤60:=by
   have htr:=UM HOK.out hs hcap
   have:=(QaY htr 61 0 ((Qq.nil _).putAll (fun z hz=>(Yf (JS HOK.out).2.2.2.2.1 z hz).2))).len
   have:=htr.n60
   omega
  generalize traceF (h.os.map Ob.p) h.ds 61 0 (putAll [] h.rs)=R at hseq E hRl
  clear hw2 hsz2 c2 hA1 hA2 hBO hBH x0 x1 x2 x3 HOK
  simp only[World.size_alloc]
  gi_wp2_with fail
  refine Pf (enc:=fun x:Int=>#[Qhs .i64 x]) hro h1 (gf:=91) (lb:=#[.pointer (some ⟨w1.heap.size+1,0,none⟩)]) rfl trivial (enters_of (Cut.func_of Tryz.func91 rfl) (by kernel_rfl) rfl) hle2 hM0 hseq (fun _=>rfl) (Zk w w1.heap.size) Zk.chg (Zk.put hle2) Zk.al h0
   (fun x=>{tmps:=#[.agg #[Qhp h.oa h.os.length h.ocap,Qhp h.ra h.rs.length h.rcap,Qhp h.wa h.ws.length h.wcap,Qhp h.da h.ds.length h.dcap],.pointer (some ⟨w.heap.size,0,none⟩),.slice none 0 0,.pointer (some ⟨w1.heap.size,0,none⟩),.int .i64 x,.agg #[Qhp h.oa h.os.length h.ocap,Qhp h.ra h.rs.length h.rcap,Qhp h.wa h.ws.length h.wcap,Qhp h.da h.ds.length h.dcap],.bool true,.bool false,.agg #[Qhp h.oa h.os.length h.ocap,Qhp h.ra h.rs.length h.rcap,Qhp h.wa h.ws.length h.wcap,Qhp h.da h.ds.length h.dcap],.func (.func 91) #[] #[.pointer (some ⟨w1.heap.size+1,0,none⟩)],.int .i64 x,undef,undef,undef,undef,undef],defers:=[]}) ?assign ?body ?done
  case assign=>
   intro l x W K hK
   gi_wp2
   exact hK
  case body=>
   rintro l M pre x W ⟨⟨v,hv,hown,hmv⟩,hMB,hM,hB⟩ hpf
   have hlt:pre.length<R.length:=by have:=hpf.length_le;simp at this;omega
   clear hpf
   have hc:=hv.cell 0
   simp only[Qhu]at hc
   have hBs:w.heap.size≤w1.heap.size:=hw1s
   have hWs:=hB.size
   obtain⟨va,vcap,rfl,-⟩:=hown.form
   have hvA:(W.alloc (Qhr #[Qhs .i64 x] 3)).ownsRow w.heap.size 3 1 (.slice va pre.length vcap) pre.length (pre.map (Qhs .i64)):=World.ownsRow.alloc hown _
   have hne:=hown.ne hv (by decide)
   have hrow:=fun k e=>hown.lt k e
   have HSE:Hid (∀(v':Value) (w2':World),w2'.ownsRow w.heap.size 3 1 v' (pre.length+1) (pre.map (Qhs .i64)++ [.int .i64 x])→(W.alloc (Qhr #[Qhs .i64 x] 3)).grownBy w2' (Qhp va pre.length vcap).ownBlock→(v'.ownBlock=(Qhp va pre.length vcap).ownBlock∨v'.ownBlock=some (W.heap.size+1))→
    w2'.cell? ⟨w1.heap.size,0,none⟩=some (Qhp va pre.length vcap)∧w2'.frozen? ⟨w1.heap.size,0,none⟩=false∧Vw w.heap.size (Zk w w1.heap.size) M (pre++ [x]) W .normal ⟨#[],[]⟩ (w2'.setCell ⟨w1.heap.size,0,none⟩ v')):=by
    intro v' w2' hown2 hgr hat
    have hA:Below W.heap.size W (W.alloc (Qhr #[Qhs .i64 x] 3)):=(Below.refl _ _).alloc (Qhq _) _
    have hgW:W.grownBy w2' (Qhp va pre.length vcap).ownBlock:=ZX (Z8 hA (Qhq _) _) hgr
    have hv2:=hv.grown hgW hne
    have ho2:Qa w2' w.heap.size v' (pre++ [x]):=by unfold Qa;simpa using hown2
    have hne2:=ho2.ne hv2 (by decide)
    have hb2:Below w.heap.size W w2':=QL hgW hWs (fun k e=>(hrow k e).1)
    refine⟨hv2.cell 0,hv2.free 0,?_,fun k hk=>?_,hb2.setCell hBs _,⟨⟨v',hv2.store 0 v',ownsRow_setCell_other ho2 (by simpa using hne2) _,fun k e hk=>?_⟩,hMB,fun k hk=>⟨(hM k hk).1,?_⟩,(hB.trans hb2).setCell hBs _⟩⟩
    ·refine(KeepsOthers.of_grownBy hgW (fun j o e hj=>Qfn hown e hj)).trans (KeepsOthers.setCell _ _ _)
    ·have hkB:k≠w1.heap.size:=fun e=>hMB (e▸hk)
     rw[Below.heap_setCell _ _ _ _ (by simpa using hkB)]
     exact hgW.block k (hM k hk).2 (fun e=>hmv k e.symm hk)
    ·rcases hat with h1|h1
     ·rw[h1]at e;exact hmv k e hk
     ·rw[h1]at e
      simp at e
      have:=(hM k hk).2
      omega
    ·have:=(hM k hk).2
     have:=hgW.size
     simp[World.setCell];omega
   gi_wp2_with (gi_at_builtin;refine wpListIn_append_own_at _ rfl _ _ 24 rfl w.heap.size 3 i0 (.int .i64 0) 1 8 ((Cut.under_eq 24).trans Tryz.underlying24) hi hz0 hz1 hz2 rfl (by decide) _ _ _ rfl hvA ⟨W.heap.size,0,none⟩ 1 1 [.int .i64 x] rfl rfl (cell_one_new _ _ _) ?c2 ?c3 ?c4 ?c5 ?_)
   case c2=>intro u hu;simp at hu;subst hu;rfl
   case c3=>unfold maxLen;omega
   case c4=>omega
   case c5=>simp;omega
   intro v' w2' hown2 hgr _ hat
   obtain⟨q1,q2,q3⟩:=HSE.out v' w2' hown2 hgr hat
   obtain⟨g',cap',rfl⟩:=ownsRow_succ hown2
   clear hown2 hgr hat HSE hvA
   gi_wp2
   exact q3
  case done=>
   rintro D M W hD ⟨⟨v,hv,hown,hmv⟩,hMB,hM,hB⟩ hK
   have hc:=hv.cell 0
   simp only[Qhu]at hc
   gi_wp2
   refine⟨by simp,.inl ⟨_,_,rfl,run_takeDeferred hK,?_⟩⟩
   refine⟨_,results_tmp rfl _ _ _,v,rfl,?_,hB.trans (belowK_b (w:=w) (Qhq _) W D _ _ (by omega) hK rfl rfl)⟩
   rw[E.out]
   exact ownsRow_putObj hown _ hK rfl
end
section
open Go.RowKit
def pos:List Int→Int→Int
 | [],_=>-1
 |z::l,x=>if z=x then 0 else if pos l x<0 then-1 else pos l x+1
def wh (l:List Int)(x:Int):Int:=if x<0 then-1 else pos l x
theorem AtP.pos {zs:List Int}:∀ {x r:Int},AtP zs x r→r=pos zs x:=by
 induction zs with
 |nil=>
  intro x r h
  rcases h with⟨rfl,_⟩|⟨k,_,hk,_⟩
  ·rfl
  ·simp at hk
 |cons z l ih=>
  intro x r h
  rcases h with⟨rfl,hn⟩|⟨k,rfl,hk,hf⟩
  ·simp only[Qhw,not_or]at hn
   have h1:=ih (x:=x) (r:=-1) (Or.inl ⟨rfl,hn.2⟩)
   unfold Go.Proofs.YtcpnkpogebjieaaGreat.pos
   rw[if_neg (fun e=>hn.1 e.symm),←h1];simp
  ·cases k with
   |zero=>
    simp at hk
    unfold Go.Proofs.YtcpnkpogebjieaaGreat.pos
    rw[if_pos hk];simp
   |succ k=>
    have hz:¬z=x:=fun e=>hf 0 (by omega) (by simp[e])
    have h1:=ih (x:=x) (r:=k) (Or.inr ⟨k,rfl,by simpa using hk,fun j hj e=>hf (j+1) (by omega) (by simpa using e)⟩)
    unfold Go.Proofs.YtcpnkpogebjieaaGreat.pos
    rw[if_neg hz,←h1,if_neg (by omega)];simp
theorem Ul (l:List Int)(x:Int):-1≤pos l x∧pos l x<l.length:=by
 induction l with
 |nil=>simp[pos]
 |cons z l ih=>
  unfold pos
  simp only[Qhv]
  split
  ·omega
  ·split<;>omega
theorem JI (l:List Int)(x:Int):0≤pos l x↔x∈l:=by
 induction l with
 |nil=>simp[pos]
 |cons z l ih=>
  unfold pos
  by_cases h:z=x
  ·subst h;simp
  ·have h':¬x=z:=fun e=>h e.symm
   have:=Ul l x
   rw[if_neg h]
   simp only[Qhw,h',false_or,←ih]
   split<;>omega
theorem Qfw (l:List Int)(z x:Int):pos (l++ [z]) x=if x∈l then pos l x else if z=x then(l.length:Int)else-1:=by
 induction l with
 |nil=>
  by_cases h:z=x<;>simp[pos,h]
 |cons y l ih=>
  have hb:=Ul l x
  have hm:=JI l x
  rw[List.cons_append]
  unfold pos
  rw[ih]
  by_cases h:y=x
  ·subst h;simp
  ·have h':¬x=y:=fun e=>h e.symm
   by_cases hx:x∈l
   ·simp[h,hx]
   ·simp only[h,h',hx,Qhw,if_false,or_self,Qhv]
    by_cases hz:z=x
    ·simp only[hz,if_true]
     rw[if_neg (by omega)];simp
    ·simp[hz]
def whs (l:List Int)(n:Nat):List Int:=(List.range n).map fun(i:Nat)=>pos l (i:Int)
theorem JM (l:List Int)(n:Nat):(whs l n).length=n:=by simp[whs]
theorem Pd (l:List Int)(n i:Nat)(h:i<(whs l n).length):(whs l n)[i]=pos l (i:Int):=by simp[whs]
theorem UW (l:List Int)(n:Nat)(x:Int)(h0:0≤x)(h:x.toNat<(whs l n).length):(whs l n)[x.toNat]=pos l x:=by
 rw[Pd];congr 1;omega
theorem Qbh (n:Nat):whs [] n=List.replicate n (-1):=by
 apply List.ext_getElem
 ·simp[whs]
 ·intro i h1 h2
  simp[whs,pos]
theorem Qbi (l:List Int)(n:Nat)(z:Int)(hz:z∉l)(h0:0≤z):whs (l++ [z]) n=(whs l n).set z.toNat (l.length:Int):=by
 apply List.ext_getElem
 ·simp[whs]
 ·intro i h2 h3
  have hi:i<n:=by simpa[whs]using h2
  rw[List.getElem_set,Pd,Qfw]
  by_cases e:z.toNat=i
  ·have ez:z=(i:Int):=by omega
   rw[if_pos e,if_neg (by rw[←ez];exact hz),if_pos ez]
  ·have ez:¬z=(i:Int):=by omega
   rw[if_neg e,Pd,if_neg ez]
   have hb:=Ul l (i:Int)
   have hm:=JI l (i:Int)
   split
   ·rfl
   ·rename_i hn
    have:¬0≤pos l (i:Int):=fun e=>hn (hm.1 e)
    omega
theorem Qe8 {l:List Int}(h:l.Nodup){k:Nat}(hk:k<l.length):l[k]∉l.take k:=by
 intro hm
 obtain⟨i,hi,e⟩:=List.getElem_of_mem hm
 rw[List.getElem_take]at e
 have hik:i<k:=by have:=List.length_take_le k l;omega
 exact List.pairwise_iff_getElem.1 h i k (by omega) hk hik e
def Qo (ws:List (Int×Int))(x:List Int):List (Int×Int):=(ws.filter fun p=>decide (0≤pos x p.1)).map fun p=>(pos x p.1,pos x p.2)
theorem Qg9 (ws:List (Int×Int))(x:List Int)(k:Nat)(hk:k<ws.length):Qo (ws.take (k+1)) x=if decide (0≤pos x ws[k].1)=true then Qo (ws.take k) x++ [(pos x ws[k].1,pos x ws[k].2)]else Qo (ws.take k) x:=by
 unfold Qo
 rw[List.take_succ_eq_append_getElem hk,List.filter_append]
 by_cases h:decide (0≤pos x ws[k].1)=true
 ·simp only[List.filter_cons,h,if_true,List.filter_nil,List.map_append,List.map_cons,List.map_nil]
 ·simp only[List.filter_cons,h,List.filter_nil]
  simp
theorem Qg8 (ws:List (Int×Int))(x:List Int)(k:Nat):(Qo (ws.take k) x).length≤k:=by
 unfold Qo
 rw[List.length_map]
 exact Nat.le_trans (List.length_filter_le _ _) (List.length_take_le _ _)
theorem Qa6 (ws:List (Int×Int))(x:List Int):(Qo ws x).length≤ws.length:=by
 unfold Qo
 rw[List.length_map]
 exact List.length_filter_le _ _
def Vs (os:List (Int×ByteArray×List Int))(x:List Int)(p:Int):Int×ByteArray×List Int:=
 match os[p.toNat]? with
 |none=>(0,⟨#[]⟩,[])
 |some o=>(o.1,o.2.1,o.2.2.map (wh x))
theorem Qfb {os:List Ob}{x:List Int}{p:Int}{i:Nat}(hx:p.toNat=i)(hi:i<os.length):Vs (os.map Ob.p) x p=(os[i].k,os[i].t,os[i].r.map (wh x)):=by
 subst hx
 simp[Vs,List.getElem?_map,List.getElem?_eq_getElem hi,Ob.p]
theorem QfI {h:Hp}(hok:okP h.p=true)(hs:Zl h)(hcap:∀(i:Nat) (hi:i<h.os.length),h.os[i].r.length≤h.os[i].rcap):Qq h.os.length (reachP h.p):=by
 have E:reachP h.p=traceF (h.os.map Ob.p) h.ds 61 0 (putAll [] h.rs):=by
  simp only[reachP,hok,if_true];rfl
 rw[E]
 exact QaY (UM hok hs hcap) 61 0 ((Qq.nil _).putAll (fun z hz=>(Yf (JS hok).2.2.2.2.1 z hz).2))
theorem Yx (a:Option Addr)(n cap:Nat)(zs:List Int)(x:Int)(w:World)(hl:zs.length=n)(hn:n≤maxLen)(h:Qk w a zs):
 Calls Cut.prog 36 #[.slice a n cap,.int .i64 x] w fun e w'=>e=.returned (.int .i64 (pos zs x))∧w'=w:=by
 refine(OD a n cap zs x w hl hn h).mono ?_
 rintro e w' ⟨r,rfl,rfl,hr⟩
 exact⟨by rw[hr.pos],rfl⟩
theorem OG (a:Option Addr)(n cap:Nat)(zs:List Int)(x:Int)(w:World)(hl:zs.length=n)(hn:n≤maxLen)(h:Qk w a zs):
 Calls Cut.prog 38 #[.slice a n cap,.int .i64 x] w fun e w'=>e=.returned (.int .i64 (wh zs x))∧w'=w:=by
 by_cases hx:x<0
 ·have E:Hid (wh zs x= -1):=by simp[Hid,wh,hx]
  go_enter (Cut.func_of Tryz.func38 rfl),Tryz.ntmps38
  go_wp2
  go_ret
  exact⟨Vy E.out.symm,rfl⟩
 ·have E:Hid (wh zs x=pos zs x):=by simp[Hid,wh,hx]
  have hd:decide (x<0)=false:=by simpa using hx
  go_enter (Cut.func_of Tryz.func38 rfl),Tryz.ntmps38
  go_wp2_with fail
  refine(Yx a n cap zs x _ hl hn h).mono ?_
  rintro e w1 ⟨rfl,rfl⟩
  go_wp2
  go_ret
  exact⟨Vy E.out.symm,rfl⟩
theorem UO {w:World}{base e size n g cap:Nat}{xs:List Value}(h:w.ownsRow base e size (.slice (some ⟨g,0,none⟩) n cap) n xs)(i:Nat)(hi:i<n*size):w.cell? ⟨g,i,none⟩=xs[i]? :=by
 rcases h.2 with⟨h1,_⟩|⟨g',cap',cur,h1,_,hh,_,_,_,htake⟩
 ·simp at h1
 ·simp only[Value.slice.injEq,Option.some.injEq,Addr.mk.injEq,and_true,true_and]at h1
  obtain⟨rfl,rfl⟩:=h1
  rw[←htake,List.getElem?_take_of_lt hi]
  simp[World.cell?,hh]
def Qe (w:World)(base:Nat)(v:Value)(ws:List (Int×Int)):Prop:=w.ownsRow base 40 2 v ws.length (ws.flatMap wc)
theorem Qe.form {w:World}{base:Nat}{v:Value}{ws:List (Int×Int)}(h:Qe w base v ws):∃a cap,v=.slice a ws.length cap∧QE w a ws∧(ws.length≤cap∧cap≤maxLen):=by
 rcases h.2 with⟨h1,h2⟩|⟨g,cap,cur,h1,hg,hh,hn,hc,hs,htake⟩
 ·refine⟨none,0,by rw[h1,h2],fun hm=>by omega,by omega,Nat.zero_le _⟩
 ·refine⟨some ⟨g,0,none⟩,cap,h1,fun hm=>⟨g,0,rfl,lt_of_block hh,fun i hi=>?_⟩,hn,hc⟩
  have h':w.ownsRow base 40 2 (.slice (some ⟨g,0,none⟩) ws.length cap) ws.length (ws.flatMap wc):=by rw[←h1];exact h
  have g0:=Jw wc 2 (fun _=>rfl) ws i 0 hi (by omega)
  have g1:=Jw wc 2 (fun _=>rfl) ws i 1 hi (by omega)
  refine⟨?_,?_⟩
  ·rw[Nat.zero_add,UO h' _ (by omega)];exact g0
  ·rw[Nat.zero_add,UO h' _ (by omega)];exact g1
theorem Qe.below {w w':World}{base B:Nat}{v:Value}{ws:List (Int×Int)}(h:Qe w base v ws)(hb:Below B w w')(hB:w.heap.size≤B):Qe w' base v ws:=by
 refine World.ownsRow.kept h (Z8 hb hB none) ?_
 cases e:v.ownBlock with
 |none=>exact Or.inl rfl
 |some k=>exact Or.inr (by simp)
theorem Qe.lt {w:World}{base:Nat}{v:Value}{ws:List (Int×Int)}(h:Qe w base v ws):∀k,v.ownBlock=some k→base≤k∧k<w.heap.size:=World.ownsRow.lt h
theorem Qe.base {w:World}{B C:Nat}{v:Value}{ws:List (Int×Int)}(h:Qe w B v ws)(hC:C≤B):Qe w C v ws:=by
 refine⟨h.1,?_⟩
 rcases h.2 with h1|⟨g,cap,cur,h1,hg,r⟩
 ·exact Or.inl h1
 ·exact Or.inr ⟨g,cap,cur,h1,Nat.le_trans hC hg,r⟩
theorem Yj {w:World}(p:Int×Int)(t:TypeId):∀j u,(wc p)[j]? =some u→(w.alloc (Qhr #[.int .i64 p.1,.int .i64 p.2] t)).cell? ((⟨w.heap.size,0,none⟩:Addr).add j)=some u:=
 World.news_of_block (cs:=#[.int .i64 p.1,.int .i64 p.2]) (heap_alloc_new w _)
end
end Go.Proofs.YtcpnkpogebjieaaGreat
