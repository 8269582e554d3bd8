/- The specification's own coming to: a list and all that can be come to from it; the whole. -/
import Derived.Deep.RegionWith
import Derived.Test.YtcpnkpogebjieaaGreatG12Rs2
import Derived.Deep.QuietTactic
import Derived.BigQuiet
import Derived.Test.YtcpnkpogebjieaaGreatG11Mk1
open Go.Value renaming slice→Qhp,int→Qhr
open Nat renaming le_refl→Qhq,zero_le→Qhs
open List renaming take_of_length_le→Qht,take_succ_eq_append_getElem→Qhu
set_option maxHeartbeats 1600000
set_option maxRecDepth 100000
namespace Go.Proofs.YtcpnkpogebjieaaGreat
section
open Go.RowKit
structure Tr (h:Hp):Prop where
 n60:h.os.length≤60
 weak:∀(i:Nat) (hi:i<h.os.length),h.os[i].k=3→1≤h.os[i].r.length
 cap:∀(i:Nat) (hi:i<h.os.length),h.os[i].r.length≤h.os[i].rcap
 nx:∀x,∀z∈nextP (h.os.map Ob.p) h.ds x,z<h.os.length
 nl:∀x,(nextP (h.os.map Ob.p) h.ds x).length≤1048576
theorem OF (h:Hp)(base F:Nat)(v0:Value)(l0:List Int)(w:World)(hh:Qg w h)(hs:Zl h)(ht:Tr h)(hv:Qa w base v0 l0)(hb:base≤w.heap.size)(hav:Zg h v0.ownBlock)(hpl:Qq h.os.length l0)(hF:h.os.length≤F):
 Calls Cut.prog 86 #[h.v,v0] w fun e w'=>∃v',e=.returned v'∧Qa w' base v' (traceF (h.os.map Ob.p) h.ds F 0 l0)∧Qq h.os.length (traceF (h.os.map Ob.p) h.ds F 0 l0)∧w.grownBy w' v0.ownBlock∧(v'.ownBlock=v0.ownBlock∨∃g,v'.ownBlock=some g∧w.heap.size≤g):=by
 have hn60:=ht.n60
 generalize hR:traceF (h.os.map Ob.p) h.ds F 0 l0=R
 have HR:Hid (traceF (h.os.map Ob.p) h.ds F 0 l0=R):=hR
 clear hR
 obtain⟨a0,cap0,rfl,-⟩:=hv.form
 go_enter (Cut.func_of Tryz.func86 rfl),Tryz.ntmps86
 simp only[Hp.v]
 go_wp2
 have hB0:Below w.heap.size w (w.alloc (Obj.cells #[Qhp h.oa h.os.length h.ocap,Qhp h.ra h.rs.length h.rcap,Qhp h.wa h.ws.length h.wcap,Qhp h.da h.ds.length h.dcap] 27)):=(Below.refl _ _).alloc (Qhq _) _
 have hK0:=Blk.new w [Qhp h.oa h.os.length h.ocap,Qhp h.ra h.rs.length h.rcap,Qhp h.wa h.ws.length h.wcap,Qhp h.da h.ds.length h.dcap] 27
 go_loopw [1,5] (fun v i wr=>∃(k f:Nat) (l:List Int),i=.int .i64 k∧k≤h.os.length∧Qa wr base v l∧Qq h.os.length l∧traceF (h.os.map Ob.p) h.ds f k l=R∧h.os.length≤k+f∧Qg wr h∧Zg h v.ownBlock∧w.grownBy wr (Qhp a0 l0.length cap0).ownBlock∧(v.ownBlock=(Qhp a0 l0.length cap0).ownBlock∨∃g,v.ownBlock=some g∧w.heap.size≤g)∧Blk wr w.heap.size [Qhp h.oa h.os.length h.ocap,Qhp h.ra h.rs.length h.rcap,Qhp h.wa h.ws.length h.wcap,Qhp h.da h.ds.length h.dcap] 27) (fun _ i _=>h.os.length-(intOf i).toNat)
 case atStart=>exact⟨0,F,l0,rfl,Qhs _,hv.below hB0 (Qhq _),hpl,HR.out,by omega,hh.below hB0 (Qhq _),hav,Z8 hB0 (Qhq _) _,Or.inl rfl,hK0⟩
 case round=>
  obtain⟨k,f,l,rfl,hkn,hown,hpl2,htr,hkf,hin,hav2,hgr,hob,hblk⟩:=hrel
  clear hB0 hK0 hv hav hh hpl
  have HT:Hid (traceF (h.os.map Ob.p) h.ds f k l=R):=htr
  clear htr
  have hll:=hpl2.len
  obtain⟨va,vcap,rfl,hseg,-⟩:=hown.form
  by_cases hlt:k<l.length
  ·obtain⟨f',rfl⟩:∃f',f=f'+1:=⟨f-1,by omega⟩
   have hx:=hpl2.rng l[k] (List.getElem_mem hlt)
   have HT2:Hid (traceF (h.os.map Ob.p) h.ds f' (k+1) (putAll l (nextP (h.os.map Ob.p) h.ds l[k]))=R):=by
    have:=HT.out
    unfold traceF at this
    rw[if_pos hlt]at this
    have e:l.getD k 0=l[k]:=by simp[List.getD,List.getElem?_eq_getElem hlt]
    rw[e]at this
    exact this
   obtain⟨b,off,rfl,hbw,c1⟩:=hseg.get hlt
   obtain⟨x0,x1,x2,x3⟩:=QB hblk
   have hdr:Below wr.heap.size wr wr.drew:=(Below.refl _ _).drew
   have c2:=Qeg h l[k] wr.drew (hin.below hdr (Qhq _)) hs hx.1 hx.2 ht.weak ht.cap
   simp only[Hp.v]at c2
   have hi1:(k:Int)<(l.length:Int):=by omega
   have hnx:=ht.nx l[k]
   have hnl:=ht.nl l[k]
   generalize nextP (h.os.map Ob.p) h.ds l[k]=nx at c2 HT2 hnx hnl
   have hkn2:k<h.os.length:=by omega
   clear HT
   go_wp2_with fail
   go_region_with (go_at_call 117;refine c2.mono ?_;rintro e w1 ⟨nv,rfl,na,ncap,⟨rfl,hnseg,hnb,hnav⟩⟩)
   all_goals
    have hst:=hdr.trans hnb
    have hown1:=hown.below hst (Qhq _)
    have hin1:=hin.below hst (Qhq _)
    have hblk1:=hblk.below hst hblk.lt
    have hgr1:=ZX hgr (Z8 hst (Qhq _) _)
    have hav1:=hnav _ hav2 (fun g e=>(hown.lt g e).2)
    have hws:w.heap.size≤w1.heap.size:=hgr1.size
    clear hnav hst hnb hown hin hblk hgr hdr x0 x1 x2 x3 c1 c2 hseg
    go_wp2
    go_loopw [1,7] (fun v i wi=>∃(j:Nat),i=.int .i64 j∧j≤nx.length∧Qa wi base v (putAll l (nx.take j))∧Qq h.os.length (putAll l (nx.take j))∧Qg wi h∧Zg h v.ownBlock∧w.grownBy wi (Qhp a0 l0.length cap0).ownBlock∧(v.ownBlock=(Qhp a0 l0.length cap0).ownBlock∨∃g,v.ownBlock=some g∧w.heap.size≤g)∧Blk wi w.heap.size [Qhp h.oa h.os.length h.ocap,Qhp h.ra h.rs.length h.rcap,Qhp h.wa h.ws.length h.wcap,Qhp h.da h.ds.length h.dcap] 27∧Qk wi na nx∧AvI na nx.length v.ownBlock) (fun _ i _=>nx.length-(intOf i).toNat)
    case atStart=>exact⟨0,rfl,Qhs _,hown1,hpl2,hin1,hav2,hgr1,hob,hblk1,hnseg,hav1⟩
    case round=>
     obtain⟨j,rfl,hjn,hown,hplj,hin,hav3,hgr,hob2,hblk,hseg2,hav4⟩:=hrel
     clear hown1 hin1 hav2 hgr1 hob hblk1 hnseg hav1
     obtain⟨va,vcap,rfl,-⟩:=hown.form
     by_cases hj:j<nx.length
     ·obtain⟨b6,off6,rfl,hb6,d1⟩:=hseg2.get hj
      have hpj:=hplj.len
      have HP:Hid (putAll l (nx.take (j+1))=put (putAll l (nx.take j)) nx[j]):=KU l nx j hj
      have hz:=hnx nx[j] (List.getElem_mem hj)
      have c3:=Kx base _ (putAll l (nx.take j)) nx[j] wr hown (by have:=hgr.size;omega) (by omega)
      go_wp2_with fail
      refine c3.mono ?_
      rintro e w2 ⟨v',rfl,hown',hg',hat⟩
      have hob':=O2 hob2 hat hgr.size
      have hgr':=QdC hgr hg' hob2
      have hblk':=hblk.grown hg' (hown.ne hblk (by decide))
      have hin':=hin.grown hg' hav3
      have hseg':=hseg2.grown hg' hav4
      have hav3':Zg h v'.ownBlock:=by
       rcases hat with e|⟨g,e,hge⟩
       ·rw[e];exact hav3
       ·rw[e];exact hin.av hge
      have hav4':AvI (some ⟨b6,off6,none⟩) nx.length v'.ownBlock:=by
       rcases hat with e|⟨g,e,hge⟩
       ·rw[e];exact hav4
       ·rw[e];exact hseg2.av hge
      have hpl':Hid (Qq h.os.length (putAll l (nx.take (j+1)))):=by
       show Qq _ _
       rw[HP.out];exact hplj.put hz
      have hown2:Hid (Qa w2 base v' (putAll l (nx.take (j+1)))):=by
       show Qa _ _ _ _
       rw[HP.out];exact hown'
      clear c3 hown hplj hin hav3 hgr hob2 hblk hseg2 hav4 hat hg' d1 hown'
      go_wp2
      go_roundw
      case rel=>exact⟨j+1,by go_num,by omega,hown2.out,hpl'.out,hin',hav3',hgr',hob',hblk',hseg',hav4'⟩
      case measure=>simp[intOf];omega
     ·have ej:nx.take j=nx:=Qht (by omega)
      have hown2:Hid (Qa wr base (Qhp va (putAll l (nx.take j)).length vcap) (putAll l nx)):=by
       show Qa _ _ _ _
       rw[ej]at hown⊢;exact hown
      rw[ej]at hplj
      have hjd:decide ((j:Int)<(nx.length:Int))=false:=by simp;omega
      clear ej hown
      go_wp2
      go_roundw
      case rel=>exact⟨k+1,f',_,by go_num,by omega,hown2.out,hplj,HT2.out,by omega,hin,hav3,hgr,hob2,hblk⟩
      case measure=>simp[intOf];omega
  ·have e:R=l:=by
    have:=HT.out
    rw[←this]
    cases f with
    |zero=>rfl
    |succ f=>unfold traceF;rw[if_neg hlt]
   have hnk:decide ((k:Int)<(l.length:Int))=false:=by simp;omega
   go_wp2
   go_ret
   exact⟨_,rfl,by rw[e];exact hown,by rw[e];exact hpl2,hgr,hob⟩
theorem Yc (n lo hi:Int)(w:World):Calls Cut.prog 42 #[.int .i64 n,.int .i64 lo,.int .i64 hi] w fun e w'=>e=.returned (.bool (inB n lo hi))∧w'=w:=by
 by_cases h1:lo≤n
 ·by_cases h2:n≤hi
  ·have e:inB n lo hi=true:=by simp[inB,h1,h2]
   have E:Hid (inB n lo hi=true):=e
   clear e
   go_enter (Cut.func_of Tryz.func42 rfl),Tryz.ntmps42
   go_wp2
   go_ret
   exact⟨by rw[E.out];simp[*],rfl⟩
  ·have e:inB n lo hi=false:=by simp[inB,h2]
   have E:Hid (inB n lo hi=false):=e
   clear e
   go_enter (Cut.func_of Tryz.func42 rfl),Tryz.ntmps42
   go_wp2
   go_ret
   exact⟨by rw[E.out];simp[*],rfl⟩
 ·have e:inB n lo hi=false:=by simp[inB,h1]
  have E:Hid (inB n lo hi=false):=e
  clear e
  go_enter (Cut.func_of Tryz.func42 rfl),Tryz.ntmps42
  go_wp2
  go_ret
  exact⟨by rw[E.out];rfl,rfl⟩
theorem Qef (t:ByteArray)(w:World)(ht:t.size≤maxLen):Calls Cut.prog 87 #[.string t] w fun e w'=>e=.returned (.bool (Zp t))∧w'=w:=by
 unfold maxLen at ht
 go_enter (Cut.func_of Tryz.func87 rfl),Tryz.ntmps87
 go_wp2_with fail
 refine(Yc _ _ _ _).mono ?_
 rintro e w1 ⟨rfl,rfl⟩
 cases hin:inB (t.size:Int) 1 12 with
 |false=>
  go_wp2
  go_ret
  have e:Zp t=false:=by simp[inB]at hin;simp[Zp];omega
  exact⟨by rw[e];rfl,rfl⟩
 |true=>
  have hin1:1≤t.size∧t.size≤12:=by simp[inB]at hin;omega
  have HI:Hid (inB (t.size:Int) 1 12=true):=hin
  clear hin
  go_wp2
  go_loop [3] (fun i=>∃k:Nat,k≤t.size∧i=.int .i64 k∧∀j (hj:j<t.data.toList.length),j<k→Zi t.data.toList[j]=true) (fun i=>t.size-(intOf i).toNat)
  case atStart=>exact⟨0,Qhs _,rfl,fun j _ h=>by omega⟩
  case round=>
   obtain⟨k,hk,rfl,hall⟩:=hrel
   by_cases hlt:k<t.size
   ·have hkl:k<t.data.toList.length:=by simpa using hlt
    have hbe:t.data.toList[k]=t[k]:=rfl
    have HB:Hid (Zi t[k]=true→∀j (hj:j<t.data.toList.length),j<k+1→Zi t.data.toList[j]=true):=fun h=>J0 hall hkl (by rw[hbe];exact h)
    have HN:Hid (Zi t[k]=false→Zp t=false):=fun h=>by
     have:=Jy (f:=Zi) hkl (by rw[hbe];exact h)
     simp only[Zp,this,Bool.and_false]
    clear hall hbe
    rcases(show(97≤(t[k].toNat:Int)∧(t[k].toNat:Int)≤122)∨(48≤(t[k].toNat:Int)∧(t[k].toNat:Int)≤57)∨((t[k].toNat:Int)<48)∨(57<(t[k].toNat:Int)∧(t[k].toNat:Int)<97)∨122<(t[k].toNat:Int)from by omega)with⟨h,h'⟩|⟨h,h'⟩|h|⟨h,h'⟩|h
    ·have hy:Zi t[k]=true:=by simp[Zi];omega
     have HR:=HB.out hy
     clear hy HB HN
     go_wp2
     go_round
     case rel=>exact⟨k+1,by omega,by go_num,HR⟩
     case measure=>simp[intOf];omega
    ·have hy:Zi t[k]=true:=by simp[Zi];omega
     have HR:=HB.out hy
     clear hy HB HN
     go_wp2
     go_round
     case rel=>exact⟨k+1,by omega,by go_num,HR⟩
     case measure=>simp[intOf];omega
    ·have hy:Zi t[k]=false:=by simp[Zi];omega
     have HR:Hid (Zp t=false):=HN.out hy
     clear hy HB HN
     go_wp2
     go_ret
     exact⟨by rw[HR.out];rfl,rfl⟩
    ·have hy:Zi t[k]=false:=by simp[Zi];omega
     have HR:Hid (Zp t=false):=HN.out hy
     have hd1:decide ((t[k].toNat:Int)≤57)=false:=by simp;omega
     clear hy HB HN
     go_wp2
     go_ret
     exact⟨by rw[HR.out];rfl,rfl⟩
    ·have hy:Zi t[k]=false:=by simp[Zi];omega
     have HR:Hid (Zp t=false):=HN.out hy
     have hd1:decide ((t[k].toNat:Int)≤57)=false:=by simp;omega
     have hd2:decide ((t[k].toNat:Int)≤122)=false:=by simp;omega
     clear hy HB HN
     go_wp2
     go_ret
     exact⟨by rw[HR.out];rfl,rfl⟩
   ·go_wp2
    go_ret
    have e:Zp t=true:=by
     have:=J7 (f:=Zi) (fun i hi=>hall i hi (by simp at hi;omega))
     simp only[Zp,this];simp;omega
    exact⟨by rw[e];rfl,rfl⟩
theorem OB (k:Int)(t:ByteArray)(a:Option Addr)(n cap:Nat)(r:List Int)(most:Int)(w:World)(hl:r.length=n)(hn:n≤maxLen)(ht:t.size≤maxLen)(h:Qk w a r)(m0:0≤most)(m1:most≤1048576):
 Calls Cut.prog 41 #[.agg #[.int .i64 k,.string t,.slice a n cap],.int .i64 most] w fun e w'=>e=.returned (.bool (Qs most (k,t,r)))∧Below w.heap.size w w':=by
 have hn1:=hn
 unfold maxLen at hn1
 go_enter (Cut.func_of Tryz.func41 rfl),Tryz.ntmps41
 go_wp2
 go_loop [5] (fun i=>∃j:Nat,j≤n∧i=.int .i64 j∧∀x (hx:x<r.length),x<j→inB r[x] (-1) (most-1)=true) (fun i=>n-(intOf i).toNat)
 case atStart=>exact⟨0,Qhs _,rfl,fun j _ h=>by omega⟩
 case round=>
  obtain⟨j,hj,rfl,hall⟩:=hrel
  by_cases hlt:j<n
  ·have hjl:j<r.length:=by omega
   obtain⟨b,off,rfl,hbw,c1⟩:=h.get hjl
   have HA:Hid (∀x (hx:x<r.length),x<j→inB r[x] (-1) (most-1)=true):=hall
   clear hall
   go_wp2_with fail
   refine(Yc _ _ _ _).mono ?_
   rintro e w1 ⟨rfl,rfl⟩
   cases hin:inB r[j] (-1) (most-1)with
   |false=>
    have HF:Hid (Qs most (k,t,r)=false):=by
     show Qs most (k,t,r)=false
     simp only[Qs,QZ]
     rw[Jy (f:=fun z=>inB z (-1) (most-1)) hjl hin];rfl
    clear hin
    go_wp2
    go_ret
    exact⟨by rw[HF.out];rfl,(Below.refl _ _).alloc (Qhq _) _⟩
   |true=>
    have HR:Hid (∀x (hx:x<r.length),x<j+1→inB r[x] (-1) (most-1)=true):=J0 (f:=fun z=>inB z (-1) (most-1)) HA.out hjl hin
    clear hin
    go_wp2
    go_round
    case rel=>exact⟨j+1,by omega,by go_num,HR.out⟩
    case measure=>simp[intOf];omega
  ·have hr:QZ most r=true:=J7 (fun i hi=>hall i hi (by omega))
   have HO:Hid (Qs most (k,t,r)=QS k t n):=by
    show _=_
    simp only[Qs,hr,hl,Bool.true_and]
   have hnl:decide ((j:Int)<(n:Int))=false:=by simp;omega
   clear hall hr
   by_cases h1:k=1
   ·subst h1
    go_wp2_with fail
    refine(Qef _ _ ht).mono ?_
    rintro e w1 ⟨rfl,rfl⟩
    cases htx:Zp t with
    |false=>
     have HK:Hid (QS 1 t n=false):=by simp[Hid,QS,htx]
     clear htx
     go_wp2
     go_ret
     exact⟨by rw[HO.out,HK.out];rfl,(Below.refl _ _).alloc (Qhq _) _⟩
    |true=>
     have HK:Hid (QS 1 t n=decide (n=0)):=by simp[Hid,QS,htx]
     clear htx
     go_wp2
     go_ret
     exact⟨Qx (by rw[HO.out,HK.out,Yr]),(Below.refl _ _).alloc (Qhq _) _⟩
   ·by_cases h2:k=2
    ·subst h2
     go_wp2
     ·have hz:=Vr (t:=t) (by assumption)
      have HK:QS 2 t n=decide (n≤6):=by simp[QS,hz]
      go_ret
      exact⟨Qx (by rw[HO.out,HK,QeB]),(Below.refl _ _).alloc (Qhq _) _⟩
     ·have hz:t.size≠0:=fun e=>absurd (VE e) (by assumption)
      have HK:QS 2 t n=false:=by simp[QS,hz]
      go_ret
      exact⟨Qx (by rw[HO.out,HK]),(Below.refl _ _).alloc (Qhq _) _⟩
    ·by_cases h3:k=3
     ·subst h3
      go_wp2
      ·have hz:=Vr (t:=t) (by assumption)
       have HK:QS 3 t n=decide (n=2):=by simp[QS,hz]
       go_ret
       exact⟨Qx (by rw[HO.out,HK,Pw]),(Below.refl _ _).alloc (Qhq _) _⟩
      ·have hz:t.size≠0:=fun e=>absurd (VE e) (by assumption)
       have HK:QS 3 t n=false:=by simp[QS,hz]
       go_ret
       exact⟨Qx (by rw[HO.out,HK]),(Below.refl _ _).alloc (Qhq _) _⟩
     ·by_cases h4:k=4
      ·subst h4
       go_wp2
       ·have hz:=Vr (t:=t) (by assumption)
        have HK:QS 4 t n=decide (n=0):=by simp[QS,hz]
        go_ret
        exact⟨Qx (by rw[HO.out,HK,Yr]),(Below.refl _ _).alloc (Qhq _) _⟩
       ·have hz:t.size≠0:=fun e=>absurd (VE e) (by assumption)
        have HK:QS 4 t n=false:=by simp[QS,hz]
        go_ret
        exact⟨Qx (by rw[HO.out,HK]),(Below.refl _ _).alloc (Qhq _) _⟩
      ·have g1:(k ==1)=false:=by simpa using h1
       have g2:(k ==2)=false:=by simpa using h2
       have g3:(k ==3)=false:=by simpa using h3
       have g4:(k ==4)=false:=by simpa using h4
       have HK:Hid (QS k t n=false):=by simp[Hid,QS,h1,h2,h3,h4]
       clear h1 h2 h3 h4
       go_wp2
       go_ret
       exact⟨Qx (by rw[HO.out,HK.out]),(Below.refl _ _).alloc (Qhq _) _⟩
theorem Qd0 {n lo hi:Int}(h:inB n lo hi=true):lo≤n∧n≤hi:=by simpa[inB]using h
theorem OC (h:Hp)(a:Option Addr)(n cap:Nat)(ws:List (Int×Int))(w:World)(hl:ws.length=n)(hn:n≤maxLen)(hh:Qg w h)(hs:h.os.length≤1048576)(hw:QE w a ws):
 Calls Cut.prog 43 #[h.v,.slice a n cap] w fun e w'=>e=.returned (.bool (ws.all (Qp (h.os.map Ob.p))))∧Below w.heap.size w w':=by
 have hn1:=hn
 unfold maxLen at hn1
 obtain⟨oa,ocap,os,ra,rcap,rs,wa,wcap,ws0,da,dcap,ds⟩:=h
 obtain⟨ho,-,-,-⟩:=hh
 simp only[Hp.v]at *
 go_enter (Cut.func_of Tryz.func43 rfl),Tryz.ntmps43
 go_wp2
 have hB0:Below w.heap.size w (w.alloc (Obj.cells #[Qhp oa os.length ocap,Qhp ra rs.length rcap,Qhp wa ws0.length wcap,Qhp da ds.length dcap] 27)):=(Below.refl _ _).alloc (Qhq _) _
 go_loopw [5] (fun i wr=>∃k:Nat,k≤n∧i=.int .i64 k∧Below w.heap.size w wr∧wr.cell? ⟨w.heap.size,0,none⟩=some (.slice oa os.length ocap)∧w.heap.size<wr.heap.size∧∀j (hj:j<ws.length),j<k→Qp (os.map Ob.p) ws[j]=true) (fun i _=>n-(intOf i).toNat)
 case atStart=>exact⟨0,Qhs _,rfl,hB0,by simp,by simp,fun j _ h=>by omega⟩
 case round=>
  obtain⟨k,hk,rfl,hb,hbox,hsz,hall⟩:=hrel
  by_cases hlt:k<n
  ·have hkl:k<ws.length:=by omega
   obtain⟨b,off,rfl,hbw,c1,c2⟩:=hw.get hkl
   have d1:=(hb.cell (p:=⟨b,off+k*2,none⟩) hbw).trans c1
   have d2:=(hb.cell (p:=⟨b,off+k*2+1,none⟩) hbw).trans c2
   have hbA:=hb.alloc (Nat.le_of_lt hsz) (Obj.cells #[Qhr .i64 ws[k].1,Qhr .i64 ws[k].2] 40)
   have hboxA:=(((Below.refl wr.heap.size wr).alloc (Qhq _) (Obj.cells #[Qhr .i64 ws[k].1,Qhr .i64 ws[k].2] 40)).cell (p:=⟨w.heap.size,0,none⟩) hsz).trans hbox
   have hszA:w.heap.size<(wr.alloc (Obj.cells #[Qhr .i64 ws[k].1,Qhr .i64 ws[k].2] 40)).heap.size:=Nat.lt_of_lt_of_le hsz (by simp)
   have HA:Hid (∀j (hj:j<ws.length),j<k→Qp (os.map Ob.p) ws[j]=true):=hall
   clear hall c1 c2 hB0
   go_wp2_with fail
   refine(Yc _ _ _ _).mono ?_
   rintro e w1 ⟨rfl,rfl⟩
   cases h1:inB ws[k].1 0 ((os.length:Int)-1)with
   |false=>
    have HF:Hid (ws.all (Qp (os.map Ob.p))=false):=Jy hkl (by simp[Qp,h1])
    clear h1
    go_wp2
    go_ret
    exact⟨Qx HF.out.symm,hbA⟩
   |true=>
    have hx:=Qd0 h1
    obtain⟨hx0,hx1⟩:=hx
    have H1:Hid (inB ws[k].1 0 ((os.length:Int)-1)=true):=h1
    clear h1
    go_wp2_with fail
    refine(Yc _ _ _ _).mono ?_
    rintro e w1 ⟨rfl,rfl⟩
    cases h2:inB ws[k].2 0 ((os.length:Int)-1)with
    |false=>
     have HF:Hid (ws.all (Qp (os.map Ob.p))=false):=Jy hkl (by simp[Qp,h2])
     clear h2
     go_wp2
     go_ret
     exact⟨Qx HF.out.symm,hbA⟩
    |true=>
     have hgl:ws[k].1.toNat<os.length:=by omega
     obtain⟨b2,off2,rfl,hbw2,e1,_,_⟩:=ho.get hgl
     have f1:=(hbA.cell (p:=⟨b2,off2+ws[k].1.toNat*3,none⟩) hbw2).trans e1
     have hix:ws[k].1<(os.length:Int):=by omega
     have HW:Hid (Qp (os.map Ob.p) ws[k]=decide (os[ws[k].1.toNat].k=4)):=by
      show _=_
      have h1:=H1.out
      simp[Qp,h1,h2,hgl,Ob.p]
     clear h2 e1
     by_cases h4:os[ws[k].1.toNat].k=4
     ·have hb4:(os[ws[k].1.toNat].k !=4)=false:=by simp[h4]
      have HR:Hid (∀j (hj:j<ws.length),j<k+1→Qp (os.map Ob.p) ws[j]=true):=J0 HA.out hkl (by rw[HW.out];simp[h4])
      clear h4
      go_wp2
      go_roundw
      case rel=>exact⟨k+1,by omega,by go_num,hbA,hboxA,hszA,HR.out⟩
      case measure=>simp[intOf];omega
     ·have hb4:(os[ws[k].1.toNat].k !=4)=true:=by simp[h4]
      have HF:Hid (ws.all (Qp (os.map Ob.p))=false):=Jy hkl (by rw[HW.out];simp[h4])
      clear h4
      go_wp2
      go_ret
      exact⟨Qx HF.out.symm,hbA⟩
  ·have HF:Hid (ws.all (Qp (os.map Ob.p))=true):=J7 (fun i hi=>hall i hi (by omega))
   clear hall
   go_wp2
   go_ret
   exact⟨Qx HF.out.symm,hb⟩
theorem QgF {α:Type}{xs ys:List α}{k:Nat}(h:xs.take k=ys.take k)(hx:k<xs.length)(hy:k<ys.length)(he:xs[k]=ys[k]):xs.take (k+1)=ys.take (k+1):=by
 rw[Qhu hx,Qhu hy,h,he]
theorem QgD {α:Type}{xs ys:List α}{k:Nat}(h:xs.take k=ys.take k)(hx:xs.length≤k)(hy:ys.length≤k):xs=ys:=by
 rwa[Qht hx,Qht hy]at h
theorem QeY {α:Type}{xs ys:List α}{k:Nat}(hx:k<xs.length)(hy:k<ys.length)(h:xs[k]≠ys[k]):xs≠ys:=fun e=>by subst e;exact h rfl
end
end Go.Proofs.YtcpnkpogebjieaaGreat
