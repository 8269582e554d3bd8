/- The specification's own MemOk: it answers whether the heap is ok, and changes nothing -/
import Derived.Deep.QuietTactic
import Derived.BigQuiet
import Derived.Deep.RegionWith
import Derived.Test.YtcpnkpogebjieaaGreatG09Ok
open Nat renaming le_refl→Qhp,zero_le→Qhs
open Go.Value renaming slice→Qhq,int→Qhr
open List renaming getElem?_cons_zero→Qht,getElem?_cons_succ→Qhu,take_succ_eq_append_getElem→Qhv,take_of_length_le→Qhw
set_option maxHeartbeats 1600000
set_option maxRecDepth 100000
namespace Go.Proofs.YtcpnkpogebjieaaGreat
section
open Go.RowKit
theorem J6 (n lo hi:Int)(w:World):Calls Cut.prog 42 #[.int .i64 n,.int .i64 lo,.int .i64 hi] w fun e w'=>e=.returned (.bool (inB n lo hi))∧w'=w:=by
 by_cases h1:lo≤n
 ·by_cases h2:n≤hi
  ·have e:inB n lo hi=true:=by simp[inB,h1,h2]
   have E:Hid (inB n lo hi=true):=e
   clear e
   go_enter (Cut.func_of Tryz.func42 rfl),Tryz.ntmps42
   go_wp2
   go_ret
   exact⟨by rw[E.out];simp[*],rfl⟩
  ·have e:inB n lo hi=false:=by simp[inB,h2]
   have E:Hid (inB n lo hi=false):=e
   clear e
   go_enter (Cut.func_of Tryz.func42 rfl),Tryz.ntmps42
   go_wp2
   go_ret
   exact⟨by rw[E.out];simp[*],rfl⟩
 ·have e:inB n lo hi=false:=by simp[inB,h1]
  have E:Hid (inB n lo hi=false):=e
  clear e
  go_enter (Cut.func_of Tryz.func42 rfl),Tryz.ntmps42
  go_wp2
  go_ret
  exact⟨by rw[E.out];rfl,rfl⟩
theorem QcQ (t:ByteArray)(w:World)(ht:t.size≤maxLen):Calls Cut.prog 87 #[.string t] w fun e w'=>e=.returned (.bool (Zo t))∧w'=w:=by
 unfold maxLen at ht
 go_enter (Cut.func_of Tryz.func87 rfl),Tryz.ntmps87
 go_wp2_with fail
 refine(J6 _ _ _ _).mono ?_
 rintro e w1 ⟨rfl,rfl⟩
 cases hin:inB (t.size:Int) 1 12 with
 |false=>
  go_wp2
  go_ret
  have e:Zo t=false:=by simp[inB]at hin;simp[Zo];omega
  exact⟨by rw[e];rfl,rfl⟩
 |true=>
  have hin1:1≤t.size∧t.size≤12:=by simp[inB]at hin;omega
  have HI:Hid (inB (t.size:Int) 1 12=true):=hin
  clear hin
  go_wp2
  go_loop [3] (fun i=>∃k:Nat,k≤t.size∧i=.int .i64 k∧∀j (hj:j<t.data.toList.length),j<k→Zi t.data.toList[j]=true) (fun i=>t.size-(intOf i).toNat)
  case atStart=>exact⟨0,Qhs _,rfl,fun j _ h=>by omega⟩
  case round=>
   obtain⟨k,hk,rfl,hall⟩:=hrel
   by_cases hlt:k<t.size
   ·have hkl:k<t.data.toList.length:=by simpa using hlt
    have hbe:t.data.toList[k]=t[k]:=rfl
    have HB:Hid (Zi t[k]=true→∀j (hj:j<t.data.toList.length),j<k+1→Zi t.data.toList[j]=true):=fun h=>J2 hall hkl (by rw[hbe];exact h)
    have HN:Hid (Zi t[k]=false→Zo t=false):=fun h=>by
     have:=JA (f:=Zi) hkl (by rw[hbe];exact h)
     simp only[Zo,this,Bool.and_false]
    clear hall hbe
    rcases(show(97≤(t[k].toNat:Int)∧(t[k].toNat:Int)≤122)∨(48≤(t[k].toNat:Int)∧(t[k].toNat:Int)≤57)∨((t[k].toNat:Int)<48)∨(57<(t[k].toNat:Int)∧(t[k].toNat:Int)<97)∨122<(t[k].toNat:Int)from by omega)with⟨h,h'⟩|⟨h,h'⟩|h|⟨h,h'⟩|h
    ·have hy:Zi t[k]=true:=by simp[Zi];omega
     have HR:=HB.out hy
     clear hy HB HN
     go_wp2
     go_round
     case rel=>exact⟨k+1,by omega,by go_num,HR⟩
     case measure=>simp[intOf];omega
    ·have hy:Zi t[k]=true:=by simp[Zi];omega
     have HR:=HB.out hy
     clear hy HB HN
     go_wp2
     go_round
     case rel=>exact⟨k+1,by omega,by go_num,HR⟩
     case measure=>simp[intOf];omega
    ·have hy:Zi t[k]=false:=by simp[Zi];omega
     have HR:Hid (Zo t=false):=HN.out hy
     clear hy HB HN
     go_wp2
     go_ret
     exact⟨by rw[HR.out];rfl,rfl⟩
    ·have hy:Zi t[k]=false:=by simp[Zi];omega
     have HR:Hid (Zo t=false):=HN.out hy
     have hd1:decide ((t[k].toNat:Int)≤57)=false:=by simp;omega
     clear hy HB HN
     go_wp2
     go_ret
     exact⟨by rw[HR.out];rfl,rfl⟩
    ·have hy:Zi t[k]=false:=by simp[Zi];omega
     have HR:Hid (Zo t=false):=HN.out hy
     have hd1:decide ((t[k].toNat:Int)≤57)=false:=by simp;omega
     have hd2:decide ((t[k].toNat:Int)≤122)=false:=by simp;omega
     clear hy HB HN
     go_wp2
     go_ret
     exact⟨by rw[HR.out];rfl,rfl⟩
   ·go_wp2
    go_ret
    have e:Zo t=true:=by
     have:=J7 (f:=Zi) (fun i hi=>hall i hi (by simp at hi;omega))
     simp only[Zo,this];simp;omega
    exact⟨by rw[e];rfl,rfl⟩
theorem PI (k:Int)(t:ByteArray)(a:Option Addr)(n cap:Nat)(r:List Int)(most:Int)(w:World)(hl:r.length=n)(hn:n≤maxLen)(ht:t.size≤maxLen)(h:Qk w a r)(m0:0≤most)(m1:most≤1048576):
 Calls Cut.prog 41 #[.agg #[.int .i64 k,.string t,.slice a n cap],.int .i64 most] w fun e w'=>e=.returned (.bool (Qs most (k,t,r)))∧Below w.heap.size w w':=by
 have hn1:=hn
 unfold maxLen at hn1
 go_enter (Cut.func_of Tryz.func41 rfl),Tryz.ntmps41
 go_wp2
 go_loop [5] (fun i=>∃j:Nat,j≤n∧i=.int .i64 j∧∀x (hx:x<r.length),x<j→inB r[x] (-1) (most-1)=true) (fun i=>n-(intOf i).toNat)
 case atStart=>exact⟨0,Qhs _,rfl,fun j _ h=>by omega⟩
 case round=>
  obtain⟨j,hj,rfl,hall⟩:=hrel
  by_cases hlt:j<n
  ·have hjl:j<r.length:=by omega
   obtain⟨b,off,rfl,hbw,c1⟩:=h.get hjl
   have HA:Hid (∀x (hx:x<r.length),x<j→inB r[x] (-1) (most-1)=true):=hall
   clear hall
   go_wp2_with fail
   refine(J6 _ _ _ _).mono ?_
   rintro e w1 ⟨rfl,rfl⟩
   cases hin:inB r[j] (-1) (most-1)with
   |false=>
    have HF:Hid (Qs most (k,t,r)=false):=by
     show Qs most (k,t,r)=false
     simp only[Qs,QV]
     rw[JA (f:=fun z=>inB z (-1) (most-1)) hjl hin];rfl
    clear hin
    go_wp2
    go_ret
    exact⟨by rw[HF.out];rfl,(Below.refl _ _).alloc (Qhp _) _⟩
   |true=>
    have HR:Hid (∀x (hx:x<r.length),x<j+1→inB r[x] (-1) (most-1)=true):=J2 (f:=fun z=>inB z (-1) (most-1)) HA.out hjl hin
    clear hin
    go_wp2
    go_round
    case rel=>exact⟨j+1,by omega,by go_num,HR.out⟩
    case measure=>simp[intOf];omega
  ·have hr:QV most r=true:=J7 (fun i hi=>hall i hi (by omega))
   have HO:Hid (Qs most (k,t,r)=QR k t n):=by
    show _=_
    simp only[Qs,hr,hl,Bool.true_and]
   have hnl:decide ((j:Int)<(n:Int))=false:=by simp;omega
   clear hall hr
   by_cases h1:k=1
   ·subst h1
    go_wp2_with fail
    refine(QcQ _ _ ht).mono ?_
    rintro e w1 ⟨rfl,rfl⟩
    cases htx:Zo t with
    |false=>
     have HK:Hid (QR 1 t n=false):=by simp[Hid,QR,htx]
     clear htx
     go_wp2
     go_ret
     exact⟨by rw[HO.out,HK.out];rfl,(Below.refl _ _).alloc (Qhp _) _⟩
    |true=>
     have HK:Hid (QR 1 t n=decide (n=0)):=by simp[Hid,QR,htx]
     clear htx
     go_wp2
     go_ret
     exact⟨Qx (by rw[HO.out,HK.out,Yp]),(Below.refl _ _).alloc (Qhp _) _⟩
   ·by_cases h2:k=2
    ·subst h2
     go_wp2
     ·have hz:=Vd (t:=t) (by assumption)
      have HK:QR 2 t n=decide (n≤6):=by simp[QR,hz]
      go_ret
      exact⟨Qx (by rw[HO.out,HK,Qgk]),(Below.refl _ _).alloc (Qhp _) _⟩
     ·have hz:t.size≠0:=fun e=>absurd (Vg e) (by assumption)
      have HK:QR 2 t n=false:=by simp[QR,hz]
      go_ret
      exact⟨Qx (by rw[HO.out,HK]),(Below.refl _ _).alloc (Qhp _) _⟩
    ·by_cases h3:k=3
     ·subst h3
      go_wp2
      ·have hz:=Vd (t:=t) (by assumption)
       have HK:QR 3 t n=decide (n=2):=by simp[QR,hz]
       go_ret
       exact⟨Qx (by rw[HO.out,HK,Qai]),(Below.refl _ _).alloc (Qhp _) _⟩
      ·have hz:t.size≠0:=fun e=>absurd (Vg e) (by assumption)
       have HK:QR 3 t n=false:=by simp[QR,hz]
       go_ret
       exact⟨Qx (by rw[HO.out,HK]),(Below.refl _ _).alloc (Qhp _) _⟩
     ·by_cases h4:k=4
      ·subst h4
       go_wp2
       ·have hz:=Vd (t:=t) (by assumption)
        have HK:QR 4 t n=decide (n=0):=by simp[QR,hz]
        go_ret
        exact⟨Qx (by rw[HO.out,HK,Yp]),(Below.refl _ _).alloc (Qhp _) _⟩
       ·have hz:t.size≠0:=fun e=>absurd (Vg e) (by assumption)
        have HK:QR 4 t n=false:=by simp[QR,hz]
        go_ret
        exact⟨Qx (by rw[HO.out,HK]),(Below.refl _ _).alloc (Qhp _) _⟩
      ·have g1:(k ==1)=false:=by simpa using h1
       have g2:(k ==2)=false:=by simpa using h2
       have g3:(k ==3)=false:=by simpa using h3
       have g4:(k ==4)=false:=by simpa using h4
       have HK:Hid (QR k t n=false):=by simp[Hid,QR,h1,h2,h3,h4]
       clear h1 h2 h3 h4
       go_wp2
       go_ret
       exact⟨Qx (by rw[HO.out,HK.out]),(Below.refl _ _).alloc (Qhp _) _⟩
theorem QfL {n lo hi:Int}(h:inB n lo hi=true):lo≤n∧n≤hi:=by simpa[inB]using h
theorem Ps (h:Hp)(a:Option Addr)(n cap:Nat)(ws:List (Int×Int))(w:World)(hl:ws.length=n)(hn:n≤maxLen)(hh:Qg w h)(hs:h.os.length≤1048576)(hw:QG w a ws):
 Calls Cut.prog 43 #[h.v,.slice a n cap] w fun e w'=>e=.returned (.bool (ws.all (Qp (h.os.map Ob.p))))∧Below w.heap.size w w':=by
 have hn1:=hn
 unfold maxLen at hn1
 obtain⟨oa,ocap,os,ra,rcap,rs,wa,wcap,ws0,da,dcap,ds⟩:=h
 obtain⟨ho,-,-,-⟩:=hh
 simp only[Hp.v]at *
 go_enter (Cut.func_of Tryz.func43 rfl),Tryz.ntmps43
 go_wp2
 have hB0:Below w.heap.size w (w.alloc (Obj.cells #[Qhq oa os.length ocap,Qhq ra rs.length rcap,Qhq wa ws0.length wcap,Qhq da ds.length dcap] 27)):=(Below.refl _ _).alloc (Qhp _) _
 go_loopw [5] (fun i wr=>∃k:Nat,k≤n∧i=.int .i64 k∧Below w.heap.size w wr∧wr.cell? ⟨w.heap.size,0,none⟩=some (.slice oa os.length ocap)∧w.heap.size<wr.heap.size∧∀j (hj:j<ws.length),j<k→Qp (os.map Ob.p) ws[j]=true) (fun i _=>n-(intOf i).toNat)
 case atStart=>exact⟨0,Qhs _,rfl,hB0,by simp,by simp,fun j _ h=>by omega⟩
 case round=>
  obtain⟨k,hk,rfl,hb,hbox,hsz,hall⟩:=hrel
  by_cases hlt:k<n
  ·have hkl:k<ws.length:=by omega
   obtain⟨b,off,rfl,hbw,c1,c2⟩:=hw.get hkl
   have d1:=(hb.cell (p:=⟨b,off+k*2,none⟩) hbw).trans c1
   have d2:=(hb.cell (p:=⟨b,off+k*2+1,none⟩) hbw).trans c2
   have hbA:=hb.alloc (Nat.le_of_lt hsz) (Obj.cells #[Qhr .i64 ws[k].1,Qhr .i64 ws[k].2] 40)
   have hboxA:=(((Below.refl wr.heap.size wr).alloc (Qhp _) (Obj.cells #[Qhr .i64 ws[k].1,Qhr .i64 ws[k].2] 40)).cell (p:=⟨w.heap.size,0,none⟩) hsz).trans hbox
   have hszA:w.heap.size<(wr.alloc (Obj.cells #[Qhr .i64 ws[k].1,Qhr .i64 ws[k].2] 40)).heap.size:=Nat.lt_of_lt_of_le hsz (by simp)
   have HA:Hid (∀j (hj:j<ws.length),j<k→Qp (os.map Ob.p) ws[j]=true):=hall
   clear hall c1 c2 hB0
   go_wp2_with fail
   refine(J6 _ _ _ _).mono ?_
   rintro e w1 ⟨rfl,rfl⟩
   cases h1:inB ws[k].1 0 ((os.length:Int)-1)with
   |false=>
    have HF:Hid (ws.all (Qp (os.map Ob.p))=false):=JA hkl (by simp[Qp,h1])
    clear h1
    go_wp2
    go_ret
    exact⟨Qx HF.out.symm,hbA⟩
   |true=>
    have hx:=QfL h1
    obtain⟨hx0,hx1⟩:=hx
    have H1:Hid (inB ws[k].1 0 ((os.length:Int)-1)=true):=h1
    clear h1
    go_wp2_with fail
    refine(J6 _ _ _ _).mono ?_
    rintro e w1 ⟨rfl,rfl⟩
    cases h2:inB ws[k].2 0 ((os.length:Int)-1)with
    |false=>
     have HF:Hid (ws.all (Qp (os.map Ob.p))=false):=JA hkl (by simp[Qp,h2])
     clear h2
     go_wp2
     go_ret
     exact⟨Qx HF.out.symm,hbA⟩
    |true=>
     have hgl:ws[k].1.toNat<os.length:=by omega
     obtain⟨b2,off2,rfl,hbw2,e1,_,_⟩:=ho.get hgl
     have f1:=(hbA.cell (p:=⟨b2,off2+ws[k].1.toNat*3,none⟩) hbw2).trans e1
     have hix:ws[k].1<(os.length:Int):=by omega
     have HW:Hid (Qp (os.map Ob.p) ws[k]=decide (os[ws[k].1.toNat].k=4)):=by
      show _=_
      have h1:=H1.out
      simp[Qp,h1,h2,hgl,Ob.p]
     clear h2 e1
     by_cases h4:os[ws[k].1.toNat].k=4
     ·have hb4:(os[ws[k].1.toNat].k !=4)=false:=by simp[h4]
      have HR:Hid (∀j (hj:j<ws.length),j<k+1→Qp (os.map Ob.p) ws[j]=true):=J2 HA.out hkl (by rw[HW.out];simp[h4])
      clear h4
      go_wp2
      go_roundw
      case rel=>exact⟨k+1,by omega,by go_num,hbA,hboxA,hszA,HR.out⟩
      case measure=>simp[intOf];omega
     ·have hb4:(os[ws[k].1.toNat].k !=4)=true:=by simp[h4]
      have HF:Hid (ws.all (Qp (os.map Ob.p))=false):=JA hkl (by rw[HW.out];simp[h4])
      clear h4
      go_wp2
      go_ret
      exact⟨Qx HF.out.symm,hbA⟩
  ·have HF:Hid (ws.all (Qp (os.map Ob.p))=true):=J7 (fun i hi=>hall i hi (by omega))
   clear hall
   go_wp2
   go_ret
   exact⟨Qx HF.out.symm,hb⟩
theorem QdL {α:Type}{xs ys:List α}{k:Nat}(h:xs.take k=ys.take k)(hx:k<xs.length)(hy:k<ys.length)(he:xs[k]=ys[k]):xs.take (k+1)=ys.take (k+1):=by
 rw[Qhv hx,Qhv hy,h,he]
theorem Qb7 {α:Type}{xs ys:List α}{k:Nat}(h:xs.take k=ys.take k)(hx:xs.length≤k)(hy:ys.length≤k):xs=ys:=by
 rwa[Qhw hx,Qhw hy]at h
theorem Qbu {α:Type}{xs ys:List α}{k:Nat}(hx:k<xs.length)(hy:k<ys.length)(h:xs[k]≠ys[k]):xs≠ys:=fun e=>by subst e;exact h rfl
def Hp.cs (h:Hp):List Value:=[.slice h.oa h.os.length h.ocap,.slice h.ra h.rs.length h.rcap,.slice h.wa h.ws.length h.wcap,.slice h.da h.ds.length h.dcap]
theorem VL {h:Hp}(hx:60<h.os.length∨8<h.rs.length∨20<h.ws.length+h.ds.length):okP h.p=false:=by
 have:(decide (h.p.1.length≤60)&&decide (h.p.2.1.length≤8)&&decide (h.p.2.2.1.length+h.p.2.2.2.length≤20))=false:=by
  simp only[Hp.p,List.length_map]
  rcases hx with hx|hx|hx
  ·simp[show ¬h.os.length≤60 by omega]
  ·simp[show ¬h.rs.length≤8 by omega]
  ·simp[show ¬h.ws.length+h.ds.length≤20 by omega]
 unfold okP
 rw[this];rfl
theorem U4 {h:Hp}(h1:h.os.length≤60)(h2:h.rs.length≤8)(h3:h.ws.length+h.ds.length≤20):
 okP h.p=(h.os.all (fun o=>Qs h.os.length o.p)&&(QV h.os.length h.rs&&(h.ws.all (Qp (h.os.map Ob.p))&&h.ds.all (Qp (h.os.map Ob.p))))):=by
 simp[okP,Hp.p,h1,h2,h3,List.all_map,Function.comp_def]
theorem KA (h:Hp)(w:World)(hh:Qg w h)(hs:Zk h)(ht:∀i (hi:i<h.os.length),h.os[i].t.size≤maxLen):
 Calls Cut.prog 12 #[h.v] w fun e w'=>e=.returned (.bool (okP h.p))∧Below w.heap.size w w':=by
 have hbig:=@VL h
 have hsmall:=@U4 h
 generalize okP h.p=OK at hbig hsmall⊢
 obtain⟨oa,ocap,os,ra,rcap,rs,wa,wcap,ws,da,dcap,ds⟩:=h
 obtain⟨ho,hr,hw,hd⟩:=hh
 obtain⟨so,soo,sr,sw,sd⟩:=hs
 simp only[Hp.v]at *
 have Hbig:Hid (60<os.length∨8<rs.length∨20<ws.length+ds.length→OK=false):=hbig
 clear hbig
 by_cases g1:60<os.length
 ·have HO:Hid (OK=false):=Hbig.out (Or.inl g1)
  clear Hbig hsmall
  go_enter (Cut.func_of Tryz.func12 rfl),Tryz.ntmps12
  go_wp2
  go_ret
  exact⟨Qx HO.out.symm,(Below.refl _ _).alloc (Qhp _) _⟩
 by_cases g2:8<rs.length
 ·have HO:Hid (OK=false):=Hbig.out (Or.inr (Or.inl g2))
  clear Hbig hsmall
  go_enter (Cut.func_of Tryz.func12 rfl),Tryz.ntmps12
  go_wp2
  go_ret
  exact⟨Qx HO.out.symm,(Below.refl _ _).alloc (Qhp _) _⟩
 by_cases g3:20<ws.length+ds.length
 ·have HO:Hid (OK=false):=Hbig.out (Or.inr (Or.inr g3))
  have g3':(20:Int)<(ws.length:Int)+(ds.length:Int):=by omega
  clear Hbig hsmall
  go_enter (Cut.func_of Tryz.func12 rfl),Tryz.ntmps12
  go_wp2
  go_ret
  exact⟨Qx HO.out.symm,(Below.refl _ _).alloc (Qhp _) _⟩
 have HO:Hid (OK=(os.all (fun o=>Qs os.length o.p)&&(QV os.length rs&&(ws.all (Qp (os.map Ob.p))&&ds.all (Qp (os.map Ob.p)))))):=hsmall (by omega) (by omega) (by omega)
 clear hsmall Hbig
 have k1:decide ((60:Int)<(os.length:Int))=false:=by simp;omega
 have k2:decide ((8:Int)<(rs.length:Int))=false:=by simp;omega
 have k3:decide ((20:Int)<(ws.length:Int)+(ds.length:Int))=false:=by simp;omega
 go_enter (Cut.func_of Tryz.func12 rfl),Tryz.ntmps12
 go_wp2
 have hB0:Below w.heap.size w (w.alloc (Obj.cells #[Qhq oa os.length ocap,Qhq ra rs.length rcap,Qhq wa ws.length wcap,Qhq da ds.length dcap] 27)):=(Below.refl _ _).alloc (Qhp _) _
 have hK0:Blk (w.alloc (Obj.cells #[Qhq oa os.length ocap,Qhq ra rs.length rcap,Qhq wa ws.length wcap,Qhq da ds.length dcap] 27)) w.heap.size [Qhq oa os.length ocap,Qhq ra rs.length rcap,Qhq wa ws.length wcap,Qhq da ds.length dcap] 27:=Blk.new w _ _
 go_loopw [3] (fun i wr=>∃k:Nat,k≤os.length∧i=.int .i64 k∧Below w.heap.size w wr∧Blk wr w.heap.size [Qhq oa os.length ocap,Qhq ra rs.length rcap,Qhq wa ws.length wcap,Qhq da ds.length dcap] 27∧∀j (hj:j<os.length),j<k→Qs os.length os[j].p=true) (fun i _=>os.length-(intOf i).toNat)
 case atStart=>exact⟨0,Qhs _,rfl,hB0,hK0,fun j _ h=>by omega⟩
 case round=>
  obtain⟨k,hk,rfl,hb,hblk,hall⟩:=hrel
  clear hB0 hK0
  have c0:=hblk.cell 0
  have c1:=hblk.cell 1
  have c2:=hblk.cell 2
  have c3:=hblk.cell 3
  simp only[Qht,Qhu]at c0 c1 c2 c3
  have hsz:=hblk.lt
  by_cases hlt:k<os.length
  ·have HA:Hid (∀j (hj:j<os.length),j<k→Qs os.length os[j].p=true):=hall
   clear hall
   have hrl:os[k].r.length≤maxLen:=by have:=soo k hlt;unfold maxLen;omega
   have htl:=ht k hlt
   have s1:=((ho.2 k hlt).below hb (Qhp _)).below (Below.refl wr.heap.size wr).drew (Qhp _)
   obtain⟨b,off,rfl,hbw,e1,e2,e3⟩:=ho.get hlt
   have d1:=(hb.cell (p:=⟨b,off+k*3,none⟩) hbw).trans e1
   have d2:=(hb.cell (p:=⟨b,off+k*3+1,none⟩) hbw).trans e2
   have d3:=(hb.cell (p:=⟨b,off+k*3+2,none⟩) hbw).trans e3
   have hi1:(k:Int)<(os.length:Int):=by omega
   clear e1 e2 e3
   go_wp2_with fail
   go_region_with (go_at_call 41;refine(PI _ _ _ _ _ os[k].r _ _ rfl hrl htl s1 (by omega) (by omega)).mono ?_;rintro e w' ⟨rfl,hbx⟩)
   all_goals
    have hbb:=hb.drew.trans (hbx.mono hb.drew.size)
    have hblk1:=(hblk.below (Below.refl wr.heap.size wr).drew hsz).below hbx hsz
    clear hbx d1 d2 d3 s1 c0 c1 c2 c3
    cases hob:Qs os.length (os[k].k,os[k].t,os[k].r)with
    |false=>
     have HF:Hid (OK=false):=by
      show OK=false
      rw[HO.out,JA (f:=fun o=>Qs os.length o.p) hlt hob];rfl
     clear hob
     go_wp2
     go_ret
     exact⟨Qx HF.out.symm,hbb⟩
    |true=>
     have HR:Hid (∀j (hj:j<os.length),j<k+1→Qs os.length os[j].p=true):=J2 (f:=fun(o:Ob)=>Qs os.length o.p) HA.out hlt hob
     clear hob
     go_wp2
     go_roundw
     case rel=>exact⟨k+1,by omega,by go_num,hbb,hblk1,HR.out⟩
     case measure=>simp[intOf];omega
  ·have HO1:Hid (OK=(QV os.length rs&&(ws.all (Qp (os.map Ob.p))&&ds.all (Qp (os.map Ob.p))))):=by
    show OK=_
    rw[HO.out,J7 (f:=fun o=>Qs os.length o.p) (fun i hi=>hall i hi (by omega)),Bool.true_and]
   have hnk:decide ((k:Int)<(os.length:Int))=false:=by simp;omega
   clear hall HO
   obtain⟨wo,rfl⟩:∃wo:World,wo=wr:=⟨_,rfl⟩
   go_wp2
   go_loopw [4] (fun i wr=>∃k:Nat,k≤rs.length∧i=.int .i64 k∧Below w.heap.size w wr∧Blk wr w.heap.size [Qhq oa os.length ocap,Qhq ra rs.length rcap,Qhq wa ws.length wcap,Qhq da ds.length dcap] 27∧∀j (hj:j<rs.length),j<k→inB rs[j] (-1) (os.length-1)=true) (fun i _=>rs.length-(intOf i).toNat)
   case atStart=>exact⟨0,Qhs _,rfl,hb,hblk,fun j _ h=>by omega⟩
   case round=>
    obtain⟨m,hm,rfl,hb,hblk,hall⟩:=hrel
    have c0:=hblk.cell 0
    have c1:=hblk.cell 1
    have c2:=hblk.cell 2
    have c3:=hblk.cell 3
    simp only[Qht,Qhu]at c0 c1 c2 c3
    have hsz:=hblk.lt
    by_cases hlt:m<rs.length
    ·have HA:Hid (∀j (hj:j<rs.length),j<m→inB rs[j] (-1) (os.length-1)=true):=hall
     clear hall
     obtain⟨b,off,rfl,hbw,e1⟩:=hr.get hlt
     have d1:=(hb.cell (p:=⟨b,off+m,none⟩) hbw).trans e1
     have hi1:(m:Int)<(rs.length:Int):=by omega
     clear e1
     go_wp2_with fail
     go_quiet ((go_at_call 42;exact Calls.quiet_of_same (J6 _ _ _ _)))
     have hbb:=ZW hb nq
     have hblk1:=hblk.below (ZW (Below.refl wr.heap.size wr) nq) hsz
     cases hob:inB rs[m] (-1) ((os.length:Int)-1)with
     |false=>
      have HF:Hid (OK=false):=by
       show OK=false
       rw[HO1.out]
       simp only[QV]
       rw[JA (f:=fun z=>inB z (-1) ((os.length:Int)-1)) hlt hob];rfl
      clear hob
      go_wp2
      go_ret
      exact⟨Qx HF.out.symm,hbb⟩
     |true=>
      have HR:Hid (∀j (hj:j<rs.length),j<m+1→inB rs[j] (-1) (os.length-1)=true):=J2 (f:=fun z=>inB z (-1) ((os.length:Int)-1)) HA.out hlt hob
      clear hob
      go_wp2
      go_roundw
      case rel=>exact⟨m+1,by omega,by go_num,hbb,hblk1,HR.out⟩
      case measure=>simp[intOf];omega
    ·have HO2:Hid (OK=(ws.all (Qp (os.map Ob.p))&&ds.all (Qp (os.map Ob.p)))):=by
      show OK=_
      rw[HO1.out]
      simp only[QV]
      rw[J7 (f:=fun z=>inB z (-1) ((os.length:Int)-1)) (fun i hi=>hall i hi (by omega)),Bool.true_and]
     have hnm:decide ((m:Int)<(rs.length:Int))=false:=by simp;omega
     clear hall HO1
     go_wp2_with fail
     have kw:=Ps ⟨oa,ocap,os,ra,rcap,rs,wa,wcap,ws,da,dcap,ds⟩ wa ws.length wcap ws wr rfl (by unfold maxLen;omega) ⟨ho.below hb (Qhp _),hr.below hb (Qhp _),hw.below hb (Qhp _),hd.below hb (Qhp _)⟩ so (hw.below hb (Qhp _))
     simp only[Hp.v]at kw
     refine kw.mono ?_
     rintro e w1 ⟨rfl,hb1⟩
     have hbb:=hb.trans (hb1.mono hb.size)
     have hblk1:=hblk.below hb1 hsz
     clear kw c0 c1 c2 c3
     have c0:=hblk1.cell 0
     have c1:=hblk1.cell 1
     have c2:=hblk1.cell 2
     have c3:=hblk1.cell 3
     simp only[Qht,Qhu]at c0 c1 c2 c3
     cases hob:ws.all (Qp (os.map Ob.p))with
     |false=>
      have HF:Hid (OK=false):=by
       show OK=false
       rw[HO2.out,hob];rfl
      clear hob
      go_wp2
      go_ret
      exact⟨Qx HF.out.symm,hbb⟩
     |true=>
      have HF:Hid (OK=ds.all (Qp (os.map Ob.p))):=by
       show OK=_
       rw[HO2.out,hob,Bool.true_and]
      clear hob
      go_wp2_with fail
      have kw:=Ps ⟨oa,ocap,os,ra,rcap,rs,wa,wcap,ws,da,dcap,ds⟩ da ds.length dcap ds w1 rfl (by unfold maxLen;omega) ⟨ho.below hbb (Qhp _),hr.below hbb (Qhp _),hw.below hbb (Qhp _),hd.below hbb (Qhp _)⟩ so (hd.below hbb (Qhp _))
      simp only[Hp.v]at kw
      refine kw.mono ?_
      rintro e w2 ⟨rfl,hb2⟩
      have hb3:=hbb.trans (hb2.mono hbb.size)
      clear kw
      go_wp2
      go_ret
      exact⟨Qx HF.out.symm,hb3⟩
end
end Go.Proofs.YtcpnkpogebjieaaGreat
