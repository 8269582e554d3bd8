/- The specification's own MemOk: it answers whether the heap is ok, and changes nothing -/
import Derived.Deep.QuietTactic
import Derived.BigQuiet
import Derived.Deep.RegionWith
import Derived.Test.YtcpnkpogebjieaaGreatS10Vc
import Derived.Test.YtcpnkpogebjieaaGreatS09ToH
open Nat renaming le_refl→QhR,zero_le→QhU
open Go.Value renaming slice→QhS,int→QhT
open List renaming getElem?_cons_zero→QhV,getElem?_cons_succ→QhW,take_succ_eq_append_getElem→QhX,take_of_length_le→QhY
set_option maxHeartbeats 1600000
set_option maxRecDepth 100000
namespace Go.Proofs.YtcpnkpogebjieaaGreat
section
open Go.RowKit
theorem Ym (n lo hi:Int)(w:World):Calls Cut.prog 42 #[.int .i64 n,.int .i64 lo,.int .i64 hi] w fun e w'=>e=.returned (.bool (inB n lo hi))∧w'=w:=by
 by_cases h1:lo≤n
 ·by_cases h2:n≤hi
  ·have e:inB n lo hi=true:=by simp[inB,h1,h2]
   have E:Hid (inB n lo hi=true):=e;clear e;go_enter (Cut.func_of Tryz.func42 rfl),Tryz.ntmps42;go_wp2;go_ret;exact⟨by rw[E.out];simp[*],rfl⟩
  ·have e:inB n lo hi=false:=by simp[inB,h2]
   have E:Hid (inB n lo hi=false):=e;clear e;go_enter (Cut.func_of Tryz.func42 rfl),Tryz.ntmps42;go_wp2;go_ret;exact⟨by rw[E.out];simp[*],rfl⟩
 ·have e:inB n lo hi=false:=by simp[inB,h1]
  have E:Hid (inB n lo hi=false):=e;clear e;go_enter (Cut.func_of Tryz.func42 rfl),Tryz.ntmps42;go_wp2;go_ret;exact⟨by rw[E.out];rfl,rfl⟩
theorem QeM (t:ByteArray)(w:World)(ht:t.size≤maxLen):Calls Cut.prog 87 #[.string t] w fun e w'=>e=.returned (.bool (Zr t))∧w'=w:=by
 unfold maxLen at ht;go_enter (Cut.func_of Tryz.func87 rfl),Tryz.ntmps87;go_wp2_with fail;refine(Ym _ _ _ _).mono ?_;rintro e w1 ⟨rfl,rfl⟩
 cases hin:inB (t.size:Int) 1 12 with
 |false=>
  go_wp2;go_ret;have e:Zr t=false:=by simp[inB]at hin;simp[Zr];omega
  exact⟨by rw[e];rfl,rfl⟩
 |true=>
  have hin1:1≤t.size∧t.size≤12:=by simp[inB]at hin;omega
  have HI:Hid (inB (t.size:Int) 1 12=true):=hin;clear hin;go_wp2
  go_loop [3] (fun i=>∃k:Nat,k≤t.size∧i=.int .i64 k∧∀j (hj:j<t.data.toList.length),j<k→Zl t.data.toList[j]=true) (fun i=>t.size-(intOf i).toNat)
  case atStart=>exact⟨0,QhU _,rfl,fun j _ h=>by omega⟩
  case round=>
   obtain⟨k,hk,rfl,hall⟩:=hrel;by_cases hlt:k<t.size
   ·have hkl:k<t.data.toList.length:=by simpa using hlt
    have hbe:t.data.toList[k]=t[k]:=rfl;have HB:Hid (Zl t[k]=true→∀j (hj:j<t.data.toList.length),j<k+1→Zl t.data.toList[j]=true):=fun h=>J8 hall hkl (by rw[hbe];exact h)
    have HN:Hid (Zl t[k]=false→Zr t=false):=fun h=>by
     have:=JG (f:=Zl) hkl (by rw[hbe];exact h);simp only[Zr,this,Bool.and_false]
    clear hall hbe;rcases(show(97≤(t[k].toNat:Int)∧(t[k].toNat:Int)≤122)∨(48≤(t[k].toNat:Int)∧(t[k].toNat:Int)≤57)∨((t[k].toNat:Int)<48)∨(57<(t[k].toNat:Int)∧(t[k].toNat:Int)<97)∨122<(t[k].toNat:Int)from by omega)with⟨h,h'⟩|⟨h,h'⟩|h|⟨h,h'⟩|h
    ·have hy:Zl t[k]=true:=by simp[Zl];omega
     have HR:=HB.out hy;clear hy HB HN;go_wp2
     go_round
     case rel=>exact⟨k+1,by omega,by go_num,HR⟩
     case measure=>simp[intOf];omega
    ·have hy:Zl t[k]=true:=by simp[Zl];omega
     have HR:=HB.out hy;clear hy HB HN;go_wp2
     go_round
     case rel=>exact⟨k+1,by omega,by go_num,HR⟩
     case measure=>simp[intOf];omega
    ·have hy:Zl t[k]=false:=by simp[Zl];omega
     have HR:Hid (Zr t=false):=HN.out hy;clear hy HB HN;go_wp2;go_ret;exact⟨by rw[HR.out];rfl,rfl⟩
    ·have hy:Zl t[k]=false:=by simp[Zl];omega
     have HR:Hid (Zr t=false):=HN.out hy;have hd1:decide ((t[k].toNat:Int)≤57)=false:=by simp;omega
     clear hy HB HN;go_wp2;go_ret;exact⟨by rw[HR.out];rfl,rfl⟩
    ·have hy:Zl t[k]=false:=by simp[Zl];omega
     have HR:Hid (Zr t=false):=HN.out hy;have hd1:decide ((t[k].toNat:Int)≤57)=false:=by simp;omega
     have hd2:decide ((t[k].toNat:Int)≤122)=false:=by simp;omega
     clear hy HB HN;go_wp2;go_ret;exact⟨by rw[HR.out];rfl,rfl⟩
   ·go_wp2;go_ret
    have e:Zr t=true:=by
     have:=Yh (f:=Zl) (fun i hi=>hall i hi (by simp at hi;omega));simp only[Zr,this];simp;omega
    exact⟨by rw[e];rfl,rfl⟩
theorem Qab (k:Int)(t:ByteArray)(a:Option Addr)(n cap:Nat)(r:List Int)(most:Int)(w:World)(hl:r.length=n)(hn:n≤maxLen)(ht:t.size≤maxLen)(h:Qi w a r)(m0:0≤most)(m1:most≤1048576):
 Calls Cut.prog 41 #[.agg #[.int .i64 k,.string t,.slice a n cap],.int .i64 most] w fun e w'=>e=.returned (.bool (Qt most (k,t,r)))∧Below w.heap.size w w':=by
 have hn1:=hn;unfold maxLen at hn1;go_enter (Cut.func_of Tryz.func41 rfl),Tryz.ntmps41;go_wp2
 go_loop [5] (fun i=>∃j:Nat,j≤n∧i=.int .i64 j∧∀x (hx:x<r.length),x<j→inB r[x] (-1) (most-1)=true) (fun i=>n-(intOf i).toNat)
 case atStart=>exact⟨0,QhU _,rfl,fun j _ h=>by omega⟩
 case round=>
  obtain⟨j,hj,rfl,hall⟩:=hrel;by_cases hlt:j<n
  ·have hjl:j<r.length:=by omega
   obtain⟨b,off,rfl,hbw,c1⟩:=h.get hjl;have HA:Hid (∀x (hx:x<r.length),x<j→inB r[x] (-1) (most-1)=true):=hall;clear hall;go_wp2_with fail;refine(Ym _ _ _ _).mono ?_;rintro e w1 ⟨rfl,rfl⟩
   cases hin:inB r[j] (-1) (most-1)with
   |false=>
    have HF:Hid (Qt most (k,t,r)=false):=by
     show Qt most (k,t,r)=false;simp only[Qt,Q2];rw[JG (f:=fun z=>inB z (-1) (most-1)) hjl hin];rfl
    clear hin;go_wp2;go_ret;exact⟨by rw[HF.out];rfl,(Below.refl _ _).alloc (QhR _) _⟩
   |true=>
    have HR:Hid (∀x (hx:x<r.length),x<j+1→inB r[x] (-1) (most-1)=true):=J8 (f:=fun z=>inB z (-1) (most-1)) HA.out hjl hin;clear hin;go_wp2
    go_round
    case rel=>exact⟨j+1,by omega,by go_num,HR.out⟩
    case measure=>simp[intOf];omega
  ·have hr:Q2 most r=true:=Yh (fun i hi=>hall i hi (by omega))
   have HO:Hid (Qt most (k,t,r)=QU k t n):=by
    show _=_;simp only[Qt,hr,hl,Bool.true_and]
   have hnl:decide ((j:Int)<(n:Int))=false:=by simp;omega
   clear hall hr;by_cases h1:k=1
   ·subst h1;go_wp2_with fail;refine(QeM _ _ ht).mono ?_;rintro e w1 ⟨rfl,rfl⟩
    cases htx:Zr t with
    |false=>
     have HK:Hid (QU 1 t n=false):=by simp[Hid,QU,htx]
     clear htx;go_wp2;go_ret;exact⟨by rw[HO.out,HK.out];rfl,(Below.refl _ _).alloc (QhR _) _⟩
    |true=>
     have HK:Hid (QU 1 t n=decide (n=0)):=by simp[Hid,QU,htx]
     clear htx;go_wp2;go_ret;exact⟨QA (by rw[HO.out,HK.out,YB]),(Below.refl _ _).alloc (QhR _) _⟩
   ·by_cases h2:k=2
    ·subst h2;go_wp2
     ·have hz:=VK (t:=t) (by assumption);have HK:QU 2 t n=decide (n≤6):=by simp[QU,hz]
      go_ret;exact⟨QA (by rw[HO.out,HK,Qe7]),(Below.refl _ _).alloc (QhR _) _⟩
     ·have hz:t.size≠0:=fun e=>absurd (V0 e) (by assumption);have HK:QU 2 t n=false:=by simp[QU,hz]
      go_ret;exact⟨QA (by rw[HO.out,HK]),(Below.refl _ _).alloc (QhR _) _⟩
    ·by_cases h3:k=3
     ·subst h3;go_wp2
      ·have hz:=VK (t:=t) (by assumption);have HK:QU 3 t n=decide (n=2):=by simp[QU,hz]
       go_ret;exact⟨QA (by rw[HO.out,HK,P5]),(Below.refl _ _).alloc (QhR _) _⟩
      ·have hz:t.size≠0:=fun e=>absurd (V0 e) (by assumption);have HK:QU 3 t n=false:=by simp[QU,hz]
       go_ret;exact⟨QA (by rw[HO.out,HK]),(Below.refl _ _).alloc (QhR _) _⟩
     ·by_cases h4:k=4
      ·subst h4;go_wp2
       ·have hz:=VK (t:=t) (by assumption);have HK:QU 4 t n=decide (n=0):=by simp[QU,hz]
        go_ret;exact⟨QA (by rw[HO.out,HK,YB]),(Below.refl _ _).alloc (QhR _) _⟩
       ·have hz:t.size≠0:=fun e=>absurd (V0 e) (by assumption);have HK:QU 4 t n=false:=by simp[QU,hz]
        go_ret;exact⟨QA (by rw[HO.out,HK]),(Below.refl _ _).alloc (QhR _) _⟩
      ·have g1:(k ==1)=false:=by simpa using h1
       have g2:(k ==2)=false:=by simpa using h2
       have g3:(k ==3)=false:=by simpa using h3
       have g4:(k ==4)=false:=by simpa using h4
       have HK:Hid (QU k t n=false):=by simp[Hid,QU,h1,h2,h3,h4]
       clear h1 h2 h3 h4;go_wp2;go_ret;exact⟨QA (by rw[HO.out,HK.out]),(Below.refl _ _).alloc (QhR _) _⟩
theorem Qev {n lo hi:Int}(h:inB n lo hi=true):lo≤n∧n≤hi:=by simpa[inB]using h
theorem Qac (h:Hp)(a:Option Addr)(n cap:Nat)(ws:List (Int×Int))(w:World)(hl:ws.length=n)(hn:n≤maxLen)(hh:Qj w h)(hs:h.os.length≤1048576)(hw:Qz w a ws):
 Calls Cut.prog 43 #[h.v,.slice a n cap] w fun e w'=>e=.returned (.bool (ws.all (Qn (h.os.map Ob.p))))∧Below w.heap.size w w':=by
 have hn1:=hn;unfold maxLen at hn1;obtain⟨oa,ocap,os,ra,rcap,rs,wa,wcap,ws0,da,dcap,ds⟩:=h;obtain⟨ho,-,-,-⟩:=hh;simp only[Hp.v]at *;go_enter (Cut.func_of Tryz.func43 rfl),Tryz.ntmps43;go_wp2;have hB0:Below w.heap.size w (w.alloc (Obj.cells #[QhS oa os.length ocap,QhS ra rs.length rcap,QhS wa ws0.length wcap,QhS da ds.length dcap] 27)):=(Below.refl _ _).alloc (QhR _) _;go_loopw [5] (fun i wr=>∃k:Nat,k≤n∧i=.int .i64 k∧Below w.heap.size w wr∧wr.cell? ⟨w.heap.size,0,none⟩=some (.slice oa os.length ocap)∧w.heap.size<wr.heap.size∧∀j (hj:j<ws.length),j<k→Qn (os.map Ob.p) ws[j]=true) (fun i _=>n-(intOf i).toNat)
 case atStart=>exact⟨0,QhU _,rfl,hB0,by simp,by simp,fun j _ h=>by omega⟩
 case round=>
  obtain⟨k,hk,rfl,hb,hbox,hsz,hall⟩:=hrel;by_cases hlt:k<n
  ·have hkl:k<ws.length:=by omega
   obtain⟨b,off,rfl,hbw,c1,c2⟩:=hw.get hkl;have d1:=(hb.cell (p:=⟨b,off+k*2,none⟩) hbw).trans c1;have d2:=(hb.cell (p:=⟨b,off+k*2+1,none⟩) hbw).trans c2;have hbA:=hb.alloc (Nat.le_of_lt hsz) (Obj.cells #[QhT .i64 ws[k].1,QhT .i64 ws[k].2] 40);have hboxA:=(((Below.refl wr.heap.size wr).alloc (QhR _) (Obj.cells #[QhT .i64 ws[k].1,QhT .i64 ws[k].2] 40)).cell (p:=⟨w.heap.size,0,none⟩) hsz).trans hbox;have hszA:w.heap.size<(wr.alloc (Obj.cells #[QhT .i64 ws[k].1,QhT .i64 ws[k].2] 40)).heap.size:=Nat.lt_of_lt_of_le hsz (by simp);have HA:Hid (∀j (hj:j<ws.length),j<k→Qn (os.map Ob.p) ws[j]=true):=hall;clear hall c1 c2 hB0;go_wp2_with fail;refine(Ym _ _ _ _).mono ?_;rintro e w1 ⟨rfl,rfl⟩
   cases h1:inB ws[k].1 0 ((os.length:Int)-1)with
   |false=>
    have HF:Hid (ws.all (Qn (os.map Ob.p))=false):=JG hkl (by simp[Qn,h1]);clear h1;go_wp2;go_ret;exact⟨QA HF.out.symm,hbA⟩
   |true=>
    have hx:=Qev h1;obtain⟨hx0,hx1⟩:=hx;have H1:Hid (inB ws[k].1 0 ((os.length:Int)-1)=true):=h1;clear h1;go_wp2_with fail;refine(Ym _ _ _ _).mono ?_;rintro e w1 ⟨rfl,rfl⟩
    cases h2:inB ws[k].2 0 ((os.length:Int)-1)with
    |false=>
     have HF:Hid (ws.all (Qn (os.map Ob.p))=false):=JG hkl (by simp[Qn,h2]);clear h2;go_wp2;go_ret;exact⟨QA HF.out.symm,hbA⟩
    |true=>
     have hgl:ws[k].1.toNat<os.length:=by omega
     obtain⟨b2,off2,rfl,hbw2,e1,_,_⟩:=ho.get hgl;have f1:=(hbA.cell (p:=⟨b2,off2+ws[k].1.toNat*3,none⟩) hbw2).trans e1;have hix:ws[k].1<(os.length:Int):=by omega
     have HW:Hid (Qn (os.map Ob.p) ws[k]=decide (os[ws[k].1.toNat].k=4)):=by
      show _=_;have h1:=H1.out;simp[Qn,h1,h2,hgl,Ob.p]
     clear h2 e1;by_cases h4:os[ws[k].1.toNat].k=4
     ·have hb4:(os[ws[k].1.toNat].k !=4)=false:=by simp[h4]
      have HR:Hid (∀j (hj:j<ws.length),j<k+1→Qn (os.map Ob.p) ws[j]=true):=J8 HA.out hkl (by rw[HW.out];simp[h4]);clear h4;go_wp2;go_roundw
      case rel=>exact⟨k+1,by omega,by go_num,hbA,hboxA,hszA,HR.out⟩
      case measure=>simp[intOf];omega
     ·have hb4:(os[ws[k].1.toNat].k !=4)=true:=by simp[h4]
      have HF:Hid (ws.all (Qn (os.map Ob.p))=false):=JG hkl (by rw[HW.out];simp[h4]);clear h4;go_wp2;go_ret;exact⟨QA HF.out.symm,hbA⟩
  ·have HF:Hid (ws.all (Qn (os.map Ob.p))=true):=Yh (fun i hi=>hall i hi (by omega));clear hall;go_wp2;go_ret;exact⟨QA HF.out.symm,hb⟩
theorem Y8 {α:Type}{xs ys:List α}{k:Nat}(h:xs.take k=ys.take k)(hx:k<xs.length)(hy:k<ys.length)(he:xs[k]=ys[k]):xs.take (k+1)=ys.take (k+1):=by
 rw[QhX hx,QhX hy,h,he]
theorem Y7 {α:Type}{xs ys:List α}{k:Nat}(h:xs.take k=ys.take k)(hx:xs.length≤k)(hy:ys.length≤k):xs=ys:=by
 rwa[QhY hx,QhY hy]at h
theorem YX {α:Type}{xs ys:List α}{k:Nat}(hx:k<xs.length)(hy:k<ys.length)(h:xs[k]≠ys[k]):xs≠ys:=fun e=>by subst e;exact h rfl
def Hp.cs (h:Hp):List Value:=[.slice h.oa h.os.length h.ocap,.slice h.ra h.rs.length h.rcap,.slice h.wa h.ws.length h.wcap,.slice h.da h.ds.length h.dcap]
theorem Pm {h:Hp}(hx:60<h.os.length∨8<h.rs.length∨20<h.ws.length+h.ds.length):okP h.p=false:=by
 have:(decide (h.p.1.length≤60)&&decide (h.p.2.1.length≤8)&&decide (h.p.2.2.1.length+h.p.2.2.2.length≤20))=false:=by
  simp only[Hp.p,List.length_map];rcases hx with hx|hx|hx
  ·simp[show ¬h.os.length≤60 by omega]
  ·simp[show ¬h.rs.length≤8 by omega]
  ·simp[show ¬h.ws.length+h.ds.length≤20 by omega]
 unfold okP;rw[this];rfl
theorem VL {h:Hp}(h1:h.os.length≤60)(h2:h.rs.length≤8)(h3:h.ws.length+h.ds.length≤20):
 okP h.p=(h.os.all (fun o=>Qt h.os.length o.p)&&(Q2 h.os.length h.rs&&(h.ws.all (Qn (h.os.map Ob.p))&&h.ds.all (Qn (h.os.map Ob.p))))):=by
 simp[okP,Hp.p,h1,h2,h3,List.all_map,Function.comp_def]
theorem Y5 (h:Hp)(w:World)(hh:Qj w h)(hs:ZV h)(ht:∀i (hi:i<h.os.length),h.os[i].t.size≤maxLen):
 Calls Cut.prog 12 #[h.v] w fun e w'=>e=.returned (.bool (okP h.p))∧Below w.heap.size w w':=by
 have hbig:=@Pm h;have hsmall:=@VL h;generalize okP h.p=OK at hbig hsmall⊢;obtain⟨oa,ocap,os,ra,rcap,rs,wa,wcap,ws,da,dcap,ds⟩:=h;obtain⟨ho,hr,hw,hd⟩:=hh;obtain⟨so,soo,sr,sw,sd⟩:=hs;simp only[Hp.v]at *;have Hbig:Hid (60<os.length∨8<rs.length∨20<ws.length+ds.length→OK=false):=hbig;clear hbig;by_cases g1:60<os.length
 ·have HO:Hid (OK=false):=Hbig.out (Or.inl g1);clear Hbig hsmall;go_enter (Cut.func_of Tryz.func12 rfl),Tryz.ntmps12;go_wp2;go_ret;exact⟨QA HO.out.symm,(Below.refl _ _).alloc (QhR _) _⟩
 by_cases g2:8<rs.length
 ·have HO:Hid (OK=false):=Hbig.out (Or.inr (Or.inl g2));clear Hbig hsmall;go_enter (Cut.func_of Tryz.func12 rfl),Tryz.ntmps12;go_wp2;go_ret;exact⟨QA HO.out.symm,(Below.refl _ _).alloc (QhR _) _⟩
 by_cases g3:20<ws.length+ds.length
 ·have HO:Hid (OK=false):=Hbig.out (Or.inr (Or.inr g3));have g3':(20:Int)<(ws.length:Int)+(ds.length:Int):=by omega
  clear Hbig hsmall;go_enter (Cut.func_of Tryz.func12 rfl),Tryz.ntmps12;go_wp2;go_ret;exact⟨QA HO.out.symm,(Below.refl _ _).alloc (QhR _) _⟩
 have HO:Hid (OK=(os.all (fun o=>Qt os.length o.p)&&(Q2 os.length rs&&(ws.all (Qn (os.map Ob.p))&&ds.all (Qn (os.map Ob.p)))))):=hsmall (by omega) (by omega) (by omega);clear hsmall Hbig;have k1:decide ((60:Int)<(os.length:Int))=false:=by simp;omega
 have k2:decide ((8:Int)<(rs.length:Int))=false:=by simp;omega
 have k3:decide ((20:Int)<(ws.length:Int)+(ds.length:Int))=false:=by simp;omega
 go_enter (Cut.func_of Tryz.func12 rfl),Tryz.ntmps12;go_wp2;have hB0:Below w.heap.size w (w.alloc (Obj.cells #[QhS oa os.length ocap,QhS ra rs.length rcap,QhS wa ws.length wcap,QhS da ds.length dcap] 27)):=(Below.refl _ _).alloc (QhR _) _;have hK0:Blk (w.alloc (Obj.cells #[QhS oa os.length ocap,QhS ra rs.length rcap,QhS wa ws.length wcap,QhS da ds.length dcap] 27)) w.heap.size [QhS oa os.length ocap,QhS ra rs.length rcap,QhS wa ws.length wcap,QhS da ds.length dcap] 27:=Blk.new w _ _;go_loopw [3] (fun i wr=>∃k:Nat,k≤os.length∧i=.int .i64 k∧Below w.heap.size w wr∧Blk wr w.heap.size [QhS oa os.length ocap,QhS ra rs.length rcap,QhS wa ws.length wcap,QhS da ds.length dcap] 27∧∀j (hj:j<os.length),j<k→Qt os.length os[j].p=true) (fun i _=>os.length-(intOf i).toNat)
 case atStart=>exact⟨0,QhU _,rfl,hB0,hK0,fun j _ h=>by omega⟩
 case round=>
  obtain⟨k,hk,rfl,hb,hblk,hall⟩:=hrel;clear hB0 hK0;have c0:=hblk.cell 0;have c1:=hblk.cell 1;have c2:=hblk.cell 2;have c3:=hblk.cell 3;simp only[QhV,QhW]at c0 c1 c2 c3;have hsz:=hblk.lt;by_cases hlt:k<os.length
  ·have HA:Hid (∀j (hj:j<os.length),j<k→Qt os.length os[j].p=true):=hall;clear hall;have hrl:os[k].r.length≤maxLen:=by have:=soo k hlt;unfold maxLen;omega
   have htl:=ht k hlt;have s1:=((ho.2 k hlt).below hb (QhR _)).below (Below.refl wr.heap.size wr).drew (QhR _);obtain⟨b,off,rfl,hbw,e1,e2,e3⟩:=ho.get hlt;have d1:=(hb.cell (p:=⟨b,off+k*3,none⟩) hbw).trans e1;have d2:=(hb.cell (p:=⟨b,off+k*3+1,none⟩) hbw).trans e2;have d3:=(hb.cell (p:=⟨b,off+k*3+2,none⟩) hbw).trans e3;have hi1:(k:Int)<(os.length:Int):=by omega
   clear e1 e2 e3;go_wp2_with fail;go_region_with (go_at_call 41;refine(Qab _ _ _ _ _ os[k].r _ _ rfl hrl htl s1 (by omega) (by omega)).mono ?_;rintro e w' ⟨rfl,hbx⟩)
   all_goals
    have hbb:=hb.drew.trans (hbx.mono hb.drew.size);have hblk1:=(hblk.below (Below.refl wr.heap.size wr).drew hsz).below hbx hsz;clear hbx d1 d2 d3 s1 c0 c1 c2 c3
    cases hob:Qt os.length (os[k].k,os[k].t,os[k].r)with
    |false=>
     have HF:Hid (OK=false):=by
      show OK=false;rw[HO.out,JG (f:=fun o=>Qt os.length o.p) hlt hob];rfl
     clear hob;go_wp2;go_ret;exact⟨QA HF.out.symm,hbb⟩
    |true=>
     have HR:Hid (∀j (hj:j<os.length),j<k+1→Qt os.length os[j].p=true):=J8 (f:=fun(o:Ob)=>Qt os.length o.p) HA.out hlt hob;clear hob;go_wp2;go_roundw
     case rel=>exact⟨k+1,by omega,by go_num,hbb,hblk1,HR.out⟩
     case measure=>simp[intOf];omega
  ·have HO1:Hid (OK=(Q2 os.length rs&&(ws.all (Qn (os.map Ob.p))&&ds.all (Qn (os.map Ob.p))))):=by
    show OK=_;rw[HO.out,Yh (f:=fun o=>Qt os.length o.p) (fun i hi=>hall i hi (by omega)),Bool.true_and]
   have hnk:decide ((k:Int)<(os.length:Int))=false:=by simp;omega
   clear hall HO;obtain⟨wo,rfl⟩:∃wo:World,wo=wr:=⟨_,rfl⟩;go_wp2;go_loopw [4] (fun i wr=>∃k:Nat,k≤rs.length∧i=.int .i64 k∧Below w.heap.size w wr∧Blk wr w.heap.size [QhS oa os.length ocap,QhS ra rs.length rcap,QhS wa ws.length wcap,QhS da ds.length dcap] 27∧∀j (hj:j<rs.length),j<k→inB rs[j] (-1) (os.length-1)=true) (fun i _=>rs.length-(intOf i).toNat)
   case atStart=>exact⟨0,QhU _,rfl,hb,hblk,fun j _ h=>by omega⟩
   case round=>
    obtain⟨m,hm,rfl,hb,hblk,hall⟩:=hrel;have c0:=hblk.cell 0;have c1:=hblk.cell 1;have c2:=hblk.cell 2;have c3:=hblk.cell 3;simp only[QhV,QhW]at c0 c1 c2 c3;have hsz:=hblk.lt;by_cases hlt:m<rs.length
    ·have HA:Hid (∀j (hj:j<rs.length),j<m→inB rs[j] (-1) (os.length-1)=true):=hall;clear hall;obtain⟨b,off,rfl,hbw,e1⟩:=hr.get hlt;have d1:=(hb.cell (p:=⟨b,off+m,none⟩) hbw).trans e1;have hi1:(m:Int)<(rs.length:Int):=by omega
     clear e1;go_wp2_with fail;go_quiet ((go_at_call 42;exact Calls.quiet_of_same (Ym _ _ _ _)));have hbb:=ZX hb nq;have hblk1:=hblk.below (ZX (Below.refl wr.heap.size wr) nq) hsz
     cases hob:inB rs[m] (-1) ((os.length:Int)-1)with
     |false=>
      have HF:Hid (OK=false):=by
       show OK=false;rw[HO1.out];simp only[Q2];rw[JG (f:=fun z=>inB z (-1) ((os.length:Int)-1)) hlt hob];rfl
      clear hob;go_wp2;go_ret;exact⟨QA HF.out.symm,hbb⟩
     |true=>
      have HR:Hid (∀j (hj:j<rs.length),j<m+1→inB rs[j] (-1) (os.length-1)=true):=J8 (f:=fun z=>inB z (-1) ((os.length:Int)-1)) HA.out hlt hob;clear hob;go_wp2;go_roundw
      case rel=>exact⟨m+1,by omega,by go_num,hbb,hblk1,HR.out⟩
      case measure=>simp[intOf];omega
    ·have HO2:Hid (OK=(ws.all (Qn (os.map Ob.p))&&ds.all (Qn (os.map Ob.p)))):=by
      show OK=_;rw[HO1.out];simp only[Q2];rw[Yh (f:=fun z=>inB z (-1) ((os.length:Int)-1)) (fun i hi=>hall i hi (by omega)),Bool.true_and]
     have hnm:decide ((m:Int)<(rs.length:Int))=false:=by simp;omega
     clear hall HO1;go_wp2_with fail;have kw:=Qac ⟨oa,ocap,os,ra,rcap,rs,wa,wcap,ws,da,dcap,ds⟩ wa ws.length wcap ws wr rfl (by unfold maxLen;omega) ⟨ho.below hb (QhR _),hr.below hb (QhR _),hw.below hb (QhR _),hd.below hb (QhR _)⟩ so (hw.below hb (QhR _));simp only[Hp.v]at kw;refine kw.mono ?_;rintro e w1 ⟨rfl,hb1⟩;have hbb:=hb.trans (hb1.mono hb.size);have hblk1:=hblk.below hb1 hsz;clear kw c0 c1 c2 c3;have c0:=hblk1.cell 0;have c1:=hblk1.cell 1;have c2:=hblk1.cell 2;have c3:=hblk1.cell 3;simp only[QhV,QhW]at c0 c1 c2 c3
     cases hob:ws.all (Qn (os.map Ob.p))with
     |false=>
      have HF:Hid (OK=false):=by
       show OK=false;rw[HO2.out,hob];rfl
      clear hob;go_wp2;go_ret;exact⟨QA HF.out.symm,hbb⟩
     |true=>
      have HF:Hid (OK=ds.all (Qn (os.map Ob.p))):=by
       show OK=_;rw[HO2.out,hob,Bool.true_and]
      clear hob;go_wp2_with fail;have kw:=Qac ⟨oa,ocap,os,ra,rcap,rs,wa,wcap,ws,da,dcap,ds⟩ da ds.length dcap ds w1 rfl (by unfold maxLen;omega) ⟨ho.below hbb (QhR _),hr.below hbb (QhR _),hw.below hbb (QhR _),hd.below hbb (QhR _)⟩ so (hd.below hbb (QhR _));simp only[Hp.v]at kw;refine kw.mono ?_;rintro e w2 ⟨rfl,hb2⟩;have hb3:=hbb.trans (hb2.mono hbb.size);clear kw;go_wp2;go_ret;exact⟨QA HF.out.symm,hb3⟩
end
end Go.Proofs.YtcpnkpogebjieaaGreat
