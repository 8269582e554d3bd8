/- The program's own looking the same: of each object, where it is in a list. -/
import Derived.Test.YtcpnkpogebjieaaGreatS16Sr1
import Derived.Test.YtcpnkpogebjieaaGreatS10Vc
import Derived.Test.YtcpnkpogebjieaaGreatS06Zs
open Go.Value renaming int→QhR,slice→QhS,string→QhW
open Nat renaming le_refl→QhT,le_trans→QhV
open List renaming getElem?_eq_getElem→QhU,getElem_map→QhX,getElem_append_left→QhY,length_map→QhZ
set_option maxHeartbeats 1600000
set_option maxRecDepth 100000
namespace Go.Proofs.YtcpnkpogebjieaaGreat
section
open Go.RowKit
theorem QbQ (n:Nat)(X:List Int)(xa:Option Addr)(xcap:Nat)(w:World)(hn:n≤60)(hx:Qi w xa X)(hp:Qr n X):
 Calls Cut.prog 97 #[.slice xa X.length xcap,.int .i64 n] w fun e w'=>∃g,e=.returned (.slice (some ⟨g,0,none⟩) n n)∧Blk w' g ((whs X n).map (QhR .i64)) 3∧w.heap.size≤g∧Below w.heap.size w w':=by
 have hA:Below w.heap.size w (w.alloc (Obj.cells #[QhR .i64 (-1)] 3)):=(Below.refl _ _).alloc (QhT _) _;have c1:=Qgf (-1) w.heap.size 0 n (w.alloc (Obj.cells #[QhR .i64 (-1)] 3)) hn ((Blk.new w [QhR .i64 (-1)] 3).cell 0) (by simp);have hXl:=hp.len;go_enter (Cut.func_of Tryz.func97 rfl),Tryz.ntmps97;go_wp2_with fail;refine c1.mono ?_;rintro e w1 ⟨g,rfl,hK1,hg1,hb1⟩;have hgw:w.heap.size≤g:=QhV (by simp) hg1;have hB1:=hA.trans (hb1.mono hA.size)
 have hK2:Blk w1 g ((whs (X.take 0) n).map (QhR .i64)) 3:=by
  have:(whs (X.take 0) n).map (QhR .i64)=List.replicate n (QhR .i64 (-1)):=by
   rw[List.take_zero,QbR];simp
  rw[this];exact hK1
 clear c1 hA hb1 hK1 hg1;go_wp2;go_loopw [6,7,13] (fun _ _ i wr=>∃k:Nat,k≤X.length∧i=.int .i64 k∧Blk wr g ((whs (X.take k) n).map (QhR .i64)) 3∧Below w.heap.size w wr) (fun _ _ i _=>X.length-(intOf i).toNat)
 case atStart=>exact⟨0,Nat.zero_le _,rfl,hK2,hB1⟩
 case round=>
  obtain⟨k,hk,rfl,hK,hb⟩:=hrel;clear hK2 hB1;by_cases hlt:k<X.length
  ·obtain⟨b,off,rfl,hbw,e1⟩:=hx.get hlt;have d1:=(hb.cell (p:=⟨b,off+k,none⟩) hbw).trans e1;have hz:=hp.rng X[k] (List.getElem_mem hlt);have hnd:=QfI hp.nd hlt
   have HK:Hid (Blk (wr.setCell ⟨g,X[k].toNat,none⟩ (.int .i64 k)) g ((whs (X.take (k+1)) n).map (QhR .i64)) 3):=by
    show Blk _ _ _ _;have h1:=hK.store X[k].toNat (.int .i64 k)
    have h2:(whs (X.take (k+1)) n).map (QhR .i64)=((whs (X.take k) n).map (QhR .i64)).set X[k].toNat (.int .i64 k):=by
     rw[List.take_succ_eq_append_getElem hlt,QbS _ _ _ hnd hz.1,List.map_set,List.length_take,Nat.min_eq_left (by omega)]
    rw[h2];exact h1
   have hfz:=hK.free X[k].toNat;have hzl:X[k].toNat<((whs (X.take k) n).map (QhR .i64)).length:=by rw[QhZ,Yd];omega
   obtain⟨v,hv⟩:∃v,wr.cell? ⟨g,X[k].toNat,none⟩=some v:=⟨_,(hK.cell _).trans (QhU hzl)⟩;have hsb:=hb.setCell (p:=⟨g,X[k].toNat,none⟩) hgw (.int .i64 k);obtain⟨hz0,hz1⟩:=hz;clear e1 hnd hK hzl;go_wp2;go_roundw
   case rel=>exact⟨k+1,by omega,by go_num,HK.out,hsb⟩
   case measure=>simp[intOf];omega
  ·have ek:X.take k=X:=List.take_of_length_le (by omega);rw[ek]at hK;clear ek;go_wp2;go_ret;exact⟨_,rfl,hK,hgw,hb⟩
theorem Qgv (a b:Ob)(w:World)(ha:Qi w a.ra a.r)(hb:Qi w b.ra b.r)(hal:a.r.length≤maxLen)(hbl:b.r.length≤maxLen):
 Calls Cut.prog 56 #[.agg #[.int .i64 a.k,.string a.t,.slice a.ra a.r.length a.rcap],.agg #[.int .i64 b.k,.string b.t,.slice b.ra b.r.length b.rcap]] w fun e w'=>∃r:Bool,e=.returned (.bool r)∧(r=true↔a.p=b.p)∧Below w.heap.size w w':=by
 obtain⟨k1,t1,ra1,c1,r1⟩:=a;obtain⟨k2,t2,ra2,c2,r2⟩:=b;simp only[Ob.p]at *;have hB0:Below w.heap.size w ((w.alloc (Obj.cells #[QhR .i64 k1,QhW t1,QhS ra1 r1.length c1] 37)).alloc (Obj.cells #[QhR .i64 k2,QhW t2,QhS ra2 r2.length c2] 37)):=((Below.refl _ w).alloc (QhT _) _).alloc (by simp) _;by_cases hk:k1=k2
 ·subst hk;by_cases ht:t1=t2
  ·subst ht;have c1:=OU ra1 ra2 r1.length r2.length c1 c2 r1 r2 _ rfl rfl (ha.below hB0 (QhT _)) (hb.below hB0 (QhT _)) hal hbl;go_enter (Cut.func_of Tryz.func56 rfl),Tryz.ntmps56;go_wp2_with fail;refine c1.mono ?_;rintro e w1 ⟨rfl,hb1⟩;have hB1:=hB0.trans (hb1.mono hB0.size);clear c1 hb1 hB0;go_wp2;go_ret;exact⟨_,rfl,by simp,hB1⟩
  ·have h1:(t1.toList ==t2.toList)=false:=by
    rw[beq_eq_false_iff_ne];exact fun e=>ht (Oc e)
   go_enter (Cut.func_of Tryz.func56 rfl),Tryz.ntmps56;go_wp2;go_ret;exact⟨_,rfl,by simp[ht],hB0⟩
 ·have hne:(k1 ==k2)=false:=by simp[hk]
  go_enter (Cut.func_of Tryz.func56 rfl),Tryz.ntmps56;go_wp2;go_ret;exact⟨_,rfl,by simp[hk],hB0⟩
theorem Qd4 (a b:Option Addr)(ca cb:Nat)(xs ys:List Ob)(w:World)(hx:ZE w a xs)(hy:ZE w b ys)(hn1:xs.length≤1048576)(hxl:∀i (hi:i<xs.length),xs[i].r.length≤maxLen)(hyl:∀i (hi:i<ys.length),ys[i].r.length≤maxLen):
 Calls Cut.prog 55 #[.slice a xs.length ca,.slice b ys.length cb,.func (.func 56) #[] #[]] w fun e w'=>∃r:Bool,e=.returned (.bool r)∧(r=true↔xs.map Ob.p=ys.map Ob.p)∧Below w.heap.size w w':=by
 by_cases hl:xs.length=ys.length
 ·have hne:((xs.length:Int)!=(ys.length:Int))=false:=by simp[hl]
  have HL:Hid (xs.length=ys.length):=hl;clear hl;go_enter (Cut.func_of Tryz.func55 rfl),Tryz.ntmps55;go_wp2;go_loopw [7,8,9,17] (fun _ _ _ i wr=>∃k:Nat,k≤xs.length∧i=.int .i64 k∧(xs.map Ob.p).take k=(ys.map Ob.p).take k∧Below w.heap.size w wr) (fun _ _ _ i _=>xs.length-(intOf i).toNat)
  case atStart=>exact⟨0,Nat.zero_le _,rfl,rfl,Below.refl _ _⟩
  case round=>
   obtain⟨k,hk,rfl,htk,hb⟩:=hrel;have HT:Hid ((xs.map Ob.p).take k=(ys.map Ob.p).take k):=htk;clear htk;by_cases hlt:k<xs.length
   ·have hky:k<ys.length:=by have:=HL.out;omega
    have hkm1:k<(xs.map Ob.p).length:=by simpa using hlt
    have hkm2:k<(ys.map Ob.p).length:=by simpa using hky
    obtain⟨b1,o1,rfl,hb1,e1,e2,e3⟩:=hx.get hlt;obtain⟨b2,o2,rfl,hb2,f1,f2,f3⟩:=hy.get hky;have d1:=(hb.cell (p:=⟨b1,o1+k*3,none⟩) hb1).trans e1;have d2:=(hb.cell (p:=⟨b1,o1+k*3+1,none⟩) hb1).trans e2;have d3:=(hb.cell (p:=⟨b1,o1+k*3+2,none⟩) hb1).trans e3;have hA:Below wr.heap.size wr (wr.alloc (Obj.cells #[QhR .i64 xs[k].k,QhW xs[k].t,QhS xs[k].ra xs[k].r.length xs[k].rcap] 37)):=(Below.refl _ _).alloc (QhT _) _;have hbA:=hb.trans (hA.mono hb.size);have d4:=(hbA.cell (p:=⟨b2,o2+k*3,none⟩) hb2).trans f1;have d5:=(hbA.cell (p:=⟨b2,o2+k*3+1,none⟩) hb2).trans f2;have d6:=(hbA.cell (p:=⟨b2,o2+k*3+2,none⟩) hb2).trans f3;have hA2:=hbA.alloc hbA.size (Obj.cells #[QhR .i64 ys[k].k,QhW ys[k].t,QhS ys[k].ra ys[k].r.length ys[k].rcap] 37);have hi1:(k:Int)<(xs.length:Int):=by omega
    have hi2:(k:Int)<(ys.length:Int):=by omega
    have c1:=Qgv xs[k] ys[k] _ ((hx.2 _ hlt).below hA2 (QhT _)) ((hy.2 _ hky).below hA2 (QhT _)) (hxl _ hlt) (hyl _ hky);clear e1 e2 e3 f1 f2 f3 hA hbA;go_wp2_with fail;refine c1.mono ?_;rintro e w1 ⟨r,rfl,hr,hbr⟩;have HR:Hid (r=true↔xs[k].p=ys[k].p):=hr;have hB1:=hA2.trans (hbr.mono hA2.size);clear c1 hr hbr hA2 d1 d2 d3 d4 d5 d6
    cases r with
    |false=>
     have HF:Hid (¬xs.map Ob.p=ys.map Ob.p):=fun h=>by
      refine YX hkm1 hkm2 ?_ h;rw[QhX,QhX];intro e;have:=HR.out.2 e;simp at this
     go_wp2;go_ret;exact⟨_,rfl,by simp[HF.out],hB1⟩
    |true=>
     have HE:Hid ((xs.map Ob.p)[k]=(ys.map Ob.p)[k]):=by
      show _=_;rw[QhX,QhX];exact HR.out.1 rfl
     go_wp2;go_roundw
     case rel=>exact⟨k+1,by omega,by go_num,Y8 HT.out hkm1 hkm2 HE.out,hB1⟩
     case measure=>simp[intOf];omega
   ·have HE:Hid (xs.map Ob.p=ys.map Ob.p):=Y7 HT.out (by rw[QhZ];omega) (by rw[QhZ];have:=HL.out;omega);go_wp2;go_ret;exact⟨_,rfl,by simp[HE.out],hb⟩
 ·have hne:((xs.length:Int)!=(ys.length:Int))=true:=by simp;omega
  have HF:Hid (¬xs.map Ob.p=ys.map Ob.p):=fun h=>hl (VH h);clear hl;go_enter (Cut.func_of Tryz.func55 rfl),Tryz.ntmps55;go_wp2;go_ret;exact⟨_,rfl,by simp[HF.out],Below.refl _ _⟩
theorem ZB {w:World}{base e size n k:Nat}{v:Value}{xs:List Value}(h:w.ownsRow base e size v n xs)(hk:v.ownBlock=some k):∃cur,w.heap[k]? =some (.cells cur e (0,0)):=by
 rcases h.2 with⟨h1,_⟩|⟨g,cap,cur,h1,_,hh,_⟩
 ·rw[h1]at hk;simp[Value.ownBlock]at hk
 ·rw[h1]at hk;simp[Value.ownBlock]at hk;subst hk;exact⟨cur,hh⟩
theorem UB {w:World}{base e size n base' e' size' n':Nat}{v v':Value}{xs xs':List Value}(h:w.ownsRow base e size v n xs)(h':w.ownsRow base' e' size' v' n' xs')(he:e≠e'):v.ownBlock=none∨v.ownBlock≠v'.ownBlock:=by
 cases hk:v.ownBlock with
 |none=>exact Or.inl rfl
 |some k=>
  refine Or.inr fun e1=>?_;obtain⟨c1,q1⟩:=ZB h hk;obtain⟨c2,q2⟩:=ZB h' e1.symm;rw[q1]at q2;simp at q2;exact he q2.2
theorem Qs {w:World}{base e size n B t:Nat}{v:Value}{xs cs:List Value}(h:w.ownsRow base e size v n xs)(hb:Blk w B cs t)(ht:t≠e):v.ownBlock≠some B:=by
 intro hk;obtain⟨c1,q1⟩:=ZB h hk;unfold Blk at hb;rw[hb]at q1;simp at q1;exact ht q1.2
def Qw (w:World)(base:Nat)(v:Value)(l:List Ob):Prop:=w.ownsRow base 37 3 v l.length (l.flatMap Ob.cs)
theorem Qw.lt {w:World}{base:Nat}{v:Value}{l:List Ob}(h:Qw w base v l):∀k,v.ownBlock=some k→base≤k∧k<w.heap.size:=World.ownsRow.lt h
theorem Qw.below {w w':World}{base B:Nat}{v:Value}{l:List Ob}(h:Qw w base v l)(hb:Below B w w')(hB:w.heap.size≤B):Qw w' base v l:=by
 refine World.ownsRow.kept h (Jd hb hB none) ?_
 cases e:v.ownBlock with
 |none=>exact Or.inl rfl
 |some k=>exact Or.inr (by simp)
theorem Qw.form {w:World}{base:Nat}{v:Value}{l:List Ob}(h:Qw w base v l):∃a cap,v=.slice a l.length cap∧(l.length≤cap∧cap≤maxLen)∧((∀i (hi:i<l.length),Qi w l[i].ra l[i].r)→ZE w a l):=by
 rcases h.2 with⟨h1,h2⟩|⟨g,cap,cur,h1,hg,hh,hn,hc,hs,htake⟩
 ·refine⟨none,0,by rw[h1,h2],⟨by omega,Nat.zero_le _⟩,fun hr=>⟨fun hm=>by omega,hr⟩⟩
 ·refine⟨some ⟨g,0,none⟩,cap,h1,⟨hn,hc⟩,fun hr=>⟨fun hm=>⟨g,0,rfl,lt_of_block hh,fun i hi=>?_⟩,hr⟩⟩;have h':w.ownsRow base 37 3 (.slice (some ⟨g,0,none⟩) l.length cap) l.length (l.flatMap Ob.cs):=by rw[←h1];exact h
  have g0:=JE Ob.cs 3 (fun _=>rfl) l i 0 hi (by omega);have g1:=JE Ob.cs 3 (fun _=>rfl) l i 1 hi (by omega);have g2:=JE Ob.cs 3 (fun _=>rfl) l i 2 hi (by omega);have el:l.getD i Ob.zero=l[i]:=by simp[List.getD,QhU hi]
  refine⟨?_,?_,?_⟩
  ·rw[Nat.zero_add,UZ h' _ (by omega)];simpa[Ob.cs,el,QhU hi]using g0
  ·rw[Nat.zero_add,UZ h' _ (by omega)];simpa[Ob.cs,el,QhU hi]using g1
  ·rw[Nat.zero_add,UZ h' _ (by omega)];simpa[Ob.cs,el,QhU hi]using g2
def Ob.rv (o:Ob):Value:=.slice o.ra o.r.length o.rcap
structure QN (w:World) (base:Nat) (l:List Ob):Prop where
 own:∀i (hi:i<l.length),Qa w base l[i].rv l[i].r
 inc:∀i j (hi:i<l.length) (hj:j<l.length),i<j→∀a b,l[i].rv.ownBlock=some a→l[j].rv.ownBlock=some b→a<b
theorem QN.nil (w:World)(base:Nat):QN w base []:=⟨fun i hi=>by simp at hi,fun i j hi=>by simp at hi⟩
theorem QN.below {w w':World}{base B:Nat}{l:List Ob}(h:QN w base l)(hb:Below B w w')(hB:w.heap.size≤B):QN w' base l:=⟨fun i hi=>(h.own i hi).below hb hB,h.inc⟩
theorem QN.grown {w w':World}{base base' e size n:Nat}{l:List Ob}{v:Value}{xs:List Value}(h:QN w base l)(hv:w.ownsRow base' e size v n xs)(he:e≠3)(hg:w.grownBy w' v.ownBlock):QN w' base l:=
 ⟨fun i hi=>(h.own i hi).kept hg (UB (h.own i hi) hv (fun q=>he q.symm)),h.inc⟩
theorem QN.set {w:World}{base B t:Nat}{l:List Ob}{cs:List Value}(h:QN w base l)(hb:Blk w B cs t)(ht:t≠3)(j:Nat)(u:Value):QN (w.setCell ⟨B,j,none⟩ u) base l:=
 ⟨fun i hi=>ownsRow_setCell_other (h.own i hi) (Qs (h.own i hi) hb ht) u,h.inc⟩
theorem QN.snoc {w:World}{base:Nat}{l:List Ob}(h:QN w base l)(o:Ob)(ho:Qa w base o.rv o.r)(hm:∀i (hi:i<l.length) a b,l[i].rv.ownBlock=some a→o.rv.ownBlock=some b→a<b):QN w base (l++ [o]):=by
 refine⟨fun i hi=>?_,fun i j hi hj hij a b ha hb=>?_⟩
 ·by_cases hl:i<l.length
  ·simpa[QhY hl]using h.own i hl
  ·have e:i=l.length:=by simp at hi;omega
   subst e;simpa using ho
 ·by_cases hl:j<l.length
  ·have hli:i<l.length:=by omega
   rw[QhY hli]at ha;rw[QhY hl]at hb;exact h.inc i j hli hl hij a b ha hb
  ·have e:j=l.length:=by simp at hj;omega
   subst e;rw[QhY hij]at ha;simp at hb;exact hm i hij a b ha hb
theorem QN.lt {w:World}{base:Nat}{l:List Ob}(h:QN w base l)(i:Nat)(hi:i<l.length)(a:Nat)(ha:l[i].rv.ownBlock=some a):base≤a∧a<w.heap.size:=(h.own i hi).lt a ha
theorem QN.seg {w:World}{base:Nat}{l:List Ob}(h:QN w base l)(i:Nat)(hi:i<l.length):Qi w l[i].ra l[i].r:=by
 obtain⟨a,cap,e,hs,_⟩:=(h.own i hi).form;simp only[Ob.rv,Value.slice.injEq]at e;rw[e.1];exact hs
theorem Uz {w:World}(o:Ob)(t:TypeId):∀j u,o.cs[j]? =some u→(w.alloc (Obj.cells #[.int .i64 o.k,.string o.t,.slice o.ra o.r.length o.rcap] t)).cell? ((⟨w.heap.size,0,none⟩:Addr).add j)=some u:=
 World.news_of_block (cs:=#[.int .i64 o.k,.string o.t,.slice o.ra o.r.length o.rcap]) (heap_alloc_new w _)
theorem Ob.one (o:Ob):∀u∈o.cs,u.oneCell'=true:=fun u hu=>by
 simp[Ob.cs]at hu;rcases hu with rfl|rfl|rfl<;>rfl
structure Q4 (w:World) (B:Nat) (h:Hp):Prop where
 ob:Qw w B (.slice h.oa h.os.length h.ocap) h.os
 rs:QN w B h.os
 ro:Qa w B (.slice h.ra h.rs.length h.rcap) h.rs
 rlt:∀i (hi:i<h.os.length) a b,h.os[i].rv.ownBlock=some a→(QhS h.ra h.rs.length h.rcap).ownBlock=some b→a<b
 wa:Qe w B (.slice h.wa h.ws.length h.wcap) h.ws
 da:Qe w B (.slice h.da h.ds.length h.dcap) h.ds
 wlt:∀a b,(QhS h.wa h.ws.length h.wcap).ownBlock=some a→(QhS h.da h.ds.length h.dcap).ownBlock=some b→a<b
theorem Q4.isIn {w:World}{B:Nat}{h:Hp}(hh:Q4 w B h):Qj w h:=by
 refine⟨?_,?_,?_,?_⟩
 ·obtain⟨a,cap,e,_,hs⟩:=hh.ob.form;simp only[Value.slice.injEq]at e;rw[e.1];exact hs (fun i hi=>hh.rs.seg i hi)
 ·obtain⟨a,cap,e,hs,_⟩:=hh.ro.form;simp only[Value.slice.injEq]at e;rw[e.1];exact hs
 ·obtain⟨a,cap,e,hs,_⟩:=hh.wa.form;simp only[Value.slice.injEq]at e;rw[e.1];exact hs
 ·obtain⟨a,cap,e,hs,_⟩:=hh.da.form;simp only[Value.slice.injEq]at e;rw[e.1];exact hs
theorem Q4.below {w w':World}{B C:Nat}{h:Hp}(hh:Q4 w B h)(hb:Below C w w')(hC:w.heap.size≤C):Q4 w' B h:=
 ⟨hh.ob.below hb hC,hh.rs.below hb hC,hh.ro.below hb hC,hh.rlt,hh.wa.below hb hC,hh.da.below hb hC,hh.wlt⟩
def Qf (t:Nat)(A C:World):Prop:=∀(k:Nat) (cs:Array Value) (e:Nat),A.heap[k]? =some (.cells cs e (0,0))→e≠t→C.heap[k]? =some (.cells cs e (0,0))
theorem Qf.refl (t:Nat)(A:World):Qf t A A:=fun _ _ _ h _=>h
theorem Qf.trans {t:Nat}{A C D:World}(h:Qf t A C)(h':Qf t C D):Qf t A D:=fun k cs e hk he=>h' k cs e (h k cs e hk he) he
theorem Qf.below {A C:World}{B:Nat}(t:Nat)(hb:Below B A C)(hB:A.heap.size≤B):Qf t A C:=fun k cs e hk _=>by
 rw[hb.block k (Nat.lt_of_lt_of_le (lt_of_block hk) hB)];exact hk
theorem Qf.set {A:World}{B t:Nat}{cs:List Value}(hb:Blk A B cs t)(j:Nat)(u:Value):Qf t A (A.setCell ⟨B,j,none⟩ u):=fun k c e hk he=>by
 have hne:k≠B:=fun q=>by
  subst q;unfold Blk at hb;rw[hb]at hk;simp at hk;exact he hk.2.symm
 rw[Below.heap_setCell _ _ _ _ (by simpa using hne)];exact hk
theorem Qm {A C:World}{base e size n t:Nat}{v:Value}{xs:List Value}(h:A.ownsRow base e size v n xs)(hk:Qf t A C)(he:e≠t):C.ownsRow base e size v n xs:=by
 refine⟨h.1,?_⟩;rcases h.2 with h1|⟨g,cap,cur,h1,hg,hh,r⟩
 ·exact Or.inl h1
 ·exact Or.inr ⟨g,cap,cur,h1,hg,hk g cur e hh he,r⟩
theorem QN.keep {A C:World}{base:Nat}{l:List Ob}(h:QN A base l)(hk:Qf 27 A C):QN C base l:=⟨fun i hi=>Qm (h.own i hi) hk (by decide),h.inc⟩
theorem Q4.keep {A C:World}{B:Nat}{h:Hp}(hh:Q4 A B h)(hk:Qf 27 A C):Q4 C B h:=
 ⟨Qm hh.ob hk (by decide),hh.rs.keep hk,Qm hh.ro hk (by decide),hh.rlt,Qm hh.wa hk (by decide),Qm hh.da hk (by decide),hh.wlt⟩
theorem Qw.base {w:World}{B C:Nat}{v:Value}{l:List Ob}(h:Qw w B v l)(hC:C≤B):Qw w C v l:=by
 refine⟨h.1,?_⟩;rcases h.2 with h1|⟨g,cap,cur,h1,hg,r⟩
 ·exact Or.inl h1
 ·exact Or.inr ⟨g,cap,cur,h1,QhV hC hg,r⟩
theorem Q4.base {w:World}{B C:Nat}{h:Hp}(hh:Q4 w B h)(hC:C≤B):Q4 w C h:=
 ⟨hh.ob.base hC,⟨fun i hi=>(hh.rs.own i hi).base hC,hh.rs.inc⟩,hh.ro.base hC,hh.rlt,hh.wa.base hC,hh.da.base hC,hh.wlt⟩
theorem QR {w:World}{B:Nat}{c0 c1 c2 c3:Value}(hb:Blk w B [c0,c1,c2,c3] 27)(v0 v1 v2 v3:Value):
 Qf 27 w ((((w.setCell ⟨B,0,none⟩ v0).setCell ⟨B,1,none⟩ v1).setCell ⟨B,2,none⟩ v2).setCell ⟨B,3,none⟩ v3)∧Blk ((((w.setCell ⟨B,0,none⟩ v0).setCell ⟨B,1,none⟩ v1).setCell ⟨B,2,none⟩ v2).setCell ⟨B,3,none⟩ v3) B [v0,v1,v2,v3] 27:=by
 have h1:=hb.store 0 v0;have h2:=h1.store 1 v1;have h3:=h2.store 2 v2;have h4:=h3.store 3 v3;exact⟨(((Qf.set hb 0 v0).trans (Qf.set h1 1 v1)).trans (Qf.set h2 2 v2)).trans (Qf.set h3 3 v3),h4⟩
theorem ZS {w W:World}{B C:Nat}(h:Below B w W)(hC:B≤C)(v0 v1 v2 v3:Value):Below B w ((((W.setCell ⟨C,0,none⟩ v0).setCell ⟨C,1,none⟩ v1).setCell ⟨C,2,none⟩ v2).setCell ⟨C,3,none⟩ v3):=
 (((h.setCell (p:=⟨C,0,none⟩) hC v0).setCell (p:=⟨C,1,none⟩) hC v1).setCell (p:=⟨C,2,none⟩) hC v2).setCell (p:=⟨C,3,none⟩) hC v3
def QI (X:List Int)(o:Ob):Int×ByteArray×List Int:=(o.k,o.t,o.r.map (wh X))
def Ob.wk (o:Ob)(k:Int):Ob:=⟨k,o.t,o.ra,o.rcap,o.r⟩
structure ChO (S:Nat→Prop) (w w':World):Prop where
 os:w'.os=w.os
 tape:w'.tape=w.tape
 output:w'.output=w.output
 size:w.heap.size≤w'.heap.size
 block:∀k,k<w.heap.size→¬S k→w'.heap[k]? =w.heap[k]?
theorem ChO.refl (S:Nat→Prop)(w:World):ChO S w w:=⟨rfl,rfl,rfl,QhT _,fun _ _ _=>rfl⟩
theorem ChO.trans {S:Nat→Prop}{a b c:World}(h:ChO S a b)(k:ChO S b c):ChO S a c:=
 ⟨k.os.trans h.os,k.tape.trans h.tape,k.output.trans h.output,QhV h.size k.size,fun i hi hr=>(k.block i (Nat.lt_of_lt_of_le hi h.size) hr).trans (h.block i hi hr)⟩
theorem ChO.gb {S:Nat→Prop}{w w':World}{r:Option Nat}(h:w.grownBy w' r)(hr:∀k,r=some k→S k):ChO S w w':=
 ⟨h.os,h.tape,h.output,h.size,fun k hk hn=>h.block k hk (fun e=>hn (hr k e.symm))⟩
theorem ChO.mono {S T:Nat→Prop}{w w':World}(h:ChO S w w')(hs:∀k,S k→T k):ChO T w w':=⟨h.os,h.tape,h.output,h.size,fun k hk hn=>h.block k hk (fun e=>hn (hs k e))⟩
theorem ChO.below {S:Nat→Prop}{w w':World}{B:Nat}(h:ChO S w w')(hB:B≤w.heap.size)(hS:∀k,S k→B≤k):Below B w w':=
 ⟨h.os,h.tape,h.output,h.size,fun k hk=>h.block k (by omega) (fun e=>by have:=hS k e;omega)⟩
theorem ChO.row {S:Nat→Prop}{w w':World}{base e size n:Nat}{v:Value}{xs:List Value}(h:ChO S w w')(ho:w.ownsRow base e size v n xs)(hn:∀k,v.ownBlock=some k→¬S k):w'.ownsRow base e size v n xs:=by
 refine⟨ho.1,?_⟩;rcases ho.2 with h1|⟨g,cap,cur,h1,hg,hh,r⟩
 ·exact Or.inl h1
 ·exact Or.inr ⟨g,cap,cur,h1,hg,by rw[h.block g (lt_of_block hh) (hn g (by rw[h1];rfl))];exact hh,r⟩
theorem ChO.blk {S:Nat→Prop}{w w':World}{B t:Nat}{cs:List Value}(h:ChO S w w')(hb:Blk w B cs t)(hn:¬S B):Blk w' B cs t:=by
 unfold Blk at *;rw[h.block B (lt_of_block hb) hn];exact hb
theorem QN.mark {w w':World}{base:Nat}{l:List Ob}(h:QN w base l)(j:Nat)(hj:j<l.length)(o:Ob)(hv:o.rv=l[j].rv)(ho:Qa w' base o.rv o.r)(hg:w.grownBy w' l[j].rv.ownBlock):QN w' base (l.set j o):=by
 refine⟨fun i hi=>?_,fun i i' hi hi' hlt a b ha hb=>?_⟩
 ·rw[List.length_set]at hi;rw[List.getElem_set];split
  ·exact ho
  ·rename_i hne;refine(h.own i hi).kept hg ?_
   cases e:l[i].rv.ownBlock with
   |none=>exact Or.inl rfl
   |some a=>
    refine Or.inr fun e2=>?_;rcases Nat.lt_or_gt_of_ne hne with hl|hl
    ·exact absurd (h.inc j i hj hi hl a a e2.symm e) (Nat.lt_irrefl _)
    ·exact absurd (h.inc i j hi hj hl a a e e2.symm) (Nat.lt_irrefl _)
 ·rw[List.length_set]at hi hi'
  have e:∀i (hi:i<l.length) (h2:i<(l.set j o).length),(l.set j o)[i].rv=l[i].rv:=fun i hi h2=>by
   rw[List.getElem_set];split
   ·rename_i e;subst e;exact hv
   ·rfl
  rw[e i hi]at ha;rw[e i' hi']at hb;exact h.inc i i' hi hi' hlt a b ha hb
def YA (y:Hp)(b:Nat):Prop:=(QhS y.oa y.os.length y.ocap).ownBlock=some b∨(∃i,∃h:i<y.os.length,y.os[i].rv.ownBlock=some b)∨(QhS y.ra y.rs.length y.rcap).ownBlock=some b∨(QhS y.wa y.ws.length y.wcap).ownBlock=some b∨(QhS y.da y.ds.length y.dcap).ownBlock=some b
theorem Q4.rows_lt {w:World}{B:Nat}{y:Hp}(h:Q4 w B y):∀b,YA y b→B≤b∧b<w.heap.size:=by
 rintro b (e|⟨i,hi,e⟩|e|e|e)
 ·exact h.ob.lt b e
 ·exact h.rs.lt i hi b e
 ·exact h.ro.lt b e
 ·exact h.wa.lt b e
 ·exact h.da.lt b e
theorem Q4.rows_ty {w:World}{B:Nat}{y:Hp}(h:Q4 w B y):∀b,YA y b→∃cur e,w.heap[b]? =some (.cells cur e (0,0))∧(e=3∨e=37∨e=40):=by
 rintro b (e|⟨i,hi,e⟩|e|e|e)
 ·obtain⟨c,hc⟩:=ZB h.ob e;exact⟨c,_,hc,.inr (.inl rfl)⟩
 ·obtain⟨c,hc⟩:=ZB (h.rs.own i hi) e;exact⟨c,_,hc,.inl rfl⟩
 ·obtain⟨c,hc⟩:=ZB h.ro e;exact⟨c,_,hc,.inl rfl⟩
 ·obtain⟨c,hc⟩:=ZB h.wa e;exact⟨c,_,hc,.inr (.inr rfl)⟩
 ·obtain⟨c,hc⟩:=ZB h.da e;exact⟨c,_,hc,.inr (.inr rfl)⟩
theorem Q4.not_box {w:World}{B b t:Nat}{y:Hp}{cs:List Value}(h:Q4 w B y)(hb:Blk w b cs t)(n1:t≠3)(n2:t≠37)(n3:t≠40):¬YA y b:=fun hr=>by
 obtain⟨cur,e,hc,he⟩:=h.rows_ty b hr;unfold Blk at hb;rw[hb]at hc;simp at hc;rcases he with he|he|he
 ·exact n1 (hc.2.trans he)
 ·exact n2 (hc.2.trans he)
 ·exact n3 (hc.2.trans he)
end
namespace Co
open Go.RowKit
theorem Qj.heap {w w':World}{h:Hp}(hh:Qj w h)(hs:w.heap.size≤w'.heap.size)(ho:∀b,b<w.heap.size→w'.heap[b]? =w.heap[b]?):Qj w' h:=by
 have h1:=hh.below (B:=w.heap.size) (w':={w with heap:=w'.heap}) ⟨rfl,rfl,rfl,hs,ho⟩ (QhT _);exact⟨h1.so,h1.sr,h1.sw,h1.sd⟩
theorem ZZ {w w':World}{N n:Nat}{e:TypeId}{sz:Nat}{v:Value}{xs:List Value}(h:w.ownsRow N e sz v n xs)(ho:∀b,v.ownBlock=some b→w'.heap[b]? =w.heap[b]?):w'.ownsRow N e sz v n xs:=by
 obtain⟨h1,h2|⟨g,cp,cur,h2,h3,h4,h5⟩⟩:=h
 ·exact⟨h1,.inl h2⟩
 ·refine⟨h1,.inr ⟨g,cp,cur,h2,h3,(ho g (by rw[h2];rfl)).trans h4,h5⟩⟩
theorem Ys {w:World}{N N' n:Nat}{e:TypeId}{sz:Nat}{v:Value}{xs:List Value}(h:w.ownsRow N' e sz v n xs)(hN:N≤N'):w.ownsRow N e sz v n xs:=by
 obtain⟨h1,h2|⟨g,cp,cur,h2,h3,h4,h5⟩⟩:=h
 ·exact⟨h1,.inl h2⟩
 ·exact⟨h1,.inr ⟨g,cp,cur,h2,QhV hN h3,h4,h5⟩⟩
def Hp.cells (y:Hp):List Value:=[QhS y.oa y.os.length y.ocap,QhS y.ra y.rs.length y.rcap,QhS y.wa y.ws.length y.wcap,QhS y.da y.ds.length y.dcap]
def JQ (R Rr:Act→World→Prop):Exit→Act→World→Prop
 | .normal,a,w=>R a w
 | .ret,a,w=>Rr a w
 |_,_,_=>False
theorem _root_.Go.Proofs.YtcpnkpogebjieaaGreat.Q4.same {w w':World}{B:Nat}{y:Hp}(h:Q4 w B y)(hs:∀b,YA y b→w'.heap[b]? =w.heap[b]?):Q4 w' B y:=
 ⟨ZZ h.ob fun b hb=>hs b (.inl hb),⟨fun i hi=>ZZ (h.rs.own i hi) fun b hb=>hs b (.inr (.inl ⟨i,hi,hb⟩)),h.rs.inc⟩,ZZ h.ro fun b hb=>hs b (.inr (.inr (.inl hb))),h.rlt,
   ZZ h.wa fun b hb=>hs b (.inr (.inr (.inr (.inl hb)))),ZZ h.da fun b hb=>hs b (.inr (.inr (.inr (.inr hb)))),h.wlt⟩
def chain (P:Program)(R:Code→Act→World→Prop)(Rr:Act→World→Prop):Nat→Code→Act→World→Prop
 |0,c,a,w=>R c a w
 |n+1,.seq s c,a,w=>s.wp P (JQ (fun a w=>chain P R Rr n c a w) Rr) a w
 |_+1,_,_,_=>False
theorem Vn {P:Program}{R R':Code→Act→World→Prop}{Rr Rr':Act→World→Prop}:∀ {n:Nat} {c:Code} {a:Act} {w:World},chain P R Rr n c a w→(∀c a w,R c a w→R' c a w)→(∀a w,Rr a w→Rr' a w)→chain P R' Rr' n c a w
 |0,c,a,w,h,h1,_=>h1 c a w h
 |n+1,c,a,w,h,h1,h2=>by
  cases c with
  |seq s c=>
   refine wp_mono (show s.wp P (JQ (fun a w=>chain P R Rr n c a w) Rr) a w from h) fun e a w hq=>?_
   cases e with
   |normal=>exact Vn hq h1 h2
   |ret=>exact h2 a w hq
   |_=>exact hq.elim
  |_=>exact h.elim
theorem Oe {P:Program}{R:Code→Act→World→Prop}{Rr:Act→World→Prop}{b:Frame}{k:List Item}{cs:List Frame}:∀(n:Nat) (c:Code) (a:Act) (w:World),chain P R Rr n c a w→
 (∃c' a' w',Steps P (lone (b.at a (.code c::k)) cs w) (lone (b.at a' (.code c'::k)) cs w')∧R c' a' w')∨∃a' todo w',Steps P (lone (b.at a (.code c::k)) cs w) (lone {b.at a' todo with mode:=.returning} cs w')∧Rr a' w'
 |0,c,a,w,h=>.inl ⟨c,a,w,Steps.refl _ _,h⟩
 |n+1,c,a,w,h=>by
  cases c with
  |seq s c=>
   have h1:Steps P (lone (b.at a (.code (.seq s c)::k)) cs w) (lone (b.at a (.code s:: .code c::k)) cs w):=.one step_seq;obtain⟨e,a',w',hq,ha⟩:=(show s.wp P (JQ (fun a w=>chain P R Rr n c a w) Rr) a w from h) b (.code c::k) cs
   cases e with
   |normal=>
    rcases Oe n c a' w' hq with⟨c',a2,w2,h3,h4⟩|⟨a2,todo,w2,h3,h4⟩
    ·exact .inl ⟨c',a2,w2,(h1.trans ha).trans h3,h4⟩
    ·exact .inr ⟨a2,todo,w2,(h1.trans ha).trans h3,h4⟩
   |ret=>
    obtain⟨todo,hst⟩:=ha;exact .inr ⟨a',todo,w',h1.trans hst,hq⟩
   |_=>exact hq.elim
  |_=>exact h.elim
end Co
end Go.Proofs.YtcpnkpogebjieaaGreat
