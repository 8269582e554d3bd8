/- The law's own search: all that it comes to is what MemReach tells. -/
import Derived.Test.YtcpnkpogebjieaaGreatS38Va
import Derived.Test.YtcpnkpogebjieaaGreatS51Ew
import Derived.Test.YtcpnkpogebjieaaGreatS43Jc0
import Derived.Test.YtcpnkpogebjieaaGreatS17Ca
import Derived.Test.YtcpnkpogebjieaaGreatS12SpecOk4
import Derived.Test.YtcpnkpogebjieaaGreatS28Lo
import Derived.Test.YtcpnkpogebjieaaGreatS50El
open Go.Value renaming slice→QhR,int→QhT
open Go.Obj renaming cells→QhS
open Nat renaming le_refl→QhU,zero_le→QhV
open List renaming getElem?_eq_getElem→QhW,getElem?_cons_zero→QhX,getElem?_cons_succ→QhY
set_option maxHeartbeats 4000000
set_option maxRecDepth 100000
namespace Go.Proofs.YtcpnkpogebjieaaGreat
section
open Go.RowKit
def DR (h:Hp)(i j:Nat)(s:Int):Prop:=∃(hi:i<h.os.length) (j':Nat),j'<j∧h.os[i].r[j']? =some s∧(h.os[i].k≠3∨j'=1)∧0≤s
def DD (h:Hp)(i j:Nat)(s:Int):Prop:=(∃j',DR h i j' s)∨∃j',j'<j∧h.ds[j']? =some ((i:Int),s)
def I2h (h:Hp)(m i:Nat)(D:Int→Prop)(L A:List Int):Prop:=I2 (h.os.map Ob.p) h.ds h.os.length m i D L A
theorem I2h.dr {h:Hp}{m i j:Nat}{L A:List Int}(q:I2h h m i (DR h i j) L A)(hi:i<h.os.length)(hs:∀s,h.os[i].r[j]? =some s→(h.os[i].k≠3∨j=1)→0≤s→s∈L):I2h h m i (DR h i (j+1)) L A:=
 I2.imp q fun hD s hs'=>by
  obtain⟨hi',j',h1,h2,h3,h4⟩:=hs';by_cases e:j'=j
  ·subst e;exact hs s h2 h3 h4
  ·exact hD s ⟨hi',j',by omega,h2,h3,h4⟩
theorem I2h.drEnd {h:Hp}{m i j:Nat}{L A:List Int}(q:I2h h m i (DR h i j) L A)(hi:i<h.os.length)(hj:h.os[i].r.length≤j):I2h h m i (DD h i 0) L A:=
 I2.imp q fun hD s hs=>by
  rcases hs with⟨j2,hi',j',h1,h2,h3,h4⟩|⟨j',h1,_⟩
  ·have hlt:j'<h.os[i].r.length:=by
    rcases Nat.lt_or_ge j' h.os[i].r.length with q|q
    ·exact q
    ·rw[List.getElem?_eq_none q]at h2;cases h2
   exact hD s ⟨hi',j',by omega,h2,h3,h4⟩
  ·omega
theorem I2h.dd {h:Hp}{m i j:Nat}{L A:List Int}(q:I2h h m i (DD h i j) L A)(hs:∀s,h.ds[j]? =some ((i:Int),s)→s∈L):I2h h m i (DD h i (j+1)) L A:=
 I2.imp q fun hD s hs'=>by
  rcases hs' with h1|⟨j',h1,h2⟩
  ·exact hD s (Or.inl h1)
  ·by_cases e:j'=j
   ·subst e;exact hs s h2
   ·exact hD s (Or.inr ⟨j',by omega,h2⟩)
theorem I2h.ddEnd {h:Hp}{m i j:Nat}{L A:List Int}(q:I2h h m i (DD h i j) L A)(hi:i<h.os.length)(hj:h.ds.length≤j):I2h h m (i+1) (fun _=>False) L A:=
 I2.next q fun hD _ s hs=>by
  rcases hs with⟨o,h1,k,h2,h3,h4⟩|hm
  ·rw[List.getElem?_map,QhW hi]at h1
   cases h1
   exact hD s (Or.inl ⟨k+1,hi,k,by omega,h2,h3,h4⟩)
  ·obtain⟨j',hj',e⟩:=List.getElem_of_mem hm;exact hD s (Or.inr ⟨j',by omega,by rw[QhW hj',e]⟩)
theorem I2h.skip {h:Hp}{m i:Nat}{L A:List Int}(q:I2h h m i (fun _=>False) L A)(hi:(i:Int)∉L):I2h h m (i+1) (fun _=>False) L A:=
 I2.next q fun _ hm=>absurd hm hi
theorem I2h.drStart {h:Hp}{m i:Nat}{L A:List Int}(q:I2h h m i (fun _=>False) L A):I2h h m i (DR h i 0) L A:=
 I2.imp q fun _ s hs=>by
  obtain⟨_,j',h1,_⟩:=hs;omega
theorem QbB {h:Hp}{i j:Nat}{s:Int}(hi:i<h.os.length)(hs:h.os[i].r[j]? =some s)(hk:h.os[i].k≠3∨j=1)(h0:0≤s):wS (h.os.map Ob.p) h.ds i s:=
 Or.inl ⟨h.os[i].p,by rw[List.getElem?_map,QhW hi];rfl,j,hs,hk,h0⟩
structure WfW (wE:World) (h:Hp) (b0:Nat) (R L0:List Int) (v:Value) (L A:List Int) (W:World):Prop where
 own:Qa W wE.heap.size v L
 be:Below wE.heap.size wE W
 bk:Blk W b0 [QhR h.oa h.os.length h.ocap,QhR h.ra h.rs.length h.rcap,QhR h.wa h.ws.length h.wcap,QhR h.da h.ds.length h.dcap] 27
 wf:Wf R L0 h.os.length L A
theorem WfW.len {wE:World}{h:Hp}{b0:Nat}{R L0:List Int}{v:Value}{L A:List Int}{W:World}(q:WfW wE h b0 R L0 v L A W):L.length≤L0.length+h.os.length:=by
 have:=q.wf.pl.len;rw[q.wf.eq,List.length_append];omega
theorem WfW.app {wE:World}{h:Hp}{b0:Nat}{R L0:List Int}{v:Value}{L A:List Int}{W:World}(q:WfW wE h b0 R L0 v L A W){s:Int}{o:Obj}{v':Value}{W':World}(hs:s∈R)(hr:0≤s∧s<h.os.length)(hn:s∉L)
 (hown:Qa W' wE.heap.size v' (L++ [s]))(hg:(W.alloc o).grownBy W' v.ownBlock):WfW wE h b0 R L0 v' (L++ [s]) (A++ [s]) W':=by
 have hA:Below W.heap.size W (W.alloc o):=(Below.refl _ _).alloc (QhU _) _;have hbA:=q.be.trans (hA.mono q.be.size);have hoA:=q.own.below hA (QhU _);have hkA:=q.bk.below hA q.bk.lt;exact⟨hown,hbA.trans (QJ hg hbA.size (fun k e=>(hoA.lt k e).1)),hkA.grown hg (hoA.ne hkA (by decide)),q.wf.add hs hr hn⟩
theorem QhB (h:Hp)(wE w:World)(v0:Value)(R L0:List Int)(hh:Qj wE h)(c:OkC h)(hE:Below wE.heap.size wE w)(hv:Qa w wE.heap.size v0 L0)(hl0:L0.length≤8)(hC:Ye h R)(hsub:∀z∈L0,z∈R):
 Calls Cut.prog 49 #[h.v,v0] w fun e w'=>∃(v':Value) (L A:List Int),e=.returned v'∧Qa w' wE.heap.size v' L∧Below wE.heap.size wE w'∧Wf R L0 h.os.length L A∧Cl (h.os.map Ob.p) h.ds h.os.length L:=by
 obtain⟨i0,hi0,hz0,hz1,hz2⟩:=info_parts Je;have hn60:=c.n60;have hw20:=c.w20;have HC:Hid (Ye h R):=hC;have hB0:Below w.heap.size w (w.alloc (QhS #[QhR h.oa h.os.length h.ocap,QhR h.ra h.rs.length h.rcap,QhR h.wa h.ws.length h.wcap,QhR h.da h.ds.length h.dcap] 27)):=(Below.refl _ _).alloc (QhU _) _;have hK0:=Blk.new w [QhR h.oa h.os.length h.ocap,QhR h.ra h.rs.length h.rcap,QhR h.wa h.ws.length h.wcap,QhR h.da h.ds.length h.dcap] 27;have hq0:WfW wE h w.heap.size R L0 v0 L0 [] (w.alloc (QhS #[QhR h.oa h.os.length h.ocap,QhR h.ra h.rs.length h.rcap,QhR h.wa h.ws.length h.wcap,QhR h.da h.ds.length h.dcap] 27)):=⟨hv.below hB0 (QhU _),hE.trans (hB0.mono hE.size),hK0,⟨by simp,hsub,Qr.nil _⟩⟩;obtain⟨a0,cap0,rfl,-⟩:=hv.form;clear hB0 hK0 hsub hC hv;go_enter (Cut.func_of Tryz.func49 rfl),Tryz.ntmps49;simp only[Hp.v];go_wp2;go_loopw [1,5,6,7,8] (fun v i _ _ _ wr=>∃(m:Nat) (L A:List Int),i=.int .i64 m∧m≤h.os.length+1∧WfW wE h w.heap.size R L0 v L A wr∧(Cl (h.os.map Ob.p) h.ds h.os.length L∨m≤A.length)) (fun _ i _ _ _ _=>h.os.length+1-(intOf i).toNat)
 case atStart=>exact⟨0,L0,[],rfl,QhV _,hq0,Or.inr (QhV _)⟩
 case round=>
  obtain⟨m,L,A,rfl,hm,hq,hcl⟩:=hrel;clear hq0;obtain⟨va,vcap,rfl,-⟩:=hq.own.form;obtain⟨x0,x1,x2,x3⟩:=Qu hq.bk;have HCL:Hid (Cl (h.os.map Ob.p) h.ds h.os.length L∨m≤A.length):=hcl;clear hcl;by_cases hmn:m≤h.os.length
  ·have hmb:(m:Int)≤(h.os.length:Int):=by omega
   have HI0:Hid (I2h h m 0 (fun _=>False) L A):=I2.start HCL.out;go_wp2;go_loopw [1,6,7,8] (fun v i _ _ wr=>∃(k:Nat) (L A:List Int),i=.int .i64 k∧k≤h.os.length∧WfW wE h w.heap.size R L0 v L A wr∧I2h h m k (fun _=>False) L A) (fun _ i _ _ _=>h.os.length-(intOf i).toNat)
   case atStart=>exact⟨0,L,A,rfl,QhV _,hq,HI0.out⟩
   case round=>
    clear x0 x1 x2 x3 hq HI0 HCL;obtain⟨i,L,A,rfl,hik,hq,hI⟩:=hrel;have HI:Hid (I2h h m i (fun _=>False) L A):=hI;clear hI;obtain⟨va,vcap,rfl,hseg,-⟩:=hq.own.form;obtain⟨x0,x1,x2,x3⟩:=Qu hq.bk;have hlen:=hq.len;by_cases hin:i<h.os.length
    ·have hib:(i:Int)<(h.os.length:Int):=by omega
     have c1:=U8 va L.length vcap (i:Int) L wr rfl hseg (by unfold maxLen;omega);by_cases hiL:(i:Int)∈L
     ·have HL0:Hid ((i:Int)∈L):=hiL;have HI1:Hid (I2h h m i (DR h i 0) L A):=HI.out.drStart;rw[show decide ((i:Int)∈L)=true by simpa using hiL]at c1;clear hiL HI;go_wp2_with (go_at_call 16;refine c1.mono ?_;rintro e w' ⟨rfl,rfl⟩);go_wp2;go_loopw [1,7] (fun v i' wr=>∃(j:Nat) (L A:List Int),i'=.int .i64 j∧j≤h.os[i].r.length∧((i:Int)∈L∧WfW wE h w.heap.size R L0 v L A wr)∧I2h h m i (DR h i j) L A) (fun _ i' _=>h.os[i].r.length-(intOf i').toNat)
      case atStart=>exact⟨0,L,A,rfl,QhV _,⟨HL0.out,hq⟩,HI1.out⟩
      case round=>
       clear x0 x1 x2 x3 hq HL0 HI1 c1;obtain⟨j,L,A,rfl,hj,⟨hiL,hq⟩,hI⟩:=hrel;have HI:Hid (I2h h m i (DR h i j) L A):=hI;have HL:Hid ((i:Int)∈L):=hiL;clear hI hiL;obtain⟨va,vcap,rfl,hseg,-⟩:=hq.own.form;obtain⟨x0,x1,x2,x3⟩:=Qu hq.bk;have hlen:=hq.len;obtain⟨bb,off,eo,hbb,e1,e2,e3⟩:=hh.so.get hin;have d1:=(hq.be.cell (p:=⟨bb,off+i*3,none⟩) hbb).trans e1;have d3:=(hq.be.cell (p:=⟨bb,off+i*3+2,none⟩) hbb).trans e3;have hr6:=(c.kind i hin).1;rw[eo]at x0;clear eo e1 e2 e3;by_cases hjn:j<h.os[i].r.length
       ·obtain⟨rb,roff,er,hrb,f1⟩:=(hh.so.2 i hin).get hjn;have d4:=(hq.be.cell (p:=⟨rb,roff+j,none⟩) hrb).trans f1;rw[er]at d3;have hjb1:(j:Int)<(h.os[i].r.length:Int):=by omega
        have HSJ:Hid (h.os[i].r[j]? =some h.os[i].r[j]):=QhW hjn;generalize h.os[i].r[j]=s at d4 HSJ;clear er f1;by_cases hK:h.os[i].k=3
        ·have hKb:(h.os[i].k !=3)=false:=by simp[hK]
         by_cases hj1:j=1
         ·have hjb:((j:Int)==1)=true:=by simp;omega
          have HKC:Hid (h.os[i].k≠3∨j=1):=Or.inr hj1;clear hK hj1;generalize h.os[i].k=K at d1 hKb;have HW:Hid (0≤s→wS (h.os.map Ob.p) h.ds i s):=fun h0=>QbB hin HSJ.out HKC.out h0;by_cases hs0:0≤s
          ·have hs0b:decide (0≤s)=true:=by simpa using hs0
           have HW:Hid (wS (h.os.map Ob.p) h.ds i s):=HW.out hs0;have HS:Hid (s∈R∧0≤s∧s<h.os.length):=HC.out.found c hin (hq.wf.sub _ HL.out) HW.out;have c3:=U8 va L.length vcap s L wr rfl hseg (by unfold maxLen;omega);have HSK:Hid (s∈L→I2h h m i (DR h i (j+1)) L A):=fun hm=>HI.out.dr hin (fun s' hs' _ _=>by rw[HSJ.out]at hs';cases hs';exact hm);by_cases hsL:s∈L
           ·have hsd:decide (s∈L)=true:=by simpa using hsL
            have HM:Hid (s∈L):=hsL;rw[hsd]at c3;clear hsL hsd;have hI2:Hid (I2h h m i (DR h i (j+1)) L A):=HSK.out HM.out;clear HI;go_wp2_with (go_at_call 16;refine c3.mono ?_;rintro e w' ⟨rfl,rfl⟩);go_wp2;go_roundw
            case rel=>exact⟨j+1,L,A,by go_num,by omega,⟨HL.out,hq⟩,hI2.out⟩
            case measure=>simp[intOf];omega
           ·have hvA:(wr.alloc (QhS #[QhT .i64 s] 3)).ownsRow wE.heap.size 3 1 (.slice va L.length vcap) L.length (L.map (QhT .i64)):=World.ownsRow.alloc hq.own _;have HN:Hid (s∉L):=hsL;have hsz:=hq.be.size;have hsd:decide (s∈L)=false:=by simpa using hsL
            have HQ:Hid (WfW wE h w.heap.size R L0 (.slice va L.length vcap) L A wr):=hq;rw[hsd]at c3;clear hsL hq hsd;go_wp2_with fail;refine c3.mono ?_;rintro e w' ⟨rfl,rfl⟩;go_wp2_with (at_builtin;refine wpList_append_own_at _ rfl _ _ 24 rfl wE.heap.size 3 i0 (.int .i64 0) 1 8 ((Cut.under_eq 24).trans Tryz.underlying24) hi0 hz0 hz1 hz2 rfl (by decide) _ _ _ rfl hvA ⟨w'.heap.size,0,none⟩ 1 1 [.int .i64 s] rfl rfl (cell_one_new _ _ _) ?c2 ?c3 ?c4 ?c5 ?_)
            case c2=>intro u hu;simp at hu;subst hu;rfl
            case c3=>unfold maxLen;omega
            case c4=>omega
            case c5=>simp;omega
            intro v' w2 hown hgr _ _
            have hown':Qa w2 wE.heap.size v' (L++ [s]):=by
             unfold Qa;simpa using hown
            have hq2:=HQ.out.app HS.out.1 HS.out.2 HN.out hown' hgr;have hI2:Hid (I2h h m i (DR h i (j+1)) (L++ [s]) (A++ [s])):=I2.add HI.out hin HL.out HW.out HN.out;clear hown hgr hown' HQ HI c3 hvA;go_wp2;go_roundw
            case rel=>exact⟨j+1,L++ [s],A++ [s],by go_num,by omega,⟨List.mem_append.2 (Or.inl HL.out),hq2⟩,hI2.out⟩
            case measure=>simp[intOf];omega
          ·have hs0b:decide (0≤s)=false:=by simpa using hs0
           have HSN:Hid (I2h h m i (DR h i (j+1)) L A):=HI.out.dr hin (fun s' hs' _ h0=>by rw[HSJ.out]at hs';cases hs';exact absurd h0 hs0);clear hs0 HW;have hI2:Hid (I2h h m i (DR h i (j+1)) L A):=HSN.out;clear HI HSN;go_wp2;go_roundw
           case rel=>exact⟨j+1,L,A,by go_num,by omega,⟨HL.out,hq⟩,hI2.out⟩
           case measure=>simp[intOf];omega
         ·have hjb:((j:Int)==1)=false:=by rw[beq_eq_false_iff_ne];omega
          have HSN:Hid (I2h h m i (DR h i (j+1)) L A):=HI.out.dr hin (fun s' _ hk _=>by rcases hk with hk|hk;exact absurd hK hk;exact absurd hk hj1);clear hK hj1;generalize h.os[i].k=K at d1 hKb;have hI2:Hid (I2h h m i (DR h i (j+1)) L A):=HSN.out;clear HI HSN;go_wp2;go_roundw
          case rel=>exact⟨j+1,L,A,by go_num,by omega,⟨HL.out,hq⟩,hI2.out⟩
          case measure=>simp[intOf];omega
        ·have hKb:(h.os[i].k !=3)=true:=by simp[hK]
         have HKC:Hid (h.os[i].k≠3∨j=1):=Or.inl hK;clear hK;generalize h.os[i].k=K at d1 hKb;have HW:Hid (0≤s→wS (h.os.map Ob.p) h.ds i s):=fun h0=>QbB hin HSJ.out HKC.out h0;by_cases hs0:0≤s
         ·have hs0b:decide (0≤s)=true:=by simpa using hs0
          have HW:Hid (wS (h.os.map Ob.p) h.ds i s):=HW.out hs0;have HS:Hid (s∈R∧0≤s∧s<h.os.length):=HC.out.found c hin (hq.wf.sub _ HL.out) HW.out;have c3:=U8 va L.length vcap s L wr rfl hseg (by unfold maxLen;omega);have HSK:Hid (s∈L→I2h h m i (DR h i (j+1)) L A):=fun hm=>HI.out.dr hin (fun s' hs' _ _=>by rw[HSJ.out]at hs';cases hs';exact hm);by_cases hsL:s∈L
          ·have hsd:decide (s∈L)=true:=by simpa using hsL
           have HM:Hid (s∈L):=hsL;rw[hsd]at c3;clear hsL hsd;have hI2:Hid (I2h h m i (DR h i (j+1)) L A):=HSK.out HM.out;clear HI;go_wp2_with (go_at_call 16;refine c3.mono ?_;rintro e w' ⟨rfl,rfl⟩);go_wp2;go_roundw
           case rel=>exact⟨j+1,L,A,by go_num,by omega,⟨HL.out,hq⟩,hI2.out⟩
           case measure=>simp[intOf];omega
          ·have hvA:(wr.alloc (QhS #[QhT .i64 s] 3)).ownsRow wE.heap.size 3 1 (.slice va L.length vcap) L.length (L.map (QhT .i64)):=World.ownsRow.alloc hq.own _;have HN:Hid (s∉L):=hsL;have hsz:=hq.be.size;have hsd:decide (s∈L)=false:=by simpa using hsL
           have HQ:Hid (WfW wE h w.heap.size R L0 (.slice va L.length vcap) L A wr):=hq;rw[hsd]at c3;clear hsL hq hsd;go_wp2_with fail;refine c3.mono ?_;rintro e w' ⟨rfl,rfl⟩;go_wp2_with (at_builtin;refine wpList_append_own_at _ rfl _ _ 24 rfl wE.heap.size 3 i0 (.int .i64 0) 1 8 ((Cut.under_eq 24).trans Tryz.underlying24) hi0 hz0 hz1 hz2 rfl (by decide) _ _ _ rfl hvA ⟨w'.heap.size,0,none⟩ 1 1 [.int .i64 s] rfl rfl (cell_one_new _ _ _) ?c2 ?c3 ?c4 ?c5 ?_)
           case c2=>intro u hu;simp at hu;subst hu;rfl
           case c3=>unfold maxLen;omega
           case c4=>omega
           case c5=>simp;omega
           intro v' w2 hown hgr _ _
           have hown':Qa w2 wE.heap.size v' (L++ [s]):=by
            unfold Qa;simpa using hown
           have hq2:=HQ.out.app HS.out.1 HS.out.2 HN.out hown' hgr;have hI2:Hid (I2h h m i (DR h i (j+1)) (L++ [s]) (A++ [s])):=I2.add HI.out hin HL.out HW.out HN.out;clear hown hgr hown' HQ HI c3 hvA;go_wp2;go_roundw
           case rel=>exact⟨j+1,L++ [s],A++ [s],by go_num,by omega,⟨List.mem_append.2 (Or.inl HL.out),hq2⟩,hI2.out⟩
           case measure=>simp[intOf];omega
         ·have hs0b:decide (0≤s)=false:=by simpa using hs0
          have HSN:Hid (I2h h m i (DR h i (j+1)) L A):=HI.out.dr hin (fun s' hs' _ h0=>by rw[HSJ.out]at hs';cases hs';exact absurd h0 hs0);clear hs0 HW;have hI2:Hid (I2h h m i (DR h i (j+1)) L A):=HSN.out;clear HI HSN;go_wp2;go_roundw
          case rel=>exact⟨j+1,L,A,by go_num,by omega,⟨HL.out,hq⟩,hI2.out⟩
          case measure=>simp[intOf];omega
       ·have hjb1:decide ((j:Int)<(h.os[i].r.length:Int))=false:=by simp;omega
        have HI2:Hid (I2h h m i (DD h i 0) L A):=HI.out.drEnd hin (by omega);clear HI;go_wp2;go_loopw [1,8] (fun v i' wr=>∃(j:Nat) (L A:List Int),i'=.int .i64 j∧j≤h.ds.length∧((i:Int)∈L∧WfW wE h w.heap.size R L0 v L A wr)∧I2h h m i (DD h i j) L A) (fun _ i' _=>h.ds.length-(intOf i').toNat)
        case atStart=>exact⟨0,L,A,rfl,QhV _,⟨HL.out,hq⟩,HI2.out⟩
        case round=>
         clear d1 d3 HI2 hlen hseg hjn hjb1 hj;clear x0 x1 x2 x3 hq HL;obtain⟨j,L,A,rfl,hj,⟨hiL,hq⟩,hI⟩:=hrel;have HI:Hid (I2h h m i (DD h i j) L A):=hI;have HL:Hid ((i:Int)∈L):=hiL;clear hI hiL;obtain⟨va,vcap,rfl,hseg,-⟩:=hq.own.form;obtain⟨x0,x1,x2,x3⟩:=Qu hq.bk;have hlen:=hq.len;by_cases hjn:j<h.ds.length
         ·obtain⟨db,doff,ed,hdb,e1,e2⟩:=hh.sd.get hjn;have d1:=(hq.be.cell (p:=⟨db,doff+j*2,none⟩) hdb).trans e1;have d2:=(hq.be.cell (p:=⟨db,doff+j*2+1,none⟩) hdb).trans e2;rw[ed]at x3;have hjb1:(j:Int)<(h.ds.length:Int):=by omega
          have HSJ:Hid (h.ds[j]? =some h.ds[j]):=QhW hjn;generalize h.ds[j]=p at d1 d2 HSJ e1 e2;clear ed e1 e2;obtain⟨pg,s⟩:=p;dsimp only at d1 d2;by_cases hg:pg=(i:Int)
          ·have hgb:(pg ==(i:Int))=true:=by simp[hg]
           have HW:Hid (wS (h.os.map Ob.p) h.ds i s):=Or.inr (by rw[←hg];exact List.mem_of_getElem? HSJ.out);have HS:Hid (s∈R∧0≤s∧s<h.os.length):=HC.out.found c hin (hq.wf.sub _ HL.out) HW.out;have c3:=U8 va L.length vcap s L wr rfl hseg (by unfold maxLen;omega);have HSK:Hid (s∈L→I2h h m i (DD h i (j+1)) L A):=fun hm=>HI.out.dd (fun s' hs'=>by rw[HSJ.out]at hs';cases hs';exact hm);clear hg;by_cases hsL:s∈L
           ·have hsd:decide (s∈L)=true:=by simpa using hsL
            have HM:Hid (s∈L):=hsL;rw[hsd]at c3;clear hsL hsd;have hI2:Hid (I2h h m i (DD h i (j+1)) L A):=HSK.out HM.out;clear HI;go_wp2_with (go_at_call 16;refine c3.mono ?_;rintro e w' ⟨rfl,rfl⟩);go_wp2;go_roundw
            case rel=>exact⟨j+1,L,A,by go_num,by omega,⟨HL.out,hq⟩,hI2.out⟩
            case measure=>simp[intOf];omega
           ·have hvA:(wr.alloc (QhS #[QhT .i64 s] 3)).ownsRow wE.heap.size 3 1 (.slice va L.length vcap) L.length (L.map (QhT .i64)):=World.ownsRow.alloc hq.own _;have HN:Hid (s∉L):=hsL;have hsz:=hq.be.size;have hsd:decide (s∈L)=false:=by simpa using hsL
            have HQ:Hid (WfW wE h w.heap.size R L0 (.slice va L.length vcap) L A wr):=hq;rw[hsd]at c3;clear hsL hq hsd;go_wp2_with fail;refine c3.mono ?_;rintro e w' ⟨rfl,rfl⟩;go_wp2_with (at_builtin;refine wpList_append_own_at _ rfl _ _ 24 rfl wE.heap.size 3 i0 (.int .i64 0) 1 8 ((Cut.under_eq 24).trans Tryz.underlying24) hi0 hz0 hz1 hz2 rfl (by decide) _ _ _ rfl hvA ⟨w'.heap.size,0,none⟩ 1 1 [.int .i64 s] rfl rfl (cell_one_new _ _ _) ?c2 ?c3 ?c4 ?c5 ?_)
            case c2=>intro u hu;simp at hu;subst hu;rfl
            case c3=>unfold maxLen;omega
            case c4=>omega
            case c5=>simp;omega
            intro v' w2 hown hgr _ _
            have hown':Qa w2 wE.heap.size v' (L++ [s]):=by
             unfold Qa;simpa using hown
            have hq2:=HQ.out.app HS.out.1 HS.out.2 HN.out hown' hgr;have hI2:Hid (I2h h m i (DD h i (j+1)) (L++ [s]) (A++ [s])):=I2.add HI.out hin HL.out HW.out HN.out;clear hown hgr hown' HQ HI c3 hvA;go_wp2;go_roundw
            case rel=>exact⟨j+1,L++ [s],A++ [s],by go_num,by omega,⟨List.mem_append.2 (Or.inl HL.out),hq2⟩,hI2.out⟩
            case measure=>simp[intOf];omega
          ·have hgb:(pg ==(i:Int))=false:=by simp[hg]
           have HSN:Hid (I2h h m i (DD h i (j+1)) L A):=HI.out.dd (fun s' hs'=>by rw[HSJ.out]at hs';cases hs';exact absurd rfl hg);clear hg;have hI2:Hid (I2h h m i (DD h i (j+1)) L A):=HSN.out;clear HI HSN;go_wp2;go_roundw
           case rel=>exact⟨j+1,L,A,by go_num,by omega,⟨HL.out,hq⟩,hI2.out⟩
           case measure=>simp[intOf];omega
         ·have hjb1:decide ((j:Int)<(h.ds.length:Int))=false:=by simp;omega
          have HI2:Hid (I2h h m (i+1) (fun _=>False) L A):=HI.out.ddEnd hin (by omega);clear HI;go_wp2;go_roundw
          case rel=>exact⟨i+1,L,A,by go_num,by omega,hq,HI2.out⟩
          case measure=>simp[intOf];omega
     ·have HI1:Hid (I2h h m (i+1) (fun _=>False) L A):=HI.out.skip hiL;rw[show decide ((i:Int)∈L)=false by simpa using hiL]at c1;clear hiL HI;go_wp2_with (go_at_call 16;refine c1.mono ?_;rintro e w' ⟨rfl,rfl⟩);go_wp2;go_roundw
      case rel=>exact⟨i+1,L,A,by go_num,by omega,hq,HI1.out⟩
      case measure=>simp[intOf];omega
    ·have hib:decide ((i:Int)<(h.os.length:Int))=false:=by simp;omega
     have HP:Hid (Cl (h.os.map Ob.p) h.ds h.os.length L∨m+1≤A.length):=by
      have e:i=h.os.length:=by omega
      subst e;exact I2.pass HI.out
     clear HI;go_wp2;go_roundw
     case rel=>exact⟨m+1,L,A,by go_num,by omega,hq,HP.out⟩
     case measure=>simp[intOf];omega
  ·have hmb:decide ((m:Int)≤(h.os.length:Int))=false:=by simp;omega
   have HP:Hid (Cl (h.os.map Ob.p) h.ds h.os.length L):=by
    rcases HCL.out with h1|h1
    ·exact h1
    ·have:=hq.wf.pl.len;omega
   clear HCL;go_wp2;go_ret;exact⟨_,L,A,rfl,hq.own,hq.be,hq.wf,HP.out⟩
def rootsP (rs:List Int):List Int:=rs.filter fun z=>decide (0≤z)
theorem Qgi (rs:List Int)(k:Nat)(hk:k<rs.length):rootsP (rs.take (k+1))=if 0≤rs[k]then rootsP (rs.take k)++ [rs[k]]else rootsP (rs.take k):=by
 unfold rootsP;rw[List.take_succ_eq_append_getElem hk,List.filter_append];by_cases h:0≤rs[k]<;>simp[h]
theorem QaS (rs:List Int)(k:Nat):(rootsP (rs.take k)).length≤k:=Nat.le_trans (List.length_filter_le _ _) (List.length_take_le _ _)
theorem QhC (h:Hp)(w:World)(R:List Int)(hh:Qj w h)(c:OkC h)(hC:Ye h R):
 Calls Cut.prog 15 #[h.v] w fun e w'=>∃(v':Value) (L:List Int),e=.returned v'∧Qa w' w.heap.size v' L∧Below w.heap.size w w'∧L.length≤68∧∀z,z∈L↔z∈R:=by
 obtain⟨i0,hi0,hz0,hz1,hz2⟩:=info_parts Je;have hr8:=c.r8;have HC:Hid (Ye h R):=hC;have hB0:Below w.heap.size w ((w.alloc (QhS #[QhR h.oa h.os.length h.ocap,QhR h.ra h.rs.length h.rcap,QhR h.wa h.ws.length h.wcap,QhR h.da h.ds.length h.dcap] 27)).alloc (QhS #[] 3)):=((Below.refl _ _).alloc (QhU _) _).alloc (by simp) _;have hK0:Blk ((w.alloc (QhS #[QhR h.oa h.os.length h.ocap,QhR h.ra h.rs.length h.rcap,QhR h.wa h.ws.length h.wcap,QhR h.da h.ds.length h.dcap] 27)).alloc (QhS #[] 3)) w.heap.size [QhR h.oa h.os.length h.ocap,QhR h.ra h.rs.length h.rcap,QhR h.wa h.ws.length h.wcap,QhR h.da h.ds.length h.dcap] 27:=(Blk.new w _ _).alloc _
 have hO0:Qa ((w.alloc (QhS #[QhR h.oa h.os.length h.ocap,QhR h.ra h.rs.length h.rcap,QhR h.wa h.ws.length h.wcap,QhR h.da h.ds.length h.dcap] 27)).alloc (QhS #[] 3)) w.heap.size (.slice (some ⟨w.heap.size+1,0,none⟩) 0 0) []:=by
  have:=World.ownsRow_lit (e:=3) (size:=1) (base:=w.heap.size) (w.alloc (QhS #[QhR h.oa h.os.length h.ocap,QhR h.ra h.rs.length h.rcap,QhR h.wa h.ws.length h.wcap,QhR h.da h.ds.length h.dcap] 27)) #[] 0 (by simp) (QhV _) rfl;unfold Qa;simpa using this
 clear hC;go_enter (Cut.func_of Tryz.func15 rfl),Tryz.ntmps15;simp only[Hp.v];go_wp2;go_loopw [3,4] (fun v i wr=>∃k:Nat,i=.int .i64 k∧k≤h.rs.length∧Qa wr w.heap.size v (rootsP (h.rs.take k))∧Blk wr w.heap.size [QhR h.oa h.os.length h.ocap,QhR h.ra h.rs.length h.rcap,QhR h.wa h.ws.length h.wcap,QhR h.da h.ds.length h.dcap] 27∧Below w.heap.size w wr) (fun _ i _=>h.rs.length-(intOf i).toNat)
 case atStart=>exact⟨0,rfl,QhV _,hO0,hK0,hB0⟩
 case round=>
  obtain⟨k,rfl,hk,hown,hblk,hb⟩:=hrel;clear hO0 hK0 hB0;obtain⟨va,vcap,rfl,-⟩:=hown.form;obtain⟨x0,x1,x2,x3⟩:=Qu hblk;by_cases hlt:k<h.rs.length
  ·obtain⟨rb,roff,er,hrb,f1⟩:=hh.sr.get hlt;have d1:=(hb.cell (p:=⟨rb,roff+k,none⟩) hrb).trans f1;rw[er]at x1;have hkb:(k:Int)<(h.rs.length:Int):=by omega
   have HF:Hid (rootsP (h.rs.take (k+1))=if 0≤h.rs[k]then rootsP (h.rs.take k)++ [h.rs[k]]else rootsP (h.rs.take k)):=Qgi _ _ hlt;have hfl:=QaS h.rs k;generalize h.rs[k]=s at d1 HF f1;clear er f1;by_cases hs0:0≤s
   ·have hs0b:decide (0≤s)=true:=by simpa using hs0
    have HF1:Hid (rootsP (h.rs.take (k+1))=rootsP (h.rs.take k)++ [s]):=by
     show _=_;rw[HF.out,if_pos hs0]
    clear HF hs0;generalize rootsP (h.rs.take k)=l at *;have hvA:(wr.alloc (QhS #[QhT .i64 s] 3)).ownsRow w.heap.size 3 1 (.slice va l.length vcap) l.length (l.map (QhT .i64)):=World.ownsRow.alloc hown _;have hA:Below wr.heap.size wr (wr.alloc (QhS #[QhT .i64 s] 3)):=(Below.refl _ _).alloc (QhU _) _;have hbA:=hb.trans (hA.mono hb.size);have hkA:=hblk.below hA hblk.lt;have hoA:=hown.below hA (QhU _);have hsz:=hb.size;go_wp2_with (at_builtin;refine wpList_append_own_at _ rfl _ _ 24 rfl w.heap.size 3 i0 (.int .i64 0) 1 8 ((Cut.under_eq 24).trans Tryz.underlying24) hi0 hz0 hz1 hz2 rfl (by decide) _ _ _ rfl hvA ⟨wr.heap.size,0,none⟩ 1 1 [.int .i64 s] rfl rfl (cell_one_new _ _ _) ?c2 ?c3 ?c4 ?c5 ?_)
    case c2=>intro u hu;simp at hu;subst hu;rfl
    case c3=>unfold maxLen;omega
    case c4=>omega
    case c5=>simp;omega
    intro v' w2 hown2 hgr _ _
    have hown':Hid (Qa w2 w.heap.size v' (rootsP (h.rs.take (k+1)))):=by
     show Qa _ _ _ _;rw[HF1.out];unfold Qa;simpa using hown2
    have hb2:=hbA.trans (QJ hgr hbA.size (fun k e=>(hoA.lt k e).1));have hk2:=hkA.grown hgr (hoA.ne hkA (by decide));clear hown2 hgr hvA hA hbA hkA hoA hown hblk hb x0 x1 x2 x3 d1 HF1;go_wp2;go_roundw
    case rel=>exact⟨k+1,by go_num,by omega,hown'.out,hk2,hb2⟩
    case measure=>simp[intOf];omega
   ·have hs0b:decide (0≤s)=false:=by simpa using hs0
    have hown':Hid (Qa wr w.heap.size (.slice va (rootsP (h.rs.take k)).length vcap) (rootsP (h.rs.take (k+1)))):=by
     show Qa _ _ _ _;rw[HF.out,if_neg hs0];exact hown
    clear HF hs0 hown;go_wp2;go_roundw
    case rel=>exact⟨k+1,by go_num,by omega,hown'.out,hblk,hb⟩
    case measure=>simp[intOf];omega
  ·have hkb:decide ((k:Int)<(h.rs.length:Int))=false:=by simp;omega
   have et:h.rs.take k=h.rs:=List.take_of_length_le (by omega);rw[et]at hown
   have hle:(rootsP h.rs).length≤8:=by
    have:=QaS h.rs k;rw[et]at this;omega
   have c1:=QhB h w wr (.slice va (rootsP h.rs).length vcap) R (rootsP h.rs) hh c hb hown hle HC.out (fun z hz=>by
    have:=List.mem_filter.1 hz
    exact HC.out.root z this.1 (by simpa using this.2))
   simp only[Hp.v]at c1;rw[et];clear et hown;go_wp2_with fail;refine c1.mono ?_;rintro e w2 ⟨v',L,A,rfl,ho,hb2,hwf,hcl⟩
   have hll:L.length≤68:=by
    have:=hwf.pl.len;have:=c.n60;rw[hwf.eq,List.length_append];omega
   have hiff:Hid (∀z,z∈L↔z∈R):=fun z=>⟨hwf.sub z,HC.out.all c hwf.sub (fun y hy h0=>by rw[hwf.eq];exact List.mem_append.2 (Or.inl (List.mem_filter.2 ⟨hy,by simpa using h0⟩))) hcl z⟩;clear hwf hcl c1;go_wp2;go_ret;exact⟨_,L,rfl,ho,hb2,hll,hiff.out⟩
end
namespace Co
open Go.Conc Go.ConcN Go.RowKit Go.Conc.Lib Go.ConcR.Gen
open Go.ConcR (DC0)
set_option linter.unusedSimpArgs false
theorem JD {E E':World}{y:Hp}(h:Fit E y)(o:On E E'):Fit E' y:=⟨Qj.heap h.isIn o.1 o.2,h.small,h.txt,h.cap⟩
section
variable {X:Nat→Bool} {Ch:Nat}
end
theorem KV {X:Nat→Bool}{a:Act}{c:Code}(hd:a.defers=[])(hc:QQ Tryz.progTables c=true):FOk Tryz.progTables Cut.keep X ((base 5).at a [.code c]):=
 ⟨by kernel_rfl,(fun i hi=>by
   have hi':i∈[Item.code c]:=hi;simp only[List.mem_cons,List.not_mem_nil,or_false]at hi';subst hi'
   exact hc),(fun d hq=>by
   have:d∈a.defers:=hq;rw[hd]at this
   simp at this),rfl,fun l hl=>by cases hl⟩
noncomputable def VZ:Array Oper:=match sdC with
 | .seq (.region _ ops _) _=>ops
 |_=>#[]
noncomputable def PB (T:Array Value):Frame:=(base 5).at ⟨T,[]⟩ [.inRegion VZ [1,2,3,4,5,6,7],.code sdF]
def Vf (X0:Nat→Bool)(w0:World)(X:Nat→Bool)(g:Goroutine)(w:World):Prop:=
 ∃fr:Frame,g=G fr []∧fr.mode=.returning∧fr.defers=[]∧fr.kind=.normal∧fr.fn=5∧fr.tmps.getD 2 undef=.bool true∧LA X0 w0 X w
def PZ (X0:Nat→Bool)(w0:World)(X:Nat→Bool)(g:Goroutine)(w:World):Prop:=
 ∃(T:Array Value) (b3:Nat) (y:Hp),T.size=72∧T[3]? =some (.pointer (some ⟨b3,0,none⟩))∧g=G (Frame.enter Tryz.prog 8 #[Hp.v y] .normal) [PB T]∧LS X0 w0 X (fun E=>Blk E b3 (Hp.cells y) 27∧Fit E y) w
section
variable {X0 X:Nat→Bool} {Ch:Nat}
theorem QgE {w0:World}{T:Array Value}{b3:Nat}{y:Hp}(hT:T.size=72)(tq:T[3]? =some (.pointer (some ⟨b3,0,none⟩))){w:World}(hI:LS X0 w0 X (fun E=>Blk E b3 (Hp.cells y) 27∧Fit E y) w):
 Qv Tryz.prog X Ch (PZ X0 w0 X) (G ((base 5).at ⟨T,[]⟩ [.code sdC]) []) w:=by
 obtain⟨f,rfl⟩:=Vy T hT;unfold A72 at tq⊢;simp only[List.getElem?_toArray,QhX,QhY,Option.some.injEq]at tq;rw[tq];clear tq hT;have e1:sdC=.seq (.region 7 VZ false) sdF:=rfl;obtain⟨D0,hD0⟩:∃D0,D0=sdF:=⟨_,rfl⟩;rw[e1,←hD0];refine QL (n:=30) ?_;u_c stepG_seq LS.rely hI;simp only[VZ,sdC,sdB,Tryz.f5];u_reg LS.rely hI;refine Goes.stop (fun w3 h3=>?_);replace hI:=LS.rely hI h3;clear h3;refine ZQ rfl (fun w4 h4=>?_);have hz:=ZW h4;replace hI:=LS.rely hI h4;clear h4;obtain⟨xb,kb⟩:=QdZ (show Blk (emW X w4) b3 [QhR y.oa y.os.length y.ocap,QhR y.ra y.rs.length y.rcap,QhR y.wa y.ws.length y.wcap,QhR y.da y.ds.length y.dcap] _ from hI.p.1);have hl:=kb.lt;refine goes_oper_k rfl rfl (by decide) (fun K hK=>?_);obtain⟨c0,c1,c2,c3⟩:=Qb kb;go_simp;refine hK _ _ ⟨⟨hz,fun B hB e he=>?_⟩,?_⟩
 ·have hm:=mem_listed he;simp[go_sem,c0,c1,c2,c3]at hm;rcases hm with rfl|rfl|rfl|rfl<;>exact⟨xb,by show b3<B;omega⟩
 clear hK K hz c0 c1 c2 c3 hl kb xb;refine QL (n:=5) ?_;u_in LS.rely hI;refine goes_call rfl rfl (by decide) rfl Tryz.func8 rfl rfl ⟨by u_nil,?_⟩;rw[←enter_at _ Tryz.func8 rfl];simp only[List.map_toArray,List.map_cons,List.map_nil,Act.eval,Array.getD_eq_getD_getElem?,List.getElem?_toArray,QhY,QhX,Option.getD_some];refine Goes.stop (fun w6 h6=>.stop ?_);replace hI:=LS.rely hI h6;rw[hD0];exact⟨_,b3,y,rfl,rfl,rfl,hI⟩
theorem QgA {a:Option Addr}{cap:Nat}{bs:List Int}{w:World}(hcap:bs.length≤cap)(hm:cap≤maxLen)(hby:∀x∈bs,0≤x∧x<256)(hsc:0<bs.length→∃b off,a=some ⟨b,off,none⟩∧b<w.heap.size∧∀i (hi:i<bs.length),(emW X w).cell? ⟨b,off+i,none⟩=some (.int .u8 bs[i]))(hs:Sn X w):
 Qv Tryz.prog X Ch (fun g w1=>PZ X w X g w1∨Vf X w X g w1) (G (Frame.enter Tryz.prog 5 #[.slice a bs.length cap] .normal) []) w:=by
 rw[enter_at _ Tryz.func5 (show Tryz.f5.body=some sdB from rfl)];have hA:LA X w X w:=⟨fun _ _=>⟨rfl,rfl⟩,QhU _,hs,.refl _⟩;have hok:QQ Tryz.progTables sdB=true:=by kernel_rfl
 refine Kx 5 hs (KV rfl hok) (R:=fun c a w2=>∃u:World,(u.heap=(emW X w).heap∧OO u w)∧Sd1 u c a w2) (Rr:=fun a w2=>∃u:World,(u.heap=(emW X w).heap∧OO u w)∧SdR u a w2) (fun t d=>?_) (fun c' a' w2 w2' hE hS hK hFO hR=>?_) (fun a' todo w2 w2' hE hS hK hFO hR=>?_)
 ·have h1:=Qe4 a cap bs {emW X w with tape:=t,drawn:=d} hcap hm hby (fun hp=>by
   obtain⟨b,off,e1,e2,e3⟩:=hsc hp
   exact⟨b,off,e1,by show b<(emW X w).heap.size;rw[QF];exact e2,e3⟩)
  exact Vn h1 (fun c a _ hq=>⟨{emW X w with tape:=t,drawn:=d},⟨rfl,rfl,rfl⟩,hq⟩) (fun a _ hq=>⟨{emW X w with tape:=t,drawn:=d},⟨rfl,rfl,rfl⟩,hq⟩)
 ·obtain⟨u,⟨hu,huo⟩,rfl,r1,r2,hB,b3,y,t3,kb,hf⟩:=hR;obtain⟨T,D⟩:=a';simp only at r1 r2 t3;subst r1;have us:u.heap.size=w.heap.size:=by rw[hu,QF]
  rw[us]at hB;refine QbK (QgE r2 t3 ⟨hA.piece rfl hu huo hE hS hK hB,fun _ _ o l=>⟨JP l.1 o,JD l.2 o⟩,JP kb (Pn hE),JD hf (Pn hE)⟩) fun g w hg=>.inl hg
 ·obtain⟨u,⟨hu,huo⟩,r1,r2,r3,hB⟩:=hR;have us:u.heap.size=w.heap.size:=by rw[hu,QF]
  rw[us]at hB
  exact .stop (.inr ⟨_,rfl,rfl,r1,rfl,rfl,by
   show a'.tmps.getD 2 undef=_;rw[Array.getD_eq_getD_getElem?,r3]
   rfl,hA.piece rfl hu huo hE hS hK hB⟩)
end
end Co
end Go.Proofs.YtcpnkpogebjieaaGreat
