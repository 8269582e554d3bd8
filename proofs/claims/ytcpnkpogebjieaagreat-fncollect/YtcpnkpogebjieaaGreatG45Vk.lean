/- The law's own search: all that it comes to is what MemReach tells. -/
import Derived.Test.YtcpnkpogebjieaaGreatG38Va
import Derived.Test.YtcpnkpogebjieaaGreatG43Fa
import Derived.Test.YtcpnkpogebjieaaGreatG18Ye
import Derived.Test.YtcpnkpogebjieaaGreatG44Ha
import Derived.Test.YtcpnkpogebjieaaGreatG14ImplOk2
import Derived.Test.YtcpnkpogebjieaaGreatG37Vj
open Go.Value renaming slice→Qhp,int→Qhr
open Go.Obj renaming cells→Qhq
open Nat renaming le_refl→Qhs,zero_le→Qht
open List renaming getElem?_eq_getElem→Qhu
set_option maxHeartbeats 4000000
set_option maxRecDepth 100000
namespace Go.Proofs.YtcpnkpogebjieaaGreat
section
open Go.RowKit
def DR (h:Hp)(i j:Nat)(s:Int):Prop:=∃(hi:i<h.os.length) (j':Nat),j'<j∧h.os[i].r[j']? =some s∧(h.os[i].k≠3∨j'=1)∧0≤s
def DD (h:Hp)(i j:Nat)(s:Int):Prop:=(∃j',DR h i j' s)∨∃j',j'<j∧h.ds[j']? =some ((i:Int),s)
def I2h (h:Hp)(m i:Nat)(D:Int→Prop)(L A:List Int):Prop:=I2 (h.os.map Ob.p) h.ds h.os.length m i D L A
theorem I2h.dr {h:Hp}{m i j:Nat}{L A:List Int}(q:I2h h m i (DR h i j) L A)(hi:i<h.os.length)(hs:∀s,h.os[i].r[j]? =some s→(h.os[i].k≠3∨j=1)→0≤s→s∈L):I2h h m i (DR h i (j+1)) L A:=
 I2.imp q fun hD s hs'=>by
  obtain⟨hi',j',h1,h2,h3,h4⟩:=hs'
  by_cases e:j'=j
  ·subst e;exact hs s h2 h3 h4
  ·exact hD s ⟨hi',j',by omega,h2,h3,h4⟩
theorem I2h.drEnd {h:Hp}{m i j:Nat}{L A:List Int}(q:I2h h m i (DR h i j) L A)(hi:i<h.os.length)(hj:h.os[i].r.length≤j):I2h h m i (DD h i 0) L A:=
 I2.imp q fun hD s hs=>by
  rcases hs with⟨j2,hi',j',h1,h2,h3,h4⟩|⟨j',h1,_⟩
  ·have hlt:j'<h.os[i].r.length:=by
    rcases Nat.lt_or_ge j' h.os[i].r.length with q|q
    ·exact q
    ·rw[List.getElem?_eq_none q]at h2;cases h2
   exact hD s ⟨hi',j',by omega,h2,h3,h4⟩
  ·omega
theorem I2h.dd {h:Hp}{m i j:Nat}{L A:List Int}(q:I2h h m i (DD h i j) L A)(hs:∀s,h.ds[j]? =some ((i:Int),s)→s∈L):I2h h m i (DD h i (j+1)) L A:=
 I2.imp q fun hD s hs'=>by
  rcases hs' with h1|⟨j',h1,h2⟩
  ·exact hD s (Or.inl h1)
  ·by_cases e:j'=j
   ·subst e;exact hs s h2
   ·exact hD s (Or.inr ⟨j',by omega,h2⟩)
theorem I2h.ddEnd {h:Hp}{m i j:Nat}{L A:List Int}(q:I2h h m i (DD h i j) L A)(hi:i<h.os.length)(hj:h.ds.length≤j):I2h h m (i+1) (fun _=>False) L A:=
 I2.next q fun hD _ s hs=>by
  rcases hs with⟨o,h1,k,h2,h3,h4⟩|hm
  ·rw[List.getElem?_map,Qhu hi]at h1
   cases h1
   exact hD s (Or.inl ⟨k+1,hi,k,by omega,h2,h3,h4⟩)
  ·obtain⟨j',hj',e⟩:=List.getElem_of_mem hm
   exact hD s (Or.inr ⟨j',by omega,by rw[Qhu hj',e]⟩)
theorem I2h.skip {h:Hp}{m i:Nat}{L A:List Int}(q:I2h h m i (fun _=>False) L A)(hi:(i:Int)∉L):I2h h m (i+1) (fun _=>False) L A:=
 I2.next q fun _ hm=>absurd hm hi
theorem I2h.drStart {h:Hp}{m i:Nat}{L A:List Int}(q:I2h h m i (fun _=>False) L A):I2h h m i (DR h i 0) L A:=
 I2.imp q fun _ s hs=>by
  obtain⟨_,j',h1,_⟩:=hs
  omega
theorem Qa2 {h:Hp}{i j:Nat}{s:Int}(hi:i<h.os.length)(hs:h.os[i].r[j]? =some s)(hk:h.os[i].k≠3∨j=1)(h0:0≤s):wS (h.os.map Ob.p) h.ds i s:=
 Or.inl ⟨h.os[i].p,by rw[List.getElem?_map,Qhu hi];rfl,j,hs,hk,h0⟩
structure WfW (wE:World) (h:Hp) (b0:Nat) (R L0:List Int) (v:Value) (L A:List Int) (W:World):Prop where
 own:Qa W wE.heap.size v L
 be:Below wE.heap.size wE W
 bk:Blk W b0 [Qhp h.oa h.os.length h.ocap,Qhp h.ra h.rs.length h.rcap,Qhp h.wa h.ws.length h.wcap,Qhp h.da h.ds.length h.dcap] 27
 wf:Wf R L0 h.os.length L A
theorem WfW.len {wE:World}{h:Hp}{b0:Nat}{R L0:List Int}{v:Value}{L A:List Int}{W:World}(q:WfW wE h b0 R L0 v L A W):L.length≤L0.length+h.os.length:=by
 have:=q.wf.pl.len
 rw[q.wf.eq,List.length_append]
 omega
theorem WfW.app {wE:World}{h:Hp}{b0:Nat}{R L0:List Int}{v:Value}{L A:List Int}{W:World}(q:WfW wE h b0 R L0 v L A W){s:Int}{o:Obj}{v':Value}{W':World}(hs:s∈R)(hr:0≤s∧s<h.os.length)(hn:s∉L)
 (hown:Qa W' wE.heap.size v' (L++ [s]))(hg:(W.alloc o).grownBy W' v.ownBlock):WfW wE h b0 R L0 v' (L++ [s]) (A++ [s]) W':=by
 have hA:Below W.heap.size W (W.alloc o):=(Below.refl _ _).alloc (Qhs _) _
 have hbA:=q.be.trans (hA.mono q.be.size)
 have hoA:=q.own.below hA (Qhs _)
 have hkA:=q.bk.below hA q.bk.lt
 exact⟨hown,hbA.trans (QL hg hbA.size (fun k e=>(hoA.lt k e).1)),hkA.grown hg (hoA.ne hkA (by decide)),q.wf.add hs hr hn⟩
theorem Qg2 (h:Hp)(wE w:World)(v0:Value)(R L0:List Int)(hh:Qg wE h)(c:OkC h)(hE:Below wE.heap.size wE w)(hv:Qa w wE.heap.size v0 L0)(hl0:L0.length≤8)(hC:J4 h R)(hsub:∀z∈L0,z∈R):
 Calls Cut.prog 49 #[h.v,v0] w fun e w'=>∃(v':Value) (L A:List Int),e=.returned v'∧Qa w' wE.heap.size v' L∧Below wE.heap.size wE w'∧Wf R L0 h.os.length L A∧Cl (h.os.map Ob.p) h.ds h.os.length L:=by
 obtain⟨i0,hi0,hz0,hz1,hz2⟩:=info_parts Ja
 have hn60:=c.n60
 have hw20:=c.w20
 have HC:Hid (J4 h R):=hC
 have hB0:Below w.heap.size w (w.alloc (Qhq #[Qhp h.oa h.os.length h.ocap,Qhp h.ra h.rs.length h.rcap,Qhp h.wa h.ws.length h.wcap,Qhp h.da h.ds.length h.dcap] 27)):=(Below.refl _ _).alloc (Qhs _) _
 have hK0:=Blk.new w [Qhp h.oa h.os.length h.ocap,Qhp h.ra h.rs.length h.rcap,Qhp h.wa h.ws.length h.wcap,Qhp h.da h.ds.length h.dcap] 27
 have hq0:WfW wE h w.heap.size R L0 v0 L0 [] (w.alloc (Qhq #[Qhp h.oa h.os.length h.ocap,Qhp h.ra h.rs.length h.rcap,Qhp h.wa h.ws.length h.wcap,Qhp h.da h.ds.length h.dcap] 27)):=⟨hv.below hB0 (Qhs _),hE.trans (hB0.mono hE.size),hK0,⟨by simp,hsub,Qq.nil _⟩⟩
 obtain⟨a0,cap0,rfl,-⟩:=hv.form
 clear hB0 hK0 hsub hC hv
 go_enter (Cut.func_of Tryz.func49 rfl),Tryz.ntmps49
 simp only[Hp.v]
 go_wp2
 go_loopw [1,5,6,7,8] (fun v i _ _ _ wr=>∃(m:Nat) (L A:List Int),i=.int .i64 m∧m≤h.os.length+1∧WfW wE h w.heap.size R L0 v L A wr∧(Cl (h.os.map Ob.p) h.ds h.os.length L∨m≤A.length)) (fun _ i _ _ _ _=>h.os.length+1-(intOf i).toNat)
 case atStart=>exact⟨0,L0,[],rfl,Qht _,hq0,Or.inr (Qht _)⟩
 case round=>
  obtain⟨m,L,A,rfl,hm,hq,hcl⟩:=hrel
  clear hq0
  obtain⟨va,vcap,rfl,-⟩:=hq.own.form
  obtain⟨x0,x1,x2,x3⟩:=QB hq.bk
  have HCL:Hid (Cl (h.os.map Ob.p) h.ds h.os.length L∨m≤A.length):=hcl
  clear hcl
  by_cases hmn:m≤h.os.length
  ·have hmb:(m:Int)≤(h.os.length:Int):=by omega
   have HI0:Hid (I2h h m 0 (fun _=>False) L A):=I2.start HCL.out
   go_wp2
   go_loopw [1,6,7,8] (fun v i _ _ wr=>∃(k:Nat) (L A:List Int),i=.int .i64 k∧k≤h.os.length∧WfW wE h w.heap.size R L0 v L A wr∧I2h h m k (fun _=>False) L A) (fun _ i _ _ _=>h.os.length-(intOf i).toNat)
   case atStart=>exact⟨0,L,A,rfl,Qht _,hq,HI0.out⟩
   case round=>
    clear x0 x1 x2 x3 hq HI0 HCL
    obtain⟨i,L,A,rfl,hik,hq,hI⟩:=hrel
    have HI:Hid (I2h h m i (fun _=>False) L A):=hI
    clear hI
    obtain⟨va,vcap,rfl,hseg,-⟩:=hq.own.form
    obtain⟨x0,x1,x2,x3⟩:=QB hq.bk
    have hlen:=hq.len
    by_cases hin:i<h.os.length
    ·have hib:(i:Int)<(h.os.length:Int):=by omega
     have c1:=YS va L.length vcap (i:Int) L wr rfl hseg (by unfold maxLen;omega)
     by_cases hiL:(i:Int)∈L
     ·have HL0:Hid ((i:Int)∈L):=hiL
      have HI1:Hid (I2h h m i (DR h i 0) L A):=HI.out.drStart
      rw[show decide ((i:Int)∈L)=true by simpa using hiL]at c1
      clear hiL HI
      go_wp2_with (go_at_call 16;refine c1.mono ?_;rintro e w' ⟨rfl,rfl⟩)
      go_wp2
      go_loopw [1,7] (fun v i' wr=>∃(j:Nat) (L A:List Int),i'=.int .i64 j∧j≤h.os[i].r.length∧((i:Int)∈L∧WfW wE h w.heap.size R L0 v L A wr)∧I2h h m i (DR h i j) L A) (fun _ i' _=>h.os[i].r.length-(intOf i').toNat)
      case atStart=>exact⟨0,L,A,rfl,Qht _,⟨HL0.out,hq⟩,HI1.out⟩
      case round=>
       clear x0 x1 x2 x3 hq HL0 HI1 c1
       obtain⟨j,L,A,rfl,hj,⟨hiL,hq⟩,hI⟩:=hrel
       have HI:Hid (I2h h m i (DR h i j) L A):=hI
       have HL:Hid ((i:Int)∈L):=hiL
       clear hI hiL
       obtain⟨va,vcap,rfl,hseg,-⟩:=hq.own.form
       obtain⟨x0,x1,x2,x3⟩:=QB hq.bk
       have hlen:=hq.len
       obtain⟨bb,off,eo,hbb,e1,e2,e3⟩:=hh.so.get hin
       have d1:=(hq.be.cell (p:=⟨bb,off+i*3,none⟩) hbb).trans e1
       have d3:=(hq.be.cell (p:=⟨bb,off+i*3+2,none⟩) hbb).trans e3
       have hr6:=(c.kind i hin).1
       rw[eo]at x0
       clear eo e1 e2 e3
       by_cases hjn:j<h.os[i].r.length
       ·obtain⟨rb,roff,er,hrb,f1⟩:=(hh.so.2 i hin).get hjn
        have d4:=(hq.be.cell (p:=⟨rb,roff+j,none⟩) hrb).trans f1
        rw[er]at d3
        have hjb1:(j:Int)<(h.os[i].r.length:Int):=by omega
        have HSJ:Hid (h.os[i].r[j]? =some h.os[i].r[j]):=Qhu hjn
        generalize h.os[i].r[j]=s at d4 HSJ
        clear er f1
        by_cases hK:h.os[i].k=3
        ·have hKb:(h.os[i].k !=3)=false:=by simp[hK]
         by_cases hj1:j=1
         ·have hjb:((j:Int)==1)=true:=by simp;omega
          have HKC:Hid (h.os[i].k≠3∨j=1):=Or.inr hj1
          clear hK hj1
          generalize h.os[i].k=K at d1 hKb
          have HW:Hid (0≤s→wS (h.os.map Ob.p) h.ds i s):=fun h0=>Qa2 hin HSJ.out HKC.out h0
          by_cases hs0:0≤s
          ·have hs0b:decide (0≤s)=true:=by simpa using hs0
           have HW:Hid (wS (h.os.map Ob.p) h.ds i s):=HW.out hs0
           have HS:Hid (s∈R∧0≤s∧s<h.os.length):=HC.out.found c hin (hq.wf.sub _ HL.out) HW.out
           have c3:=YS va L.length vcap s L wr rfl hseg (by unfold maxLen;omega)
           have HSK:Hid (s∈L→I2h h m i (DR h i (j+1)) L A):=fun hm=>HI.out.dr hin (fun s' hs' _ _=>by rw[HSJ.out]at hs';cases hs';exact hm)
           by_cases hsL:s∈L
           ·have hsd:decide (s∈L)=true:=by simpa using hsL
            have HM:Hid (s∈L):=hsL
            rw[hsd]at c3
            clear hsL hsd
            have hI2:Hid (I2h h m i (DR h i (j+1)) L A):=HSK.out HM.out
            clear HI
            go_wp2_with (go_at_call 16;refine c3.mono ?_;rintro e w' ⟨rfl,rfl⟩)
            go_wp2
            go_roundw
            case rel=>exact⟨j+1,L,A,by go_num,by omega,⟨HL.out,hq⟩,hI2.out⟩
            case measure=>simp[intOf];omega
           ·have hvA:(wr.alloc (Qhq #[Qhr .i64 s] 3)).ownsRow wE.heap.size 3 1 (.slice va L.length vcap) L.length (L.map (Qhr .i64)):=World.ownsRow.alloc hq.own _
            have HN:Hid (s∉L):=hsL
            have hsz:=hq.be.size
            have hsd:decide (s∈L)=false:=by simpa using hsL
            have HQ:Hid (WfW wE h w.heap.size R L0 (.slice va L.length vcap) L A wr):=hq
            rw[hsd]at c3
            clear hsL hq hsd
            go_wp2_with fail
            refine c3.mono ?_
            rintro e w' ⟨rfl,rfl⟩
            go_wp2_with (at_builtin;refine wpList_append_own_at _ rfl _ _ 24 rfl wE.heap.size 3 i0 (.int .i64 0) 1 8 ((Cut.under_eq 24).trans Tryz.underlying24) hi0 hz0 hz1 hz2 rfl (by decide) _ _ _ rfl hvA ⟨w'.heap.size,0,none⟩ 1 1 [.int .i64 s] rfl rfl (cell_one_new _ _ _) ?c2 ?c3 ?c4 ?c5 ?_)
            case c2=>intro u hu;simp at hu;subst hu;rfl
            case c3=>unfold maxLen;omega
            case c4=>omega
            case c5=>simp;omega
            intro v' w2 hown hgr _ _
            have hown':Qa w2 wE.heap.size v' (L++ [s]):=by
             unfold Qa
             simpa using hown
            have hq2:=HQ.out.app HS.out.1 HS.out.2 HN.out hown' hgr
            have hI2:Hid (I2h h m i (DR h i (j+1)) (L++ [s]) (A++ [s])):=I2.add HI.out hin HL.out HW.out HN.out
            clear hown hgr hown' HQ HI c3 hvA
            go_wp2
            go_roundw
            case rel=>exact⟨j+1,L++ [s],A++ [s],by go_num,by omega,⟨List.mem_append.2 (Or.inl HL.out),hq2⟩,hI2.out⟩
            case measure=>simp[intOf];omega
          ·have hs0b:decide (0≤s)=false:=by simpa using hs0
           have HSN:Hid (I2h h m i (DR h i (j+1)) L A):=HI.out.dr hin (fun s' hs' _ h0=>by rw[HSJ.out]at hs';cases hs';exact absurd h0 hs0)
           clear hs0 HW
           have hI2:Hid (I2h h m i (DR h i (j+1)) L A):=HSN.out
           clear HI HSN
           go_wp2
           go_roundw
           case rel=>exact⟨j+1,L,A,by go_num,by omega,⟨HL.out,hq⟩,hI2.out⟩
           case measure=>simp[intOf];omega
         ·have hjb:((j:Int)==1)=false:=by rw[beq_eq_false_iff_ne];omega
          have HSN:Hid (I2h h m i (DR h i (j+1)) L A):=HI.out.dr hin (fun s' _ hk _=>by rcases hk with hk|hk;exact absurd hK hk;exact absurd hk hj1)
          clear hK hj1
          generalize h.os[i].k=K at d1 hKb
          have hI2:Hid (I2h h m i (DR h i (j+1)) L A):=HSN.out
          clear HI HSN
          go_wp2
          go_roundw
          case rel=>exact⟨j+1,L,A,by go_num,by omega,⟨HL.out,hq⟩,hI2.out⟩
          case measure=>simp[intOf];omega
        ·have hKb:(h.os[i].k !=3)=true:=by simp[hK]
         have HKC:Hid (h.os[i].k≠3∨j=1):=Or.inl hK
         clear hK
         generalize h.os[i].k=K at d1 hKb
         have HW:Hid (0≤s→wS (h.os.map Ob.p) h.ds i s):=fun h0=>Qa2 hin HSJ.out HKC.out h0
         by_cases hs0:0≤s
         ·have hs0b:decide (0≤s)=true:=by simpa using hs0
          have HW:Hid (wS (h.os.map Ob.p) h.ds i s):=HW.out hs0
          have HS:Hid (s∈R∧0≤s∧s<h.os.length):=HC.out.found c hin (hq.wf.sub _ HL.out) HW.out
          have c3:=YS va L.length vcap s L wr rfl hseg (by unfold maxLen;omega)
          have HSK:Hid (s∈L→I2h h m i (DR h i (j+1)) L A):=fun hm=>HI.out.dr hin (fun s' hs' _ _=>by rw[HSJ.out]at hs';cases hs';exact hm)
          by_cases hsL:s∈L
          ·have hsd:decide (s∈L)=true:=by simpa using hsL
           have HM:Hid (s∈L):=hsL
           rw[hsd]at c3
           clear hsL hsd
           have hI2:Hid (I2h h m i (DR h i (j+1)) L A):=HSK.out HM.out
           clear HI
           go_wp2_with (go_at_call 16;refine c3.mono ?_;rintro e w' ⟨rfl,rfl⟩)
           go_wp2
           go_roundw
           case rel=>exact⟨j+1,L,A,by go_num,by omega,⟨HL.out,hq⟩,hI2.out⟩
           case measure=>simp[intOf];omega
          ·have hvA:(wr.alloc (Qhq #[Qhr .i64 s] 3)).ownsRow wE.heap.size 3 1 (.slice va L.length vcap) L.length (L.map (Qhr .i64)):=World.ownsRow.alloc hq.own _
           have HN:Hid (s∉L):=hsL
           have hsz:=hq.be.size
           have hsd:decide (s∈L)=false:=by simpa using hsL
           have HQ:Hid (WfW wE h w.heap.size R L0 (.slice va L.length vcap) L A wr):=hq
           rw[hsd]at c3
           clear hsL hq hsd
           go_wp2_with fail
           refine c3.mono ?_
           rintro e w' ⟨rfl,rfl⟩
           go_wp2_with (at_builtin;refine wpList_append_own_at _ rfl _ _ 24 rfl wE.heap.size 3 i0 (.int .i64 0) 1 8 ((Cut.under_eq 24).trans Tryz.underlying24) hi0 hz0 hz1 hz2 rfl (by decide) _ _ _ rfl hvA ⟨w'.heap.size,0,none⟩ 1 1 [.int .i64 s] rfl rfl (cell_one_new _ _ _) ?c2 ?c3 ?c4 ?c5 ?_)
           case c2=>intro u hu;simp at hu;subst hu;rfl
           case c3=>unfold maxLen;omega
           case c4=>omega
           case c5=>simp;omega
           intro v' w2 hown hgr _ _
           have hown':Qa w2 wE.heap.size v' (L++ [s]):=by
            unfold Qa
            simpa using hown
           have hq2:=HQ.out.app HS.out.1 HS.out.2 HN.out hown' hgr
           have hI2:Hid (I2h h m i (DR h i (j+1)) (L++ [s]) (A++ [s])):=I2.add HI.out hin HL.out HW.out HN.out
           clear hown hgr hown' HQ HI c3 hvA
           go_wp2
           go_roundw
           case rel=>exact⟨j+1,L++ [s],A++ [s],by go_num,by omega,⟨List.mem_append.2 (Or.inl HL.out),hq2⟩,hI2.out⟩
           case measure=>simp[intOf];omega
         ·have hs0b:decide (0≤s)=false:=by simpa using hs0
          have HSN:Hid (I2h h m i (DR h i (j+1)) L A):=HI.out.dr hin (fun s' hs' _ h0=>by rw[HSJ.out]at hs';cases hs';exact absurd h0 hs0)
          clear hs0 HW
          have hI2:Hid (I2h h m i (DR h i (j+1)) L A):=HSN.out
          clear HI HSN
          go_wp2
          go_roundw
          case rel=>exact⟨j+1,L,A,by go_num,by omega,⟨HL.out,hq⟩,hI2.out⟩
          case measure=>simp[intOf];omega
       ·have hjb1:decide ((j:Int)<(h.os[i].r.length:Int))=false:=by simp;omega
        have HI2:Hid (I2h h m i (DD h i 0) L A):=HI.out.drEnd hin (by omega)
        clear HI
        go_wp2
        go_loopw [1,8] (fun v i' wr=>∃(j:Nat) (L A:List Int),i'=.int .i64 j∧j≤h.ds.length∧((i:Int)∈L∧WfW wE h w.heap.size R L0 v L A wr)∧I2h h m i (DD h i j) L A) (fun _ i' _=>h.ds.length-(intOf i').toNat)
        case atStart=>exact⟨0,L,A,rfl,Qht _,⟨HL.out,hq⟩,HI2.out⟩
        case round=>
         clear d1 d3 HI2 hlen hseg hjn hjb1 hj
         clear x0 x1 x2 x3 hq HL
         obtain⟨j,L,A,rfl,hj,⟨hiL,hq⟩,hI⟩:=hrel
         have HI:Hid (I2h h m i (DD h i j) L A):=hI
         have HL:Hid ((i:Int)∈L):=hiL
         clear hI hiL
         obtain⟨va,vcap,rfl,hseg,-⟩:=hq.own.form
         obtain⟨x0,x1,x2,x3⟩:=QB hq.bk
         have hlen:=hq.len
         by_cases hjn:j<h.ds.length
         ·obtain⟨db,doff,ed,hdb,e1,e2⟩:=hh.sd.get hjn
          have d1:=(hq.be.cell (p:=⟨db,doff+j*2,none⟩) hdb).trans e1
          have d2:=(hq.be.cell (p:=⟨db,doff+j*2+1,none⟩) hdb).trans e2
          rw[ed]at x3
          have hjb1:(j:Int)<(h.ds.length:Int):=by omega
          have HSJ:Hid (h.ds[j]? =some h.ds[j]):=Qhu hjn
          generalize h.ds[j]=p at d1 d2 HSJ e1 e2
          clear ed e1 e2
          obtain⟨pg,s⟩:=p
          dsimp only at d1 d2
          by_cases hg:pg=(i:Int)
          ·have hgb:(pg ==(i:Int))=true:=by simp[hg]
           have HW:Hid (wS (h.os.map Ob.p) h.ds i s):=Or.inr (by rw[←hg];exact List.mem_of_getElem? HSJ.out)
           have HS:Hid (s∈R∧0≤s∧s<h.os.length):=HC.out.found c hin (hq.wf.sub _ HL.out) HW.out
           have c3:=YS va L.length vcap s L wr rfl hseg (by unfold maxLen;omega)
           have HSK:Hid (s∈L→I2h h m i (DD h i (j+1)) L A):=fun hm=>HI.out.dd (fun s' hs'=>by rw[HSJ.out]at hs';cases hs';exact hm)
           clear hg
           by_cases hsL:s∈L
           ·have hsd:decide (s∈L)=true:=by simpa using hsL
            have HM:Hid (s∈L):=hsL
            rw[hsd]at c3
            clear hsL hsd
            have hI2:Hid (I2h h m i (DD h i (j+1)) L A):=HSK.out HM.out
            clear HI
            go_wp2_with (go_at_call 16;refine c3.mono ?_;rintro e w' ⟨rfl,rfl⟩)
            go_wp2
            go_roundw
            case rel=>exact⟨j+1,L,A,by go_num,by omega,⟨HL.out,hq⟩,hI2.out⟩
            case measure=>simp[intOf];omega
           ·have hvA:(wr.alloc (Qhq #[Qhr .i64 s] 3)).ownsRow wE.heap.size 3 1 (.slice va L.length vcap) L.length (L.map (Qhr .i64)):=World.ownsRow.alloc hq.own _
            have HN:Hid (s∉L):=hsL
            have hsz:=hq.be.size
            have hsd:decide (s∈L)=false:=by simpa using hsL
            have HQ:Hid (WfW wE h w.heap.size R L0 (.slice va L.length vcap) L A wr):=hq
            rw[hsd]at c3
            clear hsL hq hsd
            go_wp2_with fail
            refine c3.mono ?_
            rintro e w' ⟨rfl,rfl⟩
            go_wp2_with (at_builtin;refine wpList_append_own_at _ rfl _ _ 24 rfl wE.heap.size 3 i0 (.int .i64 0) 1 8 ((Cut.under_eq 24).trans Tryz.underlying24) hi0 hz0 hz1 hz2 rfl (by decide) _ _ _ rfl hvA ⟨w'.heap.size,0,none⟩ 1 1 [.int .i64 s] rfl rfl (cell_one_new _ _ _) ?c2 ?c3 ?c4 ?c5 ?_)
            case c2=>intro u hu;simp at hu;subst hu;rfl
            case c3=>unfold maxLen;omega
            case c4=>omega
            case c5=>simp;omega
            intro v' w2 hown hgr _ _
            have hown':Qa w2 wE.heap.size v' (L++ [s]):=by
             unfold Qa
             simpa using hown
            have hq2:=HQ.out.app HS.out.1 HS.out.2 HN.out hown' hgr
            have hI2:Hid (I2h h m i (DD h i (j+1)) (L++ [s]) (A++ [s])):=I2.add HI.out hin HL.out HW.out HN.out
            clear hown hgr hown' HQ HI c3 hvA
            go_wp2
            go_roundw
            case rel=>exact⟨j+1,L++ [s],A++ [s],by go_num,by omega,⟨List.mem_append.2 (Or.inl HL.out),hq2⟩,hI2.out⟩
            case measure=>simp[intOf];omega
          ·have hgb:(pg ==(i:Int))=false:=by simp[hg]
           have HSN:Hid (I2h h m i (DD h i (j+1)) L A):=HI.out.dd (fun s' hs'=>by rw[HSJ.out]at hs';cases hs';exact absurd rfl hg)
           clear hg
           have hI2:Hid (I2h h m i (DD h i (j+1)) L A):=HSN.out
           clear HI HSN
           go_wp2
           go_roundw
           case rel=>exact⟨j+1,L,A,by go_num,by omega,⟨HL.out,hq⟩,hI2.out⟩
           case measure=>simp[intOf];omega
         ·have hjb1:decide ((j:Int)<(h.ds.length:Int))=false:=by simp;omega
          have HI2:Hid (I2h h m (i+1) (fun _=>False) L A):=HI.out.ddEnd hin (by omega)
          clear HI
          go_wp2
          go_roundw
          case rel=>exact⟨i+1,L,A,by go_num,by omega,hq,HI2.out⟩
          case measure=>simp[intOf];omega
     ·have HI1:Hid (I2h h m (i+1) (fun _=>False) L A):=HI.out.skip hiL
      rw[show decide ((i:Int)∈L)=false by simpa using hiL]at c1
      clear hiL HI
      go_wp2_with (go_at_call 16;refine c1.mono ?_;rintro e w' ⟨rfl,rfl⟩)
      go_wp2
      go_roundw
      case rel=>exact⟨i+1,L,A,by go_num,by omega,hq,HI1.out⟩
      case measure=>simp[intOf];omega
    ·have hib:decide ((i:Int)<(h.os.length:Int))=false:=by simp;omega
     have HP:Hid (Cl (h.os.map Ob.p) h.ds h.os.length L∨m+1≤A.length):=by
      have e:i=h.os.length:=by omega
      subst e
      exact I2.pass HI.out
     clear HI
     go_wp2
     go_roundw
     case rel=>exact⟨m+1,L,A,by go_num,by omega,hq,HP.out⟩
     case measure=>simp[intOf];omega
  ·have hmb:decide ((m:Int)≤(h.os.length:Int))=false:=by simp;omega
   have HP:Hid (Cl (h.os.map Ob.p) h.ds h.os.length L):=by
    rcases HCL.out with h1|h1
    ·exact h1
    ·have:=hq.wf.pl.len
     omega
   clear HCL
   go_wp2
   go_ret
   exact⟨_,L,A,rfl,hq.own,hq.be,hq.wf,HP.out⟩
def rootsP (rs:List Int):List Int:=rs.filter fun z=>decide (0≤z)
theorem QfN (rs:List Int)(k:Nat)(hk:k<rs.length):rootsP (rs.take (k+1))=if 0≤rs[k]then rootsP (rs.take k)++ [rs[k]]else rootsP (rs.take k):=by
 unfold rootsP
 rw[List.take_succ_eq_append_getElem hk,List.filter_append]
 by_cases h:0≤rs[k]<;>simp[h]
theorem Qah (rs:List Int)(k:Nat):(rootsP (rs.take k)).length≤k:=Nat.le_trans (List.length_filter_le _ _) (List.length_take_le _ _)
theorem Qg5 (h:Hp)(w:World)(R:List Int)(hh:Qg w h)(c:OkC h)(hC:J4 h R):
 Calls Cut.prog 15 #[h.v] w fun e w'=>∃(v':Value) (L:List Int),e=.returned v'∧Qa w' w.heap.size v' L∧Below w.heap.size w w'∧L.length≤68∧∀z,z∈L↔z∈R:=by
 obtain⟨i0,hi0,hz0,hz1,hz2⟩:=info_parts Ja
 have hr8:=c.r8
 have HC:Hid (J4 h R):=hC
 have hB0:Below w.heap.size w ((w.alloc (Qhq #[Qhp h.oa h.os.length h.ocap,Qhp h.ra h.rs.length h.rcap,Qhp h.wa h.ws.length h.wcap,Qhp h.da h.ds.length h.dcap] 27)).alloc (Qhq #[] 3)):=((Below.refl _ _).alloc (Qhs _) _).alloc (by simp) _
 have hK0:Blk ((w.alloc (Qhq #[Qhp h.oa h.os.length h.ocap,Qhp h.ra h.rs.length h.rcap,Qhp h.wa h.ws.length h.wcap,Qhp h.da h.ds.length h.dcap] 27)).alloc (Qhq #[] 3)) w.heap.size [Qhp h.oa h.os.length h.ocap,Qhp h.ra h.rs.length h.rcap,Qhp h.wa h.ws.length h.wcap,Qhp h.da h.ds.length h.dcap] 27:=(Blk.new w _ _).alloc _
 have hO0:Qa ((w.alloc (Qhq #[Qhp h.oa h.os.length h.ocap,Qhp h.ra h.rs.length h.rcap,Qhp h.wa h.ws.length h.wcap,Qhp h.da h.ds.length h.dcap] 27)).alloc (Qhq #[] 3)) w.heap.size (.slice (some ⟨w.heap.size+1,0,none⟩) 0 0) []:=by
  have:=World.ownsRow_lit (e:=3) (size:=1) (base:=w.heap.size) (w.alloc (Qhq #[Qhp h.oa h.os.length h.ocap,Qhp h.ra h.rs.length h.rcap,Qhp h.wa h.ws.length h.wcap,Qhp h.da h.ds.length h.dcap] 27)) #[] 0 (by simp) (Qht _) rfl
  unfold Qa
  simpa using this
 clear hC
 go_enter (Cut.func_of Tryz.func15 rfl),Tryz.ntmps15
 simp only[Hp.v]
 go_wp2
 go_loopw [3,4] (fun v i wr=>∃k:Nat,i=.int .i64 k∧k≤h.rs.length∧Qa wr w.heap.size v (rootsP (h.rs.take k))∧Blk wr w.heap.size [Qhp h.oa h.os.length h.ocap,Qhp h.ra h.rs.length h.rcap,Qhp h.wa h.ws.length h.wcap,Qhp h.da h.ds.length h.dcap] 27∧Below w.heap.size w wr) (fun _ i _=>h.rs.length-(intOf i).toNat)
 case atStart=>exact⟨0,rfl,Qht _,hO0,hK0,hB0⟩
 case round=>
  obtain⟨k,rfl,hk,hown,hblk,hb⟩:=hrel
  clear hO0 hK0 hB0
  obtain⟨va,vcap,rfl,-⟩:=hown.form
  obtain⟨x0,x1,x2,x3⟩:=QB hblk
  by_cases hlt:k<h.rs.length
  ·obtain⟨rb,roff,er,hrb,f1⟩:=hh.sr.get hlt
   have d1:=(hb.cell (p:=⟨rb,roff+k,none⟩) hrb).trans f1
   rw[er]at x1
   have hkb:(k:Int)<(h.rs.length:Int):=by omega
   have HF:Hid (rootsP (h.rs.take (k+1))=if 0≤h.rs[k]then rootsP (h.rs.take k)++ [h.rs[k]]else rootsP (h.rs.take k)):=QfN _ _ hlt
   have hfl:=Qah h.rs k
   generalize h.rs[k]=s at d1 HF f1
   clear er f1
   by_cases hs0:0≤s
   ·have hs0b:decide (0≤s)=true:=by simpa using hs0
    have HF1:Hid (rootsP (h.rs.take (k+1))=rootsP (h.rs.take k)++ [s]):=by
     show _=_
     rw[HF.out,if_pos hs0]
    clear HF hs0
    generalize rootsP (h.rs.take k)=l at *
    have hvA:(wr.alloc (Qhq #[Qhr .i64 s] 3)).ownsRow w.heap.size 3 1 (.slice va l.length vcap) l.length (l.map (Qhr .i64)):=World.ownsRow.alloc hown _
    have hA:Below wr.heap.size wr (wr.alloc (Qhq #[Qhr .i64 s] 3)):=(Below.refl _ _).alloc (Qhs _) _
    have hbA:=hb.trans (hA.mono hb.size)
    have hkA:=hblk.below hA hblk.lt
    have hoA:=hown.below hA (Qhs _)
    have hsz:=hb.size
    go_wp2_with (at_builtin;refine wpList_append_own_at _ rfl _ _ 24 rfl w.heap.size 3 i0 (.int .i64 0) 1 8 ((Cut.under_eq 24).trans Tryz.underlying24) hi0 hz0 hz1 hz2 rfl (by decide) _ _ _ rfl hvA ⟨wr.heap.size,0,none⟩ 1 1 [.int .i64 s] rfl rfl (cell_one_new _ _ _) ?c2 ?c3 ?c4 ?c5 ?_)
    case c2=>intro u hu;simp at hu;subst hu;rfl
    case c3=>unfold maxLen;omega
    case c4=>omega
    case c5=>simp;omega
    intro v' w2 hown2 hgr _ _
    have hown':Hid (Qa w2 w.heap.size v' (rootsP (h.rs.take (k+1)))):=by
     show Qa _ _ _ _
     rw[HF1.out]
     unfold Qa
     simpa using hown2
    have hb2:=hbA.trans (QL hgr hbA.size (fun k e=>(hoA.lt k e).1))
    have hk2:=hkA.grown hgr (hoA.ne hkA (by decide))
    clear hown2 hgr hvA hA hbA hkA hoA hown hblk hb x0 x1 x2 x3 d1 HF1
    go_wp2
    go_roundw
    case rel=>exact⟨k+1,by go_num,by omega,hown'.out,hk2,hb2⟩
    case measure=>simp[intOf];omega
   ·have hs0b:decide (0≤s)=false:=by simpa using hs0
    have hown':Hid (Qa wr w.heap.size (.slice va (rootsP (h.rs.take k)).length vcap) (rootsP (h.rs.take (k+1)))):=by
     show Qa _ _ _ _
     rw[HF.out,if_neg hs0];exact hown
    clear HF hs0 hown
    go_wp2
    go_roundw
    case rel=>exact⟨k+1,by go_num,by omega,hown'.out,hblk,hb⟩
    case measure=>simp[intOf];omega
  ·have hkb:decide ((k:Int)<(h.rs.length:Int))=false:=by simp;omega
   have et:h.rs.take k=h.rs:=List.take_of_length_le (by omega)
   rw[et]at hown
   have hle:(rootsP h.rs).length≤8:=by
    have:=Qah h.rs k
    rw[et]at this
    omega
   have c1:=Qg2 h w wr (.slice va (rootsP h.rs).length vcap) R (rootsP h.rs) hh c hb hown hle HC.out (fun z hz=>by
    have:=List.mem_filter.1 hz
    exact HC.out.root z this.1 (by simpa using this.2))
   simp only[Hp.v]at c1
   rw[et]
   clear et hown
   go_wp2_with fail
   refine c1.mono ?_
   rintro e w2 ⟨v',L,A,rfl,ho,hb2,hwf,hcl⟩
   have hll:L.length≤68:=by
    have:=hwf.pl.len
    have:=c.n60
    rw[hwf.eq,List.length_append]
    omega
   have hiff:Hid (∀z,z∈L↔z∈R):=fun z=>⟨hwf.sub z,HC.out.all c hwf.sub (fun y hy h0=>by rw[hwf.eq];exact List.mem_append.2 (Or.inl (List.mem_filter.2 ⟨hy,by simpa using h0⟩))) hcl z⟩
   clear hwf hcl c1
   go_wp2
   go_ret
   exact⟨_,L,rfl,ho,hb2,hll,hiff.out⟩
end
namespace Co
open Go.RowKit
set_option linter.unusedSimpArgs false
noncomputable def kdB:Code:=match Tryz.f3.body with
 |some c=>c
 |_=>.skip
noncomputable def kdC:Code:=match kdB with
 | .seq _ (.seq _ (.seq _ c))=>c
 |_=>.skip
noncomputable def kdF:Code:=match kdC with
 | .seq _ c=>c
 |_=>.skip
noncomputable def kdG:Code:=match kdF with
 | .seq _ (.seq _ (.seq _ (.seq _ (.seq _ c))))=>c
 |_=>.skip
noncomputable def kdH:Code:=match kdG with
 | .seq _ c=>c
 |_=>.skip
noncomputable def kdI:Code:=match kdH with
 | .seq _ c=>c
 |_=>.skip
def Z98 (f:Nat→Value):Array Value:=#[f 0,f 1,f 2,f 3,f 4,f 5,f 6,f 7,f 8,f 9,f 10,f 11,f 12,f 13,f 14,f 15,f 16,f 17,f 18,f 19,f 20,f 21,f 22,f 23,f 24,f 25,f 26,f 27,f 28,f 29,f 30,f 31,f 32,f 33,f 34,f 35,f 36,f 37,f 38,f 39,f 40,f 41,f 42,f 43,f 44,f 45,f 46,f 47,f 48,f 49,f 50,f 51,f 52,f 53,f 54,f 55,f 56,f 57,f 58,f 59,f 60,f 61,f 62,f 63,f 64,f 65,f 66,f 67,f 68,f 69,f 70,f 71,f 72,f 73,f 74,f 75,f 76,f 77,f 78,f 79,f 80,f 81,f 82,f 83,f 84,f 85,f 86,f 87,f 88,f 89,f 90,f 91,f 92,f 93,f 94,f 95,f 96,f 97,f 98,f 99,f 100,f 101,f 102,f 103,f 104,f 105,f 106,f 107,f 108,f 109,f 110,f 111,f 112,f 113,f 114,f 115,f 116,f 117,f 118,f 119,f 120,f 121,f 122,f 123,f 124,f 125,f 126,f 127,f 128,f 129,f 130,f 131,f 132,f 133,f 134,f 135,f 136,f 137,f 138,f 139,f 140,f 141,f 142,f 143,f 144,f 145,f 146,f 147,f 148,f 149,f 150,f 151,f 152,f 153,f 154,f 155,f 156,f 157,f 158,f 159,f 160,f 161,f 162,f 163,f 164,f 165,f 166,f 167,f 168,f 169,f 170,f 171,f 172,f 173,f 174,f 175,f 176,f 177,f 178,f 179,f 180,f 181,f 182,f 183,f 184,f 185,f 186,f 187,f 188,f 189,f 190,f 191,f 192,f 193,f 194,f 195,f 196,f 197,f 198,f 199,f 200,f 201,f 202,f 203,f 204,f 205,f 206,f 207,f 208,f 209,f 210,f 211,f 212,f 213,f 214,f 215,f 216,f 217,f 218,f 219,f 220,f 221,f 222,f 223]
theorem Z96 (T:Array Value)(h:T.size=224):∃f:Nat→Value,T=Z98 f:=by
 have e:=QbC T
 rw[h]at e
 exact⟨fun i=>T.getD i undef,e⟩
def KdR (u:World)(a:Act)(w1:World):Prop:=a.defers=[]∧a.tmps.size=224∧a.tmps[2]? =some (.bool true)∧Below u.heap.size u w1
end Co
section
open Go.RowKit
theorem Qgb (h:Hp)(w:World)(hf:Fit w h):
 Calls Cut.prog 9 #[h.v] w fun e w'=>∃(y:Hp) (v:Value),e=.returned (.tuple #[y.v,v])∧OkC y∧(∀W,Qh 27 w' W→Fit W y)∧Below w.heap.size w w':=
 (QaA h w hf).mono fun _ _ ⟨y,v,_,e,c,f,_,_,_,b⟩=>⟨y,v,e,c,f,b⟩
end
end Go.Proofs.YtcpnkpogebjieaaGreat
