/- The program's own MemOk: whether a thing may stand in a heap. -/
import Derived.Test.YtcpnkpogebjieaaGreatG14ImplOk2
import Derived.Stop.RegionWithIn
import Derived.Test.YtcpnkpogebjieaaGreatG12Rs2
open Go.Value renaming slice→Qhp,int→Qhu,ownBlock→Qhv
open Nat renaming le_refl→Qhq,zero_le→Qhw
open Go.Obj renaming cells→Qhr
open Or renaming inl→Qhs,inr→Qht
open List renaming eq_nil_of_length_eq_zero→Qhx,getElem?_cons_zero→Qhy,take_of_length_le→Qhz,take_succ_eq_append_getElem→QhA
set_option maxHeartbeats 4000000
set_option maxRecDepth 100000
namespace Go.Proofs.YtcpnkpogebjieaaGreat
section
open Go.RowKit
theorem Qgt (x:Value)(w:World):(Instr.typeAssert (.iface 106 x) 66 106 true).run Cut.prog w=.ok (.tuple #[x,.bool true]) w:=by kernel_rfl
theorem Qgs (x:Value)(w:World):(Instr.typeAssert (.iface 106 x) 66 108 true).run Cut.prog w=.ok (.tuple #[.agg #[.slice none 0 0],.bool false]) w:=by kernel_rfl
theorem Qgv (x:Value)(w:World):(Instr.typeAssert (.iface 106 x) 66 110 true).run Cut.prog w=.ok (.tuple #[.agg #[.int .i64 0,.int .i64 0],.bool false]) w:=by kernel_rfl
theorem Qgu (x:Value)(w:World):(Instr.typeAssert (.iface 106 x) 66 112 true).run Cut.prog w=.ok (.tuple #[.agg #[],.bool false]) w:=by kernel_rfl
theorem Qgr (x:Value)(w:World):(Instr.typeAssert (.iface 108 x) 66 106 true).run Cut.prog w=.ok (.tuple #[.agg #[.string ⟨#[]⟩],.bool false]) w:=by kernel_rfl
theorem QaG (x:Value)(w:World):(Instr.typeAssert (.iface 108 x) 66 108 true).run Cut.prog w=.ok (.tuple #[x,.bool true]) w:=by kernel_rfl
theorem QgB (x:Value)(w:World):(Instr.typeAssert (.iface 110 x) 66 106 true).run Cut.prog w=.ok (.tuple #[.agg #[.string ⟨#[]⟩],.bool false]) w:=by kernel_rfl
theorem QaK (x:Value)(w:World):(Instr.typeAssert (.iface 110 x) 66 108 true).run Cut.prog w=.ok (.tuple #[.agg #[.slice none 0 0],.bool false]) w:=by kernel_rfl
theorem QaL (x:Value)(w:World):(Instr.typeAssert (.iface 110 x) 66 110 true).run Cut.prog w=.ok (.tuple #[x,.bool true]) w:=by kernel_rfl
theorem QgC (x:Value)(w:World):(Instr.typeAssert (.iface 110 x) 66 112 true).run Cut.prog w=.ok (.tuple #[.agg #[],.bool false]) w:=by kernel_rfl
theorem Qgw (x:Value)(w:World):(Instr.typeAssert (.iface 112 x) 66 106 true).run Cut.prog w=.ok (.tuple #[.agg #[.string ⟨#[]⟩],.bool false]) w:=by kernel_rfl
theorem QaH (x:Value)(w:World):(Instr.typeAssert (.iface 112 x) 66 108 true).run Cut.prog w=.ok (.tuple #[.agg #[.slice none 0 0],.bool false]) w:=by kernel_rfl
theorem QaJ (x:Value)(w:World):(Instr.typeAssert (.iface 112 x) 66 110 true).run Cut.prog w=.ok (.tuple #[.agg #[.int .i64 0,.int .i64 0],.bool false]) w:=by kernel_rfl
theorem QaI (x:Value)(w:World):(Instr.typeAssert (.iface 112 x) 66 112 true).run Cut.prog w=.ok (.tuple #[x,.bool true]) w:=by kernel_rfl
theorem Qgy (w:World):(Instr.typeAssert .nilIface 66 106 true).run Cut.prog w=.ok (.tuple #[.agg #[.string ⟨#[]⟩],.bool false]) w:=by kernel_rfl
theorem Qgx (w:World):(Instr.typeAssert .nilIface 66 108 true).run Cut.prog w=.ok (.tuple #[.agg #[.slice none 0 0],.bool false]) w:=by kernel_rfl
theorem QgA (w:World):(Instr.typeAssert .nilIface 66 110 true).run Cut.prog w=.ok (.tuple #[.agg #[.int .i64 0,.int .i64 0],.bool false]) w:=by kernel_rfl
theorem Qgz (w:World):(Instr.typeAssert .nilIface 66 112 true).run Cut.prog w=.ok (.tuple #[.agg #[],.bool false]) w:=by kernel_rfl
theorem QgK (t:ByteArray)(most:Int)(w:World)(ht:t.size≤maxLen):
 Calls Cut.prog 44 #[.iface 106 (.agg #[.string t]),.int .i64 most] w fun e w'=>e=.returned (.bool (Zp t))∧Below w.heap.size w w':=by
 have f1:=Qgt
 go_enter (Cut.func_of Tryz.func44 rfl),Tryz.ntmps44
 go_wp2_with fail
 refine(QgI _ _ ht).mono ?_
 rintro e w1 ⟨rfl,hb⟩
 go_wp2
 go_ret
 exact⟨rfl,((Below.refl _ _).alloc (Qhq _) _).trans (hb.mono (by simp))⟩
theorem QaP (most:Int)(w:World):
 Calls Cut.prog 44 #[.nilIface,.int .i64 most] w fun e w'=>e=.returned (.bool false)∧Below w.heap.size w w':=by
 have f1:=Qgy
 have f2:=Qgx
 have f3:=QgA
 have f4:=Qgz
 go_enter (Cut.func_of Tryz.func44 rfl),Tryz.ntmps44
 go_wp2
 go_ret
 exact⟨rfl,Below.refl _ _⟩
theorem QbY (a:Option Addr)(n cap:Nat)(w:World):
 Calls Cut.prog 89 #[.agg #[.slice a n cap]] w fun e w'=>e=.returned (.slice a n cap)∧Below w.heap.size w w':=by
 go_enter (Cut.func_of Tryz.func89 rfl),Tryz.ntmps89
 go_wp2
 go_ret
 exact⟨rfl,(Below.refl _ _).alloc (Qhq _) _⟩
theorem QgJ (a:Option Addr)(n cap:Nat)(r:List Int)(most:Int)(w:World)(hl:r.length=n)(hn:n≤maxLen)(h:Qk w a r)(m0:0≤most):
 Calls Cut.prog 44 #[.iface 108 (.agg #[.slice a n cap]),.int .i64 most] w fun e w'=>e=.returned (.bool (decide (n≤6)&&QZ most r))∧Below w.heap.size w w':=by
 have f1:=Qgr
 have f2:=QaG
 have hB0:Below w.heap.size w (w.alloc (Qhr #[Qhp a n cap] 108)):=(Below.refl _ _).alloc (Qhq _) _
 by_cases h6:n≤6
 ·have E:Hid ((decide (n≤6)&&QZ most r)=QZ most r):=by simp[Hid,h6]
  go_enter (Cut.func_of Tryz.func44 rfl),Tryz.ntmps44
  go_wp2_with fail
  refine(QbY _ _ _ _).mono ?_
  rintro e w1 ⟨rfl,hb⟩
  have hbb:=hB0.trans (hb.mono hB0.size)
  clear hb hB0
  go_wp2_with fail
  refine(Vv a n cap r most _ hl hn (h.below hbb (Qhq _)) m0).mono ?_
  rintro e w2 ⟨rfl,rfl⟩
  go_wp2
  go_ret
  exact⟨Qx E.out.symm,hbb⟩
 ·have hd:decide ((n:Int)≤6)=false:=by simp;omega
  have E:Hid ((decide (n≤6)&&QZ most r)=false):=by simp[Hid,h6]
  go_enter (Cut.func_of Tryz.func44 rfl),Tryz.ntmps44
  go_wp2
  go_ret
  exact⟨Qx E.out.symm,hB0⟩
theorem QeO (x:Value)(w:World):(method 324 112 x "loop.example/sismem/impl.parts").run Cut.prog w=.ok (193,x) w:=by kernel_rfl
theorem QeP (x:Value)(w:World):(method 324 110 x "loop.example/sismem/impl.parts").run Cut.prog w=.ok (192,x) w:=by kernel_rfl
theorem QdU (w:World):
 Calls Cut.prog 193 #[.agg #[]] w fun e w'=>e=.returned (.slice none 0 0)∧Below w.heap.size w w':=by
 go_enter (Cut.func_of Tryz.func193 rfl),Tryz.ntmps193
 go_wp2
 go_ret
 exact⟨rfl,(Below.refl _ _).alloc (Qhq _) _⟩
theorem Qhd (x y:Int)(w:World):
 Calls Cut.prog 192 #[.agg #[.int .i64 x,.int .i64 y]] w fun e w'=>e=.returned (.slice (some ⟨w.heap.size+1,0,none⟩) 2 2)∧Below w.heap.size w w'∧Qk w' (some ⟨w.heap.size+1,0,none⟩) [x,y]:=by
 go_enter (Cut.func_of Tryz.func192 rfl),Tryz.ntmps192
 go_wp2
 go_ret
 refine⟨rfl,((Below.refl _ _).alloc (Qhq _) _).alloc (by simp) _,?_⟩
 have hk:=Blk.new (w.alloc (.cells #[.int .i64 x,.int .i64 y] 110)) ([x,y].map (Qhu .i64)) 3
 have:=hk.segI
 simpa using this
theorem QgL (most:Int)(w:World)(m0:0≤most):
 Calls Cut.prog 44 #[.iface 112 (.agg #[]),.int .i64 most] w fun e w'=>e=.returned (.bool true)∧Below w.heap.size w w':=by
 have f1:=Qgw
 have f2:=QaH
 have f3:=QaJ
 have f4:=QaI
 have f5:=QeO
 go_enter (Cut.func_of Tryz.func44 rfl),Tryz.ntmps44
 go_wp2_with fail
 refine(QdU _).mono ?_
 rintro e w1 ⟨rfl,hb⟩
 go_wp2_with fail
 refine(Vv none 0 0 [] most _ rfl (Qhw _) (fun h=>by simp at h) m0).mono ?_
 rintro e w2 ⟨rfl,rfl⟩
 go_wp2
 go_ret
 exact⟨rfl,hb⟩
theorem QgN (x y:Int)(most:Int)(w:World)(m0:0≤most):
 Calls Cut.prog 44 #[.iface 110 (.agg #[.int .i64 x,.int .i64 y]),.int .i64 most] w fun e w'=>e=.returned (.bool (QZ most [x,y]))∧Below w.heap.size w w':=by
 have f1:=QgB
 have f2:=QaK
 have f3:=QaL
 have f4:=QgC
 have f5:=QeP
 go_enter (Cut.func_of Tryz.func44 rfl),Tryz.ntmps44
 go_wp2_with fail
 refine(Qhd _ _ _).mono ?_
 rintro e w1 ⟨rfl,hb,hs⟩
 go_wp2_with fail
 refine(Vv _ 2 2 [x,y] most _ rfl (by unfold maxLen;omega) hs m0).mono ?_
 rintro e w2 ⟨rfl,rfl⟩
 go_wp2
 go_ret
 exact⟨rfl,hb⟩
theorem QgM (k:Int)(t:ByteArray)(a:Option Addr)(n cap:Nat)(r:List Int)(most:Int)(w:World)(hl:r.length=n)(hn:n≤maxLen)(ht:t.size≤maxLen)(h:Qk w a r)(m0:0≤most):
 Calls Cut.prog 44 #[Q3 k t a n cap r,.int .i64 most] w fun e w'=>e=.returned (.bool (Qs most (k,t,r)))∧Below w.heap.size w w':=by
 subst hl
 by_cases h1:k=1∧r.length=0
 ·obtain⟨rfl,hr⟩:=h1
  have hr':r=[]:=Qhx hr
  subst hr'
  have e:Qs most (1,t,[])=Zp t:=by simp[Qs,QZ,QS]
  rw[e]
  have e2:Q3 1 t a ([]:List Int).length cap []=.iface 106 (.agg #[.string t]):=by simp[Q3]
  rw[e2]
  exact QgK t most w ht
 ·have e1:Q3 k t a r.length cap r=if t.size≠0 then .nilIface else if k=2 then .iface 108 (.agg #[.slice a r.length cap])else if k=3∧r.length=2 then .iface 110 (.agg #[.int .i64 (r.getD 0 0),.int .i64 (r.getD 1 0)])else if k=4∧r.length=0 then .iface 112 (.agg #[])else .nilIface:=by
   unfold Q3
   rw[if_neg h1]
  rw[e1]
  by_cases hz:t.size=0
  ·rw[if_neg (by simpa using hz)]
   by_cases h2:k=2
   ·subst h2
    rw[if_pos rfl]
    have e:Qs most (2,t,r)=(decide (r.length≤6)&&QZ most r):=by simp[Qs,QS,hz,Bool.and_comm]
    rw[e]
    exact QgJ a r.length cap r most w rfl hn h m0
   ·rw[if_neg h2]
    by_cases h3:k=3∧r.length=2
    ·obtain⟨rfl,hr⟩:=h3
     rw[if_pos ⟨rfl,hr⟩]
     obtain⟨x,y,rfl⟩:∃x y,r=[x,y]:=by
      match r,hr with
      | [x,y],_=>exact⟨x,y,rfl⟩
     have e:Qs most (3,t,[x,y])=QZ most [x,y]:=by simp[Qs,QS,hz]
     rw[e]
     exact QgN x y most w m0
    ·rw[if_neg h3]
     by_cases h4:k=4∧r.length=0
     ·obtain⟨rfl,hr⟩:=h4
      rw[if_pos ⟨rfl,hr⟩]
      have hr':r=[]:=Qhx hr
      subst hr'
      have e:Qs most (4,t,[])=true:=by simp[Qs,QZ,QS,hz]
      rw[e]
      exact QgL most w m0
     ·rw[if_neg h4]
      have e:Qs most (k,t,r)=false:=by
       have:QS k t r.length=false:=by
        unfold QS
        by_cases q1:k=1
        ·rw[if_pos q1]
         have:¬r.length=0:=fun hh=>h1 ⟨q1,hh⟩
         simp[this]
        ·rw[if_neg q1,if_neg h2]
         by_cases q3:k=3
         ·rw[if_pos q3]
          have:¬r.length=2:=fun hh=>h3 ⟨q3,hh⟩
          simp[this]
         ·rw[if_neg q3]
          by_cases q4:k=4
          ·rw[if_pos q4]
           have:¬r.length=0:=fun hh=>h4 ⟨q4,hh⟩
           simp[this]
          ·rw[if_neg q4]
       simp only[Qs,this,Bool.and_false]
      rw[e]
      exact QaP most w
  ·rw[if_pos hz]
   have e:Qs most (k,t,r)=false:=by
    have:QS k t r.length=false:=by
     unfold QS
     by_cases q1:k=1
     ·rw[if_pos q1]
      have:¬r.length=0:=fun hh=>h1 ⟨q1,hh⟩
      simp[this]
     ·simp[hz,q1]
    simp only[Qs,this,Bool.and_false]
   rw[e]
   exact QaP most w
theorem QgS (da:Option Addr)(dcap:Nat)(ds:List (Int×Int))(x:Int)(w:World)(hd:QE w da ds)(hl:ds.length≤1048576):
 Calls Cut.prog 120 #[.slice da ds.length dcap,.int .i64 x] w fun e w'=>∃v',e=.returned v'∧Qa w' w.heap.size v' (flt ds x)∧Below w.heap.size w w':=by
 obtain⟨i0,hi',hz0,hz1,hz2⟩:=info_parts Ja
 go_enter (Cut.func_of Tryz.func120 rfl),Tryz.ntmps120
 go_wp2
 go_loopw [5,7,10] (fun v _ i wr=>∃k:Nat,k≤ds.length∧i=.int .i64 k∧Qa wr w.heap.size v (flt (ds.take k) x)∧Below w.heap.size w wr) (fun _ _ i _=>ds.length-(intOf i).toNat)
 case atStart=>exact⟨0,Qhw _,rfl,World.ownsRow_nil _ _ _ _,Below.refl _ _⟩
 case round=>
  obtain⟨k,hk,rfl,hown,hb⟩:=hrel
  by_cases hlt:k<ds.length
  ·obtain⟨b5,off5,rfl,hb5,e1,e2⟩:=hd.get hlt
   have d1:=(hb.cell (p:=⟨b5,off5+k*2,none⟩) hb5).trans e1
   have d2:=(hb.cell (p:=⟨b5,off5+k*2+1,none⟩) hb5).trans e2
   clear e1 e2
   have HF:=Om ds x k hlt
   have hfl:=Ol ds x k
   have hA:Below wr.heap.size wr (wr.alloc (Qhr #[Qhu .i64 ds[k].1,Qhu .i64 ds[k].2] 40)):=(Below.refl _ _).alloc (Qhq _) _
   have hownA:=hown.below hA (Qhq _)
   have hbA:=hb.trans (hA.mono hb.size)
   obtain⟨va,vcap,rfl,-⟩:=hown.form
   by_cases hm:(ds[k].1 ==x)=true
   ·rw[if_pos hm]at HF
    have HF':Hid (flt (ds.take (k+1)) x=flt (ds.take k) x++ [ds[k].2]):=HF
    clear HF
    have hvA:((wr.alloc (Qhr #[Qhu .i64 ds[k].1,Qhu .i64 ds[k].2] 40)).alloc (Qhr #[Qhu .i64 ds[k].2] 3)).ownsRow w.heap.size 3 1 (.slice va (flt (ds.take k) x).length vcap) (flt (ds.take k) x).length ((flt (ds.take k) x).map (Qhu .i64)):=World.ownsRow.alloc hownA _
    have hrow:=fun k' h'=>(hown.lt k' h').1
    have hbs:=hb.size
    go_wp2_with (at_builtin;refine wpList_append_own_at _ rfl _ _ 24 rfl w.heap.size 3 i0 (.int .i64 0) 1 8 ((Cut.under_eq 24).trans Tryz.underlying24) hi' hz0 hz1 hz2 rfl (by decide) _ _ _ rfl hvA ⟨wr.heap.size+1,0,none⟩ 1 1 [.int .i64 ds[k].2] rfl rfl ?c1 ?c2 ?c3 ?c4 ?c5 ?_)
    case c1=>
     intro j u hj
     match j,hj with
     |0,hj=>simp at hj;subst hj;simp[Addr.add]
    case c2=>intro u hu;simp at hu;subst hu;rfl
    case c3=>unfold maxLen;omega
    case c4=>omega
    case c5=>simp;omega
    intro v' w2 hown2 hgr _ _
    have hA2:Below wr.heap.size wr ((wr.alloc (Qhr #[Qhu .i64 ds[k].1,Qhu .i64 ds[k].2] 40)).alloc (Qhr #[Qhu .i64 ds[k].2] 3)):=hA.alloc hA.size _
    have hb2:Below w.heap.size w w2:=(hb.trans (hA2.mono hb.size)).trans (QL hgr (Nat.le_trans hb.size hA2.size) hrow)
    have hown3:Hid (Qa w2 w.heap.size v' (flt (ds.take (k+1)) x)):=by
     show Qa _ _ _ _
     rw[HF'.out]
     unfold Qa
     simpa using hown2
    clear hown2 hgr hA hA2 hvA hrow hownA hbA
    go_wp2
    go_roundw
    case rel=>exact⟨k+1,by omega,by go_num,hown3.out,hb2⟩
    case measure=>simp[intOf];omega
   ·rw[if_neg hm]at HF
    have hm':(ds[k].1 ==x)=false:=by simpa using hm
    have HF':Hid (Qa (wr.alloc (Qhr #[Qhu .i64 ds[k].1,Qhu .i64 ds[k].2] 40)) w.heap.size (Qhp va (flt (ds.take k) x).length vcap) (flt (ds.take (k+1)) x)):=by
     show Qa _ _ _ _
     rw[HF];exact hownA
    clear HF hm
    go_wp2
    go_roundw
    case rel=>exact⟨k+1,by omega,by go_num,HF'.out,hbA⟩
    case measure=>simp[intOf];omega
  ·have ek:ds.take k=ds:=Qhz (by omega)
   rw[ek]at hown
   clear ek
   go_wp2
   go_ret
   exact⟨_,rfl,hown,hb⟩
theorem Qc9 (l:List Int)(h:l.length=2)(h1:1<l.length):l.drop 1=[l[1]]:=by
 match l,h with
 | [y,z],_=>simp
theorem Qed {k:Int}{t:ByteArray}{n:Nat}(h:QS k t n=true):(k=1∧n=0)∨(k=2∧t.size=0)∨(k=3∧t.size=0∧n=2)∨(k=4∧t.size=0∧n=0):=by
 unfold QS at h
 split at h
 ·simp only[Bool.and_eq_true,decide_eq_true_eq]at h;exact Qhs ⟨by assumption,h.2⟩
 ·split at h
  ·simp only[Bool.and_eq_true,decide_eq_true_eq]at h;exact Qht (Qhs ⟨by assumption,h.1⟩)
  ·split at h
   ·simp only[Bool.and_eq_true,decide_eq_true_eq]at h;exact Qht (Qht (Qhs ⟨by assumption,h.1,h.2⟩))
   ·split at h
    ·simp only[Bool.and_eq_true,decide_eq_true_eq]at h;exact Qht (Qht (Qht ⟨by assumption,h.1,h.2⟩))
    ·simp at h
theorem QeC (h:Hp)(x:Int)(w:World)(hh:Qg w h)(hs:Zl h)(h0:0≤x)(h1:x<h.os.length)(hok:∀i (hi:i<h.os.length),QS h.os[i].k h.os[i].t h.os[i].r.length=true):
 Calls Cut.prog 94 #[h.v,.int .i64 x] w fun e w'=>∃v,e=.returned v∧∃na ncap,Pq w w' h v (nextP (h.os.map Ob.p) h.ds x) na ncap:=by
 obtain⟨oa,ocap,os,ra,rcap,rs,wa,wcap,ws,da,dcap,ds⟩:=h
 obtain⟨ho,-,-,hd⟩:=hh
 obtain⟨so,soo,-,-,sd⟩:=hs
 simp only[Hp.v]at *
 have hi:x.toNat<os.length:=by omega
 have HN:=Ui (os:=os) (ds:=ds) rfl hi
 have hk:=Qed (hok _ hi)
 obtain⟨b,off,rfl,hbw,c1,c2,c3⟩:=ho.get hi
 have hsg:=ho.2 _ hi
 have Hav:Hid (∀r,Zg (⟨some ⟨b,off,none⟩,ocap,os,ra,rcap,rs,wa,wcap,ws,da,dcap,ds⟩:Hp) r→AvI os[x.toNat].ra os[x.toNat].r.length r):=fun r q=>q.aoo _ hi
 clear hok soo
 generalize nextP (os.map Ob.p) ds x=NX at HN⊢
 have hB0:Below w.heap.size w (w.alloc (Qhr #[Qhp (some ⟨b,off,none⟩) os.length ocap,Qhp ra rs.length rcap,Qhp wa ws.length wcap,Qhp da ds.length dcap] 27)):=(Below.refl _ _).alloc (Qhq _) _
 have hK0:=Blk.new w [Qhp (some ⟨b,off,none⟩) os.length ocap,Qhp ra rs.length rcap,Qhp wa ws.length wcap,Qhp da ds.length dcap] 27
 have cT:=QaO os[x.toNat].k os[x.toNat].t os[x.toNat].ra os[x.toNat].r.length os[x.toNat].rcap os[x.toNat].r _ rfl (hsg.below hB0 (Qhq _))
 rcases hk with⟨k1,kn⟩|⟨k2,kt⟩|⟨k3,kt,kn⟩|⟨k4,kt,kn⟩
 ·have hr:os[x.toNat].r=[]:=Qhx kn
  rw[k1]at HN
  rw[hr]at HN
  simp at HN
  subst HN
  have eV:Q3 os[x.toNat].k os[x.toNat].t os[x.toNat].ra os[x.toNat].r.length os[x.toNat].rcap os[x.toNat].r=.iface 106 (.agg #[.string os[x.toNat].t]):=by simp[Q3,k1,kn]
  rw[eV]at cT
  clear eV k1 kn hr
  have f1:=Qgs
  have f2:=Qgv
  have f3:=Qgu
  go_enter (Cut.func_of Tryz.func94 rfl),Tryz.ntmps94
  go_wp2_with fail
  refine cT.mono ?_
  rintro e w1 ⟨rfl,hb1⟩
  have hB1:=hB0.trans (hb1.mono hB0.size)
  clear cT hb1
  go_wp2
  go_ret
  exact⟨_,rfl,none,0,⟨rfl,fun hm=>by simp at hm,hB1,fun r _ _ hm=>by simp at hm⟩⟩
 ·rw[k2]at HN
  simp at HN
  subst HN
  have eV:Q3 os[x.toNat].k os[x.toNat].t os[x.toNat].ra os[x.toNat].r.length os[x.toNat].rcap os[x.toNat].r=.iface 108 (.agg #[.slice os[x.toNat].ra os[x.toNat].r.length os[x.toNat].rcap]):=by simp[Q3,k2,kt]
  rw[eV]at cT
  clear eV k2 kt
  have f1:=QaG
  go_enter (Cut.func_of Tryz.func94 rfl),Tryz.ntmps94
  go_wp2_with fail
  refine cT.mono ?_
  rintro e w1 ⟨rfl,hb1⟩
  have hB1:=hB0.trans (hb1.mono hB0.size)
  clear cT hb1
  go_wp2
  go_ret
  have hB2:=hB1.alloc hB1.size (Qhr #[Qhp os[x.toNat].ra os[x.toNat].r.length os[x.toNat].rcap] 108)
  exact⟨_,rfl,os[x.toNat].ra,os[x.toNat].rcap,⟨rfl,hsg.below hB2 (Qhq _),hB2,fun r q _=>Hav.out r q⟩⟩
 ·have q1:1<os[x.toNat].r.length:=by omega
  rw[if_pos k3]at HN
  have HN':Hid (NX=[os[x.toNat].r[1]]):=by
   show _=_
   rw[HN];exact Qc9 _ kn q1
  have eV:Q3 os[x.toNat].k os[x.toNat].t os[x.toNat].ra os[x.toNat].r.length os[x.toNat].rcap os[x.toNat].r=.iface 110 (.agg #[.int .i64 (os[x.toNat].r.getD 0 0),.int .i64 os[x.toNat].r[1]]):=by simp[Q3,k3,kt,kn]
  rw[eV]at cT
  clear eV k3 kt kn HN
  have f1:=QaK
  have f2:=QaL
  go_enter (Cut.func_of Tryz.func94 rfl),Tryz.ntmps94
  go_wp2_with fail
  refine cT.mono ?_
  rintro e w1 ⟨rfl,hb1⟩
  have hB1:=hB0.trans (hb1.mono hB0.size)
  clear cT hb1
  go_wp2
  go_ret
  refine⟨_,rfl,some ⟨w1.heap.size+1,0,none⟩,1,⟨?_,?_,?_,fun r _ hr hm y hy=>?_⟩⟩
  ·rw[HN'.out];rfl
  ·rw[HN'.out]
   intro _
   refine⟨w1.heap.size+1,0,rfl,by simp,fun i hi=>?_⟩
   simp at hi
   subst hi
   simp
  ·exact(hB1.alloc hB1.size _).alloc (by simp;have:=hB1.size;omega) _
  ·simp at hy
   subst hy
   intro e
   have h2:w1.heap.size+1<w.heap.size:=hr _ e.symm
   have:=hB1.size
   omega
 ·rw[k4]at HN
  simp at HN
  have HN':Hid (NX=flt ds x):=HN
  have eV:Q3 os[x.toNat].k os[x.toNat].t os[x.toNat].ra os[x.toNat].r.length os[x.toNat].rcap os[x.toNat].r=.iface 112 (.agg #[]):=by simp[Q3,k4,kt,kn]
  rw[eV]at cT
  clear eV k4 kt kn HN
  have f1:=QaH
  have f2:=QaJ
  have f3:=QaI
  go_enter (Cut.func_of Tryz.func94 rfl),Tryz.ntmps94
  go_wp2_with fail
  refine cT.mono ?_
  rintro e w1 ⟨rfl,hb1⟩
  have hB1:=hB0.trans (hb1.mono hB0.size)
  have hK1:=hK0.below hb1 hK0.lt
  have q3:=hK1.cell 3
  simp only[Qhy,List.getElem?_cons_succ]at q3
  have hlt1:=hK1.lt
  have hB2:=hB1.alloc hB1.size (Qhr #[] 112)
  have cD:=QgS da dcap ds x (w1.alloc (Qhr #[] 112)) (hd.below hB2 (Qhq _)) sd
  clear cT hb1
  go_wp2_with fail
  refine cD.mono ?_
  rintro e w2 ⟨v',rfl,hown,hb2⟩
  have hB3:=hB2.trans (hb2.mono hB2.size)
  obtain⟨va,vcap,rfl,hseg,-⟩:=hown.form
  have hrow:=fun k' h'=>(hown.lt k' h').1
  clear cD
  go_wp2
  go_ret
  refine⟨_,rfl,va,vcap,⟨?_,?_,hB3,fun r _ hr hm y hy=>?_⟩⟩
  ·rw[HN'.out];rfl
  ·rw[HN'.out];exact hseg
  ·subst hy
   intro e
   have h2:=hrow y.block rfl
   have h3:=hr y.block e.symm
   have:=hB2.size
   omega
end
section
open Go.RowKit Go.Shelf
attribute [local go_sem] Oper.semAt_some
theorem Qa.same {w w':World}{base:Nat}{v:Value}{zs:List Int}(h:Qa w base v zs)(hs:∀k,v.ownBlock=some k→w'.heap[k]? =w.heap[k]?):Qa w' base v zs:=by
 refine⟨h.1,?_⟩
 rcases h.2 with h1|⟨g,cap,cur,h1,hg,hh,r⟩
 ·exact Qhs h1
 ·refine Qht ⟨g,cap,cur,h1,hg,?_,r⟩
  rw[hs g (by rw[h1];rfl)];exact hh
theorem Blk.same {w w':World}{B t:Nat}{cs:List Value}(h:Blk w B cs t)(hs:w'.heap[B]? =w.heap[B]?):Blk w' B cs t:=by
 unfold Blk at *
 rw[hs];exact h
theorem V3 {M:Nat→Prop}{w w':World}{B:Nat}(h:Below B w w')(hB:w.heap.size≤B):Chg M w w':=⟨h.os,h.tape,h.output,h.size,fun k hk _=>h.block k (by omega)⟩
theorem PE {M:Nat→Prop}{w w':World}{r:Option Nat}{g:Nat}(h:Gr2 w w' r g)(hr:∀k,r=some k→M k)(hg:M g):Chg M w w':=
 ⟨h.os,h.tape,h.output,h.size,fun k hk hm=>h.block k hk (fun e=>hm (hr k e.symm)) (fun e=>hm (e▸hg))⟩
end
section
open Go.RowKit Go.Shelf
attribute [local go_sem] Oper.semAt_some
theorem QaV (os:List (Int×ByteArray×List Int))(ds:List (Int×Int))(f i:Nat)(l:List Int):l<+:traceF os ds f i l:=by
 induction f generalizing i l with
 |zero=>exact List.prefix_refl _
 |succ f ih=>
  unfold traceF
  split
  ·obtain⟨t,ht⟩:=KT l (nextP os ds (l.getD i 0))
   refine List.IsPrefix.trans ?_ (ih _ _)
   rw[ht]
   exact List.prefix_append _ _
  ·exact List.prefix_refl _
theorem PJ (h:Hp)(n Bh:Nat)(w0 w:World)(hn:2≤n)(hh:Qg w0 h)(hw0:Below w0.heap.size w0 w)(hs:Zl h)(hok:okP h.p=true)(hcap:∀(i:Nat) (hi:i<h.os.length),h.os[i].r.length≤h.os[i].rcap)
 (hBh:Blk w Bh [Qhp h.oa h.os.length h.ocap,Qhp h.ra h.rs.length h.rcap,Qhp h.wa h.ws.length h.wcap,Qhp h.da h.ds.length h.dcap] 27):
 VQ (fun x:Int=>#[Qhu .i64 x]) Fence.wide n Cut.prog 91 #[.pointer (some ⟨Bh,0,none⟩)] (traceF (h.os.map Ob.p) h.ds 61 0 (putAll [] h.rs)) (fun k=>k=Bh) w0.heap.size w:=by
 have htr:=UM hok hs hcap
 have hrr:=fun z hz=>(Yf (JS hok).2.2.2.2.1 z hz).2
 have hkd:∀i (hi:i<h.os.length),QS h.os[i].k h.os[i].t h.os[i].r.length=true:=fun i hi=>by
  have:=(JS hok).2.2.2.1 i hi
  simp only[Qs,Ob.p,Bool.and_eq_true]at this
  exact this.2
 have hn60:=htr.n60
 clear hok
 intro l J W hW hJ hY h0
 have HJ:Hid (∀M pre A B,J M pre A→Chg M A B→J (Z3 M A B) pre B):=hJ
 generalize hR:traceF (h.os.map Ob.p) h.ds 61 0 (putAll [] h.rs)=R at hY⊢
 have HR:Hid (traceF (h.os.map Ob.p) h.ds 61 0 (putAll [] h.rs)=R):=hR
 have HY:Hid (∀M pre x W1,J M pre W1→pre++ [x]<+:R→YieldAt Fence.wide (n-1) Cut.prog l #[.int .i64 x] W1 fun e W'=>e=.returned (.bool true)∧J M (pre++ [x]) W'∧(∀k,M k→W'.heap[k]? =W1.heap[k]?)∧Below w0.heap.size W1 W'):=hY
 clear hR hY hJ
 have hro:Fence.wide.round=none:=rfl
 have hn1:1≤n:=by omega
 have hn2:1≤n-1:=by omega
 refine callsIn_of_wp (Cut.func_of Tryz.func91 rfl) rfl trivial ?_ hro
 simp only[Tryz.ntmps91,List.size_toArray,List.length_cons,List.length_nil,Nat.reduceAdd,Nat.reduceSub,Array.replicate_succ,Array.replicate_zero,List.push_toArray,List.append_toArray,List.nil_append,List.cons_append]
 have hKW:=hBh.below hW hBh.lt
 have hB0:Below w0.heap.size w0 W:=hw0.trans (hW.mono hw0.size)
 clear hBh hW hw0
 obtain⟨x0,x1,x2,x3⟩:=QB hKW
 gi_wp2_with fail
 refine⟨trivial,?_⟩
 refine(callsIn_wide.2 (Qe0 h.os.length W hn60)).mono ?_
 rintro e w1 ⟨g,rfl,hb1,hgW,hg1⟩
 have hB1:=hB0.trans (hb1.mono hB0.size)
 have hK1:=hKW.below hb1 hKW.lt
 have hJ1:=HJ.out _ _ _ _ h0 (V3 hb1 (Qhq _))
 have hBhlt:=hKW.lt
 have hglt:=hg1.lt
 have hW1:=hb1.size
 clear hb1 hKW x0 x1 x2 x3 h0
 obtain⟨x0,x1,x2,x3⟩:=QB hK1
 have hBh1:=hK1.lt
 have bT:Below w1.heap.size w1 (w1.alloc (Qhr #[Qhp (some ⟨g,0,none⟩) ((h.os.length+63)/64) ((h.os.length+63)/64)] 117)):=(Below.refl _ _).alloc (Qhq _) _
 have kT:=Blk.new w1 [Qhp (some ⟨g,0,none⟩) ((h.os.length+63)/64) ((h.os.length+63)/64)] 117
 have hB2:=hB1.trans (bT.mono hB1.size)
 have hK2:=hK1.below bT hK1.lt
 have hg2:=hg1.below bT hg1.lt
 have hJ2:=HJ.out _ _ _ _ hJ1 (V3 bT (Qhq _))
 have hset2:Jv (w1.alloc (Qhr #[Qhp (some ⟨g,0,none⟩) ((h.os.length+63)/64) ((h.os.length+63)/64)] 117)) h.os.length g []:=fun hp=>by
  have e1:List.replicate ((h.os.length+63)/64) (Qhu .u64 0)=[Qhu .u64 0]:=by rw[show(h.os.length+63)/64=1 by omega];rfl
  rw[e1]at hg2
  exact⟨0,by simpa using hg2,QbJ⟩
 have hgn0:w0.heap.size≤g:=Nat.le_trans hB0.size hgW
 have c5:=Pt (w1.heap.size+1) g h.os.length (.slice none 0 0) [] h.ra h.rcap h.rs (w1.alloc (Qhr #[Qhp (some ⟨g,0,none⟩) ((h.os.length+63)/64) ((h.os.length+63)/64)] 117)) hn60 (World.ownsRow_nil _ _ _ _) (by simp) (by omega) hset2 (Qq.nil _) ((hh.below hB2 (Qhq _)).sr) hs.r (AvI.none _ _) (hh.sr.av hgn0) hrr
 have hmm:∀k,(k=Bh∨k=g∨k=w1.heap.size)→Z3 (Z3 (fun k=>k=Bh) W w1) w1 (w1.alloc (Qhr #[Qhp (some ⟨g,0,none⟩) ((h.os.length+63)/64) ((h.os.length+63)/64)] 117)) k:=fun k hk=>by
  rcases hk with rfl|rfl|rfl
  ·exact Qhs (Qhs rfl)
  ·exact Qhs (Qht ⟨hgW,hglt⟩)
  ·exact Qht ⟨Qhq _,by simp⟩
 generalize hM2:Z3 (Z3 (fun k=>k=Bh) W w1) w1 (w1.alloc (Qhr #[Qhp (some ⟨g,0,none⟩) ((h.os.length+63)/64) ((h.os.length+63)/64)] 117))=M2 at hmm hJ2
 clear hM2 hJ1
 gi_wp2_with fail
 refine⟨trivial,?_⟩
 refine(callsIn_wide.2 c5).mono ?_
 rintro e w2 ⟨v,rfl,hown,hpl,hset,hgr,hob⟩
 have hJ3:=HJ.out _ _ _ _ hJ2 (PE hgr (fun k e=>by simp[Qhv]at e) (hmm g (Qht (Qhs rfl))))
 have hrow3:∀k,v.ownBlock=some k→Z3 M2 (w1.alloc (Qhr #[Qhp (some ⟨g,0,none⟩) ((h.os.length+63)/64) ((h.os.length+63)/64)] 117)) w2 k:=fun k e=>by
  rcases hob with h1|⟨x,h1,h2⟩
  ·rw[h1]at e;simp[Qhv]at e
  ·rw[h1]at e;simp at e;subst e;exact Qht ⟨h2,(hown.lt _ h1).2⟩
 have hmm3:∀k,(k=Bh∨k=g∨k=w1.heap.size)→Z3 M2 (w1.alloc (Qhr #[Qhp (some ⟨g,0,none⟩) ((h.os.length+63)/64) ((h.os.length+63)/64)] 117)) w2 k:=fun k hk=>Qhs (hmm k hk)
 generalize hM3:Z3 M2 (w1.alloc (Qhr #[Qhp (some ⟨g,0,none⟩) ((h.os.length+63)/64) ((h.os.length+63)/64)] 117)) w2=M3 at hmm3 hJ3 hrow3
 have hgn:g≠Bh:=by omega
 have hB3:Below w0.heap.size w0 w2:=hB2.trans (hgr.below hB2.size (fun k e=>by simp[Qhv]at e) hgn0)
 have hK3:=hK2.gr2 hgr (by simp[Qhv]) (Ne.symm hgn)
 have kT3:=kT.gr2 hgr (by simp[Qhv]) (by omega)
 have hbase:w0.heap.size≤w1.heap.size:=hB1.size
 clear hM3 hmm hJ2 c5 hset2 hgr hob hB2 hK2 hg2 kT bT x0 x1 x2 x3 hK1 hg1 hB1
 gi_wp2
 gi_loopw [4,5] (fun v i wr=>∃(k f:Nat) (l:List Int) (M:Nat→Prop),i=.int .i64 k∧k≤h.os.length∧k≤l.length∧Qa wr (w1.heap.size+1) v l∧Qq h.os.length l∧Jv wr h.os.length g l∧traceF (h.os.map Ob.p) h.ds f k l=R∧h.os.length≤k+f∧J M (l.take k) wr∧(∀x,v.ownBlock=some x→M x)∧(∀x,(x=Bh∨x=g∨x=w1.heap.size)→M x)∧Below w0.heap.size w0 wr∧Blk wr Bh [Qhp h.oa h.os.length h.ocap,Qhp h.ra h.rs.length h.rcap,Qhp h.wa h.ws.length h.wcap,Qhp h.da h.ds.length h.dcap] 27∧Blk wr w1.heap.size [Qhp (some ⟨g,0,none⟩) ((h.os.length+63)/64) ((h.os.length+63)/64)] 117) (fun _ i _=>h.os.length-(intOf i).toNat)
 case atStart=>exact⟨0,61,_,M3,rfl,Qhw _,Qhw _,hown,hpl,hset,HR.out,by omega,hJ3,hrow3,hmm3,hB3,hK3,kT3⟩
 case round=>
  obtain⟨k,f,ls,M,rfl,hkn,hkl,hown,hpl,hset,htr2,hkf,hJr,hrow,hmm,hB,hK,kT⟩:=hrel
  clear hJ3 hrow3 hmm3 hB3 hK3 kT3
  have HT:Hid (traceF (h.os.map Ob.p) h.ds f k ls=R):=htr2
  clear htr2
  have hll:=hpl.len
  obtain⟨va,vcap,rfl,hseg,-⟩:=hown.form
  by_cases hlt:k<ls.length
  ·obtain⟨f',rfl⟩:∃f',f=f'+1:=⟨f-1,by omega⟩
   have hx:=hpl.rng ls[k] (List.getElem_mem hlt)
   have hpre:ls<+:R:=by rw[←HT.out];exact QaV _ _ _ _ _
   have HT2:Hid (traceF (h.os.map Ob.p) h.ds f' (k+1) (putAll ls (nextP (h.os.map Ob.p) h.ds ls[k]))=R):=by
    have:=HT.out
    unfold traceF at this
    rw[if_pos hlt]at this
    have e:ls.getD k 0=ls[k]:=by simp[List.getD,List.getElem?_eq_getElem hlt]
    rw[e]at this
    exact this
   obtain⟨b,off,rfl,hbw,c1⟩:=hseg.get hlt
   have hi1:(k:Int)<(ls.length:Int):=by omega
   obtain⟨fn,tmps,assign,body,hy,hRd⟩:=HY.out M (ls.take k) ls[k] wr hJr (by rw[←QhA hlt];exact(List.take_prefix _ _).trans hpre)
   clear HT
   gi_wp2
   refine hRd.mono ?_
   rintro e W3 ⟨rfl,hJ3,hsame,hb3⟩
   have etk:ls.take k++ [ls[k]]=ls.take (k+1):=(QhA hlt).symm
   rw[etk]at hJ3
   have hown3:=hown.same (w':=W3) (fun x e=>hsame x (hrow x e))
   have hset3:Jv W3 h.os.length g ls:=fun hp=>by
    obtain⟨X,h1,h2⟩:=hset hp
    exact⟨X,h1.same (hsame g (hmm g (Qht (Qhs rfl)))),h2⟩
   have hK3:=hK.same (hsame Bh (hmm Bh (Qhs rfl)))
   have kT3:=kT.same (hsame w1.heap.size (hmm w1.heap.size (Qht (Qht rfl))))
   have hB3:=hB.trans hb3
   clear etk hsame hb3 hown hset hK kT hB hJr hRd hy c1 hbw hseg fn tmps assign body
   have hdr:Below W3.heap.size W3 W3.drew:=(Below.refl _ _).drew
   have hB4:=hB3.trans (hdr.mono hB3.size)
   have hin4:=hh.below hB4 (Qhq _)
   have c2:=QeC h ls[k] W3.drew hin4 hs hx.1 hx.2 hkd
   simp only[Hp.v]at c2
   have hnx:=htr.nx ls[k]
   have hnl:=htr.nl ls[k]
   generalize nextP (h.os.map Ob.p) h.ds ls[k]=nx at c2 HT2 hnx hnl
   have hkn2:k<h.os.length:=by omega
   obtain⟨x0,x1,x2,x3⟩:=QB hK3
   have y0:=kT3.cell 0
   simp only[Qhy]at y0
   obtain⟨va2,vcap2,ev2,hseg3,-⟩:=hown3.form
   have hva:va2=some ⟨b,off,none⟩:=by simp at ev2;exact ev2.1.symm
   subst hva
   clear ev2
   obtain⟨b9,off9,e9,_,c1⟩:=hseg3.get hlt
   have e9':b9=b∧off9=off:=by simp at e9;exact⟨e9.1.symm,e9.2.symm⟩
   obtain⟨rfl,rfl⟩:=e9'
   have hgT:g<W3.heap.size:=by have:=kT3.lt;omega
   have hvav:Zg h (Qhp (some ⟨b9,off9,none⟩) ls.length vcap).ownBlock:=by
    cases e:(Qhp (some ⟨b9,off9,none⟩) ls.length vcap).ownBlock with
    |none=>exact Zg.none h
    |some x=>have:=(hown3.lt x e).1;exact hh.av (by omega)
   have hgav:Zg h (some g):=hh.av hgn0
   have hbS:w1.heap.size+1≤W3.heap.size:=kT3.lt
   clear e9 hseg3
   have K6:Hid (∀(w4:World) (na:Option Addr) (ncap:Nat),Qk w4 na nx→Below W3.drew.heap.size W3.drew w4→(∀r,Zg h r→(∀g,r=some g→g<W3.drew.heap.size)→AvI na nx.length r)→
    Calls Cut.prog 93 #[.slice (some ⟨b9,off9,none⟩) ls.length vcap,.slice na nx.length ncap,.agg #[.slice (some ⟨g,0,none⟩) ((h.os.length+63)/64) ((h.os.length+63)/64)]] w4 fun e w'=>∃v',e=.returned v'∧Qa w' (w1.heap.size+1) v' (putAll ls nx)∧Qq h.os.length (putAll ls nx)∧Jv w' h.os.length g (putAll ls nx)∧Gr2 w4 w' (Qhp (some ⟨b9,off9,none⟩) ls.length vcap).ownBlock g∧(v'.ownBlock=(Qhp (some ⟨b9,off9,none⟩) ls.length vcap).ownBlock∨∃x,v'.ownBlock=some x∧w4.heap.size≤x)):=fun w4 na ncap hsg hbl hav=>by
    have hst:=hdr.trans hbl
    exact Pt (w1.heap.size+1) g h.os.length _ ls na ncap nx w4 hn60 (hown3.below hst (Qhq _)) (Nat.le_trans hbS hst.size) (by omega) (fun hp=>by obtain⟨X,h1,h2⟩:=hset3 hp;exact⟨X,h1.below hst h1.lt,h2⟩) hpl hsg hnl (hav _ hvav (fun x e=>(hown3.lt x e).2)) (hav _ hgav (fun x e=>by cases e;exact hgT)) hnx
   gi_wp2_with fail
   gi_region_with (first
    |(refine⟨trivial,?_⟩;gi_at_call 94;refine(callsIn_wide.2 c2).mono ?_;rintro e w4 ⟨nv,rfl,na,ncap,⟨rfl,hnseg,hnb,hnav⟩⟩;have kT4:=(kT3.below hdr kT3.lt).below hnb kT3.lt;have y4:=kT4.cell 0;simp only[Qhy]at y4)
    |(refine⟨trivial,?_⟩;gi_at_call 93;refine(callsIn_wide.2 (K6.out _ _ _ hnseg hnb hnav)).mono ?_;rintro e w5 ⟨v',rfl,hown5,hpl5,hset5,hgr5,hob5⟩))
   all_goals
    have hst:=hdr.trans hnb
    have hJ5:=HJ.out _ _ _ _ (HJ.out _ _ _ _ hJ3 (V3 hst (Qhq _))) (PE hgr5 (fun x e=>Qhs (hrow x e)) (Qhs (hmm g (Qht (Qhs rfl)))))
    rw[←Qfz ls nx (k+1) hlt]at hJ5
    have hrow5:∀x,v'.ownBlock=some x→Z3 (Z3 M W3 w4) w4 w5 x:=fun x e=>by
     rcases hob5 with h1|⟨y,h1,h2⟩
     ·rw[h1]at e;exact Qhs (Qhs (hrow x e))
     ·rw[h1]at e;cases e;exact Qht ⟨h2,(hown5.lt _ h1).2⟩
    have hmm5:∀x,(x=Bh∨x=g∨x=w1.heap.size)→Z3 (Z3 M W3 w4) w4 w5 x:=fun x hx=>Qhs (Qhs (hmm x hx))
    have hq1:=hB3.trans (hst.mono hB3.size)
    have hB5:Below w0.heap.size w0 w5:=hq1.trans (hgr5.below hq1.size (fun x e=>by have:=(hown3.lt x e).1;omega) hgn0)
    have hK5:=(hK3.below hst hK3.lt).gr2 hgr5 (hown3.ne hK3 (by decide)) (Ne.symm hgn)
    have kT5:=(kT3.below hst kT3.lt).gr2 hgr5 (hown3.ne kT3 (by decide)) (by omega)
    have hl5:=Qfy ls nx
    clear c2 K6 hgr5 hob5 hnb hnav hnseg hst hq1 hJ3 hown3 hset3 hK3 kT3 hB3 hdr hB4 hin4 hvav hgav x0 x1 x2 x3 y0 c1
    gi_wp2
    go_roundw
    case rel=>exact⟨k+1,f',putAll ls nx,_,by go_num,by omega,by omega,hown5,hpl5,hset5,HT2.out,by omega,hJ5,hrow5,hmm5,hB5,hK5,kT5⟩
    case measure=>simp[intOf];omega
  ·have e:R=ls:=by
    have:=HT.out
    rw[←this]
    cases f with
    |zero=>rfl
    |succ f=>unfold traceF;rw[if_neg hlt]
   have e2:ls.take k=ls:=Qhz (by omega)
   rw[e2,←e]at hJr
   gi_wp2
   go_end0
   exact⟨⟨_,rfl⟩,M,hJr⟩
end
end Go.Proofs.YtcpnkpogebjieaaGreat
