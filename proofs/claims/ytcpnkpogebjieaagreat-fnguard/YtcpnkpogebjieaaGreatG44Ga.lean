/- The laws' own words on heaps: whether two are the same; whether a watch is among others. -/
import Derived.Test.YtcpnkpogebjieaaGreatG43Ew
import Derived.Test.YtcpnkpogebjieaaGreatG13Eq
import Derived.Test.YtcpnkpogebjieaaGreatG28Dd
import Derived.Test.YtcpnkpogebjieaaGreatG38Va
import Derived.Test.YtcpnkpogebjieaaGreatG15Vm
import Derived.Test.YtcpnkpogebjieaaGreatG35Dt
open Go.Value renaming slice→Qhp,int→Qhs
open Go.Obj renaming cells→Qhq
open Nat renaming le_refl→Qhr,zero_le→Qht
set_option maxHeartbeats 1600000
set_option maxRecDepth 100000
namespace Go.Proofs.YtcpnkpogebjieaaGreat
section
open Go.RowKit
theorem Qa3 (a b:Option Addr)(ca cb:Nat)(xs:List (Int×Int))(w:World)(hx:QE w a xs)(hy:QE w b xs)(hn:xs.length≤1048576):
 Calls Cut.prog 40 #[.slice a xs.length ca,.slice b xs.length cb] w fun e w'=>e=.returned (.bool true)∧Below w.heap.size w w':=by
 go_enter (Cut.func_of Tryz.func40 rfl),Tryz.ntmps40
 go_wp2
 go_loopw [5] (fun i wr=>∃k:Nat,k≤xs.length∧i=.int .i64 k∧Below w.heap.size w wr) (fun i _=>xs.length-(intOf i).toNat)
 case atStart=>exact⟨0,Qht _,rfl,Below.refl _ _⟩
 case round=>
  obtain⟨k,hk,rfl,hb⟩:=hrel
  by_cases hlt:k<xs.length
  ·obtain⟨b1,o1,rfl,hb1,c1,c2⟩:=hx.get hlt
   obtain⟨b2,o2,rfl,hb2,c3,c4⟩:=hy.get hlt
   have d1:=(hb.cell (p:=⟨b1,o1+k*2,none⟩) hb1).trans c1
   have d2:=(hb.cell (p:=⟨b1,o1+k*2+1,none⟩) hb1).trans c2
   have d3:=(hb.cell (p:=⟨b2,o2+k*2,none⟩) hb2).trans c3
   have d4:=(hb.cell (p:=⟨b2,o2+k*2+1,none⟩) hb2).trans c4
   have hi1:(k:Int)<(xs.length:Int):=by omega
   clear c1 c2 c3 c4
   go_wp2_with fail
   go_region
   all_goals
    go_wp2
    go_roundw
    case rel=>exact⟨k+1,by omega,by go_num,ZV hb _⟩
    case measure=>simp[intOf];omega
  ·go_wp2
   go_ret
   exact⟨rfl,hb⟩
theorem Qa0 (a:Option Addr)(ca:Nat)(p:Int×Int)(xs:List (Int×Int))(w:World)(hx:QE w a xs)(hn:xs.length≤1048576):
 Calls Cut.prog 17 #[.slice a xs.length ca,.agg #[.int .i64 p.1,.int .i64 p.2]] w fun e w'=>e=.returned (.bool (decide (p∈xs)))∧Below w.heap.size w w':=by
 obtain⟨p1,p2⟩:=p
 go_enter (Cut.func_of Tryz.func17 rfl),Tryz.ntmps17
 have hA:Below w.heap.size w (w.alloc (Qhq #[Qhs .i64 p1,Qhs .i64 p2] 40)):=(Below.refl _ _).alloc (Qhr _) _
 have hK:=Blk.new w [Qhs .i64 p1,Qhs .i64 p2] 40
 have hKl:=hK.lt
 go_wp2
 generalize w.alloc (Qhq #[Qhs .i64 p1,Qhs .i64 p2] 40)=w0 at *
 go_loopw [5] (fun i wr=>∃k:Nat,k≤xs.length∧i=.int .i64 k∧(∀i (hi:i<xs.length),i<k→xs[i]≠(p1,p2))∧Below w0.heap.size w0 wr) (fun i _=>xs.length-(intOf i).toNat)
 case atStart=>exact⟨0,Qht _,rfl,fun i _ h=>by omega,Below.refl _ _⟩
 case round=>
  obtain⟨k,hk,rfl,htk,hb⟩:=hrel
  have HT:Hid (∀i (hi:i<xs.length),i<k→xs[i]≠(p1,p2)):=htk
  clear htk
  have hbw:=hA.trans (hb.mono hA.size)
  by_cases hlt:k<xs.length
  ·obtain⟨b1,o1,rfl,hb1,c1,c2⟩:=hx.get hlt
   have d1:=(hbw.cell (p:=⟨b1,o1+k*2,none⟩) hb1).trans c1
   have d2:=(hbw.cell (p:=⟨b1,o1+k*2+1,none⟩) hb1).trans c2
   have hK1:=hK.below hb hKl
   have d3:=hK1.cell 0
   have d4:=hK1.cell 1
   simp only[List.getElem?_cons_zero,List.getElem?_cons_succ]at d3 d4
   have hi1:(k:Int)<(xs.length:Int):=by omega
   clear c1 c2
   by_cases he:xs[k]=(p1,p2)
   ·rw[he]at d1 d2
    dsimp only at d1 d2
    have HM:Hid ((p1,p2)∈xs):=(show(p1,p2)∈xs from he▸List.getElem_mem hlt)
    clear he
    go_wp2_with fail
    go_region
    all_goals
     go_wp2
     go_ret
     exact⟨by simp[HM.out],ZV hbw _⟩
   ·have HE:Hid (xs[k]≠(p1,p2)):=he
    have HN:Hid (∀i (hi:i<xs.length),i<k+1→xs[i]≠(p1,p2)):=fun i hi hl=>by
     by_cases e:i=k
     ·subst e;exact HE.out
     ·exact HT.out i hi (by omega)
    by_cases h1:xs[k].1=p1
    ·have h2:¬xs[k].2=p2:=fun e=>he (Prod.ext h1 e)
     rw[h1]at d1
     clear he h1
     go_wp2_with fail
     go_region
     all_goals
      go_wp2
      go_roundw
      case rel=>exact⟨k+1,by omega,by go_num,HN.out,ZV hb _⟩
      case measure=>simp[intOf];omega
    ·clear he
     go_wp2_with fail
     go_region
     all_goals
      go_wp2
      go_roundw
      case rel=>exact⟨k+1,by omega,by go_num,HN.out,ZV hb _⟩
      case measure=>simp[intOf];omega
  ·have HN:Hid ((p1,p2)∉xs):=(show(p1,p2)∉xs from fun hm=>by
    obtain⟨i,hi,e⟩:=List.getElem_of_mem hm
    exact HT.out i hi (by omega) e)
   go_wp2
   go_ret
   exact⟨by simp[HN.out],hbw⟩
theorem Qg4 (a b:Option Addr)(ca cb:Nat)(xs:List Int)(w:World)(hx:Qk w a xs)(hy:Qk w b xs)(hn:xs.length≤1048576):
 Calls Cut.prog 11 #[.slice a xs.length ca,.slice b xs.length cb] w fun e w'=>e=.returned (.bool true)∧∃n,w'=w.drewN n:=by
 go_enter (Cut.func_of Tryz.func11 rfl),Tryz.ntmps11
 go_wp2
 go_loopw [5] (fun i wr=>∃k n:Nat,k≤xs.length∧i=.int .i64 k∧wr=w.drewN n) (fun i _=>xs.length-(intOf i).toNat)
 case atStart=>exact⟨0,0,Qht _,rfl,rfl⟩
 case round=>
  obtain⟨k,n,hk,rfl,rfl⟩:=hrel
  by_cases hlt:k<xs.length
  ·obtain⟨b1,o1,rfl,hb1,c1⟩:=hx.get hlt
   obtain⟨b2,o2,rfl,hb2,c2⟩:=hy.get hlt
   have hi1:(k:Int)<(xs.length:Int):=by omega
   have hne:(xs[k]!=xs[k])=false:=by simp
   go_wp2_with fail
   go_quiet (fail)
   go_wp2
   go_roundw
   case rel=>exact⟨k+1,_,by omega,by go_num,rfl⟩
   case measure=>simp[intOf];omega
  ·go_wp2
   go_ret
   exact⟨rfl,_,rfl⟩
theorem Qa1 (g h:Hp)(w:World)(hp:g.p=h.p)(hg:Qg w g)(hh:Qg w h)(hs:Zl g):
 Calls Cut.prog 10 #[g.v,h.v] w fun e w'=>e=.returned (.bool true)∧Below w.heap.size w w':=by
 obtain⟨oa,ocap,os,ra,rcap,rs,wa,wcap,ws,da,dcap,ds⟩:=g
 obtain⟨oa2,ocap2,os2,ra2,rcap2,rs2,wa2,wcap2,ws2,da2,dcap2,ds2⟩:=h
 obtain⟨ho,hr,hw,hd⟩:=hg
 obtain⟨ho2,hr2,hw2,hd2⟩:=hh
 obtain⟨so,soo,sr,sw,sd⟩:=hs
 simp only[Hp.p,Prod.mk.injEq]at hp
 obtain⟨e1,e2,e3,e4⟩:=hp
 dsimp only at *
 subst e2 e3 e4
 have el:os2.length=os.length:=by have:=congrArg List.length e1;simpa using this.symm
 have HO:Hid (∀i (hi:i<os.length) (hi2:i<os2.length),os2[i].k=os[i].k∧os2[i].t=os[i].t∧os2[i].r=os[i].r):=fun i hi hi2=>by
  have e5:(os.map Ob.p)[i]? =(os2.map Ob.p)[i]? :=by rw[e1]
  rw[List.getElem?_map,List.getElem?_map,List.getElem?_eq_getElem hi,List.getElem?_eq_getElem hi2]at e5
  simp only[Option.map_some,Option.some.injEq,Ob.p,Prod.mk.injEq]at e5
  exact⟨e5.1.symm,e5.2.1.symm,e5.2.2.symm⟩
 have HEL:Hid (os2.length=os.length):=el
 simp only[Hp.v]
 rw[el]
 clear e1 el
 have hA0:Below w.heap.size w (w.alloc (Qhq #[Qhp oa os.length ocap,Qhp ra rs.length rcap,Qhp wa ws.length wcap,Qhp da ds.length dcap] 27)):=(Below.refl _ _).alloc (Qhr _) _
 have hA:Below w.heap.size w ((w.alloc (Qhq #[Qhp oa os.length ocap,Qhp ra rs.length rcap,Qhp wa ws.length wcap,Qhp da ds.length dcap] 27)).alloc (Qhq #[Qhp oa2 os.length ocap2,Qhp ra2 rs.length rcap2,Qhp wa2 ws.length wcap2,Qhp da2 ds.length dcap2] 27)):=hA0.alloc (by simp) _
 have K1:=(Blk.new w [Qhp oa os.length ocap,Qhp ra rs.length rcap,Qhp wa ws.length wcap,Qhp da ds.length dcap] 27).alloc (Qhq #[Qhp oa2 os.length ocap2,Qhp ra2 rs.length rcap2,Qhp wa2 ws.length wcap2,Qhp da2 ds.length dcap2] 27)
 have K2:Blk ((w.alloc (Qhq #[Qhp oa os.length ocap,Qhp ra rs.length rcap,Qhp wa ws.length wcap,Qhp da ds.length dcap] 27)).alloc (Qhq #[Qhp oa2 os.length ocap2,Qhp ra2 rs.length rcap2,Qhp wa2 ws.length wcap2,Qhp da2 ds.length dcap2] 27)) (w.heap.size+1) [Qhp oa2 os.length ocap2,Qhp ra2 rs.length rcap2,Qhp wa2 ws.length wcap2,Qhp da2 ds.length dcap2] 27:=by
  have:=Blk.new (w.alloc (Qhq #[Qhp oa os.length ocap,Qhp ra rs.length rcap,Qhp wa ws.length wcap,Qhp da ds.length dcap] 27)) [Qhp oa2 os.length ocap2,Qhp ra2 rs.length rcap2,Qhp wa2 ws.length wcap2,Qhp da2 ds.length dcap2] 27
  rw[World.size_alloc]at this
  exact this
 go_enter (Cut.func_of Tryz.func10 rfl),Tryz.ntmps10
 go_wp2_with fail
 generalize (w.alloc (Qhq #[Qhp oa os.length ocap,Qhp ra rs.length rcap,Qhp wa ws.length wcap,Qhp da ds.length dcap] 27)).alloc (Qhq #[Qhp oa2 os.length ocap2,Qhp ra2 rs.length rcap2,Qhp wa2 ws.length wcap2,Qhp da2 ds.length dcap2] 27)=w0 at *
 have hN:=hA.size
 have c1:=Qg3 ra ra2 rs.length rs.length rcap rcap2 rs rs w0 rfl rfl (hr.below hA (Qhr _)) (hr2.below hA (Qhr _)) (by unfold maxLen;omega) (by unfold maxLen;omega)
 simp only[decide_true]at c1
 refine c1.mono ?_
 rintro e w1 ⟨rfl,hb1⟩
 have B1:=hA.trans (hb1.mono hA.size)
 have K11:=K1.below hb1 K1.lt
 have K21:=K2.below hb1 K2.lt
 obtain⟨x0,x1,x2,x3⟩:=QB (h:=⟨oa,ocap,os,ra,rcap,rs,wa,wcap,ws,da,dcap,ds⟩) K11
 obtain⟨y0,y1,y2,y3⟩:=Qc K21
 have c2:=Qa3 wa wa2 wcap wcap2 ws w1 (hw.below B1 (Qhr _)) (hw2.below B1 (Qhr _)) sw
 clear c1 hb1 K1 K2 hA hA0 hr hr2
 go_wp2_with fail
 refine c2.mono ?_
 rintro e w2 ⟨rfl,hb2⟩
 have B2:=B1.trans (hb2.mono B1.size)
 have K12:=K11.below hb2 K11.lt
 have K22:=K21.below hb2 K21.lt
 clear x0 x1 x2 x3 y0 y1 y2 y3
 obtain⟨x0,x1,x2,x3⟩:=QB (h:=⟨oa,ocap,os,ra,rcap,rs,wa,wcap,ws,da,dcap,ds⟩) K12
 obtain⟨y0,y1,y2,y3⟩:=Qc K22
 have c3:=Qa3 da da2 dcap dcap2 ds w2 (hd.below B2 (Qhr _)) (hd2.below B2 (Qhr _)) sd
 clear c2 hb2 K11 K21 B1 hw hw2
 go_wp2_with fail
 refine c3.mono ?_
 rintro e w3 ⟨rfl,hb3⟩
 have B3:=B2.trans (hb3.mono B2.size)
 have K13:=K12.below hb3 K12.lt
 have K23:=K22.below hb3 K22.lt
 clear c3 hb3 K12 K22 B2 hd hd2 x0 x1 x2 x3 y0 y1 y2 y3
 go_wp2
 go_loopw [5] (fun i wr=>∃k:Nat,k≤os.length∧i=.int .i64 k∧Below w3.heap.size w3 wr) (fun i _=>os.length-(intOf i).toNat)
 case atStart=>exact⟨0,Qht _,rfl,Below.refl _ _⟩
 case round=>
  obtain⟨k,hk,rfl,hb⟩:=hrel
  have Bw:=B3.trans (hb.mono B3.size)
  have K14:=K13.below hb K13.lt
  have K24:=K23.below hb K23.lt
  obtain⟨x0,-,-,-⟩:=Qc K14
  obtain⟨y0,-,-,-⟩:=Qc K24
  by_cases hlt:k<os.length
  ·have hlt2:k<os2.length:=by rw[HEL.out];exact hlt
   obtain⟨q1,q2,q3⟩:=HO.out k hlt hlt2
   obtain⟨b1,o1,ea,hb1,c1,c2,c3⟩:=ho.get hlt
   obtain⟨b2,o2,eb,hb2,c4,c5,c6⟩:=ho2.get hlt2
   have r1:=ho.2 k hlt
   have r2:=ho2.2 k hlt2
   rw[q1]at c4
   rw[q2]at c5
   rw[q3]at c6 r2
   have d1:=(Bw.cell (p:=⟨b1,o1+k*3,none⟩) hb1).trans c1
   have d2:=(Bw.cell (p:=⟨b1,o1+k*3+1,none⟩) hb1).trans c2
   have d3:=(Bw.cell (p:=⟨b1,o1+k*3+2,none⟩) hb1).trans c3
   have d4:=(Bw.cell (p:=⟨b2,o2+k*3,none⟩) hb2).trans c4
   have d5:=(Bw.cell (p:=⟨b2,o2+k*3+1,none⟩) hb2).trans c5
   have d6:=(Bw.cell (p:=⟨b2,o2+k*3+2,none⟩) hb2).trans c6
   have hi1:(k:Int)<(os.length:Int):=by omega
   have sl:=soo k hlt
   have HA1:Hid (∀m,Calls Cut.prog 11 #[.slice os[k].ra os[k].r.length os[k].rcap,.slice os2[k].ra os[k].r.length os2[k].rcap] (wr.drewN m) fun e w'=>e=.returned (.bool true)∧∃n,w'=wr.drewN n):=fun m=>by
    refine(Qg4 os[k].ra os2[k].ra os[k].rcap os2[k].rcap os[k].r (wr.drewN m) (r1.below (ZV Bw m) (Qhr _)) (r2.below (ZV Bw m) (Qhr _)) sl).mono ?_
    rintro e w' ⟨rfl,n,rfl⟩
    exact⟨rfl,m+n,by simp⟩
   have hne:(os[k].k !=os[k].k)=false:=by simp
   subst ea eb
   clear c1 c2 c3 c4 c5 c6 q1 q2 q3 r1 r2
   go_wp2_with fail
   go_quiet ((go_at_call 11;exact HA1.out _))
   go_wp2
   go_roundw
   case rel=>exact⟨k+1,by omega,by go_num,ZV hb _⟩
   case measure=>simp[intOf];omega
  ·have hkf:decide ((k:Int)<(os.length:Int))=false:=decide_eq_false (by omega)
   go_wp2
   go_ret
   exact⟨rfl,B3.trans (hb.mono B3.size)⟩
end
section
theorem Qf6 (h:Hp)(n:Nat){z:Int}(hz:z∈(spS h n).2.2):z∈(spS h (n+1)).2.2:=by
 rw[JK]
 unfold Jj
 refine(QaV _ _ 61 0 _).subset ?_
 rw[KD]
 exact .inl hz
theorem VF (h:Hp){z:Int}(hz:z∈(spS h 0).2.2):∀n,z∈(spS h n).2.2
 |0=>hz
 |n+1=>Qf6 h n (VF h hz n)
theorem Qay (h:Hp)(n:Nat){p:Int×Int}(hp:p∈(spS h n).2.1):∀m,n≤m→p∈(spS h m).2.1
 |0,hm=>by
  have:n=0:=by omega
  subst this;exact hp
 |m+1,hm=>by
  rcases Nat.lt_or_ge m n with hl|hl
  ·have:n=m+1:=by omega
   subst this;exact hp
  ·rw[JK]
   unfold Jj
   exact List.mem_append_left _ (Qay h n hp m hl)
theorem Qaz (h:Hp){p:Int×Int}(hp:p∈h.ws)(hk:p.2∈(spS h 0).2.2):∀n,p∈(spS h n).1
 |0=>hp
 |n+1=>by
  rw[JK]
  unfold Jj QP
  refine List.mem_filter.2 ⟨Qaz h hp hk n,?_⟩
  have:p∉Qj (spS h n).1 (spS h n).2.2:=fun hm=>(Yy.1 hm).2.2 (VF h hk n)
  simp[this]
theorem Qf8 (h:Hp){p:Int×Int}(hp:p∈h.ws)(h1:p.1∈(spS h 0).2.2)(h2:p.2∉(spS h 0).2.2){n:Nat}(hn:Qj (spS h n).1 (spS h n).2.2=[]):p∈(spS h n).2.1:=by
 have hm:p∈Qj (spS h 0).1 (spS h 0).2.2:=Yy.2 ⟨hp,h1,h2⟩
 cases n with
 |zero=>rw[hn]at hm;cases hm
 |succ n=>
  refine Qay h 1 ?_ (n+1) (by omega)
  rw[JK]
  unfold Jj
  exact List.mem_append_right _ hm
theorem Qa7 {ws:List (Int×Int)}{X:List Int}{p:Int×Int}(hp:p∈ws)(h1:p.1∈X):(pos X p.1,pos X p.2)∈Qo ws X:=by
 unfold Qo
 exact List.mem_map.2 ⟨p,List.mem_filter.2 ⟨hp,by rw[decide_eq_true_eq,JI];exact h1⟩,rfl⟩
theorem Qa5 (ws:List (Int×Int))(X:List Int):(Qo ws X).length=(ws.filter fun p=>decide (p.1∈X)).length:=by
 unfold Qo
 rw[List.length_map]
 congr 1
 refine List.filter_congr fun p _=>?_
 rw[Bool.eq_iff_iff,decide_eq_true_eq,decide_eq_true_eq,JI]
theorem Qaw (h:Hp):∀n,((spS h n).1.filter fun p=>decide (p.1∈(spS h 0).2.2)&&decide (p.2∈(spS h 0).2.2))=h.ws.filter fun p=>decide (p.1∈(spS h 0).2.2)&&decide (p.2∈(spS h 0).2.2)
 |0=>rfl
 |n+1=>by
  rw[←Qaw h n,JK]
  unfold Jj QP
  rw[List.filter_filter]
  refine List.filter_congr fun p _=>?_
  cases hq:(decide (p.1∈(spS h 0).2.2)&&decide (p.2∈(spS h 0).2.2))with
  |false=>simp
  |true=>
   simp only[Bool.and_eq_true,decide_eq_true_eq]at hq
   have:p∉Qj (spS h n).1 (spS h n).2.2:=fun hm=>(Yy.1 hm).2.2 (VF h hq.2 n)
   simp[this]
theorem Oj {α:Type}(l:List α)(f g:α→Bool)(h:∀x∈l,f x=true→g x=true):(l.filter f).length≤(l.filter g).length:=by
 induction l with
 |nil=>simp
 |cons a l ih=>
  have ih':=ih fun x hx=>h x (List.mem_cons_of_mem _ hx)
  rw[List.filter_cons,List.filter_cons]
  cases hf:f a with
  |true=>rw[h a List.mem_cons_self hf];simp;exact ih'
  |false=>cases g a<;>simp<;>omega
theorem Qf9 (h:Hp)(n:Nat){X:List Int}(hX:∀z,z∈(spS h 0).2.2→z∈X):(h.ws.filter fun p=>decide (p.1∈(spS h 0).2.2)&&decide (p.2∈(spS h 0).2.2)).length≤(Qo (spS h n).1 X).length:=by
 rw[Qa5,←Qaw h n]
 refine Oj _ _ _ fun p _ hp=>?_
 simp only[Bool.and_eq_true,decide_eq_true_eq]at hp
 exact decide_eq_true (hX _ hp.1)
theorem Qav (h:Hp):∀n,∃r,(spS h (n+1)).2.1=(h.ds++Qj h.ws (spS h 0).2.2)++r
 |0=>⟨[],by rw[JK];unfold Jj;rw[List.append_nil];rfl⟩
 |n+1=>by
  obtain⟨r,hr⟩:=Qav h n
  rw[JK h (n+1)]
  unfold Jj
  rw[hr]
  exact⟨_,List.append_assoc _ _ _⟩
theorem QgO (ws:List (Int×Int))(K:List Int):Qj ws K=ws.filter fun p=>decide (p.1∈K)&& !decide (p.2∈K):=by
 unfold Qj
 refine List.filter_congr fun p _=>?_
 rw[Bool.eq_iff_iff]
 simp only[Bool.and_eq_true,decide_eq_true_eq,Bool.not_eq_true',decide_eq_false_iff_not,JI]
 rw[←Int.not_le,JI]
theorem Qf7 (h:Hp){n:Nat}(hn:Qj (spS h n).1 (spS h n).2.2=[]){X:List Int}(hX:∀z,z∈(spS h 0).2.2→z∈X):
 (h.ds.filter fun p=>decide (p.1∈(spS h 0).2.2)).length+(h.ws.filter fun p=>decide (p.1∈(spS h 0).2.2)&& !decide (p.2∈(spS h 0).2.2)).length≤(Qo (spS h n).2.1 X).length:=by
 rw[Qa5,←QgO]
 have h1:(h.ds.filter fun p=>decide (p.1∈(spS h 0).2.2)).length≤(h.ds.filter fun p=>decide (p.1∈X)).length:=Oj _ _ _ fun p _ hp=>by
  rw[decide_eq_true_eq]at hp;exact decide_eq_true (hX _ hp)
 cases n with
 |zero=>
  have:Qj h.ws (spS h 0).2.2=[]:=hn
  rw[this]
  exact h1
 |succ n=>
  obtain⟨r,hr⟩:=Qav h n
  rw[hr,List.filter_append,List.filter_append,List.length_append,List.length_append]
  have h2:((Qj h.ws (spS h 0).2.2).filter fun p=>decide (p.1∈X))=Qj h.ws (spS h 0).2.2:=List.filter_eq_self.2 fun p hp=>decide_eq_true (hX _ (Yy.1 hp).2.1)
  rw[h2]
  omega
theorem Qax (h:Hp):∀n,(spS h n).1.length+(spS h n).2.1.length=h.ws.length+h.ds.length
 |0=>rfl
 |n+1=>by
  have ih:=Qax h n
  rw[JK]
  unfold Jj
  have:=UX (spS h n).1 (spS h n).2.2
  rw[List.length_append]
  dsimp only
  omega
theorem Qau (h:Hp):∃n,Qj (spS h n).1 (spS h n).2.2=[]:=by
 have key:∀k n,(spS h n).1.length≤k→∃m,Qj (spS h m).1 (spS h m).2.2=[]:=by
  intro k
  induction k with
  |zero=>
   intro n hn
   have e:(spS h n).1=[]:=List.eq_nil_of_length_eq_zero (by omega)
   exact⟨n,by rw[e];rfl⟩
  |succ k ih=>
   intro n hn
   by_cases ht:Qj (spS h n).1 (spS h n).2.2=[]
   ·exact⟨n,ht⟩
   ·refine ih (n+1) ?_
    rw[JK]
    unfold Jj
    have h1:=UX (spS h n).1 (spS h n).2.2
    have h2:=List.length_pos_iff.2 ht
    dsimp only
    omega
 exact key _ 0 (Qhr _)
theorem QeL {h y:Hp}{ms:List Int}(c:OkC h)(H:∀yy mm,CoP h.p yy mm→yy=y.p∧mm=ms):
 ∃n,Qj (spS h n).1 (spS h n).2.2=[]∧y.ws=Qo (spS h n).1 (reachP (h.tells (spS h n).1 (spS h n).2.1).p)∧y.ds=Qo (spS h n).2.1 (reachP (h.tells (spS h n).1 (spS h n).2.1).p)∧ms=whs (reachP (h.tells (spS h n).1 (spS h n).2.1).p) h.os.length∧
  ∀z,z∈(spS h 0).2.2→z∈reachP (h.tells (spS h n).1 (spS h n).2.1).p:=by
 obtain⟨n,hn⟩:=Qau h
 have hc:CoP h.p _ _:=⟨n,(spS h n).2.2,(spS h n).1,(spS h n).2.1,rfl,hn,rfl,rfl⟩
 obtain⟨e1,e2⟩:=H _ _ hc
 have hm:Qj (spS h n).1 (reachP (h.tells (spS h n).1 (spS h n).2.1).p)=[]:=by rw[←hn];exact(UT _ (spI c n).eq).symm
 obtain⟨f1,f2⟩:=V4 c hm hc
 rw[e1]at f1
 rw[e2]at f2
 simp only[Hp.p,Prod.mk.injEq]at f1
 exact⟨n,hn,f1.2.2.1,f1.2.2.2,f2,fun z hz=>((spI c n).eq z).1 (VF h hz n)⟩
theorem KC {h y:Hp}{ms:List Int}(c:OkC h)(H:∀yy mm,CoP h.p yy mm→yy=y.p∧mm=ms):OkC y:=by
 obtain⟨n,hn⟩:=Qau h
 have hc:CoP h.p _ _:=⟨n,(spS h n).2.2,(spS h n).1,(spS h n).2.1,rfl,hn,rfl,rfl⟩
 obtain⟨e1,e2⟩:=H _ _ hc
 have hm:Qj (spS h n).1 (reachP (h.tells (spS h n).1 (spS h n).2.1).p)=[]:=by rw[←hn];exact(UT _ (spI c n).eq).symm
 obtain⟨f1,f2⟩:=V4 c hm hc
 rw[e1]at f1
 have hR:reachP (h.tells (spS h n).1 (spS h n).2.1).p=traceF (h.os.map Ob.p) (spS h n).2.1 61 0 (putAll [] h.rs):=by
  have e:okP (h.tells (spS h n).1 (spS h n).2.1).p=true:=YA (spI c n).ok
  simp only[reachP,e,if_true]
  rfl
 rw[hR]at f1
 obtain⟨oa,oc,os,ra,rc,rs,wa,wc',ws,da,dc,ds⟩:=y
 simp only[Hp.p,Prod.mk.injEq]at e1 f1
 obtain⟨-,g2,g3,g4⟩:=e1
 have k:=OkC.collect (g:=h.tells (spS h n).1 (spS h n).2.1) (spI c n).ok (X:=traceF (h.os.map Ob.p) (spS h n).2.1 61 0 (putAll [] h.rs)) (by
  have:=(spI c n).ok.comes.pl
  rw[hR]at this
  exact this) (l:=os) f1.1 oa oc ra rc wa wc' da dc
 have e5:rs=(h.tells (spS h n).1 (spS h n).2.1).rs.map (wh (traceF (h.os.map Ob.p) (spS h n).2.1 61 0 (putAll [] h.rs))):=g2.symm
 have e6:ws=Qw (h.tells (spS h n).1 (spS h n).2.1).ws (traceF (h.os.map Ob.p) (spS h n).2.1 61 0 (putAll [] h.rs)):=g3.symm
 have e7:ds=Qw (h.tells (spS h n).1 (spS h n).2.1).ds (traceF (h.os.map Ob.p) (spS h n).2.1 61 0 (putAll [] h.rs)):=g4.symm
 rw[e5,e6,e7]
 exact k
end
end Go.Proofs.YtcpnkpogebjieaaGreat
