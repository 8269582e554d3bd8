/- What guardians are told, plain: what a known guardian watched stays watched if it is -/
import Derived.Test.YtcpnkpogebjieaaGreatG38Va
import Derived.Test.YtcpnkpogebjieaaGreatG15Vm
import Derived.Test.YtcpnkpogebjieaaGreatG35Dt
open List renaming getElem?_eq_getElem→Qhp,length_map→Qhq,getElem_mem→Qhr,getElem_map→Qhs,map_cons→Qht,filter_cons_of_neg→Qhu,map_congr_left→Qhv,mem_cons_self→Qhx,filter_cons_of_pos→Qhy,getElem?_map→Qhz
open Int renaming toNat_natCast→Qhw
namespace Go.Proofs.YtcpnkpogebjieaaGreat
section
theorem Qf6 (h:Hp)(n:Nat){z:Int}(hz:z∈(spS h n).2.2):z∈(spS h (n+1)).2.2:=by
 rw[JK]
 unfold Jj
 refine(QaV _ _ 61 0 _).subset ?_
 rw[KD]
 exact .inl hz
theorem VF (h:Hp){z:Int}(hz:z∈(spS h 0).2.2):∀n,z∈(spS h n).2.2
 |0=>hz
 |n+1=>Qf6 h n (VF h hz n)
theorem Qau (h:Hp):∃n,Qj (spS h n).1 (spS h n).2.2=[]:=by
 have key:∀k n,(spS h n).1.length≤k→∃m,Qj (spS h m).1 (spS h m).2.2=[]:=by
  intro k
  induction k with
  |zero=>
   intro n hn
   have e:(spS h n).1=[]:=List.eq_nil_of_length_eq_zero (by omega)
   exact⟨n,by rw[e];rfl⟩
  |succ k ih=>
   intro n hn
   by_cases ht:Qj (spS h n).1 (spS h n).2.2=[]
   ·exact⟨n,ht⟩
   ·refine ih (n+1) ?_
    rw[JK]
    unfold Jj
    have h1:=UX (spS h n).1 (spS h n).2.2
    have h2:=List.length_pos_iff.2 ht
    dsimp only
    omega
 exact key _ 0 (Nat.le_refl _)
theorem KC {h y:Hp}{ms:List Int}(c:OkC h)(H:∀yy mm,CoP h.p yy mm→yy=y.p∧mm=ms):OkC y:=by
 obtain⟨n,hn⟩:=Qau h
 have hc:CoP h.p _ _:=⟨n,(spS h n).2.2,(spS h n).1,(spS h n).2.1,rfl,hn,rfl,rfl⟩
 obtain⟨e1,e2⟩:=H _ _ hc
 have hm:Qj (spS h n).1 (reachP (h.tells (spS h n).1 (spS h n).2.1).p)=[]:=by rw[←hn];exact(UT _ (spI c n).eq).symm
 obtain⟨f1,f2⟩:=V4 c hm hc
 rw[e1]at f1
 have hR:reachP (h.tells (spS h n).1 (spS h n).2.1).p=traceF (h.os.map Ob.p) (spS h n).2.1 61 0 (putAll [] h.rs):=by
  have e:okP (h.tells (spS h n).1 (spS h n).2.1).p=true:=YA (spI c n).ok
  simp only[reachP,e,if_true]
  rfl
 rw[hR]at f1
 obtain⟨oa,oc,os,ra,rc,rs,wa,wc',ws,da,dc,ds⟩:=y
 simp only[Hp.p,Prod.mk.injEq]at e1 f1
 obtain⟨-,g2,g3,g4⟩:=e1
 have k:=OkC.collect (g:=h.tells (spS h n).1 (spS h n).2.1) (spI c n).ok (X:=traceF (h.os.map Ob.p) (spS h n).2.1 61 0 (putAll [] h.rs)) (by
  have:=(spI c n).ok.comes.pl
  rw[hR]at this
  exact this) (l:=os) f1.1 oa oc ra rc wa wc' da dc
 have e5:rs=(h.tells (spS h n).1 (spS h n).2.1).rs.map (wh (traceF (h.os.map Ob.p) (spS h n).2.1 61 0 (putAll [] h.rs))):=g2.symm
 have e6:ws=Qw (h.tells (spS h n).1 (spS h n).2.1).ws (traceF (h.os.map Ob.p) (spS h n).2.1 61 0 (putAll [] h.rs)):=g3.symm
 have e7:ds=Qw (h.tells (spS h n).1 (spS h n).2.1).ds (traceF (h.os.map Ob.p) (spS h n).2.1 61 0 (putAll [] h.rs)):=g4.symm
 rw[e5,e6,e7]
 exact k
def Z99 (n:Nat):List Int:=(List.range n).map fun(i:Nat)=>(i:Int)
theorem Z94 (n:Nat):(Z99 n).length=n:=by simp[Z99]
theorem Z95 (n i:Nat)(h:i<(Z99 n).length):(Z99 n)[i]=(i:Int):=by simp[Z99]
theorem Z9o {n:Nat}{z:Int}:z∈Z99 n↔0≤z∧z<n:=by
 unfold Z99
 rw[List.mem_map]
 constructor
 ·rintro⟨i,hi,rfl⟩
  rw[List.mem_range]at hi
  omega
 ·rintro⟨h0,h1⟩
  exact⟨z.toNat,List.mem_range.2 (by omega),by omega⟩
section
variable {X:List Int}
theorem Z9O {a b:Int}(ha:a∈X)(h:pos X a=pos X b):a=b:=by
 have h1:=(JI X a).2 ha
 have e1:=Qfv h1
 have e2:=Qfv (h▸h1:0≤pos X b)
 rw[h,e2]at e1
 exact(Option.some.inj e1).symm
theorem Z9N (nd:X.Nodup){i:Nat}(hi:i<X.length):pos X X[i]=i:=by
 have h0:=(JI X X[i]).2 (Qhr hi)
 have hb:=Ul X X[i]
 have hg:=Qfv h0
 have hj:(pos X X[i]).toNat<X.length:=by omega
 rw[Qhp hj,Option.some.injEq]at hg
 have hp:=List.pairwise_iff_getElem.1 nd
 rcases Nat.lt_trichotomy (pos X X[i]).toNat i with h|h|h
 ·exact absurd hg (hp _ _ hj hi h)
 ·omega
 ·exact absurd hg.symm (hp _ _ hi hj h)
theorem Z9p (nd:X.Nodup):X.map (pos X)=Z99 X.length:=by
 apply List.ext_getElem
 ·rw[Qhq,Z94]
 ·intro i h1 h2
  rw[Qhs,Z95,Z9N nd]
theorem Z9C (n:Nat):(Z99 n).Nodup:=by
 refine List.pairwise_iff_getElem.2 fun i j hi hj hij=>?_
 rw[Z95,Z95]
 omega
theorem Z93 {n:Nat}{z:Int}(h0:0≤z)(h:z<n):pos (Z99 n) z=z:=by
 have hi:z.toNat<(Z99 n).length:=by rw[Z94];omega
 have e:=Z9N (Z9C n) hi
 have e2:((z.toNat:Nat):Int)=z:=by omega
 rw[Z95,e2]at e
 exact e
theorem Z9K {n:Nat}{z:Int}(h0:-1≤z)(h:z<n):wh (Z99 n) z=z:=by
 unfold wh
 split
 ·omega
 ·exact Z93 (by omega) h
theorem Z9m {L:List Int}(hL:∀z∈L,z∈X){z:Int}(hz:0≤z→z∈X):put (L.map (pos X)) (wh X z)=(put L z).map (pos X):=by
 by_cases h0:z<0
 ·rw[Qhf h0]
  unfold put
  simp[h0]
 ·have hzX:=hz (by omega)
  have hp:¬pos X z<0:=by have:=(JI X z).2 hzX;omega
  have hm:pos X z∈L.map (pos X)↔z∈L:=by
   rw[List.mem_map]
   exact⟨fun⟨a,ha,e⟩=>Z9O (hL a ha) e▸ha,fun h=>⟨z,h,rfl⟩⟩
  rw[Qhg h0]
  unfold put
  simp only[h0,hp,false_or,hm]
  split
  ·rfl
  ·simp
theorem Z9V:∀(ns L:List Int),(∀z∈L,z∈X)→(∀z∈ns,0≤z→z∈X)→putAll (L.map (pos X)) (ns.map (wh X))=(putAll L ns).map (pos X)
 | [],L,_,_=>rfl
 |n::ns,L,hL,hn=>by
  show putAll (put (L.map (pos X)) (wh X n)) (ns.map (wh X))=(putAll (put L n) ns).map (pos X)
  rw[Z9m hL (hn n Qhx)]
  exact Z9V ns (put L n) (fun z hz=>by
   rcases OR.1 hz with h|⟨h,h0⟩
   ·exact hL z h
   ·subst h;exact hn _ Qhx h0) (fun z hz=>hn z (List.mem_cons_of_mem _ hz))
theorem Z9M {os os':List (Int×ByteArray×List Int)}{ds ds':List (Int×Int)}(hN:∀z∈X,nextP os' ds' (pos X z)=(nextP os ds z).map (wh X))(hC:∀z∈X,∀s∈nextP os ds z,0≤s→s∈X):
 ∀(f i:Nat) (L:List Int),(∀z∈L,z∈X)→traceF os' ds' f i (L.map (pos X))=(traceF os ds f i L).map (pos X)
 |0,_,_,_=>rfl
 |f+1,i,L,hL=>by
  unfold traceF
  rw[Qhq]
  by_cases h:i<L.length
  ·have e1:(L.map (pos X)).getD i 0=pos X (L.getD i 0):=by simp[List.getD,Qhp h]
   have hm:L.getD i 0∈X:=by
    rw[List.getD_eq_getElem?_getD,Qhp h,Option.getD_some]
    exact hL _ (Qhr h)
   rw[if_pos h,if_pos h,e1,hN _ hm,Z9V _ _ hL (hC _ hm)]
   exact Z9M hN hC f (i+1) _ (fun z hz=>by
    rcases Uf.1 hz with q|⟨q,q0⟩
    ·exact hL z q
    ·exact hC _ hm z q q0)
  ·rw[if_neg h,if_neg h]
theorem Z9L {z:Int}(hz:z∈X):∀ {ds:List (Int×Int)},(∀p∈ds,0≤p.2)→((Qo ds X).filter fun p=>p.1 ==pos X z).map (fun p=>p.2)=((ds.filter fun p=>p.1 ==z).map fun p=>p.2).map (wh X)
 | [],_=>rfl
 |p::ds,h0=>by
  have ih:=Z9L hz (ds:=ds) (fun q hq=>h0 q (List.mem_cons_of_mem _ hq))
  have hp0:=h0 p Qhx
  unfold Qo at ih⊢
  by_cases h1:p.1∈X
  ·have q1:decide (0≤pos X p.1)=true:=decide_eq_true ((JI _ _).2 h1)
   rw[Qhy (p:=fun p:Int×Int=>decide (0≤pos X p.1)) q1,Qht]
   by_cases h2:p.1=z
   ·rw[Qhy (by simp[h2]),Qhy (by simp[h2]),Qht,Qht,Qht,ih,Qhg (by omega)]
   ·have h3:¬pos X p.1=pos X z:=fun e=>h2 (Z9O h1 e)
    rw[Qhu (by simpa using h3),Qhu (by simpa using h2),ih]
  ·have q1:¬decide (0≤pos X p.1)=true:=by rw[decide_eq_true_eq,JI];exact h1
   have h2:¬p.1=z:=fun e=>h1 (e▸hz)
   rw[Qhu (p:=fun p:Int×Int=>decide (0≤pos X p.1)) q1,Qhu (by simpa using h2),ih]
theorem Z9R {g y:Hp}(ho:y.os.map Ob.p=(pick g.os X).map (QY X)){z:Int}(hz:z∈X)(hzn:z.toNat<g.os.length):(y.os.map Ob.p)[(pos X z).toNat]? =some (QY X g.os[z.toNat]):=by
 have h0:=(JI X z).2 hz
 have hb:=Ul X z
 have hi:(pos X z).toNat<X.length:=by omega
 have hg:=Qfv h0
 rw[Qhp hi,Option.some.injEq]at hg
 rw[ho,Qhz,Qhp (by rw[YB];exact hi),Option.map_some,O5 (by rw[YB];exact hi) hi (by rw[hg];exact hzn)]
 simp only[hg]
theorem Z9n {g y:Hp}(c:OkC g)(hp:Qq g.os.length X)(ho:y.os.map Ob.p=(pick g.os X).map (QY X))(hd:y.ds=Qo g.ds X){z:Int}(hz:z∈X):nextP (y.os.map Ob.p) y.ds (pos X z)=(nextP (g.os.map Ob.p) g.ds z).map (wh X):=by
 have hr:=hp.rng z hz
 have hzn:z.toNat<g.os.length:=by omega
 rw[Ui rfl hzn,nextP,Z9R ho hz hzn]
 show(if g.os[z.toNat].k=3 then(g.os[z.toNat].r.map (wh X)).drop 1 else if g.os[z.toNat].k=4 then(y.ds.filter fun p=>p.1 ==pos X z).map (fun p=>p.2)else g.os[z.toNat].r.map (wh X))=_
 by_cases k3:g.os[z.toNat].k=3
 ·rw[if_pos k3,if_pos k3,List.map_drop]
 ·rw[if_neg k3,if_neg k3]
  by_cases k4:g.os[z.toNat].k=4
  ·rw[if_pos k4,if_pos k4,hd]
   exact Z9L hz fun p hq=>(Uk c.dd p hq).2.1
  ·rw[if_neg k4,if_neg k4]
end
theorem Z9J {g y:Hp}(c:OkC g)(cy:OkC y)(e:y.p=((pick g.os (reachP g.p)).map (QY (reachP g.p)),g.rs.map (wh (reachP g.p)),Qo g.ws (reachP g.p),Qo g.ds (reachP g.p))):
 reachP y.p=Z99 y.os.length∧CoP y.p y.p (Z99 y.os.length):=by
 have k:=c.comes
 have hT:traceF (y.os.map Ob.p) y.ds 61 0 (putAll [] y.rs)=Z99 y.os.length:=by
  have hX:=c.reach_eq
  generalize reachP g.p=X at *
  simp only[Hp.p,Prod.mk.injEq]at e
  obtain⟨e1,e2,e3,e4⟩:=e
  have hl:y.os.length=X.length:=by
   have:=congrArg List.length e1
   simpa[YB]using this
  rw[e2,show([]:List Int)=[].map (pos X)from rfl,Z9V g.rs [] (fun z hz=>by simp at hz) k.root,Z9M (fun z hz=>Z9n c k.pl e1 e4 hz) k.step 61 0 _ (fun z hz=>by
   rcases Uf.1 hz with q|⟨q,q0⟩
   ·simp at q
   ·exact k.root z q q0),←hX,Z9p k.pl.nd,hl]
 clear e k c
 refine⟨by rw[cy.reach_eq];exact hT,0,Z99 y.os.length,y.ws,y.ds,congrArg (fun t=>(y.ws,y.ds,t)) hT,?_,?_,?_⟩
 ·refine List.eq_nil_iff_forall_not_mem.2 fun p hp=>?_
  obtain⟨h1,_,h3⟩:=Yy.1 hp
  exact h3 (Z9o.2 (Uk cy.wo p h1).2)
 ·have hmv:∀ws:List (Int×Int),(∀p∈ws,Qp (y.os.map Ob.p) p=true)→ws=Qw ws (Z99 y.os.length):=fun ws hw=>by
   unfold Qw
   rw[List.filter_eq_self.2 fun p hp=>?_]
   ·refine((Qhv (g:=fun p=>p) fun p hp=>?_).trans (List.map_id' _)).symm
    obtain⟨⟨a1,a2⟩,b1,b2⟩:=Uk hw p hp
    rw[Z93 a1 a2,Z93 b1 b2]
   ·obtain⟨⟨a1,a2⟩,b1,b2⟩:=Uk hw p hp
    rw[Z93 a1 a2,Z93 b1 b2]
    simp[a1,b1]
  have hT':traceF y.p.1 y.ds 61 0 (putAll [] y.p.2.1)=Z99 y.os.length:=hT
  rw[hT']
  refine Prod.ext ?_ (Prod.ext ?_ (Prod.ext ?_ ?_))
  ·show y.os.map Ob.p=(Z99 y.os.length).map (Vs (y.os.map Ob.p) (Z99 y.os.length))
   apply List.ext_getElem
   ·rw[Qhq,Qhq,Z94]
   ·intro i h1 h2
    rw[Qhq]at h1
    have hr:=cy.refs i h1
    rw[Qhs,Qhs,Z95]
    simp only[Vs,Qhw,Qhz,Qhp h1,Option.map_some,Ob.p]
    rw[(Qhv (g:=fun z=>z) fun z hz=>Z9K (hr z hz).1 (hr z hz).2).trans (List.map_id' _)]
  ·show y.rs=y.rs.map (wh (Z99 y.os.length))
   exact((Qhv (g:=fun z=>z) fun z hz=>Z9K (cy.ro z hz).1 (cy.ro z hz).2).trans (List.map_id' _)).symm
  ·exact hmv y.ws cy.wo
  ·exact hmv y.ds cy.dd
 ·have hT':traceF y.p.1 y.ds 61 0 (putAll [] y.p.2.1)=Z99 y.os.length:=hT
  rw[hT']
  have hl:y.p.1.length=y.os.length:=by simp[Hp.p]
  rw[hl]
  unfold whs
  conv=>lhs;unfold Z99
  refine Qhv fun i hi=>?_
  rw[List.mem_range]at hi
  rw[Z93 (by omega) (by omega)]
theorem Z9Q {h y:Hp}{ms:List Int}(c:OkC h)(H:∀yy mm,CoP h.p yy mm→yy=y.p∧mm=ms):
 ∃g:Hp,OkC g∧g.os=h.os∧g.rs=h.rs∧y.p=((pick g.os (reachP g.p)).map (QY (reachP g.p)),g.rs.map (wh (reachP g.p)),Qo g.ws (reachP g.p),Qo g.ds (reachP g.p))∧ms=whs (reachP g.p) h.os.length∧(∀z∈reachP h.p,z∈reachP g.p)∧((∀p∈h.ws,p.1∈reachP h.p→p.2∈reachP h.p)→g=h):=by
 obtain⟨n,hn⟩:=Qau h
 have hc:CoP h.p _ _:=⟨n,(spS h n).2.2,(spS h n).1,(spS h n).2.1,rfl,hn,rfl,rfl⟩
 obtain⟨e1,e2⟩:=H _ _ hc
 have hm:Qj (spS h n).1 (reachP (h.tells (spS h n).1 (spS h n).2.1).p)=[]:=by rw[←hn];exact(UT _ (spI c n).eq).symm
 obtain⟨f1,f2⟩:=V4 c hm hc
 rw[e1]at f1
 rw[e2]at f2
 have h0:(spS h 0).2.2=reachP h.p:=by rw[c.reach_eq];rfl
 refine⟨h.tells (spS h n).1 (spS h n).2.1,(spI c n).ok,rfl,rfl,f1,f2,fun z hz=>((spI c n).eq z).1 (VF h (by rw[h0];exact hz) n),fun hq=>?_⟩
 have ht:Qj (spS h 0).1 (spS h 0).2.2=[]:=by
  rw[h0]
  refine List.eq_nil_iff_forall_not_mem.2 fun p hp=>?_
  obtain⟨h1,h2,h3⟩:=Yy.1 hp
  exact h3 (hq p h1 h2)
 obtain⟨q1,q2⟩:=QaQ c ht n (Nat.zero_le _)
 rw[q1,q2]
 rfl
structure Z9U (h x:Hp) (ms L:List Int) (i:Nat) (o:Ob):Prop where
 lt:i<ms.length
 bd:-1≤ms[i]∧ms[i]<x.os.length
 kn:(i:Int)∈L→0≤ms[i]
 ob:0≤ms[i]→∃(hx:ms[i].toNat<x.os.length),x.os[ms[i].toNat].k=o.k∧x.os[ms[i].toNat].t=o.t∧∃hl:x.os[ms[i].toNat].r.length=o.r.length,
  ∀k (hk:k<o.r.length),(o.r[k]<0→x.os[ms[i].toNat].r[k]= -1)∧(0≤o.r[k]→∃ht:o.r[k].toNat<ms.length,x.os[ms[i].toNat].r[k]=ms[o.r[k].toNat]∧(ms[o.r[k].toNat]<0→o.k=3∧k=0))
theorem Z9D {h x:Hp}{ms L:List Int}(c:OkC h)(H:∀yy mm,CoP h.p yy mm→yy=x.p∧mm=ms)(hL:∀z,z∈L↔z∈reachP h.p)(i:Nat)(hi:i<h.os.length):Z9U h x ms L i h.os[i]:=by
 obtain⟨g,cg,go,gr,ex,em,hsub,-⟩:=Z9Q c H
 have k:=cg.comes
 have hgl:g.os.length=h.os.length:=by rw[go]
 have hms:∀(z:Int) (h0:0≤z) (hz:z<h.os.length) (hl:z.toNat<ms.length),ms[z.toNat]=pos (reachP g.p) z:=fun z h0 hz hl=>by
  subst em
  exact UW _ _ _ h0 hl
 have hlen:ms.length=h.os.length:=by rw[em,JM]
 have hst:=k.step
 have hpl:=k.pl
 generalize reachP g.p=X at *
 simp only[Hp.p,Prod.mk.injEq]at ex
 obtain⟨e1,-,-,-⟩:=ex
 have hxl:x.os.length=X.length:=by
  have:=congrArg List.length e1
  simpa[YB]using this
 have hil:i<ms.length:=by omega
 have ei:ms[i]=pos X (i:Int):=hms (i:Int) (by omega) (by omega) hil
 have hb:=Ul X (i:Int)
 refine⟨hil,by rw[ei];omega,fun hm=>by rw[ei];exact(JI _ _).2 (hsub _ ((hL _).1 hm)),fun hp=>?_⟩
 rw[ei]at hp
 have hiX:(i:Int)∈X:=(JI _ _).1 hp
 have hx:ms[i].toNat<x.os.length:=by rw[ei];omega
 have hz:=Z9R e1 hiX (by simp only[Qhw];omega)
 have hgi:g.os[(i:Int).toNat]'(by simp only[Qhw];omega)=h.os[i]:=by simp only[Qhw,go]
 rw[hgi,←ei,Qhz,Qhp hx,Option.map_some,Option.some.injEq]at hz
 simp only[Ob.p,QY,Prod.mk.injEq]at hz
 obtain⟨z1,z2,z3⟩:=hz
 have hl:x.os[ms[i].toNat].r.length=h.os[i].r.length:=by rw[z3,Qhq]
 refine⟨hx,z1,z2,hl,fun j hj=>?_⟩
 have er:x.os[ms[i].toNat].r[j]=wh X h.os[i].r[j]:=by simp only[z3,Qhs]
 have hr:=c.refs i hi _ (Qhr hj)
 refine⟨fun hn=>by rw[er,Qhf hn],fun h0=>⟨by omega,?_,fun hm=>?_⟩⟩
 ·rw[er,Qhg (by omega),hms _ h0 hr.2]
 ·rw[hms _ h0 hr.2]at hm
  have hnx:h.os[i].r[j]∉X:=fun q=>by have:=(JI _ _).2 q;omega
  have hnext:h.os[i].r[j]∉nextP (g.os.map Ob.p) g.ds (i:Int):=fun q=>hnx (hst _ hiX _ q h0)
  rw[Ui (i:=i) (by simp) (by omega)]at hnext
  have hgo:g.os[i]'(by omega)=h.os[i]:=by simp only[go]
  rw[hgo]at hnext
  by_cases k3:h.os[i].k=3
  ·refine⟨k3,?_⟩
   rw[if_pos k3]at hnext
   cases j with
   |zero=>rfl
   |succ j=>
    exfalso
    refine hnext (List.mem_of_getElem? (i:=j) ?_)
    rw[List.getElem?_drop,Nat.add_comm 1 j,Qhp hj]
  ·exfalso
   rw[if_neg k3]at hnext
   by_cases k4:h.os[i].k=4
   ·have h1:=c.ob i hi
    simp only[Qs,Ob.p,Bool.and_eq_true]at h1
    have h2:=h1.2
    unfold QS at h2
    rw[k4]at h2
    simp at h2
    rw[h2.2]at hj
    simp at hj
   ·rw[if_neg k4]at hnext
    exact hnext (Qhr hj)
theorem Z9Z {h x:Hp}{ms:List Int}(c:OkC h)(H:∀yy mm,CoP h.p yy mm→yy=x.p∧mm=ms):OkC x∧ms.length=h.os.length∧reachP x.p=Z99 x.os.length∧CoP x.p x.p (Z99 x.os.length):=by
 have cx:=KC c H
 obtain⟨g,cg,go,gr,ex,em,-,-⟩:=Z9Q c H
 obtain⟨a1,a2⟩:=Z9J cg cx ex
 exact⟨cx,by rw[em,JM],a1,a2⟩
end
end Go.Proofs.YtcpnkpogebjieaaGreat
