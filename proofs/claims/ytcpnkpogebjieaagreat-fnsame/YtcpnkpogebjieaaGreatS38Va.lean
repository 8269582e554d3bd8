/- What the law's own search comes to is what MemReach tells: plain. No Go function is -/
import Derived.Test.YtcpnkpogebjieaaGreatS31Di
import Derived.Test.YtcpnkpogebjieaaGreatS37Vj
import Derived.Stop.RegionWithIn
import Derived.Test.YtcpnkpogebjieaaGreatS10Vc
import Derived.Test.YtcpnkpogebjieaaGreatS14ImplOk4
import Derived.Lib.SliceRun
import Derived.Deep.RegionLaw
import Derived.Test.YtcpnkpogebjieaaGreatS26Da
import Derived.Test.YtcpnkpogebjieaaGreatS16Sr1
import Derived.Test.YtcpnkpogebjieaaGreatS30De
open Or renaming inr→QhR,inl→QhS
open List renaming getElem?_eq_getElem→QhT,getElem_of_mem→QhU,getD_eq_getElem?_getD→QhV,take_succ_eq_append_getElem→QhW,getElem?_cons_zero→QhX
set_option maxHeartbeats 2000000
set_option maxRecDepth 100000
namespace Go.Proofs.YtcpnkpogebjieaaGreat
section
open Go.RowKit
theorem Pd {l:List Int}{z y:Int}:y∈put l z↔y∈l∨(y=z∧0≤z):=by
 unfold put;split
 ·rename_i h;constructor
  ·exact QhS
  ·rintro(h'|⟨rfl,h0⟩)
   ·exact h'
   ·rcases h with h|h
    ·omega
    ·exact h
 ·rename_i h;simp only[List.mem_append,List.mem_singleton];constructor
  ·rintro(h'|rfl)
   ·exact QhS h'
   ·exact QhR ⟨rfl,by omega⟩
  ·rintro(h'|⟨rfl,_⟩)
   ·exact QhS h'
   ·exact QhR rfl
theorem YH {l ns:List Int}{y:Int}:y∈putAll l ns↔y∈l∨(y∈ns∧0≤y):=by
 unfold putAll
 induction ns generalizing l with
 |nil=>simp
 |cons z ns ih=>
  rw[List.foldl_cons,ih,Pd];simp only[List.mem_cons];constructor
  ·rintro((h|⟨rfl,h⟩)|⟨h,h0⟩)
   ·exact QhS h
   ·exact QhR ⟨QhS rfl,h⟩
   ·exact QhR ⟨QhR h,h0⟩
  ·rintro(h|⟨rfl|h,h0⟩)
   ·exact QhS (QhS h)
   ·exact QhS (QhR ⟨rfl,h0⟩)
   ·exact QhR ⟨h,h0⟩
theorem Qby {os:List (Int×ByteArray×List Int)}{ds:List (Int×Int)}{C:Int→Prop}(hC:∀z,C z→∀s∈nextP os ds z,0≤s→C s)(f i:Nat){l:List Int}(hl:∀z∈l,C z):∀z∈traceF os ds f i l,C z:=by
 induction f generalizing i l with
 |zero=>exact hl
 |succ f ih=>
  unfold traceF;split
  ·rename_i hi;refine ih (i+1) (fun z hz=>?_);rcases YH.1 hz with hz|⟨hz,h0⟩
   ·exact hl z hz
   ·exact hC _ (hl _ (by rw[QhV,QhT hi];exact List.getElem_mem hi)) z hz h0
  ·exact hl
theorem Qbw {os:List (Int×ByteArray×List Int)}{ds:List (Int×Int)}{n:Nat}(hn:∀x,∀z∈nextP os ds x,z<n)(f i:Nat){l:List Int}(hl:Qr n l)(hf:n<f+i)(hc:∀j (hj:j<l.length),j<i→∀s∈nextP os ds l[j],0≤s→s∈l):
 (∀z∈l,z∈traceF os ds f i l)∧∀z∈traceF os ds f i l,∀s∈nextP os ds z,0≤s→s∈traceF os ds f i l:=by
 induction f generalizing i l with
 |zero=>
  show(∀z∈l,z∈l)∧∀z∈l,∀s∈nextP os ds z,0≤s→s∈l;refine⟨fun z hz=>hz,fun z hz s hs h0=>?_⟩;obtain⟨j,hj,rfl⟩:=QhU hz;have:=hl.len;exact hc j hj (by omega) s hs h0
 |succ f ih=>
  unfold traceF;split
  ·rename_i hi;have hg:l.getD i 0=l[i]:=by rw[QhV,QhT hi];rfl
   rw[hg];obtain⟨t,ht⟩:=Pu l (nextP os ds l[i])
   obtain⟨h1,h2⟩:=ih (i+1) (hl.putAll (hn l[i])) (by omega) (fun j hj hji s hs h0=>by
    have hjl:j<l.length:=by omega
    have e:(putAll l (nextP os ds l[i]))[j]=l[j]:=by
     simp only[ht];exact List.getElem_append_left hjl
    rw[e]at hs;by_cases e:j=i
    ·subst e;exact YH.2 (QhR ⟨hs,h0⟩)
    ·exact YH.2 (QhS (hc j hjl (by omega) s hs h0)))
   exact⟨fun z hz=>h1 z (YH.2 (QhS hz)),h2⟩
  ·rename_i hi;refine⟨fun z hz=>hz,fun z hz s hs h0=>?_⟩;obtain⟨j,hj,rfl⟩:=QhU hz;exact hc j hj (by omega) s hs h0
def wS (os:List (Int×ByteArray×List Int))(ds:List (Int×Int))(i:Nat)(s:Int):Prop:=
 (∃o,os[i]? =some o∧∃k,o.2.2[k]? =some s∧(o.1≠3∨k=1)∧0≤s)∨((i:Int),s)∈ds
def Cl (os:List (Int×ByteArray×List Int))(ds:List (Int×Int))(k:Nat)(L:List Int):Prop:=
 ∀i:Nat,i<k→(i:Int)∈L→∀s,wS os ds i s→s∈L
def I2 (os:List (Int×ByteArray×List Int))(ds:List (Int×Int))(n m i:Nat)(D:Int→Prop)(L A:List Int):Prop:=
 Cl os ds n L∨m+1≤A.length∨(Cl os ds i L∧(∀s,D s→s∈L)∧m≤A.length)
theorem I2.add {os:List (Int×ByteArray×List Int)}{ds:List (Int×Int)}{n m i:Nat}{D D':Int→Prop}{L A:List Int}(h:I2 os ds n m i D L A)(hi:i<n)(hL:(i:Int)∈L){s:Int}(hs:wS os ds i s)(hn:s∉L):I2 os ds n m i D' (L++ [s]) (A++ [s]):=by
 rcases h with h|h|⟨_,_,h⟩
 ·exact absurd (h i hi hL s hs) hn
 ·exact QhR (QhS (by simp;omega))
 ·exact QhR (QhS (by simp;omega))
theorem I2.imp {os:List (Int×ByteArray×List Int)}{ds:List (Int×Int)}{n m i:Nat}{D D':Int→Prop}{L A:List Int}(h:I2 os ds n m i D L A)(hD:(∀s,D s→s∈L)→∀s,D' s→s∈L):I2 os ds n m i D' L A:=by
 rcases h with h|h|⟨h1,h2,h3⟩
 ·exact QhS h
 ·exact QhR (QhS h)
 ·exact QhR (QhR ⟨h1,hD h2,h3⟩)
theorem I2.next {os:List (Int×ByteArray×List Int)}{ds:List (Int×Int)}{n m i:Nat}{D:Int→Prop}{L A:List Int}(h:I2 os ds n m i D L A)(hD:(∀s,D s→s∈L)→(i:Int)∈L→∀s,wS os ds i s→s∈L):I2 os ds n m (i+1) (fun _=>False) L A:=by
 rcases h with h|h|⟨h1,h2,h3⟩
 ·exact QhS h
 ·exact QhR (QhS h)
 ·refine QhR (QhR ⟨fun j hj hjL=>?_,fun s hs=>hs.elim,h3⟩);by_cases e:j=i
  ·subst e;exact hD h2 hjL
  ·exact h1 j (by omega) hjL
theorem I2.pass {os:List (Int×ByteArray×List Int)}{ds:List (Int×Int)}{n m:Nat}{D:Int→Prop}{L A:List Int}(h:I2 os ds n m n D L A):Cl os ds n L∨m+1≤A.length:=by
 rcases h with h|h|⟨h1,_,_⟩
 ·exact QhS h
 ·exact QhR h
 ·exact QhS h1
theorem I2.start {os:List (Int×ByteArray×List Int)}{ds:List (Int×Int)}{n m:Nat}{L A:List Int}(h:Cl os ds n L∨m≤A.length):I2 os ds n m 0 (fun _=>False) L A:=by
 rcases h with h|h
 ·exact QhS h
 ·exact QhR (QhR ⟨fun j hj=>by omega,fun s hs=>hs.elim,h⟩)
structure Wf (R L0:List Int) (n:Nat) (L A:List Int):Prop where
 eq:L=L0++A
 sub:∀z∈L,z∈R
 pl:Qr n A
theorem Wf.add {R L0 L A:List Int}{n:Nat}(h:Wf R L0 n L A){s:Int}(hs:s∈R)(hr:0≤s∧s<n)(hn:s∉L):Wf R L0 n (L++ [s]) (A++ [s]):=by
 refine⟨by rw[h.eq,List.append_assoc],fun z hz=>?_,⟨fun z hz=>?_,?_⟩⟩
 ·rcases List.mem_append.1 hz with hz|hz
  ·exact h.sub z hz
  ·simp at hz;subst hz;exact hs
 ·rcases List.mem_append.1 hz with hz|hz
  ·exact h.pl.rng z hz
  ·simp at hz;subst hz;exact hr
 ·rw[List.nodup_append];refine⟨h.pl.nd,by simp,fun a ha b hb=>?_⟩;simp at hb;subst hb;rintro rfl;exact hn (by rw[h.eq];exact List.mem_append.2 (QhR ha))
theorem OkC.next {h:Hp}(c:OkC h){i:Nat}(hi:i<h.os.length)(s:Int):wS (h.os.map Ob.p) h.ds i s↔s∈nextP (h.os.map Ob.p) h.ds i∧0≤s:=by
 have hob:=c.ob i hi;simp only[Qt,Ob.p,Bool.and_eq_true]at hob;have hk:=hob.2
 have hd:∀p∈h.ds,p.1=i→h.os[i].k=4∧0≤p.2:=fun p hp e=>by
  have:=c.dd p hp;simp only[Qn,inB,Bool.and_eq_true,decide_eq_true_eq]at this;obtain⟨⟨_,h2⟩,h3⟩:=this;rw[e,Int.toNat_natCast,List.getElem?_map,QhT hi]at h3;simp[Ob.p]at h3;exact⟨h3,h2.1⟩
 rw[YY (Int.toNat_natCast i) hi];have ho:(h.os.map Ob.p)[i]? =some h.os[i].p:=by rw[List.getElem?_map,QhT hi];rfl
 constructor
 ·rintro(⟨o,h1,k,h2,h3,h4⟩|hm)
  ·rw[ho]at h1
   cases h1
   refine⟨?_,h4⟩;have h2':h.os[i].r[k]? =some s:=h2;have hmem:s∈h.os[i].r:=List.mem_of_getElem? h2';split
   ·rename_i k3
    have hk1:k=1:=by
     rcases h3 with h3|h3
     ·exact absurd k3 h3
     ·exact h3
    subst hk1;refine List.mem_of_getElem? (i:=0) ?_;rw[List.getElem?_drop];exact h2'
   ·split
    ·rename_i n3 k4;simp[QU,k4]at hk;rw[hk.2]at hmem;simp at hmem
    ·exact hmem
  ·obtain⟨e4,h0⟩:=hd _ hm rfl;refine⟨?_,h0⟩;rw[if_neg (by omega),if_pos e4];exact List.mem_map.2 ⟨_,List.mem_filter.2 ⟨hm,by simp⟩,rfl⟩
 ·rintro⟨hm,h0⟩;split at hm
  ·rename_i k3;simp[QU,k3]at hk;obtain⟨j,hj,e⟩:=QhU hm;rw[List.length_drop]at hj;have hj0:j=0:=by omega
   subst hj0;refine QhS ⟨_,ho,1,?_,QhR rfl,h0⟩;show h.os[i].r[1]? =some s;rw[List.getElem_drop]at e;rw[QhT (by omega),←e]
  ·split at hm
   ·obtain⟨p,hp,e⟩:=List.mem_map.1 hm;have:=List.mem_filter.1 hp;refine QhR ?_;have e1:p.1=i:=by simpa using this.2
    have:p=((i:Int),s):=Prod.ext e1 e;rw[←this];exact(List.mem_filter.1 hp).1
   ·rename_i n3 n4;obtain⟨j,hj,e⟩:=QhU hm;refine QhS ⟨_,ho,j,?_,QhS n3,h0⟩;show h.os[i].r[j]? =some s;rw[QhT hj,e]
theorem OkC.reach_eq {h:Hp}(c:OkC h):reachP h.p=traceF (h.os.map Ob.p) h.ds 61 0 (putAll [] h.rs):=by
 simp only[reachP,Yo c,if_true];rfl
theorem OkC.nx {h:Hp}(c:OkC h):∀x,∀z∈nextP (h.os.map Ob.p) h.ds x,z<h.os.length:=fun x z hz=>by
 by_cases hi:x.toNat<h.os.length
 ·rw[YY rfl hi]at hz;split at hz
  ·exact(c.refs _ hi z (List.mem_of_mem_drop hz)).2
  ·split at hz
   ·obtain⟨p,hp,e⟩:=List.mem_map.1 hz;have:=c.dd p (List.mem_filter.1 hp).1;simp only[Qn,inB,Bool.and_eq_true,decide_eq_true_eq,List.length_map]at this;omega
   ·exact(c.refs _ hi z hz).2
 ·simp[nextP,List.getElem?_eq_none (Nat.le_of_not_lt hi)]at hz
structure Ye (h:Hp) (R:List Int):Prop where
 pl:Qr h.os.length R
 root:∀z∈h.rs,0≤z→z∈R
 step:∀z∈R,∀s∈nextP (h.os.map Ob.p) h.ds z,0≤s→s∈R
 least:∀C:Int→Prop,(∀z∈h.rs,0≤z→C z)→(∀z,C z→∀s∈nextP (h.os.map Ob.p) h.ds z,0≤s→C s)→∀z∈R,C z
theorem OkC.comes {h:Hp}(c:OkC h):Ye h (reachP h.p):=by
 have hp:Qr h.os.length (putAll [] h.rs):=(Qr.nil _).putAll (fun z hz=>(c.ro z hz).2);have h60:=c.n60;obtain⟨h1,h2⟩:=Qbw (n:=h.os.length) c.nx 61 0 hp (by omega) (fun j _ hj=>by omega);rw[c.reach_eq];refine⟨?_,fun z hz h0=>h1 z (YH.2 (QhR ⟨hz,h0⟩)),h2,fun C hr hs=>Qby hs 61 0 (fun z hz=>?_)⟩
 ·have:∀(f i:Nat) {l:List Int},Qr h.os.length l→Qr h.os.length (traceF (h.os.map Ob.p) h.ds f i l):=by
   intro f
   induction f with
   |zero=>exact fun i l hl=>hl
   |succ f ih=>
    intro i l hl;unfold traceF;split
    ·exact ih _ (hl.putAll (c.nx _))
    ·exact hl
  exact this 61 0 hp
 ·rcases YH.1 hz with hz|⟨hz,h0⟩
  ·simp at hz
  ·exact hr z hz h0
theorem Ye.found {h:Hp}{R:List Int}(k:Ye h R)(c:OkC h){i:Nat}(hi:i<h.os.length)(hm:(i:Int)∈R){s:Int}(hs:wS (h.os.map Ob.p) h.ds i s):s∈R∧0≤s∧s<h.os.length:=by
 obtain⟨h1,h2⟩:=(c.next hi s).1 hs;exact⟨k.step _ hm s h1 h2,h2,c.nx _ s h1⟩
theorem Ye.all {h:Hp}{R L:List Int}(k:Ye h R)(c:OkC h)(hsub:∀z∈L,z∈R)(hroot:∀z∈h.rs,0≤z→z∈L)(hcl:Cl (h.os.map Ob.p) h.ds h.os.length L):∀z∈R,z∈L:=by
 refine k.least (fun z=>z∈L) hroot (fun z hz s hs h0=>?_);have hr:=k.pl.rng z (hsub z hz);have hi:z.toNat<h.os.length:=by omega
 have e:((z.toNat:Nat):Int)=z:=by omega
 refine hcl z.toNat hi (by rw[e];exact hz) s ((c.next hi s).2 ⟨by rw[e];exact hs,h0⟩)
end
section
theorem U5 (ws:List (Int×Int)){X Y:List Int}(h:∀z,z∈X↔z∈Y):Ql ws X=Ql ws Y:=by
 unfold Ql;refine List.filter_congr fun p _=>?_;have e:∀z,(0≤pos X z)↔(0≤pos Y z):=fun z=>by rw[Jv,Jv];exact h z
 have e2:∀z,(pos X z<0)↔(pos Y z<0):=fun z=>by rw[←Int.not_le,←Int.not_le];exact not_congr (e z)
 rw[Bool.eq_iff_iff];simp only[Bool.and_eq_true,decide_eq_true_eq];exact and_congr (e _) (e2 _)
theorem Ux {ws:List (Int×Int)}{X:List Int}{p:Int×Int}:p∈Ql ws X↔p∈ws∧p.1∈X∧p.2∉X:=by
 rw[U6,Bool.and_eq_true,decide_eq_true_eq,decide_eq_true_eq,Jv,←Int.not_le,Jv]
theorem Pc {t:List (Int×Int)}{K:List Int}{z:Int}:z∈t.foldl (fun K p=>put K p.2) K↔z∈K∨∃p∈t,p.2=z∧0≤z:=by
 induction t generalizing K with
 |nil=>simp
 |cons a t ih=>
  rw[List.foldl_cons,ih,Pd];constructor
  ·rintro((h|⟨h1,h2⟩)|⟨p,h1,h2⟩)
   ·exact .inl h
   ·exact .inr ⟨a,List.mem_cons_self,h1.symm,h1▸h2⟩
   ·exact .inr ⟨p,List.mem_cons_of_mem _ h1,h2⟩
  ·rintro(h|⟨p,h1,h2,h3⟩)
   ·exact .inl (.inl h)
   ·rcases List.mem_cons.1 h1 with rfl|h1
    ·exact .inl (.inr ⟨h2.symm,h2▸h3⟩)
    ·exact .inr ⟨p,h1,h2,h3⟩
theorem Qf0 {n:Nat}{t:List (Int×Int)}{K:List Int}(h:Qr n K)(ht:∀p∈t,p.2<(n:Int)):Qr n (t.foldl (fun K p=>put K p.2) K):=by
 induction t generalizing K with
 |nil=>exact h
 |cons a t ih=>exact ih (h.put (ht a List.mem_cons_self)) fun p hp=>ht p (List.mem_cons_of_mem _ hp)
theorem QfC {os:List (Int×ByteArray×List Int)}{ds t:List (Int×Int)}{x s:Int}(h:s∈nextP os ds x):s∈nextP os (ds++t) x:=by
 unfold nextP at *
 cases ho:os[x.toNat]? with
 |none=>rw[ho]at h;exact h
 |some o=>
  rw[ho]at h;dsimp only at *;by_cases h3:o.1=3
  ·rw[if_pos h3]at *;exact h
  ·rw[if_neg h3]at *;by_cases h4:o.1=4
   ·rw[if_pos h4]at *;rw[List.filter_append,List.map_append];exact List.mem_append_left _ h
   ·rw[if_neg h4]at *;exact h
theorem PI {h:Hp}{p:Int×Int}(hp:Qn (h.os.map Ob.p) p=true){ds:List (Int×Int)}(hm:p∈ds):p.2∈nextP (h.os.map Ob.p) ds p.1∧0≤p.2∧p.2<(h.os.length:Int)∧0≤p.1:=by
 simp only[Qn,inB,Bool.and_eq_true,decide_eq_true_eq,List.length_map]at hp;obtain⟨⟨h1,h2⟩,h3⟩:=hp;refine⟨?_,by omega,by omega,by omega⟩;unfold nextP
 cases ho:(h.os.map Ob.p)[p.1.toNat]? with
 |none=>rw[ho]at h3;simp at h3
 |some o=>
  rw[ho]at h3;simp only[Option.map_some,Option.some.injEq]at h3;dsimp only;rw[if_neg (by rw[h3];decide),if_pos h3];exact List.mem_map.2 ⟨p,List.mem_filter.2 ⟨hm,by simp⟩,rfl⟩
def spS (h:Hp)(n:Nat):List (Int×Int)×List (Int×Int)×List Int:=itS (h.os.map Ob.p) n (h.ws,h.ds,traceF (h.os.map Ob.p) h.ds 61 0 (putAll [] h.rs))
def Hp.tells (h:Hp)(ws ds:List (Int×Int)):Hp:={h with ws:=ws,ds:=ds}
theorem U3 (h:Hp)(n:Nat):spS h (n+1)=YO (h.os.map Ob.p) (spS h n):=rfl
structure SpI (h:Hp) (ws ds:List (Int×Int)) (K:List Int):Prop where
 ok:OkC (h.tells ws ds)
 pl:Qr h.os.length K
 eq:∀z,z∈K↔z∈reachP (h.tells ws ds).p
theorem SpI.step {h:Hp}{ws ds:List (Int×Int)}{K:List Int}(s:SpI h ws ds K):SpI h (QW ws (Ql ws K)) (ds++Ql ws K) (traceF (h.os.map Ob.p) (ds++Ql ws K) 61 0 ((Ql ws K).foldl (fun K p=>put K p.2) K)):=by
 have c:=s.ok
 have c':OkC (h.tells (QW ws (Ql ws K)) (ds++Ql ws K)):=by
  refine c.tell (ws:=QW ws (Ql ws K)) (ds:=ds++Ql ws K) (fun p hp=>(List.mem_filter.1 hp).1) (fun p hp=>?_) ?_ h.wa h.wcap h.da h.dcap
  ·rcases List.mem_append.1 hp with q|q
   ·exact .inr q
   ·exact .inl (Ux.1 q).1
  ·have:=Kb ws K;simp only[Hp.tells,List.length_append];omega
 have k:=c.comes;have k':=c'.comes;have hwk:∀p∈Ql ws K,Qn (h.os.map Ob.p) p=true:=fun p hp=>c.wo p (Ux.1 hp).1;have pl0:Qr h.os.length ((Ql ws K).foldl (fun K p=>put K p.2) K):=Qf0 s.pl fun p hp=>(PI (h:=h) (hwk p hp) hp).2.2.1;have h60:h.os.length≤60:=c.n60;obtain⟨t1,t2⟩:=Qbw (n:=h.os.length) (os:=h.os.map Ob.p) (ds:=ds++Ql ws K) c'.nx 61 0 pl0 (by omega) (fun j _ hj=>by omega)
 have hKR:∀z∈K,z∈reachP (h.tells (QW ws (Ql ws K)) (ds++Ql ws K)).p:=fun z hz=>
  k.least (fun z=>z∈reachP (h.tells (QW ws (Ql ws K)) (ds++Ql ws K)).p) (fun z hz h0=>k'.root z hz h0) (fun z hz x hx h0=>k'.step z hz x (QfC (ds:=ds) hx) h0) z ((s.eq z).1 hz)
 refine⟨c',?_,fun z=>⟨fun hz=>?_,fun hz=>?_⟩⟩
 ·have:∀(f i:Nat) {l:List Int},Qr h.os.length l→Qr h.os.length (traceF (h.os.map Ob.p) (ds++Ql ws K) f i l):=by
   intro f
   induction f with
   |zero=>exact fun i l hl=>hl
   |succ f ih=>
    intro i l hl;unfold traceF;split
    ·exact ih _ (hl.putAll (c'.nx _))
    ·exact hl
  exact this 61 0 pl0
 ·refine Qby (C:=fun z=>z∈reachP (h.tells (QW ws (Ql ws K)) (ds++Ql ws K)).p) (fun z hz x hx h0=>k'.step z hz x hx h0) 61 0 (fun y hy=>?_) z hz;rcases Pc.1 hy with q|⟨p,q1,q2,q3⟩
  ·exact hKR y q
  ·subst q2;exact k'.step p.1 (hKR _ (Ux.1 q1).2.1) p.2 (PI (h:=h) (hwk p q1) (List.mem_append_right ds q1)).1 q3
 ·refine k'.least (fun z=>z∈traceF (h.os.map Ob.p) (ds++Ql ws K) 61 0 ((Ql ws K).foldl (fun K p=>put K p.2) K)) (fun y hy h0=>t1 y ?_) (fun y hy x hx h0=>t2 y hy x hx h0) z hz;exact Pc.2 (.inl ((s.eq y).2 (k.root y hy h0)))
theorem spI {h:Hp}(c:OkC h):∀n,SpI h (spS h n).1 (spS h n).2.1 (spS h n).2.2
 |0=>by
  refine⟨c,?_,fun z=>?_⟩
  ·have:=c.comes.pl;rw[c.reach_eq]at this;exact this
  ·have e:reachP (h.tells (spS h 0).1 (spS h 0).2.1).p=traceF (h.os.map Ob.p) h.ds 61 0 (putAll [] h.rs):=c.reach_eq;rw[e];exact Iff.rfl
 |n+1=>(spI c n).step
theorem PG {h:Hp}(c:OkC h){m:Nat}(hm:Ql (spS h m).1 (spS h m).2.2=[]):∀n,m≤n→(spS h n).1=(spS h m).1∧(spS h n).2.1=(spS h m).2.1:=by
 intro n hn
 induction n with
 |zero=>
  have:m=0:=by omega
  subst this;exact⟨rfl,rfl⟩
 |succ n ih=>
  rcases Nat.lt_or_ge n m with h1|h1
  ·have:m=n+1:=by omega
   subst this;exact⟨rfl,rfl⟩
  ·obtain⟨e1,e2⟩:=ih h1;have s1:=spI c m;have s2:=spI c n;rw[e1,e2]at s2
   have ht:Ql (spS h n).1 (spS h n).2.2=[]:=by
    rw[e1,←hm];exact U5 _ fun z=>(s2.eq z).trans (s1.eq z).symm
   rw[U3];unfold YO;dsimp only;rw[ht,List.append_nil];refine⟨?_,e2⟩;rw[←e1];unfold QW;exact List.filter_eq_self.2 fun _ _=>by simp
theorem Qat {ws:List (Int×Int)}{X:List Int}(h:∀p∈ws,p.1∈X→p.2∈X):Qx ws X=Qg ws X:=by
 unfold Qx Qg;congr 1;refine List.filter_congr fun p hp=>?_;rw[Bool.eq_iff_iff];simp only[Bool.and_eq_true,decide_eq_true_eq,Jv];exact⟨fun q=>q.1,fun q=>⟨q,h p hp q⟩⟩
theorem Kz {h:Hp}(c:OkC h){m:Nat}(hm:Ql (spS h m).1 (reachP (h.tells (spS h m).1 (spS h m).2.1).p)=[]){y:List (Int×ByteArray×List Int)×List Int×List (Int×Int)×List (Int×Int)}{ms:List Int}(hy:CoP h.p y ms):
 y=((pick h.os (reachP (h.tells (spS h m).1 (spS h m).2.1).p)).map (QI (reachP (h.tells (spS h m).1 (spS h m).2.1).p)),h.rs.map (wh (reachP (h.tells (spS h m).1 (spS h m).2.1).p)),Qg (spS h m).1 (reachP (h.tells (spS h m).1 (spS h m).2.1).p),Qg (spS h m).2.1 (reachP (h.tells (spS h m).1 (spS h m).2.1).p))∧
  ms=whs (reachP (h.tells (spS h m).1 (spS h m).2.1).p) h.os.length:=by
 obtain⟨n,K,ws,ds,e1,e2,e3,e4⟩:=hy;have sm:=spI c m;have hm':Ql (spS h m).1 (spS h m).2.2=[]:=by rw[←hm];exact U5 _ sm.eq
 have en:spS h n=(ws,ds,K):=e1;have hn':Ql (spS h n).1 (spS h n).2.2=[]:=by rw[en];exact e2
 have hws:ws=(spS h m).1∧ds=(spS h m).2.1:=by
  rcases Nat.le_total m n with q|q
  ·have:=PG c hm' n q;rw[en]at this;exact this
  ·have:=PG c hn' m q;rw[en]at this;exact⟨this.1.symm,this.2.symm⟩
 obtain⟨hw,hd⟩:=hws
 have hX:traceF h.p.1 ds 61 0 (putAll [] h.p.2.1)=reachP (h.tells (spS h m).1 (spS h m).2.1).p:=by
  rw[sm.ok.reach_eq,hd];rfl
 rw[hX]at e3 e4;have k:=sm.ok.comes;generalize reachP (h.tells (spS h m).1 (spS h m).2.1).p=X at *;refine⟨?_,?_⟩
 ·rw[e3,hw,hd,Qat,Qat,VO]
  ·rfl
  ·exact k.pl.rng
  ·intro p hp h1;obtain⟨a1,a2,_⟩:=PI (h:=h) (sm.ok.dd p hp) hp;exact k.step p.1 h1 p.2 a1 a2
  ·intro p hp h1;refine Classical.byContradiction fun h2=>?_;have:p∈Ql (spS h m).1 X:=Ux.2 ⟨hp,h1,h2⟩;rw[hm]at this;simp at this
 ·rw[e4];simp[Hp.p]
end
section
open Go.RowKit Go.Shelf
attribute [local go_sem] Oper.semAt_some
def bwd (zs:List Int):List (Int×Int):=(zs.zipIdx.map fun p=>((p.2:Int),p.1)).reverse
theorem Ks (zs:List Int):(bwd zs).length=zs.length:=by simp[bwd]
theorem Vl (zs:List Int)(j:Nat)(hj:j<zs.length):(bwd zs).take (zs.length-(j+1))++ [((j:Int),zs[j])]=(bwd zs).take (zs.length-j):=by
 have e:zs.length-j=zs.length-(j+1)+1:=by omega
 unfold bwd;rw[e,QhW (by simp;omega),List.getElem_reverse];congr 2;simp;constructor
 ·omega
 ·congr 1;omega
theorem Qci (da:Option Addr)(n dcap:Nat)(w:World):
 Calls Cut.prog 115 #[.slice da n dcap] w fun e w'=>e=.returned (.func (.func 147) #[] #[.pointer (some ⟨w.heap.size,0,none⟩)])∧w'=w.alloc (Obj.cells #[Value.slice da n dcap] 24):=by
 have hmf:∀(fn:Fn) (first cap:Array Value) (w:World),(Instr.makeFunc fn first cap).run Cut.prog w=.ok (.func fn first cap) w:=fun _ _ _ _=>rfl;go_enter (Cut.func_of Tryz.func115 rfl),Tryz.ntmps115;go_wp2;go_ret;exact⟨rfl,rfl⟩
theorem Qch (zs:List Int)(da:Option Addr)(dcap:Nat)(n Bh:Nat)(w0 w:World)(hn:2≤n)(hz:Qi w0 da zs)(hzl:zs.length≤1048576)(hw0:Below w0.heap.size w0 w)(hBh:Blk w Bh [Value.slice da zs.length dcap] 24):
 Kk (fun x:Int×Int=>#[.int .i64 x.1,.int .i64 x.2]) Fence.wide n Cut.prog 147 #[.pointer (some ⟨Bh,0,none⟩)] (bwd zs) (fun k=>k=Bh) w0.heap.size w:=by
 intro l J W hW hJ hY h0;clear hJ;have HY:Hid (∀M pre x W1,J M pre W1→pre++ [x]<+:bwd zs→YieldAt Fence.wide (n-1) Cut.prog l #[.int .i64 x.1,.int .i64 x.2] W1 fun e W'=>e=.returned (.bool true)∧J M (pre++ [x]) W'∧(∀k,M k→W'.heap[k]? =W1.heap[k]?)∧Below w0.heap.size W1 W'):=hY;clear hY;have hro:Fence.wide.round=none:=rfl;have hn1:1≤n:=by omega
 have hn2:1≤n-1:=by omega
 refine callsIn_of_wp (Cut.func_of Tryz.func147 rfl) rfl trivial ?_ hro;simp only[Tryz.ntmps147,List.size_toArray,List.length_cons,List.length_nil,Nat.reduceAdd,Nat.reduceSub,Array.replicate_succ,Array.replicate_zero,List.push_toArray,List.append_toArray,List.nil_append,List.cons_append];have hKW:=hBh.below hW hBh.lt;have hB0:Below w0.heap.size w0 W:=hw0.trans (hW.mono hw0.size);clear hBh hW hw0;have x0:=hKW.cell 0;simp only[QhX]at x0;have hwn:IntKind.i64.wrap ((zs.length:Int)-1)=(zs.length:Int)-1:=by rw[IntKind.wrap_i64];omega
 gi_wp2
 clear hwn x0
 gi_loopw [3] (fun i wr=>∃j:Nat,j≤zs.length∧i=.int .i64 ((j:Int)-1)∧J (fun k=>k=Bh) ((bwd zs).take (zs.length-j)) wr∧Below w0.heap.size w0 wr∧Blk wr Bh [Value.slice da zs.length dcap] 24) (fun i _=>(intOf i+1).toNat)
 case atStart=>exact⟨zs.length,Nat.le_refl _,rfl,by rw[Nat.sub_self];exact h0,hB0,hKW⟩
 case round=>
  obtain⟨j,hj,rfl,hJr,hB,hK⟩:=hrel;clear h0 hB0 hKW;have x0:=hK.cell 0;simp only[QhX]at x0
  cases j with
  |zero=>
   have hge:decide ((0:Int)≤((0:Nat):Int)-1)=false:=by simp
   rw[Nat.sub_zero,←Ks,List.take_length]at hJr
   gi_wp2
   go_end0
   exact⟨⟨_,rfl⟩,_,hJr⟩
  |succ j=>
   have e1:((j+1:Nat):Int)-1=(j:Int):=by omega
   have hlt:j<zs.length:=by omega
   obtain⟨b,off,rfl,hbw,c1⟩:=hz.get hlt;have d1:=(hB.cell (p:=⟨b,off+j,none⟩) hbw).trans c1;have hi1:(j:Int)<(zs.length:Int):=by omega
   have hge:(0:Int)≤(j:Int):=by omega
   rw[e1];obtain⟨fn,tmps,assign,body,hy,hRd⟩:=HY.out _ ((bwd zs).take (zs.length-(j+1))) ((j:Int),zs[j]) wr hJr (by rw[Vl zs j hlt];exact List.take_prefix _ _);clear c1 e1;dsimp only at hy
   gi_wp2
   refine hRd.mono ?_;rintro e W3 ⟨rfl,hJ3,hsame,hb3⟩;rw[Vl zs j hlt]at hJ3;have hK3:=hK.same (hsame Bh rfl);have hB3:=hB.trans hb3;have hw2:IntKind.i64.wrap ((j:Int)-1)=(j:Int)-1:=by rw[IntKind.wrap_i64];omega
   clear hsame hb3 hRd hy hK hB hJr x0 d1 fn tmps assign body
   gi_wp2
   go_roundw
   case rel=>exact⟨j,by omega,rfl,hJ3,hB3,hK3⟩
   case measure=>simp[intOf]
end
section
open Go.RowKit
theorem Ok (wa:Option Addr)(wcap:Nat)(ws:List (Int×Int))(w:World)(hw:Qz w wa ws)(hwl:ws.length≤1048576):
 Calls Cut.prog 114 #[.slice wa ws.length wcap] w fun e w'=>∃v',e=.returned v'∧Qe w' w.heap.size v' ws∧Below w.heap.size w w':=by
 obtain⟨i0,hi,hz0,hz1,hz2⟩:=info_parts Jr;have hnil:∀(w:World) (a:Option Addr) (n c:Nat),(binOp .eql 25 (.slice a n c) (.slice none 0 0)).run Cut.prog w=.ok (.bool a.isNone) w:=fun w a n c=>Lib.run_eql_slice_nil w _ _ a n c 0 0 ((Cut.under_eq 25).trans Tryz.underlying25)
 cases wa with
 |none=>
  have h0:ws=[]:=by
   rcases Nat.eq_zero_or_pos ws.length with h|h
   ·exact List.eq_nil_of_length_eq_zero h
   ·obtain⟨b,off,h1,_⟩:=hw h
    cases h1
  subst h0;go_enter (Cut.func_of Tryz.func114 rfl),Tryz.ntmps114;go_wp2;go_ret;exact⟨_,rfl,World.ownsRow_nil _ _ _ _,Below.refl _ _⟩
 |some ad=>
  have hA:Below w.heap.size w (w.alloc (Obj.cells #[] 40)):=QC _ _;have hO:(w.alloc (Obj.cells #[] 40)).ownsRow w.heap.size 40 2 (.slice (some ⟨w.heap.size,0,none⟩) 0 0) 0 []:=World.ownsRow_lit (e:=40) (size:=2) (base:=w.heap.size) w #[] 0 (Nat.le_refl _) (Nat.zero_le _) rfl;have hsrc:=(hw.below hA (Nat.le_refl _)).src;have hsz:w.heap.size≤(w.alloc (Obj.cells #[] 40)).heap.size:=hA.size;clear hw;go_enter (Cut.func_of Tryz.func114 rfl),Tryz.ntmps114;go_wp2_with (at_builtin;refine Kc _ rfl _ _ 25 rfl w.heap.size 40 i0 _ 2 16 ((Cut.under_eq 25).trans Tryz.underlying25) hi hz0 hz1 hz2 rfl (by decide) _ 0 [] rfl hO (some ad) ws.length wcap (ws.flatMap wc) rfl (JY wc 2 (fun _=>rfl) _) hsrc (JU _) ?c1 ?c2 hsz ?_)
  case c1=>unfold maxLen;omega
  case c2=>omega
  intro v5 w5 hown5 hgr5 _;have hb5:=hA.trans (QJ hgr5 hsz (fun q e=>(hO.lt q e).1));clear hgr5 hO hsrc hA hsz;go_wp2;go_ret;refine⟨_,rfl,?_,hb5⟩;unfold Qe;simpa using hown5
theorem Blk.puts {t B:Nat}:∀(vs:List Value) (o:Nat) (w:World) (cs:List Value),Blk w B cs t→o+vs.length≤cs.length→Blk (w.setCells B o vs) B (cs.take o++vs++cs.drop (o+vs.length)) t
 | [],o,w,cs,h,_=>by simpa[World.setCells]using h
 |v::r,o,w,cs,h,hl=>by
  simp only[List.length_cons]at hl;have h1:=Blk.puts r (o+1) (w.setCell ⟨B,o,none⟩ v) (cs.set o v) (h.store o v) (by simp;omega)
  have e:(cs.set o v).take (o+1)++r++(cs.set o v).drop (o+1+r.length)=cs.take o++(v::r)++cs.drop (o+(r.length+1)):=by
   have e1:(cs.set o v).take (o+1)=cs.take o++ [v]:=by
    rw[QhW (by simp;omega)];simp[List.take_set_of_le]
   have e2:(cs.set o v).drop (o+1+r.length)=cs.drop (o+(r.length+1)):=by
    rw[List.drop_set_of_lt (by omega),show o+1+r.length=o+(r.length+1)by omega]
   rw[e1,e2];simp
  rw[e]at h1;exact h1
theorem Pw (B:Nat):∀(vs:List Value) (o:Nat) (w:World),w.grownBy (w.setCells B o vs) (some B)
 | [],_,w=>US w _
 |v::r,o,w=>Z4 (Q1 w B o v) (Pw B r (o+1) _)
theorem Qgm {P:Program}(w:World)(t e ty:TypeId)(z a2 b2:Value)(ht:P.underlying t=some (.slice e))(hv:∀w,(zeroValue e).run P w=.ok z w)(hz:z.cells=#[a2,b2])(h1:a2.oneCell'=true)(h2:b2.oneCell'=true)(b o c:Nat)
 (hc:∀j,j<2→(w.cell? ⟨b,o+j,none⟩).isSome=true)(hf:∀j,j<2→w.frozen? ⟨b,o+j,none⟩=false):
 (Builtin.clear_ #[t] ty #[.slice (some ⟨b,o,none⟩) 1 c]).run P w=.ok (.tuple #[]) (w.setCells b o [a2,b2]):=by
 have hzc:(Builtin.zeroCells z.cells 1).toList=[a2,b2]:=by
  rw[hz];simp[Builtin.zeroCells];rfl
 have hst:=run_storeCells_cells (P:=P) b o [a2,b2] 0 w (by simpa using hc) (by simpa using hf) (by intro v hv';simp at hv';rcases hv' with rfl|rfl<;>assumption);simp only[Nat.add_zero]at hst;simp[Builtin.clear_,run_underlying ht,hv,hzc,hst]
end
end Go.Proofs.YtcpnkpogebjieaaGreat
