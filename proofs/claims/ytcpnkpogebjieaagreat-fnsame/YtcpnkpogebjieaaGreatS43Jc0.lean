/- Worlds that have old blocks in common. -/
import Derived.Test.YtcpnkpogebjieaaGreatS17Ca
import Derived.Test.YtcpnkpogebjieaaGreatS31Di
import Derived.Test.YtcpnkpogebjieaaGreatS29Im
import Derived.Test.YtcpnkpogebjieaaGreatS14ImplOk4
import Derived.Test.YtcpnkpogebjieaaGreatS09ToH
import Derived.Test.YtcpnkpogebjieaaGreatS42Wf
import Derived.Test.YtcpnkpogebjieaaGreatS38Va
import Derived.Test.YtcpnkpogebjieaaGreatS36Vja
import Derived.Deep.RegionHeld3
import Derived.Test.YtcpnkpogebjieaaGreatS12SpecOk4
import Derived.Test.YtcpnkpogebjieaaGreatS27Ss4
open Nat renaming le_refl→QhR,le_trans→QhX,lt_of_lt_of_le→QhZ
open Go.Value renaming slice→QhS
open List renaming length_map→QhT,getElem?_eq_getElem→QhU,map_congr_left→QhV,map_id'→QhW,getElem_map→QhY,map_cons→Qh0,filter_cons_of_neg→Qh1,ext_getElem→Qh2,mem_cons_self→Qh3,filter_cons_of_pos→Qh4,getElem?_map→Qh5
set_option maxRecDepth 100000
namespace Go.Proofs.YtcpnkpogebjieaaGreat
namespace Co
open Go.RowKit
theorem Qce (T:Array Value):T=((List.range T.size).map fun i=>T.getD i undef).toArray:=by
 apply Array.ext
 ·simp
 ·intro i h1 h2;simp[Array.getD,h1]
structure Zn (m:Nat) (E0 E:World):Prop where
 sz:E0.heap.size=m
 le:m≤E.heap.size
 bl:∀b,b<m→E.heap[b]? =E0.heap[b]?
theorem Zn.refl (E:World):Zn E.heap.size E E:=⟨rfl,QhR _,fun _ _=>rfl⟩
theorem Zn.row {m:Nat}{E0 E:World}{N n e sz:Nat}{v:Value}{xs:List Value}(H:Zn m E0 E)(hr:E0.ownsRow N e sz v n xs):E.ownsRow N e sz v n xs:=ZZ hr fun b hb=>H.bl b (by rw[←H.sz];exact(World.ownsRow.lt hr b hb).2)
def On (E E':World):Prop:=E.heap.size≤E'.heap.size∧∀b,b<E.heap.size→E'.heap[b]? =E.heap[b]?
theorem On.of {E E':World}{B:Nat}(h:Below B E E')(hB:E.heap.size≤B):On E E':=⟨h.size,fun b hb=>h.block b (by omega)⟩
theorem On.trans {a b c:World}(h:On a b)(k:On b c):On a c:=⟨QhX h.1 k.1,fun x hx=>(k.2 x (QhZ hx h.1)).trans (h.2 x hx)⟩
theorem On.refl (a:World):On a a:=⟨QhR _,fun _ _=>rfl⟩
theorem Zn.on {m:Nat}{E0 E E':World}(H:Zn m E0 E)(h:On E E'):Zn m E0 E':=⟨H.sz,QhX H.le h.1,fun b hb=>(h.2 b (QhZ hb H.le)).trans (H.bl b hb)⟩
theorem Zn.ch {m:Nat}{S:Nat→Prop}{E0 E E':World}(H:Zn m E0 E)(h:ChO S E E')(hS:∀k,S k→m≤k):Zn m E0 E':=⟨H.sz,QhX H.le h.size,fun b hb=>(h.block b (QhZ hb H.le) (fun e=>by have:=hS b e;omega)).trans (H.bl b hb)⟩
theorem JP {E E':World}{b t:Nat}{cs:List Value}(h:Blk E b cs t)(ho:On E E'):Blk E' b cs t:=h.same (ho.2 b h.lt)
theorem _root_.Go.Proofs.YtcpnkpogebjieaaGreat.Q4.on {E E':World}{B:Nat}{y:Hp}(h:Q4 E B y)(ho:On E E'):Q4 E' B y:=h.same fun b hb=>ho.2 b (h.rows_lt b hb).2
end Co
namespace Co
open Go.Conc Go.ConcN Go.RowKit Go.Conc.Lib Go.ConcR.Gen
section
variable {X X' X0:Nat→Bool} {w w' w0 w1 w1':World}
theorem QdZ {b t:Nat}{c:Value}{cs:List Value}(h:Blk (emW X w) b (c::cs) t):X b=false∧Blk w b (c::cs) t:=by
 cases hx:X b with
 |false=>
  refine⟨rfl,?_⟩;unfold Blk at *;rw[Jj hx]at h;exact h
 |true=>
  unfold Blk at h;rw[Za]at h
  cases ho:w.heap[b]? with
  |none=>rw[ho]at h;cases h
  |some ob=>
   rw[ho]at h
   cases ob<;>simp[emO,hx]at h
theorem Qay (h:On w w'):On (emW X w) (emW X w'):=⟨by rw[QF,QF];exact h.1,fun b hb=>by
 rw[QF]at hb
 rw[Za,Za,h.2 b hb]⟩
theorem QfQ (hs:w.heap.size≤w'.heap.size)(h:∀b,b<w.heap.size→w'.heap[b]? =w.heap[b]? ∧X' b=X b):On (emW X w) (emW X' w'):=⟨by rw[QF,QF];exact hs,fun b hb=>by
 rw[QF]at hb
 have e:emO X' b=emO X b:=by
  funext o;unfold emO;rw[(h b hb).2]
 rw[Za,Za,(h b hb).1,e]⟩
theorem Pn (hE:Em X w1 w1'):On w1' (emW X w1):=⟨by rw[QF,hE.size];exact QhR _,fun b _=>by rw[Za,hE.heap b]⟩
theorem Qaz (t:Tape)(d:Nat):On (emW X w) {emW X w with tape:=t,drawn:=d}:=⟨QhR _,fun _ _=>rfl⟩
structure LA (X0:Nat→Bool) (w0:World) (X:Nat→Bool) (w:World):Prop where
 old:∀b,b<w0.heap.size→w.heap[b]? =w0.heap[b]? ∧X b=X0 b
 big:w0.heap.size≤w.heap.size
 sn:Sn X w
 oo:OO w w0
theorem LA.rely (I:LA X0 w0 X w)(r:AtRel w w1):LA X0 w0 X w1:=by
 obtain⟨d,rfl⟩:=r;exact⟨I.old,I.big,I.sn.at d,I.oo⟩
theorem LA.piece {N:Nat}{u:World}(I:LA X0 w0 X w)(hN:N=w0.heap.size)(hu:u.heap=(emW X w).heap)(huo:OO u w)(hE:Em X w1 w1')(hS:Sn X w1)(hK:QB X w w1)(hB:Below N u w1'):LA X0 w0 X w1:=by
 subst hN;exact⟨fun b hb=>⟨(Uk hu hE hK (hB.block b hb)).trans (I.old b hb).1,(I.old b hb).2⟩,QhX I.big hK.size,hS,OO.trans (OO.trans ⟨hE.os.symm,hE.out.symm⟩ ⟨hB.os,hB.output⟩) (huo.trans I.oo)⟩
structure LS (X0:Nat→Bool) (w0:World) (X:Nat→Bool) (P:World→Prop) (w:World):Prop where
 la:LA X0 w0 X w
 st:∀E E',On E E'→P E→P E'
 p:P (emW X w)
theorem LS.rely {P:World→Prop}(I:LS X0 w0 X P w)(r:AtRel w w1):LS X0 w0 X P w1:=by
 refine⟨I.la.rely r,I.st,I.st _ _ ?_ I.p⟩;obtain⟨d,rfl⟩:=r;exact Qay ⟨QhR _,fun _ _=>rfl⟩
structure LT (X0:Nat→Bool) (w0:World) (X:Nat→Bool) (P:World→Prop) (m bq:Nat) (cl:List Value) (w:World):Prop where
 la:LA X0 w0 X w
 st:∀E E',On E E'→P E→P E'
 pre:∃w2,P (emW X w2)∧On w2 w∧w2.heap.size≤bq∧m≤w2.heap.size
 k:Blk w bq cl 27
 xb:X bq=false
 nb:w0.heap.size≤bq
theorem LT.rely {P:World→Prop}{m bq:Nat}{cl:List Value}(I:LT X0 w0 X P m bq cl w)(r:AtRel w w1):LT X0 w0 X P m bq cl w1:=by
 obtain⟨w2,h1,h2,h3⟩:=I.pre;refine⟨I.la.rely r,I.st,⟨w2,h1,?_,h3⟩,?_,I.xb,I.nb⟩
 ·obtain⟨d,rfl⟩:=r;exact h2
 ·obtain⟨d,rfl⟩:=r;exact I.k
theorem LS.alloc {P:World→Prop}{m:Nat}(I:LS X0 w0 X P w)(hm:m≤w.heap.size):LT X0 w0 X P m w.heap.size [.slice none 0 0,.slice none 0 0,.slice none 0 0,.slice none 0 0] (w.alloc (Obj.cells #[QhS none 0 0,QhS none 0 0,QhS none 0 0,QhS none 0 0] 27)):=by
 refine⟨⟨fun b hb=>⟨(Below.heap_alloc w _ b (QhZ hb I.la.big)).trans (I.la.old b hb).1,(I.la.old b hb).2⟩,by have:=I.la.big;simp;omega,I.la.sn.alloc _ _,I.la.oo⟩,I.st,⟨w,I.p,⟨by simp,fun b hb=>Below.heap_alloc w _ b hb⟩,QhR _,hm⟩,Blk.new w [QhS none 0 0,QhS none 0 0,QhS none 0 0,QhS none 0 0] 27,I.la.sn.out (QhR _),I.la.big⟩
theorem LT.box {P:World→Prop}{m bq:Nat}{cl cl':List Value}(I:LT X0 w0 X P m bq cl w)(hb:Blk w1 bq cl' 27)(hs:w1.heap.size=w.heap.size)(ho:∀b,b≠bq→w1.heap[b]? =w.heap[b]?)(hoo:OO w1 w):LT X0 w0 X P m bq cl' w1:=by
 have nb:=I.nb;obtain⟨w2,h1,h2,h3,h4⟩:=I.pre;refine⟨⟨fun b hb'=>⟨(ho b (by omega)).trans (I.la.old b hb').1,(I.la.old b hb').2⟩,by rw[hs];exact I.la.big,?_,hoo.trans I.la.oo⟩,I.st,⟨w2,h1,⟨by rw[hs];exact h2.1,fun b hb'=>(ho b (by omega)).trans (h2.2 b hb')⟩,h3,h4⟩,hb,I.xb,nb⟩;refine I.la.sn.turn (by omega) (fun r hr=>ho r fun e=>?_) fun r o hr ho'=>?_
 ·rw[e,I.xb]at hr;cases hr
 ·by_cases e:r=bq
  ·subst e;unfold Blk at hb;rw[hb]at ho';exact .inr (.inl ⟨_,_,_,(Option.some.inj ho').symm⟩)
  ·rw[ho r e]at ho';exact .inl ho'
theorem LT.done {P:World→Prop}{m bq:Nat}{cl:List Value}(I:LT X0 w0 X P m bq cl w):P (emW X w)∧Blk (emW X w) bq cl 27∧m≤bq:=by
 obtain⟨w2,h1,h2,h3,h4⟩:=I.pre;refine⟨I.st _ _ (Qay h2) h1,?_,by omega⟩;unfold Blk;rw[Jj I.xb];exact I.k
theorem LS.mc {P:World→Prop}{h y:Hp}{v:Value}(I:LS X0 w0 X P w)(o:UG h X w X' y v w'):LS X0 w0 X' P w':=by
 have big:=I.la.big;refine⟨⟨fun b hb=>⟨((o.old b (by omega)).1).trans (I.la.old b hb).1,((o.old b (by omega)).2).trans (I.la.old b hb).2⟩,QhX big o.big,o.sn,o.oo.trans I.la.oo⟩,I.st,I.st _ _ (QfQ o.big o.old) I.p⟩
end
end Co
section
theorem QgL (h:Hp)(n:Nat){z:Int}(hz:z∈(spS h n).2.2):z∈(spS h (n+1)).2.2:=by
 rw[U3];unfold YO;refine(Qbv _ _ 61 0 _).subset ?_;rw[Pc];exact .inl hz
theorem Qa8 (h:Hp){z:Int}(hz:z∈(spS h 0).2.2):∀n,z∈(spS h n).2.2
 |0=>hz
 |n+1=>QgL h n (Qa8 h hz n)
theorem Qa7 (h:Hp):∃n,Ql (spS h n).1 (spS h n).2.2=[]:=by
 have key:∀k n,(spS h n).1.length≤k→∃m,Ql (spS h m).1 (spS h m).2.2=[]:=by
  intro k
  induction k with
  |zero=>
   intro n hn;have e:(spS h n).1=[]:=List.eq_nil_of_length_eq_zero (by omega);exact⟨n,by rw[e];rfl⟩
  |succ k ih=>
   intro n hn;by_cases ht:Ql (spS h n).1 (spS h n).2.2=[]
   ·exact⟨n,ht⟩
   ·refine ih (n+1) ?_;rw[U3];unfold YO;have h1:=Kb (spS h n).1 (spS h n).2.2;have h2:=List.length_pos_iff.2 ht;dsimp only;omega
 exact key _ 0 (QhR _)
theorem Qan {h y:Hp}{ms:List Int}(c:OkC h)(H:∀yy mm,CoP h.p yy mm→yy=y.p∧mm=ms):OkC y:=by
 obtain⟨n,hn⟩:=Qa7 h;have hc:CoP h.p _ _:=⟨n,(spS h n).2.2,(spS h n).1,(spS h n).2.1,rfl,hn,rfl,rfl⟩;obtain⟨e1,e2⟩:=H _ _ hc;have hm:Ql (spS h n).1 (reachP (h.tells (spS h n).1 (spS h n).2.1).p)=[]:=by rw[←hn];exact(U5 _ (spI c n).eq).symm
 obtain⟨f1,f2⟩:=Kz c hm hc;rw[e1]at f1
 have hR:reachP (h.tells (spS h n).1 (spS h n).2.1).p=traceF (h.os.map Ob.p) (spS h n).2.1 61 0 (putAll [] h.rs):=by
  have e:okP (h.tells (spS h n).1 (spS h n).2.1).p=true:=Yo (spI c n).ok;simp only[reachP,e,if_true];rfl
 rw[hR]at f1;obtain⟨oa,oc,os,ra,rc,rs,wa,wc',ws,da,dc,ds⟩:=y;simp only[Hp.p,Prod.mk.injEq]at e1 f1;obtain⟨-,g2,g3,g4⟩:=e1
 have k:=OkC.collect (g:=h.tells (spS h n).1 (spS h n).2.1) (spI c n).ok (X:=traceF (h.os.map Ob.p) (spS h n).2.1 61 0 (putAll [] h.rs)) (by
  have:=(spI c n).ok.comes.pl;rw[hR]at this
  exact this) (l:=os) f1.1 oa oc ra rc wa wc' da dc
 have e5:rs=(h.tells (spS h n).1 (spS h n).2.1).rs.map (wh (traceF (h.os.map Ob.p) (spS h n).2.1 61 0 (putAll [] h.rs))):=g2.symm;have e6:ws=Qx (h.tells (spS h n).1 (spS h n).2.1).ws (traceF (h.os.map Ob.p) (spS h n).2.1 61 0 (putAll [] h.rs)):=g3.symm;have e7:ds=Qx (h.tells (spS h n).1 (spS h n).2.1).ds (traceF (h.os.map Ob.p) (spS h n).2.1 61 0 (putAll [] h.rs)):=g4.symm;rw[e5,e6,e7];exact k
def Ze (n:Nat):List Int:=(List.range n).map fun(i:Nat)=>(i:Int)
theorem VC (n:Nat):(Ze n).length=n:=by simp[Ze]
theorem Us (n i:Nat)(h:i<(Ze n).length):(Ze n)[i]=(i:Int):=by simp[Ze]
theorem Qfm {n:Nat}{z:Int}:z∈Ze n↔0≤z∧z<n:=by
 unfold Ze;rw[List.mem_map];constructor
 ·rintro⟨i,hi,rfl⟩;rw[List.mem_range]at hi;omega
 ·rintro⟨h0,h1⟩;exact⟨z.toNat,List.mem_range.2 (by omega),by omega⟩
section
variable {X:List Int}
theorem QaG {a b:Int}(ha:a∈X)(h:pos X a=pos X b):a=b:=by
 have h1:=(Jv X a).2 ha;have e1:=U1 h1;have e2:=U1 (h▸h1:0≤pos X b);rw[h,e2]at e1;exact(Option.some.inj e1).symm
theorem QaH (nd:X.Nodup){i:Nat}(hi:i<X.length):pos X X[i]=i:=by
 have h0:=(Jv X X[i]).2 (List.getElem_mem hi);have hb:=YJ X X[i];have hg:=U1 h0;have hj:(pos X X[i]).toNat<X.length:=by omega
 rw[QhU hj,Option.some.injEq]at hg;have hp:=List.pairwise_iff_getElem.1 nd;rcases Nat.lt_trichotomy (pos X X[i]).toNat i with h|h|h
 ·exact absurd hg (hp _ _ hj hi h)
 ·omega
 ·exact absurd hg.symm (hp _ _ hi hj h)
theorem Qff (nd:X.Nodup):X.map (pos X)=Ze X.length:=by
 apply Qh2
 ·rw[QhT,VC]
 ·intro i h1 h2;rw[QhY,Us,QaH nd]
theorem QeF (n:Nat):(Ze n).Nodup:=by
 refine List.pairwise_iff_getElem.2 fun i j hi hj hij=>?_;rw[Us,Us];omega
theorem Yp {n:Nat}{z:Int}(h0:0≤z)(h:z<n):pos (Ze n) z=z:=by
 have hi:z.toNat<(Ze n).length:=by rw[VC];omega
 have e:=QaH (QeF n) hi;have e2:((z.toNat:Nat):Int)=z:=by omega
 rw[Us,e2]at e;exact e
theorem V8 {n:Nat}{z:Int}(h0:-1≤z)(h:z<n):wh (Ze n) z=z:=by
 unfold wh;split
 ·omega
 ·exact Yp (by omega) h
theorem Qf6 {L:List Int}(hL:∀z∈L,z∈X){z:Int}(hz:0≤z→z∈X):put (L.map (pos X)) (wh X z)=(put L z).map (pos X):=by
 by_cases h0:z<0
 ·rw[QbO h0];unfold put;simp[h0]
 ·have hzX:=hz (by omega);have hp:¬pos X z<0:=by have:=(Jv X z).2 hzX;omega
  have hm:pos X z∈L.map (pos X)↔z∈L:=by
   rw[List.mem_map];exact⟨fun⟨a,ha,e⟩=>QaG (hL a ha) e▸ha,fun h=>⟨z,h,rfl⟩⟩
  rw[PL h0];unfold put;simp only[h0,hp,false_or,hm];split
  ·rfl
  ·simp
theorem Pt:∀(ns L:List Int),(∀z∈L,z∈X)→(∀z∈ns,0≤z→z∈X)→putAll (L.map (pos X)) (ns.map (wh X))=(putAll L ns).map (pos X)
 | [],L,_,_=>rfl
 |n::ns,L,hL,hn=>by
  show putAll (put (L.map (pos X)) (wh X n)) (ns.map (wh X))=(putAll (put L n) ns).map (pos X);rw[Qf6 hL (hn n Qh3)]
  exact Pt ns (put L n) (fun z hz=>by
   rcases Pd.1 hz with h|⟨h,h0⟩
   ·exact hL z h
   ·subst h;exact hn _ Qh3 h0) (fun z hz=>hn z (List.mem_cons_of_mem _ hz))
theorem Qbx {os os':List (Int×ByteArray×List Int)}{ds ds':List (Int×Int)}(hN:∀z∈X,nextP os' ds' (pos X z)=(nextP os ds z).map (wh X))(hC:∀z∈X,∀s∈nextP os ds z,0≤s→s∈X):
 ∀(f i:Nat) (L:List Int),(∀z∈L,z∈X)→traceF os' ds' f i (L.map (pos X))=(traceF os ds f i L).map (pos X)
 |0,_,_,_=>rfl
 |f+1,i,L,hL=>by
  unfold traceF;rw[QhT];by_cases h:i<L.length
  ·have e1:(L.map (pos X)).getD i 0=pos X (L.getD i 0):=by simp[List.getD,QhU h]
   have hm:L.getD i 0∈X:=by
    rw[List.getD_eq_getElem?_getD,QhU h,Option.getD_some];exact hL _ (List.getElem_mem h)
   rw[if_pos h,if_pos h,e1,hN _ hm,Pt _ _ hL (hC _ hm)]
   exact Qbx hN hC f (i+1) _ (fun z hz=>by
    rcases YH.1 hz with q|⟨q,q0⟩
    ·exact hL z q
    ·exact hC _ hm z q q0)
  ·rw[if_neg h,if_neg h]
theorem QbF {z:Int}(hz:z∈X):∀ {ds:List (Int×Int)},(∀p∈ds,0≤p.2)→((Qg ds X).filter fun p=>p.1 ==pos X z).map (fun p=>p.2)=((ds.filter fun p=>p.1 ==z).map fun p=>p.2).map (wh X)
 | [],_=>rfl
 |p::ds,h0=>by
  have ih:=QbF hz (ds:=ds) (fun q hq=>h0 q (List.mem_cons_of_mem _ hq));have hp0:=h0 p Qh3;unfold Qg at ih⊢;by_cases h1:p.1∈X
  ·have q1:decide (0≤pos X p.1)=true:=decide_eq_true ((Jv _ _).2 h1);rw[Qh4 (p:=fun p:Int×Int=>decide (0≤pos X p.1)) q1,Qh0];by_cases h2:p.1=z
   ·rw[Qh4 (by simp[h2]),Qh4 (by simp[h2]),Qh0,Qh0,Qh0,ih,PL (by omega)]
   ·have h3:¬pos X p.1=pos X z:=fun e=>h2 (QaG h1 e);rw[Qh1 (by simpa using h3),Qh1 (by simpa using h2),ih]
  ·have q1:¬decide (0≤pos X p.1)=true:=by rw[decide_eq_true_eq,Jv];exact h1
   have h2:¬p.1=z:=fun e=>h1 (e▸hz);rw[Qh1 (p:=fun p:Int×Int=>decide (0≤pos X p.1)) q1,Qh1 (by simpa using h2),ih]
theorem Qer {g y:Hp}(ho:y.os.map Ob.p=(pick g.os X).map (QI X)){z:Int}(hz:z∈X)(hzn:z.toNat<g.os.length):(y.os.map Ob.p)[(pos X z).toNat]? =some (QI X g.os[z.toNat]):=by
 have h0:=(Jv X z).2 hz;have hb:=YJ X z;have hi:(pos X z).toNat<X.length:=by omega
 have hg:=U1 h0;rw[QhU hi,Option.some.injEq]at hg;rw[ho,Qh5,QhU (by rw[Ju];exact hi),Option.map_some,VN (by rw[Ju];exact hi) hi (by rw[hg];exact hzn)];simp only[hg]
theorem QfE {g y:Hp}(c:OkC g)(hp:Qr g.os.length X)(ho:y.os.map Ob.p=(pick g.os X).map (QI X))(hd:y.ds=Qg g.ds X){z:Int}(hz:z∈X):nextP (y.os.map Ob.p) y.ds (pos X z)=(nextP (g.os.map Ob.p) g.ds z).map (wh X):=by
 have hr:=hp.rng z hz;have hzn:z.toNat<g.os.length:=by omega
 rw[YY rfl hzn,nextP,Qer ho hz hzn];show(if g.os[z.toNat].k=3 then(g.os[z.toNat].r.map (wh X)).drop 1 else if g.os[z.toNat].k=4 then(y.ds.filter fun p=>p.1 ==pos X z).map (fun p=>p.2)else g.os[z.toNat].r.map (wh X))=_;by_cases k3:g.os[z.toNat].k=3
 ·rw[if_pos k3,if_pos k3,List.map_drop]
 ·rw[if_neg k3,if_neg k3];by_cases k4:g.os[z.toNat].k=4
  ·rw[if_pos k4,if_pos k4,hd];exact QbF hz fun p hq=>(JH c.dd p hq).2.1
  ·rw[if_neg k4,if_neg k4]
end
theorem Qb9 {g y:Hp}(c:OkC g)(cy:OkC y)(e:y.p=((pick g.os (reachP g.p)).map (QI (reachP g.p)),g.rs.map (wh (reachP g.p)),Qg g.ws (reachP g.p),Qg g.ds (reachP g.p))):
 reachP y.p=Ze y.os.length∧CoP y.p y.p (Ze y.os.length):=by
 have k:=c.comes
 have hT:traceF (y.os.map Ob.p) y.ds 61 0 (putAll [] y.rs)=Ze y.os.length:=by
  have hX:=c.reach_eq;generalize reachP g.p=X at *;simp only[Hp.p,Prod.mk.injEq]at e;obtain⟨e1,e2,e3,e4⟩:=e
  have hl:y.os.length=X.length:=by
   have:=congrArg List.length e1;simpa[Ju]using this
  rw[e2,show([]:List Int)=[].map (pos X)from rfl,Pt g.rs [] (fun z hz=>by simp at hz) k.root,Qbx (fun z hz=>QfE c k.pl e1 e4 hz) k.step 61 0 _ (fun z hz=>by
   rcases YH.1 hz with q|⟨q,q0⟩
   ·simp at q
   ·exact k.root z q q0),←hX,Qff k.pl.nd,hl]
 clear e k c;refine⟨by rw[cy.reach_eq];exact hT,0,Ze y.os.length,y.ws,y.ds,congrArg (fun t=>(y.ws,y.ds,t)) hT,?_,?_,?_⟩
 ·refine List.eq_nil_iff_forall_not_mem.2 fun p hp=>?_;obtain⟨h1,_,h3⟩:=Ux.1 hp;exact h3 (Qfm.2 (JH cy.wo p h1).2)
 ·have hmv:∀ws:List (Int×Int),(∀p∈ws,Qn (y.os.map Ob.p) p=true)→ws=Qx ws (Ze y.os.length):=fun ws hw=>by
   unfold Qx;rw[List.filter_eq_self.2 fun p hp=>?_]
   ·refine((QhV (g:=fun p=>p) fun p hp=>?_).trans (QhW _)).symm;obtain⟨⟨a1,a2⟩,b1,b2⟩:=JH hw p hp;rw[Yp a1 a2,Yp b1 b2]
   ·obtain⟨⟨a1,a2⟩,b1,b2⟩:=JH hw p hp;rw[Yp a1 a2,Yp b1 b2];simp[a1,b1]
  have hT':traceF y.p.1 y.ds 61 0 (putAll [] y.p.2.1)=Ze y.os.length:=hT;rw[hT'];refine Prod.ext ?_ (Prod.ext ?_ (Prod.ext ?_ ?_))
  ·show y.os.map Ob.p=(Ze y.os.length).map (Zj (y.os.map Ob.p) (Ze y.os.length));apply Qh2
   ·rw[QhT,QhT,VC]
   ·intro i h1 h2;rw[QhT]at h1;have hr:=cy.refs i h1;rw[QhY,QhY,Us];simp only[Zj,Int.toNat_natCast,Qh5,QhU h1,Option.map_some,Ob.p];rw[(QhV (g:=fun z=>z) fun z hz=>V8 (hr z hz).1 (hr z hz).2).trans (QhW _)]
  ·show y.rs=y.rs.map (wh (Ze y.os.length));exact((QhV (g:=fun z=>z) fun z hz=>V8 (cy.ro z hz).1 (cy.ro z hz).2).trans (QhW _)).symm
  ·exact hmv y.ws cy.wo
  ·exact hmv y.ds cy.dd
 ·have hT':traceF y.p.1 y.ds 61 0 (putAll [] y.p.2.1)=Ze y.os.length:=hT;rw[hT'];have hl:y.p.1.length=y.os.length:=by simp[Hp.p]
  rw[hl];unfold whs
  conv=>lhs;unfold Ze
  refine QhV fun i hi=>?_;rw[List.mem_range]at hi;rw[Yp (by omega) (by omega)]
theorem Qfg {h y:Hp}{ms:List Int}(c:OkC h)(H:∀yy mm,CoP h.p yy mm→yy=y.p∧mm=ms):
 ∃g:Hp,OkC g∧g.os=h.os∧g.rs=h.rs∧y.p=((pick g.os (reachP g.p)).map (QI (reachP g.p)),g.rs.map (wh (reachP g.p)),Qg g.ws (reachP g.p),Qg g.ds (reachP g.p))∧ms=whs (reachP g.p) h.os.length∧(∀z∈reachP h.p,z∈reachP g.p)∧((∀p∈h.ws,p.1∈reachP h.p→p.2∈reachP h.p)→g=h):=by
 obtain⟨n,hn⟩:=Qa7 h;have hc:CoP h.p _ _:=⟨n,(spS h n).2.2,(spS h n).1,(spS h n).2.1,rfl,hn,rfl,rfl⟩;obtain⟨e1,e2⟩:=H _ _ hc;have hm:Ql (spS h n).1 (reachP (h.tells (spS h n).1 (spS h n).2.1).p)=[]:=by rw[←hn];exact(U5 _ (spI c n).eq).symm
 obtain⟨f1,f2⟩:=Kz c hm hc;rw[e1]at f1;rw[e2]at f2;have h0:(spS h 0).2.2=reachP h.p:=by rw[c.reach_eq];rfl
 refine⟨h.tells (spS h n).1 (spS h n).2.1,(spI c n).ok,rfl,rfl,f1,f2,fun z hz=>((spI c n).eq z).1 (Qa8 h (by rw[h0];exact hz) n),fun hq=>?_⟩
 have ht:Ql (spS h 0).1 (spS h 0).2.2=[]:=by
  rw[h0];refine List.eq_nil_iff_forall_not_mem.2 fun p hp=>?_;obtain⟨h1,h2,h3⟩:=Ux.1 hp;exact h3 (hq p h1 h2)
 obtain⟨q1,q2⟩:=PG c ht n (Nat.zero_le _);rw[q1,q2];rfl
theorem Qa1 {a b:List (Int×ByteArray×List Int)×List Int×List (Int×Int)×List (Int×Int)}(h:Q8 a b):Q8 b a:=⟨h.2.1,h.1,h.2.2.symm⟩
theorem Qgy {a:List (Int×ByteArray×List Int)×List Int×List (Int×Int)×List (Int×Int)}:Q8 a a↔okP a=true:=⟨fun h=>h.1,fun h=>⟨h,h,rfl⟩⟩
theorem Qfa {y:Hp}(cy:OkC y)(hr:reachP y.p=Ze y.os.length):lookP y.p=⟨y.os.map Ob.p,y.rs,y.ws,y.ds⟩:=by
 have hw:∀ws:List (Int×Int),(∀p∈ws,Qn (y.os.map Ob.p) p=true)→Qg ws (Ze y.os.length)=ws:=fun ws hw=>by
  unfold Qg;rw[List.filter_eq_self.2 fun p hp=>?_]
  ·refine(QhV (g:=fun p=>p) fun p hp=>?_).trans (QhW _);obtain⟨⟨a1,a2⟩,b1,b2⟩:=JH hw p hp;rw[Yp a1 a2,Yp b1 b2]
  ·obtain⟨⟨a1,a2⟩,b1,b2⟩:=JH hw p hp;rw[Yp a1 a2];exact decide_eq_true a1
 unfold lookP;rw[hr];show UF.mk ((Ze y.os.length).map (Zj (y.os.map Ob.p) (Ze y.os.length))) (y.rs.map (wh (Ze y.os.length))) (Qg y.ws (Ze y.os.length)) (Qg y.ds (Ze y.os.length))=_;rw[hw _ cy.wo,hw _ cy.dd,(QhV (g:=fun z=>z) fun z hz=>V8 (cy.ro z hz).1 (cy.ro z hz).2).trans (QhW _)];congr 1;apply Qh2
 ·rw[QhT,QhT,VC]
 ·intro i h1 h2;rw[QhT]at h2;have hrf:=cy.refs i h2;rw[QhY,QhY,Us];simp only[Zj,Int.toNat_natCast,Qh5,QhU h2,Option.map_some,Ob.p];rw[(QhV (g:=fun z=>z) fun z hz=>V8 (hrf z hz).1 (hrf z hz).2).trans (QhW _)]
theorem Qgw {h x:Hp}{ms:List Int}(c:OkC h)(H:∀yy mm,CoP h.p yy mm→yy=x.p∧mm=ms)(hq:∀p∈h.ws,p.2∈reachP h.p):Q8 h.p x.p:=by
 obtain⟨g,cg,-,-,ex,-,-,hgh⟩:=Qfg c H;have e:=hgh fun p hp _=>hq p hp;subst e;have cx:=Qan c H;obtain⟨a1,-⟩:=Qb9 c cx ex;refine⟨Yo c,Yo cx,?_⟩;rw[Qfa cx a1];simp only[Hp.p,Prod.mk.injEq]at ex;obtain⟨e1,e2,e3,e4⟩:=ex;rw[e1,e2,e3,e4];have hp:=c.comes.pl.rng;have e5:=VO (os:=g.os) (X:=reachP g.p) (Y:=reachP g.p) hp;simp only[Hp.p]at e5;rw[e5];rfl
end
namespace Co
open Go.RowKit
set_option linter.unusedSimpArgs false
noncomputable def sdB:Code:=match Tryz.f5.body with
 |some c=>c
 |_=>.skip
noncomputable def sdC:Code:=match sdB with
 | .seq _ (.seq _ (.seq _ (.seq _ (.seq _ c))))=>c
 |_=>.skip
noncomputable def sdF:Code:=match sdC with
 | .seq _ c=>c
 |_=>.skip
noncomputable def sdG:Code:=match sdF with
 | .seq _ c=>c
 |_=>.skip
def A72 (f:Nat→Value):Array Value:=#[f 0,f 1,f 2,f 3,f 4,f 5,f 6,f 7,f 8,f 9,f 10,f 11,f 12,f 13,f 14,f 15,f 16,f 17,f 18,f 19,f 20,f 21,f 22,f 23,f 24,f 25,f 26,f 27,f 28,f 29,f 30,f 31,f 32,f 33,f 34,f 35,f 36,f 37,f 38,f 39,f 40,f 41,f 42,f 43,f 44,f 45,f 46,f 47,f 48,f 49,f 50,f 51,f 52,f 53,f 54,f 55,f 56,f 57,f 58,f 59,f 60,f 61,f 62,f 63,f 64,f 65,f 66,f 67,f 68,f 69,f 70,f 71]
theorem Vy (T:Array Value)(h:T.size=72):∃f:Nat→Value,T=A72 f:=by
 have e:=Qce T;rw[h]at e;exact⟨fun i=>T.getD i undef,e⟩
def SdR (u:World)(a:Act)(w1:World):Prop:=a.defers=[]∧a.tmps.size=72∧a.tmps[2]? =some (.bool true)∧Below u.heap.size u w1
end Co
end Go.Proofs.YtcpnkpogebjieaaGreat
