/- behindTelling in company: what it holds between two turns; a turn to the call of dueOf. -/
import Derived.Test.YtcpnkpogebjieaaGreatS26Da
import Derived.Test.YtcpnkpogebjieaaGreatS39Vq
import Derived.Test.YtcpnkpogebjieaaGreatS29Im
import Derived.Conc.LeavingOf
open Go.Value renaming slice→QhR
open Nat renaming le_refl→QhS
open List renaming getElem?_toArray→QhT,getElem?_cons_zero→QhU,getElem?_cons_succ→QhV
set_option maxRecDepth 100000
set_option maxHeartbeats 2000000
namespace Go.Proofs.YtcpnkpogebjieaaGreat
namespace Co
open Go.Conc Go.ConcN Go.RowKit Go.Conc.Lib Go.ConcR.Gen
open Go.ConcR (DC0)
set_option linter.unusedSimpArgs false
theorem Ui (T:Array Value)(h:T.size=13):∃v0 v1 v2 v3 v4 v5 v6 v7 v8 v9 v10 v11 v12,T=#[v0,v1,v2,v3,v4,v5,v6,v7,v8,v9,v10,v11,v12]:=by
 obtain⟨l⟩:=T;simp only[List.size_toArray]at h;rcases l with _|⟨v0,l⟩
 ·simp at h
 rcases l with _|⟨v1,l⟩
 ·simp at h
 rcases l with _|⟨v2,l⟩
 ·simp at h
 rcases l with _|⟨v3,l⟩
 ·simp at h
 rcases l with _|⟨v4,l⟩
 ·simp at h
 rcases l with _|⟨v5,l⟩
 ·simp at h
 rcases l with _|⟨v6,l⟩
 ·simp at h
 rcases l with _|⟨v7,l⟩
 ·simp at h
 rcases l with _|⟨v8,l⟩
 ·simp at h
 rcases l with _|⟨v9,l⟩
 ·simp at h
 rcases l with _|⟨v10,l⟩
 ·simp at h
 rcases l with _|⟨v11,l⟩
 ·simp at h
 rcases l with _|⟨v12,l⟩
 ·simp at h
 obtain rfl:l=[]:=by
  cases l with
  |nil=>rfl
  |cons=>simp at h
 exact⟨v0,v1,v2,v3,v4,v5,v6,v7,v8,v9,v10,v11,v12,rfl⟩
noncomputable def btB:Code:=match Tryz.f33.body with
 |some (.seq _ (.block _ (.loop b)))=>b
 |_=>.skip
noncomputable def Ul:Array Oper:=match btB with
 | .block _ (.seq (.region _ ops _) _)=>ops
 |_=>#[]
noncomputable def btR:Code:=match btB with
 | .block _ (.seq _ r)=>r
 |_=>.skip
noncomputable def btC (T:Array Value):Frame:=(base 33).at ⟨T,[]⟩ [.inRegion Ul [1,2],.code btR,.inBlock 1,.inLoop btB,.inBlock 0]
structure BI (h:Hp) (X0:Nat→Bool) (N:Nat) (w0:World) (bx br n:Nat) (X:Nat→Bool) (y:Hp) (w:World):Prop where
 old:∀b,b<N→w.heap[b]? =w0.heap[b]? ∧X b=X0 b
 big:N≤w.heap.size
 b1:Blk w bx (Hp.cells y) 27
 b2:Blk w br [.slice none 0 0,.slice none 0 0,.slice none 0 0,.slice none 0 0] 27
 n1:N≤bx
 n2:N≤br
 ne:bx≠br
 x1:X bx=false
 x2:X br=false
 sn:Sn X w
 hin:Qj (emW X w) y
 a1:QM y (some bx)
 a2:QM y (some br)
 eo:y.os=h.os∧y.rs=h.rs∧y.ws=(spS h n).1∧y.ds=(spS h n).2.1
 oo:OO w w0
theorem BI.rely {h:Hp}{X0:Nat→Bool}{N:Nat}{w0:World}{bx br n:Nat}{X:Nat→Bool}{y:Hp}{w w1:World}(I:BI h X0 N w0 bx br n X y w)(r:AtRel w w1):BI h X0 N w0 bx br n X y w1:=by
 obtain⟨d,rfl⟩:=r;exact⟨I.old,I.big,I.b1,I.b2,I.n1,I.n2,I.ne,I.x1,I.x2,I.sn.at d,Qj.heap I.hin (by rw[QF,QF];exact QhS _) (fun b _=>by rw[Za,Za];rfl),I.a1,I.a2,I.eo,I.oo⟩
theorem BI.due {h:Hp}{X0:Nat→Bool}{N:Nat}{w0:World}{bx br n:Nat}{X X':Nat→Bool}{y:Hp}{w w':World}(I:BI h X0 N w0 bx br n X y w)(hs:Sn X' w')(ho:∀b,b<w.heap.size→w'.heap[b]? =w.heap[b]? ∧X' b=X b)(hz:w.heap.size≤w'.heap.size)(hoo:OO w' w):BI h X0 N w0 bx br n X' y w':=by
 have big:=I.big;have l1:=I.b1.lt;have l2:=I.b2.lt;refine⟨fun b hb=>⟨((ho b (by omega)).1).trans (I.old b hb).1,((ho b (by omega)).2).trans (I.old b hb).2⟩,Nat.le_trans big hz,I.b1.same (ho _ l1).1,I.b2.same (ho _ l2).1,I.n1,I.n2,I.ne,((ho _ l1).2).trans I.x1,((ho _ l2).2).trans I.x2,hs,?_,I.a1,I.a2,I.eo,hoo.trans I.oo⟩;refine Qj.heap I.hin (by rw[QF,QF];exact hz) fun b hb=>?_;rw[QF]at hb;rw[Za,Za,(ho b hb).1]
 have:emO X' b=emO X b:=by
  funext o;unfold emO;rw[(ho b hb).2]
 rw[this]
section
variable {h:Hp} {X0:Nat→Bool} {N:Nat} {w0:World} {bx br n:Nat} {X:Nat→Bool} {y:Hp} {Ch:Nat} {cs:List Frame}
def QbY (h:Hp)(X0:Nat→Bool)(N:Nat)(w0:World)(bx br n:Nat)(X:Nat→Bool)(y:Hp)(cs:List Frame)(g:Goroutine)(w:World):Prop:=
 ∃T:Array Value,T.size=13∧T[1]? =some (.pointer (some ⟨bx,0,none⟩))∧T[2]? =some (.pointer (some ⟨br,0,none⟩))∧g=G (Frame.enter Tryz.prog 81 #[y.v] .normal) (btC T::cs)∧BI h X0 N w0 bx br n X y w
theorem Qcv {T:Array Value}(hT:T.size=13)(t1:T[1]? =some (.pointer (some ⟨bx,0,none⟩)))(t2:T[2]? =some (.pointer (some ⟨br,0,none⟩))){w:World}(hF:BI h X0 N w0 bx br n X y w):
 Qv Tryz.prog X Ch (QbY h X0 N w0 bx br n X y cs) (G ((base 33).at ⟨T,[]⟩ [.code btB,.inLoop btB,.inBlock 0]) cs) w:=by
 obtain⟨v0,v1,v2,v3,v4,v5,v6,v7,v8,v9,v10,v11,v12,rfl⟩:=Ui T hT;simp only[QhT,QhU,QhV,Option.some.injEq]at t1 t2;subst t1 t2;obtain⟨B0,hB0⟩:∃B0,B0=btB:=⟨_,rfl⟩;rw[←hB0];rw[show B0=_ from hB0];refine QL (n:=30) ?_;have e1:btB=.block 1 (.seq (.region 1 Ul false) btR):=rfl;rw[e1];u_c stepG_block BI.rely hF;u_c stepG_seq BI.rely hF;simp only[Ul,btB,Tryz.f33];u_reg BI.rely hF;refine Goes.stop (fun w1 h1=>?_);replace hF:=BI.rely hF h1;clear h1;refine ZQ rfl (fun w2 h2=>?_);have hz:=ZW h2;replace hF:=BI.rely hF h2;clear h2;have hl:=hF.b1.lt;refine goes_oper_k rfl rfl (by decide) (fun K hK=>?_);obtain⟨c0,c1,c2,c3⟩:=Qb (show Blk w2 bx [QhR y.oa y.os.length y.ocap,QhR y.ra y.rs.length y.rcap,QhR y.wa y.ws.length y.wcap,QhR y.da y.ds.length y.dcap] _ from hF.b1);go_simp;refine hK _ _ ⟨⟨hz,fun B hB e he=>?_⟩,?_⟩
 ·have hm:=mem_listed he;simp[go_sem,c0,c1,c2,c3]at hm;rcases hm with rfl|rfl|rfl|rfl<;>exact⟨hF.x1,by show bx<B;omega⟩
 clear hK K hz c0 c1 c2 c3 hl;refine QL (n:=5) ?_;u_in BI.rely hF;refine goes_call rfl rfl (by decide) rfl Tryz.func81 rfl rfl ⟨by u_nil,?_⟩;rw[←enter_at _ Tryz.func81 rfl];simp only[List.map_toArray,List.map_cons,List.map_nil,Act.eval,Array.getD_eq_getD_getElem?,QhT,QhV,QhU,Option.getD_some];refine Goes.stop (fun w6 h6=>.stop ?_);replace hF:=BI.rely hF h6;exact⟨_,rfl,rfl,rfl,rfl,hF⟩
end
structure HF (h:Hp):Prop where
 ok:OkC h
 txt:∀i (hi:i<h.os.length),h.os[i].t.size≤maxLen
 cap:∀(i:Nat) (hi:i<h.os.length),h.os[i].r.length≤h.os[i].rcap
section
variable {h:Hp} {X0:Nat→Bool} {N:Nat} {w0:World} {bx br n:Nat} {X:Nat→Bool} {y:Hp} {Ch:Nat} {c:Frame} {cs:List Frame}
theorem BI.okC {w:World}(I:BI h X0 N w0 bx br n X y w)(hf:HF h):OkC y:=by
 refine OkC.of_p ?_ (spI hf.ok n).ok;obtain⟨e1,e2,e3,e4⟩:=I.eo;show(_,_,_,_)=(_,_,_,_);rw[e1,e2,e3,e4];rfl
theorem BI.dueOk {w:World}(I:BI h X0 N w0 bx br n X y w)(hf:HF h):PU y:=by
 have c:=I.okC hf;have hw:=c.w20;obtain⟨e1,_⟩:=I.eo;refine⟨c.small,?_,?_,c.n60,c.comes.pl,by omega,fun k hk=>(JH (h:=y) c.wo _ (List.getElem_mem hk)).2⟩
 ·rw[e1];exact hf.txt
 ·rw[e1];exact hf.cap
theorem BI.told {w:World}(I:BI h X0 N w0 bx br n X y w)(hf:HF h):Ql y.ws (reachP y.p)=Ql (spS h n).1 (spS h n).2.2:=by
 obtain⟨e1,e2,e3,e4⟩:=I.eo
 have e:y.p=(h.tells (spS h n).1 (spS h n).2.1).p:=by
  show(_,_,_,_)=(_,_,_,_);rw[e1,e2,e3,e4];rfl
 rw[e,e3];exact(U5 _ (spI hf.ok n).eq).symm
structure JW (h:Hp) (X0:Nat→Bool) (N:Nat) (w0:World) (n:Nat) (X:Nat→Bool) (y:Hp) (w:World):Prop where
 old:∀b,b<N→w.heap[b]? =w0.heap[b]? ∧X b=X0 b
 big:N≤w.heap.size
 sn:Sn X w
 hin:Qj (emW X w) y
 eo:y.os=h.os∧y.rs=h.rs∧y.ws=(spS h n).1∧y.ds=(spS h n).2.1
 nil:QD y=[]
 oo:OO w w0
def QbZ (h:Hp)(X0:Nat→Bool)(N:Nat)(w0:World)(bx br n:Nat)(X:Nat→Bool)(y:Hp)(c:Frame)(cs:List Frame)(g:Goroutine)(w:World):Prop:=
 (g=G (c.finish y.v) cs∧JW h X0 N w0 n X y w)∨
 ∃(T:Array Value) (y':Hp),T.size=13∧T[1]? =some (.pointer (some ⟨bx,0,none⟩))∧T[2]? =some (.pointer (some ⟨br,0,none⟩))∧g=G ((base 33).at ⟨T,[]⟩ [.code btB,.inLoop btB,.inBlock 0]) (c::cs)∧BI h X0 N w0 bx br (n+1) X y' w∧y'.ws.length<y.ws.length
theorem KO {w:World}{b t:Nat}{cs:List Value}(hb:Blk w b cs t)(hx:X b=false)(tp:Tape)(d:Nat):Blk {emW X w with tape:=tp,drawn:=d} b cs t:=by
 show(emW X w).heap[b]? =_;rw[Jj hx];exact hb
theorem QdY {w:World}{base e size n:Nat}{v:Value}{xs:List Value}(ho:w.ownsRow base e size v n xs)(hx:∀b,v.ownBlock=some b→X b=false)(tp:Tape)(d:Nat):({emW X w with tape:=tp,drawn:=d}:World).ownsRow base e size v n xs:=
 ZZ ho fun b hb=>Jj (hx b hb)
theorem Vw {w:World}(hh:Qj (emW X w) y)(tp:Tape)(d:Nat):Qj {emW X w with tape:=tp,drawn:=d} y:=Qj.heap hh (QhS _) fun _ _=>rfl
def BtR (y:Hp)(bx br:Nat)(zs:List Int)(u:World)(a:Act)(w1:World):Prop:=
 a.defers=[]∧a.tmps.size=13∧a.tmps[1]? =some (.pointer (some ⟨bx,0,none⟩))∧a.tmps[2]? =some (.pointer (some ⟨br,0,none⟩))∧zs≠[]∧
 (∃(wa:Option Addr) (wcap:Nat) (ea:Option Addr) (ecap:Nat),Blk w1 bx [QhR y.oa y.os.length y.ocap,QhR y.ra y.rs.length y.rcap,QhR wa (QZ y.ws (bwd zs)).length wcap,QhR ea (y.ds++Q9 y.ws zs).length ecap] 27∧
   Qe w1 u.heap.size (.slice wa (QZ y.ws (bwd zs)).length wcap) (QZ y.ws (bwd zs))∧Qe w1 u.heap.size (.slice ea (y.ds++Q9 y.ws zs).length ecap) (y.ds++Q9 y.ws zs))∧
 (∀b,b<u.heap.size→b≠bx→w1.heap[b]? =u.heap[b]?)∧u.heap.size≤w1.heap.size∧OO w1 u
def PR (y:Hp)(br:Nat)(zs:List Int)(u:World)(a:Act)(w1:World):Prop:=
 a.defers=[]∧a.tmps.size=13∧a.tmps[2]? =some (.pointer (some ⟨br,0,none⟩))∧zs=[]∧Blk w1 br (Hp.cells y) 27∧(∀b,b<u.heap.size→b≠br→w1.heap[b]? =u.heap[b]?)∧u.heap.size≤w1.heap.size∧OO w1 u
theorem Qcp (v0 v4 v5 v6 v7 v8 v9 v10 v11 v12:Value){u:World}(hn:bx≠br)(h1:Blk u bx (Hp.cells y) 27)(h2:Blk u br [.slice none 0 0,.slice none 0 0,.slice none 0 0,.slice none 0 0] 27)(hh:Qj u y)(hok:OkC y)(za:Option Addr)(zcap:Nat)(hz:Qi u za (QD y)):
 btR.wp Cut.prog (JQ (BtR y bx br (QD y) u) (PR y br (QD y) u)) ⟨#[v0,.pointer (some ⟨bx,0,none⟩),.pointer (some ⟨br,0,none⟩),.slice za (QD y).length zcap,v4,v5,v6,v7,v8,v9,v10,v11,v12],[]⟩ u:=by
 have hw:=hok.w20;have hlen:=QdO y;have c1:=Qhr y u hh (by omega) (by omega) za zcap (QD y) hz (by omega) (QdN y);simp only[Hp.v]at c1;obtain⟨x0,x1,x2,x3⟩:=Qb (show Blk u bx [QhR y.oa y.os.length y.ocap,QhR y.ra y.rs.length y.rcap,QhR y.wa y.ws.length y.wcap,QhR y.da y.ds.length y.dcap] _ from h1);obtain⟨r0,r1,r2,r3⟩:=Qb h2;obtain⟨f0,f1,f2,f3⟩:=Qo h2;obtain⟨g0,g1,g2,g3⟩:=Qo h1;have hnb:¬bx=br:=hn;have hnb':¬br=bx:=fun e=>hn e.symm;simp only[btR,btB,Tryz.f33];by_cases h0:(QD y).length=0
 ·have hb0:(((QD y).length:Int)==0)=true:=by rw[h0];rfl
  obtain⟨kq,bq⟩:=QR h2 (.slice y.oa y.os.length y.ocap) (.slice y.ra y.rs.length y.rcap) (.slice y.wa y.ws.length y.wcap) (.slice y.da y.ds.length y.dcap)
  have hq:∀b,b≠br→((((u.setCell ⟨br,0,none⟩ (.slice y.oa y.os.length y.ocap)).setCell ⟨br,1,none⟩ (.slice y.ra y.rs.length y.rcap)).setCell ⟨br,2,none⟩ (.slice y.wa y.ws.length y.wcap)).setCell ⟨br,3,none⟩ (.slice y.da y.ds.length y.dcap)).heap[b]? =u.heap[b]? :=fun b hb=>by
   rw[Below.heap_setCell _ _ _ _ hb,Below.heap_setCell _ _ _ _ hb,Below.heap_setCell _ _ _ _ hb,Below.heap_setCell _ _ _ _ hb]
  clear kq;go_wp2;exact⟨rfl,rfl,rfl,List.eq_nil_of_length_eq_zero h0,bq,fun b _ hb=>hq b hb,by simp[World.setCell],⟨rfl,rfl⟩⟩
 ·have hb0:(((QD y).length:Int)==0)=false:=by rw[YB];exact decide_eq_false h0
  go_wp2_with fail;refine c1.mono ?_;rintro e w1 ⟨wa,wcap,ea,ecap,rfl,o1,o2,hb⟩;have b1:Blk w1 bx [QhR y.oa y.os.length y.ocap,QhR y.ra y.rs.length y.rcap,QhR y.wa y.ws.length y.wcap,QhR y.da y.ds.length y.dcap] 27:=h1.step hb;obtain⟨kq,bq⟩:=QR b1 (.slice y.oa y.os.length y.ocap) (.slice y.ra y.rs.length y.rcap) (.slice wa (QZ y.ws (bwd (QD y))).length wcap) (.slice ea (y.ds++Q9 y.ws (QD y)).length ecap)
  have hq:∀b,b≠bx→((((w1.setCell ⟨bx,0,none⟩ (.slice y.oa y.os.length y.ocap)).setCell ⟨bx,1,none⟩ (.slice y.ra y.rs.length y.rcap)).setCell ⟨bx,2,none⟩ (.slice wa (QZ y.ws (bwd (QD y))).length wcap)).setCell ⟨bx,3,none⟩ (.slice ea (y.ds++Q9 y.ws (QD y)).length ecap)).heap[b]? =w1.heap[b]? :=fun b hb=>by
   rw[Below.heap_setCell _ _ _ _ hb,Below.heap_setCell _ _ _ _ hb,Below.heap_setCell _ _ _ _ hb,Below.heap_setCell _ _ _ _ hb]
  have q1:=Qm o1 kq (by decide);have q2:=Qm o2 kq (by decide);have hne:QD y≠[]:=fun e=>h0 (by rw[e];rfl);have hsz:=hb.size;have hbk:=hb.block;have hoo:OO w1 u:=⟨hb.os,hb.output⟩;have HLA:Hid ((y.ds++Q9 y.ws (QD y)).length=y.ds.length+(Q9 y.ws (QD y)).length):=List.length_append;generalize hRS:y.ds++Q9 y.ws (QD y)=rs at *;have HRS:Hid (y.ds++Q9 y.ws (QD y)=rs):=hRS;clear hRS;obtain⟨x0',x1',x2',x3'⟩:=Qb b1;obtain⟨g0',g1',g2',g3'⟩:=Qo b1;clear kq b1 c1 o1 o2 hb x0 x1 x2 x3 g0 g1 g2 g3 h1 h2 r0 r1 r2 r3 f0 f1 f2 f3;go_wp2;refine⟨rfl,rfl,rfl,rfl,hne,⟨wa,wcap,ea,ecap,?_,q1,?_⟩,fun b hb hn=>(hq b hn).trans (hbk b hb),by simp[World.setCell];exact hsz,hoo⟩
  ·rw[HRS.out];exact bq
  ·rw[HRS.out];exact q2
theorem Uk {w1 w2 w2' u:World}(hu:u.heap=(emW X w1).heap)(hE:Em X w2 w2')(hK:QB X w1 w2){b:Nat}(hb:w2'.heap[b]? =u.heap[b]?):w2.heap[b]? =w1.heap[b]? :=by
 cases hx:X b with
 |true=>exact hK.ob b hx
 |false=>rw[JR hE hx,hb,hu,Jj hx]
theorem Qj.but {w w':World}{h:Hp}{q:Nat}(hh:Qj w h)(hs:w.heap.size≤w'.heap.size)(ho:∀b,b<w.heap.size→b≠q→w'.heap[b]? =w.heap[b]?)(hav:QM h (some q)):Qj w' h:=by
 have h1:=Qj.grown hh (w':={w with heap:=w'.heap}) ⟨rfl,rfl,rfl,hs,fun k hk hne=>ho k hk fun e=>hne (by rw[e])⟩ hav;exact⟨h1.so,h1.sr,h1.sw,h1.sd⟩
theorem Vu {w2 w2':World}{y:Hp}(hE:Em X w2 w2')(hh:Qj w2' y):Qj (emW X w2) y:=
 Qj.heap hh (by rw[QF,hE.size];exact QhS _) fun b _=>by rw[Za,hE.heap b]
theorem O2 {a:Act}{k:List Item}(hd:a.defers=[])(hk:∀i∈k,Z5 Tryz.progTables X i):FOk Tryz.progTables Cut.keep X ((base 33).at a k):=
 ⟨by kernel_rfl,hk,(fun d hq=>by
   have:d∈a.defers:=hq;rw[hd]at this
   simp at this),rfl,fun l hl=>by cases hl⟩
theorem Qcr:∀i∈[Item.code btR,.inBlock 1,.inLoop btB,.inBlock 0],Z5 Tryz.progTables X i:=by
 intro i hi;simp only[List.mem_cons,List.not_mem_nil,or_false]at hi;rcases hi with rfl|rfl|rfl|rfl
 ·exact(show QQ Tryz.progTables btR=true by kernel_rfl)
 ·trivial
 ·exact(show QQ Tryz.progTables btB=true by kernel_rfl)
 ·trivial
theorem Qcs (hf:HF h){T:Array Value}(hT:T.size=13)(t1:T[1]? =some (.pointer (some ⟨bx,0,none⟩)))(t2:T[2]? =some (.pointer (some ⟨br,0,none⟩))){w:World}{M:Nat}{v:Value}(hF:BI h X0 N w0 bx br n X y w)(hv:Qa w M v (QD y))(hx:∀b,v.ownBlock=some b→X b=false):
 Qv Tryz.prog X Ch (QbZ h X0 N w0 bx br n X y c cs) (G ((btC T).finish v) (c::cs)) w:=by
 obtain⟨v0,v1,v2,v3,v4,v5,v6,v7,v8,v9,v10,v11,v12,rfl⟩:=Ui T hT;simp only[QhT,QhU,QhV,Option.some.injEq]at t1 t2;subst t1 t2;obtain⟨za,zcap,rfl,-⟩:=hv.form;rw[btC,Frame.finish_at];have e0:Ul[1]? =some Ul[1]! :=rfl;have hFv:BI h X0 N w0 bx br n X y w∧Qa w M (.slice za (QD y).length zcap) (QD y):=⟨hF,hv⟩;have rel:∀ {w w1:World},(BI h X0 N w0 bx br n X y w∧Qa w M (.slice za (QD y).length zcap) (QD y))→AtRel w w1→(BI h X0 N w0 bx br n X y w1∧Qa w1 M (.slice za (QD y).length zcap) (QD y)):=fun h r=>⟨BI.rely h.1 r,ZZ h.2 fun b _=>by obtain⟨d,rfl⟩:=r;rfl⟩;clear hF hv;refine QL (n:=30) ?_;obtain⟨R0,hR0⟩:∃R0,R0=btR:=⟨_,rfl⟩;obtain⟨B0,hB0⟩:∃B0,B0=btB:=⟨_,rfl⟩;rw[←hR0,←hB0];simp only[Ul,btB,Tryz.f33,QhT,QhV,QhU,Option.bind_some];walk_nrm;u_op rel hFv;u_c stepG_region_end rel hFv;refine Goes.stop (fun w1 h1=>?_);replace hFv:=rel hFv h1;clear h1 e0 rel;obtain⟨hF,hv⟩:=hFv;rw[hR0,hB0];clear hR0 hB0 R0 B0;have hok:=hF.okC hf
 have hseg:∀t d,Qi {emW X w1 with tape:=t,drawn:=d} za (QD y):=fun t d=>by
  obtain⟨a,cp,e,h2,_⟩:=Qa.form (QdY hv hx t d)
  cases e
  exact h2
 refine KA hF.sn (O2 rfl Qcr) (R:=fun a w2=>∃u:World,(u.heap=(emW X w1).heap∧OO u w1)∧BtR y bx br (QD y) u a w2) (Rr:=fun a w2=>∃u:World,(u.heap=(emW X w1).heap∧OO u w1)∧PR y br (QD y) u a w2) (fun t d=>?_) (fun a w2 w2' hE hS hK hFO hR=>?_) (fun a todo w2 w2' hE hS hK hFO hR=>?_)
 ·refine wp_mono (Qcp _ _ _ _ _ _ _ _ _ _ hF.ne (KO hF.b1 hF.x1 t d) (KO hF.b2 hF.x2 t d) (Vw hF.hin t d) hok za zcap (hseg t d)) fun e a w hq=>?_
  cases e with
  |normal=>exact⟨{emW X w1 with tape:=t,drawn:=d},⟨rfl,rfl,rfl⟩,hq⟩
  |ret=>exact⟨{emW X w1 with tape:=t,drawn:=d},⟨rfl,rfl,rfl⟩,hq⟩
  |_=>exact hq
 ·obtain⟨u,⟨hu,huo⟩,r1,r2,r3,r4,r5,⟨wa,wcap,ea,ecap,r6,r7,r8⟩,r9,r10,r11⟩:=hR;have hoo:OO w2 w1:=OO.trans (OO.trans ⟨hE.os.symm,hE.out.symm⟩ r11) huo;obtain⟨T,D⟩:=a;simp only at r1 r2 r3 r4;subst r1;have us:u.heap.size=w1.heap.size:=by rw[hu];exact QF X w1
  have hbk:∀b,b<w1.heap.size→b≠bx→w2.heap[b]? =w1.heap[b]? :=fun b h1 h2=>Uk hu hE hK (r9 b (by omega) h2);have big:=hF.big;have l1:=hF.b1.lt;have l2:=hF.b2.lt;have hsz:=hK.size;have nb:=hF.n1;have hu0:Qj u y:=Qj.heap hF.hin (by rw[us,QF];exact QhS _) fun b _=>by rw[hu]
  have hy2:Qj w2' y:=Qj.but hu0 r10 (fun b h1 h2=>r9 b h1 h2) hF.a1;obtain⟨qa,qc,q1,q2,-⟩:=Qe.form r7;simp only[Value.slice.injEq]at q1;obtain⟨rfl,-⟩:=q1;obtain⟨qa',qc',q3,q4,-⟩:=Qe.form r8;simp only[Value.slice.injEq]at q3;obtain⟨rfl,-⟩:=q3
  have hI:BI h X0 N w0 bx br (n+1) X {y with wa:=wa,wcap:=wcap,ws:=QZ y.ws (bwd (QD y)),da:=ea,dcap:=ecap,ds:=y.ds++Q9 y.ws (QD y)} w2:=by
   refine⟨fun b hb=>⟨(hbk b (by omega) (by omega)).trans (hF.old b hb).1,(hF.old b hb).2⟩,by omega,?_,hF.b2.same (hbk br l2 (fun e=>hF.ne e.symm)),hF.n1,hF.n2,hF.ne,hF.x1,hF.x2,hS,Vu hE ⟨hy2.so,hy2.sr,q2,q4⟩,⟨hF.a1.ao,hF.a1.aoo,hF.a1.ar,?_,?_⟩,⟨hF.a2.ao,hF.a2.aoo,hF.a2.ar,?_,?_⟩,⟨hF.eo.1,hF.eo.2.1,?_,?_⟩,hoo.trans hF.oo⟩
   ·exact Blk.same r6 (JR hE hF.x1)
   ·exact Uj (fun k e=>(Qe.lt r7 k e).1) (fun k e=>by cases e;omega)
   ·exact Uj (fun k e=>(Qe.lt r8 k e).1) (fun k e=>by cases e;omega)
   ·exact Uj (fun k e=>(Qe.lt r7 k e).1) (fun k e=>by cases e;omega)
   ·exact Uj (fun k e=>(Qe.lt r8 k e).1) (fun k e=>by cases e;omega)
   ·show QZ y.ws (bwd (QD y))=_;rw[OL hok,U3,hF.told hf];unfold YO;rw[hF.eo.2.2.1]
   ·show y.ds++Q9 y.ws (QD y)=_;rw[OJ hok,U3,hF.told hf];unfold YO;rw[hF.eo.2.2.2]
  have hlt:(QZ y.ws (bwd (QD y))).length<y.ws.length:=by
   rw[OL hok];have h1:=Kb y.ws (reachP y.p);have h2:Ql y.ws (reachP y.p)≠[]:=fun e=>r5 ((OM hok).2 e);have h3:=List.length_pos_iff.2 h2;omega
  clear hF hv hok hseg hE hS hK hFO r6 r7 r8 r9 hbk hu0 hy2 q2 q4;refine QL (n:=5) ?_;u_c stepG_inBlock BI.rely hI;u_c stepG_inLoop BI.rely hI;refine Goes.stop (fun w3 h3=>.stop (.inr ?_));exact⟨T,_,r2,r3,r4,rfl,BI.rely hI h3,hlt⟩
 ·obtain⟨u,⟨hu,huo⟩,r1,r2,r3,r4,r5,r6,r7,r8⟩:=hR;have hoo:OO w2 w1:=OO.trans (OO.trans ⟨hE.os.symm,hE.out.symm⟩ r8) huo;obtain⟨T,D⟩:=a;simp only at r1 r2 r3;subst r1;obtain⟨p0,p1,p2,p3,p4,p5,p6,p7,p8,p9,p10,p11,p12,rfl⟩:=Ui T r2;simp only[QhT,QhU,QhV,Option.some.injEq]at r3;subst r3;have us:u.heap.size=w1.heap.size:=by rw[hu];exact QF X w1
  have hbk:∀b,b<w1.heap.size→b≠br→w2.heap[b]? =w1.heap[b]? :=fun b h1 h2=>Uk hu hE hK (r6 b (by omega) h2);have big:=hF.big;have nb:=hF.n2;have hsz:=hK.size;have hu0:Qj u y:=Qj.heap hF.hin (by rw[us,QF];exact QhS _) fun b _=>by rw[hu]
  have hy2:Qj w2' y:=Qj.but hu0 r7 (fun b h1 h2=>r6 b h1 h2) hF.a2;obtain⟨z0,z1,z2,z3⟩:=Qb (show Blk w2' br [QhR y.oa y.os.length y.ocap,QhR y.ra y.rs.length y.rcap,QhR y.wa y.ws.length y.wcap,QhR y.da y.ds.length y.dcap] _ from r5);refine K9 (v:=y.v) hS hFO rfl rfl (fn:=Tryz.f33) Tryz.func33 hE ?_ (fun d=>.stop (.inl ⟨rfl,?_⟩))
  ·simp[results,Frame.at,Tryz.results33,go_sem,z0,z1,z2,z3,Hp.v]
  ·exact⟨fun b hb=>⟨(hbk b (by omega) (by omega)).trans (hF.old b hb).1,(hF.old b hb).2⟩,by show N≤w2.heap.size;omega,hS.at d,Qj.heap (Vu hE hy2) (by rw[QF,QF];exact QhS _) (fun b _=>by rw[Za,Za];rfl),hF.eo,r4,hoo.trans hF.oo⟩
end
section
variable {h:Hp} {X0:Nat→Bool} {N:Nat} {w0:World} {bx br:Nat} {c:Frame} {cs:List Frame}
theorem P8 (hf:HF h):∀(m n:Nat) (X:Nat→Bool) (SB:Nat→Prop) (gs:Array Goroutine) (w:World) (t:Trace) (sl:Option (Nat×Nat)) (T:Array Value) (y:Hp),y.ws.length<m→Bt X SB gs w t→T.size=13→T[1]? =some (.pointer (some ⟨bx,0,none⟩))→T[2]? =some (.pointer (some ⟨br,0,none⟩))→
 gs[0]? =some (G ((base 33).at ⟨T,[]⟩ [.code btB,.inLoop btB,.inBlock 0]) (c::cs))→BI h X0 N w0 bx br n X y w→
 ∃K gs' w' sl' t' X' SB' n' y',runNT Tryz.prog K (crowd gs w sl) t=(.next (crowd gs' w' sl'),t')∧gs'[0]? =some (G (c.finish (Hp.v y')) cs)∧Bt X' SB' gs' w' t'∧JW h X0 N w0 n' X' y' w'
 |0,_,_,_,_,_,_,_,_,_,hm,_,_,_,_,_,_=>by omega
 |m+1,n,X,SB,gs,w,t,sl,T,y,hm,hB,hT,t1,t2,h0,hI=>by
  obtain⟨n1,gs1,a1,w1,sl1,t1',hr1,hsz1,h01,⟨T1,p1,p2,p3,rfl,hI1⟩,hB1⟩:=J3 hB h0 (Qcv (Ch:=0) (cs:=c::cs) hT t1 t2 hI) sl;obtain⟨n2,gs2,w2,sl2,t2',X2,SB2,v,hr2,h02,hB2,hS2,ho2,hz2,hv2,hx2,hoo2⟩:=QdV y hB1 hI1.sn hI1.hin (hI1.dueOk hf) h01 sl1;have hI2:=hI1.due hS2 ho2 hz2 hoo2;obtain⟨n3,gs3,a3,w3,sl3,t3',hr3,hsz3,h03,hnx,hB3⟩:=J3 hB2 h02 (Qcs (Ch:=0) (c:=c) (cs:=cs) hf p1 p2 p3 hI2 hv2 hx2) sl2
  have hrun:runNT Tryz.prog (n1+(n2+n3)) (crowd gs w sl) t=(.next (crowd gs3 w3 sl3),t3'):=by
   rw[runNT_add,hr1];simp only;rw[runNT_add,hr2];exact hr3
  rcases hnx with⟨rfl,hR⟩|⟨T3,y3,q1,q2,q3,rfl,hI3,hlt⟩
  ·exact⟨_,gs3,w3,sl3,t3',X2,SB2,n,y,hrun,h03,hB3,hR⟩
  ·obtain⟨n4,gs4,w4,sl4,t4',X4,SB4,n5,y5,hr4,r⟩:=P8 hf m (n+1) X2 SB2 gs3 w3 t3' sl3 T3 y3 (by omega) hB3 q1 q2 q3 h03 hI3;exact⟨n1+(n2+n3)+n4,gs4,w4,sl4,t4',X4,SB4,n5,y5,by rw[runNT_add,hrun];exact hr4,r⟩
structure HQ (X:Nat→Bool) (w0 w:World):Prop where
 sn:Sn X w
 eq:w.heap=w0.heap
 oo:OO w w0
theorem HQ.rely {X:Nat→Bool}{w0 w w1:World}(h:HQ X w0 w)(r:AtRel w w1):HQ X w0 w1:=by
 obtain⟨d,rfl⟩:=r;exact⟨h.sn.at d,h.eq,h.oo⟩
noncomputable def btS:Code:=match Tryz.f33.body with
 |some (.seq r _)=>r
 |_=>.skip
def Kg (h:Hp)(n:Nat)(u:World)(a:Act)(w1:World):Prop:=
 a.defers=[]∧a.tmps.size=n∧a.tmps[1]? =some (.pointer (some ⟨u.heap.size,0,none⟩))∧a.tmps[2]? =some (.pointer (some ⟨u.heap.size+1,0,none⟩))∧Blk w1 u.heap.size (Hp.cells h) 27∧Blk w1 (u.heap.size+1) [.slice none 0 0,.slice none 0 0,.slice none 0 0,.slice none 0 0] 27∧Below u.heap.size u w1
theorem P7 (h:Hp)(u:World):Blk ((u.alloc (Obj.cells #[QhR h.oa h.os.length h.ocap,QhR h.ra h.rs.length h.rcap,QhR h.wa h.ws.length h.wcap,QhR h.da h.ds.length h.dcap] 27)).alloc (Obj.cells #[QhR none 0 0,QhR none 0 0,QhR none 0 0,QhR none 0 0] 27)) u.heap.size (Hp.cells h) 27∧
 Blk ((u.alloc (Obj.cells #[QhR h.oa h.os.length h.ocap,QhR h.ra h.rs.length h.rcap,QhR h.wa h.ws.length h.wcap,QhR h.da h.ds.length h.dcap] 27)).alloc (Obj.cells #[QhR none 0 0,QhR none 0 0,QhR none 0 0,QhR none 0 0] 27)) (u.heap.size+1) [.slice none 0 0,.slice none 0 0,.slice none 0 0,.slice none 0 0] 27∧
 Below u.heap.size u ((u.alloc (Obj.cells #[QhR h.oa h.os.length h.ocap,QhR h.ra h.rs.length h.rcap,QhR h.wa h.ws.length h.wcap,QhR h.da h.ds.length h.dcap] 27)).alloc (Obj.cells #[QhR none 0 0,QhR none 0 0,QhR none 0 0,QhR none 0 0] 27)):=by
 refine⟨(Blk.new u (Hp.cells h) 27).alloc _,?_,((Below.refl _ _).alloc (QhS _) _).alloc (by simp) _⟩;have:=Blk.new (u.alloc (Obj.cells #[QhR h.oa h.os.length h.ocap,QhR h.ra h.rs.length h.rcap,QhR h.wa h.ws.length h.wcap,QhR h.da h.ds.length h.dcap] 27)) [QhR none 0 0,QhR none 0 0,QhR none 0 0,QhR none 0 0] 27;rw[World.size_alloc]at this;exact this
theorem Qco (h:Hp)(u:World):btS.wp Cut.prog (JQ (Kg h 13 u) fun _ _=>False) ⟨#[h.v]++Array.replicate 12 undef,[]⟩ u:=by
 obtain⟨b1,b2,b3⟩:=P7 h u;simp only[btS,Tryz.f33,Hp.v,Array.replicate_succ,Array.replicate_zero,List.push_toArray,List.append_toArray,List.nil_append,List.cons_append];go_wp2;exact⟨rfl,rfl,rfl,rfl,b1,b2,b3⟩
theorem Qcq {X:Nat→Bool}{Ch:Nat}{w:World}(hs:Sn X w)(hh:Qj (emW X w) h):
 Qv Tryz.prog X Ch (fun g w1=>∃(T:Array Value) (bx br:Nat),T.size=13∧T[1]? =some (.pointer (some ⟨bx,0,none⟩))∧T[2]? =some (.pointer (some ⟨br,0,none⟩))∧g=G ((base 33).at ⟨T,[]⟩ [.code btB,.inLoop btB,.inBlock 0]) cs∧BI h X w.heap.size w bx br 0 X h w1) (G (Frame.enter Tryz.prog 33 #[h.v] .normal) cs) w:=by
 rw[enter_at _ Tryz.func33 (show Tryz.f33.body=some (.seq btS (.block 0 (.loop btB)))from rfl)];have hF:HQ X w w:=⟨hs,rfl,.refl _⟩;have hxo:∀b,w.heap.size≤b→X b=false:=fun b hb=>hs.out hb;generalize hN:w.heap.size=N at hxo;refine QL (n:=30) ?_;u_c stepG_seq HQ.rely hF;refine Goes.stop (fun w1 h1=>?_);replace hF:=HQ.rely hF h1;have hw1:w1.heap=w.heap:=hF.eq;have hwo:OO w1 w:=hF.oo;clear h1
 have hok:FOk Tryz.progTables Cut.keep X ((base 33).at ⟨#[h.v]++Array.replicate (Tryz.f33.ntmps-(#[h.v]:Array Value).size) undef,[]⟩ [.code btS,.code (.block 0 (.loop btB))]):=O2 rfl (by
  intro i hi;simp only[List.mem_cons,List.not_mem_nil,or_false]at hi;rcases hi with rfl|rfl
  ·exact(show QQ Tryz.progTables btS=true by kernel_rfl)
  ·exact(show QQ Tryz.progTables (.block 0 (.loop btB))=true by kernel_rfl))
 refine KA hF.sn hok (R:=fun a w2=>∃u:World,(u.heap=(emW X w1).heap∧OO u w1)∧Kg h 13 u a w2) (Rr:=fun _ _=>False) (fun t d=>?_) (fun a w2 w2' hE hS hK hFO hR=>?_) (fun a todo w2 w2' hE hS hK hFO hR=>hR.elim)
 ·refine wp_mono (Qco h _) fun e a w hq=>?_
  cases e with
  |normal=>exact⟨{emW X w1 with tape:=t,drawn:=d},⟨rfl,rfl,rfl⟩,hq⟩
  |_=>exact hq
 obtain⟨u,⟨hu,huo⟩,r1,r2,r3,r4,r5,r6,r7⟩:=hR;have hoo:OO w2 w:=(OO.trans (OO.trans ⟨hE.os.symm,hE.out.symm⟩ ⟨r7.os,r7.output⟩) huo).trans hwo;obtain⟨T,D⟩:=a;simp only at r1 r2 r3 r4;subst r1;have us:u.heap.size=N:=by rw[hu,QF,hw1,hN]
 have hbk:∀b,b<N→w2.heap[b]? =w.heap[b]? :=fun b hb=>(Uk hu hE hK (r7.block b (by omega))).trans (by rw[hw1]);have hsz:=hK.size;have hsz1:w1.heap.size=N:=by rw[hw1,hN]
 have hu0:Qj u h:=Qj.heap hh (by rw[us,QF,hN];exact QhS _) fun b hb=>by rw[hu,Za,Za,hw1]
 have hI:BI h X N w u.heap.size (u.heap.size+1) 0 X h w2:=by
  refine⟨fun b hb=>⟨hbk b hb,rfl⟩,by omega,r5.same (JR hE (hxo _ (by omega))),r6.same (JR hE (hxo _ (by omega))),by omega,by omega,by omega,hxo _ (by omega),hxo _ (by omega),hS,Vu hE (hu0.below r7 (QhS _)),hu0.av (QhS _),hu0.av (by omega),⟨rfl,rfl,rfl,rfl⟩,hoo⟩
 clear hF hok hE hS hK hFO r5 r6 r7 hbk hu0;refine QL (n:=5) ?_;u_c stepG_block BI.rely hI;u_c stepG_loop BI.rely hI;refine Goes.stop (fun w3 h3=>.stop ?_);exact⟨T,_,_,r2,r3,r4,rfl,BI.rely hI h3⟩
theorem Qct (hf:HF h){X:Nat→Bool}{SB:Nat→Prop}{gs:Array Goroutine}{w:World}{t:Trace}(hB:Bt X SB gs w t)(hs:Sn X w)(hh:Qj (emW X w) h)(h0:gs[0]? =some (G (Frame.enter Tryz.prog 33 #[h.v] .normal) (c::cs)))(sl:Option (Nat×Nat)):
 ∃K gs' w' sl' t' X' SB' n' y',runNT Tryz.prog K (crowd gs w sl) t=(.next (crowd gs' w' sl'),t')∧gs'[0]? =some (G (c.finish (Hp.v y')) cs)∧Bt X' SB' gs' w' t'∧JW h X w.heap.size w n' X' y' w':=by
 obtain⟨n1,gs1,a1,w1,sl1,t1',hr1,hsz1,h01,⟨T,bx,br,p1,p2,p3,rfl,hI⟩,hB1⟩:=J3 hB h0 (Qcq (Ch:=0) (cs:=c::cs) hs hh) sl;obtain⟨n4,gs4,w4,sl4,t4',X4,SB4,n5,y5,hr4,r⟩:=P8 hf (h.ws.length+1) 0 X SB gs1 w1 t1' sl1 T h (by omega) hB1 p1 p2 p3 h01 hI;exact⟨n1+n4,gs4,w4,sl4,t4',X4,SB4,n5,y5,by rw[runNT_add,hr1];exact hr4,r⟩
end
end Co
namespace Co
open Go.Conc Go.ConcN Go.RowKit Go.Conc.Lib Go.ConcR.Gen
def Xs:Obj→Bool
 | .loop _| .deferred _| .view _ _| .pending _ _=>true
 |_=>false
def X0 (w:World)(r:Nat):Bool:=match w.heap[r]? with
 |some o=>Xs o
 |none=>false
theorem QgI (w:World):Sn (X0 w) w:=by
 refine⟨⟨fun r hr=>?_,fun r o hr ho=>?_⟩,fun r o ho=>?_⟩
 ·unfold X0 at hr
  cases h:w.heap[r]? with
  |none=>rw[h]at hr;cases hr
  |some o=>exact(Array.getElem?_eq_some_iff.1 h).1
 ·unfold X0 at hr;rw[ho]at hr
  cases o<;>first|trivial|(simp[Xs]at hr;done)
 ·rw[Za]at ho
  cases h:w.heap[r]? with
  |none=>rw[h]at ho;cases ho
  |some ob=>
   rw[h]at ho;simp only[Option.map_some,Option.some.injEq]at ho;have hx:X0 w r=Xs ob:=by unfold X0;rw[h]
   cases ob<;>simp only[Xs]at hx<;>simp[emO,hx]at ho<;>subst ho<;>trivial
theorem QcC (w:World)(b o:Nat):(emW (X0 w) w).cell? ⟨b,o,none⟩=w.cell? ⟨b,o,none⟩:=by
 cases h:w.heap[b]? with
 |none=>simp[World.cell?,Za,h]
 |some ob=>
  have hx:X0 w b=Xs ob:=by unfold X0;rw[h]
  cases ob<;>simp only[Xs]at hx<;>simp[World.cell?,Za,h,emO,hx]
theorem Qi.cells {w w':World}{a:Option Addr}{xs:List Int}(h:Qi w a xs)(hs:w.heap.size=w'.heap.size)(hc:∀b o,w'.cell? ⟨b,o,none⟩=w.cell? ⟨b,o,none⟩):Qi w' a xs:=fun hm=>by
 obtain⟨b,off,h1,h2,h3⟩:=h hm;exact⟨b,off,h1,by omega,fun i hi=>(hc _ _).trans (h3 i hi)⟩
theorem Qz.cells {w w':World}{a:Option Addr}{xs:List (Int×Int)}(h:Qz w a xs)(hs:w.heap.size=w'.heap.size)(hc:∀b o,w'.cell? ⟨b,o,none⟩=w.cell? ⟨b,o,none⟩):Qz w' a xs:=fun hm=>by
 obtain⟨b,off,h1,h2,h3⟩:=h hm;exact⟨b,off,h1,by omega,fun i hi=>⟨(hc _ _).trans (h3 i hi).1,(hc _ _).trans (h3 i hi).2⟩⟩
theorem ZE.cells {w w':World}{a:Option Addr}{xs:List Ob}(h:ZE w a xs)(hs:w.heap.size=w'.heap.size)(hc:∀b o,w'.cell? ⟨b,o,none⟩=w.cell? ⟨b,o,none⟩):ZE w' a xs:=by
 refine⟨fun hm=>?_,fun i hi=>Qi.cells (h.2 i hi) hs hc⟩;obtain⟨b,off,h1,h2,h3⟩:=h.1 hm;exact⟨b,off,h1,by omega,fun i hi=>⟨(hc _ _).trans (h3 i hi).1,(hc _ _).trans (h3 i hi).2.1,(hc _ _).trans (h3 i hi).2.2⟩⟩
theorem Qcu (w:World)(a:Goroutine):Bt (X0 w) (fun _=>False) #[a] w #[]:=by
 have e:ShB (fun _=>False)=fun _=>False:=funext fun l=>propext ⟨fun⟨_,_,h⟩=>h,False.elim⟩;refine⟨⟨_,leavers_one _ a⟩,⟨0,by rw[e];exact past_nil⟩,⟨fun i op x hi=>by simp at hi,fun i a ha=>by simp[touchAt,Trace.act?]at ha,fun i op hi=>by simp at hi⟩,fun b hb=>hb.elim⟩
theorem Qd2 {X:Nat→Bool}{SB:Nat→Prop}{gs:Array Goroutine}{w:World}{t:Trace}(hB:Bt X SB gs w t){fr:Frame}(h0:gs[0]? =some (G fr []))(hm:fr.mode=.returning)(hd:fr.defers=[])(hk:fr.kind=.normal){fn:Func}(hfn:Tryz.prog.funcs[fr.fn]? =some fn)(hini:Tryz.prog.inits.idxOf? fr.fn=none){v:Value}
 (hres:∀d,(results fn fr.tmps).run Tryz.prog (w.at d)=.ok v (w.at d))(hev:∀d,(results fn fr.tmps).events Tryz.prog (w.at d) #[]=#[]){Post:Value→World→Prop}(hp:∀d,Post v (w.at d))(sl:Option (Nat×Nat)):
 ∃N last o w' t',runNT Tryz.prog (N+1) (crowd gs w sl) t=(.ended o w',t')∧runN Tryz.prog N (crowd gs w sl)=.next last∧step Tryz.prog last=.ended o w'∧Go.Conc.Good Tryz.prog Post last o w' t':=by
 obtain⟨q,hL⟩:=hB.lv;obtain⟨B,hP⟩:=hB.past;refine beside_ends (D:=fun _ _ _=>False) (n:=0) (fun _ _ _ h=>h.elim) h0 hL hP (fun w1 h1=>?_);obtain⟨d,rfl⟩:=h1;refine⟨rfl,v,#[],?_,by simp,hp d⟩;have e3:stepG Tryz.prog true (G fr []) (w.at d)=unwind Tryz.prog true fr [] none (w.at d):=by simp[stepG,G,hm]
 rw[e3];unfold unwind;rw[hd,hm];simp only[hfn,Sem.runT_eq,hres,hev,doReturn,hk,seen,hini,Bool.not_true,Bool.false_eq_true,if_false];rfl
theorem Qgn {K:Nat}{m:Machine}{gs:Array Goroutine}{w:World}{sl:Option (Nat×Nat)}{t:Trace}{Post:Value→World→Prop}(h:runNT Tryz.prog K m #[]=(.next (crowd gs w sl),t))
 (he:∃N last o w' t',runNT Tryz.prog (N+1) (crowd gs w sl) t=(.ended o w',t')∧runN Tryz.prog N (crowd gs w sl)=.next last∧step Tryz.prog last=.ended o w'∧Go.Conc.Good Tryz.prog Post last o w' t'):
 ∃N last o w' t',runNT Tryz.prog (N+1) m #[]=(.ended o w',t')∧runN Tryz.prog N m=.next last∧step Tryz.prog last=.ended o w'∧Go.Conc.Good Tryz.prog Post last o w' t':=by
 obtain⟨N,last,o,w',t',h1,h2,h3,h4⟩:=he;refine⟨K+N,last,o,w',t',?_,?_,h3,h4⟩
 ·rw[Nat.add_assoc,runNT_add,h];exact h1
 ·rw[←runNT_fst _ _ _ #[],runNT_add,h];simp only;rw[runNT_fst];exact h2
section
variable {X:Nat→Bool} {Ch:Nat} {Fin:Goroutine→World→Prop} {cs:List Frame}
theorem Kx {b:Frame}{a:Act}{c:Code}{k:List Item}{w:World}(n:Nat)(hs:Sn X w)(hf:FOk Tryz.progTables Cut.keep X (b.at a (.code c::k))){R:Code→Act→World→Prop}{Rr:Act→World→Prop}
 (H:∀t d,chain Cut.prog R Rr n c a {emW X w with tape:=t,drawn:=d})
 (K:∀c' a' w1 w1',Em X w1 w1'→Sn X w1→QB X w w1→FOk Tryz.progTables Cut.keep X (b.at a' (.code c'::k))→R c' a' w1'→Qv Tryz.prog X Ch Fin (G (b.at a' (.code c'::k)) cs) w1)
 (Kr:∀a' todo w1 w1',Em X w1 w1'→Sn X w1→QB X w w1→FOk Tryz.progTables Cut.keep X {b.at a' todo with mode:=.returning}→Rr a' w1'→Qv Tryz.prog X Ch Fin (G {b.at a' todo with mode:=.returning} cs) w1):
 Qv Tryz.prog X Ch Fin (G (b.at a (.code c::k)) cs) w:=by
 refine Qbe hs hf (.inl rfl) (R:=fun fr1 w1'=>(∃c' a',fr1=b.at a' (.code c'::k)∧R c' a' w1')∨∃a' todo,fr1={b.at a' todo with mode:=.returning}∧Rr a' w1') (fun t d=>?_) ?_
 ·rcases Oe (b:=b) (k:=k) (cs:=[c0]) n c a _ (H t d)with⟨c',a',w',h1,h2⟩|⟨a',todo,w',h1,h2⟩
  ·exact⟨_,w',h1,.inl rfl,.inl ⟨c',a',rfl,h2⟩⟩
  ·exact⟨_,w',h1,.inr rfl,.inr ⟨a',todo,rfl,h2⟩⟩
 ·rintro fr1 w1 w1' hE hS hK hF (⟨c',a',rfl,hR⟩|⟨a',todo,rfl,hR⟩)
  ·exact K c' a' w1 w1' hE hS hK hF hR
  ·exact Kr a' todo w1 w1' hE hS hK hF hR
end
end Co
end Go.Proofs.YtcpnkpogebjieaaGreat
