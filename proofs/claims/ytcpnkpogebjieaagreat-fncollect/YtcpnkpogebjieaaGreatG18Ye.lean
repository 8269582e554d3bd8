/- Lists of objects that a call owns, and the parts of these. No Go function is walked here. -/
import Derived.Test.YtcpnkpogebjieaaGreatG17Si3
import Derived.Test.YtcpnkpogebjieaaGreatG12Rs2
import Derived.Test.YtcpnkpogebjieaaGreatG07Zs
import Derived.Test.YtcpnkpogebjieaaGreatG06Tw
import Derived.Test.YtcpnkpogebjieaaGreatG10Yc
open Go.Value renaming slice→Qhp
open List renaming getElem?_eq_getElem→Qhq,getElem_append_left→Qhr
namespace Go.Proofs.YtcpnkpogebjieaaGreat
section
open Go.RowKit
theorem Zz {w:World}{base e size n k:Nat}{v:Value}{xs:List Value}(h:w.ownsRow base e size v n xs)(hk:v.ownBlock=some k):∃cur,w.heap[k]? =some (.cells cur e (0,0)):=by
 rcases h.2 with⟨h1,_⟩|⟨g,cap,cur,h1,_,hh,_⟩
 ·rw[h1]at hk;simp[Value.ownBlock]at hk
 ·rw[h1]at hk
  simp[Value.ownBlock]at hk
  subst hk
  exact⟨cur,hh⟩
theorem Um {w:World}{base e size n base' e' size' n':Nat}{v v':Value}{xs xs':List Value}(h:w.ownsRow base e size v n xs)(h':w.ownsRow base' e' size' v' n' xs')(he:e≠e'):v.ownBlock=none∨v.ownBlock≠v'.ownBlock:=by
 cases hk:v.ownBlock with
 |none=>exact Or.inl rfl
 |some k=>
  refine Or.inr fun e1=>?_
  obtain⟨c1,q1⟩:=Zz h hk
  obtain⟨c2,q2⟩:=Zz h' e1.symm
  rw[q1]at q2
  simp at q2
  exact he q2.2
theorem Qr {w:World}{base e size n B t:Nat}{v:Value}{xs cs:List Value}(h:w.ownsRow base e size v n xs)(hb:Blk w B cs t)(ht:t≠e):v.ownBlock≠some B:=by
 intro hk
 obtain⟨c1,q1⟩:=Zz h hk
 unfold Blk at hb
 rw[hb]at q1
 simp at q1
 exact ht q1.2
def Qu (w:World)(base:Nat)(v:Value)(l:List Ob):Prop:=w.ownsRow base 37 3 v l.length (l.flatMap Ob.cs)
theorem Qu.lt {w:World}{base:Nat}{v:Value}{l:List Ob}(h:Qu w base v l):∀k,v.ownBlock=some k→base≤k∧k<w.heap.size:=World.ownsRow.lt h
theorem Qu.below {w w':World}{base B:Nat}{v:Value}{l:List Ob}(h:Qu w base v l)(hb:Below B w w')(hB:w.heap.size≤B):Qu w' base v l:=by
 refine World.ownsRow.kept h (Z8 hb hB none) ?_
 cases e:v.ownBlock with
 |none=>exact Or.inl rfl
 |some k=>exact Or.inr (by simp)
theorem Qu.form {w:World}{base:Nat}{v:Value}{l:List Ob}(h:Qu w base v l):∃a cap,v=.slice a l.length cap∧(l.length≤cap∧cap≤maxLen)∧((∀i (hi:i<l.length),Qk w l[i].ra l[i].r)→ZQ w a l):=by
 rcases h.2 with⟨h1,h2⟩|⟨g,cap,cur,h1,hg,hh,hn,hc,hs,htake⟩
 ·refine⟨none,0,by rw[h1,h2],⟨by omega,Nat.zero_le _⟩,fun hr=>⟨fun hm=>by omega,hr⟩⟩
 ·refine⟨some ⟨g,0,none⟩,cap,h1,⟨hn,hc⟩,fun hr=>⟨fun hm=>⟨g,0,rfl,lt_of_block hh,fun i hi=>?_⟩,hr⟩⟩
  have h':w.ownsRow base 37 3 (.slice (some ⟨g,0,none⟩) l.length cap) l.length (l.flatMap Ob.cs):=by rw[←h1];exact h
  have g0:=Jw Ob.cs 3 (fun _=>rfl) l i 0 hi (by omega)
  have g1:=Jw Ob.cs 3 (fun _=>rfl) l i 1 hi (by omega)
  have g2:=Jw Ob.cs 3 (fun _=>rfl) l i 2 hi (by omega)
  have el:l.getD i Ob.zero=l[i]:=by simp[List.getD,Qhq hi]
  refine⟨?_,?_,?_⟩
  ·rw[Nat.zero_add,UO h' _ (by omega)];simpa[Ob.cs,el,Qhq hi]using g0
  ·rw[Nat.zero_add,UO h' _ (by omega)];simpa[Ob.cs,el,Qhq hi]using g1
  ·rw[Nat.zero_add,UO h' _ (by omega)];simpa[Ob.cs,el,Qhq hi]using g2
def Ob.rv (o:Ob):Value:=.slice o.ra o.r.length o.rcap
structure QJ (w:World) (base:Nat) (l:List Ob):Prop where
 own:∀i (hi:i<l.length),Qa w base l[i].rv l[i].r
 inc:∀i j (hi:i<l.length) (hj:j<l.length),i<j→∀a b,l[i].rv.ownBlock=some a→l[j].rv.ownBlock=some b→a<b
theorem QJ.nil (w:World)(base:Nat):QJ w base []:=⟨fun i hi=>by simp at hi,fun i j hi=>by simp at hi⟩
theorem QJ.below {w w':World}{base B:Nat}{l:List Ob}(h:QJ w base l)(hb:Below B w w')(hB:w.heap.size≤B):QJ w' base l:=⟨fun i hi=>(h.own i hi).below hb hB,h.inc⟩
theorem QJ.grown {w w':World}{base base' e size n:Nat}{l:List Ob}{v:Value}{xs:List Value}(h:QJ w base l)(hv:w.ownsRow base' e size v n xs)(he:e≠3)(hg:w.grownBy w' v.ownBlock):QJ w' base l:=
 ⟨fun i hi=>(h.own i hi).kept hg (Um (h.own i hi) hv (fun q=>he q.symm)),h.inc⟩
theorem QJ.set {w:World}{base B t:Nat}{l:List Ob}{cs:List Value}(h:QJ w base l)(hb:Blk w B cs t)(ht:t≠3)(j:Nat)(u:Value):QJ (w.setCell ⟨B,j,none⟩ u) base l:=
 ⟨fun i hi=>ownsRow_setCell_other (h.own i hi) (Qr (h.own i hi) hb ht) u,h.inc⟩
theorem QJ.snoc {w:World}{base:Nat}{l:List Ob}(h:QJ w base l)(o:Ob)(ho:Qa w base o.rv o.r)(hm:∀i (hi:i<l.length) a b,l[i].rv.ownBlock=some a→o.rv.ownBlock=some b→a<b):QJ w base (l++ [o]):=by
 refine⟨fun i hi=>?_,fun i j hi hj hij a b ha hb=>?_⟩
 ·by_cases hl:i<l.length
  ·simpa[Qhr hl]using h.own i hl
  ·have e:i=l.length:=by simp at hi;omega
   subst e
   simpa using ho
 ·by_cases hl:j<l.length
  ·have hli:i<l.length:=by omega
   rw[Qhr hli]at ha
   rw[Qhr hl]at hb
   exact h.inc i j hli hl hij a b ha hb
  ·have e:j=l.length:=by simp at hj;omega
   subst e
   rw[Qhr hij]at ha
   simp at hb
   exact hm i hij a b ha hb
theorem QJ.lt {w:World}{base:Nat}{l:List Ob}(h:QJ w base l)(i:Nat)(hi:i<l.length)(a:Nat)(ha:l[i].rv.ownBlock=some a):base≤a∧a<w.heap.size:=(h.own i hi).lt a ha
theorem QJ.seg {w:World}{base:Nat}{l:List Ob}(h:QJ w base l)(i:Nat)(hi:i<l.length):Qk w l[i].ra l[i].r:=by
 obtain⟨a,cap,e,hs,_⟩:=(h.own i hi).form
 simp only[Ob.rv,Value.slice.injEq]at e
 rw[e.1];exact hs
theorem UL {w:World}(o:Ob)(t:TypeId):∀j u,o.cs[j]? =some u→(w.alloc (Obj.cells #[.int .i64 o.k,.string o.t,.slice o.ra o.r.length o.rcap] t)).cell? ((⟨w.heap.size,0,none⟩:Addr).add j)=some u:=
 World.news_of_block (cs:=#[.int .i64 o.k,.string o.t,.slice o.ra o.r.length o.rcap]) (heap_alloc_new w _)
theorem Ob.one (o:Ob):∀u∈o.cs,u.oneCell'=true:=fun u hu=>by
 simp[Ob.cs]at hu
 rcases hu with rfl|rfl|rfl<;>rfl
structure Q5 (w:World) (B:Nat) (h:Hp):Prop where
 ob:Qu w B (.slice h.oa h.os.length h.ocap) h.os
 rs:QJ w B h.os
 ro:Qa w B (.slice h.ra h.rs.length h.rcap) h.rs
 rlt:∀i (hi:i<h.os.length) a b,h.os[i].rv.ownBlock=some a→(Qhp h.ra h.rs.length h.rcap).ownBlock=some b→a<b
 wa:Qe w B (.slice h.wa h.ws.length h.wcap) h.ws
 da:Qe w B (.slice h.da h.ds.length h.dcap) h.ds
 wlt:∀a b,(Qhp h.wa h.ws.length h.wcap).ownBlock=some a→(Qhp h.da h.ds.length h.dcap).ownBlock=some b→a<b
theorem Q5.isIn {w:World}{B:Nat}{h:Hp}(hh:Q5 w B h):Qg w h:=by
 refine⟨?_,?_,?_,?_⟩
 ·obtain⟨a,cap,e,_,hs⟩:=hh.ob.form
  simp only[Value.slice.injEq]at e
  rw[e.1];exact hs (fun i hi=>hh.rs.seg i hi)
 ·obtain⟨a,cap,e,hs,_⟩:=hh.ro.form
  simp only[Value.slice.injEq]at e
  rw[e.1];exact hs
 ·obtain⟨a,cap,e,hs,_⟩:=hh.wa.form
  simp only[Value.slice.injEq]at e
  rw[e.1];exact hs
 ·obtain⟨a,cap,e,hs,_⟩:=hh.da.form
  simp only[Value.slice.injEq]at e
  rw[e.1];exact hs
theorem Q5.below {w w':World}{B C:Nat}{h:Hp}(hh:Q5 w B h)(hb:Below C w w')(hC:w.heap.size≤C):Q5 w' B h:=
 ⟨hh.ob.below hb hC,hh.rs.below hb hC,hh.ro.below hb hC,hh.rlt,hh.wa.below hb hC,hh.da.below hb hC,hh.wlt⟩
def Qh (t:Nat)(A C:World):Prop:=∀(k:Nat) (cs:Array Value) (e:Nat),A.heap[k]? =some (.cells cs e (0,0))→e≠t→C.heap[k]? =some (.cells cs e (0,0))
theorem Qh.refl (t:Nat)(A:World):Qh t A A:=fun _ _ _ h _=>h
theorem Qh.trans {t:Nat}{A C D:World}(h:Qh t A C)(h':Qh t C D):Qh t A D:=fun k cs e hk he=>h' k cs e (h k cs e hk he) he
theorem Qh.below {A C:World}{B:Nat}(t:Nat)(hb:Below B A C)(hB:A.heap.size≤B):Qh t A C:=fun k cs e hk _=>by
 rw[hb.block k (Nat.lt_of_lt_of_le (lt_of_block hk) hB)];exact hk
theorem Qh.set {A:World}{B t:Nat}{cs:List Value}(hb:Blk A B cs t)(j:Nat)(u:Value):Qh t A (A.setCell ⟨B,j,none⟩ u):=fun k c e hk he=>by
 have hne:k≠B:=fun q=>by
  subst q
  unfold Blk at hb
  rw[hb]at hk
  simp at hk
  exact he hk.2.symm
 rw[Below.heap_setCell _ _ _ _ (by simpa using hne)];exact hk
theorem Qm {A C:World}{base e size n t:Nat}{v:Value}{xs:List Value}(h:A.ownsRow base e size v n xs)(hk:Qh t A C)(he:e≠t):C.ownsRow base e size v n xs:=by
 refine⟨h.1,?_⟩
 rcases h.2 with h1|⟨g,cap,cur,h1,hg,hh,r⟩
 ·exact Or.inl h1
 ·exact Or.inr ⟨g,cap,cur,h1,hg,hk g cur e hh he,r⟩
theorem QJ.keep {A C:World}{base:Nat}{l:List Ob}(h:QJ A base l)(hk:Qh 27 A C):QJ C base l:=⟨fun i hi=>Qm (h.own i hi) hk (by decide),h.inc⟩
theorem Q5.keep {A C:World}{B:Nat}{h:Hp}(hh:Q5 A B h)(hk:Qh 27 A C):Q5 C B h:=
 ⟨Qm hh.ob hk (by decide),hh.rs.keep hk,Qm hh.ro hk (by decide),hh.rlt,Qm hh.wa hk (by decide),Qm hh.da hk (by decide),hh.wlt⟩
theorem Qu.base {w:World}{B C:Nat}{v:Value}{l:List Ob}(h:Qu w B v l)(hC:C≤B):Qu w C v l:=by
 refine⟨h.1,?_⟩
 rcases h.2 with h1|⟨g,cap,cur,h1,hg,r⟩
 ·exact Or.inl h1
 ·exact Or.inr ⟨g,cap,cur,h1,Nat.le_trans hC hg,r⟩
theorem Q5.base {w:World}{B C:Nat}{h:Hp}(hh:Q5 w B h)(hC:C≤B):Q5 w C h:=
 ⟨hh.ob.base hC,⟨fun i hi=>(hh.rs.own i hi).base hC,hh.rs.inc⟩,hh.ro.base hC,hh.rlt,hh.wa.base hC,hh.da.base hC,hh.wlt⟩
theorem Q8 {w:World}{B:Nat}{c0 c1 c2 c3:Value}(hb:Blk w B [c0,c1,c2,c3] 27)(v0 v1 v2 v3:Value):
 Qh 27 w ((((w.setCell ⟨B,0,none⟩ v0).setCell ⟨B,1,none⟩ v1).setCell ⟨B,2,none⟩ v2).setCell ⟨B,3,none⟩ v3)∧Blk ((((w.setCell ⟨B,0,none⟩ v0).setCell ⟨B,1,none⟩ v1).setCell ⟨B,2,none⟩ v2).setCell ⟨B,3,none⟩ v3) B [v0,v1,v2,v3] 27:=by
 have h1:=hb.store 0 v0
 have h2:=h1.store 1 v1
 have h3:=h2.store 2 v2
 have h4:=h3.store 3 v3
 exact⟨(((Qh.set hb 0 v0).trans (Qh.set h1 1 v1)).trans (Qh.set h2 2 v2)).trans (Qh.set h3 3 v3),h4⟩
theorem Z0 {w W:World}{B C:Nat}(h:Below B w W)(hC:B≤C)(v0 v1 v2 v3:Value):Below B w ((((W.setCell ⟨C,0,none⟩ v0).setCell ⟨C,1,none⟩ v1).setCell ⟨C,2,none⟩ v2).setCell ⟨C,3,none⟩ v3):=
 (((h.setCell (p:=⟨C,0,none⟩) hC v0).setCell (p:=⟨C,1,none⟩) hC v1).setCell (p:=⟨C,2,none⟩) hC v2).setCell (p:=⟨C,3,none⟩) hC v3
def QY (X:List Int)(o:Ob):Int×ByteArray×List Int:=(o.k,o.t,o.r.map (wh X))
def Ob.wk (o:Ob)(k:Int):Ob:=⟨k,o.t,o.ra,o.rcap,o.r⟩
structure ChO (S:Nat→Prop) (w w':World):Prop where
 os:w'.os=w.os
 tape:w'.tape=w.tape
 output:w'.output=w.output
 size:w.heap.size≤w'.heap.size
 block:∀k,k<w.heap.size→¬S k→w'.heap[k]? =w.heap[k]?
theorem ChO.refl (S:Nat→Prop)(w:World):ChO S w w:=⟨rfl,rfl,rfl,Nat.le_refl _,fun _ _ _=>rfl⟩
theorem ChO.trans {S:Nat→Prop}{a b c:World}(h:ChO S a b)(k:ChO S b c):ChO S a c:=
 ⟨k.os.trans h.os,k.tape.trans h.tape,k.output.trans h.output,Nat.le_trans h.size k.size,fun i hi hr=>(k.block i (Nat.lt_of_lt_of_le hi h.size) hr).trans (h.block i hi hr)⟩
theorem ChO.gb {S:Nat→Prop}{w w':World}{r:Option Nat}(h:w.grownBy w' r)(hr:∀k,r=some k→S k):ChO S w w':=
 ⟨h.os,h.tape,h.output,h.size,fun k hk hn=>h.block k hk (fun e=>hn (hr k e.symm))⟩
theorem ChO.mono {S T:Nat→Prop}{w w':World}(h:ChO S w w')(hs:∀k,S k→T k):ChO T w w':=⟨h.os,h.tape,h.output,h.size,fun k hk hn=>h.block k hk (fun e=>hn (hs k e))⟩
theorem ChO.below {S:Nat→Prop}{w w':World}{B:Nat}(h:ChO S w w')(hB:B≤w.heap.size)(hS:∀k,S k→B≤k):Below B w w':=
 ⟨h.os,h.tape,h.output,h.size,fun k hk=>h.block k (by omega) (fun e=>by have:=hS k e;omega)⟩
theorem ChO.row {S:Nat→Prop}{w w':World}{base e size n:Nat}{v:Value}{xs:List Value}(h:ChO S w w')(ho:w.ownsRow base e size v n xs)(hn:∀k,v.ownBlock=some k→¬S k):w'.ownsRow base e size v n xs:=by
 refine⟨ho.1,?_⟩
 rcases ho.2 with h1|⟨g,cap,cur,h1,hg,hh,r⟩
 ·exact Or.inl h1
 ·exact Or.inr ⟨g,cap,cur,h1,hg,by rw[h.block g (lt_of_block hh) (hn g (by rw[h1];rfl))];exact hh,r⟩
theorem ChO.blk {S:Nat→Prop}{w w':World}{B t:Nat}{cs:List Value}(h:ChO S w w')(hb:Blk w B cs t)(hn:¬S B):Blk w' B cs t:=by
 unfold Blk at *
 rw[h.block B (lt_of_block hb) hn];exact hb
theorem QJ.mark {w w':World}{base:Nat}{l:List Ob}(h:QJ w base l)(j:Nat)(hj:j<l.length)(o:Ob)(hv:o.rv=l[j].rv)(ho:Qa w' base o.rv o.r)(hg:w.grownBy w' l[j].rv.ownBlock):QJ w' base (l.set j o):=by
 refine⟨fun i hi=>?_,fun i i' hi hi' hlt a b ha hb=>?_⟩
 ·rw[List.length_set]at hi
  rw[List.getElem_set]
  split
  ·exact ho
  ·rename_i hne
   refine(h.own i hi).kept hg ?_
   cases e:l[i].rv.ownBlock with
   |none=>exact Or.inl rfl
   |some a=>
    refine Or.inr fun e2=>?_
    rcases Nat.lt_or_gt_of_ne hne with hl|hl
    ·exact absurd (h.inc j i hj hi hl a a e2.symm e) (Nat.lt_irrefl _)
    ·exact absurd (h.inc i j hi hj hl a a e e2.symm) (Nat.lt_irrefl _)
 ·rw[List.length_set]at hi hi'
  have e:∀i (hi:i<l.length) (h2:i<(l.set j o).length),(l.set j o)[i].rv=l[i].rv:=fun i hi h2=>by
   rw[List.getElem_set]
   split
   ·rename_i e;subst e;exact hv
   ·rfl
  rw[e i hi]at ha
  rw[e i' hi']at hb
  exact h.inc i i' hi hi' hlt a b ha hb
def Yq (y:Hp)(b:Nat):Prop:=(Qhp y.oa y.os.length y.ocap).ownBlock=some b∨(∃i,∃h:i<y.os.length,y.os[i].rv.ownBlock=some b)∨(Qhp y.ra y.rs.length y.rcap).ownBlock=some b∨(Qhp y.wa y.ws.length y.wcap).ownBlock=some b∨(Qhp y.da y.ds.length y.dcap).ownBlock=some b
theorem Q5.rows_lt {w:World}{B:Nat}{y:Hp}(h:Q5 w B y):∀b,Yq y b→B≤b∧b<w.heap.size:=by
 rintro b (e|⟨i,hi,e⟩|e|e|e)
 ·exact h.ob.lt b e
 ·exact h.rs.lt i hi b e
 ·exact h.ro.lt b e
 ·exact h.wa.lt b e
 ·exact h.da.lt b e
theorem Q5.rows_ty {w:World}{B:Nat}{y:Hp}(h:Q5 w B y):∀b,Yq y b→∃cur e,w.heap[b]? =some (.cells cur e (0,0))∧(e=3∨e=37∨e=40):=by
 rintro b (e|⟨i,hi,e⟩|e|e|e)
 ·obtain⟨c,hc⟩:=Zz h.ob e
  exact⟨c,_,hc,.inr (.inl rfl)⟩
 ·obtain⟨c,hc⟩:=Zz (h.rs.own i hi) e
  exact⟨c,_,hc,.inl rfl⟩
 ·obtain⟨c,hc⟩:=Zz h.ro e
  exact⟨c,_,hc,.inl rfl⟩
 ·obtain⟨c,hc⟩:=Zz h.wa e
  exact⟨c,_,hc,.inr (.inr rfl)⟩
 ·obtain⟨c,hc⟩:=Zz h.da e
  exact⟨c,_,hc,.inr (.inr rfl)⟩
theorem Q5.not_box {w:World}{B b t:Nat}{y:Hp}{cs:List Value}(h:Q5 w B y)(hb:Blk w b cs t)(n1:t≠3)(n2:t≠37)(n3:t≠40):¬Yq y b:=fun hr=>by
 obtain⟨cur,e,hc,he⟩:=h.rows_ty b hr
 unfold Blk at hb
 rw[hb]at hc
 simp at hc
 rcases he with he|he|he
 ·exact n1 (hc.2.trans he)
 ·exact n2 (hc.2.trans he)
 ·exact n3 (hc.2.trans he)
end
namespace Co
open Go.RowKit
theorem Qg.heap {w w':World}{h:Hp}(hh:Qg w h)(hs:w.heap.size≤w'.heap.size)(ho:∀b,b<w.heap.size→w'.heap[b]? =w.heap[b]?):Qg w' h:=by
 have h1:=hh.below (B:=w.heap.size) (w':={w with heap:=w'.heap}) ⟨rfl,rfl,rfl,hs,ho⟩ (Nat.le_refl _)
 exact⟨h1.so,h1.sr,h1.sw,h1.sd⟩
theorem ZP {w w':World}{N n:Nat}{e:TypeId}{sz:Nat}{v:Value}{xs:List Value}(h:w.ownsRow N e sz v n xs)(ho:∀b,v.ownBlock=some b→w'.heap[b]? =w.heap[b]?):w'.ownsRow N e sz v n xs:=by
 obtain⟨h1,h2|⟨g,cp,cur,h2,h3,h4,h5⟩⟩:=h
 ·exact⟨h1,.inl h2⟩
 ·refine⟨h1,.inr ⟨g,cp,cur,h2,h3,(ho g (by rw[h2];rfl)).trans h4,h5⟩⟩
theorem Yh {w:World}{N N' n:Nat}{e:TypeId}{sz:Nat}{v:Value}{xs:List Value}(h:w.ownsRow N' e sz v n xs)(hN:N≤N'):w.ownsRow N e sz v n xs:=by
 obtain⟨h1,h2|⟨g,cp,cur,h2,h3,h4,h5⟩⟩:=h
 ·exact⟨h1,.inl h2⟩
 ·exact⟨h1,.inr ⟨g,cp,cur,h2,Nat.le_trans hN h3,h4,h5⟩⟩
def Hp.cells (y:Hp):List Value:=[Qhp y.oa y.os.length y.ocap,Qhp y.ra y.rs.length y.rcap,Qhp y.wa y.ws.length y.wcap,Qhp y.da y.ds.length y.dcap]
def Z9 (R Rr:Act→World→Prop):Exit→Act→World→Prop
 | .normal,a,w=>R a w
 | .ret,a,w=>Rr a w
 |_,_,_=>False
theorem _root_.Go.Proofs.YtcpnkpogebjieaaGreat.Q5.same {w w':World}{B:Nat}{y:Hp}(h:Q5 w B y)(hs:∀b,Yq y b→w'.heap[b]? =w.heap[b]?):Q5 w' B y:=
 ⟨ZP h.ob fun b hb=>hs b (.inl hb),⟨fun i hi=>ZP (h.rs.own i hi) fun b hb=>hs b (.inr (.inl ⟨i,hi,hb⟩)),h.rs.inc⟩,ZP h.ro fun b hb=>hs b (.inr (.inr (.inl hb))),h.rlt,
   ZP h.wa fun b hb=>hs b (.inr (.inr (.inr (.inl hb)))),ZP h.da fun b hb=>hs b (.inr (.inr (.inr (.inr hb)))),h.wlt⟩
def chain (P:Program)(R:Code→Act→World→Prop)(Rr:Act→World→Prop):Nat→Code→Act→World→Prop
 |0,c,a,w=>R c a w
 |n+1,.seq s c,a,w=>s.wp P (Z9 (fun a w=>chain P R Rr n c a w) Rr) a w
 |_+1,_,_,_=>False
theorem Uu {P:Program}{R R':Code→Act→World→Prop}{Rr Rr':Act→World→Prop}:∀ {n:Nat} {c:Code} {a:Act} {w:World},chain P R Rr n c a w→(∀c a w,R c a w→R' c a w)→(∀a w,Rr a w→Rr' a w)→chain P R' Rr' n c a w
 |0,c,a,w,h,h1,_=>h1 c a w h
 |n+1,c,a,w,h,h1,h2=>by
  cases c with
  |seq s c=>
   refine wp_mono (show s.wp P (Z9 (fun a w=>chain P R Rr n c a w) Rr) a w from h) fun e a w hq=>?_
   cases e with
   |normal=>exact Uu hq h1 h2
   |ret=>exact h2 a w hq
   |_=>exact hq.elim
  |_=>exact h.elim
theorem PD {P:Program}{R:Code→Act→World→Prop}{Rr:Act→World→Prop}{b:Frame}{k:List Item}{cs:List Frame}:∀(n:Nat) (c:Code) (a:Act) (w:World),chain P R Rr n c a w→
 (∃c' a' w',Steps P (lone (b.at a (.code c::k)) cs w) (lone (b.at a' (.code c'::k)) cs w')∧R c' a' w')∨∃a' todo w',Steps P (lone (b.at a (.code c::k)) cs w) (lone {b.at a' todo with mode:=.returning} cs w')∧Rr a' w'
 |0,c,a,w,h=>.inl ⟨c,a,w,Steps.refl _ _,h⟩
 |n+1,c,a,w,h=>by
  cases c with
  |seq s c=>
   have h1:Steps P (lone (b.at a (.code (.seq s c)::k)) cs w) (lone (b.at a (.code s:: .code c::k)) cs w):=.one step_seq
   obtain⟨e,a',w',hq,ha⟩:=(show s.wp P (Z9 (fun a w=>chain P R Rr n c a w) Rr) a w from h) b (.code c::k) cs
   cases e with
   |normal=>
    rcases PD n c a' w' hq with⟨c',a2,w2,h3,h4⟩|⟨a2,todo,w2,h3,h4⟩
    ·exact .inl ⟨c',a2,w2,(h1.trans ha).trans h3,h4⟩
    ·exact .inr ⟨a2,todo,w2,(h1.trans ha).trans h3,h4⟩
   |ret=>
    obtain⟨todo,hst⟩:=ha
    exact .inr ⟨a',todo,w',h1.trans hst,hq⟩
   |_=>exact hq.elim
  |_=>exact h.elim
theorem PC {P:Program}{R:Code→Act→World→Prop}{Rr:Act→World→Prop}{m:Nat}:∀ {n:Nat} {c:Code} {a:Act} {w:World},chain P (fun c a w=>chain P R Rr m c a w) Rr n c a w→chain P R Rr (m+n) c a w
 |0,_,_,_,h=>h
 |n+1,c,a,w,h=>by
  cases c with
  |seq s c=>
   refine wp_mono (show s.wp P (Z9 (fun a w=>chain P (fun c a w=>chain P R Rr m c a w) Rr n c a w) Rr) a w from h) fun e a w hq=>?_
   cases e with
   |normal=>exact PC hq
   |ret=>exact hq
   |_=>exact hq.elim
  |_=>exact h.elim
end Co
namespace Co
open Go.Conc
def Rds {α:Type}(s:Sem α):Prop:=∀P w,rw (s.run P w)=w
section
variable {α β:Type}
theorem JJ (a:α):Rds (pure a:Sem α):=fun _ _=>rfl
theorem Vx (h:Halt):Rds (.halt h:Sem α):=fun _ _=>rfl
theorem Jp {s:Sem α}{f:α→Sem β}(hs:Rds s)(hf:∀a,Rds (f a)):Rds (s>>= f):=by
 intro P w
 rw[Sem.run_bind]
 have h:=hs P w
 cases h0:s.run P w with
 |halt x y=>rw[h0]at h;exact h
 |ok a w2=>
  rw[h0]at h
  have e:w2=w:=h
  subst e
  exact hf a P w2
theorem KW:Rds program:=fun _ _=>rfl
theorem O8 (a:Addr)(m:Mode):Rds (load a m):=by
 intro P w
 simp only[load,Sem.run]
 split
 ·rfl
 ·split<;>rfl
theorem QfG (t:TypeId):Rds (typeInfo t):=by
 unfold typeInfo
 refine Jp KW fun p=>?_
 split
 ·exact JJ _
 ·exact Vx _
theorem QfH (t:TypeId):Rds (underlying t):=by
 unfold underlying
 refine Jp KW fun p=>?_
 split
 ·exact JJ _
 ·exact Vx _
theorem QfD (a:Addr)(n:Nat):∀(i:Nat) (acc:Array Value),Rds (loadCellsFrom a i n acc):=by
 induction n with
 |zero=>intro i acc;exact JJ _
 |succ n ih=>intro i acc;exact Jp (O8 _ _) fun v=>ih _ _
theorem QfE (t:TypeId)(a:Addr):Rds (loadVar t a):=by
 unfold loadVar isAgg
 refine Jp (Jp (QfH _) fun u=>?_) fun b=>?_
 ·split<;>exact JJ _
 ·split
  ·exact Jp (Jp (QfG _) fun _=>JJ _) fun _=>Jp (QfD _ _ _ _) fun _=>JJ _
  ·exact O8 _ _
theorem QfC (v:Value):Rds (asAddr v):=by
 unfold asAddr
 split
 ·exact JJ _
 ·unfold runtimePanic
  exact Jp KW fun p=>Vx _
 ·exact Vx _
theorem QfF {γ δ:Type}(f:γ→Sem δ)(hf:∀x,Rds (f x))(l:Array γ):Rds (l.mapM f):=by
 rw[Array.mapM_eq_mapM_toList]
 show Rds (_>>= fun a=>pure (List.toArray a))
 refine Jp ?_ fun _=>JJ _
 generalize l.toList=k
 induction k with
 |nil=>exact JJ _
 |cons x l ih=>
  rw[List.mapM_cons]
  exact Jp (hf x) fun _=>Jp ih fun _=>JJ _
theorem O9 (fn:Func)(tmps:Array Value):Rds (results fn tmps):=by
 unfold results
 refine Jp (QfF _ (fun x=>?_) _) fun _=>JJ _
 cases x with
 |tmp t=>exact JJ _
 |cell a t=>exact Jp (QfC _) fun _=>QfE _ _
end
section
variable {T:Tables} {F F':Array Func} {S:FuncId→Bool} {X:Nat→Bool} {c:Frame} {cs:List Frame}
theorem Qbd (hC:Cut T F F' S){f:FuncId}{args:Array Value}(hS:S f=true){w:World}(hX:XOk X w)(hW:WOk (LOk T S) (emW X w)){R:Value→World→Prop}
 (H:∀t d,Calls (PP T F') f args {emW X w with tape:=t,drawn:=d} fun e w1=>∃v,e=.returned v∧R v w1):
 Way (PP T F) X (fun g w1=>∃v w1',g=G (c.finish v) cs∧Em X w1 w1'∧XOk X w1∧WOk (LOk T S) w1'∧Qy X w w1∧w1.tape=w.tape∧R v w1') (G (Frame.enter (PP T F) f args .normal) (c::cs)) w:=by
 obtain⟨hf,he⟩:=Oe (X:=X) (args:=args) hC hS
 have h1:Way (PP T F) X (fun g w1=>∃fr1 v w1',g=G fr1 (c::cs)∧FOk T S X fr1∧fr1.leaving (PP T F') w1' (.returned v)∧Em X w1 w1'∧XOk X w1∧WOk (LOk T S) w1'∧Qy X w w1∧w1.tape=w.tape∧R v w1') (G (Frame.enter (PP T F) f args .normal) ([]++(c::cs))) w:=by
  refine Qbe (mid:=[]) hC hf (.inl rfl) (fun x hx=>by cases hx) hX hW fun t d=>?_
  obtain⟨e,w1',fr1,⟨v,rfl,hR⟩,hs,hfn,hl⟩:=H t d [c0]
  rw[he]at hs
  refine⟨fr1,[],w1',hs,.inr hl.1,fun w1 k1 _ k3 k4 k5 k6 k7=>⟨fr1,v,w1',rfl,k1,hl,k3,k4,k5,k6,k7,hR⟩⟩
 refine Qhc h1 fun g w1 ⟨fr1,v,w1',hg,k1,⟨hm,hd,hk,fn,hfn,hres⟩,k3,k4,k5,k6,k7,hR⟩=>?_
 subst hg
 have hfn2:(PP T F).funcs[fr1.fn]? =some fn:=(hC.of.same fr1.fn k1.fn).symm.trans hfn
 have key:∀d,∃es,stepG (PP T F) true (G fr1 (c::cs)) (w1.at d)=.go (G (c.finish v) cs) (w1.at d) es∧w1.heap.size≤(w1.at d).heap.size∧∀B,(w1.at d).heap.size≤B→∀e∈es,Ev X B e:=by
  intro d
  have hrd:=O9 fn fr1.tmps (PP T F) (w1.at d)
  obtain⟨ok,_⟩:=(V9 (F:=F) (F':=F') (S:=S) (X:=X) fn fr1.tmps).tr (w1.at d) w1' ⟨k3.heap,k3.size,k3.os,k3.out⟩ ⟨k4.lt,k4.ob⟩ k5 (fun k hk=>by rw[hrd]at hk;omega)
  obtain⟨w2,e1,_,_,_,_,_,e7⟩:=ok v w1' hres
  rw[e1]at hrd
  have e2:w2=w1.at d:=hrd
  subst e2
  refine⟨seen (PP T F) fr1.fn ((results fn fr1.tmps).events (PP T F) (w1.at d) #[])++ #[],?_,Nat.le_refl _,fun B hB e he=>?_⟩
  ·have e3:stepG (PP T F) true (G fr1 (c::cs)) (w1.at d)=unwind (PP T F) true fr1 (c::cs) none (w1.at d):=by simp[stepG,G,hm]
   rw[e3]
   unfold unwind
   rw[hd,hm]
   simp only[hfn2,Sem.runT_eq,e1,doReturn,hk,GStep.after]
   rfl
  ·exact e7 B hB #[] (fun e he=>by simp at he) e (mem_seen (by simpa using he))
 refine Qhb (fun w=>w) rfl key fun d=>.stop ⟨v,w1',rfl,⟨k3.heap,k3.size,k3.os,k3.out⟩,⟨k4.lt,k4.ob⟩,k5,⟨k6.size,k6.ob⟩,k7,hR⟩
end
end Co
namespace Co
open Go.Conc Go.ConcN Go.RowKit
def ShB (SB:Nat→Prop)(l:Loc):Prop:=∃a,l=.cell a∧SB a.block
structure TrI (SB:Nat→Prop) (ng n:Nat) (t:Trace):Prop where
 quiet:Quiet (ShB SB) t
 seen:∀i a,touchAt t i=some a→a.loc.low n∧a.loc.isMemory=true
 gs:∀(i:Nat) (op:MemOp),t[i]? =some op→op.g<ng
theorem QgT {X:Nat→Bool}{SB:Nat→Prop}(hS:∀b,SB b→X b=true){ng n n':Nat}{t:Trace}{es:Array Event}{fn:FuncId}{pos:String}(h0:0<ng)(hn:n≤n')(h:TrI SB ng n t)(he:∀e∈es,Ev X n' e):TrI SB ng n' (t++MemOp.ofEvents 0 fn pos es):=by
 have touch:∀e∈es,∀x,(MemAct.ofEvent e).touch? =some x→(∃a,x.loc=.cell a∧X a.block=false∧a.block<n')∨∃r,x.loc=.obj r∧r<n':=by
  intro e hm x hx
  have hv:=he e hm
  obtain⟨loc,wr,sy⟩:=e
  unfold Ev at hv
  cases loc with
  |cell a=>
   simp only[ofEvent_cell0,MemAct.touch?,Option.some.injEq]at hx
   subst hx
   exact .inl ⟨a,rfl,hv.1,hv.2⟩
  |obj r=>
   have hl:x.loc=.obj r:=by
    cases wr<;>cases sy<;>simp[MemAct.ofEvent,MemAct.touch?]at hx<;>subst hx<;>rfl
   exact .inr ⟨r,hl,hv⟩
  |mark m=>
   have hm':m=.noRoom:=hv
   subst hm'
   cases hx
  |_=>exact hv.elim
 refine⟨h.quiet.app fun op hop x hx hs=>?_,fun i a ha=>?_,fun i op hi=>?_⟩
 ·obtain⟨e,hm,rfl⟩:=Go.Conc.mem_ofEvents hop
  obtain⟨c,h1,h2⟩:=hs
  rcases touch e hm x hx with⟨a,h3,h4,_⟩|⟨r,h3,_⟩
  ·rw[h3]at h1;cases h1;rw[hS _ h2]at h4;cases h4
  ·rw[h3]at h1;cases h1
 ·obtain⟨x,hx,hxa⟩:=touch_of ha
  rcases getElem?_append_cases hx with⟨_,hx'⟩|⟨_,hxu⟩
  ·have:=h.seen i a (by rw[touchAt_of hx'];exact hxa)
   exact⟨Loc.low_mono hn this.1,this.2⟩
  ·obtain⟨e,hm,rfl⟩:=Go.Conc.mem_ofEvents hxu
   rcases touch e hm a hxa with⟨c,h3,_,h5⟩|⟨r,h3,h5⟩<;>rw[h3]<;>exact⟨h5,rfl⟩
 ·rcases getElem?_append_cases hi with⟨_,hi'⟩|⟨_,hiu⟩
  ·exact h.gs i op hi'
  ·obtain⟨e,_,rfl⟩:=Go.Conc.mem_ofEvents hiu;exact h0
theorem QaR {SB:Nat→Prop}{ng n:Nat}{t u:Trace}(h:TrI SB ng n t)(hu:∀op∈u,op.g<ng∧op.act.touch? =none):TrI SB ng n (t++u):=by
 refine⟨h.quiet.app fun op hop x hx hs=>(by rw[(hu op hop).2]at hx;cases hx),fun i a ha=>?_,fun i op hi=>?_⟩
 ·obtain⟨x,hx,hxa⟩:=touch_of ha
  rcases getElem?_append_cases hx with⟨_,hx'⟩|⟨_,hxu⟩
  ·exact h.seen i a (by rw[touchAt_of hx'];exact hxa)
  ·rw[(hu x hxu).2]at hxa;cases hxa
 ·rcases getElem?_append_cases hi with⟨_,hi'⟩|⟨_,hiu⟩
  ·exact h.gs i op hi'
  ·exact(hu op hiu).1
structure Bt (X:Nat→Bool) (SB:Nat→Prop) (gs:Array Goroutine) (w:World) (t:Trace):Prop where
 lv:∃q,Leavers Tryz.prog t gs q
 past:∃B,Past (ShB SB) B t
 tri:TrI SB gs.size w.heap.size t
 sbx:∀b,SB b→X b=true
theorem JV {X:Nat→Bool}{Ch:Nat}{SB:Nat→Prop}{Fin:Goroutine→World→Prop}{gs:Array Goroutine}{a:Goroutine}{w:World}{t:Trace}(h:Bt X SB gs w t)(h0:gs[0]? =some a)(hw:Qt Tryz.prog X Ch Fin a w)(sl:Option (Nat×Nat)):
 ∃N gs' a' w' sl' t',runNT Tryz.prog N (crowd gs w sl) t=(.next (crowd gs' w' sl'),t')∧gs'.size=gs.size∧gs'[0]? =some a'∧Fin a' w'∧Bt X SB gs' w' t':=by
 obtain⟨q,hq⟩:=h.lv
 obtain⟨B,hB⟩:=h.past
 have hpos:0<gs.size:=(Array.getElem?_eq_some_iff.1 h0).1
 obtain⟨N,gs',a',w',sl',t',q',B',h1,h2,h3,h4,h5,h6,h7⟩:=Qha (Shun:=ShB SB) (fun l ⟨a,h1,h2⟩=>⟨a,h1,h.sbx _ h2⟩) (TrI SB gs.size) (fun n n' t es fn pos hn hI he=>QgT h.sbx hpos hn hI he)
  (fun n t u hI hu=>QaR hI fun op hop=>⟨by rw[(hu op hop).1];exact hpos,(hu op hop).2⟩) gs.size (fun n t g es fn pos hI hg hlt hm=>QaR hI fun op hop=>by obtain⟨e,he,rfl⟩:=Go.Conc.mem_ofEvents hop;exact⟨hlt,touch_mute (hm e he)⟩) hw gs sl t q B rfl h0 hq hB h.tri
 exact⟨N,gs',a',w',sl',t',h1,h2,h3,h4,⟨_,h5⟩,⟨_,h6⟩,by rw[h2];exact h7,h.sbx⟩
structure Sn (X:Nat→Bool) (w:World):Prop where
 xok:XOk X w
 wok:WOk (LOk Tryz.progTables Cut.keep) (emW X w)
theorem Q7 (X:Nat→Bool)(w:World)(r:Nat):(emW X w).heap[r]? =(w.heap[r]?).map (emO X r):=(Vi X w w.tape w.drawn).heap r
theorem QD (X:Nat→Bool)(w:World):(emW X w).heap.size=w.heap.size:=(Vi X w w.tape w.drawn).size
theorem Kg {X:Nat→Bool}{r:Nat}(h:X r=false)(o:Obj):emO X r o=o:=by unfold emO;simp[h]
theorem Z7 {X:Nat→Bool}{w:World}{r:Nat}(h:X r=false):(emW X w).heap[r]? =w.heap[r]? :=by
 rw[Q7]
 cases w.heap[r]? with
 |none=>rfl
 |some o=>simp[Kg h]
theorem Sn.at {X:Nat→Bool}{w:World}(h:Sn X w)(d:Nat):Sn X (w.at d):=⟨⟨h.xok.lt,h.xok.ob⟩,h.wok⟩
theorem Sn.out {X:Nat→Bool}{w:World}(h:Sn X w){r:Nat}(hr:w.heap.size≤r):X r=false:=by
 cases hx:X r with
 |false=>rfl
 |true=>have:=h.xok.lt r hx;omega
theorem Sn.turn {X:Nat→Bool}{w w':World}(h:Sn X w)(hs:w.heap.size≤w'.heap.size)(hx:∀r,X r=true→w'.heap[r]? =w.heap[r]?)(ho:∀r o,X r=false→w'.heap[r]? =some o→w.heap[r]? =some o∨(∃c e f,o=.cells c e f)∨∃a b c d e f,o=.chan a b c d e f):Sn X w':=by
 refine⟨⟨fun r hr=>Nat.lt_of_lt_of_le (h.xok.lt r hr) hs,fun r o hr he=>h.xok.ob r o hr ((hx r hr)▸he)⟩,fun r o he=>?_⟩
 cases hr:X r with
 |true=>
  rw[Q7,hx r hr,←Q7]at he
  exact h.wok r o he
 |false=>
  rw[Z7 hr]at he
  rcases ho r o hr he with h1|⟨c,e,f,rfl⟩|⟨a,b,c,d,e,f,rfl⟩
  ·exact h.wok r o (by rw[Z7 hr];exact h1)
  ·trivial
  ·trivial
theorem Qfg {X:Nat→Bool}{w w1 w1' u:World}(hu:u.heap=(emW X w).heap)(hE:Em X w1 w1')(hK:Qy X w w1)(hB:Below u.heap.size u w1'){b:Nat}(hb:b<w.heap.size):w1.heap[b]? =w.heap[b]? :=by
 cases hx:X b with
 |true=>exact hK.ob b hx
 |false=>
  have h1:=hE.heap b
  have h2:=hB.block b (by rw[hu,QD];exact hb)
  rw[hu,Z7 hx]at h2
  rw[h2]at h1
  rw[←h1.symm]at h2
  cases h3:w1.heap[b]? with
  |none=>
   rw[h3]at h1
   rw[h1]
   rfl
  |some o=>
   rw[h3]at h1
   simp only[Option.map_some,Kg hx]at h1
   exact h1.symm
theorem JH {X:Nat→Bool}{w1 w1':World}(hE:Em X w1 w1'){b:Nat}(hx:X b=false):w1.heap[b]? =w1'.heap[b]? :=by
 rw[hE.heap b]
 cases w1.heap[b]? with
 |none=>rfl
 |some o=>simp[Kg hx]
theorem VZ {X:Nat→Bool}{Ch:Nat}{Fin:Goroutine→World→Prop}{f:FuncId}{args:Array Value}{c:Frame}{cs:List Frame}{w:World}(hk:Cut.keep f=true)(hs:Sn X w){R:Value→World→Prop}
 (H:∀t d,Calls Cut.prog f args {emW X w with tape:=t,drawn:=d} fun e w1=>∃v,e=.returned v∧R v w1∧Below w.heap.size {emW X w with tape:=t,drawn:=d} w1)
 (K:∀v w1 w1',Em X w1 w1'→Sn X w1→(∀b,b<w.heap.size→w1.heap[b]? =w.heap[b]?)→w.heap.size≤w1.heap.size→OO w1 w→R v w1'→Qt Tryz.prog X Ch Fin (G (c.finish v) cs) w1):
 Qt Tryz.prog X Ch Fin (G (Frame.enter Tryz.prog f args .normal) (c::cs)) w:=by
 have h1:=Qbd (c:=c) (cs:=cs) Cut.cut hk hs.xok hs.wok (R:=fun v w1=>R v w1∧∃t d,Below w.heap.size {emW X w with tape:=t,drawn:=d} w1) (fun t d=>(H t d).mono fun e w1 ⟨v,he,hR,hB⟩=>⟨v,he,hR,t,d,hB⟩)
 refine Pc h1 ?_
 rintro g w1 ⟨v,w1',rfl,hE,hX,hW,hKp,_,hR,t,d,hB⟩
 refine K v w1 w1' hE ⟨hX,fun r o ho=>hW r o ?_⟩ (fun b hb=>Qfg (u:={emW X w with tape:=t,drawn:=d}) rfl hE hKp (by rw[show({emW X w with tape:=t,drawn:=d}:World).heap.size=w.heap.size from QD X w];exact hB) hb) hKp.size ⟨hE.os.symm.trans hB.os,hE.out.symm.trans hB.output⟩ hR
 rw[hE.heap r,←Q7]
 exact ho
end Co
end Go.Proofs.YtcpnkpogebjieaaGreat
