/- The crowd: what holds of the machine and of the trace while goroutine 0 starts tellers -/
import Derived.Test.YtcpnkpogebjieaaGreatS18Zu
open Nat renaming lt_or_ge→QhR
namespace Go.Proofs.YtcpnkpogebjieaaGreat
namespace Co
open Go.Conc Go.ConcN
open Go.ConcR (KK wgBlock WgAt stA smA rd wr mk Payload Aside2 DC0 Bk g_of_ofEvents again_blocked ofEvent_loc_mark bk_of_mute)
section
variable [Payload]
inductive WSt (S:Ph) (own:List Nat):List Value→Nat→Nat→Nat→Goroutine→World→Prop
 |scr {s m:Nat} {left:List Value} {g:Goroutine} {w:World}:Goes S.P false (RK S own) DC0 (Ug S s own left) m g w→WSt S own left (s+8) m 0 g w
 |r0 {C m:Nat} {val:Value} {g:Goroutine} {w:World}:C∈own→Goes S.P false (RW S.ty S.Wg C 1 0 0) (DWs S.Wg (OwC C) Kj C 1 1) (AtR0 S.P S.ty S.Wg C 1 0 1 val) m g w→WSt S own [] 7 m 0 g w
 |k1 {C m:Nat} {g:Goroutine} {w:World}:C∈own→Goes S.P false (RW S.ty S.Wg C 1 0 0) DC0 (AtK1 S.P S.ty S.Wg C 1 0 1) m g w→WSt S own [] 6 m 0 g w
 |d1 {C m:Nat} {g:Goroutine} {w:World}:C∈own→Goes S.P false (RW S.ty S.Wg C 1 0 0) DC0 (AtD1 S.P S.ty S.Wg C 1 0 1) m g w→WSt S own [] 5 m 1 g w
 |d2 {C m:Nat} {g:Goroutine} {w:World}:C∈own→Goes S.P false (RW S.ty S.Wg C 1 0 0) DC0 (AtD2 S.P S.ty S.Wg C 1 0 1) m g w→WSt S own [] 4 m 1 g w
 |d3 {C m:Nat} {g:Goroutine} {w:World}:C∈own→Goes S.P false (RW S.ty S.Wg C 1 0 0) DC0 (AtD3 S.P S.ty S.Wg C 1 0 1) m g w→WSt S own [] 3 m 1 g w
 |d4 {C m:Nat} {g:Goroutine} {w:World}:C∈own→Goes S.P false (RW S.ty S.Wg C 1 0 0) DC0 (AtD4 S.P S.ty S.Wg) m g w→WSt S own [] 2 m 1 g w
 |quit {q d:Nat} {g:Goroutine} {w:World}:QuitsD S.P q d g→WSt S own [] 1 q d g w
variable {S:Ph} {own:List Nat} {left:List Value} {st m d:Nat} {g:Goroutine} {w w1:World}
theorem WSt.rely (h:WSt S own left st m d g w)(hr:RK S own w w1):WSt S own left st m d g w1:=by
 cases h with
 |scr h=>exact .scr (Goes.rely PA h hr)
 |r0 hC h=>exact .r0 hC (Goes.rely Y4 h (Y2 hC hr))
 |k1 hC h=>exact .k1 hC (Goes.rely Y4 h (Y2 hC hr))
 |d1 hC h=>exact .d1 hC (Goes.rely Y4 h (Y2 hC hr))
 |d2 hC h=>exact .d2 hC (Goes.rely Y4 h (Y2 hC hr))
 |d3 hC h=>exact .d3 hC (Goes.rely Y4 h (Y2 hC hr))
 |d4 hC h=>exact .d4 hC (Goes.rely Y4 h (Y2 hC hr))
 |quit h=>exact .quit h
theorem WSt.runs (h:WSt S own left st m d g w)(hs:st≠1):g.status=.running:=by
 cases h with
 |scr h=>exact Goes.running (fun _ _ x=>x.1) w (RK.refl S own w) h
 |r0 hC h=>exact Goes.running (fun _ _ x=>x.1) w (RW.refl w) h
 |k1 hC h=>exact Goes.running (fun _ _ x=>x.1) w (RW.refl w) h
 |d1 hC h=>exact Goes.running (fun _ _ x=>x.1) w (RW.refl w) h
 |d2 hC h=>exact Goes.running (fun _ _ x=>x.1) w (RW.refl w) h
 |d3 hC h=>exact Goes.running (fun _ _ x=>x.1) w (RW.refl w) h
 |d4 hC h=>exact Goes.running (fun _ _ x=>x.1) w (RW.refl w) h
 |quit h=>exact absurd rfl hs
theorem WSt.status (h:WSt S own left st m d g w):g.status=.running∨g.status=.finished:=by
 by_cases hs:st=1
 ·subst hs;generalize h1:(1:Nat)=st at h
  cases h with
  |quit h=>exact h.status
  |_=>omega
 ·exact .inl (h.runs hs)
theorem WSt.woken (h:WSt S own left st m d g w)(a a':Goroutine)(w':World):woken S.P a a' w' g=g:=by
 unfold Go.Conc.woken;split
 ·exact again_running _ h.status
 ·rfl
theorem Jp.toSt {s:Nat}(h:Jp S s own left g w):∃m,WSt S own left (s+7) m 0 g w:=by
 cases s with
 |zero=>
  obtain⟨rfl,C,val,m,hC,hg⟩:=h;exact⟨m,.r0 hC hg⟩
 |succ s=>
  obtain⟨m,hg⟩:=h;exact⟨m,.scr hg⟩
end
/-! ### the trace-/
def ShS (S:Ph)(l:Loc):Prop:=∃a,l=.cell a∧S.SB a.block
def OwO (O:Nat→List Nat)(k:Nat)(l:Loc):Prop:=1≤k∧∃a,l=.cell a∧a.block∈O k
def RdS (S:Ph)(k:Nat)(l:Loc):Prop:=S.m0≤k∧∃a,l=.cell a∧a.block<S.Low∧¬S.SB a.block
structure Geo (S:Ph):Prop where
 wg:S.SB S.Wg
 sb:∀b,S.SB b→b<S.Low
 ch:S.Ch<S.Low
 ne:S.Ch≠S.Wg
 m1:1≤S.m0
structure Gh (S:Ph) (j:Nat) (O:Nat→List Nat) (n:Nat):Prop where
 ow:∀k b,b∈O k→S.Low≤b∧b<n
 dj:∀k k' b,b∈O k→b∈O k'→k=k'
 up:∀k,j<k→O k=[]
theorem Gh.apart {S:Ph}(G:Geo S){j n:Nat}{O:Nat→List Nat}(h:Gh S j O n):Apart (ShS S) (OwO O) (RdS S):=by
 refine⟨fun k k' l=>?_,fun k k' l=>?_,fun k l=>?_,fun k l=>?_⟩
 ·rintro⟨_,a,rfl,ha⟩ ⟨_,a',he,ha'⟩
  cases he
  exact h.dj k k' _ ha ha'
 ·rintro⟨_,a,rfl,ha⟩ ⟨_,a',he,hl,_⟩
  cases he
  have:=(h.ow k _ ha).1;omega
 ·rintro⟨_,a,rfl,ha⟩ ⟨a',he,hs⟩
  cases he
  have:=(h.ow k _ ha).1;have:=G.sb _ hs;omega
 ·rintro⟨_,a,rfl,_,ha⟩ ⟨a',he,hs⟩
  cases he
  exact ha hs
theorem Gh.grow {S:Ph}{j n n':Nat}{O:Nat→List Nat}(h:Gh S j O n)(hb:S.Low≤n){k:Nat}(hk:k≤j){own':List Nat}(hown:∀b,b∈own'→b∈O k∨(b=n∧n<n'))(hn:n≤n'):Gh S j (upd O k own') n':=by
 refine⟨fun k' b hb'=>?_,fun k1 k2 b h1 h2=>?_,fun k' hk'=>?_⟩
 ·by_cases e:k'=k
  ·subst e;rw[upd_same]at hb';rcases hown b hb' with h1|⟨rfl,h1⟩
   ·have:=h.ow _ b h1;omega
   ·omega
  ·rw[upd_ne O _ e]at hb';have:=h.ow _ b hb';omega
 ·by_cases e1:k1=k
  ·by_cases e2:k2=k
   ·rw[e1,e2]
   ·subst e1;rw[upd_same]at h1;rw[upd_ne O _ e2]at h2;rcases hown b h1 with h3|⟨rfl,_⟩
    ·exact h.dj _ _ b h3 h2
    ·have:=(h.ow _ _ h2).2;omega
  ·by_cases e2:k2=k
   ·subst e2;rw[upd_same]at h2;rw[upd_ne O _ e1]at h1;rcases hown b h2 with h3|⟨rfl,_⟩
    ·exact h.dj _ _ b h1 h3
    ·have:=(h.ow _ _ h1).2;omega
   ·rw[upd_ne O _ e1]at h1;rw[upd_ne O _ e2]at h2;exact h.dj _ _ b h1 h2
 ·rw[upd_ne O _ (by omega)];exact h.up k' hk'
structure Rel (S:Ph) (t:Trace) (k r:Nat):Prop where
 lo:S.n0≤r
 said:RelBy (stA S.Wg) t k r
 aft:∀i a,r<i→t.g? i=some k→touchAt t i=some a→ShS S a.loc∧a.kind=.atomic
theorem Rel.grow {S:Ph}{t u:Trace}{k r:Nat}(h:Rel S t k r)(hr:RelBy (stA S.Wg) (t++u) k r)(hu:∀op∈u,op.g=k→∀a,op.act.touch? =some a→ShS S a.loc∧a.kind=.atomic):Rel S (t++u) k r:=by
 refine⟨h.lo,hr,fun i a hi hg ha=>?_⟩;obtain⟨x,hx,hxa⟩:=touch_of ha;rcases getElem?_append_cases hx with⟨hlt,hx'⟩|⟨_,hxu⟩
 ·exact h.aft i a hi (by simpa[Trace.g?,getElem?_append_old hlt]using hg) (by rw[touchAt_of hx'];exact hxa)
 ·exact hu x hxu (by simpa[Trace.g?,hx]using hg) a hxa
theorem Rel.other {S:Ph}{t u:Trace}{k r:Nat}(h:Rel S t k r)(hu:∀op∈u,op.g≠k):Rel S (t++u) k r:=h.grow (h.said.appNot hu) fun op hop e=>absurd e (hu op hop)
theorem Rel.book {S:Ph}(G:Geo S){t:Trace}{k r dd:Nat}(h:Rel S t k r)(hdk:Deaf t k=dd)(fn:FuncId)(pos:String){es:Array Event}(hes:∀e∈es,Bk S.Wg e)
 (hd:∀j e,es[j]? =some e→(MemAct.ofEvent e).touch? =none∨0<deafBehind dd (es.extract 0 j)):Rel S (t++MemOp.ofEvents k fn pos es) k r:=by
 refine h.grow (h.said.book hdk fn pos hes hd) fun op hop _ a ha=>?_;obtain⟨e,he,rfl⟩:=Go.Conc.mem_ofEvents hop;rcases hes e he with h1|h1|⟨b,wr,rfl,hb⟩
 ·simp only[ofEvent_loc_mark h1]at ha;cases ha
 ·simp only[ofEvent_loc_mark h1]at ha;cases ha
 ·simp only[ofEvent_cell0,MemAct.touch?,Option.some.injEq]at ha;subst ha;exact⟨⟨b,rfl,hb▸G.wg⟩,rfl⟩
theorem Rel.new {S:Ph}{t:Trace}{k:Nat}(hn:S.n0≤t.size)(hd:Deaf t k=0)(fn:FuncId)(pos:String):Rel S (t++MemOp.ofEvents k fn pos #[Go.ConcR.mk (.releaseMerge (stA S.Wg))]) k t.size:=by
 refine⟨hn,RelBy.new hd fn pos,fun i a hi _ ha=>?_⟩;obtain⟨x,hx,_⟩:=touch_of ha;have:=lt_size_of_getElem? hx;rw[ofEvents_eq]at this;simp at this;omega
theorem Pi {a:Addr}{n:Nat}{t u:Trace}(h:∀i,n≤i→t.act? i≠some (.mark (.release a)))(hu:∀op∈u,op.act≠.mark (.release a)):∀i,n≤i→(t++u).act? i≠some (.mark (.release a)):=by
 intro i hi ha;obtain⟨op,ho,hoa⟩:=Option.map_eq_some_iff.1 ha;rcases getElem?_append_cases ho with⟨_,ho'⟩|⟨_,hou⟩
 ·exact h i hi (by rw[act?_of ho',hoa])
 ·exact hu op hou hoa
def Ja:Nat→(Nat→List Value)→List Value
 |0,_=>[]
 |j+1,L=>Ja j L++L j
theorem Kv {L L':Nat→List Value}:∀ {j:Nat},(∀i,i<j→L' i=L i)→Ja j L'=Ja j L
 |0,_=>rfl
 |j+1,h=>by rw[Ja,Ja,Kv fun i hi=>h i (by omega),h j (by omega)]
theorem Od {L:Nat→List Value}{v:Value}{l:List Value}{i:Nat}(hL:L i=v::l):∀ {j:Nat},i<j→(Ja j L).Perm (v::Ja j (upd L i l))
 |j+1,h=>by
  rcases QhR i j with hlt|hge
  ·have:=Od hL hlt;simp only[Ja];rw[upd_ne L l (show j≠i by omega)];exact this.append_right (L j)
  ·obtain rfl:i=j:=by omega
   simp only[Ja,upd_same,hL];rw[Kv (L:=L) (L':=upd L i l) fun k hk=>upd_ne L l (by omega)];exact List.perm_middle
 |0,h=>by omega
section
variable [Payload]
structure Com (S:Ph) (w0:World) (cap:Nat) (All:List Value) (j:Nat) (gs:Array Goroutine) (w:World) (t:Trace) (D:Nat→WD) (O:Nat→List Nat) (L:Nat→List Value) (rest:List (List Value)) (d0:Nat):Prop where
 size:gs.size=j+1
 m0:S.m0≤j+1
 wk:∀i,i<j→∃g,gs[i+1]? =some g∧WSt S (O (i+1)) (L i) (D i).stage (D i).fuel (D i).deaf g w
 ct:CT (ShS S) (OwO O) (RdS S) t j
 seen:∀i a,touchAt t i=some a→a.loc.low w.heap.size∧a.loc.isMemory=true
 norel:∀i,S.n0≤i→t.act? i≠some (.mark (.release (stA S.Wg)))
 n0:S.n0≤t.size
 deaf0:Deaf t 0=d0
 deafW:∀i,i<j→Deaf t (i+1)=(D i).deaf
 rel:∀i,i<j→S.m0≤i+1→(D i).stage≤6→∃r,Rel S t (i+1) r
 old:∀i,i<j→i+1<S.m0→(D i).stage=1
 kn:∀k i a,k<S.m0→t.g? i=some k→touchAt t i=some a→Knows t 0 i∨(ShS S a.loc∧a.kind=.atomic)
 ov:∀i k,k<S.m0→k≠0→t.g? i=some k→t.counts i→∃q,t.g? q=some 0∧HappensBefore t i q
 low:∀b,b<S.Low→b≠S.Wg→b≠S.Ch→w.heap[b]? =w0.heap[b]?
 big:S.Low≤w.heap.size
 gh:Gh S j O w.heap.size
 ch:∃buf s r tm,w.heap[S.Ch]? =some (.chan cap buf false s r tm)∧(buf.toList++(Ja j L++rest.flatten)).Perm All
 oo:OO w w0
theorem Com.at {S:Ph}{w0:World}{cap:Nat}{All:List Value}{j:Nat}{gs:Array Goroutine}{w:World}{t:Trace}{D:Nat→WD}{O:Nat→List Nat}{L:Nat→List Value}{rest:List (List Value)}{d0:Nat}
 (h:Com S w0 cap All j gs w t D O L rest d0)(d:Nat):Com S w0 cap All j gs (w.at d) t D O L rest d0:=
 {h with wk:=fun i hi=>let⟨g,hg,hs⟩:=h.wk i hi;⟨g,hg,hs.rely (RK.at S _ w d)⟩,seen:=h.seen,low:=h.low,big:=h.big,gh:=h.gh,ch:=h.ch,oo:=h.oo}
end
/-! ### how the old part of the trace is kept-/
theorem K4 {S:Ph}{t u:Trace}(h:∀k i a,k<S.m0→t.g? i=some k→touchAt t i=some a→Knows t 0 i∨(ShS S a.loc∧a.kind=.atomic))(hu:∀op∈u,op.g=0∨S.m0≤op.g∨op.act.touch? =none):
 ∀k i a,k<S.m0→(t++u).g? i=some k→touchAt (t++u) i=some a→Knows (t++u) 0 i∨(ShS S a.loc∧a.kind=.atomic):=by
 intro k i a hk hg ha;obtain⟨x,hx,hxa⟩:=touch_of ha;have hgx:x.g=k:=by simpa[Trace.g?,hx]using hg
 rcases getElem?_append_cases hx with⟨hlt,hx'⟩|⟨_,hxu⟩
 ·exact(h k i a hk (by simpa[Trace.g?,hx']using hgx) (by rw[touchAt_of hx'];exact hxa)).imp (·.app u) id
 ·rcases hu x hxu with h0|h0|h0
  ·left;have:=knows_own hx;rwa[h0]at this
  ·omega
  ·rw[h0]at hxa;cases hxa
theorem Pp {S:Ph}{t u:Trace}(h:∀i k,k<S.m0→k≠0→t.g? i=some k→t.counts i→∃q,t.g? q=some 0∧HappensBefore t i q)(hu:∀op∈u,op.g=0∨S.m0≤op.g∨op.act.touch? =none):
 ∀i k,k<S.m0→k≠0→(t++u).g? i=some k→(t++u).counts i→∃q,(t++u).g? q=some 0∧HappensBefore (t++u) i q:=by
 intro i k hk hk0 hg hc;obtain⟨x,hx,hc'⟩:=hc;obtain⟨op,hop,hox⟩:=touch_of hx;have hgx:op.g=k:=by simpa[Trace.g?,hop]using hg
 rcases getElem?_append_cases hop with⟨hlt,hop'⟩|⟨_,hopu⟩
 ·obtain⟨q,hq,hb⟩:=h i k hk hk0 (by simpa[Trace.g?,hop']using hgx) ((counts_old hlt).1 ⟨x,hx,hc'⟩)
  have hql:q<t.size:=by
   unfold Trace.g? at hq;obtain⟨z,hz,_⟩:=Option.map_eq_some_iff.1 hq;exact lt_size_of_getElem? hz
  exact⟨q,by simpa[Trace.g?,getElem?_append_old hql]using hq,hb_app u hb⟩
 ·rcases hu op hopu with h0|h0|h0
  ·omega
  ·omega
  ·rw[h0]at hox;cases hox
theorem Qfd {B B':Nat}(h:B≤B'){l:Loc}(hl:l.low B):l.low B':=Loc.low_mono h hl
theorem PC {t u:Trace}{B B':Nat}(hB:B≤B')(h:∀i a,touchAt t i=some a→a.loc.low B∧a.loc.isMemory=true)(hu:∀op∈u,∀a,op.act.touch? =some a→∃c,a.loc=.cell c∧c.block<B'):
 ∀i a,touchAt (t++u) i=some a→a.loc.low B'∧a.loc.isMemory=true:=by
 intro i a ha;obtain⟨x,hx,hxa⟩:=touch_of ha;rcases getElem?_append_cases hx with⟨_,hx'⟩|⟨_,hxu⟩
 ·have:=h i a (by rw[touchAt_of hx'];exact hxa);exact⟨Qfd hB this.1,this.2⟩
 ·obtain⟨c,hc,hb⟩:=hu x hxu a hxa;rw[hc];exact⟨hb,rfl⟩
section
variable [Payload] {S:Ph} {w0:World} {cap:Nat} {All:List Value} {j:Nat} {gs gs':Array Goroutine} {w w':World} {t u:Trace} {D:Nat→WD} {O:Nat→List Nat} {L L':Nat→List Value} {rest:List (List Value)} {d0:Nat}
theorem Com.ct_own (h:Com S w0 cap All j gs w t D O L rest d0){k:Nat}{own':List Nat}(hsub:∀b,b∈O k→b∈own')(hown:∀b,b∈own'→b∈O k∨(b=w.heap.size∧w.heap.size<w'.heap.size)):CT (ShS S) (OwO (upd O k own')) (RdS S) t j:=by
 refine QcN h.ct (fun k' l=>?_) (fun k' l=>?_)
 ·rintro⟨h1,a,rfl,ha⟩;refine⟨h1,a,rfl,?_⟩;by_cases e:k'=k
  ·subst e;rw[upd_same];exact hsub _ ha
  ·rw[upd_ne O _ e];exact ha
 ·rintro⟨h1,a,rfl,ha⟩ hno i x hx hl;by_cases e:k'=k
  ·subst e;rw[upd_same]at ha;rcases hown _ ha with h2|⟨h2,_⟩
   ·exact hno ⟨h1,a,rfl,h2⟩
   ·have:=(h.seen i x hx).1;rw[hl]at this;have:a.block<w.heap.size:=this;omega
  ·rw[upd_ne O _ e]at ha;exact hno ⟨h1,a,rfl,ha⟩
theorem Com.stepW (G:Geo S)(h:Com S w0 cap All j gs w t D O L rest d0){i:Nat}(hi:i<j){g':Goroutine}{own':List Nat}{s' m' dd':Nat}
 (hgs:gs'.size=j+1)(hg':gs'[i+1]? =some g')(hgo:∀k,k<j→k≠i→gs'[k+1]? =gs[k+1]?)
 (hrk:∀k,k≠i+1→RK S (O k) w w')(hsub:∀b,b∈O (i+1)→b∈own')(hown:∀b,b∈own'→b∈O (i+1)∨(b=w.heap.size∧w.heap.size<w'.heap.size))(hsz:w.heap.size≤w'.heap.size)
 (hL:∀k,k<j→k≠i→L' k=L k)(hch:∃buf s r tm,w'.heap[S.Ch]? =some (.chan cap buf false s r tm)∧(buf.toList++(Ja j L'++rest.flatten)).Perm All)
 (hs':WSt S own' (L' i) s' m' dd' g' w')
 (hug:∀op∈u,op.g=i+1)(hok:∀op∈u,OkW (ShS S) (OwO (upd O (i+1) own')) (RdS S) (i+1) op)(hse:∀op∈u,∀a,op.act.touch? =some a→∃c,a.loc=.cell c∧c.block<w'.heap.size)
 (hnr:∀op∈u,op.act≠.mark (.release (stA S.Wg)))(hdeaf:Deaf (t++u) (i+1)=dd')
 (hrel:S.m0≤i+1→s'≤6→∃r,Rel S (t++u) (i+1) r)(hold:i+1<S.m0→s'=1∧∀op∈u,op.act.touch? =none):
 Com S w0 cap All j gs' w' (t++u) (upd D i ⟨s',m',dd'⟩) (upd O (i+1) own') L' rest d0:=by
 have gh':Gh S j (upd O (i+1) own') w'.heap.size:=h.gh.grow h.big (by omega) hown hsz
 have hu3:∀op∈u,op.g=0∨S.m0≤op.g∨op.act.touch? =none:=fun op hop=>by
  rcases QhR (i+1) S.m0 with hlt|hge
  ·exact .inr (.inr ((hold hlt).2 op hop))
  ·exact .inr (.inl (by rw[hug op hop];exact hge))
 refine⟨hgs,h.m0,fun k hk=>?_,(h.ct_own hsub hown).appW (gh'.apart G) (by omega) (by omega) hok,PC hsz h.seen hse,Pi h.norel hnr,by have:=h.n0;simp;omega,by rw[Deaf_other t (by omega) u hug];exact h.deaf0,fun k hk=>?_,fun k hk hm hst=>?_,
  fun k hk hm=>?_,K4 h.kn hu3,Pp h.ov hu3,fun b h1 h2 h3=>((hrk 0 (by omega)).low b h1 h2 h3).trans (h.low b h1 h2 h3),Nat.le_trans h.big hsz,gh',hch,(hrk 0 (by omega)).oo.trans h.oo⟩
 ·by_cases e:k=i
  ·subst e;exact⟨g',hg',by rw[upd_same,upd_same];exact hs'⟩
  ·obtain⟨x,hx,hsx⟩:=h.wk k hk;refine⟨x,by rw[hgo k hk e];exact hx,?_⟩;rw[upd_ne D _ e,upd_ne O _ (by omega),hL k hk e];exact hsx.rely (hrk _ (by omega))
 ·by_cases e:k=i
  ·subst e;rw[upd_same];exact hdeaf
  ·rw[Deaf_other t (by omega) u hug,h.deafW k hk,upd_ne D _ e]
 ·by_cases e:k=i
  ·subst e;rw[upd_same]at hst;exact hrel hm hst
  ·rw[upd_ne D _ e]at hst;obtain⟨r,hr⟩:=h.rel k hk hm hst;exact⟨r,hr.other fun op hop=>by rw[hug op hop];omega⟩
 ·by_cases e:k=i
  ·subst e;rw[upd_same];exact(hold hm).1
  ·rw[upd_ne D _ e];exact h.old k hk hm
theorem Com.step0 (G:Geo S)(h:Com S w0 cap All j gs w t D O L rest d0){own':List Nat}{d':Nat}
 (hgs:gs'.size=j+1)(hgo:∀k,k<j→gs'[k+1]? =gs[k+1]?)
 (hrk:∀k,k≠0→RK S (O k) w w')(hlow:∀b,b<S.Low→b≠S.Wg→b≠S.Ch→w'.heap[b]? =w.heap[b]?)(hsub:∀b,b∈O 0→b∈own')(hown:∀b,b∈own'→b∈O 0∨(b=w.heap.size∧w.heap.size<w'.heap.size))(hsz:w.heap.size≤w'.heap.size)
 (hch:w'.heap[S.Ch]? =w.heap[S.Ch]?)
 (hug:∀op∈u,op.g=0)(hok:∀op∈u,Ok0 (ShS S) (OwO (upd O 0 own')) (RdS S) j op)(hse:∀op∈u,∀a,op.act.touch? =some a→∃c,a.loc=.cell c∧c.block<w'.heap.size)
 (hnr:∀op∈u,op.act≠.mark (.release (stA S.Wg)))(hdeaf:Deaf (t++u) 0=d'):
 Com S w0 cap All j gs' w' (t++u) D (upd O 0 own') L rest d':=by
 have gh':Gh S j (upd O 0 own') w'.heap.size:=h.gh.grow h.big (by omega) hown hsz;have hu3:∀op∈u,op.g=0∨S.m0≤op.g∨op.act.touch? =none:=fun op hop=>.inl (hug op hop)
 refine⟨hgs,h.m0,fun k hk=>?_,(h.ct_own hsub hown).app0 (gh'.apart G) hok,PC hsz h.seen hse,Pi h.norel hnr,by have:=h.n0;simp;omega,hdeaf,fun k hk=>by rw[Deaf_other t (by omega) u hug];exact h.deafW k hk,fun k hk hm hst=>?_,
  h.old,K4 h.kn hu3,Pp h.ov hu3,fun b h1 h2 h3=>(hlow b h1 h2 h3).trans (h.low b h1 h2 h3),Nat.le_trans h.big hsz,gh',?_,(hrk 1 (by omega)).oo.trans h.oo⟩
 ·obtain⟨x,hx,hsx⟩:=h.wk k hk;refine⟨x,by rw[hgo k hk];exact hx,?_⟩;rw[upd_ne O _ (by omega)];exact hsx.rely (hrk _ (by omega))
 ·obtain⟨r,hr⟩:=h.rel k hk hm hst;exact⟨r,hr.other fun op hop=>by rw[hug op hop];omega⟩
 ·obtain⟨buf,s,r,tm,h1,h2⟩:=h.ch;exact⟨buf,s,r,tm,hch.trans h1,h2⟩
theorem Com.spawn (G:Geo S){l:List Value}(h:Com S w0 cap All j gs w t D O L (l::rest) 0){a' child:Goroutine}{x y:MemOp}{m st:Nat}{bs own':List Nat}(hx:x.g=0∧x.act=.go (j+1))(hy:y.g=j+1∧y.act=.start)
 (hbs:∀b,b∈bs→b∈O 0)(hown:∀b,b∈own'→b∈O 0)(hdj:∀b,b∈bs→b∉own')
 (hc:WSt S bs l st m 0 child w)(hst:7≤st):
 Com S w0 cap All (j+1) ((gs.setIfInBounds 0 a').push child) w (t++ #[x,y]) (upd D j ⟨st,m,0⟩) (upd (upd O (j+1) bs) 0 own') (upd L j l) rest 0:=by
 have hm:∀op∈#[x,y],op=x∨op=y:=by intro op hop;simpa using hop
 have hst':∀op∈#[x,y],op.act≠.mark .disable∧op.act≠.mark .enable:=by
  intro op hop;rcases hm op hop with rfl|rfl
  ·rw[hx.2];exact⟨by simp,by simp⟩
  ·rw[hy.2];exact⟨by simp,by simp⟩
 have hnt:∀op∈#[x,y],op.act.touch? =none:=by
  intro op hop;rcases hm op hop with rfl|rfl
  ·rw[hx.2];rfl
  ·rw[hy.2];rfl
 have hu3:∀op∈#[x,y],op.g=0∨S.m0≤op.g∨op.act.touch? =none:=fun op hop=>.inr (.inr (hnt op hop));have hO:∀k,1≤k→k≤j→upd (upd O (j+1) bs) 0 own' k=O k:=fun k h1 h2=>by rw[upd_ne _ _ (by omega),upd_ne O _ (by omega)]
 have hOj:upd (upd O (j+1) bs) 0 own' (j+1)=bs:=by rw[upd_ne _ _ (by omega),upd_same]
 have hO0:upd (upd O (j+1) bs) 0 own' 0=own':=upd_same _ _ _
 have hOall:∀k b,b∈upd (upd O (j+1) bs) 0 own' k→(k=0∧b∈own')∨(k=j+1∧b∈bs)∨(1≤k∧k≤j∧b∈O k):=fun k b hb=>by
  by_cases e0:k=0
  ·subst e0;rw[hO0]at hb;exact .inl ⟨rfl,hb⟩
  ·by_cases ej:k=j+1
   ·subst ej;rw[hOj]at hb;exact .inr (.inl ⟨rfl,hb⟩)
   ·rw[upd_ne _ _ e0,upd_ne O _ ej]at hb;rcases QhR j k with hlt|hge
    ·rw[h.gh.up k hlt]at hb;cases hb
    ·exact .inr (.inr ⟨by omega,hge,hb⟩)
 have hsrc:∀k b,b∈upd (upd O (j+1) bs) 0 own' k→(k=0∨k=j+1)∧b∈O 0∨(1≤k∧k≤j∧b∈O k):=fun k b hb=>by
  rcases hOall k b hb with⟨e,h1⟩|⟨e,h1⟩|h1
  ·exact .inl ⟨.inl e,hown b h1⟩
  ·exact .inl ⟨.inr e,hbs b h1⟩
  ·exact .inr h1
 have gh':Gh S (j+1) (upd (upd O (j+1) bs) 0 own') w.heap.size:=by
  refine⟨fun k b hb=>?_,fun k k' b hb hb'=>?_,fun k hk=>?_⟩
  ·rcases hsrc k b hb with⟨_,h1⟩|⟨_,_,h1⟩
   ·exact h.gh.ow _ b h1
   ·exact h.gh.ow _ b h1
  ·rcases hOall k b hb with⟨e,h1⟩|⟨e,h1⟩|⟨e1,e2,h1⟩<;>rcases hOall k' b hb' with⟨e',h1'⟩|⟨e',h1'⟩|⟨e1',e2',h1'⟩
   ·omega
   ·exact absurd h1 (hdj b h1')
   ·have:=h.gh.dj _ _ b (hown b h1) h1';omega
   ·exact absurd h1' (hdj b h1)
   ·omega
   ·have:=h.gh.dj _ _ b (hbs b h1) h1';omega
   ·have:=h.gh.dj _ _ b h1 (hown b h1');omega
   ·have:=h.gh.dj _ _ b h1 (hbs b h1');omega
   ·exact h.gh.dj _ _ b h1 h1'
  ·rw[upd_ne _ _ (by omega),upd_ne O _ (by omega)];exact h.gh.up k (by omega)
 have ct':CT (ShS S) (OwO (upd (upd O (j+1) bs) 0 own')) (RdS S) t j:=by
  have e:∀k,k≤j→∀l,OwO (upd (upd O (j+1) bs) 0 own') k l↔OwO O k l:=fun k hk l=>by
   constructor
   ·rintro⟨h1,a,h2,h3⟩;rw[hO k h1 hk]at h3;exact⟨h1,a,h2,h3⟩
   ·rintro⟨h1,a,h2,h3⟩;exact⟨h1,a,h2,by rw[hO k h1 hk];exact h3⟩
  exact⟨h.ct.quiet,fun k k1 kj l hl=>h.ct.own k k1 kj l ((e k kj l).1 hl),h.ct.rd,fun l hs hl=>h.ct.free l hs fun k k1 kj=>⟨fun ho=>(hl k k1 kj).1 ((e k kj l).2 ho),(hl k k1 kj).2⟩,
   fun l hs hl=>h.ct.mine l hs fun k k1 kj ho=>hl k k1 kj ((e k kj l).2 ho),h.ct.nr,h.ct.gs⟩
 refine⟨by simp[h.size],by have:=h.m0;omega,fun k hk=>?_,ct'.fork (gh'.apart G) hx hy h.deaf0,PC (Nat.le_refl _) h.seen (fun op hop a ha=>by rw[hnt op hop]at ha;cases ha),Pi h.norel fun op hop=>?_,by have:=h.n0;simp;omega,
  by rw[Deaf_still t 0 _ hst'];exact h.deaf0,fun k hk=>?_,fun k hk hm' hs=>?_,fun k hk hm'=>?_,K4 h.kn hu3,Pp h.ov hu3,h.low,h.big,gh',?_,h.oo⟩
 ·rcases QhR k j with hlt|hge
  ·obtain⟨g,hg,hsg⟩:=h.wk k hlt;refine⟨g,?_,by rw[upd_ne D _ (by omega),upd_ne L _ (by omega),hO _ (by omega) (by omega)];exact hsg⟩;rw[Array.getElem?_push_lt (by simp[h.size];omega),←Array.getElem?_eq_getElem,Array.getElem?_setIfInBounds_ne (by omega)];exact hg
  ·obtain rfl:k=j:=by omega
   refine⟨child,?_,by rw[upd_same,upd_same,hOj];exact hc⟩;rw[show k+1=(gs.setIfInBounds 0 a').size by simp[h.size],Array.getElem?_push_size]
 ·rcases hm op hop with rfl|rfl
  ·rw[hx.2];simp
  ·rw[hy.2];simp
 ·rw[Deaf_still t _ _ hst'];rcases QhR k j with hlt|hge
  ·rw[h.deafW k hlt,upd_ne D _ (by omega)]
  ·obtain rfl:k=j:=by omega
   rw[upd_same];exact Deaf_absent fun a op ha e=>by have:=h.ct.gs a op ha;omega
 ·rcases QhR k j with hlt|hge
  ·rw[upd_ne D _ (by omega)]at hs;obtain⟨r,hr⟩:=h.rel k hlt hm' hs;refine⟨r,hr.other fun op hop=>?_⟩;rcases hm op hop with rfl|rfl
   ·rw[hx.1];omega
   ·rw[hy.1];omega
  ·obtain rfl:k=j:=by omega
   rw[upd_same]at hs;simp only at hs;omega
 ·rcases QhR k j with hlt|hge
  ·rw[upd_ne D _ (by omega)];exact h.old k hlt hm'
  ·have:=h.m0;omega
 ·obtain⟨buf,s,r,tm,h1,h2⟩:=h.ch;refine⟨buf,s,r,tm,h1,?_⟩
  have e:Ja (j+1) (upd L j l)=Ja j L++l:=by
   rw[Ja,upd_same,Kv (L:=L) fun k hk=>upd_ne L l (by omega)]
  rw[e];simpa[List.append_assoc]using h2
end
end Co
end Go.Proofs.YtcpnkpogebjieaaGreat
