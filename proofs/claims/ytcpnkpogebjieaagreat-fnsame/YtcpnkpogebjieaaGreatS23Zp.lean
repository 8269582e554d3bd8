/- The crowd: a step of a teller's keeps the invariant and lowers the measure, wherever it -/
import Derived.Test.YtcpnkpogebjieaaGreatS22Zo
open Array renaming mem_of_getElem?→QhR
set_option maxHeartbeats 1600000
namespace Go.Proofs.YtcpnkpogebjieaaGreat
namespace Co
open Go.Conc Go.ConcN
open Go.ConcR (KK wgBlock WgAt stA smA rd wr mk Payload Aside2 DC0 Bk g_of_ofEvents again_blocked ofEvent_loc_mark bk_of_mute)
theorem Md.congr {j:Nat}{D D':Nat→WD}{tag:Tg}{st sm:Int}(h:∀a,a<j→(D' a).stage=(D a).stage)(hm:Md j D tag st sm):Md j D' tag st sm:=by
 have hv:Vc j D'=Vc j D:=sumTo_congr fun a ha=>by simp only[cnt,h a ha]
 cases hm with
 |opn h1 h2 h3=>rw[←hv];exact .opn h1 (fun a ha=>by rw[h a ha];exact h2 a ha) (fun vs e=>by rw[hv];exact h3 vs e)
 |reg h1 h2 h3=>rw[←hv];exact .reg h1 (fun a ha=>by rw[h a ha];exact h2 a ha) (by rw[hv];exact h3)
 |last L h1 h2 h3 h4=>rw[←h L h2];exact .last L h1 h2 (by rw[h L h2];exact h3) (fun a ha e=>by rw[h a ha];exact h4 a ha e)
 |sema h1 h2=>exact .sema h1 fun a ha=>by rw[h a ha];exact h2 a ha
 |fin h1 h2=>exact .fin h1 fun a ha=>by rw[h a ha];exact h2 a ha
theorem Md.same {j i:Nat}{D:Nat→WD}{tag:Tg}{st sm:Int}(hm:Md j D tag st sm)(m' dd':Nat):Md j (upd D i ⟨(D i).stage,m',dd'⟩) tag st sm:=
 hm.congr fun a _=>by
  by_cases e:a=i
  ·subst e;rw[upd_same]
  ·rw[upd_ne D _ e]
theorem Md.counted {j i:Nat}{D:Nat→WD}{tag:Tg}{st sm:Int}(hm:Md j D tag st sm)(hi:i<j)(h5:5≤(D i).stage){s':Nat}(hs:5≤s')(m' dd':Nat):Md j (upd D i ⟨s',m',dd'⟩) tag st sm:=by
 have hv:Vc j (upd D i ⟨s',m',dd'⟩)=Vc j D:=by
  have:=Vc_upd D (⟨s',m',dd'⟩:WD) hi;have c1:cnt (D i)=1:=by simp[cnt,h5]
  have c2:cnt (⟨s',m',dd'⟩:WD)=1:=by simp[cnt,hs]
  omega
 have ho:Yg j D→Yg j (upd D i ⟨s',m',dd'⟩):=fun h a ha=>by
  by_cases e:a=i
  ·subst e;rw[upd_same];exact .inl hs
  ·rw[upd_ne D _ e];exact h a ha
 cases hm with
 |opn h1 h2 h3=>rw[←hv];exact .opn h1 (ho h2) (fun vs e=>by rw[hv];exact h3 vs e)
 |reg h1 h2 h3=>rw[←hv];exact .reg h1 (ho h2) (by rw[hv];exact h3)
 |last L h1 h2 h3 h4=>
  by_cases e:i=L
  ·subst e;omega
  ·have:=h4 i hi e;omega
 |sema _ h2=>have:=h2 i hi;omega
 |fin h1 h2=>have:=h2 i hi;omega
theorem Md.not_bk {j i:Nat}{D:Nat→WD}{tag:Tg}{st sm:Int}(hm:Md j D tag st sm)(hi:i<j)(h:(D i).stage≠1):tag≠.bk:=by
 rintro rfl
 cases hm with
 |opn h1 _ _=>exact h1
 |reg h1 _ _=>exact h1
 |last L h1 _ _ _=>exact h1
 |sema h1 _=>simp at h1
 |fin _ h2=>exact h (h2 i hi)
theorem Md.isLast {j i:Nat}{D:Nat→WD}{tag:Tg}{st sm:Int}(hm:Md j D tag st sm)(hi:i<j)(h:(D i).stage=4∨(D i).stage=3∨(D i).stage=2):
 UV tag∧(∀a,a<j→a≠i→(D a).stage=1)∧st=(if(D i).stage=2 then 0 else 1)∧sm=0:=by
 cases hm with
 |opn _ h2 _=>have:=h2 i hi;omega
 |reg _ h2 _=>have:=h2 i hi;omega
 |last L h1 h2 h3 h4=>
  by_cases e:i=L
  ·subst e;exact⟨h1,h4,rfl,rfl⟩
  ·have:=h4 i hi e;omega
 |sema _ h2=>have:=h2 i hi;omega
 |fin _ h2=>have:=h2 i hi;omega
theorem KQ {S:Ph}{own:List Nat}{e:Event}(h:EvK S own e){x:Touch}(hx:(MemAct.ofEvent e).touch? =some x):∃a,x.loc=.cell a∧¬S.SB a.block∧(a.block∈own∨(a.block<S.Low∧x.write=false)):=by
 obtain⟨a,wr,rfl,hs,ho⟩:=h;simp only[ofEvent_cell0,MemAct.touch?,Option.some.injEq]at hx;subst hx;exact⟨a,rfl,hs,ho⟩
theorem Up {S:Ph}{own:List Nat}{e:Event}(h:EvK S own e):e.loc≠.mark .disable∧e.loc≠.mark .enable∧∀a,e.loc≠.mark (.release a):=by
 obtain⟨a,wr,rfl,_⟩:=h;exact⟨by simp,by simp,by simp⟩
section
variable [Payload] {S:Ph} {Anch Bk:Goroutine→World→Prop} {w0:World} {cap:Nat} {All:List Value} {N:Nat} {gs:Array Goroutine} {w w':World} {sl:Option (Nat×Nat)} {j:Nat} {D:Nat→WD} {O:Nat→List Nat} {L:Nat→List Value}
 {tag:Tg} {f0 d0:Nat} {a:Goroutine} {t:Trace} {st sm:Int}
theorem Com.turn (G:Geo S){rest:List (List Value)}(h:Com S w0 cap All j gs w t D O L rest d0){k:Nat}{own':List Nat}(ht:Zf (O k) own' w w'):
 (∀k',k'≠k→RK S (O k') w w')∧(∀b,b<S.Low→w'.heap[b]? =w.heap[b]?)∧(∀b,b∈O k→b∈own')∧(∀b,b∈own'→b∈O k∨(b=w.heap.size∧w.heap.size<w'.heap.size))∧w.heap.size≤w'.heap.size∧(∀b,b∈own'→b<w'.heap.size):=by
 have hlow:∀b,b<S.Low→w'.heap[b]? =w.heap[b]? :=fun b hb=>ht.same b (by have:=h.big;omega) fun hm=>by have:=(h.gh.ow k b hm).1;omega
 refine⟨fun k' hk=>⟨fun b hb _ _=>hlow b hb,fun b hb=>ht.same b (h.gh.ow k' b hb).2 fun hm=>hk (h.gh.dj _ _ b hb hm),fun⟨x,y,hl⟩=>⟨x,y,hl.of_block (hlow _ (G.sb _ G.wg))⟩,ht.oo⟩,hlow,?_⟩;rcases ht.grow with⟨rfl,hs⟩|⟨rfl,hs⟩
 ·exact⟨fun _ hb=>hb,fun _ hb=>.inl hb,by omega,fun b hb=>by have:=(h.gh.ow k b hb).2;omega⟩
 ·refine⟨fun _ hb=>List.mem_cons_of_mem _ hb,fun b hb=>?_,by omega,fun b hb=>?_⟩
  ·rcases List.mem_cons.1 hb with rfl|hb
   ·exact .inr ⟨rfl,by omega⟩
   ·exact .inl hb
  ·rcases List.mem_cons.1 hb with rfl|hb
   ·omega
   ·have:=(h.gh.ow k b hb).2;omega
theorem QgV (G:Geo S)(hAr:∀g w,Anch g w→g.status=.running)(hBr:∀g w,Bk g w→g.status=.running)(hAll:All.length≤cap)(hN2:N<1000000)
 (ha:gs[0]? =some a)(hcs:CSt S Anch Bk tag (O 0) f0 d0 a w)(hcom:Com S w0 cap All j gs w t D O L tag.rest d0)(hwg:WgAt S.ty S.Wg w st sm)(hmode:Md j D tag st sm)(hN:Vc j D+tag.rest.length≤N)(hp:tag.pend≤1)
 (hacq:tag=.bk→JL S j t){i:Nat}(hi:i<j){g:Goroutine}(hg:gs[i+1]? =some g)(hrun:g.status=.running):
 ∃m₁ ops μ',runT S.P (crowd gs w sl) (i+1)=(.next m₁,ops)∧Lt2 μ' (ph2 N (Vc j D) tag+Ssum j D,f0+2*Fsum j D)∧Inv S Anch Bk w0 cap All N μ' m₁ (t++ops):=by
 obtain⟨g₁,hg₁,hs⟩:=hcom.wk i hi;obtain rfl:g=g₁:=by rw[hg]at hg₁;exact Option.some.inj hg₁
 have hWL:S.Wg<S.Low:=G.sb _ G.wg;have hbig:=hcom.big;generalize hst:(D i).stage=s at hs;generalize hfu:(D i).fuel=m at hs;generalize hde:(D i).deaf=dd at hs;generalize hle:L i=left at hs;have hdk:Deaf t (i+1)=dd:=by rw[hcom.deafW i hi,hde]
 have nb:s≠1→tag≠.bk:=fun h=>hmode.not_bk hi (by omega);have young:s≠1→¬i+1<S.m0:=fun h hm=>by have:=hcom.old i hi hm;omega
 have bookG:∀ {g':Goroutine} {w':World} {es:Array Event} {s' m' dd':Nat} {st' sm':Int},stepG S.P false g w=.go g' w' es→Aside S.Wg w w'→WgAt S.ty S.Wg w' st' sm'→(∀e∈es,Go.ConcR.Bk S.Wg e)→
  (∀jx e,es[jx]? =some e→(MemAct.ofEvent e).touch? =none∨0<deafBehind dd (es.extract 0 jx))→WSt S (O (i+1)) (L i) s' m' dd' g' w'→deafBehind dd es=dd'→s≤6→
  (∀tag',(tag'=tag∨(tag=.blk∧tag'=.sem))→(mayWake S.P g=true→g'.status=.running→tag'≠.blk)→Md j (upd D i ⟨s',m',dd'⟩) tag' st' sm')→(i+1<S.m0→s'=1∧∀e∈es,(MemAct.ofEvent e).touch? =none)→
  (tag=.bk→JL S j (t++MemOp.ofEvents (i+1) g.frame.fn g.frame.place es))→((s'<s∧cnt ⟨s',m',dd'⟩≤cnt (D i))∨(s'=s∧m'+1=m))→
  ∃m₁ ops μ',runT S.P (crowd gs w sl) (i+1)=(.next m₁,ops)∧Lt2 μ' (ph2 N (Vc j D) tag+Ssum j D,f0+2*Fsum j D)∧Inv S Anch Bk w0 cap All N μ' m₁ (t++ops):=by
  intro g' w' es s' m' dd' st' sm' hgo hAs hwg' hbk hd hs' hdd h6 hmode' hold hacq' hlt
  have htouch:∀e∈es,∀x,(MemAct.ofEvent e).touch? =some x→∃c,x.loc=.cell c∧c.block=S.Wg∧x.kind=.atomic:=fun e he x hx=>by
   rcases hbk e he with h1|h1|⟨c,wr,rfl,hc⟩
   ·rw[ofEvent_loc_mark h1]at hx;cases hx
   ·rw[ofEvent_loc_mark h1]at hx;cases hx
   ·simp only[ofEvent_cell0,MemAct.touch?,Option.some.injEq]at hx;subst hx;exact⟨c,rfl,hc,rfl⟩
  refine U9 (own':=O (i+1)) G hAr hBr ha hcs hcom hN hp hi hg hgo (fun k _=>⟨fun b _ h1 _=>hAs.block b h1,fun b hb=>hAs.block b (by have:=(hcom.gh.ow k b hb).1;omega),fun _=>⟨_,_,hwg'⟩,⟨hAs.os,hAs.output⟩⟩) (fun _ h=>h) (fun _ h=>.inl h)
   (by have:=hAs.size;omega) (hAs.block _ G.ne) hs' (fun op hop=>?_) (fun e he x hx=>?_) (norel_of_Bk hbk) (by rw[hde];exact hdd)
   (fun hm _=>let⟨r,hr⟩:=hcom.rel i hi hm (by omega);⟨r,hr.book G hdk _ _ hbk hd⟩) hold hwg' hmode' hacq' (by rw[hst,hfu];exact hlt)
  ·obtain⟨e,he,rfl⟩:=Go.Conc.mem_ofEvents hop;refine⟨rfl,fun x hx=>?_⟩;obtain⟨c,h1,h2,h3⟩:=htouch e he x hx;exact .inl ⟨⟨c,h1,h2▸G.wg⟩,by rw[h3];simp,by rw[h3];simp⟩
  ·obtain⟨c,h1,h2,_⟩:=htouch e he x hx;exact⟨c,h1,by have:=hAs.size;omega⟩
 have book:∀ {g':Goroutine} {w':World} {es:Array Event} {s' m' dd':Nat} {st' sm':Int},stepG S.P false g w=.go g' w' es→Aside S.Wg w w'→WgAt S.ty S.Wg w' st' sm'→(∀e∈es,Go.ConcR.Bk S.Wg e)→
  (∀jx e,es[jx]? =some e→(MemAct.ofEvent e).touch? =none∨0<deafBehind dd (es.extract 0 jx))→WSt S (O (i+1)) (L i) s' m' dd' g' w'→deafBehind dd es=dd'→s≤6→s≠1→
  Md j (upd D i ⟨s',m',dd'⟩) tag st' sm'→((s'<s∧cnt ⟨s',m',dd'⟩≤cnt (D i))∨(s'=s∧m'+1=m))→
  ∃m₁ ops μ',runT S.P (crowd gs w sl) (i+1)=(.next m₁,ops)∧Lt2 μ' (ph2 N (Vc j D) tag+Ssum j D,f0+2*Fsum j D)∧Inv S Anch Bk w0 cap All N μ' m₁ (t++ops):=
  fun hgo hAs hwg' hbk hd hs' hdd h6 h1 hmode' hlt=>bookG hgo hAs hwg' hbk hd hs' hdd h6 (fun _ ht _=>hmode'.retag ht) (fun hm=>absurd hm (young h1)) (fun e=>absurd e (nb h1)) hlt
 have idle:∀ {g':Goroutine} {m':Nat},stepG S.P false g w=.go g' w #[]→WSt S (O (i+1)) (L i) s m' dd g' w→m'+1=m→s≤6→s≠1→
  ∃m₁ ops μ',runT S.P (crowd gs w sl) (i+1)=(.next m₁,ops)∧Lt2 μ' (ph2 N (Vc j D) tag+Ssum j D,f0+2*Fsum j D)∧Inv S Anch Bk w0 cap All N μ' m₁ (t++ops):=by
  intro g' m' hgo hs' hm h6 h1;exact book hgo (.refl S.Wg w) hwg (by simp) (by simp) hs' rfl h6 h1 (by have:=hmode.same (i:=i) m' dd;rwa[hst]at this) (.inr ⟨rfl,hm⟩)
 cases hs with
 | @scr s _ _ _ _ h=>
   rcases Goes.cases h with hstop|⟨m',rfl,hstep⟩
   ·obtain⟨_,hturn|⟨v,left',g2,z,shape,rfl,hgo,hnext⟩⟩:=hstop w (RK.refl S _ w)
    ·obtain⟨g',w',es,hgo,own',ht,hev,hnext⟩:=goes_elim hturn;obtain⟨m',hs'⟩:=hnext.toSt;obtain⟨hrk,hlow,hsub,hown,hsz,hin⟩:=hcom.turn G ht;refine U9 (own':=own') G hAr hBr ha hcs hcom hN hp hi hg hgo hrk hsub hown hsz (hlow _ G.ch) (by rw[hle];exact hs') (fun op hop=>?_) (fun e he x hx=>?_) (fun e he=>(Up (hev e he)).2.2 _)
      (by rw[hde];exact deafBehind_idle (fun e he=>⟨(Up (hev e he)).1,(Up (hev e he)).2.1⟩) 0) (fun _ h=>by omega) (fun hm=>absurd hm (young (by omega))) (hwg.of_block (hlow _ hWL))
      (fun _ ht' _=>(hmode.counted hi (by omega) (by omega) _ _).retag ht') (fun e=>absurd e (nb (by omega))) (.inl ⟨by omega,by simp[cnt,hst]⟩)
     ·obtain⟨e,he,rfl⟩:=Go.Conc.mem_ofEvents hop;refine⟨rfl,fun x hx=>?_⟩;obtain⟨c,h1,h2,h3|⟨h3,h4⟩⟩:=KQ (hev e he) hx
      ·exact .inr (.inl ⟨by omega,c,h1,by rw[upd_same];exact h3⟩)
      ·exact .inr (.inr ⟨⟨Nat.le_of_not_lt (young (by omega)),c,h1,h3,h2⟩,h4⟩)
     ·obtain⟨c,h1,_,h3|⟨h3,_⟩⟩:=KQ (hev e he) hx
      ·exact⟨c,h1,hin _ h3⟩
      ·exact⟨c,h1,by omega⟩
    ·exact QhN G hAr hBr ha hcs hcom hN hp hAll hi hg hgo hle hst hde hnext hwg hmode (nb (by omega))
   ·obtain⟨g',w',es,hgo,⟨rfl,rfl⟩,hg'⟩:=hstep w (RK.refl S _ w);refine U9 (own':=O (i+1)) G hAr hBr ha hcs hcom hN hp hi hg hgo (fun k _=>RK.refl S _ _) (fun _ h=>h) (fun _ h=>.inl h) (Nat.le_refl _) rfl (by rw[hle];exact .scr hg') (by rw[ofEvents_eq];simp) (by simp) (by simp) (by rw[hde];rfl)
     (fun _ h=>by omega) (fun hm=>absurd hm (young (by omega))) hwg (fun _ ht _=>Md.retag (by have:=hmode.same (i:=i) m' 0;rwa[hst]at this) ht) (fun e=>absurd e (nb (by omega))) (.inr ⟨hst.symm,by omega⟩)
 | @r0 C _ _ _ _ hC h=>
   have hCo:=hcom.gh.ow _ C hC;rcases Goes.cases h with hstop|⟨m',rfl,hstep⟩
   ·obtain⟨_,_,g',hgo,m₂,hk⟩:=hstop w (RW.refl w);refine U9 (own':=O (i+1)) G hAr hBr ha hcs hcom hN hp hi hg hgo (fun k _=>RK.refl S _ _) (fun _ h=>h) (fun _ h=>.inl h) (Nat.le_refl _) rfl (by rw[hle];exact .k1 hC hk) ?_ ?_ (by intro e he;simp at he;subst he;simp[mk]) (by rw[hde];rfl)
     (fun _ _=>⟨t.size,Rel.new hcom.n0 hdk _ _⟩) (fun hm=>absurd hm (young (by omega))) hwg (fun _ ht _=>(hmode.counted hi (by omega) (by omega) _ _).retag ht) (fun e=>absurd e (nb (by omega))) (.inl ⟨by omega,by simp[cnt,hst]⟩)
    ·intro op hop;obtain⟨e,he,rfl⟩:=Go.Conc.mem_ofEvents hop;simp at he;subst he;exact⟨rfl,fun x hx=>by cases hx⟩
    ·intro e he x hx;simp at he;subst he;cases hx
   ·obtain⟨g',w',es,hgo,⟨hac,hev⟩,hg'⟩:=hstep w (RW.refl w)
    have htouch:∀e∈es,∀x,(MemAct.ofEvent e).touch? =some x→∃c,x.loc=.cell c∧((c.block=S.Wg∧x.kind≠.plain∧x.kind≠.said)∨c.block=C):=fun e he x hx=>by
     rcases((hev e he).1 0 "").2 x hx with⟨⟨c,h1,h2⟩,h3⟩|⟨c,h1,h2⟩|⟨h1,_⟩
     ·exact⟨c,h1,.inl ⟨h2,h3⟩⟩
     ·exact⟨c,h1,.inr h2⟩
     ·exact h1.elim
    have hblk:∀b,b≠C→w'.heap[b]? =w.heap[b]? :=hac.block;refine U9 (own':=O (i+1)) G hAr hBr ha hcs hcom hN hp hi hg hgo (fun k hk=>⟨fun b hb _ _=>hblk b (by omega),fun b hb=>hblk b (fun e=>hk (hcom.gh.dj _ _ b hb (e▸hC))),fun⟨x,y,hl⟩=>⟨x,y,hl.of_block (hblk _ (by omega))⟩,⟨hac.os,hac.output⟩⟩) (fun _ h=>h) (fun _ h=>.inl h)
     (by have:=hac.size;omega) (hblk _ (by have:=G.ch;omega)) (by rw[hle];exact .r0 hC hg') (fun op hop=>?_) (fun e he x hx=>?_) (fun e he=>(hev e he).2.2.2)
     (by rw[hde];exact deafBehind_idle (fun e he=>⟨(hev e he).2.1,(hev e he).2.2.1⟩) 0) (fun _ h=>by omega) (fun hm=>absurd hm (young (by omega))) (hwg.of_block (hblk _ (by omega)))
     (fun _ ht _=>Md.retag (by have:=hmode.same (i:=i) m' 0;rwa[hst]at this) ht) (fun e=>absurd e (nb (by omega))) (.inr ⟨hst.symm,by omega⟩)
    ·obtain⟨e,he,rfl⟩:=Go.Conc.mem_ofEvents hop;refine⟨rfl,fun x hx=>?_⟩;obtain⟨c,h1,⟨h2,h3⟩|h2⟩:=htouch e he x hx
     ·exact .inl ⟨⟨c,h1,h2▸G.wg⟩,h3⟩
     ·exact .inr (.inl ⟨by omega,c,h1,by rw[upd_same,h2];exact hC⟩)
    ·obtain⟨c,h1,⟨h2,_⟩|h2⟩:=htouch e he x hx
     ·exact⟨c,h1,by have:=hac.size;omega⟩
     ·exact⟨c,h1,by have:=hac.size;omega⟩
 | @k1 C _ _ _ hC h=>
   rcases Goes.cases h with hstop|⟨m',rfl,hstep⟩
   ·obtain⟨_,g',hgo,m₂,hk⟩:=hstop w (RW.refl w);exact book hgo (.refl S.Wg w) hwg (by intro e he;simp at he;subst he;exact .inl rfl) (by intro jx e he;exact .inl (by have:=QhR he;simp at this;subst this;rfl)) (by rw[hle];exact .d1 hC hk) rfl (by omega) (by omega)
     (hmode.counted hi (by omega) (by omega) _ _) (.inl ⟨by omega,by simp[cnt,hst]⟩)
   ·obtain⟨g',w',es,hgo,⟨rfl,rfl⟩,hg'⟩:=hstep w (RW.refl w);exact idle hgo (by rw[hle];exact .k1 hC hg') rfl (by omega) (by omega)
 | @d1 C _ _ _ hC h=>
   rcases Goes.cases h with hstop|⟨m',rfl,hstep⟩
   ·obtain⟨_,hall⟩:=hstop w (RW.refl w);have hc1:cnt (D i)=1:=by simp[cnt,hst]
    have hV1:1≤Vc j D:=by have:=le_sumTo (f:=fun x=>cnt (D x)) hi;simp only[Vc];omega
    have bk2:∀e∈#[rd (stA S.Wg),wr (stA S.Wg)],Go.ConcR.Bk S.Wg e:=by intro e he;simp at he;rcases he with rfl|rfl<;>exact bk_cell _ _ rfl
    have df2:∀jx e,(#[rd (stA S.Wg),wr (stA S.Wg)]:Array Event)[jx]? =some e→(MemAct.ofEvent e).touch? =none∨0<deafBehind 1 ((#[rd (stA S.Wg),wr (stA S.Wg)]:Array Event).extract 0 jx):=by
     intro jx e he
     match jx,he with
     |0,_=>exact .inr (by simp[deafBehind])
     |1,_=>exact .inr (by simp[deafBehind,rd])
     |jx+2,he=>simp at he
    have hq0:∀q,cnt (⟨1,q,1⟩:WD)=0:=fun _=>rfl
    have opq:∀q,Yg j D→Yg j (upd D i ⟨1,q,1⟩):=fun q h a ha=>by
     by_cases e:a=i
     ·subst e;rw[upd_same];simp
     ·rw[upd_ne D _ e];exact h a ha
    cases hmode with
    |opn h1 h2 h3=>
     obtain⟨v,hv⟩:∃v,Vc j D+tag.pend=v+1:=⟨Vc j D+tag.pend-1,by omega⟩;rw[hv]at hwg;have hw1:WgAt S.ty S.Wg w (((v:Nat)+1)*KK+((0:Nat):Int)) 0:=by simpa using hwg
     obtain⟨g',hgo,_,hq⟩:=hall v 0 (by omega) (by omega) hw1;obtain⟨q,hq⟩:=hq (by omega);have hv':Vc j (upd D i ⟨1,q,1⟩)+tag.pend=v:=by have:=Vc_upd D (⟨1,q,1⟩:WD) hi;have:=hq0 q;omega
     refine book (dd':=1) hgo (aside_setCell w (stA S.Wg) _) (hwg.setSt _) bk2 df2 (by rw[hle];exact .quit hq) rfl (by omega) (by omega) ?_ (.inl ⟨by omega,by simp[cnt]⟩);have e:((v:Nat):Int)*KK+((0:Nat):Int)=((Vc j (upd D i ⟨1,q,1⟩)+tag.pend:Nat):Int)*KK:=by rw[hv'];simp
     rw[e];exact .opn h1 (opq q h2) (fun vs ev=>by have:=h3 vs ev;omega)
    |reg h1 h2 h3=>
     obtain⟨v,hv⟩:∃v,Vc j D=v+1:=⟨Vc j D-1,by omega⟩;rw[hv]at hwg;have hw1:WgAt S.ty S.Wg w (((v:Nat)+1)*KK+((1:Nat):Int)) 0:=by simpa using hwg
     obtain⟨g',hgo,hlast,hq⟩:=hall v 1 (by omega) (by omega) hw1;rcases Nat.eq_zero_or_pos v with rfl|hpos
     ·obtain⟨m₂,hk⟩:=hlast ⟨rfl,rfl⟩;have hoth:=others_uncounted hi hv hc1
      have hoth1:∀a,a<j→a≠i→(D a).stage=1:=fun a ha e=>by
       have h5:=hoth a ha e;rcases h2 a ha with h6|h6
       ·simp[cnt,h6]at h5
       ·exact h6
      refine book (dd':=1) hgo (aside_setCell w (stA S.Wg) _) (hwg.setSt _) bk2 df2 (by rw[hle];exact .d2 hC hk) rfl (by omega) (by omega) ?_ (.inl ⟨by omega,by simp[cnt]⟩);have:=Md.last (j:=j) (D:=upd D i ⟨4,m₂,1⟩) (tag:=tag) i h1 hi (by rw[upd_same];simp) (fun a ha e=>by rw[upd_ne D _ e];exact hoth1 a ha e);rw[upd_same]at this;simpa using this
     ·obtain⟨q,hq⟩:=hq (by omega);have hv':Vc j (upd D i ⟨1,q,1⟩)=v:=by have:=Vc_upd D (⟨1,q,1⟩:WD) hi;have:=hq0 q;omega
      refine book (dd':=1) hgo (aside_setCell w (stA S.Wg) _) (hwg.setSt _) bk2 df2 (by rw[hle];exact .quit hq) rfl (by omega) (by omega) ?_ (.inl ⟨by omega,by simp[cnt]⟩);have e:((v:Nat):Int)*KK+((1:Nat):Int)=((Vc j (upd D i ⟨1,q,1⟩):Nat):Int)*KK+1:=by rw[hv'];simp
      rw[e];exact .reg h1 (opq q h2) (by omega)
    |last L' _ h2 h3 h4=>
     by_cases e:i=L'
     ·subst e;omega
     ·have:=h4 i hi e;omega
    |sema _ h2=>have:=h2 i hi;omega
    |fin _ h2=>have:=h2 i hi;omega
   ·obtain⟨g',w',es,hgo,⟨rfl,rfl⟩,hg'⟩:=hstep w (RW.refl w);exact idle hgo (by rw[hle];exact .d1 hC hg') rfl (by omega) (by omega)
 | @d2 C _ _ _ hC h=>
   rcases Goes.cases h with hstop|⟨m',rfl,hstep⟩
   ·obtain⟨_,hx⟩:=hstop w (RW.refl w);obtain⟨hW3,hoth,rfl,rfl⟩:=hmode.isLast hi (by omega);simp only[hst]at hwg;obtain⟨g',hgo,m₂,hk⟩:=hx (by simpa using hwg);refine book (dd':=1) hgo (.refl S.Wg w) hwg (by intro e he;simp at he;subst he;exact bk_cell _ _ rfl) (by intro jx e he;match jx,he with|0,_=>exact .inr (by simp[deafBehind])|jx+1,he=>simp at he) (by rw[hle];exact .d3 hC hk) rfl (by omega) (by omega) ?_ (.inl ⟨by omega,by simp[cnt]⟩);have:=Md.last (j:=j) (D:=upd D i ⟨3,m₂,1⟩) (tag:=tag) i hW3 hi (by rw[upd_same];simp) (fun a ha e=>by rw[upd_ne D _ e];exact hoth a ha e);rw[upd_same]at this;simpa using this
   ·obtain⟨g',w',es,hgo,⟨rfl,rfl⟩,hg'⟩:=hstep w (RW.refl w);exact idle hgo (by rw[hle];exact .d2 hC hg') rfl (by omega) (by omega)
 | @d3 C _ _ _ hC h=>
   rcases Goes.cases h with hstop|⟨m',rfl,hstep⟩
   ·obtain⟨_,hx⟩:=hstop w (RW.refl w);obtain⟨hW3,hoth,rfl,rfl⟩:=hmode.isLast hi (by omega);simp only[hst]at hwg;obtain⟨g',hgo,m₂,hk⟩:=hx (by simpa using hwg);refine book (dd':=1) hgo (aside_setCell w (stA S.Wg) _) (hwg.setSt 0) (by intro e he;simp at he;subst he;exact bk_cell _ _ rfl) (by intro jx e he;match jx,he with|0,_=>exact .inr (by simp[deafBehind])|jx+1,he=>simp at he) (by rw[hle];exact .d4 hC hk) rfl (by omega) (by omega) ?_ (.inl ⟨by omega,by simp[cnt]⟩);have:=Md.last (j:=j) (D:=upd D i ⟨2,m₂,1⟩) (tag:=tag) i hW3 hi (by rw[upd_same];simp) (fun a ha e=>by rw[upd_ne D _ e];exact hoth a ha e);rw[upd_same]at this;simpa using this
   ·obtain⟨g',w',es,hgo,⟨rfl,rfl⟩,hg'⟩:=hstep w (RW.refl w);exact idle hgo (by rw[hle];exact .d3 hC hg') rfl (by omega) (by omega)
 | @d4 C _ _ _ hC h=>
   rcases Goes.cases h with hstop|⟨m',rfl,hstep⟩
   ·obtain⟨_,hmw,hx⟩:=hstop w (RW.refl w);obtain⟨hW3,hoth,rfl,rfl⟩:=hmode.isLast hi (by omega);simp only[hst]at hwg;obtain⟨g',hgo,q,hq⟩:=hx (by simpa using hwg)
    have hrun':g'.status=.running:=by
     cases q with
     |zero=>exact absurd hq.2 (by decide)
     |succ q=>exact hq.elim (fun x=>absurd x.2 (by decide)) (fun x=>x.1)
    refine bookG hgo (aside_setCell w (smA S.Wg) _) (hwg.setSm 1) (es:=semEvents (smA S.Wg)) ?_ ?_ (by rw[hle];exact .quit hq) (by simp[deafBehind,semEvents]) (by omega) ?_ (fun hm=>absurd hm (young (by omega))) (fun e=>absurd e (nb (by omega))) (.inl ⟨by omega,by simp[cnt]⟩)
    ·intro e he;simp[semEvents]at he;rcases he with rfl|rfl|rfl|rfl
     ·exact .inl rfl
     ·exact bk_cell _ _ rfl
     ·exact bk_cell _ _ rfl
     ·exact .inr (.inl rfl)
    ·intro jx e he
     match jx,he with
     |0,he=>simp[semEvents]at he;subst he;exact .inl rfl
     |1,_=>exact .inr (by simp[deafBehind,semEvents])
     |2,_=>exact .inr (by simp[deafBehind,semEvents])
     |3,he=>simp[semEvents]at he;subst he;exact .inl rfl
     |jx+4,he=>simp[semEvents]at he
    ·intro tag' ht hw;have hnb:=hw hmw hrun'
     have e3:tag'=.sw∨tag'=.sem:=by
      rcases ht with rfl|⟨_,rfl⟩
      ·cases tag'<;>first|exact .inl rfl|exact .inr rfl|exact hW3.elim|exact absurd rfl hnb
      ·exact .inr rfl
     simp only[if_true]
     exact .sema e3 fun a ha=>by
      by_cases e:a=i
      ·subst e;rw[upd_same]
      ·rw[upd_ne D _ e];exact hoth a ha e
   ·obtain⟨g',w',es,hgo,⟨rfl,rfl⟩,hg'⟩:=hstep w (RW.refl w);exact idle hgo (by rw[hle];exact .d4 hC hg') rfl (by omega) (by omega)
 |quit h=>
  cases m with
  |zero=>rw[h.1]at hrun;cases hrun
  |succ q=>
   rcases h with⟨hf,_⟩|⟨_,g',es,hmute,hstep,hq⟩
   ·rw[hf]at hrun;cases hrun
   ·have hbk:∀e∈es,Go.ConcR.Bk S.Wg e:=fun e he=>bk_of_mute (hmute e he);have hnt:∀e∈es,(MemAct.ofEvent e).touch? =none:=fun e he=>touch_mute (hmute e he);refine bookG (hstep w) (.refl S.Wg w) hwg hbk (fun jx e he=>.inl (hnt e (QhR he))) (by rw[hle];exact .quit hq) rfl (by omega) (fun _ ht _=>Md.retag (by have:=hmode.same (i:=i) q (deafBehind dd es);rwa[hst]at this) ht) (fun _=>⟨rfl,hnt⟩)
     (fun e=>(hacq e).app fun i' r hi' hr=>?_) (.inr ⟨rfl,rfl⟩)
    by_cases e':i'=i
    ·subst e';exact hr.book G hdk _ _ hbk fun jx e he=>.inl (hnt e (QhR he))
    ·exact hr.other fun op hop=>by rw[g_of_ofEvents op hop];omega
end
end Co
end Go.Proofs.YtcpnkpogebjieaaGreat
