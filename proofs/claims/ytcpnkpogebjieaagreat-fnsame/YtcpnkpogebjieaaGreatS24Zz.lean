/- The crowd: a step of goroutine 0's keeps the invariant and lowers the measure, wherever -/
import Derived.Test.YtcpnkpogebjieaaGreatS23Zp
import Derived.Test.YtcpnkpogebjieaaGreatS20Zy
open Nat renaming lt_succ_self→QhR,le_refl→QhS,lt_or_ge→QhT
set_option maxHeartbeats 2000000
set_option maxRecDepth 100000
namespace Go.Proofs.YtcpnkpogebjieaaGreat
namespace Co
open Go.Conc Go.ConcN
open Go.ConcR (KK wgBlock WgAt stA smA rd wr mk Payload Aside2 DC0 Bk g_of_ofEvents again_blocked ofEvent_loc_mark bk_of_mute)
theorem VM (N v s bd:Nat)(rest:List (List Value))(pend:Nat):ph2 N v (.st s bd rest pend)=s+bd+8*N+20:=rfl
theorem Qfe {a b c:Nat×Nat}(h:Lt2 a b)(k:Lt2 b c):Lt2 a c:=by
 cases h<;>cases k
 ·exact Prod.Lex.left _ _ (Nat.lt_trans ‹_› ‹_›)
 ·exact Prod.Lex.left _ _ ‹_›
 ·exact Prod.Lex.left _ _ ‹_›
 ·exact Prod.Lex.right _ (Nat.lt_trans ‹_› ‹_›)
section
variable [Payload] {S:Ph} {Anch Bk:Goroutine→World→Prop} {w0:World} {cap:Nat} {All:List Value} {N:Nat} {gs:Array Goroutine} {w w':World} {sl:Option (Nat×Nat)} {j:Nat} {D:Nat→WD} {O:Nat→List Nat} {L:Nat→List Value}
 {tag:Tg} {f0 d0:Nat} {a:Goroutine} {t:Trace} {st sm:Int}
theorem Com.get_same0 {rest:List (List Value)}(h:Com S w0 cap All j gs w t D O L rest d0)(x g g':Goroutine)(w':World):∀k,k<j→((gs.map (woken S.P g g' w')).setIfInBounds 0 x)[k+1]? =gs[k+1]? :=by
 intro k hk;obtain⟨y,hy,hs⟩:=h.wk k hk;rw[get_map_set _ _ _ _ (by omega),hy,Option.map_some,hs.woken]
theorem Yj (G:Geo S)(ha:gs[0]? =some a)(hcom:Com S w0 cap All j gs w t D O L tag.rest d0)(hN:Vc j D+tag.rest.length≤N)
 {a':Goroutine}{es:Array Event}{own':List Nat}{tag':Tg}{f' d':Nat}{st' sm':Int}(hgo:stepG S.P true a w=.go a' w' es)
 (hrk:∀k,k≠0→RK S (O k) w w')(hlow:∀b,b<S.Low→b≠S.Wg→b≠S.Ch→w'.heap[b]? =w.heap[b]?)(hsub:∀b,b∈O 0→b∈own')(hown:∀b,b∈own'→b∈O 0∨(b=w.heap.size∧w.heap.size<w'.heap.size))(hsz:w.heap.size≤w'.heap.size)
 (hch:w'.heap[S.Ch]? =w.heap[S.Ch]?)
 (hok:∀e∈es,∀x,(MemAct.ofEvent e).touch? =some x→∃c,x.loc=.cell c∧c.block<w'.heap.size∧((S.SB c.block∧x.kind≠.plain)∨(¬S.SB c.block∧(∀k,1≤k→c.block∉O k)∧(x.write=true→S.Low≤c.block))))
 (hnr:∀e∈es,e.loc≠.mark (.release (stA S.Wg)))(hdeaf:deafBehind d0 es=d')
 (hcs':CSt S Anch Bk tag' own' f' d' a' w')(hwg:WgAt S.ty S.Wg w' st' sm')(hmode:Md j D tag' st' sm')(hrest:tag'.rest=tag.rest)(hp:tag'.pend≤1)
 (hacq:tag'=.bk→JL S j (t++MemOp.ofEvents 0 a.frame.fn a.frame.place es))
 (hlt:ph2 N (Vc j D) tag'<ph2 N (Vc j D) tag∨(ph2 N (Vc j D) tag'=ph2 N (Vc j D) tag∧f'<f0)):
 ∃m₁ ops μ',runT S.P (crowd gs w sl) 0=(.next m₁,ops)∧Lt2 μ' (ph2 N (Vc j D) tag+Ssum j D,f0+2*Fsum j D)∧Inv S Anch Bk w0 cap All N μ' m₁ (t++ops):=by
 have hrun:=runT_crowd_go (P:=S.P) (sl:=sl) (i:=0) ha (by simpa using hgo);have hof:∀op∈MemOp.ofEvents 0 a.frame.fn a.frame.place es,∃e∈es,op={g:=0,fn:=a.frame.fn,pos:=a.frame.place,act:=.ofEvent e}:=fun op hop=>Go.Conc.mem_ofEvents hop;have hcom':=hcom.step0 (gs':=(gs.map (woken S.P a a' w')).setIfInBounds 0 a') (w':=w') (u:=MemOp.ofEvents 0 a.frame.fn a.frame.place es) (d':=d') G (by simp[hcom.size]) (hcom.get_same0 a' a a' w') hrk hlow hsub hown hsz hch g_of_ofEvents
  (fun op hop=>by
    obtain⟨e,he,rfl⟩:=hof op hop;refine⟨rfl,fun x hx=>?_⟩;obtain⟨c,h1,_,⟨h3,h4⟩|⟨h3,h4,h5⟩⟩:=hok e he x hx
    ·exact .inl ⟨⟨c,h1,h3⟩,h4⟩
    ·refine .inr ⟨fun⟨c',e',h6⟩=>?_,fun k k1 _ ⟨_,c',e',h6⟩=>?_,fun hw k k1 _ ⟨_,c',e',h6,_⟩=>?_⟩
     ·rw[h1]at e';cases e';exact h3 h6
     ·rw[h1]at e';cases e';rw[upd_ne O _ (by omega)]at h6;exact h4 k k1 h6
     ·rw[h1]at e';cases e';have:=h5 hw;omega)
  (fun op hop x hx=>by obtain⟨e,he,rfl⟩:=hof op hop;obtain⟨c,h1,h2,_⟩:=hok e he x hx;exact⟨c,h1,h2⟩) (norel_of hnr) (by rw[Deaf_own,hcom.deaf0];exact hdeaf)
 refine⟨_,_,_,hrun,?_,_,w',sl,j,D,upd O 0 own',L,tag',f',d',a',st',sm',rfl,get_map_set_same _ _ _ (by rw[hcom.size];omega),by rw[upd_same];exact hcs',by rw[hrest];exact hcom',hwg,hmode,by rw[hrest];exact hN,hp,hacq,rfl⟩;rcases hlt with h|⟨h1,h2⟩
 ·exact Prod.Lex.left _ _ (by omega)
 ·rw[h1];exact Prod.Lex.right _ (by omega)
theorem JN.toC {s bd pend d:Nat}{own:List Nat}{rest:List (List Value)}{g:Goroutine}(h:JN S Anch s bd own rest pend d g w):
 ∃tag' f',CSt S Anch Bk tag' own f' d g w∧tag'.rest=rest∧tag'.pend=pend∧YU tag'∧(∀vs,tag'≠.cas vs)∧tag'≠.bk∧∀N v,ph2 N v tag'+1≤s+bd+8*N+20:=by
 cases s with
 |zero=>
  obtain⟨rfl,rfl,rfl,n,hg⟩:=h;exact⟨.kd,n,.kd hg,rfl,rfl,trivial,by simp,by simp,fun N v=>by simp only[ph2];omega⟩
 |succ s=>
  obtain⟨m,hg⟩:=h;exact⟨.st s bd rest pend,m,.st hg,rfl,rfl,trivial,by simp,by simp,fun N v=>by simp only[ph2];omega⟩
omit [Payload]in
theorem Md.open {tag':Tg}(h:Md j D tag st sm)(ho:YU tag)(hp:tag'.pend=tag.pend)(ho':YU tag')(hn:∀vs,tag'≠.cas vs):Md j D tag' st sm:=by
 cases h with
 |opn h1 h2 h3=>rw[←hp];exact .opn ho' h2 fun vs e=>absurd e (hn vs)
 |reg h1=>cases tag<;>simp_all[YU,UV]
 |last L h1=>cases tag<;>simp_all[YU,UV]
 |sema h1=>rcases h1 with rfl|rfl<;>exact ho.elim
 |fin h1=>cases tag<;>simp_all[YU,Qaa]
omit [Payload]in
theorem Qcb {j:Nat}{D:Nat→WD}(ho:Yg j D)(hv:Vc j D=0):AllQuit j D:=fun i hi=>by
 rcases ho i hi with h|h
 ·have h1:=le_sumTo (f:=fun x=>cnt (D x)) hi;have h2:cnt (D i)=1:=by simp[cnt,h]
  simp only[Vc]at hv;omega
 ·exact h
omit [Payload]in
theorem Y1 (G:Geo S){es:Array Event}{n:Nat}(hn:S.Wg<n)(h:∀e∈es,Go.ConcR.Bk S.Wg e):∀e∈es,∀x,(MemAct.ofEvent e).touch? =some x→∃c,x.loc=.cell c∧c.block<n∧((S.SB c.block∧x.kind≠.plain)∨(¬S.SB c.block∧(∀k,1≤k→c.block∉O k)∧(x.write=true→S.Low≤c.block))):=by
 intro e he x hx;rcases h e he with h1|h1|⟨c,wr,rfl,hc⟩
 ·rw[ofEvent_loc_mark h1]at hx;cases hx
 ·rw[ofEvent_loc_mark h1]at hx;cases hx
 ·simp only[ofEvent_cell0,MemAct.touch?,Option.some.injEq]at hx;subst hx;exact⟨c,rfl,by omega,.inl ⟨hc▸G.wg,by simp⟩⟩
omit [Payload]in
theorem UY (G:Geo S){n:Nat}(hn:S.Wg<n){m:Mark}(h:m=.disable∨m=.enable∨m=.read (smA S.Wg)∨m=.write (smA S.Wg)∨m=.acquire (stA S.Wg)):∀e∈#[mk m],∀x,(MemAct.ofEvent e).touch? =some x→∃c,x.loc=.cell c∧c.block<n∧((S.SB c.block∧x.kind≠.plain)∨(¬S.SB c.block∧(∀k,1≤k→c.block∉O k)∧(x.write=true→S.Low≤c.block))):=by
 intro e he x hx;simp only[List.mem_toArray,List.mem_cons,List.not_mem_nil,or_false]at he;subst he;rcases h with rfl|rfl|rfl|rfl|rfl<;>simp only[mk,MemAct.ofEvent,MemAct.touch?,Option.some.injEq,reduceCtorEq]at hx
 ·subst hx;exact⟨smA S.Wg,rfl,hn,.inl ⟨G.wg,by simp⟩⟩
 ·subst hx;exact⟨smA S.Wg,rfl,hn,.inl ⟨G.wg,by simp⟩⟩
omit [Payload]in
theorem UX {m:Mark}(h:m=.disable∨m=.enable∨m=.read (smA S.Wg)∨m=.write (smA S.Wg)∨m=.acquire (stA S.Wg)):∀e∈#[mk m],e.loc≠.mark (.release (stA S.Wg)):=by
 intro e he;simp only[List.mem_toArray,List.mem_cons,List.not_mem_nil,or_false]at he;subst he;rcases h with rfl|rfl|rfl|rfl|rfl<;>simp[mk]
def Vh (S:Ph)(Anch Bk:Goroutine→World→Prop)(w0:World)(cap:Nat)(All:List Value)(N:Nat)(gs:Array Goroutine)(w:World)(sl:Option (Nat×Nat))(t:Trace)(μ:Nat×Nat):Prop:=
 ∃m₁ ops μ',runT S.P (crowd gs w sl) 0=(.next m₁,ops)∧Lt2 μ' μ∧Inv S Anch Bk w0 cap All N μ' m₁ (t++ops)
theorem Qbd (G:Geo S)(hN2:N<1000000)(ha:gs[0]? =some a)(hcs:CSt S Anch Bk .w1 (O 0) f0 d0 a w)(hcom:Com S w0 cap All j gs w t D O L [] d0)(hwg:WgAt S.ty S.Wg w st sm)(hmode:Md j D .w1 st sm)(hN:Vc j D≤N):
 Vh S Anch Bk w0 cap All N gs w sl t (ph2 N (Vc j D) .w1+Ssum j D,f0+2*Fsum j D):=by
 have hWL:S.Wg<w.heap.size:=by have:=G.sb _ G.wg;have:=hcom.big;omega
 cases hcs with
 |w1 h=>
  cases hmode with
  |opn h1 h2 h3=>
   rcases Goes.cases h with hstop|⟨m',rfl,hstep⟩
   ·obtain⟨_,hall⟩:=hstop w id;obtain⟨g',hgo,hz,hnz⟩:=hall (Vc j D) (by omega) (by simpa[Tg.pend]using hwg);have bk1:∀e∈#[rd (stA S.Wg)],Go.ConcR.Bk S.Wg e:=by intro e he;simp at he;subst he;exact bk_cell _ _ rfl
    by_cases hv:Vc j D=0
    ·obtain⟨n,hk⟩:=hz hv;exact Yj (tag:=.w1) (own':=O 0) (tag':=.ke) G ha hcom hN hgo (fun k _=>RK.refl S _ _) (fun _ _ _ _=>rfl) (fun _ h=>h) (fun _ h=>.inl h) (QhS _) rfl (Y1 G hWL bk1) (norel_of_Bk bk1) (d':=1) rfl (.ke hk) hwg
      (by simp only[Tg.pend,hv];exact .fin trivial (Qcb h2 hv)) rfl (by simp[Tg.pend]) (by simp) (.inl (by simp only[ph2];omega))
    ·obtain⟨n,hk⟩:=hnz hv;exact Yj (tag:=.w1) (own':=O 0) (tag':=.cas (Vc j D)) G ha hcom hN hgo (fun k _=>RK.refl S _ _) (fun _ _ _ _=>rfl) (fun _ h=>h) (fun _ h=>.inl h) (QhS _) rfl (Y1 G hWL bk1) (norel_of_Bk bk1) (d':=1) rfl (.cas hk) hwg
      (.opn trivial h2 fun vs e=>by cases e;exact⟨QhS _,by omega⟩) rfl (by simp[Tg.pend]) (by simp) (.inl (by simp only[ph2];omega))
   ·obtain⟨g',w',es,hgo,⟨rfl,rfl⟩,hg'⟩:=hstep w id;exact Yj (tag:=.w1) (own':=O 0) (tag':=.w1) G ha hcom hN hgo (fun k _=>RK.refl S _ _) (fun _ _ _ _=>rfl) (fun _ h=>h) (fun _ h=>.inl h) (QhS _) rfl (by simp) (by simp) rfl (.w1 hg') hwg (.opn h1 h2 h3) rfl (by simp[Tg.pend]) (by simp) (.inr ⟨rfl,by omega⟩)
  |reg h1=>exact h1.elim
  |last _ h1=>exact h1.elim
  |sema h1=>simp at h1
  |fin h1=>exact h1.elim
theorem QgU (G:Geo S)(hAn:∀g w,Anch g w→Sil S.P S.ty S.Wg (J4 S.P S.ty S.Wg Anch Bk) g w)(hN2:N<1000000)
 (ha:gs[0]? =some a)(hcs:CSt S Anch Bk tag (O 0) f0 d0 a w)(hcom:Com S w0 cap All j gs w t D O L tag.rest d0)(hwg:WgAt S.ty S.Wg w st sm)(hmode:Md j D tag st sm)(hN:Vc j D+tag.rest.length≤N)(hp:tag.pend≤1)
 (hacq:tag=.bk→JL S j t)(hrun:a.status=.running):
 (tag=.bk∧Bk a w)∨Vh S Anch Bk w0 cap All N gs w sl t (ph2 N (Vc j D) tag+Ssum j D,f0+2*Fsum j D):=by
 have hWl:S.Wg<S.Low:=G.sb _ G.wg;have hWL:S.Wg<w.heap.size:=by have:=hcom.big;omega
 have bk1:∀e∈#[rd (stA S.Wg)],Go.ConcR.Bk S.Wg e:=by intro e he;simp at he;subst he;exact bk_cell _ _ rfl
 have bk2:∀e∈#[rd (stA S.Wg),wr (stA S.Wg)],Go.ConcR.Bk S.Wg e:=by intro e he;simp at he;rcases he with rfl|rfl<;>exact bk_cell _ _ rfl
 have bk4:∀e∈semEvents (smA S.Wg),Go.ConcR.Bk S.Wg e:=by
  intro e he;simp[semEvents]at he;rcases he with rfl|rfl|rfl|rfl
  ·exact .inl rfl
  ·exact bk_cell _ _ rfl
  ·exact bk_cell _ _ rfl
  ·exact .inr (.inl rfl)
 have rkA:∀ {w':World},Aside S.Wg w w'→WgLive S.ty S.Wg w'→∀k,k≠0→RK S (O k) w w':=fun hAs hl k _=>⟨fun b _ h1 _=>hAs.block b h1,fun b hb=>hAs.block b (by have:=(hcom.gh.ow k b hb).1;omega),fun _=>hl,⟨hAs.os,hAs.output⟩⟩
 have quiet:∀ {a':Goroutine} {es:Array Event} {tag':Tg} {f' d':Nat} {st' sm':Int},stepG S.P true a w=.go a' w es→
  (∀e∈es,∀x,(MemAct.ofEvent e).touch? =some x→∃c,x.loc=.cell c∧c.block<w.heap.size∧((S.SB c.block∧x.kind≠.plain)∨(¬S.SB c.block∧(∀k,1≤k→c.block∉O k)∧(x.write=true→S.Low≤c.block))))→
  (∀e∈es,e.loc≠.mark (.release (stA S.Wg)))→deafBehind d0 es=d'→CSt S Anch Bk tag' (O 0) f' d' a' w→WgAt S.ty S.Wg w st' sm'→Md j D tag' st' sm'→tag'.rest=tag.rest→tag'.pend≤1→
  (tag'=.bk→JL S j (t++MemOp.ofEvents 0 a.frame.fn a.frame.place es))→(ph2 N (Vc j D) tag'<ph2 N (Vc j D) tag∨(ph2 N (Vc j D) tag'=ph2 N (Vc j D) tag∧f'<f0))→
  Vh S Anch Bk w0 cap All N gs w sl t (ph2 N (Vc j D) tag+Ssum j D,f0+2*Fsum j D):=
  fun hgo hok hnr hd hcs' hwg' hm' hr' hp' hq' hlt=>Yj (own':=O 0) G ha hcom hN hgo (fun k _=>RK.refl S _ _) (fun _ _ _ _=>rfl) (fun _ h=>h) (fun _ h=>.inl h) (QhS _) rfl hok hnr hd hcs' hwg' hm' hr' hp' hq' hlt
 cases hcs with
 | @st s bd pend m _ _ rest _ _ h=>
   refine .inr ?_;rcases Goes.cases h with hstop|⟨m',rfl,hstep⟩
   ·obtain⟨_,hturn|⟨x,g',hx,hgo,hnext⟩|⟨rfl,hall⟩|⟨rfl,rfl,g',child,bs,own',l,rest',sW,bd',rfl,rfl,hbs,hown,hdj,hgo,hW,hnext⟩⟩:=hstop w (RK.refl S _ w)
    ·obtain⟨g',w',es,hgo,own',ht,hev,hnext⟩:=goes_elim hturn;obtain⟨tag',f',hcs',hr',hp',ho',hn',hb',hph⟩:=hnext.toC (Bk:=Bk);obtain⟨hrk,hlow,hsub,hown,hsz,hin⟩:=hcom.turn G ht;refine Yj (own':=own') (tag':=tag') G ha hcom hN hgo hrk (fun b hb _ _=>hlow b hb) hsub hown hsz (hlow _ G.ch) (fun e he x hx=>?_) (fun e he=>(Up (hev e he)).2.2 _)
      (deafBehind_idle (fun e he=>⟨(Up (hev e he)).1,(Up (hev e he)).2.1⟩) _) hcs' (hwg.of_block (hlow _ hWl)) (hmode.open trivial hp' ho' hn') hr' (by rw[hp'];exact hp) (fun e=>absurd e hb') (.inl (by have:=hph N (Vc j D);rw[VM];omega))
     obtain⟨c,h1,h2,h3|⟨h3,h4⟩⟩:=KQ (hev e he) hx
     ·refine⟨c,h1,hin _ h3,.inr ⟨h2,fun k k1 hk=>?_,fun _=>?_⟩⟩
      ·rcases hown _ h3 with h5|⟨h5,_⟩
       ·have:=hcom.gh.dj _ _ _ h5 hk;omega
       ·have:=(hcom.gh.ow k _ hk).2;omega
      ·rcases hown _ h3 with h5|⟨h5,_⟩
       ·exact(hcom.gh.ow 0 _ h5).1
       ·have:=hcom.big;omega
     ·refine⟨c,h1,by have:=hcom.big;omega,.inr ⟨h2,fun k k1 hk=>?_,fun h5=>?_⟩⟩
      ·have:=(hcom.gh.ow k _ hk).1;omega
      ·rw[h4]at h5;cases h5
    ·obtain⟨tag',f',hcs',hr',hp',ho',hn',hb',hph⟩:=hnext.toC (Bk:=Bk);have hx':x=.disable∨x=.enable∨x=.read (smA S.Wg)∨x=.write (smA S.Wg)∨x=.acquire (stA S.Wg):=by rcases hx with h|h|h<;>simp[h]
     exact quiet hgo (UY G hWL hx') (UX hx') rfl hcs' hwg (hmode.open trivial hp' ho' hn') hr' (by rw[hp'];exact hp) (fun e=>absurd e hb') (.inl (by have:=hph N (Vc j D);rw[VM];omega))
    ·cases hmode with
     |opn h1 h2 h3=>
      have hw1:WgAt S.ty S.Wg w (((Vc j D:Nat):Int)*KK) 0:=by simpa[Tg.pend]using hwg
      obtain⟨g',hgo,hnext⟩:=hall (Vc j D) (by omega) hw1;obtain⟨tag',f',hcs',hr',hp',ho',hn',hb',hph⟩:=hnext.toC (Bk:=Bk);have hAs:=aside_setCell w (stA S.Wg) (.int .u64 (((Vc j D+1:Nat):Int)*KK));have hwg':=hw1.setSt (((Vc j D+1:Nat):Int)*KK);refine Yj (own':=O 0) (tag':=tag') G ha hcom hN hgo (rkA hAs ⟨_,_,hwg'⟩) (fun b _ hb _=>hAs.block b hb) (fun _ h=>h) (fun _ h=>.inl h) (by have:=hAs.size;omega) (hAs.block _ G.ne) (Y1 G (by have:=hAs.size;omega) bk2) (norel_of_Bk bk2) rfl hcs' hwg' ?_ hr' (by rw[hp'];exact QhS _) (fun e=>absurd e hb') (.inl (by have:=hph N (Vc j D);rw[VM];omega));have:=Md.opn (j:=j) (D:=D) (tag:=tag') ho' h2 fun vs e=>absurd e (hn' vs);rw[hp']at this;exact this
     |reg h1=>exact h1.elim
     |last _ h1=>exact h1.elim
     |sema h1=>simp at h1
     |fin h1=>exact h1.elim
    ·
     obtain⟨tag',f',hcs',hr',hp',ho',hn',hb',hph⟩:=hnext.toC (Bk:=Bk);obtain⟨mW,hWs⟩:=hW.toSt;have hrun':=runT_crowd_spawn (P:=S.P) (sl:=sl) (i:=0) ha (by simpa using hgo);have hcom':=hcom.spawn (a':=g') (child:=child) (x:={g:=0,fn:=a.frame.fn,pos:=a.frame.place,act:=.go gs.size}) (y:={g:=gs.size,fn:=child.frame.fn,pos:=a.frame.place,act:=.start}) G ⟨rfl,by rw[hcom.size]⟩ ⟨hcom.size,rfl⟩ hbs hown hdj hWs (by omega)
     have eu:((MemOp.ofEvents 0 a.frame.fn a.frame.place #[]).push {g:=0,fn:=a.frame.fn,pos:=a.frame.place,act:=.go gs.size}).push {g:=gs.size,fn:=child.frame.fn,pos:=a.frame.place,act:=.start}=
      #[{g:=0,fn:=a.frame.fn,pos:=a.frame.place,act:=.go gs.size},{g:=gs.size,fn:=child.frame.fn,pos:=a.frame.place,act:=.start}]:=by rw[ofEvents_eq];simp
     rw[eu]at hrun'
     have eV:Vc (j+1) (upd D j ⟨sW+7,mW,0⟩)=Vc j D+1:=by
      simp only[Vc,sumTo,upd_same];rw[sumTo_congr (g:=fun i=>cnt (D i)) fun i hi=>by rw[upd_ne D _ (by omega)]];simp[cnt]
     have eS:Ssum (j+1) (upd D j ⟨sW+7,mW,0⟩)=Ssum j D+(sW+7):=by
      simp only[Ssum,sumTo,upd_same];rw[sumTo_congr (g:=fun i=>(D i).stage) fun i hi=>by rw[upd_ne D _ (by omega)]]
     refine⟨_,_,_,hrun',?_,_,w,sl,j+1,upd D j ⟨sW+7,mW,0⟩,upd (upd O (j+1) bs) 0 own',upd L j l,tag',f',0,g',st,sm,rfl,?_,by rw[upd_same];exact hcs',by rw[hr'];exact hcom',hwg,?_,?_,by rw[hp'];omega,fun e=>absurd e hb',rfl⟩
     ·refine Prod.Lex.left _ _ ?_;rw[eV,eS];have:=hph N (Vc j D+1);rw[VM];omega
     ·rw[Array.getElem?_push_lt (by simp[hcom.size]),←Array.getElem?_eq_getElem];exact Array.getElem?_setIfInBounds_self_of_lt (by rw[hcom.size];omega)
     ·cases hmode with
      |opn h1 h2 h3=>
       have:=Md.opn (j:=j+1) (D:=upd D j ⟨sW+7,mW,0⟩) (tag:=tag') ho' (fun i hi=>by
        by_cases e:i=j
        ·subst e;rw[upd_same];left;simp only;omega
        ·rw[upd_ne D _ e];exact h2 i (by omega)) fun vs e=>absurd e (hn' vs)
       rw[hp',eV]at this;simpa[Tg.pend]using this
      |reg h1=>exact h1.elim
      |last _ h1=>exact h1.elim
      |sema h1=>simp at h1
      |fin h1=>exact h1.elim
     ·rw[eV,hr'];simp only[Tg.rest,List.length_cons]at hN;omega
   ·obtain⟨g',w',es,hgo,⟨rfl,rfl⟩,hg'⟩:=hstep w (RK.refl S _ w);exact quiet (tag':=.st s bd rest pend) hgo (by simp) (by simp) rfl (.st hg') hwg hmode rfl hp (by simp) (.inr ⟨rfl,by omega⟩)
 |kd h=>
  refine .inr ?_;rcases Goes.cases h with hstop|⟨m',rfl,hstep⟩
  ·obtain⟨_,g',hgo,n,hk⟩:=hstop w id;exact quiet (tag':=.anch) hgo (UY G hWL (by simp)) (UX (by simp)) (d':=1) rfl (.anch hk) hwg (hmode.open trivial rfl trivial (by simp)) rfl (by simp[Tg.pend]) (by simp) (.inl (by simp only[ph2];omega))
  ·obtain⟨g',w',es,hgo,⟨rfl,rfl⟩,hg'⟩:=hstep w id;exact quiet (tag':=.kd) hgo (by simp) (by simp) rfl (.kd hg') hwg hmode rfl hp (by simp) (.inr ⟨rfl,by omega⟩)
 |anch h=>
  refine .inr ?_;rcases Goes.cases h with hstop|⟨m',rfl,hstep⟩
  ·obtain⟨n,hk⟩:=hAn a w (hstop w id);obtain⟨m₁,ops,μ',h1,h2,h3⟩:=Qbd (sl:=sl) (f0:=n) G hN2 ha (.w1 hk) hcom hwg (hmode.open trivial rfl trivial (by simp)) (by simpa[Tg.rest]using hN);exact⟨m₁,ops,μ',h1,Qfe h2 (Prod.Lex.left _ _ (by simp only[ph2];omega)),h3⟩
  ·obtain⟨g',w',es,hgo,⟨rfl,rfl⟩,hg'⟩:=hstep w id;exact quiet (tag':=.anch) hgo (by simp) (by simp) rfl (.anch hg') hwg hmode rfl hp (by simp) (.inr ⟨rfl,by omega⟩)
 |w1 h=>exact .inr (Qbd G hN2 ha (.w1 h) hcom hwg hmode (by simpa[Tg.rest]using hN))
 | @cas vs m _ _ _ h=>
   refine .inr ?_;rcases Goes.cases h with hstop|⟨m',rfl,hstep⟩
   ·obtain⟨_,hall⟩:=hstop w id
    cases hmode with
    |opn h1 h2 h3=>
     have hw1:WgAt S.ty S.Wg w (((Vc j D:Nat):Int)*KK) 0:=by simpa[Tg.pend]using hwg
     obtain⟨hv1,hv2⟩:=h3 vs rfl;obtain⟨hhit,hmiss⟩:=hall (Vc j D) (by omega) hw1;by_cases hv:Vc j D=vs
     ·obtain⟨g',hgo,n,hk⟩:=hhit hv;have hAs:=aside_setCell w (stA S.Wg) (.int .u64 (((Vc j D:Nat):Int)*KK+1));have hwg':=hw1.setSt (((Vc j D:Nat):Int)*KK+1);exact Yj (own':=O 0) (tag':=.sw) G ha hcom hN hgo (rkA hAs ⟨_,_,hwg'⟩) (fun b _ hb _=>hAs.block b hb) (fun _ h=>h) (fun _ h=>.inl h) (by have:=hAs.size;omega) (hAs.block _ G.ne) (Y1 G (by have:=hAs.size;omega) bk2) (norel_of_Bk bk2) (d':=1) rfl (.sw hk) hwg'
       (.reg trivial h2 (by omega)) rfl (by simp[Tg.pend]) (by simp) (.inl (by simp only[ph2];omega))
     ·obtain⟨g',hgo,n,hk⟩:=hmiss hv;exact quiet (tag':=.anch) hgo (Y1 G hWL bk1) (norel_of_Bk bk1) (d':=1) rfl (.anch hk) hwg (.opn trivial h2 (by simp)) rfl (by simp[Tg.pend]) (by simp) (.inl (by simp only[ph2];omega))
    |reg h1=>exact h1.elim
    |last _ h1=>exact h1.elim
    |sema h1=>simp at h1
    |fin h1=>exact h1.elim
   ·obtain⟨g',w',es,hgo,⟨rfl,rfl⟩,hg'⟩:=hstep w id;exact quiet (tag':=.cas vs) hgo (by simp) (by simp) rfl (.cas hg') hwg hmode rfl hp (by simp) (.inr ⟨rfl,by omega⟩)
 |sw h=>
  refine .inr ?_;rcases Goes.cases h with hstop|⟨m',rfl,hstep⟩
  ·obtain⟨_,g',hgo,n,hk⟩:=hstop w id;refine quiet (tag':=.sem) hgo (UY G hWL (by simp)) (UX (by simp)) (d':=1) rfl (.sem hk) hwg ?_ rfl (by simp[Tg.pend]) (by simp) (.inl (by simp only[ph2];omega))
   cases hmode with
   |opn h1=>exact h1.elim
   |reg h1 h2 h3=>exact .reg trivial h2 h3
   |last Lx h1 h2 h3 h4=>exact .last Lx trivial h2 h3 h4
   |sema h1 h2=>exact .sema (.inr rfl) h2
   |fin h1=>exact h1.elim
  ·obtain⟨g',w',es,hgo,⟨rfl,rfl⟩,hg'⟩:=hstep w id;exact quiet (tag':=.sw) hgo (by simp) (by simp) rfl (.sw hg') hwg hmode rfl hp (by simp) (.inr ⟨rfl,by omega⟩)
 | @sem m _ _ _ h=>
   refine .inr ?_;rcases Goes.cases h with hstop|⟨m',rfl,hstep⟩
   ·obtain⟨_,hoff,hblk,htake⟩:=hstop w id
    have blocks:(∃s,WgAt S.ty S.Wg w s 0)→Md j D .blk st sm→Vh S Anch Bk w0 cap All N gs w sl t (ph2 N (Vc j D) .sem+Ssum j D,m+1+2*Fsum j D):=fun h1 h2=>
     quiet (tag':=.blk) (hblk h1) (by simp) (by simp) rfl (.blk hstop) hwg h2 rfl (by simp[Tg.pend]) (by simp) (.inr ⟨rfl,by omega⟩)
    cases hmode with
    |opn h1=>exact h1.elim
    |reg h1 h2 h3=>exact blocks ⟨_,hwg⟩ (.reg trivial h2 h3)
    |last Lx h1 h2 h3 h4=>exact blocks ⟨_,hwg⟩ (.last Lx trivial h2 h3 h4)
    |sema h1 h2=>
     obtain⟨g',hgo,n,hk⟩:=htake hwg;have hAs:=aside_setCell w (smA S.Wg) (.int .u32 0);have hwg':=hwg.setSm 0;exact Yj (own':=O 0) (tag':=.w4) G ha hcom hN hgo (rkA hAs ⟨_,_,hwg'⟩) (fun b _ hb _=>hAs.block b hb) (fun _ h=>h) (fun _ h=>.inl h) (by have:=hAs.size;omega) (hAs.block _ G.ne) (Y1 G (by have:=hAs.size;omega) bk4) (norel_of_Bk bk4) (d':=1) (by simp[deafBehind,semEvents]) (.w4 hk) hwg'
      (.fin trivial h2) rfl (by simp[Tg.pend]) (by simp) (.inl (by simp only[ph2];omega))
    |fin h1=>exact h1.elim
   ·obtain⟨g',w',es,hgo,⟨rfl,rfl⟩,hg'⟩:=hstep w id;exact quiet (tag':=.sem) hgo (by simp) (by simp) rfl (.sem hg') hwg hmode rfl hp (by simp) (.inr ⟨rfl,by omega⟩)
 |blk h=>cases hrun
 |w4 h=>
  refine .inr ?_
  cases hmode with
  |opn h1=>exact h1.elim
  |reg h1=>exact h1.elim
  |last _ h1=>exact h1.elim
  |sema h1=>simp at h1
  |fin h1 h2=>
   rcases Goes.cases h with hstop|⟨m',rfl,hstep⟩
   ·obtain⟨_,hx⟩:=hstop w id;obtain⟨g',hgo,n,hk⟩:=hx hwg;exact quiet (tag':=.ke) hgo (Y1 G hWL bk1) (norel_of_Bk bk1) (d':=1) rfl (.ke hk) hwg (.fin trivial h2) rfl (by simp[Tg.pend]) (by simp) (.inl (by simp only[ph2];omega))
   ·obtain⟨g',w',es,hgo,⟨rfl,rfl⟩,hg'⟩:=hstep w id;exact quiet (tag':=.w4) hgo (by simp) (by simp) rfl (.w4 hg') hwg (.fin h1 h2) rfl hp (by simp) (.inr ⟨rfl,by omega⟩)
 |ke h=>
  refine .inr ?_
  cases hmode with
  |opn h1=>exact h1.elim
  |reg h1=>exact h1.elim
  |last _ h1=>exact h1.elim
  |sema h1=>simp at h1
  |fin h1 h2=>
   rcases Goes.cases h with hstop|⟨m',rfl,hstep⟩
   ·obtain⟨_,g',hgo,n,hk⟩:=hstop w id;exact quiet (tag':=.acq) hgo (UY G hWL (by simp)) (UX (by simp)) (d':=0) rfl (.acq hk) hwg (.fin trivial h2) rfl (by simp[Tg.pend]) (by simp) (.inl (by simp only[ph2];omega))
   ·obtain⟨g',w',es,hgo,⟨rfl,rfl⟩,hg'⟩:=hstep w id;exact quiet (tag':=.ke) hgo (by simp) (by simp) rfl (.ke hg') hwg (.fin h1 h2) rfl hp (by simp) (.inr ⟨rfl,by omega⟩)
 |acq h=>
  refine .inr ?_
  cases hmode with
  |opn h1=>exact h1.elim
  |reg h1=>exact h1.elim
  |last _ h1=>exact h1.elim
  |sema h1=>simp at h1
  |fin h1 h2=>
   rcases Goes.cases h with hstop|⟨m',rfl,hstep⟩
   ·obtain⟨_,g',hgo,n,hk⟩:=hstop w id;refine quiet (tag':=.bk) hgo (UY G hWL (by simp)) (UX (by simp)) (d':=0) rfl (.bk hk) hwg (.fin trivial h2) rfl (by simp[Tg.pend]) (fun _=>?_) (.inl (by simp only[ph2];omega));have e1:MemOp.ofEvents 0 a.frame.fn a.frame.place #[mk (.acquire (stA S.Wg))]=#[{g:=0,fn:=a.frame.fn,pos:=a.frame.place,act:=.mark (.acquire (stA S.Wg))}]:=by rw[ofEvents_eq];simp[mk,MemAct.ofEvent]
    have hy:(t++MemOp.ofEvents 0 a.frame.fn a.frame.place #[mk (.acquire (stA S.Wg))])[t.size]? =some {g:=0,fn:=a.frame.fn,pos:=a.frame.place,act:=.mark (.acquire (stA S.Wg))}:=by rw[e1];simp
    refine⟨t.size,by rw[act?_of hy],by simp[Trace.g?,hy],⟨0,by simp[Trace.g?,hy],by rw[deaf_old (QhS _)];exact hcom.deaf0⟩,fun i hi hm=>?_⟩;obtain⟨r,hr⟩:=hcom.rel i hi hm (by rw[h2 i hi];omega);exact⟨r,hr.other fun op hop=>by rw[g_of_ofEvents op hop];omega,lt_of_act? hr.said.act⟩
   ·obtain⟨g',w',es,hgo,⟨rfl,rfl⟩,hg'⟩:=hstep w id;exact quiet (tag':=.acq) hgo (by simp) (by simp) rfl (.acq hg') hwg (.fin h1 h2) rfl hp (by simp) (.inr ⟨rfl,by omega⟩)
 |bk h=>
  rcases Goes.cases h with hstop|⟨m',rfl,hstep⟩
  ·exact .inl ⟨rfl,hstop w id⟩
  ·obtain⟨g',w',es,hgo,⟨rfl,rfl⟩,hg'⟩:=hstep w id;refine .inr (quiet (tag':=.bk) hgo (by simp) (by simp) rfl (.bk hg') hwg hmode rfl hp (fun _=>?_) (.inr ⟨rfl,by omega⟩));have:MemOp.ofEvents 0 a.frame.fn a.frame.place #[]=#[]:=by rw[ofEvents_eq];simp
   rw[this];simpa using hacq rfl
end
section
variable [Payload] {S:Ph} {Anch Bk:Goroutine→World→Prop} {w0:World} {cap:Nat} {All:List Value} {N:Nat}
theorem WSt.quits {own:List Nat}{left:List Value}{st m d:Nat}{g:Goroutine}{w:World}(h:WSt S own left st m d g w)(hs:st=1):QuitsD S.P m d g∧left=[]:=by
 cases h with
 |quit h=>exact⟨h,rfl⟩
 |_=>omega
def PV (S:Ph)(Bk:Goroutine→World→Prop)(w0:World)(cap:Nat)(All:List Value)(m:Machine)(t:Trace):Prop:=
 ∃(gs:Array Goroutine) (w:World) (sl:Option (Nat×Nat)) (j:Nat) (D:Nat→WD) (O:Nat→List Nat) (L:Nat→List Value) (a:Goroutine),
  m=crowd gs w sl∧gs[0]? =some a∧Bk a w∧Com S w0 cap All j gs w t D O L [] 0∧WgAt S.ty S.Wg w 0 0∧AllQuit j D∧JL S j t
omit [Payload]in
theorem Qd7 {j:Nat}{D:Nat→WD}(h:1≤Vc j D):∃i,i<j∧5≤(D i).stage:=exists_counted h
theorem QcL (G:Geo S)(hAr:∀g w,Anch g w→g.status=.running)(hBr:∀g w,Bk g w→g.status=.running)(hAn:∀g w,Anch g w→Sil S.P S.ty S.Wg (J4 S.P S.ty S.Wg Anch Bk) g w)(hAll:All.length≤cap)(hN2:N<1000000):
 ∀μ m t,Inv S Anch Bk w0 cap All N μ m t→PV S Bk w0 cap All m t∨∃m' ops μ',stepT S.P m=(.next m',ops)∧Lt2 μ' μ∧Inv S Anch Bk w0 cap All N μ' m' (t++ops):=by
 rintro μ m t ⟨gs,w,sl,j,D,O,L,tag,f0,d0,a,st,sm,rfl,ha,hcs,hcom,hwg,hmode,hN,hp,hacq,rfl⟩
 have haw:∀g∈gs,awake g:=by
  intro g hg tm;obtain⟨i,hi⟩:=Array.mem_iff_getElem?.1 hg
  cases i with
  |zero=>
   rw[ha]at hi;cases hi;rcases hcs.status hAr hBr with⟨hs,_⟩|⟨hs,_⟩<;>rw[hs]<;>simp
  |succ i=>
   have hlt:i<j:=by have:=(Array.getElem?_eq_some_iff.1 hi).1;rw[hcom.size]at this;omega
   obtain⟨g',hg',hs⟩:=hcom.wk i hlt;rw[hi]at hg';cases hg';rcases hs.status with h|h<;>rw[h]<;>simp
 have hsome:∃(i:Nat) (g:Goroutine),gs[i]? =some g∧g.status=.running:=by
  rcases hcs.status hAr hBr with⟨hs,_⟩|⟨_,_,rfl⟩
  ·exact⟨0,a,ha,hs⟩
  ·cases hmode with
   |opn h1 _ _=>exact h1.elim
   |reg _ _ h3=>
    obtain⟨i,hi,h5⟩:=Qd7 h3;obtain⟨g,hg,hs⟩:=hcom.wk i hi;exact⟨i+1,g,hg,hs.runs (by omega)⟩
   |last Lx _ h2 h3 _=>
    obtain⟨g,hg,hs⟩:=hcom.wk Lx h2;exact⟨Lx+1,g,hg,hs.runs (by omega)⟩
   |sema h1 _=>simp at h1
   |fin h1 _=>exact h1.elim
 by_cases hdone:tag=.bk∧Bk a w
 ·obtain⟨rfl,hbk⟩:=hdone;left
  cases hcs with
  |bk h=>
   cases hmode with
   |opn h1=>exact h1.elim
   |reg h1=>exact h1.elim
   |last _ h1=>exact h1.elim
   |sema h1=>simp at h1
   |fin h1 h2=>exact⟨gs,w,sl,j,D,O,L,a,rfl,ha,hbk,hcom,hwg,h2,hacq rfl⟩
 ·right;obtain⟨i,g,d,sl',hg,hrun,hstep⟩:=crowd_pick (P:=S.P) (w:=w) (sl:=sl) haw hsome;rw[hstep];have hcs':=hcs.rely (RK.at S (O 0) w d);have hcom':=hcom.at d;have hwg':WgAt S.ty S.Wg (w.at d) st sm:=hwg
  cases i with
  |zero=>
   rw[ha]at hg;cases hg;rcases QgU (sl:=sl') G hAn hN2 ha hcs' hcom' hwg' hmode hN hp hacq hrun with⟨e,hb⟩|h
   ·
    subst e
    cases hcs with
    |bk h=>
     rcases Goes.cases h with hstop|⟨m',rfl,hst⟩
     ·exact absurd ⟨rfl,hstop w id⟩ hdone
     ·obtain⟨g',w',es,hgo,⟨rfl,rfl⟩,hg'⟩:=hst (w.at d) id
      exact(Yj (tag:=.bk) (tag':=.bk) (own':=O 0) G ha hcom' hN hgo (fun k _=>RK.refl S _ _) (fun _ _ _ _=>rfl) (fun _ h=>h) (fun _ h=>.inl h) (QhS _) rfl (by simp) (by simp) rfl (.bk hg') hwg' hmode rfl hp (fun _=>by
       have:MemOp.ofEvents 0 a.frame.fn a.frame.place #[]=#[]:=by rw[ofEvents_eq];simp
       rw[this]
       simpa using hacq rfl) (.inr ⟨rfl,by omega⟩))
   ·exact h
  |succ i=>
   have hi:i<j:=by have:=(Array.getElem?_eq_some_iff.1 hg).1;rw[hcom.size]at this;omega
   exact QgV G hAr hBr hAll hN2 ha hcs' hcom' hwg' hmode hN hp hacq hi hg hrun
theorem QfZ (G:Geo S)(hAr:∀g w,Anch g w→g.status=.running)(hBr:∀g w,Bk g w→g.status=.running)(hAn:∀g w,Anch g w→Sil S.P S.ty S.Wg (J4 S.P S.ty S.Wg Anch Bk) g w)(hAll:All.length≤cap)(hN2:N<1000000):
 ∀(μ:Nat×Nat) m t,Inv S Anch Bk w0 cap All N μ m t→∃n m' t',runNT S.P n m t=(.next m',t')∧PV S Bk w0 cap All m' t':=by
 intro μ
 induction μ using(Prod.lex Nat.lt_wfRel Nat.lt_wfRel).wf.induction with
 |_ μ ih=>
  intro m t hI;rcases QcL G hAr hBr hAn hAll hN2 μ m t hI with hJ|⟨m',ops,μ',hs,hlt,hI'⟩
  ·exact⟨0,m,t,rfl,hJ⟩
  ·obtain⟨n,m'',t',hr,hJ⟩:=ih μ' hlt m' (t++ops) hI';exact⟨n+1,m'',t',by simp only[runNT,hs];exact hr,hJ⟩
omit [Payload]in
theorem Qfc (t:Trace):∃B,∀op∈t,op.act.low B:=by
 obtain⟨l⟩:=t
 induction l with
 |nil=>exact⟨0,by simp⟩
 |cons x l ih=>
  obtain⟨B,hB⟩:=ih
  have:∃B',x.act.low B':=by
   cases hx:x.act with
   |access e=>
    cases hl:e.loc with
    |cell a=>exact⟨a.block+1,by simp[MemAct.low,hl,Loc.low]⟩
    |obj r=>exact⟨r+1,by simp[MemAct.low,hl,Loc.low]⟩
    |_=>exact⟨0,by simp[MemAct.low,hl,Loc.low]⟩
   |mark m=>
    cases m with
    |acquire a=>exact⟨a.block+1,QhR _⟩
    |release a=>exact⟨a.block+1,QhR _⟩
    |releaseMerge a=>exact⟨a.block+1,QhR _⟩
    |read a=>exact⟨a.block+1,QhR _⟩
    |write a=>exact⟨a.block+1,QhR _⟩
    |_=>exact⟨0,trivial⟩
   |go _=>exact⟨0,trivial⟩
   |start=>exact⟨0,trivial⟩
   |send c _=>exact⟨c+1,QhR _⟩
   |sendDone c _=>exact⟨c+1,QhR _⟩
   |recv c _ _=>exact⟨c+1,QhR _⟩
   |recvDone c _=>exact⟨c+1,QhR _⟩
   |close c=>exact⟨c+1,QhR _⟩
   |recvClosed c=>exact⟨c+1,QhR _⟩
  obtain⟨B',hB'⟩:=this;refine⟨max B B',fun op hop=>?_⟩;simp only[List.mem_toArray,List.mem_cons]at hop;rcases hop with rfl|hop
  ·exact MemAct.low_mono (Nat.le_max_right _ _) hB'
  ·exact MemAct.low_mono (Nat.le_max_left _ _) (hB op (by simpa using hop))
theorem QeG (G:Geo S){j:Nat}{gs:Array Goroutine}{w:World}{t:Trace}{D:Nat→WD}{O:Nat→List Nat}{L:Nat→List Value}(h:Com S w0 cap All j gs w t D O L [] 0)(hq:AllQuit j D)(hA:JL S j t):
 (∃B,Past (ShS S) B t)∧Leavers S.P t gs (fun i=>(D (i-1)).fuel):=by
 obtain⟨q,ha,hg0,hh,hr⟩:=hA;obtain⟨B,hB⟩:=Qfc t;have edge:∀ {k r},Rel S t k r→r<q→HappensBefore t r q:=fun hr hrq=>.single (.inr ⟨.marked hrq (.inr hr.said.act) ha (fun k hk _=>h.norel k (by have:=hr.lo;omega)),hr.said.heard,hh⟩)
 have young:∀ {i k},t.g? i=some k→S.m0≤k→∃r,Rel S t k r∧r<q:=fun {i k} hgi hm=>by
  have h1:=G.m1
  have hkj:k≤j:=by
   obtain⟨op,ho,rfl⟩:=Option.map_eq_some_iff.1 hgi;exact h.ct.gs i op ho
  obtain⟨r,hr',hrq⟩:=hr (k-1) (by omega) (by omega);rw[show k-1+1=k by omega]at hr';exact⟨r,hr',hrq⟩
 refine⟨⟨B,h.ct.nr,fun i a hi _=>?_,fun i k hgi hne hc=>?_,h.deaf0,hB⟩,⟨fun i g hi hgi=>?_,fun k hk=>?_⟩⟩
 ·obtain⟨op,ho,hoa⟩:=touch_of hi;have hgi:t.g? i=some op.g:=by simp[Trace.g?,ho]
  rcases QhT op.g S.m0 with hlt|hge
  ·exact h.kn _ i a hlt hgi hi
  ·obtain⟨r,hr',hrq⟩:=young hgi hge;rcases QhT r i with h1|h1
   ·exact .inr (hr'.aft i a h1 hgi hi)
   ·left;obtain⟨z,hz,hzg⟩:=Option.map_eq_some_iff.1 hg0;refine⟨q,z,hz,hzg,.inr ?_⟩;rcases QhT i r with h2|h2
    ·exact .trans (.single (.inl ⟨h2,op.g,hgi,hr'.said.g⟩)) (edge hr' hrq)
    ·obtain rfl:i=r:=by omega
     exact edge hr' hrq
 ·rcases QhT k S.m0 with hlt|hge
  ·exact h.ov i k hlt hne hgi hc
  ·obtain⟨r,hr',hrq⟩:=young hgi hge;have hle:i≤r:=Nat.le_of_not_lt fun hlt=>hr'.said.after i hlt hgi hc;rcases QhT i r with h2|h2
   ·exact⟨q,hg0,.trans (.single (.inl ⟨h2,k,hgi,hr'.said.g⟩)) (edge hr' hrq)⟩
   ·obtain rfl:i=r:=by omega
    exact⟨q,hg0,edge hr' hrq⟩
 ·have hlt:i-1<j:=by have:=(Array.getElem?_eq_some_iff.1 hgi).1;rw[h.size]at this;omega
  obtain⟨x,hx,hs⟩:=h.wk (i-1) hlt;rw[show i-1+1=i by omega,hgi]at hx
  cases hx
  have hd:=h.deafW (i-1) hlt;rw[show i-1+1=i by omega]at hd;rw[hd];exact(hs.quits (hq (i-1) hlt)).1
 ·refine Deaf_absent fun i op hi e=>?_;have:=h.ct.gs i op hi;have:=h.size;omega
end
end Co
namespace Co
open Go.Conc Go.ConcN Go.RowKit Go.Conc.Lib Go.ConcR.Gen Go.ConcN.Gen
open Go.ConcR (KK wgBlock WgAt stA smA rd wr mk Payload Aside2 DC0 ofEvent_cell)
set_option linter.unusedSimpArgs false
/-! ### a weaker stop-/
theorem O4 {P:Program}{main:Bool}{R:World→World→Prop}{D:World→World→Array Event→Prop}{Stop Stop':Goroutine→World→Prop}(h:∀g w,Stop g w→Stop' g w):
 ∀ {n:Nat} {g:Goroutine} {w:World},Goes P main R D Stop n g w→Goes P main R D Stop' n g w
 |0,g,w,hg=>fun w1 h1=>h g w1 (hg w1 h1)
 |n+1,g,w,hg=>by
  rcases hg with hg|⟨hs,hg⟩
  ·exact .inl fun w1 h1=>h g w1 (hg w1 h1)
  ·refine .inr ⟨hs,fun w1 h1=>?_⟩;obtain⟨g',w',es,hgo,hd,hn⟩:=goes_elim (hg w1 h1);rw[hgo];exact⟨hd,O4 h hn⟩
section
variable {P:Program} {ty:TypeId} {Wg:Nat} {A A' B B':Goroutine→World→Prop}
theorem Sil.weak {X Y:Goroutine→World→Prop}(h:∀g w,X g w→Y g w){g:Goroutine}{w:World}(hs:Sil P ty Wg X g w):Sil P ty Wg Y g w:=let⟨n,hn⟩:=hs;⟨n,O4 h hn⟩
theorem ZN.weak {m:Mark}{X Y:Goroutine→World→Prop}(h:∀g w,X g w→Y g w){g:Goroutine}{w:World}(hs:ZN P m X g w):ZN P m Y g w:=let⟨h1,g',h2,h3⟩:=hs;⟨h1,g',h2,h g' w h3⟩
theorem UI.weak (hB:∀g w,B g w→B' g w){g:Goroutine}{w:World}(h:UI P ty Wg B g w):UI P ty Wg B' g w:=Sil.weak (fun _ _=>ZN.weak fun _ _=>Sil.weak fun _ _=>ZN.weak fun _ _=>Sil.weak hB) h
theorem Ua.weak (hB:∀g w,B g w→B' g w){g:Goroutine}{w:World}(h:Ua P ty Wg B g w):Ua P ty Wg B' g w:=⟨h.1,fun hw=>let⟨g',h1,h2⟩:=h.2 hw;⟨g',h1,h2.weak hB⟩⟩
theorem Yv.weak (hB:∀g w,B g w→B' g w){g:Goroutine}{w:World}(h:Yv P ty Wg B g w):Yv P ty Wg B' g w:=
 ⟨h.1,h.2.1,h.2.2.1,fun hw=>let⟨g',h1,h2⟩:=h.2.2.2 hw;⟨g',h1,Sil.weak (fun _ _=>Ua.weak hB) h2⟩⟩
theorem Y9.weak (hA:∀g w,A g w→A' g w)(hB:∀g w,B g w→B' g w){vs:Nat}{g:Goroutine}{w:World}(h:Y9 P ty Wg A B vs g w):Y9 P ty Wg A' B' vs g w:=
 ⟨h.1,fun v hv hw=>⟨fun e=>let⟨g',h1,h2⟩:=(h.2 v hv hw).1 e;⟨g',h1,Sil.weak (fun _ _=>ZN.weak fun _ _=>Sil.weak fun _ _=>Yv.weak hB) h2⟩,fun e=>let⟨g',h1,h2⟩:=(h.2 v hv hw).2 e;⟨g',h1,Sil.weak hA h2⟩⟩⟩
theorem J4.weak (hA:∀g w,A g w→A' g w)(hB:∀g w,B g w→B' g w){g:Goroutine}{w:World}(h:J4 P ty Wg A B g w):J4 P ty Wg A' B' g w:=
 ⟨h.1,fun v hv hw=>let⟨g',h1,h2,h3⟩:=h.2 v hv hw;⟨g',h1,fun e=>(h2 e).weak hB,fun e=>Sil.weak (fun _ _=>Y9.weak hA hB) (h3 e)⟩⟩
end
noncomputable def QbC:Array Oper:=match Ya with
 | .seq (.region _ ops _) _=>ops
 |_=>#[]
noncomputable def UQ:Code:=match Ya with
 | .seq _ e=>e
 |_=>.skip
noncomputable def Uo (T:Array Value)(K1:List Item):Frame:=(base 81).at ⟨T,[]⟩ (.inRegion QbC [0]:: .code UQ::K1)
structure DW (bh bt:Nat) (T:Array Value):Prop where
 sz:T.size=40
 t1:T[1]? =some (.pointer (some ⟨bh,0,none⟩))
 t5:T[5]? =some (.pointer (some ⟨bt,0,none⟩))
def Ue (Wg bh bt:Nat)(K1:List Item)(cs:List Frame)(g:Goroutine)(w:World):Prop:=∃T,DW bh bt T∧Va Tryz.link Wg (Uo T K1) cs g w
def Ki (Wg bh bt:Nat)(K1:List Item)(cs:List Frame)(g:Goroutine)(w:World):Prop:=∃T,DW bh bt T∧Kf Tryz.link.tWg Wg (Uo T K1) cs g w
section
variable [Payload] {S:Ph} {w0:World} {bh bw bt:Nat} {wa:Option Addr} {wcap:Nat} {ws:List (Int×Int)} {gW:Nat} {wh:List Int} {xa:Option Addr} {xcap:Nat} {X:List Int} {oa:Option Addr} {ocap:Nat} {ks:List Int}
omit [Payload]in
theorem QdE (hP:S.P=Tryz.prog)(hty:S.ty=Tryz.link.tWg){K1:List Item}{cs:List Frame}(g:Goroutine)(w:World)(h:Ue S.Wg bh bt K1 cs g w):Sil S.P S.ty S.Wg (J4 S.P S.ty S.Wg (Ue S.Wg bh bt K1 cs) (Ki S.Wg bh bt K1 cs)) g w:=by
 obtain⟨T,hT,ha⟩:=h;rw[hP,hty];exact Sil.weak (fun _ _=>J4.weak (fun _ _ h=>⟨T,hT,h⟩) (fun _ _ h=>⟨T,hT,h⟩)) (QhD Tryz.wgLib g w ha)
theorem QdQ (hP:S.P=Tryz.prog)(hty:S.ty=Tryz.link.tWg){K1:List Item}{cs:List Frame}{T:Array Value}(hT:DH S.Wg bh bw bt xa X.length xcap X.length T){own:List Nat}{w:World}(hF:CF S w0 own w):
 Yw S (Ue S.Wg bh bt K1 cs) 1 0 own [] 0 0 (G ((base 81).at ⟨T,[]⟩ (.code Jc:: .inLoop Jc:: .inBlock 0:: .code Ya::K1)) cs) w:=by
 obtain⟨v0,v1,v2,v3,v4,v5,v6,v7,v8,v9,v10,v11,v12,v13,v14,v15,v16,v17,v18,v19,v20,v21,v22,v23,v24,v25,v26,v27,v28,v29,v30,v31,v32,v33,v34,v35,v36,v37,v38,v39,rfl⟩:=UJ T hT.sz;obtain⟨_,t1,t4,t5,t6,t20,t21,t22⟩:=hT;simp only[List.getElem?_toArray,List.getElem?_cons_zero,List.getElem?_cons_succ,Option.some.injEq]at t1 t4 t5 t6 t20 t21 t22;subst t1 t4 t5 t6 t20 t21 t22;refine⟨rfl,.inl ?_⟩;rw[hP];simp only[Jc,Ya,Tryz.f81];rw[stepG_seq];simp only[goes_go];refine⟨own,Zf.refl own w,by simp,?_⟩;rw[Z3,hP];refine⟨50,?_⟩;u_reg CF.rely hF;u_op CF.rely hF;u_c stepG_region_end CF.rely hF;u_c stepG_seq CF.rely hF
 u_cond false CF.rely hF
 u_exit CF.rely hF
 u_c stepG_seq CF.rely hF;u_reg CF.rely hF;refine Goes.stop (fun w1 hw1=>?_);replace hF:=CF.rely hF hw1;clear hw1;refine⟨rfl,.inl ?_⟩;rw[hP];refine goes_call rfl rfl (by decide) rfl Tryz.func112 rfl rfl ⟨own,Zf.refl _ _,by simp,rfl,rfl,rfl,?_⟩;rw[←enter_at _ Tryz.func112 rfl];simp only[List.map_toArray,List.map_cons,List.map_nil,Act.eval,Array.getD_eq_getD_getElem?,List.getElem?_toArray,List.getElem?_cons_succ,List.getElem?_cons_zero,Option.getD_some];have hW:=QhE (P:=Tryz.prog) (L:=Tryz.link) (Wg:=S.Wg) Tryz.wgLib (c:=Uo #[v0,.pointer (some ⟨bh,0,none⟩),v2,v3,.pointer (some ⟨bw,0,none⟩),.pointer (some ⟨bt,0,none⟩),.pointer (some ⟨S.Wg,0,none⟩),v7,v8,v9,v10,v11,v12,v13,v14,v15,v16,v17,v18,v19,.slice xa X.length xcap,.int .i64 X.length,.int .i64 X.length,.bool false,v24,v25,v26,v27,v28,v29,v30,v31,v32,v33,v34,v35,v36,v37,v38,v39] K1) (cs:=cs) w1 (hty▸hF.live);rw[hP,hty];exact Sil.weak (fun _ _=>ZN.weak fun _ _=>Sil.weak fun _ _ h=>⟨_,⟨rfl,rfl,rfl⟩,h⟩) hW
end
end Co
end Go.Proofs.YtcpnkpogebjieaaGreat
