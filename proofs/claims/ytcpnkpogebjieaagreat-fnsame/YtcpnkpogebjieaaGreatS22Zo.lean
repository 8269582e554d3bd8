/- The crowd: where goroutine 0 stands; the group's state; the invariant; whatever step of a -/
import Derived.Conc.CrowdStepW
import Derived.Test.YtcpnkpogebjieaaGreatS21Zn
open Array renaming getElem?_setIfInBounds_ne→QhR,getElem?_setIfInBounds_self_of_lt→QhS
namespace Go.Proofs.YtcpnkpogebjieaaGreat
namespace Co
open Go.Conc Go.ConcN
open Go.ConcR (KK wgBlock WgAt stA smA rd wr mk Payload Aside2 DC0 Bk g_of_ofEvents again_blocked ofEvent_loc_mark bk_of_mute)
inductive Tg where
 |st (s bd:Nat) (rest:List (List Value)) (pend:Nat)|kd|anch|w1|cas (vs:Nat)|sw|sem|blk|w4|ke|acq|bk
def Tg.rest:Tg→List (List Value)
 | .st _ _ r _=>r
 |_=>[]
def Tg.pend:Tg→Nat
 | .st _ _ _ p=>p
 |_=>0
def ph2 (N v:Nat):Tg→Nat
 | .st s bd _ _=>s+bd+8*N+20
 | .kd=>8*N+7
 | .anch=>8*v+6
 | .w1=>8*v+5
 | .cas vs=>8*vs+4
 | .sw=>6
 | .sem=>5
 | .blk=>5
 | .w4=>4
 | .ke=>3
 | .acq=>2
 | .bk=>1
def YU:Tg→Prop
 | .st _ _ _ _| .kd| .anch| .w1| .cas _=>True
 |_=>False
def UV:Tg→Prop
 | .sw| .sem| .blk=>True
 |_=>False
def Qaa:Tg→Prop
 | .w4| .ke| .acq| .bk=>True
 |_=>False
theorem QfX (N:Nat){v v':Nat}(h:v'≤v)(tag:Tg):ph2 N v' tag≤ph2 N v tag:=by
 cases tag<;>simp only[ph2]<;>omega
section
variable [Payload]
inductive CSt (S:Ph) (Anch Bk:Goroutine→World→Prop):Tg→List Nat→Nat→Nat→Goroutine→World→Prop
 |st {s bd pend m d:Nat} {own:List Nat} {rest:List (List Value)} {g:Goroutine} {w:World}:Goes S.P true (RK S own) DC0 (Yw S Anch s bd own rest pend d) m g w→CSt S Anch Bk (.st s bd rest pend) own m d g w
 |kd {m:Nat} {own:List Nat} {g:Goroutine} {w:World}:Goes S.P true (RL S.ty S.Wg) DC0 (ZN S.P .disable (Sil S.P S.ty S.Wg Anch)) m g w→CSt S Anch Bk .kd own m 0 g w
 |anch {m:Nat} {own:List Nat} {g:Goroutine} {w:World}:Goes S.P true (RL S.ty S.Wg) DC0 Anch m g w→CSt S Anch Bk .anch own m 1 g w
 |w1 {m:Nat} {own:List Nat} {g:Goroutine} {w:World}:Goes S.P true (RL S.ty S.Wg) DC0 (J4 S.P S.ty S.Wg Anch Bk) m g w→CSt S Anch Bk .w1 own m 1 g w
 |cas {vs m:Nat} {own:List Nat} {g:Goroutine} {w:World}:Goes S.P true (RL S.ty S.Wg) DC0 (Y9 S.P S.ty S.Wg Anch Bk vs) m g w→CSt S Anch Bk (.cas vs) own m 1 g w
 |sw {m:Nat} {own:List Nat} {g:Goroutine} {w:World}:Goes S.P true (RL S.ty S.Wg) DC0 (ZN S.P (.write (smA S.Wg)) (Sil S.P S.ty S.Wg (Yv S.P S.ty S.Wg Bk))) m g w→CSt S Anch Bk .sw own m 1 g w
 |sem {m:Nat} {own:List Nat} {g:Goroutine} {w:World}:Goes S.P true (RL S.ty S.Wg) DC0 (Yv S.P S.ty S.Wg Bk) m g w→CSt S Anch Bk .sem own (m+1) 1 g w
 |blk {own:List Nat} {g:Goroutine} {w:World}:(∀w1,RL S.ty S.Wg w w1→Yv S.P S.ty S.Wg Bk g w1)→CSt S Anch Bk .blk own 0 1 {g with status:=.blocked} w
 |w4 {m:Nat} {own:List Nat} {g:Goroutine} {w:World}:Goes S.P true (RL S.ty S.Wg) DC0 (Ua S.P S.ty S.Wg Bk) m g w→CSt S Anch Bk .w4 own m 1 g w
 |ke {m:Nat} {own:List Nat} {g:Goroutine} {w:World}:Goes S.P true (RL S.ty S.Wg) DC0 (ZN S.P .enable (Sil S.P S.ty S.Wg (ZN S.P (.acquire (stA S.Wg)) (Sil S.P S.ty S.Wg Bk)))) m g w→CSt S Anch Bk .ke own m 1 g w
 |acq {m:Nat} {own:List Nat} {g:Goroutine} {w:World}:Goes S.P true (RL S.ty S.Wg) DC0 (ZN S.P (.acquire (stA S.Wg)) (Sil S.P S.ty S.Wg Bk)) m g w→CSt S Anch Bk .acq own m 0 g w
 |bk {m:Nat} {own:List Nat} {g:Goroutine} {w:World}:Goes S.P true (RL S.ty S.Wg) DC0 Bk m g w→CSt S Anch Bk .bk own m 0 g w
variable {S:Ph} {Anch Bk:Goroutine→World→Prop} {tag:Tg} {own:List Nat} {f d:Nat} {a:Goroutine} {w w':World}
theorem CSt.rely (h:CSt S Anch Bk tag own f d a w)(hr:RK S own w w'):CSt S Anch Bk tag own f d a w':=by
 have hl:=hr.rl
 cases h with
 |st h=>exact .st (Goes.rely PA h hr)
 |kd h=>exact .kd (Goes.rely J1 h hl)
 |anch h=>exact .anch (Goes.rely J1 h hl)
 |w1 h=>exact .w1 (Goes.rely J1 h hl)
 |cas h=>exact .cas (Goes.rely J1 h hl)
 |sw h=>exact .sw (Goes.rely J1 h hl)
 |sem h=>exact .sem (Goes.rely J1 h hl)
 |blk h=>exact .blk (fun w₂ h₂=>h w₂ (J1 _ _ _ hl h₂))
 |w4 h=>exact .w4 (Goes.rely J1 h hl)
 |ke h=>exact .ke (Goes.rely J1 h hl)
 |acq h=>exact .acq (Goes.rely J1 h hl)
 |bk h=>exact .bk (Goes.rely J1 h hl)
theorem CSt.status (hAr:∀g w,Anch g w→g.status=.running)(hBr:∀g w,Bk g w→g.status=.running)(h:CSt S Anch Bk tag own f d a w):(a.status=.running∧tag≠.blk)∨(a.status=.blocked∧a.offers=none∧tag=.blk):=by
 cases h with
 |st h=>exact .inl ⟨Goes.running (fun _ _ x=>x.1) w (RK.refl S own w) h,by simp⟩
 |kd h=>exact .inl ⟨Goes.running (fun _ _ x=>x.1) w id h,by simp⟩
 |anch h=>exact .inl ⟨Goes.running hAr w id h,by simp⟩
 |w1 h=>exact .inl ⟨Goes.running (fun _ _ x=>x.1) w id h,by simp⟩
 |cas h=>exact .inl ⟨Goes.running (fun _ _ x=>x.1) w id h,by simp⟩
 |sw h=>exact .inl ⟨Goes.running (fun _ _ x=>x.1) w id h,by simp⟩
 |sem h=>exact .inl ⟨Goes.running (fun _ _ x=>x.1) w id h,by simp⟩
 |blk h=>exact .inr ⟨rfl,(h w id).2.1,rfl⟩
 |w4 h=>exact .inl ⟨Goes.running (fun _ _ x=>x.1) w id h,by simp⟩
 |ke h=>exact .inl ⟨Goes.running (fun _ _ x=>x.1) w id h,by simp⟩
 |acq h=>exact .inl ⟨Goes.running (fun _ _ x=>x.1) w id h,by simp⟩
 |bk h=>exact .inl ⟨Goes.running hBr w id h,by simp⟩
theorem CSt.wokenBy (hAr:∀g w,Anch g w→g.status=.running)(hBr:∀g w,Bk g w→g.status=.running)(h:CSt S Anch Bk tag own f d a w)(hr:RK S own w w')(g g':Goroutine):
 ∃tag' f',CSt S Anch Bk tag' own f' d (woken S.P g g' w' a) w'∧f'≤f+1∧(tag'=tag∨(tag=.blk∧tag'=.sem))∧(mayWake S.P g=true→g'.status=.running→tag'≠.blk):=by
 have h':=h.rely hr;unfold Go.Conc.woken;split
 ·rcases h'.status hAr hBr with⟨hs,hne⟩|⟨_,_,rfl⟩
  ·exact⟨tag,f,by rw[again_running _ (.inl hs)];exact h',by omega,.inl rfl,fun _ _=>hne⟩
  ·cases h' with
   |blk hb=>
    have h3:=hb w' id;exact⟨.sem,0+1,by rw[again_blocked h3.1 h3.2.1];exact .sem (Goes.stop hb),by omega,.inr ⟨rfl,rfl⟩,fun _ _=>by simp⟩
 ·rename_i hc;exact⟨tag,f,h',by omega,.inl rfl,fun h1 h2=>absurd (by simp[h1,h2]) hc⟩
end
def Yg (j:Nat)(D:Nat→WD):Prop:=∀i,i<j→5≤(D i).stage∨(D i).stage=1
inductive Md (j:Nat) (D:Nat→WD):Tg→Int→Int→Prop
 |opn {tag:Tg}:YU tag→Yg j D→(∀vs,tag=.cas vs→Vc j D≤vs∧1≤vs)→Md j D tag (((Vc j D+tag.pend:Nat):Int)*KK) 0
 |reg {tag:Tg}:UV tag→Yg j D→1≤Vc j D→Md j D tag (((Vc j D:Nat):Int)*KK+1) 0
 |last {tag:Tg} (L:Nat):UV tag→L<j→((D L).stage=4∨(D L).stage=3∨(D L).stage=2)→(∀i,i<j→i≠L→(D i).stage=1)→Md j D tag (if(D L).stage=2 then 0 else 1) 0
 |sema {tag:Tg}:(tag=.sw∨tag=.sem)→AllQuit j D→Md j D tag 0 1
 |fin {tag:Tg}:Qaa tag→AllQuit j D→Md j D tag 0 0
theorem Md.retag {j:Nat}{D:Nat→WD}{tag tag':Tg}{st sm:Int}(h:Md j D tag st sm)(e:tag'=tag∨(tag=.blk∧tag'=.sem)):Md j D tag' st sm:=by
 rcases e with rfl|⟨rfl,rfl⟩
 ·exact h
 ·cases h with
  |opn h1 _ _=>exact h1.elim
  |reg _ h2 h3=>exact .reg trivial h2 h3
  |last L _ h2 h3 h4=>exact .last L trivial h2 h3 h4
  |sema h1 _=>simp at h1
  |fin h1 _=>exact h1.elim
theorem QfY (N v:Nat){tag tag':Tg}(e:tag'=tag∨(tag=.blk∧tag'=.sem)):ph2 N v tag'=ph2 N v tag:=by
 rcases e with rfl|⟨rfl,rfl⟩<;>rfl
theorem QaO {tag tag':Tg}(e:tag'=tag∨(tag=.blk∧tag'=.sem)):tag'.rest=tag.rest:=by
 rcases e with rfl|⟨rfl,rfl⟩<;>rfl
def JL (S:Ph)(j:Nat)(t:Trace):Prop:=
 ∃q,t.act? q=some (.mark (.acquire (stA S.Wg)))∧t.g? q=some 0∧t.heard q∧∀i,i<j→S.m0≤i+1→∃r,Rel S t (i+1) r∧r<q
theorem JL.app {S:Ph}{j:Nat}{t u:Trace}(h:JL S j t)(hu:∀i r,i<j→Rel S t (i+1) r→Rel S (t++u) (i+1) r):JL S j (t++u):=by
 obtain⟨q,h1,h2,h3,h4⟩:=h;have hq:=lt_of_act? h1;exact⟨q,by rw[act?_old hq];exact h1,by rw[g?_old hq];exact h2,(heard_old hq).2 h3,fun i hi hm=>let⟨r,hr,hrq⟩:=h4 i hi hm;⟨r,hu i r hi hr,hrq⟩⟩
section
variable [Payload]
def Inv (S:Ph)(Anch Bk:Goroutine→World→Prop)(w0:World)(cap:Nat)(All:List Value)(N:Nat)(μ:Nat×Nat)(m:Machine)(t:Trace):Prop:=
 ∃(gs:Array Goroutine) (w:World) (sl:Option (Nat×Nat)) (j:Nat) (D:Nat→WD) (O:Nat→List Nat) (L:Nat→List Value) (tag:Tg) (f0 d0:Nat) (a:Goroutine) (st sm:Int),
  m=crowd gs w sl∧gs[0]? =some a∧CSt S Anch Bk tag (O 0) f0 d0 a w∧Com S w0 cap All j gs w t D O L tag.rest d0∧WgAt S.ty S.Wg w st sm∧Md j D tag st sm∧Vc j D+tag.rest.length≤N∧tag.pend≤1∧
  (tag=.bk→JL S j t)∧μ=(ph2 N (Vc j D) tag+Ssum j D,f0+2*Fsum j D)
variable {S:Ph} {Anch Bk:Goroutine→World→Prop} {w0:World} {cap:Nat} {All:List Value} {N:Nat} {gs:Array Goroutine} {w w':World} {sl:Option (Nat×Nat)} {j:Nat} {D:Nat→WD} {O:Nat→List Nat} {L:Nat→List Value}
 {tag:Tg} {f0 d0:Nat} {a:Goroutine} {t:Trace}
omit [Payload]in
theorem Qao (N:Nat){i s' m' dd':Nat}(hi:i<j){tag':Tg}{f':Nat}(htag:tag'=tag∨(tag=.blk∧tag'=.sem))(hf':f'≤f0+1)(hlt:(s'<(D i).stage∧cnt ⟨s',m',dd'⟩≤cnt (D i))∨(s'=(D i).stage∧m'+1=(D i).fuel)):
 Lt2 (ph2 N (Vc j (upd D i ⟨s',m',dd'⟩)) tag'+Ssum j (upd D i ⟨s',m',dd'⟩),f'+2*Fsum j (upd D i ⟨s',m',dd'⟩)) (ph2 N (Vc j D) tag+Ssum j D,f0+2*Fsum j D)∧Vc j (upd D i ⟨s',m',dd'⟩)≤Vc j D:=by
 have e1:=sumTo_upd D (⟨s',m',dd'⟩:WD) cnt hi;have e2:=sumTo_upd D (⟨s',m',dd'⟩:WD) WD.stage hi;have e3:=sumTo_upd D (⟨s',m',dd'⟩:WD) WD.fuel hi;rw[QfY N _ htag];simp only[Vc,Ssum,Fsum]at *;rcases hlt with⟨h1,h2⟩|⟨h1,h2⟩
 ·have h3:(sumTo j fun a=>cnt (upd D i ⟨s',m',dd'⟩ a))≤sumTo j fun a=>cnt (D a):=by omega
  refine⟨Prod.Lex.left _ _ ?_,h3⟩;have:=QfX N h3 tag;omega
 ·have ec:cnt (⟨s',m',dd'⟩:WD)=cnt (D i):=by simp only[cnt,h1]
  have ev:(sumTo j fun a=>cnt (upd D i ⟨s',m',dd'⟩ a))=sumTo j fun a=>cnt (D a):=by omega
  have es':(sumTo j fun a=>(upd D i ⟨s',m',dd'⟩ a).stage)=sumTo j fun a=>(D a).stage:=by omega
  rw[ev,es'];refine⟨Prod.Lex.right _ ?_,Nat.le_refl _⟩;omega
theorem Com.get_same (h:Com S w0 cap All j gs w t D O L tag.rest d0)(i:Nat)(x g g':Goroutine)(w':World):∀k,k<j→k≠i→((gs.map (woken S.P g g' w')).setIfInBounds (i+1) x)[k+1]? =gs[k+1]? :=by
 intro k hk e;obtain⟨y,hy,hs⟩:=h.wk k hk;rw[get_map_set _ _ _ _ (by omega),hy,Option.map_some,hs.woken]
theorem U9 (G:Geo S)(hAr:∀g w,Anch g w→g.status=.running)(hBr:∀g w,Bk g w→g.status=.running)
 (ha:gs[0]? =some a)(hcs:CSt S Anch Bk tag (O 0) f0 d0 a w)(hcom:Com S w0 cap All j gs w t D O L tag.rest d0)(hN:Vc j D+tag.rest.length≤N)(hp:tag.pend≤1)
 {i:Nat}(hi:i<j){g g':Goroutine}{es:Array Event}{own':List Nat}{s' m' dd':Nat}{st' sm':Int}(hg:gs[i+1]? =some g)(hgo:stepG S.P false g w=.go g' w' es)
 (hrk:∀k,k≠i+1→RK S (O k) w w')(hsub:∀b,b∈O (i+1)→b∈own')(hown:∀b,b∈own'→b∈O (i+1)∨(b=w.heap.size∧w.heap.size<w'.heap.size))(hsz:w.heap.size≤w'.heap.size)
 (hch:w'.heap[S.Ch]? =w.heap[S.Ch]?)(hs':WSt S own' (L i) s' m' dd' g' w')
 (hok:∀op∈MemOp.ofEvents (i+1) g.frame.fn g.frame.place es,OkW (ShS S) (OwO (upd O (i+1) own')) (RdS S) (i+1) op)(hse:∀e∈es,∀x,(MemAct.ofEvent e).touch? =some x→∃c,x.loc=.cell c∧c.block<w'.heap.size)
 (hnr:∀e∈es,e.loc≠.mark (.release (stA S.Wg)))(hdeaf:deafBehind (D i).deaf es=dd')
 (hrel:S.m0≤i+1→s'≤6→∃r,Rel S (t++MemOp.ofEvents (i+1) g.frame.fn g.frame.place es) (i+1) r)(hold:i+1<S.m0→s'=1∧∀e∈es,(MemAct.ofEvent e).touch? =none)
 (hwg:WgAt S.ty S.Wg w' st' sm')
 (hmode:∀tag',(tag'=tag∨(tag=.blk∧tag'=.sem))→(mayWake S.P g=true→g'.status=.running→tag'≠.blk)→Md j (upd D i ⟨s',m',dd'⟩) tag' st' sm')
 (hacq:tag=.bk→JL S j (t++MemOp.ofEvents (i+1) g.frame.fn g.frame.place es))
 (hlt:(s'<(D i).stage∧cnt ⟨s',m',dd'⟩≤cnt (D i))∨(s'=(D i).stage∧m'+1=(D i).fuel)):
 ∃m₁ ops μ',runT S.P (crowd gs w sl) (i+1)=(.next m₁,ops)∧Lt2 μ' (ph2 N (Vc j D) tag+Ssum j D,f0+2*Fsum j D)∧Inv S Anch Bk w0 cap All N μ' m₁ (t++ops):=by
 obtain⟨tag',f',hcs',hf',htag,hwk⟩:=hcs.wokenBy hAr hBr (hrk 0 (by omega)) g g';have hrun:=runT_crowd_go (P:=S.P) (sl:=sl) (i:=i+1) hg (by simpa using hgo);obtain⟨hm,hv⟩:=Qao N hi (m':=m') (dd':=dd') htag hf' hlt;have hof:∀op∈MemOp.ofEvents (i+1) g.frame.fn g.frame.place es,∃e∈es,op={g:=i+1,fn:=g.frame.fn,pos:=g.frame.place,act:=.ofEvent e}:=fun op hop=>Go.Conc.mem_ofEvents hop;have hcom':=hcom.stepW (gs':=(gs.map (woken S.P g g' w')).setIfInBounds (i+1) g') (w':=w') (L':=L) (u:=MemOp.ofEvents (i+1) g.frame.fn g.frame.place es) (s':=s') (m':=m') (dd':=dd') G hi (by simp[hcom.size])
  (get_map_set_same _ _ _ (by rw[hcom.size];omega)) (hcom.get_same i g' g g' w') hrk hsub hown hsz (fun _ _ _=>rfl) (by obtain⟨buf,s,r,tm,h1,h2⟩:=hcom.ch;exact⟨buf,s,r,tm,hch.trans h1,h2⟩) hs' g_of_ofEvents hok
  (fun op hop x hx=>by obtain⟨e,he,rfl⟩:=hof op hop;exact hse e he x hx) (norel_of hnr) (by rw[Deaf_own,hcom.deafW i hi];exact hdeaf) hrel
  (fun hm=>⟨(hold hm).1,fun op hop=>by obtain⟨e,he,rfl⟩:=hof op hop;exact(hold hm).2 e he⟩)
 refine⟨_,_,_,hrun,hm,_,w',sl,j,upd D i ⟨s',m',dd'⟩,upd O (i+1) own',L,tag',f',d0,woken S.P g g' w' a,st',sm',rfl,by rw[get_map_set _ _ _ _ (by omega),ha];rfl,by rw[upd_ne O _ (by omega)];exact hcs',by rw[QaO htag];exact hcom',hwg,hmode tag' htag hwk,
  by rw[QaO htag];omega,by rcases htag with rfl|⟨_,rfl⟩<;>first|exact hp|exact Nat.zero_le _,?_,rfl⟩
 intro e;rcases htag with rfl|⟨_,rfl⟩
 ·exact hacq e
 ·cases e
theorem QhN (G:Geo S)(hAr:∀g w,Anch g w→g.status=.running)(hBr:∀g w,Bk g w→g.status=.running)
 (ha:gs[0]? =some a)(hcs:CSt S Anch Bk tag (O 0) f0 d0 a w)(hcom:Com S w0 cap All j gs w t D O L tag.rest d0)(hN:Vc j D+tag.rest.length≤N)(hp:tag.pend≤1)(hAll:All.length≤cap)
 {i:Nat}(hi:i<j){g g2:Goroutine}{v z:Value}{left':List Value}{shape:CommShape}{s:Nat}{st sm:Int}(hg:gs[i+1]? =some g)(hgo:stepG S.P false g w=.comm g2 #[scase S.Ch v z] true shape w #[])
 (hL:L i=v::left')(hst:(D i).stage=s+8)(hd:(D i).deaf=0)(hnext:Jp S s (O (i+1)) left' (g2.finishComm S.P #[scase S.Ch v z] shape 0 undef false) w)
 (hwg:WgAt S.ty S.Wg w st sm)(hmode:Md j D tag st sm)(htb:tag≠.bk):
 ∃m₁ ops μ',runT S.P (crowd gs w sl) (i+1)=(.next m₁,ops)∧Lt2 μ' (ph2 N (Vc j D) tag+Ssum j D,f0+2*Fsum j D)∧Inv S Anch Bk w0 cap All N μ' m₁ (t++ops):=by
 obtain⟨buf,s1,r1,tm,hc,hperm⟩:=hcom.ch;have htake:=Od hL hi
 have hroom:buf.size<cap:=by
  have h1:=hperm.length_eq;have h2:=htake.length_eq;simp only[List.length_append,Array.length_toList,List.length_cons]at h1 h2;omega
 have hpart:partners (gs.setIfInBounds (i+1) ph) S.Ch false=[]:=by
  refine partners_nil fun k x hx=>?_;by_cases e:i+1=k
  ·subst e;rw[QhS (by rw[hcom.size];omega)]at hx
   cases hx
   rfl
  ·rw[QhR e]at hx
   cases k with
   |zero=>
    rw[ha]at hx
    cases hx
    rcases hcs.status hAr hBr with⟨h1,_⟩|⟨h1,h2,_⟩
    ·simp[offersAt,h1]
    ·simp[offersAt,h1,h2]
   |succ k=>
    have hk:k<j:=by have:=(Array.getElem?_eq_some_iff.1 hx).1;rw[hcom.size]at this;omega
    obtain⟨y,hy,hs⟩:=hcom.wk k hk;rw[hx]at hy
    cases hy
    rcases hs.status with h1|h1<;>simp[offersAt,h1]
 have hrun:=crowd_send_room (P:=S.P) (sl:=sl) (i:=i+1) hg (by simpa using hgo) hc hroom hpart;obtain⟨w',hw'⟩:∃w',w'=w.setChan S.Ch cap (buf.push v) false (s1+1) r1 tm:=⟨_,rfl⟩
 have hheap:∀b,b≠S.Ch→w'.heap[b]? =w.heap[b]? :=fun b hb=>by
  rw[hw'];simp only[World.setChan];exact QhR (Ne.symm hb)
 have hsize:w'.heap.size=w.heap.size:=by rw[hw'];simp[World.setChan]
 have hchan:w'.heap[S.Ch]? =some (.chan cap (buf.push v) false (s1+1) r1 tm):=by
  rw[hw'];simp only[World.setChan];exact QhS (Array.getElem?_eq_some_iff.1 hc).1
 have hrk:∀k,RK S (O k) w w':=fun k=>⟨fun b _ _ hb=>hheap b hb,fun b hb=>hheap b (by have:=(hcom.gh.ow k b hb).1;have:=G.ch;omega),fun⟨x,y,hl⟩=>⟨x,y,hl.of_block (hheap _ (Ne.symm G.ne))⟩,by rw[hw'];exact⟨rfl,rfl⟩⟩;obtain⟨m',hs'⟩:=(hnext.rely (hrk _)).toSt;have h6:¬(i+1<S.m0):=fun hm=>by have:=hcom.old i hi hm;omega
 have hcnt:cnt (D i)=1:=by simp[cnt,hst]
 have hlt:(s+7<(D i).stage∧cnt ⟨s+7,m',0⟩≤cnt (D i))∨(s+7=(D i).stage∧m'+1=(D i).fuel):=.inl ⟨by omega,by rw[hcnt];simp[cnt]⟩;obtain⟨hm,hv⟩:=Qao (tag:=tag) (f0:=f0) N hi (f':=f0) (.inl rfl) (Nat.le_succ f0) hlt
 have hu:∀op∈(MemOp.ofEvents (i+1) g.frame.fn g.frame.place #[]++ #[{g:=i+1,fn:=g2.frame.fn,pos:=g2.frame.place,act:=.send S.Ch s1},{g:=i+1,fn:=g2.frame.fn,pos:=g2.frame.place,act:=.sendDone S.Ch s1}]:Trace),
  op.g=i+1∧(op.act=.send S.Ch s1∨op.act=.sendDone S.Ch s1):=by
  intro op hop;rw[ofEvents_eq]at hop;simp at hop;rcases hop with rfl|rfl
  ·exact⟨rfl,.inl rfl⟩
  ·exact⟨rfl,.inr rfl⟩
 have hnt:∀op∈(MemOp.ofEvents (i+1) g.frame.fn g.frame.place #[]++ #[{g:=i+1,fn:=g2.frame.fn,pos:=g2.frame.place,act:=.send S.Ch s1},{g:=i+1,fn:=g2.frame.fn,pos:=g2.frame.place,act:=.sendDone S.Ch s1}]:Trace),op.act.touch? =none:=by
  intro op hop;rcases(hu op hop).2 with e|e<;>rw[e]<;>rfl
 have hcom':=hcom.stepW (gs':=gs.setIfInBounds (i+1) (g2.finishComm S.P #[scase S.Ch v z] shape 0 undef false)) (w':=w') (L':=upd L i left') (own':=O (i+1)) (s':=s+7) (m':=m') (dd':=0)
  (u:=MemOp.ofEvents (i+1) g.frame.fn g.frame.place #[]++ #[{g:=i+1,fn:=g2.frame.fn,pos:=g2.frame.place,act:=.send S.Ch s1},{g:=i+1,fn:=g2.frame.fn,pos:=g2.frame.place,act:=.sendDone S.Ch s1}]) G hi (by simp[hcom.size])
  (QhS (by rw[hcom.size];omega)) (fun k _ e=>QhR (by omega)) (fun k _=>hrk k) (fun _ h=>h) (fun _ h=>.inl h) (by omega) (fun k _ e=>upd_ne L _ e)
  ⟨_,_,_,_,hchan,by
    refine List.Perm.trans ?_ hperm;rw[Array.toList_push,List.append_assoc];refine List.Perm.append_left _ ?_;rw[List.singleton_append,←List.cons_append]
    exact(htake.symm).append_right _⟩ (by rw[upd_same];exact hs') (fun op hop=>(hu op hop).1)
  (fun op hop=>⟨(hu op hop).1,fun x hx=>by rw[hnt op hop]at hx;cases hx⟩) (fun op hop x hx=>by rw[hnt op hop]at hx;cases hx) (fun op hop=>by rcases(hu op hop).2 with e|e<;>rw[e]<;>simp)
  (by
    rw[Deaf_still t _ _ fun op hop=>by rcases(hu op hop).2 with e|e<;>rw[e]<;>simp,hcom.deafW i hi,hd]) (fun _ h=>by omega) (fun h=>absurd h h6)
 have eV:Vc j (upd D i ⟨s+7,m',0⟩)=Vc j D:=by
  have:=sumTo_upd D (⟨s+7,m',0⟩:WD) cnt hi;have e2:cnt (⟨s+7,m',0⟩:WD)=1:=by simp[cnt]
  simp only[Vc]at *;omega
 have hmode':Md j (upd D i ⟨s+7,m',0⟩) tag st sm:=by
  have ho:Yg j D→Yg j (upd D i ⟨s+7,m',0⟩):=fun h b hb=>by
   by_cases e:b=i
   ·subst e;rw[upd_same];left;simp only;omega
   ·rw[upd_ne D _ e];exact h b hb
  cases hmode with
  |opn h1 h2 h3=>rw[←eV];exact .opn h1 (ho h2) (fun vs e=>by rw[eV];exact h3 vs e)
  |reg h1 h2 h3=>rw[←eV];exact .reg h1 (ho h2) (by rw[eV];exact h3)
  |last Lx h1 h2 h3 h4=>
   by_cases e:i=Lx
   ·subst e;omega
   ·have:=h4 i hi e;omega
  |sema _ h2=>have:=h2 i hi;omega
  |fin h1 h2=>have:=h2 i hi;omega
 rw[←hw']at hrun;exact⟨_,_,_,hrun,hm,_,w',sl,j,upd D i ⟨s+7,m',0⟩,upd O (i+1) (O (i+1)),upd L i left',tag,f0,d0,a,st,sm,rfl,by rw[QhR (by omega)];exact ha,by rw[upd_ne O _ (by omega)];exact hcs.rely (hrk 0),hcom',hwg.of_block (hheap _ (Ne.symm G.ne)),hmode',by omega,hp,fun e=>absurd e htb,rfl⟩
end
end Co
end Go.Proofs.YtcpnkpogebjieaaGreat
