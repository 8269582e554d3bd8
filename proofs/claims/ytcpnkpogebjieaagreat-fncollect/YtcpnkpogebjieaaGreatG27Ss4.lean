/- Pieces of code that start nobody, run in company by their walk alone; leaving a function -/
import Derived.Test.YtcpnkpogebjieaaGreatG26Yj
import Derived.Test.YtcpnkpogebjieaaGreatG18Ye
import Derived.Test.YtcpnkpogebjieaaGreatG16Ss3
open Go.Value renaming slice→Qhp,int→Qhr,string→Qhs
open Go.Obj renaming cells→Qhq
set_option maxHeartbeats 800000
set_option maxRecDepth 100000
namespace Go.Proofs.YtcpnkpogebjieaaGreat
namespace Co
open Go.Conc Go.ConcN Go.RowKit Go.Conc.Lib
section
variable {X:Nat→Bool} {Ch:Nat} {Fin:Goroutine→World→Prop} {cs:List Frame}
theorem Qf2 {w1 w1':World}(hE:Em X w1 w1')(hX:XOk X w1)(hW:WOk (LOk Tryz.progTables Cut.keep) w1'):Sn X w1:=
 ⟨hX,fun r o ho=>hW r o (by rw[hE.heap r,←Q7];exact ho)⟩
theorem QaE {fr:Frame}{w:World}(hs:Sn X w)(hf:FOk Tryz.progTables Cut.keep X fr)(hmode:fr.mode=.run∨fr.mode=.returning){R:Frame→World→Prop}
 (H:∀t d,∃fr1 w1',Steps Cut.prog (lone fr [c0] {emW X w with tape:=t,drawn:=d}) (lone fr1 [c0] w1')∧(fr1.mode=.run∨fr1.mode=.returning)∧R fr1 w1')
 (K:∀fr1 w1 w1',Em X w1 w1'→Sn X w1→Qy X w w1→FOk Tryz.progTables Cut.keep X fr1→R fr1 w1'→Qt Tryz.prog X Ch Fin (G fr1 cs) w1):Qt Tryz.prog X Ch Fin (G fr cs) w:=by
 have h1:=Qbe (Fin:=fun g w1=>∃fr1 w1',g=G fr1 cs∧Em X w1 w1'∧Sn X w1∧Qy X w w1∧FOk Tryz.progTables Cut.keep X fr1∧R fr1 w1') (mid:=[]) (cs0:=cs) Cut.cut hf hmode (fun x hx=>by cases hx) hs.xok hs.wok (fun t d=>by
  obtain⟨fr1,w1',h1,h2,h3⟩:=H t d
  exact⟨fr1,[],w1',h1,h2,fun w1 k1 _ k3 k4 k5 k6 _=>⟨fr1,w1',rfl,k3,Qf2 k3 k4 k5,k6,k1,h3⟩⟩)
 refine Pc h1 ?_
 rintro g w1 ⟨fr1,w1',rfl,k1,k2,k3,k4,k5⟩
 exact K fr1 w1 w1' k1 k2 k3 k4 k5
theorem V5 {b:Frame}{a:Act}{c:Code}{k:List Item}{w:World}(hs:Sn X w)(hf:FOk Tryz.progTables Cut.keep X (b.at a (.code c::k))){R Rr:Act→World→Prop}
 (H:∀t d,c.wp Cut.prog (Z9 R Rr) a {emW X w with tape:=t,drawn:=d})
 (K:∀a' w1 w1',Em X w1 w1'→Sn X w1→Qy X w w1→FOk Tryz.progTables Cut.keep X (b.at a' k)→R a' w1'→Qt Tryz.prog X Ch Fin (G (b.at a' k) cs) w1)
 (Kr:∀a' todo w1 w1',Em X w1 w1'→Sn X w1→Qy X w w1→FOk Tryz.progTables Cut.keep X {b.at a' todo with mode:=.returning}→Rr a' w1'→Qt Tryz.prog X Ch Fin (G {b.at a' todo with mode:=.returning} cs) w1):
 Qt Tryz.prog X Ch Fin (G (b.at a (.code c::k)) cs) w:=by
 refine QaE hs hf (.inl rfl) (R:=fun fr1 w1'=>(∃a',fr1=b.at a' k∧R a' w1')∨∃a' todo,fr1={b.at a' todo with mode:=.returning}∧Rr a' w1') (fun t d=>?_) ?_
 ·obtain⟨e,a',w',hq,ha⟩:=H t d b k [c0]
  cases e with
  |normal=>exact⟨_,w',ha,.inl rfl,.inl ⟨a',rfl,hq⟩⟩
  |ret=>
   obtain⟨todo,hst⟩:=ha
   exact⟨_,w',hst,.inr rfl,.inr ⟨a',todo,rfl,hq⟩⟩
  |_=>exact hq.elim
 ·rintro fr1 w1 w1' hE hS hK hF (⟨a',rfl,hR⟩|⟨a',todo,rfl,hR⟩)
  ·exact K a' w1 w1' hE hS hK hF hR
  ·exact Kr a' todo w1 w1' hE hS hK hF hR
theorem Ky {fr c:Frame}{w w':World}{v:Value}(hs:Sn X w)(hf:FOk Tryz.progTables Cut.keep X fr)(hm:fr.mode=.returning)(hd:fr.defers=[]){fn:Func}(hfn:Tryz.prog.funcs[fr.fn]? =some fn)(hE:Em X w w')(hres:(results fn fr.tmps).run Cut.prog w'=.ok v w')
 (K:∀d,Qt Tryz.prog X Ch Fin (G (c.finish v) cs) (w.at d)):Qt Tryz.prog X Ch Fin (G fr (c::cs)) w:=by
 have hW:WOk (LOk Tryz.progTables Cut.keep) w':=fun r o ho=>hs.wok r o (by rw[Q7,←hE.heap r];exact ho)
 have key:∀d,∃es,stepG Tryz.prog true (G fr (c::cs)) (w.at d)=.go (G (c.finish v) cs) (w.at d) es∧w.heap.size≤(w.at d).heap.size∧∀B,(w.at d).heap.size≤B→∀e∈es,Ev X B e:=by
  intro d
  have hrd:=O9 fn fr.tmps (PP Tryz.progTables Tryz.funcs) (w.at d)
  obtain⟨ok,_⟩:=(V9 (F:=Tryz.funcs) (F':=Cut.funcs) (S:=Cut.keep) (X:=X) fn fr.tmps).tr (w.at d) w' ⟨hE.heap,hE.size,hE.os,hE.out⟩ ⟨hs.xok.lt,hs.xok.ob⟩ hW (fun k hk=>by rw[hrd]at hk;omega)
  obtain⟨w2,e1,_,_,_,_,_,e7⟩:=ok v w' hres
  rw[e1]at hrd
  have e2:w2=w.at d:=hrd
  subst e2
  have e1':(results fn fr.tmps).run Tryz.prog (w.at d)=.ok v (w.at d):=e1
  refine⟨seen Tryz.prog fr.fn ((results fn fr.tmps).events Tryz.prog (w.at d) #[])++ #[],?_,Nat.le_refl _,fun B hB e he=>?_⟩
  ·have e3:stepG Tryz.prog true (G fr (c::cs)) (w.at d)=unwind Tryz.prog true fr (c::cs) none (w.at d):=by simp[stepG,G,hm]
   rw[e3]
   unfold unwind
   rw[hd,hm]
   simp only[hfn,Sem.runT_eq,e1',doReturn,hf.kind,GStep.after]
   rfl
  ·have he':e∈seen Tryz.prog fr.fn ((results fn fr.tmps).events Tryz.prog (w.at d) #[]):=by simpa using he
   exact e7 B hB #[] (fun e he=>by simp at he) e (mem_seen he')
 refine .step rfl (fun d=>?_) (fun d g' w1 es hgo=>?_)
 ·obtain⟨es,h1,h2,h3⟩:=key d
  exact⟨_,_,es,h1,h2,h3⟩
 ·obtain⟨es',h1,_⟩:=key d
  rw[h1]at hgo
  cases hgo
  exact K d
end
end Co
section
open Go.RowKit
theorem QfQ {P:Program}(w:World)(base:Nat)(t ty e:TypeId)(i:TypeInfo)(z:Value)(size bytes:Nat)(ht:P.underlying t=some (.slice e))(hi:P.info? e=some i)(hz:i.zero=some z)
 (hsize:i.size=size)(hby:i.bytes=bytes)(hzs:z.cells.size=size)(hsz:0<size)
 (v:Value)(n:Nat)(xs:List Value)(hown:w.ownsRow base e size v n xs)
 (src:Option Addr)(m c:Nat)(news:List Value)(hl:news.length=m*size)(hsrc:0<m→∃ad,src=some ad∧∀j u,news[j]? =some u→w.cell? (ad.add j)=some u)(h1:∀u∈news,u.oneCell'=true)
 (h63:n+m≤maxLen)(hbytes:(n+m)*bytes≤140737488355328)(hbase:base≤w.heap.size):
 ∃v' w',(Builtin.append_ #[t,t] ty #[v,.slice src m c]).run P w=.ok v' w'∧w'.ownsRow base e size v' (n+m) (xs++news)∧w.grownBy w' v.ownBlock∧
  (v'.ownBlock=v.ownBlock∨v'.ownBlock=some w.heap.size):=by
 cases src with
 |some ad=>
  have hnews:∀j u,news[j]? =some u→w.cell? (ad.add j)=some u:=fun j u hj=>by
   rcases Nat.eq_zero_or_pos m with h0|h0
   ·have:news=[]:=List.eq_nil_of_length_eq_zero (by rw[hl,h0];simp)
    rw[this]at hj;simp at hj
   ·obtain⟨ad',e1,e2⟩:=hsrc h0
    cases e1
    exact e2 j u hj
  obtain⟨v',w',hr,h2,h3,_,h5⟩:=run_append_own_at (P:=P) w base t ty e i z size bytes ht hi hz hsize hby hzs hsz v n xs hown ad m c news hl hnews h1 h63 hbytes hbase
  exact⟨v',w',hr,h2,h3,h5⟩
 |none=>
  have h0:m=0:=by
   rcases Nat.eq_zero_or_pos m with h0|h0
   ·exact h0
   ·obtain⟨ad',e1,_⟩:=hsrc h0
    cases e1
  subst h0
  have hn:news=[]:=List.eq_nil_of_length_eq_zero (by simpa using hl)
  subst hn
  refine⟨v,w,?_,by simpa using hown,UE _ _,Or.inl rfl⟩
  rcases hown.2 with⟨rfl,rfl⟩|⟨g,cap,cur,rfl,hbg,hg,hnc,hcm,hcs,htake⟩
  ·simp[Builtin.append_,run_underlying ht,sizeOf,typeInfo,hi,Builtin.lenOf,Builtin.firstCells]
  ·simp[Builtin.append_,run_underlying ht,sizeOf,typeInfo,hi,Builtin.lenOf,Builtin.firstCells,hnc,storeCells]
theorem Qbk {P:Program}(w:World){o:Oper}{a:Act}{K:Act→World→Prop}{Q:Exit→Act→World→Prop}(s x:Operand)(t:TypeId)
 (ho:o.op=.call {callee:=.builtin .append,args:=#[s,x],argTypes:=#[t,t]})
 (base:Nat)(e:TypeId)(i:TypeInfo)(z:Value)(size bytes:Nat)(ht:P.underlying t=some (.slice e))(hi:P.info? e=some i)(hz:i.zero=some z)
 (hsize:i.size=size)(hby:i.bytes=bytes)(hzs:z.cells.size=size)(hsz:0<size)
 (v:Value)(n:Nat)(xs:List Value)(hs:a.eval s=v)(hown:w.ownsRow base e size v n xs)
 (src:Option Addr)(m c:Nat)(news:List Value)(hx:a.eval x=.slice src m c)(hl:news.length=m*size)(hsrc:0<m→∃ad,src=some ad∧∀j u,news[j]? =some u→w.cell? (ad.add j)=some u)(h1:∀u∈news,u.oneCell'=true)
 (h63:n+m≤maxLen)(hbytes:(n+m)*bytes≤140737488355328)(hbase:base≤w.heap.size)
 (h:∀v' w',w'.ownsRow base e size v' (n+m) (xs++news)→w.grownBy w' v.ownBlock→(v'.ownBlock=v.ownBlock∨v'.ownBlock=some w.heap.size)→K (a.put o.dst v') w'):o.wp P a w K Q:=by
 obtain⟨v',w',hr,h2,h3,h5⟩:=QfQ (P:=P) w base t o.type e i z size bytes ht hi hz hsize hby hzs hsz v n xs hown src m c news hl hsrc h1 h63 hbytes hbase
 unfold Oper.wp execOp
 simp only[ho,resolve,invoke,builtin,Sem.run_bind,Sem.run_pure,Result.andThen_ok,List.map_toArray,List.map_cons,List.map_nil,hs,hx,hr]
 exact h v' w' h2 h3 h5
theorem VI {P:Program}(w:World){ops:Array Oper}{rest:List Oper}{o:Oper}{a:Act}{Q:Exit→Act→World→Prop}(hgd:o.guard=none)(s x:Operand)(t:TypeId)
 (ho:o.op=.call {callee:=.builtin .append,args:=#[s,x],argTypes:=#[t,t]})
 (base:Nat)(e:TypeId)(i:TypeInfo)(z:Value)(size bytes:Nat)(ht:P.underlying t=some (.slice e))(hi:P.info? e=some i)(hz:i.zero=some z)
 (hsize:i.size=size)(hby:i.bytes=bytes)(hzs:z.cells.size=size)(hsz:0<size)
 (v:Value)(n:Nat)(xs:List Value)(hs:a.eval s=v)(hown:w.ownsRow base e size v n xs)
 (src:Option Addr)(m c:Nat)(news:List Value)(hx:a.eval x=.slice src m c)(hl:news.length=m*size)(hsrc:0<m→∃ad,src=some ad∧∀j u,news[j]? =some u→w.cell? (ad.add j)=some u)(h1:∀u∈news,u.oneCell'=true)
 (h63:n+m≤maxLen)(hbytes:(n+m)*bytes≤140737488355328)(hbase:base≤w.heap.size)
 (h:∀v' w',w'.ownsRow base e size v' (n+m) (xs++news)→w.grownBy w' v.ownBlock→(v'.ownBlock=v.ownBlock∨v'.ownBlock=some w.heap.size)→wpList P ops Q rest (a.put o.dst v') w'):wpList P ops Q (o::rest) a w:=
 wpList_plain hgd fun _ hK=>Qbk w s x t ho base e i z size bytes ht hi hz hsize hby hzs hsz v n xs hs hown src m c news hx hl hsrc h1 h63 hbytes hbase fun v' w' h2 h3 h4=>hK _ _ (h v' w' h2 h3 h4)
theorem US {P:Program}(w:World){ops:Array Oper}{o:Oper}{a:Act}{K:Act→World→Prop}{Q:Exit→Act→World→Prop}{E:Prop}(hgd:o.guard=none)(s x:Operand)(t:TypeId)
 (ho:o.op=.call {callee:=.builtin .append,args:=#[s,x],argTypes:=#[t,t]})
 (base:Nat)(e:TypeId)(i:TypeInfo)(z:Value)(size bytes:Nat)(ht:P.underlying t=some (.slice e))(hi:P.info? e=some i)(hz:i.zero=some z)
 (hsize:i.size=size)(hby:i.bytes=bytes)(hzs:z.cells.size=size)(hsz:0<size)
 (v:Value)(n:Nat)(xs:List Value)(hs:a.eval s=v)(hown:w.ownsRow base e size v n xs)
 (src:Option Addr)(m c:Nat)(news:List Value)(hx:a.eval x=.slice src m c)(hl:news.length=m*size)(hsrc:0<m→∃ad,src=some ad∧∀j u,news[j]? =some u→w.cell? (ad.add j)=some u)(h1:∀u∈news,u.oneCell'=true)
 (h63:n+m≤maxLen)(hbytes:(n+m)*bytes≤140737488355328)(hbase:base≤w.heap.size)
 (h:∀v' w',w'.ownsRow base e size v' (n+m) (xs++news)→w.grownBy w' v.ownBlock→(v'.ownBlock=v.ownBlock∨v'.ownBlock=some w.heap.size)→K (a.put o.dst v') w'):
 if Region.wanted o (yielded ops a.tmps)=true then Oper.wp P o a w K Q else E:=by
 have hw:Region.wanted o (yielded ops a.tmps)=true:=by simp[Region.wanted,hgd]
 rw[if_pos hw]
 exact Qbk w s x t ho base e i z size bytes ht hi hz hsize hby hzs hsz v n xs hs hown src m c news hx hl hsrc h1 h63 hbytes hbase h
theorem Qk.src {w:World}{a:Option Addr}{zs:List Int}(h:Qk w a zs):0<zs.length→∃ad,a=some ad∧∀j u,(zs.map (Qhr .i64))[j]? =some u→w.cell? (ad.add j)=some u:=fun hm=>by
 obtain⟨b,off,h1,h2,h3⟩:=h hm
 refine⟨_,h1,fun j u hj=>?_⟩
 rw[List.getElem?_map]at hj
 cases hz:zs[j]? with
 |none=>rw[hz]at hj;simp at hj
 |some z=>
  rw[hz]at hj
  simp at hj
  subst hj
  have hjl:j<zs.length:=by
   rcases Nat.lt_or_ge j zs.length with q|q
   ·exact q
   ·rw[List.getElem?_eq_none q]at hz;simp at hz
  have:=h3 j hjl
  have ea:(⟨b,off,none⟩:Addr).add j=⟨b,off+j,none⟩:=by
   unfold Addr.add
   by_cases h:j=0
   ·subst h;simp
   ·simp[h]
  rw[ea,this]
  simp[List.getD,hz]
theorem QE.src {w:World}{a:Option Addr}{ws:List (Int×Int)}(h:QE w a ws):0<ws.length→∃ad,a=some ad∧∀j u,(ws.flatMap wc)[j]? =some u→w.cell? (ad.add j)=some u:=fun hm=>by
 obtain⟨b,off,h1,h2,h3⟩:=h hm
 refine⟨_,h1,fun j u hj=>?_⟩
 have hjl:j<ws.length*2:=by
  rcases Nat.lt_or_ge j (ws.length*2)with q|q
  ·exact q
  ·rw[List.getElem?_eq_none (by rw[JQ wc 2 (fun _=>rfl)];exact q)]at hj;simp at hj
 have hi:j/2<ws.length:=by omega
 have hg:=Jw wc 2 (fun _=>rfl) ws (j/2) (j%2) hi (Nat.mod_lt _ (by omega))
 have ej:j/2*2+j%2=j:=by omega
 rw[ej,hj]at hg
 have ea:(⟨b,off,none⟩:Addr).add j=⟨b,off+j,none⟩:=by
  unfold Addr.add
  by_cases h:j=0
  ·subst h;simp
  ·simp[h]
 obtain⟨c1,c2⟩:=h3 (j/2) hi
 rw[ea]
 rcases Nat.mod_two_eq_zero_or_one j with h0|h0
 ·rw[h0]at hg
  simp[wc]at hg
  have:off+j=off+j/2*2:=by omega
  rw[this,c1,hg]
 ·rw[h0]at hg
  simp[wc]at hg
  have:off+j=off+j/2*2+1:=by omega
  rw[this,c2,hg]
theorem UF (zs:List Int):∀u∈zs.map (Qhr .i64),u.oneCell'=true:=fun u hu=>by
 obtain⟨z,_,rfl⟩:=List.mem_map.1 hu
 rfl
theorem JL (ws:List (Int×Int)):∀u∈ws.flatMap wc,u.oneCell'=true:=fun u hu=>by
 obtain⟨p,_,hp⟩:=List.mem_flatMap.1 hu
 simp[wc]at hp
 rcases hp with rfl|rfl<;>rfl
theorem Kw (o:Ob)(w:World)(hr:Qk w o.ra o.r)(hl:o.r.length≤1048576):
 Calls Cut.prog 37 #[.agg #[.int .i64 o.k,.string o.t,.slice o.ra o.r.length o.rcap]] w fun e w'=>∃(a:Option Addr) (c:Nat),e=.returned (.agg #[.int .i64 o.k,.string o.t,.slice a o.r.length c])∧Qa w' w.heap.size (.slice a o.r.length c) o.r∧Below w.heap.size w w':=by
 obtain⟨k0,t0,ra0,rc0,r0⟩:=o
 dsimp only at *
 obtain⟨i0,hi,hz0,hz1,hz2⟩:=info_parts Ja
 have hB:Below w.heap.size w (((w.alloc (Qhq #[Qhr .i64 k0,Qhs t0,Qhp ra0 r0.length rc0] 37)).alloc (Qhq #[Qhr .i64 0,Qhs ⟨#[]⟩,Qhp none 0 0] 37)).alloc (Qhq #[] 3)):=(((Below.refl _ w).alloc (Nat.le_refl _) _).alloc (by simp) _).alloc (by simp;omega) _
 have hO:(((w.alloc (Qhq #[Qhr .i64 k0,Qhs t0,Qhp ra0 r0.length rc0] 37)).alloc (Qhq #[Qhr .i64 0,Qhs ⟨#[]⟩,Qhp none 0 0] 37)).alloc (Qhq #[] 3)).ownsRow w.heap.size 3 1 (.slice (some ⟨w.heap.size+1+1,0,none⟩) 0 0) 0 []:=by
  have:=World.ownsRow_lit (e:=3) (size:=1) (base:=w.heap.size) ((w.alloc (Qhq #[Qhr .i64 k0,Qhs t0,Qhp ra0 r0.length rc0] 37)).alloc (Qhq #[Qhr .i64 0,Qhs ⟨#[]⟩,Qhp none 0 0] 37)) #[] 0 (by simp;omega) (Nat.zero_le _) rfl
  simpa using this
 have hsr:=(hr.below hB (Nat.le_refl _)).src
 have hb1:Blk (((w.alloc (Qhq #[Qhr .i64 k0,Qhs t0,Qhp ra0 r0.length rc0] 37)).alloc (Qhq #[Qhr .i64 0,Qhs ⟨#[]⟩,Qhp none 0 0] 37)).alloc (Qhq #[] 3)) w.heap.size [Qhr .i64 k0,Qhs t0,Qhp ra0 r0.length rc0] 37:=((Blk.new w _ _).alloc _).alloc _
 have hb2:Blk (((w.alloc (Qhq #[Qhr .i64 k0,Qhs t0,Qhp ra0 r0.length rc0] 37)).alloc (Qhq #[Qhr .i64 0,Qhs ⟨#[]⟩,Qhp none 0 0] 37)).alloc (Qhq #[] 3)) (w.heap.size+1) [Qhr .i64 0,Qhs ⟨#[]⟩,Qhp none 0 0] 37:=by
  have:=(Blk.new (w.alloc (Qhq #[Qhr .i64 k0,Qhs t0,Qhp ra0 r0.length rc0] 37)) [Qhr .i64 0,Qhs ⟨#[]⟩,Qhp none 0 0] 37).alloc (Qhq #[] 3)
  simpa using this
 obtain⟨W0,hW0⟩:∃W0,W0=(((w.alloc (Qhq #[Qhr .i64 k0,Qhs t0,Qhp ra0 r0.length rc0] 37)).alloc (Qhq #[Qhr .i64 0,Qhs ⟨#[]⟩,Qhp none 0 0] 37)).alloc (Qhq #[] 3)):=⟨_,rfl⟩
 rw[←hW0]at hB hO hsr hb1 hb2
 go_enter (Cut.func_of Tryz.func37 rfl),Tryz.ntmps37
 go_wp2_with (at_builtin;rw[←hW0];refine VI _ rfl _ _ 24 rfl w.heap.size 3 i0 (.int .i64 0) 1 8 ((Cut.under_eq 24).trans Tryz.underlying24) hi hz0 hz1 hz2 rfl (by decide) _ _ _ rfl hO ra0 r0.length rc0 (r0.map (Qhr .i64)) rfl (by simp) hsr (UF _) ?c1 ?c2 hB.size ?_)
 case c1=>unfold maxLen;omega
 case c2=>omega
 intro v' w2 hown hgr hat
 rw[←hW0]at hgr
 clear hW0
 have hne1:=Qr hO hb1 (by decide)
 have hne2:=Qr hO hb2 (by decide)
 have hc1:=hb1.grown hgr hne1
 have hc2:=hb2.grown hgr hne2
 have ho:Qa w2 w.heap.size v' r0:=by unfold Qa;simpa using hown
 have hbw:Below w.heap.size w w2:=hB.trans (QL hgr hB.size (fun k e=>(hO.lt k e).1))
 obtain⟨va,vc,rfl,-⟩:=ho.form
 obtain⟨x0,x1,x2⟩:w2.cell? ⟨w.heap.size,0,none⟩=some (.int .i64 k0)∧w2.cell? ⟨w.heap.size,1,none⟩=some (.string t0)∧w2.cell? ⟨w.heap.size,2,none⟩=some (.slice ra0 r0.length rc0):=⟨hc1.cell 0,hc1.cell 1,hc1.cell 2⟩
 obtain⟨y0,y1,y2⟩:w2.cell? ⟨w.heap.size+1,0,none⟩=some (.int .i64 0)∧w2.cell? ⟨w.heap.size+1,1,none⟩=some (.string ⟨#[]⟩)∧w2.cell? ⟨w.heap.size+1,2,none⟩=some (.slice none 0 0):=⟨hc2.cell 0,hc2.cell 1,hc2.cell 2⟩
 have f0:=hc1.free 2
 have g0:=hc2.free 0
 have g1:=hc2.free 1
 have g2:=hc2.free 2
 have hs1:=hc1.store 2 (.slice va r0.length vc)
 have hs2:=hc2.other ⟨w.heap.size,2,none⟩ (.slice va r0.length vc) (by dsimp only;omega)
 have k1:Qh 37 w2 (w2.setCell ⟨w.heap.size,2,none⟩ (.slice va r0.length vc)):=Qh.set hc1 2 _
 have ht1:=hs2.store 0 (.int .i64 k0)
 have ht2:=ht1.store 1 (.string t0)
 have ht3:=ht2.store 2 (.slice va r0.length vc)
 have k4:=((k1.trans (Qh.set hs2 0 (.int .i64 k0))).trans (Qh.set ht1 1 (.string t0))).trans (Qh.set ht2 2 (.slice va r0.length vc))
 have hoE:Qa _ w.heap.size (.slice va r0.length vc) r0:=Qm ho k4 (by decide)
 have hbE:=(((hbw.setCell (p:=⟨w.heap.size,2,none⟩) (Nat.le_refl _) (.slice va r0.length vc)).setCell (p:=⟨w.heap.size+1,0,none⟩) (by dsimp only;omega) (.int .i64 k0)).setCell (p:=⟨w.heap.size+1,1,none⟩) (by dsimp only;omega) (.string t0)).setCell (p:=⟨w.heap.size+1,2,none⟩) (by dsimp only;omega) (.slice va r0.length vc)
 obtain⟨z0,z1,z2⟩:_∧_∧_:=⟨ht3.cell 0,ht3.cell 1,ht3.cell 2⟩
 simp only[List.set_cons_zero,List.set_cons_succ,List.getElem?_cons_zero,List.getElem?_cons_succ]at z0 z1 z2
 clear hown hgr hat hB hO hsr hb1 hb2 hne1 hne2 hc1 hc2 hs1 hs2 ht1 ht2 ht3 k1 k4 ho hbw
 go_wp2
 refine bodyPost_ret (v:=.agg #[.int .i64 k0,.string t0,.slice va r0.length vc]) ?_ rfl ⟨va,vc,rfl,hoE,hbE⟩
 simp[results,Tryz.results37,go_sem,z0,z1,z2]
def Vo (n:Nat)(l:Array Bool):Nat:=((List.range n).filter fun i=>!l.getD i true).length
theorem Qdu {α:Type}{p q:α→Bool}:∀ {l:List α} {x:α},x∈l→p x=true→q x=false→(∀y,q y=true→p y=true)→(l.filter q).length<(l.filter p).length:=by
 intro l
 induction l with
 |nil=>intro x hx;simp at hx
 |cons a l ih=>
  intro x hx hp hq hqp
  have hle:(l.filter q).length≤(l.filter p).length:=by
   clear ih hx
   induction l with
   |nil=>simp
   |cons b l ih=>
    simp only[List.filter_cons]
    by_cases h:q b=true
    ·simp[h,hqp b h,ih]
    ·by_cases h':p b=true
     ·simp[h,h'];omega
     ·simp[h,h',ih]
  rcases List.mem_cons.1 hx with rfl|hx
  ·simp[hp,hq];omega
  ·have:=ih hx hp hq hqp
   simp only[List.filter_cons]
   by_cases h:q a=true
   ·simp[h,hqp a h,this]
   ·by_cases h':p a=true
    ·simp[h,h'];omega
    ·simp[h,h',this]
theorem OM {n:Nat}{l:Array Bool}{i:Nat}(hi:i<n)(h:l.getD i true=false):Vo n (l.setIfInBounds i true)<Vo n l:=by
 unfold Vo
 refine Qdu (x:=i) (List.mem_range.2 hi) (by simp[h]) ?_ fun y hy=>?_
 ·simp[Array.getD_eq_getD_getElem?,Array.getElem?_setIfInBounds]
  split<;>simp_all
 ·by_cases e:i=y
  ·subst e
   simp[Array.getD_eq_getD_getElem?,Array.getElem?_setIfInBounds]at hy
   split at hy<;>simp_all
  ·rw[getD_set_ne true e]at hy
   exact hy
theorem Qhm {P:Program}{md:Region.Mode}{ops:Array Oper}{Q:Exit→Act→World→Prop}{S:World→Prop}(I:Array Bool→Act→World→Prop)(hS:∀l a w,I l a w→S w)
 (step:∀l a w i o,I l a w→l.getD i true=false→ops[i]? =some o→(∀e∈o.after,Region.binds md e=true→l.getD e.on false=true)→∀K:Act→World→Prop,Shut (∀a' w',I (l.setIfInBounds i true) a' w'→K a' w')→if Region.wanted o (yielded ops a.tmps)=true then Oper.wp P o a w K Q else K (a.put o.dst undef) w)
 (done:∀l a w,I l a w→Region.ready md ops l=[]→Q .normal a w):∀(fuel:Nat) (l:Array Bool) (a:Act) (w:World),Vo ops.size l≤fuel→I l a w→wpAnyH P md ops Q S fuel l a w:=by
 intro fuel
 induction fuel with
 |zero=>
  intro l a w hl hI
  have hr:Region.ready md ops l=[]:=by
   rw[List.eq_nil_iff_forall_not_mem]
   intro i hi
   obtain⟨h1,o,ho,_⟩:=mem_ready.1 hi
   have hlt:i<ops.size:=(Array.getElem?_eq_some_iff.1 ho).1
   have:=OM hlt h1
   omega
  exact⟨hr,done l a w hI hr⟩
 |succ fuel ih=>
  intro l a w hl hI
  refine⟨fun hr=>done l a w hI hr,fun i hi=>?_⟩
  obtain⟨h1,o,ho,h2⟩:=mem_ready.1 hi
  have hlt:i<ops.size:=(Array.getElem?_eq_some_iff.1 ho).1
  have hs:=OM hlt h1
  exact wpOp_step ho fun K hK=>step l a w i o hI h1 ho h2 K fun a' w' hI'=>hK a' w' ⟨hS _ _ _ hI',ih _ a' w' (by omega) hI'⟩
theorem Ye {md:Region.Mode}{ops:Array Oper}{l:Array Bool}(h:Region.ready md ops l=[]){i:Nat}{o:Oper}(ho:ops[i]? =some o)(ha:∀e∈o.after,Region.binds md e=true→l.getD e.on false=true):l.getD i true=true:=by
 cases hb:l.getD i true with
 |true=>rfl
 |false=>
  have:i∈Region.ready md ops l:=mem_ready.2 ⟨hb,o,ho,ha⟩
  rw[h]at this
  simp at this
structure K2 (w W:World) (a b:Hp):Prop where
 below:Below w.heap.size w W
 ba:Blk W w.heap.size a.cs 27
 bb:Blk W (w.heap.size+1) b.cs 27
theorem K2.step {w W W':World}{a b:Hp}(h:K2 w W a b)(hb:Below W.heap.size W W'):K2 w W' a b:=
 ⟨h.below.trans (hb.mono h.below.size),h.ba.below hb h.ba.lt,h.bb.below hb h.bb.lt⟩
theorem K2.start (w:World)(a b:Hp):K2 w ((w.alloc (Qhq #[Qhp a.oa a.os.length a.ocap,Qhp a.ra a.rs.length a.rcap,Qhp a.wa a.ws.length a.wcap,Qhp a.da a.ds.length a.dcap] 27)).alloc (Qhq #[Qhp b.oa b.os.length b.ocap,Qhp b.ra b.rs.length b.rcap,Qhp b.wa b.ws.length b.wcap,Qhp b.da b.ds.length b.dcap] 27)) a b:=by
 refine⟨((Below.refl _ _).alloc (Nat.le_refl _) _).alloc (by simp) _,(Blk.new w a.cs _).alloc _,?_⟩
 have:=Blk.new (w.alloc (Qhq #[Qhp a.oa a.os.length a.ocap,Qhp a.ra a.rs.length a.rcap,Qhp a.wa a.ws.length a.wcap,Qhp a.da a.ds.length a.dcap] 27)) b.cs 27
 rw[World.size_alloc]at this
 exact this
theorem K2.cells {w W:World}{a b:Hp}(h:K2 w W a b):
 (W.cell? ⟨w.heap.size,0,none⟩=some (.slice a.oa a.os.length a.ocap)∧W.cell? ⟨w.heap.size,1,none⟩=some (.slice a.ra a.rs.length a.rcap)∧W.cell? ⟨w.heap.size,2,none⟩=some (.slice a.wa a.ws.length a.wcap)∧W.cell? ⟨w.heap.size,3,none⟩=some (.slice a.da a.ds.length a.dcap))∧
 (W.cell? ⟨w.heap.size+1,0,none⟩=some (.slice b.oa b.os.length b.ocap)∧W.cell? ⟨w.heap.size+1,1,none⟩=some (.slice b.ra b.rs.length b.rcap)∧W.cell? ⟨w.heap.size+1,2,none⟩=some (.slice b.wa b.ws.length b.wcap)∧W.cell? ⟨w.heap.size+1,3,none⟩=some (.slice b.da b.ds.length b.dcap)):=
 ⟨QB h.ba,QB h.bb⟩
structure Fit (w:World) (h:Hp):Prop where
 isIn:Qg w h
 small:Zl h
 txt:∀i (hi:i<h.os.length),h.os[i].t.size≤maxLen
 cap:∀(i:Nat) (hi:i<h.os.length),h.os[i].r.length≤h.os[i].rcap
theorem Fit.below {w w':World}{h:Hp}{B:Nat}(hf:Fit w h)(hb:Below B w w')(hB:w.heap.size≤B):Fit w' h:=⟨hf.isIn.below hb hB,hf.small,hf.txt,hf.cap⟩
theorem Qi {P:Program}{ops:Array Oper}{Q:Exit→Act→World→Prop}{md:Region.Mode}{S:World→Prop}{i:Nat}{oi:Oper}{v:Value}{fuel:Nat}{listed:Array Bool}{a:Act}{w:World}(d:Nat)(hi:ops[i]? =some oi)(hd:oi.dst=some d)
 (hs:Region.noSelect ops=true)(hf:Region.free md ops listed i=true)(hr:(Region.ready md ops listed).contains i=true)
 (hQ:∀c a w,Q (.panic c) (a.put oi.dst v) w→Q (.panic c) a w)(hy:YieldsIf P ops S oi v a)(hS:S w)
 (h:wpAnyH P md ops Q S fuel (listed.setIfInBounds i true) {a with tmps:=a.tmps.setIfInBounds d v} w):wpAnyH P md ops Q S (fuel+1) listed a w:=
 wpAnyH_take hi hs hf hr hQ hy hS (by rw[hd];exact h)
end
end Go.Proofs.YtcpnkpogebjieaaGreat
