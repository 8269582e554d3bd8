/- A phase: goroutine 0 starts tellers and joins them: what each leans on, what each may do, -/
import Derived.Test.YtcpnkpogebjieaaGreatG07Zs
import Derived.Test.YtcpnkpogebjieaaGreatG10Yc
import Derived.Conc.WgGenN2
import Derived.Conc.WgWords
set_option maxRecDepth 100000
set_option maxHeartbeats 2000000
namespace Go.Proofs.YtcpnkpogebjieaaGreat
namespace Co
open Go.Conc Go.ConcN
open Go.ConcR (KK wgBlock WgAt stA smA rd wr mk Payload Aside2 DC0 Bk g_of_ofEvents again_blocked)
/-! ### a phase:goroutine 0 starts tellers,and joins them-/
structure Ph where
 P:Program
 ty:TypeId
 Wg:Nat
 Ch:Nat
 Low:Nat
 m0:Nat
 n0:Nat
 SB:Nat→Prop
structure RK (S:Ph) (own:List Nat) (w w1:World):Prop where
 low:∀b,b<S.Low→b≠S.Wg→b≠S.Ch→w1.heap[b]? =w.heap[b]?
 own:∀b,b∈own→w1.heap[b]? =w.heap[b]?
 live:WgLive S.ty S.Wg w→WgLive S.ty S.Wg w1
 oo:OO w1 w
theorem RK.refl (S:Ph)(own:List Nat)(w:World):RK S own w w:=⟨fun _ _ _ _=>rfl,fun _ _=>rfl,id,.refl _⟩
theorem RK.trans {S:Ph}{own:List Nat}{a b c:World}(h:RK S own a b)(k:RK S own b c):RK S own a c:=
 ⟨fun x h1 h2 h3=>(k.low x h1 h2 h3).trans (h.low x h1 h2 h3),fun x hx=>(k.own x hx).trans (h.own x hx),k.live∘h.live,k.oo.trans h.oo⟩
theorem RK.at (S:Ph)(own:List Nat)(w:World)(d:Nat):RK S own w (w.at d):=⟨fun _ _ _ _=>rfl,fun _ _=>rfl,id,⟨rfl,rfl⟩⟩
theorem RK.mono {S:Ph}{own own':List Nat}{a b:World}(h:RK S own a b)(hs:∀x,x∈own'→x∈own):RK S own' a b:=⟨h.low,fun x hx=>h.own x (hs x hx),h.live,h.oo⟩
theorem RK.rl {S:Ph}{own:List Nat}{a b:World}(h:RK S own a b):RL S.ty S.Wg a b:=h.live
def EvK (S:Ph)(own:List Nat)(e:Event):Prop:=∃a wr,e=⟨.cell a,wr,false⟩∧¬S.SB a.block∧(a.block∈own∨(a.block<S.Low∧wr=false))
structure Zc (own own':List Nat) (w w':World):Prop where
 same:∀b,b<w.heap.size→b∉own→w'.heap[b]? =w.heap[b]?
 grow:(own'=own∧w'.heap.size=w.heap.size)∨(own'=w.heap.size::own∧w'.heap.size=w.heap.size+1)
 oo:OO w' w
theorem Zc.refl (own:List Nat)(w:World):Zc own own w w:=⟨fun _ _ _=>rfl,.inl ⟨rfl,rfl⟩,.refl _⟩
theorem KY {S:Ph}{own:List Nat}:∀a b c,RK S own a b→RK S own b c→RK S own a c:=fun _ _ _ h k=>h.trans k
theorem JT {ty:TypeId}{Wg:Nat}:∀a b c,RL ty Wg a b→RL ty Wg b c→RL ty Wg a c:=fun _ _ _ h k=>k∘h
section
variable [Payload]
def OwC (C:Nat)(_:Nat)(l:Loc):Prop:=∃a,l=.cell a∧a.block=C
def VP (_:Nat)(_:Loc):Prop:=False
def Jl (S:Ph):Nat→List Nat→List Value→Goroutine→World→Prop
 |0,own,left,g,w=>left=[]∧∃C val m,C∈own∧Goes S.P false (RW S.ty S.Wg C 1 0 0) (DWs S.Wg (OwC C) VP C 1 1) (AtR0 S.P S.ty S.Wg C 1 0 1 val) m g w
 |s+1,own,left,g,w=>∃m,Goes S.P false (RK S own) DC0 (fun g w=>g.status=.running∧
   ((stepG S.P false g w).goes (fun g' w' es=>∃own',Zc own own' w w'∧(∀e∈es,EvK S own' e)∧Jl S s own' left g' w')∨
    ∃v left' g2 z shape,left=v::left'∧stepG S.P false g w=.comm g2 #[scase S.Ch v z] true shape w #[]∧Jl S s own left' (g2.finishComm S.P #[scase S.Ch v z] shape 0 undef false) w)) m g w
def Y1 (S:Ph)(s:Nat)(own:List Nat)(left:List Value)(g:Goroutine)(w:World):Prop:=g.status=.running∧
     ((stepG S.P false g w).goes (fun g' w' es=>∃own',Zc own own' w w'∧(∀e∈es,EvK S own' e)∧Jl S s own' left g' w')∨
      ∃v left' g2 z shape,left=v::left'∧stepG S.P false g w=.comm g2 #[scase S.Ch v z] true shape w #[]∧Jl S s own left' (g2.finishComm S.P #[scase S.Ch v z] shape 0 undef false) w)
theorem Jk (S:Ph)(s:Nat)(own:List Nat)(left:List Value)(g:Goroutine)(w:World):Jl S (s+1) own left g w=∃m,Goes S.P false (RK S own) DC0 (Y1 S s own left) m g w:=rfl
def JE (S:Ph)(Anch:Goroutine→World→Prop):Nat→Nat→List Nat→List (List Value)→Nat→Nat→Goroutine→World→Prop
 |0,_,_,rest,pend,d,g,w=>rest=[]∧pend=0∧d=0∧Sil S.P S.ty S.Wg (ZJ S.P .disable (Sil S.P S.ty S.Wg Anch)) g w
 |s+1,bd,own,rest,pend,d,g,w=>∃m,Goes S.P true (RK S own) DC0 (fun g w=>g.status=.running∧
   ((stepG S.P true g w).goes (fun g' w' es=>∃own',Zc own own' w w'∧(∀e∈es,EvK S own' e)∧JE S Anch s bd own' rest pend d g' w')∨
    (∃x g',(x=.disable∨x=.enable∨x=.read (smA S.Wg))∧stepG S.P true g w=.go g' w #[mk x]∧JE S Anch s bd own rest pend (deafBehind d #[mk x]) g' w)∨
    (pend=0∧∀v:Nat,v<1000000→WgAt S.ty S.Wg w (v*KK) 0→∃g',stepG S.P true g w=.go g' (w.setCell (stA S.Wg) (.int .u64 ((v+1:Nat)*KK))) #[rd (stA S.Wg),wr (stA S.Wg)]∧
      JE S Anch s bd own rest 1 d g' (w.setCell (stA S.Wg) (.int .u64 ((v+1:Nat)*KK))))∨
    (d=0∧pend=1∧∃g' child bs own' l rest' sW bd',rest=l::rest'∧bd=bd'+(sW+8)∧(∀x,x∈bs→x∈own)∧(∀x,x∈own'→x∈own)∧(∀x,x∈bs→x∉own')∧
      stepG S.P true g w=.spawn g' child w #[]∧Jl S sW bs l child w∧JE S Anch s bd' own' rest' 0 0 g' w))) m g w
def Ym (S:Ph)(Anch:Goroutine→World→Prop)(s bd:Nat)(own:List Nat)(rest:List (List Value))(pend d:Nat)(g:Goroutine)(w:World):Prop:=g.status=.running∧
     ((stepG S.P true g w).goes (fun g' w' es=>∃own',Zc own own' w w'∧(∀e∈es,EvK S own' e)∧JE S Anch s bd own' rest pend d g' w')∨
      (∃x g',(x=.disable∨x=.enable∨x=.read (smA S.Wg))∧stepG S.P true g w=.go g' w #[mk x]∧JE S Anch s bd own rest pend (deafBehind d #[mk x]) g' w)∨
      (pend=0∧∀v:Nat,v<1000000→WgAt S.ty S.Wg w (v*KK) 0→∃g',stepG S.P true g w=.go g' (w.setCell (stA S.Wg) (.int .u64 ((v+1:Nat)*KK))) #[rd (stA S.Wg),wr (stA S.Wg)]∧
        JE S Anch s bd own rest 1 d g' (w.setCell (stA S.Wg) (.int .u64 ((v+1:Nat)*KK))))∨
      (d=0∧pend=1∧∃g' child bs own' l rest' sW bd',rest=l::rest'∧bd=bd'+(sW+8)∧(∀x,x∈bs→x∈own)∧(∀x,x∈own'→x∈own)∧(∀x,x∈bs→x∉own')∧
        stepG S.P true g w=.spawn g' child w #[]∧Jl S sW bs l child w∧JE S Anch s bd' own' rest' 0 0 g' w))
theorem ZW (S:Ph)(Anch:Goroutine→World→Prop)(s bd:Nat)(own:List Nat)(rest:List (List Value))(pend d:Nat)(g:Goroutine)(w:World):
 JE S Anch (s+1) bd own rest pend d g w=∃m,Goes S.P true (RK S own) DC0 (Ym S Anch s bd own rest pend d) m g w:=rfl
theorem YP {S:Ph}{own:List Nat}{C:Nat}(hC:C∈own){w w1:World}(h:RK S own w w1):RW S.ty S.Wg C 1 0 0 w w1:=
 ⟨fun b hb=>absurd hb (Nat.not_lt_zero b),h.live,fun⟨cs,hc,hn⟩=>⟨cs,(h.own C hC).trans hc,hn⟩,cell_of_block (h.own C hC) 0⟩
theorem YQ {ty:TypeId}{Wg C:Nat}:∀a b c,RW ty Wg C 1 0 0 a b→RW ty Wg C 1 0 0 b c→RW ty Wg C 1 0 0 a c:=fun _ _ _ h k=>h.trans k
theorem Jl.rely {S:Ph}{s:Nat}{own:List Nat}{left:List Value}{g:Goroutine}{w w1:World}(h:Jl S s own left g w)(hr:RK S own w w1):Jl S s own left g w1:=by
 cases s with
 |zero=>
  obtain⟨h1,C,val,m,hC,hg⟩:=h
  exact⟨h1,C,val,m,hC,Goes.rely YQ hg (YP hC hr)⟩
 |succ s=>
  obtain⟨m,hg⟩:=h
  exact⟨m,Goes.rely KY hg hr⟩
end
end Co
namespace Co
open Go.Conc Go.ConcN Go.RowKit Go.Conc.Lib Go.ConcR.Gen Go.ConcN.Gen
open Go.ConcR (KK wgBlock WgAt stA smA rd wr mk Payload Aside2 DC0 ofEvent_cell)
set_option linter.unusedSimpArgs false
noncomputable def J3:Code:=match Tryz.f111.body with
 |some (.seq _ (.block _ (.loop b)))=>b
 |_=>.skip
def Okb (S:Ph)(b:Nat):Prop:=b<S.Low∧b≠S.Wg∧b≠S.Ch∧¬S.SB b
structure Dat (S:Ph) (w0:World) (bh bw bt:Nat) (wa:Option Addr) (wcap:Nat) (ws:List (Int×Int)) (gW:Nat) (wh:List Int):Prop where
 hb:w0.cell? ⟨bh,2,none⟩=some (.slice wa ws.length wcap)
 wb:w0.cell? ⟨bw,0,none⟩=some (.slice (some ⟨gW,0,none⟩) wh.length wh.length)
 tb:w0.cell? ⟨bt,0,none⟩=some (.chan (some S.Ch))
 ohb:Okb S bh
 owb:Okb S bw
 otb:Okb S bt
 ogw:Okb S gW
 sw:∀k (h:k<ws.length),∃b off,wa=some ⟨b,off,none⟩∧Okb S b∧w0.cell? ⟨b,off+k*2,none⟩=some (.int .i64 ws[k].1)∧w0.cell? ⟨b,off+k*2+1,none⟩=some (.int .i64 ws[k].2)
 sg:∀k (h:k<wh.length),w0.cell? ⟨gW,k,none⟩=some (.int .i64 wh[k])
 ob:∀k (h:k<ws.length),0≤ws[k].2∧ws[k].2<(wh.length:Int)
 big:S.Low≤w0.heap.size
 nw:(ws.length:Int)<1000000
 no:(wh.length:Int)<1000000
structure TF (S:Ph) (w0:World) (bp:Nat) (pv:Int) (w:World):Prop where
 low:∀b,b<S.Low→b≠S.Wg→b≠S.Ch→w.heap[b]? =w0.heap[b]?
 live:WgLive S.ty S.Wg w
 pl:w.cell? ⟨bp,0,none⟩=some (.int .i64 pv)
theorem TF.rely {S:Ph}{w0:World}{bp:Nat}{pv:Int}{own:List Nat}(hp:bp∈own){w w1:World}(h:TF S w0 bp pv w)(r:RK S own w w1):TF S w0 bp pv w1:=
 ⟨fun b h1 h2 h3=>(r.low b h1 h2 h3).trans (h.low b h1 h2 h3),r.live h.live,(cell_of_block (r.own bp hp) 0).trans h.pl⟩
theorem TF.cell {S:Ph}{w0:World}{bp:Nat}{pv:Int}{w:World}(h:TF S w0 bp pv w){b:Nat}(hb:Okb S b)(o:Nat):w.cell? ⟨b,o,none⟩=w0.cell? ⟨b,o,none⟩:=cell_of_block (h.low b hb.1 hb.2.1 hb.2.2.1) o
theorem QaZ (own:List Nat)(w:World)(o:Obj):Zc own (w.heap.size::own) w (w.alloc o):=
 ⟨fun b hb _=>Below.heap_alloc w o b hb,.inr ⟨rfl,by simp⟩,⟨rfl,rfl⟩⟩
theorem TF.lt {S:Ph}{w0:World}{bp:Nat}{pv:Int}{w:World}(hbig:S.Low≤w0.heap.size)(h:TF S w0 bp pv w){b:Nat}(hb:(b<S.Low∧b≠S.Wg∧b≠S.Ch)∨b=S.Wg∨b=bp):b<w.heap.size:=by
 rcases hb with⟨h1,h2,h3⟩|rfl|rfl
 ·have:=h.low b h1 h2 h3
  rw[Array.getElem?_eq_getElem (show b<w0.heap.size by omega)]at this
  exact(Array.getElem?_eq_some_iff.1 this).1
 ·obtain⟨st,sm,hl⟩:=h.live
  exact(Array.getElem?_eq_some_iff.1 hl).1
 ·have:=h.pl
  unfold World.cell? at this
  cases hx:w.heap[b]? with
  |none=>simp[hx]at this
  |some o=>exact(Array.getElem?_eq_some_iff.1 hx).1
theorem TF.keep {S:Ph}{w0:World}{bp:Nat}{pv:Int}{w w':World}(h:TF S w0 bp pv w)(hs:∀b,(b<S.Low∧b≠S.Wg∧b≠S.Ch)∨b=S.Wg∨b=bp→w'.heap[b]? =w.heap[b]?):TF S w0 bp pv w':=
 ⟨fun b h1 h2 h3=>(hs b (.inl ⟨h1,h2,h3⟩)).trans (h.low b h1 h2 h3),let⟨st,sm,hl⟩:=h.live;⟨st,sm,hl.of_block (hs _ (.inr (.inl rfl)))⟩,(cell_of_block (hs bp (.inr (.inr rfl))) 0).trans h.pl⟩
theorem TF.alloc {S:Ph}{w0:World}{bp:Nat}{pv:Int}{w:World}(hbig:S.Low≤w0.heap.size)(h:TF S w0 bp pv w)(o:Obj):TF S w0 bp pv (w.alloc o):=
 h.keep fun b hb=>Below.heap_alloc w o b (h.lt hbig hb)
structure TX (S:Ph) (w0:World) (bp:Nat) (pv:Int) (bx:Nat) (x y:Int) (w:World):Prop extends TF S w0 bp pv w where
 bk:w.heap[bx]? =some (.cells #[.int .i64 x,.int .i64 y] 40)
 ne:∀b,(b<S.Low∧b≠S.Wg∧b≠S.Ch)∨b=S.Wg∨b=bp→b≠bx
 ns:¬S.SB bx
theorem TX.rely {S:Ph}{w0:World}{bp:Nat}{pv:Int}{bx:Nat}{x y:Int}{own:List Nat}(hp:bp∈own)(hx:bx∈own){w w1:World}(h:TX S w0 bp pv bx x y w)(r:RK S own w w1):TX S w0 bp pv bx x y w1:=
 ⟨h.toTF.rely hp r,(r.own bx hx).trans h.bk,h.ne,h.ns⟩
theorem TX.c0 {S:Ph}{w0:World}{bp:Nat}{pv:Int}{bx:Nat}{x y:Int}{w:World}(h:TX S w0 bp pv bx x y w):w.cell? ⟨bx,0,none⟩=some (.int .i64 x):=by simp[World.cell?,h.bk]
theorem TX.c1 {S:Ph}{w0:World}{bp:Nat}{pv:Int}{bx:Nat}{x y:Int}{w:World}(h:TX S w0 bp pv bx x y w):w.cell? ⟨bx,1,none⟩=some (.int .i64 y):=by simp[World.cell?,h.bk]
theorem TX.f0 {S:Ph}{w0:World}{bp:Nat}{pv:Int}{bx:Nat}{x y:Int}{w:World}(h:TX S w0 bp pv bx x y w)(o:Nat):w.frozen? ⟨bx,o,none⟩=false:=by simp[World.frozen?,h.bk]
theorem TX.set {S:Ph}{w0:World}{bp:Nat}{pv:Int}{bx:Nat}{x y x' y':Int}{w:World}(h:TX S w0 bp pv bx x y w):TX S w0 bp pv bx x' y' ((w.setCell ⟨bx,0,none⟩ (.int .i64 x')).setCell ⟨bx,1,none⟩ (.int .i64 y')):=by
 have hb:Blk w bx [.int .i64 x,.int .i64 y] 40:=h.bk
 have h2:=(hb.store 0 (.int .i64 x')).store 1 (.int .i64 y')
 refine⟨h.toTF.keep fun b hb=>?_,h2,h.ne,h.ns⟩
 rw[Below.heap_setCell _ _ _ _ (h.ne b hb),Below.heap_setCell _ _ _ _ (h.ne b hb)]
theorem QgY {own:List Nat}{w:World}{bx:Nat}(hx:bx∈own)(v u:Value):Zc own own w ((w.setCell ⟨bx,0,none⟩ v).setCell ⟨bx,1,none⟩ u):=by
 refine⟨fun b _ hb=>?_,.inl ⟨rfl,by simp⟩,⟨rfl,rfl⟩⟩
 have hne:b≠bx:=fun e=>hb (e▸hx)
 rw[Below.heap_setCell _ _ _ _ hne,Below.heap_setCell _ _ _ _ hne]
theorem Qar {P:Program}{b:Frame}{a:Act}{k:List Item}{cs:List Frame}{ops:Array Oper}{i:Nat}{rest:List Nat}{o:Oper}{x y:Operand}{v:Value}{c:Nat}(w:World)(ho:ops[i]? =some o)(hw:Region.wanted o (yielded ops a.tmps)=true)(hk:b.kind≠.early)(hop:o.op=.send x y)
 (hx:a.eval x=.chan (some c))(hy:a.eval y=v):
 stepG P false (G (b.at a (.inRegion ops (i::rest)::k)) cs) w=.comm (G (b.at a (.inRegion ops (i::rest)::k)) cs) #[scase c v (.tuple #[])] true .send w #[]∧
  (G (b.at a (.inRegion ops (i::rest)::k)) cs).finishComm P #[scase c v (.tuple #[])] .send 0 undef false=G (b.at (a.put o.dst undef) (.inRegion ops rest::k)) cs:=by
 constructor
 ·rw[stepG_comm (cases:=#[scase c v (.tuple #[])]) (blocking:=true) (shape:=.send) (w':=w) ho hw hk (by simp[execOp,hop,hx,hy,scase])]
  have he:(execOp a.eval o).events P w #[]=#[]:=by
   unfold execOp
   simp only[hop]
   rfl
  unfold listed
  rw[he]
  simp[seen]
 ·rw[finishComm_send,served_G]
  simp[ho]
def Jt (pv:Int)(wh:List Int)(x:Int×Int):Bool:=decide (x.1=pv)&&decide (wh.getD x.2.toNat 0<0)
def Jr (pv:Int)(wh:List Int):Nat→List (Int×Int)→List Value
 |_,[]=>[]
 |k,x::l=>if Jt pv wh x then .int .i64 k::Jr pv wh (k+1) l else Jr pv wh (k+1) l
def hs (pv:Int)(wh:List Int):List (Int×Int)→Nat
 | []=>0
 |x::l=>(if x.1=pv then(if wh.getD x.2.toNat 0<0 then hs pv wh l+4 else hs pv wh l+3)else hs pv wh l+1)+4
theorem Pu (T:Array Value)(h:T.size=32):∃v0 v1 v2 v3 v4 v5 v6 v7 v8 v9 v10 v11 v12 v13 v14 v15 v16 v17 v18 v19 v20 v21 v22 v23 v24 v25 v26 v27 v28 v29 v30 v31,T=#[v0,v1,v2,v3,v4,v5,v6,v7,v8,v9,v10,v11,v12,v13,v14,v15,v16,v17,v18,v19,v20,v21,v22,v23,v24,v25,v26,v27,v28,v29,v30,v31]:=by
 obtain⟨l⟩:=T
 simp only[List.size_toArray]at h
 rcases l with _|⟨v0,l⟩
 ·simp at h
 rcases l with _|⟨v1,l⟩
 ·simp at h
 rcases l with _|⟨v2,l⟩
 ·simp at h
 rcases l with _|⟨v3,l⟩
 ·simp at h
 rcases l with _|⟨v4,l⟩
 ·simp at h
 rcases l with _|⟨v5,l⟩
 ·simp at h
 rcases l with _|⟨v6,l⟩
 ·simp at h
 rcases l with _|⟨v7,l⟩
 ·simp at h
 rcases l with _|⟨v8,l⟩
 ·simp at h
 rcases l with _|⟨v9,l⟩
 ·simp at h
 rcases l with _|⟨v10,l⟩
 ·simp at h
 rcases l with _|⟨v11,l⟩
 ·simp at h
 rcases l with _|⟨v12,l⟩
 ·simp at h
 rcases l with _|⟨v13,l⟩
 ·simp at h
 rcases l with _|⟨v14,l⟩
 ·simp at h
 rcases l with _|⟨v15,l⟩
 ·simp at h
 rcases l with _|⟨v16,l⟩
 ·simp at h
 rcases l with _|⟨v17,l⟩
 ·simp at h
 rcases l with _|⟨v18,l⟩
 ·simp at h
 rcases l with _|⟨v19,l⟩
 ·simp at h
 rcases l with _|⟨v20,l⟩
 ·simp at h
 rcases l with _|⟨v21,l⟩
 ·simp at h
 rcases l with _|⟨v22,l⟩
 ·simp at h
 rcases l with _|⟨v23,l⟩
 ·simp at h
 rcases l with _|⟨v24,l⟩
 ·simp at h
 rcases l with _|⟨v25,l⟩
 ·simp at h
 rcases l with _|⟨v26,l⟩
 ·simp at h
 rcases l with _|⟨v27,l⟩
 ·simp at h
 rcases l with _|⟨v28,l⟩
 ·simp at h
 rcases l with _|⟨v29,l⟩
 ·simp at h
 rcases l with _|⟨v30,l⟩
 ·simp at h
 rcases l with _|⟨v31,l⟩
 ·simp at h
 obtain rfl:l=[]:=by
  cases l with
  |nil=>rfl
  |cons=>simp at h
 exact⟨v0,v1,v2,v3,v4,v5,v6,v7,v8,v9,v10,v11,v12,v13,v14,v15,v16,v17,v18,v19,v20,v21,v22,v23,v24,v25,v26,v27,v28,v29,v30,v31,rfl⟩
structure LH (S:Ph) (pv:Int) (wa:Option Addr) (n wcap gW no:Nat) (k:Nat) (T:Array Value):Prop where
 sz:T.size=32
 t0:T[0]? =some (.int .i64 pv)
 t2:T[2]? =some (.slice (some ⟨gW,0,none⟩) no no)
 t3:T[3]? =some (.chan (some S.Ch))
 t10:T[10]? =some (.slice wa n wcap)
 t11:T[11]? =some (.int .i64 n)
 t12:T[12]? =some (.int .i64 k)
section
variable [Payload] {S:Ph} {w0:World} {bh bw bt:Nat} {wa:Option Addr} {wcap:Nat} {ws:List (Int×Int)} {gW:Nat} {wh:List Int}
theorem QgH {bp:Nat}(hP:S.P=Tryz.prog)(hSB:∀b,S.SB b→(b<S.Low∧b≠S.Wg∧b≠S.Ch)∨b=S.Wg∨b=bp)(hD:Dat S w0 bh bw bt wa wcap ws gW wh){pv:Int}{cs:List Frame}{k:Nat}(hk:k<ws.length){x y z:Int}(hx:ws[k].1=x)(hy:ws[k].2=y)(hz:wh.getD y.toNat 0=z){s m:Nat}{left lf:List Value}
 (h1:x≠pv→m=s+1∧lf=left)(h2:x=pv→z<0→m=s+4∧lf=.int .i64 k::left)(h3:x=pv→¬z<0→m=s+3∧lf=left)
 (hH:∀T,LH S pv wa ws.length wcap gW wh.length (k+1) T→∀own w,bp∈own→TF S w0 bp pv w→Y1 S s own left (G ((base 111).at ⟨T,[]⟩ [.code J3,.inLoop J3,.inBlock 0]) cs) w)
 {T:Array Value}(hT:LH S pv wa ws.length wcap gW wh.length k T){own:List Nat}{w:World}(hp:bp∈own)(hF:TF S w0 bp pv w):
 Y1 S (m+4) own lf (G ((base 111).at ⟨T,[]⟩ [.code J3,.inLoop J3,.inBlock 0]) cs) w:=by
 obtain⟨v0,v1,v2,v3,v4,v5,v6,v7,v8,v9,v10,v11,v12,v13,v14,v15,v16,v17,v18,v19,v20,v21,v22,v23,v24,v25,v26,v27,v28,v29,v30,v31,rfl⟩:=Pu T hT.sz
 obtain⟨_,t0,t2,t3,t10,t11,t12⟩:=hT
 simp only[List.getElem?_toArray,List.getElem?_cons_zero,List.getElem?_cons_succ,Option.some.injEq]at t0 t2 t3 t10 t11 t12
 subst t0 t2 t3 t10 t11 t12
 obtain⟨b,off,rfl,hb,c1,c2⟩:=hD.sw k hk
 obtain⟨hy0,hyn⟩:=hD.ob k hk
 have hnw:=hD.nw
 have hbig:=hD.big
 have hogw:=hD.ogw
 have hsg:=hD.sg
 rw[hx]at c1
 rw[hy]at c2 hy0 hyn
 clear hx hy
 have hlt:(k:Int)<(ws.length:Int):=by omega
 have hk0:(0:Int)≤(k:Int):=by omega
 have hkw:IntKind.i64.wrap ((k:Int)+1)=((k+1:Nat):Int):=by rw[IntKind.wrap_i64];omega
 clear hD
 refine⟨rfl,.inl ?_⟩
 rw[hP]
 simp only[J3,Tryz.f111]at hH⊢
 rw[stepG_seq]
 simp only[goes_go]
 refine⟨own,Zc.refl own w,by simp,?_⟩
 rw[Jk,hP]
 refine⟨50,?_⟩
 u_reg (TF.rely hp) hF
 u_op (TF.rely hp) hF
 u_c stepG_region_end (TF.rely hp) hF
 u_c stepG_seq (TF.rely hp) hF
 u_cond true (TF.rely hp) hF
 u_c stepG_skip (TF.rely hp) hF
 u_c stepG_seq (TF.rely hp) hF
 u_c stepG_block (TF.rely hp) hF
 u_c stepG_seq (TF.rely hp) hF
 u_reg (TF.rely hp) hF
 u_op (TF.rely hp) hF
 u_op (TF.rely hp) hF
 refine Goes.stop (fun w1 hw1=>?_)
 replace hF:=TF.rely hp hF hw1
 clear hw1
 refine⟨rfl,.inl ?_⟩
 rw[hP]
 refine goes_oper_k rfl rfl (by decide) (fun K hK=>?_)
 have e1:=(hF.cell hb _).trans c1
 have e2:=(hF.cell hb _).trans c2
 go_simp
 refine hK _ _ ⟨own,Zc.refl own _,fun e he=>?_,?_⟩
 ·have hm:=mem_listed he
  simp[go_sem,e1,e2]at hm
  rcases hm with rfl|rfl<;>exact⟨_,_,rfl,hb.2.2.2,.inr ⟨hb.1,rfl⟩⟩
 clear e1 e2
 clear hK K
 rw[Jk,hP]
 refine⟨40,?_⟩
 refine Goes.stop (fun w2 hw1=>?_)
 replace hF:=TF.rely hp hF hw1
 clear hw1
 refine⟨rfl,.inl ?_⟩
 rw[hP]
 refine goes_oper_k rfl rfl (by decide) (fun K hK=>?_)
 go_simp
 refine hK _ _ ⟨w2.heap.size::own,QaZ own w2 _,fun e he=>?_,?_⟩
 ·have hm:=mem_listed he
  simp[go_sem]at hm
 clear hK K
 obtain⟨bx,hbx⟩:∃bx,bx=w2.heap.size:=⟨_,rfl⟩
 replace hF:TX S w0 bp pv bx 0 0 (w2.alloc (Obj.cells #[Value.int IntKind.i64 0,Value.int IntKind.i64 0] 40)):=
  ⟨hF.alloc hbig _,by rw[hbx];exact heap_alloc_new w2 _,fun b hb=>by have:=hF.lt hbig hb;omega,fun hs=>by have:=hF.lt hbig (hSB _ hs);omega⟩
 have hpx:bp∈bx::own:=List.mem_cons_of_mem _ hp
 have hxx:bx∈bx::own:=List.mem_cons_self
 rw[Jk,hP]
 refine⟨20,?_⟩
 rw[←hbx]
 clear hbx
 u_op (TX.rely hpx hxx) hF
 refine Goes.stop (fun w3 hw1=>?_)
 replace hF:=TX.rely hpx hxx hF hw1
 clear hw1
 refine⟨rfl,.inl ?_⟩
 rw[hP]
 refine goes_oper_k rfl rfl (by decide) (fun K hK=>?_)
 have e1:=hF.c0
 have e2:=hF.c1
 have e3:=hF.f0 0
 have e4:=hF.f0 1
 go_simp
 try(unfold stored;go_simp)
 refine hK _ _ ⟨bx::own,QgY hxx _ _,fun e he=>?_,?_⟩
 ·have hm:=mem_listed he
  simp[go_sem,storedEv,e1,e2,e3,e4]at hm
  rcases hm with rfl|rfl<;>exact⟨_,_,rfl,hF.ns,.inl hxx⟩
 clear e1 e2 e3 e4
 replace hF:=hF.set (x':=x) (y':=y)
 clear hK K
 rw[Jk,hP]
 refine⟨40,?_⟩
 u_c stepG_region_end (TX.rely hpx hxx) hF
 u_c stepG_seq (TX.rely hpx hxx) hF
 u_reg (TX.rely hpx hxx) hF
 u_op (TX.rely hpx hxx) hF
 refine Goes.stop (fun w4 hw1=>?_)
 replace hF:=TX.rely hpx hxx hF hw1
 clear hw1
 refine⟨rfl,.inl ?_⟩
 rw[hP]
 refine goes_oper_k rfl rfl (by decide) (fun K hK=>?_)
 have e1:=hF.c0
 go_simp
 refine hK _ _ ⟨bx::own,Zc.refl _ _,fun e he=>?_,?_⟩
 ·have hm:=mem_listed he
  simp[go_sem,e1]at hm
  subst hm
  exact⟨_,_,rfl,hF.ns,.inl hxx⟩
 clear e1 hK K
 by_cases hq:x=pv
 ·subst hq
  obtain⟨m,rfl⟩:∃m',m=m'+2:=⟨m-2,by
   by_cases hz0:z<0
   ·have:=(h2 rfl hz0).1;omega
   ·have:=(h3 rfl hz0).1;omega⟩
  rw[Jk,hP]
  refine⟨40,?_⟩
  u_op (TX.rely hpx hxx) hF
  u_op (TX.rely hpx hxx) hF
  u_op (TX.rely hpx hxx) hF
  u_op (TX.rely hpx hxx) hF
  u_op (TX.rely hpx hxx) hF
  refine Goes.stop (fun w5 hw1=>?_)
  replace hF:=TX.rely hpx hxx hF hw1
  clear hw1
  refine⟨rfl,.inl ?_⟩
  rw[hP]
  refine goes_oper_k rfl rfl (by decide) (fun K hK=>?_)
  have e1:=hF.c1
  go_simp
  refine hK _ _ ⟨bx::own,Zc.refl _ _,fun e he=>?_,?_⟩
  ·have hm:=mem_listed he
   simp[go_sem,e1]at hm
   subst hm
   exact⟨_,_,rfl,hF.ns,.inl hxx⟩
  clear e1 hK K
  rw[Jk,hP]
  refine⟨40,?_⟩
  obtain⟨n,rfl⟩:∃n:Nat,y=n:=⟨y.toNat,by omega⟩
  have hyn':n<wh.length:=by omega
  simp only[Int.toNat_natCast]at hz
  have c3:=hsg n hyn'
  have ew:wh.getD n 0=wh[n]:=by simp[List.getD,List.getElem?_eq_getElem hyn']
  rw[←ew,hz]at c3
  clear ew hz
  u_op (TX.rely hpx hxx) hF
  refine Goes.stop (fun w6 hw1=>?_)
  replace hF:=TX.rely hpx hxx hF hw1
  clear hw1
  refine⟨rfl,.inl ?_⟩
  rw[hP]
  refine goes_oper_k rfl rfl (by decide) (fun K hK=>?_)
  have e1:=(hF.cell hogw _).trans c3
  go_simp
  refine hK _ _ ⟨bx::own,Zc.refl _ _,fun e he=>?_,?_⟩
  ·have hm:=mem_listed he
   simp[go_sem,e1]at hm
   subst hm
   exact⟨_,_,rfl,hogw.2.2.2,.inr ⟨hogw.1,rfl⟩⟩
  clear e1 hK K
  by_cases hz0:z<0
  ·obtain⟨hm,rfl⟩:=h2 rfl hz0
   obtain rfl:m=s+2:=by omega
   have hz1:decide (z<0)=true:=decide_eq_true hz0
   clear h1 h2 h3
   rw[Jk,hP]
   refine⟨40,?_⟩
   u_op (TX.rely hpx hxx) hF
   u_op (TX.rely hpx hxx) hF
   u_c stepG_region_end (TX.rely hpx hxx) hF
   u_cond true (TX.rely hpx hxx) hF
   u_reg (TX.rely hpx hxx) hF
   u_op (TX.rely hpx hxx) hF
   u_op (TX.rely hpx hxx) hF
   refine Goes.stop (fun w7 hw1=>?_)
   replace hF:=TX.rely hpx hxx hF hw1
   clear hw1
   refine⟨rfl,.inr ?_⟩
   refine⟨_,left,_,_,_,rfl,(Qar (P:=S.P) (v:=.int .i64 k) (c:=S.Ch) w7 rfl rfl (by decide) rfl rfl rfl).1,?_⟩
   rw[(Qar (P:=S.P) (v:=.int .i64 k) (c:=S.Ch) w7 rfl rfl (by decide) rfl rfl rfl).2]
   rw[Jk,hP]
   refine⟨40,?_⟩
   walk_nrm
   u_c stepG_region_end (TX.rely hpx hxx) hF
   u_c stepG_inBlock (TX.rely hpx hxx) hF
   u_reg (TX.rely hpx hxx) hF
   u_op (TX.rely hpx hxx) hF
   u_op (TX.rely hpx hxx) hF
   u_c stepG_region_end (TX.rely hpx hxx) hF
   u_c stepG_inLoop (TX.rely hpx hxx) hF
   exact Goes.stop (fun w9 h9=>hH _ ⟨rfl,rfl,rfl,rfl,rfl,rfl,rfl⟩ _ _ hpx (TX.rely hpx hxx hF h9).toTF)
  ·obtain⟨hm,rfl⟩:=h3 rfl hz0
   obtain rfl:m=s+1:=by omega
   have hz1:decide (z<0)=false:=decide_eq_false hz0
   clear h1 h2 h3
   rw[Jk,hP]
   refine⟨40,?_⟩
   u_op (TX.rely hpx hxx) hF
   u_op (TX.rely hpx hxx) hF
   u_c stepG_region_end (TX.rely hpx hxx) hF
   u_cond false (TX.rely hpx hxx) hF
   u_c stepG_skip (TX.rely hpx hxx) hF
   u_c stepG_inBlock (TX.rely hpx hxx) hF
   u_reg (TX.rely hpx hxx) hF
   u_op (TX.rely hpx hxx) hF
   u_op (TX.rely hpx hxx) hF
   u_c stepG_region_end (TX.rely hpx hxx) hF
   u_c stepG_inLoop (TX.rely hpx hxx) hF
   exact Goes.stop (fun w9 h9=>hH _ ⟨rfl,rfl,rfl,rfl,rfl,rfl,rfl⟩ _ _ hpx (TX.rely hpx hxx hF h9).toTF)
 ·obtain⟨rfl,rfl⟩:=h1 hq
  have hq1:decide (x=pv)=false:=decide_eq_false hq
  have hq2:(x ==pv)=false:=by simp[hq]
  clear h1 h2 h3
  rw[Jk,hP]
  refine⟨40,?_⟩
  u_op (TX.rely hpx hxx) hF
  u_op (TX.rely hpx hxx) hF
  u_op (TX.rely hpx hxx) hF
  u_skip (TX.rely hpx hxx) hF
  u_skip (TX.rely hpx hxx) hF
  u_skip (TX.rely hpx hxx) hF
  u_skip (TX.rely hpx hxx) hF
  u_skip (TX.rely hpx hxx) hF
  u_skip (TX.rely hpx hxx) hF
  u_op (TX.rely hpx hxx) hF
  u_c stepG_region_end (TX.rely hpx hxx) hF
  u_cond false (TX.rely hpx hxx) hF
  u_c stepG_skip (TX.rely hpx hxx) hF
  u_c stepG_inBlock (TX.rely hpx hxx) hF
  u_reg (TX.rely hpx hxx) hF
  u_op (TX.rely hpx hxx) hF
  u_op (TX.rely hpx hxx) hF
  u_c stepG_region_end (TX.rely hpx hxx) hF
  u_c stepG_inLoop (TX.rely hpx hxx) hF
  exact Goes.stop (fun w9 h9=>hH _ ⟨rfl,rfl,rfl,rfl,rfl,rfl,rfl⟩ _ _ hpx (TX.rely hpx hxx hF h9).toTF)
end
noncomputable def OP:Array Oper:=match Tryz.f109.body with
 |some (.seq _ (.region _ ops _))=>ops
 |_=>#[]
noncomputable def bot:Frame:={(default:Frame)with fn:=Tryz.prog.funcs.size,defers:=[],mode:=.panicking [goexitEntry]}
noncomputable def Kz (Wg:Nat)(T:Array Value):Frame:=(baseD 109).at ⟨T,[dcall 110 #[.pointer (some ⟨Wg,0,none⟩)]]⟩ [.inRegion OP [5]]
theorem QfB (T:Array Value):QuitsD Tryz.prog 2 0 (G {(baseD 109).at ⟨T,[]⟩ []with mode:=.returning} [bot]):=by
 refine QuitsD.ctl (g':=G bot []) rfl (fun w=>?_) ?_
 ·simp[G,stepG,unwind,doReturn,results,Frame.at,baseD,bot,Tryz.func109,Tryz.f109,seen,GStep.after,goexitEntry]
 refine QuitsD.ctl (g':={G bot []with status:=.finished}) rfl (fun w=>?_) ⟨rfl,rfl⟩
 simp[G,stepG,unwind,bot,goexitEntry,Frame.catches]
 rfl
section
variable [Payload] {S:Ph} {w0:World} {bh bw bt:Nat} {wa:Option Addr} {wcap:Nat} {ws:List (Int×Int)} {gW:Nat} {wh:List Int}
theorem QgG {bp:Nat}(hP:S.P=Tryz.prog)(hty:S.ty=Tryz.link.tWg){pv:Int}{TL:Array Value}
 {T:Array Value}(hT:LH S pv wa ws.length wcap gW wh.length ws.length T){own:List Nat}{w:World}(hp:bp∈own)(hF:TF S w0 bp pv w):
 Y1 S 0 own [] (G ((base 111).at ⟨T,[]⟩ [.code J3,.inLoop J3,.inBlock 0]) [Kz S.Wg TL,bot]) w:=by
 obtain⟨v0,v1,v2,v3,v4,v5,v6,v7,v8,v9,v10,v11,v12,v13,v14,v15,v16,v17,v18,v19,v20,v21,v22,v23,v24,v25,v26,v27,v28,v29,v30,v31,rfl⟩:=Pu T hT.sz
 obtain⟨_,t0,t2,t3,t10,t11,t12⟩:=hT
 simp only[List.getElem?_toArray,List.getElem?_cons_zero,List.getElem?_cons_succ,Option.some.injEq]at t0 t2 t3 t10 t11 t12
 subst t0 t2 t3 t10 t11 t12
 refine⟨rfl,.inl ?_⟩
 rw[hP]
 simp only[J3,Tryz.f111]
 rw[stepG_seq]
 simp only[goes_go]
 refine⟨own,Zc.refl own w,by simp,rfl,bp,.int .i64 pv,34,hp,?_⟩
 rw[hP,hty]
 have hK:WgLive Tryz.link.tWg S.Wg w∧Has bp 0 (.int .i64 pv) w:=⟨hty▸hF.live,hF.pl⟩
 clear hF
 u_reg kn_rely hK
 u_op kn_rely hK
 u_c stepG_region_end kn_rely hK
 u_c stepG_seq kn_rely hK
 u_cond false kn_rely hK
 u_exit kn_rely hK
 u_c stepG_end kn_rely hK
 simp only[Kz,OP,Tryz.f109]
 u_leave0 Tryz.func111 kn_rely hK
 u_c stepG_region_end kn_rely hK
 u_c stepG_end kn_rely hK
 u_in kn_rely hK
 rw[stepG_unwind_enter rfl Tryz.func110 (nm_done Tryz.link) rfl]
 simp only[goes_go]
 refine⟨by u_nil,?_⟩
 walk_nrmf Tryz.f110
 have hA:=@doneN _ Tryz.link Tryz.prog Tryz.wgLib (OwC bp) VP S.Wg bp 1 0 1 (.int .i64 pv)
 simp only[body_done,doneFn,Option.getD_some]at hA
 exact hA rfl (QfB _) _ hK
theorem QaM {bp:Nat}(hP:S.P=Tryz.prog)(hty:S.ty=Tryz.link.tWg)(hSB:∀b,S.SB b→(b<S.Low∧b≠S.Wg∧b≠S.Ch)∨b=S.Wg∨b=bp)(hD:Dat S w0 bh bw bt wa wcap ws gW wh){pv:Int}{TL:Array Value}:
 ∀(l:List (Int×Int)) (k:Nat),ws.drop k=l→k≤ws.length→∀T,LH S pv wa ws.length wcap gW wh.length k T→∀own w,bp∈own→TF S w0 bp pv w→
  Y1 S (hs pv wh l) own (Jr pv wh k l) (G ((base 111).at ⟨T,[]⟩ [.code J3,.inLoop J3,.inBlock 0]) [Kz S.Wg TL,bot]) w
 | [],k,hl,hk,T,hT,own,w,hp,hF=>by
   have:k=ws.length:=by
    have:=congrArg List.length hl
    simp at this
    omega
   subst this
   exact QgG hP hty hT hp hF
 |x::l,k,hl,hk,T,hT,own,w,hp,hF=>by
  have hlt:k<ws.length:=by
   have:=congrArg List.length hl
   simp at this
   omega
  have hx:ws[k]=x∧ws.drop (k+1)=l:=by
   rw[List.drop_eq_getElem_cons hlt]at hl
   exact⟨(List.cons.inj hl).1,(List.cons.inj hl).2⟩
  have ih:=QaM hP hty hSB hD (pv:=pv) (TL:=TL) l (k+1) hx.2 (by omega)
  refine QgH hP hSB hD hlt (x:=x.1) (y:=x.2) (z:=wh.getD x.2.toNat 0) (by rw[hx.1]) (by rw[hx.1]) rfl (s:=hs pv wh l) (left:=Jr pv wh (k+1) l) (fun h=>?_) (fun h h'=>?_) (fun h h'=>?_) (fun T hT own w hp hF=>ih T hT own w hp hF) hT hp hF
  ·have e:Jt pv wh x=false:=by unfold Jt;rw[decide_eq_false h];rfl
   exact⟨if_neg h,by simp only[Jr,e];rfl⟩
  ·have e:Jt pv wh x=true:=by unfold Jt;rw[decide_eq_true h,decide_eq_true h'];rfl
   exact⟨by rw[if_pos h,if_pos h'],by simp only[Jr,e];rfl⟩
  ·have e:Jt pv wh x=false:=by unfold Jt;rw[decide_eq_true h,decide_eq_false h'];rfl
   exact⟨by rw[if_pos h,if_neg h'],by simp only[Jr,e];rfl⟩
def Yd (Wg bp bh bw bt:Nat):Deferred:={target:=.fn (.func 109) #[.pointer (some ⟨Wg,0,none⟩),.pointer (some ⟨bp,0,none⟩),.pointer (some ⟨bh,0,none⟩),.pointer (some ⟨bw,0,none⟩),.pointer (some ⟨bt,0,none⟩)],args:=#[]}
noncomputable def KA:Code:=Tryz.f109.body.getD .skip
omit [Payload]in
theorem QbK (Wg bp bh bw bt:Nat)(w:World):stepG Tryz.prog false (born Tryz.prog (Yd Wg bp bh bw bt)) w=
 .go (G ((baseD 109).at ⟨#[.pointer (some ⟨Wg,0,none⟩),.pointer (some ⟨bp,0,none⟩),.pointer (some ⟨bh,0,none⟩),.pointer (some ⟨bw,0,none⟩),.pointer (some ⟨bt,0,none⟩),undef,undef,undef,undef,undef,undef],[]⟩ [.code KA]) [bot]) w #[]:=by
 simp[born,Yd,stepG,unwind,callDeferred,invoke,callFunc,Tryz.func109,Tryz.f109,seen,GStep.after,G,Frame.enter,Frame.at,baseD,bot,KA]
theorem QaN {bp:Nat}(hP:S.P=Tryz.prog)(hty:S.ty=Tryz.link.tWg)(hSB:∀b,S.SB b→(b<S.Low∧b≠S.Wg∧b≠S.Ch)∨b=S.Wg∨b=bp)(hpS:¬S.SB bp)(hD:Dat S w0 bh bw bt wa wcap ws gW wh){pv:Int}{own:List Nat}{w:World}(hp:bp∈own)(hF:TF S w0 bp pv w):
 Jl S (hs pv wh ws+1+4) own (Jr pv wh 0 ws) (born Tryz.prog (Yd S.Wg bp bh bw bt)) w:=by
 rw[Jk,hP]
 refine⟨20,Goes.step rfl fun w₁ h₁=>?_⟩
 replace hF:=TF.rely hp hF h₁
 clear h₁
 rw[QbK]
 refine⟨by u_nil,?_⟩
 simp only[KA,Tryz.f109,Option.getD_some]
 u_c stepG_seq (TF.rely hp) hF
 u_reg (TF.rely hp) hF
 u_defer (TF.rely hp) hF
 u_c stepG_region_end (TF.rely hp) hF
 u_reg (TF.rely hp) hF
 refine Goes.stop (fun w1 hw1=>?_)
 replace hF:=TF.rely hp hF hw1
 clear hw1
 refine⟨rfl,.inl ?_⟩
 rw[hP]
 refine goes_oper_k rfl rfl (by decide) (fun K hK=>?_)
 have e1:=hF.pl
 go_simp
 refine hK _ _ ⟨own,Zc.refl _ _,fun e he=>?_,?_⟩
 ·have hm:=mem_listed he
  simp[go_sem,e1]at hm
  subst hm
  exact⟨_,_,rfl,hpS,.inl hp⟩
 clear e1 hK K
 rw[Jk,hP]
 refine⟨20,?_⟩
 u_op (TF.rely hp) hF
 refine Goes.stop (fun w1 hw1=>?_)
 replace hF:=TF.rely hp hF hw1
 clear hw1
 refine⟨rfl,.inl ?_⟩
 rw[hP]
 refine goes_oper_k rfl rfl (by decide) (fun K hK=>?_)
 have e1:=(hF.cell hD.ohb 2).trans hD.hb
 go_simp
 refine hK _ _ ⟨own,Zc.refl _ _,fun e he=>?_,?_⟩
 ·have hm:=mem_listed he
  simp[go_sem,e1]at hm
  subst hm
  exact⟨_,_,rfl,hD.ohb.2.2.2,.inr ⟨hD.ohb.1,rfl⟩⟩
 clear e1 hK K
 rw[Jk,hP]
 refine⟨20,?_⟩
 refine Goes.stop (fun w1 hw1=>?_)
 replace hF:=TF.rely hp hF hw1
 clear hw1
 refine⟨rfl,.inl ?_⟩
 rw[hP]
 refine goes_oper_k rfl rfl (by decide) (fun K hK=>?_)
 have e1:=(hF.cell hD.owb 0).trans hD.wb
 go_simp
 refine hK _ _ ⟨own,Zc.refl _ _,fun e he=>?_,?_⟩
 ·have hm:=mem_listed he
  simp[go_sem,e1]at hm
  subst hm
  exact⟨_,_,rfl,hD.owb.2.2.2,.inr ⟨hD.owb.1,rfl⟩⟩
 clear e1 hK K
 rw[Jk,hP]
 refine⟨20,?_⟩
 refine Goes.stop (fun w1 hw1=>?_)
 replace hF:=TF.rely hp hF hw1
 clear hw1
 refine⟨rfl,.inl ?_⟩
 rw[hP]
 refine goes_oper_k rfl rfl (by decide) (fun K hK=>?_)
 have e1:=(hF.cell hD.otb 0).trans hD.tb
 go_simp
 refine hK _ _ ⟨own,Zc.refl _ _,fun e he=>?_,?_⟩
 ·have hm:=mem_listed he
  simp[go_sem,e1]at hm
  subst hm
  exact⟨_,_,rfl,hD.otb.2.2.2,.inr ⟨hD.otb.1,rfl⟩⟩
 clear e1 hK K
 rw[Jk,hP]
 refine⟨20,?_⟩
 u_call Tryz.func111 rfl Tryz.f111 (TF.rely hp) hF
 u_c stepG_seq (TF.rely hp) hF
 u_reg (TF.rely hp) hF
 u_op (TF.rely hp) hF
 u_op (TF.rely hp) hF
 u_op (TF.rely hp) hF
 u_c stepG_region_end (TF.rely hp) hF
 u_c stepG_block (TF.rely hp) hF
 u_c stepG_loop (TF.rely hp) hF
 exact Goes.stop (fun w9 h9=>QaM hP hty hSB hD ws 0 rfl (Nat.zero_le _) _ ⟨rfl,rfl,rfl,rfl,rfl,rfl,rfl⟩ _ _ hp (TF.rely hp hF h9))
end
end Co
end Go.Proofs.YtcpnkpogebjieaaGreat
