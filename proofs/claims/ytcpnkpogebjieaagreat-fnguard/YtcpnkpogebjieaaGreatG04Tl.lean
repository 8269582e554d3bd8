/- Calls, and every operation that the cut lets by, in two worlds at once. -/
import Derived.Test.YtcpnkpogebjieaaGreatG03Th
import Derived.Conc.Listed
open List renaming mem_cons_of_mem→Qhp,mem_cons_self→Qhr
open Nat renaming le_refl→Qhq
namespace Go.Proofs.YtcpnkpogebjieaaGreat
namespace Co
open Go.Conc
structure O2 (fn:Func):Prop where
 body:fn.body=none
 name:(fn.name =="runtime.NumGoroutine")=false
 next:Extern.findNext fn=none
 row:Extern.find fn=none
 init:(fn.name.endsWith ".init"&& !fn.name.startsWith "("&& !fn.name.startsWith "gosem.")=false
structure Y2 (F F':Array Func) (S:FuncId→Bool):Prop where
 same:∀f,S f=true→F'[f]? =F[f]?
 has:∀f fn,S f=true→F[f]? =some fn→fn.body.isSome=true∧(fn.name =="runtime.NumGoroutine")=false
 cut:∀f fn,S f=false→F'[f]? =some fn→O2 fn
def NOk (LO:Loop→Prop)(X:Nat→Bool)(S:FuncId→Bool):Next→Prop
 | .value _| .skip=>True
 | .enter f _=>S f=true
 | .round l f _ a b=>X l=false∧∃r:Loop,LO r∧f=r.fn∧a=r.assign∧b=r.body
 |_=>False
section
variable {T:Tables} {F F':Array Func} {LO:Loop→Prop} {X:Nat→Bool} {S:FuncId→Bool} {α β:Type}
structure DN (T:Tables) (F F':Array Func) (LO:Loop→Prop) (X:Nat→Bool) (S:FuncId→Bool) (s:Sem Next):Prop where
 tr:Tr (PP T F) (PP T F') LO X (NOk LO X S) s s
theorem YV {s:Sem α}{f:α→Sem Next}(hs:D T F F' LO X s)(hf:∀a,DN T F F' LO X S (f a)):DN T F F' LO X S (s>>= f):=⟨Zn hs.tr fun a _=>(hf a).tr⟩
theorem UM (h:Halt)(hh:HOk h:=by exact True.intro):DN T F F' LO X S (.halt h):=⟨ZS h _ hh⟩
theorem Zv {s:Sem Value}(h:D T F F' LO X s):DN T F F' LO X S (s>>= fun v=>pure (.value v)):=⟨Zn h.tr fun _ _=>Q4 _ trivial⟩
theorem K3 {s:Sem Unit}(h:D T F F' LO X s):DN T F F' LO X S (s>>= fun _=>pure .skip):=⟨Zn h.tr fun _ _=>Q4 _ trivial⟩
theorem J5 (n:Next)(h:NOk LO X S n):DN T F F' LO X S (pure n):=⟨Q4 n h⟩
theorem UF (e:RuntimeError):DN T F F' LO X S (runtimePanic e):=⟨JB (JR e) _⟩
theorem Pf (hC:Y2 F F' S)(f:FuncId)(args:Array Value):DN T F F' LO X S (callFunc f args):=by
 refine⟨Yu ?_⟩
 cases hS:S f with
 |true=>
  have e:(PP T F').funcs[f]? =F[f]? :=hC.same f hS
  have e':(PP T F).funcs[f]? =F[f]? :=rfl
  rw[e,e']
  cases hf:F[f]? with
  |none=>exact ZS _ _
  |some fn=>
   obtain⟨h1,h2⟩:=hC.has f fn hS hf
   have h3:fn.body.isNone=false:=by cases hb:fn.body<;>simp_all
   simp only[h2,h3,Bool.false_eq_true,if_false]
   exact Q4 _ hS
 |false=>
  refine JB ?_ _
  have e:(PP T F').funcs[f]? =F'[f]? :=rfl
  rw[e]
  cases hf:F'[f]? with
  |none=>exact Zs _
  |some fn=>
   obtain⟨h1,h2,h3,h4,h5⟩:=hC.cut f fn hS hf
   simp only[h1,h2,h3,h4,h5,Option.isNone_none,Bool.false_eq_true,if_false,if_true]
   exact Js (PV _) fun _=>Zs _
theorem Qed (t:TypeId)(p:Value)(n:String):D T F F' LO X (Builtin.ssaWrapNilChk_ #[t] t #[p,strVal "",strVal n]):=by
 unfold Builtin.ssaWrapNilChk_
 cases p with
 |pointer a=>
  cases a with
  |some a=>exact Qc _
  |none=>
   refine Vl ?_
   refine Js (PG _) fun c=>?_
   refine Vx (Um (JR _)) ?_
   refine Js (Qbj _) fun u=>?_
   split
   ·refine Js (Qfo _) fun i=>?_
    split
    ·split
     ·dsimp only
      split
      ·exact JR _
      ·exact Zs _
     ·exact Zs _
    ·exact Zs _
   ·exact Zs _
 |_=>exact Qf _
theorem Uq (t:TypeId)(x:Place):D T F F' LO X (x.get t):=by
 cases x with
 |val v=>exact Qc _
 |var a=>exact Zj _ _
theorem O5 (l:List FieldStep):∀(t:TypeId) (x:Place),D T F F' LO X (follow l t x):=by
 induction l with
 |nil=>intro t x;exact Qc _
 |cons s l ih=>
  intro t x
  unfold follow
  refine Qb (Qv _) fun u=>?_
  split
  ·split
   ·refine Qo (Qb (Uq _ _) fun v=>Qb (Ze _) fun a=>Qb (ZH _ _) fun p=>ih _ _) ?_
    split
    ·exact Qb (ZH _ _) fun p=>ih _ _
    ·exact Qb (Zr _ _ _) fun p=>ih _ _
    ·exact Qf _
   ·exact Qf _
  ·exact Qf _
theorem Oi (t:TypeId)(x:Place)(b:Bool)(w:Option String):D T F F' LO X (receiverAt t x b w):=by
 unfold receiverAt
 refine Qb (Qv _) fun u=>?_
 split
 ·exact Uq _ _
 ·refine Qb (Uq _ _) fun p=>?_
  dsimp only
  split
  ·exact Qb (Qed _ _ _) fun p=>Qb (Ze _) fun a=>Zj _ _
  ·exact Qb (Qc _) fun p=>Qb (Ze _) fun a=>Zj _ _
 ·exact Qc _
 ·exact Qf _
 ·exact Uq _ _
theorem Qf2 (n:Nat):∀(t:TypeId) (v:Value) (s:String),D T F F' LO X (method n t v s):=by
 induction n with
 |zero=>intro t v s;exact Qf _
 |succ n ih=>
  intro t v s
  unfold method
  refine Qb (QH _) fun i=>?_
  split
  ·refine Qb (O5 _ _ _) fun p=>?_
   obtain⟨xt,x⟩:=p
   dsimp only
   split
   ·refine Qb (Uq _ _) fun v=>?_
    split
    ·exact ih _ _ _
    ·exact QE _
    ·exact Qf _
   ·exact Qb (Oi _ _ _ _) fun r=>Qc _
  ·exact Qf _
theorem QdR (t:TypeId)(v:Value)(p:Array FieldStep)(b:Bool):D T F F' LO X (receiverVia t v p b):=by
 unfold receiverVia
 refine Qb (O5 _ _ _) fun p=>?_
 obtain⟨xt,x⟩:=p
 exact Oi _ _ _ _
theorem Qc2 (l:List FieldStep):∀(t:TypeId) (x:Option Value),D T F F' LO X (followBlind l t x):=by
 induction l with
 |nil=>intro t x;exact Qc _
 |cons s l ih=>
  intro t x
  unfold followBlind
  refine Qb (Qv _) fun u=>?_
  split
  ·split
   ·split
    all_goals first
     |exact Qc _
     |exact Qf _
     |exact ih _ _
     |exact Qb (Zr _ _ _) fun p=>ih _ _
   ·exact Qf _
  ·exact Qf _
theorem Qec (n:Nat):∀(t:TypeId) (v:Value) (s:String),D T F F' LO X (nilAhead n t v s):=by
 induction n with
 |zero=>intro t v s;exact Qc _
 |succ n ih=>
  intro t v s
  unfold nilAhead
  refine Qb (QH _) fun i=>?_
  split
  ·refine Qb (Qc2 _ _ _) fun p=>?_
   split
   ·exact Qc _
   ·split
    all_goals first
     |exact Qc _
     |exact Qf _
     |exact ih _ _ _
     |(refine Qb (Qv _) fun u=>?_
       split<;>exact Qc _)
  ·exact Qf _
theorem Qbi (hC:Y2 F F' S)(v:Value)(s:String)(args:Array Value):DN T F F' LO X S (callMethod v s args):=by
 unfold callMethod
 split
 ·refine⟨Yu ?_⟩
  have e:(PP T F').types.size=(PP T F).types.size:=rfl
  rw[e]
  refine DN.tr (YV (Qf2 _ _ _ _) fun p=>?_)
  obtain⟨f,r⟩:=p
  exact Pf hC _ _
 ·exact UF _
 ·exact UM _
theorem Qhk (l:Nat)(args:Array Value):DN T F F' LO X S (Instr.yield l args):=by
 unfold Instr.yield Instr.getLoop
 rw[Qal]
 refine⟨UX l (fun o hX ho=>?_) (fun _ o' o hp=>?_)⟩
 ·cases o with
  |loop r=>
   refine Zn (Q4 (Q:=fun x=>x=r) r rfl) fun r' hr=>?_
   subst hr
   have hl:LO r':=by
    rcases ho with h|⟨a,t,h⟩
    ·exact h
    ·cases h
   dsimp only
   split
   ·exact Zn (Q:=fun _=>True) (ZS _ _) fun _ _=>Q4 _ ⟨hX,r',hl,rfl,rfl,rfl⟩
   ·exact Q4 _ ⟨hX,r',hl,rfl,rfl,rfl⟩
  |_=>exact JB (Um (Zs _)) _
 ·rcases hp with⟨a,a',t,rfl,rfl⟩|⟨r,rfl,rfl⟩|⟨c,rfl,rfl⟩|⟨c,e,rfl,rfl⟩<;>exact JB (Um (Zs _)) _
theorem OJ (hC:Y2 F F' S)(fn:Fn)(c:Array Value)(args:Array Value):DN T F F' LO X S (invoke (.fn fn c) args):=by
 cases fn with
 |func f=>exact Pf hC _ _
 |method n=>
  unfold invoke
  dsimp only
  split
  ·exact Qbi hC _ _ _
  ·exact UM _
 |methodOf t n=>
  unfold invoke
  dsimp only
  split
  ·refine YV (Qv _) fun u=>?_
   split<;>exact Qbi hC _ _ _
  ·exact UM _
 |via t p f b=>
  unfold invoke
  dsimp only
  split
  ·exact YV (QdR _ _ _ _) fun r=>Pf hC _ _
  ·exact UM _
 |yield l=>exact Qhk l args
theorem VV (hC:Y2 F F' S)(v:Value)(args:Array Value):DN T F F' LO X S (Deferred.ofValue v args>>= fun d=>invoke d.target d.args):=by
 cases v with
 |func fn first c=>exact OJ hC fn c (first++args)
 |nilFunc=>exact⟨JB (JR (α:=Next) .nilDeref) _⟩
 |_=>exact UM _
def Yz (T:Tables)(t:TypeId):Bool:=match(PP T #[]).underlying t with
 |some (.int _)=>true
 |_=>false
def Vb (T:Tables)(t:TypeId):Bool:=match(PP T #[]).underlying t with
 |some .string=>true
 |_=>false
def Vj (T:Tables)(t:TypeId):Bool:=match(PP T #[]).underlying t with
 |some (.slice e)=>(match(PP T #[]).underlying e with|some (.int .u8)=>true|_=>false)
 |_=>false
theorem QfY (k:FloatKind)(b:Nat)(d:IntKind):Cho (Conv.floatToInt k b d):=by
 unfold Conv.floatToInt
 repeat' first
  |exact ZM _
  |exact JZ _
  |exact Yb _
  |apply QC
  |apply Z7
  |intro _
  |split
  |dsimp only
theorem Qb8 (s t:TypeId)(x:Value)(hs:Yz T s=true)(ht:Yz T t=true):D T F F' LO X (convert s t x):=by
 unfold convert
 refine⟨Zn (YJ s) fun u hu=>Zn (YJ t) fun v hv=>D.tr ?_⟩
 have hu':(PP T #[]).underlying s=some u:=hu
 have hv':(PP T #[]).underlying t=some v:=hv
 simp only[Yz,hu']at hs
 simp only[Yz,hv']at ht
 cases u<;>simp only at hs<;>try(cases hs;done)
 cases v<;>simp only at ht<;>try(cases ht;done)
 cases x<;>first
  |exact Qc _
  |exact Qf _
  |exact(QfY _ _ _).d _ _ _ _ _
  |(rename_i p;cases p<;>exact Qf _)
theorem Qft (s t:TypeId)(x:Value)(hs:Vj T s=true)(ht:Vb T t=true):D T F F' LO X (convert s t x):=by
 unfold convert
 refine⟨Zn (YJ s) fun u hu=>Zn (YJ t) fun v hv=>?_⟩
 have hu':(PP T #[]).underlying s=some u:=hu
 have hv':(PP T #[]).underlying t=some v:=hv
 simp only[Vj,hu']at hs
 simp only[Vb,hv']at ht
 cases u<;>simp only at hs<;>try(cases hs;done)
 cases v<;>simp only at ht<;>try(cases ht;done)
 rename_i e
 have key:Tr (PP T F) (PP T F') LO X (fun _=>True) (do
  match ←underlying e with
  | .int .u8=>Conv.bytesToString x
  | .int .i32=>Conv.runesToString x
  |_=>stuck "Convert: a slice of what to string?") (do
  match ←underlying e with
  | .int .u8=>Conv.bytesToString x
  | .int .i32=>Conv.runesToString x
  |_=>stuck "Convert: a slice of what to string?"):=by
  refine Zn (YJ e) fun c hc=>?_
  have hc':(PP T #[]).underlying e=some c:=hc
  rw[hc']at hs
  cases c with
  |int k=>cases k<;>first|(cases hs;done)|exact(QeD x).tr
  |_=>cases hs
 cases x<;>first
  |exact key
  |exact Q4 _ trivial
  |exact(ZM _).d _ _ _ _ _ |>.tr
theorem QgS (s t:TypeId)(x:Value)(h:(Yz T s&&Yz T t||Vj T s&&Vb T t)=true):D T F F' LO X (convert s t x):=by
 rcases Bool.or_eq_true _ _▸h with h|h<;>rw[Bool.and_eq_true]at h
 ·exact Qb8 s t x h.1 h.2
 ·exact Qft s t x h.1 h.2
def Qaj:Builtin→Bool
 | .len| .append| .copy| .clear=>true
 |_=>false
def Un (T:Tables):Op→Bool
 | .move _| .assign _| .pick _ _ _| .alloc _| .box _ _| .build _ _| .buildSlice _ _ _| .load _ _| .store _ _ _| .unOp _ _ _| .makeInterface _ _| .makeFunc _ _ _
 | .makeSlice _ _ _| .slice _ _ _ _ _| .fieldAddr _ _ _| .field _ _ _| .indexAddr _ _ _| .index _ _ _| .range _ _| .next _ true| .typeAssert _ _ _ _| .extract _ _| .panic _| .nilCheck _=>true
 | .binOp op t _ _ _=>!Up op||YI T t
 | .convert s t _=>Yz T s&&Yz T t||Vj T s&&Vb T t
 | .call c=>match c.callee with
   | .value _| .invoke _ _=>true
   | .builtin b=>Qaj b
 |_=>false
theorem QeV (x:Value):Jd (Instr.panic x):=by
 unfold Instr.panic
 split
 ·exact Zs _
 ·refine Js ?_ fun _=>Vx (Zs _) (JR _)
  unfold Instr.panicnil
  refine Jz (Qd9 _) fun r=>?_
  split
  ·exact Jz VC fun _=>Jw _
  ·exact Vr _
 ·exact Zs _
theorem PU (hC:Y2 F F' S)(ρ:Operand→Value)(o:Oper)(h:Un T o.op=true):DN T F F' LO X S (execOp ρ o):=by
 unfold execOp
 cases ho:o.op<;>rw[ho]at h<;>simp only[Un]at h<;>dsimp only
 case move=>exact J5 _ trivial
 case assign=>exact J5 _ trivial
 case pick=>exact YV (Zh _) fun _=>J5 _ trivial
 case alloc=>exact Zv (QeP _ _ _)
 case box=>exact Zv (QbX _ _)
 case build=>exact Zv (QcY _ _)
 case buildSlice=>exact Zv (QeC _ _ _)
 case load=>exact Zv (QeX _ _)
 case store=>exact K3 (QfK _ _ _)
 case unOp=>exact Zv (Qfh _ _)
 case makeInterface=>exact Zv (Qc6 _ _)
 case makeFunc=>exact Zv (Qc _)
 case makeSlice=>exact Zv (QcG _ _ _)
 case slice=>exact Zv (QdN _ _ _ _ _)
 case fieldAddr=>exact Zv (Qd7 _ _ _)
 case field=>exact Zv (QdS _ _ _)
 case indexAddr=>exact Zv (Qb6 _ _ _)
 case index=>exact Zv (Qce _ _ _)
 case range=>exact Zv (Qhn _ _)
 case next it b=>
  cases b with
  |false=>cases h
  |true=>exact Zv (Qfu _ _)
 case typeAssert=>exact Zv (QcJ _ _ _ _)
 case extract=>exact Zv (Qcm _ _)
 case convert=>exact Zv (QgS _ _ _ h)
 case panic x=>exact Zv (Vl (QeV _))
 case nilCheck x=>
  generalize ρ x=v
  cases v with
  |func fn first c=>
   cases fn with
   |method n=>
    dsimp only
    split
    ·exact UF _
    ·refine⟨Yu ?_⟩
     have e:(PP T F').types.size=(PP T F).types.size:=rfl
     rw[e]
     refine DN.tr (YV (Qec _ _ _ _) fun r=>?_)
     split
     ·exact YV (Qf _) fun _=>J5 _ trivial
     ·exact J5 _ trivial
    ·exact J5 _ trivial
   |_=>exact J5 _ trivial
  |pointer p=>cases p<;>first|exact UF _|exact J5 _ trivial
  |nilIface=>exact UF _
  |nilFunc=>exact UF _
  |_=>exact J5 _ trivial
 case binOp op t x y u=>
  have he:Up op=true→YI T t=true:=by
   intro hi
   rw[hi]at h
   simpa using h
  refine Zv (Qb (Qdp _ _ _ _ _ _ he) fun _=>Qe7 _ _ _ _ he)
 case call c=>
  unfold resolve
  cases hc:c.callee<;>rw[hc]at h<;>simp only at h<;>dsimp only
  case value f=>exact VV hC _ _
  case invoke r n=>exact OJ hC (.method n) #[] _
  case builtin b=>
   cases b<;>simp only[Qaj]at h<;>first
    |(cases h;done)
    |exact Zv (QeA _ _ _)
    |exact Zv (QdF _ _ _)
    |exact Zv (Qgn _ _ _)
    |exact Zv (QfJ _ _ _)
 all_goals(cases h)
end
def QN (T:Tables):Code→Bool
 | .region _ ops _=>ops.all fun o=>Un T o.op
 | .seq a b| .cond _ a b| .rangeFunc _ _ a b=>QN T a&&QN T b
 | .block _ c| .loop c| .scope c=>QN T c
 |_=>true
def ZV (T:Tables)(X:Nat→Bool):Item→Prop
 | .code c| .inLoop c| .inScope c=>QN T c=true
 | .inBlock _| .beginRound=>True
 | .inRegion ops _=>(ops.all fun o=>Un T o.op)=true
 | .inRangeFunc l| .endRangeFunc l=>X l=false
 | .call _ _ _ _| .extern _ _=>False
def LOk (T:Tables)(S:FuncId→Bool)(l:Loop):Prop:=S l.fn=true∧QN T l.assign=true∧QN T l.body=true∧∀c,l.pending=some c→QN T c=true
def Y4 (X:Nat→Bool)(d:Deferred):Prop:=∃r,d.target=.collected r∧X r=false
structure FOk (T:Tables) (S:FuncId→Bool) (X:Nat→Bool) (fr:Frame):Prop where
 fn:S fr.fn=true
 todo:∀i∈fr.todo,ZV T X i
 defers:∀d∈fr.defers,Y4 X d
 kind:fr.kind=.normal
 round:∀l,fr.roundOf=some l→X l=false
def MOk (T:Tables)(S:FuncId→Bool)(X:Nat→Bool)(mid:List Frame):Prop:=∀c∈mid,FOk T S X c∧c.mode=.run
def c0:Frame:={fn:=0,tmps:=#[],todo:=[.code (.refuse "")],defers:=[{target:=.nil,args:=#[]}],mode:=.run,kind:=.normal}
section
variable {T:Tables} {S:FuncId→Bool} {X:Nat→Bool}
theorem Kc {id:Nat}:∀ {k k':List Item},exitTo id k=some k'→∀i∈k',i∈k
 | [],k',h=>by simp[exitTo]at h
 |x::k,k',h=>by
  intro i hi
  unfold exitTo at h
  split at h
  ·rename_i h0
   cases h0
   split at h
   ·cases h;exact Qhp _ hi
   ·exact Qhp _ (Kc h i hi)
  ·rename_i h0
   cases h0
   exact Qhp _ (Kc h i hi)
  ·rename_i h0;cases h0
theorem VO {l:Nat}:∀ {c c':Code},QN T c=true→findLabel c l=some c'→QN T c'=true
 | .seq a b,c',hc,h=>by
   simp only[QN,Bool.and_eq_true]at hc
   simp only[findLabel]at h
   split at h
   ·rename_i r hr
    cases h
    simp only[QN,Bool.and_eq_true]
    exact⟨VO hc.1 hr,hc.2⟩
   ·exact VO hc.2 h
 | .label l',c',_,h=>by
   simp only[findLabel]at h
   split at h
   ·cases h;rfl
   ·cases h
 | .skip,_,_,h| .region _ _ _,_,_,h| .cond _ _ _,_,_,h| .block _ _,_,_,h| .loop _,_,_,h| .rangeFunc _ _ _ _,_,_,h| .exit _,_,_,h| .goto _,_,_,h| .ret,_,_,h| .refuse _,_,_,h| .scope _,_,_,h=>by simp[findLabel]at h
theorem Ki {l:Nat}:∀ {k k':List Item},(∀i∈k,ZV T X i)→gotoIn l k=some k'→∀i∈k',ZV T X i
 | [],k',_,h=>by simp[gotoIn]at h
 |x::k,k',hk,h=>by
  unfold gotoIn at h
  split at h
  ·rename_i h0
   cases h0
   split at h
   ·rename_i rest hr
    cases h
    have hb:QN T _=true:=hk _ (Qhr ..)
    intro i hi
    rcases List.mem_cons.1 hi with rfl|hi
    ·exact VO hb hr
    ·exact hk i hi
   ·exact Ki (fun i hi=>hk i (Qhp _ hi)) h
  ·rename_i h0
   cases h0
   exact Ki (fun i hi=>hk i (Qhp _ hi)) h
  ·rename_i h0;cases h0
theorem FOk.to {fr:Frame}(h:FOk T S X fr){k:List Item}(hk:∀i∈k,ZV T X i):FOk T S X {fr with todo:=k}:=⟨h.fn,hk,h.defers,h.kind,h.round⟩
theorem FOk.finish {fr:Frame}(h:FOk T S X fr)(v:Value):FOk T S X (fr.finish v)∧(fr.finish v).mode=fr.mode:=by
 have ht:=h.todo
 unfold Frame.finish
 split
 ·rename_i ops i rest k hk
  rw[hk]at ht
  exact⟨⟨h.fn,fun j hj=>by
   rcases List.mem_cons.1 hj with rfl|hj
   ·exact ht (.inRegion ops (i::rest)) (Qhr ..)
   ·exact ht j (Qhp _ hj),h.defers,h.kind,h.round⟩,rfl⟩
 ·rename_i l k hk
  rw[hk]at ht
  exact⟨⟨h.fn,fun j hj=>by
   rcases List.mem_cons.1 hj with rfl|hj
   ·exact ht (.inRangeFunc l) (Qhr ..)
   ·exact ht j (Qhp _ hj),h.defers,h.kind,h.round⟩,rfl⟩
 ·rename_i k hk
  rw[hk]at ht
  exact⟨⟨h.fn,fun j hj=>ht j (Qhp _ hj),h.defers,h.kind,h.round⟩,rfl⟩
 ·rename_i hk
  rw[hk]at ht
  exact(ht _ (Qhr ..)).elim
 ·rename_i hk
  rw[hk]at ht
  exact(ht _ (Qhr ..)).elim
 ·exact⟨h,rfl⟩
def YR (T:Tables)(S:FuncId→Bool)(X:Nat→Bool)(g:Goroutine):Prop:=
 (∃fr mid chain,g=G fr (mid++ [c0])∧fr.mode=.panicking chain∧(∀d∈fr.defers,Y4 X d)∧MOk T S X mid)∨(∃chain,g=G (c0.raise chain) [])∨∃v,g=G (c0.finish v) []
theorem Pe {fr:Frame}{mid:List Frame}(h:∀d∈fr.defers,Y4 X d)(hm:MOk T S X mid)(vs:List PanicEntry):YR T S X (G (fr.raise vs) (mid++ [c0])):=by
 unfold Frame.raise
 split
 ·exact .inl ⟨_,mid,_,rfl,rfl,h,hm⟩
 ·exact .inl ⟨_,mid,_,rfl,rfl,h,hm⟩
theorem Qhb {P':Program}{g g1:Goroutine}{w w1:World}{es:Array Event}(hW:WOk (LOk T S) w)(hg:YR T S X g)(hs:stepG P' true g w=.go g1 w1 es):YR T S X g1∧WOk (LOk T S) w1:=by
 rcases hg with⟨fr,mid,chain,rfl,hm,hd,hmid⟩|⟨chain,rfl⟩|⟨v,rfl⟩
 ·have e:stepG P' true (G fr (mid++ [c0])) w=unwind P' true fr (mid++ [c0]) none w:=by simp[stepG,G,hm]
  rw[e]at hs
  unfold unwind at hs
  split at hs
  ·rename_i block args ds hds
   rw[hds]at hd
   rw[Sem.runT_eq]at hs
   simp only at hs
   have hrun:∀calls w2,(Instr.takeDeferred block).run P' w=.ok calls w2→calls=[]∧WOk (LOk T S) w2:=by
    intro calls w2 hr
    unfold Instr.takeDeferred at hr
    cases hb:w.heap[block]? with
    |none=>simp[getObj,Sem.run,hb,Result.andThen]at hr
    |some o=>
     cases o with
     |deferred c=>
      cases c with
      |none=>simp[getObj,Sem.run,hb,Result.andThen,stuck]at hr
      |some ds=>
       simp[getObj,setObj,Sem.run,hb,Result.andThen]at hr
       obtain⟨rfl,rfl⟩:=hr
       exact⟨hW _ _ hb,hW.put trivial⟩
     |_=>simp[getObj,Sem.run,hb,Result.andThen,stuck]at hr
   cases hr:(Instr.takeDeferred block).run P' w with
   |halt h w2=>rw[hr]at hs;simp[GStep.after]at hs
   |ok calls w2=>
    rw[hr]at hs
    obtain⟨rfl,hw2⟩:=hrun calls w2 hr
    simp only[GStep.after,GStep.go.injEq]at hs
    obtain⟨rfl,rfl,_⟩:=hs
    exact⟨.inl ⟨_,mid,chain,rfl,hm,fun d hd'=>hd d (Qhp _ (by simpa using hd')),hmid⟩,hw2⟩
  ·rename_i d ds hn hds
   obtain⟨r,hr,_⟩:=hd d (by rw[hds];exact Qhr ..)
   exact absurd hr (by
    intro h
    exact hn r d.args (by cases d;simp_all))
  ·rw[hm]at hs
   simp only at hs
   split at hs
   ·cases hs
   ·cases mid with
    |nil=>
     simp only[List.nil_append,GStep.go.injEq]at hs
     obtain⟨rfl,rfl,_⟩:=hs
     exact⟨.inr (.inl ⟨chain,rfl⟩),hW⟩
    |cons c mid=>
     simp only[List.cons_append,GStep.go.injEq]at hs
     obtain⟨rfl,rfl,_⟩:=hs
     have hc:=hmid c (Qhr ..)
     exact⟨Pe hc.1.defers (fun x hx=>hmid x (Qhp _ hx)) chain,hW⟩
 ·exfalso
  have:stepG P' true (G (c0.raise chain) []) w=.ended (.unsupported (.noEntry "machine/Return: a deferred call of a nil function value, made while the frame is unwinding") (({c0.raise chain with defers:=[]}:Frame).pos P')) w:=by
   simp[stepG,G,c0,Frame.raise,unwind,callDeferred]
  rw[this]at hs
  cases hs
 ·exfalso
  have:∃o,stepG P' true (G (c0.finish v) []) w=.ended o w:=by
   simp[stepG,G,c0,Frame.finish,stepG.exec]
  obtain⟨o,ho⟩:=this
  rw[ho]at hs
  cases hs
end
section
variable {T:Tables} {F F':Array Func} {S:FuncId→Bool} {X:Nat→Bool}
theorem VA (l:Nat)(_hX:X l=false):Tr (PP T F) (PP T F') (LOk T S) X (fun r=>LOk T S r) (Instr.getLoop l) (Instr.getLoop l):=by
 unfold Instr.getLoop
 refine V1 l (fun o _ ho=>?_) (fun a t s=>ZS _ _) (fun s=>ZS _ _)
 cases o with
 |loop r=>exact Q4 r ho
 |_=>exact ZS _ _
theorem QaN (fn:FuncId)(tmps:Array Value)(params:Array Tmp)(a b:Code)(around:Option Nat)(hS:S fn=true)(ha:QN T a=true)(hb:QN T b=true)(hr:∀l,around=some l→X l=false):
 Tr (PP T F) (PP T F') (LOk T S) X (fun r=>X r.1=false∧∀d∈r.2,Y4 X d) (Instr.enterLoop fn tmps params a b around) (Instr.enterLoop fn tmps params a b around):=by
 unfold Instr.enterLoop
 cases around with
 |some l=>
  refine Zn (VA l (hr l rfl)) fun r _=>?_
  refine Zn (Q4 (Q:=fun x:Nat×List Deferred=>x.2=[]) _ rfl) fun x hx=>?_
  obtain⟨d,m⟩:=x
  dsimp only at hx
  subst hx
  refine Zn (Ul (Q:=fun r=>X r=false) (show LOk T S _ from⟨hS,ha,hb,fun c hc=>by cases hc⟩) fun _ h=>h) fun r hr=>Q4 _ ⟨hr,fun d hd=>by cases hd⟩
 |none=>
  refine Zn (Ul (Q:=fun r=>X r=false) (show([]:List Deferred)=[]from rfl) fun _ h=>h) fun r0 hr0=>?_
  refine Zn (Q4 (Q:=fun x:Nat×List Deferred=>∀d∈x.2,Y4 X d) _ (fun d hd=>by
   rcases List.mem_cons.1 hd with rfl|hd
   ·exact⟨r0,rfl,hr0⟩
   ·cases hd)) fun x hx=>?_
  obtain⟨d,m⟩:=x
  refine Zn (Ul (Q:=fun r=>X r=false) (show LOk T S _ from⟨hS,ha,hb,fun c hc=>by cases hc⟩) fun _ h=>h) fun r hr=>Q4 _ ⟨hr,hx⟩
theorem PS (l:Nat)(hX:X l=false):D T F F' (LOk T S) X (Instr.beginRound l):=by
 unfold Instr.beginRound
 refine⟨Zn (VA l hX) fun r hr=>Zn (Q:=fun _=>True) (YW l hX (show LOk T S _ from hr) trivial) fun _ _=>D.tr ?_⟩
 split
 ·exact Qc _
 ·exact QE _
 ·exact QE _
 ·exact QE _
theorem QdW (l:Nat)(hX:X l=false)(j:Option Code)(hj:∀c,j=some c→QN T c=true):D T F F' (LOk T S) X (Instr.endRound l j):=by
 unfold Instr.endRound
 exact⟨Zn (VA l hX) fun r hr=>Zn (Q:=fun _=>True) (YW l hX (show LOk T S _ from⟨hr.1,hr.2.1,hr.2.2.1,hj⟩) trivial) fun _ _=>Q4 _ trivial⟩
theorem Qfn (l:Nat)(hX:X l=false):Tr (PP T F) (PP T F') (LOk T S) X (fun r=>∀c,r=some c→QN T c=true) (Instr.endLoop l) (Instr.endLoop l):=by
 unfold Instr.endLoop
 refine Zn (VA l hX) fun r hr=>?_
 have key:Tr (PP T F) (PP T F') (LOk T S) X (fun r=>∀c,r=some c→QN T c=true) (do setObj l (.loop {r with state:=.exhausted});pure r.pending) (do setObj l (.loop {r with state:=.exhausted});pure r.pending):=
  Zn (Q:=fun _=>True) (YW l hX (show LOk T S _ from hr) trivial) fun _ _=>Q4 _ hr.2.2.2
 dsimp only
 split
 ·exact JB (Um (JR _)) _
 ·exact key
theorem Qdx (b:Nat)(hX:X b=false):Tr (PP T F) (PP T F') (LOk T S) X (fun r=>r=[]) (Instr.takeDeferred b) (Instr.takeDeferred b):=by
 unfold Instr.takeDeferred
 refine V1 b (fun o _ ho=>?_) (fun a t s=>ZS _ _) (fun s=>ZS _ _)
 cases o with
 |deferred c=>
  cases c with
  |none=>exact ZS _ _
  |some ds=>exact Zn (Q:=fun _=>True) (YW b hX trivial trivial) fun _ _=>Q4 _ ho
 |_=>exact ZS _ _
theorem V5 (fn:Func)(tmps:Array Value):D T F F' (LOk T S) X (results fn tmps):=by
 unfold results
 refine Qb (Qao _ (fun x=>?_) _) fun _=>Qc _
 cases x with
 |tmp t=>exact Qc _
 |cell a t=>exact Qb (Ze _) fun _=>Zj _ _
end
section
variable {P:Program} {fr:Frame} {cs:List Frame} {w w1:World} {g1:Goroutine} {es:Array Event}
theorem Qfy {g:Nat}(h:early P fr cs none g w=.go g1 w1 es):w.drawn≤w1.drawn:=by
 have hn:∀w2:World,w.drawn≤w2.drawn→(match w2.heap[g]? with
  |some (.pending c elem)=>GStep.go {frame:=fr,callers:=cs,status:=.running,dying:=none} {w2 with heap:=w2.heap.setIfInBounds g (.cells c elem)}
  |_=>.ended (.stuck "early: the variable does not wait" (fr.pos P)) w2)=.go g1 w1 es→w.drawn≤w1.drawn:=by
  intro w2 hle h
  split at h
  ·cases h;exact hle
  ·cases h
 unfold early at h
 dsimp only at h
 split at h
 ·exact hn w (Qhq _) h
 ·split at h
  ·cases h
  ·split at h
   ·exact hn w (Qhq _) h
   ·split at h
    ·exact hn w (Qhq _) h
    ·split at h
     ·cases h
     ·cases h;exact Qhq _
     ·cases h
     ·exact hn w (Qhq _) h
     ·split at h
      ·cases h;exact Qhq _
      ·split at h
       ·exact hn w (Qhq _) h
       ·have hm:=(JU P (choose (.early g)) w).1
        split at h
        ·rename_i hr;rw[hr]at hm;exact hn _ hm h
        ·rename_i hr;rw[hr]at hm;cases h;exact hm
        ·cases h
theorem Qc1 {m:String}{fr1:Frame}{cs1:List Frame}:endFatal P fr cs none m w≠.go (G fr1 cs1) w1 es:=by
 intro h
 unfold endFatal at h
 dsimp only at h
 split at h
 ·unfold dieOf at h
  repeat' split at h
  all_goals first|(cases h;done)|(simp[G]at h;done)
 all_goals first|(cases h;done)|(simp[G]at h;done)
theorem Qen {m:String}{fr1:Frame}{cs1:List Frame}:endThrow fr m w≠.go (G fr1 cs1) w1 es:=by
 intro h
 unfold endThrow dieOf at h
 repeat' split at h
 all_goals first|(cases h;done)|(simp[G]at h;done)
theorem ZX {es0:Array Event}{s:GStep}(h:GStep.after es0 s=.go g1 w1 es):∃es1,s=.go g1 w1 es1∧es=es0++es1:=by
 cases s<;>simp only[GStep.after,GStep.go.injEq]at h<;>first|(cases h;done)|(obtain⟨rfl,rfl,rfl⟩:=h;exact⟨_,rfl,rfl⟩)
theorem VD {s:Sem Next}{fr1:Frame}{cs1:List Frame}(h:stepG.apply P true fr cs none s w=.go (G fr1 cs1) w1 es):(rw (s.run P w)).drawn≤w1.drawn:=by
 unfold stepG.apply at h
 simp only[if_true,Sem.runT_eq]at h
 cases hr:s.run P w with
 |ok n w2=>
  rw[hr]at h
  obtain⟨es1,h,_⟩:=ZX h
  cases n<;>simp only at h<;>(repeat' split at h)<;>first
   |(cases h;done)
   |(simp only[GStep.go.injEq]at h;obtain⟨_,rfl,_⟩:=h;exact Qhq _)
 |halt x w2=>
  rw[hr]at h
  obtain⟨es1,h,_⟩:=ZX h
  show w2.drawn≤w1.drawn
  cases x with
  |unsupported u=>
   cases u<;>simp only at h<;>first
    |exact Qfy h
    |(cases h;done)
  |fatal m=>exact absurd h Qc1
  |throw m=>exact absurd h Qen
  |exit c=>cases h
  |stuck s=>cases h
  |_=>
   simp only[GStep.go.injEq]at h
   obtain⟨_,rfl,_⟩:=h
   exact Qhq _
end
end Co
end Go.Proofs.YtcpnkpogebjieaaGreat
