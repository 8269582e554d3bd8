/- Calls, and every operation that the cut lets by, in two worlds at once. -/
import Derived.Test.YtcpnkpogebjieaaGreatG03Th
import Derived.Conc.Listed
open List renaming mem_cons_of_mem→Qhp,mem_cons_self→Qhr
open Nat renaming le_refl→Qhq
namespace Go.Proofs.YtcpnkpogebjieaaGreat
namespace Co
open Go.Conc
structure Pk (fn:Func):Prop where
 body:fn.body=none
 name:(fn.name == "runtime.NumGoroutine")=false
 next:Extern.findNext fn=none
 row:Extern.find fn=none
 init:(fn.name.endsWith ".init"&& !fn.name.startsWith "("&& !fn.name.startsWith "gosem.")=false
structure YX (F F':Array Func) (S:FuncId→Bool):Prop where
 same:∀f,S f=true→F'[f]? =F[f]?
 has:∀f fn,S f=true→F[f]? =some fn→fn.body.isSome=true∧(fn.name == "runtime.NumGoroutine")=false
 cut:∀f fn,S f=false→F'[f]? =some fn→Pk fn
def NOk (LO:Loop→Prop)(X:Nat→Bool)(S:FuncId→Bool):Next→Prop
 | .value _| .skip=>True
 | .enter f _=>S f=true
 | .round l f _ a b=>X l=false∧∃r:Loop,LO r∧f=r.fn∧a=r.assign∧b=r.body
 |_=>False
section
variable {T:Tables} {F F':Array Func} {LO:Loop→Prop} {X:Nat→Bool} {S:FuncId→Bool} {α β:Type}
structure DN (T:Tables) (F F':Array Func) (LO:Loop→Prop) (X:Nat→Bool) (S:FuncId→Bool) (s:Sem Next):Prop where
 tr:Tr (PP T F) (PP T F') LO X (NOk LO X S) s s
theorem Y8 {s:Sem α}{f:α→Sem Next}(hs:D T F F' LO X s)(hf:∀a,DN T F F' LO X S (f a)):DN T F F' LO X S (s>>= f):=⟨Zq hs.tr fun a _=>(hf a).tr⟩
theorem Uy (h:Halt)(hh:HOk h:=by exact True.intro):DN T F F' LO X S (.halt h):=⟨ZT h _ hh⟩
theorem Zu {s:Sem Value}(h:D T F F' LO X s):DN T F F' LO X S (s>>= fun v=>pure (.value v)):=⟨Zq h.tr fun _ _=>Q4 _ trivial⟩
theorem Kd {s:Sem Unit}(h:D T F F' LO X s):DN T F F' LO X S (s>>= fun _=>pure .skip):=⟨Zq h.tr fun _ _=>Q4 _ trivial⟩
theorem Ya (n:Next)(h:NOk LO X S n):DN T F F' LO X S (pure n):=⟨Q4 n h⟩
theorem Uz (e:RuntimeError):DN T F F' LO X S (runtimePanic e):=⟨JB (JR e) _⟩
theorem Kb (hC:YX F F' S)(f:FuncId)(args:Array Value):DN T F F' LO X S (callFunc f args):=by
 refine⟨YG ?_⟩
 cases hS:S f with
 |true=>
  have e:(PP T F').funcs[f]? =F[f]? :=hC.same f hS
  have e':(PP T F).funcs[f]? =F[f]? :=rfl
  rw[e,e']
  cases hf:F[f]? with
  |none=>exact ZT _ _
  |some fn=>
   obtain⟨h1,h2⟩:=hC.has f fn hS hf
   have h3:fn.body.isNone=false:=by cases hb:fn.body<;>simp_all
   simp only[h2,h3,Bool.false_eq_true,if_false]
   exact Q4 _ hS
 |false=>
  refine JB ?_ _
  have e:(PP T F').funcs[f]? =F'[f]? :=rfl
  rw[e]
  cases hf:F'[f]? with
  |none=>exact Zw _
  |some fn=>
   obtain⟨h1,h2,h3,h4,h5⟩:=hC.cut f fn hS hf
   simp only[h1,h2,h3,h4,h5,Option.isNone_none,Bool.false_eq_true,if_false,if_true]
   exact Jn (Qam _) fun _=>Zw _
theorem Qc0 (t:TypeId)(p:Value)(n:String):D T F F' LO X (Builtin.ssaWrapNilChk_ #[t] t #[p,strVal "",strVal n]):=by
 unfold Builtin.ssaWrapNilChk_
 cases p with
 |pointer a=>
  cases a with
  |some a=>exact Qd _
  |none=>
   refine Vd ?_
   refine Jn (Qaj _) fun c=>?_
   refine Vq (Uh (JR _)) ?_
   refine Jn (Qao _) fun u=>?_
   split
   ·refine Jn (QfZ _) fun i=>?_
    split
    ·split
     ·dsimp only
      split
      ·exact JR _
      ·exact Zw _
     ·exact Zw _
    ·exact Zw _
   ·exact Zw _
 |_=>exact Qf _
theorem Uw (t:TypeId)(x:Place):D T F F' LO X (x.get t):=by
 cases x with
 |val v=>exact Qd _
 |var a=>exact Zj _ _
theorem PN (l:List FieldStep):∀(t:TypeId) (x:Place),D T F F' LO X (follow l t x):=by
 induction l with
 |nil=>intro t x;exact Qd _
 |cons s l ih=>
  intro t x
  unfold follow
  refine Qb (Qv _) fun u=>?_
  split
  ·split
   ·refine Qn (Qb (Uw _ _) fun v=>Qb (Zd _) fun a=>Qb (ZB _ _) fun p=>ih _ _) ?_
    split
    ·exact Qb (ZB _ _) fun p=>ih _ _
    ·exact Qb (Zs _ _ _) fun p=>ih _ _
    ·exact Qf _
   ·exact Qf _
  ·exact Qf _
theorem PT (t:TypeId)(x:Place)(b:Bool)(w:Option String):D T F F' LO X (receiverAt t x b w):=by
 unfold receiverAt
 refine Qb (Qv _) fun u=>?_
 split
 ·exact Uw _ _
 ·refine Qb (Uw _ _) fun p=>?_
  dsimp only
  split
  ·exact Qb (Qc0 _ _ _) fun p=>Qb (Zd _) fun a=>Zj _ _
  ·exact Qb (Qd _) fun p=>Qb (Zd _) fun a=>Zj _ _
 ·exact Qd _
 ·exact Qf _
 ·exact Uw _ _
theorem QcK (n:Nat):∀(t:TypeId) (v:Value) (s:String),D T F F' LO X (method n t v s):=by
 induction n with
 |zero=>intro t v s;exact Qf _
 |succ n ih=>
  intro t v s
  unfold method
  refine Qb (QG _) fun i=>?_
  split
  ·refine Qb (PN _ _ _) fun p=>?_
   obtain⟨xt,x⟩:=p
   dsimp only
   split
   ·refine Qb (Uw _ _) fun v=>?_
    split
    ·exact ih _ _ _
    ·exact QF _
    ·exact Qf _
   ·exact Qb (PT _ _ _ _) fun r=>Qd _
  ·exact Qf _
theorem QcQ (t:TypeId)(v:Value)(p:Array FieldStep)(b:Bool):D T F F' LO X (receiverVia t v p b):=by
 unfold receiverVia
 refine Qb (PN _ _ _) fun p=>?_
 obtain⟨xt,x⟩:=p
 exact PT _ _ _ _
theorem Qcx (l:List FieldStep):∀(t:TypeId) (x:Option Value),D T F F' LO X (followBlind l t x):=by
 induction l with
 |nil=>intro t x;exact Qd _
 |cons s l ih=>
  intro t x
  unfold followBlind
  refine Qb (Qv _) fun u=>?_
  split
  ·split
   ·split
    all_goals first
     |exact Qd _
     |exact Qf _
     |exact ih _ _
     |exact Qb (Zs _ _ _) fun p=>ih _ _
   ·exact Qf _
  ·exact Qf _
theorem QcN (n:Nat):∀(t:TypeId) (v:Value) (s:String),D T F F' LO X (nilAhead n t v s):=by
 induction n with
 |zero=>intro t v s;exact Qd _
 |succ n ih=>
  intro t v s
  unfold nilAhead
  refine Qb (QG _) fun i=>?_
  split
  ·refine Qb (Qcx _ _ _) fun p=>?_
   split
   ·exact Qd _
   ·split
    all_goals first
     |exact Qd _
     |exact Qf _
     |exact ih _ _ _
     |(refine Qb (Qv _) fun u=>?_
       split<;>exact Qd _)
  ·exact Qf _
theorem PX (hC:YX F F' S)(v:Value)(s:String)(args:Array Value):DN T F F' LO X S (callMethod v s args):=by
 unfold callMethod
 split
 ·refine⟨YG ?_⟩
  have e:(PP T F').types.size=(PP T F).types.size:=rfl
  rw[e]
  refine DN.tr (Y8 (QcK _ _ _ _) fun p=>?_)
  obtain⟨f,r⟩:=p
  exact Kb hC _ _
 ·exact Uz _
 ·exact Uy _
theorem Qc5 (l:Nat)(args:Array Value):DN T F F' LO X S (Instr.yield l args):=by
 unfold Instr.yield Instr.getLoop
 rw[Qaq]
 refine⟨UV l (fun o hX ho=>?_) (fun _ o' o hp=>?_)⟩
 ·cases o with
  |loop r=>
   refine Zq (Q4 (Q:=fun x=>x=r) r rfl) fun r' hr=>?_
   subst hr
   have hl:LO r':=by
    rcases ho with h|⟨a,t,h⟩
    ·exact h
    ·cases h
   dsimp only
   split
   ·exact Zq (Q:=fun _=>True) (ZT _ _) fun _ _=>Q4 _ ⟨hX,r',hl,rfl,rfl,rfl⟩
   ·exact Q4 _ ⟨hX,r',hl,rfl,rfl,rfl⟩
  |_=>exact JB (Uh (Zw _)) _
 ·rcases hp with⟨a,a',t,rfl,rfl⟩|⟨r,rfl,rfl⟩|⟨c,rfl,rfl⟩|⟨c,e,rfl,rfl⟩<;>exact JB (Uh (Zw _)) _
theorem PZ (hC:YX F F' S)(fn:Fn)(c:Array Value)(args:Array Value):DN T F F' LO X S (invoke (.fn fn c) args):=by
 cases fn with
 |func f=>exact Kb hC _ _
 |method n=>
  unfold invoke
  dsimp only
  split
  ·exact PX hC _ _ _
  ·exact Uy _
 |methodOf t n=>
  unfold invoke
  dsimp only
  split
  ·refine Y8 (Qv _) fun u=>?_
   split<;>exact PX hC _ _ _
  ·exact Uy _
 |via t p f b=>
  unfold invoke
  dsimp only
  split
  ·exact Y8 (QcQ _ _ _ _) fun r=>Kb hC _ _
  ·exact Uy _
 |yield l=>exact Qc5 l args
theorem Kc (hC:YX F F' S)(v:Value)(args:Array Value):DN T F F' LO X S (Deferred.ofValue v args>>= fun d=>invoke d.target d.args):=by
 cases v with
 |func fn first c=>exact PZ hC fn c (first++args)
 |nilFunc=>exact⟨JB (JR (α:=Next) .nilDeref) _⟩
 |_=>exact Uy _
def Yw (T:Tables)(t:TypeId):Bool:=match(PP T #[]).underlying t with
 |some (.int _)=>true
 |_=>false
def VG (T:Tables)(t:TypeId):Bool:=match(PP T #[]).underlying t with
 |some .string=>true
 |_=>false
def U9 (T:Tables)(t:TypeId):Bool:=match(PP T #[]).underlying t with
 |some (.slice e)=>(match(PP T #[]).underlying e with|some (.int .u8)=>true|_=>false)
 |_=>false
theorem Qb3 (k:FloatKind)(b:Nat)(d:IntKind):Cho (Conv.floatToInt k b d):=by
 unfold Conv.floatToInt
 repeat' first
  |exact ZN _
  |exact J1 _
  |exact J9 _
  |apply QC
  |apply Z5
  |intro _
  |split
  |dsimp only
theorem Qcm (s t:TypeId)(x:Value)(hs:Yw T s=true)(ht:Yw T t=true):D T F F' LO X (convert s t x):=by
 unfold convert
 refine⟨Zq (YR s) fun u hu=>Zq (YR t) fun v hv=>D.tr ?_⟩
 have hu':(PP T #[]).underlying s=some u:=hu
 have hv':(PP T #[]).underlying t=some v:=hv
 simp only[Yw,hu']at hs
 simp only[Yw,hv']at ht
 cases u<;>simp only at hs<;>try(cases hs;done)
 cases v<;>simp only at ht<;>try(cases ht;done)
 cases x<;>first
  |exact Qd _
  |exact Qf _
  |exact(Qb3 _ _ _).d _ _ _ _ _
  |(rename_i p;cases p<;>exact Qf _)
theorem Qcn (s t:TypeId)(x:Value)(hs:U9 T s=true)(ht:VG T t=true):D T F F' LO X (convert s t x):=by
 unfold convert
 refine⟨Zq (YR s) fun u hu=>Zq (YR t) fun v hv=>?_⟩
 have hu':(PP T #[]).underlying s=some u:=hu
 have hv':(PP T #[]).underlying t=some v:=hv
 simp only[U9,hu']at hs
 simp only[VG,hv']at ht
 cases u<;>simp only at hs<;>try(cases hs;done)
 cases v<;>simp only at ht<;>try(cases ht;done)
 rename_i e
 have key:Tr (PP T F) (PP T F') LO X (fun _=>True) (do
  match ←underlying e with
  | .int .u8=>Conv.bytesToString x
  | .int .i32=>Conv.runesToString x
  |_=>stuck "Convert: a slice of what to string?") (do
  match ←underlying e with
  | .int .u8=>Conv.bytesToString x
  | .int .i32=>Conv.runesToString x
  |_=>stuck "Convert: a slice of what to string?"):=by
  refine Zq (YR e) fun c hc=>?_
  have hc':(PP T #[]).underlying e=some c:=hc
  rw[hc']at hs
  cases c with
  |int k=>cases k<;>first|(cases hs;done)|exact(QcV x).tr
  |_=>cases hs
 cases x<;>first
  |exact key
  |exact Q4 _ trivial
  |exact(ZN _).d _ _ _ _ _ |>.tr
theorem Qco (s t:TypeId)(x:Value)(h:(Yw T s&&Yw T t||U9 T s&&VG T t)=true):D T F F' LO X (convert s t x):=by
 rcases Bool.or_eq_true _ _▸h with h|h<;>rw[Bool.and_eq_true]at h
 ·exact Qcm s t x h.1 h.2
 ·exact Qcn s t x h.1 h.2
def OZ:Builtin→Bool
 | .len| .append| .copy| .clear=>true
 |_=>false
def Uj (T:Tables):Op→Bool
 | .move _| .assign _| .pick _ _ _| .alloc _| .box _ _| .build _ _| .buildSlice _ _ _| .load _ _| .store _ _ _| .unOp _ _ _| .makeInterface _ _| .makeFunc _ _ _
 | .makeSlice _ _ _| .slice _ _ _ _ _| .fieldAddr _ _ _| .field _ _ _| .indexAddr _ _ _| .index _ _ _| .range _ _| .next _ true| .typeAssert _ _ _ _| .extract _ _| .panic _| .nilCheck _=>true
 | .binOp op t _ _ _=>!UG op||YJ T t
 | .convert s t _=>Yw T s&&Yw T t||U9 T s&&VG T t
 | .call c=>match c.callee with
   | .value _| .invoke _ _=>true
   | .builtin b=>OZ b
 |_=>false
theorem QeZ (x:Value):Jc (Instr.panic x):=by
 unfold Instr.panic
 split
 ·exact Zw _
 ·refine Jn ?_ fun _=>Vq (Zw _) (JR _)
  unfold Instr.panicnil
  refine Jz (QfY _) fun r=>?_
  split
  ·exact Jz VD fun _=>JA _
  ·exact VC _
 ·exact Zw _
theorem PY (hC:YX F F' S)(ρ:Operand→Value)(o:Oper)(h:Uj T o.op=true):DN T F F' LO X S (execOp ρ o):=by
 unfold execOp
 cases ho:o.op<;>rw[ho]at h<;>simp only[Uj]at h<;>dsimp only
 case move=>exact Ya _ trivial
 case assign=>exact Ya _ trivial
 case pick=>exact Y8 (Zh _) fun _=>Ya _ trivial
 case alloc=>exact Zu (Qce _ _ _)
 case box=>exact Zu (Qci _ _)
 case build=>exact Zu (Qcj _ _)
 case buildSlice=>exact Zu (Qck _ _ _)
 case load=>exact Zu (QcF _ _)
 case store=>exact Kd (QcU _ _ _)
 case unOp=>exact Zu (QcY _ _)
 case makeInterface=>exact Zu (QcH _ _)
 case makeFunc=>exact Zu (Qd _)
 case makeSlice=>exact Zu (QcI _ _ _)
 case slice=>exact Zu (QcT _ _ _ _ _)
 case fieldAddr=>exact Zu (Qcw _ _ _)
 case field=>exact Zu (Qcv _ _ _)
 case indexAddr=>exact Zu (QcB _ _ _)
 case index=>exact Zu (QcA _ _ _)
 case range=>exact Zu (QcP _ _)
 case next it b=>
  cases b with
  |false=>cases h
  |true=>exact Zu (QcM _ _)
 case typeAssert=>exact Zu (QcX _ _ _ _)
 case extract=>exact Zu (Qcu _ _)
 case convert=>exact Zu (Qco _ _ _ h)
 case panic x=>exact Zu (Vd (QeZ _))
 case nilCheck x=>
  generalize ρ x=v
  cases v with
  |func fn first c=>
   cases fn with
   |method n=>
    dsimp only
    split
    ·exact Uz _
    ·refine⟨YG ?_⟩
     have e:(PP T F').types.size=(PP T F).types.size:=rfl
     rw[e]
     refine DN.tr (Y8 (QcN _ _ _ _) fun r=>?_)
     split
     ·exact Y8 (Qf _) fun _=>Ya _ trivial
     ·exact Ya _ trivial
    ·exact Ya _ trivial
   |_=>exact Ya _ trivial
  |pointer p=>cases p<;>first|exact Uz _|exact Ya _ trivial
  |nilIface=>exact Uz _
  |nilFunc=>exact Uz _
  |_=>exact Ya _ trivial
 case binOp op t x y u=>
  have he:UG op=true→YJ T t=true:=by
   intro hi
   rw[hi]at h
   simpa using h
  refine Zu (Qb (Qcr _ _ _ _ _ _ he) fun _=>Qch _ _ _ _ he)
 case call c=>
  unfold resolve
  cases hc:c.callee<;>rw[hc]at h<;>simp only at h<;>dsimp only
  case value f=>exact Kc hC _ _
  case invoke r n=>exact PZ hC (.method n) #[] _
  case builtin b=>
   cases b<;>simp only[OZ]at h<;>first
    |(cases h;done)
    |exact Zu (QcE _ _ _)
    |exact Zu (Qcf _ _ _)
    |exact Zu (Qcp _ _ _)
    |exact Zu (Qcl _ _ _)
 all_goals(cases h)
end
def QO (T:Tables):Code→Bool
 | .region _ ops _=>ops.all fun o=>Uj T o.op
 | .seq a b| .cond _ a b| .rangeFunc _ _ a b=>QO T a&&QO T b
 | .block _ c| .loop c| .scope c=>QO T c
 |_=>true
def ZY (T:Tables)(X:Nat→Bool):Item→Prop
 | .code c| .inLoop c| .inScope c=>QO T c=true
 | .inBlock _| .beginRound=>True
 | .inRegion ops _=>(ops.all fun o=>Uj T o.op)=true
 | .inRangeFunc l| .endRangeFunc l=>X l=false
 | .call _ _ _ _| .extern _ _=>False
def LOk (T:Tables)(S:FuncId→Bool)(l:Loop):Prop:=S l.fn=true∧QO T l.assign=true∧QO T l.body=true∧∀c,l.pending=some c→QO T c=true
def YW (X:Nat→Bool)(d:Deferred):Prop:=∃r,d.target=.collected r∧X r=false
structure FOk (T:Tables) (S:FuncId→Bool) (X:Nat→Bool) (fr:Frame):Prop where
 fn:S fr.fn=true
 todo:∀i∈fr.todo,ZY T X i
 defers:∀d∈fr.defers,YW X d
 kind:fr.kind=.normal
 round:∀l,fr.roundOf=some l→X l=false
def MOk (T:Tables)(S:FuncId→Bool)(X:Nat→Bool)(mid:List Frame):Prop:=∀c∈mid,FOk T S X c∧c.mode=.run
def c0:Frame:={fn:=0,tmps:=#[],todo:=[.code (.refuse "")],defers:=[{target:=.nil,args:=#[]}],mode:=.run,kind:=.normal}
section
variable {T:Tables} {S:FuncId→Bool} {X:Nat→Bool}
theorem Kk {id:Nat}:∀ {k k':List Item},exitTo id k=some k'→∀i∈k',i∈k
 | [],k',h=>by simp[exitTo]at h
 |x::k,k',h=>by
  intro i hi
  unfold exitTo at h
  split at h
  ·rename_i h0
   cases h0
   split at h
   ·cases h;exact Qhp _ hi
   ·exact Qhp _ (Kk h i hi)
  ·rename_i h0
   cases h0
   exact Qhp _ (Kk h i hi)
  ·rename_i h0;cases h0
theorem Km {l:Nat}:∀ {c c':Code},QO T c=true→findLabel c l=some c'→QO T c'=true
 | .seq a b,c',hc,h=>by
   simp only[QO,Bool.and_eq_true]at hc
   simp only[findLabel]at h
   split at h
   ·rename_i r hr
    cases h
    simp only[QO,Bool.and_eq_true]
    exact⟨Km hc.1 hr,hc.2⟩
   ·exact Km hc.2 h
 | .label l',c',_,h=>by
   simp only[findLabel]at h
   split at h
   ·cases h;rfl
   ·cases h
 | .skip,_,_,h| .region _ _ _,_,_,h| .cond _ _ _,_,_,h| .block _ _,_,_,h| .loop _,_,_,h| .rangeFunc _ _ _ _,_,_,h| .exit _,_,_,h| .goto _,_,_,h| .ret,_,_,h| .refuse _,_,_,h| .scope _,_,_,h=>by simp[findLabel]at h
theorem Kt {l:Nat}:∀ {k k':List Item},(∀i∈k,ZY T X i)→gotoIn l k=some k'→∀i∈k',ZY T X i
 | [],k',_,h=>by simp[gotoIn]at h
 |x::k,k',hk,h=>by
  unfold gotoIn at h
  split at h
  ·rename_i h0
   cases h0
   split at h
   ·rename_i rest hr
    cases h
    have hb:QO T _=true:=hk _ (Qhr ..)
    intro i hi
    rcases List.mem_cons.1 hi with rfl|hi
    ·exact Km hb hr
    ·exact hk i hi
   ·exact Kt (fun i hi=>hk i (Qhp _ hi)) h
  ·rename_i h0
   cases h0
   exact Kt (fun i hi=>hk i (Qhp _ hi)) h
  ·rename_i h0;cases h0
theorem FOk.to {fr:Frame}(h:FOk T S X fr){k:List Item}(hk:∀i∈k,ZY T X i):FOk T S X {fr with todo:=k}:=⟨h.fn,hk,h.defers,h.kind,h.round⟩
theorem FOk.finish {fr:Frame}(h:FOk T S X fr)(v:Value):FOk T S X (fr.finish v)∧(fr.finish v).mode=fr.mode:=by
 have ht:=h.todo
 unfold Frame.finish
 split
 ·rename_i ops i rest k hk
  rw[hk]at ht
  exact⟨⟨h.fn,fun j hj=>by
   rcases List.mem_cons.1 hj with rfl|hj
   ·exact ht (.inRegion ops (i::rest)) (Qhr ..)
   ·exact ht j (Qhp _ hj),h.defers,h.kind,h.round⟩,rfl⟩
 ·rename_i l k hk
  rw[hk]at ht
  exact⟨⟨h.fn,fun j hj=>by
   rcases List.mem_cons.1 hj with rfl|hj
   ·exact ht (.inRangeFunc l) (Qhr ..)
   ·exact ht j (Qhp _ hj),h.defers,h.kind,h.round⟩,rfl⟩
 ·rename_i k hk
  rw[hk]at ht
  exact⟨⟨h.fn,fun j hj=>ht j (Qhp _ hj),h.defers,h.kind,h.round⟩,rfl⟩
 ·rename_i hk
  rw[hk]at ht
  exact(ht _ (Qhr ..)).elim
 ·rename_i hk
  rw[hk]at ht
  exact(ht _ (Qhr ..)).elim
 ·exact⟨h,rfl⟩
def YH (T:Tables)(S:FuncId→Bool)(X:Nat→Bool)(g:Goroutine):Prop:=
 (∃fr mid chain,g=G fr (mid++ [c0])∧fr.mode=.panicking chain∧(∀d∈fr.defers,YW X d)∧MOk T S X mid)∨(∃chain,g=G (c0.raise chain) [])∨∃v,g=G (c0.finish v) []
theorem Ke {fr:Frame}{mid:List Frame}(h:∀d∈fr.defers,YW X d)(hm:MOk T S X mid)(vs:List PanicEntry):YH T S X (G (fr.raise vs) (mid++ [c0])):=by
 unfold Frame.raise
 split
 ·exact .inl ⟨_,mid,_,rfl,rfl,h,hm⟩
 ·exact .inl ⟨_,mid,_,rfl,rfl,h,hm⟩
theorem Qc7 {P':Program}{g g1:Goroutine}{w w1:World}{es:Array Event}(hW:WOk (LOk T S) w)(hg:YH T S X g)(hs:stepG P' true g w=.go g1 w1 es):YH T S X g1∧WOk (LOk T S) w1:=by
 rcases hg with⟨fr,mid,chain,rfl,hm,hd,hmid⟩|⟨chain,rfl⟩|⟨v,rfl⟩
 ·have e:stepG P' true (G fr (mid++ [c0])) w=unwind P' true fr (mid++ [c0]) none w:=by simp[stepG,G,hm]
  rw[e]at hs
  unfold unwind at hs
  split at hs
  ·rename_i block args ds hds
   rw[hds]at hd
   rw[Sem.runT_eq]at hs
   simp only at hs
   have hrun:∀calls w2,(Instr.takeDeferred block).run P' w=.ok calls w2→calls=[]∧WOk (LOk T S) w2:=by
    intro calls w2 hr
    unfold Instr.takeDeferred at hr
    cases hb:w.heap[block]? with
    |none=>simp[getObj,Sem.run,hb,Result.andThen]at hr
    |some o=>
     cases o with
     |deferred c=>
      cases c with
      |none=>simp[getObj,Sem.run,hb,Result.andThen,stuck]at hr
      |some ds=>
       simp[getObj,setObj,Sem.run,hb,Result.andThen]at hr
       obtain⟨rfl,rfl⟩:=hr
       exact⟨hW _ _ hb,hW.put trivial⟩
     |_=>simp[getObj,Sem.run,hb,Result.andThen,stuck]at hr
   cases hr:(Instr.takeDeferred block).run P' w with
   |halt h w2=>rw[hr]at hs;simp[GStep.after]at hs
   |ok calls w2=>
    rw[hr]at hs
    obtain⟨rfl,hw2⟩:=hrun calls w2 hr
    simp only[GStep.after,GStep.go.injEq]at hs
    obtain⟨rfl,rfl,_⟩:=hs
    exact⟨.inl ⟨_,mid,chain,rfl,hm,fun d hd'=>hd d (Qhp _ (by simpa using hd')),hmid⟩,hw2⟩
  ·rename_i d ds hn hds
   obtain⟨r,hr,_⟩:=hd d (by rw[hds];exact Qhr ..)
   exact absurd hr (by
    intro h
    exact hn r d.args (by cases d;simp_all))
  ·rw[hm]at hs
   simp only at hs
   split at hs
   ·cases hs
   ·cases mid with
    |nil=>
     simp only[List.nil_append,GStep.go.injEq]at hs
     obtain⟨rfl,rfl,_⟩:=hs
     exact⟨.inr (.inl ⟨chain,rfl⟩),hW⟩
    |cons c mid=>
     simp only[List.cons_append,GStep.go.injEq]at hs
     obtain⟨rfl,rfl,_⟩:=hs
     have hc:=hmid c (Qhr ..)
     exact⟨Ke hc.1.defers (fun x hx=>hmid x (Qhp _ hx)) chain,hW⟩
 ·exfalso
  have:stepG P' true (G (c0.raise chain) []) w=.ended (.unsupported (.noEntry "machine/Return: a deferred call of a nil function value, made while the frame is unwinding") (({c0.raise chain with defers:=[]}:Frame).pos P')) w:=by
   simp[stepG,G,c0,Frame.raise,unwind,callDeferred]
  rw[this]at hs
  cases hs
 ·exfalso
  have:∃o,stepG P' true (G (c0.finish v) []) w=.ended o w:=by
   simp[stepG,G,c0,Frame.finish,stepG.exec]
  obtain⟨o,ho⟩:=this
  rw[ho]at hs
  cases hs
end
section
variable {T:Tables} {F F':Array Func} {S:FuncId→Bool} {X:Nat→Bool}
theorem VH (l:Nat)(_hX:X l=false):Tr (PP T F) (PP T F') (LOk T S) X (fun r=>LOk T S r) (Instr.getLoop l) (Instr.getLoop l):=by
 unfold Instr.getLoop
 refine K9 l (fun o _ ho=>?_) (fun a t s=>ZT _ _) (fun s=>ZT _ _)
 cases o with
 |loop r=>exact Q4 r ho
 |_=>exact ZT _ _
theorem QaF (fn:FuncId)(tmps:Array Value)(params:Array Tmp)(a b:Code)(around:Option Nat)(hS:S fn=true)(ha:QO T a=true)(hb:QO T b=true)(hr:∀l,around=some l→X l=false):
 Tr (PP T F) (PP T F') (LOk T S) X (fun r=>X r.1=false∧∀d∈r.2,YW X d) (Instr.enterLoop fn tmps params a b around) (Instr.enterLoop fn tmps params a b around):=by
 unfold Instr.enterLoop
 cases around with
 |some l=>
  refine Zq (VH l (hr l rfl)) fun r _=>?_
  refine Zq (Q4 (Q:=fun x:Nat×List Deferred=>x.2=[]) _ rfl) fun x hx=>?_
  obtain⟨d,m⟩:=x
  dsimp only at hx
  subst hx
  refine Zq (Un (Q:=fun r=>X r=false) (show LOk T S _ from⟨hS,ha,hb,fun c hc=>by cases hc⟩) fun _ h=>h) fun r hr=>Q4 _ ⟨hr,fun d hd=>by cases hd⟩
 |none=>
  refine Zq (Un (Q:=fun r=>X r=false) (show([]:List Deferred)=[]from rfl) fun _ h=>h) fun r0 hr0=>?_
  refine Zq (Q4 (Q:=fun x:Nat×List Deferred=>∀d∈x.2,YW X d) _ (fun d hd=>by
   rcases List.mem_cons.1 hd with rfl|hd
   ·exact⟨r0,rfl,hr0⟩
   ·cases hd)) fun x hx=>?_
  obtain⟨d,m⟩:=x
  refine Zq (Un (Q:=fun r=>X r=false) (show LOk T S _ from⟨hS,ha,hb,fun c hc=>by cases hc⟩) fun _ h=>h) fun r hr=>Q4 _ ⟨hr,hx⟩
theorem PM (l:Nat)(hX:X l=false):D T F F' (LOk T S) X (Instr.beginRound l):=by
 unfold Instr.beginRound
 refine⟨Zq (VH l hX) fun r hr=>Zq (Q:=fun _=>True) (Uo l hX (show LOk T S _ from hr) trivial) fun _ _=>D.tr ?_⟩
 split
 ·exact Qd _
 ·exact QF _
 ·exact QF _
 ·exact QF _
theorem Qcq (l:Nat)(hX:X l=false)(j:Option Code)(hj:∀c,j=some c→QO T c=true):D T F F' (LOk T S) X (Instr.endRound l j):=by
 unfold Instr.endRound
 exact⟨Zq (VH l hX) fun r hr=>Zq (Q:=fun _=>True) (Uo l hX (show LOk T S _ from⟨hr.1,hr.2.1,hr.2.2.1,hj⟩) trivial) fun _ _=>Q4 _ trivial⟩
theorem Qgo (l:Nat)(hX:X l=false):Tr (PP T F) (PP T F') (LOk T S) X (fun r=>∀c,r=some c→QO T c=true) (Instr.endLoop l) (Instr.endLoop l):=by
 unfold Instr.endLoop
 refine Zq (VH l hX) fun r hr=>?_
 have key:Tr (PP T F) (PP T F') (LOk T S) X (fun r=>∀c,r=some c→QO T c=true) (do setObj l (.loop {r with state:=.exhausted});pure r.pending) (do setObj l (.loop {r with state:=.exhausted});pure r.pending):=
  Zq (Q:=fun _=>True) (Uo l hX (show LOk T S _ from hr) trivial) fun _ _=>Q4 _ hr.2.2.2
 dsimp only
 split
 ·exact JB (Uh (JR _)) _
 ·exact key
theorem Qgp (b:Nat)(hX:X b=false):Tr (PP T F) (PP T F') (LOk T S) X (fun r=>r=[]) (Instr.takeDeferred b) (Instr.takeDeferred b):=by
 unfold Instr.takeDeferred
 refine K9 b (fun o _ ho=>?_) (fun a t s=>ZT _ _) (fun s=>ZT _ _)
 cases o with
 |deferred c=>
  cases c with
  |none=>exact ZT _ _
  |some ds=>exact Zq (Q:=fun _=>True) (Uo b hX trivial trivial) fun _ _=>Q4 _ ho
 |_=>exact ZT _ _
theorem V9 (fn:Func)(tmps:Array Value):D T F F' (LOk T S) X (results fn tmps):=by
 unfold results
 refine Qb (PR _ (fun x=>?_) _) fun _=>Qd _
 cases x with
 |tmp t=>exact Qd _
 |cell a t=>exact Qb (Zd _) fun _=>Zj _ _
end
section
variable {P:Program} {fr:Frame} {cs:List Frame} {w w1:World} {g1:Goroutine} {es:Array Event}
theorem Qdk {g:Nat}(h:early P fr cs none g w=.go g1 w1 es):w.drawn≤w1.drawn:=by
 have hn:∀w2:World,w.drawn≤w2.drawn→(match w2.heap[g]? with
  |some (.pending c elem)=>GStep.go {frame:=fr,callers:=cs,status:=.running,dying:=none} {w2 with heap:=w2.heap.setIfInBounds g (.cells c elem)}
  |_=>.ended (.stuck "early: the variable does not wait" (fr.pos P)) w2)=.go g1 w1 es→w.drawn≤w1.drawn:=by
  intro w2 hle h
  split at h
  ·cases h;exact hle
  ·cases h
 unfold early at h
 dsimp only at h
 split at h
 ·exact hn w (Qhq _) h
 ·split at h
  ·cases h
  ·split at h
   ·exact hn w (Qhq _) h
   ·split at h
    ·exact hn w (Qhq _) h
    ·split at h
     ·cases h
     ·cases h;exact Qhq _
     ·cases h
     ·exact hn w (Qhq _) h
     ·split at h
      ·cases h;exact Qhq _
      ·split at h
       ·exact hn w (Qhq _) h
       ·have hm:=(JU P (choose (.early g)) w).1
        split at h
        ·rename_i hr;rw[hr]at hm;exact hn _ hm h
        ·rename_i hr;rw[hr]at hm;cases h;exact hm
        ·cases h
theorem Qdn {m:String}{fr1:Frame}{cs1:List Frame}:endFatal P fr cs none m w≠.go (G fr1 cs1) w1 es:=by
 intro h
 unfold endFatal at h
 dsimp only at h
 split at h
 ·unfold dieOf at h
  repeat' split at h
  all_goals first|(cases h;done)|(simp[G]at h;done)
 all_goals first|(cases h;done)|(simp[G]at h;done)
theorem Qdo {m:String}{fr1:Frame}{cs1:List Frame}:endThrow fr m w≠.go (G fr1 cs1) w1 es:=by
 intro h
 unfold endThrow dieOf at h
 repeat' split at h
 all_goals first|(cases h;done)|(simp[G]at h;done)
theorem ZU {es0:Array Event}{s:GStep}(h:GStep.after es0 s=.go g1 w1 es):∃es1,s=.go g1 w1 es1∧es=es0++es1:=by
 cases s<;>simp only[GStep.after,GStep.go.injEq]at h<;>first|(cases h;done)|(obtain⟨rfl,rfl,rfl⟩:=h;exact⟨_,rfl,rfl⟩)
theorem U6 {s:Sem Next}{fr1:Frame}{cs1:List Frame}(h:stepG.apply P true fr cs none s w=.go (G fr1 cs1) w1 es):(rw (s.run P w)).drawn≤w1.drawn:=by
 unfold stepG.apply at h
 simp only[if_true,Sem.runT_eq]at h
 cases hr:s.run P w with
 |ok n w2=>
  rw[hr]at h
  obtain⟨es1,h,_⟩:=ZU h
  cases n<;>simp only at h<;>(repeat' split at h)<;>first
   |(cases h;done)
   |(simp only[GStep.go.injEq]at h;obtain⟨_,rfl,_⟩:=h;exact Qhq _)
 |halt x w2=>
  rw[hr]at h
  obtain⟨es1,h,_⟩:=ZU h
  show w2.drawn≤w1.drawn
  cases x with
  |unsupported u=>
   cases u<;>simp only at h<;>first
    |exact Qdk h
    |(cases h;done)
  |fatal m=>exact absurd h Qdn
  |throw m=>exact absurd h Qdo
  |exit c=>cases h
  |stuck s=>cases h
  |_=>
   simp only[GStep.go.injEq]at h
   obtain⟨_,rfl,_⟩:=h
   exact Qhq _
end
end Co
end Go.Proofs.YtcpnkpogebjieaaGreat
