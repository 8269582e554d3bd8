/- append, in two worlds at once. -/
import Derived.Test.YtcpnkpogebjieaaGreatS02Te
namespace Go.Proofs.YtcpnkpogebjieaaGreat
namespace Co
open Go.Conc
section
variable {T:Tables} {F F':Array Func} {LO:Loop→Prop} {X:Nat→Bool} {α β:Type}
theorem Vq {s:Sem α}(h:Jh s):D T F F' LO X s:=⟨JK h s⟩
theorem QaW (a:Addr)(n:Nat):Saf (Builtin.holdsCells a n):=by
 unfold Builtin.holdsCells;refine JI (Qgs _) fun o=>?_;split<;>exact JJ _
theorem Qgq (a b c:Nat)(o:Option Addr)(v:Value):Saf (Builtin.mayShare a b c o v):=by
 unfold Builtin.mayShare
 have key:∀t:Bool,Saf (if(!t)=true then(pure true:Sem Bool)else match v with
  | .slice (some d) _ _=>do pure (!(←Builtin.holdsCells d (c*a))||o.any (·.block ==d.block))
  |_=>pure false):=by
  intro t;refine Qgp (JJ _) ?_;split
  ·exact JI (QaW _ _) fun _=>JJ _
  ·exact JJ _
 cases o with
 |none=>exact JI (JJ _) fun t=>key t
 |some d=>exact JI (QaW _ _) fun _=>JI (Qgo _) fun _=>JI (JJ _) fun t=>key t
theorem QcS (a:Array TypeId)(t:TypeId)(x:Array Value):D T F F' LO X (Builtin.append_ a t x):=by
 unfold Builtin.append_;split
 ·rename_i sT s v he;refine Qc (Qy _) fun u=>?_;split
  ·rename_i elem;split
   ·rename_i base sLen sCap;refine Qc (QV _) fun size=>?_
    extract_lets+onlyGivenNames k1 k2
    have hk2:∀z,D T F F' LO X (k2 z):=by
     intro z;simp-zeta only[k2]
     extract_lets+onlyGivenNames j
     have hj:∀n,D T F F' LO X (j n):=by
      intro n;simp-zeta only[j]
      extract_lets+onlyGivenNames app need
      have happ:D T F F' LO X app:=by
       simp-zeta only[app];exact Qp (KD _ _ _) (Qp (Qd _) (Qc (QT _) fun _=>Qd _))
      refine Qp (Qc happ fun new=>?_) (Qc (QH _) fun i=>?_)
      ·extract_lets+onlyGivenNames j2
       split
       ·exact Qc (Zq _ _ _) fun _=>Qd _
       ·exact Qd _
      ·extract_lets j3 j2
       have hj3:∀u,D T F F' LO X (j3 u):=by
        intro u;simp-zeta only[j3];refine Qc (QS _) fun c=>Qc (QH _) fun i=>Qc (Zv _) fun _=>Qc (KD _ _ _) fun old=>Qc happ fun new=>Qc (QT _) fun z=>?_;exact Qc (Zp _ _) fun r=>Qd _
       have hj2:∀u,D T F F' LO X (j2 u):=by
        intro u;simp-zeta only[j2];refine Qc (QH _) fun i=>?_;exact Qp (Vq (Uy (VJ (J0 _) (Js (Qgq _ _ _ _ _) fun b=>VJ (Js (QaX _) fun _=>Zy _) (Zy _))))) (hj3 ())
       exact Qp (Qc (QG _) fun u=>hj2 u) (hj2 ())
     refine Qp (Qc (Zb _) fun l0=>?_) (Qc (KE _) fun n=>hj n)
     extract_lets l j3 j2
     have hj2:∀u,D T F F' LO X (j2 u):=by
      intro u;simp-zeta only[j2];refine Qc (QH _) fun i=>?_;exact Qp (Qc (QS _) fun m=>Vq (Uy (J0 _))) (Qc (Qd _) fun n=>hj n)
     exact Qp (Qc (QG _) fun u=>hj2 u) (hj2 ())
    split
    ·exact Qc (Qy _) fun u=>Qc (Qd _) fun z=>hk2 z
    ·exact Qc (Qd _) fun z=>hk2 z
   ·exact Qh _
  ·exact Qh _
 ·exact Qh _
end
section
variable {T:Tables} {F F':Array Func} {LO:Loop→Prop} {X:Nat→Bool} {α β:Type}
theorem QdC (r:Nat){f:Option (Addr×TypeId)→Sem β}(hs:∀x,Jh (f (some x)))(hn:D T F F' LO X (f none)):D T F F' LO X (viewAt r>>= f):=by
 unfold viewAt;refine Vo (UN r (fun o=>?_) (fun e n=>hn.tr))
 cases o with
 |some x=>exact hn
 |none=>
  have h:D T F F' LO X ((getObj r>>= fun o=>match o with| .view a t=>pure (some (a,t))|_=>pure none)>>= f):=by
   refine Vo ⟨U7 r (fun o _ _=>?_) (fun _ o' o hp=>?_)⟩
   ·split
    ·exact JK (hs _) _
    ·exact hn.tr
   ·rcases hp with⟨a,a',t,rfl,rfl⟩|⟨l,rfl,rfl⟩|⟨c,rfl,rfl⟩|⟨c,e,rfl,rfl⟩
    ·exact JK (hs _) _
    ·exact hn.tr
    ·exact hn.tr
    ·exact hn.tr
  exact h
theorem Qcz (P:Program)(d:Nat)(e:TypeId)(o:Nat)(b:Int):cellAtBytes P d e 0 o b=none:=by
 unfold cellAtBytes;dsimp only;split
 ·rfl
 ·simp only[bind,Option.bind];split
  ·rfl
  ·rename_i x h;simp only[Nat.zero_mul];rw[if_pos];rcases Int.lt_or_le (Int.ofNat (o/P.cellsOf e*P.bytesOf e+x)+b) 0 with hl|hl
   ·simp only[hl,decide_true,Bool.true_or]
   ·have:Int.ofNat (o/P.cellsOf e*P.bytesOf e+x)+b≥Int.ofNat 0:=hl;simp only[this,decide_true,Bool.or_true]
theorem KG (t:TypeId)(p:Option Addr)(y:Value):D T F F' LO X (Builtin.unsafeAdd_ #[] t #[.pointer p,y]):=by
 unfold Builtin.unsafeAdd_;dsimp only;refine Qc (Zb _) fun n=>?_;refine Qp ?_ (Qp (Qc (Qh _) fun _=>?_) ?_)
 ·split
  ·exact QdC _ (fun x=>Zy _) (Qd _)
  ·exact Qh _
 all_goals
  split
  ·refine UN _ (fun o=>?_) (fun e c=>?_)
   ·split
    ·refine Um ?_;rw[Qcy T F F'];have e2:(PP T F').depth=(PP T F).depth:=rfl;rw[e2];refine D.tr ?_;split
     ·exact Qd _
     ·exact Qh _
    ·exact Qh _
   ·refine YP ?_;rw[Nat.zero_div,Qcz];exact Z0 _ _
  ·exact Qh _
theorem YE (a:Addr):D T F F' LO X (behindNumber a):=Qc (ZD _) fun _=>Qd _
theorem QcT (a:Addr)(l:Bool):D T F F' LO X (asNumber a l):=Qc ⟨UC (LO:=LO) trivial fun _ _=>trivial⟩ fun _=>Qd _
theorem Ox (t:TypeId)(x y:Value):D T F F' LO X (movedNumber t x y):=by
 unfold movedNumber;refine Qc (Qy _) fun u=>?_;split
 ·rename_i n
  extract_lets j
  have hj:∀u,D T F F' LO X (j u):=by
   intro u;simp-zeta only[j];refine Qc (YE _) fun al=>?_;obtain⟨a,lost⟩:=al;refine Qc (KG _ _ _) fun v=>?_;split
   ·exact QcT _ _
   ·exact Qd _
  exact Qp (Qc (Qh _) fun u=>hj u) (hj ())
 ·have key:D T F F' LO X (Builtin.unsafeAdd_ #[] t #[x,y]):=by
   cases x with
   |pointer p=>exact KG _ _ _
   |_=>exact Qh _
  exact Qp (Qc (Qh _) fun _=>key) key
theorem Qdo (t:TypeId)(x y:Value):D T F F' LO X (movedPointer t x y):=by
 unfold movedPointer
 have key:D T F F' LO X (Builtin.unsafeAdd_ #[] t #[x,y]):=by
  cases x with
  |pointer p=>exact KG _ _ _
  |_=>exact Qh _
 split
 ·refine Qc (ZD _) fun n=>Qp (Qc (Qh _) fun _=>key) key
 ·exact key
theorem Oz (a b:Addr):D T F F' LO X (Op.twoPlaces a b):=by
 unfold Op.twoPlaces;refine Um ?_;refine D.tr ?_;exact Qp (Qc (Qh _) fun _=>Qc (Zi _) fun _=>Qc (Zi _) fun _=>Qd _) (Qc (Zi _) fun _=>Qc (Zi _) fun _=>Qd _)
theorem QcQ (k:IntKind)(a b:Addr):D T F F' LO X (Op.addrSub k a b):=Qc (Oz _ _) fun _=>Qd _
theorem QcO (op:BinOp)(a b:Addr):D T F F' LO X (Op.addrCmp op a b):=by
 unfold Op.addrCmp;refine Qc (Oz _ _) fun _=>?_;dsimp only;split<;>first|exact Qd _|exact Qh _
theorem QcP (k:IntKind)(a:Addr)(n:Int):D T F F' LO X (Op.addrMod k a n):=by
 unfold Op.addrMod
 have key:∀e,D T F F' LO X (do
  let align:=(←typeInfo e).align
  if n<1||n.toNat>align||align%n.toNat !=0 then unsupported .addressObserved
  pure (.int k ((←byteOf a)%n.toNat:Nat)):Sem Value):=by
  intro e;refine Qc (QH _) fun i=>?_;exact Qp (Qc (Qh _) fun _=>Qc (Zi _) fun _=>Qd _) (Qc (Zi _) fun _=>Qd _)
 refine UN _ (fun o=>?_) (fun e c=>(key e).tr)
 cases o with
 |none=>exact Qh _
 |some x=>exact key x.1
theorem Ou (op:BinOp)(k:IntKind)(x y:Int):D T F F' LO X (Op.intArith op k x y):=by unfold Op.intArith;split<;>first|exact Qd _|exact Qh _
theorem Qdg (op:BinOp)(k:IntKind)(x y:Int):D T F F' LO X (Op.intDiv op k x y):=by
 unfold Op.intDiv;refine Qp (QG _) ?_;split<;>first|exact Qd _|exact Qh _
theorem Ov (op:BinOp)(k:IntKind)(x y:Int):D T F F' LO X (Op.intBits op k x y):=by unfold Op.intBits;dsimp only;split<;>first|exact Qd _|exact Qh _
theorem Qdf (op:BinOp)(x y:Int):D T F F' LO X (Op.intCmp op x y):=by unfold Op.intCmp;split<;>first|exact Qd _|exact Qh _
theorem Qdu (op:BinOp)(k:IntKind)(x:Int)(yk:IntKind)(y:Int):D T F F' LO X (Op.shift op k x yk y):=by
 unfold Op.shift;refine Qp (QG _) ?_;dsimp only;split<;>first|exact Qd _|exact Qh _
theorem Qdz (op:BinOp)(x y:ByteArray):D T F F' LO X (Op.stringOp op x y):=by
 unfold Op.stringOp;dsimp only;split<;>first|exact Qd _|exact Qh _|exact Qp (Qh _) (Qd _)
theorem QdB (op:UnOp)(x:Value):D T F F' LO X (Op.unary op x):=by
 unfold Op.unary;split<;>first|exact Qd _|exact Qh _|exact Ou _ _ _ _|exact Ov _ _ _ _
end
section
variable {T:Tables} {F F':Array Func} {LO:Loop→Prop} {X:Nat→Bool} {α β:Type}
theorem Qca (T:Tables)(F F':Array Func)(d:Nat):∀(a b:TypeId),(PP T F').alikeButTags d a b=(PP T F).alikeButTags d a b:=by
 induction d with
 |zero=>intro a b;rfl
 |succ d ih=>
  intro a b;have ih':(PP T F').alikeButTags d=(PP T F).alikeButTags d:=by funext a b;exact ih a b
  simp only[Program.alikeButTags,ih']
  try rfl
theorem PE (T:Tables)(F F':Array Func)(t:TypeId):(PP T F').stoodInHeld t=(PP T F).stoodInHeld t:=by
 unfold Program.stoodInHeld Program.stoodInAs;simp only[Qca T F F'];have e:(PP T F').depth=(PP T F).depth:=rfl;have e1:∀x,(PP T F').underlyingId x=(PP T F).underlyingId x:=fun _=>rfl;have e2:∀x,(PP T F').underlying x=(PP T F).underlying x:=fun _=>rfl;simp only[e,e1,e2]
def eqT (T:Tables):Nat→TypeId→Bool
 |0,_=>true
 |d+1,t=>match(PP T #[]).underlying t with
  |some .bool|some (.int _)|some .string|some (.slice _)|none=>true
  |some (.struct fs)=>!(PP T #[]).stoodInHeld t&&fs.all fun f=>eqT T d f.type
  |_=>false
theorem Qdc {γ:Type}(l:Array γ)(f:γ→β→Sem (ForInStep β))(hf:∀x,x∈l→∀b,D T F F' LO X (f x b))(b:β):D T F F' LO X (forIn l b f):=by
 rw[←Array.forIn_toList];have hf':∀x∈l.toList,∀b,D T F F' LO X (f x b):=fun x hx=>hf x (by simpa using hx);generalize l.toList=k at hf'
 induction k generalizing b with
 |nil=>exact Qd _
 |cons x k ih=>
  rw[List.forIn_cons];refine Qc (hf' x (by simp) b) fun s=>?_
  cases s with
  |done b=>exact Qd _
  |yield b=>exact ih b fun y hy=>hf' y (by simp[hy])
theorem Qc6 (d:Nat):∀(k:Nat) (t:TypeId) (x y:Value),eqT T k t=true→d≤k→D T F F' LO X (Op.equalIn d t x y):=by
 induction d with
 |zero=>intro k t x y _ _;exact Qh _
 |succ d ih=>
  intro k t x y ht hk;obtain⟨k,rfl⟩:∃m,k=m+1:=⟨k-1,by omega⟩;unfold Op.equalIn;refine⟨Zs (Y6 t) fun u hu=>?_⟩;have hu':(PP T #[]).underlying t=some u:=hu;simp only[eqT,hu']at ht;refine D.tr ?_
  cases u<;>simp only at ht<;>try(cases ht;done)
  case bool=>(split<;>first|exact Qd _|exact Qh _|exact Qp (Qd _) (Qh _)|contradiction)
  case string=>(split<;>first|exact Qd _|exact Qh _|exact Qp (Qd _) (Qh _)|contradiction)
  case slice=>(split<;>first|exact Qd _|exact Qh _|exact Qp (Qd _) (Qh _)|contradiction)
  case int=>
   split<;>first
    |exact Qd _
    |exact Qh _
    |exact Qp (Qd _) (Qh _)
    |contradiction
    |(refine Qc (YE _) fun a=>Qc (YE _) fun b=>Um (D.tr (Qp (Qc (Zi _) fun _=>Qc (Zi _) fun _=>Qd _) (Qc (QH _) fun i=>?_)))
      split
      ·exact Qp (Qd _) (Qh _)
      ·exact Qh _)
  case struct fs=>
   split<;>first
    |exact Qd _
    |exact Qh _
    |exact Qp (Qd _) (Qh _)
    |contradiction
    |skip
   rename_i fields xs ys hs
   cases hs
   refine Um ?_;have e0:(PP T F').stoodInHeld t=(PP T #[]).stoodInHeld t:=PE T _ _ t;have e1:(PP T F).stoodInHeld t=(PP T #[]).stoodInHeld t:=PE T _ _ t;simp only[Bool.and_eq_true,Bool.not_eq_true']at ht;rw[e0,e1,ht.1];refine D.tr ?_;simp only[Bool.false_eq_true,if_false];refine Qc (Qdc _ _ (fun f hf s=>Qp (Qc (Zu _ _ _) fun a=>Qc (Zu _ _ _) fun b=>Qc (ih k f.type a b ?_ (by omega)) fun r=>Qp (Qd _) (Qd _)) (Qd _)) _) fun s=>?_
   ·exact(Array.all_eq_true'.1 ht.2) f hf
   ·split<;>exact Qd _
theorem KP (T:Tables)(F F':Array Func)(d:Nat):∀t:TypeId,(PP T F').eqGuardType d t=(PP T F).eqGuardType d t:=by
 induction d with
 |zero=>intro t;rfl
 |succ d ih=>
  intro t;have ih':(PP T F').eqGuardType d=(PP T F).eqGuardType d:=by funext t;exact ih t
  simp only[Program.eqGuardType,ih'];rfl
def YS (T:Tables)(t:TypeId):Bool:=eqT T Op.maxDepth t&& !(PP T #[]).eqGuardType (PP T #[]).depth t
theorem Qc5 (t:TypeId)(x y:Value)(h:YS T t=true):D T F F' LO X (Op.equal t x y):=by
 simp only[YS,Bool.and_eq_true]at h;exact Qc6 _ _ t x y h.1 (Nat.le_refl _)
structure Cho (s:Sem α):Prop where
 d:∀(T:Tables) (F F':Array Func) (LO:Loop→Prop) (X:Nat→Bool),D T F F' LO X s
theorem ZT (a:α):Cho (pure a:Sem α):=⟨fun _ _ _ _ _=>Qd a⟩
theorem J9 (h:Halt)(hh:HOk h:=by exact True.intro):Cho (.halt h:Sem α):=⟨fun _ _ _ _ _=>Qh h hh⟩
theorem Yk (q:Question):Cho (choose q):=⟨fun _ _ _ _ _=>QS q⟩
theorem QE {s:Sem α}{f:α→Sem β}(hs:Cho s)(hf:∀a,Cho (f a)):Cho (s>>= f):=⟨fun T F F' LO X=>Qc (hs.d T F F' LO X) fun a=>(hf a).d T F F' LO X⟩
theorem Jb {c:Prop}[Decidable c]{x y:Sem α}(hx:Cho x)(hy:Cho y):Cho (if c then x else y):=by split<;>assumption
theorem Oi (op:BinOp)(k:FloatKind)(x y:Nat):Cho (Op.floatArith op k x y):=by
 unfold Op.floatArith
 repeat' first
  |exact ZT _
  |exact J9 _
  |exact Yk _
  |apply QE
  |apply Jb
  |intro _
  |split
  |dsimp only
theorem Oj (op:BinOp)(k:FloatKind)(x y:Nat):Cho (Op.floatCmp op k x y):=by
 unfold Op.floatCmp
 repeat' first
  |exact ZT _
  |exact J9 _
  |exact Yk _
  |apply QE
  |apply Jb
  |intro _
  |split
  |dsimp only
theorem QcE (v:Value):Cho (asBool v):=by
 unfold asBool
 repeat' first
  |exact ZT _
  |exact J9 _
  |exact Yk _
  |apply QE
  |apply Jb
  |intro _
  |split
  |dsimp only
theorem Z8 (op:BinOp)(k:FloatKind)(x y:Nat):Cho (Op.Complex.arith op k x y):=by
 unfold Op.Complex.arith;refine QE (Oi _ _ _ _) fun _=>?_
 repeat' first
  |exact ZT _
  |exact J9 _
  |exact Yk _
  |apply QE
  |apply Jb
  |intro _
  |split
  |dsimp only
theorem UL (op:BinOp)(k:FloatKind)(x y:Nat):Cho (Op.Complex.cmp op k x y):=QE (Oj _ _ _ _) fun _=>QcE _
theorem QcJ (s:FloatKind)(x:Nat)(t:FloatKind):Cho (Conv.floatToFloat s x t):=by
 unfold Conv.floatToFloat
 repeat' first
  |exact ZT _
  |exact J9 _
  |exact Yk _
  |apply QE
  |apply Jb
  |intro _
  |split
  |dsimp only
theorem YC (s:FloatKind)(x:Nat)(t:FloatKind):Cho (Op.Complex.conv s x t):=by
 unfold Op.Complex.conv;refine Jb (ZT _) (QE (QcJ _ _ _) fun _=>?_)
 repeat' first
  |exact ZT _
  |exact J9 _
  |exact Yk _
  |apply QE
  |apply Jb
  |intro _
  |split
  |dsimp only
theorem QcH (a b c d:Nat):Cho (Op.Complex.product a b c d):=by
 unfold Op.Complex.product Op.Complex.sub Op.Complex.mul Op.Complex.add
 repeat' first
  |exact ZT _
  |exact J9 _
  |exact Yk _
  |exact Z8 _ _ _ _
  |apply QE
  |apply Jb
  |intro _
  |split
  |dsimp only
theorem Oh (s a b c d:Nat):Cho (Op.Complex.corrected s a b c d):=by
 unfold Op.Complex.corrected Op.Complex.sub Op.Complex.mul Op.Complex.add
 repeat' first
  |exact ZT _
  |exact J9 _
  |exact Yk _
  |exact Z8 _ _ _ _
  |apply QE
  |apply Jb
  |intro _
  |split
  |dsimp only
theorem QcI (a b c d:Nat):Cho (Op.Complex.quotient a b c d):=by
 unfold Op.Complex.quotient;refine QE (UL _ _ _ _) fun g=>?_
 extract_lets j
 have hj:∀e,Cho (j e):=by
  intro e;obtain⟨e,f⟩:=e;simp-zeta only[j];refine QE (UL _ _ _ _) fun z1=>QE (UL _ _ _ _) fun z2=>?_
  extract_lets z
  refine Jb (ZT _) (Jb ?_ (Jb (Oh _ _ _ _ _) (Jb (Oh _ _ _ _ _) (ZT _))));exact QE (Z8 _ _ _ _) fun _=>QE (Z8 _ _ _ _) fun _=>ZT _
 refine Jb ?_ ?_
 all_goals
  refine QE (Z8 _ _ _ _) fun _=>QE (Z8 _ _ _ _) fun _=>QE (Z8 _ _ _ _) fun _=>QE (Z8 _ _ _ _) fun _=>QE (Z8 _ _ _ _) fun _=>QE (Z8 _ _ _ _) fun _=>QE (Z8 _ _ _ _) fun _=>QE (Z8 _ _ _ _) fun _=>QE (Z8 _ _ _ _) fun _=>QE (ZT _) fun _=>hj _
theorem QcF (op:BinOp)(k:FloatKind)(a b c d:Nat):Cho (Op.complexOp op k a b c d):=by
 unfold Op.complexOp;split
 ·exact QE (Z8 _ _ _ _) fun _=>QE (Z8 _ _ _ _) fun _=>ZT _
 ·exact QE (Z8 _ _ _ _) fun _=>QE (Z8 _ _ _ _) fun _=>ZT _
 all_goals first
  |exact J9 _
  |exact QE (UL _ _ _ _) fun _=>QE (UL _ _ _ _) fun _=>ZT _
  |(refine QE (YC _ _ _) fun _=>QE (YC _ _ _) fun _=>QE (YC _ _ _) fun _=>QE (YC _ _ _) fun _=>?_
    exact Jb (QE (QcH _ _ _ _) fun _=>QE (YC _ _ _) fun _=>QE (YC _ _ _) fun _=>ZT _) (QE (QcI _ _ _ _) fun _=>QE (YC _ _ _) fun _=>QE (YC _ _ _) fun _=>ZT _))
def UU:BinOp→Bool
 | .eql| .neq=>true
 |_=>false
theorem Qc4 (op:BinOp)(t:TypeId)(x y:Operand)(a b:Value)(h:UU op=true→YS T t=true):D T F F' LO X (eqGuard op t x y a b):=by
 unfold eqGuard
 have key:UU op=true→D T F F' LO X (match a,b with
  | .nilIface,.nilIface=>do
    if(x matches .const _)||(y matches .const _)then return
    if ←Op.eqGuardIn Op.maxDepth t a b then unsupported (.noEntry "binop/eql: two nil values of an interface type with methods, neither of them the literal nil")
  | .agg _,.agg _=>do
    if !(←program).eqGuardType (←program).depth t then return
    if ←Op.eqGuardIn Op.maxDepth t a b then unsupported (.noEntry "binop/eql: two nil values of an interface type with methods, in a part of a struct or an array")
  |_,_=>pure ()):=by
  intro ho;have hg:=h ho;simp only[YS,Bool.and_eq_true,Bool.not_eq_true']at hg;split
  ·refine Qp (Qd _) (Qc ?_ fun _=>Qp (Qh _) (Qd _));unfold Op.maxDepth Op.eqGuardIn;refine Qc (Qy _) fun u=>?_;split<;>first|exact Qd _|contradiction
  ·refine Um ?_;refine YP ?_;have e:(PP T F').depth=(PP T F).depth:=rfl;have e1:(PP T #[]).depth=(PP T F).depth:=rfl;rw[e,KP T F F',KP T #[] F,←e1,hg.2];exact Q7 _ trivial
  ·exact Qd _
 cases op<;>first|exact Qd _|exact key rfl
theorem QcU (op:BinOp)(t:TypeId)(x y:Value)(h:UU op=true→YS T t=true):D T F F' LO X (binOp op t x y):=by
 unfold binOp;split
 all_goals first
  |exact Qdu _ _ _ _ _
  |exact Qdz _ _ _
  |exact Qc (Qc5 _ _ _ (h rfl)) fun _=>Qd _
  |(exact Qc (Qy _) fun u=>Qp (Qdo _ _ _) (Ox _ _ _))
  |exact Ox _ _ _
  |exact Qc (YE _) fun _=>Qc (YE _) fun _=>QcQ _ _ _
  |exact Qc (YE _) fun _=>Qc (YE _) fun _=>QcO _ _ _
  |exact Qc (YE _) fun _=>QcP _ _ _
  |exact Qh _
  |(refine Qp (Qh _) ?_
    split<;>first|exact Ou _ _ _ _|exact Qdg _ _ _ _|exact Ov _ _ _ _|exact Qdf _ _ _)
  |(refine Qp (Qh _) ?_
    split<;>first|exact(Oi _ _ _ _).d _ _ _ _ _|exact(Oj _ _ _ _).d _ _ _ _ _)
  |exact Qp (Qh _) ((QcF _ _ _ _ _ _).d _ _ _ _ _)
end
structure PT (fn:Func):Prop where
 body:fn.body=none
 name:(fn.name == "runtime.NumGoroutine")=false
 next:Extern.findNext fn=none
 row:Extern.find fn=none
 init:(fn.name.endsWith ".init"&& !fn.name.startsWith "("&& !fn.name.startsWith "gosem.")=false
structure Ud (F F':Array Func) (S:FuncId→Bool):Prop where
 same:∀f,S f=true→F'[f]? =F[f]?
 has:∀f fn,S f=true→F[f]? =some fn→fn.body.isSome=true∧(fn.name == "runtime.NumGoroutine")=false
 cut:∀f fn,S f=false→F'[f]? =some fn→PT fn
def NOk (LO:Loop→Prop)(X:Nat→Bool)(S:FuncId→Bool):Next→Prop
 | .value _| .skip=>True
 | .enter f _=>S f=true
 | .round l f _ a b=>X l=false∧∃r:Loop,LO r∧f=r.fn∧a=r.assign∧b=r.body
 |_=>False
section
variable {T:Tables} {F F':Array Func} {LO:Loop→Prop} {X:Nat→Bool} {S:FuncId→Bool} {α β:Type}
structure DN (T:Tables) (F F':Array Func) (LO:Loop→Prop) (X:Nat→Bool) (S:FuncId→Bool) (s:Sem Next):Prop where
 tr:Tr (PP T F) (PP T F') LO X (NOk LO X S) s s
theorem Un {s:Sem α}{f:α→Sem Next}(hs:D T F F' LO X s)(hf:∀a,DN T F F' LO X S (f a)):DN T F F' LO X S (s>>= f):=⟨Zs hs.tr fun a _=>(hf a).tr⟩
theorem UO (h:Halt)(hh:HOk h:=by exact True.intro):DN T F F' LO X S (.halt h):=⟨Z0 h _ hh⟩
theorem Zw {s:Sem Value}(h:D T F F' LO X s):DN T F F' LO X S (s>>= fun v=>pure (.value v)):=⟨Zs h.tr fun _ _=>Q7 _ trivial⟩
theorem KJ {s:Sem Unit}(h:D T F F' LO X s):DN T F F' LO X S (s>>= fun _=>pure .skip):=⟨Zs h.tr fun _ _=>Q7 _ trivial⟩
theorem Yl (n:Next)(h:NOk LO X S n):DN T F F' LO X S (pure n):=⟨Q7 n h⟩
theorem UP (e:RuntimeError):DN T F F' LO X S (runtimePanic e):=⟨JK (J0 e) _⟩
theorem KH (hC:Ud F F' S)(f:FuncId)(args:Array Value):DN T F F' LO X S (callFunc f args):=by
 refine⟨YP ?_⟩
 cases hS:S f with
 |true=>
  have e:(PP T F').funcs[f]? =F[f]? :=hC.same f hS;have e':(PP T F).funcs[f]? =F[f]? :=rfl;rw[e,e']
  cases hf:F[f]? with
  |none=>exact Z0 _ _
  |some fn=>
   obtain⟨h1,h2⟩:=hC.has f fn hS hf;have h3:fn.body.isNone=false:=by cases hb:fn.body<;>simp_all
   simp only[h2,h3,Bool.false_eq_true,if_false];exact Q7 _ hS
 |false=>
  refine JK ?_ _;have e:(PP T F').funcs[f]? =F'[f]? :=rfl;rw[e]
  cases hf:F'[f]? with
  |none=>exact Zy _
  |some fn=>
   obtain⟨h1,h2,h3,h4,h5⟩:=hC.cut f fn hS hf;simp only[h1,h2,h3,h4,h5,Option.isNone_none,Bool.false_eq_true,if_false,if_true];exact Js (QaX _) fun _=>Zy _
theorem QdD (t:TypeId)(p:Value)(n:String):D T F F' LO X (Builtin.ssaWrapNilChk_ #[t] t #[p,strVal "",strVal n]):=by
 unfold Builtin.ssaWrapNilChk_
 cases p with
 |pointer a=>
  cases a with
  |some a=>exact Qd _
  |none=>
   refine Vq ?_;refine Js (QaU _) fun c=>?_;refine VJ (Uy (J0 _)) ?_;refine Js (QaZ _) fun u=>?_;split
   ·refine Js (Qgu _) fun i=>?_;split
    ·split
     ·dsimp only;split
      ·exact J0 _
      ·exact Zy _
     ·exact Zy _
    ·exact Zy _
   ·exact Zy _
 |_=>exact Qh _
theorem UM (t:TypeId)(x:Place):D T F F' LO X (x.get t):=by
 cases x with
 |val v=>exact Qd _
 |var a=>exact Zm _ _
theorem Ot (l:List FieldStep):∀(t:TypeId) (x:Place),D T F F' LO X (follow l t x):=by
 induction l with
 |nil=>intro t x;exact Qd _
 |cons s l ih=>
  intro t x;unfold follow;refine Qc (Qy _) fun u=>?_;split
  ·split
   ·refine Qp (Qc (UM _ _) fun v=>Qc (Zg _) fun a=>Qc (ZF _ _) fun p=>ih _ _) ?_;split
    ·exact Qc (ZF _ _) fun p=>ih _ _
    ·exact Qc (Zu _ _ _) fun p=>ih _ _
    ·exact Qh _
   ·exact Qh _
  ·exact Qh _
theorem Oy (t:TypeId)(x:Place)(b:Bool)(w:Option String):D T F F' LO X (receiverAt t x b w):=by
 unfold receiverAt;refine Qc (Qy _) fun u=>?_;split
 ·exact UM _ _
 ·refine Qc (UM _ _) fun p=>?_;dsimp only;split
  ·exact Qc (QdD _ _ _) fun p=>Qc (Zg _) fun a=>Zm _ _
  ·exact Qc (Qd _) fun p=>Qc (Zg _) fun a=>Zm _ _
 ·exact Qd _
 ·exact Qh _
 ·exact UM _ _
theorem Qdn (n:Nat):∀(t:TypeId) (v:Value) (s:String),D T F F' LO X (method n t v s):=by
 induction n with
 |zero=>intro t v s;exact Qh _
 |succ n ih=>
  intro t v s;unfold method;refine Qc (QH _) fun i=>?_;split
  ·refine Qc (Ot _ _ _) fun p=>?_;obtain⟨xt,x⟩:=p;dsimp only;split
   ·refine Qc (UM _ _) fun v=>?_;split
    ·exact ih _ _ _
    ·exact QG _
    ·exact Qh _
   ·exact Qc (Oy _ _ _ _) fun r=>Qd _
  ·exact Qh _
theorem Qdt (t:TypeId)(v:Value)(p:Array FieldStep)(b:Bool):D T F F' LO X (receiverVia t v p b):=by
 unfold receiverVia;refine Qc (Ot _ _ _) fun p=>?_;obtain⟨xt,x⟩:=p;exact Oy _ _ _ _
theorem Qda (l:List FieldStep):∀(t:TypeId) (x:Option Value),D T F F' LO X (followBlind l t x):=by
 induction l with
 |nil=>intro t x;exact Qd _
 |cons s l ih=>
  intro t x;unfold followBlind;refine Qc (Qy _) fun u=>?_;split
  ·split
   ·split
    all_goals first
     |exact Qd _
     |exact Qh _
     |exact ih _ _
     |exact Qc (Zu _ _ _) fun p=>ih _ _
   ·exact Qh _
  ·exact Qh _
theorem Qdq (n:Nat):∀(t:TypeId) (v:Value) (s:String),D T F F' LO X (nilAhead n t v s):=by
 induction n with
 |zero=>intro t v s;exact Qd _
 |succ n ih=>
  intro t v s;unfold nilAhead;refine Qc (QH _) fun i=>?_;split
  ·refine Qc (Qda _ _ _) fun p=>?_;split
   ·exact Qd _
   ·split
    all_goals first
     |exact Qd _
     |exact Qh _
     |exact ih _ _ _
     |(refine Qc (Qy _) fun u=>?_
       split<;>exact Qd _)
  ·exact Qh _
theorem OD (hC:Ud F F' S)(v:Value)(s:String)(args:Array Value):DN T F F' LO X S (callMethod v s args):=by
 unfold callMethod;split
 ·refine⟨YP ?_⟩;have e:(PP T F').types.size=(PP T F).types.size:=rfl;rw[e];refine DN.tr (Un (Qdn _ _ _ _) fun p=>?_);obtain⟨f,r⟩:=p;exact KH hC _ _
 ·exact UP _
 ·exact UO _
theorem QdI (l:Nat)(args:Array Value):DN T F F' LO X S (Instr.yield l args):=by
 unfold Instr.yield Instr.getLoop;rw[Qa3];refine⟨U7 l (fun o hX ho=>?_) (fun _ o' o hp=>?_)⟩
 ·cases o with
  |loop r=>
   refine Zs (Q7 (Q:=fun x=>x=r) r rfl) fun r' hr=>?_;subst hr
   have hl:LO r':=by
    rcases ho with h|⟨a,t,h⟩
    ·exact h
    ·cases h
   dsimp only;split
   ·exact Zs (Q:=fun _=>True) (Z0 _ _) fun _ _=>Q7 _ ⟨hX,r',hl,rfl,rfl,rfl⟩
   ·exact Q7 _ ⟨hX,r',hl,rfl,rfl,rfl⟩
  |_=>exact JK (Uy (Zy _)) _
 ·rcases hp with⟨a,a',t,rfl,rfl⟩|⟨r,rfl,rfl⟩|⟨c,rfl,rfl⟩|⟨c,e,rfl,rfl⟩<;>exact JK (Uy (Zy _)) _
theorem OF (hC:Ud F F' S)(fn:Fn)(c:Array Value)(args:Array Value):DN T F F' LO X S (invoke (.fn fn c) args):=by
 cases fn with
 |func f=>exact KH hC _ _
 |method n=>
  unfold invoke;dsimp only;split
  ·exact OD hC _ _ _
  ·exact UO _
 |methodOf t n=>
  unfold invoke;dsimp only;split
  ·refine Un (Qy _) fun u=>?_;split<;>exact OD hC _ _ _
  ·exact UO _
 |via t p f b=>
  unfold invoke;dsimp only;split
  ·exact Un (Qdt _ _ _ _) fun r=>KH hC _ _
  ·exact UO _
 |yield l=>exact QdI l args
theorem KI (hC:Ud F F' S)(v:Value)(args:Array Value):DN T F F' LO X S (Deferred.ofValue v args>>= fun d=>invoke d.target d.args):=by
 cases v with
 |func fn first c=>exact OF hC fn c (first++args)
 |nilFunc=>exact⟨JK (J0 (α:=Next) .nilDeref) _⟩
 |_=>exact UO _
def YG (T:Tables)(t:TypeId):Bool:=match(PP T #[]).underlying t with
 |some (.int _)=>true
 |_=>false
def V2 (T:Tables)(t:TypeId):Bool:=match(PP T #[]).underlying t with
 |some .string=>true
 |_=>false
def Vm (T:Tables)(t:TypeId):Bool:=match(PP T #[]).underlying t with
 |some (.slice e)=>(match(PP T #[]).underlying e with|some (.int .u8)=>true|_=>false)
 |_=>false
theorem QcG (k:FloatKind)(b:Nat)(d:IntKind):Cho (Conv.floatToInt k b d):=by
 unfold Conv.floatToInt
 repeat' first
  |exact ZT _
  |exact J9 _
  |exact Yk _
  |apply QE
  |apply Jb
  |intro _
  |split
  |dsimp only
theorem QcZ (s t:TypeId)(x:Value)(hs:YG T s=true)(ht:YG T t=true):D T F F' LO X (convert s t x):=by
 unfold convert;refine⟨Zs (Y6 s) fun u hu=>Zs (Y6 t) fun v hv=>D.tr ?_⟩;have hu':(PP T #[]).underlying s=some u:=hu;have hv':(PP T #[]).underlying t=some v:=hv;simp only[YG,hu']at hs;simp only[YG,hv']at ht
 cases u<;>simp only at hs<;>try(cases hs;done)
 cases v<;>simp only at ht<;>try(cases ht;done)
 cases x<;>first
  |exact Qd _
  |exact Qh _
  |exact(QcG _ _ _).d _ _ _ _ _
  |(rename_i p;cases p<;>exact Qh _)
theorem Qc0 (s t:TypeId)(x:Value)(hs:Vm T s=true)(ht:V2 T t=true):D T F F' LO X (convert s t x):=by
 unfold convert;refine⟨Zs (Y6 s) fun u hu=>Zs (Y6 t) fun v hv=>?_⟩;have hu':(PP T #[]).underlying s=some u:=hu;have hv':(PP T #[]).underlying t=some v:=hv;simp only[Vm,hu']at hs;simp only[V2,hv']at ht
 cases u<;>simp only at hs<;>try(cases hs;done)
 cases v<;>simp only at ht<;>try(cases ht;done)
 rename_i e
 have key:Tr (PP T F) (PP T F') LO X (fun _=>True) (do
  match ←underlying e with
  | .int .u8=>Conv.bytesToString x
  | .int .i32=>Conv.runesToString x
  |_=>stuck "Convert: a slice of what to string?") (do
  match ←underlying e with
  | .int .u8=>Conv.bytesToString x
  | .int .i32=>Conv.runesToString x
  |_=>stuck "Convert: a slice of what to string?"):=by
  refine Zs (Y6 e) fun c hc=>?_;have hc':(PP T #[]).underlying e=some c:=hc;rw[hc']at hs
  cases c with
  |int k=>cases k<;>first|(cases hs;done)|exact(Qdy x).tr
  |_=>cases hs
 cases x<;>first
  |exact key
  |exact Q7 _ trivial
  |exact(ZT _).d _ _ _ _ _ |>.tr
theorem Qc1 (s t:TypeId)(x:Value)(h:(YG T s&&YG T t||Vm T s&&V2 T t)=true):D T F F' LO X (convert s t x):=by
 rcases Bool.or_eq_true _ _▸h with h|h<;>rw[Bool.and_eq_true]at h
 ·exact QcZ s t x h.1 h.2
 ·exact Qc0 s t x h.1 h.2
def Qaw:Builtin→Bool
 | .len| .append| .copy| .clear=>true
 |_=>false
def UA (T:Tables):Op→Bool
 | .move _| .assign _| .pick _ _ _| .alloc _| .box _ _| .build _ _| .buildSlice _ _ _| .load _ _| .store _ _ _| .unOp _ _ _| .makeInterface _ _| .makeFunc _ _ _
 | .makeSlice _ _ _| .slice _ _ _ _ _| .fieldAddr _ _ _| .field _ _ _| .indexAddr _ _ _| .index _ _ _| .range _ _| .next _ true| .typeAssert _ _ _ _| .extract _ _| .panic _| .nilCheck _=>true
 | .binOp op t _ _ _=>!UU op||YS T t
 | .convert s t _=>YG T s&&YG T t||Vm T s&&V2 T t
 | .call c=>match c.callee with
   | .value _| .invoke _ _=>true
   | .builtin b=>Qaw b
 |_=>false
theorem Qfz (x:Value):Jh (Instr.panic x):=by
 unfold Instr.panic;split
 ·exact Zy _
 ·refine Js ?_ fun _=>VJ (Zy _) (J0 _);unfold Instr.panicnil;refine JI (Qgt _) fun r=>?_;split
  ·exact JI VY fun _=>JJ _
  ·exact VX _
 ·exact Zy _
theorem OE (hC:Ud F F' S)(ρ:Operand→Value)(o:Oper)(h:UA T o.op=true):DN T F F' LO X S (execOp ρ o):=by
 unfold execOp
 cases ho:o.op<;>rw[ho]at h<;>simp only[UA]at h<;>dsimp only
 case move=>exact Yl _ trivial
 case assign=>exact Yl _ trivial
 case pick=>exact Un (Zk _) fun _=>Yl _ trivial
 case alloc=>exact Zw (QcR _ _ _)
 case box=>exact Zw (QcV _ _)
 case build=>exact Zw (QcW _ _)
 case buildSlice=>exact Zw (QcX _ _ _)
 case load=>exact Zw (Qdi _ _)
 case store=>exact KJ (Qdx _ _ _)
 case unOp=>exact Zw (QdB _ _)
 case makeInterface=>exact Zw (Qdk _ _)
 case makeFunc=>exact Zw (Qd _)
 case makeSlice=>exact Zw (Qdl _ _ _)
 case slice=>exact Zw (Qdw _ _ _ _ _)
 case fieldAddr=>exact Zw (Qc9 _ _ _)
 case field=>exact Zw (Qc8 _ _ _)
 case indexAddr=>exact Zw (Qde _ _ _)
 case index=>exact Zw (Qdd _ _ _)
 case range=>exact Zw (Qds _ _)
 case next it b=>
  cases b with
  |false=>cases h
  |true=>exact Zw (Qdp _ _)
 case typeAssert=>exact Zw (QdA _ _ _ _)
 case extract=>exact Zw (Qc7 _ _)
 case convert=>exact Zw (Qc1 _ _ _ h)
 case panic x=>exact Zw (Vq (Qfz _))
 case nilCheck x=>
  generalize ρ x=v
  cases v with
  |func fn first c=>
   cases fn with
   |method n=>
    dsimp only;split
    ·exact UP _
    ·refine⟨YP ?_⟩;have e:(PP T F').types.size=(PP T F).types.size:=rfl;rw[e];refine DN.tr (Un (Qdq _ _ _ _) fun r=>?_);split
     ·exact Un (Qh _) fun _=>Yl _ trivial
     ·exact Yl _ trivial
    ·exact Yl _ trivial
   |_=>exact Yl _ trivial
  |pointer p=>cases p<;>first|exact UP _|exact Yl _ trivial
  |nilIface=>exact UP _
  |nilFunc=>exact UP _
  |_=>exact Yl _ trivial
 case binOp op t x y u=>
  have he:UU op=true→YS T t=true:=by
   intro hi;rw[hi]at h;simpa using h
  refine Zw (Qc (Qc4 _ _ _ _ _ _ he) fun _=>QcU _ _ _ _ he)
 case call c=>
  unfold resolve
  cases hc:c.callee<;>rw[hc]at h<;>simp only at h<;>dsimp only
  case value f=>exact KI hC _ _
  case invoke r n=>exact OF hC (.method n) #[] _
  case builtin b=>
   cases b<;>simp only[Qaw]at h<;>first
    |(cases h;done)
    |exact Zw (Qdh _ _ _)
    |exact Zw (QcS _ _ _)
    |exact Zw (Qc2 _ _ _)
    |exact Zw (QcY _ _ _)
 all_goals(cases h)
end
end Co
end Go.Proofs.YtcpnkpogebjieaaGreat
