/- The operations of a function's code, in two worlds at once, third part: what is built, -/
import Derived.Test.YtcpnkpogebjieaaGreatG02Td
namespace Go.Proofs.YtcpnkpogebjieaaGreat
namespace Co
open Go.Conc
section
variable {T:Tables} {F F':Array Func} {LO:Loop→Prop} {X:Nat→Bool} {α β:Type}
theorem Qcy {γ:Type}(l:Array γ)(f:γ→β→Sem (ForInStep β))(hf:∀x b,D T F F' LO X (f x b))(b:β):D T F F' LO X (forIn l b f):=by
 rw[←Array.forIn_toList]
 generalize l.toList=k
 induction k generalizing b with
 |nil=>exact Qd _
 |cons x k ih=>
  rw[List.forIn_cons]
  refine Qb (hf x b) fun s=>?_
  cases s with
  |done b=>exact Qd _
  |yield b=>exact ih b
theorem Qcj (t:TypeId)(ps:Array (Nat×Value)):D T F F' LO X (Instr.build t ps):=by
 unfold Instr.build
 refine Qb (QR _) fun z=>Qb (Qv _) fun u=>?_
 split
 ·refine Qb (PR _ (fun f=>Qb (QT _) fun _=>Qd _) _) fun places=>?_
  split
  ·exact Qd _
  ·exact Qf _
 ·refine Qb (QT _) fun _=>?_
  split
  ·exact Qd _
  ·exact Qf _
 ·exact Qf _
theorem QcV (x:Value):D T F F' LO X (Conv.bytesToString x):=by
 unfold Conv.bytesToString
 split
 ·exact Qd _
 ·refine Qb (Zr _ _) fun cs=>Qb (Qcy _ _ (fun c s=>?_) _) fun s=>Qd _
  dsimp only
  split
  ·exact Qd _
  ·exact Qf _
 ·exact Qf _
theorem Qck (t:TypeId)(n:Nat)(ps:Array (Nat×Value)):D T F F' LO X (Instr.buildSlice t n ps):=by
 unfold Instr.buildSlice
 repeat' first
  |exact Qd _
  |exact Qf _
  |exact Qv _
  |exact QG _
  |exact QR _
  |exact QT _
  |exact Za _
  |exact QU _ _
  |exact QV _ _ _
  |exact Q9 _
  |exact Ze _
  |exact Zh _
  |exact Zd _
  |exact Zm _
  |exact Zr _ _
  |exact Zo _ _ _
  |exact Zj _ _
  |exact ZD _ _ _
  |exact Zn _ _
  |exact Zx _ _
  |exact Zs _ _ _
  |exact QF _
  |exact Q2 _ _ _ _
  |exact QQ _
  |exact Zt _
  |exact ZA _
  |exact ZC _
  |exact Zf _
  |exact Zy _
  |exact ZB _ _
  |exact Je _ _ _
  |exact Jm _ _ _ _ _ _
  |apply Qb
  |intro _
  |apply Qn
  |split
  |dsimp only
theorem QcX (x:Value)(t a:TypeId)(b:Bool):D T F F' LO X (Instr.typeAssert x t a b):=by
 unfold Instr.typeAssert
 dsimp only
 repeat' first
  |exact Qd _
  |exact Qf _
  |exact Qv _
  |exact QG _
  |exact QR _
  |exact QT _
  |exact Za _
  |exact QU _ _
  |exact QV _ _ _
  |exact Q9 _
  |exact Ze _
  |exact Zh _
  |exact Zd _
  |exact Zm _
  |exact Zr _ _
  |exact Zo _ _ _
  |exact Zj _ _
  |exact ZD _ _ _
  |exact Zn _ _
  |exact Zx _ _
  |exact Zs _ _ _
  |exact QF _
  |exact Q2 _ _ _ _
  |exact QQ _
  |exact Zt _
  |exact ZA _
  |exact ZC _
  |exact Zf _
  |exact Zy _
  |exact ZB _ _
  |exact Je _ _ _
  |exact Jm _ _ _ _ _ _
  |apply Qb
  |intro _
  |apply Qn
  |split
  |dsimp only
theorem V8 (x:Value):D T F F' LO X (Builtin.lenOf x):=by
 unfold Builtin.lenOf
 repeat' first
  |exact Qd _
  |exact Qf _
  |exact Qv _
  |exact QG _
  |exact QR _
  |exact QT _
  |exact Za _
  |exact QU _ _
  |exact QV _ _ _
  |exact Q9 _
  |exact Ze _
  |exact Zh _
  |exact Zd _
  |exact Zm _
  |exact Zr _ _
  |exact Zo _ _ _
  |exact Zj _ _
  |exact ZD _ _ _
  |exact Zn _ _
  |exact Zx _ _
  |exact Zs _ _ _
  |exact QF _
  |exact Q2 _ _ _ _
  |exact QQ _
  |exact Zt _
  |exact ZA _
  |exact ZC _
  |exact Zf _
  |exact Zy _
  |exact ZB _ _
  |exact Je _ _ _
  |exact Jm _ _ _ _ _ _
  |apply Qb
  |intro _
  |apply Qn
  |split
  |dsimp only
theorem V7 (s n:Nat)(x:Value):D T F F' LO X (Builtin.firstCells s n x):=by
 unfold Builtin.firstCells
 repeat' first
  |exact Qd _
  |exact Qf _
  |exact Qv _
  |exact QG _
  |exact QR _
  |exact QT _
  |exact Za _
  |exact QU _ _
  |exact QV _ _ _
  |exact Q9 _
  |exact Ze _
  |exact Zh _
  |exact Zd _
  |exact Zm _
  |exact Zr _ _
  |exact Zo _ _ _
  |exact Zj _ _
  |exact ZD _ _ _
  |exact Zn _ _
  |exact Zx _ _
  |exact Zs _ _ _
  |exact QF _
  |exact Q2 _ _ _ _
  |exact QQ _
  |exact Zt _
  |exact ZA _
  |exact ZC _
  |exact Zf _
  |exact Zy _
  |exact ZB _ _
  |exact Je _ _ _
  |exact Jm _ _ _ _ _ _
  |exact V8 _
  |apply Qb
  |intro _
  |apply Qn
  |split
  |dsimp only
theorem Qcp (a:Array TypeId)(t:TypeId)(x:Array Value):D T F F' LO X (Builtin.copy_ a t x):=by
 unfold Builtin.copy_
 repeat' first
  |exact Qd _
  |exact Qf _
  |exact Qv _
  |exact QG _
  |exact QR _
  |exact QT _
  |exact Za _
  |exact QU _ _
  |exact QV _ _ _
  |exact Q9 _
  |exact Ze _
  |exact Zh _
  |exact Zd _
  |exact Zm _
  |exact Zr _ _
  |exact Zo _ _ _
  |exact Zj _ _
  |exact ZD _ _ _
  |exact Zn _ _
  |exact Zx _ _
  |exact Zs _ _ _
  |exact QF _
  |exact Q2 _ _ _ _
  |exact QQ _
  |exact Zt _
  |exact ZA _
  |exact ZC _
  |exact Zf _
  |exact Zy _
  |exact ZB _ _
  |exact Je _ _ _
  |exact Jm _ _ _ _ _ _
  |exact V8 _
  |exact V7 _ _ _
  |apply Qb
  |intro _
  |apply Qn
  |split
  |dsimp only
theorem QcE (a:Array TypeId)(t:TypeId)(x:Array Value):D T F F' LO X (Builtin.len_ a t x):=by
 unfold Builtin.len_
 split
 ·refine Qb (Qv _) fun u=>?_
  split
  all_goals first
   |exact Qd _
   |exact Qf _
   |(refine Qb (Qv _) fun _=>?_;split<;>first|exact Qd _|exact Qf _)
   |(refine Vb _ (fun o _ _=>?_) (fun _ _=>Zw _) (Zw _);split<;>first|exact Qd _|exact Qf _)
 ·exact Qf _
theorem Qcl (a:Array TypeId)(t:TypeId)(x:Array Value):D T F F' LO X (Builtin.clear_ a t x):=by
 unfold Builtin.clear_
 split
 ·refine Qb (Qv _) fun u=>?_
  dsimp only
  split
  ·exact Qb (Qd _) fun _=>Qd _
  ·exact Qb (Qd _) fun _=>Qd _
  ·exact Qb (Qd _) fun _=>Qd _
  ·refine Vb _ (fun o hX _=>?_) (fun _ _=>Zw _) (Zw _)
   split
   ·exact Qb ⟨Uo _ hX trivial trivial⟩ fun _=>Qd _
   ·exact Qb (Qf _) fun _=>Qd _
  ·exact Qb (QR _) fun _=>Qb (Zo _ _ _) fun _=>Qd _
  ·exact Qb (Qf _) fun _=>Qd _
 ·exact Qf _
theorem QcP (t:TypeId)(x:Value):D T F F' LO X (Instr.range t x):=by
 unfold Instr.range
 refine Qb (Qv _) fun u=>?_
 have hn:∀o,Yn LO o→D T F F' LO X (newObj o>>= fun r=>pure (Value.pointer (some ⟨r,0,none⟩))):=fun o ho=>Qb ⟨Un ho fun _ _=>trivial⟩ fun _=>Qd _
 dsimp only
 split
 all_goals first
  |exact Qb (Qd _) fun _=>hn _ trivial
  |exact hn _ trivial
  |exact Qf _
  |exact Qb (Qf _) fun _=>hn _ trivial
  |(refine Vb _ (fun o hX _=>?_) (fun _ _=>Zw _) (Zw _)
    split<;>first|exact hn _ trivial|exact Qf _)
theorem QcM (x:Value)(t:TypeId):D T F F' LO X (Instr.next x true t):=by
 unfold Instr.next
 dsimp only
 split
 ·refine Vb _ (fun o hX _=>?_) (fun _ _=>Zw _) (Zw _)
  split
  ·split
   ·exact Qb ⟨Uo _ hX trivial trivial⟩ fun _=>Qd _
   ·exact Qd _
  all_goals first|exact Qf _|contradiction
 ·exact Qf _
end
section
variable {T:Tables} {F F':Array Func} {LO:Loop→Prop} {X:Nat→Bool} {α β:Type}
theorem Vd {s:Sem α}(h:Jc s):D T F F' LO X s:=⟨JB h s⟩
theorem Qal (a:Addr)(n:Nat):Saf (Builtin.holdsCells a n):=by
 unfold Builtin.holdsCells
 refine Jz (QfX _) fun o=>?_
 split<;>exact JA _
theorem QfV (a b c:Nat)(o:Option Addr)(v:Value):Saf (Builtin.mayShare a b c o v):=by
 unfold Builtin.mayShare
 have key:∀t:Bool,Saf (if(!t)=true then(pure true:Sem Bool)else match v with
  | .slice (some d) _ _=>do pure (!(←Builtin.holdsCells d (c*a))||o.any (·.block ==d.block))
  |_=>pure false):=by
  intro t
  refine QfU (JA _) ?_
  split
  ·exact Jz (Qal _ _) fun _=>JA _
  ·exact JA _
 cases o with
 |none=>exact Jz (JA _) fun t=>key t
 |some d=>exact Jz (Qal _ _) fun _=>Jz (QfT _) fun _=>Jz (JA _) fun t=>key t
theorem Qcf (a:Array TypeId)(t:TypeId)(x:Array Value):D T F F' LO X (Builtin.append_ a t x):=by
 unfold Builtin.append_
 split
 ·rename_i sT s v he
  refine Qb (Qv _) fun u=>?_
  split
  ·rename_i elem
   split
   ·rename_i base sLen sCap
    refine Qb (QT _) fun size=>?_
    extract_lets+onlyGivenNames k1 k2
    have hk2:∀z,D T F F' LO X (k2 z):=by
     intro z
     simp-zeta only[k2]
     extract_lets+onlyGivenNames j
     have hj:∀n,D T F F' LO X (j n):=by
      intro n
      simp-zeta only[j]
      extract_lets+onlyGivenNames app need
      have happ:D T F F' LO X app:=by
       simp-zeta only[app]
       exact Qn (V7 _ _ _) (Qn (Qd _) (Qb (QR _) fun _=>Qd _))
      refine Qn (Qb happ fun new=>?_) (Qb (QG _) fun i=>?_)
      ·extract_lets+onlyGivenNames j2
       split
       ·exact Qb (Zo _ _ _) fun _=>Qd _
       ·exact Qd _
      ·extract_lets j3 j2
       have hj3:∀u,D T F F' LO X (j3 u):=by
        intro u
        simp-zeta only[j3]
        refine Qb (QQ _) fun c=>Qb (QG _) fun i=>Qb (Zt _) fun _=>Qb (V7 _ _ _) fun old=>Qb happ fun new=>Qb (QR _) fun z=>?_
        exact Qb (Zn _ _) fun r=>Qd _
       have hj2:∀u,D T F F' LO X (j2 u):=by
        intro u
        simp-zeta only[j2]
        refine Qb (QG _) fun i=>?_
        exact Qn (Vd (Uh (Vq (JR _) (Jn (QfV _ _ _ _ _) fun b=>Vq (Jn (Qam _) fun _=>Zw _) (Zw _))))) (hj3 ())
       exact Qn (Qb (QF _) fun u=>hj2 u) (hj2 ())
     refine Qn (Qb (Q9 _) fun l0=>?_) (Qb (V8 _) fun n=>hj n)
     extract_lets l j3 j2
     have hj2:∀u,D T F F' LO X (j2 u):=by
      intro u
      simp-zeta only[j2]
      refine Qb (QG _) fun i=>?_
      exact Qn (Qb (QQ _) fun m=>Vd (Uh (JR _))) (Qb (Qd _) fun n=>hj n)
     exact Qn (Qb (QF _) fun u=>hj2 u) (hj2 ())
    split
    ·exact Qb (Qv _) fun u=>Qb (Qd _) fun z=>hk2 z
    ·exact Qb (Qd _) fun z=>hk2 z
   ·exact Qf _
  ·exact Qf _
 ·exact Qf _
end
section
variable {T:Tables} {F F':Array Func} {LO:Loop→Prop} {X:Nat→Bool} {α β:Type}
theorem QcZ (r:Nat){f:Option (Addr×TypeId)→Sem β}(hs:∀x,Jc (f (some x)))(hn:D T F F' LO X (f none)):D T F F' LO X (viewAt r>>= f):=by
 unfold viewAt
 refine Va (Ux r (fun o=>?_) (fun e n=>hn.tr))
 cases o with
 |some x=>exact hn
 |none=>
  have h:D T F F' LO X ((getObj r>>= fun o=>match o with| .view a t=>pure (some (a,t))|_=>pure none)>>= f):=by
   refine Va ⟨UV r (fun o _ _=>?_) (fun _ o' o hp=>?_)⟩
   ·split
    ·exact JB (hs _) _
    ·exact hn.tr
   ·rcases hp with⟨a,a',t,rfl,rfl⟩|⟨l,rfl,rfl⟩|⟨c,rfl,rfl⟩|⟨c,e,rfl,rfl⟩
    ·exact JB (hs _) _
    ·exact hn.tr
    ·exact hn.tr
    ·exact hn.tr
  exact h
theorem QbW (P:Program)(d:Nat)(e:TypeId)(o:Nat)(b:Int):cellAtBytes P d e 0 o b=none:=by
 unfold cellAtBytes
 dsimp only
 split
 ·rfl
 ·simp only[bind,Option.bind]
  split
  ·rfl
  ·rename_i x h
   simp only[Nat.zero_mul]
   rw[if_pos]
   rcases Int.lt_or_le (Int.ofNat (o/P.cellsOf e*P.bytesOf e+x)+b) 0 with hl|hl
   ·simp only[hl,decide_true,Bool.true_or]
   ·have:Int.ofNat (o/P.cellsOf e*P.bytesOf e+x)+b≥Int.ofNat 0:=hl
    simp only[this,decide_true,Bool.or_true]
theorem Ka (t:TypeId)(p:Option Addr)(y:Value):D T F F' LO X (Builtin.unsafeAdd_ #[] t #[.pointer p,y]):=by
 unfold Builtin.unsafeAdd_
 dsimp only
 refine Qb (Q9 _) fun n=>?_
 refine Qn ?_ (Qn (Qb (Qf _) fun _=>?_) ?_)
 ·split
  ·exact QcZ _ (fun x=>Zw _) (Qd _)
  ·exact Qf _
 all_goals
  split
  ·refine Ux _ (fun o=>?_) (fun e c=>?_)
   ·split
    ·refine Y7 ?_
     rw[QbV T F F']
     have e2:(PP T F').depth=(PP T F).depth:=rfl
     rw[e2]
     refine D.tr ?_
     split
     ·exact Qd _
     ·exact Qf _
    ·exact Qf _
   ·refine YG ?_
    rw[Nat.zero_div,QbW]
    exact ZT _ _
  ·exact Qf _
theorem Yu (a:Addr):D T F F' LO X (behindNumber a):=Qb (ZA _) fun _=>Qd _
theorem Qcg (a:Addr)(l:Bool):D T F F' LO X (asNumber a l):=Qb ⟨Un (LO:=LO) trivial fun _ _=>trivial⟩ fun _=>Qd _
theorem PS (t:TypeId)(x y:Value):D T F F' LO X (movedNumber t x y):=by
 unfold movedNumber
 refine Qb (Qv _) fun u=>?_
 split
 ·rename_i n
  extract_lets j
  have hj:∀u,D T F F' LO X (j u):=by
   intro u
   simp-zeta only[j]
   refine Qb (Yu _) fun al=>?_
   obtain⟨a,lost⟩:=al
   refine Qb (Ka _ _ _) fun v=>?_
   split
   ·exact Qcg _ _
   ·exact Qd _
  exact Qn (Qb (Qf _) fun u=>hj u) (hj ())
 ·have key:D T F F' LO X (Builtin.unsafeAdd_ #[] t #[x,y]):=by
   cases x with
   |pointer p=>exact Ka _ _ _
   |_=>exact Qf _
  exact Qn (Qb (Qf _) fun _=>key) key
theorem QcL (t:TypeId)(x y:Value):D T F F' LO X (movedPointer t x y):=by
 unfold movedPointer
 have key:D T F F' LO X (Builtin.unsafeAdd_ #[] t #[x,y]):=by
  cases x with
  |pointer p=>exact Ka _ _ _
  |_=>exact Qf _
 split
 ·refine Qb (ZA _) fun n=>Qn (Qb (Qf _) fun _=>key) key
 ·exact key
theorem PU (a b:Addr):D T F F' LO X (Op.twoPlaces a b):=by
 unfold Op.twoPlaces
 refine Y7 ?_
 refine D.tr ?_
 exact Qn (Qb (Qf _) fun _=>Qb (Zf _) fun _=>Qb (Zf _) fun _=>Qd _) (Qb (Zf _) fun _=>Qb (Zf _) fun _=>Qd _)
theorem Qcd (k:IntKind)(a b:Addr):D T F F' LO X (Op.addrSub k a b):=Qb (PU _ _) fun _=>Qd _
theorem Qcb (op:BinOp)(a b:Addr):D T F F' LO X (Op.addrCmp op a b):=by
 unfold Op.addrCmp
 refine Qb (PU _ _) fun _=>?_
 dsimp only
 split<;>first|exact Qd _|exact Qf _
theorem Qcc (k:IntKind)(a:Addr)(n:Int):D T F F' LO X (Op.addrMod k a n):=by
 unfold Op.addrMod
 have key:∀e,D T F F' LO X (do
  let align:=(←typeInfo e).align
  if n<1||n.toNat>align||align%n.toNat !=0 then unsupported .addressObserved
  pure (.int k ((←byteOf a)%n.toNat:Nat)):Sem Value):=by
  intro e
  refine Qb (QG _) fun i=>?_
  exact Qn (Qb (Qf _) fun _=>Qb (Zf _) fun _=>Qd _) (Qb (Zf _) fun _=>Qd _)
 refine Ux _ (fun o=>?_) (fun e c=>(key e).tr)
 cases o with
 |none=>exact Qf _
 |some x=>exact key x.1
theorem PO (op:BinOp)(k:IntKind)(x y:Int):D T F F' LO X (Op.intArith op k x y):=by unfold Op.intArith;split<;>first|exact Qd _|exact Qf _
theorem QcD (op:BinOp)(k:IntKind)(x y:Int):D T F F' LO X (Op.intDiv op k x y):=by
 unfold Op.intDiv
 refine Qn (QF _) ?_
 split<;>first|exact Qd _|exact Qf _
theorem PQ (op:BinOp)(k:IntKind)(x y:Int):D T F F' LO X (Op.intBits op k x y):=by unfold Op.intBits;dsimp only;split<;>first|exact Qd _|exact Qf _
theorem QcC (op:BinOp)(x y:Int):D T F F' LO X (Op.intCmp op x y):=by unfold Op.intCmp;split<;>first|exact Qd _|exact Qf _
theorem QcR (op:BinOp)(k:IntKind)(x:Int)(yk:IntKind)(y:Int):D T F F' LO X (Op.shift op k x yk y):=by
 unfold Op.shift
 refine Qn (QF _) ?_
 dsimp only
 split<;>first|exact Qd _|exact Qf _
theorem QcW (op:BinOp)(x y:ByteArray):D T F F' LO X (Op.stringOp op x y):=by
 unfold Op.stringOp
 dsimp only
 split<;>first|exact Qd _|exact Qf _|exact Qn (Qf _) (Qd _)
theorem QcY (op:UnOp)(x:Value):D T F F' LO X (Op.unary op x):=by
 unfold Op.unary
 split<;>first|exact Qd _|exact Qf _|exact PO _ _ _ _|exact PQ _ _ _ _
end
section
variable {T:Tables} {F F':Array Func} {LO:Loop→Prop} {X:Nat→Bool} {α β:Type}
theorem Qby (T:Tables)(F F':Array Func)(d:Nat):∀(a b:TypeId),(PP T F').alikeButTags d a b=(PP T F).alikeButTags d a b:=by
 induction d with
 |zero=>intro a b;rfl
 |succ d ih=>
  intro a b
  have ih':(PP T F').alikeButTags d=(PP T F).alikeButTags d:=by funext a b;exact ih a b
  simp only[Program.alikeButTags,ih']
  try rfl
theorem K7 (T:Tables)(F F':Array Func)(t:TypeId):(PP T F').stoodInHeld t=(PP T F).stoodInHeld t:=by
 unfold Program.stoodInHeld Program.stoodInAs
 simp only[Qby T F F']
 have e:(PP T F').depth=(PP T F).depth:=rfl
 have e1:∀x,(PP T F').underlyingId x=(PP T F).underlyingId x:=fun _=>rfl
 have e2:∀x,(PP T F').underlying x=(PP T F).underlying x:=fun _=>rfl
 simp only[e,e1,e2]
def eqT (T:Tables):Nat→TypeId→Bool
 |0,_=>true
 |d+1,t=>match(PP T #[]).underlying t with
  |some .bool|some (.int _)|some .string|some (.slice _)|none=>true
  |some (.struct fs)=>!(PP T #[]).stoodInHeld t&&fs.all fun f=>eqT T d f.type
  |_=>false
theorem Qcz {γ:Type}(l:Array γ)(f:γ→β→Sem (ForInStep β))(hf:∀x,x∈l→∀b,D T F F' LO X (f x b))(b:β):D T F F' LO X (forIn l b f):=by
 rw[←Array.forIn_toList]
 have hf':∀x∈l.toList,∀b,D T F F' LO X (f x b):=fun x hx=>hf x (by simpa using hx)
 generalize l.toList=k at hf'
 induction k generalizing b with
 |nil=>exact Qd _
 |cons x k ih=>
  rw[List.forIn_cons]
  refine Qb (hf' x (by simp) b) fun s=>?_
  cases s with
  |done b=>exact Qd _
  |yield b=>exact ih b fun y hy=>hf' y (by simp[hy])
theorem Qct (d:Nat):∀(k:Nat) (t:TypeId) (x y:Value),eqT T k t=true→d≤k→D T F F' LO X (Op.equalIn d t x y):=by
 induction d with
 |zero=>intro k t x y _ _;exact Qf _
 |succ d ih=>
  intro k t x y ht hk
  obtain⟨k,rfl⟩:∃m,k=m+1:=⟨k-1,by omega⟩
  unfold Op.equalIn
  refine⟨Zq (YR t) fun u hu=>?_⟩
  have hu':(PP T #[]).underlying t=some u:=hu
  simp only[eqT,hu']at ht
  refine D.tr ?_
  cases u<;>simp only at ht<;>try(cases ht;done)
  case bool=>(split<;>first|exact Qd _|exact Qf _|exact Qn (Qd _) (Qf _)|contradiction)
  case string=>(split<;>first|exact Qd _|exact Qf _|exact Qn (Qd _) (Qf _)|contradiction)
  case slice=>(split<;>first|exact Qd _|exact Qf _|exact Qn (Qd _) (Qf _)|contradiction)
  case int=>
   split<;>first
    |exact Qd _
    |exact Qf _
    |exact Qn (Qd _) (Qf _)
    |contradiction
    |(refine Qb (Yu _) fun a=>Qb (Yu _) fun b=>Y7 (D.tr (Qn (Qb (Zf _) fun _=>Qb (Zf _) fun _=>Qd _) (Qb (QG _) fun i=>?_)))
      split
      ·exact Qn (Qd _) (Qf _)
      ·exact Qf _)
  case struct fs=>
   split<;>first
    |exact Qd _
    |exact Qf _
    |exact Qn (Qd _) (Qf _)
    |contradiction
    |skip
   rename_i fields xs ys hs
   cases hs
   refine Y7 ?_
   have e0:(PP T F').stoodInHeld t=(PP T #[]).stoodInHeld t:=K7 T _ _ t
   have e1:(PP T F).stoodInHeld t=(PP T #[]).stoodInHeld t:=K7 T _ _ t
   simp only[Bool.and_eq_true,Bool.not_eq_true']at ht
   rw[e0,e1,ht.1]
   refine D.tr ?_
   simp only[Bool.false_eq_true,if_false]
   refine Qb (Qcz _ _ (fun f hf s=>Qn (Qb (Zs _ _ _) fun a=>Qb (Zs _ _ _) fun b=>Qb (ih k f.type a b ?_ (by omega)) fun r=>Qn (Qd _) (Qd _)) (Qd _)) _) fun s=>?_
   ·exact(Array.all_eq_true'.1 ht.2) f hf
   ·split<;>exact Qd _
theorem Ki (T:Tables)(F F':Array Func)(d:Nat):∀t:TypeId,(PP T F').eqGuardType d t=(PP T F).eqGuardType d t:=by
 induction d with
 |zero=>intro t;rfl
 |succ d ih=>
  intro t
  have ih':(PP T F').eqGuardType d=(PP T F).eqGuardType d:=by funext t;exact ih t
  simp only[Program.eqGuardType,ih']
  rfl
def YJ (T:Tables)(t:TypeId):Bool:=eqT T Op.maxDepth t&& !(PP T #[]).eqGuardType (PP T #[]).depth t
theorem Qcs (t:TypeId)(x y:Value)(h:YJ T t=true):D T F F' LO X (Op.equal t x y):=by
 simp only[YJ,Bool.and_eq_true]at h
 exact Qct _ _ t x y h.1 (Nat.le_refl _)
structure Cho (s:Sem α):Prop where
 d:∀(T:Tables) (F F':Array Func) (LO:Loop→Prop) (X:Nat→Bool),D T F F' LO X s
theorem ZN (a:α):Cho (pure a:Sem α):=⟨fun _ _ _ _ _=>Qd a⟩
theorem J1 (h:Halt)(hh:HOk h:=by exact True.intro):Cho (.halt h:Sem α):=⟨fun _ _ _ _ _=>Qf h hh⟩
theorem J9 (q:Question):Cho (choose q):=⟨fun _ _ _ _ _=>QQ q⟩
theorem QC {s:Sem α}{f:α→Sem β}(hs:Cho s)(hf:∀a,Cho (f a)):Cho (s>>= f):=⟨fun T F F' LO X=>Qb (hs.d T F F' LO X) fun a=>(hf a).d T F F' LO X⟩
theorem Z5 {c:Prop}[Decidable c]{x y:Sem α}(hx:Cho x)(hy:Cho y):Cho (if c then x else y):=by split<;>assumption
theorem PG (op:BinOp)(k:FloatKind)(x y:Nat):Cho (Op.floatArith op k x y):=by
 unfold Op.floatArith
 repeat' first
  |exact ZN _
  |exact J1 _
  |exact J9 _
  |apply QC
  |apply Z5
  |intro _
  |split
  |dsimp only
theorem PH (op:BinOp)(k:FloatKind)(x y:Nat):Cho (Op.floatCmp op k x y):=by
 unfold Op.floatCmp
 repeat' first
  |exact ZN _
  |exact J1 _
  |exact J9 _
  |apply QC
  |apply Z5
  |intro _
  |split
  |dsimp only
theorem Qb1 (v:Value):Cho (asBool v):=by
 unfold asBool
 repeat' first
  |exact ZN _
  |exact J1 _
  |exact J9 _
  |apply QC
  |apply Z5
  |intro _
  |split
  |dsimp only
theorem Z2 (op:BinOp)(k:FloatKind)(x y:Nat):Cho (Op.Complex.arith op k x y):=by
 unfold Op.Complex.arith
 refine QC (PG _ _ _ _) fun _=>?_
 repeat' first
  |exact ZN _
  |exact J1 _
  |exact J9 _
  |apply QC
  |apply Z5
  |intro _
  |split
  |dsimp only
theorem Uv (op:BinOp)(k:FloatKind)(x y:Nat):Cho (Op.Complex.cmp op k x y):=QC (PH _ _ _ _) fun _=>Qb1 _
theorem Qb6 (s:FloatKind)(x:Nat)(t:FloatKind):Cho (Conv.floatToFloat s x t):=by
 unfold Conv.floatToFloat
 repeat' first
  |exact ZN _
  |exact J1 _
  |exact J9 _
  |apply QC
  |apply Z5
  |intro _
  |split
  |dsimp only
theorem Ys (s:FloatKind)(x:Nat)(t:FloatKind):Cho (Op.Complex.conv s x t):=by
 unfold Op.Complex.conv
 refine Z5 (ZN _) (QC (Qb6 _ _ _) fun _=>?_)
 repeat' first
  |exact ZN _
  |exact J1 _
  |exact J9 _
  |apply QC
  |apply Z5
  |intro _
  |split
  |dsimp only
theorem Qb4 (a b c d:Nat):Cho (Op.Complex.product a b c d):=by
 unfold Op.Complex.product Op.Complex.sub Op.Complex.mul Op.Complex.add
 repeat' first
  |exact ZN _
  |exact J1 _
  |exact J9 _
  |exact Z2 _ _ _ _
  |apply QC
  |apply Z5
  |intro _
  |split
  |dsimp only
theorem PF (s a b c d:Nat):Cho (Op.Complex.corrected s a b c d):=by
 unfold Op.Complex.corrected Op.Complex.sub Op.Complex.mul Op.Complex.add
 repeat' first
  |exact ZN _
  |exact J1 _
  |exact J9 _
  |exact Z2 _ _ _ _
  |apply QC
  |apply Z5
  |intro _
  |split
  |dsimp only
theorem Qb5 (a b c d:Nat):Cho (Op.Complex.quotient a b c d):=by
 unfold Op.Complex.quotient
 refine QC (Uv _ _ _ _) fun g=>?_
 extract_lets j
 have hj:∀e,Cho (j e):=by
  intro e
  obtain⟨e,f⟩:=e
  simp-zeta only[j]
  refine QC (Uv _ _ _ _) fun z1=>QC (Uv _ _ _ _) fun z2=>?_
  extract_lets z
  refine Z5 (ZN _) (Z5 ?_ (Z5 (PF _ _ _ _ _) (Z5 (PF _ _ _ _ _) (ZN _))))
  exact QC (Z2 _ _ _ _) fun _=>QC (Z2 _ _ _ _) fun _=>ZN _
 refine Z5 ?_ ?_
 all_goals
  refine QC (Z2 _ _ _ _) fun _=>QC (Z2 _ _ _ _) fun _=>QC (Z2 _ _ _ _) fun _=>QC (Z2 _ _ _ _) fun _=>QC (Z2 _ _ _ _) fun _=>QC (Z2 _ _ _ _) fun _=>QC (Z2 _ _ _ _) fun _=>QC (Z2 _ _ _ _) fun _=>QC (Z2 _ _ _ _) fun _=>QC (ZN _) fun _=>hj _
theorem Qb2 (op:BinOp)(k:FloatKind)(a b c d:Nat):Cho (Op.complexOp op k a b c d):=by
 unfold Op.complexOp
 split
 ·exact QC (Z2 _ _ _ _) fun _=>QC (Z2 _ _ _ _) fun _=>ZN _
 ·exact QC (Z2 _ _ _ _) fun _=>QC (Z2 _ _ _ _) fun _=>ZN _
 all_goals first
  |exact J1 _
  |exact QC (Uv _ _ _ _) fun _=>QC (Uv _ _ _ _) fun _=>ZN _
  |(refine QC (Ys _ _ _) fun _=>QC (Ys _ _ _) fun _=>QC (Ys _ _ _) fun _=>QC (Ys _ _ _) fun _=>?_
    exact Z5 (QC (Qb4 _ _ _ _) fun _=>QC (Ys _ _ _) fun _=>QC (Ys _ _ _) fun _=>ZN _) (QC (Qb5 _ _ _ _) fun _=>QC (Ys _ _ _) fun _=>QC (Ys _ _ _) fun _=>ZN _))
def UG:BinOp→Bool
 | .eql| .neq=>true
 |_=>false
theorem Qcr (op:BinOp)(t:TypeId)(x y:Operand)(a b:Value)(h:UG op=true→YJ T t=true):D T F F' LO X (eqGuard op t x y a b):=by
 unfold eqGuard
 have key:UG op=true→D T F F' LO X (match a,b with
  | .nilIface,.nilIface=>do
    if(x matches .const _)||(y matches .const _)then return
    if ←Op.eqGuardIn Op.maxDepth t a b then unsupported (.noEntry "binop/eql: two nil values of an interface type with methods, neither of them the literal nil")
  | .agg _,.agg _=>do
    if !(←program).eqGuardType (←program).depth t then return
    if ←Op.eqGuardIn Op.maxDepth t a b then unsupported (.noEntry "binop/eql: two nil values of an interface type with methods, in a part of a struct or an array")
  |_,_=>pure ()):=by
  intro ho
  have hg:=h ho
  simp only[YJ,Bool.and_eq_true,Bool.not_eq_true']at hg
  split
  ·refine Qn (Qd _) (Qb ?_ fun _=>Qn (Qf _) (Qd _))
   unfold Op.maxDepth Op.eqGuardIn
   refine Qb (Qv _) fun u=>?_
   split<;>first|exact Qd _|contradiction
  ·refine Y7 ?_
   refine YG ?_
   have e:(PP T F').depth=(PP T F).depth:=rfl
   have e1:(PP T #[]).depth=(PP T F).depth:=rfl
   rw[e,Ki T F F',Ki T #[] F,←e1,hg.2]
   exact Q4 _ trivial
  ·exact Qd _
 cases op<;>first|exact Qd _|exact key rfl
theorem Qch (op:BinOp)(t:TypeId)(x y:Value)(h:UG op=true→YJ T t=true):D T F F' LO X (binOp op t x y):=by
 unfold binOp
 split
 all_goals first
  |exact QcR _ _ _ _ _
  |exact QcW _ _ _
  |exact Qb (Qcs _ _ _ (h rfl)) fun _=>Qd _
  |(exact Qb (Qv _) fun u=>Qn (QcL _ _ _) (PS _ _ _))
  |exact PS _ _ _
  |exact Qb (Yu _) fun _=>Qb (Yu _) fun _=>Qcd _ _ _
  |exact Qb (Yu _) fun _=>Qb (Yu _) fun _=>Qcb _ _ _
  |exact Qb (Yu _) fun _=>Qcc _ _ _
  |exact Qf _
  |(refine Qn (Qf _) ?_
    split<;>first|exact PO _ _ _ _|exact QcD _ _ _ _|exact PQ _ _ _ _|exact QcC _ _ _)
  |(refine Qn (Qf _) ?_
    split<;>first|exact(PG _ _ _ _).d _ _ _ _ _|exact(PH _ _ _ _).d _ _ _ _ _)
  |exact Qn (Qf _) ((Qb2 _ _ _ _ _ _).d _ _ _ _ _)
end
end Co
end Go.Proofs.YtcpnkpogebjieaaGreat
