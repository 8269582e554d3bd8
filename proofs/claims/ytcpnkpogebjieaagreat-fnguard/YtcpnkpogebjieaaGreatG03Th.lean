/- The operations of a function's code, in two worlds at once, third part: what is built, -/
import Derived.Test.YtcpnkpogebjieaaGreatG02Td
namespace Go.Proofs.YtcpnkpogebjieaaGreat
namespace Co
open Go.Conc
section
variable {T:Tables} {F F':Array Func} {LO:Loop→Prop} {X:Nat→Bool} {α β:Type}
theorem QfT {γ:Type}(l:Array γ)(f:γ→β→Sem (ForInStep β))(hf:∀x b,D T F F' LO X (f x b))(b:β):D T F F' LO X (forIn l b f):=by
 rw[←Array.forIn_toList]
 generalize l.toList=k
 induction k generalizing b with
 |nil=>exact Qc _
 |cons x k ih=>
  rw[List.forIn_cons]
  refine Qb (hf x b) fun s=>?_
  cases s with
  |done b=>exact Qc _
  |yield b=>exact ih b
theorem QcY (t:TypeId)(ps:Array (Nat×Value)):D T F F' LO X (Instr.build t ps):=by
 unfold Instr.build
 refine Qb (QS _) fun z=>Qb (Qv _) fun u=>?_
 split
 ·refine Qb (Qao _ (fun f=>Qb (QT _) fun _=>Qc _) _) fun places=>?_
  split
  ·exact Qc _
  ·exact Qf _
 ·refine Qb (QT _) fun _=>?_
  split
  ·exact Qc _
  ·exact Qf _
 ·exact Qf _
theorem QeD (x:Value):D T F F' LO X (Conv.bytesToString x):=by
 unfold Conv.bytesToString
 split
 ·exact Qc _
 ·refine Qb (Zw _ _) fun cs=>Qb (QfT _ _ (fun c s=>?_) _) fun s=>Qc _
  dsimp only
  split
  ·exact Qc _
  ·exact Qf _
 ·exact Qf _
theorem QeC (t:TypeId)(n:Nat)(ps:Array (Nat×Value)):D T F F' LO X (Instr.buildSlice t n ps):=by
 unfold Instr.buildSlice
 repeat' first
  |exact Qc _
  |exact Qf _
  |exact Qv _
  |exact QH _
  |exact QS _
  |exact QT _
  |exact Q9 _
  |exact QY _ _
  |exact QX _ _ _
  |exact Za _
  |exact Zb _
  |exact Zh _
  |exact Ze _
  |exact Zl _
  |exact Zw _ _
  |exact Zq _ _ _
  |exact Zj _ _
  |exact ZC _ _ _
  |exact Zm _ _
  |exact Zz _ _
  |exact Zr _ _ _
  |exact QE _
  |exact Q2 _ _ _ _
  |exact QQ _
  |exact Zt _
  |exact ZA _
  |exact ZF _
  |exact Zf _
  |exact Zy _
  |exact ZH _ _
  |exact Je _ _ _
  |exact Ju _ _ _ _ _ _
  |apply Qb
  |intro _
  |apply Qo
  |split
  |dsimp only
theorem QcJ (x:Value)(t a:TypeId)(b:Bool):D T F F' LO X (Instr.typeAssert x t a b):=by
 unfold Instr.typeAssert
 dsimp only
 repeat' first
  |exact Qc _
  |exact Qf _
  |exact Qv _
  |exact QH _
  |exact QS _
  |exact QT _
  |exact Q9 _
  |exact QY _ _
  |exact QX _ _ _
  |exact Za _
  |exact Zb _
  |exact Zh _
  |exact Ze _
  |exact Zl _
  |exact Zw _ _
  |exact Zq _ _ _
  |exact Zj _ _
  |exact ZC _ _ _
  |exact Zm _ _
  |exact Zz _ _
  |exact Zr _ _ _
  |exact QE _
  |exact Q2 _ _ _ _
  |exact QQ _
  |exact Zt _
  |exact ZA _
  |exact ZF _
  |exact Zf _
  |exact Zy _
  |exact ZH _ _
  |exact Je _ _ _
  |exact Ju _ _ _ _ _ _
  |apply Qb
  |intro _
  |apply Qo
  |split
  |dsimp only
theorem Kq (x:Value):D T F F' LO X (Builtin.lenOf x):=by
 unfold Builtin.lenOf
 repeat' first
  |exact Qc _
  |exact Qf _
  |exact Qv _
  |exact QH _
  |exact QS _
  |exact QT _
  |exact Q9 _
  |exact QY _ _
  |exact QX _ _ _
  |exact Za _
  |exact Zb _
  |exact Zh _
  |exact Ze _
  |exact Zl _
  |exact Zw _ _
  |exact Zq _ _ _
  |exact Zj _ _
  |exact ZC _ _ _
  |exact Zm _ _
  |exact Zz _ _
  |exact Zr _ _ _
  |exact QE _
  |exact Q2 _ _ _ _
  |exact QQ _
  |exact Zt _
  |exact ZA _
  |exact ZF _
  |exact Zf _
  |exact Zy _
  |exact ZH _ _
  |exact Je _ _ _
  |exact Ju _ _ _ _ _ _
  |apply Qb
  |intro _
  |apply Qo
  |split
  |dsimp only
theorem V8 (s n:Nat)(x:Value):D T F F' LO X (Builtin.firstCells s n x):=by
 unfold Builtin.firstCells
 repeat' first
  |exact Qc _
  |exact Qf _
  |exact Qv _
  |exact QH _
  |exact QS _
  |exact QT _
  |exact Q9 _
  |exact QY _ _
  |exact QX _ _ _
  |exact Za _
  |exact Zb _
  |exact Zh _
  |exact Ze _
  |exact Zl _
  |exact Zw _ _
  |exact Zq _ _ _
  |exact Zj _ _
  |exact ZC _ _ _
  |exact Zm _ _
  |exact Zz _ _
  |exact Zr _ _ _
  |exact QE _
  |exact Q2 _ _ _ _
  |exact QQ _
  |exact Zt _
  |exact ZA _
  |exact ZF _
  |exact Zf _
  |exact Zy _
  |exact ZH _ _
  |exact Je _ _ _
  |exact Ju _ _ _ _ _ _
  |exact Kq _
  |apply Qb
  |intro _
  |apply Qo
  |split
  |dsimp only
theorem Qgn (a:Array TypeId)(t:TypeId)(x:Array Value):D T F F' LO X (Builtin.copy_ a t x):=by
 unfold Builtin.copy_
 repeat' first
  |exact Qc _
  |exact Qf _
  |exact Qv _
  |exact QH _
  |exact QS _
  |exact QT _
  |exact Q9 _
  |exact QY _ _
  |exact QX _ _ _
  |exact Za _
  |exact Zb _
  |exact Zh _
  |exact Ze _
  |exact Zl _
  |exact Zw _ _
  |exact Zq _ _ _
  |exact Zj _ _
  |exact ZC _ _ _
  |exact Zm _ _
  |exact Zz _ _
  |exact Zr _ _ _
  |exact QE _
  |exact Q2 _ _ _ _
  |exact QQ _
  |exact Zt _
  |exact ZA _
  |exact ZF _
  |exact Zf _
  |exact Zy _
  |exact ZH _ _
  |exact Je _ _ _
  |exact Ju _ _ _ _ _ _
  |exact Kq _
  |exact V8 _ _ _
  |apply Qb
  |intro _
  |apply Qo
  |split
  |dsimp only
theorem QeA (a:Array TypeId)(t:TypeId)(x:Array Value):D T F F' LO X (Builtin.len_ a t x):=by
 unfold Builtin.len_
 split
 ·refine Qb (Qv _) fun u=>?_
  split
  all_goals first
   |exact Qc _
   |exact Qf _
   |(refine Qb (Qv _) fun _=>?_;split<;>first|exact Qc _|exact Qf _)
   |(refine Va _ (fun o _ _=>?_) (fun _ _=>Zs _) (Zs _);split<;>first|exact Qc _|exact Qf _)
 ·exact Qf _
theorem QfJ (a:Array TypeId)(t:TypeId)(x:Array Value):D T F F' LO X (Builtin.clear_ a t x):=by
 unfold Builtin.clear_
 split
 ·refine Qb (Qv _) fun u=>?_
  dsimp only
  split
  ·exact Qb (Qc _) fun _=>Qc _
  ·exact Qb (Qc _) fun _=>Qc _
  ·exact Qb (Qc _) fun _=>Qc _
  ·refine Va _ (fun o hX _=>?_) (fun _ _=>Zs _) (Zs _)
   split
   ·exact Qb ⟨YW _ hX trivial trivial⟩ fun _=>Qc _
   ·exact Qb (Qf _) fun _=>Qc _
  ·exact Qb (QS _) fun _=>Qb (Zq _ _ _) fun _=>Qc _
  ·exact Qb (Qf _) fun _=>Qc _
 ·exact Qf _
theorem Qhn (t:TypeId)(x:Value):D T F F' LO X (Instr.range t x):=by
 unfold Instr.range
 refine Qb (Qv _) fun u=>?_
 have hn:∀o,Yt LO o→D T F F' LO X (newObj o>>= fun r=>pure (Value.pointer (some ⟨r,0,none⟩))):=fun o ho=>Qb ⟨Ul ho fun _ _=>trivial⟩ fun _=>Qc _
 dsimp only
 split
 all_goals first
  |exact Qb (Qc _) fun _=>hn _ trivial
  |exact hn _ trivial
  |exact Qf _
  |exact Qb (Qf _) fun _=>hn _ trivial
  |(refine Va _ (fun o hX _=>?_) (fun _ _=>Zs _) (Zs _)
    split<;>first|exact hn _ trivial|exact Qf _)
theorem Qfu (x:Value)(t:TypeId):D T F F' LO X (Instr.next x true t):=by
 unfold Instr.next
 dsimp only
 split
 ·refine Va _ (fun o hX _=>?_) (fun _ _=>Zs _) (Zs _)
  split
  ·split
   ·exact Qb ⟨YW _ hX trivial trivial⟩ fun _=>Qc _
   ·exact Qc _
  all_goals first|exact Qf _|contradiction
 ·exact Qf _
end
section
variable {T:Tables} {F F':Array Func} {LO:Loop→Prop} {X:Nat→Bool} {α β:Type}
theorem Vl {s:Sem α}(h:Jd s):D T F F' LO X s:=⟨JB h s⟩
theorem QaC (a:Addr)(n:Nat):Saf (Builtin.holdsCells a n):=by
 unfold Builtin.holdsCells
 refine Jz (Qex _) fun o=>?_
 split<;>exact Jw _
theorem Qej (a b c:Nat)(o:Option Addr)(v:Value):Saf (Builtin.mayShare a b c o v):=by
 unfold Builtin.mayShare
 have key:∀t:Bool,Saf (if(!t)=true then(pure true:Sem Bool)else match v with
  | .slice (some d) _ _=>do pure (!(←Builtin.holdsCells d (c*a))||o.any (·.block ==d.block))
  |_=>pure false):=by
  intro t
  refine QdM (Jw _) ?_
  split
  ·exact Jz (QaC _ _) fun _=>Jw _
  ·exact Jw _
 cases o with
 |none=>exact Jz (Jw _) fun t=>key t
 |some d=>exact Jz (QaC _ _) fun _=>Jz (QcN _) fun _=>Jz (Jw _) fun t=>key t
theorem QdF (a:Array TypeId)(t:TypeId)(x:Array Value):D T F F' LO X (Builtin.append_ a t x):=by
 unfold Builtin.append_
 split
 ·rename_i sT s v he
  refine Qb (Qv _) fun u=>?_
  split
  ·rename_i elem
   split
   ·rename_i base sLen sCap
    refine Qb (QT _) fun size=>?_
    extract_lets+onlyGivenNames k1 k2
    have hk2:∀z,D T F F' LO X (k2 z):=by
     intro z
     simp-zeta only[k2]
     extract_lets+onlyGivenNames j
     have hj:∀n,D T F F' LO X (j n):=by
      intro n
      simp-zeta only[j]
      extract_lets+onlyGivenNames app need
      have happ:D T F F' LO X app:=by
       simp-zeta only[app]
       exact Qo (V8 _ _ _) (Qo (Qc _) (Qb (QS _) fun _=>Qc _))
      refine Qo (Qb happ fun new=>?_) (Qb (QH _) fun i=>?_)
      ·extract_lets+onlyGivenNames j2
       split
       ·exact Qb (Zq _ _ _) fun _=>Qc _
       ·exact Qc _
      ·extract_lets j3 j2
       have hj3:∀u,D T F F' LO X (j3 u):=by
        intro u
        simp-zeta only[j3]
        refine Qb (QQ _) fun c=>Qb (QH _) fun i=>Qb (Zt _) fun _=>Qb (V8 _ _ _) fun old=>Qb happ fun new=>Qb (QS _) fun z=>?_
        exact Qb (Zm _ _) fun r=>Qc _
       have hj2:∀u,D T F F' LO X (j2 u):=by
        intro u
        simp-zeta only[j2]
        refine Qb (QH _) fun i=>?_
        exact Qo (Vl (Um (Vx (JR _) (Js (Qej _ _ _ _ _) fun b=>Vx (Js (PV _) fun _=>Zs _) (Zs _))))) (hj3 ())
       exact Qo (Qb (QE _) fun u=>hj2 u) (hj2 ())
     refine Qo (Qb (Za _) fun l0=>?_) (Qb (Kq _) fun n=>hj n)
     extract_lets l j3 j2
     have hj2:∀u,D T F F' LO X (j2 u):=by
      intro u
      simp-zeta only[j2]
      refine Qb (QH _) fun i=>?_
      exact Qo (Qb (QQ _) fun m=>Vl (Um (JR _))) (Qb (Qc _) fun n=>hj n)
     exact Qo (Qb (QE _) fun u=>hj2 u) (hj2 ())
    split
    ·exact Qb (Qv _) fun u=>Qb (Qc _) fun z=>hk2 z
    ·exact Qb (Qc _) fun z=>hk2 z
   ·exact Qf _
  ·exact Qf _
 ·exact Qf _
end
section
variable {T:Tables} {F F':Array Func} {LO:Loop→Prop} {X:Nat→Bool} {α β:Type}
theorem Qdy (r:Nat){f:Option (Addr×TypeId)→Sem β}(hs:∀x,Jd (f (some x)))(hn:D T F F' LO X (f none)):D T F F' LO X (viewAt r>>= f):=by
 unfold viewAt
 refine Vu (UR r (fun o=>?_) (fun e n=>hn.tr))
 cases o with
 |some x=>exact hn
 |none=>
  have h:D T F F' LO X ((getObj r>>= fun o=>match o with| .view a t=>pure (some (a,t))|_=>pure none)>>= f):=by
   refine Vu ⟨UX r (fun o _ _=>?_) (fun _ o' o hp=>?_)⟩
   ·split
    ·exact JB (hs _) _
    ·exact hn.tr
   ·rcases hp with⟨a,a',t,rfl,rfl⟩|⟨l,rfl,rfl⟩|⟨c,rfl,rfl⟩|⟨c,e,rfl,rfl⟩
    ·exact JB (hs _) _
    ·exact hn.tr
    ·exact hn.tr
    ·exact hn.tr
  exact h
theorem QcX (P:Program)(d:Nat)(e:TypeId)(o:Nat)(b:Int):cellAtBytes P d e 0 o b=none:=by
 unfold cellAtBytes
 dsimp only
 split
 ·rfl
 ·simp only[bind,Option.bind]
  split
  ·rfl
  ·rename_i x h
   simp only[Nat.zero_mul]
   rw[if_pos]
   rcases Int.lt_or_le (Int.ofNat (o/P.cellsOf e*P.bytesOf e+x)+b) 0 with hl|hl
   ·simp only[hl,decide_true,Bool.true_or]
   ·have:Int.ofNat (o/P.cellsOf e*P.bytesOf e+x)+b≥Int.ofNat 0:=hl
    simp only[this,decide_true,Bool.or_true]
theorem Pb (t:TypeId)(p:Option Addr)(y:Value):D T F F' LO X (Builtin.unsafeAdd_ #[] t #[.pointer p,y]):=by
 unfold Builtin.unsafeAdd_
 dsimp only
 refine Qb (Za _) fun n=>?_
 refine Qo ?_ (Qo (Qb (Qf _) fun _=>?_) ?_)
 ·split
  ·exact Qdy _ (fun x=>Zs _) (Qc _)
  ·exact Qf _
 all_goals
  split
  ·refine UR _ (fun o=>?_) (fun e c=>?_)
   ·split
    ·refine Uj ?_
     rw[Qd8 T F F']
     have e2:(PP T F').depth=(PP T F).depth:=rfl
     rw[e2]
     refine D.tr ?_
     split
     ·exact Qc _
     ·exact Qf _
    ·exact Qf _
   ·refine Yu ?_
    rw[Nat.zero_div,QcX]
    exact ZS _ _
  ·exact Qf _
theorem YA (a:Addr):D T F F' LO X (behindNumber a):=Qb (ZA _) fun _=>Qc _
theorem Qgx (a:Addr)(l:Bool):D T F F' LO X (asNumber a l):=Qb ⟨Ul (LO:=LO) trivial fun _ _=>trivial⟩ fun _=>Qc _
theorem Qa9 (t:TypeId)(x y:Value):D T F F' LO X (movedNumber t x y):=by
 unfold movedNumber
 refine Qb (Qv _) fun u=>?_
 split
 ·rename_i n
  extract_lets j
  have hj:∀u,D T F F' LO X (j u):=by
   intro u
   simp-zeta only[j]
   refine Qb (YA _) fun al=>?_
   obtain⟨a,lost⟩:=al
   refine Qb (Pb _ _ _) fun v=>?_
   split
   ·exact Qgx _ _
   ·exact Qc _
  exact Qo (Qb (Qf _) fun u=>hj u) (hj ())
 ·have key:D T F F' LO X (Builtin.unsafeAdd_ #[] t #[x,y]):=by
   cases x with
   |pointer p=>exact Pb _ _ _
   |_=>exact Qf _
  exact Qo (Qb (Qf _) fun _=>key) key
theorem Qgb (t:TypeId)(x y:Value):D T F F' LO X (movedPointer t x y):=by
 unfold movedPointer
 have key:D T F F' LO X (Builtin.unsafeAdd_ #[] t #[x,y]):=by
  cases x with
  |pointer p=>exact Pb _ _ _
  |_=>exact Qf _
 split
 ·refine Qb (ZA _) fun n=>Qo (Qb (Qf _) fun _=>key) key
 ·exact key
theorem Pn (a b:Addr):D T F F' LO X (Op.twoPlaces a b):=by
 unfold Op.twoPlaces
 refine Uj ?_
 refine D.tr ?_
 exact Qo (Qb (Qf _) fun _=>Qb (Zf _) fun _=>Qb (Zf _) fun _=>Qc _) (Qb (Zf _) fun _=>Qb (Zf _) fun _=>Qc _)
theorem Qc7 (k:IntKind)(a b:Addr):D T F F' LO X (Op.addrSub k a b):=Qb (Pn _ _) fun _=>Qc _
theorem Qgp (op:BinOp)(a b:Addr):D T F F' LO X (Op.addrCmp op a b):=by
 unfold Op.addrCmp
 refine Qb (Pn _ _) fun _=>?_
 dsimp only
 split<;>first|exact Qc _|exact Qf _
theorem Qee (k:IntKind)(a:Addr)(n:Int):D T F F' LO X (Op.addrMod k a n):=by
 unfold Op.addrMod
 have key:∀e,D T F F' LO X (do
  let align:=(←typeInfo e).align
  if n<1||n.toNat>align||align%n.toNat !=0 then unsupported .addressObserved
  pure (.int k ((←byteOf a)%n.toNat:Nat)):Sem Value):=by
  intro e
  refine Qb (QH _) fun i=>?_
  exact Qo (Qb (Qf _) fun _=>Qb (Zf _) fun _=>Qc _) (Qb (Zf _) fun _=>Qc _)
 refine UR _ (fun o=>?_) (fun e c=>(key e).tr)
 cases o with
 |none=>exact Qf _
 |some x=>exact key x.1
theorem Oa (op:BinOp)(k:IntKind)(x y:Int):D T F F' LO X (Op.intArith op k x y):=by unfold Op.intArith;split<;>first|exact Qc _|exact Qf _
theorem Qd2 (op:BinOp)(k:IntKind)(x y:Int):D T F F' LO X (Op.intDiv op k x y):=by
 unfold Op.intDiv
 refine Qo (QE _) ?_
 split<;>first|exact Qc _|exact Qf _
theorem Og (op:BinOp)(k:IntKind)(x y:Int):D T F F' LO X (Op.intBits op k x y):=by unfold Op.intBits;dsimp only;split<;>first|exact Qc _|exact Qf _
theorem Qg4 (op:BinOp)(x y:Int):D T F F' LO X (Op.intCmp op x y):=by unfold Op.intCmp;split<;>first|exact Qc _|exact Qf _
theorem Qd1 (op:BinOp)(k:IntKind)(x:Int)(yk:IntKind)(y:Int):D T F F' LO X (Op.shift op k x yk y):=by
 unfold Op.shift
 refine Qo (QE _) ?_
 dsimp only
 split<;>first|exact Qc _|exact Qf _
theorem QeN (op:BinOp)(x y:ByteArray):D T F F' LO X (Op.stringOp op x y):=by
 unfold Op.stringOp
 dsimp only
 split<;>first|exact Qc _|exact Qf _|exact Qo (Qf _) (Qc _)
theorem Qfh (op:UnOp)(x:Value):D T F F' LO X (Op.unary op x):=by
 unfold Op.unary
 split<;>first|exact Qc _|exact Qf _|exact Oa _ _ _ _|exact Og _ _ _ _
end
section
variable {T:Tables} {F F':Array Func} {LO:Loop→Prop} {X:Nat→Bool} {α β:Type}
theorem QgW (T:Tables)(F F':Array Func)(d:Nat):∀(a b:TypeId),(PP T F').alikeButTags d a b=(PP T F).alikeButTags d a b:=by
 induction d with
 |zero=>intro a b;rfl
 |succ d ih=>
  intro a b
  have ih':(PP T F').alikeButTags d=(PP T F).alikeButTags d:=by funext a b;exact ih a b
  simp only[Program.alikeButTags,ih']
  try rfl
theorem KF (T:Tables)(F F':Array Func)(t:TypeId):(PP T F').stoodInHeld t=(PP T F).stoodInHeld t:=by
 unfold Program.stoodInHeld Program.stoodInAs
 simp only[QgW T F F']
 have e:(PP T F').depth=(PP T F).depth:=rfl
 have e1:∀x,(PP T F').underlyingId x=(PP T F).underlyingId x:=fun _=>rfl
 have e2:∀x,(PP T F').underlying x=(PP T F).underlying x:=fun _=>rfl
 simp only[e,e1,e2]
def eqT (T:Tables):Nat→TypeId→Bool
 |0,_=>true
 |d+1,t=>match(PP T #[]).underlying t with
  |some .bool|some (.int _)|some .string|some (.slice _)|none=>true
  |some (.struct fs)=>!(PP T #[]).stoodInHeld t&&fs.all fun f=>eqT T d f.type
  |_=>false
theorem Qfi {γ:Type}(l:Array γ)(f:γ→β→Sem (ForInStep β))(hf:∀x,x∈l→∀b,D T F F' LO X (f x b))(b:β):D T F F' LO X (forIn l b f):=by
 rw[←Array.forIn_toList]
 have hf':∀x∈l.toList,∀b,D T F F' LO X (f x b):=fun x hx=>hf x (by simpa using hx)
 generalize l.toList=k at hf'
 induction k generalizing b with
 |nil=>exact Qc _
 |cons x k ih=>
  rw[List.forIn_cons]
  refine Qb (hf' x (by simp) b) fun s=>?_
  cases s with
  |done b=>exact Qc _
  |yield b=>exact ih b fun y hy=>hf' y (by simp[hy])
theorem Qdn (d:Nat):∀(k:Nat) (t:TypeId) (x y:Value),eqT T k t=true→d≤k→D T F F' LO X (Op.equalIn d t x y):=by
 induction d with
 |zero=>intro k t x y _ _;exact Qf _
 |succ d ih=>
  intro k t x y ht hk
  obtain⟨k,rfl⟩:∃m,k=m+1:=⟨k-1,by omega⟩
  unfold Op.equalIn
  refine⟨Zn (YJ t) fun u hu=>?_⟩
  have hu':(PP T #[]).underlying t=some u:=hu
  simp only[eqT,hu']at ht
  refine D.tr ?_
  cases u<;>simp only at ht<;>try(cases ht;done)
  case bool=>(split<;>first|exact Qc _|exact Qf _|exact Qo (Qc _) (Qf _)|contradiction)
  case string=>(split<;>first|exact Qc _|exact Qf _|exact Qo (Qc _) (Qf _)|contradiction)
  case slice=>(split<;>first|exact Qc _|exact Qf _|exact Qo (Qc _) (Qf _)|contradiction)
  case int=>
   split<;>first
    |exact Qc _
    |exact Qf _
    |exact Qo (Qc _) (Qf _)
    |contradiction
    |(refine Qb (YA _) fun a=>Qb (YA _) fun b=>Uj (D.tr (Qo (Qb (Zf _) fun _=>Qb (Zf _) fun _=>Qc _) (Qb (QH _) fun i=>?_)))
      split
      ·exact Qo (Qc _) (Qf _)
      ·exact Qf _)
  case struct fs=>
   split<;>first
    |exact Qc _
    |exact Qf _
    |exact Qo (Qc _) (Qf _)
    |contradiction
    |skip
   rename_i fields xs ys hs
   cases hs
   refine Uj ?_
   have e0:(PP T F').stoodInHeld t=(PP T #[]).stoodInHeld t:=KF T _ _ t
   have e1:(PP T F).stoodInHeld t=(PP T #[]).stoodInHeld t:=KF T _ _ t
   simp only[Bool.and_eq_true,Bool.not_eq_true']at ht
   rw[e0,e1,ht.1]
   refine D.tr ?_
   simp only[Bool.false_eq_true,if_false]
   refine Qb (Qfi _ _ (fun f hf s=>Qo (Qb (Zr _ _ _) fun a=>Qb (Zr _ _ _) fun b=>Qb (ih k f.type a b ?_ (by omega)) fun r=>Qo (Qc _) (Qc _)) (Qc _)) _) fun s=>?_
   ·exact(Array.all_eq_true'.1 ht.2) f hf
   ·split<;>exact Qc _
theorem Kz (T:Tables)(F F':Array Func)(d:Nat):∀t:TypeId,(PP T F').eqGuardType d t=(PP T F).eqGuardType d t:=by
 induction d with
 |zero=>intro t;rfl
 |succ d ih=>
  intro t
  have ih':(PP T F').eqGuardType d=(PP T F).eqGuardType d:=by funext t;exact ih t
  simp only[Program.eqGuardType,ih']
  rfl
def YI (T:Tables)(t:TypeId):Bool:=eqT T Op.maxDepth t&& !(PP T #[]).eqGuardType (PP T #[]).depth t
theorem Qdq (t:TypeId)(x y:Value)(h:YI T t=true):D T F F' LO X (Op.equal t x y):=by
 simp only[YI,Bool.and_eq_true]at h
 exact Qdn _ _ t x y h.1 (Nat.le_refl _)
structure Cho (s:Sem α):Prop where
 d:∀(T:Tables) (F F':Array Func) (LO:Loop→Prop) (X:Nat→Bool),D T F F' LO X s
theorem ZM (a:α):Cho (pure a:Sem α):=⟨fun _ _ _ _ _=>Qc a⟩
theorem JZ (h:Halt)(hh:HOk h:=by exact True.intro):Cho (.halt h:Sem α):=⟨fun _ _ _ _ _=>Qf h hh⟩
theorem Yb (q:Question):Cho (choose q):=⟨fun _ _ _ _ _=>QQ q⟩
theorem QC {s:Sem α}{f:α→Sem β}(hs:Cho s)(hf:∀a,Cho (f a)):Cho (s>>= f):=⟨fun T F F' LO X=>Qb (hs.d T F F' LO X) fun a=>(hf a).d T F F' LO X⟩
theorem Z7 {c:Prop}[Decidable c]{x y:Sem α}(hx:Cho x)(hy:Cho y):Cho (if c then x else y):=by split<;>assumption
theorem Pr (op:BinOp)(k:FloatKind)(x y:Nat):Cho (Op.floatArith op k x y):=by
 unfold Op.floatArith
 repeat' first
  |exact ZM _
  |exact JZ _
  |exact Yb _
  |apply QC
  |apply Z7
  |intro _
  |split
  |dsimp only
theorem Qag (op:BinOp)(k:FloatKind)(x y:Nat):Cho (Op.floatCmp op k x y):=by
 unfold Op.floatCmp
 repeat' first
  |exact ZM _
  |exact JZ _
  |exact Yb _
  |apply QC
  |apply Z7
  |intro _
  |split
  |dsimp only
theorem QgL (v:Value):Cho (asBool v):=by
 unfold asBool
 repeat' first
  |exact ZM _
  |exact JZ _
  |exact Yb _
  |apply QC
  |apply Z7
  |intro _
  |split
  |dsimp only
theorem Z1 (op:BinOp)(k:FloatKind)(x y:Nat):Cho (Op.Complex.arith op k x y):=by
 unfold Op.Complex.arith
 refine QC (Pr _ _ _ _) fun _=>?_
 repeat' first
  |exact ZM _
  |exact JZ _
  |exact Yb _
  |apply QC
  |apply Z7
  |intro _
  |split
  |dsimp only
theorem UO (op:BinOp)(k:FloatKind)(x y:Nat):Cho (Op.Complex.cmp op k x y):=QC (Qag _ _ _ _) fun _=>QgL _
theorem Qc5 (s:FloatKind)(x:Nat)(t:FloatKind):Cho (Conv.floatToFloat s x t):=by
 unfold Conv.floatToFloat
 repeat' first
  |exact ZM _
  |exact JZ _
  |exact Yb _
  |apply QC
  |apply Z7
  |intro _
  |split
  |dsimp only
theorem Yl (s:FloatKind)(x:Nat)(t:FloatKind):Cho (Op.Complex.conv s x t):=by
 unfold Op.Complex.conv
 refine Z7 (ZM _) (QC (Qc5 _ _ _) fun _=>?_)
 repeat' first
  |exact ZM _
  |exact JZ _
  |exact Yb _
  |apply QC
  |apply Z7
  |intro _
  |split
  |dsimp only
theorem QgT (a b c d:Nat):Cho (Op.Complex.product a b c d):=by
 unfold Op.Complex.product Op.Complex.sub Op.Complex.mul Op.Complex.add
 repeat' first
  |exact ZM _
  |exact JZ _
  |exact Yb _
  |exact Z1 _ _ _ _
  |apply QC
  |apply Z7
  |intro _
  |split
  |dsimp only
theorem QaZ (s a b c d:Nat):Cho (Op.Complex.corrected s a b c d):=by
 unfold Op.Complex.corrected Op.Complex.sub Op.Complex.mul Op.Complex.add
 repeat' first
  |exact ZM _
  |exact JZ _
  |exact Yb _
  |exact Z1 _ _ _ _
  |apply QC
  |apply Z7
  |intro _
  |split
  |dsimp only
theorem QgO (a b c d:Nat):Cho (Op.Complex.quotient a b c d):=by
 unfold Op.Complex.quotient
 refine QC (UO _ _ _ _) fun g=>?_
 extract_lets j
 have hj:∀e,Cho (j e):=by
  intro e
  obtain⟨e,f⟩:=e
  simp-zeta only[j]
  refine QC (UO _ _ _ _) fun z1=>QC (UO _ _ _ _) fun z2=>?_
  extract_lets z
  refine Z7 (ZM _) (Z7 ?_ (Z7 (QaZ _ _ _ _ _) (Z7 (QaZ _ _ _ _ _) (ZM _))))
  exact QC (Z1 _ _ _ _) fun _=>QC (Z1 _ _ _ _) fun _=>ZM _
 refine Z7 ?_ ?_
 all_goals
  refine QC (Z1 _ _ _ _) fun _=>QC (Z1 _ _ _ _) fun _=>QC (Z1 _ _ _ _) fun _=>QC (Z1 _ _ _ _) fun _=>QC (Z1 _ _ _ _) fun _=>QC (Z1 _ _ _ _) fun _=>QC (Z1 _ _ _ _) fun _=>QC (Z1 _ _ _ _) fun _=>QC (Z1 _ _ _ _) fun _=>QC (ZM _) fun _=>hj _
theorem QeI (op:BinOp)(k:FloatKind)(a b c d:Nat):Cho (Op.complexOp op k a b c d):=by
 unfold Op.complexOp
 split
 ·exact QC (Z1 _ _ _ _) fun _=>QC (Z1 _ _ _ _) fun _=>ZM _
 ·exact QC (Z1 _ _ _ _) fun _=>QC (Z1 _ _ _ _) fun _=>ZM _
 all_goals first
  |exact JZ _
  |exact QC (UO _ _ _ _) fun _=>QC (UO _ _ _ _) fun _=>ZM _
  |(refine QC (Yl _ _ _) fun _=>QC (Yl _ _ _) fun _=>QC (Yl _ _ _) fun _=>QC (Yl _ _ _) fun _=>?_
    exact Z7 (QC (QgT _ _ _ _) fun _=>QC (Yl _ _ _) fun _=>QC (Yl _ _ _) fun _=>ZM _) (QC (QgO _ _ _ _) fun _=>QC (Yl _ _ _) fun _=>QC (Yl _ _ _) fun _=>ZM _))
def Up:BinOp→Bool
 | .eql| .neq=>true
 |_=>false
theorem Qdp (op:BinOp)(t:TypeId)(x y:Operand)(a b:Value)(h:Up op=true→YI T t=true):D T F F' LO X (eqGuard op t x y a b):=by
 unfold eqGuard
 have key:Up op=true→D T F F' LO X (match a,b with
  | .nilIface,.nilIface=>do
    if(x matches .const _)||(y matches .const _)then return
    if ←Op.eqGuardIn Op.maxDepth t a b then unsupported (.noEntry "binop/eql: two nil values of an interface type with methods, neither of them the literal nil")
  | .agg _,.agg _=>do
    if !(←program).eqGuardType (←program).depth t then return
    if ←Op.eqGuardIn Op.maxDepth t a b then unsupported (.noEntry "binop/eql: two nil values of an interface type with methods, in a part of a struct or an array")
  |_,_=>pure ()):=by
  intro ho
  have hg:=h ho
  simp only[YI,Bool.and_eq_true,Bool.not_eq_true']at hg
  split
  ·refine Qo (Qc _) (Qb ?_ fun _=>Qo (Qf _) (Qc _))
   unfold Op.maxDepth Op.eqGuardIn
   refine Qb (Qv _) fun u=>?_
   split<;>first|exact Qc _|contradiction
  ·refine Uj ?_
   refine Yu ?_
   have e:(PP T F').depth=(PP T F).depth:=rfl
   have e1:(PP T #[]).depth=(PP T F).depth:=rfl
   rw[e,Kz T F F',Kz T #[] F,←e1,hg.2]
   exact Q4 _ trivial
  ·exact Qc _
 cases op<;>first|exact Qc _|exact key rfl
theorem Qe7 (op:BinOp)(t:TypeId)(x y:Value)(h:Up op=true→YI T t=true):D T F F' LO X (binOp op t x y):=by
 unfold binOp
 split
 all_goals first
  |exact Qd1 _ _ _ _ _
  |exact QeN _ _ _
  |exact Qb (Qdq _ _ _ (h rfl)) fun _=>Qc _
  |(exact Qb (Qv _) fun u=>Qo (Qgb _ _ _) (Qa9 _ _ _))
  |exact Qa9 _ _ _
  |exact Qb (YA _) fun _=>Qb (YA _) fun _=>Qc7 _ _ _
  |exact Qb (YA _) fun _=>Qb (YA _) fun _=>Qgp _ _ _
  |exact Qb (YA _) fun _=>Qee _ _ _
  |exact Qf _
  |(refine Qo (Qf _) ?_
    split<;>first|exact Oa _ _ _ _|exact Qd2 _ _ _ _|exact Og _ _ _ _|exact Qg4 _ _ _)
  |(refine Qo (Qf _) ?_
    split<;>first|exact(Pr _ _ _ _).d _ _ _ _ _|exact(Qag _ _ _ _).d _ _ _ _ _)
  |exact Qo (Qf _) ((QeI _ _ _ _ _ _).d _ _ _ _ _)
end
end Co
end Go.Proofs.YtcpnkpogebjieaaGreat
