/- The operations of a function's code, in two worlds at once, third part: what is built, -/
import Derived.Test.YtcpnkpogebjieaaGreatG02Td
namespace Go.Proofs.YtcpnkpogebjieaaGreat.Co
open Go.Conc
section
variable {T : Tables} {F F' : Array Func} {LO : Loop → Prop} {X : Nat → Bool} {α β : Type}
theorem d_forIn {γ : Type} (l : Array γ) (f : γ → β → Sem (ForInStep β)) (hf : ∀ x b, D T F F' LO X (f x b)) (b : β) : D T F F' LO X (forIn l b f) := by
 rw [← Array.forIn_toList]
 generalize l.toList = k
 induction k generalizing b with
 | nil => exact d_pure _
 | cons x k ih =>
   rw [List.forIn_cons]
   refine d_bind (hf x b) fun s => ?_
   cases s with
   | done b => exact d_pure _
   | yield b => exact ih b
theorem d_build (t : TypeId) (ps : Array (Nat × Value)) : D T F F' LO X (Instr.build t ps) := by
 unfold Instr.build
 refine d_bind (d_zero _) fun z => d_bind (d_underlying _) fun u => ?_
 split
 · refine d_bind (d_mapM _ (fun f => d_bind (d_size _) fun _ => d_pure _) _) fun places => ?_
   split
   · exact d_pure _
   · exact d_halt _
 · refine d_bind (d_size _) fun _ => ?_
   split
   · exact d_pure _
   · exact d_halt _
 · exact d_halt _
theorem d_string (x : Value) : D T F F' LO X (Conv.bytesToString x) := by
 unfold Conv.bytesToString
 split
 · exact d_pure _
 · refine d_bind (d_loadCells _ _) fun cs => d_bind (d_forIn _ _ (fun c s => ?_) _) fun s => d_pure _
   dsimp only
   split
   · exact d_pure _
   · exact d_halt _
 · exact d_halt _
theorem d_buildSlice (t : TypeId) (n : Nat) (ps : Array (Nat × Value)) : D T F F' LO X (Instr.buildSlice t n ps) := by
 unfold Instr.buildSlice
 repeat' first
   | exact d_pure _
   | exact d_halt _
   | exact d_underlying _
   | exact d_typeInfo _
   | exact d_zero _
   | exact d_size _
   | exact d_isAgg _
   | exact d_load _ _
   | exact d_store _ _ _
   | exact d_asInt _
   | exact d_asIntOf _
   | exact d_asBool _
   | exact d_asAddr _
   | exact d_asAgg _
   | exact d_loadCells _ _
   | exact d_storeCells _ _ _
   | exact d_loadVar _ _
   | exact d_storeVar _ _ _
   | exact d_newRow _ _
   | exact d_newVar _ _
   | exact d_part _ _ _
   | exact d_panic _
   | exact d_bounds _ _ _ _
   | exact d_choose _
   | exact d_room _
   | exact d_numberAt _
   | exact d_noView _
   | exact d_byteOf _
   | exact d_sure _
   | exact d_fieldPlace _ _
   | exact d_sliceBound _ _ _
   | exact d_sliceBounds _ _ _ _ _ _
   | apply d_bind
   | intro _
   | apply d_ite
   | split
   | dsimp only
theorem d_typeAssert (x : Value) (t a : TypeId) (b : Bool) : D T F F' LO X (Instr.typeAssert x t a b) := by
 unfold Instr.typeAssert
 dsimp only
 repeat' first
   | exact d_pure _
   | exact d_halt _
   | exact d_underlying _
   | exact d_typeInfo _
   | exact d_zero _
   | exact d_size _
   | exact d_isAgg _
   | exact d_load _ _
   | exact d_store _ _ _
   | exact d_asInt _
   | exact d_asIntOf _
   | exact d_asBool _
   | exact d_asAddr _
   | exact d_asAgg _
   | exact d_loadCells _ _
   | exact d_storeCells _ _ _
   | exact d_loadVar _ _
   | exact d_storeVar _ _ _
   | exact d_newRow _ _
   | exact d_newVar _ _
   | exact d_part _ _ _
   | exact d_panic _
   | exact d_bounds _ _ _ _
   | exact d_choose _
   | exact d_room _
   | exact d_numberAt _
   | exact d_noView _
   | exact d_byteOf _
   | exact d_sure _
   | exact d_fieldPlace _ _
   | exact d_sliceBound _ _ _
   | exact d_sliceBounds _ _ _ _ _ _
   | apply d_bind
   | intro _
   | apply d_ite
   | split
   | dsimp only
theorem d_lenOf (x : Value) : D T F F' LO X (Builtin.lenOf x) := by
 unfold Builtin.lenOf
 repeat' first
   | exact d_pure _
   | exact d_halt _
   | exact d_underlying _
   | exact d_typeInfo _
   | exact d_zero _
   | exact d_size _
   | exact d_isAgg _
   | exact d_load _ _
   | exact d_store _ _ _
   | exact d_asInt _
   | exact d_asIntOf _
   | exact d_asBool _
   | exact d_asAddr _
   | exact d_asAgg _
   | exact d_loadCells _ _
   | exact d_storeCells _ _ _
   | exact d_loadVar _ _
   | exact d_storeVar _ _ _
   | exact d_newRow _ _
   | exact d_newVar _ _
   | exact d_part _ _ _
   | exact d_panic _
   | exact d_bounds _ _ _ _
   | exact d_choose _
   | exact d_room _
   | exact d_numberAt _
   | exact d_noView _
   | exact d_byteOf _
   | exact d_sure _
   | exact d_fieldPlace _ _
   | exact d_sliceBound _ _ _
   | exact d_sliceBounds _ _ _ _ _ _
   | apply d_bind
   | intro _
   | apply d_ite
   | split
   | dsimp only
theorem d_firstCells (s n : Nat) (x : Value) : D T F F' LO X (Builtin.firstCells s n x) := by
 unfold Builtin.firstCells
 repeat' first
   | exact d_pure _
   | exact d_halt _
   | exact d_underlying _
   | exact d_typeInfo _
   | exact d_zero _
   | exact d_size _
   | exact d_isAgg _
   | exact d_load _ _
   | exact d_store _ _ _
   | exact d_asInt _
   | exact d_asIntOf _
   | exact d_asBool _
   | exact d_asAddr _
   | exact d_asAgg _
   | exact d_loadCells _ _
   | exact d_storeCells _ _ _
   | exact d_loadVar _ _
   | exact d_storeVar _ _ _
   | exact d_newRow _ _
   | exact d_newVar _ _
   | exact d_part _ _ _
   | exact d_panic _
   | exact d_bounds _ _ _ _
   | exact d_choose _
   | exact d_room _
   | exact d_numberAt _
   | exact d_noView _
   | exact d_byteOf _
   | exact d_sure _
   | exact d_fieldPlace _ _
   | exact d_sliceBound _ _ _
   | exact d_sliceBounds _ _ _ _ _ _
   | exact d_lenOf _
   | apply d_bind
   | intro _
   | apply d_ite
   | split
   | dsimp only
theorem d_copy (a : Array TypeId) (t : TypeId) (x : Array Value) : D T F F' LO X (Builtin.copy_ a t x) := by
 unfold Builtin.copy_
 repeat' first
   | exact d_pure _
   | exact d_halt _
   | exact d_underlying _
   | exact d_typeInfo _
   | exact d_zero _
   | exact d_size _
   | exact d_isAgg _
   | exact d_load _ _
   | exact d_store _ _ _
   | exact d_asInt _
   | exact d_asIntOf _
   | exact d_asBool _
   | exact d_asAddr _
   | exact d_asAgg _
   | exact d_loadCells _ _
   | exact d_storeCells _ _ _
   | exact d_loadVar _ _
   | exact d_storeVar _ _ _
   | exact d_newRow _ _
   | exact d_newVar _ _
   | exact d_part _ _ _
   | exact d_panic _
   | exact d_bounds _ _ _ _
   | exact d_choose _
   | exact d_room _
   | exact d_numberAt _
   | exact d_noView _
   | exact d_byteOf _
   | exact d_sure _
   | exact d_fieldPlace _ _
   | exact d_sliceBound _ _ _
   | exact d_sliceBounds _ _ _ _ _ _
   | exact d_lenOf _
   | exact d_firstCells _ _ _
   | apply d_bind
   | intro _
   | apply d_ite
   | split
   | dsimp only
theorem d_len (a : Array TypeId) (t : TypeId) (x : Array Value) : D T F F' LO X (Builtin.len_ a t x) := by
 unfold Builtin.len_
 split
 · refine d_bind (d_underlying _) fun u => ?_
   split
   all_goals first
     | exact d_pure _
     | exact d_halt _
     | (refine d_bind (d_underlying _) fun _ => ?_; split <;> first | exact d_pure _ | exact d_halt _)
     | (refine d_getObj _ (fun o _ _ => ?_) (fun _ _ => never_halt _) (never_halt _); split <;> first | exact d_pure _ | exact d_halt _)
 · exact d_halt _
theorem d_clear (a : Array TypeId) (t : TypeId) (x : Array Value) : D T F F' LO X (Builtin.clear_ a t x) := by
 unfold Builtin.clear_
 split
 · refine d_bind (d_underlying _) fun u => ?_
   dsimp only
   split
   · exact d_bind (d_pure _) fun _ => d_pure _
   · exact d_bind (d_pure _) fun _ => d_pure _
   · exact d_bind (d_pure _) fun _ => d_pure _
   · refine d_getObj _ (fun o hX _ => ?_) (fun _ _ => never_halt _) (never_halt _)
     split
     · exact d_bind ⟨tr_setObj _ hX trivial trivial⟩ fun _ => d_pure _
     · exact d_bind (d_halt _) fun _ => d_pure _
   · exact d_bind (d_zero _) fun _ => d_bind (d_storeCells _ _ _) fun _ => d_pure _
   · exact d_bind (d_halt _) fun _ => d_pure _
 · exact d_halt _
theorem d_range (t : TypeId) (x : Value) : D T F F' LO X (Instr.range t x) := by
 unfold Instr.range
 refine d_bind (d_underlying _) fun u => ?_
 have hn : ∀ o, ObOk LO o → D T F F' LO X (newObj o >>= fun r => pure (Value.pointer (some ⟨r, 0, none⟩))) := fun o ho => d_bind ⟨tr_new ho fun _ _ => trivial⟩ fun _ => d_pure _
 dsimp only
 split
 all_goals first
   | exact d_bind (d_pure _) fun _ => hn _ trivial
   | exact hn _ trivial
   | exact d_halt _
   | exact d_bind (d_halt _) fun _ => hn _ trivial
   | (refine d_getObj _ (fun o hX _ => ?_) (fun _ _ => never_halt _) (never_halt _)
      split <;> first | exact hn _ trivial | exact d_halt _)
theorem d_next (x : Value) (t : TypeId) : D T F F' LO X (Instr.next x true t) := by
 unfold Instr.next
 dsimp only
 split
 · refine d_getObj _ (fun o hX _ => ?_) (fun _ _ => never_halt _) (never_halt _)
   split
   · split
     · exact d_bind ⟨tr_setObj _ hX trivial trivial⟩ fun _ => d_pure _
     · exact d_pure _
   all_goals first | exact d_halt _ | contradiction
 · exact d_halt _
end
section
variable {T : Tables} {F F' : Array Func} {LO : Loop → Prop} {X : Nat → Bool} {α β : Type}
theorem d_never {s : Sem α} (h : Never s) : D T F F' LO X s := ⟨tr_never h s⟩
theorem saf_holds (a : Addr) (n : Nat) : Saf (Builtin.holdsCells a n) := by
 unfold Builtin.holdsCells
 refine saf_bind (saf_shape _) fun o => ?_
 split <;> exact saf_pure _
theorem saf_mayShare (a b c : Nat) (o : Option Addr) (v : Value) : Saf (Builtin.mayShare a b c o v) := by
 unfold Builtin.mayShare
 have key : ∀ t : Bool, Saf (if (!t) = true then (pure true : Sem Bool) else match v with
     | .slice (some d) _ _ => do pure (!(← Builtin.holdsCells d (c * a)) || o.any (·.block == d.block))
     | _ => pure false) := by
   intro t
   refine saf_ite (saf_pure _) ?_
   split
   · exact saf_bind (saf_holds _ _) fun _ => saf_pure _
   · exact saf_pure _
 cases o with
 | none => exact saf_bind (saf_pure _) fun t => key t
 | some d => exact saf_bind (saf_holds _ _) fun _ => saf_bind (saf_frozen _) fun _ => saf_bind (saf_pure _) fun t => key t
theorem d_append (a : Array TypeId) (t : TypeId) (x : Array Value) : D T F F' LO X (Builtin.append_ a t x) := by
 unfold Builtin.append_
 split
 · rename_i sT s v he
   refine d_bind (d_underlying _) fun u => ?_
   split
   · rename_i elem
     split
     · rename_i base sLen sCap
       refine d_bind (d_size _) fun size => ?_
       extract_lets +onlyGivenNames k1 k2
       have hk2 : ∀ z, D T F F' LO X (k2 z) := by
         intro z
         simp -zeta only [k2]
         extract_lets +onlyGivenNames j
         have hj : ∀ n, D T F F' LO X (j n) := by
           intro n
           simp -zeta only [j]
           extract_lets +onlyGivenNames app need
           have happ : D T F F' LO X app := by
             simp -zeta only [app]
             exact d_ite (d_firstCells _ _ _) (d_ite (d_pure _) (d_bind (d_zero _) fun _ => d_pure _))
           refine d_ite (d_bind happ fun new => ?_) (d_bind (d_typeInfo _) fun i => ?_)
           · extract_lets +onlyGivenNames j2
             split
             · exact d_bind (d_storeCells _ _ _) fun _ => d_pure _
             · exact d_pure _
           · extract_lets j3 j2
             have hj3 : ∀ u, D T F F' LO X (j3 u) := by
               intro u
               simp -zeta only [j3]
               refine d_bind (d_choose _) fun c => d_bind (d_typeInfo _) fun i => d_bind (d_room _) fun _ => d_bind (d_firstCells _ _ _) fun old => d_bind happ fun new => d_bind (d_zero _) fun z => ?_
               exact d_bind (d_newRow _ _) fun r => d_pure _
             have hj2 : ∀ u, D T F F' LO X (j2 u) := by
               intro u
               simp -zeta only [j2]
               refine d_bind (d_typeInfo _) fun i => ?_
               exact d_ite (d_never (never_left (never_ite (never_panic _) (never_bind (saf_mayShare _ _ _ _ _) fun b => never_ite (never_bind (saf_mark _) fun _ => never_halt _) (never_halt _))))) (hj3 ())
             exact d_ite (d_bind (d_panic _) fun u => hj2 u) (hj2 ())
         refine d_ite (d_bind (d_asInt _) fun l0 => ?_) (d_bind (d_lenOf _) fun n => hj n)
         extract_lets l j3 j2
         have hj2 : ∀ u, D T F F' LO X (j2 u) := by
           intro u
           simp -zeta only [j2]
           refine d_bind (d_typeInfo _) fun i => ?_
           exact d_ite (d_bind (d_choose _) fun m => d_never (never_left (never_panic _))) (d_bind (d_pure _) fun n => hj n)
         exact d_ite (d_bind (d_panic _) fun u => hj2 u) (hj2 ())
       split
       · exact d_bind (d_underlying _) fun u => d_bind (d_pure _) fun z => hk2 z
       · exact d_bind (d_pure _) fun z => hk2 z
     · exact d_halt _
   · exact d_halt _
 · exact d_halt _
end
section
variable {T : Tables} {F F' : Array Func} {LO : Loop → Prop} {X : Nat → Bool} {α β : Type}
theorem d_viewBind (r : Nat) {f : Option (Addr × TypeId) → Sem β} (hs : ∀ x, Never (f (some x))) (hn : D T F F' LO X (f none)) : D T F F' LO X (viewAt r >>= f) := by
 unfold viewAt
 refine d_assoc (d_shape r (fun o => ?_) (fun e n => hn.tr))
 cases o with
 | some x => exact hn
 | none =>
   have h : D T F F' LO X ((getObj r >>= fun o => match o with | .view a t => pure (some (a, t)) | _ => pure none) >>= f) := by
     refine d_assoc ⟨tr_getObjG r (fun o _ _ => ?_) (fun _ o' o hp => ?_)⟩
     · split
       · exact tr_never (hs _) _
       · exact hn.tr
     · rcases hp with ⟨a, a', t, rfl, rfl⟩ | ⟨l, rfl, rfl⟩ | ⟨c, rfl, rfl⟩ | ⟨c, e, rfl, rfl⟩
       · exact tr_never (hs _) _
       · exact hn.tr
       · exact hn.tr
       · exact hn.tr
   exact h
theorem cellAtBytes_zero (P : Program) (d : Nat) (e : TypeId) (o : Nat) (b : Int) : cellAtBytes P d e 0 o b = none := by
 unfold cellAtBytes
 dsimp only
 split
 · rfl
 · simp only [bind, Option.bind]
   split
   · rfl
   · rename_i x h
     simp only [Nat.zero_mul]
     rw [if_pos]
     rcases Int.lt_or_le (Int.ofNat (o / P.cellsOf e * P.bytesOf e + x) + b) 0 with hl | hl
     · simp only [hl, decide_true, Bool.true_or]
     · have : Int.ofNat (o / P.cellsOf e * P.bytesOf e + x) + b ≥ Int.ofNat 0 := hl
       simp only [this, decide_true, Bool.or_true]
theorem d_unsafeAdd (t : TypeId) (p : Option Addr) (y : Value) : D T F F' LO X (Builtin.unsafeAdd_ #[] t #[.pointer p, y]) := by
 unfold Builtin.unsafeAdd_
 dsimp only
 refine d_bind (d_asInt _) fun n => ?_
 refine d_ite ?_ (d_ite (d_bind (d_halt _) fun _ => ?_) ?_)
 · split
   · exact d_viewBind _ (fun x => never_halt _) (d_pure _)
   · exact d_halt _
 all_goals
   split
   · refine d_shape _ (fun o => ?_) (fun e c => ?_)
     · split
       · refine d_prog ?_
         rw [cellAtBytes_tables T F F']
         have e2 : (PP T F').depth = (PP T F).depth := rfl
         rw [e2]
         refine D.tr ?_
         split
         · exact d_pure _
         · exact d_halt _
       · exact d_halt _
     · refine tr_prog ?_
       rw [Nat.zero_div, cellAtBytes_zero]
       exact tr_halt _ _
   · exact d_halt _
theorem d_behind (a : Addr) : D T F F' LO X (behindNumber a) := d_bind (d_numberAt _) fun _ => d_pure _
theorem d_asNumber (a : Addr) (l : Bool) : D T F F' LO X (asNumber a l) := d_bind ⟨tr_new (LO := LO) trivial fun _ _ => trivial⟩ fun _ => d_pure _
theorem d_movedNumber (t : TypeId) (x y : Value) : D T F F' LO X (movedNumber t x y) := by
 unfold movedNumber
 refine d_bind (d_underlying _) fun u => ?_
 split
 · rename_i n
   extract_lets j
   have hj : ∀ u, D T F F' LO X (j u) := by
     intro u
     simp -zeta only [j]
     refine d_bind (d_behind _) fun al => ?_
     obtain ⟨a, lost⟩ := al
     refine d_bind (d_unsafeAdd _ _ _) fun v => ?_
     split
     · exact d_asNumber _ _
     · exact d_pure _
   exact d_ite (d_bind (d_halt _) fun u => hj u) (hj ())
 · have key : D T F F' LO X (Builtin.unsafeAdd_ #[] t #[x, y]) := by
     cases x with
     | pointer p => exact d_unsafeAdd _ _ _
     | _ => exact d_halt _
   exact d_ite (d_bind (d_halt _) fun _ => key) key
theorem d_movedPointer (t : TypeId) (x y : Value) : D T F F' LO X (movedPointer t x y) := by
 unfold movedPointer
 have key : D T F F' LO X (Builtin.unsafeAdd_ #[] t #[x, y]) := by
   cases x with
   | pointer p => exact d_unsafeAdd _ _ _
   | _ => exact d_halt _
 split
 · refine d_bind (d_numberAt _) fun n => d_ite (d_bind (d_halt _) fun _ => key) key
 · exact key
theorem d_twoPlaces (a b : Addr) : D T F F' LO X (Op.twoPlaces a b) := by
 unfold Op.twoPlaces
 refine d_prog ?_
 refine D.tr ?_
 exact d_ite (d_bind (d_halt _) fun _ => d_bind (d_byteOf _) fun _ => d_bind (d_byteOf _) fun _ => d_pure _) (d_bind (d_byteOf _) fun _ => d_bind (d_byteOf _) fun _ => d_pure _)
theorem d_addrSub (k : IntKind) (a b : Addr) : D T F F' LO X (Op.addrSub k a b) := d_bind (d_twoPlaces _ _) fun _ => d_pure _
theorem d_addrCmp (op : BinOp) (a b : Addr) : D T F F' LO X (Op.addrCmp op a b) := by
 unfold Op.addrCmp
 refine d_bind (d_twoPlaces _ _) fun _ => ?_
 dsimp only
 split <;> first | exact d_pure _ | exact d_halt _
theorem d_addrMod (k : IntKind) (a : Addr) (n : Int) : D T F F' LO X (Op.addrMod k a n) := by
 unfold Op.addrMod
 have key : ∀ e, D T F F' LO X (do
     let align := (← typeInfo e).align
     if n < 1 || n.toNat > align || align % n.toNat != 0 then unsupported .addressObserved
     pure (.int k ((← byteOf a) % n.toNat : Nat)) : Sem Value) := by
   intro e
   refine d_bind (d_typeInfo _) fun i => ?_
   exact d_ite (d_bind (d_halt _) fun _ => d_bind (d_byteOf _) fun _ => d_pure _) (d_bind (d_byteOf _) fun _ => d_pure _)
 refine d_shape _ (fun o => ?_) (fun e c => (key e).tr)
 cases o with
 | none => exact d_halt _
 | some x => exact key x.1
theorem d_intArith (op : BinOp) (k : IntKind) (x y : Int) : D T F F' LO X (Op.intArith op k x y) := by unfold Op.intArith; split <;> first | exact d_pure _ | exact d_halt _
theorem d_intDiv (op : BinOp) (k : IntKind) (x y : Int) : D T F F' LO X (Op.intDiv op k x y) := by
 unfold Op.intDiv
 refine d_ite (d_panic _) ?_
 split <;> first | exact d_pure _ | exact d_halt _
theorem d_intBits (op : BinOp) (k : IntKind) (x y : Int) : D T F F' LO X (Op.intBits op k x y) := by unfold Op.intBits; dsimp only; split <;> first | exact d_pure _ | exact d_halt _
theorem d_intCmp (op : BinOp) (x y : Int) : D T F F' LO X (Op.intCmp op x y) := by unfold Op.intCmp; split <;> first | exact d_pure _ | exact d_halt _
theorem d_shift (op : BinOp) (k : IntKind) (x : Int) (yk : IntKind) (y : Int) : D T F F' LO X (Op.shift op k x yk y) := by
 unfold Op.shift
 refine d_ite (d_panic _) ?_
 dsimp only
 split <;> first | exact d_pure _ | exact d_halt _
theorem d_stringOp (op : BinOp) (x y : ByteArray) : D T F F' LO X (Op.stringOp op x y) := by
 unfold Op.stringOp
 dsimp only
 split <;> first | exact d_pure _ | exact d_halt _ | exact d_ite (d_halt _) (d_pure _)
theorem d_unary (op : UnOp) (x : Value) : D T F F' LO X (Op.unary op x) := by
 unfold Op.unary
 split <;> first | exact d_pure _ | exact d_halt _ | exact d_intArith _ _ _ _ | exact d_intBits _ _ _ _
end
section
variable {T : Tables} {F F' : Array Func} {LO : Loop → Prop} {X : Nat → Bool} {α β : Type}
theorem alike_tables (T : Tables) (F F' : Array Func) (d : Nat) : ∀ (a b : TypeId), (PP T F').alikeButTags d a b = (PP T F).alikeButTags d a b := by
 induction d with
 | zero => intro a b; rfl
 | succ d ih =>
   intro a b
   have ih' : (PP T F').alikeButTags d = (PP T F).alikeButTags d := by funext a b; exact ih a b
   simp only [Program.alikeButTags, ih']
   try rfl
theorem stoodInHeld_tables (T : Tables) (F F' : Array Func) (t : TypeId) : (PP T F').stoodInHeld t = (PP T F).stoodInHeld t := by
 unfold Program.stoodInHeld Program.stoodInAs
 simp only [alike_tables T F F']
 have e : (PP T F').depth = (PP T F).depth := rfl
 have e1 : ∀ x, (PP T F').underlyingId x = (PP T F).underlyingId x := fun _ => rfl
 have e2 : ∀ x, (PP T F').underlying x = (PP T F).underlying x := fun _ => rfl
 simp only [e, e1, e2]
def eqT (T : Tables) : Nat → TypeId → Bool
 | 0, _ => true
 | d + 1, t => match (PP T #[]).underlying t with
   | some .bool | some (.int _) | some .string | some (.slice _) | none => true
   | some (.struct fs) => !(PP T #[]).stoodInHeld t && fs.all fun f => eqT T d f.type
   | _ => false
theorem d_forInM {γ : Type} (l : Array γ) (f : γ → β → Sem (ForInStep β)) (hf : ∀ x, x ∈ l → ∀ b, D T F F' LO X (f x b)) (b : β) : D T F F' LO X (forIn l b f) := by
 rw [← Array.forIn_toList]
 have hf' : ∀ x ∈ l.toList, ∀ b, D T F F' LO X (f x b) := fun x hx => hf x (by simpa using hx)
 generalize l.toList = k at hf'
 induction k generalizing b with
 | nil => exact d_pure _
 | cons x k ih =>
   rw [List.forIn_cons]
   refine d_bind (hf' x (by simp) b) fun s => ?_
   cases s with
   | done b => exact d_pure _
   | yield b => exact ih b fun y hy => hf' y (by simp [hy])
theorem d_equalIn (d : Nat) : ∀ (k : Nat) (t : TypeId) (x y : Value), eqT T k t = true → d ≤ k → D T F F' LO X (Op.equalIn d t x y) := by
 induction d with
 | zero => intro k t x y _ _; exact d_halt _
 | succ d ih =>
   intro k t x y ht hk
   obtain ⟨k, rfl⟩ : ∃ m, k = m + 1 := ⟨k - 1, by omega⟩
   unfold Op.equalIn
   refine ⟨tr_bind (t_underlying t) fun u hu => ?_⟩
   have hu' : (PP T #[]).underlying t = some u := hu
   simp only [eqT, hu'] at ht
   refine D.tr ?_
   cases u <;> simp only at ht <;> try (cases ht; done)
   case bool => (split <;> first | exact d_pure _ | exact d_halt _ | exact d_ite (d_pure _) (d_halt _) | contradiction)
   case string => (split <;> first | exact d_pure _ | exact d_halt _ | exact d_ite (d_pure _) (d_halt _) | contradiction)
   case slice => (split <;> first | exact d_pure _ | exact d_halt _ | exact d_ite (d_pure _) (d_halt _) | contradiction)
   case int =>
     split <;> first
       | exact d_pure _
       | exact d_halt _
       | exact d_ite (d_pure _) (d_halt _)
       | contradiction
       | (refine d_bind (d_behind _) fun a => d_bind (d_behind _) fun b => d_prog (D.tr (d_ite (d_bind (d_byteOf _) fun _ => d_bind (d_byteOf _) fun _ => d_pure _) (d_bind (d_typeInfo _) fun i => ?_)))
          split
          · exact d_ite (d_pure _) (d_halt _)
          · exact d_halt _)
   case struct fs =>
     split <;> first
       | exact d_pure _
       | exact d_halt _
       | exact d_ite (d_pure _) (d_halt _)
       | contradiction
       | skip
     rename_i fields xs ys hs
     cases hs
     refine d_prog ?_
     have e0 : (PP T F').stoodInHeld t = (PP T #[]).stoodInHeld t := stoodInHeld_tables T _ _ t
     have e1 : (PP T F).stoodInHeld t = (PP T #[]).stoodInHeld t := stoodInHeld_tables T _ _ t
     simp only [Bool.and_eq_true, Bool.not_eq_true'] at ht
     rw [e0, e1, ht.1]
     refine D.tr ?_
     simp only [Bool.false_eq_true, if_false]
     refine d_bind (d_forInM _ _ (fun f hf s => d_ite (d_bind (d_part _ _ _) fun a => d_bind (d_part _ _ _) fun b => d_bind (ih k f.type a b ?_ (by omega)) fun r => d_ite (d_pure _) (d_pure _)) (d_pure _)) _) fun s => ?_
     · exact (Array.all_eq_true'.1 ht.2) f hf
     · split <;> exact d_pure _
theorem eqGuardType_tables (T : Tables) (F F' : Array Func) (d : Nat) : ∀ t : TypeId, (PP T F').eqGuardType d t = (PP T F).eqGuardType d t := by
 induction d with
 | zero => intro t; rfl
 | succ d ih =>
   intro t
   have ih' : (PP T F').eqGuardType d = (PP T F).eqGuardType d := by funext t; exact ih t
   simp only [Program.eqGuardType, ih']
   rfl
def eqOk (T : Tables) (t : TypeId) : Bool := eqT T Op.maxDepth t && !(PP T #[]).eqGuardType (PP T #[]).depth t
theorem d_equal (t : TypeId) (x y : Value) (h : eqOk T t = true) : D T F F' LO X (Op.equal t x y) := by
 simp only [eqOk, Bool.and_eq_true] at h
 exact d_equalIn _ _ t x y h.1 (Nat.le_refl _)
structure Cho (s : Sem α) : Prop where
 d : ∀ (T : Tables) (F F' : Array Func) (LO : Loop → Prop) (X : Nat → Bool), D T F F' LO X s
theorem cho_pure (a : α) : Cho (pure a : Sem α) := ⟨fun _ _ _ _ _ => d_pure a⟩
theorem cho_halt (h : Halt) (hh : HOk h := by exact True.intro) : Cho (.halt h : Sem α) := ⟨fun _ _ _ _ _ => d_halt h hh⟩
theorem cho_choose (q : Question) : Cho (choose q) := ⟨fun _ _ _ _ _ => d_choose q⟩
theorem cho_bind {s : Sem α} {f : α → Sem β} (hs : Cho s) (hf : ∀ a, Cho (f a)) : Cho (s >>= f) := ⟨fun T F F' LO X => d_bind (hs.d T F F' LO X) fun a => (hf a).d T F F' LO X⟩
theorem cho_ite {c : Prop} [Decidable c] {x y : Sem α} (hx : Cho x) (hy : Cho y) : Cho (if c then x else y) := by split <;> assumption
theorem cho_floatArith (op : BinOp) (k : FloatKind) (x y : Nat) : Cho (Op.floatArith op k x y) := by
 unfold Op.floatArith
 repeat' first
   | exact cho_pure _
   | exact cho_halt _
   | exact cho_choose _
   | apply cho_bind
   | apply cho_ite
   | intro _
   | split
   | dsimp only
theorem cho_floatCmp (op : BinOp) (k : FloatKind) (x y : Nat) : Cho (Op.floatCmp op k x y) := by
 unfold Op.floatCmp
 repeat' first
   | exact cho_pure _
   | exact cho_halt _
   | exact cho_choose _
   | apply cho_bind
   | apply cho_ite
   | intro _
   | split
   | dsimp only
theorem cho_asBool (v : Value) : Cho (asBool v) := by
 unfold asBool
 repeat' first
   | exact cho_pure _
   | exact cho_halt _
   | exact cho_choose _
   | apply cho_bind
   | apply cho_ite
   | intro _
   | split
   | dsimp only
theorem cho_arith (op : BinOp) (k : FloatKind) (x y : Nat) : Cho (Op.Complex.arith op k x y) := by
 unfold Op.Complex.arith
 refine cho_bind (cho_floatArith _ _ _ _) fun _ => ?_
 repeat' first
   | exact cho_pure _
   | exact cho_halt _
   | exact cho_choose _
   | apply cho_bind
   | apply cho_ite
   | intro _
   | split
   | dsimp only
theorem cho_cmp (op : BinOp) (k : FloatKind) (x y : Nat) : Cho (Op.Complex.cmp op k x y) := cho_bind (cho_floatCmp _ _ _ _) fun _ => cho_asBool _
theorem cho_toFloat (s : FloatKind) (x : Nat) (t : FloatKind) : Cho (Conv.floatToFloat s x t) := by
 unfold Conv.floatToFloat
 repeat' first
   | exact cho_pure _
   | exact cho_halt _
   | exact cho_choose _
   | apply cho_bind
   | apply cho_ite
   | intro _
   | split
   | dsimp only
theorem cho_conv (s : FloatKind) (x : Nat) (t : FloatKind) : Cho (Op.Complex.conv s x t) := by
 unfold Op.Complex.conv
 refine cho_ite (cho_pure _) (cho_bind (cho_toFloat _ _ _) fun _ => ?_)
 repeat' first
   | exact cho_pure _
   | exact cho_halt _
   | exact cho_choose _
   | apply cho_bind
   | apply cho_ite
   | intro _
   | split
   | dsimp only
theorem cho_product (a b c d : Nat) : Cho (Op.Complex.product a b c d) := by
 unfold Op.Complex.product Op.Complex.sub Op.Complex.mul Op.Complex.add
 repeat' first
   | exact cho_pure _
   | exact cho_halt _
   | exact cho_choose _
   | exact cho_arith _ _ _ _
   | apply cho_bind
   | apply cho_ite
   | intro _
   | split
   | dsimp only
theorem cho_corrected (s a b c d : Nat) : Cho (Op.Complex.corrected s a b c d) := by
 unfold Op.Complex.corrected Op.Complex.sub Op.Complex.mul Op.Complex.add
 repeat' first
   | exact cho_pure _
   | exact cho_halt _
   | exact cho_choose _
   | exact cho_arith _ _ _ _
   | apply cho_bind
   | apply cho_ite
   | intro _
   | split
   | dsimp only
theorem cho_quotient (a b c d : Nat) : Cho (Op.Complex.quotient a b c d) := by
 unfold Op.Complex.quotient
 refine cho_bind (cho_cmp _ _ _ _) fun g => ?_
 extract_lets j
 have hj : ∀ e, Cho (j e) := by
   intro e
   obtain ⟨e, f⟩ := e
   simp -zeta only [j]
   refine cho_bind (cho_cmp _ _ _ _) fun z1 => cho_bind (cho_cmp _ _ _ _) fun z2 => ?_
   extract_lets z
   refine cho_ite (cho_pure _) (cho_ite ?_ (cho_ite (cho_corrected _ _ _ _ _) (cho_ite (cho_corrected _ _ _ _ _) (cho_pure _))))
   exact cho_bind (cho_arith _ _ _ _) fun _ => cho_bind (cho_arith _ _ _ _) fun _ => cho_pure _
 refine cho_ite ?_ ?_
 all_goals
   refine cho_bind (cho_arith _ _ _ _) fun _ => cho_bind (cho_arith _ _ _ _) fun _ => cho_bind (cho_arith _ _ _ _) fun _ => cho_bind (cho_arith _ _ _ _) fun _ => cho_bind (cho_arith _ _ _ _) fun _ => cho_bind (cho_arith _ _ _ _) fun _ => cho_bind (cho_arith _ _ _ _) fun _ => cho_bind (cho_arith _ _ _ _) fun _ => cho_bind (cho_arith _ _ _ _) fun _ => cho_bind (cho_pure _) fun _ => hj _
theorem cho_complex (op : BinOp) (k : FloatKind) (a b c d : Nat) : Cho (Op.complexOp op k a b c d) := by
 unfold Op.complexOp
 split
 · exact cho_bind (cho_arith _ _ _ _) fun _ => cho_bind (cho_arith _ _ _ _) fun _ => cho_pure _
 · exact cho_bind (cho_arith _ _ _ _) fun _ => cho_bind (cho_arith _ _ _ _) fun _ => cho_pure _
 all_goals first
   | exact cho_halt _
   | exact cho_bind (cho_cmp _ _ _ _) fun _ => cho_bind (cho_cmp _ _ _ _) fun _ => cho_pure _
   | (refine cho_bind (cho_conv _ _ _) fun _ => cho_bind (cho_conv _ _ _) fun _ => cho_bind (cho_conv _ _ _) fun _ => cho_bind (cho_conv _ _ _) fun _ => ?_
      exact cho_ite (cho_bind (cho_product _ _ _ _) fun _ => cho_bind (cho_conv _ _ _) fun _ => cho_bind (cho_conv _ _ _) fun _ => cho_pure _) (cho_bind (cho_quotient _ _ _ _) fun _ => cho_bind (cho_conv _ _ _) fun _ => cho_bind (cho_conv _ _ _) fun _ => cho_pure _))
def isEq : BinOp → Bool
 | .eql | .neq => true
 | _ => false
theorem d_eqGuard (op : BinOp) (t : TypeId) (x y : Operand) (a b : Value) (h : isEq op = true → eqOk T t = true) : D T F F' LO X (eqGuard op t x y a b) := by
 unfold eqGuard
 have key : isEq op = true → D T F F' LO X (match a, b with
   | .nilIface, .nilIface => do
     if (x matches .const _) || (y matches .const _) then return
     if ← Op.eqGuardIn Op.maxDepth t a b then unsupported (.noEntry "binop/eql: two nil values of an interface type with methods, neither of them the literal nil")
   | .agg _, .agg _ => do
     if !(← program).eqGuardType (← program).depth t then return
     if ← Op.eqGuardIn Op.maxDepth t a b then unsupported (.noEntry "binop/eql: two nil values of an interface type with methods, in a part of a struct or an array")
   | _, _ => pure ()) := by
   intro ho
   have hg := h ho
   simp only [eqOk, Bool.and_eq_true, Bool.not_eq_true'] at hg
   split
   · refine d_ite (d_pure _) (d_bind ?_ fun _ => d_ite (d_halt _) (d_pure _))
     unfold Op.maxDepth Op.eqGuardIn
     refine d_bind (d_underlying _) fun u => ?_
     split <;> first | exact d_pure _ | contradiction
   · refine d_prog ?_
     refine tr_prog ?_
     have e : (PP T F').depth = (PP T F).depth := rfl
     have e1 : (PP T #[]).depth = (PP T F).depth := rfl
     rw [e, eqGuardType_tables T F F', eqGuardType_tables T #[] F, ← e1, hg.2]
     exact tr_pure _ trivial
   · exact d_pure _
 cases op <;> first | exact d_pure _ | exact key rfl
theorem d_binOp (op : BinOp) (t : TypeId) (x y : Value) (h : isEq op = true → eqOk T t = true) : D T F F' LO X (binOp op t x y) := by
 unfold binOp
 split
 all_goals first
   | exact d_shift _ _ _ _ _
   | exact d_stringOp _ _ _
   | exact d_bind (d_equal _ _ _ (h rfl)) fun _ => d_pure _
   | (exact d_bind (d_underlying _) fun u => d_ite (d_movedPointer _ _ _) (d_movedNumber _ _ _))
   | exact d_movedNumber _ _ _
   | exact d_bind (d_behind _) fun _ => d_bind (d_behind _) fun _ => d_addrSub _ _ _
   | exact d_bind (d_behind _) fun _ => d_bind (d_behind _) fun _ => d_addrCmp _ _ _
   | exact d_bind (d_behind _) fun _ => d_addrMod _ _ _
   | exact d_halt _
   | (refine d_ite (d_halt _) ?_
      split <;> first | exact d_intArith _ _ _ _ | exact d_intDiv _ _ _ _ | exact d_intBits _ _ _ _ | exact d_intCmp _ _ _)
   | (refine d_ite (d_halt _) ?_
      split <;> first | exact (cho_floatArith _ _ _ _).d _ _ _ _ _ | exact (cho_floatCmp _ _ _ _).d _ _ _ _ _)
   | exact d_ite (d_halt _) ((cho_complex _ _ _ _ _ _).d _ _ _ _ _)
end
end Go.Proofs.YtcpnkpogebjieaaGreat.Co
