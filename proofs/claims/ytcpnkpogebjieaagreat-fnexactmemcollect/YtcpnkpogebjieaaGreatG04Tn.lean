/- Calls, and every operation that the cut lets by, in two worlds at once. -/
import Derived.Test.YtcpnkpogebjieaaGreatG03Th
import Derived.Conc.Listed
namespace Go.Proofs.YtcpnkpogebjieaaGreat.Co
open Go.Conc
structure CutF (fn : Func) : Prop where
 body : fn.body = none
 name : (fn.name == "runtime.NumGoroutine") = false
 next : Extern.findNext fn = none
 row : Extern.find fn = none
 init : (fn.name.endsWith ".init" && !fn.name.startsWith "(" && !fn.name.startsWith "gosem.") = false
structure CutOf (F F' : Array Func) (S : FuncId → Bool) : Prop where
 same : ∀ f, S f = true → F'[f]? = F[f]?
 has : ∀ f fn, S f = true → F[f]? = some fn → fn.body.isSome = true ∧ (fn.name == "runtime.NumGoroutine") = false
 cut : ∀ f fn, S f = false → F'[f]? = some fn → CutF fn
def NOk (LO : Loop → Prop) (X : Nat → Bool) (S : FuncId → Bool) : Next → Prop
 | .value _ | .skip => True
 | .enter f _ => S f = true
 | .round l f _ a b => X l = false ∧ ∃ r : Loop, LO r ∧ f = r.fn ∧ a = r.assign ∧ b = r.body
 | _ => False
section
variable {T : Tables} {F F' : Array Func} {LO : Loop → Prop} {X : Nat → Bool} {S : FuncId → Bool} {α β : Type}
structure DN (T : Tables) (F F' : Array Func) (LO : Loop → Prop) (X : Nat → Bool) (S : FuncId → Bool) (s : Sem Next) : Prop where
 tr : Tr (PP T F) (PP T F') LO X (NOk LO X S) s s
theorem dn_bind {s : Sem α} {f : α → Sem Next} (hs : D T F F' LO X s) (hf : ∀ a, DN T F F' LO X S (f a)) : DN T F F' LO X S (s >>= f) := ⟨tr_bind hs.tr fun a _ => (hf a).tr⟩
theorem dn_halt (h : Halt) (hh : HOk h := by exact True.intro) : DN T F F' LO X S (.halt h) := ⟨tr_halt h _ hh⟩
theorem dn_value {s : Sem Value} (h : D T F F' LO X s) : DN T F F' LO X S (s >>= fun v => pure (.value v)) := ⟨tr_bind h.tr fun _ _ => tr_pure _ trivial⟩
theorem dn_skip {s : Sem Unit} (h : D T F F' LO X s) : DN T F F' LO X S (s >>= fun _ => pure .skip) := ⟨tr_bind h.tr fun _ _ => tr_pure _ trivial⟩
theorem dn_ok (n : Next) (h : NOk LO X S n) : DN T F F' LO X S (pure n) := ⟨tr_pure n h⟩
theorem dn_panic (e : RuntimeError) : DN T F F' LO X S (runtimePanic e) := ⟨tr_never (never_panic e) _⟩
theorem dn_callFunc (hC : CutOf F F' S) (f : FuncId) (args : Array Value) : DN T F F' LO X S (callFunc f args) := by
 refine ⟨tr_prog ?_⟩
 cases hS : S f with
 | true =>
   have e : (PP T F').funcs[f]? = F[f]? := hC.same f hS
   have e' : (PP T F).funcs[f]? = F[f]? := rfl
   rw [e, e']
   cases hf : F[f]? with
   | none => exact tr_halt _ _
   | some fn =>
     obtain ⟨h1, h2⟩ := hC.has f fn hS hf
     have h3 : fn.body.isNone = false := by cases hb : fn.body <;> simp_all
     simp only [h2, h3, Bool.false_eq_true, if_false]
     exact tr_pure _ hS
 | false =>
   refine tr_never ?_ _
   have e : (PP T F').funcs[f]? = F'[f]? := rfl
   rw [e]
   cases hf : F'[f]? with
   | none => exact never_halt _
   | some fn =>
     obtain ⟨h1, h2, h3, h4, h5⟩ := hC.cut f fn hS hf
     simp only [h1, h2, h3, h4, h5, Option.isNone_none, Bool.false_eq_true, if_false, if_true]
     exact never_bind (saf_mark _) fun _ => never_halt _
theorem d_wrapNil (t : TypeId) (p : Value) (n : String) : D T F F' LO X (Builtin.ssaWrapNilChk_ #[t] t #[p, strVal "", strVal n]) := by
 unfold Builtin.ssaWrapNilChk_
 cases p with
 | pointer a =>
   cases a with
   | some a => exact d_pure _
   | none =>
     refine d_never ?_
     refine never_bind (saf_choose _) fun c => ?_
     refine never_ite (never_left (never_panic _)) ?_
     refine never_bind (saf_underlying _) fun u => ?_
     split
     · refine never_bind (saf_typeInfo _) fun i => ?_
       split
       · split
         · dsimp only
           split
           · exact never_panic _
           · exact never_halt _
         · exact never_halt _
       · exact never_halt _
     · exact never_halt _
 | _ => exact d_halt _
theorem d_place (t : TypeId) (x : Place) : D T F F' LO X (x.get t) := by
 cases x with
 | val v => exact d_pure _
 | var a => exact d_loadVar _ _
theorem d_follow (l : List FieldStep) : ∀ (t : TypeId) (x : Place), D T F F' LO X (follow l t x) := by
 induction l with
 | nil => intro t x; exact d_pure _
 | cons s l ih =>
   intro t x
   unfold follow
   refine d_bind (d_underlying _) fun u => ?_
   split
   · split
     · refine d_ite (d_bind (d_place _ _) fun v => d_bind (d_asAddr _) fun a => d_bind (d_fieldPlace _ _) fun p => ih _ _) ?_
       split
       · exact d_bind (d_fieldPlace _ _) fun p => ih _ _
       · exact d_bind (d_part _ _ _) fun p => ih _ _
       · exact d_halt _
     · exact d_halt _
   · exact d_halt _
theorem d_receiverAt (t : TypeId) (x : Place) (b : Bool) (w : Option String) : D T F F' LO X (receiverAt t x b w) := by
 unfold receiverAt
 refine d_bind (d_underlying _) fun u => ?_
 split
 · exact d_place _ _
 · refine d_bind (d_place _ _) fun p => ?_
   dsimp only
   split
   · exact d_bind (d_wrapNil _ _ _) fun p => d_bind (d_asAddr _) fun a => d_loadVar _ _
   · exact d_bind (d_pure _) fun p => d_bind (d_asAddr _) fun a => d_loadVar _ _
 · exact d_pure _
 · exact d_halt _
 · exact d_place _ _
theorem d_method (n : Nat) : ∀ (t : TypeId) (v : Value) (s : String), D T F F' LO X (method n t v s) := by
 induction n with
 | zero => intro t v s; exact d_halt _
 | succ n ih =>
   intro t v s
   unfold method
   refine d_bind (d_typeInfo _) fun i => ?_
   split
   · refine d_bind (d_follow _ _ _) fun p => ?_
     obtain ⟨xt, x⟩ := p
     dsimp only
     split
     · refine d_bind (d_place _ _) fun v => ?_
       split
       · exact ih _ _ _
       · exact d_panic _
       · exact d_halt _
     · exact d_bind (d_receiverAt _ _ _ _) fun r => d_pure _
   · exact d_halt _
theorem d_receiverVia (t : TypeId) (v : Value) (p : Array FieldStep) (b : Bool) : D T F F' LO X (receiverVia t v p b) := by
 unfold receiverVia
 refine d_bind (d_follow _ _ _) fun p => ?_
 obtain ⟨xt, x⟩ := p
 exact d_receiverAt _ _ _ _
theorem d_followBlind (l : List FieldStep) : ∀ (t : TypeId) (x : Option Value), D T F F' LO X (followBlind l t x) := by
 induction l with
 | nil => intro t x; exact d_pure _
 | cons s l ih =>
   intro t x
   unfold followBlind
   refine d_bind (d_underlying _) fun u => ?_
   split
   · split
     · split
       all_goals first
         | exact d_pure _
         | exact d_halt _
         | exact ih _ _
         | exact d_bind (d_part _ _ _) fun p => ih _ _
     · exact d_halt _
   · exact d_halt _
theorem d_nilAhead (n : Nat) : ∀ (t : TypeId) (v : Value) (s : String), D T F F' LO X (nilAhead n t v s) := by
 induction n with
 | zero => intro t v s; exact d_pure _
 | succ n ih =>
   intro t v s
   unfold nilAhead
   refine d_bind (d_typeInfo _) fun i => ?_
   split
   · refine d_bind (d_followBlind _ _ _) fun p => ?_
     split
     · exact d_pure _
     · split
       all_goals first
         | exact d_pure _
         | exact d_halt _
         | exact ih _ _ _
         | (refine d_bind (d_underlying _) fun u => ?_
            split <;> exact d_pure _)
   · exact d_halt _
theorem dn_callMethod (hC : CutOf F F' S) (v : Value) (s : String) (args : Array Value) : DN T F F' LO X S (callMethod v s args) := by
 unfold callMethod
 split
 · refine ⟨tr_prog ?_⟩
   have e : (PP T F').types.size = (PP T F).types.size := rfl
   rw [e]
   refine DN.tr (dn_bind (d_method _ _ _ _) fun p => ?_)
   obtain ⟨f, r⟩ := p
   exact dn_callFunc hC _ _
 · exact dn_panic _
 · exact dn_halt _
theorem dn_yield (l : Nat) (args : Array Value) : DN T F F' LO X S (Instr.yield l args) := by
 unfold Instr.yield Instr.getLoop
 rw [sem_assoc]
 refine ⟨tr_getObjG l (fun o hX ho => ?_) (fun _ o' o hp => ?_)⟩
 · cases o with
   | loop r =>
     refine tr_bind (tr_pure (Q := fun x => x = r) r rfl) fun r' hr => ?_
     subst hr
     have hl : LO r' := by
       rcases ho with h | ⟨a, t, h⟩
       · exact h
       · cases h
     dsimp only
     split
     · exact tr_bind (Q := fun _ => True) (tr_halt _ _) fun _ _ => tr_pure _ ⟨hX, r', hl, rfl, rfl, rfl⟩
     · exact tr_pure _ ⟨hX, r', hl, rfl, rfl, rfl⟩
   | _ => exact tr_never (never_left (never_halt _)) _
 · rcases hp with ⟨a, a', t, rfl, rfl⟩ | ⟨r, rfl, rfl⟩ | ⟨c, rfl, rfl⟩ | ⟨c, e, rfl, rfl⟩ <;> exact tr_never (never_left (never_halt _)) _
theorem dn_invoke (hC : CutOf F F' S) (fn : Fn) (c : Array Value) (args : Array Value) : DN T F F' LO X S (invoke (.fn fn c) args) := by
 cases fn with
 | func f => exact dn_callFunc hC _ _
 | method n =>
   unfold invoke
   dsimp only
   split
   · exact dn_callMethod hC _ _ _
   · exact dn_halt _
 | methodOf t n =>
   unfold invoke
   dsimp only
   split
   · refine dn_bind (d_underlying _) fun u => ?_
     split <;> exact dn_callMethod hC _ _ _
   · exact dn_halt _
 | via t p f b =>
   unfold invoke
   dsimp only
   split
   · exact dn_bind (d_receiverVia _ _ _ _) fun r => dn_callFunc hC _ _
   · exact dn_halt _
 | yield l => exact dn_yield l args
theorem dn_callValue (hC : CutOf F F' S) (v : Value) (args : Array Value) : DN T F F' LO X S (Deferred.ofValue v args >>= fun d => invoke d.target d.args) := by
 cases v with
 | func fn first c => exact dn_invoke hC fn c (first ++ args)
 | nilFunc => exact ⟨tr_never (never_panic (α := Next) .nilDeref) _⟩
 | _ => exact dn_halt _
def intT (T : Tables) (t : TypeId) : Bool := match (PP T #[]).underlying t with
 | some (.int _) => true
 | _ => false
def stringT (T : Tables) (t : TypeId) : Bool := match (PP T #[]).underlying t with
 | some .string => true
 | _ => false
def bytesT (T : Tables) (t : TypeId) : Bool := match (PP T #[]).underlying t with
 | some (.slice e) => (match (PP T #[]).underlying e with | some (.int .u8) => true | _ => false)
 | _ => false
theorem cho_floatToInt (k : FloatKind) (b : Nat) (d : IntKind) : Cho (Conv.floatToInt k b d) := by
 unfold Conv.floatToInt
 repeat' first
   | exact cho_pure _
   | exact cho_halt _
   | exact cho_choose _
   | apply cho_bind
   | apply cho_ite
   | intro _
   | split
   | dsimp only
theorem d_convInt (s t : TypeId) (x : Value) (hs : intT T s = true) (ht : intT T t = true) : D T F F' LO X (convert s t x) := by
 unfold convert
 refine ⟨tr_bind (t_underlying s) fun u hu => tr_bind (t_underlying t) fun v hv => D.tr ?_⟩
 have hu' : (PP T #[]).underlying s = some u := hu
 have hv' : (PP T #[]).underlying t = some v := hv
 simp only [intT, hu'] at hs
 simp only [intT, hv'] at ht
 cases u <;> simp only at hs <;> try (cases hs; done)
 cases v <;> simp only at ht <;> try (cases ht; done)
 cases x <;> first
   | exact d_pure _
   | exact d_halt _
   | exact (cho_floatToInt _ _ _).d _ _ _ _ _
   | (rename_i p; cases p <;> exact d_halt _)
theorem d_convString (s t : TypeId) (x : Value) (hs : bytesT T s = true) (ht : stringT T t = true) : D T F F' LO X (convert s t x) := by
 unfold convert
 refine ⟨tr_bind (t_underlying s) fun u hu => tr_bind (t_underlying t) fun v hv => ?_⟩
 have hu' : (PP T #[]).underlying s = some u := hu
 have hv' : (PP T #[]).underlying t = some v := hv
 simp only [bytesT, hu'] at hs
 simp only [stringT, hv'] at ht
 cases u <;> simp only at hs <;> try (cases hs; done)
 cases v <;> simp only at ht <;> try (cases ht; done)
 rename_i e
 have key : Tr (PP T F) (PP T F') LO X (fun _ => True) (do
     match ← underlying e with
     | .int .u8 => Conv.bytesToString x
     | .int .i32 => Conv.runesToString x
     | _ => stuck "Convert: a slice of what to string?") (do
     match ← underlying e with
     | .int .u8 => Conv.bytesToString x
     | .int .i32 => Conv.runesToString x
     | _ => stuck "Convert: a slice of what to string?") := by
   refine tr_bind (t_underlying e) fun c hc => ?_
   have hc' : (PP T #[]).underlying e = some c := hc
   rw [hc'] at hs
   cases c with
   | int k => cases k <;> first | (cases hs; done) | exact (d_string x).tr
   | _ => cases hs
 cases x <;> first
   | exact key
   | exact tr_pure _ trivial
   | exact (cho_pure _).d _ _ _ _ _ |>.tr
theorem d_convert (s t : TypeId) (x : Value) (h : (intT T s && intT T t || bytesT T s && stringT T t) = true) : D T F F' LO X (convert s t x) := by
 rcases Bool.or_eq_true _ _ ▸ h with h | h <;> rw [Bool.and_eq_true] at h
 · exact d_convInt s t x h.1 h.2
 · exact d_convString s t x h.1 h.2
def okBuiltin : Builtin → Bool
 | .len | .append | .copy | .clear => true
 | _ => false
def okOp (T : Tables) : Op → Bool
 | .move _ | .assign _ | .pick _ _ _ | .alloc _ | .box _ _ | .build _ _ | .buildSlice _ _ _ | .load _ _ | .store _ _ _ | .unOp _ _ _ | .makeInterface _ _ | .makeFunc _ _ _
 | .makeSlice _ _ _ | .slice _ _ _ _ _ | .fieldAddr _ _ _ | .field _ _ _ | .indexAddr _ _ _ | .index _ _ _ | .range _ _ | .next _ true | .typeAssert _ _ _ _ | .extract _ _ | .panic _ | .nilCheck _ => true
 | .binOp op t _ _ _ => !isEq op || eqOk T t
 | .convert s t _ => intT T s && intT T t || bytesT T s && stringT T t
 | .call c => match c.callee with
   | .value _ | .invoke _ _ => true
   | .builtin b => okBuiltin b
 | _ => false
theorem never_instrPanic (x : Value) : Never (Instr.panic x) := by
 unfold Instr.panic
 split
 · exact never_halt _
 · refine never_bind ?_ fun _ => never_ite (never_halt _) (never_panic _)
   unfold Instr.panicnil
   refine saf_bind (saf_sys _) fun r => ?_
   split
   · exact saf_bind saf_program fun _ => saf_pure _
   · exact saf_halt _
 · exact never_halt _
theorem dn_execOp (hC : CutOf F F' S) (ρ : Operand → Value) (o : Oper) (h : okOp T o.op = true) : DN T F F' LO X S (execOp ρ o) := by
 unfold execOp
 cases ho : o.op <;> rw [ho] at h <;> simp only [okOp] at h <;> dsimp only
 case move => exact dn_ok _ trivial
 case assign => exact dn_ok _ trivial
 case pick => exact dn_bind (d_asBool _) fun _ => dn_ok _ trivial
 case alloc => exact dn_value (d_alloc _ _ _)
 case box => exact dn_value (d_box _ _)
 case build => exact dn_value (d_build _ _)
 case buildSlice => exact dn_value (d_buildSlice _ _ _)
 case load => exact dn_value (d_loadAt _ _)
 case store => exact dn_skip (d_storeAt _ _ _)
 case unOp => exact dn_value (d_unary _ _)
 case makeInterface => exact dn_value (d_makeInterface _ _)
 case makeFunc => exact dn_value (d_pure _)
 case makeSlice => exact dn_value (d_makeSlice _ _ _)
 case slice => exact dn_value (d_sliceAt _ _ _ _ _)
 case fieldAddr => exact dn_value (d_fieldAt _ _ _)
 case field => exact dn_value (d_field _ _ _)
 case indexAddr => exact dn_value (d_indexAt _ _ _)
 case index => exact dn_value (d_index _ _ _)
 case range => exact dn_value (d_range _ _)
 case next it b =>
   cases b with
   | false => cases h
   | true => exact dn_value (d_next _ _)
 case typeAssert => exact dn_value (d_typeAssert _ _ _ _)
 case extract => exact dn_value (d_extract _ _)
 case convert => exact dn_value (d_convert _ _ _ h)
 case panic x => exact dn_value (d_never (never_instrPanic _))
 case nilCheck x =>
   generalize ρ x = v
   cases v with
   | func fn first c =>
     cases fn with
     | method n =>
       dsimp only
       split
       · exact dn_panic _
       · refine ⟨tr_prog ?_⟩
         have e : (PP T F').types.size = (PP T F).types.size := rfl
         rw [e]
         refine DN.tr (dn_bind (d_nilAhead _ _ _ _) fun r => ?_)
         split
         · exact dn_bind (d_halt _) fun _ => dn_ok _ trivial
         · exact dn_ok _ trivial
       · exact dn_ok _ trivial
     | _ => exact dn_ok _ trivial
   | pointer p => cases p <;> first | exact dn_panic _ | exact dn_ok _ trivial
   | nilIface => exact dn_panic _
   | nilFunc => exact dn_panic _
   | _ => exact dn_ok _ trivial
 case binOp op t x y u =>
   have he : isEq op = true → eqOk T t = true := by
     intro hi
     rw [hi] at h
     simpa using h
   refine dn_value (d_bind (d_eqGuard _ _ _ _ _ _ he) fun _ => d_binOp _ _ _ _ he)
 case call c =>
   unfold resolve
   cases hc : c.callee <;> rw [hc] at h <;> simp only at h <;> dsimp only
   case value f => exact dn_callValue hC _ _
   case invoke r n => exact dn_invoke hC (.method n) #[] _
   case builtin b =>
     cases b <;> simp only [okBuiltin] at h <;> first
       | (cases h; done)
       | exact dn_value (d_len _ _ _)
       | exact dn_value (d_append _ _ _)
       | exact dn_value (d_copy _ _ _)
       | exact dn_value (d_clear _ _ _)
 all_goals (cases h)
end
def okCode (T : Tables) : Code → Bool
 | .region _ ops _ => ops.all fun o => okOp T o.op
 | .seq a b | .cond _ a b | .rangeFunc _ _ a b => okCode T a && okCode T b
 | .block _ c | .loop c | .scope c => okCode T c
 | _ => true
def okItem (T : Tables) (X : Nat → Bool) : Item → Prop
 | .code c | .inLoop c | .inScope c => okCode T c = true
 | .inBlock _ | .beginRound => True
 | .inRegion ops _ => (ops.all fun o => okOp T o.op) = true
 | .inRangeFunc l | .endRangeFunc l => X l = false
 | .call _ _ _ _ | .extern _ _ => False
def LOk (T : Tables) (S : FuncId → Bool) (l : Loop) : Prop := S l.fn = true ∧ okCode T l.assign = true ∧ okCode T l.body = true ∧ ∀ c, l.pending = some c → okCode T c = true
def Coll (X : Nat → Bool) (d : Deferred) : Prop := ∃ r, d.target = .collected r ∧ X r = false
structure FOk (T : Tables) (S : FuncId → Bool) (X : Nat → Bool) (fr : Frame) : Prop where
 fn : S fr.fn = true
 todo : ∀ i ∈ fr.todo, okItem T X i
 defers : ∀ d ∈ fr.defers, Coll X d
 kind : fr.kind = .normal
 round : ∀ l, fr.roundOf = some l → X l = false
def MOk (T : Tables) (S : FuncId → Bool) (X : Nat → Bool) (mid : List Frame) : Prop := ∀ c ∈ mid, FOk T S X c ∧ c.mode = .run
def c0 : Frame := { fn := 0, tmps := #[], todo := [.code (.refuse "")], defers := [{ target := .nil, args := #[] }], mode := .run, kind := .normal }
section
variable {T : Tables} {S : FuncId → Bool} {X : Nat → Bool}
theorem exitTo_mem {id : Nat} : ∀ {k k' : List Item}, exitTo id k = some k' → ∀ i ∈ k', i ∈ k
 | [], k', h => by simp [exitTo] at h
 | x :: k, k', h => by
   intro i hi
   unfold exitTo at h
   split at h
   · rename_i h0
     cases h0
     split at h
     · cases h; exact List.mem_cons_of_mem _ hi
     · exact List.mem_cons_of_mem _ (exitTo_mem h i hi)
   · rename_i h0
     cases h0
     exact List.mem_cons_of_mem _ (exitTo_mem h i hi)
   · rename_i h0; cases h0
theorem findLabel_ok {l : Nat} : ∀ {c c' : Code}, okCode T c = true → findLabel c l = some c' → okCode T c' = true
 | .seq a b, c', hc, h => by
   simp only [okCode, Bool.and_eq_true] at hc
   simp only [findLabel] at h
   split at h
   · rename_i r hr
     cases h
     simp only [okCode, Bool.and_eq_true]
     exact ⟨findLabel_ok hc.1 hr, hc.2⟩
   · exact findLabel_ok hc.2 h
 | .label l', c', _, h => by
   simp only [findLabel] at h
   split at h
   · cases h; rfl
   · cases h
 | .skip, _, _, h | .region _ _ _, _, _, h | .cond _ _ _, _, _, h | .block _ _, _, _, h | .loop _, _, _, h | .rangeFunc _ _ _ _, _, _, h | .exit _, _, _, h | .goto _, _, _, h | .ret, _, _, h | .refuse _, _, _, h | .scope _, _, _, h => by simp [findLabel] at h
theorem gotoIn_ok {l : Nat} : ∀ {k k' : List Item}, (∀ i ∈ k, okItem T X i) → gotoIn l k = some k' → ∀ i ∈ k', okItem T X i
 | [], k', _, h => by simp [gotoIn] at h
 | x :: k, k', hk, h => by
   unfold gotoIn at h
   split at h
   · rename_i h0
     cases h0
     split at h
     · rename_i rest hr
       cases h
       have hb : okCode T _ = true := hk _ (List.mem_cons_self ..)
       intro i hi
       rcases List.mem_cons.1 hi with rfl | hi
       · exact findLabel_ok hb hr
       · exact hk i hi
     · exact gotoIn_ok (fun i hi => hk i (List.mem_cons_of_mem _ hi)) h
   · rename_i h0
     cases h0
     exact gotoIn_ok (fun i hi => hk i (List.mem_cons_of_mem _ hi)) h
   · rename_i h0; cases h0
theorem FOk.to {fr : Frame} (h : FOk T S X fr) {k : List Item} (hk : ∀ i ∈ k, okItem T X i) : FOk T S X { fr with todo := k } := ⟨h.fn, hk, h.defers, h.kind, h.round⟩
theorem FOk.finish {fr : Frame} (h : FOk T S X fr) (v : Value) : FOk T S X (fr.finish v) ∧ (fr.finish v).mode = fr.mode := by
 have ht := h.todo
 unfold Frame.finish
 split
 · rename_i ops i rest k hk
   rw [hk] at ht
   exact ⟨⟨h.fn, fun j hj => by
     rcases List.mem_cons.1 hj with rfl | hj
     · exact ht (.inRegion ops (i :: rest)) (List.mem_cons_self ..)
     · exact ht j (List.mem_cons_of_mem _ hj), h.defers, h.kind, h.round⟩, rfl⟩
 · rename_i l k hk
   rw [hk] at ht
   exact ⟨⟨h.fn, fun j hj => by
     rcases List.mem_cons.1 hj with rfl | hj
     · exact ht (.inRangeFunc l) (List.mem_cons_self ..)
     · exact ht j (List.mem_cons_of_mem _ hj), h.defers, h.kind, h.round⟩, rfl⟩
 · rename_i k hk
   rw [hk] at ht
   exact ⟨⟨h.fn, fun j hj => ht j (List.mem_cons_of_mem _ hj), h.defers, h.kind, h.round⟩, rfl⟩
 · rename_i hk
   rw [hk] at ht
   exact (ht _ (List.mem_cons_self ..)).elim
 · rename_i hk
   rw [hk] at ht
   exact (ht _ (List.mem_cons_self ..)).elim
 · exact ⟨h, rfl⟩
def Doom (T : Tables) (S : FuncId → Bool) (X : Nat → Bool) (g : Goroutine) : Prop :=
 (∃ fr mid chain, g = G fr (mid ++ [c0]) ∧ fr.mode = .panicking chain ∧ (∀ d ∈ fr.defers, Coll X d) ∧ MOk T S X mid) ∨ (∃ chain, g = G (c0.raise chain) []) ∨ ∃ v, g = G (c0.finish v) []
theorem doom_raise {fr : Frame} {mid : List Frame} (h : ∀ d ∈ fr.defers, Coll X d) (hm : MOk T S X mid) (vs : List PanicEntry) : Doom T S X (G (fr.raise vs) (mid ++ [c0])) := by
 unfold Frame.raise
 split
 · exact .inl ⟨_, mid, _, rfl, rfl, h, hm⟩
 · exact .inl ⟨_, mid, _, rfl, rfl, h, hm⟩
theorem doom_step {P' : Program} {g g1 : Goroutine} {w w1 : World} {es : Array Event} (hW : WOk (LOk T S) w) (hg : Doom T S X g) (hs : stepG P' true g w = .go g1 w1 es) : Doom T S X g1 ∧ WOk (LOk T S) w1 := by
 rcases hg with ⟨fr, mid, chain, rfl, hm, hd, hmid⟩ | ⟨chain, rfl⟩ | ⟨v, rfl⟩
 · have e : stepG P' true (G fr (mid ++ [c0])) w = unwind P' true fr (mid ++ [c0]) none w := by simp [stepG, G, hm]
   rw [e] at hs
   unfold unwind at hs
   split at hs
   · rename_i block args ds hds
     rw [hds] at hd
     rw [Sem.runT_eq] at hs
     simp only at hs
     have hrun : ∀ calls w2, (Instr.takeDeferred block).run P' w = .ok calls w2 → calls = [] ∧ WOk (LOk T S) w2 := by
       intro calls w2 hr
       unfold Instr.takeDeferred at hr
       cases hb : w.heap[block]? with
       | none => simp [getObj, Sem.run, hb, Result.andThen] at hr
       | some o =>
         cases o with
         | deferred c =>
           cases c with
           | none => simp [getObj, Sem.run, hb, Result.andThen, stuck] at hr
           | some ds =>
             simp [getObj, setObj, Sem.run, hb, Result.andThen] at hr
             obtain ⟨rfl, rfl⟩ := hr
             exact ⟨hW _ _ hb, hW.put trivial⟩
         | _ => simp [getObj, Sem.run, hb, Result.andThen, stuck] at hr
     cases hr : (Instr.takeDeferred block).run P' w with
     | halt h w2 => rw [hr] at hs; simp [GStep.after] at hs
     | ok calls w2 =>
       rw [hr] at hs
       obtain ⟨rfl, hw2⟩ := hrun calls w2 hr
       simp only [GStep.after, GStep.go.injEq] at hs
       obtain ⟨rfl, rfl, _⟩ := hs
       exact ⟨.inl ⟨_, mid, chain, rfl, hm, fun d hd' => hd d (List.mem_cons_of_mem _ (by simpa using hd')), hmid⟩, hw2⟩
   · rename_i d ds hn hds
     obtain ⟨r, hr, _⟩ := hd d (by rw [hds]; exact List.mem_cons_self ..)
     exact absurd hr (by
       intro h
       exact hn r d.args (by cases d; simp_all))
   · rw [hm] at hs
     simp only at hs
     split at hs
     · cases hs
     · cases mid with
       | nil =>
         simp only [List.nil_append, GStep.go.injEq] at hs
         obtain ⟨rfl, rfl, _⟩ := hs
         exact ⟨.inr (.inl ⟨chain, rfl⟩), hW⟩
       | cons c mid =>
         simp only [List.cons_append, GStep.go.injEq] at hs
         obtain ⟨rfl, rfl, _⟩ := hs
         have hc := hmid c (List.mem_cons_self ..)
         exact ⟨doom_raise hc.1.defers (fun x hx => hmid x (List.mem_cons_of_mem _ hx)) chain, hW⟩
 · exfalso
   have : stepG P' true (G (c0.raise chain) []) w = .ended (.unsupported (.noEntry "machine/Return: a deferred call of a nil function value, made while the frame is unwinding") (({ c0.raise chain with defers := [] } : Frame).pos P')) w := by
     simp [stepG, G, c0, Frame.raise, unwind, callDeferred]
   rw [this] at hs
   cases hs
 · exfalso
   have : ∃ o, stepG P' true (G (c0.finish v) []) w = .ended o w := by
     simp [stepG, G, c0, Frame.finish, stepG.exec]
   obtain ⟨o, ho⟩ := this
   rw [ho] at hs
   cases hs
end
section
variable {T : Tables} {F F' : Array Func} {S : FuncId → Bool} {X : Nat → Bool}
theorem t_getLoop (l : Nat) (_hX : X l = false) : Tr (PP T F) (PP T F') (LOk T S) X (fun r => LOk T S r) (Instr.getLoop l) (Instr.getLoop l) := by
 unfold Instr.getLoop
 refine tr_getObj l (fun o _ ho => ?_) (fun a t s => tr_halt _ _) (fun s => tr_halt _ _)
 cases o with
 | loop r => exact tr_pure r ho
 | _ => exact tr_halt _ _
theorem t_enterLoop (fn : FuncId) (tmps : Array Value) (params : Array Tmp) (a b : Code) (around : Option Nat) (hS : S fn = true) (ha : okCode T a = true) (hb : okCode T b = true) (hr : ∀ l, around = some l → X l = false) :
   Tr (PP T F) (PP T F') (LOk T S) X (fun r => X r.1 = false ∧ ∀ d ∈ r.2, Coll X d) (Instr.enterLoop fn tmps params a b around) (Instr.enterLoop fn tmps params a b around) := by
 unfold Instr.enterLoop
 cases around with
 | some l =>
   refine tr_bind (t_getLoop l (hr l rfl)) fun r _ => ?_
   refine tr_bind (tr_pure (Q := fun x : Nat × List Deferred => x.2 = []) _ rfl) fun x hx => ?_
   obtain ⟨d, m⟩ := x
   dsimp only at hx
   subst hx
   refine tr_bind (tr_new (Q := fun r => X r = false) (show LOk T S _ from ⟨hS, ha, hb, fun c hc => by cases hc⟩) fun _ h => h) fun r hr => tr_pure _ ⟨hr, fun d hd => by cases hd⟩
 | none =>
   refine tr_bind (tr_new (Q := fun r => X r = false) (show ([] : List Deferred) = [] from rfl) fun _ h => h) fun r0 hr0 => ?_
   refine tr_bind (tr_pure (Q := fun x : Nat × List Deferred => ∀ d ∈ x.2, Coll X d) _ (fun d hd => by
     rcases List.mem_cons.1 hd with rfl | hd
     · exact ⟨r0, rfl, hr0⟩
     · cases hd)) fun x hx => ?_
   obtain ⟨d, m⟩ := x
   refine tr_bind (tr_new (Q := fun r => X r = false) (show LOk T S _ from ⟨hS, ha, hb, fun c hc => by cases hc⟩) fun _ h => h) fun r hr => tr_pure _ ⟨hr, hx⟩
theorem d_beginRound (l : Nat) (hX : X l = false) : D T F F' (LOk T S) X (Instr.beginRound l) := by
 unfold Instr.beginRound
 refine ⟨tr_bind (t_getLoop l hX) fun r hr => tr_bind (Q := fun _ => True) (tr_setObj l hX (show LOk T S _ from hr) trivial) fun _ _ => D.tr ?_⟩
 split
 · exact d_pure _
 · exact d_panic _
 · exact d_panic _
 · exact d_panic _
theorem d_endRound (l : Nat) (hX : X l = false) (j : Option Code) (hj : ∀ c, j = some c → okCode T c = true) : D T F F' (LOk T S) X (Instr.endRound l j) := by
 unfold Instr.endRound
 exact ⟨tr_bind (t_getLoop l hX) fun r hr => tr_bind (Q := fun _ => True) (tr_setObj l hX (show LOk T S _ from ⟨hr.1, hr.2.1, hr.2.2.1, hj⟩) trivial) fun _ _ => tr_pure _ trivial⟩
theorem t_endLoop (l : Nat) (hX : X l = false) : Tr (PP T F) (PP T F') (LOk T S) X (fun r => ∀ c, r = some c → okCode T c = true) (Instr.endLoop l) (Instr.endLoop l) := by
 unfold Instr.endLoop
 refine tr_bind (t_getLoop l hX) fun r hr => ?_
 have key : Tr (PP T F) (PP T F') (LOk T S) X (fun r => ∀ c, r = some c → okCode T c = true) (do setObj l (.loop { r with state := .exhausted }); pure r.pending) (do setObj l (.loop { r with state := .exhausted }); pure r.pending) :=
   tr_bind (Q := fun _ => True) (tr_setObj l hX (show LOk T S _ from hr) trivial) fun _ _ => tr_pure _ hr.2.2.2
 dsimp only
 split
 · exact tr_never (never_left (never_panic _)) _
 · exact key
theorem t_takeDeferred (b : Nat) (hX : X b = false) : Tr (PP T F) (PP T F') (LOk T S) X (fun r => r = []) (Instr.takeDeferred b) (Instr.takeDeferred b) := by
 unfold Instr.takeDeferred
 refine tr_getObj b (fun o _ ho => ?_) (fun a t s => tr_halt _ _) (fun s => tr_halt _ _)
 cases o with
 | deferred c =>
   cases c with
   | none => exact tr_halt _ _
   | some ds => exact tr_bind (Q := fun _ => True) (tr_setObj b hX trivial trivial) fun _ _ => tr_pure _ ho
 | _ => exact tr_halt _ _
theorem d_results (fn : Func) (tmps : Array Value) : D T F F' (LOk T S) X (results fn tmps) := by
 unfold results
 refine d_bind (d_mapM _ (fun x => ?_) _) fun _ => d_pure _
 cases x with
 | tmp t => exact d_pure _
 | cell a t => exact d_bind (d_asAddr _) fun _ => d_loadVar _ _
end
section
variable {P : Program} {fr : Frame} {cs : List Frame} {w w1 : World} {g1 : Goroutine} {es : Array Event}
theorem early_mono {g : Nat} (h : early P fr cs none g w = .go g1 w1 es) : w.drawn ≤ w1.drawn := by
 have hn : ∀ w2 : World, w.drawn ≤ w2.drawn → (match w2.heap[g]? with
     | some (.pending c elem) => GStep.go { frame := fr, callers := cs, status := .running, dying := none } { w2 with heap := w2.heap.setIfInBounds g (.cells c elem) }
     | _ => .ended (.stuck "early: the variable does not wait" (fr.pos P)) w2) = .go g1 w1 es → w.drawn ≤ w1.drawn := by
   intro w2 hle h
   split at h
   · cases h; exact hle
   · cases h
 unfold early at h
 dsimp only at h
 split at h
 · exact hn w (Nat.le_refl _) h
 · split at h
   · cases h
   · split at h
     · exact hn w (Nat.le_refl _) h
     · split at h
       · exact hn w (Nat.le_refl _) h
       · split at h
         · cases h
         · cases h; exact Nat.le_refl _
         · cases h
         · exact hn w (Nat.le_refl _) h
         · split at h
           · cases h; exact Nat.le_refl _
           · split at h
             · exact hn w (Nat.le_refl _) h
             · have hm := (run_mono P (choose (.early g)) w).1
               split at h
               · rename_i hr; rw [hr] at hm; exact hn _ hm h
               · rename_i hr; rw [hr] at hm; cases h; exact hm
               · cases h
theorem endFatal_no {m : String} {fr1 : Frame} {cs1 : List Frame} : endFatal P fr cs none m w ≠ .go (G fr1 cs1) w1 es := by
 intro h
 unfold endFatal at h
 dsimp only at h
 split at h
 · unfold dieOf at h
   repeat' split at h
   all_goals first | (cases h; done) | (simp [G] at h; done)
 all_goals first | (cases h; done) | (simp [G] at h; done)
theorem endThrow_no {m : String} {fr1 : Frame} {cs1 : List Frame} : endThrow fr m w ≠ .go (G fr1 cs1) w1 es := by
 intro h
 unfold endThrow dieOf at h
 repeat' split at h
 all_goals first | (cases h; done) | (simp [G] at h; done)
theorem after_go {es0 : Array Event} {s : GStep} (h : GStep.after es0 s = .go g1 w1 es) : ∃ es1, s = .go g1 w1 es1 ∧ es = es0 ++ es1 := by
 cases s <;> simp only [GStep.after, GStep.go.injEq] at h <;> first | (cases h; done) | (obtain ⟨rfl, rfl, rfl⟩ := h; exact ⟨_, rfl, rfl⟩)
theorem apply_mono {s : Sem Next} {fr1 : Frame} {cs1 : List Frame} (h : stepG.apply P true fr cs none s w = .go (G fr1 cs1) w1 es) : (rw (s.run P w)).drawn ≤ w1.drawn := by
 unfold stepG.apply at h
 simp only [if_true, Sem.runT_eq] at h
 cases hr : s.run P w with
 | ok n w2 =>
   rw [hr] at h
   obtain ⟨es1, h, _⟩ := after_go h
   cases n <;> simp only at h <;> (repeat' split at h) <;> first
     | (cases h; done)
     | (simp only [GStep.go.injEq] at h; obtain ⟨_, rfl, _⟩ := h; exact Nat.le_refl _)
 | halt x w2 =>
   rw [hr] at h
   obtain ⟨es1, h, _⟩ := after_go h
   show w2.drawn ≤ w1.drawn
   cases x with
   | unsupported u =>
     cases u <;> simp only at h <;> first
       | exact early_mono h
       | (cases h; done)
   | fatal m => exact absurd h endFatal_no
   | throw m => exact absurd h endThrow_no
   | exit c => cases h
   | stuck s => cases h
   | _ =>
     simp only [GStep.go.injEq] at h
     obtain ⟨_, rfl, _⟩ := h
     exact Nat.le_refl _
end
structure Cut (T : Tables) (F F' : Array Func) (S : FuncId → Bool) : Prop where
 of : CutOf F F' S
 code : ∀ f fn b, S f = true → F[f]? = some fn → fn.body = some b → okCode T b = true
def Sim1 (T : Tables) (S : FuncId → Bool) (X : Nat → Bool) (cs0 : List Frame) (w w' : World) (g1' : Goroutine) (w1' : World) (comp : GStep) : Prop :=
 (∃ fr1 mid1 w1 es, g1' = G fr1 (mid1 ++ [c0]) ∧ comp = .go (G fr1 (mid1 ++ cs0)) w1 es ∧ FOk T S X fr1 ∧ (fr1.mode = .run ∨ fr1.mode = .returning) ∧ MOk T S X mid1 ∧ Em X w1 w1' ∧ Kept X w w1 ∧ WOk (LOk T S) w1' ∧
   Dr w w' w1 w1' ∧ ∀ B, w1.heap.size ≤ B → ∀ e ∈ es, Ev X B e) ∨ Doom T S X g1' ∧ WOk (LOk T S) w1'
def Agree (w w' : World) (comp : GStep) : Prop := ∀ k, (∀ fr1 cs1 w1 es, comp = .go (G fr1 cs1) w1 es → w.drawn + k < w1.drawn) → w'.tape (w'.drawn + k) = w.tape (w.drawn + k)
section
variable {T : Tables} {F F' : Array Func} {S : FuncId → Bool} {X : Nat → Bool} {cs0 : List Frame}
theorem enter_ok (hC : Cut T F F' S) {f : FuncId} {args : Array Value} (hS : S f = true) : FOk T S X (Frame.enter (PP T F) f args .normal) ∧ Frame.enter (PP T F') f args .normal = Frame.enter (PP T F) f args .normal := by
 have e : (PP T F').funcs[f]? = (PP T F).funcs[f]? := hC.of.same f hS
 refine ⟨⟨hS, fun i hi => ?_, fun d hd => by simp [Frame.enter] at hd, rfl, fun l hl => by simp [Frame.enter] at hl⟩, by simp only [Frame.enter, e]⟩
 simp only [Frame.enter, List.mem_singleton] at hi
 subst hi
 show okCode T _ = true
 cases hf : (PP T F).funcs[f]? with
 | none => rfl
 | some fn =>
   cases hb : fn.body with
   | none => simp [hb, okCode]
   | some b => simpa [hb] using hC.code f fn b hS hf hb
theorem apply_sim (hC : Cut T F F' S) {s : Sem Next} (hs : Tr (PP T F) (PP T F') (LOk T S) X (NOk (LOk T S) X S) s s) {fr : Frame} {mid : List Frame} (hf : FOk T S X fr) (hrun : fr.mode = .run) (hm : MOk T S X mid)
   {w w' : World} (hE : Em X w w') (hX : XOk X w) (hW : WOk (LOk T S) w') (ht : Agree w w' (stepG.apply (PP T F) true fr (mid ++ cs0) none s w))
   {g1' : Goroutine} {w1' : World} {es' : Array Event} (hl : stepG.apply (PP T F') true fr (mid ++ [c0]) none s w' = .go g1' w1' es') :
   Sim1 T S X cs0 w w' g1' w1' (stepG.apply (PP T F) true fr (mid ++ cs0) none s w) := by
 obtain ⟨ok, bad⟩ := hs w w' hE hX hW (fun k hk => ht k fun fr1 cs1 w1 es h => Nat.lt_of_lt_of_le hk (apply_mono h))
 unfold stepG.apply at hl
 simp only [if_true, Sem.runT_eq] at hl
 cases hr : s.run (PP T F') w' with
 | halt h w2' =>
   obtain ⟨hh, hw⟩ := bad h w2' hr
   rw [hr] at hl
   obtain ⟨es1, hl, _⟩ := after_go hl
   cases h with
   | panic v =>
     simp only [GStep.go.injEq] at hl
     obtain ⟨rfl, rfl, _⟩ := hl
     exact .inr ⟨doom_raise hf.defers hm _, hw⟩
   | stuck s => cases hl
   | unsupported u =>
     cases u <;> simp only at hl <;> first | (cases hl; done) | exact hh.elim
   | _ => exact hh.elim
 | ok n w2' =>
   obtain ⟨w2, e1, e2, e3, e4, e5, e6, e7⟩ := ok n w2' hr
   rw [hr] at hl
   obtain ⟨es1, hl1, hes⟩ := after_go hl
   clear hes hl
   have hl := hl1
   clear hl1
   have hk : (fr.kind == CallKind.early) = false := by rw [hf.kind]; rfl
   have hcomp : ∀ g, (match n with
       | .value v => g = G (fr.finish v) (mid ++ cs0)
       | .skip => g = G (fr.finish undef) (mid ++ cs0)
       | .enter f args => g = G (Frame.enter (PP T F) f args .normal) (fr :: (mid ++ cs0))
       | .round l f tmps a b => g = G (Frame.round l f tmps a b .normal) (fr :: (mid ++ cs0))
       | _ => False) → stepG.apply (PP T F) true fr (mid ++ cs0) none s w = .go g w2 (seen (PP T F) fr.fn (s.events (PP T F) w #[]) ++ #[]) := by
     intro g hg
     unfold stepG.apply
     simp only [if_true, Sem.runT_eq, e1, hk, Bool.false_eq_true, if_false]
     cases n <;> simp only at hg <;> first
       | exact hg.elim
       | (subst hg; rfl)
       | (subst hg
          dsimp only
          split
          · rename_i hx
            have := hf.todo
            rw [hx] at this
            exact (this _ (List.mem_cons_self ..)).elim
          · rfl)
   have hev : ∀ B, w2.heap.size ≤ B → ∀ e ∈ seen (PP T F) fr.fn (s.events (PP T F) w #[]) ++ #[], Ev X B e := by
     intro B hB e he
     rw [Array.append_empty] at he
     exact e7 B hB #[] (fun e he => by simp at he) e (mem_seen he)
   cases n <;> simp only [NOk] at e6 <;> try exact e6.elim
   case value v =>
     simp only [GStep.go.injEq] at hl
     obtain ⟨rfl, rfl, _⟩ := hl
     have hfin := hf.finish v
     exact .inl ⟨_, mid, w2, _, rfl, hcomp _ rfl, hfin.1, .inl (hfin.2.trans hrun), hm, e2, e3, e4, e5, hev⟩
   case skip =>
     simp only [GStep.go.injEq] at hl
     obtain ⟨rfl, rfl, _⟩ := hl
     have hfin := hf.finish undef
     exact .inl ⟨_, mid, w2, _, rfl, hcomp _ rfl, hfin.1, .inl (hfin.2.trans hrun), hm, e2, e3, e4, e5, hev⟩
   case enter f args =>
     dsimp only at hl
     split at hl
     · rename_i hx
       have := hf.todo
       rw [hx] at this
       exact (this _ (List.mem_cons_self ..)).elim
     simp only [GStep.go.injEq] at hl
     obtain ⟨rfl, rfl, _⟩ := hl
     obtain ⟨h1, h2⟩ := enter_ok (X := X) (args := args) hC e6
     refine .inl ⟨_, fr :: mid, w2, _, ?_, hcomp _ rfl, h1, .inl rfl, ?_, e2, e3, e4, e5, hev⟩
     · rw [h2]; rfl
     · intro c hc
       rcases List.mem_cons.1 hc with rfl | hc
       · exact ⟨hf, hrun⟩
       · exact hm c hc
   case round l f tmps a b =>
     simp only [GStep.go.injEq] at hl
     obtain ⟨rfl, rfl, _⟩ := hl
     obtain ⟨hXl, r, hlo, rfl, rfl, rfl⟩ := e6
     refine .inl ⟨_, fr :: mid, w2, _, rfl, hcomp _ rfl, ⟨hlo.1, ?_, fun d hd => by simp [Frame.round] at hd, rfl, fun l' hl' => by simp [Frame.round] at hl'; subst hl'; exact hXl⟩, .inl rfl, ?_, e2, e3, e4, e5, hev⟩
     · intro i hi
       simp only [Frame.round, List.mem_cons, List.not_mem_nil, or_false] at hi
       rcases hi with rfl | rfl | rfl
       · exact hlo.2.1
       · trivial
       · exact hlo.2.2.1
     · intro c hc
       rcases List.mem_cons.1 hc with rfl | hc
       · exact ⟨hf, hrun⟩
       · exact hm c hc
end
section
variable {T : Tables} {F F' : Array Func} {S : FuncId → Bool} {X : Nat → Bool} {cs0 : List Frame}
theorem to_sim {fr : Frame} {mid : List Frame} (hf : FOk T S X fr) (hrun : fr.mode = .run ∨ fr.mode = .returning) (hm : MOk T S X mid) {w w' : World} (hE : Em X w w') (hW : WOk (LOk T S) w') :
   Sim1 T S X cs0 w w' (G fr (mid ++ [c0])) w' (.go (G fr (mid ++ cs0)) w #[]) :=
 .inl ⟨fr, mid, w, #[], rfl, rfl, hf, hrun, hm, hE, Kept.refl X w, hW, ⟨Nat.le_refl _, Nat.add_comm _ _, rfl, rfl⟩, fun B _ e he => by simp at he⟩
theorem return_sim {fr : Frame} {mid : List Frame} (hk : fr.kind = .normal) (hm : MOk T S X mid) {w w' w2 w2' : World} (hE : Em X w2 w2') (hK : Kept X w w2) (hW : WOk (LOk T S) w2') (hd : Dr w w' w2 w2')
   {v : Value} {es : Array Event} (hev : ∀ B, w2.heap.size ≤ B → ∀ e ∈ es, Ev X B e) {P P' : Program} {g1' : Goroutine} {w1' : World} {es' : Array Event} (hl : doReturn P' true fr (mid ++ [c0]) none v w2' = .go g1' w1' es') :
   Sim1 T S X cs0 w w' g1' w1' (GStep.after es (doReturn P true fr (mid ++ cs0) none v w2)) := by
 cases mid with
 | nil =>
   simp only [List.nil_append, doReturn, hk, GStep.go.injEq] at hl
   obtain ⟨rfl, rfl, _⟩ := hl
   exact .inr ⟨.inr (.inr ⟨v, rfl⟩), hW⟩
 | cons c mid =>
   simp only [List.cons_append, doReturn, hk, GStep.go.injEq] at hl
   obtain ⟨rfl, rfl, _⟩ := hl
   have hc := hm c (List.mem_cons_self ..)
   have hfin := hc.1.finish v
   refine .inl ⟨c.finish v, mid, w2, es ++ #[], rfl, ?_, hfin.1, .inl (hfin.2.trans hc.2), fun x hx => hm x (List.mem_cons_of_mem _ hx), hE, hK, hW, hd, fun B hB e he => hev B hB e (by simpa using he)⟩
   simp only [List.cons_append, doReturn, hk, GStep.after]
   rfl
theorem return_mono {P : Program} {fr : Frame} {cs : List Frame} {v : Value} {w w1 : World} {fr1 : Frame} {cs1 : List Frame} {es0 es : Array Event} (hk : fr.kind = .normal) (h : GStep.after es0 (doReturn P true fr cs none v w) = .go (G fr1 cs1) w1 es) : w1.drawn = w.drawn := by
 obtain ⟨es1, h, _⟩ := after_go h
 unfold doReturn at h
 rw [hk] at h
 cases cs with
 | nil =>
   simp only [Bool.not_true, Bool.false_eq_true, if_false] at h
   split at h
   · cases h; rfl
   · cases h
 | cons c cs =>
   simp only [GStep.go.injEq] at h
   exact h.2.1 ▸ rfl
theorem leave_sim {fr : Frame} {mid : List Frame} (hf : FOk T S X fr) (hm : MOk T S X mid) (l : Nat) (hl0 : X l = false) (j : Option Code) (hj : ∀ c, j = some c → okCode T c = true) {w w' : World} (hE : Em X w w') (hX : XOk X w) (hW : WOk (LOk T S) w')
   {why : String} {comp lone : GStep}
   (hcomp : comp = GStep.after (seen (PP T F) fr.fn ((Instr.endRound l j).events (PP T F) w #[])) (match (Instr.endRound l j).run (PP T F) w with
     | .ok v w => doReturn (PP T F) true fr (mid ++ cs0) none v w
     | .halt _ w => .ended (.stuck why (fr.pos (PP T F))) w))
   (hlone : lone = GStep.after (seen (PP T F') fr.fn ((Instr.endRound l j).events (PP T F') w' #[])) (match (Instr.endRound l j).run (PP T F') w' with
     | .ok v w => doReturn (PP T F') true fr (mid ++ [c0]) none v w
     | .halt _ w => .ended (.stuck why (fr.pos (PP T F'))) w))
   (ht : Agree w w' comp) {g1' : Goroutine} {w1' : World} {es' : Array Event} (hl : lone = .go g1' w1' es') : Sim1 T S X cs0 w w' g1' w1' comp := by
 obtain ⟨ok, _⟩ := (d_endRound (F := F) (F' := F') (S := S) l hl0 j hj).tr w w' hE hX hW (fun k hk => ht k fun fr1 cs1 w1 es h => by
   rw [hcomp] at h
   cases hr : (Instr.endRound l j).run (PP T F) w with
   | halt x y =>
     rw [hr] at h
     obtain ⟨_, h, _⟩ := after_go h
     cases h
   | ok v w2 =>
     rw [hr] at h hk
     rw [return_mono hf.kind h]
     exact hk)
 rw [hlone] at hl
 obtain ⟨es1, hl, _⟩ := after_go hl
 cases hr : (Instr.endRound l j).run (PP T F') w' with
 | halt x y => rw [hr] at hl; cases hl
 | ok v w2' =>
   rw [hr] at hl
   obtain ⟨w2, e1, e2, e3, e4, e5, e6, e7⟩ := ok v w2' hr
   rw [hcomp, e1]
   exact return_sim hf.kind hm e2 e3 e4 e5 (fun B hB e he => e7 B hB #[] (fun e he => by simp at he) e (mem_seen he)) hl
end
end Go.Proofs.YtcpnkpogebjieaaGreat.Co
