/- The operations of a function's code, in two worlds at once (see Ta): the tables of types -/
import Derived.Test.YtcpnkpogebjieaaGreatG01Tb
namespace Go.Proofs.YtcpnkpogebjieaaGreat.Co
open Go.Conc
abbrev PP (T : Tables) (F : Array Func) : Program := { toTables := T, funcs := F }
structure D (T : Tables) (F F' : Array Func) (LO : Loop → Prop) (X : Nat → Bool) {α : Type} (s : Sem α) : Prop where
 tr : Tr (PP T F) (PP T F') LO X (fun _ => True) s s
section
variable {T : Tables} {F F' : Array Func} {LO : Loop → Prop} {X : Nat → Bool} {α β : Type}
theorem d_pure (a : α) : D T F F' LO X (pure a) := ⟨tr_pure a trivial⟩
theorem d_halt (h : Halt) (hh : HOk h := by exact True.intro) : D T F F' LO X (.halt h : Sem α) := ⟨tr_halt h _ hh⟩
theorem d_bind {s : Sem α} {f : α → Sem β} (hs : D T F F' LO X s) (hf : ∀ a, D T F F' LO X (f a)) : D T F F' LO X (s >>= f) := ⟨tr_bind hs.tr fun a _ => (hf a).tr⟩
theorem d_load (a : Addr) (m : Mode) : D T F F' LO X (load a m) := ⟨tr_load a m fun _ => trivial⟩
theorem d_store (a : Addr) (v : Value) (m : Mode) : D T F F' LO X (store a v m) := ⟨tr_store a v m trivial⟩
theorem d_choose (q : Question) : D T F F' LO X (choose q) := ⟨tr_choose q fun _ => trivial⟩
theorem d_ite {c : Prop} [Decidable c] {x y : Sem α} (hx : D T F F' LO X x) (hy : D T F F' LO X y) : D T F F' LO X (if c then x else y) := by split <;> assumption
def Never (s : Sem α) : Prop := ∀ (LO : Loop → Prop) P w, WOk LO w → ∃ h w1, s.run P w = .halt h w1 ∧ HOk h ∧ WOk LO w1
def Saf (s : Sem α) : Prop := ∀ (LO : Loop → Prop) P w, WOk LO w → (∀ h w1, s.run P w = .halt h w1 → HOk h ∧ WOk LO w1) ∧ ∀ a w1, s.run P w = .ok a w1 → WOk LO w1
theorem tr_never {P P' : Program} {Q : α → Prop} {s' : Sem α} (h : Never s') (s : Sem α) : Tr P P' LO X Q s' s := fun _ w' _ _ hW _ => by
 obtain ⟨x, w1, h1, h2⟩ := h LO P' w' hW
 rw [h1]
 exact ⟨fun a w1' hr => (by cases hr), fun y w1' hr => by cases hr; exact h2⟩
theorem never_halt (h : Halt) (hh : HOk h := by exact True.intro) : Never (.halt h : Sem α) := fun _ _ w hW => ⟨h, w, rfl, hh, hW⟩
theorem never_bind {s : Sem α} {f : α → Sem β} (hs : Saf s) (hf : ∀ a, Never (f a)) : Never (s >>= f) := by
 intro LO P w hW
 rw [Sem.run_bind]
 cases h : s.run P w with
 | halt x y => exact ⟨x, y, rfl, (hs LO P w hW).1 x y h⟩
 | ok a w2 => exact hf a LO P w2 ((hs LO P w hW).2 a w2 h)
theorem never_left {s : Sem α} {f : α → Sem β} (h : Never s) : Never (s >>= f) := by
 intro LO P w hW
 obtain ⟨x, w1, h1, h2⟩ := h LO P w hW
 exact ⟨x, w1, by rw [Sem.run_bind, h1]; rfl, h2⟩
theorem never_ite {c : Prop} [Decidable c] {x y : Sem α} (hx : Never x) (hy : Never y) : Never (if c then x else y) := by split <;> assumption
theorem saf_pure (a : α) : Saf (pure a : Sem α) := fun _ _ _ hW => ⟨fun _ _ h => (by cases h), fun _ _ h => by cases h; exact hW⟩
theorem saf_halt (h : Halt) (hh : HOk h := by exact True.intro) : Saf (.halt h : Sem α) := fun _ _ _ hW => ⟨fun _ _ e => (by cases e; exact ⟨hh, hW⟩), fun _ _ h => by cases h⟩
theorem saf_bind {s : Sem α} {f : α → Sem β} (hs : Saf s) (hf : ∀ a, Saf (f a)) : Saf (s >>= f) := by
 intro LO P w hW
 rw [Sem.run_bind]
 obtain ⟨h1, h2⟩ := hs LO P w hW
 cases h0 : s.run P w with
 | halt x y => exact ⟨fun h w1 hr => (by cases hr; exact h1 _ _ h0), fun a w1 hr => by cases hr⟩
 | ok a w2 => exact hf a LO P w2 (h2 a w2 h0)
theorem saf_ite {c : Prop} [Decidable c] {x y : Sem α} (hx : Saf x) (hy : Saf y) : Saf (if c then x else y) := by split <;> assumption
theorem saf_choose (q : Question) : Saf (choose q) := by
 intro LO P w hW
 simp only [choose, Sem.run]
 split
 · exact ⟨fun _ _ h => (by cases h), fun _ _ h => by cases h; exact hW⟩
 · exact ⟨fun _ _ h => (by cases h), fun _ _ h => by cases h; exact hW⟩
theorem saf_program : Saf program := fun _ _ _ hW => ⟨fun _ _ h => (by cases h), fun _ _ h => by cases h; exact hW⟩
theorem saf_newRow (e : TypeId) (c : Array Value) : Saf (newObj (.cells c e)) := fun _ _ _ hW => ⟨fun _ _ h => (by cases h), fun _ _ h => by cases h; exact hW.push trivial⟩
theorem saf_shape (r : Nat) : Saf (shape r) := fun _ _ _ hW => ⟨fun _ _ h => (by cases h), fun _ _ h => by cases h; exact hW⟩
theorem saf_frozen (a : Addr) : Saf (frozen a) := fun _ _ _ hW => ⟨fun _ _ h => (by cases h), fun _ _ h => by cases h; exact hW⟩
theorem saf_mark (m : Mark) : Saf (mark m) := fun _ _ _ hW => ⟨fun _ _ h => (by cases h), fun _ _ h => by cases h; exact hW⟩
theorem ask_heap {γ : Type} (a : Ask γ) (w : World) : (w.ask a).2.heap = w.heap := by
 induction a generalizing w with
 | done a => rfl
 | ask what range k ih =>
   simp only [World.ask]
   split
   · exact ih 0 w
   · exact ih _ { w with drawn := w.drawn + 1 }
theorem sys_heap (c : Sys) (w : World) : (w.sys c).2.heap = w.heap := by
 have h := ask_heap (Kernel.perform c w.os) w
 unfold World.sys
 generalize w.ask (Kernel.perform c w.os) = x at h
 obtain ⟨⟨r, os⟩, w1⟩ := x
 cases r <;> first | rfl | exact h
theorem saf_sys (c : Sys) : Saf (sys c) := fun LO P w hW => ⟨fun _ _ h => (by cases h), fun a w1 h => by
 have e : w1 = (w.sys c).2 := by
   simp only [sys, Sem.run, Result.ok.injEq] at h
   exact h.2.symm
 subst e
 intro r o ho
 rw [sys_heap] at ho
 exact hW r o ho⟩
theorem saf_typeInfo (t : TypeId) : Saf (typeInfo t) := by
 unfold typeInfo
 refine saf_bind saf_program fun p => ?_
 split
 · exact saf_pure _
 · exact saf_halt _
theorem saf_underlying (t : TypeId) : Saf (underlying t) := by
 unfold underlying
 refine saf_bind saf_program fun p => ?_
 split
 · exact saf_pure _
 · exact saf_halt _
theorem saf_elemOf (t : TypeId) : Saf (elemOf t) := by
 unfold elemOf
 refine saf_bind (saf_underlying _) fun p => ?_
 split
 · exact saf_pure _
 · exact saf_halt _
theorem saf_newVar (t : TypeId) (v : Value) : Saf (newVar t v) := saf_bind (saf_newRow _ _) fun _ => saf_pure _
theorem never_panic (e : RuntimeError) : Never (runtimePanic e : Sem α) := by
 unfold runtimePanic
 refine never_bind saf_program fun p => ?_
 cases e <;> simp only
 case typeAssertion => exact never_bind (saf_elemOf _) fun _ => never_bind (saf_newVar _ _) fun _ => never_halt _
 case panicNil => exact never_bind (saf_elemOf _) fun _ => never_bind (saf_newVar _ _) fun _ => never_halt _
 all_goals exact never_halt _
theorem d_panic (e : RuntimeError) : D T F F' LO X (runtimePanic e : Sem α) := ⟨tr_never (never_panic e) _⟩
theorem d_bounds (k : IntKind) (x y : Int) (c : BoundsCode) : D T F F' LO X (boundsPanic k x y c : Sem α) := ⟨tr_never (by
 unfold boundsPanic
 dsimp only
 split
 · exact never_bind (saf_bind (saf_choose _) fun _ => saf_pure _) fun _ => never_panic _
 · exact never_bind (saf_pure _) fun _ => never_panic _) _⟩
theorem d_prog {f : Program → Sem β} (h : Tr (PP T F) (PP T F') LO X (fun _ => True) (f (PP T F')) (f (PP T F))) : D T F F' LO X (program >>= f) := ⟨tr_prog h⟩
theorem t_typeInfo (t : TypeId) : Tr (PP T F) (PP T F') LO X (fun i => T.info? t = some i) (typeInfo t) (typeInfo t) := by
 refine tr_prog ?_
 show Tr _ _ _ _ _ (match T.info? t with | some i => pure i | none => stuck "no such type") (match T.info? t with | some i => pure i | none => stuck "no such type")
 cases h : T.info? t with
 | none => exact tr_halt _ _
 | some i => exact tr_pure i rfl
theorem d_typeInfo (t : TypeId) : D T F F' LO X (typeInfo t) := ⟨tr_mono (t_typeInfo t) fun _ _ => trivial⟩
theorem t_underlying (t : TypeId) : Tr (PP T F) (PP T F') LO X (fun i => (PP T F).underlying t = some i) (underlying t) (underlying t) := by
 refine tr_prog ?_
 have e : (PP T F').underlying t = (PP T F).underlying t := rfl
 rw [e]
 cases h : (PP T F).underlying t with
 | none => exact tr_halt _ _
 | some i => exact tr_pure i rfl
theorem d_underlying (t : TypeId) : D T F F' LO X (underlying t) := ⟨tr_mono (t_underlying t) fun _ _ => trivial⟩
theorem d_zero (t : TypeId) : D T F F' LO X (zeroValue t) := by
 unfold zeroValue
 repeat' first
   | exact d_pure _
   | exact d_halt _
   | exact d_underlying _
   | exact d_typeInfo _
   | exact d_load _ _
   | exact d_store _ _ _
   | exact d_panic _
   | exact d_bounds _ _ _ _
   | exact d_choose _
   | apply d_bind
   | intro _
   | apply d_ite
   | split
   | dsimp only
theorem d_size (t : TypeId) : D T F F' LO X (sizeOf t) := by
 unfold sizeOf
 repeat' first
   | exact d_pure _
   | exact d_halt _
   | exact d_underlying _
   | exact d_typeInfo _
   | exact d_zero _
   | exact d_load _ _
   | exact d_store _ _ _
   | exact d_panic _
   | exact d_bounds _ _ _ _
   | exact d_choose _
   | apply d_bind
   | intro _
   | apply d_ite
   | split
   | dsimp only
theorem d_isAgg (t : TypeId) : D T F F' LO X (isAgg t) := by
 unfold isAgg
 repeat' first
   | exact d_pure _
   | exact d_halt _
   | exact d_underlying _
   | exact d_typeInfo _
   | exact d_zero _
   | exact d_size _
   | exact d_load _ _
   | exact d_store _ _ _
   | exact d_panic _
   | exact d_bounds _ _ _ _
   | exact d_choose _
   | apply d_bind
   | intro _
   | apply d_ite
   | split
   | dsimp only
theorem d_asIntOf (v : Value) : D T F F' LO X (asIntOf v) := by
 unfold asIntOf
 repeat' first
   | exact d_pure _
   | exact d_halt _
   | exact d_underlying _
   | exact d_typeInfo _
   | exact d_zero _
   | exact d_size _
   | exact d_isAgg _
   | exact d_load _ _
   | exact d_store _ _ _
   | exact d_panic _
   | exact d_bounds _ _ _ _
   | exact d_choose _
   | apply d_bind
   | intro _
   | apply d_ite
   | split
   | dsimp only
theorem d_asInt (v : Value) : D T F F' LO X (asInt v) := by
 unfold asInt
 repeat' first
   | exact d_pure _
   | exact d_halt _
   | exact d_underlying _
   | exact d_typeInfo _
   | exact d_zero _
   | exact d_size _
   | exact d_isAgg _
   | exact d_load _ _
   | exact d_store _ _ _
   | exact d_asIntOf _
   | exact d_panic _
   | exact d_bounds _ _ _ _
   | exact d_choose _
   | apply d_bind
   | intro _
   | apply d_ite
   | split
   | dsimp only
theorem d_asBool (v : Value) : D T F F' LO X (asBool v) := by
 unfold asBool
 repeat' first
   | exact d_pure _
   | exact d_halt _
   | exact d_underlying _
   | exact d_typeInfo _
   | exact d_zero _
   | exact d_size _
   | exact d_isAgg _
   | exact d_load _ _
   | exact d_store _ _ _
   | exact d_asInt _
   | exact d_asIntOf _
   | exact d_panic _
   | exact d_bounds _ _ _ _
   | exact d_choose _
   | apply d_bind
   | intro _
   | apply d_ite
   | split
   | dsimp only
theorem d_asAgg (v : Value) : D T F F' LO X (asAgg v) := by
 unfold asAgg
 repeat' first
   | exact d_pure _
   | exact d_halt _
   | exact d_underlying _
   | exact d_typeInfo _
   | exact d_zero _
   | exact d_size _
   | exact d_isAgg _
   | exact d_load _ _
   | exact d_store _ _ _
   | exact d_asInt _
   | exact d_asIntOf _
   | exact d_asBool _
   | exact d_panic _
   | exact d_bounds _ _ _ _
   | exact d_choose _
   | apply d_bind
   | intro _
   | apply d_ite
   | split
   | dsimp only
theorem d_asAddr (v : Value) : D T F F' LO X (asAddr v) := by
 unfold asAddr
 repeat' first
   | exact d_pure _
   | exact d_halt _
   | exact d_underlying _
   | exact d_typeInfo _
   | exact d_zero _
   | exact d_size _
   | exact d_isAgg _
   | exact d_load _ _
   | exact d_store _ _ _
   | exact d_asInt _
   | exact d_asIntOf _
   | exact d_asBool _
   | exact d_asAgg _
   | exact d_panic _
   | exact d_bounds _ _ _ _
   | exact d_choose _
   | apply d_bind
   | intro _
   | apply d_ite
   | split
   | dsimp only
theorem d_sure (v : Value) : D T F F' LO X (Instr.sureAddr v) := by
 unfold Instr.sureAddr
 repeat' first
   | exact d_pure _
   | exact d_halt _
   | exact d_underlying _
   | exact d_typeInfo _
   | exact d_zero _
   | exact d_size _
   | exact d_isAgg _
   | exact d_load _ _
   | exact d_store _ _ _
   | exact d_asInt _
   | exact d_asIntOf _
   | exact d_asBool _
   | exact d_asAddr _
   | exact d_asAgg _
   | exact d_panic _
   | exact d_bounds _ _ _ _
   | exact d_choose _
   | apply d_bind
   | intro _
   | apply d_ite
   | split
   | dsimp only
theorem d_loadFrom (a : Addr) (n : Nat) : ∀ (i : Nat) (acc : Array Value), D T F F' LO X (loadCellsFrom a i n acc) := by
 induction n with
 | zero => intro i acc; exact d_pure _
 | succ n ih => intro i acc; exact d_bind (d_load _ _) fun v => ih _ _
theorem d_loadCells (a : Addr) (n : Nat) : D T F F' LO X (loadCells a n) := d_loadFrom a n 0 #[]
theorem d_storeCells (a : Addr) (vs : List Value) : ∀ i : Nat, D T F F' LO X (storeCells a vs i) := by
 induction vs with
 | nil => intro i; unfold storeCells; exact d_pure _
 | cons v vs ih => intro i; unfold storeCells; exact d_bind (d_store _ _ _) fun _ => ih _
theorem d_newRow (e : TypeId) (c : Array Value) : D T F F' LO X (newRow e c) := d_bind ⟨tr_new (LO := LO) trivial fun _ _ => trivial⟩ fun _ => d_pure _
theorem d_newVar (t : TypeId) (v : Value) : D T F F' LO X (newVar t v) := d_newRow t v.cells
theorem d_room (n : Nat) : D T F F' LO X (askRoom n) := by
 unfold askRoom
 split
 · exact ⟨tr_noRoom trivial⟩
 · exact d_pure _
theorem d_loadVar (t : TypeId) (a : Addr) : D T F F' LO X (loadVar t a) := by
 unfold loadVar
 repeat' first
   | exact d_pure _
   | exact d_halt _
   | exact d_underlying _
   | exact d_typeInfo _
   | exact d_zero _
   | exact d_size _
   | exact d_isAgg _
   | exact d_load _ _
   | exact d_store _ _ _
   | exact d_asInt _
   | exact d_asIntOf _
   | exact d_asBool _
   | exact d_asAddr _
   | exact d_asAgg _
   | exact d_loadCells _ _
   | exact d_storeCells _ _ _
   | exact d_newRow _ _
   | exact d_newVar _ _
   | exact d_panic _
   | exact d_bounds _ _ _ _
   | exact d_choose _
   | exact d_room _
   | exact d_sure _
   | apply d_bind
   | intro _
   | apply d_ite
   | split
   | dsimp only
theorem d_storeVar (t : TypeId) (a : Addr) (v : Value) : D T F F' LO X (storeVar t a v) := by
 unfold storeVar
 repeat' first
   | exact d_pure _
   | exact d_halt _
   | exact d_underlying _
   | exact d_typeInfo _
   | exact d_zero _
   | exact d_size _
   | exact d_isAgg _
   | exact d_load _ _
   | exact d_store _ _ _
   | exact d_asInt _
   | exact d_asIntOf _
   | exact d_asBool _
   | exact d_asAddr _
   | exact d_asAgg _
   | exact d_loadCells _ _
   | exact d_storeCells _ _ _
   | exact d_loadVar _ _
   | exact d_newRow _ _
   | exact d_newVar _ _
   | exact d_panic _
   | exact d_bounds _ _ _ _
   | exact d_choose _
   | exact d_room _
   | exact d_sure _
   | apply d_bind
   | intro _
   | apply d_ite
   | split
   | dsimp only
theorem d_part (t : TypeId) (cs : Array Value) (o : Nat) : D T F F' LO X (part t cs o) := by
 unfold part
 repeat' first
   | exact d_pure _
   | exact d_halt _
   | exact d_underlying _
   | exact d_typeInfo _
   | exact d_zero _
   | exact d_size _
   | exact d_isAgg _
   | exact d_load _ _
   | exact d_store _ _ _
   | exact d_asInt _
   | exact d_asIntOf _
   | exact d_asBool _
   | exact d_asAddr _
   | exact d_asAgg _
   | exact d_loadCells _ _
   | exact d_storeCells _ _ _
   | exact d_loadVar _ _
   | exact d_storeVar _ _ _
   | exact d_newRow _ _
   | exact d_newVar _ _
   | exact d_panic _
   | exact d_bounds _ _ _ _
   | exact d_choose _
   | exact d_room _
   | exact d_sure _
   | apply d_bind
   | intro _
   | apply d_ite
   | split
   | dsimp only
theorem d_shape (r : Nat) {f : Option (TypeId × Nat) → Sem β} (hf : ∀ o, D T F F' LO X (f o)) (hx : ∀ e n, Tr (PP T F) (PP T F') LO X (fun _ => True) (f (some (e, 0))) (f (some (e, n)))) : D T F F' LO X (shape r >>= f) := ⟨tr_shape r (fun o => (hf o).tr) hx⟩
theorem d_getObj (r : Nat) {f : Obj → Sem β} (hf : ∀ o, X r = false → ObOk LO o → D T F F' LO X (f o)) (hv : ∀ a t, Never (f (.view a t))) (hd : Never (f (.deferred none))) : D T F F' LO X (getObj r >>= f) :=
 ⟨tr_getObj r (fun o h1 h2 => (hf o h1 h2).tr) (fun a t s => tr_never (hv a t) s) (fun s => tr_never hd s)⟩
end
section
variable {T : Tables} {F F' : Array Func} {LO : Loop → Prop} {X : Nat → Bool} {α β : Type}
theorem d_assoc {γ : Type} {s : Sem α} {g : α → Sem β} {f : β → Sem γ} (h : D T F F' LO X (s >>= fun a => g a >>= f)) : D T F F' LO X ((s >>= g) >>= f) := by rw [sem_assoc]; exact h
theorem d_numberAt (r : Nat) : D T F F' LO X (numberAt r) := by
 unfold numberAt
 refine d_shape r (fun o => ?_) (fun e n => tr_pure _ trivial)
 cases o with
 | some x => exact d_pure _
 | none =>
   refine ⟨tr_getObjG r (fun o _ _ => ?_) (fun _ o' o hp => ?_)⟩
   · split <;> exact tr_pure _ trivial
   · rcases hp with ⟨a, a', t, rfl, rfl⟩ | ⟨l, rfl, rfl⟩ | ⟨c, rfl, rfl⟩ | ⟨c, e, rfl, rfl⟩ <;> exact tr_pure _ trivial
theorem d_noView (a : Addr) : D T F F' LO X (noView a) := by
 unfold noView viewAt
 refine d_assoc (d_shape a.block (fun o => ?_) (fun e n => tr_pure _ trivial))
 cases o with
 | some x => exact d_pure _
 | none =>
   have h : D T F F' LO X ((getObj a.block >>= fun o => match o with | .view a t => pure (some (a, t)) | _ => pure none) >>= fun (x : Option (Addr × TypeId)) => if x.isSome = true then unsupported (.unsafePointer "memory seen as another type") else pure PUnit.unit) := by
     refine d_assoc ⟨tr_getObjG a.block (fun o _ _ => ?_) (fun _ o' o hp => ?_)⟩
     · split
       · exact tr_halt _ _
       · exact tr_pure _ trivial
     · rcases hp with ⟨a, a', t, rfl, rfl⟩ | ⟨l, rfl, rfl⟩ | ⟨c, rfl, rfl⟩ | ⟨c, e, rfl, rfl⟩
       · exact tr_halt _ _
       · exact tr_pure _ trivial
       · exact tr_pure _ trivial
       · exact tr_pure _ trivial
   exact h
theorem byteOfCell_tables (T : Tables) (F F' : Array Func) (d : Nat) : ∀ (e : TypeId) (k : Nat), byteOfCell (PP T F') d e k = byteOfCell (PP T F) d e k := by
 induction d with
 | zero => intro e k; rfl
 | succ d ih => intro e k; simp only [byteOfCell, ih]; rfl
theorem cellOfByte_tables (T : Tables) (F F' : Array Func) (d : Nat) : ∀ (e : TypeId) (k : Nat), cellOfByte (PP T F') d e k = cellOfByte (PP T F) d e k := by
 induction d with
 | zero => intro e k; rfl
 | succ d ih => intro e k; simp only [cellOfByte, ih]; rfl
theorem cellAtBytes_tables (T : Tables) (F F' : Array Func) (d : Nat) (e : TypeId) (c k : Nat) (b : Int) : cellAtBytes (PP T F') d e c k b = cellAtBytes (PP T F) d e c k b := by
 unfold cellAtBytes
 simp only [byteOfCell_tables T F F', cellOfByte_tables T F F']
 rfl
theorem d_byteOf (a : Addr) : D T F F' LO X (byteOf a) := by
 unfold byteOf
 split
 · exact d_pure _
 · refine d_prog ?_
   refine tr_bind (d_noView a).tr fun _ _ => tr_shape _ (fun o => ?_) (fun e n => ?_)
   · cases o with
     | none => exact tr_halt _ _
     | some x =>
       obtain ⟨e, n⟩ := x
       have e1 : (PP T F').cellsOf e = (PP T F).cellsOf e := rfl
       have e2 : (PP T F').depth = (PP T F).depth := rfl
       have e3 : (PP T F').bytesOf e = (PP T F).bytesOf e := rfl
       dsimp only
       rw [e1, e2, e3, byteOfCell_tables T F F']
       split
       · exact tr_pure _ trivial
       · split
         · exact tr_pure _ trivial
         · exact tr_halt _ _
   · have e1 : (PP T F').cellsOf e = (PP T F).cellsOf e := rfl
     have e2 : (PP T F').depth = (PP T F).depth := rfl
     have e3 : (PP T F').bytesOf e = (PP T F).bytesOf e := rfl
     dsimp only
     rw [e1, e2, e3, byteOfCell_tables T F F']
     split
     · exact tr_pure _ trivial
     · split
       · exact tr_pure _ trivial
       · exact tr_halt _ _
theorem d_partAt (a : Addr) (c b : Nat) : D T F F' LO X (partAt a c b) := by
 unfold partAt
 repeat' first
   | exact d_pure _
   | exact d_halt _
   | exact d_underlying _
   | exact d_typeInfo _
   | exact d_zero _
   | exact d_size _
   | exact d_isAgg _
   | exact d_load _ _
   | exact d_store _ _ _
   | exact d_asInt _
   | exact d_asIntOf _
   | exact d_asBool _
   | exact d_asAddr _
   | exact d_asAgg _
   | exact d_loadCells _ _
   | exact d_storeCells _ _ _
   | exact d_loadVar _ _
   | exact d_storeVar _ _ _
   | exact d_newRow _ _
   | exact d_newVar _ _
   | exact d_part _ _ _
   | exact d_panic _
   | exact d_bounds _ _ _ _
   | exact d_choose _
   | exact d_room _
   | exact d_numberAt _
   | exact d_noView _
   | exact d_byteOf _
   | exact d_sure _
   | apply d_bind
   | intro _
   | apply d_ite
   | split
   | dsimp only
theorem d_fieldPlace (a : Addr) (f : Field) : D T F F' LO X (fieldPlace a f) := by
 unfold fieldPlace
 refine d_bind (d_size _) fun _ => ?_
 split
 · exact d_partAt _ _ _
 · exact d_pure _
theorem d_fieldAt (s : TypeId) (v : Value) (f : Nat) : D T F F' LO X (Instr.fieldAt s v f) := by
 unfold Instr.fieldAt
 repeat' first
   | exact d_pure _
   | exact d_halt _
   | exact d_underlying _
   | exact d_typeInfo _
   | exact d_zero _
   | exact d_size _
   | exact d_isAgg _
   | exact d_load _ _
   | exact d_store _ _ _
   | exact d_asInt _
   | exact d_asIntOf _
   | exact d_asBool _
   | exact d_asAddr _
   | exact d_asAgg _
   | exact d_loadCells _ _
   | exact d_storeCells _ _ _
   | exact d_loadVar _ _
   | exact d_storeVar _ _ _
   | exact d_newRow _ _
   | exact d_newVar _ _
   | exact d_part _ _ _
   | exact d_panic _
   | exact d_bounds _ _ _ _
   | exact d_choose _
   | exact d_room _
   | exact d_numberAt _
   | exact d_noView _
   | exact d_byteOf _
   | exact d_sure _
   | exact d_fieldPlace _ _
   | apply d_bind
   | intro _
   | apply d_ite
   | split
   | dsimp only
theorem d_loadAt (t : TypeId) (v : Value) : D T F F' LO X (Instr.loadAt t v) := by
 unfold Instr.loadAt
 repeat' first
   | exact d_pure _
   | exact d_halt _
   | exact d_underlying _
   | exact d_typeInfo _
   | exact d_zero _
   | exact d_size _
   | exact d_isAgg _
   | exact d_load _ _
   | exact d_store _ _ _
   | exact d_asInt _
   | exact d_asIntOf _
   | exact d_asBool _
   | exact d_asAddr _
   | exact d_asAgg _
   | exact d_loadCells _ _
   | exact d_storeCells _ _ _
   | exact d_loadVar _ _
   | exact d_storeVar _ _ _
   | exact d_newRow _ _
   | exact d_newVar _ _
   | exact d_part _ _ _
   | exact d_panic _
   | exact d_bounds _ _ _ _
   | exact d_choose _
   | exact d_room _
   | exact d_numberAt _
   | exact d_noView _
   | exact d_byteOf _
   | exact d_sure _
   | exact d_fieldPlace _ _
   | apply d_bind
   | intro _
   | apply d_ite
   | split
   | dsimp only
theorem d_storeAt (t : TypeId) (v x : Value) : D T F F' LO X (Instr.storeAt t v x) := by
 unfold Instr.storeAt
 repeat' first
   | exact d_pure _
   | exact d_halt _
   | exact d_underlying _
   | exact d_typeInfo _
   | exact d_zero _
   | exact d_size _
   | exact d_isAgg _
   | exact d_load _ _
   | exact d_store _ _ _
   | exact d_asInt _
   | exact d_asIntOf _
   | exact d_asBool _
   | exact d_asAddr _
   | exact d_asAgg _
   | exact d_loadCells _ _
   | exact d_storeCells _ _ _
   | exact d_loadVar _ _
   | exact d_storeVar _ _ _
   | exact d_newRow _ _
   | exact d_newVar _ _
   | exact d_part _ _ _
   | exact d_panic _
   | exact d_bounds _ _ _ _
   | exact d_choose _
   | exact d_room _
   | exact d_numberAt _
   | exact d_noView _
   | exact d_byteOf _
   | exact d_sure _
   | exact d_fieldPlace _ _
   | apply d_bind
   | intro _
   | apply d_ite
   | split
   | dsimp only
theorem d_indexAt (t : TypeId) (x i : Value) : D T F F' LO X (Instr.indexAt t x i) := by
 unfold Instr.indexAt
 repeat' first
   | exact d_pure _
   | exact d_halt _
   | exact d_underlying _
   | exact d_typeInfo _
   | exact d_zero _
   | exact d_size _
   | exact d_isAgg _
   | exact d_load _ _
   | exact d_store _ _ _
   | exact d_asInt _
   | exact d_asIntOf _
   | exact d_asBool _
   | exact d_asAddr _
   | exact d_asAgg _
   | exact d_loadCells _ _
   | exact d_storeCells _ _ _
   | exact d_loadVar _ _
   | exact d_storeVar _ _ _
   | exact d_newRow _ _
   | exact d_newVar _ _
   | exact d_part _ _ _
   | exact d_panic _
   | exact d_bounds _ _ _ _
   | exact d_choose _
   | exact d_room _
   | exact d_numberAt _
   | exact d_noView _
   | exact d_byteOf _
   | exact d_sure _
   | exact d_fieldPlace _ _
   | apply d_bind
   | intro _
   | apply d_ite
   | split
   | dsimp only
theorem d_sliceBound (x : Value) (y : Nat) (c : BoundsCode) : D T F F' LO X (Instr.sliceBound x y c) := by
 unfold Instr.sliceBound
 repeat' first
   | exact d_pure _
   | exact d_halt _
   | exact d_underlying _
   | exact d_typeInfo _
   | exact d_zero _
   | exact d_size _
   | exact d_isAgg _
   | exact d_load _ _
   | exact d_store _ _ _
   | exact d_asInt _
   | exact d_asIntOf _
   | exact d_asBool _
   | exact d_asAddr _
   | exact d_asAgg _
   | exact d_loadCells _ _
   | exact d_storeCells _ _ _
   | exact d_loadVar _ _
   | exact d_storeVar _ _ _
   | exact d_newRow _ _
   | exact d_newVar _ _
   | exact d_part _ _ _
   | exact d_panic _
   | exact d_bounds _ _ _ _
   | exact d_choose _
   | exact d_room _
   | exact d_numberAt _
   | exact d_noView _
   | exact d_byteOf _
   | exact d_sure _
   | exact d_fieldPlace _ _
   | apply d_bind
   | intro _
   | apply d_ite
   | split
   | dsimp only
theorem d_sliceBounds (b : Bool) (l c : Nat) (x y z : Option Value) : D T F F' LO X (Instr.sliceBounds b l c x y z) := by
 unfold Instr.sliceBounds
 repeat' first
   | exact d_pure _
   | exact d_halt _
   | exact d_underlying _
   | exact d_typeInfo _
   | exact d_zero _
   | exact d_size _
   | exact d_isAgg _
   | exact d_load _ _
   | exact d_store _ _ _
   | exact d_asInt _
   | exact d_asIntOf _
   | exact d_asBool _
   | exact d_asAddr _
   | exact d_asAgg _
   | exact d_loadCells _ _
   | exact d_storeCells _ _ _
   | exact d_loadVar _ _
   | exact d_storeVar _ _ _
   | exact d_newRow _ _
   | exact d_newVar _ _
   | exact d_part _ _ _
   | exact d_panic _
   | exact d_bounds _ _ _ _
   | exact d_choose _
   | exact d_room _
   | exact d_numberAt _
   | exact d_noView _
   | exact d_byteOf _
   | exact d_sure _
   | exact d_fieldPlace _ _
   | exact d_sliceBound _ _ _
   | apply d_bind
   | intro _
   | apply d_ite
   | split
   | dsimp only
theorem d_slice (t : TypeId) (v : Value) (x y z : Option Value) : D T F F' LO X (Instr.slice t v x y z) := by
 unfold Instr.slice
 repeat' first
   | exact d_pure _
   | exact d_halt _
   | exact d_underlying _
   | exact d_typeInfo _
   | exact d_zero _
   | exact d_size _
   | exact d_isAgg _
   | exact d_load _ _
   | exact d_store _ _ _
   | exact d_asInt _
   | exact d_asIntOf _
   | exact d_asBool _
   | exact d_asAddr _
   | exact d_asAgg _
   | exact d_loadCells _ _
   | exact d_storeCells _ _ _
   | exact d_loadVar _ _
   | exact d_storeVar _ _ _
   | exact d_newRow _ _
   | exact d_newVar _ _
   | exact d_part _ _ _
   | exact d_panic _
   | exact d_bounds _ _ _ _
   | exact d_choose _
   | exact d_room _
   | exact d_numberAt _
   | exact d_noView _
   | exact d_byteOf _
   | exact d_sure _
   | exact d_fieldPlace _ _
   | exact d_sliceBound _ _ _
   | exact d_sliceBounds _ _ _ _ _ _
   | apply d_bind
   | intro _
   | apply d_ite
   | split
   | dsimp only
theorem d_sliceAt (t : TypeId) (v : Value) (x y z : Option Value) : D T F F' LO X (Instr.sliceAt t v x y z) := by
 unfold Instr.sliceAt
 refine d_bind (d_underlying _) fun _ => ?_
 split
 · repeat' first
       | exact d_pure _
       | exact d_halt _
       | exact d_underlying _
       | exact d_typeInfo _
       | exact d_zero _
       | exact d_size _
       | exact d_isAgg _
       | exact d_load _ _
       | exact d_store _ _ _
       | exact d_asInt _
       | exact d_asIntOf _
       | exact d_asBool _
       | exact d_asAddr _
       | exact d_asAgg _
       | exact d_loadCells _ _
       | exact d_storeCells _ _ _
       | exact d_loadVar _ _
       | exact d_storeVar _ _ _
       | exact d_newRow _ _
       | exact d_newVar _ _
       | exact d_part _ _ _
       | exact d_panic _
       | exact d_bounds _ _ _ _
       | exact d_choose _
       | exact d_room _
       | exact d_numberAt _
       | exact d_noView _
       | exact d_byteOf _
       | exact d_sure _
       | exact d_fieldPlace _ _
       | exact d_sliceBound _ _ _
       | exact d_sliceBounds _ _ _ _ _ _
       | apply d_bind
       | intro _
       | apply d_ite
       | split
       | dsimp only
 · exact d_slice _ _ _ _ _
theorem d_alloc (e : TypeId) (h : Bool) (v : Value) : D T F F' LO X (Instr.alloc e h v) := by
 unfold Instr.alloc
 repeat' first
   | exact d_pure _
   | exact d_halt _
   | exact d_underlying _
   | exact d_typeInfo _
   | exact d_zero _
   | exact d_size _
   | exact d_isAgg _
   | exact d_load _ _
   | exact d_store _ _ _
   | exact d_asInt _
   | exact d_asIntOf _
   | exact d_asBool _
   | exact d_asAddr _
   | exact d_asAgg _
   | exact d_loadCells _ _
   | exact d_storeCells _ _ _
   | exact d_loadVar _ _
   | exact d_storeVar _ _ _
   | exact d_newRow _ _
   | exact d_newVar _ _
   | exact d_part _ _ _
   | exact d_panic _
   | exact d_bounds _ _ _ _
   | exact d_choose _
   | exact d_room _
   | exact d_numberAt _
   | exact d_noView _
   | exact d_byteOf _
   | exact d_sure _
   | exact d_fieldPlace _ _
   | exact d_sliceBound _ _ _
   | exact d_sliceBounds _ _ _ _ _ _
   | apply d_bind
   | intro _
   | apply d_ite
   | split
   | dsimp only
theorem d_box (e : TypeId) (v : Value) : D T F F' LO X (Instr.box e v) := by
 unfold Instr.box
 repeat' first
   | exact d_pure _
   | exact d_halt _
   | exact d_underlying _
   | exact d_typeInfo _
   | exact d_zero _
   | exact d_size _
   | exact d_isAgg _
   | exact d_load _ _
   | exact d_store _ _ _
   | exact d_asInt _
   | exact d_asIntOf _
   | exact d_asBool _
   | exact d_asAddr _
   | exact d_asAgg _
   | exact d_loadCells _ _
   | exact d_storeCells _ _ _
   | exact d_loadVar _ _
   | exact d_storeVar _ _ _
   | exact d_newRow _ _
   | exact d_newVar _ _
   | exact d_part _ _ _
   | exact d_panic _
   | exact d_bounds _ _ _ _
   | exact d_choose _
   | exact d_room _
   | exact d_numberAt _
   | exact d_noView _
   | exact d_byteOf _
   | exact d_sure _
   | exact d_fieldPlace _ _
   | exact d_sliceBound _ _ _
   | exact d_sliceBounds _ _ _ _ _ _
   | apply d_bind
   | intro _
   | apply d_ite
   | split
   | dsimp only
theorem d_makeInterface (t : TypeId) (v : Value) : D T F F' LO X (Instr.makeInterface t v) := by
 unfold Instr.makeInterface
 repeat' first
   | exact d_pure _
   | exact d_halt _
   | exact d_underlying _
   | exact d_typeInfo _
   | exact d_zero _
   | exact d_size _
   | exact d_isAgg _
   | exact d_load _ _
   | exact d_store _ _ _
   | exact d_asInt _
   | exact d_asIntOf _
   | exact d_asBool _
   | exact d_asAddr _
   | exact d_asAgg _
   | exact d_loadCells _ _
   | exact d_storeCells _ _ _
   | exact d_loadVar _ _
   | exact d_storeVar _ _ _
   | exact d_newRow _ _
   | exact d_newVar _ _
   | exact d_part _ _ _
   | exact d_panic _
   | exact d_bounds _ _ _ _
   | exact d_choose _
   | exact d_room _
   | exact d_numberAt _
   | exact d_noView _
   | exact d_byteOf _
   | exact d_sure _
   | exact d_fieldPlace _ _
   | exact d_sliceBound _ _ _
   | exact d_sliceBounds _ _ _ _ _ _
   | apply d_bind
   | intro _
   | apply d_ite
   | split
   | dsimp only
theorem d_makeSlice (t : TypeId) (l c : Value) : D T F F' LO X (Instr.makeSlice t l c) := by
 unfold Instr.makeSlice
 repeat' first
   | exact d_pure _
   | exact d_halt _
   | exact d_underlying _
   | exact d_typeInfo _
   | exact d_zero _
   | exact d_size _
   | exact d_isAgg _
   | exact d_load _ _
   | exact d_store _ _ _
   | exact d_asInt _
   | exact d_asIntOf _
   | exact d_asBool _
   | exact d_asAddr _
   | exact d_asAgg _
   | exact d_loadCells _ _
   | exact d_storeCells _ _ _
   | exact d_loadVar _ _
   | exact d_storeVar _ _ _
   | exact d_newRow _ _
   | exact d_newVar _ _
   | exact d_part _ _ _
   | exact d_panic _
   | exact d_bounds _ _ _ _
   | exact d_choose _
   | exact d_room _
   | exact d_numberAt _
   | exact d_noView _
   | exact d_byteOf _
   | exact d_sure _
   | exact d_fieldPlace _ _
   | exact d_sliceBound _ _ _
   | exact d_sliceBounds _ _ _ _ _ _
   | apply d_bind
   | intro _
   | apply d_ite
   | split
   | dsimp only
theorem d_field (t : TypeId) (v : Value) (f : Nat) : D T F F' LO X (Instr.field t v f) := by
 unfold Instr.field
 repeat' first
   | exact d_pure _
   | exact d_halt _
   | exact d_underlying _
   | exact d_typeInfo _
   | exact d_zero _
   | exact d_size _
   | exact d_isAgg _
   | exact d_load _ _
   | exact d_store _ _ _
   | exact d_asInt _
   | exact d_asIntOf _
   | exact d_asBool _
   | exact d_asAddr _
   | exact d_asAgg _
   | exact d_loadCells _ _
   | exact d_storeCells _ _ _
   | exact d_loadVar _ _
   | exact d_storeVar _ _ _
   | exact d_newRow _ _
   | exact d_newVar _ _
   | exact d_part _ _ _
   | exact d_panic _
   | exact d_bounds _ _ _ _
   | exact d_choose _
   | exact d_room _
   | exact d_numberAt _
   | exact d_noView _
   | exact d_byteOf _
   | exact d_sure _
   | exact d_fieldPlace _ _
   | exact d_sliceBound _ _ _
   | exact d_sliceBounds _ _ _ _ _ _
   | apply d_bind
   | intro _
   | apply d_ite
   | split
   | dsimp only
theorem d_index (t : TypeId) (v i : Value) : D T F F' LO X (Instr.index t v i) := by
 unfold Instr.index
 repeat' first
   | exact d_pure _
   | exact d_halt _
   | exact d_underlying _
   | exact d_typeInfo _
   | exact d_zero _
   | exact d_size _
   | exact d_isAgg _
   | exact d_load _ _
   | exact d_store _ _ _
   | exact d_asInt _
   | exact d_asIntOf _
   | exact d_asBool _
   | exact d_asAddr _
   | exact d_asAgg _
   | exact d_loadCells _ _
   | exact d_storeCells _ _ _
   | exact d_loadVar _ _
   | exact d_storeVar _ _ _
   | exact d_newRow _ _
   | exact d_newVar _ _
   | exact d_part _ _ _
   | exact d_panic _
   | exact d_bounds _ _ _ _
   | exact d_choose _
   | exact d_room _
   | exact d_numberAt _
   | exact d_noView _
   | exact d_byteOf _
   | exact d_sure _
   | exact d_fieldPlace _ _
   | exact d_sliceBound _ _ _
   | exact d_sliceBounds _ _ _ _ _ _
   | apply d_bind
   | intro _
   | apply d_ite
   | split
   | dsimp only
theorem d_extract (v : Value) (i : Nat) : D T F F' LO X (Instr.extract v i) := by
 unfold Instr.extract
 repeat' first
   | exact d_pure _
   | exact d_halt _
   | exact d_underlying _
   | exact d_typeInfo _
   | exact d_zero _
   | exact d_size _
   | exact d_isAgg _
   | exact d_load _ _
   | exact d_store _ _ _
   | exact d_asInt _
   | exact d_asIntOf _
   | exact d_asBool _
   | exact d_asAddr _
   | exact d_asAgg _
   | exact d_loadCells _ _
   | exact d_storeCells _ _ _
   | exact d_loadVar _ _
   | exact d_storeVar _ _ _
   | exact d_newRow _ _
   | exact d_newVar _ _
   | exact d_part _ _ _
   | exact d_panic _
   | exact d_bounds _ _ _ _
   | exact d_choose _
   | exact d_room _
   | exact d_numberAt _
   | exact d_noView _
   | exact d_byteOf _
   | exact d_sure _
   | exact d_fieldPlace _ _
   | exact d_sliceBound _ _ _
   | exact d_sliceBounds _ _ _ _ _ _
   | apply d_bind
   | intro _
   | apply d_ite
   | split
   | dsimp only
theorem d_map {s : Sem α} {f : α → β} (h : D T F F' LO X s) : D T F F' LO X (f <$> s) := (d_bind h fun a => d_pure (f a) : D T F F' LO X (s >>= fun a => pure (f a)))
theorem d_mapM {γ δ : Type} (f : γ → Sem δ) (hf : ∀ x, D T F F' LO X (f x)) (l : Array γ) : D T F F' LO X (l.mapM f) := by
 rw [Array.mapM_eq_mapM_toList]
 refine d_map ?_
 generalize l.toList = k
 induction k with
 | nil => exact d_pure _
 | cons x l ih =>
   rw [List.mapM_cons]
   exact d_bind (hf x) fun _ => d_bind ih fun _ => d_pure _
end
end Go.Proofs.YtcpnkpogebjieaaGreat.Co
