/- A range over a function whose iterator keeps state of its own in cells: the law of the caller, and the contract that it asks of the iterator. It speaks of no Go function. -/
import Derived.RangeFuncFrom
import Derived.RangeFuncBox
import Derived.RangeFuncLeaves
import Derived.Shelf.Abstract
import Derived.WalkKit
import Derived.OwnWalkIn
import Derived.TacticsInMore
import Derived.LoopNIn
import Derived.LoopIn
import Derived.Maps.AppendAt
namespace Go.Proofs.Ytcpnkpogebjieaa
open Go Go.RowKit

/-- New blocks, and writes to blocks of M alone. -/
structure Chg (M : Nat → Prop) (w w' : World) : Prop where
  os : w'.os = w.os
  tape : w'.tape = w.tape
  output : w'.output = w.output
  size : w.heap.size ≤ w'.heap.size
  block : ∀ k, k < w.heap.size → ¬ M k → w'.heap[k]? = w.heap[k]?

/-- M, and the blocks that were made between two worlds. -/
def more (M : Nat → Prop) (w w' : World) (k : Nat) : Prop := M k ∨ (w.heap.size ≤ k ∧ k < w'.heap.size)

/-- What an iterator with blocks of its own does: it hands on xs, in order, to whatever round keeps its blocks; J M pre W: the caller's word, M being the iterator's own blocks. -/
def SeqM (F : Fence) (n : Nat) (P : Program) (g : Nat) (lb : Array Value) (xs : List Int) (M0 : Nat → Prop) (n0 : Nat) (w : World) : Prop :=
  ∀ (l : Nat) (J : (Nat → Prop) → List Int → World → Prop) (W : World), Below w.heap.size w W →
    (∀ M pre A B, J M pre A → Chg M A B → J (more M A B) pre B) →
    (∀ M pre x W1, J M pre W1 → pre.length < xs.length → YieldAt F (n - 1) P l #[.int .i64 x] W1 fun e W' =>
      e = .returned (.bool true) ∧ J M (pre ++ [x]) W' ∧ (∀ k, M k → W'.heap[k]? = W1.heap[k]?) ∧ Below n0 W1 W') →
    J M0 [] W →
    CallsIn F n P g (#[.func (.yield l) #[] #[]] ++ lb) W fun e W' => (∃ v, e = .returned v) ∧ ∃ M, J M xs W'

/-- How the body of a round is left: it goes on. -/
def postM (n0 : Nat) (I : (Nat → Prop) → List Int → World → Prop) (M : Nat → Prop) (xs : List Int) (W : World) : Exit → Act → World → Prop
  | .normal, _, W' => KeepsOthers W W' ∧ (∀ k, M k → W'.heap[k]? = W.heap[k]?) ∧ Below n0 W W' ∧ I M xs W'
  | .ret, _, _ => False
  | .exit _, _, _ => False
  | .goto _, _, _ => False
  | .panic _, _, _ => False
  | .outgrown, _, _ => False

theorem wpIn_rangeFuncM {F : Fence} {n : Nat} {P : Program} {g : Operand} {ps : Array Tmp} {assign body : Code} {Q : Exit → Act → World → Prop} {a : Act} {w : World}
    (hro : F.round = none) (h1 : 1 ≤ n) {gf : Nat} {lb : Array Value} (hg : a.eval g = .func (.func gf) #[] lb) (hFg : F.fn gf) (eg : ∀ args w, (callFunc gf args).run P w = .ok (.enter gf args) w)
    {xs : List Int} {M0 : Nat → Prop} {n0 : Nat} (hn0 : n0 ≤ w.heap.size) (hM0 : ∀ k, M0 k → k < w.heap.size) (hseq : SeqM F (n - 1) P gf lb xs M0 n0 w) (hps : ps.size = 1)
    (I : (Nat → Prop) → List Int → World → Prop)
    (hIc : ∀ M pre A B, I M pre A → Chg M A B → I (more M A B) pre B)
    (hIo : ∀ M pre A (k : Nat) (o o' : Obj), I M pre A → w.heap.size ≤ k → A.heap[k]? = some o → o.isCells = false → I M pre (A.putObj k o'))
    (hIa : ∀ M pre A (o : Obj), I M pre A → I M pre (A.alloc o))
    (h0 : I M0 [] w) (a1 : Int → Act)
    (hassign : ∀ (l : Nat) (x : Int) (W : World) (K : Act → World → Prop), K (a1 x) W →
      assign.wpIn (F.inRound l) (n - 1 - 1) P (Exit.then K (fun _ _ _ => False)) { tmps := (ps.zip #[Value.int .i64 x]).foldl (fun t (p, v) => t.setIfInBounds p v) a.tmps, defers := [] } W)
    (hbody : ∀ (l : Nat) (M : Nat → Prop) (pre : List Int) (x : Int) (W : World), I M pre W → pre.length < xs.length → body.wpIn (F.inRound l) (n - 1 - 1) P (postM n0 I M (pre ++ [x]) W) (a1 x) W)
    (hdone : ∀ (D : Nat) (M : Nat → Prop) (W : World), w.heap.size ≤ D → I M xs W → W.heap[D]? = some (.deferred (some [])) → Q .normal { a with defers := { target := .collected D, args := #[] } :: a.defers } W) :
    (Code.rangeFunc g ps assign body).wpIn F n P Q a w := by
  refine wpIn_rangeFunc ?_
  intro fn hfn
  rw [hro]
  obtain ⟨rec, hrec⟩ : ∃ rec : LoopState → Option Code → Loop, rec = fun st pe => { state := st, pending := pe, fn, tmps := a.tmps, params := ps, assign, body, defers := w.heap.size } := ⟨_, rfl⟩
  obtain ⟨W1, hW1⟩ : ∃ W1, (w.alloc (.deferred (some []))).alloc (.loop (rec .ready none)) = W1 := ⟨_, rfl⟩
  have hL1 : W1.heap[w.heap.size + 1]? = some (.loop (rec .ready none)) := by
    rw [← hW1]; have := World.alloc_heap_new (w.alloc (.deferred (some []))) (.loop (rec .ready none)); rwa [World.size_alloc] at this
  have hK1 : W1.heap[w.heap.size]? = some (.deferred (some [])) := by
    rw [← hW1]; exact (Below.heap_alloc _ _ _ (by simp)).trans (World.alloc_heap_new w _)
  have hb1 : Below w.heap.size w W1 := by
    rw [← hW1]; exact ((Below.refl _ w).alloc (Nat.le_refl _) _).alloc (by simp) _
  refine ⟨w.heap.size + 1, [{ target := .collected w.heap.size, args := #[] }], W1, { target := .fn (.func gf) lb, args := #[.func (.yield (w.heap.size + 1)) #[] #[]] }, W1, gf,
    #[.func (.yield (w.heap.size + 1)) #[] #[]] ++ lb, W1, ?_, ?_, ?_, ?_, fun _ => h1, ?_⟩
  · rw [← hW1, hrec]; exact run_enterLoop_outer _ _ _ _ _
  · simp only [resolve, hg]
    simp [go_sem]
  · intro f' hf'; simp [Target.leads] at hf'; subst hf'; exact hFg
  · simp [invoke, go_sem, eg]
  · refine (hseq (w.heap.size + 1)
      (fun M pre W => I M pre W ∧ ¬ M (w.heap.size + 1) ∧ ¬ M w.heap.size ∧ W.heap[w.heap.size + 1]? = some (.loop (rec .ready none)) ∧ W.heap[w.heap.size]? = some (.deferred (some [])))
      W1 hb1 ?_ ?_ ?_).mono ?_
    · rintro M pre A B ⟨hi, m1, m2, hl, hk⟩ hc
      have l1 := (Array.getElem?_eq_some_iff.1 hl).1
      have l2 := (Array.getElem?_eq_some_iff.1 hk).1
      exact ⟨hIc M pre A B hi hc, fun h => by rcases h with h | h; exact m1 h; omega, fun h => by rcases h with h | h; exact m2 h; omega, (hc.block _ l1 m1).trans hl, (hc.block _ l2 m2).trans hk⟩
    · rintro M pre x W ⟨hi, m1, m2, hl, hk⟩ hlen
      have hlt : w.heap.size + 1 < W.heap.size := (Array.getElem?_eq_some_iff.1 hl).1
      have hy := run_yield (P := P) (args := #[Value.int .i64 x]) hl (by rw [hrec]; exact hps.symm)
      rw [hrec] at hy
      refine ⟨fn, _, assign, body, hy, roundIn_of_wpIn hfn (hassign _ x W _ ⟨_, run_beginRound hl (by rw [hrec]), ?_⟩)⟩
      have hl2 : (W.putObj (w.heap.size + 1) (.loop { rec .ready none with state := .busy })).heap[w.heap.size + 1]? = some (.loop { rec .ready none with state := .busy }) := World.putObj_heap_same hlt
      have hk2 : (W.putObj (w.heap.size + 1) (.loop { rec .ready none with state := .busy })).heap[w.heap.size]? = some (.deferred (some [])) := (World.putObj_heap_other (by omega)).trans hk
      refine wpIn_mono (hbody _ M pre x _ (hIo M pre _ _ _ _ hi (by omega) hl rfl) hlen) ?_
      rintro e a3 W3 hp
      cases e with
      | normal =>
        obtain ⟨hk3, hm3, hb3, hi3⟩ := hp
        have hl3 := hk3.same _ _ hl2 rfl
        have hr := run_endRound (P := P) none hl3
        have hlt3 : w.heap.size + 1 < W3.heap.size := (Array.getElem?_eq_some_iff.1 hl3).1
        rw [hrec] at hr
        refine ⟨_, _, hr, rfl, ⟨hIo M _ _ _ _ _ hi3 (by omega) hl3 rfl, m1, m2, ?_, ?_⟩, fun k hk => ?_, ?_⟩
        · rw [hrec]; exact World.putObj_heap_same hlt3
        · exact (World.putObj_heap_other (by omega)).trans (hk3.same _ _ hk2 rfl)
        · have hne : k ≠ w.heap.size + 1 := fun e => m1 (e ▸ hk)
          rw [World.putObj_heap_other (by omega), hm3 k hk, World.putObj_heap_other (by omega)]
        · have q1 : Below n0 W (W.putObj (w.heap.size + 1) (.loop { rec .ready none with state := .busy })) := belowK_b hn0 W _ _ _ (by omega) hl rfl rfl
          have q2 := belowK_b hn0 W3 (w.heap.size + 1) _ (.loop { rec .ready none with state := .ready, pending := none }) (by omega) hl3 rfl rfl
          rw [hrec] at q2
          exact (q1.trans hb3).trans q2
      | ret => exact hp.elim
      | exit id => exact hp.elim
      | goto t => exact hp.elim
      | panic ch => exact hp.elim
      | outgrown => exact hp.elim
    · refine ⟨?_, fun h => by have := hM0 _ h; omega, fun h => by have := hM0 _ h; omega, hL1, hK1⟩
      rw [← hW1]; exact hIa _ _ _ _ (hIa _ _ _ _ h0)
    · rintro e W2 ⟨⟨v, rfl⟩, M, hi, m1, m2, hl, hk⟩
      exact ⟨none, _, by have := run_endLoop (P := P) hl (by rw [hrec]; simp); rw [hrec] at this; exact this, hdone _ M _ (Nat.le_refl _) (hIo M _ _ _ _ _ hi (by omega) hl rfl) ((World.putObj_heap_other (by omega)).trans hk)⟩
end Go.Proofs.Ytcpnkpogebjieaa
