/- Plain facts that all walks of this seat share: rows of cells in memory, blocks that the call made. No Go function is walked here. -/
import Derived.Test.YtcpnkpogebjieaaProg
import Derived.WalkKit
import Derived.WalkSpells
import Derived.WalkLawsBesides
namespace Go.Proofs.Ytcpnkpogebjieaa
open Go.RowKit

theorem info_int : (Try.prog.info? 3).map (fun i => (i.zero, i.size, i.bytes)) = some (some (.int .i64 0), 1, 8) := by kernel_rfl

/-- The row of cells that a slice at 'a' has: m cells, f i the i-th. -/
def Seg (w : World) (a : Option Addr) (m : Nat) (f : Nat → Value) : Prop :=
  0 < m → ∃ b off, a = some ⟨b, off, none⟩ ∧ b < w.heap.size ∧ ∀ i, i < m → w.cell? ⟨b, off + i, none⟩ = some (f i)

theorem Seg.below {w w' : World} {B : Nat} {a : Option Addr} {m : Nat} {f : Nat → Value} (h : Seg w a m f) (hb : Below B w w') (hB : w.heap.size ≤ B) : Seg w' a m f := by
  intro hm
  obtain ⟨b, off, h1, h2, h3⟩ := h hm
  exact ⟨b, off, h1, Nat.lt_of_lt_of_le h2 hb.size, fun i hi => (hb.cell (p := ⟨b, off + i, none⟩) (Nat.lt_of_lt_of_le h2 hB)).trans (h3 i hi)⟩

/-- A slice of numbers. -/
def SegI (w : World) (a : Option Addr) (zs : List Int) : Prop := Seg w a zs.length fun i => .int .i64 (zs.getD i 0)

theorem SegI.get {w : World} {a : Option Addr} {zs : List Int} (h : SegI w a zs) {k : Nat} (hk : k < zs.length) : ∃ b off, a = some ⟨b, off, none⟩ ∧ b < w.heap.size ∧ w.cell? ⟨b, off + k, none⟩ = some (.int .i64 zs[k]) := by
  obtain ⟨b, off, h1, h2, h3⟩ := h (by omega)
  exact ⟨b, off, h1, h2, by rw [h3 k hk]; simp [List.getD, List.getElem?_eq_getElem hk]⟩

theorem SegI.below {w w' : World} {B : Nat} {a : Option Addr} {zs : List Int} (h : SegI w a zs) (hb : Below B w w') (hB : w.heap.size ≤ B) : SegI w' a zs := Seg.below h hb hB

/-- An object as it lies in memory: its kind, its text, where its parts lie, how many there is room for, the parts. -/
structure Ob where
  k : Int
  t : ByteArray
  ra : Option Addr
  rcap : Nat
  r : List Int

/-- What of an object is plain. -/
def Ob.p (o : Ob) : Int × ByteArray × List Int := (o.k, o.t, o.r)
def Ob.cs (o : Ob) : List Value := [.int .i64 o.k, .string o.t, .slice o.ra o.r.length o.rcap]

/-- A slice of objects. -/
def SegO (w : World) (a : Option Addr) (os : List Ob) : Prop :=
  (0 < os.length → ∃ b off, a = some ⟨b, off, none⟩ ∧ b < w.heap.size ∧ ∀ i (h : i < os.length), w.cell? ⟨b, off + i * 3, none⟩ = some (.int .i64 os[i].k) ∧ w.cell? ⟨b, off + i * 3 + 1, none⟩ = some (.string os[i].t) ∧ w.cell? ⟨b, off + i * 3 + 2, none⟩ = some (.slice os[i].ra os[i].r.length os[i].rcap)) ∧
  ∀ i (h : i < os.length), SegI w os[i].ra os[i].r

theorem SegO.below {w w' : World} {B : Nat} {a : Option Addr} {os : List Ob} (h : SegO w a os) (hb : Below B w w') (hB : w.heap.size ≤ B) : SegO w' a os := by
  refine ⟨fun hm => ?_, fun i hi => (h.2 i hi).below hb hB⟩
  obtain ⟨b, off, h1, h2, h3⟩ := h.1 hm
  refine ⟨b, off, h1, Nat.lt_of_lt_of_le h2 hb.size, fun i hi => ?_⟩
  obtain ⟨c1, c2, c3⟩ := h3 i hi
  have hlt := Nat.lt_of_lt_of_le h2 hB
  exact ⟨(hb.cell (p := ⟨b, _, none⟩) hlt).trans c1, (hb.cell (p := ⟨b, _, none⟩) hlt).trans c2, (hb.cell (p := ⟨b, _, none⟩) hlt).trans c3⟩

theorem SegO.get {w : World} {a : Option Addr} {os : List Ob} (h : SegO w a os) {k : Nat} (hk : k < os.length) : ∃ b off, a = some ⟨b, off, none⟩ ∧ b < w.heap.size ∧ w.cell? ⟨b, off + k * 3, none⟩ = some (.int .i64 os[k].k) ∧ w.cell? ⟨b, off + k * 3 + 1, none⟩ = some (.string os[k].t) ∧ w.cell? ⟨b, off + k * 3 + 2, none⟩ = some (.slice os[k].ra os[k].r.length os[k].rcap) := by
  obtain ⟨b, off, h1, h2, h3⟩ := h.1 (by omega)
  exact ⟨b, off, h1, h2, h3 k hk⟩

/-- A slice of what is watched. -/
def SegW (w : World) (a : Option Addr) (ws : List (Int × Int)) : Prop :=
  0 < ws.length → ∃ b off, a = some ⟨b, off, none⟩ ∧ b < w.heap.size ∧ ∀ i (h : i < ws.length), w.cell? ⟨b, off + i * 2, none⟩ = some (.int .i64 ws[i].1) ∧ w.cell? ⟨b, off + i * 2 + 1, none⟩ = some (.int .i64 ws[i].2)

theorem SegW.below {w w' : World} {B : Nat} {a : Option Addr} {ws : List (Int × Int)} (h : SegW w a ws) (hb : Below B w w') (hB : w.heap.size ≤ B) : SegW w' a ws := by
  intro hm
  obtain ⟨b, off, h1, h2, h3⟩ := h hm
  refine ⟨b, off, h1, Nat.lt_of_lt_of_le h2 hb.size, fun i hi => ?_⟩
  obtain ⟨c1, c2⟩ := h3 i hi
  have hlt := Nat.lt_of_lt_of_le h2 hB
  exact ⟨(hb.cell (p := ⟨b, _, none⟩) hlt).trans c1, (hb.cell (p := ⟨b, _, none⟩) hlt).trans c2⟩

theorem SegW.get {w : World} {a : Option Addr} {ws : List (Int × Int)} (h : SegW w a ws) {k : Nat} (hk : k < ws.length) : ∃ b off, a = some ⟨b, off, none⟩ ∧ b < w.heap.size ∧ w.cell? ⟨b, off + k * 2, none⟩ = some (.int .i64 ws[k].1) ∧ w.cell? ⟨b, off + k * 2 + 1, none⟩ = some (.int .i64 ws[k].2) := by
  obtain ⟨b, off, h1, h2, h3⟩ := h (by omega)
  exact ⟨b, off, h1, h2, h3 k hk⟩

/-- A heap as it lies in memory: four slices. -/
structure Hp where
  oa : Option Addr
  ocap : Nat
  os : List Ob
  ra : Option Addr
  rcap : Nat
  rs : List Int
  wa : Option Addr
  wcap : Nat
  ws : List (Int × Int)
  da : Option Addr
  dcap : Nat
  ds : List (Int × Int)

def Hp.v (h : Hp) : Value := .agg #[.slice h.oa h.os.length h.ocap, .slice h.ra h.rs.length h.rcap, .slice h.wa h.ws.length h.wcap, .slice h.da h.ds.length h.dcap]
structure HpIn (w : World) (h : Hp) : Prop where
  so : SegO w h.oa h.os
  sr : SegI w h.ra h.rs
  sw : SegW w h.wa h.ws
  sd : SegW w h.da h.ds
theorem HpIn.below {w w' : World} {B : Nat} {h : Hp} (hh : HpIn w h) (hb : Below B w w') (hB : w.heap.size ≤ B) : HpIn w' h :=
  ⟨hh.so.below hb hB, hh.sr.below hb hB, hh.sw.below hb hB, hh.sd.below hb hB⟩

/-- No list is longer than a call may copy. -/
structure Small (h : Hp) : Prop where
  o : h.os.length ≤ 1048576
  oo : ∀ i (hi : i < h.os.length), h.os[i].r.length ≤ 1048576
  r : h.rs.length ≤ 1048576
  w : h.ws.length ≤ 1048576
  d : h.ds.length ≤ 1048576
/-- What a value of the machine bears at the most. -/
structure Fits (h : Hp) : Prop where
  o : h.os.length ≤ maxLen
  oo : ∀ i (hi : i < h.os.length), h.os[i].r.length ≤ maxLen ∧ h.os[i].t.size ≤ maxLen
  r : h.rs.length ≤ maxLen
  w : h.ws.length ≤ maxLen
  d : h.ds.length ≤ maxLen

/-- A block of cells, none frozen. -/
def Blk (w : World) (B : Nat) (cs : List Value) (t : TypeId) : Prop := w.heap[B]? = some (.cells cs.toArray t (0, 0))

theorem Blk.lt {w : World} {B : Nat} {cs : List Value} {t : TypeId} (h : Blk w B cs t) : B < w.heap.size := lt_of_block h
theorem Blk.cell {w : World} {B : Nat} {cs : List Value} {t : TypeId} (h : Blk w B cs t) (j : Nat) : w.cell? ⟨B, j, none⟩ = cs[j]? := by
  unfold Blk at h
  simp [World.cell?, h]
theorem Blk.free {w : World} {B : Nat} {cs : List Value} {t : TypeId} (h : Blk w B cs t) (j : Nat) : w.frozen? ⟨B, j, none⟩ = false := by
  unfold Blk at h
  simp [World.frozen?, h]
theorem Blk.below {w w' : World} {B C : Nat} {cs : List Value} {t : TypeId} (h : Blk w B cs t) (hb : Below C w w') (hC : B < C) : Blk w' B cs t := by
  unfold Blk at *
  rw [hb.block B hC]; exact h
theorem Blk.store {w : World} {B : Nat} {cs : List Value} {t : TypeId} (h : Blk w B cs t) (j : Nat) (u : Value) : Blk (w.setCell ⟨B, j, none⟩ u) B (cs.set j u) t := by
  have hlt := h.lt
  have h' : w.heap[B] = .cells cs.toArray t (0, 0) := by simpa [Blk, Array.getElem?_eq_getElem hlt] using h
  show (w.heap.modify B _)[B]? = _
  rw [Array.getElem?_eq_getElem (by simpa using hlt), Array.getElem_modify_self, h']
  simp
theorem Blk.other {w : World} {B : Nat} {cs : List Value} {t : TypeId} (h : Blk w B cs t) (p : Addr) (u : Value) (hp : B ≠ p.block) : Blk (w.setCell p u) B cs t := by
  unfold Blk at *
  rw [Below.heap_setCell _ _ _ _ hp]; exact h
theorem Blk.alloc {w : World} {B : Nat} {cs : List Value} {t : TypeId} (h : Blk w B cs t) (o : Obj) : Blk (w.alloc o) B cs t := by
  unfold Blk at *
  rw [Below.heap_alloc _ _ _ (lt_of_block h)]; exact h
theorem Blk.new (w : World) (cs : List Value) (t : TypeId) : Blk (w.alloc (.cells cs.toArray t)) w.heap.size cs t := heap_alloc_new w _

/-- Behind a contract: all old cells, all old marks read as before. -/
theorem bcell {W w1 : World} {B : Nat} (hb : Below B W w1) : (∀ b o, b < B → w1.cell? ⟨b, o, none⟩ = W.cell? ⟨b, o, none⟩) ∧ (∀ b o, b < B → w1.frozen? ⟨b, o, none⟩ = W.frozen? ⟨b, o, none⟩) :=
  ⟨fun b o h => hb.cell (p := ⟨b, o, none⟩) h, fun b o h => hb.frozen (p := ⟨b, o, none⟩) h⟩

theorem bdrewN {B : Nat} {a w : World} (h : Below B a w) (n : Nat) : Below B a (w.drewN n) := ⟨h.os, h.tape, h.output, h.size, h.block⟩

/-- What 'make' of n elements gives. -/
theorem blk_made {w : World} {base e size g n : Nat} {xs : List Value} (h : w.ownsRow base e size (.slice (some ⟨g, 0, none⟩) n n) n xs) : Blk w g xs e := by
  rcases h.2 with ⟨h', _⟩ | ⟨g', cap', cur, h', _, hg, _, _, hs, htake⟩
  · simp at h'
  · simp only [Value.slice.injEq, Option.some.injEq, Addr.mk.injEq, and_true, true_and] at h'
    obtain ⟨rfl, rfl⟩ := h'
    unfold Blk
    rw [hg, ← htake, ← hs, ← Array.length_toList, List.take_length]

theorem below_made {w w' : World} (hg : w.grownBy w' none) : Below w.heap.size w w' :=
  (Below.refl _ w).grown hg (Nat.le_refl _) (fun k h => by cases h)

/-- A block that the call made, as a row. -/
theorem Blk.seg {w : World} {B : Nat} {cs : List Value} {t : TypeId} (h : Blk w B cs t) : Seg w (some ⟨B, 0, none⟩) cs.length fun i => cs.getD i (.bool false) := by
  intro _
  refine ⟨B, 0, rfl, h.lt, fun i hi => ?_⟩
  rw [Nat.zero_add, h.cell i]
  simp [List.getD, List.getElem?_eq_getElem hi]

theorem Blk.segI {w : World} {B : Nat} {zs : List Int} {t : TypeId} (h : Blk w B (zs.map (Value.int .i64)) t) : SegI w (some ⟨B, 0, none⟩) zs := by
  intro hm
  refine ⟨B, 0, rfl, h.lt, fun i hi => ?_⟩
  rw [Nat.zero_add, h.cell i]
  simp [List.getD, List.getElem?_eq_getElem hi]

/-- A copy under way: k of n done. -/
theorem set_map {α β : Type} (f : α → β) (zs : List α) (z : β) (k : Nat) (hk : k < zs.length) :
    ((zs.take k).map f ++ List.replicate (zs.length - k) z).set k (f zs[k]) = (zs.take (k + 1)).map f ++ List.replicate (zs.length - (k + 1)) z := by
  apply List.ext_getElem?
  intro j
  rw [List.getElem?_set]
  simp only [List.length_append, List.length_map, List.length_take, List.length_replicate, List.getElem?_append, List.getElem?_map, List.getElem?_replicate, List.getElem?_take]
  by_cases h1 : j < k
  · simp [h1, show j < zs.length by omega, show min k zs.length = k by omega, show k ≠ j by omega, show j < k + 1 by omega, show min (k+1) zs.length = k + 1 by omega]
  · by_cases h2 : j = k
    · subst h2
      simp [show min j zs.length = j by omega, show min (j+1) zs.length = j + 1 by omega, hk, show j + (zs.length - j) = zs.length by omega]
    · simp [show min k zs.length = k by omega, show min (k+1) zs.length = k + 1 by omega, h1, show ¬ j < k + 1 by omega, show k ≠ j by omega, show (j - k < zs.length - k) ↔ (j - (k+1) < zs.length - (k+1)) by omega]

theorem set_take {α : Type} (zs : List α) (z : α) (k : Nat) (hk : k < zs.length) :
    (zs.take k ++ List.replicate (zs.length - k) z).set k zs[k] = zs.take (k + 1) ++ List.replicate (zs.length - (k + 1)) z := by
  have := set_map (fun x => x) zs z k hk
  simpa using this

/-- Rows of elements of one size. -/
theorem flat_len {α : Type} (f : α → List Value) (s : Nat) (hf : ∀ x, (f x).length = s) (L : List α) : (L.flatMap f).length = L.length * s := by
  induction L with
  | nil => simp
  | cons x L ih => rw [List.flatMap_cons, List.length_append, hf, ih, List.length_cons, Nat.succ_mul]; omega

theorem flat_get {α : Type} (f : α → List Value) (s : Nat) (hf : ∀ x, (f x).length = s) (L : List α) (i j : Nat) (hi : i < L.length) (hj : j < s) : (L.flatMap f)[i * s + j]? = (f L[i])[j]? := by
  induction L generalizing i with
  | nil => simp at hi
  | cons x L ih =>
    rw [List.flatMap_cons]
    cases i with
    | zero => rw [List.getElem?_append_left (by rw [hf]; omega)]; simp
    | succ i =>
      rw [List.getElem?_append_right (by rw [hf, Nat.succ_mul]; omega), hf, show (i + 1) * s + j - s = i * s + j by rw [Nat.succ_mul]; omega]
      exact ih i (by simpa using hi)

def wc (p : Int × Int) : List Value := [.int .i64 p.1, .int .i64 p.2]

theorem set2 (L : List (Int × Int)) (k : Nat) (p : Int × Int) : ((L.flatMap wc).set (k * 2) (.int .i64 p.1)).set (k * 2 + 1) (.int .i64 p.2) = (L.set k p).flatMap wc := by
  induction L generalizing k with
  | nil => simp
  | cons x L ih =>
    cases k with
    | zero => simp [wc]
    | succ k =>
      have := ih k
      simp only [List.flatMap_cons, List.set_cons_succ, wc, List.cons_append, List.nil_append, Nat.succ_mul]
      rw [← this]

theorem set3 (L : List Ob) (k : Nat) (o : Ob) : (((L.flatMap Ob.cs).set (k * 3) (.int .i64 o.k)).set (k * 3 + 1) (.string o.t)).set (k * 3 + 2) (.slice o.ra o.r.length o.rcap) = (L.set k o).flatMap Ob.cs := by
  induction L generalizing k with
  | nil => simp
  | cons x L ih =>
    cases k with
    | zero => simp [Ob.cs]
    | succ k =>
      have := ih k
      simp only [List.flatMap_cons, List.set_cons_succ, Ob.cs, List.cons_append, List.nil_append, Nat.succ_mul]
      rw [← this]

def Ob.zero : Ob := ⟨0, ⟨#[]⟩, none, 0, []⟩

theorem made_flat {α : Type} (f : α → List Value) (z : α) (cs : Array Value) (s : Nat) (hs : 0 < s) (hc : cs.toList = f z) (hf : ∀ x, (f x).length = s) (n : Nat) : (madeCells cs (n * s)).toList = (List.replicate n z).flatMap f := by
  have hz : cs.size = s := by rw [← Array.length_toList, hc, hf]
  apply List.ext_getElem?
  intro m
  by_cases hm : m < n * s
  · have e : m = m / s * s + m % s := by rw [Nat.mul_comm]; exact (Nat.div_add_mod m s).symm
    have hj : m % s < s := Nat.mod_lt _ hs
    have hi : m / s < n := Nat.div_lt_of_lt_mul (by rw [Nat.mul_comm]; exact hm)
    have r : ((List.replicate n z).flatMap f)[m]? = (f z)[m % s]? := by
      have h := flat_get f s hf (List.replicate n z) (m / s) (m % s) (by simpa using hi) hj
      rw [← e] at h
      simpa using h
    rw [r, ← hc]
    simp [madeCells, hm, hz, hj, Array.getElem!_eq_getD, Array.getD]
  · rw [List.getElem?_eq_none (by rw [Array.length_toList, size_madeCells]; omega), List.getElem?_eq_none (by rw [flat_len f s hf]; simp; omega)]

/-- Blocks that the call made, as slices of objects and of what is watched. -/
theorem Blk.segW {w : World} {B : Nat} {ws : List (Int × Int)} {t : TypeId} (h : Blk w B (ws.flatMap wc) t) : SegW w (some ⟨B, 0, none⟩) ws := by
  intro hm
  refine ⟨B, 0, rfl, h.lt, fun i hi => ?_⟩
  have g0 := flat_get wc 2 (fun _ => rfl) ws i 0 hi (by omega)
  have g1 := flat_get wc 2 (fun _ => rfl) ws i 1 hi (by omega)
  refine ⟨?_, ?_⟩
  · rw [Nat.zero_add, h.cell]; exact g0
  · rw [Nat.zero_add, h.cell]; exact g1

theorem Blk.segO {w : World} {B : Nat} {os : List Ob} {t : TypeId} (h : Blk w B (os.flatMap Ob.cs) t) (hr : ∀ i (hi : i < os.length), SegI w os[i].ra os[i].r) : SegO w (some ⟨B, 0, none⟩) os := by
  refine ⟨fun hm => ⟨B, 0, rfl, h.lt, fun i hi => ?_⟩, hr⟩
  have g0 := flat_get Ob.cs 3 (fun _ => rfl) os i 0 hi (by omega)
  have g1 := flat_get Ob.cs 3 (fun _ => rfl) os i 1 hi (by omega)
  have g2 := flat_get Ob.cs 3 (fun _ => rfl) os i 2 hi (by omega)
  refine ⟨?_, ?_, ?_⟩
  · rw [Nat.zero_add, h.cell]; exact g0
  · rw [Nat.zero_add, h.cell]; exact g1
  · rw [Nat.zero_add, h.cell]; exact g2

end Go.Proofs.Ytcpnkpogebjieaa
