/- What can be come to, as a plain function; rows that a call owns and grows. No Go function is walked here. -/
import Derived.Test.YtcpnkpogebjieaaOk
import Derived.Maps.AppendAt
namespace Go.Proofs.Ytcpnkpogebjieaa
open Go.RowKit

/- Growing rows. -/
theorem gb_refl (w : World) (r : Option Nat) : w.grownBy w r := ⟨rfl, rfl, rfl, Nat.le_refl _, fun _ _ _ => rfl⟩
theorem gb_trans {a b c : World} {r : Option Nat} (h : a.grownBy b r) (k : b.grownBy c r) : a.grownBy c r :=
  ⟨k.os.trans h.os, k.tape.trans h.tape, k.output.trans h.output, Nat.le_trans h.size k.size, fun i hi hr => (k.block i (Nat.lt_of_lt_of_le hi h.size) hr).trans (h.block i hi hr)⟩
theorem gb_of_below {w w' : World} {B : Nat} (h : Below B w w') (hB : w.heap.size ≤ B) (r : Option Nat) : w.grownBy w' r :=
  ⟨h.os, h.tape, h.output, h.size, fun k hk _ => h.block k (by omega)⟩
theorem gb_below {w w' : World} {B : Nat} {r : Option Nat} (h : w.grownBy w' r) (hB : B ≤ w.heap.size) (hr : ∀ k, r = some k → B ≤ k) : Below B w w' :=
  (Below.refl B w).grown h hB hr
/-- A step that writes row s, where s is the row r of before or one that was made since. -/
theorem gb_step {a b c : World} {r s : Option Nat} (h : a.grownBy b r) (k : b.grownBy c s) (hs : s = r ∨ ∃ g, s = some g ∧ a.heap.size ≤ g) : a.grownBy c r := by
  refine ⟨k.os.trans h.os, k.tape.trans h.tape, k.output.trans h.output, Nat.le_trans h.size k.size, fun i hi hr => ?_⟩
  refine (k.block i (Nat.lt_of_lt_of_le hi h.size) ?_).trans (h.block i hi hr)
  rcases hs with rfl | ⟨g, rfl, hg⟩
  · exact hr
  · intro e; simp at e; omega

/-- A list of numbers that the call owns. -/
def OwnL (w : World) (base : Nat) (v : Value) (zs : List Int) : Prop := w.ownsRow base 3 1 v zs.length (zs.map (Value.int .i64))

theorem OwnL.form {w : World} {base : Nat} {v : Value} {zs : List Int} (h : OwnL w base v zs) : ∃ a cap, v = .slice a zs.length cap ∧ SegI w a zs ∧ (zs.length ≤ cap ∧ cap ≤ maxLen) := by
  rcases h.2 with ⟨h1, h2⟩ | ⟨g, cap, cur, h1, hg, hh, hn, hc, hs, htake⟩
  · refine ⟨none, 0, by rw [h1, h2], fun hm => by omega, by omega, Nat.zero_le _⟩
  · refine ⟨some ⟨g, 0, none⟩, cap, h1, fun hm => ⟨g, 0, rfl, lt_of_block hh, fun i hi => ?_⟩, hn, hc⟩
    have h' : w.ownsRow base 3 1 (.slice (some ⟨g, 0, none⟩) zs.length cap) zs.length (zs.map (Value.int .i64)) := by rw [← h1]; exact h
    rw [Nat.zero_add, h'.cellAt i (by omega)]
    simp [List.getD, List.getElem?_eq_getElem hi]
theorem OwnL.kept {w w' : World} {base : Nat} {v : Value} {zs : List Int} {r : Option Nat} (h : OwnL w base v zs) (hg : w.grownBy w' r) (hne : v.ownBlock = none ∨ v.ownBlock ≠ r) : OwnL w' base v zs := World.ownsRow.kept h hg hne
theorem OwnL.below {w w' : World} {base B : Nat} {v : Value} {zs : List Int} (h : OwnL w base v zs) (hb : Below B w w') (hB : w.heap.size ≤ B) : OwnL w' base v zs := by
  refine World.ownsRow.kept h (gb_of_below hb hB none) ?_
  cases e : v.ownBlock with
  | none => exact Or.inl rfl
  | some k => exact Or.inr (by simp)
theorem OwnL.lt {w : World} {base : Nat} {v : Value} {zs : List Int} (h : OwnL w base v zs) : ∀ k, v.ownBlock = some k → base ≤ k ∧ k < w.heap.size := World.ownsRow.lt h
theorem OwnL.base {w : World} {B C : Nat} {v : Value} {zs : List Int} (h : OwnL w B v zs) (hC : C ≤ B) : OwnL w C v zs := by
  refine ⟨h.1, ?_⟩
  rcases h.2 with h1 | ⟨g, cap, cur, h1, hg, r⟩
  · exact Or.inl h1
  · exact Or.inr ⟨g, cap, cur, h1, Nat.le_trans hC hg, r⟩
/-- A block of another element type is not the list's row. -/
theorem OwnL.ne {w : World} {base : Nat} {v : Value} {zs : List Int} (h : OwnL w base v zs) {B t : Nat} {cs : List Value} (hb : Blk w B cs t) (ht : t ≠ 3) : v.ownBlock ≠ some B := by
  intro e
  rcases h.2 with ⟨h1, _⟩ | ⟨g, cap, cur, h1, hg, hh, _⟩
  · rw [h1] at e; simp [Value.ownBlock] at e
  · rw [h1] at e
    simp [Value.ownBlock] at e
    subst e
    unfold Blk at hb
    rw [hb] at hh
    simp at hh
    exact ht hh.2
theorem Blk.grown {w w' : World} {B t : Nat} {cs : List Value} {r : Option Nat} (h : Blk w B cs t) (hg : w.grownBy w' r) (hr : r ≠ some B) : Blk w' B cs t := by
  unfold Blk at *
  rw [hg.block B (lt_of_block h) (fun e => hr e.symm)]; exact h

theorem own_chain {v0 v v' : Value} {a b : Nat} (h : v.ownBlock = v0.ownBlock ∨ ∃ g, v.ownBlock = some g ∧ a ≤ g) (h' : v'.ownBlock = v.ownBlock ∨ ∃ g, v'.ownBlock = some g ∧ b ≤ g) (hab : a ≤ b) : v'.ownBlock = v0.ownBlock ∨ ∃ g, v'.ownBlock = some g ∧ a ≤ g := by
  rcases h' with h' | ⟨g, e, hg⟩
  · rw [h']; exact h
  · exact Or.inr ⟨g, e, by omega⟩

/-- A heap's four cells in a block of its own. -/
theorem cells4' {w : World} {B t : Nat} {h : Hp} (hk : Blk w B [Value.slice h.oa h.os.length h.ocap, Value.slice h.ra h.rs.length h.rcap, Value.slice h.wa h.ws.length h.wcap, Value.slice h.da h.ds.length h.dcap] t) :
    w.cell? ⟨B, 0, none⟩ = some (.slice h.oa h.os.length h.ocap) ∧ w.cell? ⟨B, 1, none⟩ = some (.slice h.ra h.rs.length h.rcap) ∧ w.cell? ⟨B, 2, none⟩ = some (.slice h.wa h.ws.length h.wcap) ∧ w.cell? ⟨B, 3, none⟩ = some (.slice h.da h.ds.length h.dcap) :=
  ⟨hk.cell 0, hk.cell 1, hk.cell 2, hk.cell 3⟩

/-- A slice lies outside row r. -/
def AvI (a : Option Addr) (n : Nat) (r : Option Nat) : Prop := 0 < n → ∀ x, a = some x → some x.block ≠ r
structure HpAv (h : Hp) (r : Option Nat) : Prop where
  ao : AvI h.oa h.os.length r
  aoo : ∀ i (hi : i < h.os.length), AvI h.os[i].ra h.os[i].r.length r
  ar : AvI h.ra h.rs.length r
  aw : AvI h.wa h.ws.length r
  ad : AvI h.da h.ds.length r

theorem SegI.grown {w w' : World} {a : Option Addr} {zs : List Int} {r : Option Nat} (h : SegI w a zs) (hg : w.grownBy w' r) (hr : AvI a zs.length r) : SegI w' a zs := by
  intro hm
  obtain ⟨b, off, h1, h2, h3⟩ := h hm
  exact ⟨b, off, h1, Nat.lt_of_lt_of_le h2 hg.size, fun i hi => (World.cell?_of_block (w := w) (hg.block b h2 (hr hm _ h1))).trans (h3 i hi)⟩
theorem SegW.grown {w w' : World} {a : Option Addr} {ws : List (Int × Int)} {r : Option Nat} (h : SegW w a ws) (hg : w.grownBy w' r) (hr : AvI a ws.length r) : SegW w' a ws := by
  intro hm
  obtain ⟨b, off, h1, h2, h3⟩ := h hm
  have hb := hg.block b h2 (hr hm _ h1)
  exact ⟨b, off, h1, Nat.lt_of_lt_of_le h2 hg.size, fun i hi => ⟨(World.cell?_of_block (w := w) (a := ⟨b, _, none⟩) hb).trans (h3 i hi).1, (World.cell?_of_block (w := w) (a := ⟨b, _, none⟩) hb).trans (h3 i hi).2⟩⟩
theorem SegO.grown {w w' : World} {a : Option Addr} {os : List Ob} {r : Option Nat} (h : SegO w a os) (hg : w.grownBy w' r) (hr : AvI a os.length r) (hrr : ∀ i (hi : i < os.length), AvI os[i].ra os[i].r.length r) : SegO w' a os := by
  refine ⟨fun hm => ?_, fun i hi => (h.2 i hi).grown hg (hrr i hi)⟩
  obtain ⟨b, off, h1, h2, h3⟩ := h.1 hm
  have hb := hg.block b h2 (hr hm _ h1)
  exact ⟨b, off, h1, Nat.lt_of_lt_of_le h2 hg.size, fun i hi => ⟨(World.cell?_of_block (w := w) (a := ⟨b, _, none⟩) hb).trans (h3 i hi).1, (World.cell?_of_block (w := w) (a := ⟨b, _, none⟩) hb).trans (h3 i hi).2.1, (World.cell?_of_block (w := w) (a := ⟨b, _, none⟩) hb).trans (h3 i hi).2.2⟩⟩
theorem HpIn.grown {w w' : World} {h : Hp} {r : Option Nat} (hh : HpIn w h) (hg : w.grownBy w' r) (hr : HpAv h r) : HpIn w' h :=
  ⟨hh.so.grown hg hr.ao hr.aoo, hh.sr.grown hg hr.ar, hh.sw.grown hg hr.aw, hh.sd.grown hg hr.ad⟩

theorem SegI.av {w : World} {a : Option Addr} {zs : List Int} (h : SegI w a zs) {g : Nat} (hg : w.heap.size ≤ g) : AvI a zs.length (some g) := fun hm x hx => by
  obtain ⟨b, off, h1, h2, _⟩ := h hm
  rw [h1] at hx
  simp at hx
  subst hx
  intro e; simp at e; omega
theorem HpIn.av {w : World} {h : Hp} (hh : HpIn w h) {g : Nat} (hg : w.heap.size ≤ g) : HpAv h (some g) := by
  refine ⟨fun hm x hx => ?_, fun i hi => (hh.so.2 i hi).av hg, hh.sr.av hg, fun hm x hx => ?_, fun hm x hx => ?_⟩
  · obtain ⟨b, off, h1, h2, _⟩ := hh.so.1 hm
    rw [h1] at hx; simp at hx; subst hx
    intro e; simp at e; omega
  · obtain ⟨b, off, h1, h2, _⟩ := hh.sw hm
    rw [h1] at hx; simp at hx; subst hx
    intro e; simp at e; omega
  · obtain ⟨b, off, h1, h2, _⟩ := hh.sd hm
    rw [h1] at hx; simp at hx; subst hx
    intro e; simp at e; omega
theorem AvI.none (a : Option Addr) (n : Nat) : AvI a n .none := fun _ x _ e => by cases e
theorem HpAv.none (h : Hp) : HpAv h .none := ⟨AvI.none _ _, fun _ _ => AvI.none _ _, AvI.none _ _, AvI.none _ _, AvI.none _ _⟩

/- Plain. -/
def put (l : List Int) (n : Int) : List Int := if n < 0 ∨ n ∈ l then l else l ++ [n]
def putAll (l ns : List Int) : List Int := ns.foldl put l
def nextP (os : List (Int × ByteArray × List Int)) (ds : List (Int × Int)) (at_ : Int) : List Int :=
  match os[at_.toNat]? with
  | none => []
  | some o => if o.1 = 3 then o.2.2.drop 1 else if o.1 = 4 then (ds.filter fun p => p.1 == at_).map fun p => p.2 else o.2.2
def traceF (os : List (Int × ByteArray × List Int)) (ds : List (Int × Int)) : Nat → Nat → List Int → List Int
  | 0, _, l => l
  | f + 1, i, l => if i < l.length then traceF os ds f (i + 1) (putAll l (nextP os ds (l.getD i 0))) else l
def reachP (x : List (Int × ByteArray × List Int) × List Int × List (Int × Int) × List (Int × Int)) : List Int :=
  if okP x then traceF x.1 x.2.2.2 61 0 (putAll [] x.2.1) else []

/-- Places of n objects, each once. -/
structure Places (n : Nat) (l : List Int) : Prop where
  rng : ∀ z ∈ l, 0 ≤ z ∧ z < n
  nd : l.Nodup

theorem Places.nil (n : Nat) : Places n [] := ⟨fun _ h => by simp at h, List.nodup_nil⟩
theorem Places.put {n : Nat} {l : List Int} (h : Places n l) {z : Int} (hz : z < n) : Places n (put l z) := by
  unfold Go.Proofs.Ytcpnkpogebjieaa.put
  split
  · exact h
  · rename_i hn
    refine ⟨fun y hy => ?_, ?_⟩
    · rcases List.mem_append.1 hy with hy | hy
      · exact h.rng y hy
      · simp at hy; subst hy; omega
    · rw [List.nodup_append]
      refine ⟨h.nd, by simp, fun a ha b hb => ?_⟩
      simp at hb
      subst hb
      intro e
      subst e
      exact hn (Or.inr ha)
theorem Places.putAll {n : Nat} {l ns : List Int} (h : Places n l) (hn : ∀ z ∈ ns, z < n) : Places n (putAll l ns) := by
  unfold Go.Proofs.Ytcpnkpogebjieaa.putAll
  induction ns generalizing l with
  | nil => exact h
  | cons z ns ih => exact ih (h.put (hn z (by simp))) (fun y hy => hn y (by simp [hy]))
theorem nodup_len (n : Nat) : ∀ (l : List Nat), l.Nodup → (∀ x ∈ l, x < n) → l.length ≤ n := by
  induction n with
  | zero =>
    intro l _ h
    cases l with
    | nil => simp
    | cons a l => exact absurd (h a (by simp)) (by omega)
  | succ n ih =>
    intro l hnd h
    by_cases hm : n ∈ l
    · have h1 := ih (l.erase n) (hnd.erase n) (fun x hx => by
        have := hnd.mem_erase_iff.1 hx
        have := h x this.2
        omega)
      rw [List.length_erase_of_mem hm] at h1
      omega
    · have h1 := ih l hnd (fun x hx => by
        have := h x hx
        have : x ≠ n := fun e => hm (e ▸ hx)
        omega)
      omega
theorem Places.len {n : Nat} {l : List Int} (h : Places n l) : l.length ≤ n := by
  have hnd : (l.map Int.toNat).Nodup := by
    rw [List.Nodup, List.pairwise_map]
    refine List.Pairwise.imp_of_mem ?_ h.nd
    intro a b ha hb hab
    have h1 := h.rng a ha
    have h2 := h.rng b hb
    intro e
    apply hab
    omega
  have := nodup_len n _ hnd (fun x hx => by
    obtain ⟨z, hz, rfl⟩ := List.mem_map.1 hx
    have := h.rng z hz
    omega)
  simpa using this
theorem put_le (l : List Int) (z : Int) : l.length ≤ (put l z).length := by
  unfold put; split <;> simp
theorem putAll_le (l ns : List Int) : l.length ≤ (putAll l ns).length := by
  unfold putAll
  induction ns generalizing l with
  | nil => exact Nat.le_refl _
  | cons z ns ih => exact Nat.le_trans (put_le l z) (ih _)
theorem putAll_pre (l ns : List Int) : ∃ t, putAll l ns = l ++ t := by
  unfold putAll
  induction ns generalizing l with
  | nil => exact ⟨[], by simp⟩
  | cons z ns ih =>
    obtain ⟨t, ht⟩ := ih (put l z)
    have hp : ∃ s, put l z = l ++ s := by
      unfold put
      split
      · exact ⟨[], by simp⟩
      · exact ⟨[z], rfl⟩
    obtain ⟨s, hs⟩ := hp
    refine ⟨s ++ t, ?_⟩
    rw [List.foldl_cons, ht, hs, List.append_assoc]
theorem putAll_take (l ns : List Int) (k : Nat) (hk : k ≤ l.length) : (putAll l ns).take k = l.take k := by
  obtain ⟨t, ht⟩ := putAll_pre l ns
  rw [ht, List.take_append_of_le_length hk]
theorem traceF_le (os : List (Int × ByteArray × List Int)) (ds : List (Int × Int)) (f i : Nat) (l : List Int) : l.length ≤ (traceF os ds f i l).length := by
  induction f generalizing i l with
  | zero => exact Nat.le_refl _
  | succ f ih =>
    unfold traceF
    split
    · exact Nat.le_trans (putAll_le _ _) (ih _ _)
    · exact Nat.le_refl _
theorem putAll_snoc (l ns : List Int) (k : Nat) (hk : k < ns.length) : putAll l (ns.take (k + 1)) = put (putAll l (ns.take k)) ns[k] := by
  unfold putAll
  rw [List.take_succ_eq_append_getElem hk, List.foldl_append]; rfl

end Go.Proofs.Ytcpnkpogebjieaa
