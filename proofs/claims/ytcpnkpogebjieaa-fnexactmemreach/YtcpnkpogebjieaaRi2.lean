/- The program's own coming to: appending what is new. -/
import Derived.Test.YtcpnkpogebjieaaRi1
namespace Go.Proofs.Ytcpnkpogebjieaa
open Go.RowKit

/-- New blocks, and writes to row r and to block g alone. -/
structure Gr2 (w w' : World) (r : Option Nat) (g : Nat) : Prop where
  os : w'.os = w.os
  tape : w'.tape = w.tape
  output : w'.output = w.output
  size : w.heap.size ≤ w'.heap.size
  block : ∀ k, k < w.heap.size → some k ≠ r → k ≠ g → w'.heap[k]? = w.heap[k]?

theorem Gr2.refl (w : World) (r : Option Nat) (g : Nat) : Gr2 w w r g := ⟨rfl, rfl, rfl, Nat.le_refl _, fun _ _ _ _ => rfl⟩
theorem Gr2.trans {a b c : World} {r : Option Nat} {g : Nat} (h : Gr2 a b r g) (k : Gr2 b c r g) : Gr2 a c r g :=
  ⟨k.os.trans h.os, k.tape.trans h.tape, k.output.trans h.output, Nat.le_trans h.size k.size, fun i hi hr hg => (k.block i (Nat.lt_of_lt_of_le hi h.size) hr hg).trans (h.block i hi hr hg)⟩
theorem Gr2.row {w w' : World} {r : Option Nat} (h : w.grownBy w' r) (g : Nat) : Gr2 w w' r g := ⟨h.os, h.tape, h.output, h.size, fun k hk hr _ => h.block k hk hr⟩
theorem Gr2.at_ {w w' : World} {g : Nat} (h : w.grownBy w' (some g)) (r : Option Nat) : Gr2 w w' r g := ⟨h.os, h.tape, h.output, h.size, fun k hk _ hg => h.block k hk (fun e => hg (by simpa using e))⟩
theorem Gr2.ofBelow {w w' : World} {B : Nat} (h : Below B w w') (hB : w.heap.size ≤ B) (r : Option Nat) (g : Nat) : Gr2 w w' r g := Gr2.row (gb_of_below h hB r) g
theorem Gr2.step {a b c : World} {r s : Option Nat} {g : Nat} (h : Gr2 a b r g) (k : Gr2 b c s g) (hs : s = r ∨ ∃ x, s = some x ∧ a.heap.size ≤ x) : Gr2 a c r g := by
  refine ⟨k.os.trans h.os, k.tape.trans h.tape, k.output.trans h.output, Nat.le_trans h.size k.size, fun i hi hr hg => ?_⟩
  refine (k.block i (Nat.lt_of_lt_of_le hi h.size) ?_ hg).trans (h.block i hi hr hg)
  rcases hs with rfl | ⟨x, rfl, hx⟩
  · exact hr
  · intro e; simp at e; omega
theorem Gr2.below {w w' : World} {B g : Nat} {r : Option Nat} (h : Gr2 w w' r g) (hB : B ≤ w.heap.size) (hr : ∀ k, r = some k → B ≤ k) (hg : B ≤ g) : Below B w w' :=
  ⟨h.os, h.tape, h.output, h.size, fun k hk => h.block k (by omega) (fun e => by have := hr k e.symm; omega) (by omega)⟩
theorem Blk.gr2 {w w' : World} {B t g : Nat} {cs : List Value} {r : Option Nat} (h : Blk w B cs t) (hg : Gr2 w w' r g) (hr : r ≠ some B) (hB : B ≠ g) : Blk w' B cs t := by
  unfold Blk at *
  rw [hg.block B (lt_of_block h) (fun e => hr e.symm) hB]; exact h
theorem SegI.gr2 {w w' : World} {a : Option Addr} {zs : List Int} {r : Option Nat} {g : Nat} (h : SegI w a zs) (hg : Gr2 w w' r g) (hr : AvI a zs.length r) (hb : AvI a zs.length (some g)) : SegI w' a zs := by
  intro hm
  obtain ⟨b, off, h1, h2, h3⟩ := h hm
  exact ⟨b, off, h1, Nat.lt_of_lt_of_le h2 hg.size, fun i hi => (World.cell?_of_block (w := w) (hg.block b h2 (hr hm _ h1) (fun e => hb hm _ h1 (by rw [e])))).trans (h3 i hi)⟩
theorem OwnL.gr2 {w w' : World} {base g : Nat} {v : Value} {zs : List Int} (h : OwnL w base v zs) (hg : w.grownBy w' (some g)) (hne : v.ownBlock ≠ some g) : OwnL w' base v zs := by
  refine World.ownsRow.kept h hg ?_
  exact Or.inr hne

/-- The word of bits tells what is in the list. -/
def Bits (X : Nat) (l : List Int) : Prop := X < 18446744073709551616 ∧ ∀ i : Nat, X.testBit i = decide ((i : Int) ∈ l)

theorem bits_zero : Bits 0 [] := ⟨by omega, fun i => by simp⟩
theorem bits_put {X : Nat} {l : List Int} (h : Bits X l) {n : Nat} (hn : n < 60) : Bits (X ||| 2 ^ n) (put l n) := by
  refine ⟨or_lt X n h.1 hn, fun i => ?_⟩
  rw [Nat.testBit_or, Nat.testBit_two_pow, h.2 i]
  have h0 : ¬ ((n : Int) < 0) := by omega
  by_cases hm : (n : Int) ∈ l
  · have e : put l n = l := by simp [put, hm]
    rw [e]
    by_cases hi : n = i
    · subst hi; simp [hm]
    · simp [hi]
  · have e : put l n = l ++ [(n : Int)] := by simp [put, hm, h0]
    rw [e]
    by_cases hi : n = i
    · subst hi; simp
    · have : ¬ ((i : Int) = (n : Int)) := by omega
      simp [hi, this]

/-- The set as it lies in memory: of n objects, g its block. -/
def SetIn (w : World) (n g : Nat) (l : List Int) : Prop := 0 < n → ∃ X, Blk w g [.int .u64 (X : Nat)] 123 ∧ Bits X l

set_option maxHeartbeats 800000 in
set_option maxRecDepth 100000 in
theorem appendNew_any (base g n : Nat) (v0 : Value) (l0 : List Int) (pa : Option Addr) (pcap : Nat) (ps : List Int) (w : World) (hn : n ≤ 60) (hv : OwnL w base v0 l0) (hb : base ≤ w.heap.size) (hgb : g < base) (hset : SetIn w n g l0) (hpl : Places n l0) (hp : SegI w pa ps) (hpl2 : ps.length ≤ 1048576)
    (hav : AvI pa ps.length v0.ownBlock) (hag : AvI pa ps.length (some g)) (hlt : ∀ z ∈ ps, z < n) :
    Calls Try.prog 61 #[v0, .slice pa ps.length pcap, .agg #[.slice (some ⟨g, 0, none⟩) ((n + 63) / 64) ((n + 63) / 64)]] w fun e w' => ∃ v', e = .returned v' ∧ OwnL w' base v' (putAll l0 ps) ∧ Places n (putAll l0 ps) ∧ SetIn w' n g (putAll l0 ps) ∧ Gr2 w w' v0.ownBlock g ∧ (v'.ownBlock = v0.ownBlock ∨ ∃ x, v'.ownBlock = some x ∧ w.heap.size ≤ x) := by
  obtain ⟨i0, hi, hz0, hz1, hz2⟩ := info_parts info_int
  obtain ⟨a0, cap0, rfl, -⟩ := hv.form
  go_enter Try.func61, Try.ntmps61
  go_wp2
  have hB0 : Below w.heap.size w (w.alloc (Obj.cells #[Value.slice (some ⟨g, 0, none⟩) ((n + 63) / 64) ((n + 63) / 64)] 85)) := (Below.refl _ _).alloc (Nat.le_refl _) _
  have hK0 := Blk.new w [Value.slice (some ⟨g, 0, none⟩) ((n + 63) / 64) ((n + 63) / 64)] 85
  go_loopw [0, 8, 11] (fun v _ i wr => ∃ (j : Nat), i = .int .i64 j ∧ j ≤ ps.length ∧ OwnL wr base v (putAll l0 (ps.take j)) ∧ Places n (putAll l0 (ps.take j)) ∧ SetIn wr n g (putAll l0 (ps.take j)) ∧ Gr2 w wr (Value.slice a0 l0.length cap0).ownBlock g ∧ (v.ownBlock = (Value.slice a0 l0.length cap0).ownBlock ∨ ∃ x, v.ownBlock = some x ∧ w.heap.size ≤ x) ∧ SegI wr pa ps ∧ AvI pa ps.length v.ownBlock ∧ Blk wr w.heap.size [Value.slice (some ⟨g, 0, none⟩) ((n + 63) / 64) ((n + 63) / 64)] 85) (fun _ _ i _ => ps.length - (intOf i).toNat)
  case atStart => exact ⟨0, rfl, Nat.zero_le _, hv.below hB0 (Nat.le_refl _), hpl, fun h => by obtain ⟨X, h1, h2⟩ := hset h; exact ⟨X, h1.alloc _, h2⟩, Gr2.ofBelow hB0 (Nat.le_refl _) _ _, Or.inl rfl, hp.below hB0 (Nat.le_refl _), hav, hK0⟩
  case round =>
    obtain ⟨j, rfl, hjn, hown, hplj, hsetj, hgr, hob, hseg, hav2, hblk⟩ := hrel
    clear hB0 hK0 hv hpl hset hp hav
    obtain ⟨va, vcap, rfl, -⟩ := hown.form
    have hgl := hgr.size
    by_cases hj : j < ps.length
    · have HP : Hid (putAll l0 (ps.take (j + 1)) = put (putAll l0 (ps.take j)) ps[j]) := putAll_snoc l0 ps j hj
      have hz := hlt ps[j] (List.getElem_mem hj)
      have hpj := hplj.len
      obtain ⟨b6, off6, rfl, hb6, d1⟩ := hseg.get hj
      by_cases h0 : ps[j] < 0
      · have e : put (putAll l0 (ps.take j)) ps[j] = putAll l0 (ps.take j) := by simp [put, h0]
        rw [e] at HP
        have hd : decide (0 ≤ ps[j]) = false := by simp; omega
        have A1 : Hid (OwnL wr base (Value.slice va (putAll l0 (ps.take j)).length vcap) (putAll l0 (ps.take (j + 1)))) := by
          show OwnL _ _ _ _
          rw [HP.out]; exact hown
        have A2 : Hid (Places n (putAll l0 (ps.take (j + 1)))) := by
          show Places _ _
          rw [HP.out]; exact hplj
        have A3 : Hid (SetIn wr n g (putAll l0 (ps.take (j + 1)))) := by
          show SetIn _ _ _ _
          rw [HP.out]; exact hsetj
        clear hown hplj hsetj e
        go_wp2
        go_roundw
        case rel => exact ⟨j + 1, by go_num, by omega, A1.out, A2.out, A3.out, hgr, hob, hseg, hav2, hblk⟩
        case measure => simp [intOf]; omega
      · have hn0 : 0 < n := by omega
        have hm1 : (n + 63) / 64 = 1 := by omega
        obtain ⟨X, hX, hbits⟩ := hsetj hn0
        obtain ⟨m, hm⟩ : ∃ m : Nat, ps[j] = (m : Int) := ⟨ps[j].toNat, by omega⟩
        rw [hm] at d1 HP hz h0
        have hm60 : m < 60 := by omega
        have hc0 := hblk.cell 0
        simp only [List.getElem?_cons_zero] at hc0
        rw [hm1] at hc0
        have c3 := add_any g X m wr hm60 hbits.1 hX
        have hX2 := bits_put hbits hm60
        have htb := hbits.2 m
        have hng := hown.ne hX (by decide)
        have hnb := hown.ne hblk (by decide)
        have hgne : w.heap.size ≠ g := by omega
        have hd0 : decide (0 ≤ (m : Int)) = true := by simp
        have hmn : m < n := by omega
        clear hm hz hm1
        go_wp2_with fail
        refine c3.mono ?_
        rintro e w1 ⟨rfl, hX1, hg1⟩
        have hown1 := hown.gr2 hg1 hng
        have hgr1 := hgr.trans (Gr2.at_ hg1 _)
        have hseg1 := hseg.grown hg1 hag
        have hblk1 := hblk.grown hg1 (fun e => hgne (by simpa using e.symm))
        have hs1 := hg1.size
        clear c3 hX d1 hc0
        by_cases hmem : (m : Int) ∈ putAll l0 (ps.take j)
        · have e : put (putAll l0 (ps.take j)) m = putAll l0 (ps.take j) := by simp [put, hmem]
          rw [e] at HP hX2
          have hbt : X.testBit m = true := by rw [htb]; simpa using hmem
          have A1 : Hid (OwnL w1 base (Value.slice va (putAll l0 (ps.take j)).length vcap) (putAll l0 (ps.take (j + 1)))) := by
            show OwnL _ _ _ _
            rw [HP.out]; exact hown1
          have A2 : Hid (Places n (putAll l0 (ps.take (j + 1)))) := by
            show Places _ _
            rw [HP.out]; exact hplj
          have A3 : Hid (SetIn w1 n g (putAll l0 (ps.take (j + 1)))) := by
            show SetIn _ _ _ _
            rw [HP.out]; exact fun _ => ⟨_, hX1, hX2⟩
          clear hown hown1 hplj hsetj e hmem htb hX1 hX2 hbits hng hnb
          go_wp2
          go_roundw
          case rel => exact ⟨j + 1, by go_num, by omega, A1.out, A2.out, A3.out, hgr1, hob, hseg1, hav2, hblk1⟩
          case measure => simp [intOf]; omega
        · have hneg : ¬ ((m : Int) < 0) := by omega
          have e : put (putAll l0 (ps.take j)) m = putAll l0 (ps.take j) ++ [(m : Int)] := by simp [put, hmem, hneg]
          have hbt : X.testBit m = false := by rw [htb]; simpa using hmem
          have A2 : Hid (Places n (putAll l0 (ps.take (j + 1)))) := by
            show Places _ _
            rw [HP.out]; exact hplj.put (by omega)
          rw [e] at HP hX2
          have hvA : (w1.alloc (Obj.cells #[Value.int .i64 (m : Int)] 3)).ownsRow base 3 1 (.slice va (putAll l0 (ps.take j)).length vcap) (putAll l0 (ps.take j)).length ((putAll l0 (ps.take j)).map (Value.int .i64)) := World.ownsRow.alloc hown1 _
          clear e hmem htb hbits
          go_wp2_with (at_builtin; refine wpList_append_own_at _ rfl _ _ 24 rfl base 3 i0 (.int .i64 0) 1 8 Try.underlying24 hi hz0 hz1 hz2 rfl (by decide) _ _ _ rfl hvA ⟨w1.heap.size, 0, none⟩ 1 1 [.int .i64 (m : Int)] rfl rfl (cell_one_new _ _ _) ?c2 ?c3 ?c4 ?c5 ?_)
          case c2 => intro u hu; simp at hu; subst hu; rfl
          case c3 => unfold maxLen; omega
          case c4 => omega
          case c5 => simp; omega
          intro v' w2 hown2 hgr2 _ hat
          have hg0 : w1.grownBy w2 (Value.slice va (putAll l0 (ps.take j)).length vcap).ownBlock := gb_trans (gb_of_below ((Below.refl w1.heap.size w1).alloc (Nat.le_refl _) _) (Nat.le_refl _) _) hgr2
          have hat' : v'.ownBlock = (Value.slice va (putAll l0 (ps.take j)).length vcap).ownBlock ∨ ∃ x, v'.ownBlock = some x ∧ w1.heap.size ≤ x := by
            rcases hat with h | h
            · exact Or.inl h
            · exact Or.inr ⟨_, h, by simp⟩
          have B1 := own_chain hob hat' (Nat.le_trans hgl hs1)
          have B2 := hgr1.step (Gr2.row hg0 g) hob
          have B3 := hseg1.grown hg0 hav2
          have B4 : AvI (some ⟨b6, off6, none⟩) ps.length v'.ownBlock := by
            rcases hat' with e | ⟨x, e, hx⟩
            · rw [e]; exact hav2
            · rw [e]; exact hseg1.av hx
          have B5 := hblk1.grown hg0 hnb
          have B6 := hX1.grown hg0 hng
          have A1 : Hid (OwnL w2 base v' (putAll l0 (ps.take (j + 1)))) := by
            show OwnL _ _ _ _
            rw [HP.out]
            unfold OwnL
            simpa using hown2
          have A3 : Hid (SetIn w2 n g (putAll l0 (ps.take (j + 1)))) := by
            show SetIn _ _ _ _
            rw [HP.out]; exact fun _ => ⟨_, B6, hX2⟩
          clear hown hown1 hplj hsetj hX1 hX2 hng hnb hown2 hgr2 hat hg0 hat' B6 hvA
          go_wp2
          go_roundw
          case rel => exact ⟨j + 1, by go_num, by omega, A1.out, A2.out, A3.out, B2, B1, B3, B4, B5⟩
          case measure => simp [intOf]; omega
    · have ej : ps.take j = ps := List.take_of_length_le (by omega)
      have hown2 : Hid (OwnL wr base (Value.slice va (putAll l0 (ps.take j)).length vcap) (putAll l0 ps)) := by
        show OwnL _ _ _ _
        rw [ej] at hown ⊢; exact hown
      rw [ej] at hplj hsetj
      have hjd : decide ((j : Int) < (ps.length : Int)) = false := by simp; omega
      clear ej hown
      go_wp2
      go_ret
      exact ⟨_, rfl, hown2.out, hplj, hsetj, hgr, hob⟩
end Go.Proofs.Ytcpnkpogebjieaa
