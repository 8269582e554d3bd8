/- The laws' own marks: in a heap that the law made. Only its own blocks turn. -/
import Derived.Test.YtcpnkpogebjieaaMk1
namespace Go.Proofs.Ytcpnkpogebjieaa
open Go.RowKit

/-- New blocks, and writes to blocks from lo to below hi alone. -/
structure Rg (lo hi : Nat) (w w' : World) : Prop where
  os : w'.os = w.os
  tape : w'.tape = w.tape
  output : w'.output = w.output
  size : w.heap.size ≤ w'.heap.size
  block : ∀ k, k < w.heap.size → (k < lo ∨ hi ≤ k) → w'.heap[k]? = w.heap[k]?

theorem Rg.refl (lo hi : Nat) (w : World) : Rg lo hi w w := ⟨rfl, rfl, rfl, Nat.le_refl _, fun _ _ _ => rfl⟩
theorem Rg.trans {lo hi : Nat} {a b c : World} (h : Rg lo hi a b) (k : Rg lo hi b c) : Rg lo hi a c :=
  ⟨k.os.trans h.os, k.tape.trans h.tape, k.output.trans h.output, Nat.le_trans h.size k.size, fun i hi hr => (k.block i (Nat.lt_of_lt_of_le hi h.size) hr).trans (h.block i hi hr)⟩
theorem Rg.gb {lo hi g : Nat} {w w' : World} (h : w.grownBy w' (some g)) (h1 : lo ≤ g) (h2 : g < hi) : Rg lo hi w w' :=
  ⟨h.os, h.tape, h.output, h.size, fun k hk hr => h.block k hk (fun e => by simp at e; omega)⟩
theorem Rg.bel {lo hi B : Nat} {w w' : World} (h : Below B w w') (hB : w.heap.size ≤ B) : Rg lo hi w w' :=
  ⟨h.os, h.tape, h.output, h.size, fun k hk _ => h.block k (by omega)⟩
theorem Rg.below {lo hi : Nat} {w w' : World} (h : Rg lo hi w w') (hl : lo ≤ w.heap.size) : Below lo w w' :=
  ⟨h.os, h.tape, h.output, h.size, fun k hk => h.block k (by omega) (Or.inl hk)⟩
theorem Rg.wide {lo hi lo' hi' : Nat} {w w' : World} (h : Rg lo hi w w') (h1 : lo' ≤ lo) (h2 : hi ≤ hi') : Rg lo' hi' w w' :=
  ⟨h.os, h.tape, h.output, h.size, fun k hk hr => h.block k hk (by omega)⟩
theorem Blk.rg {lo hi : Nat} {w w' : World} {B t : Nat} {cs : List Value} (h : Blk w B cs t) (hr : Rg lo hi w w') (hB : B < lo ∨ hi ≤ B) : Blk w' B cs t := by
  unfold Blk at *
  rw [hr.block B (lt_of_block h) hB]; exact h
theorem OwnL.rg {lo hi : Nat} {w w' : World} {base : Nat} {v : Value} {zs : List Int} (h : OwnL w base v zs) (hr : Rg lo hi w w') (hB : ∀ k, v.ownBlock = some k → k < lo ∨ hi ≤ k) : OwnL w' base v zs := by
  refine ⟨h.1, ?_⟩
  rcases h.2 with h1 | ⟨g, cap, cur, h1, hg, hh, r⟩
  · exact Or.inl h1
  · refine Or.inr ⟨g, cap, cur, h1, hg, ?_, r⟩
    rw [hr.block g (lt_of_block hh) (hB g (by rw [h1]; rfl))]; exact hh

/-- Objects that may be marked: their cells in block go, their parts in blocks of their own. -/
structure Mk (w : World) (go hi : Nat) (l : List Ob) : Prop where
  cells : ∃ cs, Blk w go cs 52 ∧ cs.length = l.length * 3 ∧ ∀ i (h : i < l.length), cs[i * 3 + 2]? = some (.slice l[i].ra l[i].r.length l[i].rcap)
  parts : ∀ i (h : i < l.length), ∃ g cs, l[i].ra = some ⟨g, 0, none⟩ ∧ go < g ∧ g < hi ∧ l[i].rcap = l[i].r.length ∧ Blk w g cs 3 ∧ cs.length = l[i].r.length

theorem Mk.below {w w' : World} {go hi : Nat} {l : List Ob} {B : Nat} (h : Mk w go hi l) (hb : Below B w w') (hB : w.heap.size ≤ B) : Mk w' go hi l := by
  refine ⟨?_, fun i hi => ?_⟩
  · obtain ⟨cs, h1, h2⟩ := h.cells
    exact ⟨cs, h1.below hb (Nat.lt_of_lt_of_le h1.lt hB), h2⟩
  · obtain ⟨g, cs, h1, h2, h3, h4, h5, h6⟩ := h.parts i hi
    exact ⟨g, cs, h1, h2, h3, h4, h5.below hb (Nat.lt_of_lt_of_le h5.lt hB), h6⟩

/-- A store into the first or the second cell of an object. -/
theorem Mk.store {w : World} {go hi : Nat} {l : List Ob} (h : Mk w go hi l) (j : Nat) (v : Value) (hj : j % 3 ≠ 2) : Mk (w.setCell ⟨go, j, none⟩ v) go hi l := by
  refine ⟨?_, fun i hi => ?_⟩
  · obtain ⟨cs, h1, h2, h3⟩ := h.cells
    refine ⟨_, h1.store j v, by simpa using h2, fun i hi => ?_⟩
    rw [List.getElem?_set_ne (by omega)]
    exact h3 i hi
  · obtain ⟨g, cs, h1, h2, h3, h4, h5, h6⟩ := h.parts i hi
    exact ⟨g, cs, h1, h2, h3, h4, h5.other _ _ (by dsimp only; omega), h6⟩

/-- One object's parts are marked. -/
theorem Mk.part {w w' : World} {go hi : Nat} {l : List Ob} (h : Mk w go hi l) {g : Nat} {cs cs' : List Value} (hg : w.grownBy w' (some g)) (hgo : go < g) (hb : Blk w g cs 3) (hb' : Blk w' g cs' 3) (hl : cs'.length = cs.length) : Mk w' go hi l := by
  refine ⟨?_, fun i hi => ?_⟩
  · obtain ⟨c, h1, h2⟩ := h.cells
    exact ⟨c, h1.grown hg (fun e => by simp at e; omega), h2⟩
  · obtain ⟨x, c, h1, h2, h3, h4, h5, h6⟩ := h.parts i hi
    by_cases e : x = g
    · subst e
      have e1 : c = cs := by
        unfold Blk at h5 hb
        rw [h5] at hb
        simpa using hb
      subst e1
      exact ⟨x, cs', h1, h2, h3, h4, hb', by omega⟩
    · exact ⟨x, c, h1, h2, h3, h4, h5.grown hg (fun q => e (by simpa using q.symm)), h6⟩

set_option maxHeartbeats 800000 in
set_option maxRecDepth 100000 in
theorem markMemObjS_any (go hi : Nat) (l : List Ob) (cap : Nat) (k : Int) (w : World) (hn : l.length ≤ 1048576) (hr : ∀ i (h : i < l.length), l[i].r.length ≤ 1048576) (h0 : 0 ≤ k) (h1 : k ≤ 1000000) (hgo : go < hi) (hm : Mk w go hi l) :
    Calls Try.prog 44 #[.slice (some ⟨go, 0, none⟩) l.length cap, .int .i64 k] w fun e w' => ∃ q : Int, e = .returned (.int .i64 q) ∧ 0 ≤ q ∧ q ≤ 10000000000000 ∧ Rg go hi w w' := by
  go_enter Try.func44, Try.ntmps44
  go_wp2
  go_loopw [1, 5] (fun c i wr => ∃ (j : Nat) (q : Int), j ≤ l.length ∧ i = .int .i64 j ∧ c = .int .i64 q ∧ 0 ≤ q ∧ q ≤ 1000000 + 1048578 * j ∧ Mk wr go hi l ∧ Rg go hi w wr) (fun _ i _ => l.length - (intOf i).toNat)
  case atStart => exact ⟨0, k, Nat.zero_le _, rfl, rfl, h0, by omega, hm, Rg.refl _ _ _⟩
  case round =>
    obtain ⟨j, q, hj, rfl, rfl, hq0, hq1, hmr, hrg⟩ := hrel
    clear hm
    by_cases hlt : j < l.length
    · obtain ⟨cs, hblk, hlen, hc2⟩ := hmr.cells
      have hrl := hr j hlt
      have f0 := hblk.free (j * 3)
      have f1 := hblk.free (j * 3 + 1)
      obtain ⟨v0, q0⟩ : ∃ v, wr.cell? ⟨go, j * 3, none⟩ = some v := ⟨_, (hblk.cell _).trans (List.getElem?_eq_getElem (by omega))⟩
      have hm1 := hmr.store (j * 3) (.int .i64 q) (by omega)
      have hrg1 := hrg.trans (Rg.gb (hi := hi) (gb_set wr go (j * 3) (.int .i64 q)) (Nat.le_refl _) hgo)
      clear hblk hlen hc2
      go_wp2_with fail
      refine (markText_any _ _ (by omega) (by omega)).mono ?_
      rintro e w1 ⟨rfl, hb1⟩
      have hm2 := hm1.below hb1 (Nat.le_refl _)
      have hrg2 := hrg1.trans (Rg.bel hb1 (Nat.le_refl _))
      obtain ⟨cs, hblk, hlen, hc2⟩ := hm2.cells
      have f2 := hblk.free (j * 3 + 1)
      obtain ⟨v1, q1⟩ : ∃ v, w1.cell? ⟨go, j * 3 + 1, none⟩ = some v := ⟨_, (hblk.cell _).trans (List.getElem?_eq_getElem (by omega))⟩
      have q2 := (hblk.cell (j * 3 + 2)).trans (hc2 j hlt)
      have hm3 := hm2.store (j * 3 + 1) (.string (mt (q + 1))) (by omega)
      have hrg3 := hrg2.trans (Rg.gb (hi := hi) (gb_set w1 go (j * 3 + 1) (.string (mt (q + 1)))) (Nat.le_refl _) hgo)
      obtain ⟨g, pcs, e1, g1, g2, e2, hpb, hpl⟩ := hm3.parts j hlt
      rw [e1, e2] at q2
      have c5 := markIntS_blk g l[j].r.length pcs (q + 1 + 1) _ hpl hrl (by omega) (by omega) hpb
      clear hblk hlen hc2 hb1 hm1 hrg1 hm2 hrg2 hmr hrg e1 e2 f0 f1 q0
      go_wp2_with fail
      refine c5.mono ?_
      rintro e w2 ⟨rfl, hpb2, hg2⟩
      have hm4 := hm3.part hg2 g1 hpb hpb2 (by simp [marks, hpl])
      have hrg4 := hrg3.trans (Rg.gb (lo := go) (hi := hi) hg2 (by omega) g2)
      clear c5 hm3 hrg3 hpb hpb2 hg2 q2 q1 f2
      go_wp2
      go_roundw
      case rel => exact ⟨j + 1, q + 1 + 1 + l[j].r.length, by omega, by go_num, rfl, by omega, by omega, hm4, hrg4⟩
      case measure => simp [intOf]; omega
    · go_wp2
      go_ret
      exact ⟨_, rfl, hq0, by omega, hrg⟩

theorem OwnH.markable {w : World} {B go gr gw gd : Nat} {h : Hp} (hh : OwnH w B h go gr gw gd) : Mk w go gr h.os := by
  refine ⟨⟨_, hh.bo, flat_len Ob.cs 3 (fun _ => rfl) _, fun i hi => ?_⟩, fun i hi => ?_⟩
  · exact flat_get Ob.cs 3 (fun _ => rfl) h.os i 2 hi (by omega)
  · obtain ⟨g, h1, h2, h3, h4⟩ := hh.own i hi
    exact ⟨g, _, h1, by omega, hh.olt i hi g h1, h3, h4, by simp⟩

set_option maxHeartbeats 1600000 in
set_option maxRecDepth 100000 in
theorem markMemHeap_any (B go gr gw gd : Nat) (h : Hp) (w : World) (hs : Small h) (hh : OwnH w B h go gr gw gd) :
    Calls Try.prog 19 #[h.v, .int .i64 1] w fun e w' => ∃ q : Int, e = .returned (.int .i64 q) ∧ 0 ≤ q ∧ Rg go (gd + 1) w w' := by
  have hmk := hh.markable
  have hgd := hh.bd.lt
  obtain ⟨oa, ocap, os, ra, rcap, rs, wa, wcap, ws, da, dcap, ds⟩ := h
  obtain ⟨e1, e2, e3, e4, e5, e6, e7, e8, _, lt1, lt2, lt3, _, _, _, br, bw, bd⟩ := hh
  dsimp only at e1 e2 e3 e4 e5 e6 e7 e8 br bw bd
  subst e1 e2 e3 e4 e5 e6 e7 e8
  obtain ⟨so, soo, sr, sw, sd⟩ := hs
  simp only [Hp.v] at *
  go_enter Try.func19, Try.ntmps19
  have hA : Below w.heap.size w (w.alloc (Obj.cells #[Value.slice (some ⟨go, 0, none⟩) os.length os.length, Value.slice (some ⟨gr, 0, none⟩) rs.length rs.length, Value.slice (some ⟨gw, 0, none⟩) ws.length ws.length, Value.slice (some ⟨gd, 0, none⟩) ds.length ds.length] 27)) := (Below.refl _ _).alloc (Nat.le_refl _) _
  have hK := Blk.new w [Value.slice (some ⟨go, 0, none⟩) os.length os.length, Value.slice (some ⟨gr, 0, none⟩) rs.length rs.length, Value.slice (some ⟨gw, 0, none⟩) ws.length ws.length, Value.slice (some ⟨gd, 0, none⟩) ds.length ds.length] 27
  have r0 : Rg go (gd + 1) w _ := Rg.bel hA (Nat.le_refl _)
  have c1 := markMemObjS_any go gr os os.length 1 _ so soo (by omega) (by omega) (by omega) (hmk.below hA (Nat.le_refl _))
  go_wp2_with fail
  refine c1.mono ?_
  rintro e w1 ⟨q1, rfl, hq1, hq1', r1⟩
  have hK1 := hK.rg r1 (Or.inr (by omega))
  have br1 := (br.below hA br.lt).rg r1 (Or.inr (Nat.le_refl _))
  have bw1 := (bw.below hA bw.lt).rg r1 (Or.inr (by omega))
  have bd1 := (bd.below hA bd.lt).rg r1 (Or.inr (by omega))
  have R1 := r0.trans (r1.wide (Nat.le_refl _) (by omega))
  have x1 := hK1.cell 1
  simp only [List.getElem?_cons_zero, List.getElem?_cons_succ] at x1
  have c2 := markIntS_blk gr rs.length _ q1 w1 (by simp) sr hq1 (by omega) br1
  clear c1 r1 hK br bw bd hmk r0
  go_wp2_with fail
  refine c2.mono ?_
  rintro e w2 ⟨rfl, _, g2⟩
  have hK2 := hK1.grown g2 (fun e => by simp at e; omega)
  have bw2 := bw1.grown g2 (fun e => by simp at e; omega)
  have bd2 := bd1.grown g2 (fun e => by simp at e; omega)
  have R2 := R1.trans (Rg.gb (lo := go) (hi := gd + 1) g2 (by omega) (by omega))
  have x2 := hK2.cell 2
  simp only [List.getElem?_cons_zero, List.getElem?_cons_succ] at x2
  have c3 := markMemWatchS_any gw ws.length ws.length _ (q1 + rs.length) w2 _ (flat_len wc 2 (fun _ => rfl) ws) sw (by omega) (by omega) bw2
  clear c2 g2 hK1 br1 bw1 bd1 R1 x1
  go_wp2_with fail
  refine c3.mono ?_
  rintro e w3 ⟨rfl, g3⟩
  have hK3 := hK2.grown g3 (fun e => by simp at e; omega)
  have bd3 := bd2.grown g3 (fun e => by simp at e; omega)
  have R3 := R2.trans (Rg.gb (lo := go) (hi := gd + 1) g3 (by omega) (by omega))
  have x3 := hK3.cell 3
  simp only [List.getElem?_cons_zero, List.getElem?_cons_succ] at x3
  have c4 := markMemWatchS_any gd ds.length ds.length _ (q1 + rs.length + 2 * ws.length) w3 _ (flat_len wc 2 (fun _ => rfl) ds) sd (by omega) (by omega) bd3
  clear c3 g3 hK2 bw2 bd2 R2 x2
  go_wp2_with fail
  refine c4.mono ?_
  rintro e w4 ⟨rfl, g4⟩
  have R4 := R3.trans (Rg.gb (lo := go) (hi := gd + 1) g4 (by omega) (by omega))
  clear c4 g4
  go_wp2
  go_ret
  exact ⟨_, rfl, by omega, R4⟩
end Go.Proofs.Ytcpnkpogebjieaa
