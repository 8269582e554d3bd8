/- The law's own search from the roots. · The laws' own marks: in a heap that the law made. Only its own blocks turn. · The laws' own comparisons, of lists of objects and of heaps. -/
import Derived.Test.YtcpnkpogebjieaaEx
import Derived.Test.YtcpnkpogebjieaaMk1ToDi
import Derived.Test.YtcpnkpogebjieaaSpecOk2ToEq
namespace Go.Proofs.Ytcpnkpogebjieaa
open Go.RowKit

/-- The roots at which something is known. -/
def rootsP (rs : List Int) : List Int := rs.filter fun z => decide (0 ≤ z)
theorem rootsP_succ (rs : List Int) (k : Nat) (hk : k < rs.length) : rootsP (rs.take (k + 1)) = if 0 ≤ rs[k] then rootsP (rs.take k) ++ [rs[k]] else rootsP (rs.take k) := by
  unfold rootsP
  rw [List.take_succ_eq_append_getElem hk, List.filter_append]
  by_cases h : 0 ≤ rs[k] <;> simp [h]
theorem rootsP_le (rs : List Int) (k : Nat) : (rootsP (rs.take k)).length ≤ k := Nat.le_trans (List.length_filter_le _ _) (List.length_take_le _ _)

set_option maxHeartbeats 1600000 in
set_option maxRecDepth 100000 in
theorem wKnown_any (h : Hp) (w : World) (R : List Int) (hh : HpIn w h) (c : OkC h) (hC : Comes h R) :
    Calls Try.prog 13 #[h.v] w fun e w' => ∃ (v' : Value) (L : List Int), e = .returned v' ∧ OwnL w' w.heap.size v' L ∧ Below w.heap.size w w' ∧ L.length ≤ 68 ∧ ∀ z, z ∈ L ↔ z ∈ R := by
  obtain ⟨i0, hi0, hz0, hz1, hz2⟩ := info_parts info_int
  have hr8 := c.r8
  have HC : Hid (Comes h R) := hC
  have hB0 : Below w.heap.size w ((w.alloc (Obj.cells #[Value.slice h.oa h.os.length h.ocap, Value.slice h.ra h.rs.length h.rcap, Value.slice h.wa h.ws.length h.wcap, Value.slice h.da h.ds.length h.dcap] 27)).alloc (Obj.cells #[] 3)) := ((Below.refl _ _).alloc (Nat.le_refl _) _).alloc (by simp) _
  have hK0 : Blk ((w.alloc (Obj.cells #[Value.slice h.oa h.os.length h.ocap, Value.slice h.ra h.rs.length h.rcap, Value.slice h.wa h.ws.length h.wcap, Value.slice h.da h.ds.length h.dcap] 27)).alloc (Obj.cells #[] 3)) w.heap.size [Value.slice h.oa h.os.length h.ocap, Value.slice h.ra h.rs.length h.rcap, Value.slice h.wa h.ws.length h.wcap, Value.slice h.da h.ds.length h.dcap] 27 := (Blk.new w _ _).alloc _
  have hO0 : OwnL ((w.alloc (Obj.cells #[Value.slice h.oa h.os.length h.ocap, Value.slice h.ra h.rs.length h.rcap, Value.slice h.wa h.ws.length h.wcap, Value.slice h.da h.ds.length h.dcap] 27)).alloc (Obj.cells #[] 3)) w.heap.size (.slice (some ⟨w.heap.size + 1, 0, none⟩) 0 0) [] := by
    have := World.ownsRow_lit (e := 3) (size := 1) (base := w.heap.size) (w.alloc (Obj.cells #[Value.slice h.oa h.os.length h.ocap, Value.slice h.ra h.rs.length h.rcap, Value.slice h.wa h.ws.length h.wcap, Value.slice h.da h.ds.length h.dcap] 27)) #[] 0 (by simp) (Nat.zero_le _) rfl
    unfold OwnL
    simpa using this
  clear hC
  go_enter Try.func13, Try.ntmps13
  simp only [Hp.v]
  go_wp2
  go_loopw [3, 4] (fun v i wr => ∃ k : Nat, i = .int .i64 k ∧ k ≤ h.rs.length ∧ OwnL wr w.heap.size v (rootsP (h.rs.take k)) ∧ Blk wr w.heap.size [Value.slice h.oa h.os.length h.ocap, Value.slice h.ra h.rs.length h.rcap, Value.slice h.wa h.ws.length h.wcap, Value.slice h.da h.ds.length h.dcap] 27 ∧ Below w.heap.size w wr) (fun _ i _ => h.rs.length - (intOf i).toNat)
  case atStart => exact ⟨0, rfl, Nat.zero_le _, hO0, hK0, hB0⟩
  case round =>
    obtain ⟨k, rfl, hk, hown, hblk, hb⟩ := hrel
    clear hO0 hK0 hB0
    obtain ⟨va, vcap, rfl, -⟩ := hown.form
    obtain ⟨x0, x1, x2, x3⟩ := cells4' hblk
    by_cases hlt : k < h.rs.length
    · obtain ⟨rb, roff, er, hrb, f1⟩ := hh.sr.get hlt
      have d1 := (hb.cell (p := ⟨rb, roff + k, none⟩) hrb).trans f1
      rw [er] at x1
      have hkb : (k : Int) < (h.rs.length : Int) := by omega
      have HF : Hid (rootsP (h.rs.take (k + 1)) = if 0 ≤ h.rs[k] then rootsP (h.rs.take k) ++ [h.rs[k]] else rootsP (h.rs.take k)) := rootsP_succ _ _ hlt
      have hfl := rootsP_le h.rs k
      generalize h.rs[k] = s at d1 HF f1
      clear er f1
      by_cases hs0 : 0 ≤ s
      · have hs0b : decide (0 ≤ s) = true := by simpa using hs0
        have HF1 : Hid (rootsP (h.rs.take (k + 1)) = rootsP (h.rs.take k) ++ [s]) := by
          show _ = _
          rw [HF.out, if_pos hs0]
        clear HF hs0
        generalize rootsP (h.rs.take k) = l at *
        have hvA : (wr.alloc (Obj.cells #[Value.int .i64 s] 3)).ownsRow w.heap.size 3 1 (.slice va l.length vcap) l.length (l.map (Value.int .i64)) := World.ownsRow.alloc hown _
        have hA : Below wr.heap.size wr (wr.alloc (Obj.cells #[Value.int .i64 s] 3)) := (Below.refl _ _).alloc (Nat.le_refl _) _
        have hbA := hb.trans (hA.mono hb.size)
        have hkA := hblk.below hA hblk.lt
        have hoA := hown.below hA (Nat.le_refl _)
        have hsz := hb.size
        go_wp2_with (at_builtin; refine wpList_append_own_at _ rfl _ _ 24 rfl w.heap.size 3 i0 (.int .i64 0) 1 8 Try.underlying24 hi0 hz0 hz1 hz2 rfl (by decide) _ _ _ rfl hvA ⟨wr.heap.size, 0, none⟩ 1 1 [.int .i64 s] rfl rfl (cell_one_new _ _ _) ?c2 ?c3 ?c4 ?c5 ?_)
        case c2 => intro u hu; simp at hu; subst hu; rfl
        case c3 => unfold maxLen; omega
        case c4 => omega
        case c5 => simp; omega
        intro v' w2 hown2 hgr _ _
        have hown' : Hid (OwnL w2 w.heap.size v' (rootsP (h.rs.take (k + 1)))) := by
          show OwnL _ _ _ _
          rw [HF1.out]
          unfold OwnL
          simpa using hown2
        have hb2 := hbA.trans (gb_below hgr hbA.size (fun k e => (hoA.lt k e).1))
        have hk2 := hkA.grown hgr (hoA.ne hkA (by decide))
        clear hown2 hgr hvA hA hbA hkA hoA hown hblk hb x0 x1 x2 x3 d1 HF1
        go_wp2
        go_roundw
        case rel => exact ⟨k + 1, by go_num, by omega, hown'.out, hk2, hb2⟩
        case measure => simp [intOf]; omega
      · have hs0b : decide (0 ≤ s) = false := by simpa using hs0
        have hown' : Hid (OwnL wr w.heap.size (.slice va (rootsP (h.rs.take k)).length vcap) (rootsP (h.rs.take (k + 1)))) := by
          show OwnL _ _ _ _
          rw [HF.out, if_neg hs0]; exact hown
        clear HF hs0 hown
        go_wp2
        go_roundw
        case rel => exact ⟨k + 1, by go_num, by omega, hown'.out, hblk, hb⟩
        case measure => simp [intOf]; omega
    · have hkb : decide ((k : Int) < (h.rs.length : Int)) = false := by simp; omega
      have et : h.rs.take k = h.rs := List.take_of_length_le (by omega)
      rw [et] at hown
      have hle : (rootsP h.rs).length ≤ 8 := by
        have := rootsP_le h.rs k
        rw [et] at this
        omega
      have c1 := wFrom_any h w wr (.slice va (rootsP h.rs).length vcap) R (rootsP h.rs) hh c hb hown hle HC.out (fun z hz => by
        have := List.mem_filter.1 hz
        exact HC.out.root z this.1 (by simpa using this.2))
      simp only [Hp.v] at c1
      rw [et]
      clear et hown
      go_wp2_with fail
      refine c1.mono ?_
      rintro e w2 ⟨v', L, A, rfl, ho, hb2, hwf, hcl⟩
      have hll : L.length ≤ 68 := by
        have := hwf.pl.len
        have := c.n60
        rw [hwf.eq, List.length_append]
        omega
      have hiff : Hid (∀ z, z ∈ L ↔ z ∈ R) := fun z => ⟨hwf.sub z, HC.out.all c hwf.sub (fun y hy h0 => by rw [hwf.eq]; exact List.mem_append.2 (Or.inl (List.mem_filter.2 ⟨hy, by simpa using h0⟩))) hcl z⟩
      clear hwf hcl c1
      go_wp2
      go_ret
      exact ⟨_, L, rfl, ho, hb2, hll, hiff.out⟩
end Go.Proofs.Ytcpnkpogebjieaa

namespace Go.Proofs.Ytcpnkpogebjieaa
open Go.RowKit

/-- New blocks, and writes to blocks from lo to below hi alone. -/
structure Rg (lo hi : Nat) (w w' : World) : Prop where
  os : w'.os = w.os
  tape : w'.tape = w.tape
  output : w'.output = w.output
  size : w.heap.size ≤ w'.heap.size
  block : ∀ k, k < w.heap.size → (k < lo ∨ hi ≤ k) → w'.heap[k]? = w.heap[k]?

theorem Rg.refl (lo hi : Nat) (w : World) : Rg lo hi w w := ⟨rfl, rfl, rfl, Nat.le_refl _, fun _ _ _ => rfl⟩
theorem Rg.trans {lo hi : Nat} {a b c : World} (h : Rg lo hi a b) (k : Rg lo hi b c) : Rg lo hi a c :=
  ⟨k.os.trans h.os, k.tape.trans h.tape, k.output.trans h.output, Nat.le_trans h.size k.size, fun i hi hr => (k.block i (Nat.lt_of_lt_of_le hi h.size) hr).trans (h.block i hi hr)⟩
theorem Rg.gb {lo hi g : Nat} {w w' : World} (h : w.grownBy w' (some g)) (h1 : lo ≤ g) (h2 : g < hi) : Rg lo hi w w' :=
  ⟨h.os, h.tape, h.output, h.size, fun k hk hr => h.block k hk (fun e => by simp at e; omega)⟩
theorem Rg.bel {lo hi B : Nat} {w w' : World} (h : Below B w w') (hB : w.heap.size ≤ B) : Rg lo hi w w' :=
  ⟨h.os, h.tape, h.output, h.size, fun k hk _ => h.block k (by omega)⟩
theorem Rg.below {lo hi : Nat} {w w' : World} (h : Rg lo hi w w') (hl : lo ≤ w.heap.size) : Below lo w w' :=
  ⟨h.os, h.tape, h.output, h.size, fun k hk => h.block k (by omega) (Or.inl hk)⟩
theorem Rg.wide {lo hi lo' hi' : Nat} {w w' : World} (h : Rg lo hi w w') (h1 : lo' ≤ lo) (h2 : hi ≤ hi') : Rg lo' hi' w w' :=
  ⟨h.os, h.tape, h.output, h.size, fun k hk hr => h.block k hk (by omega)⟩
theorem Blk.rg {lo hi : Nat} {w w' : World} {B t : Nat} {cs : List Value} (h : Blk w B cs t) (hr : Rg lo hi w w') (hB : B < lo ∨ hi ≤ B) : Blk w' B cs t := by
  unfold Blk at *
  rw [hr.block B (lt_of_block h) hB]; exact h
theorem OwnL.rg {lo hi : Nat} {w w' : World} {base : Nat} {v : Value} {zs : List Int} (h : OwnL w base v zs) (hr : Rg lo hi w w') (hB : ∀ k, v.ownBlock = some k → k < lo ∨ hi ≤ k) : OwnL w' base v zs := by
  refine ⟨h.1, ?_⟩
  rcases h.2 with h1 | ⟨g, cap, cur, h1, hg, hh, r⟩
  · exact Or.inl h1
  · refine Or.inr ⟨g, cap, cur, h1, hg, ?_, r⟩
    rw [hr.block g (lt_of_block hh) (hB g (by rw [h1]; rfl))]; exact hh

/-- Objects that may be marked: their cells in block go, their parts in blocks of their own. -/
structure Mk (w : World) (go hi : Nat) (l : List Ob) : Prop where
  cells : ∃ cs, Blk w go cs 52 ∧ cs.length = l.length * 3 ∧ ∀ i (h : i < l.length), cs[i * 3 + 2]? = some (.slice l[i].ra l[i].r.length l[i].rcap)
  parts : ∀ i (h : i < l.length), ∃ g cs, l[i].ra = some ⟨g, 0, none⟩ ∧ go < g ∧ g < hi ∧ l[i].rcap = l[i].r.length ∧ Blk w g cs 3 ∧ cs.length = l[i].r.length

theorem Mk.below {w w' : World} {go hi : Nat} {l : List Ob} {B : Nat} (h : Mk w go hi l) (hb : Below B w w') (hB : w.heap.size ≤ B) : Mk w' go hi l := by
  refine ⟨?_, fun i hi => ?_⟩
  · obtain ⟨cs, h1, h2⟩ := h.cells
    exact ⟨cs, h1.below hb (Nat.lt_of_lt_of_le h1.lt hB), h2⟩
  · obtain ⟨g, cs, h1, h2, h3, h4, h5, h6⟩ := h.parts i hi
    exact ⟨g, cs, h1, h2, h3, h4, h5.below hb (Nat.lt_of_lt_of_le h5.lt hB), h6⟩

/-- A store into the first or the second cell of an object. -/
theorem Mk.store {w : World} {go hi : Nat} {l : List Ob} (h : Mk w go hi l) (j : Nat) (v : Value) (hj : j % 3 ≠ 2) : Mk (w.setCell ⟨go, j, none⟩ v) go hi l := by
  refine ⟨?_, fun i hi => ?_⟩
  · obtain ⟨cs, h1, h2, h3⟩ := h.cells
    refine ⟨_, h1.store j v, by simpa using h2, fun i hi => ?_⟩
    rw [List.getElem?_set_ne (by omega)]
    exact h3 i hi
  · obtain ⟨g, cs, h1, h2, h3, h4, h5, h6⟩ := h.parts i hi
    exact ⟨g, cs, h1, h2, h3, h4, h5.other _ _ (by dsimp only; omega), h6⟩

/-- One object's parts are marked. -/
theorem Mk.part {w w' : World} {go hi : Nat} {l : List Ob} (h : Mk w go hi l) {g : Nat} {cs cs' : List Value} (hg : w.grownBy w' (some g)) (hgo : go < g) (hb : Blk w g cs 3) (hb' : Blk w' g cs' 3) (hl : cs'.length = cs.length) : Mk w' go hi l := by
  refine ⟨?_, fun i hi => ?_⟩
  · obtain ⟨c, h1, h2⟩ := h.cells
    exact ⟨c, h1.grown hg (fun e => by simp at e; omega), h2⟩
  · obtain ⟨x, c, h1, h2, h3, h4, h5, h6⟩ := h.parts i hi
    by_cases e : x = g
    · subst e
      have e1 : c = cs := by
        unfold Blk at h5 hb
        rw [h5] at hb
        simpa using hb
      subst e1
      exact ⟨x, cs', h1, h2, h3, h4, hb', by omega⟩
    · exact ⟨x, c, h1, h2, h3, h4, h5.grown hg (fun q => e (by simpa using q.symm)), h6⟩

set_option maxHeartbeats 800000 in
set_option maxRecDepth 100000 in
theorem markMemObjS_any (go hi : Nat) (l : List Ob) (cap : Nat) (k : Int) (w : World) (hn : l.length ≤ 1048576) (hr : ∀ i (h : i < l.length), l[i].r.length ≤ 1048576) (h0 : 0 ≤ k) (h1 : k ≤ 1000000) (hgo : go < hi) (hm : Mk w go hi l) :
    Calls Try.prog 44 #[.slice (some ⟨go, 0, none⟩) l.length cap, .int .i64 k] w fun e w' => ∃ q : Int, e = .returned (.int .i64 q) ∧ 0 ≤ q ∧ q ≤ 10000000000000 ∧ Rg go hi w w' := by
  go_enter Try.func44, Try.ntmps44
  go_wp2
  go_loopw [1, 5] (fun c i wr => ∃ (j : Nat) (q : Int), j ≤ l.length ∧ i = .int .i64 j ∧ c = .int .i64 q ∧ 0 ≤ q ∧ q ≤ 1000000 + 1048578 * j ∧ Mk wr go hi l ∧ Rg go hi w wr) (fun _ i _ => l.length - (intOf i).toNat)
  case atStart => exact ⟨0, k, Nat.zero_le _, rfl, rfl, h0, by omega, hm, Rg.refl _ _ _⟩
  case round =>
    obtain ⟨j, q, hj, rfl, rfl, hq0, hq1, hmr, hrg⟩ := hrel
    clear hm
    by_cases hlt : j < l.length
    · obtain ⟨cs, hblk, hlen, hc2⟩ := hmr.cells
      have hrl := hr j hlt
      have f0 := hblk.free (j * 3)
      have f1 := hblk.free (j * 3 + 1)
      obtain ⟨v0, q0⟩ : ∃ v, wr.cell? ⟨go, j * 3, none⟩ = some v := ⟨_, (hblk.cell _).trans (List.getElem?_eq_getElem (by omega))⟩
      have hm1 := hmr.store (j * 3) (.int .i64 q) (by omega)
      have hrg1 := hrg.trans (Rg.gb (hi := hi) (gb_set wr go (j * 3) (.int .i64 q)) (Nat.le_refl _) hgo)
      clear hblk hlen hc2
      go_wp2_with fail
      refine (markText_any _ _ (by omega) (by omega)).mono ?_
      rintro e w1 ⟨rfl, hb1⟩
      have hm2 := hm1.below hb1 (Nat.le_refl _)
      have hrg2 := hrg1.trans (Rg.bel hb1 (Nat.le_refl _))
      obtain ⟨cs, hblk, hlen, hc2⟩ := hm2.cells
      have f2 := hblk.free (j * 3 + 1)
      obtain ⟨v1, q1⟩ : ∃ v, w1.cell? ⟨go, j * 3 + 1, none⟩ = some v := ⟨_, (hblk.cell _).trans (List.getElem?_eq_getElem (by omega))⟩
      have q2 := (hblk.cell (j * 3 + 2)).trans (hc2 j hlt)
      have hm3 := hm2.store (j * 3 + 1) (.string (mt (q + 1))) (by omega)
      have hrg3 := hrg2.trans (Rg.gb (hi := hi) (gb_set w1 go (j * 3 + 1) (.string (mt (q + 1)))) (Nat.le_refl _) hgo)
      obtain ⟨g, pcs, e1, g1, g2, e2, hpb, hpl⟩ := hm3.parts j hlt
      rw [e1, e2] at q2
      have c5 := markIntS_blk g l[j].r.length pcs (q + 1 + 1) _ hpl hrl (by omega) (by omega) hpb
      clear hblk hlen hc2 hb1 hm1 hrg1 hm2 hrg2 hmr hrg e1 e2 f0 f1 q0
      go_wp2_with fail
      refine c5.mono ?_
      rintro e w2 ⟨rfl, hpb2, hg2⟩
      have hm4 := hm3.part hg2 g1 hpb hpb2 (by simp [marks, hpl])
      have hrg4 := hrg3.trans (Rg.gb (lo := go) (hi := hi) hg2 (by omega) g2)
      clear c5 hm3 hrg3 hpb hpb2 hg2 q2 q1 f2
      go_wp2
      go_roundw
      case rel => exact ⟨j + 1, q + 1 + 1 + l[j].r.length, by omega, by go_num, rfl, by omega, by omega, hm4, hrg4⟩
      case measure => simp [intOf]; omega
    · go_wp2
      go_ret
      exact ⟨_, rfl, hq0, by omega, hrg⟩

theorem OwnH.markable {w : World} {B go gr gw gd : Nat} {h : Hp} (hh : OwnH w B h go gr gw gd) : Mk w go gr h.os := by
  refine ⟨⟨_, hh.bo, flat_len Ob.cs 3 (fun _ => rfl) _, fun i hi => ?_⟩, fun i hi => ?_⟩
  · exact flat_get Ob.cs 3 (fun _ => rfl) h.os i 2 hi (by omega)
  · obtain ⟨g, h1, h2, h3, h4⟩ := hh.own i hi
    exact ⟨g, _, h1, by omega, hh.olt i hi g h1, h3, h4, by simp⟩

set_option maxHeartbeats 1600000 in
set_option maxRecDepth 100000 in
theorem markMemHeap_any (B go gr gw gd : Nat) (h : Hp) (w : World) (hs : Small h) (hh : OwnH w B h go gr gw gd) :
    Calls Try.prog 19 #[h.v, .int .i64 1] w fun e w' => ∃ q : Int, e = .returned (.int .i64 q) ∧ 0 ≤ q ∧ Rg go (gd + 1) w w' := by
  have hmk := hh.markable
  have hgd := hh.bd.lt
  obtain ⟨oa, ocap, os, ra, rcap, rs, wa, wcap, ws, da, dcap, ds⟩ := h
  obtain ⟨e1, e2, e3, e4, e5, e6, e7, e8, _, lt1, lt2, lt3, _, _, _, br, bw, bd⟩ := hh
  dsimp only at e1 e2 e3 e4 e5 e6 e7 e8 br bw bd
  subst e1 e2 e3 e4 e5 e6 e7 e8
  obtain ⟨so, soo, sr, sw, sd⟩ := hs
  simp only [Hp.v] at *
  go_enter Try.func19, Try.ntmps19
  have hA : Below w.heap.size w (w.alloc (Obj.cells #[Value.slice (some ⟨go, 0, none⟩) os.length os.length, Value.slice (some ⟨gr, 0, none⟩) rs.length rs.length, Value.slice (some ⟨gw, 0, none⟩) ws.length ws.length, Value.slice (some ⟨gd, 0, none⟩) ds.length ds.length] 27)) := (Below.refl _ _).alloc (Nat.le_refl _) _
  have hK := Blk.new w [Value.slice (some ⟨go, 0, none⟩) os.length os.length, Value.slice (some ⟨gr, 0, none⟩) rs.length rs.length, Value.slice (some ⟨gw, 0, none⟩) ws.length ws.length, Value.slice (some ⟨gd, 0, none⟩) ds.length ds.length] 27
  have r0 : Rg go (gd + 1) w _ := Rg.bel hA (Nat.le_refl _)
  have c1 := markMemObjS_any go gr os os.length 1 _ so soo (by omega) (by omega) (by omega) (hmk.below hA (Nat.le_refl _))
  go_wp2_with fail
  refine c1.mono ?_
  rintro e w1 ⟨q1, rfl, hq1, hq1', r1⟩
  have hK1 := hK.rg r1 (Or.inr (by omega))
  have br1 := (br.below hA br.lt).rg r1 (Or.inr (Nat.le_refl _))
  have bw1 := (bw.below hA bw.lt).rg r1 (Or.inr (by omega))
  have bd1 := (bd.below hA bd.lt).rg r1 (Or.inr (by omega))
  have R1 := r0.trans (r1.wide (Nat.le_refl _) (by omega))
  have x1 := hK1.cell 1
  simp only [List.getElem?_cons_zero, List.getElem?_cons_succ] at x1
  have c2 := markIntS_blk gr rs.length _ q1 w1 (by simp) sr hq1 (by omega) br1
  clear c1 r1 hK br bw bd hmk r0
  go_wp2_with fail
  refine c2.mono ?_
  rintro e w2 ⟨rfl, _, g2⟩
  have hK2 := hK1.grown g2 (fun e => by simp at e; omega)
  have bw2 := bw1.grown g2 (fun e => by simp at e; omega)
  have bd2 := bd1.grown g2 (fun e => by simp at e; omega)
  have R2 := R1.trans (Rg.gb (lo := go) (hi := gd + 1) g2 (by omega) (by omega))
  have x2 := hK2.cell 2
  simp only [List.getElem?_cons_zero, List.getElem?_cons_succ] at x2
  have c3 := markMemWatchS_any gw ws.length ws.length _ (q1 + rs.length) w2 _ (flat_len wc 2 (fun _ => rfl) ws) sw (by omega) (by omega) bw2
  clear c2 g2 hK1 br1 bw1 bd1 R1 x1
  go_wp2_with fail
  refine c3.mono ?_
  rintro e w3 ⟨rfl, g3⟩
  have hK3 := hK2.grown g3 (fun e => by simp at e; omega)
  have bd3 := bd2.grown g3 (fun e => by simp at e; omega)
  have R3 := R2.trans (Rg.gb (lo := go) (hi := gd + 1) g3 (by omega) (by omega))
  have x3 := hK3.cell 3
  simp only [List.getElem?_cons_zero, List.getElem?_cons_succ] at x3
  have c4 := markMemWatchS_any gd ds.length ds.length _ (q1 + rs.length + 2 * ws.length) w3 _ (flat_len wc 2 (fun _ => rfl) ds) sd (by omega) (by omega) bd3
  clear c3 g3 hK2 bw2 bd2 R2 x2
  go_wp2_with fail
  refine c4.mono ?_
  rintro e w4 ⟨rfl, g4⟩
  have R4 := R3.trans (Rg.gb (lo := go) (hi := gd + 1) g4 (by omega) (by omega))
  clear c4 g4
  go_wp2
  go_ret
  exact ⟨_, rfl, by omega, R4⟩
end Go.Proofs.Ytcpnkpogebjieaa

namespace Go.Proofs.Ytcpnkpogebjieaa
open Go.RowKit

set_option maxHeartbeats 800000 in
set_option maxRecDepth 100000 in
theorem eqMemObjS_eq (a b : Option Addr) (n ca cb : Nat) (xs ys : List Ob) (w : World) (hn : xs.length = n) (hp : xs.map Ob.p = ys.map Ob.p) (hx : SegO w a xs) (hy : SegO w b ys) (hn1 : n ≤ maxLen) (hr : ∀ i (hi : i < xs.length), xs[i].r.length ≤ maxLen) :
    Calls Try.prog 42 #[.slice a n ca, .slice b n cb] w fun e w' => e = .returned (.bool true) ∧ Below w.heap.size w w' := by
  unfold maxLen at hn1
  have hm : ys.length = n := by have := congrArg List.length hp; simp at this; omega
  have HP : Hid (xs.map Ob.p = ys.map Ob.p) := hp
  clear hp
  go_enter Try.func42, Try.ntmps42
  go_wp2
  go_loopw [5] (fun i wr => ∃ k : Nat, k ≤ n ∧ i = .int .i64 k ∧ Below w.heap.size w wr) (fun i _ => n - (intOf i).toNat)
  case atStart => exact ⟨0, Nat.zero_le _, rfl, Below.refl _ _⟩
  case round =>
    obtain ⟨k, hk, rfl, hb⟩ := hrel
    by_cases hlt : k < n
    · have hkx : k < xs.length := by omega
      have hky : k < ys.length := by omega
      have hrk := hr k hkx
      obtain ⟨b1, o1, rfl, hb1, c1, c2, c3⟩ := hx.get hkx
      obtain ⟨b2, o2, rfl, hb2, c4, c5, c6⟩ := hy.get hky
      have s1 := (hx.2 k hkx).below hb (Nat.le_refl _)
      have s2 := (hy.2 k hky).below hb (Nat.le_refl _)
      have he : xs[k].p = ys[k].p := by
        have h1 : (xs.map Ob.p)[k]'(by simpa using hkx) = (ys.map Ob.p)[k]'(by simpa using hky) := by simp only [HP.out]
        simpa using h1
      simp only [Ob.p, Prod.mk.injEq] at he
      obtain ⟨e1, e2, e3⟩ := he
      rw [← e1] at c4
      rw [← e2] at c5
      rw [← e3] at c6 s2
      have d1 := (hb.cell (p := ⟨b1, o1 + k * 3, none⟩) hb1).trans c1
      have d2 := (hb.cell (p := ⟨b1, o1 + k * 3 + 1, none⟩) hb1).trans c2
      have d3 := (hb.cell (p := ⟨b1, o1 + k * 3 + 2, none⟩) hb1).trans c3
      have d4 := (hb.cell (p := ⟨b2, o2 + k * 3, none⟩) hb2).trans c4
      have d5 := (hb.cell (p := ⟨b2, o2 + k * 3 + 1, none⟩) hb2).trans c5
      have d6 := (hb.cell (p := ⟨b2, o2 + k * 3 + 2, none⟩) hb2).trans c6
      have hi1 : (k : Int) < (n : Int) := by omega
      clear c1 c2 c3 c4 c5 c6 e1 e2 e3
      have s1d := s1.below (Below.refl wr.heap.size wr).drew (Nat.le_refl _)
      have s2d := s2.below (Below.refl wr.heap.size wr).drew (Nat.le_refl _)
      clear s1 s2
      go_wp2_with fail
      go_region_with (go_at_call 72; refine (eqMemObj_eq _ _ _ _ _ _ _ xs[k].r _ rfl s1d s2d hrk).mono ?_; rintro e w' ⟨rfl, hbx⟩)
      all_goals
        have hbb := hb.drew.trans (hbx.mono hb.drew.size)
        go_wp2
        go_roundw
        case rel => exact ⟨k + 1, by omega, by go_num, hbb⟩
        case measure => simp [intOf]; omega
    · go_wp2
      go_ret
      exact ⟨rfl, hb⟩

set_option maxHeartbeats 800000 in
set_option maxRecDepth 100000 in
theorem eqMemHeap_eq (g h : Hp) (w : World) (hp : g.p = h.p) (hg : HpIn w g) (hh : HpIn w h) (hs : Small g) :
    Calls Try.prog 17 #[g.v, h.v] w fun e w' => e = .returned (.bool true) ∧ Below w.heap.size w w' := by
  obtain ⟨oa, ocap, os, ra, rcap, rs, wa, wcap, ws, da, dcap, ds⟩ := g
  obtain ⟨oa2, ocap2, os2, ra2, rcap2, rs2, wa2, wcap2, ws2, da2, dcap2, ds2⟩ := h
  obtain ⟨ho, hr, hw, hd⟩ := hg
  obtain ⟨ho2, hr2, hw2, hd2⟩ := hh
  obtain ⟨so, soo, sr, sw, sd⟩ := hs
  simp only [Hp.v, Hp.p, Prod.mk.injEq] at *
  obtain ⟨e1, rfl, rfl, rfl⟩ := hp
  have e0 : os2.length = os.length := by have := congrArg List.length e1; simp at this; omega
  rw [e0]
  have HP : Hid (os.map Ob.p = os2.map Ob.p) := e1
  clear e0 e1
  go_enter Try.func17, Try.ntmps17
  go_wp2_with fail
  have hB0 : Below w.heap.size w ((w.alloc (Obj.cells #[Value.slice oa os.length ocap, Value.slice ra rs.length rcap, Value.slice wa ws.length wcap, Value.slice da ds.length dcap] 27)).alloc (Obj.cells #[Value.slice oa2 os.length ocap2, Value.slice ra2 rs.length rcap2, Value.slice wa2 ws.length wcap2, Value.slice da2 ds.length dcap2] 27)) := ((Below.refl _ _).alloc (Nat.le_refl _) _).alloc (by simp) _
  refine (eqMemObjS_eq oa oa2 os.length ocap ocap2 os os2 _ rfl HP.out (ho.below hB0 (Nat.le_refl _)) (ho2.below hB0 (Nat.le_refl _)) (by unfold maxLen; omega) (fun i hi => by have := soo i hi; unfold maxLen; omega)).mono ?_
  rintro e w1 ⟨rfl, hb1⟩
  have hB1 := hB0.trans (hb1.mono hB0.size)
  obtain ⟨hc1, _⟩ := bcell hb1
  have z1 := hb1.size
  simp at hc1 z1
  have q10 : w.heap.size < w1.heap.size := by omega
  have q11 : w.heap.size + 1 < w1.heap.size := by omega
  clear hb1 hB0
  go_wp2_with fail
  refine (eqIntS_any ra ra2 rs.length rs.length rcap rcap2 rs rs _ rfl rfl (hr.below hB1 (Nat.le_refl _)) (hr2.below hB1 (Nat.le_refl _)) (by unfold maxLen; omega) (by unfold maxLen; omega)).mono ?_
  rintro e w2 ⟨rfl, hb2⟩
  have hB2 := hB1.trans (hb2.mono hB1.size)
  obtain ⟨hc2, _⟩ := bcell hb2
  have z2 := hb2.size
  have q20 : w.heap.size < w2.heap.size := by omega
  have q21 : w.heap.size + 1 < w2.heap.size := by omega
  simp only [decide_true]
  clear hb2 hB1
  go_wp2_with fail
  refine (eqMemWatchS_eq wa wa2 ws.length wcap wcap2 ws _ rfl (hw.below hB2 (Nat.le_refl _)) (hw2.below hB2 (Nat.le_refl _)) (by unfold maxLen; omega)).mono ?_
  rintro e w3 ⟨rfl, hb3⟩
  have hB3 := hB2.trans (hb3.mono hB2.size)
  obtain ⟨hc3, _⟩ := bcell hb3
  clear hb3 hB2
  go_wp2_with fail
  refine (eqMemWatchS_eq da da2 ds.length dcap dcap2 ds _ rfl (hd.below hB3 (Nat.le_refl _)) (hd2.below hB3 (Nat.le_refl _)) (by unfold maxLen; omega)).mono ?_
  rintro e w4 ⟨rfl, hb4⟩
  have hB4 := hB3.trans (hb4.mono hB3.size)
  clear hb4 hB3
  go_wp2
  go_ret
  exact ⟨rfl, hB4⟩
end Go.Proofs.Ytcpnkpogebjieaa
