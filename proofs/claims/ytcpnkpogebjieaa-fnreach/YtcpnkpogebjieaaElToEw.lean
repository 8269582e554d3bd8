/- The specification's own drawing: any heap. · What the law's own search comes to is what MemReach tells: plain. No Go function is walked here. · The law's own words: whether two lists are the same, whether a number is in a list. -/
import Derived.Test.YtcpnkpogebjieaaEk
import Derived.Test.YtcpnkpogebjieaaMk1ToDi
import Derived.Test.YtcpnkpogebjieaaSpecOk2ToEq
namespace Go.Proofs.Ytcpnkpogebjieaa
open Go.RowKit

set_option maxHeartbeats 1600000 in
set_option maxRecDepth 100000 in
theorem l5Any_any (g : Nat) (cd : Cd) (k : Int) (w : World) (hc : CdOk cd) (hr : Rd w g cd k) (hk : k + 9000 < 800000) :
    Calls Try.prog 24 #[.pointer (some ⟨g, 0, none⟩)] w fun en w' => ∃ (y : Hp) (k' : Int), en = .returned y.v ∧ (∀ W, KeepT 27 w' W → Fit W y) ∧ Dw w g cd k' w' ∧ k' ≤ k + 5000 := by
  have hA : Below w.heap.size w (w.alloc (Obj.cells #[Value.slice none 0 0, Value.slice none 0 0, Value.slice none 0 0, Value.slice none 0 0] 27)) := (Below.refl _ _).alloc (Nat.le_refl _) _
  have d0 := (Dw.start hr).grow hA
  have br0 := Blk.new w [Value.slice none 0 0, Value.slice none 0 0, Value.slice none 0 0, Value.slice none 0 0] 27
  go_enter Try.func24, Try.ntmps24
  go_upto_region 1 with fail
  generalize (w.alloc (Obj.cells #[Value.slice none 0 0, Value.slice none 0 0, Value.slice none 0 0, Value.slice none 0 0] 27)) = W0 at *
  clear hA
  have c1 := pick_any g cd k 10 W0 hc d0.rd (by omega) (by decide)
  go_wp2_with fail
  refine c1.mono ?_
  rintro en w1 ⟨z, rfl, hz, -, -, hP⟩
  have d1 := d0.pick hP
  have hg := d0.gw
  have br1 := br0.grown hP.gb (by simp; omega)
  clear c1 hP d0 br0
  by_cases h0 : z = 0
  · subst h0
    have c1 := l5Many_any g cd (k + 1) w1 hc d1.rd (by omega)
    go_wp2_with fail
    refine c1.mono ?_
    rintro en w2 ⟨y, k', rfl, hf, dy, hk'⟩
    have d2 := d1.call dy
    have br2 := dy.blk br1 (by omega)
    clear c1 d1 dy br1
    simp only [Hp.v]
    obtain ⟨r0, r1, r2, r3⟩ := cells4'' br2
    obtain ⟨f0, f1, f2, f3⟩ := free4 br2
    obtain ⟨kq, bq⟩ := put4 br2 (.slice y.oa y.os.length y.ocap) (.slice y.ra y.rs.length y.rcap) (.slice y.wa y.ws.length y.wcap) (.slice y.da y.ds.length y.dcap)
    have dq := d2.sets4 (R := w.heap.size) (Nat.le_refl _) (.slice y.oa y.os.length y.ocap) (.slice y.ra y.rs.length y.rcap) (.slice y.wa y.ws.length y.wcap) (.slice y.da y.ds.length y.dcap)
    have hF := fun W hK => hf W (kq.trans hK)
    obtain ⟨z0, z1, z2, z3⟩ := cells4'' bq
    clear kq bq
    go_wp2
    refine bodyPost_ret (v := y.v) ?_ rfl ⟨y, k', rfl, hF, dq, by omega⟩
    simp [results, Try.results24, go_sem, z0, z1, z2, z3, Hp.v]
  have n0 : (z == 0) = false := by simpa using h0
  have c1 := l5Heap_any g cd (k + 1) w1 hc d1.rd (by omega)
  go_wp2_with fail
  refine c1.mono ?_
  rintro en w2 ⟨h, k', rfl, ok, qh, dh, hk'⟩
  have d2 := d1.call dh
  have br2 := dh.blk br1 (by omega)
  have hA : Below w2.heap.size w2 (w2.alloc (Obj.cells #[Value.slice h.oa h.os.length h.ocap, Value.slice h.ra h.rs.length h.rcap, Value.slice h.wa h.ws.length h.wcap, Value.slice h.da h.ds.length h.dcap] 27)) := (Below.refl _ _).alloc (Nat.le_refl _) _
  have d3 := d2.grow hA
  have br3 := br2.below hA br2.lt
  have q3 := qh.below hA (Nat.le_refl _)
  have bx3 := Blk.new w2 [Value.slice h.oa h.os.length h.ocap, Value.slice h.ra h.rs.length h.rcap, Value.slice h.wa h.ws.length h.wcap, Value.slice h.da h.ds.length h.dcap] 27
  have hw2 := br2.lt
  have hg1 : g < w1.heap.size := d1.rd.blk.lt
  clear c1 d1 d2 br1 br2 dh qh hA
  simp only [Hp.v]
  go_upto_region 4 with fail
  generalize (w2.alloc (Obj.cells #[Value.slice h.oa h.os.length h.ocap, Value.slice h.ra h.rs.length h.rcap, Value.slice h.wa h.ws.length h.wcap, Value.slice h.da h.ds.length h.dcap] 27)) = W3 at *
  generalize w2.heap.size = xb at *
  have c1 := pick_any g cd k' 20 W3 hc d3.rd (by omega) (by decide)
  go_wp2_with fail
  refine c1.mono ?_
  rintro en w4 ⟨z2, rfl, hz2, -, -, hP⟩
  have d4 := d3.pick hP
  have br4 := br3.grown hP.gb (by simp; omega)
  have bx4 := bx3.grown hP.gb (by simp; omega)
  have q4 := q3.far hP.gb hg1
  clear c1 hP d3 br3 bx3 q3
  obtain ⟨x0, x1, x2, x3⟩ := cells4'' bx4
  by_cases h1 : z2 = 0
  · subst h1
    have c1 := l5Spoil_any h g cd (k' + 1) w4 hc d4.rd (by omega) ok q4.isIn
    simp only [Hp.v] at c1
    go_wp2_with fail
    refine c1.mono ?_
    rintro en w5 ⟨y, k5, rfl, hf, dy, hk5⟩
    have d5 := d4.call dy
    have br5 := dy.blk br4 (by omega)
    clear c1 d4 dy br4 bx4 q4 x0 x1 x2 x3
    obtain ⟨r0, r1, r2, r3⟩ := cells4'' br5
    obtain ⟨f0, f1, f2, f3⟩ := free4 br5
    obtain ⟨kq, bq⟩ := put4 br5 (.slice y.oa y.os.length y.ocap) (.slice y.ra y.rs.length y.rcap) (.slice y.wa y.ws.length y.wcap) (.slice y.da y.ds.length y.dcap)
    have dq := d5.sets4 (R := w.heap.size) (Nat.le_refl _) (.slice y.oa y.os.length y.ocap) (.slice y.ra y.rs.length y.rcap) (.slice y.wa y.ws.length y.wcap) (.slice y.da y.ds.length y.dcap)
    have hF := fun W hK => hf W (kq.trans hK)
    obtain ⟨z0, z1, z2, z3⟩ := cells4'' bq
    clear kq bq
    go_wp2
    refine bodyPost_ret (v := y.v) ?_ rfl ⟨y, k5, rfl, hF, dq, by omega⟩
    simp [results, Try.results24, go_sem, z0, z1, z2, z3, Hp.v]
  · have n1 : (z2 == 0) = false := by simpa using h1
    have hf := fun (W : World) (hK : KeepT 27 w4 W) => ok.fitQ (q4.keep hK)
    obtain ⟨r0, r1, r2, r3⟩ := cells4'' br4
    obtain ⟨f0, f1, f2, f3⟩ := free4 br4
    obtain ⟨kq, bq⟩ := put4 br4 (.slice h.oa h.os.length h.ocap) (.slice h.ra h.rs.length h.rcap) (.slice h.wa h.ws.length h.wcap) (.slice h.da h.ds.length h.dcap)
    have dq := d4.sets4 (R := w.heap.size) (Nat.le_refl _) (.slice h.oa h.os.length h.ocap) (.slice h.ra h.rs.length h.rcap) (.slice h.wa h.ws.length h.wcap) (.slice h.da h.ds.length h.dcap)
    have hF := fun W hK => hf W (kq.trans hK)
    obtain ⟨z0, z1, z2, z3⟩ := cells4'' bq
    clear kq bq
    go_wp2
    refine bodyPost_ret (v := h.v) ?_ rfl ⟨h, (k' + 1), rfl, hF, dq, by omega⟩
    simp [results, Try.results24, go_sem, z0, z1, z2, z3, Hp.v]

set_option maxHeartbeats 800000 in
set_option maxRecDepth 100000 in
theorem drawMemReach_any (a : Option Addr) (cap : Nat) (bs : List Int) (w : World) (hcap : bs.length ≤ cap) (hm : cap ≤ maxLen) (hby : ∀ x ∈ bs, 0 ≤ x ∧ x < 256) (hs : 0 < bs.length → ∃ b off, a = some ⟨b, off, none⟩ ∧ b < w.heap.size ∧ ∀ i (hi : i < bs.length), w.cell? ⟨b, off + i, none⟩ = some (.int .u8 bs[i])) :
    Calls Try.prog 7 #[.slice a bs.length cap] w fun e w' => ∃ y : Hp, e = .returned y.v ∧ (∀ W, KeepT 27 w' W → Fit W y) ∧ Below w.heap.size w w' := by
  have hA : Below w.heap.size w (w.alloc (Obj.cells #[Value.slice none 0 0, Value.slice none 0 0, Value.slice none 0 0, Value.slice none 0 0] 27)) := (Below.refl _ _).alloc (Nat.le_refl _) _
  have br0 := Blk.new w [Value.slice none 0 0, Value.slice none 0 0, Value.slice none 0 0, Value.slice none 0 0] 27
  have hs0 : 0 < bs.length → ∃ b off, a = some ⟨b, off, none⟩ ∧ b < (w.alloc (Obj.cells #[Value.slice none 0 0, Value.slice none 0 0, Value.slice none 0 0, Value.slice none 0 0] 27)).heap.size ∧ ∀ i (hi : i < bs.length), (w.alloc (Obj.cells #[Value.slice none 0 0, Value.slice none 0 0, Value.slice none 0 0, Value.slice none 0 0] 27)).cell? ⟨b, off + i, none⟩ = some (.int .u8 bs[i]) := fun hp => by
    obtain ⟨b, off, h1, h2, h3⟩ := hs hp
    exact ⟨b, off, h1, Nat.lt_of_lt_of_le h2 hA.size, fun i hi => (hA.cell (p := ⟨b, _, none⟩) h2).trans (h3 i hi)⟩
  go_enter Try.func7, Try.ntmps7
  go_upto_region 1 with fail
  generalize (w.alloc (Obj.cells #[Value.slice none 0 0, Value.slice none 0 0, Value.slice none 0 0, Value.slice none 0 0] 27)) = W0 at *
  have c1 := l1Open_any a cap bs W0 hcap hm hby hs0
  go_wp2_with fail
  refine c1.mono ?_
  rintro en w1 ⟨g, cd, rfl, hc, hr, hgs, hb1⟩
  have br1 := br0.below hb1 br0.lt
  have hB1 := hA.trans (hb1.mono hA.size)
  have hW0 := br0.lt
  clear c1 hs0 hb1 hs
  have c2 := l5Any_any g cd 0 w1 hc hr (by decide)
  go_wp2_with fail
  refine c2.mono ?_
  rintro en w2 ⟨y, k', rfl, hf, dy, -⟩
  have br2 := dy.blk br1 (by omega)
  have hB2 := hB1.trans (gb_below dy.gb hB1.size (fun j e => by simp at e; have := hA.size; omega))
  obtain ⟨r0, r1, r2, r3⟩ := cells4'' br2
  obtain ⟨f0, f1, f2, f3⟩ := free4 br2
  obtain ⟨kq, bq⟩ := put4 br2 (.slice y.oa y.os.length y.ocap) (.slice y.ra y.rs.length y.rcap) (.slice y.wa y.ws.length y.wcap) (.slice y.da y.ds.length y.dcap)
  have hF := fun W hK => hf W (kq.trans hK)
  have hBq := below4 hB2 (C := w.heap.size) (Nat.le_refl _) (.slice y.oa y.os.length y.ocap) (.slice y.ra y.rs.length y.rcap) (.slice y.wa y.ws.length y.wcap) (.slice y.da y.ds.length y.dcap)
  obtain ⟨z0, z1, z2, z3⟩ := cells4'' bq
  clear kq bq c2 dy br1 br2 hB1 hB2 hA br0
  simp only [Hp.v]
  go_wp2
  refine bodyPost_ret (v := y.v) ?_ rfl ⟨y, rfl, hF, hBq⟩
  simp [results, Try.results7, go_sem, z0, z1, z2, z3, Hp.v]
end Go.Proofs.Ytcpnkpogebjieaa

namespace Go.Proofs.Ytcpnkpogebjieaa
open Go.RowKit

theorem mem_put {l : List Int} {z y : Int} : y ∈ put l z ↔ y ∈ l ∨ (y = z ∧ 0 ≤ z) := by
  unfold put
  split
  · rename_i h
    constructor
    · exact Or.inl
    · rintro (h' | ⟨rfl, h0⟩)
      · exact h'
      · rcases h with h | h
        · omega
        · exact h
  · rename_i h
    simp only [List.mem_append, List.mem_singleton]
    constructor
    · rintro (h' | rfl)
      · exact Or.inl h'
      · exact Or.inr ⟨rfl, by omega⟩
    · rintro (h' | ⟨rfl, _⟩)
      · exact Or.inl h'
      · exact Or.inr rfl
theorem mem_putAll {l ns : List Int} {y : Int} : y ∈ putAll l ns ↔ y ∈ l ∨ (y ∈ ns ∧ 0 ≤ y) := by
  unfold putAll
  induction ns generalizing l with
  | nil => simp
  | cons z ns ih =>
    rw [List.foldl_cons, ih, mem_put]
    simp only [List.mem_cons]
    constructor
    · rintro ((h | ⟨rfl, h⟩) | ⟨h, h0⟩)
      · exact Or.inl h
      · exact Or.inr ⟨Or.inl rfl, h⟩
      · exact Or.inr ⟨Or.inr h, h0⟩
    · rintro (h | ⟨rfl | h, h0⟩)
      · exact Or.inl (Or.inl h)
      · exact Or.inl (Or.inr ⟨rfl, h0⟩)
      · exact Or.inr ⟨h, h0⟩
/-- All that the walk tells is what one comes to. -/
theorem trace_min {os : List (Int × ByteArray × List Int)} {ds : List (Int × Int)} {C : Int → Prop} (hC : ∀ z, C z → ∀ s ∈ nextP os ds z, 0 ≤ s → C s) (f i : Nat) {l : List Int} (hl : ∀ z ∈ l, C z) : ∀ z ∈ traceF os ds f i l, C z := by
  induction f generalizing i l with
  | zero => exact hl
  | succ f ih =>
    unfold traceF
    split
    · rename_i hi
      refine ih (i + 1) (fun z hz => ?_)
      rcases mem_putAll.1 hz with hz | ⟨hz, h0⟩
      · exact hl z hz
      · exact hC _ (hl _ (by rw [List.getD_eq_getElem?_getD, List.getElem?_eq_getElem hi]; exact List.getElem_mem hi)) z hz h0
    · exact hl
/-- All that one comes to is told by the walk. -/
theorem trace_cl {os : List (Int × ByteArray × List Int)} {ds : List (Int × Int)} {n : Nat} (hn : ∀ x, ∀ z ∈ nextP os ds x, z < n) (f i : Nat) {l : List Int} (hl : Places n l) (hf : n < f + i) (hc : ∀ j (hj : j < l.length), j < i → ∀ s ∈ nextP os ds l[j], 0 ≤ s → s ∈ l) :
    (∀ z ∈ l, z ∈ traceF os ds f i l) ∧ ∀ z ∈ traceF os ds f i l, ∀ s ∈ nextP os ds z, 0 ≤ s → s ∈ traceF os ds f i l := by
  induction f generalizing i l with
  | zero =>
    show (∀ z ∈ l, z ∈ l) ∧ ∀ z ∈ l, ∀ s ∈ nextP os ds z, 0 ≤ s → s ∈ l
    refine ⟨fun z hz => hz, fun z hz s hs h0 => ?_⟩
    obtain ⟨j, hj, rfl⟩ := List.getElem_of_mem hz
    have := hl.len
    exact hc j hj (by omega) s hs h0
  | succ f ih =>
    unfold traceF
    split
    · rename_i hi
      have hg : l.getD i 0 = l[i] := by rw [List.getD_eq_getElem?_getD, List.getElem?_eq_getElem hi]; rfl
      rw [hg]
      obtain ⟨t, ht⟩ := putAll_pre l (nextP os ds l[i])
      obtain ⟨h1, h2⟩ := ih (i + 1) (hl.putAll (hn l[i])) (by omega) (fun j hj hji s hs h0 => by
        have hjl : j < l.length := by omega
        have e : (putAll l (nextP os ds l[i]))[j] = l[j] := by
          simp only [ht]
          exact List.getElem_append_left hjl
        rw [e] at hs
        by_cases e : j = i
        · subst e
          exact mem_putAll.2 (Or.inr ⟨hs, h0⟩)
        · exact mem_putAll.2 (Or.inl (hc j hjl (by omega) s hs h0)))
      exact ⟨fun z hz => h1 z (mem_putAll.2 (Or.inl hz)), h2⟩
    · rename_i hi
      refine ⟨fun z hz => hz, fun z hz s hs h0 => ?_⟩
      obtain ⟨j, hj, rfl⟩ := List.getElem_of_mem hz
      exact hc j hj (by omega) s hs h0

/-- What the law's own search finds from object i. -/
def wS (os : List (Int × ByteArray × List Int)) (ds : List (Int × Int)) (i : Nat) (s : Int) : Prop :=
  (∃ o, os[i]? = some o ∧ ∃ k, o.2.2[k]? = some s ∧ (o.1 ≠ 3 ∨ k = 1) ∧ 0 ≤ s) ∨ ((i : Int), s) ∈ ds
/-- Up to object k all that is found from what is there is there. -/
def Cl (os : List (Int × ByteArray × List Int)) (ds : List (Int × Int)) (k : Nat) (L : List Int) : Prop :=
  ∀ i : Nat, i < k → (i : Int) ∈ L → ∀ s, wS os ds i s → s ∈ L
/-- In pass m: all is there, or more was found in this pass, or nothing yet. -/
def I2 (os : List (Int × ByteArray × List Int)) (ds : List (Int × Int)) (n m i : Nat) (D : Int → Prop) (L A : List Int) : Prop :=
  Cl os ds n L ∨ m + 1 ≤ A.length ∨ (Cl os ds i L ∧ (∀ s, D s → s ∈ L) ∧ m ≤ A.length)
theorem I2.add {os : List (Int × ByteArray × List Int)} {ds : List (Int × Int)} {n m i : Nat} {D D' : Int → Prop} {L A : List Int} (h : I2 os ds n m i D L A) (hi : i < n) (hL : (i : Int) ∈ L) {s : Int} (hs : wS os ds i s) (hn : s ∉ L) : I2 os ds n m i D' (L ++ [s]) (A ++ [s]) := by
  rcases h with h | h | ⟨_, _, h⟩
  · exact absurd (h i hi hL s hs) hn
  · exact Or.inr (Or.inl (by simp; omega))
  · exact Or.inr (Or.inl (by simp; omega))
theorem I2.imp {os : List (Int × ByteArray × List Int)} {ds : List (Int × Int)} {n m i : Nat} {D D' : Int → Prop} {L A : List Int} (h : I2 os ds n m i D L A) (hD : (∀ s, D s → s ∈ L) → ∀ s, D' s → s ∈ L) : I2 os ds n m i D' L A := by
  rcases h with h | h | ⟨h1, h2, h3⟩
  · exact Or.inl h
  · exact Or.inr (Or.inl h)
  · exact Or.inr (Or.inr ⟨h1, hD h2, h3⟩)
theorem I2.next {os : List (Int × ByteArray × List Int)} {ds : List (Int × Int)} {n m i : Nat} {D : Int → Prop} {L A : List Int} (h : I2 os ds n m i D L A) (hD : (∀ s, D s → s ∈ L) → (i : Int) ∈ L → ∀ s, wS os ds i s → s ∈ L) : I2 os ds n m (i + 1) (fun _ => False) L A := by
  rcases h with h | h | ⟨h1, h2, h3⟩
  · exact Or.inl h
  · exact Or.inr (Or.inl h)
  · refine Or.inr (Or.inr ⟨fun j hj hjL => ?_, fun s hs => hs.elim, h3⟩)
    by_cases e : j = i
    · subst e; exact hD h2 hjL
    · exact h1 j (by omega) hjL
theorem I2.pass {os : List (Int × ByteArray × List Int)} {ds : List (Int × Int)} {n m : Nat} {D : Int → Prop} {L A : List Int} (h : I2 os ds n m n D L A) : Cl os ds n L ∨ m + 1 ≤ A.length := by
  rcases h with h | h | ⟨h1, _, _⟩
  · exact Or.inl h
  · exact Or.inr h
  · exact Or.inl h1
theorem I2.start {os : List (Int × ByteArray × List Int)} {ds : List (Int × Int)} {n m : Nat} {L A : List Int} (h : Cl os ds n L ∨ m ≤ A.length) : I2 os ds n m 0 (fun _ => False) L A := by
  rcases h with h | h
  · exact Or.inl h
  · exact Or.inr (Or.inr ⟨fun j hj => by omega, fun s hs => hs.elim, h⟩)

/-- What of the law's own list stays: all of it can be come to; what was found lies behind the roots, each once. -/
structure Wf (R L0 : List Int) (n : Nat) (L A : List Int) : Prop where
  eq : L = L0 ++ A
  sub : ∀ z ∈ L, z ∈ R
  pl : Places n A
theorem Wf.add {R L0 L A : List Int} {n : Nat} (h : Wf R L0 n L A) {s : Int} (hs : s ∈ R) (hr : 0 ≤ s ∧ s < n) (hn : s ∉ L) : Wf R L0 n (L ++ [s]) (A ++ [s]) := by
  refine ⟨by rw [h.eq, List.append_assoc], fun z hz => ?_, ⟨fun z hz => ?_, ?_⟩⟩
  · rcases List.mem_append.1 hz with hz | hz
    · exact h.sub z hz
    · simp at hz; subst hz; exact hs
  · rcases List.mem_append.1 hz with hz | hz
    · exact h.pl.rng z hz
    · simp at hz; subst hz; exact hr
  · rw [List.nodup_append]
    refine ⟨h.pl.nd, by simp, fun a ha b hb => ?_⟩
    simp at hb
    subst hb
    rintro rfl
    exact hn (by rw [h.eq]; exact List.mem_append.2 (Or.inr ha))

theorem OkC.next {h : Hp} (c : OkC h) {i : Nat} (hi : i < h.os.length) (s : Int) : wS (h.os.map Ob.p) h.ds i s ↔ s ∈ nextP (h.os.map Ob.p) h.ds i ∧ 0 ≤ s := by
  have hob := c.ob i hi
  simp only [objOk, Ob.p, Bool.and_eq_true] at hob
  have hk := hob.2
  have hd : ∀ p ∈ h.ds, p.1 = i → h.os[i].k = 4 ∧ 0 ≤ p.2 := fun p hp e => by
    have := c.dd p hp
    simp only [watchOk, inB, Bool.and_eq_true, decide_eq_true_eq] at this
    obtain ⟨⟨_, h2⟩, h3⟩ := this
    rw [e, Int.toNat_natCast, List.getElem?_map, List.getElem?_eq_getElem hi] at h3
    simp [Ob.p] at h3
    exact ⟨h3, h2.1⟩
  rw [nextP_at (Int.toNat_natCast i) hi]
  have ho : (h.os.map Ob.p)[i]? = some h.os[i].p := by rw [List.getElem?_map, List.getElem?_eq_getElem hi]; rfl
  constructor
  · rintro (⟨o, h1, k, h2, h3, h4⟩ | hm)
    · rw [ho] at h1
      cases h1
      refine ⟨?_, h4⟩
      have h2' : h.os[i].r[k]? = some s := h2
      have hmem : s ∈ h.os[i].r := List.mem_of_getElem? h2'
      split
      · rename_i k3
        have hk1 : k = 1 := by
          rcases h3 with h3 | h3
          · exact absurd k3 h3
          · exact h3
        subst hk1
        refine List.mem_of_getElem? (i := 0) ?_
        rw [List.getElem?_drop]
        exact h2'
      · split
        · rename_i n3 k4
          simp [kindOk, k4] at hk
          rw [hk.2] at hmem
          simp at hmem
        · exact hmem
    · obtain ⟨e4, h0⟩ := hd _ hm rfl
      refine ⟨?_, h0⟩
      rw [if_neg (by omega), if_pos e4]
      exact List.mem_map.2 ⟨_, List.mem_filter.2 ⟨hm, by simp⟩, rfl⟩
  · rintro ⟨hm, h0⟩
    split at hm
    · rename_i k3
      simp [kindOk, k3] at hk
      obtain ⟨j, hj, e⟩ := List.getElem_of_mem hm
      rw [List.length_drop] at hj
      have hj0 : j = 0 := by omega
      subst hj0
      refine Or.inl ⟨_, ho, 1, ?_, Or.inr rfl, h0⟩
      show h.os[i].r[1]? = some s
      rw [List.getElem_drop] at e
      rw [List.getElem?_eq_getElem (by omega), ← e]
    · split at hm
      · obtain ⟨p, hp, e⟩ := List.mem_map.1 hm
        have := List.mem_filter.1 hp
        refine Or.inr ?_
        have e1 : p.1 = i := by simpa using this.2
        have : p = ((i : Int), s) := Prod.ext e1 e
        rw [← this]
        exact (List.mem_filter.1 hp).1
      · rename_i n3 n4
        obtain ⟨j, hj, e⟩ := List.getElem_of_mem hm
        refine Or.inl ⟨_, ho, j, ?_, Or.inl n3, h0⟩
        show h.os[i].r[j]? = some s
        rw [List.getElem?_eq_getElem hj, e]
theorem OkC.reach_eq {h : Hp} (c : OkC h) : reachP h.p = traceF (h.os.map Ob.p) h.ds 61 0 (putAll [] h.rs) := by
  simp only [reachP, okC_ok c, if_true]; rfl
theorem OkC.nx {h : Hp} (c : OkC h) : ∀ x, ∀ z ∈ nextP (h.os.map Ob.p) h.ds x, z < h.os.length := fun x z hz => by
  by_cases hi : x.toNat < h.os.length
  · rw [nextP_at rfl hi] at hz
    split at hz
    · exact (c.refs _ hi z (List.mem_of_mem_drop hz)).2
    · split at hz
      · obtain ⟨p, hp, e⟩ := List.mem_map.1 hz
        have := c.dd p (List.mem_filter.1 hp).1
        simp only [watchOk, inB, Bool.and_eq_true, decide_eq_true_eq, List.length_map] at this
        omega
      · exact (c.refs _ hi z hz).2
  · simp [nextP, List.getElem?_eq_none (Nat.le_of_not_lt hi)] at hz
/-- The places that MemReach tells of an ok heap: the roots are there, all that one comes to is, and nothing else. -/
structure Comes (h : Hp) (R : List Int) : Prop where
  pl : Places h.os.length R
  root : ∀ z ∈ h.rs, 0 ≤ z → z ∈ R
  step : ∀ z ∈ R, ∀ s ∈ nextP (h.os.map Ob.p) h.ds z, 0 ≤ s → s ∈ R
  least : ∀ C : Int → Prop, (∀ z ∈ h.rs, 0 ≤ z → C z) → (∀ z, C z → ∀ s ∈ nextP (h.os.map Ob.p) h.ds z, 0 ≤ s → C s) → ∀ z ∈ R, C z
theorem OkC.comes {h : Hp} (c : OkC h) : Comes h (reachP h.p) := by
  have hp : Places h.os.length (putAll [] h.rs) := (Places.nil _).putAll (fun z hz => (c.ro z hz).2)
  have h60 := c.n60
  obtain ⟨h1, h2⟩ := trace_cl (n := h.os.length) c.nx 61 0 hp (by omega) (fun j _ hj => by omega)
  rw [c.reach_eq]
  refine ⟨?_, fun z hz h0 => h1 z (mem_putAll.2 (Or.inr ⟨hz, h0⟩)), h2, fun C hr hs => trace_min hs 61 0 (fun z hz => ?_)⟩
  · have : ∀ (f i : Nat) {l : List Int}, Places h.os.length l → Places h.os.length (traceF (h.os.map Ob.p) h.ds f i l) := by
      intro f
      induction f with
      | zero => exact fun i l hl => hl
      | succ f ih =>
        intro i l hl
        unfold traceF
        split
        · exact ih _ (hl.putAll (c.nx _))
        · exact hl
    exact this 61 0 hp
  · rcases mem_putAll.1 hz with hz | ⟨hz, h0⟩
    · simp at hz
    · exact hr z hz h0
/-- What is found from what is there can be come to. -/
theorem Comes.found {h : Hp} {R : List Int} (k : Comes h R) (c : OkC h) {i : Nat} (hi : i < h.os.length) (hm : (i : Int) ∈ R) {s : Int} (hs : wS (h.os.map Ob.p) h.ds i s) : s ∈ R ∧ 0 ≤ s ∧ s < h.os.length := by
  obtain ⟨h1, h2⟩ := (c.next hi s).1 hs
  exact ⟨k.step _ hm s h1 h2, h2, c.nx _ s h1⟩
/-- When the search finds nothing more, all is there. -/
theorem Comes.all {h : Hp} {R L : List Int} (k : Comes h R) (c : OkC h) (hsub : ∀ z ∈ L, z ∈ R) (hroot : ∀ z ∈ h.rs, 0 ≤ z → z ∈ L) (hcl : Cl (h.os.map Ob.p) h.ds h.os.length L) : ∀ z ∈ R, z ∈ L := by
  refine k.least (fun z => z ∈ L) hroot (fun z hz s hs h0 => ?_)
  have hr := k.pl.rng z (hsub z hz)
  have hi : z.toNat < h.os.length := by omega
  have e : ((z.toNat : Nat) : Int) = z := by omega
  refine hcl z.toNat hi (by rw [e]; exact hz) s ((c.next hi s).2 ⟨by rw [e]; exact hs, h0⟩)
end Go.Proofs.Ytcpnkpogebjieaa

namespace Go.Proofs.Ytcpnkpogebjieaa
open Go.RowKit

set_option maxHeartbeats 400000 in
set_option maxRecDepth 100000 in
theorem wInts_any (a b : Option Addr) (n m ca cb : Nat) (xs ys : List Int) (w : World) (hn : xs.length = n) (hm : ys.length = m) (hx : SegI w a xs) (hy : SegI w b ys) (hn1 : n ≤ maxLen) (hm1 : m ≤ maxLen) :
    Calls Try.prog 9 #[.slice a n ca, .slice b m cb] w fun e w' => e = .returned (.bool (decide (xs = ys))) ∧ Below w.heap.size w w' := by
  unfold maxLen at hn1 hm1
  by_cases hl : n = m
  · subst hl
    go_enter Try.func9, Try.ntmps9
    go_wp2
    go_loopw [5] (fun i wr => ∃ k : Nat, k ≤ n ∧ i = .int .i64 k ∧ xs.take k = ys.take k ∧ Below w.heap.size w wr) (fun i _ => n - (intOf i).toNat)
    case atStart => exact ⟨0, Nat.zero_le _, rfl, rfl, Below.refl _ _⟩
    case round =>
      obtain ⟨k, hk, rfl, htk, hb⟩ := hrel
      have HT : Hid (xs.take k = ys.take k) := htk
      clear htk
      by_cases hlt : k < n
      · have hkx : k < xs.length := by omega
        have hky : k < ys.length := by omega
        obtain ⟨b1, o1, rfl, hb1, c1⟩ := hx.get hkx
        obtain ⟨b2, o2, rfl, hb2, c2⟩ := hy.get hky
        have d1 := (hb.cell (p := ⟨b1, o1 + k, none⟩) hb1).trans c1
        have d2 := (hb.cell (p := ⟨b2, o2 + k, none⟩) hb2).trans c2
        have hi1 : (k : Int) < (n : Int) := by omega
        clear c1 c2
        go_wp2_with fail
        go_quiet (fail)
        by_cases he : xs[k] = ys[k]
        · have hne : (xs[k] != ys[k]) = false := by simp [he]
          have HE : Hid (xs[k] = ys[k]) := he
          clear he
          go_wp2
          go_roundw
          case rel => exact ⟨k + 1, by omega, by go_num, take_eq_succ HT.out hkx hky HE.out, bdrewN hb _⟩
          case measure => simp [intOf]; omega
        · have hne : (xs[k] != ys[k]) = true := by simp [he]
          go_wp2
          go_ret
          exact ⟨by simp [ne_at hkx hky he], bdrewN hb _⟩
      · go_wp2
        go_ret
        exact ⟨by simp [take_all HT.out (by omega) (by omega)], hb⟩
  · have hne : ((n : Int) != (m : Int)) = true := by simp; omega
    go_enter Try.func9, Try.ntmps9
    go_wp2
    go_ret
    have : xs ≠ ys := fun e => hl (by rw [← hn, ← hm, e])
    exact ⟨by simp [this], Below.refl _ _⟩

theorem not_mem_all {xs : List Int} {n : Int} {k : Nat} (h : ∀ i (hi : i < xs.length), i < k → xs[i] ≠ n) (hk : xs.length ≤ k) : n ∉ xs := fun hm => by
  obtain ⟨i, hi, e⟩ := List.getElem_of_mem hm
  exact h i hi (by omega) e

set_option maxHeartbeats 400000 in
set_option maxRecDepth 100000 in
theorem wHas_any (a : Option Addr) (m ca : Nat) (n : Int) (xs : List Int) (w : World) (hm : xs.length = m) (hx : SegI w a xs) (hm1 : m ≤ maxLen) :
    Calls Try.prog 14 #[.slice a m ca, .int .i64 n] w fun e w' => e = .returned (.bool (decide (n ∈ xs))) ∧ w' = w := by
  unfold maxLen at hm1
  go_enter Try.func14, Try.ntmps14
  go_wp2
  go_loopw [5] (fun i wr => ∃ k : Nat, k ≤ m ∧ i = .int .i64 k ∧ (∀ i (hi : i < xs.length), i < k → xs[i] ≠ n) ∧ wr = w) (fun i _ => m - (intOf i).toNat)
  case atStart => exact ⟨0, Nat.zero_le _, rfl, fun i _ h => by omega, rfl⟩
  case round =>
    obtain ⟨k, hk, rfl, htk, rfl⟩ := hrel
    have HT : Hid (∀ i (hi : i < xs.length), i < k → xs[i] ≠ n) := htk
    clear htk
    by_cases hlt : k < m
    · have hkx : k < xs.length := by omega
      obtain ⟨b1, o1, rfl, hb1, d1⟩ := hx.get hkx
      have hi1 : (k : Int) < (m : Int) := by omega
      by_cases he : xs[k] = n
      · have hne : (xs[k] == n) = true := by simp [he]
        have HE : Hid (n ∈ xs) := by
          show n ∈ xs
          rw [← he]; exact List.getElem_mem hkx
        clear he
        go_wp2
        go_ret
        exact ⟨by simp [HE.out], rfl⟩
      · have hne : (xs[k] == n) = false := by simp [he]
        have HE : Hid (xs[k] ≠ n) := he
        clear he
        go_wp2
        go_roundw
        case rel =>
          refine ⟨k + 1, by omega, by go_num, fun i hi hik => ?_, trivial⟩
          by_cases e : i = k
          · subst e; exact HE.out
          · exact HT.out i hi (by omega)
        case measure => simp [intOf]; omega
    · go_wp2
      go_ret
      exact ⟨by simp [not_mem_all HT.out (by omega)], rfl⟩
end Go.Proofs.Ytcpnkpogebjieaa
