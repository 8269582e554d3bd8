/- The program's own MemReach, whole. -/
import Derived.Test.YtcpnkpogebjieaaRi4
import Derived.Test.YtcpnkpogebjieaaImplOk4
import Derived.Maps.OwnIn
namespace Go.Proofs.Ytcpnkpogebjieaa
open Go.RowKit Go.Shelf

attribute [local go_sem] Oper.semAt_some

set_option maxHeartbeats 1000000 in
set_option maxRecDepth 100000 in
theorem comings_any (h : Hp) (w : World) :
    Calls Try.prog 26 #[h.v] w fun e w' => e = .returned (.func (.func 59) #[] #[.pointer (some ⟨w.heap.size, 0, none⟩)]) ∧ w' = w.alloc (Obj.cells #[Value.slice h.oa h.os.length h.ocap, Value.slice h.ra h.rs.length h.rcap, Value.slice h.wa h.ws.length h.wcap, Value.slice h.da h.ds.length h.dcap] 27) := by
  simp only [Hp.v]
  have hmf : ∀ (fn : Fn) (first cap : Array Value) (w : World), (Instr.makeFunc fn first cap).run Try.prog w = .ok (.func fn first cap) w := fun _ _ _ _ => rfl
  go_enter Try.func26, Try.ntmps26
  go_wp2
  go_ret
  exact ⟨rfl, rfl⟩

theorem own_cells {W : World} {base : Nat} {v : Value} {zs : List Int} (h : OwnL W base v zs) {j : Nat} {o : Obj} (e : v.ownBlock = some j) (hj : W.heap[j]? = some o) : o.isCells = true := by
  rcases h.2 with ⟨h3, _⟩ | ⟨g, cap, cur, h3, _, hh, _⟩
  · rw [h3] at e; simp [Value.ownBlock] at e
  · rw [h3] at e
    simp [Value.ownBlock] at e
    subst e
    rw [hh] at hj
    cases hj
    rfl

theorem trace_places {h : Hp} (ht : Tr h) (f i : Nat) {l : List Int} (hl : Places h.os.length l) : Places h.os.length (traceF (h.os.map Ob.p) h.ds f i l) := by
  induction f generalizing i l with
  | zero => exact hl
  | succ f ih =>
    unfold traceF
    split
    · exact ih _ (hl.putAll (ht.nx _))
    · exact hl

/-- What the caller of the iterator holds between two rounds: B the block of its list's variable. -/
def Hold (w : World) (B : Nat) (M : Nat → Prop) (pre : List Int) (W : World) : Prop :=
  (∃ v, Blk W B [v] 24 ∧ OwnL W w.heap.size v pre ∧ (∀ k, v.ownBlock = some k → ¬ M k)) ∧ ¬ M B ∧ (∀ k, M k → w.heap.size ≤ k ∧ k < W.heap.size) ∧ Below w.heap.size w W

theorem Hold.chg {w : World} {B : Nat} (M : Nat → Prop) (pre : List Int) (A C : World) (h : Hold w B M pre A) (hc : Chg M A C) : Hold w B (more M A C) pre C := by
  obtain ⟨⟨v, hv, ho, hm⟩, hB, hM, hb⟩ := h
  refine ⟨⟨v, hv.same (hc.block B hv.lt hB), ho.same (fun k e => hc.block k (ho.lt k e).2 (hm k e)), fun k e hk => ?_⟩, fun hk => ?_, fun k hk => ?_, ?_⟩
  · rcases hk with hk | hk
    · exact hm k e hk
    · have := (ho.lt k e).2; omega
  · rcases hk with hk | hk
    · exact hB hk
    · have := hv.lt; omega
  · rcases hk with hk | hk
    · exact ⟨(hM k hk).1, Nat.lt_of_lt_of_le (hM k hk).2 hc.size⟩
    · have := hb.size; omega
  · exact hb.trans ⟨hc.os, hc.tape, hc.output, hc.size, fun k hk => hc.block k (by have := hb.size; omega) (fun h => by have := (hM k h).1; omega)⟩

theorem not_cells {o : Obj} {cs : List Value} {t : TypeId} (e : some o = some (Obj.cells cs.toArray t (0, 0))) (h : o.isCells = false) : False := by
  cases e
  simp [Obj.isCells] at h

theorem Hold.put {w : World} {B s : Nat} (hs : w.heap.size ≤ s) (M : Nat → Prop) (pre : List Int) (A : World) (k : Nat) (o o' : Obj) (h : Hold w B M pre A) (hk : s ≤ k) (hl : A.heap[k]? = some o) (hn : o.isCells = false) : Hold w B M pre (A.putObj k o') := by
  obtain ⟨⟨v, hv, ho, hm⟩, hB, hM, hb⟩ := h
  have hg := grownBy_putObj' A k o'
  have h1 : B ≠ k := fun e => by
    subst e
    unfold Blk at hv
    rw [hl] at hv
    exact not_cells hv hn
  have h2 : ∀ x, v.ownBlock = some x → x ≠ k := fun x e e2 => by
    subst e2
    rcases ho.2 with ⟨h3, _⟩ | ⟨g, cap, cur, h3, _, hh, _⟩
    · rw [h3] at e; simp [Value.ownBlock] at e
    · rw [h3] at e
      simp [Value.ownBlock] at e
      subst e
      rw [hl] at hh
      cases hh
      simp [Obj.isCells] at hn
  refine ⟨⟨v, hv.same (World.putObj_heap_other h1), ho.same (fun x e => World.putObj_heap_other (h2 x e)), hm⟩, hB, fun x hx => by simpa using hM x hx, ?_⟩
  exact hb.trans (gb_below hg hb.size (fun x e => by cases e; omega))

theorem Hold.al {w : World} {B : Nat} (M : Nat → Prop) (pre : List Int) (A : World) (o : Obj) (h : Hold w B M pre A) : Hold w B M pre (A.alloc o) := by
  obtain ⟨⟨v, hv, ho, hm⟩, hB, hM, hb⟩ := h
  exact ⟨⟨v, hv.alloc o, ho.below ((Below.refl A.heap.size A).alloc (Nat.le_refl _) o) (Nat.le_refl _), hm⟩, hB, fun x hx => ⟨(hM x hx).1, by have := (hM x hx).2; simp; omega⟩, hb.alloc hb.size o⟩

set_option maxHeartbeats 4000000 in
set_option maxRecDepth 100000 in
theorem implMemReach_any (h : Hp) (w : World) (hh : HpIn w h) (hs : Small h) (ht : ∀ i (hi : i < h.os.length), h.os[i].t.size ≤ maxLen) (hcap : ∀ (i : Nat) (hi : i < h.os.length), h.os[i].r.length ≤ h.os[i].rcap) :
    Calls Try.prog 8 #[h.v] w fun e w' => ∃ v', e = .returned v' ∧ OwnL w' w.heap.size v' (reachP h.p) ∧ Below w.heap.size w w' := by
  have hB0 : Below w.heap.size w (w.alloc (Obj.cells #[Value.slice h.oa h.os.length h.ocap, Value.slice h.ra h.rs.length h.rcap, Value.slice h.wa h.ws.length h.wcap, Value.slice h.da h.ds.length h.dcap] 27)) := (Below.refl _ _).alloc (Nat.le_refl _) _
  have hK0 := Blk.new w [Value.slice h.oa h.os.length h.ocap, Value.slice h.ra h.rs.length h.rcap, Value.slice h.wa h.ws.length h.wcap, Value.slice h.da h.ds.length h.dcap] 27
  have c1 := implMemOk_any h _ (hh.below hB0 (Nat.le_refl _)) hs ht
  simp only [Hp.v] at c1
  cases hok : okP h.p with
  | false =>
    rw [hok] at c1
    have E : Hid (reachP h.p = []) := by simp [Hid, reachP, hok]
    clear hok
    go_enter Try.func8, Try.ntmps8
    simp only [Hp.v]
    go_wp2_with fail
    refine c1.mono ?_
    rintro e w1 ⟨rfl, hb1⟩
    have hB1 := hB0.trans (hb1.mono hB0.size)
    go_wp2
    go_ret
    refine ⟨_, rfl, ?_, hB1⟩
    rw [E.out]
    exact World.ownsRow_nil _ _ _ _
  | true =>
    rw [hok] at c1
    have E : Hid (reachP h.p = traceF (h.os.map Ob.p) h.ds 61 0 (putAll [] h.rs)) := by
      show _ = _
      simp only [reachP, hok, if_true]; rfl
    have HOK : Hid (okP h.p = true) := hok
    clear hok
    refine (callsIn_wide (n := 10)).1 ?_
    have hro : Fence.wide.round = none := rfl
    have h1 : (1 : Nat) ≤ 10 := by omega
    obtain ⟨i0, hi, hz0, hz1, hz2⟩ := info_parts info_int
    refine callsIn_of_wp_marks Try.func8 rfl trivial ?_ hro
    simp only [Hp.v, Try.ntmps8, List.size_toArray, List.length_cons, List.length_nil, Nat.reduceAdd, Nat.reduceSub, Array.replicate_succ, Array.replicate_zero, List.push_toArray, List.append_toArray, List.nil_append, List.cons_append]
    gi_wp2_with fail
    refine ⟨trivial, ?_⟩
    refine (callsIn_wide.2 c1).mono ?_
    rintro e w1 ⟨rfl, hb1⟩
    have hB1 := hB0.trans (hb1.mono hB0.size)
    have hK1 := hK0.below hb1 hK0.lt
    clear c1 hb1 hB0 hK0
    obtain ⟨x0, x1, x2, x3⟩ := cells4' hK1
    have hlt1 := hK1.lt
    have c2 := comings_any h (w1.alloc (Obj.cells #[Value.slice none 0 0] 24))
    simp only [Hp.v] at c2
    gi_wp2_with fail
    refine ⟨trivial, ?_⟩
    refine (callsIn_wide.2 c2).mono ?_
    rintro e w2 ⟨rfl, hw2⟩
    have hA1 : Below w1.heap.size w1 (w1.alloc (Obj.cells #[Value.slice none 0 0] 24)) := (Below.refl _ _).alloc (Nat.le_refl _) _
    have hA2 : Below (w1.alloc (Obj.cells #[Value.slice none 0 0] 24)).heap.size (w1.alloc (Obj.cells #[Value.slice none 0 0] 24)) w2 := by rw [hw2]; exact (Below.refl _ _).alloc (Nat.le_refl _) _
    have hBO := (Blk.new w1 [Value.slice none 0 0] 24).below hA2 (Blk.new w1 [Value.slice none 0 0] 24).lt
    have hBH : Blk w2 (w1.heap.size + 1) [Value.slice h.oa h.os.length h.ocap, Value.slice h.ra h.rs.length h.rcap, Value.slice h.wa h.ws.length h.wcap, Value.slice h.da h.ds.length h.dcap] 27 := by
      have := Blk.new (w1.alloc (Obj.cells #[Value.slice none 0 0] 24)) [Value.slice h.oa h.os.length h.ocap, Value.slice h.ra h.rs.length h.rcap, Value.slice h.wa h.ws.length h.wcap, Value.slice h.da h.ds.length h.dcap] 27
      rw [hw2]
      simpa using this
    have hsz2 : w2.heap.size = w1.heap.size + 1 + 1 := by rw [hw2]; simp
    have HSZ : Hid (w2.heap.size = w1.heap.size + 1 + 1) := hsz2
    have hB2 : Below w.heap.size w w2 := (hB1.trans (hA1.mono hB1.size)).trans (hA2.mono (Nat.le_trans hB1.size hA1.size))
    have hw1s := hB1.size
    have hle2 : w.heap.size ≤ w2.heap.size := hB2.size
    have h0 : Hold w w1.heap.size (fun k => k = w1.heap.size + 1) [] w2 := ⟨⟨_, hBO, World.ownsRow_nil _ _ _ _, fun k e => by simp [Value.ownBlock] at e⟩, by omega, fun k e => by omega, hB2⟩
    have hM0 : ∀ k, k = w1.heap.size + 1 → k < w2.heap.size := fun k e => by omega
    have hseq := comings1_seq h (10 - 1) (w1.heap.size + 1) w w2 (by omega) hh hB2 hs HOK.out hcap hBH
    have hRl : (traceF (h.os.map Ob.p) h.ds 61 0 (putAll [] h.rs)).length ≤ 60 := by
      have htr := okP_tr HOK.out hs hcap
      have := (trace_places htr 61 0 ((Places.nil _).putAll (fun z hz => (refs_lt (okP_parts HOK.out).2.2.2.2.1 z hz).2))).len
      have := htr.n60
      omega
    generalize traceF (h.os.map Ob.p) h.ds 61 0 (putAll [] h.rs) = R at hseq E hRl
    clear hw2 hsz2 c2 hA1 hA2 hBO hBH x0 x1 x2 x3 HOK
    simp only [World.size_alloc]
    gi_wp2_with fail
    refine wpIn_rangeFuncM hro h1 (gf := 59) (lb := #[.pointer (some ⟨w1.heap.size + 1, 0, none⟩)]) rfl trivial (enters_of Try.func59 (by kernel_rfl) rfl) hle2 hM0 hseq rfl (Hold w w1.heap.size) Hold.chg (Hold.put hle2) Hold.al h0
      (fun x => { tmps := #[.agg #[Value.slice h.oa h.os.length h.ocap, Value.slice h.ra h.rs.length h.rcap, Value.slice h.wa h.ws.length h.wcap, Value.slice h.da h.ds.length h.dcap], .pointer (some ⟨w.heap.size, 0, none⟩), .slice none 0 0, .pointer (some ⟨w1.heap.size, 0, none⟩), .int .i64 x, .agg #[Value.slice h.oa h.os.length h.ocap, Value.slice h.ra h.rs.length h.rcap, Value.slice h.wa h.ws.length h.wcap, Value.slice h.da h.ds.length h.dcap], .bool true, .bool false, .agg #[Value.slice h.oa h.os.length h.ocap, Value.slice h.ra h.rs.length h.rcap, Value.slice h.wa h.ws.length h.wcap, Value.slice h.da h.ds.length h.dcap], .func (.func 59) #[] #[.pointer (some ⟨w1.heap.size + 1, 0, none⟩)], .int .i64 x, undef, undef, undef, undef, undef], defers := [] }) ?assign ?body ?done
    case assign =>
      intro l x W K hK
      gi_wp2
      exact hK
    case body =>
      rintro l M pre x W ⟨⟨v, hv, hown, hmv⟩, hMB, hM, hB⟩ hlt
      have hc := hv.cell 0
      simp only [List.getElem?_cons_zero] at hc
      have hBs : w.heap.size ≤ w1.heap.size := hw1s
      have hWs := hB.size
      obtain ⟨va, vcap, rfl, -⟩ := hown.form
      have hvA : (W.alloc (Obj.cells #[Value.int .i64 x] 3)).ownsRow w.heap.size 3 1 (.slice va pre.length vcap) pre.length (pre.map (Value.int .i64)) := World.ownsRow.alloc hown _
      have hne := hown.ne hv (by decide)
      have hrow := fun k e => hown.lt k e
      have HSE : Hid (∀ (v' : Value) (w2' : World), w2'.ownsRow w.heap.size 3 1 v' (pre.length + 1) (pre.map (Value.int .i64) ++ [.int .i64 x]) → (W.alloc (Obj.cells #[Value.int .i64 x] 3)).grownBy w2' (Value.slice va pre.length vcap).ownBlock → (v'.ownBlock = (Value.slice va pre.length vcap).ownBlock ∨ v'.ownBlock = some (W.heap.size + 1)) →
          w2'.cell? ⟨w1.heap.size, 0, none⟩ = some (Value.slice va pre.length vcap) ∧ w2'.frozen? ⟨w1.heap.size, 0, none⟩ = false ∧ postM w.heap.size (Hold w w1.heap.size) M (pre ++ [x]) W .normal ⟨#[], []⟩ (w2'.setCell ⟨w1.heap.size, 0, none⟩ v')) := by
        intro v' w2' hown2 hgr hat
        have hA : Below W.heap.size W (W.alloc (Obj.cells #[Value.int .i64 x] 3)) := (Below.refl _ _).alloc (Nat.le_refl _) _
        have hgW : W.grownBy w2' (Value.slice va pre.length vcap).ownBlock := gb_trans (gb_of_below hA (Nat.le_refl _) _) hgr
        have hv2 := hv.grown hgW hne
        have ho2 : OwnL w2' w.heap.size v' (pre ++ [x]) := by unfold OwnL; simpa using hown2
        have hne2 := ho2.ne hv2 (by decide)
        have hb2 : Below w.heap.size W w2' := gb_below hgW hWs (fun k e => (hrow k e).1)
        refine ⟨hv2.cell 0, hv2.free 0, ?_, fun k hk => ?_, hb2.setCell hBs _, ⟨⟨v', hv2.store 0 v', ownsRow_setCell_other ho2 (by simpa using hne2) _, fun k e hk => ?_⟩, hMB, fun k hk => ⟨(hM k hk).1, ?_⟩, (hB.trans hb2).setCell hBs _⟩⟩
        · refine (KeepsOthers.of_grownBy hgW (fun j o e hj => own_cells hown e hj)).trans (KeepsOthers.setCell _ _ _)
        · have hkB : k ≠ w1.heap.size := fun e => hMB (e ▸ hk)
          rw [Below.heap_setCell _ _ _ _ (by simpa using hkB)]
          exact hgW.block k (hM k hk).2 (fun e => hmv k e.symm hk)
        · rcases hat with h1 | h1
          · rw [h1] at e; exact hmv k e hk
          · rw [h1] at e
            simp at e
            have := (hM k hk).2
            omega
        · have := (hM k hk).2
          have := hgW.size
          simp [World.setCell]; omega
      gi_wp2_with (gi_at_builtin; refine wpListIn_append_own_at _ rfl _ _ 24 rfl w.heap.size 3 i0 (.int .i64 0) 1 8 Try.underlying24 hi hz0 hz1 hz2 rfl (by decide) _ _ _ rfl hvA ⟨W.heap.size, 0, none⟩ 1 1 [.int .i64 x] rfl rfl (cell_one_new _ _ _) ?c2 ?c3 ?c4 ?c5 ?_)
      case c2 => intro u hu; simp at hu; subst hu; rfl
      case c3 => unfold maxLen; omega
      case c4 => omega
      case c5 => simp; omega
      intro v' w2' hown2 hgr _ hat
      obtain ⟨q1, q2, q3⟩ := HSE.out v' w2' hown2 hgr hat
      obtain ⟨g', cap', rfl⟩ := ownsRow_succ hown2
      clear hown2 hgr hat HSE hvA
      gi_wp2
      exact q3
    case done =>
      rintro D M W hD ⟨⟨v, hv, hown, hmv⟩, hMB, hM, hB⟩ hK
      have hc := hv.cell 0
      simp only [List.getElem?_cons_zero] at hc
      gi_wp2
      refine ⟨by simp, .inl ⟨_, _, rfl, run_takeDeferred hK, ?_⟩⟩
      refine ⟨_, results_tmp rfl _ _ _, v, rfl, ?_, hB.trans (belowK_b (w := w) (Nat.le_refl _) W D _ _ (by omega) hK rfl rfl)⟩
      rw [E.out]
      exact ownsRow_putObj hown _ hK rfl
end Go.Proofs.Ytcpnkpogebjieaa
