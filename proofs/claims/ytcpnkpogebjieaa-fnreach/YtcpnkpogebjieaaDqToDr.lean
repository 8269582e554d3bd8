/- The specification's own collecting: where what is watched has gone. · The specification's own collecting: telling. -/
import Derived.Test.YtcpnkpogebjieaaDp
namespace Go.Proofs.Ytcpnkpogebjieaa
open Go.RowKit

def movL (ws : List (Int × Int)) (x : List Int) : List (Int × Int) := (ws.filter fun p => decide (0 ≤ pos x p.1) && decide (0 ≤ pos x p.2)).map fun p => (pos x p.1, pos x p.2)
theorem movL_succ (ws : List (Int × Int)) (x : List Int) (k : Nat) (hk : k < ws.length) : movL (ws.take (k + 1)) x = if decide (0 ≤ pos x ws[k].1) = true ∧ decide (0 ≤ pos x ws[k].2) = true then movL (ws.take k) x ++ [(pos x ws[k].1, pos x ws[k].2)] else movL (ws.take k) x := by
  unfold movL
  rw [List.take_succ_eq_append_getElem hk, List.filter_append]
  by_cases h : decide (0 ≤ pos x ws[k].1) = true ∧ decide (0 ≤ pos x ws[k].2) = true
  · rw [if_pos h]
    simp only [List.filter_cons, h.1, h.2, Bool.and_self, if_true, List.filter_nil, List.map_append, List.map_cons, List.map_nil]
  · rw [if_neg h]
    have : (decide (0 ≤ pos x ws[k].1) && decide (0 ≤ pos x ws[k].2)) = false := by
      rw [Bool.eq_false_iff]
      intro e
      rw [Bool.and_eq_true] at e
      exact h e
    simp [this]
theorem movL_le (ws : List (Int × Int)) (x : List Int) (k : Nat) : (movL (ws.take k) x).length ≤ k := by
  unfold movL
  rw [List.length_map]
  exact Nat.le_trans (List.length_filter_le _ _) (List.length_take_le _ _)

set_option maxHeartbeats 1600000 in
set_option maxRecDepth 100000 in
theorem l3Moved_any (wa : Option Addr) (wcap : Nat) (ws : List (Int × Int)) (xa : Option Addr) (xcap : Nat) (x : List Int) (w : World) (hw : SegW w wa ws) (hwl : ws.length ≤ 1048576) (hx : SegI w xa x) (hxl : x.length ≤ maxLen) :
    Calls Try.prog 104 #[.slice wa ws.length wcap, .slice xa x.length xcap] w fun e w' => ∃ v', e = .returned v' ∧ OwnW w' w.heap.size v' (movL ws x) ∧ Below w.heap.size w w' := by
  obtain ⟨i0, hi, hz0, hz1, hz2⟩ := info_parts info_watch
  go_enter Try.func104, Try.ntmps104
  go_wp2
  have hO0 := World.ownsRow_lit (e := 77) (size := 2) (base := w.heap.size) w #[] 0 (by simp) (Nat.zero_le _) rfl
  have hB0 : Below w.heap.size w (w.alloc (Obj.cells #[] 77)) := (Below.refl _ _).alloc (Nat.le_refl _) _
  go_loopw [5, 6] (fun v i wr => ∃ k : Nat, k ≤ ws.length ∧ i = .int .i64 k ∧ OwnW wr w.heap.size v (movL (ws.take k) x) ∧ Below w.heap.size w wr) (fun _ i _ => ws.length - (intOf i).toNat)
  case atStart => exact ⟨0, Nat.zero_le _, rfl, hO0, hB0⟩
  case round =>
    obtain ⟨k, hk, rfl, hown, hb⟩ := hrel
    clear hO0 hB0
    by_cases hlt : k < ws.length
    · obtain ⟨b, off, rfl, hbw, e1, e2⟩ := hw.get hlt
      have d1 := (hb.cell (p := ⟨b, off + k * 2, none⟩) hbw).trans e1
      have d2 := (hb.cell (p := ⟨b, off + k * 2 + 1, none⟩) hbw).trans e2
      have sx := hx.below hb (Nat.le_refl _)
      have sxd : SegI wr.drew xa x := hx.below hb.drew (Nat.le_refl _)
      have HF := movL_succ ws x k hlt
      have hfl := movL_le ws x k
      have hi1 : (k : Int) < (ws.length : Int) := by omega
      clear e1 e2
      generalize ws[k].1 = g1 at *
      generalize ws[k].2 = g2 at *
      go_wp2_with fail
      refine (l2At_pos xa _ xcap x g1 _ rfl hxl sx).mono ?_
      rintro e w1 ⟨rfl, rfl⟩
      by_cases hm1 : decide (0 ≤ pos x g1) = true
      · go_wp2_with fail
        refine (l2At_pos xa _ xcap x g2 _ rfl hxl sx).mono ?_
        rintro e w1 ⟨rfl, rfl⟩
        by_cases hm2 : decide (0 ≤ pos x g2) = true
        · rw [if_pos ⟨hm1, hm2⟩] at HF
          have HF' : Hid (movL (ws.take (k + 1)) x = movL (ws.take k) x ++ [(pos x g1, pos x g2)]) := HF
          clear HF
          obtain ⟨va, vcap, rfl, -⟩ := hown.form
          have hbs := hb.size
          have hrow := fun k' h' => (hown.lt k' h').1
          have hne : some b ≠ (Value.slice va (movL (ws.take k) x).length vcap).ownBlock := fun e => by have := hrow b e.symm; omega
          generalize hL : movL (ws.take k) x = L at *
          have HL : Hid (movL (ws.take k) x = L) := hL
          clear hL
          have hA : Below w1.heap.size w1 (w1.drew.alloc (Obj.cells #[.int .i64 (pos x g1), .int .i64 (pos x g2)] 77)) := (Below.refl _ _).drew.alloc (Nat.le_refl _) _
          have hvA : (w1.drew.alloc (Obj.cells #[.int .i64 (pos x g1), .int .i64 (pos x g2)] 77)).ownsRow w.heap.size 77 2 (.slice va L.length vcap) L.length (L.flatMap wc) := hown.below hA (Nat.le_refl _)
          have hnw := watch_new (w := w1.drew) (pos x g1, pos x g2) 77
          have hone : ∀ u ∈ wc (pos x g1, pos x g2), u.oneCell' = true := fun u hu => by
            simp [wc] at hu
            rcases hu with rfl | rfl <;> rfl
          have hbs2 : w.heap.size ≤ (w1.drew.alloc (Obj.cells #[.int .i64 (pos x g1), .int .i64 (pos x g2)] 77)).heap.size := Nat.le_trans hbs hA.size
          have HS : Hid (∀ w2, (w1.drew.alloc (Obj.cells #[.int .i64 (pos x g1), .int .i64 (pos x g2)] 77)).grownBy w2 (Value.slice va L.length vcap).ownBlock → (w2.cell? ⟨b, off + k * 2, none⟩ = some (.int .i64 g1) ∧ w2.cell? ⟨b, off + k * 2 + 1, none⟩ = some (.int .i64 g2)) ∧ Below w.heap.size w w2) := fun w2 hg => by
            have hb1 : b < w1.heap.size := by omega
            refine ⟨⟨(hg.cell_far ⟨b, off + k * 2, none⟩ (Nat.lt_of_lt_of_le hb1 hA.size) hne).trans ((hA.cell (p := ⟨b, off + k * 2, none⟩) hb1).trans d1), (hg.cell_far ⟨b, off + k * 2 + 1, none⟩ (Nat.lt_of_lt_of_le hb1 hA.size) hne).trans ((hA.cell (p := ⟨b, off + k * 2 + 1, none⟩) hb1).trans d2)⟩, ?_⟩
            exact (hb.trans (hA.mono hb.size)).trans (gb_below hg hbs2 hrow)
          have hl1 : L.length + 1 ≤ maxLen := by unfold maxLen; omega
          have hl2 : (L.length + 1) * 16 ≤ 140737488355328 := by omega
          clear hA hne hrow
          go_wp2_with fail
          go_region_held3 (fun w' => w'.cell? ⟨b, off + k * 2, none⟩ = some (.int .i64 g1) ∧ w'.cell? ⟨b, off + k * 2 + 1, none⟩ = some (.int .i64 g2)) (go_keep)
            (first
              | (go_at_call_of 75 (Value.int .i64 g1); refine (l2At_pos xa _ xcap x g1 _ rfl hxl sxd).mono ?_; rintro e w1 ⟨rfl, rfl⟩)
              | (go_at_call_of 75 (Value.int .i64 g2); refine (l2At_pos xa _ xcap x g2 _ rfl hxl sxd).mono ?_; rintro e w1 ⟨rfl, rfl⟩)
              | (refine step_append_lies _ rfl _ _ 25 rfl w.heap.size 77 i0 _ 2 16 Try.underlying25 hi hz0 hz1 hz2 rfl (by decide) _ _ _ rfl hvA ⟨w1.heap.size, 0, none⟩ 1 1 (wc (pos x g1, pos x g2)) rfl rfl hnw hone (by decide) hl1 hl2 hbs2 _ rfl ?_; intro g cap w2 hown2 hgrow hat hlt2; obtain ⟨⟨hS1, hS2⟩, hb2⟩ := HS.out w2 hgrow))
          all_goals
            have hown3 : Hid (OwnW w2 w.heap.size (.slice (some ⟨g, 0, none⟩) (L.length + 1) cap) (movL (ws.take (k + 1)) x)) := by
              show OwnW _ _ _ _
              rw [HF'.out]
              unfold OwnW
              simpa using hown2
            clear hown2 hgrow hat hvA hnw hone HS
            go_wp2
            go_roundw
            case rel => exact ⟨k + 1, by omega, by go_num, hown3.out, hb2⟩
            case measure => simp [intOf]; omega
        · rw [if_neg (fun q => hm2 q.2)] at HF
          have hm2' : decide (0 ≤ pos x g2) = false := by simpa using hm2
          have HF' : Hid (OwnW w1 w.heap.size u5 (movL (ws.take (k + 1)) x)) := by
            show OwnW _ _ _ _
            rw [HF]; exact hown
          clear HF hm2
          go_wp2
          go_roundw
          case rel => exact ⟨k + 1, by omega, by go_num, HF'.out, hb⟩
          case measure => simp [intOf]; omega
      · rw [if_neg (fun q => hm1 q.1)] at HF
        have hm1' : decide (0 ≤ pos x g1) = false := by simpa using hm1
        have HF' : Hid (OwnW w1 w.heap.size u5 (movL (ws.take (k + 1)) x)) := by
          show OwnW _ _ _ _
          rw [HF]; exact hown
        clear HF hm1
        go_wp2
        go_roundw
        case rel => exact ⟨k + 1, by omega, by go_num, HF'.out, hb⟩
        case measure => simp [intOf]; omega
    · have hk2 : k = ws.length := by omega
      subst hk2
      rw [List.take_length] at hown
      go_wp2
      go_ret
      exact ⟨_, rfl, hown, hb⟩
end Go.Proofs.Ytcpnkpogebjieaa

namespace Go.Proofs.Ytcpnkpogebjieaa
open Go.RowKit

theorem told_mem {ws : List (Int × Int)} {X : List Int} {p : Int × Int} : p ∈ toldL ws X ↔ p ∈ ws ∧ (decide (0 ≤ pos X p.1) && decide (pos X p.2 < 0)) = true := by
  unfold toldL; rw [List.mem_filter]
theorem filter_split (f : Int × Int → Bool) (l : List (Int × Int)) : (l.filter fun p => !f p).length + (l.filter f).length = l.length := by
  induction l with
  | nil => rfl
  | cons a l ih =>
    simp only [List.filter_cons]
    cases f a <;> simp <;> omega
theorem without_told (ws : List (Int × Int)) (X : List Int) : (withoutL ws (toldL ws X)).length + (toldL ws X).length = ws.length := by
  have h1 : withoutL ws (toldL ws X) = ws.filter fun p => !(decide (0 ≤ pos X p.1) && decide (pos X p.2 < 0)) := by
    unfold withoutL
    refine List.filter_congr fun p hp => ?_
    congr 1
    rw [Bool.eq_iff_iff, decide_eq_true_eq, told_mem]
    exact ⟨fun h => h.2, fun h => ⟨hp, h⟩⟩
  rw [h1]
  exact filter_split (fun p : Int × Int => decide (0 ≤ pos X p.1) && decide (pos X p.2 < 0)) ws
theorem OkC.tell {h : Hp} (c : OkC h) {ws ds : List (Int × Int)} (h1 : ∀ p ∈ ws, p ∈ h.ws) (h2 : ∀ p ∈ ds, p ∈ h.ws ∨ p ∈ h.ds) (h3 : ws.length + ds.length ≤ h.ws.length + h.ds.length) (wa : Option Addr) (wcap : Nat) (da : Option Addr) (dcap : Nat) : OkC { h with wa := wa, wcap := wcap, ws := ws, da := da, dcap := dcap, ds := ds } :=
  ⟨c.n60, c.r8, by have := c.w20; simp only; omega, c.ob, c.ro, fun p hp => c.wo p (h1 p hp), fun p hp => (h2 p hp).elim (c.wo p) (c.dd p)⟩
theorem SegW.avi {w : World} {a : Option Addr} {ws : List (Int × Int)} (h : SegW w a ws) {g : Nat} (hg : w.heap.size ≤ g) : AvI a ws.length (some g) := fun hm x hx => by
  obtain ⟨b, off, h1, h2, _⟩ := h hm
  rw [h1] at hx; simp at hx; subst hx
  intro e; simp at e; omega
/-- A row below a block is not that block. -/
theorem avi_lt {a : Option Addr} {n cap m : Nat} {r : Option Nat} (h : ∀ k, (Value.slice a n cap).ownBlock = some k → m ≤ k) (hr : ∀ k, r = some k → k < m) : AvI a n r := fun _ x hx e => by
  subst hx
  have h1 := h x.block rfl
  have h2 := hr x.block e.symm
  omega

/-- What l3Tell holds between two rounds: the heap with what is watched and told by now, and the list of what is come to. -/
structure TlIn (w : World) (h : Hp) (W : World) (v : Value) (K : List Int) (wa : Option Addr) (wcap : Nat) (ws : List (Int × Int)) (da : Option Addr) (dcap : Nat) (ds : List (Int × Int)) : Prop where
  bh : Blk W w.heap.size [Value.slice h.oa h.os.length h.ocap, Value.slice h.ra h.rs.length h.rcap, Value.slice wa ws.length wcap, Value.slice da ds.length dcap] 27
  br : Blk W (w.heap.size + 1) [Value.slice none 0 0, Value.slice none 0 0, Value.slice none 0 0, Value.slice none 0 0] 27
  be : Below w.heap.size w W
  isIn : HpIn W { h with wa := wa, wcap := wcap, ws := ws, da := da, dcap := dcap, ds := ds }
  ok : OkC { h with wa := wa, wcap := wcap, ws := ws, da := da, dcap := dcap, ds := ds }
  kn : OwnL W w.heap.size v K
  pl : Places h.os.length K
  av : HpAv { h with wa := wa, wcap := wcap, ws := ws, da := da, dcap := dcap, ds := ds } v.ownBlock
  ab : HpAv { h with wa := wa, wcap := wcap, ws := ws, da := da, dcap := dcap, ds := ds } (some w.heap.size)
  ar : HpAv { h with wa := wa, wcap := wcap, ws := ws, da := da, dcap := dcap, ds := ds } (some (w.heap.size + 1))
theorem TlIn.step {w : World} {h : Hp} {W W' : World} {v : Value} {K : List Int} {wa : Option Addr} {wcap : Nat} {ws : List (Int × Int)} {da : Option Addr} {dcap : Nat} {ds : List (Int × Int)} (t : TlIn w h W v K wa wcap ws da dcap ds) (hb : Below W.heap.size W W') : TlIn w h W' v K wa wcap ws da dcap ds :=
  ⟨t.bh.step hb, t.br.step hb, t.be.trans (hb.mono t.be.size), t.isIn.below hb (Nat.le_refl _), t.ok, t.kn.below hb (Nat.le_refl _), t.pl, t.av, t.ab, t.ar⟩
/-- The list grows. -/
theorem TlIn.grow {w : World} {h : Hp} {W W' : World} {v v' : Value} {K K' : List Int} {wa : Option Addr} {wcap : Nat} {ws : List (Int × Int)} {da : Option Addr} {dcap : Nat} {ds : List (Int × Int)} (t : TlIn w h W v K wa wcap ws da dcap ds) (hg : W.grownBy W' v.ownBlock) (hk : OwnL W' w.heap.size v' K') (hp : Places h.os.length K') (hat : v'.ownBlock = v.ownBlock ∨ ∃ g, v'.ownBlock = some g ∧ W.heap.size ≤ g) : TlIn w h W' v' K' wa wcap ws da dcap ds := by
  refine ⟨t.bh.grown hg (row_ne_blk t.kn t.bh (by decide)), t.br.grown hg (row_ne_blk t.kn t.br (by decide)), t.be.trans (gb_below hg t.be.size (fun k e => (t.kn.lt k e).1)), t.isIn.grown hg t.av, t.ok, hk, hp, ?_, t.ab, t.ar⟩
  rcases hat with e | ⟨g, e, hg'⟩
  · rw [e]; exact t.av
  · rw [e]; exact t.isIn.av hg'
theorem TlIn.fit {w : World} {h : Hp} {W : World} {v : Value} {K : List Int} {wa : Option Addr} {wcap : Nat} {ws : List (Int × Int)} {da : Option Addr} {dcap : Nat} {ds : List (Int × Int)} (t : TlIn w h W v K wa wcap ws da dcap ds) (hcap : ∀ (i : Nat) (hi : i < h.os.length), h.os[i].r.length ≤ h.os[i].rcap) : Fit W { h with wa := wa, wcap := wcap, ws := ws, da := da, dcap := dcap, ds := ds } := t.ok.fit t.isIn hcap
theorem TlIn.tr {w : World} {h : Hp} {W : World} {v : Value} {K : List Int} {wa : Option Addr} {wcap : Nat} {ws : List (Int × Int)} {da : Option Addr} {dcap : Nat} {ds : List (Int × Int)} (t : TlIn w h W v K wa wcap ws da dcap ds) (hcap : ∀ (i : Nat) (hi : i < h.os.length), h.os[i].r.length ≤ h.os[i].rcap) : Tr { h with wa := wa, wcap := wcap, ws := ws, da := da, dcap := dcap, ds := ds } := okP_tr (okC_ok t.ok) t.ok.small hcap
theorem TlIn.told {w : World} {h : Hp} {W w3 w6 : World} {v : Value} {K : List Int} {wa : Option Addr} {wcap : Nat} {ws : List (Int × Int)} {da : Option Addr} {dcap : Nat} {ds : List (Int × Int)} (t : TlIn w h W v K wa wcap ws da dcap ds) {na ea : Option Addr} {nc ec : Nat} {ns es : List (Int × Int)}
    (hb3 : Below W.heap.size W w3) (hn : OwnW w3 W.heap.size (.slice na ns.length nc) ns) (hb6 : Below w3.heap.size (w3.setCell ⟨w.heap.size, 2, none⟩ (.slice na ns.length nc)) w6) (he : OwnW w6 W.heap.size (.slice ea es.length ec) es)
    (h1 : ∀ p ∈ ns, p ∈ ws) (h2 : ∀ p ∈ es, p ∈ ws ∨ p ∈ ds) (h3 : ns.length + es.length ≤ ws.length + ds.length) :
    TlIn w h (w6.setCell ⟨w.heap.size, 3, none⟩ (.slice ea es.length ec)) v K na nc ns ea ec es ∧ KeepT 27 W (w6.setCell ⟨w.heap.size, 3, none⟩ (.slice ea es.length ec)) := by
  have s3 : (w3.setCell ⟨w.heap.size, 2, none⟩ (.slice na ns.length nc)).heap.size = w3.heap.size := by simp [World.setCell]
  have bh3 := t.bh.step hb3
  have br3 := t.br.step hb3
  have bh3s := bh3.store 2 (.slice na ns.length nc)
  have br3s := br3.other ⟨w.heap.size, 2, none⟩ (.slice na ns.length nc) (by dsimp only; omega)
  have hb6' : Below (w3.setCell ⟨w.heap.size, 2, none⟩ (.slice na ns.length nc)).heap.size (w3.setCell ⟨w.heap.size, 2, none⟩ (.slice na ns.length nc)) w6 := by rw [s3]; exact hb6
  have bh6 := bh3s.step hb6'
  have br6 := br3s.step hb6'
  have k1 : KeepT 27 W w3 := KeepT.below _ hb3 (Nat.le_refl _)
  have k2 : KeepT 27 w3 (w3.setCell ⟨w.heap.size, 2, none⟩ (.slice na ns.length nc)) := KeepT.set bh3 2 _
  have k3 : KeepT 27 (w3.setCell ⟨w.heap.size, 2, none⟩ (.slice na ns.length nc)) w6 := KeepT.below _ hb6' (Nat.le_refl _)
  have k4 : KeepT 27 w6 (w6.setCell ⟨w.heap.size, 3, none⟩ (.slice ea es.length ec)) := KeepT.set bh6 3 _
  have kk := ((k1.trans k2).trans k3).trans k4
  have hWs := t.be.size
  have hlt := t.br.lt
  have i6 := ((t.isIn.below hb3 (Nat.le_refl _)).grown (gb_set w3 w.heap.size 2 (.slice na ns.length nc)) t.ab).below hb6' (Nat.le_refl _)
  have i7 := i6.grown (gb_set w6 w.heap.size 3 (.slice ea es.length ec)) t.ab
  have hn7 : OwnW (w6.setCell ⟨w.heap.size, 3, none⟩ (.slice ea es.length ec)) W.heap.size (.slice na ns.length nc) ns := row_keep hn ((k2.trans k3).trans k4) (by decide)
  have he7 : OwnW (w6.setCell ⟨w.heap.size, 3, none⟩ (.slice ea es.length ec)) W.heap.size (.slice ea es.length ec) es := row_keep he k4 (by decide)
  have av1 : ∀ (r : Option Nat), (∀ k, r = some k → k < W.heap.size) → AvI na ns.length r ∧ AvI ea es.length r := fun r hr => ⟨avi_lt (cap := nc) (fun k q => (hn.lt k q).1) hr, avi_lt (cap := ec) (fun k q => (he.lt k q).1) hr⟩
  obtain ⟨p1, p2⟩ := av1 v.ownBlock (fun k q => (t.kn.lt k q).2)
  obtain ⟨p3, p4⟩ := av1 (some w.heap.size) (fun k q => by simp at q; omega)
  obtain ⟨p5, p6⟩ := av1 (some (w.heap.size + 1)) (fun k q => by simp at q; omega)
  refine ⟨⟨bh6.store 3 _, br6.other _ _ (by dsimp only; omega), ?_, ⟨i7.so, i7.sr, ?_, ?_⟩, t.ok.tell h1 h2 h3 na nc ea ec, row_keep t.kn kk (by decide), t.pl, ⟨t.av.ao, t.av.aoo, t.av.ar, p1, p2⟩, ⟨t.ab.ao, t.ab.aoo, t.ab.ar, p3, p4⟩, ⟨t.ar.ao, t.ar.aoo, t.ar.ar, p5, p6⟩⟩, kk⟩
  · exact (((t.be.trans (hb3.mono hWs)).setCell (Nat.le_refl _) _).trans (hb6'.mono (by rw [s3]; exact Nat.le_trans hWs hb3.size))).setCell (Nat.le_refl _) _
  · obtain ⟨a, cap, e, hs, _⟩ := hn7.form
    simp only [Value.slice.injEq] at e
    rw [e.1]; exact hs
  · obtain ⟨a, cap, e, hs, _⟩ := he7.form
    simp only [Value.slice.injEq] at e
    obtain ⟨rfl, _⟩ := e
    exact hs
theorem in4 {W : World} {B : Nat} {y : Hp} (hh : HpIn W y) (hav : HpAv y (some B)) (v0 v1 v2 v3 : Value) : HpIn ((((W.setCell ⟨B, 0, none⟩ v0).setCell ⟨B, 1, none⟩ v1).setCell ⟨B, 2, none⟩ v2).setCell ⟨B, 3, none⟩ v3) y :=
  (((hh.grown (gb_set W B 0 v0) hav).grown (gb_set _ B 1 v1) hav).grown (gb_set _ B 2 v2) hav).grown (gb_set _ B 3 v3) hav
end Go.Proofs.Ytcpnkpogebjieaa
