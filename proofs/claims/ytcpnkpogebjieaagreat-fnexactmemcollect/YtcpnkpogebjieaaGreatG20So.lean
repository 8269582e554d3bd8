/- The library's product of two numbers, where it is small; the library's list of one number -/
import Derived.Shelf.Bits.Mul64
import Derived.Laws.CopyOwn
import Derived.Deep.RegionLaw
import Derived.Test.YtcpnkpogebjieaaGreatG19Si2
namespace Go.Proofs.YtcpnkpogebjieaaGreat
open Go.RowKit
set_option maxHeartbeats 1000000 in
set_option maxRecDepth 100000 in
theorem mul64_one (c : Nat) (hc : c ≤ 60) (w : World) : Calls Cut.prog 157 #[.int .u64 1, .int .u64 c] w fun e w' => e = .returned (.tuple #[.int .u64 0, .int .u64 c]) ∧ w' = w := by
 have hm : bits .and .u64 (c : Int) 4294967295 = (c : Int) := by
   rw [Mul64.maskN c (by omega)]; omega
 have hm1 : bits .and .u64 (1 : Int) 4294967295 = (1 : Int) := by
   have := Mul64.maskN 1 (by omega)
   simpa using this
 have hm0 : bits .and .u64 (0 : Int) 4294967295 = (0 : Int) := by
   have := Mul64.maskN 0 (by omega)
   simpa using this
 have hd : (c : Int) / 4294967296 = 0 := by omega
 go_enter (Cut.func_of Tryz.func157 rfl), Tryz.ntmps157
 go_wp2
 go_ret2
 exact ⟨rfl, rfl⟩
set_option maxHeartbeats 1000000 in
set_option maxRecDepth 100000 in
theorem mul_one (c : Nat) (hc : c ≤ 60) (w : World) : Calls Cut.prog 148 #[.int .u64 1, .int .u64 c] w fun e w' => e = .returned (.tuple #[.int .u64 0, .int .u64 c]) ∧ w' = w := by
 have c1 := mul64_one c hc w
 go_enter (Cut.func_of Tryz.func148 rfl), Tryz.ntmps148
 go_wp2_with fail
 refine c1.mono ?_
 rintro e w1 ⟨rfl, rfl⟩
 go_wp2
 go_ret2
 exact ⟨rfl, rfl⟩
def mixC (m n : Nat) (z : Int) : List Value := List.replicate m (Value.int .i64 z) ++ List.replicate (n - m) (Value.int .i64 0)
theorem mixC_len {m n : Nat} {z : Int} (h : m ≤ n) : (mixC m n z).length = n := by simp [mixC]; omega
theorem mixC_splice {m n j : Nat} {z : Int} (h : m + j ≤ n) : splice (mixC m n z) m (List.replicate j (Value.int .i64 z)) = mixC (m + j) n z := by
 unfold splice mixC
 rw [List.take_append_of_le_length (by simp), List.take_of_length_le (by simp)]
 rw [List.drop_append, List.drop_of_length_le (by simp)]
 simp only [List.length_replicate, List.nil_append, List.drop_replicate]
 rw [← List.append_assoc, List.replicate_append_replicate]
 congr 2
 omega
theorem mixC_get {m n : Nat} {z : Int} (k : Nat) (hk : k < m) : (mixC m n z)[k]? = some (Value.int .i64 z) := by
 unfold mixC
 rw [List.getElem?_append_left (by simpa using hk)]
 simp [hk]
theorem rep_one (j : Nat) (z : Int) : ∀ v ∈ List.replicate j (Value.int .i64 z), v.oneCell' = true := fun v hv => by
 rw [List.eq_of_mem_replicate hv]; rfl
set_option maxHeartbeats 1600000 in
set_option maxRecDepth 100000 in
theorem repeat_any (z : Int) (b o n : Nat) (w : World) (hn : n ≤ 60) (hc : w.cell? ⟨b, o, none⟩ = some (.int .i64 z)) (hb : b < w.heap.size) :
   Calls Cut.prog 127 #[.slice (some ⟨b, o, none⟩) 1 1, .int .i64 n] w fun e w' => ∃ g, e = .returned (.slice (some ⟨g, 0, none⟩) n n) ∧ Blk w' g (List.replicate n (Value.int .i64 z)) 3 ∧ w.heap.size ≤ g ∧ Below w.heap.size w w' := by
 obtain ⟨i0, hi', hz0, hz1, hz2⟩ := info_parts info_int
 have c1 := mul_one n hn w
 go_enter (Cut.func_of Tryz.func127 rfl), Tryz.ntmps127
 go_wp2_with fail
 refine c1.mono ?_
 rintro e w1 ⟨rfl, rfl⟩
 clear c1
 go_wp2_with (at_make; refine wpList_make_full _ rfl _ _ 24 rfl w1.heap.size 3 i0 (.int .i64 0) 1 ((Cut.under_eq 24).trans Tryz.underlying24) hi' hz0 hz1 .i64 .i64 _ _ n rfl rfl rfl rfl ?c1 ?c2 (Nat.le_refl _) ?_)
 case c1 => rw [hz2]; omega
 case c2 => unfold maxLen; omega
 intro w2 hown hgr
 have hb1 := below_made hgr
 have hk1 := blk_made hown
 rw [toList_madeCells_one] at hk1
 clear hown hgr
 have hk2 : w2.heap[w1.heap.size]? = some (.cells (mixC 0 n z).toArray 3 (0, 0)) := by
   have := hk1
   unfold Blk at this
   rw [this]; simp [mixC]
 have hc2 := (hb1.cell (p := ⟨b, o, none⟩) hb).trans hc
 have hsz1 : (Cut.prog.info? 3).map (·.size) = some 1 := by rw [hi']; simp [hz1]
 clear hk1
 have hq1 : Nat.min 1 n ≤ 1 := Nat.min_le_left 1 n
 have hq2 : Nat.min 1 n ≤ n := Nat.min_le_right 1 n
 have HC : ∃ cs : List Value, cs = List.replicate (Nat.min 1 n) (Value.int .i64 z) := ⟨_, rfl⟩
 obtain ⟨cs, hcs⟩ := HC
 have hcl : cs.length = Nat.min 1 n := by rw [hcs]; simp
 have hcp : 0 < cs.length → ((some ⟨w1.heap.size, 0, none⟩ : Option Addr) = some ⟨w1.heap.size, 0, none⟩ ∧ ∃ ad, (some ⟨b, o, none⟩ : Option Addr) = some ad ∧ ∀ j v, cs[j]? = some v → w2.cell? (ad.add j) = some v) := fun _ => ⟨rfl, ⟨b, o, none⟩, rfl, fun j v hj => by
   have hj1 : j < cs.length := by
     rcases Nat.lt_or_ge j cs.length with h | h
     · exact h
     · rw [List.getElem?_eq_none h] at hj; cases hj
   have h0 : j = 0 := by rw [hcl] at hj1; omega
   subst h0
   rw [hcs, List.getElem?_replicate] at hj
   split at hj
   · simp at hj; subst hj; simpa [Addr.add] using hc2
   · cases hj⟩
 have hcf : 0 + cs.length ≤ (mixC 0 n z).length := by rw [mixC_len (Nat.zero_le _), hcl]; omega
 have hc1 : ∀ v ∈ cs, v.oneCell' = true := by rw [hcs]; exact rep_one _ _
 have HM : Hid (splice (mixC 0 n z) 0 cs = mixC (Nat.min 1 n) n z) := by
   show _ = _
   have := mixC_splice (m := 0) (n := n) (j := Nat.min 1 n) (z := z) (by omega)
   rw [hcs, this, Nat.zero_add]
 have HCL : Hid (cs.length = Nat.min 1 n) := hcl
 clear hcs
 go_wp2_with (refine wpList_copy_splice rfl _ _ 24 24 rfl 3 ((Cut.under_eq 24).trans Tryz.underlying24) hsz1 _ _ n n 1 1 rfl rfl w1.heap.size 0 (mixC 0 n z) 3 hk2 cs hcl hcp hcf hc1 w1.heap.size w1 hb1 (Nat.le_refl _) ?_)
 intro w3 HK3 hb3
 have hK3 : Blk w3 w1.heap.size (mixC (Nat.min 1 n) n z) 3 := by
   have := HK3.out
   rw [HM.out] at this
   exact this
 have hq3 : 0 < n → 0 < Nat.min 1 n := fun h => by
   have : Nat.min 1 n = 1 := Nat.min_eq_left h
   omega
 have hlen := HCL.out
 generalize Nat.min 1 n = q at *
 generalize cs.length = q' at *
 subst hlen
 clear hcp hcf hc1 HK3 HM HCL hk2 hc2
 go_wp2
 go_loopw [8] (fun i wr => ∃ m : Nat, i = .int .i64 m ∧ m ≤ n ∧ (0 < n → 0 < m) ∧ Blk wr w1.heap.size (mixC m n z) 3 ∧ Below w1.heap.size w1 wr) (fun i _ => n - (intOf i).toNat)
 case atStart => exact ⟨_, rfl, by omega, hq3, hK3, hb3⟩
 case round =>
   obtain ⟨m, rfl, hmn, hm0, hK, hbm⟩ := hrel
   clear hK3 hb3 hb1 hq3
   by_cases hlt : m < n
   · have hmp := hm0 (by omega)
     have hj1 : Nat.min m (n - m) ≤ n - m := Nat.min_le_right m (n - m)
     have hj2 : 0 < Nat.min m (n - m) := Nat.lt_min.2 ⟨hmp, by omega⟩
     have hKd : wr.drew.heap[w1.heap.size]? = some (.cells (mixC m n z).toArray 3 (0, 0)) := hK
     have HC : ∃ cs : List Value, cs = List.replicate (Nat.min m (n - m)) (Value.int .i64 z) := ⟨_, rfl⟩
     obtain ⟨cs2, hcs2⟩ := HC
     have hcl2 : cs2.length = Nat.min m (n - m) := by rw [hcs2]; simp
     have hcp2 : 0 < cs2.length → ((some ⟨w1.heap.size, m, none⟩ : Option Addr) = some ⟨w1.heap.size, m, none⟩ ∧ ∃ ad, (some ⟨w1.heap.size, 0, none⟩ : Option Addr) = some ad ∧ ∀ j v, cs2[j]? = some v → wr.drew.cell? (ad.add j) = some v) := fun _ => ⟨rfl, ⟨w1.heap.size, 0, none⟩, rfl, fun j v hj => by
       have hj3 : j < cs2.length := by
         rcases Nat.lt_or_ge j cs2.length with h | h
         · exact h
         · rw [List.getElem?_eq_none h] at hj; cases hj
       have hjm : j < m := by have : Nat.min m (n - m) ≤ m := Nat.min_le_left _ _; omega
       rw [hcs2, List.getElem?_replicate] at hj
       split at hj
       · simp at hj; subst hj
         have h1 := (hK.cell j).trans (mixC_get j hjm)
         have hadd : (⟨w1.heap.size, 0, none⟩ : Addr).add j = ⟨w1.heap.size, j, none⟩ := by unfold Addr.add; split <;> simp_all
         rw [hadd]
         exact h1
       · cases hj⟩
     have hcf2 : m + cs2.length ≤ (mixC m n z).length := by rw [mixC_len hmn, hcl2]; omega
     have hc12 : ∀ v ∈ cs2, v.oneCell' = true := by rw [hcs2]; exact rep_one _ _
     have HM2 : Hid (splice (mixC m n z) m cs2 = mixC (m + Nat.min m (n - m)) n z) := by
       show _ = _
       rw [hcs2]
       exact mixC_splice (by omega)
     have HCL2 : Hid (cs2.length = Nat.min m (n - m)) := hcl2
     have HCP2 : Hid (0 < cs2.length → (∃ ad, (some ⟨w1.heap.size, 0, none⟩ : Option Addr) = some ad ∧ ∀ j v, cs2[j]? = some v → wr.drew.cell? (ad.add j) = some v)) := fun h => (hcp2 h).2
     rw [← hcl2] at hj1 hj2 HM2
     obtain ⟨q2, hq2⟩ : ∃ q, q = cs2.length := ⟨_, rfl⟩
     rw [← hq2] at hj1 hj2 HM2
     have HQ : Hid (q2 = cs2.length) := hq2
     clear hcl2 hcp2 hq2
     have hi1 : (m : Int) < (n : Int) := by omega
     have hi2 : (m : Int) ≤ (n : Int) := by omega
     have hnm : ¬ n = m := by omega
     have hnm2 : ¬ m = n := by omega
     clear hcs2
     go_wp2_with fail
     go_region_held3 (fun _ => True) (trivial)
       (first
         | (refine step_copy_splice rfl _ _ 24 24 rfl 3 ((Cut.under_eq 24).trans Tryz.underlying24) hsz1 (some ⟨w1.heap.size, m, none⟩) (some ⟨w1.heap.size, 0, none⟩) (n - m) (n - m) m n rfl rfl w1.heap.size m (mixC m n z) 3 hKd cs2 HCL2.out (fun h => ⟨rfl, HCP2.out h⟩) hcf2 hc12 w1.heap.size w1 hbm.drew (Nat.le_refl _) ?_; intro w4 HK4 hb4))
     all_goals
       have hK5 : Hid (Blk w4 w1.heap.size (mixC (m + q2) n z) 3) := by
         show Blk _ _ _ _
         have := HK4.out
         rw [HM2.out] at this
         exact this
       have hl5 := HQ.out
       clear hcf2 hc12 HK4 HM2 HCL2 hKd HCP2 HQ
       generalize cs2.length = q3 at *
       subst hl5
       have hwr : IntKind.i64.wrap ((m : Int) + (q2 : Int)) = ((m + q2 : Nat) : Int) := by rw [IntKind.wrap_i64]; omega
       go_wp2
       go_roundw
       case rel => exact ⟨m + q2, by first | go_num | rw [hwr], by omega, fun _ => by omega, hK5.out, hb4⟩
       case measure => simp [intOf]; omega
   · have em : m = n := by omega
     have hKn : Blk wr w1.heap.size (List.replicate n (Value.int .i64 z)) 3 := by
       have := hK
       rw [em] at this
       simpa [mixC] using this
     clear em hK
     go_wp2
     go_ret
     exact ⟨_, rfl, hKn, Nat.le_refl _, hbm⟩
set_option maxHeartbeats 800000 in
set_option maxRecDepth 100000 in
theorem wheres_any (n : Nat) (X : List Int) (xa : Option Addr) (xcap : Nat) (w : World) (hn : n ≤ 60) (hx : SegI w xa X) (hp : Places n X) :
   Calls Cut.prog 97 #[.slice xa X.length xcap, .int .i64 n] w fun e w' => ∃ g, e = .returned (.slice (some ⟨g, 0, none⟩) n n) ∧ Blk w' g ((whs X n).map (Value.int .i64)) 3 ∧ w.heap.size ≤ g ∧ Below w.heap.size w w' := by
 have hA : Below w.heap.size w (w.alloc (Obj.cells #[Value.int .i64 (-1)] 3)) := (Below.refl _ _).alloc (Nat.le_refl _) _
 have c1 := repeat_any (-1) w.heap.size 0 n (w.alloc (Obj.cells #[Value.int .i64 (-1)] 3)) hn ((Blk.new w [Value.int .i64 (-1)] 3).cell 0) (by simp)
 have hXl := hp.len
 go_enter (Cut.func_of Tryz.func97 rfl), Tryz.ntmps97
 go_wp2_with fail
 refine c1.mono ?_
 rintro e w1 ⟨g, rfl, hK1, hg1, hb1⟩
 have hgw : w.heap.size ≤ g := Nat.le_trans (by simp) hg1
 have hB1 := hA.trans (hb1.mono hA.size)
 have hK2 : Blk w1 g ((whs (X.take 0) n).map (Value.int .i64)) 3 := by
   have : (whs (X.take 0) n).map (Value.int .i64) = List.replicate n (Value.int .i64 (-1)) := by
     rw [List.take_zero, whs_nil]; simp
   rw [this]; exact hK1
 clear c1 hA hb1 hK1 hg1
 go_wp2
 go_loopw [6, 7, 13] (fun _ _ i wr => ∃ k : Nat, k ≤ X.length ∧ i = .int .i64 k ∧ Blk wr g ((whs (X.take k) n).map (Value.int .i64)) 3 ∧ Below w.heap.size w wr) (fun _ _ i _ => X.length - (intOf i).toNat)
 case atStart => exact ⟨0, Nat.zero_le _, rfl, hK2, hB1⟩
 case round =>
   obtain ⟨k, hk, rfl, hK, hb⟩ := hrel
   clear hK2 hB1
   by_cases hlt : k < X.length
   · obtain ⟨b, off, rfl, hbw, e1⟩ := hx.get hlt
     have d1 := (hb.cell (p := ⟨b, off + k, none⟩) hbw).trans e1
     have hz := hp.rng X[k] (List.getElem_mem hlt)
     have hnd := nodup_take hp.nd hlt
     have HK : Hid (Blk (wr.setCell ⟨g, X[k].toNat, none⟩ (.int .i64 k)) g ((whs (X.take (k + 1)) n).map (Value.int .i64)) 3) := by
       show Blk _ _ _ _
       have h1 := hK.store X[k].toNat (.int .i64 k)
       have h2 : (whs (X.take (k + 1)) n).map (Value.int .i64) = ((whs (X.take k) n).map (Value.int .i64)).set X[k].toNat (.int .i64 k) := by
         rw [List.take_succ_eq_append_getElem hlt, whs_snoc _ _ _ hnd hz.1, List.map_set, List.length_take, Nat.min_eq_left (by omega)]
       rw [h2]; exact h1
     have hfz := hK.free X[k].toNat
     have hzl : X[k].toNat < ((whs (X.take k) n).map (Value.int .i64)).length := by rw [List.length_map, whs_len]; omega
     obtain ⟨v, hv⟩ : ∃ v, wr.cell? ⟨g, X[k].toNat, none⟩ = some v := ⟨_, (hK.cell _).trans (List.getElem?_eq_getElem hzl)⟩
     have hsb := hb.setCell (p := ⟨g, X[k].toNat, none⟩) hgw (.int .i64 k)
     obtain ⟨hz0, hz1⟩ := hz
     clear e1 hnd hK hzl
     go_wp2
     go_roundw
     case rel => exact ⟨k + 1, by omega, by go_num, HK.out, hsb⟩
     case measure => simp [intOf]; omega
   · have ek : X.take k = X := List.take_of_length_le (by omega)
     rw [ek] at hK
     clear ek
     go_wp2
     go_ret
     exact ⟨_, rfl, hK, hgw, hb⟩
theorem row_ty {w : World} {base e size n k : Nat} {v : Value} {xs : List Value} (h : w.ownsRow base e size v n xs) (hk : v.ownBlock = some k) : ∃ cur, w.heap[k]? = some (.cells cur e (0, 0)) := by
 rcases h.2 with ⟨h1, _⟩ | ⟨g, cap, cur, h1, _, hh, _⟩
 · rw [h1] at hk; simp [Value.ownBlock] at hk
 · rw [h1] at hk
   simp [Value.ownBlock] at hk
   subst hk
   exact ⟨cur, hh⟩
theorem row_ne {w : World} {base e size n base' e' size' n' : Nat} {v v' : Value} {xs xs' : List Value} (h : w.ownsRow base e size v n xs) (h' : w.ownsRow base' e' size' v' n' xs') (he : e ≠ e') : v.ownBlock = none ∨ v.ownBlock ≠ v'.ownBlock := by
 cases hk : v.ownBlock with
 | none => exact Or.inl rfl
 | some k =>
   refine Or.inr fun e1 => ?_
   obtain ⟨c1, q1⟩ := row_ty h hk
   obtain ⟨c2, q2⟩ := row_ty h' e1.symm
   rw [q1] at q2
   simp at q2
   exact he q2.2
theorem row_ne_blk {w : World} {base e size n B t : Nat} {v : Value} {xs cs : List Value} (h : w.ownsRow base e size v n xs) (hb : Blk w B cs t) (ht : t ≠ e) : v.ownBlock ≠ some B := by
 intro hk
 obtain ⟨c1, q1⟩ := row_ty h hk
 unfold Blk at hb
 rw [hb] at q1
 simp at q1
 exact ht q1.2
def OwnB (w : World) (base : Nat) (v : Value) (l : List Ob) : Prop := w.ownsRow base 37 3 v l.length (l.flatMap Ob.cs)
theorem OwnB.lt {w : World} {base : Nat} {v : Value} {l : List Ob} (h : OwnB w base v l) : ∀ k, v.ownBlock = some k → base ≤ k ∧ k < w.heap.size := World.ownsRow.lt h
theorem OwnB.below {w w' : World} {base B : Nat} {v : Value} {l : List Ob} (h : OwnB w base v l) (hb : Below B w w') (hB : w.heap.size ≤ B) : OwnB w' base v l := by
 refine World.ownsRow.kept h (gb_of_below hb hB none) ?_
 cases e : v.ownBlock with
 | none => exact Or.inl rfl
 | some k => exact Or.inr (by simp)
theorem OwnB.form {w : World} {base : Nat} {v : Value} {l : List Ob} (h : OwnB w base v l) : ∃ a cap, v = .slice a l.length cap ∧ (l.length ≤ cap ∧ cap ≤ maxLen) ∧ ((∀ i (hi : i < l.length), SegI w l[i].ra l[i].r) → SegO w a l) := by
 rcases h.2 with ⟨h1, h2⟩ | ⟨g, cap, cur, h1, hg, hh, hn, hc, hs, htake⟩
 · refine ⟨none, 0, by rw [h1, h2], ⟨by omega, Nat.zero_le _⟩, fun hr => ⟨fun hm => by omega, hr⟩⟩
 · refine ⟨some ⟨g, 0, none⟩, cap, h1, ⟨hn, hc⟩, fun hr => ⟨fun hm => ⟨g, 0, rfl, lt_of_block hh, fun i hi => ?_⟩, hr⟩⟩
   have h' : w.ownsRow base 37 3 (.slice (some ⟨g, 0, none⟩) l.length cap) l.length (l.flatMap Ob.cs) := by rw [← h1]; exact h
   have g0 := flat_get Ob.cs 3 (fun _ => rfl) l i 0 hi (by omega)
   have g1 := flat_get Ob.cs 3 (fun _ => rfl) l i 1 hi (by omega)
   have g2 := flat_get Ob.cs 3 (fun _ => rfl) l i 2 hi (by omega)
   have el : l.getD i Ob.zero = l[i] := by simp [List.getD, List.getElem?_eq_getElem hi]
   refine ⟨?_, ?_, ?_⟩
   · rw [Nat.zero_add, own_get h' _ (by omega)]; simpa [Ob.cs, el, List.getElem?_eq_getElem hi] using g0
   · rw [Nat.zero_add, own_get h' _ (by omega)]; simpa [Ob.cs, el, List.getElem?_eq_getElem hi] using g1
   · rw [Nat.zero_add, own_get h' _ (by omega)]; simpa [Ob.cs, el, List.getElem?_eq_getElem hi] using g2
def Ob.rv (o : Ob) : Value := .slice o.ra o.r.length o.rcap
structure OwnRs (w : World) (base : Nat) (l : List Ob) : Prop where
 own : ∀ i (hi : i < l.length), OwnL w base l[i].rv l[i].r
 inc : ∀ i j (hi : i < l.length) (hj : j < l.length), i < j → ∀ a b, l[i].rv.ownBlock = some a → l[j].rv.ownBlock = some b → a < b
theorem OwnRs.nil (w : World) (base : Nat) : OwnRs w base [] := ⟨fun i hi => by simp at hi, fun i j hi => by simp at hi⟩
theorem OwnRs.below {w w' : World} {base B : Nat} {l : List Ob} (h : OwnRs w base l) (hb : Below B w w') (hB : w.heap.size ≤ B) : OwnRs w' base l := ⟨fun i hi => (h.own i hi).below hb hB, h.inc⟩
theorem OwnRs.grown {w w' : World} {base base' e size n : Nat} {l : List Ob} {v : Value} {xs : List Value} (h : OwnRs w base l) (hv : w.ownsRow base' e size v n xs) (he : e ≠ 3) (hg : w.grownBy w' v.ownBlock) : OwnRs w' base l :=
 ⟨fun i hi => (h.own i hi).kept hg (row_ne (h.own i hi) hv (fun q => he q.symm)), h.inc⟩
theorem OwnRs.set {w : World} {base B t : Nat} {l : List Ob} {cs : List Value} (h : OwnRs w base l) (hb : Blk w B cs t) (ht : t ≠ 3) (j : Nat) (u : Value) : OwnRs (w.setCell ⟨B, j, none⟩ u) base l :=
 ⟨fun i hi => ownsRow_setCell_other (h.own i hi) (row_ne_blk (h.own i hi) hb ht) u, h.inc⟩
theorem OwnRs.snoc {w : World} {base : Nat} {l : List Ob} (h : OwnRs w base l) (o : Ob) (ho : OwnL w base o.rv o.r) (hm : ∀ i (hi : i < l.length) a b, l[i].rv.ownBlock = some a → o.rv.ownBlock = some b → a < b) : OwnRs w base (l ++ [o]) := by
 refine ⟨fun i hi => ?_, fun i j hi hj hij a b ha hb => ?_⟩
 · by_cases hl : i < l.length
   · simpa [List.getElem_append_left hl] using h.own i hl
   · have e : i = l.length := by simp at hi; omega
     subst e
     simpa using ho
 · by_cases hl : j < l.length
   · have hli : i < l.length := by omega
     rw [List.getElem_append_left hli] at ha
     rw [List.getElem_append_left hl] at hb
     exact h.inc i j hli hl hij a b ha hb
   · have e : j = l.length := by simp at hj; omega
     subst e
     rw [List.getElem_append_left hij] at ha
     simp at hb
     exact hm i hij a b ha hb
theorem OwnRs.lt {w : World} {base : Nat} {l : List Ob} (h : OwnRs w base l) (i : Nat) (hi : i < l.length) (a : Nat) (ha : l[i].rv.ownBlock = some a) : base ≤ a ∧ a < w.heap.size := (h.own i hi).lt a ha
theorem OwnRs.seg {w : World} {base : Nat} {l : List Ob} (h : OwnRs w base l) (i : Nat) (hi : i < l.length) : SegI w l[i].ra l[i].r := by
 obtain ⟨a, cap, e, hs, _⟩ := (h.own i hi).form
 simp only [Ob.rv, Value.slice.injEq] at e
 rw [e.1]; exact hs
theorem obj_new {w : World} (o : Ob) (t : TypeId) : ∀ j u, o.cs[j]? = some u → (w.alloc (Obj.cells #[.int .i64 o.k, .string o.t, .slice o.ra o.r.length o.rcap] t)).cell? ((⟨w.heap.size, 0, none⟩ : Addr).add j) = some u :=
 World.news_of_block (cs := #[.int .i64 o.k, .string o.t, .slice o.ra o.r.length o.rcap]) (heap_alloc_new w _)
theorem Ob.one (o : Ob) : ∀ u ∈ o.cs, u.oneCell' = true := fun u hu => by
 simp [Ob.cs] at hu
 rcases hu with rfl | rfl | rfl <;> rfl
structure OwnP (w : World) (B : Nat) (h : Hp) : Prop where
 ob : OwnB w B (.slice h.oa h.os.length h.ocap) h.os
 rs : OwnRs w B h.os
 ro : OwnL w B (.slice h.ra h.rs.length h.rcap) h.rs
 rlt : ∀ i (hi : i < h.os.length) a b, h.os[i].rv.ownBlock = some a → (Value.slice h.ra h.rs.length h.rcap).ownBlock = some b → a < b
 wa : OwnW w B (.slice h.wa h.ws.length h.wcap) h.ws
 da : OwnW w B (.slice h.da h.ds.length h.dcap) h.ds
 wlt : ∀ a b, (Value.slice h.wa h.ws.length h.wcap).ownBlock = some a → (Value.slice h.da h.ds.length h.dcap).ownBlock = some b → a < b
theorem OwnP.isIn {w : World} {B : Nat} {h : Hp} (hh : OwnP w B h) : HpIn w h := by
 refine ⟨?_, ?_, ?_, ?_⟩
 · obtain ⟨a, cap, e, _, hs⟩ := hh.ob.form
   simp only [Value.slice.injEq] at e
   rw [e.1]; exact hs (fun i hi => hh.rs.seg i hi)
 · obtain ⟨a, cap, e, hs, _⟩ := hh.ro.form
   simp only [Value.slice.injEq] at e
   rw [e.1]; exact hs
 · obtain ⟨a, cap, e, hs, _⟩ := hh.wa.form
   simp only [Value.slice.injEq] at e
   rw [e.1]; exact hs
 · obtain ⟨a, cap, e, hs, _⟩ := hh.da.form
   simp only [Value.slice.injEq] at e
   rw [e.1]; exact hs
theorem OwnP.below {w w' : World} {B C : Nat} {h : Hp} (hh : OwnP w B h) (hb : Below C w w') (hC : w.heap.size ≤ C) : OwnP w' B h :=
 ⟨hh.ob.below hb hC, hh.rs.below hb hC, hh.ro.below hb hC, hh.rlt, hh.wa.below hb hC, hh.da.below hb hC, hh.wlt⟩
def KeepT (t : Nat) (A C : World) : Prop := ∀ (k : Nat) (cs : Array Value) (e : Nat), A.heap[k]? = some (.cells cs e (0, 0)) → e ≠ t → C.heap[k]? = some (.cells cs e (0, 0))
theorem KeepT.refl (t : Nat) (A : World) : KeepT t A A := fun _ _ _ h _ => h
theorem KeepT.trans {t : Nat} {A C D : World} (h : KeepT t A C) (h' : KeepT t C D) : KeepT t A D := fun k cs e hk he => h' k cs e (h k cs e hk he) he
theorem KeepT.below {A C : World} {B : Nat} (t : Nat) (hb : Below B A C) (hB : A.heap.size ≤ B) : KeepT t A C := fun k cs e hk _ => by
 rw [hb.block k (Nat.lt_of_lt_of_le (lt_of_block hk) hB)]; exact hk
theorem KeepT.set {A : World} {B t : Nat} {cs : List Value} (hb : Blk A B cs t) (j : Nat) (u : Value) : KeepT t A (A.setCell ⟨B, j, none⟩ u) := fun k c e hk he => by
 have hne : k ≠ B := fun q => by
   subst q
   unfold Blk at hb
   rw [hb] at hk
   simp at hk
   exact he hk.2.symm
 rw [Below.heap_setCell _ _ _ _ (by simpa using hne)]; exact hk
theorem row_keep {A C : World} {base e size n t : Nat} {v : Value} {xs : List Value} (h : A.ownsRow base e size v n xs) (hk : KeepT t A C) (he : e ≠ t) : C.ownsRow base e size v n xs := by
 refine ⟨h.1, ?_⟩
 rcases h.2 with h1 | ⟨g, cap, cur, h1, hg, hh, r⟩
 · exact Or.inl h1
 · exact Or.inr ⟨g, cap, cur, h1, hg, hk g cur e hh he, r⟩
theorem OwnRs.keep {A C : World} {base : Nat} {l : List Ob} (h : OwnRs A base l) (hk : KeepT 27 A C) : OwnRs C base l := ⟨fun i hi => row_keep (h.own i hi) hk (by decide), h.inc⟩
theorem OwnP.keep {A C : World} {B : Nat} {h : Hp} (hh : OwnP A B h) (hk : KeepT 27 A C) : OwnP C B h :=
 ⟨row_keep hh.ob hk (by decide), hh.rs.keep hk, row_keep hh.ro hk (by decide), hh.rlt, row_keep hh.wa hk (by decide), row_keep hh.da hk (by decide), hh.wlt⟩
theorem OwnB.base {w : World} {B C : Nat} {v : Value} {l : List Ob} (h : OwnB w B v l) (hC : C ≤ B) : OwnB w C v l := by
 refine ⟨h.1, ?_⟩
 rcases h.2 with h1 | ⟨g, cap, cur, h1, hg, r⟩
 · exact Or.inl h1
 · exact Or.inr ⟨g, cap, cur, h1, Nat.le_trans hC hg, r⟩
theorem OwnP.base {w : World} {B C : Nat} {h : Hp} (hh : OwnP w B h) (hC : C ≤ B) : OwnP w C h :=
 ⟨hh.ob.base hC, ⟨fun i hi => (hh.rs.own i hi).base hC, hh.rs.inc⟩, hh.ro.base hC, hh.rlt, hh.wa.base hC, hh.da.base hC, hh.wlt⟩
theorem put4 {w : World} {B : Nat} {c0 c1 c2 c3 : Value} (hb : Blk w B [c0, c1, c2, c3] 27) (v0 v1 v2 v3 : Value) :
   KeepT 27 w ((((w.setCell ⟨B, 0, none⟩ v0).setCell ⟨B, 1, none⟩ v1).setCell ⟨B, 2, none⟩ v2).setCell ⟨B, 3, none⟩ v3) ∧ Blk ((((w.setCell ⟨B, 0, none⟩ v0).setCell ⟨B, 1, none⟩ v1).setCell ⟨B, 2, none⟩ v2).setCell ⟨B, 3, none⟩ v3) B [v0, v1, v2, v3] 27 := by
 have h1 := hb.store 0 v0
 have h2 := h1.store 1 v1
 have h3 := h2.store 2 v2
 have h4 := h3.store 3 v3
 exact ⟨(((KeepT.set hb 0 v0).trans (KeepT.set h1 1 v1)).trans (KeepT.set h2 2 v2)).trans (KeepT.set h3 3 v3), h4⟩
theorem below4 {w W : World} {B C : Nat} (h : Below B w W) (hC : B ≤ C) (v0 v1 v2 v3 : Value) : Below B w ((((W.setCell ⟨C, 0, none⟩ v0).setCell ⟨C, 1, none⟩ v1).setCell ⟨C, 2, none⟩ v2).setCell ⟨C, 3, none⟩ v3) :=
 (((h.setCell (p := ⟨C, 0, none⟩) hC v0).setCell (p := ⟨C, 1, none⟩) hC v1).setCell (p := ⟨C, 2, none⟩) hC v2).setCell (p := ⟨C, 3, none⟩) hC v3
def objQ (X : List Int) (o : Ob) : Int × ByteArray × List Int := (o.k, o.t, o.r.map (wh X))
end Go.Proofs.YtcpnkpogebjieaaGreat
