/- The law on MemCollect in company: what it holds at its halts. -/
import Derived.Test.YtcpnkpogebjieaaGreatG46Wm
namespace Go.Proofs.YtcpnkpogebjieaaGreat.Co
open Go.Conc Go.ConcN Go.RowKit Go.Conc.Lib Go.ConcR.Gen
open Go.ConcR (DC0)
set_option linter.unusedSimpArgs false
theorem segI_on {E E' : World} {a : Option Addr} {xs : List Int} (h : SegI E a xs) (o : On E E') : SegI E' a xs := fun hm => by
 obtain ⟨b, off, h1, h2, h3⟩ := h hm
 exact ⟨b, off, h1, Nat.lt_of_lt_of_le h2 o.1, fun i hi => (cell_of_block (o.2 b h2) _).trans (h3 i hi)⟩
theorem small_len {h y g : Hp} {ms zs : List Int} (ha : Ans h y.p ms) (hg : (okP h.p = false → g.p = ([], [], [], []) ∧ zs = []) ∧ (okP h.p = true → ∀ yy mm, CoP h.p yy mm → yy = g.p ∧ mm = zs)) : g.p = y.p ∧ zs = ms := by
 cases hok : okP h.p with
 | false =>
   obtain ⟨e1, e2⟩ := ha.1 hok
   obtain ⟨e3, e4⟩ := hg.1 hok
   exact ⟨e3.trans e1.symm, e4.trans e2.symm⟩
 | true =>
   obtain ⟨e1, e2⟩ := hg.2 hok _ _ (ha.2 hok)
   exact ⟨e1.symm, e2.symm⟩
def LwD (h : Hp) (X0 : Nat → Bool) (w0 : World) (X : Nat → Bool) (g' : Goroutine) (w : World) : Prop :=
 ∃ (T : Array Value) (b1 b4 b6 b7 : Nat) (y : Hp) (va : Option Addr) (vcap : Nat) (ms : List Int) (m3 m4 m6 M : Nat) (g : Hp) (ga : Option Addr) (gcap : Nat) (zs : List Int) (x : Hp) (go gr gw gd : Nat),
   T.size = 112 ∧ T[1]? = some (.pointer (some ⟨b1, 0, none⟩)) ∧ T[4]? = some (.pointer (some ⟨b4, 0, none⟩)) ∧ T[5]? = some (.slice va ms.length vcap) ∧ T[6]? = some (.pointer (some ⟨b6, 0, none⟩)) ∧ T[7]? = some (.pointer (some ⟨b7, 0, none⟩)) ∧ T[8]? = some (.slice ga zs.length gcap) ∧ Small h ∧ zs = ms ∧ Ans h y.p ms ∧ zs.length ≤ 1048576 ∧
   g' = G ((base 6).at ⟨T, []⟩ [.code lwD]) [] ∧ LS X0 w0 X (fun E => Lg h w0.heap.size b1 b4 b7 y (.slice va ms.length vcap) ms m3 m4 m6 M g g (.slice ga zs.length gcap) zs E ∧ Lx h m4 m6 b6 x go gr gw gd E) w
def LwE (h : Hp) (X0 : Nat → Bool) (w0 : World) (X : Nat → Bool) (g' : Goroutine) (w : World) : Prop :=
 ∃ (T : Array Value) (b1 b4 b7 : Nat) (y : Hp) (va : Option Addr) (vcap : Nat) (ms : List Int) (m3 m4 m6 M : Nat) (g : Hp) (ga : Option Addr) (gcap : Nat) (zs : List Int),
   T.size = 112 ∧ T[1]? = some (.pointer (some ⟨b1, 0, none⟩)) ∧ T[4]? = some (.pointer (some ⟨b4, 0, none⟩)) ∧ T[5]? = some (.slice va ms.length vcap) ∧ T[7]? = some (.pointer (some ⟨b7, 0, none⟩)) ∧ T[8]? = some (.slice ga zs.length gcap) ∧ T[10]? = some (.int .i64 (mkHE g + zs.length)) ∧ Small h ∧ zs = ms ∧ Ans h y.p ms ∧ zs.length ≤ 1048576 ∧
   g' = G ((base 6).at ⟨T, []⟩ [.code lwE]) [] ∧ LS X0 w0 X (fun E => Lg h w0.heap.size b1 b4 b7 y (.slice va ms.length vcap) ms m3 m4 m6 M g (mkH g) (.slice ga zs.length gcap) (marks (mkHE g) zs.length) E) w
def LwCall2 (h : Hp) (X0 : Nat → Bool) (w0 : World) (X : Nat → Bool) (g' : Goroutine) (w : World) : Prop :=
 ∃ (T : Array Value) (b1 b4 b7 : Nat) (y : Hp) (va : Option Addr) (vcap : Nat) (ms : List Int) (m3 m4 m6 M : Nat) (g : Hp) (ga : Option Addr) (gcap : Nat) (zs : List Int) (x : Hp) (m go gr gw gd : Nat),
   T.size = 112 ∧ T[4]? = some (.pointer (some ⟨b4, 0, none⟩)) ∧ T[5]? = some (.slice va ms.length vcap) ∧ T[7]? = some (.pointer (some ⟨b7, 0, none⟩)) ∧ T[8]? = some (.slice ga zs.length gcap) ∧ T[10]? = some (.int .i64 (mkHE g + zs.length)) ∧ Small h ∧ zs = ms ∧ Ans h y.p ms ∧ zs.length ≤ 1048576 ∧ x.p = h.p ∧
   g' = G (Frame.enter Tryz.prog 8 #[Hp.v x] .normal) [lwC3 T] ∧ LS X0 w0 X (fun E => Lg h w0.heap.size b1 b4 b7 y (.slice va ms.length vcap) ms m3 m4 m6 M g (mkH g) (.slice ga zs.length gcap) (marks (mkHE g) zs.length) E ∧ OwnH E m x go gr gw gd) w
def LwF (h : Hp) (X0 : Nat → Bool) (w0 : World) (X : Nat → Bool) (g' : Goroutine) (w : World) : Prop :=
 ∃ (T : Array Value) (b1 b4 b7 b12 : Nat) (y : Hp) (va : Option Addr) (vcap : Nat) (ms : List Int) (m3 m4 m6 M : Nat) (g g2 : Hp) (ga : Option Addr) (gcap : Nat) (zs : List Int) (ha : Option Addr) (hcap : Nat),
   T.size = 112 ∧ T[4]? = some (.pointer (some ⟨b4, 0, none⟩)) ∧ T[5]? = some (.slice va ms.length vcap) ∧ T[7]? = some (.pointer (some ⟨b7, 0, none⟩)) ∧ T[8]? = some (.slice ga zs.length gcap) ∧ T[10]? = some (.int .i64 (mkHE g + zs.length)) ∧ T[12]? = some (.pointer (some ⟨b12, 0, none⟩)) ∧ T[13]? = some (.slice ha ms.length hcap) ∧ zs = ms ∧ zs.length ≤ 1048576 ∧ g2.p = y.p ∧
   g' = G ((base 6).at ⟨T, []⟩ [.code lwF]) [] ∧ LS X0 w0 X (fun E => Lg h w0.heap.size b1 b4 b7 y (.slice va ms.length vcap) ms m3 m4 m6 M g (mkH g) (.slice ga zs.length gcap) (marks (mkHE g) zs.length) E ∧ Blk E b12 (Hp.cells g2) 27 ∧ HpIn E g2 ∧ SegI E ha ms) w
end Go.Proofs.YtcpnkpogebjieaaGreat.Co
