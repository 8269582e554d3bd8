/- The stops of goroutine 0, which starts tellers and joins them, and of a teller; what each -/
import Derived.Conc.CrowdRun
import Derived.Conc.CrowdComm
import Derived.Conc.Beside
import Derived.Test.YtcpnkpogebjieaaGreatG06Zt
namespace Go.Proofs.YtcpnkpogebjieaaGreat.Co
open Go.Conc Go.ConcN
open Go.ConcR (KK wgBlock WgAt stA smA rd wr mk Payload Aside2 DC0 Bk g_of_ofEvents again_blocked)
def RL (ty : TypeId) (Wg : Nat) (w w1 : World) : Prop := WgLive ty Wg w → WgLive ty Wg w1
theorem rl {ty : TypeId} {Wg : Nat} {w w1 : World} (h : WgLive ty Wg w) (r : RL ty Wg w w1) : WgLive ty Wg w1 := r h
section
variable (P : Program)
def AtSay (m : Mark) (Next : Goroutine → World → Prop) (g : Goroutine) (w : World) : Prop :=
 g.status = .running ∧ ∃ g', stepG P true g w = .go g' w #[mk m] ∧ Next g' w
def Sil (ty : TypeId) (Wg : Nat) (Stop : Goroutine → World → Prop) (g : Goroutine) (w : World) : Prop := ∃ n, Goes P true (RL ty Wg) DC0 Stop n g w
def Back (ty : TypeId) (Wg : Nat) (c : Frame) (cs : List Frame) (g : Goroutine) (w : World) : Prop := g = G (c.finish (.tuple #[])) cs ∧ WgLive ty Wg w
def AtInc (ty : TypeId) (Wg : Nat) (Next : Goroutine → World → Prop) (g : Goroutine) (w : World) : Prop :=
 g.status = .running ∧ ∀ v : Nat, v < 1000000 → WgAt ty Wg w (v * KK) 0 → ∃ g', stepG P true g w = .go g' (w.setCell (stA Wg) (.int .u64 ((v + 1 : Nat) * KK))) #[rd (stA Wg), wr (stA Wg)] ∧
   (v = 0 → Sil P ty Wg (AtSay P (.read (smA Wg)) (Sil P ty Wg (AtSay P .enable Next))) g' (w.setCell (stA Wg) (.int .u64 ((v + 1 : Nat) * KK)))) ∧
   (v ≠ 0 → Sil P ty Wg (AtSay P .enable Next) g' (w.setCell (stA Wg) (.int .u64 ((v + 1 : Nat) * KK))))
end
section
variable (P : Program) (ty : TypeId) (Wg : Nat) (Anch Bk : Goroutine → World → Prop)
def Taken : Goroutine → World → Prop := Sil P ty Wg (AtSay P .enable (Sil P ty Wg (AtSay P (.acquire (stA Wg)) (Sil P ty Wg Bk))))
def AtW4' (g : Goroutine) (w : World) : Prop := g.status = .running ∧ (WgAt ty Wg w 0 0 → ∃ g', stepG P true g w = .go g' w #[rd (stA Wg)] ∧ Taken P ty Wg Bk g' w)
def AtSem (g : Goroutine) (w : World) : Prop :=
 g.status = .running ∧ g.offers = none ∧ ((∃ st, WgAt ty Wg w st 0) → stepG P true g w = .go { g with status := .blocked } w #[]) ∧
   (WgAt ty Wg w 0 1 → ∃ g', stepG P true g w = .go g' (w.setCell (smA Wg) (.int .u32 0)) (semEvents (smA Wg)) ∧ Sil P ty Wg (AtW4' P ty Wg Bk) g' (w.setCell (smA Wg) (.int .u32 0)))
def AtCas (vs : Nat) (g : Goroutine) (w : World) : Prop :=
 g.status = .running ∧ ∀ v : Nat, v < 1000000 → WgAt ty Wg w (v * KK) 0 →
   (v = vs → ∃ g', stepG P true g w = .go g' (w.setCell (stA Wg) (.int .u64 (v * KK + 1))) #[rd (stA Wg), wr (stA Wg)] ∧ Sil P ty Wg (AtSay P (.write (smA Wg)) (Sil P ty Wg (AtSem P ty Wg Bk))) g' (w.setCell (stA Wg) (.int .u64 (v * KK + 1)))) ∧
   (v ≠ vs → ∃ g', stepG P true g w = .go g' w #[rd (stA Wg)] ∧ Sil P ty Wg Anch g' w)
def AtW1' (g : Goroutine) (w : World) : Prop :=
 g.status = .running ∧ ∀ v : Nat, v < 1000000 → WgAt ty Wg w (v * KK) 0 → ∃ g', stepG P true g w = .go g' w #[rd (stA Wg)] ∧ (v = 0 → Taken P ty Wg Bk g' w) ∧ (v ≠ 0 → Sil P ty Wg (AtCas P ty Wg Anch Bk v) g' w)
end
end Go.Proofs.YtcpnkpogebjieaaGreat.Co
