/- At every list of bytes the law FnSame answers true and leaves it as it was, in whatever order the goroutines run that the call starts. No condition. -/
import Derived.Test.YtcpnkpogebjieaaGreatRows
import Derived.Deep.Slices
import Derived.OpenShut
import Derived.Lib.SmallJoins
import Derived.Conc.LeavingOf
import Derived.ProofKit
import Derived.Test.YtcpnkpogebjieaaGreatS53Jf
set_option maxRecDepth 100000
namespace Go.Proofs.YtcpnkpogebjieaaGreat
section
open Go.ChangeShapes Go.WideShapes Go.ChangeAt Go.RowKit Go.Conc Go.Deep
theorem Qef:ownKnob Tryz.prog.godebug=none:=by kernel_rfl
theorem Qed:laidOutB Tryz.prog=true:=by kernel_rfl
theorem QgR {w:World}{a:Addr}{v:Value}(h:w.cell? a=some v):a=⟨a.block,a.off,none⟩:=by
 obtain⟨b,o,s⟩:=a
 cases s with
 |none=>rfl
 |some s=>
  unfold World.cell? at h
  cases hh:w.heap[b]? with
  |none=>simp[hh]at h
  |some x=>cases x<;>simp[hh]at h
theorem Qb7 (b off i:Nat):(⟨b,off,none⟩:Addr).add i=⟨b,off+i,none⟩:=by
 unfold Addr.add;by_cases h:i=0
 ·subst h;simp
 ·simp[h]
theorem QcD:Tryz.prog.cellsOf 5=1:=by kernel_rfl
section
variable {H:Type} {enc:TypeId×Value→H} {w:World} {held:Bool}
theorem QhJ {n:Int}(h:(Lit.int .u8 n).wf=true):0≤n∧n<256:=by
 have:=bounds_u8 h;omega
theorem QfR {r:Reach}{b0:Nat}{v:Value}{d:DataW H}{p:List MemPlace}(hv:Value.okWide Tryz.prog w r b0 22 v)(h:DataW.Trod enc Tryz.prog w 0 (fun _=>true) held 22 v d p):
 ∃(a:Option Addr) (cap:Nat) (bs:List Int),v=.slice a bs.length cap∧bs.length≤cap∧cap≤maxLen∧(∀x∈bs,0≤x∧x<256)∧(0<bs.length→∃b off,a=some ⟨b,off,none⟩∧b<w.heap.size∧∀i (hi:i<bs.length),w.cell? ⟨b,off+i,none⟩=some (.int .u8 bs[i])):=by
 obtain⟨a1,len,cap,rfl⟩:=okWide_slice Tryz.underlying22 hv;obtain⟨fuel,hf⟩:=h;rcases open_ints Tryz.underlying22 Tryz.underlying5 QcD hf with⟨hcs,_⟩|⟨a,len',cap',zs,hcs,_,hl,hm,hz,_,hcell,hwz⟩
 ·simp[Value.cells]at hcs;obtain⟨rfl,rfl,rfl⟩:=hcs;exact⟨none,0,[],rfl,Nat.le_refl _,Nat.zero_le _,fun _ h=>by simp at h,fun h=>by simp at h⟩
 ·simp[Value.cells]at hcs;obtain⟨rfl,rfl,rfl⟩:=hcs;simp only[if_true]at hz;have hlen:(zs.take len).length=len:=by rw[List.length_take];omega
  refine⟨some a,cap,zs.take len,by rw[hlen],by omega,hm,fun x hx=>QhJ (hwz x (List.mem_of_mem_take hx)),fun hp=>?_⟩;rw[hlen]at hp;have c0:=hcell 0 (by omega);have ha:a.add 0=a:=rfl;rw[ha]at c0;have es:=QgR c0;refine⟨a.block,a.off,by rw[←es],World.block_lt_of_cell? w a c0,fun i hi=>?_⟩;rw[hlen]at hi;have ci:=hcell i (by omega);rw[es,Qb7]at ci;rw[ci,List.getElem_take];simp[List.getD,List.getElem?_eq_getElem (show i<zs.length by omega)]
end
theorem Qee (os:Os)(started:os.Started)(H:Type)(enc:TypeId×Value→H):
 ReturnsInLeavingWide {} Tryz.checked os 5 .any (Rows.fnSameSpec.pre6 enc Tryz.prog Tryz.f5 Rows.fnSameRow.domain false) (Rows.fnSameSpec.post enc Tryz.prog Tryz.f5 false true false false):=by
 refine returnsInLeavingWide_of_change_sized (C:=Tryz.checked) Qef started Tryz.func5
  (ChangeSpec.witness6 (enc:=enc) (C:=Tryz.checked) false ⟨#[],#[.slice none 0 0],[]⟩ 8 (by kernel_rfl) (by kernel_rfl) (by kernel_rfl) (by kernel_rfl)) ?_
 intro W base args ds gs before hval0 hW _ _ _;have hval:∀(j:Nat) t v,Tryz.f5.params[j]? =some t→args[j]? =some v→Value.okWide Tryz.prog W .any base t v:=hval0;have hW':=hW;obtain⟨p,q,hA0,hV,rfl,_,_⟩:=hW;have hA:DataW.TrodAll enc Tryz.prog W 0 (fun _=>true) true Tryz.f5.params.toList args.toList ds p:=hA0;rw[Tryz.params5]at hA hval;obtain⟨v0,d0,rfl,rfl,h0⟩:=trodAll_one hA;obtain⟨rfl,rfl⟩:=trodVars_none hV;clear hA0 hval0;simp only[List.append_nil]at hW';have hlt:∀x∈p,x.block<W.heap.size:=fun x hx=>by simpa using hW'.lt x hx
 have hargs:∀(W':World),Below W.heap.size W W'→DataW.Trod enc Tryz.prog W' 0 (fun b=>decide (b<W.heap.size)) true 22 v0 d0 p:=
  fun W' hn=>Below.trod Qed (by kernel_rfl) (of_decide_eq_true (by kernel_rfl)) h0 hn hlt
 obtain⟨a,cap,bs,hv,hcap,hm,hby,hcell⟩:=QfR (hval 0 22 v0 rfl rfl) h0;obtain⟨M,last,o,w',t',r1,r2,r3,r4⟩:=Co.Qgx a cap bs W hcap hm hby hcell;rw[←hv]at r1 r2;refine⟨M,last,o,w',t',r1,r2,r3,r4.mono fun v hF=>?_⟩;obtain⟨rfl,k1,k2,k3,k4⟩:=hF;have hb:Below W.heap.size W {w' with tape:=W.tape}:=⟨k1,rfl,k2,k3,k4⟩;have hfr:=hb.frame (fun x=>x∈p∧(x∈([]:List MemPlace)∨x∈p∨x∈([]:List MemPlace)));refine⟨_,_,_,[],p,[],hW',?_,?_,rfl,hfr,fun h=>by cases h⟩
 ·exact trodAll_mk1 (shut_bool Tryz.underlying4 true)
 ·exact trodAll_mk1 ((hargs _ hb).of_heap (by rfl))
theorem fnSame_holds:Rows.FnSameSaid:=
 OpenClaim.holds_of_wide_leaving 5 Tryz.f5 rfl rfl rfl rfl rfl rfl rfl ⟨rfl,rfl,rfl,rfl,rfl⟩ rfl rfl rfl rfl rfl (by kernel_rfl) Tryz.func5 (by kernel_rfl)
  (of_decide_eq_true (by kernel_rfl)) (by unfold Func.isWrapper;rw[if_neg (of_decide_eq_false (by kernel_rfl))];exact⟨rfl,rfl⟩)
  (fun os started H enc _=>Qee os started H enc)
#print axioms fnSame_holds
end
end Go.Proofs.YtcpnkpogebjieaaGreat
