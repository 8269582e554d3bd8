/- dueOf behind the join, beside goroutines that only leave: close, inOrder, the way back. -/
import Derived.Test.YtcpnkpogebjieaaGreatS09ToH
import Derived.Test.YtcpnkpogebjieaaGreatS20Zy
import Derived.Test.YtcpnkpogebjieaaGreatS24Zz
import Derived.Shelf.Sort.Plain
import Derived.Test.YtcpnkpogebjieaaGreatS06Zs
import Derived.Shelf.Small.Bits
import Derived.WalkKit
import Derived.Sort.OwnSortedInts
import Derived.Test.YtcpnkpogebjieaaGreatS10Vc
import Derived.Conc.CompanyCalls
open List renaming getElem?_toArray→QhR,getElem?_cons_zero→QhS,getElem?_cons_succ→QhT
set_option maxRecDepth 100000
set_option maxHeartbeats 2000000
namespace Go.Proofs.YtcpnkpogebjieaaGreat
namespace Co
open Go.Conc Go.ConcN Go.RowKit Go.Conc.Lib Go.ConcR.Gen
open Go.ConcR (DC0 WgAt)
set_option linter.unusedSimpArgs false
structure JF (X:Nat→Bool) (wJ:World) (bt Ch cap:Nat) (buf:Array Value) (cl:Bool) (w:World):Prop where
 low:∀b,b<wJ.heap.size→b≠Ch→w.heap[b]? =wJ.heap[b]?
 sz:w.heap.size=wJ.heap.size
 ch:∃s r tm,w.heap[Ch]? =some (.chan cap buf cl s r tm)
 tb:w.cell? ⟨bt,0,none⟩=some (.chan (some Ch))
 xb:X bt=false
 bl:bt<wJ.heap.size
 oo:OO w wJ
theorem JF.rely {X:Nat→Bool}{wJ:World}{bt Ch cap:Nat}{buf:Array Value}{cl:Bool}{w w1:World}(h:JF X wJ bt Ch cap buf cl w)(r:AtRel w w1):JF X wJ bt Ch cap buf cl w1:=by
 obtain⟨d,rfl⟩:=r;exact⟨h.low,h.sz,h.ch,h.tb,h.xb,h.bl,h.oo⟩
noncomputable def O7:Array Oper:=match UQ with
 | .seq _ (.seq (.region _ ops _) _)=>ops
 |_=>#[]
noncomputable def OI:Code:=match UQ with
 | .seq _ (.seq _ e)=>e
 |_=>.skip
noncomputable def Vt (T:Array Value):Frame:=(base 81).at ⟨T,[]⟩ [.inRegion O7 [1,2],.code OI]
def Qb4 (X:Nat→Bool)(wJ:World)(Ch cap:Nat)(all:List Value)(cs:List Frame)(g:Goroutine)(w:World):Prop:=
 ∃T,T.size=40∧Vg X wJ.heap.size Ch cap wJ all (Vt T::cs) g w
theorem PJ {P:Program}{X:Nat→Bool}{Ch:Nat}{Fin Fin':Goroutine→World→Prop}{g:Goroutine}{w:World}(h:Qv P X Ch Fin g w)(k:∀g w,Fin g w→Qv P X Ch Fin' g w):Qv P X Ch Fin' g w:=by
 induction h with
 |stop h=>exact k _ _ h
 |step hr h1 _ ih=>exact .step hr h1 ih
 |buf hr h1 hc hb _ ih=>exact .buf hr h1 hc hb ih
 |shut hr h1 hc _ ih=>exact .shut hr h1 hc ih
theorem QbK {P:Program}{X:Nat→Bool}{Ch:Nat}{Fin Fin':Goroutine→World→Prop}{g:Goroutine}{w:World}(h:Qv P X Ch Fin g w)(k:∀g w,Fin g w→Fin' g w):Qv P X Ch Fin' g w:=PJ h fun g w hf=>.stop (k g w hf)
section
variable {X:Nat→Bool} {wJ:World} {bh bt Ch cap:Nat} {buf:Array Value} {cs:List Frame}
theorem QdW {T:Array Value}(hT:DW bh bt T)(hF:JF X wJ bt Ch cap buf false wJ)(hcl:Ch<wJ.heap.size)(hxs:∀b,wJ.heap.size≤b→X b=false)(hi:∀u∈buf.toList,∃i:Int,u=.int .i64 i)(hn:buf.toList.length<1000000)(hbc:bt≠Ch):
 Qv Tryz.prog X Ch (Qb4 X wJ Ch cap buf.toList cs) (G ((Uo T []).finish (.tuple #[])) cs) wJ:=by
 obtain⟨v0,v1,v2,v3,v4,v5,v6,v7,v8,v9,v10,v11,v12,v13,v14,v15,v16,v17,v18,v19,v20,v21,v22,v23,v24,v25,v26,v27,v28,v29,v30,v31,v32,v33,v34,v35,v36,v37,v38,v39,rfl⟩:=UJ T hT.sz;obtain⟨_,t1,t5⟩:=hT;simp only[QhR,QhS,QhT,Option.some.injEq]at t1 t5;subst t1 t5;rw[Uo,Frame.finish_at];simp only[QbC,UQ,Ya,Tryz.f81,QhR,QhT,QhS,Option.bind_some];refine QL (n:=30) ?_;walk_nrm;u_c stepG_region_end JF.rely hF;u_c stepG_seq JF.rely hF;u_reg JF.rely hF;refine Goes.stop (fun w1 h1=>?_);replace hF:=JF.rely hF h1;clear h1;refine ZQ rfl (fun w2 h2=>?_);have hz:=ZW h2;replace hF:=JF.rely hF h2;clear h2;refine goes_oper_k rfl rfl (by decide) (fun K hK=>?_);have e0:=hF.tb;go_simp;refine hK _ _ ⟨⟨hz,fun B hB e he=>?_⟩,?_⟩
 ·have hm:=mem_listed he;simp[go_sem,e0]at hm;subst hm;exact⟨hF.xb,by show bt<B;have:=hF.sz;have:=hF.bl;omega⟩
 clear hK K hz e0;refine ZQ rfl (fun w3 h3=>?_);have hz:=ZW h3;replace hF:=JF.rely hF h3;clear h3;obtain⟨s,r,tm,hc⟩:=hF.ch;have hcr:=fun ats ty=>run_close_open (P:=Tryz.prog) (w:=w3) ats ty hc;have hce:=fun ats ty es=>events_close_open (P:=Tryz.prog) (w:=w3) (es:=es) ats ty hc;refine goes_oper_k rfl rfl (by decide) (fun K hK=>?_);go_simp;refine hK _ _ ⟨⟨by simp;omega,fun B hB e he=>?_⟩,?_⟩
 ·have hm:=mem_listed he;simp[go_sem,hce]at hm;have hB':w3.heap.size≤B:=by simpa using hB
  have:=hF.sz;rcases hm with rfl|rfl<;>exact(show Ch<B by omega)
 clear hK K hz hcr hce;obtain⟨w4,hw4⟩:∃w4:World,w4={heap:=w3.heap.setIfInBounds Ch (Obj.chan cap buf true s r tm),tape:=w3.tape,drawn:=w3.drawn,os:=w3.os,output:=w3.output}:=⟨_,rfl⟩;rw[←hw4];have hn4:∀k,k≠Ch→w4.heap[k]? =w3.heap[k]? :=fun k hk=>by rw[hw4];exact Array.getElem?_setIfInBounds_ne (Ne.symm hk)
 have hF4:JF X wJ bt Ch cap buf true w4:=
  ⟨fun b h1 h2=>(hn4 b h2).trans (hF.low b h1 h2),by rw[hw4];simpa using hF.sz,⟨s,r,tm,by rw[hw4];exact Array.getElem?_setIfInBounds_self_of_lt (Array.getElem?_eq_some_iff.1 hc).1⟩,(cell_of_block (hn4 bt hbc) 0).trans hF.tb,hF.xb,hF.bl,by rw[hw4];exact hF.oo⟩
 clear hF hw4 hn4 hc;refine QL (n:=30) ?_
 try walk_nrm
 u_c stepG_region_end JF.rely hF4;u_c stepG_seq JF.rely hF4;u_reg JF.rely hF4;refine Goes.stop (fun w5 h5=>?_);replace hF4:=JF.rely hF4 h5;clear h5;refine ZQ rfl (fun w6 h6=>?_);have hz:=ZW h6;replace hF4:=JF.rely hF4 h6;clear h6;refine goes_oper_k rfl rfl (by decide) (fun K hK=>?_);have e0:=hF4.tb;go_simp;refine hK _ _ ⟨⟨hz,fun B hB e he=>?_⟩,?_⟩
 ·have hm:=mem_listed he;simp[go_sem,e0]at hm;subst hm;exact⟨hF4.xb,by show bt<B;have:=hF4.sz;have:=hF4.bl;omega⟩
 clear hK K hz e0;refine QL (n:=5) ?_;u_in JF.rely hF4;refine goes_call rfl rfl (by decide) rfl Tryz.func113 rfl rfl ⟨by u_nil,?_⟩;rw[←enter_at _ Tryz.func113 rfl];simp only[List.map_toArray,List.map_cons,List.map_nil,Act.eval,Array.getD_eq_getD_getElem?,QhR,QhT,QhS,Option.getD_some];refine Goes.stop (fun w7 h7=>?_);replace hF4:=JF.rely hF4 h7;clear h7
 have hio:InO X wJ.heap.size Ch cap wJ [] buf.toList (.slice none 0 0) w7:=by
  obtain⟨s',r',tm',hc'⟩:=hF4.ch;exact⟨hF4.low,Nat.le_of_eq hF4.sz.symm,World.ownsRow_nil _ _ _ _,⟨buf,s',r',tm',rfl,hc'⟩,hcl,hxs,hF4.oo⟩
 have hio2:=QeD (cs:=Vt #[v0,.pointer (some ⟨bh,0,none⟩),v2,v3,v4,.pointer (some ⟨bt,0,none⟩),v6,v7,v8,v9,v10,v11,v12,v13,v14,v15,v16,v17,v18,v19,v20,v21,v22,v23,v24,v25,v26,v27,v28,v29,v30,v31,v32,v33,v34,v35,.tuple #[],.chan (some Ch),.chan (some Ch),v39]::cs) hi hn hio;refine QbK hio2 fun g w hg=>⟨_,rfl,hg⟩
end
end Co
end Go.Proofs.YtcpnkpogebjieaaGreat
namespace Go.Proofs.Cut
open Go.Shelf
def ren189:Go.Shelf.Ren:=⟨fun|189=>146|125=>155|257=>154|128=>167|129=>168|294=>158|295=>159|296=>160|297=>161|298=>162|299=>163|216=>164|300=>165|301=>166|328=>169|329=>170|330=>171|331=>172|332=>173|215=>174|343=>175|n=>n,fun|28=>24|3=>3|46=>165|0=>0|51=>143|53=>140|4=>4|183=>193|182=>192|131=>197|5=>5|9=>9|218=>201|222=>204|228=>206|229=>207|n=>n,fun n=>n⟩
theorem lays189:Lays.n189 Cut.prog ren189 where
 mixed:=by kernel_rfl
 f125:=(Cut.func_of Tryz.func155 rfl).trans (congrArg some (by kernel_rfl))
 f128:=(Cut.func_of Tryz.func167 rfl).trans (congrArg some (by kernel_rfl))
 f129:=(Cut.func_of Tryz.func168 rfl).trans (congrArg some (by kernel_rfl))
 f189:=(Cut.func_of Tryz.func146 rfl).trans (congrArg some (by kernel_rfl))
 f215:=(Cut.func_of Tryz.func174 rfl).trans (congrArg some (by kernel_rfl))
 f216:=(Cut.func_of Tryz.func164 rfl).trans (congrArg some (by kernel_rfl))
 f257:=(Cut.func_of Tryz.func154 rfl).trans (congrArg some (by kernel_rfl))
 f294:=(Cut.func_of Tryz.func158 rfl).trans (congrArg some (by kernel_rfl))
 f295:=(Cut.func_of Tryz.func159 rfl).trans (congrArg some (by kernel_rfl))
 f296:=(Cut.func_of Tryz.func160 rfl).trans (congrArg some (by kernel_rfl))
 f297:=(Cut.func_of Tryz.func161 rfl).trans (congrArg some (by kernel_rfl))
 f298:=(Cut.func_of Tryz.func162 rfl).trans (congrArg some (by kernel_rfl))
 f299:=(Cut.func_of Tryz.func163 rfl).trans (congrArg some (by kernel_rfl))
 f300:=(Cut.func_of Tryz.func165 rfl).trans (congrArg some (by kernel_rfl))
 f301:=(Cut.func_of Tryz.func166 rfl).trans (congrArg some (by kernel_rfl))
 f328:=(Cut.func_of Tryz.func169 rfl).trans (congrArg some (by kernel_rfl))
 f329:=(Cut.func_of Tryz.func170 rfl).trans (congrArg some (by kernel_rfl))
 f330:=(Cut.func_of Tryz.func171 rfl).trans (congrArg some (by kernel_rfl))
 f331:=(Cut.func_of Tryz.func172 rfl).trans (congrArg some (by kernel_rfl))
 f332:=(Cut.func_of Tryz.func173 rfl).trans (congrArg some (by kernel_rfl))
 f343:=(Cut.func_of Tryz.func175 rfl).trans (congrArg some (by kernel_rfl))
 t0:=(Cut.under_eq 0).trans Tryz.underlying0
 a0:=fun w=>(Cut.run_agg 0 w).trans (Tryz.isAgg0 w)
 z0:=fun w=>(Cut.run_size 0 w).trans (Tryz.sizeOf0 w)
 v0:=fun w=>(Cut.run_zero 0 w).trans (Tryz.zeroValue0 w)
 t3:=(Cut.under_eq 3).trans Tryz.underlying3
 a3:=fun w=>(Cut.run_agg 3 w).trans (Tryz.isAgg3 w)
 z3:=fun w=>(Cut.run_size 3 w).trans (Tryz.sizeOf3 w)
 v3:=fun w=>(Cut.run_zero 3 w).trans (Tryz.zeroValue3 w)
 t4:=(Cut.under_eq 4).trans Tryz.underlying4
 a4:=fun w=>(Cut.run_agg 4 w).trans (Tryz.isAgg4 w)
 z4:=fun w=>(Cut.run_size 4 w).trans (Tryz.sizeOf4 w)
 v4:=fun w=>(Cut.run_zero 4 w).trans (Tryz.zeroValue4 w)
 t5:=(Cut.under_eq 5).trans Tryz.underlying5
 a5:=fun w=>(Cut.run_agg 5 w).trans (Tryz.isAgg5 w)
 z5:=fun w=>(Cut.run_size 5 w).trans (Tryz.sizeOf5 w)
 v5:=fun w=>(Cut.run_zero 5 w).trans (Tryz.zeroValue5 w)
 t9:=(Cut.under_eq 9).trans Tryz.underlying9
 a9:=fun w=>(Cut.run_agg 9 w).trans (Tryz.isAgg9 w)
 z9:=fun w=>(Cut.run_size 9 w).trans (Tryz.sizeOf9 w)
 v9:=fun w=>(Cut.run_zero 9 w).trans (Tryz.zeroValue9 w)
 t28:=(Cut.under_eq 24).trans Tryz.underlying24
 a28:=fun w=>(Cut.run_agg 24 w).trans (Tryz.isAgg24 w)
 z28:=fun w=>(Cut.run_size 24 w).trans (Tryz.sizeOf24 w)
 v28:=fun w=>(Cut.run_zero 24 w).trans (Tryz.zeroValue24 w)
 t46:=(Cut.under_eq 165).trans Tryz.underlying165
 a46:=fun w=>(Cut.run_agg 165 w).trans (Tryz.isAgg165 w)
 z46:=fun w=>(Cut.run_size 165 w).trans (Tryz.sizeOf165 w)
 v46:=fun w=>(Cut.run_zero 165 w).trans (Tryz.zeroValue165 w)
 t51:=(Cut.under_eq 143).trans Tryz.underlying143
 a51:=fun w=>(Cut.run_agg 143 w).trans (Tryz.isAgg143 w)
 z51:=fun w=>(Cut.run_size 143 w).trans (Tryz.sizeOf143 w)
 v51:=fun w=>(Cut.run_zero 143 w).trans (Tryz.zeroValue143 w)
 t53:=(Cut.under_eq 140).trans Tryz.underlying140
 a53:=fun w=>(Cut.run_agg 140 w).trans (Tryz.isAgg140 w)
 z53:=fun w=>(Cut.run_size 140 w).trans (Tryz.sizeOf140 w)
 v53:=fun w=>(Cut.run_zero 140 w).trans (Tryz.zeroValue140 w)
 t131:=(Cut.under_eq 197).trans Tryz.underlying197
 a131:=fun w=>(Cut.run_agg 197 w).trans (Tryz.isAgg197 w)
 z131:=fun w=>(Cut.run_size 197 w).trans (Tryz.sizeOf197 w)
 v131:=fun w=>(Cut.run_zero 197 w).trans (Tryz.zeroValue197 w)
 t182:=(Cut.under_eq 192).trans Tryz.underlying192
 a182:=fun w=>(Cut.run_agg 192 w).trans (Tryz.isAgg192 w)
 z182:=fun w=>(Cut.run_size 192 w).trans (Tryz.sizeOf192 w)
 v182:=fun w=>(Cut.run_zero 192 w).trans (Tryz.zeroValue192 w)
 t183:=(Cut.under_eq 193).trans Tryz.underlying193
 a183:=fun w=>(Cut.run_agg 193 w).trans (Tryz.isAgg193 w)
 z183:=fun w=>(Cut.run_size 193 w).trans (Tryz.sizeOf193 w)
 v183:=fun w=>(Cut.run_zero 193 w).trans (Tryz.zeroValue193 w)
 t218:=(Cut.under_eq 201).trans Tryz.underlying201
 a218:=fun w=>(Cut.run_agg 201 w).trans (Tryz.isAgg201 w)
 z218:=fun w=>(Cut.run_size 201 w).trans (Tryz.sizeOf201 w)
 v218:=fun w=>(Cut.run_zero 201 w).trans (Tryz.zeroValue201 w)
 t222:=(Cut.under_eq 204).trans Tryz.underlying204
 a222:=fun w=>(Cut.run_agg 204 w).trans (Tryz.isAgg204 w)
 z222:=fun w=>(Cut.run_size 204 w).trans (Tryz.sizeOf204 w)
 v222:=fun w=>(Cut.run_zero 204 w).trans (Tryz.zeroValue204 w)
 t228:=(Cut.under_eq 206).trans Tryz.underlying206
 a228:=fun w=>(Cut.run_agg 206 w).trans (Tryz.isAgg206 w)
 z228:=fun w=>(Cut.run_size 206 w).trans (Tryz.sizeOf206 w)
 v228:=fun w=>(Cut.run_zero 206 w).trans (Tryz.zeroValue206 w)
 t229:=(Cut.under_eq 207).trans Tryz.underlying207
 a229:=fun w=>(Cut.run_agg 207 w).trans (Tryz.isAgg207 w)
 z229:=fun w=>(Cut.run_size 207 w).trans (Tryz.sizeOf207 w)
 v229:=fun w=>(Cut.run_zero 207 w).trans (Tryz.zeroValue207 w)
end Go.Proofs.Cut
namespace Go.Proofs.YtcpnkpogebjieaaGreat
section
open Go.RowKit Go.Sort Go.Shelf
theorem QeB (w:World):Calls Cut.prog 158 #[.slice none 0 0,.int .i64 0,.int .i64 0] w fun e w'=>e=.returned (.tuple #[])∧w'=w:=by
 go_enter (Cut.func_of Tryz.func158 rfl),Tryz.ntmps158;go_wp2;refine wp_loop_rounds 1 ?_;rw[rounds_succ];go_wp2
 go_end0
 exact⟨rfl,rfl⟩
theorem QfW (w:World):Calls Cut.prog 154 #[.slice none 0 0,.int .i64 0,.int .i64 0,.int .i64 0] w fun e w'=>e=.returned (.tuple #[])∧w'=w:=by
 go_enter (Cut.func_of Tryz.func154 rfl),Tryz.ntmps154;go_wp2;refine wp_loop_rounds 1 ?_;rw[rounds_succ];go_wp2_with (first|(go_at_call 158;refine(QeB _).mono ?_;rintro e w' ⟨rfl,rfl⟩));refine bodyPost_ret (results_none rfl _ _ _) rfl ?_;exact⟨rfl,rfl⟩
theorem QgJ (w:World):Calls Cut.prog 146 #[.slice none 0 0] w fun e w'=>e=.returned (.tuple #[])∧w'=w:=by
 have hLen:∀w,Calls Cut.prog 155 #[.int .u64 0] w fun e w'=>e=.returned (.int .i64 0)∧w'=w:=fun w=>Any.bits_Len (ρ:=Cut.ren189) {Cut.lays189 with} 0 w (by omega) (by omega);go_enter (Cut.func_of Tryz.func146 rfl),Tryz.ntmps146
 go_wp2_with (first
  |(go_at_call 155;refine(hLen _).mono ?_;rintro e w' ⟨rfl,rfl⟩)
  |(go_at_call 154;refine(QfW _).mono ?_;rintro e w' ⟨rfl,rfl⟩))
 go_end0
 exact⟨rfl,rfl⟩
def srt (zs:List Int):List Int:=zs.mergeSort fun x y=>decide (x≤y)
theorem QgK {w:World}{N:Nat}{v:Value}{zs:List Int}(h:Qa w N v zs)(hl:zs.length<1000000):
 Calls Cut.prog 146 #[v] w fun e w'=>e=.returned (.tuple #[])∧Qa w' N v (srt zs)∧w.grownBy w' v.ownBlock:=by
 obtain⟨h1,⟨rfl,h2⟩|⟨g,cap,cur,rfl,hg,hb,hn,hc,hs,ht⟩⟩:=h
 ·obtain rfl:zs=[]:=List.eq_nil_of_length_eq_zero h2;refine(QgJ w).mono ?_;rintro e w' ⟨rfl,rfl⟩;have e:srt []=[]:=by simp[srt]
  rw[e];exact⟨rfl,⟨rfl,.inl ⟨rfl,rfl⟩⟩,⟨rfl,rfl,rfl,Nat.le_refl _,fun _ _ _=>rfl⟩⟩
 ·rw[Nat.mul_one]at ht;refine(Any.slices_Sort_int Cut.lays189 g 0 cap zs w (holds_of_blockI hb ht) (Array.getElem?_eq_some_iff.1 hb).1 (by omega)).mono ?_;rintro e w' ⟨rfl,n,os,rfl⟩;have hlen:(srt zs).length=zs.length:=by simp[srt]
  refine⟨rfl,?_,grownBy_sortedI _⟩;have:=ownsRow_sortedI (n:=n) (os:=os) (ts:=srt zs) (ss:=zs) hlen hg hb hn hc hs;unfold Qa;rw[hlen];exact this
end
namespace Co
open Go.Conc Go.ConcN Go.RowKit Go.Conc.Lib Go.ConcR.Gen
open Go.ConcR (DC0 WgAt)
set_option linter.unusedSimpArgs false
theorem Qcx {X:Nat→Bool}{Ch:Nat}{Fin:Goroutine→World→Prop}{f:FuncId}{args:Array Value}{c:Frame}{cs:List Frame}{w:World}(hk:Cut.keep f=true)(hs:Sn X w){R:Value→World→Prop}
 (H:∀t d,Calls Cut.prog f args {emW X w with tape:=t,drawn:=d} fun e w1=>∃v,e=.returned v∧R v w1)
 (K:∀v w1 w1',Em X w1 w1'→Sn X w1→QB X w w1→R v w1'→Qv Tryz.prog X Ch Fin (G (c.finish v) cs) w1):
 Qv Tryz.prog X Ch Fin (G (Frame.enter Tryz.prog f args .normal) (c::cs)) w:=by
 refine PK (QbL (c:=c) (cs:=cs) Cut.cut hk hs.xok hs.wok H) ?_;rintro g w1 ⟨v,w1',rfl,hE,hX,hW,hKp,_,hR⟩;refine K v w1 w1' hE ⟨hX,fun r o ho=>hW r o ?_⟩ hKp hR;rw[hE.heap r,←Za];exact ho
structure RB (X:Nat→Bool) (N1 Ch:Nat) (wJ:World) (v:Value) (zs:List Int) (w:World):Prop where
 low:∀b,b<N1→b≠Ch→w.heap[b]? =wJ.heap[b]?
 big:N1≤w.heap.size
 row:Qa w N1 v zs
 sn:Sn X w
 oo:OO w wJ
theorem RB.rely {X:Nat→Bool}{N1 Ch:Nat}{wJ:World}{v:Value}{zs:List Int}{w w1:World}(h:RB X N1 Ch wJ v zs w)(r:AtRel w w1):RB X N1 Ch wJ v zs w1:=by
 obtain⟨d,rfl⟩:=r;exact⟨h.low,h.big,h.row,h.sn.at d,h.oo⟩
section
variable {X:Nat→Bool} {wJ:World} {Ch cap:Nat} {cs:List Frame} {c:Frame}
theorem QdP {zs:List Int}(hl:zs.length<1000000){w:World}{X0:Nat→Bool}{T2 T:Array Value}{v:Value}(hT2:T2.size=40)(hT:T.size=16)(hv:T[3]? =some v)(hio:InO X0 wJ.heap.size Ch cap wJ (zs.map (Value.int .i64)) [] v w)(hs:Sn X w)(hxv:∀b,v.ownBlock=some b→X b=false):
 Qv Tryz.prog X Ch (fun g' w'=>∃v,g'=G (c.finish v) cs∧RB X wJ.heap.size Ch wJ v (srt zs) w'∧∀b,v.ownBlock=some b→X b=false) (G (Frame.enter Tryz.prog 146 #[v] .normal) (K3 T::Vt T2::c::cs)) w:=by
 have hrow:Qa w wJ.heap.size v zs:=by
  have:=hio.row;rw[List.length_map]at this;exact this
 refine Qcx (R:=fun u w1=>u=.tuple #[]∧Qa w1 wJ.heap.size v (srt zs)∧∃t d,({emW X w with tape:=t,drawn:=d}:World).grownBy w1 v.ownBlock) (by kernel_rfl) hs (fun t d=>?_) (fun u w1 w1' hE hS1 hKp hR=>?_)
 ·have h1:Qa {emW X w with tape:=t,drawn:=d} wJ.heap.size v zs:=ZZ hrow fun b hb=>Jj (hxv b hb);refine(QgK h1 hl).mono ?_;rintro e w1 ⟨rfl,h2,h3⟩;exact⟨_,rfl,rfl,h2,t,d,h3⟩
 obtain⟨rfl,hr1,t,d,hgr⟩:=hR;have hown:=hrow.lt
 have hlow:∀b,b<w.heap.size→v.ownBlock≠some b→w1.heap[b]? =w.heap[b]? :=fun b hb hne=>by
  cases hxb:X b with
  |true=>exact hKp.ob b hxb
  |false=>
   have h1:=hgr.block b (by show b<(emW X w).heap.size;rw[QF];exact hb) (Ne.symm hne);rw[JR hE hxb,h1];exact Jj hxb
 have hF:RB X wJ.heap.size Ch wJ v (srt zs) w1:=
  ⟨fun b h1 h2=>(hlow b (by have:=hio.big;omega) fun e=>by have:=(hown b e).1;omega).trans (hio.low b h1 h2),Nat.le_trans hio.big hKp.size,ZZ hr1 fun b hb=>JR hE (hxv b hb),hS1,OO.trans ⟨hE.os.symm.trans hgr.os,hE.out.symm.trans hgr.output⟩ hio.oo⟩
 clear hrow hr1 hgr hown hlow hio hE hS1 hKp hs;obtain⟨v0,v1,v2,v3,v4,v5,v6,v7,v8,v9,v10,v11,v12,v13,v14,v15,rfl⟩:=Ko T hT;simp only[QhR,QhS,QhT,Option.some.injEq]at hv;subst hv;obtain⟨u0,u1,u2,u3,u4,u5,u6,u7,u8,u9,u10,u11,u12,u13,u14,u15,u16,u17,u18,u19,u20,u21,u22,u23,u24,u25,u26,u27,u28,u29,u30,u31,u32,u33,u34,u35,u36,u37,u38,u39,rfl⟩:=UJ T2 hT2;rw[K3,Frame.finish_at];simp only[Qa6,ioF,ioE,Tryz.f113,QhR,QhT,QhS,Option.bind_some];refine QL (n:=40) ?_;walk_nrm;u_c stepG_region_end RB.rely hF;u_c stepG_seq RB.rely hF;u_reg RB.rely hF;u_op RB.rely hF;u_op RB.rely hF;u_c stepG_region_end RB.rely hF;u_c stepG_ret' RB.rely hF;simp only[Vt,O7,OI,UQ,Ya,Tryz.f81]
 u_leave1 Tryz.func113 RB.rely hF
 u_op RB.rely hF;u_c stepG_region_end RB.rely hF;u_c stepG_ret' RB.rely hF;u_in RB.rely hF;rw[stepG_leave rfl rfl Tryz.func81 (resultsC_tmp (P:=Tryz.prog) (fn:=Tryz.f81) (t:=2) rfl _ _).1 (resultsC_tmp (P:=Tryz.prog) (fn:=Tryz.f81) (t:=2) rfl _ _).2];simp only[goes_go];refine⟨by u_nil,?_⟩;exact Goes.stop (fun w9 h9=>.stop ⟨v3,rfl,RB.rely hF h9,hxv⟩)
end
end Co
namespace Co
open Go.Conc Go.ConcN Go.RowKit Go.Conc.Lib Go.ConcR.Gen Go.ConcN.Gen
open Go.ConcR (KK wgBlock WgAt stA smA rd wr mk Payload Aside2 DC0 ofEvent_cell)
def cst (ks:List Int):List Int→Nat
 | []=>1
 |p::l=>(if ks.getD p.toNat 0=4 then cst ks l+7 else cst ks l+1)+6
def cbd (ks wh:List Int)(ws:List (Int×Int)):List Int→Nat
 | []=>0
 |p::l=>if ks.getD p.toNat 0=4 then cbd ks wh ws l+(hs p wh ws+1+4+8)else cbd ks wh ws l
def crs (ks wh:List Int)(ws:List (Int×Int)):List Int→List (List Value)
 | []=>[]
 |p::l=>if ks.getD p.toNat 0=4 then Jy p wh 0 ws::crs ks wh ws l else crs ks wh ws l
section
variable [Payload] {S:Ph} {w0:World} {bh bw bt:Nat} {wa:Option Addr} {wcap:Nat} {ws:List (Int×Int)} {gW:Nat} {wh:List Int} {xa:Option Addr} {xcap:Nat} {X:List Int} {oa:Option Addr} {ocap:Nat} {ks:List Int}
theorem OR (hP:S.P=Tryz.prog)(hty:S.ty=Tryz.link.tWg)(hSB:∀b,S.SB b→(b<S.Low∧b≠S.Wg∧b≠S.Ch)∨b=S.Wg)(hD:Dat S w0 bh bw bt wa wcap ws gW wh)(hC:Vd S w0 bh xa X oa ocap ks){K1:List Item}{cs:List Frame}:
 ∀(l:List Int) (i:Nat),X.drop i=l→i≤X.length→∀T,DH S.Wg bh bw bt xa X.length xcap i T→∀own w,CF S w0 own w→S.Wg∉own→
  Yw S (Ue S.Wg bh bt K1 cs) (cst ks l) (cbd ks wh ws l) own (crs ks wh ws l) 0 0 (G ((base 81).at ⟨T,[]⟩ (.code Jc:: .inLoop Jc:: .inBlock 0:: .code Ya::K1)) cs) w
 | [],i,hl,hi,T,hT,own,w,hF,hW=>by
   have:i=X.length:=by
    have:=congrArg List.length hl;simp at this;omega
   subst this;exact QdQ hP hty hT hF
 |p::l,i,hl,hi,T,hT,own,w,hF,hW=>by
  have hlt:i<X.length:=by
   have:=congrArg List.length hl;simp at this;omega
  have hx:X[i]=p∧X.drop (i+1)=l:=by
   rw[List.drop_eq_getElem_cons hlt]at hl;exact⟨(List.cons.inj hl).1,(List.cons.inj hl).2⟩
  have ih:=OR hP hty hSB hD hC (K1:=K1) (cs:=cs) l (i+1) hx.2 (by omega);refine QdU hP hty hSB hD hC hlt hx.1 rfl (s:=cst ks l) (bd:=cbd ks wh ws l) (rest:=crs ks wh ws l) (fun h=>?_) (fun h=>?_) (fun T hT own w hF hW=>ih T hT own w hF hW) hT hF hW
  ·exact⟨if_neg h,if_neg h,if_neg h⟩
  ·exact⟨if_pos h,if_pos h,if_pos h⟩
omit [Payload]in
theorem Kw {L:Nat→List Value}:∀ {j:Nat},(∀i,i<j→L i=[])→Ja j L=[]
 |0,_=>rfl
 |j+1,h=>by rw[Ja,Kw fun i hi=>h i (by omega),h j (by omega)];rfl
theorem QdT (hP:S.P=Tryz.prog)(hty:S.ty=Tryz.link.tWg)(hG:Geo S)(hSC:¬S.SB S.Ch)(hD:Dat S w0 bh bw bt wa wcap ws gW wh)(hC:Vd S w0 bh xa X oa ocap ks){K1:List Item}{cs:List Frame}{T:Array Value}(hT:DH S.Wg bh bw bt xa X.length xcap 0 T)
 {gs:Array Goroutine}{sl:Option (Nat×Nat)}{t:Trace}{q:Nat→Nat}{Shun:Loc→Prop}{B cap sn rn:Nat}{tm:Bool}
 (ha:gs[0]? =some (G ((base 81).at ⟨T,[]⟩ (.code Jc:: .inLoop Jc:: .inBlock 0:: .code Ya::K1)) cs))(hsz:gs.size=S.m0)(hL:Leavers Tryz.prog t gs q)(hPast:Past Shun B t)(hSh:∀l,Shun l→ShS S l)(hQ:Quiet (ShS S) t)
 (hse:∀i a,touchAt t i=some a→a.loc.low w0.heap.size∧a.loc.isMemory=true)(hg:∀(i:Nat) (op:MemOp),t[i]? =some op→op.g<S.m0)(hn0:S.n0=t.size)(hLow:S.Low=w0.heap.size)(hwg:WgAt S.ty S.Wg w0 0 0)
 (hch:w0.heap[S.Ch]? =some (.chan cap #[] false sn rn tm))(hAll:(crs ks wh ws X).flatten.length≤cap)(hN:(crs ks wh ws X).length<1000000):
 ∃n gs' w' sl' t' T' q' B' buf s r tm',runNT Tryz.prog n (crowd gs w0 sl) t=(.next (crowd gs' w' sl'),t')∧gs'[0]? =some (G ((Uo T' K1).finish (.tuple #[])) cs)∧DW bh bt T'∧Leavers Tryz.prog t' gs' q'∧Past (ShS S) B' t'∧Quiet (ShS S) t'∧
  (∀i a,touchAt t' i=some a→a.loc.low w'.heap.size∧a.loc.isMemory=true)∧(∀(i:Nat) (op:MemOp),t'[i]? =some op→op.g<gs'.size)∧(∀b,b<S.Low→b≠S.Wg→b≠S.Ch→w'.heap[b]? =w0.heap[b]?)∧S.Low≤w'.heap.size∧WgAt S.ty S.Wg w' 0 0∧
  w'.heap[S.Ch]? =some (.chan cap buf false s r tm')∧buf.toList.Perm (crs ks wh ws X).flatten∧OO w' w0:=by
 have hSB:∀b,S.SB b→(b<S.Low∧b≠S.Wg∧b≠S.Ch)∨b=S.Wg:=fun b hb=>by
  by_cases e:b=S.Wg
  ·exact .inr e
  ·exact .inl ⟨hG.sb b hb,e,fun e'=>hSC (e'▸hb)⟩
 have hm1:=hG.m1;have hF:CF S w0 [] w0:=⟨fun _ _ _ _=>rfl,⟨_,_,hwg⟩,fun b hb=>by cases hb⟩
 have hcs:CSt S (Ue S.Wg bh bt K1 cs) (Ki S.Wg bh bt K1 cs) (.st (cst ks X) (cbd ks wh ws X) (crs ks wh ws X) 0) [] 0 0 (G ((base 81).at ⟨T,[]⟩ (.code Jc:: .inLoop Jc:: .inBlock 0:: .code Ya::K1)) cs) w0:=
  .st (Goes.stop fun w1 h1=>OR hP hty hSB hD hC X 0 rfl (Nat.zero_le _) T hT [] w1 (hF.rely h1) (by simp))
 have hperm:∀l,¬ShS S l→Perm t 0 l:=fun l hl i a hi he=>by
  rcases hPast.known i a hi (hse i a hi).2 with h|h
  ·exact h
  ·exact absurd (he▸hSh _ h.1) hl
 have hct:CT (ShS S) (OwO fun _=>[]) (RdS S) t (S.m0-1):=
  ⟨hQ,fun k _ _ l ⟨_,a,_,h⟩=>(by cases h),fun k _ hk l ⟨h,_⟩=>(by omega),fun l hs _=>hperm l hs,fun l hs _=>PermW.of (hperm l hs),hPast.clean,fun i op hi=>by have:=hg i op hi;omega⟩
 have hcom:Com S w0 cap (crs ks wh ws X).flatten (S.m0-1) gs w0 t (fun i=>⟨1,q (i+1),Deaf t (i+1)⟩) (fun _=>[]) (fun _=>[]) (crs ks wh ws X) 0:=by
  refine⟨by omega,by omega,fun i hi=>?_,hct,hse,fun i hi ha'=>?_,by omega,hPast.hears,fun i _=>rfl,fun i hi hm=>by omega,fun i _ _=>rfl,fun k i a _ _ ha'=>?_,fun i k hk hk0 hgi hc=>?_,fun _ _ _ _=>rfl,by omega,⟨fun k b hb=>(by cases hb),fun k k' b hb=>(by cases hb),fun k _=>rfl⟩,?_,.refl _⟩
  ·obtain⟨g,hg'⟩:∃g,gs[i+1]? =some g:=⟨_,Array.getElem?_eq_getElem (show i+1<gs.size by omega)⟩;refine⟨g,hg',.quit ?_⟩;rw[hP];exact hL.old (i+1) g (by omega) hg'
  ·have:=lt_of_act? ha';omega
  ·rcases hPast.known i a ha' (hse i a ha').2 with h|h
   ·exact .inl h
   ·exact .inr ⟨hSh _ h.1,h.2⟩
  ·exact hPast.over i k hgi hk0 hc
  ·refine⟨#[],sn,rn,tm,hch,?_⟩;rw[Kw fun _ _=>rfl];simp
 have hVc:Vc (S.m0-1) (fun i=>(⟨1,q (i+1),Deaf t (i+1)⟩:WD))=0:=by
  have:∀j,(sumTo j fun i=>cnt (⟨1,q (i+1),Deaf t (i+1)⟩:WD))=0:=fun j=>by
   induction j with
   |zero=>rfl
   |succ j ih=>simp only[sumTo,ih];rfl
  exact this _
 have hInv:Inv S (Ue S.Wg bh bt K1 cs) (Ki S.Wg bh bt K1 cs) w0 cap (crs ks wh ws X).flatten (crs ks wh ws X).length (ph2 (crs ks wh ws X).length (Vc (S.m0-1) (fun i=>(⟨1,q (i+1),Deaf t (i+1)⟩:WD))) (.st (cst ks X) (cbd ks wh ws X) (crs ks wh ws X) 0)+Ssum (S.m0-1) (fun i=>(⟨1,q (i+1),Deaf t (i+1)⟩:WD)),0+2*Fsum (S.m0-1) (fun i=>(⟨1,q (i+1),Deaf t (i+1)⟩:WD))) (crowd gs w0 sl) t:=by
  refine⟨gs,w0,sl,S.m0-1,_,fun _=>[],fun _=>[],.st (cst ks X) (cbd ks wh ws X) (crs ks wh ws X) 0,0,0,_,0,0,rfl,ha,hcs,hcom,hwg,?_,?_,Nat.zero_le _,by simp,rfl⟩
  ·have:=Md.opn (j:=S.m0-1) (D:=fun i=>(⟨1,q (i+1),Deaf t (i+1)⟩:WD)) (tag:=.st (cst ks X) (cbd ks wh ws X) (crs ks wh ws X) 0) trivial (fun i _=>.inr rfl) (by simp);rw[hVc]at this;simpa[Tg.pend]using this
  ·rw[hVc];simp[Tg.rest]
 obtain⟨n,m',t',hrun,gs',w',sl',j,D,O,L,a,rfl,ha',⟨T',hT',rfl,_⟩,hcom',hwg',hq,hacq⟩:=QfZ hG (fun g w ⟨_,_,_,h,_⟩=>by rw[h];rfl) (fun g w ⟨_,_,h,_⟩=>by rw[h];rfl) (QdE hP hty) hAll hN _ _ _ hInv;obtain⟨⟨B',hB'⟩,hL'⟩:=QeG hG hcom' hq hacq;rw[hP]at hrun hL';obtain⟨buf,s,r,tm',hc',hp'⟩:=hcom'.ch;refine⟨n,gs',w',sl',t',T',_,B',buf,s,r,tm',hrun,ha',hT',hL',hB',hcom'.ct.quiet,hcom'.seen,fun i op hi=>?_,hcom'.low,hcom'.big,hwg',hc',?_,hcom'.oo⟩
 ·have:=hcom'.ct.gs i op hi;have:=hcom'.size;omega
 ·rw[Kw fun i hi=>?_]at hp'
  ·simpa using hp'
  ·obtain⟨g,_,hs⟩:=hcom'.wk i hi;exact(hs.quits (hq i hi)).2
end
end Co
end Go.Proofs.YtcpnkpogebjieaaGreat
