/- THE CUT PROGRAM: the seat's program with the functions cut out that start goroutines, -/
import Derived.Test.YtcpnkpogebjieaaGreatProg
import Derived.Test.YtcpnkpogebjieaaGreatG06Tw
import Derived.Conc.WgLib
import Derived.WalkKit
import Derived.Conc.CrowdTrace
import Derived.Conc.Beside
import Derived.Conc.CrowdRun
import Derived.Conc.CrowdComm
namespace Go.Proofs.YtcpnkpogebjieaaGreat.Co
section
variable (T:Tables) (F F':Array Func) (t:TypeId) (w:World)
theorem info_tables:(typeInfo t).run (PP T F') w=(typeInfo t).run (PP T F) w:=by
 unfold typeInfo
 rw[Sem.run_bind,Sem.run_bind]
 simp only[program,Sem.run,Result.andThen]
 cases T.info? t<;>rfl
theorem size_tables:(sizeOf t).run (PP T F') w=(sizeOf t).run (PP T F) w:=by
 simp only[sizeOf,Sem.run_bind,info_tables T F F']
 cases(typeInfo t).run (PP T F) w<;>rfl
theorem under_tables:(PP T F').underlying t=(PP T F).underlying t:=rfl
theorem guard_tables:(PP T F').eqGuardType (PP T F').depth t=(PP T F).eqGuardType (PP T F).depth t:=Ki T F F' _ t
theorem runUnder_tables:(underlying t).run (PP T F') w=(underlying t).run (PP T F) w:=by
 unfold underlying
 rw[Sem.run_bind,Sem.run_bind]
 simp only[program,Sem.run,Result.andThen,under_tables T F F' t]
 cases(PP T F).underlying t<;>rfl
theorem isAgg_tables:(isAgg t).run (PP T F') w=(isAgg t).run (PP T F) w:=by
 simp only[isAgg,Sem.run_bind,runUnder_tables T F F']
 cases(underlying t).run (PP T F) w with
 |ok d w=>cases d<;>simp only[Result.andThen,Sem.run_pure]
 |halt h w=>simp only[Result.andThen]
theorem zero_tables:(zeroValue t).run (PP T F') w=(zeroValue t).run (PP T F) w:=by
 simp only[zeroValue,Sem.run_bind,info_tables T F F']
 cases(typeInfo t).run (PP T F) w with
 |ok d w=>
  simp only[Result.andThen]
  cases d.zero<;>simp[unsupported]
 |halt h w=>simp only[Result.andThen]
end
end Go.Proofs.YtcpnkpogebjieaaGreat.Co
namespace Go.Proofs.Cut
open Go.Proofs.YtcpnkpogebjieaaGreat.Co
def gone:Func:={(default:Func)with name:= "",origin:= "",body:=none}
def keep (f:FuncId):Bool:=!([0,1,2,81,108,109,110,111,112,113,128,129,130,131,132,133,134,135,136,137,138,139,140,141,142,143,144,145,149,150,151,152,153,176,177,178,179,180,181,182,183,184,185,186,187,188,189,190,194]:List Nat).contains f
@[irreducible] noncomputable def funcs:Array Func:=Tryz.funcs.mapIdx fun i f=>if keep i then f else gone
noncomputable def prog:Program:={toTables:=Tryz.progTables,funcs:=funcs}
@[simp] theorem run_info (t:TypeId) (w:World):(typeInfo t).run prog w=(typeInfo t).run Tryz.prog w:=info_tables _ _ _ t w
@[simp] theorem run_size (t:TypeId) (w:World):(sizeOf t).run prog w=(sizeOf t).run Tryz.prog w:=size_tables _ _ _ t w
@[simp] theorem run_under (t:TypeId) (w:World):(underlying t).run prog w=(underlying t).run Tryz.prog w:=runUnder_tables _ _ _ t w
@[simp] theorem run_agg (t:TypeId) (w:World):(isAgg t).run prog w=(isAgg t).run Tryz.prog w:=isAgg_tables _ _ _ t w
@[simp] theorem run_zero (t:TypeId) (w:World):(zeroValue t).run prog w=(zeroValue t).run Tryz.prog w:=zero_tables _ _ _ t w
@[simp] theorem under_eq (t:TypeId):prog.underlying t=Tryz.prog.underlying t:=under_tables _ _ _ t
@[simp] theorem types_eq:prog.types=Tryz.prog.types:=rfl
theorem guard_eq (t:TypeId):prog.eqGuardType prog.depth t=Tryz.prog.eqGuardType Tryz.prog.depth t:=guard_tables _ _ _ t
@[simp] theorem stood_eq (t:TypeId):prog.stoodInHeld t=Tryz.prog.stoodInHeld t:=K7 _ _ _ t
@[simp] theorem guardWatch:prog.eqGuardType prog.depth 40=false:=(guard_eq 40).trans Tryz.eqGuardType40
theorem funcs_get (f:FuncId):funcs[f]? =(Tryz.funcs[f]?).map fun fn=>if keep f then fn else gone:=by
 unfold funcs
 exact Array.getElem?_mapIdx
theorem func_of {f:FuncId}{fn:Func}(h:Tryz.prog.funcs[f]? =some fn)(hk:keep f=true):prog.funcs[f]? =some fn:=by
 have h1:prog.funcs[f]? =funcs[f]? :=rfl
 rw[h1,funcs_get,hk]
 simp only[if_true,Option.map_id']
 exact h
theorem call_of {f:FuncId}{fn:Func}(h:Tryz.prog.funcs[f]? =some fn)(hk:keep f=true)(hb:fn.body.isSome=true)(hn:(fn.name == "runtime.NumGoroutine")=false)(args:Array Value)(w:World):(callFunc f args).run prog w=.ok (.enter f args) w:=by
 have h3:fn.body.isNone=false:=by cases hq:fn.body<;>simp_all
 have:=func_of h hk
 unfold callFunc
 rw[Sem.run_bind]
 simp only[program,Sem.run,Result.andThen,this,hn,h3,Bool.false_eq_true,if_false]
 rfl
@[simp] theorem call7 (args:Array Value) (w:World):(callFunc 7 args).run prog w=.ok (.enter 7 args) w:=call_of Tryz.func7 rfl rfl (by kernel_rfl) args w
@[simp] theorem call9 (args:Array Value) (w:World):(callFunc 9 args).run prog w=.ok (.enter 9 args) w:=call_of Tryz.func9 rfl rfl (by kernel_rfl) args w
@[simp] theorem call10 (args:Array Value) (w:World):(callFunc 10 args).run prog w=.ok (.enter 10 args) w:=call_of Tryz.func10 rfl rfl (by kernel_rfl) args w
@[simp] theorem call11 (args:Array Value) (w:World):(callFunc 11 args).run prog w=.ok (.enter 11 args) w:=call_of Tryz.func11 rfl rfl (by kernel_rfl) args w
@[simp] theorem call12 (args:Array Value) (w:World):(callFunc 12 args).run prog w=.ok (.enter 12 args) w:=call_of Tryz.func12 rfl rfl (by kernel_rfl) args w
@[simp] theorem call13 (args:Array Value) (w:World):(callFunc 13 args).run prog w=.ok (.enter 13 args) w:=call_of Tryz.func13 rfl rfl (by kernel_rfl) args w
@[simp] theorem call14 (args:Array Value) (w:World):(callFunc 14 args).run prog w=.ok (.enter 14 args) w:=call_of Tryz.func14 rfl rfl (by kernel_rfl) args w
@[simp] theorem call15 (args:Array Value) (w:World):(callFunc 15 args).run prog w=.ok (.enter 15 args) w:=call_of Tryz.func15 rfl rfl (by kernel_rfl) args w
@[simp] theorem call16 (args:Array Value) (w:World):(callFunc 16 args).run prog w=.ok (.enter 16 args) w:=call_of Tryz.func16 rfl rfl (by kernel_rfl) args w
@[simp] theorem call17 (args:Array Value) (w:World):(callFunc 17 args).run prog w=.ok (.enter 17 args) w:=call_of Tryz.func17 rfl rfl (by kernel_rfl) args w
@[simp] theorem call18 (args:Array Value) (w:World):(callFunc 18 args).run prog w=.ok (.enter 18 args) w:=call_of Tryz.func18 rfl rfl (by kernel_rfl) args w
@[simp] theorem call30 (args:Array Value) (w:World):(callFunc 30 args).run prog w=.ok (.enter 30 args) w:=call_of Tryz.func30 rfl rfl (by kernel_rfl) args w
@[simp] theorem call31 (args:Array Value) (w:World):(callFunc 31 args).run prog w=.ok (.enter 31 args) w:=call_of Tryz.func31 rfl rfl (by kernel_rfl) args w
@[simp] theorem call32 (args:Array Value) (w:World):(callFunc 32 args).run prog w=.ok (.enter 32 args) w:=call_of Tryz.func32 rfl rfl (by kernel_rfl) args w
@[simp] theorem call34 (args:Array Value) (w:World):(callFunc 34 args).run prog w=.ok (.enter 34 args) w:=call_of Tryz.func34 rfl rfl (by kernel_rfl) args w
@[simp] theorem call35 (args:Array Value) (w:World):(callFunc 35 args).run prog w=.ok (.enter 35 args) w:=call_of Tryz.func35 rfl rfl (by kernel_rfl) args w
@[simp] theorem call36 (args:Array Value) (w:World):(callFunc 36 args).run prog w=.ok (.enter 36 args) w:=call_of Tryz.func36 rfl rfl (by kernel_rfl) args w
@[simp] theorem call37 (args:Array Value) (w:World):(callFunc 37 args).run prog w=.ok (.enter 37 args) w:=call_of Tryz.func37 rfl rfl (by kernel_rfl) args w
@[simp] theorem call38 (args:Array Value) (w:World):(callFunc 38 args).run prog w=.ok (.enter 38 args) w:=call_of Tryz.func38 rfl rfl (by kernel_rfl) args w
@[simp] theorem call39 (args:Array Value) (w:World):(callFunc 39 args).run prog w=.ok (.enter 39 args) w:=call_of Tryz.func39 rfl rfl (by kernel_rfl) args w
@[simp] theorem call40 (args:Array Value) (w:World):(callFunc 40 args).run prog w=.ok (.enter 40 args) w:=call_of Tryz.func40 rfl rfl (by kernel_rfl) args w
@[simp] theorem call41 (args:Array Value) (w:World):(callFunc 41 args).run prog w=.ok (.enter 41 args) w:=call_of Tryz.func41 rfl rfl (by kernel_rfl) args w
@[simp] theorem call42 (args:Array Value) (w:World):(callFunc 42 args).run prog w=.ok (.enter 42 args) w:=call_of Tryz.func42 rfl rfl (by kernel_rfl) args w
@[simp] theorem call43 (args:Array Value) (w:World):(callFunc 43 args).run prog w=.ok (.enter 43 args) w:=call_of Tryz.func43 rfl rfl (by kernel_rfl) args w
@[simp] theorem call44 (args:Array Value) (w:World):(callFunc 44 args).run prog w=.ok (.enter 44 args) w:=call_of Tryz.func44 rfl rfl (by kernel_rfl) args w
@[simp] theorem call45 (args:Array Value) (w:World):(callFunc 45 args).run prog w=.ok (.enter 45 args) w:=call_of Tryz.func45 rfl rfl (by kernel_rfl) args w
@[simp] theorem call46 (args:Array Value) (w:World):(callFunc 46 args).run prog w=.ok (.enter 46 args) w:=call_of Tryz.func46 rfl rfl (by kernel_rfl) args w
@[simp] theorem call47 (args:Array Value) (w:World):(callFunc 47 args).run prog w=.ok (.enter 47 args) w:=call_of Tryz.func47 rfl rfl (by kernel_rfl) args w
@[simp] theorem call48 (args:Array Value) (w:World):(callFunc 48 args).run prog w=.ok (.enter 48 args) w:=call_of Tryz.func48 rfl rfl (by kernel_rfl) args w
@[simp] theorem call49 (args:Array Value) (w:World):(callFunc 49 args).run prog w=.ok (.enter 49 args) w:=call_of Tryz.func49 rfl rfl (by kernel_rfl) args w
@[simp] theorem call50 (args:Array Value) (w:World):(callFunc 50 args).run prog w=.ok (.enter 50 args) w:=call_of Tryz.func50 rfl rfl (by kernel_rfl) args w
@[simp] theorem call51 (args:Array Value) (w:World):(callFunc 51 args).run prog w=.ok (.enter 51 args) w:=call_of Tryz.func51 rfl rfl (by kernel_rfl) args w
@[simp] theorem call52 (args:Array Value) (w:World):(callFunc 52 args).run prog w=.ok (.enter 52 args) w:=call_of Tryz.func52 rfl rfl (by kernel_rfl) args w
@[simp] theorem call58 (args:Array Value) (w:World):(callFunc 58 args).run prog w=.ok (.enter 58 args) w:=call_of Tryz.func58 rfl rfl (by kernel_rfl) args w
@[simp] theorem call74 (args:Array Value) (w:World):(callFunc 74 args).run prog w=.ok (.enter 74 args) w:=call_of Tryz.func74 rfl rfl (by kernel_rfl) args w
@[simp] theorem call75 (args:Array Value) (w:World):(callFunc 75 args).run prog w=.ok (.enter 75 args) w:=call_of Tryz.func75 rfl rfl (by kernel_rfl) args w
@[simp] theorem call76 (args:Array Value) (w:World):(callFunc 76 args).run prog w=.ok (.enter 76 args) w:=call_of Tryz.func76 rfl rfl (by kernel_rfl) args w
@[simp] theorem call77 (args:Array Value) (w:World):(callFunc 77 args).run prog w=.ok (.enter 77 args) w:=call_of Tryz.func77 rfl rfl (by kernel_rfl) args w
@[simp] theorem call78 (args:Array Value) (w:World):(callFunc 78 args).run prog w=.ok (.enter 78 args) w:=call_of Tryz.func78 rfl rfl (by kernel_rfl) args w
@[simp] theorem call79 (args:Array Value) (w:World):(callFunc 79 args).run prog w=.ok (.enter 79 args) w:=call_of Tryz.func79 rfl rfl (by kernel_rfl) args w
@[simp] theorem call80 (args:Array Value) (w:World):(callFunc 80 args).run prog w=.ok (.enter 80 args) w:=call_of Tryz.func80 rfl rfl (by kernel_rfl) args w
@[simp] theorem call82 (args:Array Value) (w:World):(callFunc 82 args).run prog w=.ok (.enter 82 args) w:=call_of Tryz.func82 rfl rfl (by kernel_rfl) args w
@[simp] theorem call83 (args:Array Value) (w:World):(callFunc 83 args).run prog w=.ok (.enter 83 args) w:=call_of Tryz.func83 rfl rfl (by kernel_rfl) args w
@[simp] theorem call84 (args:Array Value) (w:World):(callFunc 84 args).run prog w=.ok (.enter 84 args) w:=call_of Tryz.func84 rfl rfl (by kernel_rfl) args w
@[simp] theorem call85 (args:Array Value) (w:World):(callFunc 85 args).run prog w=.ok (.enter 85 args) w:=call_of Tryz.func85 rfl rfl (by kernel_rfl) args w
@[simp] theorem call86 (args:Array Value) (w:World):(callFunc 86 args).run prog w=.ok (.enter 86 args) w:=call_of Tryz.func86 rfl rfl (by kernel_rfl) args w
@[simp] theorem call87 (args:Array Value) (w:World):(callFunc 87 args).run prog w=.ok (.enter 87 args) w:=call_of Tryz.func87 rfl rfl (by kernel_rfl) args w
@[simp] theorem call88 (args:Array Value) (w:World):(callFunc 88 args).run prog w=.ok (.enter 88 args) w:=call_of Tryz.func88 rfl rfl (by kernel_rfl) args w
@[simp] theorem call89 (args:Array Value) (w:World):(callFunc 89 args).run prog w=.ok (.enter 89 args) w:=call_of Tryz.func89 rfl rfl (by kernel_rfl) args w
@[simp] theorem call90 (args:Array Value) (w:World):(callFunc 90 args).run prog w=.ok (.enter 90 args) w:=call_of Tryz.func90 rfl rfl (by kernel_rfl) args w
@[simp] theorem call91 (args:Array Value) (w:World):(callFunc 91 args).run prog w=.ok (.enter 91 args) w:=call_of Tryz.func91 rfl rfl (by kernel_rfl) args w
@[simp] theorem call92 (args:Array Value) (w:World):(callFunc 92 args).run prog w=.ok (.enter 92 args) w:=call_of Tryz.func92 rfl rfl (by kernel_rfl) args w
@[simp] theorem call93 (args:Array Value) (w:World):(callFunc 93 args).run prog w=.ok (.enter 93 args) w:=call_of Tryz.func93 rfl rfl (by kernel_rfl) args w
@[simp] theorem call94 (args:Array Value) (w:World):(callFunc 94 args).run prog w=.ok (.enter 94 args) w:=call_of Tryz.func94 rfl rfl (by kernel_rfl) args w
@[simp] theorem call95 (args:Array Value) (w:World):(callFunc 95 args).run prog w=.ok (.enter 95 args) w:=call_of Tryz.func95 rfl rfl (by kernel_rfl) args w
@[simp] theorem call96 (args:Array Value) (w:World):(callFunc 96 args).run prog w=.ok (.enter 96 args) w:=call_of Tryz.func96 rfl rfl (by kernel_rfl) args w
@[simp] theorem call97 (args:Array Value) (w:World):(callFunc 97 args).run prog w=.ok (.enter 97 args) w:=call_of Tryz.func97 rfl rfl (by kernel_rfl) args w
@[simp] theorem call104 (args:Array Value) (w:World):(callFunc 104 args).run prog w=.ok (.enter 104 args) w:=call_of Tryz.func104 rfl rfl (by kernel_rfl) args w
@[simp] theorem call105 (args:Array Value) (w:World):(callFunc 105 args).run prog w=.ok (.enter 105 args) w:=call_of Tryz.func105 rfl rfl (by kernel_rfl) args w
@[simp] theorem call106 (args:Array Value) (w:World):(callFunc 106 args).run prog w=.ok (.enter 106 args) w:=call_of Tryz.func106 rfl rfl (by kernel_rfl) args w
@[simp] theorem call107 (args:Array Value) (w:World):(callFunc 107 args).run prog w=.ok (.enter 107 args) w:=call_of Tryz.func107 rfl rfl (by kernel_rfl) args w
@[simp] theorem call114 (args:Array Value) (w:World):(callFunc 114 args).run prog w=.ok (.enter 114 args) w:=call_of Tryz.func114 rfl rfl (by kernel_rfl) args w
@[simp] theorem call115 (args:Array Value) (w:World):(callFunc 115 args).run prog w=.ok (.enter 115 args) w:=call_of Tryz.func115 rfl rfl (by kernel_rfl) args w
@[simp] theorem call116 (args:Array Value) (w:World):(callFunc 116 args).run prog w=.ok (.enter 116 args) w:=call_of Tryz.func116 rfl rfl (by kernel_rfl) args w
@[simp] theorem call117 (args:Array Value) (w:World):(callFunc 117 args).run prog w=.ok (.enter 117 args) w:=call_of Tryz.func117 rfl rfl (by kernel_rfl) args w
@[simp] theorem call118 (args:Array Value) (w:World):(callFunc 118 args).run prog w=.ok (.enter 118 args) w:=call_of Tryz.func118 rfl rfl (by kernel_rfl) args w
@[simp] theorem call119 (args:Array Value) (w:World):(callFunc 119 args).run prog w=.ok (.enter 119 args) w:=call_of Tryz.func119 rfl rfl (by kernel_rfl) args w
@[simp] theorem call120 (args:Array Value) (w:World):(callFunc 120 args).run prog w=.ok (.enter 120 args) w:=call_of Tryz.func120 rfl rfl (by kernel_rfl) args w
@[simp] theorem call121 (args:Array Value) (w:World):(callFunc 121 args).run prog w=.ok (.enter 121 args) w:=call_of Tryz.func121 rfl rfl (by kernel_rfl) args w
@[simp] theorem call122 (args:Array Value) (w:World):(callFunc 122 args).run prog w=.ok (.enter 122 args) w:=call_of Tryz.func122 rfl rfl (by kernel_rfl) args w
@[simp] theorem call123 (args:Array Value) (w:World):(callFunc 123 args).run prog w=.ok (.enter 123 args) w:=call_of Tryz.func123 rfl rfl (by kernel_rfl) args w
@[simp] theorem call124 (args:Array Value) (w:World):(callFunc 124 args).run prog w=.ok (.enter 124 args) w:=call_of Tryz.func124 rfl rfl (by kernel_rfl) args w
@[simp] theorem call125 (args:Array Value) (w:World):(callFunc 125 args).run prog w=.ok (.enter 125 args) w:=call_of Tryz.func125 rfl rfl (by kernel_rfl) args w
@[simp] theorem call126 (args:Array Value) (w:World):(callFunc 126 args).run prog w=.ok (.enter 126 args) w:=call_of Tryz.func126 rfl rfl (by kernel_rfl) args w
@[simp] theorem call127 (args:Array Value) (w:World):(callFunc 127 args).run prog w=.ok (.enter 127 args) w:=call_of Tryz.func127 rfl rfl (by kernel_rfl) args w
@[simp] theorem call146 (args:Array Value) (w:World):(callFunc 146 args).run prog w=.ok (.enter 146 args) w:=call_of Tryz.func146 rfl rfl (by kernel_rfl) args w
@[simp] theorem call147 (args:Array Value) (w:World):(callFunc 147 args).run prog w=.ok (.enter 147 args) w:=call_of Tryz.func147 rfl rfl (by kernel_rfl) args w
@[simp] theorem call148 (args:Array Value) (w:World):(callFunc 148 args).run prog w=.ok (.enter 148 args) w:=call_of Tryz.func148 rfl rfl (by kernel_rfl) args w
@[simp] theorem call154 (args:Array Value) (w:World):(callFunc 154 args).run prog w=.ok (.enter 154 args) w:=call_of Tryz.func154 rfl rfl (by kernel_rfl) args w
@[simp] theorem call155 (args:Array Value) (w:World):(callFunc 155 args).run prog w=.ok (.enter 155 args) w:=call_of Tryz.func155 rfl rfl (by kernel_rfl) args w
@[simp] theorem call157 (args:Array Value) (w:World):(callFunc 157 args).run prog w=.ok (.enter 157 args) w:=call_of Tryz.func157 rfl rfl (by kernel_rfl) args w
@[simp] theorem call158 (args:Array Value) (w:World):(callFunc 158 args).run prog w=.ok (.enter 158 args) w:=call_of Tryz.func158 rfl rfl (by kernel_rfl) args w
@[simp] theorem call192 (args:Array Value) (w:World):(callFunc 192 args).run prog w=.ok (.enter 192 args) w:=call_of Tryz.func192 rfl rfl (by kernel_rfl) args w
@[simp] theorem call193 (args:Array Value) (w:World):(callFunc 193 args).run prog w=.ok (.enter 193 args) w:=call_of Tryz.func193 rfl rfl (by kernel_rfl) args w
theorem keep_has:((List.range 195).all fun f=>!keep f||(match Tryz.prog.funcs[f]? with|some fn=>fn.body.isSome&& !(fn.name == "runtime.NumGoroutine")|none=>true))=true:=by kernel_rfl
theorem keep_code:((List.range 195).all fun f=>!keep f||(match Tryz.prog.funcs[f]? with|some fn=>(match fn.body with|some b=>QO Tryz.progTables b|none=>true)|none=>true))=true:=by kernel_rfl
theorem gone_cut:Pk gone:=⟨rfl,rfl,by kernel_rfl,by kernel_rfl,by kernel_rfl⟩
theorem funcs_size:Tryz.prog.funcs.size=195:=by kernel_rfl
theorem cut:Go.Proofs.YtcpnkpogebjieaaGreat.Co.Cut Tryz.progTables Tryz.funcs funcs keep:=by
 have lt:∀f fn,Tryz.prog.funcs[f]? =some fn→f<195:=fun f fn h=>by
  have:=(Array.getElem?_eq_some_iff.1 h).1
  rw[funcs_size]at this
  exact this
 refine⟨⟨fun f hk=>?_,fun f fn hk h=>?_,fun f fn hk h=>?_⟩,fun f fn b hk h hb=>?_⟩
 ·rw[funcs_get,hk]
  simp only[if_true,Option.map_id']
 ·have h':Tryz.prog.funcs[f]? =some fn:=h
  have:=List.all_eq_true.1 keep_has f (List.mem_range.2 (lt f fn h'))
  simp only[hk,h',Bool.not_true,Bool.false_or,Bool.and_eq_true,Bool.not_eq_true']at this
  exact this
 ·rw[funcs_get,hk]at h
  cases hf:Tryz.funcs[f]? with
  |none=>rw[hf]at h;cases h
  |some x=>
   rw[hf]at h
   simp only[Option.map_some,Bool.false_eq_true,if_false,Option.some.injEq]at h
   rw[←h]
   exact gone_cut
 ·have h':Tryz.prog.funcs[f]? =some fn:=h
  have:=List.all_eq_true.1 keep_code f (List.mem_range.2 (lt f fn h'))
  simp only[hk,h',hb,Bool.not_true,Bool.false_or]at this
  exact this
end Go.Proofs.Cut
namespace Go.Proofs
abbrev Tryz.link:Go.Conc.Lib.WgLink:={add:=108,done:=110,wait:=112,relMerge:=128,disable:=129,enable:=130,inBubble:=131,associate:=132,fatal:=133,uOr:=134,uAdd:=135,raceRead:=136,uLoad:=137,uStore:=138,disassociate:=139,semrelease:=140,acquire:=141,isAssociated:=142,uCas:=143,raceWrite:=144,semacquire:=145,orU64:=149,addU64:=150,loadU64:=151,storeU64:=152,casU64:=153,tWgP:=157,tUP:=159,tAssoc:=161,tWg:=145,tAU:=142,tU64:=140,tUint:=165,tU32:=143,tPU32:=166,tPAU:=179,tPU64:=181,tNoCopy:=137,tANoCopy:=138,tAlign64:=139}
theorem Tryz.wgLib:Go.Conc.Lib.WgLib Tryz.prog Tryz.link:=
 ⟨Tryz.func108,Tryz.func110,Tryz.func112,Tryz.func128,Tryz.func129,Tryz.func130,Tryz.func131,Tryz.func132,Tryz.func133,Tryz.func134,Tryz.func135,Tryz.func136,Tryz.func137,Tryz.func138,Tryz.func139,Tryz.func140,Tryz.func141,Tryz.func142,Tryz.func143,Tryz.func144,Tryz.func145,Tryz.func149,Tryz.func150,Tryz.func151,Tryz.func152,Tryz.func153,Tryz.underlying157,Tryz.runUnderlying157,Tryz.sizeOf157,Tryz.isAgg157,Tryz.zeroValue157,Tryz.underlying159,Tryz.runUnderlying159,Tryz.sizeOf159,Tryz.isAgg159,Tryz.zeroValue159,Tryz.underlying161,Tryz.runUnderlying161,Tryz.sizeOf161,Tryz.isAgg161,Tryz.zeroValue161,Tryz.underlying145,Tryz.runUnderlying145,Tryz.sizeOf145,Tryz.isAgg145,Tryz.zeroValue145,Tryz.underlying142,Tryz.runUnderlying142,Tryz.sizeOf142,Tryz.isAgg142,Tryz.zeroValue142,Tryz.underlying140,Tryz.runUnderlying140,Tryz.sizeOf140,Tryz.isAgg140,Tryz.zeroValue140,Tryz.underlying165,Tryz.runUnderlying165,Tryz.sizeOf165,Tryz.isAgg165,Tryz.zeroValue165,Tryz.underlying143,Tryz.runUnderlying143,Tryz.sizeOf143,Tryz.isAgg143,Tryz.zeroValue143,Tryz.underlying166,Tryz.runUnderlying166,Tryz.sizeOf166,Tryz.isAgg166,Tryz.zeroValue166,Tryz.underlying179,Tryz.runUnderlying179,Tryz.sizeOf179,Tryz.isAgg179,Tryz.zeroValue179,Tryz.underlying181,Tryz.runUnderlying181,Tryz.sizeOf181,Tryz.isAgg181,Tryz.zeroValue181,Tryz.underlying0,Tryz.runUnderlying0,Tryz.sizeOf0,Tryz.isAgg0,Tryz.zeroValue0,Tryz.underlying3,Tryz.runUnderlying3,Tryz.sizeOf3,Tryz.isAgg3,Tryz.zeroValue3,Tryz.underlying4,Tryz.runUnderlying4,Tryz.sizeOf4,Tryz.isAgg4,Tryz.zeroValue4,Tryz.underlying9,Tryz.runUnderlying9,Tryz.sizeOf9,Tryz.isAgg9,Tryz.zeroValue9,Tryz.underlying20,Tryz.runUnderlying20,Tryz.sizeOf20,Tryz.isAgg20,Tryz.zeroValue20,Tryz.underlying21,Tryz.runUnderlying21,Tryz.sizeOf21,Tryz.isAgg21,Tryz.zeroValue21,by kernel_rfl,by kernel_rfl⟩
end Go.Proofs
namespace Go.Proofs.YtcpnkpogebjieaaGreat
namespace Co
open Go.Conc Go.ConcN
theorem Qca {Sh:Loc→Prop}{Own Own' Rd:Nat→Loc→Prop}{t:Trace}{j:Nat}(h:CT Sh Own Rd t j)(hs:∀k l,Own k l→Own' k l)(hn:∀k l,Own' k l→¬Own k l→∀i a,touchAt t i=some a→a.loc≠l):CT Sh Own' Rd t j:=by
 refine⟨h.quiet,fun k k1 kj l hl=>?_,h.rd,fun l hS hl=>h.free l hS fun k k1 kj=>⟨fun ho=>(hl k k1 kj).1 (hs k l ho),(hl k k1 kj).2⟩,fun l hS hl=>h.mine l hS fun k k1 kj ho=>hl k k1 kj (hs k l ho),h.nr,h.gs⟩
 rcases Classical.em (Own k l)with ho|ho
 ·exact h.own k k1 kj l ho
 ·exact fun i a ha he=>absurd he (hn k l hl ho i a ha)
end Co
namespace Co
open Go.Conc Go.ConcN
open Go.ConcR (KK wgBlock WgAt stA smA rd wr mk Payload Aside2 DC0 Bk g_of_ofEvents again_blocked)
def RL (ty:TypeId)(Wg:Nat)(w w1:World):Prop:=WgLive ty Wg w→WgLive ty Wg w1
theorem rl {ty:TypeId}{Wg:Nat}{w w1:World}(h:WgLive ty Wg w)(r:RL ty Wg w w1):WgLive ty Wg w1:=r h
section
variable (P:Program)
def ZJ (m:Mark)(Next:Goroutine→World→Prop)(g:Goroutine)(w:World):Prop:=
 g.status=.running∧∃g',stepG P true g w=.go g' w #[mk m]∧Next g' w
def Sil (ty:TypeId)(Wg:Nat)(Stop:Goroutine→World→Prop)(g:Goroutine)(w:World):Prop:=∃n,Goes P true (RL ty Wg) DC0 Stop n g w
def VL (ty:TypeId)(Wg:Nat)(c:Frame)(cs:List Frame)(g:Goroutine)(w:World):Prop:=g=G (c.finish (.tuple #[])) cs∧WgLive ty Wg w
def Qbn (ty:TypeId)(Wg:Nat)(Next:Goroutine→World→Prop)(g:Goroutine)(w:World):Prop:=
 g.status=.running∧∀v:Nat,v<1000000→WgAt ty Wg w (v*KK) 0→∃g',stepG P true g w=.go g' (w.setCell (stA Wg) (.int .u64 ((v+1:Nat)*KK))) #[rd (stA Wg),wr (stA Wg)]∧
  (v=0→Sil P ty Wg (ZJ P (.read (smA Wg)) (Sil P ty Wg (ZJ P .enable Next))) g' (w.setCell (stA Wg) (.int .u64 ((v+1:Nat)*KK))))∧
  (v≠0→Sil P ty Wg (ZJ P .enable Next) g' (w.setCell (stA Wg) (.int .u64 ((v+1:Nat)*KK))))
end
section
variable (P:Program) (ty:TypeId) (Wg:Nat) (Anch Bk:Goroutine→World→Prop)
def Us:Goroutine→World→Prop:=Sil P ty Wg (ZJ P .enable (Sil P ty Wg (ZJ P (.acquire (stA Wg)) (Sil P ty Wg Bk))))
def YU (g:Goroutine)(w:World):Prop:=g.status=.running∧(WgAt ty Wg w 0 0→∃g',stepG P true g w=.go g' w #[rd (stA Wg)]∧Us P ty Wg Bk g' w)
def Yl (g:Goroutine)(w:World):Prop:=
 g.status=.running∧g.offers=none∧((∃st,WgAt ty Wg w st 0)→stepG P true g w=.go {g with status:=.blocked} w #[])∧
  (WgAt ty Wg w 0 1→∃g',stepG P true g w=.go g' (w.setCell (smA Wg) (.int .u32 0)) (semEvents (smA Wg))∧Sil P ty Wg (YU P ty Wg Bk) g' (w.setCell (smA Wg) (.int .u32 0)))
def YT (vs:Nat)(g:Goroutine)(w:World):Prop:=
 g.status=.running∧∀v:Nat,v<1000000→WgAt ty Wg w (v*KK) 0→
  (v=vs→∃g',stepG P true g w=.go g' (w.setCell (stA Wg) (.int .u64 (v*KK+1))) #[rd (stA Wg),wr (stA Wg)]∧Sil P ty Wg (ZJ P (.write (smA Wg)) (Sil P ty Wg (Yl P ty Wg Bk))) g' (w.setCell (stA Wg) (.int .u64 (v*KK+1))))∧
  (v≠vs→∃g',stepG P true g w=.go g' w #[rd (stA Wg)]∧Sil P ty Wg Anch g' w)
def JW (g:Goroutine)(w:World):Prop:=
 g.status=.running∧∀v:Nat,v<1000000→WgAt ty Wg w (v*KK) 0→∃g',stepG P true g w=.go g' w #[rd (stA Wg)]∧(v=0→Us P ty Wg Bk g' w)∧(v≠0→Sil P ty Wg (YT P ty Wg Anch Bk v) g' w)
end
end Co
end Go.Proofs.YtcpnkpogebjieaaGreat
