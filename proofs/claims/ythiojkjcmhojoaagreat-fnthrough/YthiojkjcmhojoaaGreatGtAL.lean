import Derived.Test.YthiojkjcmhojoaaGreatGtAG
import Derived.WalkLawsBesides
namespace Go.Proofs.YthiojkjcmhojoaaGreat
set_option maxHeartbeats 1000000
open Go.ChangeShapes Go.WideShapes Go.ChangeAt Go.RowKit
set_option maxRecDepth 100000
set_option linter.all false
def zov:Value:=.iface 9 (.string ⟨#[115,111,109,101,116,104,105,110,103,32,105,115,32,110,111,116,32,97,115,32,116,104,101,32,99,104,97,112,116,101,114,32,119,97,110,116,115,32,105,116]⟩)
abbrev zmb:Ending:=.panicked [{ v:=zov,recovered:=false }]
section
variable(w:World)
theorem zvt:Calls Tryz.prog 155 #[.bool true] w fun e w'=>e=.returned (.tuple #[])/\w'=w:=by go_enter Tryz.func155,Tryz.ntmps155;go_wp2;go_end0;exact⟨rfl,rfl⟩
theorem zxw:Calls Tryz.prog 155 #[.bool false] w fun e w'=>e=zmb/\w'=w:=by go_enter Tryz.func155,Tryz.ntmps155;go_wp2;exact⟨rfl,rfl,rfl⟩
theorem zf2:Calls Tryz.prog 155 #[.bool true] w fun e w'=>e=.returned (.tuple #[])/\w=w':=(zvt w).mono (fun e w' h=>⟨h.1,h.2.symm⟩)
theorem zf3:Calls Tryz.prog 155 #[.bool false] w fun e w'=>e=zmb/\w=w':=(zxw w).mono (fun e w' h=>⟨h.1,h.2.symm⟩)
end
theorem zqq(p:Addr)(x:Bool)(older:List PanicEntry)(w:World)(hc:w.cell? p=some (.bool x))(hz:w.frozen? p=false):
 CallsD Tryz.prog 154 #[.pointer (some p)] (.panicking ({ v:=zov,recovered:=false } :: older)) w fun e u' w' =>
  e=.returned (.tuple #[])/\u'=.panicking ({ v:=zov,recovered:=true } :: older)/\w'=w.setCell p (.bool false):=by
 refine callsD_of_wpS Tryz.func154 rfl fun c₀ cs hu=>?_;apply wpS_region;unfold zov at *;simp[wpOpsS,go_sem,recoverD,hu,Tryz.ntmps154,Exit.thenS];simp[wpOpsS,go_sem,hc,hz,bodyPostS,results,Tryz.results154]
theorem zvu(p:Addr)(x:Bool)(w:World)(hc:w.cell? p=some (.bool x))(hz:w.frozen? p=false):
 CallsD Tryz.prog 154 #[.pointer (some p)] .returning w fun e u' w'=>e=.returned (.tuple #[])/\u'=.returning/\w'=w.setCell p (.bool true):=by
 refine callsD_of_wpS Tryz.func154 rfl fun c₀ cs hu=>?_;apply wpS_region;simp[wpOpsS,go_sem,recoverD,hu,Tryz.ntmps154,Exit.thenS];simp[wpOpsS,go_sem,hc,hz,bodyPostS,results,Tryz.results154];cases c₀
 simp_all
section
variable{K:Nat}{caps:Array Value}(w:World)
theorem zsg(hent:∀args w,(callFunc K args).run Tryz.prog w=.ok (.enter K args) w){R:World->Prop}(hk:Calls Tryz.prog K caps (w.alloc (.cells #[.bool false] 4)) fun e w'=>e=.returned (.tuple #[])/\R w'/\w'.cell? ⟨w.heap.size,0,none⟩=some (.bool false)/\w'.frozen? ⟨w.heap.size,0,none⟩=false):
 Calls Tryz.prog 123 #[.func (.func K) #[] caps] w fun e w'=>e=.returned (.bool true)/\∃W,R W/\w'=(W.setCell ⟨w.heap.size,0,none⟩ (.bool true)).setCell ⟨w.heap.size,0,none⟩ (.bool true):=by
 have hmf:∀(fn:Fn) (first cap:Array Value) (w:World),(Instr.makeFunc fn first cap).run Tryz.prog w=.ok (.func fn first cap) w:=fun _ _ _ _=>rfl;go_enter_defers Tryz.func123,Tryz.ntmps123;go_wp2;refine hk.mono ?_;rintro e w2 ⟨rfl,hR,hc,hz⟩;have hc2:(w2.setCell ⟨w.heap.size,0,none⟩ (.bool true)).cell? ⟨w.heap.size,0,none⟩=some (.bool true):=World.cell?_setCell_same' _ _ _ (by rw[hc];rfl);have hz2:(w2.setCell ⟨w.heap.size,0,none⟩ (.bool true)).frozen? ⟨w.heap.size,0,none⟩=false:=by simpa using hz
 have hc3:((w2.setCell ⟨w.heap.size,0,none⟩ (.bool true)).setCell ⟨w.heap.size,0,none⟩ (.bool true)).cell? ⟨w.heap.size,0,none⟩=some (.bool true):=World.cell?_setCell_same' _ _ _ (by rw[hc2];rfl);go_wp2;refine leaves_cons (f:=154) (args:=#[.pointer (some ⟨w.heap.size,0,none⟩)]) (by simp) (by simp[go_sem]) ?_;refine (zvu ⟨w.heap.size,0,none⟩ true _ hc2 hz2).mono ?_;rintro e u' w'' ⟨rfl,rfl,rfl⟩;simp[Leaves,settle,results,Tryz.results123,go_sem,hc3];exact⟨w2,hR,rfl⟩
theorem zvv(hent:∀args w,(callFunc K args).run Tryz.prog w=.ok (.enter K args) w){R:World->Prop}(hk:Calls Tryz.prog K caps (w.alloc (.cells #[.bool false] 4)) fun e w'=>e=zmb/\R w'/\w'.cell? ⟨w.heap.size,0,none⟩=some (.bool false)/\w'.frozen? ⟨w.heap.size,0,none⟩=false):
 Calls Tryz.prog 123 #[.func (.func K) #[] caps] w fun e w'=>e=.returned (.bool false)/\∃W,R W/\w'=W.setCell ⟨w.heap.size,0,none⟩ (.bool false):=by
 have hmf:∀(fn:Fn) (first cap:Array Value) (w:World),(Instr.makeFunc fn first cap).run Tryz.prog w=.ok (.func fn first cap) w:=fun _ _ _ _=>rfl;go_enter_defers Tryz.func123,Tryz.ntmps123;go_wp2;refine hk.mono ?_;rintro e w2 ⟨rfl,hR,hc,hz⟩;have hc2:(w2.setCell ⟨w.heap.size,0,none⟩ (.bool false)).cell? ⟨w.heap.size,0,none⟩=some (.bool false):=World.cell?_setCell_same' _ _ _ (by rw[hc];rfl);go_wp2;refine leaves_cons (f:=154) (args:=#[.pointer (some ⟨w.heap.size,0,none⟩)]) (by simp) (by simp[go_sem]) ?_;refine (zqq ⟨w.heap.size,0,none⟩ false [] _ hc hz).mono ?_;rintro e u' w'' ⟨rfl,rfl,rfl⟩;simp[Leaves,settle,results,Tryz.results123,go_sem,hc2];exact⟨w2,hR,rfl⟩
end
end Go.Proofs.YthiojkjcmhojoaaGreat
