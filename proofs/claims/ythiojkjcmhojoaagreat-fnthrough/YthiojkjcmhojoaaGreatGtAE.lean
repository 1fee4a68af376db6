import Derived.Test.YthiojkjcmhojoaaGreatRows
import Derived.Conc.MuLone
import Derived.WalkKit
import Derived.ProofKit
namespace Go.Proofs.YthiojkjcmhojoaaGreat
open Go.RowKit
set_option maxRecDepth 100000
set_option linter.all false
abbrev muLink:Go.Conc.Locks.MuLink:={ lock:=229,unlock:=230,ilock:=232,iunlock:=233,lockSlow:=238,unlockSlow:=241,disable:=234,enable:=236,acquire:=237,relMerge:=239,cas32:=235,add32:=240,tMutex:=204,tIMutex:=202,tPMutex:=228,tPIMutex:=229,tPI32:=231,tUP:=233,tNoCopy:=199,tU32:=200 }
theorem z0f:Go.Conc.Locks.MuLib Tryz.prog muLink :=
 ⟨Tryz.func229,Tryz.func230,Tryz.func232,Tryz.func233,Tryz.func234,Tryz.func236,Tryz.func237,Tryz.func239,Tryz.func235,Tryz.func240,Tryz.underlying202,Tryz.runUnderlying202,Tryz.sizeOf202,Tryz.isAgg202,Tryz.zeroValue202,Tryz.underlying204,Tryz.runUnderlying204,Tryz.sizeOf204,Tryz.isAgg204,Tryz.zeroValue204,Tryz.underlying228,Tryz.runUnderlying228,Tryz.sizeOf228,Tryz.isAgg228,Tryz.zeroValue228,Tryz.underlying229,Tryz.runUnderlying229,Tryz.sizeOf229,Tryz.isAgg229,Tryz.zeroValue229,Tryz.underlying231,Tryz.runUnderlying231,Tryz.sizeOf231,Tryz.isAgg231,Tryz.zeroValue231,Tryz.underlying233,Tryz.runUnderlying233,Tryz.sizeOf233,Tryz.isAgg233,Tryz.zeroValue233,Tryz.underlying199,Tryz.runUnderlying199,Tryz.sizeOf199,Tryz.isAgg199,Tryz.zeroValue199,Tryz.underlying21,Tryz.runUnderlying21,Tryz.sizeOf21,Tryz.isAgg21,Tryz.zeroValue21,by kernel_rfl⟩
end Go.Proofs.YthiojkjcmhojoaaGreat
