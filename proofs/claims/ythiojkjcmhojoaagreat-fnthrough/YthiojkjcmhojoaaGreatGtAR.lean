import Derived.Test.YthiojkjcmhojoaaGreatGtAO
import Derived.Deep.RegionHeld3
namespace Go.Proofs.YthiojkjcmhojoaaGreat
set_option maxHeartbeats 1000000
open Go.ChangeShapes Go.WideShapes Go.ChangeAt Go.RowKit
set_option maxRecDepth 100000
set_option linter.all false
theorem zhb:(Tryz.prog.info? 110).map (fun i=>(i.zero,i.size,i.bytes))=some (some (.agg #[.int .i64 0,.int .i64 0,.int .i64 0,.int .i64 0]),4,32):=by kernel_rfl
theorem zhx:(Tryz.prog.info? 53).map (fun i=>(i.zero,i.size,i.bytes))=some (some (.agg #[.int .i64 0,.int .i64 0,.int .i64 0,.int .i64 0]),4,32):=by kernel_rfl
def zdg(ts:List Q4)(i:Int):Bool:=ts.all fun t=>!decide (t.1=i)
theorem zw7{ts:List Q4}{i:Int}{k:Nat}(hk:k<ts.length)(h:ts[k].1=i):zdg ts i=false:=by unfold zdg;rw[List.all_eq_false];exact⟨ts[k],List.getElem_mem hk,by simp[h]⟩
theorem zt0{ts:List Q4}{i:Int}(h:∀k (hk:k<ts.length),ts[k].1≠i):zdg ts i=true:=by unfold zdg;rw[List.all_eq_true];intro t ht;obtain⟨k,hk,rfl⟩:=List.mem_iff_getElem.1 ht;simp[h k hk]
theorem zgx{w:World}{a:Option Addr}(cap:Nat){ts:List Q4}(i:Int)(h:Qw w a ts)(hl:ts.length<=1048576):
 Calls Tryz.prog 50 #[.slice a ts.length cap,.int .i64 i] w fun e w'=>e=.returned (.bool (zdg ts i))/\w'=w:=by
 have hl':(ts.length:Int)<=1048576:=by omega
 go_enter Tryz.func50,Tryz.ntmps50;go_wp2;go_loop [5] (fun s=>∃k:Nat,s=.int .i64 k/\k<=ts.length/\Hid (∀m (h:m<ts.length),m<k->ts[m].1≠i)) (fun s=>ts.length-(intOf s).toNat);case atStart=>exact⟨0,rfl,by omega,fun m h k=>by omega⟩
 case round =>
  obtain⟨k,rfl,hk,HA⟩:=hrel;by_cases hlt:k<ts.length
  ·obtain⟨b,off,rfl,hb,c0,c1,c2,c3⟩:=h.at (brf _ _) k hlt;have hlt':(k:Int)<(ts.length:Int):=(by omega);by_cases hp:ts[k].1=i
   ·have HP:Hid (zdg ts i=false):=zw7 hlt hp;rw[hp]at c0;clear hp;go_wp2;go_ret;exact⟨zlo HP.out.symm,rfl⟩
   ·obtain⟨p,hx⟩:∃p,ts[k].1=p:=⟨_,rfl⟩;have HX:Hid (ts[k].1=p):=hx;rw[hx]at c0 hp;clear hx;have hp':(p == i)=false:=(by simp[hp]);go_wp2;go_round;case rel =>
     refine⟨k+1,by go_num,by omega,fun m hm hk=>?_⟩;by_cases e:m=k
     ·subst e;rw[HX.out];exact hp
     ·exact HA.out m hm (by omega)
    case measure=>simp[intOf]<;>omega
  ·have e:k=ts.length:=(by omega);subst e;go_wp2;go_ret;exact⟨zlo (zt0 (fun m hm=>HA.out m hm hm)).symm,rfl⟩
end Go.Proofs.YthiojkjcmhojoaaGreat
