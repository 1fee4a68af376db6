import Derived.Test.YthiojkjcmhojoaaGreatGoAY
import Derived.Test.YthiojkjcmhojoaaGreatGoAP
import Derived.Test.YthiojkjcmhojoaaGreatGoBD
namespace Go.Proofs.YthiojkjcmhojoaaGreat
open Go.ChangeShapes Go.WideShapes Go.ChangeAt Go.RowKit
set_option maxRecDepth 100000
set_option linter.all false
def Kn.cc(c:Kn)(d:C10):Kn:={ c with k:=d.k,wn:=d.wn,th:=d.th,fl:=d.fl,ac:=d.ac,la:=d.la,og:=d.og,st:=d.st,fr:=d.fr,sl:=d.sl }
noncomputable def ackD(k wn th fl ac la og st fr:Int)(sl:Bool)(n now:Int):C10:=if k=2 then znc k wn th fl ac la og st fr sl n now else znk k wn th fl ac la og st fr sl n
noncomputable def zwq(k wn th fl ac la og st fr:Int)(sl:Bool)(n:Int):C10:=if k=2 then zh6 k wn th (fl-n) ac la og st fr sl else zh4 k wn th (fl-n) ac la og st fr sl
noncomputable def zh7(c:Kn)(n now:Int)(lost:Bool):C10:=if lost=true then zwq c.k c.wn c.th c.fl c.ac c.la c.og c.st c.fr c.sl n else ackD c.k c.wn c.th c.fl c.ac c.la c.og c.st c.fr c.sl n now
def z3j(L:List F8)(p:Nat)(n:Int)(lost:Bool):F8:=match L[p]? with
 | some f=>(zdy f.1 n lost,max 0 (f.2.1-n),f.2.2)| none=>(0,0,[])
theorem ziw{L:List F8}{p:Nat}(h:p<L.length)(n:Int)(lost:Bool):z3j L p n lost=(zdy L[p].1 n lost,max 0 (L[p].2.1-n),L[p].2.2):=by unfold z3j;rw[List.getElem?_eq_getElem h]
section
variable{now nx:Int}{T O P:List Q4}{L:List F8}{K:List Kn}
theorem zzd(h:EgOk now nx T O P L K){i:Nat}(hi:i<K.length){n:Int}(hn:inQ 1 n K[i].fl=true):inQ 1 n 1000000000=true/\(1<=n/\n<=K[i].fl)/\(0<=K[i].fl/\K[i].fl<=1000000000):=by have q:=(zcz (zwm h hi).1).2.2.2.1;unfold inQ at hn ⊢;simp only[bae,decide_eq_true_eq]at hn ⊢;omega
theorem zti(h:EgOk now nx T O P L K){i:Nat}(hi:i<K.length):K[i].k=1\/K[i].k=2:=by have q:=(zcz (zwm h hi).1).1;have r:=(zwm h hi).2;omega
end
theorem zrp{K:List Kn}{i:Nat}(hi:i<K.length)(c:Kn)(hj:i<(K.set i c).length):(K.set i c)[i]=c:=by simp
end Go.Proofs.YthiojkjcmhojoaaGreat
