import Derived.Test.YthiojkjcmhojoaaGreatGtAZ
import Derived.Test.YthiojkjcmhojoaaGreatGtAQ
import Derived.Test.YthiojkjcmhojoaaGreatGtBG
namespace Go.Proofs.YthiojkjcmhojoaaGreat
open Go.ChangeShapes Go.WideShapes Go.ChangeAt Go.RowKit
set_option maxRecDepth 100000
set_option linter.all false
def Kn.cc(c:Kn)(d:C10):Kn:={ c with k:=d.k,wn:=d.wn,th:=d.th,fl:=d.fl,ac:=d.ac,la:=d.la,og:=d.og,st:=d.st,fr:=d.fr,sl:=d.sl }
noncomputable def znj(k wn th fl ac la og st fr:Int)(sl:Bool)(n now:Int):C10:=if k=2 then zgu k wn th fl ac la og st fr sl n now else zg7 k wn th fl ac la og st fr sl n
noncomputable def zfl(k wn th fl ac la og st fr:Int)(sl:Bool)(n:Int):C10:=if k=2 then zdt k wn th (fl-n) ac la og st fr sl else zdn k wn th (fl-n) ac la og st fr sl
noncomputable def zeu(c:Kn)(n now:Int)(lost:Bool):C10:=if lost=true then zfl c.k c.wn c.th c.fl c.ac c.la c.og c.st c.fr c.sl n else znj c.k c.wn c.th c.fl c.ac c.la c.og c.st c.fr c.sl n now
def zpq(L:List F8)(p:Nat)(n:Int)(lost:Bool):F8:=match L[p]? with
 | some f=>(zcu f.1 n lost,max 0 (f.2.1-n),f.2.2)| none=>(0,0,[])
theorem zdu{L:List F8}{p:Nat}(h:p<L.length)(n:Int)(lost:Bool):zpq L p n lost=(zcu L[p].1 n lost,max 0 (L[p].2.1-n),L[p].2.2):=by unfold zpq;rw[List.getElem?_eq_getElem h]
section
variable{now nx:Int}{T O P:List Q4}{L:List F8}{K:List Kn}
theorem zrm(h:EgOk now nx T O P L K){i:Nat}(hi:i<K.length){n:Int}(hn:inQ 1 n K[i].fl=true):inQ 1 n 1000000000=true/\(1<=n/\n<=K[i].fl)/\(0<=K[i].fl/\K[i].fl<=1000000000):=by have q:=(zbq (z2n h hi).1).2.2.2.1;unfold inQ at hn ⊢;simp only[bae,decide_eq_true_eq]at hn ⊢;omega
theorem zju(h:EgOk now nx T O P L K){i:Nat}(hi:i<K.length):K[i].k=1\/K[i].k=2:=by have q:=(zbq (z2n h hi).1).1;have r:=(z2n h hi).2;omega
end
theorem zrn{K:List Kn}{i:Nat}(hi:i<K.length)(c:Kn)(hj:i<(K.set i c).length):(K.set i c)[i]=c:=by simp
end Go.Proofs.YthiojkjcmhojoaaGreat
