import Derived.Test.YthiojkjcmhojoaaGreatGtAY
import Derived.Laws.CopyOwn
namespace Go.Proofs.YthiojkjcmhojoaaGreat
open Go.ChangeShapes Go.WideShapes Go.ChangeAt Go.RowKit
set_option maxRecDepth 100000
set_option linter.all false
theorem z05{xs:List Int}(h:MemTo xs xs.length):∀(d i:Nat) (hi:i+d+1<xs.length),xs[i]<xs[i+d+1]
 | 0,i,hi=>(h (i+1) hi hi).2 i (by omega) rfl| d+1,i,hi=>by have h1:=z05 h d i (by omega);have h2:=(h (i+d+1+1) (by omega) (by omega)).2 (i+d+1) (by omega) rfl;exact Int.lt_trans h1 h2
theorem zz1{xs:List Int}(h:MemTo xs xs.length){i j:Nat}(hij:i<j)(hj:j<xs.length):xs[i]<xs[j]:=by have:=z05 h (j-i-1) i (by omega);rw[show xs[i+(j-i-1)+1]'(by omega)=xs[j] by congr 1;omega]at this;exact this
end Go.Proofs.YthiojkjcmhojoaaGreat
