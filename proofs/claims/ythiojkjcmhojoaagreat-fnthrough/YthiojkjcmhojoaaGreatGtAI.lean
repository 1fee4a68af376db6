import Derived.Test.YthiojkjcmhojoaaGreatGtAH
import Derived.Deep.Strs
namespace Go.Proofs.YthiojkjcmhojoaaGreat
open Go.ChangeShapes Go.WideShapes Go.ChangeAt Go.RowKit
set_option maxRecDepth 100000
set_option linter.all false
theorem zl5{α:Type}{P:Nat->α->Prop}:∀{n:Nat},(∀i,i<n->∃x,P i x)->∃xs:List α,xs.length=n/\∀i (h:i<xs.length),P i xs[i]
 | 0,_=>⟨[],rfl,fun i h=>by cases h⟩
 | n+1,h=>by
  obtain⟨xs,hl,hx⟩:=zl5 (n:=n) (fun i hi=>h i (by omega));obtain⟨x,hp⟩:=h n (by omega);refine⟨xs ++ [x],by simp[hl],fun i hi=>?_⟩;by_cases e:i<xs.length
  ·rw[List.getElem_append_left e];exact hx i e
  ·have e2:i=xs.length:=(by simp at hi;omega);subst e2;rw[List.getElem_append_right (by omega)];simp only[Nat.sub_self,List.getElem_cons_zero];rw[hl];exact hp
section
variable {H:Type} {enc:TypeId × Value->H} {P:Program} {w:World} {sp:Nat->Bool} {held:Bool}
end
end Go.Proofs.YthiojkjcmhojoaaGreat
