import Derived.Test.YthiojkjcmhojoaaGreatGtAH
import Derived.Deep.DeepCutAuto
namespace Go.Proofs.YthiojkjcmhojoaaGreat
open Go.ChangeShapes Go.WideShapes Go.ChangeAt Go.RowKit
set_option maxRecDepth 100000
set_option linter.all false
theorem zeo:(Tryz.prog.info? 2).map (fun i=>(i.zero,i.size,i.bytes))=some (some (.int .i64 0),1,8):=by kernel_rfl
theorem zhz{w:World}{g:Nat}{a b c:Value}(h0:w.cell? ⟨g,0,none⟩=some a:=by go_simp)(h1:w.cell? ⟨g,1,none⟩=some b:=by go_simp)(h2:w.cell? ⟨g,2,none⟩=some c:=by go_simp):∀j v,[a,b,c][j]?=some v->w.cell? ⟨g,j,none⟩=some v:=by
 intro j v hv;match j,hv with
 | 0,hv=>obtain rfl:a=v:=by simpa using hv
         exact h0
 | 1,hv=>obtain rfl:b=v:=by simpa using hv
         exact h1
 | 2,hv=>obtain rfl:c=v:=by simpa using hv
         exact h2
theorem zxe{w:World}{g:Nat}(a b c:Value){z0 z1 z2:Value}(h0:w.cell? ⟨g,0,none⟩=some z0)(h1:w.cell? ⟨g,1,none⟩=some z1)(h2:w.cell? ⟨g,2,none⟩=some z2):
 ∀j v,[a,b,c][j]?=some v->(((w.setCell ⟨g,0,none⟩ a).setCell ⟨g,1,none⟩ b).setCell ⟨g,2,none⟩ c).cell? ⟨g,j,none⟩=some v:=by
 have h:=zqa (o:=0) a b c h0 h1 h2;exact zhz h.1 h.2.1 h.2.2
def mk1(K:Int)(n:Nat):Kn:=⟨K,K+1,K+1+1,K+1+1+1,K+1+1+1+1,K+1+1+1+1+1,K+1+1+1+1+1+1,K+1+1+1+1+1+1+1,K+1+1+1+1+1+1+1+1,K+1+1+1+1+1+1+1+1+1,K+1+1+1+1+1+1+1+1+1+1,K+1+1+1+1+1+1+1+1+1+1+1,(K+1+1+1+1+1+1+1+1+1+1+1+1)%3 == 0,marksI (K+13) n⟩
end Go.Proofs.YthiojkjcmhojoaaGreat
