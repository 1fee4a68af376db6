import Derived.Test.YthiojkjcmhojoaaGreatRows
import Derived.Below
import Derived.Laws.BitsLemmas
namespace Go.Proofs.YthiojkjcmhojoaaGreat
open Go.RowKit
theorem i64w{a b:Int}(h:-9223372036854775808≤b∧b<9223372036854775808∧a=b:=by omega):IntKind.i64.wrap a=b:=by rw [IntKind.wrap_i64];omega
theorem bct{n:Nat}{w v:World}{b o:Nat}{x:Option Value}(h:Below n w v)(k:b<n)(p:w.cell? ⟨b,o,none⟩=x):v.cell? ⟨b,o,none⟩=x:=(h.cell (by exact k)).trans p
theorem nlt{a b c:Nat}:a<b→b≤c→a<c:=Nat.lt_of_lt_of_le
theorem nrf(n:Nat):n≤n:=Nat.le_refl n
theorem ntr{a b c:Nat}:a≤b→b≤c→a≤c:=Nat.le_trans
theorem osi{α:Type}{a b:α}:some a=some b→a=b:=Option.some.inj
theorem bae(a b:Bool):((a&&b)=true)=(a=true∧b=true):=Bool.and_eq_true a b
theorem brf(n:Nat)(w:World):Below n w w:=Below.refl n w
abbrev Bw(w v:World):Prop:=Below w.heap.size w v
theorem same1{P:Program}{f:FuncId}{a:Array Value}{w v:World}{r:Ending}{R:Ending→World→Prop}(h:Calls P f a w fun e w'=>e=r∧w'=v)(q:R r v):Calls P f a w R:=h.mono fun e w' k=>by cases k.1;cases k.2;exact q
end Go.Proofs.YthiojkjcmhojoaaGreat
