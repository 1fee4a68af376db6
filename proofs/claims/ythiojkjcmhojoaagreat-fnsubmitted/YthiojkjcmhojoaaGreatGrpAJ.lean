import Derived.Test.YthiojkjcmhojoaaGreatGrpAF
import Derived.Deep.RegionHeld3
import Derived.Deep.CutBlock
namespace Go.Proofs.YthiojkjcmhojoaaGreat
set_option maxHeartbeats 400000
open Go.ChangeShapes Go.WideShapes Go.ChangeAt Go.RowKit
set_option maxRecDepth 100000
set_option linter.unusedVariables false
theorem zrp (X:Nat) (h:X<6):∃y:Int,(#[Value.int IntKind.i64 0,Value.int IntKind.i64 1,Value.int IntKind.i64 1500,Value.int IntKind.i64 1501,Value.int IntKind.i64 (-1),Value.int IntKind.i64 4611686018427387904]:Array Value)[X]?=some (.int .i64 y):=by
 match X,h with
 | 0,_=>exact ⟨_,rfl⟩
 | 1,_=>exact ⟨_,rfl⟩
 | 2,_=>exact ⟨_,rfl⟩
 | 3,_=>exact ⟨_,rfl⟩
 | 4,_=>exact ⟨_,rfl⟩
 | 5,_=>exact ⟨_,rfl⟩
theorem znk {B:Nat} {a0:Option Addr} {len cap b:Nat} {w0 w:World} (c:Cur B a0 len cap b w) (o:Only b w0 w) :
 Calls Tryz.prog 69 #[.pointer (some ⟨b,0,none⟩)] w fun e w'=>∃x:Int,e=.returned (.int .i64 x)∧Cur B a0 len cap b w'∧Only b w0 w':=by
 go_enter Tryz.func69,Tryz.ntmps69
 go_wp2_with (first
  | (go_at_call 36;refine (zho _ (by assumption) (by assumption) (by omega) (by omega)).mono ?_;rintro e w2 ⟨f,rfl,c,o⟩;cases f)
  | (go_at_call_of 35 (Value.int IntKind.i64 1500);refine (zar _ (by assumption) (by assumption) (by omega) (by omega)).mono ?_;rintro e w2 ⟨x,rfl,hx,c,o⟩)
  | (go_at_call_of 35 (Value.int IntKind.i64 6);refine (zar 6 (Cur.alloc (by assumption) _) (Only.refl _ _) (by omega) (by omega)).mono ?_;rintro e w3 ⟨x,rfl,hx,c3,o3⟩;obtain ⟨X,rfl⟩:=Int.eq_ofNat_of_zero_le hx.1;obtain ⟨y,hy⟩:=zrp X (by omega);have hcell:=(zl1 (Cur.hi (by assumption)) o3 X).trans hy;clear hy))
 all_goals go_ret
 all_goals first|exact ⟨_,rfl,c3,(o.alloc _).trans o3⟩|exact ⟨_,rfl,c,o⟩
end Go.Proofs.YthiojkjcmhojoaaGreat
