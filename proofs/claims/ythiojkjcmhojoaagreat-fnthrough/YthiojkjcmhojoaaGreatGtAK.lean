import Derived.Test.YthiojkjcmhojoaaGreatGtAF
import Derived.Test.YthiojkjcmhojoaaGreatGtAH
import Derived.Shelf.Abstract
import Derived.Deep.DeepCutAuto
namespace Go.Proofs.YthiojkjcmhojoaaGreat
set_option maxHeartbeats 2000000
open Go.ChangeShapes Go.WideShapes Go.ChangeAt Go.RowKit
set_option maxRecDepth 100000
set_option linter.all false
theorem retU{f g:Bool}(h:f=g):Ending.returned (.bool f)=.returned (.bool g):=by rw[h]
theorem iI_is{lo x hi:Int}{f:Bool}(h:inB lo x hi=f)(w:World):Calls Tryz.prog 62 #[.int .i64 x,.int .i64 lo,.int .i64 hi] w fun e w'=>e=.returned (.bool f)/\w'=w:=by subst h;exact zbr lo x hi w
theorem zmj{x:Int}{f:Bool}(h:sg x=f)(w:World):Calls Tryz.prog 70 #[.int .i64 x] w fun e w'=>e=.returned (.bool f)/\w'=w:=by go_enter Tryz.func70,Tryz.ntmps70;go_wp2_with (first|(go_at_call 62;refine same1 (iI_is h _) ?_));go_ret;exact⟨rfl,rfl⟩
theorem zuv{x:Int}{f:Bool}(h:sg x=f)(w:World):Calls Tryz.prog 159 #[.int .i64 x] w fun e w'=>e=.returned (.bool (!f))/\w'=w:=by go_enter Tryz.func159,Tryz.ntmps159;go_wp2_with (first|(go_at_call 70;refine same1 (zmj h _) ?_));go_ret;exact⟨rfl,rfl⟩
def IxPost(xs:List Int)(w:World)(e:Ending)(w':World):Prop:=∃z:Int,e=.returned (.int .i64 z)/\decide (0<=z) = !zlz xs/\Bw w w'
section
variable{w:World}{a:Option Addr}(cap:Nat){xs:List Int}
theorem zst(h:Iw w a xs)(hm:xs.length<=4611686018427387904):
 Calls Tryz.prog 184 #[.slice a xs.length cap,.func (.func 159) #[] #[]] w (IxPost xs w):=by
 have eg:∀args w,(callFunc 159 args).run Tryz.prog w=.ok (.enter 159 args) w:=enters_of Tryz.func159 (by kernel_rfl) rfl;have hmi:(xs.length:Int)<=4611686018427387904:=by omega
 go_enter Tryz.func184,Tryz.ntmps184;go_wp2;go_loop [8] (fun s=>∃k:Nat,s=.int .i64 k/\k<=xs.length/\Hid (∀j (hj:j<xs.length),j<k->sg xs[j]=true)) (fun s=>xs.length-(intOf s).toNat);case atStart=>exact⟨0,rfl,by omega,(fun m h k=>by omega)⟩
 case round =>
  obtain⟨k,rfl,hk,HA⟩:=hrel;by_cases hlt:k<xs.length
  ·have hlt':(k:Int)<(xs.length:Int):=(by omega);obtain⟨b,off,rfl,hb,c0⟩:=h k hlt;obtain⟨x,hx⟩:∃x,xs[k]=x:=⟨_,rfl⟩;rw[hx]at c0;have HX:Hid (xs[k]=x):=hx;clear hx;cases hs:sg x
   ·have HB:Hid (zlz xs=false):=sg_bad hlt (by rw[HX.out];exact hs);have hd:=zuv hs w;go_wp2_with (first|(go_at_call 159;refine hd.mono ?_;rintro e w3 ⟨rfl,rfl⟩));go_ret;exact⟨k,rfl,by rw[HB.out];exact decide_eq_true (by omega),brf _ _⟩
   ·have hd:=zuv hs w;go_wp2_with (first|(go_at_call 159;refine hd.mono ?_;rintro e w3 ⟨rfl,rfl⟩));go_round;case rel =>
     refine⟨k+1,by go_num,by omega,fun m hm hk=>?_⟩;by_cases e:m=k
     ·subst e;rw[HX.out];exact hs
     ·exact HA.out m hm (by omega)
    case measure=>simp[intOf]<;>omega
  ·have e:k=xs.length:=(by omega);subst e;have HB:Hid (zlz xs=true):=sg_all (fun j hj=>HA.out j hj hj);go_wp2;go_ret;exact⟨-1,rfl,by rw[HB.out];rfl,brf _ _⟩
theorem zsu(h:Iw w a xs)(hm:xs.length<=4611686018427387904):
 Calls Tryz.prog 158 #[.slice a xs.length cap,.func (.func 159) #[] #[]] w fun e w'=>e=.returned (.bool (!zlz xs))/\Bw w w':=by
 go_enter Tryz.func158,Tryz.ntmps158;go_wp2_with (first|(go_at_call 184;refine (zst cap h hm).mono ?_;rintro e w2 ⟨z,rfl,hzz,hb2⟩;have HZ:Hid (decide (0<=z) = !zlz xs):=hzz;clear hzz));go_ret;exact⟨retU HZ.out,hb2⟩
theorem zq2(h:Iw w a xs)(hm:xs.length<=4611686018427387904):
 Calls Tryz.prog 128 #[.slice a xs.length cap] w fun e w'=>e=.returned (.bool (zlz xs))/\Bw w w':=by
 go_enter Tryz.func128,Tryz.ntmps128;go_wp2_with (first|(go_at_call 158;refine (zsu cap h hm).mono ?_;rintro e w2 ⟨rfl,hb2⟩));go_ret;exact⟨retU (by simp),hb2⟩
end
end Go.Proofs.YthiojkjcmhojoaaGreat
