import Derived.Test.YthiojkjcmhojoaaGreatGtAL
import Derived.Test.YthiojkjcmhojoaaGreatGtAX
namespace Go.Proofs.YthiojkjcmhojoaaGreat
set_option maxHeartbeats 2000000
open Go.ChangeShapes Go.WideShapes Go.ChangeAt Go.RowKit
set_option maxRecDepth 100000
set_option linter.all false
def zqr(r u l t rr uu aa:Int):Bool:=((zj0 r u l t && decide (r=rr)) && decide (u=uu)) && decide (t=aa)
theorem zmc{r u l t:Int}{f:Bool}(h:zj0 r u l t=f)(w:World):Calls Tryz.prog 183 #[.agg #[.int .i64 r,.int .i64 u,.int .i64 l,.int .i64 t]] w fun e w'=>e=.returned (.bool f)/\Bw w w':=by subst h;exact zkm r u l t w
theorem zzt(r u l t rr uu aa:Int)(w:World):
 Calls Tryz.prog 157 #[.agg #[.int .i64 r,.int .i64 u,.int .i64 l,.int .i64 t],.int .i64 rr,.int .i64 uu,.int .i64 aa] w fun e w'=>e=.returned (.bool (zqr r u l t rr uu aa))/\Bw w w':=by
 unfold zqr;have nb:Bw w (w.alloc (.cells #[.int .i64 r,.int .i64 u,.int .i64 l,.int .i64 t] 154)):=zad _ _;have C0:Hid (Cells (w.alloc (.cells #[.int .i64 r,.int .i64 u,.int .i64 l,.int .i64 t] 154)) [(w.heap.size,0,.int .i64 r),(w.heap.size,1,.int .i64 u),(w.heap.size,3,.int .i64 t)]):=⟨⟨by simp,by go_simp⟩,⟨by simp,by go_simp⟩,⟨by simp,by go_simp⟩,trivial⟩;cases h0:zj0 r u l t
 ·go_enter Tryz.func157,Tryz.ntmps157;go_wp2_with (first|(go_at_call 183;refine (zmc h0 _).mono ?_;rintro e w2 ⟨rfl,hb2⟩;have ⟨⟨z0,k0⟩,⟨z1,k1⟩,⟨z2,k2⟩,_⟩:=Cells.next hb2 C0.out));go_ret;exact⟨rfl,nb.trans (hb2.mono (by simp))⟩
 by_cases h1:r=rr;rotate_left
 ·have h1':(r == rr)=false:=(by simp[h1]);rw[decide_eq_false h1];go_enter Tryz.func157,Tryz.ntmps157;go_wp2_with (first|(go_at_call 183;refine (zmc h0 _).mono ?_;rintro e w2 ⟨rfl,hb2⟩;have ⟨⟨z0,k0⟩,⟨z1,k1⟩,⟨z2,k2⟩,_⟩:=Cells.next hb2 C0.out));go_ret;exact⟨rfl,nb.trans (hb2.mono (by simp))⟩
 subst h1;by_cases h2:u=uu;rotate_left
 ·have h2':(u == uu)=false:=(by simp[h2]);rw[decide_eq_false h2,decide_eq_true rfl];go_enter Tryz.func157,Tryz.ntmps157;go_wp2_with (first|(go_at_call 183;refine (zmc h0 _).mono ?_;rintro e w2 ⟨rfl,hb2⟩;have ⟨⟨z0,k0⟩,⟨z1,k1⟩,⟨z2,k2⟩,_⟩:=Cells.next hb2 C0.out));go_ret;exact⟨rfl,nb.trans (hb2.mono (by simp))⟩
 subst h2;rw[decide_eq_true (rfl:r=r),decide_eq_true (rfl:u=u)];by_cases h3:t=aa
 ·subst h3;rw[decide_eq_true rfl];go_enter Tryz.func157,Tryz.ntmps157;go_wp2_with (first|(go_at_call 183;refine (zmc h0 _).mono ?_;rintro e w2 ⟨rfl,hb2⟩;have ⟨⟨z0,k0⟩,⟨z1,k1⟩,⟨z2,k2⟩,_⟩:=Cells.next hb2 C0.out));go_ret;exact⟨rfl,nb.trans (hb2.mono (by simp))⟩
 ·have h3':(t == aa)=false:=(by simp[h3]);rw[decide_eq_false h3];go_enter Tryz.func157,Tryz.ntmps157;go_wp2_with (first|(go_at_call 183;refine (zmc h0 _).mono ?_;rintro e w2 ⟨rfl,hb2⟩;have ⟨⟨z0,k0⟩,⟨z1,k1⟩,⟨z2,k2⟩,_⟩:=Cells.next hb2 C0.out));go_ret;exact⟨rfl,nb.trans (hb2.mono (by simp))⟩
theorem zmd{r u l t rr uu aa:Int}{f:Bool}(h:zqr r u l t rr uu aa=f)(w:World):
 Calls Tryz.prog 157 #[.agg #[.int .i64 r,.int .i64 u,.int .i64 l,.int .i64 t],.int .i64 rr,.int .i64 uu,.int .i64 aa] w fun e w'=>e=.returned (.bool f)/\Bw w w':=by subst h;exact zzt r u l t rr uu aa w
end Go.Proofs.YthiojkjcmhojoaaGreat
