import Derived.Test.YthiojkjcmhojoaaGreatGtAO
import Derived.Deep.LoopGhost
namespace Go.Proofs.YthiojkjcmhojoaaGreat
set_option maxHeartbeats 4000000
open Go.ChangeShapes Go.WideShapes Go.ChangeAt Go.RowKit
set_option maxRecDepth 100000
set_option linter.all false
def ze8(x:Int):Bool:=decide (1<=x) && decide (x<=1000000000)
theorem zco{x:Int}(h:ze8 x=true):1<=x/\x<=1000000000:=by unfold ze8 at h;simp only[bae,decide_eq_true_eq]at h;exact h
theorem zkp{x:Int}{f:Bool}(h:ze8 x=f)(w:World):Calls Tryz.prog 48 #[.int .i64 x,.int .i64 1,.int .i64 1000000000] w fun e w'=>e=.returned (.bool f)/\w'=w:=by subst h;exact zey 1 x 1000000000 w
theorem zmo{x:Int}{f:Bool}(h:ze8 x=f)(w:World):Calls Tryz.prog 62 #[.int .i64 x,.int .i64 1,.int .i64 1000000000] w fun e w'=>e=.returned (.bool f)/\w'=w:=by subst h;exact zbr 1 x 1000000000 w
section
variable{k wn th fl ac la og st fr n:Int}(sl:Bool)(w:World)
theorem zmp(h1:ccB k wn th fl ac la og st fr=false):Calls Tryz.prog 75 #[.agg #[.int .i64 k,.int .i64 wn,.int .i64 th,.int .i64 fl,.int .i64 ac,.int .i64 la,.int .i64 og,.int .i64 st,.int .i64 fr,.bool sl],.int .i64 n] w fun e w'=>e=.returned (.agg #[.int .i64 0,.int .i64 0,.int .i64 0,.int .i64 0,.int .i64 0,.int .i64 0,.int .i64 0,.int .i64 0,.int .i64 0,.bool false])/\Bw w w':=by go_enter Tryz.func75,Tryz.ntmps75;go_wp2_with (first| (go_at_call 135;refine same1 (zaz h1 _ _) ?_));refine bodyPost_ret (zaf rfl _ _ _ [.int .i64 0,.int .i64 0,.int .i64 0,.int .i64 0,.int .i64 0,.int .i64 0,.int .i64 0,.int .i64 0,.int .i64 0,.bool false] rfl zao Tryz.underlying44 rfl (by kernel_rfl)) rfl ?_;exact⟨rfl,by go_grown⟩
theorem zmq(h1:ccB k wn th fl ac la og st fr=true)(h2:ze8 n=false):Calls Tryz.prog 75 #[.agg #[.int .i64 k,.int .i64 wn,.int .i64 th,.int .i64 fl,.int .i64 ac,.int .i64 la,.int .i64 og,.int .i64 st,.int .i64 fr,.bool sl],.int .i64 n] w fun e w'=>e=.returned (.agg #[.int .i64 0,.int .i64 0,.int .i64 0,.int .i64 0,.int .i64 0,.int .i64 0,.int .i64 0,.int .i64 0,.int .i64 0,.bool false])/\Bw w w':=by go_enter Tryz.func75,Tryz.ntmps75;go_wp2_with (first| (go_at_call 135;refine same1 (zaz h1 _ _) ?_)| (go_at_call 48;refine same1 (zkp h2 _) ?_));refine bodyPost_ret (zaf rfl _ _ _ [.int .i64 0,.int .i64 0,.int .i64 0,.int .i64 0,.int .i64 0,.int .i64 0,.int .i64 0,.int .i64 0,.int .i64 0,.bool false] rfl zao Tryz.underlying44 rfl (by kernel_rfl)) rfl ?_;exact⟨rfl,by go_grown⟩
theorem zkq(h1:ccB k wn th fl ac la og st fr=true)(h2:ze8 n=true)(h3:wn<th)(h4:wn+n<th):Calls Tryz.prog 75 #[.agg #[.int .i64 k,.int .i64 wn,.int .i64 th,.int .i64 fl,.int .i64 ac,.int .i64 la,.int .i64 og,.int .i64 st,.int .i64 fr,.bool sl],.int .i64 n] w fun e w'=>e=.returned (.agg #[.int .i64 k,.int .i64 (wn+n),.int .i64 th,.int .i64 (max 0 (fl-n)),.int .i64 ac,.int .i64 la,.int .i64 og,.int .i64 st,.int .i64 fr,.bool sl])/\Bw w w':=by
 obtain⟨_,⟨wn0,wn1⟩,⟨th0,th1⟩,⟨fl0,fl1⟩,⟨ac0,ac1⟩,_⟩:=zbq h1;obtain⟨n0,n1⟩:=zco h2;have r1:IntKind.i64.wrap (fl-n)=fl-n:=i64w
 have r2:IntKind.i64.wrap (ac+n)=ac+n:=i64w
 have r3:IntKind.i64.wrap (wn+n)=wn+n:=i64w
 have hm:∀w:World,Calls Tryz.prog 84 #[.int .i64 th,.int .i64 (wn+n)] w fun e w'=>e=.returned (.int .i64 (wn+n))/\w'=w:=fun w=>by have:=zbg th (wn+n) w;rwa[show min th (wn+n)=wn+n by omega]at this
 have h5:¬wn+n=th:=by omega
 go_enter Tryz.func75,Tryz.ntmps75;go_wp2_with (first| (go_at_call 135;refine same1 (zaz h1 _ _) ?_)| (go_at_call 48;refine same1 (zkp h2 _) ?_)| (go_at_call 83;refine same1 (zay _ _ _) ?_)| (go_at_call 84;refine same1 (hm _) ?_)| go_in);refine bodyPost_ret (zaf rfl _ _ _ [.int .i64 k,.int .i64 (wn+n),.int .i64 th,.int .i64 (max 0 (fl-n)),.int .i64 ac,.int .i64 la,.int .i64 og,.int .i64 st,.int .i64 fr,.bool sl] rfl zao Tryz.underlying44 rfl (by kernel_rfl)) rfl ?_;exact⟨rfl,by go_grown⟩
theorem zmr(h1:ccB k wn th fl ac la og st fr=true)(h2:ze8 n=true)(h3:wn<th)(h4:th<=wn+n):Calls Tryz.prog 75 #[.agg #[.int .i64 k,.int .i64 wn,.int .i64 th,.int .i64 fl,.int .i64 ac,.int .i64 la,.int .i64 og,.int .i64 st,.int .i64 fr,.bool sl],.int .i64 n] w fun e w'=>e=.returned (.agg #[.int .i64 k,.int .i64 th,.int .i64 th,.int .i64 (max 0 (fl-n)),.int .i64 ac,.int .i64 la,.int .i64 og,.int .i64 st,.int .i64 fr,.bool false])/\Bw w w':=by
 obtain⟨_,⟨wn0,wn1⟩,⟨th0,th1⟩,⟨fl0,fl1⟩,⟨ac0,ac1⟩,_⟩:=zbq h1;obtain⟨n0,n1⟩:=zco h2;have r1:IntKind.i64.wrap (fl-n)=fl-n:=i64w
 have r2:IntKind.i64.wrap (ac+n)=ac+n:=i64w
 have r3:IntKind.i64.wrap (wn+n)=wn+n:=i64w
 have hm:∀w:World,Calls Tryz.prog 84 #[.int .i64 th,.int .i64 (wn+n)] w fun e w'=>e=.returned (.int .i64 th)/\w'=w:=fun w=>by have:=zbg th (wn+n) w;rwa[show min th (wn+n)=th by omega]at this
 go_enter Tryz.func75,Tryz.ntmps75;go_wp2_with (first| (go_at_call 135;refine same1 (zaz h1 _ _) ?_)| (go_at_call 48;refine same1 (zkp h2 _) ?_)| (go_at_call 83;refine same1 (zay _ _ _) ?_)| (go_at_call 84;refine same1 (hm _) ?_)| go_in);refine bodyPost_ret (zaf rfl _ _ _ [.int .i64 k,.int .i64 th,.int .i64 th,.int .i64 (max 0 (fl-n)),.int .i64 ac,.int .i64 la,.int .i64 og,.int .i64 st,.int .i64 fr,.bool false] rfl zao Tryz.underlying44 rfl (by kernel_rfl)) rfl ?_;exact⟨rfl,by go_grown⟩
theorem zkr(h1:ccB k wn th fl ac la og st fr=true)(h2:ze8 n=true)(h3:th<=wn):Calls Tryz.prog 75 #[.agg #[.int .i64 k,.int .i64 wn,.int .i64 th,.int .i64 fl,.int .i64 ac,.int .i64 la,.int .i64 og,.int .i64 st,.int .i64 fr,.bool sl],.int .i64 n] w fun e w'=>e=.returned (.agg #[.int .i64 k,.int .i64 ((zc1 (ac+n) wn).2),.int .i64 th,.int .i64 (max 0 (fl-n)),.int .i64 ((zc1 (ac+n) wn).1),.int .i64 la,.int .i64 og,.int .i64 st,.int .i64 fr,.bool sl])/\Bw w w':=by
 obtain⟨_,⟨wn0,wn1⟩,⟨th0,th1⟩,⟨fl0,fl1⟩,⟨ac0,ac1⟩,_⟩:=zbq h1;obtain⟨n0,n1⟩:=zco h2;have r1:IntKind.i64.wrap (fl-n)=fl-n:=i64w
 have r2:IntKind.i64.wrap (ac+n)=ac+n:=i64w
 have r3:IntKind.i64.wrap (wn+n)=wn+n:=i64w
 have h3':¬wn<th:=by omega
 obtain⟨g,hg⟩:∃g,max 0 (fl-n)=g:=⟨_,rfl⟩;have hm:∀w:World,Calls Tryz.prog 83 #[.int .i64 0,.int .i64 (fl-n)] w fun e w'=>e=.returned (.int .i64 g)/\w'=w:=fun w=>by rw[<-hg];exact zay _ _ _
 rw[hg];clear hg;obtain⟨R,hR⟩:∃R,zc1 (ac+n) wn=R:=⟨_,rfl⟩;rw[hR];have HR:Hid (zc1 (ac+n) wn=R):=hR;clear hR;go_enter Tryz.func75,Tryz.ntmps75;go_wp2_with (first| (go_at_call 135;refine same1 (zaz h1 _ _) ?_)| (go_at_call 48;refine same1 (zkp h2 _) ?_)| (go_at_call 83;refine same1 (hm _) ?_));go_loopg [] ((ac+n).toNat+1) (fun kk wr=>∃a x:Int,wr=((w.alloc (.cells #[.int .i64 k,.int .i64 x,.int .i64 th,.int .i64 g,.int .i64 a,.int .i64 la,.int .i64 og,.int .i64 st,.int .i64 fr,.bool sl] 44)).alloc (.cells #[.int .i64 0,.int .i64 0,.int .i64 0,.int .i64 0,.int .i64 0,.int .i64 0,.int .i64 0,.int .i64 0,.int .i64 0,.bool false] 44)).alloc (.cells #[.int .i64 k,.int .i64 wn,.int .i64 th,.int .i64 fl,.int .i64 ac,.int .i64 la,.int .i64 og,.int .i64 st,.int .i64 fr,.bool sl] 44)/\0<=a/\a<=2000000000/\3000<=x/\x<=1000000000/\a.toNat<kk/\Hid (zc1 a x=R));case atStart=>exact⟨ac+n,wn,rfl,by omega,by omega,by omega,by omega,by omega,HR⟩
 case round =>
  obtain⟨a,x,rfl,a0,a1,x0,x1,hk,HS⟩:=hrel;clear HR;by_cases hx:x<=a
  ·have s1:IntKind.i64.wrap (a-x)=a-x:=i64w;have s2:IntKind.i64.wrap (x+1500)=x+1500:=i64w;go_wp2_with (first| (go_at_call 84;refine same1 (zbg _ _ _) ?_));go_roundg (gk-1);case measure=>omega
   case rel=>exact⟨a-x,min 1000000000 (x+1500),rfl,by omega,by omega,by omega,by omega,by omega,(zps x0 hx).symm.trans HS.out⟩
  ·have hx':¬a ≥ x:=(by omega);obtain rfl:(a,x)=R:=(ztv (by omega)).symm.trans HS.out;clear HS;go_wp2;refine bodyPost_ret (zaf rfl _ _ _ [.int .i64 k,.int .i64 x,.int .i64 th,.int .i64 g,.int .i64 a,.int .i64 la,.int .i64 og,.int .i64 st,.int .i64 fr,.bool sl] rfl zao Tryz.underlying44 rfl (by kernel_rfl)) rfl ?_;exact⟨rfl,by go_grown⟩
theorem zms(h1:ccB k wn th fl ac la og st fr=false):Calls Tryz.prog 165 #[.agg #[.int .i64 k,.int .i64 wn,.int .i64 th,.int .i64 fl,.int .i64 ac,.int .i64 la,.int .i64 og,.int .i64 st,.int .i64 fr,.bool sl],.int .i64 n] w fun e w'=>e=.returned (.agg #[.int .i64 0,.int .i64 0,.int .i64 0,.int .i64 0,.int .i64 0,.int .i64 0,.int .i64 0,.int .i64 0,.int .i64 0,.bool false])/\Bw w w':=by go_enter Tryz.func165,Tryz.ntmps165;go_wp2_with (first| (go_at_call 127;refine same1 (zau h1 _ _) ?_));refine bodyPost_ret (zaf rfl _ _ _ [.int .i64 0,.int .i64 0,.int .i64 0,.int .i64 0,.int .i64 0,.int .i64 0,.int .i64 0,.int .i64 0,.int .i64 0,.bool false] rfl zao Tryz.underlying44 rfl (by kernel_rfl)) rfl ?_;exact⟨rfl,by go_grown⟩
theorem zmt(h1:ccB k wn th fl ac la og st fr=true)(h2:ze8 n=false):Calls Tryz.prog 165 #[.agg #[.int .i64 k,.int .i64 wn,.int .i64 th,.int .i64 fl,.int .i64 ac,.int .i64 la,.int .i64 og,.int .i64 st,.int .i64 fr,.bool sl],.int .i64 n] w fun e w'=>e=.returned (.agg #[.int .i64 0,.int .i64 0,.int .i64 0,.int .i64 0,.int .i64 0,.int .i64 0,.int .i64 0,.int .i64 0,.int .i64 0,.bool false])/\Bw w w':=by go_enter Tryz.func165,Tryz.ntmps165;go_wp2_with (first| (go_at_call 127;refine same1 (zau h1 _ _) ?_)| (go_at_call 62;refine same1 (zmo h2 _) ?_));refine bodyPost_ret (zaf rfl _ _ _ [.int .i64 0,.int .i64 0,.int .i64 0,.int .i64 0,.int .i64 0,.int .i64 0,.int .i64 0,.int .i64 0,.int .i64 0,.bool false] rfl zao Tryz.underlying44 rfl (by kernel_rfl)) rfl ?_;exact⟨rfl,by go_grown⟩
theorem zji(h1:ccB k wn th fl ac la og st fr=true)(h2:ze8 n=true)(h3:wn<th)(h4:wn+n<th)(h6:fl-n<0):Calls Tryz.prog 165 #[.agg #[.int .i64 k,.int .i64 wn,.int .i64 th,.int .i64 fl,.int .i64 ac,.int .i64 la,.int .i64 og,.int .i64 st,.int .i64 fr,.bool sl],.int .i64 n] w fun e w'=>e=.returned (.agg #[.int .i64 k,.int .i64 (wn+n),.int .i64 th,.int .i64 0,.int .i64 ac,.int .i64 la,.int .i64 og,.int .i64 st,.int .i64 fr,.bool sl])/\Bw w w':=by
 obtain⟨_,⟨wn0,wn1⟩,⟨th0,th1⟩,⟨fl0,fl1⟩,⟨ac0,ac1⟩,_⟩:=zbq h1;obtain⟨n0,n1⟩:=zco h2;have r1:IntKind.i64.wrap (fl-n)=fl-n:=i64w
 have r2:IntKind.i64.wrap (ac+n)=ac+n:=i64w
 have r3:IntKind.i64.wrap (wn+n)=wn+n:=i64w
 have h5:¬wn+n=th:=by omega
 go_enter Tryz.func165,Tryz.ntmps165;go_wp2_with (first| (go_at_call 127;refine same1 (zau h1 _ _) ?_)| (go_at_call 62;refine same1 (zmo h2 _) ?_)| go_in);refine bodyPost_ret (zaf rfl _ _ _ [.int .i64 k,.int .i64 (wn+n),.int .i64 th,.int .i64 0,.int .i64 ac,.int .i64 la,.int .i64 og,.int .i64 st,.int .i64 fr,.bool sl] rfl zao Tryz.underlying44 rfl (by kernel_rfl)) rfl ?_;exact⟨rfl,by go_grown⟩
theorem zjj(h1:ccB k wn th fl ac la og st fr=true)(h2:ze8 n=true)(h3:wn<th)(h4:wn+n<th)(h6:0<=fl-n):Calls Tryz.prog 165 #[.agg #[.int .i64 k,.int .i64 wn,.int .i64 th,.int .i64 fl,.int .i64 ac,.int .i64 la,.int .i64 og,.int .i64 st,.int .i64 fr,.bool sl],.int .i64 n] w fun e w'=>e=.returned (.agg #[.int .i64 k,.int .i64 (wn+n),.int .i64 th,.int .i64 (fl-n),.int .i64 ac,.int .i64 la,.int .i64 og,.int .i64 st,.int .i64 fr,.bool sl])/\Bw w w':=by
 obtain⟨_,⟨wn0,wn1⟩,⟨th0,th1⟩,⟨fl0,fl1⟩,⟨ac0,ac1⟩,_⟩:=zbq h1;obtain⟨n0,n1⟩:=zco h2;have r1:IntKind.i64.wrap (fl-n)=fl-n:=i64w
 have r2:IntKind.i64.wrap (ac+n)=ac+n:=i64w
 have r3:IntKind.i64.wrap (wn+n)=wn+n:=i64w
 have h5:¬wn+n=th:=by omega
 go_enter Tryz.func165,Tryz.ntmps165;go_wp2_with (first| (go_at_call 127;refine same1 (zau h1 _ _) ?_)| (go_at_call 62;refine same1 (zmo h2 _) ?_)| go_in);refine bodyPost_ret (zaf rfl _ _ _ [.int .i64 k,.int .i64 (wn+n),.int .i64 th,.int .i64 (fl-n),.int .i64 ac,.int .i64 la,.int .i64 og,.int .i64 st,.int .i64 fr,.bool sl] rfl zao Tryz.underlying44 rfl (by kernel_rfl)) rfl ?_;exact⟨rfl,by go_grown⟩
theorem zks(h1:ccB k wn th fl ac la og st fr=true)(h2:ze8 n=true)(h3:wn<th)(h4:wn+n<th):Calls Tryz.prog 165 #[.agg #[.int .i64 k,.int .i64 wn,.int .i64 th,.int .i64 fl,.int .i64 ac,.int .i64 la,.int .i64 og,.int .i64 st,.int .i64 fr,.bool sl],.int .i64 n] w fun e w'=>e=.returned (.agg #[.int .i64 k,.int .i64 (wn+n),.int .i64 th,.int .i64 (max 0 (fl-n)),.int .i64 ac,.int .i64 la,.int .i64 og,.int .i64 st,.int .i64 fr,.bool sl])/\Bw w w':=by
 rcases Int.lt_or_le (fl-n) 0 with h6|h6
 ·rw[show max 0 (fl-n)=0 by omega];exact zji sl w h1 h2 h3 h4 h6
 ·rw[show max 0 (fl-n)=fl-n by omega];exact zjj sl w h1 h2 h3 h4 h6
theorem zjk(h1:ccB k wn th fl ac la og st fr=true)(h2:ze8 n=true)(h3:wn<th)(h4:th<wn+n)(h6:fl-n<0):Calls Tryz.prog 165 #[.agg #[.int .i64 k,.int .i64 wn,.int .i64 th,.int .i64 fl,.int .i64 ac,.int .i64 la,.int .i64 og,.int .i64 st,.int .i64 fr,.bool sl],.int .i64 n] w fun e w'=>e=.returned (.agg #[.int .i64 k,.int .i64 th,.int .i64 th,.int .i64 0,.int .i64 ac,.int .i64 la,.int .i64 og,.int .i64 st,.int .i64 fr,.bool false])/\Bw w w':=by
 obtain⟨_,⟨wn0,wn1⟩,⟨th0,th1⟩,⟨fl0,fl1⟩,⟨ac0,ac1⟩,_⟩:=zbq h1;obtain⟨n0,n1⟩:=zco h2;have r1:IntKind.i64.wrap (fl-n)=fl-n:=i64w
 have r2:IntKind.i64.wrap (ac+n)=ac+n:=i64w
 have r3:IntKind.i64.wrap (wn+n)=wn+n:=i64w
 have h5:¬wn+n<th:=by omega
 go_enter Tryz.func165,Tryz.ntmps165;go_wp2_with (first| (go_at_call 127;refine same1 (zau h1 _ _) ?_)| (go_at_call 62;refine same1 (zmo h2 _) ?_)| go_in);refine bodyPost_ret (zaf rfl _ _ _ [.int .i64 k,.int .i64 th,.int .i64 th,.int .i64 0,.int .i64 ac,.int .i64 la,.int .i64 og,.int .i64 st,.int .i64 fr,.bool false] rfl zao Tryz.underlying44 rfl (by kernel_rfl)) rfl ?_;exact⟨rfl,by go_grown⟩
theorem zjl(h1:ccB k wn th fl ac la og st fr=true)(h2:ze8 n=true)(h3:wn<th)(h4:th<wn+n)(h6:0<=fl-n):Calls Tryz.prog 165 #[.agg #[.int .i64 k,.int .i64 wn,.int .i64 th,.int .i64 fl,.int .i64 ac,.int .i64 la,.int .i64 og,.int .i64 st,.int .i64 fr,.bool sl],.int .i64 n] w fun e w'=>e=.returned (.agg #[.int .i64 k,.int .i64 th,.int .i64 th,.int .i64 (fl-n),.int .i64 ac,.int .i64 la,.int .i64 og,.int .i64 st,.int .i64 fr,.bool false])/\Bw w w':=by
 obtain⟨_,⟨wn0,wn1⟩,⟨th0,th1⟩,⟨fl0,fl1⟩,⟨ac0,ac1⟩,_⟩:=zbq h1;obtain⟨n0,n1⟩:=zco h2;have r1:IntKind.i64.wrap (fl-n)=fl-n:=i64w
 have r2:IntKind.i64.wrap (ac+n)=ac+n:=i64w
 have r3:IntKind.i64.wrap (wn+n)=wn+n:=i64w
 have h5:¬wn+n<th:=by omega
 go_enter Tryz.func165,Tryz.ntmps165;go_wp2_with (first| (go_at_call 127;refine same1 (zau h1 _ _) ?_)| (go_at_call 62;refine same1 (zmo h2 _) ?_)| go_in);refine bodyPost_ret (zaf rfl _ _ _ [.int .i64 k,.int .i64 th,.int .i64 th,.int .i64 (fl-n),.int .i64 ac,.int .i64 la,.int .i64 og,.int .i64 st,.int .i64 fr,.bool false] rfl zao Tryz.underlying44 rfl (by kernel_rfl)) rfl ?_;exact⟨rfl,by go_grown⟩
theorem zkt(h1:ccB k wn th fl ac la og st fr=true)(h2:ze8 n=true)(h3:wn<th)(h4:th<wn+n):Calls Tryz.prog 165 #[.agg #[.int .i64 k,.int .i64 wn,.int .i64 th,.int .i64 fl,.int .i64 ac,.int .i64 la,.int .i64 og,.int .i64 st,.int .i64 fr,.bool sl],.int .i64 n] w fun e w'=>e=.returned (.agg #[.int .i64 k,.int .i64 th,.int .i64 th,.int .i64 (max 0 (fl-n)),.int .i64 ac,.int .i64 la,.int .i64 og,.int .i64 st,.int .i64 fr,.bool false])/\Bw w w':=by
 rcases Int.lt_or_le (fl-n) 0 with h6|h6
 ·rw[show max 0 (fl-n)=0 by omega];exact zjk sl w h1 h2 h3 h4 h6
 ·rw[show max 0 (fl-n)=fl-n by omega];exact zjl sl w h1 h2 h3 h4 h6
end
section
variable{k wn fl ac la og st fr n:Int}(sl:Bool)(w:World)
theorem zjm(h1:ccB k wn (wn+n) fl ac la og st fr=true)(h2:ze8 n=true)(h6:fl-n<0):Calls Tryz.prog 165 #[.agg #[.int .i64 k,.int .i64 wn,.int .i64 (wn+n),.int .i64 fl,.int .i64 ac,.int .i64 la,.int .i64 og,.int .i64 st,.int .i64 fr,.bool sl],.int .i64 n] w fun e w'=>e=.returned (.agg #[.int .i64 k,.int .i64 (wn+n),.int .i64 (wn+n),.int .i64 0,.int .i64 ac,.int .i64 la,.int .i64 og,.int .i64 st,.int .i64 fr,.bool false])/\Bw w w':=by
 obtain⟨_,⟨wn0,wn1⟩,⟨th0,th1⟩,⟨fl0,fl1⟩,⟨ac0,ac1⟩,_⟩:=zbq h1;obtain⟨n0,n1⟩:=zco h2;have r1:IntKind.i64.wrap (fl-n)=fl-n:=i64w
 have r2:IntKind.i64.wrap (ac+n)=ac+n:=i64w
 have r3:IntKind.i64.wrap (wn+n)=wn+n:=i64w
 go_enter Tryz.func165,Tryz.ntmps165;go_wp2_with (first| (go_at_call 127;refine same1 (zau h1 _ _) ?_)| (go_at_call 62;refine same1 (zmo h2 _) ?_)| go_in);refine bodyPost_ret (zaf rfl _ _ _ [.int .i64 k,.int .i64 (wn+n),.int .i64 (wn+n),.int .i64 0,.int .i64 ac,.int .i64 la,.int .i64 og,.int .i64 st,.int .i64 fr,.bool false] rfl zao Tryz.underlying44 rfl (by kernel_rfl)) rfl ?_;exact⟨rfl,by go_grown⟩
theorem zjn(h1:ccB k wn (wn+n) fl ac la og st fr=true)(h2:ze8 n=true)(h6:0<=fl-n):Calls Tryz.prog 165 #[.agg #[.int .i64 k,.int .i64 wn,.int .i64 (wn+n),.int .i64 fl,.int .i64 ac,.int .i64 la,.int .i64 og,.int .i64 st,.int .i64 fr,.bool sl],.int .i64 n] w fun e w'=>e=.returned (.agg #[.int .i64 k,.int .i64 (wn+n),.int .i64 (wn+n),.int .i64 (fl-n),.int .i64 ac,.int .i64 la,.int .i64 og,.int .i64 st,.int .i64 fr,.bool false])/\Bw w w':=by
 obtain⟨_,⟨wn0,wn1⟩,⟨th0,th1⟩,⟨fl0,fl1⟩,⟨ac0,ac1⟩,_⟩:=zbq h1;obtain⟨n0,n1⟩:=zco h2;have r1:IntKind.i64.wrap (fl-n)=fl-n:=i64w
 have r2:IntKind.i64.wrap (ac+n)=ac+n:=i64w
 have r3:IntKind.i64.wrap (wn+n)=wn+n:=i64w
 go_enter Tryz.func165,Tryz.ntmps165;go_wp2_with (first| (go_at_call 127;refine same1 (zau h1 _ _) ?_)| (go_at_call 62;refine same1 (zmo h2 _) ?_)| go_in);refine bodyPost_ret (zaf rfl _ _ _ [.int .i64 k,.int .i64 (wn+n),.int .i64 (wn+n),.int .i64 (fl-n),.int .i64 ac,.int .i64 la,.int .i64 og,.int .i64 st,.int .i64 fr,.bool false] rfl zao Tryz.underlying44 rfl (by kernel_rfl)) rfl ?_;exact⟨rfl,by go_grown⟩
theorem zku(h1:ccB k wn (wn+n) fl ac la og st fr=true)(h2:ze8 n=true):Calls Tryz.prog 165 #[.agg #[.int .i64 k,.int .i64 wn,.int .i64 (wn+n),.int .i64 fl,.int .i64 ac,.int .i64 la,.int .i64 og,.int .i64 st,.int .i64 fr,.bool sl],.int .i64 n] w fun e w'=>e=.returned (.agg #[.int .i64 k,.int .i64 (wn+n),.int .i64 (wn+n),.int .i64 (max 0 (fl-n)),.int .i64 ac,.int .i64 la,.int .i64 og,.int .i64 st,.int .i64 fr,.bool false])/\Bw w w':=by
 rcases Int.lt_or_le (fl-n) 0 with h6|h6
 ·rw[show max 0 (fl-n)=0 by omega];exact zjm sl w h1 h2  h6
 ·rw[show max 0 (fl-n)=fl-n by omega];exact zjn sl w h1 h2  h6
end
theorem zmu{k wn th fl ac la og st fr n:Int}(sl:Bool)(w:World)(h1:ccB k wn th fl ac la og st fr=true)(h2:ze8 n=true)(h3:wn<th)(h4:th<=wn+n):Calls Tryz.prog 165 #[.agg #[.int .i64 k,.int .i64 wn,.int .i64 th,.int .i64 fl,.int .i64 ac,.int .i64 la,.int .i64 og,.int .i64 st,.int .i64 fr,.bool sl],.int .i64 n] w fun e w'=>e=.returned (.agg #[.int .i64 k,.int .i64 th,.int .i64 th,.int .i64 (max 0 (fl-n)),.int .i64 ac,.int .i64 la,.int .i64 og,.int .i64 st,.int .i64 fr,.bool false])/\Bw w w':=by
 rcases Int.lt_or_eq_of_le h4 with h|h
 ·exact zkt sl w h1 h2 h3 h
 ·subst h;exact zku sl w h1 h2
end Go.Proofs.YthiojkjcmhojoaaGreat
