import Derived.Test.YthiojkjcmhojoaaGreatGtAF
import Derived.Test.YthiojkjcmhojoaaGreatGtAP
namespace Go.Proofs.YthiojkjcmhojoaaGreat
set_option maxHeartbeats 4000000
open Go.ChangeShapes Go.WideShapes Go.ChangeAt Go.RowKit
set_option maxRecDepth 100000
set_option linter.all false
def frW(wn fr n:Int):Int:=min 1000000000 (fr+n*9*1500/(17*wn))
def ziw(st now:Int):Int:=min 1000000 (max 0 (now-st)/1000000)
def tgW(wn la og ms:Int):Int:=min (ze0 la og ms) (3*wn/2)
def wnW(wn fr tg:Int):Int:=min 1000000000 (max wn (max fr tg))
section
variable{k wn th fl ac la og st fr n now:Int}
section
variable(sl:Bool)(w:World)
theorem zkw(h1:ccB k wn th fl ac la og st fr=false):Calls Tryz.prog 76 #[.agg #[.int .i64 k,.int .i64 wn,.int .i64 th,.int .i64 fl,.int .i64 ac,.int .i64 la,.int .i64 og,.int .i64 st,.int .i64 fr,.bool sl],.int .i64 n,.int .i64 now] w fun e w'=>e=.returned (.agg #[.int .i64 0,.int .i64 0,.int .i64 0,.int .i64 0,.int .i64 0,.int .i64 0,.int .i64 0,.int .i64 0,.int .i64 0,.bool false])/\Bw w w':=by go_enter Tryz.func76,Tryz.ntmps76;go_wp2_with (first| (go_at_call 135;refine same1 (zaz h1 _ _) ?_));refine bodyPost_ret (zaf rfl _ _ _ [.int .i64 0,.int .i64 0,.int .i64 0,.int .i64 0,.int .i64 0,.int .i64 0,.int .i64 0,.int .i64 0,.int .i64 0,.bool false] rfl zao Tryz.underlying44 rfl (by kernel_rfl)) rfl ?_;exact⟨rfl,by go_grown⟩
theorem zkx(h1:ccB k wn th fl ac la og st fr=true)(h2:ze8 n=false):Calls Tryz.prog 76 #[.agg #[.int .i64 k,.int .i64 wn,.int .i64 th,.int .i64 fl,.int .i64 ac,.int .i64 la,.int .i64 og,.int .i64 st,.int .i64 fr,.bool sl],.int .i64 n,.int .i64 now] w fun e w'=>e=.returned (.agg #[.int .i64 0,.int .i64 0,.int .i64 0,.int .i64 0,.int .i64 0,.int .i64 0,.int .i64 0,.int .i64 0,.int .i64 0,.bool false])/\Bw w w':=by go_enter Tryz.func76,Tryz.ntmps76;go_wp2_with (first| (go_at_call 135;refine same1 (zaz h1 _ _) ?_)| (go_at_call 48;refine same1 (zkp h2 _) ?_));refine bodyPost_ret (zaf rfl _ _ _ [.int .i64 0,.int .i64 0,.int .i64 0,.int .i64 0,.int .i64 0,.int .i64 0,.int .i64 0,.int .i64 0,.int .i64 0,.bool false] rfl zao Tryz.underlying44 rfl (by kernel_rfl)) rfl ?_;exact⟨rfl,by go_grown⟩
theorem zky(h1:ccB k wn th fl ac la og st fr=true)(h2:ze8 n=true)(h3:zba now=false):Calls Tryz.prog 76 #[.agg #[.int .i64 k,.int .i64 wn,.int .i64 th,.int .i64 fl,.int .i64 ac,.int .i64 la,.int .i64 og,.int .i64 st,.int .i64 fr,.bool sl],.int .i64 n,.int .i64 now] w fun e w'=>e=.returned (.agg #[.int .i64 0,.int .i64 0,.int .i64 0,.int .i64 0,.int .i64 0,.int .i64 0,.int .i64 0,.int .i64 0,.int .i64 0,.bool false])/\Bw w w':=by go_enter Tryz.func76,Tryz.ntmps76;go_wp2_with (first| (go_at_call 135;refine same1 (zaz h1 _ _) ?_)| (go_at_call 48;refine same1 (zkp h2 _) ?_)| (go_at_call 89;refine same1 (zgc h3 _) ?_));refine bodyPost_ret (zaf rfl _ _ _ [.int .i64 0,.int .i64 0,.int .i64 0,.int .i64 0,.int .i64 0,.int .i64 0,.int .i64 0,.int .i64 0,.int .i64 0,.bool false] rfl zao Tryz.underlying44 rfl (by kernel_rfl)) rfl ?_;exact⟨rfl,by go_grown⟩
end
section
variable(w:World)
theorem zjp(h1:ccB k wn th fl ac la og st fr=true)(h2:ze8 n=true)(h3:zba now=true)(h5:wn<th)(h4:wn+n<th):Calls Tryz.prog 76 #[.agg #[.int .i64 k,.int .i64 wn,.int .i64 th,.int .i64 fl,.int .i64 ac,.int .i64 la,.int .i64 og,.int .i64 st,.int .i64 fr,.bool true],.int .i64 n,.int .i64 now] w fun e w'=>e=.returned (.agg #[.int .i64 k,.int .i64 (wn+n),.int .i64 th,.int .i64 (max 0 (fl-n)),.int .i64 ac,.int .i64 la,.int .i64 og,.int .i64 st,.int .i64 fr,.bool true])/\Bw w w':=by
 obtain⟨_,⟨wn0,wn1⟩,⟨th0,th1⟩,⟨fl0,fl1⟩,_⟩:=zbq h1;obtain⟨n0,n1⟩:=zco h2;have r1:IntKind.i64.wrap (fl-n)=fl-n:=i64w
 have r3:IntKind.i64.wrap (wn+n)=wn+n:=i64w
 have hm:∀w:World,Calls Tryz.prog 84 #[.int .i64 th,.int .i64 (wn+n)] w fun e w'=>e=.returned (.int .i64 (wn+n))/\w'=w:=fun w=>by have:=zbg th (wn+n) w;rwa[show min th (wn+n)=wn+n by omega]at this
 have h6:¬wn+n=th:=by omega
 go_enter Tryz.func76,Tryz.ntmps76;go_wp2_with (first| (go_at_call 135;refine same1 (zaz h1 _ _) ?_)| (go_at_call 48;refine same1 (zkp h2 _) ?_)| (go_at_call 89;refine same1 (zgc h3 _) ?_)| (go_at_call 83;refine same1 (zay _ _ _) ?_)| (go_at_call 84;refine same1 (hm _) ?_)| go_in);refine bodyPost_ret (zaf rfl _ _ _ [.int .i64 k,.int .i64 (wn+n),.int .i64 th,.int .i64 (max 0 (fl-n)),.int .i64 ac,.int .i64 la,.int .i64 og,.int .i64 st,.int .i64 fr,.bool true] rfl zao Tryz.underlying44 rfl (by kernel_rfl)) rfl ?_;exact⟨rfl,by go_grown⟩
theorem zkz(h1:ccB k wn th fl ac la og st fr=true)(h2:ze8 n=true)(h3:zba now=true)(h5:wn<th)(h4:th<=wn+n):Calls Tryz.prog 76 #[.agg #[.int .i64 k,.int .i64 wn,.int .i64 th,.int .i64 fl,.int .i64 ac,.int .i64 la,.int .i64 og,.int .i64 st,.int .i64 fr,.bool true],.int .i64 n,.int .i64 now] w fun e w'=>e=.returned (.agg #[.int .i64 k,.int .i64 th,.int .i64 th,.int .i64 (max 0 (fl-n)),.int .i64 ac,.int .i64 la,.int .i64 og,.int .i64 st,.int .i64 fr,.bool false])/\Bw w w':=by
 obtain⟨_,⟨wn0,wn1⟩,⟨th0,th1⟩,⟨fl0,fl1⟩,_⟩:=zbq h1;obtain⟨n0,n1⟩:=zco h2;have r1:IntKind.i64.wrap (fl-n)=fl-n:=i64w
 have r3:IntKind.i64.wrap (wn+n)=wn+n:=i64w
 have hm:∀w:World,Calls Tryz.prog 84 #[.int .i64 th,.int .i64 (wn+n)] w fun e w'=>e=.returned (.int .i64 th)/\w'=w:=fun w=>by have:=zbg th (wn+n) w;rwa[show min th (wn+n)=th by omega]at this
 go_enter Tryz.func76,Tryz.ntmps76;go_wp2_with (first| (go_at_call 135;refine same1 (zaz h1 _ _) ?_)| (go_at_call 48;refine same1 (zkp h2 _) ?_)| (go_at_call 89;refine same1 (zgc h3 _) ?_)| (go_at_call 83;refine same1 (zay _ _ _) ?_)| (go_at_call 84;refine same1 (hm _) ?_)| go_in);refine bodyPost_ret (zaf rfl _ _ _ [.int .i64 k,.int .i64 th,.int .i64 th,.int .i64 (max 0 (fl-n)),.int .i64 ac,.int .i64 la,.int .i64 og,.int .i64 st,.int .i64 fr,.bool false] rfl zao Tryz.underlying44 rfl (by kernel_rfl)) rfl ?_;exact⟨rfl,by go_grown⟩
theorem zk0(h1:ccB k wn th fl ac la og st fr=true)(h2:ze8 n=true)(h3:zba now=true)(h6:¬st=0):Calls Tryz.prog 76 #[.agg #[.int .i64 k,.int .i64 wn,.int .i64 th,.int .i64 fl,.int .i64 ac,.int .i64 la,.int .i64 og,.int .i64 st,.int .i64 fr,.bool false],.int .i64 n,.int .i64 now] w fun e w'=>e=.returned (.agg #[.int .i64 k,.int .i64 (wnW wn (frW wn fr n) (tgW wn la og (ziw st now))),.int .i64 th,.int .i64 (max 0 (fl-n)),.int .i64 ac,.int .i64 la,.int .i64 og,.int .i64 st,.int .i64 (frW wn fr n),.bool false])/\Bw w w':=by
 obtain⟨_,⟨wn0,wn1⟩,⟨th0,th1⟩,⟨fl0,fl1⟩,_,⟨la0,la1⟩,⟨og0,og1⟩,⟨st0,st1⟩,fr0,fr1⟩:=zbq h1;obtain⟨n0,n1⟩:=zco h2;have r1:IntKind.i64.wrap (fl-n)=fl-n:=i64w
 have t0:0<=now/\now<=1000000000000000:=by have h3':=h3;unfold zba at h3';simp only[bae,decide_eq_true_eq]at h3';exact h3'
 obtain⟨t0,t1⟩:=t0;obtain⟨gx,hgx⟩:∃x,max 0 (fl-n)=x:=⟨_,rfl⟩;have m1:∀w:World,Calls Tryz.prog 83 #[.int .i64 0,.int .i64 (fl-n)] w fun e w'=>e=.returned (.int .i64 gx)/\w'=w:=fun w=>by rw[<-hgx];exact zay _ _ _
 rw[hgx];have d0:0<=n*9*1500:=by omega
 have q1:IntKind.i64.wrap (n*9)=n*9:=i64w
 have q2:IntKind.i64.wrap (n*9*1500)=n*9*1500:=i64w
 have q3:IntKind.i64.wrap (17*wn)=17*wn:=i64w
 have q4:¬17*wn=0:=by omega
 have q5:(n*9*1500).tdiv (17*wn)=n*9*1500/(17*wn):=Int.tdiv_eq_ediv_of_nonneg d0;obtain⟨Q,hQ⟩:∃x,n*9*1500/(17*wn)=x:=⟨_,rfl⟩;have Q0:0<=Q:=by rw[<-hQ];exact Int.ediv_nonneg d0 (by omega)
 have Q1:Q<=13500000000000:=by rw[<-hQ];exact Int.le_trans (Int.ediv_le_self _ d0) (by omega)
 rw[hQ]at q5;have q6:IntKind.i64.wrap Q=Q:=i64w
 have q7:IntKind.i64.wrap (fr+Q)=fr+Q:=i64w
 obtain⟨fx,hfx⟩:∃x,frW wn fr n=x:=⟨_,rfl⟩;have m4:∀w:World,Calls Tryz.prog 84 #[.int .i64 1000000000,.int .i64 (fr+Q)] w fun e w'=>e=.returned (.int .i64 fx)/\w'=w:=fun w=>by rw[<-hfx,<-hQ];exact zbg _ _ _
 rw[hfx];obtain⟨dx,hdx⟩:∃x,max 0 (now-st)=x:=⟨_,rfl⟩;have m5:∀w:World,Calls Tryz.prog 83 #[.int .i64 0,.int .i64 (now-st)] w fun e w'=>e=.returned (.int .i64 dx)/\w'=w:=fun w=>by rw[<-hdx];exact zay _ _ _
 have q8:IntKind.i64.wrap (now-st)=now-st:=i64w
 have dx0:0<=dx/\dx<=1000000000000000:=by omega
 have q9:=zb9 dx0.1 1000000;have q10:IntKind.i64.wrap (dx/1000000)=dx/1000000:=i64w
 obtain⟨mx,hmx⟩:∃x,ziw st now=x:=⟨_,rfl⟩;have m6:∀w:World,Calls Tryz.prog 84 #[.int .i64 1000000,.int .i64 (dx/1000000)] w fun e w'=>e=.returned (.int .i64 mx)/\w'=w:=fun w=>by rw[<-hmx,<-hdx];exact zbg _ _ _
 rw[hmx];obtain⟨cx,hcx⟩:∃x,ze0 la og mx=x:=⟨_,rfl⟩;have m7:∀w:World,Calls Tryz.prog 137 #[.int .i64 la,.int .i64 og,.int .i64 mx] w fun e w'=>e=.returned (.int .i64 cx)/\w'=w:=fun w=>by rw[<-hcx];exact zdp _ _ _ _
 have q11:IntKind.i64.wrap (3*wn)=3*wn:=i64w
 have q12:=zb9 (x:=3*wn) (by omega) 2;have q13:IntKind.i64.wrap (3*wn/2)=3*wn/2:=i64w
 obtain⟨tx,htx⟩:∃x,tgW wn la og mx=x:=⟨_,rfl⟩;have m8:∀w:World,Calls Tryz.prog 84 #[.int .i64 cx,.int .i64 (3*wn/2)] w fun e w'=>e=.returned (.int .i64 tx)/\w'=w:=fun w=>by rw[<-htx];unfold tgW;rw[hcx];exact zbg _ _ _
 rw[htx];obtain⟨ux,hux⟩:∃x,max fx tx=x:=⟨_,rfl⟩;have m9:∀w:World,Calls Tryz.prog 83 #[.int .i64 fx,.int .i64 tx] w fun e w'=>e=.returned (.int .i64 ux)/\w'=w:=fun w=>by rw[<-hux];exact zay _ _ _
 obtain⟨vx,hvx⟩:∃x,max wn ux=x:=⟨_,rfl⟩;have m10:∀w:World,Calls Tryz.prog 83 #[.int .i64 wn,.int .i64 ux] w fun e w'=>e=.returned (.int .i64 vx)/\w'=w:=fun w=>by rw[<-hvx];exact zay _ _ _
 obtain⟨zx,hzx⟩:∃x,wnW wn fx tx=x:=⟨_,rfl⟩;have m11:∀w:World,Calls Tryz.prog 84 #[.int .i64 1000000000,.int .i64 vx] w fun e w'=>e=.returned (.int .i64 zx)/\w'=w:=fun w=>by rw[<-hzx,<-hvx,<-hux];exact zbg _ _ _
 rw[hzx];clear hzx hvx hux htx hcx hmx hdx hfx hQ hgx;go_enter Tryz.func76,Tryz.ntmps76;go_wp2_with (first| (go_at_call 135;refine same1 (zaz h1 _ _) ?_)| (go_at_call 48;refine same1 (zkp h2 _) ?_)| (go_at_call 89;refine same1 (zgc h3 _) ?_)| (go_at_call 83;refine same1 (m1 _) ?_));refine za4 (S:=fun w'=>w'.cell? ⟨w.heap.size,8,none⟩=some (.int .i64 fr)/\w'.cell? ⟨w.heap.size,1,none⟩=some (.int .i64 wn)) 12 (by kernel_rfl) (⟨by go_simp,by go_simp⟩) (fun hS=>?_);refine zae 0 rfl ?_;refine zae 1 rfl ?_;refine zae 2 rfl ?_;refine zae 3 rfl ?_;refine zae 4 rfl ?_;refine zae 5 rfl ?_;refine zae 6 rfl ?_;refine zae 7 rfl ?_;refine zae 8 rfl ?_;refine zae 9 rfl ?_;refine zaj (i:=10) (by kernel_rfl) rfl (fun K hK=>?_);go_simp;refine same1 (m4 _) ?_;refine hK.out _ _ ‹_› fun _=>?_;try simp only[nrm]
 refine zae 11 rfl ?_;refine zat (by kernel_rfl) rfl (by kernel_rfl) (fun K hK=>?_);go_simp;refine hK.out _ _ ?_;try simp only[nrm]
 go_wp2_with (first| (go_at_call 83;refine same1 (m5 _) ?_)| (go_at_call 84;(try rw[q9]);refine same1 (m6 _) ?_));refine wp_region_held_drew (S:=fun w'=>w'.cell? ⟨w.heap.size,5,none⟩=some (.int .i64 la)/\w'.cell? ⟨w.heap.size,6,none⟩=some (.int .i64 og)/\w'.cell? ⟨w.heap.size,1,none⟩=some (.int .i64 wn)) (by kernel_rfl) (⟨by go_simp,by go_simp,by go_simp⟩) (fun hS=>?_);refine zac 0 rfl ?_;refine zac 1 rfl ?_;refine zac 2 rfl ?_;refine zac 3 rfl ?_;refine zac 4 rfl ?_;refine zac 6 rfl ?_;refine zac 7 rfl ?_;refine zac 8 rfl ?_;refine zac 9 rfl ?_;refine zci 5 rfl fun K hK=>?_;go_simp;refine same1 (m7 _) ?_;refine hK.out _ _ ‹_› fun _=>?_;try simp only[nrm]
 refine zci 10 rfl fun K hK=>?_;go_simp;refine same1 (m8 _) ?_;refine hK.out _ _ ‹_› fun _=>?_;try simp only[nrm]
 refine zac 11 rfl ?_;refine wpAnyH_done (by kernel_rfl) ?_ _;go_wp2;refine za4 (S:=fun w'=>w'.cell? ⟨w.heap.size,1,none⟩=some (.int .i64 wn)/\w'.cell? ⟨w.heap.size,8,none⟩=some (.int .i64 fx)) 9 (by kernel_rfl) (⟨by go_simp,by go_simp⟩) (fun hS=>?_);refine zae 0 rfl ?_;refine zae 1 rfl ?_;refine zae 2 rfl ?_;refine zae 3 rfl ?_;refine zae 4 rfl ?_;refine zaj (i:=5) (by kernel_rfl) rfl (fun K hK=>?_);go_simp;refine same1 (m9 _) ?_;refine hK.out _ _ ‹_› fun _=>?_;try simp only[nrm]
 refine zaj (i:=6) (by kernel_rfl) rfl (fun K hK=>?_);go_simp;refine same1 (m10 _) ?_;refine hK.out _ _ ‹_› fun _=>?_;try simp only[nrm]
 refine zaj (i:=7) (by kernel_rfl) rfl (fun K hK=>?_);go_simp;refine same1 (m11 _) ?_;refine hK.out _ _ ‹_› fun _=>?_;try simp only[nrm]
 refine zae 8 rfl ?_;refine zat (by kernel_rfl) rfl (by kernel_rfl) (fun K hK=>?_);go_simp;refine hK.out _ _ ?_;try simp only[nrm]
 go_wp2;refine bodyPost_ret (zaf rfl _ _ _ [.int .i64 k,.int .i64 zx,.int .i64 th,.int .i64 gx,.int .i64 ac,.int .i64 la,.int .i64 og,.int .i64 st,.int .i64 fx,.bool false] rfl zao Tryz.underlying44 rfl (by kernel_rfl)) rfl ?_;exact⟨rfl,by go_grown⟩
theorem zjq(h1:ccB k wn th fl ac la og st fr=true)(h2:ze8 n=true)(h3:zba now=true)(h5:th<=wn)(h6:¬st=0):Calls Tryz.prog 76 #[.agg #[.int .i64 k,.int .i64 wn,.int .i64 th,.int .i64 fl,.int .i64 ac,.int .i64 la,.int .i64 og,.int .i64 st,.int .i64 fr,.bool true],.int .i64 n,.int .i64 now] w fun e w'=>e=.returned (.agg #[.int .i64 k,.int .i64 (wnW wn (frW wn fr n) (tgW wn la og (ziw st now))),.int .i64 th,.int .i64 (max 0 (fl-n)),.int .i64 ac,.int .i64 la,.int .i64 og,.int .i64 st,.int .i64 (frW wn fr n),.bool true])/\Bw w w':=by
 obtain⟨_,⟨wn0,wn1⟩,⟨th0,th1⟩,⟨fl0,fl1⟩,_,⟨la0,la1⟩,⟨og0,og1⟩,⟨st0,st1⟩,fr0,fr1⟩:=zbq h1;obtain⟨n0,n1⟩:=zco h2;have r1:IntKind.i64.wrap (fl-n)=fl-n:=i64w
 have t0:0<=now/\now<=1000000000000000:=by have h3':=h3;unfold zba at h3';simp only[bae,decide_eq_true_eq]at h3';exact h3'
 obtain⟨t0,t1⟩:=t0;have h5':¬wn<th:=by omega
 obtain⟨gx,hgx⟩:∃x,max 0 (fl-n)=x:=⟨_,rfl⟩;have m1:∀w:World,Calls Tryz.prog 83 #[.int .i64 0,.int .i64 (fl-n)] w fun e w'=>e=.returned (.int .i64 gx)/\w'=w:=fun w=>by rw[<-hgx];exact zay _ _ _
 rw[hgx];have d0:0<=n*9*1500:=by omega
 have q1:IntKind.i64.wrap (n*9)=n*9:=i64w
 have q2:IntKind.i64.wrap (n*9*1500)=n*9*1500:=i64w
 have q3:IntKind.i64.wrap (17*wn)=17*wn:=i64w
 have q4:¬17*wn=0:=by omega
 have q5:(n*9*1500).tdiv (17*wn)=n*9*1500/(17*wn):=Int.tdiv_eq_ediv_of_nonneg d0;obtain⟨Q,hQ⟩:∃x,n*9*1500/(17*wn)=x:=⟨_,rfl⟩;have Q0:0<=Q:=by rw[<-hQ];exact Int.ediv_nonneg d0 (by omega)
 have Q1:Q<=13500000000000:=by rw[<-hQ];exact Int.le_trans (Int.ediv_le_self _ d0) (by omega)
 rw[hQ]at q5;have q6:IntKind.i64.wrap Q=Q:=i64w
 have q7:IntKind.i64.wrap (fr+Q)=fr+Q:=i64w
 obtain⟨fx,hfx⟩:∃x,frW wn fr n=x:=⟨_,rfl⟩;have m4:∀w:World,Calls Tryz.prog 84 #[.int .i64 1000000000,.int .i64 (fr+Q)] w fun e w'=>e=.returned (.int .i64 fx)/\w'=w:=fun w=>by rw[<-hfx,<-hQ];exact zbg _ _ _
 rw[hfx];obtain⟨dx,hdx⟩:∃x,max 0 (now-st)=x:=⟨_,rfl⟩;have m5:∀w:World,Calls Tryz.prog 83 #[.int .i64 0,.int .i64 (now-st)] w fun e w'=>e=.returned (.int .i64 dx)/\w'=w:=fun w=>by rw[<-hdx];exact zay _ _ _
 have q8:IntKind.i64.wrap (now-st)=now-st:=i64w
 have dx0:0<=dx/\dx<=1000000000000000:=by omega
 have q9:=zb9 dx0.1 1000000;have q10:IntKind.i64.wrap (dx/1000000)=dx/1000000:=i64w
 obtain⟨mx,hmx⟩:∃x,ziw st now=x:=⟨_,rfl⟩;have m6:∀w:World,Calls Tryz.prog 84 #[.int .i64 1000000,.int .i64 (dx/1000000)] w fun e w'=>e=.returned (.int .i64 mx)/\w'=w:=fun w=>by rw[<-hmx,<-hdx];exact zbg _ _ _
 rw[hmx];obtain⟨cx,hcx⟩:∃x,ze0 la og mx=x:=⟨_,rfl⟩;have m7:∀w:World,Calls Tryz.prog 137 #[.int .i64 la,.int .i64 og,.int .i64 mx] w fun e w'=>e=.returned (.int .i64 cx)/\w'=w:=fun w=>by rw[<-hcx];exact zdp _ _ _ _
 have q11:IntKind.i64.wrap (3*wn)=3*wn:=i64w
 have q12:=zb9 (x:=3*wn) (by omega) 2;have q13:IntKind.i64.wrap (3*wn/2)=3*wn/2:=i64w
 obtain⟨tx,htx⟩:∃x,tgW wn la og mx=x:=⟨_,rfl⟩;have m8:∀w:World,Calls Tryz.prog 84 #[.int .i64 cx,.int .i64 (3*wn/2)] w fun e w'=>e=.returned (.int .i64 tx)/\w'=w:=fun w=>by rw[<-htx];unfold tgW;rw[hcx];exact zbg _ _ _
 rw[htx];obtain⟨ux,hux⟩:∃x,max fx tx=x:=⟨_,rfl⟩;have m9:∀w:World,Calls Tryz.prog 83 #[.int .i64 fx,.int .i64 tx] w fun e w'=>e=.returned (.int .i64 ux)/\w'=w:=fun w=>by rw[<-hux];exact zay _ _ _
 obtain⟨vx,hvx⟩:∃x,max wn ux=x:=⟨_,rfl⟩;have m10:∀w:World,Calls Tryz.prog 83 #[.int .i64 wn,.int .i64 ux] w fun e w'=>e=.returned (.int .i64 vx)/\w'=w:=fun w=>by rw[<-hvx];exact zay _ _ _
 obtain⟨zx,hzx⟩:∃x,wnW wn fx tx=x:=⟨_,rfl⟩;have m11:∀w:World,Calls Tryz.prog 84 #[.int .i64 1000000000,.int .i64 vx] w fun e w'=>e=.returned (.int .i64 zx)/\w'=w:=fun w=>by rw[<-hzx,<-hvx,<-hux];exact zbg _ _ _
 rw[hzx];clear hzx hvx hux htx hcx hmx hdx hfx hQ hgx;go_enter Tryz.func76,Tryz.ntmps76;go_wp2_with (first| (go_at_call 135;refine same1 (zaz h1 _ _) ?_)| (go_at_call 48;refine same1 (zkp h2 _) ?_)| (go_at_call 89;refine same1 (zgc h3 _) ?_)| (go_at_call 83;refine same1 (m1 _) ?_));refine za4 (S:=fun w'=>w'.cell? ⟨w.heap.size,8,none⟩=some (.int .i64 fr)/\w'.cell? ⟨w.heap.size,1,none⟩=some (.int .i64 wn)) 12 (by kernel_rfl) (⟨by go_simp,by go_simp⟩) (fun hS=>?_);refine zae 0 rfl ?_;refine zae 1 rfl ?_;refine zae 2 rfl ?_;refine zae 3 rfl ?_;refine zae 4 rfl ?_;refine zae 5 rfl ?_;refine zae 6 rfl ?_;refine zae 7 rfl ?_;refine zae 8 rfl ?_;refine zae 9 rfl ?_;refine zaj (i:=10) (by kernel_rfl) rfl (fun K hK=>?_);go_simp;refine same1 (m4 _) ?_;refine hK.out _ _ ‹_› fun _=>?_;try simp only[nrm]
 refine zae 11 rfl ?_;refine zat (by kernel_rfl) rfl (by kernel_rfl) (fun K hK=>?_);go_simp;refine hK.out _ _ ?_;try simp only[nrm]
 go_wp2_with (first| (go_at_call 83;refine same1 (m5 _) ?_)| (go_at_call 84;(try rw[q9]);refine same1 (m6 _) ?_));refine wp_region_held_drew (S:=fun w'=>w'.cell? ⟨w.heap.size,5,none⟩=some (.int .i64 la)/\w'.cell? ⟨w.heap.size,6,none⟩=some (.int .i64 og)/\w'.cell? ⟨w.heap.size,1,none⟩=some (.int .i64 wn)) (by kernel_rfl) (⟨by go_simp,by go_simp,by go_simp⟩) (fun hS=>?_);refine zac 0 rfl ?_;refine zac 1 rfl ?_;refine zac 2 rfl ?_;refine zac 3 rfl ?_;refine zac 4 rfl ?_;refine zac 6 rfl ?_;refine zac 7 rfl ?_;refine zac 8 rfl ?_;refine zac 9 rfl ?_;refine zci 5 rfl fun K hK=>?_;go_simp;refine same1 (m7 _) ?_;refine hK.out _ _ ‹_› fun _=>?_;try simp only[nrm]
 refine zci 10 rfl fun K hK=>?_;go_simp;refine same1 (m8 _) ?_;refine hK.out _ _ ‹_› fun _=>?_;try simp only[nrm]
 refine zac 11 rfl ?_;refine wpAnyH_done (by kernel_rfl) ?_ _;go_wp2;refine za4 (S:=fun w'=>w'.cell? ⟨w.heap.size,1,none⟩=some (.int .i64 wn)/\w'.cell? ⟨w.heap.size,8,none⟩=some (.int .i64 fx)) 9 (by kernel_rfl) (⟨by go_simp,by go_simp⟩) (fun hS=>?_);refine zae 0 rfl ?_;refine zae 1 rfl ?_;refine zae 2 rfl ?_;refine zae 3 rfl ?_;refine zae 4 rfl ?_;refine zaj (i:=5) (by kernel_rfl) rfl (fun K hK=>?_);go_simp;refine same1 (m9 _) ?_;refine hK.out _ _ ‹_› fun _=>?_;try simp only[nrm]
 refine zaj (i:=6) (by kernel_rfl) rfl (fun K hK=>?_);go_simp;refine same1 (m10 _) ?_;refine hK.out _ _ ‹_› fun _=>?_;try simp only[nrm]
 refine zaj (i:=7) (by kernel_rfl) rfl (fun K hK=>?_);go_simp;refine same1 (m11 _) ?_;refine hK.out _ _ ‹_› fun _=>?_;try simp only[nrm]
 refine zae 8 rfl ?_;refine zat (by kernel_rfl) rfl (by kernel_rfl) (fun K hK=>?_);go_simp;refine hK.out _ _ ?_;try simp only[nrm]
 go_wp2;refine bodyPost_ret (zaf rfl _ _ _ [.int .i64 k,.int .i64 zx,.int .i64 th,.int .i64 gx,.int .i64 ac,.int .i64 la,.int .i64 og,.int .i64 st,.int .i64 fx,.bool true] rfl zao Tryz.underlying44 rfl (by kernel_rfl)) rfl ?_;exact⟨rfl,by go_grown⟩
end
end
section
variable{k wn th fl ac la og fr n now:Int}(w:World)
theorem zk1(h1:ccB k wn th fl ac la og 0 fr=true)(h2:ze8 n=true)(h3:zba now=true):Calls Tryz.prog 76 #[.agg #[.int .i64 k,.int .i64 wn,.int .i64 th,.int .i64 fl,.int .i64 ac,.int .i64 la,.int .i64 og,.int .i64 0,.int .i64 fr,.bool false],.int .i64 n,.int .i64 now] w fun e w'=>e=.returned (.agg #[.int .i64 k,.int .i64 (wnW wn (frW wn wn n) (tgW wn (max la wn) wn (ziw (max 1 now) now))),.int .i64 th,.int .i64 (max 0 (fl-n)),.int .i64 ac,.int .i64 (max la wn),.int .i64 wn,.int .i64 (max 1 now),.int .i64 (frW wn wn n),.bool false])/\Bw w w':=by
 obtain⟨_,⟨wn0,wn1⟩,⟨th0,th1⟩,⟨fl0,fl1⟩,_,⟨la0,la1⟩,⟨og0,og1⟩,⟨st0,st1⟩,fr0,fr1⟩:=zbq h1;obtain⟨n0,n1⟩:=zco h2;have r1:IntKind.i64.wrap (fl-n)=fl-n:=i64w
 have t0:0<=now/\now<=1000000000000000:=by have h3':=h3;unfold zba at h3';simp only[bae,decide_eq_true_eq]at h3';exact h3'
 obtain⟨t0,t1⟩:=t0;obtain⟨gx,hgx⟩:∃x,max 0 (fl-n)=x:=⟨_,rfl⟩;have m1:∀w:World,Calls Tryz.prog 83 #[.int .i64 0,.int .i64 (fl-n)] w fun e w'=>e=.returned (.int .i64 gx)/\w'=w:=fun w=>by rw[<-hgx];exact zay _ _ _
 obtain⟨lx,hlx⟩:∃x,max la wn=x:=⟨_,rfl⟩;have m2:∀w:World,Calls Tryz.prog 83 #[.int .i64 la,.int .i64 wn] w fun e w'=>e=.returned (.int .i64 lx)/\w'=w:=fun w=>by rw[<-hlx];exact zay _ _ _
 obtain⟨sx,hsx⟩:∃x,max 1 now=x:=⟨_,rfl⟩;have m3:∀w:World,Calls Tryz.prog 83 #[.int .i64 1,.int .i64 now] w fun e w'=>e=.returned (.int .i64 sx)/\w'=w:=fun w=>by rw[<-hsx];exact zay _ _ _
 have sx0:1<=sx/\sx<=1000000000000000:=by omega
 have lx0:0<=lx/\lx<=1000000000:=by omega
 rw[hlx,hsx];rw[hgx];have d0:0<=n*9*1500:=by omega
 have q1:IntKind.i64.wrap (n*9)=n*9:=i64w
 have q2:IntKind.i64.wrap (n*9*1500)=n*9*1500:=i64w
 have q3:IntKind.i64.wrap (17*wn)=17*wn:=i64w
 have q4:¬17*wn=0:=by omega
 have q5:(n*9*1500).tdiv (17*wn)=n*9*1500/(17*wn):=Int.tdiv_eq_ediv_of_nonneg d0;obtain⟨Q,hQ⟩:∃x,n*9*1500/(17*wn)=x:=⟨_,rfl⟩;have Q0:0<=Q:=by rw[<-hQ];exact Int.ediv_nonneg d0 (by omega)
 have Q1:Q<=13500000000000:=by rw[<-hQ];exact Int.le_trans (Int.ediv_le_self _ d0) (by omega)
 rw[hQ]at q5;have q6:IntKind.i64.wrap Q=Q:=i64w
 have q7:IntKind.i64.wrap (wn+Q)=wn+Q:=i64w
 obtain⟨fx,hfx⟩:∃x,frW wn wn n=x:=⟨_,rfl⟩;have m4:∀w:World,Calls Tryz.prog 84 #[.int .i64 1000000000,.int .i64 (wn+Q)] w fun e w'=>e=.returned (.int .i64 fx)/\w'=w:=fun w=>by rw[<-hfx,<-hQ];exact zbg _ _ _
 rw[hfx];obtain⟨dx,hdx⟩:∃x,max 0 (now-sx)=x:=⟨_,rfl⟩;have m5:∀w:World,Calls Tryz.prog 83 #[.int .i64 0,.int .i64 (now-sx)] w fun e w'=>e=.returned (.int .i64 dx)/\w'=w:=fun w=>by rw[<-hdx];exact zay _ _ _
 have q8:IntKind.i64.wrap (now-sx)=now-sx:=i64w
 have dx0:0<=dx/\dx<=1000000000000000:=by omega
 have q9:=zb9 dx0.1 1000000;have q10:IntKind.i64.wrap (dx/1000000)=dx/1000000:=i64w
 obtain⟨mx,hmx⟩:∃x,ziw sx now=x:=⟨_,rfl⟩;have m6:∀w:World,Calls Tryz.prog 84 #[.int .i64 1000000,.int .i64 (dx/1000000)] w fun e w'=>e=.returned (.int .i64 mx)/\w'=w:=fun w=>by rw[<-hmx,<-hdx];exact zbg _ _ _
 rw[hmx];obtain⟨cx,hcx⟩:∃x,ze0 lx wn mx=x:=⟨_,rfl⟩;have m7:∀w:World,Calls Tryz.prog 137 #[.int .i64 lx,.int .i64 wn,.int .i64 mx] w fun e w'=>e=.returned (.int .i64 cx)/\w'=w:=fun w=>by rw[<-hcx];exact zdp _ _ _ _
 have q11:IntKind.i64.wrap (3*wn)=3*wn:=i64w
 have q12:=zb9 (x:=3*wn) (by omega) 2;have q13:IntKind.i64.wrap (3*wn/2)=3*wn/2:=i64w
 obtain⟨tx,htx⟩:∃x,tgW wn lx wn mx=x:=⟨_,rfl⟩;have m8:∀w:World,Calls Tryz.prog 84 #[.int .i64 cx,.int .i64 (3*wn/2)] w fun e w'=>e=.returned (.int .i64 tx)/\w'=w:=fun w=>by rw[<-htx];unfold tgW;rw[hcx];exact zbg _ _ _
 rw[htx];obtain⟨ux,hux⟩:∃x,max fx tx=x:=⟨_,rfl⟩;have m9:∀w:World,Calls Tryz.prog 83 #[.int .i64 fx,.int .i64 tx] w fun e w'=>e=.returned (.int .i64 ux)/\w'=w:=fun w=>by rw[<-hux];exact zay _ _ _
 obtain⟨vx,hvx⟩:∃x,max wn ux=x:=⟨_,rfl⟩;have m10:∀w:World,Calls Tryz.prog 83 #[.int .i64 wn,.int .i64 ux] w fun e w'=>e=.returned (.int .i64 vx)/\w'=w:=fun w=>by rw[<-hvx];exact zay _ _ _
 obtain⟨zx,hzx⟩:∃x,wnW wn fx tx=x:=⟨_,rfl⟩;have m11:∀w:World,Calls Tryz.prog 84 #[.int .i64 1000000000,.int .i64 vx] w fun e w'=>e=.returned (.int .i64 zx)/\w'=w:=fun w=>by rw[<-hzx,<-hvx,<-hux];exact zbg _ _ _
 rw[hzx];clear hzx hvx hux htx hcx hmx hdx hfx hQ hgx hlx hsx;go_enter Tryz.func76,Tryz.ntmps76;go_wp2_with (first| (go_at_call 135;refine same1 (zaz h1 _ _) ?_)| (go_at_call 48;refine same1 (zkp h2 _) ?_)| (go_at_call 89;refine same1 (zgc h3 _) ?_)| (go_at_call 83;refine same1 (m1 _) ?_)| (go_at_call 83;refine same1 (m2 _) ?_)| (go_at_call 83;refine same1 (m3 _) ?_));refine za4 (S:=fun w'=>w'.cell? ⟨w.heap.size,8,none⟩=some (.int .i64 wn)/\w'.cell? ⟨w.heap.size,1,none⟩=some (.int .i64 wn)) 12 (by kernel_rfl) (⟨by go_simp,by go_simp⟩) (fun hS=>?_);refine zae 0 rfl ?_;refine zae 1 rfl ?_;refine zae 2 rfl ?_;refine zae 3 rfl ?_;refine zae 4 rfl ?_;refine zae 5 rfl ?_;refine zae 6 rfl ?_;refine zae 7 rfl ?_;refine zae 8 rfl ?_;refine zae 9 rfl ?_;refine zaj (i:=10) (by kernel_rfl) rfl (fun K hK=>?_);go_simp;refine same1 (m4 _) ?_;refine hK.out _ _ ‹_› fun _=>?_;try simp only[nrm]
 refine zae 11 rfl ?_;refine zat (by kernel_rfl) rfl (by kernel_rfl) (fun K hK=>?_);go_simp;refine hK.out _ _ ?_;try simp only[nrm]
 go_wp2_with (first| (go_at_call 83;refine same1 (m5 _) ?_)| (go_at_call 84;(try rw[q9]);refine same1 (m6 _) ?_));refine wp_region_held_drew (S:=fun w'=>w'.cell? ⟨w.heap.size,5,none⟩=some (.int .i64 lx)/\w'.cell? ⟨w.heap.size,6,none⟩=some (.int .i64 wn)/\w'.cell? ⟨w.heap.size,1,none⟩=some (.int .i64 wn)) (by kernel_rfl) (⟨by go_simp,by go_simp,by go_simp⟩) (fun hS=>?_);refine zac 0 rfl ?_;refine zac 1 rfl ?_;refine zac 2 rfl ?_;refine zac 3 rfl ?_;refine zac 4 rfl ?_;refine zac 6 rfl ?_;refine zac 7 rfl ?_;refine zac 8 rfl ?_;refine zac 9 rfl ?_;refine zci 5 rfl fun K hK=>?_;go_simp;refine same1 (m7 _) ?_;refine hK.out _ _ ‹_› fun _=>?_;try simp only[nrm]
 refine zci 10 rfl fun K hK=>?_;go_simp;refine same1 (m8 _) ?_;refine hK.out _ _ ‹_› fun _=>?_;try simp only[nrm]
 refine zac 11 rfl ?_;refine wpAnyH_done (by kernel_rfl) ?_ _;go_wp2;refine za4 (S:=fun w'=>w'.cell? ⟨w.heap.size,1,none⟩=some (.int .i64 wn)/\w'.cell? ⟨w.heap.size,8,none⟩=some (.int .i64 fx)) 9 (by kernel_rfl) (⟨by go_simp,by go_simp⟩) (fun hS=>?_);refine zae 0 rfl ?_;refine zae 1 rfl ?_;refine zae 2 rfl ?_;refine zae 3 rfl ?_;refine zae 4 rfl ?_;refine zaj (i:=5) (by kernel_rfl) rfl (fun K hK=>?_);go_simp;refine same1 (m9 _) ?_;refine hK.out _ _ ‹_› fun _=>?_;try simp only[nrm]
 refine zaj (i:=6) (by kernel_rfl) rfl (fun K hK=>?_);go_simp;refine same1 (m10 _) ?_;refine hK.out _ _ ‹_› fun _=>?_;try simp only[nrm]
 refine zaj (i:=7) (by kernel_rfl) rfl (fun K hK=>?_);go_simp;refine same1 (m11 _) ?_;refine hK.out _ _ ‹_› fun _=>?_;try simp only[nrm]
 refine zae 8 rfl ?_;refine zat (by kernel_rfl) rfl (by kernel_rfl) (fun K hK=>?_);go_simp;refine hK.out _ _ ?_;try simp only[nrm]
 go_wp2;refine bodyPost_ret (zaf rfl _ _ _ [.int .i64 k,.int .i64 zx,.int .i64 th,.int .i64 gx,.int .i64 ac,.int .i64 lx,.int .i64 wn,.int .i64 sx,.int .i64 fx,.bool false] rfl zao Tryz.underlying44 rfl (by kernel_rfl)) rfl ?_;exact⟨rfl,by go_grown⟩
theorem zjr(h1:ccB k wn th fl ac la og 0 fr=true)(h2:ze8 n=true)(h3:zba now=true)(h5:th<=wn):Calls Tryz.prog 76 #[.agg #[.int .i64 k,.int .i64 wn,.int .i64 th,.int .i64 fl,.int .i64 ac,.int .i64 la,.int .i64 og,.int .i64 0,.int .i64 fr,.bool true],.int .i64 n,.int .i64 now] w fun e w'=>e=.returned (.agg #[.int .i64 k,.int .i64 (wnW wn (frW wn wn n) (tgW wn (max la wn) wn (ziw (max 1 now) now))),.int .i64 th,.int .i64 (max 0 (fl-n)),.int .i64 ac,.int .i64 (max la wn),.int .i64 wn,.int .i64 (max 1 now),.int .i64 (frW wn wn n),.bool true])/\Bw w w':=by
 obtain⟨_,⟨wn0,wn1⟩,⟨th0,th1⟩,⟨fl0,fl1⟩,_,⟨la0,la1⟩,⟨og0,og1⟩,⟨st0,st1⟩,fr0,fr1⟩:=zbq h1;obtain⟨n0,n1⟩:=zco h2;have r1:IntKind.i64.wrap (fl-n)=fl-n:=i64w
 have t0:0<=now/\now<=1000000000000000:=by have h3':=h3;unfold zba at h3';simp only[bae,decide_eq_true_eq]at h3';exact h3'
 obtain⟨t0,t1⟩:=t0;have h5':¬wn<th:=by omega
 obtain⟨gx,hgx⟩:∃x,max 0 (fl-n)=x:=⟨_,rfl⟩;have m1:∀w:World,Calls Tryz.prog 83 #[.int .i64 0,.int .i64 (fl-n)] w fun e w'=>e=.returned (.int .i64 gx)/\w'=w:=fun w=>by rw[<-hgx];exact zay _ _ _
 obtain⟨lx,hlx⟩:∃x,max la wn=x:=⟨_,rfl⟩;have m2:∀w:World,Calls Tryz.prog 83 #[.int .i64 la,.int .i64 wn] w fun e w'=>e=.returned (.int .i64 lx)/\w'=w:=fun w=>by rw[<-hlx];exact zay _ _ _
 obtain⟨sx,hsx⟩:∃x,max 1 now=x:=⟨_,rfl⟩;have m3:∀w:World,Calls Tryz.prog 83 #[.int .i64 1,.int .i64 now] w fun e w'=>e=.returned (.int .i64 sx)/\w'=w:=fun w=>by rw[<-hsx];exact zay _ _ _
 have sx0:1<=sx/\sx<=1000000000000000:=by omega
 have lx0:0<=lx/\lx<=1000000000:=by omega
 rw[hlx,hsx];rw[hgx];have d0:0<=n*9*1500:=by omega
 have q1:IntKind.i64.wrap (n*9)=n*9:=i64w
 have q2:IntKind.i64.wrap (n*9*1500)=n*9*1500:=i64w
 have q3:IntKind.i64.wrap (17*wn)=17*wn:=i64w
 have q4:¬17*wn=0:=by omega
 have q5:(n*9*1500).tdiv (17*wn)=n*9*1500/(17*wn):=Int.tdiv_eq_ediv_of_nonneg d0;obtain⟨Q,hQ⟩:∃x,n*9*1500/(17*wn)=x:=⟨_,rfl⟩;have Q0:0<=Q:=by rw[<-hQ];exact Int.ediv_nonneg d0 (by omega)
 have Q1:Q<=13500000000000:=by rw[<-hQ];exact Int.le_trans (Int.ediv_le_self _ d0) (by omega)
 rw[hQ]at q5;have q6:IntKind.i64.wrap Q=Q:=i64w
 have q7:IntKind.i64.wrap (wn+Q)=wn+Q:=i64w
 obtain⟨fx,hfx⟩:∃x,frW wn wn n=x:=⟨_,rfl⟩;have m4:∀w:World,Calls Tryz.prog 84 #[.int .i64 1000000000,.int .i64 (wn+Q)] w fun e w'=>e=.returned (.int .i64 fx)/\w'=w:=fun w=>by rw[<-hfx,<-hQ];exact zbg _ _ _
 rw[hfx];obtain⟨dx,hdx⟩:∃x,max 0 (now-sx)=x:=⟨_,rfl⟩;have m5:∀w:World,Calls Tryz.prog 83 #[.int .i64 0,.int .i64 (now-sx)] w fun e w'=>e=.returned (.int .i64 dx)/\w'=w:=fun w=>by rw[<-hdx];exact zay _ _ _
 have q8:IntKind.i64.wrap (now-sx)=now-sx:=i64w
 have dx0:0<=dx/\dx<=1000000000000000:=by omega
 have q9:=zb9 dx0.1 1000000;have q10:IntKind.i64.wrap (dx/1000000)=dx/1000000:=i64w
 obtain⟨mx,hmx⟩:∃x,ziw sx now=x:=⟨_,rfl⟩;have m6:∀w:World,Calls Tryz.prog 84 #[.int .i64 1000000,.int .i64 (dx/1000000)] w fun e w'=>e=.returned (.int .i64 mx)/\w'=w:=fun w=>by rw[<-hmx,<-hdx];exact zbg _ _ _
 rw[hmx];obtain⟨cx,hcx⟩:∃x,ze0 lx wn mx=x:=⟨_,rfl⟩;have m7:∀w:World,Calls Tryz.prog 137 #[.int .i64 lx,.int .i64 wn,.int .i64 mx] w fun e w'=>e=.returned (.int .i64 cx)/\w'=w:=fun w=>by rw[<-hcx];exact zdp _ _ _ _
 have q11:IntKind.i64.wrap (3*wn)=3*wn:=i64w
 have q12:=zb9 (x:=3*wn) (by omega) 2;have q13:IntKind.i64.wrap (3*wn/2)=3*wn/2:=i64w
 obtain⟨tx,htx⟩:∃x,tgW wn lx wn mx=x:=⟨_,rfl⟩;have m8:∀w:World,Calls Tryz.prog 84 #[.int .i64 cx,.int .i64 (3*wn/2)] w fun e w'=>e=.returned (.int .i64 tx)/\w'=w:=fun w=>by rw[<-htx];unfold tgW;rw[hcx];exact zbg _ _ _
 rw[htx];obtain⟨ux,hux⟩:∃x,max fx tx=x:=⟨_,rfl⟩;have m9:∀w:World,Calls Tryz.prog 83 #[.int .i64 fx,.int .i64 tx] w fun e w'=>e=.returned (.int .i64 ux)/\w'=w:=fun w=>by rw[<-hux];exact zay _ _ _
 obtain⟨vx,hvx⟩:∃x,max wn ux=x:=⟨_,rfl⟩;have m10:∀w:World,Calls Tryz.prog 83 #[.int .i64 wn,.int .i64 ux] w fun e w'=>e=.returned (.int .i64 vx)/\w'=w:=fun w=>by rw[<-hvx];exact zay _ _ _
 obtain⟨zx,hzx⟩:∃x,wnW wn fx tx=x:=⟨_,rfl⟩;have m11:∀w:World,Calls Tryz.prog 84 #[.int .i64 1000000000,.int .i64 vx] w fun e w'=>e=.returned (.int .i64 zx)/\w'=w:=fun w=>by rw[<-hzx,<-hvx,<-hux];exact zbg _ _ _
 rw[hzx];clear hzx hvx hux htx hcx hmx hdx hfx hQ hgx hlx hsx;go_enter Tryz.func76,Tryz.ntmps76;go_wp2_with (first| (go_at_call 135;refine same1 (zaz h1 _ _) ?_)| (go_at_call 48;refine same1 (zkp h2 _) ?_)| (go_at_call 89;refine same1 (zgc h3 _) ?_)| (go_at_call 83;refine same1 (m1 _) ?_)| (go_at_call 83;refine same1 (m2 _) ?_)| (go_at_call 83;refine same1 (m3 _) ?_));refine za4 (S:=fun w'=>w'.cell? ⟨w.heap.size,8,none⟩=some (.int .i64 wn)/\w'.cell? ⟨w.heap.size,1,none⟩=some (.int .i64 wn)) 12 (by kernel_rfl) (⟨by go_simp,by go_simp⟩) (fun hS=>?_);refine zae 0 rfl ?_;refine zae 1 rfl ?_;refine zae 2 rfl ?_;refine zae 3 rfl ?_;refine zae 4 rfl ?_;refine zae 5 rfl ?_;refine zae 6 rfl ?_;refine zae 7 rfl ?_;refine zae 8 rfl ?_;refine zae 9 rfl ?_;refine zaj (i:=10) (by kernel_rfl) rfl (fun K hK=>?_);go_simp;refine same1 (m4 _) ?_;refine hK.out _ _ ‹_› fun _=>?_;try simp only[nrm]
 refine zae 11 rfl ?_;refine zat (by kernel_rfl) rfl (by kernel_rfl) (fun K hK=>?_);go_simp;refine hK.out _ _ ?_;try simp only[nrm]
 go_wp2_with (first| (go_at_call 83;refine same1 (m5 _) ?_)| (go_at_call 84;(try rw[q9]);refine same1 (m6 _) ?_));refine wp_region_held_drew (S:=fun w'=>w'.cell? ⟨w.heap.size,5,none⟩=some (.int .i64 lx)/\w'.cell? ⟨w.heap.size,6,none⟩=some (.int .i64 wn)/\w'.cell? ⟨w.heap.size,1,none⟩=some (.int .i64 wn)) (by kernel_rfl) (⟨by go_simp,by go_simp,by go_simp⟩) (fun hS=>?_);refine zac 0 rfl ?_;refine zac 1 rfl ?_;refine zac 2 rfl ?_;refine zac 3 rfl ?_;refine zac 4 rfl ?_;refine zac 6 rfl ?_;refine zac 7 rfl ?_;refine zac 8 rfl ?_;refine zac 9 rfl ?_;refine zci 5 rfl fun K hK=>?_;go_simp;refine same1 (m7 _) ?_;refine hK.out _ _ ‹_› fun _=>?_;try simp only[nrm]
 refine zci 10 rfl fun K hK=>?_;go_simp;refine same1 (m8 _) ?_;refine hK.out _ _ ‹_› fun _=>?_;try simp only[nrm]
 refine zac 11 rfl ?_;refine wpAnyH_done (by kernel_rfl) ?_ _;go_wp2;refine za4 (S:=fun w'=>w'.cell? ⟨w.heap.size,1,none⟩=some (.int .i64 wn)/\w'.cell? ⟨w.heap.size,8,none⟩=some (.int .i64 fx)) 9 (by kernel_rfl) (⟨by go_simp,by go_simp⟩) (fun hS=>?_);refine zae 0 rfl ?_;refine zae 1 rfl ?_;refine zae 2 rfl ?_;refine zae 3 rfl ?_;refine zae 4 rfl ?_;refine zaj (i:=5) (by kernel_rfl) rfl (fun K hK=>?_);go_simp;refine same1 (m9 _) ?_;refine hK.out _ _ ‹_› fun _=>?_;try simp only[nrm]
 refine zaj (i:=6) (by kernel_rfl) rfl (fun K hK=>?_);go_simp;refine same1 (m10 _) ?_;refine hK.out _ _ ‹_› fun _=>?_;try simp only[nrm]
 refine zaj (i:=7) (by kernel_rfl) rfl (fun K hK=>?_);go_simp;refine same1 (m11 _) ?_;refine hK.out _ _ ‹_› fun _=>?_;try simp only[nrm]
 refine zae 8 rfl ?_;refine zat (by kernel_rfl) rfl (by kernel_rfl) (fun K hK=>?_);go_simp;refine hK.out _ _ ?_;try simp only[nrm]
 go_wp2;refine bodyPost_ret (zaf rfl _ _ _ [.int .i64 k,.int .i64 zx,.int .i64 th,.int .i64 gx,.int .i64 ac,.int .i64 lx,.int .i64 wn,.int .i64 sx,.int .i64 fx,.bool true] rfl zao Tryz.underlying44 rfl (by kernel_rfl)) rfl ?_;exact⟨rfl,by go_grown⟩
end
end Go.Proofs.YthiojkjcmhojoaaGreat
