import Derived.Test.YthiojkjcmhojoaaGreatGfAE
import Derived.Test.YthiojkjcmhojoaaGreatGfAN
namespace Go.Proofs.YthiojkjcmhojoaaGreat
set_option maxHeartbeats 4000000
open Go.ChangeShapes Go.WideShapes Go.ChangeAt Go.RowKit
set_option maxRecDepth 100000
set_option linter.unusedVariables false
set_option linter.unusedSimpArgs false
def frW (wn fr n:Int):Int:=min 1000000000 (fr+n*9*1500 / (17*wn))
def zqr (st now:Int):Int:=min 1000000 (max 0 (now-st) / 1000000)
def tgW (wn la og ms:Int):Int:=min (zf9 la og ms) (3*wn / 2)
def wnW (wn fr tg:Int):Int:=min 1000000000 (max wn (max fr tg))
theorem zkb {k wn th fl ac la og st fr n now:Int} (sl:Bool) (w:World) (h1:ccB k wn th fl ac la og st fr=false):Calls Tryz.prog 76 #[.agg #[.int .i64 k,.int .i64 wn,.int .i64 th,.int .i64 fl,.int .i64 ac,.int .i64 la,.int .i64 og,.int .i64 st,.int .i64 fr,.bool sl],.int .i64 n,.int .i64 now] w fun e w'=>e=.returned (.agg #[.int .i64 0,.int .i64 0,.int .i64 0,.int .i64 0,.int .i64 0,.int .i64 0,.int .i64 0,.int .i64 0,.int .i64 0,.bool false])∧Below w.heap.size w w':=by
 go_enter Tryz.func76,Tryz.ntmps76
 go_wp2_with (first
  | (go_at_call 135;refine (zaw h1 _ _).mono ?_;rintro e w2 ⟨rfl,rfl⟩))
 refine bodyPost_ret (zaj rfl _ _ _ [.int .i64 0,.int .i64 0,.int .i64 0,.int .i64 0,.int .i64 0,.int .i64 0,.int .i64 0,.int .i64 0,.int .i64 0,.bool false] rfl (zbm (by go_simp) (by go_simp) (by go_simp) (by go_simp) (by go_simp) (by go_simp) (by go_simp) (by go_simp) (by go_simp) (by go_simp)) Tryz.underlying44 rfl (by kernel_rfl)) rfl ?_
 exact ⟨rfl,by go_grown⟩
theorem zkc {k wn th fl ac la og st fr n now:Int} (sl:Bool) (w:World) (h1:ccB k wn th fl ac la og st fr=true) (h2:zj7 n=false):Calls Tryz.prog 76 #[.agg #[.int .i64 k,.int .i64 wn,.int .i64 th,.int .i64 fl,.int .i64 ac,.int .i64 la,.int .i64 og,.int .i64 st,.int .i64 fr,.bool sl],.int .i64 n,.int .i64 now] w fun e w'=>e=.returned (.agg #[.int .i64 0,.int .i64 0,.int .i64 0,.int .i64 0,.int .i64 0,.int .i64 0,.int .i64 0,.int .i64 0,.int .i64 0,.bool false])∧Below w.heap.size w w':=by
 go_enter Tryz.func76,Tryz.ntmps76
 go_wp2_with (first
  | (go_at_call 135;refine (zaw h1 _ _).mono ?_;rintro e w2 ⟨rfl,rfl⟩)
  | (go_at_call 48;refine (zj8 h2 _).mono ?_;rintro e w2 ⟨rfl,rfl⟩))
 refine bodyPost_ret (zaj rfl _ _ _ [.int .i64 0,.int .i64 0,.int .i64 0,.int .i64 0,.int .i64 0,.int .i64 0,.int .i64 0,.int .i64 0,.int .i64 0,.bool false] rfl (zbm (by go_simp) (by go_simp) (by go_simp) (by go_simp) (by go_simp) (by go_simp) (by go_simp) (by go_simp) (by go_simp) (by go_simp)) Tryz.underlying44 rfl (by kernel_rfl)) rfl ?_
 exact ⟨rfl,by go_grown⟩
theorem zkd {k wn th fl ac la og st fr n now:Int} (sl:Bool) (w:World) (h1:ccB k wn th fl ac la og st fr=true) (h2:zj7 n=true) (h3:zau now=false):Calls Tryz.prog 76 #[.agg #[.int .i64 k,.int .i64 wn,.int .i64 th,.int .i64 fl,.int .i64 ac,.int .i64 la,.int .i64 og,.int .i64 st,.int .i64 fr,.bool sl],.int .i64 n,.int .i64 now] w fun e w'=>e=.returned (.agg #[.int .i64 0,.int .i64 0,.int .i64 0,.int .i64 0,.int .i64 0,.int .i64 0,.int .i64 0,.int .i64 0,.int .i64 0,.bool false])∧Below w.heap.size w w':=by
 go_enter Tryz.func76,Tryz.ntmps76
 go_wp2_with (first
  | (go_at_call 135;refine (zaw h1 _ _).mono ?_;rintro e w2 ⟨rfl,rfl⟩)
  | (go_at_call 48;refine (zj8 h2 _).mono ?_;rintro e w2 ⟨rfl,rfl⟩)
  | (go_at_call 89;refine (zf8 h3 _).mono ?_;rintro e w2 ⟨rfl,rfl⟩))
 refine bodyPost_ret (zaj rfl _ _ _ [.int .i64 0,.int .i64 0,.int .i64 0,.int .i64 0,.int .i64 0,.int .i64 0,.int .i64 0,.int .i64 0,.int .i64 0,.bool false] rfl (zbm (by go_simp) (by go_simp) (by go_simp) (by go_simp) (by go_simp) (by go_simp) (by go_simp) (by go_simp) (by go_simp) (by go_simp)) Tryz.underlying44 rfl (by kernel_rfl)) rfl ?_
 exact ⟨rfl,by go_grown⟩
theorem zjd {k wn th fl ac la og st fr n now:Int} (w:World) (h1:ccB k wn th fl ac la og st fr=true) (h2:zj7 n=true) (h3:zau now=true) (h5:wn<th) (h4:wn+n<th):Calls Tryz.prog 76 #[.agg #[.int .i64 k,.int .i64 wn,.int .i64 th,.int .i64 fl,.int .i64 ac,.int .i64 la,.int .i64 og,.int .i64 st,.int .i64 fr,.bool true],.int .i64 n,.int .i64 now] w fun e w'=>e=.returned (.agg #[.int .i64 k,.int .i64 (wn+n),.int .i64 th,.int .i64 (max 0 (fl-n)),.int .i64 ac,.int .i64 la,.int .i64 og,.int .i64 st,.int .i64 fr,.bool true])∧Below w.heap.size w w':=by
 obtain ⟨_,⟨wn0,wn1⟩,⟨th0,th1⟩,⟨fl0,fl1⟩,_⟩:=zcu h1
 obtain ⟨n0,n1⟩:=ze6 h2
 have r1:IntKind.i64.wrap (fl-n)=fl-n:=by rw [IntKind.wrap_i64];omega
 have r3:IntKind.i64.wrap (wn+n)=wn+n:=by rw [IntKind.wrap_i64];omega
 have hm:∀w:World,Calls Tryz.prog 84 #[.int .i64 th,.int .i64 (wn+n)] w fun e w'=>e=.returned (.int .i64 (wn+n))∧w'=w:=fun w=>by
  have:=za9 th (wn+n) w
  rwa [show min th (wn+n)=wn+n by omega] at this
 have h6:¬wn+n=th:=by omega
 go_enter Tryz.func76,Tryz.ntmps76
 go_wp2_with (first
  | (go_at_call 135;refine (zaw h1 _ _).mono ?_;rintro e w2 ⟨rfl,rfl⟩)
  | (go_at_call 48;refine (zj8 h2 _).mono ?_;rintro e w2 ⟨rfl,rfl⟩)
  | (go_at_call 89;refine (zf8 h3 _).mono ?_;rintro e w2 ⟨rfl,rfl⟩)
  | (go_at_call 83;refine (zav _ _ _).mono ?_;rintro e w2 ⟨rfl,rfl⟩)
  | (go_at_call 84;refine (hm _).mono ?_;rintro e w2 ⟨rfl,rfl⟩)
  | go_in)
 refine bodyPost_ret (zaj rfl _ _ _ [.int .i64 k,.int .i64 (wn+n),.int .i64 th,.int .i64 (max 0 (fl-n)),.int .i64 ac,.int .i64 la,.int .i64 og,.int .i64 st,.int .i64 fr,.bool true] rfl (zbm (by go_simp) (by go_simp) (by go_simp) (by go_simp) (by go_simp) (by go_simp) (by go_simp) (by go_simp) (by go_simp) (by go_simp)) Tryz.underlying44 rfl (by kernel_rfl)) rfl ?_
 exact ⟨rfl,by go_grown⟩
theorem zke {k wn th fl ac la og st fr n now:Int} (w:World) (h1:ccB k wn th fl ac la og st fr=true) (h2:zj7 n=true) (h3:zau now=true) (h5:wn<th) (h4:th≤wn+n):Calls Tryz.prog 76 #[.agg #[.int .i64 k,.int .i64 wn,.int .i64 th,.int .i64 fl,.int .i64 ac,.int .i64 la,.int .i64 og,.int .i64 st,.int .i64 fr,.bool true],.int .i64 n,.int .i64 now] w fun e w'=>e=.returned (.agg #[.int .i64 k,.int .i64 th,.int .i64 th,.int .i64 (max 0 (fl-n)),.int .i64 ac,.int .i64 la,.int .i64 og,.int .i64 st,.int .i64 fr,.bool false])∧Below w.heap.size w w':=by
 obtain ⟨_,⟨wn0,wn1⟩,⟨th0,th1⟩,⟨fl0,fl1⟩,_⟩:=zcu h1
 obtain ⟨n0,n1⟩:=ze6 h2
 have r1:IntKind.i64.wrap (fl-n)=fl-n:=by rw [IntKind.wrap_i64];omega
 have r3:IntKind.i64.wrap (wn+n)=wn+n:=by rw [IntKind.wrap_i64];omega
 have hm:∀w:World,Calls Tryz.prog 84 #[.int .i64 th,.int .i64 (wn+n)] w fun e w'=>e=.returned (.int .i64 th)∧w'=w:=fun w=>by
  have:=za9 th (wn+n) w
  rwa [show min th (wn+n)=th by omega] at this
 go_enter Tryz.func76,Tryz.ntmps76
 go_wp2_with (first
  | (go_at_call 135;refine (zaw h1 _ _).mono ?_;rintro e w2 ⟨rfl,rfl⟩)
  | (go_at_call 48;refine (zj8 h2 _).mono ?_;rintro e w2 ⟨rfl,rfl⟩)
  | (go_at_call 89;refine (zf8 h3 _).mono ?_;rintro e w2 ⟨rfl,rfl⟩)
  | (go_at_call 83;refine (zav _ _ _).mono ?_;rintro e w2 ⟨rfl,rfl⟩)
  | (go_at_call 84;refine (hm _).mono ?_;rintro e w2 ⟨rfl,rfl⟩)
  | go_in)
 refine bodyPost_ret (zaj rfl _ _ _ [.int .i64 k,.int .i64 th,.int .i64 th,.int .i64 (max 0 (fl-n)),.int .i64 ac,.int .i64 la,.int .i64 og,.int .i64 st,.int .i64 fr,.bool false] rfl (zbm (by go_simp) (by go_simp) (by go_simp) (by go_simp) (by go_simp) (by go_simp) (by go_simp) (by go_simp) (by go_simp) (by go_simp)) Tryz.underlying44 rfl (by kernel_rfl)) rfl ?_
 exact ⟨rfl,by go_grown⟩
theorem zkf {k wn th fl ac la og st fr n now:Int} (w:World) (h1:ccB k wn th fl ac la og st fr=true) (h2:zj7 n=true) (h3:zau now=true) (h6:¬st=0):Calls Tryz.prog 76 #[.agg #[.int .i64 k,.int .i64 wn,.int .i64 th,.int .i64 fl,.int .i64 ac,.int .i64 la,.int .i64 og,.int .i64 st,.int .i64 fr,.bool false],.int .i64 n,.int .i64 now] w fun e w'=>e=.returned (.agg #[.int .i64 k,.int .i64 (wnW wn (frW wn fr n) (tgW wn la og (zqr st now))),.int .i64 th,.int .i64 (max 0 (fl-n)),.int .i64 ac,.int .i64 la,.int .i64 og,.int .i64 st,.int .i64 (frW wn fr n),.bool false])∧Below w.heap.size w w':=by
 obtain ⟨_,⟨wn0,wn1⟩,⟨th0,th1⟩,⟨fl0,fl1⟩,_,⟨la0,la1⟩,⟨og0,og1⟩,⟨st0,st1⟩,fr0,fr1⟩:=zcu h1
 obtain ⟨n0,n1⟩:=ze6 h2
 have r1:IntKind.i64.wrap (fl-n)=fl-n:=by rw [IntKind.wrap_i64];omega
 have t0:0≤now∧now≤1000000000000000:=by
  have h3':=h3
  unfold zau at h3'
  simp only [Bool.and_eq_true,decide_eq_true_eq] at h3'
  exact h3'
 obtain ⟨t0,t1⟩:=t0
 obtain ⟨gx,hgx⟩:∃x,max 0 (fl-n)=x:=⟨_,rfl⟩
 have m1:∀w:World,Calls Tryz.prog 83 #[.int .i64 0,.int .i64 (fl-n)] w fun e w'=>e=.returned (.int .i64 gx)∧w'=w:=fun w=>by rw [←hgx];exact zav _ _ _
 rw [hgx]
 have d0:0≤n*9*1500:=by omega
 have q1:IntKind.i64.wrap (n*9)=n*9:=by rw [IntKind.wrap_i64];omega
 have q2:IntKind.i64.wrap (n*9*1500)=n*9*1500:=by rw [IntKind.wrap_i64];omega
 have q3:IntKind.i64.wrap (17*wn)=17*wn:=by rw [IntKind.wrap_i64];omega
 have q4:¬17*wn=0:=by omega
 have q5:(n*9*1500).tdiv (17*wn)=n*9*1500 / (17*wn):=Int.tdiv_eq_ediv_of_nonneg d0
 obtain ⟨Q,hQ⟩:∃x,n*9*1500 / (17*wn)=x:=⟨_,rfl⟩
 have Q0:0≤Q:=by rw [←hQ];exact Int.ediv_nonneg d0 (by omega)
 have Q1:Q≤13500000000000:=by rw [←hQ];exact Int.le_trans (Int.ediv_le_self _ d0) (by omega)
 rw [hQ] at q5
 have q6:IntKind.i64.wrap Q=Q:=by rw [IntKind.wrap_i64];omega
 have q7:IntKind.i64.wrap (fr+Q)=fr+Q:=by rw [IntKind.wrap_i64];omega
 obtain ⟨fx,hfx⟩:∃x,frW wn fr n=x:=⟨_,rfl⟩
 have m4:∀w:World,Calls Tryz.prog 84 #[.int .i64 1000000000,.int .i64 (fr+Q)] w fun e w'=>e=.returned (.int .i64 fx)∧w'=w:=fun w=>by rw [←hfx,←hQ];exact za9 _ _ _
 rw [hfx]
 obtain ⟨dx,hdx⟩:∃x,max 0 (now-st)=x:=⟨_,rfl⟩
 have m5:∀w:World,Calls Tryz.prog 83 #[.int .i64 0,.int .i64 (now-st)] w fun e w'=>e=.returned (.int .i64 dx)∧w'=w:=fun w=>by rw [←hdx];exact zav _ _ _
 have q8:IntKind.i64.wrap (now-st)=now-st:=by rw [IntKind.wrap_i64];omega
 have dx0:0≤dx∧dx≤1000000000000000:=by omega
 have q9:=zem dx0.1 1000000
 have q10:IntKind.i64.wrap (dx / 1000000)=dx / 1000000:=by rw [IntKind.wrap_i64];omega
 obtain ⟨mx,hmx⟩:∃x,zqr st now=x:=⟨_,rfl⟩
 have m6:∀w:World,Calls Tryz.prog 84 #[.int .i64 1000000,.int .i64 (dx / 1000000)] w fun e w'=>e=.returned (.int .i64 mx)∧w'=w:=fun w=>by rw [←hmx,←hdx];exact za9 _ _ _
 rw [hmx]
 obtain ⟨cx,hcx⟩:∃x,zf9 la og mx=x:=⟨_,rfl⟩
 have m7:∀w:World,Calls Tryz.prog 137 #[.int .i64 la,.int .i64 og,.int .i64 mx] w fun e w'=>e=.returned (.int .i64 cx)∧w'=w:=fun w=>by rw [←hcx];exact zdp _ _ _ _
 have q11:IntKind.i64.wrap (3*wn)=3*wn:=by rw [IntKind.wrap_i64];omega
 have q12:=zem (x:=3*wn) (by omega) 2
 have q13:IntKind.i64.wrap (3*wn / 2)=3*wn / 2:=by rw [IntKind.wrap_i64];omega
 obtain ⟨tx,htx⟩:∃x,tgW wn la og mx=x:=⟨_,rfl⟩
 have m8:∀w:World,Calls Tryz.prog 84 #[.int .i64 cx,.int .i64 (3*wn / 2)] w fun e w'=>e=.returned (.int .i64 tx)∧w'=w:=fun w=>by rw [←htx];unfold tgW;rw [hcx];exact za9 _ _ _
 rw [htx]
 obtain ⟨ux,hux⟩:∃x,max fx tx=x:=⟨_,rfl⟩
 have m9:∀w:World,Calls Tryz.prog 83 #[.int .i64 fx,.int .i64 tx] w fun e w'=>e=.returned (.int .i64 ux)∧w'=w:=fun w=>by rw [←hux];exact zav _ _ _
 obtain ⟨vx,hvx⟩:∃x,max wn ux=x:=⟨_,rfl⟩
 have m10:∀w:World,Calls Tryz.prog 83 #[.int .i64 wn,.int .i64 ux] w fun e w'=>e=.returned (.int .i64 vx)∧w'=w:=fun w=>by rw [←hvx];exact zav _ _ _
 obtain ⟨zx,hzx⟩:∃x,wnW wn fx tx=x:=⟨_,rfl⟩
 have m11:∀w:World,Calls Tryz.prog 84 #[.int .i64 1000000000,.int .i64 vx] w fun e w'=>e=.returned (.int .i64 zx)∧w'=w:=fun w=>by rw [←hzx,←hvx,←hux];exact za9 _ _ _
 rw [hzx]
 clear hzx hvx hux htx hcx hmx hdx hfx hQ hgx
 go_enter Tryz.func76,Tryz.ntmps76
 go_wp2_with (first
  | (go_at_call 135;refine (zaw h1 _ _).mono ?_;rintro e w2 ⟨rfl,rfl⟩)
  | (go_at_call 48;refine (zj8 h2 _).mono ?_;rintro e w2 ⟨rfl,rfl⟩)
  | (go_at_call 89;refine (zf8 h3 _).mono ?_;rintro e w2 ⟨rfl,rfl⟩)
  | (go_at_call 83;refine (m1 _).mono ?_;rintro e w2 ⟨rfl,rfl⟩))
 refine zbk (S:=fun w'=>w'.cell? ⟨w.heap.size,8,none⟩=some (.int .i64 fr)∧w'.cell? ⟨w.heap.size,1,none⟩=some (.int .i64 wn)) 12 (by kernel_rfl) (⟨by go_simp,by go_simp⟩) (fun hS=>?_)
 refine zae 0 rfl ?_
 refine zae 1 rfl ?_
 refine zae 2 rfl ?_
 refine zae 3 rfl ?_
 refine zae 4 rfl ?_
 refine zae 5 rfl ?_
 refine zae 6 rfl ?_
 refine zae 7 rfl ?_
 refine zae 8 rfl ?_
 refine zae 9 rfl ?_
 refine zai (i:=10) (by kernel_rfl) rfl (fun K hK=>?_)
 go_simp
 (refine (m4 _).mono ?_;rintro e w2 ⟨rfl,rfl⟩)
 refine hK.out _ _ ‹_› fun _=>?_
 try simp only [nrm]
 refine zae 11 rfl ?_
 refine za4 (by kernel_rfl) rfl (by kernel_rfl) (fun K hK=>?_)
 go_simp
 refine hK.out _ _ ?_
 try simp only [nrm]
 go_wp2_with (first
  | (go_at_call 83;refine (m5 _).mono ?_;rintro e w2 ⟨rfl,rfl⟩)
  | (go_at_call 84;(try rw [q9]);refine (m6 _).mono ?_;rintro e w2 ⟨rfl,rfl⟩))
 refine wp_region_held_drew (S:=fun w'=>w'.cell? ⟨w.heap.size,5,none⟩=some (.int .i64 la)∧w'.cell? ⟨w.heap.size,6,none⟩=some (.int .i64 og)∧w'.cell? ⟨w.heap.size,1,none⟩=some (.int .i64 wn)) (by kernel_rfl) (⟨by go_simp,by go_simp,by go_simp⟩) (fun hS=>?_)
 refine zab 0 rfl ?_
 refine zab 1 rfl ?_
 refine zab 2 rfl ?_
 refine zab 3 rfl ?_
 refine zab 4 rfl ?_
 refine zab 6 rfl ?_
 refine zab 7 rfl ?_
 refine zab 8 rfl ?_
 refine zab 9 rfl ?_
 refine zci 5 rfl fun K hK=>?_
 go_simp
 (refine (m7 _).mono ?_;rintro e w2 ⟨rfl,rfl⟩)
 refine hK.out _ _ ‹_› fun _=>?_
 try simp only [nrm]
 refine zci 10 rfl fun K hK=>?_
 go_simp
 (refine (m8 _).mono ?_;rintro e w2 ⟨rfl,rfl⟩)
 refine hK.out _ _ ‹_› fun _=>?_
 try simp only [nrm]
 refine zab 11 rfl ?_
 refine wpAnyH_done (by kernel_rfl) ?_ _
 go_wp2
 refine zbk (S:=fun w'=>w'.cell? ⟨w.heap.size,1,none⟩=some (.int .i64 wn)∧w'.cell? ⟨w.heap.size,8,none⟩=some (.int .i64 fx)) 9 (by kernel_rfl) (⟨by go_simp,by go_simp⟩) (fun hS=>?_)
 refine zae 0 rfl ?_
 refine zae 1 rfl ?_
 refine zae 2 rfl ?_
 refine zae 3 rfl ?_
 refine zae 4 rfl ?_
 refine zai (i:=5) (by kernel_rfl) rfl (fun K hK=>?_)
 go_simp
 (refine (m9 _).mono ?_;rintro e w2 ⟨rfl,rfl⟩)
 refine hK.out _ _ ‹_› fun _=>?_
 try simp only [nrm]
 refine zai (i:=6) (by kernel_rfl) rfl (fun K hK=>?_)
 go_simp
 (refine (m10 _).mono ?_;rintro e w2 ⟨rfl,rfl⟩)
 refine hK.out _ _ ‹_› fun _=>?_
 try simp only [nrm]
 refine zai (i:=7) (by kernel_rfl) rfl (fun K hK=>?_)
 go_simp
 (refine (m11 _).mono ?_;rintro e w2 ⟨rfl,rfl⟩)
 refine hK.out _ _ ‹_› fun _=>?_
 try simp only [nrm]
 refine zae 8 rfl ?_
 refine za4 (by kernel_rfl) rfl (by kernel_rfl) (fun K hK=>?_)
 go_simp
 refine hK.out _ _ ?_
 try simp only [nrm]
 go_wp2
 refine bodyPost_ret (zaj rfl _ _ _ [.int .i64 k,.int .i64 zx,.int .i64 th,.int .i64 gx,.int .i64 ac,.int .i64 la,.int .i64 og,.int .i64 st,.int .i64 fx,.bool false] rfl (zbm (by go_simp) (by go_simp) (by go_simp) (by go_simp) (by go_simp) (by go_simp) (by go_simp) (by go_simp) (by go_simp) (by go_simp)) Tryz.underlying44 rfl (by kernel_rfl)) rfl ?_
 exact ⟨rfl,by go_grown⟩
theorem zje {k wn th fl ac la og st fr n now:Int} (w:World) (h1:ccB k wn th fl ac la og st fr=true) (h2:zj7 n=true) (h3:zau now=true) (h5:th≤wn) (h6:¬st=0):Calls Tryz.prog 76 #[.agg #[.int .i64 k,.int .i64 wn,.int .i64 th,.int .i64 fl,.int .i64 ac,.int .i64 la,.int .i64 og,.int .i64 st,.int .i64 fr,.bool true],.int .i64 n,.int .i64 now] w fun e w'=>e=.returned (.agg #[.int .i64 k,.int .i64 (wnW wn (frW wn fr n) (tgW wn la og (zqr st now))),.int .i64 th,.int .i64 (max 0 (fl-n)),.int .i64 ac,.int .i64 la,.int .i64 og,.int .i64 st,.int .i64 (frW wn fr n),.bool true])∧Below w.heap.size w w':=by
 obtain ⟨_,⟨wn0,wn1⟩,⟨th0,th1⟩,⟨fl0,fl1⟩,_,⟨la0,la1⟩,⟨og0,og1⟩,⟨st0,st1⟩,fr0,fr1⟩:=zcu h1
 obtain ⟨n0,n1⟩:=ze6 h2
 have r1:IntKind.i64.wrap (fl-n)=fl-n:=by rw [IntKind.wrap_i64];omega
 have t0:0≤now∧now≤1000000000000000:=by
  have h3':=h3
  unfold zau at h3'
  simp only [Bool.and_eq_true,decide_eq_true_eq] at h3'
  exact h3'
 obtain ⟨t0,t1⟩:=t0
 have h5':¬wn<th:=by omega
 obtain ⟨gx,hgx⟩:∃x,max 0 (fl-n)=x:=⟨_,rfl⟩
 have m1:∀w:World,Calls Tryz.prog 83 #[.int .i64 0,.int .i64 (fl-n)] w fun e w'=>e=.returned (.int .i64 gx)∧w'=w:=fun w=>by rw [←hgx];exact zav _ _ _
 rw [hgx]
 have d0:0≤n*9*1500:=by omega
 have q1:IntKind.i64.wrap (n*9)=n*9:=by rw [IntKind.wrap_i64];omega
 have q2:IntKind.i64.wrap (n*9*1500)=n*9*1500:=by rw [IntKind.wrap_i64];omega
 have q3:IntKind.i64.wrap (17*wn)=17*wn:=by rw [IntKind.wrap_i64];omega
 have q4:¬17*wn=0:=by omega
 have q5:(n*9*1500).tdiv (17*wn)=n*9*1500 / (17*wn):=Int.tdiv_eq_ediv_of_nonneg d0
 obtain ⟨Q,hQ⟩:∃x,n*9*1500 / (17*wn)=x:=⟨_,rfl⟩
 have Q0:0≤Q:=by rw [←hQ];exact Int.ediv_nonneg d0 (by omega)
 have Q1:Q≤13500000000000:=by rw [←hQ];exact Int.le_trans (Int.ediv_le_self _ d0) (by omega)
 rw [hQ] at q5
 have q6:IntKind.i64.wrap Q=Q:=by rw [IntKind.wrap_i64];omega
 have q7:IntKind.i64.wrap (fr+Q)=fr+Q:=by rw [IntKind.wrap_i64];omega
 obtain ⟨fx,hfx⟩:∃x,frW wn fr n=x:=⟨_,rfl⟩
 have m4:∀w:World,Calls Tryz.prog 84 #[.int .i64 1000000000,.int .i64 (fr+Q)] w fun e w'=>e=.returned (.int .i64 fx)∧w'=w:=fun w=>by rw [←hfx,←hQ];exact za9 _ _ _
 rw [hfx]
 obtain ⟨dx,hdx⟩:∃x,max 0 (now-st)=x:=⟨_,rfl⟩
 have m5:∀w:World,Calls Tryz.prog 83 #[.int .i64 0,.int .i64 (now-st)] w fun e w'=>e=.returned (.int .i64 dx)∧w'=w:=fun w=>by rw [←hdx];exact zav _ _ _
 have q8:IntKind.i64.wrap (now-st)=now-st:=by rw [IntKind.wrap_i64];omega
 have dx0:0≤dx∧dx≤1000000000000000:=by omega
 have q9:=zem dx0.1 1000000
 have q10:IntKind.i64.wrap (dx / 1000000)=dx / 1000000:=by rw [IntKind.wrap_i64];omega
 obtain ⟨mx,hmx⟩:∃x,zqr st now=x:=⟨_,rfl⟩
 have m6:∀w:World,Calls Tryz.prog 84 #[.int .i64 1000000,.int .i64 (dx / 1000000)] w fun e w'=>e=.returned (.int .i64 mx)∧w'=w:=fun w=>by rw [←hmx,←hdx];exact za9 _ _ _
 rw [hmx]
 obtain ⟨cx,hcx⟩:∃x,zf9 la og mx=x:=⟨_,rfl⟩
 have m7:∀w:World,Calls Tryz.prog 137 #[.int .i64 la,.int .i64 og,.int .i64 mx] w fun e w'=>e=.returned (.int .i64 cx)∧w'=w:=fun w=>by rw [←hcx];exact zdp _ _ _ _
 have q11:IntKind.i64.wrap (3*wn)=3*wn:=by rw [IntKind.wrap_i64];omega
 have q12:=zem (x:=3*wn) (by omega) 2
 have q13:IntKind.i64.wrap (3*wn / 2)=3*wn / 2:=by rw [IntKind.wrap_i64];omega
 obtain ⟨tx,htx⟩:∃x,tgW wn la og mx=x:=⟨_,rfl⟩
 have m8:∀w:World,Calls Tryz.prog 84 #[.int .i64 cx,.int .i64 (3*wn / 2)] w fun e w'=>e=.returned (.int .i64 tx)∧w'=w:=fun w=>by rw [←htx];unfold tgW;rw [hcx];exact za9 _ _ _
 rw [htx]
 obtain ⟨ux,hux⟩:∃x,max fx tx=x:=⟨_,rfl⟩
 have m9:∀w:World,Calls Tryz.prog 83 #[.int .i64 fx,.int .i64 tx] w fun e w'=>e=.returned (.int .i64 ux)∧w'=w:=fun w=>by rw [←hux];exact zav _ _ _
 obtain ⟨vx,hvx⟩:∃x,max wn ux=x:=⟨_,rfl⟩
 have m10:∀w:World,Calls Tryz.prog 83 #[.int .i64 wn,.int .i64 ux] w fun e w'=>e=.returned (.int .i64 vx)∧w'=w:=fun w=>by rw [←hvx];exact zav _ _ _
 obtain ⟨zx,hzx⟩:∃x,wnW wn fx tx=x:=⟨_,rfl⟩
 have m11:∀w:World,Calls Tryz.prog 84 #[.int .i64 1000000000,.int .i64 vx] w fun e w'=>e=.returned (.int .i64 zx)∧w'=w:=fun w=>by rw [←hzx,←hvx,←hux];exact za9 _ _ _
 rw [hzx]
 clear hzx hvx hux htx hcx hmx hdx hfx hQ hgx
 go_enter Tryz.func76,Tryz.ntmps76
 go_wp2_with (first
  | (go_at_call 135;refine (zaw h1 _ _).mono ?_;rintro e w2 ⟨rfl,rfl⟩)
  | (go_at_call 48;refine (zj8 h2 _).mono ?_;rintro e w2 ⟨rfl,rfl⟩)
  | (go_at_call 89;refine (zf8 h3 _).mono ?_;rintro e w2 ⟨rfl,rfl⟩)
  | (go_at_call 83;refine (m1 _).mono ?_;rintro e w2 ⟨rfl,rfl⟩))
 refine zbk (S:=fun w'=>w'.cell? ⟨w.heap.size,8,none⟩=some (.int .i64 fr)∧w'.cell? ⟨w.heap.size,1,none⟩=some (.int .i64 wn)) 12 (by kernel_rfl) (⟨by go_simp,by go_simp⟩) (fun hS=>?_)
 refine zae 0 rfl ?_
 refine zae 1 rfl ?_
 refine zae 2 rfl ?_
 refine zae 3 rfl ?_
 refine zae 4 rfl ?_
 refine zae 5 rfl ?_
 refine zae 6 rfl ?_
 refine zae 7 rfl ?_
 refine zae 8 rfl ?_
 refine zae 9 rfl ?_
 refine zai (i:=10) (by kernel_rfl) rfl (fun K hK=>?_)
 go_simp
 (refine (m4 _).mono ?_;rintro e w2 ⟨rfl,rfl⟩)
 refine hK.out _ _ ‹_› fun _=>?_
 try simp only [nrm]
 refine zae 11 rfl ?_
 refine za4 (by kernel_rfl) rfl (by kernel_rfl) (fun K hK=>?_)
 go_simp
 refine hK.out _ _ ?_
 try simp only [nrm]
 go_wp2_with (first
  | (go_at_call 83;refine (m5 _).mono ?_;rintro e w2 ⟨rfl,rfl⟩)
  | (go_at_call 84;(try rw [q9]);refine (m6 _).mono ?_;rintro e w2 ⟨rfl,rfl⟩))
 refine wp_region_held_drew (S:=fun w'=>w'.cell? ⟨w.heap.size,5,none⟩=some (.int .i64 la)∧w'.cell? ⟨w.heap.size,6,none⟩=some (.int .i64 og)∧w'.cell? ⟨w.heap.size,1,none⟩=some (.int .i64 wn)) (by kernel_rfl) (⟨by go_simp,by go_simp,by go_simp⟩) (fun hS=>?_)
 refine zab 0 rfl ?_
 refine zab 1 rfl ?_
 refine zab 2 rfl ?_
 refine zab 3 rfl ?_
 refine zab 4 rfl ?_
 refine zab 6 rfl ?_
 refine zab 7 rfl ?_
 refine zab 8 rfl ?_
 refine zab 9 rfl ?_
 refine zci 5 rfl fun K hK=>?_
 go_simp
 (refine (m7 _).mono ?_;rintro e w2 ⟨rfl,rfl⟩)
 refine hK.out _ _ ‹_› fun _=>?_
 try simp only [nrm]
 refine zci 10 rfl fun K hK=>?_
 go_simp
 (refine (m8 _).mono ?_;rintro e w2 ⟨rfl,rfl⟩)
 refine hK.out _ _ ‹_› fun _=>?_
 try simp only [nrm]
 refine zab 11 rfl ?_
 refine wpAnyH_done (by kernel_rfl) ?_ _
 go_wp2
 refine zbk (S:=fun w'=>w'.cell? ⟨w.heap.size,1,none⟩=some (.int .i64 wn)∧w'.cell? ⟨w.heap.size,8,none⟩=some (.int .i64 fx)) 9 (by kernel_rfl) (⟨by go_simp,by go_simp⟩) (fun hS=>?_)
 refine zae 0 rfl ?_
 refine zae 1 rfl ?_
 refine zae 2 rfl ?_
 refine zae 3 rfl ?_
 refine zae 4 rfl ?_
 refine zai (i:=5) (by kernel_rfl) rfl (fun K hK=>?_)
 go_simp
 (refine (m9 _).mono ?_;rintro e w2 ⟨rfl,rfl⟩)
 refine hK.out _ _ ‹_› fun _=>?_
 try simp only [nrm]
 refine zai (i:=6) (by kernel_rfl) rfl (fun K hK=>?_)
 go_simp
 (refine (m10 _).mono ?_;rintro e w2 ⟨rfl,rfl⟩)
 refine hK.out _ _ ‹_› fun _=>?_
 try simp only [nrm]
 refine zai (i:=7) (by kernel_rfl) rfl (fun K hK=>?_)
 go_simp
 (refine (m11 _).mono ?_;rintro e w2 ⟨rfl,rfl⟩)
 refine hK.out _ _ ‹_› fun _=>?_
 try simp only [nrm]
 refine zae 8 rfl ?_
 refine za4 (by kernel_rfl) rfl (by kernel_rfl) (fun K hK=>?_)
 go_simp
 refine hK.out _ _ ?_
 try simp only [nrm]
 go_wp2
 refine bodyPost_ret (zaj rfl _ _ _ [.int .i64 k,.int .i64 zx,.int .i64 th,.int .i64 gx,.int .i64 ac,.int .i64 la,.int .i64 og,.int .i64 st,.int .i64 fx,.bool true] rfl (zbm (by go_simp) (by go_simp) (by go_simp) (by go_simp) (by go_simp) (by go_simp) (by go_simp) (by go_simp) (by go_simp) (by go_simp)) Tryz.underlying44 rfl (by kernel_rfl)) rfl ?_
 exact ⟨rfl,by go_grown⟩
theorem zkg {k wn th fl ac la og fr n now:Int} (w:World) (h1:ccB k wn th fl ac la og 0 fr=true) (h2:zj7 n=true) (h3:zau now=true):Calls Tryz.prog 76 #[.agg #[.int .i64 k,.int .i64 wn,.int .i64 th,.int .i64 fl,.int .i64 ac,.int .i64 la,.int .i64 og,.int .i64 0,.int .i64 fr,.bool false],.int .i64 n,.int .i64 now] w fun e w'=>e=.returned (.agg #[.int .i64 k,.int .i64 (wnW wn (frW wn wn n) (tgW wn (max la wn) wn (zqr (max 1 now) now))),.int .i64 th,.int .i64 (max 0 (fl-n)),.int .i64 ac,.int .i64 (max la wn),.int .i64 wn,.int .i64 (max 1 now),.int .i64 (frW wn wn n),.bool false])∧Below w.heap.size w w':=by
 obtain ⟨_,⟨wn0,wn1⟩,⟨th0,th1⟩,⟨fl0,fl1⟩,_,⟨la0,la1⟩,⟨og0,og1⟩,⟨st0,st1⟩,fr0,fr1⟩:=zcu h1
 obtain ⟨n0,n1⟩:=ze6 h2
 have r1:IntKind.i64.wrap (fl-n)=fl-n:=by rw [IntKind.wrap_i64];omega
 have t0:0≤now∧now≤1000000000000000:=by
  have h3':=h3
  unfold zau at h3'
  simp only [Bool.and_eq_true,decide_eq_true_eq] at h3'
  exact h3'
 obtain ⟨t0,t1⟩:=t0
 obtain ⟨gx,hgx⟩:∃x,max 0 (fl-n)=x:=⟨_,rfl⟩
 have m1:∀w:World,Calls Tryz.prog 83 #[.int .i64 0,.int .i64 (fl-n)] w fun e w'=>e=.returned (.int .i64 gx)∧w'=w:=fun w=>by rw [←hgx];exact zav _ _ _
 obtain ⟨lx,hlx⟩:∃x,max la wn=x:=⟨_,rfl⟩
 have m2:∀w:World,Calls Tryz.prog 83 #[.int .i64 la,.int .i64 wn] w fun e w'=>e=.returned (.int .i64 lx)∧w'=w:=fun w=>by rw [←hlx];exact zav _ _ _
 obtain ⟨sx,hsx⟩:∃x,max 1 now=x:=⟨_,rfl⟩
 have m3:∀w:World,Calls Tryz.prog 83 #[.int .i64 1,.int .i64 now] w fun e w'=>e=.returned (.int .i64 sx)∧w'=w:=fun w=>by rw [←hsx];exact zav _ _ _
 have sx0:1≤sx∧sx≤1000000000000000:=by omega
 have lx0:0≤lx∧lx≤1000000000:=by omega
 rw [hlx,hsx]
 rw [hgx]
 have d0:0≤n*9*1500:=by omega
 have q1:IntKind.i64.wrap (n*9)=n*9:=by rw [IntKind.wrap_i64];omega
 have q2:IntKind.i64.wrap (n*9*1500)=n*9*1500:=by rw [IntKind.wrap_i64];omega
 have q3:IntKind.i64.wrap (17*wn)=17*wn:=by rw [IntKind.wrap_i64];omega
 have q4:¬17*wn=0:=by omega
 have q5:(n*9*1500).tdiv (17*wn)=n*9*1500 / (17*wn):=Int.tdiv_eq_ediv_of_nonneg d0
 obtain ⟨Q,hQ⟩:∃x,n*9*1500 / (17*wn)=x:=⟨_,rfl⟩
 have Q0:0≤Q:=by rw [←hQ];exact Int.ediv_nonneg d0 (by omega)
 have Q1:Q≤13500000000000:=by rw [←hQ];exact Int.le_trans (Int.ediv_le_self _ d0) (by omega)
 rw [hQ] at q5
 have q6:IntKind.i64.wrap Q=Q:=by rw [IntKind.wrap_i64];omega
 have q7:IntKind.i64.wrap (wn+Q)=wn+Q:=by rw [IntKind.wrap_i64];omega
 obtain ⟨fx,hfx⟩:∃x,frW wn wn n=x:=⟨_,rfl⟩
 have m4:∀w:World,Calls Tryz.prog 84 #[.int .i64 1000000000,.int .i64 (wn+Q)] w fun e w'=>e=.returned (.int .i64 fx)∧w'=w:=fun w=>by rw [←hfx,←hQ];exact za9 _ _ _
 rw [hfx]
 obtain ⟨dx,hdx⟩:∃x,max 0 (now-sx)=x:=⟨_,rfl⟩
 have m5:∀w:World,Calls Tryz.prog 83 #[.int .i64 0,.int .i64 (now-sx)] w fun e w'=>e=.returned (.int .i64 dx)∧w'=w:=fun w=>by rw [←hdx];exact zav _ _ _
 have q8:IntKind.i64.wrap (now-sx)=now-sx:=by rw [IntKind.wrap_i64];omega
 have dx0:0≤dx∧dx≤1000000000000000:=by omega
 have q9:=zem dx0.1 1000000
 have q10:IntKind.i64.wrap (dx / 1000000)=dx / 1000000:=by rw [IntKind.wrap_i64];omega
 obtain ⟨mx,hmx⟩:∃x,zqr sx now=x:=⟨_,rfl⟩
 have m6:∀w:World,Calls Tryz.prog 84 #[.int .i64 1000000,.int .i64 (dx / 1000000)] w fun e w'=>e=.returned (.int .i64 mx)∧w'=w:=fun w=>by rw [←hmx,←hdx];exact za9 _ _ _
 rw [hmx]
 obtain ⟨cx,hcx⟩:∃x,zf9 lx wn mx=x:=⟨_,rfl⟩
 have m7:∀w:World,Calls Tryz.prog 137 #[.int .i64 lx,.int .i64 wn,.int .i64 mx] w fun e w'=>e=.returned (.int .i64 cx)∧w'=w:=fun w=>by rw [←hcx];exact zdp _ _ _ _
 have q11:IntKind.i64.wrap (3*wn)=3*wn:=by rw [IntKind.wrap_i64];omega
 have q12:=zem (x:=3*wn) (by omega) 2
 have q13:IntKind.i64.wrap (3*wn / 2)=3*wn / 2:=by rw [IntKind.wrap_i64];omega
 obtain ⟨tx,htx⟩:∃x,tgW wn lx wn mx=x:=⟨_,rfl⟩
 have m8:∀w:World,Calls Tryz.prog 84 #[.int .i64 cx,.int .i64 (3*wn / 2)] w fun e w'=>e=.returned (.int .i64 tx)∧w'=w:=fun w=>by rw [←htx];unfold tgW;rw [hcx];exact za9 _ _ _
 rw [htx]
 obtain ⟨ux,hux⟩:∃x,max fx tx=x:=⟨_,rfl⟩
 have m9:∀w:World,Calls Tryz.prog 83 #[.int .i64 fx,.int .i64 tx] w fun e w'=>e=.returned (.int .i64 ux)∧w'=w:=fun w=>by rw [←hux];exact zav _ _ _
 obtain ⟨vx,hvx⟩:∃x,max wn ux=x:=⟨_,rfl⟩
 have m10:∀w:World,Calls Tryz.prog 83 #[.int .i64 wn,.int .i64 ux] w fun e w'=>e=.returned (.int .i64 vx)∧w'=w:=fun w=>by rw [←hvx];exact zav _ _ _
 obtain ⟨zx,hzx⟩:∃x,wnW wn fx tx=x:=⟨_,rfl⟩
 have m11:∀w:World,Calls Tryz.prog 84 #[.int .i64 1000000000,.int .i64 vx] w fun e w'=>e=.returned (.int .i64 zx)∧w'=w:=fun w=>by rw [←hzx,←hvx,←hux];exact za9 _ _ _
 rw [hzx]
 clear hzx hvx hux htx hcx hmx hdx hfx hQ hgx hlx hsx
 go_enter Tryz.func76,Tryz.ntmps76
 go_wp2_with (first
  | (go_at_call 135;refine (zaw h1 _ _).mono ?_;rintro e w2 ⟨rfl,rfl⟩)
  | (go_at_call 48;refine (zj8 h2 _).mono ?_;rintro e w2 ⟨rfl,rfl⟩)
  | (go_at_call 89;refine (zf8 h3 _).mono ?_;rintro e w2 ⟨rfl,rfl⟩)
  | (go_at_call 83;refine (m1 _).mono ?_;rintro e w2 ⟨rfl,rfl⟩)
  | (go_at_call 83;refine (m2 _).mono ?_;rintro e w2 ⟨rfl,rfl⟩)
  | (go_at_call 83;refine (m3 _).mono ?_;rintro e w2 ⟨rfl,rfl⟩))
 refine zbk (S:=fun w'=>w'.cell? ⟨w.heap.size,8,none⟩=some (.int .i64 wn)∧w'.cell? ⟨w.heap.size,1,none⟩=some (.int .i64 wn)) 12 (by kernel_rfl) (⟨by go_simp,by go_simp⟩) (fun hS=>?_)
 refine zae 0 rfl ?_
 refine zae 1 rfl ?_
 refine zae 2 rfl ?_
 refine zae 3 rfl ?_
 refine zae 4 rfl ?_
 refine zae 5 rfl ?_
 refine zae 6 rfl ?_
 refine zae 7 rfl ?_
 refine zae 8 rfl ?_
 refine zae 9 rfl ?_
 refine zai (i:=10) (by kernel_rfl) rfl (fun K hK=>?_)
 go_simp
 (refine (m4 _).mono ?_;rintro e w2 ⟨rfl,rfl⟩)
 refine hK.out _ _ ‹_› fun _=>?_
 try simp only [nrm]
 refine zae 11 rfl ?_
 refine za4 (by kernel_rfl) rfl (by kernel_rfl) (fun K hK=>?_)
 go_simp
 refine hK.out _ _ ?_
 try simp only [nrm]
 go_wp2_with (first
  | (go_at_call 83;refine (m5 _).mono ?_;rintro e w2 ⟨rfl,rfl⟩)
  | (go_at_call 84;(try rw [q9]);refine (m6 _).mono ?_;rintro e w2 ⟨rfl,rfl⟩))
 refine wp_region_held_drew (S:=fun w'=>w'.cell? ⟨w.heap.size,5,none⟩=some (.int .i64 lx)∧w'.cell? ⟨w.heap.size,6,none⟩=some (.int .i64 wn)∧w'.cell? ⟨w.heap.size,1,none⟩=some (.int .i64 wn)) (by kernel_rfl) (⟨by go_simp,by go_simp,by go_simp⟩) (fun hS=>?_)
 refine zab 0 rfl ?_
 refine zab 1 rfl ?_
 refine zab 2 rfl ?_
 refine zab 3 rfl ?_
 refine zab 4 rfl ?_
 refine zab 6 rfl ?_
 refine zab 7 rfl ?_
 refine zab 8 rfl ?_
 refine zab 9 rfl ?_
 refine zci 5 rfl fun K hK=>?_
 go_simp
 (refine (m7 _).mono ?_;rintro e w2 ⟨rfl,rfl⟩)
 refine hK.out _ _ ‹_› fun _=>?_
 try simp only [nrm]
 refine zci 10 rfl fun K hK=>?_
 go_simp
 (refine (m8 _).mono ?_;rintro e w2 ⟨rfl,rfl⟩)
 refine hK.out _ _ ‹_› fun _=>?_
 try simp only [nrm]
 refine zab 11 rfl ?_
 refine wpAnyH_done (by kernel_rfl) ?_ _
 go_wp2
 refine zbk (S:=fun w'=>w'.cell? ⟨w.heap.size,1,none⟩=some (.int .i64 wn)∧w'.cell? ⟨w.heap.size,8,none⟩=some (.int .i64 fx)) 9 (by kernel_rfl) (⟨by go_simp,by go_simp⟩) (fun hS=>?_)
 refine zae 0 rfl ?_
 refine zae 1 rfl ?_
 refine zae 2 rfl ?_
 refine zae 3 rfl ?_
 refine zae 4 rfl ?_
 refine zai (i:=5) (by kernel_rfl) rfl (fun K hK=>?_)
 go_simp
 (refine (m9 _).mono ?_;rintro e w2 ⟨rfl,rfl⟩)
 refine hK.out _ _ ‹_› fun _=>?_
 try simp only [nrm]
 refine zai (i:=6) (by kernel_rfl) rfl (fun K hK=>?_)
 go_simp
 (refine (m10 _).mono ?_;rintro e w2 ⟨rfl,rfl⟩)
 refine hK.out _ _ ‹_› fun _=>?_
 try simp only [nrm]
 refine zai (i:=7) (by kernel_rfl) rfl (fun K hK=>?_)
 go_simp
 (refine (m11 _).mono ?_;rintro e w2 ⟨rfl,rfl⟩)
 refine hK.out _ _ ‹_› fun _=>?_
 try simp only [nrm]
 refine zae 8 rfl ?_
 refine za4 (by kernel_rfl) rfl (by kernel_rfl) (fun K hK=>?_)
 go_simp
 refine hK.out _ _ ?_
 try simp only [nrm]
 go_wp2
 refine bodyPost_ret (zaj rfl _ _ _ [.int .i64 k,.int .i64 zx,.int .i64 th,.int .i64 gx,.int .i64 ac,.int .i64 lx,.int .i64 wn,.int .i64 sx,.int .i64 fx,.bool false] rfl (zbm (by go_simp) (by go_simp) (by go_simp) (by go_simp) (by go_simp) (by go_simp) (by go_simp) (by go_simp) (by go_simp) (by go_simp)) Tryz.underlying44 rfl (by kernel_rfl)) rfl ?_
 exact ⟨rfl,by go_grown⟩
theorem zjf {k wn th fl ac la og fr n now:Int} (w:World) (h1:ccB k wn th fl ac la og 0 fr=true) (h2:zj7 n=true) (h3:zau now=true) (h5:th≤wn):Calls Tryz.prog 76 #[.agg #[.int .i64 k,.int .i64 wn,.int .i64 th,.int .i64 fl,.int .i64 ac,.int .i64 la,.int .i64 og,.int .i64 0,.int .i64 fr,.bool true],.int .i64 n,.int .i64 now] w fun e w'=>e=.returned (.agg #[.int .i64 k,.int .i64 (wnW wn (frW wn wn n) (tgW wn (max la wn) wn (zqr (max 1 now) now))),.int .i64 th,.int .i64 (max 0 (fl-n)),.int .i64 ac,.int .i64 (max la wn),.int .i64 wn,.int .i64 (max 1 now),.int .i64 (frW wn wn n),.bool true])∧Below w.heap.size w w':=by
 obtain ⟨_,⟨wn0,wn1⟩,⟨th0,th1⟩,⟨fl0,fl1⟩,_,⟨la0,la1⟩,⟨og0,og1⟩,⟨st0,st1⟩,fr0,fr1⟩:=zcu h1
 obtain ⟨n0,n1⟩:=ze6 h2
 have r1:IntKind.i64.wrap (fl-n)=fl-n:=by rw [IntKind.wrap_i64];omega
 have t0:0≤now∧now≤1000000000000000:=by
  have h3':=h3
  unfold zau at h3'
  simp only [Bool.and_eq_true,decide_eq_true_eq] at h3'
  exact h3'
 obtain ⟨t0,t1⟩:=t0
 have h5':¬wn<th:=by omega
 obtain ⟨gx,hgx⟩:∃x,max 0 (fl-n)=x:=⟨_,rfl⟩
 have m1:∀w:World,Calls Tryz.prog 83 #[.int .i64 0,.int .i64 (fl-n)] w fun e w'=>e=.returned (.int .i64 gx)∧w'=w:=fun w=>by rw [←hgx];exact zav _ _ _
 obtain ⟨lx,hlx⟩:∃x,max la wn=x:=⟨_,rfl⟩
 have m2:∀w:World,Calls Tryz.prog 83 #[.int .i64 la,.int .i64 wn] w fun e w'=>e=.returned (.int .i64 lx)∧w'=w:=fun w=>by rw [←hlx];exact zav _ _ _
 obtain ⟨sx,hsx⟩:∃x,max 1 now=x:=⟨_,rfl⟩
 have m3:∀w:World,Calls Tryz.prog 83 #[.int .i64 1,.int .i64 now] w fun e w'=>e=.returned (.int .i64 sx)∧w'=w:=fun w=>by rw [←hsx];exact zav _ _ _
 have sx0:1≤sx∧sx≤1000000000000000:=by omega
 have lx0:0≤lx∧lx≤1000000000:=by omega
 rw [hlx,hsx]
 rw [hgx]
 have d0:0≤n*9*1500:=by omega
 have q1:IntKind.i64.wrap (n*9)=n*9:=by rw [IntKind.wrap_i64];omega
 have q2:IntKind.i64.wrap (n*9*1500)=n*9*1500:=by rw [IntKind.wrap_i64];omega
 have q3:IntKind.i64.wrap (17*wn)=17*wn:=by rw [IntKind.wrap_i64];omega
 have q4:¬17*wn=0:=by omega
 have q5:(n*9*1500).tdiv (17*wn)=n*9*1500 / (17*wn):=Int.tdiv_eq_ediv_of_nonneg d0
 obtain ⟨Q,hQ⟩:∃x,n*9*1500 / (17*wn)=x:=⟨_,rfl⟩
 have Q0:0≤Q:=by rw [←hQ];exact Int.ediv_nonneg d0 (by omega)
 have Q1:Q≤13500000000000:=by rw [←hQ];exact Int.le_trans (Int.ediv_le_self _ d0) (by omega)
 rw [hQ] at q5
 have q6:IntKind.i64.wrap Q=Q:=by rw [IntKind.wrap_i64];omega
 have q7:IntKind.i64.wrap (wn+Q)=wn+Q:=by rw [IntKind.wrap_i64];omega
 obtain ⟨fx,hfx⟩:∃x,frW wn wn n=x:=⟨_,rfl⟩
 have m4:∀w:World,Calls Tryz.prog 84 #[.int .i64 1000000000,.int .i64 (wn+Q)] w fun e w'=>e=.returned (.int .i64 fx)∧w'=w:=fun w=>by rw [←hfx,←hQ];exact za9 _ _ _
 rw [hfx]
 obtain ⟨dx,hdx⟩:∃x,max 0 (now-sx)=x:=⟨_,rfl⟩
 have m5:∀w:World,Calls Tryz.prog 83 #[.int .i64 0,.int .i64 (now-sx)] w fun e w'=>e=.returned (.int .i64 dx)∧w'=w:=fun w=>by rw [←hdx];exact zav _ _ _
 have q8:IntKind.i64.wrap (now-sx)=now-sx:=by rw [IntKind.wrap_i64];omega
 have dx0:0≤dx∧dx≤1000000000000000:=by omega
 have q9:=zem dx0.1 1000000
 have q10:IntKind.i64.wrap (dx / 1000000)=dx / 1000000:=by rw [IntKind.wrap_i64];omega
 obtain ⟨mx,hmx⟩:∃x,zqr sx now=x:=⟨_,rfl⟩
 have m6:∀w:World,Calls Tryz.prog 84 #[.int .i64 1000000,.int .i64 (dx / 1000000)] w fun e w'=>e=.returned (.int .i64 mx)∧w'=w:=fun w=>by rw [←hmx,←hdx];exact za9 _ _ _
 rw [hmx]
 obtain ⟨cx,hcx⟩:∃x,zf9 lx wn mx=x:=⟨_,rfl⟩
 have m7:∀w:World,Calls Tryz.prog 137 #[.int .i64 lx,.int .i64 wn,.int .i64 mx] w fun e w'=>e=.returned (.int .i64 cx)∧w'=w:=fun w=>by rw [←hcx];exact zdp _ _ _ _
 have q11:IntKind.i64.wrap (3*wn)=3*wn:=by rw [IntKind.wrap_i64];omega
 have q12:=zem (x:=3*wn) (by omega) 2
 have q13:IntKind.i64.wrap (3*wn / 2)=3*wn / 2:=by rw [IntKind.wrap_i64];omega
 obtain ⟨tx,htx⟩:∃x,tgW wn lx wn mx=x:=⟨_,rfl⟩
 have m8:∀w:World,Calls Tryz.prog 84 #[.int .i64 cx,.int .i64 (3*wn / 2)] w fun e w'=>e=.returned (.int .i64 tx)∧w'=w:=fun w=>by rw [←htx];unfold tgW;rw [hcx];exact za9 _ _ _
 rw [htx]
 obtain ⟨ux,hux⟩:∃x,max fx tx=x:=⟨_,rfl⟩
 have m9:∀w:World,Calls Tryz.prog 83 #[.int .i64 fx,.int .i64 tx] w fun e w'=>e=.returned (.int .i64 ux)∧w'=w:=fun w=>by rw [←hux];exact zav _ _ _
 obtain ⟨vx,hvx⟩:∃x,max wn ux=x:=⟨_,rfl⟩
 have m10:∀w:World,Calls Tryz.prog 83 #[.int .i64 wn,.int .i64 ux] w fun e w'=>e=.returned (.int .i64 vx)∧w'=w:=fun w=>by rw [←hvx];exact zav _ _ _
 obtain ⟨zx,hzx⟩:∃x,wnW wn fx tx=x:=⟨_,rfl⟩
 have m11:∀w:World,Calls Tryz.prog 84 #[.int .i64 1000000000,.int .i64 vx] w fun e w'=>e=.returned (.int .i64 zx)∧w'=w:=fun w=>by rw [←hzx,←hvx,←hux];exact za9 _ _ _
 rw [hzx]
 clear hzx hvx hux htx hcx hmx hdx hfx hQ hgx hlx hsx
 go_enter Tryz.func76,Tryz.ntmps76
 go_wp2_with (first
  | (go_at_call 135;refine (zaw h1 _ _).mono ?_;rintro e w2 ⟨rfl,rfl⟩)
  | (go_at_call 48;refine (zj8 h2 _).mono ?_;rintro e w2 ⟨rfl,rfl⟩)
  | (go_at_call 89;refine (zf8 h3 _).mono ?_;rintro e w2 ⟨rfl,rfl⟩)
  | (go_at_call 83;refine (m1 _).mono ?_;rintro e w2 ⟨rfl,rfl⟩)
  | (go_at_call 83;refine (m2 _).mono ?_;rintro e w2 ⟨rfl,rfl⟩)
  | (go_at_call 83;refine (m3 _).mono ?_;rintro e w2 ⟨rfl,rfl⟩))
 refine zbk (S:=fun w'=>w'.cell? ⟨w.heap.size,8,none⟩=some (.int .i64 wn)∧w'.cell? ⟨w.heap.size,1,none⟩=some (.int .i64 wn)) 12 (by kernel_rfl) (⟨by go_simp,by go_simp⟩) (fun hS=>?_)
 refine zae 0 rfl ?_
 refine zae 1 rfl ?_
 refine zae 2 rfl ?_
 refine zae 3 rfl ?_
 refine zae 4 rfl ?_
 refine zae 5 rfl ?_
 refine zae 6 rfl ?_
 refine zae 7 rfl ?_
 refine zae 8 rfl ?_
 refine zae 9 rfl ?_
 refine zai (i:=10) (by kernel_rfl) rfl (fun K hK=>?_)
 go_simp
 (refine (m4 _).mono ?_;rintro e w2 ⟨rfl,rfl⟩)
 refine hK.out _ _ ‹_› fun _=>?_
 try simp only [nrm]
 refine zae 11 rfl ?_
 refine za4 (by kernel_rfl) rfl (by kernel_rfl) (fun K hK=>?_)
 go_simp
 refine hK.out _ _ ?_
 try simp only [nrm]
 go_wp2_with (first
  | (go_at_call 83;refine (m5 _).mono ?_;rintro e w2 ⟨rfl,rfl⟩)
  | (go_at_call 84;(try rw [q9]);refine (m6 _).mono ?_;rintro e w2 ⟨rfl,rfl⟩))
 refine wp_region_held_drew (S:=fun w'=>w'.cell? ⟨w.heap.size,5,none⟩=some (.int .i64 lx)∧w'.cell? ⟨w.heap.size,6,none⟩=some (.int .i64 wn)∧w'.cell? ⟨w.heap.size,1,none⟩=some (.int .i64 wn)) (by kernel_rfl) (⟨by go_simp,by go_simp,by go_simp⟩) (fun hS=>?_)
 refine zab 0 rfl ?_
 refine zab 1 rfl ?_
 refine zab 2 rfl ?_
 refine zab 3 rfl ?_
 refine zab 4 rfl ?_
 refine zab 6 rfl ?_
 refine zab 7 rfl ?_
 refine zab 8 rfl ?_
 refine zab 9 rfl ?_
 refine zci 5 rfl fun K hK=>?_
 go_simp
 (refine (m7 _).mono ?_;rintro e w2 ⟨rfl,rfl⟩)
 refine hK.out _ _ ‹_› fun _=>?_
 try simp only [nrm]
 refine zci 10 rfl fun K hK=>?_
 go_simp
 (refine (m8 _).mono ?_;rintro e w2 ⟨rfl,rfl⟩)
 refine hK.out _ _ ‹_› fun _=>?_
 try simp only [nrm]
 refine zab 11 rfl ?_
 refine wpAnyH_done (by kernel_rfl) ?_ _
 go_wp2
 refine zbk (S:=fun w'=>w'.cell? ⟨w.heap.size,1,none⟩=some (.int .i64 wn)∧w'.cell? ⟨w.heap.size,8,none⟩=some (.int .i64 fx)) 9 (by kernel_rfl) (⟨by go_simp,by go_simp⟩) (fun hS=>?_)
 refine zae 0 rfl ?_
 refine zae 1 rfl ?_
 refine zae 2 rfl ?_
 refine zae 3 rfl ?_
 refine zae 4 rfl ?_
 refine zai (i:=5) (by kernel_rfl) rfl (fun K hK=>?_)
 go_simp
 (refine (m9 _).mono ?_;rintro e w2 ⟨rfl,rfl⟩)
 refine hK.out _ _ ‹_› fun _=>?_
 try simp only [nrm]
 refine zai (i:=6) (by kernel_rfl) rfl (fun K hK=>?_)
 go_simp
 (refine (m10 _).mono ?_;rintro e w2 ⟨rfl,rfl⟩)
 refine hK.out _ _ ‹_› fun _=>?_
 try simp only [nrm]
 refine zai (i:=7) (by kernel_rfl) rfl (fun K hK=>?_)
 go_simp
 (refine (m11 _).mono ?_;rintro e w2 ⟨rfl,rfl⟩)
 refine hK.out _ _ ‹_› fun _=>?_
 try simp only [nrm]
 refine zae 8 rfl ?_
 refine za4 (by kernel_rfl) rfl (by kernel_rfl) (fun K hK=>?_)
 go_simp
 refine hK.out _ _ ?_
 try simp only [nrm]
 go_wp2
 refine bodyPost_ret (zaj rfl _ _ _ [.int .i64 k,.int .i64 zx,.int .i64 th,.int .i64 gx,.int .i64 ac,.int .i64 lx,.int .i64 wn,.int .i64 sx,.int .i64 fx,.bool true] rfl (zbm (by go_simp) (by go_simp) (by go_simp) (by go_simp) (by go_simp) (by go_simp) (by go_simp) (by go_simp) (by go_simp) (by go_simp)) Tryz.underlying44 rfl (by kernel_rfl)) rfl ?_
 exact ⟨rfl,by go_grown⟩
end Go.Proofs.YthiojkjcmhojoaaGreat
