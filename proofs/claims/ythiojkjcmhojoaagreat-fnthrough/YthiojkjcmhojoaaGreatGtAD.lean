import Derived.Test.YthiojkjcmhojoaaGreatRows
import Derived.Test.YthiojkjcmhojoaaGreatGtAB
import Derived.Handy
import Derived.Test.YthiojkjcmhojoaaGreatGtAA
namespace Go.Proofs.YthiojkjcmhojoaaGreat
set_option maxHeartbeats 400000
open Go.ChangeShapes Go.WideShapes Go.ChangeAt Go.RowKit
set_option maxRecDepth 100000
set_option linter.all false
def znr(n t R:Nat):Prop:=R%2 ^ t=0/\R+2 ^ t<=2097152/\R*R*R<=n/\n<(R+2 ^ t)*(R+2 ^ t)*(R+2 ^ t)
def zhp(n r:Int):Prop:=(n<0/\r = -1)\/(0<=n/\0<=r/\r<=2097151/\r*r*r<=n/\n<(r+1)*(r+1)*(r+1))
theorem zh9{x y:Nat}(h:x<=y):x*x*x<=y*y*y:=Nat.mul_le_mul (Nat.mul_le_mul h h) h
theorem zpy{n:Nat}(h:n<=9223372036854775807):znr n 21 0:=⟨rfl,by decide,by omega,by omega⟩
theorem zvk{n j R M:Nat}(hM:M=R+2 ^ j)(h:znr n (j+1) R)(hc:M*M*M<=n):znr n j M:=by
 obtain⟨h1,h2,h3,h4⟩:=h;have e:M+2 ^ j=R+2 ^ (j+1):=by rw[hM,Nat.pow_succ];omega
 refine⟨?_,by omega,hc,by rw[e];exact h4⟩;rw[Nat.pow_succ]at h1;have h5:R%2 ^ j=0:=by have:=Nat.mod_mul_right_mod R (2 ^ j) 2;rw[h1]at this;simpa using this.symm
 rw[hM,Nat.add_mod,h5];simp
theorem zwy{n j R M:Nat}(hM:M=R+2 ^ j)(h:znr n (j+1) R)(hc:n<M*M*M):znr n j R:=by obtain⟨h1,h2,h3,h4⟩:=h;rw[Nat.pow_succ]at h1 h2;refine⟨?_,by omega,h3,by rw[<-hM];exact hc⟩;have:=Nat.mod_mul_right_mod R (2 ^ j) 2;rw[h1]at this;simpa using this.symm
theorem or_i64{R j:Nat}(h:R%2 ^ (j+1)=0)(h2:R+2 ^ (j+1)<=2097152):bits .or .i64 (R:Int) (wrap64 (2 ^ j))=((R+2 ^ j:Nat):Int):=by
 have p:=Nat.two_pow_pos j;have e:((2:Int) ^ j)=((2 ^ j:Nat):Int):=by simp
 have h3:R+2*2 ^ j<=2097152:=by rw[Nat.pow_succ]at h2;omega
 rw[e,IntWalk.wrap64_in _ (by omega)];rw[bits_join .i64 63 (by decide) zwp (j+1) (R:Int) ((2 ^ j:Nat):Int) (by omega) (by exact_mod_cast h) (by omega) (by omega)
  (by have:2 ^ j<2 ^ (j+1):=by rw[Nat.pow_succ];omega
      exact_mod_cast this) (by omega)]
 simp
theorem zwz{M:Nat}(h:M<=2097151):((M:Int)*M<=4398042316801/\0<=(M:Int)*M)/\((M:Int)*M*M<=9223358842721533951/\0<=(M:Int)*M*M):=by
 have h':(M:Int)<=2097151:=by omega
 have a:=Int.mul_le_mul h' h' (by omega) (by omega:(0:Int)<=2097151);have a0:0<=(M:Int)*M:=Int.mul_nonneg (by omega) (by omega);have b:=Int.mul_le_mul a h' (by omega) (by omega:(0:Int)<=2097151*2097151);exact⟨⟨by omega,a0⟩,by omega,Int.mul_nonneg a0 (by omega)⟩
theorem zns(n:Nat):∀k,n<(k+1)*(k+1)*(k+1)->∃r,r<=k/\r*r*r<=n/\n<(r+1)*(r+1)*(r+1)
 | 0,h=>⟨0,by omega,by omega,h⟩
 | k+1,h=>by
  by_cases hc:(k+1)*(k+1)*(k+1)<=n
  ·exact⟨k+1,by omega,hc,h⟩
  ·obtain⟨r,h1,h2⟩:=zns n k (by omega);exact⟨r,by omega,h2⟩
theorem zr5(n:Int)(h:n<=9223372036854775807):∃r,zhp n r:=by
 by_cases h0:n<0
 ·exact⟨-1,.inl ⟨h0,rfl⟩⟩
 ·obtain⟨N,rfl⟩:=Int.eq_ofNat_of_zero_le (show 0<=n by omega);obtain⟨r,h1,h2,h3⟩:=zns N 2097151 (by omega);exact⟨r,.inr ⟨by omega,by omega,by omega,by exact_mod_cast h2,by exact_mod_cast h3⟩⟩
theorem zr6{n r s:Int}(r0:0<=r)(s0:0<=s)(h1:r*r*r<=n)(h2:n<(r+1)*(r+1)*(r+1))(h3:s*s*s<=n)(h4:n<(s+1)*(s+1)*(s+1)):r=s:=by
 have mono:∀x y:Int,0<=x->x<=y->x*x*x<=y*y*y:=by intro x y hx hy;have h:x*x<=y*y:=Int.mul_le_mul hy hy hx (by omega);exact Int.mul_le_mul h hy hx (Int.mul_nonneg (by omega) (by omega))
 by_cases h:r<s
 ·have:=mono (r+1) s (by omega) (by omega);omega
 ·by_cases h':s<r
  ·have:=mono (s+1) r (by omega) (by omega);omega
  ·omega
theorem znt{N R:Nat}{r:Int}(hr:zhp N r)(h:R*R*R<=N/\N<(R+1)*(R+1)*(R+1)/\R<=2097151):(R:Int)=r:=by
 rcases hr with⟨h0,_⟩|⟨_,h1,h2,h3,h4⟩
 ·omega
 ·exact zr6 (by omega) h1 (by exact_mod_cast h.1) (by exact_mod_cast h.2.1) h3 h4
theorem zr7(n:Nat)(w:World)(h:n<=9223372036854775807):
 Calls Tryz.prog 231 #[.int .i64 n] w fun e w'=>∃r:Nat,e=.returned (.int .i64 r)/\Hid (r*r*r<=n/\n<(r+1)*(r+1)*(r+1)/\r<=2097151)/\w'=w:=by
 go_enter Tryz.func231,Tryz.ntmps231;go_wp2;go_loop [3,4] (fun sr sb=>∃R t:Nat,sr=.int .i64 R/\((sb=.int .i64 (-1)/\t=0)\/(∃j:Nat,t=j+1/\sb=.int .i64 j))/\t<=21/\znr n t R) (fun _ b=>(intOf b+1).toNat);case atStart=>exact⟨0,21,rfl,.inr ⟨20,rfl,rfl⟩,by omega,zpy h⟩
 case round =>
  obtain⟨R,t,rfl,⟨rfl,rfl⟩|⟨j,rfl,rfl⟩,ht,hst⟩:=hrel
  ·go_wp2;go_ret;obtain⟨h1,h2,h3,h4⟩:=hst;exact⟨R,rfl,⟨h3,h4,by omega⟩,rfl⟩
  ·have hj:(j:Int)<=20:=(by omega);have hor:=or_i64 hst.1 hst.2.1;obtain⟨M,hM⟩:∃M:Nat,M=R+2 ^ j:=⟨_,rfl⟩;have hle:M<=2097151:=(by have h2:=hst.2.1;rw[Nat.pow_succ]at h2;have:=Nat.two_pow_pos j;omega);rw[<-hM]at hor;have HM:Hid (M=R+2 ^ j):=hM;clear hM;obtain⟨h2,h3⟩:=zwz hle;by_cases hc:M*M*M<=n
   ·have hc':(M:Int)*M*M<=n:=(by exact_mod_cast hc);have Hst:=zvk HM.out hst hc;clear hst hc;go_wp2;go_round;case rel =>
     refine⟨M,j,rfl,?_,by omega,Hst⟩;cases j with
     | zero=>exact .inl ⟨by go_num,rfl⟩| succ j=>exact .inr ⟨j,rfl,by go_num⟩
    case measure=>simp[intOf]<;>omega
   ·have hc':¬(M:Int)*M*M<=n:=(by exact_mod_cast hc);have Hst:=zwy HM.out hst (by omega);clear hst hc;go_wp2;go_round;case rel =>
     refine⟨R,j,rfl,?_,by omega,Hst⟩;cases j with
     | zero=>exact .inl ⟨by go_num,rfl⟩| succ j=>exact .inr ⟨j,rfl,by go_num⟩
    case measure=>simp[intOf]<;>omega
theorem zjy(n r:Int)(w:World)(hn:n<=9223372036854775807)(hr:zhp n r):
 Calls Tryz.prog 231 #[.int .i64 n] w fun e w'=>e=.returned (.int .i64 r)/\w'=w:=by
 by_cases h0:n<0
 ·obtain rfl:r = -1:=(by rcases hr with h|h<;>omega);clear hr;go_enter Tryz.func231,Tryz.ntmps231;go_wp2;go_ret;exact⟨rfl,rfl⟩
 ·obtain⟨N,rfl⟩:=Int.eq_ofNat_of_zero_le (show 0<=n by omega);refine (zr7 N w (by omega)).mono ?_;rintro e w' ⟨R,rfl,hR,rfl⟩;exact⟨zr0 (znt hr hR.out),rfl⟩
theorem zr8(n:Nat)(w:World)(h:n<=9223372036854775807):
 Calls Tryz.prog 189 #[.int .i64 n] w fun e w'=>∃r:Nat,e=.returned (.int .i64 r)/\Hid (r*r*r<=n/\n<(r+1)*(r+1)*(r+1)/\r<=2097151)/\w'=w:=by
 go_enter Tryz.func189,Tryz.ntmps189;go_wp2;go_loop [3,4] (fun sl sh=>∃lo hi:Nat,sl=.int .i64 lo/\sh=.int .i64 hi/\lo<=hi/\hi<=2097151/\Hid (lo*lo*lo<=n/\n<(hi+1)*(hi+1)*(hi+1))) (fun l h=>(intOf h-intOf l).toNat);case atStart=>exact⟨0,2097151,rfl,rfl,by omega,by omega,⟨by omega,by omega⟩⟩
 case round =>
  obtain⟨lo,hi,rfl,rfl,hlh,hhi,hst⟩:=hrel;by_cases hlt:lo<hi
  ·obtain⟨M,hM⟩:∃M:Nat,M=(lo+hi+1)/2:=⟨_,rfl⟩;have hm:((lo:Int)+(hi:Int)+1)/2=(M:Int):=(by omega);have hle:M<=2097151:=(by omega);have hg1:lo<M:=(by omega);have hg2:M<=hi:=(by omega);clear hM;obtain⟨h2,h3⟩:=zwz hle;by_cases hc:M*M*M<=n
   ·have hc':(M:Int)*M*M<=n:=(by exact_mod_cast hc);have Hst:Hid (M*M*M<=n/\n<(hi+1)*(hi+1)*(hi+1)):=⟨hc,hst.out.2⟩;clear hc hst;go_wp2;go_round;case rel=>exact⟨M,hi,by first|rfl|rw[hm],rfl,by omega,by omega,Hst⟩
    case measure=>simp[intOf]<;>omega
   ·have hc':¬(M:Int)*M*M<=n:=(by exact_mod_cast hc);obtain⟨K,hK⟩:∃K:Nat,M=K+1:=⟨M-1,by omega⟩;have Hst:Hid (lo*lo*lo<=n/\n<(K+1)*(K+1)*(K+1)):=⟨hst.out.1,by rw[<-hK];omega⟩;have HK:Hid (M=K+1):=hK;clear hc hst hK;go_wp2;go_round;case rel=>have:=HK.out;exact⟨lo,K,rfl,by go_num,by omega,by omega,Hst⟩
    case measure=>simp[intOf]<;>omega
  ·have e:lo=hi:=(by omega);subst e;go_wp2;go_ret;exact⟨lo,rfl,⟨hst.out.1,hst.out.2,hhi⟩,rfl⟩
theorem zpz(n r:Int)(w:World)(hn:n<=9223372036854775807)(hr:zhp n r):
 Calls Tryz.prog 189 #[.int .i64 n] w fun e w'=>e=.returned (.int .i64 r)/\w'=w:=by
 by_cases h0:n<0
 ·obtain rfl:r = -1:=(by rcases hr with h|h<;>omega);clear hr;go_enter Tryz.func189,Tryz.ntmps189;go_wp2;go_ret;exact⟨rfl,rfl⟩
 ·obtain⟨N,rfl⟩:=Int.eq_ofNat_of_zero_le (show 0<=n by omega);refine (zr8 N w (by omega)).mono ?_;rintro e w' ⟨R,rfl,hR,rfl⟩;exact⟨zr0 (znt hr hR.out),rfl⟩
def zhq:Nat->Nat->Nat
 | 0,_=>0| m+1,n=>if (m+1)*(m+1)*(m+1)<=n then m+1 else zhq m n
theorem zw0:∀(m n:Nat),zhq m n<=m/\zhq m n*zhq m n*zhq m n<=n/\∀r,r<=m->r*r*r<=n->r<=zhq m n:=by
 intro m n;induction m with
 | zero=>exact⟨nrf _,Nat.zero_le _,fun r hr _=>hr⟩
 | succ m ih =>
  unfold zhq;split
  ·rename_i h;exact⟨nrf _,h,fun r hr _=>hr⟩
  ·rename_i h;refine⟨Nat.le_succ_of_le ih.1,ih.2.1,fun r hr hc=>?_⟩;rcases Nat.lt_or_ge r (m+1) with hl|hl
   ·exact ih.2.2 r (by omega) hc
   ·obtain rfl:r=m+1:=(by omega);exact absurd hc h
def zr9(n:Int):Int:=if n<0 then -1 else ((zhq 2097151 n.toNat:Nat):Int)
theorem zw1{n r s:Int}(h:zhp n r)(k:zhp n s):r=s:=by
 rcases h with⟨h0,rfl⟩|⟨h0,h1,h2,h3,h4⟩
 ·rcases k with⟨k0,rfl⟩|⟨k0,k1,k2,k3,k4⟩
  ·rfl
  ·omega
 ·rcases k with⟨k0,rfl⟩|⟨k0,k1,k2,k3,k4⟩
  ·omega
  ·obtain⟨R,rfl⟩:=Int.eq_ofNat_of_zero_le h1;obtain⟨S,rfl⟩:=Int.eq_ofNat_of_zero_le k1;obtain⟨N,rfl⟩:=Int.eq_ofNat_of_zero_le h0;have a1:R*R*R<=N:=(by exact_mod_cast h3);have a2:N<(R+1)*(R+1)*(R+1):=(by exact_mod_cast h4);have b1:S*S*S<=N:=(by exact_mod_cast k3);have b2:N<(S+1)*(S+1)*(S+1):=(by exact_mod_cast k4);rcases Nat.lt_trichotomy R S with h|h|h
   ·have:=zh9 (show R+1<=S by omega);omega
   ·rw[h]
   ·have:=zh9 (show S+1<=R by omega);omega
theorem zlc{n:Int}(h:n<=9223372036854775807):zhp n (zr9 n):=by
 obtain⟨r,hr⟩:=zr5 n h;by_cases h0:n<0
 ·rw[show zr9 n = -1 from if_pos h0];exact .inl ⟨h0,rfl⟩
 ·have e:zr9 n=((zhq 2097151 n.toNat:Nat):Int):=if_neg h0;rcases hr with⟨hh,_⟩|⟨_,r0,r1,r2,r3⟩
  ·omega
  ·obtain⟨R,rfl⟩:=Int.eq_ofNat_of_zero_le r0;obtain⟨N,rfl⟩:=Int.eq_ofNat_of_zero_le (show 0<=n by omega);rw[Int.toNat_natCast]at e;obtain⟨t1,t2,t3⟩:=zw0 2097151 N;have a1:R*R*R<=N:=(by exact_mod_cast r2);have a2:N<(R+1)*(R+1)*(R+1):=(by exact_mod_cast r3);have hR:=t3 R (by omega) a1;obtain⟨T,hT⟩:∃T,zhq 2097151 N=T:=⟨_,rfl⟩;rw[hT]at e t1 t2 hR;have hTR:T=R:=by
    rcases Nat.lt_or_ge R T with h|h
    ·have:=zh9 (show R+1<=T by omega);omega
    ·omega
   subst hTR;rw[e];exact .inr ⟨by omega,r0,r1,r2,r3⟩
theorem ztz{n:Int}(h0:0<=n)(h1:n<=1000000):(0<=n*n/\n*n<=1000000000000)/\0<=n*n*n/\n*n*n<=1000000000000000000:=by
 obtain⟨N,rfl⟩:=Int.eq_ofNat_of_zero_le h0;have hN:N<=1000000:=by omega
 have a:N*N<=1000000*1000000:=Nat.mul_le_mul hN hN;have b:N*N*N<=1000000*1000000*1000000:=Nat.mul_le_mul a hN;have ha:(0:Int)<=((N*N:Nat):Int)/\((N*N:Nat):Int)<=1000000000000:=by omega
 have hb:(0:Int)<=((N*N*N:Nat):Int)/\((N*N*N:Nat):Int)<=1000000000000000000:=by omega
 push_cast at ha hb;exact⟨ha,hb⟩
def zok(la og:Int):Int:=if la<=og then 0 else zr9 ((la-og)*2500000000/1500)
def zp0(d:Int):Int:=d*d*d*6000/10000000000
def zln(la og ms:Int):Int:=min 1000000000 (max 0 (la+zp0 (ms-zok la og)))
theorem zi0{la og:Int}(h0:0<=og)(h1:la<=1000000000):0<=zok la og/\zok la og<=1000000:=by
 unfold zok;split
 ·omega
 ·rename_i h;have hn:(la-og)*2500000000/1500<=1666666666666667:=(by omega);have hp:0<=(la-og)*2500000000/1500:=(by omega);obtain⟨n,hn'⟩:∃n,(la-og)*2500000000/1500=n:=⟨_,rfl⟩;rw[hn']at hn hp ⊢;rcases zlc (n:=n) (by omega) with⟨hh,_⟩|⟨_,r0,r1,r2,_⟩
  ·omega
  ·refine⟨r0,?_⟩;obtain⟨R,hR⟩:=Int.eq_ofNat_of_zero_le r0;rw[hR]at r2 ⊢;rcases Nat.lt_or_ge 1000000 R with h|h
   ·have:=zh9 (show 1000001<=R by omega);have h2:((R*R*R:Nat):Int)<=n:=(by push_cast;exact r2);omega
   ·omega
theorem z1k{c N q r p y:Int}(hc:0<c)(hN:N=c*q+r)(hr:r*4*1500=c*p+y)(y0:0<=y)(y1:y<c):-N*6000/c=if y=0 then -(N*6000/c) else -(N*6000/c+1):=by
 have e:N*6000=y+c*(6000*q+p):=by rw[hN,Int.add_mul,Int.mul_add,Int.mul_assoc c q,Int.mul_comm q 6000];omega
 have e1:N*6000/c=6000*q+p:=by rw[e,Int.add_mul_ediv_left _ _ (by omega),Int.ediv_eq_zero_of_lt y0 y1];omega
 rw[e1];split
 ·rename_i hy;have:-N*6000=c*-(6000*q+p):=(by rw[Int.neg_mul,e,hy,Int.mul_neg];omega);rw[this,Int.mul_ediv_cancel_left _ (by omega)]
 ·have:-N*6000=(c-y)+c*-(6000*q+p+1):=(by rw[Int.neg_mul,e,Int.mul_neg,Int.mul_add c _ 1];omega);rw[this,Int.add_mul_ediv_left _ _ (by omega),Int.ediv_eq_zero_of_lt (by omega) (by omega)];omega
theorem zw2{n y:Int}(hy:y=n*n*n%10000000000*4*1500%10000000000):zp0 (-n)=if y=0 then -(n*n*n*6000/10000000000) else -(n*n*n*6000/10000000000+1):=by unfold zp0;rw[show -n*-n*-n = -(n*n*n) by rw[Int.neg_mul_neg,Int.mul_neg]];generalize n*n*n=N at hy ⊢;exact z1k (q:=N/10000000000) (r:=N%10000000000) (p:=N%10000000000*4*1500/10000000000) (by decide) (Int.mul_ediv_add_emod _ _).symm (by rw[hy];exact (Int.mul_ediv_add_emod _ _).symm) (by rw[hy];exact Int.emod_nonneg _ (by decide)) (by rw[hy];exact Int.emod_lt_of_pos _ (by decide))
end Go.Proofs.YthiojkjcmhojoaaGreat
