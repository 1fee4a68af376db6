import Derived.Test.YthiojkjcmhojoaaGreatGtZZ
import Derived.WalkKit
import Derived.ProofKit
import Derived.OpenShut
namespace Go.Proofs.YthiojkjcmhojoaaGreat
open Go.RowKit
theorem zr0{k:IntKind}{a b:Int}(h:a=b):Ending.returned (.int k a)=.returned (.int k b):=by rw[h]
theorem zpt(n:Int)(h₀:0<=n)(h₁:n<2 ^ 64):IntKind.u64.wrap n=n:=by rw[IntKind.wrap_u64];omega
theorem zwp(n:Int)(h₀:0<=n)(h₁:n<2 ^ 63):IntKind.i64.wrap n=n:=i64w
theorem zwq(x b:Int)(h₀:0<=x)(h₁:x<18446744073709551616)(he:x%2=0)(b0:0<=b)(b1:b<=1):bits .or .u64 x b=x+b:=by exact bits_join .u64 64 (by decide) zpt 1 x b h₀ (by simpa using he) (by simpa using h₁) b0 (by omega) (by omega)
theorem zr1(N t:Nat):N/2 ^ t=2*(N/2 ^ (t+1))+N/2 ^ t%2:=by rw[Nat.pow_succ,<-Nat.div_div_eq_div_mul];omega
def zhn(hi lo0 c i lo q r:Nat):Prop:=lo=lo0%2 ^ (64-i)*2 ^ i/\q*c+r=hi*2 ^ i+lo0/2 ^ (64-i)/\r<c
section
variable{hi lo0 c i lo q r:Nat}
theorem zwr(hi64:i<=64)(h:zhn hi lo0 c i lo q r):lo<=18446744073709551615:=by obtain⟨rfl,_,_⟩:=h;have h1:lo0%2 ^ (64-i)<2 ^ (64-i):=Nat.mod_lt _ (Nat.two_pow_pos _);have h2:lo0%2 ^ (64-i)*2 ^ i<2 ^ (64-i)*2 ^ i:=Nat.mul_lt_mul_of_pos_right h1 (Nat.two_pow_pos _);rw[<-Nat.pow_add,Nat.sub_add_cancel hi64]at h2;omega
theorem ztw(hi64:i<=64)(hl:lo0<18446744073709551616)(hc:hi<c)(h:zhn hi lo0 c i lo q r):q<2 ^ i:=by
 obtain⟨_,h2,_⟩:=h;have h3:lo0/2 ^ (64-i)<2 ^ i:=by rw[Nat.div_lt_iff_lt_mul (Nat.two_pow_pos _),<-Nat.pow_add,show i+(64-i)=64 by omega];exact hl
 have h4:(hi+1)*2 ^ i<=c*2 ^ i:=Nat.mul_le_mul_right _ hc;have h5:(hi+1)*2 ^ i=hi*2 ^ i+2 ^ i:=by grind
 have h6:q*c<2 ^ i*c:=by have:c*2 ^ i=2 ^ i*c:=Nat.mul_comm _ _;omega
 exact Nat.lt_of_mul_lt_mul_right h6
theorem zvf(hi64:i<64)(hl:lo0<18446744073709551616)(hc:hi<c)(h:zhn hi lo0 c i lo q r):q<=9223372036854775807:=by have h1:=ztw (by omega) hl hc h;have h2:2 ^ i<=2 ^ 63:=Nat.pow_le_pow_right (by decide) (by omega);omega
end
theorem zpu(lo0 i:Nat)(h:i<64):
 (lo0%2 ^ (64-i)*2 ^ i)/9223372036854775808=lo0/2 ^ (63-i)%2 /\
 (lo0%2 ^ (64-i)*2 ^ i)*2%18446744073709551616=lo0%2 ^ (64-(i+1))*2 ^ (i+1) /\
 lo0/2 ^ (64-(i+1))=2*(lo0/2 ^ (64-i))+lo0/2 ^ (63-i)%2:=by
 obtain⟨j,hj⟩:∃j,j+i=63:=⟨63-i,by omega⟩;rw[show 64-i=j+1 by omega,show 63-i=j by omega,show 64-(i+1)=j by omega];have p63:(9223372036854775808:Nat)=2 ^ j*2 ^ i:=by rw[<-Nat.pow_add,hj]
 have p64:(18446744073709551616:Nat)=2 ^ j*2 ^ (i+1):=by rw[<-Nat.pow_add,show j+(i+1)=64 by omega]
 refine⟨?_,?_,zr1 lo0 j⟩
 ·rw[p63,Nat.mul_div_mul_right _ _ (Nat.two_pow_pos i),Nat.pow_succ,Nat.mod_mul_right_div_self]
 ·rw[p64,Nat.mul_assoc,<-Nat.pow_succ,Nat.mul_mod_mul_right,Nat.pow_succ 2 j,Nat.mod_mul_right_mod]
theorem zvg{hi lo0 c i lo q r:Nat}(h64:i<64)(h:zhn hi lo0 c i lo q r)(hc:c<=2*r+lo/9223372036854775808):zhn hi lo0 c (i+1) (lo*2%18446744073709551616) (2*q+1) (2*r+lo/9223372036854775808-c):=by
 obtain⟨rfl,h2,h3⟩:=h;obtain⟨s1,s2,s3⟩:=zpu lo0 i h64;rw[s1]at hc ⊢;refine⟨s2,?_,by omega⟩;rw[s3];have e1:(2*q+1)*c=2*(q*c)+c:=by grind
 have e2:hi*2 ^ (i+1)=2*(hi*2 ^ i):=by rw[Nat.pow_succ];grind
 omega
theorem zws{hi lo0 c i lo q r:Nat}(h64:i<64)(h:zhn hi lo0 c i lo q r)(hc:2*r+lo/9223372036854775808<c):zhn hi lo0 c (i+1) (lo*2%18446744073709551616) (2*q) (2*r+lo/9223372036854775808):=by
 obtain⟨rfl,h2,h3⟩:=h;obtain⟨s1,s2,s3⟩:=zpu lo0 i h64;rw[s1]at hc ⊢;refine⟨s2,?_,by omega⟩;rw[s3];have e1:(2*q)*c=2*(q*c):=by grind
 have e2:hi*2 ^ (i+1)=2*(hi*2 ^ i):=by rw[Nat.pow_succ];grind
 omega
theorem zpv{hi lo0 c:Nat}(hl:lo0<18446744073709551616)(hc:hi<c):zhn hi lo0 c 0 lo0 0 hi:=by refine⟨?_,?_,hc⟩<;>simp<;>omega
theorem zvh{hi lo0 c lo q r:Nat}(h:zhn hi lo0 c 64 lo q r):q=(hi*18446744073709551616+lo0)/c:=by
 obtain⟨_,h2,h3⟩:=h;simp at h2;symm
 exact Nat.div_eq_of_lt_le (by omega) (by have:(q+1)*c=q*c+c:=by grind
                                          omega)
theorem zwt{hi lo0 c:Nat}(h0:0<c)(hc:c<=hi):9223372036854775807<(hi*18446744073709551616+lo0)/c:=by refine (Nat.le_div_iff_mul_le h0).2 ?_;have:c*18446744073709551616<=hi*18446744073709551616:=Nat.mul_le_mul_right _ hc;omega
end Go.Proofs.YthiojkjcmhojoaaGreat
