import Derived.Test.YthiojkjcmhojoaaGreatGtZZ
namespace Go.Proofs.YthiojkjcmhojoaaGreat
def zjx(a b:Int):Int :=
 if 9223372036854775807<a+b then 9223372036854775807 else if a+b < -9223372036854775808 then -9223372036854775808 else a+b
end Go.Proofs.YthiojkjcmhojoaaGreat
namespace Go.Proofs.YthiojkjcmhojoaaGreat
def zwm:Nat->Int->Int->Int × Int
 | 0,a,x=>(a,x)| m+1,a,x=>if x<=a then zwm m (a-x) (min 1000000000 (x+1500)) else (a,x)
theorem zla{m:Nat}{a x:Int}(h:x<=a):zwm (m+1) a x=zwm m (a-x) (min 1000000000 (x+1500)):=if_pos h
theorem zhw{m:Nat}{a x:Int}(h:a<x):zwm m a x=(a,x):=by
 cases m with
 | zero=>rfl| succ m=>exact if_neg (by omega)
theorem zwo:∀{m m':Nat} {a x:Int},3000<=x->0<=a->a.toNat<=m->a.toNat<=m'->zwm m a x=zwm m' a x:=by
 intro m;induction m with
 | zero =>intro m' a x hx ha h h';rw[zhw (by omega),zhw (by omega)]
 | succ m ih =>
  intro m' a x hx ha h h';by_cases hl:x<=a
  ·cases m' with
   | zero=>omega| succ m' =>rw[zla hl,zla hl];exact ih (by omega) (by omega) (by omega) (by omega)
  ·rw[zhw (by omega),zhw (by omega)]
theorem z1h:∀{m:Nat} {a x:Int},3000<=x->x<=1000000000->0<=a->a.toNat<=m->0<=(zwm m a x).1/\(zwm m a x).1<(zwm m a x).2/\x<=(zwm m a x).2/\(zwm m a x).2<=1000000000:=by
 intro m;induction m with
 | zero =>intro a x hx hy ha h;rw[zhw (by omega)];simp only;omega
 | succ m ih =>
  intro a x hx hy ha h;by_cases hl:x<=a
  ·rw[zla hl];have:=ih (a:=a-x) (x:=min 1000000000 (x+1500)) (by omega) (by omega) (by omega) (by omega);omega
  ·rw[zhw (by omega)];simp only;omega
def zc1(a x:Int):Int × Int:=zwm a.toNat a x
theorem zps{a x:Int}(hx:3000<=x)(h:x<=a):zc1 a x=zc1 (a-x) (min 1000000000 (x+1500)):=by unfold zc1;obtain⟨m,hm⟩:∃m,a.toNat=m+1:=⟨a.toNat-1,by omega⟩;rw[hm,zla h];exact zwo (by omega) (by omega) (by omega) (by omega)
theorem ztv{a x:Int}(h:a<x):zc1 a x=(a,x):=zhw h
theorem zze{a x:Int}(hx:3000<=x)(hy:x<=1000000000)(ha:0<=a):0<=(zc1 a x).1/\(zc1 a x).1<(zc1 a x).2/\x<=(zc1 a x).2/\(zc1 a x).2<=1000000000:=z1h hx hy ha (nrf _)
end Go.Proofs.YthiojkjcmhojoaaGreat
