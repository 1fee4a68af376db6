import Derived.Test.YthiojkjcmhojoaaGreatGoZZ
namespace Go.Proofs.YthiojkjcmhojoaaGreat
def zkh(a b:Int):Int :=
 if 9223372036854775807<a+b then 9223372036854775807 else if a+b < -9223372036854775808 then -9223372036854775808 else a+b
end Go.Proofs.YthiojkjcmhojoaaGreat
namespace Go.Proofs.YthiojkjcmhojoaaGreat
def zw2:Nat->Int->Int->Int × Int
 | 0,a,x=>(a,x)| m+1,a,x=>if x<=a then zw2 m (a-x) (min 1000000000 (x+1500)) else (a,x)
theorem zlj{m:Nat}{a x:Int}(h:x<=a):zw2 (m+1) a x=zw2 m (a-x) (min 1000000000 (x+1500)):=if_pos h
theorem zii{m:Nat}{a x:Int}(h:a<x):zw2 m a x=(a,x):=by
 cases m with
 | zero=>rfl| succ m=>exact if_neg (by omega)
theorem zw7:∀{m m':Nat} {a x:Int},3000<=x->0<=a->a.toNat<=m->a.toNat<=m'->zw2 m a x=zw2 m' a x:=by
 intro m;induction m with
 | zero =>intro m' a x hx ha h h';rw[zii (by omega),zii (by omega)]
 | succ m ih =>
  intro m' a x hx ha h h';by_cases hl:x<=a
  ·cases m' with
   | zero=>omega| succ m' =>rw[zlj hl,zlj hl];exact ih (by omega) (by omega) (by omega) (by omega)
  ·rw[zii (by omega),zii (by omega)]
theorem z2b:∀{m:Nat} {a x:Int},3000<=x->x<=1000000000->0<=a->a.toNat<=m->0<=(zw2 m a x).1/\(zw2 m a x).1<(zw2 m a x).2/\x<=(zw2 m a x).2/\(zw2 m a x).2<=1000000000:=by
 intro m;induction m with
 | zero =>intro a x hx hy ha h;rw[zii (by omega)];simp only;omega
 | succ m ih =>
  intro a x hx hy ha h;by_cases hl:x<=a
  ·rw[zlj hl];have:=ih (a:=a-x) (x:=min 1000000000 (x+1500)) (by omega) (by omega) (by omega) (by omega);omega
  ·rw[zii (by omega)];simp only;omega
def zg3(a x:Int):Int × Int:=zw2 a.toNat a x
theorem zw8{a x:Int}(hx:3000<=x)(h:x<=a):zg3 a x=zg3 (a-x) (min 1000000000 (x+1500)):=by unfold zg3;obtain⟨m,hm⟩:∃m,a.toNat=m+1:=⟨a.toNat-1,by omega⟩;rw[hm,zlj h];exact zw7 (by omega) (by omega) (by omega) (by omega)
theorem zz6{a x:Int}(h:a<x):zg3 a x=(a,x):=zii h
theorem zz7{a x:Int}(hx:3000<=x)(hy:x<=1000000000)(ha:0<=a):0<=(zg3 a x).1/\(zg3 a x).1<(zg3 a x).2/\x<=(zg3 a x).2/\(zg3 a x).2<=1000000000:=z2b hx hy ha (nrf _)
end Go.Proofs.YthiojkjcmhojoaaGreat
