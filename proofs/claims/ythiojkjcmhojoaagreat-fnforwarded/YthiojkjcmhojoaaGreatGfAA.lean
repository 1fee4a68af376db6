namespace Go.Proofs.YthiojkjcmhojoaaGreat
def zd9 (a b:Int):Int :=
 if 9223372036854775807<a+b then 9223372036854775807 else if a+b < -9223372036854775808 then -9223372036854775808 else a+b
end Go.Proofs.YthiojkjcmhojoaaGreat
namespace Go.Proofs.YthiojkjcmhojoaaGreat
def zvd:Nat→Int→Int→Int × Int
 | 0,a,x=>(a,x)
 | m+1,a,x=>if x≤a then zvd m (a-x) (min 1000000000 (x+1500)) else (a,x)
theorem zkl {m:Nat} {a x:Int} (h:x≤a):zvd (m+1) a x=zvd m (a-x) (min 1000000000 (x+1500)):=if_pos h
theorem zhs {m:Nat} {a x:Int} (h:a<x):zvd m a x=(a,x):=by
 cases m with
 | zero=>rfl
 | succ m=>exact if_neg (by omega)
theorem zvh:∀{m m':Nat} {a x:Int},3000≤x→0≤a→a.toNat≤m→a.toNat≤m'→zvd m a x=zvd m' a x:=by
 intro m
 induction m with
 | zero =>
  intro m' a x hx ha h h'
  rw [zhs (by omega),zhs (by omega)]
 | succ m ih =>
  intro m' a x hx ha h h'
  by_cases hl:x≤a
  ·cases m' with
   | zero=>omega
   | succ m' =>
    rw [zkl hl,zkl hl]
    exact ih (by omega) (by omega) (by omega) (by omega)
  ·rw [zhs (by omega),zhs (by omega)]
theorem z0m:∀{m:Nat} {a x:Int},3000≤x→x≤1000000000→0≤a→a.toNat≤m→0≤(zvd m a x).1∧(zvd m a x).1<(zvd m a x).2∧x≤(zvd m a x).2∧(zvd m a x).2≤1000000000:=by
 intro m
 induction m with
 | zero =>
  intro a x hx hy ha h
  rw [zhs (by omega)]
  simp only
  omega
 | succ m ih =>
  intro a x hx hy ha h
  by_cases hl:x≤a
  ·rw [zkl hl]
   have:=ih (a:=a-x) (x:=min 1000000000 (x+1500)) (by omega) (by omega) (by omega) (by omega)
   omega
  ·rw [zhs (by omega)]
   simp only
   omega
def zgq (a x:Int):Int × Int:=zvd a.toNat a x
theorem zvi {a x:Int} (hx:3000≤x) (h:x≤a):zgq a x=zgq (a-x) (min 1000000000 (x+1500)):=by
 unfold zgq
 obtain ⟨m,hm⟩:∃m,a.toNat=m+1:=⟨a.toNat-1,by omega⟩
 rw [hm,zkl h]
 exact zvh (by omega) (by omega) (by omega) (by omega)
theorem zxz {a x:Int} (h:a<x):zgq a x=(a,x):=zhs h
theorem zx0 {a x:Int} (hx:3000≤x) (hy:x≤1000000000) (ha:0≤a):0≤(zgq a x).1∧(zgq a x).1<(zgq a x).2∧x≤(zgq a x).2∧(zgq a x).2≤1000000000:=z0m hx hy ha (Nat.le_refl _)
end Go.Proofs.YthiojkjcmhojoaaGreat
