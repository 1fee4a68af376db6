namespace Go.Proofs.YthiojkjcmhojoaaGreat
def zd9 (a b:Int):Int :=
 if 9223372036854775807<a+b then 9223372036854775807 else if a+b < -9223372036854775808 then -9223372036854775808 else a+b
end Go.Proofs.YthiojkjcmhojoaaGreat
namespace Go.Proofs.YthiojkjcmhojoaaGreat
def zvc:Nat→Int→Int→Int × Int
 | 0,a,x=>(a,x)
 | m+1,a,x=>if x≤a then zvc m (a-x) (min 1000000000 (x+1500)) else (a,x)
theorem zkk {m:Nat} {a x:Int} (h:x≤a):zvc (m+1) a x=zvc m (a-x) (min 1000000000 (x+1500)):=if_pos h
theorem zhr {m:Nat} {a x:Int} (h:a<x):zvc m a x=(a,x):=by
 cases m with
 | zero=>rfl
 | succ m=>exact if_neg (by omega)
theorem zvg:∀{m m':Nat} {a x:Int},3000≤x→0≤a→a.toNat≤m→a.toNat≤m'→zvc m a x=zvc m' a x:=by
 intro m
 induction m with
 | zero =>
  intro m' a x hx ha h h'
  rw [zhr (by omega),zhr (by omega)]
 | succ m ih =>
  intro m' a x hx ha h h'
  by_cases hl:x≤a
  ·cases m' with
   | zero=>omega
   | succ m' =>
    rw [zkk hl,zkk hl]
    exact ih (by omega) (by omega) (by omega) (by omega)
  ·rw [zhr (by omega),zhr (by omega)]
theorem z0l:∀{m:Nat} {a x:Int},3000≤x→x≤1000000000→0≤a→a.toNat≤m→0≤(zvc m a x).1∧(zvc m a x).1<(zvc m a x).2∧x≤(zvc m a x).2∧(zvc m a x).2≤1000000000:=by
 intro m
 induction m with
 | zero =>
  intro a x hx hy ha h
  rw [zhr (by omega)]
  simp only
  omega
 | succ m ih =>
  intro a x hx hy ha h
  by_cases hl:x≤a
  ·rw [zkk hl]
   have:=ih (a:=a-x) (x:=min 1000000000 (x+1500)) (by omega) (by omega) (by omega) (by omega)
   omega
  ·rw [zhr (by omega)]
   simp only
   omega
def zgp (a x:Int):Int × Int:=zvc a.toNat a x
theorem zvh {a x:Int} (hx:3000≤x) (h:x≤a):zgp a x=zgp (a-x) (min 1000000000 (x+1500)):=by
 unfold zgp
 obtain ⟨m,hm⟩:∃m,a.toNat=m+1:=⟨a.toNat-1,by omega⟩
 rw [hm,zkk h]
 exact zvg (by omega) (by omega) (by omega) (by omega)
theorem zxy {a x:Int} (h:a<x):zgp a x=(a,x):=zhr h
theorem zxz {a x:Int} (hx:3000≤x) (hy:x≤1000000000) (ha:0≤a):0≤(zgp a x).1∧(zgp a x).1<(zgp a x).2∧x≤(zgp a x).2∧(zgp a x).2≤1000000000:=z0l hx hy ha (Nat.le_refl _)
end Go.Proofs.YthiojkjcmhojoaaGreat
