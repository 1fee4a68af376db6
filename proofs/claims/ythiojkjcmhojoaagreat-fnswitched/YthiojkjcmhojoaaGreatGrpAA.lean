namespace Go.Proofs.YthiojkjcmhojoaaGreat
def ziy (a b:Int):Int :=
 if 9223372036854775807<a+b then 9223372036854775807 else if a+b < -9223372036854775808 then -9223372036854775808 else a+b
end Go.Proofs.YthiojkjcmhojoaaGreat
namespace Go.Proofs.YthiojkjcmhojoaaGreat
def zun:Nat→Int→Int→Int × Int
 | 0,a,x=>(a,x)
 | m+1,a,x=>if x≤a then zun m (a-x) (min 1000000000 (x+1500)) else (a,x)
theorem zjw {m:Nat} {a x:Int} (h:x≤a):zun (m+1) a x=zun m (a-x) (min 1000000000 (x+1500)):=if_pos h
theorem zhd {m:Nat} {a x:Int} (h:a<x):zun m a x=(a,x):=by
 cases m with
 | zero=>rfl
 | succ m=>exact if_neg (by omega)
theorem zup:∀{m m':Nat} {a x:Int},3000≤x→0≤a→a.toNat≤m→a.toNat≤m'→zun m a x=zun m' a x:=by
 intro m
 induction m with
 | zero =>
  intro m' a x hx ha h h'
  rw [zhd (by omega),zhd (by omega)]
 | succ m ih =>
  intro m' a x hx ha h h'
  by_cases hl:x≤a
  ·cases m' with
   | zero=>omega
   | succ m' =>
    rw [zjw hl,zjw hl]
    exact ih (by omega) (by omega) (by omega) (by omega)
  ·rw [zhd (by omega),zhd (by omega)]
theorem zzi:∀{m:Nat} {a x:Int},3000≤x→x≤1000000000→0≤a→a.toNat≤m→0≤(zun m a x).1∧(zun m a x).1<(zun m a x).2∧x≤(zun m a x).2∧(zun m a x).2≤1000000000:=by
 intro m
 induction m with
 | zero =>
  intro a x hx hy ha h
  rw [zhd (by omega)]
  simp only
  omega
 | succ m ih =>
  intro a x hx hy ha h
  by_cases hl:x≤a
  ·rw [zjw hl]
   have:=ih (a:=a-x) (x:=min 1000000000 (x+1500)) (by omega) (by omega) (by omega) (by omega)
   omega
  ·rw [zhd (by omega)]
   simp only
   omega
def zgc (a x:Int):Int × Int:=zun a.toNat a x
theorem zuq {a x:Int} (hx:3000≤x) (h:x≤a):zgc a x=zgc (a-x) (min 1000000000 (x+1500)):=by
 unfold zgc
 obtain ⟨m,hm⟩:∃m,a.toNat=m+1:=⟨a.toNat-1,by omega⟩
 rw [hm,zjw h]
 exact zup (by omega) (by omega) (by omega) (by omega)
theorem zxc {a x:Int} (h:a<x):zgc a x=(a,x):=zhd h
theorem zxd {a x:Int} (hx:3000≤x) (hy:x≤1000000000) (ha:0≤a):0≤(zgc a x).1∧(zgc a x).1<(zgc a x).2∧x≤(zgc a x).2∧(zgc a x).2≤1000000000:=zzi hx hy ha (Nat.le_refl _)
end Go.Proofs.YthiojkjcmhojoaaGreat
