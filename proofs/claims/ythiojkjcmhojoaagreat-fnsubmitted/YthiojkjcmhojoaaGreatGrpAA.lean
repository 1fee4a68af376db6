namespace Go.Proofs.YthiojkjcmhojoaaGreat
def zit (a b:Int):Int :=
 if 9223372036854775807<a+b then 9223372036854775807 else if a+b < -9223372036854775808 then -9223372036854775808 else a+b
end Go.Proofs.YthiojkjcmhojoaaGreat
namespace Go.Proofs.YthiojkjcmhojoaaGreat
def zul:Nat→Int→Int→Int × Int
 | 0,a,x=>(a,x)
 | m+1,a,x=>if x≤a then zul m (a-x) (min 1000000000 (x+1500)) else (a,x)
theorem zju {m:Nat} {a x:Int} (h:x≤a):zul (m+1) a x=zul m (a-x) (min 1000000000 (x+1500)):=if_pos h
theorem zhc {m:Nat} {a x:Int} (h:a<x):zul m a x=(a,x):=by
 cases m with
 | zero=>rfl
 | succ m=>exact if_neg (by omega)
theorem zuo:∀{m m':Nat} {a x:Int},3000≤x→0≤a→a.toNat≤m→a.toNat≤m'→zul m a x=zul m' a x:=by
 intro m
 induction m with
 | zero =>
  intro m' a x hx ha h h'
  rw [zhc (by omega),zhc (by omega)]
 | succ m ih =>
  intro m' a x hx ha h h'
  by_cases hl:x≤a
  ·cases m' with
   | zero=>omega
   | succ m' =>
    rw [zju hl,zju hl]
    exact ih (by omega) (by omega) (by omega) (by omega)
  ·rw [zhc (by omega),zhc (by omega)]
theorem zzb:∀{m:Nat} {a x:Int},3000≤x→x≤1000000000→0≤a→a.toNat≤m→0≤(zul m a x).1∧(zul m a x).1<(zul m a x).2∧x≤(zul m a x).2∧(zul m a x).2≤1000000000:=by
 intro m
 induction m with
 | zero =>
  intro a x hx hy ha h
  rw [zhc (by omega)]
  simp only
  omega
 | succ m ih =>
  intro a x hx hy ha h
  by_cases hl:x≤a
  ·rw [zju hl]
   have:=ih (a:=a-x) (x:=min 1000000000 (x+1500)) (by omega) (by omega) (by omega) (by omega)
   omega
  ·rw [zhc (by omega)]
   simp only
   omega
def zf8 (a x:Int):Int × Int:=zul a.toNat a x
theorem zup {a x:Int} (hx:3000≤x) (h:x≤a):zf8 a x=zf8 (a-x) (min 1000000000 (x+1500)):=by
 unfold zf8
 obtain ⟨m,hm⟩:∃m,a.toNat=m+1:=⟨a.toNat-1,by omega⟩
 rw [hm,zju h]
 exact zuo (by omega) (by omega) (by omega) (by omega)
theorem zw4 {a x:Int} (h:a<x):zf8 a x=(a,x):=zhc h
theorem zw5 {a x:Int} (hx:3000≤x) (hy:x≤1000000000) (ha:0≤a):0≤(zf8 a x).1∧(zf8 a x).1<(zf8 a x).2∧x≤(zf8 a x).2∧(zf8 a x).2≤1000000000:=zzb hx hy ha (Nat.le_refl _)
end Go.Proofs.YthiojkjcmhojoaaGreat
