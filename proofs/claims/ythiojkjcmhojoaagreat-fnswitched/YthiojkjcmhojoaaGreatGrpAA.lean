namespace Go.Proofs.YthiojkjcmhojoaaGreat
def zi0 (a b:Int):Int :=
 if 9223372036854775807<a+b then 9223372036854775807 else if a+b < -9223372036854775808 then -9223372036854775808 else a+b
end Go.Proofs.YthiojkjcmhojoaaGreat
namespace Go.Proofs.YthiojkjcmhojoaaGreat
def zuo:Nat→Int→Int→Int × Int
 | 0,a,x=>(a,x)
 | m+1,a,x=>if x≤a then zuo m (a-x) (min 1000000000 (x+1500)) else (a,x)
theorem zjx {m:Nat} {a x:Int} (h:x≤a):zuo (m+1) a x=zuo m (a-x) (min 1000000000 (x+1500)):=if_pos h
theorem zhe {m:Nat} {a x:Int} (h:a<x):zuo m a x=(a,x):=by
 cases m with
 | zero=>rfl
 | succ m=>exact if_neg (by omega)
theorem zuq:∀{m m':Nat} {a x:Int},3000≤x→0≤a→a.toNat≤m→a.toNat≤m'→zuo m a x=zuo m' a x:=by
 intro m
 induction m with
 | zero =>
  intro m' a x hx ha h h'
  rw [zhe (by omega),zhe (by omega)]
 | succ m ih =>
  intro m' a x hx ha h h'
  by_cases hl:x≤a
  ·cases m' with
   | zero=>omega
   | succ m' =>
    rw [zjx hl,zjx hl]
    exact ih (by omega) (by omega) (by omega) (by omega)
  ·rw [zhe (by omega),zhe (by omega)]
theorem zzj:∀{m:Nat} {a x:Int},3000≤x→x≤1000000000→0≤a→a.toNat≤m→0≤(zuo m a x).1∧(zuo m a x).1<(zuo m a x).2∧x≤(zuo m a x).2∧(zuo m a x).2≤1000000000:=by
 intro m
 induction m with
 | zero =>
  intro a x hx hy ha h
  rw [zhe (by omega)]
  simp only
  omega
 | succ m ih =>
  intro a x hx hy ha h
  by_cases hl:x≤a
  ·rw [zjx hl]
   have:=ih (a:=a-x) (x:=min 1000000000 (x+1500)) (by omega) (by omega) (by omega) (by omega)
   omega
  ·rw [zhe (by omega)]
   simp only
   omega
def zgd (a x:Int):Int × Int:=zuo a.toNat a x
theorem zur {a x:Int} (hx:3000≤x) (h:x≤a):zgd a x=zgd (a-x) (min 1000000000 (x+1500)):=by
 unfold zgd
 obtain ⟨m,hm⟩:∃m,a.toNat=m+1:=⟨a.toNat-1,by omega⟩
 rw [hm,zjx h]
 exact zuq (by omega) (by omega) (by omega) (by omega)
theorem zxd {a x:Int} (h:a<x):zgd a x=(a,x):=zhe h
theorem zxe {a x:Int} (hx:3000≤x) (hy:x≤1000000000) (ha:0≤a):0≤(zgd a x).1∧(zgd a x).1<(zgd a x).2∧x≤(zgd a x).2∧(zgd a x).2≤1000000000:=zzj hx hy ha (Nat.le_refl _)
end Go.Proofs.YthiojkjcmhojoaaGreat
