namespace Go.Proofs.YthiojkjcmhojoaaGreat
def satAdd (a b:Int):Int :=
 if 9223372036854775807<a+b then 9223372036854775807 else if a+b < -9223372036854775808 then -9223372036854775808 else a+b
end Go.Proofs.YthiojkjcmhojoaaGreat
namespace Go.Proofs.YthiojkjcmhojoaaGreat
def runA:Nat→Int→Int→Int × Int
 | 0,a,x=>(a,x)
 | m+1,a,x=>if x≤a then runA m (a-x) (min 1000000000 (x+1500)) else (a,x)
theorem runA_yes {m:Nat} {a x:Int} (h:x≤a):runA (m+1) a x=runA m (a-x) (min 1000000000 (x+1500)):=if_pos h
theorem runA_no {m:Nat} {a x:Int} (h:a<x):runA m a x=(a,x):=by
 cases m with
 | zero=>rfl
 | succ m=>exact if_neg (by omega)
theorem runA_more:∀{m m':Nat} {a x:Int},3000≤x→0≤a→a.toNat≤m→a.toNat≤m'→runA m a x=runA m' a x:=by
 intro m
 induction m with
 | zero =>
  intro m' a x hx ha h h'
  rw [runA_no (by omega),runA_no (by omega)]
 | succ m ih =>
  intro m' a x hx ha h h'
  by_cases hl:x≤a
  ·cases m' with
   | zero=>omega
   | succ m' =>
    rw [runA_yes hl,runA_yes hl]
    exact ih (by omega) (by omega) (by omega) (by omega)
  ·rw [runA_no (by omega),runA_no (by omega)]
theorem runA_bd:∀{m:Nat} {a x:Int},3000≤x→x≤1000000000→0≤a→a.toNat≤m→0≤(runA m a x).1∧(runA m a x).1<(runA m a x).2∧x≤(runA m a x).2∧(runA m a x).2≤1000000000:=by
 intro m
 induction m with
 | zero =>
  intro a x hx hy ha h
  rw [runA_no (by omega)]
  simp only
  omega
 | succ m ih =>
  intro a x hx hy ha h
  by_cases hl:x≤a
  ·rw [runA_yes hl]
   have:=ih (a:=a-x) (x:=min 1000000000 (x+1500)) (by omega) (by omega) (by omega) (by omega)
   omega
  ·rw [runA_no (by omega)]
   simp only
   omega
def stepA (a x:Int):Int × Int:=runA a.toNat a x
theorem stepA_yes {a x:Int} (hx:3000≤x) (h:x≤a):stepA a x=stepA (a-x) (min 1000000000 (x+1500)):=by
 unfold stepA
 obtain ⟨m,hm⟩:∃m,a.toNat=m+1:=⟨a.toNat-1,by omega⟩
 rw [hm,runA_yes h]
 exact runA_more (by omega) (by omega) (by omega) (by omega)
theorem stepA_no {a x:Int} (h:a<x):stepA a x=(a,x):=runA_no h
theorem stepA_bd {a x:Int} (hx:3000≤x) (hy:x≤1000000000) (ha:0≤a):0≤(stepA a x).1∧(stepA a x).1<(stepA a x).2∧x≤(stepA a x).2∧(stepA a x).2≤1000000000:=runA_bd hx hy ha (Nat.le_refl _)
end Go.Proofs.YthiojkjcmhojoaaGreat
