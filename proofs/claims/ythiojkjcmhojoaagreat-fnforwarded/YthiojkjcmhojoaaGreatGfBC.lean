import Derived.Conc.MuLone
import Derived.WalkSpells
import Derived.Test.YthiojkjcmhojoaaGreatGfAR
import Derived.Deep.Cut
import Derived.Laws.Cover1
import Derived.Stop.Asserts
namespace Go.Proofs.YthiojkjcmhojoaaGreat
open Go.ChangeShapes Go.WideShapes Go.ChangeAt Go.RowKit
set_option maxRecDepth 100000
set_option linter.unusedVariables false
set_option linter.unusedSimpArgs false
def zhj (k wn th fl ac la og st fr:Int) (sl:Bool):C10:=if ccB k wn th fl ac la og st fr=true then ⟨k,zjz wn,zjz wn,fl,0,zma wn la,0,0,0,false⟩ else zk1
def zkh (k wn th fl ac la og st fr:Int) (sl:Bool) (n now:Int):C10:=if sl=true∧wn<th then (if wn+n<th then ⟨k,wn+n,th,max 0 (fl-n),ac,la,og,st,fr,true⟩ else ⟨k,th,th,max 0 (fl-n),ac,la,og,st,fr,false⟩) else if st=0 then ⟨k,wnW wn (frW wn wn n) (tgW wn (max la wn) wn (zqr (max 1 now) now)),th,max 0 (fl-n),ac,max la wn,wn,max 1 now,frW wn wn n,sl⟩ else ⟨k,wnW wn (frW wn fr n) (tgW wn la og (zqr st now)),th,max 0 (fl-n),ac,la,og,st,frW wn fr n,sl⟩
def zl4 (k wn th fl ac la og st fr:Int) (sl:Bool) (n now:Int):C10:=if (ccB k wn th fl ac la og st fr=true∧zj7 n=true)∧zau now=true then zkh k wn th fl ac la og st fr sl n now else zk1
theorem cc_fl {k wn th fl ac la og st fr gx:Int} (h:ccB k wn th fl ac la og st fr=true) (hg:0≤gx∧gx≤1000000000):ccB k wn th gx ac la og st fr=true:=by
 have hw:zf4 gx=true:=by unfold zf4;simp only [Bool.and_eq_true,decide_eq_true_eq];exact hg
 unfold ccB at h ⊢
 simp only [Bool.and_eq_true] at h ⊢
 simp_all only [and_self]
theorem zjg (k wn th fl ac la og st fr:Int) (sl:Bool) (w:World):Calls Tryz.prog 79 #[.agg #[.int .i64 k,.int .i64 wn,.int .i64 th,.int .i64 fl,.int .i64 ac,.int .i64 la,.int .i64 og,.int .i64 st,.int .i64 fr,.bool sl]] w fun e w'=>e=.returned (.agg #[.int .i64 ((zhj k wn th fl ac la og st fr sl).k),.int .i64 ((zhj k wn th fl ac la og st fr sl).wn),.int .i64 ((zhj k wn th fl ac la og st fr sl).th),.int .i64 ((zhj k wn th fl ac la og st fr sl).fl),.int .i64 ((zhj k wn th fl ac la og st fr sl).ac),.int .i64 ((zhj k wn th fl ac la og st fr sl).la),.int .i64 ((zhj k wn th fl ac la og st fr sl).og),.int .i64 ((zhj k wn th fl ac la og st fr sl).st),.int .i64 ((zhj k wn th fl ac la og st fr sl).fr),.bool (zhj k wn th fl ac la og st fr sl).sl])∧Below w.heap.size w w':=by
 cases h1:ccB k wn th fl ac la og st fr
 ·rw [show zhj k wn th fl ac la og st fr sl=zk1 from if_neg (by rw [h1];decide)]
  exact zj0 sl w h1
 ·rw [show zhj k wn th fl ac la og st fr sl=⟨k,zjz wn,zjz wn,fl,0,zma wn la,0,0,0,false⟩ from if_pos h1]
  exact zi1 sl w h1
theorem zki (k wn th fl ac la og st fr:Int) (sl:Bool) (n now:Int) (w:World):Calls Tryz.prog 76 #[.agg #[.int .i64 k,.int .i64 wn,.int .i64 th,.int .i64 fl,.int .i64 ac,.int .i64 la,.int .i64 og,.int .i64 st,.int .i64 fr,.bool sl],.int .i64 n,.int .i64 now] w fun e w'=>e=.returned (.agg #[.int .i64 ((zl4 k wn th fl ac la og st fr sl n now).k),.int .i64 ((zl4 k wn th fl ac la og st fr sl n now).wn),.int .i64 ((zl4 k wn th fl ac la og st fr sl n now).th),.int .i64 ((zl4 k wn th fl ac la og st fr sl n now).fl),.int .i64 ((zl4 k wn th fl ac la og st fr sl n now).ac),.int .i64 ((zl4 k wn th fl ac la og st fr sl n now).la),.int .i64 ((zl4 k wn th fl ac la og st fr sl n now).og),.int .i64 ((zl4 k wn th fl ac la og st fr sl n now).st),.int .i64 ((zl4 k wn th fl ac la og st fr sl n now).fr),.bool (zl4 k wn th fl ac la og st fr sl n now).sl])∧Below w.heap.size w w':=by
 cases h1:ccB k wn th fl ac la og st fr
 ·rw [show zl4 k wn th fl ac la og st fr sl n now=zk1 from if_neg (fun h=>by rw [h1] at h;cases h.1.1)]
  exact zkb sl w h1
 cases h2:zj7 n
 ·rw [show zl4 k wn th fl ac la og st fr sl n now=zk1 from if_neg (fun h=>by rw [h2] at h;cases h.1.2)]
  exact zkc sl w h1 h2
 cases h3:zau now
 ·rw [show zl4 k wn th fl ac la og st fr sl n now=zk1 from if_neg (fun h=>by rw [h3] at h;cases h.2)]
  exact zkd sl w h1 h2 h3
 rw [show zl4 k wn th fl ac la og st fr sl n now=zkh k wn th fl ac la og st fr sl n now from if_pos ⟨⟨h1,h2⟩,h3⟩]
 cases sl
 ·have HN:¬(false=true∧wn<th):=fun h=>by cases h.1
  by_cases h6:st=0
  ·subst h6
   rw [show zkh k wn th fl ac la og 0 fr false n now=⟨k,wnW wn (frW wn wn n) (tgW wn (max la wn) wn (zqr (max 1 now) now)),th,max 0 (fl-n),ac,max la wn,wn,max 1 now,frW wn wn n,false⟩ from (if_neg HN).trans (if_pos rfl)]
   exact zkg w h1 h2 h3
  ·rw [show zkh k wn th fl ac la og st fr false n now=⟨k,wnW wn (frW wn fr n) (tgW wn la og (zqr st now)),th,max 0 (fl-n),ac,la,og,st,frW wn fr n,false⟩ from (if_neg HN).trans (if_neg h6)]
   exact zkf w h1 h2 h3 h6
 ·by_cases h5:wn<th
  ·by_cases h4:wn+n<th
   ·rw [show zkh k wn th fl ac la og st fr true n now=⟨k,wn+n,th,max 0 (fl-n),ac,la,og,st,fr,true⟩ from (if_pos ⟨rfl,h5⟩).trans (if_pos h4)]
    exact zjd w h1 h2 h3 h5 h4
   ·rw [show zkh k wn th fl ac la og st fr true n now=⟨k,th,th,max 0 (fl-n),ac,la,og,st,fr,false⟩ from (if_pos ⟨rfl,h5⟩).trans (if_neg h4)]
    exact zke w h1 h2 h3 h5 (by omega)
  ·have HN:¬(true=true∧wn<th):=fun h=>h5 h.2
   by_cases h6:st=0
   ·subst h6
    rw [show zkh k wn th fl ac la og 0 fr true n now=⟨k,wnW wn (frW wn wn n) (tgW wn (max la wn) wn (zqr (max 1 now) now)),th,max 0 (fl-n),ac,max la wn,wn,max 1 now,frW wn wn n,true⟩ from (if_neg HN).trans (if_pos rfl)]
    exact zjf w h1 h2 h3 (by omega)
   ·rw [show zkh k wn th fl ac la og st fr true n now=⟨k,wnW wn (frW wn fr n) (tgW wn la og (zqr st now)),th,max 0 (fl-n),ac,la,og,st,frW wn fr n,true⟩ from (if_neg HN).trans (if_neg h6)]
    exact zje w h1 h2 h3 (by omega) h6
theorem ten_in {wn:Int} (h:3000≤wn∧wn≤1000000000):3000≤zjz wn∧zjz wn≤wn∧7*wn / 10≤zjz wn:=by
 unfold zjz
 omega
theorem z1r {wn la:Int} (h:3000≤wn∧wn≤1000000000):0≤zma wn la∧zma wn la≤1000000000:=by
 unfold zma
 split <;> omega
theorem zlv {k wn th fl ac la og st fr:Int} (h1:1≤k∧k≤3) (h2:3000≤wn∧wn≤1000000000) (h3:3000≤th∧th≤1000000000) (h4:0≤fl∧fl≤1000000000) (h5:0≤ac∧ac≤1000000000) (h6:0≤la∧la≤1000000000) (h7:0≤og∧og≤1000000000) (h8:0≤st∧st≤1000000000000000) (h9:0≤fr∧fr≤1000000000):ccB k wn th fl ac la og st fr=true:=by
 unfold ccB zkz zgr zf4 zau
 simp only [Bool.and_eq_true,decide_eq_true_eq]
 omega
theorem fr_in {wn fr n:Int} (hw:3000≤wn) (hf:0≤fr) (hn:1≤n):0≤frW wn fr n∧frW wn fr n≤1000000000:=by
 have:=Int.ediv_nonneg (show 0≤n*9*1500 by omega) (show 0≤17*wn by omega)
 unfold frW
 omega
theorem tg_in (wn la og ms:Int):tgW wn la og ms≤3*wn / 2:=by
 unfold tgW
 omega
theorem z0d {wn fx tx:Int} (hw:3000≤wn∧wn≤1000000000) (hf:fx≤1000000000) (ht:tx≤3*wn / 2):(3000≤wnW wn fx tx∧wnW wn fx tx≤1000000000)∧wn≤wnW wn fx tx∧(2*wnW wn fx tx≤3*wn+1∨wnW wn fx tx=fx):=by
 unfold wnW
 omega
theorem zy9 {k wn th fl ac la og st fr n now ak awn ath afl aac ala aog ast afr:Int} {sl asl:Bool} (h1:ccB k wn th fl ac la og st fr=true) (h2:zj7 n=true) (h3:zau now=true) (h:zl4 k wn th fl ac la og st fr sl n now=⟨ak,awn,ath,afl,aac,ala,aog,ast,afr,asl⟩):ak=k∧ccB ak awn ath afl aac ala aog ast afr=true∧wn≤awn∧afl≤fl∧((sl=true∧wn<th)∨((sl=false∨¬wn<th)∧0<ast∧(2*awn≤3*wn+1∨awn=afr))):=by
 obtain ⟨hk,hw,ht,hf,ha,hl,ho,hs,hr⟩:=zcu h1
 have hn:=ze6 h2
 have t0:0≤now∧now≤1000000000000000:=by
  unfold zau at h3
  simp only [Bool.and_eq_true,decide_eq_true_eq] at h3
  exact h3
 rw [show zl4 k wn th fl ac la og st fr sl n now=zkh k wn th fl ac la og st fr sl n now from if_pos ⟨⟨h1,h2⟩,by assumption⟩] at h
 unfold zkh at h
 split at h
 ·rename_i hrise
  split at h
  ·simp only [C10.mk.injEq] at h
   obtain ⟨rfl,rfl,rfl,rfl,rfl,rfl,rfl,rfl,rfl,rfl⟩:=h
   exact ⟨rfl,zlv hk (by omega) ht (by omega) ha hl ho hs hr,by omega,by omega,.inl hrise⟩
  ·simp only [C10.mk.injEq] at h
   obtain ⟨rfl,rfl,rfl,rfl,rfl,rfl,rfl,rfl,rfl,rfl⟩:=h
   exact ⟨rfl,zlv hk (by omega) ht (by omega) ha hl ho hs hr,by omega,by omega,.inl hrise⟩
 ·rename_i hrise
  have hno:sl=false∨¬wn<th:=by
   cases sl
   ·exact .inl rfl
   ·exact .inr (fun h=>hrise ⟨rfl,h⟩)
  split at h
  ·have F1:=fr_in (fr:=wn) hw.1 (by omega) hn.1
   have W1:=z0d (fx:=frW wn wn n) (tx:=tgW wn (max la wn) wn (zqr (max 1 now) now)) hw F1.2 (tg_in _ _ _ _)
   simp only [C10.mk.injEq] at h
   obtain ⟨rfl,rfl,rfl,rfl,rfl,rfl,rfl,rfl,rfl,rfl⟩:=h
   exact ⟨rfl,zlv hk W1.1 ht (by omega) ha (by omega) (by omega) (by omega) F1,W1.2.1,by omega,.inr ⟨hno,by omega,W1.2.2⟩⟩
  ·have F1:=fr_in (fr:=fr) hw.1 hr.1 hn.1
   have W1:=z0d (fx:=frW wn fr n) (tx:=tgW wn la og (zqr st now)) hw F1.2 (tg_in _ _ _ _)
   simp only [C10.mk.injEq] at h
   obtain ⟨rfl,rfl,rfl,rfl,rfl,rfl,rfl,rfl,rfl,rfl⟩:=h
   exact ⟨rfl,zlv hk W1.1 ht (by omega) ha hl ho hs F1,W1.2.1,by omega,.inr ⟨hno,by omega,W1.2.2⟩⟩
end Go.Proofs.YthiojkjcmhojoaaGreat
