import Derived.Conc.MuLone
import Derived.WalkSpells
import Derived.Test.YthiojkjcmhojoaaGreatGoAS
import Derived.Deep.Cut
import Derived.Laws.Cover1
import Derived.Stop.Asserts
namespace Go.Proofs.YthiojkjcmhojoaaGreat
open Go.ChangeShapes Go.WideShapes Go.ChangeAt Go.RowKit
set_option maxRecDepth 100000
set_option linter.all false
def zh6(k wn th fl ac la og st fr:Int)(sl:Bool):C10:=if ccB k wn th fl ac la og st fr=true then ⟨k,zky wn,zky wn,fl,0,zne wn la,0,0,0,false⟩ else zly
def zlf(k wn th fl ac la og st fr:Int)(sl:Bool)(n now:Int):C10:=if sl=true/\wn<th then (if wn+n<th then ⟨k,wn+n,th,max 0 (fl-n),ac,la,og,st,fr,true⟩ else ⟨k,th,th,max 0 (fl-n),ac,la,og,st,fr,false⟩) else if st=0 then ⟨k,wnW wn (frW wn wn n) (tgW wn (max la wn) wn (zr4 (max 1 now) now)),th,max 0 (fl-n),ac,max la wn,wn,max 1 now,frW wn wn n,sl⟩ else ⟨k,wnW wn (frW wn fr n) (tgW wn la og (zr4 st now)),th,max 0 (fl-n),ac,la,og,st,frW wn fr n,sl⟩
def znc(k wn th fl ac la og st fr:Int)(sl:Bool)(n now:Int):C10:=if (ccB k wn th fl ac la og st fr=true/\zk5 n=true)/\zbo now=true then zlf k wn th fl ac la og st fr sl n now else zly
theorem cc_fl{k wn th fl ac la og st fr gx:Int}(h:ccB k wn th fl ac la og st fr=true)(hg:0<=gx/\gx<=1000000000):ccB k wn th gx ac la og st fr=true:=by
 have hw:zel gx=true:=by unfold zel;simp only[bae,decide_eq_true_eq];exact hg
 unfold ccB at h ⊢;simp only[bae]at h ⊢;simp_all only[and_self]
section
variable(k wn th fl ac la og st fr:Int)(sl:Bool)
theorem zkb(w:World):Calls Tryz.prog 79 #[.agg #[.int .i64 k,.int .i64 wn,.int .i64 th,.int .i64 fl,.int .i64 ac,.int .i64 la,.int .i64 og,.int .i64 st,.int .i64 fr,.bool sl]] w fun e w'=>e=.returned (.agg #[.int .i64 ((zh6 k wn th fl ac la og st fr sl).k),.int .i64 ((zh6 k wn th fl ac la og st fr sl).wn),.int .i64 ((zh6 k wn th fl ac la og st fr sl).th),.int .i64 ((zh6 k wn th fl ac la og st fr sl).fl),.int .i64 ((zh6 k wn th fl ac la og st fr sl).ac),.int .i64 ((zh6 k wn th fl ac la og st fr sl).la),.int .i64 ((zh6 k wn th fl ac la og st fr sl).og),.int .i64 ((zh6 k wn th fl ac la og st fr sl).st),.int .i64 ((zh6 k wn th fl ac la og st fr sl).fr),.bool (zh6 k wn th fl ac la og st fr sl).sl])/\Bw w w':=by
 cases h1:ccB k wn th fl ac la og st fr
 ·rw[show zh6 k wn th fl ac la og st fr sl=zly from if_neg (by rw[h1];decide)];exact zkz sl w h1
 ·rw[show zh6 k wn th fl ac la og st fr sl=⟨k,zky wn,zky wn,fl,0,zne wn la,0,0,0,false⟩ from if_pos h1];exact zjx sl w h1
theorem zlg(n now:Int)(w:World):Calls Tryz.prog 76 #[.agg #[.int .i64 k,.int .i64 wn,.int .i64 th,.int .i64 fl,.int .i64 ac,.int .i64 la,.int .i64 og,.int .i64 st,.int .i64 fr,.bool sl],.int .i64 n,.int .i64 now] w fun e w'=>e=.returned (.agg #[.int .i64 ((znc k wn th fl ac la og st fr sl n now).k),.int .i64 ((znc k wn th fl ac la og st fr sl n now).wn),.int .i64 ((znc k wn th fl ac la og st fr sl n now).th),.int .i64 ((znc k wn th fl ac la og st fr sl n now).fl),.int .i64 ((znc k wn th fl ac la og st fr sl n now).ac),.int .i64 ((znc k wn th fl ac la og st fr sl n now).la),.int .i64 ((znc k wn th fl ac la og st fr sl n now).og),.int .i64 ((znc k wn th fl ac la og st fr sl n now).st),.int .i64 ((znc k wn th fl ac la og st fr sl n now).fr),.bool (znc k wn th fl ac la og st fr sl n now).sl])/\Bw w w':=by
 cases h1:ccB k wn th fl ac la og st fr
 ·rw[show znc k wn th fl ac la og st fr sl n now=zly from if_neg (fun h=>by rw[h1]at h;cases h.1.1)];exact zk9 sl w h1
 cases h2:zk5 n
 ·rw[show znc k wn th fl ac la og st fr sl n now=zly from if_neg (fun h=>by rw[h2]at h;cases h.1.2)];exact zla sl w h1 h2
 cases h3:zbo now
 ·rw[show znc k wn th fl ac la og st fr sl n now=zly from if_neg (fun h=>by rw[h3]at h;cases h.2)];exact zlb sl w h1 h2 h3
 rw[show znc k wn th fl ac la og st fr sl n now=zlf k wn th fl ac la og st fr sl n now from if_pos ⟨⟨h1,h2⟩,h3⟩];cases sl
 ·have HN:¬(false=true/\wn<th):=fun h=>(by cases h.1);by_cases h6:st=0
  ·subst h6;rw[show zlf k wn th fl ac la og 0 fr false n now=⟨k,wnW wn (frW wn wn n) (tgW wn (max la wn) wn (zr4 (max 1 now) now)),th,max 0 (fl-n),ac,max la wn,wn,max 1 now,frW wn wn n,false⟩ from (if_neg HN).trans (if_pos rfl)];exact zle w h1 h2 h3
  ·rw[show zlf k wn th fl ac la og st fr false n now=⟨k,wnW wn (frW wn fr n) (tgW wn la og (zr4 st now)),th,max 0 (fl-n),ac,la,og,st,frW wn fr n,false⟩ from (if_neg HN).trans (if_neg h6)];exact zld w h1 h2 h3 h6
 ·by_cases h5:wn<th
  ·by_cases h4:wn+n<th
   ·rw[show zlf k wn th fl ac la og st fr true n now=⟨k,wn+n,th,max 0 (fl-n),ac,la,og,st,fr,true⟩ from (if_pos ⟨rfl,h5⟩).trans (if_pos h4)];exact zj8 w h1 h2 h3 h5 h4
   ·rw[show zlf k wn th fl ac la og st fr true n now=⟨k,th,th,max 0 (fl-n),ac,la,og,st,fr,false⟩ from (if_pos ⟨rfl,h5⟩).trans (if_neg h4)];exact zlc w h1 h2 h3 h5 (by omega)
  ·have HN:¬(true=true/\wn<th):=fun h=>h5 h.2;by_cases h6:st=0
   ·subst h6;rw[show zlf k wn th fl ac la og 0 fr true n now=⟨k,wnW wn (frW wn wn n) (tgW wn (max la wn) wn (zr4 (max 1 now) now)),th,max 0 (fl-n),ac,max la wn,wn,max 1 now,frW wn wn n,true⟩ from (if_neg HN).trans (if_pos rfl)];exact zka w h1 h2 h3 (by omega)
   ·rw[show zlf k wn th fl ac la og st fr true n now=⟨k,wnW wn (frW wn fr n) (tgW wn la og (zr4 st now)),th,max 0 (fl-n),ac,la,og,st,frW wn fr n,true⟩ from (if_neg HN).trans (if_neg h6)];exact zj9 w h1 h2 h3 (by omega) h6
end
theorem ten_in{wn:Int}(h:3000<=wn/\wn<=1000000000):3000<=zky wn/\zky wn<=wn/\7*wn/10<=zky wn:=by unfold zky;omega
theorem z3g{wn la:Int}(h:3000<=wn/\wn<=1000000000):0<=zne wn la/\zne wn la<=1000000000:=by unfold zne;split<;>omega
theorem zm1{k wn th fl ac la og st fr:Int}(h1:1<=k/\k<=3)(h2:3000<=wn/\wn<=1000000000)(h3:3000<=th/\th<=1000000000)(h4:0<=fl/\fl<=1000000000)(h5:0<=ac/\ac<=1000000000)(h6:0<=la/\la<=1000000000)(h7:0<=og/\og<=1000000000)(h8:0<=st/\st<=1000000000000000)(h9:0<=fr/\fr<=1000000000):ccB k wn th fl ac la og st fr=true:=by unfold ccB zjw zg4 zel zbo;simp only[bae,decide_eq_true_eq];omega
theorem fr_in{wn fr n:Int}(hw:3000<=wn)(hf:0<=fr)(hn:1<=n):0<=frW wn fr n/\frW wn fr n<=1000000000:=by have:=Int.ediv_nonneg (show 0<=n*9*1500 by omega) (show 0<=17*wn by omega);unfold frW;omega
theorem tg_in(wn la og ms:Int):tgW wn la og ms<=3*wn/2:=by unfold tgW;omega
theorem z15{wn fx tx:Int}(hw:3000<=wn/\wn<=1000000000)(hf:fx<=1000000000)(ht:tx<=3*wn/2):(3000<=wnW wn fx tx/\wnW wn fx tx<=1000000000)/\wn<=wnW wn fx tx/\(2*wnW wn fx tx<=3*wn+1\/wnW wn fx tx=fx):=by unfold wnW;omega
theorem z1b{k wn th fl ac la og st fr n now ak awn ath afl aac ala aog ast afr:Int}{sl asl:Bool}(h1:ccB k wn th fl ac la og st fr=true)(h2:zk5 n=true)(h3:zbo now=true)(h:znc k wn th fl ac la og st fr sl n now=⟨ak,awn,ath,afl,aac,ala,aog,ast,afr,asl⟩):ak=k/\ccB ak awn ath afl aac ala aog ast afr=true/\wn<=awn/\afl<=fl/\((sl=true/\wn<th)\/((sl=false\/¬wn<th)/\0<ast/\(2*awn<=3*wn+1\/awn=afr))):=by
 obtain⟨hk,hw,ht,hf,ha,hl,ho,hs,hr⟩:=zcz h1;have hn:=zfk h2;have t0:0<=now/\now<=1000000000000000:=by unfold zbo at h3;simp only[bae,decide_eq_true_eq]at h3;exact h3
 rw[show znc k wn th fl ac la og st fr sl n now=zlf k wn th fl ac la og st fr sl n now from if_pos ⟨⟨h1,h2⟩,by assumption⟩]at h;unfold zlf at h;split at h
 ·rename_i hrise;split at h
  ·simp only[C10.mk.injEq]at h;obtain⟨rfl,rfl,rfl,rfl,rfl,rfl,rfl,rfl,rfl,rfl⟩:=h;exact⟨rfl,zm1 hk (by omega) ht (by omega) ha hl ho hs hr,by omega,by omega,.inl hrise⟩
  ·simp only[C10.mk.injEq]at h;obtain⟨rfl,rfl,rfl,rfl,rfl,rfl,rfl,rfl,rfl,rfl⟩:=h;exact⟨rfl,zm1 hk (by omega) ht (by omega) ha hl ho hs hr,by omega,by omega,.inl hrise⟩
 ·rename_i hrise;have hno:sl=false\/¬wn<th:=by
   cases sl
   ·exact .inl rfl
   ·exact .inr (fun h=>hrise ⟨rfl,h⟩)
  split at h
  ·have F1:=fr_in (fr:=wn) hw.1 (by omega) hn.1;have W1:=z15 (fx:=frW wn wn n) (tx:=tgW wn (max la wn) wn (zr4 (max 1 now) now)) hw F1.2 (tg_in _ _ _ _);simp only[C10.mk.injEq]at h;obtain⟨rfl,rfl,rfl,rfl,rfl,rfl,rfl,rfl,rfl,rfl⟩:=h;exact⟨rfl,zm1 hk W1.1 ht (by omega) ha (by omega) (by omega) (by omega) F1,W1.2.1,by omega,.inr ⟨hno,by omega,W1.2.2⟩⟩
  ·have F1:=fr_in (fr:=fr) hw.1 hr.1 hn.1;have W1:=z15 (fx:=frW wn fr n) (tx:=tgW wn la og (zr4 st now)) hw F1.2 (tg_in _ _ _ _);simp only[C10.mk.injEq]at h;obtain⟨rfl,rfl,rfl,rfl,rfl,rfl,rfl,rfl,rfl,rfl⟩:=h;exact⟨rfl,zm1 hk W1.1 ht (by omega) ha hl ho hs F1,W1.2.1,by omega,.inr ⟨hno,by omega,W1.2.2⟩⟩
end Go.Proofs.YthiojkjcmhojoaaGreat
