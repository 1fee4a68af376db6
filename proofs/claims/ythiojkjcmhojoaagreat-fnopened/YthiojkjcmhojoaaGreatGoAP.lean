import Derived.Test.YthiojkjcmhojoaaGreatGoAO
import Derived.Stop.Asserts
namespace Go.Proofs.YthiojkjcmhojoaaGreat
open Go.ChangeShapes Go.WideShapes Go.ChangeAt Go.RowKit
set_option maxRecDepth 100000
set_option linter.all false
def zpd(k wn th fl ac la og st fr:Int)(sl:Bool)(n:Int):C10:=if wn<th then (if wn+n<th then ⟨k,wn+n,th,max 0 (fl-n),ac,la,og,st,fr,sl⟩ else ⟨k,th,th,max 0 (fl-n),ac,la,og,st,fr,false⟩) else ⟨k,(zg3 (ac+n) wn).2,th,max 0 (fl-n),(zg3 (ac+n) wn).1,la,og,st,fr,sl⟩
def znk(k wn th fl ac la og st fr:Int)(sl:Bool)(n:Int):C10:=if ccB k wn th fl ac la og st fr=true/\zk5 n=true then zpd k wn th fl ac la og st fr sl n else zly
theorem zm0(k wn th fl ac la og st fr:Int)(sl:Bool)(n:Int)(w:World):Calls Tryz.prog 75 #[.agg #[.int .i64 k,.int .i64 wn,.int .i64 th,.int .i64 fl,.int .i64 ac,.int .i64 la,.int .i64 og,.int .i64 st,.int .i64 fr,.bool sl],.int .i64 n] w fun e w'=>e=.returned (.agg #[.int .i64 ((znk k wn th fl ac la og st fr sl n).k),.int .i64 ((znk k wn th fl ac la og st fr sl n).wn),.int .i64 ((znk k wn th fl ac la og st fr sl n).th),.int .i64 ((znk k wn th fl ac la og st fr sl n).fl),.int .i64 ((znk k wn th fl ac la og st fr sl n).ac),.int .i64 ((znk k wn th fl ac la og st fr sl n).la),.int .i64 ((znk k wn th fl ac la og st fr sl n).og),.int .i64 ((znk k wn th fl ac la og st fr sl n).st),.int .i64 ((znk k wn th fl ac la og st fr sl n).fr),.bool (znk k wn th fl ac la og st fr sl n).sl])/\Bw w w':=by
 cases h1:ccB k wn th fl ac la og st fr
 ·rw[show znk k wn th fl ac la og st fr sl n=zly from if_neg (fun h=>by rw[h1]at h;cases h.1)];exact zmx sl w h1
 cases h2:zk5 n
 ·rw[show znk k wn th fl ac la og st fr sl n=zly from if_neg (fun h=>by rw[h2]at h;cases h.2)];exact zmy sl w h1 h2
 rw[show znk k wn th fl ac la og st fr sl n=zpd k wn th fl ac la og st fr sl n from if_pos ⟨h1,h2⟩];by_cases h3:wn<th
 ·by_cases h4:wn+n<th
  ·rw[show zpd k wn th fl ac la og st fr sl n=⟨k,wn+n,th,max 0 (fl-n),ac,la,og,st,fr,sl⟩ from (if_pos h3).trans (if_pos h4)];exact zk7 sl w h1 h2 h3 h4
  ·rw[show zpd k wn th fl ac la og st fr sl n=⟨k,th,th,max 0 (fl-n),ac,la,og,st,fr,false⟩ from (if_pos h3).trans (if_neg h4)];exact zmz sl w h1 h2 h3 (by omega)
 ·rw[show zpd k wn th fl ac la og st fr sl n=⟨k,(zg3 (ac+n) wn).2,th,max 0 (fl-n),(zg3 (ac+n) wn).1,la,og,st,fr,sl⟩ from if_neg h3];exact zk8 sl w h1 h2 (by omega)
theorem z3f{wn:Int}(h:3000<=wn/\wn<=1000000000):3000<=zg5 wn/\zg5 wn<=wn/\wn<=2*zg5 wn+1:=by unfold zg5;omega
theorem zs7{k wn th fl ac la og st fr wn' th' fl' ac':Int}(h:ccB k wn th fl ac la og st fr=true)(h1:3000<=wn'/\wn'<=1000000000)(h2:3000<=th'/\th'<=1000000000)(h3:0<=fl'/\fl'<=1000000000)(h4:0<=ac'/\ac'<=1000000000):ccB k wn' th' fl' ac' la og st fr=true:=by
 unfold ccB at h ⊢;simp only[bae]at h ⊢;refine⟨⟨⟨⟨⟨⟨⟨⟨h.1.1.1.1.1.1.1.1,?_⟩,?_⟩,?_⟩,?_⟩,h.1.1.1.2⟩,h.1.1.2⟩,h.1.2⟩,h.2⟩
 ·unfold zg4;rw[decide_eq_true h1.1,decide_eq_true h1.2];rfl
 ·unfold zg4;rw[decide_eq_true h2.1,decide_eq_true h2.2];rfl
 ·unfold zel;rw[decide_eq_true h3.1,decide_eq_true h3.2];rfl
 ·unfold zel;rw[decide_eq_true h4.1,decide_eq_true h4.2];rfl
theorem z1a{k wn th fl ac la og st fr n ak awn ath afl aac ala aog ast afr:Int}{sl asl:Bool}(h1:ccB k wn th fl ac la og st fr=true)(h2:zk5 n=true)(h:znk k wn th fl ac la og st fr sl n=⟨ak,awn,ath,afl,aac,ala,aog,ast,afr,asl⟩):ak=k/\ccB ak awn ath afl aac ala aog ast afr=true/\wn<=awn/\afl<=fl/\(wn<th\/aac<awn):=by
 obtain⟨_,hw,ht,hf,ha,_⟩:=zcz h1;have hn:=zfk h2;rw[show znk k wn th fl ac la og st fr sl n=zpd k wn th fl ac la og st fr sl n from if_pos ⟨h1,h2⟩]at h;unfold zpd at h;split at h
 ·split at h
  ·simp only[C10.mk.injEq]at h;obtain⟨rfl,rfl,rfl,rfl,rfl,rfl,rfl,rfl,rfl,rfl⟩:=h;exact⟨rfl,zs7 h1 (by omega) (by omega) (by omega) (by omega),by omega,by omega,.inl (by omega)⟩
  ·simp only[C10.mk.injEq]at h;obtain⟨rfl,rfl,rfl,rfl,rfl,rfl,rfl,rfl,rfl,rfl⟩:=h;exact⟨rfl,zs7 h1 (by omega) (by omega) (by omega) (by omega),by omega,by omega,.inl (by omega)⟩
 ·have hb:=zz7 (a:=ac+n) (x:=wn) hw.1 hw.2 (by omega);simp only[C10.mk.injEq]at h;obtain⟨rfl,rfl,rfl,rfl,rfl,rfl,rfl,rfl,rfl,rfl⟩:=h;exact⟨rfl,zs7 h1 (by omega) (by omega) (by omega) (by omega),by omega,by omega,.inr (by omega)⟩
end Go.Proofs.YthiojkjcmhojoaaGreat
