import Derived.Test.YthiojkjcmhojoaaGreatGtAP
import Derived.Stop.Asserts
namespace Go.Proofs.YthiojkjcmhojoaaGreat
set_option maxHeartbeats 4000000
open Go.ChangeShapes Go.WideShapes Go.ChangeAt Go.RowKit
set_option maxRecDepth 100000
set_option linter.all false
theorem zu7(v:Value)(xT:TypeId)(w:World):(Instr.typeAssert (.iface 178 v) xT 196 true).run Tryz.prog w=.ok (.tuple #[.iface 178 v,.bool true]) w:=run_typeAssert_hasB Tryz.underlying196 (by kernel_rfl) v xT w
section
variable{k wn th fl ac la og st fr n:Int}(sl:Bool)(w:World)
theorem zq9(hw:3000<=wn/\wn<=1000000000)(ha:0<=ac/\ac<=1000000000)(hn:1<=n/\n<=1000000000):Calls Tryz.prog 249 #[.agg #[],.agg #[.int .i64 k,.int .i64 wn,.int .i64 th,.int .i64 fl,.int .i64 ac,.int .i64 la,.int .i64 og,.int .i64 st,.int .i64 fr,.bool sl],.int .i64 n] w fun e w'=>e=.returned (.agg #[.int .i64 k,.int .i64 ((zc1 (ac+n) wn).2),.int .i64 th,.int .i64 fl,.int .i64 ((zc1 (ac+n) wn).1),.int .i64 la,.int .i64 og,.int .i64 st,.int .i64 fr,.bool sl])/\Bw w w':=by
 have r2:IntKind.i64.wrap (ac+n)=ac+n:=i64w
 obtain⟨R,hR⟩:∃R,zc1 (ac+n) wn=R:=⟨_,rfl⟩;rw[hR];have HR:Hid (zc1 (ac+n) wn=R):=hR;clear hR;go_enter Tryz.func249,Tryz.ntmps249;go_wp2;go_loopg [] ((ac+n).toNat+1) (fun kk wr=>∃a x:Int,wr=((w.alloc (.cells #[] 178)).alloc (.cells #[.int .i64 k,.int .i64 x,.int .i64 th,.int .i64 fl,.int .i64 a,.int .i64 la,.int .i64 og,.int .i64 st,.int .i64 fr,.bool sl] 44)).alloc (.cells #[.int .i64 0,.int .i64 0,.int .i64 0,.int .i64 0,.int .i64 0,.int .i64 0,.int .i64 0,.int .i64 0,.int .i64 0,.bool false] 44)/\0<=a/\a<=2000000000/\3000<=x/\x<=1000000000/\a.toNat<kk/\Hid (zc1 a x=R));case atStart=>exact⟨ac+n,wn,rfl,by omega,by omega,by omega,by omega,by omega,HR⟩
 case round =>
  obtain⟨a,x,rfl,a0,a1,x0,x1,hk,HS⟩:=hrel;clear HR;by_cases hx:x<=a
  ·have s1:IntKind.i64.wrap (a-x)=a-x:=i64w;have s2:IntKind.i64.wrap (x+1500)=x+1500:=i64w;have hst:=(zps x0 hx).symm.trans HS.out;rcases Int.lt_or_le (x+1500) 1000000000 with hm|hm
   ·rw[show min 1000000000 (x+1500)=x+1500 by omega]at hst;go_wp2;go_roundg (gk-1);case measure=>omega
    case rel=>exact⟨a-x,x+1500,rfl,by omega,by omega,by omega,by omega,by omega,hst⟩
   ·rw[show min 1000000000 (x+1500)=1000000000 by omega]at hst;rcases Int.lt_or_eq_of_le hm with hm'|hm'
    ·go_wp2;go_roundg (gk-1);case measure=>omega
     case rel=>exact⟨a-x,1000000000,rfl,by omega,by omega,by omega,by omega,by omega,hst⟩
    ·obtain rfl:x=999998500:=(by omega);go_wp2;go_roundg (gk-1);case measure=>omega
     case rel=>exact⟨a-999998500,1000000000,rfl,by omega,by omega,by omega,by omega,by omega,hst⟩
  ·have hx':¬a ≥ x:=(by omega);obtain rfl:(a,x)=R:=(ztv (by omega)).symm.trans HS.out;clear HS;rcases Int.lt_or_eq_of_le x1 with hl|rfl
   ·go_wp2;refine bodyPost_ret (zaf rfl _ _ _ [.int .i64 k,.int .i64 x,.int .i64 th,.int .i64 fl,.int .i64 a,.int .i64 la,.int .i64 og,.int .i64 st,.int .i64 fr,.bool sl] rfl zao Tryz.underlying44 rfl (by kernel_rfl)) rfl ?_;exact⟨rfl,by go_grown⟩
   ·go_wp2;refine bodyPost_ret (zaf rfl _ _ _ [.int .i64 k,.int .i64 1000000000,.int .i64 th,.int .i64 fl,.int .i64 a,.int .i64 la,.int .i64 og,.int .i64 st,.int .i64 fr,.bool sl] rfl zao Tryz.underlying44 rfl (by kernel_rfl)) rfl ?_;exact⟨rfl,by go_grown⟩
theorem z0c(hw:3000<=wn/\wn<=1000000000)(ha:0<=ac/\ac<=1000000000)(hn:1<=n/\n<=1000000000)(hf:0<=fl/\fl<=1000000000)(h3:th<=wn)(h6:fl-n<0):Calls Tryz.prog 187 #[.iface 178 (.agg #[]),.agg #[.int .i64 k,.int .i64 wn,.int .i64 th,.int .i64 fl,.int .i64 ac,.int .i64 la,.int .i64 og,.int .i64 st,.int .i64 fr,.bool sl],.int .i64 n] w fun e w'=>e=.returned (.agg #[.int .i64 k,.int .i64 ((zc1 (ac+n) wn).2),.int .i64 th,.int .i64 0,.int .i64 ((zc1 (ac+n) wn).1),.int .i64 la,.int .i64 og,.int .i64 st,.int .i64 fr,.bool sl])/\Bw w w':=by
 have r1:IntKind.i64.wrap (fl-n)=fl-n:=i64w
 have h3':¬wn<th:=by omega
 have hal:=zu7 (.agg #[]);go_enter Tryz.func187,Tryz.ntmps187;go_wp2_with (first| (go_at_call 249;refine (zq9 sl _ hw ha hn).mono ?_;rintro e w2 ⟨rfl,hb2⟩;have hbw:Bw w w2:=zaa (by go_grown) hb2;have kc:=zbm hb2;have kf:=zb4 hb2;have zl:=hb2.size;(try simp at zl))| go_in);obtain⟨R1,R2,hR⟩:∃R1 R2,zc1 (ac+n) wn=(R1,R2):=⟨_,_,rfl⟩;rw[hR];simp only;obtain⟨w9,e9,cs,far,fz,sz,hbel⟩:=zjz (.int .i64 (k)) (.int .i64 (R2)) (.int .i64 (th)) (.int .i64 (0)) (.int .i64 (R1)) (.int .i64 (la)) (.int .i64 (og)) (.int .i64 (st)) (.int .i64 (fr)) (.bool sl) (w:=w2) (g:=w.heap.size+1) (u0:=.int .i64 0) (u1:=.int .i64 0) (u2:=.int .i64 0) (u3:=.int .i64 0) (u4:=.int .i64 0) (u5:=.int .i64 0) (u6:=.int .i64 0) (u7:=.int .i64 0) (u8:=.int .i64 0) (u9:=.bool false) (by go_simp) (by go_simp) (by go_simp) (by go_simp) (by go_simp) (by go_simp) (by go_simp) (by go_simp) (by go_simp) (by go_simp);rw[<-e9];refine bodyPost_ret (zaf rfl _ _ _ [.int .i64 k,.int .i64 R2,.int .i64 th,.int .i64 0,.int .i64 R1,.int .i64 la,.int .i64 og,.int .i64 st,.int .i64 fr,.bool sl] rfl cs Tryz.underlying44 rfl (by kernel_rfl)) rfl ?_;exact⟨rfl,hbw.trans (hbel _ (by omega))⟩
theorem z0d(hw:3000<=wn/\wn<=1000000000)(ha:0<=ac/\ac<=1000000000)(hn:1<=n/\n<=1000000000)(hf:0<=fl/\fl<=1000000000)(h3:th<=wn)(h6:0<=fl-n):Calls Tryz.prog 187 #[.iface 178 (.agg #[]),.agg #[.int .i64 k,.int .i64 wn,.int .i64 th,.int .i64 fl,.int .i64 ac,.int .i64 la,.int .i64 og,.int .i64 st,.int .i64 fr,.bool sl],.int .i64 n] w fun e w'=>e=.returned (.agg #[.int .i64 k,.int .i64 ((zc1 (ac+n) wn).2),.int .i64 th,.int .i64 (fl-n),.int .i64 ((zc1 (ac+n) wn).1),.int .i64 la,.int .i64 og,.int .i64 st,.int .i64 fr,.bool sl])/\Bw w w':=by
 have r1:IntKind.i64.wrap (fl-n)=fl-n:=i64w
 have h3':¬wn<th:=by omega
 have hal:=zu7 (.agg #[]);go_enter Tryz.func187,Tryz.ntmps187;go_wp2_with (first| (go_at_call 249;refine (zq9 sl _ hw ha hn).mono ?_;rintro e w2 ⟨rfl,hb2⟩;have hbw:Bw w w2:=zaa (by go_grown) hb2;have kc:=zbm hb2;have kf:=zb4 hb2;have zl:=hb2.size;(try simp at zl))| go_in);obtain⟨R1,R2,hR⟩:∃R1 R2,zc1 (ac+n) wn=(R1,R2):=⟨_,_,rfl⟩;rw[hR];simp only;obtain⟨w9,e9,cs,far,fz,sz,hbel⟩:=zjz (.int .i64 (k)) (.int .i64 (R2)) (.int .i64 (th)) (.int .i64 (fl-n)) (.int .i64 (R1)) (.int .i64 (la)) (.int .i64 (og)) (.int .i64 (st)) (.int .i64 (fr)) (.bool sl) (w:=w2) (g:=w.heap.size+1) (u0:=.int .i64 0) (u1:=.int .i64 0) (u2:=.int .i64 0) (u3:=.int .i64 0) (u4:=.int .i64 0) (u5:=.int .i64 0) (u6:=.int .i64 0) (u7:=.int .i64 0) (u8:=.int .i64 0) (u9:=.bool false) (by go_simp) (by go_simp) (by go_simp) (by go_simp) (by go_simp) (by go_simp) (by go_simp) (by go_simp) (by go_simp) (by go_simp);rw[<-e9];refine bodyPost_ret (zaf rfl _ _ _ [.int .i64 k,.int .i64 R2,.int .i64 th,.int .i64 (fl-n),.int .i64 R1,.int .i64 la,.int .i64 og,.int .i64 st,.int .i64 fr,.bool sl] rfl cs Tryz.underlying44 rfl (by kernel_rfl)) rfl ?_;exact⟨rfl,hbw.trans (hbel _ (by omega))⟩
theorem zs0(hw:3000<=wn/\wn<=1000000000)(ha:0<=ac/\ac<=1000000000)(hn:1<=n/\n<=1000000000)(hf:0<=fl/\fl<=1000000000)(h3:th<=wn):Calls Tryz.prog 187 #[.iface 178 (.agg #[]),.agg #[.int .i64 k,.int .i64 wn,.int .i64 th,.int .i64 fl,.int .i64 ac,.int .i64 la,.int .i64 og,.int .i64 st,.int .i64 fr,.bool sl],.int .i64 n] w fun e w'=>e=.returned (.agg #[.int .i64 k,.int .i64 ((zc1 (ac+n) wn).2),.int .i64 th,.int .i64 (max 0 (fl-n)),.int .i64 ((zc1 (ac+n) wn).1),.int .i64 la,.int .i64 og,.int .i64 st,.int .i64 fr,.bool sl])/\Bw w w':=by
 rcases Int.lt_or_le (fl-n) 0 with h6|h6
 ·rw[show max 0 (fl-n)=0 by omega];exact z0c sl w hw ha hn hf h3 h6
 ·rw[show max 0 (fl-n)=fl-n by omega];exact z0d sl w hw ha hn hf h3 h6
theorem zkv(h1:ccB k wn th fl ac la og st fr=true)(h2:ze8 n=true)(h3:th<=wn):Calls Tryz.prog 165 #[.agg #[.int .i64 k,.int .i64 wn,.int .i64 th,.int .i64 fl,.int .i64 ac,.int .i64 la,.int .i64 og,.int .i64 st,.int .i64 fr,.bool sl],.int .i64 n] w fun e w'=>e=.returned (.agg #[.int .i64 k,.int .i64 ((zc1 (ac+n) wn).2),.int .i64 th,.int .i64 (max 0 (fl-n)),.int .i64 ((zc1 (ac+n) wn).1),.int .i64 la,.int .i64 og,.int .i64 st,.int .i64 fr,.bool sl])/\Bw w w':=by obtain⟨_,hw,_,hf,ha,_⟩:=zbq h1;have hn:=zco h2;go_enter Tryz.func165,Tryz.ntmps165;go_wp2_with (first| (go_at_call 127;refine same1 (zau h1 _ _) ?_)| (go_at_call 62;refine same1 (zmo h2 _) ?_)| (go_at_call 187;refine (zs0 sl _ hw ha hn hf h3).mono ?_;rintro e w2 ⟨rfl,hb2⟩;have hbw:Bw w w2:=zaa (by go_grown) hb2;have kc:=zbm hb2;have kf:=zb4 hb2;have zl:=hb2.size;(try simp at zl)));obtain⟨R1,R2,hR⟩:∃R1 R2,zc1 (ac+n) wn=(R1,R2):=⟨_,_,rfl⟩;rw[hR];simp only;obtain⟨w9,e9,cs,far,fz,sz,hbel⟩:=zjz (.int .i64 (k)) (.int .i64 (R2)) (.int .i64 (th)) (.int .i64 (max 0 (fl-n))) (.int .i64 (R1)) (.int .i64 (la)) (.int .i64 (og)) (.int .i64 (st)) (.int .i64 (fr)) (.bool sl) (w:=w2) (g:=w.heap.size+1) (u0:=.int .i64 0) (u1:=.int .i64 0) (u2:=.int .i64 0) (u3:=.int .i64 0) (u4:=.int .i64 0) (u5:=.int .i64 0) (u6:=.int .i64 0) (u7:=.int .i64 0) (u8:=.int .i64 0) (u9:=.bool false) (by go_simp) (by go_simp) (by go_simp) (by go_simp) (by go_simp) (by go_simp) (by go_simp) (by go_simp) (by go_simp) (by go_simp);rw[<-e9];refine bodyPost_ret (zaf rfl _ _ _ [.int .i64 k,.int .i64 R2,.int .i64 th,.int .i64 (max 0 (fl-n)),.int .i64 R1,.int .i64 la,.int .i64 og,.int .i64 st,.int .i64 fr,.bool sl] rfl cs Tryz.underlying44 rfl (by kernel_rfl)) rfl ?_;exact⟨rfl,hbw.trans (hbel _ (by omega))⟩
end
def zjo(k wn th fl ac la og st fr:Int)(sl:Bool)(n:Int):C10:=if wn<th then (if wn+n<th then ⟨k,wn+n,th,max 0 (fl-n),ac,la,og,st,fr,sl⟩ else ⟨k,th,th,max 0 (fl-n),ac,la,og,st,fr,false⟩) else ⟨k,(zc1 (ac+n) wn).2,th,max 0 (fl-n),(zc1 (ac+n) wn).1,la,og,st,fr,sl⟩
def zg7(k wn th fl ac la og st fr:Int)(sl:Bool)(n:Int):C10:=if ccB k wn th fl ac la og st fr=true/\ze8 n=true then zjo k wn th fl ac la og st fr sl n else zgs
section
variable(k wn th fl ac la og st fr:Int)(sl:Bool)(n:Int)(w:World)
theorem zmv:Calls Tryz.prog 75 #[.agg #[.int .i64 k,.int .i64 wn,.int .i64 th,.int .i64 fl,.int .i64 ac,.int .i64 la,.int .i64 og,.int .i64 st,.int .i64 fr,.bool sl],.int .i64 n] w fun e w'=>e=.returned (.agg #[.int .i64 ((zg7 k wn th fl ac la og st fr sl n).k),.int .i64 ((zg7 k wn th fl ac la og st fr sl n).wn),.int .i64 ((zg7 k wn th fl ac la og st fr sl n).th),.int .i64 ((zg7 k wn th fl ac la og st fr sl n).fl),.int .i64 ((zg7 k wn th fl ac la og st fr sl n).ac),.int .i64 ((zg7 k wn th fl ac la og st fr sl n).la),.int .i64 ((zg7 k wn th fl ac la og st fr sl n).og),.int .i64 ((zg7 k wn th fl ac la og st fr sl n).st),.int .i64 ((zg7 k wn th fl ac la og st fr sl n).fr),.bool (zg7 k wn th fl ac la og st fr sl n).sl])/\Bw w w':=by
 cases h1:ccB k wn th fl ac la og st fr
 ·rw[show zg7 k wn th fl ac la og st fr sl n=zgs from if_neg (fun h=>by rw[h1]at h;cases h.1)];exact zmp sl w h1
 cases h2:ze8 n
 ·rw[show zg7 k wn th fl ac la og st fr sl n=zgs from if_neg (fun h=>by rw[h2]at h;cases h.2)];exact zmq sl w h1 h2
 rw[show zg7 k wn th fl ac la og st fr sl n=zjo k wn th fl ac la og st fr sl n from if_pos ⟨h1,h2⟩];by_cases h3:wn<th
 ·by_cases h4:wn+n<th
  ·rw[show zjo k wn th fl ac la og st fr sl n=⟨k,wn+n,th,max 0 (fl-n),ac,la,og,st,fr,sl⟩ from (if_pos h3).trans (if_pos h4)];exact zkq sl w h1 h2 h3 h4
  ·rw[show zjo k wn th fl ac la og st fr sl n=⟨k,th,th,max 0 (fl-n),ac,la,og,st,fr,false⟩ from (if_pos h3).trans (if_neg h4)];exact zmr sl w h1 h2 h3 (by omega)
 ·rw[show zjo k wn th fl ac la og st fr sl n=⟨k,(zc1 (ac+n) wn).2,th,max 0 (fl-n),(zc1 (ac+n) wn).1,la,og,st,fr,sl⟩ from if_neg h3];exact zkr sl w h1 h2 (by omega)
theorem zmw:Calls Tryz.prog 165 #[.agg #[.int .i64 k,.int .i64 wn,.int .i64 th,.int .i64 fl,.int .i64 ac,.int .i64 la,.int .i64 og,.int .i64 st,.int .i64 fr,.bool sl],.int .i64 n] w fun e w'=>e=.returned (.agg #[.int .i64 ((zg7 k wn th fl ac la og st fr sl n).k),.int .i64 ((zg7 k wn th fl ac la og st fr sl n).wn),.int .i64 ((zg7 k wn th fl ac la og st fr sl n).th),.int .i64 ((zg7 k wn th fl ac la og st fr sl n).fl),.int .i64 ((zg7 k wn th fl ac la og st fr sl n).ac),.int .i64 ((zg7 k wn th fl ac la og st fr sl n).la),.int .i64 ((zg7 k wn th fl ac la og st fr sl n).og),.int .i64 ((zg7 k wn th fl ac la og st fr sl n).st),.int .i64 ((zg7 k wn th fl ac la og st fr sl n).fr),.bool (zg7 k wn th fl ac la og st fr sl n).sl])/\Bw w w':=by
 cases h1:ccB k wn th fl ac la og st fr
 ·rw[show zg7 k wn th fl ac la og st fr sl n=zgs from if_neg (fun h=>by rw[h1]at h;cases h.1)];exact zms sl w h1
 cases h2:ze8 n
 ·rw[show zg7 k wn th fl ac la og st fr sl n=zgs from if_neg (fun h=>by rw[h2]at h;cases h.2)];exact zmt sl w h1 h2
 rw[show zg7 k wn th fl ac la og st fr sl n=zjo k wn th fl ac la og st fr sl n from if_pos ⟨h1,h2⟩];by_cases h3:wn<th
 ·by_cases h4:wn+n<th
  ·rw[show zjo k wn th fl ac la og st fr sl n=⟨k,wn+n,th,max 0 (fl-n),ac,la,og,st,fr,sl⟩ from (if_pos h3).trans (if_pos h4)];exact zks sl w h1 h2 h3 h4
  ·rw[show zjo k wn th fl ac la og st fr sl n=⟨k,th,th,max 0 (fl-n),ac,la,og,st,fr,false⟩ from (if_pos h3).trans (if_neg h4)];exact zmu sl w h1 h2 h3 (by omega)
 ·rw[show zjo k wn th fl ac la og st fr sl n=⟨k,(zc1 (ac+n) wn).2,th,max 0 (fl-n),(zc1 (ac+n) wn).1,la,og,st,fr,sl⟩ from if_neg h3];exact zkv sl w h1 h2 (by omega)
end
theorem z2c{wn:Int}(h:3000<=wn/\wn<=1000000000):3000<=zd8 wn/\zd8 wn<=wn/\wn<=2*zd8 wn+1:=by unfold zd8;omega
theorem zs1{k wn th fl ac la og st fr wn' th' fl' ac':Int}(h:ccB k wn th fl ac la og st fr=true)(h1:3000<=wn'/\wn'<=1000000000)(h2:3000<=th'/\th'<=1000000000)(h3:0<=fl'/\fl'<=1000000000)(h4:0<=ac'/\ac'<=1000000000):ccB k wn' th' fl' ac' la og st fr=true:=by
 unfold ccB at h ⊢;simp only[bae]at h ⊢;refine⟨⟨⟨⟨⟨⟨⟨⟨h.1.1.1.1.1.1.1.1,?_⟩,?_⟩,?_⟩,?_⟩,h.1.1.1.2⟩,h.1.1.2⟩,h.1.2⟩,h.2⟩
 ·unfold zgr;rw[decide_eq_true h1.1,decide_eq_true h1.2];rfl
 ·unfold zgr;rw[decide_eq_true h2.1,decide_eq_true h2.2];rfl
 ·unfold ze7;rw[decide_eq_true h3.1,decide_eq_true h3.2];rfl
 ·unfold ze7;rw[decide_eq_true h4.1,decide_eq_true h4.2];rfl
theorem z0e{k wn th fl ac la og st fr n ak awn ath afl aac ala aog ast afr:Int}{sl asl:Bool}(h1:ccB k wn th fl ac la og st fr=true)(h2:ze8 n=true)(h:zg7 k wn th fl ac la og st fr sl n=⟨ak,awn,ath,afl,aac,ala,aog,ast,afr,asl⟩):ak=k/\ccB ak awn ath afl aac ala aog ast afr=true/\wn<=awn/\afl<=fl/\(wn<th\/aac<awn):=by
 obtain⟨_,hw,ht,hf,ha,_⟩:=zbq h1;have hn:=zco h2;rw[show zg7 k wn th fl ac la og st fr sl n=zjo k wn th fl ac la og st fr sl n from if_pos ⟨h1,h2⟩]at h;unfold zjo at h;split at h
 ·split at h
  ·simp only[C10.mk.injEq]at h;obtain⟨rfl,rfl,rfl,rfl,rfl,rfl,rfl,rfl,rfl,rfl⟩:=h;exact⟨rfl,zs1 h1 (by omega) (by omega) (by omega) (by omega),by omega,by omega,.inl (by omega)⟩
  ·simp only[C10.mk.injEq]at h;obtain⟨rfl,rfl,rfl,rfl,rfl,rfl,rfl,rfl,rfl,rfl⟩:=h;exact⟨rfl,zs1 h1 (by omega) (by omega) (by omega) (by omega),by omega,by omega,.inl (by omega)⟩
 ·have hb:=zze (a:=ac+n) (x:=wn) hw.1 hw.2 (by omega);simp only[C10.mk.injEq]at h;obtain⟨rfl,rfl,rfl,rfl,rfl,rfl,rfl,rfl,rfl,rfl⟩:=h;exact⟨rfl,zs1 h1 (by omega) (by omega) (by omega) (by omega),by omega,by omega,.inr (by omega)⟩
end Go.Proofs.YthiojkjcmhojoaaGreat
