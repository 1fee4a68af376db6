import Derived.Test.YthiojkjcmhojoaaGreatGtAS
import Derived.Shelf.Abstract
namespace Go.Proofs.YthiojkjcmhojoaaGreat
set_option maxHeartbeats 4000000
open Go.ChangeShapes Go.WideShapes Go.ChangeAt Go.RowKit
set_option maxRecDepth 100000
set_option linter.all false
theorem zsf(p:Int)(k:Nat)(hk:k<=30)(w:World):Calls Tryz.prog 179 #[.int .i64 p,.int .i64 (k:Int)] w fun e w'=>e=.returned (.bool (zrz k p))/\w'=w:=by
 by_cases h:k=0
 ·subst h;rw[zt7];by_cases hp:p = -1
  ·subst hp;go_enter Tryz.func179,Tryz.ntmps179;go_wp2;go_ret;exact⟨rfl,rfl⟩
  ·have hp':(p == -1)=false:=(by simp[hp]);rw[decide_eq_false hp];go_enter Tryz.func179,Tryz.ntmps179;go_wp2;go_ret;exact⟨rfl,rfl⟩
 ·rw[zhd h];have k2:((k:Int) == 0)=false:=(by simp[h]);have k3:0<(k:Int):=(by omega);have k4:(k:Int)<=30:=(by omega);go_enter Tryz.func179,Tryz.ntmps179;go_wp2_with (first|(go_at_call 62;refine same1 (zbr _ _ _ _) ?_));go_ret;exact⟨rfl,rfl⟩
theorem zjf{p:Int}{k:Nat}{f:Bool}(h:zrz k p=f)(hk:k<=30)(w:World):Calls Tryz.prog 179 #[.int .i64 p,.int .i64 (k:Int)] w fun e w'=>e=.returned (.bool f)/\w'=w:=by subst h;exact zsf p k hk w
theorem zxs{w:World}{a:Option Addr}(cap:Nat){ts:List Q4}{k:Nat}(h:Qw w a ts)(hk:k<ts.length)(hl:ts.length<=30){p:Int}(HX:Hid (ts[k].1=p))(hp:zrz k p=true):
 Calls Tryz.prog 181 #[.slice a ts.length cap,.int .i64 (k:Int)] w fun e w'=>e=.returned (.int .i64 (zfq ts k p))/\w'=w:=by
 by_cases h0:k=0
 ·subst h0;rw[z1q];go_enter Tryz.func181,Tryz.ntmps181;go_wp2;go_ret;exact⟨rfl,rfl⟩
 ·have k2:((k:Int) == 0)=false:=(by simp[h0]);have hpn:=zos hp;have hp0:0<=p:=(by rw[zhd h0,bae]at hp;exact of_decide_eq_true hp.1);obtain⟨q,rfl⟩:∃q:Nat,p=q:=⟨p.toNat,by omega⟩;have hq:q<ts.length:=(by omega);have hq':(q:Int)<(ts.length:Int):=(by omega);have hk':(k:Int)<(ts.length:Int):=(by omega);obtain⟨b,off,rfl,hb,c0,_⟩:=h.at (brf _ _) k hk;have d2:=(h.cells (brf _ _) q hq).2.2.1;rw[HX.out]at c0;rw[zxb h0 rfl,zqf hq];generalize ts[q].2.2.1=d at d2 ⊢;clear hp hpn h0;go_enter Tryz.func181,Tryz.ntmps181;go_wp2;go_ret;exact⟨rfl,rfl⟩
theorem zes{x:Int}{f:Bool}(h:zdf x=f)(w:World):Calls Tryz.prog 191 #[.int .i64 x] w fun e w'=>e=.returned (.bool f)/\w'=w:=by subst h;exact zgv x w
theorem z03{lo x hi:Int}{f:Bool}(h:(decide (lo<=x) && decide (x<=hi))=f)(w:World):Calls Tryz.prog 62 #[.int .i64 x,.int .i64 lo,.int .i64 hi] w fun e w'=>e=.returned (.bool f)/\w'=w:=by subst h;exact zbr lo x hi w
theorem zxt(p r c u hi:Int)(w:World):Calls Tryz.prog 180 #[.agg #[.int .i64 p,.int .i64 r,.int .i64 c,.int .i64 u],.int .i64 hi] w fun e w'=>e=.returned (.bool (zhy hi (p,r,c,u)))/\Bw w w':=by
 rw[zcx];cases h1:zdf r
 ·go_enter Tryz.func180,Tryz.ntmps180;go_wp2_with (first|(go_at_call 191;refine same1 (zes h1 _) ?_));go_ret;exact⟨rfl,by go_grown⟩
 ·cases h2:zdf c
  ·go_enter Tryz.func180,Tryz.ntmps180;go_wp2_with (first|(go_at_call 191;refine same1 (zes h1 _) ?_;have g1:=h1)|(go_at_call 191;have g2:=g1;refine same1 (zes h2 _) ?_));go_ret;exact⟨rfl,by go_grown⟩
  ·by_cases h3:r<=c
   ·rw[decide_eq_true h3];by_cases h5:c<=hi
    ·rw[decide_eq_true h5];go_enter Tryz.func180,Tryz.ntmps180;go_wp2_with (first|(go_at_call 191;refine same1 (zes h1 _) ?_)|(go_at_call 191;refine same1 (zes h2 _) ?_)|(go_at_call 62;refine same1 (zbr _ _ _ _) ?_));go_ret;exact⟨rfl,by go_grown⟩
    ·have h5':decide (c<=hi)=false:=decide_eq_false h5;rw[h5'];go_enter Tryz.func180,Tryz.ntmps180;go_wp2_with (first|(go_at_call 191;refine same1 (zes h1 _) ?_)|(go_at_call 191;refine same1 (zes h2 _) ?_));go_ret;exact⟨rfl,by go_grown⟩
   ·have h3':decide (r<=c)=false:=decide_eq_false h3;rw[h3'];go_enter Tryz.func180,Tryz.ntmps180;go_wp2_with (first|(go_at_call 191;refine same1 (zes h1 _) ?_)|(go_at_call 191;refine same1 (zes h2 _) ?_));go_ret;exact⟨rfl,by go_grown⟩
theorem zum{p r c u hi:Int}{f:Bool}(h:zhy hi (p,r,c,u)=f)(w:World):Calls Tryz.prog 180 #[.agg #[.int .i64 p,.int .i64 r,.int .i64 c,.int .i64 u],.int .i64 hi] w fun e w'=>e=.returned (.bool f)/\Bw w w':=by subst h;exact zxt p r c u hi w
section
variable{w:World}{a:Option Addr}(cap:Nat){ts:List Q4}
theorem zqo{m:Nat}(h:Qw w a ts)(hs:Sound ts)(hl:ts.length<=30)(hm:m<ts.length):
 Calls Tryz.prog 182 #[.slice a ts.length cap,.int .i64 (m:Int)] w fun e w'=>e=.returned (.int .i64 (zhr ts m-zd9 ts (m:Int) ts.length))/\Bw w w':=by
 have HS:Hid (Sound ts):=hs;have hln:(ts.length:Int)<=30:=by omega
 have hm':(m:Int)<(ts.length:Int):=by omega
 have hR:=hs.rate m hm;clear hs;rw[zqe hm];obtain⟨b,off,rfl,hb,_,c1,_,_⟩:=h.at (brf _ _) m hm;generalize ts[m].2.1=R at hR c1 ⊢;have hR0:=hR.1;have hR1:=hR.2;clear hR;go_enter Tryz.func182,Tryz.ntmps182;go_wp2;go_loopw [5,15] (fun s j wr=>∃(k:Nat) (v:Int),j=.int .i64 k/\k<=ts.length/\s=.int .i64 v/\Hid (v=R-zd9 ts (m:Int) k)/\Bw w wr) (fun _ j _=>ts.length-(intOf j).toNat);case atStart=>exact⟨0,R,rfl,by omega,rfl,(Int.sub_zero R).symm,brf _ _⟩
 case round =>
  obtain⟨k,v,rfl,hk,rfl,HV,hbw⟩:=hrel;have zb:=hbw.size;have hv:=HS.out.kids (m:Int) k;have hv0:-30000000000000<=v:=(by rw[HV.out];omega);have hv1:v<=1000000000000:=(by rw[HV.out];omega);clear hv;by_cases hlt:k<ts.length
  ·obtain⟨e0,e1,e2,e3⟩:=h.cells hbw k hlt;have hlt':(k:Int)<(ts.length:Int):=(by omega);have hr:=HS.out.rate k hlt;obtain⟨x,hx⟩:∃x,ts[k]=x:=⟨_,rfl⟩;rw[hx]at e0 e1 e2 e3 hr;obtain⟨p,r,c,u⟩:=x;have HX:Hid (ts[k]=(p,r,c,u)):=hx;clear hx;simp only at e0 e1 e2 e3 hr;have hr0:=hr.1;have hr1:=hr.2;clear hr;by_cases hp:p=(m:Int)
   ·have HN:Hid (v-r=R-zd9 ts (m:Int) (k+1)):=(by show v-r=R-(zd9 ts (m:Int) k+zhm ts (m:Int) k);rw[zl1 hlt (by rw[HX.out];exact hp),HX.out,HV.out];simp only;omega);subst hp;go_wp2;go_roundw;case rel=>exact⟨k+1,v-r,by go_num,by omega,rfl,HN,by go_grown⟩
    case measure=>simp[intOf]<;>omega
   ·have HN:Hid (v=R-zd9 ts (m:Int) (k+1)):=(by show v=R-(zd9 ts (m:Int) k+zhm ts (m:Int) k);rw[zld hlt (by rw[HX.out];exact hp),Int.add_zero];exact HV.out);have hp':(p == (m:Int))=false:=(by simp[hp]);go_wp2;go_roundw;case rel=>exact⟨k+1,v,by go_num,by omega,rfl,HN,by go_grown⟩
    case measure=>simp[intOf]<;>omega
  ·have e:k=ts.length:=(by omega);subst e;go_wp2;go_ret;exact⟨zft HV.out,hbw⟩
theorem zxu(hl:zqd ts=false):
 Calls Tryz.prog 156 #[.slice a ts.length cap] w fun e w'=>e=.returned (.int .i64 (zal ts))/\Bw w w':=by
 rw[zt3 hl];have hi:(decide ((1:Int)<=(ts.length:Int)) && decide ((ts.length:Int)<=30))=false:=by
  rw[Bool.and_eq_false_iff];rcases zxd hl with h|h
  ·exact .inl (decide_eq_false (by omega))
  ·exact .inr (decide_eq_false (by omega))
 clear hl;go_enter Tryz.func156,Tryz.ntmps156;go_wp2_with (first|(go_at_call 62;refine same1 (z03 hi _) ?_));go_ret;exact⟨rfl,by go_grown⟩
theorem zqp(h:Qw w a ts):
 Calls Tryz.prog 156 #[.slice a ts.length cap] w fun e w'=>e=.returned (.int .i64 (zal ts))/\Bw w w':=by
 cases hl:zqd ts
 ·exact zxu cap hl
 have hn:=zxc hl;have hi:(decide ((1:Int)<=(ts.length:Int)) && decide ((ts.length:Int)<=30))=true:=by rw[bae];exact⟨decide_eq_true (by omega),decide_eq_true (by omega)⟩
 have HL:Hid (zqd ts=true):=hl;clear hl;have hn1:=hn.2;clear hn;have hln:(ts.length:Int)<=30:=by omega
 go_enter Tryz.func156,Tryz.ntmps156;go_wp2_with (first|(go_at_call 62;refine (z03 hi _).mono ?_;rintro e w2 ⟨rfl,rfl⟩));go_loopw [12] (fun i wr=>∃k:Nat,i=.int .i64 k/\k<=ts.length/\Hid (zce ts k=0)/\Bw w2 wr) (fun i _=>ts.length-(intOf i).toNat);case atStart=>exact⟨0,rfl,by omega,rfl,brf _ _⟩
 case round =>
  obtain⟨k,rfl,hk,HF,hbw⟩:=hrel;have zb:=hbw.size;by_cases hlt:k<ts.length
  ·obtain⟨b,off,rfl,hb,c0,c1,c2,c3⟩:=h.at hbw k hlt;have hlt':(k:Int)<(ts.length:Int):=(by omega);have hbz:b<wr.heap.size:=nlt hb hbw.size;obtain⟨x,hx⟩:∃x,ts[k]=x:=⟨_,rfl⟩;rw[hx]at c0 c1 c2 c3;obtain⟨p,r,c,u⟩:=x;have HX:Hid (ts[k]=(p,r,c,u)):=hx;have HX1:Hid (ts[k].1=p):=(by rw[hx];exact rfl);clear hx;simp only at c0 c1 c2 c3;cases hpar:zrz k p
   ·have HC:Hid (zal ts=2):=(by have e:zfj ts k ts[k]=2:=(by rw[HX.out];exact zt4 hpar);show zal ts=2;rw[zie HL.out hlt HF.out (by rw[e];decide),e]);go_wp2_with (first|(go_at_call 179;refine same1 (zjf hpar (by omega) _) ?_));go_ret;exact⟨zft HC.out.symm,by go_grown⟩
   ·have hq:Quad (wr.alloc (.cells #[.int .i64 p,.int .i64 r,.int .i64 c,.int .i64 u] 110)).drew.heap.size (wr.alloc (.cells #[.int .i64 p,.int .i64 r,.int .i64 c,.int .i64 u] 110)).drew (some ⟨b,off,none⟩) ts:=(by refine Quad.here h ?_;have:Bw w2 (wr.alloc (.cells #[.int .i64 p,.int .i64 r,.int .i64 c,.int .i64 u] 110)):=(by go_grown);exact this.drew);have HCU:Hid (∀f,zhy (zfq ts k p) (p,r,c,u)=f->zfj ts k ts[k]=if f=true then 0 else 3):=by
     intro f hf;rw[HX.out];cases f
     ·exact zoq hpar hf
     ·exact zsd hpar hf
    have hhi:=zxs cap hq hlt hn1 HX1 hpar;obtain⟨d,hd⟩:∃d,zfq ts k p=d:=⟨_,rfl⟩;rw[hd]at hhi HCU;clear hd hq;have hsz:wr.heap.size<(wr.alloc (.cells #[.int .i64 p,.int .i64 r,.int .i64 c,.int .i64 u] 110)).drew.heap.size:=(by simp);have n0:(wr.alloc (.cells #[.int .i64 p,.int .i64 r,.int .i64 c,.int .i64 u] 110)).drew.cell? ⟨wr.heap.size,0,none⟩=some (.int .i64 p):=(by go_simp);have n1:(wr.alloc (.cells #[.int .i64 p,.int .i64 r,.int .i64 c,.int .i64 u] 110)).drew.cell? ⟨wr.heap.size,1,none⟩=some (.int .i64 r):=(by go_simp);have n2:(wr.alloc (.cells #[.int .i64 p,.int .i64 r,.int .i64 c,.int .i64 u] 110)).drew.cell? ⟨wr.heap.size,2,none⟩=some (.int .i64 c):=(by go_simp);have n3:(wr.alloc (.cells #[.int .i64 p,.int .i64 r,.int .i64 c,.int .i64 u] 110)).drew.cell? ⟨wr.heap.size,3,none⟩=some (.int .i64 u):=(by go_simp);have hbn:Bw w2 (wr.alloc (.cells #[.int .i64 p,.int .i64 r,.int .i64 c,.int .i64 u] 110)).drew:=(hbw.alloc zb _).drew;cases hcl:zhy d (p,r,c,u)
    ·have HC:Hid (zal ts=3):=(by have e:zfj ts k ts[k]=3:=HCU.out false hcl;show zal ts=3;rw[zie HL.out hlt HF.out (by rw[e];decide),e]);go_wp2_with (first|(go_at_call 179;refine same1 (zjf hpar (by omega) _) ?_));go_region_held3 (fun w'=>w'.cell? ⟨wr.heap.size,0,none⟩=some (.int .i64 p)/\w'.cell? ⟨wr.heap.size,1,none⟩=some (.int .i64 r)/\w'.cell? ⟨wr.heap.size,2,none⟩=some (.int .i64 c)/\w'.cell? ⟨wr.heap.size,3,none⟩=some (.int .i64 u)) (go_keep)
      (first|(go_at_call 181;refine hhi.mono ?_;rintro e w4 ⟨rfl,rfl⟩)|(go_at_call 180;refine (zum hcl _).mono ?_;rintro e w5 ⟨rfl,hb5⟩;have q0:=(zai hb5 _ _ hsz).trans n0;have q1:=(zai hb5 _ _ hsz).trans n1;have q2:=(zai hb5 _ _ hsz).trans n2;have q3:=(zai hb5 _ _ hsz).trans n3;have hb6:=hbn.trans (hb5.mono hbn.size)))
     go_wp2;go_ret;exact⟨zft HC.out.symm,hb6⟩
    ·have HN:Hid (zce ts (k+1)=0):=(by show zce ts (k+1)=0;rw[zfs HF.out,zfr hlt];exact HCU.out true hcl);go_wp2_with (first|(go_at_call 179;refine (zjf hpar (by omega) _).mono ?_;rintro e w3 ⟨rfl,rfl⟩));go_region_held3 (fun w'=>w'.cell? ⟨wr.heap.size,0,none⟩=some (.int .i64 p)/\w'.cell? ⟨wr.heap.size,1,none⟩=some (.int .i64 r)/\w'.cell? ⟨wr.heap.size,2,none⟩=some (.int .i64 c)/\w'.cell? ⟨wr.heap.size,3,none⟩=some (.int .i64 u)) (go_keep)
      (first|(go_at_call 181;refine hhi.mono ?_;rintro e w4 ⟨rfl,rfl⟩)|(go_at_call 180;refine (zum hcl _).mono ?_;rintro e w5 ⟨rfl,hb5⟩;have q0:=(zai hb5 _ _ hsz).trans n0;have q1:=(zai hb5 _ _ hsz).trans n1;have q2:=(zai hb5 _ _ hsz).trans n2;have q3:=(zai hb5 _ _ hsz).trans n3;have hb6:=hbn.trans (hb5.mono hbn.size)))
     go_wp2;go_roundw;case rel=>exact⟨k+1,by go_num,by omega,HN,hb6⟩
     case measure=>simp[intOf]<;>omega
  ·have e:k=ts.length:=(by omega);subst e;have HS:Hid (Sound ts):=zor HF.out;go_wp2;go_loopw [31] (fun i wx=>∃k:Nat,i=.int .i64 k/\k<=ts.length/\Hid (zdh ts k=false)/\Bw w2 wx) (fun i _=>ts.length-(intOf i).toNat);case atStart=>exact⟨0,rfl,by omega,rfl,hbw⟩
   case round =>
    clear hbw zb;obtain⟨k,rfl,hk,HO,hbw⟩:=hrel;have zb:=hbw.size;by_cases hlt:k<ts.length
    ·have hlt':(k:Int)<(ts.length:Int):=(by omega);obtain⟨v,hv⟩:∃v,zhr ts k-zd9 ts (k:Int) ts.length=v:=⟨_,rfl⟩;have hsp:=fun (w3:World) (hq:Qw w3 a ts)=>zqo cap hq HS.out hn1 hlt;rw[hv]at hsp;by_cases ho:v<0
     ·have HC:Hid (zal ts=4):=zt6 HL.out HF.out (zxa hlt (by omega));clear hv;go_wp2_with (first|(go_at_call 182;refine (hsp _ ((h.mono hbw).up zb)).mono ?_;rintro e w4 ⟨rfl,hb4⟩));go_ret;exact⟨zft HC.out.symm,hbw.trans (hb4.mono zb)⟩
     ·have HN:Hid (zdh ts (k+1)=false):=zqh HO.out (by omega);have ho':decide (v<0)=false:=decide_eq_false ho;clear hv;go_wp2_with (first|(go_at_call 182;refine (hsp _ ((h.mono hbw).up zb)).mono ?_;rintro e w4 ⟨rfl,hb4⟩));go_roundw;case rel=>exact⟨k+1,by go_num,by omega,HN,hbw.trans (hb4.mono zb)⟩
      case measure=>simp[intOf]<;>omega
    ·have e:k=ts.length:=(by omega);subst e;have HC:Hid (zal ts=0):=zqi HL.out HF.out HO.out;go_wp2;go_ret;exact⟨zft HC.out.symm,hbw⟩
end
theorem z1z{w:World}{c:Nat}{i:Int}(hc:w.cell? ⟨c,0,none⟩=some (.int .i64 i))(hz:c<w.heap.size)(p q r s:Int):
 Calls Tryz.prog 177 #[.agg #[.int .i64 p,.int .i64 q,.int .i64 r,.int .i64 s],.pointer (some ⟨c,0,none⟩)] w fun e w'=>e=.returned (.bool (p == i))/\Bw w w':=by
 have hn:w.heap.size≠c:=by omega
 go_enter Tryz.func177,Tryz.ntmps177;go_wp2;go_ret;exact⟨rfl,by go_grown⟩
def z14(i:Int)(ts:List Q4)(w:World)(e:Ending)(w':World):Prop:=∃z:Int,e=.returned (.int .i64 z)/\decide (0<=z) = !zdg ts i/\Bw w w'
section
variable{w:World}{a:Option Addr}(cap:Nat){ts:List Q4}
theorem zvr{c:Nat}{i:Int}(h:Qw w a ts)(hc:w.cell? ⟨c,0,none⟩=some (.int .i64 i))(hz:c<w.heap.size)(hl:ts.length<=30):
 Calls Tryz.prog 198 #[.slice a ts.length cap,.func (.func 177) #[] #[.pointer (some ⟨c,0,none⟩)]] w (z14 i ts w):=by
 have eg:∀args w,(callFunc 177 args).run Tryz.prog w=.ok (.enter 177 args) w:=enters_of Tryz.func177 (by kernel_rfl) rfl;have hl':(ts.length:Int)<=30:=by omega
 go_enter Tryz.func198,Tryz.ntmps198;go_wp2;go_loopw [8] (fun s wr=>∃k:Nat,s=.int .i64 k/\k<=ts.length/\Hid (∀m (h:m<ts.length),m<k->ts[m].1≠i)/\Bw w wr) (fun s _=>ts.length-(intOf s).toNat);case atStart=>exact⟨0,rfl,by omega,(fun m h k=>by omega),brf _ _⟩
 case round =>
  obtain⟨k,rfl,hk,HA,hwr⟩:=hrel;by_cases hlt:k<ts.length
  ·obtain⟨b,off,rfl,hb,c0,c1,c2,c3⟩:=h.at hwr k hlt;have hlt':(k:Int)<(ts.length:Int):=(by omega);obtain⟨x,hx⟩:∃x,ts[k]=x:=⟨_,rfl⟩;rw[hx]at c0 c1 c2 c3;obtain⟨p,q,r,s⟩:=x;have HX:Hid (ts[k].1=p):=(by rw[hx];exact rfl);clear hx;simp only at c0 c1 c2 c3;have hd:=z1z (w:=wr) (i:=i) (c:=c) (bct hwr hz hc) (nlt hz hwr.size) p q r s;by_cases hp:p=i
   ·have hp':(p == i)=true:=(by simp[hp]);rw[hp']at hd;have HP:Hid (zdg ts i=false):=zw7 hlt (by rw[HX.out];exact hp);clear hp hp';go_wp2_with (first|(go_at_call 177;refine hd.mono ?_;rintro e w3 ⟨rfl,hb3⟩));go_ret;exact⟨k,rfl,by rw[HP.out];exact decide_eq_true (by omega),zag hwr hb3⟩
   ·have hp':(p == i)=false:=(by simp[hp]);rw[hp']at hd;have HP:Hid (¬p=i):=hp;clear hp hp';go_wp2_with (first|(go_at_call 177;refine hd.mono ?_;rintro e w3 ⟨rfl,hb3⟩));go_roundw;case rel =>
     refine⟨k+1,by go_num,by omega,fun m hm hk=>?_,zag hwr hb3⟩;by_cases e:m=k
     ·subst e;rw[HX.out];exact HP.out
     ·exact HA.out m hm (by omega)
    case measure=>simp[intOf]<;>omega
  ·have e:k=ts.length:=(by omega);subst e;go_wp2;go_ret;exact⟨-1,rfl,by rw[zt0 (fun m hm=>HA.out m hm hm)];rfl,hwr⟩
theorem zvs{c:Nat}{i:Int}(h:Qw w a ts)(hc:w.cell? ⟨c,0,none⟩=some (.int .i64 i))(hz:c<w.heap.size)(hl:ts.length<=30):
 Calls Tryz.prog 176 #[.slice a ts.length cap,.func (.func 177) #[] #[.pointer (some ⟨c,0,none⟩)]] w fun e w'=>e=.returned (.bool (!zdg ts i))/\Bw w w':=by
 go_enter Tryz.func176,Tryz.ntmps176;go_wp2_with (first|(go_at_call 198;refine (zvr cap h hc hz hl).mono ?_;rintro e w2 ⟨z,rfl,hzz,hb2⟩;have HZ:Hid (decide (0<=z) = !zdg ts i):=hzz;clear hzz));go_ret;exact⟨zlo HZ.out,hb2⟩
theorem zxv(i:Int)(h:Qw w a ts)(hl:ts.length<=30):
 Calls Tryz.prog 147 #[.slice a ts.length cap,.int .i64 i] w fun e w'=>e=.returned (.bool (zdg ts i))/\Bw w w':=by
 have hb1:Bw w (w.alloc (.cells #[.int .i64 i] 2)):=by go_grown
 have hk:=zvs cap (c:=w.heap.size) (i:=i) (h.here hb1) (by go_simp) (by simp) hl;go_enter Tryz.func147,Tryz.ntmps147;go_wp2_with (first|(go_at_call 176;refine hk.mono ?_;rintro e w2 ⟨rfl,hb2⟩));go_ret;exact⟨zlo (by simp),hb1.trans (hb2.mono hb1.size)⟩
theorem zun{i:Int}{f:Bool}(hf:zdg ts i=f)(h:Qw w a ts)(hl:ts.length<=30):
 Calls Tryz.prog 147 #[.slice a ts.length cap,.int .i64 i] w fun e w'=>e=.returned (.bool f)/\Bw w w':=by subst hf;exact zxv cap i h hl
end
end Go.Proofs.YthiojkjcmhojoaaGreat
