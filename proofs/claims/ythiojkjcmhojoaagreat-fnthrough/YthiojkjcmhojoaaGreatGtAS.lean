import Derived.Test.YthiojkjcmhojoaaGreatGtAR
import Derived.Laws.AppendOwnNone
import Derived.Test.YthiojkjcmhojoaaGreatGtAF
import Derived.Test.YthiojkjcmhojoaaGreatGtAH
namespace Go.Proofs.YthiojkjcmhojoaaGreat
set_option maxHeartbeats 8000000
open Go.ChangeShapes Go.WideShapes Go.ChangeAt Go.RowKit
set_option maxRecDepth 100000
set_option linter.all false
def zc9(ts:List Q4)(i:Int):Int:=match ts[i.toNat]? with|some t=>t.1|none=>-1
def zm9(ts:List Q4):Nat->Int->List Int
 | 0,_=>[]| f+1,i=>if i<0 then [] else i :: zm9 ts f (zc9 ts i)
def zaq(ts:List Q4)(i:Int):List Int:=zm9 ts (i+1).toNat i
def zoo(ts:List Q4):Prop:=∀k (hk:k<ts.length),-1<=ts[k].1/\ts[k].1<k
theorem zqb{ts:List Q4}{k:Nat}(hk:k<ts.length):zc9 ts k=ts[k].1:=by unfold zc9;rw[Int.toNat_natCast,List.getElem?_eq_getElem hk]
theorem zgy{ts:List Q4}(h:zoo ts){i:Int}(h0:0<=i)(h1:i<ts.length):-1<=zc9 ts i/\zc9 ts i<i:=by obtain⟨k,rfl⟩:∃k:Nat,i=k:=⟨i.toNat,by omega⟩;rw[zqb (by omega)];exact h k (by omega)
theorem zj2(ts:List Q4):∀f i,(zm9 ts f i).length<=f
 | 0,_=>nrf _
 | f+1,i=>by
  unfold zm9;by_cases h:i<0
  ·rw[if_pos h];exact Nat.zero_le _
  ·rw[if_neg h,List.length_cons];exact Nat.succ_le_succ (zj2 ts f _)
theorem znw{ts:List Q4}(h:zoo ts):∀(f f':Nat) (i:Int),i<ts.length->i+1<=f->i+1<=f'->zm9 ts f i=zm9 ts f' i
 | 0,f',i,h1,h2,h3=>by
  cases f' with
  | zero=>rfl| succ f'=>unfold zm9;rw[if_pos (by omega)]
 | f+1,f',i,h1,h2,h3=>by
  cases f' with
  | zero=>unfold zm9;rw[if_pos (by omega)]
  | succ f' =>
   unfold zm9;by_cases k:i<0
   ·rw[if_pos k,if_pos k]
   ·rw[if_neg k,if_neg k];have hp:=zgy h (by omega) h1;rw[znw h f f' (zc9 ts i) (by omega) (by omega) (by omega)]
theorem zop{ts:List Q4}{i:Int}(h:i<0):zaq ts i=[]:=by unfold zaq;rw[show (i+1).toNat=0 by omega];rfl
theorem zl0{ts:List Q4}(h:zoo ts){i:Int}(h0:0<=i)(h1:i<ts.length):zaq ts i=i :: zaq ts (zc9 ts i):=by have hp:=zgy h h0 h1;unfold zaq;rw[show (i+1).toNat=i.toNat+1 by omega];show (if i<0 then [] else i :: zm9 ts i.toNat (zc9 ts i))=_;rw[if_neg (by omega),znw h i.toNat (zc9 ts i+1).toNat (zc9 ts i) (by omega) (by omega) (by omega)]
theorem zge{ts:List Q4}{i:Int}(h1:i<ts.length):(zaq ts i).length<=ts.length:=ntr (zj2 ts _ _) (by omega)
def z0w(x:Int):Bool:=decide (1500<=x) && decide (x<=1000000000)
def zhr(ts:List Q4)(k:Nat):Int:=match ts[k]? with|some t=>t.2.1|none=>0
def zt2(ts:List Q4)(k:Nat):Int:=match ts[k]? with|some t=>t.2.2.1|none=>0
def zrz(k:Nat)(p:Int):Bool:=if k=0 then decide (p = -1) else decide (0<=p) && decide (p<=(k:Int)-1)
def zfq(ts:List Q4)(k:Nat)(p:Int):Int:=if k=0 then 1000000000000 else zt2 ts p.toNat
def zhy(hi:Int)(t:Q4):Bool:=(((zdf t.2.1 && zdf t.2.2.1) && decide (t.2.1<=t.2.2.1)) && decide (t.2.2.1<=hi)) && z0w t.2.2.2
def zfj(ts:List Q4)(k:Nat)(t:Q4):Int:=if zrz k t.1=true then (if zhy (zfq ts k t.1) t=true then 0 else 3) else 2
def zqc(ts:List Q4)(k:Nat):Int:=match ts[k]? with|some t=>zfj ts k t|none=>0
def zce(ts:List Q4):Nat->Int
 | 0=>0| k+1=>if zce ts k=0 then zqc ts k else zce ts k
def zhm(ts:List Q4)(i:Int)(k:Nat):Int:=match ts[k]? with|some t=>if t.1=i then t.2.1 else 0|none=>0
def zd9(ts:List Q4)(i:Int):Nat->Int
 | 0=>0| k+1=>zd9 ts i k+zhm ts i k
def zdh(ts:List Q4):Nat->Bool
 | 0=>false| k+1=>zdh ts k || decide (zhr ts k<zd9 ts (k:Int) ts.length)
def zqd(ts:List Q4):Bool:=decide (1<=ts.length) && decide (ts.length<=30)
def zal(ts:List Q4):Int:=if zqd ts=true then (if zce ts ts.length=0 then (if zdh ts ts.length=true then 4 else 0) else zce ts ts.length) else 1
section
variable{ts:List Q4}
theorem zfr{k:Nat}(hk:k<ts.length):zqc ts k=zfj ts k ts[k]:=by unfold zqc;rw[List.getElem?_eq_getElem hk]
theorem zqe{k:Nat}(hk:k<ts.length):zhr ts k=ts[k].2.1:=by unfold zhr;rw[List.getElem?_eq_getElem hk]
theorem zqf{k:Nat}(hk:k<ts.length):zt2 ts k=ts[k].2.2.1:=by unfold zt2;rw[List.getElem?_eq_getElem hk]
theorem zl1{i:Int}{k:Nat}(hk:k<ts.length)(h:ts[k].1=i):zhm ts i k=ts[k].2.1:=by unfold zhm;rw[List.getElem?_eq_getElem hk];simp[h]
theorem zld{i:Int}{k:Nat}(hk:k<ts.length)(h:ts[k].1≠i):zhm ts i k=0:=by unfold zhm;rw[List.getElem?_eq_getElem hk];simp[h]
end
theorem zl2{ts:List Q4}{k:Nat}(h:zce ts k≠0):∀d,zce ts (k+d)=zce ts k
 | 0=>rfl| d+1=>by show (if zce ts (k+d)=0 then _ else zce ts (k+d))=_;rw[zl2 h d,if_neg h]
section
variable{ts:List Q4}
theorem zfs{k:Nat}(h:zce ts k=0):zce ts (k+1)=zqc ts k:=if_pos h
theorem zw9{k:Nat}(hk:k<ts.length)(h:zce ts k=0)(hc:zfj ts k ts[k]≠0):zce ts ts.length=zfj ts k ts[k]:=by
 have e:zce ts (k+1)=zfj ts k ts[k]:=by rw[zfs h,zfr hk]
 have s:=zl2 (ts:=ts) (k:=k+1) (by rw[e];exact hc) (ts.length-(k+1));rw[show k+1+(ts.length-(k+1))=ts.length by omega]at s;rw[s,e]
theorem zie{k:Nat}(hl:zqd ts=true)(hk:k<ts.length)(h:zce ts k=0)(hc:zfj ts k ts[k]≠0):zal ts=zfj ts k ts[k]:=by have e:=zw9 hk h hc;unfold zal;rw[if_pos hl,if_neg (by rw[e];exact hc),e]
theorem zt3(hl:zqd ts=false):zal ts=1:=by unfold zal;rw[hl];rfl
section
variable{k:Nat}{t:Q4}
theorem zt4(h:zrz k t.1=false):zfj ts k t=2:=by unfold zfj;rw[h];rfl
theorem zoq(h:zrz k t.1=true)(h2:zhy (zfq ts k t.1) t=false):zfj ts k t=3:=by unfold zfj;rw[h,h2];rfl
theorem zsd(h:zrz k t.1=true)(h2:zhy (zfq ts k t.1) t=true):zfj ts k t=0:=by unfold zfj;rw[h,h2];rfl
theorem znx(h:zfj ts k t=0):zrz k t.1=true/\zhy (zfq ts k t.1) t=true:=by
 unfold zfj at h;by_cases h1:zrz k t.1=true
 ·rw[if_pos h1]at h;by_cases h2:zhy (zfq ts k t.1) t=true
  ·exact⟨h1,h2⟩
  ·rw[if_neg h2]at h;cases h
 ·rw[if_neg h1]at h;cases h
end
end
theorem zl3{ts:List Q4}:∀{n:Nat},zce ts n=0->∀k,k<n->zqc ts k=0
 | 0,_,k,hk=>by cases hk
 | n+1,h,k,hk=>by
  have h0:zce ts n=0:=by
   by_cases e:zce ts n=0
   ·exact e
   ·have:zce ts (n+1)=zce ts n:=if_neg e;rw[this]at h;exact h
  rw[zfs h0]at h;by_cases e:k=n
  ·subst e;exact h
  ·exact zl3 h0 k (by omega)
structure Sound (ts:List Q4):Prop where
 par:∀k (hk:k<ts.length),zrz k ts[k].1=true
 cls:∀k (hk:k<ts.length),zhy (zfq ts k ts[k].1) ts[k]=true
theorem zor{ts:List Q4}(h:zce ts ts.length=0):Sound ts :=
 ⟨fun k hk=>(znx (by rw[<-zfr hk];exact zl3 h k hk)).1,fun k hk=>(znx (by rw[<-zfr hk];exact zl3 h k hk)).2⟩
theorem zos{k:Nat}{p:Int}(h:zrz k p=true):-1<=p/\p<k:=by
 unfold zrz at h;by_cases e:k=0
 ·rw[if_pos e]at h;have:=of_decide_eq_true h;omega
 ·rw[if_neg e,bae]at h;have h1:=of_decide_eq_true h.1;have h2:=of_decide_eq_true h.2;omega
theorem zqg{x:Int}(h:zdf x=true):0<=x/\x<=1000000000000:=by simpa[zdf] using h
theorem zzl{hi:Int}{t:Q4}(h:zhy hi t=true):0<=t.2.1/\t.2.1<=1000000000000:=by unfold zhy at h;rw[bae,bae,bae,bae]at h;exact zqg h.1.1.1.1
theorem Sound.well{ts:List Q4}(h:Sound ts):zoo ts:=fun k hk=>zos (h.par k hk)
theorem Sound.rate{ts:List Q4}(h:Sound ts)(k:Nat)(hk:k<ts.length):0<=ts[k].2.1/\ts[k].2.1<=1000000000000:=zzl (h.cls k hk)
theorem Sound.kid{ts:List Q4}(h:Sound ts)(i:Int)(k:Nat):0<=zhm ts i k/\zhm ts i k<=1000000000000:=by
 by_cases hk:k<ts.length
 ·by_cases e:ts[k].1=i
  ·rw[zl1 hk e];exact h.rate k hk
  ·rw[zld hk e];omega
 ·unfold zhm;rw[List.getElem?_eq_none (by omega)];simp
theorem Sound.kids{ts:List Q4}(h:Sound ts)(i:Int):∀k,0<=zd9 ts i k/\zd9 ts i k<=1000000000000*(k:Int)
 | 0=>by simp[zd9]| k+1=>by have h1:=h.kids i k;have h2:=h.kid i k;show 0<=zd9 ts i k+zhm ts i k/\zd9 ts i k+zhm ts i k<=1000000000000*((k+1:Nat):Int);omega
theorem Sound.none{ts:List Q4}(h:Sound ts)(i:Nat):∀k,k<=i+1->zd9 ts (i:Int) k=0
 | 0,_=>rfl
 | k+1,hk=>by
  show zd9 ts (i:Int) k+zhm ts (i:Int) k=0;rw[h.none i k (by omega)];by_cases hl:k<ts.length
  ·have:=(h.well k hl).2;rw[zld hl (by omega)];rfl
  ·unfold zhm;rw[List.getElem?_eq_none (by omega)];rfl
theorem zny{ts:List Q4}{k:Nat}(h:zdh ts k=true):∀d,zdh ts (k+d)=true
 | 0=>h| d+1=>by show (zdh ts (k+d) || _)=true;rw[zny h d];rfl
theorem zxa{ts:List Q4}{k:Nat}(hk:k<ts.length)(h:zhr ts k<zd9 ts (k:Int) ts.length):zdh ts ts.length=true:=by
 have e:zdh ts (k+1)=true:=by show (zdh ts k || decide _)=true;rw[decide_eq_true h,Bool.or_true]
 have s:=zny e (ts.length-(k+1));rw[show k+1+(ts.length-(k+1))=ts.length by omega]at s;exact s
theorem zqh{ts:List Q4}{k:Nat}(h0:zdh ts k=false)(h:¬zhr ts k<zd9 ts (k:Int) ts.length):zdh ts (k+1)=false:=by show (zdh ts k || decide _)=false;rw[h0,decide_eq_false h];rfl
theorem zt5{ts:List Q4}:∀{n:Nat},zdh ts n=false->∀k,k<n->zd9 ts (k:Int) ts.length<=zhr ts k
 | 0,_,k,hk=>by cases hk
 | n+1,h,k,hk=>by
  have h':(zdh ts n || decide (zhr ts n<zd9 ts (n:Int) ts.length))=false:=h;rw[Bool.or_eq_false_iff]at h';by_cases e:k=n
  ·subst e;have:=of_decide_eq_false h'.2;omega
  ·exact zt5 h'.1 k (by omega)
theorem zt6{ts:List Q4}(hl:zqd ts=true)(h:zce ts ts.length=0)(ho:zdh ts ts.length=true):zal ts=4:=by unfold zal;rw[if_pos hl,if_pos h,if_pos ho]
theorem zqi{ts:List Q4}(hl:zqd ts=true)(h:zce ts ts.length=0)(ho:zdh ts ts.length=false):zal ts=0:=by unfold zal;rw[if_pos hl,if_pos h,ho];rfl
structure IsTree (ts:List Q4):Prop where
 l0:1<=ts.length
 l1:ts.length<=30
 sound:Sound ts
 sum:∀k,k<ts.length->zd9 ts (k:Int) ts.length<=zhr ts k
theorem zgz{ts:List Q4}(h:zal ts=0):IsTree ts:=by
 unfold zal at h;by_cases hl:zqd ts=true
 ·rw[if_pos hl]at h;by_cases hf:zce ts ts.length=0
  ·rw[if_pos hf]at h;by_cases ho:zdh ts ts.length=true
   ·rw[if_pos ho]at h;cases h
   ·unfold zqd at hl;rw[bae]at hl;exact⟨of_decide_eq_true hl.1,of_decide_eq_true hl.2,zor hf,zt5 (by simpa using ho)⟩
  ·rw[if_neg hf]at h;exact absurd h hf
 ·rw[if_neg hl]at h;cases h
def zcd(ts:List Q4)(k:Nat):List Int:=((List.range k).filter fun (j:Nat)=>zdg ts (j:Int)).map fun (j:Nat)=>(j:Int)
def zbk(ts:List Q4):List Int:=if zal ts=0 then zcd ts ts.length else []
theorem zi7{ts:List Q4}{k:Nat}(h:zdg ts (k:Int)=true):zcd ts (k+1)=zcd ts k ++ [(k:Int)]:=by unfold zcd;rw[List.range_succ,List.filter_append,List.map_append];simp[h]
theorem zqj{ts:List Q4}{k:Nat}(h:zdg ts (k:Int)=false):zcd ts (k+1)=zcd ts k:=by unfold zcd;rw[List.range_succ,List.filter_append,List.map_append];simp[h]
theorem zif(ts:List Q4)(k:Nat):(zcd ts k).length<=k:=by unfold zcd;rw[List.length_map];exact ntr (List.length_filter_le _ _) (by simp)
theorem zl4(ts:List Q4):(zbk ts).length<=30:=by
 unfold zbk;by_cases h:zal ts=0
 ·rw[if_pos h];exact ntr (zif ts _) (zgz h).l1
 ·rw[if_neg h];exact Nat.zero_le _
theorem zft{f g:Int}(h:f=g):Ending.returned (.int .i64 f)=.returned (.int .i64 g):=by rw[h]
theorem zca{x:Int}{f:Bool}(h:zdf x=f)(w:World):Calls Tryz.prog 144 #[.int .i64 x] w fun e w'=>e=.returned (.bool f)/\w'=w:=by subst h;exact zgb x w
theorem zdy{lo x hi:Int}{f:Bool}(h:(decide (lo<=x) && decide (x<=hi))=f)(w:World):Calls Tryz.prog 48 #[.int .i64 x,.int .i64 lo,.int .i64 hi] w fun e w'=>e=.returned (.bool f)/\w'=w:=by subst h;exact zey lo x hi w
theorem zcx{hi r c u:Int}{p:Int}:zhy hi (p,r,c,u)=((((zdf r && zdf c) && decide (r<=c)) && decide (c<=hi)) && z0w u):=rfl
theorem zt7{p:Int}:zrz 0 p=decide (p = -1):=rfl
theorem zhd{k:Nat}{p:Int}(h:k≠0):zrz k p=(decide (0<=p) && decide (p<=(k:Int)-1)):=if_neg h
section
variable{ts:List Q4}
theorem z1q{p:Int}:zfq ts 0 p=1000000000000:=rfl
theorem zxb{k q:Nat}{p:Int}(h:k≠0)(hp:p=q):zfq ts k p=zt2 ts q:=by subst hp;exact if_neg h
theorem zxc(h:zqd ts=true):1<=ts.length/\ts.length<=30:=by unfold zqd at h;rw[bae]at h;exact⟨of_decide_eq_true h.1,of_decide_eq_true h.2⟩
theorem zxd(h:zqd ts=false):ts.length=0\/30<ts.length:=by
 unfold zqd at h;rw[Bool.and_eq_false_iff]at h;rcases h with h|h
 ·have:=of_decide_eq_false h;omega
 ·have:=of_decide_eq_false h;omega
end
section
variable{w:World}{a:Option Addr}(cap:Nat){ts:List Q4}
theorem zqk(hl:zqd ts=false):
 Calls Tryz.prog 93 #[.slice a ts.length cap] w fun e w'=>e=.returned (.int .i64 (zal ts))/\Bw w w':=by
 rw[zt3 hl];rcases zxd hl with h|h
 ·have h':(ts.length:Int)<1:=(by omega);clear hl h;go_enter Tryz.func93,Tryz.ntmps93;go_wp2;go_ret;exact⟨rfl,by go_grown⟩
 ·have h':(30:Int)<(ts.length:Int):=(by omega);have h2:decide ((ts.length:Int)<1)=false:=decide_eq_false (by omega);clear hl h;go_enter Tryz.func93,Tryz.ntmps93;go_wp2;go_ret;exact⟨rfl,by go_grown⟩
theorem zdi(h:Qw w a ts):
 Calls Tryz.prog 93 #[.slice a ts.length cap] w fun e w'=>e=.returned (.int .i64 (zal ts))/\Bw w w':=by
 cases hl:zqd ts
 ·exact zqk cap hl
 have hn:=zxc hl;have n0:decide ((ts.length:Int)<1)=false:=decide_eq_false (by omega);have n1:decide ((30:Int)<(ts.length:Int))=false:=decide_eq_false (by omega);have HL:Hid (zqd ts=true):=hl;clear hl;go_enter Tryz.func93,Tryz.ntmps93;go_wp2;go_loopw [4] (fun i wr=>∃k:Nat,i=.int .i64 k/\k<=ts.length/\Hid (zce ts k=0)/\Bw w wr) (fun i _=>ts.length-(intOf i).toNat);case atStart=>exact⟨0,rfl,by omega,rfl,by go_grown⟩
 case round =>
  obtain⟨k,rfl,hk,HF,hbw⟩:=hrel;by_cases hlt:k<ts.length
  ·obtain⟨b,off,rfl,hb,c0,c1,c2,c3⟩:=h.at hbw k hlt;have hlt':(k:Int)<(ts.length:Int):=(by omega);have zb:=hbw.size;have hbz:b<wr.heap.size:=nlt hb hbw.size;obtain⟨x,hx⟩:∃x,ts[k]=x:=⟨_,rfl⟩;rw[hx]at c0 c1 c2 c3;obtain⟨p,r,c,u⟩:=x;have HX:Hid (ts[k]=(p,r,c,u)):=hx;clear hx;simp only at c0 c1 c2 c3;have bad2:zrz k p=false->zal ts=2:=fun hp=>(by have e:zfj ts k ts[k]=2:=(by rw[HX.out];exact zt4 hp);rw[zie HL.out hlt HF.out (by rw[e];decide),e]);by_cases hk0:k=0
   ·subst hk0;simp only[Nat.zero_mul,Nat.add_zero]at c0 c1 c2 c3;by_cases hp:p = -1
    ·subst hp;clear bad2;have bad3:zhy 1000000000000 (-1,r,c,u)=false->zal ts=3:=fun hp=>(by have e:zfj ts 0 ts[0]=3:=(by rw[HX.out];exact zoq rfl hp);rw[zie HL.out hlt HF.out (by rw[e];decide),e]);have good0:zhy 1000000000000 (-1,r,c,u)=true->zce ts 1=0:=fun hp=>(by rw[zfs HF.out,zfr hlt,HX.out];exact zsd rfl hp);cases h1:zdf r
     ·skip;have HCC:zhy 1000000000000 (-1,r,c,u)=false:=(by rw[zcx];simp[h1]);have HC:Hid (zal ts=3):=bad3 HCC;clear HCC good0 bad3;go_wp2;go_quiet (first|(go_at_call 144;exact Calls.quiet_of_same (zca h1 _)));go_wp2;go_ret;exact⟨zft HC.out.symm,zan (by go_grown) _⟩
     ·cases h2:zdf c
      ·skip;have HCC:zhy 1000000000000 (-1,r,c,u)=false:=(by rw[zcx];simp[h1,h2]);have HC:Hid (zal ts=3):=bad3 HCC;clear HCC good0 bad3;go_wp2;go_quiet (first|(go_at_call 144;exact Calls.quiet_of_same (zca h1 _))|(go_at_call 144;exact Calls.quiet_of_same (zca h2 _)));go_wp2;go_ret;exact⟨zft HC.out.symm,zan (by go_grown) _⟩
      ·by_cases h3:r<=c
       ·have h3':decide (c<r)=false:=decide_eq_false (by omega);cases h4:(decide (1500<=u) && decide (u<=1000000000))
        ·have h4':z0w u=false:=h4;have HCC:zhy 1000000000000 (-1,r,c,u)=false:=(by rw[zcx];simp[h1,h2,h3,h4']);have HC:Hid (zal ts=3):=bad3 HCC;clear HCC good0 bad3;go_wp2;go_quiet (first|(go_at_call 144;exact Calls.quiet_of_same (zca h1 _))|(go_at_call 144;exact Calls.quiet_of_same (zca h2 _))|(go_at_call 48;exact Calls.quiet_of_same (zdy h4 _)));go_wp2;go_ret;exact⟨zft HC.out.symm,zan (by go_grown) _⟩
        ·have h4':z0w u=true:=h4;have h5:c<=1000000000000:=(zqg h2).2;have HCC:zhy 1000000000000 (-1,r,c,u)=true:=(by rw[zcx];simp[h1,h2,h3,h4',h5]);have HN:Hid (zce ts 1=0):=good0 HCC;clear HCC good0 bad3;go_wp2;go_quiet (first|(go_at_call 144;exact Calls.quiet_of_same (zca h1 _))|(go_at_call 144;exact Calls.quiet_of_same (zca h2 _))|(go_at_call 48;exact Calls.quiet_of_same (zdy h4 _)));go_wp2;go_roundw;case rel=>exact⟨1,by go_num,by omega,HN,zan (by go_grown) _⟩
         case measure=>simp[intOf]<;>omega
       ·have h3':c<r:=(by omega);have HCC:zhy 1000000000000 (-1,r,c,u)=false:=(by rw[zcx];simp[h1,h2,h3]);have HC:Hid (zal ts=3):=bad3 HCC;clear HCC good0 bad3;go_wp2;go_quiet (first|(go_at_call 144;exact Calls.quiet_of_same (zca h1 _))|(go_at_call 144;exact Calls.quiet_of_same (zca h2 _)));go_wp2;go_ret;exact⟨zft HC.out.symm,zan (by go_grown) _⟩
    ·have hp':(p == -1)=false:=(by simp[hp]);have HC:Hid (zal ts=2):=bad2 (by rw[zt7];exact decide_eq_false hp);clear bad2;go_wp2;go_ret;exact⟨zft HC.out.symm,by go_grown⟩
   ·have k1:(0:Int)<(k:Int):=(by omega);have k2:((k:Int) == 0)=false:=(by simp[hk0]);cases hpar:(decide (0<=p) && decide (p<=(k:Int)-1))
    ·have HC:Hid (zal ts=2):=bad2 (by rw[zhd hk0];exact hpar);clear bad2;go_wp2_with (first|(go_at_call 48;refine same1 (zdy hpar _) ?_));go_ret;exact⟨zft HC.out.symm,by go_grown⟩
    ·have hpn:=zos (k:=k) (p:=p) (by rw[zhd hk0];exact hpar);have hp0:0<=p:=(by rw[bae]at hpar;exact of_decide_eq_true hpar.1);obtain⟨q,rfl⟩:∃q:Nat,p=q:=⟨p.toNat,by omega⟩;have hq:q<ts.length:=(by omega);have hq':(q:Int)<(ts.length:Int):=(by omega);have hd2:=(h.cells hbw q hq).2.2.1;obtain⟨d,hd⟩:∃d,ts[q].2.2.1=d:=⟨_,rfl⟩;rw[hd]at hd2;have HD:Hid (zfq ts k q=d):=(by show zfq ts k q=d;rw[zxb hk0 rfl,zqf hq,hd]);clear hd hpn bad2;have bad3:zhy d ((q:Int),r,c,u)=false->zal ts=3:=fun hp=>(by have e:zfj ts k ts[k]=3:=(by rw[HX.out];exact zoq (by rw[zhd hk0];exact hpar) (by rw[HD.out];exact hp));rw[zie HL.out hlt HF.out (by rw[e];decide),e]);have good0:zhy d ((q:Int),r,c,u)=true->zce ts (k+1)=0:=fun hp=>(by rw[zfs HF.out,zfr hlt,HX.out];exact zsd (by rw[zhd hk0];exact hpar) (by rw[HD.out];exact hp));cases h1:zdf r
     ·skip;have HCC:zhy d ((q:Int),r,c,u)=false:=(by rw[zcx];simp[h1]);have HC:Hid (zal ts=3):=bad3 HCC;clear HCC good0 bad3;go_wp2_with (first|(go_at_call 48;refine same1 (zdy hpar _) ?_));go_quiet (first|(go_at_call 144;exact Calls.quiet_of_same (zca h1 _)));go_wp2;go_ret;exact⟨zft HC.out.symm,zan (by go_grown) _⟩
     ·cases h2:zdf c
      ·skip;have HCC:zhy d ((q:Int),r,c,u)=false:=(by rw[zcx];simp[h1,h2]);have HC:Hid (zal ts=3):=bad3 HCC;clear HCC good0 bad3;go_wp2_with (first|(go_at_call 48;refine same1 (zdy hpar _) ?_));go_quiet (first|(go_at_call 144;exact Calls.quiet_of_same (zca h1 _))|(go_at_call 144;exact Calls.quiet_of_same (zca h2 _)));go_wp2;go_ret;exact⟨zft HC.out.symm,zan (by go_grown) _⟩
      ·by_cases h3:r<=c
       ·have h3':decide (c<r)=false:=decide_eq_false (by omega);cases h4:(decide (1500<=u) && decide (u<=1000000000))
        ·have h4':z0w u=false:=h4;have HCC:zhy d ((q:Int),r,c,u)=false:=(by rw[zcx];simp[h1,h2,h3,h4']);have HC:Hid (zal ts=3):=bad3 HCC;clear HCC good0 bad3;go_wp2_with (first|(go_at_call 48;refine same1 (zdy hpar _) ?_));go_quiet (first|(go_at_call 144;exact Calls.quiet_of_same (zca h1 _))|(go_at_call 144;exact Calls.quiet_of_same (zca h2 _))|(go_at_call 48;exact Calls.quiet_of_same (zdy h4 _)));go_wp2;go_ret;exact⟨zft HC.out.symm,zan (by go_grown) _⟩
        ·have h4':z0w u=true:=h4;by_cases h5:c<=d
         ·have h5':decide (d<c)=false:=decide_eq_false (by omega);have HCC:zhy d ((q:Int),r,c,u)=true:=(by rw[zcx];simp[h1,h2,h3,h4',h5]);have HN:Hid (zce ts (k+1)=0):=good0 HCC;clear HCC good0 bad3;go_wp2_with (first|(go_at_call 48;refine same1 (zdy hpar _) ?_));go_quiet (first|(go_at_call 144;exact Calls.quiet_of_same (zca h1 _))|(go_at_call 144;exact Calls.quiet_of_same (zca h2 _))|(go_at_call 48;exact Calls.quiet_of_same (zdy h4 _)));go_wp2;go_roundw;case rel=>exact⟨k+1,by go_num,by omega,HN,zan (by go_grown) _⟩
          case measure=>simp[intOf]<;>omega
         ·have h5':d<c:=(by omega);have HCC:zhy d ((q:Int),r,c,u)=false:=(by rw[zcx];simp[h1,h2,h3,h4',h5]);have HC:Hid (zal ts=3):=bad3 HCC;clear HCC good0 bad3;go_wp2_with (first|(go_at_call 48;refine same1 (zdy hpar _) ?_));go_quiet (first|(go_at_call 144;exact Calls.quiet_of_same (zca h1 _))|(go_at_call 144;exact Calls.quiet_of_same (zca h2 _))|(go_at_call 48;exact Calls.quiet_of_same (zdy h4 _)));go_wp2;go_ret;exact⟨zft HC.out.symm,zan (by go_grown) _⟩
       ·have h3':c<r:=(by omega);have HCC:zhy d ((q:Int),r,c,u)=false:=(by rw[zcx];simp[h1,h2,h3]);have HC:Hid (zal ts=3):=bad3 HCC;clear HCC good0 bad3;go_wp2_with (first|(go_at_call 48;refine same1 (zdy hpar _) ?_));go_quiet (first|(go_at_call 144;exact Calls.quiet_of_same (zca h1 _))|(go_at_call 144;exact Calls.quiet_of_same (zca h2 _)));go_wp2;go_ret;exact⟨zft HC.out.symm,zan (by go_grown) _⟩
  ·have e:k=ts.length:=(by omega);subst e;have HS:Hid (Sound ts):=zor HF.out;have hq:Quad w.heap.size wr a ts:=h.mono hbw;go_wp2;go_loop [6] (fun i=>∃k:Nat,i=.int .i64 k/\k<=ts.length/\Hid (zdh ts k=false)) (fun i=>ts.length-(intOf i).toNat);case atStart=>exact⟨0,rfl,by omega,rfl⟩
   case round =>
    obtain⟨k,rfl,hk,HO⟩:=hrel;by_cases hlt:k<ts.length
    ·obtain⟨b,off,rfl,hb,c0,c1,c2,c3⟩:=hq.at (brf _ _) k hlt;have hlt':(k:Int)<(ts.length:Int):=(by omega);have hln:(ts.length:Int)<=30:=(by omega);go_wp2;go_loop [7,8] (fun s i=>∃(m:Nat) (v:Int),i=.int .i64 m/\k+1<=m/\m<=ts.length/\s=.int .i64 v/\Hid (v=zd9 ts (k:Int) m)) (fun _ i=>ts.length-(intOf i).toNat);case atStart=>exact⟨k+1,0,by go_num,by omega,by omega,rfl,(HS.out.none k (k+1) (by omega)).symm⟩
     case round =>
      obtain⟨m,v,rfl,hm0,hm,rfl,HV⟩:=hrel;have hv:=HS.out.kids (k:Int) m;rw[<-HV.out]at hv;have hv0:=hv.1;have hv1:v<=30000000000000:=(by omega);clear hv;by_cases hlm:m<ts.length
      ·obtain⟨e0,e1,e2,e3⟩:=hq.cells (brf _ _) m hlm;have hlm':(m:Int)<(ts.length:Int):=(by omega);have hr:=HS.out.rate m hlm;obtain⟨x,hx⟩:∃x,ts[m]=x:=⟨_,rfl⟩;rw[hx]at e0 e1 e2 e3 hr;obtain⟨p,r,c,u⟩:=x;have HX:Hid (ts[m]=(p,r,c,u)):=hx;clear hx;simp only at e0 e1 e2 e3 hr;have hr0:=hr.1;have hr1:=hr.2;clear hr;by_cases hp:p=(k:Int)
       ·have HN:Hid (v+r=zd9 ts (k:Int) (m+1)):=(by show v+r=zd9 ts (k:Int) m+zhm ts (k:Int) m;rw[zl1 hlm (by rw[HX.out];exact hp),HX.out,<-HV.out]);subst hp;go_wp2;go_round;case rel=>exact⟨m+1,v+r,by go_num,by omega,by omega,rfl,HN⟩
        case measure=>simp[intOf]<;>omega
       ·have HN:Hid (v=zd9 ts (k:Int) (m+1)):=(by show v=zd9 ts (k:Int) m+zhm ts (k:Int) m;rw[zld hlm (by rw[HX.out];exact hp),<-HV.out,Int.add_zero]);have hp':(p == (k:Int))=false:=(by simp[hp]);go_wp2;go_round;case rel=>exact⟨m+1,v,by go_num,by omega,by omega,rfl,HN⟩
        case measure=>simp[intOf]<;>omega
      ·have e:m=ts.length:=(by omega);subst e;have hrk:=zqe hlt;obtain⟨r,hr⟩:∃r,ts[k].2.1=r:=⟨_,rfl⟩;rw[hr]at c1 hrk;clear hr;by_cases ho:r<v
       ·have HC:Hid (zal ts=4):=zt6 HL.out HF.out (zxa hlt (by rw[hrk,<-HV.out];exact ho));clear hrk;go_wp2;go_ret;exact⟨zft HC.out.symm,hbw⟩
       ·have HN:Hid (zdh ts (k+1)=false):=zqh HO.out (by rw[hrk,<-HV.out];exact ho);have ho':decide (r<v)=false:=decide_eq_false ho;clear hrk;go_wp2;go_round;case rel=>exact⟨k+1,by go_num,by omega,HN⟩
        case measure=>simp[intOf]<;>omega
    ·have e:k=ts.length:=(by omega);subst e;have HC:Hid (zal ts=0):=zqi HL.out HF.out HO.out;go_wp2;go_ret;exact⟨zft HC.out.symm,hbw⟩
end
def zt8(w:World)(xs:List Int)(e:Ending)(w':World):Prop:=∃a n c,e=.returned (.slice a n c)/\IV w' w.heap.size (.slice a n c) xs/\Bw w w'
theorem zig{w wr w':World}{o:Obj}{row:Option Nat}(hb:Bw w wr)(hg:(wr.alloc o).grownBy w' row)(hr:∀g,row=some g->w.heap.size<=g):Bw w w' :=
 (hb.alloc hb.size o).grown hg (ntr hb.size (by simp)) hr
theorem z0x(w:World)(lo:Nat)(t:TypeId)(h:lo<=w.heap.size):IV (w.alloc (.cells #[] t)) lo (.slice (some ⟨w.heap.size,0,none⟩) 0 0) [] :=
 .inl ⟨_,_,rfl,h,by simp,⟨fun j hj=>(by cases hj),fun j hj=>(by cases hj)⟩,nrf _⟩
section
variable{w:World}{a:Option Addr}(cap:Nat){ts:List Q4}
theorem zfk(i:Int)(h:Qw w a ts)(hw:zoo ts)(hl:ts.length<=30)(i0:-1<=i)(i1:i<ts.length):
 Calls Tryz.prog 196 #[.slice a ts.length cap,.int .i64 i] w (zt8 w (zaq ts i)):=by
 obtain⟨j0,hj,jz0,jz1,jz2⟩:=info_parts zg9;have HW:Hid (zoo ts):=hw;clear hw;have hln:(ts.length:Int)<=30:=by omega
 obtain⟨P,hP⟩:∃P,zaq ts i=P:=⟨_,rfl⟩;have HP:Hid (zaq ts i=P):=hP;have HPL:Hid (P.length<=30):=by rw[<-hP];exact ntr (zge i1) hl
 rw[hP];clear hP;go_enter Tryz.func196,Tryz.ntmps196;go_wp2;go_loopw [1,5] (fun s v wr=>∃(c:Int) (out:List Int),s=.int .i64 c/\-1<=c/\c<ts.length/\Hid (P=out ++ zaq ts c)/\wr.ownsRow w.heap.size 2 1 v out.length (zbc out)/\Bw w wr) (fun s _ _=>(intOf s+1).toNat);case atStart=>exact⟨i,[],rfl,i0,i1,HP.out.symm,zd7 w w.heap.size _ rfl (nrf _) _,by go_grown⟩
 case round =>
  obtain⟨c,out,rfl,hc0,hc1,HO,hown,hbw⟩:=hrel;have zb:=hbw.size;by_cases hc:0<=c
  ·obtain⟨k,rfl⟩:∃k:Nat,c=k:=⟨c.toNat,by omega⟩;have hlt:k<ts.length:=(by omega);have HL:Hid (out.length<=30):=(by have h1:=HPL.out;rw[HO.out,List.length_append]at h1;show out.length<=30;omega);have hst:=zl0 HW.out hc hc1;have hpar:=zgy HW.out hc hc1;rw[zqb hlt]at hst hpar;obtain⟨p,hp⟩:∃p,ts[k].1=p:=⟨_,rfl⟩;have HX:Hid (ts[k].1=p):=hp;rw[hp]at hst hpar;clear hp;have HN:Hid (P=(out ++ [(k:Int)]) ++ zaq ts p):=(by have h1:=HO.out;rw[hst]at h1;show P=_;rw[h1,List.append_assoc];rfl);clear hst;have hp0:=hpar.1;have hp1:=hpar.2;clear hpar;obtain⟨b,off,rfl,hb,_⟩:=h.at hbw k hlt;go_wp2_with (first| (at_builtin;refine wpList_append_own _ rfl _ _ 45 rfl w.heap.size 2 j0 _ 1 8 Tryz.underlying45 hj jz0 jz1 jz2 rfl (by decide) _ _ _ rfl (hown.alloc _) ⟨wr.heap.size,0,none⟩ 1 1 [.int .i64 (k:Int)] rfl rfl ?c1 ?c2 ?c3 ?c4 ?c5 ?c6;rotate_left 5;intro v' w' hown' hgr hnil;have hb2:=zig hbw hgr (fun g hg=>(hown.lt g hg).1);have cc:=(h.cells hb2 k hlt).1;rw[HX.out]at cc));case c1=>exact zen (by go_simp)
   case c2=>exact zdl [(k:Int)]
   case c3=>have:=HL.out;unfold maxLen;omega
   case c4=>have:=HL.out;omega
   case c5=>simp;omega
   go_roundw;case rel=>exact⟨p,out ++ [(k:Int)],rfl,hp0,by omega,HN,by rw[zbx,List.length_append];exact hown',hb2⟩
   case measure=>simp[intOf];omega
  ·have hc':decide (0<=c)=false:=decide_eq_false hc;have HE:Hid (P=out):=(by have h1:=HO.out;rw[zop (by omega),List.append_nil]at h1;exact h1);obtain⟨av,cv,rfl⟩:=za2 hown;have hiv:=zde hown;go_wp2;go_ret;exact⟨_,_,_,rfl,by rw[HE.out];exact hiv,hbw⟩
theorem zna(h:Qw w a ts)(hm:ts.length<=1048576):
 Calls Tryz.prog 39 #[.slice a ts.length cap] w (zt8 w (zbk ts)):=by
 obtain⟨j0,hj,jz0,jz1,jz2⟩:=info_parts zg9;by_cases hc:zal ts=0
 ·have hl:=(zgz hc).l1;have hln:(ts.length:Int)<=30:=(by omega);have HP:Hid (zbk ts=zcd ts ts.length):=(by show (if zal ts=0 then _ else _)=_;rw[if_pos hc]);rw[HP.out];go_enter Tryz.func39,Tryz.ntmps39;go_wp2;go_loopw [3,4] (fun v i wr=>∃k:Nat,i=.int .i64 k/\k<=ts.length/\wr.ownsRow w.heap.size 2 1 v (zcd ts k).length (zbc (zcd ts k))/\Bw w wr) (fun _ i _=>ts.length-(intOf i).toNat);case atStart=>exact⟨0,rfl,by omega,zd7 w w.heap.size _ rfl (nrf _) _,by go_grown⟩
  case round =>
   obtain⟨k,rfl,hk,hown,hbw⟩:=hrel;have zb:=hbw.size;by_cases hlt:k<ts.length
   ·have hlt':(k:Int)<(ts.length:Int):=(by omega);have HL:Hid ((zcd ts k).length<=30):=ntr (zif ts k) (by omega);cases hf:zdg ts (k:Int)
    ·have HN:Hid (zcd ts (k+1)=zcd ts k):=zqj hf;go_wp2_with (first| (go_at_call 93;refine (zdi cap ((h.mono hbw).up zb)).mono ?_;rintro e w2 ⟨rfl,hb2⟩;rw[hc];have hbw2:=hbw.trans (hb2.mono zb);have hown2:=zbd hown hb2)| (go_at_call 50;refine same1 (zgx cap (k:Int) ((h.mono hbw2).up hbw2.size) hm) ?_;rw[hf]));go_roundw;case rel=>exact⟨k+1,by go_num,by omega,by rw[HN.out];exact hown2,hbw2⟩
     case measure=>simp[intOf]<;>omega
    ·have HN:Hid (zcd ts (k+1)=zcd ts k ++ [(k:Int)]):=zi7 hf;go_wp2_with (first| (go_at_call 93;refine (zdi cap ((h.mono hbw).up zb)).mono ?_;rintro e w2 ⟨rfl,hb2⟩;rw[hc];have hbw2:=hbw.trans (hb2.mono zb);have hown2:=zbd hown hb2;have zb2:=hbw2.size)| (go_at_call 50;refine (zgx cap (k:Int) ((h.mono hbw2).up hbw2.size) hm).mono ?_;rintro e w3 ⟨rfl,rfl⟩;rw[hf])| (at_builtin;refine wpList_append_own _ rfl _ _ 45 rfl w.heap.size 2 j0 _ 1 8 Tryz.underlying45 hj jz0 jz1 jz2 rfl (by decide) _ _ _ rfl (hown2.alloc _) ⟨w3.heap.size,0,none⟩ 1 1 [.int .i64 (k:Int)] rfl rfl ?c1 ?c2 ?c3 ?c4 ?c5 ?c6;rotate_left 5;intro v' w' hown' hgr hnil;have hb4:=zig hbw2 hgr (fun g hg=>(hown2.lt g hg).1)));case c1=>exact zen (by go_simp)
     case c2=>exact zdl [(k:Int)]
     case c3=>have:=HL.out;unfold maxLen;omega
     case c4=>have:=HL.out;omega
     case c5=>simp;omega
     go_roundw;case rel=>exact⟨k+1,by go_num,by omega,by rw[HN.out,zbx,List.length_append];exact hown',hb4⟩
     case measure=>simp[intOf]<;>omega
   ·have e:k=ts.length:=(by omega);subst e;obtain⟨av,cv,rfl⟩:=za2 hown;have hiv:=zde hown;go_wp2;go_ret;exact⟨_,_,_,rfl,hiv,hbw⟩
 ·have HP:Hid (zbk ts=[]):=(by show (if zal ts=0 then _ else _)=_;rw[if_neg hc]);rw[HP.out];have hc':(zal ts == 0)=false:=(by simp[hc]);by_cases h0:ts.length=0
  ·obtain rfl:ts=[]:=List.eq_nil_of_length_eq_zero h0;rw[List.length_nil];clear h0;go_enter Tryz.func39,Tryz.ntmps39;go_wp2;refine wp_loop_rounds 1 ?_;rw[rounds_succ];go_wp2;go_ret;exact⟨_,_,_,rfl,z0x w _ _ (nrf _),by go_grown⟩
  ·have h0':(0:Int)<(ts.length:Int):=(by omega);go_enter Tryz.func39,Tryz.ntmps39;go_wp2;refine wp_loop_rounds 1 ?_;rw[rounds_succ];have hn:=z0x w w.heap.size 2 (nrf _);have hbn:Bw w (w.alloc (.cells #[] 2)):=(by go_grown);go_wp2_with (first| (go_at_call 93;refine (zdi cap (h.here hbn)).mono ?_;rintro e w2 ⟨rfl,hb2⟩));go_ret;exact⟨_,_,_,rfl,hn.next hb2,hbn.trans (hb2.mono hbn.size)⟩
end
theorem zhe{ts:List Q4}(hw:zoo ts):∀(n:Nat) (i:Int),i<ts.length->i+1<=n->∀x ∈ zaq ts i,0<=x/\x<=i
 | n,i,h1,h2,x,hx=>by
  by_cases h0:0<=i
  ·cases n with
   | zero=>omega
   | succ n =>
    have hp:=zgy hw h0 h1;rw[zl0 hw h0 h1]at hx;rcases List.mem_cons.1 hx with rfl|hx
    ·omega
    ·have:=zhe hw n (zc9 ts i) (by omega) (by omega) x hx;omega
  ·rw[zop (by omega)]at hx;cases hx
theorem znz{ts:List Q4}(hw:zoo ts):∀(n:Nat) (i:Int),i<ts.length->i+1<=n->(zaq ts i).Nodup
 | n,i,h1,h2=>by
  by_cases h0:0<=i
  ·cases n with
   | zero=>omega| succ n =>have hp:=zgy hw h0 h1;rw[zl0 hw h0 h1];refine List.nodup_cons.2 ⟨fun hx=>?_,znz hw n (zc9 ts i) (by omega) (by omega)⟩;have:=zhe hw n (zc9 ts i) (by omega) (by omega) i hx;omega
  ·rw[zop (by omega)];exact List.nodup_nil
end Go.Proofs.YthiojkjcmhojoaaGreat
