import Derived.Test.YthiojkjcmhojoaaGreatGfAP
import Derived.Laws.AppendOwnNone
import Derived.Test.YthiojkjcmhojoaaGreatGfAE
import Derived.Test.YthiojkjcmhojoaaGreatGfAG
namespace Go.Proofs.YthiojkjcmhojoaaGreat
set_option maxHeartbeats 8000000
open Go.ChangeShapes Go.WideShapes Go.ChangeAt Go.RowKit
set_option maxRecDepth 100000
set_option linter.unusedVariables false
set_option linter.unusedSimpArgs false
def zc5 (ts:List Q4) (i:Int):Int:=match ts[i.toNat]? with|some t=>t.1|none=>-1
def zmc (ts:List Q4):Nat→Int→List Int
 | 0,_=>[]
 | f+1,i=>if i<0 then [] else i :: zmc ts f (zc5 ts i)
def zap (ts:List Q4) (i:Int):List Int:=zmc ts (i+1).toNat i
def znm (ts:List Q4):Prop:=∀k (hk:k<ts.length),-1≤ts[k].1∧ts[k].1<k
theorem zpa {ts:List Q4} {k:Nat} (hk:k<ts.length):zc5 ts k=ts[k].1:=by
 unfold zc5
 rw [Int.toNat_natCast,List.getElem?_eq_getElem hk]
theorem zgy {ts:List Q4} (h:znm ts) {i:Int} (h0:0≤i) (h1:i<ts.length):-1≤zc5 ts i∧zc5 ts i<i:=by
 obtain ⟨k,rfl⟩:∃k:Nat,i=k:=⟨i.toNat,by omega⟩
 rw [zpa (by omega)]
 exact h k (by omega)
theorem zjn (ts:List Q4):∀f i,(zmc ts f i).length≤f
 | 0,_=>Nat.le_refl _
 | f+1,i=>by
  unfold zmc
  by_cases h:i<0
  ·rw [if_pos h];exact Nat.zero_le _
  ·rw [if_neg h,List.length_cons]
   exact Nat.succ_le_succ (zjn ts f _)
theorem zmw {ts:List Q4} (h:znm ts):∀(f f':Nat) (i:Int),i<ts.length→i+1≤f→i+1≤f'→zmc ts f i=zmc ts f' i
 | 0,f',i,h1,h2,h3=>by
  cases f' with
  | zero=>rfl
  | succ f'=>unfold zmc;rw [if_pos (by omega)]
 | f+1,f',i,h1,h2,h3=>by
  cases f' with
  | zero=>unfold zmc;rw [if_pos (by omega)]
  | succ f' =>
   unfold zmc
   by_cases k:i<0
   ·rw [if_pos k,if_pos k]
   ·rw [if_neg k,if_neg k]
    have hp:=zgy h (by omega) h1
    rw [zmw h f f' (zc5 ts i) (by omega) (by omega) (by omega)]
theorem znn {ts:List Q4} {i:Int} (h:i<0):zap ts i=[]:=by
 unfold zap
 rw [show (i+1).toNat=0 by omega]
 rfl
theorem zk4 {ts:List Q4} (h:znm ts) {i:Int} (h0:0≤i) (h1:i<ts.length):zap ts i=i :: zap ts (zc5 ts i):=by
 have hp:=zgy h h0 h1
 unfold zap
 rw [show (i+1).toNat=i.toNat+1 by omega]
 show (if i<0 then [] else i :: zmc ts i.toNat (zc5 ts i))=_
 rw [if_neg (by omega),zmw h i.toNat (zc5 ts i+1).toNat (zc5 ts i) (by omega) (by omega) (by omega)]
theorem zgb {ts:List Q4} {i:Int} (h1:i<ts.length):(zap ts i).length≤ts.length:=Nat.le_trans (zjn ts _ _) (by omega)
def zzt (x:Int):Bool:=decide (1500≤x) && decide (x≤1000000000)
def zho (ts:List Q4) (k:Nat):Int:=match ts[k]? with|some t=>t.2.1|none=>0
def zss (ts:List Q4) (k:Nat):Int:=match ts[k]? with|some t=>t.2.2.1|none=>0
def zqq (k:Nat) (p:Int):Bool:=if k=0 then decide (p = -1) else decide (0≤p) && decide (p≤(k:Int)-1)
def zfq (ts:List Q4) (k:Nat) (p:Int):Int:=if k=0 then 1000000000000 else zss ts p.toNat
def zhx (hi:Int) (t:Q4):Bool:=(((zc2 t.2.1 && zc2 t.2.2.1) && decide (t.2.1≤t.2.2.1)) && decide (t.2.2.1≤hi)) && zzt t.2.2.2
def zfi (ts:List Q4) (k:Nat) (t:Q4):Int:=if zqq k t.1=true then (if zhx (zfq ts k t.1) t=true then 0 else 3) else 2
def zpb (ts:List Q4) (k:Nat):Int:=match ts[k]? with|some t=>zfi ts k t|none=>0
def zcc (ts:List Q4):Nat→Int
 | 0=>0
 | k+1=>if zcc ts k=0 then zpb ts k else zcc ts k
def zhi (ts:List Q4) (i:Int) (k:Nat):Int:=match ts[k]? with|some t=>if t.1=i then t.2.1 else 0|none=>0
def zec (ts:List Q4) (i:Int):Nat→Int
 | 0=>0
 | k+1=>zec ts i k+zhi ts i k
def zde (ts:List Q4):Nat→Bool
 | 0=>false
 | k+1=>zde ts k || decide (zho ts k<zec ts (k:Int) ts.length)
def zpc (ts:List Q4):Bool:=decide (1≤ts.length) && decide (ts.length≤30)
def zah (ts:List Q4):Int:=if zpc ts=true then (if zcc ts ts.length=0 then (if zde ts ts.length=true then 4 else 0) else zcc ts ts.length) else 1
theorem zfr {ts:List Q4} {k:Nat} (hk:k<ts.length):zpb ts k=zfi ts k ts[k]:=by unfold zpb;rw [List.getElem?_eq_getElem hk]
theorem zpd {ts:List Q4} {k:Nat} (hk:k<ts.length):zho ts k=ts[k].2.1:=by unfold zho;rw [List.getElem?_eq_getElem hk]
theorem zpe {ts:List Q4} {k:Nat} (hk:k<ts.length):zss ts k=ts[k].2.2.1:=by unfold zss;rw [List.getElem?_eq_getElem hk]
theorem zk5 {ts:List Q4} {i:Int} {k:Nat} (hk:k<ts.length) (h:ts[k].1=i):zhi ts i k=ts[k].2.1:=by unfold zhi;rw [List.getElem?_eq_getElem hk];simp [h]
theorem zkn {ts:List Q4} {i:Int} {k:Nat} (hk:k<ts.length) (h:ts[k].1≠i):zhi ts i k=0:=by unfold zhi;rw [List.getElem?_eq_getElem hk];simp [h]
theorem zk6 {ts:List Q4} {k:Nat} (h:zcc ts k≠0):∀d,zcc ts (k+d)=zcc ts k
 | 0=>rfl
 | d+1=>by
  show (if zcc ts (k+d)=0 then _ else zcc ts (k+d))=_
  rw [zk6 h d,if_neg h]
theorem zfs {ts:List Q4} {k:Nat} (h:zcc ts k=0):zcc ts (k+1)=zpb ts k:=if_pos h
theorem zv0 {ts:List Q4} {k:Nat} (hk:k<ts.length) (h:zcc ts k=0) (hc:zfi ts k ts[k]≠0):zcc ts ts.length=zfi ts k ts[k]:=by
 have e:zcc ts (k+1)=zfi ts k ts[k]:=by rw [zfs h,zfr hk]
 have s:=zk6 (ts:=ts) (k:=k+1) (by rw [e];exact hc) (ts.length-(k+1))
 rw [show k+1+(ts.length-(k+1))=ts.length by omega] at s
 rw [s,e]
theorem zie {ts:List Q4} {k:Nat} (hl:zpc ts=true) (hk:k<ts.length) (h:zcc ts k=0) (hc:zfi ts k ts[k]≠0):zah ts=zfi ts k ts[k]:=by
 have e:=zv0 hk h hc
 unfold zah
 rw [if_pos hl,if_neg (by rw [e];exact hc),e]
theorem zst {ts:List Q4} (hl:zpc ts=false):zah ts=1:=by unfold zah;rw [hl];rfl
theorem zsu {ts:List Q4} {k:Nat} {t:Q4} (h:zqq k t.1=false):zfi ts k t=2:=by unfold zfi;rw [h];rfl
theorem zno {ts:List Q4} {k:Nat} {t:Q4} (h:zqq k t.1=true) (h2:zhx (zfq ts k t.1) t=false):zfi ts k t=3:=by unfold zfi;rw [h,h2];rfl
theorem zq0 {ts:List Q4} {k:Nat} {t:Q4} (h:zqq k t.1=true) (h2:zhx (zfq ts k t.1) t=true):zfi ts k t=0:=by unfold zfi;rw [h,h2];rfl
theorem zmx {ts:List Q4} {k:Nat} {t:Q4} (h:zfi ts k t=0):zqq k t.1=true∧zhx (zfq ts k t.1) t=true:=by
 unfold zfi at h
 by_cases h1:zqq k t.1=true
 ·rw [if_pos h1] at h
  by_cases h2:zhx (zfq ts k t.1) t=true
  ·exact ⟨h1,h2⟩
  ·rw [if_neg h2] at h;cases h
 ·rw [if_neg h1] at h;cases h
theorem zk7 {ts:List Q4}:∀{n:Nat},zcc ts n=0→∀k,k<n→zpb ts k=0
 | 0,_,k,hk=>by cases hk
 | n+1,h,k,hk=>by
  have h0:zcc ts n=0:=by
   by_cases e:zcc ts n=0
   ·exact e
   ·have:zcc ts (n+1)=zcc ts n:=if_neg e
    rw [this] at h;exact h
  rw [zfs h0] at h
  by_cases e:k=n
  ·subst e;exact h
  ·exact zk7 h0 k (by omega)
structure Sound (ts:List Q4):Prop where
 par:∀k (hk:k<ts.length),zqq k ts[k].1=true
 cls:∀k (hk:k<ts.length),zhx (zfq ts k ts[k].1) ts[k]=true
theorem znp {ts:List Q4} (h:zcc ts ts.length=0):Sound ts :=
 ⟨fun k hk=>(zmx (by rw [←zfr hk];exact zk7 h k hk)).1,fun k hk=>(zmx (by rw [←zfr hk];exact zk7 h k hk)).2⟩
theorem znq {k:Nat} {p:Int} (h:zqq k p=true):-1≤p∧p<k:=by
 unfold zqq at h
 by_cases e:k=0
 ·rw [if_pos e] at h
  have:=of_decide_eq_true h
  omega
 ·rw [if_neg e,Bool.and_eq_true] at h
  have h1:=of_decide_eq_true h.1
  have h2:=of_decide_eq_true h.2
  omega
theorem zpf {x:Int} (h:zc2 x=true):0≤x∧x≤1000000000000:=by simpa [zc2] using h
theorem zx7 {hi:Int} {t:Q4} (h:zhx hi t=true):0≤t.2.1∧t.2.1≤1000000000000:=by
 unfold zhx at h
 rw [Bool.and_eq_true,Bool.and_eq_true,Bool.and_eq_true,Bool.and_eq_true] at h
 exact zpf h.1.1.1.1
theorem Sound.well {ts:List Q4} (h:Sound ts):znm ts:=fun k hk=>znq (h.par k hk)
theorem Sound.rate {ts:List Q4} (h:Sound ts) (k:Nat) (hk:k<ts.length):0≤ts[k].2.1∧ts[k].2.1≤1000000000000:=zx7 (h.cls k hk)
theorem Sound.kid {ts:List Q4} (h:Sound ts) (i:Int) (k:Nat):0≤zhi ts i k∧zhi ts i k≤1000000000000:=by
 by_cases hk:k<ts.length
 ·by_cases e:ts[k].1=i
  ·rw [zk5 hk e];exact h.rate k hk
  ·rw [zkn hk e];omega
 ·unfold zhi
  rw [List.getElem?_eq_none (by omega)]
  simp
theorem Sound.kids {ts:List Q4} (h:Sound ts) (i:Int):∀k,0≤zec ts i k∧zec ts i k≤1000000000000*(k:Int)
 | 0=>by simp [zec]
 | k+1=>by
  have h1:=h.kids i k
  have h2:=h.kid i k
  show 0≤zec ts i k+zhi ts i k∧zec ts i k+zhi ts i k≤1000000000000*((k+1:Nat):Int)
  omega
theorem Sound.none {ts:List Q4} (h:Sound ts) (i:Nat):∀k,k≤i+1→zec ts (i:Int) k=0
 | 0,_=>rfl
 | k+1,hk=>by
  show zec ts (i:Int) k+zhi ts (i:Int) k=0
  rw [h.none i k (by omega)]
  by_cases hl:k<ts.length
  ·have:=(h.well k hl).2
   rw [zkn hl (by omega)]
   rfl
  ·unfold zhi
   rw [List.getElem?_eq_none (by omega)]
   rfl
theorem zmy {ts:List Q4} {k:Nat} (h:zde ts k=true):∀d,zde ts (k+d)=true
 | 0=>h
 | d+1=>by
  show (zde ts (k+d) || _)=true
  rw [zmy h d]
  rfl
theorem zv1 {ts:List Q4} {k:Nat} (hk:k<ts.length) (h:zho ts k<zec ts (k:Int) ts.length):zde ts ts.length=true:=by
 have e:zde ts (k+1)=true:=by
  show (zde ts k || decide _)=true
  rw [decide_eq_true h,Bool.or_true]
 have s:=zmy e (ts.length-(k+1))
 rw [show k+1+(ts.length-(k+1))=ts.length by omega] at s
 exact s
theorem zpg {ts:List Q4} {k:Nat} (h0:zde ts k=false) (h:¬zho ts k<zec ts (k:Int) ts.length):zde ts (k+1)=false:=by
 show (zde ts k || decide _)=false
 rw [h0,decide_eq_false h]
 rfl
theorem zsv {ts:List Q4}:∀{n:Nat},zde ts n=false→∀k,k<n→zec ts (k:Int) ts.length≤zho ts k
 | 0,_,k,hk=>by cases hk
 | n+1,h,k,hk=>by
  have h':(zde ts n || decide (zho ts n<zec ts (n:Int) ts.length))=false:=h
  rw [Bool.or_eq_false_iff] at h'
  by_cases e:k=n
  ·subst e
   have:=of_decide_eq_false h'.2
   omega
  ·exact zsv h'.1 k (by omega)
theorem zsw {ts:List Q4} (hl:zpc ts=true) (h:zcc ts ts.length=0) (ho:zde ts ts.length=true):zah ts=4:=by unfold zah;rw [if_pos hl,if_pos h,if_pos ho]
theorem zph {ts:List Q4} (hl:zpc ts=true) (h:zcc ts ts.length=0) (ho:zde ts ts.length=false):zah ts=0:=by unfold zah;rw [if_pos hl,if_pos h,ho];rfl
structure IsTree (ts:List Q4):Prop where
 l0:1≤ts.length
 l1:ts.length≤30
 sound:Sound ts
 sum:∀k,k<ts.length→zec ts (k:Int) ts.length≤zho ts k
theorem zfj {ts:List Q4} (h:zah ts=0):IsTree ts:=by
 unfold zah at h
 by_cases hl:zpc ts=true
 ·rw [if_pos hl] at h
  by_cases hf:zcc ts ts.length=0
  ·rw [if_pos hf] at h
   by_cases ho:zde ts ts.length=true
   ·rw [if_pos ho] at h;cases h
   ·unfold zpc at hl
    rw [Bool.and_eq_true] at hl
    exact ⟨of_decide_eq_true hl.1,of_decide_eq_true hl.2,znp hf,zsv (by simpa using ho)⟩
  ·rw [if_neg hf] at h
   exact absurd h hf
 ·rw [if_neg hl] at h;cases h
def zb9 (ts:List Q4) (k:Nat):List Int:=((List.range k).filter fun (j:Nat)=>zdd ts (j:Int)).map fun (j:Nat)=>(j:Int)
def zbj (ts:List Q4):List Int:=if zah ts=0 then zb9 ts ts.length else []
theorem zi2 {ts:List Q4} {k:Nat} (h:zdd ts (k:Int)=true):zb9 ts (k+1)=zb9 ts k ++ [(k:Int)]:=by
 unfold zb9
 rw [List.range_succ,List.filter_append,List.map_append]
 simp [h]
theorem zpi {ts:List Q4} {k:Nat} (h:zdd ts (k:Int)=false):zb9 ts (k+1)=zb9 ts k:=by
 unfold zb9
 rw [List.range_succ,List.filter_append,List.map_append]
 simp [h]
theorem zif (ts:List Q4) (k:Nat):(zb9 ts k).length≤k:=by
 unfold zb9
 rw [List.length_map]
 exact Nat.le_trans (List.length_filter_le _ _) (by simp)
theorem zk8 (ts:List Q4):(zbj ts).length≤30:=by
 unfold zbj
 by_cases h:zah ts=0
 ·rw [if_pos h]
  exact Nat.le_trans (zif ts _) (zfj h).l1
 ·rw [if_neg h]
  exact Nat.zero_le _
theorem zft {f g:Int} (h:f=g):Ending.returned (.int .i64 f)=.returned (.int .i64 g):=by rw [h]
theorem zb5 {x:Int} {f:Bool} (h:zc2 x=f) (w:World):Calls Tryz.prog 144 #[.int .i64 x] w fun e w'=>e=.returned (.bool f)∧w'=w:=by subst h;exact zf7 x w
theorem zdy {lo x hi:Int} {f:Bool} (h:(decide (lo≤x) && decide (x≤hi))=f) (w:World):Calls Tryz.prog 48 #[.int .i64 x,.int .i64 lo,.int .i64 hi] w fun e w'=>e=.returned (.bool f)∧w'=w:=by subst h;exact zew lo x hi w
theorem zcv {hi r c u:Int} {p:Int}:zhx hi (p,r,c,u)=((((zc2 r && zc2 c) && decide (r≤c)) && decide (c≤hi)) && zzt u):=rfl
theorem zsx {p:Int}:zqq 0 p=decide (p = -1):=rfl
theorem zg9 {k:Nat} {p:Int} (h:k≠0):zqq k p=(decide (0≤p) && decide (p≤(k:Int)-1)):=if_neg h
theorem z0x {ts:List Q4} {p:Int}:zfq ts 0 p=1000000000000:=rfl
theorem zv2 {ts:List Q4} {k q:Nat} {p:Int} (h:k≠0) (hp:p=q):zfq ts k p=zss ts q:=by subst hp;exact if_neg h
theorem zv3 {ts:List Q4} (h:zpc ts=true):1≤ts.length∧ts.length≤30:=by
 unfold zpc at h
 rw [Bool.and_eq_true] at h
 exact ⟨of_decide_eq_true h.1,of_decide_eq_true h.2⟩
theorem zv4 {ts:List Q4} (h:zpc ts=false):ts.length=0∨30<ts.length:=by
 unfold zpc at h
 rw [Bool.and_eq_false_iff] at h
 rcases h with h|h
 ·have:=of_decide_eq_false h;omega
 ·have:=of_decide_eq_false h;omega
theorem zpj {w:World} {a:Option Addr} (cap:Nat) {ts:List Q4} (hl:zpc ts=false) :
 Calls Tryz.prog 93 #[.slice a ts.length cap] w fun e w'=>e=.returned (.int .i64 (zah ts))∧Below w.heap.size w w':=by
 rw [zst hl]
 rcases zv4 hl with h|h
 ·have h':(ts.length:Int)<1:=by omega
  clear hl h
  go_enter Tryz.func93,Tryz.ntmps93
  go_wp2
  go_ret
  exact ⟨rfl,by go_grown⟩
 ·have h':(30:Int)<(ts.length:Int):=by omega
  have h2:decide ((ts.length:Int)<1)=false:=decide_eq_false (by omega)
  clear hl h
  go_enter Tryz.func93,Tryz.ntmps93
  go_wp2
  go_ret
  exact ⟨rfl,by go_grown⟩
theorem zdf {w:World} {a:Option Addr} (cap:Nat) {ts:List Q4} (h:Quad w.heap.size w a ts) :
 Calls Tryz.prog 93 #[.slice a ts.length cap] w fun e w'=>e=.returned (.int .i64 (zah ts))∧Below w.heap.size w w':=by
 cases hl:zpc ts
 ·exact zpj cap hl
 have hn:=zv3 hl
 have n0:decide ((ts.length:Int)<1)=false:=decide_eq_false (by omega)
 have n1:decide ((30:Int)<(ts.length:Int))=false:=decide_eq_false (by omega)
 have HL:Hid (zpc ts=true):=hl
 clear hl
 go_enter Tryz.func93,Tryz.ntmps93
 go_wp2
 go_loopw [4] (fun i wr=>∃k:Nat,i=.int .i64 k∧k≤ts.length∧Hid (zcc ts k=0)∧Below w.heap.size w wr) (fun i _=>ts.length-(intOf i).toNat)
 case atStart=>exact ⟨0,rfl,by omega,rfl,by go_grown⟩
 case round =>
  obtain ⟨k,rfl,hk,HF,hbw⟩:=hrel
  by_cases hlt:k<ts.length
  ·obtain ⟨b,off,rfl,hb,c0,c1,c2,c3⟩:=h.at hbw k hlt
   have hlt':(k:Int)<(ts.length:Int):=by omega
   have zb:=hbw.size
   have hbz:b<wr.heap.size:=Nat.lt_of_lt_of_le hb hbw.size
   obtain ⟨x,hx⟩:∃x,ts[k]=x:=⟨_,rfl⟩
   rw [hx] at c0 c1 c2 c3
   obtain ⟨p,r,c,u⟩:=x
   have HX:Hid (ts[k]=(p,r,c,u)):=hx
   clear hx
   simp only at c0 c1 c2 c3
   have bad2:zqq k p=false→zah ts=2:=fun hp=>by
    have e:zfi ts k ts[k]=2:=by rw [HX.out];exact zsu hp
    rw [zie HL.out hlt HF.out (by rw [e];decide),e]
   by_cases hk0:k=0
   ·subst hk0
    simp only [Nat.zero_mul,Nat.add_zero] at c0 c1 c2 c3
    by_cases hp:p = -1
    ·subst hp
     clear bad2
     have bad3:zhx 1000000000000 (-1,r,c,u)=false→zah ts=3:=fun hp=>by
      have e:zfi ts 0 ts[0]=3:=by rw [HX.out];exact zno rfl hp
      rw [zie HL.out hlt HF.out (by rw [e];decide),e]
     have good0:zhx 1000000000000 (-1,r,c,u)=true→zcc ts 1=0:=fun hp=>by
      rw [zfs HF.out,zfr hlt,HX.out]
      exact zq0 rfl hp
     cases h1:zc2 r
     ·skip
      have HCC:zhx 1000000000000 (-1,r,c,u)=false:=by rw [zcv];simp [h1]
      have HC:Hid (zah ts=3):=bad3 HCC
      clear HCC good0 bad3
      go_wp2
      go_quiet (first|(go_at_call 144;exact Calls.quiet_of_same (zb5 h1 _)))
      go_wp2
      go_ret
      exact ⟨zft HC.out.symm,zam (by go_grown) _⟩
     ·cases h2:zc2 c
      ·skip
       have HCC:zhx 1000000000000 (-1,r,c,u)=false:=by rw [zcv];simp [h1,h2]
       have HC:Hid (zah ts=3):=bad3 HCC
       clear HCC good0 bad3
       go_wp2
       go_quiet (first|(go_at_call 144;exact Calls.quiet_of_same (zb5 h1 _))|(go_at_call 144;exact Calls.quiet_of_same (zb5 h2 _)))
       go_wp2
       go_ret
       exact ⟨zft HC.out.symm,zam (by go_grown) _⟩
      ·by_cases h3:r≤c
       ·have h3':decide (c<r)=false:=decide_eq_false (by omega)
        cases h4:(decide (1500≤u) && decide (u≤1000000000))
        ·have h4':zzt u=false:=h4
         have HCC:zhx 1000000000000 (-1,r,c,u)=false:=by rw [zcv];simp [h1,h2,h3,h4']
         have HC:Hid (zah ts=3):=bad3 HCC
         clear HCC good0 bad3
         go_wp2
         go_quiet (first|(go_at_call 144;exact Calls.quiet_of_same (zb5 h1 _))|(go_at_call 144;exact Calls.quiet_of_same (zb5 h2 _))|(go_at_call 48;exact Calls.quiet_of_same (zdy h4 _)))
         go_wp2
         go_ret
         exact ⟨zft HC.out.symm,zam (by go_grown) _⟩
        ·have h4':zzt u=true:=h4
         have h5:c≤1000000000000:=(zpf h2).2
         have HCC:zhx 1000000000000 (-1,r,c,u)=true:=by rw [zcv];simp [h1,h2,h3,h4',h5]
         have HN:Hid (zcc ts 1=0):=good0 HCC
         clear HCC good0 bad3
         go_wp2
         go_quiet (first|(go_at_call 144;exact Calls.quiet_of_same (zb5 h1 _))|(go_at_call 144;exact Calls.quiet_of_same (zb5 h2 _))|(go_at_call 48;exact Calls.quiet_of_same (zdy h4 _)))
         go_wp2
         go_roundw
         case rel=>exact ⟨1,by go_num,by omega,HN,zam (by go_grown) _⟩
         case measure=>simp [intOf]<;>omega
       ·have h3':c<r:=by omega
        have HCC:zhx 1000000000000 (-1,r,c,u)=false:=by rw [zcv];simp [h1,h2,h3]
        have HC:Hid (zah ts=3):=bad3 HCC
        clear HCC good0 bad3
        go_wp2
        go_quiet (first|(go_at_call 144;exact Calls.quiet_of_same (zb5 h1 _))|(go_at_call 144;exact Calls.quiet_of_same (zb5 h2 _)))
        go_wp2
        go_ret
        exact ⟨zft HC.out.symm,zam (by go_grown) _⟩
    ·have hp':(p == -1)=false:=by simp [hp]
     have HC:Hid (zah ts=2):=bad2 (by rw [zsx];exact decide_eq_false hp)
     clear bad2
     go_wp2
     go_ret
     exact ⟨zft HC.out.symm,by go_grown⟩
   ·have k1:(0:Int)<(k:Int):=by omega
    have k2:((k:Int) == 0)=false:=by simp [hk0]
    cases hpar:(decide (0≤p) && decide (p≤(k:Int)-1))
    ·have HC:Hid (zah ts=2):=bad2 (by rw [zg9 hk0];exact hpar)
     clear bad2
     go_wp2_with (first|(go_at_call 48;refine (zdy hpar _).mono ?_;rintro e w2 ⟨rfl,rfl⟩))
     go_ret
     exact ⟨zft HC.out.symm,by go_grown⟩
    ·have hpn:=znq (k:=k) (p:=p) (by rw [zg9 hk0];exact hpar)
     have hp0:0≤p:=by rw [Bool.and_eq_true] at hpar;exact of_decide_eq_true hpar.1
     obtain ⟨q,rfl⟩:∃q:Nat,p=q:=⟨p.toNat,by omega⟩
     have hq:q<ts.length:=by omega
     have hq':(q:Int)<(ts.length:Int):=by omega
     have hd2:=(h.cells hbw q hq).2.2.1
     obtain ⟨d,hd⟩:∃d,ts[q].2.2.1=d:=⟨_,rfl⟩
     rw [hd] at hd2
     have HD:Hid (zfq ts k q=d):=by
      show zfq ts k q=d
      rw [zv2 hk0 rfl,zpe hq,hd]
     clear hd hpn bad2
     have bad3:zhx d ((q:Int),r,c,u)=false→zah ts=3:=fun hp=>by
      have e:zfi ts k ts[k]=3:=by rw [HX.out];exact zno (by rw [zg9 hk0];exact hpar) (by rw [HD.out];exact hp)
      rw [zie HL.out hlt HF.out (by rw [e];decide),e]
     have good0:zhx d ((q:Int),r,c,u)=true→zcc ts (k+1)=0:=fun hp=>by
      rw [zfs HF.out,zfr hlt,HX.out]
      exact zq0 (by rw [zg9 hk0];exact hpar) (by rw [HD.out];exact hp)
     cases h1:zc2 r
     ·skip
      have HCC:zhx d ((q:Int),r,c,u)=false:=by rw [zcv];simp [h1]
      have HC:Hid (zah ts=3):=bad3 HCC
      clear HCC good0 bad3
      go_wp2_with (first|(go_at_call 48;refine (zdy hpar _).mono ?_;rintro e w2 ⟨rfl,rfl⟩))
      go_quiet (first|(go_at_call 144;exact Calls.quiet_of_same (zb5 h1 _)))
      go_wp2
      go_ret
      exact ⟨zft HC.out.symm,zam (by go_grown) _⟩
     ·cases h2:zc2 c
      ·skip
       have HCC:zhx d ((q:Int),r,c,u)=false:=by rw [zcv];simp [h1,h2]
       have HC:Hid (zah ts=3):=bad3 HCC
       clear HCC good0 bad3
       go_wp2_with (first|(go_at_call 48;refine (zdy hpar _).mono ?_;rintro e w2 ⟨rfl,rfl⟩))
       go_quiet (first|(go_at_call 144;exact Calls.quiet_of_same (zb5 h1 _))|(go_at_call 144;exact Calls.quiet_of_same (zb5 h2 _)))
       go_wp2
       go_ret
       exact ⟨zft HC.out.symm,zam (by go_grown) _⟩
      ·by_cases h3:r≤c
       ·have h3':decide (c<r)=false:=decide_eq_false (by omega)
        cases h4:(decide (1500≤u) && decide (u≤1000000000))
        ·have h4':zzt u=false:=h4
         have HCC:zhx d ((q:Int),r,c,u)=false:=by rw [zcv];simp [h1,h2,h3,h4']
         have HC:Hid (zah ts=3):=bad3 HCC
         clear HCC good0 bad3
         go_wp2_with (first|(go_at_call 48;refine (zdy hpar _).mono ?_;rintro e w2 ⟨rfl,rfl⟩))
         go_quiet (first|(go_at_call 144;exact Calls.quiet_of_same (zb5 h1 _))|(go_at_call 144;exact Calls.quiet_of_same (zb5 h2 _))|(go_at_call 48;exact Calls.quiet_of_same (zdy h4 _)))
         go_wp2
         go_ret
         exact ⟨zft HC.out.symm,zam (by go_grown) _⟩
        ·have h4':zzt u=true:=h4
         by_cases h5:c≤d
         ·have h5':decide (d<c)=false:=decide_eq_false (by omega)
          have HCC:zhx d ((q:Int),r,c,u)=true:=by rw [zcv];simp [h1,h2,h3,h4',h5]
          have HN:Hid (zcc ts (k+1)=0):=good0 HCC
          clear HCC good0 bad3
          go_wp2_with (first|(go_at_call 48;refine (zdy hpar _).mono ?_;rintro e w2 ⟨rfl,rfl⟩))
          go_quiet (first|(go_at_call 144;exact Calls.quiet_of_same (zb5 h1 _))|(go_at_call 144;exact Calls.quiet_of_same (zb5 h2 _))|(go_at_call 48;exact Calls.quiet_of_same (zdy h4 _)))
          go_wp2
          go_roundw
          case rel=>exact ⟨k+1,by go_num,by omega,HN,zam (by go_grown) _⟩
          case measure=>simp [intOf]<;>omega
         ·have h5':d<c:=by omega
          have HCC:zhx d ((q:Int),r,c,u)=false:=by rw [zcv];simp [h1,h2,h3,h4',h5]
          have HC:Hid (zah ts=3):=bad3 HCC
          clear HCC good0 bad3
          go_wp2_with (first|(go_at_call 48;refine (zdy hpar _).mono ?_;rintro e w2 ⟨rfl,rfl⟩))
          go_quiet (first|(go_at_call 144;exact Calls.quiet_of_same (zb5 h1 _))|(go_at_call 144;exact Calls.quiet_of_same (zb5 h2 _))|(go_at_call 48;exact Calls.quiet_of_same (zdy h4 _)))
          go_wp2
          go_ret
          exact ⟨zft HC.out.symm,zam (by go_grown) _⟩
       ·have h3':c<r:=by omega
        have HCC:zhx d ((q:Int),r,c,u)=false:=by rw [zcv];simp [h1,h2,h3]
        have HC:Hid (zah ts=3):=bad3 HCC
        clear HCC good0 bad3
        go_wp2_with (first|(go_at_call 48;refine (zdy hpar _).mono ?_;rintro e w2 ⟨rfl,rfl⟩))
        go_quiet (first|(go_at_call 144;exact Calls.quiet_of_same (zb5 h1 _))|(go_at_call 144;exact Calls.quiet_of_same (zb5 h2 _)))
        go_wp2
        go_ret
        exact ⟨zft HC.out.symm,zam (by go_grown) _⟩
  ·have e:k=ts.length:=by omega
   subst e
   have HS:Hid (Sound ts):=znp HF.out
   have hq:Quad w.heap.size wr a ts:=h.mono hbw
   go_wp2
   go_loop [6] (fun i=>∃k:Nat,i=.int .i64 k∧k≤ts.length∧Hid (zde ts k=false)) (fun i=>ts.length-(intOf i).toNat)
   case atStart=>exact ⟨0,rfl,by omega,rfl⟩
   case round =>
    obtain ⟨k,rfl,hk,HO⟩:=hrel
    by_cases hlt:k<ts.length
    ·obtain ⟨b,off,rfl,hb,c0,c1,c2,c3⟩:=hq.at (Below.refl _ _) k hlt
     have hlt':(k:Int)<(ts.length:Int):=by omega
     have hln:(ts.length:Int)≤30:=by omega
     go_wp2
     go_loop [7,8] (fun s i=>∃(m:Nat) (v:Int),i=.int .i64 m∧k+1≤m∧m≤ts.length∧s=.int .i64 v∧Hid (v=zec ts (k:Int) m)) (fun _ i=>ts.length-(intOf i).toNat)
     case atStart=>exact ⟨k+1,0,by go_num,by omega,by omega,rfl,(HS.out.none k (k+1) (by omega)).symm⟩
     case round =>
      obtain ⟨m,v,rfl,hm0,hm,rfl,HV⟩:=hrel
      have hv:=HS.out.kids (k:Int) m
      rw [←HV.out] at hv
      have hv0:=hv.1
      have hv1:v≤30000000000000:=by omega
      clear hv
      by_cases hlm:m<ts.length
      ·obtain ⟨e0,e1,e2,e3⟩:=hq.cells (Below.refl _ _) m hlm
       have hlm':(m:Int)<(ts.length:Int):=by omega
       have hr:=HS.out.rate m hlm
       obtain ⟨x,hx⟩:∃x,ts[m]=x:=⟨_,rfl⟩
       rw [hx] at e0 e1 e2 e3 hr
       obtain ⟨p,r,c,u⟩:=x
       have HX:Hid (ts[m]=(p,r,c,u)):=hx
       clear hx
       simp only at e0 e1 e2 e3 hr
       have hr0:=hr.1
       have hr1:=hr.2
       clear hr
       by_cases hp:p=(k:Int)
       ·have HN:Hid (v+r=zec ts (k:Int) (m+1)):=by
         show v+r=zec ts (k:Int) m+zhi ts (k:Int) m
         rw [zk5 hlm (by rw [HX.out];exact hp),HX.out,←HV.out]
        subst hp
        go_wp2
        go_round
        case rel=>exact ⟨m+1,v+r,by go_num,by omega,by omega,rfl,HN⟩
        case measure=>simp [intOf]<;>omega
       ·have HN:Hid (v=zec ts (k:Int) (m+1)):=by
         show v=zec ts (k:Int) m+zhi ts (k:Int) m
         rw [zkn hlm (by rw [HX.out];exact hp),←HV.out,Int.add_zero]
        have hp':(p == (k:Int))=false:=by simp [hp]
        go_wp2
        go_round
        case rel=>exact ⟨m+1,v,by go_num,by omega,by omega,rfl,HN⟩
        case measure=>simp [intOf]<;>omega
      ·have e:m=ts.length:=by omega
       subst e
       have hrk:=zpd hlt
       obtain ⟨r,hr⟩:∃r,ts[k].2.1=r:=⟨_,rfl⟩
       rw [hr] at c1 hrk
       clear hr
       by_cases ho:r<v
       ·have HC:Hid (zah ts=4):=zsw HL.out HF.out (zv1 hlt (by rw [hrk,←HV.out];exact ho))
        clear hrk
        go_wp2
        go_ret
        exact ⟨zft HC.out.symm,hbw⟩
       ·have HN:Hid (zde ts (k+1)=false):=zpg HO.out (by rw [hrk,←HV.out];exact ho)
        have ho':decide (r<v)=false:=decide_eq_false ho
        clear hrk
        go_wp2
        go_round
        case rel=>exact ⟨k+1,by go_num,by omega,HN⟩
        case measure=>simp [intOf]<;>omega
    ·have e:k=ts.length:=by omega
     subst e
     have HC:Hid (zah ts=0):=zph HL.out HF.out HO.out
     go_wp2
     go_ret
     exact ⟨zft HC.out.symm,hbw⟩
def zsy (w:World) (xs:List Int) (e:Ending) (w':World):Prop:=∃a n c,e=.returned (.slice a n c)∧IV w' w.heap.size (.slice a n c) xs∧Below w.heap.size w w'
theorem zig {w wr w':World} {o:Obj} {row:Option Nat} (hb:Below w.heap.size w wr) (hg:(wr.alloc o).grownBy w' row) (hr:∀g,row=some g→w.heap.size≤g):Below w.heap.size w w' :=
 (hb.alloc hb.size o).grown hg (Nat.le_trans hb.size (by simp)) hr
theorem zzu (w:World) (lo:Nat) (t:TypeId) (h:lo≤w.heap.size):IV (w.alloc (.cells #[] t)) lo (.slice (some ⟨w.heap.size,0,none⟩) 0 0) [] :=
 .inl ⟨_,_,rfl,h,by simp,⟨fun j hj=>(by cases hj),fun j hj=>(by cases hj)⟩,Nat.le_refl _⟩
theorem zfk {w:World} {a:Option Addr} (cap:Nat) {ts:List Q4} (i:Int) (h:Quad w.heap.size w a ts) (hw:znm ts) (hl:ts.length≤30) (i0:-1≤i) (i1:i<ts.length) :
 Calls Tryz.prog 196 #[.slice a ts.length cap,.int .i64 i] w (zsy w (zap ts i)):=by
 obtain ⟨j0,hj,jz0,jz1,jz2⟩:=info_parts zg5
 have HW:Hid (znm ts):=hw
 clear hw
 have hln:(ts.length:Int)≤30:=by omega
 obtain ⟨P,hP⟩:∃P,zap ts i=P:=⟨_,rfl⟩
 have HP:Hid (zap ts i=P):=hP
 have HPL:Hid (P.length≤30):=by rw [←hP];exact Nat.le_trans (zgb i1) hl
 rw [hP]
 clear hP
 go_enter Tryz.func196,Tryz.ntmps196
 go_wp2
 go_loopw [1,5] (fun s v wr=>∃(c:Int) (out:List Int),s=.int .i64 c∧-1≤c∧c<ts.length∧Hid (P=out ++ zap ts c)∧wr.ownsRow w.heap.size 2 1 v out.length (za7 out)∧Below w.heap.size w wr) (fun s _ _=>(intOf s+1).toNat)
 case atStart=>exact ⟨i,[],rfl,i0,i1,HP.out.symm,zea w w.heap.size _ rfl (Nat.le_refl _) _,by go_grown⟩
 case round =>
  obtain ⟨c,out,rfl,hc0,hc1,HO,hown,hbw⟩:=hrel
  have zb:=hbw.size
  by_cases hc:0≤c
  ·obtain ⟨k,rfl⟩:∃k:Nat,c=k:=⟨c.toNat,by omega⟩
   have hlt:k<ts.length:=by omega
   have HL:Hid (out.length≤30):=by
    have h1:=HPL.out
    rw [HO.out,List.length_append] at h1
    show out.length≤30
    omega
   have hst:=zk4 HW.out hc hc1
   have hpar:=zgy HW.out hc hc1
   rw [zpa hlt] at hst hpar
   obtain ⟨p,hp⟩:∃p,ts[k].1=p:=⟨_,rfl⟩
   have HX:Hid (ts[k].1=p):=hp
   rw [hp] at hst hpar
   clear hp
   have HN:Hid (P=(out ++ [(k:Int)]) ++ zap ts p):=by
    have h1:=HO.out
    rw [hst] at h1
    show P=_
    rw [h1,List.append_assoc]
    rfl
   clear hst
   have hp0:=hpar.1
   have hp1:=hpar.2
   clear hpar
   obtain ⟨b,off,rfl,hb,_⟩:=h.at hbw k hlt
   go_wp2_with (first
    | (at_builtin;refine wpList_append_own _ rfl _ _ 45 rfl w.heap.size 2 j0 _ 1 8 Tryz.underlying45 hj jz0 jz1 jz2 rfl (by decide) _ _ _ rfl (hown.alloc _) ⟨wr.heap.size,0,none⟩ 1 1 [.int .i64 (k:Int)] rfl rfl ?c1 ?c2 ?c3 ?c4 ?c5 ?c6;rotate_left 5;intro v' w' hown' hgr hnil;have hb2:=zig hbw hgr (fun g hg=>(hown.lt g hg).1);have cc:=(h.cells hb2 k hlt).1;rw [HX.out] at cc))
   case c1=>exact zeo (by go_simp)
   case c2=>exact zdk [(k:Int)]
   case c3=>have:=HL.out;unfold maxLen;omega
   case c4=>have:=HL.out;omega
   case c5=>simp;omega
   go_roundw
   case rel=>exact ⟨p,out ++ [(k:Int)],rfl,hp0,by omega,HN,by rw [zbq,List.length_append];exact hown',hb2⟩
   case measure=>simp [intOf];omega
  ·have hc':decide (0≤c)=false:=decide_eq_false hc
   have HE:Hid (P=out):=by
    have h1:=HO.out
    rw [znn (by omega),List.append_nil] at h1
    exact h1
   obtain ⟨av,cv,rfl⟩:=zay hown
   have hiv:=zdc hown
   go_wp2
   go_ret
   exact ⟨_,_,_,rfl,by rw [HE.out];exact hiv,hbw⟩
theorem zmd {w:World} {a:Option Addr} (cap:Nat) {ts:List Q4} (h:Quad w.heap.size w a ts) (hm:ts.length≤1048576) :
 Calls Tryz.prog 39 #[.slice a ts.length cap] w (zsy w (zbj ts)):=by
 obtain ⟨j0,hj,jz0,jz1,jz2⟩:=info_parts zg5
 by_cases hc:zah ts=0
 ·have hl:=(zfj hc).l1
  have hln:(ts.length:Int)≤30:=by omega
  have HP:Hid (zbj ts=zb9 ts ts.length):=by show (if zah ts=0 then _ else _)=_;rw [if_pos hc]
  rw [HP.out]
  go_enter Tryz.func39,Tryz.ntmps39
  go_wp2
  go_loopw [3,4] (fun v i wr=>∃k:Nat,i=.int .i64 k∧k≤ts.length∧wr.ownsRow w.heap.size 2 1 v (zb9 ts k).length (za7 (zb9 ts k))∧Below w.heap.size w wr) (fun _ i _=>ts.length-(intOf i).toNat)
  case atStart=>exact ⟨0,rfl,by omega,zea w w.heap.size _ rfl (Nat.le_refl _) _,by go_grown⟩
  case round =>
   obtain ⟨k,rfl,hk,hown,hbw⟩:=hrel
   have zb:=hbw.size
   by_cases hlt:k<ts.length
   ·have hlt':(k:Int)<(ts.length:Int):=by omega
    have HL:Hid ((zb9 ts k).length≤30):=Nat.le_trans (zif ts k) (by omega)
    cases hf:zdd ts (k:Int)
    ·have HN:Hid (zb9 ts (k+1)=zb9 ts k):=zpi hf
     go_wp2_with (first
      | (go_at_call 93;refine (zdf cap ((h.mono hbw).up zb)).mono ?_;rintro e w2 ⟨rfl,hb2⟩;rw [hc];have hbw2:=hbw.trans (hb2.mono zb);have hown2:=za2 hown hb2)
      | (go_at_call 50;refine (zgx cap (k:Int) ((h.mono hbw2).up hbw2.size) hm).mono ?_;rintro e w3 ⟨rfl,rfl⟩;rw [hf]))
     go_roundw
     case rel=>exact ⟨k+1,by go_num,by omega,by rw [HN.out];exact hown2,hbw2⟩
     case measure=>simp [intOf]<;>omega
    ·have HN:Hid (zb9 ts (k+1)=zb9 ts k ++ [(k:Int)]):=zi2 hf
     go_wp2_with (first
      | (go_at_call 93;refine (zdf cap ((h.mono hbw).up zb)).mono ?_;rintro e w2 ⟨rfl,hb2⟩;rw [hc];have hbw2:=hbw.trans (hb2.mono zb);have hown2:=za2 hown hb2;have zb2:=hbw2.size)
      | (go_at_call 50;refine (zgx cap (k:Int) ((h.mono hbw2).up hbw2.size) hm).mono ?_;rintro e w3 ⟨rfl,rfl⟩;rw [hf])
      | (at_builtin;refine wpList_append_own _ rfl _ _ 45 rfl w.heap.size 2 j0 _ 1 8 Tryz.underlying45 hj jz0 jz1 jz2 rfl (by decide) _ _ _ rfl (hown2.alloc _) ⟨w3.heap.size,0,none⟩ 1 1 [.int .i64 (k:Int)] rfl rfl ?c1 ?c2 ?c3 ?c4 ?c5 ?c6;rotate_left 5;intro v' w' hown' hgr hnil;have hb4:=zig hbw2 hgr (fun g hg=>(hown2.lt g hg).1)))
     case c1=>exact zeo (by go_simp)
     case c2=>exact zdk [(k:Int)]
     case c3=>have:=HL.out;unfold maxLen;omega
     case c4=>have:=HL.out;omega
     case c5=>simp;omega
     go_roundw
     case rel=>exact ⟨k+1,by go_num,by omega,by rw [HN.out,zbq,List.length_append];exact hown',hb4⟩
     case measure=>simp [intOf]<;>omega
   ·have e:k=ts.length:=by omega
    subst e
    obtain ⟨av,cv,rfl⟩:=zay hown
    have hiv:=zdc hown
    go_wp2
    go_ret
    exact ⟨_,_,_,rfl,hiv,hbw⟩
 ·have HP:Hid (zbj ts=[]):=by show (if zah ts=0 then _ else _)=_;rw [if_neg hc]
  rw [HP.out]
  have hc':(zah ts == 0)=false:=by simp [hc]
  by_cases h0:ts.length=0
  ·obtain rfl:ts=[]:=List.eq_nil_of_length_eq_zero h0
   rw [List.length_nil]
   clear h0
   go_enter Tryz.func39,Tryz.ntmps39
   go_wp2
   refine wp_loop_rounds 1 ?_
   rw [rounds_succ]
   go_wp2
   go_ret
   exact ⟨_,_,_,rfl,zzu w _ _ (Nat.le_refl _),by go_grown⟩
  ·have h0':(0:Int)<(ts.length:Int):=by omega
   go_enter Tryz.func39,Tryz.ntmps39
   go_wp2
   refine wp_loop_rounds 1 ?_
   rw [rounds_succ]
   have hn:=zzu w w.heap.size 2 (Nat.le_refl _)
   have hbn:Below w.heap.size w (w.alloc (.cells #[] 2)):=by go_grown
   go_wp2_with (first
    | (go_at_call 93;refine (zdf cap (h.here hbn)).mono ?_;rintro e w2 ⟨rfl,hb2⟩))
   go_ret
   exact ⟨_,_,_,rfl,hn.next hb2,hbn.trans (hb2.mono hbn.size)⟩
theorem zha {ts:List Q4} (hw:znm ts):∀(n:Nat) (i:Int),i<ts.length→i+1≤n→∀x ∈ zap ts i,0≤x∧x≤i
 | n,i,h1,h2,x,hx=>by
  by_cases h0:0≤i
  ·cases n with
   | zero=>omega
   | succ n =>
    have hp:=zgy hw h0 h1
    rw [zk4 hw h0 h1] at hx
    rcases List.mem_cons.1 hx with rfl|hx
    ·omega
    ·have:=zha hw n (zc5 ts i) (by omega) (by omega) x hx
     omega
  ·rw [znn (by omega)] at hx
   cases hx
theorem zmz {ts:List Q4} (hw:znm ts):∀(n:Nat) (i:Int),i<ts.length→i+1≤n→(zap ts i).Nodup
 | n,i,h1,h2=>by
  by_cases h0:0≤i
  ·cases n with
   | zero=>omega
   | succ n =>
    have hp:=zgy hw h0 h1
    rw [zk4 hw h0 h1]
    refine List.nodup_cons.2 ⟨fun hx=>?_,zmz hw n (zc5 ts i) (by omega) (by omega)⟩
    have:=zha hw n (zc5 ts i) (by omega) (by omega) i hx
    omega
  ·rw [znn (by omega)]
   exact List.nodup_nil
end Go.Proofs.YthiojkjcmhojoaaGreat
