import Derived.Test.YthiojkjcmhojoaaGreatGrpAQ
import Derived.Laws.AppendOwnNone
import Derived.Test.YthiojkjcmhojoaaGreatGrpAE
import Derived.Test.YthiojkjcmhojoaaGreatGrpAG
namespace Go.Proofs.YthiojkjcmhojoaaGreat
set_option maxHeartbeats 8000000
open Go.ChangeShapes Go.WideShapes Go.ChangeAt Go.RowKit
set_option maxRecDepth 100000
set_option linter.unusedVariables false
set_option linter.unusedSimpArgs false
def zc2 (ts:List Q4) (i:Int):Int:=match ts[i.toNat]? with|some t=>t.1|none=>-1
def zln (ts:List Q4):Nat→Int→List Int
 | 0,_=>[]
 | f+1,i=>if i<0 then [] else i :: zln ts f (zc2 ts i)
def zan (ts:List Q4) (i:Int):List Int:=zln ts (i+1).toNat i
def zms (ts:List Q4):Prop:=∀k (hk:k<ts.length),-1≤ts[k].1∧ts[k].1<k
theorem zn7 {ts:List Q4} {k:Nat} (hk:k<ts.length):zc2 ts k=ts[k].1:=by
 unfold zc2
 rw [Int.toNat_natCast,List.getElem?_eq_getElem hk]
theorem zgm {ts:List Q4} (h:zms ts) {i:Int} (h0:0≤i) (h1:i<ts.length):-1≤zc2 ts i∧zc2 ts i<i:=by
 obtain ⟨k,rfl⟩:∃k:Nat,i=k:=⟨i.toNat,by omega⟩
 rw [zn7 (by omega)]
 exact h k (by omega)
theorem zi2 (ts:List Q4):∀f i,(zln ts f i).length≤f
 | 0,_=>Nat.le_refl _
 | f+1,i=>by
  unfold zln
  by_cases h:i<0
  ·rw [if_pos h];exact Nat.zero_le _
  ·rw [if_neg h,List.length_cons]
   exact Nat.succ_le_succ (zi2 ts f _)
theorem zl9 {ts:List Q4} (h:zms ts):∀(f f':Nat) (i:Int),i<ts.length→i+1≤f→i+1≤f'→zln ts f i=zln ts f' i
 | 0,f',i,h1,h2,h3=>by
  cases f' with
  | zero=>rfl
  | succ f'=>unfold zln;rw [if_pos (by omega)]
 | f+1,f',i,h1,h2,h3=>by
  cases f' with
  | zero=>unfold zln;rw [if_pos (by omega)]
  | succ f' =>
   unfold zln
   by_cases k:i<0
   ·rw [if_pos k,if_pos k]
   ·rw [if_neg k,if_neg k]
    have hp:=zgm h (by omega) h1
    rw [zl9 h f f' (zc2 ts i) (by omega) (by omega) (by omega)]
theorem zmt {ts:List Q4} {i:Int} (h:i<0):zan ts i=[]:=by
 unfold zan
 rw [show (i+1).toNat=0 by omega]
 rfl
theorem zkk {ts:List Q4} (h:zms ts) {i:Int} (h0:0≤i) (h1:i<ts.length):zan ts i=i :: zan ts (zc2 ts i):=by
 have hp:=zgm h h0 h1
 unfold zan
 rw [show (i+1).toNat=i.toNat+1 by omega]
 show (if i<0 then [] else i :: zln ts i.toNat (zc2 ts i))=_
 rw [if_neg (by omega),zl9 h i.toNat (zc2 ts i+1).toNat (zc2 ts i) (by omega) (by omega) (by omega)]
theorem zf1 {ts:List Q4} {i:Int} (h1:i<ts.length):(zan ts i).length≤ts.length:=Nat.le_trans (zi2 ts _ _) (by omega)
def zyx (x:Int):Bool:=decide (1500≤x) && decide (x≤1000000000)
def zhc (ts:List Q4) (k:Nat):Int:=match ts[k]? with|some t=>t.2.1|none=>0
def zr0 (ts:List Q4) (k:Nat):Int:=match ts[k]? with|some t=>t.2.2.1|none=>0
def zpu (k:Nat) (p:Int):Bool:=if k=0 then decide (p = -1) else decide (0≤p) && decide (p≤(k:Int)-1)
def zfd (ts:List Q4) (k:Nat) (p:Int):Int:=if k=0 then 1000000000000 else zr0 ts p.toNat
def zhi (hi:Int) (t:Q4):Bool:=(((zc6 t.2.1 && zc6 t.2.2.1) && decide (t.2.1≤t.2.2.1)) && decide (t.2.2.1≤hi)) && zyx t.2.2.2
def ze4 (ts:List Q4) (k:Nat) (t:Q4):Int:=if zpu k t.1=true then (if zhi (zfd ts k t.1) t=true then 0 else 3) else 2
def zn8 (ts:List Q4) (k:Nat):Int:=match ts[k]? with|some t=>ze4 ts k t|none=>0
def zcb (ts:List Q4):Nat→Int
 | 0=>0
 | k+1=>if zcb ts k=0 then zn8 ts k else zcb ts k
def zg5 (ts:List Q4) (i:Int) (k:Nat):Int:=match ts[k]? with|some t=>if t.1=i then t.2.1 else 0|none=>0
def zd3 (ts:List Q4) (i:Int):Nat→Int
 | 0=>0
 | k+1=>zd3 ts i k+zg5 ts i k
def zda (ts:List Q4):Nat→Bool
 | 0=>false
 | k+1=>zda ts k || decide (zhc ts k<zd3 ts (k:Int) ts.length)
def zn9 (ts:List Q4):Bool:=decide (1≤ts.length) && decide (ts.length≤30)
def zak (ts:List Q4):Int:=if zn9 ts=true then (if zcb ts ts.length=0 then (if zda ts ts.length=true then 4 else 0) else zcb ts ts.length) else 1
theorem zfe {ts:List Q4} {k:Nat} (hk:k<ts.length):zn8 ts k=ze4 ts k ts[k]:=by unfold zn8;rw [List.getElem?_eq_getElem hk]
theorem zoa {ts:List Q4} {k:Nat} (hk:k<ts.length):zhc ts k=ts[k].2.1:=by unfold zhc;rw [List.getElem?_eq_getElem hk]
theorem zob {ts:List Q4} {k:Nat} (hk:k<ts.length):zr0 ts k=ts[k].2.2.1:=by unfold zr0;rw [List.getElem?_eq_getElem hk]
theorem zkl {ts:List Q4} {i:Int} {k:Nat} (hk:k<ts.length) (h:ts[k].1=i):zg5 ts i k=ts[k].2.1:=by unfold zg5;rw [List.getElem?_eq_getElem hk];simp [h]
theorem zj0 {ts:List Q4} {i:Int} {k:Nat} (hk:k<ts.length) (h:ts[k].1≠i):zg5 ts i k=0:=by unfold zg5;rw [List.getElem?_eq_getElem hk];simp [h]
theorem zkm {ts:List Q4} {k:Nat} (h:zcb ts k≠0):∀d,zcb ts (k+d)=zcb ts k
 | 0=>rfl
 | d+1=>by
  show (if zcb ts (k+d)=0 then _ else zcb ts (k+d))=_
  rw [zkm h d,if_neg h]
theorem zff {ts:List Q4} {k:Nat} (h:zcb ts k=0):zcb ts (k+1)=zn8 ts k:=if_pos h
theorem zu7 {ts:List Q4} {k:Nat} (hk:k<ts.length) (h:zcb ts k=0) (hc:ze4 ts k ts[k]≠0):zcb ts ts.length=ze4 ts k ts[k]:=by
 have e:zcb ts (k+1)=ze4 ts k ts[k]:=by rw [zff h,zfe hk]
 have s:=zkm (ts:=ts) (k:=k+1) (by rw [e];exact hc) (ts.length-(k+1))
 rw [show k+1+(ts.length-(k+1))=ts.length by omega] at s
 rw [s,e]
theorem zhx {ts:List Q4} {k:Nat} (hl:zn9 ts=true) (hk:k<ts.length) (h:zcb ts k=0) (hc:ze4 ts k ts[k]≠0):zak ts=ze4 ts k ts[k]:=by
 have e:=zu7 hk h hc
 unfold zak
 rw [if_pos hl,if_neg (by rw [e];exact hc),e]
theorem zr1 {ts:List Q4} (hl:zn9 ts=false):zak ts=1:=by unfold zak;rw [hl];rfl
theorem zr3 {ts:List Q4} {k:Nat} {t:Q4} (h:zpu k t.1=false):ze4 ts k t=2:=by unfold ze4;rw [h];rfl
theorem zmu {ts:List Q4} {k:Nat} {t:Q4} (h:zpu k t.1=true) (h2:zhi (zfd ts k t.1) t=false):ze4 ts k t=3:=by unfold ze4;rw [h,h2];rfl
theorem zp6 {ts:List Q4} {k:Nat} {t:Q4} (h:zpu k t.1=true) (h2:zhi (zfd ts k t.1) t=true):ze4 ts k t=0:=by unfold ze4;rw [h,h2];rfl
theorem zma {ts:List Q4} {k:Nat} {t:Q4} (h:ze4 ts k t=0):zpu k t.1=true∧zhi (zfd ts k t.1) t=true:=by
 unfold ze4 at h
 by_cases h1:zpu k t.1=true
 ·rw [if_pos h1] at h
  by_cases h2:zhi (zfd ts k t.1) t=true
  ·exact ⟨h1,h2⟩
  ·rw [if_neg h2] at h;cases h
 ·rw [if_neg h1] at h;cases h
theorem zkn {ts:List Q4}:∀{n:Nat},zcb ts n=0→∀k,k<n→zn8 ts k=0
 | 0,_,k,hk=>by cases hk
 | n+1,h,k,hk=>by
  have h0:zcb ts n=0:=by
   by_cases e:zcb ts n=0
   ·exact e
   ·have:zcb ts (n+1)=zcb ts n:=if_neg e
    rw [this] at h;exact h
  rw [zff h0] at h
  by_cases e:k=n
  ·subst e;exact h
  ·exact zkn h0 k (by omega)
structure Sound (ts:List Q4):Prop where
 par:∀k (hk:k<ts.length),zpu k ts[k].1=true
 cls:∀k (hk:k<ts.length),zhi (zfd ts k ts[k].1) ts[k]=true
theorem zmv {ts:List Q4} (h:zcb ts ts.length=0):Sound ts :=
 ⟨fun k hk=>(zma (by rw [←zfe hk];exact zkn h k hk)).1,fun k hk=>(zma (by rw [←zfe hk];exact zkn h k hk)).2⟩
theorem zmw {k:Nat} {p:Int} (h:zpu k p=true):-1≤p∧p<k:=by
 unfold zpu at h
 by_cases e:k=0
 ·rw [if_pos e] at h
  have:=of_decide_eq_true h
  omega
 ·rw [if_neg e,Bool.and_eq_true] at h
  have h1:=of_decide_eq_true h.1
  have h2:=of_decide_eq_true h.2
  omega
theorem zoc {x:Int} (h:zc6 x=true):0≤x∧x≤1000000000000:=by simpa [zc6] using h
theorem zxm {hi:Int} {t:Q4} (h:zhi hi t=true):0≤t.2.1∧t.2.1≤1000000000000:=by
 unfold zhi at h
 rw [Bool.and_eq_true,Bool.and_eq_true,Bool.and_eq_true,Bool.and_eq_true] at h
 exact zoc h.1.1.1.1
theorem Sound.well {ts:List Q4} (h:Sound ts):zms ts:=fun k hk=>zmw (h.par k hk)
theorem Sound.rate {ts:List Q4} (h:Sound ts) (k:Nat) (hk:k<ts.length):0≤ts[k].2.1∧ts[k].2.1≤1000000000000:=zxm (h.cls k hk)
theorem Sound.kid {ts:List Q4} (h:Sound ts) (i:Int) (k:Nat):0≤zg5 ts i k∧zg5 ts i k≤1000000000000:=by
 by_cases hk:k<ts.length
 ·by_cases e:ts[k].1=i
  ·rw [zkl hk e];exact h.rate k hk
  ·rw [zj0 hk e];omega
 ·unfold zg5
  rw [List.getElem?_eq_none (by omega)]
  simp
theorem Sound.kids {ts:List Q4} (h:Sound ts) (i:Int):∀k,0≤zd3 ts i k∧zd3 ts i k≤1000000000000*(k:Int)
 | 0=>by simp [zd3]
 | k+1=>by
  have h1:=h.kids i k
  have h2:=h.kid i k
  show 0≤zd3 ts i k+zg5 ts i k∧zd3 ts i k+zg5 ts i k≤1000000000000*((k+1:Nat):Int)
  omega
theorem Sound.none {ts:List Q4} (h:Sound ts) (i:Nat):∀k,k≤i+1→zd3 ts (i:Int) k=0
 | 0,_=>rfl
 | k+1,hk=>by
  show zd3 ts (i:Int) k+zg5 ts (i:Int) k=0
  rw [h.none i k (by omega)]
  by_cases hl:k<ts.length
  ·have:=(h.well k hl).2
   rw [zj0 hl (by omega)]
   rfl
  ·unfold zg5
   rw [List.getElem?_eq_none (by omega)]
   rfl
theorem zmb {ts:List Q4} {k:Nat} (h:zda ts k=true):∀d,zda ts (k+d)=true
 | 0=>h
 | d+1=>by
  show (zda ts (k+d) || _)=true
  rw [zmb h d]
  rfl
theorem zu8 {ts:List Q4} {k:Nat} (hk:k<ts.length) (h:zhc ts k<zd3 ts (k:Int) ts.length):zda ts ts.length=true:=by
 have e:zda ts (k+1)=true:=by
  show (zda ts k || decide _)=true
  rw [decide_eq_true h,Bool.or_true]
 have s:=zmb e (ts.length-(k+1))
 rw [show k+1+(ts.length-(k+1))=ts.length by omega] at s
 exact s
theorem zod {ts:List Q4} {k:Nat} (h0:zda ts k=false) (h:¬zhc ts k<zd3 ts (k:Int) ts.length):zda ts (k+1)=false:=by
 show (zda ts k || decide _)=false
 rw [h0,decide_eq_false h]
 rfl
theorem zr4 {ts:List Q4}:∀{n:Nat},zda ts n=false→∀k,k<n→zd3 ts (k:Int) ts.length≤zhc ts k
 | 0,_,k,hk=>by cases hk
 | n+1,h,k,hk=>by
  have h':(zda ts n || decide (zhc ts n<zd3 ts (n:Int) ts.length))=false:=h
  rw [Bool.or_eq_false_iff] at h'
  by_cases e:k=n
  ·subst e
   have:=of_decide_eq_false h'.2
   omega
  ·exact zr4 h'.1 k (by omega)
theorem zr5 {ts:List Q4} (hl:zn9 ts=true) (h:zcb ts ts.length=0) (ho:zda ts ts.length=true):zak ts=4:=by unfold zak;rw [if_pos hl,if_pos h,if_pos ho]
theorem zoe {ts:List Q4} (hl:zn9 ts=true) (h:zcb ts ts.length=0) (ho:zda ts ts.length=false):zak ts=0:=by unfold zak;rw [if_pos hl,if_pos h,ho];rfl
structure IsTree (ts:List Q4):Prop where
 l0:1≤ts.length
 l1:ts.length≤30
 sound:Sound ts
 sum:∀k,k<ts.length→zd3 ts (k:Int) ts.length≤zhc ts k
theorem zf2 {ts:List Q4} (h:zak ts=0):IsTree ts:=by
 unfold zak at h
 by_cases hl:zn9 ts=true
 ·rw [if_pos hl] at h
  by_cases hf:zcb ts ts.length=0
  ·rw [if_pos hf] at h
   by_cases ho:zda ts ts.length=true
   ·rw [if_pos ho] at h;cases h
   ·unfold zn9 at hl
    rw [Bool.and_eq_true] at hl
    exact ⟨of_decide_eq_true hl.1,of_decide_eq_true hl.2,zmv hf,zr4 (by simpa using ho)⟩
  ·rw [if_neg hf] at h
   exact absurd h hf
 ·rw [if_neg hl] at h;cases h
def zca (ts:List Q4) (k:Nat):List Int:=((List.range k).filter fun (j:Nat)=>zc9 ts (j:Int)).map fun (j:Nat)=>(j:Int)
def zbg (ts:List Q4):List Int:=if zak ts=0 then zca ts ts.length else []
theorem zig {ts:List Q4} {k:Nat} (h:zc9 ts (k:Int)=true):zca ts (k+1)=zca ts k ++ [(k:Int)]:=by
 unfold zca
 rw [List.range_succ,List.filter_append,List.map_append]
 simp [h]
theorem zof {ts:List Q4} {k:Nat} (h:zc9 ts (k:Int)=false):zca ts (k+1)=zca ts k:=by
 unfold zca
 rw [List.range_succ,List.filter_append,List.map_append]
 simp [h]
theorem zhy (ts:List Q4) (k:Nat):(zca ts k).length≤k:=by
 unfold zca
 rw [List.length_map]
 exact Nat.le_trans (List.length_filter_le _ _) (by simp)
theorem zko (ts:List Q4):(zbg ts).length≤30:=by
 unfold zbg
 by_cases h:zak ts=0
 ·rw [if_pos h]
  exact Nat.le_trans (zhy ts _) (zf2 h).l1
 ·rw [if_neg h]
  exact Nat.zero_le _
theorem zfg {f g:Int} (h:f=g):Ending.returned (.int .i64 f)=.returned (.int .i64 g):=by rw [h]
theorem zb8 {x:Int} {f:Bool} (h:zc6 x=f) (w:World):Calls Tryz.prog 144 #[.int .i64 x] w fun e w'=>e=.returned (.bool f)∧w'=w:=by subst h;exact zfx x w
theorem zds {lo x hi:Int} {f:Bool} (h:(decide (lo≤x) && decide (x≤hi))=f) (w:World):Calls Tryz.prog 48 #[.int .i64 x,.int .i64 lo,.int .i64 hi] w fun e w'=>e=.returned (.bool f)∧w'=w:=by subst h;exact zen lo x hi w
theorem zct {hi r c u:Int} {p:Int}:zhi hi (p,r,c,u)=((((zc6 r && zc6 c) && decide (r≤c)) && decide (c≤hi)) && zyx u):=rfl
theorem zr6 {p:Int}:zpu 0 p=decide (p = -1):=rfl
theorem zgz {k:Nat} {p:Int} (h:k≠0):zpu k p=(decide (0≤p) && decide (p≤(k:Int)-1)):=if_neg h
theorem zzw {ts:List Q4} {p:Int}:zfd ts 0 p=1000000000000:=rfl
theorem zu9 {ts:List Q4} {k q:Nat} {p:Int} (h:k≠0) (hp:p=q):zfd ts k p=zr0 ts q:=by subst hp;exact if_neg h
theorem zva {ts:List Q4} (h:zn9 ts=true):1≤ts.length∧ts.length≤30:=by
 unfold zn9 at h
 rw [Bool.and_eq_true] at h
 exact ⟨of_decide_eq_true h.1,of_decide_eq_true h.2⟩
theorem zvb {ts:List Q4} (h:zn9 ts=false):ts.length=0∨30<ts.length:=by
 unfold zn9 at h
 rw [Bool.and_eq_false_iff] at h
 rcases h with h|h
 ·have:=of_decide_eq_false h;omega
 ·have:=of_decide_eq_false h;omega
theorem zog {w:World} {a:Option Addr} (cap:Nat) {ts:List Q4} (hl:zn9 ts=false) :
 Calls Tryz.prog 93 #[.slice a ts.length cap] w fun e w'=>e=.returned (.int .i64 (zak ts))∧Below w.heap.size w w':=by
 rw [zr1 hl]
 rcases zvb hl with h|h
 ·have h':(ts.length:Int)<1:=by omega
  clear hl h
  go_enter Tryz.func93,Tryz.ntmps93
  go_wp2
  go_ret
  exact ⟨rfl,by go_grown⟩
 ·have h':(30:Int)<(ts.length:Int):=by omega
  have h2:decide ((ts.length:Int)<1)=false:=decide_eq_false (by omega)
  clear hl h
  go_enter Tryz.func93,Tryz.ntmps93
  go_wp2
  go_ret
  exact ⟨rfl,by go_grown⟩
theorem zdb {w:World} {a:Option Addr} (cap:Nat) {ts:List Q4} (h:Quad w.heap.size w a ts) :
 Calls Tryz.prog 93 #[.slice a ts.length cap] w fun e w'=>e=.returned (.int .i64 (zak ts))∧Below w.heap.size w w':=by
 cases hl:zn9 ts
 ·exact zog cap hl
 have hn:=zva hl
 have n0:decide ((ts.length:Int)<1)=false:=decide_eq_false (by omega)
 have n1:decide ((30:Int)<(ts.length:Int))=false:=decide_eq_false (by omega)
 have HL:Hid (zn9 ts=true):=hl
 clear hl
 go_enter Tryz.func93,Tryz.ntmps93
 go_wp2
 go_loopw [4] (fun i wr=>∃k:Nat,i=.int .i64 k∧k≤ts.length∧Hid (zcb ts k=0)∧Below w.heap.size w wr) (fun i _=>ts.length-(intOf i).toNat)
 case atStart=>exact ⟨0,rfl,by omega,rfl,by go_grown⟩
 case round =>
  obtain ⟨k,rfl,hk,HF,hbw⟩:=hrel
  by_cases hlt:k<ts.length
  ·obtain ⟨b,off,rfl,hb,c0,c1,c2,c3⟩:=h.at hbw k hlt
   have hlt':(k:Int)<(ts.length:Int):=by omega
   have zb:=hbw.size
   have hbz:b<wr.heap.size:=Nat.lt_of_lt_of_le hb hbw.size
   obtain ⟨x,hx⟩:∃x,ts[k]=x:=⟨_,rfl⟩
   rw [hx] at c0 c1 c2 c3
   obtain ⟨p,r,c,u⟩:=x
   have HX:Hid (ts[k]=(p,r,c,u)):=hx
   clear hx
   simp only at c0 c1 c2 c3
   have bad2:zpu k p=false→zak ts=2:=fun hp=>by
    have e:ze4 ts k ts[k]=2:=by rw [HX.out];exact zr3 hp
    rw [zhx HL.out hlt HF.out (by rw [e];decide),e]
   by_cases hk0:k=0
   ·subst hk0
    simp only [Nat.zero_mul,Nat.add_zero] at c0 c1 c2 c3
    by_cases hp:p = -1
    ·subst hp
     clear bad2
     have bad3:zhi 1000000000000 (-1,r,c,u)=false→zak ts=3:=fun hp=>by
      have e:ze4 ts 0 ts[0]=3:=by rw [HX.out];exact zmu rfl hp
      rw [zhx HL.out hlt HF.out (by rw [e];decide),e]
     have good0:zhi 1000000000000 (-1,r,c,u)=true→zcb ts 1=0:=fun hp=>by
      rw [zff HF.out,zfe hlt,HX.out]
      exact zp6 rfl hp
     cases h1:zc6 r
     ·skip
      have HCC:zhi 1000000000000 (-1,r,c,u)=false:=by rw [zct];simp [h1]
      have HC:Hid (zak ts=3):=bad3 HCC
      clear HCC good0 bad3
      go_wp2
      go_quiet (first|(go_at_call 144;exact Calls.quiet_of_same (zb8 h1 _)))
      go_wp2
      go_ret
      exact ⟨zfg HC.out.symm,zam (by go_grown) _⟩
     ·cases h2:zc6 c
      ·skip
       have HCC:zhi 1000000000000 (-1,r,c,u)=false:=by rw [zct];simp [h1,h2]
       have HC:Hid (zak ts=3):=bad3 HCC
       clear HCC good0 bad3
       go_wp2
       go_quiet (first|(go_at_call 144;exact Calls.quiet_of_same (zb8 h1 _))|(go_at_call 144;exact Calls.quiet_of_same (zb8 h2 _)))
       go_wp2
       go_ret
       exact ⟨zfg HC.out.symm,zam (by go_grown) _⟩
      ·by_cases h3:r≤c
       ·have h3':decide (c<r)=false:=decide_eq_false (by omega)
        cases h4:(decide (1500≤u) && decide (u≤1000000000))
        ·have h4':zyx u=false:=h4
         have HCC:zhi 1000000000000 (-1,r,c,u)=false:=by rw [zct];simp [h1,h2,h3,h4']
         have HC:Hid (zak ts=3):=bad3 HCC
         clear HCC good0 bad3
         go_wp2
         go_quiet (first|(go_at_call 144;exact Calls.quiet_of_same (zb8 h1 _))|(go_at_call 144;exact Calls.quiet_of_same (zb8 h2 _))|(go_at_call 48;exact Calls.quiet_of_same (zds h4 _)))
         go_wp2
         go_ret
         exact ⟨zfg HC.out.symm,zam (by go_grown) _⟩
        ·have h4':zyx u=true:=h4
         have h5:c≤1000000000000:=(zoc h2).2
         have HCC:zhi 1000000000000 (-1,r,c,u)=true:=by rw [zct];simp [h1,h2,h3,h4',h5]
         have HN:Hid (zcb ts 1=0):=good0 HCC
         clear HCC good0 bad3
         go_wp2
         go_quiet (first|(go_at_call 144;exact Calls.quiet_of_same (zb8 h1 _))|(go_at_call 144;exact Calls.quiet_of_same (zb8 h2 _))|(go_at_call 48;exact Calls.quiet_of_same (zds h4 _)))
         go_wp2
         go_roundw
         case rel=>exact ⟨1,by go_num,by omega,HN,zam (by go_grown) _⟩
         case measure=>simp [intOf]<;>omega
       ·have h3':c<r:=by omega
        have HCC:zhi 1000000000000 (-1,r,c,u)=false:=by rw [zct];simp [h1,h2,h3]
        have HC:Hid (zak ts=3):=bad3 HCC
        clear HCC good0 bad3
        go_wp2
        go_quiet (first|(go_at_call 144;exact Calls.quiet_of_same (zb8 h1 _))|(go_at_call 144;exact Calls.quiet_of_same (zb8 h2 _)))
        go_wp2
        go_ret
        exact ⟨zfg HC.out.symm,zam (by go_grown) _⟩
    ·have hp':(p == -1)=false:=by simp [hp]
     have HC:Hid (zak ts=2):=bad2 (by rw [zr6];exact decide_eq_false hp)
     clear bad2
     go_wp2
     go_ret
     exact ⟨zfg HC.out.symm,by go_grown⟩
   ·have k1:(0:Int)<(k:Int):=by omega
    have k2:((k:Int) == 0)=false:=by simp [hk0]
    cases hpar:(decide (0≤p) && decide (p≤(k:Int)-1))
    ·have HC:Hid (zak ts=2):=bad2 (by rw [zgz hk0];exact hpar)
     clear bad2
     go_wp2_with (first|(go_at_call 48;refine (zds hpar _).mono ?_;rintro e w2 ⟨rfl,rfl⟩))
     go_ret
     exact ⟨zfg HC.out.symm,by go_grown⟩
    ·have hpn:=zmw (k:=k) (p:=p) (by rw [zgz hk0];exact hpar)
     have hp0:0≤p:=by rw [Bool.and_eq_true] at hpar;exact of_decide_eq_true hpar.1
     obtain ⟨q,rfl⟩:∃q:Nat,p=q:=⟨p.toNat,by omega⟩
     have hq:q<ts.length:=by omega
     have hq':(q:Int)<(ts.length:Int):=by omega
     have hd2:=(h.cells hbw q hq).2.2.1
     obtain ⟨d,hd⟩:∃d,ts[q].2.2.1=d:=⟨_,rfl⟩
     rw [hd] at hd2
     have HD:Hid (zfd ts k q=d):=by
      show zfd ts k q=d
      rw [zu9 hk0 rfl,zob hq,hd]
     clear hd hpn bad2
     have bad3:zhi d ((q:Int),r,c,u)=false→zak ts=3:=fun hp=>by
      have e:ze4 ts k ts[k]=3:=by rw [HX.out];exact zmu (by rw [zgz hk0];exact hpar) (by rw [HD.out];exact hp)
      rw [zhx HL.out hlt HF.out (by rw [e];decide),e]
     have good0:zhi d ((q:Int),r,c,u)=true→zcb ts (k+1)=0:=fun hp=>by
      rw [zff HF.out,zfe hlt,HX.out]
      exact zp6 (by rw [zgz hk0];exact hpar) (by rw [HD.out];exact hp)
     cases h1:zc6 r
     ·skip
      have HCC:zhi d ((q:Int),r,c,u)=false:=by rw [zct];simp [h1]
      have HC:Hid (zak ts=3):=bad3 HCC
      clear HCC good0 bad3
      go_wp2_with (first|(go_at_call 48;refine (zds hpar _).mono ?_;rintro e w2 ⟨rfl,rfl⟩))
      go_quiet (first|(go_at_call 144;exact Calls.quiet_of_same (zb8 h1 _)))
      go_wp2
      go_ret
      exact ⟨zfg HC.out.symm,zam (by go_grown) _⟩
     ·cases h2:zc6 c
      ·skip
       have HCC:zhi d ((q:Int),r,c,u)=false:=by rw [zct];simp [h1,h2]
       have HC:Hid (zak ts=3):=bad3 HCC
       clear HCC good0 bad3
       go_wp2_with (first|(go_at_call 48;refine (zds hpar _).mono ?_;rintro e w2 ⟨rfl,rfl⟩))
       go_quiet (first|(go_at_call 144;exact Calls.quiet_of_same (zb8 h1 _))|(go_at_call 144;exact Calls.quiet_of_same (zb8 h2 _)))
       go_wp2
       go_ret
       exact ⟨zfg HC.out.symm,zam (by go_grown) _⟩
      ·by_cases h3:r≤c
       ·have h3':decide (c<r)=false:=decide_eq_false (by omega)
        cases h4:(decide (1500≤u) && decide (u≤1000000000))
        ·have h4':zyx u=false:=h4
         have HCC:zhi d ((q:Int),r,c,u)=false:=by rw [zct];simp [h1,h2,h3,h4']
         have HC:Hid (zak ts=3):=bad3 HCC
         clear HCC good0 bad3
         go_wp2_with (first|(go_at_call 48;refine (zds hpar _).mono ?_;rintro e w2 ⟨rfl,rfl⟩))
         go_quiet (first|(go_at_call 144;exact Calls.quiet_of_same (zb8 h1 _))|(go_at_call 144;exact Calls.quiet_of_same (zb8 h2 _))|(go_at_call 48;exact Calls.quiet_of_same (zds h4 _)))
         go_wp2
         go_ret
         exact ⟨zfg HC.out.symm,zam (by go_grown) _⟩
        ·have h4':zyx u=true:=h4
         by_cases h5:c≤d
         ·have h5':decide (d<c)=false:=decide_eq_false (by omega)
          have HCC:zhi d ((q:Int),r,c,u)=true:=by rw [zct];simp [h1,h2,h3,h4',h5]
          have HN:Hid (zcb ts (k+1)=0):=good0 HCC
          clear HCC good0 bad3
          go_wp2_with (first|(go_at_call 48;refine (zds hpar _).mono ?_;rintro e w2 ⟨rfl,rfl⟩))
          go_quiet (first|(go_at_call 144;exact Calls.quiet_of_same (zb8 h1 _))|(go_at_call 144;exact Calls.quiet_of_same (zb8 h2 _))|(go_at_call 48;exact Calls.quiet_of_same (zds h4 _)))
          go_wp2
          go_roundw
          case rel=>exact ⟨k+1,by go_num,by omega,HN,zam (by go_grown) _⟩
          case measure=>simp [intOf]<;>omega
         ·have h5':d<c:=by omega
          have HCC:zhi d ((q:Int),r,c,u)=false:=by rw [zct];simp [h1,h2,h3,h4',h5]
          have HC:Hid (zak ts=3):=bad3 HCC
          clear HCC good0 bad3
          go_wp2_with (first|(go_at_call 48;refine (zds hpar _).mono ?_;rintro e w2 ⟨rfl,rfl⟩))
          go_quiet (first|(go_at_call 144;exact Calls.quiet_of_same (zb8 h1 _))|(go_at_call 144;exact Calls.quiet_of_same (zb8 h2 _))|(go_at_call 48;exact Calls.quiet_of_same (zds h4 _)))
          go_wp2
          go_ret
          exact ⟨zfg HC.out.symm,zam (by go_grown) _⟩
       ·have h3':c<r:=by omega
        have HCC:zhi d ((q:Int),r,c,u)=false:=by rw [zct];simp [h1,h2,h3]
        have HC:Hid (zak ts=3):=bad3 HCC
        clear HCC good0 bad3
        go_wp2_with (first|(go_at_call 48;refine (zds hpar _).mono ?_;rintro e w2 ⟨rfl,rfl⟩))
        go_quiet (first|(go_at_call 144;exact Calls.quiet_of_same (zb8 h1 _))|(go_at_call 144;exact Calls.quiet_of_same (zb8 h2 _)))
        go_wp2
        go_ret
        exact ⟨zfg HC.out.symm,zam (by go_grown) _⟩
  ·have e:k=ts.length:=by omega
   subst e
   have HS:Hid (Sound ts):=zmv HF.out
   have hq:Quad w.heap.size wr a ts:=h.mono hbw
   go_wp2
   go_loop [6] (fun i=>∃k:Nat,i=.int .i64 k∧k≤ts.length∧Hid (zda ts k=false)) (fun i=>ts.length-(intOf i).toNat)
   case atStart=>exact ⟨0,rfl,by omega,rfl⟩
   case round =>
    obtain ⟨k,rfl,hk,HO⟩:=hrel
    by_cases hlt:k<ts.length
    ·obtain ⟨b,off,rfl,hb,c0,c1,c2,c3⟩:=hq.at (Below.refl _ _) k hlt
     have hlt':(k:Int)<(ts.length:Int):=by omega
     have hln:(ts.length:Int)≤30:=by omega
     go_wp2
     go_loop [7,8] (fun s i=>∃(m:Nat) (v:Int),i=.int .i64 m∧k+1≤m∧m≤ts.length∧s=.int .i64 v∧Hid (v=zd3 ts (k:Int) m)) (fun _ i=>ts.length-(intOf i).toNat)
     case atStart=>exact ⟨k+1,0,by go_num,by omega,by omega,rfl,(HS.out.none k (k+1) (by omega)).symm⟩
     case round =>
      obtain ⟨m,v,rfl,hm0,hm,rfl,HV⟩:=hrel
      have hv:=HS.out.kids (k:Int) m
      rw [←HV.out] at hv
      have hv0:=hv.1
      have hv1:v≤30000000000000:=by omega
      clear hv
      by_cases hlm:m<ts.length
      ·obtain ⟨e0,e1,e2,e3⟩:=hq.cells (Below.refl _ _) m hlm
       have hlm':(m:Int)<(ts.length:Int):=by omega
       have hr:=HS.out.rate m hlm
       obtain ⟨x,hx⟩:∃x,ts[m]=x:=⟨_,rfl⟩
       rw [hx] at e0 e1 e2 e3 hr
       obtain ⟨p,r,c,u⟩:=x
       have HX:Hid (ts[m]=(p,r,c,u)):=hx
       clear hx
       simp only at e0 e1 e2 e3 hr
       have hr0:=hr.1
       have hr1:=hr.2
       clear hr
       by_cases hp:p=(k:Int)
       ·have HN:Hid (v+r=zd3 ts (k:Int) (m+1)):=by
         show v+r=zd3 ts (k:Int) m+zg5 ts (k:Int) m
         rw [zkl hlm (by rw [HX.out];exact hp),HX.out,←HV.out]
        subst hp
        go_wp2
        go_round
        case rel=>exact ⟨m+1,v+r,by go_num,by omega,by omega,rfl,HN⟩
        case measure=>simp [intOf]<;>omega
       ·have HN:Hid (v=zd3 ts (k:Int) (m+1)):=by
         show v=zd3 ts (k:Int) m+zg5 ts (k:Int) m
         rw [zj0 hlm (by rw [HX.out];exact hp),←HV.out,Int.add_zero]
        have hp':(p == (k:Int))=false:=by simp [hp]
        go_wp2
        go_round
        case rel=>exact ⟨m+1,v,by go_num,by omega,by omega,rfl,HN⟩
        case measure=>simp [intOf]<;>omega
      ·have e:m=ts.length:=by omega
       subst e
       have hrk:=zoa hlt
       obtain ⟨r,hr⟩:∃r,ts[k].2.1=r:=⟨_,rfl⟩
       rw [hr] at c1 hrk
       clear hr
       by_cases ho:r<v
       ·have HC:Hid (zak ts=4):=zr5 HL.out HF.out (zu8 hlt (by rw [hrk,←HV.out];exact ho))
        clear hrk
        go_wp2
        go_ret
        exact ⟨zfg HC.out.symm,hbw⟩
       ·have HN:Hid (zda ts (k+1)=false):=zod HO.out (by rw [hrk,←HV.out];exact ho)
        have ho':decide (r<v)=false:=decide_eq_false ho
        clear hrk
        go_wp2
        go_round
        case rel=>exact ⟨k+1,by go_num,by omega,HN⟩
        case measure=>simp [intOf]<;>omega
    ·have e:k=ts.length:=by omega
     subst e
     have HC:Hid (zak ts=0):=zoe HL.out HF.out HO.out
     go_wp2
     go_ret
     exact ⟨zfg HC.out.symm,hbw⟩
def zr7 (w:World) (xs:List Int) (e:Ending) (w':World):Prop:=∃a n c,e=.returned (.slice a n c)∧IV w' w.heap.size (.slice a n c) xs∧Below w.heap.size w w'
theorem zhz {w wr w':World} {o:Obj} {row:Option Nat} (hb:Below w.heap.size w wr) (hg:(wr.alloc o).grownBy w' row) (hr:∀g,row=some g→w.heap.size≤g):Below w.heap.size w w' :=
 (hb.alloc hb.size o).grown hg (Nat.le_trans hb.size (by simp)) hr
theorem zyy (w:World) (lo:Nat) (t:TypeId) (h:lo≤w.heap.size):IV (w.alloc (.cells #[] t)) lo (.slice (some ⟨w.heap.size,0,none⟩) 0 0) [] :=
 .inl ⟨_,_,rfl,h,by simp,⟨fun j hj=>(by cases hj),fun j hj=>(by cases hj)⟩,Nat.le_refl _⟩
theorem ze5 {w:World} {a:Option Addr} (cap:Nat) {ts:List Q4} (i:Int) (h:Quad w.heap.size w a ts) (hw:zms ts) (hl:ts.length≤30) (i0:-1≤i) (i1:i<ts.length) :
 Calls Tryz.prog 196 #[.slice a ts.length cap,.int .i64 i] w (zr7 w (zan ts i)):=by
 obtain ⟨j0,hj,jz0,jz1,jz2⟩:=info_parts zgu
 have HW:Hid (zms ts):=hw
 clear hw
 have hln:(ts.length:Int)≤30:=by omega
 obtain ⟨P,hP⟩:∃P,zan ts i=P:=⟨_,rfl⟩
 have HP:Hid (zan ts i=P):=hP
 have HPL:Hid (P.length≤30):=by rw [←hP];exact Nat.le_trans (zf1 i1) hl
 rw [hP]
 clear hP
 go_enter Tryz.func196,Tryz.ntmps196
 go_wp2
 go_loopw [1,5] (fun s v wr=>∃(c:Int) (out:List Int),s=.int .i64 c∧-1≤c∧c<ts.length∧Hid (P=out ++ zan ts c)∧wr.ownsRow w.heap.size 2 1 v out.length (za6 out)∧Below w.heap.size w wr) (fun s _ _=>(intOf s+1).toNat)
 case atStart=>exact ⟨i,[],rfl,i0,i1,HP.out.symm,zd0 w w.heap.size _ rfl (Nat.le_refl _) _,by go_grown⟩
 case round =>
  obtain ⟨c,out,rfl,hc0,hc1,HO,hown,hbw⟩:=hrel
  have zb:=hbw.size
  by_cases hc:0≤c
  ·obtain ⟨k,rfl⟩:∃k:Nat,c=k:=⟨c.toNat,by omega⟩
   have hlt:k<ts.length:=by omega
   have HL:Hid (out.length≤30):=by
    have h1:=HPL.out
    rw [HO.out,List.length_append] at h1
    show out.length≤30
    omega
   have hst:=zkk HW.out hc hc1
   have hpar:=zgm HW.out hc hc1
   rw [zn7 hlt] at hst hpar
   obtain ⟨p,hp⟩:∃p,ts[k].1=p:=⟨_,rfl⟩
   have HX:Hid (ts[k].1=p):=hp
   rw [hp] at hst hpar
   clear hp
   have HN:Hid (P=(out ++ [(k:Int)]) ++ zan ts p):=by
    have h1:=HO.out
    rw [hst] at h1
    show P=_
    rw [h1,List.append_assoc]
    rfl
   clear hst
   have hp0:=hpar.1
   have hp1:=hpar.2
   clear hpar
   obtain ⟨b,off,rfl,hb,_⟩:=h.at hbw k hlt
   go_wp2_with (first
    | (at_builtin;refine wpList_append_own _ rfl _ _ 45 rfl w.heap.size 2 j0 _ 1 8 Tryz.underlying45 hj jz0 jz1 jz2 rfl (by decide) _ _ _ rfl (hown.alloc _) ⟨wr.heap.size,0,none⟩ 1 1 [.int .i64 (k:Int)] rfl rfl ?c1 ?c2 ?c3 ?c4 ?c5 ?c6;rotate_left 5;intro v' w' hown' hgr hnil;have hb2:=zhz hbw hgr (fun g hg=>(hown.lt g hg).1);have cc:=(h.cells hb2 k hlt).1;rw [HX.out] at cc))
   case c1=>exact zeg (by go_simp)
   case c2=>exact zdf [(k:Int)]
   case c3=>have:=HL.out;unfold maxLen;omega
   case c4=>have:=HL.out;omega
   case c5=>simp;omega
   go_roundw
   case rel=>exact ⟨p,out ++ [(k:Int)],rfl,hp0,by omega,HN,by rw [zbs,List.length_append];exact hown',hb2⟩
   case measure=>simp [intOf];omega
  ·have hc':decide (0≤c)=false:=decide_eq_false hc
   have HE:Hid (P=out):=by
    have h1:=HO.out
    rw [zmt (by omega),List.append_nil] at h1
    exact h1
   obtain ⟨av,cv,rfl⟩:=zay hown
   have hiv:=zc8 hown
   go_wp2
   go_ret
   exact ⟨_,_,_,rfl,by rw [HE.out];exact hiv,hbw⟩
theorem zlo {w:World} {a:Option Addr} (cap:Nat) {ts:List Q4} (h:Quad w.heap.size w a ts) (hm:ts.length≤1048576) :
 Calls Tryz.prog 39 #[.slice a ts.length cap] w (zr7 w (zbg ts)):=by
 obtain ⟨j0,hj,jz0,jz1,jz2⟩:=info_parts zgu
 by_cases hc:zak ts=0
 ·have hl:=(zf2 hc).l1
  have hln:(ts.length:Int)≤30:=by omega
  have HP:Hid (zbg ts=zca ts ts.length):=by show (if zak ts=0 then _ else _)=_;rw [if_pos hc]
  rw [HP.out]
  go_enter Tryz.func39,Tryz.ntmps39
  go_wp2
  go_loopw [3,4] (fun v i wr=>∃k:Nat,i=.int .i64 k∧k≤ts.length∧wr.ownsRow w.heap.size 2 1 v (zca ts k).length (za6 (zca ts k))∧Below w.heap.size w wr) (fun _ i _=>ts.length-(intOf i).toNat)
  case atStart=>exact ⟨0,rfl,by omega,zd0 w w.heap.size _ rfl (Nat.le_refl _) _,by go_grown⟩
  case round =>
   obtain ⟨k,rfl,hk,hown,hbw⟩:=hrel
   have zb:=hbw.size
   by_cases hlt:k<ts.length
   ·have hlt':(k:Int)<(ts.length:Int):=by omega
    have HL:Hid ((zca ts k).length≤30):=Nat.le_trans (zhy ts k) (by omega)
    cases hf:zc9 ts (k:Int)
    ·have HN:Hid (zca ts (k+1)=zca ts k):=zof hf
     go_wp2_with (first
      | (go_at_call 93;refine (zdb cap ((h.mono hbw).up zb)).mono ?_;rintro e w2 ⟨rfl,hb2⟩;rw [hc];have hbw2:=hbw.trans (hb2.mono zb);have hown2:=za1 hown hb2)
      | (go_at_call 50;refine (zgl cap (k:Int) ((h.mono hbw2).up hbw2.size) hm).mono ?_;rintro e w3 ⟨rfl,rfl⟩;rw [hf]))
     go_roundw
     case rel=>exact ⟨k+1,by go_num,by omega,by rw [HN.out];exact hown2,hbw2⟩
     case measure=>simp [intOf]<;>omega
    ·have HN:Hid (zca ts (k+1)=zca ts k ++ [(k:Int)]):=zig hf
     go_wp2_with (first
      | (go_at_call 93;refine (zdb cap ((h.mono hbw).up zb)).mono ?_;rintro e w2 ⟨rfl,hb2⟩;rw [hc];have hbw2:=hbw.trans (hb2.mono zb);have hown2:=za1 hown hb2;have zb2:=hbw2.size)
      | (go_at_call 50;refine (zgl cap (k:Int) ((h.mono hbw2).up hbw2.size) hm).mono ?_;rintro e w3 ⟨rfl,rfl⟩;rw [hf])
      | (at_builtin;refine wpList_append_own _ rfl _ _ 45 rfl w.heap.size 2 j0 _ 1 8 Tryz.underlying45 hj jz0 jz1 jz2 rfl (by decide) _ _ _ rfl (hown2.alloc _) ⟨w3.heap.size,0,none⟩ 1 1 [.int .i64 (k:Int)] rfl rfl ?c1 ?c2 ?c3 ?c4 ?c5 ?c6;rotate_left 5;intro v' w' hown' hgr hnil;have hb4:=zhz hbw2 hgr (fun g hg=>(hown2.lt g hg).1)))
     case c1=>exact zeg (by go_simp)
     case c2=>exact zdf [(k:Int)]
     case c3=>have:=HL.out;unfold maxLen;omega
     case c4=>have:=HL.out;omega
     case c5=>simp;omega
     go_roundw
     case rel=>exact ⟨k+1,by go_num,by omega,by rw [HN.out,zbs,List.length_append];exact hown',hb4⟩
     case measure=>simp [intOf]<;>omega
   ·have e:k=ts.length:=by omega
    subst e
    obtain ⟨av,cv,rfl⟩:=zay hown
    have hiv:=zc8 hown
    go_wp2
    go_ret
    exact ⟨_,_,_,rfl,hiv,hbw⟩
 ·have HP:Hid (zbg ts=[]):=by show (if zak ts=0 then _ else _)=_;rw [if_neg hc]
  rw [HP.out]
  have hc':(zak ts == 0)=false:=by simp [hc]
  by_cases h0:ts.length=0
  ·obtain rfl:ts=[]:=List.eq_nil_of_length_eq_zero h0
   rw [List.length_nil]
   clear h0
   go_enter Tryz.func39,Tryz.ntmps39
   go_wp2
   refine wp_loop_rounds 1 ?_
   rw [rounds_succ]
   go_wp2
   go_ret
   exact ⟨_,_,_,rfl,zyy w _ _ (Nat.le_refl _),by go_grown⟩
  ·have h0':(0:Int)<(ts.length:Int):=by omega
   go_enter Tryz.func39,Tryz.ntmps39
   go_wp2
   refine wp_loop_rounds 1 ?_
   rw [rounds_succ]
   have hn:=zyy w w.heap.size 2 (Nat.le_refl _)
   have hbn:Below w.heap.size w (w.alloc (.cells #[] 2)):=by go_grown
   go_wp2_with (first
    | (go_at_call 93;refine (zdb cap (h.here hbn)).mono ?_;rintro e w2 ⟨rfl,hb2⟩))
   go_ret
   exact ⟨_,_,_,rfl,hn.next hb2,hbn.trans (hb2.mono hbn.size)⟩
theorem zg0 {ts:List Q4} (hw:zms ts):∀(n:Nat) (i:Int),i<ts.length→i+1≤n→∀x ∈ zan ts i,0≤x∧x≤i
 | n,i,h1,h2,x,hx=>by
  by_cases h0:0≤i
  ·cases n with
   | zero=>omega
   | succ n =>
    have hp:=zgm hw h0 h1
    rw [zkk hw h0 h1] at hx
    rcases List.mem_cons.1 hx with rfl|hx
    ·omega
    ·have:=zg0 hw n (zc2 ts i) (by omega) (by omega) x hx
     omega
  ·rw [zmt (by omega)] at hx
   cases hx
theorem zmc {ts:List Q4} (hw:zms ts):∀(n:Nat) (i:Int),i<ts.length→i+1≤n→(zan ts i).Nodup
 | n,i,h1,h2=>by
  by_cases h0:0≤i
  ·cases n with
   | zero=>omega
   | succ n =>
    have hp:=zgm hw h0 h1
    rw [zkk hw h0 h1]
    refine List.nodup_cons.2 ⟨fun hx=>?_,zmc hw n (zc2 ts i) (by omega) (by omega)⟩
    have:=zg0 hw n (zc2 ts i) (by omega) (by omega) i hx
    omega
  ·rw [zmt (by omega)]
   exact List.nodup_nil
end Go.Proofs.YthiojkjcmhojoaaGreat
