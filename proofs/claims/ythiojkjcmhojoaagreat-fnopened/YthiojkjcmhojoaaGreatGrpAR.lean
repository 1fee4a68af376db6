import Derived.Test.YthiojkjcmhojoaaGreatGrpAQ
import Derived.Laws.AppendOwnNone
import Derived.Test.YthiojkjcmhojoaaGreatGrpAE
import Derived.Test.YthiojkjcmhojoaaGreatGrpAG
namespace Go.Proofs.YthiojkjcmhojoaaGreat
set_option maxHeartbeats 8000000
open Go.ChangeShapes Go.WideShapes Go.ChangeAt Go.RowKit
set_option maxRecDepth 100000
set_option linter.unusedVariables false
set_option linter.unusedSimpArgs false
def parentOf (ts:List Q4) (i:Int):Int:=match ts[i.toNat]? with|some t=>t.1|none=>-1
def pathF (ts:List Q4):Nat→Int→List Int
 | 0,_=>[]
 | f+1,i=>if i<0 then [] else i :: pathF ts f (parentOf ts i)
def pathOf (ts:List Q4) (i:Int):List Int:=pathF ts (i+1).toNat i
def PWell (ts:List Q4):Prop:=∀k (hk:k<ts.length),-1≤ts[k].1∧ts[k].1<k
theorem parent_at {ts:List Q4} {k:Nat} (hk:k<ts.length):parentOf ts k=ts[k].1:=by
 unfold parentOf
 rw [Int.toNat_natCast,List.getElem?_eq_getElem hk]
theorem parent_in {ts:List Q4} (h:PWell ts) {i:Int} (h0:0≤i) (h1:i<ts.length):-1≤parentOf ts i∧parentOf ts i<i:=by
 obtain ⟨k,rfl⟩:∃k:Nat,i=k:=⟨i.toNat,by omega⟩
 rw [parent_at (by omega)]
 exact h k (by omega)
theorem pathF_length (ts:List Q4):∀f i,(pathF ts f i).length≤f
 | 0,_=>Nat.le_refl _
 | f+1,i=>by
  unfold pathF
  by_cases h:i<0
  ·rw [if_pos h];exact Nat.zero_le _
  ·rw [if_neg h,List.length_cons]
   exact Nat.succ_le_succ (pathF_length ts f _)
theorem pathF_more {ts:List Q4} (h:PWell ts):∀(f f':Nat) (i:Int),i<ts.length→i+1≤f→i+1≤f'→pathF ts f i=pathF ts f' i
 | 0,f',i,h1,h2,h3=>by
  cases f' with
  | zero=>rfl
  | succ f'=>unfold pathF;rw [if_pos (by omega)]
 | f+1,f',i,h1,h2,h3=>by
  cases f' with
  | zero=>unfold pathF;rw [if_pos (by omega)]
  | succ f' =>
   unfold pathF
   by_cases k:i<0
   ·rw [if_pos k,if_pos k]
   ·rw [if_neg k,if_neg k]
    have hp:=parent_in h (by omega) h1
    rw [pathF_more h f f' (parentOf ts i) (by omega) (by omega) (by omega)]
theorem path_end {ts:List Q4} {i:Int} (h:i<0):pathOf ts i=[]:=by
 unfold pathOf
 rw [show (i+1).toNat=0 by omega]
 rfl
theorem path_step {ts:List Q4} (h:PWell ts) {i:Int} (h0:0≤i) (h1:i<ts.length):pathOf ts i=i :: pathOf ts (parentOf ts i):=by
 have hp:=parent_in h h0 h1
 unfold pathOf
 rw [show (i+1).toNat=i.toNat+1 by omega]
 show (if i<0 then [] else i :: pathF ts i.toNat (parentOf ts i))=_
 rw [if_neg (by omega),pathF_more h i.toNat (parentOf ts i+1).toNat (parentOf ts i) (by omega) (by omega) (by omega)]
theorem path_length {ts:List Q4} {i:Int} (h1:i<ts.length):(pathOf ts i).length≤ts.length:=Nat.le_trans (pathF_length ts _ _) (by omega)
def burB (x:Int):Bool:=decide (1500≤x) && decide (x≤1000000000)
def rateOf (ts:List Q4) (k:Nat):Int:=match ts[k]? with|some t=>t.2.1|none=>0
def ceilOf (ts:List Q4) (k:Nat):Int:=match ts[k]? with|some t=>t.2.2.1|none=>0
def parB (k:Nat) (p:Int):Bool:=if k=0 then decide (p = -1) else decide (0≤p) && decide (p≤(k:Int)-1)
def ceilUp (ts:List Q4) (k:Nat) (p:Int):Int:=if k=0 then 1000000000000 else ceilOf ts p.toNat
def clsB (hi:Int) (t:Q4):Bool:=(((rateB t.2.1 && rateB t.2.2.1) && decide (t.2.1≤t.2.2.1)) && decide (t.2.2.1≤hi)) && burB t.2.2.2
def codeT (ts:List Q4) (k:Nat) (t:Q4):Int:=if parB k t.1=true then (if clsB (ceilUp ts k t.1) t=true then 0 else 3) else 2
def codeAt (ts:List Q4) (k:Nat):Int:=match ts[k]? with|some t=>codeT ts k t|none=>0
def firstC (ts:List Q4):Nat→Int
 | 0=>0
 | k+1=>if firstC ts k=0 then codeAt ts k else firstC ts k
def kidAt (ts:List Q4) (i:Int) (k:Nat):Int:=match ts[k]? with|some t=>if t.1=i then t.2.1 else 0|none=>0
def kidTo (ts:List Q4) (i:Int):Nat→Int
 | 0=>0
 | k+1=>kidTo ts i k+kidAt ts i k
def overTo (ts:List Q4):Nat→Bool
 | 0=>false
 | k+1=>overTo ts k || decide (rateOf ts k<kidTo ts (k:Int) ts.length)
def lenB (ts:List Q4):Bool:=decide (1≤ts.length) && decide (ts.length≤30)
def treeCode (ts:List Q4):Int:=if lenB ts=true then (if firstC ts ts.length=0 then (if overTo ts ts.length=true then 4 else 0) else firstC ts ts.length) else 1
theorem codeAt_at {ts:List Q4} {k:Nat} (hk:k<ts.length):codeAt ts k=codeT ts k ts[k]:=by unfold codeAt;rw [List.getElem?_eq_getElem hk]
theorem rateOf_at {ts:List Q4} {k:Nat} (hk:k<ts.length):rateOf ts k=ts[k].2.1:=by unfold rateOf;rw [List.getElem?_eq_getElem hk]
theorem ceilOf_at {ts:List Q4} {k:Nat} (hk:k<ts.length):ceilOf ts k=ts[k].2.2.1:=by unfold ceilOf;rw [List.getElem?_eq_getElem hk]
theorem kidAt_yes {ts:List Q4} {i:Int} {k:Nat} (hk:k<ts.length) (h:ts[k].1=i):kidAt ts i k=ts[k].2.1:=by unfold kidAt;rw [List.getElem?_eq_getElem hk];simp [h]
theorem kidAt_no {ts:List Q4} {i:Int} {k:Nat} (hk:k<ts.length) (h:ts[k].1≠i):kidAt ts i k=0:=by unfold kidAt;rw [List.getElem?_eq_getElem hk];simp [h]
theorem first_stays {ts:List Q4} {k:Nat} (h:firstC ts k≠0):∀d,firstC ts (k+d)=firstC ts k
 | 0=>rfl
 | d+1=>by
  show (if firstC ts (k+d)=0 then _ else firstC ts (k+d))=_
  rw [first_stays h d,if_neg h]
theorem first_next {ts:List Q4} {k:Nat} (h:firstC ts k=0):firstC ts (k+1)=codeAt ts k:=if_pos h
theorem first_bad {ts:List Q4} {k:Nat} (hk:k<ts.length) (h:firstC ts k=0) (hc:codeT ts k ts[k]≠0):firstC ts ts.length=codeT ts k ts[k]:=by
 have e:firstC ts (k+1)=codeT ts k ts[k]:=by rw [first_next h,codeAt_at hk]
 have s:=first_stays (ts:=ts) (k:=k+1) (by rw [e];exact hc) (ts.length-(k+1))
 rw [show k+1+(ts.length-(k+1))=ts.length by omega] at s
 rw [s,e]
theorem code_bad {ts:List Q4} {k:Nat} (hl:lenB ts=true) (hk:k<ts.length) (h:firstC ts k=0) (hc:codeT ts k ts[k]≠0):treeCode ts=codeT ts k ts[k]:=by
 have e:=first_bad hk h hc
 unfold treeCode
 rw [if_pos hl,if_neg (by rw [e];exact hc),e]
theorem code_len {ts:List Q4} (hl:lenB ts=false):treeCode ts=1:=by unfold treeCode;rw [hl];rfl
theorem code_par {ts:List Q4} {k:Nat} {t:Q4} (h:parB k t.1=false):codeT ts k t=2:=by unfold codeT;rw [h];rfl
theorem code_cls {ts:List Q4} {k:Nat} {t:Q4} (h:parB k t.1=true) (h2:clsB (ceilUp ts k t.1) t=false):codeT ts k t=3:=by unfold codeT;rw [h,h2];rfl
theorem code_ok {ts:List Q4} {k:Nat} {t:Q4} (h:parB k t.1=true) (h2:clsB (ceilUp ts k t.1) t=true):codeT ts k t=0:=by unfold codeT;rw [h,h2];rfl
theorem codeT_zero {ts:List Q4} {k:Nat} {t:Q4} (h:codeT ts k t=0):parB k t.1=true∧clsB (ceilUp ts k t.1) t=true:=by
 unfold codeT at h
 by_cases h1:parB k t.1=true
 ·rw [if_pos h1] at h
  by_cases h2:clsB (ceilUp ts k t.1) t=true
  ·exact ⟨h1,h2⟩
  ·rw [if_neg h2] at h;cases h
 ·rw [if_neg h1] at h;cases h
theorem first_all {ts:List Q4}:∀{n:Nat},firstC ts n=0→∀k,k<n→codeAt ts k=0
 | 0,_,k,hk=>by cases hk
 | n+1,h,k,hk=>by
  have h0:firstC ts n=0:=by
   by_cases e:firstC ts n=0
   ·exact e
   ·have:firstC ts (n+1)=firstC ts n:=if_neg e
    rw [this] at h;exact h
  rw [first_next h0] at h
  by_cases e:k=n
  ·subst e;exact h
  ·exact first_all h0 k (by omega)
structure Sound (ts:List Q4):Prop where
 par:∀k (hk:k<ts.length),parB k ts[k].1=true
 cls:∀k (hk:k<ts.length),clsB (ceilUp ts k ts[k].1) ts[k]=true
theorem sound_of {ts:List Q4} (h:firstC ts ts.length=0):Sound ts :=
 ⟨fun k hk=>(codeT_zero (by rw [←codeAt_at hk];exact first_all h k hk)).1,fun k hk=>(codeT_zero (by rw [←codeAt_at hk];exact first_all h k hk)).2⟩
theorem par_num {k:Nat} {p:Int} (h:parB k p=true):-1≤p∧p<k:=by
 unfold parB at h
 by_cases e:k=0
 ·rw [if_pos e] at h
  have:=of_decide_eq_true h
  omega
 ·rw [if_neg e,Bool.and_eq_true] at h
  have h1:=of_decide_eq_true h.1
  have h2:=of_decide_eq_true h.2
  omega
theorem rate_numT {x:Int} (h:rateB x=true):0≤x∧x≤1000000000000:=by simpa [rateB] using h
theorem cls_rate {hi:Int} {t:Q4} (h:clsB hi t=true):0≤t.2.1∧t.2.1≤1000000000000:=by
 unfold clsB at h
 rw [Bool.and_eq_true,Bool.and_eq_true,Bool.and_eq_true,Bool.and_eq_true] at h
 exact rate_numT h.1.1.1.1
theorem Sound.well {ts:List Q4} (h:Sound ts):PWell ts:=fun k hk=>par_num (h.par k hk)
theorem Sound.rate {ts:List Q4} (h:Sound ts) (k:Nat) (hk:k<ts.length):0≤ts[k].2.1∧ts[k].2.1≤1000000000000:=cls_rate (h.cls k hk)
theorem Sound.kid {ts:List Q4} (h:Sound ts) (i:Int) (k:Nat):0≤kidAt ts i k∧kidAt ts i k≤1000000000000:=by
 by_cases hk:k<ts.length
 ·by_cases e:ts[k].1=i
  ·rw [kidAt_yes hk e];exact h.rate k hk
  ·rw [kidAt_no hk e];omega
 ·unfold kidAt
  rw [List.getElem?_eq_none (by omega)]
  simp
theorem Sound.kids {ts:List Q4} (h:Sound ts) (i:Int):∀k,0≤kidTo ts i k∧kidTo ts i k≤1000000000000*(k:Int)
 | 0=>by simp [kidTo]
 | k+1=>by
  have h1:=h.kids i k
  have h2:=h.kid i k
  show 0≤kidTo ts i k+kidAt ts i k∧kidTo ts i k+kidAt ts i k≤1000000000000*((k+1:Nat):Int)
  omega
theorem Sound.none {ts:List Q4} (h:Sound ts) (i:Nat):∀k,k≤i+1→kidTo ts (i:Int) k=0
 | 0,_=>rfl
 | k+1,hk=>by
  show kidTo ts (i:Int) k+kidAt ts (i:Int) k=0
  rw [h.none i k (by omega)]
  by_cases hl:k<ts.length
  ·have:=(h.well k hl).2
   rw [kidAt_no hl (by omega)]
   rfl
  ·unfold kidAt
   rw [List.getElem?_eq_none (by omega)]
   rfl
theorem over_stays {ts:List Q4} {k:Nat} (h:overTo ts k=true):∀d,overTo ts (k+d)=true
 | 0=>h
 | d+1=>by
  show (overTo ts (k+d) || _)=true
  rw [over_stays h d]
  rfl
theorem over_at {ts:List Q4} {k:Nat} (hk:k<ts.length) (h:rateOf ts k<kidTo ts (k:Int) ts.length):overTo ts ts.length=true:=by
 have e:overTo ts (k+1)=true:=by
  show (overTo ts k || decide _)=true
  rw [decide_eq_true h,Bool.or_true]
 have s:=over_stays e (ts.length-(k+1))
 rw [show k+1+(ts.length-(k+1))=ts.length by omega] at s
 exact s
theorem over_next {ts:List Q4} {k:Nat} (h0:overTo ts k=false) (h:¬rateOf ts k<kidTo ts (k:Int) ts.length):overTo ts (k+1)=false:=by
 show (overTo ts k || decide _)=false
 rw [h0,decide_eq_false h]
 rfl
theorem over_all {ts:List Q4}:∀{n:Nat},overTo ts n=false→∀k,k<n→kidTo ts (k:Int) ts.length≤rateOf ts k
 | 0,_,k,hk=>by cases hk
 | n+1,h,k,hk=>by
  have h':(overTo ts n || decide (rateOf ts n<kidTo ts (n:Int) ts.length))=false:=h
  rw [Bool.or_eq_false_iff] at h'
  by_cases e:k=n
  ·subst e
   have:=of_decide_eq_false h'.2
   omega
  ·exact over_all h'.1 k (by omega)
theorem code_sum {ts:List Q4} (hl:lenB ts=true) (h:firstC ts ts.length=0) (ho:overTo ts ts.length=true):treeCode ts=4:=by unfold treeCode;rw [if_pos hl,if_pos h,if_pos ho]
theorem code_zero {ts:List Q4} (hl:lenB ts=true) (h:firstC ts ts.length=0) (ho:overTo ts ts.length=false):treeCode ts=0:=by unfold treeCode;rw [if_pos hl,if_pos h,ho];rfl
structure IsTree (ts:List Q4):Prop where
 l0:1≤ts.length
 l1:ts.length≤30
 sound:Sound ts
 sum:∀k,k<ts.length→kidTo ts (k:Int) ts.length≤rateOf ts k
theorem tree_of {ts:List Q4} (h:treeCode ts=0):IsTree ts:=by
 unfold treeCode at h
 by_cases hl:lenB ts=true
 ·rw [if_pos hl] at h
  by_cases hf:firstC ts ts.length=0
  ·rw [if_pos hf] at h
   by_cases ho:overTo ts ts.length=true
   ·rw [if_pos ho] at h;cases h
   ·unfold lenB at hl
    rw [Bool.and_eq_true] at hl
    exact ⟨of_decide_eq_true hl.1,of_decide_eq_true hl.2,sound_of hf,over_all (by simpa using ho)⟩
  ·rw [if_neg hf] at h
   exact absurd h hf
 ·rw [if_neg hl] at h;cases h
def leavesTo (ts:List Q4) (k:Nat):List Int:=((List.range k).filter fun (j:Nat)=>leafB ts (j:Int)).map fun (j:Nat)=>(j:Int)
def leavesOf (ts:List Q4):List Int:=if treeCode ts=0 then leavesTo ts ts.length else []
theorem leaves_yes {ts:List Q4} {k:Nat} (h:leafB ts (k:Int)=true):leavesTo ts (k+1)=leavesTo ts k ++ [(k:Int)]:=by
 unfold leavesTo
 rw [List.range_succ,List.filter_append,List.map_append]
 simp [h]
theorem leaves_no {ts:List Q4} {k:Nat} (h:leafB ts (k:Int)=false):leavesTo ts (k+1)=leavesTo ts k:=by
 unfold leavesTo
 rw [List.range_succ,List.filter_append,List.map_append]
 simp [h]
theorem leaves_length (ts:List Q4) (k:Nat):(leavesTo ts k).length≤k:=by
 unfold leavesTo
 rw [List.length_map]
 exact Nat.le_trans (List.length_filter_le _ _) (by simp)
theorem leavesOf_length (ts:List Q4):(leavesOf ts).length≤30:=by
 unfold leavesOf
 by_cases h:treeCode ts=0
 ·rw [if_pos h]
  exact Nat.le_trans (leaves_length ts _) (tree_of h).l1
 ·rw [if_neg h]
  exact Nat.zero_le _
theorem ret_i {f g:Int} (h:f=g):Ending.returned (.int .i64 f)=.returned (.int .i64 g):=by rw [h]
theorem sRate_is {x:Int} {f:Bool} (h:rateB x=f) (w:World):Calls Tryz.prog 144 #[.int .i64 x] w fun e w'=>e=.returned (.bool f)∧w'=w:=by subst h;exact rate_any x w
theorem sIn_is {lo x hi:Int} {f:Bool} (h:(decide (lo≤x) && decide (x≤hi))=f) (w:World):Calls Tryz.prog 48 #[.int .i64 x,.int .i64 lo,.int .i64 hi] w fun e w'=>e=.returned (.bool f)∧w'=w:=by subst h;exact in_any lo x hi w
theorem cls_parts {hi r c u:Int} {p:Int}:clsB hi (p,r,c,u)=((((rateB r && rateB c) && decide (r≤c)) && decide (c≤hi)) && burB u):=rfl
theorem par_zero {p:Int}:parB 0 p=decide (p = -1):=rfl
theorem par_more {k:Nat} {p:Int} (h:k≠0):parB k p=(decide (0≤p) && decide (p≤(k:Int)-1)):=if_neg h
theorem up_zero {ts:List Q4} {p:Int}:ceilUp ts 0 p=1000000000000:=rfl
theorem up_more {ts:List Q4} {k q:Nat} {p:Int} (h:k≠0) (hp:p=q):ceilUp ts k p=ceilOf ts q:=by subst hp;exact if_neg h
theorem len_num {ts:List Q4} (h:lenB ts=true):1≤ts.length∧ts.length≤30:=by
 unfold lenB at h
 rw [Bool.and_eq_true] at h
 exact ⟨of_decide_eq_true h.1,of_decide_eq_true h.2⟩
theorem len_bad {ts:List Q4} (h:lenB ts=false):ts.length=0∨30<ts.length:=by
 unfold lenB at h
 rw [Bool.and_eq_false_iff] at h
 rcases h with h|h
 ·have:=of_decide_eq_false h;omega
 ·have:=of_decide_eq_false h;omega
theorem specTree_len {w:World} {a:Option Addr} (cap:Nat) {ts:List Q4} (hl:lenB ts=false) :
 Calls Tryz.prog 93 #[.slice a ts.length cap] w fun e w'=>e=.returned (.int .i64 (treeCode ts))∧Below w.heap.size w w':=by
 rw [code_len hl]
 rcases len_bad hl with h|h
 ·have h':(ts.length:Int)<1:=by omega
  clear hl h
  go_enter Tryz.func93,Tryz.ntmps93
  go_wp2
  go_ret
  exact ⟨rfl,by go_grown⟩
 ·have h':(30:Int)<(ts.length:Int):=by omega
  have h2:decide ((ts.length:Int)<1)=false:=decide_eq_false (by omega)
  clear hl h
  go_enter Tryz.func93,Tryz.ntmps93
  go_wp2
  go_ret
  exact ⟨rfl,by go_grown⟩
theorem specTree_any {w:World} {a:Option Addr} (cap:Nat) {ts:List Q4} (h:Quad w.heap.size w a ts) :
 Calls Tryz.prog 93 #[.slice a ts.length cap] w fun e w'=>e=.returned (.int .i64 (treeCode ts))∧Below w.heap.size w w':=by
 cases hl:lenB ts
 ·exact specTree_len cap hl
 have hn:=len_num hl
 have n0:decide ((ts.length:Int)<1)=false:=decide_eq_false (by omega)
 have n1:decide ((30:Int)<(ts.length:Int))=false:=decide_eq_false (by omega)
 have HL:Hid (lenB ts=true):=hl
 clear hl
 go_enter Tryz.func93,Tryz.ntmps93
 go_wp2
 go_loopw [4] (fun i wr=>∃k:Nat,i=.int .i64 k∧k≤ts.length∧Hid (firstC ts k=0)∧Below w.heap.size w wr) (fun i _=>ts.length-(intOf i).toNat)
 case atStart=>exact ⟨0,rfl,by omega,rfl,by go_grown⟩
 case round =>
  obtain ⟨k,rfl,hk,HF,hbw⟩:=hrel
  by_cases hlt:k<ts.length
  ·obtain ⟨b,off,rfl,hb,c0,c1,c2,c3⟩:=h.at hbw k hlt
   have hlt':(k:Int)<(ts.length:Int):=by omega
   have zb:=hbw.size
   have hbz:b<wr.heap.size:=Nat.lt_of_lt_of_le hb hbw.size
   obtain ⟨x,hx⟩:∃x,ts[k]=x:=⟨_,rfl⟩
   rw [hx] at c0 c1 c2 c3
   obtain ⟨p,r,c,u⟩:=x
   have HX:Hid (ts[k]=(p,r,c,u)):=hx
   clear hx
   simp only at c0 c1 c2 c3
   have bad2:parB k p=false→treeCode ts=2:=fun hp=>by
    have e:codeT ts k ts[k]=2:=by rw [HX.out];exact code_par hp
    rw [code_bad HL.out hlt HF.out (by rw [e];decide),e]
   by_cases hk0:k=0
   ·subst hk0
    simp only [Nat.zero_mul,Nat.add_zero] at c0 c1 c2 c3
    by_cases hp:p = -1
    ·subst hp
     clear bad2
     have bad3:clsB 1000000000000 (-1,r,c,u)=false→treeCode ts=3:=fun hp=>by
      have e:codeT ts 0 ts[0]=3:=by rw [HX.out];exact code_cls rfl hp
      rw [code_bad HL.out hlt HF.out (by rw [e];decide),e]
     have good0:clsB 1000000000000 (-1,r,c,u)=true→firstC ts 1=0:=fun hp=>by
      rw [first_next HF.out,codeAt_at hlt,HX.out]
      exact code_ok rfl hp
     cases h1:rateB r
     ·skip
      have HCC:clsB 1000000000000 (-1,r,c,u)=false:=by rw [cls_parts];simp [h1]
      have HC:Hid (treeCode ts=3):=bad3 HCC
      clear HCC good0 bad3
      go_wp2
      go_quiet (first|(go_at_call 144;exact Calls.quiet_of_same (sRate_is h1 _)))
      go_wp2
      go_ret
      exact ⟨ret_i HC.out.symm,below_drews (by go_grown) _⟩
     ·cases h2:rateB c
      ·skip
       have HCC:clsB 1000000000000 (-1,r,c,u)=false:=by rw [cls_parts];simp [h1,h2]
       have HC:Hid (treeCode ts=3):=bad3 HCC
       clear HCC good0 bad3
       go_wp2
       go_quiet (first|(go_at_call 144;exact Calls.quiet_of_same (sRate_is h1 _))|(go_at_call 144;exact Calls.quiet_of_same (sRate_is h2 _)))
       go_wp2
       go_ret
       exact ⟨ret_i HC.out.symm,below_drews (by go_grown) _⟩
      ·by_cases h3:r≤c
       ·have h3':decide (c<r)=false:=decide_eq_false (by omega)
        cases h4:(decide (1500≤u) && decide (u≤1000000000))
        ·have h4':burB u=false:=h4
         have HCC:clsB 1000000000000 (-1,r,c,u)=false:=by rw [cls_parts];simp [h1,h2,h3,h4']
         have HC:Hid (treeCode ts=3):=bad3 HCC
         clear HCC good0 bad3
         go_wp2
         go_quiet (first|(go_at_call 144;exact Calls.quiet_of_same (sRate_is h1 _))|(go_at_call 144;exact Calls.quiet_of_same (sRate_is h2 _))|(go_at_call 48;exact Calls.quiet_of_same (sIn_is h4 _)))
         go_wp2
         go_ret
         exact ⟨ret_i HC.out.symm,below_drews (by go_grown) _⟩
        ·have h4':burB u=true:=h4
         have h5:c≤1000000000000:=(rate_numT h2).2
         have HCC:clsB 1000000000000 (-1,r,c,u)=true:=by rw [cls_parts];simp [h1,h2,h3,h4',h5]
         have HN:Hid (firstC ts 1=0):=good0 HCC
         clear HCC good0 bad3
         go_wp2
         go_quiet (first|(go_at_call 144;exact Calls.quiet_of_same (sRate_is h1 _))|(go_at_call 144;exact Calls.quiet_of_same (sRate_is h2 _))|(go_at_call 48;exact Calls.quiet_of_same (sIn_is h4 _)))
         go_wp2
         go_roundw
         case rel=>exact ⟨1,by go_num,by omega,HN,below_drews (by go_grown) _⟩
         case measure=>simp [intOf]<;>omega
       ·have h3':c<r:=by omega
        have HCC:clsB 1000000000000 (-1,r,c,u)=false:=by rw [cls_parts];simp [h1,h2,h3]
        have HC:Hid (treeCode ts=3):=bad3 HCC
        clear HCC good0 bad3
        go_wp2
        go_quiet (first|(go_at_call 144;exact Calls.quiet_of_same (sRate_is h1 _))|(go_at_call 144;exact Calls.quiet_of_same (sRate_is h2 _)))
        go_wp2
        go_ret
        exact ⟨ret_i HC.out.symm,below_drews (by go_grown) _⟩
    ·have hp':(p == -1)=false:=by simp [hp]
     have HC:Hid (treeCode ts=2):=bad2 (by rw [par_zero];exact decide_eq_false hp)
     clear bad2
     go_wp2
     go_ret
     exact ⟨ret_i HC.out.symm,by go_grown⟩
   ·have k1:(0:Int)<(k:Int):=by omega
    have k2:((k:Int) == 0)=false:=by simp [hk0]
    cases hpar:(decide (0≤p) && decide (p≤(k:Int)-1))
    ·have HC:Hid (treeCode ts=2):=bad2 (by rw [par_more hk0];exact hpar)
     clear bad2
     go_wp2_with (first|(go_at_call 48;refine (sIn_is hpar _).mono ?_;rintro e w2 ⟨rfl,rfl⟩))
     go_ret
     exact ⟨ret_i HC.out.symm,by go_grown⟩
    ·have hpn:=par_num (k:=k) (p:=p) (by rw [par_more hk0];exact hpar)
     have hp0:0≤p:=by rw [Bool.and_eq_true] at hpar;exact of_decide_eq_true hpar.1
     obtain ⟨q,rfl⟩:∃q:Nat,p=q:=⟨p.toNat,by omega⟩
     have hq:q<ts.length:=by omega
     have hq':(q:Int)<(ts.length:Int):=by omega
     have hd2:=(h.cells hbw q hq).2.2.1
     obtain ⟨d,hd⟩:∃d,ts[q].2.2.1=d:=⟨_,rfl⟩
     rw [hd] at hd2
     have HD:Hid (ceilUp ts k q=d):=by
      show ceilUp ts k q=d
      rw [up_more hk0 rfl,ceilOf_at hq,hd]
     clear hd hpn bad2
     have bad3:clsB d ((q:Int),r,c,u)=false→treeCode ts=3:=fun hp=>by
      have e:codeT ts k ts[k]=3:=by rw [HX.out];exact code_cls (by rw [par_more hk0];exact hpar) (by rw [HD.out];exact hp)
      rw [code_bad HL.out hlt HF.out (by rw [e];decide),e]
     have good0:clsB d ((q:Int),r,c,u)=true→firstC ts (k+1)=0:=fun hp=>by
      rw [first_next HF.out,codeAt_at hlt,HX.out]
      exact code_ok (by rw [par_more hk0];exact hpar) (by rw [HD.out];exact hp)
     cases h1:rateB r
     ·skip
      have HCC:clsB d ((q:Int),r,c,u)=false:=by rw [cls_parts];simp [h1]
      have HC:Hid (treeCode ts=3):=bad3 HCC
      clear HCC good0 bad3
      go_wp2_with (first|(go_at_call 48;refine (sIn_is hpar _).mono ?_;rintro e w2 ⟨rfl,rfl⟩))
      go_quiet (first|(go_at_call 144;exact Calls.quiet_of_same (sRate_is h1 _)))
      go_wp2
      go_ret
      exact ⟨ret_i HC.out.symm,below_drews (by go_grown) _⟩
     ·cases h2:rateB c
      ·skip
       have HCC:clsB d ((q:Int),r,c,u)=false:=by rw [cls_parts];simp [h1,h2]
       have HC:Hid (treeCode ts=3):=bad3 HCC
       clear HCC good0 bad3
       go_wp2_with (first|(go_at_call 48;refine (sIn_is hpar _).mono ?_;rintro e w2 ⟨rfl,rfl⟩))
       go_quiet (first|(go_at_call 144;exact Calls.quiet_of_same (sRate_is h1 _))|(go_at_call 144;exact Calls.quiet_of_same (sRate_is h2 _)))
       go_wp2
       go_ret
       exact ⟨ret_i HC.out.symm,below_drews (by go_grown) _⟩
      ·by_cases h3:r≤c
       ·have h3':decide (c<r)=false:=decide_eq_false (by omega)
        cases h4:(decide (1500≤u) && decide (u≤1000000000))
        ·have h4':burB u=false:=h4
         have HCC:clsB d ((q:Int),r,c,u)=false:=by rw [cls_parts];simp [h1,h2,h3,h4']
         have HC:Hid (treeCode ts=3):=bad3 HCC
         clear HCC good0 bad3
         go_wp2_with (first|(go_at_call 48;refine (sIn_is hpar _).mono ?_;rintro e w2 ⟨rfl,rfl⟩))
         go_quiet (first|(go_at_call 144;exact Calls.quiet_of_same (sRate_is h1 _))|(go_at_call 144;exact Calls.quiet_of_same (sRate_is h2 _))|(go_at_call 48;exact Calls.quiet_of_same (sIn_is h4 _)))
         go_wp2
         go_ret
         exact ⟨ret_i HC.out.symm,below_drews (by go_grown) _⟩
        ·have h4':burB u=true:=h4
         by_cases h5:c≤d
         ·have h5':decide (d<c)=false:=decide_eq_false (by omega)
          have HCC:clsB d ((q:Int),r,c,u)=true:=by rw [cls_parts];simp [h1,h2,h3,h4',h5]
          have HN:Hid (firstC ts (k+1)=0):=good0 HCC
          clear HCC good0 bad3
          go_wp2_with (first|(go_at_call 48;refine (sIn_is hpar _).mono ?_;rintro e w2 ⟨rfl,rfl⟩))
          go_quiet (first|(go_at_call 144;exact Calls.quiet_of_same (sRate_is h1 _))|(go_at_call 144;exact Calls.quiet_of_same (sRate_is h2 _))|(go_at_call 48;exact Calls.quiet_of_same (sIn_is h4 _)))
          go_wp2
          go_roundw
          case rel=>exact ⟨k+1,by go_num,by omega,HN,below_drews (by go_grown) _⟩
          case measure=>simp [intOf]<;>omega
         ·have h5':d<c:=by omega
          have HCC:clsB d ((q:Int),r,c,u)=false:=by rw [cls_parts];simp [h1,h2,h3,h4',h5]
          have HC:Hid (treeCode ts=3):=bad3 HCC
          clear HCC good0 bad3
          go_wp2_with (first|(go_at_call 48;refine (sIn_is hpar _).mono ?_;rintro e w2 ⟨rfl,rfl⟩))
          go_quiet (first|(go_at_call 144;exact Calls.quiet_of_same (sRate_is h1 _))|(go_at_call 144;exact Calls.quiet_of_same (sRate_is h2 _))|(go_at_call 48;exact Calls.quiet_of_same (sIn_is h4 _)))
          go_wp2
          go_ret
          exact ⟨ret_i HC.out.symm,below_drews (by go_grown) _⟩
       ·have h3':c<r:=by omega
        have HCC:clsB d ((q:Int),r,c,u)=false:=by rw [cls_parts];simp [h1,h2,h3]
        have HC:Hid (treeCode ts=3):=bad3 HCC
        clear HCC good0 bad3
        go_wp2_with (first|(go_at_call 48;refine (sIn_is hpar _).mono ?_;rintro e w2 ⟨rfl,rfl⟩))
        go_quiet (first|(go_at_call 144;exact Calls.quiet_of_same (sRate_is h1 _))|(go_at_call 144;exact Calls.quiet_of_same (sRate_is h2 _)))
        go_wp2
        go_ret
        exact ⟨ret_i HC.out.symm,below_drews (by go_grown) _⟩
  ·have e:k=ts.length:=by omega
   subst e
   have HS:Hid (Sound ts):=sound_of HF.out
   have hq:Quad w.heap.size wr a ts:=h.mono hbw
   go_wp2
   go_loop [6] (fun i=>∃k:Nat,i=.int .i64 k∧k≤ts.length∧Hid (overTo ts k=false)) (fun i=>ts.length-(intOf i).toNat)
   case atStart=>exact ⟨0,rfl,by omega,rfl⟩
   case round =>
    obtain ⟨k,rfl,hk,HO⟩:=hrel
    by_cases hlt:k<ts.length
    ·obtain ⟨b,off,rfl,hb,c0,c1,c2,c3⟩:=hq.at (Below.refl _ _) k hlt
     have hlt':(k:Int)<(ts.length:Int):=by omega
     have hln:(ts.length:Int)≤30:=by omega
     go_wp2
     go_loop [7,8] (fun s i=>∃(m:Nat) (v:Int),i=.int .i64 m∧k+1≤m∧m≤ts.length∧s=.int .i64 v∧Hid (v=kidTo ts (k:Int) m)) (fun _ i=>ts.length-(intOf i).toNat)
     case atStart=>exact ⟨k+1,0,by go_num,by omega,by omega,rfl,(HS.out.none k (k+1) (by omega)).symm⟩
     case round =>
      obtain ⟨m,v,rfl,hm0,hm,rfl,HV⟩:=hrel
      have hv:=HS.out.kids (k:Int) m
      rw [←HV.out] at hv
      have hv0:=hv.1
      have hv1:v≤30000000000000:=by omega
      clear hv
      by_cases hlm:m<ts.length
      ·obtain ⟨e0,e1,e2,e3⟩:=hq.cells (Below.refl _ _) m hlm
       have hlm':(m:Int)<(ts.length:Int):=by omega
       have hr:=HS.out.rate m hlm
       obtain ⟨x,hx⟩:∃x,ts[m]=x:=⟨_,rfl⟩
       rw [hx] at e0 e1 e2 e3 hr
       obtain ⟨p,r,c,u⟩:=x
       have HX:Hid (ts[m]=(p,r,c,u)):=hx
       clear hx
       simp only at e0 e1 e2 e3 hr
       have hr0:=hr.1
       have hr1:=hr.2
       clear hr
       by_cases hp:p=(k:Int)
       ·have HN:Hid (v+r=kidTo ts (k:Int) (m+1)):=by
         show v+r=kidTo ts (k:Int) m+kidAt ts (k:Int) m
         rw [kidAt_yes hlm (by rw [HX.out];exact hp),HX.out,←HV.out]
        subst hp
        go_wp2
        go_round
        case rel=>exact ⟨m+1,v+r,by go_num,by omega,by omega,rfl,HN⟩
        case measure=>simp [intOf]<;>omega
       ·have HN:Hid (v=kidTo ts (k:Int) (m+1)):=by
         show v=kidTo ts (k:Int) m+kidAt ts (k:Int) m
         rw [kidAt_no hlm (by rw [HX.out];exact hp),←HV.out,Int.add_zero]
        have hp':(p == (k:Int))=false:=by simp [hp]
        go_wp2
        go_round
        case rel=>exact ⟨m+1,v,by go_num,by omega,by omega,rfl,HN⟩
        case measure=>simp [intOf]<;>omega
      ·have e:m=ts.length:=by omega
       subst e
       have hrk:=rateOf_at hlt
       obtain ⟨r,hr⟩:∃r,ts[k].2.1=r:=⟨_,rfl⟩
       rw [hr] at c1 hrk
       clear hr
       by_cases ho:r<v
       ·have HC:Hid (treeCode ts=4):=code_sum HL.out HF.out (over_at hlt (by rw [hrk,←HV.out];exact ho))
        clear hrk
        go_wp2
        go_ret
        exact ⟨ret_i HC.out.symm,hbw⟩
       ·have HN:Hid (overTo ts (k+1)=false):=over_next HO.out (by rw [hrk,←HV.out];exact ho)
        have ho':decide (r<v)=false:=decide_eq_false ho
        clear hrk
        go_wp2
        go_round
        case rel=>exact ⟨k+1,by go_num,by omega,HN⟩
        case measure=>simp [intOf]<;>omega
    ·have e:k=ts.length:=by omega
     subst e
     have HC:Hid (treeCode ts=0):=code_zero HL.out HF.out HO.out
     go_wp2
     go_ret
     exact ⟨ret_i HC.out.symm,hbw⟩
def ListPost (w:World) (xs:List Int) (e:Ending) (w':World):Prop:=∃a n c,e=.returned (.slice a n c)∧IV w' w.heap.size (.slice a n c) xs∧Below w.heap.size w w'
theorem below_app {w wr w':World} {o:Obj} {row:Option Nat} (hb:Below w.heap.size w wr) (hg:(wr.alloc o).grownBy w' row) (hr:∀g,row=some g→w.heap.size≤g):Below w.heap.size w w' :=
 (hb.alloc hb.size o).grown hg (Nat.le_trans hb.size (by simp)) hr
theorem iv_new (w:World) (lo:Nat) (t:TypeId) (h:lo≤w.heap.size):IV (w.alloc (.cells #[] t)) lo (.slice (some ⟨w.heap.size,0,none⟩) 0 0) [] :=
 .inl ⟨_,_,rfl,h,by simp,⟨fun j hj=>(by cases hj),fun j hj=>(by cases hj)⟩,Nat.le_refl _⟩
theorem specL6Path_any {w:World} {a:Option Addr} (cap:Nat) {ts:List Q4} (i:Int) (h:Quad w.heap.size w a ts) (hw:PWell ts) (hl:ts.length≤30) (i0:-1≤i) (i1:i<ts.length) :
 Calls Tryz.prog 196 #[.slice a ts.length cap,.int .i64 i] w (ListPost w (pathOf ts i)):=by
 obtain ⟨j0,hj,jz0,jz1,jz2⟩:=info_parts info_i64
 have HW:Hid (PWell ts):=hw
 clear hw
 have hln:(ts.length:Int)≤30:=by omega
 obtain ⟨P,hP⟩:∃P,pathOf ts i=P:=⟨_,rfl⟩
 have HP:Hid (pathOf ts i=P):=hP
 have HPL:Hid (P.length≤30):=by rw [←hP];exact Nat.le_trans (path_length i1) hl
 rw [hP]
 clear hP
 go_enter Tryz.func196,Tryz.ntmps196
 go_wp2
 go_loopw [1,5] (fun s v wr=>∃(c:Int) (out:List Int),s=.int .i64 c∧-1≤c∧c<ts.length∧Hid (P=out ++ pathOf ts c)∧wr.ownsRow w.heap.size 2 1 v out.length (flatI out)∧Below w.heap.size w wr) (fun s _ _=>(intOf s+1).toNat)
 case atStart=>exact ⟨i,[],rfl,i0,i1,HP.out.symm,own_none1 w w.heap.size _ rfl (Nat.le_refl _) _,by go_grown⟩
 case round =>
  obtain ⟨c,out,rfl,hc0,hc1,HO,hown,hbw⟩:=hrel
  have zb:=hbw.size
  by_cases hc:0≤c
  ·obtain ⟨k,rfl⟩:∃k:Nat,c=k:=⟨c.toNat,by omega⟩
   have hlt:k<ts.length:=by omega
   have HL:Hid (out.length≤30):=by
    have h1:=HPL.out
    rw [HO.out,List.length_append] at h1
    show out.length≤30
    omega
   have hst:=path_step HW.out hc hc1
   have hpar:=parent_in HW.out hc hc1
   rw [parent_at hlt] at hst hpar
   obtain ⟨p,hp⟩:∃p,ts[k].1=p:=⟨_,rfl⟩
   have HX:Hid (ts[k].1=p):=hp
   rw [hp] at hst hpar
   clear hp
   have HN:Hid (P=(out ++ [(k:Int)]) ++ pathOf ts p):=by
    have h1:=HO.out
    rw [hst] at h1
    show P=_
    rw [h1,List.append_assoc]
    rfl
   clear hst
   have hp0:=hpar.1
   have hp1:=hpar.2
   clear hpar
   obtain ⟨b,off,rfl,hb,_⟩:=h.at hbw k hlt
   go_wp2_with (first
    | (at_builtin;refine wpList_append_own _ rfl _ _ 45 rfl w.heap.size 2 j0 _ 1 8 Tryz.underlying45 hj jz0 jz1 jz2 rfl (by decide) _ _ _ rfl (hown.alloc _) ⟨wr.heap.size,0,none⟩ 1 1 [.int .i64 (k:Int)] rfl rfl ?c1 ?c2 ?c3 ?c4 ?c5 ?c6;rotate_left 5;intro v' w' hown' hgr hnil;have hb2:=below_app hbw hgr (fun g hg=>(hown.lt g hg).1);have cc:=(h.cells hb2 k hlt).1;rw [HX.out] at cc))
   case c1=>exact one_news (by go_simp)
   case c2=>exact flatI_one [(k:Int)]
   case c3=>have:=HL.out;unfold maxLen;omega
   case c4=>have:=HL.out;omega
   case c5=>simp;omega
   go_roundw
   case rel=>exact ⟨p,out ++ [(k:Int)],rfl,hp0,by omega,HN,by rw [flatI_append,List.length_append];exact hown',hb2⟩
   case measure=>simp [intOf];omega
  ·have hc':decide (0≤c)=false:=decide_eq_false hc
   have HE:Hid (P=out):=by
    have h1:=HO.out
    rw [path_end (by omega),List.append_nil] at h1
    exact h1
   obtain ⟨av,cv,rfl⟩:=own_slice hown
   have hiv:=own_ints hown
   go_wp2
   go_ret
   exact ⟨_,_,_,rfl,by rw [HE.out];exact hiv,hbw⟩
theorem specLeaves_any {w:World} {a:Option Addr} (cap:Nat) {ts:List Q4} (h:Quad w.heap.size w a ts) (hm:ts.length≤1048576) :
 Calls Tryz.prog 39 #[.slice a ts.length cap] w (ListPost w (leavesOf ts)):=by
 obtain ⟨j0,hj,jz0,jz1,jz2⟩:=info_parts info_i64
 by_cases hc:treeCode ts=0
 ·have hl:=(tree_of hc).l1
  have hln:(ts.length:Int)≤30:=by omega
  have HP:Hid (leavesOf ts=leavesTo ts ts.length):=by show (if treeCode ts=0 then _ else _)=_;rw [if_pos hc]
  rw [HP.out]
  go_enter Tryz.func39,Tryz.ntmps39
  go_wp2
  go_loopw [3,4] (fun v i wr=>∃k:Nat,i=.int .i64 k∧k≤ts.length∧wr.ownsRow w.heap.size 2 1 v (leavesTo ts k).length (flatI (leavesTo ts k))∧Below w.heap.size w wr) (fun _ i _=>ts.length-(intOf i).toNat)
  case atStart=>exact ⟨0,rfl,by omega,own_none1 w w.heap.size _ rfl (Nat.le_refl _) _,by go_grown⟩
  case round =>
   obtain ⟨k,rfl,hk,hown,hbw⟩:=hrel
   have zb:=hbw.size
   by_cases hlt:k<ts.length
   ·have hlt':(k:Int)<(ts.length:Int):=by omega
    have HL:Hid ((leavesTo ts k).length≤30):=Nat.le_trans (leaves_length ts k) (by omega)
    cases hf:leafB ts (k:Int)
    ·have HN:Hid (leavesTo ts (k+1)=leavesTo ts k):=leaves_no hf
     go_wp2_with (first
      | (go_at_call 93;refine (specTree_any cap ((h.mono hbw).up zb)).mono ?_;rintro e w2 ⟨rfl,hb2⟩;rw [hc];have hbw2:=hbw.trans (hb2.mono zb);have hown2:=row_next hown hb2)
      | (go_at_call 50;refine (specLeaf_any cap (k:Int) ((h.mono hbw2).up hbw2.size) hm).mono ?_;rintro e w3 ⟨rfl,rfl⟩;rw [hf]))
     go_roundw
     case rel=>exact ⟨k+1,by go_num,by omega,by rw [HN.out];exact hown2,hbw2⟩
     case measure=>simp [intOf]<;>omega
    ·have HN:Hid (leavesTo ts (k+1)=leavesTo ts k ++ [(k:Int)]):=leaves_yes hf
     go_wp2_with (first
      | (go_at_call 93;refine (specTree_any cap ((h.mono hbw).up zb)).mono ?_;rintro e w2 ⟨rfl,hb2⟩;rw [hc];have hbw2:=hbw.trans (hb2.mono zb);have hown2:=row_next hown hb2;have zb2:=hbw2.size)
      | (go_at_call 50;refine (specLeaf_any cap (k:Int) ((h.mono hbw2).up hbw2.size) hm).mono ?_;rintro e w3 ⟨rfl,rfl⟩;rw [hf])
      | (at_builtin;refine wpList_append_own _ rfl _ _ 45 rfl w.heap.size 2 j0 _ 1 8 Tryz.underlying45 hj jz0 jz1 jz2 rfl (by decide) _ _ _ rfl (hown2.alloc _) ⟨w3.heap.size,0,none⟩ 1 1 [.int .i64 (k:Int)] rfl rfl ?c1 ?c2 ?c3 ?c4 ?c5 ?c6;rotate_left 5;intro v' w' hown' hgr hnil;have hb4:=below_app hbw2 hgr (fun g hg=>(hown2.lt g hg).1)))
     case c1=>exact one_news (by go_simp)
     case c2=>exact flatI_one [(k:Int)]
     case c3=>have:=HL.out;unfold maxLen;omega
     case c4=>have:=HL.out;omega
     case c5=>simp;omega
     go_roundw
     case rel=>exact ⟨k+1,by go_num,by omega,by rw [HN.out,flatI_append,List.length_append];exact hown',hb4⟩
     case measure=>simp [intOf]<;>omega
   ·have e:k=ts.length:=by omega
    subst e
    obtain ⟨av,cv,rfl⟩:=own_slice hown
    have hiv:=own_ints hown
    go_wp2
    go_ret
    exact ⟨_,_,_,rfl,hiv,hbw⟩
 ·have HP:Hid (leavesOf ts=[]):=by show (if treeCode ts=0 then _ else _)=_;rw [if_neg hc]
  rw [HP.out]
  have hc':(treeCode ts == 0)=false:=by simp [hc]
  by_cases h0:ts.length=0
  ·obtain rfl:ts=[]:=List.eq_nil_of_length_eq_zero h0
   rw [List.length_nil]
   clear h0
   go_enter Tryz.func39,Tryz.ntmps39
   go_wp2
   refine wp_loop_rounds 1 ?_
   rw [rounds_succ]
   go_wp2
   go_ret
   exact ⟨_,_,_,rfl,iv_new w _ _ (Nat.le_refl _),by go_grown⟩
  ·have h0':(0:Int)<(ts.length:Int):=by omega
   go_enter Tryz.func39,Tryz.ntmps39
   go_wp2
   refine wp_loop_rounds 1 ?_
   rw [rounds_succ]
   have hn:=iv_new w w.heap.size 2 (Nat.le_refl _)
   have hbn:Below w.heap.size w (w.alloc (.cells #[] 2)):=by go_grown
   go_wp2_with (first
    | (go_at_call 93;refine (specTree_any cap (h.here hbn)).mono ?_;rintro e w2 ⟨rfl,hb2⟩))
   go_ret
   exact ⟨_,_,_,rfl,hn.next hb2,hbn.trans (hb2.mono hbn.size)⟩
theorem path_mem {ts:List Q4} (hw:PWell ts):∀(n:Nat) (i:Int),i<ts.length→i+1≤n→∀x ∈ pathOf ts i,0≤x∧x≤i
 | n,i,h1,h2,x,hx=>by
  by_cases h0:0≤i
  ·cases n with
   | zero=>omega
   | succ n =>
    have hp:=parent_in hw h0 h1
    rw [path_step hw h0 h1] at hx
    rcases List.mem_cons.1 hx with rfl|hx
    ·omega
    ·have:=path_mem hw n (parentOf ts i) (by omega) (by omega) x hx
     omega
  ·rw [path_end (by omega)] at hx
   cases hx
theorem path_nodup {ts:List Q4} (hw:PWell ts):∀(n:Nat) (i:Int),i<ts.length→i+1≤n→(pathOf ts i).Nodup
 | n,i,h1,h2=>by
  by_cases h0:0≤i
  ·cases n with
   | zero=>omega
   | succ n =>
    have hp:=parent_in hw h0 h1
    rw [path_step hw h0 h1]
    refine List.nodup_cons.2 ⟨fun hx=>?_,path_nodup hw n (parentOf ts i) (by omega) (by omega)⟩
    have:=path_mem hw n (parentOf ts i) (by omega) (by omega) i hx
    omega
  ·rw [path_end (by omega)]
   exact List.nodup_nil
end Go.Proofs.YthiojkjcmhojoaaGreat
