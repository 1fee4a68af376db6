import Derived.Test.YthiojkjcmhojoaaGreatGrpBK
import Derived.Test.YthiojkjcmhojoaaGreatGrpBF
import Derived.Sort.CutIn
namespace Go.Proofs.YthiojkjcmhojoaaGreat
open Go.ChangeShapes Go.WideShapes Go.ChangeAt Go.RowKit Go.Shelf
set_option maxRecDepth 100000
set_option linter.unusedVariables false
set_option linter.unusedSimpArgs false
open Go.ChangeShapes Go.WideShapes Go.ChangeAt Go.RowKit
attribute [local go_sem] Oper.semAt_some
theorem OnlyO.next {o:Option Nat} {w W W':World} (h:OnlyO o w W) (hb:Below W.heap.size W W'):OnlyO o w W' :=
 ⟨hb.os.trans h.os,hb.tape.trans h.tape,hb.output.trans h.output,Nat.le_trans h.size hb.size,fun k hk hn=>(hb.block k (Nat.lt_of_lt_of_le hk h.size)).trans (h.block k hk hn)⟩
theorem OnlyO.put {g:Nat} {w W:World} (h:OnlyO (some g) w W) (o:Nat) (q:Q4):OnlyO (some g) w (zrw W g o q):=by
 have k:=zka (x:=q) (o:=o) (Only.refl g W)
 exact ⟨k.os.trans h.os,k.tape.trans h.tape,k.output.trans h.output,Nat.le_trans h.size k.size,fun j hj hn=>(k.block j (Nat.lt_of_lt_of_le hj h.size) (fun e=>hn (by rw [e]))).trans (h.block j hj hn)⟩
theorem zv3 {O P:List Q4} {n:Int} {L:List Int}:∀{j:Nat} {who:Int},zek O P n L j=some who→∀i (h:i<L.length),i<j→¬zdu P L[i]<1000000000*n
 | 0,_,_,i,_,hi=>by omega
 | j+1,who,h,i,hl,hi=>by
  have h':(match zek O P n L j with|none=>none|some who=>match L[j]? with|none=>some who|some c=>if zdu P c<1000000000*n then none else some (if who<0∧1000000000*n≤zdu O c then (j:Int) else who))=some who:=h
  cases ha:zek O P n L j with
  | none=>rw [ha] at h';cases h'
  | some w0 =>
   by_cases e:i=j
   ·subst e
    rw [ha] at h'
    simp only [List.getElem?_eq_getElem hl] at h'
    intro hc
    rw [if_pos hc] at h'
    cases h'
   ·exact zv3 ha i hl (by omega)
theorem zqm {f:Q4→Q4} {X:List Q4} {c d:Int} (h:d.toNat≠c.toNat):(zf8 f X c)[d.toNat]?=X[d.toNat]?:=by
 unfold zf8
 split
 ·rw [List.getElem?_set_ne (fun e=>h e.symm)]
 ·rfl
theorem zsq {n:Int} {P:List Q4} {L:List Int} (h0:∀x ∈ L,0≤x) (hnd:L.Nodup):∀j,j≤L.length→∀k (hk:k<P.length),(zem n P L j)[k]?=some (if (k:Int) ∈ L.take j then zea n P[k] else P[k])
 | 0,_,k,hk=>by
  show P[k]?=_
  rw [List.getElem?_eq_getElem hk]
  simp
 | j+1,hj,k,hk=>by
  have hlt:j<L.length:=by omega
  have ih:=zsq (n:=n) (P:=P) h0 hnd j (by omega)
  have hx:=h0 _ (List.getElem_mem hlt)
  rw [zmg hlt]
  have hnot:L[j] ∉ L.take j:=by
   intro hm
   obtain ⟨i,hi,e⟩:=List.mem_iff_getElem.1 hm
   rw [List.length_take] at hi
   rw [List.getElem_take] at e
   exact (List.pairwise_iff_getElem.1 hnd) i j (by omega) hlt (by omega) e
  by_cases e:(k:Int)=L[j]
  ·have ek:(L[j]).toNat=k:=by omega
   have hin:(k:Int) ∈ L.take (j+1):=by
    rw [List.take_succ_eq_append_getElem hlt]
    exact List.mem_append_right _ (List.mem_singleton.2 e)
   rw [if_pos hin]
   have hv:=ih k hk
   rw [if_neg (by rw [e];exact hnot)] at hv
   unfold zf8
   rw [ek,hv]
   simp only
   rw [List.getElem?_set_self (by rw [zd5];exact hk)]
  ·have ho:=zqm (f:=zea n) (X:=zem n P L j) (c:=L[j]) (d:=(k:Int)) (by rw [Int.toNat_natCast];omega)
   rw [Int.toNat_natCast] at ho
   rw [ho,ih k hk]
   have:((k:Int) ∈ L.take (j+1)) ↔ ((k:Int) ∈ L.take j):=by
    rw [List.take_succ_eq_append_getElem hlt,List.mem_append,List.mem_singleton]
    exact ⟨fun h=>h.resolve_right e,.inl⟩
   simp only [this]
theorem zsr {n w:Int} {O:List Q4} {L:List Int} {Φ:Nat→Q4→Prop} (hf:∀k q,Φ k q→Φ k (zeb n q)) (h:∀k q,O[k]?=some q→Φ k q):∀j k q,(zcw n w O L j)[k]?=some q→Φ k q
 | 0,k,q,hq=>h k q hq
 | j+1,k,q,hq=>by
  have ih:=zsr (w:=w) (L:=L) hf h j
  unfold zcw at hq
  split at hq
  ·rename_i c hc
   split at hq
   ·unfold zf8 at hq
    split at hq
    ·rename_i x hx
     by_cases e:c.toNat=k
     ·subst e
      rw [List.getElem?_set_self (by
       have:=(List.getElem?_eq_some_iff.1 hx).1
       exact this)] at hq
      injection hq with hq
      rw [←hq]
      exact hf _ _ (ih _ _ hx)
     ·rw [List.getElem?_set_ne e] at hq
      exact ih k q hq
    ·exact ih k q hq
   ·exact ih k q hq
  ·exact ih k q hq
theorem zv4 {q:Q4} {l:Int} (h:zj1 q=true) (h0:0≤l) (h1:l≤q.2.2.1):zj1 (zxc q l)=true:=by
 have hb:=zgj h
 unfold zj1 zhb zxc at *
 rw [Bool.and_eq_true,Bool.and_eq_true,Bool.and_eq_true] at h
 simp only
 rw [Bool.and_eq_true,Bool.and_eq_true,Bool.and_eq_true]
 refine ⟨⟨h.1.1,?_⟩,h.2⟩
 unfold zup
 rw [decide_eq_true h0,decide_eq_true (by omega)]
 rfl
theorem z0d {n:Int} {q:Q4} (hn:0≤n) (h:zj1 q=true):zj1 (zeb n q)=true:=by
 have hb:=zgj h
 exact zv4 h (by omega) (by omega)
structure Spent (T O P:List Q4) (leaf now n:Int) (YO YP:List Q4):Prop where
 ok:zbi T YO YP=true
 tim:zdt YO=now
 yes:zmh T O P leaf now n=true→∀k (h:k<P.length) (h':k<YP.length),YP[k].2.2.1=zie P[k].1 P[k].2.1 P[k].2.2.1 P[k].2.2.2 now-(if (k:Int) ∈ zan T leaf then 1000000000*n else 0)
 no:zmh T O P leaf now n=false→∀k (h:k<P.length) (h':k<YP.length),YP[k].2.2.1=zie P[k].1 P[k].2.1 P[k].2.2.1 P[k].2.2.2 now
theorem zow {T O P:List Q4} {now:Int} (h:IsLend T O P) (hn:zbc now=true) (ha:zdt O≤now):∀k (h1:k<T.length) (h2:k<(zax now O).length) (h3:k<(zax now P).length),PairOk now (zax now O)[k] (zax now P)[k] T[k]:=by
 intro k h1 h2 h3
 have h2':k<O.length:=by rw [zau] at h2;exact h2
 have h3':k<P.length:=by rw [zau] at h3;exact h3
 have hp:=ze6 (h.pair k h1 h2' h3')
 rw [zf5 h2' h2,zf5 h3' h3]
 have eT:∀t:Int,t=zdt O→zlk t now=now:=by
  intro t e
  unfold zlk
  split <;> omega
 exact ⟨zh1 hp.oka hn,zh1 hp.okb hn,eT _ hp.ta,eT _ hp.tb,hp.ra,hp.rb,hp.ua,hp.ub⟩
theorem zqn {T O P:List Q4} {now:Int} (h0:0<T.length) (lo:O.length=T.length) (lp:P.length=T.length) (h:∀k (h1:k<T.length) (h2:k<O.length) (h3:k<P.length),PairOk now O[k] P[k] T[k]):zdt O=now:=by
 have:=(h 0 h0 (by omega) (by omega)).ta
 unfold zdt
 rw [List.getElem?_eq_getElem (show 0<O.length by omega)]
 exact this
theorem zg2 {T O P:List Q4} {now:Int} (hc:zak T=0) (h0:0<T.length) (lo:O.length=T.length) (lp:P.length=T.length) (h:∀k (h1:k<T.length) (h2:k<O.length) (h3:k<P.length),PairOk now O[k] P[k] T[k]):zbi T O P=true∧zdt O=now:=by
 have ha:=zqn h0 lo lp h
 refine ⟨?_,ha⟩
 unfold zbi
 rw [decide_eq_true hc,decide_eq_true lo,decide_eq_true lp,zir (fun k h1 h2 h3=>by rw [ha];exact zvo (h k h1 h2 h3)) lo lp T.length (Nat.le_refl _)]
 rfl
theorem zxy {T O P:List Q4} {leaf now n:Int} (h:zcu T O P leaf now n=true):IsLend T O P∧(0≤leaf∧leaf<T.length)∧zbc now=true∧zdt O≤now∧(1≤n∧n≤1500):=by
 unfold zcu at h
 simp only [Bool.and_eq_true,decide_eq_true_eq] at h
 obtain ⟨⟨⟨⟨⟨h1,h2⟩,h3⟩,h4⟩,h5⟩,h6⟩:=h
 exact ⟨zbj h1,⟨h2.1,by omega⟩,h4,h5,zid h6⟩
theorem spent {T O P:List Q4} {leaf now n:Int} (h:zcu T O P leaf now n=true):Spent T O P leaf now n (zgp T O P leaf now n) (zgq T O P leaf now n):=by
 obtain ⟨hL,⟨l0,l1⟩,ht,ha,hn⟩:=zxy h
 have hF:=zow hL ht ha
 have hT0:0<T.length:=by omega
 have flo:(zax now O).length=T.length:=by rw [zau,hL.lo]
 have flp:(zax now P).length=T.length:=by rw [zau,hL.lp]
 have hw:=hL.tree.sound.well
 have hmem:=zg0 hw (leaf+1).toNat leaf l1 (by omega)
 have hnd:=zmc hw (leaf+1).toNat leaf l1 (by omega)
 have h0:∀x ∈ zan T leaf,0≤x:=fun x hx=>(hmem x hx).1
 have eF:zmh T O P leaf now n=decide (0≤zfo T O P leaf now n):=by unfold zmh;rw [h];rfl
 by_cases hwho:zfo T O P leaf now n<0
 ·have eO:zgp T O P leaf now n=zax now O:=by unfold zgp;rw [if_pos h,if_pos hwho]
  have eP:zgq T O P leaf now n=zax now P:=by unfold zgq;rw [if_pos h,if_pos hwho]
  obtain ⟨ok,hat⟩:=zg2 hL.code hT0 flo flp hF
  rw [eO,eP]
  refine ⟨ok,hat,fun hy=>?_,fun _ k hk hk'=>?_⟩
  ·rw [eF,decide_eq_true_eq] at hy
   omega
  ·rw [zf5 hk hk']
   rfl
 ·have eO:zgp T O P leaf now n=zcw n (zfo T O P leaf now n) (zax now O) (zan T leaf) (zan T leaf).length:=by unfold zgp;rw [if_pos h,if_neg hwho]
  have eP:zgq T O P leaf now n=zem n (zax now P) (zan T leaf) (zan T leaf).length:=by unfold zgq;rw [if_pos h,if_neg hwho]
  -- every level on the path is high enough
  have hall:∀i (hi:i<(zan T leaf).length),¬zdu (zax now P) (zan T leaf)[i]<1000000000*n:=by
   intro i hi
   have hk:zek (zax now O) (zax now P) n (zan T leaf) (zan T leaf).length=some (zfo T O P leaf now n):=by
    unfold zfo zhj at hwho ⊢
    cases hq:zek (zax now O) (zax now P) n (zan T leaf) (zan T leaf).length with
    | some who=>rfl
    | none=>rw [hq] at hwho;simp at hwho
   exact zv3 hk i hi hi
  have htop:∀k (hk:k<(zax now P).length),(zem n (zax now P) (zan T leaf) (zan T leaf).length)[k]?=some (if (k:Int) ∈ zan T leaf then zea n (zax now P)[k] else (zax now P)[k]):=by
   intro k hk
   have:=zsq (n:=n) (P:=zax now P) h0 hnd _ (Nat.le_refl _) k hk
   rwa [List.take_length] at this
  have lo':(zcw n (zfo T O P leaf now n) (zax now O) (zan T leaf) (zan T leaf).length).length=T.length:=by rw [zd6,flo]
  have lp':(zem n (zax now P) (zan T leaf) (zan T leaf).length).length=T.length:=by rw [zd5,flp]
  have hown:=zsr (n:=n) (w:=zfo T O P leaf now n) (O:=zax now O) (L:=zan T leaf) (Φ:=fun k q=>∀h1:k<T.length,zj1 q=true∧q.2.2.2=now∧q.1=T[k].2.1∧q.2.1=T[k].2.2.2)
   (fun k q hq h1=>by
    obtain ⟨a,b,c,d⟩:=hq h1
    exact ⟨z0d (by omega) a,b,c,d⟩)
   (fun k q hq h1=>by
    have hk:=(List.getElem?_eq_some_iff.1 hq).1
    have e:=(List.getElem?_eq_some_iff.1 hq).2
    have hp:=hF k h1 hk (by omega)
    rw [←e]
    exact ⟨hp.oka,hp.ta,hp.ra,hp.ua⟩) (zan T leaf).length
  have hlev:∀k (hk:k<(zax now P).length),(k:Int) ∈ zan T leaf→1000000000*n≤(zax now P)[k].2.2.1:=by
   intro k hk hm
   obtain ⟨i,hi,e⟩:=List.mem_iff_getElem.1 hm
   have:=hall i hi
   rw [e,zin hk] at this
   omega
  have hpairs:∀k (h1:k<T.length) (h2:k<(zcw n (zfo T O P leaf now n) (zax now O) (zan T leaf) (zan T leaf).length).length) (h3:k<(zem n (zax now P) (zan T leaf) (zan T leaf).length).length),PairOk now (zcw n (zfo T O P leaf now n) (zax now O) (zan T leaf) (zan T leaf).length)[k] (zem n (zax now P) (zan T leaf) (zan T leaf).length)[k] T[k]:=by
   intro k h1 h2 h3
   obtain ⟨a,b,c,d⟩:=hown k _ (List.getElem?_eq_getElem h2) h1
   have hkP:k<(zax now P).length:=by omega
   have hp:=hF k h1 (by omega) hkP
   have e:=htop k hkP
   rw [List.getElem?_eq_getElem h3] at e
   injection e with e
   rw [e]
   split
   ·rename_i hm
    have hl:=hlev k hkP hm
    exact ⟨a,zv4 hp.okb (by omega) (by omega),b,hp.tb,c,hp.rb,d,hp.ub⟩
   ·exact ⟨a,hp.okb,b,hp.tb,c,hp.rb,d,hp.ub⟩
  obtain ⟨ok,hat⟩:=zg2 hL.code hT0 lo' lp' hpairs
  rw [eO,eP]
  refine ⟨ok,hat,fun _ k hk hk'=>?_,fun hy=>?_⟩
  ·have hkP:k<(zax now P).length:=by rw [zau];exact hk
   have e:=htop k hkP
   rw [List.getElem?_eq_getElem hk'] at e
   injection e with e
   rw [e,zf5 hk hkP]
   split
   ·rfl
   ·show _=_-0
    rw [Int.sub_zero]
    rfl
  ·rw [eF,decide_eq_false_iff_not] at hy
   omega
end Go.Proofs.YthiojkjcmhojoaaGreat
