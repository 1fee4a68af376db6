import Derived.Test.YthiojkjcmhojoaaGreatGrpBK
import Derived.Test.YthiojkjcmhojoaaGreatGrpBF
import Derived.Sort.CutIn
namespace Go.Proofs.YthiojkjcmhojoaaGreat
open Go.ChangeShapes Go.WideShapes Go.ChangeAt Go.RowKit Go.Shelf
set_option maxRecDepth 100000
set_option linter.unusedVariables false
set_option linter.unusedSimpArgs false
open Go.ChangeShapes Go.WideShapes Go.ChangeAt Go.RowKit
attribute [local go_sem] Oper.semAt_some
theorem OnlyO.next {o:Option Nat} {w W W':World} (h:OnlyO o w W) (hb:Below W.heap.size W W'):OnlyO o w W' :=
 ⟨hb.os.trans h.os,hb.tape.trans h.tape,hb.output.trans h.output,Nat.le_trans h.size hb.size,fun k hk hn=>(hb.block k (Nat.lt_of_lt_of_le hk h.size)).trans (h.block k hk hn)⟩
theorem OnlyO.put {g:Nat} {w W:World} (h:OnlyO (some g) w W) (o:Nat) (q:Q4):OnlyO (some g) w (putQ W g o q):=by
 have k:=putQ_only (x:=q) (o:=o) (Only.refl g W)
 exact ⟨k.os.trans h.os,k.tape.trans h.tape,k.output.trans h.output,Nat.le_trans h.size k.size,fun j hj hn=>(k.block j (Nat.lt_of_lt_of_le hj h.size) (fun e=>hn (by rw [e]))).trans (h.block j hj hn)⟩
theorem ask_all {O P:List Q4} {n:Int} {L:List Int}:∀{j:Nat} {who:Int},askTo O P n L j=some who→∀i (h:i<L.length),i<j→¬levelOf P L[i]<1000000000*n
 | 0,_,_,i,_,hi=>by omega
 | j+1,who,h,i,hl,hi=>by
  have h':(match askTo O P n L j with|none=>none|some who=>match L[j]? with|none=>some who|some c=>if levelOf P c<1000000000*n then none else some (if who<0∧1000000000*n≤levelOf O c then (j:Int) else who))=some who:=h
  cases ha:askTo O P n L j with
  | none=>rw [ha] at h';cases h'
  | some w0 =>
   by_cases e:i=j
   ·subst e
    rw [ha] at h'
    simp only [List.getElem?_eq_getElem hl] at h'
    intro hc
    rw [if_pos hc] at h'
    cases h'
   ·exact ask_all ha i hl (by omega)
theorem modAt_other {f:Q4→Q4} {X:List Q4} {c d:Int} (h:d.toNat≠c.toNat):(modAt f X c)[d.toNat]?=X[d.toNat]?:=by
 unfold modAt
 split
 ·rw [List.getElem?_set_ne (fun e=>h e.symm)]
 ·rfl
theorem topTo_is {n:Int} {P:List Q4} {L:List Int} (h0:∀x ∈ L,0≤x) (hnd:L.Nodup):∀j,j≤L.length→∀k (hk:k<P.length),(topTo n P L j)[k]?=some (if (k:Int) ∈ L.take j then takeTop n P[k] else P[k])
 | 0,_,k,hk=>by
  show P[k]?=_
  rw [List.getElem?_eq_getElem hk]
  simp
 | j+1,hj,k,hk=>by
  have hlt:j<L.length:=by omega
  have ih:=topTo_is (n:=n) (P:=P) h0 hnd j (by omega)
  have hx:=h0 _ (List.getElem_mem hlt)
  rw [topTo_next hlt]
  have hnot:L[j] ∉ L.take j:=by
   intro hm
   obtain ⟨i,hi,e⟩:=List.mem_iff_getElem.1 hm
   rw [List.length_take] at hi
   rw [List.getElem_take] at e
   exact (List.pairwise_iff_getElem.1 hnd) i j (by omega) hlt (by omega) e
  by_cases e:(k:Int)=L[j]
  ·have ek:(L[j]).toNat=k:=by omega
   have hin:(k:Int) ∈ L.take (j+1):=by
    rw [List.take_succ_eq_append_getElem hlt]
    exact List.mem_append_right _ (List.mem_singleton.2 e)
   rw [if_pos hin]
   have hv:=ih k hk
   rw [if_neg (by rw [e];exact hnot)] at hv
   unfold modAt
   rw [ek,hv]
   simp only
   rw [List.getElem?_set_self (by rw [topTo_length];exact hk)]
  ·have ho:=modAt_other (f:=takeTop n) (X:=topTo n P L j) (c:=L[j]) (d:=(k:Int)) (by rw [Int.toNat_natCast];omega)
   rw [Int.toNat_natCast] at ho
   rw [ho,ih k hk]
   have:((k:Int) ∈ L.take (j+1)) ↔ ((k:Int) ∈ L.take j):=by
    rw [List.take_succ_eq_append_getElem hlt,List.mem_append,List.mem_singleton]
    exact ⟨fun h=>h.resolve_right e,.inl⟩
   simp only [this]
theorem own_prop {n w:Int} {O:List Q4} {L:List Int} {Φ:Nat→Q4→Prop} (hf:∀k q,Φ k q→Φ k (takeOwn n q)) (h:∀k q,O[k]?=some q→Φ k q):∀j k q,(ownTo n w O L j)[k]?=some q→Φ k q
 | 0,k,q,hq=>h k q hq
 | j+1,k,q,hq=>by
  have ih:=own_prop (w:=w) (L:=L) hf h j
  unfold ownTo at hq
  split at hq
  ·rename_i c hc
   split at hq
   ·unfold modAt at hq
    split at hq
    ·rename_i x hx
     by_cases e:c.toNat=k
     ·subst e
      rw [List.getElem?_set_self (by
       have:=(List.getElem?_eq_some_iff.1 hx).1
       exact this)] at hq
      injection hq with hq
      rw [←hq]
      exact hf _ _ (ih _ _ hx)
     ·rw [List.getElem?_set_ne e] at hq
      exact ih k q hq
    ·exact ih k q hq
   ·exact ih k q hq
  ·exact ih k q hq
theorem bok_lvl {q:Q4} {l:Int} (h:bokQ q=true) (h0:0≤l) (h1:l≤q.2.2.1):bokQ (lvlQ q l)=true:=by
 have hb:=bok_num h
 unfold bokQ bokB lvlQ at *
 rw [Bool.and_eq_true,Bool.and_eq_true,Bool.and_eq_true] at h
 simp only
 rw [Bool.and_eq_true,Bool.and_eq_true,Bool.and_eq_true]
 refine ⟨⟨h.1.1,?_⟩,h.2⟩
 unfold lvlB
 rw [decide_eq_true h0,decide_eq_true (by omega)]
 rfl
theorem bok_own {n:Int} {q:Q4} (hn:0≤n) (h:bokQ q=true):bokQ (takeOwn n q)=true:=by
 have hb:=bok_num h
 exact bok_lvl h (by omega) (by omega)
structure Spent (T O P:List Q4) (leaf now n:Int) (YO YP:List Q4):Prop where
 ok:lendB T YO YP=true
 tim:atOf YO=now
 yes:spendF T O P leaf now n=true→∀k (h:k<P.length) (h':k<YP.length),YP[k].2.2.1=fillL P[k].1 P[k].2.1 P[k].2.2.1 P[k].2.2.2 now-(if (k:Int) ∈ pathOf T leaf then 1000000000*n else 0)
 no:spendF T O P leaf now n=false→∀k (h:k<P.length) (h':k<YP.length),YP[k].2.2.1=fillL P[k].1 P[k].2.1 P[k].2.2.1 P[k].2.2.2 now
theorem fills_num {T O P:List Q4} {now:Int} (h:IsLend T O P) (hn:timeB now=true) (ha:atOf O≤now):∀k (h1:k<T.length) (h2:k<(fills now O).length) (h3:k<(fills now P).length),PairOk now (fills now O)[k] (fills now P)[k] T[k]:=by
 intro k h1 h2 h3
 have h2':k<O.length:=by rw [fills_length] at h2;exact h2
 have h3':k<P.length:=by rw [fills_length] at h3;exact h3
 have hp:=pair_ok (h.pair k h1 h2' h3')
 rw [fills_at h2' h2,fills_at h3' h3]
 have eT:∀t:Int,t=atOf O→fillT t now=now:=by
  intro t e
  unfold fillT
  split <;> omega
 exact ⟨fill_good hp.oka hn,fill_good hp.okb hn,eT _ hp.ta,eT _ hp.tb,hp.ra,hp.rb,hp.ua,hp.ub⟩
theorem at_of_pairs {T O P:List Q4} {now:Int} (h0:0<T.length) (lo:O.length=T.length) (lp:P.length=T.length) (h:∀k (h1:k<T.length) (h2:k<O.length) (h3:k<P.length),PairOk now O[k] P[k] T[k]):atOf O=now:=by
 have:=(h 0 h0 (by omega) (by omega)).ta
 unfold atOf
 rw [List.getElem?_eq_getElem (show 0<O.length by omega)]
 exact this
theorem lend_pairs {T O P:List Q4} {now:Int} (hc:treeCode T=0) (h0:0<T.length) (lo:O.length=T.length) (lp:P.length=T.length) (h:∀k (h1:k<T.length) (h2:k<O.length) (h3:k<P.length),PairOk now O[k] P[k] T[k]):lendB T O P=true∧atOf O=now:=by
 have ha:=at_of_pairs h0 lo lp h
 refine ⟨?_,ha⟩
 unfold lendB
 rw [decide_eq_true hc,decide_eq_true lo,decide_eq_true lp,pair_every (fun k h1 h2 h3=>by rw [ha];exact pair_is (h k h1 h2 h3)) lo lp T.length (Nat.le_refl _)]
 rfl
theorem told_num {T O P:List Q4} {leaf now n:Int} (h:toldB T O P leaf now n=true):IsLend T O P∧(0≤leaf∧leaf<T.length)∧timeB now=true∧atOf O≤now∧(1≤n∧n≤1500):=by
 unfold toldB at h
 simp only [Bool.and_eq_true,decide_eq_true_eq] at h
 obtain ⟨⟨⟨⟨⟨h1,h2⟩,h3⟩,h4⟩,h5⟩,h6⟩:=h
 exact ⟨lend_of h1,⟨h2.1,by omega⟩,h4,h5,seg_num h6⟩
theorem spent {T O P:List Q4} {leaf now n:Int} (h:toldB T O P leaf now n=true):Spent T O P leaf now n (spendO T O P leaf now n) (spendP T O P leaf now n):=by
 obtain ⟨hL,⟨l0,l1⟩,ht,ha,hn⟩:=told_num h
 have hF:=fills_num hL ht ha
 have hT0:0<T.length:=by omega
 have flo:(fills now O).length=T.length:=by rw [fills_length,hL.lo]
 have flp:(fills now P).length=T.length:=by rw [fills_length,hL.lp]
 have hw:=hL.tree.sound.well
 have hmem:=path_mem hw (leaf+1).toNat leaf l1 (by omega)
 have hnd:=path_nodup hw (leaf+1).toNat leaf l1 (by omega)
 have h0:∀x ∈ pathOf T leaf,0≤x:=fun x hx=>(hmem x hx).1
 have eF:spendF T O P leaf now n=decide (0≤whoOf T O P leaf now n):=by unfold spendF;rw [h];rfl
 by_cases hwho:whoOf T O P leaf now n<0
 ·have eO:spendO T O P leaf now n=fills now O:=by unfold spendO;rw [if_pos h,if_pos hwho]
  have eP:spendP T O P leaf now n=fills now P:=by unfold spendP;rw [if_pos h,if_pos hwho]
  obtain ⟨ok,hat⟩:=lend_pairs hL.code hT0 flo flp hF
  rw [eO,eP]
  refine ⟨ok,hat,fun hy=>?_,fun _ k hk hk'=>?_⟩
  ·rw [eF,decide_eq_true_eq] at hy
   omega
  ·rw [fills_at hk hk']
   rfl
 ·have eO:spendO T O P leaf now n=ownTo n (whoOf T O P leaf now n) (fills now O) (pathOf T leaf) (pathOf T leaf).length:=by unfold spendO;rw [if_pos h,if_neg hwho]
  have eP:spendP T O P leaf now n=topTo n (fills now P) (pathOf T leaf) (pathOf T leaf).length:=by unfold spendP;rw [if_pos h,if_neg hwho]
  -- every level on the path is high enough
  have hall:∀i (hi:i<(pathOf T leaf).length),¬levelOf (fills now P) (pathOf T leaf)[i]<1000000000*n:=by
   intro i hi
   have hk:askTo (fills now O) (fills now P) n (pathOf T leaf) (pathOf T leaf).length=some (whoOf T O P leaf now n):=by
    unfold whoOf askOf at hwho ⊢
    cases hq:askTo (fills now O) (fills now P) n (pathOf T leaf) (pathOf T leaf).length with
    | some who=>rfl
    | none=>rw [hq] at hwho;simp at hwho
   exact ask_all hk i hi hi
  have htop:∀k (hk:k<(fills now P).length),(topTo n (fills now P) (pathOf T leaf) (pathOf T leaf).length)[k]?=some (if (k:Int) ∈ pathOf T leaf then takeTop n (fills now P)[k] else (fills now P)[k]):=by
   intro k hk
   have:=topTo_is (n:=n) (P:=fills now P) h0 hnd _ (Nat.le_refl _) k hk
   rwa [List.take_length] at this
  have lo':(ownTo n (whoOf T O P leaf now n) (fills now O) (pathOf T leaf) (pathOf T leaf).length).length=T.length:=by rw [ownTo_length,flo]
  have lp':(topTo n (fills now P) (pathOf T leaf) (pathOf T leaf).length).length=T.length:=by rw [topTo_length,flp]
  have hown:=own_prop (n:=n) (w:=whoOf T O P leaf now n) (O:=fills now O) (L:=pathOf T leaf) (Φ:=fun k q=>∀h1:k<T.length,bokQ q=true∧q.2.2.2=now∧q.1=T[k].2.1∧q.2.1=T[k].2.2.2)
   (fun k q hq h1=>by
    obtain ⟨a,b,c,d⟩:=hq h1
    exact ⟨bok_own (by omega) a,b,c,d⟩)
   (fun k q hq h1=>by
    have hk:=(List.getElem?_eq_some_iff.1 hq).1
    have e:=(List.getElem?_eq_some_iff.1 hq).2
    have hp:=hF k h1 hk (by omega)
    rw [←e]
    exact ⟨hp.oka,hp.ta,hp.ra,hp.ua⟩) (pathOf T leaf).length
  have hlev:∀k (hk:k<(fills now P).length),(k:Int) ∈ pathOf T leaf→1000000000*n≤(fills now P)[k].2.2.1:=by
   intro k hk hm
   obtain ⟨i,hi,e⟩:=List.mem_iff_getElem.1 hm
   have:=hall i hi
   rw [e,levelOf_at hk] at this
   omega
  have hpairs:∀k (h1:k<T.length) (h2:k<(ownTo n (whoOf T O P leaf now n) (fills now O) (pathOf T leaf) (pathOf T leaf).length).length) (h3:k<(topTo n (fills now P) (pathOf T leaf) (pathOf T leaf).length).length),PairOk now (ownTo n (whoOf T O P leaf now n) (fills now O) (pathOf T leaf) (pathOf T leaf).length)[k] (topTo n (fills now P) (pathOf T leaf) (pathOf T leaf).length)[k] T[k]:=by
   intro k h1 h2 h3
   obtain ⟨a,b,c,d⟩:=hown k _ (List.getElem?_eq_getElem h2) h1
   have hkP:k<(fills now P).length:=by omega
   have hp:=hF k h1 (by omega) hkP
   have e:=htop k hkP
   rw [List.getElem?_eq_getElem h3] at e
   injection e with e
   rw [e]
   split
   ·rename_i hm
    have hl:=hlev k hkP hm
    exact ⟨a,bok_lvl hp.okb (by omega) (by omega),b,hp.tb,c,hp.rb,d,hp.ub⟩
   ·exact ⟨a,hp.okb,b,hp.tb,c,hp.rb,d,hp.ub⟩
  obtain ⟨ok,hat⟩:=lend_pairs hL.code hT0 lo' lp' hpairs
  rw [eO,eP]
  refine ⟨ok,hat,fun _ k hk hk'=>?_,fun hy=>?_⟩
  ·have hkP:k<(fills now P).length:=by rw [fills_length];exact hk
   have e:=htop k hkP
   rw [List.getElem?_eq_getElem hk'] at e
   injection e with e
   rw [e,fills_at hk hkP]
   split
   ·rfl
   ·show _=_-0
    rw [Int.sub_zero]
    rfl
  ·rw [eF,decide_eq_false_iff_not] at hy
   omega
end Go.Proofs.YthiojkjcmhojoaaGreat
