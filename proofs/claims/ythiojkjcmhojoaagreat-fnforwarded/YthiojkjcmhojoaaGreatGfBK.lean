import Derived.Test.YthiojkjcmhojoaaGreatGfBJ
import Derived.Test.YthiojkjcmhojoaaGreatGfBE
import Derived.Sort.CutIn
namespace Go.Proofs.YthiojkjcmhojoaaGreat
open Go.ChangeShapes Go.WideShapes Go.ChangeAt Go.RowKit Go.Shelf
set_option maxRecDepth 100000
set_option linter.unusedVariables false
set_option linter.unusedSimpArgs false
open Go.ChangeShapes Go.WideShapes Go.ChangeAt Go.RowKit
attribute [local go_sem] Oper.semAt_some
theorem OnlyO.next {o:Option Nat} {w W W':World} (h:OnlyO o w W) (hb:Below W.heap.size W W'):OnlyO o w W' :=
 ⟨hb.os.trans h.os,hb.tape.trans h.tape,hb.output.trans h.output,Nat.le_trans h.size hb.size,fun k hk hn=>(hb.block k (Nat.lt_of_lt_of_le hk h.size)).trans (h.block k hk hn)⟩
theorem OnlyO.put {g:Nat} {w W:World} (h:OnlyO (some g) w W) (o:Nat) (q:Q4):OnlyO (some g) w (zso W g o q):=by
 have k:=zkx (x:=q) (o:=o) (Only.refl g W)
 exact ⟨k.os.trans h.os,k.tape.trans h.tape,k.output.trans h.output,Nat.le_trans h.size k.size,fun j hj hn=>(k.block j (Nat.lt_of_lt_of_le hj h.size) (fun e=>hn (by rw [e]))).trans (h.block j hj hn)⟩
theorem zwv {O P:List Q4} {n:Int} {L:List Int}:∀{j:Nat} {who:Int},zer O P n L j=some who→∀i (h:i<L.length),i<j→¬zd1 P L[i]<1000000000*n
 | 0,_,_,i,_,hi=>by omega
 | j+1,who,h,i,hl,hi=>by
  have h':(match zer O P n L j with|none=>none|some who=>match L[j]? with|none=>some who|some c=>if zd1 P c<1000000000*n then none else some (if who<0∧1000000000*n≤zd1 O c then (j:Int) else who))=some who:=h
  cases ha:zer O P n L j with
  | none=>rw [ha] at h';cases h'
  | some w0 =>
   by_cases e:i=j
   ·subst e
    rw [ha] at h'
    simp only [List.getElem?_eq_getElem hl] at h'
    intro hc
    rw [if_pos hc] at h'
    cases h'
   ·exact zwv ha i hl (by omega)
theorem zrf {f:Q4→Q4} {X:List Q4} {c d:Int} (h:d.toNat≠c.toNat):(zgi f X c)[d.toNat]?=X[d.toNat]?:=by
 unfold zgi
 split
 ·rw [List.getElem?_set_ne (fun e=>h e.symm)]
 ·rfl
theorem ztj {n:Int} {P:List Q4} {L:List Int} (h0:∀x ∈ L,0≤x) (hnd:L.Nodup):∀j,j≤L.length→∀k (hk:k<P.length),(zet n P L j)[k]?=some (if (k:Int) ∈ L.take j then zej n P[k] else P[k])
 | 0,_,k,hk=>by
  show P[k]?=_
  rw [List.getElem?_eq_getElem hk]
  simp
 | j+1,hj,k,hk=>by
  have hlt:j<L.length:=by omega
  have ih:=ztj (n:=n) (P:=P) h0 hnd j (by omega)
  have hx:=h0 _ (List.getElem_mem hlt)
  rw [zm4 hlt]
  have hnot:L[j] ∉ L.take j:=by
   intro hm
   obtain ⟨i,hi,e⟩:=List.mem_iff_getElem.1 hm
   rw [List.length_take] at hi
   rw [List.getElem_take] at e
   exact (List.pairwise_iff_getElem.1 hnd) i j (by omega) hlt (by omega) e
  by_cases e:(k:Int)=L[j]
  ·have ek:(L[j]).toNat=k:=by omega
   have hin:(k:Int) ∈ L.take (j+1):=by
    rw [List.take_succ_eq_append_getElem hlt]
    exact List.mem_append_right _ (List.mem_singleton.2 e)
   rw [if_pos hin]
   have hv:=ih k hk
   rw [if_neg (by rw [e];exact hnot)] at hv
   unfold zgi
   rw [ek,hv]
   simp only
   rw [List.getElem?_set_self (by rw [zee];exact hk)]
  ·have ho:=zrf (f:=zej n) (X:=zet n P L j) (c:=L[j]) (d:=(k:Int)) (by rw [Int.toNat_natCast];omega)
   rw [Int.toNat_natCast] at ho
   rw [ho,ih k hk]
   have:((k:Int) ∈ L.take (j+1)) ↔ ((k:Int) ∈ L.take j):=by
    rw [List.take_succ_eq_append_getElem hlt,List.mem_append,List.mem_singleton]
    exact ⟨fun h=>h.resolve_right e,.inl⟩
   simp only [this]
theorem ztk {n w:Int} {O:List Q4} {L:List Int} {Φ:Nat→Q4→Prop} (hf:∀k q,Φ k q→Φ k (zek n q)) (h:∀k q,O[k]?=some q→Φ k q):∀j k q,(zcz n w O L j)[k]?=some q→Φ k q
 | 0,k,q,hq=>h k q hq
 | j+1,k,q,hq=>by
  have ih:=ztk (w:=w) (L:=L) hf h j
  unfold zcz at hq
  split at hq
  ·rename_i c hc
   split at hq
   ·unfold zgi at hq
    split at hq
    ·rename_i x hx
     by_cases e:c.toNat=k
     ·subst e
      rw [List.getElem?_set_self (by
       have:=(List.getElem?_eq_some_iff.1 hx).1
       exact this)] at hq
      injection hq with hq
      rw [←hq]
      exact hf _ _ (ih _ _ hx)
     ·rw [List.getElem?_set_ne e] at hq
      exact ih k q hq
    ·exact ih k q hq
   ·exact ih k q hq
  ·exact ih k q hq
theorem zww {q:Q4} {l:Int} (h:zh6 q=true) (h0:0≤l) (h1:l≤q.2.2.1):zh6 (zxx q l)=true:=by
 have hb:=zdl h
 unfold zh6 zgn zxx at *
 rw [Bool.and_eq_true,Bool.and_eq_true,Bool.and_eq_true] at h
 simp only
 rw [Bool.and_eq_true,Bool.and_eq_true,Bool.and_eq_true]
 refine ⟨⟨h.1.1,?_⟩,h.2⟩
 unfold zve
 rw [decide_eq_true h0,decide_eq_true (by omega)]
 rfl
theorem z1l {n:Int} {q:Q4} (hn:0≤n) (h:zh6 q=true):zh6 (zek n q)=true:=by
 have hb:=zdl h
 exact zww h (by omega) (by omega)
structure Spent (T O P:List Q4) (leaf now n:Int) (YO YP:List Q4):Prop where
 ok:zbf T YO YP=true
 tim:zdv YO=now
 yes:zm5 T O P leaf now n=true→∀k (h:k<P.length) (h':k<YP.length),YP[k].2.2.1=zda P[k].1 P[k].2.1 P[k].2.2.1 P[k].2.2.2 now-(if (k:Int) ∈ zap T leaf then 1000000000*n else 0)
 no:zm5 T O P leaf now n=false→∀k (h:k<P.length) (h':k<YP.length),YP[k].2.2.1=zda P[k].1 P[k].2.1 P[k].2.2.1 P[k].2.2.2 now
theorem zpz {T O P:List Q4} {now:Int} (h:IsLend T O P) (hn:zau now=true) (ha:zdv O≤now):∀k (h1:k<T.length) (h2:k<(zao now O).length) (h3:k<(zao now P).length),PairOk now (zao now O)[k] (zao now P)[k] T[k]:=by
 intro k h1 h2 h3
 have h2':k<O.length:=by rw [zan] at h2;exact h2
 have h3':k<P.length:=by rw [zan] at h3;exact h3
 have hp:=zd0 (h.pair k h1 h2' h3')
 rw [zdr h2' h2,zdr h3' h3]
 have eT:∀t:Int,t=zdv O→zdm t now=now:=by
  intro t e
  unfold zdm
  split <;> omega
 exact ⟨zik hp.oka hn,zik hp.okb hn,eT _ hp.ta,eT _ hp.tb,hp.ra,hp.rb,hp.ua,hp.ub⟩
theorem zrg {T O P:List Q4} {now:Int} (h0:0<T.length) (lo:O.length=T.length) (lp:P.length=T.length) (h:∀k (h1:k<T.length) (h2:k<O.length) (h3:k<P.length),PairOk now O[k] P[k] T[k]):zdv O=now:=by
 have:=(h 0 h0 (by omega) (by omega)).ta
 unfold zdv
 rw [List.getElem?_eq_getElem (show 0<O.length by omega)]
 exact this
theorem zhe {T O P:List Q4} {now:Int} (hc:zah T=0) (h0:0<T.length) (lo:O.length=T.length) (lp:P.length=T.length) (h:∀k (h1:k<T.length) (h2:k<O.length) (h3:k<P.length),PairOk now O[k] P[k] T[k]):zbf T O P=true∧zdv O=now:=by
 have ha:=zrg h0 lo lp h
 refine ⟨?_,ha⟩
 unfold zbf
 rw [decide_eq_true hc,decide_eq_true lo,decide_eq_true lp,zjc (fun k h1 h2 h3=>by rw [ha];exact zwg (h k h1 h2 h3)) lo lp T.length (Nat.le_refl _)]
 rfl
theorem zyk {T O P:List Q4} {leaf now n:Int} (h:zcx T O P leaf now n=true):IsLend T O P∧(0≤leaf∧leaf<T.length)∧zau now=true∧zdv O≤now∧(1≤n∧n≤1500):=by
 unfold zcx at h
 simp only [Bool.and_eq_true,decide_eq_true_eq] at h
 obtain ⟨⟨⟨⟨⟨h1,h2⟩,h3⟩,h4⟩,h5⟩,h6⟩:=h
 exact ⟨zbe h1,⟨h2.1,by omega⟩,h4,h5,zi0 h6⟩
theorem spent {T O P:List Q4} {leaf now n:Int} (h:zcx T O P leaf now n=true):Spent T O P leaf now n (zg0 T O P leaf now n) (zg1 T O P leaf now n):=by
 obtain ⟨hL,⟨l0,l1⟩,ht,ha,hn⟩:=zyk h
 have hF:=zpz hL ht ha
 have hT0:0<T.length:=by omega
 have flo:(zao now O).length=T.length:=by rw [zan,hL.lo]
 have flp:(zao now P).length=T.length:=by rw [zan,hL.lp]
 have hw:=hL.tree.sound.well
 have hmem:=zha hw (leaf+1).toNat leaf l1 (by omega)
 have hnd:=zmz hw (leaf+1).toNat leaf l1 (by omega)
 have h0:∀x ∈ zap T leaf,0≤x:=fun x hx=>(hmem x hx).1
 have eF:zm5 T O P leaf now n=decide (0≤zf2 T O P leaf now n):=by unfold zm5;rw [h];rfl
 by_cases hwho:zf2 T O P leaf now n<0
 ·have eO:zg0 T O P leaf now n=zao now O:=by unfold zg0;rw [if_pos h,if_pos hwho]
  have eP:zg1 T O P leaf now n=zao now P:=by unfold zg1;rw [if_pos h,if_pos hwho]
  obtain ⟨ok,hat⟩:=zhe hL.code hT0 flo flp hF
  rw [eO,eP]
  refine ⟨ok,hat,fun hy=>?_,fun _ k hk hk'=>?_⟩
  ·rw [eF,decide_eq_true_eq] at hy
   omega
  ·rw [zdr hk hk']
   rfl
 ·have eO:zg0 T O P leaf now n=zcz n (zf2 T O P leaf now n) (zao now O) (zap T leaf) (zap T leaf).length:=by unfold zg0;rw [if_pos h,if_neg hwho]
  have eP:zg1 T O P leaf now n=zet n (zao now P) (zap T leaf) (zap T leaf).length:=by unfold zg1;rw [if_pos h,if_neg hwho]
  -- every level on the path is high enough
  have hall:∀i (hi:i<(zap T leaf).length),¬zd1 (zao now P) (zap T leaf)[i]<1000000000*n:=by
   intro i hi
   have hk:zer (zao now O) (zao now P) n (zap T leaf) (zap T leaf).length=some (zf2 T O P leaf now n):=by
    unfold zf2 zhy at hwho ⊢
    cases hq:zer (zao now O) (zao now P) n (zap T leaf) (zap T leaf).length with
    | some who=>rfl
    | none=>rw [hq] at hwho;simp at hwho
   exact zwv hk i hi hi
  have htop:∀k (hk:k<(zao now P).length),(zet n (zao now P) (zap T leaf) (zap T leaf).length)[k]?=some (if (k:Int) ∈ zap T leaf then zej n (zao now P)[k] else (zao now P)[k]):=by
   intro k hk
   have:=ztj (n:=n) (P:=zao now P) h0 hnd _ (Nat.le_refl _) k hk
   rwa [List.take_length] at this
  have lo':(zcz n (zf2 T O P leaf now n) (zao now O) (zap T leaf) (zap T leaf).length).length=T.length:=by rw [zef,flo]
  have lp':(zet n (zao now P) (zap T leaf) (zap T leaf).length).length=T.length:=by rw [zee,flp]
  have hown:=ztk (n:=n) (w:=zf2 T O P leaf now n) (O:=zao now O) (L:=zap T leaf) (Φ:=fun k q=>∀h1:k<T.length,zh6 q=true∧q.2.2.2=now∧q.1=T[k].2.1∧q.2.1=T[k].2.2.2)
   (fun k q hq h1=>by
    obtain ⟨a,b,c,d⟩:=hq h1
    exact ⟨z1l (by omega) a,b,c,d⟩)
   (fun k q hq h1=>by
    have hk:=(List.getElem?_eq_some_iff.1 hq).1
    have e:=(List.getElem?_eq_some_iff.1 hq).2
    have hp:=hF k h1 hk (by omega)
    rw [←e]
    exact ⟨hp.oka,hp.ta,hp.ra,hp.ua⟩) (zap T leaf).length
  have hlev:∀k (hk:k<(zao now P).length),(k:Int) ∈ zap T leaf→1000000000*n≤(zao now P)[k].2.2.1:=by
   intro k hk hm
   obtain ⟨i,hi,e⟩:=List.mem_iff_getElem.1 hm
   have:=hall i hi
   rw [e,zi7 hk] at this
   omega
  have hpairs:∀k (h1:k<T.length) (h2:k<(zcz n (zf2 T O P leaf now n) (zao now O) (zap T leaf) (zap T leaf).length).length) (h3:k<(zet n (zao now P) (zap T leaf) (zap T leaf).length).length),PairOk now (zcz n (zf2 T O P leaf now n) (zao now O) (zap T leaf) (zap T leaf).length)[k] (zet n (zao now P) (zap T leaf) (zap T leaf).length)[k] T[k]:=by
   intro k h1 h2 h3
   obtain ⟨a,b,c,d⟩:=hown k _ (List.getElem?_eq_getElem h2) h1
   have hkP:k<(zao now P).length:=by omega
   have hp:=hF k h1 (by omega) hkP
   have e:=htop k hkP
   rw [List.getElem?_eq_getElem h3] at e
   injection e with e
   rw [e]
   split
   ·rename_i hm
    have hl:=hlev k hkP hm
    exact ⟨a,zww hp.okb (by omega) (by omega),b,hp.tb,c,hp.rb,d,hp.ub⟩
   ·exact ⟨a,hp.okb,b,hp.tb,c,hp.rb,d,hp.ub⟩
  obtain ⟨ok,hat⟩:=zhe hL.code hT0 lo' lp' hpairs
  rw [eO,eP]
  refine ⟨ok,hat,fun _ k hk hk'=>?_,fun hy=>?_⟩
  ·have hkP:k<(zao now P).length:=by rw [zan];exact hk
   have e:=htop k hkP
   rw [List.getElem?_eq_getElem hk'] at e
   injection e with e
   rw [e,zdr hk hkP]
   split
   ·rfl
   ·show _=_-0
    rw [Int.sub_zero]
    rfl
  ·rw [eF,decide_eq_false_iff_not] at hy
   omega
end Go.Proofs.YthiojkjcmhojoaaGreat
