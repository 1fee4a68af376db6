import Derived.Test.YthiojkjcmhojoaaGreatGrpBJ
import Derived.Test.YthiojkjcmhojoaaGreatGrpBE
import Derived.Sort.CutIn
namespace Go.Proofs.YthiojkjcmhojoaaGreat
open Go.ChangeShapes Go.WideShapes Go.ChangeAt Go.RowKit Go.Shelf
set_option maxRecDepth 100000
set_option linter.unusedVariables false
set_option linter.unusedSimpArgs false
open Go.ChangeShapes Go.WideShapes Go.ChangeAt Go.RowKit
attribute [local go_sem] Oper.semAt_some
theorem OnlyO.next {o:Option Nat} {w W W':World} (h:OnlyO o w W) (hb:Below W.heap.size W W'):OnlyO o w W' :=
 ⟨hb.os.trans h.os,hb.tape.trans h.tape,hb.output.trans h.output,Nat.le_trans h.size hb.size,fun k hk hn=>(hb.block k (Nat.lt_of_lt_of_le hk h.size)).trans (h.block k hk hn)⟩
theorem OnlyO.put {g:Nat} {w W:World} (h:OnlyO (some g) w W) (o:Nat) (q:Q4):OnlyO (some g) w (zsn W g o q):=by
 have k:=zkw (x:=q) (o:=o) (Only.refl g W)
 exact ⟨k.os.trans h.os,k.tape.trans h.tape,k.output.trans h.output,Nat.le_trans h.size k.size,fun j hj hn=>(k.block j (Nat.lt_of_lt_of_le hj h.size) (fun e=>hn (by rw [e]))).trans (h.block j hj hn)⟩
theorem zwu {O P:List Q4} {n:Int} {L:List Int}:∀{j:Nat} {who:Int},zer O P n L j=some who→∀i (h:i<L.length),i<j→¬zd1 P L[i]<1000000000*n
 | 0,_,_,i,_,hi=>by omega
 | j+1,who,h,i,hl,hi=>by
  have h':(match zer O P n L j with|none=>none|some who=>match L[j]? with|none=>some who|some c=>if zd1 P c<1000000000*n then none else some (if who<0∧1000000000*n≤zd1 O c then (j:Int) else who))=some who:=h
  cases ha:zer O P n L j with
  | none=>rw [ha] at h';cases h'
  | some w0 =>
   by_cases e:i=j
   ·subst e
    rw [ha] at h'
    simp only [List.getElem?_eq_getElem hl] at h'
    intro hc
    rw [if_pos hc] at h'
    cases h'
   ·exact zwu ha i hl (by omega)
theorem zre {f:Q4→Q4} {X:List Q4} {c d:Int} (h:d.toNat≠c.toNat):(zgh f X c)[d.toNat]?=X[d.toNat]?:=by
 unfold zgh
 split
 ·rw [List.getElem?_set_ne (fun e=>h e.symm)]
 ·rfl
theorem zti {n:Int} {P:List Q4} {L:List Int} (h0:∀x ∈ L,0≤x) (hnd:L.Nodup):∀j,j≤L.length→∀k (hk:k<P.length),(zet n P L j)[k]?=some (if (k:Int) ∈ L.take j then zej n P[k] else P[k])
 | 0,_,k,hk=>by
  show P[k]?=_
  rw [List.getElem?_eq_getElem hk]
  simp
 | j+1,hj,k,hk=>by
  have hlt:j<L.length:=by omega
  have ih:=zti (n:=n) (P:=P) h0 hnd j (by omega)
  have hx:=h0 _ (List.getElem_mem hlt)
  rw [zm3 hlt]
  have hnot:L[j] ∉ L.take j:=by
   intro hm
   obtain ⟨i,hi,e⟩:=List.mem_iff_getElem.1 hm
   rw [List.length_take] at hi
   rw [List.getElem_take] at e
   exact (List.pairwise_iff_getElem.1 hnd) i j (by omega) hlt (by omega) e
  by_cases e:(k:Int)=L[j]
  ·have ek:(L[j]).toNat=k:=by omega
   have hin:(k:Int) ∈ L.take (j+1):=by
    rw [List.take_succ_eq_append_getElem hlt]
    exact List.mem_append_right _ (List.mem_singleton.2 e)
   rw [if_pos hin]
   have hv:=ih k hk
   rw [if_neg (by rw [e];exact hnot)] at hv
   unfold zgh
   rw [ek,hv]
   simp only
   rw [List.getElem?_set_self (by rw [zee];exact hk)]
  ·have ho:=zre (f:=zej n) (X:=zet n P L j) (c:=L[j]) (d:=(k:Int)) (by rw [Int.toNat_natCast];omega)
   rw [Int.toNat_natCast] at ho
   rw [ho,ih k hk]
   have:((k:Int) ∈ L.take (j+1)) ↔ ((k:Int) ∈ L.take j):=by
    rw [List.take_succ_eq_append_getElem hlt,List.mem_append,List.mem_singleton]
    exact ⟨fun h=>h.resolve_right e,.inl⟩
   simp only [this]
theorem ztj {n w:Int} {O:List Q4} {L:List Int} {Φ:Nat→Q4→Prop} (hf:∀k q,Φ k q→Φ k (zek n q)) (h:∀k q,O[k]?=some q→Φ k q):∀j k q,(zcz n w O L j)[k]?=some q→Φ k q
 | 0,k,q,hq=>h k q hq
 | j+1,k,q,hq=>by
  have ih:=ztj (w:=w) (L:=L) hf h j
  unfold zcz at hq
  split at hq
  ·rename_i c hc
   split at hq
   ·unfold zgh at hq
    split at hq
    ·rename_i x hx
     by_cases e:c.toNat=k
     ·subst e
      rw [List.getElem?_set_self (by
       have:=(List.getElem?_eq_some_iff.1 hx).1
       exact this)] at hq
      injection hq with hq
      rw [←hq]
      exact hf _ _ (ih _ _ hx)
     ·rw [List.getElem?_set_ne e] at hq
      exact ih k q hq
    ·exact ih k q hq
   ·exact ih k q hq
  ·exact ih k q hq
theorem zwv {q:Q4} {l:Int} (h:zh5 q=true) (h0:0≤l) (h1:l≤q.2.2.1):zh5 (zxw q l)=true:=by
 have hb:=zdl h
 unfold zh5 zgm zxw at *
 rw [Bool.and_eq_true,Bool.and_eq_true,Bool.and_eq_true] at h
 simp only
 rw [Bool.and_eq_true,Bool.and_eq_true,Bool.and_eq_true]
 refine ⟨⟨h.1.1,?_⟩,h.2⟩
 unfold zvd
 rw [decide_eq_true h0,decide_eq_true (by omega)]
 rfl
theorem z1k {n:Int} {q:Q4} (hn:0≤n) (h:zh5 q=true):zh5 (zek n q)=true:=by
 have hb:=zdl h
 exact zwv h (by omega) (by omega)
structure Spent (T O P:List Q4) (leaf now n:Int) (YO YP:List Q4):Prop where
 ok:zbg T YO YP=true
 tim:zdv YO=now
 yes:zm4 T O P leaf now n=true→∀k (h:k<P.length) (h':k<YP.length),YP[k].2.2.1=zda P[k].1 P[k].2.1 P[k].2.2.1 P[k].2.2.2 now-(if (k:Int) ∈ zaq T leaf then 1000000000*n else 0)
 no:zm4 T O P leaf now n=false→∀k (h:k<P.length) (h':k<YP.length),YP[k].2.2.1=zda P[k].1 P[k].2.1 P[k].2.2.1 P[k].2.2.2 now
theorem zpy {T O P:List Q4} {now:Int} (h:IsLend T O P) (hn:zav now=true) (ha:zdv O≤now):∀k (h1:k<T.length) (h2:k<(zap now O).length) (h3:k<(zap now P).length),PairOk now (zap now O)[k] (zap now P)[k] T[k]:=by
 intro k h1 h2 h3
 have h2':k<O.length:=by rw [zao] at h2;exact h2
 have h3':k<P.length:=by rw [zao] at h3;exact h3
 have hp:=zd0 (h.pair k h1 h2' h3')
 rw [zdr h2' h2,zdr h3' h3]
 have eT:∀t:Int,t=zdv O→zdm t now=now:=by
  intro t e
  unfold zdm
  split <;> omega
 exact ⟨zij hp.oka hn,zij hp.okb hn,eT _ hp.ta,eT _ hp.tb,hp.ra,hp.rb,hp.ua,hp.ub⟩
theorem zrf {T O P:List Q4} {now:Int} (h0:0<T.length) (lo:O.length=T.length) (lp:P.length=T.length) (h:∀k (h1:k<T.length) (h2:k<O.length) (h3:k<P.length),PairOk now O[k] P[k] T[k]):zdv O=now:=by
 have:=(h 0 h0 (by omega) (by omega)).ta
 unfold zdv
 rw [List.getElem?_eq_getElem (show 0<O.length by omega)]
 exact this
theorem zhd {T O P:List Q4} {now:Int} (hc:zah T=0) (h0:0<T.length) (lo:O.length=T.length) (lp:P.length=T.length) (h:∀k (h1:k<T.length) (h2:k<O.length) (h3:k<P.length),PairOk now O[k] P[k] T[k]):zbg T O P=true∧zdv O=now:=by
 have ha:=zrf h0 lo lp h
 refine ⟨?_,ha⟩
 unfold zbg
 rw [decide_eq_true hc,decide_eq_true lo,decide_eq_true lp,zjb (fun k h1 h2 h3=>by rw [ha];exact zwf (h k h1 h2 h3)) lo lp T.length (Nat.le_refl _)]
 rfl
theorem zyj {T O P:List Q4} {leaf now n:Int} (h:zcx T O P leaf now n=true):IsLend T O P∧(0≤leaf∧leaf<T.length)∧zav now=true∧zdv O≤now∧(1≤n∧n≤1500):=by
 unfold zcx at h
 simp only [Bool.and_eq_true,decide_eq_true_eq] at h
 obtain ⟨⟨⟨⟨⟨h1,h2⟩,h3⟩,h4⟩,h5⟩,h6⟩:=h
 exact ⟨zbf h1,⟨h2.1,by omega⟩,h4,h5,ziy h6⟩
theorem spent {T O P:List Q4} {leaf now n:Int} (h:zcx T O P leaf now n=true):Spent T O P leaf now n (zgz T O P leaf now n) (zg0 T O P leaf now n):=by
 obtain ⟨hL,⟨l0,l1⟩,ht,ha,hn⟩:=zyj h
 have hF:=zpy hL ht ha
 have hT0:0<T.length:=by omega
 have flo:(zap now O).length=T.length:=by rw [zao,hL.lo]
 have flp:(zap now P).length=T.length:=by rw [zao,hL.lp]
 have hw:=hL.tree.sound.well
 have hmem:=zg9 hw (leaf+1).toNat leaf l1 (by omega)
 have hnd:=zmy hw (leaf+1).toNat leaf l1 (by omega)
 have h0:∀x ∈ zaq T leaf,0≤x:=fun x hx=>(hmem x hx).1
 have eF:zm4 T O P leaf now n=decide (0≤zf1 T O P leaf now n):=by unfold zm4;rw [h];rfl
 by_cases hwho:zf1 T O P leaf now n<0
 ·have eO:zgz T O P leaf now n=zap now O:=by unfold zgz;rw [if_pos h,if_pos hwho]
  have eP:zg0 T O P leaf now n=zap now P:=by unfold zg0;rw [if_pos h,if_pos hwho]
  obtain ⟨ok,hat⟩:=zhd hL.code hT0 flo flp hF
  rw [eO,eP]
  refine ⟨ok,hat,fun hy=>?_,fun _ k hk hk'=>?_⟩
  ·rw [eF,decide_eq_true_eq] at hy
   omega
  ·rw [zdr hk hk']
   rfl
 ·have eO:zgz T O P leaf now n=zcz n (zf1 T O P leaf now n) (zap now O) (zaq T leaf) (zaq T leaf).length:=by unfold zgz;rw [if_pos h,if_neg hwho]
  have eP:zg0 T O P leaf now n=zet n (zap now P) (zaq T leaf) (zaq T leaf).length:=by unfold zg0;rw [if_pos h,if_neg hwho]
  -- every level on the path is high enough
  have hall:∀i (hi:i<(zaq T leaf).length),¬zd1 (zap now P) (zaq T leaf)[i]<1000000000*n:=by
   intro i hi
   have hk:zer (zap now O) (zap now P) n (zaq T leaf) (zaq T leaf).length=some (zf1 T O P leaf now n):=by
    unfold zf1 zhx at hwho ⊢
    cases hq:zer (zap now O) (zap now P) n (zaq T leaf) (zaq T leaf).length with
    | some who=>rfl
    | none=>rw [hq] at hwho;simp at hwho
   exact zwu hk i hi hi
  have htop:∀k (hk:k<(zap now P).length),(zet n (zap now P) (zaq T leaf) (zaq T leaf).length)[k]?=some (if (k:Int) ∈ zaq T leaf then zej n (zap now P)[k] else (zap now P)[k]):=by
   intro k hk
   have:=zti (n:=n) (P:=zap now P) h0 hnd _ (Nat.le_refl _) k hk
   rwa [List.take_length] at this
  have lo':(zcz n (zf1 T O P leaf now n) (zap now O) (zaq T leaf) (zaq T leaf).length).length=T.length:=by rw [zef,flo]
  have lp':(zet n (zap now P) (zaq T leaf) (zaq T leaf).length).length=T.length:=by rw [zee,flp]
  have hown:=ztj (n:=n) (w:=zf1 T O P leaf now n) (O:=zap now O) (L:=zaq T leaf) (Φ:=fun k q=>∀h1:k<T.length,zh5 q=true∧q.2.2.2=now∧q.1=T[k].2.1∧q.2.1=T[k].2.2.2)
   (fun k q hq h1=>by
    obtain ⟨a,b,c,d⟩:=hq h1
    exact ⟨z1k (by omega) a,b,c,d⟩)
   (fun k q hq h1=>by
    have hk:=(List.getElem?_eq_some_iff.1 hq).1
    have e:=(List.getElem?_eq_some_iff.1 hq).2
    have hp:=hF k h1 hk (by omega)
    rw [←e]
    exact ⟨hp.oka,hp.ta,hp.ra,hp.ua⟩) (zaq T leaf).length
  have hlev:∀k (hk:k<(zap now P).length),(k:Int) ∈ zaq T leaf→1000000000*n≤(zap now P)[k].2.2.1:=by
   intro k hk hm
   obtain ⟨i,hi,e⟩:=List.mem_iff_getElem.1 hm
   have:=hall i hi
   rw [e,zi6 hk] at this
   omega
  have hpairs:∀k (h1:k<T.length) (h2:k<(zcz n (zf1 T O P leaf now n) (zap now O) (zaq T leaf) (zaq T leaf).length).length) (h3:k<(zet n (zap now P) (zaq T leaf) (zaq T leaf).length).length),PairOk now (zcz n (zf1 T O P leaf now n) (zap now O) (zaq T leaf) (zaq T leaf).length)[k] (zet n (zap now P) (zaq T leaf) (zaq T leaf).length)[k] T[k]:=by
   intro k h1 h2 h3
   obtain ⟨a,b,c,d⟩:=hown k _ (List.getElem?_eq_getElem h2) h1
   have hkP:k<(zap now P).length:=by omega
   have hp:=hF k h1 (by omega) hkP
   have e:=htop k hkP
   rw [List.getElem?_eq_getElem h3] at e
   injection e with e
   rw [e]
   split
   ·rename_i hm
    have hl:=hlev k hkP hm
    exact ⟨a,zwv hp.okb (by omega) (by omega),b,hp.tb,c,hp.rb,d,hp.ub⟩
   ·exact ⟨a,hp.okb,b,hp.tb,c,hp.rb,d,hp.ub⟩
  obtain ⟨ok,hat⟩:=zhd hL.code hT0 lo' lp' hpairs
  rw [eO,eP]
  refine ⟨ok,hat,fun _ k hk hk'=>?_,fun hy=>?_⟩
  ·have hkP:k<(zap now P).length:=by rw [zao];exact hk
   have e:=htop k hkP
   rw [List.getElem?_eq_getElem hk'] at e
   injection e with e
   rw [e,zdr hk hkP]
   split
   ·rfl
   ·show _=_-0
    rw [Int.sub_zero]
    rfl
  ·rw [eF,decide_eq_false_iff_not] at hy
   omega
end Go.Proofs.YthiojkjcmhojoaaGreat
