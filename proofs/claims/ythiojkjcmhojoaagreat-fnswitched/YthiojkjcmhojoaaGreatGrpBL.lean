import Derived.Test.YthiojkjcmhojoaaGreatGrpBK
import Derived.Test.YthiojkjcmhojoaaGreatGrpBF
import Derived.Sort.CutIn
namespace Go.Proofs.YthiojkjcmhojoaaGreat
open Go.ChangeShapes Go.WideShapes Go.ChangeAt Go.RowKit Go.Shelf
set_option maxRecDepth 100000
set_option linter.unusedVariables false
set_option linter.unusedSimpArgs false
open Go.ChangeShapes Go.WideShapes Go.ChangeAt Go.RowKit
attribute [local go_sem] Oper.semAt_some
theorem OnlyO.next {o:Option Nat} {w W W':World} (h:OnlyO o w W) (hb:Below W.heap.size W W'):OnlyO o w W' :=
 ⟨hb.os.trans h.os,hb.tape.trans h.tape,hb.output.trans h.output,Nat.le_trans h.size hb.size,fun k hk hn=>(hb.block k (Nat.lt_of_lt_of_le hk h.size)).trans (h.block k hk hn)⟩
theorem OnlyO.put {g:Nat} {w W:World} (h:OnlyO (some g) w W) (o:Nat) (q:Q4):OnlyO (some g) w (zrv W g o q):=by
 have k:=zj9 (x:=q) (o:=o) (Only.refl g W)
 exact ⟨k.os.trans h.os,k.tape.trans h.tape,k.output.trans h.output,Nat.le_trans h.size k.size,fun j hj hn=>(k.block j (Nat.lt_of_lt_of_le hj h.size) (fun e=>hn (by rw [e]))).trans (h.block j hj hn)⟩
theorem zv2 {O P:List Q4} {n:Int} {L:List Int}:∀{j:Nat} {who:Int},zej O P n L j=some who→∀i (h:i<L.length),i<j→¬zdu P L[i]<1000000000*n
 | 0,_,_,i,_,hi=>by omega
 | j+1,who,h,i,hl,hi=>by
  have h':(match zej O P n L j with|none=>none|some who=>match L[j]? with|none=>some who|some c=>if zdu P c<1000000000*n then none else some (if who<0∧1000000000*n≤zdu O c then (j:Int) else who))=some who:=h
  cases ha:zej O P n L j with
  | none=>rw [ha] at h';cases h'
  | some w0 =>
   by_cases e:i=j
   ·subst e
    rw [ha] at h'
    simp only [List.getElem?_eq_getElem hl] at h'
    intro hc
    rw [if_pos hc] at h'
    cases h'
   ·exact zv2 ha i hl (by omega)
theorem zql {f:Q4→Q4} {X:List Q4} {c d:Int} (h:d.toNat≠c.toNat):(zf7 f X c)[d.toNat]?=X[d.toNat]?:=by
 unfold zf7
 split
 ·rw [List.getElem?_set_ne (fun e=>h e.symm)]
 ·rfl
theorem zsp {n:Int} {P:List Q4} {L:List Int} (h0:∀x ∈ L,0≤x) (hnd:L.Nodup):∀j,j≤L.length→∀k (hk:k<P.length),(zel n P L j)[k]?=some (if (k:Int) ∈ L.take j then zd9 n P[k] else P[k])
 | 0,_,k,hk=>by
  show P[k]?=_
  rw [List.getElem?_eq_getElem hk]
  simp
 | j+1,hj,k,hk=>by
  have hlt:j<L.length:=by omega
  have ih:=zsp (n:=n) (P:=P) h0 hnd j (by omega)
  have hx:=h0 _ (List.getElem_mem hlt)
  rw [zmf hlt]
  have hnot:L[j] ∉ L.take j:=by
   intro hm
   obtain ⟨i,hi,e⟩:=List.mem_iff_getElem.1 hm
   rw [List.length_take] at hi
   rw [List.getElem_take] at e
   exact (List.pairwise_iff_getElem.1 hnd) i j (by omega) hlt (by omega) e
  by_cases e:(k:Int)=L[j]
  ·have ek:(L[j]).toNat=k:=by omega
   have hin:(k:Int) ∈ L.take (j+1):=by
    rw [List.take_succ_eq_append_getElem hlt]
    exact List.mem_append_right _ (List.mem_singleton.2 e)
   rw [if_pos hin]
   have hv:=ih k hk
   rw [if_neg (by rw [e];exact hnot)] at hv
   unfold zf7
   rw [ek,hv]
   simp only
   rw [List.getElem?_set_self (by rw [zd4];exact hk)]
  ·have ho:=zql (f:=zd9 n) (X:=zel n P L j) (c:=L[j]) (d:=(k:Int)) (by rw [Int.toNat_natCast];omega)
   rw [Int.toNat_natCast] at ho
   rw [ho,ih k hk]
   have:((k:Int) ∈ L.take (j+1)) ↔ ((k:Int) ∈ L.take j):=by
    rw [List.take_succ_eq_append_getElem hlt,List.mem_append,List.mem_singleton]
    exact ⟨fun h=>h.resolve_right e,.inl⟩
   simp only [this]
theorem zsq {n w:Int} {O:List Q4} {L:List Int} {Φ:Nat→Q4→Prop} (hf:∀k q,Φ k q→Φ k (zea n q)) (h:∀k q,O[k]?=some q→Φ k q):∀j k q,(zcw n w O L j)[k]?=some q→Φ k q
 | 0,k,q,hq=>h k q hq
 | j+1,k,q,hq=>by
  have ih:=zsq (w:=w) (L:=L) hf h j
  unfold zcw at hq
  split at hq
  ·rename_i c hc
   split at hq
   ·unfold zf7 at hq
    split at hq
    ·rename_i x hx
     by_cases e:c.toNat=k
     ·subst e
      rw [List.getElem?_set_self (by
       have:=(List.getElem?_eq_some_iff.1 hx).1
       exact this)] at hq
      injection hq with hq
      rw [←hq]
      exact hf _ _ (ih _ _ hx)
     ·rw [List.getElem?_set_ne e] at hq
      exact ih k q hq
    ·exact ih k q hq
   ·exact ih k q hq
  ·exact ih k q hq
theorem zv3 {q:Q4} {l:Int} (h:zj0 q=true) (h0:0≤l) (h1:l≤q.2.2.1):zj0 (zxb q l)=true:=by
 have hb:=zgi h
 unfold zj0 zha zxb at *
 rw [Bool.and_eq_true,Bool.and_eq_true,Bool.and_eq_true] at h
 simp only
 rw [Bool.and_eq_true,Bool.and_eq_true,Bool.and_eq_true]
 refine ⟨⟨h.1.1,?_⟩,h.2⟩
 unfold zuo
 rw [decide_eq_true h0,decide_eq_true (by omega)]
 rfl
theorem z0c {n:Int} {q:Q4} (hn:0≤n) (h:zj0 q=true):zj0 (zea n q)=true:=by
 have hb:=zgi h
 exact zv3 h (by omega) (by omega)
structure Spent (T O P:List Q4) (leaf now n:Int) (YO YP:List Q4):Prop where
 ok:zbj T YO YP=true
 tim:zdt YO=now
 yes:zmg T O P leaf now n=true→∀k (h:k<P.length) (h':k<YP.length),YP[k].2.2.1=zid P[k].1 P[k].2.1 P[k].2.2.1 P[k].2.2.2 now-(if (k:Int) ∈ zao T leaf then 1000000000*n else 0)
 no:zmg T O P leaf now n=false→∀k (h:k<P.length) (h':k<YP.length),YP[k].2.2.1=zid P[k].1 P[k].2.1 P[k].2.2.1 P[k].2.2.2 now
theorem zov {T O P:List Q4} {now:Int} (h:IsLend T O P) (hn:zbd now=true) (ha:zdt O≤now):∀k (h1:k<T.length) (h2:k<(zay now O).length) (h3:k<(zay now P).length),PairOk now (zay now O)[k] (zay now P)[k] T[k]:=by
 intro k h1 h2 h3
 have h2':k<O.length:=by rw [zav] at h2;exact h2
 have h3':k<P.length:=by rw [zav] at h3;exact h3
 have hp:=ze5 (h.pair k h1 h2' h3')
 rw [zf4 h2' h2,zf4 h3' h3]
 have eT:∀t:Int,t=zdt O→zlj t now=now:=by
  intro t e
  unfold zlj
  split <;> omega
 exact ⟨zh0 hp.oka hn,zh0 hp.okb hn,eT _ hp.ta,eT _ hp.tb,hp.ra,hp.rb,hp.ua,hp.ub⟩
theorem zqm {T O P:List Q4} {now:Int} (h0:0<T.length) (lo:O.length=T.length) (lp:P.length=T.length) (h:∀k (h1:k<T.length) (h2:k<O.length) (h3:k<P.length),PairOk now O[k] P[k] T[k]):zdt O=now:=by
 have:=(h 0 h0 (by omega) (by omega)).ta
 unfold zdt
 rw [List.getElem?_eq_getElem (show 0<O.length by omega)]
 exact this
theorem zg1 {T O P:List Q4} {now:Int} (hc:zak T=0) (h0:0<T.length) (lo:O.length=T.length) (lp:P.length=T.length) (h:∀k (h1:k<T.length) (h2:k<O.length) (h3:k<P.length),PairOk now O[k] P[k] T[k]):zbj T O P=true∧zdt O=now:=by
 have ha:=zqm h0 lo lp h
 refine ⟨?_,ha⟩
 unfold zbj
 rw [decide_eq_true hc,decide_eq_true lo,decide_eq_true lp,ziq (fun k h1 h2 h3=>by rw [ha];exact zvn (h k h1 h2 h3)) lo lp T.length (Nat.le_refl _)]
 rfl
theorem zxx {T O P:List Q4} {leaf now n:Int} (h:zcu T O P leaf now n=true):IsLend T O P∧(0≤leaf∧leaf<T.length)∧zbd now=true∧zdt O≤now∧(1≤n∧n≤1500):=by
 unfold zcu at h
 simp only [Bool.and_eq_true,decide_eq_true_eq] at h
 obtain ⟨⟨⟨⟨⟨h1,h2⟩,h3⟩,h4⟩,h5⟩,h6⟩:=h
 exact ⟨zbk h1,⟨h2.1,by omega⟩,h4,h5,zic h6⟩
theorem spent {T O P:List Q4} {leaf now n:Int} (h:zcu T O P leaf now n=true):Spent T O P leaf now n (zgo T O P leaf now n) (zgp T O P leaf now n):=by
 obtain ⟨hL,⟨l0,l1⟩,ht,ha,hn⟩:=zxx h
 have hF:=zov hL ht ha
 have hT0:0<T.length:=by omega
 have flo:(zay now O).length=T.length:=by rw [zav,hL.lo]
 have flp:(zay now P).length=T.length:=by rw [zav,hL.lp]
 have hw:=hL.tree.sound.well
 have hmem:=zgz hw (leaf+1).toNat leaf l1 (by omega)
 have hnd:=zmb hw (leaf+1).toNat leaf l1 (by omega)
 have h0:∀x ∈ zao T leaf,0≤x:=fun x hx=>(hmem x hx).1
 have eF:zmg T O P leaf now n=decide (0≤zfn T O P leaf now n):=by unfold zmg;rw [h];rfl
 by_cases hwho:zfn T O P leaf now n<0
 ·have eO:zgo T O P leaf now n=zay now O:=by unfold zgo;rw [if_pos h,if_pos hwho]
  have eP:zgp T O P leaf now n=zay now P:=by unfold zgp;rw [if_pos h,if_pos hwho]
  obtain ⟨ok,hat⟩:=zg1 hL.code hT0 flo flp hF
  rw [eO,eP]
  refine ⟨ok,hat,fun hy=>?_,fun _ k hk hk'=>?_⟩
  ·rw [eF,decide_eq_true_eq] at hy
   omega
  ·rw [zf4 hk hk']
   rfl
 ·have eO:zgo T O P leaf now n=zcw n (zfn T O P leaf now n) (zay now O) (zao T leaf) (zao T leaf).length:=by unfold zgo;rw [if_pos h,if_neg hwho]
  have eP:zgp T O P leaf now n=zel n (zay now P) (zao T leaf) (zao T leaf).length:=by unfold zgp;rw [if_pos h,if_neg hwho]
  -- every level on the path is high enough
  have hall:∀i (hi:i<(zao T leaf).length),¬zdu (zay now P) (zao T leaf)[i]<1000000000*n:=by
   intro i hi
   have hk:zej (zay now O) (zay now P) n (zao T leaf) (zao T leaf).length=some (zfn T O P leaf now n):=by
    unfold zfn zhi at hwho ⊢
    cases hq:zej (zay now O) (zay now P) n (zao T leaf) (zao T leaf).length with
    | some who=>rfl
    | none=>rw [hq] at hwho;simp at hwho
   exact zv2 hk i hi hi
  have htop:∀k (hk:k<(zay now P).length),(zel n (zay now P) (zao T leaf) (zao T leaf).length)[k]?=some (if (k:Int) ∈ zao T leaf then zd9 n (zay now P)[k] else (zay now P)[k]):=by
   intro k hk
   have:=zsp (n:=n) (P:=zay now P) h0 hnd _ (Nat.le_refl _) k hk
   rwa [List.take_length] at this
  have lo':(zcw n (zfn T O P leaf now n) (zay now O) (zao T leaf) (zao T leaf).length).length=T.length:=by rw [zd5,flo]
  have lp':(zel n (zay now P) (zao T leaf) (zao T leaf).length).length=T.length:=by rw [zd4,flp]
  have hown:=zsq (n:=n) (w:=zfn T O P leaf now n) (O:=zay now O) (L:=zao T leaf) (Φ:=fun k q=>∀h1:k<T.length,zj0 q=true∧q.2.2.2=now∧q.1=T[k].2.1∧q.2.1=T[k].2.2.2)
   (fun k q hq h1=>by
    obtain ⟨a,b,c,d⟩:=hq h1
    exact ⟨z0c (by omega) a,b,c,d⟩)
   (fun k q hq h1=>by
    have hk:=(List.getElem?_eq_some_iff.1 hq).1
    have e:=(List.getElem?_eq_some_iff.1 hq).2
    have hp:=hF k h1 hk (by omega)
    rw [←e]
    exact ⟨hp.oka,hp.ta,hp.ra,hp.ua⟩) (zao T leaf).length
  have hlev:∀k (hk:k<(zay now P).length),(k:Int) ∈ zao T leaf→1000000000*n≤(zay now P)[k].2.2.1:=by
   intro k hk hm
   obtain ⟨i,hi,e⟩:=List.mem_iff_getElem.1 hm
   have:=hall i hi
   rw [e,zim hk] at this
   omega
  have hpairs:∀k (h1:k<T.length) (h2:k<(zcw n (zfn T O P leaf now n) (zay now O) (zao T leaf) (zao T leaf).length).length) (h3:k<(zel n (zay now P) (zao T leaf) (zao T leaf).length).length),PairOk now (zcw n (zfn T O P leaf now n) (zay now O) (zao T leaf) (zao T leaf).length)[k] (zel n (zay now P) (zao T leaf) (zao T leaf).length)[k] T[k]:=by
   intro k h1 h2 h3
   obtain ⟨a,b,c,d⟩:=hown k _ (List.getElem?_eq_getElem h2) h1
   have hkP:k<(zay now P).length:=by omega
   have hp:=hF k h1 (by omega) hkP
   have e:=htop k hkP
   rw [List.getElem?_eq_getElem h3] at e
   injection e with e
   rw [e]
   split
   ·rename_i hm
    have hl:=hlev k hkP hm
    exact ⟨a,zv3 hp.okb (by omega) (by omega),b,hp.tb,c,hp.rb,d,hp.ub⟩
   ·exact ⟨a,hp.okb,b,hp.tb,c,hp.rb,d,hp.ub⟩
  obtain ⟨ok,hat⟩:=zg1 hL.code hT0 lo' lp' hpairs
  rw [eO,eP]
  refine ⟨ok,hat,fun _ k hk hk'=>?_,fun hy=>?_⟩
  ·have hkP:k<(zay now P).length:=by rw [zav];exact hk
   have e:=htop k hkP
   rw [List.getElem?_eq_getElem hk'] at e
   injection e with e
   rw [e,zf4 hk hkP]
   split
   ·rfl
   ·show _=_-0
    rw [Int.sub_zero]
    rfl
  ·rw [eF,decide_eq_false_iff_not] at hy
   omega
end Go.Proofs.YthiojkjcmhojoaaGreat
