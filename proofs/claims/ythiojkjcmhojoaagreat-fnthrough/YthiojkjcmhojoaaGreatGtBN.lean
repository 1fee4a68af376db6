import Derived.RangeFuncNested
import Derived.RangeFuncBound
import Derived.Shelf.RegionOpen
import Derived.OwnWalkIn
import Derived.LoopNIn
import Derived.Maps.AppendAt
import Derived.Test.YthiojkjcmhojoaaGreatGtBI
import Derived.Sort.CutIn
import Derived.Test.YthiojkjcmhojoaaGreatGtAXX1
namespace Go.Proofs.YthiojkjcmhojoaaGreat
open Go.ChangeShapes Go.WideShapes Go.ChangeAt Go.RowKit
set_option maxRecDepth 100000
set_option linter.all false
theorem zx2{O P:List Q4}{n:Int}{L:List Int}:∀{j:Nat} {who:Int},zer O P n L j=some who->∀i (h:i<L.length),i<j->¬zdz P L[i]<1000000000*n
 | 0,_,_,i,_,hi=>by omega
 | j+1,who,h,i,hl,hi=>by
  have h':(match zer O P n L j with|none=>none|some who=>match L[j]? with|none=>some who|some c=>if zdz P c<1000000000*n then none else some (if who<0/\1000000000*n<=zdz O c then (j:Int) else who))=some who:=h;cases ha:zer O P n L j with
  | none=>rw[ha]at h';cases h'
  | some w0 =>
   by_cases e:i=j
   ·subst e;rw[ha]at h';simp only[List.getElem?_eq_getElem hl]at h';intro hc;rw[if_pos hc]at h';cases h'
   ·exact zx2 ha i hl (by omega)
theorem zsn{f:Q4->Q4}{X:List Q4}{c d:Int}(h:d.toNat≠c.toNat):(zgl f X c)[d.toNat]?=X[d.toNat]?:=by
 unfold zgl;split
 ·rw[List.getElem?_set_ne (fun e=>h e.symm)]
 ·rfl
theorem zup{n:Int}{P:List Q4}{L:List Int}(h0:∀x ∈ L,0<=x)(hnd:L.Nodup):∀j,j<=L.length->∀k (hk:k<P.length),(zet n P L j)[k]?=some (if (k:Int) ∈ L.take j then zei n P[k] else P[k])
 | 0,_,k,hk=>by show P[k]?=_;rw[List.getElem?_eq_getElem hk];simp
 | j+1,hj,k,hk=>by
  have hlt:j<L.length:=(by omega);have ih:=zup (n:=n) (P:=P) h0 hnd j (by omega);have hx:=h0 _ (List.getElem_mem hlt);rw[zn6 hlt];have hnot:L[j] ∉ L.take j:=(by intro hm;obtain⟨i,hi,e⟩:=List.mem_iff_getElem.1 hm;rw[List.length_take]at hi;rw[List.getElem_take]at e;exact (List.pairwise_iff_getElem.1 hnd) i j (by omega) hlt (by omega) e);by_cases e:(k:Int)=L[j]
  ·have ek:(L[j]).toNat=k:=(by omega);have hin:(k:Int) ∈ L.take (j+1):=(by rw[List.take_succ_eq_append_getElem hlt];exact List.mem_append_right _ (List.mem_singleton.2 e));rw[if_pos hin];have hv:=ih k hk;rw[if_neg (by rw[e];exact hnot)]at hv;unfold zgl;rw[ek,hv];simp only;rw[List.getElem?_set_self (by rw[zec];exact hk)]
  ·have ho:=zsn (f:=zei n) (X:=zet n P L j) (c:=L[j]) (d:=(k:Int)) (by rw[Int.toNat_natCast];omega);rw[Int.toNat_natCast]at ho;rw[ho,ih k hk];have:((k:Int) ∈ L.take (j+1)) ↔ ((k:Int) ∈ L.take j):=(by rw[List.take_succ_eq_append_getElem hlt,List.mem_append,List.mem_singleton];exact⟨fun h=>h.resolve_right e,.inl⟩);simp only[this]
theorem zuq{n w:Int}{O:List Q4}{L:List Int}{Φ:Nat->Q4->Prop}(hf:∀k q,Φ k q->Φ k (zej n q))(h:∀k q,O[k]?=some q->Φ k q):∀j k q,(zc2 n w O L j)[k]?=some q->Φ k q
 | 0,k,q,hq=>h k q hq
 | j+1,k,q,hq=>by
  have ih:=zuq (w:=w) (L:=L) hf h j;unfold zc2 at hq;split at hq
  ·rename_i c hc;split at hq
   ·unfold zgl at hq;split at hq
    ·rename_i x hx;by_cases e:c.toNat=k
     ·subst e;rw[List.getElem?_set_self (by have:=(List.getElem?_eq_some_iff.1 hx).1;exact this)]at hq;injection hq with hq;rw[<-hq];exact hf _ _ (ih _ _ hx)
     ·rw[List.getElem?_set_ne e]at hq;exact ih k q hq
    ·exact ih k q hq
   ·exact ih k q hq
  ·exact ih k q hq
theorem zx3{q:Q4}{l:Int}(h:zle q=true)(h0:0<=l)(h1:l<=q.2.2.1):zle (zzc q l)=true:=by have hb:=zi2 h;unfold zle zj0 zzc at *;rw[bae,bae,bae]at h;simp only;rw[bae,bae,bae];refine⟨⟨h.1.1,?_⟩,h.2⟩;unfold zw4;rw[decide_eq_true h0,decide_eq_true (by omega)];rfl
theorem z17{n:Int}{q:Q4}(hn:0<=n)(h:zle q=true):zle (zej n q)=true:=by have hb:=zi2 h;exact zx3 h (by omega) (by omega)
structure Spent (T O P:List Q4) (leaf now n:Int) (YO YP:List Q4):Prop where
 ok:zbp T YO YP=true
 tim:zeq YO=now
 yes:zn7 T O P leaf now n=true->∀k (h:k<P.length) (h':k<YP.length),YP[k].2.2.1=zom P[k].1 P[k].2.1 P[k].2.2.1 P[k].2.2.2 now-(if (k:Int) ∈ zaq T leaf then 1000000000*n else 0)
 no:zn7 T O P leaf now n=false->∀k (h:k<P.length) (h':k<YP.length),YP[k].2.2.1=zom P[k].1 P[k].2.1 P[k].2.2.1 P[k].2.2.2 now
section
variable{T O P:List Q4}
theorem zqw{now:Int}(h:IsLend T O P)(hn:zba now=true)(ha:zeq O<=now):∀k (h1:k<T.length) (h2:k<(za1 now O).length) (h3:k<(za1 now P).length),PairOk now (za1 now O)[k] (za1 now P)[k] T[k]:=by
 intro k h1 h2 h3;have h2':k<O.length:=by rw[zaw]at h2;exact h2
 have h3':k<P.length:=by rw[zaw]at h3;exact h3
 have hp:=zg1 (h.pair k h1 h2' h3');rw[zgh h2' h2,zgh h3' h3];have eT:∀t:Int,t=zeq O->zsa t now=now:=by intro t e;unfold zsa;split<;>omega
 exact⟨zii hp.oka hn,zii hp.okb hn,eT _ hp.ta,eT _ hp.tb,hp.ra,hp.rb,hp.ua,hp.ub⟩
theorem zso{now:Int}(h0:0<T.length)(lo:O.length=T.length)(lp:P.length=T.length)(h:∀k (h1:k<T.length) (h2:k<O.length) (h3:k<P.length),PairOk now O[k] P[k] T[k]):zeq O=now:=by have:=(h 0 h0 (by omega) (by omega)).ta;unfold zeq;rw[List.getElem?_eq_getElem (show 0<O.length by omega)];exact this
theorem zhg{now:Int}(hc:zal T=0)(h0:0<T.length)(lo:O.length=T.length)(lp:P.length=T.length)(h:∀k (h1:k<T.length) (h2:k<O.length) (h3:k<P.length),PairOk now O[k] P[k] T[k]):zbp T O P=true/\zeq O=now:=by have ha:=zso h0 lo lp h;refine⟨?_,ha⟩;unfold zbp;rw[decide_eq_true hc,decide_eq_true lo,decide_eq_true lp,zn5 (fun k h1 h2 h3=>by rw[ha];exact z1v (h k h1 h2 h3)) lo lp T.length (nrf _)];rfl
theorem zzw{leaf now n:Int}(h:zcy T O P leaf now n=true):IsLend T O P/\(0<=leaf/\leaf<T.length)/\zba now=true/\zeq O<=now/\(1<=n/\n<=1500):=by unfold zcy at h;simp only[bae,decide_eq_true_eq]at h;obtain⟨⟨⟨⟨⟨h1,h2⟩,h3⟩,h4⟩,h5⟩,h6⟩:=h;exact⟨zbo h1,⟨h2.1,by omega⟩,h4,h5,zi1 h6⟩
theorem spent{leaf now n:Int}(h:zcy T O P leaf now n=true):Spent T O P leaf now n (zg2 T O P leaf now n) (zg3 T O P leaf now n):=by
 obtain⟨hL,⟨l0,l1⟩,ht,ha,hn⟩:=zzw h;have hF:=zqw hL ht ha;have hT0:0<T.length:=by omega
 have flo:(za1 now O).length=T.length:=by rw[zaw,hL.lo]
 have flp:(za1 now P).length=T.length:=by rw[zaw,hL.lp]
 have hw:=hL.tree.sound.well;have hmem:=zhe hw (leaf+1).toNat leaf l1 (by omega);have hnd:=znz hw (leaf+1).toNat leaf l1 (by omega);have h0:∀x ∈ zaq T leaf,0<=x:=fun x hx=>(hmem x hx).1;have eF:zn7 T O P leaf now n=decide (0<=zf1 T O P leaf now n):=by unfold zn7;rw[h];rfl
 by_cases hwho:zf1 T O P leaf now n<0
 ·have eO:zg2 T O P leaf now n=za1 now O:=(by unfold zg2;rw[if_pos h,if_pos hwho]);have eP:zg3 T O P leaf now n=za1 now P:=(by unfold zg3;rw[if_pos h,if_pos hwho]);obtain⟨ok,hat⟩:=zhg hL.code hT0 flo flp hF;rw[eO,eP];refine⟨ok,hat,fun hy=>?_,fun _ k hk hk'=>?_⟩
  ·rw[eF,decide_eq_true_eq]at hy;omega
  ·rw[zgh hk hk'];rfl
 ·have eO:zg2 T O P leaf now n=zc2 n (zf1 T O P leaf now n) (za1 now O) (zaq T leaf) (zaq T leaf).length:=(by unfold zg2;rw[if_pos h,if_neg hwho]);have eP:zg3 T O P leaf now n=zet n (za1 now P) (zaq T leaf) (zaq T leaf).length:=by unfold zg3;rw[if_pos h,if_neg hwho]
  -- every level on the path is high enough
  have hall:∀i (hi:i<(zaq T leaf).length),¬zdz (za1 now P) (zaq T leaf)[i]<1000000000*n:=by
   intro i hi;have hk:zer (za1 now O) (za1 now P) n (zaq T leaf) (zaq T leaf).length=some (zf1 T O P leaf now n):=by
    unfold zf1 zh1 at hwho ⊢;cases hq:zer (za1 now O) (za1 now P) n (zaq T leaf) (zaq T leaf).length with
    | some who=>rfl| none=>rw[hq]at hwho;simp at hwho
   exact zx2 hk i hi hi
  have htop:∀k (hk:k<(za1 now P).length),(zet n (za1 now P) (zaq T leaf) (zaq T leaf).length)[k]?=some (if (k:Int) ∈ zaq T leaf then zei n (za1 now P)[k] else (za1 now P)[k]):=(by intro k hk;have:=zup (n:=n) (P:=za1 now P) h0 hnd _ (nrf _) k hk;rwa[List.take_length]at this);have lo':(zc2 n (zf1 T O P leaf now n) (za1 now O) (zaq T leaf) (zaq T leaf).length).length=T.length:=(by rw[zed,flo]);have lp':(zet n (za1 now P) (zaq T leaf) (zaq T leaf).length).length=T.length:=(by rw[zec,flp]);have hown:=zuq (n:=n) (w:=zf1 T O P leaf now n) (O:=za1 now O) (L:=zaq T leaf) (Φ:=fun k q=>∀h1:k<T.length,zle q=true/\q.2.2.2=now/\q.1=T[k].2.1/\q.2.1=T[k].2.2.2)
   (fun k q hq h1=>by obtain⟨a,b,c,d⟩:=hq h1;exact⟨z17 (by omega) a,b,c,d⟩)
   (fun k q hq h1=>by have hk:=(List.getElem?_eq_some_iff.1 hq).1;have e:=(List.getElem?_eq_some_iff.1 hq).2;have hp:=hF k h1 hk (by omega);rw[<-e];exact⟨hp.oka,hp.ta,hp.ra,hp.ua⟩) (zaq T leaf).length
  have hlev:∀k (hk:k<(za1 now P).length),(k:Int) ∈ zaq T leaf->1000000000*n<=(za1 now P)[k].2.2.1:=(by intro k hk hm;obtain⟨i,hi,e⟩:=List.mem_iff_getElem.1 hm;have:=hall i hi;rw[e,zjd hk]at this;omega);have hpairs:∀k (h1:k<T.length) (h2:k<(zc2 n (zf1 T O P leaf now n) (za1 now O) (zaq T leaf) (zaq T leaf).length).length) (h3:k<(zet n (za1 now P) (zaq T leaf) (zaq T leaf).length).length),PairOk now (zc2 n (zf1 T O P leaf now n) (za1 now O) (zaq T leaf) (zaq T leaf).length)[k] (zet n (za1 now P) (zaq T leaf) (zaq T leaf).length)[k] T[k]:=by
   intro k h1 h2 h3;obtain⟨a,b,c,d⟩:=hown k _ (List.getElem?_eq_getElem h2) h1;have hkP:k<(za1 now P).length:=(by omega);have hp:=hF k h1 (by omega) hkP;have e:=htop k hkP;rw[List.getElem?_eq_getElem h3]at e;injection e with e;rw[e];split
   ·rename_i hm;have hl:=hlev k hkP hm;exact⟨a,zx3 hp.okb (by omega) (by omega),b,hp.tb,c,hp.rb,d,hp.ub⟩
   ·exact⟨a,hp.okb,b,hp.tb,c,hp.rb,d,hp.ub⟩
  obtain⟨ok,hat⟩:=zhg hL.code hT0 lo' lp' hpairs;rw[eO,eP];refine⟨ok,hat,fun _ k hk hk'=>?_,fun hy=>?_⟩
  ·have hkP:k<(za1 now P).length:=(by rw[zaw];exact hk);have e:=htop k hkP;rw[List.getElem?_eq_getElem hk']at e;injection e with e;rw[e,zgh hk hkP];split
   ·rfl
   ·show _=_-0;rw[Int.sub_zero];rfl
  ·rw[eF,decide_eq_false_iff_not]at hy;omega
end
end Go.Proofs.YthiojkjcmhojoaaGreat
