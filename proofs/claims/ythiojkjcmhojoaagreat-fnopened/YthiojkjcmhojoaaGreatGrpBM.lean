import Derived.Test.YthiojkjcmhojoaaGreatGrpBL
import Derived.Test.YthiojkjcmhojoaaGreatGrpBJ
import Derived.Test.YthiojkjcmhojoaaGreatGrpBHX1
namespace Go.Proofs.YthiojkjcmhojoaaGreat
set_option maxHeartbeats 16000000
open Go.ChangeShapes Go.WideShapes Go.ChangeAt Go.RowKit
set_option maxRecDepth 100000
set_option linter.unusedVariables false
set_option linter.unusedSimpArgs false
theorem atP_cons (x:Kn) (K:List Kn) (q:Int):atP (x :: K) q=if x.pl=q then x :: atP K q else atP K q:=by
 unfold atP
 rw [List.filter_cons]
 by_cases h:x.pl=q
 ·simp [h]
 ·simp [h]
theorem flK_cons (x:Kn) (K:List Kn):flK (x :: K)=x.fl+flK K:=rfl
theorem set_ids:∀(K:List Kn) (i:Nat) (hi:i<K.length) (c:Kn) (h1:c.id=K[i].id) (h2:c.pl=K[i].pl) (q:Int),idsK (atP (K.set i c) q)=idsK (atP K q)
 | x :: K,0,hi,c,h1,h2,q=>by
  have h1:c.id=x.id:=h1
  have h2:c.pl=x.pl:=h2
  show idsK (atP (c :: K) q)=_
  rw [atP_cons,atP_cons,h2]
  split
  ·show c.id :: _=x.id :: _
   rw [h1]
  ·rfl
 | x :: K,i+1,hi,c,h1,h2,q=>by
  have ih:=set_ids K i (by simpa using hi) c h1 h2 q
  show idsK (atP (x :: K.set i c) q)=_
  rw [atP_cons,atP_cons]
  split
  ·show x.id :: idsK (atP (K.set i c) q)=x.id :: idsK (atP K q)
   rw [ih]
  ·exact ih
theorem set_fl:∀(K:List Kn) (i:Nat) (hi:i<K.length) (c:Kn) (h2:c.pl=K[i].pl) (q:Int),flK (atP (K.set i c) q)=flK (atP K q)+(if K[i].pl=q then c.fl-K[i].fl else 0)
 | x :: K,0,hi,c,h2,q=>by
  have h2:c.pl=x.pl:=h2
  show flK (atP (c :: K) q)=flK (atP (x :: K) q)+(if x.pl=q then c.fl-x.fl else 0)
  rw [atP_cons,atP_cons,h2]
  split
  ·rw [flK_cons,flK_cons]
   omega
  ·omega
 | x :: K,i+1,hi,c,h2,q=>by
  have hi':i<K.length:=by simpa using hi
  have ih:=set_fl K i hi' c h2 q
  show flK (atP (x :: K.set i c) q)=flK (atP (x :: K) q)+(if K[i].pl=q then c.fl-K[i].fl else 0)
  rw [atP_cons,atP_cons]
  split
  ·rw [flK_cons,flK_cons]
   omega
  ·exact ih
theorem flK_pos:∀(K:List Kn),(∀c ∈ K,0≤c.fl)→0≤flK K
 | [],_=>by simp [flK]
 | x :: K,h=>by
  have:=flK_pos K (fun c hc=>h c (List.mem_cons_of_mem _ hc))
  have:=h x List.mem_cons_self
  rw [flK_cons]
  omega
theorem fl_at:∀(K:List Kn) (i:Nat) (hi:i<K.length),(∀c ∈ K,0≤c.fl)→K[i].fl≤flK (atP K K[i].pl)
 | x :: K,0,hi,h=>by
  show x.fl≤flK (atP (x :: K) x.pl)
  rw [atP_cons,if_pos rfl,flK_cons]
  have:=flK_pos (atP K x.pl) (fun c hc=>h c (List.mem_cons_of_mem _ (List.mem_filter.1 hc).1))
  omega
 | x :: K,i+1,hi,h=>by
  have hi':i<K.length:=by simpa using hi
  have ih:=fl_at K i hi' (fun c hc=>h c (List.mem_cons_of_mem _ hc))
  show K[i].fl≤flK (atP (x :: K) K[i].pl)
  rw [atP_cons]
  split
  ·rw [flK_cons]
   have:=h x List.mem_cons_self
   omega
  ·exact ih
theorem eg_fl {now nx:Int} {T O P:List Q4} {L:List F8} {K:List Kn} (h:EgOk now nx T O P L K):∀c ∈ K,0≤c.fl:=fun c hc=>by
 obtain ⟨i,hi,rfl⟩:=List.mem_iff_getElem.1 hc
 exact (kc_fl (h.con i hi)).1
theorem eg_le {now nx:Int} {T O P:List Q4} {L:List F8} {K:List Kn} (h:EgOk now nx T O P L K) {i p:Nat} (hi:i<K.length) (hpl:K[i].pl=(p:Int)) (hp:p<L.length):K[i].fl≤L[p].2.1:=by
 rw [(h.pl p hp).2.1,←hpl]
 exact fl_at K i hi (eg_fl h)
theorem eg_set {now nx nx':Int} {T O P O' P':List Q4} {L:List F8} {K:List Kn} (h:EgOk now nx T O P L K) {i p:Nat} (hi:i<K.length) (hpl:K[i].pl=(p:Int)) (hp:p<L.length) {c:Kn} {f:F8} (h1:c.id=K[i].id) (h2:c.pl=K[i].pl) (hc:conB T L.length c=true) (hf:plB f.1 f.2.1 f.2.2=true) (hfl:f.2.1=L[p].2.1+(c.fl-K[i].fl)) (hm:f.2.2=L[p].2.2) (hl:lendB T O' P'=true) (ha:atOf O'=now) (hn:inQ 0 nx' 1000001=true):EgOk now nx' T O' P' (L.set p f) (K.set i c):=by
 have ids:∀j (h:j<(K.set i c).length),(K.set i c)[j].id=(K[j]'(by simpa using h)).id:=fun j hj=>by
  rw [List.getElem_set]
  split
  ·rename_i e
   subst e
   exact h1
  ·rfl
 refine ⟨hl,ha,hn,by rw [List.length_set];exact h.l0,by rw [List.length_set];exact h.l1,by rw [List.length_set];exact h.k1,fun j hj=>?_,fun j hj hj'=>?_,fun q hq=>?_⟩
 ·rw [List.length_set,List.getElem_set]
  split
  ·exact hc
  ·exact h.con j (by simpa using hj)
 ·rw [ids,ids]
  exact h.rise j (by simpa using hj) (by simpa using hj')
 ·rw [List.length_set] at hq
  rw [List.getElem_set,set_ids K i hi c h1 h2,set_fl K i hi c h2]
  by_cases e:p=q
  ·subst e
   rw [if_pos rfl,if_pos hpl]
   refine ⟨hf,?_,?_⟩
   ·rw [hfl,(h.pl p hp).2.1]
   ·rw [hm,(h.pl p hp).2.2]
  ·rw [if_neg e,if_neg (by rw [hpl];omega)]
   have:=h.pl q hq
   exact ⟨this.1,by rw [Int.add_zero];exact this.2.1,this.2.2⟩
theorem set_sameL {α:Type} (L:List α) (p:Nat) (hp:p<L.length):L.set p L[p]=L:=List.set_getElem_self hp
theorem eg_set0 {now nx:Int} {T O P:List Q4} {L:List F8} {K:List Kn} (h:EgOk now nx T O P L K) {i:Nat} (hi:i<K.length) {c:Kn} (h1:c.id=K[i].id) (h2:c.pl=K[i].pl) (hc:conB T L.length c=true) (hfl:c.fl=K[i].fl):EgOk now nx T O P L (K.set i c):=by
 obtain ⟨p,hpl,hp⟩:=eg_place h hi
 have q:=eg_set h hi hpl hp (f:=L[p]) h1 h2 hc (h.pl p hp).1 (by omega) rfl h.lend h.at' h.nx'
 rw [set_sameL] at q
 exact q
theorem con_with {T:List Q4} {n:Nat} {c d:Kn} (h:conB T n c=true) (h0:d.id=c.id) (h1:d.lf=c.lf) (h2:d.pl=c.pl) (h3:ccB d.k d.wn d.th d.fl d.ac d.la d.og d.st d.fr=true) (h4:d.k≠3) (h5:d.xs.length≤100) (h6:d.xs.all segB=true):conB T n d=true:=by
 unfold conB at h ⊢
 simp only [Bool.and_eq_true,Bool.not_eq_true',decide_eq_false_iff_not,decide_eq_true_eq] at h ⊢
 rw [h0,h1,h2]
 exact ⟨⟨⟨⟨h.1.1.1.1,h3⟩,h4⟩,h5⟩,h6⟩
theorem con_parts {T:List Q4} {n:Nat} {c:Kn} (h:conB T n c=true):ccB c.k c.wn c.th c.fl c.ac c.la c.og c.st c.fr=true∧c.k≠3∧c.xs.length≤100∧c.xs.all segB=true:=by
 unfold conB at h
 simp only [Bool.and_eq_true,Bool.not_eq_true',decide_eq_false_iff_not,decide_eq_true_eq] at h
 exact ⟨h.1.1.1.2,h.1.1.2,h.1.2,h.2⟩
theorem sub_right {now nx:Int} {T O P:List Q4} {L:List F8} {K:List Kn} (h:EgOk now nx T O P L K) {i:Nat} (hi:i<K.length) {n:Int} (hn:segB n=true) (hl:¬K[i].xs.length=100):EgOk now nx T O P L (K.set i (K[i].more n)):=by
 obtain ⟨a,b,c,d⟩:=con_parts (h.con i hi)
 refine eg_set0 h hi rfl rfl (con_with (h.con i hi) rfl rfl rfl a b ?_ ?_) rfl
 ·show (K[i].xs ++ [n]).length≤100
  rw [List.length_append,List.length_singleton]
  omega
 ·show (K[i].xs ++ [n]).all segB=true
  rw [List.all_append,d,Bool.true_and,List.all_cons,hn]
  rfl
theorem cc_full {k wn th fl ac la og st fr:Int} (h1:1≤k∧k≤3) (h2:3000≤wn∧wn≤1000000000) (h3:3000≤th∧th≤1000000000) (h4:0≤fl∧fl≤1000000000) (h5:0≤ac∧ac≤1000000000) (h6:0≤la∧la≤1000000000) (h7:0≤og∧og≤1000000000) (h8:0≤st∧st≤1000000000000000) (h9:0≤fr∧fr≤1000000000):ccB k wn th fl ac la og st fr=true:=cc_make h1 h2 h3 h4 h5 h6 h7 h8 h9
theorem zero10:(0:Int)≤0∧(0:Int)≤1000000000:=by decide
theorem zero15:(0:Int)≤0∧(0:Int)≤1000000000000000:=by decide
theorem conK_num {k:Int} (h:conK k=true):k=1∨k=2:=by
 unfold conK at h
 simpa using h
theorem cub_flight {k wn th fl ac la og st fr n now:Int} {sl:Bool} (h1:ccB k wn th fl ac la og st fr=true) (h2:n10B n=true) (h3:timeB now=true):(cubC k wn th fl ac la og st fr sl n now).fl=max 0 (fl-n):=by
 rw [show cubC k wn th fl ac la og st fr sl n now=cubIn k wn th fl ac la og st fr sl n now from if_pos ⟨⟨h1,h2⟩,by assumption⟩]
 unfold cubIn
 split
 ·split <;> rfl
 ·split <;> rfl
theorem ack_flight {k wn th fl ac la og st fr n:Int} {sl:Bool} (h1:ccB k wn th fl ac la og st fr=true) (h2:n10B n=true):(ackC k wn th fl ac la og st fr sl n).fl=max 0 (fl-n):=by
 rw [show ackC k wn th fl ac la og st fr sl n=ackIn k wn th fl ac la og st fr sl n from if_pos ⟨h1,h2⟩]
 unfold ackIn
 split
 ·split <;> rfl
 ·rfl
theorem fly_cc {c:Kn} {n now:Int} (lost:Bool) (h:ccB c.k c.wn c.th c.fl c.ac c.la c.og c.st c.fr=true) (hk:c.k=1∨c.k=2) (hn:1≤n∧n≤c.fl) (ht:timeB now=true) :
 ccB (flyD c n now lost).k (flyD c n now lost).wn (flyD c n now lost).th (flyD c n now lost).fl (flyD c n now lost).ac (flyD c n now lost).la (flyD c n now lost).og (flyD c n now lost).st (flyD c n now lost).fr=true∧(flyD c n now lost).k=c.k∧(flyD c n now lost).fl=c.fl-n∧(lost=true→(flyD c n now lost).wn≤c.wn):=by
 obtain ⟨q1,q2,q3,q4,q5,q6,q7,q8,q9⟩:=cc_num h
 have h10:n10B n=true:=by
  unfold n10B
  simp only [Bool.and_eq_true,decide_eq_true_eq]
  omega
 cases lost
 ·have e:flyD c n now false=ackD c.k c.wn c.th c.fl c.ac c.la c.og c.st c.fr c.sl n now:=if_neg (by decide)
  rw [e]
  rcases hk with hk|hk
  ·have e2:ackD c.k c.wn c.th c.fl c.ac c.la c.og c.st c.fr c.sl n now=ackC c.k c.wn c.th c.fl c.ac c.la c.og c.st c.fr c.sl n:=if_neg (by omega)
   rw [e2]
   have g:=ack_good (sl:=c.sl) h h10 (rfl:ackC c.k c.wn c.th c.fl c.ac c.la c.og c.st c.fr c.sl n=⟨_,_,_,_,_,_,_,_,_,_⟩)
   have f:=ack_flight (sl:=c.sl) h h10
   exact ⟨g.2.1,g.1,by rw [f];omega,fun e=>by cases e⟩
  ·have e2:ackD c.k c.wn c.th c.fl c.ac c.la c.og c.st c.fr c.sl n now=cubC c.k c.wn c.th c.fl c.ac c.la c.og c.st c.fr c.sl n now:=if_pos hk
   rw [e2]
   have g:=cub_good (sl:=c.sl) h h10 ht (rfl:cubC c.k c.wn c.th c.fl c.ac c.la c.og c.st c.fr c.sl n now=⟨_,_,_,_,_,_,_,_,_,_⟩)
   have f:=cub_flight (sl:=c.sl) h h10 ht
   exact ⟨g.2.1,g.1,by rw [f];omega,fun e=>by cases e⟩
 ·have e:flyD c n now true=lostD c.k c.wn c.th c.fl c.ac c.la c.og c.st c.fr c.sl n:=if_pos rfl
  rw [e]
  have hf:ccB c.k c.wn c.th (c.fl-n) c.ac c.la c.og c.st c.fr=true:=cc_fl h (by omega)
  rcases hk with hk|hk
  ·have e2:lostD c.k c.wn c.th c.fl c.ac c.la c.og c.st c.fr c.sl n=lossC c.k c.wn c.th (c.fl-n) c.ac c.la c.og c.st c.fr c.sl:=if_neg (by omega)
   have e3:lossC c.k c.wn c.th (c.fl-n) c.ac c.la c.og c.st c.fr c.sl=⟨c.k,halfW c.wn,halfW c.wn,c.fl-n,0,c.la,c.og,c.st,c.fr,false⟩:=if_pos hf
   rw [e2,e3]
   have g:=half_in q2
   have g1:ccB c.k (halfW c.wn) (halfW c.wn) (c.fl-n) 0 c.la c.og c.st c.fr=true:=cc_full q1 (by omega) (by omega) (by omega) zero10 q6 q7 q8 q9
   exact ⟨g1,rfl,rfl,fun _=>by show halfW c.wn≤c.wn;omega⟩
  ·have e2:lostD c.k c.wn c.th c.fl c.ac c.la c.og c.st c.fr c.sl n=downC c.k c.wn c.th (c.fl-n) c.ac c.la c.og c.st c.fr c.sl:=if_pos hk
   have e3:downC c.k c.wn c.th (c.fl-n) c.ac c.la c.og c.st c.fr c.sl=⟨c.k,tenW c.wn,tenW c.wn,c.fl-n,0,lastW c.wn c.la,0,0,0,false⟩:=if_pos hf
   rw [e2,e3]
   have g:=ten_in q2
   have g2:=last_in (la:=c.la) q2
   have g1:ccB c.k (tenW c.wn) (tenW c.wn) (c.fl-n) 0 (lastW c.wn c.la) 0 0 0=true:=cc_full q1 (by omega) (by omega) (by omega) zero10 g2 zero10 zero15 zero10
   exact ⟨g1,rfl,rfl,fun _=>by show tenW c.wn≤c.wn;omega⟩
theorem fly_right {now nx:Int} {T O P:List Q4} {L:List F8} {K:List Kn} (h:EgOk now nx T O P L K) {i p:Nat} (hi:i<K.length) (hpl:K[i].pl=(p:Int)) (hp:p<L.length) {n:Int} (lost:Bool) (hn:inQ 1 n K[i].fl=true):EgOk now nx T O P (L.set p (flyP L p n lost)) (K.set i (K[i].cc (flyD K[i] n now lost))):=by
 obtain ⟨a,b,c,d⟩:=con_parts (h.con i hi)
 obtain ⟨n1,n2,n3⟩:=fly_n h hi hn
 have ht:timeB now=true:=by
  have q:=lend_time h.lend
  rw [h.at'] at q
  exact q
 obtain ⟨g1,g2,g3,_⟩:=fly_cc lost a (eg_kind h hi) n2 ht
 have hle:=eg_le h hi hpl hp
 have hfr:=free_ok (lost:=lost) (show FreeOk L[p].1 L[p].2.1 n L[p].2.2 from ⟨(h.pl p hp).1,n1⟩)
 refine eg_set h hi hpl hp rfl rfl (con_with (h.con i hi) rfl rfl rfl g1 ?_ c d) ?_ ?_ ?_ h.lend h.at' h.nx'
 ·show (flyD K[i] n now lost).k≠3
  rw [g2]
  exact b
 ·rw [flyP_at hp]
  exact hfr.1
 ·rw [flyP_at hp]
  show max 0 (L[p].2.1-n)=L[p].2.1+((flyD K[i] n now lost).fl-K[i].fl)
  rw [g3]
  omega
 ·rw [flyP_at hp]
theorem fwd_right {now nx ns:Int} {T O P:List Q4} {L:List F8} {K:List Kn} (h:EgOk now nx T O P L K) (h2:timeB ns=true) (h3:¬1000000000000000<now+ns):EgOk (now+ns) nx T (fills (now+ns) O) (fills (now+ns) P) L K:=by
 have hL:=lend_of h.lend
 have q:=lend_time h.lend
 rw [h.at'] at q
 have q1:=tim_num q
 have q2:=tim_num h2
 have ht:timeB (now+ns)=true:=by unfold timeB;simp only [Bool.and_eq_true,decide_eq_true_eq];omega
 have hF:=fills_num hL ht (by rw [h.at'];omega)
 have hl:=hL.tree.l0
 obtain ⟨x,y⟩:=lend_pairs hL.code (by omega) (by rw [fills_length,hL.lo]) (by rw [fills_length,hL.lp]) hF
 exact ⟨x,y,h.nx',h.l0,h.l1,h.k1,h.con,h.rise,h.pl⟩
theorem ins_atP (K:List Kn) (i:Nat) (c:Kn) (q:Int):atP (insAt K i c) q=if c.pl=q then atP (K.take i) q ++ c :: atP (K.drop i) q else atP K q:=by
 unfold insAt
 rw [atP_append,atP_cons]
 split
 ·rfl
 ·rw [←atP_append,List.take_append_drop]
theorem insI_app {a b:List Int} {id:Int} (h1:∀x ∈ a,x<id) (h2:∀x ∈ b,¬x<id):insI (a ++ b) id=a ++ id :: b:=by
 rw [insI_at (k:=a.length) (by simp) (fun j hj hk=>by
  rw [List.getElem_append_left hk]
  exact h1 _ (List.getElem_mem hk)) (fun hk=>by
  rw [List.getElem_append_right (Nat.le_refl _)]
  exact h2 _ (List.getElem_mem _))]
 simp
theorem opn_right {now nx:Int} {T O P:List Q4} {L:List F8} {K:List Kn} (h:EgOk now nx T O P L K) {id lf kd:Int} {p i:Nat} (hf:fK K id = -1) (hn:inQ 0 id 1000000=true) (hlf:hasL T lf=true) (hp:p<L.length) (hk:conK kd=true) (h40:K.length<40) (hpos:PosK K id i):EgOk now nx T O P (L.set p (opnP L p id)) (insAt K i (opnK id lf (p:Int) kd)):=by
 have hk':=conK_num hk
 have hil:=hpos.le
 have hcon:conB T L.length (opnK id lf (p:Int) kd)=true:=by
  unfold hasL at hlf
  simp only [Bool.and_eq_true] at hlf
  unfold conB opnK
  simp only [Bool.and_eq_true,Bool.not_eq_true',decide_eq_false_iff_not,decide_eq_true_eq]
  refine ⟨⟨⟨⟨⟨⟨⟨hn,hlf.1⟩,hlf.2⟩,?_⟩,(cc_full (k:=kd) (wn:=15000) (th:=1000000000) (fl:=0) (ac:=0) (la:=0) (og:=0) (st:=0) (fr:=0) (by omega) (by decide) (by decide) zero10 zero10 zero10 zero10 zero15 zero10)⟩,by omega⟩,Nat.zero_le _⟩,rfl⟩
  unfold inQ
  simp only [Bool.and_eq_true,decide_eq_true_eq]
  omega
 have hpos':∀k (hk:k<(insAt K i (opnK id lf (p:Int) kd)).length),(insAt K i (opnK id lf (p:Int) kd))[k].id=if k<i then (K[k]?.map Kn.id).getD 0 else if k=i then id else (K[k-1]?.map Kn.id).getD 0:=fun k hk=>by
  rcases insAt_get hil hk with ⟨q,hj,e⟩|⟨q,e⟩|⟨q,hj,e⟩
  ·rw [e,if_pos q,List.getElem?_eq_getElem hj];rfl
  ·rw [e,if_neg (by omega),if_pos q];rfl
  ·rw [e,if_neg (by omega),if_neg (by omega),List.getElem?_eq_getElem hj];rfl
 have at':∀k (hk:k<K.length),(K[k]?.map Kn.id).getD 0=K[k].id:=fun k hk=>by rw [List.getElem?_eq_getElem hk];rfl
 refine ⟨h.lend,h.at',h.nx',by rw [List.length_set];exact h.l0,by rw [List.length_set];exact h.l1,by rw [insAt_length];omega,fun k hk=>?_,fun k hk hk'=>?_,fun q hq=>?_⟩
 ·rw [List.length_set]
  rcases insAt_get hil hk with ⟨_,hj,e⟩|⟨_,e⟩|⟨_,hj,e⟩
  ·rw [e];exact h.con _ hj
  ·rw [e];exact hcon
  ·rw [e];exact h.con _ hj
 ·rw [hpos',hpos']
  have hl:=insAt_length K i (opnK id lf (p:Int) kd)
  by_cases c1:k+1<i
  ·rw [if_pos (by omega),if_pos c1,at' k (by omega),at' (k+1) (by omega)]
   exact h.rise k (by omega) (by omega)
  ·by_cases c2:k+1=i
   ·rw [if_pos (by omega),if_neg c1,if_pos c2,at' k (by omega)]
    exact hpos.lo k (by omega) (by omega)
   ·by_cases c3:k=i
    ·rw [if_neg (by omega),if_pos c3,if_neg c1,if_neg c2,at' (k+1-1) (by omega)]
     exact hpos.hi (k+1-1) (by omega) (by omega)
    ·rw [if_neg (by omega),if_neg c3,if_neg c1,if_neg c2,at' (k-1) (by omega),at' (k+1-1) (by omega)]
     have:=h.rise (k-1) (by omega) (by omega)
     have e:k-1+1=k+1-1:=by omega
     simpa only [e] using this
 ·rw [List.length_set] at hq
  rw [List.getElem_set,ins_atP]
  by_cases e:p=q
  ·subst e
   rw [if_pos rfl,if_pos (show (opnK id lf (p:Int) kd).pl=(p:Int) from rfl),opnP_at hp]
   have hq':=h.pl p hp
   have hsp:atP K (p:Int)=atP (K.take i) (p:Int) ++ atP (K.drop i) (p:Int):=by rw [←atP_append,List.take_append_drop]
   refine ⟨join_ok hq'.1 hn (by have:=eg_mem40 h hp;omega) (eg_hasN h hp hf),?_,?_⟩
   ·show L[p].2.1=_
    rw [hq'.2.1,hsp,flK_append,flK_append,flK_cons]
    show _=_+(0+_)
    omega
   ·show insI L[p].2.2 id=_
    rw [hq'.2.2,hsp,idsK_append,idsK_append]
    refine insI_app (fun x hx=>?_) (fun x hx=>?_)
    ·obtain ⟨c,hc,rfl⟩:=List.mem_map.1 hx
     obtain ⟨j,hj,rfl⟩:=List.mem_iff_getElem.1 (List.mem_filter.1 hc).1
     rw [List.getElem_take]
     rw [List.length_take] at hj
     exact hpos.lo j (by omega) (by omega)
    ·obtain ⟨c,hc,rfl⟩:=List.mem_map.1 hx
     obtain ⟨j,hj,rfl⟩:=List.mem_iff_getElem.1 (List.mem_filter.1 hc).1
     rw [List.getElem_drop]
     rw [List.length_drop] at hj
     have:=hpos.hi (i+j) (by omega) (by omega)
     omega
  ·rw [if_neg e,if_neg (by show ¬(p:Int)=q;omega)]
   exact h.pl q hq
theorem erase_atP (K:List Kn) (i:Nat) (hi:i<K.length) (q:Int):atP K q=if K[i].pl=q then atP (K.take i) q ++ K[i] :: atP (K.drop (i+1)) q else atP (K.eraseIdx i) q:=by
 have e:K=K.take i ++ K[i] :: K.drop (i+1):=by rw [List.getElem_cons_drop,List.take_append_drop]
 rw [List.eraseIdx_eq_take_drop_succ,atP_append]
 conv=>lhs;rw [e,atP_append,atP_cons]
 split <;> rfl
theorem cls_right {now nx:Int} {T O P:List Q4} {L:List F8} {K:List Kn} (h:EgOk now nx T O P L K) {i p:Nat} (hi:i<K.length) (hpl:K[i].pl=(p:Int)) (hp:p<L.length):EgOk now nx T O P (L.set p (clsP L p K[i].id K[i].fl)) (K.eraseIdx i):=by
 have hl:(K.eraseIdx i).length=K.length-1:=List.length_eraseIdx_of_lt hi
 have hri:=eg_rise h
 refine ⟨h.lend,h.at',h.nx',by rw [List.length_set];exact h.l0,by rw [List.length_set];exact h.l1,by rw [hl];have:=h.k1;omega,fun k hk=>?_,fun k hk hk'=>?_,fun q hq=>?_⟩
 ·rw [List.length_set]
  obtain ⟨j,hj,e,_⟩:=erase_at hk
  rw [e]
  exact h.con j hj
 ·obtain ⟨j,hj,e,q1⟩:=erase_at hk
  obtain ⟨j',hj',e',q2⟩:=erase_at hk'
  rw [e,e']
  refine hri j j' hj hj' ?_
  rw [q1,q2]
  split <;> split <;> omega
 ·rw [List.length_set] at hq
  rw [List.getElem_set]
  by_cases e:p=q
  ·subst e
   rw [if_pos rfl,clsP_at hp]
   have hq':=h.pl p hp
   have hsp:=erase_atP K i hi (p:Int)
   rw [if_pos hpl] at hsp
   have hle:=eg_le h hi hpl hp
   have hw:w10B K[i].fl=true:=by
    have q:=(cc_num (eg_cc h hi).1).2.2.2.1
    unfold w10B
    simp only [Bool.and_eq_true,decide_eq_true_eq]
    exact q
   have hz:atP (K.eraseIdx i) (p:Int)=atP (K.take i) (p:Int) ++ atP (K.drop (i+1)) (p:Int):=by rw [List.eraseIdx_eq_take_drop_succ,atP_append]
   refine ⟨quit_ok hq'.1 hw (eg_has h hi hpl hp),?_,?_⟩
   ·show max 0 (L[p].2.1-K[i].fl)=_
    have e1:=hq'.2.1
    rw [hsp,flK_append,flK_cons] at e1
    rw [hz,flK_append]
    omega
   ·show delI L[p].2.2 K[i].id=_
    rw [hq'.2.2,hsp,hz,idsK_append,idsK_append]
    show delI (_ ++ K[i].id :: _) _=_
    unfold delI
    rw [List.filter_append,List.filter_cons]
    have f1:∀x ∈ idsK (atP (K.take i) (p:Int)),x≠K[i].id:=fun x hx=>by
     obtain ⟨c,hc,rfl⟩:=List.mem_map.1 hx
     obtain ⟨j,hj,rfl⟩:=List.mem_iff_getElem.1 (List.mem_filter.1 hc).1
     rw [List.length_take] at hj
     rw [List.getElem_take]
     have:=hri j i (by omega) hi (by omega)
     omega
    have f2:∀x ∈ idsK (atP (K.drop (i+1)) (p:Int)),x≠K[i].id:=fun x hx=>by
     obtain ⟨c,hc,rfl⟩:=List.mem_map.1 hx
     obtain ⟨j,hj,rfl⟩:=List.mem_iff_getElem.1 (List.mem_filter.1 hc).1
     rw [List.length_drop] at hj
     rw [List.getElem_drop]
     have:=hri i (i+1+j) hi (by omega) (by omega)
     omega
    rw [List.filter_eq_self.2 (fun x hx=>by simpa using f1 x hx),List.filter_eq_self.2 (fun x hx=>by simpa using f2 x hx)]
    simp [idsK]
  ·rw [if_neg e]
   have hsp:=erase_atP K i hi (q:Int)
   rw [if_neg (by rw [hpl];omega)] at hsp
   rw [←hsp]
   exact h.pl q hq
def Kn.gr (c:Kn) (s:Int):Kn:={ c with fl:=c.fl+s,xs:=c.xs.drop 1 }
theorem eg_told {now nx:Int} {T O P:List Q4} {L:List F8} {K:List Kn} (h:EgOk now nx T O P L K) {i:Nat} (hi:i<K.length) {s:Int} (hs:segB s=true):toldB T O P K[i].lf now s=true:=by
 have q:=lend_time h.lend
 rw [h.at'] at q
 have c:=h.con i hi
 unfold conB inQ at c
 simp only [Bool.and_eq_true,decide_eq_true_eq] at c
 have hlf:=c.1.1.1.1.1.1.2
 have hle:=c.1.1.1.1.1.2
 unfold toldB
 rw [h.lend,hle,q,hs,h.at']
 simp only [Bool.and_eq_true,decide_eq_true_eq]
 refine ⟨⟨⟨⟨⟨?_,by omega⟩,?_⟩,?_⟩,Int.le_refl _⟩,?_⟩ <;> trivial
theorem gr_right {now nx:Int} {T O P:List Q4} {L:List F8} {K:List Kn} (h:EgOk now nx T O P L K) {i p:Nat} (hi:i<K.length) (hpl:K[i].pl=(p:Int)) (hp:p<L.length) {s:Int} (hs:segB s=true) (hw:K[i].fl+s≤K[i].wn) (hr:roomB_SpecPlc2 L[p].1 L[p].2.1 s L[p].2.2=true):EgOk now (K[i].id+1) T (spendO T O P K[i].lf now s) (spendP T O P K[i].lf now s) (L.set p (L[p].1,L[p].2.1+s,L[p].2.2)) (K.set i (K[i].gr s)):=by
 obtain ⟨a,b,c,d⟩:=con_parts (h.con i hi)
 have sp:=spent (eg_told h hi hs)
 have hc:=(cc_num a).2.2.2.1
 have hwn:=(cc_num a).2.1
 have hsg:=seg_num hs
 have hid:0≤K[i].id∧K[i].id≤1000000:=by
  have c:=h.con i hi
  unfold conB inQ at c
  simp only [Bool.and_eq_true,decide_eq_true_eq] at c
  exact c.1.1.1.1.1.1.1
 refine eg_set h hi hpl hp rfl rfl (con_with (h.con i hi) rfl rfl rfl (cc_fl a (gx:=K[i].fl+s) (by omega)) b ?_ ?_) (claim_free hr).1.1 ?_ rfl sp.ok sp.tim ?_
 ·show (K[i].xs.drop 1).length≤100
  rw [List.length_drop]
  omega
 ·show (K[i].xs.drop 1).all segB=true
  rw [List.all_eq_true] at d ⊢
  exact fun x hx=>d x (List.mem_of_mem_drop hx)
 ·show L[p].2.1+s=L[p].2.1+(K[i].fl+s-K[i].fl)
  omega
 ·unfold inQ
  simp only [Bool.and_eq_true,decide_eq_true_eq]
  omega
structure EgR where
 now:Int
 nx:Int
 aT:Option Addr
 aO:Option Addr
 aP:Option Addr
 aL:Option Addr
 aK:Option Addr
 cT:Nat
 cO:Nat
 cP:Nat
 cL:Nat
 cK:Nat
 T:List Q4
 O:List Q4
 P:List Q4
 L:List F8
 K:List Kn
def EgR.cells (E:EgR):List Value:=[.int .i64 E.now,.slice E.aT E.T.length E.cT,.slice E.aO E.O.length E.cO,.slice E.aP E.P.length E.cP,.slice E.aL E.L.length E.cL,.slice E.aK E.K.length E.cK,.int .i64 E.nx]
def EgR.ok (E:EgR):Prop:=EgOk E.now E.nx E.T E.O E.P E.L E.K
def EgR.own (E:EgR) (w:World) (lo hi:Nat):Prop:=Eng w lo hi (.slice E.aT E.T.length E.cT) (.slice E.aO E.O.length E.cO) (.slice E.aP E.P.length E.cP) (.slice E.aL E.L.length E.cL) (.slice E.aK E.K.length E.cK) E.T E.O E.P E.L E.K
theorem EgR.own.next {E:EgR} {w w':World} {lo hi:Nat} (h:E.own w lo hi) (hb:Below w.heap.size w w'):E.own w' lo hi:=Eng.next h hb
theorem EgR.own.only {E:EgR} {w w':World} {lo hi g:Nat} (h:E.own w lo hi) (o:Only g w w') (hg:g<lo∨hi≤g):E.own w' lo hi:=Eng.only h o hg
theorem EgR.own.wider {E:EgR} {w:World} {lo hi lo' hi':Nat} (h:E.own w lo hi) (hl:lo'≤lo) (hh:hi≤hi'):E.own w lo' hi':=Eng.wider h hl hh
structure EgR.Rd (E:EgR) (w:World):Prop where
 t:Quad w.heap.size w E.aT E.T
 o:Quad w.heap.size w E.aO E.O
 p:Quad w.heap.size w E.aP E.P
 l:Fls w.heap.size w E.aL E.L
 k:Kls w.heap.size w E.aK E.K
theorem EgR.own.rd {E:EgR} {w:World} {lo hi:Nat} (h:E.own w lo hi):E.Rd w:=by
 obtain ⟨a,b,c,d,e⟩:=eng_read h
 exact ⟨a,b,c,d,e⟩
structure Szs (T:List Q4) (L:List F8) (K:List Kn):Prop where
 t:T.length≤1048576
 l:L.length≤1048576
 sl:∀f ∈ L,f.2.2.length≤1048576
 k:K.length≤1048576
 sk:∀c ∈ K,c.xs.length≤1048576
theorem eg_szs {now nx:Int} {T O P:List Q4} {L:List F8} {K:List Kn} (h:EgOk now nx T O P L K):Szs T L K:=by
 have s:=eg_small h
 exact ⟨by have:=s.t;omega,by have:=s.l;omega,fun f hf=>by have:=s.lm f hf;omega,by have:=s.k;omega,fun c hc=>by have:=s.km c hc;omega⟩
def EPost (w:World) (E0:EgR) (e:Ending) (w':World):Prop:=∃(E:EgR) (f:Int),e=.returned (.tuple #[engV E.now E.aT E.T.length E.cT E.aO E.O.length E.cO E.aP E.P.length E.cP E.aL E.L.length E.cL E.aK E.K.length E.cK E.nx,.int .i64 f])∧E.own w' w.heap.size w'.heap.size∧E.ok∧E.T=E0.T∧(E0.K≠[]→E.K≠[])∧Below w.heap.size w w'
theorem ep_of {w:World} {now nx:Int} {T O P:List Q4} {L:List F8} {K:List Kn} {f:Int} {E0:EgR} {e:Ending} {w':World} (h:EgPost w now nx T O P L K (.int .i64 f) e w') (ok:EgOk now nx T O P L K) (hT:T=E0.T) (hK:E0.K≠[]→K≠[]):EPost w E0 e w':=by
 obtain ⟨aT,cT,aO,cO,aP,cP,aL,cL,aK,cK,he,eg,hb⟩:=h
 exact ⟨⟨now,nx,aT,aO,aP,aL,aK,cT,cO,cP,cL,cK,T,O,P,L,K⟩,f,he,eg,ok,hT,hK,hb⟩
theorem set_ne {α:Type} {l:List α} {i:Nat} {x:α} (h:l≠[]):l.set i x≠[]:=fun e=>h (by
 have:=congrArg List.length e
 rw [List.length_set] at this
 exact List.eq_nil_of_length_eq_zero this)
theorem full_bok {r u t:Int} (hr:rateB r=true) (hu:winB u=true) (ht:timeB t=true):bokB r u (1000000000*u) t=true:=by
 unfold bokB
 rw [hr,hu,ht]
 have h:0≤u:=by
  unfold winB at hu
  simp only [Bool.and_eq_true,decide_eq_true_eq] at hu
  omega
 unfold lvlB
 rw [decide_eq_true (show 0≤1000000000*u by omega),decide_eq_true (Int.le_refl _)]
 rfl
theorem new_right {T:List Q4} {n:Int} (h:nwB T n=true):EgOk 0 0 (nwT T n) (nwO T n) (nwP T n) (nwL T n) []∧nwT T n=T∧treeCode T=0:=by
 have hT:nwT T n=newT T 0:=if_pos h
 have hO:nwO T n=newO T 0:=if_pos h
 have hP:nwP T n=newP T 0:=if_pos h
 have hL:nwL T n=List.replicate n.toNat newPl:=if_pos h
 unfold nwB at h
 rw [Bool.and_eq_true] at h
 have hb:=h.1
 have e1:newT T 0=T:=if_pos hb
 have e2:newO T 0=T.map (ownFull 0):=if_pos hb
 have e3:newP T 0=T.map (topFull 0):=if_pos hb
 have hc:treeCode T=0:=by
  unfold newB_LendMath at hb
  rw [Bool.and_eq_true] at hb
  exact of_decide_eq_true hb.1
 have hn:1≤n∧n≤10:=by
  have q:=h.2
  unfold inQ at q
  simp only [Bool.and_eq_true,decide_eq_true_eq] at q
  exact q
 have it:=tree_of hc
 have l0:=it.l0
 have t0:timeB 0=true:=by decide
 obtain ⟨x,y⟩:=lend_pairs (T:=T) (O:=T.map (ownFull 0)) (P:=T.map (topFull 0)) (now:=0) hc (by omega) (by simp) (by simp) (fun k h1 h2 h3=>by
  obtain ⟨c1,c2,c3⟩:=cls_three (it.sound.cls k h1)
  rw [List.getElem_map,List.getElem_map]
  exact ⟨full_bok c1 c3 t0,full_bok c2 c3 t0,rfl,rfl,rfl,rfl,rfl,rfl⟩)
 rw [hT,hO,hP,hL,e1,e2,e3]
 refine ⟨⟨x,y,by decide,by rw [List.length_replicate];omega,by rw [List.length_replicate];omega,Nat.zero_le _,(fun i h=>by cases h),(fun i h=>by cases h),fun p hp=>?_⟩,rfl,hc⟩
 rw [List.getElem_replicate]
 exact ⟨pl_true ⟨by decide,by decide,Nat.zero_le _,(fun i h=>by cases h)⟩,rfl,rfl⟩
theorem leaf_has {T:List Q4} {k:Nat}:∀x ∈ leavesTo T k,∃j:Nat,x=(j:Int)∧j<k∧leafB T x=true:=by
 induction k with
 | zero=>intro x hx;cases hx
 | succ k ih =>
  intro x hx
  cases hl:leafB T (k:Int)
  ·rw [leaves_no hl] at hx
   obtain ⟨j,e,h1,h2⟩:=ih x hx
   exact ⟨j,e,by omega,h2⟩
  ·rw [leaves_yes hl] at hx
   rcases List.mem_append.1 hx with h|h
   ·obtain ⟨j,e,h1,h2⟩:=ih x h
    exact ⟨j,e,by omega,h2⟩
   ·rw [List.mem_singleton] at h
    subst h
    exact ⟨k,rfl,by omega,hl⟩
theorem leaves_hasL {T:List Q4} (hc:treeCode T=0):∀x ∈ leavesOf T,hasL T x=true:=fun x hx=>by
 unfold leavesOf at hx
 rw [if_pos hc] at hx
 obtain ⟨j,e,h1,h2⟩:=leaf_has x hx
 unfold hasL inQ
 rw [h2,decide_eq_true (show 0≤x by omega),decide_eq_true (show x≤(T.length:Int)-1 by omega)]
 rfl
theorem plain_tree:nwB [(-1,5000,5000,9000)] 1=true:=by decide
structure D14 (B:Nat) (a0:Option Addr) (len cap b:Nat) (w wr:World) (q:Nat) (E:EgR):Prop where
 cur:Cur B a0 len cap b wr
 only:Only b w wr
 lt:b<w.heap.size
 oq:w.heap.size<q
 res:Lay wr w.heap.size [.int .i64 0,.slice none 0 0,.slice none 0 0,.slice none 0 0,.slice none 0 0,.slice none 0 0,.int .i64 0]
 var:Lay wr q [.int .i64 E.now,.slice E.aT E.T.length E.cT,.slice E.aO E.O.length E.cO,.slice E.aP E.P.length E.cP,.slice E.aL E.L.length E.cL,.slice E.aK E.K.length E.cK,.int .i64 E.nx]
 own:∃lo hi,E.own wr lo hi∧w.heap.size<lo∧(q<lo∨hi≤q)
 ok:E.ok
section
variable {B:Nat} {a0:Option Addr} {len cap b:Nat} {w wr:World} {q:Nat} {E:EgR}
theorem D14.draw (d:D14 B a0 len cap b w wr q E) {w2:World} (o:Only b wr w2) (k:Cur B a0 len cap b w2):D14 B a0 len cap b w w2 q E:=by
 have h1:=d.lt
 have h2:=d.oq
 obtain ⟨lo,hi,e,h3,h4⟩:=d.own
 exact ⟨k,d.only.trans o,d.lt,d.oq,d.res.only o (by omega),d.var.only o (by omega),⟨lo,hi,e.only o (.inl (by omega)),h3,h4⟩,d.ok⟩
theorem D14.next (d:D14 B a0 len cap b w wr q E) {w2:World} (h:Below wr.heap.size wr w2):D14 B a0 len cap b w w2 q E:=d.draw (Only.of_below h) (d.cur.mono h)
theorem D14.store (d:D14 B a0 len cap b w wr q E) {u:World} (E':EgR) {lo hi:Nat} (e:E'.own wr lo hi) (h1:w.heap.size<lo) (h2:q<lo∨hi≤q) (ok:E'.ok) (o:Only q wr u) (l:Lay u q [.int .i64 E'.now,.slice E'.aT E'.T.length E'.cT,.slice E'.aO E'.O.length E'.cO,.slice E'.aP E'.P.length E'.cP,.slice E'.aL E'.L.length E'.cL,.slice E'.aK E'.K.length E'.cK,.int .i64 E'.nx]):D14 B a0 len cap b w u q E':=by
 have h3:=d.lt
 have h4:=d.oq
 have hb:Below (w.heap.size+1) wr u:=o.below (by omega) (by have:=d.var.lt;omega)
 exact ⟨d.cur.under hb (by omega),⟨o.os.trans d.only.os,o.tape.trans d.only.tape,o.output.trans d.only.output,Nat.le_trans d.only.size o.size,fun k hk hn=>(o.block k (Nat.lt_of_lt_of_le hk d.only.size) (by omega)).trans (d.only.block k hk hn)⟩,d.lt,d.oq,d.res.only o (by omega),l,⟨lo,hi,e.only o (by omega),h1,h2⟩,ok⟩
theorem D14.big (d:D14 B a0 len cap b w wr q E):q<wr.heap.size:=d.var.lt
end
def P14 (B:Nat) (a0:Option Addr) (len cap b:Nat) (w:World) (e:Ending) (w':World):Prop:=∃(E:EgR),e=.returned (engV E.now E.aT E.T.length E.cT E.aO E.O.length E.cO E.aP E.P.length E.cP E.aL E.L.length E.cL E.aK E.K.length E.cK E.nx)∧E.own w' w.heap.size w'.heap.size∧E.ok∧E.K≠[]∧Cur B a0 len cap b w'∧Only b w w'
def NPost (w:World) (T:List Q4) (n:Int) (e:Ending) (w':World):Prop:=∃(E:EgR),e=.returned (.tuple #[engV E.now E.aT E.T.length E.cT E.aO E.O.length E.cO E.aP E.P.length E.cP E.aL E.L.length E.cL E.aK E.K.length E.cK E.nx,.bool (nwB T n)])∧E.own w' w.heap.size w'.heap.size∧(nwB T n=true→E.ok∧E.T=T∧treeCode T=0)∧Below w.heap.size w w'
theorem dNew {w:World} {aT:Option Addr} (cT:Nat) {T:List Q4} (n:Int) (hT:Quad w.heap.size w aT T):Calls Tryz.prog 141 #[.slice aT T.length cT,.int .i64 n] w (NPost w T n) :=
 (specNewEng_any cT n hT).mono fun e w' q=>by
  obtain ⟨aT,cT,aO,cO,aP,cP,aL,cL,aK,cK,he,eg,hb⟩:=q
  exact ⟨⟨0,0,aT,aO,aP,aL,aK,cT,cO,cP,cL,cK,nwT T n,nwO T n,nwP T n,nwL T n,[]⟩,he,eg,fun h=>new_right h,hb⟩
theorem leaf_last14 {T:List Q4} (h:IsTree T):1≤(leavesTo T T.length).length:=by
 have h0:=h.l0
 obtain ⟨n,hn⟩:∃n,T.length=n+1:=⟨T.length-1,by omega⟩
 have hl:leafB T (n:Int)=true:=by
  unfold leafB
  rw [List.all_eq_true]
  intro t ht
  obtain ⟨k,hk,rfl⟩:=List.getElem_of_mem ht
  have:=par_num (h.sound.par k hk)
  simp only [Bool.not_eq_true',decide_eq_false_iff_not]
  omega
 rw [hn,leaves_yes hl]
 simp
theorem leaves_some14 {T:List Q4} (h:treeCode T=0):1≤(leavesOf T).length:=by
 unfold leavesOf
 rw [if_pos h]
 exact leaf_last14 (tree_of h)
theorem IV.only14 {w w':World} {lo b:Nat} {v:Value} {xs:List Int} (h:IV w lo v xs) (o:Only b w w') (hb:b<lo):IV w' lo v xs :=
 h.onlyO (o:=some b) ⟨o.os,o.tape,o.output,o.size,fun k hk hn=>o.block k hk (fun e=>hn (by rw [e]))⟩ (fun g hg e=>by have:=(h.own hg).1;have:=Option.some.inj e;omega)
structure D15 (B:Nat) (a0:Option Addr) (len cap b:Nat) (w wr:World) (q:Nat) (vs:List Value):Prop where
 cur:Cur B a0 len cap b wr
 only:Only b w wr
 lt:b<w.heap.size
 oq:w.heap.size<q
 res:Lay wr w.heap.size [.int .i64 0,.slice none 0 0,.slice none 0 0,.slice none 0 0,.slice none 0 0,.slice none 0 0,.int .i64 0]
 var:Lay wr q vs
section
variable {B:Nat} {a0:Option Addr} {len cap b:Nat} {w wr:World} {q:Nat} {vs:List Value}
theorem D15.draw (d:D15 B a0 len cap b w wr q vs) {w2:World} (o:Only b wr w2) (k:Cur B a0 len cap b w2):D15 B a0 len cap b w w2 q vs:=by
 have h1:=d.lt
 have h2:=d.oq
 exact ⟨k,d.only.trans o,d.lt,d.oq,d.res.only o (by omega),d.var.only o (by omega)⟩
theorem D15.next (d:D15 B a0 len cap b w wr q vs) {w2:World} (h:Below wr.heap.size wr w2):D15 B a0 len cap b w w2 q vs:=d.draw (Only.of_below h) (d.cur.mono h)
theorem D15.is {E:EgR} (d:D15 B a0 len cap b w wr q [.int .i64 E.now,.slice E.aT E.T.length E.cT,.slice E.aO E.O.length E.cO,.slice E.aP E.P.length E.cP,.slice E.aL E.L.length E.cL,.slice E.aK E.K.length E.cK,.int .i64 E.nx]) {lo hi:Nat} (e:E.own wr lo hi) (h1:w.heap.size<lo) (h2:q<lo∨hi≤q) (ok:E.ok):D14 B a0 len cap b w wr q E:=⟨d.cur,d.only,d.lt,d.oq,d.res,d.var,⟨lo,hi,e,h1,h2⟩,ok⟩
theorem D15.store (d:D15 B a0 len cap b w wr q vs) {u:World} (E':EgR) {lo hi:Nat} (e:E'.own wr lo hi) (h1:w.heap.size<lo) (h2:q<lo∨hi≤q) (ok:E'.ok) (o:Only q wr u) (l:Lay u q [.int .i64 E'.now,.slice E'.aT E'.T.length E'.cT,.slice E'.aO E'.O.length E'.cO,.slice E'.aP E'.P.length E'.cP,.slice E'.aL E'.L.length E'.cL,.slice E'.aK E'.K.length E'.cK,.int .i64 E'.nx]):D14 B a0 len cap b w u q E':=by
 have h3:=d.lt
 have h4:=d.oq
 have hb:Below (w.heap.size+1) wr u:=o.below (by omega) (by have:=d.var.lt;omega)
 exact ⟨d.cur.under hb (by omega),⟨o.os.trans d.only.os,o.tape.trans d.only.tape,o.output.trans d.only.output,Nat.le_trans d.only.size o.size,fun k hk hn=>(o.block k (Nat.lt_of_lt_of_le hk d.only.size) (by omega)).trans (d.only.block k hk hn)⟩,d.lt,d.oq,d.res.only o (by omega),l,⟨lo,hi,e.only o (by omega),h1,h2⟩,ok⟩
theorem d15_new {w2:World} {u:TypeId} {q:Nat} (hl:b<w.heap.size) (hq:q=w2.heap.size) (hz:w.heap.size<q) (o2:Only b w w2) (k2:Cur B a0 len cap b w2) (l:Lay w2 w.heap.size [.int .i64 0,.slice none 0 0,.slice none 0 0,.slice none 0 0,.slice none 0 0,.slice none 0 0,.int .i64 0]) (vs:List Value):D15 B a0 len cap b w (w2.alloc (.cells vs.toArray u)) q vs:=by
 have hb:=new_below w2 (.cells vs.toArray u)
 exact ⟨k2.mono hb,o2.trans (Only.of_below hb),hl,hz,l.next hb,lay_new vs u hq⟩
end
section
variable {B:Nat} {a0:Option Addr} {len cap b:Nat} {w wr:World} {q:Nat} {E:EgR}
theorem D14.conns (d:D14 B a0 len cap b w wr q E) (hk:1≤E.K.length):∃gk,E.aK=some ⟨gk,0,none⟩∧(w.heap.size<gk∧gk<wr.heap.size)∧∀i (h:i<E.K.length),wr.cell? ⟨gk,i*14,none⟩=some (.int .i64 E.K[i].id)∧wr.cell? ⟨gk,i*14+1,none⟩=some (.int .i64 E.K[i].lf)∧wr.cell? ⟨gk,i*14+2,none⟩=some (.int .i64 E.K[i].pl)∧wr.cell? ⟨gk,i*14+3,none⟩=some (.int .i64 E.K[i].k)∧wr.cell? ⟨gk,i*14+4,none⟩=some (.int .i64 E.K[i].wn)∧wr.cell? ⟨gk,i*14+5,none⟩=some (.int .i64 E.K[i].th)∧wr.cell? ⟨gk,i*14+6,none⟩=some (.int .i64 E.K[i].fl)∧wr.cell? ⟨gk,i*14+7,none⟩=some (.int .i64 E.K[i].ac)∧wr.cell? ⟨gk,i*14+8,none⟩=some (.int .i64 E.K[i].la)∧wr.cell? ⟨gk,i*14+9,none⟩=some (.int .i64 E.K[i].og)∧wr.cell? ⟨gk,i*14+10,none⟩=some (.int .i64 E.K[i].st)∧wr.cell? ⟨gk,i*14+11,none⟩=some (.int .i64 E.K[i].fr)∧wr.cell? ⟨gk,i*14+12,none⟩=some (.bool E.K[i].sl)∧∃sa sc,wr.cell? ⟨gk,i*14+13,none⟩=some (.slice sa E.K[i].xs.length sc):=by
 obtain ⟨lo,hh,e,h1,h2⟩:=d.own
 obtain ⟨lo',hi',uL,uK,h3,h4,eo⟩:=e
 obtain ⟨gk,ha,g0,g1,_⟩:=eo.atK (by omega)
 rw [ha] at eo
 refine ⟨gk,ha,⟨by omega,g1⟩,fun i h=>?_⟩
 obtain ⟨c0,c1,c2,c3,c4,c5,c6,c7,c8,c9,c10,c11,c12⟩:=eo.con h
 obtain ⟨sa,sc,c13,_⟩:=eo.con13 h
 exact ⟨c0,c1,c2,c3,c4,c5,c6,c7,c8,c9,c10,c11,c12,sa,sc,c13⟩
theorem D14.far {g:Nat} {u:World} (d:D14 B a0 len cap b w wr q E) (o:Only g wr u) (hg:q<g) {w0:World} (e:∃lo hh,E.own w0 lo hh∧w.heap.size<lo∧(q<lo∨hh≤q)∧w0.heap.size≤g) (ob:Only b w0 wr):D14 B a0 len cap b w u q E:=by
 have h1:=d.lt
 have h2:=d.oq
 obtain ⟨lo,hh,eo,h3,h4,h5⟩:=e
 obtain ⟨lo',hi',uL,uK,h6,h7,ex⟩:=eo
 have ht:=ex.top
 have e1:E.own wr lo hi':=(EgR.own.only (⟨lo',hi',uL,uK,h6,Nat.le_refl _,ex⟩:E.own w0 lo hi') ob (.inl (by omega)))
 have hb:Below (w.heap.size+1) wr u:=o.below (by omega) (by have:=d.var.lt;omega)
 exact ⟨d.cur.under hb (by omega),⟨o.os.trans d.only.os,o.tape.trans d.only.tape,o.output.trans d.only.output,Nat.le_trans d.only.size o.size,fun k hk hn=>(o.block k (Nat.lt_of_lt_of_le hk d.only.size) (by omega)).trans (d.only.block k hk hn)⟩,d.lt,d.oq,d.res.only o (by omega),d.var.only o (by omega),⟨lo,hi',e1.only o (.inr (by omega)),h3,by omega⟩,d.ok⟩
theorem D14.fin {u:World} (d:D14 B a0 len cap b w wr q E) (o:Only w.heap.size wr u):E.own u w.heap.size u.heap.size∧Cur B a0 len cap b u∧Only b w u:=by
 have h1:=d.lt
 have h2:=d.oq
 obtain ⟨lo,hh,eo,h3,h4⟩:=d.own
 obtain ⟨lo',hi',uL,uK,h6,h7,ex⟩:=eo
 have ht:=ex.top
 have hb:Below w.heap.size wr u:=o.below (Nat.le_refl _) (by have:=d.var.lt;omega)
 have e1:E.own wr lo hi':=⟨lo',hi',uL,uK,h6,Nat.le_refl _,ex⟩
 exact ⟨(e1.only o (.inl h3)).wider (by omega) (by have:=o.size;omega),d.cur.under hb h1,⟨o.os.trans d.only.os,o.tape.trans d.only.tape,o.output.trans d.only.output,Nat.le_trans d.only.size o.size,fun k hk hn=>(o.block k (Nat.lt_of_lt_of_le hk d.only.size) (by omega)).trans (d.only.block k hk hn)⟩⟩
end
def GrOk (L:List F8) (K:List Kn) (k:Nat) (s:Int):Prop:=∃(hk:k<K.length) (p:Nat) (hp:p<L.length),K[k].xs[0]?=some s∧K[k].pl=(p:Int)∧K[k].fl+s≤K[k].wn∧roomB_SpecPlc2 L[p].1 L[p].2.1 s L[p].2.2=true
theorem IV.smp2 {w:World} {lo c:Nat} {a:Option Addr} {xs:List Int} (h:IV w lo (.slice a xs.length c) xs):ISmp w.heap.size w a xs:=by
 obtain ⟨a',c',e,_,s⟩:=h.io.smp
 injection e with e1
 subst e1
 exact s
theorem specNext_any {w:World} (now nx:Int) {aT aO aP aL aK:Option Addr} (cT cO cP cL cK:Nat) {T O P:List Q4} {L:List F8} {K:List Kn} (hT:Quad w.heap.size w aT T) (hO:Quad w.heap.size w aO O) (hP:Quad w.heap.size w aP P) (hL:Fls w.heap.size w aL L) (hK:Kls w.heap.size w aK K) (h:EgOk now nx T O P L K):Calls Tryz.prog 172 #[engV now aT T.length cT aO O.length cO aP P.length cP aL L.length cL aK K.length cK nx] w fun e w'=>(e=.returned (.int .i64 (-1))∨∃(k:Nat) (s:Int),e=.returned (.int .i64 k)∧GrOk L K k s)∧Below w.heap.size w w':=by
 obtain ⟨nT,nO,nP⟩:=eg_lens h
 have k40:=h.k1
 have HEG:Hid (EgOk now nx T O P L K):=h
 have hnx:0≤nx∧nx≤1000001:=by have q:=h.nx';unfold inQ at q;simp only [Bool.and_eq_true,decide_eq_true_eq] at q;exact q
 have hk40:(K.length:Int)≤40:=by omega
 clear h
 obtain ⟨v,hv,L0,nb⟩:=new1 w 31 [.int .i64 now,.slice aT T.length cT,.slice aO O.length cO,.slice aP P.length cP,.slice aL L.length cL,.slice aK K.length cK,.int .i64 nx]
 have zv:=L0.lt
 go_enter Tryz.func172,Tryz.ntmps172
 go_upto_region 1 with (fail)
 rw [←hv]
 clear hv
 obtain ⟨q0,q1,q2,q3,q4,q5,q6⟩:=Lay.c7 (b:=w.heap.size) L0
 go_wp2
 go_loopw [4] (fun s wr=>∃j:Nat,s=.int .i64 (j:Int)∧j≤K.length∧Below v.heap.size v wr) (fun s _=>K.length-(intOf s).toNat)
 case atStart=>exact ⟨0,rfl,Nat.zero_le _,Below.refl _ _⟩
 case round =>
  clear q0 q1 q2 q3 q4 q5 q6
  obtain ⟨j,rfl,hj,hbw⟩:=hrel
  have LW:=L0.next hbw
  obtain ⟨q0,q1,q2,q3,q4,q5,q6⟩:=LW.c7
  have hbv:=hbw.size
  go_upto_region 3 with (fail)
  go_cut [25] from 12 to 25 (fun s wd=>∃f:Bool,s=.bool f∧(f=true→j<K.length)∧Below v.heap.size v wd)
  case first =>
   by_cases hlt:j<K.length
   ·have hlt':(j:Int)<(K.length:Int):=by omega
    have hltd:decide ((j:Int)<(K.length:Int))=true:=decide_eq_true hlt'
    have hj0:(0:Int)≤(j:Int):=by omega
    obtain ⟨b,off,sa,sc,hak,hbl,d0,d13,sm⟩:=hK j hlt
    subst hak
    have cid:wr.cell? ⟨b,off+j*14,none⟩=some (.int .i64 K[j].id):=(hbw.cell (by show b<_;omega)).trans ((nb.cell (by exact hbl)).trans (d0 0 _ rfl))
    clear d0 d13 sm
    by_cases hd:K[j].id<nx
    ·have hd':decide (K[j].id<nx)=true:=decide_eq_true hd
     go_quiet (fail)
     go_wp2
     go_meet
     exact ⟨true,rfl,fun _=>hlt,hbw.trans ((below_drews (Below.refl _ _) _).mono hbw.size)⟩
    ·have hd':decide (K[j].id<nx)=false:=decide_eq_false hd
     go_quiet (fail)
     go_wp2
     go_meet
     exact ⟨false,rfl,fun _=>hlt,hbw.trans ((below_drews (Below.refl _ _) _).mono hbw.size)⟩
   ·have hltd:decide ((j:Int)<(K.length:Int))=false:=decide_eq_false (by omega)
    go_quiet (fail)
    go_wp2
    go_meet
    exact ⟨false,rfl,fun e=>(by cases e),hbw.trans ((below_drews (Below.refl _ _) _).mono hbw.size)⟩
  case rest =>
  obtain ⟨f,rfl,hf,hbc⟩:=hcut
  cases f
  rotate_left 1
  ·have hlt:=hf rfl
   clear hf q0 q1 q2 q3 q4 q5 q6 LW
   go_wp2
   go_roundw
   case rel=>exact ⟨j+1,by go_num,by omega,hbc⟩
   case measure=>simp [intOf];omega
  clear hf q0 q1 q2 q3 q4 q5 q6 LW hbw hbv
  go_wp2
  go_loopw [5] (fun s wr=>∃m:Nat,s=.int .i64 (m:Int)∧m≤K.length∧Below v.heap.size v wr) (fun s _=>K.length-(intOf s).toNat)
  case atStart=>exact ⟨0,rfl,Nat.zero_le _,hbc⟩
  case round =>
   clear hbc
   obtain ⟨m,rfl,hm,hbw⟩:=hrel
   have LW:=L0.next hbw
   obtain ⟨q0,q1,q2,q3,q4,q5,q6⟩:=LW.c7
   have hbv:=hbw.size
   by_cases hlt:m<K.length
   ·have hlt':(m:Int)<(K.length:Int):=by omega
    obtain ⟨i,hi⟩:∃i:Nat,(j+m) % K.length=i:=⟨_,rfl⟩
    have hiK:i<K.length:=by rw [←hi];exact Nat.mod_lt _ (by omega)
    have hmod:Int.tmod ((j:Int)+(m:Int)) (K.length:Int)=(i:Int):=by rw [←hi,Int.natCast_emod,Int.natCast_add];exact Int.tmod_eq_emod_of_nonneg (by omega)
    have hk0:¬(K.length:Int)=0:=by omega
    have hwm:IntKind.i64.wrap (i:Int)=(i:Int):=by rw [IntKind.wrap_i64];omega
    have hi0:(0:Int)≤(i:Int):=by omega
    have hik:(i:Int)<(K.length:Int):=by omega
    have hj40:(j:Int)≤40:=by omega
    have hm40:(m:Int)≤40:=by omega
    obtain ⟨b,off,sa,sc,hak,hbl,d0,d13,sm⟩:=hK i hiK
    subst hak
    obtain ⟨c,hc⟩:∃c,K[i]=c:=⟨_,rfl⟩
    have HC:Hid (K[i]=c):=hc
    rw [hc] at d0 d13 sm
    have dd:∀k u,(c.cs ++ [.slice sa c.xs.length sc])[k]?=some u→wr.cell? ⟨b,off+i*14+k,none⟩=some u:=fun k u hu=>by
     refine (hbw.cell (by show b<_;omega)).trans ((nb.cell (by exact hbl)).trans ?_)
     by_cases hk:k<13
     ·rw [List.getElem?_append_left (by rw [Kn.len];exact hk)] at hu
      exact d0 k u hu
     ·have hk2:=(List.getElem?_eq_some_iff.1 hu).1
      rw [List.length_append,Kn.len] at hk2
      have:k=13:=by simp at hk2;omega
      subst this
      have e:(c.cs ++ [Value.slice sa c.xs.length sc])[13]?=some (.slice sa c.xs.length sc):=rfl
      rw [e] at hu
      rw [←Option.some.inj hu]
      exact d13
    have e0:wr.cell? ⟨b,off+i*14,none⟩=some (.int .i64 c.id):=dd 0 _ rfl
    have e1:wr.cell? ⟨b,off+i*14+1,none⟩=some (.int .i64 c.lf):=dd 1 _ rfl
    have e2:wr.cell? ⟨b,off+i*14+2,none⟩=some (.int .i64 c.pl):=dd 2 _ rfl
    have e3:wr.cell? ⟨b,off+i*14+3,none⟩=some (.int .i64 c.k):=dd 3 _ rfl
    have e4:wr.cell? ⟨b,off+i*14+4,none⟩=some (.int .i64 c.wn):=dd 4 _ rfl
    have e5:wr.cell? ⟨b,off+i*14+5,none⟩=some (.int .i64 c.th):=dd 5 _ rfl
    have e6:wr.cell? ⟨b,off+i*14+6,none⟩=some (.int .i64 c.fl):=dd 6 _ rfl
    have e7:wr.cell? ⟨b,off+i*14+7,none⟩=some (.int .i64 c.ac):=dd 7 _ rfl
    have e8:wr.cell? ⟨b,off+i*14+8,none⟩=some (.int .i64 c.la):=dd 8 _ rfl
    have e9:wr.cell? ⟨b,off+i*14+9,none⟩=some (.int .i64 c.og):=dd 9 _ rfl
    have e10:wr.cell? ⟨b,off+i*14+10,none⟩=some (.int .i64 c.st):=dd 10 _ rfl
    have e11:wr.cell? ⟨b,off+i*14+11,none⟩=some (.int .i64 c.fr):=dd 11 _ rfl
    have e12:wr.cell? ⟨b,off+i*14+12,none⟩=some (.bool c.sl):=dd 12 _ rfl
    have e13:wr.cell? ⟨b,off+i*14+13,none⟩=some (.slice sa c.xs.length sc):=dd 13 _ rfl
    clear dd d0 d13 hc
    go_upto_region 10 with (fail)
    obtain ⟨y,hy,LK,by0⟩:=new1 wr 47 [.int .i64 c.id,.int .i64 c.lf,.int .i64 c.pl,.int .i64 c.k,.int .i64 c.wn,.int .i64 c.th,.int .i64 c.fl,.int .i64 c.ac,.int .i64 c.la,.int .i64 c.og,.int .i64 c.st,.int .i64 c.fr,.bool c.sl,.slice sa c.xs.length sc]
    rw [←hy]
    clear hy e0 e1 e2 e3 e4 e5 e6 e7 e8 e9 e10 e11 e12 e13
    obtain ⟨kq,hkq⟩:∃q,q=wr.heap.size:=⟨_,rfl⟩
    rw [←hkq] at LK ⊢
    clear hkq
    have byv:Below v.heap.size v y:=hbw.trans (by0.mono hbw.size)
    obtain ⟨k0,k1,k2,k3,k4,k5,k6,k7,k8,k9,k10,k11,k12,k13⟩:=LK.c14
    have zby0:=by0.size
    by_cases hx:c.xs.length=0
    ·have hx':((c.xs.length:Int) == 0)=true:=by rw [beq_iff_eq];omega
     clear q0 q1 q2 q3 q4 q5 q6 LW
     go_wp2
     go_roundw
     case rel=>exact ⟨m+1,by go_num,by omega,byv⟩
     case measure=>simp [intOf];omega
    ·have hx':((c.xs.length:Int) == 0)=false:=by rw [beq_eq_false_iff_ne];omega
     have hx0:(0:Int)<(c.xs.length:Int):=by omega
     have hx1:0<c.xs.length:=by omega
     obtain ⟨bx,ox,hsa,hbx,s0⟩:=sm 0 hx1
     subst hsa
     obtain ⟨s,hs⟩:∃s,c.xs[0]=s:=⟨_,rfl⟩
     rw [hs] at s0
     have cs:y.cell? ⟨bx,ox,none⟩=some (.int .i64 s):=(byv.cell (by show bx<_;omega)).trans ((nb.cell (by exact hbx)).trans s0)
     have hcon:=HEG.out.con i hiK
     rw [HC.out] at hcon
     obtain ⟨pa,pb,pc,pd⟩:=con_parts hcon
     have hsg:segB s=true:=by
      rw [List.all_eq_true] at pd
      rw [←hs]
      exact pd _ (List.getElem_mem hx1)
     have HSG:Hid (segB s=true):=hsg
     have HXS:Hid (c.xs[0]?=some s):=by show _=_;rw [List.getElem?_eq_getElem hx1,hs]
     obtain ⟨p,hpl,hp⟩:=eg_place HEG.out hiK
     rw [HC.out] at hpl
     have HPL:Hid (c.pl=(p:Int)):=hpl
     have hfl:=(cc_num pa).2.2.2.1
     have hwn:=(cc_num pa).2.1
     have hsn:=seg_num hsg
     have hws:IntKind.i64.wrap (c.fl+s)=c.fl+s:=by rw [IntKind.wrap_i64];omega
     have hleaf:0≤c.lf∧c.lf<T.length:=by
      unfold conB inQ at hcon
      simp only [Bool.and_eq_true,decide_eq_true_eq] at hcon
      omega
     have hl0:=hleaf.1
     have hl1:=hleaf.2
     have hw:=(lend_of HEG.out.lend).tree.sound.well
     have HWL:Hid (PWell T):=hw
     have HOP:Hid (O.length=P.length):=by have a:=(lend_of HEG.out.lend).lo;have b:=(lend_of HEG.out.lend).lp;show _=_;omega
     have HPM:Hid (∀q (hq:q<(pathOf T c.lf).length),0≤(pathOf T c.lf)[q]∧(pathOf T c.lf)[q]<P.length):=fun q hq=>by
      have:=path_mem hw T.length c.lf hl1 (by omega) _ (List.getElem_mem hq)
      have b:=(lend_of HEG.out.lend).lp
      omega
     have HPN:Hid ((pathOf T c.lf).length≤30):=Nat.le_trans (path_length hl1) nT.2
     obtain ⟨bl,ol,sl,cl,hal,hbl2,e0,e1,e2,sm2⟩:=hL p hp
     subst hal
     rw [hpl] at k2
     have hp':(p:Int)<(L.length:Int):=by omega
     have hp0:(0:Int)≤(p:Int):=by omega
     have LK2:Lay y kq [.int .i64 c.id,.int .i64 c.lf,.int .i64 (p:Int),.int .i64 c.k,.int .i64 c.wn,.int .i64 c.th,.int .i64 c.fl,.int .i64 c.ac,.int .i64 c.la,.int .i64 c.og,.int .i64 c.st,.int .i64 c.fr,.bool c.sl,.slice (some ⟨bx,ox,none⟩) c.xs.length sc]:=by rw [←hpl];exact LK
     have byw:Below w.heap.size w y:=nb.trans (byv.mono nb.size)
     have zby:=byw.size
     have yb:Below y.heap.size y y:=Below.refl _ _
     have QMP:Hid (ISmp y.heap.size y sl L[p].2.2):=(sm2.here byw)
     have HS:Hid (∀u,Below y.heap.size y u→u.cell? ⟨w.heap.size,1,none⟩=some (.slice aT T.length cT)∧u.cell? ⟨w.heap.size,2,none⟩=some (.slice aO O.length cO)∧u.cell? ⟨w.heap.size,3,none⟩=some (.slice aP P.length cP)∧u.cell? ⟨w.heap.size,4,none⟩=some (.slice (some ⟨bl,ol,none⟩) L.length cL)∧u.cell? ⟨kq,1,none⟩=some (.int .i64 c.lf)∧u.cell? ⟨kq,2,none⟩=some (.int .i64 (p:Int))∧u.cell? ⟨kq,4,none⟩=some (.int .i64 c.wn)∧u.cell? ⟨kq,6,none⟩=some (.int .i64 c.fl)∧u.cell? ⟨bl,ol+p*3,none⟩=some (.int .i64 L[p].1)∧u.cell? ⟨bl,ol+p*3+1,none⟩=some (.int .i64 L[p].2.1)∧u.cell? ⟨bl,ol+p*3+2,none⟩=some (.slice sl L[p].2.2.length cl)):=fun u hu=>⟨(L0.next (byv.trans (hu.mono byv.size))).cell 1 _ rfl,(L0.next (byv.trans (hu.mono byv.size))).cell 2 _ rfl,(L0.next (byv.trans (hu.mono byv.size))).cell 3 _ rfl,(L0.next (byv.trans (hu.mono byv.size))).cell 4 _ rfl,(LK2.next hu).cell 1 _ rfl,(LK2.next hu).cell 2 _ rfl,(LK2.next hu).cell 4 _ rfl,(LK2.next hu).cell 6 _ rfl,(hu.cell (by show bl<_;omega)).trans ((byw.cell (by exact hbl2)).trans e0),(hu.cell (by show bl<_;omega)).trans ((byw.cell (by exact hbl2)).trans e1),(hu.cell (by show bl<_;omega)).trans ((byw.cell (by exact hbl2)).trans e2)⟩
     clear hx hsg hs s0 hcon pa pb pc pd hfl hwn hw sm hpl e0 e1 e2 sm2 LK hleaf
     clear q0 q1 q2 q3 q4 q5 q6 LW
     have LY:=(L0.next byv)
     obtain ⟨q0,q1,q2,q3,q4,q5,q6⟩:=LY.c7
     go_upto_region 12 with (fail)
     go_cut [82] from 51 to 82 (fun z wd=>∃f:Bool,z=.bool f∧(f=true→c.fl+s≤c.wn∧roomB_SpecPlc2 L[p].1 L[p].2.1 s L[p].2.2=true)∧Below v.heap.size v wd)
     case first =>
      clear q0 q1 q2 q3 q4 q5 q6 k0 k1 k2 k3 k4 k5 k6 k7 k8 k9 k10 k11 k12 k13 cs
      by_cases hfit:c.fl+s≤c.wn
      ·have hfd:decide (c.fl+s≤c.wn)=true:=decide_eq_true hfit
       cases hroom:roomB_SpecPlc2 L[p].1 L[p].2.1 s L[p].2.2
       ·skip
        refine heldQ1 HS (Below.refl _ _).drew fun hS=>?_
        refine anyR 0 rfl ?_
        refine anyR 1 rfl ?_
        refine anyR 2 rfl ?_
        refine anyR 3 rfl ?_
        refine anyR 4 rfl ?_
        refine anyR 5 rfl ?_
        refine anyR 6 rfl ?_
        refine anyR 7 rfl ?_
        refine anyR 8 rfl ?_
        refine anyR 9 rfl ?_
        refine anyR 10 rfl ?_
        refine anyR 11 rfl ?_
        refine anyR 12 rfl ?_
        refine anyR 13 rfl ?_
        refine anyR 14 rfl ?_
        refine anyR 15 rfl ?_
        refine anyR 16 rfl ?_
        refine anyC 17 rfl fun Kr hKr=>?_
        go_simp
        (refine (specRoom_any cl (QMP.out.here (yb.drew))).mono ?_;rintro e u1 ⟨rfl,hb1⟩;rw [hroom];have hb1:=undrewE hb1;have hS1:=HS.out _ hb1)
        refine hKr.out _ _ ‹_› fun _=>?_
        try simp only [nrm]
        refine anyR 18 rfl ?_
        refine anyR 19 rfl ?_
        refine anyS 20 rfl ?_
        refine anyS 21 rfl ?_
        refine anyS 22 rfl ?_
        refine anyS 23 rfl ?_
        refine anyS 24 rfl ?_
        refine anyS 25 rfl ?_
        refine anyS 26 rfl ?_
        refine anyS 27 rfl ?_
        refine anyS 28 rfl ?_
        refine anyS 29 rfl ?_
        refine anyS 30 rfl ?_
        refine anyR 31 rfl ?_
        refine wpAnyH_done (by kernel_rfl) ?_ _
        repeat go_step
        go_meet
        exact ⟨false,rfl,fun e=>(by cases e),byv.trans (hb1.mono byv.size)⟩
       ·skip
        refine heldQ1 HS (Below.refl _ _).drew fun hS=>?_
        refine anyR 0 rfl ?_
        refine anyR 1 rfl ?_
        refine anyR 2 rfl ?_
        refine anyR 3 rfl ?_
        refine anyR 4 rfl ?_
        refine anyR 5 rfl ?_
        refine anyR 6 rfl ?_
        refine anyR 7 rfl ?_
        refine anyR 8 rfl ?_
        refine anyR 9 rfl ?_
        refine anyR 10 rfl ?_
        refine anyR 11 rfl ?_
        refine anyR 12 rfl ?_
        refine anyR 13 rfl ?_
        refine anyR 14 rfl ?_
        refine anyR 15 rfl ?_
        refine anyR 16 rfl ?_
        refine anyC 17 rfl fun Kr hKr=>?_
        go_simp
        (refine (specRoom_any cl (QMP.out.here (yb.drew))).mono ?_;rintro e u1 ⟨rfl,hb1⟩;rw [hroom];have hb1:=undrewE hb1;have hS1:=HS.out _ hb1)
        refine hKr.out _ _ ‹_› fun _=>?_
        try simp only [nrm]
        refine anyR 18 rfl ?_
        refine anyR 19 rfl ?_
        refine anyR 20 rfl ?_
        refine anyR 21 rfl ?_
        refine anyR 22 rfl ?_
        refine anyR 23 rfl ?_
        refine anyR 24 rfl ?_
        refine anyR 25 rfl ?_
        refine anyR 26 rfl ?_
        refine anyR 28 rfl ?_
        refine anyC 27 rfl fun Kr hKr=>?_
        go_simp
        (refine (specL6Path_any cT c.lf (hT.here (byw.trans (hb1.mono zby))) HWL.out nT.2 (by omega) (by omega)).mono ?_;rintro e u2 ⟨ap,np,cp,rfl,ivp,hb2⟩;have nz:=iv_lenC ivp;subst nz;have hb12:=hb1.trans (hb2.mono hb1.size);have hS2:=HS.out _ hb12;have HPI:Hid (ISmp u2.heap.size u2 ap (pathOf T c.lf)):=(IV.smp2 ivp))
        refine hKr.out _ _ ‹_› fun _=>?_
        try simp only [nrm]
        refine anyC 29 rfl fun Kr hKr=>?_
        go_simp
        (refine (l7Ask_any T.length cT cO cP cp (hO.here (byw.trans (hb12.mono zby))) (hP.here (byw.trans (hb12.mono zby))) HPI.out HOP.out nP.2 HPM.out HPN.out (seg_num HSG.out)).mono ?_;rintro e u3 ⟨rfl,hb3⟩;have hb13:=hb12.trans (hb3.mono hb12.size);have hS3:=HS.out _ hb13)
        refine hKr.out _ _ ‹_› fun _=>?_
        try simp only [nrm]
        refine anyR 30 rfl ?_
        refine anyR 31 rfl ?_
        refine wpAnyH_done (by kernel_rfl) ?_ _
        repeat go_step
        go_meet
        exact ⟨_,rfl,fun _=>⟨hfit,hroom⟩,byv.trans (hb13.mono byv.size)⟩
      ·have hfd:decide (c.fl+s≤c.wn)=false:=decide_eq_false hfit
       refine heldQ1 HS (Below.refl _ _).drew fun hS=>?_
       refine anyR 0 rfl ?_
       refine anyR 1 rfl ?_
       refine anyR 2 rfl ?_
       refine anyR 3 rfl ?_
       refine anyR 4 rfl ?_
       refine anyR 5 rfl ?_
       refine anyR 6 rfl ?_
       refine anyR 7 rfl ?_
       refine anyR 8 rfl ?_
       refine anyR 9 rfl ?_
       refine anyS 10 rfl ?_
       refine anyS 11 rfl ?_
       refine anyS 12 rfl ?_
       refine anyS 13 rfl ?_
       refine anyS 14 rfl ?_
       refine anyS 15 rfl ?_
       refine anyS 16 rfl ?_
       refine anyS 17 rfl ?_
       refine anyR 18 rfl ?_
       refine anyR 19 rfl ?_
       refine anyS 20 rfl ?_
       refine anyS 21 rfl ?_
       refine anyS 22 rfl ?_
       refine anyS 23 rfl ?_
       refine anyS 24 rfl ?_
       refine anyS 25 rfl ?_
       refine anyS 26 rfl ?_
       refine anyS 27 rfl ?_
       refine anyS 28 rfl ?_
       refine anyS 29 rfl ?_
       refine anyS 30 rfl ?_
       refine anyR 31 rfl ?_
       refine wpAnyH_done (by kernel_rfl) ?_ _
       repeat go_step
       go_meet
       exact ⟨false,rfl,fun e=>(by cases e),byv.trans ((Below.refl _ _).drew.mono byv.size)⟩
     case rest =>
     obtain ⟨f,rfl,hf,hbc⟩:=hcut
     clear q0 q1 q2 q3 q4 q5 q6 k0 k1 k2 k3 k4 k5 k6 k7 k8 k9 k10 k11 k12 k13 cs
     cases f
     ·clear hf
      go_wp2
      go_roundw
      case rel=>exact ⟨m+1,by go_num,by omega,hbc⟩
      case measure=>simp [intOf];omega
     ·obtain ⟨hfit,hroom⟩:=hf rfl
      go_wp2
      go_ret
      refine ⟨.inr ⟨i,rfl,s,hiK,p,hp,?_,?_,?_,hroom⟩,nb.trans (hbc.mono nb.size)⟩
      ·rw [HC.out];exact HXS.out
      ·rw [HC.out];exact HPL.out
      ·rw [HC.out];exact hfit
   ·have hmd:decide ((m:Int)<(K.length:Int))=false:=decide_eq_false (by omega)
    have hml:¬(m:Int)<(K.length:Int):=by omega
    go_wp2
    go_ret
    exact ⟨.inl rfl,nb.trans (hbw.mono nb.size)⟩
def Kn.tl (c:Kn) (ys:List Int):Kn:={ c with xs:=ys }
section
variable {w w':World} {lo hi g cap:Nat} {sT sO sP vL vK:Value} {uL uK:List Value} {T O P:List Q4} {L:List F8} {K:List Kn}
theorem EOwn.capK {i:Nat} (h:EOwn w lo hi sT sO sP vL uL (.slice (some ⟨g,0,none⟩) K.length cap) uK T O P L K) (hi1:i<K.length) {a:Option Addr} {n c:Nat} (hu:uK[i]?=some (.slice a n c)):K[i].xs.length≤c:=by
 obtain ⟨_,ko,hl⟩:=h.ko (by omega)
 have hi2:i<uK.length:=by omega
 obtain ⟨a',c',e,hc,s⟩:=(ko.own i hi1 hi2).smp
 rw [List.getElem?_eq_getElem hi2,e] at hu
 injection hu with hu
 injection hu with _ _ e3
 omega
theorem EOwn.setX {hi' i:Nat} {xs:List Int} {v:Value} (h:EOwn w lo hi sT sO sP vL uL (.slice (some ⟨g,0,none⟩) K.length cap) uK T O P L K) (hi1:i<K.length) (hv:IO w lo hi' v xs) (hn:∀b,elB v=some b→uK[i]?.bind elB=some b∨¬inE sT sO sP vL uL (.slice (some ⟨g,0,none⟩) K.length cap) uK b) (h1:hi≤hi') (h2:hi'≤w.heap.size) (hr:Room w v) :
 EOwn (w.setCells g (i*14+13) [v]) lo hi' sT sO sP vL uL (.slice (some ⟨g,0,none⟩) (K.set i (K[i].tl xs)).length cap) (uK.set i v) T O P L (K.set i (K[i].tl xs)):=by
 obtain ⟨hcap,ko,hl⟩:=h.ko (by omega)
 have hi2:i<uK.length:=by omega
 obtain ⟨c0,c1⟩:=ko.got i hi1 hi2
 have hsome:∀j,j<[v].length→(w.cell? ⟨g,i*14+13+j,none⟩).isSome=true:=fun j hj=>by
  have hj:j<1:=hj
  obtain ⟨⟨z,hz⟩,_⟩:=ko.any (i*14+13+j) (by omega)
  rw [hz]
  rfl
 obtain ⟨s1,s2,s3,s4⟩:=set14 [v] hsome
 refine h.putK hi1 s4 (fun j u hu=>?_) (fun j hj=>s2 j (by show j<i*14+13∨i*14+13+1≤j;omega)) (fun j=>s3 _) hv hn h1 h2 hr
 have hj:j<14:=(List.getElem?_eq_some_iff.1 hu).1
 by_cases a:j<13
 ·rw [s2 _ (.inl (by omega))]
  refine c0 j u ?_
  rw [List.getElem?_append_left (by show j<13;exact a)] at hu
  exact hu
 ·have e:j=13:=by omega
  subst e
  have:v=u:=Option.some.inj hu
  rw [←this]
  exact s1 0 v rfl
theorem EOwn.conS {i:Nat} {c:Kn} (h:EOwn w lo hi sT sO sP vL uL (.slice (some ⟨g,0,none⟩) (K.set i c).length cap) uK T O P L (K.set i c)) (hi1:i<K.length):w.cell? ⟨g,i*14,none⟩=some (.int .i64 c.id)∧w.cell? ⟨g,i*14+1,none⟩=some (.int .i64 c.lf)∧w.cell? ⟨g,i*14+2,none⟩=some (.int .i64 c.pl)∧w.cell? ⟨g,i*14+3,none⟩=some (.int .i64 c.k)∧w.cell? ⟨g,i*14+4,none⟩=some (.int .i64 c.wn)∧w.cell? ⟨g,i*14+5,none⟩=some (.int .i64 c.th)∧w.cell? ⟨g,i*14+6,none⟩=some (.int .i64 c.fl)∧w.cell? ⟨g,i*14+7,none⟩=some (.int .i64 c.ac)∧w.cell? ⟨g,i*14+8,none⟩=some (.int .i64 c.la)∧w.cell? ⟨g,i*14+9,none⟩=some (.int .i64 c.og)∧w.cell? ⟨g,i*14+10,none⟩=some (.int .i64 c.st)∧w.cell? ⟨g,i*14+11,none⟩=some (.int .i64 c.fr)∧w.cell? ⟨g,i*14+12,none⟩=some (.bool c.sl):=by
 have hj:i<(K.set i c).length:=by simpa using hi1
 have q:=h.con hj
 rw [KN_set hi1 c hj] at q
 exact q
theorem EOwn.frzS {i:Nat} {c:Kn} (h:EOwn w lo hi sT sO sP vL uL (.slice (some ⟨g,0,none⟩) (K.set i c).length cap) uK T O P L (K.set i c)) (hi1:i<K.length):w.frozen? ⟨g,i*14+3,none⟩=false∧w.frozen? ⟨g,i*14+4,none⟩=false∧w.frozen? ⟨g,i*14+5,none⟩=false∧w.frozen? ⟨g,i*14+6,none⟩=false∧w.frozen? ⟨g,i*14+7,none⟩=false∧w.frozen? ⟨g,i*14+8,none⟩=false∧w.frozen? ⟨g,i*14+9,none⟩=false∧w.frozen? ⟨g,i*14+10,none⟩=false∧w.frozen? ⟨g,i*14+11,none⟩=false∧w.frozen? ⟨g,i*14+12,none⟩=false∧w.frozen? ⟨g,i*14+13,none⟩=false :=
 h.frz (by simpa using hi1)
theorem EOwn.grown {i:Nat} {c d:Kn} (h:EOwn w lo hi sT sO sP vL uL (.slice (some ⟨g,0,none⟩) (K.set i c).length cap) uK T O P L (K.set i c)) (hi1:i<K.length) (e1:d.id=c.id) (e2:d.lf=c.lf) (e3:d.pl=c.pl) (e4:d.xs=c.xs) :
 EOwn (w.setCells g (i*14+3) d.ccs) lo hi sT sO sP vL uL (.slice (some ⟨g,0,none⟩) (K.set i d).length cap) uK T O P L (K.set i d):=by
 have hj:i<(K.set i c).length:=by simpa using hi1
 have q:=h.setCc hj d (by rw [KN_set hi1 c hj];exact e1) (by rw [KN_set hi1 c hj];exact e2) (by rw [KN_set hi1 c hj];exact e3) (by rw [KN_set hi1 c hj];exact e4)
 rw [List.set_set] at q
 exact q
theorem noE_X {b:Nat} {n n' i:Nat} {v:Value} (hn:¬inE sT sO sP vL uL (.slice (some ⟨g,0,none⟩) n cap) uK b) (hv:elB v≠some b):¬inE sT sO sP vL uL (.slice (some ⟨g,0,none⟩) n' cap) (uK.set i v) b:=fun h=>by
 rcases h with h|h|h
 ·exact hn (.inl h)
 ·exact hn (.inr (.inl h))
 ·rcases inV_set (n:=n) h with q|q
  ·exact hn (.inr (.inr q))
  ·exact hv q
theorem noE_P {b:Nat} {n n' m m' g2 cap2 i:Nat} {v:Value} (hn:¬inE sT sO sP (.slice (some ⟨g,0,none⟩) n cap) uL (.slice (some ⟨g2,0,none⟩) m cap2) uK b) (hv:elB v≠some b):¬inE sT sO sP (.slice (some ⟨g,0,none⟩) n' cap) (uL.set i v) (.slice (some ⟨g2,0,none⟩) m' cap2) uK b:=fun h=>by
 rcases h with h|h|h
 ·exact hn (.inl h)
 ·rcases inV_set (n:=n) h with q|q
  ·exact hn (.inr (.inl q))
  ·exact hv q
 ·exact hn (.inr (.inr h))
theorem noE_L {b:Nat} {sT' sO' sP':Value} (hn:¬inE sT sO sP vL uL vK uK b) (hl:¬inL sT' sO' sP' b):¬inE sT' sO' sP' vL uL vK uK b:=fun h=>by
 rcases h with h|h
 ·exact hl h
 ·exact hn (.inr h)
end
def GPost (w:World) (T:List Q4) (K:List Kn) (e:Ending) (w':World):Prop:=∃(E:EgR) (f g:Int),e=.returned (.tuple #[engV E.now E.aT E.T.length E.cT E.aO E.O.length E.cO E.aP E.P.length E.cP E.aL E.L.length E.cL E.aK E.K.length E.cK E.nx,.int .i64 f,.int .i64 g])∧E.own w' w.heap.size w'.heap.size∧E.ok∧E.T=T∧(K≠[]→E.K≠[])∧Below w.heap.size w w'
theorem specNext_int {w:World} (now nx:Int) {aT aO aP aL aK:Option Addr} (cT cO cP cL cK:Nat) {T O P:List Q4} {L:List F8} {K:List Kn} (hT:Quad w.heap.size w aT T) (hO:Quad w.heap.size w aO O) (hP:Quad w.heap.size w aP P) (hL:Fls w.heap.size w aL L) (hK:Kls w.heap.size w aK K) (h:EgOk now nx T O P L K):Calls Tryz.prog 172 #[engV now aT T.length cT aO O.length cO aP P.length cP aL L.length cL aK K.length cK nx] w fun e w'=>∃x:Int,e=.returned (.int .i64 x)∧(x = -1∨∃(k:Nat) (s:Int),x=(k:Int)∧GrOk L K k s)∧Below w.heap.size w w' :=
 (specNext_any now nx cT cO cP cL cK hT hO hP hL hK h).mono fun e w' q=>by
  rcases q with ⟨q|⟨k,s,e1,e2⟩,hb⟩
  ·exact ⟨-1,q,.inl rfl,hb⟩
  ·exact ⟨k,e1,.inr ⟨k,s,rfl,e2⟩,hb⟩
theorem specGrant_any {w:World} (now nx:Int) {aT aO aP aL aK:Option Addr} (cT cO cP cL cK:Nat) {T O P:List Q4} {L:List F8} {K:List Kn} (hT:Quad w.heap.size w aT T) (hO:Quad w.heap.size w aO O) (hP:Quad w.heap.size w aP P) (hL:Fls w.heap.size w aL L) (hK:Kls w.heap.size w aK K) (h:EgOk now nx T O P L K) (mT:T.length≤1048576) (mL:L.length≤1048576) (sL:∀f ∈ L,f.2.2.length≤1048576) (mK:K.length≤1048576) (sK:∀c ∈ K,c.xs.length≤1048576):Calls Tryz.prog 143 #[engV now aT T.length cT aO O.length cO aP P.length cP aL L.length cL aK K.length cK nx] w (GPost w T K):=by
 obtain ⟨nT,nO,nP⟩:=eg_lens h
 have l0:=h.l0
 have HEG:Hid (EgOk now nx T O P L K):=h
 clear h
 obtain ⟨v,hv,nb,L0,L1⟩:=preZ w 31 [.int .i64 now,.slice aT T.length cT,.slice aO O.length cO,.slice aP P.length cP,.slice aL L.length cL,.slice aK K.length cK,.int .i64 nx]
 have hw1:=L1.lt
 go_enter Tryz.func143,Tryz.ntmps143
 go_upto_region 1 with (fail)
 rw [←hv]
 clear hv
 obtain ⟨q0,q1,q2,q3,q4,q5,q6⟩:=Lay.c7 (b:=w.heap.size) L0
 go_upto_region 3 with (first|(go_at_call 172;refine (specNext_int now nx cT cO cP cL cK (hT.here nb) (hO.here nb) (hP.here nb) (hL.here nb) (hK.here nb) HEG.out).mono ?_;rintro e v2 ⟨x0,rfl,hx0,hb2⟩;have HX:Hid (x0 = -1∨∃(k:Nat) (s:Int),x0=(k:Int)∧GrOk L K k s):=hx0;clear hx0;have b2:=below_two nb hb2;have M0:=L0.next hb2;have M1:=L1.next hb2;clear q0 q1 q2 q3 q4 q5 q6;obtain ⟨q0,q1,q2,q3,q4,q5,q6⟩:=Lay.c7 (b:=w.heap.size) M0)|(go_at_call 52;refine (l14Copy_any now nx cT cO cP cL cK (hT.here b2) (hO.here b2) (hP.here b2) (hL.here b2) (hK.here b2) nT nO nP mL sL mK sK).mono ?_;rintro e u1 ⟨bT,dT,bO,dO,bP,dP,bL,dL,bK,dK,GK,lh,ph,rfl,lv,lb,tv,ck,hz,hb1⟩))
 rcases HX.out with hx|⟨i,s,hx,hgr⟩
 ·subst hx
  obtain ⟨x,hx,LX,bx⟩:=new1 u1 31 [.int .i64 now,.slice bT T.length dT,.slice bO O.length dO,.slice bP P.length dP,.slice bL L.length dL,.slice bK K.length dK,.int .i64 nx]
  rw [←hx]
  clear hx q0 q1 q2 q3 q4 q5 q6
  have X1:=(M1.next hb1).next bx
  have z1:=hb1.size
  have zx:=bx.size
  have zb:=b2.size
  have z2:=hb2.size
  have hlx:=LX.lt
  have hn1:=M1.lt
  have bwx:Below w.heap.size w x:=below_two (below_two b2 hb1) bx
  obtain ⟨j0,j1,j2,j3,j4,j5,j6⟩:=LX.c7
  obtain ⟨d0,d1,d2,d3,d4,d5,d6⟩:=X1.c7
  have df:=X1.free
  go_wp2
  obtain ⟨u,hu',ou,U⟩:=st7 (b:=w.heap.size+1) X1 (.int .i64 now) (.slice bT T.length dT) (.slice bO O.length dO) (.slice bP P.length dP) (.slice bL L.length dL) (.slice bK K.length dK) (.int .i64 nx)
  rw [hu']
  clear hu'
  have zu:=ou.size
  refine bodyPost_ret (results_threeE rfl _ _ _ _ rfl U.cell Tryz.underlying31 rfl (by kernel_rfl)) rfl ?_
  exact ⟨⟨now,nx,bT,bO,bP,bL,bK,dT,dO,dP,dL,dK,T,O,P,L,K⟩,-1,0,rfl,cp_out (lv.next bx) lb (tv.next bx) (ck.next bx) ⟨hz.1,hz.2.1,by have:=hz.2.2;omega⟩ ou (by omega) (by omega),HEG.out,rfl,fun q=>q,bwx.trans (ou.below (by omega) bwx.size)⟩
 ·subst hx
  obtain ⟨hi,p,hp,hx1,hpl,hfit,hroom⟩:=hgr
  have hkl:=(HEG.out.con i hi)
  obtain ⟨pa,pb,pc,pd⟩:=con_parts hkl
  have hl0:0<K[i].xs.length:=by
   rcases Nat.eq_zero_or_pos K[i].xs.length with q|q
   ·rw [List.getElem?_eq_none (by omega)] at hx1;cases hx1
   ·exact q
  have hs0:K[i].xs[0]=s:=by rw [List.getElem?_eq_getElem hl0] at hx1;exact Option.some.inj hx1
  have hsg:segB s=true:=by rw [List.all_eq_true] at pd;rw [←hs0];exact pd _ (List.getElem_mem hl0)
  have HSG:Hid (segB s=true):=hsg
  have HGR:Hid (EgOk now (K[i].id+1) T (spendO T O P K[i].lf now s) (spendP T O P K[i].lf now s) (L.set p (L[p].1,L[p].2.1+s,L[p].2.2)) (K.set i (K[i].gr s))):=gr_right HEG.out hi hpl hp hsg hfit hroom
  obtain ⟨YO,hYO⟩:∃Y,spendO T O P K[i].lf now s=Y:=⟨_,rfl⟩
  obtain ⟨YP,hYP⟩:∃Y,spendP T O P K[i].lf now s=Y:=⟨_,rfl⟩
  have HSO:Hid (spendO T O P K[i].lf now s=YO):=hYO
  have HSQ:Hid (spendP T O P K[i].lf now s=YP):=hYP
  have HST:Hid (spendT T O P K[i].lf now s=T):=if_pos (eg_told HEG.out hi hsg)
  rw [hYO,hYP] at HGR
  have HCC:Hid (ccB K[i].k K[i].wn K[i].th K[i].fl K[i].ac K[i].la K[i].og K[i].st K[i].fr=true):=pa
  have HFT:Hid (K[i].fl+s≤K[i].wn):=hfit
  have HPL:Hid (K[i].pl=(p:Int)):=hpl
  have HRB:Hid (roomB_SpecPlc2 L[p].1 L[p].2.1 s L[p].2.2=true):=hroom
  obtain ⟨ys,hys⟩:∃ys,K[i].xs.drop 1=ys:=⟨_,rfl⟩
  have HYS:Hid (K[i].xs.drop 1=ys):=hys
  have hyl:ys.length=K[i].xs.length-1:=by rw [←hys,List.length_drop]
  have HYL:Hid (ys.length=K[i].xs.length-1∧K[i].xs.length≤100):=⟨hyl,pc⟩
  have HTL:Hid (∀d:Kn,(K[i].tl ys).id=K[i].id∧(K[i].gr s).xs=(K[i].tl ys).xs):=fun _=>⟨rfl,hys⟩
  have hid:0≤K[i].id∧K[i].id≤1000000:=by
   unfold conB inQ at hkl
   simp only [Bool.and_eq_true,decide_eq_true_eq] at hkl
   exact hkl.1.1.1.1.1.1.1
  have hwid:IntKind.i64.wrap (K[i].id+1)=K[i].id+1:=by rw [IntKind.wrap_i64];omega
  have hi0:¬((i:Int)<0):=by omega
  have hi00:(0:Int)≤(i:Int):=by omega
  have hi':(i:Int)<(K.length:Int):=by omega
  have hp':(p:Int)<(L.length:Int):=by omega
  have hp0:(0:Int)≤(p:Int):=by omega
  have hx0':(0:Int)<(K[i].xs.length:Int):=by omega
  obtain ⟨i0,hinf,hz0,hz1,hz2⟩:=info_parts info_int
  clear hkl pa pb pc pd hx1 hsg hYO hYP hys hid hpl hfit hroom
  obtain ⟨uL,uK,eo⟩:=cp_own lv lb tv ck hz
  obtain ⟨gl,hgl,hgl0,hgl1,hgl2⟩:=eo.atL (by omega)
  obtain ⟨gk,hgk,hgk0,hgk1,hgk2⟩:=eo.atK (by omega)
  subst hgl hgk
  have HE:Hid (EOwn u1 v2.heap.size u1.heap.size (.slice bT T.length dT) (.slice bO O.length dO) (.slice bP P.length dP) (.slice (some ⟨gl,0,none⟩) L.length dL) uL (.slice (some ⟨gk,0,none⟩) K.length dK) uK T O P L K):=eo
  clear eo lv lb tv ck
  obtain ⟨x,hx,LX,bx⟩:=new1 u1 31 [.int .i64 now,.slice bT T.length dT,.slice bO O.length dO,.slice bP P.length dP,.slice (some ⟨gl,0,none⟩) L.length dL,.slice (some ⟨gk,0,none⟩) K.length dK,.int .i64 nx]
  rw [←hx]
  clear hx q0 q1 q2 q3 q4 q5 q6
  have X1:=(M1.next hb1).next bx
  have z1:=hb1.size
  have zx:=bx.size
  have zb:=b2.size
  have z2:=hb2.size
  have hlx:=LX.lt
  have hn1:=M1.lt
  have bwx:Below w.heap.size w x:=below_two (below_two b2 hb1) bx
  obtain ⟨j0,j1,j2,j3,j4,j5,j6⟩:=LX.c7
  have EX:Hid (EOwn x v2.heap.size u1.heap.size (.slice bT T.length dT) (.slice bO O.length dO) (.slice bP P.length dP) (.slice (some ⟨gl,0,none⟩) (L).length dL) (uL) (.slice (some ⟨gk,0,none⟩) (K).length dK) (uK) T O P (L) (K)):=HE.out.next bx
  obtain ⟨k0,k1,k2,k3,k4,k5,k6,k7,k8,k9,k10,k11,k12⟩:=EX.out.con hi
  obtain ⟨sa,sc,k13,ku,ksm⟩:=EX.out.con13 hi
  have hcap:=EX.out.capK hi ku
  obtain ⟨bs,os,hsa,hbs,s0⟩:=ksm 0 hl0
  subst hsa
  rw [hs0,Nat.add_zero] at s0
  obtain ⟨ua,hua⟩:∃ua,(if sc=1 then some ⟨bs,os,none⟩ else (some (⟨bs,os,none⟩:Addr)).map (·.add 1))=ua:=⟨_,rfl⟩
  have hsl:∀w,(Instr.sliceAt 45 (.slice (some ⟨bs,os,none⟩) K[i].xs.length sc) (some (.int .i64 1)) none none).run Tryz.prog w=.ok (.slice ua ys.length (sc-1)) w:=fun w=>by
   have q:=sliceI_run (a:=some ⟨bs,os,none⟩) (n:=K[i].xs.length) (cap:=sc) (k:=1) (by omega) w
   rw [hua,←hyl] at q
   exact q
  have HSM:Hid (ISmp x.heap.size (x.alloc (.cells #[] 2)) ua ys):=by
   have q:=smp_drop ksm (k:=1) (by omega) hcap
   rw [hua,HYS.out] at q
   exact q.mono (new_below x _)
  have NE0:Hid (¬inE (.slice bT T.length dT) (.slice bO O.length dO) (.slice bP P.length dP) (.slice (some ⟨gl,0,none⟩) (L).length dL) (uL) (.slice (some ⟨gk,0,none⟩) (K).length dK) (uK) u1.heap.size):=fun hb=>by have:=EX.out.bd hb;omega
  clear ku hua hcap ksm hs0 hyl
  go_upto_region 7 with (fail)
  clear k0 k1 k2 k3 k4 k5 k6 k7 k8 k9 k10 k11 k12
  have hgne:¬(gk=x.heap.size):=by omega
  have k13a:(x.alloc (.cells #[] 2)).cell? ⟨gk,i*14+13,none⟩=some (.slice (some ⟨bs,os,none⟩) K[i].xs.length sc):=((new_below x _).cell (p:=⟨gk,i*14+13,none⟩) (by show gk<_;omega)).trans k13
  go_upto_region 8 with (first|(at_builtin;refine wpList_append_smpZ (by rfl) _ _ 45 rfl x.heap.size 2 i0 _ Tryz.underlying45 hinf hz0 hz1 hz2 rfl _ rfl (own_none1 x _ _ rfl (Nat.le_refl _) _) ua (sc-1) x.heap.size ys rfl HSM.out (by have:=HYL.out;omega) (by simp) ?_;intro v' w3 own3 gr3 hzz;have HZC:Hid (ys.length=0→∃a,v'=.slice a 0 0):=(fun e=>⟨_,hzz (List.eq_nil_of_length_eq_zero e)⟩);clear hzz;have hb3:Below x.heap.size x w3:=((Below.refl _ x).alloc (Nat.le_refl _) _).grown gr3 (by simp) (fun k hk=>Nat.le_of_eq (Option.some.inj hk));obtain ⟨va,ca,rfl⟩:=own_slice own3;have E3:Hid (EOwn w3 v2.heap.size u1.heap.size (.slice bT T.length dT) (.slice bO O.length dO) (.slice bP P.length dP) (.slice (some ⟨gl,0,none⟩) (L).length dL) (uL) (.slice (some ⟨gk,0,none⟩) (K).length dK) (uK) T O P (L) (K)):=EX.out.next hb3;obtain ⟨k0,k1,k2,k3,k4,k5,k6,k7,k8,k9,k10,k11,k12⟩:=E3.out.con hi;obtain ⟨f3,f4,f5,f6,f7,f8,f9,f10,f11,f12,f13⟩:=E3.out.frz hi;obtain ⟨sa',sc',k13,ku',ksm'⟩:=E3.out.con13 hi))
  clear hgne k13a
  obtain ⟨y3,hy3⟩:∃y,y=w3.setCells gk (i*14+13) [.slice va ys.length ca]:=⟨_,rfl⟩
  have hy':w3.setCell ⟨gk,i*14+13,none⟩ (.slice va ys.length ca)=y3:=hy3.symm
  rw [hy']
  clear hy' hsl k0 k1 k2 k3 k4 k5 k6 k7 k8 k9 k10 k11 k12 f3 f4 f5 f6 f7 f8 f9 f10 f11 f12 f13 k13 ku' ksm' s0 hz0 hz1 hz2 hinf
  have oy3:Only gk w3 y3:=by rw [hy3];exact onlyCells _ _ _
  have z3:=hb3.size
  have ioA:IO w3 v2.heap.size w3.heap.size (.slice va ys.length ca) ys:=(own_ints own3).io.wider (by omega) (Nat.le_refl _)
  have ioB:∀b,elB (.slice va ys.length ca)=some b→x.heap.size≤b:=fun b hb=>((own_ints own3).io.el hb).1
  have ey:=E3.out.setX hi ioA (fun b hb=>.inr (fun hn=>by have:=ioB b hb;have:=E3.out.bd hn;omega)) (by omega) (Nat.le_refl _) (room_row own3 HZC.out)
  rw [←hy3] at ey
  have EY:Hid (EOwn y3 v2.heap.size w3.heap.size (.slice bT T.length dT) (.slice bO O.length dO) (.slice bP P.length dP) (.slice (some ⟨gl,0,none⟩) (L).length dL) (uL) (.slice (some ⟨gk,0,none⟩) (K.set i (K[i].tl ys)).length dK) (uK.set i (.slice va ys.length ca)) T O P (L) (K.set i (K[i].tl ys))):=ey
  have NE1:Hid (¬inE (.slice bT T.length dT) (.slice bO O.length dO) (.slice bP P.length dP) (.slice (some ⟨gl,0,none⟩) (L).length dL) (uL) (.slice (some ⟨gk,0,none⟩) (K.set i (K[i].tl ys)).length dK) (uK.set i (.slice va ys.length ca)) u1.heap.size):=noE_X NE0.out (fun e=>by have:=ioB _ e;omega)
  have zy3:=oy3.size
  have LY:=(LX.next hb3).only oy3 (by omega)
  have XY:=(X1.next hb3).only oy3 (by omega)
  have bwy:Below w.heap.size w y3:=(bwx.trans (hb3.mono (by omega))).trans (oy3.below (by omega) (by omega))
  clear ey hy3 ioA ioB j0 j1 j2 j3 j4 j5 j6 gr3
  obtain ⟨j0,j1,j2,j3,j4,j5,j6⟩:=LY.c7
  obtain ⟨k0,k1,k2,k3,k4,k5,k6,k7,k8,k9,k10,k11,k12⟩:y3.cell? ⟨gk,i*14,none⟩=some (.int .i64 K[i].id)∧y3.cell? ⟨gk,i*14+1,none⟩=some (.int .i64 K[i].lf)∧y3.cell? ⟨gk,i*14+2,none⟩=some (.int .i64 K[i].pl)∧y3.cell? ⟨gk,i*14+3,none⟩=some (.int .i64 K[i].k)∧y3.cell? ⟨gk,i*14+4,none⟩=some (.int .i64 K[i].wn)∧y3.cell? ⟨gk,i*14+5,none⟩=some (.int .i64 K[i].th)∧y3.cell? ⟨gk,i*14+6,none⟩=some (.int .i64 K[i].fl)∧y3.cell? ⟨gk,i*14+7,none⟩=some (.int .i64 K[i].ac)∧y3.cell? ⟨gk,i*14+8,none⟩=some (.int .i64 K[i].la)∧y3.cell? ⟨gk,i*14+9,none⟩=some (.int .i64 K[i].og)∧y3.cell? ⟨gk,i*14+10,none⟩=some (.int .i64 K[i].st)∧y3.cell? ⟨gk,i*14+11,none⟩=some (.int .i64 K[i].fr)∧y3.cell? ⟨gk,i*14+12,none⟩=some (.bool K[i].sl):=EY.out.conS hi
  obtain ⟨f3,f4,f5,f6,f7,f8,f9,f10,f11,f12,f13⟩:=EY.out.frzS hi
  go_upto_region 9 with (first|(go_at_call 173;refine (specSent_yes _ _ HCC.out HSG.out HFT.out).mono ?_;rintro e u4 ⟨rfl,hb4⟩;have E4:Hid (EOwn u4 v2.heap.size w3.heap.size (.slice bT T.length dT) (.slice bO O.length dO) (.slice bP P.length dP) (.slice (some ⟨gl,0,none⟩) (L).length dL) (uL) (.slice (some ⟨gk,0,none⟩) (K.set i (K[i].tl ys)).length dK) (uK.set i (.slice va ys.length ca)) T O P (L) (K.set i (K[i].tl ys))):=EY.out.next hb4;obtain ⟨k0,k1,k2,k3,k4,k5,k6,k7,k8,k9,k10,k11,k12⟩:u4.cell? ⟨gk,i*14,none⟩=some (.int .i64 K[i].id)∧u4.cell? ⟨gk,i*14+1,none⟩=some (.int .i64 K[i].lf)∧u4.cell? ⟨gk,i*14+2,none⟩=some (.int .i64 K[i].pl)∧u4.cell? ⟨gk,i*14+3,none⟩=some (.int .i64 K[i].k)∧u4.cell? ⟨gk,i*14+4,none⟩=some (.int .i64 K[i].wn)∧u4.cell? ⟨gk,i*14+5,none⟩=some (.int .i64 K[i].th)∧u4.cell? ⟨gk,i*14+6,none⟩=some (.int .i64 K[i].fl)∧u4.cell? ⟨gk,i*14+7,none⟩=some (.int .i64 K[i].ac)∧u4.cell? ⟨gk,i*14+8,none⟩=some (.int .i64 K[i].la)∧u4.cell? ⟨gk,i*14+9,none⟩=some (.int .i64 K[i].og)∧u4.cell? ⟨gk,i*14+10,none⟩=some (.int .i64 K[i].st)∧u4.cell? ⟨gk,i*14+11,none⟩=some (.int .i64 K[i].fr)∧u4.cell? ⟨gk,i*14+12,none⟩=some (.bool K[i].sl):=E4.out.conS hi;obtain ⟨f3,f4,f5,f6,f7,f8,f9,f10,f11,f12,f13⟩:=E4.out.frzS hi))
  obtain ⟨y4,hy4⟩:∃y,y=u4.setCells gk (i*14+3) (K[i].gr s).ccs:=⟨_,rfl⟩
  have hy':((((((((((u4.setCell ⟨gk,i*14+3,none⟩ (.int .i64 K[i].k)).setCell ⟨gk,i*14+4,none⟩ (.int .i64 K[i].wn)).setCell ⟨gk,i*14+5,none⟩ (.int .i64 K[i].th)).setCell ⟨gk,i*14+6,none⟩ (.int .i64 (K[i].fl+s))).setCell ⟨gk,i*14+7,none⟩ (.int .i64 K[i].ac)).setCell ⟨gk,i*14+8,none⟩ (.int .i64 K[i].la)).setCell ⟨gk,i*14+9,none⟩ (.int .i64 K[i].og)).setCell ⟨gk,i*14+10,none⟩ (.int .i64 K[i].st)).setCell ⟨gk,i*14+11,none⟩ (.int .i64 K[i].fr)).setCell ⟨gk,i*14+12,none⟩ (.bool K[i].sl))=y4:=hy4.symm
  rw [hy']
  clear hy' k0 k1 k2 k3 k4 k5 k6 k7 k8 k9 k10 k11 k12 f3 f4 f5 f6 f7 f8 f9 f10 f11 f12 f13
  have oy4:Only gk u4 y4:=by rw [hy4];exact onlyCells _ _ _
  have z4:=hb4.size
  have ez:=E4.out.grown hi (d:=K[i].gr s) rfl rfl rfl HYS.out
  rw [←hy4] at ez
  have EZ:Hid (EOwn y4 v2.heap.size w3.heap.size (.slice bT T.length dT) (.slice bO O.length dO) (.slice bP P.length dP) (.slice (some ⟨gl,0,none⟩) (L).length dL) (uL) (.slice (some ⟨gk,0,none⟩) (K.set i (K[i].gr s)).length dK) (uK.set i (.slice va ys.length ca)) T O P (L) (K.set i (K[i].gr s))):=ez
  have NE2:Hid (¬inE (.slice bT T.length dT) (.slice bO O.length dO) (.slice bP P.length dP) (.slice (some ⟨gl,0,none⟩) (L).length dL) (uL) (.slice (some ⟨gk,0,none⟩) (K.set i (K[i].gr s)).length dK) (uK.set i (.slice va ys.length ca)) u1.heap.size):=NE1.out
  have zy4:=oy4.size
  have LZ:=(LY.next hb4).only oy4 (by omega)
  have XZ:=(XY.next hb4).only oy4 (by omega)
  have bwz:Below w.heap.size w y4:=(bwy.trans (hb4.mono (by omega))).trans (oy4.below (by omega) (by omega))
  clear ez hy4 j0 j1 j2 j3 j4 j5 j6
  obtain ⟨k0,k1,k2,k3,k4,k5,k6,k7,k8,k9,k10,k11,k12⟩:y4.cell? ⟨gk,i*14,none⟩=some (.int .i64 K[i].id)∧y4.cell? ⟨gk,i*14+1,none⟩=some (.int .i64 K[i].lf)∧y4.cell? ⟨gk,i*14+2,none⟩=some (.int .i64 K[i].pl)∧y4.cell? ⟨gk,i*14+3,none⟩=some (.int .i64 K[i].k)∧y4.cell? ⟨gk,i*14+4,none⟩=some (.int .i64 K[i].wn)∧y4.cell? ⟨gk,i*14+5,none⟩=some (.int .i64 K[i].th)∧y4.cell? ⟨gk,i*14+6,none⟩=some (.int .i64 (K[i].fl+s))∧y4.cell? ⟨gk,i*14+7,none⟩=some (.int .i64 K[i].ac)∧y4.cell? ⟨gk,i*14+8,none⟩=some (.int .i64 K[i].la)∧y4.cell? ⟨gk,i*14+9,none⟩=some (.int .i64 K[i].og)∧y4.cell? ⟨gk,i*14+10,none⟩=some (.int .i64 K[i].st)∧y4.cell? ⟨gk,i*14+11,none⟩=some (.int .i64 K[i].fr)∧y4.cell? ⟨gk,i*14+12,none⟩=some (.bool K[i].sl):=EZ.out.conS hi
  obtain ⟨q0,q1,qf,sp,cp,q2,qu,qsm⟩:=EZ.out.plc hp
  have HSP:Hid (ISmp y4.heap.size y4 sp L[p].2.2):=qsm
  rw [HPL.out] at k2
  have HS9:Hid (∀u,Below y4.heap.size y4 u→u.cell? ⟨u1.heap.size,4,none⟩=some (.slice (some ⟨gl,0,none⟩) L.length dL)∧u.cell? ⟨gk,i*14+2,none⟩=some (.int .i64 (p:Int))∧u.cell? ⟨gl,p*3,none⟩=some (.int .i64 L[p].1)∧u.cell? ⟨gl,p*3+1,none⟩=some (.int .i64 L[p].2.1)∧u.cell? ⟨gl,p*3+2,none⟩=some (.slice sp L[p].2.2.length cp)):=fun u hu=>⟨(LZ.next hu).cell 4 _ rfl,(hu.cell (by show gk<_;omega)).trans k2,(hu.cell (by show gl<_;omega)).trans q0,(hu.cell (by show gl<_;omega)).trans q1,(hu.cell (by show gl<_;omega)).trans q2⟩
  clear q0 q1 q2 qf qu qsm k0 k1 k2 k3 k4 k5 k6 k7 k8 k9 k10 k11 k12
  refine tillQ1 20 HS9 (Below.refl _ _).drew fun hS=>?_
  refine tillP 0 rfl ?_
  try simp only [nrm]
  refine tillR 1 rfl ?_
  try simp only [nrm]
  refine tillP 2 rfl ?_
  try simp only [nrm]
  refine tillP 3 rfl ?_
  try simp only [nrm]
  refine tillP 4 rfl ?_
  try simp only [nrm]
  refine tillR 5 rfl ?_
  try simp only [nrm]
  refine tillP 6 rfl ?_
  try simp only [nrm]
  refine tillR 7 rfl ?_
  try simp only [nrm]
  refine tillP 8 rfl ?_
  try simp only [nrm]
  refine tillP 9 rfl ?_
  try simp only [nrm]
  refine tillP 10 rfl ?_
  try simp only [nrm]
  refine tillR 11 rfl ?_
  try simp only [nrm]
  refine tillP 12 rfl ?_
  try simp only [nrm]
  refine tillR 13 rfl ?_
  try simp only [nrm]
  refine tillP 14 rfl ?_
  try simp only [nrm]
  refine tillC 15 rfl fun Kr hKr=>?_
  go_simp
  (refine (specClaim_yes cp HRB.out (HSP.out.here (Below.refl _ _).drew)).mono ?_;rintro e u5 ⟨vb,nv,cb,rfl,iv5,hb5⟩;have nz:=iv_lenC iv5;subst nz;have iv5:IV u5 y4.heap.size (.slice vb L[p].2.2.length cb) L[p].2.2:=iv5;have hb5:=undrewE hb5;have hS5:=HS9.out _ hb5;have E5:Hid (EOwn u5 v2.heap.size w3.heap.size (.slice bT T.length dT) (.slice bO O.length dO) (.slice bP P.length dP) (.slice (some ⟨gl,0,none⟩) (L).length dL) (uL) (.slice (some ⟨gk,0,none⟩) (K.set i (K[i].gr s)).length dK) (uK.set i (.slice va ys.length ca)) T O P (L) (K.set i (K[i].gr s))):=EZ.out.next hb5;obtain ⟨p0,p1,⟨pf0,pf1,pf2⟩,sb,sd,p2,pu,psm⟩:=E5.out.plc hp)
  refine hKr.out _ _ ‹_› fun _=>?_
  try simp only [nrm]
  refine tillP 16 rfl ?_
  try simp only [nrm]
  refine tillP 17 rfl ?_
  try simp only [nrm]
  refine tillP 18 rfl ?_
  try simp only [nrm]
  refine tillP 19 rfl ?_
  try simp only [nrm]
  refine tillL rfl fun Kr hKr=>?_
  go_simp
  refine hKr.out _ _ ?_
  try simp only [nrm]
  obtain ⟨y5,hy5⟩:∃z,z=u5.setCells gl (p*3) [.int .i64 L[p].1,.int .i64 (L[p].2.1+s),.slice vb L[p].2.2.length cb]:=⟨_,rfl⟩
  have hz':((u5.setCell ⟨gl,p*3,none⟩ (.int .i64 L[p].1)).setCell ⟨gl,p*3+1,none⟩ (.int .i64 (L[p].2.1+s))).setCell ⟨gl,p*3+2,none⟩ (.slice vb L[p].2.2.length cb)=y5:=hy5.symm
  rw [hz']
  clear hz' p0 p1 pf0 pf1 pf2 p2 pu psm
  have z5:=hb5.size
  have ioB:∀b,elB (.slice vb L[p].2.2.length cb)=some b→y4.heap.size≤b:=fun b hb=>(iv5.io.el hb).1
  have ex:=E5.out.setP (hi':=u5.heap.size) (q:=L[p].1) (d:=L[p].2.1+s) hp (iv5.io.wider (by omega) (Nat.le_refl _)) (fun b hb=>.inr (fun hn=>by have:=ioB b hb;have:=E5.out.bd hn;omega)) (by omega) (Nat.le_refl _)
  rw [←hy5] at ex
  have EV:Hid (EOwn y5 v2.heap.size u5.heap.size (.slice bT T.length dT) (.slice bO O.length dO) (.slice bP P.length dP) (.slice (some ⟨gl,0,none⟩) (L.set p (L[p].1,L[p].2.1+s,L[p].2.2)).length dL) (uL.set p (.slice vb L[p].2.2.length cb)) (.slice (some ⟨gk,0,none⟩) (K.set i (K[i].gr s)).length dK) (uK.set i (.slice va ys.length ca)) T O P (L.set p (L[p].1,L[p].2.1+s,L[p].2.2)) (K.set i (K[i].gr s))):=ex
  have NE3:Hid (¬inE (.slice bT T.length dT) (.slice bO O.length dO) (.slice bP P.length dP) (.slice (some ⟨gl,0,none⟩) (L.set p (L[p].1,L[p].2.1+s,L[p].2.2)).length dL) (uL.set p (.slice vb L[p].2.2.length cb)) (.slice (some ⟨gk,0,none⟩) (K.set i (K[i].gr s)).length dK) (uK.set i (.slice va ys.length ca)) u1.heap.size):=noE_P NE2.out (fun e=>by have:=ioB _ e;omega)
  have oy5:Only gl u5 y5:=by rw [hy5];exact onlyCells _ _ _
  have zy5:=oy5.size
  have LY5:=(LZ.next hb5).only oy5 (by omega)
  have X5:=(XZ.next hb5).only oy5 (by omega)
  have bw5:Below w.heap.size w y5:=(bwz.trans (hb5.mono (by omega))).trans (oy5.below (by omega) (by omega))
  clear ex hy5 ioB
  obtain ⟨k0,k1,k2,k3,k4,k5,k6,k7,k8,k9,k10,k11,k12⟩:y5.cell? ⟨gk,i*14,none⟩=some (.int .i64 K[i].id)∧y5.cell? ⟨gk,i*14+1,none⟩=some (.int .i64 K[i].lf)∧y5.cell? ⟨gk,i*14+2,none⟩=some (.int .i64 K[i].pl)∧y5.cell? ⟨gk,i*14+3,none⟩=some (.int .i64 K[i].k)∧y5.cell? ⟨gk,i*14+4,none⟩=some (.int .i64 K[i].wn)∧y5.cell? ⟨gk,i*14+5,none⟩=some (.int .i64 K[i].th)∧y5.cell? ⟨gk,i*14+6,none⟩=some (.int .i64 (K[i].fl+s))∧y5.cell? ⟨gk,i*14+7,none⟩=some (.int .i64 K[i].ac)∧y5.cell? ⟨gk,i*14+8,none⟩=some (.int .i64 K[i].la)∧y5.cell? ⟨gk,i*14+9,none⟩=some (.int .i64 K[i].og)∧y5.cell? ⟨gk,i*14+10,none⟩=some (.int .i64 K[i].st)∧y5.cell? ⟨gk,i*14+11,none⟩=some (.int .i64 K[i].fr)∧y5.cell? ⟨gk,i*14+12,none⟩=some (.bool K[i].sl):=EV.out.conS hi
  have HQT:Hid (Quad y5.heap.size y5 bT T):=(EV.out.l.t.quad).2
  have HQO:Hid (Quad y5.heap.size y5 bO O):=(EV.out.l.o.quad).2
  have HQP:Hid (Quad y5.heap.size y5 bP P):=(EV.out.l.p.quad).2
  have HS10:Hid (∀u,Below y5.heap.size y5 u→u.cell? ⟨u1.heap.size,0,none⟩=some (.int .i64 now)∧u.cell? ⟨u1.heap.size,1,none⟩=some (.slice bT T.length dT)∧u.cell? ⟨u1.heap.size,2,none⟩=some (.slice bO O.length dO)∧u.cell? ⟨u1.heap.size,3,none⟩=some (.slice bP P.length dP)∧u.cell? ⟨gk,i*14+1,none⟩=some (.int .i64 K[i].lf)):=fun u hu=>⟨(LY5.next hu).cell 0 _ rfl,(LY5.next hu).cell 1 _ rfl,(LY5.next hu).cell 2 _ rfl,(LY5.next hu).cell 3 _ rfl,(hu.cell (by show gk<_;omega)).trans k1⟩
  clear k0 k1 k2 k3 k4 k5 k6 k7 k8 k9 k10 k11 k12
  go_upto_region 10 with (fail)
  refine tillQ1 14 HS10 (Below.refl _ _).drew fun hS=>?_
  refine tillP 0 rfl ?_
  try simp only [nrm]
  refine tillR 1 rfl ?_
  try simp only [nrm]
  refine tillP 2 rfl ?_
  try simp only [nrm]
  refine tillP 3 rfl ?_
  try simp only [nrm]
  refine tillP 4 rfl ?_
  try simp only [nrm]
  refine tillR 5 rfl ?_
  try simp only [nrm]
  refine tillP 6 rfl ?_
  try simp only [nrm]
  refine tillR 7 rfl ?_
  try simp only [nrm]
  refine tillP 8 rfl ?_
  try simp only [nrm]
  refine tillC 9 rfl fun Kr hKr=>?_
  go_simp
  (refine (specSpend_any dT dO dP K[i].lf now s (HQT.out.here (Below.refl _ _).drew) (HQO.out.here (Below.refl _ _).drew) (HQP.out.here (Below.refl _ _).drew)).mono ?_;rw [HST.out,HSO.out,HSQ.out];rintro e u6 ⟨a1,n1,c1,a2,n2,c2,a3,n3,c3,rfl,lv6,hb6⟩;have nz1:=lv6.t.quad.1;have nz2:=lv6.o.quad.1;have nz3:=lv6.p.quad.1;subst nz1 nz2 nz3;have lv6:LV u6 y5.heap.size (.slice a1 T.length c1) (.slice a2 YO.length c2) (.slice a3 YP.length c3) T YO YP:=lv6;have hb6:=undrewE hb6;have hS6:=HS10.out _ hb6;have m1f:=(LY5.next hb6).free;obtain ⟨m0,m1,m2,m3,m4,m5,m6⟩:=(LY5.next hb6).c7)
  refine hKr.out _ _ ‹_› fun _=>?_
  try simp only [nrm]
  refine tillP 10 rfl ?_
  try simp only [nrm]
  refine tillP 11 rfl ?_
  try simp only [nrm]
  refine tillP 12 rfl ?_
  try simp only [nrm]
  refine tillP 13 rfl ?_
  try simp only [nrm]
  refine tillL rfl fun Kr hKr=>?_
  go_simp
  refine hKr.out _ _ ?_
  try simp only [nrm]
  obtain ⟨y6,hy6⟩:∃z,z=u6.setCells u1.heap.size 1 [.slice a1 T.length c1,.slice a2 YO.length c2,.slice a3 YP.length c3]:=⟨_,rfl⟩
  have hz':(((u6.setCell ⟨u1.heap.size,1,none⟩ (.slice a1 T.length c1)).setCell ⟨u1.heap.size,2,none⟩ (.slice a2 YO.length c2)).setCell ⟨u1.heap.size,3,none⟩ (.slice a3 YP.length c3))=y6:=hy6.symm
  rw [hz']
  clear hz' m0 m1 m2 m3 m4 m5 m6 m1f
  have z6:=hb6.size
  have oy6:Only u1.heap.size u6 y6:=by rw [hy6];exact onlyCells _ _ _
  have LY6:Lay y6 u1.heap.size [.int .i64 now,.slice a1 T.length c1,.slice a2 YO.length c2,.slice a3 YP.length c3,.slice (some ⟨gl,0,none⟩) L.length dL,.slice (some ⟨gk,0,none⟩) K.length dK,.int .i64 nx]:=by rw [hy6];exact (LY5.next hb6).put (p:=[.int .i64 now]) (q:=[.slice bT T.length dT,.slice bO O.length dO,.slice bP P.length dP]) (r:=[.slice (some ⟨gl,0,none⟩) L.length dL,.slice (some ⟨gk,0,none⟩) K.length dK,.int .i64 nx]) [.slice a1 T.length c1,.slice a2 YO.length c2,.slice a3 YP.length c3] rfl
  clear hy6
  have zy6:=oy6.size
  have hlb:∀b,inL (.slice a1 T.length c1) (.slice a2 YO.length c2) (.slice a3 YP.length c3) b→y5.heap.size≤b∧b<u6.heap.size:=fun b hb=>lv6.lo hb
  have e6:=(EV.out.next hb6).lend (hi':=u6.heap.size) lv6 (by omega) (by omega) (by omega) (Nat.le_refl _) (fun b hb=>(hlb b hb).2)
  have NE4:Hid (¬inE (.slice a1 T.length c1) (.slice a2 YO.length c2) (.slice a3 YP.length c3) (.slice (some ⟨gl,0,none⟩) (L.set p (L[p].1,L[p].2.1+s,L[p].2.2)).length dL) (uL.set p (.slice vb L[p].2.2.length cb)) (.slice (some ⟨gk,0,none⟩) (K.set i (K[i].gr s)).length dK) (uK.set i (.slice va ys.length ca)) u1.heap.size):=noE_L NE3.out (fun hb=>by have:=hlb _ hb;omega)
  have E6:Hid (EOwn y6 v2.heap.size u6.heap.size (.slice a1 T.length c1) (.slice a2 YO.length c2) (.slice a3 YP.length c3) (.slice (some ⟨gl,0,none⟩) (L.set p (L[p].1,L[p].2.1+s,L[p].2.2)).length dL) (uL.set p (.slice vb L[p].2.2.length cb)) (.slice (some ⟨gk,0,none⟩) (K.set i (K[i].gr s)).length dK) (uK.set i (.slice va ys.length ca)) T YO YP (L.set p (L[p].1,L[p].2.1+s,L[p].2.2)) (K.set i (K[i].gr s))):=e6.only oy6 NE4.out
  have X6:=(X5.next hb6).only oy6 (by omega)
  have bw6:Below w.heap.size w y6:=(bw5.trans (hb6.mono (by omega))).trans (oy6.below (by omega) (by omega))
  clear e6 hlb lv6
  obtain ⟨k0,k1,k2,k3,k4,k5,k6,k7,k8,k9,k10,k11,k12⟩:y6.cell? ⟨gk,i*14,none⟩=some (.int .i64 K[i].id)∧y6.cell? ⟨gk,i*14+1,none⟩=some (.int .i64 K[i].lf)∧y6.cell? ⟨gk,i*14+2,none⟩=some (.int .i64 K[i].pl)∧y6.cell? ⟨gk,i*14+3,none⟩=some (.int .i64 K[i].k)∧y6.cell? ⟨gk,i*14+4,none⟩=some (.int .i64 K[i].wn)∧y6.cell? ⟨gk,i*14+5,none⟩=some (.int .i64 K[i].th)∧y6.cell? ⟨gk,i*14+6,none⟩=some (.int .i64 (K[i].fl+s))∧y6.cell? ⟨gk,i*14+7,none⟩=some (.int .i64 K[i].ac)∧y6.cell? ⟨gk,i*14+8,none⟩=some (.int .i64 K[i].la)∧y6.cell? ⟨gk,i*14+9,none⟩=some (.int .i64 K[i].og)∧y6.cell? ⟨gk,i*14+10,none⟩=some (.int .i64 K[i].st)∧y6.cell? ⟨gk,i*14+11,none⟩=some (.int .i64 K[i].fr)∧y6.cell? ⟨gk,i*14+12,none⟩=some (.bool K[i].sl):=E6.out.conS hi
  obtain ⟨j0,j1,j2,j3,j4,j5,j6⟩:=LY6.c7
  have jf:=LY6.free
  go_upto_region 12 with (fail)
  obtain ⟨y7,hy7⟩:∃z,z=y6.setCell ⟨u1.heap.size,6,none⟩ (.int .i64 (K[i].id+1)):=⟨_,rfl⟩
  rw [←hy7]
  have oy7:Only u1.heap.size y6 y7:=by rw [hy7];exact (Only.refl _ y6).setCell (p:=⟨u1.heap.size,6,none⟩) rfl _
  have LY7:Lay y7 u1.heap.size [.int .i64 now,.slice a1 T.length c1,.slice a2 YO.length c2,.slice a3 YP.length c3,.slice (some ⟨gl,0,none⟩) L.length dL,.slice (some ⟨gk,0,none⟩) K.length dK,.int .i64 (K[i].id+1)]:=by rw [hy7];exact LY6.put (p:=[.int .i64 now,.slice a1 T.length c1,.slice a2 YO.length c2,.slice a3 YP.length c3,.slice (some ⟨gl,0,none⟩) L.length dL,.slice (some ⟨gk,0,none⟩) K.length dK]) (q:=[.int .i64 nx]) (r:=[]) [.int .i64 (K[i].id+1)] rfl
  clear hy7 k0 k1 k2 k3 k4 k5 k6 k7 k8 k9 k10 k11 k12 j0 j1 j2 j3 j4 j5 j6 jf
  have zy7:=oy7.size
  have E7:=E6.out.only oy7 NE4.out
  have X7:=X6.only oy7 (by omega)
  have bw7:Below w.heap.size w y7:=bw6.trans (oy7.below (by omega) (by omega))
  obtain ⟨k0,k1,k2,k3,k4,k5,k6,k7,k8,k9,k10,k11,k12⟩:y7.cell? ⟨gk,i*14,none⟩=some (.int .i64 K[i].id)∧y7.cell? ⟨gk,i*14+1,none⟩=some (.int .i64 K[i].lf)∧y7.cell? ⟨gk,i*14+2,none⟩=some (.int .i64 K[i].pl)∧y7.cell? ⟨gk,i*14+3,none⟩=some (.int .i64 K[i].k)∧y7.cell? ⟨gk,i*14+4,none⟩=some (.int .i64 K[i].wn)∧y7.cell? ⟨gk,i*14+5,none⟩=some (.int .i64 K[i].th)∧y7.cell? ⟨gk,i*14+6,none⟩=some (.int .i64 (K[i].fl+s))∧y7.cell? ⟨gk,i*14+7,none⟩=some (.int .i64 K[i].ac)∧y7.cell? ⟨gk,i*14+8,none⟩=some (.int .i64 K[i].la)∧y7.cell? ⟨gk,i*14+9,none⟩=some (.int .i64 K[i].og)∧y7.cell? ⟨gk,i*14+10,none⟩=some (.int .i64 K[i].st)∧y7.cell? ⟨gk,i*14+11,none⟩=some (.int .i64 K[i].fr)∧y7.cell? ⟨gk,i*14+12,none⟩=some (.bool K[i].sl):=E7.conS hi
  obtain ⟨r0,r1,r2,r3,r4,r5,r6⟩:=X7.c7
  have rf:=X7.free
  have HS12:Hid (∀u,Below y7.heap.size y7 u→u.cell? ⟨u1.heap.size,0,none⟩=some (.int .i64 now)∧u.cell? ⟨u1.heap.size,1,none⟩=some (.slice a1 T.length c1)∧u.cell? ⟨u1.heap.size,2,none⟩=some (.slice a2 YO.length c2)∧u.cell? ⟨u1.heap.size,3,none⟩=some (.slice a3 YP.length c3)∧u.cell? ⟨u1.heap.size,4,none⟩=some (.slice (some ⟨gl,0,none⟩) L.length dL)∧u.cell? ⟨u1.heap.size,5,none⟩=some (.slice (some ⟨gk,0,none⟩) K.length dK)∧u.cell? ⟨u1.heap.size,6,none⟩=some (.int .i64 (K[i].id+1))∧u.cell? ⟨gk,i*14,none⟩=some (.int .i64 K[i].id)):=fun u hu=>⟨(LY7.next hu).cell 0 _ rfl,(LY7.next hu).cell 1 _ rfl,(LY7.next hu).cell 2 _ rfl,(LY7.next hu).cell 3 _ rfl,(LY7.next hu).cell 4 _ rfl,(LY7.next hu).cell 5 _ rfl,(LY7.next hu).cell 6 _ rfl,(hu.cell (by show gk<_;omega)).trans k0⟩
  clear k0 k1 k2 k3 k4 k5 k6 k7 k8 k9 k10 k11 k12
  refine heldQ1 HS12 (Below.refl _ _).drew fun hS=>?_
  refine anyR 0 rfl ?_
  refine anyR 1 rfl ?_
  refine anyR 2 rfl ?_
  refine anyR 3 rfl ?_
  refine anyR 4 rfl ?_
  refine anyR 5 rfl ?_
  refine anyC 6 rfl fun Kr hKr=>?_
  go_simp
  obtain ⟨u,hu',ou,U⟩:=st7 (b:=w.heap.size+1) X7 (.int .i64 now) (.slice a1 T.length c1) (.slice a2 YO.length c2) (.slice a3 YP.length c3) (.slice (some ⟨gl,0,none⟩) L.length dL) (.slice (some ⟨gk,0,none⟩) K.length dK) (.int .i64 (K[i].id+1))
  rw [hu']
  clear hu'
  have LU:=(LY7.only ou (by omega)).next (Below.refl _ u).drew
  have hq8:=(HS12.out y7 (Below.refl _ _)).2.2.2.2.2.2.2
  refine hKr.out _ _ ⟨LU.cell 0 _ rfl,LU.cell 1 _ rfl,LU.cell 2 _ rfl,LU.cell 3 _ rfl,LU.cell 4 _ rfl,LU.cell 5 _ rfl,LU.cell 6 _ rfl,((Below.refl _ u).drew.cell (p:=⟨gk,i*14,none⟩) (by have:=ou.size;show gk<u.heap.size;omega)).trans ((ou.cell (p:=⟨gk,i*14,none⟩) (by show gk<_;omega) (by show gk≠_;omega)).trans hq8)⟩ (fun hS=>?_)
  try simp only [nrm]
  refine anyR 7 rfl ?_
  refine anyR 8 rfl ?_
  refine wpAnyH_done (by kernel_rfl) ?_ _
  go_wp2
  have zu:=ou.size
  refine bodyPost_ret (results_threeE rfl _ _ _ _ rfl U.cell Tryz.underlying31 rfl (by kernel_rfl)) rfl ?_
  have hnn:¬inE (.slice a1 T.length c1) (.slice a2 YO.length c2) (.slice a3 YP.length c3) (.slice (some ⟨gl,0,none⟩) (L.set p (L[p].1,L[p].2.1+s,L[p].2.2)).length dL) (uL.set p (.slice vb L[p].2.2.length cb)) (.slice (some ⟨gk,0,none⟩) (K.set i (K[i].gr s)).length dK) (uK.set i (.slice va ys.length ca)) (w.heap.size+1):=fun hb=>by have:=E7.bd hb;omega
  have eu:=E7.only ou hnn
  exact ⟨⟨now,K[i].id+1,a1,a2,a3,some ⟨gl,0,none⟩,some ⟨gk,0,none⟩,c1,c2,c3,dL,dK,T,YO,YP,L.set p (L[p].1,L[p].2.1+s,L[p].2.2),K.set i (K[i].gr s)⟩,K[i].id,s,by rw [List.length_set,List.length_set];rfl,(eu.next (Below.refl _ _).drew).eng.wider (by omega) (by show _≤u.heap.size;omega),HGR.out,rfl,set_ne,(bw7.trans (ou.below (by omega) bw7.size)).drew⟩
theorem closes14L (now nx:Int) (T O P:List Q4) (L:List F8) (K:List Kn) (id:Int) (mT:T.length≤1048576) (mL:L.length≤1048576) (sL:∀f ∈ L,f.2.2.length≤1048576) (mK:K.length≤1048576) (sK:∀c ∈ K,c.xs.length≤1048576):∃(YN YX:Int) (YT YO YP:List Q4) (YL:List F8) (YK:List Kn) (f:Int),Small YT YO YP YL YK∧((f=1∧YN=0∧YX=0∧YT=[]∧YO=[]∧YP=[]∧YL=[]∧YK=[])∨(f≠0∧f≠1∧YN=now∧YX=nx∧YT=T∧YO=O∧YP=P∧YL=L∧YK=K)∨(f=0∧EgOk YN YX YT YO YP YL YK∧EgOk now nx T O P L K∧YK.length+1=K.length))∧(∀(w:World) (aT aO aP aL aK:Option Addr) (cT cO cP cL cK:Nat),Quad w.heap.size w aT T→Quad w.heap.size w aO O→Quad w.heap.size w aP P→Fls w.heap.size w aL L→Kls w.heap.size w aK K→Calls Tryz.prog 15 #[engV now aT T.length cT aO O.length cO aP P.length cP aL L.length cL aK K.length cK nx,.int .i64 id] w (EgPost w YN YX YT YO YP YL YK (.int .i64 f)))∧(∀(w:World) (aT aO aP aL aK:Option Addr) (cT cO cP cL cK:Nat),Quad w.heap.size w aT T→Quad w.heap.size w aO O→Quad w.heap.size w aP P→Fls w.heap.size w aL L→Kls w.heap.size w aK K→Calls Tryz.prog 14 #[engV now aT T.length cT aO O.length cO aP P.length cP aL L.length cL aK K.length cK nx,.int .i64 id] w (EgPost w YN YX YT YO YP YL YK (.int .i64 f))):=by
 cases h1:engB now nx T O P L K
 ·exact ⟨0,0,[],[],[],[],[],1,small_nil,.inl ⟨rfl,rfl,rfl,rfl,rfl,rfl,rfl,rfl⟩,fun w aT aO aP aL aK cT cO cP cL cK hT hO hP hL hK=>specCls_bad now nx cT cO cP cL cK id hT hO hP hL hK mT mL sL mK sK h1,fun w aT aO aP aL aK cT cO cP cL cK hT hO hP hL hK=>implCls_bad now nx cT cO cP cL cK id hT hO hP hL hK mL sL mK sK h1⟩
 ·have es:=eg_small (eg_yes h1)
  by_cases hf:fK K id = -1
  ·exact ⟨now,nx,T,O,P,L,K,2,es,.inr (.inl ⟨by decide,by decide,rfl,rfl,rfl,rfl,rfl,rfl,rfl⟩),fun w aT aO aP aL aK cT cO cP cL cK hT hO hP hL hK=>specCls_id now nx cT cO cP cL cK id hT hO hP hL hK mT mL sL mK sK h1 hf,fun w aT aO aP aL aK cT cO cP cL cK hT hO hP hL hK=>implCls_id now nx cT cO cP cL cK id hT hO hP hL hK mL sL mK sK h1 hf⟩
  ·have hge:fK K id≠-1:=hf
   obtain ⟨i,hi,hfi,_⟩:=fK_some hge
   obtain ⟨p,hpl,hp⟩:=eg_place (eg_yes h1) hi
   exact ⟨now,nx,T,O,P,L.set p (clsP L p id K[i].fl),K.eraseIdx i,0,(cls_small es hp),.inr (.inr ⟨rfl,(by rw [←fK_idc hi hfi];exact cls_right (eg_yes h1) hi hpl hp),eg_yes h1,(by rw [List.length_eraseIdx_of_lt hi];omega)⟩),fun w aT aO aP aL aK cT cO cP cL cK hT hO hP hL hK=>specCls_go now nx cT cO cP cL cK id hT hO hP hL hK mT mL sL mK sK h1 i hi hfi p hpl hp,fun w aT aO aP aL aK cT cO cP cL cK hT hO hP hL hK=>implCls_go now nx cT cO cP cL cK id hT hO hP hL hK mL sL mK sK h1 i hi hfi p hpl hp⟩
end Go.Proofs.YthiojkjcmhojoaaGreat
