import Derived.Test.YthiojkjcmhojoaaGreatGfBK
import Derived.Test.YthiojkjcmhojoaaGreatGfBI
namespace Go.Proofs.YthiojkjcmhojoaaGreat
set_option maxHeartbeats 16000000
open Go.ChangeShapes Go.WideShapes Go.ChangeAt Go.RowKit
set_option maxRecDepth 100000
set_option linter.unusedVariables false
set_option linter.unusedSimpArgs false
theorem zdu (x:Kn) (K:List Kn) (q:Int):atP (x :: K) q=if x.pl=q then x :: atP K q else atP K q:=by
 unfold atP
 rw [List.filter_cons]
 by_cases h:x.pl=q
 ·simp [h]
 ·simp [h]
theorem zfg (x:Kn) (K:List Kn):flK (x :: K)=x.fl+flK K:=rfl
theorem zxk:∀(K:List Kn) (i:Nat) (hi:i<K.length) (c:Kn) (h1:c.id=K[i].id) (h2:c.pl=K[i].pl) (q:Int),zf5 (atP (K.set i c) q)=zf5 (atP K q)
 | x :: K,0,hi,c,h1,h2,q=>by
  have h1:c.id=x.id:=h1
  have h2:c.pl=x.pl:=h2
  show zf5 (atP (c :: K) q)=_
  rw [zdu,zdu,h2]
  split
  ·show c.id :: _=x.id :: _
   rw [h1]
  ·rfl
 | x :: K,i+1,hi,c,h1,h2,q=>by
  have ih:=zxk K i (by simpa using hi) c h1 h2 q
  show zf5 (atP (x :: K.set i c) q)=_
  rw [zdu,zdu]
  split
  ·show x.id :: zf5 (atP (K.set i c) q)=x.id :: zf5 (atP K q)
   rw [ih]
  ·exact ih
theorem z0h:∀(K:List Kn) (i:Nat) (hi:i<K.length) (c:Kn) (h2:c.pl=K[i].pl) (q:Int),flK (atP (K.set i c) q)=flK (atP K q)+(if K[i].pl=q then c.fl-K[i].fl else 0)
 | x :: K,0,hi,c,h2,q=>by
  have h2:c.pl=x.pl:=h2
  show flK (atP (c :: K) q)=flK (atP (x :: K) q)+(if x.pl=q then c.fl-x.fl else 0)
  rw [zdu,zdu,h2]
  split
  ·rw [zfg,zfg]
   omega
  ·omega
 | x :: K,i+1,hi,c,h2,q=>by
  have hi':i<K.length:=by simpa using hi
  have ih:=z0h K i hi' c h2 q
  show flK (atP (x :: K.set i c) q)=flK (atP (x :: K) q)+(if K[i].pl=q then c.fl-K[i].fl else 0)
  rw [zdu,zdu]
  split
  ·rw [zfg,zfg]
   omega
  ·exact ih
theorem zxl:∀(K:List Kn),(∀c ∈ K,0≤c.fl)→0≤flK K
 | [],_=>by simp [flK]
 | x :: K,h=>by
  have:=zxl K (fun c hc=>h c (List.mem_cons_of_mem _ hc))
  have:=h x List.mem_cons_self
  rw [zfg]
  omega
theorem fl_at:∀(K:List Kn) (i:Nat) (hi:i<K.length),(∀c ∈ K,0≤c.fl)→K[i].fl≤flK (atP K K[i].pl)
 | x :: K,0,hi,h=>by
  show x.fl≤flK (atP (x :: K) x.pl)
  rw [zdu,if_pos rfl,zfg]
  have:=zxl (atP K x.pl) (fun c hc=>h c (List.mem_cons_of_mem _ (List.mem_filter.1 hc).1))
  omega
 | x :: K,i+1,hi,h=>by
  have hi':i<K.length:=by simpa using hi
  have ih:=fl_at K i hi' (fun c hc=>h c (List.mem_cons_of_mem _ hc))
  show K[i].fl≤flK (atP (x :: K) K[i].pl)
  rw [zdu]
  split
  ·rw [zfg]
   have:=h x List.mem_cons_self
   omega
  ·exact ih
theorem eg_fl {now nx:Int} {T O P:List Q4} {L:List F8} {K:List Kn} (h:EgOk now nx T O P L K):∀c ∈ K,0≤c.fl:=fun c hc=>by
 obtain ⟨i,hi,rfl⟩:=List.mem_iff_getElem.1 hc
 exact (zyf (h.con i hi)).1
theorem eg_le {now nx:Int} {T O P:List Q4} {L:List F8} {K:List Kn} (h:EgOk now nx T O P L K) {i p:Nat} (hi:i<K.length) (hpl:K[i].pl=(p:Int)) (hp:p<L.length):K[i].fl≤L[p].2.1:=by
 rw [(h.pl p hp).2.1,←hpl]
 exact fl_at K i hi (eg_fl h)
theorem zxm {now nx nx':Int} {T O P O' P':List Q4} {L:List F8} {K:List Kn} (h:EgOk now nx T O P L K) {i p:Nat} (hi:i<K.length) (hpl:K[i].pl=(p:Int)) (hp:p<L.length) {c:Kn} {f:F8} (h1:c.id=K[i].id) (h2:c.pl=K[i].pl) (hc:zei T L.length c=true) (hf:plB f.1 f.2.1 f.2.2=true) (hfl:f.2.1=L[p].2.1+(c.fl-K[i].fl)) (hm:f.2.2=L[p].2.2) (hl:zbf T O' P'=true) (ha:zdv O'=now) (hn:inQ 0 nx' 1000001=true):EgOk now nx' T O' P' (L.set p f) (K.set i c):=by
 have ids:∀j (h:j<(K.set i c).length),(K.set i c)[j].id=(K[j]'(by simpa using h)).id:=fun j hj=>by
  rw [List.getElem_set]
  split
  ·rename_i e
   subst e
   exact h1
  ·rfl
 refine ⟨hl,ha,hn,by rw [List.length_set];exact h.l0,by rw [List.length_set];exact h.l1,by rw [List.length_set];exact h.k1,fun j hj=>?_,fun j hj hj'=>?_,fun q hq=>?_⟩
 ·rw [List.length_set,List.getElem_set]
  split
  ·exact hc
  ·exact h.con j (by simpa using hj)
 ·rw [ids,ids]
  exact h.rise j (by simpa using hj) (by simpa using hj')
 ·rw [List.length_set] at hq
  rw [List.getElem_set,zxk K i hi c h1 h2,z0h K i hi c h2]
  by_cases e:p=q
  ·subst e
   rw [if_pos rfl,if_pos hpl]
   refine ⟨hf,?_,?_⟩
   ·rw [hfl,(h.pl p hp).2.1]
   ·rw [hm,(h.pl p hp).2.2]
  ·rw [if_neg e,if_neg (by rw [hpl];omega)]
   have:=h.pl q hq
   exact ⟨this.1,by rw [Int.add_zero];exact this.2.1,this.2.2⟩
theorem zxn {α:Type} (L:List α) (p:Nat) (hp:p<L.length):L.set p L[p]=L:=List.set_getElem_self hp
theorem z14 {now nx:Int} {T O P:List Q4} {L:List F8} {K:List Kn} (h:EgOk now nx T O P L K) {i:Nat} (hi:i<K.length) {c:Kn} (h1:c.id=K[i].id) (h2:c.pl=K[i].pl) (hc:zei T L.length c=true) (hfl:c.fl=K[i].fl):EgOk now nx T O P L (K.set i c):=by
 obtain ⟨p,hpl,hp⟩:=zkq h hi
 have q:=zxm h hi hpl hp (f:=L[p]) h1 h2 hc (h.pl p hp).1 (by omega) rfl h.lend h.at' h.nx'
 rw [zxn] at q
 exact q
theorem zob {T:List Q4} {n:Nat} {c d:Kn} (h:zei T n c=true) (h0:d.id=c.id) (h1:d.lf=c.lf) (h2:d.pl=c.pl) (h3:ccB d.k d.wn d.th d.fl d.ac d.la d.og d.st d.fr=true) (h4:d.k≠3) (h5:d.xs.length≤100) (h6:d.xs.all zfo=true):zei T n d=true:=by
 unfold zei at h ⊢
 simp only [Bool.and_eq_true,Bool.not_eq_true',decide_eq_false_iff_not,decide_eq_true_eq] at h ⊢
 rw [h0,h1,h2]
 exact ⟨⟨⟨⟨h.1.1.1.1,h3⟩,h4⟩,h5⟩,h6⟩
theorem zg4 {T:List Q4} {n:Nat} {c:Kn} (h:zei T n c=true):ccB c.k c.wn c.th c.fl c.ac c.la c.og c.st c.fr=true∧c.k≠3∧c.xs.length≤100∧c.xs.all zfo=true:=by
 unfold zei at h
 simp only [Bool.and_eq_true,Bool.not_eq_true',decide_eq_false_iff_not,decide_eq_true_eq] at h
 exact ⟨h.1.1.1.2,h.1.1.2,h.1.2,h.2⟩
theorem zxo {now nx:Int} {T O P:List Q4} {L:List F8} {K:List Kn} (h:EgOk now nx T O P L K) {i:Nat} (hi:i<K.length) {n:Int} (hn:zfo n=true) (hl:¬K[i].xs.length=100):EgOk now nx T O P L (K.set i (K[i].more n)):=by
 obtain ⟨a,b,c,d⟩:=zg4 (h.con i hi)
 refine z14 h hi rfl rfl (zob (h.con i hi) rfl rfl rfl a b ?_ ?_) rfl
 ·show (K[i].xs ++ [n]).length≤100
  rw [List.length_append,List.length_singleton]
  omega
 ·show (K[i].xs ++ [n]).all zfo=true
  rw [List.all_append,d,Bool.true_and,List.all_cons,hn]
  rfl
theorem zsd {k wn th fl ac la og st fr:Int} (h1:1≤k∧k≤3) (h2:3000≤wn∧wn≤1000000000) (h3:3000≤th∧th≤1000000000) (h4:0≤fl∧fl≤1000000000) (h5:0≤ac∧ac≤1000000000) (h6:0≤la∧la≤1000000000) (h7:0≤og∧og≤1000000000) (h8:0≤st∧st≤1000000000000000) (h9:0≤fr∧fr≤1000000000):ccB k wn th fl ac la og st fr=true:=zlv h1 h2 h3 h4 h5 h6 h7 h8 h9
theorem zit:(0:Int)≤0∧(0:Int)≤1000000000:=by decide
theorem z0i:(0:Int)≤0∧(0:Int)≤1000000000000000:=by decide
theorem zzf {k:Int} (h:zlq k=true):k=1∨k=2:=by
 unfold zlq at h
 simpa using h
theorem zva {k wn th fl ac la og st fr n now:Int} {sl:Bool} (h1:ccB k wn th fl ac la og st fr=true) (h2:zj7 n=true) (h3:zau now=true):(zl4 k wn th fl ac la og st fr sl n now).fl=max 0 (fl-n):=by
 rw [show zl4 k wn th fl ac la og st fr sl n now=zkh k wn th fl ac la og st fr sl n now from if_pos ⟨⟨h1,h2⟩,by assumption⟩]
 unfold zkh
 split
 ·split <;> rfl
 ·split <;> rfl
theorem zvb {k wn th fl ac la og st fr n:Int} {sl:Bool} (h1:ccB k wn th fl ac la og st fr=true) (h2:zj7 n=true):(zmi k wn th fl ac la og st fr sl n).fl=max 0 (fl-n):=by
 rw [show zmi k wn th fl ac la og st fr sl n=zn4 k wn th fl ac la og st fr sl n from if_pos ⟨h1,h2⟩]
 unfold zn4
 split
 ·split <;> rfl
 ·rfl
theorem fly_cc {c:Kn} {n now:Int} (lost:Bool) (h:ccB c.k c.wn c.th c.fl c.ac c.la c.og c.st c.fr=true) (hk:c.k=1∨c.k=2) (hn:1≤n∧n≤c.fl) (ht:zau now=true) :
 ccB (zhk c n now lost).k (zhk c n now lost).wn (zhk c n now lost).th (zhk c n now lost).fl (zhk c n now lost).ac (zhk c n now lost).la (zhk c n now lost).og (zhk c n now lost).st (zhk c n now lost).fr=true∧(zhk c n now lost).k=c.k∧(zhk c n now lost).fl=c.fl-n∧(lost=true→(zhk c n now lost).wn≤c.wn):=by
 obtain ⟨q1,q2,q3,q4,q5,q6,q7,q8,q9⟩:=zcu h
 have h10:zj7 n=true:=by
  unfold zj7
  simp only [Bool.and_eq_true,decide_eq_true_eq]
  omega
 cases lost
 ·have e:zhk c n now false=ackD c.k c.wn c.th c.fl c.ac c.la c.og c.st c.fr c.sl n now:=if_neg (by decide)
  rw [e]
  rcases hk with hk|hk
  ·have e2:ackD c.k c.wn c.th c.fl c.ac c.la c.og c.st c.fr c.sl n now=zmi c.k c.wn c.th c.fl c.ac c.la c.og c.st c.fr c.sl n:=if_neg (by omega)
   rw [e2]
   have g:=zy8 (sl:=c.sl) h h10 (rfl:zmi c.k c.wn c.th c.fl c.ac c.la c.og c.st c.fr c.sl n=⟨_,_,_,_,_,_,_,_,_,_⟩)
   have f:=zvb (sl:=c.sl) h h10
   exact ⟨g.2.1,g.1,by rw [f];omega,fun e=>by cases e⟩
  ·have e2:ackD c.k c.wn c.th c.fl c.ac c.la c.og c.st c.fr c.sl n now=zl4 c.k c.wn c.th c.fl c.ac c.la c.og c.st c.fr c.sl n now:=if_pos hk
   rw [e2]
   have g:=zy9 (sl:=c.sl) h h10 ht (rfl:zl4 c.k c.wn c.th c.fl c.ac c.la c.og c.st c.fr c.sl n now=⟨_,_,_,_,_,_,_,_,_,_⟩)
   have f:=zva (sl:=c.sl) h h10 ht
   exact ⟨g.2.1,g.1,by rw [f];omega,fun e=>by cases e⟩
 ·have e:zhk c n now true=zu7 c.k c.wn c.th c.fl c.ac c.la c.og c.st c.fr c.sl n:=if_pos rfl
  rw [e]
  have hf:ccB c.k c.wn c.th (c.fl-n) c.ac c.la c.og c.st c.fr=true:=cc_fl h (by omega)
  rcases hk with hk|hk
  ·have e2:zu7 c.k c.wn c.th c.fl c.ac c.la c.og c.st c.fr c.sl n=zhh c.k c.wn c.th (c.fl-n) c.ac c.la c.og c.st c.fr c.sl:=if_neg (by omega)
   have e3:zhh c.k c.wn c.th (c.fl-n) c.ac c.la c.og c.st c.fr c.sl=⟨c.k,zgs c.wn,zgs c.wn,c.fl-n,0,c.la,c.og,c.st,c.fr,false⟩:=if_pos hf
   rw [e2,e3]
   have g:=z1q q2
   have g1:ccB c.k (zgs c.wn) (zgs c.wn) (c.fl-n) 0 c.la c.og c.st c.fr=true:=zsd q1 (by omega) (by omega) (by omega) zit q6 q7 q8 q9
   exact ⟨g1,rfl,rfl,fun _=>by show zgs c.wn≤c.wn;omega⟩
  ·have e2:zu7 c.k c.wn c.th c.fl c.ac c.la c.og c.st c.fr c.sl n=zhj c.k c.wn c.th (c.fl-n) c.ac c.la c.og c.st c.fr c.sl:=if_pos hk
   have e3:zhj c.k c.wn c.th (c.fl-n) c.ac c.la c.og c.st c.fr c.sl=⟨c.k,zjz c.wn,zjz c.wn,c.fl-n,0,zma c.wn c.la,0,0,0,false⟩:=if_pos hf
   rw [e2,e3]
   have g:=ten_in q2
   have g2:=z1r (la:=c.la) q2
   have g1:ccB c.k (zjz c.wn) (zjz c.wn) (c.fl-n) 0 (zma c.wn c.la) 0 0 0=true:=zsd q1 (by omega) (by omega) (by omega) zit g2 zit z0i zit
   exact ⟨g1,rfl,rfl,fun _=>by show zjz c.wn≤c.wn;omega⟩
theorem ziu {now nx:Int} {T O P:List Q4} {L:List F8} {K:List Kn} (h:EgOk now nx T O P L K) {i p:Nat} (hi:i<K.length) (hpl:K[i].pl=(p:Int)) (hp:p<L.length) {n:Int} (lost:Bool) (hn:inQ 1 n K[i].fl=true):EgOk now nx T O P (L.set p (z1w L p n lost)) (K.set i (K[i].cc (zhk K[i] n now lost))):=by
 obtain ⟨a,b,c,d⟩:=zg4 (h.con i hi)
 obtain ⟨n1,n2,n3⟩:=zxh h hi hn
 have ht:zau now=true:=by
  have q:=ze7 h.lend
  rw [h.at'] at q
  exact q
 obtain ⟨g1,g2,g3,_⟩:=fly_cc lost a (zr0 h hi) n2 ht
 have hle:=eg_le h hi hpl hp
 have hfr:=zw6 (lost:=lost) (show ztt L[p].1 L[p].2.1 n L[p].2.2 from ⟨(h.pl p hp).1,n1⟩)
 refine zxm h hi hpl hp rfl rfl (zob (h.con i hi) rfl rfl rfl g1 ?_ c d) ?_ ?_ ?_ h.lend h.at' h.nx'
 ·show (zhk K[i] n now lost).k≠3
  rw [g2]
  exact b
 ·rw [zh3 hp]
  exact hfr.1
 ·rw [zh3 hp]
  show max 0 (L[p].2.1-n)=L[p].2.1+((zhk K[i] n now lost).fl-K[i].fl)
  rw [g3]
  omega
 ·rw [zh3 hp]
theorem zl1 {now nx ns:Int} {T O P:List Q4} {L:List F8} {K:List Kn} (h:EgOk now nx T O P L K) (h2:zau ns=true) (h3:¬1000000000000000<now+ns):EgOk (now+ns) nx T (zao (now+ns) O) (zao (now+ns) P) L K:=by
 have hL:=zbe h.lend
 have q:=ze7 h.lend
 rw [h.at'] at q
 have q1:=zey q
 have q2:=zey h2
 have ht:zau (now+ns)=true:=by unfold zau;simp only [Bool.and_eq_true,decide_eq_true_eq];omega
 have hF:=zpz hL ht (by rw [h.at'];omega)
 have hl:=hL.tree.l0
 obtain ⟨x,y⟩:=zhe hL.code (by omega) (by rw [zan,hL.lo]) (by rw [zan,hL.lp]) hF
 exact ⟨x,y,h.nx',h.l0,h.l1,h.k1,h.con,h.rise,h.pl⟩
theorem z15 (K:List Kn) (i:Nat) (c:Kn) (q:Int):atP (zc8 K i c) q=if c.pl=q then atP (K.take i) q ++ c :: atP (K.drop i) q else atP K q:=by
 unfold zc8
 rw [zfy,zdu]
 split
 ·rfl
 ·rw [←zfy,List.take_append_drop]
theorem zzg {a b:List Int} {id:Int} (h1:∀x ∈ a,x<id) (h2:∀x ∈ b,¬x<id):zjt (a ++ b) id=a ++ id :: b:=by
 rw [zwx (k:=a.length) (by simp) (fun j hj hk=>by
  rw [List.getElem_append_left hk]
  exact h1 _ (List.getElem_mem hk)) (fun hk=>by
  rw [List.getElem_append_right (Nat.le_refl _)]
  exact h2 _ (List.getElem_mem _))]
 simp
theorem zxp {now nx:Int} {T O P:List Q4} {L:List F8} {K:List Kn} (h:EgOk now nx T O P L K) {id lf kd:Int} {p i:Nat} (hf:fK K id = -1) (hn:inQ 0 id 1000000=true) (hlf:zmh T lf=true) (hp:p<L.length) (hk:zlq kd=true) (h40:K.length<40) (hpos:PosK K id i):EgOk now nx T O P (L.set p (opnP L p id)) (zc8 K i (zoe id lf (p:Int) kd)):=by
 have hk':=zzf hk
 have hil:=hpos.le
 have hcon:zei T L.length (zoe id lf (p:Int) kd)=true:=by
  unfold zmh at hlf
  simp only [Bool.and_eq_true] at hlf
  unfold zei zoe
  simp only [Bool.and_eq_true,Bool.not_eq_true',decide_eq_false_iff_not,decide_eq_true_eq]
  refine ⟨⟨⟨⟨⟨⟨⟨hn,hlf.1⟩,hlf.2⟩,?_⟩,(zsd (k:=kd) (wn:=15000) (th:=1000000000) (fl:=0) (ac:=0) (la:=0) (og:=0) (st:=0) (fr:=0) (by omega) (by decide) (by decide) zit zit zit zit z0i zit)⟩,by omega⟩,Nat.zero_le _⟩,rfl⟩
  unfold inQ
  simp only [Bool.and_eq_true,decide_eq_true_eq]
  omega
 have hpos':∀k (hk:k<(zc8 K i (zoe id lf (p:Int) kd)).length),(zc8 K i (zoe id lf (p:Int) kd))[k].id=if k<i then (K[k]?.map Kn.id).getD 0 else if k=i then id else (K[k-1]?.map Kn.id).getD 0:=fun k hk=>by
  rcases zf3 hil hk with ⟨q,hj,e⟩|⟨q,e⟩|⟨q,hj,e⟩
  ·rw [e,if_pos q,List.getElem?_eq_getElem hj];rfl
  ·rw [e,if_neg (by omega),if_pos q];rfl
  ·rw [e,if_neg (by omega),if_neg (by omega),List.getElem?_eq_getElem hj];rfl
 have at':∀k (hk:k<K.length),(K[k]?.map Kn.id).getD 0=K[k].id:=fun k hk=>by rw [List.getElem?_eq_getElem hk];rfl
 refine ⟨h.lend,h.at',h.nx',by rw [List.length_set];exact h.l0,by rw [List.length_set];exact h.l1,by rw [zdi];omega,fun k hk=>?_,fun k hk hk'=>?_,fun q hq=>?_⟩
 ·rw [List.length_set]
  rcases zf3 hil hk with ⟨_,hj,e⟩|⟨_,e⟩|⟨_,hj,e⟩
  ·rw [e];exact h.con _ hj
  ·rw [e];exact hcon
  ·rw [e];exact h.con _ hj
 ·rw [hpos',hpos']
  have hl:=zdi K i (zoe id lf (p:Int) kd)
  by_cases c1:k+1<i
  ·rw [if_pos (by omega),if_pos c1,at' k (by omega),at' (k+1) (by omega)]
   exact h.rise k (by omega) (by omega)
  ·by_cases c2:k+1=i
   ·rw [if_pos (by omega),if_neg c1,if_pos c2,at' k (by omega)]
    exact hpos.lo k (by omega) (by omega)
   ·by_cases c3:k=i
    ·rw [if_neg (by omega),if_pos c3,if_neg c1,if_neg c2,at' (k+1-1) (by omega)]
     exact hpos.hi (k+1-1) (by omega) (by omega)
    ·rw [if_neg (by omega),if_neg c3,if_neg c1,if_neg c2,at' (k-1) (by omega),at' (k+1-1) (by omega)]
     have:=h.rise (k-1) (by omega) (by omega)
     have e:k-1+1=k+1-1:=by omega
     simpa only [e] using this
 ·rw [List.length_set] at hq
  rw [List.getElem_set,z15]
  by_cases e:p=q
  ·subst e
   rw [if_pos rfl,if_pos (show (zoe id lf (p:Int) kd).pl=(p:Int) from rfl),zxd hp]
   have hq':=h.pl p hp
   have hsp:atP K (p:Int)=atP (K.take i) (p:Int) ++ atP (K.drop i) (p:Int):=by rw [←zfy,List.take_append_drop]
   refine ⟨z1p hq'.1 hn (by have:=zkr h hp;omega) (zxf h hp hf),?_,?_⟩
   ·show L[p].2.1=_
    rw [hq'.2.1,hsp,zhb,zhb,zfg]
    show _=_+(0+_)
    omega
   ·show zjt L[p].2.2 id=_
    rw [hq'.2.2,hsp,zgg,zgg]
    refine zzg (fun x hx=>?_) (fun x hx=>?_)
    ·obtain ⟨c,hc,rfl⟩:=List.mem_map.1 hx
     obtain ⟨j,hj,rfl⟩:=List.mem_iff_getElem.1 (List.mem_filter.1 hc).1
     rw [List.getElem_take]
     rw [List.length_take] at hj
     exact hpos.lo j (by omega) (by omega)
    ·obtain ⟨c,hc,rfl⟩:=List.mem_map.1 hx
     obtain ⟨j,hj,rfl⟩:=List.mem_iff_getElem.1 (List.mem_filter.1 hc).1
     rw [List.getElem_drop]
     rw [List.length_drop] at hj
     have:=hpos.hi (i+j) (by omega) (by omega)
     omega
  ·rw [if_neg e,if_neg (by show ¬(p:Int)=q;omega)]
   exact h.pl q hq
def Kn.gr (c:Kn) (s:Int):Kn:={ c with fl:=c.fl+s,xs:=c.xs.drop 1 }
theorem zxq {now nx:Int} {T O P:List Q4} {L:List F8} {K:List Kn} (h:EgOk now nx T O P L K) {i:Nat} (hi:i<K.length) {s:Int} (hs:zfo s=true):zcx T O P K[i].lf now s=true:=by
 have q:=ze7 h.lend
 rw [h.at'] at q
 have c:=h.con i hi
 unfold zei inQ at c
 simp only [Bool.and_eq_true,decide_eq_true_eq] at c
 have hlf:=c.1.1.1.1.1.1.2
 have hle:=c.1.1.1.1.1.2
 unfold zcx
 rw [h.lend,hle,q,hs,h.at']
 simp only [Bool.and_eq_true,decide_eq_true_eq]
 refine ⟨⟨⟨⟨⟨?_,by omega⟩,?_⟩,?_⟩,Int.le_refl _⟩,?_⟩ <;> trivial
theorem zzh {now nx:Int} {T O P:List Q4} {L:List F8} {K:List Kn} (h:EgOk now nx T O P L K) {i p:Nat} (hi:i<K.length) (hpl:K[i].pl=(p:Int)) (hp:p<L.length) {s:Int} (hs:zfo s=true) (hw:K[i].fl+s≤K[i].wn) (hr:zax L[p].1 L[p].2.1 s L[p].2.2=true):EgOk now (K[i].id+1) T (zg0 T O P K[i].lf now s) (zg1 T O P K[i].lf now s) (L.set p (L[p].1,L[p].2.1+s,L[p].2.2)) (K.set i (K[i].gr s)):=by
 obtain ⟨a,b,c,d⟩:=zg4 (h.con i hi)
 have sp:=spent (zxq h hi hs)
 have hc:=(zcu a).2.2.2.1
 have hwn:=(zcu a).2.1
 have hsg:=zi0 hs
 have hid:0≤K[i].id∧K[i].id≤1000000:=by
  have c:=h.con i hi
  unfold zei inQ at c
  simp only [Bool.and_eq_true,decide_eq_true_eq] at c
  exact c.1.1.1.1.1.1.1
 refine zxm h hi hpl hp rfl rfl (zob (h.con i hi) rfl rfl rfl (cc_fl a (gx:=K[i].fl+s) (by omega)) b ?_ ?_) (zu1 hr).1.1 ?_ rfl sp.ok sp.tim ?_
 ·show (K[i].xs.drop 1).length≤100
  rw [List.length_drop]
  omega
 ·show (K[i].xs.drop 1).all zfo=true
  rw [List.all_eq_true] at d ⊢
  exact fun x hx=>d x (List.mem_of_mem_drop hx)
 ·show L[p].2.1+s=L[p].2.1+(K[i].fl+s-K[i].fl)
  omega
 ·unfold inQ
  simp only [Bool.and_eq_true,decide_eq_true_eq]
  omega
structure EgR where
 now:Int
 nx:Int
 aT:Option Addr
 aO:Option Addr
 aP:Option Addr
 aL:Option Addr
 aK:Option Addr
 cT:Nat
 cO:Nat
 cP:Nat
 cL:Nat
 cK:Nat
 T:List Q4
 O:List Q4
 P:List Q4
 L:List F8
 K:List Kn
def EgR.cells (E:EgR):List Value:=[.int .i64 E.now,.slice E.aT E.T.length E.cT,.slice E.aO E.O.length E.cO,.slice E.aP E.P.length E.cP,.slice E.aL E.L.length E.cL,.slice E.aK E.K.length E.cK,.int .i64 E.nx]
def EgR.ok (E:EgR):Prop:=EgOk E.now E.nx E.T E.O E.P E.L E.K
def EgR.own (E:EgR) (w:World) (lo hi:Nat):Prop:=Eng w lo hi (.slice E.aT E.T.length E.cT) (.slice E.aO E.O.length E.cO) (.slice E.aP E.P.length E.cP) (.slice E.aL E.L.length E.cL) (.slice E.aK E.K.length E.cK) E.T E.O E.P E.L E.K
theorem EgR.own.next {E:EgR} {w w':World} {lo hi:Nat} (h:E.own w lo hi) (hb:Below w.heap.size w w'):E.own w' lo hi:=Eng.next h hb
theorem EgR.own.only {E:EgR} {w w':World} {lo hi g:Nat} (h:E.own w lo hi) (o:Only g w w') (hg:g<lo∨hi≤g):E.own w' lo hi:=Eng.only h o hg
theorem EgR.own.wider {E:EgR} {w:World} {lo hi lo' hi':Nat} (h:E.own w lo hi) (hl:lo'≤lo) (hh:hi≤hi'):E.own w lo' hi':=Eng.wider h hl hh
structure EgR.Rd (E:EgR) (w:World):Prop where
 t:Quad w.heap.size w E.aT E.T
 o:Quad w.heap.size w E.aO E.O
 p:Quad w.heap.size w E.aP E.P
 l:Fls w.heap.size w E.aL E.L
 k:Kls w.heap.size w E.aK E.K
theorem EgR.own.rd {E:EgR} {w:World} {lo hi:Nat} (h:E.own w lo hi):E.Rd w:=by
 obtain ⟨a,b,c,d,e⟩:=zcr h
 exact ⟨a,b,c,d,e⟩
structure Szs (T:List Q4) (L:List F8) (K:List Kn):Prop where
 t:T.length≤1048576
 l:L.length≤1048576
 sl:∀f ∈ L,f.2.2.length≤1048576
 k:K.length≤1048576
 sk:∀c ∈ K,c.xs.length≤1048576
theorem zl2 {now nx:Int} {T O P:List Q4} {L:List F8} {K:List Kn} (h:EgOk now nx T O P L K):Szs T L K:=by
 have s:=zn7 h
 exact ⟨by have:=s.t;omega,by have:=s.l;omega,fun f hf=>by have:=s.lm f hf;omega,by have:=s.k;omega,fun c hc=>by have:=s.km c hc;omega⟩
def zxr (w:World) (E0:EgR) (e:Ending) (w':World):Prop:=∃(E:EgR) (f:Int),e=.returned (.tuple #[zcp E.now E.aT E.T.length E.cT E.aO E.O.length E.cO E.aP E.P.length E.cP E.aL E.L.length E.cL E.aK E.K.length E.cK E.nx,.int .i64 f])∧E.own w' w.heap.size w'.heap.size∧E.ok∧E.T=E0.T∧(E0.K≠[]→E.K≠[])∧Below w.heap.size w w'
theorem zh5 {w:World} {now nx:Int} {T O P:List Q4} {L:List F8} {K:List Kn} {f:Int} {E0:EgR} {e:Ending} {w':World} (h:zbx w now nx T O P L K (.int .i64 f) e w') (ok:EgOk now nx T O P L K) (hT:T=E0.T) (hK:E0.K≠[]→K≠[]):zxr w E0 e w':=by
 obtain ⟨aT,cT,aO,cO,aP,cP,aL,cL,aK,cK,he,eg,hb⟩:=h
 exact ⟨⟨now,nx,aT,aO,aP,aL,aK,cT,cO,cP,cL,cK,T,O,P,L,K⟩,f,he,eg,ok,hT,hK,hb⟩
theorem ziv {α:Type} {l:List α} {i:Nat} {x:α} (h:l≠[]):l.set i x≠[]:=fun e=>h (by
 have:=congrArg List.length e
 rw [List.length_set] at this
 exact List.eq_nil_of_length_eq_zero this)
theorem ztx {r u t:Int} (hr:zc2 r=true) (hu:zl9 u=true) (ht:zau t=true):zgn r u (1000000000*u) t=true:=by
 unfold zgn
 rw [hr,hu,ht]
 have h:0≤u:=by
  unfold zl9 at hu
  simp only [Bool.and_eq_true,decide_eq_true_eq] at hu
  omega
 unfold zve
 rw [decide_eq_true (show 0≤1000000000*u by omega),decide_eq_true (Int.le_refl _)]
 rfl
theorem zxs {T:List Q4} {n:Int} (h:nwB T n=true):EgOk 0 0 (nwT T n) (nwO T n) (nwP T n) (nwL T n) []∧nwT T n=T∧zah T=0:=by
 have hT:nwT T n=zwd T 0:=if_pos h
 have hO:nwO T n=zwe T 0:=if_pos h
 have hP:nwP T n=zwf T 0:=if_pos h
 have hL:nwL T n=List.replicate n.toNat zuu:=if_pos h
 unfold nwB at h
 rw [Bool.and_eq_true] at h
 have hb:=h.1
 have e1:zwd T 0=T:=if_pos hb
 have e2:zwe T 0=T.map (zgd 0):=if_pos hb
 have e3:zwf T 0=T.map (zge 0):=if_pos hb
 have hc:zah T=0:=by
  unfold za8 at hb
  rw [Bool.and_eq_true] at hb
  exact of_decide_eq_true hb.1
 have hn:1≤n∧n≤10:=by
  have q:=h.2
  unfold inQ at q
  simp only [Bool.and_eq_true,decide_eq_true_eq] at q
  exact q
 have it:=zfj hc
 have l0:=it.l0
 have t0:zau 0=true:=by decide
 obtain ⟨x,y⟩:=zhe (T:=T) (O:=T.map (zgd 0)) (P:=T.map (zge 0)) (now:=0) hc (by omega) (by simp) (by simp) (fun k h1 h2 h3=>by
  obtain ⟨c1,c2,c3⟩:=zpx (it.sound.cls k h1)
  rw [List.getElem_map,List.getElem_map]
  exact ⟨ztx c1 c3 t0,ztx c2 c3 t0,rfl,rfl,rfl,rfl,rfl,rfl⟩)
 rw [hT,hO,hP,hL,e1,e2,e3]
 refine ⟨⟨x,y,by decide,by rw [List.length_replicate];omega,by rw [List.length_replicate];omega,Nat.zero_le _,(fun i h=>by cases h),(fun i h=>by cases h),fun p hp=>?_⟩,rfl,hc⟩
 rw [List.getElem_replicate]
 exact ⟨zi3 ⟨by decide,by decide,Nat.zero_le _,(fun i h=>by cases h)⟩,rfl,rfl⟩
theorem zzi {T:List Q4} {k:Nat}:∀x ∈ zb9 T k,∃j:Nat,x=(j:Int)∧j<k∧zdd T x=true:=by
 induction k with
 | zero=>intro x hx;cases hx
 | succ k ih =>
  intro x hx
  cases hl:zdd T (k:Int)
  ·rw [zpi hl] at hx
   obtain ⟨j,e,h1,h2⟩:=ih x hx
   exact ⟨j,e,by omega,h2⟩
  ·rw [zi2 hl] at hx
   rcases List.mem_append.1 hx with h|h
   ·obtain ⟨j,e,h1,h2⟩:=ih x h
    exact ⟨j,e,by omega,h2⟩
   ·rw [List.mem_singleton] at h
    subst h
    exact ⟨k,rfl,by omega,hl⟩
theorem zse {T:List Q4} (hc:zah T=0):∀x ∈ zbj T,zmh T x=true:=fun x hx=>by
 unfold zbj at hx
 rw [if_pos hc] at hx
 obtain ⟨j,e,h1,h2⟩:=zzi x hx
 unfold zmh inQ
 rw [h2,decide_eq_true (show 0≤x by omega),decide_eq_true (show x≤(T.length:Int)-1 by omega)]
 rfl
theorem zji:nwB [(-1,5000,5000,9000)] 1=true:=by decide
structure D14 (B:Nat) (a0:Option Addr) (len cap b:Nat) (w wr:World) (q:Nat) (E:EgR):Prop where
 cur:Cur B a0 len cap b wr
 only:Only b w wr
 lt:b<w.heap.size
 oq:w.heap.size<q
 res:Lay wr w.heap.size [.int .i64 0,.slice none 0 0,.slice none 0 0,.slice none 0 0,.slice none 0 0,.slice none 0 0,.int .i64 0]
 var:Lay wr q [.int .i64 E.now,.slice E.aT E.T.length E.cT,.slice E.aO E.O.length E.cO,.slice E.aP E.P.length E.cP,.slice E.aL E.L.length E.cL,.slice E.aK E.K.length E.cK,.int .i64 E.nx]
 own:∃lo hi,E.own wr lo hi∧w.heap.size<lo∧(q<lo∨hi≤q)
 ok:E.ok
section
variable {B:Nat} {a0:Option Addr} {len cap b:Nat} {w wr:World} {q:Nat} {E:EgR}
theorem D14.draw (d:D14 B a0 len cap b w wr q E) {w2:World} (o:Only b wr w2) (k:Cur B a0 len cap b w2):D14 B a0 len cap b w w2 q E:=by
 have h1:=d.lt
 have h2:=d.oq
 obtain ⟨lo,hi,e,h3,h4⟩:=d.own
 exact ⟨k,d.only.trans o,d.lt,d.oq,d.res.only o (by omega),d.var.only o (by omega),⟨lo,hi,e.only o (.inl (by omega)),h3,h4⟩,d.ok⟩
theorem D14.next (d:D14 B a0 len cap b w wr q E) {w2:World} (h:Below wr.heap.size wr w2):D14 B a0 len cap b w w2 q E:=d.draw (Only.of_below h) (d.cur.mono h)
theorem D14.store (d:D14 B a0 len cap b w wr q E) {u:World} (E':EgR) {lo hi:Nat} (e:E'.own wr lo hi) (h1:w.heap.size<lo) (h2:q<lo∨hi≤q) (ok:E'.ok) (o:Only q wr u) (l:Lay u q [.int .i64 E'.now,.slice E'.aT E'.T.length E'.cT,.slice E'.aO E'.O.length E'.cO,.slice E'.aP E'.P.length E'.cP,.slice E'.aL E'.L.length E'.cL,.slice E'.aK E'.K.length E'.cK,.int .i64 E'.nx]):D14 B a0 len cap b w u q E':=by
 have h3:=d.lt
 have h4:=d.oq
 have hb:Below (w.heap.size+1) wr u:=o.below (by omega) (by have:=d.var.lt;omega)
 exact ⟨d.cur.under hb (by omega),⟨o.os.trans d.only.os,o.tape.trans d.only.tape,o.output.trans d.only.output,Nat.le_trans d.only.size o.size,fun k hk hn=>(o.block k (Nat.lt_of_lt_of_le hk d.only.size) (by omega)).trans (d.only.block k hk hn)⟩,d.lt,d.oq,d.res.only o (by omega),l,⟨lo,hi,e.only o (by omega),h1,h2⟩,ok⟩
theorem D14.big (d:D14 B a0 len cap b w wr q E):q<wr.heap.size:=d.var.lt
end
def P14 (B:Nat) (a0:Option Addr) (len cap b:Nat) (w:World) (e:Ending) (w':World):Prop:=∃(E:EgR),e=.returned (zcp E.now E.aT E.T.length E.cT E.aO E.O.length E.cO E.aP E.P.length E.cP E.aL E.L.length E.cL E.aK E.K.length E.cK E.nx)∧E.own w' w.heap.size w'.heap.size∧E.ok∧E.K≠[]∧Cur B a0 len cap b w'∧Only b w w'
def NPost (w:World) (T:List Q4) (n:Int) (e:Ending) (w':World):Prop:=∃(E:EgR),e=.returned (.tuple #[zcp E.now E.aT E.T.length E.cT E.aO E.O.length E.cO E.aP E.P.length E.cP E.aL E.L.length E.cL E.aK E.K.length E.cK E.nx,.bool (nwB T n)])∧E.own w' w.heap.size w'.heap.size∧(nwB T n=true→E.ok∧E.T=T∧zah T=0)∧Below w.heap.size w w'
theorem dNew {w:World} {aT:Option Addr} (cT:Nat) {T:List Q4} (n:Int) (hT:Quad w.heap.size w aT T):Calls Tryz.prog 141 #[.slice aT T.length cT,.int .i64 n] w (NPost w T n) :=
 (zml cT n hT).mono fun e w' q=>by
  obtain ⟨aT,cT,aO,cO,aP,cP,aL,cL,aK,cK,he,eg,hb⟩:=q
  exact ⟨⟨0,0,aT,aO,aP,aL,aK,cT,cO,cP,cL,cK,nwT T n,nwO T n,nwP T n,nwL T n,[]⟩,he,eg,fun h=>zxs h,hb⟩
theorem zsf {T:List Q4} (h:IsTree T):1≤(zb9 T T.length).length:=by
 have h0:=h.l0
 obtain ⟨n,hn⟩:∃n,T.length=n+1:=⟨T.length-1,by omega⟩
 have hl:zdd T (n:Int)=true:=by
  unfold zdd
  rw [List.all_eq_true]
  intro t ht
  obtain ⟨k,hk,rfl⟩:=List.getElem_of_mem ht
  have:=znq (h.sound.par k hk)
  simp only [Bool.not_eq_true',decide_eq_false_iff_not]
  omega
 rw [hn,zi2 hl]
 simp
theorem zoc {T:List Q4} (h:zah T=0):1≤(zbj T).length:=by
 unfold zbj
 rw [if_pos h]
 exact zsf (zfj h)
theorem IV.only14 {w w':World} {lo b:Nat} {v:Value} {xs:List Int} (h:IV w lo v xs) (o:Only b w w') (hb:b<lo):IV w' lo v xs :=
 h.onlyO (o:=some b) ⟨o.os,o.tape,o.output,o.size,fun k hk hn=>o.block k hk (fun e=>hn (by rw [e]))⟩ (fun g hg e=>by have:=(h.own hg).1;have:=Option.some.inj e;omega)
structure D15 (B:Nat) (a0:Option Addr) (len cap b:Nat) (w wr:World) (q:Nat) (vs:List Value):Prop where
 cur:Cur B a0 len cap b wr
 only:Only b w wr
 lt:b<w.heap.size
 oq:w.heap.size<q
 res:Lay wr w.heap.size [.int .i64 0,.slice none 0 0,.slice none 0 0,.slice none 0 0,.slice none 0 0,.slice none 0 0,.int .i64 0]
 var:Lay wr q vs
section
variable {B:Nat} {a0:Option Addr} {len cap b:Nat} {w wr:World} {q:Nat} {vs:List Value}
theorem D15.draw (d:D15 B a0 len cap b w wr q vs) {w2:World} (o:Only b wr w2) (k:Cur B a0 len cap b w2):D15 B a0 len cap b w w2 q vs:=by
 have h1:=d.lt
 have h2:=d.oq
 exact ⟨k,d.only.trans o,d.lt,d.oq,d.res.only o (by omega),d.var.only o (by omega)⟩
theorem D15.next (d:D15 B a0 len cap b w wr q vs) {w2:World} (h:Below wr.heap.size wr w2):D15 B a0 len cap b w w2 q vs:=d.draw (Only.of_below h) (d.cur.mono h)
theorem D15.is {E:EgR} (d:D15 B a0 len cap b w wr q [.int .i64 E.now,.slice E.aT E.T.length E.cT,.slice E.aO E.O.length E.cO,.slice E.aP E.P.length E.cP,.slice E.aL E.L.length E.cL,.slice E.aK E.K.length E.cK,.int .i64 E.nx]) {lo hi:Nat} (e:E.own wr lo hi) (h1:w.heap.size<lo) (h2:q<lo∨hi≤q) (ok:E.ok):D14 B a0 len cap b w wr q E:=⟨d.cur,d.only,d.lt,d.oq,d.res,d.var,⟨lo,hi,e,h1,h2⟩,ok⟩
theorem D15.store (d:D15 B a0 len cap b w wr q vs) {u:World} (E':EgR) {lo hi:Nat} (e:E'.own wr lo hi) (h1:w.heap.size<lo) (h2:q<lo∨hi≤q) (ok:E'.ok) (o:Only q wr u) (l:Lay u q [.int .i64 E'.now,.slice E'.aT E'.T.length E'.cT,.slice E'.aO E'.O.length E'.cO,.slice E'.aP E'.P.length E'.cP,.slice E'.aL E'.L.length E'.cL,.slice E'.aK E'.K.length E'.cK,.int .i64 E'.nx]):D14 B a0 len cap b w u q E':=by
 have h3:=d.lt
 have h4:=d.oq
 have hb:Below (w.heap.size+1) wr u:=o.below (by omega) (by have:=d.var.lt;omega)
 exact ⟨d.cur.under hb (by omega),⟨o.os.trans d.only.os,o.tape.trans d.only.tape,o.output.trans d.only.output,Nat.le_trans d.only.size o.size,fun k hk hn=>(o.block k (Nat.lt_of_lt_of_le hk d.only.size) (by omega)).trans (d.only.block k hk hn)⟩,d.lt,d.oq,d.res.only o (by omega),l,⟨lo,hi,e.only o (by omega),h1,h2⟩,ok⟩
theorem z16 {w2:World} {u:TypeId} {q:Nat} (hl:b<w.heap.size) (hq:q=w2.heap.size) (hz:w.heap.size<q) (o2:Only b w w2) (k2:Cur B a0 len cap b w2) (l:Lay w2 w.heap.size [.int .i64 0,.slice none 0 0,.slice none 0 0,.slice none 0 0,.slice none 0 0,.slice none 0 0,.int .i64 0]) (vs:List Value):D15 B a0 len cap b w (w2.alloc (.cells vs.toArray u)) q vs:=by
 have hb:=zac w2 (.cells vs.toArray u)
 exact ⟨k2.mono hb,o2.trans (Only.of_below hb),hl,hz,l.next hb,zbs vs u hq⟩
end
section
variable {B:Nat} {a0:Option Addr} {len cap b:Nat} {w wr:World} {q:Nat} {E:EgR}
theorem D14.conns (d:D14 B a0 len cap b w wr q E) (hk:1≤E.K.length):∃gk,E.aK=some ⟨gk,0,none⟩∧(w.heap.size<gk∧gk<wr.heap.size)∧∀i (h:i<E.K.length),wr.cell? ⟨gk,i*14,none⟩=some (.int .i64 E.K[i].id)∧wr.cell? ⟨gk,i*14+1,none⟩=some (.int .i64 E.K[i].lf)∧wr.cell? ⟨gk,i*14+2,none⟩=some (.int .i64 E.K[i].pl)∧wr.cell? ⟨gk,i*14+3,none⟩=some (.int .i64 E.K[i].k)∧wr.cell? ⟨gk,i*14+4,none⟩=some (.int .i64 E.K[i].wn)∧wr.cell? ⟨gk,i*14+5,none⟩=some (.int .i64 E.K[i].th)∧wr.cell? ⟨gk,i*14+6,none⟩=some (.int .i64 E.K[i].fl)∧wr.cell? ⟨gk,i*14+7,none⟩=some (.int .i64 E.K[i].ac)∧wr.cell? ⟨gk,i*14+8,none⟩=some (.int .i64 E.K[i].la)∧wr.cell? ⟨gk,i*14+9,none⟩=some (.int .i64 E.K[i].og)∧wr.cell? ⟨gk,i*14+10,none⟩=some (.int .i64 E.K[i].st)∧wr.cell? ⟨gk,i*14+11,none⟩=some (.int .i64 E.K[i].fr)∧wr.cell? ⟨gk,i*14+12,none⟩=some (.bool E.K[i].sl)∧∃sa sc,wr.cell? ⟨gk,i*14+13,none⟩=some (.slice sa E.K[i].xs.length sc):=by
 obtain ⟨lo,hh,e,h1,h2⟩:=d.own
 obtain ⟨lo',hi',uL,uK,h3,h4,eo⟩:=e
 obtain ⟨gk,ha,g0,g1,_⟩:=eo.atK (by omega)
 rw [ha] at eo
 refine ⟨gk,ha,⟨by omega,g1⟩,fun i h=>?_⟩
 obtain ⟨c0,c1,c2,c3,c4,c5,c6,c7,c8,c9,c10,c11,c12⟩:=eo.con h
 obtain ⟨sa,sc,c13,_⟩:=eo.con13 h
 exact ⟨c0,c1,c2,c3,c4,c5,c6,c7,c8,c9,c10,c11,c12,sa,sc,c13⟩
theorem D14.far {g:Nat} {u:World} (d:D14 B a0 len cap b w wr q E) (o:Only g wr u) (hg:q<g) {w0:World} (e:∃lo hh,E.own w0 lo hh∧w.heap.size<lo∧(q<lo∨hh≤q)∧w0.heap.size≤g) (ob:Only b w0 wr):D14 B a0 len cap b w u q E:=by
 have h1:=d.lt
 have h2:=d.oq
 obtain ⟨lo,hh,eo,h3,h4,h5⟩:=e
 obtain ⟨lo',hi',uL,uK,h6,h7,ex⟩:=eo
 have ht:=ex.top
 have e1:E.own wr lo hi':=(EgR.own.only (⟨lo',hi',uL,uK,h6,Nat.le_refl _,ex⟩:E.own w0 lo hi') ob (.inl (by omega)))
 have hb:Below (w.heap.size+1) wr u:=o.below (by omega) (by have:=d.var.lt;omega)
 exact ⟨d.cur.under hb (by omega),⟨o.os.trans d.only.os,o.tape.trans d.only.tape,o.output.trans d.only.output,Nat.le_trans d.only.size o.size,fun k hk hn=>(o.block k (Nat.lt_of_lt_of_le hk d.only.size) (by omega)).trans (d.only.block k hk hn)⟩,d.lt,d.oq,d.res.only o (by omega),d.var.only o (by omega),⟨lo,hi',e1.only o (.inr (by omega)),h3,by omega⟩,d.ok⟩
theorem D14.fin {u:World} (d:D14 B a0 len cap b w wr q E) (o:Only w.heap.size wr u):E.own u w.heap.size u.heap.size∧Cur B a0 len cap b u∧Only b w u:=by
 have h1:=d.lt
 have h2:=d.oq
 obtain ⟨lo,hh,eo,h3,h4⟩:=d.own
 obtain ⟨lo',hi',uL,uK,h6,h7,ex⟩:=eo
 have ht:=ex.top
 have hb:Below w.heap.size wr u:=o.below (Nat.le_refl _) (by have:=d.var.lt;omega)
 have e1:E.own wr lo hi':=⟨lo',hi',uL,uK,h6,Nat.le_refl _,ex⟩
 exact ⟨(e1.only o (.inl h3)).wider (by omega) (by have:=o.size;omega),d.cur.under hb h1,⟨o.os.trans d.only.os,o.tape.trans d.only.tape,o.output.trans d.only.output,Nat.le_trans d.only.size o.size,fun k hk hn=>(o.block k (Nat.lt_of_lt_of_le hk d.only.size) (by omega)).trans (d.only.block k hk hn)⟩⟩
end
def GrOk (L:List F8) (K:List Kn) (k:Nat) (s:Int):Prop:=∃(hk:k<K.length) (p:Nat) (hp:p<L.length),K[k].xs[0]?=some s∧K[k].pl=(p:Int)∧K[k].fl+s≤K[k].wn∧zax L[p].1 L[p].2.1 s L[p].2.2=true
theorem IV.smp2 {w:World} {lo c:Nat} {a:Option Addr} {xs:List Int} (h:IV w lo (.slice a xs.length c) xs):ISmp w.heap.size w a xs:=by
 obtain ⟨a',c',e,_,s⟩:=h.io.smp
 injection e with e1
 subst e1
 exact s
theorem zqm {w:World} (now nx:Int) {aT aO aP aL aK:Option Addr} (cT cO cP cL cK:Nat) {T O P:List Q4} {L:List F8} {K:List Kn} (hT:Quad w.heap.size w aT T) (hO:Quad w.heap.size w aO O) (hP:Quad w.heap.size w aP P) (hL:Fls w.heap.size w aL L) (hK:Kls w.heap.size w aK K) (h:EgOk now nx T O P L K):Calls Tryz.prog 172 #[zcp now aT T.length cT aO O.length cO aP P.length cP aL L.length cL aK K.length cK nx] w fun e w'=>(e=.returned (.int .i64 (-1))∨∃(k:Nat) (s:Int),e=.returned (.int .i64 k)∧GrOk L K k s)∧Below w.heap.size w w':=by
 obtain ⟨nT,nO,nP⟩:=zcb h
 have k40:=h.k1
 have HEG:Hid (EgOk now nx T O P L K):=h
 have hnx:0≤nx∧nx≤1000001:=by have q:=h.nx';unfold inQ at q;simp only [Bool.and_eq_true,decide_eq_true_eq] at q;exact q
 have hk40:(K.length:Int)≤40:=by omega
 clear h
 obtain ⟨v,hv,L0,nb⟩:=ze8 w 31 [.int .i64 now,.slice aT T.length cT,.slice aO O.length cO,.slice aP P.length cP,.slice aL L.length cL,.slice aK K.length cK,.int .i64 nx]
 have zv:=L0.lt
 go_enter Tryz.func172,Tryz.ntmps172
 go_upto_region 1 with (fail)
 rw [←hv]
 clear hv
 obtain ⟨q0,q1,q2,q3,q4,q5,q6⟩:=Lay.c7 (b:=w.heap.size) L0
 go_wp2
 go_loopw [4] (fun s wr=>∃j:Nat,s=.int .i64 (j:Int)∧j≤K.length∧Below v.heap.size v wr) (fun s _=>K.length-(intOf s).toNat)
 case atStart=>exact ⟨0,rfl,Nat.zero_le _,Below.refl _ _⟩
 case round =>
  clear q0 q1 q2 q3 q4 q5 q6
  obtain ⟨j,rfl,hj,hbw⟩:=hrel
  have LW:=L0.next hbw
  obtain ⟨q0,q1,q2,q3,q4,q5,q6⟩:=LW.c7
  have hbv:=hbw.size
  go_upto_region 3 with (fail)
  go_cut [25] from 12 to 25 (fun s wd=>∃f:Bool,s=.bool f∧(f=true→j<K.length)∧Below v.heap.size v wd)
  case first =>
   by_cases hlt:j<K.length
   ·have hlt':(j:Int)<(K.length:Int):=by omega
    have hltd:decide ((j:Int)<(K.length:Int))=true:=decide_eq_true hlt'
    have hj0:(0:Int)≤(j:Int):=by omega
    obtain ⟨b,off,sa,sc,hak,hbl,d0,d13,sm⟩:=hK j hlt
    subst hak
    have cid:wr.cell? ⟨b,off+j*14,none⟩=some (.int .i64 K[j].id):=(hbw.cell (by show b<_;omega)).trans ((nb.cell (by exact hbl)).trans (d0 0 _ rfl))
    clear d0 d13 sm
    by_cases hd:K[j].id<nx
    ·have hd':decide (K[j].id<nx)=true:=decide_eq_true hd
     go_quiet (fail)
     go_wp2
     go_meet
     exact ⟨true,rfl,fun _=>hlt,hbw.trans ((zam (Below.refl _ _) _).mono hbw.size)⟩
    ·have hd':decide (K[j].id<nx)=false:=decide_eq_false hd
     go_quiet (fail)
     go_wp2
     go_meet
     exact ⟨false,rfl,fun _=>hlt,hbw.trans ((zam (Below.refl _ _) _).mono hbw.size)⟩
   ·have hltd:decide ((j:Int)<(K.length:Int))=false:=decide_eq_false (by omega)
    go_quiet (fail)
    go_wp2
    go_meet
    exact ⟨false,rfl,fun e=>(by cases e),hbw.trans ((zam (Below.refl _ _) _).mono hbw.size)⟩
  case rest =>
  obtain ⟨f,rfl,hf,hbc⟩:=hcut
  cases f
  rotate_left 1
  ·have hlt:=hf rfl
   clear hf q0 q1 q2 q3 q4 q5 q6 LW
   go_wp2
   go_roundw
   case rel=>exact ⟨j+1,by go_num,by omega,hbc⟩
   case measure=>simp [intOf];omega
  clear hf q0 q1 q2 q3 q4 q5 q6 LW hbw hbv
  go_wp2
  go_loopw [5] (fun s wr=>∃m:Nat,s=.int .i64 (m:Int)∧m≤K.length∧Below v.heap.size v wr) (fun s _=>K.length-(intOf s).toNat)
  case atStart=>exact ⟨0,rfl,Nat.zero_le _,hbc⟩
  case round =>
   clear hbc
   obtain ⟨m,rfl,hm,hbw⟩:=hrel
   have LW:=L0.next hbw
   obtain ⟨q0,q1,q2,q3,q4,q5,q6⟩:=LW.c7
   have hbv:=hbw.size
   by_cases hlt:m<K.length
   ·have hlt':(m:Int)<(K.length:Int):=by omega
    obtain ⟨i,hi⟩:∃i:Nat,(j+m) % K.length=i:=⟨_,rfl⟩
    have hiK:i<K.length:=by rw [←hi];exact Nat.mod_lt _ (by omega)
    have hmod:Int.tmod ((j:Int)+(m:Int)) (K.length:Int)=(i:Int):=by rw [←hi,Int.natCast_emod,Int.natCast_add];exact Int.tmod_eq_emod_of_nonneg (by omega)
    have hk0:¬(K.length:Int)=0:=by omega
    have hwm:IntKind.i64.wrap (i:Int)=(i:Int):=by rw [IntKind.wrap_i64];omega
    have hi0:(0:Int)≤(i:Int):=by omega
    have hik:(i:Int)<(K.length:Int):=by omega
    have hj40:(j:Int)≤40:=by omega
    have hm40:(m:Int)≤40:=by omega
    obtain ⟨b,off,sa,sc,hak,hbl,d0,d13,sm⟩:=hK i hiK
    subst hak
    obtain ⟨c,hc⟩:∃c,K[i]=c:=⟨_,rfl⟩
    have HC:Hid (K[i]=c):=hc
    rw [hc] at d0 d13 sm
    have dd:∀k u,(c.cs ++ [.slice sa c.xs.length sc])[k]?=some u→wr.cell? ⟨b,off+i*14+k,none⟩=some u:=fun k u hu=>by
     refine (hbw.cell (by show b<_;omega)).trans ((nb.cell (by exact hbl)).trans ?_)
     by_cases hk:k<13
     ·rw [List.getElem?_append_left (by rw [Kn.len];exact hk)] at hu
      exact d0 k u hu
     ·have hk2:=(List.getElem?_eq_some_iff.1 hu).1
      rw [List.length_append,Kn.len] at hk2
      have:k=13:=by simp at hk2;omega
      subst this
      have e:(c.cs ++ [Value.slice sa c.xs.length sc])[13]?=some (.slice sa c.xs.length sc):=rfl
      rw [e] at hu
      rw [←Option.some.inj hu]
      exact d13
    have e0:wr.cell? ⟨b,off+i*14,none⟩=some (.int .i64 c.id):=dd 0 _ rfl
    have e1:wr.cell? ⟨b,off+i*14+1,none⟩=some (.int .i64 c.lf):=dd 1 _ rfl
    have e2:wr.cell? ⟨b,off+i*14+2,none⟩=some (.int .i64 c.pl):=dd 2 _ rfl
    have e3:wr.cell? ⟨b,off+i*14+3,none⟩=some (.int .i64 c.k):=dd 3 _ rfl
    have e4:wr.cell? ⟨b,off+i*14+4,none⟩=some (.int .i64 c.wn):=dd 4 _ rfl
    have e5:wr.cell? ⟨b,off+i*14+5,none⟩=some (.int .i64 c.th):=dd 5 _ rfl
    have e6:wr.cell? ⟨b,off+i*14+6,none⟩=some (.int .i64 c.fl):=dd 6 _ rfl
    have e7:wr.cell? ⟨b,off+i*14+7,none⟩=some (.int .i64 c.ac):=dd 7 _ rfl
    have e8:wr.cell? ⟨b,off+i*14+8,none⟩=some (.int .i64 c.la):=dd 8 _ rfl
    have e9:wr.cell? ⟨b,off+i*14+9,none⟩=some (.int .i64 c.og):=dd 9 _ rfl
    have e10:wr.cell? ⟨b,off+i*14+10,none⟩=some (.int .i64 c.st):=dd 10 _ rfl
    have e11:wr.cell? ⟨b,off+i*14+11,none⟩=some (.int .i64 c.fr):=dd 11 _ rfl
    have e12:wr.cell? ⟨b,off+i*14+12,none⟩=some (.bool c.sl):=dd 12 _ rfl
    have e13:wr.cell? ⟨b,off+i*14+13,none⟩=some (.slice sa c.xs.length sc):=dd 13 _ rfl
    clear dd d0 d13 hc
    go_upto_region 10 with (fail)
    obtain ⟨y,hy,LK,by0⟩:=ze8 wr 47 [.int .i64 c.id,.int .i64 c.lf,.int .i64 c.pl,.int .i64 c.k,.int .i64 c.wn,.int .i64 c.th,.int .i64 c.fl,.int .i64 c.ac,.int .i64 c.la,.int .i64 c.og,.int .i64 c.st,.int .i64 c.fr,.bool c.sl,.slice sa c.xs.length sc]
    rw [←hy]
    clear hy e0 e1 e2 e3 e4 e5 e6 e7 e8 e9 e10 e11 e12 e13
    obtain ⟨kq,hkq⟩:∃q,q=wr.heap.size:=⟨_,rfl⟩
    rw [←hkq] at LK ⊢
    clear hkq
    have byv:Below v.heap.size v y:=hbw.trans (by0.mono hbw.size)
    obtain ⟨k0,k1,k2,k3,k4,k5,k6,k7,k8,k9,k10,k11,k12,k13⟩:=LK.c14
    have zby0:=by0.size
    by_cases hx:c.xs.length=0
    ·have hx':((c.xs.length:Int) == 0)=true:=by rw [beq_iff_eq];omega
     clear q0 q1 q2 q3 q4 q5 q6 LW
     go_wp2
     go_roundw
     case rel=>exact ⟨m+1,by go_num,by omega,byv⟩
     case measure=>simp [intOf];omega
    ·have hx':((c.xs.length:Int) == 0)=false:=by rw [beq_eq_false_iff_ne];omega
     have hx0:(0:Int)<(c.xs.length:Int):=by omega
     have hx1:0<c.xs.length:=by omega
     obtain ⟨bx,ox,hsa,hbx,s0⟩:=sm 0 hx1
     subst hsa
     obtain ⟨s,hs⟩:∃s,c.xs[0]=s:=⟨_,rfl⟩
     rw [hs] at s0
     have cs:y.cell? ⟨bx,ox,none⟩=some (.int .i64 s):=(byv.cell (by show bx<_;omega)).trans ((nb.cell (by exact hbx)).trans s0)
     have hcon:=HEG.out.con i hiK
     rw [HC.out] at hcon
     obtain ⟨pa,pb,pc,pd⟩:=zg4 hcon
     have hsg:zfo s=true:=by
      rw [List.all_eq_true] at pd
      rw [←hs]
      exact pd _ (List.getElem_mem hx1)
     have HSG:Hid (zfo s=true):=hsg
     have HXS:Hid (c.xs[0]?=some s):=by show _=_;rw [List.getElem?_eq_getElem hx1,hs]
     obtain ⟨p,hpl,hp⟩:=zkq HEG.out hiK
     rw [HC.out] at hpl
     have HPL:Hid (c.pl=(p:Int)):=hpl
     have hfl:=(zcu pa).2.2.2.1
     have hwn:=(zcu pa).2.1
     have hsn:=zi0 hsg
     have hws:IntKind.i64.wrap (c.fl+s)=c.fl+s:=by rw [IntKind.wrap_i64];omega
     have hleaf:0≤c.lf∧c.lf<T.length:=by
      unfold zei inQ at hcon
      simp only [Bool.and_eq_true,decide_eq_true_eq] at hcon
      omega
     have hl0:=hleaf.1
     have hl1:=hleaf.2
     have hw:=(zbe HEG.out.lend).tree.sound.well
     have HWL:Hid (znm T):=hw
     have HOP:Hid (O.length=P.length):=by have a:=(zbe HEG.out.lend).lo;have b:=(zbe HEG.out.lend).lp;show _=_;omega
     have HPM:Hid (∀q (hq:q<(zap T c.lf).length),0≤(zap T c.lf)[q]∧(zap T c.lf)[q]<P.length):=fun q hq=>by
      have:=zha hw T.length c.lf hl1 (by omega) _ (List.getElem_mem hq)
      have b:=(zbe HEG.out.lend).lp
      omega
     have HPN:Hid ((zap T c.lf).length≤30):=Nat.le_trans (zgb hl1) nT.2
     obtain ⟨bl,ol,sl,cl,hal,hbl2,e0,e1,e2,sm2⟩:=hL p hp
     subst hal
     rw [hpl] at k2
     have hp':(p:Int)<(L.length:Int):=by omega
     have hp0:(0:Int)≤(p:Int):=by omega
     have LK2:Lay y kq [.int .i64 c.id,.int .i64 c.lf,.int .i64 (p:Int),.int .i64 c.k,.int .i64 c.wn,.int .i64 c.th,.int .i64 c.fl,.int .i64 c.ac,.int .i64 c.la,.int .i64 c.og,.int .i64 c.st,.int .i64 c.fr,.bool c.sl,.slice (some ⟨bx,ox,none⟩) c.xs.length sc]:=by rw [←hpl];exact LK
     have byw:Below w.heap.size w y:=nb.trans (byv.mono nb.size)
     have zby:=byw.size
     have yb:Below y.heap.size y y:=Below.refl _ _
     have QMP:Hid (ISmp y.heap.size y sl L[p].2.2):=(sm2.here byw)
     have HS:Hid (∀u,Below y.heap.size y u→u.cell? ⟨w.heap.size,1,none⟩=some (.slice aT T.length cT)∧u.cell? ⟨w.heap.size,2,none⟩=some (.slice aO O.length cO)∧u.cell? ⟨w.heap.size,3,none⟩=some (.slice aP P.length cP)∧u.cell? ⟨w.heap.size,4,none⟩=some (.slice (some ⟨bl,ol,none⟩) L.length cL)∧u.cell? ⟨kq,1,none⟩=some (.int .i64 c.lf)∧u.cell? ⟨kq,2,none⟩=some (.int .i64 (p:Int))∧u.cell? ⟨kq,4,none⟩=some (.int .i64 c.wn)∧u.cell? ⟨kq,6,none⟩=some (.int .i64 c.fl)∧u.cell? ⟨bl,ol+p*3,none⟩=some (.int .i64 L[p].1)∧u.cell? ⟨bl,ol+p*3+1,none⟩=some (.int .i64 L[p].2.1)∧u.cell? ⟨bl,ol+p*3+2,none⟩=some (.slice sl L[p].2.2.length cl)):=fun u hu=>⟨(L0.next (byv.trans (hu.mono byv.size))).cell 1 _ rfl,(L0.next (byv.trans (hu.mono byv.size))).cell 2 _ rfl,(L0.next (byv.trans (hu.mono byv.size))).cell 3 _ rfl,(L0.next (byv.trans (hu.mono byv.size))).cell 4 _ rfl,(LK2.next hu).cell 1 _ rfl,(LK2.next hu).cell 2 _ rfl,(LK2.next hu).cell 4 _ rfl,(LK2.next hu).cell 6 _ rfl,(hu.cell (by show bl<_;omega)).trans ((byw.cell (by exact hbl2)).trans e0),(hu.cell (by show bl<_;omega)).trans ((byw.cell (by exact hbl2)).trans e1),(hu.cell (by show bl<_;omega)).trans ((byw.cell (by exact hbl2)).trans e2)⟩
     clear hx hsg hs s0 hcon pa pb pc pd hfl hwn hw sm hpl e0 e1 e2 sm2 LK hleaf
     clear q0 q1 q2 q3 q4 q5 q6 LW
     have LY:=(L0.next byv)
     obtain ⟨q0,q1,q2,q3,q4,q5,q6⟩:=LY.c7
     go_upto_region 12 with (fail)
     go_cut [82] from 51 to 82 (fun z wd=>∃f:Bool,z=.bool f∧(f=true→c.fl+s≤c.wn∧zax L[p].1 L[p].2.1 s L[p].2.2=true)∧Below v.heap.size v wd)
     case first =>
      clear q0 q1 q2 q3 q4 q5 q6 k0 k1 k2 k3 k4 k5 k6 k7 k8 k9 k10 k11 k12 k13 cs
      by_cases hfit:c.fl+s≤c.wn
      ·have hfd:decide (c.fl+s≤c.wn)=true:=decide_eq_true hfit
       cases hroom:zax L[p].1 L[p].2.1 s L[p].2.2
       ·skip
        refine zce HS (Below.refl _ _).drew fun hS=>?_
        refine zab 0 rfl ?_
        refine zab 1 rfl ?_
        refine zab 2 rfl ?_
        refine zab 3 rfl ?_
        refine zab 4 rfl ?_
        refine zab 5 rfl ?_
        refine zab 6 rfl ?_
        refine zab 7 rfl ?_
        refine zab 8 rfl ?_
        refine zab 9 rfl ?_
        refine zab 10 rfl ?_
        refine zab 11 rfl ?_
        refine zab 12 rfl ?_
        refine zab 13 rfl ?_
        refine zab 14 rfl ?_
        refine zab 15 rfl ?_
        refine zab 16 rfl ?_
        refine zci 17 rfl fun Kr hKr=>?_
        go_simp
        (refine (zg2 cl (QMP.out.here (yb.drew))).mono ?_;rintro e u1 ⟨rfl,hb1⟩;rw [hroom];have hb1:=zbh hb1;have hS1:=HS.out _ hb1)
        refine hKr.out _ _ ‹_› fun _=>?_
        try simp only [nrm]
        refine zab 18 rfl ?_
        refine zab 19 rfl ?_
        refine zas 20 rfl ?_
        refine zas 21 rfl ?_
        refine zas 22 rfl ?_
        refine zas 23 rfl ?_
        refine zas 24 rfl ?_
        refine zas 25 rfl ?_
        refine zas 26 rfl ?_
        refine zas 27 rfl ?_
        refine zas 28 rfl ?_
        refine zas 29 rfl ?_
        refine zas 30 rfl ?_
        refine zab 31 rfl ?_
        refine wpAnyH_done (by kernel_rfl) ?_ _
        repeat go_step
        go_meet
        exact ⟨false,rfl,fun e=>(by cases e),byv.trans (hb1.mono byv.size)⟩
       ·skip
        refine zce HS (Below.refl _ _).drew fun hS=>?_
        refine zab 0 rfl ?_
        refine zab 1 rfl ?_
        refine zab 2 rfl ?_
        refine zab 3 rfl ?_
        refine zab 4 rfl ?_
        refine zab 5 rfl ?_
        refine zab 6 rfl ?_
        refine zab 7 rfl ?_
        refine zab 8 rfl ?_
        refine zab 9 rfl ?_
        refine zab 10 rfl ?_
        refine zab 11 rfl ?_
        refine zab 12 rfl ?_
        refine zab 13 rfl ?_
        refine zab 14 rfl ?_
        refine zab 15 rfl ?_
        refine zab 16 rfl ?_
        refine zci 17 rfl fun Kr hKr=>?_
        go_simp
        (refine (zg2 cl (QMP.out.here (yb.drew))).mono ?_;rintro e u1 ⟨rfl,hb1⟩;rw [hroom];have hb1:=zbh hb1;have hS1:=HS.out _ hb1)
        refine hKr.out _ _ ‹_› fun _=>?_
        try simp only [nrm]
        refine zab 18 rfl ?_
        refine zab 19 rfl ?_
        refine zab 20 rfl ?_
        refine zab 21 rfl ?_
        refine zab 22 rfl ?_
        refine zab 23 rfl ?_
        refine zab 24 rfl ?_
        refine zab 25 rfl ?_
        refine zab 26 rfl ?_
        refine zab 28 rfl ?_
        refine zci 27 rfl fun Kr hKr=>?_
        go_simp
        (refine (zfk cT c.lf (hT.here (byw.trans (hb1.mono zby))) HWL.out nT.2 (by omega) (by omega)).mono ?_;rintro e u2 ⟨ap,np,cp,rfl,ivp,hb2⟩;have nz:=zgm ivp;subst nz;have hb12:=hb1.trans (hb2.mono hb1.size);have hS2:=HS.out _ hb12;have HPI:Hid (ISmp u2.heap.size u2 ap (zap T c.lf)):=(IV.smp2 ivp))
        refine hKr.out _ _ ‹_› fun _=>?_
        try simp only [nrm]
        refine zci 29 rfl fun Kr hKr=>?_
        go_simp
        (refine (zld T.length cT cO cP cp (hO.here (byw.trans (hb12.mono zby))) (hP.here (byw.trans (hb12.mono zby))) HPI.out HOP.out nP.2 HPM.out HPN.out (zi0 HSG.out)).mono ?_;rintro e u3 ⟨rfl,hb3⟩;have hb13:=hb12.trans (hb3.mono hb12.size);have hS3:=HS.out _ hb13)
        refine hKr.out _ _ ‹_› fun _=>?_
        try simp only [nrm]
        refine zab 30 rfl ?_
        refine zab 31 rfl ?_
        refine wpAnyH_done (by kernel_rfl) ?_ _
        repeat go_step
        go_meet
        exact ⟨_,rfl,fun _=>⟨hfit,hroom⟩,byv.trans (hb13.mono byv.size)⟩
      ·have hfd:decide (c.fl+s≤c.wn)=false:=decide_eq_false hfit
       refine zce HS (Below.refl _ _).drew fun hS=>?_
       refine zab 0 rfl ?_
       refine zab 1 rfl ?_
       refine zab 2 rfl ?_
       refine zab 3 rfl ?_
       refine zab 4 rfl ?_
       refine zab 5 rfl ?_
       refine zab 6 rfl ?_
       refine zab 7 rfl ?_
       refine zab 8 rfl ?_
       refine zab 9 rfl ?_
       refine zas 10 rfl ?_
       refine zas 11 rfl ?_
       refine zas 12 rfl ?_
       refine zas 13 rfl ?_
       refine zas 14 rfl ?_
       refine zas 15 rfl ?_
       refine zas 16 rfl ?_
       refine zas 17 rfl ?_
       refine zab 18 rfl ?_
       refine zab 19 rfl ?_
       refine zas 20 rfl ?_
       refine zas 21 rfl ?_
       refine zas 22 rfl ?_
       refine zas 23 rfl ?_
       refine zas 24 rfl ?_
       refine zas 25 rfl ?_
       refine zas 26 rfl ?_
       refine zas 27 rfl ?_
       refine zas 28 rfl ?_
       refine zas 29 rfl ?_
       refine zas 30 rfl ?_
       refine zab 31 rfl ?_
       refine wpAnyH_done (by kernel_rfl) ?_ _
       repeat go_step
       go_meet
       exact ⟨false,rfl,fun e=>(by cases e),byv.trans ((Below.refl _ _).drew.mono byv.size)⟩
     case rest =>
     obtain ⟨f,rfl,hf,hbc⟩:=hcut
     clear q0 q1 q2 q3 q4 q5 q6 k0 k1 k2 k3 k4 k5 k6 k7 k8 k9 k10 k11 k12 k13 cs
     cases f
     ·clear hf
      go_wp2
      go_roundw
      case rel=>exact ⟨m+1,by go_num,by omega,hbc⟩
      case measure=>simp [intOf];omega
     ·obtain ⟨hfit,hroom⟩:=hf rfl
      go_wp2
      go_ret
      refine ⟨.inr ⟨i,rfl,s,hiK,p,hp,?_,?_,?_,hroom⟩,nb.trans (hbc.mono nb.size)⟩
      ·rw [HC.out];exact HXS.out
      ·rw [HC.out];exact HPL.out
      ·rw [HC.out];exact hfit
   ·have hmd:decide ((m:Int)<(K.length:Int))=false:=decide_eq_false (by omega)
    have hml:¬(m:Int)<(K.length:Int):=by omega
    go_wp2
    go_ret
    exact ⟨.inl rfl,nb.trans (hbw.mono nb.size)⟩
def Kn.tl (c:Kn) (ys:List Int):Kn:={ c with xs:=ys }
section
variable {w w':World} {lo hi g cap:Nat} {sT sO sP vL vK:Value} {uL uK:List Value} {T O P:List Q4} {L:List F8} {K:List Kn}
theorem EOwn.capK {i:Nat} (h:EOwn w lo hi sT sO sP vL uL (.slice (some ⟨g,0,none⟩) K.length cap) uK T O P L K) (hi1:i<K.length) {a:Option Addr} {n c:Nat} (hu:uK[i]?=some (.slice a n c)):K[i].xs.length≤c:=by
 obtain ⟨_,ko,hl⟩:=h.ko (by omega)
 have hi2:i<uK.length:=by omega
 obtain ⟨a',c',e,hc,s⟩:=(ko.own i hi1 hi2).smp
 rw [List.getElem?_eq_getElem hi2,e] at hu
 injection hu with hu
 injection hu with _ _ e3
 omega
theorem EOwn.setX {hi' i:Nat} {xs:List Int} {v:Value} (h:EOwn w lo hi sT sO sP vL uL (.slice (some ⟨g,0,none⟩) K.length cap) uK T O P L K) (hi1:i<K.length) (hv:IO w lo hi' v xs) (hn:∀b,elB v=some b→uK[i]?.bind elB=some b∨¬inE sT sO sP vL uL (.slice (some ⟨g,0,none⟩) K.length cap) uK b) (h1:hi≤hi') (h2:hi'≤w.heap.size) (hr:Room w v) :
 EOwn (w.setCells g (i*14+13) [v]) lo hi' sT sO sP vL uL (.slice (some ⟨g,0,none⟩) (K.set i (K[i].tl xs)).length cap) (uK.set i v) T O P L (K.set i (K[i].tl xs)):=by
 obtain ⟨hcap,ko,hl⟩:=h.ko (by omega)
 have hi2:i<uK.length:=by omega
 obtain ⟨c0,c1⟩:=ko.got i hi1 hi2
 have hsome:∀j,j<[v].length→(w.cell? ⟨g,i*14+13+j,none⟩).isSome=true:=fun j hj=>by
  have hj:j<1:=hj
  obtain ⟨⟨z,hz⟩,_⟩:=ko.any (i*14+13+j) (by omega)
  rw [hz]
  rfl
 obtain ⟨s1,s2,s3,s4⟩:=zub [v] hsome
 refine h.putK hi1 s4 (fun j u hu=>?_) (fun j hj=>s2 j (by show j<i*14+13∨i*14+13+1≤j;omega)) (fun j=>s3 _) hv hn h1 h2 hr
 have hj:j<14:=(List.getElem?_eq_some_iff.1 hu).1
 by_cases a:j<13
 ·rw [s2 _ (.inl (by omega))]
  refine c0 j u ?_
  rw [List.getElem?_append_left (by show j<13;exact a)] at hu
  exact hu
 ·have e:j=13:=by omega
  subst e
  have:v=u:=Option.some.inj hu
  rw [←this]
  exact s1 0 v rfl
theorem EOwn.conS {i:Nat} {c:Kn} (h:EOwn w lo hi sT sO sP vL uL (.slice (some ⟨g,0,none⟩) (K.set i c).length cap) uK T O P L (K.set i c)) (hi1:i<K.length):w.cell? ⟨g,i*14,none⟩=some (.int .i64 c.id)∧w.cell? ⟨g,i*14+1,none⟩=some (.int .i64 c.lf)∧w.cell? ⟨g,i*14+2,none⟩=some (.int .i64 c.pl)∧w.cell? ⟨g,i*14+3,none⟩=some (.int .i64 c.k)∧w.cell? ⟨g,i*14+4,none⟩=some (.int .i64 c.wn)∧w.cell? ⟨g,i*14+5,none⟩=some (.int .i64 c.th)∧w.cell? ⟨g,i*14+6,none⟩=some (.int .i64 c.fl)∧w.cell? ⟨g,i*14+7,none⟩=some (.int .i64 c.ac)∧w.cell? ⟨g,i*14+8,none⟩=some (.int .i64 c.la)∧w.cell? ⟨g,i*14+9,none⟩=some (.int .i64 c.og)∧w.cell? ⟨g,i*14+10,none⟩=some (.int .i64 c.st)∧w.cell? ⟨g,i*14+11,none⟩=some (.int .i64 c.fr)∧w.cell? ⟨g,i*14+12,none⟩=some (.bool c.sl):=by
 have hj:i<(K.set i c).length:=by simpa using hi1
 have q:=h.con hj
 rw [zqg hi1 c hj] at q
 exact q
theorem EOwn.frzS {i:Nat} {c:Kn} (h:EOwn w lo hi sT sO sP vL uL (.slice (some ⟨g,0,none⟩) (K.set i c).length cap) uK T O P L (K.set i c)) (hi1:i<K.length):w.frozen? ⟨g,i*14+3,none⟩=false∧w.frozen? ⟨g,i*14+4,none⟩=false∧w.frozen? ⟨g,i*14+5,none⟩=false∧w.frozen? ⟨g,i*14+6,none⟩=false∧w.frozen? ⟨g,i*14+7,none⟩=false∧w.frozen? ⟨g,i*14+8,none⟩=false∧w.frozen? ⟨g,i*14+9,none⟩=false∧w.frozen? ⟨g,i*14+10,none⟩=false∧w.frozen? ⟨g,i*14+11,none⟩=false∧w.frozen? ⟨g,i*14+12,none⟩=false∧w.frozen? ⟨g,i*14+13,none⟩=false :=
 h.frz (by simpa using hi1)
theorem EOwn.grown {i:Nat} {c d:Kn} (h:EOwn w lo hi sT sO sP vL uL (.slice (some ⟨g,0,none⟩) (K.set i c).length cap) uK T O P L (K.set i c)) (hi1:i<K.length) (e1:d.id=c.id) (e2:d.lf=c.lf) (e3:d.pl=c.pl) (e4:d.xs=c.xs) :
 EOwn (w.setCells g (i*14+3) d.ccs) lo hi sT sO sP vL uL (.slice (some ⟨g,0,none⟩) (K.set i d).length cap) uK T O P L (K.set i d):=by
 have hj:i<(K.set i c).length:=by simpa using hi1
 have q:=h.setCc hj d (by rw [zqg hi1 c hj];exact e1) (by rw [zqg hi1 c hj];exact e2) (by rw [zqg hi1 c hj];exact e3) (by rw [zqg hi1 c hj];exact e4)
 rw [List.set_set] at q
 exact q
theorem noE_X {b:Nat} {n n' i:Nat} {v:Value} (hn:¬inE sT sO sP vL uL (.slice (some ⟨g,0,none⟩) n cap) uK b) (hv:elB v≠some b):¬inE sT sO sP vL uL (.slice (some ⟨g,0,none⟩) n' cap) (uK.set i v) b:=fun h=>by
 rcases h with h|h|h
 ·exact hn (.inl h)
 ·exact hn (.inr (.inl h))
 ·rcases zgl (n:=n) h with q|q
  ·exact hn (.inr (.inr q))
  ·exact hv q
theorem noE_P {b:Nat} {n n' m m' g2 cap2 i:Nat} {v:Value} (hn:¬inE sT sO sP (.slice (some ⟨g,0,none⟩) n cap) uL (.slice (some ⟨g2,0,none⟩) m cap2) uK b) (hv:elB v≠some b):¬inE sT sO sP (.slice (some ⟨g,0,none⟩) n' cap) (uL.set i v) (.slice (some ⟨g2,0,none⟩) m' cap2) uK b:=fun h=>by
 rcases h with h|h|h
 ·exact hn (.inl h)
 ·rcases zgl (n:=n) h with q|q
  ·exact hn (.inr (.inl q))
  ·exact hv q
 ·exact hn (.inr (.inr h))
theorem noE_L {b:Nat} {sT' sO' sP':Value} (hn:¬inE sT sO sP vL uL vK uK b) (hl:¬inL sT' sO' sP' b):¬inE sT' sO' sP' vL uL vK uK b:=fun h=>by
 rcases h with h|h
 ·exact hl h
 ·exact hn (.inr h)
end
def GPost (w:World) (T:List Q4) (K:List Kn) (e:Ending) (w':World):Prop:=∃(E:EgR) (f g:Int),e=.returned (.tuple #[zcp E.now E.aT E.T.length E.cT E.aO E.O.length E.cO E.aP E.P.length E.cP E.aL E.L.length E.cL E.aK E.K.length E.cK E.nx,.int .i64 f,.int .i64 g])∧E.own w' w.heap.size w'.heap.size∧E.ok∧E.T=T∧(K≠[]→E.K≠[])∧Below w.heap.size w w'
theorem zqn {w:World} (now nx:Int) {aT aO aP aL aK:Option Addr} (cT cO cP cL cK:Nat) {T O P:List Q4} {L:List F8} {K:List Kn} (hT:Quad w.heap.size w aT T) (hO:Quad w.heap.size w aO O) (hP:Quad w.heap.size w aP P) (hL:Fls w.heap.size w aL L) (hK:Kls w.heap.size w aK K) (h:EgOk now nx T O P L K):Calls Tryz.prog 172 #[zcp now aT T.length cT aO O.length cO aP P.length cP aL L.length cL aK K.length cK nx] w fun e w'=>∃x:Int,e=.returned (.int .i64 x)∧(x = -1∨∃(k:Nat) (s:Int),x=(k:Int)∧GrOk L K k s)∧Below w.heap.size w w' :=
 (zqm now nx cT cO cP cL cK hT hO hP hL hK h).mono fun e w' q=>by
  rcases q with ⟨q|⟨k,s,e1,e2⟩,hb⟩
  ·exact ⟨-1,q,.inl rfl,hb⟩
  ·exact ⟨k,e1,.inr ⟨k,s,rfl,e2⟩,hb⟩
theorem zod {w:World} (now nx:Int) {aT aO aP aL aK:Option Addr} (cT cO cP cL cK:Nat) {T O P:List Q4} {L:List F8} {K:List Kn} (hT:Quad w.heap.size w aT T) (hO:Quad w.heap.size w aO O) (hP:Quad w.heap.size w aP P) (hL:Fls w.heap.size w aL L) (hK:Kls w.heap.size w aK K) (h:EgOk now nx T O P L K) (mT:T.length≤1048576) (mL:L.length≤1048576) (sL:∀f ∈ L,f.2.2.length≤1048576) (mK:K.length≤1048576) (sK:∀c ∈ K,c.xs.length≤1048576):Calls Tryz.prog 143 #[zcp now aT T.length cT aO O.length cO aP P.length cP aL L.length cL aK K.length cK nx] w (GPost w T K):=by
 obtain ⟨nT,nO,nP⟩:=zcb h
 have l0:=h.l0
 have HEG:Hid (EgOk now nx T O P L K):=h
 clear h
 obtain ⟨v,hv,nb,L0,L1⟩:=ziw w 31 [.int .i64 now,.slice aT T.length cT,.slice aO O.length cO,.slice aP P.length cP,.slice aL L.length cL,.slice aK K.length cK,.int .i64 nx]
 have hw1:=L1.lt
 go_enter Tryz.func143,Tryz.ntmps143
 go_upto_region 1 with (fail)
 rw [←hv]
 clear hv
 obtain ⟨q0,q1,q2,q3,q4,q5,q6⟩:=Lay.c7 (b:=w.heap.size) L0
 go_upto_region 3 with (first|(go_at_call 172;refine (zqn now nx cT cO cP cL cK (hT.here nb) (hO.here nb) (hP.here nb) (hL.here nb) (hK.here nb) HEG.out).mono ?_;rintro e v2 ⟨x0,rfl,hx0,hb2⟩;have HX:Hid (x0 = -1∨∃(k:Nat) (s:Int),x0=(k:Int)∧GrOk L K k s):=hx0;clear hx0;have b2:=zaa nb hb2;have M0:=L0.next hb2;have M1:=L1.next hb2;clear q0 q1 q2 q3 q4 q5 q6;obtain ⟨q0,q1,q2,q3,q4,q5,q6⟩:=Lay.c7 (b:=w.heap.size) M0)|(go_at_call 52;refine (zct now nx cT cO cP cL cK (hT.here b2) (hO.here b2) (hP.here b2) (hL.here b2) (hK.here b2) nT nO nP mL sL mK sK).mono ?_;rintro e u1 ⟨bT,dT,bO,dO,bP,dP,bL,dL,bK,dK,GK,lh,ph,rfl,lv,lb,tv,ck,hz,hb1⟩))
 rcases HX.out with hx|⟨i,s,hx,hgr⟩
 ·subst hx
  obtain ⟨x,hx,LX,bx⟩:=ze8 u1 31 [.int .i64 now,.slice bT T.length dT,.slice bO O.length dO,.slice bP P.length dP,.slice bL L.length dL,.slice bK K.length dK,.int .i64 nx]
  rw [←hx]
  clear hx q0 q1 q2 q3 q4 q5 q6
  have X1:=(M1.next hb1).next bx
  have z1:=hb1.size
  have zx:=bx.size
  have zb:=b2.size
  have z2:=hb2.size
  have hlx:=LX.lt
  have hn1:=M1.lt
  have bwx:Below w.heap.size w x:=zaa (zaa b2 hb1) bx
  obtain ⟨j0,j1,j2,j3,j4,j5,j6⟩:=LX.c7
  obtain ⟨d0,d1,d2,d3,d4,d5,d6⟩:=X1.c7
  have df:=X1.free
  go_wp2
  obtain ⟨u,hu',ou,U⟩:=st7 (b:=w.heap.size+1) X1 (.int .i64 now) (.slice bT T.length dT) (.slice bO O.length dO) (.slice bP P.length dP) (.slice bL L.length dL) (.slice bK K.length dK) (.int .i64 nx)
  rw [hu']
  clear hu'
  have zu:=ou.size
  refine bodyPost_ret (zhp rfl _ _ _ _ rfl U.cell Tryz.underlying31 rfl (by kernel_rfl)) rfl ?_
  exact ⟨⟨now,nx,bT,bO,bP,bL,bK,dT,dO,dP,dL,dK,T,O,P,L,K⟩,-1,0,rfl,zqc (lv.next bx) lb (tv.next bx) (ck.next bx) ⟨hz.1,hz.2.1,by have:=hz.2.2;omega⟩ ou (by omega) (by omega),HEG.out,rfl,fun q=>q,bwx.trans (ou.below (by omega) bwx.size)⟩
 ·subst hx
  obtain ⟨hi,p,hp,hx1,hpl,hfit,hroom⟩:=hgr
  have hkl:=(HEG.out.con i hi)
  obtain ⟨pa,pb,pc,pd⟩:=zg4 hkl
  have hl0:0<K[i].xs.length:=by
   rcases Nat.eq_zero_or_pos K[i].xs.length with q|q
   ·rw [List.getElem?_eq_none (by omega)] at hx1;cases hx1
   ·exact q
  have hs0:K[i].xs[0]=s:=by rw [List.getElem?_eq_getElem hl0] at hx1;exact Option.some.inj hx1
  have hsg:zfo s=true:=by rw [List.all_eq_true] at pd;rw [←hs0];exact pd _ (List.getElem_mem hl0)
  have HSG:Hid (zfo s=true):=hsg
  have HGR:Hid (EgOk now (K[i].id+1) T (zg0 T O P K[i].lf now s) (zg1 T O P K[i].lf now s) (L.set p (L[p].1,L[p].2.1+s,L[p].2.2)) (K.set i (K[i].gr s))):=zzh HEG.out hi hpl hp hsg hfit hroom
  obtain ⟨YO,hYO⟩:∃Y,zg0 T O P K[i].lf now s=Y:=⟨_,rfl⟩
  obtain ⟨YP,hYP⟩:∃Y,zg1 T O P K[i].lf now s=Y:=⟨_,rfl⟩
  have HSO:Hid (zg0 T O P K[i].lf now s=YO):=hYO
  have HSQ:Hid (zg1 T O P K[i].lf now s=YP):=hYP
  have HST:Hid (zws T O P K[i].lf now s=T):=if_pos (zxq HEG.out hi hsg)
  rw [hYO,hYP] at HGR
  have HCC:Hid (ccB K[i].k K[i].wn K[i].th K[i].fl K[i].ac K[i].la K[i].og K[i].st K[i].fr=true):=pa
  have HFT:Hid (K[i].fl+s≤K[i].wn):=hfit
  have HPL:Hid (K[i].pl=(p:Int)):=hpl
  have HRB:Hid (zax L[p].1 L[p].2.1 s L[p].2.2=true):=hroom
  obtain ⟨ys,hys⟩:∃ys,K[i].xs.drop 1=ys:=⟨_,rfl⟩
  have HYS:Hid (K[i].xs.drop 1=ys):=hys
  have hyl:ys.length=K[i].xs.length-1:=by rw [←hys,List.length_drop]
  have HYL:Hid (ys.length=K[i].xs.length-1∧K[i].xs.length≤100):=⟨hyl,pc⟩
  have HTL:Hid (∀d:Kn,(K[i].tl ys).id=K[i].id∧(K[i].gr s).xs=(K[i].tl ys).xs):=fun _=>⟨rfl,hys⟩
  have hid:0≤K[i].id∧K[i].id≤1000000:=by
   unfold zei inQ at hkl
   simp only [Bool.and_eq_true,decide_eq_true_eq] at hkl
   exact hkl.1.1.1.1.1.1.1
  have hwid:IntKind.i64.wrap (K[i].id+1)=K[i].id+1:=by rw [IntKind.wrap_i64];omega
  have hi0:¬((i:Int)<0):=by omega
  have hi00:(0:Int)≤(i:Int):=by omega
  have hi':(i:Int)<(K.length:Int):=by omega
  have hp':(p:Int)<(L.length:Int):=by omega
  have hp0:(0:Int)≤(p:Int):=by omega
  have hx0':(0:Int)<(K[i].xs.length:Int):=by omega
  obtain ⟨i0,hinf,hz0,hz1,hz2⟩:=info_parts zep
  clear hkl pa pb pc pd hx1 hsg hYO hYP hys hid hpl hfit hroom
  obtain ⟨uL,uK,eo⟩:=zqd lv lb tv ck hz
  obtain ⟨gl,hgl,hgl0,hgl1,hgl2⟩:=eo.atL (by omega)
  obtain ⟨gk,hgk,hgk0,hgk1,hgk2⟩:=eo.atK (by omega)
  subst hgl hgk
  have HE:Hid (EOwn u1 v2.heap.size u1.heap.size (.slice bT T.length dT) (.slice bO O.length dO) (.slice bP P.length dP) (.slice (some ⟨gl,0,none⟩) L.length dL) uL (.slice (some ⟨gk,0,none⟩) K.length dK) uK T O P L K):=eo
  clear eo lv lb tv ck
  obtain ⟨x,hx,LX,bx⟩:=ze8 u1 31 [.int .i64 now,.slice bT T.length dT,.slice bO O.length dO,.slice bP P.length dP,.slice (some ⟨gl,0,none⟩) L.length dL,.slice (some ⟨gk,0,none⟩) K.length dK,.int .i64 nx]
  rw [←hx]
  clear hx q0 q1 q2 q3 q4 q5 q6
  have X1:=(M1.next hb1).next bx
  have z1:=hb1.size
  have zx:=bx.size
  have zb:=b2.size
  have z2:=hb2.size
  have hlx:=LX.lt
  have hn1:=M1.lt
  have bwx:Below w.heap.size w x:=zaa (zaa b2 hb1) bx
  obtain ⟨j0,j1,j2,j3,j4,j5,j6⟩:=LX.c7
  have EX:Hid (EOwn x v2.heap.size u1.heap.size (.slice bT T.length dT) (.slice bO O.length dO) (.slice bP P.length dP) (.slice (some ⟨gl,0,none⟩) (L).length dL) (uL) (.slice (some ⟨gk,0,none⟩) (K).length dK) (uK) T O P (L) (K)):=HE.out.next bx
  obtain ⟨k0,k1,k2,k3,k4,k5,k6,k7,k8,k9,k10,k11,k12⟩:=EX.out.con hi
  obtain ⟨sa,sc,k13,ku,ksm⟩:=EX.out.con13 hi
  have hcap:=EX.out.capK hi ku
  obtain ⟨bs,os,hsa,hbs,s0⟩:=ksm 0 hl0
  subst hsa
  rw [hs0,Nat.add_zero] at s0
  obtain ⟨ua,hua⟩:∃ua,(if sc=1 then some ⟨bs,os,none⟩ else (some (⟨bs,os,none⟩:Addr)).map (·.add 1))=ua:=⟨_,rfl⟩
  have hsl:∀w,(Instr.sliceAt 45 (.slice (some ⟨bs,os,none⟩) K[i].xs.length sc) (some (.int .i64 1)) none none).run Tryz.prog w=.ok (.slice ua ys.length (sc-1)) w:=fun w=>by
   have q:=zm9 (a:=some ⟨bs,os,none⟩) (n:=K[i].xs.length) (cap:=sc) (k:=1) (by omega) w
   rw [hua,←hyl] at q
   exact q
  have HSM:Hid (ISmp x.heap.size (x.alloc (.cells #[] 2)) ua ys):=by
   have q:=ztm ksm (k:=1) (by omega) hcap
   rw [hua,HYS.out] at q
   exact q.mono (zac x _)
  have NE0:Hid (¬inE (.slice bT T.length dT) (.slice bO O.length dO) (.slice bP P.length dP) (.slice (some ⟨gl,0,none⟩) (L).length dL) (uL) (.slice (some ⟨gk,0,none⟩) (K).length dK) (uK) u1.heap.size):=fun hb=>by have:=EX.out.bd hb;omega
  clear ku hua hcap ksm hs0 hyl
  go_upto_region 7 with (fail)
  clear k0 k1 k2 k3 k4 k5 k6 k7 k8 k9 k10 k11 k12
  have hgne:¬(gk=x.heap.size):=by omega
  have k13a:(x.alloc (.cells #[] 2)).cell? ⟨gk,i*14+13,none⟩=some (.slice (some ⟨bs,os,none⟩) K[i].xs.length sc):=((zac x _).cell (p:=⟨gk,i*14+13,none⟩) (by show gk<_;omega)).trans k13
  go_upto_region 8 with (first|(at_builtin;refine zdt (by rfl) _ _ 45 rfl x.heap.size 2 i0 _ Tryz.underlying45 hinf hz0 hz1 hz2 rfl _ rfl (zea x _ _ rfl (Nat.le_refl _) _) ua (sc-1) x.heap.size ys rfl HSM.out (by have:=HYL.out;omega) (by simp) ?_;intro v' w3 own3 gr3 hzz;have HZC:Hid (ys.length=0→∃a,v'=.slice a 0 0):=(fun e=>⟨_,hzz (List.eq_nil_of_length_eq_zero e)⟩);clear hzz;have hb3:Below x.heap.size x w3:=((Below.refl _ x).alloc (Nat.le_refl _) _).grown gr3 (by simp) (fun k hk=>Nat.le_of_eq (Option.some.inj hk));obtain ⟨va,ca,rfl⟩:=zay own3;have E3:Hid (EOwn w3 v2.heap.size u1.heap.size (.slice bT T.length dT) (.slice bO O.length dO) (.slice bP P.length dP) (.slice (some ⟨gl,0,none⟩) (L).length dL) (uL) (.slice (some ⟨gk,0,none⟩) (K).length dK) (uK) T O P (L) (K)):=EX.out.next hb3;obtain ⟨k0,k1,k2,k3,k4,k5,k6,k7,k8,k9,k10,k11,k12⟩:=E3.out.con hi;obtain ⟨f3,f4,f5,f6,f7,f8,f9,f10,f11,f12,f13⟩:=E3.out.frz hi;obtain ⟨sa',sc',k13,ku',ksm'⟩:=E3.out.con13 hi))
  clear hgne k13a
  obtain ⟨y3,hy3⟩:∃y,y=w3.setCells gk (i*14+13) [.slice va ys.length ca]:=⟨_,rfl⟩
  have hy':w3.setCell ⟨gk,i*14+13,none⟩ (.slice va ys.length ca)=y3:=hy3.symm
  rw [hy']
  clear hy' hsl k0 k1 k2 k3 k4 k5 k6 k7 k8 k9 k10 k11 k12 f3 f4 f5 f6 f7 f8 f9 f10 f11 f12 f13 k13 ku' ksm' s0 hz0 hz1 hz2 hinf
  have oy3:Only gk w3 y3:=by rw [hy3];exact zba _ _ _
  have z3:=hb3.size
  have ioA:IO w3 v2.heap.size w3.heap.size (.slice va ys.length ca) ys:=(zdc own3).io.wider (by omega) (Nat.le_refl _)
  have ioB:∀b,elB (.slice va ys.length ca)=some b→x.heap.size≤b:=fun b hb=>((zdc own3).io.el hb).1
  have ey:=E3.out.setX hi ioA (fun b hb=>.inr (fun hn=>by have:=ioB b hb;have:=E3.out.bd hn;omega)) (by omega) (Nat.le_refl _) (zns own3 HZC.out)
  rw [←hy3] at ey
  have EY:Hid (EOwn y3 v2.heap.size w3.heap.size (.slice bT T.length dT) (.slice bO O.length dO) (.slice bP P.length dP) (.slice (some ⟨gl,0,none⟩) (L).length dL) (uL) (.slice (some ⟨gk,0,none⟩) (K.set i (K[i].tl ys)).length dK) (uK.set i (.slice va ys.length ca)) T O P (L) (K.set i (K[i].tl ys))):=ey
  have NE1:Hid (¬inE (.slice bT T.length dT) (.slice bO O.length dO) (.slice bP P.length dP) (.slice (some ⟨gl,0,none⟩) (L).length dL) (uL) (.slice (some ⟨gk,0,none⟩) (K.set i (K[i].tl ys)).length dK) (uK.set i (.slice va ys.length ca)) u1.heap.size):=noE_X NE0.out (fun e=>by have:=ioB _ e;omega)
  have zy3:=oy3.size
  have LY:=(LX.next hb3).only oy3 (by omega)
  have XY:=(X1.next hb3).only oy3 (by omega)
  have bwy:Below w.heap.size w y3:=(bwx.trans (hb3.mono (by omega))).trans (oy3.below (by omega) (by omega))
  clear ey hy3 ioA ioB j0 j1 j2 j3 j4 j5 j6 gr3
  obtain ⟨j0,j1,j2,j3,j4,j5,j6⟩:=LY.c7
  obtain ⟨k0,k1,k2,k3,k4,k5,k6,k7,k8,k9,k10,k11,k12⟩:y3.cell? ⟨gk,i*14,none⟩=some (.int .i64 K[i].id)∧y3.cell? ⟨gk,i*14+1,none⟩=some (.int .i64 K[i].lf)∧y3.cell? ⟨gk,i*14+2,none⟩=some (.int .i64 K[i].pl)∧y3.cell? ⟨gk,i*14+3,none⟩=some (.int .i64 K[i].k)∧y3.cell? ⟨gk,i*14+4,none⟩=some (.int .i64 K[i].wn)∧y3.cell? ⟨gk,i*14+5,none⟩=some (.int .i64 K[i].th)∧y3.cell? ⟨gk,i*14+6,none⟩=some (.int .i64 K[i].fl)∧y3.cell? ⟨gk,i*14+7,none⟩=some (.int .i64 K[i].ac)∧y3.cell? ⟨gk,i*14+8,none⟩=some (.int .i64 K[i].la)∧y3.cell? ⟨gk,i*14+9,none⟩=some (.int .i64 K[i].og)∧y3.cell? ⟨gk,i*14+10,none⟩=some (.int .i64 K[i].st)∧y3.cell? ⟨gk,i*14+11,none⟩=some (.int .i64 K[i].fr)∧y3.cell? ⟨gk,i*14+12,none⟩=some (.bool K[i].sl):=EY.out.conS hi
  obtain ⟨f3,f4,f5,f6,f7,f8,f9,f10,f11,f12,f13⟩:=EY.out.frzS hi
  go_upto_region 9 with (first|(go_at_call 173;refine (zo6 _ _ HCC.out HSG.out HFT.out).mono ?_;rintro e u4 ⟨rfl,hb4⟩;have E4:Hid (EOwn u4 v2.heap.size w3.heap.size (.slice bT T.length dT) (.slice bO O.length dO) (.slice bP P.length dP) (.slice (some ⟨gl,0,none⟩) (L).length dL) (uL) (.slice (some ⟨gk,0,none⟩) (K.set i (K[i].tl ys)).length dK) (uK.set i (.slice va ys.length ca)) T O P (L) (K.set i (K[i].tl ys))):=EY.out.next hb4;obtain ⟨k0,k1,k2,k3,k4,k5,k6,k7,k8,k9,k10,k11,k12⟩:u4.cell? ⟨gk,i*14,none⟩=some (.int .i64 K[i].id)∧u4.cell? ⟨gk,i*14+1,none⟩=some (.int .i64 K[i].lf)∧u4.cell? ⟨gk,i*14+2,none⟩=some (.int .i64 K[i].pl)∧u4.cell? ⟨gk,i*14+3,none⟩=some (.int .i64 K[i].k)∧u4.cell? ⟨gk,i*14+4,none⟩=some (.int .i64 K[i].wn)∧u4.cell? ⟨gk,i*14+5,none⟩=some (.int .i64 K[i].th)∧u4.cell? ⟨gk,i*14+6,none⟩=some (.int .i64 K[i].fl)∧u4.cell? ⟨gk,i*14+7,none⟩=some (.int .i64 K[i].ac)∧u4.cell? ⟨gk,i*14+8,none⟩=some (.int .i64 K[i].la)∧u4.cell? ⟨gk,i*14+9,none⟩=some (.int .i64 K[i].og)∧u4.cell? ⟨gk,i*14+10,none⟩=some (.int .i64 K[i].st)∧u4.cell? ⟨gk,i*14+11,none⟩=some (.int .i64 K[i].fr)∧u4.cell? ⟨gk,i*14+12,none⟩=some (.bool K[i].sl):=E4.out.conS hi;obtain ⟨f3,f4,f5,f6,f7,f8,f9,f10,f11,f12,f13⟩:=E4.out.frzS hi))
  obtain ⟨y4,hy4⟩:∃y,y=u4.setCells gk (i*14+3) (K[i].gr s).ccs:=⟨_,rfl⟩
  have hy':((((((((((u4.setCell ⟨gk,i*14+3,none⟩ (.int .i64 K[i].k)).setCell ⟨gk,i*14+4,none⟩ (.int .i64 K[i].wn)).setCell ⟨gk,i*14+5,none⟩ (.int .i64 K[i].th)).setCell ⟨gk,i*14+6,none⟩ (.int .i64 (K[i].fl+s))).setCell ⟨gk,i*14+7,none⟩ (.int .i64 K[i].ac)).setCell ⟨gk,i*14+8,none⟩ (.int .i64 K[i].la)).setCell ⟨gk,i*14+9,none⟩ (.int .i64 K[i].og)).setCell ⟨gk,i*14+10,none⟩ (.int .i64 K[i].st)).setCell ⟨gk,i*14+11,none⟩ (.int .i64 K[i].fr)).setCell ⟨gk,i*14+12,none⟩ (.bool K[i].sl))=y4:=hy4.symm
  rw [hy']
  clear hy' k0 k1 k2 k3 k4 k5 k6 k7 k8 k9 k10 k11 k12 f3 f4 f5 f6 f7 f8 f9 f10 f11 f12 f13
  have oy4:Only gk u4 y4:=by rw [hy4];exact zba _ _ _
  have z4:=hb4.size
  have ez:=E4.out.grown hi (d:=K[i].gr s) rfl rfl rfl HYS.out
  rw [←hy4] at ez
  have EZ:Hid (EOwn y4 v2.heap.size w3.heap.size (.slice bT T.length dT) (.slice bO O.length dO) (.slice bP P.length dP) (.slice (some ⟨gl,0,none⟩) (L).length dL) (uL) (.slice (some ⟨gk,0,none⟩) (K.set i (K[i].gr s)).length dK) (uK.set i (.slice va ys.length ca)) T O P (L) (K.set i (K[i].gr s))):=ez
  have NE2:Hid (¬inE (.slice bT T.length dT) (.slice bO O.length dO) (.slice bP P.length dP) (.slice (some ⟨gl,0,none⟩) (L).length dL) (uL) (.slice (some ⟨gk,0,none⟩) (K.set i (K[i].gr s)).length dK) (uK.set i (.slice va ys.length ca)) u1.heap.size):=NE1.out
  have zy4:=oy4.size
  have LZ:=(LY.next hb4).only oy4 (by omega)
  have XZ:=(XY.next hb4).only oy4 (by omega)
  have bwz:Below w.heap.size w y4:=(bwy.trans (hb4.mono (by omega))).trans (oy4.below (by omega) (by omega))
  clear ez hy4 j0 j1 j2 j3 j4 j5 j6
  obtain ⟨k0,k1,k2,k3,k4,k5,k6,k7,k8,k9,k10,k11,k12⟩:y4.cell? ⟨gk,i*14,none⟩=some (.int .i64 K[i].id)∧y4.cell? ⟨gk,i*14+1,none⟩=some (.int .i64 K[i].lf)∧y4.cell? ⟨gk,i*14+2,none⟩=some (.int .i64 K[i].pl)∧y4.cell? ⟨gk,i*14+3,none⟩=some (.int .i64 K[i].k)∧y4.cell? ⟨gk,i*14+4,none⟩=some (.int .i64 K[i].wn)∧y4.cell? ⟨gk,i*14+5,none⟩=some (.int .i64 K[i].th)∧y4.cell? ⟨gk,i*14+6,none⟩=some (.int .i64 (K[i].fl+s))∧y4.cell? ⟨gk,i*14+7,none⟩=some (.int .i64 K[i].ac)∧y4.cell? ⟨gk,i*14+8,none⟩=some (.int .i64 K[i].la)∧y4.cell? ⟨gk,i*14+9,none⟩=some (.int .i64 K[i].og)∧y4.cell? ⟨gk,i*14+10,none⟩=some (.int .i64 K[i].st)∧y4.cell? ⟨gk,i*14+11,none⟩=some (.int .i64 K[i].fr)∧y4.cell? ⟨gk,i*14+12,none⟩=some (.bool K[i].sl):=EZ.out.conS hi
  obtain ⟨q0,q1,qf,sp,cp,q2,qu,qsm⟩:=EZ.out.plc hp
  have HSP:Hid (ISmp y4.heap.size y4 sp L[p].2.2):=qsm
  rw [HPL.out] at k2
  have HS9:Hid (∀u,Below y4.heap.size y4 u→u.cell? ⟨u1.heap.size,4,none⟩=some (.slice (some ⟨gl,0,none⟩) L.length dL)∧u.cell? ⟨gk,i*14+2,none⟩=some (.int .i64 (p:Int))∧u.cell? ⟨gl,p*3,none⟩=some (.int .i64 L[p].1)∧u.cell? ⟨gl,p*3+1,none⟩=some (.int .i64 L[p].2.1)∧u.cell? ⟨gl,p*3+2,none⟩=some (.slice sp L[p].2.2.length cp)):=fun u hu=>⟨(LZ.next hu).cell 4 _ rfl,(hu.cell (by show gk<_;omega)).trans k2,(hu.cell (by show gl<_;omega)).trans q0,(hu.cell (by show gl<_;omega)).trans q1,(hu.cell (by show gl<_;omega)).trans q2⟩
  clear q0 q1 q2 qf qu qsm k0 k1 k2 k3 k4 k5 k6 k7 k8 k9 k10 k11 k12
  refine zzn 20 HS9 (Below.refl _ _).drew fun hS=>?_
  refine za6 0 rfl ?_
  try simp only [nrm]
  refine zeh 1 rfl ?_
  try simp only [nrm]
  refine za6 2 rfl ?_
  try simp only [nrm]
  refine za6 3 rfl ?_
  try simp only [nrm]
  refine za6 4 rfl ?_
  try simp only [nrm]
  refine zeh 5 rfl ?_
  try simp only [nrm]
  refine za6 6 rfl ?_
  try simp only [nrm]
  refine zeh 7 rfl ?_
  try simp only [nrm]
  refine za6 8 rfl ?_
  try simp only [nrm]
  refine za6 9 rfl ?_
  try simp only [nrm]
  refine za6 10 rfl ?_
  try simp only [nrm]
  refine zeh 11 rfl ?_
  try simp only [nrm]
  refine za6 12 rfl ?_
  try simp only [nrm]
  refine zeh 13 rfl ?_
  try simp only [nrm]
  refine za6 14 rfl ?_
  try simp only [nrm]
  refine zev 15 rfl fun Kr hKr=>?_
  go_simp
  (refine (znz cp HRB.out (HSP.out.here (Below.refl _ _).drew)).mono ?_;rintro e u5 ⟨vb,nv,cb,rfl,iv5,hb5⟩;have nz:=zgm iv5;subst nz;have iv5:IV u5 y4.heap.size (.slice vb L[p].2.2.length cb) L[p].2.2:=iv5;have hb5:=zbh hb5;have hS5:=HS9.out _ hb5;have E5:Hid (EOwn u5 v2.heap.size w3.heap.size (.slice bT T.length dT) (.slice bO O.length dO) (.slice bP P.length dP) (.slice (some ⟨gl,0,none⟩) (L).length dL) (uL) (.slice (some ⟨gk,0,none⟩) (K.set i (K[i].gr s)).length dK) (uK.set i (.slice va ys.length ca)) T O P (L) (K.set i (K[i].gr s))):=EZ.out.next hb5;obtain ⟨p0,p1,⟨pf0,pf1,pf2⟩,sb,sd,p2,pu,psm⟩:=E5.out.plc hp)
  refine hKr.out _ _ ‹_› fun _=>?_
  try simp only [nrm]
  refine za6 16 rfl ?_
  try simp only [nrm]
  refine za6 17 rfl ?_
  try simp only [nrm]
  refine za6 18 rfl ?_
  try simp only [nrm]
  refine za6 19 rfl ?_
  try simp only [nrm]
  refine zku rfl fun Kr hKr=>?_
  go_simp
  refine hKr.out _ _ ?_
  try simp only [nrm]
  obtain ⟨y5,hy5⟩:∃z,z=u5.setCells gl (p*3) [.int .i64 L[p].1,.int .i64 (L[p].2.1+s),.slice vb L[p].2.2.length cb]:=⟨_,rfl⟩
  have hz':((u5.setCell ⟨gl,p*3,none⟩ (.int .i64 L[p].1)).setCell ⟨gl,p*3+1,none⟩ (.int .i64 (L[p].2.1+s))).setCell ⟨gl,p*3+2,none⟩ (.slice vb L[p].2.2.length cb)=y5:=hy5.symm
  rw [hz']
  clear hz' p0 p1 pf0 pf1 pf2 p2 pu psm
  have z5:=hb5.size
  have ioB:∀b,elB (.slice vb L[p].2.2.length cb)=some b→y4.heap.size≤b:=fun b hb=>(iv5.io.el hb).1
  have ex:=E5.out.setP (hi':=u5.heap.size) (q:=L[p].1) (d:=L[p].2.1+s) hp (iv5.io.wider (by omega) (Nat.le_refl _)) (fun b hb=>.inr (fun hn=>by have:=ioB b hb;have:=E5.out.bd hn;omega)) (by omega) (Nat.le_refl _)
  rw [←hy5] at ex
  have EV:Hid (EOwn y5 v2.heap.size u5.heap.size (.slice bT T.length dT) (.slice bO O.length dO) (.slice bP P.length dP) (.slice (some ⟨gl,0,none⟩) (L.set p (L[p].1,L[p].2.1+s,L[p].2.2)).length dL) (uL.set p (.slice vb L[p].2.2.length cb)) (.slice (some ⟨gk,0,none⟩) (K.set i (K[i].gr s)).length dK) (uK.set i (.slice va ys.length ca)) T O P (L.set p (L[p].1,L[p].2.1+s,L[p].2.2)) (K.set i (K[i].gr s))):=ex
  have NE3:Hid (¬inE (.slice bT T.length dT) (.slice bO O.length dO) (.slice bP P.length dP) (.slice (some ⟨gl,0,none⟩) (L.set p (L[p].1,L[p].2.1+s,L[p].2.2)).length dL) (uL.set p (.slice vb L[p].2.2.length cb)) (.slice (some ⟨gk,0,none⟩) (K.set i (K[i].gr s)).length dK) (uK.set i (.slice va ys.length ca)) u1.heap.size):=noE_P NE2.out (fun e=>by have:=ioB _ e;omega)
  have oy5:Only gl u5 y5:=by rw [hy5];exact zba _ _ _
  have zy5:=oy5.size
  have LY5:=(LZ.next hb5).only oy5 (by omega)
  have X5:=(XZ.next hb5).only oy5 (by omega)
  have bw5:Below w.heap.size w y5:=(bwz.trans (hb5.mono (by omega))).trans (oy5.below (by omega) (by omega))
  clear ex hy5 ioB
  obtain ⟨k0,k1,k2,k3,k4,k5,k6,k7,k8,k9,k10,k11,k12⟩:y5.cell? ⟨gk,i*14,none⟩=some (.int .i64 K[i].id)∧y5.cell? ⟨gk,i*14+1,none⟩=some (.int .i64 K[i].lf)∧y5.cell? ⟨gk,i*14+2,none⟩=some (.int .i64 K[i].pl)∧y5.cell? ⟨gk,i*14+3,none⟩=some (.int .i64 K[i].k)∧y5.cell? ⟨gk,i*14+4,none⟩=some (.int .i64 K[i].wn)∧y5.cell? ⟨gk,i*14+5,none⟩=some (.int .i64 K[i].th)∧y5.cell? ⟨gk,i*14+6,none⟩=some (.int .i64 (K[i].fl+s))∧y5.cell? ⟨gk,i*14+7,none⟩=some (.int .i64 K[i].ac)∧y5.cell? ⟨gk,i*14+8,none⟩=some (.int .i64 K[i].la)∧y5.cell? ⟨gk,i*14+9,none⟩=some (.int .i64 K[i].og)∧y5.cell? ⟨gk,i*14+10,none⟩=some (.int .i64 K[i].st)∧y5.cell? ⟨gk,i*14+11,none⟩=some (.int .i64 K[i].fr)∧y5.cell? ⟨gk,i*14+12,none⟩=some (.bool K[i].sl):=EV.out.conS hi
  have HQT:Hid (Quad y5.heap.size y5 bT T):=(EV.out.l.t.quad).2
  have HQO:Hid (Quad y5.heap.size y5 bO O):=(EV.out.l.o.quad).2
  have HQP:Hid (Quad y5.heap.size y5 bP P):=(EV.out.l.p.quad).2
  have HS10:Hid (∀u,Below y5.heap.size y5 u→u.cell? ⟨u1.heap.size,0,none⟩=some (.int .i64 now)∧u.cell? ⟨u1.heap.size,1,none⟩=some (.slice bT T.length dT)∧u.cell? ⟨u1.heap.size,2,none⟩=some (.slice bO O.length dO)∧u.cell? ⟨u1.heap.size,3,none⟩=some (.slice bP P.length dP)∧u.cell? ⟨gk,i*14+1,none⟩=some (.int .i64 K[i].lf)):=fun u hu=>⟨(LY5.next hu).cell 0 _ rfl,(LY5.next hu).cell 1 _ rfl,(LY5.next hu).cell 2 _ rfl,(LY5.next hu).cell 3 _ rfl,(hu.cell (by show gk<_;omega)).trans k1⟩
  clear k0 k1 k2 k3 k4 k5 k6 k7 k8 k9 k10 k11 k12
  go_upto_region 10 with (fail)
  refine zzn 14 HS10 (Below.refl _ _).drew fun hS=>?_
  refine za6 0 rfl ?_
  try simp only [nrm]
  refine zeh 1 rfl ?_
  try simp only [nrm]
  refine za6 2 rfl ?_
  try simp only [nrm]
  refine za6 3 rfl ?_
  try simp only [nrm]
  refine za6 4 rfl ?_
  try simp only [nrm]
  refine zeh 5 rfl ?_
  try simp only [nrm]
  refine za6 6 rfl ?_
  try simp only [nrm]
  refine zeh 7 rfl ?_
  try simp only [nrm]
  refine za6 8 rfl ?_
  try simp only [nrm]
  refine zev 9 rfl fun Kr hKr=>?_
  go_simp
  (refine (znw dT dO dP K[i].lf now s (HQT.out.here (Below.refl _ _).drew) (HQO.out.here (Below.refl _ _).drew) (HQP.out.here (Below.refl _ _).drew)).mono ?_;rw [HST.out,HSO.out,HSQ.out];rintro e u6 ⟨a1,n1,c1,a2,n2,c2,a3,n3,c3,rfl,lv6,hb6⟩;have nz1:=lv6.t.quad.1;have nz2:=lv6.o.quad.1;have nz3:=lv6.p.quad.1;subst nz1 nz2 nz3;have lv6:LV u6 y5.heap.size (.slice a1 T.length c1) (.slice a2 YO.length c2) (.slice a3 YP.length c3) T YO YP:=lv6;have hb6:=zbh hb6;have hS6:=HS10.out _ hb6;have m1f:=(LY5.next hb6).free;obtain ⟨m0,m1,m2,m3,m4,m5,m6⟩:=(LY5.next hb6).c7)
  refine hKr.out _ _ ‹_› fun _=>?_
  try simp only [nrm]
  refine za6 10 rfl ?_
  try simp only [nrm]
  refine za6 11 rfl ?_
  try simp only [nrm]
  refine za6 12 rfl ?_
  try simp only [nrm]
  refine za6 13 rfl ?_
  try simp only [nrm]
  refine zku rfl fun Kr hKr=>?_
  go_simp
  refine hKr.out _ _ ?_
  try simp only [nrm]
  obtain ⟨y6,hy6⟩:∃z,z=u6.setCells u1.heap.size 1 [.slice a1 T.length c1,.slice a2 YO.length c2,.slice a3 YP.length c3]:=⟨_,rfl⟩
  have hz':(((u6.setCell ⟨u1.heap.size,1,none⟩ (.slice a1 T.length c1)).setCell ⟨u1.heap.size,2,none⟩ (.slice a2 YO.length c2)).setCell ⟨u1.heap.size,3,none⟩ (.slice a3 YP.length c3))=y6:=hy6.symm
  rw [hz']
  clear hz' m0 m1 m2 m3 m4 m5 m6 m1f
  have z6:=hb6.size
  have oy6:Only u1.heap.size u6 y6:=by rw [hy6];exact zba _ _ _
  have LY6:Lay y6 u1.heap.size [.int .i64 now,.slice a1 T.length c1,.slice a2 YO.length c2,.slice a3 YP.length c3,.slice (some ⟨gl,0,none⟩) L.length dL,.slice (some ⟨gk,0,none⟩) K.length dK,.int .i64 nx]:=by rw [hy6];exact (LY5.next hb6).put (p:=[.int .i64 now]) (q:=[.slice bT T.length dT,.slice bO O.length dO,.slice bP P.length dP]) (r:=[.slice (some ⟨gl,0,none⟩) L.length dL,.slice (some ⟨gk,0,none⟩) K.length dK,.int .i64 nx]) [.slice a1 T.length c1,.slice a2 YO.length c2,.slice a3 YP.length c3] rfl
  clear hy6
  have zy6:=oy6.size
  have hlb:∀b,inL (.slice a1 T.length c1) (.slice a2 YO.length c2) (.slice a3 YP.length c3) b→y5.heap.size≤b∧b<u6.heap.size:=fun b hb=>lv6.lo hb
  have e6:=(EV.out.next hb6).lend (hi':=u6.heap.size) lv6 (by omega) (by omega) (by omega) (Nat.le_refl _) (fun b hb=>(hlb b hb).2)
  have NE4:Hid (¬inE (.slice a1 T.length c1) (.slice a2 YO.length c2) (.slice a3 YP.length c3) (.slice (some ⟨gl,0,none⟩) (L.set p (L[p].1,L[p].2.1+s,L[p].2.2)).length dL) (uL.set p (.slice vb L[p].2.2.length cb)) (.slice (some ⟨gk,0,none⟩) (K.set i (K[i].gr s)).length dK) (uK.set i (.slice va ys.length ca)) u1.heap.size):=noE_L NE3.out (fun hb=>by have:=hlb _ hb;omega)
  have E6:Hid (EOwn y6 v2.heap.size u6.heap.size (.slice a1 T.length c1) (.slice a2 YO.length c2) (.slice a3 YP.length c3) (.slice (some ⟨gl,0,none⟩) (L.set p (L[p].1,L[p].2.1+s,L[p].2.2)).length dL) (uL.set p (.slice vb L[p].2.2.length cb)) (.slice (some ⟨gk,0,none⟩) (K.set i (K[i].gr s)).length dK) (uK.set i (.slice va ys.length ca)) T YO YP (L.set p (L[p].1,L[p].2.1+s,L[p].2.2)) (K.set i (K[i].gr s))):=e6.only oy6 NE4.out
  have X6:=(X5.next hb6).only oy6 (by omega)
  have bw6:Below w.heap.size w y6:=(bw5.trans (hb6.mono (by omega))).trans (oy6.below (by omega) (by omega))
  clear e6 hlb lv6
  obtain ⟨k0,k1,k2,k3,k4,k5,k6,k7,k8,k9,k10,k11,k12⟩:y6.cell? ⟨gk,i*14,none⟩=some (.int .i64 K[i].id)∧y6.cell? ⟨gk,i*14+1,none⟩=some (.int .i64 K[i].lf)∧y6.cell? ⟨gk,i*14+2,none⟩=some (.int .i64 K[i].pl)∧y6.cell? ⟨gk,i*14+3,none⟩=some (.int .i64 K[i].k)∧y6.cell? ⟨gk,i*14+4,none⟩=some (.int .i64 K[i].wn)∧y6.cell? ⟨gk,i*14+5,none⟩=some (.int .i64 K[i].th)∧y6.cell? ⟨gk,i*14+6,none⟩=some (.int .i64 (K[i].fl+s))∧y6.cell? ⟨gk,i*14+7,none⟩=some (.int .i64 K[i].ac)∧y6.cell? ⟨gk,i*14+8,none⟩=some (.int .i64 K[i].la)∧y6.cell? ⟨gk,i*14+9,none⟩=some (.int .i64 K[i].og)∧y6.cell? ⟨gk,i*14+10,none⟩=some (.int .i64 K[i].st)∧y6.cell? ⟨gk,i*14+11,none⟩=some (.int .i64 K[i].fr)∧y6.cell? ⟨gk,i*14+12,none⟩=some (.bool K[i].sl):=E6.out.conS hi
  obtain ⟨j0,j1,j2,j3,j4,j5,j6⟩:=LY6.c7
  have jf:=LY6.free
  go_upto_region 12 with (fail)
  obtain ⟨y7,hy7⟩:∃z,z=y6.setCell ⟨u1.heap.size,6,none⟩ (.int .i64 (K[i].id+1)):=⟨_,rfl⟩
  rw [←hy7]
  have oy7:Only u1.heap.size y6 y7:=by rw [hy7];exact (Only.refl _ y6).setCell (p:=⟨u1.heap.size,6,none⟩) rfl _
  have LY7:Lay y7 u1.heap.size [.int .i64 now,.slice a1 T.length c1,.slice a2 YO.length c2,.slice a3 YP.length c3,.slice (some ⟨gl,0,none⟩) L.length dL,.slice (some ⟨gk,0,none⟩) K.length dK,.int .i64 (K[i].id+1)]:=by rw [hy7];exact LY6.put (p:=[.int .i64 now,.slice a1 T.length c1,.slice a2 YO.length c2,.slice a3 YP.length c3,.slice (some ⟨gl,0,none⟩) L.length dL,.slice (some ⟨gk,0,none⟩) K.length dK]) (q:=[.int .i64 nx]) (r:=[]) [.int .i64 (K[i].id+1)] rfl
  clear hy7 k0 k1 k2 k3 k4 k5 k6 k7 k8 k9 k10 k11 k12 j0 j1 j2 j3 j4 j5 j6 jf
  have zy7:=oy7.size
  have E7:=E6.out.only oy7 NE4.out
  have X7:=X6.only oy7 (by omega)
  have bw7:Below w.heap.size w y7:=bw6.trans (oy7.below (by omega) (by omega))
  obtain ⟨k0,k1,k2,k3,k4,k5,k6,k7,k8,k9,k10,k11,k12⟩:y7.cell? ⟨gk,i*14,none⟩=some (.int .i64 K[i].id)∧y7.cell? ⟨gk,i*14+1,none⟩=some (.int .i64 K[i].lf)∧y7.cell? ⟨gk,i*14+2,none⟩=some (.int .i64 K[i].pl)∧y7.cell? ⟨gk,i*14+3,none⟩=some (.int .i64 K[i].k)∧y7.cell? ⟨gk,i*14+4,none⟩=some (.int .i64 K[i].wn)∧y7.cell? ⟨gk,i*14+5,none⟩=some (.int .i64 K[i].th)∧y7.cell? ⟨gk,i*14+6,none⟩=some (.int .i64 (K[i].fl+s))∧y7.cell? ⟨gk,i*14+7,none⟩=some (.int .i64 K[i].ac)∧y7.cell? ⟨gk,i*14+8,none⟩=some (.int .i64 K[i].la)∧y7.cell? ⟨gk,i*14+9,none⟩=some (.int .i64 K[i].og)∧y7.cell? ⟨gk,i*14+10,none⟩=some (.int .i64 K[i].st)∧y7.cell? ⟨gk,i*14+11,none⟩=some (.int .i64 K[i].fr)∧y7.cell? ⟨gk,i*14+12,none⟩=some (.bool K[i].sl):=E7.conS hi
  obtain ⟨r0,r1,r2,r3,r4,r5,r6⟩:=X7.c7
  have rf:=X7.free
  have HS12:Hid (∀u,Below y7.heap.size y7 u→u.cell? ⟨u1.heap.size,0,none⟩=some (.int .i64 now)∧u.cell? ⟨u1.heap.size,1,none⟩=some (.slice a1 T.length c1)∧u.cell? ⟨u1.heap.size,2,none⟩=some (.slice a2 YO.length c2)∧u.cell? ⟨u1.heap.size,3,none⟩=some (.slice a3 YP.length c3)∧u.cell? ⟨u1.heap.size,4,none⟩=some (.slice (some ⟨gl,0,none⟩) L.length dL)∧u.cell? ⟨u1.heap.size,5,none⟩=some (.slice (some ⟨gk,0,none⟩) K.length dK)∧u.cell? ⟨u1.heap.size,6,none⟩=some (.int .i64 (K[i].id+1))∧u.cell? ⟨gk,i*14,none⟩=some (.int .i64 K[i].id)):=fun u hu=>⟨(LY7.next hu).cell 0 _ rfl,(LY7.next hu).cell 1 _ rfl,(LY7.next hu).cell 2 _ rfl,(LY7.next hu).cell 3 _ rfl,(LY7.next hu).cell 4 _ rfl,(LY7.next hu).cell 5 _ rfl,(LY7.next hu).cell 6 _ rfl,(hu.cell (by show gk<_;omega)).trans k0⟩
  clear k0 k1 k2 k3 k4 k5 k6 k7 k8 k9 k10 k11 k12
  refine zce HS12 (Below.refl _ _).drew fun hS=>?_
  refine zab 0 rfl ?_
  refine zab 1 rfl ?_
  refine zab 2 rfl ?_
  refine zab 3 rfl ?_
  refine zab 4 rfl ?_
  refine zab 5 rfl ?_
  refine zci 6 rfl fun Kr hKr=>?_
  go_simp
  obtain ⟨u,hu',ou,U⟩:=st7 (b:=w.heap.size+1) X7 (.int .i64 now) (.slice a1 T.length c1) (.slice a2 YO.length c2) (.slice a3 YP.length c3) (.slice (some ⟨gl,0,none⟩) L.length dL) (.slice (some ⟨gk,0,none⟩) K.length dK) (.int .i64 (K[i].id+1))
  rw [hu']
  clear hu'
  have LU:=(LY7.only ou (by omega)).next (Below.refl _ u).drew
  have hq8:=(HS12.out y7 (Below.refl _ _)).2.2.2.2.2.2.2
  refine hKr.out _ _ ⟨LU.cell 0 _ rfl,LU.cell 1 _ rfl,LU.cell 2 _ rfl,LU.cell 3 _ rfl,LU.cell 4 _ rfl,LU.cell 5 _ rfl,LU.cell 6 _ rfl,((Below.refl _ u).drew.cell (p:=⟨gk,i*14,none⟩) (by have:=ou.size;show gk<u.heap.size;omega)).trans ((ou.cell (p:=⟨gk,i*14,none⟩) (by show gk<_;omega) (by show gk≠_;omega)).trans hq8)⟩ (fun hS=>?_)
  try simp only [nrm]
  refine zab 7 rfl ?_
  refine zab 8 rfl ?_
  refine wpAnyH_done (by kernel_rfl) ?_ _
  go_wp2
  have zu:=ou.size
  refine bodyPost_ret (zhp rfl _ _ _ _ rfl U.cell Tryz.underlying31 rfl (by kernel_rfl)) rfl ?_
  have hnn:¬inE (.slice a1 T.length c1) (.slice a2 YO.length c2) (.slice a3 YP.length c3) (.slice (some ⟨gl,0,none⟩) (L.set p (L[p].1,L[p].2.1+s,L[p].2.2)).length dL) (uL.set p (.slice vb L[p].2.2.length cb)) (.slice (some ⟨gk,0,none⟩) (K.set i (K[i].gr s)).length dK) (uK.set i (.slice va ys.length ca)) (w.heap.size+1):=fun hb=>by have:=E7.bd hb;omega
  have eu:=E7.only ou hnn
  exact ⟨⟨now,K[i].id+1,a1,a2,a3,some ⟨gl,0,none⟩,some ⟨gk,0,none⟩,c1,c2,c3,dL,dK,T,YO,YP,L.set p (L[p].1,L[p].2.1+s,L[p].2.2),K.set i (K[i].gr s)⟩,K[i].id,s,by rw [List.length_set,List.length_set];rfl,(eu.next (Below.refl _ _).drew).eng.wider (by omega) (by show _≤u.heap.size;omega),HGR.out,rfl,ziv,(bw7.trans (ou.below (by omega) bw7.size)).drew⟩
theorem fwdsL (now nx:Int) (T O P:List Q4) (L:List F8) (K:List Kn) (ns:Int) (mT:T.length≤1048576) (mL:L.length≤1048576) (sL:∀f ∈ L,f.2.2.length≤1048576) (mK:K.length≤1048576) (sK:∀c ∈ K,c.xs.length≤1048576):∃(YN YX:Int) (YT YO YP:List Q4) (YL:List F8) (YK:List Kn) (f:Int),Small YT YO YP YL YK∧((f=1∧YN=0∧YX=0∧YT=[]∧YO=[]∧YP=[]∧YL=[]∧YK=[])∨(f≠0∧f≠1∧YN=now∧YX=nx∧YT=T∧YO=O∧YP=P∧YL=L∧YK=K)∨(f=0∧EgOk YN YX YT YO YP YL YK∧EgOk now nx T O P L K∧(zau ns=true∧¬1000000000000000<now+ns∧YN=now+ns∧YX=nx∧YT=T∧YO=zao (now+ns) O∧YP=zao (now+ns) P∧YL=L∧YK=K)))∧(∀(w:World) (aT aO aP aL aK:Option Addr) (cT cO cP cL cK:Nat),Quad w.heap.size w aT T→Quad w.heap.size w aO O→Quad w.heap.size w aP P→Fls w.heap.size w aL L→Kls w.heap.size w aK K→Calls Tryz.prog 31 #[zcp now aT T.length cT aO O.length cO aP P.length cP aL L.length cL aK K.length cK nx,.int .i64 ns] w (zbx w YN YX YT YO YP YL YK (.int .i64 f)))∧(∀(w:World) (aT aO aP aL aK:Option Addr) (cT cO cP cL cK:Nat),Quad w.heap.size w aT T→Quad w.heap.size w aO O→Quad w.heap.size w aP P→Fls w.heap.size w aL L→Kls w.heap.size w aK K→Calls Tryz.prog 30 #[zcp now aT T.length cT aO O.length cO aP P.length cP aL L.length cL aK K.length cK nx,.int .i64 ns] w (zbx w YN YX YT YO YP YL YK (.int .i64 f))):=by
 cases h1:zcy now nx T O P L K
 ·exact ⟨0,0,[],[],[],[],[],1,zxg,.inl ⟨rfl,rfl,rfl,rfl,rfl,rfl,rfl,rfl⟩,fun w aT aO aP aL aK cT cO cP cL cK hT hO hP hL hK=>zrz now nx cT cO cP cL cK ns hT hO hP hL hK mT mL sL mK sK h1,fun w aT aO aP aL aK cT cO cP cL cK hT hO hP hL hK=>zr9 now nx cT cO cP cL cK ns hT hO hP hL hK mL sL mK sK h1⟩
 ·have es:=zn7 (zbc h1)
  cases h2:zau ns
  ·exact ⟨now,nx,T,O,P,L,K,7,es,.inr (.inl ⟨by decide,by decide,rfl,rfl,rfl,rfl,rfl,rfl,rfl⟩),fun w aT aO aP aL aK cT cO cP cL cK hT hO hP hL hK=>zlx now nx cT cO cP cL cK ns hT hO hP hL hK mT mL sL mK sK h1 h2,fun w aT aO aP aL aK cT cO cP cL cK hT hO hP hL hK=>zsa now nx cT cO cP cL cK ns hT hO hP hL hK mL sL mK sK h1 h2⟩
  ·by_cases h3:1000000000000000<now+ns
   ·exact ⟨now,nx,T,O,P,L,K,7,es,.inr (.inl ⟨by decide,by decide,rfl,rfl,rfl,rfl,rfl,rfl,rfl⟩),fun w aT aO aP aL aK cT cO cP cL cK hT hO hP hL hK=>zly now nx cT cO cP cL cK ns hT hO hP hL hK mT mL sL mK sK h1 h2 h3,fun w aT aO aP aL aK cT cO cP cL cK hT hO hP hL hK=>zsb now nx cT cO cP cL cK ns hT hO hP hL hK mL sL mK sK h1 h2 h3⟩
   ·exact ⟨now+ns,nx,T,zao (now+ns) O,zao (now+ns) P,L,K,0,(Small.mk es.t (by rw [zan];exact es.o) (by rw [zan];exact es.p) es.l es.lm es.k es.km),.inr (.inr ⟨rfl,zl1 (zbc h1) h2 h3,zbc h1,(by first|rfl|exact h2),h3,rfl,rfl,rfl,rfl,rfl,rfl,rfl⟩),fun w aT aO aP aL aK cT cO cP cL cK hT hO hP hL hK=>znd now nx cT cO cP cL cK ns hT hO hP hL hK mT mL sL mK sK h1 h2 h3,fun w aT aO aP aL aK cT cO cP cL cK hT hO hP hL hK=>zjh now nx cT cO cP cL cK ns hT hO hP hL hK mL sL mK sK h1 h2 h3⟩
theorem zty {b:Q4} {now:Int} (hb:zh6 b=true):b.2.2.1≤(zgf now b).2.2.1:=by
 obtain ⟨nr,nu,nl,nt⟩:=zdl hb
 show b.2.2.1≤zda b.1 b.2.1 b.2.2.1 b.2.2.2 now
 unfold zda
 split
 ·exact Int.le_refl _
 ·have hp:=Int.mul_nonneg nr.1 (show 0≤now-b.2.2.2 by omega)
  generalize b.1*(now-b.2.2.2)=X at *
  omega
theorem zqo {b:Q4} {mid now:Int} (hb:zh6 b=true) (h1:b.2.2.2≤mid) (h2:mid≤now):zgf now (zgf mid b)=zgf now b:=by
 obtain ⟨nr,nu,nl,nt⟩:=zdl hb
 obtain ⟨r,u,l,t⟩:=b
 simp only at nr nu nl nt h1
 show (r,u,zda r u (zda r u l t mid) (zdm t mid) now,zdm (zdm t mid) now)=(r,u,zda r u l t now,zdm t now)
 have key:zda r u (zda r u l t mid) (zdm t mid) now=zda r u l t now∧zdm (zdm t mid) now=zdm t now:=by
  by_cases hm:mid=t
  ·subst hm
   have e1:zda r u l mid mid=l:=if_pos (Int.le_refl _)
   have e2:zdm mid mid=mid:=if_pos (Int.le_refl _)
   rw [e1,e2]
   exact ⟨rfl,rfl⟩
  ·have e1:zda r u l t mid=min (1000000000*u) (l+r*(mid-t)):=if_neg (by omega)
   have e2:zdm t mid=mid:=if_neg (by omega)
   have e3:zda r u l t now=min (1000000000*u) (l+r*(now-t)):=if_neg (by omega)
   have e4:zdm t now=now:=if_neg (by omega)
   rw [e1,e2,e3,e4]
   by_cases hq:now≤mid
   ·obtain rfl:now=mid:=by omega
    exact ⟨if_pos (Int.le_refl _),if_pos (Int.le_refl _)⟩
   ·refine ⟨(if_neg hq).trans ?_,if_neg hq⟩
    have hs:r*(now-t)=r*(mid-t)+r*(now-mid):=by rw [←Int.mul_add];congr 1;omega
    have hp:=Int.mul_nonneg nr.1 (show 0≤now-mid by omega)
    rw [hs]
    generalize r*(mid-t)=X at *
    generalize r*(now-mid)=Y at *
    omega
 rw [key.1,key.2]
theorem zsg {now nx:Int} {T O P:List Q4} {L:List F8} {K:List Kn} (h:EgOk now nx T O P L K) {j:Nat} (h2:j<O.length) (h3:j<P.length):zh6 O[j]=true∧zh6 P[j]=true∧O[j].2.2.2=now∧P[j].2.2.2=now:=by
 have hL:=zbe h.lend
 have q:=zd0 (hL.pair j (by rw [←hL.lo];exact h2) h2 h3)
 rw [h.at'] at q
 exact ⟨q.oka,q.okb,q.ta,q.tb⟩
theorem z0j {now nx:Int} {T O P:List Q4} {L:List F8} {K:List Kn} (h:EgOk now nx T O P L K):P.length=O.length:=by
 have hL:=zbe h.lend
 rw [hL.lp,hL.lo]
theorem zxt {now nx:Int} {T O P:List Q4} {L:List F8} {K:List Kn} (h:EgOk now nx T O P L K) {k ns:Int} (h0:0≤k) (h1:k≤ns):zao (now+ns) (zao (now+k) O)=zao (now+ns) O∧zao (now+ns) (zao (now+k) P)=zao (now+ns) P:=by
 have hl:=z0j h
 unfold zao
 rw [List.map_map,List.map_map]
 refine ⟨List.map_congr_left fun b hb=>?_,List.map_congr_left fun b hb=>?_⟩
 ·obtain ⟨j,hj,rfl⟩:=List.mem_iff_getElem.1 hb
  obtain ⟨a1,_,a3,_⟩:=zsg h hj (by rw [hl];exact hj)
  exact zqo a1 (by omega) (by omega)
 ·obtain ⟨j,hj,rfl⟩:=List.mem_iff_getElem.1 hb
  obtain ⟨_,a2,_,a4⟩:=zsg h (by rw [←hl];exact hj) hj
  exact zqo a2 (by omega) (by omega)
def UpL (O YO P YP:List Q4):Prop:=YO.length=O.length∧YP.length=P.length∧P.length=O.length∧∀j (h:j<O.length) (h':j<YO.length) (hp:j<P.length) (hp':j<YP.length),O[j].2.2.1≤YO[j].2.2.1∧P[j].2.2.1≤YP[j].2.2.1
theorem zzj {now nx n':Int} {T O P:List Q4} {L:List F8} {K:List Kn} (h:EgOk now nx T O P L K):UpL O (zao n' O) P (zao n' P):=by
 refine ⟨zan _ _,zan _ _,z0j h,fun j hj hj' hp hp'=>?_⟩
 obtain ⟨a1,a2,_,_⟩:=zsg h hj hp
 rw [zdr hj hj',zdr hp hp']
 exact ⟨zty a1,zty a2⟩
end Go.Proofs.YthiojkjcmhojoaaGreat
