import Derived.Test.YthiojkjcmhojoaaGreatGfAV
namespace Go.Proofs.YthiojkjcmhojoaaGreat
set_option maxHeartbeats 16000000
open Go.ChangeShapes Go.WideShapes Go.ChangeAt Go.RowKit
set_option maxRecDepth 100000
set_option linter.unusedVariables false
set_option linter.unusedSimpArgs false
def zfc (now r u:Int) (b:Q4):Q4:=zgc b.1 b.2.1 b.2.2.1 b.2.2.2 r u now
def zim (S O:List Q4) (now:Int):List Q4:=List.zipWith (fun b t=>zfc now t.2.1 t.2.2.2 b) O S
def zja (S P:List Q4) (now:Int):List Q4:=List.zipWith (fun b t=>zfc now t.2.2.1 t.2.2.2 b) P S
def zj4 (T O P S:List Q4) (now:Int):Bool:=((zbf T O P && decide (zah S=0)) && decide (S.length=T.length)) && (decide (zdv O≤now) && decide (now≤1000000000000000))
theorem z1a {T O P S:List Q4} {now:Int} (h:zbf T O P=false):zj4 T O P S now=false:=by unfold zj4;rw [h];rfl
theorem z1b {T O P S:List Q4} {now:Int} (h:¬zah S=0):zj4 T O P S now=false:=by unfold zj4;rw [decide_eq_false h,Bool.and_false];rfl
theorem z1c {T O P S:List Q4} {now:Int} (h:¬S.length=T.length):zj4 T O P S now=false:=by unfold zj4;rw [decide_eq_false h,Bool.and_false];rfl
theorem zh0 {S O:List Q4} {now:Int} (h:O.length=S.length):(zim S O now).length=S.length:=by unfold zim;rw [List.length_zipWith];omega
theorem zh1 {S P:List Q4} {now:Int} (h:P.length=S.length):(zja S P now).length=S.length:=by unfold zja;rw [List.length_zipWith];omega
theorem zwp {S O:List Q4} {now:Int} {k:Nat} (h1:k<S.length) (h2:k<O.length):(zim S O now).take (k+1)=(zim S O now).take k ++ [zfc now S[k].2.1 S[k].2.2.2 O[k]]:=by
 have h:k<(zim S O now).length:=by unfold zim;rw [List.length_zipWith];omega
 rw [List.take_succ_eq_append_getElem h]
 simp [zim]
theorem zwq {S P:List Q4} {now:Int} {k:Nat} (h1:k<S.length) (h2:k<P.length):(zja S P now).take (k+1)=(zja S P now).take k ++ [zfc now S[k].2.2.1 S[k].2.2.2 P[k]]:=by
 have h:k<(zja S P now).length:=by unfold zja;rw [List.length_zipWith];omega
 rw [List.take_succ_eq_append_getElem h]
 simp [zja]
theorem z1d {T O P:List Q4} (h:IsLend T O P):0≤zdv O∧zdv O≤1000000000000000:=by
 have l0:=h.tree.l0
 have hO:0<O.length:=by rw [h.lo];omega
 have hP:0<P.length:=by rw [h.lp];omega
 have hp:=zd0 (h.pair 0 (by omega) hO hP)
 have hb:=zdl hp.oka
 have e:O[0].2.2.2=zdv O:=hp.ta
 rw [←e]
 exact hb.2.2.2
theorem zm3 {now:Int} {b:Q4} (hb:zh6 b=true) (hn:zau now=true):zfc now b.1 b.2.1 b=zgf now b:=by
 have hk:ze0 b.1 b.2.1 b.2.2.1 b.2.2.2 b.1 b.2.1 now=true:=by
  have h2:=hb
  unfold zh6 zgn at h2
  simp only [Bool.and_eq_true] at h2
  unfold ze0
  have hb':zgn b.1 b.2.1 b.2.2.1 b.2.2.2=true:=hb
  rw [hb',h2.1.1.1,h2.1.1.2,hn]
  rfl
 have hbn:=zdl hb
 have hf:=zhv (r:=b.1) (u:=b.2.1) (l:=b.2.2.1) (t:=b.2.2.2) (now:=now) hbn.2.1 hbn.2.2.1 hbn.1.1
 unfold zfc zgc zgf
 rw [if_pos hk,Int.min_eq_left hf.2]
theorem zun {T O P:List Q4} {now:Int} (h:IsLend T O P) (hn:zau now=true):zim T O now=zao now O:=by
 refine List.ext_getElem (by rw [zh0 h.lo,zan,h.lo]) (fun k h1 h2=>?_)
 have hk:k<O.length:=by rw [zan] at h2;exact h2
 have hp:=zd0 (h.pair k (by rw [←h.lo];exact hk) hk (by rw [h.lp,←h.lo];exact hk))
 rw [zdr hk h2]
 have hT:k<T.length:=by rw [←h.lo];exact hk
 have e:(zim T O now)[k]=zfc now T[k].2.1 T[k].2.2.2 O[k]:=by simp [zim]
 rw [e,←hp.ra,←hp.ua]
 exact zm3 hp.oka hn
theorem zuo {T O P:List Q4} {now:Int} (h:IsLend T O P) (hn:zau now=true):zja T P now=zao now P:=by
 refine List.ext_getElem (by rw [zh1 h.lp,zan,h.lp]) (fun k h1 h2=>?_)
 have hk:k<P.length:=by rw [zan] at h2;exact h2
 have hp:=zd0 (h.pair k (by rw [←h.lp];exact hk) (by rw [h.lo,←h.lp];exact hk) hk)
 rw [zdr hk h2]
 have hT:k<T.length:=by rw [←h.lp];exact hk
 have e:(zja T P now)[k]=zfc now T[k].2.2.1 T[k].2.2.2 P[k]:=by simp [zja]
 rw [e,←hp.rb,←hp.ub]
 exact zm3 hp.okb hn
def zxx (q:Q4) (l:Int):Q4:=(q.1,q.2.1,l,q.2.2.2)
def zej (n:Int) (q:Q4):Q4:=zxx q (q.2.2.1-1000000000*n)
def zek (n:Int) (q:Q4):Q4:=zxx q (max 0 (q.2.2.1-1000000000*n))
def zgi (f:Q4→Q4) (xs:List Q4) (c:Int):List Q4:=match xs[c.toNat]? with|some q=>xs.set c.toNat (f q)|none=>xs
theorem zth {f:Q4→Q4} {xs:List Q4} {i:Nat} (h:i<xs.length):zgi f xs (i:Int)=xs.set i (f xs[i]):=by unfold zgi;rw [Int.toNat_natCast,List.getElem?_eq_getElem h]
theorem zjp (f:Q4→Q4) (xs:List Q4) (c:Int):(zgi f xs c).length=xs.length:=by
 unfold zgi
 split
 ·rw [List.length_set]
 ·rfl
def zet (n:Int) (P:List Q4) (L:List Int):Nat→List Q4
 | 0=>P
 | j+1=>match L[j]? with|some c=>zgi (zej n) (zet n P L j) c|none=>zet n P L j
def zcz (n:Int) (k:Int) (O:List Q4) (L:List Int):Nat→List Q4
 | 0=>O
 | j+1=>match L[j]? with|some c=>if k≤(j:Int) then zgi (zek n) (zcz n k O L j) c else zcz n k O L j|none=>zcz n k O L j
theorem zee (n:Int) (P:List Q4) (L:List Int):∀j,(zet n P L j).length=P.length
 | 0=>rfl
 | j+1=>by
  unfold zet
  split
  ·rw [zjp,zee n P L j]
  ·exact zee n P L j
theorem zef (n k:Int) (O:List Q4) (L:List Int):∀j,(zcz n k O L j).length=O.length
 | 0=>rfl
 | j+1=>by
  unfold zcz
  split
  ·split
   ·rw [zjp,zef n k O L j]
   ·exact zef n k O L j
  ·exact zef n k O L j
theorem zm4 {n:Int} {P:List Q4} {L:List Int} {j:Nat} (h:j<L.length):zet n P L (j+1)=zgi (zej n) (zet n P L j) L[j]:=by
 show (match L[j]? with|some c=>zgi (zej n) (zet n P L j) c|none=>zet n P L j)=_
 rw [List.getElem?_eq_getElem h]
theorem zwr {n k:Int} {O:List Q4} {L:List Int} {j:Nat} (h:j<L.length) (hk:k≤(j:Int)):zcz n k O L (j+1)=zgi (zek n) (zcz n k O L j) L[j]:=by
 show (match L[j]? with|some c=>if k≤(j:Int) then zgi (zek n) (zcz n k O L j) c else zcz n k O L j|none=>zcz n k O L j)=_
 rw [List.getElem?_eq_getElem h]
 simp only [if_pos hk]
theorem zyh {n k:Int} {O:List Q4} {L:List Int} {j:Nat} (h:j<L.length) (hk:¬k≤(j:Int)):zcz n k O L (j+1)=zcz n k O L j:=by
 show (match L[j]? with|some c=>if k≤(j:Int) then zgi (zek n) (zcz n k O L j) c else zcz n k O L j|none=>zcz n k O L j)=_
 rw [List.getElem?_eq_getElem h]
 simp only [if_neg hk]
def zm5 (T O P:List Q4) (leaf now n:Int):Bool:=zcx T O P leaf now n && decide (0≤zf2 T O P leaf now n)
def zws (T O P:List Q4) (leaf now n:Int):List Q4:=if zcx T O P leaf now n=true then T else []
def zg0 (T O P:List Q4) (leaf now n:Int):List Q4:=if zcx T O P leaf now n=true then (if zf2 T O P leaf now n<0 then zao now O else zcz n (zf2 T O P leaf now n) (zao now O) (zap T leaf) (zap T leaf).length) else []
def zg1 (T O P:List Q4) (leaf now n:Int):List Q4:=if zcx T O P leaf now n=true then (if zf2 T O P leaf now n<0 then zao now P else zet n (zao now P) (zap T leaf) (zap T leaf).length) else []
theorem zps (xs:List Q4):∀(i:Nat) (h:i<xs.length) (l:Int),(zaz xs).set (i*4+2) (.int .i64 l)=zaz (xs.set i (zxx xs[i] l)):=by
 induction xs with
 | nil=>intro i h;cases h
 | cons x xs ih =>
  intro i h l
  cases i with
  | zero=>rfl
  | succ i =>
   have hi:i<xs.length:=by simpa using h
   have e:zaz (x :: xs)=Value.int .i64 x.1 :: Value.int .i64 x.2.1 :: Value.int .i64 x.2.2.1 :: Value.int .i64 x.2.2.2 :: zaz xs:=rfl
   rw [e,show (i+1)*4+2=i*4+2+1+1+1+1 by omega]
   show Value.int .i64 x.1 :: Value.int .i64 x.2.1 :: Value.int .i64 x.2.2.1 :: Value.int .i64 x.2.2.2 :: (zaz xs).set (i*4+2) (.int .i64 l)=zaz (x :: xs.set i (zxx xs[i] l))
   rw [ih i hi l]
   rfl
section
variable {w W:World} {b2:Nat} {sT sO sP:Value} {gT cT gO cO gP cP:Nat} {T X Y:List Q4}
theorem FlSt.lvlO (d:FlSt w W b2 sT sO sP gT cT gO cO gP cP T X Y) (i:Nat) (h:i<X.length) (l:Int):FlSt w (W.setCell ⟨gO,i*4+2,none⟩ (.int .i64 l)) b2 sT sO sP gT cT gO cO gP cP T (X.set i (zxx X[i] l)) Y:=by
 have hl:=d.low
 have hg:=zc9 W gO (i*4+2) (.int .i64 l)
 have hne:=d.nO
 have k:=d.keeps hg hl.1 (by omega) d.kept FlSt.cellsOk (fun b hb=>by simp only [List.mem_cons,List.not_mem_nil,or_false] at hb;omega)
 have ro:=(d.rO.stored (i*4+2) (.int .i64 l)).1
 rw [zps X i h l] at ro
 refine ⟨?_,d.rT.kept hg (zb3 d.rT d.rO (by decide)),?_,d.rP.kept hg (.inr (fun e=>d.ap (Option.some.inj e).symm)),d.ap,d.lo,d.nO,d.nP,d.nT⟩
 ·rw [List.length_set];exact k
 ·rw [List.length_set];exact ro
theorem FlSt.lvlP (d:FlSt w W b2 sT sO sP gT cT gO cO gP cP T X Y) (i:Nat) (h:i<Y.length) (l:Int):FlSt w (W.setCell ⟨gP,i*4+2,none⟩ (.int .i64 l)) b2 sT sO sP gT cT gO cO gP cP T X (Y.set i (zxx Y[i] l)):=by
 have hl:=d.low
 have hg:=zc9 W gP (i*4+2) (.int .i64 l)
 have hne:=d.nP
 have k:=d.keeps hg hl.2.1 (by omega) d.kept FlSt.cellsOk (fun b hb=>by simp only [List.mem_cons,List.not_mem_nil,or_false] at hb;omega)
 have rp:=(d.rP.stored (i*4+2) (.int .i64 l)).1
 rw [zps Y i h l] at rp
 refine ⟨?_,d.rT.kept hg (zb3 d.rT d.rP (by decide)),d.rO.kept hg (.inr (fun e=>d.ap (Option.some.inj e))),?_,d.ap,d.lo,d.nO,d.nP,d.nT⟩
 ·rw [List.length_set];exact k
 ·rw [List.length_set];exact rp
end
def LvlIn (a b:Int) (xs:List Q4):Prop:=∀i (h:i<xs.length),a≤xs[i].2.2.1∧xs[i].2.2.1≤b
theorem LvlIn.set {a b:Int} {xs:List Q4} (h:LvlIn a b xs) (i:Nat) (q:Q4) (hq:a≤q.2.2.1∧q.2.2.1≤b):LvlIn a b (xs.set i q):=by
 intro j hj
 rw [List.getElem_set]
 split
 ·exact hq
 ·exact h j (by simpa using hj)
theorem LvlIn.low {a a' b:Int} {xs:List Q4} (h:LvlIn a b xs) (ha:a'≤a):LvlIn a' b xs:=fun i hi=>⟨by have:=(h i hi).1;omega,(h i hi).2⟩
theorem zjb {n:Int} {P:List Q4} {L:List Int} (hn:1≤n∧n≤1500) (hP:LvlIn 0 1000000000000000000 P):∀j:Nat,LvlIn (-(1500000000000*(j:Int))) 1000000000000000000 (zet n P L j)
 | 0=>by show LvlIn _ _ P;exact hP.low (by omega)
 | j+1=>by
  have ih:=(zjb (L:=L) hn hP j).low (a':=-(1500000000000*((j+1:Nat):Int))) (by omega)
  unfold zet
  split
  ·unfold zgi
   split
   ·rename_i q hq
    obtain ⟨hl,e⟩:=List.getElem?_eq_some_iff.1 hq
    have h0:=zjb (L:=L) hn hP j _ hl
    rw [e] at h0
    refine ih.set _ _ ?_
    simp only [zej,zxx]
    omega
   ·exact ih
  ·exact ih
theorem zm6 {n k:Int} {O:List Q4} {L:List Int} (hn:1≤n∧n≤1500) (hO:LvlIn 0 1000000000000000000 O):∀j:Nat,LvlIn 0 1000000000000000000 (zcz n k O L j)
 | 0=>hO
 | j+1=>by
  have ih:=zm6 (k:=k) (L:=L) hn hO j
  unfold zcz
  split
  ·split
   ·unfold zgi
    split
    ·rename_i q hq
     obtain ⟨hl,e⟩:=List.getElem?_eq_some_iff.1 hq
     have h0:=ih _ hl
     rw [e] at h0
     refine ih.set _ _ ?_
     simp only [zek,zxx]
     omega
    ·exact ih
   ·exact ih
  ·exact ih
theorem zcr {w:World} {lo hi nT cT nO cO nP cP nL cL nK cK:Nat} {aT aO aP aL aK:Option Addr} {T O P:List Q4} {L:List F8} {K:List Kn} (h:Eng w lo hi (.slice aT nT cT) (.slice aO nO cO) (.slice aP nP cP) (.slice aL nL cL) (.slice aK nK cK) T O P L K) :
 Quad w.heap.size w aT T∧Quad w.heap.size w aO O∧Quad w.heap.size w aP P∧Fls w.heap.size w aL L∧Kls w.heap.size w aK K:=by
 obtain ⟨_,_,_,_,_,_,e⟩:=h
 exact ⟨(e.l.t.quad).2,(e.l.o.quad).2,(e.l.p.quad).2,(e.p.fls).2,(e.k.kls).2⟩
theorem zpt {w:World} {aT aO aP:Option Addr} (cT cO cP:Nat) {T O P:List Q4} (leaf now n:Int) (hT:Quad w.heap.size w aT T) (hO:Quad w.heap.size w aO O) (hP:Quad w.heap.size w aP P) (h1:zcx T O P leaf now n=false) :
 Calls Tryz.prog 175 #[zdb aT T.length cT aO O.length cO aP P.length cP,.int .i64 leaf,.int .i64 now,.int .i64 n] w (zgz w [] [] [] false):=by
 have KW:Hid (Kept w [(w.heap.size,0,.slice aT T.length cT),(w.heap.size,1,.slice aO O.length cO),(w.heap.size,2,.slice aP P.length cP),(w.heap.size+1,0,.slice none 0 0),(w.heap.size+1,1,.slice none 0 0),(w.heap.size+1,2,.slice none 0 0)] [w.heap.size+1] ((w.alloc (.cells #[.slice aT T.length cT,.slice aO O.length cO,.slice aP P.length cP] 27)).alloc (.cells #[.slice none 0 0,.slice none 0 0,.slice none 0 0] 27))) :=
  ⟨⟨⟨by simp <;> omega,by go_simp⟩,⟨by simp <;> omega,by go_simp⟩,⟨by simp <;> omega,by go_simp⟩,⟨by simp,by go_simp⟩,⟨by simp,by go_simp⟩,⟨by simp,by go_simp⟩,trivial⟩,
   (fun b hb=>by simp only [List.mem_cons,List.not_mem_nil,or_false] at hb;subst hb;exact ⟨by simp,fun o=>by go_simp⟩),by go_grown⟩
 have nb:=KW.out.hb
 have htold:=zla cT cO cP h1 (hT.here nb) (hO.here nb) (hP.here nb)
 go_enter Tryz.func175,Tryz.ntmps175
 go_wp2_with (go_at_call 197;refine htold.mono ?_;clear htold;rintro e w2 ⟨rfl,hb2⟩;have K2:Hid (Kept w [(w.heap.size,0,.slice aT T.length cT),(w.heap.size,1,.slice aO O.length cO),(w.heap.size,2,.slice aP P.length cP),(w.heap.size+1,0,.slice none 0 0),(w.heap.size+1,1,.slice none 0 0),(w.heap.size+1,2,.slice none 0 0)] [w.heap.size+1] w2):=KW.out.next hb2;have ⟨_,_,_,⟨_,q3⟩,⟨_,q4⟩,⟨_,q5⟩,_⟩:=K2.out.cells;have fr:=(K2.out.free _ (List.mem_singleton.2 rfl)).2)
 refine bodyPost_ret (zak rfl _ _ _ [.slice none 0 0,.slice none 0 0,.slice none 0 0] rfl (zcw (u0:=.slice none 0 0) (u1:=.slice none 0 0) (u2:=.slice none 0 0) _ _ _ q3 q4 q5) Tryz.underlying27 rfl (by kernel_rfl)) rfl ?_
 exact ⟨_,_,_,_,_,_,_,_,_,rfl,LV.zero _ _,((K2.out.hb.setCell (by simp) _).setCell (by simp) _).setCell (by simp) _⟩
theorem zwt {w W:World} {b2:Nat} {sT sO sP:Value} {gT cT gO cO gP cP:Nat} {T X Y:List Q4} (d:FlSt w W b2 sT sO sP gT cT gO cO gP cP T X Y) {a b c:Value} :
 LV (((W.setCell ⟨w.heap.size+1,0,none⟩ a).setCell ⟨w.heap.size+1,1,none⟩ b).setCell ⟨w.heap.size+1,2,none⟩ c) w.heap.size (.slice (some ⟨gT,0,none⟩) T.length cT) (.slice (some ⟨gO,0,none⟩) X.length cO) (.slice (some ⟨gP,0,none⟩) Y.length cP) T X Y∧Below w.heap.size w (((W.setCell ⟨w.heap.size+1,0,none⟩ a).setCell ⟨w.heap.size+1,1,none⟩ b).setCell ⟨w.heap.size+1,2,none⟩ c):=by
 refine ⟨⟨zel (zca (za5 (za5 (za5 d.rT (by omega)) (by omega)) (by omega)) (by omega)),zel (zca (za5 (za5 (za5 d.rO (by omega)) (by omega)) (by omega)) (by omega)),zel (zca (za5 (za5 (za5 d.rP (by omega)) (by omega)) (by omega)) (by omega)),?_,?_,?_⟩,((d.kept.hb.setCell (by simp) _).setCell (by simp) _).setCell (by simp) _⟩
 ·exact fun g h1 h2=>zbp d.rT d.rO (by decide) g (za3 h1) (za3 h2)
 ·exact fun g h1 h2=>zbp d.rT d.rP (by decide) g (za3 h1) (za3 h2)
 ·intro g h1 h2
  have e1:gO=g:=Option.some.inj (za3 h1)
  have e2:gP=g:=Option.some.inj (za3 h2)
  exact d.ap (by omega)
theorem zmg {w:World} {aT aO aP:Option Addr} (cT cO cP:Nat) {T O P:List Q4} (leaf now n:Int) (hT:Quad w.heap.size w aT T) (hO:Quad w.heap.size w aO O) (hP:Quad w.heap.size w aP P) (h1:zcx T O P leaf now n=true) (hwho:zf2 T O P leaf now n = -1) :
 Calls Tryz.prog 175 #[zdb aT T.length cT aO O.length cO aP P.length cP,.int .i64 leaf,.int .i64 now,.int .i64 n] w (zgz w T (zao now O) (zao now P) false):=by
 have KW:Hid (Kept w [(w.heap.size,0,.slice aT T.length cT),(w.heap.size,1,.slice aO O.length cO),(w.heap.size,2,.slice aP P.length cP),(w.heap.size+1,0,.slice none 0 0),(w.heap.size+1,1,.slice none 0 0),(w.heap.size+1,2,.slice none 0 0)] [w.heap.size+1] ((w.alloc (.cells #[.slice aT T.length cT,.slice aO O.length cO,.slice aP P.length cP] 27)).alloc (.cells #[.slice none 0 0,.slice none 0 0,.slice none 0 0] 27))) :=
  ⟨⟨⟨by simp <;> omega,by go_simp⟩,⟨by simp <;> omega,by go_simp⟩,⟨by simp <;> omega,by go_simp⟩,⟨by simp,by go_simp⟩,⟨by simp,by go_simp⟩,⟨by simp,by go_simp⟩,trivial⟩,
   (fun b hb=>by simp only [List.mem_cons,List.not_mem_nil,or_false] at hb;subst hb;exact ⟨by simp,fun o=>by go_simp⟩),by go_grown⟩
 have nb:=KW.out.hb
 have zW:((w.alloc (.cells #[.slice aT T.length cT,.slice aO O.length cO,.slice aP P.length cP] 27)).alloc (.cells #[.slice none 0 0,.slice none 0 0,.slice none 0 0] 27)).heap.size=w.heap.size+2:=by simp
 have htold:=zla cT cO cP h1 (hT.here nb) (hO.here nb) (hP.here nb)
 have ht:=zwj h1
 have hd:=ht.lend
 have hw:=hd.tree.sound.well
 have h30:=hd.tree.l1
 have h01:=hd.tree.l0
 have lO:=hd.lo
 have lP:=hd.lp
 have okO:∀k (h:k<O.length),zh6 O[k]=true:=fun k h=>(zd0 (hd.pair k (by omega) h (by omega))).oka
 have okP:∀k (h:k<P.length),zh6 P[k]=true:=fun k h=>(zd0 (hd.pair k (by omega) (by omega) h)).okb
 have hnow:=ht.isTime
 have hsg:=zi0 ht.isSeg
 have l0:=ht.l0
 have l1:=ht.l1
 have hpl:(zap T leaf).length≤30:=Nat.le_trans (zgb l1) h30
 have hpi:∀j (h:j<(zap T leaf).length),0≤(zap T leaf)[j]∧(zap T leaf)[j]<((zao now P).length:Int):=fun j h=>by
  have:=zha hw T.length leaf l1 (by omega) _ (List.getElem_mem h)
  rw [zan,lP]
  omega
 have hpath:=fun (W:World) (hq:Quad W.heap.size W aT T)=>zfk cT leaf hq hw h30 (by omega) l1
 have hfill:=fun (W:World) (q1:Quad W.heap.size W aT T) (q2:Quad W.heap.size W aO O) (q3:Quad W.heap.size W aP P)=>zi8 cT cO cP now q1 q2 q3 ⟨h01,h30⟩ lO lP hnow okO okP
 have hle:(zao now O).length=(zao now P).length:=by rw [zan,zan,lO,lP]
 have hlp30:(zao now P).length≤30:=by rw [zan,lP];exact h30
 have hask:∀(W:World) (gT dT gO dO gP dP cL:Nat) (aL:Option Addr),Quad W.heap.size W (some ⟨gO,0,none⟩) (zao now O)→Quad W.heap.size W (some ⟨gP,0,none⟩) (zao now P)→ISmp W.heap.size W aL (zap T leaf) →
  Calls Tryz.prog 195 #[zdb (some ⟨gT,0,none⟩) T.length dT (some ⟨gO,0,none⟩) (zao now O).length dO (some ⟨gP,0,none⟩) (zao now P).length dP,.slice aL (zap T leaf).length cL,.int .i64 n] W fun e w'=>e=.returned (.int .i64 (-1))∧Below W.heap.size W w':=by
  intro W gT dT gO dO gP dP cL aL q2 q3 iL
  have h:=zld (aT:=some ⟨gT,0,none⟩) T.length dT dO dP cL q2 q3 iL hle hlp30 hpi hpl hsg
  have e:zhy (zao now O) (zao now P) n (zap T leaf) = -1:=hwho
  rw [e] at h
  exact h
 clear ht hd hle hlp30 hpi lO lP okO okP hw hwho
 obtain ⟨FO,hFO⟩:∃X,zao now O=X:=⟨_,rfl⟩
 obtain ⟨FP,hFP⟩:∃X,zao now P=X:=⟨_,rfl⟩
 rw [hFO,hFP] at hfill hask
 rw [hFO,hFP]
 clear hFO hFP
 obtain ⟨L,hL⟩:∃L,zap T leaf=L:=⟨_,rfl⟩
 rw [hL] at hpath hask hpl
 clear hL
 go_enter Tryz.func175,Tryz.ntmps175
 go_upto_region 3 with (go_at_call 197;refine htold.mono ?_;clear htold;rintro e w2 ⟨rfl,hb2⟩;have K2:Hid (Kept w [(w.heap.size,0,.slice aT T.length cT),(w.heap.size,1,.slice aO O.length cO),(w.heap.size,2,.slice aP P.length cP),(w.heap.size+1,0,.slice none 0 0),(w.heap.size+1,1,.slice none 0 0),(w.heap.size+1,2,.slice none 0 0)] [w.heap.size+1] w2):=KW.out.next hb2;have ⟨⟨_,q0⟩,⟨_,q1⟩,⟨_,q2⟩,⟨_,q3⟩,⟨_,q4⟩,⟨_,q5⟩,_⟩:=K2.out.cells)
 have hbw2:=K2.out.hb
 have zs2:=hb2.size
 rw [zW] at zs2
 go_upto_region 4 with (go_at_call 90;refine (hfill _ (hT.here hbw2) (hO.here hbw2) (hP.here hbw2)).mono ?_;rintro e w4 ⟨gT,dT,gO,dO,gP,dP,rfl,r1,r2,r3,hap,hb4⟩)
 have D:Hid (FlSt w (w4.alloc (.cells #[.slice (some ⟨gT,0,none⟩) T.length dT,.slice (some ⟨gO,0,none⟩) FO.length dO,.slice (some ⟨gP,0,none⟩) FP.length dP] 27)) w4.heap.size (.slice aT T.length cT) (.slice aO O.length cO) (.slice aP P.length cP) gT dT gO dO gP dP T FO FP):=by
  have K5:=(K2.out.next hb4).next (zac w4 (.cells #[.slice (some ⟨gT,0,none⟩) T.length dT,.slice (some ⟨gO,0,none⟩) FO.length dO,.slice (some ⟨gP,0,none⟩) FP.length dP] 27))
  obtain ⟨⟨e0,e1,e2,e3,e4,e5,_⟩,hf,hbb⟩:=K5
  have hs:=hb4.size
  exact ⟨⟨⟨e0,e1,e2,e3,e4,e5,⟨by simp,by go_simp⟩,⟨by simp,by go_simp⟩,⟨by simp,by go_simp⟩,trivial⟩,hf,hbb⟩,(zca r1 zs2).alloc _,(zca r2 zs2).alloc _,(zca r3 zs2).alloc _,hap,by omega,(r2.lt gO rfl).2,(r3.lt gP rfl).2,(r1.lt gT rfl).2⟩
 clear r1 r2 r3 K2 q0 q1 q2 q3 q4 q5 hb4
 obtain ⟨v0,hv0⟩:∃v,w4.alloc (.cells #[.slice (some ⟨gT,0,none⟩) T.length dT,.slice (some ⟨gO,0,none⟩) FO.length dO,.slice (some ⟨gP,0,none⟩) FP.length dP] 27)=v:=⟨_,rfl⟩
 rw [hv0] at D ⊢
 obtain ⟨b2,hbb2⟩:∃b,w4.heap.size=b:=⟨_,rfl⟩
 rw [hbb2] at D ⊢
 clear hv0 hbb2
 have ⟨⟨_,q0⟩,⟨_,q1⟩,⟨_,q2⟩,⟨_,q3⟩,⟨_,q4⟩,⟨_,q5⟩,⟨_,q6⟩,⟨_,q7⟩,⟨_,q8⟩,_⟩:=D.out.kept.cells
 have hbw5:=D.out.kept.hb
 go_upto_region 5 with (go_at_call 196;refine (hpath _ (hT.here hbw5)).mono ?_;rintro e w5 ⟨aL,nL,cL,rfl,ivL,hb5⟩)
 obtain ⟨aL',cL',eL,isL⟩:=ivL.smp
 injection eL with eL1 eL2 eL3
 subst eL1 eL2
 clear eL3
 have D5:Hid (FlSt w w5 b2 (.slice aT T.length cT) (.slice aO O.length cO) (.slice aP P.length cP) gT dT gO dO gP dP T FO FP):=D.out.next hb5
 clear D q0 q1 q2 q3 q4 q5 q6 q7 q8
 have ⟨⟨_,q0⟩,⟨_,q1⟩,⟨_,q2⟩,⟨_,q3⟩,⟨_,q4⟩,⟨_,q5⟩,⟨_,q6⟩,⟨_,q7⟩,⟨_,q8⟩,_⟩:=D5.out.kept.cells
 have ha:=hask w5 gT dT gO dO gP dP cL aL (zf1 D5.out.rO) (zf1 D5.out.rP) isL
 go_upto_region 6 with (go_at_call 195;refine ha.mono ?_;clear ha;rintro e w6 ⟨rfl,hb6⟩)
 have D6:Hid (FlSt w w6 b2 (.slice aT T.length cT) (.slice aO O.length cO) (.slice aP P.length cP) gT dT gO dO gP dP T FO FP):=D5.out.next hb6
 clear D5 q0 q1 q2 q3 q4 q5 q6 q7 q8
 have ⟨⟨_,q0⟩,⟨_,q1⟩,⟨_,q2⟩,⟨_,q3⟩,⟨_,q4⟩,⟨_,q5⟩,⟨_,q6⟩,⟨_,q7⟩,⟨_,q8⟩,_⟩:=D6.out.kept.cells
 have fr:=(D6.out.kept.free (w.heap.size+1) (List.mem_singleton.2 rfl)).2
 have n1:w.heap.size+1≠b2:=by have:=D6.out.lo;omega
 go_wp2
 refine bodyPost_ret (zak rfl _ _ _ [.slice (some ⟨gT,0,none⟩) T.length dT,.slice (some ⟨gO,0,none⟩) FO.length dO,.slice (some ⟨gP,0,none⟩) FP.length dP] rfl (zcw (u0:=.slice none 0 0) (u1:=.slice none 0 0) (u2:=.slice none 0 0) _ _ _ q3 q4 q5) Tryz.underlying27 rfl (by kernel_rfl)) rfl ?_
 have hfin:=zwt D6.out (a:=.slice (some ⟨gT,0,none⟩) T.length dT) (b:=.slice (some ⟨gO,0,none⟩) FO.length dO) (c:=.slice (some ⟨gP,0,none⟩) FP.length dP)
 exact ⟨_,_,_,_,_,_,_,_,_,rfl,hfin.1,hfin.2⟩
theorem zq5 (x y:Int) (w:World):Calls Tryz.prog 83 #[.int .i64 x,.int .i64 y] w fun e w'=>e=.returned (.int .i64 (max x y))∧w'=w:=by
 rcases Int.lt_trichotomy x y with h|h|h
 ·rw [Int.max_eq_right (by omega)]
  go_enter Tryz.func83,Tryz.ntmps83
  go_wp2
  go_ret
  exact ⟨rfl,rfl⟩
 ·subst h
  rw [Int.max_eq_right (by omega)]
  go_enter Tryz.func83,Tryz.ntmps83
  go_wp2
  go_ret
  exact ⟨rfl,rfl⟩
 ·rw [Int.max_eq_left (by omega)]
  go_enter Tryz.func83,Tryz.ntmps83
  go_wp2
  go_ret
  exact ⟨rfl,rfl⟩
theorem znv {w:World} {aT aO aP:Option Addr} (cT cO cP:Nat) {T O P:List Q4} (leaf now n:Int) (hT:Quad w.heap.size w aT T) (hO:Quad w.heap.size w aO O) (hP:Quad w.heap.size w aP P) (h1:zcx T O P leaf now n=true) (kk:Nat) (hwho:zf2 T O P leaf now n=kk) :
 Calls Tryz.prog 175 #[zdb aT T.length cT aO O.length cO aP P.length cP,.int .i64 leaf,.int .i64 now,.int .i64 n] w (zgz w T (zcz n kk (zao now O) (zap T leaf) (zap T leaf).length) (zet n (zao now P) (zap T leaf) (zap T leaf).length) true):=by
 have KW:Hid (Kept w [(w.heap.size,0,.slice aT T.length cT),(w.heap.size,1,.slice aO O.length cO),(w.heap.size,2,.slice aP P.length cP),(w.heap.size+1,0,.slice none 0 0),(w.heap.size+1,1,.slice none 0 0),(w.heap.size+1,2,.slice none 0 0)] [w.heap.size+1] ((w.alloc (.cells #[.slice aT T.length cT,.slice aO O.length cO,.slice aP P.length cP] 27)).alloc (.cells #[.slice none 0 0,.slice none 0 0,.slice none 0 0] 27))) :=
  ⟨⟨⟨by simp <;> omega,by go_simp⟩,⟨by simp <;> omega,by go_simp⟩,⟨by simp <;> omega,by go_simp⟩,⟨by simp,by go_simp⟩,⟨by simp,by go_simp⟩,⟨by simp,by go_simp⟩,trivial⟩,
   (fun b hb=>by simp only [List.mem_cons,List.not_mem_nil,or_false] at hb;subst hb;exact ⟨by simp,fun o=>by go_simp⟩),by go_grown⟩
 have nb:=KW.out.hb
 have zW:((w.alloc (.cells #[.slice aT T.length cT,.slice aO O.length cO,.slice aP P.length cP] 27)).alloc (.cells #[.slice none 0 0,.slice none 0 0,.slice none 0 0] 27)).heap.size=w.heap.size+2:=by simp
 have htold:=zla cT cO cP h1 (hT.here nb) (hO.here nb) (hP.here nb)
 have ht:=zwj h1
 have hd:=ht.lend
 have hw:=hd.tree.sound.well
 have h30:=hd.tree.l1
 have h01:=hd.tree.l0
 have lO:=hd.lo
 have lP:=hd.lp
 have okO:∀k (h:k<O.length),zh6 O[k]=true:=fun k h=>(zd0 (hd.pair k (by omega) h (by omega))).oka
 have okP:∀k (h:k<P.length),zh6 P[k]=true:=fun k h=>(zd0 (hd.pair k (by omega) (by omega) h)).okb
 have hnow:=ht.isTime
 have hsg:=zi0 ht.isSeg
 have l0:=ht.l0
 have l1:=ht.l1
 have hpl:(zap T leaf).length≤30:=Nat.le_trans (zgb l1) h30
 have hpi:∀j (h:j<(zap T leaf).length),0≤(zap T leaf)[j]∧(zap T leaf)[j]<((zao now P).length:Int):=fun j h=>by
  have:=zha hw T.length leaf l1 (by omega) _ (List.getElem_mem h)
  rw [zan,lP]
  omega
 have hpath:=fun (W:World) (hq:Quad W.heap.size W aT T)=>zfk cT leaf hq hw h30 (by omega) l1
 have hfill:=fun (W:World) (q1:Quad W.heap.size W aT T) (q2:Quad W.heap.size W aO O) (q3:Quad W.heap.size W aP P)=>zi8 cT cO cP now q1 q2 q3 ⟨h01,h30⟩ lO lP hnow okO okP
 have hle:(zao now O).length=(zao now P).length:=by rw [zan,zan,lO,lP]
 have hlp30:(zao now P).length≤30:=by rw [zan,lP];exact h30
 have hask:∀(W:World) (gT dT gO dO gP dP cL:Nat) (aL:Option Addr),Quad W.heap.size W (some ⟨gO,0,none⟩) (zao now O)→Quad W.heap.size W (some ⟨gP,0,none⟩) (zao now P)→ISmp W.heap.size W aL (zap T leaf) →
  Calls Tryz.prog 195 #[zdb (some ⟨gT,0,none⟩) T.length dT (some ⟨gO,0,none⟩) (zao now O).length dO (some ⟨gP,0,none⟩) (zao now P).length dP,.slice aL (zap T leaf).length cL,.int .i64 n] W fun e w'=>e=.returned (.int .i64 (kk:Int))∧Below W.heap.size W w':=by
  intro W gT dT gO dO gP dP cL aL q2 q3 iL
  have h:=zld (aT:=some ⟨gT,0,none⟩) T.length dT dO dP cL q2 q3 iL hle hlp30 hpi hpl hsg
  have e:zhy (zao now O) (zao now P) n (zap T leaf)=kk:=hwho
  rw [e] at h
  exact h
 have hkk:(kk:Int)≤30:=by have:=zpo T O P leaf now n;rw [hwho] at this;omega
 have lvO:LvlIn 0 1000000000000000000 (zao now O):=fun i h=>by
  have hi:i<O.length:=by rw [zan] at h;exact h
  have hb:=zdl (zik (okO i hi) hnow)
  rw [zdr hi h]
  have:=hb.2.1
  have:=hb.2.2.1
  omega
 have lvP:LvlIn 0 1000000000000000000 (zao now P):=fun i h=>by
  have hi:i<P.length:=by rw [zan] at h;exact h
  have hb:=zdl (zik (okP i hi) hnow)
  rw [zdr hi h]
  have:=hb.2.1
  have:=hb.2.2.1
  omega
 have hlFO:(zao now O).length=T.length:=by rw [zan,lO]
 have hlFP:(zao now P).length=T.length:=by rw [zan,lP]
 have hpj:∀j (h:j<(zap T leaf).length),0≤(zap T leaf)[j]∧(zap T leaf)[j]<(T.length:Int):=fun j h=>by have:=hpi j h;rw [hlFP] at this;exact this
 clear ht hd hle hlp30 hpi lO lP okO okP hw hwho
 obtain ⟨FO,hFO⟩:∃X,zao now O=X:=⟨_,rfl⟩
 obtain ⟨FP,hFP⟩:∃X,zao now P=X:=⟨_,rfl⟩
 rw [hFO] at hfill hask lvO hlFO
 rw [hFP] at hfill hask lvP hlFP
 rw [hFO,hFP]
 clear hFO hFP
 have HLO:Hid (FO.length=T.length):=hlFO
 have HLP:Hid (FP.length=T.length):=hlFP
 clear hlFO hlFP
 obtain ⟨L,hL⟩:∃L,zap T leaf=L:=⟨_,rfl⟩
 rw [hL] at hpath hask hpl hpj ⊢
 clear hL
 go_enter Tryz.func175,Tryz.ntmps175
 go_upto_region 3 with (go_at_call 197;refine htold.mono ?_;clear htold;rintro e w2 ⟨rfl,hb2⟩;have K2:Hid (Kept w [(w.heap.size,0,.slice aT T.length cT),(w.heap.size,1,.slice aO O.length cO),(w.heap.size,2,.slice aP P.length cP),(w.heap.size+1,0,.slice none 0 0),(w.heap.size+1,1,.slice none 0 0),(w.heap.size+1,2,.slice none 0 0)] [w.heap.size+1] w2):=KW.out.next hb2;have ⟨⟨_,q0⟩,⟨_,q1⟩,⟨_,q2⟩,⟨_,q3⟩,⟨_,q4⟩,⟨_,q5⟩,_⟩:=K2.out.cells)
 have hbw2:=K2.out.hb
 have zs2:=hb2.size
 rw [zW] at zs2
 go_upto_region 4 with (go_at_call 90;refine (hfill _ (hT.here hbw2) (hO.here hbw2) (hP.here hbw2)).mono ?_;rintro e w4 ⟨gT,dT,gO,dO,gP,dP,rfl,r1,r2,r3,hap,hb4⟩)
 have D:Hid (FlSt w (w4.alloc (.cells #[.slice (some ⟨gT,0,none⟩) T.length dT,.slice (some ⟨gO,0,none⟩) FO.length dO,.slice (some ⟨gP,0,none⟩) FP.length dP] 27)) w4.heap.size (.slice aT T.length cT) (.slice aO O.length cO) (.slice aP P.length cP) gT dT gO dO gP dP T FO FP):=by
  have K5:=(K2.out.next hb4).next (zac w4 (.cells #[.slice (some ⟨gT,0,none⟩) T.length dT,.slice (some ⟨gO,0,none⟩) FO.length dO,.slice (some ⟨gP,0,none⟩) FP.length dP] 27))
  obtain ⟨⟨e0,e1,e2,e3,e4,e5,_⟩,hf,hbb⟩:=K5
  have hs:=hb4.size
  exact ⟨⟨⟨e0,e1,e2,e3,e4,e5,⟨by simp,by go_simp⟩,⟨by simp,by go_simp⟩,⟨by simp,by go_simp⟩,trivial⟩,hf,hbb⟩,(zca r1 zs2).alloc _,(zca r2 zs2).alloc _,(zca r3 zs2).alloc _,hap,by omega,(r2.lt gO rfl).2,(r3.lt gP rfl).2,(r1.lt gT rfl).2⟩
 clear r1 r2 r3 K2 q0 q1 q2 q3 q4 q5 hb4
 obtain ⟨v0,hv0⟩:∃v,w4.alloc (.cells #[.slice (some ⟨gT,0,none⟩) T.length dT,.slice (some ⟨gO,0,none⟩) FO.length dO,.slice (some ⟨gP,0,none⟩) FP.length dP] 27)=v:=⟨_,rfl⟩
 rw [hv0] at D ⊢
 obtain ⟨b2,hbb2⟩:∃b,w4.heap.size=b:=⟨_,rfl⟩
 rw [hbb2] at D ⊢
 have hbv:b2<v0.heap.size:=by rw [←hv0,←hbb2];simp
 clear hv0 hbb2
 have ⟨⟨_,q0⟩,⟨_,q1⟩,⟨_,q2⟩,⟨_,q3⟩,⟨_,q4⟩,⟨_,q5⟩,⟨_,q6⟩,⟨_,q7⟩,⟨_,q8⟩,_⟩:=D.out.kept.cells
 have hbw5:=D.out.kept.hb
 go_upto_region 5 with (go_at_call 196;refine (hpath _ (hT.here hbw5)).mono ?_;rintro e w5 ⟨aL,nL,cL,rfl,ivL,hb5⟩)
 obtain ⟨aL',cL',eL,isL⟩:=ivL.smp
 injection eL with eL1 eL2 eL3
 subst eL1 eL2
 clear eL3
 have D5:Hid (FlSt w w5 b2 (.slice aT T.length cT) (.slice aO O.length cO) (.slice aP P.length cP) gT dT gO dO gP dP T FO FP):=D.out.next hb5
 clear D q0 q1 q2 q3 q4 q5 q6 q7 q8
 have ⟨⟨_,q0⟩,⟨_,q1⟩,⟨_,q2⟩,⟨_,q3⟩,⟨_,q4⟩,⟨_,q5⟩,⟨_,q6⟩,⟨_,q7⟩,⟨_,q8⟩,_⟩:=D5.out.kept.cells
 have ha:=hask w5 gT dT gO dO gP dP cL aL (zf1 D5.out.rO) (zf1 D5.out.rP) isL
 go_upto_region 6 with (go_at_call 195;refine ha.mono ?_;clear ha;rintro e w6 ⟨rfl,hb6⟩)
 have ivL6:=ivL.next hb6
 have D6:Hid (FlSt w w6 b2 (.slice aT T.length cT) (.slice aO O.length cO) (.slice aP P.length cP) gT dT gO dO gP dP T FO FP):=D5.out.next hb6
 clear D5 q0 q1 q2 q3 q4 q5 q6 q7 q8
 have hTi:(T.length:Int)≤30:=by omega
 have hLi:(L.length:Int)≤30:=by omega
 have hn0:=hsg.1
 have hn1:=hsg.2
 have hkn:decide ((kk:Int)<0)=false:=decide_eq_false (by omega)
 go_wp2
 go_loopw [13] (fun i wr=>∃(j:Nat) (X Y:List Q4),i=.int .i64 j∧j≤L.length∧Hid (X=zcz n kk FO L j)∧Hid (Y=zet n FP L j)∧Hid (IV wr (b2+1) (.slice aL L.length cL) L)∧Hid (FlSt w wr b2 (.slice aT T.length cT) (.slice aO O.length cO) (.slice aP P.length cP) gT dT gO dO gP dP T X Y)) (fun i _=>L.length-(intOf i).toNat)
 case atStart=>exact ⟨0,FO,FP,rfl,by omega,rfl,rfl,ivL6.lower (by omega),D6⟩
 case round =>
  clear D6 ivL6
  obtain ⟨j,X,Y,rfl,hj,HX,HY,IL,D⟩:=hrel
  have HLX:Hid (X.length=T.length):=by show X.length=T.length;rw [HX.out,zef,HLO.out]
  have HLY:Hid (Y.length=T.length):=by show Y.length=T.length;rw [HY.out,zee,HLP.out]
  have ⟨⟨_,q0⟩,⟨_,q1⟩,⟨_,q2⟩,⟨_,q3⟩,⟨_,q4⟩,⟨_,q5⟩,⟨_,q6⟩,⟨_,q7⟩,⟨_,q8⟩,_⟩:=D.out.kept.cells
  rw [HLX.out] at q7
  rw [HLY.out] at q8
  have hbw:=D.out.kept.hb
  by_cases hlt:j<L.length
  ·have hlt':(j:Int)<(L.length:Int):=by omega
   have hc:=hpj j hlt
   have HT:Hid (zet n FP L (j+1)=zgi (zej n) (zet n FP L j) L[j]):=zm4 hlt
   have HO1:Hid ((kk:Int)≤(j:Int)→zcz n kk FO L (j+1)=zgi (zek n) (zcz n kk FO L j) L[j]):=zwr hlt
   have HO2:Hid (¬(kk:Int)≤(j:Int)→zcz n kk FO L (j+1)=zcz n kk FO L j):=zyh hlt
   obtain ⟨aL1,cL1,eL,is1⟩:=IL.out.smp
   injection eL with eL1 eL2 eL3
   subst eL1
   clear eL2 eL3
   obtain ⟨bL,oL,rfl,hbL,yL⟩:=is1 j hlt
   have hbL2:=(IL.out.own (g:=bL) rfl).1
   obtain ⟨cc,hcc⟩:∃c:Nat,L[j]=(c:Int):=⟨L[j].toNat,by omega⟩
   have HCC:Hid (L[j]=(cc:Int)):=hcc
   rw [hcc] at yL hc HT HO1
   clear hcc is1
   have hcY:cc<Y.length:=by have:=HLY.out;omega
   have hcX:cc<X.length:=by have:=HLX.out;omega
   have HYN:Hid (zet n FP L (j+1)=Y.set cc (zej n Y[cc])):=by show _=_;rw [HT.out,←HY.out,zth hcY]
   have HX1:Hid ((kk:Int)≤(j:Int)→zcz n kk FO L (j+1)=X.set cc (zek n X[cc])):=by
    intro h
    rw [HO1.out h,←HX.out,zth hcX]
   have HX2:Hid (¬(kk:Int)≤(j:Int)→zcz n kk FO L (j+1)=X):=by
    intro h
    rw [HO2.out h,←HX.out]
   clear HT HO1 HO2
   have hc1:(cc:Int)<(T.length:Int):=hc.2
   obtain ⟨x0,x1,x2,x3⟩:=(zf1 D.out.rP).cells (Below.refl _ _) cc hcY
   have hv:=zjb (L:=L) hsg lvP j
   rw [←HY.out] at hv
   have hv:=hv cc hcY
   have HD:∀m:Nat,Hid (FlSt w ((wr.drewN m).setCell ⟨gP,cc*4+2,none⟩ (.int .i64 (Y[cc].2.2.1-1000000000*n))) b2 (.slice aT T.length cT) (.slice aO O.length cO) (.slice aP P.length cP) gT dT gO dO gP dP T X (Y.set cc (zej n Y[cc]))):=fun m=>(D.out.next (zam (Below.refl _ _) m)).lvlP cc hcY _
   obtain ⟨b,hb⟩:∃b,Y[cc]=b:=⟨_,rfl⟩
   rw [hb] at x2 hv HYN HD
   obtain ⟨r,u,l,t⟩:=b
   simp only [Nat.zero_add] at x2 hv
   clear hb x0 x1 x3
   have hv0:=hv.1
   have hv1:=hv.2
   clear hv hpj hask hpath hfill
   have z0:∀j,wr.frozen? ⟨gP,j,none⟩=false:=fun j=>D.out.rP.frozenAt j
   have nPL:gP≠bL:=by have:=D.out.nP;omega
   have hI:∀(m:Nat) (v:Value),Hid (IV ((wr.drewN m).setCell ⟨gP,cc*4+2,none⟩ v) (b2+1) (.slice (some ⟨bL,oL,none⟩) L.length cL) L):=fun m v=>(IL.out.next (zam (Below.refl _ _) m)).onlyO (OnlyO.of_only ((Only.refl gP _).setCell rfl _)) (fun g hg e=>nPL ((Option.some.inj e).trans (Option.some.inj hg).symm))
   go_upto_region 11 with (fail)
   go_quiet (fail)
   go_upto_region 13 with (fail)
   have D1:Hid (FlSt w ((wr.drewN nq).setCell ⟨gP,cc*4+2,none⟩ (.int .i64 (l-1000000000*n))) b2 (.slice aT T.length cT) (.slice aO O.length cO) (.slice aP P.length cP) gT dT gO dO gP dP T X (Y.set cc (zej n (r,u,l,t)))):=HD nq
   have I1:=hI nq (.int .i64 (l-1000000000*n))
   obtain ⟨wq,hwq⟩:∃v,(wr.drewN nq).setCell ⟨gP,cc*4+2,none⟩ (.int .i64 (l-1000000000*n))=v:=⟨_,rfl⟩
   rw [hwq] at D1 I1 ⊢
   clear hwq HD hI D IL q0 q1 q2 q3 q4 q5 q6 q7 q8 z0 x2 yL hbw
   obtain ⟨Y1,hY1⟩:∃Z,Y.set cc (zej n (r,u,l,t))=Z:=⟨_,rfl⟩
   rw [hY1] at D1 HYN
   have HLY1:Hid (Y1.length=T.length):=by rw [←hY1];show (Y.set cc _).length=T.length;rw [List.length_set];exact HLY.out
   have HY1:Hid (Y1=zet n FP L (j+1)):=HYN.out.symm
   clear hY1 HYN HY HLY hcY hv0 hv1
   by_cases hk:(kk:Int)≤(j:Int)
   ·have ⟨⟨_,q0⟩,⟨_,q1⟩,⟨_,q2⟩,⟨_,q3⟩,⟨_,q4⟩,⟨_,q5⟩,⟨_,q6⟩,⟨_,q7⟩,⟨_,q8⟩,_⟩:=D1.out.kept.cells
    rw [HLX.out] at q7
    rw [HLY1.out] at q8
    obtain ⟨aL1,cL1',eL,is1⟩:=I1.out.smp
    injection eL with eL1 eL2 eL3
    subst eL1
    clear eL2 eL3
    have HXN:Hid (zcz n kk FO L (j+1)=X.set cc (zek n X[cc])):=HX1.out hk
    clear HX1 HX2
    obtain ⟨x0,x1,x2,x3⟩:=(zf1 D1.out.rO).cells (Below.refl _ _) cc hcX
    have hv:=zm6 (L:=L) (k:=kk) hsg lvO j
    rw [←HX.out] at hv
    have hv:=hv cc hcX
    have z0:∀j,wq.frozen? ⟨gO,j,none⟩=false:=fun j=>D1.out.rO.frozenAt j
    have nOL:gO≠bL:=by have:=D1.out.nO;omega
    obtain ⟨bL',oL',eL,_,yL⟩:=is1 j hlt
    cases eL
    rw [HCC.out] at yL
    have HD:∀m:Nat,Hid (FlSt w ((wq.drewN m).setCell ⟨gO,cc*4+2,none⟩ (.int .i64 (max 0 (X[cc].2.2.1-1000000000*n)))) b2 (.slice aT T.length cT) (.slice aO O.length cO) (.slice aP P.length cP) gT dT gO dO gP dP T (X.set cc (zek n X[cc])) Y1):=fun m=>(D1.out.next (zam (Below.refl _ _) m)).lvlO cc hcX _
    have hI:∀(m:Nat) (v:Value),Hid (IV ((wq.drewN m).setCell ⟨gO,cc*4+2,none⟩ v) (b2+1) (.slice (some ⟨bL,oL,none⟩) L.length cL) L):=fun m v=>(I1.out.next (zam (Below.refl _ _) m)).onlyO (OnlyO.of_only ((Only.refl gO _).setCell rfl _)) (fun g hg e=>nOL ((Option.some.inj e).trans (Option.some.inj hg).symm))
    obtain ⟨b,hb⟩:∃b,X[cc]=b:=⟨_,rfl⟩
    rw [hb] at x2 hv HXN HD
    obtain ⟨r',u',l',t'⟩:=b
    simp only [Nat.zero_add] at x2 hv
    clear hb x0 x1 x3
    have hv0:=hv.1
    have hv1:=hv.2
    clear hv
    have HX3:Hid (X.set cc (zek n (r',u',l',t'))=zcz n kk FO L (j+1)):=HXN.out.symm
    clear HXN HX
    go_upto_region 14 with (fail)
    go_quiet (fail)
    go_wp2_with (first|(go_at_call 83;refine (zq5 _ _ _).mono ?_;rintro e w9 ⟨rfl,rfl⟩))
    go_roundw
    all_goals first
     | exact ⟨j+1,_,Y1,by go_num,by omega,HX3,HY1,hI _ _,HD _⟩
     | (simp [intOf];done)
     | (simp [intOf];omega)
   ·have HXN:Hid (zcz n kk FO L (j+1)=X):=HX2.out hk
    clear HX1 HX2
    have HX3:Hid (X=zcz n kk FO L (j+1)):=HXN.out.symm
    have hk':¬(kk:Int)≤(j:Int):=hk
    go_wp2
    go_roundw
    all_goals first
     | exact ⟨j+1,X,Y1,by go_num,by omega,HX3,HY1,I1,D1⟩
     | (simp [intOf];done)
     | (simp [intOf];omega)
  ·have e:j=L.length:=by omega
   subst e
   have fr:=(D.out.kept.free (w.heap.size+1) (List.mem_singleton.2 rfl)).2
   have n1:w.heap.size+1≠b2:=by have:=D.out.lo;omega
   have hfin:=zwt D.out (a:=.slice (some ⟨gT,0,none⟩) T.length dT) (b:=.slice (some ⟨gO,0,none⟩) X.length dO) (c:=.slice (some ⟨gP,0,none⟩) Y.length dP)
   rw [HLX.out,HLY.out] at hfin
   go_wp2
   refine bodyPost_ret (zak rfl _ _ _ [.slice (some ⟨gT,0,none⟩) T.length dT,.slice (some ⟨gO,0,none⟩) T.length dO,.slice (some ⟨gP,0,none⟩) T.length dP] rfl (zcw (u0:=.slice none 0 0) (u1:=.slice none 0 0) (u2:=.slice none 0 0) _ _ _ q3 q4 q5) Tryz.underlying27 rfl (by kernel_rfl)) rfl ?_
   rw [←HX.out,←HY.out]
   exact ⟨_,_,_,_,_,_,_,_,_,rfl,hfin.1,hfin.2⟩
theorem znw {w:World} {aT aO aP:Option Addr} (cT cO cP:Nat) {T O P:List Q4} (leaf now n:Int) (hT:Quad w.heap.size w aT T) (hO:Quad w.heap.size w aO O) (hP:Quad w.heap.size w aP P) :
 Calls Tryz.prog 175 #[zdb aT T.length cT aO O.length cO aP P.length cP,.int .i64 leaf,.int .i64 now,.int .i64 n] w (zgz w (zws T O P leaf now n) (zg0 T O P leaf now n) (zg1 T O P leaf now n) (zm5 T O P leaf now n)):=by
 unfold zws zg0 zg1 zm5
 cases h1:zcx T O P leaf now n
 ·exact zpt cT cO cP leaf now n hT hO hP h1
 ·rcases zpo T O P leaf now n with h2|h2
  ·have e:=zmg cT cO cP leaf now n hT hO hP h1 h2
   rw [h2]
   exact e
  ·obtain ⟨k,hk⟩:∃k:Nat,zf2 T O P leaf now n=k:=⟨(zf2 T O P leaf now n).toNat,by omega⟩
   have e:=znv cT cO cP leaf now n hT hO hP h1 k hk
   have hn:¬((k:Int)<0):=by omega
   have hd:decide (0≤(k:Int))=true:=decide_eq_true (by omega)
   rw [hk,hd,if_pos rfl,if_neg hn,if_pos rfl,if_neg hn,if_pos rfl]
   exact e
end Go.Proofs.YthiojkjcmhojoaaGreat
