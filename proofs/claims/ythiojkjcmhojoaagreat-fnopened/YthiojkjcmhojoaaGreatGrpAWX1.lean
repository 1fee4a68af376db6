import Derived.Test.YthiojkjcmhojoaaGreatGrpAW
namespace Go.Proofs.YthiojkjcmhojoaaGreat
set_option maxHeartbeats 16000000
open Go.ChangeShapes Go.WideShapes Go.ChangeAt Go.RowKit
set_option maxRecDepth 100000
set_option linter.unusedVariables false
set_option linter.unusedSimpArgs false
def resetQ (now r u:Int) (b:Q4):Q4:=resetOf b.1 b.2.1 b.2.2.1 b.2.2.2 r u now
def movO (S O:List Q4) (now:Int):List Q4:=List.zipWith (fun b t=>resetQ now t.2.1 t.2.2.2 b) O S
def movP (S P:List Q4) (now:Int):List Q4:=List.zipWith (fun b t=>resetQ now t.2.2.1 t.2.2.2 b) P S
def movB (T O P S:List Q4) (now:Int):Bool:=((lendB T O P && decide (treeCode S=0)) && decide (S.length=T.length)) && (decide (atOf O≤now) && decide (now≤1000000000000000))
theorem movO_length {S O:List Q4} {now:Int} (h:O.length=S.length):(movO S O now).length=S.length:=by unfold movO;rw [List.length_zipWith];omega
theorem movP_length {S P:List Q4} {now:Int} (h:P.length=S.length):(movP S P now).length=S.length:=by unfold movP;rw [List.length_zipWith];omega
theorem at_time {T O P:List Q4} (h:IsLend T O P):0≤atOf O∧atOf O≤1000000000000000:=by
 have l0:=h.tree.l0
 have hO:0<O.length:=by rw [h.lo];omega
 have hP:0<P.length:=by rw [h.lp];omega
 have hp:=pair_ok (h.pair 0 (by omega) hO hP)
 have hb:=bok_num hp.oka
 have e:O[0].2.2.2=atOf O:=hp.ta
 rw [←e]
 exact hb.2.2.2
def lvlQ (q:Q4) (l:Int):Q4:=(q.1,q.2.1,l,q.2.2.2)
def takeTop (n:Int) (q:Q4):Q4:=lvlQ q (q.2.2.1-1000000000*n)
def takeOwn (n:Int) (q:Q4):Q4:=lvlQ q (max 0 (q.2.2.1-1000000000*n))
def modAt (f:Q4→Q4) (xs:List Q4) (c:Int):List Q4:=match xs[c.toNat]? with|some q=>xs.set c.toNat (f q)|none=>xs
theorem modAt_at {f:Q4→Q4} {xs:List Q4} {i:Nat} (h:i<xs.length):modAt f xs (i:Int)=xs.set i (f xs[i]):=by unfold modAt;rw [Int.toNat_natCast,List.getElem?_eq_getElem h]
theorem modAt_length (f:Q4→Q4) (xs:List Q4) (c:Int):(modAt f xs c).length=xs.length:=by
 unfold modAt
 split
 ·rw [List.length_set]
 ·rfl
def topTo (n:Int) (P:List Q4) (L:List Int):Nat→List Q4
 | 0=>P
 | j+1=>match L[j]? with|some c=>modAt (takeTop n) (topTo n P L j) c|none=>topTo n P L j
def ownTo (n:Int) (k:Int) (O:List Q4) (L:List Int):Nat→List Q4
 | 0=>O
 | j+1=>match L[j]? with|some c=>if k≤(j:Int) then modAt (takeOwn n) (ownTo n k O L j) c else ownTo n k O L j|none=>ownTo n k O L j
theorem topTo_length (n:Int) (P:List Q4) (L:List Int):∀j,(topTo n P L j).length=P.length
 | 0=>rfl
 | j+1=>by
  unfold topTo
  split
  ·rw [modAt_length,topTo_length n P L j]
  ·exact topTo_length n P L j
theorem ownTo_length (n k:Int) (O:List Q4) (L:List Int):∀j,(ownTo n k O L j).length=O.length
 | 0=>rfl
 | j+1=>by
  unfold ownTo
  split
  ·split
   ·rw [modAt_length,ownTo_length n k O L j]
   ·exact ownTo_length n k O L j
  ·exact ownTo_length n k O L j
theorem topTo_next {n:Int} {P:List Q4} {L:List Int} {j:Nat} (h:j<L.length):topTo n P L (j+1)=modAt (takeTop n) (topTo n P L j) L[j]:=by
 show (match L[j]? with|some c=>modAt (takeTop n) (topTo n P L j) c|none=>topTo n P L j)=_
 rw [List.getElem?_eq_getElem h]
theorem ownTo_yes {n k:Int} {O:List Q4} {L:List Int} {j:Nat} (h:j<L.length) (hk:k≤(j:Int)):ownTo n k O L (j+1)=modAt (takeOwn n) (ownTo n k O L j) L[j]:=by
 show (match L[j]? with|some c=>if k≤(j:Int) then modAt (takeOwn n) (ownTo n k O L j) c else ownTo n k O L j|none=>ownTo n k O L j)=_
 rw [List.getElem?_eq_getElem h]
 simp only [if_pos hk]
theorem ownTo_no {n k:Int} {O:List Q4} {L:List Int} {j:Nat} (h:j<L.length) (hk:¬k≤(j:Int)):ownTo n k O L (j+1)=ownTo n k O L j:=by
 show (match L[j]? with|some c=>if k≤(j:Int) then modAt (takeOwn n) (ownTo n k O L j) c else ownTo n k O L j|none=>ownTo n k O L j)=_
 rw [List.getElem?_eq_getElem h]
 simp only [if_neg hk]
def spendF (T O P:List Q4) (leaf now n:Int):Bool:=toldB T O P leaf now n && decide (0≤whoOf T O P leaf now n)
def spendT (T O P:List Q4) (leaf now n:Int):List Q4:=if toldB T O P leaf now n=true then T else []
def spendO (T O P:List Q4) (leaf now n:Int):List Q4:=if toldB T O P leaf now n=true then (if whoOf T O P leaf now n<0 then fills now O else ownTo n (whoOf T O P leaf now n) (fills now O) (pathOf T leaf) (pathOf T leaf).length) else []
def spendP (T O P:List Q4) (leaf now n:Int):List Q4:=if toldB T O P leaf now n=true then (if whoOf T O P leaf now n<0 then fills now P else topTo n (fills now P) (pathOf T leaf) (pathOf T leaf).length) else []
theorem flatQ_lvl (xs:List Q4):∀(i:Nat) (h:i<xs.length) (l:Int),(flatQ xs).set (i*4+2) (.int .i64 l)=flatQ (xs.set i (lvlQ xs[i] l)):=by
 induction xs with
 | nil=>intro i h;cases h
 | cons x xs ih =>
  intro i h l
  cases i with
  | zero=>rfl
  | succ i =>
   have hi:i<xs.length:=by simpa using h
   have e:flatQ (x :: xs)=Value.int .i64 x.1 :: Value.int .i64 x.2.1 :: Value.int .i64 x.2.2.1 :: Value.int .i64 x.2.2.2 :: flatQ xs:=rfl
   rw [e,show (i+1)*4+2=i*4+2+1+1+1+1 by omega]
   show Value.int .i64 x.1 :: Value.int .i64 x.2.1 :: Value.int .i64 x.2.2.1 :: Value.int .i64 x.2.2.2 :: (flatQ xs).set (i*4+2) (.int .i64 l)=flatQ (x :: xs.set i (lvlQ xs[i] l))
   rw [ih i hi l]
   rfl
section
variable {w W:World} {b2:Nat} {sT sO sP:Value} {gT cT gO cO gP cP:Nat} {T X Y:List Q4}
theorem FlSt.lvlO (d:FlSt w W b2 sT sO sP gT cT gO cO gP cP T X Y) (i:Nat) (h:i<X.length) (l:Int):FlSt w (W.setCell ⟨gO,i*4+2,none⟩ (.int .i64 l)) b2 sT sO sP gT cT gO cO gP cP T (X.set i (lvlQ X[i] l)) Y:=by
 have hl:=d.low
 have hg:=grown_set W gO (i*4+2) (.int .i64 l)
 have hne:=d.nO
 have k:=d.keeps hg hl.1 (by omega) d.kept FlSt.cellsOk (fun b hb=>by simp only [List.mem_cons,List.not_mem_nil,or_false] at hb;omega)
 have ro:=(d.rO.stored (i*4+2) (.int .i64 l)).1
 rw [flatQ_lvl X i h l] at ro
 refine ⟨?_,d.rT.kept hg (rows_keep d.rT d.rO (by decide)),?_,d.rP.kept hg (.inr (fun e=>d.ap (Option.some.inj e).symm)),d.ap,d.lo,d.nO,d.nP,d.nT⟩
 ·rw [List.length_set];exact k
 ·rw [List.length_set];exact ro
theorem FlSt.lvlP (d:FlSt w W b2 sT sO sP gT cT gO cO gP cP T X Y) (i:Nat) (h:i<Y.length) (l:Int):FlSt w (W.setCell ⟨gP,i*4+2,none⟩ (.int .i64 l)) b2 sT sO sP gT cT gO cO gP cP T X (Y.set i (lvlQ Y[i] l)):=by
 have hl:=d.low
 have hg:=grown_set W gP (i*4+2) (.int .i64 l)
 have hne:=d.nP
 have k:=d.keeps hg hl.2.1 (by omega) d.kept FlSt.cellsOk (fun b hb=>by simp only [List.mem_cons,List.not_mem_nil,or_false] at hb;omega)
 have rp:=(d.rP.stored (i*4+2) (.int .i64 l)).1
 rw [flatQ_lvl Y i h l] at rp
 refine ⟨?_,d.rT.kept hg (rows_keep d.rT d.rP (by decide)),d.rO.kept hg (.inr (fun e=>d.ap (Option.some.inj e))),?_,d.ap,d.lo,d.nO,d.nP,d.nT⟩
 ·rw [List.length_set];exact k
 ·rw [List.length_set];exact rp
end
def LvlIn (a b:Int) (xs:List Q4):Prop:=∀i (h:i<xs.length),a≤xs[i].2.2.1∧xs[i].2.2.1≤b
theorem LvlIn.set {a b:Int} {xs:List Q4} (h:LvlIn a b xs) (i:Nat) (q:Q4) (hq:a≤q.2.2.1∧q.2.2.1≤b):LvlIn a b (xs.set i q):=by
 intro j hj
 rw [List.getElem_set]
 split
 ·exact hq
 ·exact h j (by simpa using hj)
theorem LvlIn.low {a a' b:Int} {xs:List Q4} (h:LvlIn a b xs) (ha:a'≤a):LvlIn a' b xs:=fun i hi=>⟨by have:=(h i hi).1;omega,(h i hi).2⟩
theorem top_levels {n:Int} {P:List Q4} {L:List Int} (hn:1≤n∧n≤1500) (hP:LvlIn 0 1000000000000000000 P):∀j:Nat,LvlIn (-(1500000000000*(j:Int))) 1000000000000000000 (topTo n P L j)
 | 0=>by show LvlIn _ _ P;exact hP.low (by omega)
 | j+1=>by
  have ih:=(top_levels (L:=L) hn hP j).low (a':=-(1500000000000*((j+1:Nat):Int))) (by omega)
  unfold topTo
  split
  ·unfold modAt
   split
   ·rename_i q hq
    obtain ⟨hl,e⟩:=List.getElem?_eq_some_iff.1 hq
    have h0:=top_levels (L:=L) hn hP j _ hl
    rw [e] at h0
    refine ih.set _ _ ?_
    simp only [takeTop,lvlQ]
    omega
   ·exact ih
  ·exact ih
theorem own_levels {n k:Int} {O:List Q4} {L:List Int} (hn:1≤n∧n≤1500) (hO:LvlIn 0 1000000000000000000 O):∀j:Nat,LvlIn 0 1000000000000000000 (ownTo n k O L j)
 | 0=>hO
 | j+1=>by
  have ih:=own_levels (k:=k) (L:=L) hn hO j
  unfold ownTo
  split
  ·split
   ·unfold modAt
    split
    ·rename_i q hq
     obtain ⟨hl,e⟩:=List.getElem?_eq_some_iff.1 hq
     have h0:=ih _ hl
     rw [e] at h0
     refine ih.set _ _ ?_
     simp only [takeOwn,lvlQ]
     omega
    ·exact ih
   ·exact ih
  ·exact ih
theorem eng_read {w:World} {lo hi nT cT nO cO nP cP nL cL nK cK:Nat} {aT aO aP aL aK:Option Addr} {T O P:List Q4} {L:List F8} {K:List Kn} (h:Eng w lo hi (.slice aT nT cT) (.slice aO nO cO) (.slice aP nP cP) (.slice aL nL cL) (.slice aK nK cK) T O P L K) :
 Quad w.heap.size w aT T∧Quad w.heap.size w aO O∧Quad w.heap.size w aP P∧Fls w.heap.size w aL L∧Kls w.heap.size w aK K:=by
 obtain ⟨_,_,_,_,_,_,e⟩:=h
 exact ⟨(e.l.t.quad).2,(e.l.o.quad).2,(e.l.p.quad).2,(e.p.fls).2,(e.k.kls).2⟩
theorem specSpend_no {w:World} {aT aO aP:Option Addr} (cT cO cP:Nat) {T O P:List Q4} (leaf now n:Int) (hT:Quad w.heap.size w aT T) (hO:Quad w.heap.size w aO O) (hP:Quad w.heap.size w aP P) (h1:toldB T O P leaf now n=false) :
 Calls Tryz.prog 175 #[lendV aT T.length cT aO O.length cO aP P.length cP,.int .i64 leaf,.int .i64 now,.int .i64 n] w (NewPost w [] [] [] false):=by
 have KW:Hid (Kept w [(w.heap.size,0,.slice aT T.length cT),(w.heap.size,1,.slice aO O.length cO),(w.heap.size,2,.slice aP P.length cP),(w.heap.size+1,0,.slice none 0 0),(w.heap.size+1,1,.slice none 0 0),(w.heap.size+1,2,.slice none 0 0)] [w.heap.size+1] ((w.alloc (.cells #[.slice aT T.length cT,.slice aO O.length cO,.slice aP P.length cP] 27)).alloc (.cells #[.slice none 0 0,.slice none 0 0,.slice none 0 0] 27))) :=
  ⟨⟨⟨by simp <;> omega,by go_simp⟩,⟨by simp <;> omega,by go_simp⟩,⟨by simp <;> omega,by go_simp⟩,⟨by simp,by go_simp⟩,⟨by simp,by go_simp⟩,⟨by simp,by go_simp⟩,trivial⟩,
   (fun b hb=>by simp only [List.mem_cons,List.not_mem_nil,or_false] at hb;subst hb;exact ⟨by simp,fun o=>by go_simp⟩),by go_grown⟩
 have nb:=KW.out.hb
 have htold:=l7Told_is cT cO cP h1 (hT.here nb) (hO.here nb) (hP.here nb)
 go_enter Tryz.func175,Tryz.ntmps175
 go_wp2_with (go_at_call 197;refine htold.mono ?_;clear htold;rintro e w2 ⟨rfl,hb2⟩;have K2:Hid (Kept w [(w.heap.size,0,.slice aT T.length cT),(w.heap.size,1,.slice aO O.length cO),(w.heap.size,2,.slice aP P.length cP),(w.heap.size+1,0,.slice none 0 0),(w.heap.size+1,1,.slice none 0 0),(w.heap.size+1,2,.slice none 0 0)] [w.heap.size+1] w2):=KW.out.next hb2;have ⟨_,_,_,⟨_,q3⟩,⟨_,q4⟩,⟨_,q5⟩,_⟩:=K2.out.cells;have fr:=(K2.out.free _ (List.mem_singleton.2 rfl)).2)
 refine bodyPost_ret (results_two rfl _ _ _ [.slice none 0 0,.slice none 0 0,.slice none 0 0] rfl (set_three (u0:=.slice none 0 0) (u1:=.slice none 0 0) (u2:=.slice none 0 0) _ _ _ q3 q4 q5) Tryz.underlying27 rfl (by kernel_rfl)) rfl ?_
 exact ⟨_,_,_,_,_,_,_,_,_,rfl,LV.zero _ _,((K2.out.hb.setCell (by simp) _).setCell (by simp) _).setCell (by simp) _⟩
theorem fl_post {w W:World} {b2:Nat} {sT sO sP:Value} {gT cT gO cO gP cP:Nat} {T X Y:List Q4} (d:FlSt w W b2 sT sO sP gT cT gO cO gP cP T X Y) {a b c:Value} :
 LV (((W.setCell ⟨w.heap.size+1,0,none⟩ a).setCell ⟨w.heap.size+1,1,none⟩ b).setCell ⟨w.heap.size+1,2,none⟩ c) w.heap.size (.slice (some ⟨gT,0,none⟩) T.length cT) (.slice (some ⟨gO,0,none⟩) X.length cO) (.slice (some ⟨gP,0,none⟩) Y.length cP) T X Y∧Below w.heap.size w (((W.setCell ⟨w.heap.size+1,0,none⟩ a).setCell ⟨w.heap.size+1,1,none⟩ b).setCell ⟨w.heap.size+1,2,none⟩ c):=by
 refine ⟨⟨own_qv (row_lowC (row_set (row_set (row_set d.rT (by omega)) (by omega)) (by omega)) (by omega)),own_qv (row_lowC (row_set (row_set (row_set d.rO (by omega)) (by omega)) (by omega)) (by omega)),own_qv (row_lowC (row_set (row_set (row_set d.rP (by omega)) (by omega)) (by omega)) (by omega)),?_,?_,?_⟩,((d.kept.hb.setCell (by simp) _).setCell (by simp) _).setCell (by simp) _⟩
 ·exact fun g h1 h2=>rows_apart d.rT d.rO (by decide) g (room_own h1) (room_own h2)
 ·exact fun g h1 h2=>rows_apart d.rT d.rP (by decide) g (room_own h1) (room_own h2)
 ·intro g h1 h2
  have e1:gO=g:=Option.some.inj (room_own h1)
  have e2:gP=g:=Option.some.inj (room_own h2)
  exact d.ap (by omega)
theorem specSpend_none {w:World} {aT aO aP:Option Addr} (cT cO cP:Nat) {T O P:List Q4} (leaf now n:Int) (hT:Quad w.heap.size w aT T) (hO:Quad w.heap.size w aO O) (hP:Quad w.heap.size w aP P) (h1:toldB T O P leaf now n=true) (hwho:whoOf T O P leaf now n = -1) :
 Calls Tryz.prog 175 #[lendV aT T.length cT aO O.length cO aP P.length cP,.int .i64 leaf,.int .i64 now,.int .i64 n] w (NewPost w T (fills now O) (fills now P) false):=by
 have KW:Hid (Kept w [(w.heap.size,0,.slice aT T.length cT),(w.heap.size,1,.slice aO O.length cO),(w.heap.size,2,.slice aP P.length cP),(w.heap.size+1,0,.slice none 0 0),(w.heap.size+1,1,.slice none 0 0),(w.heap.size+1,2,.slice none 0 0)] [w.heap.size+1] ((w.alloc (.cells #[.slice aT T.length cT,.slice aO O.length cO,.slice aP P.length cP] 27)).alloc (.cells #[.slice none 0 0,.slice none 0 0,.slice none 0 0] 27))) :=
  ⟨⟨⟨by simp <;> omega,by go_simp⟩,⟨by simp <;> omega,by go_simp⟩,⟨by simp <;> omega,by go_simp⟩,⟨by simp,by go_simp⟩,⟨by simp,by go_simp⟩,⟨by simp,by go_simp⟩,trivial⟩,
   (fun b hb=>by simp only [List.mem_cons,List.not_mem_nil,or_false] at hb;subst hb;exact ⟨by simp,fun o=>by go_simp⟩),by go_grown⟩
 have nb:=KW.out.hb
 have zW:((w.alloc (.cells #[.slice aT T.length cT,.slice aO O.length cO,.slice aP P.length cP] 27)).alloc (.cells #[.slice none 0 0,.slice none 0 0,.slice none 0 0] 27)).heap.size=w.heap.size+2:=by simp
 have htold:=l7Told_is cT cO cP h1 (hT.here nb) (hO.here nb) (hP.here nb)
 have ht:=told_of h1
 have hd:=ht.lend
 have hw:=hd.tree.sound.well
 have h30:=hd.tree.l1
 have h01:=hd.tree.l0
 have lO:=hd.lo
 have lP:=hd.lp
 have okO:∀k (h:k<O.length),bokQ O[k]=true:=fun k h=>(pair_ok (hd.pair k (by omega) h (by omega))).oka
 have okP:∀k (h:k<P.length),bokQ P[k]=true:=fun k h=>(pair_ok (hd.pair k (by omega) (by omega) h)).okb
 have hnow:=ht.isTime
 have hsg:=seg_num ht.isSeg
 have l0:=ht.l0
 have l1:=ht.l1
 have hpl:(pathOf T leaf).length≤30:=Nat.le_trans (path_length l1) h30
 have hpi:∀j (h:j<(pathOf T leaf).length),0≤(pathOf T leaf)[j]∧(pathOf T leaf)[j]<((fills now P).length:Int):=fun j h=>by
  have:=path_mem hw T.length leaf l1 (by omega) _ (List.getElem_mem h)
  rw [fills_length,lP]
  omega
 have hpath:=fun (W:World) (hq:Quad W.heap.size W aT T)=>specL6Path_any cT leaf hq hw h30 (by omega) l1
 have hfill:=fun (W:World) (q1:Quad W.heap.size W aT T) (q2:Quad W.heap.size W aO O) (q3:Quad W.heap.size W aP P)=>l7Fill_any cT cO cP now q1 q2 q3 ⟨h01,h30⟩ lO lP hnow okO okP
 have hle:(fills now O).length=(fills now P).length:=by rw [fills_length,fills_length,lO,lP]
 have hlp30:(fills now P).length≤30:=by rw [fills_length,lP];exact h30
 have hask:∀(W:World) (gT dT gO dO gP dP cL:Nat) (aL:Option Addr),Quad W.heap.size W (some ⟨gO,0,none⟩) (fills now O)→Quad W.heap.size W (some ⟨gP,0,none⟩) (fills now P)→ISmp W.heap.size W aL (pathOf T leaf) →
  Calls Tryz.prog 195 #[lendV (some ⟨gT,0,none⟩) T.length dT (some ⟨gO,0,none⟩) (fills now O).length dO (some ⟨gP,0,none⟩) (fills now P).length dP,.slice aL (pathOf T leaf).length cL,.int .i64 n] W fun e w'=>e=.returned (.int .i64 (-1))∧Below W.heap.size W w':=by
  intro W gT dT gO dO gP dP cL aL q2 q3 iL
  have h:=l7Ask_any (aT:=some ⟨gT,0,none⟩) T.length dT dO dP cL q2 q3 iL hle hlp30 hpi hpl hsg
  have e:askOf (fills now O) (fills now P) n (pathOf T leaf) = -1:=hwho
  rw [e] at h
  exact h
 clear ht hd hle hlp30 hpi lO lP okO okP hw hwho
 obtain ⟨FO,hFO⟩:∃X,fills now O=X:=⟨_,rfl⟩
 obtain ⟨FP,hFP⟩:∃X,fills now P=X:=⟨_,rfl⟩
 rw [hFO,hFP] at hfill hask
 rw [hFO,hFP]
 clear hFO hFP
 obtain ⟨L,hL⟩:∃L,pathOf T leaf=L:=⟨_,rfl⟩
 rw [hL] at hpath hask hpl
 clear hL
 go_enter Tryz.func175,Tryz.ntmps175
 go_upto_region 3 with (go_at_call 197;refine htold.mono ?_;clear htold;rintro e w2 ⟨rfl,hb2⟩;have K2:Hid (Kept w [(w.heap.size,0,.slice aT T.length cT),(w.heap.size,1,.slice aO O.length cO),(w.heap.size,2,.slice aP P.length cP),(w.heap.size+1,0,.slice none 0 0),(w.heap.size+1,1,.slice none 0 0),(w.heap.size+1,2,.slice none 0 0)] [w.heap.size+1] w2):=KW.out.next hb2;have ⟨⟨_,q0⟩,⟨_,q1⟩,⟨_,q2⟩,⟨_,q3⟩,⟨_,q4⟩,⟨_,q5⟩,_⟩:=K2.out.cells)
 have hbw2:=K2.out.hb
 have zs2:=hb2.size
 rw [zW] at zs2
 go_upto_region 4 with (go_at_call 90;refine (hfill _ (hT.here hbw2) (hO.here hbw2) (hP.here hbw2)).mono ?_;rintro e w4 ⟨gT,dT,gO,dO,gP,dP,rfl,r1,r2,r3,hap,hb4⟩)
 have D:Hid (FlSt w (w4.alloc (.cells #[.slice (some ⟨gT,0,none⟩) T.length dT,.slice (some ⟨gO,0,none⟩) FO.length dO,.slice (some ⟨gP,0,none⟩) FP.length dP] 27)) w4.heap.size (.slice aT T.length cT) (.slice aO O.length cO) (.slice aP P.length cP) gT dT gO dO gP dP T FO FP):=by
  have K5:=(K2.out.next hb4).next (new_below w4 (.cells #[.slice (some ⟨gT,0,none⟩) T.length dT,.slice (some ⟨gO,0,none⟩) FO.length dO,.slice (some ⟨gP,0,none⟩) FP.length dP] 27))
  obtain ⟨⟨e0,e1,e2,e3,e4,e5,_⟩,hf,hbb⟩:=K5
  have hs:=hb4.size
  exact ⟨⟨⟨e0,e1,e2,e3,e4,e5,⟨by simp,by go_simp⟩,⟨by simp,by go_simp⟩,⟨by simp,by go_simp⟩,trivial⟩,hf,hbb⟩,(row_lowC r1 zs2).alloc _,(row_lowC r2 zs2).alloc _,(row_lowC r3 zs2).alloc _,hap,by omega,(r2.lt gO rfl).2,(r3.lt gP rfl).2,(r1.lt gT rfl).2⟩
 clear r1 r2 r3 K2 q0 q1 q2 q3 q4 q5 hb4
 obtain ⟨v0,hv0⟩:∃v,w4.alloc (.cells #[.slice (some ⟨gT,0,none⟩) T.length dT,.slice (some ⟨gO,0,none⟩) FO.length dO,.slice (some ⟨gP,0,none⟩) FP.length dP] 27)=v:=⟨_,rfl⟩
 rw [hv0] at D ⊢
 obtain ⟨b2,hbb2⟩:∃b,w4.heap.size=b:=⟨_,rfl⟩
 rw [hbb2] at D ⊢
 clear hv0 hbb2
 have ⟨⟨_,q0⟩,⟨_,q1⟩,⟨_,q2⟩,⟨_,q3⟩,⟨_,q4⟩,⟨_,q5⟩,⟨_,q6⟩,⟨_,q7⟩,⟨_,q8⟩,_⟩:=D.out.kept.cells
 have hbw5:=D.out.kept.hb
 go_upto_region 5 with (go_at_call 196;refine (hpath _ (hT.here hbw5)).mono ?_;rintro e w5 ⟨aL,nL,cL,rfl,ivL,hb5⟩)
 obtain ⟨aL',cL',eL,isL⟩:=ivL.smp
 injection eL with eL1 eL2 eL3
 subst eL1 eL2
 clear eL3
 have D5:Hid (FlSt w w5 b2 (.slice aT T.length cT) (.slice aO O.length cO) (.slice aP P.length cP) gT dT gO dO gP dP T FO FP):=D.out.next hb5
 clear D q0 q1 q2 q3 q4 q5 q6 q7 q8
 have ⟨⟨_,q0⟩,⟨_,q1⟩,⟨_,q2⟩,⟨_,q3⟩,⟨_,q4⟩,⟨_,q5⟩,⟨_,q6⟩,⟨_,q7⟩,⟨_,q8⟩,_⟩:=D5.out.kept.cells
 have ha:=hask w5 gT dT gO dO gP dP cL aL (own_quadC D5.out.rO) (own_quadC D5.out.rP) isL
 go_upto_region 6 with (go_at_call 195;refine ha.mono ?_;clear ha;rintro e w6 ⟨rfl,hb6⟩)
 have D6:Hid (FlSt w w6 b2 (.slice aT T.length cT) (.slice aO O.length cO) (.slice aP P.length cP) gT dT gO dO gP dP T FO FP):=D5.out.next hb6
 clear D5 q0 q1 q2 q3 q4 q5 q6 q7 q8
 have ⟨⟨_,q0⟩,⟨_,q1⟩,⟨_,q2⟩,⟨_,q3⟩,⟨_,q4⟩,⟨_,q5⟩,⟨_,q6⟩,⟨_,q7⟩,⟨_,q8⟩,_⟩:=D6.out.kept.cells
 have fr:=(D6.out.kept.free (w.heap.size+1) (List.mem_singleton.2 rfl)).2
 have n1:w.heap.size+1≠b2:=by have:=D6.out.lo;omega
 go_wp2
 refine bodyPost_ret (results_two rfl _ _ _ [.slice (some ⟨gT,0,none⟩) T.length dT,.slice (some ⟨gO,0,none⟩) FO.length dO,.slice (some ⟨gP,0,none⟩) FP.length dP] rfl (set_three (u0:=.slice none 0 0) (u1:=.slice none 0 0) (u2:=.slice none 0 0) _ _ _ q3 q4 q5) Tryz.underlying27 rfl (by kernel_rfl)) rfl ?_
 have hfin:=fl_post D6.out (a:=.slice (some ⟨gT,0,none⟩) T.length dT) (b:=.slice (some ⟨gO,0,none⟩) FO.length dO) (c:=.slice (some ⟨gP,0,none⟩) FP.length dP)
 exact ⟨_,_,_,_,_,_,_,_,_,rfl,hfin.1,hfin.2⟩
theorem max_any (x y:Int) (w:World):Calls Tryz.prog 83 #[.int .i64 x,.int .i64 y] w fun e w'=>e=.returned (.int .i64 (max x y))∧w'=w:=by
 rcases Int.lt_trichotomy x y with h|h|h
 ·rw [Int.max_eq_right (by omega)]
  go_enter Tryz.func83,Tryz.ntmps83
  go_wp2
  go_ret
  exact ⟨rfl,rfl⟩
 ·subst h
  rw [Int.max_eq_right (by omega)]
  go_enter Tryz.func83,Tryz.ntmps83
  go_wp2
  go_ret
  exact ⟨rfl,rfl⟩
 ·rw [Int.max_eq_left (by omega)]
  go_enter Tryz.func83,Tryz.ntmps83
  go_wp2
  go_ret
  exact ⟨rfl,rfl⟩
theorem specSpend_yes {w:World} {aT aO aP:Option Addr} (cT cO cP:Nat) {T O P:List Q4} (leaf now n:Int) (hT:Quad w.heap.size w aT T) (hO:Quad w.heap.size w aO O) (hP:Quad w.heap.size w aP P) (h1:toldB T O P leaf now n=true) (kk:Nat) (hwho:whoOf T O P leaf now n=kk) :
 Calls Tryz.prog 175 #[lendV aT T.length cT aO O.length cO aP P.length cP,.int .i64 leaf,.int .i64 now,.int .i64 n] w (NewPost w T (ownTo n kk (fills now O) (pathOf T leaf) (pathOf T leaf).length) (topTo n (fills now P) (pathOf T leaf) (pathOf T leaf).length) true):=by
 have KW:Hid (Kept w [(w.heap.size,0,.slice aT T.length cT),(w.heap.size,1,.slice aO O.length cO),(w.heap.size,2,.slice aP P.length cP),(w.heap.size+1,0,.slice none 0 0),(w.heap.size+1,1,.slice none 0 0),(w.heap.size+1,2,.slice none 0 0)] [w.heap.size+1] ((w.alloc (.cells #[.slice aT T.length cT,.slice aO O.length cO,.slice aP P.length cP] 27)).alloc (.cells #[.slice none 0 0,.slice none 0 0,.slice none 0 0] 27))) :=
  ⟨⟨⟨by simp <;> omega,by go_simp⟩,⟨by simp <;> omega,by go_simp⟩,⟨by simp <;> omega,by go_simp⟩,⟨by simp,by go_simp⟩,⟨by simp,by go_simp⟩,⟨by simp,by go_simp⟩,trivial⟩,
   (fun b hb=>by simp only [List.mem_cons,List.not_mem_nil,or_false] at hb;subst hb;exact ⟨by simp,fun o=>by go_simp⟩),by go_grown⟩
 have nb:=KW.out.hb
 have zW:((w.alloc (.cells #[.slice aT T.length cT,.slice aO O.length cO,.slice aP P.length cP] 27)).alloc (.cells #[.slice none 0 0,.slice none 0 0,.slice none 0 0] 27)).heap.size=w.heap.size+2:=by simp
 have htold:=l7Told_is cT cO cP h1 (hT.here nb) (hO.here nb) (hP.here nb)
 have ht:=told_of h1
 have hd:=ht.lend
 have hw:=hd.tree.sound.well
 have h30:=hd.tree.l1
 have h01:=hd.tree.l0
 have lO:=hd.lo
 have lP:=hd.lp
 have okO:∀k (h:k<O.length),bokQ O[k]=true:=fun k h=>(pair_ok (hd.pair k (by omega) h (by omega))).oka
 have okP:∀k (h:k<P.length),bokQ P[k]=true:=fun k h=>(pair_ok (hd.pair k (by omega) (by omega) h)).okb
 have hnow:=ht.isTime
 have hsg:=seg_num ht.isSeg
 have l0:=ht.l0
 have l1:=ht.l1
 have hpl:(pathOf T leaf).length≤30:=Nat.le_trans (path_length l1) h30
 have hpi:∀j (h:j<(pathOf T leaf).length),0≤(pathOf T leaf)[j]∧(pathOf T leaf)[j]<((fills now P).length:Int):=fun j h=>by
  have:=path_mem hw T.length leaf l1 (by omega) _ (List.getElem_mem h)
  rw [fills_length,lP]
  omega
 have hpath:=fun (W:World) (hq:Quad W.heap.size W aT T)=>specL6Path_any cT leaf hq hw h30 (by omega) l1
 have hfill:=fun (W:World) (q1:Quad W.heap.size W aT T) (q2:Quad W.heap.size W aO O) (q3:Quad W.heap.size W aP P)=>l7Fill_any cT cO cP now q1 q2 q3 ⟨h01,h30⟩ lO lP hnow okO okP
 have hle:(fills now O).length=(fills now P).length:=by rw [fills_length,fills_length,lO,lP]
 have hlp30:(fills now P).length≤30:=by rw [fills_length,lP];exact h30
 have hask:∀(W:World) (gT dT gO dO gP dP cL:Nat) (aL:Option Addr),Quad W.heap.size W (some ⟨gO,0,none⟩) (fills now O)→Quad W.heap.size W (some ⟨gP,0,none⟩) (fills now P)→ISmp W.heap.size W aL (pathOf T leaf) →
  Calls Tryz.prog 195 #[lendV (some ⟨gT,0,none⟩) T.length dT (some ⟨gO,0,none⟩) (fills now O).length dO (some ⟨gP,0,none⟩) (fills now P).length dP,.slice aL (pathOf T leaf).length cL,.int .i64 n] W fun e w'=>e=.returned (.int .i64 (kk:Int))∧Below W.heap.size W w':=by
  intro W gT dT gO dO gP dP cL aL q2 q3 iL
  have h:=l7Ask_any (aT:=some ⟨gT,0,none⟩) T.length dT dO dP cL q2 q3 iL hle hlp30 hpi hpl hsg
  have e:askOf (fills now O) (fills now P) n (pathOf T leaf)=kk:=hwho
  rw [e] at h
  exact h
 have hkk:(kk:Int)≤30:=by have:=who_range T O P leaf now n;rw [hwho] at this;omega
 have lvO:LvlIn 0 1000000000000000000 (fills now O):=fun i h=>by
  have hi:i<O.length:=by rw [fills_length] at h;exact h
  have hb:=bok_num (fill_good (okO i hi) hnow)
  rw [fills_at hi h]
  have:=hb.2.1
  have:=hb.2.2.1
  omega
 have lvP:LvlIn 0 1000000000000000000 (fills now P):=fun i h=>by
  have hi:i<P.length:=by rw [fills_length] at h;exact h
  have hb:=bok_num (fill_good (okP i hi) hnow)
  rw [fills_at hi h]
  have:=hb.2.1
  have:=hb.2.2.1
  omega
 have hlFO:(fills now O).length=T.length:=by rw [fills_length,lO]
 have hlFP:(fills now P).length=T.length:=by rw [fills_length,lP]
 have hpj:∀j (h:j<(pathOf T leaf).length),0≤(pathOf T leaf)[j]∧(pathOf T leaf)[j]<(T.length:Int):=fun j h=>by have:=hpi j h;rw [hlFP] at this;exact this
 clear ht hd hle hlp30 hpi lO lP okO okP hw hwho
 obtain ⟨FO,hFO⟩:∃X,fills now O=X:=⟨_,rfl⟩
 obtain ⟨FP,hFP⟩:∃X,fills now P=X:=⟨_,rfl⟩
 rw [hFO] at hfill hask lvO hlFO
 rw [hFP] at hfill hask lvP hlFP
 rw [hFO,hFP]
 clear hFO hFP
 have HLO:Hid (FO.length=T.length):=hlFO
 have HLP:Hid (FP.length=T.length):=hlFP
 clear hlFO hlFP
 obtain ⟨L,hL⟩:∃L,pathOf T leaf=L:=⟨_,rfl⟩
 rw [hL] at hpath hask hpl hpj ⊢
 clear hL
 go_enter Tryz.func175,Tryz.ntmps175
 go_upto_region 3 with (go_at_call 197;refine htold.mono ?_;clear htold;rintro e w2 ⟨rfl,hb2⟩;have K2:Hid (Kept w [(w.heap.size,0,.slice aT T.length cT),(w.heap.size,1,.slice aO O.length cO),(w.heap.size,2,.slice aP P.length cP),(w.heap.size+1,0,.slice none 0 0),(w.heap.size+1,1,.slice none 0 0),(w.heap.size+1,2,.slice none 0 0)] [w.heap.size+1] w2):=KW.out.next hb2;have ⟨⟨_,q0⟩,⟨_,q1⟩,⟨_,q2⟩,⟨_,q3⟩,⟨_,q4⟩,⟨_,q5⟩,_⟩:=K2.out.cells)
 have hbw2:=K2.out.hb
 have zs2:=hb2.size
 rw [zW] at zs2
 go_upto_region 4 with (go_at_call 90;refine (hfill _ (hT.here hbw2) (hO.here hbw2) (hP.here hbw2)).mono ?_;rintro e w4 ⟨gT,dT,gO,dO,gP,dP,rfl,r1,r2,r3,hap,hb4⟩)
 have D:Hid (FlSt w (w4.alloc (.cells #[.slice (some ⟨gT,0,none⟩) T.length dT,.slice (some ⟨gO,0,none⟩) FO.length dO,.slice (some ⟨gP,0,none⟩) FP.length dP] 27)) w4.heap.size (.slice aT T.length cT) (.slice aO O.length cO) (.slice aP P.length cP) gT dT gO dO gP dP T FO FP):=by
  have K5:=(K2.out.next hb4).next (new_below w4 (.cells #[.slice (some ⟨gT,0,none⟩) T.length dT,.slice (some ⟨gO,0,none⟩) FO.length dO,.slice (some ⟨gP,0,none⟩) FP.length dP] 27))
  obtain ⟨⟨e0,e1,e2,e3,e4,e5,_⟩,hf,hbb⟩:=K5
  have hs:=hb4.size
  exact ⟨⟨⟨e0,e1,e2,e3,e4,e5,⟨by simp,by go_simp⟩,⟨by simp,by go_simp⟩,⟨by simp,by go_simp⟩,trivial⟩,hf,hbb⟩,(row_lowC r1 zs2).alloc _,(row_lowC r2 zs2).alloc _,(row_lowC r3 zs2).alloc _,hap,by omega,(r2.lt gO rfl).2,(r3.lt gP rfl).2,(r1.lt gT rfl).2⟩
 clear r1 r2 r3 K2 q0 q1 q2 q3 q4 q5 hb4
 obtain ⟨v0,hv0⟩:∃v,w4.alloc (.cells #[.slice (some ⟨gT,0,none⟩) T.length dT,.slice (some ⟨gO,0,none⟩) FO.length dO,.slice (some ⟨gP,0,none⟩) FP.length dP] 27)=v:=⟨_,rfl⟩
 rw [hv0] at D ⊢
 obtain ⟨b2,hbb2⟩:∃b,w4.heap.size=b:=⟨_,rfl⟩
 rw [hbb2] at D ⊢
 have hbv:b2<v0.heap.size:=by rw [←hv0,←hbb2];simp
 clear hv0 hbb2
 have ⟨⟨_,q0⟩,⟨_,q1⟩,⟨_,q2⟩,⟨_,q3⟩,⟨_,q4⟩,⟨_,q5⟩,⟨_,q6⟩,⟨_,q7⟩,⟨_,q8⟩,_⟩:=D.out.kept.cells
 have hbw5:=D.out.kept.hb
 go_upto_region 5 with (go_at_call 196;refine (hpath _ (hT.here hbw5)).mono ?_;rintro e w5 ⟨aL,nL,cL,rfl,ivL,hb5⟩)
 obtain ⟨aL',cL',eL,isL⟩:=ivL.smp
 injection eL with eL1 eL2 eL3
 subst eL1 eL2
 clear eL3
 have D5:Hid (FlSt w w5 b2 (.slice aT T.length cT) (.slice aO O.length cO) (.slice aP P.length cP) gT dT gO dO gP dP T FO FP):=D.out.next hb5
 clear D q0 q1 q2 q3 q4 q5 q6 q7 q8
 have ⟨⟨_,q0⟩,⟨_,q1⟩,⟨_,q2⟩,⟨_,q3⟩,⟨_,q4⟩,⟨_,q5⟩,⟨_,q6⟩,⟨_,q7⟩,⟨_,q8⟩,_⟩:=D5.out.kept.cells
 have ha:=hask w5 gT dT gO dO gP dP cL aL (own_quadC D5.out.rO) (own_quadC D5.out.rP) isL
 go_upto_region 6 with (go_at_call 195;refine ha.mono ?_;clear ha;rintro e w6 ⟨rfl,hb6⟩)
 have ivL6:=ivL.next hb6
 have D6:Hid (FlSt w w6 b2 (.slice aT T.length cT) (.slice aO O.length cO) (.slice aP P.length cP) gT dT gO dO gP dP T FO FP):=D5.out.next hb6
 clear D5 q0 q1 q2 q3 q4 q5 q6 q7 q8
 have hTi:(T.length:Int)≤30:=by omega
 have hLi:(L.length:Int)≤30:=by omega
 have hn0:=hsg.1
 have hn1:=hsg.2
 have hkn:decide ((kk:Int)<0)=false:=decide_eq_false (by omega)
 go_wp2
 go_loopw [13] (fun i wr=>∃(j:Nat) (X Y:List Q4),i=.int .i64 j∧j≤L.length∧Hid (X=ownTo n kk FO L j)∧Hid (Y=topTo n FP L j)∧Hid (IV wr (b2+1) (.slice aL L.length cL) L)∧Hid (FlSt w wr b2 (.slice aT T.length cT) (.slice aO O.length cO) (.slice aP P.length cP) gT dT gO dO gP dP T X Y)) (fun i _=>L.length-(intOf i).toNat)
 case atStart=>exact ⟨0,FO,FP,rfl,by omega,rfl,rfl,ivL6.lower (by omega),D6⟩
 case round =>
  clear D6 ivL6
  obtain ⟨j,X,Y,rfl,hj,HX,HY,IL,D⟩:=hrel
  have HLX:Hid (X.length=T.length):=by show X.length=T.length;rw [HX.out,ownTo_length,HLO.out]
  have HLY:Hid (Y.length=T.length):=by show Y.length=T.length;rw [HY.out,topTo_length,HLP.out]
  have ⟨⟨_,q0⟩,⟨_,q1⟩,⟨_,q2⟩,⟨_,q3⟩,⟨_,q4⟩,⟨_,q5⟩,⟨_,q6⟩,⟨_,q7⟩,⟨_,q8⟩,_⟩:=D.out.kept.cells
  rw [HLX.out] at q7
  rw [HLY.out] at q8
  have hbw:=D.out.kept.hb
  by_cases hlt:j<L.length
  ·have hlt':(j:Int)<(L.length:Int):=by omega
   have hc:=hpj j hlt
   have HT:Hid (topTo n FP L (j+1)=modAt (takeTop n) (topTo n FP L j) L[j]):=topTo_next hlt
   have HO1:Hid ((kk:Int)≤(j:Int)→ownTo n kk FO L (j+1)=modAt (takeOwn n) (ownTo n kk FO L j) L[j]):=ownTo_yes hlt
   have HO2:Hid (¬(kk:Int)≤(j:Int)→ownTo n kk FO L (j+1)=ownTo n kk FO L j):=ownTo_no hlt
   obtain ⟨aL1,cL1,eL,is1⟩:=IL.out.smp
   injection eL with eL1 eL2 eL3
   subst eL1
   clear eL2 eL3
   obtain ⟨bL,oL,rfl,hbL,yL⟩:=is1 j hlt
   have hbL2:=(IL.out.own (g:=bL) rfl).1
   obtain ⟨cc,hcc⟩:∃c:Nat,L[j]=(c:Int):=⟨L[j].toNat,by omega⟩
   have HCC:Hid (L[j]=(cc:Int)):=hcc
   rw [hcc] at yL hc HT HO1
   clear hcc is1
   have hcY:cc<Y.length:=by have:=HLY.out;omega
   have hcX:cc<X.length:=by have:=HLX.out;omega
   have HYN:Hid (topTo n FP L (j+1)=Y.set cc (takeTop n Y[cc])):=by show _=_;rw [HT.out,←HY.out,modAt_at hcY]
   have HX1:Hid ((kk:Int)≤(j:Int)→ownTo n kk FO L (j+1)=X.set cc (takeOwn n X[cc])):=by
    intro h
    rw [HO1.out h,←HX.out,modAt_at hcX]
   have HX2:Hid (¬(kk:Int)≤(j:Int)→ownTo n kk FO L (j+1)=X):=by
    intro h
    rw [HO2.out h,←HX.out]
   clear HT HO1 HO2
   have hc1:(cc:Int)<(T.length:Int):=hc.2
   obtain ⟨x0,x1,x2,x3⟩:=(own_quadC D.out.rP).cells (Below.refl _ _) cc hcY
   have hv:=top_levels (L:=L) hsg lvP j
   rw [←HY.out] at hv
   have hv:=hv cc hcY
   have HD:∀m:Nat,Hid (FlSt w ((wr.drewN m).setCell ⟨gP,cc*4+2,none⟩ (.int .i64 (Y[cc].2.2.1-1000000000*n))) b2 (.slice aT T.length cT) (.slice aO O.length cO) (.slice aP P.length cP) gT dT gO dO gP dP T X (Y.set cc (takeTop n Y[cc]))):=fun m=>(D.out.next (below_drews (Below.refl _ _) m)).lvlP cc hcY _
   obtain ⟨b,hb⟩:∃b,Y[cc]=b:=⟨_,rfl⟩
   rw [hb] at x2 hv HYN HD
   obtain ⟨r,u,l,t⟩:=b
   simp only [Nat.zero_add] at x2 hv
   clear hb x0 x1 x3
   have hv0:=hv.1
   have hv1:=hv.2
   clear hv hpj hask hpath hfill
   have z0:∀j,wr.frozen? ⟨gP,j,none⟩=false:=fun j=>D.out.rP.frozenAt j
   have nPL:gP≠bL:=by have:=D.out.nP;omega
   have hI:∀(m:Nat) (v:Value),Hid (IV ((wr.drewN m).setCell ⟨gP,cc*4+2,none⟩ v) (b2+1) (.slice (some ⟨bL,oL,none⟩) L.length cL) L):=fun m v=>(IL.out.next (below_drews (Below.refl _ _) m)).onlyO (OnlyO.of_only ((Only.refl gP _).setCell rfl _)) (fun g hg e=>nPL ((Option.some.inj e).trans (Option.some.inj hg).symm))
   go_upto_region 11 with (fail)
   go_quiet (fail)
   go_upto_region 13 with (fail)
   have D1:Hid (FlSt w ((wr.drewN nq).setCell ⟨gP,cc*4+2,none⟩ (.int .i64 (l-1000000000*n))) b2 (.slice aT T.length cT) (.slice aO O.length cO) (.slice aP P.length cP) gT dT gO dO gP dP T X (Y.set cc (takeTop n (r,u,l,t)))):=HD nq
   have I1:=hI nq (.int .i64 (l-1000000000*n))
   obtain ⟨wq,hwq⟩:∃v,(wr.drewN nq).setCell ⟨gP,cc*4+2,none⟩ (.int .i64 (l-1000000000*n))=v:=⟨_,rfl⟩
   rw [hwq] at D1 I1 ⊢
   clear hwq HD hI D IL q0 q1 q2 q3 q4 q5 q6 q7 q8 z0 x2 yL hbw
   obtain ⟨Y1,hY1⟩:∃Z,Y.set cc (takeTop n (r,u,l,t))=Z:=⟨_,rfl⟩
   rw [hY1] at D1 HYN
   have HLY1:Hid (Y1.length=T.length):=by rw [←hY1];show (Y.set cc _).length=T.length;rw [List.length_set];exact HLY.out
   have HY1:Hid (Y1=topTo n FP L (j+1)):=HYN.out.symm
   clear hY1 HYN HY HLY hcY hv0 hv1
   by_cases hk:(kk:Int)≤(j:Int)
   ·have ⟨⟨_,q0⟩,⟨_,q1⟩,⟨_,q2⟩,⟨_,q3⟩,⟨_,q4⟩,⟨_,q5⟩,⟨_,q6⟩,⟨_,q7⟩,⟨_,q8⟩,_⟩:=D1.out.kept.cells
    rw [HLX.out] at q7
    rw [HLY1.out] at q8
    obtain ⟨aL1,cL1',eL,is1⟩:=I1.out.smp
    injection eL with eL1 eL2 eL3
    subst eL1
    clear eL2 eL3
    have HXN:Hid (ownTo n kk FO L (j+1)=X.set cc (takeOwn n X[cc])):=HX1.out hk
    clear HX1 HX2
    obtain ⟨x0,x1,x2,x3⟩:=(own_quadC D1.out.rO).cells (Below.refl _ _) cc hcX
    have hv:=own_levels (L:=L) (k:=kk) hsg lvO j
    rw [←HX.out] at hv
    have hv:=hv cc hcX
    have z0:∀j,wq.frozen? ⟨gO,j,none⟩=false:=fun j=>D1.out.rO.frozenAt j
    have nOL:gO≠bL:=by have:=D1.out.nO;omega
    obtain ⟨bL',oL',eL,_,yL⟩:=is1 j hlt
    cases eL
    rw [HCC.out] at yL
    have HD:∀m:Nat,Hid (FlSt w ((wq.drewN m).setCell ⟨gO,cc*4+2,none⟩ (.int .i64 (max 0 (X[cc].2.2.1-1000000000*n)))) b2 (.slice aT T.length cT) (.slice aO O.length cO) (.slice aP P.length cP) gT dT gO dO gP dP T (X.set cc (takeOwn n X[cc])) Y1):=fun m=>(D1.out.next (below_drews (Below.refl _ _) m)).lvlO cc hcX _
    have hI:∀(m:Nat) (v:Value),Hid (IV ((wq.drewN m).setCell ⟨gO,cc*4+2,none⟩ v) (b2+1) (.slice (some ⟨bL,oL,none⟩) L.length cL) L):=fun m v=>(I1.out.next (below_drews (Below.refl _ _) m)).onlyO (OnlyO.of_only ((Only.refl gO _).setCell rfl _)) (fun g hg e=>nOL ((Option.some.inj e).trans (Option.some.inj hg).symm))
    obtain ⟨b,hb⟩:∃b,X[cc]=b:=⟨_,rfl⟩
    rw [hb] at x2 hv HXN HD
    obtain ⟨r',u',l',t'⟩:=b
    simp only [Nat.zero_add] at x2 hv
    clear hb x0 x1 x3
    have hv0:=hv.1
    have hv1:=hv.2
    clear hv
    have HX3:Hid (X.set cc (takeOwn n (r',u',l',t'))=ownTo n kk FO L (j+1)):=HXN.out.symm
    clear HXN HX
    go_upto_region 14 with (fail)
    go_quiet (fail)
    go_wp2_with (first|(go_at_call 83;refine (max_any _ _ _).mono ?_;rintro e w9 ⟨rfl,rfl⟩))
    go_roundw
    all_goals first
     | exact ⟨j+1,_,Y1,by go_num,by omega,HX3,HY1,hI _ _,HD _⟩
     | (simp [intOf];done)
     | (simp [intOf];omega)
   ·have HXN:Hid (ownTo n kk FO L (j+1)=X):=HX2.out hk
    clear HX1 HX2
    have HX3:Hid (X=ownTo n kk FO L (j+1)):=HXN.out.symm
    have hk':¬(kk:Int)≤(j:Int):=hk
    go_wp2
    go_roundw
    all_goals first
     | exact ⟨j+1,X,Y1,by go_num,by omega,HX3,HY1,I1,D1⟩
     | (simp [intOf];done)
     | (simp [intOf];omega)
  ·have e:j=L.length:=by omega
   subst e
   have fr:=(D.out.kept.free (w.heap.size+1) (List.mem_singleton.2 rfl)).2
   have n1:w.heap.size+1≠b2:=by have:=D.out.lo;omega
   have hfin:=fl_post D.out (a:=.slice (some ⟨gT,0,none⟩) T.length dT) (b:=.slice (some ⟨gO,0,none⟩) X.length dO) (c:=.slice (some ⟨gP,0,none⟩) Y.length dP)
   rw [HLX.out,HLY.out] at hfin
   go_wp2
   refine bodyPost_ret (results_two rfl _ _ _ [.slice (some ⟨gT,0,none⟩) T.length dT,.slice (some ⟨gO,0,none⟩) T.length dO,.slice (some ⟨gP,0,none⟩) T.length dP] rfl (set_three (u0:=.slice none 0 0) (u1:=.slice none 0 0) (u2:=.slice none 0 0) _ _ _ q3 q4 q5) Tryz.underlying27 rfl (by kernel_rfl)) rfl ?_
   rw [←HX.out,←HY.out]
   exact ⟨_,_,_,_,_,_,_,_,_,rfl,hfin.1,hfin.2⟩
theorem specSpend_any {w:World} {aT aO aP:Option Addr} (cT cO cP:Nat) {T O P:List Q4} (leaf now n:Int) (hT:Quad w.heap.size w aT T) (hO:Quad w.heap.size w aO O) (hP:Quad w.heap.size w aP P) :
 Calls Tryz.prog 175 #[lendV aT T.length cT aO O.length cO aP P.length cP,.int .i64 leaf,.int .i64 now,.int .i64 n] w (NewPost w (spendT T O P leaf now n) (spendO T O P leaf now n) (spendP T O P leaf now n) (spendF T O P leaf now n)):=by
 unfold spendT spendO spendP spendF
 cases h1:toldB T O P leaf now n
 ·exact specSpend_no cT cO cP leaf now n hT hO hP h1
 ·rcases who_range T O P leaf now n with h2|h2
  ·have e:=specSpend_none cT cO cP leaf now n hT hO hP h1 h2
   rw [h2]
   exact e
  ·obtain ⟨k,hk⟩:∃k:Nat,whoOf T O P leaf now n=k:=⟨(whoOf T O P leaf now n).toNat,by omega⟩
   have e:=specSpend_yes cT cO cP leaf now n hT hO hP h1 k hk
   have hn:¬((k:Int)<0):=by omega
   have hd:decide (0≤(k:Int))=true:=decide_eq_true (by omega)
   rw [hk,hd,if_pos rfl,if_neg hn,if_pos rfl,if_neg hn,if_pos rfl]
   exact e
end Go.Proofs.YthiojkjcmhojoaaGreat
