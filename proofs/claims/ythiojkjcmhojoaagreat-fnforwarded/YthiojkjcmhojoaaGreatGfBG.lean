import Derived.Test.YthiojkjcmhojoaaGreatGfBE
import Derived.Test.YthiojkjcmhojoaaGreatGfBB
namespace Go.Proofs.YthiojkjcmhojoaaGreat
set_option maxHeartbeats 16000000
open Go.ChangeShapes Go.WideShapes Go.ChangeAt Go.RowKit
set_option maxRecDepth 100000
set_option linter.unusedVariables false
set_option linter.unusedSimpArgs false
theorem zgm {w:World} {lo n c:Nat} {a:Option Addr} {xs:List Int} (h:IV w lo (.slice a n c) xs):n=xs.length:=by
 rcases h with ⟨g,cap,e,_⟩|⟨e,rfl⟩
 ·injection e with _ e2 _
 ·injection e with _ e2 _
theorem zks {w:World} {base:Nat} {t:TypeId} {s n:Nat} {v:Value} {xs:List Value} (h:w.ownsRow base t s v n xs) (hn:1≤n):∃g d,v=.slice (some ⟨g,0,none⟩) n d:=by
 rcases h.2 with ⟨_,e⟩|⟨g,cap,cur,e,_⟩
 ·omega
 ·exact ⟨g,cap,e⟩
theorem zqh {w w':World} {base e s n:Nat} {o:Option Nat} {v:Value} {xs:List Value} (hr:w.ownsRow base e s v n xs) (h:OnlyO o w w') (hne:∀b,v.ownBlock=some b→o≠some b):w'.ownsRow base e s v n xs :=
 hr.kept (row:=o) ⟨h.os,h.tape,h.output,h.size,fun k hk hn=>h.block k hk (fun e=>hn e.symm)⟩ (by
  cases hob:v.ownBlock with
  | none=>exact .inl rfl
  | some q=>exact .inr (fun e=>hne q hob e.symm))
def z1y (B:Nat) (w:World) (g k:Nat) (L:List F8):Prop:=∀i (h:i<L.length),k≤i→w.cell? ⟨g,i*3,none⟩=some (.int .i64 L[i].1)∧w.cell? ⟨g,i*3+1,none⟩=some (.int .i64 L[i].2.1)∧∃sa sc,w.cell? ⟨g,i*3+2,none⟩=some (.slice sa L[i].2.2.length sc)∧ISmp B w sa L[i].2.2
structure CpM (B:Nat) (w:World) (lo:Nat) (sK:Value) (G:List G14) (K:List Kn) (m:Nat):Prop where
 row:w.ownsRow lo 47 14 sK K.length (zbl G)
 fst:G.map Prod.fst=K
 ints:∀i (h:i<G.length),i<m→w.ownsRow lo 2 1 G[i].2 G[i].1.xs.length (za7 G[i].1.xs)
 old:∀i (h:i<G.length),m≤i→SzV B w G[i].2 G[i].1.xs
 sep:∀i (h':i<G.length) b,i<m→G[i].2.ownBlock=some b→b<w.heap.size∧∀j (hj:j<G.length),j<m→j≠i→G[j].2.ownBlock≠some b
 z:∀i (h:i<G.length),i<m→G[i].1.xs=[]→∃a,G[i].2=.slice a 0 0
theorem CpM.len {B:Nat} {w:World} {lo m:Nat} {sK:Value} {G:List G14} {K:List Kn} (h:CpM B w lo sK G K m):G.length=K.length:=by rw [←h.fst,List.length_map]
theorem CpM.done {B:Nat} {w:World} {lo m:Nat} {sK:Value} {G:List G14} {K:List Kn} (h:CpM B w lo sK G K m) (hm:K.length≤m):CpK w lo sK G K :=
 have hl:=h.len
 ⟨h.row,h.fst,fun i hi=>h.ints i hi (by omega),fun i hi b e=>⟨(h.sep i hi b (by omega) e).1,fun j hj hne=>(h.sep i hi b (by omega) e).2 j hj (by omega) hne⟩,fun i hi=>h.z i hi (by omega)⟩
theorem zxi (G:List G14) {i:Nat} (hi:i<G.length) (v:Value):(zbl G).set (i*14+13) v=zbl (G.set i (G[i].1,v)):=by
 apply List.ext_getElem?
 intro j
 rw [List.getElem?_set]
 by_cases hj:j<G.length*14
 ·have h1:=zbw (G.set i (G[i].1,v)) (j / 14) (by rw [List.length_set];omega) (j % 14) (by omega)
  have h2:=zbw G (j / 14) (by omega) (j % 14) (by omega)
  rw [show j / 14*14+j % 14=j by omega] at h1 h2
  rw [h1,h2,List.getElem_set]
  by_cases e:i*14+13=j
  ·rw [if_pos e,if_pos (by rw [zaq];omega),if_pos (by omega),show j % 14=13 by omega]
   rfl
  ·rw [if_neg e]
   by_cases e2:i=j / 14
   ·have e3:G[j / 14]=G[i]:=by congr 1;exact e2.symm
    rw [if_pos e2,e3]
    have hlt:j % 14<13:=by omega
    unfold zgt
    rw [List.getElem?_append_left (by rw [Kn.len];exact hlt),List.getElem?_append_left (by rw [Kn.len];exact hlt)]
   ·rw [if_neg e2]
 ·rw [if_neg (by omega),List.getElem?_eq_none (by rw [zaq];omega),List.getElem?_eq_none (by rw [zaq,List.length_set];omega)]
theorem CpM.step {B:Nat} {w w':World} {lo lo2 g cap m:Nat} {G:List G14} {K:List Kn} {v:Value} (h:CpM B w lo (.slice (some ⟨g,0,none⟩) K.length cap) G K m) (hm:m<G.length) (hb:Below w.heap.size w w') (hlo:lo≤lo2) (hl2:w.heap.size≤lo2) (hv:w'.ownsRow lo2 2 1 v G[m].1.xs.length (za7 G[m].1.xs)) (hB:B≤lo) (hBw:B≤w.heap.size) (hz:G[m].1.xs=[]→∃a,v=.slice a 0 0) :
 CpM B (w'.setCell ⟨g,m*14+13,none⟩ v) lo (.slice (some ⟨g,0,none⟩) K.length cap) (G.set m (G[m].1,v)) K (m+1):=by
 have hty':(2:TypeId)≠47:=by decide
 have row1:=za2 h.row hb
 have row2:=(row1.stored (m*14+13) v).1
 rw [zxi G hm v] at row2
 have hgl:=h.row.lt g rfl
 have far:∀{q:Nat} {u:Value} {ys:List Value},w'.ownsRow lo 2 1 u q ys→(w'.setCell ⟨g,m*14+13,none⟩ v).ownsRow lo 2 1 u q ys:=fun hu=>hu.kept (row:=some g) (zc9 _ _ _ _) (by
  cases ho:(‹Value›:Value).ownBlock with
  | none=>exact .inl rfl
  | some b=>exact .inr (fun e=>zbp hu row1 hty' b ho (congrArg some (Option.some.inj e).symm)))
 have at1:∀j (hj:j<(G.set m (G[m].1,v)).length),(j=m∧(G.set m (G[m].1,v))[j]=(G[m].1,v))∨(j≠m∧∃hj':j<G.length,(G.set m (G[m].1,v))[j]=G[j]):=fun j hj=>by
  rw [List.getElem_set]
  rw [List.length_set] at hj
  by_cases e:m=j
  ·exact .inl ⟨e.symm,if_pos e⟩
  ·exact .inr ⟨fun e'=>e e'.symm,hj,if_neg e⟩
 have hbs:(w'.setCell ⟨g,m*14+13,none⟩ v).heap.size=w'.heap.size:=by simp
 have hzb:=hb.size
 refine ⟨row2,?_,fun i hi him=>?_,fun i hi him=>?_,fun i hi b him e=>?_,fun i hi him=>?_⟩
 rotate_left 4
 ·rcases at1 i hi with ⟨rfl,e⟩|⟨hne,hi',e⟩
  ·rw [e]
   exact hz
  ·rw [e]
   exact h.z i hi' (by omega)
 ·rw [List.map_set,h.fst]
  apply List.ext_getElem?
  intro j
  rw [List.getElem?_set]
  by_cases e:m=j
  ·subst e
   rw [if_pos rfl,if_pos (by rw [←h.len];exact hm),←h.fst,List.getElem?_map,List.getElem?_eq_getElem hm]
   rfl
  ·rw [if_neg e]
 ·rcases at1 i hi with ⟨rfl,e⟩|⟨hne,hi',e⟩
  ·rw [e]
   exact far (zcs hv hlo)
  ·rw [e]
   exact far (za2 (h.ints i hi' (by omega)) hb)
 ·rcases at1 i hi with ⟨rfl,e⟩|⟨hne,hi',e⟩
  ·omega
  ·rw [e]
   exact (h.old i hi' (by omega)).mono ((hb.mono hBw).setCell (by show B≤g;omega) _)
 ·rw [hbs]
  rcases at1 i hi with ⟨rfl,e1⟩|⟨hne,hi',e1⟩
  ·rw [e1] at e
   have hl:=hv.lt b e
   refine ⟨hl.2,fun j hj hjm hji=>?_⟩
   rcases at1 j hj with ⟨rfl,e2⟩|⟨_,hj',e2⟩
   ·exact absurd rfl hji
   ·rw [e2]
    intro e3
    have:=(h.sep j hj' b (by omega) e3).1
    omega
  ·rw [e1] at e
   obtain ⟨s1,s2⟩:=h.sep i hi' b (by omega) e
   refine ⟨by omega,fun j hj hjm hji=>?_⟩
   rcases at1 j hj with ⟨rfl,e2⟩|⟨_,hj',e2⟩
   ·rw [e2]
    intro e3
    have:=(hv.lt b e3).1
    omega
   ·rw [e2]
    exact s2 j hj' (by omega) hji
theorem zh4 {w:World} (now nx:Int) {aT aO aP aL aK:Option Addr} (cT cO cP cL cK:Nat) {T O P:List Q4} {L:List F8} {K:List Kn} (hT:Quad w.heap.size w aT T) (hO:Quad w.heap.size w aO O) (hP:Quad w.heap.size w aP P) (hL:Fls w.heap.size w aL L) (hK:Kls w.heap.size w aK K) (nT:1≤T.length∧T.length≤30) (nO:1≤O.length∧O.length≤30) (nP:1≤P.length∧P.length≤30) (mL:L.length≤1048576) (sL:∀f ∈ L,f.2.2.length≤1048576) (mK:K.length≤1048576) (sK:∀c ∈ K,c.xs.length≤1048576) (l0:1≤L.length) :
 Calls Tryz.prog 41 #[zcp now aT T.length cT aO O.length cO aP P.length cP aL L.length cL aK K.length cK nx] w (CpEng w now nx T O P L K):=by
 obtain ⟨v,hv,nb,L0,L1⟩:=ziw w 31 [.int .i64 now,.slice aT T.length cT,.slice aO O.length cO,.slice aP P.length cP,.slice aL L.length cL,.slice aK K.length cK,.int .i64 nx]
 have hw1:=L1.lt
 go_enter Tryz.func41,Tryz.ntmps41
 go_upto_region 1 with (fail)
 rw [←hv]
 clear hv
 have HS:Hid (∀x,Below v.heap.size v x→x.cell? ⟨w.heap.size,1,none⟩=some (.slice aT T.length cT)∧x.cell? ⟨w.heap.size,2,none⟩=some (.slice aO O.length cO)∧x.cell? ⟨w.heap.size,3,none⟩=some (.slice aP P.length cP)):=fun x hx=>⟨(L0.next hx).cell 1 _ rfl,(L0.next hx).cell 2 _ rfl,(L0.next hx).cell 3 _ rfl⟩
 refine zgu 14 HS (Below.refl _ _).drew fun hS=>?_
 refine zae 0 rfl ?_
 refine zae 1 rfl ?_
 refine zae 2 rfl ?_
 refine zae 4 rfl ?_
 refine zae 5 rfl ?_
 refine zae 6 rfl ?_
 refine zae 8 rfl ?_
 refine zae 9 rfl ?_
 refine zae 10 rfl ?_
 refine zai (i:=3) (by kernel_rfl) rfl (fun Kr hKr=>?_)
 go_simp
 (refine (zrd cT (hT.here nb.drew) nT).mono ?_;rintro e u1 ⟨vT,rfl,rT,hbT⟩;obtain ⟨gT,dT,rfl⟩:=zks rT (by omega);have rT:u1.ownsRow v.heap.size 110 4 (.slice (some ⟨gT,0,none⟩) T.length dT) T.length (zaz T):=rT;have hbT:=zbh hbT;have hS1:=HS.out _ hbT;have b1:=zaa nb hbT)
 refine hKr.out _ _ ‹_› fun _=>?_
 try simp only [nrm]
 refine zai (i:=7) (by kernel_rfl) rfl (fun Kr hKr=>?_)
 go_simp
 (refine (zlk cO (hO.here b1) nO).mono ?_;rintro e u2 ⟨vO,rfl,rO,hbO⟩;obtain ⟨gO,dO,rfl⟩:=zks rO (by omega);have c2:=zaa hbT hbO;have hS2:=HS.out _ c2;have b2:=zaa b1 hbO)
 refine hKr.out _ _ ‹_› fun _=>?_
 try simp only [nrm]
 refine zai (i:=11) (by kernel_rfl) rfl (fun Kr hKr=>?_)
 go_simp
 (refine (zlk cP (hP.here b2) nP).mono ?_;rintro e u3 ⟨vP,rfl,rP,hbP⟩;obtain ⟨gP,dP,rfl⟩:=zks rP (by omega);have c3:=zaa c2 hbP;have hS3:=HS.out _ c3;have b3:=zaa b2 hbP;have M0:=L0.next c3;have m1:=hS3.1;have m2:=hS3.2.1;have m3:=hS3.2.2;have mf:=M0.free)
 refine hKr.out _ _ ‹_› fun _=>?_
 try simp only [nrm]
 refine zae 12 rfl ?_
 refine zae 13 rfl ?_
 refine za4 (by kernel_rfl) rfl (by kernel_rfl) (fun Kr hKr=>?_)
 go_simp
 refine hKr.out _ _ ?_
 try simp only [nrm]
 obtain ⟨y,hy⟩:∃y,y=u3.setCells w.heap.size 1 [.slice (some ⟨gT,0,none⟩) T.length dT,.slice (some ⟨gO,0,none⟩) O.length dO,.slice (some ⟨gP,0,none⟩) P.length dP]:=⟨_,rfl⟩
 have hy':((u3.setCell ⟨w.heap.size,1,none⟩ (.slice (some ⟨gT,0,none⟩) T.length dT)).setCell ⟨w.heap.size,2,none⟩ (.slice (some ⟨gO,0,none⟩) O.length dO)).setCell ⟨w.heap.size,3,none⟩ (.slice (some ⟨gP,0,none⟩) P.length dP)=y:=hy.symm
 rw [hy']
 clear hy'
 have oy:Only w.heap.size u3 y:=by rw [hy];exact zba _ _ _
 have LY:Lay y w.heap.size [.int .i64 now,.slice (some ⟨gT,0,none⟩) T.length dT,.slice (some ⟨gO,0,none⟩) O.length dO,.slice (some ⟨gP,0,none⟩) P.length dP,.slice aL L.length cL,.slice aK K.length cK,.int .i64 nx]:=by rw [hy];exact M0.put (p:=[.int .i64 now]) (q:=[.slice aT T.length cT,.slice aO O.length cO,.slice aP P.length cP]) (r:=[.slice aL L.length cL,.slice aK K.length cK,.int .i64 nx]) [.slice (some ⟨gT,0,none⟩) T.length dT,.slice (some ⟨gO,0,none⟩) O.length dO,.slice (some ⟨gP,0,none⟩) P.length dP] rfl
 clear hy m1 m2 m3 mf HS
 have zT:=hbT.size
 have zO:=hbO.size
 have zP:=hbP.size
 have zy:=oy.size
 have zn:=nb.size
 have LR1:Lay y (w.heap.size+1) [.int .i64 0,.slice none 0 0,.slice none 0 0,.slice none 0 0,.slice none 0 0,.slice none 0 0,.int .i64 0]:=(L1.next c3).only oy (by omega)
 have rT3:=za2 (za2 rT hbO) hbP
 have rO3:=za2 rO hbP
 have hgT:=rT.lt gT rfl
 have hgO:=rO.lt gO rfl
 have hgP:=rP.lt gP rfl
 have LVY:LV y v.heap.size (.slice (some ⟨gT,0,none⟩) T.length dT) (.slice (some ⟨gO,0,none⟩) O.length dO) (.slice (some ⟨gP,0,none⟩) P.length dP) T O P:=by
  have k1:=zcs (zcn rT3 oy (by omega)) (Nat.le_refl _)
  have k2:=zcs (zcn rO3 oy (by omega)) (show v.heap.size≤u1.heap.size by omega)
  have k3:=zcs (zcn rP oy (by omega)) (show v.heap.size≤u2.heap.size by omega)
  exact ⟨zel k1,zel k2,zel k3,fun b e e'=>zbp k1 k2 (by decide) b (za3 e) (za3 e'),fun b e e'=>zbp k1 k3 (by decide) b (za3 e) (za3 e'),fun b e e'=>by have h1:gO=b:=Option.some.inj (za3 e);have h2:gP=b:=Option.some.inj (za3 e');omega⟩
 have HLB:Hid (∀b,inL (.slice (some ⟨gT,0,none⟩) T.length dT) (.slice (some ⟨gO,0,none⟩) O.length dO) (.slice (some ⟨gP,0,none⟩) P.length dP) b→v.heap.size≤b∧b<y.heap.size):=fun b hb=>LVY.lo hb
 have HLV:Hid (LV y v.heap.size (.slice (some ⟨gT,0,none⟩) T.length dT) (.slice (some ⟨gO,0,none⟩) O.length dO) (.slice (some ⟨gP,0,none⟩) P.length dP) T O P):=LVY
 have bwy:Below w.heap.size w y:=b3.trans (oy.below (Nat.le_refl _) b3.size)
 clear LVY rT rO rP rT3 rO3 L0 L1 M0
 obtain ⟨ly0,ly1,ly2,ly3,ly4,ly5,ly6⟩:=Lay.c7 (b:=w.heap.size) LY
 have lyf:=LY.free
 go_upto_region 3 with (first|(go_at_call 99;refine (zre cL (hL.mono bwy) bwy.size l0 mL).mono ?_;rintro e w4 ⟨gL,dL,G,rfl,hV,own4,hb4⟩;have LY4:=LY.next hb4;obtain ⟨l40,l41,l42,l43,l44,l45,l46⟩:=Lay.c7 (b:=w.heap.size) LY4;have ly4f:=LY4.free))
 clear ly0 ly1 ly2 ly3 ly4 ly5 ly6 lyf
 obtain ⟨y2,hy2⟩:∃y,y=w4.setCells w.heap.size 4 [.slice (some ⟨gL,0,none⟩) L.length dL]:=⟨_,rfl⟩
 have hy':w4.setCell ⟨w.heap.size,4,none⟩ (.slice (some ⟨gL,0,none⟩) L.length dL)=y2:=hy2.symm
 rw [hy']
 clear hy'
 have oy2:Only w.heap.size w4 y2:=by rw [hy2];exact zba _ _ _
 have LY2:Lay y2 w.heap.size [.int .i64 now,.slice (some ⟨gT,0,none⟩) T.length dT,.slice (some ⟨gO,0,none⟩) O.length dO,.slice (some ⟨gP,0,none⟩) P.length dP,.slice (some ⟨gL,0,none⟩) L.length dL,.slice aK K.length cK,.int .i64 nx]:=by rw [hy2];exact LY4.put (p:=[.int .i64 now,.slice (some ⟨gT,0,none⟩) T.length dT,.slice (some ⟨gO,0,none⟩) O.length dO,.slice (some ⟨gP,0,none⟩) P.length dP]) (q:=[.slice aL L.length cL]) (r:=[.slice aK K.length cK,.int .i64 nx]) [.slice (some ⟨gL,0,none⟩) L.length dL] rfl
 clear hy2 l40 l41 l42 l43 l44 l45 l46 ly4f
 have z4:=hb4.size
 have z42:=oy2.size
 have hgL:=own4.lt gL rfl
 have own5:=zcn own4 oy2 (by omega)
 have hcapL:L.length≤dL:=by
  rcases own4.2 with ⟨e,_⟩|⟨g',cap',cur,e,_,_,hnc,_⟩
  ·cases e
  ·injection e with e1 e2 e3
   subst e3
   exact hnc
 have bw2:Below w.heap.size w y2:=(zaa bwy hb4).trans (oy2.below (Nat.le_refl _) (zaa bwy hb4).size)
 have hV2:Vals w.heap.size y2 G L:=hV.mono ((hb4.mono bwy.size).trans (oy2.below (Nat.le_refl _) (by omega)))
 have hgl:=hV2.len
 have FB:FO y2 y.heap.size y2.heap.size gL L.length [] (L.take 0):=⟨hgL.1,by omega,Nat.le_refl _,by simp,by simp,fun j hj=>⟨⟨_,(own5.cellAt j hj).trans (List.getElem?_eq_getElem (by rw [zdh];omega))⟩,own5.frozenAt j⟩,(fun i hi=>by simp at hi),(fun i hi=>by simp at hi),(fun i hi=>by cases hi),(fun i j hi=>by cases hi)⟩
 have RB:z1y w.heap.size y2 gL 0 L:=fun i hi _=>by
  obtain ⟨e0,e1,e2⟩:=zin G i (by omega)
  obtain ⟨n0,n1,sa,sc,e3,sm⟩:=hV2.at' i hi (by omega)
  rw [n0] at e0
  rw [n1] at e1
  rw [e3] at e2
  exact ⟨(own5.cellAt _ (by omega)).trans e0,(own5.cellAt _ (by omega)).trans e1,sa,sc,(own5.cellAt _ (by omega)).trans e2,sm⟩
 have L12:Lay y2 (w.heap.size+1) [.int .i64 0,.slice none 0 0,.slice none 0 0,.slice none 0 0,.slice none 0 0,.slice none 0 0,.int .i64 0]:=(LR1.next hb4).only oy2 (by omega)
 have HL2:Hid (LV y2 v.heap.size (.slice (some ⟨gT,0,none⟩) T.length dT) (.slice (some ⟨gO,0,none⟩) O.length dO) (.slice (some ⟨gP,0,none⟩) P.length dP) T O P):=(HLV.out.next hb4).onlyP (OnlyP.ofOnly (p:=fun k=>k=w.heap.size) oy2 rfl) (fun b e e'=>by have:=(HLB.out b (.inl e)).1;omega) (fun b e e'=>by have:=(HLB.out b (.inr (.inl e))).1;omega) (fun b e e'=>by have:=(HLB.out b (.inr (.inr e))).1;omega)
 have hLi:(L.length:Int)≤1048576:=by omega
 have hKi:(K.length:Int)≤1048576:=by omega
 clear LR1 HLV own4 own5 hV hV2 hgl LY4
 obtain ⟨p0,p1,p2,p3,p4,p5,p6⟩:=Lay.c7 (b:=w.heap.size) LY2
 go_wp2
 clear p0 p1 p2 p3 p4 p5 p6
 go_loopw [28] (fun i wr=>∃(k:Nat) (vs:List Value),i=.int .i64 k∧k≤L.length∧Hid (FO wr y.heap.size wr.heap.size gL L.length vs (L.take k))∧Hid (z1y w.heap.size wr gL k L)∧OnlyO (some gL) y2 wr) (fun i _=>L.length-(intOf i).toNat)
 case atStart=>exact ⟨0,[],rfl,by omega,FB,RB,OnlyO.of_below (Below.refl _ _)⟩
 case round =>
  obtain ⟨k,vs,rfl,hk,HF,HR,ho⟩:=hrel
  have zr:=ho.size
  have bwr:Below w.heap.size w wr:=bw2.trans (ho.below (fun q hq=>by have:=Option.some.inj hq;omega) (by omega))
  have LYr:=LY2.onlyO ho (fun e=>by have:=Option.some.inj e;omega)
  by_cases hlt:k<L.length
  ·have hlt':(k:Int)<(L.length:Int):=by omega
   obtain ⟨d0,d1,sa,sc,d2,sm⟩:=HR.out k hlt (Nat.le_refl _)
   obtain ⟨wd,fl,xs,hx⟩:∃wd fl xs,L[k]=(wd,fl,xs):=⟨_,_,_,rfl⟩
   have HX:Hid (L[k]=(wd,fl,xs)):=hx
   have hxl:xs.length≤1048576:=by have q:=sL L[k] (List.getElem_mem hlt);rw [hx] at q;exact q
   rw [hx] at d0 d1 d2 sm
   clear hx
   simp only at d0 d1 d2 sm
   have HTK:Hid (L.take (k+1)=L.take k ++ [(wd,fl,xs)]):=by
    show L.take (k+1)=_
    rw [zds L hlt,HX.out]
   have HLK:Hid (k=(L.take k).length):=by show k=(L.take k).length;rw [List.length_take];omega
   have hgw:gL<wr.heap.size:=HF.out.g1
   have hg0:=HF.out.g0
   go_upto_region 6 with (fail)
   obtain ⟨x,hxx,X0,by1⟩:=ze8 wr 50 [.int .i64 wd,.int .i64 fl,.slice sa xs.length sc]
   rw [←hxx]
   clear hxx
   have zx:=by1.size
   have smy:ISmp x.heap.size x sa xs:=(sm.mono (by1.mono bwr.size)).up (by omega)
   have HROW:Hid (∀u,Below wr.heap.size wr u→u.cell? ⟨gL,k*3,none⟩=some (.int .i64 wd)∧u.cell? ⟨gL,k*3+1,none⟩=some (.int .i64 fl)∧u.cell? ⟨gL,k*3+2,none⟩=some (.slice sa xs.length sc)∧∀o,o<L.length*3→u.frozen? ⟨gL,o,none⟩=false):=fun u hu=>⟨(hu.cell (by exact hgw)).trans d0,(hu.cell (by exact hgw)).trans d1,(hu.cell (by exact hgw)).trans d2,fun o hoo=>(hu.frozen (by exact hgw)).trans (HF.out.any o hoo).2⟩
   have HS:Hid (∀u,Below x.heap.size x u→u.cell? ⟨w.heap.size,4,none⟩=some (.slice (some ⟨gL,0,none⟩) L.length dL)∧u.cell? ⟨wr.heap.size,0,none⟩=some (.int .i64 wd)∧u.cell? ⟨wr.heap.size,1,none⟩=some (.int .i64 fl)∧u.cell? ⟨wr.heap.size,2,none⟩=some (.slice sa xs.length sc)):=fun u hu=>⟨(LYr.next (zaa by1 hu)).cell 4 _ rfl,(X0.next hu).cell 0 _ rfl,(X0.next hu).cell 1 _ rfl,(X0.next hu).cell 2 _ rfl⟩
   clear d0 d1 d2 sm
   refine zgu 6 HS (Below.refl _ _).drew fun hS=>?_
   refine zae 0 rfl ?_
   refine zae 1 rfl ?_
   refine zae 2 rfl ?_
   refine zae 3 rfl ?_
   refine zai (i:=4) (by kernel_rfl) rfl (fun Kr hKr=>?_)
   go_simp
   (refine (zyu sc hxl (smy.here (Below.refl _ _).drew)).mono ?_;rintro e u5 ⟨va,nv,cv,rfl,iv5,hb5⟩;have iv5:IV u5 x.heap.size (.slice va nv cv) xs:=iv5;have hb5:=zbh hb5;have hS5:=HS.out _ hb5;have b5:=zaa by1 hb5;obtain ⟨q0,q1,q2,fz5⟩:=HROW.out _ b5;have fa:=fz5 (k*3) (by omega);have fb:=fz5 (k*3+1) (by omega);have fc:=fz5 (k*3+2) (by omega))
   refine hKr.out _ _ ‹_› fun _=>?_
   try simp only [nrm]
   refine zai (i:=5) (by kernel_rfl) rfl (fun Kr hKr=>?_)
   go_simp
   refine hKr.out _ _ ‹_› fun _=>?_
   try simp only [nrm]
   refine za4 (by kernel_rfl) rfl (by kernel_rfl) (fun Kr hKr=>?_)
   go_simp
   refine hKr.out _ _ ?_
   try simp only [nrm]
   go_wp2
   have z5:=b5.size
   have nz:=zgm iv5
   subst nz
   have hz5:x.heap.size≤u5.heap.size:=hb5.size
   have fp:=(HF.out.next b5).push (k:=k) HLK.out hlt wd fl ((iv5.io).wider (show y.heap.size≤_ by omega) (Nat.le_refl _)) (fun b e=>by have:=(iv5.io.el e).1;omega)
   rw [←HTK.out] at fp
   have o6:Only gL u5 (zua u5 gL (k*3) (.int .i64 wd) (.int .i64 fl) (.slice va xs.length cv)):=((((Only.refl gL u5).setCell (p:=⟨gL,k*3,none⟩) rfl _).setCell (p:=⟨gL,k*3+1,none⟩) rfl _).setCell (p:=⟨gL,k*3+2,none⟩) rfl _)
   obtain ⟨u6,hu6⟩:∃u6,u6=zua u5 gL (k*3) (.int .i64 wd) (.int .i64 fl) (.slice va xs.length cv):=⟨_,rfl⟩
   have hu6':((u5.setCell ⟨gL,k*3,none⟩ (.int .i64 wd)).setCell ⟨gL,k*3+1,none⟩ (.int .i64 fl)).setCell ⟨gL,k*3+2,none⟩ (.slice va xs.length cv)=u6:=hu6.symm
   have z6:u6.heap.size=u5.heap.size:=by rw [hu6];exact zid ..
   have r6:z1y w.heap.size u6 gL (k+1) L:=fun i hi hki=>by
    obtain ⟨r0,r1,sa',sc',r2,sm'⟩:=HR.out i hi (by omega)
    rw [hu6]
    exact ⟨(zaf (by omega)).trans ((zaf (by omega)).trans ((zaf (by omega)).trans ((b5.cell (by exact hgw)).trans r0))),(zaf (by omega)).trans ((zaf (by omega)).trans ((zaf (by omega)).trans ((b5.cell (by exact hgw)).trans r1))),sa',sc',(zaf (by omega)).trans ((zaf (by omega)).trans ((zaf (by omega)).trans ((b5.cell (by exact hgw)).trans r2))),(sm'.mono (b5.mono bwr.size)).mono (o6.below (by omega) (by omega))⟩
   rw [←hu6] at fp o6
   rw [←z6] at fp
   rw [hu6']
   clear hu6' hu6
   have ho6:OnlyO (some gL) y2 u6:=(ho.trans (OnlyO.of_below b5)).trans (OnlyO.of_only o6)
   go_roundw
   case rel=>exact ⟨k+1,_,by go_num,by omega,fp,r6,ho6⟩
   case measure=>simp [intOf]<;>omega
  ·have e:k=L.length:=by omega
   subst e
   have HTV:Hid (TV wr y.heap.size wr.heap.size (.slice (some ⟨gL,0,none⟩) L.length dL) L):=by
    have q:=HF.out
    rw [List.take_length] at q
    exact .inl ⟨gL,dL,vs,rfl,hcapL,q⟩
   have HL3:Hid (LV wr v.heap.size (.slice (some ⟨gT,0,none⟩) T.length dT) (.slice (some ⟨gO,0,none⟩) O.length dO) (.slice (some ⟨gP,0,none⟩) P.length dP) T O P):=HL2.out.onlyP (OnlyP.of ho) (fun b e e'=>by have:=(HLB.out b (.inl e)).2;have:=Option.some.inj e';omega) (fun b e e'=>by have:=(HLB.out b (.inr (.inl e))).2;have:=Option.some.inj e';omega) (fun b e e'=>by have:=(HLB.out b (.inr (.inr e))).2;have:=Option.some.inj e';omega)
   have L13:=L12.onlyO ho (fun e=>by have:=Option.some.inj e;omega)
   obtain ⟨y3,hy3⟩:∃y,y=wr:=⟨_,rfl⟩
   subst hy3
   obtain ⟨q0,q1,q2,q3,q4,q5,q6⟩:=Lay.c7 (b:=w.heap.size) LYr
   go_upto_region 9 with (first|(go_at_call 101;refine (znc cK (hK.mono bwr) bwr.size mK).mono ?_;rintro e w8 ⟨v8,G8',rfl,hVK,own8,hb8⟩;obtain ⟨aKc,dK,rfl⟩:=zay own8;have LY8:=LYr.next hb8;obtain ⟨l80,l81,l82,l83,l84,l85,l86⟩:=Lay.c7 (b:=w.heap.size) LY8;have ly8f:=LY8.free))
   clear q0 q1 q2 q3 q4 q5 q6
   obtain ⟨y4,hy4⟩:∃y,y=w8.setCells w.heap.size 5 [.slice aKc K.length dK]:=⟨_,rfl⟩
   have hy':w8.setCell ⟨w.heap.size,5,none⟩ (.slice aKc K.length dK)=y4:=hy4.symm
   rw [hy']
   clear hy'
   have oy4:Only w.heap.size w8 y4:=by rw [hy4];exact zba _ _ _
   have LY4:Lay y4 w.heap.size [.int .i64 now,.slice (some ⟨gT,0,none⟩) T.length dT,.slice (some ⟨gO,0,none⟩) O.length dO,.slice (some ⟨gP,0,none⟩) P.length dP,.slice (some ⟨gL,0,none⟩) L.length dL,.slice aKc K.length dK,.int .i64 nx]:=by rw [hy4];exact LY8.put (p:=[.int .i64 now,.slice (some ⟨gT,0,none⟩) T.length dT,.slice (some ⟨gO,0,none⟩) O.length dO,.slice (some ⟨gP,0,none⟩) P.length dP,.slice (some ⟨gL,0,none⟩) L.length dL]) (q:=[.slice aK K.length cK]) (r:=[.int .i64 nx]) [.slice aKc K.length dK] rfl
   clear hy4 l80 l81 l82 l83 l84 l85 l86 ly8f
   have z8:=hb8.size
   have z84:=oy4.size
   have bw4:Below w.heap.size w y4:=(zaa bwr hb8).trans (oy4.below (Nat.le_refl _) (zaa bwr hb8).size)
   have hVK4:VK w.heap.size y4 G8' K:=hVK.mono ((hb8.mono bwr.size).trans (oy4.below (Nat.le_refl _) (by omega)))
   have own9:y4.ownsRow y3.heap.size 47 14 (.slice aKc K.length dK) K.length (zbl G8'):=zqh own8 (OnlyO.of_only oy4) (fun b e e'=>by have:=(own8.lt b e).1;have:=Option.some.inj e';omega)
   have C0:CpM w.heap.size y4 y3.heap.size (.slice aKc K.length dK) G8' K 0:=⟨own9,hVK4.fst,(fun i hi h=>by omega),(fun i hi _=>hVK4.at' i hi),(fun i hi b h=>by omega),(fun i hi h=>by omega)⟩
   have L14:Lay y4 (w.heap.size+1) [.int .i64 0,.slice none 0 0,.slice none 0 0,.slice none 0 0,.slice none 0 0,.slice none 0 0,.int .i64 0]:=(L13.next hb8).only oy4 (by omega)
   have HL4:Hid (LV y4 v.heap.size (.slice (some ⟨gT,0,none⟩) T.length dT) (.slice (some ⟨gO,0,none⟩) O.length dO) (.slice (some ⟨gP,0,none⟩) P.length dP) T O P):=(HL3.out.next hb8).onlyP (OnlyP.ofOnly (p:=fun k=>k=w.heap.size) oy4 rfl) (fun b e e'=>by have:=(HLB.out b (.inl e)).1;omega) (fun b e e'=>by have:=(HLB.out b (.inr (.inl e))).1;omega) (fun b e e'=>by have:=(HLB.out b (.inr (.inr e))).1;omega)
   have HT4:Hid (TV y4 y.heap.size y3.heap.size (.slice (some ⟨gL,0,none⟩) L.length dL) L):=(HTV.out.next hb8).same oy4.size (fun b a1 a2 a3=>oy4.block b a3 (by omega))
   clear hVK hVK4 own8 own9 LY8 L13 HL3 HTV
   obtain ⟨r0,r1,r2,r3,r4,r5,r6⟩:=Lay.c7 (b:=w.heap.size) LY4
   go_wp2
   clear r0 r1 r2 r3 r4 r5 r6
   go_loopw [47] (fun i wq=>∃(k:Nat) (G:List G14),i=.int .i64 k∧k≤K.length∧Hid (CpM w.heap.size wq y3.heap.size (.slice aKc K.length dK) G K k)∧OnlyP (fun b=>y3.heap.size≤b) y4 wq) (fun i _=>K.length-(intOf i).toNat)
   case atStart=>exact ⟨0,_,rfl,by omega,C0,OnlyP.refl _ _⟩
   case round =>
    obtain ⟨k,G2,rfl,hk2,HCK,ho2⟩:=hrel
    have zr2:=ho2.size
    have bwq:Below w.heap.size w wr:=bw4.trans (ho2.below (fun q hq=>by omega) (by omega))
    have LYq:=LY4.block ho2.size (ho2.block _ LY4.lt (by omega))
    by_cases hlt:k<K.length
    ·have hlt':(k:Int)<(K.length:Int):=by omega
     obtain ⟨gK,eK⟩:∃gK,aKc=some ⟨gK,0,none⟩:=by
      obtain ⟨g,d,e⟩:=zks HCK.out.row (by omega)
      injection e with e1
      exact ⟨g,e1⟩
     subst eK
     have hiG:k<G2.length:=by rw [HCK.out.len];exact hlt
     obtain ⟨c,hc⟩:∃c,G2[k].1=c:=⟨_,rfl⟩
     have hcK:K[k]=c:=by
      have:(G2.map Prod.fst)[k]?=K[k]?:=by rw [HCK.out.fst]
      rw [List.getElem?_map,List.getElem?_eq_getElem hiG,List.getElem?_eq_getElem hlt] at this
      exact (Option.some.inj this).symm.trans hc
     have hxl:c.xs.length≤1048576:=by rw [←hcK];exact sK _ (List.getElem_mem hlt)
     obtain ⟨sa,sc,hsv,sm⟩:=HCK.out.old k hiG (Nat.le_refl _)
     rw [hc] at hsv sm
     have dd:∀j u,(zgt (c,.slice sa c.xs.length sc))[j]?=some u→wr.cell? ⟨gK,k*14+j,none⟩=some u:=fun j u hu=>by
      have hj:=(List.getElem?_eq_some_iff.1 hu).1
      rw [zb0] at hj
      have hG:G2[k]=(c,.slice sa c.xs.length sc):=Prod.ext hc hsv
      refine (HCK.out.row.cellAt _ (by omega)).trans ((zbw G2 k hiG j hj).trans ?_)
      rw [hG]
      exact hu
     have HC1:Hid (G2[k].1=c):=hc
     clear hc hcK hsv
     have d13:wr.cell? ⟨gK,k*14+13,none⟩=some (.slice sa c.xs.length sc):=dd 13 _ rfl
     have e0:wr.cell? ⟨gK,k*14,none⟩=some (.int .i64 c.id):=dd 0 _ rfl
     have e1:wr.cell? ⟨gK,k*14+1,none⟩=some (.int .i64 c.lf):=dd 1 _ rfl
     have e2:wr.cell? ⟨gK,k*14+2,none⟩=some (.int .i64 c.pl):=dd 2 _ rfl
     have e3:wr.cell? ⟨gK,k*14+3,none⟩=some (.int .i64 c.k):=dd 3 _ rfl
     have e4:wr.cell? ⟨gK,k*14+4,none⟩=some (.int .i64 c.wn):=dd 4 _ rfl
     have e5:wr.cell? ⟨gK,k*14+5,none⟩=some (.int .i64 c.th):=dd 5 _ rfl
     have e6:wr.cell? ⟨gK,k*14+6,none⟩=some (.int .i64 c.fl):=dd 6 _ rfl
     have e7:wr.cell? ⟨gK,k*14+7,none⟩=some (.int .i64 c.ac):=dd 7 _ rfl
     have e8:wr.cell? ⟨gK,k*14+8,none⟩=some (.int .i64 c.la):=dd 8 _ rfl
     have e9:wr.cell? ⟨gK,k*14+9,none⟩=some (.int .i64 c.og):=dd 9 _ rfl
     have e10:wr.cell? ⟨gK,k*14+10,none⟩=some (.int .i64 c.st):=dd 10 _ rfl
     have e11:wr.cell? ⟨gK,k*14+11,none⟩=some (.int .i64 c.fr):=dd 11 _ rfl
     have e12:wr.cell? ⟨gK,k*14+12,none⟩=some (.bool c.sl):=dd 12 _ rfl
     have e13:wr.cell? ⟨gK,k*14+13,none⟩=some (.slice sa c.xs.length sc):=dd 13 _ rfl
     have hgw:gK<wr.heap.size:=(HCK.out.row.lt gK rfl).2
     have hgk0:=(HCK.out.row.lt gK rfl).1
     clear dd
     go_upto_region 12 with (fail)
     obtain ⟨y,hy,Y0,by1⟩:=ze8 wr 47 [.int .i64 c.id,.int .i64 c.lf,.int .i64 c.pl,.int .i64 c.k,.int .i64 c.wn,.int .i64 c.th,.int .i64 c.fl,.int .i64 c.ac,.int .i64 c.la,.int .i64 c.og,.int .i64 c.st,.int .i64 c.fr,.bool c.sl,.slice sa c.xs.length sc]
     rw [←hy]
     clear hy e0 e1 e2 e3 e4 e5 e6 e7 e8 e9 e10 e11 e12 e13
     have zy1:=by1.size
     have HSM:Hid (ISmp y.heap.size y sa c.xs):=(sm.mono (by1.mono bwq.size)).up (by have:=bwq.size;omega)
     have HS:Hid (∀u,Below y.heap.size y u→u.cell? ⟨w.heap.size,5,none⟩=some (.slice (some ⟨gK,0,none⟩) K.length dK)∧u.cell? ⟨wr.heap.size,13,none⟩=some (.slice sa c.xs.length sc)):=fun u hu=>⟨(LYq.next (zaa by1 hu)).cell 5 _ rfl,(Y0.next hu).cell 13 _ rfl⟩
     clear sm
     refine zgu 8 HS (Below.refl _ _).drew fun hS=>?_
     refine zae 0 rfl ?_
     refine zae 1 rfl ?_
     refine zae 2 rfl ?_
     refine zae 3 rfl ?_
     refine zae 4 rfl ?_
     refine zai (i:=5) (by kernel_rfl) rfl (fun Kr hKr=>?_)
     go_simp
     (refine (zq6 sc (HSM.out.here (Below.refl _ _).drew) hxl).mono ?_;rintro e u5 ⟨v5,rfl,own5,hb5,hz5⟩;have HZ5:Hid (c.xs=[]→∃a,v5=.slice a 0 0):=hz5;clear hz5;obtain ⟨va,cv,rfl⟩:=zay own5;have hb5:=zbh hb5;have hS5:=HS.out _ hb5;have b5:=zaa by1 hb5;have q13:u5.cell? ⟨gK,k*14+13,none⟩=some (.slice sa c.xs.length sc):=(b5.cell (by exact hgw)).trans d13;have fz5:∀o,u5.frozen? ⟨gK,o,none⟩=false:=fun o=>(b5.frozen (by exact hgw)).trans (HCK.out.row.frozenAt o);have OW:Hid (u5.ownsRow y.heap.size 2 1 (.slice va c.xs.length cv) c.xs.length (za7 c.xs)):=own5;clear own5)
     refine hKr.out _ _ ‹_› fun _=>?_
     try simp only [nrm]
     refine zai (i:=6) (by kernel_rfl) rfl (fun Kr hKr=>?_)
     go_simp
     refine hKr.out _ _ ‹_› fun _=>?_
     try simp only [nrm]
     refine zai (i:=7) (by kernel_rfl) rfl (fun Kr hKr=>?_)
     go_simp
     refine hKr.out _ _ ‹_› fun _=>?_
     try simp only [nrm]
     refine za4 (by kernel_rfl) rfl (by kernel_rfl) (fun Kr hKr=>?_)
     go_simp
     refine hKr.out _ _ ?_
     try simp only [nrm]
     go_wp2
     have OW2:=OW.out
     have hz5:=hb5.size
     have hzb5:=b5.size
     have hbz:=bwq.size
     have cs:=HCK.out.step hiG b5 (lo2:=y.heap.size) (by omega) (by omega) (v:=.slice va c.xs.length cv) (by rw [HC1.out];exact OW2) (by omega) (by omega) (by rw [HC1.out];exact HZ5.out)
     have o9:Only gK u5 (u5.setCell ⟨gK,k*14+13,none⟩ (.slice va c.xs.length cv)):=(Only.refl _ u5).setCell (p:=⟨gK,k*14+13,none⟩) rfl _
     have hoq:OnlyP (fun b=>y3.heap.size≤b) y4 (u5.setCell ⟨gK,k*14+13,none⟩ (.slice va c.xs.length cv)):=(ho2.two (OnlyP.of_below b5)).two (OnlyP.ofOnly o9 hgk0)
     go_roundw
     case rel=>exact ⟨k+1,_,by go_num,by omega,cs,hoq⟩
     case measure=>simp [intOf]<;>omega
    ·have e:k=K.length:=by omega
     subst e
     have HCF:Hid (CpK wr y3.heap.size (.slice aKc K.length dK) G2 K):=HCK.out.done (Nat.le_refl _)
     have L15:=L14.block ho2.size (ho2.block _ L14.lt (by omega))
     obtain ⟨a0,a1,a2,a3,a4,a5,a6⟩:=Lay.c7 (b:=w.heap.size) LYq
     obtain ⟨b0,b1,b2,b3,b4,b5,b6⟩:=Lay.c7 (b:=w.heap.size+1) L15
     have fz:=L15.free
     go_wp2
     obtain ⟨u,hu',ou,U⟩:=st7 (b:=w.heap.size+1) L15 (.int .i64 now) (.slice (some ⟨gT,0,none⟩) T.length dT) (.slice (some ⟨gO,0,none⟩) O.length dO) (.slice (some ⟨gP,0,none⟩) P.length dP) (.slice (some ⟨gL,0,none⟩) L.length dL) (.slice aKc K.length dK) (.int .i64 nx)
     rw [hu']
     clear hu'
     have zu:=ou.size
     have LB:Hid (∀b,inL (.slice (some ⟨gT,0,none⟩) T.length dT) (.slice (some ⟨gO,0,none⟩) O.length dO) (.slice (some ⟨gP,0,none⟩) P.length dP) b→v.heap.size≤b∧b<y.heap.size):=HLB.out
     have lq:LV wr v.heap.size (.slice (some ⟨gT,0,none⟩) T.length dT) (.slice (some ⟨gO,0,none⟩) O.length dO) (.slice (some ⟨gP,0,none⟩) P.length dP) T O P:=HL4.out.onlyP ho2 (fun b e e'=>by have:=(LB.out b (.inl e)).2;omega) (fun b e e'=>by have:=(LB.out b (.inr (.inl e))).2;omega) (fun b e e'=>by have:=(LB.out b (.inr (.inr e))).2;omega)
     have lu:LV u v.heap.size (.slice (some ⟨gT,0,none⟩) T.length dT) (.slice (some ⟨gO,0,none⟩) O.length dO) (.slice (some ⟨gP,0,none⟩) P.length dP) T O P:=lq.onlyP (OnlyP.ofOnly (p:=fun k=>k=w.heap.size+1) ou rfl) (fun b e e'=>by have:=(LB.out b (.inl e)).1;omega) (fun b e e'=>by have:=(LB.out b (.inr (.inl e))).1;omega) (fun b e e'=>by have:=(LB.out b (.inr (.inr e))).1;omega)
     have tq:TV wr y.heap.size y3.heap.size (.slice (some ⟨gL,0,none⟩) L.length dL) L:=HT4.out.same ho2.size (fun b a1 a2 a3=>ho2.block b a3 (by omega))
     have tu:TV u y.heap.size y3.heap.size (.slice (some ⟨gL,0,none⟩) L.length dL) L:=tq.same ou.size (fun b a1 a2 a3=>ou.block b a3 (by omega))
     have ku:CpK u y3.heap.size (.slice aKc K.length dK) G2 K:=HCF.out.only1 ou (by omega)
     refine bodyPost_ret (zaj rfl _ _ _ _ rfl U.cell Tryz.underlying31 rfl (by kernel_rfl)) rfl ?_
     exact ⟨_,dT,_,dO,_,dP,_,dL,_,dK,G2,y.heap.size,y3.heap.size,rfl,lu.lower (by omega),(fun b hb=>(LB.out b hb).2),tu,ku,⟨by omega,by omega,by omega⟩,bwq.trans (ou.below (by omega) bwq.size)⟩
theorem zkt {w:World} {aT aO aP:Option Addr} (cT cO cP:Nat) {T O P:List Q4} {f:Bool} (hf:zbf T O P=f) (hT:Quad w.heap.size w aT T) (hO:Quad w.heap.size w aO O) (hP:Quad w.heap.size w aP P) :
 Calls Tryz.prog 61 #[zdb aT T.length cT aO O.length cO aP P.length cP] w fun e w'=>e=.returned (.bool f)∧Below w.heap.size w w':=by subst hf;exact zra cT cO cP hT hO hP
theorem zr4 {T:List Q4} {n:Nat} {c:Kn}:zei T n c=(inQ 0 c.id 1000000 && zgk T n c):=by
 unfold zei zgk zmh
 cases h5:ccB c.k c.wn c.th c.fl c.ac c.la c.og c.st c.fr
 ·simp
 ·have hk:=(zcu h5).1
  have e:(!decide (c.k=3))=zlq c.k:=by
   unfold zlq
   by_cases e1:c.k=1
   ·simp [e1]
   ·by_cases e2:c.k=2
    ·simp [e2]
    ·have e3:c.k=3:=by omega
     simp [e3]
  rw [e]
  cases inQ 0 c.id 1000000 <;> cases inQ 0 c.lf ((T.length:Int)-1) <;> cases zdd T c.lf <;> cases inQ 0 c.pl ((n:Int)-1) <;> simp
theorem eg_mem {now nx:Int} {T O P:List Q4} {L:List F8} {K:List Kn} (h:EgOk now nx T O P L K):MemTo (zf5 K) (zf5 K).length:=fun i hi _=>by
 have hi':i<K.length:=by rw [zbo] at hi;exact hi
 rw [zlb hi' hi]
 refine ⟨?_,fun j hj e=>?_⟩
 ·have q:=h.con i hi'
  rw [zr4,Bool.and_eq_true] at q
  have q1:=q.1
  unfold inQ at q1
  simp only [Bool.and_eq_true,decide_eq_true_eq] at q1
  exact q1
 ·subst e
  have hj':j<K.length:=by omega
  rw [zlb hj' hj]
  exact h.rise j hj' hi'
theorem eg_may {now nx:Int} {T O P:List Q4} {L:List F8} {K:List Kn} (h:EgOk now nx T O P L K):K.all (zgk T L.length)=true:=by
 rw [List.all_eq_true]
 intro x hx
 obtain ⟨i,hi,rfl⟩:=List.mem_iff_getElem.1 hx
 have q:=h.con i hi
 rw [zr4,Bool.and_eq_true] at q
 exact q.2
theorem eg_of {now nx:Int} {T O P:List Q4} {L:List F8} {K:List Kn} (h1:zbf T O P=true) (h2:zdv O=now) (h3:inQ 0 nx 1000001=true) (h4:1≤L.length) (h5:L.length≤10) (h6:K.length≤40) (hm:MemTo (zf5 K) (zf5 K).length) (hy:K.all (zgk T L.length)=true) (hp:∀p (h:p<L.length),plR L[p].1 L[p].2.1 L[p].2.2 K p):EgOk now nx T O P L K:=by
 have hid:∀i (h:i<K.length),0≤K[i].id∧K[i].id≤1000000:=fun i h=>by
  have h':i<(zf5 K).length:=by rw [zbo];exact h
  have q:=(hm i h' h').1
  rw [zlb h h'] at q
  exact q
 refine ⟨h1,h2,h3,h4,h5,h6,fun i hi=>?_,fun i hi hi'=>?_,hp⟩
 ·rw [zr4,Bool.and_eq_true]
  refine ⟨?_,(List.all_eq_true.1 hy) _ (List.getElem_mem hi)⟩
  unfold inQ
  simp only [Bool.and_eq_true,decide_eq_true_eq]
  exact hid i hi
 ·have a:i<(zf5 K).length:=by rw [zbo];exact hi
  have b:i+1<(zf5 K).length:=by rw [zbo];exact hi'
  have q:=(hm (i+1) b b).2 i a rfl
  rw [zlb hi a,zlb hi' b] at q
  exact q
theorem may_fl {T:List Q4} {n:Nat} {K:List Kn} (hy:K.all (zgk T n)=true):∀c ∈ K,0≤c.fl∧c.fl≤1000000000:=fun c hc=>by
 have q:=(List.all_eq_true.1 hy) c hc
 unfold zgk at q
 simp only [Bool.and_eq_true] at q
 exact (zcu q.1.1.1.2).2.2.2.1
theorem zne {w:World} {now nx:Int} {aT aO aP aL aK:Option Addr} {nT cT nO cO nP cP cL cK:Nat} {L:List F8} {K:List Kn} {p:Nat} {wd fl:Int} {xs:List Int} {f:Bool} (hf:zr1 wd fl xs K p=f) (hp:p<L.length) (hx:L[p]=(wd,fl,xs)) (hL:Fls w.heap.size w aL L) (hK:Kls w.heap.size w aK K) (nL:L.length≤10) (nK:K.length≤40) (xl:xs.length≤1048576) (hfl:∀c ∈ K,0≤c.fl∧c.fl≤1000000000) :
 Calls Tryz.prog 68 #[zcp now aT nT cT aO nO cO aP nP cP aL L.length cL aK K.length cK nx,.int .i64 p] w fun e w'=>e=.returned (.bool f)∧Below w.heap.size w w':=by subst hf;exact zr3 now nx hp hx hL hK nL nK xl hfl
theorem zr5 {w:World} (now nx:Int) {aT aO aP aL aK:Option Addr} (cT cO cP cL cK:Nat) {T O P:List Q4} {L:List F8} {K:List Kn} (hT:Quad w.heap.size w aT T) (hO:Quad w.heap.size w aO O) (hP:Quad w.heap.size w aP P) (hL:Fls w.heap.size w aL L) (hK:Kls w.heap.size w aK K) (mL:L.length≤1048576) (sL:∀f ∈ L,f.2.2.length≤1048576) (mK:K.length≤1048576) (sK:∀c ∈ K,c.xs.length≤maxLen) (h1:zbf T O P=false) :
 Calls Tryz.prog 16 #[zcp now aT T.length cT aO O.length cO aP P.length cP aL L.length cL aK K.length cK nx] w fun e w'=>e=.returned (.bool (zcy now nx T O P L K))∧Below w.heap.size w w':=by
 obtain ⟨v,hv,L0,nb⟩:=ze8 w 31 [.int .i64 now,.slice aT T.length cT,.slice aO O.length cO,.slice aP P.length cP,.slice aL L.length cL,.slice aK K.length cK,.int .i64 nx]
 have HE:Hid (zcy now nx T O P L K=false):=zb1 (fun h=>by have q:=h.lend;rw [h1] at q;cases q)
 go_enter Tryz.func16,Tryz.ntmps16
 go_upto_region 1 with (fail)
 rw [←hv]
 clear hv
 have HS:Hid (∀x,Below v.heap.size v x→x.cell? ⟨w.heap.size,0,none⟩=some (.int .i64 now)∧x.cell? ⟨w.heap.size,1,none⟩=some (.slice aT T.length cT)∧x.cell? ⟨w.heap.size,2,none⟩=some (.slice aO O.length cO)∧x.cell? ⟨w.heap.size,3,none⟩=some (.slice aP P.length cP)∧x.cell? ⟨w.heap.size,4,none⟩=some (.slice aL L.length cL)∧x.cell? ⟨w.heap.size,5,none⟩=some (.slice aK K.length cK)∧x.cell? ⟨w.heap.size,6,none⟩=some (.int .i64 nx)):=fun x hx=>⟨(L0.next hx).cell 0 _ rfl,(L0.next hx).cell 1 _ rfl,(L0.next hx).cell 2 _ rfl,(L0.next hx).cell 3 _ rfl,(L0.next hx).cell 4 _ rfl,(L0.next hx).cell 5 _ rfl,(L0.next hx).cell 6 _ rfl⟩
 refine zce HS (Below.refl _ _).drew fun hS=>?_
 refine zab 0 rfl ?_
 refine zab 1 rfl ?_
 refine zci 2 rfl fun Kr hKr=>?_
 go_simp
 (refine (zkt cT cO cP h1 (hT.here nb.drew) (hO.here nb.drew) (hP.here nb.drew)).mono ?_;rintro e w5 ⟨rfl,hb5⟩;have hb5:=zbh hb5;have hS5:=HS.out _ hb5)
 refine hKr.out _ _ ‹_› fun _=>?_
 try simp only [nrm]
 refine zab 3 rfl ?_
 refine zab 4 rfl ?_
 refine zas 5 rfl ?_
 refine zas 6 rfl ?_
 refine zas 7 rfl ?_
 refine zas 8 rfl ?_
 refine zas 9 rfl ?_
 refine zas 10 rfl ?_
 refine zas 11 rfl ?_
 refine zas 12 rfl ?_
 refine zas 13 rfl ?_
 refine zab 14 rfl ?_
 refine zab 15 rfl ?_
 refine zas 16 rfl ?_
 refine zas 17 rfl ?_
 refine zas 18 rfl ?_
 refine zas 19 rfl ?_
 refine zab 20 rfl ?_
 refine wpAnyH_done (by kernel_rfl) ?_ _
 go_wp2
 go_ret
 exact ⟨zeg HE.out.symm,zaa nb hb5⟩
theorem zr6 {w:World} (now nx:Int) {aT aO aP aL aK:Option Addr} (cT cO cP cL cK:Nat) {T O P:List Q4} {L:List F8} {K:List Kn} (hT:Quad w.heap.size w aT T) (hO:Quad w.heap.size w aO O) (hP:Quad w.heap.size w aP P) (hL:Fls w.heap.size w aL L) (hK:Kls w.heap.size w aK K) (mL:L.length≤1048576) (sL:∀f ∈ L,f.2.2.length≤1048576) (mK:K.length≤1048576) (sK:∀c ∈ K,c.xs.length≤maxLen) (h1:zbf T O P=true) (h2:¬zdv O=now) :
 Calls Tryz.prog 16 #[zcp now aT T.length cT aO O.length cO aP P.length cP aL L.length cL aK K.length cK nx] w fun e w'=>e=.returned (.bool (zcy now nx T O P L K))∧Below w.heap.size w w':=by
 obtain ⟨v,hv,L0,nb⟩:=ze8 w 31 [.int .i64 now,.slice aT T.length cT,.slice aO O.length cO,.slice aP P.length cP,.slice aL L.length cL,.slice aK K.length cK,.int .i64 nx]
 have hlo:=(zbe h1).lo
 have hl0:=(zbe h1).tree.l0
 have hl30:=(zbe h1).tree.l1
 have h0O:0<O.length:=by omega
 have h0O':(0:Int)<(O.length:Int):=by omega
 clear hlo hl0
 obtain ⟨A,hA⟩:∃A,O[0].2.2.2=A:=⟨_,rfl⟩
 have HA:Hid (zdv O=A):=(zgh h0O).trans hA
 rw [HA.out] at h2
 obtain ⟨bo,oo,hao,hbo,-,-,-,qA⟩:=hO.at nb 0 h0O
 rw [hA,Nat.zero_mul,Nat.add_zero] at qA
 subst hao
 clear hA
 have h2':(A != now)=true:=by simp [h2]
 have HE:Hid (zcy now nx T O P L K=false):=zb1 (fun h=>by exact h2 (HA.out.symm.trans h.at'))
 go_enter Tryz.func16,Tryz.ntmps16
 go_upto_region 1 with (fail)
 rw [←hv]
 clear hv
 have HS:Hid (∀x,Below v.heap.size v x→x.cell? ⟨w.heap.size,0,none⟩=some (.int .i64 now)∧x.cell? ⟨w.heap.size,1,none⟩=some (.slice aT T.length cT)∧x.cell? ⟨w.heap.size,2,none⟩=some (.slice (some ⟨bo,oo,none⟩) O.length cO)∧x.cell? ⟨w.heap.size,3,none⟩=some (.slice aP P.length cP)∧x.cell? ⟨w.heap.size,4,none⟩=some (.slice aL L.length cL)∧x.cell? ⟨w.heap.size,5,none⟩=some (.slice aK K.length cK)∧x.cell? ⟨w.heap.size,6,none⟩=some (.int .i64 nx)∧x.cell? ⟨bo,oo+3,none⟩=some (.int .i64 A)):=fun x hx=>⟨(L0.next hx).cell 0 _ rfl,(L0.next hx).cell 1 _ rfl,(L0.next hx).cell 2 _ rfl,(L0.next hx).cell 3 _ rfl,(L0.next hx).cell 4 _ rfl,(L0.next hx).cell 5 _ rfl,(L0.next hx).cell 6 _ rfl,(hx.cell (by exact Nat.lt_of_lt_of_le hbo nb.size)).trans qA⟩
 refine zce HS (Below.refl _ _).drew fun hS=>?_
 refine zab 0 rfl ?_
 refine zab 1 rfl ?_
 refine zci 2 rfl fun Kr hKr=>?_
 go_simp
 (refine (zkt cT cO cP h1 (hT.here nb.drew) (hO.here nb.drew) (hP.here nb.drew)).mono ?_;rintro e w5 ⟨rfl,hb5⟩;have hb5:=zbh hb5;have hS5:=HS.out _ hb5)
 refine hKr.out _ _ ‹_› fun _=>?_
 try simp only [nrm]
 refine zab 3 rfl ?_
 refine zab 4 rfl ?_
 refine zab 5 rfl ?_
 refine zab 6 rfl ?_
 refine zab 7 rfl ?_
 refine zab 8 rfl ?_
 refine zab 9 rfl ?_
 refine zab 10 rfl ?_
 refine zab 11 rfl ?_
 refine zab 12 rfl ?_
 refine zab 13 rfl ?_
 refine zab 14 rfl ?_
 refine zab 15 rfl ?_
 refine zas 16 rfl ?_
 refine zas 17 rfl ?_
 refine zas 18 rfl ?_
 refine zas 19 rfl ?_
 refine zab 20 rfl ?_
 refine wpAnyH_done (by kernel_rfl) ?_ _
 go_wp2
 go_ret
 exact ⟨zeg HE.out.symm,zaa nb hb5⟩
theorem zr7 {w:World} (now nx:Int) {aT aO aP aL aK:Option Addr} (cT cO cP cL cK:Nat) {T O P:List Q4} {L:List F8} {K:List Kn} (hT:Quad w.heap.size w aT T) (hO:Quad w.heap.size w aO O) (hP:Quad w.heap.size w aP P) (hL:Fls w.heap.size w aL L) (hK:Kls w.heap.size w aK K) (mL:L.length≤1048576) (sL:∀f ∈ L,f.2.2.length≤1048576) (mK:K.length≤1048576) (sK:∀c ∈ K,c.xs.length≤maxLen) (h1:zbf T O P=true) (h2:zdv O=now) (h3:inQ 0 nx 1000001=false) :
 Calls Tryz.prog 16 #[zcp now aT T.length cT aO O.length cO aP P.length cP aL L.length cL aK K.length cK nx] w fun e w'=>e=.returned (.bool (zcy now nx T O P L K))∧Below w.heap.size w w':=by
 obtain ⟨v,hv,L0,nb⟩:=ze8 w 31 [.int .i64 now,.slice aT T.length cT,.slice aO O.length cO,.slice aP P.length cP,.slice aL L.length cL,.slice aK K.length cK,.int .i64 nx]
 have hlo:=(zbe h1).lo
 have hl0:=(zbe h1).tree.l0
 have hl30:=(zbe h1).tree.l1
 have h0O:0<O.length:=by omega
 have h0O':(0:Int)<(O.length:Int):=by omega
 clear hlo hl0
 obtain ⟨A,hA⟩:∃A,O[0].2.2.2=A:=⟨_,rfl⟩
 have HA:Hid (zdv O=A):=(zgh h0O).trans hA
 rw [HA.out] at h2
 obtain ⟨bo,oo,hao,hbo,-,-,-,qA⟩:=hO.at nb 0 h0O
 rw [hA,Nat.zero_mul,Nat.add_zero] at qA
 subst hao
 clear hA
 subst h2
 have HE:Hid (zcy A nx T O P L K=false):=zb1 (fun h=>by have q:=h.nx';rw [h3] at q;cases q)
 go_enter Tryz.func16,Tryz.ntmps16
 go_upto_region 1 with (fail)
 rw [←hv]
 clear hv
 have HS:Hid (∀x,Below v.heap.size v x→x.cell? ⟨w.heap.size,0,none⟩=some (.int .i64 A)∧x.cell? ⟨w.heap.size,1,none⟩=some (.slice aT T.length cT)∧x.cell? ⟨w.heap.size,2,none⟩=some (.slice (some ⟨bo,oo,none⟩) O.length cO)∧x.cell? ⟨w.heap.size,3,none⟩=some (.slice aP P.length cP)∧x.cell? ⟨w.heap.size,4,none⟩=some (.slice aL L.length cL)∧x.cell? ⟨w.heap.size,5,none⟩=some (.slice aK K.length cK)∧x.cell? ⟨w.heap.size,6,none⟩=some (.int .i64 nx)∧x.cell? ⟨bo,oo+3,none⟩=some (.int .i64 A)):=fun x hx=>⟨(L0.next hx).cell 0 _ rfl,(L0.next hx).cell 1 _ rfl,(L0.next hx).cell 2 _ rfl,(L0.next hx).cell 3 _ rfl,(L0.next hx).cell 4 _ rfl,(L0.next hx).cell 5 _ rfl,(L0.next hx).cell 6 _ rfl,(hx.cell (by exact Nat.lt_of_lt_of_le hbo nb.size)).trans qA⟩
 refine zce HS (Below.refl _ _).drew fun hS=>?_
 refine zab 0 rfl ?_
 refine zab 1 rfl ?_
 refine zci 2 rfl fun Kr hKr=>?_
 go_simp
 (refine (zkt cT cO cP h1 (hT.here nb.drew) (hO.here nb.drew) (hP.here nb.drew)).mono ?_;rintro e w5 ⟨rfl,hb5⟩;have hb5:=zbh hb5;have hS5:=HS.out _ hb5)
 refine hKr.out _ _ ‹_› fun _=>?_
 try simp only [nrm]
 refine zab 3 rfl ?_
 refine zab 4 rfl ?_
 refine zab 5 rfl ?_
 refine zab 6 rfl ?_
 refine zab 7 rfl ?_
 refine zab 8 rfl ?_
 refine zab 9 rfl ?_
 refine zab 10 rfl ?_
 refine zab 11 rfl ?_
 refine zab 12 rfl ?_
 refine zab 13 rfl ?_
 refine zab 14 rfl ?_
 refine zab 15 rfl ?_
 refine zab 16 rfl ?_
 refine zab 17 rfl ?_
 refine zci 18 rfl fun Kr hKr=>?_
 go_simp
 (refine (zj5 h3 _).mono ?_;rintro e w3 ⟨rfl,e3⟩;replace e3:=e3.symm;subst e3)
 refine hKr.out _ _ ‹_› fun _=>?_
 try simp only [nrm]
 refine zab 19 rfl ?_
 refine zab 20 rfl ?_
 refine wpAnyH_done (by kernel_rfl) ?_ _
 go_wp2
 go_ret
 exact ⟨zeg HE.out.symm,zaa nb hb5⟩
theorem zu9 {w:World} (now nx:Int) {aT aO aP aL aK:Option Addr} (cT cO cP cL cK:Nat) {T O P:List Q4} {L:List F8} {K:List Kn} (hT:Quad w.heap.size w aT T) (hO:Quad w.heap.size w aO O) (hP:Quad w.heap.size w aP P) (hL:Fls w.heap.size w aL L) (hK:Kls w.heap.size w aK K) (mL:L.length≤1048576) (sL:∀f ∈ L,f.2.2.length≤1048576) (mK:K.length≤1048576) (sK:∀c ∈ K,c.xs.length≤maxLen) (h1:zbf T O P=true) (h2:zdv O=now) (h3:inQ 0 nx 1000001=true) :
 Calls Tryz.prog 16 #[zcp now aT T.length cT aO O.length cO aP P.length cP aL L.length cL aK K.length cK nx] w fun e w'=>e=.returned (.bool (zcy now nx T O P L K))∧Below w.heap.size w w':=by
 obtain ⟨v,hv,L0,nb⟩:=ze8 w 31 [.int .i64 now,.slice aT T.length cT,.slice aO O.length cO,.slice aP P.length cP,.slice aL L.length cL,.slice aK K.length cK,.int .i64 nx]
 have hlo:=(zbe h1).lo
 have hl0:=(zbe h1).tree.l0
 have hl30:=(zbe h1).tree.l1
 have h0O:0<O.length:=by omega
 have h0O':(0:Int)<(O.length:Int):=by omega
 clear hlo hl0
 obtain ⟨A,hA⟩:∃A,O[0].2.2.2=A:=⟨_,rfl⟩
 have HA:Hid (zdv O=A):=(zgh h0O).trans hA
 rw [HA.out] at h2
 obtain ⟨bo,oo,hao,hbo,-,-,-,qA⟩:=hO.at nb 0 h0O
 rw [hA,Nat.zero_mul,Nat.add_zero] at qA
 subst hao
 clear hA
 subst h2
 go_enter Tryz.func16,Tryz.ntmps16
 go_upto_region 1 with (fail)
 rw [←hv]
 clear hv
 have HS:Hid (∀x,Below v.heap.size v x→x.cell? ⟨w.heap.size,0,none⟩=some (.int .i64 A)∧x.cell? ⟨w.heap.size,1,none⟩=some (.slice aT T.length cT)∧x.cell? ⟨w.heap.size,2,none⟩=some (.slice (some ⟨bo,oo,none⟩) O.length cO)∧x.cell? ⟨w.heap.size,3,none⟩=some (.slice aP P.length cP)∧x.cell? ⟨w.heap.size,4,none⟩=some (.slice aL L.length cL)∧x.cell? ⟨w.heap.size,5,none⟩=some (.slice aK K.length cK)∧x.cell? ⟨w.heap.size,6,none⟩=some (.int .i64 nx)∧x.cell? ⟨bo,oo+3,none⟩=some (.int .i64 A)):=fun x hx=>⟨(L0.next hx).cell 0 _ rfl,(L0.next hx).cell 1 _ rfl,(L0.next hx).cell 2 _ rfl,(L0.next hx).cell 3 _ rfl,(L0.next hx).cell 4 _ rfl,(L0.next hx).cell 5 _ rfl,(L0.next hx).cell 6 _ rfl,(hx.cell (by exact Nat.lt_of_lt_of_le hbo nb.size)).trans qA⟩
 refine zce HS (Below.refl _ _).drew fun hS=>?_
 refine zab 0 rfl ?_
 refine zab 1 rfl ?_
 refine zci 2 rfl fun Kr hKr=>?_
 go_simp
 (refine (zkt cT cO cP h1 (hT.here nb.drew) (hO.here nb.drew) (hP.here nb.drew)).mono ?_;rintro e w5 ⟨rfl,hb5⟩;have hb5:=zbh hb5;have hS5:=HS.out _ hb5)
 refine hKr.out _ _ ‹_› fun _=>?_
 try simp only [nrm]
 refine zab 3 rfl ?_
 refine zab 4 rfl ?_
 refine zab 5 rfl ?_
 refine zab 6 rfl ?_
 refine zab 7 rfl ?_
 refine zab 8 rfl ?_
 refine zab 9 rfl ?_
 refine zab 10 rfl ?_
 refine zab 11 rfl ?_
 refine zab 12 rfl ?_
 refine zab 13 rfl ?_
 refine zab 14 rfl ?_
 refine zab 15 rfl ?_
 refine zab 16 rfl ?_
 refine zab 17 rfl ?_
 refine zci 18 rfl fun Kr hKr=>?_
 go_simp
 (refine (zj5 h3 _).mono ?_;rintro e w3 ⟨rfl,e3⟩;replace e3:=e3.symm;subst e3)
 refine hKr.out _ _ ‹_› fun _=>?_
 try simp only [nrm]
 refine zab 19 rfl ?_
 refine zab 20 rfl ?_
 refine wpAnyH_done (by kernel_rfl) ?_ _
 have L5:=L0.next hb5
 have b5:=zaa nb hb5
 clear hS5 HS L0 nb hb5 qA h0O h0O'
 have zv:=L5.lt
 obtain ⟨f0,f1,f2,f3,f4,f5,f6⟩:=Lay.c7 (b:=w.heap.size) L5
 cases h4:inQ 1 (L.length:Int) 10
 ·have HE:Hid (zcy A nx T O P L K=false):=zb1 (fun h=>by have q0:=h.l0;have q1:=h.l1;unfold inQ at h4;simp only [Bool.and_eq_false_iff,decide_eq_false_iff_not] at h4;omega)
  go_wp2_with (first|(go_at_call 62;refine (zj5 h4 _).mono ?_;rintro e w3 ⟨rfl,e3⟩;replace e3:=e3.symm;subst e3))
  go_ret
  exact ⟨zeg HE.out.symm,b5⟩
 have hL10:1≤L.length∧L.length≤10:=by
  unfold inQ at h4
  simp only [Bool.and_eq_true,decide_eq_true_eq] at h4
  omega
 by_cases h5:40<(K.length:Int)
 ·have HE:Hid (zcy A nx T O P L K=false):=zb1 (fun h=>by have q:=h.k1;omega)
  go_wp2_with (first|(go_at_call 62;refine (zj5 h4 _).mono ?_;rintro e w3 ⟨rfl,e3⟩;replace e3:=e3.symm;subst e3))
  go_ret
  exact ⟨zeg HE.out.symm,b5⟩
 have nK:K.length≤40:=by omega
 obtain ⟨ys,hy⟩:∃ys,zf5 K=ys:=⟨_,rfl⟩
 have HYY:Hid (zf5 K=ys):=hy
 have hy5:ys.length≤50:=by rw [←hy,zbo];omega
 have hids:Hid (Calls Tryz.prog 64 #[.slice aK K.length cK] w5 fun e w'=>∃ui ci,e=.returned (.slice ui ys.length ci)∧ISmp w'.heap.size w' ui ys∧Below w5.heap.size w5 w'):=by
  have q:=zp4 cK (hK.here b5) mK
  rw [hy] at q
  have e:(fun (e:Ending) (w':World)=>∃u c,e=.returned (.slice u K.length c)∧ISmp w'.heap.size w' u ys∧Below w5.heap.size w5 w')=(fun e w'=>∃u c,e=.returned (.slice u ys.length c)∧ISmp w'.heap.size w' u ys∧Below w5.heap.size w5 w'):=by rw [←hy,zbo]
  rw [e] at q
  exact q
 clear hy
 cases h6:zuy ys
 ·have HE:Hid (zcy A nx T O P L K=false):=zb1 (fun h=>by have q:=eg_mem h;rw [HYY.out] at q;exact z0b h6 q)
  go_wp2_with (first|(go_at_call 62;refine (zj5 h4 _).mono ?_;rintro e w3 ⟨rfl,e3⟩;replace e3:=e3.symm;subst e3)|(go_at_call 64;refine (hids.out).mono ?_;rintro e w6 ⟨ui,ci,rfl,smi,hb6⟩;have L6:=L5.next hb6;have b6:=zaa b5 hb6;clear f0 f1 f2 f3 f4 f5 f6;obtain ⟨f0,f1,f2,f3,f4,f5,f6⟩:=Lay.c7 (b:=w.heap.size) L6)|(go_at_call 63;refine (zg3 ci h6 hy5 smi).mono ?_;rintro e w3 ⟨rfl,e3⟩;replace e3:=e3.symm;subst e3))
  go_ret
  exact ⟨zeg HE.out.symm,b6⟩
 cases h7:K.all (zgk T L.length)
 ·have HE:Hid (zcy A nx T O P L K=false):=zb1 (fun h=>by have q:=eg_may h;rw [h7] at q;cases q)
  go_wp2_with (first|(go_at_call 62;refine (zj5 h4 _).mono ?_;rintro e w3 ⟨rfl,e3⟩;replace e3:=e3.symm;subst e3)|(go_at_call 64;refine (hids.out).mono ?_;rintro e w6 ⟨ui,ci,rfl,smi,hb6⟩;have L6:=L5.next hb6;have b6:=zaa b5 hb6;clear f0 f1 f2 f3 f4 f5 f6;obtain ⟨f0,f1,f2,f3,f4,f5,f6⟩:=Lay.c7 (b:=w.heap.size) L6)|(go_at_call 63;refine (zg3 ci h6 hy5 smi).mono ?_;rintro e w3 ⟨rfl,e3⟩;replace e3:=e3.symm;subst e3)|(go_at_call 65;refine (zw8 cK h7 L6 (hT.here b6) hl30 mL (hK.here b6) nK sK).mono ?_;rintro e w7 ⟨rfl,hb7⟩;have L7:=L6.next hb7;have b7:=zaa b6 hb7;clear f0 f1 f2 f3 f4 f5 f6;obtain ⟨f0,f1,f2,f3,f4,f5,f6⟩:=Lay.c7 (b:=w.heap.size) L7))
  go_ret
  exact ⟨zeg HE.out.symm,b7⟩
 have HFL:Hid (∀c ∈ K,0≤c.fl∧c.fl≤1000000000):=may_fl h7
 have hLi:(L.length:Int)≤10:=by omega
 go_wp2_with (first|(go_at_call 62;refine (zj5 h4 _).mono ?_;rintro e w3 ⟨rfl,e3⟩;replace e3:=e3.symm;subst e3)|(go_at_call 64;refine (hids.out).mono ?_;rintro e w6 ⟨ui,ci,rfl,smi,hb6⟩;have L6:=L5.next hb6;have b6:=zaa b5 hb6;clear f0 f1 f2 f3 f4 f5 f6;obtain ⟨f0,f1,f2,f3,f4,f5,f6⟩:=Lay.c7 (b:=w.heap.size) L6)|(go_at_call 63;refine (zg3 ci h6 hy5 smi).mono ?_;rintro e w3 ⟨rfl,e3⟩;replace e3:=e3.symm;subst e3)|(go_at_call 65;refine (zw8 cK h7 L6 (hT.here b6) hl30 mL (hK.here b6) nK sK).mono ?_;rintro e w7 ⟨rfl,hb7⟩;have L7:=L6.next hb7;have b7:=zaa b6 hb7;clear f0 f1 f2 f3 f4 f5 f6;obtain ⟨f0,f1,f2,f3,f4,f5,f6⟩:=Lay.c7 (b:=w.heap.size) L7))
 clear f0 f1 f2 f3 f4 f5 f6
 go_loopw [50] (fun s wr=>∃p:Nat,s=.int .i64 p∧p≤L.length∧Hid (∀q (h:q<L.length),q<p→plR L[q].1 L[q].2.1 L[q].2.2 K q)∧Below w7.heap.size w7 wr) (fun s _=>L.length-(intOf s).toNat)
 case atStart=>exact ⟨0,rfl,by omega,(fun q h k=>by omega),Below.refl _ _⟩
 case round =>
  obtain ⟨p,rfl,hp,HP,hbr⟩:=hrel
  have LR:=L7.next hbr
  have br:=zaa b7 hbr
  obtain ⟨f0,f1,f2,f3,f4,f5,f6⟩:=Lay.c7 (b:=w.heap.size) LR
  by_cases hlt:p<L.length
  ·have hlt':(p:Int)<(L.length:Int):=by omega
   obtain ⟨wd,fl,xs,hx⟩:∃wd fl xs,L[p]=(wd,fl,xs):=⟨_,_,_,rfl⟩
   have HX:Hid (L[p]=(wd,fl,xs)):=hx
   have hxl:xs.length≤1048576:=by have q:=sL L[p] (List.getElem_mem hlt);rw [hx] at q;exact q
   clear hx
   cases h8:zr1 wd fl xs K p
   ·have HE:Hid (zcy A nx T O P L K=false):=zb1 (fun h=>by have q:=h.pl p hlt;rw [HX.out] at q;exact plr_no h8 q)
    go_wp2_with (first|(go_at_call 68;refine (zne h8 hlt HX.out (hL.here br) (hK.here br) hL10.2 nK hxl HFL.out).mono ?_;rintro e w8 ⟨rfl,hb8⟩))
    go_ret
    exact ⟨zeg HE.out.symm,zaa br hb8⟩
   ·have HP2:Hid (∀q (h:q<L.length),q<p+1→plR L[q].1 L[q].2.1 L[q].2.2 K q):=fun q hq hqp=>by
     by_cases e:q=p
     ·subst e
      rw [HX.out]
      exact z1x h8
     ·exact HP.out q hq (by omega)
    go_wp2_with (first|(go_at_call 68;refine (zne h8 hlt HX.out (hL.here br) (hK.here br) hL10.2 nK hxl HFL.out).mono ?_;rintro e w8 ⟨rfl,hb8⟩))
    go_roundw
    case rel=>exact ⟨p+1,by go_num,by omega,HP2,zaa hbr hb8⟩
    case measure=>simp [intOf]<;>omega
  ·have e:p=L.length:=by omega
   subst e
   have HE:Hid (zcy A nx T O P L K=true):=zfl (eg_of h1 HA.out h3 hL10.1 hL10.2 nK (by rw [HYY.out];exact zw4 h6) h7 (fun q hq=>HP.out q hq hq))
   go_wp2
   go_ret
   exact ⟨zeg HE.out.symm,br⟩
theorem zkk {w:World} (now nx:Int) {aT aO aP aL aK:Option Addr} (cT cO cP cL cK:Nat) {T O P:List Q4} {L:List F8} {K:List Kn} (hT:Quad w.heap.size w aT T) (hO:Quad w.heap.size w aO O) (hP:Quad w.heap.size w aP P) (hL:Fls w.heap.size w aL L) (hK:Kls w.heap.size w aK K) (mL:L.length≤1048576) (sL:∀f ∈ L,f.2.2.length≤1048576) (mK:K.length≤1048576) (sK:∀c ∈ K,c.xs.length≤maxLen) :
 Calls Tryz.prog 16 #[zcp now aT T.length cT aO O.length cO aP P.length cP aL L.length cL aK K.length cK nx] w fun e w'=>e=.returned (.bool (zcy now nx T O P L K))∧Below w.heap.size w w':=by
 cases h1:zbf T O P
 ·exact zr5 now nx cT cO cP cL cK hT hO hP hL hK mL sL mK sK h1
 by_cases h2:zdv O=now
 rotate_left
 ·exact zr6 now nx cT cO cP cL cK hT hO hP hL hK mL sL mK sK h1 h2
 cases h3:inQ 0 nx 1000001
 ·exact zr7 now nx cT cO cP cL cK hT hO hP hL hK mL sL mK sK h1 h2 h3
 exact zu9 now nx cT cO cP cL cK hT hO hP hL hK mL sL mK sK h1 h2 h3
theorem zc1 {w:World} {now nx:Int} {aT aO aP aL aK:Option Addr} (cT cO cP cL cK:Nat) {T O P:List Q4} {L:List F8} {K:List Kn} {f:Bool} (hf:zcy now nx T O P L K=f) (hT:Quad w.heap.size w aT T) (hO:Quad w.heap.size w aO O) (hP:Quad w.heap.size w aP P) (hL:Fls w.heap.size w aL L) (hK:Kls w.heap.size w aK K) (mL:L.length≤1048576) (sL:∀f ∈ L,f.2.2.length≤1048576) (mK:K.length≤1048576) (sK:∀c ∈ K,c.xs.length≤maxLen) :
 Calls Tryz.prog 16 #[zcp now aT T.length cT aO O.length cO aP P.length cP aL L.length cL aK K.length cK nx] w fun e w'=>e=.returned (.bool (f))∧Below w.heap.size w w':=by subst hf;exact zkk now nx cT cO cP cL cK hT hO hP hL hK mL sL mK sK
section
variable {P:Program}
theorem zhp {fn:Func} {p u1 u2:Tmp} {ty:TypeId} (h:fn.results=#[.cell p ty,.tmp u1,.tmp u2]) (tmps:Array Value) (w:World) (g:Nat) (cs:List Value) {d:TypeDesc}
 (hp:tmps.getD p undef=.pointer (some ⟨g,0,none⟩)) (hc:∀j v,cs[j]?=some v→w.cell? ⟨g,j,none⟩=some v)
 (hu:P.underlying ty=some d) (hd:(match d with|.struct _|.array _ _=>true|_=>false)=true) (hi:(P.info? ty).map (·.size)=some cs.length) :
 (results fn tmps).run P w=.ok (.tuple #[.agg cs.toArray,tmps.getD u1 undef,tmps.getD u2 undef]) w:=by
 have hp':tmps[p]?.getD undef=.pointer (some ⟨g,0,none⟩):=by simpa using hp
 have hl:=zf6 (P:=P) w g 0 ty cs (fun j v hv=>by rw [Nat.zero_add];exact hc j v hv) hu hd hi
 simp [results,h,hp',asAddr,hl,Sem.run_bind,Result.andThen]
end
section
variable {P:Program} (w:World)
end
theorem zze (w:World):(sizeOf 47).run Tryz.prog w=.ok 14 w:=by
 obtain ⟨i0,hi,_,hz1,_⟩:=info_parts zhf
 simp [sizeOf,typeInfo,hi,hz1]
theorem zr8 {a:Option Addr} {n cap k:Nat} (hk:k≤n) (w:World):(Instr.sliceAt 29 (.slice a n cap) (some (.int .i64 (k:Int))) none none).run Tryz.prog w=.ok (.slice (if cap=k then a else a.map (·.add (k*14))) (n-k) (cap-k)) w:=by
 have h0:(0:Int)≤(k:Int):=by omega
 have hs:=zze
 simp [Instr.sliceAt,Instr.slice,Instr.sliceBounds,Instr.sliceBound,asIntOf,run_underlying Tryz.underlying29,h0,hk,hs]
theorem z1z {w:World} {lo g cap k:Nat} {G:List G14} {K:List Kn} (ck:CpK w lo (.slice (some ⟨g,0,none⟩) K.length cap) G K) (hk:k≤K.length) (hc:K.length≤cap):∃ad:Addr,(if cap=k then some (⟨g,0,none⟩:Addr) else (some (⟨g,0,none⟩:Addr)).map (·.add (k*14)))=some ad∧∀j u,(zbl (G.drop k))[j]?=some u→w.cell? (ad.add j)=some u:=by
 have hl:=ck.len
 by_cases e:cap=k
 ·refine ⟨_,by rw [if_pos e],fun j u hu=>?_⟩
  have:j<0:=by
   have:=(List.getElem?_eq_some_iff.1 hu).1
   rw [zaq,List.length_drop] at this
   have:G.length-k=0:=by omega
   simp_all
  omega
 ·refine ⟨_,by rw [if_neg e];rfl,fun j u hu=>?_⟩
  show w.cell? (((⟨g,0,none⟩:Addr).add (k*14)).add j)=some u
  rw [zff,zff,Nat.zero_add]
  have hj:=(List.getElem?_eq_some_iff.1 hu).1
  rw [zaq,List.length_drop] at hj
  rw [←zu4,List.getElem?_drop] at hu
  exact (ck.row.cellAt _ (by omega)).trans hu
theorem ztw {w:World} {lo:Nat} {v:Value} {G:List G14} {K:List Kn} (ck:CpK w lo v G K):∀u ∈ zbl G,u.oneCell'=true:=by
 intro u hu
 obtain ⟨x,hx,hu⟩:=List.mem_flatMap.1 hu
 obtain ⟨i,hi,rfl⟩:=List.mem_iff_getElem.1 hx
 obtain ⟨sa,sc,e⟩:=zay (ck.ints i hi)
 simp only [zgt,Kn.cs,List.mem_append,List.mem_cons,List.not_mem_nil,or_false] at hu
 rcases hu with (rfl|rfl|rfl|rfl|rfl|rfl|rfl|rfl|rfl|rfl|rfl|rfl|rfl)|rfl
 all_goals first|rfl|(rw [e];rfl)
theorem zxj {G H:List G14} (h:∀x ∈ H,x ∈ G) (h1:∀u ∈ zbl G,u.oneCell'=true):∀u ∈ zbl H,u.oneCell'=true:=fun u hu=>by
 obtain ⟨x,hx,hu⟩:=List.mem_flatMap.1 hu
 exact h1 u (List.mem_flatMap.2 ⟨x,h x hx,hu⟩)
theorem zir {x:Int} {f:Bool} (h:zau x=f) (w:World):Calls Tryz.prog 87 #[.int .i64 x] w fun e w'=>e=.returned (.bool f)∧w'=w:=by subst h;exact zex x w
theorem zr9 {w:World} (now nx:Int) {aT aO aP aL aK:Option Addr} (cT cO cP cL cK:Nat) {T O P:List Q4} {L:List F8} {K:List Kn} (ns:Int) (hT:Quad w.heap.size w aT T) (hO:Quad w.heap.size w aO O) (hP:Quad w.heap.size w aP P) (hL:Fls w.heap.size w aL L) (hK:Kls w.heap.size w aK K) (mL:L.length≤1048576) (sL:∀f ∈ L,f.2.2.length≤1048576) (mK:K.length≤1048576) (sK:∀c ∈ K,c.xs.length≤1048576) (h1:zcy now nx T O P L K=false):Calls Tryz.prog 30 #[zcp now aT T.length cT aO O.length cO aP P.length cP aL L.length cL aK K.length cK nx,.int .i64 ns] w (zbx w 0 0 [] [] [] [] [] (.int .i64 1)):=by
 have sKm:=zjj sK
 obtain ⟨v,hv,nb,L0,L1⟩:=ziw w 31 [.int .i64 now,.slice aT T.length cT,.slice aO O.length cO,.slice aP P.length cP,.slice aL L.length cL,.slice aK K.length cK,.int .i64 nx]
 have hw1:=L1.lt
 go_enter Tryz.func30,Tryz.ntmps30
 go_upto_region 1 with (fail)
 rw [←hv]
 clear hv
 obtain ⟨q0,q1,q2,q3,q4,q5,q6⟩:=Lay.c7 (b:=w.heap.size) L0
 go_wp2_with (first|(go_at_call 16;refine (zc1 cT cO cP cL cK h1 (hT.here nb) (hO.here nb) (hP.here nb) (hL.here nb) (hK.here nb) mL sL mK sKm).mono ?_;rintro e v2 ⟨rfl,hb2⟩;have b2:=zaa nb hb2;have M0:=L0.next hb2;have M1:=L1.next hb2;clear q0 q1 q2 q3 q4 q5 q6;obtain ⟨q0,q1,q2,q3,q4,q5,q6⟩:=Lay.c7 (b:=w.heap.size) M0;have m1f:=M1.free;obtain ⟨z0,z1,z2,z3,z4,z5,z6⟩:=Lay.c7 (b:=w.heap.size+1) M1))
 obtain ⟨u,hu',ou,U⟩:=st7 (b:=w.heap.size+1) M1 (.int .i64 0) (.slice none 0 0) (.slice none 0 0) (.slice none 0 0) (.slice none 0 0) (.slice none 0 0) (.int .i64 0)
 rw [hu']
 clear hu'
 have hl1:=M1.lt
 have zb:=b2.size
 have zu:=ou.size
 refine bodyPost_ret (zak rfl _ _ _ _ rfl U.cell Tryz.underlying31 rfl (by kernel_rfl)) rfl ?_
 exact ⟨_,_,_,_,_,_,_,_,_,_,rfl,zkp (by omega) (Nat.le_refl _),b2.trans (ou.below (by omega) b2.size)⟩
theorem zsa {w:World} (now nx:Int) {aT aO aP aL aK:Option Addr} (cT cO cP cL cK:Nat) {T O P:List Q4} {L:List F8} {K:List Kn} (ns:Int) (hT:Quad w.heap.size w aT T) (hO:Quad w.heap.size w aO O) (hP:Quad w.heap.size w aP P) (hL:Fls w.heap.size w aL L) (hK:Kls w.heap.size w aK K) (mL:L.length≤1048576) (sL:∀f ∈ L,f.2.2.length≤1048576) (mK:K.length≤1048576) (sK:∀c ∈ K,c.xs.length≤1048576) (h1:zcy now nx T O P L K=true) (h2:zau ns=false):Calls Tryz.prog 30 #[zcp now aT T.length cT aO O.length cO aP P.length cP aL L.length cL aK K.length cK nx,.int .i64 ns] w (zbx w now nx T O P L K (.int .i64 7)):=by
 have sKm:=zjj sK
 obtain ⟨nT,nO,nP⟩:=zcb (zbc h1)
 have l0:=(zbc h1).l0
 obtain ⟨v,hv,nb,L0,L1⟩:=ziw w 31 [.int .i64 now,.slice aT T.length cT,.slice aO O.length cO,.slice aP P.length cP,.slice aL L.length cL,.slice aK K.length cK,.int .i64 nx]
 have hw1:=L1.lt
 go_enter Tryz.func30,Tryz.ntmps30
 go_upto_region 1 with (fail)
 rw [←hv]
 clear hv
 obtain ⟨q0,q1,q2,q3,q4,q5,q6⟩:=Lay.c7 (b:=w.heap.size) L0
 go_upto_region 4 with (first|(go_at_call 16;refine (zc1 cT cO cP cL cK h1 (hT.here nb) (hO.here nb) (hP.here nb) (hL.here nb) (hK.here nb) mL sL mK sKm).mono ?_;rintro e v2 ⟨rfl,hb2⟩;have b2:=zaa nb hb2;have M0:=L0.next hb2;have M1:=L1.next hb2;clear q0 q1 q2 q3 q4 q5 q6;obtain ⟨q0,q1,q2,q3,q4,q5,q6⟩:=Lay.c7 (b:=w.heap.size) M0;have m1f:=M1.free;obtain ⟨z0,z1,z2,z3,z4,z5,z6⟩:=Lay.c7 (b:=w.heap.size+1) M1)|(go_at_call 41;refine (zh4 now nx cT cO cP cL cK (hT.here b2) (hO.here b2) (hP.here b2) (hL.here b2) (hK.here b2) nT nO nP mL sL mK sK l0).mono ?_;rintro e u1 ⟨bT,dT,bO,dO,bP,dP,bL,dL,bK,dK,GK,lh,ph,rfl,lv,lb,tv,ck,hz,hb1⟩))
 clear z0 z1 z2 z3 z4 z5 z6 m1f
 obtain ⟨x,hx,LX,bx⟩:=ze8 u1 31 [.int .i64 now,.slice bT T.length dT,.slice bO O.length dO,.slice bP P.length dP,.slice bL L.length dL,.slice bK K.length dK,.int .i64 nx]
 rw [←hx]
 clear hx
 have X1:=(M1.next hb1).next bx
 have z1:=hb1.size
 have zx:=bx.size
 have zb:=b2.size
 have z2:=hb2.size
 have hlx:=LX.lt
 obtain ⟨j0,j1,j2,j3,j4,j5,j6⟩:=Lay.c7 (b:=u1.heap.size) LX
 obtain ⟨d0,d1,d2,d3,d4,d5,d6⟩:=Lay.c7 (b:=w.heap.size+1) X1
 have df:=X1.free
 go_wp2_with (first|(go_at_call 87;refine (zir h2 _).mono ?_;rintro e w3 ⟨rfl,e3⟩;replace e3:=e3.symm;subst e3))
 obtain ⟨u,hu',ou,U⟩:=st7 (b:=w.heap.size+1) X1 (.int .i64 now) (.slice bT T.length dT) (.slice bO O.length dO) (.slice bP P.length dP) (.slice bL L.length dL) (.slice bK K.length dK) (.int .i64 nx)
 rw [hu']
 clear hu'
 have hz1:=hz.1
 have hz2:=hz.2.1
 have hz3:=hz.2.2
 have zu:=ou.size
 refine bodyPost_ret (zak rfl _ _ _ _ rfl U.cell Tryz.underlying31 rfl (by kernel_rfl)) rfl ?_
 have bw:Below w.heap.size w x:=zaa (zaa b2 hb1) bx
 exact ⟨bT,dT,bO,dO,bP,dP,bL,dL,bK,dK,rfl,zqc (lv.next bx) lb (tv.next bx) (ck.next bx) ⟨by omega,hz2,by omega⟩ ou (by omega) (by omega),bw.trans (ou.below (by omega) bw.size)⟩
theorem zsb {w:World} (now nx:Int) {aT aO aP aL aK:Option Addr} (cT cO cP cL cK:Nat) {T O P:List Q4} {L:List F8} {K:List Kn} (ns:Int) (hT:Quad w.heap.size w aT T) (hO:Quad w.heap.size w aO O) (hP:Quad w.heap.size w aP P) (hL:Fls w.heap.size w aL L) (hK:Kls w.heap.size w aK K) (mL:L.length≤1048576) (sL:∀f ∈ L,f.2.2.length≤1048576) (mK:K.length≤1048576) (sK:∀c ∈ K,c.xs.length≤1048576) (h1:zcy now nx T O P L K=true) (h2:zau ns=true) (h3:1000000000000000<now+ns):Calls Tryz.prog 30 #[zcp now aT T.length cT aO O.length cO aP P.length cP aL L.length cL aK K.length cK nx,.int .i64 ns] w (zbx w now nx T O P L K (.int .i64 7)):=by
 have sKm:=zjj sK
 obtain ⟨nT,nO,nP⟩:=zcb (zbc h1)
 have l0:=(zbc h1).l0
 have hnow:=zlw (zbc h1)
 have hns:0≤ns∧ns≤1000000000000000:=by unfold zau at h2;simp only [Bool.and_eq_true,decide_eq_true_eq] at h2;exact h2
 have hwn:IntKind.i64.wrap (now+ns)=now+ns:=by rw [IntKind.wrap_i64];omega
 have h4:zau (now+ns)=false:=by unfold zau;rw [Bool.and_eq_false_iff];right;exact decide_eq_false (by omega)
 clear hnow hns h3
 obtain ⟨v,hv,nb,L0,L1⟩:=ziw w 31 [.int .i64 now,.slice aT T.length cT,.slice aO O.length cO,.slice aP P.length cP,.slice aL L.length cL,.slice aK K.length cK,.int .i64 nx]
 have hw1:=L1.lt
 go_enter Tryz.func30,Tryz.ntmps30
 go_upto_region 1 with (fail)
 rw [←hv]
 clear hv
 obtain ⟨q0,q1,q2,q3,q4,q5,q6⟩:=Lay.c7 (b:=w.heap.size) L0
 go_upto_region 4 with (first|(go_at_call 16;refine (zc1 cT cO cP cL cK h1 (hT.here nb) (hO.here nb) (hP.here nb) (hL.here nb) (hK.here nb) mL sL mK sKm).mono ?_;rintro e v2 ⟨rfl,hb2⟩;have b2:=zaa nb hb2;have M0:=L0.next hb2;have M1:=L1.next hb2;clear q0 q1 q2 q3 q4 q5 q6;obtain ⟨q0,q1,q2,q3,q4,q5,q6⟩:=Lay.c7 (b:=w.heap.size) M0;have m1f:=M1.free;obtain ⟨z0,z1,z2,z3,z4,z5,z6⟩:=Lay.c7 (b:=w.heap.size+1) M1)|(go_at_call 41;refine (zh4 now nx cT cO cP cL cK (hT.here b2) (hO.here b2) (hP.here b2) (hL.here b2) (hK.here b2) nT nO nP mL sL mK sK l0).mono ?_;rintro e u1 ⟨bT,dT,bO,dO,bP,dP,bL,dL,bK,dK,GK,lh,ph,rfl,lv,lb,tv,ck,hz,hb1⟩))
 clear z0 z1 z2 z3 z4 z5 z6 m1f
 obtain ⟨x,hx,LX,bx⟩:=ze8 u1 31 [.int .i64 now,.slice bT T.length dT,.slice bO O.length dO,.slice bP P.length dP,.slice bL L.length dL,.slice bK K.length dK,.int .i64 nx]
 rw [←hx]
 clear hx
 have X1:=(M1.next hb1).next bx
 have z1:=hb1.size
 have zx:=bx.size
 have zb:=b2.size
 have z2:=hb2.size
 have hlx:=LX.lt
 obtain ⟨j0,j1,j2,j3,j4,j5,j6⟩:=Lay.c7 (b:=u1.heap.size) LX
 obtain ⟨d0,d1,d2,d3,d4,d5,d6⟩:=Lay.c7 (b:=w.heap.size+1) X1
 have df:=X1.free
 go_wp2_with (first|(go_at_call 87;refine (zir h4 _).mono ?_;rintro e w3 ⟨rfl,e3⟩;replace e3:=e3.symm;subst e3)|(go_at_call 87;refine (zir h2 _).mono ?_;rintro e w3 ⟨rfl,e3⟩;replace e3:=e3.symm;subst e3))
 obtain ⟨u,hu',ou,U⟩:=st7 (b:=w.heap.size+1) X1 (.int .i64 now) (.slice bT T.length dT) (.slice bO O.length dO) (.slice bP P.length dP) (.slice bL L.length dL) (.slice bK K.length dK) (.int .i64 nx)
 rw [hu']
 clear hu'
 have hz1:=hz.1
 have hz2:=hz.2.1
 have hz3:=hz.2.2
 have zu:=ou.size
 refine bodyPost_ret (zak rfl _ _ _ _ rfl U.cell Tryz.underlying31 rfl (by kernel_rfl)) rfl ?_
 have bw:Below w.heap.size w x:=zaa (zaa b2 hb1) bx
 exact ⟨bT,dT,bO,dO,bP,dP,bL,dL,bK,dK,rfl,zqc (lv.next bx) lb (tv.next bx) (ck.next bx) ⟨by omega,hz2,by omega⟩ ou (by omega) (by omega),bw.trans (ou.below (by omega) bw.size)⟩
theorem zjh {w:World} (now nx:Int) {aT aO aP aL aK:Option Addr} (cT cO cP cL cK:Nat) {T O P:List Q4} {L:List F8} {K:List Kn} (ns:Int) (hT:Quad w.heap.size w aT T) (hO:Quad w.heap.size w aO O) (hP:Quad w.heap.size w aP P) (hL:Fls w.heap.size w aL L) (hK:Kls w.heap.size w aK K) (mL:L.length≤1048576) (sL:∀f ∈ L,f.2.2.length≤1048576) (mK:K.length≤1048576) (sK:∀c ∈ K,c.xs.length≤1048576) (h1:zcy now nx T O P L K=true) (h2:zau ns=true) (h3:¬1000000000000000<now+ns):Calls Tryz.prog 30 #[zcp now aT T.length cT aO O.length cO aP P.length cP aL L.length cL aK K.length cK nx,.int .i64 ns] w (zbx w (now+ns) nx T (zao (now+ns) O) (zao (now+ns) P) L K (.int .i64 0)):=by
 have sKm:=zjj sK
 obtain ⟨nT,nO,nP⟩:=zcb (zbc h1)
 have l0:=(zbc h1).l0
 have hnow:=zlw (zbc h1)
 have hns:0≤ns∧ns≤1000000000000000:=by unfold zau at h2;simp only [Bool.and_eq_true,decide_eq_true_eq] at h2;exact h2
 have hwn:IntKind.i64.wrap (now+ns)=now+ns:=by rw [IntKind.wrap_i64];omega
 have hil:=zbe (zbc h1).lend
 have hat:=(zbc h1).at'
 have htn:zau (now+ns)=true:=by unfold zau;simp only [Bool.and_eq_true,decide_eq_true_eq];omega
 obtain ⟨n',hn'⟩:∃n',now+ns=n':=⟨_,rfl⟩
 rw [hn'] at htn h3 hwn ⊢
 have hwn:IntKind.i64.wrap (now+ns)=n':=by rw [hn'];exact hwn
 have hmv:zj4 T O P T n'=true:=by
  unfold zj4
  rw [(zbc h1).lend,decide_eq_true hil.code,decide_eq_true (rfl:T.length=T.length),hat,decide_eq_true (show now≤n' by omega),decide_eq_true (show n'≤1000000000000000 by omega)]
  rfl
 have HRT:Hid (zb4 T O P T n'=T):=by show zb4 T O P T n'=T;unfold zb4;rw [if_pos hmv]
 have HRO:Hid (zz7 T O P T n'=zao n' O):=by show zz7 T O P T n'=zao n' O;unfold zz7;rw [if_pos hmv];exact zun hil htn
 have HRP:Hid (zz8 T O P T n'=zao n' P):=by show zz8 T O P T n'=zao n' P;unfold zz8;rw [if_pos hmv];exact zuo hil htn
 clear hil hat hmv hnow hns hn' h3
 obtain ⟨v,hv,nb,L0,L1⟩:=ziw w 31 [.int .i64 now,.slice aT T.length cT,.slice aO O.length cO,.slice aP P.length cP,.slice aL L.length cL,.slice aK K.length cK,.int .i64 nx]
 have hw1:=L1.lt
 go_enter Tryz.func30,Tryz.ntmps30
 go_upto_region 1 with (fail)
 rw [←hv]
 clear hv
 obtain ⟨q0,q1,q2,q3,q4,q5,q6⟩:=Lay.c7 (b:=w.heap.size) L0
 go_upto_region 4 with (first|(go_at_call 16;refine (zc1 cT cO cP cL cK h1 (hT.here nb) (hO.here nb) (hP.here nb) (hL.here nb) (hK.here nb) mL sL mK sKm).mono ?_;rintro e v2 ⟨rfl,hb2⟩;have b2:=zaa nb hb2;have M0:=L0.next hb2;have M1:=L1.next hb2;clear q0 q1 q2 q3 q4 q5 q6;obtain ⟨q0,q1,q2,q3,q4,q5,q6⟩:=Lay.c7 (b:=w.heap.size) M0;have m1f:=M1.free;obtain ⟨z0,z1,z2,z3,z4,z5,z6⟩:=Lay.c7 (b:=w.heap.size+1) M1)|(go_at_call 41;refine (zh4 now nx cT cO cP cL cK (hT.here b2) (hO.here b2) (hP.here b2) (hL.here b2) (hK.here b2) nT nO nP mL sL mK sK l0).mono ?_;rintro e u1 ⟨bT,dT,bO,dO,bP,dP,bL,dL,bK,dK,GK,lh,ph,rfl,lv,lb,tv,ck,hz,hb1⟩))
 clear z0 z1 z2 z3 z4 z5 z6 m1f
 obtain ⟨x,hx,LX,bx⟩:=ze8 u1 31 [.int .i64 now,.slice bT T.length dT,.slice bO O.length dO,.slice bP P.length dP,.slice bL L.length dL,.slice bK K.length dK,.int .i64 nx]
 rw [←hx]
 clear hx
 have X1:=(M1.next hb1).next bx
 have z1:=hb1.size
 have zx:=bx.size
 have zb:=b2.size
 have z2:=hb2.size
 have hlx:=LX.lt
 obtain ⟨j0,j1,j2,j3,j4,j5,j6⟩:=Lay.c7 (b:=u1.heap.size) LX
 have jf:=LX.free
 go_upto_region 7 with (first|(go_at_call 87;refine (zir htn _).mono ?_;rintro e w3 ⟨rfl,e3⟩;replace e3:=e3.symm;subst e3)|(go_at_call 87;refine (zir h2 _).mono ?_;rintro e w3 ⟨rfl,e3⟩;replace e3:=e3.symm;subst e3))
 obtain ⟨x2,hx2⟩:∃y,y=x.setCell ⟨u1.heap.size,0,none⟩ (.int .i64 n'):=⟨_,rfl⟩
 rw [←hx2]
 have o2:Only u1.heap.size x x2:=by rw [hx2];exact (Only.refl _ x).setCell (p:=⟨u1.heap.size,0,none⟩) rfl _
 have L2:Lay x2 u1.heap.size [.int .i64 n',.slice bT T.length dT,.slice bO O.length dO,.slice bP P.length dP,.slice bL L.length dL,.slice bK K.length dK,.int .i64 nx]:=by rw [hx2];exact LX.put (p:=[]) (q:=[.int .i64 now]) (r:=[.slice bT T.length dT,.slice bO O.length dO,.slice bP P.length dP,.slice bL L.length dL,.slice bK K.length dK,.int .i64 nx]) [.int .i64 n'] rfl
 clear hx2 j0 j1 j2 j3 j4 j5 j6 jf
 have b12:Below u1.heap.size u1 x2:=bx.trans (o2.below (Nat.le_refl _) zx)
 have X12:=X1.only o2 (by omega)
 have QT:=(lv.t.quad).2.here b12
 have QO:=(lv.o.quad).2.here b12
 have QP:=(lv.p.quad).2.here b12
 have zo2:=o2.size
 obtain ⟨k0,k1,k2,k3,k4,k5,k6⟩:=Lay.c7 (b:=u1.heap.size) L2
 have jf:=L2.free
 go_upto_region 8 with (first|(go_at_call 88;refine (zrb dT dO dP dT n' QT QO QP QT).mono ?_;rintro e y ⟨a1,n1,c1,a2,n2,c2,a3,n3,c3,rfl,lr,hby⟩;rw [HRT.out,HRO.out,HRP.out] at lr;have L3:=L2.next hby;obtain ⟨m0,m1,m2,m3,m4,m5,m6⟩:=Lay.c7 (b:=u1.heap.size) L3;have mf:=L3.free))
 obtain ⟨z,hzz⟩:∃nw,nw=y.setCells u1.heap.size 1 [.slice a1 n1 c1,.slice a2 n2 c2,.slice a3 n3 c3]:=⟨_,rfl⟩
 have hz':(((y.setCell ⟨u1.heap.size,1,none⟩ (.slice a1 n1 c1)).setCell ⟨u1.heap.size,2,none⟩ (.slice a2 n2 c2)).setCell ⟨u1.heap.size,3,none⟩ (.slice a3 n3 c3))=z:=hzz.symm
 rw [hz']
 clear hz'
 have oz:Only u1.heap.size y z:=by rw [hzz];exact zba _ _ _
 have LZ:Lay z u1.heap.size [.int .i64 n',.slice a1 n1 c1,.slice a2 n2 c2,.slice a3 n3 c3,.slice bL L.length dL,.slice bK K.length dK,.int .i64 nx]:=by rw [hzz];exact L3.put (p:=[.int .i64 n']) (q:=[.slice bT T.length dT,.slice bO O.length dO,.slice bP P.length dP]) (r:=[.slice bL L.length dL,.slice bK K.length dK,.int .i64 nx]) [.slice a1 n1 c1,.slice a2 n2 c2,.slice a3 n3 c3] rfl
 clear hzz m0 m1 m2 m3 m4 m5 m6 mf k0 k1 k2 k3 k4 k5 k6 jf
 have zy:=hby.size
 have zoz:=oz.size
 have Bz:Below u1.heap.size u1 z:=(zaa b12 hby).trans (oz.below (Nat.le_refl _) (by omega))
 have ZR:=(X12.next hby).only oz (by omega)
 obtain ⟨s0,s1,s2,s3,s4,s5,s6⟩:=Lay.c7 (b:=u1.heap.size) LZ
 obtain ⟨r0,r1,r2,r3,r4,r5,r6⟩:=Lay.c7 (b:=w.heap.size+1) ZR
 have fz:=ZR.free
 go_wp2
 obtain ⟨u,hu',ou,U⟩:=st7 (b:=w.heap.size+1) ZR (.int .i64 n') (.slice a1 n1 c1) (.slice a2 n2 c2) (.slice a3 n3 c3) (.slice bL L.length dL) (.slice bK K.length dK) (.int .i64 nx)
 rw [hu']
 clear hu'
 have zu:=ou.size
 have hz1:=hz.1
 have hz2:=hz.2.1
 have hz3:=hz.2.2
 have e1:=(lr.t.quad).1
 have e2:=(lr.o.quad).1
 have e3:=(lr.p.quad).1
 have LB:Hid (∀b,inL (.slice a1 n1 c1) (.slice a2 n2 c2) (.slice a3 n3 c3) b→x2.heap.size≤b∧b<y.heap.size):=fun b hb=>lr.lo hb
 have lz:=lr.onlyP (OnlyP.ofOnly (p:=fun k=>k=u1.heap.size) oz rfl) (fun b e e'=>by have:=(LB.out b (.inl e)).1;omega) (fun b e e'=>by have:=(LB.out b (.inr (.inl e))).1;omega) (fun b e e'=>by have:=(LB.out b (.inr (.inr e))).1;omega)
 have lu:=lz.onlyP (OnlyP.ofOnly (p:=fun k=>k=w.heap.size+1) ou rfl) (fun b e e'=>by have:=(LB.out b (.inl e)).1;omega) (fun b e e'=>by have:=(LB.out b (.inr (.inl e))).1;omega) (fun b e e'=>by have:=(LB.out b (.inr (.inr e))).1;omega)
 have tu:TV u lh ph (.slice bL L.length dL) L:=(tv.same Bz.size (fun b a1 a2 a3=>Bz.block b a3)).same ou.size (fun b a1 a2 a3=>ou.block b a3 (by omega))
 have ku:KV u ph u1.heap.size (.slice bK K.length dK) K:=((ck.kv rfl).next Bz).same ou.size (fun b a1 a2 a3=>ou.block b a3 (by omega))
 have bwz:Below w.heap.size w z:=(zaa b2 hb1).trans (Bz.mono (by omega))
 have zu:=ou.size
 refine bodyPost_ret (zak rfl _ _ _ _ rfl U.cell Tryz.underlying31 rfl (by kernel_rfl)) rfl ?_
 refine ⟨a1,c1,a2,c2,a3,c3,bL,dL,bK,dK,by rw [←e1,←e2,←e3];rfl,?_,bwz.trans (ou.below (by omega) bwz.size)⟩
 rw [←e1,←e2,←e3]
 exact Eng.ofI (hrm:=fun _ _ _ kx=>((ck.next Bz).only1 ou (by omega)).rm rfl kx) ⟨x2.heap.size,y.heap.size,lh,ph,ph,u1.heap.size,⟨by omega,by omega,by omega⟩,⟨by omega,by omega,by omega⟩,lu,(fun b hb=>(LB.out b hb).2),tu,ku,.inr (by omega),.inr (by omega),.inl (Nat.le_refl _),by omega,by omega,by omega⟩
end Go.Proofs.YthiojkjcmhojoaaGreat
