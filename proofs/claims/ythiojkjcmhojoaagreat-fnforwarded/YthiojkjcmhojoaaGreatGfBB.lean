import Derived.Test.YthiojkjcmhojoaaGreatGfAX
import Derived.Test.YthiojkjcmhojoaaGreatGfBA
namespace Go.Proofs.YthiojkjcmhojoaaGreat
set_option maxHeartbeats 8000000
open Go.ChangeShapes Go.WideShapes Go.ChangeAt Go.RowKit
set_option maxRecDepth 100000
set_option linter.unusedVariables false
set_option linter.unusedSimpArgs false
theorem zzc {k:Int} (h:zlq k=true):zkz k=true:=by
 unfold zlq at h
 unfold zkz
 simp only [Bool.or_eq_true,decide_eq_true_eq] at h
 simp only [Bool.and_eq_true,decide_eq_true_eq]
 omega
section
variable {w:World} {lo hi g cap:Nat} {sT sO sP vK:Value} {uL uK:List Value} {T O P:List Q4} {L:List F8} {K:List Kn}
theorem EOwn.capP {p:Nat} (h:EOwn w lo hi sT sO sP (.slice (some ⟨g,0,none⟩) L.length cap) uL vK uK T O P L K) (hp:p<L.length) {a:Option Addr} {n c:Nat} (hu:uL[p]?=some (.slice a n c)):L[p].2.2.length≤c:=by
 obtain ⟨_,fo,hl⟩:=h.fo (by omega)
 have hi2:p<uL.length:=by omega
 obtain ⟨a',c',e,hc,s⟩:=(fo.own p hp hi2).smp
 rw [List.getElem?_eq_getElem hi2,e] at hu
 injection hu with hu
 injection hu with _ _ e3
 omega
end
theorem z0g {w:World} {a b:Option Addr} (ca cb:Nat) {xs ys:List Int} {f:Bool} (hf:decide (xs=ys)=f) (h:ISmp w.heap.size w a xs) (h':ISmp w.heap.size w b ys) (hl:xs.length≤1048576) (hl':ys.length≤1048576) :
 Calls Tryz.prog 131 #[.slice a xs.length ca,.slice b ys.length cb] w fun e w'=>e=.returned (.bool f)∧Below w.heap.size w w':=by subst hf;exact zut ca cb h h' hl hl'
def plR (wd fl:Int) (xs:List Int) (K:List Kn) (p:Int):Prop:=plB wd fl xs=true∧fl=flK (atP K p)∧xs=zf5 (atP K p)
open Classical in
noncomputable def zr1 (wd fl:Int) (xs:List Int) (K:List Kn) (p:Int):Bool:=decide (plR wd fl xs K p)
open Classical in
theorem zlz {wd fl:Int} {xs:List Int} {K:List Kn} {p:Int} (h:¬plR wd fl xs K p):zr1 wd fl xs K p=false:=by unfold zr1;exact decide_eq_false h
open Classical in
theorem zzd {wd fl:Int} {xs:List Int} {K:List Kn} {p:Int} (h:plR wd fl xs K p):zr1 wd fl xs K p=true:=by unfold zr1;exact decide_eq_true h
open Classical in
theorem z1x {wd fl:Int} {xs:List Int} {K:List Kn} {p:Int} (h:zr1 wd fl xs K p=true):plR wd fl xs K p:=by unfold zr1 at h;exact of_decide_eq_true h
open Classical in
theorem plr_no {wd fl:Int} {xs:List Int} {K:List Kn} {p:Int} (h:zr1 wd fl xs K p=false):¬plR wd fl xs K p:=by unfold zr1 at h;exact of_decide_eq_false h
theorem zr3 {w:World} (now nx:Int) {aT aO aP aL aK:Option Addr} {nT cT nO cO nP cP cL cK:Nat} {L:List F8} {K:List Kn} {p:Nat} {wd fl:Int} {xs:List Int} (hp:p<L.length) (hx:L[p]=(wd,fl,xs)) (hL:Fls w.heap.size w aL L) (hK:Kls w.heap.size w aK K) (nL:L.length≤10) (nK:K.length≤40) (xl:xs.length≤1048576) (hfl:∀c ∈ K,0≤c.fl∧c.fl≤1000000000) :
 Calls Tryz.prog 68 #[zcp now aT nT cT aO nO cO aP nP cP aL L.length cL aK K.length cK nx,.int .i64 p] w fun e w'=>e=.returned (.bool (zr1 wd fl xs K p))∧Below w.heap.size w w':=by
 have hpi:(p:Int)<(L.length:Int):=by omega
 have hLi:(L.length:Int)≤10:=by omega
 obtain ⟨b,off,sa,sc,hal,hbl,d0,d1,d2,sm⟩:=hL p hp
 subst hal
 rw [hx] at d0 d1 d2 sm
 simp only at d0 d1 d2 sm
 clear hx
 obtain ⟨v,hv,L0,nb⟩:=ze8 w 31 [.int .i64 now,.slice aT nT cT,.slice aO nO cO,.slice aP nP cP,.slice (some ⟨b,off,none⟩) L.length cL,.slice aK K.length cK,.int .i64 nx]
 go_enter Tryz.func68,Tryz.ntmps68
 go_upto_region 1 with (fail)
 rw [←hv]
 clear hv
 have HS:Hid (∀x,Below v.heap.size v x→x.cell? ⟨w.heap.size,4,none⟩=some (.slice (some ⟨b,off,none⟩) L.length cL)∧x.cell? ⟨w.heap.size,5,none⟩=some (.slice aK K.length cK)∧x.cell? ⟨b,off+p*3,none⟩=some (.int .i64 wd)∧x.cell? ⟨b,off+p*3+1,none⟩=some (.int .i64 fl)∧x.cell? ⟨b,off+p*3+2,none⟩=some (.slice sa xs.length sc)):=fun x hx=>⟨(L0.next hx).cell 4 _ rfl,(L0.next hx).cell 5 _ rfl,(hx.cell (by exact Nat.lt_of_lt_of_le hbl nb.size)).trans ((nb.cell (by exact hbl)).trans d0),(hx.cell (by exact Nat.lt_of_lt_of_le hbl nb.size)).trans ((nb.cell (by exact hbl)).trans d1),(hx.cell (by exact Nat.lt_of_lt_of_le hbl nb.size)).trans ((nb.cell (by exact hbl)).trans d2)⟩
 go_cut [5,6] from 7 to 15 (fun s5 s6 x=>∃g u cu,s5=.pointer (some ⟨g,0,none⟩)∧s6=.slice u (atP K p).length cu∧Lay x g [.int .i64 wd,.int .i64 fl,.slice sa xs.length sc]∧Kls x.heap.size x u (atP K p)∧Below v.heap.size v x)
 case first =>
  refine zce HS (Below.refl _ _).drew fun hS=>?_
  refine zab 0 rfl ?_
  refine zab 1 rfl ?_
  refine zab 2 rfl ?_
  refine zab 3 rfl ?_
  refine zab 4 rfl ?_
  refine zab 5 rfl ?_
  refine zab 6 rfl ?_
  refine zab 7 rfl ?_
  refine wpAnyH_ready (rs:=[8,9]) (by kernel_rfl) (by simp) (AllReadyH.cons rfl (fun Kr hKr=>?_) (AllReadyH.cons rfl (fun Kr hKr=>?_) AllReadyH.nil))
  ·go_simp
   (refine (zlo cK (p:Int) (hK.mono nb.drew) nb.size nK).mono ?_;rintro e u1 ⟨u,cu,rfl,hk1,hb1⟩;have hb1:=zbh hb1;have hS1:=HS.out _ hb1)
   refine hKr.out _ _ ‹_› fun _=>?_
   try simp only [nrm]
   refine zci 9 rfl fun Kr hKr=>?_
   go_simp
   refine hKr.out _ _ (HS.out _ (zaa hb1 (zac _ _))) (fun hS=>?_)
   try simp only [nrm]
   refine zci 10 rfl fun Kr hKr=>?_
   go_simp
   refine hKr.out _ _ (HS.out _ (zaa hb1 (zac _ _))) (fun hS=>?_)
   try simp only [nrm]
   refine zab 11 rfl ?_
   refine wpAnyH_done (by kernel_rfl) ?_ _
   repeat go_step
   go_meet
   exact ⟨u1.heap.size,u,cu,rfl,rfl,zbs [.int .i64 wd,.int .i64 fl,.slice sa xs.length sc] _ rfl,(hk1.kls (Nat.le_trans nb.size hb1.size)).here (zac _ _),zaa hb1 (zac _ _)⟩
  ·go_simp
   refine hKr.out _ _ (HS.out _ (((Below.refl _ v).drew).alloc (Nat.le_refl _) _)) (fun hS=>?_)
   try simp only [nrm]
   refine zci 8 rfl fun Kr hKr=>?_
   go_simp
   (refine (zlo cK (p:Int) (hK.mono (nb.drew.alloc nb.size _)) (by have:=nb.size;simp;omega) nK).mono ?_;rintro e u1 ⟨u,cu,rfl,hk1,hb1⟩;have Y1:=(zbs (u:=v.drew) [.int .i64 0,.int .i64 0,.slice none 0 0] 50 rfl).next hb1;obtain ⟨q0,q1,q2⟩:=Lay.c3 (b:=v.heap.size) Y1;have qf:∀o:Nat,u1.frozen? ⟨v.heap.size,o,none⟩=false:=Y1.free;have Y1:Lay u1 v.heap.size [.int .i64 0,.int .i64 0,.slice none 0 0]:=Y1;have hbv:Below v.heap.size v u1:=zaa (((Below.refl _ v).drew).alloc (Nat.le_refl _) _) hb1;have hS1:=HS.out _ hbv)
   refine hKr.out _ _ ‹_› fun _=>?_
   try simp only [nrm]
   refine zci 10 rfl fun Kr hKr=>?_
   go_simp
   obtain ⟨yF,hyF⟩:∃y,y=u1.setCells v.heap.size 0 [.int .i64 wd,.int .i64 fl,.slice sa xs.length sc]:=⟨_,rfl⟩
   have hyF':(((u1.setCell ⟨v.heap.size,0,none⟩ (.int .i64 wd)).setCell ⟨v.heap.size,1,none⟩ (.int .i64 fl)).setCell ⟨v.heap.size,2,none⟩ (.slice sa xs.length sc))=yF:=hyF.symm
   rw [hyF']
   have oF:Only v.heap.size u1 yF:=by rw [hyF];exact zba _ _ _
   have YF:Lay yF v.heap.size [.int .i64 wd,.int .i64 fl,.slice sa xs.length sc]:=by rw [hyF];exact Y1.put (p:=[]) (q:=[.int .i64 0,.int .i64 0,.slice none 0 0]) (r:=[]) [.int .i64 wd,.int .i64 fl,.slice sa xs.length sc] rfl
   have bF:Below v.heap.size v yF:=hbv.trans (oF.below (Nat.le_refl _) hbv.size)
   have kF:Kls yF.heap.size yF u (atP K p):=(hk1.only oF nb.size (by simp) (Nat.le_trans nb.size hbv.size)).kls (Nat.le_trans nb.size bF.size)
   clear hyF hyF'
   refine hKr.out _ _ (HS.out _ bF) (fun hS=>?_)
   try simp only [nrm]
   refine zab 11 rfl ?_
   refine wpAnyH_done (by kernel_rfl) ?_ _
   repeat go_step
   go_meet
   exact ⟨v.heap.size,u,cu,rfl,rfl,YF,kF,bF⟩
 case rest =>
 obtain ⟨g,u,cu,rfl,rfl,LX,kx,bvx⟩:=hcut
 clear HS
 have zvx:=bvx.size
 have bwx:=zaa nb bvx
 have smx:ISmp wc.heap.size wc sa xs:=sm.here bwx
 have hcl:(atP K p).length≤40:=Nat.le_trans (zs9 K p) nK
 obtain ⟨s,hs⟩:∃s,flK (atP K p)=s:=⟨_,rfl⟩
 obtain ⟨ys,hy⟩:∃ys,zf5 (atP K p)=ys:=⟨_,rfl⟩
 have HSS:Hid (flK (atP K p)=s):=hs
 have HYY:Hid (zf5 (atP K p)=ys):=hy
 have hy5:ys.length≤1048576:=by rw [←hy,zbo];omega
 have hx5:=xl
 have hfo:Hid (∀z,Below wc.heap.size wc z→Calls Tryz.prog 130 #[.slice u (atP K p).length cu] z fun e w'=>e=.returned (.int .i64 s)∧Below z.heap.size z w'):=fun z hz=>by
  have q:=zp5 cu (kx.here hz) hcl (fun c hc=>hfl c (List.mem_filter.1 hc).1)
  rw [HSS.out] at q
  exact q
 have hio:Hid (∀z,Below wc.heap.size wc z→Calls Tryz.prog 64 #[.slice u (atP K p).length cu] z fun e w'=>∃ui ci,e=.returned (.slice ui ys.length ci)∧ISmp w'.heap.size w' ui ys∧Below z.heap.size z w'):=fun z hz=>by
  have q:=zp4 cu (kx.here hz) (by omega)
  rw [HYY.out,show (atP K p).length=ys.length by rw [←HYY.out,zbo]] at q
  rw [show (atP K p).length=ys.length by rw [←HYY.out,zbo]]
  exact q
 clear hs hy
 cases h1:plB wd fl xs
 ·have HC:Hid (zr1 wd fl xs K p=false):=zlz (fun h=>by have q:=h.1;rw [h1] at q;cases q)
  have HS:Hid (∀x,Below wc.heap.size wc x→x.cell? ⟨g,0,none⟩=some (.int .i64 wd)∧x.cell? ⟨g,1,none⟩=some (.int .i64 fl)∧x.cell? ⟨g,2,none⟩=some (.slice sa xs.length sc)):=fun x hx=>⟨(LX.next hx).cell 0 _ rfl,(LX.next hx).cell 1 _ rfl,(LX.next hx).cell 2 _ rfl⟩
  go_upto_region 2 with (fail)
  refine zce HS (Below.refl _ _).drew fun hS=>?_
  refine zab 0 rfl ?_
  refine zci 1 rfl fun Kr hKr=>?_
  go_simp
  (refine (zd8 sc h1 (smx.here ((Below.refl _ _).drew))).mono ?_;rintro e w5 ⟨rfl,hb5⟩;have hb5:=zbh hb5;have hS5:=HS.out _ hb5)
  refine hKr.out _ _ ‹_› fun _=>?_
  try simp only [nrm]
  refine zab 2 rfl ?_
  refine zas 3 rfl ?_
  refine zas 4 rfl ?_
  refine zas 5 rfl ?_
  refine zas 6 rfl ?_
  refine zas 7 rfl ?_
  refine zab 8 rfl ?_
  refine zab 9 rfl ?_
  refine zas 10 rfl ?_
  refine zas 11 rfl ?_
  refine zas 12 rfl ?_
  refine zas 13 rfl ?_
  refine zas 14 rfl ?_
  refine zab 15 rfl ?_
  refine zab 16 rfl ?_
  refine wpAnyH_done (by kernel_rfl) ?_ _
  go_wp2
  go_ret
  exact ⟨zeg HC.out.symm,zaa bwx hb5⟩
 by_cases h2:fl=s
 rotate_left
 ·have HC:Hid (zr1 wd fl xs K p=false):=zlz (fun h=>h2 (h.2.1.trans HSS.out))
  have h2':(fl == s)=false:=by simp [h2]
  clear h2
  have HS:Hid (∀x,Below wc.heap.size wc x→x.cell? ⟨g,0,none⟩=some (.int .i64 wd)∧x.cell? ⟨g,1,none⟩=some (.int .i64 fl)∧x.cell? ⟨g,2,none⟩=some (.slice sa xs.length sc)):=fun x hx=>⟨(LX.next hx).cell 0 _ rfl,(LX.next hx).cell 1 _ rfl,(LX.next hx).cell 2 _ rfl⟩
  go_upto_region 2 with (fail)
  refine zce HS (Below.refl _ _).drew fun hS=>?_
  refine zab 0 rfl ?_
  refine zci 1 rfl fun Kr hKr=>?_
  go_simp
  (refine (zd8 sc h1 (smx.here ((Below.refl _ _).drew))).mono ?_;rintro e w5 ⟨rfl,hb5⟩;have hb5:=zbh hb5;have hS5:=HS.out _ hb5)
  refine hKr.out _ _ ‹_› fun _=>?_
  try simp only [nrm]
  refine zab 2 rfl ?_
  refine zab 3 rfl ?_
  refine zab 4 rfl ?_
  refine zab 5 rfl ?_
  refine zci 6 rfl fun Kr hKr=>?_
  go_simp
  (refine (hfo.out _ hb5).mono ?_;rintro e w6 ⟨rfl,hb6⟩;have hb6:=zaa hb5 hb6;have hS6:=HS.out _ hb6)
  refine hKr.out _ _ ‹_› fun _=>?_
  try simp only [nrm]
  refine zab 7 rfl ?_
  refine zab 8 rfl ?_
  refine zab 9 rfl ?_
  refine zas 10 rfl ?_
  refine zas 11 rfl ?_
  refine zas 12 rfl ?_
  refine zas 13 rfl ?_
  refine zas 14 rfl ?_
  refine zab 15 rfl ?_
  refine zab 16 rfl ?_
  refine wpAnyH_done (by kernel_rfl) ?_ _
  go_wp2
  go_ret
  exact ⟨zeg HC.out.symm,zaa bwx hb6⟩
 subst h2
 cases h3:decide (xs=ys)
 ·have HC:Hid (zr1 wd fl xs K p=false):=zlz (fun h=>of_decide_eq_false h3 (h.2.2.trans HYY.out))
  have HS:Hid (∀x,Below wc.heap.size wc x→x.cell? ⟨g,0,none⟩=some (.int .i64 wd)∧x.cell? ⟨g,1,none⟩=some (.int .i64 fl)∧x.cell? ⟨g,2,none⟩=some (.slice sa xs.length sc)):=fun x hx=>⟨(LX.next hx).cell 0 _ rfl,(LX.next hx).cell 1 _ rfl,(LX.next hx).cell 2 _ rfl⟩
  go_upto_region 2 with (fail)
  refine zce HS (Below.refl _ _).drew fun hS=>?_
  refine zab 0 rfl ?_
  refine zci 1 rfl fun Kr hKr=>?_
  go_simp
  (refine (zd8 sc h1 (smx.here ((Below.refl _ _).drew))).mono ?_;rintro e w5 ⟨rfl,hb5⟩;have hb5:=zbh hb5;have hS5:=HS.out _ hb5)
  refine hKr.out _ _ ‹_› fun _=>?_
  try simp only [nrm]
  refine zab 2 rfl ?_
  refine zab 3 rfl ?_
  refine zab 4 rfl ?_
  refine zab 5 rfl ?_
  refine zci 6 rfl fun Kr hKr=>?_
  go_simp
  (refine (hfo.out _ hb5).mono ?_;rintro e w6 ⟨rfl,hb6⟩;have hb6:=zaa hb5 hb6;have hS6:=HS.out _ hb6)
  refine hKr.out _ _ ‹_› fun _=>?_
  try simp only [nrm]
  refine zab 7 rfl ?_
  refine zab 8 rfl ?_
  refine zab 9 rfl ?_
  refine zab 10 rfl ?_
  refine zab 11 rfl ?_
  refine zab 12 rfl ?_
  refine zci 13 rfl fun Kr hKr=>?_
  go_simp
  (refine (hio.out _ hb6).mono ?_;rintro e w7 ⟨ui,ci,rfl,smi,hb7⟩;have hb7:=zaa hb6 hb7;have hS7:=HS.out _ hb7)
  refine hKr.out _ _ ‹_› fun _=>?_
  try simp only [nrm]
  refine zci 14 rfl fun Kr hKr=>?_
  go_simp
  (refine (z0g sc ci h3 (smx.here hb7) smi hx5 hy5).mono ?_;rintro e w8 ⟨rfl,hb8⟩;have hb8:=zaa hb7 hb8;have hS8:=HS.out _ hb8)
  refine hKr.out _ _ ‹_› fun _=>?_
  try simp only [nrm]
  refine zab 15 rfl ?_
  refine zab 16 rfl ?_
  refine wpAnyH_done (by kernel_rfl) ?_ _
  go_wp2
  go_ret
  exact ⟨zeg HC.out.symm,zaa bwx hb8⟩
 ·have HC:Hid (zr1 wd fl xs K p=true):=zzd ⟨h1,HSS.out.symm,(of_decide_eq_true h3).trans HYY.out.symm⟩
  have HS:Hid (∀x,Below wc.heap.size wc x→x.cell? ⟨g,0,none⟩=some (.int .i64 wd)∧x.cell? ⟨g,1,none⟩=some (.int .i64 fl)∧x.cell? ⟨g,2,none⟩=some (.slice sa xs.length sc)):=fun x hx=>⟨(LX.next hx).cell 0 _ rfl,(LX.next hx).cell 1 _ rfl,(LX.next hx).cell 2 _ rfl⟩
  go_upto_region 2 with (fail)
  refine zce HS (Below.refl _ _).drew fun hS=>?_
  refine zab 0 rfl ?_
  refine zci 1 rfl fun Kr hKr=>?_
  go_simp
  (refine (zd8 sc h1 (smx.here ((Below.refl _ _).drew))).mono ?_;rintro e w5 ⟨rfl,hb5⟩;have hb5:=zbh hb5;have hS5:=HS.out _ hb5)
  refine hKr.out _ _ ‹_› fun _=>?_
  try simp only [nrm]
  refine zab 2 rfl ?_
  refine zab 3 rfl ?_
  refine zab 4 rfl ?_
  refine zab 5 rfl ?_
  refine zci 6 rfl fun Kr hKr=>?_
  go_simp
  (refine (hfo.out _ hb5).mono ?_;rintro e w6 ⟨rfl,hb6⟩;have hb6:=zaa hb5 hb6;have hS6:=HS.out _ hb6)
  refine hKr.out _ _ ‹_› fun _=>?_
  try simp only [nrm]
  refine zab 7 rfl ?_
  refine zab 8 rfl ?_
  refine zab 9 rfl ?_
  refine zab 10 rfl ?_
  refine zab 11 rfl ?_
  refine zab 12 rfl ?_
  refine zci 13 rfl fun Kr hKr=>?_
  go_simp
  (refine (hio.out _ hb6).mono ?_;rintro e w7 ⟨ui,ci,rfl,smi,hb7⟩;have hb7:=zaa hb6 hb7;have hS7:=HS.out _ hb7)
  refine hKr.out _ _ ‹_› fun _=>?_
  try simp only [nrm]
  refine zci 14 rfl fun Kr hKr=>?_
  go_simp
  (refine (z0g sc ci h3 (smx.here hb7) smi hx5 hy5).mono ?_;rintro e w8 ⟨rfl,hb8⟩;have hb8:=zaa hb7 hb8;have hS8:=HS.out _ hb8)
  refine hKr.out _ _ ‹_› fun _=>?_
  try simp only [nrm]
  refine zab 15 rfl ?_
  refine zab 16 rfl ?_
  refine wpAnyH_done (by kernel_rfl) ?_ _
  go_wp2
  go_ret
  exact ⟨zeg HC.out.symm,zaa bwx hb8⟩
theorem zu8 {wd fl:Int} {w:World} {a a':Option Addr} (c c':Nat) {ys:List Int} (ha:ISmp w.heap.size w a ys) (hb:ISmp w.heap.size w a' ys) (hn:ys.length≤1048576):Calls Tryz.prog 56 #[.agg #[.int .i64 wd,.int .i64 fl,.slice a ys.length c],.agg #[.int .i64 wd,.int .i64 fl,.slice a' ys.length c']] w fun e w'=>e=.returned (.bool true)∧Below w.heap.size w w':=by
 have hd:decide (ys=ys)=true:=decide_eq_true rfl
 go_enter Tryz.func56,Tryz.ntmps56
 go_wp2_with (first
  | (go_at_call 20;refine (zjm c c' (ha.here (by go_grown)) (hb.here (by go_grown)) (by omega)).mono ?_;rintro e w2 ⟨rfl,hb2⟩;rw [hd];have hbw:Below w.heap.size w w2:=zaa (by go_grown) hb2;have kc:=za0 hb2;have zl:=hb2.size;(try simp at zl)))
 go_ret
 exact ⟨rfl,hbw⟩
theorem zhg {w:World} (now nx:Int) {aT aO aP aL aK bT bO bP bL bK:Option Addr} (cT cO cP cL cK dT dO dP dL dK:Nat) {T O P:List Q4} {L:List F8} {K:List Kn} (hT1:Quad w.heap.size w aT T) (hO1:Quad w.heap.size w aO O) (hP1:Quad w.heap.size w aP P) (hL1:Fls w.heap.size w aL L) (hK1:Kls w.heap.size w aK K) (hT2:Quad w.heap.size w bT T) (hO2:Quad w.heap.size w bO O) (hP2:Quad w.heap.size w bP P) (hL2:Fls w.heap.size w bL L) (hK2:Kls w.heap.size w bK K) (lT:T.length≤1000000) (lO:O.length≤1000000) (lP:P.length≤1000000) (lL:L.length≤1048576) (sL:∀f ∈ L,f.2.2.length≤1048576) (lK:K.length≤1048576) (sK:∀c ∈ K,c.xs.length≤1048576) :
 Calls Tryz.prog 12 #[zcp now aT T.length cT aO O.length cO aP P.length cP aL L.length cL aK K.length cK nx,zcp now bT T.length dT bO O.length dO bP P.length dP bL L.length dL bK K.length dK nx] w fun e w'=>e=.returned (.bool true)∧Below w.heap.size w w':=by
 have iL:(L.length:Int)≤1048576:=by omega
 have iK:(K.length:Int)≤1048576:=by omega
 obtain ⟨v,hv,nb,L0,L1⟩:=pre2 w 31 [.int .i64 now,.slice aT T.length cT,.slice aO O.length cO,.slice aP P.length cP,.slice aL L.length cL,.slice aK K.length cK,.int .i64 nx] [.int .i64 now,.slice bT T.length dT,.slice bO O.length dO,.slice bP P.length dP,.slice bL L.length dL,.slice bK K.length dK,.int .i64 nx]
 have hw1:=L1.lt
 go_enter Tryz.func12,Tryz.ntmps12
 go_upto_region 1 with (fail)
 rw [←hv]
 clear hv
 obtain ⟨p0,p1,p2,p3,p4,p5,p6⟩:=L0.c7
 obtain ⟨r0,r1,r2,r3,r4,r5,r6⟩:=L1.c7
 go_wp2_with (first|(go_at_call 55;refine (zue cT cO cP dT dO dP (hT1.here nb) (hO1.here nb) (hP1.here nb) (hT2.here nb) (hO2.here nb) (hP2.here nb) lT lO lP).mono ?_;rintro e v2 ⟨rfl,hb2⟩;have b2:=zaa nb hb2;have M0:=L0.next hb2;have M1:=L1.next hb2;clear p0 p1 p2 p3 p4 p5 p6 r0 r1 r2 r3 r4 r5 r6;obtain ⟨p0,p1,p2,p3,p4,p5,p6⟩:=M0.c7;obtain ⟨r0,r1,r2,r3,r4,r5,r6⟩:=M1.c7))
 clear p0 p1 p2 p3 p4 p5 p6 r0 r1 r2 r3 r4 r5 r6
 have M0z:=M1.lt
 go_loopw [5] (fun i wr=>∃k:Nat,i=.int .i64 k∧k≤L.length∧Below v2.heap.size v2 wr) (fun i _=>L.length-(intOf i).toNat)
 case atStart=>exact ⟨0,rfl,by omega,Below.refl _ _⟩
 case round =>
  obtain ⟨k,rfl,hk,hbr⟩:=hrel
  have N0:=M0.next hbr
  have N1:=M1.next hbr
  have hbw:=zaa b2 hbr
  have zr:=hbr.size
  by_cases hlt:k<L.length
  ·have hlt':(k:Int)<(L.length:Int):=by omega
   have hk0:(0:Int)≤(k:Int):=by omega
   obtain ⟨g1,o1,s1,n1,e1,hg1,x0,x1,x2,m1⟩:=hL1 k hlt
   obtain ⟨g2,o2,s2,n2,e2,hg2,y0,y1,y2,m2⟩:=hL2 k hlt
   subst e1 e2
   have HN:Hid (L[k].2.2.length≤1048576):=sL _ (List.getElem_mem hlt)
   have HM1:Hid (ISmp wr.heap.size wr s1 L[k].2.2):=m1.here hbw
   have HM2:Hid (ISmp wr.heap.size wr s2 L[k].2.2):=m2.here hbw
   have HS:Hid (∀u,Below wr.heap.size wr u→u.cell? ⟨w.heap.size,4,none⟩=some (.slice (some ⟨g1,o1,none⟩) L.length cL)∧u.cell? ⟨w.heap.size+1,4,none⟩=some (.slice (some ⟨g2,o2,none⟩) L.length dL)∧u.cell? ⟨g1,o1+k*3,none⟩=some (.int .i64 L[k].1)∧u.cell? ⟨g1,o1+k*3+1,none⟩=some (.int .i64 L[k].2.1)∧u.cell? ⟨g1,o1+k*3+2,none⟩=some (.slice s1 L[k].2.2.length n1)∧u.cell? ⟨g2,o2+k*3,none⟩=some (.int .i64 L[k].1)∧u.cell? ⟨g2,o2+k*3+1,none⟩=some (.int .i64 L[k].2.1)∧u.cell? ⟨g2,o2+k*3+2,none⟩=some (.slice s2 L[k].2.2.length n2)):=fun u hu=>⟨(N0.next hu).cell 4 _ rfl,(N1.next hu).cell 4 _ rfl,(hu.cell (by show g1<_;have:=hbw.size;omega)).trans ((hbw.cell (by exact hg1)).trans x0),(hu.cell (by show g1<_;have:=hbw.size;omega)).trans ((hbw.cell (by exact hg1)).trans x1),(hu.cell (by show g1<_;have:=hbw.size;omega)).trans ((hbw.cell (by exact hg1)).trans x2),(hu.cell (by show g2<_;have:=hbw.size;omega)).trans ((hbw.cell (by exact hg2)).trans y0),(hu.cell (by show g2<_;have:=hbw.size;omega)).trans ((hbw.cell (by exact hg2)).trans y1),(hu.cell (by show g2<_;have:=hbw.size;omega)).trans ((hbw.cell (by exact hg2)).trans y2)⟩
   clear m1 m2 x0 x1 x2 y0 y1 y2
   obtain ⟨p0,p1,p2,p3,p4,p5,p6⟩:=N0.c7
   go_upto_region 6 with (fail)
   clear p0 p1 p2 p3 p4 p5 p6
   refine zce HS (Below.refl _ _).drew fun hS=>?_
   refine zab 0 rfl ?_
   refine zab 1 rfl ?_
   refine zab 2 rfl ?_
   refine zab 3 rfl ?_
   refine zab 4 rfl ?_
   refine zab 5 rfl ?_
   refine zab 6 rfl ?_
   refine zab 7 rfl ?_
   refine zab 8 rfl ?_
   refine zab 9 rfl ?_
   refine zci 10 rfl fun Kr hKr=>?_
   go_simp
   (refine (zu8 n1 n2 (HM1.out.here (Below.refl _ _).drew) (HM2.out.here (Below.refl _ _).drew) HN.out).mono ?_;rintro e u1 ⟨rfl,hb1⟩;have hb1:=zbh hb1;have hS1:=HS.out _ hb1)
   refine hKr.out _ _ ‹_› fun _=>?_
   try simp only [nrm]
   refine zab 11 rfl ?_
   refine wpAnyH_done (by kernel_rfl) ?_ _
   have hbk:=hbr.trans (hb1.mono hbr.size)
   go_wp2
   go_roundw
   case rel=>exact ⟨k+1,by go_num,by omega,hbk⟩
   case measure=>simp [intOf];omega
  ·have e:k=L.length:=by omega
   subst e
   obtain ⟨p0,p1,p2,p3,p4,p5,p6⟩:=N0.c7
   go_wp2
   clear p0 p1 p2 p3 p4 p5 p6
   have N0z:=N1.lt
   obtain ⟨wo,hwo⟩:∃x,x=wr:=⟨_,rfl⟩
   subst hwo
   go_loopw [6] (fun i wr=>∃k:Nat,i=.int .i64 k∧k≤K.length∧Below wo.heap.size wo wr) (fun i _=>K.length-(intOf i).toNat)
   case atStart=>exact ⟨0,rfl,by omega,Below.refl _ _⟩
   case round =>
    obtain ⟨j,rfl,hj,hbq⟩:=hrel
    have Q0:=N0.next hbq
    have Q1:=N1.next hbq
    have hbw2:=zaa hbw hbq
    obtain ⟨p0,p1,p2,p3,p4,p5,p6⟩:=Q0.c7
    obtain ⟨r0,r1,r2,r3,r4,r5,r6⟩:=Q1.c7
    by_cases hlt:j<K.length
    ·have hlt':(j:Int)<(K.length:Int):=by omega
     have hj0:(0:Int)≤(j:Int):=by omega
     obtain ⟨g1,o1,s1,n1,e1,hg1,x0,x13,m1⟩:=hK1 j hlt
     obtain ⟨g2,o2,s2,n2,e2,hg2,y0,y13,m2⟩:=hK2 j hlt
     subst e1 e2
     have HNK:Hid (K[j].xs.length≤1048576):=sK _ (List.getElem_mem hlt)
     have e0:wr.cell? ⟨g1,o1+j*14,none⟩=some (.int .i64 K[j].id):=(hbw2.cell (by exact hg1)).trans (x0 0 _ rfl)
     have e1:wr.cell? ⟨g1,o1+j*14+1,none⟩=some (.int .i64 K[j].lf):=(hbw2.cell (by exact hg1)).trans (x0 1 _ rfl)
     have e2:wr.cell? ⟨g1,o1+j*14+2,none⟩=some (.int .i64 K[j].pl):=(hbw2.cell (by exact hg1)).trans (x0 2 _ rfl)
     have e3:wr.cell? ⟨g1,o1+j*14+3,none⟩=some (.int .i64 K[j].k):=(hbw2.cell (by exact hg1)).trans (x0 3 _ rfl)
     have e4:wr.cell? ⟨g1,o1+j*14+4,none⟩=some (.int .i64 K[j].wn):=(hbw2.cell (by exact hg1)).trans (x0 4 _ rfl)
     have e5:wr.cell? ⟨g1,o1+j*14+5,none⟩=some (.int .i64 K[j].th):=(hbw2.cell (by exact hg1)).trans (x0 5 _ rfl)
     have e6:wr.cell? ⟨g1,o1+j*14+6,none⟩=some (.int .i64 K[j].fl):=(hbw2.cell (by exact hg1)).trans (x0 6 _ rfl)
     have e7:wr.cell? ⟨g1,o1+j*14+7,none⟩=some (.int .i64 K[j].ac):=(hbw2.cell (by exact hg1)).trans (x0 7 _ rfl)
     have e8:wr.cell? ⟨g1,o1+j*14+8,none⟩=some (.int .i64 K[j].la):=(hbw2.cell (by exact hg1)).trans (x0 8 _ rfl)
     have e9:wr.cell? ⟨g1,o1+j*14+9,none⟩=some (.int .i64 K[j].og):=(hbw2.cell (by exact hg1)).trans (x0 9 _ rfl)
     have e10:wr.cell? ⟨g1,o1+j*14+10,none⟩=some (.int .i64 K[j].st):=(hbw2.cell (by exact hg1)).trans (x0 10 _ rfl)
     have e11:wr.cell? ⟨g1,o1+j*14+11,none⟩=some (.int .i64 K[j].fr):=(hbw2.cell (by exact hg1)).trans (x0 11 _ rfl)
     have e12:wr.cell? ⟨g1,o1+j*14+12,none⟩=some (.bool K[j].sl):=(hbw2.cell (by exact hg1)).trans (x0 12 _ rfl)
     have e13:wr.cell? ⟨g1,o1+j*14+13,none⟩=some (.slice s1 K[j].xs.length n1):=(hbw2.cell (by exact hg1)).trans (x13)
     clear x0 x13
     go_upto_region 12 with (fail)
     obtain ⟨y1,hy1,LK1,by1⟩:=ze8 wr 47 [.int .i64 K[j].id,.int .i64 K[j].lf,.int .i64 K[j].pl,.int .i64 K[j].k,.int .i64 K[j].wn,.int .i64 K[j].th,.int .i64 K[j].fl,.int .i64 K[j].ac,.int .i64 K[j].la,.int .i64 K[j].og,.int .i64 K[j].st,.int .i64 K[j].fr,.bool K[j].sl,.slice s1 K[j].xs.length n1]
     rw [←hy1]
     clear hy1 e0 e1 e2 e3 e4 e5 e6 e7 e8 e9 e10 e11 e12 e13 p0 p1 p2 p3 p4 p5 p6 r0 r1 r2 r3 r4 r5 r6
     have hbw3:=zaa hbw2 by1
     have R1:=Q1.next by1
     obtain ⟨r0,r1,r2,r3,r4,r5,r6⟩:=R1.c7
     have f0:y1.cell? ⟨g2,o2+j*14,none⟩=some (.int .i64 K[j].id):=(hbw3.cell (by exact hg2)).trans (y0 0 _ rfl)
     have f1:y1.cell? ⟨g2,o2+j*14+1,none⟩=some (.int .i64 K[j].lf):=(hbw3.cell (by exact hg2)).trans (y0 1 _ rfl)
     have f2:y1.cell? ⟨g2,o2+j*14+2,none⟩=some (.int .i64 K[j].pl):=(hbw3.cell (by exact hg2)).trans (y0 2 _ rfl)
     have f3:y1.cell? ⟨g2,o2+j*14+3,none⟩=some (.int .i64 K[j].k):=(hbw3.cell (by exact hg2)).trans (y0 3 _ rfl)
     have f4:y1.cell? ⟨g2,o2+j*14+4,none⟩=some (.int .i64 K[j].wn):=(hbw3.cell (by exact hg2)).trans (y0 4 _ rfl)
     have f5:y1.cell? ⟨g2,o2+j*14+5,none⟩=some (.int .i64 K[j].th):=(hbw3.cell (by exact hg2)).trans (y0 5 _ rfl)
     have f6:y1.cell? ⟨g2,o2+j*14+6,none⟩=some (.int .i64 K[j].fl):=(hbw3.cell (by exact hg2)).trans (y0 6 _ rfl)
     have f7:y1.cell? ⟨g2,o2+j*14+7,none⟩=some (.int .i64 K[j].ac):=(hbw3.cell (by exact hg2)).trans (y0 7 _ rfl)
     have f8:y1.cell? ⟨g2,o2+j*14+8,none⟩=some (.int .i64 K[j].la):=(hbw3.cell (by exact hg2)).trans (y0 8 _ rfl)
     have f9:y1.cell? ⟨g2,o2+j*14+9,none⟩=some (.int .i64 K[j].og):=(hbw3.cell (by exact hg2)).trans (y0 9 _ rfl)
     have f10:y1.cell? ⟨g2,o2+j*14+10,none⟩=some (.int .i64 K[j].st):=(hbw3.cell (by exact hg2)).trans (y0 10 _ rfl)
     have f11:y1.cell? ⟨g2,o2+j*14+11,none⟩=some (.int .i64 K[j].fr):=(hbw3.cell (by exact hg2)).trans (y0 11 _ rfl)
     have f12:y1.cell? ⟨g2,o2+j*14+12,none⟩=some (.bool K[j].sl):=(hbw3.cell (by exact hg2)).trans (y0 12 _ rfl)
     have f13:y1.cell? ⟨g2,o2+j*14+13,none⟩=some (.slice s2 K[j].xs.length n2):=(hbw3.cell (by exact hg2)).trans (y13)
     clear y0 y13
     go_upto_region 13 with (fail)
     obtain ⟨y2,hy2,LK2,by2⟩:=ze8 y1 47 [.int .i64 K[j].id,.int .i64 K[j].lf,.int .i64 K[j].pl,.int .i64 K[j].k,.int .i64 K[j].wn,.int .i64 K[j].th,.int .i64 K[j].fl,.int .i64 K[j].ac,.int .i64 K[j].la,.int .i64 K[j].og,.int .i64 K[j].st,.int .i64 K[j].fr,.bool K[j].sl,.slice s2 K[j].xs.length n2]
     rw [←hy2]
     clear hy2 f0 f1 f2 f3 f4 f5 f6 f7 f8 f9 f10 f11 f12 f13 r0 r1 r2 r3 r4 r5 r6
     have hbw4:=zaa hbw3 by2
     have LK1':=LK1.next by2
     have HI1:Hid (ISmp y2.heap.size y2 s1 K[j].xs):=m1.here hbw4
     have HI2:Hid (ISmp y2.heap.size y2 s2 K[j].xs):=m2.here hbw4
     have hd:decide (K[j].xs=K[j].xs)=true:=decide_eq_true rfl
     obtain ⟨q0,q1,q2,q3,q4,q5,q6,q7,q8,q9,q10,q11,q12,q13⟩:=LK1'.c14
     obtain ⟨z0,z1,z2,z3,z4,z5,z6,z7,z8,z9,z10,z11,z12,z13⟩:=LK2.c14
     have hbq2:Below wo.heap.size wo y2:=zaa (zaa hbq by1) by2
     clear m1 m2
     go_wp2_with (first|(go_at_call 20;refine (zjm n1 n2 HI1.out HI2.out (Nat.le_trans HNK.out (by decide))).mono ?_;rintro e u3 ⟨rfl,hb3⟩;rw [hd];have hbq3:Below wo.heap.size wo u3:=zaa hbq2 hb3))
     go_roundw
     case rel=>exact ⟨j+1,by go_num,by omega,hbq3⟩
     case measure=>simp [intOf];omega
    ·have hmd:¬(j:Int)<(K.length:Int):=by omega
     go_wp2
     go_ret
     exact ⟨rfl,zaa hbw hbq⟩
end Go.Proofs.YthiojkjcmhojoaaGreat
