import Derived.Test.YthiojkjcmhojoaaGreatGfAW
namespace Go.Proofs.YthiojkjcmhojoaaGreat
set_option maxHeartbeats 8000000
open Go.ChangeShapes Go.WideShapes Go.ChangeAt Go.RowKit
set_option maxRecDepth 100000
set_option linter.unusedVariables false
set_option linter.unusedSimpArgs false
theorem ze7 {T O P:List Q4} (h:zbf T O P=true):zau (zdv O)=true:=by
 have hl:=zbe h
 have h0:=hl.tree.l0
 have hp:=(zd0 (hl.pair 0 h0 (by rw [hl.lo];exact h0) (by rw [hl.lp];exact h0)))
 have:=hp.oka
 rw [←hp.ta]
 unfold zh6 zgn at this
 simp only [Bool.and_eq_true] at this
 exact this.2
theorem zrs {w:World} (now nx:Int) {aT aO aP aL aK:Option Addr} (cT cO cP cL cK:Nat) {T O P:List Q4} {L:List F8} {K:List Kn} (hT:Quad w.heap.size w aT T) (hO:Quad w.heap.size w aO O) (hP:Quad w.heap.size w aP P) (hL:Fls w.heap.size w aL L) (hK:Kls w.heap.size w aK K) (mT:T.length≤1048576) (mL:L.length≤1048576) (mK:K.length≤1048576) (sK:∀c ∈ K,c.xs.length≤maxLen) (h0:zau now=false) :
 Calls Tryz.prog 40 #[zcp now aT T.length cT aO O.length cO aP P.length cP aL L.length cL aK K.length cK nx] w fun e w'=>e=.returned (.bool (zcy now nx T O P L K))∧Below w.heap.size w w':=by
 obtain ⟨v,hv,L0,nb⟩:=ze8 w 31 [.int .i64 now,.slice aT T.length cT,.slice aO O.length cO,.slice aP P.length cP,.slice aL L.length cL,.slice aK K.length cK,.int .i64 nx]
 have HE:Hid (zcy now nx T O P L K=false):=zb1 (fun h=>by have q:=ze7 h.lend;rw [h.at',h0] at q;cases q)
 go_enter Tryz.func40,Tryz.ntmps40
 go_upto_region 1 with (fail)
 rw [←hv]
 clear hv
 have HS:Hid (∀x,Below v.heap.size v x→x.cell? ⟨w.heap.size,0,none⟩=some (.int .i64 now)∧x.cell? ⟨w.heap.size,1,none⟩=some (.slice aT T.length cT)∧x.cell? ⟨w.heap.size,2,none⟩=some (.slice aO O.length cO)∧x.cell? ⟨w.heap.size,3,none⟩=some (.slice aP P.length cP)∧x.cell? ⟨w.heap.size,4,none⟩=some (.slice aL L.length cL)∧x.cell? ⟨w.heap.size,5,none⟩=some (.slice aK K.length cK)∧x.cell? ⟨w.heap.size,6,none⟩=some (.int .i64 nx)):=fun x hx=>⟨(L0.next hx).cell 0 _ rfl,(L0.next hx).cell 1 _ rfl,(L0.next hx).cell 2 _ rfl,(L0.next hx).cell 3 _ rfl,(L0.next hx).cell 4 _ rfl,(L0.next hx).cell 5 _ rfl,(L0.next hx).cell 6 _ rfl⟩
 refine zce HS (Below.refl _ _).drew fun hS=>?_
 refine zab 0 rfl ?_
 refine zab 1 rfl ?_
 refine zci 2 rfl fun Kr hKr=>?_
 go_simp
 (refine (zch h0 _).mono ?_;rintro e w3 ⟨rfl,e3⟩;replace e3:=e3.symm;subst e3)
 refine hKr.out _ _ ‹_› fun _=>?_
 try simp only [nrm]
 refine zab 3 rfl ?_
 refine zab 4 rfl ?_
 refine zas 5 rfl ?_
 refine zas 6 rfl ?_
 refine zas 7 rfl ?_
 refine zas 8 rfl ?_
 refine zab 9 rfl ?_
 refine zab 10 rfl ?_
 refine zas 11 rfl ?_
 refine zas 12 rfl ?_
 refine zas 13 rfl ?_
 refine zas 14 rfl ?_
 refine zas 15 rfl ?_
 refine zas 16 rfl ?_
 refine zas 17 rfl ?_
 refine zas 18 rfl ?_
 refine zas 19 rfl ?_
 refine zab 20 rfl ?_
 refine zab 21 rfl ?_
 refine zas 22 rfl ?_
 refine zas 23 rfl ?_
 refine zas 24 rfl ?_
 refine zas 25 rfl ?_
 refine zab 26 rfl ?_
 refine zab 27 rfl ?_
 refine zas 28 rfl ?_
 refine zas 29 rfl ?_
 refine zas 30 rfl ?_
 refine zas 31 rfl ?_
 refine zab 32 rfl ?_
 refine zab 33 rfl ?_
 refine zas 34 rfl ?_
 refine zas 35 rfl ?_
 refine zas 36 rfl ?_
 refine zas 37 rfl ?_
 refine zab 38 rfl ?_
 refine zab 39 rfl ?_
 refine zas 40 rfl ?_
 refine zas 41 rfl ?_
 refine zas 42 rfl ?_
 refine zas 43 rfl ?_
 refine zab 44 rfl ?_
 refine wpAnyH_done (by kernel_rfl) ?_ _
 go_wp2
 go_ret
 exact ⟨zeg HE.out.symm,zaa nb ((Below.refl _ _).drew)⟩
theorem zrt {w:World} (now nx:Int) {aT aO aP aL aK:Option Addr} (cT cO cP cL cK:Nat) {T O P:List Q4} {L:List F8} {K:List Kn} (hT:Quad w.heap.size w aT T) (hO:Quad w.heap.size w aO O) (hP:Quad w.heap.size w aP P) (hL:Fls w.heap.size w aL L) (hK:Kls w.heap.size w aK K) (mT:T.length≤1048576) (mL:L.length≤1048576) (mK:K.length≤1048576) (sK:∀c ∈ K,c.xs.length≤maxLen) (h0:zau now=true) (h1:zbf T O P=false) :
 Calls Tryz.prog 40 #[zcp now aT T.length cT aO O.length cO aP P.length cP aL L.length cL aK K.length cK nx] w fun e w'=>e=.returned (.bool (zcy now nx T O P L K))∧Below w.heap.size w w':=by
 obtain ⟨v,hv,L0,nb⟩:=ze8 w 31 [.int .i64 now,.slice aT T.length cT,.slice aO O.length cO,.slice aP P.length cP,.slice aL L.length cL,.slice aK K.length cK,.int .i64 nx]
 have HE:Hid (zcy now nx T O P L K=false):=zb1 (fun h=>by have q:=h.lend;rw [h1] at q;cases q)
 go_enter Tryz.func40,Tryz.ntmps40
 go_upto_region 1 with (fail)
 rw [←hv]
 clear hv
 have HS:Hid (∀x,Below v.heap.size v x→x.cell? ⟨w.heap.size,0,none⟩=some (.int .i64 now)∧x.cell? ⟨w.heap.size,1,none⟩=some (.slice aT T.length cT)∧x.cell? ⟨w.heap.size,2,none⟩=some (.slice aO O.length cO)∧x.cell? ⟨w.heap.size,3,none⟩=some (.slice aP P.length cP)∧x.cell? ⟨w.heap.size,4,none⟩=some (.slice aL L.length cL)∧x.cell? ⟨w.heap.size,5,none⟩=some (.slice aK K.length cK)∧x.cell? ⟨w.heap.size,6,none⟩=some (.int .i64 nx)):=fun x hx=>⟨(L0.next hx).cell 0 _ rfl,(L0.next hx).cell 1 _ rfl,(L0.next hx).cell 2 _ rfl,(L0.next hx).cell 3 _ rfl,(L0.next hx).cell 4 _ rfl,(L0.next hx).cell 5 _ rfl,(L0.next hx).cell 6 _ rfl⟩
 refine zce HS (Below.refl _ _).drew fun hS=>?_
 refine zab 0 rfl ?_
 refine zab 1 rfl ?_
 refine zci 2 rfl fun Kr hKr=>?_
 go_simp
 (refine (zch h0 _).mono ?_;rintro e w3 ⟨rfl,e3⟩;replace e3:=e3.symm;subst e3)
 refine hKr.out _ _ ‹_› fun _=>?_
 try simp only [nrm]
 refine zab 3 rfl ?_
 refine zab 4 rfl ?_
 refine zab 5 rfl ?_
 refine zab 6 rfl ?_
 refine zci 7 rfl fun Kr hKr=>?_
 go_simp
 (refine (zbg cT cO cP h1 (hT.here (nb.drew)) (hO.here (nb.drew)) (hP.here (nb.drew))).mono ?_;rintro e w5 ⟨rfl,hb5⟩;have hb5:=zbh hb5;have hS5:=HS.out _ hb5)
 refine hKr.out _ _ ‹_› fun _=>?_
 try simp only [nrm]
 refine zab 8 rfl ?_
 refine zab 9 rfl ?_
 refine zab 10 rfl ?_
 refine zas 11 rfl ?_
 refine zas 12 rfl ?_
 refine zas 13 rfl ?_
 refine zas 14 rfl ?_
 refine zas 15 rfl ?_
 refine zas 16 rfl ?_
 refine zas 17 rfl ?_
 refine zas 18 rfl ?_
 refine zas 19 rfl ?_
 refine zab 20 rfl ?_
 refine zab 21 rfl ?_
 refine zas 22 rfl ?_
 refine zas 23 rfl ?_
 refine zas 24 rfl ?_
 refine zas 25 rfl ?_
 refine zab 26 rfl ?_
 refine zab 27 rfl ?_
 refine zas 28 rfl ?_
 refine zas 29 rfl ?_
 refine zas 30 rfl ?_
 refine zas 31 rfl ?_
 refine zab 32 rfl ?_
 refine zab 33 rfl ?_
 refine zas 34 rfl ?_
 refine zas 35 rfl ?_
 refine zas 36 rfl ?_
 refine zas 37 rfl ?_
 refine zab 38 rfl ?_
 refine zab 39 rfl ?_
 refine zas 40 rfl ?_
 refine zas 41 rfl ?_
 refine zas 42 rfl ?_
 refine zas 43 rfl ?_
 refine zab 44 rfl ?_
 refine wpAnyH_done (by kernel_rfl) ?_ _
 go_wp2
 go_ret
 exact ⟨zeg HE.out.symm,zaa nb hb5⟩
theorem zru {w:World} (now nx:Int) {aT aO aP aL aK:Option Addr} (cT cO cP cL cK:Nat) {T O P:List Q4} {L:List F8} {K:List Kn} (hT:Quad w.heap.size w aT T) (hO:Quad w.heap.size w aO O) (hP:Quad w.heap.size w aP P) (hL:Fls w.heap.size w aL L) (hK:Kls w.heap.size w aK K) (mT:T.length≤1048576) (mL:L.length≤1048576) (mK:K.length≤1048576) (sK:∀c ∈ K,c.xs.length≤maxLen) (h0:zau now=true) (h1:zbf T O P=true) (h2:¬zdv O=now) :
 Calls Tryz.prog 40 #[zcp now aT T.length cT aO O.length cO aP P.length cP aL L.length cL aK K.length cK nx] w fun e w'=>e=.returned (.bool (zcy now nx T O P L K))∧Below w.heap.size w w':=by
 obtain ⟨v,hv,L0,nb⟩:=ze8 w 31 [.int .i64 now,.slice aT T.length cT,.slice aO O.length cO,.slice aP P.length cP,.slice aL L.length cL,.slice aK K.length cK,.int .i64 nx]
 have hlo:=(zbe h1).lo
 have hl0:=(zbe h1).tree.l0
 have h0O:0<O.length:=by omega
 have h0O':(0:Int)<(O.length:Int):=by omega
 clear hlo hl0
 obtain ⟨A,hA⟩:∃A,O[0].2.2.2=A:=⟨_,rfl⟩
 have HA:Hid (zdv O=A):=(zgh h0O).trans hA
 rw [HA.out] at h2
 obtain ⟨bo,oo,hao,hbo,-,-,-,qA⟩:=hO.at nb 0 h0O
 rw [hA,Nat.zero_mul,Nat.add_zero] at qA
 subst hao
 clear hA
 have h2':(A != now)=true:=by simp [h2]
 have HE:Hid (zcy now nx T O P L K=false):=zb1 (fun h=>by exact h2 (HA.out.symm.trans h.at'))
 go_enter Tryz.func40,Tryz.ntmps40
 go_upto_region 1 with (fail)
 rw [←hv]
 clear hv
 have HS:Hid (∀x,Below v.heap.size v x→x.cell? ⟨w.heap.size,0,none⟩=some (.int .i64 now)∧x.cell? ⟨w.heap.size,1,none⟩=some (.slice aT T.length cT)∧x.cell? ⟨w.heap.size,2,none⟩=some (.slice (some ⟨bo,oo,none⟩) O.length cO)∧x.cell? ⟨w.heap.size,3,none⟩=some (.slice aP P.length cP)∧x.cell? ⟨w.heap.size,4,none⟩=some (.slice aL L.length cL)∧x.cell? ⟨w.heap.size,5,none⟩=some (.slice aK K.length cK)∧x.cell? ⟨w.heap.size,6,none⟩=some (.int .i64 nx)∧x.cell? ⟨bo,oo+3,none⟩=some (.int .i64 A)):=fun x hx=>⟨(L0.next hx).cell 0 _ rfl,(L0.next hx).cell 1 _ rfl,(L0.next hx).cell 2 _ rfl,(L0.next hx).cell 3 _ rfl,(L0.next hx).cell 4 _ rfl,(L0.next hx).cell 5 _ rfl,(L0.next hx).cell 6 _ rfl,(hx.cell (by exact Nat.lt_of_lt_of_le hbo nb.size)).trans qA⟩
 refine zce HS (Below.refl _ _).drew fun hS=>?_
 refine zab 0 rfl ?_
 refine zab 1 rfl ?_
 refine zci 2 rfl fun Kr hKr=>?_
 go_simp
 (refine (zch h0 _).mono ?_;rintro e w3 ⟨rfl,e3⟩;replace e3:=e3.symm;subst e3)
 refine hKr.out _ _ ‹_› fun _=>?_
 try simp only [nrm]
 refine zab 3 rfl ?_
 refine zab 4 rfl ?_
 refine zab 5 rfl ?_
 refine zab 6 rfl ?_
 refine zci 7 rfl fun Kr hKr=>?_
 go_simp
 (refine (zbg cT cO cP h1 (hT.here (nb.drew)) (hO.here (nb.drew)) (hP.here (nb.drew))).mono ?_;rintro e w5 ⟨rfl,hb5⟩;have hb5:=zbh hb5;have hS5:=HS.out _ hb5)
 refine hKr.out _ _ ‹_› fun _=>?_
 try simp only [nrm]
 refine zab 8 rfl ?_
 refine zab 9 rfl ?_
 refine zab 10 rfl ?_
 refine zab 11 rfl ?_
 refine zab 12 rfl ?_
 refine zab 13 rfl ?_
 refine zab 14 rfl ?_
 refine zab 15 rfl ?_
 refine zab 16 rfl ?_
 refine zab 17 rfl ?_
 refine zab 18 rfl ?_
 refine zab 19 rfl ?_
 refine zab 20 rfl ?_
 refine zab 21 rfl ?_
 refine zas 22 rfl ?_
 refine zas 23 rfl ?_
 refine zas 24 rfl ?_
 refine zas 25 rfl ?_
 refine zab 26 rfl ?_
 refine zab 27 rfl ?_
 refine zas 28 rfl ?_
 refine zas 29 rfl ?_
 refine zas 30 rfl ?_
 refine zas 31 rfl ?_
 refine zab 32 rfl ?_
 refine zab 33 rfl ?_
 refine zas 34 rfl ?_
 refine zas 35 rfl ?_
 refine zas 36 rfl ?_
 refine zas 37 rfl ?_
 refine zab 38 rfl ?_
 refine zab 39 rfl ?_
 refine zas 40 rfl ?_
 refine zas 41 rfl ?_
 refine zas 42 rfl ?_
 refine zas 43 rfl ?_
 refine zab 44 rfl ?_
 refine wpAnyH_done (by kernel_rfl) ?_ _
 go_wp2
 go_ret
 exact ⟨zeg HE.out.symm,zaa nb hb5⟩
theorem zrv {w:World} (now nx:Int) {aT aO aP aL aK:Option Addr} (cT cO cP cL cK:Nat) {T O P:List Q4} {L:List F8} {K:List Kn} (hT:Quad w.heap.size w aT T) (hO:Quad w.heap.size w aO O) (hP:Quad w.heap.size w aP P) (hL:Fls w.heap.size w aL L) (hK:Kls w.heap.size w aK K) (mT:T.length≤1048576) (mL:L.length≤1048576) (mK:K.length≤1048576) (sK:∀c ∈ K,c.xs.length≤maxLen) (h0:zau now=true) (h1:zbf T O P=true) (h2:zdv O=now) (h3:(L.length:Int)<1) :
 Calls Tryz.prog 40 #[zcp now aT T.length cT aO O.length cO aP P.length cP aL L.length cL aK K.length cK nx] w fun e w'=>e=.returned (.bool (zcy now nx T O P L K))∧Below w.heap.size w w':=by
 obtain ⟨v,hv,L0,nb⟩:=ze8 w 31 [.int .i64 now,.slice aT T.length cT,.slice aO O.length cO,.slice aP P.length cP,.slice aL L.length cL,.slice aK K.length cK,.int .i64 nx]
 have hlo:=(zbe h1).lo
 have hl0:=(zbe h1).tree.l0
 have h0O:0<O.length:=by omega
 have h0O':(0:Int)<(O.length:Int):=by omega
 clear hlo hl0
 obtain ⟨A,hA⟩:∃A,O[0].2.2.2=A:=⟨_,rfl⟩
 have HA:Hid (zdv O=A):=(zgh h0O).trans hA
 rw [HA.out] at h2
 obtain ⟨bo,oo,hao,hbo,-,-,-,qA⟩:=hO.at nb 0 h0O
 rw [hA,Nat.zero_mul,Nat.add_zero] at qA
 subst hao
 clear hA
 subst h2
 have HE:Hid (zcy A nx T O P L K=false):=zb1 (fun h=>by have q:=h.l0;omega)
 go_enter Tryz.func40,Tryz.ntmps40
 go_upto_region 1 with (fail)
 rw [←hv]
 clear hv
 have HS:Hid (∀x,Below v.heap.size v x→x.cell? ⟨w.heap.size,0,none⟩=some (.int .i64 A)∧x.cell? ⟨w.heap.size,1,none⟩=some (.slice aT T.length cT)∧x.cell? ⟨w.heap.size,2,none⟩=some (.slice (some ⟨bo,oo,none⟩) O.length cO)∧x.cell? ⟨w.heap.size,3,none⟩=some (.slice aP P.length cP)∧x.cell? ⟨w.heap.size,4,none⟩=some (.slice aL L.length cL)∧x.cell? ⟨w.heap.size,5,none⟩=some (.slice aK K.length cK)∧x.cell? ⟨w.heap.size,6,none⟩=some (.int .i64 nx)∧x.cell? ⟨bo,oo+3,none⟩=some (.int .i64 A)):=fun x hx=>⟨(L0.next hx).cell 0 _ rfl,(L0.next hx).cell 1 _ rfl,(L0.next hx).cell 2 _ rfl,(L0.next hx).cell 3 _ rfl,(L0.next hx).cell 4 _ rfl,(L0.next hx).cell 5 _ rfl,(L0.next hx).cell 6 _ rfl,(hx.cell (by exact Nat.lt_of_lt_of_le hbo nb.size)).trans qA⟩
 refine zce HS (Below.refl _ _).drew fun hS=>?_
 refine zab 0 rfl ?_
 refine zab 1 rfl ?_
 refine zci 2 rfl fun Kr hKr=>?_
 go_simp
 (refine (zch h0 _).mono ?_;rintro e w3 ⟨rfl,e3⟩;replace e3:=e3.symm;subst e3)
 refine hKr.out _ _ ‹_› fun _=>?_
 try simp only [nrm]
 refine zab 3 rfl ?_
 refine zab 4 rfl ?_
 refine zab 5 rfl ?_
 refine zab 6 rfl ?_
 refine zci 7 rfl fun Kr hKr=>?_
 go_simp
 (refine (zbg cT cO cP h1 (hT.here (nb.drew)) (hO.here (nb.drew)) (hP.here (nb.drew))).mono ?_;rintro e w5 ⟨rfl,hb5⟩;have hb5:=zbh hb5;have hS5:=HS.out _ hb5)
 refine hKr.out _ _ ‹_› fun _=>?_
 try simp only [nrm]
 refine zab 8 rfl ?_
 refine zab 9 rfl ?_
 refine zab 10 rfl ?_
 refine zab 11 rfl ?_
 refine zab 12 rfl ?_
 refine zab 13 rfl ?_
 refine zab 14 rfl ?_
 refine zab 15 rfl ?_
 refine zab 16 rfl ?_
 refine zab 17 rfl ?_
 refine zab 18 rfl ?_
 refine zab 19 rfl ?_
 refine zab 20 rfl ?_
 refine zab 21 rfl ?_
 refine zab 22 rfl ?_
 refine zab 23 rfl ?_
 refine zab 24 rfl ?_
 refine zab 25 rfl ?_
 refine zab 26 rfl ?_
 refine zab 27 rfl ?_
 refine zas 28 rfl ?_
 refine zas 29 rfl ?_
 refine zas 30 rfl ?_
 refine zas 31 rfl ?_
 refine zab 32 rfl ?_
 refine zab 33 rfl ?_
 refine zas 34 rfl ?_
 refine zas 35 rfl ?_
 refine zas 36 rfl ?_
 refine zas 37 rfl ?_
 refine zab 38 rfl ?_
 refine zab 39 rfl ?_
 refine zas 40 rfl ?_
 refine zas 41 rfl ?_
 refine zas 42 rfl ?_
 refine zas 43 rfl ?_
 refine zab 44 rfl ?_
 refine wpAnyH_done (by kernel_rfl) ?_ _
 go_wp2
 go_ret
 exact ⟨zeg HE.out.symm,zaa nb hb5⟩
theorem zrw {w:World} (now nx:Int) {aT aO aP aL aK:Option Addr} (cT cO cP cL cK:Nat) {T O P:List Q4} {L:List F8} {K:List Kn} (hT:Quad w.heap.size w aT T) (hO:Quad w.heap.size w aO O) (hP:Quad w.heap.size w aP P) (hL:Fls w.heap.size w aL L) (hK:Kls w.heap.size w aK K) (mT:T.length≤1048576) (mL:L.length≤1048576) (mK:K.length≤1048576) (sK:∀c ∈ K,c.xs.length≤maxLen) (h0:zau now=true) (h1:zbf T O P=true) (h2:zdv O=now) (h3:¬((L.length:Int)<1)) (h4:10<(L.length:Int)) :
 Calls Tryz.prog 40 #[zcp now aT T.length cT aO O.length cO aP P.length cP aL L.length cL aK K.length cK nx] w fun e w'=>e=.returned (.bool (zcy now nx T O P L K))∧Below w.heap.size w w':=by
 obtain ⟨v,hv,L0,nb⟩:=ze8 w 31 [.int .i64 now,.slice aT T.length cT,.slice aO O.length cO,.slice aP P.length cP,.slice aL L.length cL,.slice aK K.length cK,.int .i64 nx]
 have hlo:=(zbe h1).lo
 have hl0:=(zbe h1).tree.l0
 have h0O:0<O.length:=by omega
 have h0O':(0:Int)<(O.length:Int):=by omega
 clear hlo hl0
 obtain ⟨A,hA⟩:∃A,O[0].2.2.2=A:=⟨_,rfl⟩
 have HA:Hid (zdv O=A):=(zgh h0O).trans hA
 rw [HA.out] at h2
 obtain ⟨bo,oo,hao,hbo,-,-,-,qA⟩:=hO.at nb 0 h0O
 rw [hA,Nat.zero_mul,Nat.add_zero] at qA
 subst hao
 clear hA
 subst h2
 have HE:Hid (zcy A nx T O P L K=false):=zb1 (fun h=>by have q:=h.l1;omega)
 go_enter Tryz.func40,Tryz.ntmps40
 go_upto_region 1 with (fail)
 rw [←hv]
 clear hv
 have HS:Hid (∀x,Below v.heap.size v x→x.cell? ⟨w.heap.size,0,none⟩=some (.int .i64 A)∧x.cell? ⟨w.heap.size,1,none⟩=some (.slice aT T.length cT)∧x.cell? ⟨w.heap.size,2,none⟩=some (.slice (some ⟨bo,oo,none⟩) O.length cO)∧x.cell? ⟨w.heap.size,3,none⟩=some (.slice aP P.length cP)∧x.cell? ⟨w.heap.size,4,none⟩=some (.slice aL L.length cL)∧x.cell? ⟨w.heap.size,5,none⟩=some (.slice aK K.length cK)∧x.cell? ⟨w.heap.size,6,none⟩=some (.int .i64 nx)∧x.cell? ⟨bo,oo+3,none⟩=some (.int .i64 A)):=fun x hx=>⟨(L0.next hx).cell 0 _ rfl,(L0.next hx).cell 1 _ rfl,(L0.next hx).cell 2 _ rfl,(L0.next hx).cell 3 _ rfl,(L0.next hx).cell 4 _ rfl,(L0.next hx).cell 5 _ rfl,(L0.next hx).cell 6 _ rfl,(hx.cell (by exact Nat.lt_of_lt_of_le hbo nb.size)).trans qA⟩
 refine zce HS (Below.refl _ _).drew fun hS=>?_
 refine zab 0 rfl ?_
 refine zab 1 rfl ?_
 refine zci 2 rfl fun Kr hKr=>?_
 go_simp
 (refine (zch h0 _).mono ?_;rintro e w3 ⟨rfl,e3⟩;replace e3:=e3.symm;subst e3)
 refine hKr.out _ _ ‹_› fun _=>?_
 try simp only [nrm]
 refine zab 3 rfl ?_
 refine zab 4 rfl ?_
 refine zab 5 rfl ?_
 refine zab 6 rfl ?_
 refine zci 7 rfl fun Kr hKr=>?_
 go_simp
 (refine (zbg cT cO cP h1 (hT.here (nb.drew)) (hO.here (nb.drew)) (hP.here (nb.drew))).mono ?_;rintro e w5 ⟨rfl,hb5⟩;have hb5:=zbh hb5;have hS5:=HS.out _ hb5)
 refine hKr.out _ _ ‹_› fun _=>?_
 try simp only [nrm]
 refine zab 8 rfl ?_
 refine zab 9 rfl ?_
 refine zab 10 rfl ?_
 refine zab 11 rfl ?_
 refine zab 12 rfl ?_
 refine zab 13 rfl ?_
 refine zab 14 rfl ?_
 refine zab 15 rfl ?_
 refine zab 16 rfl ?_
 refine zab 17 rfl ?_
 refine zab 18 rfl ?_
 refine zab 19 rfl ?_
 refine zab 20 rfl ?_
 refine zab 21 rfl ?_
 refine zab 22 rfl ?_
 refine zab 23 rfl ?_
 refine zab 24 rfl ?_
 refine zab 25 rfl ?_
 refine zab 26 rfl ?_
 refine zab 27 rfl ?_
 refine zab 28 rfl ?_
 refine zab 29 rfl ?_
 refine zab 30 rfl ?_
 refine zab 31 rfl ?_
 refine zab 32 rfl ?_
 refine zab 33 rfl ?_
 refine zas 34 rfl ?_
 refine zas 35 rfl ?_
 refine zas 36 rfl ?_
 refine zas 37 rfl ?_
 refine zab 38 rfl ?_
 refine zab 39 rfl ?_
 refine zas 40 rfl ?_
 refine zas 41 rfl ?_
 refine zas 42 rfl ?_
 refine zas 43 rfl ?_
 refine zab 44 rfl ?_
 refine wpAnyH_done (by kernel_rfl) ?_ _
 go_wp2
 go_ret
 exact ⟨zeg HE.out.symm,zaa nb hb5⟩
theorem zrx {w:World} (now nx:Int) {aT aO aP aL aK:Option Addr} (cT cO cP cL cK:Nat) {T O P:List Q4} {L:List F8} {K:List Kn} (hT:Quad w.heap.size w aT T) (hO:Quad w.heap.size w aO O) (hP:Quad w.heap.size w aP P) (hL:Fls w.heap.size w aL L) (hK:Kls w.heap.size w aK K) (mT:T.length≤1048576) (mL:L.length≤1048576) (mK:K.length≤1048576) (sK:∀c ∈ K,c.xs.length≤maxLen) (h0:zau now=true) (h1:zbf T O P=true) (h2:zdv O=now) (h3:¬((L.length:Int)<1)) (h4:¬(10<(L.length:Int))) (h5:40<(K.length:Int)) :
 Calls Tryz.prog 40 #[zcp now aT T.length cT aO O.length cO aP P.length cP aL L.length cL aK K.length cK nx] w fun e w'=>e=.returned (.bool (zcy now nx T O P L K))∧Below w.heap.size w w':=by
 obtain ⟨v,hv,L0,nb⟩:=ze8 w 31 [.int .i64 now,.slice aT T.length cT,.slice aO O.length cO,.slice aP P.length cP,.slice aL L.length cL,.slice aK K.length cK,.int .i64 nx]
 have hlo:=(zbe h1).lo
 have hl0:=(zbe h1).tree.l0
 have h0O:0<O.length:=by omega
 have h0O':(0:Int)<(O.length:Int):=by omega
 clear hlo hl0
 obtain ⟨A,hA⟩:∃A,O[0].2.2.2=A:=⟨_,rfl⟩
 have HA:Hid (zdv O=A):=(zgh h0O).trans hA
 rw [HA.out] at h2
 obtain ⟨bo,oo,hao,hbo,-,-,-,qA⟩:=hO.at nb 0 h0O
 rw [hA,Nat.zero_mul,Nat.add_zero] at qA
 subst hao
 clear hA
 subst h2
 have HE:Hid (zcy A nx T O P L K=false):=zb1 (fun h=>by have q:=h.k1;omega)
 go_enter Tryz.func40,Tryz.ntmps40
 go_upto_region 1 with (fail)
 rw [←hv]
 clear hv
 have HS:Hid (∀x,Below v.heap.size v x→x.cell? ⟨w.heap.size,0,none⟩=some (.int .i64 A)∧x.cell? ⟨w.heap.size,1,none⟩=some (.slice aT T.length cT)∧x.cell? ⟨w.heap.size,2,none⟩=some (.slice (some ⟨bo,oo,none⟩) O.length cO)∧x.cell? ⟨w.heap.size,3,none⟩=some (.slice aP P.length cP)∧x.cell? ⟨w.heap.size,4,none⟩=some (.slice aL L.length cL)∧x.cell? ⟨w.heap.size,5,none⟩=some (.slice aK K.length cK)∧x.cell? ⟨w.heap.size,6,none⟩=some (.int .i64 nx)∧x.cell? ⟨bo,oo+3,none⟩=some (.int .i64 A)):=fun x hx=>⟨(L0.next hx).cell 0 _ rfl,(L0.next hx).cell 1 _ rfl,(L0.next hx).cell 2 _ rfl,(L0.next hx).cell 3 _ rfl,(L0.next hx).cell 4 _ rfl,(L0.next hx).cell 5 _ rfl,(L0.next hx).cell 6 _ rfl,(hx.cell (by exact Nat.lt_of_lt_of_le hbo nb.size)).trans qA⟩
 refine zce HS (Below.refl _ _).drew fun hS=>?_
 refine zab 0 rfl ?_
 refine zab 1 rfl ?_
 refine zci 2 rfl fun Kr hKr=>?_
 go_simp
 (refine (zch h0 _).mono ?_;rintro e w3 ⟨rfl,e3⟩;replace e3:=e3.symm;subst e3)
 refine hKr.out _ _ ‹_› fun _=>?_
 try simp only [nrm]
 refine zab 3 rfl ?_
 refine zab 4 rfl ?_
 refine zab 5 rfl ?_
 refine zab 6 rfl ?_
 refine zci 7 rfl fun Kr hKr=>?_
 go_simp
 (refine (zbg cT cO cP h1 (hT.here (nb.drew)) (hO.here (nb.drew)) (hP.here (nb.drew))).mono ?_;rintro e w5 ⟨rfl,hb5⟩;have hb5:=zbh hb5;have hS5:=HS.out _ hb5)
 refine hKr.out _ _ ‹_› fun _=>?_
 try simp only [nrm]
 refine zab 8 rfl ?_
 refine zab 9 rfl ?_
 refine zab 10 rfl ?_
 refine zab 11 rfl ?_
 refine zab 12 rfl ?_
 refine zab 13 rfl ?_
 refine zab 14 rfl ?_
 refine zab 15 rfl ?_
 refine zab 16 rfl ?_
 refine zab 17 rfl ?_
 refine zab 18 rfl ?_
 refine zab 19 rfl ?_
 refine zab 20 rfl ?_
 refine zab 21 rfl ?_
 refine zab 22 rfl ?_
 refine zab 23 rfl ?_
 refine zab 24 rfl ?_
 refine zab 25 rfl ?_
 refine zab 26 rfl ?_
 refine zab 27 rfl ?_
 refine zab 28 rfl ?_
 refine zab 29 rfl ?_
 refine zab 30 rfl ?_
 refine zab 31 rfl ?_
 refine zab 32 rfl ?_
 refine zab 33 rfl ?_
 refine zab 34 rfl ?_
 refine zab 35 rfl ?_
 refine zab 36 rfl ?_
 refine zab 37 rfl ?_
 refine zab 38 rfl ?_
 refine zab 39 rfl ?_
 refine zas 40 rfl ?_
 refine zas 41 rfl ?_
 refine zas 42 rfl ?_
 refine zas 43 rfl ?_
 refine zab 44 rfl ?_
 refine wpAnyH_done (by kernel_rfl) ?_ _
 go_wp2
 go_ret
 exact ⟨zeg HE.out.symm,zaa nb hb5⟩
theorem zry {w:World} (now nx:Int) {aT aO aP aL aK:Option Addr} (cT cO cP cL cK:Nat) {T O P:List Q4} {L:List F8} {K:List Kn} (hT:Quad w.heap.size w aT T) (hO:Quad w.heap.size w aO O) (hP:Quad w.heap.size w aP P) (hL:Fls w.heap.size w aL L) (hK:Kls w.heap.size w aK K) (mT:T.length≤1048576) (mL:L.length≤1048576) (mK:K.length≤1048576) (sK:∀c ∈ K,c.xs.length≤maxLen) (h0:zau now=true) (h1:zbf T O P=true) (h2:zdv O=now) (h3:¬((L.length:Int)<1)) (h4:¬(10<(L.length:Int))) (h5:¬(40<(K.length:Int))) (h6:inQ 0 nx 1000001=false) :
 Calls Tryz.prog 40 #[zcp now aT T.length cT aO O.length cO aP P.length cP aL L.length cL aK K.length cK nx] w fun e w'=>e=.returned (.bool (zcy now nx T O P L K))∧Below w.heap.size w w':=by
 obtain ⟨v,hv,L0,nb⟩:=ze8 w 31 [.int .i64 now,.slice aT T.length cT,.slice aO O.length cO,.slice aP P.length cP,.slice aL L.length cL,.slice aK K.length cK,.int .i64 nx]
 have hlo:=(zbe h1).lo
 have hl0:=(zbe h1).tree.l0
 have h0O:0<O.length:=by omega
 have h0O':(0:Int)<(O.length:Int):=by omega
 clear hlo hl0
 obtain ⟨A,hA⟩:∃A,O[0].2.2.2=A:=⟨_,rfl⟩
 have HA:Hid (zdv O=A):=(zgh h0O).trans hA
 rw [HA.out] at h2
 obtain ⟨bo,oo,hao,hbo,-,-,-,qA⟩:=hO.at nb 0 h0O
 rw [hA,Nat.zero_mul,Nat.add_zero] at qA
 subst hao
 clear hA
 subst h2
 have HE:Hid (zcy A nx T O P L K=false):=zb1 (fun h=>by have q:=h.nx';rw [h6] at q;cases q)
 go_enter Tryz.func40,Tryz.ntmps40
 go_upto_region 1 with (fail)
 rw [←hv]
 clear hv
 have HS:Hid (∀x,Below v.heap.size v x→x.cell? ⟨w.heap.size,0,none⟩=some (.int .i64 A)∧x.cell? ⟨w.heap.size,1,none⟩=some (.slice aT T.length cT)∧x.cell? ⟨w.heap.size,2,none⟩=some (.slice (some ⟨bo,oo,none⟩) O.length cO)∧x.cell? ⟨w.heap.size,3,none⟩=some (.slice aP P.length cP)∧x.cell? ⟨w.heap.size,4,none⟩=some (.slice aL L.length cL)∧x.cell? ⟨w.heap.size,5,none⟩=some (.slice aK K.length cK)∧x.cell? ⟨w.heap.size,6,none⟩=some (.int .i64 nx)∧x.cell? ⟨bo,oo+3,none⟩=some (.int .i64 A)):=fun x hx=>⟨(L0.next hx).cell 0 _ rfl,(L0.next hx).cell 1 _ rfl,(L0.next hx).cell 2 _ rfl,(L0.next hx).cell 3 _ rfl,(L0.next hx).cell 4 _ rfl,(L0.next hx).cell 5 _ rfl,(L0.next hx).cell 6 _ rfl,(hx.cell (by exact Nat.lt_of_lt_of_le hbo nb.size)).trans qA⟩
 refine zce HS (Below.refl _ _).drew fun hS=>?_
 refine zab 0 rfl ?_
 refine zab 1 rfl ?_
 refine zci 2 rfl fun Kr hKr=>?_
 go_simp
 (refine (zch h0 _).mono ?_;rintro e w3 ⟨rfl,e3⟩;replace e3:=e3.symm;subst e3)
 refine hKr.out _ _ ‹_› fun _=>?_
 try simp only [nrm]
 refine zab 3 rfl ?_
 refine zab 4 rfl ?_
 refine zab 5 rfl ?_
 refine zab 6 rfl ?_
 refine zci 7 rfl fun Kr hKr=>?_
 go_simp
 (refine (zbg cT cO cP h1 (hT.here (nb.drew)) (hO.here (nb.drew)) (hP.here (nb.drew))).mono ?_;rintro e w5 ⟨rfl,hb5⟩;have hb5:=zbh hb5;have hS5:=HS.out _ hb5)
 refine hKr.out _ _ ‹_› fun _=>?_
 try simp only [nrm]
 refine zab 8 rfl ?_
 refine zab 9 rfl ?_
 refine zab 10 rfl ?_
 refine zab 11 rfl ?_
 refine zab 12 rfl ?_
 refine zab 13 rfl ?_
 refine zab 14 rfl ?_
 refine zab 15 rfl ?_
 refine zab 16 rfl ?_
 refine zab 17 rfl ?_
 refine zab 18 rfl ?_
 refine zab 19 rfl ?_
 refine zab 20 rfl ?_
 refine zab 21 rfl ?_
 refine zab 22 rfl ?_
 refine zab 23 rfl ?_
 refine zab 24 rfl ?_
 refine zab 25 rfl ?_
 refine zab 26 rfl ?_
 refine zab 27 rfl ?_
 refine zab 28 rfl ?_
 refine zab 29 rfl ?_
 refine zab 30 rfl ?_
 refine zab 31 rfl ?_
 refine zab 32 rfl ?_
 refine zab 33 rfl ?_
 refine zab 34 rfl ?_
 refine zab 35 rfl ?_
 refine zab 36 rfl ?_
 refine zab 37 rfl ?_
 refine zab 38 rfl ?_
 refine zab 39 rfl ?_
 refine zab 40 rfl ?_
 refine zab 41 rfl ?_
 refine zci 42 rfl fun Kr hKr=>?_
 go_simp
 (refine (zbr h6 _).mono ?_;rintro e w3 ⟨rfl,e3⟩;replace e3:=e3.symm;subst e3)
 refine hKr.out _ _ ‹_› fun _=>?_
 try simp only [nrm]
 refine zab 43 rfl ?_
 refine zab 44 rfl ?_
 refine wpAnyH_done (by kernel_rfl) ?_ _
 go_wp2
 go_ret
 exact ⟨zeg HE.out.symm,zaa nb hb5⟩
theorem z1s {K:List Kn} (h:∀c ∈ K,0≤c.fl∧c.fl≤1000000000) (hl:K.length≤40):0≤flK K∧flK K≤1000000000*40:=by
 have:=zz9 h
 omega
theorem zu3 {w:World} (now nx:Int) {aT aO aP aL aK:Option Addr} (cT cO cP cL cK:Nat) {T O P:List Q4} {L:List F8} {K:List Kn} (hT:Quad w.heap.size w aT T) (hO:Quad w.heap.size w aO O) (hP:Quad w.heap.size w aP P) (hL:Fls w.heap.size w aL L) (hK:Kls w.heap.size w aK K) (mT:T.length≤1048576) (mL:L.length≤1048576) (mK:K.length≤1048576) (sK:∀c ∈ K,c.xs.length≤maxLen) (h0:zau now=true) (h1:zbf T O P=true) (h2:zdv O=now) (h3:¬((L.length:Int)<1)) (h4:¬(10<(L.length:Int))) (h5:¬(40<(K.length:Int))) (h6:inQ 0 nx 1000001=true) :
 Calls Tryz.prog 40 #[zcp now aT T.length cT aO O.length cO aP P.length cP aL L.length cL aK K.length cK nx] w fun e w'=>e=.returned (.bool (zcy now nx T O P L K))∧Below w.heap.size w w':=by
 obtain ⟨v,hv,L0,nb⟩:=ze8 w 31 [.int .i64 now,.slice aT T.length cT,.slice aO O.length cO,.slice aP P.length cP,.slice aL L.length cL,.slice aK K.length cK,.int .i64 nx]
 have hlo:=(zbe h1).lo
 have hl0:=(zbe h1).tree.l0
 have h0O:0<O.length:=by omega
 have h0O':(0:Int)<(O.length:Int):=by omega
 clear hlo hl0
 obtain ⟨A,hA⟩:∃A,O[0].2.2.2=A:=⟨_,rfl⟩
 have HA:Hid (zdv O=A):=(zgh h0O).trans hA
 rw [HA.out] at h2
 obtain ⟨bo,oo,hao,hbo,-,-,-,qA⟩:=hO.at nb 0 h0O
 rw [hA,Nat.zero_mul,Nat.add_zero] at qA
 subst hao
 clear hA
 subst h2
 obtain ⟨j0,hj,jz0,jz1,jz2⟩:=info_parts zg5
 have nL1:1≤L.length:=by omega
 have nL2:L.length≤10:=by omega
 have nK1:K.length≤40:=by omega
 go_enter Tryz.func40,Tryz.ntmps40
 go_upto_region 1 with (fail)
 rw [←hv]
 clear hv
 have HS:Hid (∀x,Below v.heap.size v x→x.cell? ⟨w.heap.size,0,none⟩=some (.int .i64 A)∧x.cell? ⟨w.heap.size,1,none⟩=some (.slice aT T.length cT)∧x.cell? ⟨w.heap.size,2,none⟩=some (.slice (some ⟨bo,oo,none⟩) O.length cO)∧x.cell? ⟨w.heap.size,3,none⟩=some (.slice aP P.length cP)∧x.cell? ⟨w.heap.size,4,none⟩=some (.slice aL L.length cL)∧x.cell? ⟨w.heap.size,5,none⟩=some (.slice aK K.length cK)∧x.cell? ⟨w.heap.size,6,none⟩=some (.int .i64 nx)∧x.cell? ⟨bo,oo+3,none⟩=some (.int .i64 A)):=fun x hx=>⟨(L0.next hx).cell 0 _ rfl,(L0.next hx).cell 1 _ rfl,(L0.next hx).cell 2 _ rfl,(L0.next hx).cell 3 _ rfl,(L0.next hx).cell 4 _ rfl,(L0.next hx).cell 5 _ rfl,(L0.next hx).cell 6 _ rfl,(hx.cell (by exact Nat.lt_of_lt_of_le hbo nb.size)).trans qA⟩
 refine zce HS (Below.refl _ _).drew fun hS=>?_
 refine zab 0 rfl ?_
 refine zab 1 rfl ?_
 refine zci 2 rfl fun Kr hKr=>?_
 go_simp
 (refine (zch h0 _).mono ?_;rintro e w3 ⟨rfl,e3⟩;replace e3:=e3.symm;subst e3)
 refine hKr.out _ _ ‹_› fun _=>?_
 try simp only [nrm]
 refine zab 3 rfl ?_
 refine zab 4 rfl ?_
 refine zab 5 rfl ?_
 refine zab 6 rfl ?_
 refine zci 7 rfl fun Kr hKr=>?_
 go_simp
 (refine (zbg cT cO cP h1 (hT.here (nb.drew)) (hO.here (nb.drew)) (hP.here (nb.drew))).mono ?_;rintro e w5 ⟨rfl,hb5⟩;have hb5:=zbh hb5;have hS5:=HS.out _ hb5)
 refine hKr.out _ _ ‹_› fun _=>?_
 try simp only [nrm]
 refine zab 8 rfl ?_
 refine zab 9 rfl ?_
 refine zab 10 rfl ?_
 refine zab 11 rfl ?_
 refine zab 12 rfl ?_
 refine zab 13 rfl ?_
 refine zab 14 rfl ?_
 refine zab 15 rfl ?_
 refine zab 16 rfl ?_
 refine zab 17 rfl ?_
 refine zab 18 rfl ?_
 refine zab 19 rfl ?_
 refine zab 20 rfl ?_
 refine zab 21 rfl ?_
 refine zab 22 rfl ?_
 refine zab 23 rfl ?_
 refine zab 24 rfl ?_
 refine zab 25 rfl ?_
 refine zab 26 rfl ?_
 refine zab 27 rfl ?_
 refine zab 28 rfl ?_
 refine zab 29 rfl ?_
 refine zab 30 rfl ?_
 refine zab 31 rfl ?_
 refine zab 32 rfl ?_
 refine zab 33 rfl ?_
 refine zab 34 rfl ?_
 refine zab 35 rfl ?_
 refine zab 36 rfl ?_
 refine zab 37 rfl ?_
 refine zab 38 rfl ?_
 refine zab 39 rfl ?_
 refine zab 40 rfl ?_
 refine zab 41 rfl ?_
 refine zci 42 rfl fun Kr hKr=>?_
 go_simp
 (refine (zbr h6 _).mono ?_;rintro e w3 ⟨rfl,e3⟩;replace e3:=e3.symm;subst e3)
 refine hKr.out _ _ ‹_› fun _=>?_
 try simp only [nrm]
 refine zab 43 rfl ?_
 refine zab 44 rfl ?_
 refine wpAnyH_done (by kernel_rfl) ?_ _
 go_wp2
 have L2:=L0.next hb5
 have bw5:=zaa nb hb5
 have H1:Hid (zbf T O P=true):=h1
 clear hS5 HS L0 nb hb5 qA h0O h0O' h3 h4 h5
 have hKi:(K.length:Int)≤40:=by omega
 have hLi:(L.length:Int)≤10:=by omega
 have zL:w.heap.size<w5.heap.size:=L2.lt
 go_loopw [3] (fun i wr=>∃k:Nat,i=.int .i64 k∧k≤K.length∧Hid (∀j (h:j<K.length),j<k→zei T L.length K[j]=true)∧Hid (∀j (h:j<K.length) (h':j+1<K.length),j+1<k→K[j].id<K[j+1].id)∧Below w5.heap.size w5 wr) (fun i _=>K.length-(intOf i).toNat)
 case atStart=>exact ⟨0,rfl,by omega,(fun j h k=>by omega),(fun j h h' k=>by omega),Below.refl _ _⟩
 case round =>
  obtain ⟨k,rfl,hk,HC,HR,hbr⟩:=hrel
  have M:=L2.next hbr
  have c5:wr.cell? ⟨w.heap.size,5,none⟩=some (.slice aK K.length cK):=M.cell 5 _ rfl
  have hbw:=zaa bw5 hbr
  by_cases hlt:k<K.length
  ·have hlt':(k:Int)<(K.length:Int):=by omega
   have hk0:(0:Int)≤(k:Int):=by omega
   obtain ⟨b,off,sa,sc,hak,hbl,d0,d13,sm⟩:=hK.at hbw k hlt
   subst hak
   obtain ⟨c,hc⟩:∃c,K[k]=c:=⟨_,rfl⟩
   have HX:Hid (K[k]=c):=hc
   have hxs:c.xs.length≤maxLen:=by rw [←hc];exact sK _ (List.getElem_mem hlt)
   rw [hc] at d0 d13 sm
   clear hc
   have hblr:b<wr.heap.size:=Nat.lt_of_lt_of_le hbl hbw.size
   cases h7:zei T L.length c
   ·have HE:Hid (zcy A nx T O P L K=false):=zb1 (fun h=>by have q:=h.con k hlt;rw [HX.out,h7] at q;cases q)
    have HS:Hid (∀x,Below wr.heap.size wr x→x.cell? ⟨w.heap.size,0,none⟩=some (.int .i64 A)∧x.cell? ⟨w.heap.size,1,none⟩=some (.slice aT T.length cT)∧x.cell? ⟨w.heap.size,2,none⟩=some (.slice (some ⟨bo,oo,none⟩) O.length cO)∧x.cell? ⟨w.heap.size,3,none⟩=some (.slice aP P.length cP)∧x.cell? ⟨w.heap.size,4,none⟩=some (.slice aL L.length cL)∧x.cell? ⟨w.heap.size,5,none⟩=some (.slice (some ⟨b,off,none⟩) K.length cK)∧x.cell? ⟨w.heap.size,6,none⟩=some (.int .i64 nx)∧x.cell? ⟨b,off+k*14,none⟩=some (.int .i64 c.id)∧x.cell? ⟨b,off+k*14+1,none⟩=some (.int .i64 c.lf)∧x.cell? ⟨b,off+k*14+2,none⟩=some (.int .i64 c.pl)∧x.cell? ⟨b,off+k*14+3,none⟩=some (.int .i64 c.k)∧x.cell? ⟨b,off+k*14+4,none⟩=some (.int .i64 c.wn)∧x.cell? ⟨b,off+k*14+5,none⟩=some (.int .i64 c.th)∧x.cell? ⟨b,off+k*14+6,none⟩=some (.int .i64 c.fl)∧x.cell? ⟨b,off+k*14+7,none⟩=some (.int .i64 c.ac)∧x.cell? ⟨b,off+k*14+8,none⟩=some (.int .i64 c.la)∧x.cell? ⟨b,off+k*14+9,none⟩=some (.int .i64 c.og)∧x.cell? ⟨b,off+k*14+10,none⟩=some (.int .i64 c.st)∧x.cell? ⟨b,off+k*14+11,none⟩=some (.int .i64 c.fr)∧x.cell? ⟨b,off+k*14+12,none⟩=some (.bool c.sl)∧x.cell? ⟨b,off+k*14+13,none⟩=some (.slice sa c.xs.length sc)):=fun x hx=>⟨(M.next hx).cell 0 _ rfl,(M.next hx).cell 1 _ rfl,(M.next hx).cell 2 _ rfl,(M.next hx).cell 3 _ rfl,(M.next hx).cell 4 _ rfl,(M.next hx).cell 5 _ rfl,(M.next hx).cell 6 _ rfl,(hx.cell (by exact hblr)).trans (d0 0 _ rfl),(hx.cell (by exact hblr)).trans (d0 1 _ rfl),(hx.cell (by exact hblr)).trans (d0 2 _ rfl),(hx.cell (by exact hblr)).trans (d0 3 _ rfl),(hx.cell (by exact hblr)).trans (d0 4 _ rfl),(hx.cell (by exact hblr)).trans (d0 5 _ rfl),(hx.cell (by exact hblr)).trans (d0 6 _ rfl),(hx.cell (by exact hblr)).trans (d0 7 _ rfl),(hx.cell (by exact hblr)).trans (d0 8 _ rfl),(hx.cell (by exact hblr)).trans (d0 9 _ rfl),(hx.cell (by exact hblr)).trans (d0 10 _ rfl),(hx.cell (by exact hblr)).trans (d0 11 _ rfl),(hx.cell (by exact hblr)).trans (d0 12 _ rfl),(hx.cell (by exact hblr)).trans d13⟩
    go_upto_region 6 with (fail)
    refine zce HS (Below.refl _ _).drew fun hS=>?_
    refine zab 0 rfl ?_
    refine zab 1 rfl ?_
    refine zab 2 rfl ?_
    refine zab 3 rfl ?_
    refine zab 4 rfl ?_
    refine zab 5 rfl ?_
    refine zci 6 rfl fun Kr hKr=>?_
    go_simp
    (refine (zfa (nL:=L.length) A nx c (hT.here (hbw.drew)) mT mL ((sm.up hbw.size).here (Below.refl _ _).drew) hxs).mono ?_;rw [h7];rintro e w7 ⟨rfl,hb7⟩;have hb7:=zbh hb7;have hS7:=HS.out _ hb7)
    refine hKr.out _ _ ‹_› fun _=>?_
    try simp only [nrm]
    refine zab 7 rfl ?_
    refine zab 8 rfl ?_
    refine zas 9 rfl ?_
    refine zas 10 rfl ?_
    refine zas 11 rfl ?_
    refine zas 12 rfl ?_
    refine zas 13 rfl ?_
    refine zas 14 rfl ?_
    refine zas 15 rfl ?_
    refine zas 16 rfl ?_
    refine zas 17 rfl ?_
    refine zas 18 rfl ?_
    refine zas 19 rfl ?_
    refine zas 20 rfl ?_
    refine zas 21 rfl ?_
    refine zas 22 rfl ?_
    refine zas 23 rfl ?_
    refine zas 24 rfl ?_
    refine zas 25 rfl ?_
    refine zas 26 rfl ?_
    refine zab 27 rfl ?_
    refine wpAnyH_done (by kernel_rfl) ?_ _
    go_wp2
    go_ret
    exact ⟨zeg HE.out.symm,zaa hbw hb7⟩
   have HC':Hid (∀j (h:j<K.length),j<k+1→zei T L.length K[j]=true):=fun j hj hjk=>by
    by_cases e:j=k
    ·subst e;rw [HX.out];exact h7
    ·exact HC.out j hj (by omega)
   by_cases hz:k=0
   ·subst hz
    have hz0:¬((0:Int)<((0:Nat):Int)):=by omega
    have HS:Hid (∀x,Below wr.heap.size wr x→x.cell? ⟨w.heap.size,0,none⟩=some (.int .i64 A)∧x.cell? ⟨w.heap.size,1,none⟩=some (.slice aT T.length cT)∧x.cell? ⟨w.heap.size,2,none⟩=some (.slice (some ⟨bo,oo,none⟩) O.length cO)∧x.cell? ⟨w.heap.size,3,none⟩=some (.slice aP P.length cP)∧x.cell? ⟨w.heap.size,4,none⟩=some (.slice aL L.length cL)∧x.cell? ⟨w.heap.size,5,none⟩=some (.slice (some ⟨b,off,none⟩) K.length cK)∧x.cell? ⟨w.heap.size,6,none⟩=some (.int .i64 nx)∧x.cell? ⟨b,off,none⟩=some (.int .i64 c.id)∧x.cell? ⟨b,off+1,none⟩=some (.int .i64 c.lf)∧x.cell? ⟨b,off+2,none⟩=some (.int .i64 c.pl)∧x.cell? ⟨b,off+3,none⟩=some (.int .i64 c.k)∧x.cell? ⟨b,off+4,none⟩=some (.int .i64 c.wn)∧x.cell? ⟨b,off+5,none⟩=some (.int .i64 c.th)∧x.cell? ⟨b,off+6,none⟩=some (.int .i64 c.fl)∧x.cell? ⟨b,off+7,none⟩=some (.int .i64 c.ac)∧x.cell? ⟨b,off+8,none⟩=some (.int .i64 c.la)∧x.cell? ⟨b,off+9,none⟩=some (.int .i64 c.og)∧x.cell? ⟨b,off+10,none⟩=some (.int .i64 c.st)∧x.cell? ⟨b,off+11,none⟩=some (.int .i64 c.fr)∧x.cell? ⟨b,off+12,none⟩=some (.bool c.sl)∧x.cell? ⟨b,off+13,none⟩=some (.slice sa c.xs.length sc)):=fun x hx=>⟨(M.next hx).cell 0 _ rfl,(M.next hx).cell 1 _ rfl,(M.next hx).cell 2 _ rfl,(M.next hx).cell 3 _ rfl,(M.next hx).cell 4 _ rfl,(M.next hx).cell 5 _ rfl,(M.next hx).cell 6 _ rfl,(hx.cell (by exact hblr)).trans (by have q:=d0 0 _ rfl;rw [Nat.zero_mul,Nat.add_zero] at q;exact q),(hx.cell (by exact hblr)).trans (by have q:=d0 1 _ rfl;rw [Nat.zero_mul,Nat.add_zero] at q;exact q),(hx.cell (by exact hblr)).trans (by have q:=d0 2 _ rfl;rw [Nat.zero_mul,Nat.add_zero] at q;exact q),(hx.cell (by exact hblr)).trans (by have q:=d0 3 _ rfl;rw [Nat.zero_mul,Nat.add_zero] at q;exact q),(hx.cell (by exact hblr)).trans (by have q:=d0 4 _ rfl;rw [Nat.zero_mul,Nat.add_zero] at q;exact q),(hx.cell (by exact hblr)).trans (by have q:=d0 5 _ rfl;rw [Nat.zero_mul,Nat.add_zero] at q;exact q),(hx.cell (by exact hblr)).trans (by have q:=d0 6 _ rfl;rw [Nat.zero_mul,Nat.add_zero] at q;exact q),(hx.cell (by exact hblr)).trans (by have q:=d0 7 _ rfl;rw [Nat.zero_mul,Nat.add_zero] at q;exact q),(hx.cell (by exact hblr)).trans (by have q:=d0 8 _ rfl;rw [Nat.zero_mul,Nat.add_zero] at q;exact q),(hx.cell (by exact hblr)).trans (by have q:=d0 9 _ rfl;rw [Nat.zero_mul,Nat.add_zero] at q;exact q),(hx.cell (by exact hblr)).trans (by have q:=d0 10 _ rfl;rw [Nat.zero_mul,Nat.add_zero] at q;exact q),(hx.cell (by exact hblr)).trans (by have q:=d0 11 _ rfl;rw [Nat.zero_mul,Nat.add_zero] at q;exact q),(hx.cell (by exact hblr)).trans (by have q:=d0 12 _ rfl;rw [Nat.zero_mul,Nat.add_zero] at q;exact q),(hx.cell (by exact hblr)).trans (by have q:=d13;rw [Nat.zero_mul,Nat.add_zero] at q;exact q)⟩
    go_upto_region 6 with (fail)
    refine zce HS (Below.refl _ _).drew fun hS=>?_
    refine zab 0 rfl ?_
    refine zab 1 rfl ?_
    refine zab 2 rfl ?_
    refine zab 3 rfl ?_
    refine zab 4 rfl ?_
    refine zab 5 rfl ?_
    refine zci 6 rfl fun Kr hKr=>?_
    go_simp
    (refine (zfa (nL:=L.length) A nx c (hT.here (hbw.drew)) mT mL ((sm.up hbw.size).here (Below.refl _ _).drew) hxs).mono ?_;rw [h7];rintro e w7 ⟨rfl,hb7⟩;have hb7:=zbh hb7;have hS7:=HS.out _ hb7)
    refine hKr.out _ _ ‹_› fun _=>?_
    try simp only [nrm]
    refine zab 7 rfl ?_
    refine zab 8 rfl ?_
    refine zab 9 rfl ?_
    refine zab 10 rfl ?_
    refine zab 11 rfl ?_
    refine zas 12 rfl ?_
    refine zas 13 rfl ?_
    refine zas 14 rfl ?_
    refine zas 15 rfl ?_
    refine zas 16 rfl ?_
    refine zas 17 rfl ?_
    refine zas 18 rfl ?_
    refine zas 19 rfl ?_
    refine zas 20 rfl ?_
    refine zas 21 rfl ?_
    refine zas 22 rfl ?_
    refine zas 23 rfl ?_
    refine zas 24 rfl ?_
    refine zas 25 rfl ?_
    refine zab 26 rfl ?_
    refine zab 27 rfl ?_
    refine wpAnyH_done (by kernel_rfl) ?_ _
    go_wp2
    go_roundw
    case rel=>exact ⟨1,by go_num,by omega,HC',(fun j h h' k=>by omega),zaa hbr hb7⟩
    case measure=>simp [intOf]<;>omega
   obtain ⟨l,hl⟩:∃l,k=l+1:=⟨k-1,by omega⟩
   have HL1:Hid (k=l+1):=hl
   have hl1:IntKind.i64.wrap ((k:Int)-1)=(l:Int):=by rw [IntKind.wrap_i64];omega
   have hl0:(0:Int)≤(l:Int):=by omega
   have hl3:(l:Int)<(K.length:Int):=by omega
   have hl4:(0:Int)<(k:Int):=by omega
   have hl4n:0<k:=by omega
   have hlk:l<K.length:=by omega
   clear hl hz
   obtain ⟨b',off',sa',sc',hak',_,f0,_,_⟩:=hK.at hbw l hlk
   injection hak' with hak'
   injection hak' with ek1 ek2
   subst ek1 ek2
   obtain ⟨z,hzz⟩:∃z,K[l].id=z:=⟨_,rfl⟩
   have HZ:Hid (K[l].id=z):=hzz
   have f0:wr.cell? ⟨b,off+l*14,none⟩=some (.int .i64 z):=by rw [←hzz];exact f0 0 _ rfl
   clear hzz
   by_cases h8:c.id≤z
   ·have HE:Hid (zcy A nx T O P L K=false):=zb1 (fun h=>by have q:=h.rise l hlk (by have:=HL1.out;omega);have e1:K[l+1]'(by have:=HL1.out;omega)=c:=(by have e:=HL1.out;subst e;exact HX.out);rw [e1,HZ.out] at q;omega)
    have HS:Hid (∀x,Below wr.heap.size wr x→x.cell? ⟨w.heap.size,0,none⟩=some (.int .i64 A)∧x.cell? ⟨w.heap.size,1,none⟩=some (.slice aT T.length cT)∧x.cell? ⟨w.heap.size,2,none⟩=some (.slice (some ⟨bo,oo,none⟩) O.length cO)∧x.cell? ⟨w.heap.size,3,none⟩=some (.slice aP P.length cP)∧x.cell? ⟨w.heap.size,4,none⟩=some (.slice aL L.length cL)∧x.cell? ⟨w.heap.size,5,none⟩=some (.slice (some ⟨b,off,none⟩) K.length cK)∧x.cell? ⟨w.heap.size,6,none⟩=some (.int .i64 nx)∧x.cell? ⟨b,off+k*14,none⟩=some (.int .i64 c.id)∧x.cell? ⟨b,off+k*14+1,none⟩=some (.int .i64 c.lf)∧x.cell? ⟨b,off+k*14+2,none⟩=some (.int .i64 c.pl)∧x.cell? ⟨b,off+k*14+3,none⟩=some (.int .i64 c.k)∧x.cell? ⟨b,off+k*14+4,none⟩=some (.int .i64 c.wn)∧x.cell? ⟨b,off+k*14+5,none⟩=some (.int .i64 c.th)∧x.cell? ⟨b,off+k*14+6,none⟩=some (.int .i64 c.fl)∧x.cell? ⟨b,off+k*14+7,none⟩=some (.int .i64 c.ac)∧x.cell? ⟨b,off+k*14+8,none⟩=some (.int .i64 c.la)∧x.cell? ⟨b,off+k*14+9,none⟩=some (.int .i64 c.og)∧x.cell? ⟨b,off+k*14+10,none⟩=some (.int .i64 c.st)∧x.cell? ⟨b,off+k*14+11,none⟩=some (.int .i64 c.fr)∧x.cell? ⟨b,off+k*14+12,none⟩=some (.bool c.sl)∧x.cell? ⟨b,off+k*14+13,none⟩=some (.slice sa c.xs.length sc)∧x.cell? ⟨b,off+l*14,none⟩=some (.int .i64 z)):=fun x hx=>⟨(M.next hx).cell 0 _ rfl,(M.next hx).cell 1 _ rfl,(M.next hx).cell 2 _ rfl,(M.next hx).cell 3 _ rfl,(M.next hx).cell 4 _ rfl,(M.next hx).cell 5 _ rfl,(M.next hx).cell 6 _ rfl,(hx.cell (by exact hblr)).trans (d0 0 _ rfl),(hx.cell (by exact hblr)).trans (d0 1 _ rfl),(hx.cell (by exact hblr)).trans (d0 2 _ rfl),(hx.cell (by exact hblr)).trans (d0 3 _ rfl),(hx.cell (by exact hblr)).trans (d0 4 _ rfl),(hx.cell (by exact hblr)).trans (d0 5 _ rfl),(hx.cell (by exact hblr)).trans (d0 6 _ rfl),(hx.cell (by exact hblr)).trans (d0 7 _ rfl),(hx.cell (by exact hblr)).trans (d0 8 _ rfl),(hx.cell (by exact hblr)).trans (d0 9 _ rfl),(hx.cell (by exact hblr)).trans (d0 10 _ rfl),(hx.cell (by exact hblr)).trans (d0 11 _ rfl),(hx.cell (by exact hblr)).trans (d0 12 _ rfl),(hx.cell (by exact hblr)).trans d13,(hx.cell (by exact hblr)).trans f0⟩
    go_upto_region 6 with (fail)
    refine zce HS (Below.refl _ _).drew fun hS=>?_
    refine zab 0 rfl ?_
    refine zab 1 rfl ?_
    refine zab 2 rfl ?_
    refine zab 3 rfl ?_
    refine zab 4 rfl ?_
    refine zab 5 rfl ?_
    refine zci 6 rfl fun Kr hKr=>?_
    go_simp
    (refine (zfa (nL:=L.length) A nx c (hT.here (hbw.drew)) mT mL ((sm.up hbw.size).here (Below.refl _ _).drew) hxs).mono ?_;rw [h7];rintro e w7 ⟨rfl,hb7⟩;have hb7:=zbh hb7;have hS7:=HS.out _ hb7)
    refine hKr.out _ _ ‹_› fun _=>?_
    try simp only [nrm]
    refine zab 7 rfl ?_
    refine zab 8 rfl ?_
    refine zab 9 rfl ?_
    refine zab 10 rfl ?_
    refine zab 11 rfl ?_
    refine zab 12 rfl ?_
    refine zab 13 rfl ?_
    refine zab 14 rfl ?_
    refine zab 15 rfl ?_
    refine zab 16 rfl ?_
    refine zab 17 rfl ?_
    refine zab 18 rfl ?_
    refine zab 19 rfl ?_
    refine zab 20 rfl ?_
    refine zab 21 rfl ?_
    refine zab 22 rfl ?_
    refine zab 23 rfl ?_
    refine zab 24 rfl ?_
    refine zab 25 rfl ?_
    refine zab 26 rfl ?_
    refine zab 27 rfl ?_
    refine wpAnyH_done (by kernel_rfl) ?_ _
    go_wp2
    go_ret
    exact ⟨zeg HE.out.symm,zaa hbw hb7⟩
   ·have HR':Hid (∀j (h:j<K.length) (h':j+1<K.length),j+1<k+1→K[j].id<K[j+1].id):=fun j hj hj' hjk=>by
     have e0:=HL1.out
     by_cases e:j=l
     ·subst e
      have e1:K[j+1]=c:=by subst e0;exact HX.out
      rw [e1,HZ.out]
      omega
     ·exact HR.out j hj hj' (by omega)
    have HS:Hid (∀x,Below wr.heap.size wr x→x.cell? ⟨w.heap.size,0,none⟩=some (.int .i64 A)∧x.cell? ⟨w.heap.size,1,none⟩=some (.slice aT T.length cT)∧x.cell? ⟨w.heap.size,2,none⟩=some (.slice (some ⟨bo,oo,none⟩) O.length cO)∧x.cell? ⟨w.heap.size,3,none⟩=some (.slice aP P.length cP)∧x.cell? ⟨w.heap.size,4,none⟩=some (.slice aL L.length cL)∧x.cell? ⟨w.heap.size,5,none⟩=some (.slice (some ⟨b,off,none⟩) K.length cK)∧x.cell? ⟨w.heap.size,6,none⟩=some (.int .i64 nx)∧x.cell? ⟨b,off+k*14,none⟩=some (.int .i64 c.id)∧x.cell? ⟨b,off+k*14+1,none⟩=some (.int .i64 c.lf)∧x.cell? ⟨b,off+k*14+2,none⟩=some (.int .i64 c.pl)∧x.cell? ⟨b,off+k*14+3,none⟩=some (.int .i64 c.k)∧x.cell? ⟨b,off+k*14+4,none⟩=some (.int .i64 c.wn)∧x.cell? ⟨b,off+k*14+5,none⟩=some (.int .i64 c.th)∧x.cell? ⟨b,off+k*14+6,none⟩=some (.int .i64 c.fl)∧x.cell? ⟨b,off+k*14+7,none⟩=some (.int .i64 c.ac)∧x.cell? ⟨b,off+k*14+8,none⟩=some (.int .i64 c.la)∧x.cell? ⟨b,off+k*14+9,none⟩=some (.int .i64 c.og)∧x.cell? ⟨b,off+k*14+10,none⟩=some (.int .i64 c.st)∧x.cell? ⟨b,off+k*14+11,none⟩=some (.int .i64 c.fr)∧x.cell? ⟨b,off+k*14+12,none⟩=some (.bool c.sl)∧x.cell? ⟨b,off+k*14+13,none⟩=some (.slice sa c.xs.length sc)∧x.cell? ⟨b,off+l*14,none⟩=some (.int .i64 z)):=fun x hx=>⟨(M.next hx).cell 0 _ rfl,(M.next hx).cell 1 _ rfl,(M.next hx).cell 2 _ rfl,(M.next hx).cell 3 _ rfl,(M.next hx).cell 4 _ rfl,(M.next hx).cell 5 _ rfl,(M.next hx).cell 6 _ rfl,(hx.cell (by exact hblr)).trans (d0 0 _ rfl),(hx.cell (by exact hblr)).trans (d0 1 _ rfl),(hx.cell (by exact hblr)).trans (d0 2 _ rfl),(hx.cell (by exact hblr)).trans (d0 3 _ rfl),(hx.cell (by exact hblr)).trans (d0 4 _ rfl),(hx.cell (by exact hblr)).trans (d0 5 _ rfl),(hx.cell (by exact hblr)).trans (d0 6 _ rfl),(hx.cell (by exact hblr)).trans (d0 7 _ rfl),(hx.cell (by exact hblr)).trans (d0 8 _ rfl),(hx.cell (by exact hblr)).trans (d0 9 _ rfl),(hx.cell (by exact hblr)).trans (d0 10 _ rfl),(hx.cell (by exact hblr)).trans (d0 11 _ rfl),(hx.cell (by exact hblr)).trans (d0 12 _ rfl),(hx.cell (by exact hblr)).trans d13,(hx.cell (by exact hblr)).trans f0⟩
    go_upto_region 6 with (fail)
    refine zce HS (Below.refl _ _).drew fun hS=>?_
    refine zab 0 rfl ?_
    refine zab 1 rfl ?_
    refine zab 2 rfl ?_
    refine zab 3 rfl ?_
    refine zab 4 rfl ?_
    refine zab 5 rfl ?_
    refine zci 6 rfl fun Kr hKr=>?_
    go_simp
    (refine (zfa (nL:=L.length) A nx c (hT.here (hbw.drew)) mT mL ((sm.up hbw.size).here (Below.refl _ _).drew) hxs).mono ?_;rw [h7];rintro e w7 ⟨rfl,hb7⟩;have hb7:=zbh hb7;have hS7:=HS.out _ hb7)
    refine hKr.out _ _ ‹_› fun _=>?_
    try simp only [nrm]
    refine zab 7 rfl ?_
    refine zab 8 rfl ?_
    refine zab 9 rfl ?_
    refine zab 10 rfl ?_
    refine zab 11 rfl ?_
    refine zab 12 rfl ?_
    refine zab 13 rfl ?_
    refine zab 14 rfl ?_
    refine zab 15 rfl ?_
    refine zab 16 rfl ?_
    refine zab 17 rfl ?_
    refine zab 18 rfl ?_
    refine zab 19 rfl ?_
    refine zab 20 rfl ?_
    refine zab 21 rfl ?_
    refine zab 22 rfl ?_
    refine zab 23 rfl ?_
    refine zab 24 rfl ?_
    refine zab 25 rfl ?_
    refine zab 26 rfl ?_
    refine zab 27 rfl ?_
    refine wpAnyH_done (by kernel_rfl) ?_ _
    go_wp2
    go_roundw
    case rel=>exact ⟨k+1,by go_num,by omega,HC',HR',zaa hbr hb7⟩
    case measure=>simp [intOf]<;>omega
  ·have e:k=K.length:=by omega
   subst e
   have HC1:Hid (∀j (h:j<K.length),zei T L.length K[j]=true):=fun j h=>HC.out j h h
   have HR1:Hid (∀j (h:j<K.length) (h':j+1<K.length),K[j].id<K[j+1].id):=fun j h h'=>HR.out j h h' h'
   clear HC HR
   go_wp2
   have HC2:Hid (∀c ∈ K,0≤c.fl∧c.fl≤1000000000):=fun c hc=>by
    obtain ⟨i,hi,rfl⟩:=List.mem_iff_getElem.1 hc
    exact zyf (HC1.out i hi)
   clear c5 hlt
   go_loopw [4] (fun i wq=>∃p:Nat,i=.int .i64 p∧p≤L.length∧Hid (∀q (h:q<L.length),q<p→plB L[q].1 L[q].2.1 L[q].2.2=true∧L[q].2.1=flK (atP K q)∧L[q].2.2=zf5 (atP K q))∧Below wr.heap.size wr wq) (fun i _=>L.length-(intOf i).toNat)
   case atStart=>exact ⟨0,rfl,by omega,(fun j h k=>by omega),Below.refl _ _⟩
   case round =>
    obtain ⟨p,rfl,hp,HP,hbr2⟩:=hrel
    have N:=M.next hbr2
    have hbx:=zaa hbw hbr2
    have c4:wr.cell? ⟨w.heap.size,4,none⟩=some (.slice aL L.length cL):=N.cell 4 _ rfl
    by_cases hlt:p<L.length
    ·have hlt':(p:Int)<(L.length:Int):=by omega
     have hp0:(0:Int)≤(p:Int):=by omega
     obtain ⟨b,off,sa,sc,hal,hbl,d0,d1,d2,sm⟩:=hL.at hbx p hlt
     subst hal
     obtain ⟨wd,fl,xs,hx⟩:∃wd fl xs,L[p]=(wd,fl,xs):=⟨_,_,_,rfl⟩
     have HX:Hid (L[p]=(wd,fl,xs)):=hx
     rw [hx] at d0 d1 d2 sm
     clear hx
     simp only at d0 d1 d2 sm
     cases h8:plB wd fl xs
     ·have HE:Hid (zcy A nx T O P L K=false):=zb1 (fun h=>by have q:=(h.pl p hlt).1;rw [HX.out] at q;simp only at q;rw [h8] at q;cases q)
      go_wp2_with (first|(go_at_call 96;refine (ze1 sc (sm.up hbx.size)).mono ?_;rw [h8];rintro e w8 ⟨rfl,hb8⟩))
      go_ret
      exact ⟨zeg HE.out.symm,zaa hbx hb8⟩
     have hxl:xs.length≤50:=(zm0 h8).2.2.1
     have hfl:0≤fl∧fl≤1000000000:=by
      have q:=(zm0 h8).2.1
      unfold zf4 at q
      simp only [Bool.and_eq_true,decide_eq_true_eq] at q
      exact q
     have hbz:b<wr.heap.size:=Nat.lt_of_lt_of_le hbl hbx.size
     go_wp2_with (first|(go_at_call 96;refine (ze1 sc (sm.up hbx.size)).mono ?_;rw [h8];rintro e w8 ⟨rfl,hb8⟩))
     have N8:=N.next hb8
     have hb8w:=zaa hbx hb8
     have z8:=hb8w.size
     have e1:=(hb8.cell (p:=⟨b,off+p*3+1,none⟩) hbz).trans d1
     have e2:=(hb8.cell (p:=⟨b,off+p*3+2,none⟩) hbz).trans d2
     have hbz8:b<w8.heap.size:=Nat.lt_of_lt_of_le hbz hb8.size
     have sm8:=sm.mono (hb8.mono hbx.size)
     clear d0 d1 d2 c4 sm
     go_loopw [5,6,7] (fun s5 s6 s7 wq=>∃k:Nat,s7=.int .i64 k∧k≤K.length∧s6=.int .i64 (flK (atP (K.take k) p))∧Hid (wq.ownsRow w8.heap.size 2 1 s5 (atP (K.take k) p).length (za7 (zf5 (atP (K.take k) p))))∧Below w8.heap.size w8 wq) (fun _ _ s7 _=>K.length-(intOf s7).toNat)
     case atStart=>exact ⟨0,rfl,by omega,rfl,zea w8 w8.heap.size _ rfl (Nat.le_refl _) _,by go_grown⟩
     case round =>
      obtain ⟨k,rfl,hk,rfl,HO,hbr3⟩:=hrel
      have Q:=N8.next hbr3
      have hby:=zaa hb8w hbr3
      have zy:=hby.size
      have z3:=hbr3.size
      have c5:wr.cell? ⟨w.heap.size,5,none⟩=some (.slice aK K.length cK):=Q.cell 5 _ rfl
      obtain ⟨av,cv,hsv⟩:=zay HO.out
      subst hsv
      by_cases hltk:k<K.length
      ·have hlt2:(k:Int)<(K.length:Int):=by omega
       obtain ⟨bk,offk,sak,sck,hak,hbk,f0,-,-⟩:=hK k hltk
       subst hak
       obtain ⟨c,hc⟩:∃c,K[k]=c:=⟨_,rfl⟩
       have HX2:Hid (K[k]=c):=hc
       rw [hc] at f0
       clear hc
       have i0:w.cell? ⟨bk,offk+k*14,none⟩=some (.int .i64 c.id):=f0 0 _ rfl
       have i2:w.cell? ⟨bk,offk+k*14+2,none⟩=some (.int .i64 c.pl):=f0 2 _ rfl
       have i6:w.cell? ⟨bk,offk+k*14+6,none⟩=some (.int .i64 c.fl):=f0 6 _ rfl
       have g0:=(hby.cell (p:=⟨bk,offk+k*14,none⟩) hbk).trans i0
       have g2:=(hby.cell (p:=⟨bk,offk+k*14+2,none⟩) hbk).trans i2
       have HI6:Hid (w.cell? ⟨bk,offk+k*14+6,none⟩=some (.int .i64 c.fl)):=i6
       clear i0 i2 i6
       clear f0
       obtain ⟨s,hs⟩:∃s,flK (atP (K.take k) p)=s:=⟨_,rfl⟩
       have HSS:Hid (flK (atP (K.take k) p)=s):=hs
       rw [hs]
       by_cases hpl:c.pl=p
       ·have HA1:Hid (atP (K.take (k+1)) p=atP (K.take k) p ++ [c]):=by
         have q:=z07 hltk (p:=(p:Int)) (by rw [HX2.out];exact hpl)
         rw [HX2.out] at q
         exact q
        have HNL:Hid ((atP (K.take k) p).length≤40):=by
         have q:=zs9 (K.take k) p
         rw [List.length_take] at q
         show _≤40
         omega
        have hs1:0≤s∧s≤1000000000*40:=by
         have q:=z1s (K:=atP (K.take k) p) (fun x hx=>HC2.out x (List.mem_of_mem_take (List.mem_filter.1 hx).1)) HNL.out
         rw [hs] at q
         exact q
        have hc1:0≤c.fl∧c.fl≤1000000000:=by
         have q:=HC2.out K[k] (List.getElem_mem hltk)
         rw [HX2.out] at q
         exact q
        have hwr:IntKind.i64.wrap (s+c.fl)=s+c.fl:=by rw [IntKind.wrap_i64];omega
        clear hs hs1 hc1
        rw [hpl] at g2
        clear hpl
        have HOn:=HO.out
        obtain ⟨n,hn⟩:∃n,(atP (K.take k) p).length=n:=⟨_,rfl⟩
        have HN1:Hid ((atP (K.take k) p).length=n):=hn
        have hn40:n≤40:=by rw [←hn];exact HNL.out
        rw [hn] at HOn
        rw [hn]
        clear hn
        go_wp2_with (first
         | (at_builtin;refine wpList_append_own _ rfl _ _ 45 rfl w8.heap.size 2 j0 _ 1 8 Tryz.underlying45 hj jz0 jz1 jz2 rfl (by decide) _ _ _ rfl (HOn.alloc _) ⟨wr.heap.size,0,none⟩ 1 1 [.int .i64 c.id] rfl rfl ?c1 ?c2 ?c3 ?c4 ?c5 ?c6;rotate_left 5;intro v' w' hown' hgr hnil;have hb2:=zig hbr3 hgr (fun g hg=>(HOn.lt g hg).1);have r5:w'.cell? ⟨w.heap.size,5,none⟩=some (.slice (some ⟨bk,offk,none⟩) K.length cK):=(N8.next hb2).cell 5 _ rfl;have r6:=((zaa hb8w hb2).cell (p:=⟨bk,offk+k*14+6,none⟩) hbk).trans HI6.out))
        case c1=>exact zeo (by go_simp)
        case c2=>exact zdk [c.id]
        case c3=>unfold maxLen;omega
        case c4=>omega
        case c5=>simp;omega
        go_roundw
        case rel=>exact ⟨k+1,by go_num,by omega,by rw [HA1.out,zhb,HSS.out];simp [flK],by rw [HA1.out,zgg,zbq,List.length_append,HN1.out];exact hown',hb2⟩
        case measure=>simp [intOf]<;>omega
       ·have HA1:Hid (atP (K.take (k+1)) p=atP (K.take k) p):=atP_no hltk (p:=(p:Int)) (by rw [HX2.out];exact hpl)
        have hpl':(c.pl == (p:Int))=false:=by simp [hpl]
        clear hs
        go_wp2
        go_roundw
        case rel=>exact ⟨k+1,by go_num,by omega,by rw [HA1.out,HSS.out],by rw [HA1.out];exact HO.out,hbr3⟩
        case measure=>simp [intOf]<;>omega
      ·have e:k=K.length:=by omega
       subst e
       have HO2:Hid (wr.ownsRow w8.heap.size 2 1 (.slice av (atP (K.take K.length) p).length cv) (atP K p).length (za7 (zf5 (atP K p)))):=by
        have q:=HO.out
        rw [List.take_length] at q ⊢
        exact q
       rw [List.take_length]
       rw [List.take_length] at HO2
       clear HO
       have hys:Hid (ISmp wr.heap.size wr av (zf5 (atP K p))):=by
        have q:=HO2.out
        rw [show (atP K p).length=(zf5 (atP K p)).length from (zbo _).symm] at q
        exact zwz (zdc q)
       clear HO2
       obtain ⟨ys,hyy⟩:∃ys,zf5 (atP K p)=ys:=⟨_,rfl⟩
       obtain ⟨n,hn⟩:∃n,(atP K p).length=n:=⟨_,rfl⟩
       obtain ⟨s,hs⟩:∃s,flK (atP K p)=s:=⟨_,rfl⟩
       have HYN:Hid (ys.length=n):=by rw [←hyy,zbo];exact hn
       have HYS:Hid (zf5 (atP K p)=ys):=hyy
       have HSS:Hid (flK (atP K p)=s):=hs
       rw [hyy] at hys
       rw [hn,hs]
       clear hyy hn hs
       have r4:wr.cell? ⟨w.heap.size,4,none⟩=some (.slice (some ⟨b,off,none⟩) L.length cL):=Q.cell 4 _ rfl
       have r1:=(hbr3.cell (p:=⟨b,off+p*3+1,none⟩) hbz8).trans e1
       have r2:=(hbr3.cell (p:=⟨b,off+p*3+2,none⟩) hbz8).trans e2
       by_cases hn2:n=xs.length
       rotate_left
       ·have HE:Hid (zcy A nx T O P L K=false):=zb1 (fun h=>by have q:=(h.pl p hlt).2.2;rw [HX.out,HYS.out] at q;simp only at q;rw [←HYN.out,←q] at hn2;exact hn2 rfl)
        have hn':((n:Int) == (xs.length:Int))=false:=by rw [beq_eq_false_iff_ne];omega
        clear hn2
        go_wp2
        go_ret
        exact ⟨zeg HE.out.symm,hby⟩
       subst hn2
       by_cases hs2:s=fl
       rotate_left
       ·have HE:Hid (zcy A nx T O P L K=false):=zb1 (fun h=>by have q:=(h.pl p hlt).2.1;rw [HX.out,HSS.out] at q;simp only at q;exact hs2 q.symm)
        have hs':(s == fl)=false:=by simp [hs2]
        clear hs2
        go_wp2
        go_ret
        exact ⟨zeg HE.out.symm,hby⟩
       subst hs2
       have hxi:(xs.length:Int)≤50:=by omega
       go_wp2
       go_loopw [9] (fun z wq=>∃j:Nat,z=.int .i64 j∧j≤xs.length∧Hid (∀i (h:i<ys.length) (h':i<xs.length),i<j→ys[i]=xs[i])∧Below wr.heap.size wr wq) (fun z _=>xs.length-(intOf z).toNat)
       case atStart=>exact ⟨0,rfl,by omega,(fun i h h' k=>by omega),Below.refl _ _⟩
       case round =>
        obtain ⟨j,rfl,hjj,HJ,hbr4⟩:=hrel
        have hb84:=zaa hbr3 hbr4
        by_cases hltj:j<xs.length
        ·have hltj':(j:Int)<(xs.length:Int):=by omega
         have hjy:j<ys.length:=by have:=HYN.out;omega
         obtain ⟨b1,o1,hak,hb1,c0⟩:=hys.out.at hbr4 j hjy
         obtain ⟨b2,o2,hak2,hb2,c1⟩:=(sm8.up z8).at hb84 j hltj
         subst hak hak2
         obtain ⟨x,hx⟩:∃x,ys[j]=x:=⟨_,rfl⟩
         obtain ⟨y,hy⟩:∃y,xs[j]=y:=⟨_,rfl⟩
         have HX3:Hid (ys[j]=x):=hx
         have HY3:Hid (xs[j]=y):=hy
         rw [hx] at c0
         rw [hy] at c1
         clear hx hy
         by_cases he:x=y
         ·subst he
          go_wp2
          go_quiet (fail)
          go_wp2
          go_roundw
          case rel =>
           refine ⟨j+1,by go_num,by omega,fun i hi hi' hij=>?_,zam hbr4 _⟩
           by_cases e:i=j
           ·subst e;rw [HX3.out,HY3.out]
           ·exact HJ.out i hi hi' (by omega)
          case measure=>simp [intOf]<;>omega
         ·have he':(x == y)=false:=by simp [he]
          have HE:Hid (zcy A nx T O P L K=false):=zb1 (fun h=>by
           have q:=(h.pl p hlt).2.2
           rw [HX.out,HYS.out] at q
           simp only at q
           have q2:xs[j]?=ys[j]?:=by rw [q]
           rw [List.getElem?_eq_getElem hltj,List.getElem?_eq_getElem hjy,HX3.out,HY3.out] at q2
           exact he (Option.some.inj q2).symm)
          clear he
          go_wp2
          go_quiet (fail)
          go_wp2
          go_ret
          exact ⟨zeg HE.out.symm,zam (zaa hb8w hb84) _⟩
        ·have e:j=xs.length:=by omega
         subst e
         have HP2:Hid (∀q (h:q<L.length),q<p+1→plB L[q].1 L[q].2.1 L[q].2.2=true∧L[q].2.1=flK (atP K q)∧L[q].2.2=zf5 (atP K q)):=fun q hq hqp=>by
          by_cases e:q=p
          ·subst e
           rw [HX.out,HSS.out,HYS.out]
           exact ⟨h8,rfl,(List.ext_getElem HYN.out.symm (fun i h1 h2=>(HJ.out i h2 h1 h1).symm))⟩
          ·exact HP.out q hq (by omega)
         go_wp2
         go_roundw
         case rel=>exact ⟨p+1,by go_num,by omega,HP2,zaa hbr2 (zaa hb8 hb84)⟩
         case measure=>simp [intOf]<;>omega
    ·have e:p=L.length:=by omega
     subst e
     have HE:Hid (zcy A nx T O P L K=true):=zfl ⟨H1.out,HA.out,h6,nL1,nL2,nK1,HC1.out,HR1.out,fun q hq=>HP.out q hq hq⟩
     go_wp2
     go_ret
     exact ⟨zeg HE.out.symm,hbx⟩
theorem zkj {w:World} (now nx:Int) {aT aO aP aL aK:Option Addr} (cT cO cP cL cK:Nat) {T O P:List Q4} {L:List F8} {K:List Kn} (hT:Quad w.heap.size w aT T) (hO:Quad w.heap.size w aO O) (hP:Quad w.heap.size w aP P) (hL:Fls w.heap.size w aL L) (hK:Kls w.heap.size w aK K) (mT:T.length≤1048576) (mL:L.length≤1048576) (mK:K.length≤1048576) (sK:∀c ∈ K,c.xs.length≤maxLen) :
 Calls Tryz.prog 40 #[zcp now aT T.length cT aO O.length cO aP P.length cP aL L.length cL aK K.length cK nx] w fun e w'=>e=.returned (.bool (zcy now nx T O P L K))∧Below w.heap.size w w':=by
 cases h0:zau now
 ·exact zrs now nx cT cO cP cL cK hT hO hP hL hK mT mL mK sK h0
 cases h1:zbf T O P
 ·exact zrt now nx cT cO cP cL cK hT hO hP hL hK mT mL mK sK h0 h1
 by_cases h2:zdv O=now
 rotate_left
 ·exact zru now nx cT cO cP cL cK hT hO hP hL hK mT mL mK sK h0 h1 h2
 by_cases h3:(L.length:Int)<1
 ·exact zrv now nx cT cO cP cL cK hT hO hP hL hK mT mL mK sK h0 h1 h2 h3
 by_cases h4:10<(L.length:Int)
 ·exact zrw now nx cT cO cP cL cK hT hO hP hL hK mT mL mK sK h0 h1 h2 h3 h4
 by_cases h5:40<(K.length:Int)
 ·exact zrx now nx cT cO cP cL cK hT hO hP hL hK mT mL mK sK h0 h1 h2 h3 h4 h5
 cases h6:inQ 0 nx 1000001
 ·exact zry now nx cT cO cP cL cK hT hO hP hL hK mT mL mK sK h0 h1 h2 h3 h4 h5 h6
 exact zu3 now nx cT cO cP cL cK hT hO hP hL hK mT mL mK sK h0 h1 h2 h3 h4 h5 h6
theorem za1 {w:World} {now nx:Int} {aT aO aP aL aK:Option Addr} (cT cO cP cL cK:Nat) {T O P:List Q4} {L:List F8} {K:List Kn} {f:Bool} (hf:zcy now nx T O P L K=f) (hT:Quad w.heap.size w aT T) (hO:Quad w.heap.size w aO O) (hP:Quad w.heap.size w aP P) (hL:Fls w.heap.size w aL L) (hK:Kls w.heap.size w aK K) (mT:T.length≤1048576) (mL:L.length≤1048576) (mK:K.length≤1048576) (sK:∀c ∈ K,c.xs.length≤maxLen) :
 Calls Tryz.prog 40 #[zcp now aT T.length cT aO O.length cO aP P.length cP aL L.length cL aK K.length cK nx] w fun e w'=>e=.returned (.bool (f))∧Below w.heap.size w w':=by subst hf;exact zkj now nx cT cO cP cL cK hT hO hP hL hK mT mL mK sK
theorem zmj {w:World} {aT:Option Addr} (cT:Nat) {T:List Q4} (n:Int) (hT:Quad w.heap.size w aT T) (h1:za8 T 0=false):Calls Tryz.prog 141 #[.slice aT T.length cT,.int .i64 n] w (zbx w 0 0 [] [] [] [] [] (.bool false)):=by
 have nb:Below w.heap.size w (w.alloc (.cells #[.int .i64 0,.slice none 0 0,.slice none 0 0,.slice none 0 0,.slice none 0 0,.slice none 0 0,.int .i64 0] 31)):=zac _ _
 have L0:Lay (w.alloc (.cells #[.int .i64 0,.slice none 0 0,.slice none 0 0,.slice none 0 0,.slice none 0 0,.slice none 0 0,.int .i64 0] 31)) w.heap.size [.int .i64 0,.slice none 0 0,.slice none 0 0,.slice none 0 0,.slice none 0 0,.slice none 0 0,.int .i64 0]:=zbs [.int .i64 0,.slice none 0 0,.slice none 0 0,.slice none 0 0,.slice none 0 0,.slice none 0 0,.int .i64 0] _ rfl
 go_enter Tryz.func141,Tryz.ntmps141
 go_upto_region 3 with (first|(go_at_call 171;refine (ze5 cT 0 (hT.here nb)).mono ?_;rintro e w2 ⟨a1,n1,c1,a2,n2,c2,a3,n3,c3,rfl,lv,hb2⟩;rw [h1]))
 obtain ⟨x,hx⟩:∃x,x=w2.alloc (.cells #[.slice a1 n1 c1,.slice a2 n2 c2,.slice a3 n3 c3] 27):=⟨_,rfl⟩
 rw [←hx]
 have bx:Below w2.heap.size w2 x:=by rw [hx];exact zac _ _
 clear hx
 have LX:=(L0.next hb2).next bx
 obtain ⟨z0,z1,z2,z3,z4,z5,z6⟩:=Lay.c7 (b:=w.heap.size) LX
 have fz:=LX.free
 go_wp2
 obtain ⟨u,hu',ou,U⟩:=st7 (b:=w.heap.size) LX (.int .i64 0) (.slice none 0 0) (.slice none 0 0) (.slice none 0 0) (.slice none 0 0) (.slice none 0 0) (.int .i64 0)
 rw [hu']
 clear hu'
 have bw:=zaa (zaa nb hb2) bx
 have zw:=bw.size
 have zu:=ou.size
 refine bodyPost_ret (zak rfl _ _ _ _ rfl U.cell Tryz.underlying31 rfl (by kernel_rfl)) rfl ?_
 exact ⟨_,_,_,_,_,_,_,_,_,_,rfl,zkp (by omega) (Nat.le_refl _),bw.trans (ou.below (Nat.le_refl _) bw.size)⟩
theorem zmk {w:World} {aT:Option Addr} (cT:Nat) {T:List Q4} (n:Int) (hT:Quad w.heap.size w aT T) (h1:za8 T 0=true) (h2:inQ 1 n 10=false):Calls Tryz.prog 141 #[.slice aT T.length cT,.int .i64 n] w (zbx w 0 0 [] [] [] [] [] (.bool false)):=by
 have nb:Below w.heap.size w (w.alloc (.cells #[.int .i64 0,.slice none 0 0,.slice none 0 0,.slice none 0 0,.slice none 0 0,.slice none 0 0,.int .i64 0] 31)):=zac _ _
 have L0:Lay (w.alloc (.cells #[.int .i64 0,.slice none 0 0,.slice none 0 0,.slice none 0 0,.slice none 0 0,.slice none 0 0,.int .i64 0] 31)) w.heap.size [.int .i64 0,.slice none 0 0,.slice none 0 0,.slice none 0 0,.slice none 0 0,.slice none 0 0,.int .i64 0]:=zbs [.int .i64 0,.slice none 0 0,.slice none 0 0,.slice none 0 0,.slice none 0 0,.slice none 0 0,.int .i64 0] _ rfl
 go_enter Tryz.func141,Tryz.ntmps141
 go_upto_region 3 with (first|(go_at_call 171;refine (ze5 cT 0 (hT.here nb)).mono ?_;rintro e w2 ⟨a1,n1,c1,a2,n2,c2,a3,n3,c3,rfl,lv,hb2⟩;rw [h1])|(go_at_call 48;refine (zbr h2 _).mono ?_;rintro e w3 ⟨rfl,e3⟩;replace e3:=e3.symm;subst e3))
 obtain ⟨x,hx⟩:∃x,x=w2.alloc (.cells #[.slice a1 n1 c1,.slice a2 n2 c2,.slice a3 n3 c3] 27):=⟨_,rfl⟩
 rw [←hx]
 have bx:Below w2.heap.size w2 x:=by rw [hx];exact zac _ _
 clear hx
 have LX:=(L0.next hb2).next bx
 obtain ⟨z0,z1,z2,z3,z4,z5,z6⟩:=Lay.c7 (b:=w.heap.size) LX
 have fz:=LX.free
 go_wp2
 obtain ⟨u,hu',ou,U⟩:=st7 (b:=w.heap.size) LX (.int .i64 0) (.slice none 0 0) (.slice none 0 0) (.slice none 0 0) (.slice none 0 0) (.slice none 0 0) (.int .i64 0)
 rw [hu']
 clear hu'
 have bw:=zaa (zaa nb hb2) bx
 have zw:=bw.size
 have zu:=ou.size
 refine bodyPost_ret (zak rfl _ _ _ _ rfl U.cell Tryz.underlying31 rfl (by kernel_rfl)) rfl ?_
 exact ⟨_,_,_,_,_,_,_,_,_,_,rfl,zkp (by omega) (Nat.le_refl _),bw.trans (ou.below (Nat.le_refl _) bw.size)⟩
theorem zn5 {w:World} {aT:Option Addr} (cT:Nat) {T:List Q4} (n:Nat) (hT:Quad w.heap.size w aT T) (h1:za8 T 0=true) (h2:inQ 1 (n:Int) 10=true):Calls Tryz.prog 141 #[.slice aT T.length cT,.int .i64 (n:Int)] w (zbx w 0 0 (zwd T 0) (zwe T 0) (zwf T 0) (List.replicate n zuu) [] (.bool true)):=by
 obtain ⟨j0,hj,jz0,jz1,jz2⟩:=info_parts zi5
 have hn:1≤n∧n≤10:=by
  unfold inQ at h2
  simp only [Bool.and_eq_true,decide_eq_true_eq] at h2
  omega
 have nb:Below w.heap.size w (w.alloc (.cells #[.int .i64 0,.slice none 0 0,.slice none 0 0,.slice none 0 0,.slice none 0 0,.slice none 0 0,.int .i64 0] 31)):=zac _ _
 have L0:Lay (w.alloc (.cells #[.int .i64 0,.slice none 0 0,.slice none 0 0,.slice none 0 0,.slice none 0 0,.slice none 0 0,.int .i64 0] 31)) w.heap.size [.int .i64 0,.slice none 0 0,.slice none 0 0,.slice none 0 0,.slice none 0 0,.slice none 0 0,.int .i64 0]:=zbs [.int .i64 0,.slice none 0 0,.slice none 0 0,.slice none 0 0,.slice none 0 0,.slice none 0 0,.int .i64 0] _ rfl
 go_enter Tryz.func141,Tryz.ntmps141
 go_upto_region 4 with (first|(go_at_call 171;refine (ze5 cT 0 (hT.here nb)).mono ?_;rintro e w2 ⟨a1,n1,c1,a2,n2,c2,a3,n3,c3,rfl,lv,hb2⟩;rw [h1])|(go_at_call 48;refine (zbr h2 _).mono ?_;rintro e w3 ⟨rfl,e3⟩;replace e3:=e3.symm;subst e3))
 obtain ⟨x,hx⟩:∃x,x=w2.alloc (.cells #[.slice a1 n1 c1,.slice a2 n2 c2,.slice a3 n3 c3] 27):=⟨_,rfl⟩
 rw [←hx]
 have bx:Below w2.heap.size w2 x:=by rw [hx];exact zac _ _
 have lx0:x.cell? ⟨w2.heap.size,0,none⟩=some (.slice a1 n1 c1):=by rw [hx];go_simp
 have lx1:x.cell? ⟨w2.heap.size,1,none⟩=some (.slice a2 n2 c2):=by rw [hx];go_simp
 have lx2:x.cell? ⟨w2.heap.size,2,none⟩=some (.slice a3 n3 c3):=by rw [hx];go_simp
 clear hx
 have LX:=(L0.next hb2).next bx
 have bw:=zaa (zaa nb hb2) bx
 have lvx:=lv.next bx
 have LVB:Hid (∀b,inL (.slice a1 n1 c1) (.slice a2 n2 c2) (.slice a3 n3 c3) b→b<w2.heap.size):=fun b hb=>(lv.lo hb).2
 have z2:=hb2.size
 have zx:=bx.size
 have znb:w.heap.size<(w.alloc (.cells #[.int .i64 0,.slice none 0 0,.slice none 0 0,.slice none 0 0,.slice none 0 0,.slice none 0 0,.int .i64 0] 31)).heap.size:=by simp
 have hg4:w.heap.size<x.heap.size:=LX.lt
 clear L0 lv
 go_wp2
 clear lx0 lx1 lx2
 obtain ⟨y,hy⟩:∃y,y=x.alloc (.cells #[.int .i64 0,.slice a1 n1 c1,.slice a2 n2 c2,.slice a3 n3 c3,.slice none 0 0,.slice none 0 0,.int .i64 0] 31):=⟨_,rfl⟩
 obtain ⟨g,hg⟩:∃g,x.heap.size=g:=⟨_,rfl⟩
 rw [←hy]
 have LY:Lay y g [.int .i64 0,.slice a1 n1 c1,.slice a2 n2 c2,.slice a3 n3 c3,.slice none 0 0,.slice none 0 0,.int .i64 0]:=by rw [hy];exact zbs _ _ hg.symm
 have by':Below x.heap.size x y:=by rw [hy];exact zac _ _
 have hgy:g+1=y.heap.size:=by rw [hy,←hg];simp
 simp only [hg]
 clear hy
 have HGY:Hid (g+1=y.heap.size∧x.heap.size=g):=⟨hgy,hg⟩
 clear hgy hg
 go_loopw [1] (fun s wr=>∃(k:Nat) (av:Option Addr) (cv:Nat),s=.int .i64 ((n-k:Nat):Int)∧k≤n∧Hid (Lay wr g [.int .i64 0,.slice a1 n1 c1,.slice a2 n2 c2,.slice a3 n3 c3,.slice av k cv,.slice none 0 0,.int .i64 0])∧Hid (wr.ownsRow y.heap.size 50 3 (.slice av k cv) k (zdw (List.replicate k z1m)))∧OnlyO (some g) y wr) (fun s _=>(intOf s).toNat)
 case atStart=>exact ⟨0,none,0,rfl,by omega,LY,⟨rfl,.inl ⟨rfl,rfl⟩⟩,OnlyO.of_below (Below.refl _ _)⟩
 case round =>
  obtain ⟨k,av,cv,rfl,hk,HL,HO,ho⟩:=hrel
  have zr:=ho.size
  have hgr:g<wr.heap.size:=HL.out.lt
  by_cases hlt:k<n
  ·have hp:(0:Int)<((n-k:Nat):Int):=by omega
   have hp':0<n-k:=by omega
   have hkn:k<n:=hlt
   have hw1:IntKind.i64.wrap (((n-k:Nat):Int)-1)=((n-(k+1):Nat):Int):=by rw [IntKind.wrap_i64];omega
   obtain ⟨m,hm⟩:∃m,n-k=m:=⟨_,rfl⟩
   rw [hm] at hp hp' hw1
   rw [hm]
   have r4:wr.cell? ⟨g,4,none⟩=some (.slice av k cv):=HL.out.cell 4 _ rfl
   have hgn:g≠wr.heap.size:=by omega
   have HLF:=HL.out.free
   go_wp2_with (first
    | (at_builtin;refine wpList_append_own _ rfl _ _ 28 rfl y.heap.size 50 j0 _ 3 40 Tryz.underlying28 hj jz0 jz1 jz2 rfl (by decide) _ _ _ rfl (HO.out.alloc _) ⟨wr.heap.size,0,none⟩ 1 1 [.int .i64 60000,.int .i64 0,.slice none 0 0] rfl rfl ?c1 ?c2 ?c3 ?c4 ?c5 ?c6;rotate_left 5;intro v' w' hown' hgr' hnil;have hoq:OnlyO (some g) y w':=zn0 ho hgr' (fun g' hg'=>(HO.out.lt g' hg').1);have Lq:Hid (Lay w' g [.int .i64 0,.slice a1 n1 c1,.slice a2 n2 c2,.slice a3 n3 c3,.slice av k cv,.slice none 0 0,.int .i64 0]):=zrl HL.out hgr' (fun g' hg' e=>by have:=(HO.out.lt g' hg').1;have:=HGY.out;omega);have q4:w'.cell? ⟨g,4,none⟩=some (.slice av k cv):=Lq.out.cell 4 _ rfl;have qf:=Lq.out.free;obtain ⟨av',cv',rfl⟩:=zay hown';clear r4))
   case c1=>exact zlm (by go_simp) (by go_simp) (by go_simp)
   case c2=>intro u hu;simp only [List.mem_cons,List.not_mem_nil,or_false] at hu;rcases hu with rfl|rfl|rfl <;> rfl
   case c3=>unfold maxLen;omega
   case c4=>omega
   case c5=>simp;omega
   go_roundw
   case rel =>
    refine ⟨k+1,av',cv',by rw [←hw1],by omega,?_,?_,?_⟩
    ·exact Lq.out.put (p:=[.int .i64 0,.slice a1 n1 c1,.slice a2 n2 c2,.slice a3 n3 c3]) (q:=[.slice av k cv]) (r:=[.slice none 0 0,.int .i64 0]) [.slice av' (k+1) cv'] rfl
    ·have k0:=hown'.kept (zc9 w' g 4 (.slice av' (k+1) cv')) (by
      cases hob:(Value.slice av' (k+1) cv').ownBlock with
      | none=>exact .inl rfl
      | some q=>exact .inr (fun e=>by have h1:=(hown'.lt q hob).1;have h2:=HGY.out;have h3:=Option.some.inj e;omega))
     rw [zw1]
     exact k0
    ·exact hoq.trans (OnlyO.of_only ((Only.refl _ w').setCell (p:=⟨g,4,none⟩) rfl _))
   case measure=>simp [intOf];omega
  ·have e:k=n:=by omega
   subst e
   have hz0:¬((0:Int)<((k-k:Nat):Int)):=by omega
   rw [Nat.sub_self]
   have hgw:w.heap.size≠g:=by have:=HGY.out;omega
   have LR:=(LX.next by').onlyO ho (fun e=>hgw (Option.some.inj e).symm)
   have HLR:=HL.out
   obtain ⟨l0,l1,l2,l3,l4,l5,l6⟩:=Lay.c7 (b:=g) HLR
   obtain ⟨r0,r1,r2,r3,r4,r5,r6⟩:=Lay.c7 (b:=w.heap.size) LR
   have fz:=LR.free
   go_wp2
   obtain ⟨u,hu',ou,U⟩:=st7 (b:=w.heap.size) LR (.int .i64 0) (.slice a1 n1 c1) (.slice a2 n2 c2) (.slice a3 n3 c3) (.slice av k cv) (.slice none 0 0) (.int .i64 0)
   rw [hu']
   clear hu'
   have e1:=(lvx.t.quad).1
   have e2:=(lvx.o.quad).1
   have e3:=(lvx.p.quad).1
   have zu:=ou.size
   have zy:=by'.size
   have hGY:=HGY.out
   have ly:=lvx.next by'
   have lr:LV wr _ (.slice a1 n1 c1) (.slice a2 n2 c2) (.slice a3 n3 c3) (zwd T 0) (zwe T 0) (zwf T 0):=ly.onlyP (p:=fun k=>k=g) ⟨ho.os,ho.tape,ho.output,ho.size,fun k hk hn=>ho.block k hk (fun e=>hn (Option.some.inj e).symm)⟩ (fun b e e'=>by have:=(lvx.t.own e).2;omega) (fun b e e'=>by have:=(lvx.o.own e).2;omega) (fun b e e'=>by have:=(lvx.p.own e).2;omega)
   have lu:LV u _ (.slice a1 n1 c1) (.slice a2 n2 c2) (.slice a3 n3 c3) (zwd T 0) (zwe T 0) (zwf T 0):=lr.onlyP (p:=fun k=>k=w.heap.size) ⟨ou.os,ou.tape,ou.output,ou.size,fun k hk hn=>ou.block k hk hn⟩ (fun b e e'=>by have:=(lvx.t.own e).1;omega) (fun b e e'=>by have:=(lvx.o.own e).1;omega) (fun b e e'=>by have:=(lvx.p.own e).1;omega)
   have tp:TV wr y.heap.size wr.heap.size (.slice av k cv) (List.replicate k zuu):=zuv HO.out
   have tu:TV u y.heap.size wr.heap.size (.slice av k cv) (List.replicate k zuu):=tp.same ou.size (fun b a1 a2 a3=>ou.block b a3 (by omega))
   have bwr:Below w.heap.size w wr:=(zaa bw by').trans (ho.below (fun q hq=>by have h3:=Option.some.inj hq;omega) (by omega))
   refine bodyPost_ret (zak rfl _ _ _ _ rfl U.cell Tryz.underlying31 rfl (by kernel_rfl)) rfl ?_
   refine ⟨a1,c1,a2,c2,a3,c3,av,cv,none,0,by rw [←e1,←e2,←e3,List.length_replicate];rfl,?_,bwr.trans (ou.below (Nat.le_refl _) bwr.size)⟩
   rw [←e1,←e2,←e3,List.length_replicate]
   exact Eng.ofI (hrm:=fun _ _ _ kx=>zzv kx) ⟨_,w2.heap.size,y.heap.size,wr.heap.size,y.heap.size,y.heap.size,⟨by omega,by omega,by omega⟩,⟨by omega,by omega,by omega⟩,lu,(fun b hb=>by have:=(LVB.out b hb);omega),tu,KV.zero _ _ _ _ _,.inl (by omega),.inl (by omega),.inr (Nat.le_refl _),by omega,by omega,by omega⟩
theorem zml {w:World} {aT:Option Addr} (cT:Nat) {T:List Q4} (n:Int) (hT:Quad w.heap.size w aT T):Calls Tryz.prog 141 #[.slice aT T.length cT,.int .i64 n] w (zbx w 0 0 (nwT T n) (nwO T n) (nwP T n) (nwL T n) [] (.bool (nwB T n))):=by
 unfold nwT nwO nwP nwL
 cases h1:za8 T 0
 ·have e:nwB T n=false:=by unfold nwB;rw [h1];rfl
  rw [e]
  exact zmj cT n hT h1
 cases h2:inQ 1 n 10
 ·have e:nwB T n=false:=by unfold nwB;rw [h1,h2];rfl
  rw [e]
  exact zmk cT n hT h1 h2
 have e:nwB T n=true:=by unfold nwB;rw [h1,h2];rfl
 rw [e]
 obtain ⟨m,rfl⟩:∃m:Nat,n=m:=⟨n.toNat,by unfold inQ at h2;simp only [Bool.and_eq_true,decide_eq_true_eq] at h2;omega⟩
 exact zn5 cT m hT h1 h2
end Go.Proofs.YthiojkjcmhojoaaGreat
