import Derived.Test.YthiojkjcmhojoaaGreatGrpBE
import Derived.Test.YthiojkjcmhojoaaGreatGrpAT
import Derived.Test.YthiojkjcmhojoaaGreatGrpAWX1
import Derived.Test.YthiojkjcmhojoaaGreatGrpAL
namespace Go.Proofs.YthiojkjcmhojoaaGreat
set_option maxHeartbeats 16000000
open Go.ChangeShapes Go.WideShapes Go.ChangeAt Go.RowKit
set_option maxRecDepth 100000
set_option linter.unusedVariables false
set_option linter.unusedSimpArgs false
theorem pair_till {A ar au al at' br bu bl bt tp tr tc tu:Int}:pairB A (ar,au,al,at') (br,bu,bl,bt) (tp,tr,tc,tu)=(isByB ar au al at' tr tu A && isByB br bu bl bt tc tu A):=by
 rw [pairB_parts]
 unfold isByB
 generalize bokB ar au al at'=b1
 generalize bokB br bu bl bt=b2
 generalize decide (at'=A)=b3
 generalize decide (bt=A)=b4
 generalize decide (ar=tr)=b5
 generalize decide (br=tc)=b6
 generalize decide (au=tu)=b7
 generalize decide (bu=tu)=b8
 cases b1 <;> cases b2 <;> cases b3 <;> cases b4 <;> cases b5 <;> cases b6 <;> cases b7 <;> cases b8 <;> rfl
theorem undrew_ImplRight {w w':World} (h:Below w.drew.heap.size w.drew w'):Below w.heap.size w w':=(Below.refl _ _).drew.trans h
theorem iTree_is {w:World} {a:Option Addr} (cap:Nat) {ts:List Q4} {c:Int} (hc:treeCode ts=c) (h:Quad w.heap.size w a ts) :
 Calls Tryz.prog 156 #[.slice a ts.length cap] w fun e w'=>e=.returned (.int .i64 c)∧Below w.heap.size w w':=by subst hc;exact iTree_any cap h
theorem right_walk {w:World} {aT aO aP:Option Addr} (cT cO cP:Nat) {T O P:List Q4} (hT:Quad w.heap.size w aT T) (hO:Quad w.heap.size w aO O) (hP:Quad w.heap.size w aP P) :
 Calls Tryz.prog 125 #[lendV aT T.length cT aO O.length cO aP P.length cP] w fun e w'=>((lendB T O P=true∧e=.returned (.tuple #[]))∨(lendB T O P=false∧e=gaveUp))∧Below w.heap.size w w':=by
 by_cases hc:treeCode T=0
 rotate_left
 ·have HC:Hid (lendB T O P=false):=lend_no1 hc
  have nb:Below w.heap.size w (w.alloc (.cells #[.slice aT T.length cT,.slice aO O.length cO,.slice aP P.length cP] 27)):=new_below _ _
  have hc':(treeCode T == 0)=false:=by simp [hc]
  go_enter Tryz.func125,Tryz.ntmps125
  go_wp2_with (first|(go_at_call 156;refine (iTree_any cT (hT.here nb)).mono ?_;rintro e w2 ⟨rfl,hb2⟩)|(go_at_call 155;refine (insist_off _).mono ?_;rintro e w3 ⟨rfl,rfl⟩))
  exact ⟨rfl,.inr ⟨HC.out,rfl⟩,below_step nb hb2⟩
 by_cases hlo:O.length=T.length
 rotate_left
 ·have HC:Hid (lendB T O P=false):=lend_no2 hlo
  have nb:Below w.heap.size w (w.alloc (.cells #[.slice aT T.length cT,.slice aO O.length cO,.slice aP P.length cP] 27)):=new_below _ _
  have hl':((O.length:Int) == (T.length:Int))=false:=by rw [beq_eq_false_iff_ne];omega
  have C0:Hid (Cells (w.alloc (.cells #[.slice aT T.length cT,.slice aO O.length cO,.slice aP P.length cP] 27)) [(w.heap.size,0,.slice aT T.length cT),(w.heap.size,1,.slice aO O.length cO),(w.heap.size,2,.slice aP P.length cP)]):=⟨⟨by simp,by go_simp⟩,⟨by simp,by go_simp⟩,⟨by simp,by go_simp⟩,trivial⟩
  go_enter Tryz.func125,Tryz.ntmps125
  go_wp2_with (first|(go_at_call 156;refine (iTree_is cT hc (hT.here nb)).mono ?_;rintro e w2 ⟨rfl,hb2⟩;have ⟨⟨z0,k0⟩,⟨z1,k1⟩,⟨z2,k2⟩,_⟩:=Cells.next hb2 C0.out;have m1:=hl')|(go_at_call_of 155 true;refine (insist_on _).mono ?_;rintro e w3 ⟨rfl,rfl⟩)|(go_at_call 155;refine (insist_off _).mono ?_;rintro e w3 ⟨rfl,rfl⟩))
  exact ⟨rfl,.inr ⟨HC.out,rfl⟩,below_step nb hb2⟩
 by_cases hlp:P.length=T.length
 rotate_left
 ·have HC:Hid (lendB T O P=false):=lend_no3 hlp
  have HLO:Hid (O.length=T.length):=hlo
  rw [hlo]
  have nb:Below w.heap.size w (w.alloc (.cells #[.slice aT T.length cT,.slice aO T.length cO,.slice aP P.length cP] 27)):=new_below _ _
  have hl':((P.length:Int) == (T.length:Int))=false:=by rw [beq_eq_false_iff_ne];omega
  have C0:Hid (Cells (w.alloc (.cells #[.slice aT T.length cT,.slice aO T.length cO,.slice aP P.length cP] 27)) [(w.heap.size,0,.slice aT T.length cT),(w.heap.size,1,.slice aO T.length cO),(w.heap.size,2,.slice aP P.length cP)]):=⟨⟨by simp,by go_simp⟩,⟨by simp,by go_simp⟩,⟨by simp,by go_simp⟩,trivial⟩
  clear hlo
  go_enter Tryz.func125,Tryz.ntmps125
  go_wp2_with (first|(go_at_call 156;refine (iTree_is cT hc (hT.here nb)).mono ?_;rintro e w2 ⟨rfl,hb2⟩;have ⟨⟨z0,k0⟩,⟨z1,k1⟩,⟨z2,k2⟩,_⟩:=Cells.next hb2 C0.out;have m1:=hl')|(go_at_call_of 155 true;refine (insist_on _).mono ?_;rintro e w3 ⟨rfl,rfl⟩)|(go_at_call 155;refine (insist_off _).mono ?_;rintro e w3 ⟨rfl,rfl⟩))
  exact ⟨rfl,.inr ⟨HC.out,rfl⟩,below_step nb hb2⟩
 have ht:=tree_of hc
 have hl1:=ht.l0
 have hl30:=ht.l1
 clear ht
 have HLO:Hid (O.length=T.length):=hlo
 have HLP:Hid (P.length=T.length):=hlp
 rw [hlo,hlp]
 clear hlo hlp
 have h0O:0<O.length:=by have:=HLO.out;omega
 have hln:(T.length:Int)≤30:=by omega
 have hl0:(0:Int)<(T.length:Int):=by omega
 obtain ⟨A,hA⟩:∃A,O[0].2.2.2=A:=⟨_,rfl⟩
 have HA:Hid (atOf O=A):=by
  show atOf O=A
  unfold atOf
  rw [List.getElem?_eq_getElem h0O,←hA]
 obtain ⟨bo,oo,hao,hbo,_,_,_,qA⟩:=hO.at (Below.refl _ _) 0 h0O
 rw [hA,Nat.zero_mul,Nat.add_zero] at qA
 subst hao
 clear hA
 have nb:Below w.heap.size w (w.alloc (.cells #[.slice aT T.length cT,.slice (some ⟨bo,oo,none⟩) T.length cO,.slice aP T.length cP] 27)):=new_below _ _
 have c0:(w.alloc (.cells #[.slice aT T.length cT,.slice (some ⟨bo,oo,none⟩) T.length cO,.slice aP T.length cP] 27)).cell? ⟨w.heap.size,0,none⟩=some (.slice aT T.length cT):=by go_simp
 have c1:(w.alloc (.cells #[.slice aT T.length cT,.slice (some ⟨bo,oo,none⟩) T.length cO,.slice aP T.length cP] 27)).cell? ⟨w.heap.size,1,none⟩=some (.slice (some ⟨bo,oo,none⟩) T.length cO):=by go_simp
 have c2:(w.alloc (.cells #[.slice aT T.length cT,.slice (some ⟨bo,oo,none⟩) T.length cO,.slice aP T.length cP] 27)).cell? ⟨w.heap.size,2,none⟩=some (.slice aP T.length cP):=by go_simp
 have zb:w.heap.size<(w.alloc (.cells #[.slice aT T.length cT,.slice (some ⟨bo,oo,none⟩) T.length cO,.slice aP T.length cP] 27)).heap.size:=by simp
 go_enter Tryz.func125,Tryz.ntmps125
 go_upto_region 4 with (first|(go_at_call 156;refine (iTree_is cT hc (hT.here nb)).mono ?_;rintro e w2 ⟨rfl,hb2⟩;have k0:=(below_cells hb2 _ _ zb).trans c0;have k1:=(below_cells hb2 _ _ zb).trans c1;have k2:=(below_cells hb2 _ _ zb).trans c2;have kA:=((below_step nb hb2).cell (p:=⟨bo,oo+3,none⟩) hbo).trans qA)|(go_at_call 155;refine (insist_on _).mono ?_;rintro e w3 ⟨rfl,rfl⟩))
 go_wp2
 clear kA
 have hb0:Below w.heap.size w w2:=below_step nb hb2
 have zb2:w.heap.size<w2.heap.size:=Nat.lt_of_lt_of_le zb hb2.size
 clear c0 c1 c2 zb nb hb2
 go_loopw [35] (fun i wr=>∃k:Nat,i=.int .i64 k∧k≤T.length∧Hid (pairTo T O P k=true)∧Below w2.heap.size w2 wr) (fun i _=>T.length-(intOf i).toNat)
 case atStart=>exact ⟨0,rfl,by omega,rfl,Below.refl _ _⟩
 case round =>
  obtain ⟨k,rfl,hk,HF,hbr⟩:=hrel
  have q0:=(below_cells hbr _ _ zb2).trans k0
  have q1:=(below_cells hbr _ _ zb2).trans k1
  have q2:=(below_cells hbr _ _ zb2).trans k2
  clear k0 k1 k2
  have hbw:Below w.heap.size w wr:=below_step hb0 hbr
  have zr:=hbr.size
  have zr':w.heap.size<wr.heap.size:=by omega
  by_cases hlt:k<T.length
  ·have hlt':(k:Int)<(T.length:Int):=by omega
   have hko:k<O.length:=by have:=HLO.out;omega
   have hkp:k<P.length:=by have:=HLP.out;omega
   obtain ⟨_,_,e1,hb1,x0,x1,x2,x3⟩:=hO.at hbw k hko
   cases e1
   obtain ⟨bp,op,rfl,hb4,y0,y1,y2,y3⟩:=hP.at hbw k hkp
   obtain ⟨bt',ot,rfl,hb5,t0,t1,t2,t3⟩:=hT.at hbw k hlt
   have HPA:=pairAt_at hlt hko hkp
   obtain ⟨xa,hxa⟩:∃x,O[k]=x:=⟨_,rfl⟩
   obtain ⟨xb,hxb⟩:∃x,P[k]=x:=⟨_,rfl⟩
   obtain ⟨xt,hxt⟩:∃x,T[k]=x:=⟨_,rfl⟩
   rw [hxa,hxb,hxt,HA.out] at HPA
   rw [hxa] at x0 x1 x2 x3
   rw [hxb] at y0 y1 y2 y3
   rw [hxt] at t0 t1 t2 t3
   obtain ⟨ar,au,al,at'⟩:=xa
   obtain ⟨br,bu,bl,bt⟩:=xb
   obtain ⟨tp,tr,tc,tu⟩:=xt
   simp only at x0 x1 x2 x3 y0 y1 y2 y3 t0 t1 t2 t3
   clear hxa hxb hxt
   have HPA:Hid (pairAt T O P k=pairB A (ar,au,al,at') (br,bu,bl,bt) (tp,tr,tc,tu)):=HPA
   have hbq:Below w2.heap.size w2 (wr.alloc (.cells #[.int .i64 tp,.int .i64 tr,.int .i64 tc,.int .i64 tu] 110)):=by go_grown
   have hbq2:Below w.heap.size w (wr.alloc (.cells #[.int .i64 tp,.int .i64 tr,.int .i64 tc,.int .i64 tu] 110)):=by go_grown
   have s1:bo<wr.heap.size:=by omega
   have s2:bp<wr.heap.size:=by omega
   have s3:bt'<wr.heap.size:=by omega
   have s4:bt'<wr.heap.size+1:=by omega
   have s5:w.heap.size<wr.heap.size+1:=by omega
   have nbw:Below wr.heap.size wr (wr.alloc (.cells #[.int .i64 tp,.int .i64 tr,.int .i64 tc,.int .i64 tu] 110)):=new_below _ _
   have KC:Hid (Cells (wr.alloc (.cells #[.int .i64 tp,.int .i64 tr,.int .i64 tc,.int .i64 tu] 110)) [(w.heap.size,1,.slice (some ⟨bo,oo,none⟩) T.length cO),(bo,oo+k*4,.int .i64 ar),(bo,oo+k*4+1,.int .i64 au),(bo,oo+k*4+2,.int .i64 al),(bo,oo+k*4+3,.int .i64 at'),(wr.heap.size,1,.int .i64 tr),(wr.heap.size,3,.int .i64 tu),(w.heap.size,2,.slice (some ⟨bp,op,none⟩) T.length cP),(bp,op+k*4,.int .i64 br),(bp,op+k*4+1,.int .i64 bu),(bp,op+k*4+2,.int .i64 bl),(bp,op+k*4+3,.int .i64 bt),(wr.heap.size,2,.int .i64 tc),(wr.heap.size,3,.int .i64 tu)]):=⟨⟨by simp <;> omega,by go_simp⟩,⟨by simp <;> omega,by go_simp⟩,⟨by simp <;> omega,by go_simp⟩,⟨by simp <;> omega,by go_simp⟩,⟨by simp <;> omega,by go_simp⟩,⟨by simp <;> omega,by go_simp⟩,⟨by simp <;> omega,by go_simp⟩,⟨by simp <;> omega,by go_simp⟩,⟨by simp <;> omega,by go_simp⟩,⟨by simp <;> omega,by go_simp⟩,⟨by simp <;> omega,by go_simp⟩,⟨by simp <;> omega,by go_simp⟩,⟨by simp <;> omega,by go_simp⟩,⟨by simp <;> omega,by go_simp⟩,trivial⟩
   have HS1:Hid ((wr.alloc (.cells #[.int .i64 tp,.int .i64 tr,.int .i64 tc,.int .i64 tu] 110)).cell? ⟨w.heap.size,1,none⟩=some (.slice (some ⟨bo,oo,none⟩) T.length cO)∧(wr.alloc (.cells #[.int .i64 tp,.int .i64 tr,.int .i64 tc,.int .i64 tu] 110)).cell? ⟨bo,oo+k*4,none⟩=some (.int .i64 ar)∧(wr.alloc (.cells #[.int .i64 tp,.int .i64 tr,.int .i64 tc,.int .i64 tu] 110)).cell? ⟨bo,oo+k*4+1,none⟩=some (.int .i64 au)∧(wr.alloc (.cells #[.int .i64 tp,.int .i64 tr,.int .i64 tc,.int .i64 tu] 110)).cell? ⟨bo,oo+k*4+2,none⟩=some (.int .i64 al)∧(wr.alloc (.cells #[.int .i64 tp,.int .i64 tr,.int .i64 tc,.int .i64 tu] 110)).cell? ⟨bo,oo+k*4+3,none⟩=some (.int .i64 at')∧(wr.alloc (.cells #[.int .i64 tp,.int .i64 tr,.int .i64 tc,.int .i64 tu] 110)).cell? ⟨wr.heap.size,1,none⟩=some (.int .i64 tr)∧(wr.alloc (.cells #[.int .i64 tp,.int .i64 tr,.int .i64 tc,.int .i64 tu] 110)).cell? ⟨wr.heap.size,3,none⟩=some (.int .i64 tu)):=(by have ⟨⟨_,r0⟩,⟨_,r1⟩,⟨_,r2⟩,⟨_,r3⟩,⟨_,r4⟩,⟨_,r5⟩,⟨_,r6⟩,⟨_,r7⟩,⟨_,r8⟩,⟨_,r9⟩,⟨_,r10⟩,⟨_,r11⟩,⟨_,r12⟩,⟨_,r13⟩,_⟩:=KC.out;exact ⟨r0,r1,r2,r3,r4,r5,r6⟩)
   have hstep1:Hid (∀w3,Below (wr.alloc (.cells #[.int .i64 tp,.int .i64 tr,.int .i64 tc,.int .i64 tu] 110)).heap.size (wr.alloc (.cells #[.int .i64 tp,.int .i64 tr,.int .i64 tc,.int .i64 tu] 110)) w3→(w3.cell? ⟨w.heap.size,1,none⟩=some (.slice (some ⟨bo,oo,none⟩) T.length cO)∧w3.cell? ⟨bo,oo+k*4,none⟩=some (.int .i64 ar)∧w3.cell? ⟨bo,oo+k*4+1,none⟩=some (.int .i64 au)∧w3.cell? ⟨bo,oo+k*4+2,none⟩=some (.int .i64 al)∧w3.cell? ⟨bo,oo+k*4+3,none⟩=some (.int .i64 at')∧w3.cell? ⟨wr.heap.size,1,none⟩=some (.int .i64 tr)∧w3.cell? ⟨wr.heap.size,3,none⟩=some (.int .i64 tu))):=fun w3 h=>(by have ⟨⟨_,r0⟩,⟨_,r1⟩,⟨_,r2⟩,⟨_,r3⟩,⟨_,r4⟩,⟨_,r5⟩,⟨_,r6⟩,⟨_,r7⟩,⟨_,r8⟩,⟨_,r9⟩,⟨_,r10⟩,⟨_,r11⟩,⟨_,r12⟩,⟨_,r13⟩,_⟩:=Cells.next h KC.out;exact ⟨r0,r1,r2,r3,r4,r5,r6⟩)
   have hnext2:Hid (∀w3,Below (wr.alloc (.cells #[.int .i64 tp,.int .i64 tr,.int .i64 tc,.int .i64 tu] 110)).heap.size (wr.alloc (.cells #[.int .i64 tp,.int .i64 tr,.int .i64 tc,.int .i64 tu] 110)) w3→Hid (w3.cell? ⟨w.heap.size,2,none⟩=some (.slice (some ⟨bp,op,none⟩) T.length cP)∧w3.cell? ⟨bp,op+k*4,none⟩=some (.int .i64 br)∧w3.cell? ⟨bp,op+k*4+1,none⟩=some (.int .i64 bu)∧w3.cell? ⟨bp,op+k*4+2,none⟩=some (.int .i64 bl)∧w3.cell? ⟨bp,op+k*4+3,none⟩=some (.int .i64 bt)∧w3.cell? ⟨wr.heap.size,2,none⟩=some (.int .i64 tc)∧w3.cell? ⟨wr.heap.size,3,none⟩=some (.int .i64 tu))):=fun w3 h=>(by have ⟨⟨_,r0⟩,⟨_,r1⟩,⟨_,r2⟩,⟨_,r3⟩,⟨_,r4⟩,⟨_,r5⟩,⟨_,r6⟩,⟨_,r7⟩,⟨_,r8⟩,⟨_,r9⟩,⟨_,r10⟩,⟨_,r11⟩,⟨_,r12⟩,⟨_,r13⟩,_⟩:=Cells.next h KC.out;exact ⟨r7,r8,r9,r10,r11,r12,r13⟩)
   have hstep2:Hid (∀w3,Below (wr.alloc (.cells #[.int .i64 tp,.int .i64 tr,.int .i64 tc,.int .i64 tu] 110)).heap.size (wr.alloc (.cells #[.int .i64 tp,.int .i64 tr,.int .i64 tc,.int .i64 tu] 110)) w3→∀w4,Below w3.heap.size w3 w4→(w4.cell? ⟨w.heap.size,2,none⟩=some (.slice (some ⟨bp,op,none⟩) T.length cP)∧w4.cell? ⟨bp,op+k*4,none⟩=some (.int .i64 br)∧w4.cell? ⟨bp,op+k*4+1,none⟩=some (.int .i64 bu)∧w4.cell? ⟨bp,op+k*4+2,none⟩=some (.int .i64 bl)∧w4.cell? ⟨bp,op+k*4+3,none⟩=some (.int .i64 bt)∧w4.cell? ⟨wr.heap.size,2,none⟩=some (.int .i64 tc)∧w4.cell? ⟨wr.heap.size,3,none⟩=some (.int .i64 tu))):=fun w3 h w4 h4=>(by have ⟨⟨_,r0⟩,⟨_,r1⟩,⟨_,r2⟩,⟨_,r3⟩,⟨_,r4⟩,⟨_,r5⟩,⟨_,r6⟩,⟨_,r7⟩,⟨_,r8⟩,⟨_,r9⟩,⟨_,r10⟩,⟨_,r11⟩,⟨_,r12⟩,⟨_,r13⟩,_⟩:=Cells.next h4 (Cells.next h KC.out);exact ⟨r7,r8,r9,r10,r11,r12,r13⟩)
   have fin1:∀w3,Below (wr.alloc (.cells #[.int .i64 tp,.int .i64 tr,.int .i64 tc,.int .i64 tu] 110)).heap.size (wr.alloc (.cells #[.int .i64 tp,.int .i64 tr,.int .i64 tc,.int .i64 tu] 110)) w3→Below w.heap.size w w3:=fun w3 h=>below_step hbq2 h
   have fin2:∀w3 w4,Below (wr.alloc (.cells #[.int .i64 tp,.int .i64 tr,.int .i64 tc,.int .i64 tu] 110)).heap.size (wr.alloc (.cells #[.int .i64 tp,.int .i64 tr,.int .i64 tc,.int .i64 tu] 110)) w3→Below w3.heap.size w3 w4→Below w.heap.size w w4:=fun w3 w4 h h4=>below_step (below_step hbq2 h) h4
   clear KC
   cases g1:isByB ar au al at' tr tu A
   ·skip
    have HC:Hid (lendB T O P=false):=lend_no4 (k:=k) (by rw [HPA.out,pair_till];simp [g1]) hlt
    clear HPA
    go_upto_region 7 with (fail)
    refine wp_region_held_drew (S:=fun w'=>w'.cell? ⟨w.heap.size,1,none⟩=some (.slice (some ⟨bo,oo,none⟩) T.length cO)∧w'.cell? ⟨bo,oo+k*4,none⟩=some (.int .i64 ar)∧w'.cell? ⟨bo,oo+k*4+1,none⟩=some (.int .i64 au)∧w'.cell? ⟨bo,oo+k*4+2,none⟩=some (.int .i64 al)∧w'.cell? ⟨bo,oo+k*4+3,none⟩=some (.int .i64 at')∧w'.cell? ⟨wr.heap.size,1,none⟩=some (.int .i64 tr)∧w'.cell? ⟨wr.heap.size,3,none⟩=some (.int .i64 tu)) (by kernel_rfl) (HS1.out) (fun hS=>?_)
    refine anyR 0 rfl ?_
    refine anyR 1 rfl ?_
    refine anyR 2 rfl ?_
    refine anyR 3 rfl ?_
    refine anyR 4 rfl ?_
    refine anyR 5 rfl ?_
    refine anyR 6 rfl ?_
    refine anyR 7 rfl ?_
    refine anyR 8 rfl ?_
    refine anyR 9 rfl ?_
    refine anyR 10 rfl ?_
    refine anyC 11 rfl fun K hK=>?_
    go_simp
    (refine (isBy_is g1 _).mono ?_;rintro e wa ⟨rfl,hba⟩;have hba:=undrew_ImplRight hba;have hSa:=hstep1.out _ hba)
    refine hK.out _ _ ‹_› fun _=>?_
    try simp only [nrm]
    refine anyC 12 rfl fun K hK=>?_
    go_simp
    (refine (insist_off _).mono ?_;rintro e wz ⟨rfl,rfl⟩)
    exact ⟨rfl,.inr ⟨HC.out,rfl⟩,fin1 _ hba⟩
   cases g2:isByB br bu bl bt tc tu A
   ·skip
    have HC:Hid (lendB T O P=false):=lend_no4 (k:=k) (by rw [HPA.out,pair_till];simp [g1,g2]) hlt
    clear HPA
    go_upto_region 7 with (fail)
    refine wp_region_held_drew (S:=fun w'=>w'.cell? ⟨w.heap.size,1,none⟩=some (.slice (some ⟨bo,oo,none⟩) T.length cO)∧w'.cell? ⟨bo,oo+k*4,none⟩=some (.int .i64 ar)∧w'.cell? ⟨bo,oo+k*4+1,none⟩=some (.int .i64 au)∧w'.cell? ⟨bo,oo+k*4+2,none⟩=some (.int .i64 al)∧w'.cell? ⟨bo,oo+k*4+3,none⟩=some (.int .i64 at')∧w'.cell? ⟨wr.heap.size,1,none⟩=some (.int .i64 tr)∧w'.cell? ⟨wr.heap.size,3,none⟩=some (.int .i64 tu)) (by kernel_rfl) (HS1.out) (fun hS=>?_)
    refine anyR 0 rfl ?_
    refine anyR 1 rfl ?_
    refine anyR 2 rfl ?_
    refine anyR 3 rfl ?_
    refine anyR 4 rfl ?_
    refine anyR 5 rfl ?_
    refine anyR 6 rfl ?_
    refine anyR 7 rfl ?_
    refine anyR 8 rfl ?_
    refine anyR 9 rfl ?_
    refine anyR 10 rfl ?_
    refine anyC 11 rfl fun K hK=>?_
    go_simp
    (refine (isBy_is g1 _).mono ?_;rintro e wa ⟨rfl,hba⟩;have hba:=undrew_ImplRight hba;have hSa:=hstep1.out _ hba)
    refine hK.out _ _ ‹_› fun _=>?_
    try simp only [nrm]
    refine anyC 12 rfl fun K hK=>?_
    go_simp
    (refine (insist_on _).mono ?_;rintro e wz ⟨rfl,rfl⟩)
    refine hK.out _ _ ‹_› fun _=>?_
    try simp only [nrm]
    refine wpAnyH_done (by kernel_rfl) ?_ _
    repeat go_step
    have HS2:=hnext2.out _ hba
    refine wp_region_held_drew (S:=fun w'=>w'.cell? ⟨w.heap.size,2,none⟩=some (.slice (some ⟨bp,op,none⟩) T.length cP)∧w'.cell? ⟨bp,op+k*4,none⟩=some (.int .i64 br)∧w'.cell? ⟨bp,op+k*4+1,none⟩=some (.int .i64 bu)∧w'.cell? ⟨bp,op+k*4+2,none⟩=some (.int .i64 bl)∧w'.cell? ⟨bp,op+k*4+3,none⟩=some (.int .i64 bt)∧w'.cell? ⟨wr.heap.size,2,none⟩=some (.int .i64 tc)∧w'.cell? ⟨wr.heap.size,3,none⟩=some (.int .i64 tu)) (by kernel_rfl) (HS2.out) (fun hS=>?_)
    refine anyR 0 rfl ?_
    refine anyR 1 rfl ?_
    refine anyR 2 rfl ?_
    refine anyR 3 rfl ?_
    refine anyR 4 rfl ?_
    refine anyR 5 rfl ?_
    refine anyR 6 rfl ?_
    refine anyR 7 rfl ?_
    refine anyR 8 rfl ?_
    refine anyR 9 rfl ?_
    refine anyR 10 rfl ?_
    refine anyC 11 rfl fun K hK=>?_
    go_simp
    (refine (isBy_is g2 _).mono ?_;rintro e wb ⟨rfl,hbb⟩;have hbb:=undrew_ImplRight hbb;have hSb:=hstep2.out _ hba _ hbb)
    refine hK.out _ _ ‹_› fun _=>?_
    try simp only [nrm]
    refine anyC 12 rfl fun K hK=>?_
    go_simp
    (refine (insist_off _).mono ?_;rintro e wz ⟨rfl,rfl⟩)
    exact ⟨rfl,.inr ⟨HC.out,rfl⟩,fin2 _ _ hba hbb⟩
   ·skip
    have HPB:Hid (pairTo T O P (k+1)=true):=by
     show (pairTo T O P k && pairAt T O P k)=true
     rw [HF.out,HPA.out,pair_till]
     simp [g1,g2]
    clear HPA
    go_upto_region 7 with (fail)
    refine wp_region_held_drew (S:=fun w'=>w'.cell? ⟨w.heap.size,1,none⟩=some (.slice (some ⟨bo,oo,none⟩) T.length cO)∧w'.cell? ⟨bo,oo+k*4,none⟩=some (.int .i64 ar)∧w'.cell? ⟨bo,oo+k*4+1,none⟩=some (.int .i64 au)∧w'.cell? ⟨bo,oo+k*4+2,none⟩=some (.int .i64 al)∧w'.cell? ⟨bo,oo+k*4+3,none⟩=some (.int .i64 at')∧w'.cell? ⟨wr.heap.size,1,none⟩=some (.int .i64 tr)∧w'.cell? ⟨wr.heap.size,3,none⟩=some (.int .i64 tu)) (by kernel_rfl) (HS1.out) (fun hS=>?_)
    refine anyR 0 rfl ?_
    refine anyR 1 rfl ?_
    refine anyR 2 rfl ?_
    refine anyR 3 rfl ?_
    refine anyR 4 rfl ?_
    refine anyR 5 rfl ?_
    refine anyR 6 rfl ?_
    refine anyR 7 rfl ?_
    refine anyR 8 rfl ?_
    refine anyR 9 rfl ?_
    refine anyR 10 rfl ?_
    refine anyC 11 rfl fun K hK=>?_
    go_simp
    (refine (isBy_is g1 _).mono ?_;rintro e wa ⟨rfl,hba⟩;have hba:=undrew_ImplRight hba;have hSa:=hstep1.out _ hba)
    refine hK.out _ _ ‹_› fun _=>?_
    try simp only [nrm]
    refine anyC 12 rfl fun K hK=>?_
    go_simp
    (refine (insist_on _).mono ?_;rintro e wz ⟨rfl,rfl⟩)
    refine hK.out _ _ ‹_› fun _=>?_
    try simp only [nrm]
    refine wpAnyH_done (by kernel_rfl) ?_ _
    repeat go_step
    have HS2:=hnext2.out _ hba
    refine wp_region_held_drew (S:=fun w'=>w'.cell? ⟨w.heap.size,2,none⟩=some (.slice (some ⟨bp,op,none⟩) T.length cP)∧w'.cell? ⟨bp,op+k*4,none⟩=some (.int .i64 br)∧w'.cell? ⟨bp,op+k*4+1,none⟩=some (.int .i64 bu)∧w'.cell? ⟨bp,op+k*4+2,none⟩=some (.int .i64 bl)∧w'.cell? ⟨bp,op+k*4+3,none⟩=some (.int .i64 bt)∧w'.cell? ⟨wr.heap.size,2,none⟩=some (.int .i64 tc)∧w'.cell? ⟨wr.heap.size,3,none⟩=some (.int .i64 tu)) (by kernel_rfl) (HS2.out) (fun hS=>?_)
    refine anyR 0 rfl ?_
    refine anyR 1 rfl ?_
    refine anyR 2 rfl ?_
    refine anyR 3 rfl ?_
    refine anyR 4 rfl ?_
    refine anyR 5 rfl ?_
    refine anyR 6 rfl ?_
    refine anyR 7 rfl ?_
    refine anyR 8 rfl ?_
    refine anyR 9 rfl ?_
    refine anyR 10 rfl ?_
    refine anyC 11 rfl fun K hK=>?_
    go_simp
    (refine (isBy_is g2 _).mono ?_;rintro e wb ⟨rfl,hbb⟩;have hbb:=undrew_ImplRight hbb;have hSb:=hstep2.out _ hba _ hbb)
    refine hK.out _ _ ‹_› fun _=>?_
    try simp only [nrm]
    refine anyC 12 rfl fun K hK=>?_
    go_simp
    (refine (insist_on _).mono ?_;rintro e wz ⟨rfl,rfl⟩)
    refine hK.out _ _ ‹_› fun _=>?_
    try simp only [nrm]
    refine wpAnyH_done (by kernel_rfl) ?_ _
    repeat go_step
    go_roundw
    case rel=>exact ⟨k+1,by go_num,by omega,HPB,below_step (below_step hbq hba) hbb⟩
    case measure=>simp [intOf]<;>omega
  ·have e:k=T.length:=by omega
   subst e
   have HC:Hid (lendB T O P=true):=lend_yes hc HLO.out HLP.out HF.out
   go_wp2
   go_end0
   exact ⟨.inl ⟨HC.out,rfl⟩,hbw⟩
theorem right_yes {w:World} {aT aO aP:Option Addr} (cT cO cP:Nat) {T O P:List Q4} (hf:lendB T O P=true) (hT:Quad w.heap.size w aT T) (hO:Quad w.heap.size w aO O) (hP:Quad w.heap.size w aP P) :
 Calls Tryz.prog 125 #[lendV aT T.length cT aO O.length cO aP P.length cP] w fun e w'=>e=.returned (.tuple #[])∧Below w.heap.size w w':=(right_walk cT cO cP hT hO hP).mono (by
 rintro e w' ⟨⟨_,h⟩|⟨h,_⟩,hb⟩
 ·exact ⟨h,hb⟩
 ·rw [hf] at h;cases h)
theorem right_no {w:World} {aT aO aP:Option Addr} (cT cO cP:Nat) {T O P:List Q4} (hf:lendB T O P=false) (hT:Quad w.heap.size w aT T) (hO:Quad w.heap.size w aO O) (hP:Quad w.heap.size w aP P) :
 Calls Tryz.prog 125 #[lendV aT T.length cT aO O.length cO aP P.length cP] w fun e w'=>e=gaveUp∧Below w.heap.size w w':=(right_walk cT cO cP hT hO hP).mono (by
 rintro e w' ⟨⟨h,_⟩|⟨_,h⟩,hb⟩
 ·rw [hf] at h;cases h
 ·exact ⟨h,hb⟩)
def RowQ (w:World) (N:List Q4) (e:Ending) (w':World):Prop:=∃v,e=.returned v∧w'.ownsRow w.heap.size 110 4 v N.length (flatQ N)∧Below w.heap.size w w'
theorem cloneC_any {w:World} {b off:Nat} (cap:Nat) {xs:List Q4} (h:Quad w.heap.size w (some ⟨b,off,none⟩) xs) (hl:xs.length≤1000) :
 Calls Tryz.prog 97 #[.slice (some ⟨b,off,none⟩) xs.length cap] w (RowQ w xs):=by
 obtain ⟨i0,hi,hz0,hz1,hz2⟩:=info_parts info_class
 have q:∀(w:World) (a:Option Addr) (n c n' c':Nat),(binOp .eql 24 (.slice a n c) (.slice none n' c')).run Tryz.prog w=.ok (.bool a.isNone) w:=fun w a n c n' c'=>Lib.run_eql_slice_nil w _ _ a n c n' c' Tryz.underlying24
 have A:Hid (∀j u,(flatQ xs)[j]?=some u→(w.alloc (.cells #[] 110)).cell? ((⟨b,off,none⟩:Addr).add j)=some u):=quad_news (h.here (new_below _ _))
 go_enter Tryz.func97,Tryz.ntmps97
 go_wp2_with (at_builtin;refine wpList_append_own _ rfl _ _ 24 rfl w.heap.size 110 i0 _ 4 32 Tryz.underlying24 hi hz0 hz1 hz2 rfl (by decide) _ 0 [] rfl (own_noneQ w _ (Nat.le_refl _) _) ⟨b,off,none⟩ xs.length cap (flatQ xs) rfl (flatQ_length xs) A.out (flatQ_cell xs) (by unfold maxLen;omega) (by omega) (by simp) ?_;intro v' w1 hown hgr hnil)
 go_ret
 exact ⟨v',rfl,by simpa using hown,((Below.refl _ w).alloc (Nat.le_refl _) _).grown hgr (by simp) (fun k hk=>Nat.le_of_eq (Option.some.inj hk))⟩
theorem done_kept {w w3:World} (h:Below (w.alloc (.cells #[.bool false] 4)).heap.size (w.alloc (.cells #[.bool false] 4)) w3):w3.cell? ⟨w.heap.size,0,none⟩=some (.bool false)∧w3.frozen? ⟨w.heap.size,0,none⟩=false :=
 ⟨(below_cells h _ _ (by simp)).trans (by go_simp),(below_frozens h _ _ (by simp)).trans (by go_simp)⟩
theorem att_yes {K:Nat} {caps:Array Value} (w:World) (hent:∀args w,(callFunc K args).run Tryz.prog w=.ok (.enter K args) w)
 (hk:Calls Tryz.prog K caps (w.alloc (.cells #[.bool false] 4)) fun e w'=>e=.returned (.tuple #[])∧Below (w.alloc (.cells #[.bool false] 4)).heap.size (w.alloc (.cells #[.bool false] 4)) w') :
 Calls Tryz.prog 123 #[.func (.func K) #[] caps] w fun e w'=>e=.returned (.bool true)∧Below w.heap.size w w':=by
 refine (attempt_yes w hent (R:=fun w'=>Below (w.alloc (.cells #[.bool false] 4)).heap.size (w.alloc (.cells #[.bool false] 4)) w') (hk.mono fun e w' h=>⟨h.1,h.2,done_kept h.2⟩)).mono ?_
 rintro e w' ⟨rfl,W,hW,rfl⟩
 exact ⟨rfl,((below_two (new_below _ _) hW).setCell (by simp) _).setCell (by simp) _⟩
theorem att_no {K:Nat} {caps:Array Value} (w:World) (hent:∀args w,(callFunc K args).run Tryz.prog w=.ok (.enter K args) w)
 (hk:Calls Tryz.prog K caps (w.alloc (.cells #[.bool false] 4)) fun e w'=>e=gaveUp∧Below (w.alloc (.cells #[.bool false] 4)).heap.size (w.alloc (.cells #[.bool false] 4)) w') :
 Calls Tryz.prog 123 #[.func (.func K) #[] caps] w fun e w'=>e=.returned (.bool false)∧Below w.heap.size w w':=by
 refine (attempt_no w hent (R:=fun w'=>Below (w.alloc (.cells #[.bool false] 4)).heap.size (w.alloc (.cells #[.bool false] 4)) w') (hk.mono fun e w' h=>⟨h.1,h.2,done_kept h.2⟩)).mono ?_
 rintro e w' ⟨rfl,W,hW,rfl⟩
 exact ⟨rfl,(below_two (new_below _ _) hW).setCell (by simp) _⟩
theorem lendOk1_yes {w:World} {b:Nat} {aT aO aP:Option Addr} (cT cO cP:Nat) {T O P:List Q4} (hf:lendB T O P=true) (hc:Cells w [(b,0,.slice aT T.length cT),(b,1,.slice aO O.length cO),(b,2,.slice aP P.length cP)]) (hT:Quad w.heap.size w aT T) (hO:Quad w.heap.size w aO O) (hP:Quad w.heap.size w aP P) :
 Calls Tryz.prog 124 #[.pointer (some ⟨b,0,none⟩)] w fun e w'=>e=.returned (.tuple #[])∧Below w.heap.size w w':=by
 have ⟨⟨_,k0⟩,⟨_,k1⟩,⟨_,k2⟩,_⟩:=hc
 go_enter Tryz.func124,Tryz.ntmps124
 go_wp2_with (first|(go_at_call 125;refine (right_yes cT cO cP hf hT hO hP).mono ?_;rintro e w2 ⟨rfl,hb2⟩))
 go_end0
 exact ⟨rfl,hb2⟩
theorem lendOk1_no {w:World} {b:Nat} {aT aO aP:Option Addr} (cT cO cP:Nat) {T O P:List Q4} (hf:lendB T O P=false) (hc:Cells w [(b,0,.slice aT T.length cT),(b,1,.slice aO O.length cO),(b,2,.slice aP P.length cP)]) (hT:Quad w.heap.size w aT T) (hO:Quad w.heap.size w aO O) (hP:Quad w.heap.size w aP P) :
 Calls Tryz.prog 124 #[.pointer (some ⟨b,0,none⟩)] w fun e w'=>e=gaveUp∧Below w.heap.size w w':=by
 have ⟨⟨_,k0⟩,⟨_,k1⟩,⟨_,k2⟩,_⟩:=hc
 go_enter Tryz.func124,Tryz.ntmps124
 go_wp2_with (first|(go_at_call 125;refine (right_no cT cO cP hf hT hO hP).mono ?_;rintro e w2 ⟨rfl,hb2⟩))
 exact ⟨rfl,rfl,hb2⟩
theorem iLendOk_any {w:World} {aT aO aP:Option Addr} (cT cO cP:Nat) {T O P:List Q4} (hT:Quad w.heap.size w aT T) (hO:Quad w.heap.size w aO O) (hP:Quad w.heap.size w aP P) :
 Calls Tryz.prog 61 #[lendV aT T.length cT aO O.length cO aP P.length cP] w fun e w'=>e=.returned (.bool (lendB T O P))∧Below w.heap.size w w':=by
 have hmf:∀(fn:Fn) (first cap:Array Value) (w:World),(Instr.makeFunc fn first cap).run Tryz.prog w=.ok (.func fn first cap) w:=fun _ _ _ _=>rfl
 have hent:∀args w,(callFunc 124 args).run Tryz.prog w=.ok (.enter 124 args) w:=enters_of Tryz.func124 (by kernel_rfl) rfl
 have nb:Below w.heap.size w (w.alloc (.cells #[.slice aT T.length cT,.slice aO O.length cO,.slice aP P.length cP] 27)):=new_below _ _
 have nb2:Below w.heap.size w ((w.alloc (.cells #[.slice aT T.length cT,.slice aO O.length cO,.slice aP P.length cP] 27)).alloc (.cells #[.bool false] 4)):=by go_grown
 have hc:Cells ((w.alloc (.cells #[.slice aT T.length cT,.slice aO O.length cO,.slice aP P.length cP] 27)).alloc (.cells #[.bool false] 4)) [(w.heap.size,0,.slice aT T.length cT),(w.heap.size,1,.slice aO O.length cO),(w.heap.size,2,.slice aP P.length cP)]:=⟨⟨by simp <;> omega,by go_simp⟩,⟨by simp <;> omega,by go_simp⟩,⟨by simp <;> omega,by go_simp⟩,trivial⟩
 cases hf:lendB T O P
 ·have hk:=att_no _ hent (lendOk1_no cT cO cP hf hc (hT.here nb2) (hO.here nb2) (hP.here nb2))
  clear hc hent
  go_enter Tryz.func61,Tryz.ntmps61
  go_wp2_with (first|(go_at_call 123;refine hk.mono ?_;clear hk;rintro e w2 ⟨rfl,hb2⟩))
  go_ret
  exact ⟨rfl,below_two nb hb2⟩
 ·have hk:=att_yes _ hent (lendOk1_yes cT cO cP hf hc (hT.here nb2) (hO.here nb2) (hP.here nb2))
  clear hc hent
  go_enter Tryz.func61,Tryz.ntmps61
  go_wp2_with (first|(go_at_call 123;refine hk.mono ?_;clear hk;rintro e w2 ⟨rfl,hb2⟩))
  go_ret
  exact ⟨rfl,below_two nb hb2⟩
theorem OnlyP.cell {p:Nat→Prop} {w w':World} (h:OnlyP p w w') {a:Addr} (ha:a.block<w.heap.size) (hp:¬p a.block):w'.cell? a=w.cell? a:=World.cell?_of_block (w:=w) (h.block a.block ha hp)
theorem OnlyP.frozen {p:Nat→Prop} {w w':World} (h:OnlyP p w w') {a:Addr} (ha:a.block<w.heap.size) (hp:¬p a.block):w'.frozen? a=w.frozen? a:=World.frozen?_of_block (w:=w) (h.block a.block ha hp)
theorem Cells.onlyP {w w':World} {p:Nat→Prop} (ho:OnlyP p w w'):∀{cs:List (Nat × Nat × Value)},(∀c ∈ cs,¬p c.1)→Cells w cs→Cells w' cs
 | [],_,_=>trivial
 | (b,o',v) :: r,hg,⟨⟨h1,h2⟩,h⟩=>⟨⟨Nat.lt_of_lt_of_le h1 ho.size,(ho.cell h1 (hg (b,o',v) (List.mem_cons_self ..))).trans h2⟩,Cells.onlyP ho (fun c hc=>hg c (List.mem_cons_of_mem _ hc)) h⟩
theorem LV.set {w:World} {lo:Nat} {sT sO sP:Value} {T O P:List Q4} (h:LV w lo sT sO sP T O P) {b:Nat} (hb:b<lo) (i:Nat) (v:Value):LV (w.setCell ⟨b,i,none⟩ v) lo sT sO sP T O P:=by
 have hg:=OnlyP.of (OnlyO.of_grown (grown_set w b i v))
 have hn:∀{k:Nat},inL sT sO sP k→¬(some b=some k):=fun hk e=>by have:=(h.lo hk).1;have e1:=Option.some.inj e;omega
 exact h.onlyP hg (fun g hg=>hn (.inl hg)) (fun g hg=>hn (.inr (.inl hg))) (fun g hg=>hn (.inr (.inr hg)))
section
end
theorem reset_bok {r u l t r' u' now:Int} (h:bokB r u l t=true) (hr:rateB r'=true) (hu:winB u'=true) (hn:timeB now=true) (ht:t≤now) :
 ∃l',resetOf r u l t r' u' now=(r',u',l',now)∧bokB r' u' l' now=true∧l'≤1000000000*u':=by
 obtain ⟨nr,nu,nl,nt⟩:=bok_num h
 have nu':=win_num hu
 have e:resetOk r u l t r' u' now=true:=by unfold resetOk;rw [h,hr,hu,hn];rfl
 have eT:fillT t now=now:=by unfold fillT;split <;> omega
 have f0:0≤fillL r u l t now:=by
  unfold fillL
  split
  ·exact nl.1
  ·have hp:0≤r*(now-t):=Int.mul_nonneg nr.1 (by omega)
   generalize r*(now-t)=X at *
   omega
 refine ⟨min (fillL r u l t now) (1000000000*u'),?_,?_,by omega⟩
 ·unfold resetOf
  rw [if_pos e,eT]
 ·unfold bokB lvlB
  rw [hr,hu,hn,decide_eq_true (by omega),decide_eq_true (by omega)]
  rfl
theorem pair_every {T O P:List Q4} (h:∀k (h1:k<T.length) (h2:k<O.length) (h3:k<P.length),pairB (atOf O) O[k] P[k] T[k]=true) (lo:O.length=T.length) (lp:P.length=T.length):∀n,n≤T.length→pairTo T O P n=true
 | 0,_=>rfl
 | n+1,hn=>by
  show (pairTo T O P n && pairAt T O P n)=true
  rw [pair_every h lo lp n (by omega),pairAt_at (show n<T.length by omega) (by omega) (by omega),h n (by omega) (by omega) (by omega)]
  rfl
theorem cls_three {hi:Int} {t:Q4} (h:clsB hi t=true):rateB t.2.1=true∧rateB t.2.2.1=true∧winB t.2.2.2=true:=by
 unfold clsB at h
 simp only [Bool.and_eq_true] at h
 refine ⟨h.1.1.1.1,h.1.1.1.2,?_⟩
 have hb:=h.2
 unfold burB at hb
 simp only [Bool.and_eq_true,decide_eq_true_eq] at hb
 unfold winB
 rw [decide_eq_true (by omega),decide_eq_true (by omega)]
 rfl
theorem movO_at {S O:List Q4} {now:Int} {k:Nat} (h:k<(movO S O now).length) (h1:k<O.length) (h2:k<S.length):(movO S O now)[k]=resetQ now S[k].2.1 S[k].2.2.2 O[k]:=List.getElem_zipWith ..
theorem movP_at {S P:List Q4} {now:Int} {k:Nat} (h:k<(movP S P now).length) (h1:k<P.length) (h2:k<S.length):(movP S P now)[k]=resetQ now S[k].2.2.1 S[k].2.2.2 P[k]:=List.getElem_zipWith ..
structure Moved (S YO YP:List Q4):Prop where
 lo:YO.length=S.length
 lp:YP.length=S.length
 own:∀k (h1:k<S.length) (h2:k<YO.length),YO[k].2.2.1≤1000000000*S[k].2.2.2
 top:∀k (h1:k<S.length) (h3:k<YP.length),YP[k].1=S[k].2.2.1
 ok:lendB S YO YP=true
theorem moved {T O P S:List Q4} {now:Int} (h:movB T O P S now=true):Moved S (movO S O now) (movP S P now):=by
 unfold movB at h
 simp only [Bool.and_eq_true,decide_eq_true_eq] at h
 obtain ⟨⟨⟨hL,hC⟩,hlen⟩,hA,hN⟩:=h
 have IL:=lend_of hL
 have IT:=tree_of hC
 have ha:=at_time IL
 have hn:timeB now=true:=by unfold timeB;rw [decide_eq_true (by omega),decide_eq_true hN];rfl
 have lO:O.length=S.length:=by rw [IL.lo];exact hlen.symm
 have lP:P.length=S.length:=by rw [IL.lp];exact hlen.symm
 have l1:=movO_length (now:=now) lO
 have l2:=movP_length (now:=now) lP
 have key:∀k (h1:k<S.length) (h2:k<(movO S O now).length) (h3:k<(movP S P now).length),(∃l,(movO S O now)[k]=(S[k].2.1,S[k].2.2.2,l,now)∧bokB S[k].2.1 S[k].2.2.2 l now=true∧l≤1000000000*S[k].2.2.2)∧∃l,(movP S P now)[k]=(S[k].2.2.1,S[k].2.2.2,l,now)∧bokB S[k].2.2.1 S[k].2.2.2 l now=true∧l≤1000000000*S[k].2.2.2:=by
  intro k h1 h2 h3
  have pk:=pair_ok (IL.pair k (by omega) (by omega) (by omega))
  obtain ⟨c1,c2,c3⟩:=cls_three (IT.sound.cls k h1)
  constructor
  ·obtain ⟨l,e,b,le⟩:=reset_bok pk.oka c1 c3 hn (by rw [pk.ta];exact hA)
   refine ⟨l,?_,b,le⟩
   rw [movO_at h2 (by omega) h1]
   exact e
  ·obtain ⟨l,e,b,le⟩:=reset_bok pk.okb c2 c3 hn (by rw [pk.tb];exact hA)
   refine ⟨l,?_,b,le⟩
   rw [movP_at h3 (by omega) h1]
   exact e
 have h0:=IT.l0
 have hat:atOf (movO S O now)=now:=by
  unfold atOf
  rw [List.getElem?_eq_getElem (show 0<(movO S O now).length by omega)]
  obtain ⟨⟨l,e,_⟩,_⟩:=key 0 (by omega) (by omega) (by omega)
  rw [e]
 refine ⟨l1,l2,fun k h1 h2=>?_,fun k h1 h3=>?_,?_⟩
 ·obtain ⟨⟨l,e,_,le⟩,_⟩:=key k h1 h2 (by omega)
  rw [e]
  exact le
 ·obtain ⟨_,l,e,_,_⟩:=key k h1 (by omega) h3
  rw [e]
 ·unfold lendB
  rw [decide_eq_true hC,decide_eq_true l1,decide_eq_true l2,pair_every (fun k h1 h2 h3=>?_) l1 l2 S.length (Nat.le_refl _)]
  ·rfl
  ·obtain ⟨⟨l,e,b,_⟩,l',e',b',_⟩:=key k h1 h2 h3
   rw [hat,e,e']
   exact pair_is ⟨b,b',rfl,rfl,rfl,rfl,rfl,rfl⟩
def RowQB (w:World) (N:List Q4) (e:Ending) (w':World):Prop:=∃v,e=.returned v∧w'.ownsRow w.heap.size 53 4 v N.length (flatQ N)∧Below w.heap.size w w'
theorem cloneBk_one {w:World} {b off:Nat} (cap:Nat) {xs:List Q4} (h:Quad w.heap.size w (some ⟨b,off,none⟩) xs) (hl:xs.length≤1000) :
 Calls Tryz.prog 98 #[.slice (some ⟨b,off,none⟩) xs.length cap] w (RowQB w xs):=by
 obtain ⟨i0,hi,hz0,hz1,hz2⟩:=info_parts info_bucket
 have q:∀(w:World) (a:Option Addr) (n c n' c':Nat),(binOp .eql 25 (.slice a n c) (.slice none n' c')).run Tryz.prog w=.ok (.bool a.isNone) w:=fun w a n c n' c'=>Lib.run_eql_slice_nil w _ _ a n c n' c' Tryz.underlying25
 have A:Hid (∀j u,(flatQ xs)[j]?=some u→(w.alloc (.cells #[] 53)).cell? ((⟨b,off,none⟩:Addr).add j)=some u):=quad_news (h.here (new_below _ _))
 go_enter Tryz.func98,Tryz.ntmps98
 go_wp2_with (at_builtin;refine wpList_append_own _ rfl _ _ 25 rfl w.heap.size 53 i0 _ 4 32 Tryz.underlying25 hi hz0 hz1 hz2 rfl (by decide) _ 0 [] rfl (own_noneQ w _ (Nat.le_refl _) _) ⟨b,off,none⟩ xs.length cap (flatQ xs) rfl (flatQ_length xs) A.out (flatQ_cell xs) (by unfold maxLen;omega) (by omega) (by simp) ?_;intro v' w1 hown hgr hnil)
 go_ret
 exact ⟨v',rfl,by simpa using hown,((Below.refl _ w).alloc (Nat.le_refl _) _).grown hgr (by simp) (fun k hk=>Nat.le_of_eq (Option.some.inj hk))⟩
theorem quad_some {B:Nat} {w:World} {a:Option Addr} {xs:List Q4} (h:Quad B w a xs) (h0:1≤xs.length):∃b off,a=some ⟨b,off,none⟩:=by
 obtain ⟨b,off,e,_⟩:=h 0 (by omega)
 exact ⟨b,off,e⟩
theorem cloneCl_any {w:World} {a:Option Addr} (cap:Nat) {xs:List Q4} (h:Quad w.heap.size w a xs) (hl:1≤xs.length∧xs.length≤30) :
 Calls Tryz.prog 97 #[.slice a xs.length cap] w (RowQ w xs):=by
 obtain ⟨b,off,rfl⟩:=quad_some h hl.1
 exact cloneC_any cap h (by omega)
theorem cloneBk_any {w:World} {a:Option Addr} (cap:Nat) {xs:List Q4} (h:Quad w.heap.size w a xs) (hl:1≤xs.length∧xs.length≤30) :
 Calls Tryz.prog 98 #[.slice a xs.length cap] w (RowQB w xs):=by
 obtain ⟨b,off,rfl⟩:=quad_some h hl.1
 exact cloneBk_one cap h (by omega)
def PlcPost (B:Nat) (w:World) (fs:List F8) (e:Ending) (w':World):Prop:=∃g cap G,e=.returned (.slice (some ⟨g,0,none⟩) fs.length cap)∧Vals B w G fs∧w'.ownsRow w.heap.size 50 3 (.slice (some ⟨g,0,none⟩) fs.length cap) fs.length (flatF G)∧Below w.heap.size w w'
theorem clonePl_any {B:Nat} {w:World} {a:Option Addr} (cap:Nat) {fs:List F8} (h:Fls B w a fs) (hB:B≤w.heap.size) (h0:0<fs.length) (hl:fs.length≤1048576) :
 Calls Tryz.prog 99 #[.slice a fs.length cap] w (PlcPost B w fs):=by
 obtain ⟨i0,hi,hz0,hz1,hz2⟩:=info_parts info_place
 have q:∀(w:World) (a:Option Addr) (n c n' c':Nat),(binOp .eql 28 (.slice a n c) (.slice none n' c')).run Tryz.prog w=.ok (.bool a.isNone) w:=fun w a n c n' c'=>Lib.run_eql_slice_nil w _ _ a n c n' c' Tryz.underlying28
 obtain ⟨b,off,G,rfl,hb,hV,hN⟩:=h.vals h0
 have hgl:=hV.len
 have A:Hid (∀j u,(flatF G)[j]?=some u→(w.alloc (.cells #[] 50)).cell? ((⟨b,off,none⟩:Addr).add j)=some u):=fun j u hj=>by
  have hc:=hN j u hj
  have e:(⟨b,off,none⟩:Addr).add j=⟨b,off+j,none⟩:=by unfold Addr.add;split <;> simp_all
  rw [e] at hc ⊢
  exact ((new_below w (.cells #[] 50)).cell (p:=⟨b,off+j,none⟩) (Nat.lt_of_lt_of_le hb hB)).trans hc
 have ON:Hid ((w.alloc (.cells #[] 50)).ownsRow w.heap.size 50 3 (.slice (some ⟨w.heap.size,0,none⟩) 0 0) 0 []):=⟨rfl,.inr ⟨w.heap.size,0,#[],rfl,Nat.le_refl _,heap_alloc_new _ _,Nat.le_refl _,by unfold maxLen;omega,rfl,rfl⟩⟩
 have HV1:Hid (∀u ∈ flatF G,u.oneCell'=true):=hV.one
 have HV:Hid (Vals B w G fs):=hV
 have HL:Hid ((flatF G).length=fs.length*3):=by rw [flatF_length,hgl];exact rfl
 clear hN hV hgl
 go_enter Tryz.func99,Tryz.ntmps99
 go_wp2_with (at_builtin;refine wpList_append_own _ rfl _ _ 28 rfl w.heap.size 50 i0 _ 3 40 Tryz.underlying28 hi hz0 hz1 hz2 rfl (by decide) _ 0 [] rfl ON.out ⟨b,off,none⟩ fs.length cap (flatF G) rfl HL.out A.out HV1.out (by unfold maxLen;omega) (by omega) (by simp) ?_;intro v' w1 hown hgr hnil)
 go_ret
 have hbw:Below w.heap.size w w1:=((Below.refl _ w).alloc (Nat.le_refl _) _).grown hgr (by simp) (fun k hk=>Nat.le_of_eq (Option.some.inj hk))
 rw [Nat.zero_add,List.nil_append] at hown
 rcases hown.2 with ⟨rfl,e⟩|⟨g,cap',cur,rfl,_⟩
 ·omega
 ·exact ⟨g,cap',G,rfl,HV.out,hown,hbw⟩
end Go.Proofs.YthiojkjcmhojoaaGreat
