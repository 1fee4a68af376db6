import Derived.Test.YthiojkjcmhojoaaGreatGfBD
import Derived.Test.YthiojkjcmhojoaaGreatGfAS
import Derived.Test.YthiojkjcmhojoaaGreatGfAVX1
import Derived.Test.YthiojkjcmhojoaaGreatGfAL
namespace Go.Proofs.YthiojkjcmhojoaaGreat
set_option maxHeartbeats 16000000
open Go.ChangeShapes Go.WideShapes Go.ChangeAt Go.RowKit
set_option maxRecDepth 100000
set_option linter.unusedVariables false
set_option linter.unusedSimpArgs false
theorem zlj {A ar au al at' br bu bl bt tp tr tc tu:Int}:zj3 A (ar,au,al,at') (br,bu,bl,bt) (tp,tr,tc,tu)=(zpr ar au al at' tr tu A && zpr br bu bl bt tc tu A):=by
 rw [zck]
 unfold zpr
 generalize zgn ar au al at'=b1
 generalize zgn br bu bl bt=b2
 generalize decide (at'=A)=b3
 generalize decide (bt=A)=b4
 generalize decide (ar=tr)=b5
 generalize decide (br=tc)=b6
 generalize decide (au=tu)=b7
 generalize decide (bu=tu)=b8
 cases b1 <;> cases b2 <;> cases b3 <;> cases b4 <;> cases b5 <;> cases b6 <;> cases b7 <;> cases b8 <;> rfl
theorem zb7 {w w':World} (h:Below w.drew.heap.size w.drew w'):Below w.heap.size w w':=(Below.refl _ _).drew.trans h
theorem zhd {w:World} {a:Option Addr} (cap:Nat) {ts:List Q4} {c:Int} (hc:zah ts=c) (h:Quad w.heap.size w a ts) :
 Calls Tryz.prog 156 #[.slice a ts.length cap] w fun e w'=>e=.returned (.int .i64 c)∧Below w.heap.size w w':=by subst hc;exact zle cap h
theorem zm7 {w:World} {aT aO aP:Option Addr} (cT cO cP:Nat) {T O P:List Q4} (hT:Quad w.heap.size w aT T) (hO:Quad w.heap.size w aO O) (hP:Quad w.heap.size w aP P) :
 Calls Tryz.prog 125 #[zdb aT T.length cT aO O.length cO aP P.length cP] w fun e w'=>((zbf T O P=true∧e=.returned (.tuple #[]))∨(zbf T O P=false∧e=zgp))∧Below w.heap.size w w':=by
 by_cases hc:zah T=0
 rotate_left
 ·have HC:Hid (zbf T O P=false):=zs5 hc
  have nb:Below w.heap.size w (w.alloc (.cells #[.slice aT T.length cT,.slice aO O.length cO,.slice aP P.length cP] 27)):=zac _ _
  have hc':(zah T == 0)=false:=by simp [hc]
  go_enter Tryz.func125,Tryz.ntmps125
  go_wp2_with (first|(go_at_call 156;refine (zle cT (hT.here nb)).mono ?_;rintro e w2 ⟨rfl,hb2⟩)|(go_at_call 155;refine (zdg _).mono ?_;rintro e w3 ⟨rfl,rfl⟩))
  exact ⟨rfl,.inr ⟨HC.out,rfl⟩,zad nb hb2⟩
 by_cases hlo:O.length=T.length
 rotate_left
 ·have HC:Hid (zbf T O P=false):=zs6 hlo
  have nb:Below w.heap.size w (w.alloc (.cells #[.slice aT T.length cT,.slice aO O.length cO,.slice aP P.length cP] 27)):=zac _ _
  have hl':((O.length:Int) == (T.length:Int))=false:=by rw [beq_eq_false_iff_ne];omega
  have C0:Hid (Cells (w.alloc (.cells #[.slice aT T.length cT,.slice aO O.length cO,.slice aP P.length cP] 27)) [(w.heap.size,0,.slice aT T.length cT),(w.heap.size,1,.slice aO O.length cO),(w.heap.size,2,.slice aP P.length cP)]):=⟨⟨by simp,by go_simp⟩,⟨by simp,by go_simp⟩,⟨by simp,by go_simp⟩,trivial⟩
  go_enter Tryz.func125,Tryz.ntmps125
  go_wp2_with (first|(go_at_call 156;refine (zhd cT hc (hT.here nb)).mono ?_;rintro e w2 ⟨rfl,hb2⟩;have ⟨⟨z0,k0⟩,⟨z1,k1⟩,⟨z2,k2⟩,_⟩:=Cells.next hb2 C0.out;have m1:=hl')|(go_at_call_of 155 true;refine (zed _).mono ?_;rintro e w3 ⟨rfl,rfl⟩)|(go_at_call 155;refine (zdg _).mono ?_;rintro e w3 ⟨rfl,rfl⟩))
  exact ⟨rfl,.inr ⟨HC.out,rfl⟩,zad nb hb2⟩
 by_cases hlp:P.length=T.length
 rotate_left
 ·have HC:Hid (zbf T O P=false):=zs7 hlp
  have HLO:Hid (O.length=T.length):=hlo
  rw [hlo]
  have nb:Below w.heap.size w (w.alloc (.cells #[.slice aT T.length cT,.slice aO T.length cO,.slice aP P.length cP] 27)):=zac _ _
  have hl':((P.length:Int) == (T.length:Int))=false:=by rw [beq_eq_false_iff_ne];omega
  have C0:Hid (Cells (w.alloc (.cells #[.slice aT T.length cT,.slice aO T.length cO,.slice aP P.length cP] 27)) [(w.heap.size,0,.slice aT T.length cT),(w.heap.size,1,.slice aO T.length cO),(w.heap.size,2,.slice aP P.length cP)]):=⟨⟨by simp,by go_simp⟩,⟨by simp,by go_simp⟩,⟨by simp,by go_simp⟩,trivial⟩
  clear hlo
  go_enter Tryz.func125,Tryz.ntmps125
  go_wp2_with (first|(go_at_call 156;refine (zhd cT hc (hT.here nb)).mono ?_;rintro e w2 ⟨rfl,hb2⟩;have ⟨⟨z0,k0⟩,⟨z1,k1⟩,⟨z2,k2⟩,_⟩:=Cells.next hb2 C0.out;have m1:=hl')|(go_at_call_of 155 true;refine (zed _).mono ?_;rintro e w3 ⟨rfl,rfl⟩)|(go_at_call 155;refine (zdg _).mono ?_;rintro e w3 ⟨rfl,rfl⟩))
  exact ⟨rfl,.inr ⟨HC.out,rfl⟩,zad nb hb2⟩
 have ht:=zfj hc
 have hl1:=ht.l0
 have hl30:=ht.l1
 clear ht
 have HLO:Hid (O.length=T.length):=hlo
 have HLP:Hid (P.length=T.length):=hlp
 rw [hlo,hlp]
 clear hlo hlp
 have h0O:0<O.length:=by have:=HLO.out;omega
 have hln:(T.length:Int)≤30:=by omega
 have hl0:(0:Int)<(T.length:Int):=by omega
 obtain ⟨A,hA⟩:∃A,O[0].2.2.2=A:=⟨_,rfl⟩
 have HA:Hid (zdv O=A):=by
  show zdv O=A
  unfold zdv
  rw [List.getElem?_eq_getElem h0O,←hA]
 obtain ⟨bo,oo,hao,hbo,_,_,_,qA⟩:=hO.at (Below.refl _ _) 0 h0O
 rw [hA,Nat.zero_mul,Nat.add_zero] at qA
 subst hao
 clear hA
 have nb:Below w.heap.size w (w.alloc (.cells #[.slice aT T.length cT,.slice (some ⟨bo,oo,none⟩) T.length cO,.slice aP T.length cP] 27)):=zac _ _
 have c0:(w.alloc (.cells #[.slice aT T.length cT,.slice (some ⟨bo,oo,none⟩) T.length cO,.slice aP T.length cP] 27)).cell? ⟨w.heap.size,0,none⟩=some (.slice aT T.length cT):=by go_simp
 have c1:(w.alloc (.cells #[.slice aT T.length cT,.slice (some ⟨bo,oo,none⟩) T.length cO,.slice aP T.length cP] 27)).cell? ⟨w.heap.size,1,none⟩=some (.slice (some ⟨bo,oo,none⟩) T.length cO):=by go_simp
 have c2:(w.alloc (.cells #[.slice aT T.length cT,.slice (some ⟨bo,oo,none⟩) T.length cO,.slice aP T.length cP] 27)).cell? ⟨w.heap.size,2,none⟩=some (.slice aP T.length cP):=by go_simp
 have zb:w.heap.size<(w.alloc (.cells #[.slice aT T.length cT,.slice (some ⟨bo,oo,none⟩) T.length cO,.slice aP T.length cP] 27)).heap.size:=by simp
 go_enter Tryz.func125,Tryz.ntmps125
 go_upto_region 4 with (first|(go_at_call 156;refine (zhd cT hc (hT.here nb)).mono ?_;rintro e w2 ⟨rfl,hb2⟩;have k0:=(zag hb2 _ _ zb).trans c0;have k1:=(zag hb2 _ _ zb).trans c1;have k2:=(zag hb2 _ _ zb).trans c2;have kA:=((zad nb hb2).cell (p:=⟨bo,oo+3,none⟩) hbo).trans qA)|(go_at_call 155;refine (zed _).mono ?_;rintro e w3 ⟨rfl,rfl⟩))
 go_wp2
 clear kA
 have hb0:Below w.heap.size w w2:=zad nb hb2
 have zb2:w.heap.size<w2.heap.size:=Nat.lt_of_lt_of_le zb hb2.size
 clear c0 c1 c2 zb nb hb2
 go_loopw [35] (fun i wr=>∃k:Nat,i=.int .i64 k∧k≤T.length∧Hid (zdq T O P k=true)∧Below w2.heap.size w2 wr) (fun i _=>T.length-(intOf i).toNat)
 case atStart=>exact ⟨0,rfl,by omega,rfl,Below.refl _ _⟩
 case round =>
  obtain ⟨k,rfl,hk,HF,hbr⟩:=hrel
  have q0:=(zag hbr _ _ zb2).trans k0
  have q1:=(zag hbr _ _ zb2).trans k1
  have q2:=(zag hbr _ _ zb2).trans k2
  clear k0 k1 k2
  have hbw:Below w.heap.size w wr:=zad hb0 hbr
  have zr:=hbr.size
  have zr':w.heap.size<wr.heap.size:=by omega
  by_cases hlt:k<T.length
  ·have hlt':(k:Int)<(T.length:Int):=by omega
   have hko:k<O.length:=by have:=HLO.out;omega
   have hkp:k<P.length:=by have:=HLP.out;omega
   obtain ⟨_,_,e1,hb1,x0,x1,x2,x3⟩:=hO.at hbw k hko
   cases e1
   obtain ⟨bp,op,rfl,hb4,y0,y1,y2,y3⟩:=hP.at hbw k hkp
   obtain ⟨bt',ot,rfl,hb5,t0,t1,t2,t3⟩:=hT.at hbw k hlt
   have HPA:=zij hlt hko hkp
   obtain ⟨xa,hxa⟩:∃x,O[k]=x:=⟨_,rfl⟩
   obtain ⟨xb,hxb⟩:∃x,P[k]=x:=⟨_,rfl⟩
   obtain ⟨xt,hxt⟩:∃x,T[k]=x:=⟨_,rfl⟩
   rw [hxa,hxb,hxt,HA.out] at HPA
   rw [hxa] at x0 x1 x2 x3
   rw [hxb] at y0 y1 y2 y3
   rw [hxt] at t0 t1 t2 t3
   obtain ⟨ar,au,al,at'⟩:=xa
   obtain ⟨br,bu,bl,bt⟩:=xb
   obtain ⟨tp,tr,tc,tu⟩:=xt
   simp only at x0 x1 x2 x3 y0 y1 y2 y3 t0 t1 t2 t3
   clear hxa hxb hxt
   have HPA:Hid (zfx T O P k=zj3 A (ar,au,al,at') (br,bu,bl,bt) (tp,tr,tc,tu)):=HPA
   have hbq:Below w2.heap.size w2 (wr.alloc (.cells #[.int .i64 tp,.int .i64 tr,.int .i64 tc,.int .i64 tu] 110)):=by go_grown
   have hbq2:Below w.heap.size w (wr.alloc (.cells #[.int .i64 tp,.int .i64 tr,.int .i64 tc,.int .i64 tu] 110)):=by go_grown
   have s1:bo<wr.heap.size:=by omega
   have s2:bp<wr.heap.size:=by omega
   have s3:bt'<wr.heap.size:=by omega
   have s4:bt'<wr.heap.size+1:=by omega
   have s5:w.heap.size<wr.heap.size+1:=by omega
   have nbw:Below wr.heap.size wr (wr.alloc (.cells #[.int .i64 tp,.int .i64 tr,.int .i64 tc,.int .i64 tu] 110)):=zac _ _
   have KC:Hid (Cells (wr.alloc (.cells #[.int .i64 tp,.int .i64 tr,.int .i64 tc,.int .i64 tu] 110)) [(w.heap.size,1,.slice (some ⟨bo,oo,none⟩) T.length cO),(bo,oo+k*4,.int .i64 ar),(bo,oo+k*4+1,.int .i64 au),(bo,oo+k*4+2,.int .i64 al),(bo,oo+k*4+3,.int .i64 at'),(wr.heap.size,1,.int .i64 tr),(wr.heap.size,3,.int .i64 tu),(w.heap.size,2,.slice (some ⟨bp,op,none⟩) T.length cP),(bp,op+k*4,.int .i64 br),(bp,op+k*4+1,.int .i64 bu),(bp,op+k*4+2,.int .i64 bl),(bp,op+k*4+3,.int .i64 bt),(wr.heap.size,2,.int .i64 tc),(wr.heap.size,3,.int .i64 tu)]):=⟨⟨by simp <;> omega,by go_simp⟩,⟨by simp <;> omega,by go_simp⟩,⟨by simp <;> omega,by go_simp⟩,⟨by simp <;> omega,by go_simp⟩,⟨by simp <;> omega,by go_simp⟩,⟨by simp <;> omega,by go_simp⟩,⟨by simp <;> omega,by go_simp⟩,⟨by simp <;> omega,by go_simp⟩,⟨by simp <;> omega,by go_simp⟩,⟨by simp <;> omega,by go_simp⟩,⟨by simp <;> omega,by go_simp⟩,⟨by simp <;> omega,by go_simp⟩,⟨by simp <;> omega,by go_simp⟩,⟨by simp <;> omega,by go_simp⟩,trivial⟩
   have HS1:Hid ((wr.alloc (.cells #[.int .i64 tp,.int .i64 tr,.int .i64 tc,.int .i64 tu] 110)).cell? ⟨w.heap.size,1,none⟩=some (.slice (some ⟨bo,oo,none⟩) T.length cO)∧(wr.alloc (.cells #[.int .i64 tp,.int .i64 tr,.int .i64 tc,.int .i64 tu] 110)).cell? ⟨bo,oo+k*4,none⟩=some (.int .i64 ar)∧(wr.alloc (.cells #[.int .i64 tp,.int .i64 tr,.int .i64 tc,.int .i64 tu] 110)).cell? ⟨bo,oo+k*4+1,none⟩=some (.int .i64 au)∧(wr.alloc (.cells #[.int .i64 tp,.int .i64 tr,.int .i64 tc,.int .i64 tu] 110)).cell? ⟨bo,oo+k*4+2,none⟩=some (.int .i64 al)∧(wr.alloc (.cells #[.int .i64 tp,.int .i64 tr,.int .i64 tc,.int .i64 tu] 110)).cell? ⟨bo,oo+k*4+3,none⟩=some (.int .i64 at')∧(wr.alloc (.cells #[.int .i64 tp,.int .i64 tr,.int .i64 tc,.int .i64 tu] 110)).cell? ⟨wr.heap.size,1,none⟩=some (.int .i64 tr)∧(wr.alloc (.cells #[.int .i64 tp,.int .i64 tr,.int .i64 tc,.int .i64 tu] 110)).cell? ⟨wr.heap.size,3,none⟩=some (.int .i64 tu)):=(by have ⟨⟨_,r0⟩,⟨_,r1⟩,⟨_,r2⟩,⟨_,r3⟩,⟨_,r4⟩,⟨_,r5⟩,⟨_,r6⟩,⟨_,r7⟩,⟨_,r8⟩,⟨_,r9⟩,⟨_,r10⟩,⟨_,r11⟩,⟨_,r12⟩,⟨_,r13⟩,_⟩:=KC.out;exact ⟨r0,r1,r2,r3,r4,r5,r6⟩)
   have hstep1:Hid (∀w3,Below (wr.alloc (.cells #[.int .i64 tp,.int .i64 tr,.int .i64 tc,.int .i64 tu] 110)).heap.size (wr.alloc (.cells #[.int .i64 tp,.int .i64 tr,.int .i64 tc,.int .i64 tu] 110)) w3→(w3.cell? ⟨w.heap.size,1,none⟩=some (.slice (some ⟨bo,oo,none⟩) T.length cO)∧w3.cell? ⟨bo,oo+k*4,none⟩=some (.int .i64 ar)∧w3.cell? ⟨bo,oo+k*4+1,none⟩=some (.int .i64 au)∧w3.cell? ⟨bo,oo+k*4+2,none⟩=some (.int .i64 al)∧w3.cell? ⟨bo,oo+k*4+3,none⟩=some (.int .i64 at')∧w3.cell? ⟨wr.heap.size,1,none⟩=some (.int .i64 tr)∧w3.cell? ⟨wr.heap.size,3,none⟩=some (.int .i64 tu))):=fun w3 h=>(by have ⟨⟨_,r0⟩,⟨_,r1⟩,⟨_,r2⟩,⟨_,r3⟩,⟨_,r4⟩,⟨_,r5⟩,⟨_,r6⟩,⟨_,r7⟩,⟨_,r8⟩,⟨_,r9⟩,⟨_,r10⟩,⟨_,r11⟩,⟨_,r12⟩,⟨_,r13⟩,_⟩:=Cells.next h KC.out;exact ⟨r0,r1,r2,r3,r4,r5,r6⟩)
   have hnext2:Hid (∀w3,Below (wr.alloc (.cells #[.int .i64 tp,.int .i64 tr,.int .i64 tc,.int .i64 tu] 110)).heap.size (wr.alloc (.cells #[.int .i64 tp,.int .i64 tr,.int .i64 tc,.int .i64 tu] 110)) w3→Hid (w3.cell? ⟨w.heap.size,2,none⟩=some (.slice (some ⟨bp,op,none⟩) T.length cP)∧w3.cell? ⟨bp,op+k*4,none⟩=some (.int .i64 br)∧w3.cell? ⟨bp,op+k*4+1,none⟩=some (.int .i64 bu)∧w3.cell? ⟨bp,op+k*4+2,none⟩=some (.int .i64 bl)∧w3.cell? ⟨bp,op+k*4+3,none⟩=some (.int .i64 bt)∧w3.cell? ⟨wr.heap.size,2,none⟩=some (.int .i64 tc)∧w3.cell? ⟨wr.heap.size,3,none⟩=some (.int .i64 tu))):=fun w3 h=>(by have ⟨⟨_,r0⟩,⟨_,r1⟩,⟨_,r2⟩,⟨_,r3⟩,⟨_,r4⟩,⟨_,r5⟩,⟨_,r6⟩,⟨_,r7⟩,⟨_,r8⟩,⟨_,r9⟩,⟨_,r10⟩,⟨_,r11⟩,⟨_,r12⟩,⟨_,r13⟩,_⟩:=Cells.next h KC.out;exact ⟨r7,r8,r9,r10,r11,r12,r13⟩)
   have hstep2:Hid (∀w3,Below (wr.alloc (.cells #[.int .i64 tp,.int .i64 tr,.int .i64 tc,.int .i64 tu] 110)).heap.size (wr.alloc (.cells #[.int .i64 tp,.int .i64 tr,.int .i64 tc,.int .i64 tu] 110)) w3→∀w4,Below w3.heap.size w3 w4→(w4.cell? ⟨w.heap.size,2,none⟩=some (.slice (some ⟨bp,op,none⟩) T.length cP)∧w4.cell? ⟨bp,op+k*4,none⟩=some (.int .i64 br)∧w4.cell? ⟨bp,op+k*4+1,none⟩=some (.int .i64 bu)∧w4.cell? ⟨bp,op+k*4+2,none⟩=some (.int .i64 bl)∧w4.cell? ⟨bp,op+k*4+3,none⟩=some (.int .i64 bt)∧w4.cell? ⟨wr.heap.size,2,none⟩=some (.int .i64 tc)∧w4.cell? ⟨wr.heap.size,3,none⟩=some (.int .i64 tu))):=fun w3 h w4 h4=>(by have ⟨⟨_,r0⟩,⟨_,r1⟩,⟨_,r2⟩,⟨_,r3⟩,⟨_,r4⟩,⟨_,r5⟩,⟨_,r6⟩,⟨_,r7⟩,⟨_,r8⟩,⟨_,r9⟩,⟨_,r10⟩,⟨_,r11⟩,⟨_,r12⟩,⟨_,r13⟩,_⟩:=Cells.next h4 (Cells.next h KC.out);exact ⟨r7,r8,r9,r10,r11,r12,r13⟩)
   have fin1:∀w3,Below (wr.alloc (.cells #[.int .i64 tp,.int .i64 tr,.int .i64 tc,.int .i64 tu] 110)).heap.size (wr.alloc (.cells #[.int .i64 tp,.int .i64 tr,.int .i64 tc,.int .i64 tu] 110)) w3→Below w.heap.size w w3:=fun w3 h=>zad hbq2 h
   have fin2:∀w3 w4,Below (wr.alloc (.cells #[.int .i64 tp,.int .i64 tr,.int .i64 tc,.int .i64 tu] 110)).heap.size (wr.alloc (.cells #[.int .i64 tp,.int .i64 tr,.int .i64 tc,.int .i64 tu] 110)) w3→Below w3.heap.size w3 w4→Below w.heap.size w w4:=fun w3 w4 h h4=>zad (zad hbq2 h) h4
   clear KC
   cases g1:zpr ar au al at' tr tu A
   ·skip
    have HC:Hid (zbf T O P=false):=zd6 (k:=k) (by rw [HPA.out,zlj];simp [g1]) hlt
    clear HPA
    go_upto_region 7 with (fail)
    refine wp_region_held_drew (S:=fun w'=>w'.cell? ⟨w.heap.size,1,none⟩=some (.slice (some ⟨bo,oo,none⟩) T.length cO)∧w'.cell? ⟨bo,oo+k*4,none⟩=some (.int .i64 ar)∧w'.cell? ⟨bo,oo+k*4+1,none⟩=some (.int .i64 au)∧w'.cell? ⟨bo,oo+k*4+2,none⟩=some (.int .i64 al)∧w'.cell? ⟨bo,oo+k*4+3,none⟩=some (.int .i64 at')∧w'.cell? ⟨wr.heap.size,1,none⟩=some (.int .i64 tr)∧w'.cell? ⟨wr.heap.size,3,none⟩=some (.int .i64 tu)) (by kernel_rfl) (HS1.out) (fun hS=>?_)
    refine zab 0 rfl ?_
    refine zab 1 rfl ?_
    refine zab 2 rfl ?_
    refine zab 3 rfl ?_
    refine zab 4 rfl ?_
    refine zab 5 rfl ?_
    refine zab 6 rfl ?_
    refine zab 7 rfl ?_
    refine zab 8 rfl ?_
    refine zab 9 rfl ?_
    refine zab 10 rfl ?_
    refine zci 11 rfl fun K hK=>?_
    go_simp
    (refine (zlh g1 _).mono ?_;rintro e wa ⟨rfl,hba⟩;have hba:=zb7 hba;have hSa:=hstep1.out _ hba)
    refine hK.out _ _ ‹_› fun _=>?_
    try simp only [nrm]
    refine zci 12 rfl fun K hK=>?_
    go_simp
    (refine (zdg _).mono ?_;rintro e wz ⟨rfl,rfl⟩)
    exact ⟨rfl,.inr ⟨HC.out,rfl⟩,fin1 _ hba⟩
   cases g2:zpr br bu bl bt tc tu A
   ·skip
    have HC:Hid (zbf T O P=false):=zd6 (k:=k) (by rw [HPA.out,zlj];simp [g1,g2]) hlt
    clear HPA
    go_upto_region 7 with (fail)
    refine wp_region_held_drew (S:=fun w'=>w'.cell? ⟨w.heap.size,1,none⟩=some (.slice (some ⟨bo,oo,none⟩) T.length cO)∧w'.cell? ⟨bo,oo+k*4,none⟩=some (.int .i64 ar)∧w'.cell? ⟨bo,oo+k*4+1,none⟩=some (.int .i64 au)∧w'.cell? ⟨bo,oo+k*4+2,none⟩=some (.int .i64 al)∧w'.cell? ⟨bo,oo+k*4+3,none⟩=some (.int .i64 at')∧w'.cell? ⟨wr.heap.size,1,none⟩=some (.int .i64 tr)∧w'.cell? ⟨wr.heap.size,3,none⟩=some (.int .i64 tu)) (by kernel_rfl) (HS1.out) (fun hS=>?_)
    refine zab 0 rfl ?_
    refine zab 1 rfl ?_
    refine zab 2 rfl ?_
    refine zab 3 rfl ?_
    refine zab 4 rfl ?_
    refine zab 5 rfl ?_
    refine zab 6 rfl ?_
    refine zab 7 rfl ?_
    refine zab 8 rfl ?_
    refine zab 9 rfl ?_
    refine zab 10 rfl ?_
    refine zci 11 rfl fun K hK=>?_
    go_simp
    (refine (zlh g1 _).mono ?_;rintro e wa ⟨rfl,hba⟩;have hba:=zb7 hba;have hSa:=hstep1.out _ hba)
    refine hK.out _ _ ‹_› fun _=>?_
    try simp only [nrm]
    refine zci 12 rfl fun K hK=>?_
    go_simp
    (refine (zed _).mono ?_;rintro e wz ⟨rfl,rfl⟩)
    refine hK.out _ _ ‹_› fun _=>?_
    try simp only [nrm]
    refine wpAnyH_done (by kernel_rfl) ?_ _
    repeat go_step
    have HS2:=hnext2.out _ hba
    refine wp_region_held_drew (S:=fun w'=>w'.cell? ⟨w.heap.size,2,none⟩=some (.slice (some ⟨bp,op,none⟩) T.length cP)∧w'.cell? ⟨bp,op+k*4,none⟩=some (.int .i64 br)∧w'.cell? ⟨bp,op+k*4+1,none⟩=some (.int .i64 bu)∧w'.cell? ⟨bp,op+k*4+2,none⟩=some (.int .i64 bl)∧w'.cell? ⟨bp,op+k*4+3,none⟩=some (.int .i64 bt)∧w'.cell? ⟨wr.heap.size,2,none⟩=some (.int .i64 tc)∧w'.cell? ⟨wr.heap.size,3,none⟩=some (.int .i64 tu)) (by kernel_rfl) (HS2.out) (fun hS=>?_)
    refine zab 0 rfl ?_
    refine zab 1 rfl ?_
    refine zab 2 rfl ?_
    refine zab 3 rfl ?_
    refine zab 4 rfl ?_
    refine zab 5 rfl ?_
    refine zab 6 rfl ?_
    refine zab 7 rfl ?_
    refine zab 8 rfl ?_
    refine zab 9 rfl ?_
    refine zab 10 rfl ?_
    refine zci 11 rfl fun K hK=>?_
    go_simp
    (refine (zlh g2 _).mono ?_;rintro e wb ⟨rfl,hbb⟩;have hbb:=zb7 hbb;have hSb:=hstep2.out _ hba _ hbb)
    refine hK.out _ _ ‹_› fun _=>?_
    try simp only [nrm]
    refine zci 12 rfl fun K hK=>?_
    go_simp
    (refine (zdg _).mono ?_;rintro e wz ⟨rfl,rfl⟩)
    exact ⟨rfl,.inr ⟨HC.out,rfl⟩,fin2 _ _ hba hbb⟩
   ·skip
    have HPB:Hid (zdq T O P (k+1)=true):=by
     show (zdq T O P k && zfx T O P k)=true
     rw [HF.out,HPA.out,zlj]
     simp [g1,g2]
    clear HPA
    go_upto_region 7 with (fail)
    refine wp_region_held_drew (S:=fun w'=>w'.cell? ⟨w.heap.size,1,none⟩=some (.slice (some ⟨bo,oo,none⟩) T.length cO)∧w'.cell? ⟨bo,oo+k*4,none⟩=some (.int .i64 ar)∧w'.cell? ⟨bo,oo+k*4+1,none⟩=some (.int .i64 au)∧w'.cell? ⟨bo,oo+k*4+2,none⟩=some (.int .i64 al)∧w'.cell? ⟨bo,oo+k*4+3,none⟩=some (.int .i64 at')∧w'.cell? ⟨wr.heap.size,1,none⟩=some (.int .i64 tr)∧w'.cell? ⟨wr.heap.size,3,none⟩=some (.int .i64 tu)) (by kernel_rfl) (HS1.out) (fun hS=>?_)
    refine zab 0 rfl ?_
    refine zab 1 rfl ?_
    refine zab 2 rfl ?_
    refine zab 3 rfl ?_
    refine zab 4 rfl ?_
    refine zab 5 rfl ?_
    refine zab 6 rfl ?_
    refine zab 7 rfl ?_
    refine zab 8 rfl ?_
    refine zab 9 rfl ?_
    refine zab 10 rfl ?_
    refine zci 11 rfl fun K hK=>?_
    go_simp
    (refine (zlh g1 _).mono ?_;rintro e wa ⟨rfl,hba⟩;have hba:=zb7 hba;have hSa:=hstep1.out _ hba)
    refine hK.out _ _ ‹_› fun _=>?_
    try simp only [nrm]
    refine zci 12 rfl fun K hK=>?_
    go_simp
    (refine (zed _).mono ?_;rintro e wz ⟨rfl,rfl⟩)
    refine hK.out _ _ ‹_› fun _=>?_
    try simp only [nrm]
    refine wpAnyH_done (by kernel_rfl) ?_ _
    repeat go_step
    have HS2:=hnext2.out _ hba
    refine wp_region_held_drew (S:=fun w'=>w'.cell? ⟨w.heap.size,2,none⟩=some (.slice (some ⟨bp,op,none⟩) T.length cP)∧w'.cell? ⟨bp,op+k*4,none⟩=some (.int .i64 br)∧w'.cell? ⟨bp,op+k*4+1,none⟩=some (.int .i64 bu)∧w'.cell? ⟨bp,op+k*4+2,none⟩=some (.int .i64 bl)∧w'.cell? ⟨bp,op+k*4+3,none⟩=some (.int .i64 bt)∧w'.cell? ⟨wr.heap.size,2,none⟩=some (.int .i64 tc)∧w'.cell? ⟨wr.heap.size,3,none⟩=some (.int .i64 tu)) (by kernel_rfl) (HS2.out) (fun hS=>?_)
    refine zab 0 rfl ?_
    refine zab 1 rfl ?_
    refine zab 2 rfl ?_
    refine zab 3 rfl ?_
    refine zab 4 rfl ?_
    refine zab 5 rfl ?_
    refine zab 6 rfl ?_
    refine zab 7 rfl ?_
    refine zab 8 rfl ?_
    refine zab 9 rfl ?_
    refine zab 10 rfl ?_
    refine zci 11 rfl fun K hK=>?_
    go_simp
    (refine (zlh g2 _).mono ?_;rintro e wb ⟨rfl,hbb⟩;have hbb:=zb7 hbb;have hSb:=hstep2.out _ hba _ hbb)
    refine hK.out _ _ ‹_› fun _=>?_
    try simp only [nrm]
    refine zci 12 rfl fun K hK=>?_
    go_simp
    (refine (zed _).mono ?_;rintro e wz ⟨rfl,rfl⟩)
    refine hK.out _ _ ‹_› fun _=>?_
    try simp only [nrm]
    refine wpAnyH_done (by kernel_rfl) ?_ _
    repeat go_step
    go_roundw
    case rel=>exact ⟨k+1,by go_num,by omega,HPB,zad (zad hbq hba) hbb⟩
    case measure=>simp [intOf]<;>omega
  ·have e:k=T.length:=by omega
   subst e
   have HC:Hid (zbf T O P=true):=zs8 hc HLO.out HLP.out HF.out
   go_wp2
   go_end0
   exact ⟨.inl ⟨HC.out,rfl⟩,hbw⟩
theorem zip {w:World} {aT aO aP:Option Addr} (cT cO cP:Nat) {T O P:List Q4} (hf:zbf T O P=true) (hT:Quad w.heap.size w aT T) (hO:Quad w.heap.size w aO O) (hP:Quad w.heap.size w aP P) :
 Calls Tryz.prog 125 #[zdb aT T.length cT aO O.length cO aP P.length cP] w fun e w'=>e=.returned (.tuple #[])∧Below w.heap.size w w':=(zm7 cT cO cP hT hO hP).mono (by
 rintro e w' ⟨⟨_,h⟩|⟨h,_⟩,hb⟩
 ·exact ⟨h,hb⟩
 ·rw [hf] at h;cases h)
theorem zti {w:World} {aT aO aP:Option Addr} (cT cO cP:Nat) {T O P:List Q4} (hf:zbf T O P=false) (hT:Quad w.heap.size w aT T) (hO:Quad w.heap.size w aO O) (hP:Quad w.heap.size w aP P) :
 Calls Tryz.prog 125 #[zdb aT T.length cT aO O.length cO aP P.length cP] w fun e w'=>e=zgp∧Below w.heap.size w w':=(zm7 cT cO cP hT hO hP).mono (by
 rintro e w' ⟨⟨h,_⟩|⟨_,h⟩,hb⟩
 ·rw [hf] at h;cases h
 ·exact ⟨h,hb⟩)
def znx (w:World) (T O P:List Q4) (e:Ending) (w':World):Prop:=∃a1 n1 c1 a2 n2 c2 a3 n3 c3,e=.returned (zdb a1 n1 c1 a2 n2 c2 a3 n3 c3)∧LV w' w.heap.size (.slice a1 n1 c1) (.slice a2 n2 c2) (.slice a3 n3 c3) T O P∧Below w.heap.size w w'
def RowQ (w:World) (N:List Q4) (e:Ending) (w':World):Prop:=∃v,e=.returned v∧w'.ownsRow w.heap.size 110 4 v N.length (zaz N)∧Below w.heap.size w w'
theorem zm8 {w:World} {b off:Nat} (cap:Nat) {xs:List Q4} (h:Quad w.heap.size w (some ⟨b,off,none⟩) xs) (hl:xs.length≤1000) :
 Calls Tryz.prog 97 #[.slice (some ⟨b,off,none⟩) xs.length cap] w (RowQ w xs):=by
 obtain ⟨i0,hi,hz0,hz1,hz2⟩:=info_parts zg7
 have q:∀(w:World) (a:Option Addr) (n c n' c':Nat),(binOp .eql 24 (.slice a n c) (.slice none n' c')).run Tryz.prog w=.ok (.bool a.isNone) w:=fun w a n c n' c'=>Lib.run_eql_slice_nil w _ _ a n c n' c' Tryz.underlying24
 have A:Hid (∀j u,(zaz xs)[j]?=some u→(w.alloc (.cells #[] 110)).cell? ((⟨b,off,none⟩:Addr).add j)=some u):=zfw (h.here (zac _ _))
 go_enter Tryz.func97,Tryz.ntmps97
 go_wp2_with (at_builtin;refine wpList_append_own _ rfl _ _ 24 rfl w.heap.size 110 i0 _ 4 32 Tryz.underlying24 hi hz0 hz1 hz2 rfl (by decide) _ 0 [] rfl (zfv w _ (Nat.le_refl _) _) ⟨b,off,none⟩ xs.length cap (zaz xs) rfl (zcg xs) A.out (zcm xs) (by unfold maxLen;omega) (by omega) (by simp) ?_;intro v' w1 hown hgr hnil)
 go_ret
 exact ⟨v',rfl,by simpa using hown,((Below.refl _ w).alloc (Nat.le_refl _) _).grown hgr (by simp) (fun k hk=>Nat.le_of_eq (Option.some.inj hk))⟩
theorem zero3 (w:World):Kept w [(w.heap.size,0,.slice none 0 0),(w.heap.size,1,.slice none 0 0),(w.heap.size,2,.slice none 0 0)] [w.heap.size] (w.alloc (.cells #[.slice none 0 0,.slice none 0 0,.slice none 0 0] 27)) :=
 ⟨⟨⟨by simp,by go_simp⟩,⟨by simp,by go_simp⟩,⟨by simp,by go_simp⟩,trivial⟩,(fun b hb=>by rw [show b=w.heap.size by simpa using hb];exact ⟨by simp,fun o=>by go_simp⟩),zac _ _⟩
theorem zyi {w w2 w3:World} {aV:Option Addr} {cV:Nat} {T:List Q4} (k:Kept w [(w.heap.size,0,.slice none 0 0),(w.heap.size,1,.slice none 0 0),(w.heap.size,2,.slice none 0 0)] [w.heap.size] w2) (hs:w.heap.size+1≤w2.heap.size) (ho:w3.ownsRow w2.heap.size 110 4 (.slice aV T.length cV) T.length (zaz T)) (hb:Below w2.heap.size w2 w3) :
 NlSt w (w3.alloc (.cells #[.slice aV T.length cV,.slice none 0 0,.slice none 0 0] 27)) w3.heap.size (.slice aV T.length cV) (.slice none 0 0) (.slice none 0 0) T [] []:=by
 have K5:=(k.next hb).next (zac w3 (.cells #[.slice aV T.length cV,.slice none 0 0,.slice none 0 0] 27))
 obtain ⟨⟨e0,e1,e2,_⟩,hf,hbb⟩:=K5
 have hz:=hb.size
 refine ⟨⟨⟨e0,e1,e2,⟨by simp,by go_simp⟩,⟨by simp,by go_simp⟩,⟨by simp,by go_simp⟩,trivial⟩,(fun b hb=>by simp only [List.mem_cons,List.not_mem_nil,or_false] at hb;rcases hb with rfl|rfl;exact hf _ (List.mem_singleton.2 rfl);exact ⟨by simp,fun o=>by go_simp⟩),hbb⟩,zca (ho.alloc _) hs,World.ownsRow_nil _ _ _ _,World.ownsRow_nil _ _ _ _,(fun g e=>by cases e),by omega,by simp,(fun e=>by have:=(ho.lt _ e).2;omega),(fun e=>by cases e),(fun e=>by cases e)⟩
theorem zny {W W':World} {c:Nat} {row:Option Nat} {u0 u1 u2:Value} (hc:Cells W [(c,1,u0),(c,2,u1),(c,3,u2)]) (hg:W.grownBy W' row) (h1:row≠some c):Cells W' [(c,1,u0),(c,2,u1),(c,3,u2)]:=by
 refine Cells.onlyO (OnlyO.of_grown hg) (fun x hx e=>?_) hc
 simp only [List.mem_cons,List.not_mem_nil,or_false] at hx
 rcases hx with rfl|rfl|rfl <;> exact h1 e
theorem zpu {b:Q4} {now r u y1 y2 y3 y4:Int} (h:zfc now r u b=(y1,y2,y3,y4)) (w:World):Calls Tryz.prog 169 #[.agg #[.int .i64 b.1,.int .i64 b.2.1,.int .i64 b.2.2.1,.int .i64 b.2.2.2],.int .i64 r,.int .i64 u,.int .i64 now] w fun e w'=>e=.returned (.agg #[.int .i64 y1,.int .i64 y2,.int .i64 y3,.int .i64 y4])∧Below w.heap.size w w':=by
 have k:=znr b.1 b.2.1 b.2.2.1 b.2.2.2 r u now w
 unfold zfc at h
 rw [h] at k
 exact k
theorem zq7 {w:World} {aT aO aP aS:Option Addr} (cT cO cP cS:Nat) {T O P S:List Q4} (now:Int) (hT:Quad w.heap.size w aT T) (hO:Quad w.heap.size w aO O) (hP:Quad w.heap.size w aP P) (hS:Quad w.heap.size w aS S) (hoff:zbf T O P=false∨¬zah S=0∨¬S.length=T.length) :
 Calls Tryz.prog 139 #[zdb aT T.length cT aO O.length cO aP P.length cP,.slice aS S.length cS,.int .i64 now] w fun e w'=>e=zgp∧Below w.heap.size w w':=by
 have nb:Below w.heap.size w ((w.alloc (.cells #[.slice aT T.length cT,.slice aO O.length cO,.slice aP P.length cP] 27)).alloc (.cells #[.slice none 0 0,.slice none 0 0,.slice none 0 0] 27)):=by go_grown
 have C0:Hid (Cells ((w.alloc (.cells #[.slice aT T.length cT,.slice aO O.length cO,.slice aP P.length cP] 27)).alloc (.cells #[.slice none 0 0,.slice none 0 0,.slice none 0 0] 27)) [(w.heap.size,0,.slice aT T.length cT)]):=⟨⟨by simp <;> omega,by go_simp⟩,trivial⟩
 cases hl:zbf T O P
 ·clear hoff
  go_enter Tryz.func139,Tryz.ntmps139
  go_wp2_with (first|(go_at_call 125;refine (zti cT cO cP hl (hT.here nb) (hO.here nb) (hP.here nb)).mono ?_;rintro e w2 ⟨rfl,hb2⟩))
  exact ⟨rfl,rfl,zad nb hb2⟩
 by_cases hc:zah S=0
 rotate_left
 ·have hc':(zah S == 0)=false:=by simp [hc]
  clear hoff
  go_enter Tryz.func139,Tryz.ntmps139
  go_wp2_with (first|(go_at_call 125;refine (zip cT cO cP hl (hT.here nb) (hO.here nb) (hP.here nb)).mono ?_;rintro e w2 ⟨rfl,hb2⟩;have hb2w:=zad nb hb2)|(go_at_call 156;refine (zle cS (hS.here hb2w)).mono ?_;rintro e w4 ⟨rfl,hb4⟩)|(go_at_call 155;refine (zdg _).mono ?_;rintro e w3 ⟨rfl,rfl⟩))
  exact ⟨rfl,rfl,zad hb2w hb4⟩
 have hls:¬S.length=T.length:=by rcases hoff with h|h|h;rw [hl] at h;cases h;exact absurd hc h;exact h
 have hls':((S.length:Int) == (T.length:Int))=false:=by rw [beq_eq_false_iff_ne];omega
 clear hoff
 go_enter Tryz.func139,Tryz.ntmps139
 go_wp2_with (first|(go_at_call 125;refine (zip cT cO cP hl (hT.here nb) (hO.here nb) (hP.here nb)).mono ?_;rintro e w2 ⟨rfl,hb2⟩;have hb2w:=zad nb hb2)|(go_at_call 156;refine (zhd cS hc (hS.here hb2w)).mono ?_;rintro e w4 ⟨rfl,hb4⟩;have ⟨⟨_,j0⟩,_⟩:=Cells.next hb4 (Cells.next hb2 C0.out))|(go_at_call 155;refine (zdg _).mono ?_;rintro e w3 ⟨rfl,rfl⟩))
 exact ⟨rfl,rfl,zad hb2w hb4⟩
theorem zup {w:World} {aT aO aP aS:Option Addr} (cT cO cP cS:Nat) {T O P S:List Q4} (now:Int) (hT:Quad w.heap.size w aT T) (hO:Quad w.heap.size w aO O) (hP:Quad w.heap.size w aP P) (hS:Quad w.heap.size w aS S) (hl:zbf T O P=true) (hc:zah S=0) (hls:S.length=T.length) :
 Calls Tryz.prog 139 #[zdb aT T.length cT aO O.length cO aP P.length cP,.slice aS S.length cS,.int .i64 now] w fun e w'=>(zj4 T O P S now=true∧znx w S (zim S O now) (zja S P now) e w')∨(zj4 T O P S now=false∧e=zgp∧Below w.heap.size w w'):=by
 have HL:=zbe hl
 have HLO:Hid (O.length=S.length):=HL.lo.trans hls.symm
 have HLP:Hid (P.length=S.length):=HL.lp.trans hls.symm
 have HLT:Hid (T.length=S.length):=hls.symm
 have ht:=zfj hc
 have h30:=ht.l1
 have h01:=ht.l0
 have h0O:0<O.length:=by have:=HLO.out;omega
 have h0P:0<P.length:=by have:=HLP.out;omega
 have h0S:0<S.length:=by omega
 have hTi:(S.length:Int)≤30:=by omega
 have hT0:(0:Int)<(S.length:Int):=by omega
 obtain ⟨A,hA⟩:∃A,O[0].2.2.2=A:=⟨_,rfl⟩
 have HA:Hid (zdv O=A):=by
  show zdv O=A
  unfold zdv
  rw [List.getElem?_eq_getElem h0O,←hA]
 clear HL ht
 obtain ⟨bo,oo,rfl,hbo,qA0⟩:=hO 0 h0O
 obtain ⟨bp,op,rfl,hbp,-⟩:=hP 0 h0P
 obtain ⟨bs,os,rfl,hbs,-⟩:=hS 0 h0S
 have qA:w.cell? ⟨bo,oo+3,none⟩=some (.int .i64 A):=by rw [←hA];simpa using qA0.2.2.2
 clear hA qA0
 have hl1:Hid (∀{W:World},Quad W.heap.size W aT T→Quad W.heap.size W (some ⟨bo,oo,none⟩) O→Quad W.heap.size W (some ⟨bp,op,none⟩) P→Calls Tryz.prog 125 #[zdb aT S.length cT (some ⟨bo,oo,none⟩) S.length cO (some ⟨bp,op,none⟩) S.length cP] W fun e w'=>e=.returned (.tuple #[])∧Below W.heap.size W w'):=fun a b c=>(by have h:=zip cT cO cP hl a b c;rw [HLO.out,HLP.out,HLT.out] at h;exact h)
 have HMO:Hid (zj4 T O P S now=(decide (A≤now) && decide (now≤1000000000000000))):=by
  unfold zj4
  rw [hl,decide_eq_true hc,decide_eq_true hls,HA.out]
  rfl
 rw [HLO.out,HLP.out,HLT.out]
 clear hl hls
 have nb:Below w.heap.size w ((w.alloc (.cells #[.slice aT S.length cT,.slice (some ⟨bo,oo,none⟩) S.length cO,.slice (some ⟨bp,op,none⟩) S.length cP] 27)).alloc (.cells #[.slice none 0 0,.slice none 0 0,.slice none 0 0] 27)):=by go_grown
 have C0:Hid (Cells ((w.alloc (.cells #[.slice aT S.length cT,.slice (some ⟨bo,oo,none⟩) S.length cO,.slice (some ⟨bp,op,none⟩) S.length cP] 27)).alloc (.cells #[.slice none 0 0,.slice none 0 0,.slice none 0 0] 27)) [(w.heap.size,0,.slice aT S.length cT),(w.heap.size,1,.slice (some ⟨bo,oo,none⟩) S.length cO),(w.heap.size,2,.slice (some ⟨bp,op,none⟩) S.length cP)]):=⟨⟨by simp <;> omega,by go_simp⟩,⟨by simp <;> omega,by go_simp⟩,⟨by simp <;> omega,by go_simp⟩,trivial⟩
 cases hn:(decide (A≤now) && decide (now≤1000000000000000))
 ·go_enter Tryz.func139,Tryz.ntmps139
  go_wp2_with (first|(go_at_call 125;refine (hl1.out (hT.here nb) (hO.here nb) (hP.here nb)).mono ?_;rintro e w2 ⟨rfl,hb2⟩;have hb2w:=zad nb hb2)|(go_at_call 156;refine (zhd cS hc (hS.here hb2w)).mono ?_;rintro e w4 ⟨rfl,hb4⟩;have hb4w:=zad hb2w hb4;have qA:=(hb4w.cell (p:=⟨bo,oo+3,none⟩) hbo).trans qA;have ⟨⟨_,k0⟩,⟨_,k1⟩,⟨_,k2⟩,_⟩:=Cells.next hb4 (Cells.next hb2 C0.out))|(go_at_call 62;refine (zte hn _).mono ?_;rintro e w5 ⟨rfl,hw5⟩;have hw5:=hw5.symm;subst hw5)|(go_at_call_of 155 true;refine (zed _).mono ?_;rintro e w3 ⟨rfl,rfl⟩)|(go_at_call 155;refine (zdg _).mono ?_;rintro e w3 ⟨rfl,rfl⟩))
  exact ⟨rfl,.inr ⟨by rw [HMO.out];exact hn,rfl,hb4w⟩⟩
 obtain ⟨iB,hiB,zB0,zB1,zB2⟩:=info_parts zga
 have z0:((w.alloc (.cells #[.slice aT S.length cT,.slice (some ⟨bo,oo,none⟩) S.length cO,.slice (some ⟨bp,op,none⟩) S.length cP] 27)).alloc (.cells #[.slice none 0 0,.slice none 0 0,.slice none 0 0] 27)).heap.size=w.heap.size+2:=by simp
 have cb:Cells (w.alloc (.cells #[.slice aT S.length cT,.slice (some ⟨bo,oo,none⟩) S.length cO,.slice (some ⟨bp,op,none⟩) S.length cP] 27)) [(w.heap.size,1,.slice (some ⟨bo,oo,none⟩) S.length cO),(w.heap.size,2,.slice (some ⟨bp,op,none⟩) S.length cP)]:=⟨⟨by simp,by go_simp⟩,⟨by simp,by go_simp⟩,trivial⟩
 have nb1:Below w.heap.size w (w.alloc (.cells #[.slice aT S.length cT,.slice (some ⟨bo,oo,none⟩) S.length cO,.slice (some ⟨bp,op,none⟩) S.length cP] 27)):=zac _ _
 have s1:(w.alloc (.cells #[.slice aT S.length cT,.slice (some ⟨bo,oo,none⟩) S.length cO,.slice (some ⟨bp,op,none⟩) S.length cP] 27)).heap.size=w.heap.size+1:=by simp
 obtain ⟨w1,hw1⟩:∃v,(w.alloc (.cells #[.slice aT S.length cT,.slice (some ⟨bo,oo,none⟩) S.length cO,.slice (some ⟨bp,op,none⟩) S.length cP] 27))=v:=⟨_,rfl⟩
 rw [hw1] at cb nb1 s1
 have CB:Hid (Cells w1 [(w.heap.size,1,.slice (some ⟨bo,oo,none⟩) S.length cO),(w.heap.size,2,.slice (some ⟨bp,op,none⟩) S.length cP)]):=cb
 have KW:Hid (Kept w1 [(w1.heap.size,0,.slice none 0 0),(w1.heap.size,1,.slice none 0 0),(w1.heap.size,2,.slice none 0 0)] [w1.heap.size] ((w.alloc (.cells #[.slice aT S.length cT,.slice (some ⟨bo,oo,none⟩) S.length cO,.slice (some ⟨bp,op,none⟩) S.length cP] 27)).alloc (.cells #[.slice none 0 0,.slice none 0 0,.slice none 0 0] 27))):=by rw [hw1];exact zero3 w1
 have HW1:Hid (w1.heap.size=w.heap.size+1):=s1
 clear cb hw1 s1
 go_enter Tryz.func139,Tryz.ntmps139
 go_upto_region 5 with (first
  | (go_at_call 125;refine (hl1.out (hT.here nb) (hO.here nb) (hP.here nb)).mono ?_;rintro e w2 ⟨rfl,hb2⟩;have hb2w:=zad nb hb2;have K2:Hid (Kept w1 _ [w1.heap.size] w2):=KW.out.next hb2)
  | (go_at_call 156;refine (zhd cS hc (hS.here hb2w)).mono ?_;rintro e w4 ⟨rfl,hb4⟩;have hb4w:=zad hb2w hb4;have qA:=(hb4w.cell (p:=⟨bo,oo+3,none⟩) hbo).trans qA;have ⟨⟨_,k0⟩,⟨_,k1⟩,⟨_,k2⟩,_⟩:=Cells.next hb4 (Cells.next hb2 C0.out);have K4:Hid (Kept w1 _ [w1.heap.size] w4):=K2.out.next hb4;have z4:=hb4.size)
  | (go_at_call 62;refine (zte hn _).mono ?_;rintro e w5 ⟨rfl,hw5⟩;have hw5:=hw5.symm;subst hw5)
  | (go_at_call 155;refine (zed _).mono ?_;rintro e w3 ⟨rfl,rfl⟩)
  | (go_at_call 97;refine (zm8 cS (hS.here hb4w) (by omega)).mono ?_;rintro e w6 ⟨v',rfl,hown,hb6⟩;obtain ⟨aV,cV,rfl⟩:=zay hown))
 have z2:=hb2.size
 have zs:w1.heap.size+1≤w4.heap.size:=by have:=HW1.out;omega
 have hw1s:Hid (w.heap.size+1≤w1.heap.size∧w1.heap.size≤w.heap.size+1):=by have:=HW1.out;exact ⟨by omega,by omega⟩
 have D:Hid (NlSt w1 (w6.alloc (.cells #[.slice aV S.length cV,.slice none 0 0,.slice none 0 0] 27)) w6.heap.size (.slice aV S.length cV) (.slice none 0 0) (.slice none 0 0) S [] []):=zyi K4.out zs hown hb6
 clear K2 K4 KW hown hb2 hb6 hb4 z0 nb C0 z2 z4 zs hb2w hb4w qA k0 k1 k2 hl1
 obtain ⟨v0,hv0⟩:∃v,w6.alloc (.cells #[.slice aV S.length cV,.slice none 0 0,.slice none 0 0] 27)=v:=⟨_,rfl⟩
 rw [hv0] at D ⊢
 obtain ⟨b2,hb2⟩:∃b,w6.heap.size=b:=⟨_,rfl⟩
 rw [hb2] at D ⊢
 clear hv0 hb2
 go_wp2
 go_loopw [37] (fun i wr=>∃(k:Nat) (X Y:List Q4) (aX:Option Addr) (cX:Nat) (aY:Option Addr) (cY:Nat),i=.int .i64 k∧k≤S.length∧Hid (X=(zim S O now).take k)∧Hid (Y=(zja S P now).take k)∧Hid (NlSt w1 wr b2 (.slice aV S.length cV) (.slice aX X.length cX) (.slice aY Y.length cY) S X Y)) (fun i _=>S.length-(intOf i).toNat)
 case atStart=>exact ⟨0,[],[],none,0,none,0,rfl,by omega,rfl,rfl,D⟩
 case round =>
  clear D
  obtain ⟨k,X,Y,aX,cX,aY,cY,rfl,hk,HX,HY,D0⟩:=hrel
  have hbw:Below w.heap.size w wr:=zaa nb1 D0.out.kept.hb
  have hlX:X.length≤30:=by rw [HX.out,List.length_take];omega
  have hlY:Y.length≤30:=by rw [HY.out,List.length_take];omega
  by_cases hlt:k<S.length
  ·have hlt':(k:Int)<(S.length:Int):=by omega
   have hko:k<O.length:=by have:=HLO.out;omega
   have hkp:k<P.length:=by have:=HLP.out;omega
   obtain ⟨x0,x1,x2,x3⟩:=hS.cells hbw k hlt
   have hS1:=zwp (now:=now) hlt hko
   have hS2:=zwq (now:=now) hlt hkp
   obtain ⟨b,hb⟩:∃b,S[k]=b:=⟨_,rfl⟩
   obtain ⟨bq,hbq⟩:∃b,O[k]=b:=⟨_,rfl⟩
   obtain ⟨bpp,hbpp⟩:∃b,P[k]=b:=⟨_,rfl⟩
   rw [hb] at x0 x1 x2 x3 hS1 hS2
   rw [hbq] at hS1
   rw [hbpp] at hS2
   obtain ⟨p,r,c,u⟩:=b
   obtain ⟨q1,q2,q3,q4⟩:=bq
   obtain ⟨p1,p2,p3,p4⟩:=bpp
   simp only at x0 x1 x2 x3 hS1 hS2
   obtain ⟨⟨y1,y2,y3,y4⟩,hy⟩:∃y,zfc now r u (q1,q2,q3,q4)=y:=⟨_,rfl⟩
   obtain ⟨⟨z1,z2,z3,z4⟩,hz⟩:∃y,zfc now c u (p1,p2,p3,p4)=y:=⟨_,rfl⟩
   rw [hy,←HX.out] at hS1
   rw [hz,←HY.out] at hS2
   have HS1:Hid ((zim S O now).take (k+1)=X ++ [(y1,y2,y3,y4)]):=hS1
   have HS2:Hid ((zja S P now).take (k+1)=Y ++ [(z1,z2,z3,z4)]):=hS2
   have HRO:=fun W:World=>zpu hy W
   have HRP:=fun W:World=>zpu hz W
   have HEO:Hid (∀W,Below w.heap.size w W→W.cell? ⟨bo,oo+k*4,none⟩=some (.int .i64 q1)∧W.cell? ⟨bo,oo+k*4+1,none⟩=some (.int .i64 q2)∧W.cell? ⟨bo,oo+k*4+2,none⟩=some (.int .i64 q3)∧W.cell? ⟨bo,oo+k*4+3,none⟩=some (.int .i64 q4)):=fun W h=>(by have e:=hO.cells h k hko;rw [hbq] at e;exact e)
   have HEP:Hid (∀W,Below w.heap.size w W→W.cell? ⟨bp,op+k*4,none⟩=some (.int .i64 p1)∧W.cell? ⟨bp,op+k*4+1,none⟩=some (.int .i64 p2)∧W.cell? ⟨bp,op+k*4+2,none⟩=some (.int .i64 p3)∧W.cell? ⟨bp,op+k*4+3,none⟩=some (.int .i64 p4)):=fun W h=>(by have e:=hP.cells h k hkp;rw [hbpp] at e;exact e)
   clear hb hbq hbpp hS1 hS2 hy hz hko hkp
   have hbTr:bs<wr.heap.size:=Nat.lt_of_lt_of_le hbs hbw.size
   have ⟨⟨_,b1⟩,⟨_,b2'⟩,_⟩:=Cells.next D0.out.kept.hb CB.out
   have zw0:w.heap.size<wr.heap.size:=by have:=D0.out.kept.hb.size;have:=hw1s.out;omega
   go_upto_region 8 with (fail)
   have C0:Hid (Cells (wr.alloc (.cells #[.int .i64 p,.int .i64 r,.int .i64 c,.int .i64 u] 110)) [(wr.heap.size,1,.int .i64 r),(wr.heap.size,2,.int .i64 c),(wr.heap.size,3,.int .i64 u)]):=⟨⟨by simp,by go_simp⟩,⟨by simp,by go_simp⟩,⟨by simp,by go_simp⟩,trivial⟩
   obtain ⟨wx,hwx⟩:∃v,wr.alloc (.cells #[.int .i64 p,.int .i64 r,.int .i64 c,.int .i64 u] 110)=v:=⟨_,rfl⟩
   have D:Hid (NlSt w1 wx b2 (.slice aV S.length cV) (.slice aX X.length cX) (.slice aY Y.length cY) S X Y):=by rw [←hwx];exact D0.out.next (zac _ _)
   have ow1:((.slice aX X.length cX):Value).ownBlock≠some wr.heap.size:=fun e=>by have:=(D0.out.rO.lt _ e).2;omega
   have ow2:((.slice aY Y.length cY):Value).ownBlock≠some wr.heap.size:=fun e=>by have:=(D0.out.rP.lt _ e).2;omega
   have zc:wr.heap.size≠b2:=by have:=D0.out.sz;omega
   rw [hwx] at C0 ⊢
   clear hwx D0 x0 x1 x2 x3 hbTr b1 b2' zw0
   obtain ⟨c0,hc0⟩:∃c,wr.heap.size=c:=⟨_,rfl⟩
   rw [hc0] at C0 ow1 ow2 zc ⊢
   clear hc0
   have hSof:Hid (∀W,Kept w1 [(w1.heap.size,0,.slice none 0 0),(w1.heap.size,1,.slice none 0 0),(w1.heap.size,2,.slice none 0 0),(b2,0,.slice aV S.length cV),(b2,1,(.slice aX X.length cX)),(b2,2,(.slice aY Y.length cY))] [w1.heap.size,b2] W→Cells W [(c0,1,.int .i64 r),(c0,2,.int .i64 c),(c0,3,.int .i64 u)]→(fun w'=>w'.cell? ⟨b2,1,none⟩=some (.slice aX X.length cX)∧w'.cell? ⟨w.heap.size,1,none⟩=some (.slice (some ⟨bo,oo,none⟩) S.length cO)∧w'.cell? ⟨bo,oo+k*4,none⟩=some (.int .i64 q1)∧w'.cell? ⟨bo,oo+k*4+1,none⟩=some (.int .i64 q2)∧w'.cell? ⟨bo,oo+k*4+2,none⟩=some (.int .i64 q3)∧w'.cell? ⟨bo,oo+k*4+3,none⟩=some (.int .i64 q4)∧w'.cell? ⟨c0,1,none⟩=some (.int .i64 r)∧w'.cell? ⟨c0,3,none⟩=some (.int .i64 u)) W):=fun W k hc=>(by have ⟨_,_,_,_,⟨_,e4⟩,_⟩:=k.cells;have ⟨⟨_,e1⟩,_,⟨_,e3⟩,_⟩:=hc;have ⟨⟨_,f1⟩,_,_⟩:=Cells.next k.hb CB.out;have ⟨g0,g1,g2,g3⟩:=HEO.out W (zaa nb1 k.hb);exact ⟨e4,f1,g0,g1,g2,g3,e1,e3⟩)
   refine zbk (S:=fun w'=>w'.cell? ⟨b2,1,none⟩=some (.slice aX X.length cX)∧w'.cell? ⟨w.heap.size,1,none⟩=some (.slice (some ⟨bo,oo,none⟩) S.length cO)∧w'.cell? ⟨bo,oo+k*4,none⟩=some (.int .i64 q1)∧w'.cell? ⟨bo,oo+k*4+1,none⟩=some (.int .i64 q2)∧w'.cell? ⟨bo,oo+k*4+2,none⟩=some (.int .i64 q3)∧w'.cell? ⟨bo,oo+k*4+3,none⟩=some (.int .i64 q4)∧w'.cell? ⟨c0,1,none⟩=some (.int .i64 r)∧w'.cell? ⟨c0,3,none⟩=some (.int .i64 u)) 16 (by kernel_rfl) (hSof.out _ D.out.kept.drew (C0.out.next (Below.refl _ _).drew)) (fun hS=>?_)
   refine zae 0 rfl ?_
   refine zae 1 rfl ?_
   refine zae 2 rfl ?_
   refine zae 3 rfl ?_
   refine zae 4 rfl ?_
   refine zae 5 rfl ?_
   refine zae 6 rfl ?_
   refine zae 7 rfl ?_
   refine zae 8 rfl ?_
   refine zae 9 rfl ?_
   refine zae 10 rfl ?_
   refine zae 11 rfl ?_
   refine zai (i:=12) (by kernel_rfl) rfl (fun K hK=>?_)
   go_simp
   (refine (HRO _).mono ?_;rintro e va ⟨rfl,hba⟩;have hba:=zb7 hba;have D2:Hid (NlSt w1 va b2 (.slice aV S.length cV) (.slice aX X.length cX) (.slice aY Y.length cY) S X Y):=D.out.next hba;have C2:Hid (Cells va [(c0,1,.int .i64 r),(c0,2,.int .i64 c),(c0,3,.int .i64 u)]):=C0.out.next hba;have hS:=hSof.out _ D2.out.kept C2.out;simp only [])
   refine hK.out _ _ ‹_› fun _=>?_
   try simp only [nrm]
   refine zai (i:=13) (by kernel_rfl) rfl (fun K hK=>?_)
   go_simp
   have DA:Hid (NlSt w1 (va.alloc (.cells #[.int .i64 y1,.int .i64 y2,.int .i64 y3,.int .i64 y4] 53)) b2 (.slice aV S.length cV) (.slice aX X.length cX) (.slice aY Y.length cY) S X Y):=D2.out.next (zac _ _)
   have C3:Hid (Cells (va.alloc (.cells #[.int .i64 y1,.int .i64 y2,.int .i64 y3,.int .i64 y4] 53)) [(c0,1,.int .i64 r),(c0,2,.int .i64 c),(c0,3,.int .i64 u)]):=C2.out.next (zac _ _)
   refine hK.out _ _ (hSof.out _ DA.out.kept C3.out) (fun hS=>?_)
   try simp only [nrm]
   refine zai (i:=14) (by kernel_rfl) rfl (fun K hK=>?_)
   rw [if_pos (by rfl)]
   refine zcf _ _ _ 25 rfl (w1.heap.size+1) 53 iB _ 4 32 Tryz.underlying25 hiB zB0 zB1 zB2 rfl (by decide) _ _ _ rfl DA.out.rO ⟨va.heap.size,0,none⟩ 1 1 [.int .i64 y1,.int .i64 y2,.int .i64 y3,.int .i64 y4] rfl rfl (zhc (by go_simp) (by go_simp) (by go_simp) (by go_simp)) (zcm [(y1,y2,y3,y4)]) (by unfold maxLen;omega) (by omega) (by have:=DA.out.sz;have:=DA.out.lo;omega) (by omega) ?_
   intro v' w5 ho hgr hbl
   obtain ⟨gN,cN,rfl,_,_⟩:=ze2 ho (Nat.le_add_left 1 _)
   have DB:Hid (NlSt w1 (w5.setCell ⟨b2,1,none⟩ (.slice (some ⟨gN,0,none⟩) (X.length+1) cN)) b2 (.slice aV S.length cV) (.slice (some ⟨gN,0,none⟩) (X.length+1) cN) (.slice aY Y.length cY) S (X ++ [(y1,y2,y3,y4)]) Y):=DA.out.appO (x:=(y1,y2,y3,y4)) hgr ho hbl
   have KK:=DA.out.keeps hgr (fun g e=>(DA.out.rO.lt g e).1) DA.out.nO
   have C4:Hid (Cells w5 [(c0,1,.int .i64 r),(c0,2,.int .i64 c),(c0,3,.int .i64 u)]):=zny C3.out hgr ow1
   have ⟨_,_,_,⟨_,s3⟩,⟨_,s4⟩,⟨_,s5⟩,_⟩:=KK.cells
   have sF:=(KK.free b2 (List.mem_cons_of_mem _ (List.mem_singleton.2 rfl))).2
   refine hK.out _ _ (hSof.out _ KK C4.out) (fun hS=>?_)
   clear KK
   try simp only [nrm]
   refine zae 15 rfl ?_
   refine za4 (by kernel_rfl) rfl (by kernel_rfl) (fun K hK=>?_)
   go_simp
   refine hK.out _ _ ?_
   try simp only [nrm]
   have C9:Hid (Cells (w5.setCell ⟨b2,1,none⟩ (.slice (some ⟨gN,0,none⟩) (X.length+1) cN)) [(c0,1,.int .i64 r),(c0,2,.int .i64 c),(c0,3,.int .i64 u)]):=zny C4.out (zc9 w5 b2 1 (.slice (some ⟨gN,0,none⟩) (X.length+1) cN)) (fun e=>zc (Option.some.inj e).symm)
   clear D D2 DA C0 C2 C3 C4 hSof s3 s4 s5 sF ho hgr hbl
   obtain ⟨v9,hv9⟩:∃v,(w5.setCell ⟨b2,1,none⟩ (.slice (some ⟨gN,0,none⟩) (X.length+1) cN))=v:=⟨_,rfl⟩
   rw [hv9] at DB C9 ⊢
   clear hv9
   have D:Hid (NlSt w1 v9 b2 (.slice aV S.length cV) (.slice (some ⟨gN,0,none⟩) (X.length+1) cN) (.slice aY Y.length cY) S (X ++ [(y1,y2,y3,y4)]) Y):=DB.out
   have C0:=C9
   clear DB C9
   have hSof2:Hid (∀W,Kept w1 [(w1.heap.size,0,.slice none 0 0),(w1.heap.size,1,.slice none 0 0),(w1.heap.size,2,.slice none 0 0),(b2,0,.slice aV S.length cV),(b2,1,(.slice (some ⟨gN,0,none⟩) (X.length+1) cN)),(b2,2,(.slice aY Y.length cY))] [w1.heap.size,b2] W→Cells W [(c0,1,.int .i64 r),(c0,2,.int .i64 c),(c0,3,.int .i64 u)]→(fun w'=>w'.cell? ⟨b2,2,none⟩=some (.slice aY Y.length cY)∧w'.cell? ⟨w.heap.size,2,none⟩=some (.slice (some ⟨bp,op,none⟩) S.length cP)∧w'.cell? ⟨bp,op+k*4,none⟩=some (.int .i64 p1)∧w'.cell? ⟨bp,op+k*4+1,none⟩=some (.int .i64 p2)∧w'.cell? ⟨bp,op+k*4+2,none⟩=some (.int .i64 p3)∧w'.cell? ⟨bp,op+k*4+3,none⟩=some (.int .i64 p4)∧w'.cell? ⟨c0,2,none⟩=some (.int .i64 c)∧w'.cell? ⟨c0,3,none⟩=some (.int .i64 u)) W):=fun W k hc=>(by have ⟨_,_,_,_,_,⟨_,e5⟩,_⟩:=k.cells;have ⟨_,⟨_,e2⟩,⟨_,e3⟩,_⟩:=hc;have ⟨_,⟨_,f2⟩,_⟩:=Cells.next k.hb CB.out;have ⟨g0,g1,g2,g3⟩:=HEP.out W (zaa nb1 k.hb);exact ⟨e5,f2,g0,g1,g2,g3,e2,e3⟩)
   repeat go_step
   refine zbk (S:=fun w'=>w'.cell? ⟨b2,2,none⟩=some (.slice aY Y.length cY)∧w'.cell? ⟨w.heap.size,2,none⟩=some (.slice (some ⟨bp,op,none⟩) S.length cP)∧w'.cell? ⟨bp,op+k*4,none⟩=some (.int .i64 p1)∧w'.cell? ⟨bp,op+k*4+1,none⟩=some (.int .i64 p2)∧w'.cell? ⟨bp,op+k*4+2,none⟩=some (.int .i64 p3)∧w'.cell? ⟨bp,op+k*4+3,none⟩=some (.int .i64 p4)∧w'.cell? ⟨c0,2,none⟩=some (.int .i64 c)∧w'.cell? ⟨c0,3,none⟩=some (.int .i64 u)) 16 (by kernel_rfl) (hSof2.out _ D.out.kept.drew (C0.out.next (Below.refl _ _).drew)) (fun hS=>?_)
   refine zae 0 rfl ?_
   refine zae 1 rfl ?_
   refine zae 2 rfl ?_
   refine zae 3 rfl ?_
   refine zae 4 rfl ?_
   refine zae 5 rfl ?_
   refine zae 6 rfl ?_
   refine zae 7 rfl ?_
   refine zae 8 rfl ?_
   refine zae 9 rfl ?_
   refine zae 10 rfl ?_
   refine zae 11 rfl ?_
   refine zai (i:=12) (by kernel_rfl) rfl (fun K hK=>?_)
   go_simp
   (refine (HRP _).mono ?_;rintro e vb ⟨rfl,hba⟩;have hba:=zb7 hba;have D2:Hid (NlSt w1 vb b2 (.slice aV S.length cV) (.slice (some ⟨gN,0,none⟩) (X.length+1) cN) (.slice aY Y.length cY) S (X ++ [(y1,y2,y3,y4)]) Y):=D.out.next hba;have C2:Hid (Cells vb [(c0,1,.int .i64 r),(c0,2,.int .i64 c),(c0,3,.int .i64 u)]):=C0.out.next hba;have hS:=hSof2.out _ D2.out.kept C2.out;simp only [])
   refine hK.out _ _ ‹_› fun _=>?_
   try simp only [nrm]
   refine zai (i:=13) (by kernel_rfl) rfl (fun K hK=>?_)
   go_simp
   have DA:Hid (NlSt w1 (vb.alloc (.cells #[.int .i64 z1,.int .i64 z2,.int .i64 z3,.int .i64 z4] 53)) b2 (.slice aV S.length cV) (.slice (some ⟨gN,0,none⟩) (X.length+1) cN) (.slice aY Y.length cY) S (X ++ [(y1,y2,y3,y4)]) Y):=D2.out.next (zac _ _)
   have C3:Hid (Cells (vb.alloc (.cells #[.int .i64 z1,.int .i64 z2,.int .i64 z3,.int .i64 z4] 53)) [(c0,1,.int .i64 r),(c0,2,.int .i64 c),(c0,3,.int .i64 u)]):=C2.out.next (zac _ _)
   refine hK.out _ _ (hSof2.out _ DA.out.kept C3.out) (fun hS=>?_)
   try simp only [nrm]
   refine zai (i:=14) (by kernel_rfl) rfl (fun K hK=>?_)
   rw [if_pos (by rfl)]
   refine zcf _ _ _ 25 rfl (w1.heap.size+1) 53 iB _ 4 32 Tryz.underlying25 hiB zB0 zB1 zB2 rfl (by decide) _ _ _ rfl DA.out.rP ⟨vb.heap.size,0,none⟩ 1 1 [.int .i64 z1,.int .i64 z2,.int .i64 z3,.int .i64 z4] rfl rfl (zhc (by go_simp) (by go_simp) (by go_simp) (by go_simp)) (zcm [(z1,z2,z3,z4)]) (by unfold maxLen;omega) (by omega) (by have:=DA.out.sz;have:=DA.out.lo;omega) (by omega) ?_
   intro v' w6 ho hgr hbl
   obtain ⟨gM,cM,rfl,_,_⟩:=ze2 ho (Nat.le_add_left 1 _)
   have DB:Hid (NlSt w1 (w6.setCell ⟨b2,2,none⟩ (.slice (some ⟨gM,0,none⟩) (Y.length+1) cM)) b2 (.slice aV S.length cV) (.slice (some ⟨gN,0,none⟩) (X.length+1) cN) (.slice (some ⟨gM,0,none⟩) (Y.length+1) cM) S (X ++ [(y1,y2,y3,y4)]) (Y ++ [(z1,z2,z3,z4)])):=DA.out.appP (x:=(z1,z2,z3,z4)) hgr ho hbl
   have KK:=DA.out.keeps hgr (fun g e=>(DA.out.rP.lt g e).1) DA.out.nP
   have C4:Hid (Cells w6 [(c0,1,.int .i64 r),(c0,2,.int .i64 c),(c0,3,.int .i64 u)]):=zny C3.out hgr ow2
   have ⟨_,_,_,⟨_,s3⟩,⟨_,s4⟩,⟨_,s5⟩,_⟩:=KK.cells
   have sF:=(KK.free b2 (List.mem_cons_of_mem _ (List.mem_singleton.2 rfl))).2
   refine hK.out _ _ (hSof2.out _ KK C4.out) (fun hS=>?_)
   clear KK
   try simp only [nrm]
   refine zae 15 rfl ?_
   refine za4 (by kernel_rfl) rfl (by kernel_rfl) (fun K hK=>?_)
   go_simp
   refine hK.out _ _ ?_
   try simp only [nrm]
   repeat go_step
   go_roundw
   case rel=>exact ⟨k+1,X ++ [(y1,y2,y3,y4)],Y ++ [(z1,z2,z3,z4)],some ⟨gN,0,none⟩,cN,some ⟨gM,0,none⟩,cM,by go_num,by omega,HS1.out.symm,HS2.out.symm,(by rw [List.length_append,List.length_append];exact DB.out)⟩
   case measure=>simp [intOf]<;>omega
  ·have e:k=S.length:=by omega
   subst e
   have D:=D0
   have HEX:Hid (X=zim S O now):=by rw [HX.out,←zh0 (now:=now) HLO.out,List.take_length];exact rfl
   have HEY:Hid (Y=zja S P now):=by rw [HY.out,←zh1 (now:=now) HLP.out,List.take_length];exact rfl
   have ⟨⟨_,q0⟩,⟨_,q1⟩,⟨_,q2⟩,⟨_,q3⟩,⟨_,q4⟩,⟨_,q5⟩,_⟩:=D.out.kept.cells
   have fr:=(D.out.kept.free w1.heap.size (List.mem_cons_self ..)).2
   have n1:w1.heap.size≠b2:=by have:=D.out.lo;omega
   have hfin:=zzy D.out (a:=.slice aV S.length cV) (b:=.slice aX X.length cX) (c:=.slice aY Y.length cY)
   have HFI:Hid _:=hfin
   clear hfin
   rw [HW1.out] at q0 q1 q2 fr n1
   go_wp2
   refine bodyPost_ret (zaj rfl _ _ _ [.slice aV S.length cV,.slice aX X.length cX,.slice aY Y.length cY] rfl (zcw (u0:=.slice none 0 0) (u1:=.slice none 0 0) (u2:=.slice none 0 0) _ _ _ q0 q1 q2) Tryz.underlying27 rfl (by kernel_rfl)) rfl ?_
   have hfin:=HFI.out
   rw [HW1.out] at hfin
   rw [←HEX.out,←HEY.out]
   refine .inl ⟨by rw [HMO.out];exact hn,_,_,_,_,_,_,_,_,_,rfl,hfin.1.lower (by omega),?_⟩
   have hfb:=zaa nb1 HFI.out.2
   rw [HW1.out] at hfb
   exact hfb
theorem zjs {w:World} {aT aO aP aS:Option Addr} (cT cO cP cS:Nat) {T O P S:List Q4} (now:Int) (hT:Quad w.heap.size w aT T) (hO:Quad w.heap.size w aO O) (hP:Quad w.heap.size w aP P) (hS:Quad w.heap.size w aS S) :
 Calls Tryz.prog 139 #[zdb aT T.length cT aO O.length cO aP P.length cP,.slice aS S.length cS,.int .i64 now] w fun e w'=>(zj4 T O P S now=true∧znx w S (zim S O now) (zja S P now) e w')∨(zj4 T O P S now=false∧e=zgp∧Below w.heap.size w w'):=by
 by_cases h:zbf T O P=true∧zah S=0∧S.length=T.length
 ·exact zup cT cO cP cS now hT hO hP hS h.1 h.2.1 h.2.2
 ·have hoff:zbf T O P=false∨¬zah S=0∨¬S.length=T.length:=by
   cases hl:zbf T O P
   ·exact .inl rfl
   ·by_cases h2:zah S=0
    ·exact .inr (.inr (fun h3=>h ⟨hl,h2,h3⟩))
    ·exact .inr (.inl h2)
  refine (zq7 cT cO cP cS now hT hO hP hS hoff).mono ?_
  rintro e w' ⟨rfl,hb⟩
  refine .inr ⟨?_,rfl,hb⟩
  rcases hoff with h|h|h
  ·exact z1a h
  ·exact z1b h
  ·exact z1c h
theorem zq8 {w:World} {aT aO aP aS:Option Addr} (cT cO cP cS:Nat) {T O P S:List Q4} (now:Int) (hT:Quad w.heap.size w aT T) (hO:Quad w.heap.size w aO O) (hP:Quad w.heap.size w aP P) (hS:Quad w.heap.size w aS S) (hm:zj4 T O P S now=true):Calls Tryz.prog 139 #[zdb aT T.length cT aO O.length cO aP P.length cP,.slice aS S.length cS,.int .i64 now] w (znx w S (zim S O now) (zja S P now)):=(zjs cT cO cP cS now hT hO hP hS).mono (by
 rintro e w' (⟨_,h⟩|⟨h,_⟩)
 ·exact h
 ·rw [hm] at h;cases h)
theorem zuq {w:World} {aT aO aP aS:Option Addr} (cT cO cP cS:Nat) {T O P S:List Q4} (now:Int) (hT:Quad w.heap.size w aT T) (hO:Quad w.heap.size w aO O) (hP:Quad w.heap.size w aP P) (hS:Quad w.heap.size w aS S) (hm:zj4 T O P S now=false):Calls Tryz.prog 139 #[zdb aT T.length cT aO O.length cO aP P.length cP,.slice aS S.length cS,.int .i64 now] w fun e w'=>e=zgp∧Below w.heap.size w w':=(zjs cT cO cP cS now hT hO hP hS).mono (by
 rintro e w' (⟨h,_⟩|⟨_,h⟩)
 ·rw [hm] at h;cases h
 ·exact h)
theorem zpv {w w3:World} (h:Below (w.alloc (.cells #[.bool false] 4)).heap.size (w.alloc (.cells #[.bool false] 4)) w3):w3.cell? ⟨w.heap.size,0,none⟩=some (.bool false)∧w3.frozen? ⟨w.heap.size,0,none⟩=false :=
 ⟨(zag h _ _ (by simp)).trans (by go_simp),(zcq h _ _ (by simp)).trans (by go_simp)⟩
theorem z1e {K:Nat} {caps:Array Value} (w:World) (hent:∀args w,(callFunc K args).run Tryz.prog w=.ok (.enter K args) w)
 (hk:Calls Tryz.prog K caps (w.alloc (.cells #[.bool false] 4)) fun e w'=>e=.returned (.tuple #[])∧Below (w.alloc (.cells #[.bool false] 4)).heap.size (w.alloc (.cells #[.bool false] 4)) w') :
 Calls Tryz.prog 123 #[.func (.func K) #[] caps] w fun e w'=>e=.returned (.bool true)∧Below w.heap.size w w':=by
 refine (zlf w hent (R:=fun w'=>Below (w.alloc (.cells #[.bool false] 4)).heap.size (w.alloc (.cells #[.bool false] 4)) w') (hk.mono fun e w' h=>⟨h.1,h.2,zpv h.2⟩)).mono ?_
 rintro e w' ⟨rfl,W,hW,rfl⟩
 exact ⟨rfl,((zaa (zac _ _) hW).setCell (by simp) _).setCell (by simp) _⟩
theorem zzz {K:Nat} {caps:Array Value} (w:World) (hent:∀args w,(callFunc K args).run Tryz.prog w=.ok (.enter K args) w)
 (hk:Calls Tryz.prog K caps (w.alloc (.cells #[.bool false] 4)) fun e w'=>e=zgp∧Below (w.alloc (.cells #[.bool false] 4)).heap.size (w.alloc (.cells #[.bool false] 4)) w') :
 Calls Tryz.prog 123 #[.func (.func K) #[] caps] w fun e w'=>e=.returned (.bool false)∧Below w.heap.size w w':=by
 refine (zum w hent (R:=fun w'=>Below (w.alloc (.cells #[.bool false] 4)).heap.size (w.alloc (.cells #[.bool false] 4)) w') (hk.mono fun e w' h=>⟨h.1,h.2,zpv h.2⟩)).mono ?_
 rintro e w' ⟨rfl,W,hW,rfl⟩
 exact ⟨rfl,(zaa (zac _ _) hW).setCell (by simp) _⟩
theorem zq9 {w:World} {b:Nat} {aT aO aP:Option Addr} (cT cO cP:Nat) {T O P:List Q4} (hf:zbf T O P=true) (hc:Cells w [(b,0,.slice aT T.length cT),(b,1,.slice aO O.length cO),(b,2,.slice aP P.length cP)]) (hT:Quad w.heap.size w aT T) (hO:Quad w.heap.size w aO O) (hP:Quad w.heap.size w aP P) :
 Calls Tryz.prog 124 #[.pointer (some ⟨b,0,none⟩)] w fun e w'=>e=.returned (.tuple #[])∧Below w.heap.size w w':=by
 have ⟨⟨_,k0⟩,⟨_,k1⟩,⟨_,k2⟩,_⟩:=hc
 go_enter Tryz.func124,Tryz.ntmps124
 go_wp2_with (first|(go_at_call 125;refine (zip cT cO cP hf hT hO hP).mono ?_;rintro e w2 ⟨rfl,hb2⟩))
 go_end0
 exact ⟨rfl,hb2⟩
theorem zur {w:World} {b:Nat} {aT aO aP:Option Addr} (cT cO cP:Nat) {T O P:List Q4} (hf:zbf T O P=false) (hc:Cells w [(b,0,.slice aT T.length cT),(b,1,.slice aO O.length cO),(b,2,.slice aP P.length cP)]) (hT:Quad w.heap.size w aT T) (hO:Quad w.heap.size w aO O) (hP:Quad w.heap.size w aP P) :
 Calls Tryz.prog 124 #[.pointer (some ⟨b,0,none⟩)] w fun e w'=>e=zgp∧Below w.heap.size w w':=by
 have ⟨⟨_,k0⟩,⟨_,k1⟩,⟨_,k2⟩,_⟩:=hc
 go_enter Tryz.func124,Tryz.ntmps124
 go_wp2_with (first|(go_at_call 125;refine (zti cT cO cP hf hT hO hP).mono ?_;rintro e w2 ⟨rfl,hb2⟩))
 exact ⟨rfl,rfl,hb2⟩
theorem zra {w:World} {aT aO aP:Option Addr} (cT cO cP:Nat) {T O P:List Q4} (hT:Quad w.heap.size w aT T) (hO:Quad w.heap.size w aO O) (hP:Quad w.heap.size w aP P) :
 Calls Tryz.prog 61 #[zdb aT T.length cT aO O.length cO aP P.length cP] w fun e w'=>e=.returned (.bool (zbf T O P))∧Below w.heap.size w w':=by
 have hmf:∀(fn:Fn) (first cap:Array Value) (w:World),(Instr.makeFunc fn first cap).run Tryz.prog w=.ok (.func fn first cap) w:=fun _ _ _ _=>rfl
 have hent:∀args w,(callFunc 124 args).run Tryz.prog w=.ok (.enter 124 args) w:=enters_of Tryz.func124 (by kernel_rfl) rfl
 have nb:Below w.heap.size w (w.alloc (.cells #[.slice aT T.length cT,.slice aO O.length cO,.slice aP P.length cP] 27)):=zac _ _
 have nb2:Below w.heap.size w ((w.alloc (.cells #[.slice aT T.length cT,.slice aO O.length cO,.slice aP P.length cP] 27)).alloc (.cells #[.bool false] 4)):=by go_grown
 have hc:Cells ((w.alloc (.cells #[.slice aT T.length cT,.slice aO O.length cO,.slice aP P.length cP] 27)).alloc (.cells #[.bool false] 4)) [(w.heap.size,0,.slice aT T.length cT),(w.heap.size,1,.slice aO O.length cO),(w.heap.size,2,.slice aP P.length cP)]:=⟨⟨by simp <;> omega,by go_simp⟩,⟨by simp <;> omega,by go_simp⟩,⟨by simp <;> omega,by go_simp⟩,trivial⟩
 cases hf:zbf T O P
 ·have hk:=zzz _ hent (zur cT cO cP hf hc (hT.here nb2) (hO.here nb2) (hP.here nb2))
  clear hc hent
  go_enter Tryz.func61,Tryz.ntmps61
  go_wp2_with (first|(go_at_call 123;refine hk.mono ?_;clear hk;rintro e w2 ⟨rfl,hb2⟩))
  go_ret
  exact ⟨rfl,zaa nb hb2⟩
 ·have hk:=z1e _ hent (zq9 cT cO cP hf hc (hT.here nb2) (hO.here nb2) (hP.here nb2))
  clear hc hent
  go_enter Tryz.func61,Tryz.ntmps61
  go_wp2_with (first|(go_at_call 123;refine hk.mono ?_;clear hk;rintro e w2 ⟨rfl,hb2⟩))
  go_ret
  exact ⟨rfl,zaa nb hb2⟩
theorem OnlyP.cell {p:Nat→Prop} {w w':World} (h:OnlyP p w w') {a:Addr} (ha:a.block<w.heap.size) (hp:¬p a.block):w'.cell? a=w.cell? a:=World.cell?_of_block (w:=w) (h.block a.block ha hp)
theorem OnlyP.frozen {p:Nat→Prop} {w w':World} (h:OnlyP p w w') {a:Addr} (ha:a.block<w.heap.size) (hp:¬p a.block):w'.frozen? a=w.frozen? a:=World.frozen?_of_block (w:=w) (h.block a.block ha hp)
theorem Cells.onlyP {w w':World} {p:Nat→Prop} (ho:OnlyP p w w'):∀{cs:List (Nat × Nat × Value)},(∀c ∈ cs,¬p c.1)→Cells w cs→Cells w' cs
 | [],_,_=>trivial
 | (b,o',v) :: r,hg,⟨⟨h1,h2⟩,h⟩=>⟨⟨Nat.lt_of_lt_of_le h1 ho.size,(ho.cell h1 (hg (b,o',v) (List.mem_cons_self ..))).trans h2⟩,Cells.onlyP ho (fun c hc=>hg c (List.mem_cons_of_mem _ hc)) h⟩
theorem att_on {K:Nat} {caps:Array Value} (w:World) (hent:∀args w,(callFunc K args).run Tryz.prog w=.ok (.enter K args) w) {p:Nat→Prop} {R:World→Prop} (hp:¬p w.heap.size) (hR:∀W v,R W→R (W.setCell ⟨w.heap.size,0,none⟩ v))
 (hk:Calls Tryz.prog K caps (w.alloc (.cells #[.bool false] 4)) fun e W=>e=.returned (.tuple #[])∧R W∧OnlyP p (w.alloc (.cells #[.bool false] 4)) W) :
 Calls Tryz.prog 123 #[.func (.func K) #[] caps] w fun e w'=>e=.returned (.bool true)∧R w'∧OnlyP p w w':=by
 refine (zlf w hent (R:=fun W=>R W∧OnlyP p (w.alloc (.cells #[.bool false] 4)) W) (hk.mono fun e W h=>⟨h.1,h.2,(h.2.2.cell (a:=⟨w.heap.size,0,none⟩) (by simp) hp).trans (by go_simp),(h.2.2.frozen (a:=⟨w.heap.size,0,none⟩) (by simp) hp).trans (by go_simp)⟩)).mono ?_
 rintro e w' ⟨rfl,W,⟨hW,ho⟩,rfl⟩
 refine ⟨rfl,hR _ _ (hR _ _ hW),?_⟩
 have h1:OnlyP p w (w.alloc (.cells #[.bool false] 4)):=OnlyP.of_below (zac _ _)
 have h2:OnlyP p w W:=(h1.trans ho).weak (fun k hk=>hk.elim id id)
 refine ⟨h2.os,h2.tape,h2.output,by simpa using h2.size,fun k hk hn=>?_⟩
 rw [Below.heap_setCell _ _ _ _ (by simp only;omega),Below.heap_setCell _ _ _ _ (by simp only;omega)]
 exact h2.block k hk hn
theorem LV.set {w:World} {lo:Nat} {sT sO sP:Value} {T O P:List Q4} (h:LV w lo sT sO sP T O P) {b:Nat} (hb:b<lo) (i:Nat) (v:Value):LV (w.setCell ⟨b,i,none⟩ v) lo sT sO sP T O P:=by
 have hg:=OnlyP.of (OnlyO.of_grown (zc9 w b i v))
 have hn:∀{k:Nat},inL sT sO sP k→¬(some b=some k):=fun hk e=>by have:=(h.lo hk).1;have e1:=Option.some.inj e;omega
 exact h.onlyP hg (fun g hg=>hn (.inl hg)) (fun g hg=>hn (.inr (.inl hg))) (fun g hg=>hn (.inr (.inr hg)))
def InVar (bl lo:Nat) (T O P:List Q4) (W:World):Prop:=∃a1 n1 c1 a2 n2 c2 a3 n3 c3,Cells W [(bl,0,.slice a1 n1 c1),(bl,1,.slice a2 n2 c2),(bl,2,.slice a3 n3 c3)]∧LV W lo (.slice a1 n1 c1) (.slice a2 n2 c2) (.slice a3 n3 c3) T O P
theorem InVar.set {bl lo:Nat} {T O P:List Q4} {W:World} (h:InVar bl lo T O P W) {b:Nat} (hb:b<lo) (hn:b≠bl) (v:Value):InVar bl lo T O P (W.setCell ⟨b,0,none⟩ v):=by
 obtain ⟨a1,n1,c1,a2,n2,c2,a3,n3,c3,hc,hl⟩:=h
 refine ⟨a1,n1,c1,a2,n2,c2,a3,n3,c3,Cells.onlyO (OnlyO.of_grown (zc9 W b 0 v)) (fun c hc e=>?_) hc,hl.set hb _ _⟩
 have e1:b=c.1:=Option.some.inj e
 simp only [List.mem_cons,List.not_mem_nil,or_false] at hc
 rcases hc with rfl|rfl|rfl <;> exact hn e1
theorem z1f {W W2:World} {bl:Nat} {a1:Option Addr} {n1 c1:Nat} {a2:Option Addr} {n2 c2:Nat} {a3:Option Addr} {n3 c3:Nat} {T O P:List Q4} (hl:LV W2 W.heap.size (.slice a1 n1 c1) (.slice a2 n2 c2) (.slice a3 n3 c3) T O P) (hb:Below W.heap.size W W2) (hbl:bl<W.heap.size)
 {u0 u1 u2:Value} (h0:W2.cell? ⟨bl,0,none⟩=some u0) (h1:W2.cell? ⟨bl,1,none⟩=some u1) (h2:W2.cell? ⟨bl,2,none⟩=some u2) :
 InVar bl W.heap.size T O P (((W2.setCell ⟨bl,0,none⟩ (.slice a1 n1 c1)).setCell ⟨bl,1,none⟩ (.slice a2 n2 c2)).setCell ⟨bl,2,none⟩ (.slice a3 n3 c3))∧OnlyP (fun k=>k=bl) W (((W2.setCell ⟨bl,0,none⟩ (.slice a1 n1 c1)).setCell ⟨bl,1,none⟩ (.slice a2 n2 c2)).setCell ⟨bl,2,none⟩ (.slice a3 n3 c3)):=by
 have hs:=hb.size
 have hz:bl<W2.heap.size:=by omega
 have hc:=zcw (.slice a1 n1 c1) (.slice a2 n2 c2) (.slice a3 n3 c3) h0 h1 h2
 refine ⟨⟨a1,n1,c1,a2,n2,c2,a3,n3,c3,⟨⟨by simpa using hz,hc 0 _ rfl⟩,⟨by simpa using hz,hc 1 _ rfl⟩,⟨by simpa using hz,hc 2 _ rfl⟩,trivial⟩,((hl.set hbl _ _).set hbl _ _).set hbl _ _⟩,hb.os,hb.tape,hb.output,by simpa using hs,fun k hk hn=>?_⟩
 rw [Below.heap_setCell _ _ _ _ (by simp only;omega),Below.heap_setCell _ _ _ _ (by simp only;omega),Below.heap_setCell _ _ _ _ (by simp only;omega)]
 exact hb.block k hk
theorem z1g {w w4 W:World} {br bl:Nat} {a1:Option Addr} {n1 c1:Nat} {a2:Option Addr} {n2 c2:Nat} {a3:Option Addr} {n3 c3:Nat} {T O P:List Q4} (hl:LV W w4.heap.size (.slice a1 n1 c1) (.slice a2 n2 c2) (.slice a3 n3 c3) T O P) (h4:Below w.heap.size w w4) (ho:OnlyP (fun k=>k=bl) w4 W) (hbl:w.heap.size≤bl) (hbr:w.heap.size≤br) (hbr2:br<w4.heap.size) :
 LV (((W.setCell ⟨br,0,none⟩ (.slice a1 n1 c1)).setCell ⟨br,1,none⟩ (.slice a2 n2 c2)).setCell ⟨br,2,none⟩ (.slice a3 n3 c3)) w.heap.size (.slice a1 n1 c1) (.slice a2 n2 c2) (.slice a3 n3 c3) T O P∧Below w.heap.size w (((W.setCell ⟨br,0,none⟩ (.slice a1 n1 c1)).setCell ⟨br,1,none⟩ (.slice a2 n2 c2)).setCell ⟨br,2,none⟩ (.slice a3 n3 c3)):=by
 have hb:Below w.heap.size w W:=h4.trans (ho.below (fun k e=>by omega) h4.size)
 exact ⟨(((hl.set hbr2 _ _).set hbr2 _ _).set hbr2 _ _).lower h4.size,((hb.setCell (by simp only;omega) _).setCell (by simp only;omega) _).setCell (by simp only;omega) _⟩
section
end
def zb4 (T O P S:List Q4) (now:Int):List Q4:=if zj4 T O P S now=true then S else []
def zz7 (T O P S:List Q4) (now:Int):List Q4:=if zj4 T O P S now=true then zim S O now else []
def zz8 (T O P S:List Q4) (now:Int):List Q4:=if zj4 T O P S now=true then zja S P now else []
theorem zyj {w:World} {b0 bt bn bl:Nat} {aT aO aP aS:Option Addr} (cT cO cP cS:Nat) {T O P S:List Q4} {now:Int} {u0 u1 u2:Value} (hm:zj4 T O P S now=true) (hc:Cells w [(b0,0,.slice aT T.length cT),(b0,1,.slice aO O.length cO),(b0,2,.slice aP P.length cP),(bt,0,.slice aS S.length cS),(bn,0,.int .i64 now),(bl,0,u0),(bl,1,u1),(bl,2,u2)]) (hz:∀o:Nat,w.frozen? ⟨bl,o,none⟩=false) (hT:Quad w.heap.size w aT T) (hO:Quad w.heap.size w aO O) (hP:Quad w.heap.size w aP P) (hS:Quad w.heap.size w aS S) :
 Calls Tryz.prog 138 #[.pointer (some ⟨b0,0,none⟩),.pointer (some ⟨bt,0,none⟩),.pointer (some ⟨bn,0,none⟩),.pointer (some ⟨bl,0,none⟩)] w fun e W=>e=.returned (.tuple #[])∧InVar bl w.heap.size S (zim S O now) (zja S P now) W∧OnlyP (fun k=>k=bl) w W:=by
 have HC:Hid (Cells w [(b0,0,.slice aT T.length cT),(b0,1,.slice aO O.length cO),(b0,2,.slice aP P.length cP),(bt,0,.slice aS S.length cS),(bn,0,.int .i64 now),(bl,0,u0),(bl,1,u1),(bl,2,u2)]):=hc
 have ⟨⟨_,k0⟩,⟨_,k1⟩,⟨_,k2⟩,⟨_,k3⟩,⟨_,k4⟩,⟨z2,k5⟩,⟨_,k6⟩,⟨_,k7⟩,_⟩:=hc
 clear hc
 go_enter Tryz.func138,Tryz.ntmps138
 go_wp2_with (first|(go_at_call 139;refine (zq8 cT cO cP cS now hT hO hP hS hm).mono ?_;rintro e w2 ⟨a1,n1,c1,a2,n2,c2,a3,n3,c3,rfl,hl,hb2⟩;have ⟨_,_,_,_,_,⟨_,j2⟩,⟨_,j3⟩,⟨_,j4⟩,_⟩:=Cells.next hb2 HC.out;have jf:∀o:Nat,w2.frozen? ⟨bl,o,none⟩=false:=fun o=>(zcq hb2 _ _ z2).trans (hz o);have HL:Hid (LV w2 w.heap.size (.slice a1 n1 c1) (.slice a2 n2 c2) (.slice a3 n3 c3) S (zim S O now) (zja S P now)):=hl;clear hl))
 go_end0
 exact ⟨rfl,z1f HL.out hb2 z2 j2 j3 j4⟩
theorem z1h {w:World} {b0 bt bn bl:Nat} {aT aO aP aS:Option Addr} (cT cO cP cS:Nat) {T O P S:List Q4} {now:Int} (hm:zj4 T O P S now=false) (hc:Cells w [(b0,0,.slice aT T.length cT),(b0,1,.slice aO O.length cO),(b0,2,.slice aP P.length cP),(bt,0,.slice aS S.length cS),(bn,0,.int .i64 now)]) (hT:Quad w.heap.size w aT T) (hO:Quad w.heap.size w aO O) (hP:Quad w.heap.size w aP P) (hS:Quad w.heap.size w aS S) :
 Calls Tryz.prog 138 #[.pointer (some ⟨b0,0,none⟩),.pointer (some ⟨bt,0,none⟩),.pointer (some ⟨bn,0,none⟩),.pointer (some ⟨bl,0,none⟩)] w fun e W=>e=zgp∧Below w.heap.size w W:=by
 have ⟨⟨_,k0⟩,⟨_,k1⟩,⟨_,k2⟩,⟨_,k3⟩,⟨_,k4⟩,_⟩:=hc
 clear hc
 go_enter Tryz.func138,Tryz.ntmps138
 go_wp2_with (first|(go_at_call 139;refine (zuq cT cO cP cS now hT hO hP hS hm).mono ?_;rintro e w2 ⟨rfl,hb2⟩))
 exact ⟨rfl,rfl,hb2⟩
theorem zrb {w:World} {aT aO aP aS:Option Addr} (cT cO cP cS:Nat) {T O P S:List Q4} (now:Int) (hT:Quad w.heap.size w aT T) (hO:Quad w.heap.size w aO O) (hP:Quad w.heap.size w aP P) (hS:Quad w.heap.size w aS S) :
 Calls Tryz.prog 88 #[zdb aT T.length cT aO O.length cO aP P.length cP,.slice aS S.length cS,.int .i64 now] w (zgz w (zb4 T O P S now) (zz7 T O P S now) (zz8 T O P S now) (zj4 T O P S now)):=by
 have hmf:∀(fn:Fn) (first cap:Array Value) (w:World),(Instr.makeFunc fn first cap).run Tryz.prog w=.ok (.func fn first cap) w:=fun _ _ _ _=>rfl
 have hent:∀args w,(callFunc 138 args).run Tryz.prog w=.ok (.enter 138 args) w:=enters_of Tryz.func138 (by kernel_rfl) rfl
 have hb4:Below w.heap.size w (((((w.alloc (.cells #[.slice aT T.length cT,.slice aO O.length cO,.slice aP P.length cP] 27)).alloc (.cells #[.slice aS S.length cS] 24)).alloc (.cells #[.int .i64 now] 2)).alloc (.cells #[.slice none 0 0,.slice none 0 0,.slice none 0 0] 27)).alloc (.cells #[.slice none 0 0,.slice none 0 0,.slice none 0 0] 27)):=by go_grown
 have s4:(((((w.alloc (.cells #[.slice aT T.length cT,.slice aO O.length cO,.slice aP P.length cP] 27)).alloc (.cells #[.slice aS S.length cS] 24)).alloc (.cells #[.int .i64 now] 2)).alloc (.cells #[.slice none 0 0,.slice none 0 0,.slice none 0 0] 27)).alloc (.cells #[.slice none 0 0,.slice none 0 0,.slice none 0 0] 27)).heap.size=w.heap.size+5:=by simp
 have c4:Cells (((((w.alloc (.cells #[.slice aT T.length cT,.slice aO O.length cO,.slice aP P.length cP] 27)).alloc (.cells #[.slice aS S.length cS] 24)).alloc (.cells #[.int .i64 now] 2)).alloc (.cells #[.slice none 0 0,.slice none 0 0,.slice none 0 0] 27)).alloc (.cells #[.slice none 0 0,.slice none 0 0,.slice none 0 0] 27)) [(w.heap.size,0,.slice aT T.length cT),(w.heap.size,1,.slice aO O.length cO),(w.heap.size,2,.slice aP P.length cP),(w.heap.size+1,0,.slice aS S.length cS),(w.heap.size+2,0,.int .i64 now),(w.heap.size+4,0,.slice none 0 0),(w.heap.size+4,1,.slice none 0 0),(w.heap.size+4,2,.slice none 0 0),(w.heap.size+3,0,.slice none 0 0),(w.heap.size+3,1,.slice none 0 0),(w.heap.size+3,2,.slice none 0 0)] :=
  ⟨⟨by simp <;> omega,by go_simp⟩,⟨by simp <;> omega,by go_simp⟩,⟨by simp <;> omega,by go_simp⟩,⟨by simp <;> omega,by go_simp⟩,⟨by simp <;> omega,by go_simp⟩,⟨by simp <;> omega,by go_simp⟩,⟨by simp <;> omega,by go_simp⟩,⟨by simp <;> omega,by go_simp⟩,⟨by simp <;> omega,by go_simp⟩,⟨by simp <;> omega,by go_simp⟩,⟨by simp <;> omega,by go_simp⟩,trivial⟩
 have f3:∀o:Nat,(((((w.alloc (.cells #[.slice aT T.length cT,.slice aO O.length cO,.slice aP P.length cP] 27)).alloc (.cells #[.slice aS S.length cS] 24)).alloc (.cells #[.int .i64 now] 2)).alloc (.cells #[.slice none 0 0,.slice none 0 0,.slice none 0 0] 27)).alloc (.cells #[.slice none 0 0,.slice none 0 0,.slice none 0 0] 27)).frozen? ⟨w.heap.size+4,o,none⟩=false:=fun o=>by go_simp
 have f2:∀o:Nat,(((((w.alloc (.cells #[.slice aT T.length cT,.slice aO O.length cO,.slice aP P.length cP] 27)).alloc (.cells #[.slice aS S.length cS] 24)).alloc (.cells #[.int .i64 now] 2)).alloc (.cells #[.slice none 0 0,.slice none 0 0,.slice none 0 0] 27)).alloc (.cells #[.slice none 0 0,.slice none 0 0,.slice none 0 0] 27)).frozen? ⟨w.heap.size+3,o,none⟩=false:=fun o=>by go_simp
 have nd:=zac (((((w.alloc (.cells #[.slice aT T.length cT,.slice aO O.length cO,.slice aP P.length cP] 27)).alloc (.cells #[.slice aS S.length cS] 24)).alloc (.cells #[.int .i64 now] 2)).alloc (.cells #[.slice none 0 0,.slice none 0 0,.slice none 0 0] 27)).alloc (.cells #[.slice none 0 0,.slice none 0 0,.slice none 0 0] 27)) (.cells #[.bool false] 4)
 have hb5:Below w.heap.size w ((((((w.alloc (.cells #[.slice aT T.length cT,.slice aO O.length cO,.slice aP P.length cP] 27)).alloc (.cells #[.slice aS S.length cS] 24)).alloc (.cells #[.int .i64 now] 2)).alloc (.cells #[.slice none 0 0,.slice none 0 0,.slice none 0 0] 27)).alloc (.cells #[.slice none 0 0,.slice none 0 0,.slice none 0 0] 27)).alloc (.cells #[.bool false] 4)):=zaa hb4 nd
 have ⟨x0,x1,x2,x3,x4,x5,x6,x7,_⟩:=Cells.next nd c4
 have f35:∀o:Nat,((((((w.alloc (.cells #[.slice aT T.length cT,.slice aO O.length cO,.slice aP P.length cP] 27)).alloc (.cells #[.slice aS S.length cS] 24)).alloc (.cells #[.int .i64 now] 2)).alloc (.cells #[.slice none 0 0,.slice none 0 0,.slice none 0 0] 27)).alloc (.cells #[.slice none 0 0,.slice none 0 0,.slice none 0 0] 27)).alloc (.cells #[.bool false] 4)).frozen? ⟨w.heap.size+4,o,none⟩=false:=fun o=>(zcq nd _ _ (by rw [s4];omega)).trans (f3 o)
 cases hn:zj4 T O P S now
 ·have e:zb4 T O P S now=[]∧zz7 T O P S now=[]∧zz8 T O P S now=[]:=by unfold zb4 zz7 zz8;rw [hn];exact ⟨rfl,rfl,rfl⟩
  rw [e.1,e.2.1,e.2.2]
  have hk:=zzz _ hent (z1h (bl:=w.heap.size+4) cT cO cP cS hn ⟨x0,x1,x2,x3,x4,trivial⟩ (hT.here hb5) (hO.here hb5) (hP.here hb5) (hS.here hb5))
  have C4:Hid (Cells (((((w.alloc (.cells #[.slice aT T.length cT,.slice aO O.length cO,.slice aP P.length cP] 27)).alloc (.cells #[.slice aS S.length cS] 24)).alloc (.cells #[.int .i64 now] 2)).alloc (.cells #[.slice none 0 0,.slice none 0 0,.slice none 0 0] 27)).alloc (.cells #[.slice none 0 0,.slice none 0 0,.slice none 0 0] 27)) _):=c4
  have F2:Hid (∀o:Nat,(((((w.alloc (.cells #[.slice aT T.length cT,.slice aO O.length cO,.slice aP P.length cP] 27)).alloc (.cells #[.slice aS S.length cS] 24)).alloc (.cells #[.int .i64 now] 2)).alloc (.cells #[.slice none 0 0,.slice none 0 0,.slice none 0 0] 27)).alloc (.cells #[.slice none 0 0,.slice none 0 0,.slice none 0 0] 27)).frozen? ⟨w.heap.size+3,o,none⟩=false):=f2
  clear c4 x0 x1 x2 x3 x4 x5 x6 x7 hent e f3 f35 nd hb5 f2
  go_enter Tryz.func88,Tryz.ntmps88
  go_wp2_with (first|(go_at_call 123;refine hk.mono ?_;clear hk;rintro e w2 ⟨rfl,hb2⟩;have ⟨_,_,_,_,_,⟨_,j0⟩,⟨_,j1⟩,⟨_,j2⟩,⟨_,i0⟩,⟨_,i1⟩,⟨_,i2⟩,_⟩:=Cells.next hb2 C4.out;have jf:∀o:Nat,w2.frozen? ⟨w.heap.size+3,o,none⟩=false:=fun o=>(zcq hb2 _ _ (by rw [s4];omega)).trans (F2.out o)))
  refine bodyPost_ret (zak rfl _ _ _ [.slice none 0 0,.slice none 0 0,.slice none 0 0] rfl (zcw (u0:=.slice none 0 0) (u1:=.slice none 0 0) (u2:=.slice none 0 0) _ _ _ i0 i1 i2) Tryz.underlying27 rfl (by kernel_rfl)) rfl ?_
  exact ⟨_,_,_,_,_,_,_,_,_,rfl,LV.zero _ _,(((zaa hb4 hb2).setCell (by simp only;omega) _).setCell (by simp only;omega) _).setCell (by simp only;omega) _⟩
 ·have e:zb4 T O P S now=S∧zz7 T O P S now=zim S O now∧zz8 T O P S now=zja S P now:=by unfold zb4 zz7 zz8;rw [hn];exact ⟨rfl,rfl,rfl⟩
  rw [e.1,e.2.1,e.2.2]
  have hk:=att_on _ hent (p:=fun k=>k=w.heap.size+4) (R:=InVar (w.heap.size+4) ((((((w.alloc (.cells #[.slice aT T.length cT,.slice aO O.length cO,.slice aP P.length cP] 27)).alloc (.cells #[.slice aS S.length cS] 24)).alloc (.cells #[.int .i64 now] 2)).alloc (.cells #[.slice none 0 0,.slice none 0 0,.slice none 0 0] 27)).alloc (.cells #[.slice none 0 0,.slice none 0 0,.slice none 0 0] 27)).alloc (.cells #[.bool false] 4)).heap.size S (zim S O now) (zja S P now)) (by rw [s4];omega) (fun W v h=>h.set (by simp) (by rw [s4];omega) v) (zyj cT cO cP cS hn ⟨x0,x1,x2,x3,x4,x5,x6,x7,trivial⟩ f35 (hT.here hb5) (hO.here hb5) (hP.here hb5) (hS.here hb5))
  have C4:Hid (Cells (((((w.alloc (.cells #[.slice aT T.length cT,.slice aO O.length cO,.slice aP P.length cP] 27)).alloc (.cells #[.slice aS S.length cS] 24)).alloc (.cells #[.int .i64 now] 2)).alloc (.cells #[.slice none 0 0,.slice none 0 0,.slice none 0 0] 27)).alloc (.cells #[.slice none 0 0,.slice none 0 0,.slice none 0 0] 27)) _):=c4
  have F2:Hid (∀o:Nat,(((((w.alloc (.cells #[.slice aT T.length cT,.slice aO O.length cO,.slice aP P.length cP] 27)).alloc (.cells #[.slice aS S.length cS] 24)).alloc (.cells #[.int .i64 now] 2)).alloc (.cells #[.slice none 0 0,.slice none 0 0,.slice none 0 0] 27)).alloc (.cells #[.slice none 0 0,.slice none 0 0,.slice none 0 0] 27)).frozen? ⟨w.heap.size+3,o,none⟩=false):=f2
  clear c4 x0 x1 x2 x3 x4 x5 x6 x7 hent e f3 f35 nd hb5 f2
  go_enter Tryz.func88,Tryz.ntmps88
  go_wp2_with (first|(go_at_call 123;refine hk.mono ?_;clear hk;rintro e w2 ⟨rfl,⟨a1,n1,c1,a2,n2,c2,a3,n3,c3,⟨⟨_,j0⟩,⟨_,j1⟩,⟨_,j2⟩,_⟩,hl⟩,ho⟩;have i0:=(ho.cell (a:=⟨w.heap.size+3,0,none⟩) (by rw [s4];simp only;omega) (by simp only;omega)).trans C4.out.2.2.2.2.2.2.2.2.1.2;have i1:=(ho.cell (a:=⟨w.heap.size+3,1,none⟩) (by rw [s4];simp only;omega) (by simp only;omega)).trans C4.out.2.2.2.2.2.2.2.2.2.1.2;have i2:=(ho.cell (a:=⟨w.heap.size+3,2,none⟩) (by rw [s4];simp only;omega) (by simp only;omega)).trans C4.out.2.2.2.2.2.2.2.2.2.2.1.2;have jf:∀o:Nat,w2.frozen? ⟨w.heap.size+3,o,none⟩=false:=fun o=>(ho.frozen (a:=⟨w.heap.size+3,o,none⟩) (by rw [s4];simp only;omega) (by simp only;omega)).trans (F2.out o);have HL:Hid (LV w2 _ (.slice a1 n1 c1) (.slice a2 n2 c2) (.slice a3 n3 c3) S (zim S O now) (zja S P now)):=hl;clear hl))
  refine bodyPost_ret (zak rfl _ _ _ [.slice a1 n1 c1,.slice a2 n2 c2,.slice a3 n3 c3] rfl (zcw (u0:=.slice none 0 0) (u1:=.slice none 0 0) (u2:=.slice none 0 0) _ _ _ i0 i1 i2) Tryz.underlying27 rfl (by kernel_rfl)) rfl ?_
  have hf:=z1g (br:=w.heap.size+3) (HL.out.lower (lo':=(((((w.alloc (.cells #[.slice aT T.length cT,.slice aO O.length cO,.slice aP P.length cP] 27)).alloc (.cells #[.slice aS S.length cS] 24)).alloc (.cells #[.int .i64 now] 2)).alloc (.cells #[.slice none 0 0,.slice none 0 0,.slice none 0 0] 27)).alloc (.cells #[.slice none 0 0,.slice none 0 0,.slice none 0 0] 27)).heap.size) (by simp)) hb4 ho (by omega) (by omega) (by rw [s4];omega)
  exact ⟨_,_,_,_,_,_,_,_,_,rfl,hf.1,hf.2⟩
theorem zpw {r u l t r' u' now:Int} (h:zgn r u l t=true) (hr:zc2 r'=true) (hu:zl9 u'=true) (hn:zau now=true) (ht:t≤now) :
 ∃l',zgc r u l t r' u' now=(r',u',l',now)∧zgn r' u' l' now=true∧l'≤1000000000*u':=by
 obtain ⟨nr,nu,nl,nt⟩:=zdl h
 have nu':=ziy hu
 have e:ze0 r u l t r' u' now=true:=by unfold ze0;rw [h,hr,hu,hn];rfl
 have eT:zdm t now=now:=by unfold zdm;split <;> omega
 have f0:0≤zda r u l t now:=by
  unfold zda
  split
  ·exact nl.1
  ·have hp:0≤r*(now-t):=Int.mul_nonneg nr.1 (by omega)
   generalize r*(now-t)=X at *
   omega
 refine ⟨min (zda r u l t now) (1000000000*u'),?_,?_,by omega⟩
 ·unfold zgc
  rw [if_pos e,eT]
 ·unfold zgn zve
  rw [hr,hu,hn,decide_eq_true (by omega),decide_eq_true (by omega)]
  rfl
theorem zjc {T O P:List Q4} (h:∀k (h1:k<T.length) (h2:k<O.length) (h3:k<P.length),zj3 (zdv O) O[k] P[k] T[k]=true) (lo:O.length=T.length) (lp:P.length=T.length):∀n,n≤T.length→zdq T O P n=true
 | 0,_=>rfl
 | n+1,hn=>by
  show (zdq T O P n && zfx T O P n)=true
  rw [zjc h lo lp n (by omega),zij (show n<T.length by omega) (by omega) (by omega),h n (by omega) (by omega) (by omega)]
  rfl
theorem zpx {hi:Int} {t:Q4} (h:zhx hi t=true):zc2 t.2.1=true∧zc2 t.2.2.1=true∧zl9 t.2.2.2=true:=by
 unfold zhx at h
 simp only [Bool.and_eq_true] at h
 refine ⟨h.1.1.1.1,h.1.1.1.2,?_⟩
 have hb:=h.2
 unfold zzt at hb
 simp only [Bool.and_eq_true,decide_eq_true_eq] at hb
 unfold zl9
 rw [decide_eq_true (by omega),decide_eq_true (by omega)]
 rfl
theorem z1i {S O:List Q4} {now:Int} {k:Nat} (h:k<(zim S O now).length) (h1:k<O.length) (h2:k<S.length):(zim S O now)[k]=zfc now S[k].2.1 S[k].2.2.2 O[k]:=List.getElem_zipWith ..
theorem z1j {S P:List Q4} {now:Int} {k:Nat} (h:k<(zja S P now).length) (h1:k<P.length) (h2:k<S.length):(zja S P now)[k]=zfc now S[k].2.2.1 S[k].2.2.2 P[k]:=List.getElem_zipWith ..
structure Moved (S YO YP:List Q4):Prop where
 lo:YO.length=S.length
 lp:YP.length=S.length
 own:∀k (h1:k<S.length) (h2:k<YO.length),YO[k].2.2.1≤1000000000*S[k].2.2.2
 top:∀k (h1:k<S.length) (h3:k<YP.length),YP[k].1=S[k].2.2.1
 ok:zbf S YO YP=true
theorem moved {T O P S:List Q4} {now:Int} (h:zj4 T O P S now=true):Moved S (zim S O now) (zja S P now):=by
 unfold zj4 at h
 simp only [Bool.and_eq_true,decide_eq_true_eq] at h
 obtain ⟨⟨⟨hL,hC⟩,hlen⟩,hA,hN⟩:=h
 have IL:=zbe hL
 have IT:=zfj hC
 have ha:=z1d IL
 have hn:zau now=true:=by unfold zau;rw [decide_eq_true (by omega),decide_eq_true hN];rfl
 have lO:O.length=S.length:=by rw [IL.lo];exact hlen.symm
 have lP:P.length=S.length:=by rw [IL.lp];exact hlen.symm
 have l1:=zh0 (now:=now) lO
 have l2:=zh1 (now:=now) lP
 have key:∀k (h1:k<S.length) (h2:k<(zim S O now).length) (h3:k<(zja S P now).length),(∃l,(zim S O now)[k]=(S[k].2.1,S[k].2.2.2,l,now)∧zgn S[k].2.1 S[k].2.2.2 l now=true∧l≤1000000000*S[k].2.2.2)∧∃l,(zja S P now)[k]=(S[k].2.2.1,S[k].2.2.2,l,now)∧zgn S[k].2.2.1 S[k].2.2.2 l now=true∧l≤1000000000*S[k].2.2.2:=by
  intro k h1 h2 h3
  have pk:=zd0 (IL.pair k (by omega) (by omega) (by omega))
  obtain ⟨c1,c2,c3⟩:=zpx (IT.sound.cls k h1)
  constructor
  ·obtain ⟨l,e,b,le⟩:=zpw pk.oka c1 c3 hn (by rw [pk.ta];exact hA)
   refine ⟨l,?_,b,le⟩
   rw [z1i h2 (by omega) h1]
   exact e
  ·obtain ⟨l,e,b,le⟩:=zpw pk.okb c2 c3 hn (by rw [pk.tb];exact hA)
   refine ⟨l,?_,b,le⟩
   rw [z1j h3 (by omega) h1]
   exact e
 have h0:=IT.l0
 have hat:zdv (zim S O now)=now:=by
  unfold zdv
  rw [List.getElem?_eq_getElem (show 0<(zim S O now).length by omega)]
  obtain ⟨⟨l,e,_⟩,_⟩:=key 0 (by omega) (by omega) (by omega)
  rw [e]
 refine ⟨l1,l2,fun k h1 h2=>?_,fun k h1 h3=>?_,?_⟩
 ·obtain ⟨⟨l,e,_,le⟩,_⟩:=key k h1 h2 (by omega)
  rw [e]
  exact le
 ·obtain ⟨_,l,e,_,_⟩:=key k h1 (by omega) h3
  rw [e]
 ·unfold zbf
  rw [decide_eq_true hC,decide_eq_true l1,decide_eq_true l2,zjc (fun k h1 h2 h3=>?_) l1 l2 S.length (Nat.le_refl _)]
  ·rfl
  ·obtain ⟨⟨l,e,b,_⟩,l',e',b',_⟩:=key k h1 h2 h3
   rw [hat,e,e']
   exact zwg ⟨b,b',rfl,rfl,rfl,rfl,rfl,rfl⟩
def RowQB (w:World) (N:List Q4) (e:Ending) (w':World):Prop:=∃v,e=.returned v∧w'.ownsRow w.heap.size 53 4 v N.length (zaz N)∧Below w.heap.size w w'
theorem zrc {w:World} {b off:Nat} (cap:Nat) {xs:List Q4} (h:Quad w.heap.size w (some ⟨b,off,none⟩) xs) (hl:xs.length≤1000) :
 Calls Tryz.prog 98 #[.slice (some ⟨b,off,none⟩) xs.length cap] w (RowQB w xs):=by
 obtain ⟨i0,hi,hz0,hz1,hz2⟩:=info_parts zga
 have q:∀(w:World) (a:Option Addr) (n c n' c':Nat),(binOp .eql 25 (.slice a n c) (.slice none n' c')).run Tryz.prog w=.ok (.bool a.isNone) w:=fun w a n c n' c'=>Lib.run_eql_slice_nil w _ _ a n c n' c' Tryz.underlying25
 have A:Hid (∀j u,(zaz xs)[j]?=some u→(w.alloc (.cells #[] 53)).cell? ((⟨b,off,none⟩:Addr).add j)=some u):=zfw (h.here (zac _ _))
 go_enter Tryz.func98,Tryz.ntmps98
 go_wp2_with (at_builtin;refine wpList_append_own _ rfl _ _ 25 rfl w.heap.size 53 i0 _ 4 32 Tryz.underlying25 hi hz0 hz1 hz2 rfl (by decide) _ 0 [] rfl (zfv w _ (Nat.le_refl _) _) ⟨b,off,none⟩ xs.length cap (zaz xs) rfl (zcg xs) A.out (zcm xs) (by unfold maxLen;omega) (by omega) (by simp) ?_;intro v' w1 hown hgr hnil)
 go_ret
 exact ⟨v',rfl,by simpa using hown,((Below.refl _ w).alloc (Nat.le_refl _) _).grown hgr (by simp) (fun k hk=>Nat.le_of_eq (Option.some.inj hk))⟩
theorem zpy {B:Nat} {w:World} {a:Option Addr} {xs:List Q4} (h:Quad B w a xs) (h0:1≤xs.length):∃b off,a=some ⟨b,off,none⟩:=by
 obtain ⟨b,off,e,_⟩:=h 0 (by omega)
 exact ⟨b,off,e⟩
theorem zrd {w:World} {a:Option Addr} (cap:Nat) {xs:List Q4} (h:Quad w.heap.size w a xs) (hl:1≤xs.length∧xs.length≤30) :
 Calls Tryz.prog 97 #[.slice a xs.length cap] w (RowQ w xs):=by
 obtain ⟨b,off,rfl⟩:=zpy h hl.1
 exact zm8 cap h (by omega)
theorem zlk {w:World} {a:Option Addr} (cap:Nat) {xs:List Q4} (h:Quad w.heap.size w a xs) (hl:1≤xs.length∧xs.length≤30) :
 Calls Tryz.prog 98 #[.slice a xs.length cap] w (RowQB w xs):=by
 obtain ⟨b,off,rfl⟩:=zpy h hl.1
 exact zrc cap h (by omega)
def z1k (B:Nat) (w:World) (fs:List F8) (e:Ending) (w':World):Prop:=∃g cap G,e=.returned (.slice (some ⟨g,0,none⟩) fs.length cap)∧Vals B w G fs∧w'.ownsRow w.heap.size 50 3 (.slice (some ⟨g,0,none⟩) fs.length cap) fs.length (zdw G)∧Below w.heap.size w w'
theorem zre {B:Nat} {w:World} {a:Option Addr} (cap:Nat) {fs:List F8} (h:Fls B w a fs) (hB:B≤w.heap.size) (h0:0<fs.length) (hl:fs.length≤1048576) :
 Calls Tryz.prog 99 #[.slice a fs.length cap] w (z1k B w fs):=by
 obtain ⟨i0,hi,hz0,hz1,hz2⟩:=info_parts zi5
 have q:∀(w:World) (a:Option Addr) (n c n' c':Nat),(binOp .eql 28 (.slice a n c) (.slice none n' c')).run Tryz.prog w=.ok (.bool a.isNone) w:=fun w a n c n' c'=>Lib.run_eql_slice_nil w _ _ a n c n' c' Tryz.underlying28
 obtain ⟨b,off,G,rfl,hb,hV,hN⟩:=h.vals h0
 have hgl:=hV.len
 have A:Hid (∀j u,(zdw G)[j]?=some u→(w.alloc (.cells #[] 50)).cell? ((⟨b,off,none⟩:Addr).add j)=some u):=fun j u hj=>by
  have hc:=hN j u hj
  have e:(⟨b,off,none⟩:Addr).add j=⟨b,off+j,none⟩:=by unfold Addr.add;split <;> simp_all
  rw [e] at hc ⊢
  exact ((zac w (.cells #[] 50)).cell (p:=⟨b,off+j,none⟩) (Nat.lt_of_lt_of_le hb hB)).trans hc
 have ON:Hid ((w.alloc (.cells #[] 50)).ownsRow w.heap.size 50 3 (.slice (some ⟨w.heap.size,0,none⟩) 0 0) 0 []):=⟨rfl,.inr ⟨w.heap.size,0,#[],rfl,Nat.le_refl _,heap_alloc_new _ _,Nat.le_refl _,by unfold maxLen;omega,rfl,rfl⟩⟩
 have HV1:Hid (∀u ∈ zdw G,u.oneCell'=true):=hV.one
 have HV:Hid (Vals B w G fs):=hV
 have HL:Hid ((zdw G).length=fs.length*3):=by rw [zdh,hgl];exact rfl
 clear hN hV hgl
 go_enter Tryz.func99,Tryz.ntmps99
 go_wp2_with (at_builtin;refine wpList_append_own _ rfl _ _ 28 rfl w.heap.size 50 i0 _ 3 40 Tryz.underlying28 hi hz0 hz1 hz2 rfl (by decide) _ 0 [] rfl ON.out ⟨b,off,none⟩ fs.length cap (zdw G) rfl HL.out A.out HV1.out (by unfold maxLen;omega) (by omega) (by simp) ?_;intro v' w1 hown hgr hnil)
 go_ret
 have hbw:Below w.heap.size w w1:=((Below.refl _ w).alloc (Nat.le_refl _) _).grown hgr (by simp) (fun k hk=>Nat.le_of_eq (Option.some.inj hk))
 rw [Nat.zero_add,List.nil_append] at hown
 rcases hown.2 with ⟨rfl,e⟩|⟨g,cap',cur,rfl,_⟩
 ·omega
 ·exact ⟨g,cap',G,rfl,HV.out,hown,hbw⟩
end Go.Proofs.YthiojkjcmhojoaaGreat
