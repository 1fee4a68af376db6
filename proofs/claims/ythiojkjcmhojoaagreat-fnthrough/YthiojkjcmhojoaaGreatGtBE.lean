import Derived.Test.YthiojkjcmhojoaaGreatGtAF
import Derived.Test.YthiojkjcmhojoaaGreatGtAE
import Derived.Test.YthiojkjcmhojoaaGreatGtAO
import Derived.WalkSpells
namespace Go.Proofs.YthiojkjcmhojoaaGreat
set_option maxHeartbeats 2000000
open Go.ChangeShapes Go.WideShapes Go.ChangeAt Go.RowKit Go.Maps
open Go.MuLone
set_option maxRecDepth 100000
set_option linter.all false
structure OnlyC (a b:Nat) (w w':World):Prop where
 os:w'.os=w.os
 tape:w'.tape=w.tape
 output:w'.output=w.output
 size:w.heap.size<=w'.heap.size
 block:∀k,k<w.heap.size->k≠a->k≠b->w'.heap[k]?=w.heap[k]?
theorem OnlyC.below{a b B:Nat}{w w':World}(h:OnlyC a b w w')(ha:B<=a)(hb:B<=b)(hB:B<=w.heap.size):Below B w w':=⟨h.os,h.tape,h.output,h.size,fun k hk=>h.block k (by omega) (by omega) (by omega)⟩
theorem OnlyC.cell{a b:Nat}{w w':World}(h:OnlyC a b w w'){p:Addr}(hp:p.block<w.heap.size)(h1:p.block≠a)(h2:p.block≠b):w'.cell? p=w.cell? p:=World.cell?_of_block (w:=w) (h.block p.block hp h1 h2)
theorem OnlyC.frozen{a b:Nat}{w w':World}(h:OnlyC a b w w'){p:Addr}(hp:p.block<w.heap.size)(h1:p.block≠a)(h2:p.block≠b):w'.frozen? p=w.frozen? p:=World.frozen?_of_block (w:=w) (h.block p.block hp h1 h2)
theorem zra{P:Program}{c:Code}{K:Act->World->Prop}{Q:Exit->Act->World->Prop}{a:Act}{w:World}(h:c.wp P (Exit.then K (fun _ _ _=>False)) a w):c.wp P (Exit.then K Q) a w :=
 Code.wp_mono (by intro e a w h;cases e<;>first|exact h|exact h.elim) h
theorem z08:IsMap (.map []:DataW Unit):=by exact⟨_,rfl⟩
theorem zoe{sb bm:Nat}{w w1:World}{x y:Value}(h:(w.setCell ⟨sb,0,none⟩ x).drew.mapTurned w1 bm):OnlyC sb bm w (w1.setCell ⟨sb,0,none⟩ y):=by
 obtain⟨es,cl,es',cl',hb,rfl⟩:=h;refine⟨rfl,rfl,rfl,by simp[ChangeMaps.setBlock],fun k hk h1 h2=>?_⟩;refine (Below.heap_setCell _ _ _ _ (by exact h1)).trans ?_;have e:(ChangeMaps.setBlock (w.setCell ⟨sb,0,none⟩ x).drew bm (.map es' cl')).heap[k]?=(w.setCell ⟨sb,0,none⟩ x).heap[k]?:=by simp only[ChangeMaps.setBlock];rw[Array.getElem?_setIfInBounds_ne (fun e=>h2 e.symm)];rfl
 exact e.trans (Below.heap_setCell _ _ _ _ (by exact h1))
theorem law2:Keyed Tryz.prog 2:=int_keyed Tryz.underlying2
theorem z0g(w:World):(zeroValue 2).run Tryz.prog w=.ok (.int .i64 0) w:=by kernel_rfl
theorem z2d{la og R:Int}(sb bm:Nat)(w:World)(c0:w.cell? ⟨sb,0,none⟩=some (.int .i32 0))(c2:w.cell? ⟨sb,2,none⟩=some (.map (some bm)))(f0:w.frozen? ⟨sb,0,none⟩=false)(hbs:bm≠sb)(hown:w.ownsMap Tryz.prog 2 (plainElem (H:=Unit) Tryz.prog 2) bm 0 (.map []))(hl:0<=la/\la<=1000000000)(ho:0<=og/\og<=1000000000)(h:0<=la-og)(hR:Hid (zhp ((la-og)*2500000000/1500) R))(R0:0<=R/\R<=2097151):Calls Tryz.prog 222 #[.pointer (some ⟨sb,0,none⟩),.int .i64 la,.int .i64 og] w fun e w'=>e=.returned (.int .i64 R)/\OnlyC sb bm w w':=by
 have r2:IntKind.i64.wrap ((la-og)*2500000000)=(la-og)*2500000000:=i64w
 have ed:=zb9 (x:=(la-og)*2500000000) (by omega) 1500;have r3:IntKind.i64.wrap ((la-og)*2500000000/1500)=(la-og)*2500000000/1500:=i64w
 have hC:=fun w=>zjy _ _ w (show (la-og)*2500000000/1500<=9223372036854775807 by omega) hR.out;have r0:IntKind.i64.wrap (la-og)=la-og:=i64w
 have hwv:(Lit.int .i64 ((la-og))).wf=true:=by simp only[Lit.wf,IntKind.min,IntKind.max,IntKind.signed,IntKind.bits,bae,decide_eq_true_eq,if_true];omega
 have hwr:(Lit.int .i64 R).wf=true:=by simp only[Lit.wf,IntKind.min,IntKind.max,IntKind.signed,IntKind.bits,bae,decide_eq_true_eq,if_true];omega
 have hkey:=keyOf_int_mk Tryz.underlying2 hwv;have hno:Maps.has (.map []:DataW Unit) (.int .i64 ((la-og)))=false:=by kernel_rfl
 have hown1:=(hown.setCell (a:=⟨sb,0,none⟩) hbs (.int .i32 1));have c0':(w.setCell ⟨sb,0,none⟩ (.int .i32 1)).cell? ⟨sb,0,none⟩=some (.int .i32 1):=World.cell?_setCell_same w ⟨sb,0,none⟩ (.int .i32 1) c0;obtain⟨w1,hrun,hown2,hturn⟩:=(hown1.drew).store law2 Tryz.underlying198 (t:=198) (by decide) hkey (plainElem_int Tryz.underlying2 hwr);have c2':w1.cell? ⟨sb,2,none⟩=some (.map (some bm)):=by have hblk:=hturn.grown.block sb (World.block_lt_of_cell? _ _ c0') (fun e=>hbs (osi e).symm);have e1:w1.cell? ⟨sb,2,none⟩=(w.setCell ⟨sb,0,none⟩ (.int .i32 1)).drew.cell? ⟨sb,2,none⟩:=(by simp only[World.cell?,hblk]);rw[e1];exact (World.cell?_setCell_other w ⟨sb,0,none⟩ ⟨sb,2,none⟩ _ (by simp)).trans c2
 go_enter_defers Tryz.func222,Tryz.ntmps222;go_wp2_with (first| (go_at_call 229;refine (lock_free z0f ⟨sb,0,none⟩ _ c0 f0).mono ?_;rintro e w' ⟨rfl,rfl⟩)| (at_lookup;refine wpList_lookup_own_ok_int _ rfl _ _ 198 rfl 2 2 .i64 law2 Tryz.underlying198 Tryz.underlying2 (z0g _) bm 0 (.map []) rfl hown1 _ _ rfl hkey ?_;intro c hat hwc;rw[hno]));refine zra ?_;refine za4 (S:=fun w'=>w'.cell? ⟨sb,2,none⟩=some (.map (some bm))) 9 (by kernel_rfl) ((World.cell?_setCell_other w ⟨sb,0,none⟩ ⟨sb,2,none⟩ _ (by simp)).trans c2) (fun hS=>?_);refine zae 0 rfl ?_;refine zae 1 rfl ?_;refine zae 2 rfl ?_;refine zae 3 rfl ?_;refine zae 4 rfl ?_;refine zae 5 rfl ?_;refine zae 6 rfl ?_;refine zae 7 rfl ?_;refine zaj (i:=8) (by kernel_rfl) rfl (fun K hK=>?_);go_simp;refine same1 (hC _) ?_;refine hK.out _ _ ‹_› fun _=>?_;try simp only[nrm]
 refine zat (by kernel_rfl) rfl (by kernel_rfl) (fun K hK=>?_);go_simp;refine hK.out _ _ ?_;try simp only[nrm]
 go_wp2_with (first|(at_lookup;refine wpList_lookup_own_int _ rfl _ _ 198 rfl 2 2 .i64 law2 Tryz.underlying198 Tryz.underlying2 (z0g _) bm 1 _ rfl hown2 _ _ rfl hkey ?_;intro c9 hat9 hwc9));obtain rfl:R=c9:=by have e:=hat9;rw[atKey_put_same z08 (by exact True.intro)]at e;simpa using e
 have cl:w1.cell? ⟨sb,0,none⟩=some (.int .i32 1):=by have hblk:=hturn.grown.block sb (World.block_lt_of_cell? _ _ c0') (fun e=>hbs (osi e).symm);have e1:w1.cell? ⟨sb,0,none⟩=(w.setCell ⟨sb,0,none⟩ (.int .i32 1)).drew.cell? ⟨sb,0,none⟩:=(by simp only[World.cell?,hblk]);rw[e1];exact c0'
 refine leaves_cons (f:=230) (args:=#[.pointer (some ⟨sb,0,none⟩)]) (by simp) (by simp[go_sem]) ?_;refine (unlock_deferred z0f ⟨sb,0,none⟩ .returning _ cl ((hturn.frozen _).trans (by simp[f0]))).mono ?_;rintro e u' w3 ⟨rfl,rfl,rfl⟩;exact⟨_,results_tmp rfl _ _ _,rfl,zoe hturn⟩
theorem zyg{la og R:Int}(sb bm:Nat)(w:World)(c0:w.cell? ⟨sb,0,none⟩=some (.int .i32 0))(c2:w.cell? ⟨sb,2,none⟩=some (.map (some bm)))(f0:w.frozen? ⟨sb,0,none⟩=false)(hbs:bm≠sb)(hown:w.ownsMap Tryz.prog 2 (plainElem (H:=Unit) Tryz.prog 2) bm 0 (.map []))(hl:0<=la/\la<=1000000000)(ho:0<=og/\og<=1000000000)(h:la-og<0)(hR:Hid (zhp (0*2500000000/1500) R))(R0:0<=R/\R<=2097151):Calls Tryz.prog 222 #[.pointer (some ⟨sb,0,none⟩),.int .i64 la,.int .i64 og] w fun e w'=>e=.returned (.int .i64 R)/\OnlyC sb bm w w':=by
 have hC:∀w:World,Calls Tryz.prog 231 #[.int .i64 0] w fun e w'=>e=.returned (.int .i64 R)/\w'=w:=fun w=>zjy _ _ w (by decide) hR.out;have r0:IntKind.i64.wrap (la-og)=la-og:=i64w
 have hwv:(Lit.int .i64 (0)).wf=true:=by simp only[Lit.wf,IntKind.min,IntKind.max,IntKind.signed,IntKind.bits,bae,decide_eq_true_eq,if_true];omega
 have hwr:(Lit.int .i64 R).wf=true:=by simp only[Lit.wf,IntKind.min,IntKind.max,IntKind.signed,IntKind.bits,bae,decide_eq_true_eq,if_true];omega
 have hkey:=keyOf_int_mk Tryz.underlying2 hwv;have hno:Maps.has (.map []:DataW Unit) (.int .i64 (0))=false:=by kernel_rfl
 have hown1:=(hown.setCell (a:=⟨sb,0,none⟩) hbs (.int .i32 1));have c0':(w.setCell ⟨sb,0,none⟩ (.int .i32 1)).cell? ⟨sb,0,none⟩=some (.int .i32 1):=World.cell?_setCell_same w ⟨sb,0,none⟩ (.int .i32 1) c0;obtain⟨w1,hrun,hown2,hturn⟩:=(hown1.drew).store law2 Tryz.underlying198 (t:=198) (by decide) hkey (plainElem_int Tryz.underlying2 hwr);have c2':w1.cell? ⟨sb,2,none⟩=some (.map (some bm)):=by have hblk:=hturn.grown.block sb (World.block_lt_of_cell? _ _ c0') (fun e=>hbs (osi e).symm);have e1:w1.cell? ⟨sb,2,none⟩=(w.setCell ⟨sb,0,none⟩ (.int .i32 1)).drew.cell? ⟨sb,2,none⟩:=(by simp only[World.cell?,hblk]);rw[e1];exact (World.cell?_setCell_other w ⟨sb,0,none⟩ ⟨sb,2,none⟩ _ (by simp)).trans c2
 go_enter_defers Tryz.func222,Tryz.ntmps222;go_wp2_with (first| (go_at_call 229;refine (lock_free z0f ⟨sb,0,none⟩ _ c0 f0).mono ?_;rintro e w' ⟨rfl,rfl⟩)| (at_lookup;refine wpList_lookup_own_ok_int _ rfl _ _ 198 rfl 2 2 .i64 law2 Tryz.underlying198 Tryz.underlying2 (z0g _) bm 0 (.map []) rfl hown1 _ _ rfl hkey ?_;intro c hat hwc;rw[hno]));refine zra ?_;refine za4 (S:=fun w'=>w'.cell? ⟨sb,2,none⟩=some (.map (some bm))) 9 (by kernel_rfl) ((World.cell?_setCell_other w ⟨sb,0,none⟩ ⟨sb,2,none⟩ _ (by simp)).trans c2) (fun hS=>?_);refine zae 0 rfl ?_;refine zae 1 rfl ?_;refine zae 2 rfl ?_;refine zae 3 rfl ?_;refine zae 4 rfl ?_;refine zae 5 rfl ?_;refine zae 6 rfl ?_;refine zae 7 rfl ?_;refine zaj (i:=8) (by kernel_rfl) rfl (fun K hK=>?_);go_simp;refine same1 (hC _) ?_;refine hK.out _ _ ‹_› fun _=>?_;try simp only[nrm]
 refine zat (by kernel_rfl) rfl (by kernel_rfl) (fun K hK=>?_);go_simp;refine hK.out _ _ ?_;try simp only[nrm]
 go_wp2_with (first|(at_lookup;refine wpList_lookup_own_int _ rfl _ _ 198 rfl 2 2 .i64 law2 Tryz.underlying198 Tryz.underlying2 (z0g _) bm 1 _ rfl hown2 _ _ rfl hkey ?_;intro c9 hat9 hwc9));obtain rfl:R=c9:=by have e:=hat9;rw[atKey_put_same z08 (by exact True.intro)]at e;simpa using e
 have cl:w1.cell? ⟨sb,0,none⟩=some (.int .i32 1):=by have hblk:=hturn.grown.block sb (World.block_lt_of_cell? _ _ c0') (fun e=>hbs (osi e).symm);have e1:w1.cell? ⟨sb,0,none⟩=(w.setCell ⟨sb,0,none⟩ (.int .i32 1)).drew.cell? ⟨sb,0,none⟩:=(by simp only[World.cell?,hblk]);rw[e1];exact c0'
 refine leaves_cons (f:=230) (args:=#[.pointer (some ⟨sb,0,none⟩)]) (by simp) (by simp[go_sem]) ?_;refine (unlock_deferred z0f ⟨sb,0,none⟩ .returning _ cl ((hturn.frozen _).trans (by simp[f0]))).mono ?_;rintro e u' w3 ⟨rfl,rfl,rfl⟩;exact⟨_,results_tmp rfl _ _ _,rfl,zoe hturn⟩
theorem zrb:zhp (0*2500000000/1500) 0:=.inr ⟨by decide,by decide,by decide,by decide,by decide⟩
theorem z2e{la og:Int}(h:0<=la-og):zok la og=zr9 ((la-og)*2500000000/1500):=by
 unfold zok;split
 ·rw[show la-og=0 by omega];exact zw1 zrb (zlc (by decide))
 ·rfl
theorem zlg{la og:Int}(sb bm:Nat)(w:World)(c0:w.cell? ⟨sb,0,none⟩=some (.int .i32 0))(c2:w.cell? ⟨sb,2,none⟩=some (.map (some bm)))(f0:w.frozen? ⟨sb,0,none⟩=false)(hbs:bm≠sb)(hown:w.ownsMap Tryz.prog 2 (plainElem (H:=Unit) Tryz.prog 2) bm 0 (.map []))(hl:0<=la/\la<=1000000000)(ho:0<=og/\og<=1000000000):Calls Tryz.prog 222 #[.pointer (some ⟨sb,0,none⟩),.int .i64 la,.int .i64 og] w fun e w'=>e=.returned (.int .i64 (zok la og))/\OnlyC sb bm w w':=by
 have hb:=zi0 (la:=la) (og:=og) ho.1 hl.2;rcases Int.lt_or_le (la-og) 0 with h|h
 ·have e:zok la og=0:=if_pos (by omega);rw[e]at hb ⊢;exact zyg sb bm w c0 c2 f0 hbs hown hl ho h zrb ⟨by decide,by decide⟩
 ·have e:=z2e h;exact z2d sb bm w c0 c2 f0 hbs hown hl ho h (by rw[e];exact zlc (by omega)) ⟨hb.1,by omega⟩
theorem zrc(w:World):Calls Tryz.prog 188 #[] w fun e w'=>e=.returned (.pointer (some ⟨w.heap.size+1,0,none⟩))/\w'=((w.alloc (.map #[] 0)).alloc (.cells #[.int .i32 0,.int .u32 0,.map (some w.heap.size)] 206)):=by have hmm:=@run_makeMap Tryz.prog;go_enter Tryz.func188,Tryz.ntmps188;go_wp2;go_ret;exact⟨rfl,rfl⟩
theorem z0h{d:Int}(h0:-1000000<=d)(h1:d<=1000000):(0<=d*d/\d*d<=1000000000000)/\-1000000000000000000<=d*d*d/\d*d*d<=1000000000000000000:=by
 rcases Int.lt_or_le d 0 with h|h
 ·obtain⟨a,b⟩:=ztz (n:=-d) (by omega) (by omega);rw[Int.neg_mul_neg,Int.mul_neg]at b;rw[Int.neg_mul_neg]at a;exact⟨a,by omega,by omega⟩
 ·obtain⟨a,b⟩:=ztz (n:=d) h h1;exact⟨a,by omega,by omega⟩
theorem zg8(d:Int):3*d*d=3*(d*d)/\3*d*d*d=3*(d*d*d):=⟨Int.mul_assoc _ _ _,by rw[Int.mul_assoc 3 d d,Int.mul_assoc 3 (d*d) d]⟩
theorem zhi(d:Int):zp0 d=3*d*d*d/5000000:=by rw[(zg8 d).2];unfold zp0;omega
theorem tm_up{x:Int}(h:0<=x):x.tdiv 5000000=x/5000000/\0<=x.tmod 5000000:=⟨Int.tdiv_eq_ediv_of_nonneg h,Int.tmod_nonneg _ h⟩
theorem z2f{n:Int}(h:0<n):(-n).tdiv 5000000 = -(n/5000000)/\(-n).tmod 5000000 = -(n%5000000):=by rw[Int.neg_tdiv,Int.neg_tmod,Int.tdiv_eq_ediv_of_nonneg (by omega),Int.tmod_eq_emod_of_nonneg (by omega)];exact⟨rfl,rfl⟩
theorem zu8{x q m r:Int}(w:World)(hq:x.tdiv 5000000=q)(hm:x.tmod 5000000=m)(q0:-1000000000000000000<=q/\q<=1000000000000000000)(m0:-5000000<m/\m<5000000)(h:(m<0/\r=q-1)\/(¬m<0/\r=q)):Calls Tryz.prog 228 #[.int .i64 x,.int .i64 5000000] w fun e w'=>e=.returned (.int .i64 r)/\w'=w:=by
 have r1:IntKind.i64.wrap q=q:=i64w
 have r2:IntKind.i64.wrap m=m:=i64w
 have r3:IntKind.i64.wrap (q-1)=q-1:=i64w
 rcases h with⟨h,rfl⟩|⟨h,rfl⟩
 ·go_enter Tryz.func228,Tryz.ntmps228;go_wp2;go_ret;exact⟨rfl,rfl⟩
 ·go_enter Tryz.func228,Tryz.ntmps228;go_wp2;go_ret;exact⟨rfl,rfl⟩
theorem zin(x:Int)(w:World)(h0:-3000000000000000000<=x)(h1:x<=3000000000000000000):Calls Tryz.prog 228 #[.int .i64 x,.int .i64 5000000] w fun e w'=>e=.returned (.int .i64 (x/5000000))/\w'=w:=by
 rcases Int.lt_or_le x 0 with h|h
 ·obtain⟨n,rfl⟩:∃n,x = -n:=⟨-x,by omega⟩;obtain⟨a,b⟩:=z2f (n:=n) (by omega);refine zu8 w a b (by omega) (by omega) ?_;by_cases hz:n%5000000=0
  ·exact .inr ⟨by omega,by omega⟩
  ·exact .inl ⟨by omega,by omega⟩
 ·obtain⟨a,b⟩:=tm_up h;have c:=Int.tmod_lt_of_pos x (show (0:Int)<5000000 by decide);exact zu8 w a rfl (by omega) (by omega) (.inr ⟨by omega,rfl⟩)
theorem at_low{la og ms k q:Int}(sb bm:Nat)(w:World)(c0:w.cell? ⟨sb,0,none⟩=some (.int .i32 0))(c2:w.cell? ⟨sb,2,none⟩=some (.map (some bm)))(f0:w.frozen? ⟨sb,0,none⟩=false)(hbs:bm≠sb)(hown:w.ownsMap Tryz.prog 2 (plainElem (H:=Unit) Tryz.prog 2) bm 0 (.map []))(hl:0<=la/\la<=1000000000)(ho:0<=og/\og<=1000000000)(hm:0<=ms/\ms<=1000000)(hk:zok la og=k)(hq:zp0 (ms-k)=q)(h:la+q<0):Calls Tryz.prog 227 #[.pointer (some ⟨sb,0,none⟩),.int .i64 la,.int .i64 og,.int .i64 ms] w fun e w'=>e=.returned (.int .i64 0)/\OnlyC sb bm w w':=by
 have hb:=zi0 (la:=la) (og:=og) ho.1 hl.2;have hB:=zlg (la:=la) (og:=og) sb bm w c0 c2 f0 hbs hown hl ho;rw[hk]at hb hB;clear hk;have r1:IntKind.i64.wrap (ms-k)=ms-k:=i64w
 have d0:-1000000<=ms-k/\ms-k<=1000000:=by omega
 obtain⟨d,hd⟩:∃d,ms-k=d:=⟨_,rfl⟩;rw[hd]at r1 d0 hq;obtain⟨⟨a0,a1⟩,b0,b1⟩:=z0h d0.1 d0.2;obtain⟨t2,t3⟩:=zg8 d;have r2:IntKind.i64.wrap (3*d)=3*d:=i64w
 have r3:IntKind.i64.wrap (3*d*d)=3*d*d:=by rw[t2,IntKind.wrap_i64];omega
 have r4:IntKind.i64.wrap (3*d*d*d)=3*d*d*d:=by rw[t3,IntKind.wrap_i64];omega
 have hD:=fun w=>zin (3*d*d*d) w (by omega) (by omega);have q0:-1000000000000<=q/\q<=1000000000000:=by rw[<-hq];unfold zp0;omega
 rw[<-zhi,hq]at hD;clear t2 t3 hq;have r5:IntKind.i64.wrap (la+q)=la+q:=i64w
 go_enter Tryz.func227,Tryz.ntmps227;go_wp2_with (first| (go_at_call 222;refine hB.mono ?_;rintro e w2 ⟨rfl,ho2⟩;(try rw[hd]))| (go_at_call 228;refine same1 (hD _) ?_));go_ret;exact⟨rfl,ho2⟩
theorem at_mid{la og ms k q:Int}(sb bm:Nat)(w:World)(c0:w.cell? ⟨sb,0,none⟩=some (.int .i32 0))(c2:w.cell? ⟨sb,2,none⟩=some (.map (some bm)))(f0:w.frozen? ⟨sb,0,none⟩=false)(hbs:bm≠sb)(hown:w.ownsMap Tryz.prog 2 (plainElem (H:=Unit) Tryz.prog 2) bm 0 (.map []))(hl:0<=la/\la<=1000000000)(ho:0<=og/\og<=1000000000)(hm:0<=ms/\ms<=1000000)(hk:zok la og=k)(hq:zp0 (ms-k)=q)(h:0<=la+q/\la+q<1000000000):Calls Tryz.prog 227 #[.pointer (some ⟨sb,0,none⟩),.int .i64 la,.int .i64 og,.int .i64 ms] w fun e w'=>e=.returned (.int .i64 (la+q))/\OnlyC sb bm w w':=by
 have hb:=zi0 (la:=la) (og:=og) ho.1 hl.2;have hB:=zlg (la:=la) (og:=og) sb bm w c0 c2 f0 hbs hown hl ho;rw[hk]at hb hB;clear hk;have r1:IntKind.i64.wrap (ms-k)=ms-k:=i64w
 have d0:-1000000<=ms-k/\ms-k<=1000000:=by omega
 obtain⟨d,hd⟩:∃d,ms-k=d:=⟨_,rfl⟩;rw[hd]at r1 d0 hq;obtain⟨⟨a0,a1⟩,b0,b1⟩:=z0h d0.1 d0.2;obtain⟨t2,t3⟩:=zg8 d;have r2:IntKind.i64.wrap (3*d)=3*d:=i64w
 have r3:IntKind.i64.wrap (3*d*d)=3*d*d:=by rw[t2,IntKind.wrap_i64];omega
 have r4:IntKind.i64.wrap (3*d*d*d)=3*d*d*d:=by rw[t3,IntKind.wrap_i64];omega
 have hD:=fun w=>zin (3*d*d*d) w (by omega) (by omega);have q0:-1000000000000<=q/\q<=1000000000000:=by rw[<-hq];unfold zp0;omega
 rw[<-zhi,hq]at hD;clear t2 t3 hq;have r5:IntKind.i64.wrap (la+q)=la+q:=i64w
 obtain⟨h,h'⟩:=h;go_enter Tryz.func227,Tryz.ntmps227;go_wp2_with (first| (go_at_call 222;refine hB.mono ?_;rintro e w2 ⟨rfl,ho2⟩;(try rw[hd]))| (go_at_call 228;refine same1 (hD _) ?_));go_ret;exact⟨rfl,ho2⟩
theorem at_top{la og ms k q:Int}(sb bm:Nat)(w:World)(c0:w.cell? ⟨sb,0,none⟩=some (.int .i32 0))(c2:w.cell? ⟨sb,2,none⟩=some (.map (some bm)))(f0:w.frozen? ⟨sb,0,none⟩=false)(hbs:bm≠sb)(hown:w.ownsMap Tryz.prog 2 (plainElem (H:=Unit) Tryz.prog 2) bm 0 (.map []))(hl:0<=la/\la<=1000000000)(ho:0<=og/\og<=1000000000)(hm:0<=ms/\ms<=1000000)(hk:zok la og=k)(hq:zp0 (ms-k)=q)(h:1000000000<la+q):Calls Tryz.prog 227 #[.pointer (some ⟨sb,0,none⟩),.int .i64 la,.int .i64 og,.int .i64 ms] w fun e w'=>e=.returned (.int .i64 1000000000)/\OnlyC sb bm w w':=by
 have hb:=zi0 (la:=la) (og:=og) ho.1 hl.2;have hB:=zlg (la:=la) (og:=og) sb bm w c0 c2 f0 hbs hown hl ho;rw[hk]at hb hB;clear hk;have r1:IntKind.i64.wrap (ms-k)=ms-k:=i64w
 have d0:-1000000<=ms-k/\ms-k<=1000000:=by omega
 obtain⟨d,hd⟩:∃d,ms-k=d:=⟨_,rfl⟩;rw[hd]at r1 d0 hq;obtain⟨⟨a0,a1⟩,b0,b1⟩:=z0h d0.1 d0.2;obtain⟨t2,t3⟩:=zg8 d;have r2:IntKind.i64.wrap (3*d)=3*d:=i64w
 have r3:IntKind.i64.wrap (3*d*d)=3*d*d:=by rw[t2,IntKind.wrap_i64];omega
 have r4:IntKind.i64.wrap (3*d*d*d)=3*d*d*d:=by rw[t3,IntKind.wrap_i64];omega
 have hD:=fun w=>zin (3*d*d*d) w (by omega) (by omega);have q0:-1000000000000<=q/\q<=1000000000000:=by rw[<-hq];unfold zp0;omega
 rw[<-zhi,hq]at hD;clear t2 t3 hq;have r5:IntKind.i64.wrap (la+q)=la+q:=i64w
 have h':0<=la+q:=by omega
 go_enter Tryz.func227,Tryz.ntmps227;go_wp2_with (first| (go_at_call 222;refine hB.mono ?_;rintro e w2 ⟨rfl,ho2⟩;(try rw[hd]))| (go_at_call 228;refine same1 (hD _) ?_));go_ret;exact⟨rfl,ho2⟩
theorem at_on{la og ms k q:Int}(sb bm:Nat)(w:World)(c0:w.cell? ⟨sb,0,none⟩=some (.int .i32 0))(c2:w.cell? ⟨sb,2,none⟩=some (.map (some bm)))(f0:w.frozen? ⟨sb,0,none⟩=false)(hbs:bm≠sb)(hown:w.ownsMap Tryz.prog 2 (plainElem (H:=Unit) Tryz.prog 2) bm 0 (.map []))(hl:0<=la/\la<=1000000000)(ho:0<=og/\og<=1000000000)(hm:0<=ms/\ms<=1000000)(hk:zok la og=k)(hq:zp0 (ms-k)=q)(h:la+q=1000000000):Calls Tryz.prog 227 #[.pointer (some ⟨sb,0,none⟩),.int .i64 la,.int .i64 og,.int .i64 ms] w fun e w'=>e=.returned (.int .i64 1000000000)/\OnlyC sb bm w w':=by
 have hb:=zi0 (la:=la) (og:=og) ho.1 hl.2;have hB:=zlg (la:=la) (og:=og) sb bm w c0 c2 f0 hbs hown hl ho;rw[hk]at hb hB;clear hk;have r1:IntKind.i64.wrap (ms-k)=ms-k:=i64w
 have d0:-1000000<=ms-k/\ms-k<=1000000:=by omega
 obtain⟨d,hd⟩:∃d,ms-k=d:=⟨_,rfl⟩;rw[hd]at r1 d0 hq;obtain⟨⟨a0,a1⟩,b0,b1⟩:=z0h d0.1 d0.2;obtain⟨t2,t3⟩:=zg8 d;have r2:IntKind.i64.wrap (3*d)=3*d:=i64w
 have r3:IntKind.i64.wrap (3*d*d)=3*d*d:=by rw[t2,IntKind.wrap_i64];omega
 have r4:IntKind.i64.wrap (3*d*d*d)=3*d*d*d:=by rw[t3,IntKind.wrap_i64];omega
 have hD:=fun w=>zin (3*d*d*d) w (by omega) (by omega);have q0:-1000000000000<=q/\q<=1000000000000:=by rw[<-hq];unfold zp0;omega
 rw[<-zhi,hq]at hD;clear t2 t3 hq;have r5:IntKind.i64.wrap (la+q)=la+q:=i64w
 go_enter Tryz.func227,Tryz.ntmps227;go_wp2_with (first| (go_at_call 222;refine hB.mono ?_;rintro e w2 ⟨rfl,ho2⟩;(try rw[hd]))| (go_at_call 228;refine same1 (hD _) ?_));go_ret;exact⟨rfl,ho2⟩
theorem at_any{la og ms:Int}(sb bm:Nat)(w:World)(c0:w.cell? ⟨sb,0,none⟩=some (.int .i32 0))(c2:w.cell? ⟨sb,2,none⟩=some (.map (some bm)))(f0:w.frozen? ⟨sb,0,none⟩=false)(hbs:bm≠sb)(hown:w.ownsMap Tryz.prog 2 (plainElem (H:=Unit) Tryz.prog 2) bm 0 (.map []))(hl:0<=la/\la<=1000000000)(ho:0<=og/\og<=1000000000)(hm:0<=ms/\ms<=1000000):Calls Tryz.prog 227 #[.pointer (some ⟨sb,0,none⟩),.int .i64 la,.int .i64 og,.int .i64 ms] w fun e w'=>e=.returned (.int .i64 (zln la og ms))/\OnlyC sb bm w w':=by
 obtain⟨q,hq⟩:∃q,zp0 (ms-zok la og)=q:=⟨_,rfl⟩;rw[show zln la og ms=min 1000000000 (max 0 (la+q)) by unfold zln;rw[hq]];rcases Int.lt_or_le (la+q) 0 with h|h
 ·rw[show min 1000000000 (max 0 (la+q))=0 by omega];exact at_low sb bm w c0 c2 f0 hbs hown hl ho hm rfl hq h
 ·rcases Int.lt_trichotomy (la+q) 1000000000 with h'|h'|h'
  ·rw[show min 1000000000 (max 0 (la+q))=la+q by omega];exact at_mid sb bm w c0 c2 f0 hbs hown hl ho hm rfl hq ⟨h,h'⟩
  ·rw[show min 1000000000 (max 0 (la+q))=1000000000 by omega];exact at_on sb bm w c0 c2 f0 hbs hown hl ho hm rfl hq h'
  ·rw[show min 1000000000 (max 0 (la+q))=1000000000 by omega];exact at_top sb bm w c0 c2 f0 hbs hown hl ho hm rfl hq h'
section
variable(w:World)
theorem new_c0:((w.alloc (.map #[] 0)).alloc (.cells #[.int .i32 0,.int .u32 0,.map (some w.heap.size)] 206)).cell? ⟨w.heap.size+1,0,none⟩=some (.int .i32 0):=by go_simp
theorem new_c2:((w.alloc (.map #[] 0)).alloc (.cells #[.int .i32 0,.int .u32 0,.map (some w.heap.size)] 206)).cell? ⟨w.heap.size+1,2,none⟩=some (.map (some w.heap.size)):=by go_simp
theorem new_f0:((w.alloc (.map #[] 0)).alloc (.cells #[.int .i32 0,.int .u32 0,.map (some w.heap.size)] 206)).frozen? ⟨w.heap.size+1,0,none⟩=false:=by go_simp
theorem z2h:((w.alloc (.map #[] 0)).alloc (.cells #[.int .i32 0,.int .u32 0,.map (some w.heap.size)] 206)).ownsMap Tryz.prog 2 (plainElem (H:=Unit) Tryz.prog 2) w.heap.size 0 (.map []):=(World.ownsMap_made w _ _ _).alloc _
end
end Go.Proofs.YthiojkjcmhojoaaGreat
