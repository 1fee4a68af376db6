import Derived.BigQuiet
import Derived.Handy
import Derived.WalkSmall
import Derived.Test.YthiojkjcmhojoaaGreatGfAC
namespace Go.Proofs.YthiojkjcmhojoaaGreat
set_option maxHeartbeats 1000000
open Go.ChangeShapes Go.WideShapes Go.ChangeAt Go.RowKit
set_option maxRecDepth 100000
set_option linter.unusedVariables false
structure Only (b:Nat) (w w':World):Prop where
 os:w'.os=w.os
 tape:w'.tape=w.tape
 output:w'.output=w.output
 size:w.heap.size≤w'.heap.size
 block:∀k,k<w.heap.size→k≠b→w'.heap[k]?=w.heap[k]?
theorem Only.refl (b:Nat) (w:World):Only b w w:=⟨rfl,rfl,rfl,Nat.le_refl _,fun _ _ _=>rfl⟩
theorem Only.trans {b:Nat} {u v w:World} (h:Only b u v) (k:Only b v w):Only b u w :=
 ⟨k.os.trans h.os,k.tape.trans h.tape,k.output.trans h.output,Nat.le_trans h.size k.size,fun i hi hb=>(k.block i (Nat.lt_of_lt_of_le hi h.size) hb).trans (h.block i hi hb)⟩
theorem Only.of_below {b:Nat} {w w':World} (h:Below w.heap.size w w'):Only b w w':=⟨h.os,h.tape,h.output,h.size,fun k hk _=>h.block k hk⟩
theorem Only.below {b B:Nat} {w w':World} (h:Only b w w') (hb:B≤b) (hB:B≤w.heap.size):Below B w w' :=
 ⟨h.os,h.tape,h.output,h.size,fun k hk=>h.block k (by omega) (by omega)⟩
theorem Only.drewN {b:Nat} {w w':World} (h:Only b w w') (n:Nat):Only b w (w'.drewN n):=⟨h.os,h.tape,h.output,h.size,h.block⟩
theorem Only.setCell {b:Nat} {w w':World} (h:Only b w w') {p:Addr} (hp:p.block=b) (u:Value):Only b w (w'.setCell p u):=by
 have hs:w'.heap.size=(w'.setCell p u).heap.size:=by simp
 have k:=(Below.refl b w').setCell (p:=p) (by omega) u
 refine ⟨k.os.trans h.os,k.tape.trans h.tape,k.output.trans h.output,by rw [←hs];exact h.size,fun i hi hb=>?_⟩
 rw [Below.heap_setCell _ _ _ _ (by omega)];exact h.block i hi hb
theorem Only.cell {b:Nat} {w w':World} (h:Only b w w') {p:Addr} (hp:p.block<w.heap.size) (hb:p.block≠b):w'.cell? p=w.cell? p:=World.cell?_of_block (w:=w) (h.block p.block hp hb)
theorem Only.frozen {b:Nat} {w w':World} (h:Only b w w') {p:Addr} (hp:p.block<w.heap.size) (hb:p.block≠b):w'.frozen? p=w.frozen? p:=World.frozen?_of_block (w:=w) (h.block p.block hp hb)
structure Cur (B:Nat) (a0:Option Addr) (len cap b:Nat) (w:World):Prop where
 small:len≤4096
 lo:B≤b
 hi:b<w.heap.size
 val:∃i:Nat,∃h:Int,w.cell? ⟨b,0,none⟩=some (.slice a0 len cap)∧w.cell? ⟨b,1,none⟩=some (.int .i64 i)∧w.cell? ⟨b,2,none⟩=some (.int .i64 h)∧i≤len
 fr:∀j,w.frozen? ⟨b,j,none⟩=false
 row:∀i:Nat,i<len→∃(xb xo:Nat) (z:Int),a0=some ⟨xb,xo,none⟩∧xb<B∧w.cell? ⟨xb,xo+i,none⟩=some (.int .u8 z)∧0≤z∧z≤255
theorem Cur.mono {B:Nat} {a0:Option Addr} {len cap b:Nat} {w w':World} (c:Cur B a0 len cap b w) (h:Below w.heap.size w w'):Cur B a0 len cap b w' where
 small:=c.small
 lo:=c.lo
 hi:=Nat.lt_of_lt_of_le c.hi h.size
 val:=by
  obtain ⟨i,v,h0,h1,h2,h3⟩:=c.val
  have hb:=c.hi
  exact ⟨i,v,(h.cell (by exact hb)).trans h0,(h.cell (by exact hb)).trans h1,(h.cell (by exact hb)).trans h2,h3⟩
 fr:=fun j=>(h.frozen (by exact c.hi)).trans (c.fr j)
 row:=fun i hi=>by
  obtain ⟨xb,xo,z,e,hx,hc,hz⟩:=c.row i hi
  have h1:=c.lo;have h2:=c.hi
  exact ⟨xb,xo,z,e,hx,(h.cell (by show xb<_;omega)).trans hc,hz⟩
theorem Cur.turn {B:Nat} {a0:Option Addr} {len cap b:Nat} {w w':World} (c:Cur B a0 len cap b w) (o:Only b w w') (i:Nat) (h:Int) (h0:w'.cell? ⟨b,0,none⟩=some (.slice a0 len cap))
 (h1:w'.cell? ⟨b,1,none⟩=some (.int .i64 i)) (h2:w'.cell? ⟨b,2,none⟩=some (.int .i64 h)) (hi:i≤len) (fr:∀j,w'.frozen? ⟨b,j,none⟩=false):Cur B a0 len cap b w' where
 small:=c.small
 lo:=c.lo
 hi:=Nat.lt_of_lt_of_le c.hi o.size
 val:=⟨i,h,h0,h1,h2,hi⟩
 fr:=fr
 row:=fun i hi=>by
  obtain ⟨xb,xo,z,e,hx,hc,hz⟩:=c.row i hi
  have h1:=c.lo;have h2:=c.hi
  exact ⟨xb,xo,z,e,hx,(o.cell (by show xb<_;omega) (by show xb≠_;omega)).trans hc,hz⟩
theorem Cur.fin {B:Nat} {a0:Option Addr} {len cap b:Nat} {w w':World} (c:Cur B a0 len cap b w) (i:Nat) (h:Int) (o:Only b w w') (h0:w'.cell? ⟨b,0,none⟩=some (.slice a0 len cap))
 (h1:w'.cell? ⟨b,1,none⟩=some (.int .i64 i)) (h2:w'.cell? ⟨b,2,none⟩=some (.int .i64 h)) (hi:i≤len) (fr:∀j,w'.frozen? ⟨b,j,none⟩=false):Cur B a0 len cap b w'∧Only b w w' :=
 ⟨c.turn o i h h0 h1 h2 hi fr,o⟩
theorem zt4 (n:Int):bits .and .i64 n 255=n % 256:=by
 have h255:(BitVec.ofInt 64 255).toNat=2 ^ 8-1:=by decide
 have key:(BitVec.ofInt 64 n &&& BitVec.ofInt 64 255).toNat=(n % ((2 ^ 64:Nat):Int)).toNat % 2 ^ 8:=by
  rw [BitVec.toNat_and,BitVec.toNat_ofInt,h255,Nat.and_two_pow_sub_one_eq_mod]
 show IntKind.i64.wrap ((BitVec.ofInt 64 n &&& BitVec.ofInt 64 255).toNat:Nat)=n % 256
 rw [key,IntKind.wrap_i64]
 omega
theorem zx3 {B:Nat} {a0:Option Addr} {len cap b:Nat} {w:World} (c:Cur B a0 len cap b w) :
 Calls Tryz.prog 92 #[.pointer (some ⟨b,0,none⟩)] w fun e w'=>∃x:Int,e=.returned (.int .i64 x)∧(0≤x∧x≤255)∧Cur B a0 len cap b w'∧Only b w w':=by
 obtain ⟨i,h,c0,c1,c2,hi⟩:=c.val
 have ff:=c.fr
 have hs:=c.small
 have hand:=zt4
 by_cases hlt:i<len
 ·obtain ⟨xb,xo,z,rfl,hx,cz,z0,z1⟩:=c.row i hlt
  have hlt':(i:Int)<(len:Int):=by omega
  have hne:xb≠b:=by have:=c.lo;omega
  go_enter Tryz.func92,Tryz.ntmps92
  go_wp2
  generalize wrap64 (wrap64 (h*6364136223846793005)+1442695040888963407)=h'
  go_quiet (fail)
  go_wp2
  generalize bits BinOp.xor IntKind.i64 (h' / 8589934592) (h' / 35184372088832)=X
  go_quiet (fail)
  go_wp2
  go_quiet (fail)
  go_wp2
  go_ret
  refine ⟨_,rfl,by omega,c.fin (i+1) h' ?_ ?_ ?_ ?_ (by omega) ?_⟩
  ·repeat' (first|exact Only.refl _ _|refine Only.drewN ?_ _|refine Only.setCell ?_ ?_ _|rfl)
  all_goals first|(go_simp;done)|(intro j;go_simp;done)
 ·have hge:¬(i:Int)<(len:Int):=by omega
  go_enter Tryz.func92,Tryz.ntmps92
  go_wp2
  generalize wrap64 (wrap64 (h*6364136223846793005)+1442695040888963407)=h'
  go_quiet (fail)
  go_wp2
  generalize bits BinOp.xor IntKind.i64 (h' / 8589934592) (h' / 35184372088832)=X
  go_quiet (fail)
  go_wp2
  go_ret
  refine ⟨_,rfl,by omega,c.fin i h' ?_ ?_ ?_ ?_ (by omega) ?_⟩
  ·repeat' (first|exact Only.refl _ _|refine Only.drewN ?_ _|refine Only.setCell ?_ ?_ _|rfl)
  all_goals first|(go_simp;done)|(intro j;go_simp;done)
theorem zsk {B:Nat} {a0:Option Addr} {len cap b:Nat} {w0 w:World} (c:Cur B a0 len cap b w) (o:Only b w0 w) :
 Calls Tryz.prog 92 #[.pointer (some ⟨b,0,none⟩)] w fun e w'=>∃x:Int,e=.returned (.int .i64 x)∧(0≤x∧x≤255)∧Cur B a0 len cap b w'∧Only b w0 w':=by
 refine (zx3 c).mono ?_
 rintro e w' ⟨x,rfl,hx,c',o'⟩
 exact ⟨x,rfl,hx,c',o.trans o'⟩
theorem zat {B:Nat} {a0:Option Addr} {len cap b:Nat} {w0 w:World} (n:Int) (c:Cur B a0 len cap b w) (o:Only b w0 w) (n0:1≤n) (n1:n≤9223372036854775807) :
 Calls Tryz.prog 35 #[.pointer (some ⟨b,0,none⟩),.int .i64 n] w fun e w'=>∃x:Int,e=.returned (.int .i64 x)∧(0≤x∧x<n)∧Cur B a0 len cap b w'∧Only b w0 w':=by
 have hm:=fun y:Int=>Int.emod_nonneg y (show n≠0 by omega)
 have hl:=fun y:Int=>Int.emod_lt_of_pos y (show 0<n by omega)
 by_cases h:n≤256
 ·have hne:(n == 0)=false:=by simp;omega
  go_enter Tryz.func35,Tryz.ntmps35
  go_wp2_with (go_at_call 92;refine (zsk (by assumption) (by assumption)).mono ?_;rintro e w1 ⟨x,rfl,hx,c',o'⟩)
  go_ret
  exact ⟨_,rfl,⟨hm _,hl _⟩,c',o'⟩
 ·have hne:(n == 0)=false:=by simp;omega
  go_enter Tryz.func35,Tryz.ntmps35
  go_wp2_with (go_at_call 92;refine (zsk (by assumption) (by assumption)).mono ?_;rintro e w1 ⟨x,rfl,hx,c',o'⟩)
  go_ret
  exact ⟨_,rfl,⟨hm _,hl _⟩,c',o'⟩
theorem zni {B:Nat} {a0:Option Addr} {len cap b:Nat} {w0 w:World} (n:Int) (c:Cur B a0 len cap b w) (o:Only b w0 w) (n0:1≤n) (n1:n≤9223372036854775807) :
 Calls Tryz.prog 36 #[.pointer (some ⟨b,0,none⟩),.int .i64 n] w fun e w'=>∃x:Bool,e=.returned (.bool x)∧Cur B a0 len cap b w'∧Only b w0 w':=by
 go_enter Tryz.func36,Tryz.ntmps36
 go_wp2_with (go_at_call 35;refine (zat _ (by assumption) (by assumption) n0 n1).mono ?_;rintro e w1 ⟨x,rfl,hx,c',o'⟩)
 go_ret
 exact ⟨_,rfl,c',o'⟩
theorem zac (w:World) (o:Obj):Below w.heap.size w (w.alloc o):=(Below.refl _ _).alloc (Nat.le_refl _) _
theorem Cur.alloc {B:Nat} {a0:Option Addr} {len cap b:Nat} {w:World} (c:Cur B a0 len cap b w) (o:Obj):Cur B a0 len cap b (w.alloc o):=c.mono (zac w o)
theorem Only.alloc {b:Nat} {w0 w:World} (h:Only b w0 w) (o:Obj):Only b w0 (w.alloc o):=h.trans (Only.of_below (zac w o))
theorem zms {b:Nat} {w w1:World} {arr:Array Value} {t:TypeId} (hb:b<w.heap.size) (o:Only b (w.alloc (.cells arr t)) w1) (k:Nat):w1.cell? ⟨w.heap.size,k,none⟩=arr[k]?:=by
 rw [o.cell (by show w.heap.size<_;simp) (by show w.heap.size≠b;omega)]
 exact World.cell?_alloc_at _ _ _ _ rfl
def Row (B:Nat) (a0:Option Addr) (len:Nat) (w:World):Prop :=
 ∀i:Nat,i<len→∃(xb xo:Nat) (z:Int),a0=some ⟨xb,xo,none⟩∧xb<B∧w.cell? ⟨xb,xo+i,none⟩=some (.int .u8 z)∧0≤z∧z≤255
theorem Row.mono {B:Nat} {a0:Option Addr} {len:Nat} {w w':World} (r:Row B a0 len w) (h:Below B w w'):Row B a0 len w':=fun i hi=>by
 obtain ⟨xb,xo,z,e,hx,hc,hz⟩:=r i hi
 exact ⟨xb,xo,z,e,hx,(h.cell (by exact hx)).trans hc,hz⟩
def I64 (x:Int):Prop:=-9223372036854775808≤x∧x≤9223372036854775807
theorem z0n {B:Nat} {a0:Option Addr} {len:Nat} (cap:Nat) {w:World} (hs:len≤4096) (row:Row B a0 len w) (hB:B≤w.heap.size) :
 Calls Tryz.prog 33 #[.slice a0 len cap] w fun e w'=>∃b,e=.returned (.pointer (some ⟨b,0,none⟩))∧w.heap.size≤b∧Cur B a0 len cap b w'∧Below w.heap.size w w':=by
 go_enter Tryz.func33,Tryz.ntmps33
 go_wp2
 go_loop [3,4] (fun sh si=>∃(k:Nat) (v:Int),si=.int .i64 k∧k≤len∧sh=.int .i64 v) (fun _ i=>len-(intOf i).toNat)
 case atStart=>exact ⟨0,_,rfl,by omega,rfl⟩
 case round =>
  obtain ⟨k,v,rfl,hk,rfl⟩:=hrel
  by_cases hlt:k<len
  ·obtain ⟨xb,xo,z,rfl,hx,cz,z0,z1⟩:=row k hlt
   have hlt':(k:Int)<(len:Int):=by omega
   go_wp2
   go_round
   case rel=>exact ⟨k+1,_,by go_num,by omega,rfl⟩
   case measure=>simp [intOf]<;>omega
  ·have e:k=len:=by omega
   subst e
   go_wp2
   go_ret
   refine ⟨_,rfl,Nat.le_refl _,⟨hs,hB,by simp,⟨0,v,?_,?_,?_,by omega⟩,?_,row.mono ((Below.refl _ _).alloc hB _)⟩,zac _ _⟩
   all_goals first|(go_simp;done)|(intro j;go_simp;done)
def Smp (B:Nat) (w:World) (a:Option Addr) (xs:List (Int × Int)):Prop :=
 ∀i (h:i<xs.length),∃b off,a=some ⟨b,off,none⟩∧b<B∧w.cell? ⟨b,off+i*2,none⟩=some (.int .i64 xs[i].1)∧w.cell? ⟨b,off+i*2+1,none⟩=some (.int .i64 xs[i].2)
theorem Smp.first {B:Nat} {w:World} {a:Option Addr} {x:Int × Int} {xs:List (Int × Int)} (h:Smp B w a (x :: xs)) (hB:B≤w.heap.size) :
 ∃b off,a=some ⟨b,off,none⟩∧b<w.heap.size∧w.cell? ⟨b,off,none⟩=some (.int .i64 x.1)∧w.cell? ⟨b,off+1,none⟩=some (.int .i64 x.2):=by
 obtain ⟨b,off,rfl,hb,c0,c1⟩:=h 0 (by simp)
 exact ⟨b,off,rfl,by omega,by simpa using c0,by simpa using c1⟩
def zau (x:Int):Bool:=decide (0≤x) && decide (x≤1000000000000000)
def zc2 (x:Int):Bool:=decide (0≤x) && decide (x≤1000000000000)
theorem zew (lo x hi:Int) (w:World):Calls Tryz.prog 48 #[.int .i64 x,.int .i64 lo,.int .i64 hi] w fun e w'=>e=.returned (.bool (decide (lo≤x) && decide (x≤hi)))∧w'=w:=by
 by_cases h1:lo≤x
 ·by_cases h2:x≤hi
  ·rw [decide_eq_true h1,decide_eq_true h2]
   go_enter Tryz.func48,Tryz.ntmps48
   go_wp2
   go_ret
   exact ⟨rfl,rfl⟩
  ·have h2':decide (x≤hi)=false:=decide_eq_false h2
   rw [decide_eq_true h1,h2']
   go_enter Tryz.func48,Tryz.ntmps48
   go_wp2
   go_ret
   exact ⟨rfl,rfl⟩
 ·have h1':decide (lo≤x)=false:=decide_eq_false h1
  rw [h1']
  go_enter Tryz.func48,Tryz.ntmps48
  go_wp2
  go_ret
  exact ⟨rfl,rfl⟩
theorem zkm (x:Int) (w:World):Calls Tryz.prog 89 #[.int .i64 x] w fun e w'=>e=.returned (.bool (zau x))∧w'=w:=by
 go_enter Tryz.func89,Tryz.ntmps89
 go_wp2_with (first|(go_at_call 48;refine (zew _ _ _ _).mono ?_;rintro e w2 ⟨rfl,rfl⟩))
 go_ret
 exact ⟨rfl,rfl⟩
theorem zf7 (x:Int) (w:World):Calls Tryz.prog 144 #[.int .i64 x] w fun e w'=>e=.returned (.bool (zc2 x))∧w'=w:=by
 go_enter Tryz.func144,Tryz.ntmps144
 go_wp2_with (first|(go_at_call 48;refine (zew _ _ _ _).mono ?_;rintro e w2 ⟨rfl,rfl⟩))
 go_ret
 exact ⟨rfl,rfl⟩
structure Fill (w:World) (g n:Nat) (xs:List (Int × Int)) (k:Nat):Prop where
 any:∀j,j<n*2→(∃z:Int,w.cell? ⟨g,j,none⟩=some (.int .i64 z))∧w.frozen? ⟨g,j,none⟩=false
 got:∀i (h:i<xs.length),i<k→w.cell? ⟨g,i*2,none⟩=some (.int .i64 xs[i].1)∧w.cell? ⟨g,i*2+1,none⟩=some (.int .i64 xs[i].2)
theorem Fill.mono {w w':World} {g n k:Nat} {xs:List (Int × Int)} (f:Fill w g n xs k) (h:Below w.heap.size w w') (hg:g<w.heap.size):Fill w' g n xs k where
 any:=fun j hj=>by
  obtain ⟨⟨z,hz⟩,hf⟩:=f.any j hj
  exact ⟨⟨z,(h.cell (by exact hg)).trans hz⟩,(h.frozen (by exact hg)).trans hf⟩
 got:=fun i hi hk=>⟨(h.cell (by exact hg)).trans (f.got i hi hk).1,(h.cell (by exact hg)).trans (f.got i hi hk).2⟩
theorem zbt {w:World} {a:Addr} {u:Value} (v:Value) (h:w.cell? a=some u):(w.setCell a v).cell? a=some v:=World.cell?_setCell_same' w a v (by rw [h];rfl)
theorem zaf {w:World} {b i j:Nat} {v:Value} (h:i≠j):(w.setCell ⟨b,i,none⟩ v).cell? ⟨b,j,none⟩=w.cell? ⟨b,j,none⟩:=by
 apply World.cell?_setCell_other
 intro e
 injection e with _ e _
 exact h e
theorem Fill.put {w:World} {g n k:Nat} {xs:List (Int × Int)} (f:Fill w g n xs k) (hk:k<xs.length) (hn:xs.length≤n) :
 Fill ((w.setCell ⟨g,k*2,none⟩ (.int .i64 xs[k].1)).setCell ⟨g,k*2+1,none⟩ (.int .i64 xs[k].2)) g n xs (k+1) where
 any:=fun j hj=>by
  obtain ⟨⟨z,hz⟩,hf⟩:=f.any j hj
  refine ⟨?_,by simpa using hf⟩
  by_cases h1:j=k*2+1
  ·subst h1
   exact ⟨_,zbt _ ((zaf (by omega)).trans hz)⟩
  ·by_cases h0:j=k*2
   ·subst h0
    exact ⟨_,(zaf (by omega)).trans (zbt _ hz)⟩
   ·exact ⟨z,(zaf (by omega)).trans ((zaf (by omega)).trans hz)⟩
 got:=fun i hi hik=>by
  obtain ⟨⟨z0,hz0⟩,_⟩:=f.any (k*2) (by omega)
  obtain ⟨⟨z1,hz1⟩,_⟩:=f.any (k*2+1) (by omega)
  by_cases h:i=k
  ·subst h
   exact ⟨(zaf (by omega)).trans (zbt _ hz0),zbt _ ((zaf (by omega)).trans hz1)⟩
  ·obtain ⟨c0,c1⟩:=f.got i hi (by omega)
   exact ⟨(zaf (by omega)).trans ((zaf (by omega)).trans c0),(zaf (by omega)).trans ((zaf (by omega)).trans c1)⟩
theorem Smp.at {B:Nat} {w:World} {a:Option Addr} {xs:List (Int × Int)} (h:Smp B w a xs) {w':World} (hb:Below B w w') (k:Nat) (hk:k<xs.length) :
 ∃b off,a=some ⟨b,off,none⟩∧b<B∧w'.cell? ⟨b,off+k*2,none⟩=some (.int .i64 xs[k].1)∧w'.cell? ⟨b,off+k*2+1,none⟩=some (.int .i64 xs[k].2):=by
 obtain ⟨b,off,e,hlt,c0,c1⟩:=h k hk
 exact ⟨b,off,e,hlt,(hb.cell (by exact hlt)).trans c0,(hb.cell (by exact hlt)).trans c1⟩
theorem Smp.cells {B b off:Nat} {w:World} {xs:List (Int × Int)} (h:Smp B w (some ⟨b,off,none⟩) xs) {w':World} (hb:Below B w w') (k:Nat) (hk:k<xs.length) :
 w'.cell? ⟨b,off+k*2,none⟩=some (.int .i64 xs[k].1)∧w'.cell? ⟨b,off+k*2+1,none⟩=some (.int .i64 xs[k].2):=by
 obtain ⟨b',off',e,_,c⟩:=h.at hb k hk
 cases e
 exact c
theorem Fill.smp {w:World} {g n B:Nat} {xs:List (Int × Int)} (f:Fill w g n xs xs.length) (h:g<B):Smp B w (some ⟨g,0,none⟩) xs:=fun i hi=>by
 obtain ⟨c0,c1⟩:=f.got i hi hi
 exact ⟨g,0,rfl,h,by rw [Nat.zero_add];exact c0,by rw [Nat.zero_add];exact c1⟩
theorem Smp.mono {B:Nat} {w w':World} {a:Option Addr} {xs:List (Int × Int)} (h:Smp B w a xs) (hb:Below B w w'):Smp B w' a xs:=fun i hi=>h.at hb i hi
theorem Smp.up {B B':Nat} {w:World} {a:Option Addr} {xs:List (Int × Int)} (h:Smp B w a xs) (hb:B≤B'):Smp B' w a xs:=fun i hi=>by
 obtain ⟨b,off,e,hl,c⟩:=h i hi
 exact ⟨b,off,e,Nat.lt_of_lt_of_le hl hb,c⟩
theorem zag {w w':World} (h:Below w.heap.size w w'):∀b o:Nat,b<w.heap.size→w'.cell? ⟨b,o,none⟩=w.cell? ⟨b,o,none⟩:=fun b o hb=>h.cell (by exact hb)
theorem zcq {w w':World} (h:Below w.heap.size w w'):∀b o:Nat,b<w.heap.size→w'.frozen? ⟨b,o,none⟩=w.frozen? ⟨b,o,none⟩:=fun b o hb=>h.frozen (by exact hb)
theorem zal {w:World} {p q:Addr} {v:Value} (h:p.block≠q.block):(w.setCell p v).cell? q=w.cell? q:=World.cell?_setCell_other _ _ _ _ (fun e=>h (by rw [e]))
theorem Fill.far {w:World} {g n k:Nat} {xs:List (Int × Int)} (f:Fill w g n xs k) {p:Addr} (v:Value) (h:p.block≠g):Fill (w.setCell p v) g n xs k where
 any:=fun j hj=>⟨by obtain ⟨z,hz⟩:=(f.any j hj).1;exact ⟨z,(zal (by exact h)).trans hz⟩,by simpa using (f.any j hj).2⟩
 got:=fun i hi hk=>⟨(zal (by exact h)).trans (f.got i hi hk).1,(zal (by exact h)).trans (f.got i hi hk).2⟩
theorem Smp.here {w x:World} {a:Option Addr} {xs:List (Int × Int)} (h:Smp w.heap.size w a xs) (hb:Below w.heap.size w x):Smp x.heap.size x a xs:=(h.mono hb).up hb.size
theorem zad {w x y:World} (h:Below w.heap.size w x) (k:Below x.heap.size x y):Below w.heap.size w y:=h.trans (k.mono h.size)
def Cells (w:World):List (Nat × Nat × Value)→Prop
 | []=>True
 | (b,o,v) :: r=>(b<w.heap.size∧w.cell? ⟨b,o,none⟩=some v)∧Cells w r
theorem Cells.next {w w':World} (hb:Below w.heap.size w w'):∀{cs:List (Nat × Nat × Value)},Cells w cs→Cells w' cs
 | [],_=>trivial
 | (b,o,v) :: r,⟨⟨h1,h2⟩,h⟩=>⟨⟨Nat.lt_of_lt_of_le h1 hb.size,(zag hb _ _ h1).trans h2⟩,Cells.next hb h⟩
theorem Cells.only {w w':World} {g:Nat} (ho:Only g w w'):∀{cs:List (Nat × Nat × Value)},(∀c ∈ cs,c.1≠g)→Cells w cs→Cells w' cs
 | [],_,_=>trivial
 | (b,o,v) :: r,hg,⟨⟨h1,h2⟩,h⟩=>⟨⟨Nat.lt_of_lt_of_le h1 ho.size,(ho.cell h1 (hg (b,o,v) (List.mem_cons_self ..))).trans h2⟩,Cells.only ho (fun c hc=>hg c (List.mem_cons_of_mem _ hc)) h⟩
structure OnlyO (o:Option Nat) (w w':World):Prop where
 os:w'.os=w.os
 tape:w'.tape=w.tape
 output:w'.output=w.output
 size:w.heap.size≤w'.heap.size
 block:∀k,k<w.heap.size→o≠some k→w'.heap[k]?=w.heap[k]?
theorem OnlyO.of_below {o:Option Nat} {w w':World} (h:Below w.heap.size w w'):OnlyO o w w':=⟨h.os,h.tape,h.output,h.size,fun k hk _=>h.block k hk⟩
theorem OnlyO.of_only {g:Nat} {w w':World} (h:Only g w w'):OnlyO (some g) w w':=⟨h.os,h.tape,h.output,h.size,fun k hk hn=>h.block k hk (fun e=>hn (by rw [e]))⟩
theorem OnlyO.below {o:Option Nat} {B:Nat} {w w':World} (h:OnlyO o w w') (hb:∀g,o=some g→B≤g) (hB:B≤w.heap.size):Below B w w' :=
 ⟨h.os,h.tape,h.output,h.size,fun k hk=>h.block k (by omega) (fun e=>by have:=hb k e;omega)⟩
theorem OnlyO.trans {o:Option Nat} {w x y:World} (h:OnlyO o w x) (k:OnlyO o x y):OnlyO o w y:=⟨k.os.trans h.os,k.tape.trans h.tape,k.output.trans h.output,Nat.le_trans h.size k.size,fun i hi hn=>(k.block i (Nat.lt_of_lt_of_le hi h.size) hn).trans (h.block i hi hn)⟩
theorem OnlyO.cell {o:Option Nat} {w w':World} (h:OnlyO o w w') {p:Addr} (hp:p.block<w.heap.size) (hb:o≠some p.block):w'.cell? p=w.cell? p:=World.cell?_of_block (w:=w) (h.block p.block hp hb)
theorem OnlyO.frozen {o:Option Nat} {w w':World} (h:OnlyO o w w') {p:Addr} (hp:p.block<w.heap.size) (hb:o≠some p.block):w'.frozen? p=w.frozen? p:=World.frozen?_of_block (w:=w) (h.block p.block hp hb)
theorem Cells.onlyO {w w':World} {o:Option Nat} (ho:OnlyO o w w'):∀{cs:List (Nat × Nat × Value)},(∀c ∈ cs,o≠some c.1)→Cells w cs→Cells w' cs
 | [],_,_=>trivial
 | (b,o',v) :: r,hg,⟨⟨h1,h2⟩,h⟩=>⟨⟨Nat.lt_of_lt_of_le h1 ho.size,(ho.cell h1 (hg (b,o',v) (List.mem_cons_self ..))).trans h2⟩,Cells.onlyO ho (fun c hc=>hg c (List.mem_cons_of_mem _ hc)) h⟩
def za7 (xs:List Int):List Value:=xs.map fun x=>.int .i64 x
theorem zbq (xs ys:List Int):za7 (xs ++ ys)=za7 xs ++ za7 ys:=List.map_append
theorem ze9 (xs:List Int):(za7 xs).length=xs.length:=List.length_map ..
theorem zdk (xs:List Int):∀u ∈ za7 xs,u.oneCell'=true:=fun u hu=>by
 obtain ⟨z,_,rfl⟩:=List.mem_map.1 hu
 rfl
structure IFill (w:World) (g n:Nat) (xs:List Int) (k:Nat):Prop where
 any:∀j,j<n→(∃z:Int,w.cell? ⟨g,j,none⟩=some (.int .i64 z))∧w.frozen? ⟨g,j,none⟩=false
 got:∀i (h:i<xs.length),i<k→w.cell? ⟨g,i,none⟩=some (.int .i64 xs[i])
def IV (w:World) (lo:Nat) (v:Value) (xs:List Int):Prop :=
 (∃g cap,v=.slice (some ⟨g,0,none⟩) xs.length cap∧lo≤g∧g<w.heap.size∧IFill w g xs.length xs xs.length∧xs.length≤cap)∨(v=.slice none 0 0∧xs=[])
theorem IV.own {w:World} {lo:Nat} {v:Value} {xs:List Int} (h:IV w lo v xs) {g:Nat} (hg:v.ownBlock=some g):lo≤g∧g<w.heap.size:=by
 rcases h with ⟨g',cap,rfl,h1,h2,_⟩|⟨rfl,_⟩
 ·injection hg with hg
  have e:g'=g:=hg
  subst e
  exact ⟨h1,h2⟩
 ·cases hg
theorem IFill.mono {w w':World} {g n k:Nat} {xs:List Int} (f:IFill w g n xs k) (hb:Below w.heap.size w w') (hg:g<w.heap.size):IFill w' g n xs k where
 any:=fun j hj=>⟨by obtain ⟨z,hz⟩:=(f.any j hj).1;exact ⟨z,(zag hb _ _ hg).trans hz⟩,(zcq hb _ _ hg).trans (f.any j hj).2⟩
 got:=fun i hi hk=>(zag hb _ _ hg).trans (f.got i hi hk)
theorem IV.next {w w':World} {lo:Nat} {v:Value} {xs:List Int} (h:IV w lo v xs) (hb:Below w.heap.size w w'):IV w' lo v xs:=by
 rcases h with ⟨g,cap,rfl,h1,h2,f,hc⟩|h
 ·exact .inl ⟨g,cap,rfl,h1,Nat.lt_of_lt_of_le h2 hb.size,f.mono hb h2,hc⟩
 ·exact .inr h
theorem IV.onlyO {w w':World} {lo:Nat} {o:Option Nat} {v:Value} {xs:List Int} (h:IV w lo v xs) (hb:OnlyO o w w') (hv:∀g,v.ownBlock=some g→o≠some g):IV w' lo v xs:=by
 rcases h with ⟨g,cap,rfl,h1,h2,f,hc⟩|h
 ·have hn:=hv g rfl
  refine .inl ⟨g,cap,rfl,h1,Nat.lt_of_lt_of_le h2 hb.size,⟨fun j hj=>?_,fun i hi hk=>?_⟩,hc⟩
  ·obtain ⟨⟨z,hz⟩,hf⟩:=f.any j hj
   exact ⟨⟨z,(hb.cell (by exact h2) (by exact hn)).trans hz⟩,(hb.frozen (by exact h2) (by exact hn)).trans hf⟩
  ·exact (hb.cell (by exact h2) (by exact hn)).trans (f.got i hi hk)
 ·exact .inr h
theorem IV.lower {w:World} {lo lo':Nat} {v:Value} {xs:List Int} (h:IV w lo v xs) (hl:lo'≤lo):IV w lo' v xs:=by
 rcases h with ⟨g,cap,rfl,h1,h2,f,hc⟩|h
 ·exact .inl ⟨g,cap,rfl,Nat.le_trans hl h1,h2,f,hc⟩
 ·exact .inr h
theorem zdc {w:World} {base:Nat} {v:Value} {xs:List Int} {t:TypeId} (h:w.ownsRow base t 1 v xs.length (za7 xs)):IV w base v xs:=by
 rcases h.2 with ⟨e,e2⟩|⟨g,cap,cur,rfl,hb,hg,hnc,_⟩
 ·exact .inr ⟨e,List.eq_nil_of_length_eq_zero e2⟩
 ·refine .inl ⟨g,cap,rfl,hb,(h.lt g rfl).2,⟨fun j hj=>⟨?_,h.frozenAt j⟩,fun i hi _=>?_⟩,hnc⟩
  ·refine ⟨xs[j],(h.cellAt j (by omega)).trans ?_⟩
   unfold za7
   rw [List.getElem?_map,List.getElem?_eq_getElem hj]
   rfl
  ·refine (h.cellAt i (by omega)).trans ?_
   unfold za7
   rw [List.getElem?_map,List.getElem?_eq_getElem hi]
   rfl
def marks (k:Int) (n:Nat):List (Int × Int):=(List.range n).map fun (i:Nat)=>(k+2*(i:Int),k+2*(i:Int)+1)
theorem Fill.again {w:World} {g n k:Nat} {xs:List (Int × Int)} (f:Fill w g n xs k) (ys:List (Int × Int)):Fill w g n ys 0:=⟨f.any,fun i hi hk=>by omega⟩
theorem OnlyO.of_grown {row:Option Nat} {w w':World} (h:w.grownBy w' row):OnlyO row w w':=⟨h.os,h.tape,h.output,h.size,fun k hk hn=>h.block k hk (fun e=>hn e.symm)⟩
structure Kept (w:World) (cs:List (Nat × Nat × Value)) (bs:List Nat) (wr:World):Prop where
 cells:Cells wr cs
 free:∀b ∈ bs,b<wr.heap.size∧∀o:Nat,wr.frozen? ⟨b,o,none⟩=false
 hb:Below w.heap.size w wr
theorem Kept.onlyO {w:World} {cs:List (Nat × Nat × Value)} {bs:List Nat} {wr w':World} {row:Option Nat} (h:Kept w cs bs wr) (hg:OnlyO row wr w') (hr:∀j,row=some j→w.heap.size≤j) (h1:∀c ∈ cs,row≠some c.1) (h2:∀b ∈ bs,row≠some b):Kept w cs bs w' :=
 ⟨Cells.onlyO hg h1 h.cells,fun b hb=>⟨Nat.lt_of_lt_of_le (h.free b hb).1 hg.size,fun o=>(hg.frozen (by exact (h.free b hb).1) (h2 b hb)).trans ((h.free b hb).2 o)⟩,h.hb.trans (hg.below hr h.hb.size)⟩
theorem Kept.next {w:World} {cs:List (Nat × Nat × Value)} {bs:List Nat} {wr w':World} (h:Kept w cs bs wr) (hg:Below wr.heap.size wr w'):Kept w cs bs w':=h.onlyO (row:=none) (OnlyO.of_below hg) (fun j e=>by cases e) (fun c _ e=>by cases e) (fun b _ e=>by cases e)
theorem Kept.drew {w:World} {cs:List (Nat × Nat × Value)} {bs:List Nat} {wr:World} (h:Kept w cs bs wr):Kept w cs bs wr.drew:=h.next (Below.refl _ _).drew
def zvp (b o:Nat) (v:Value):List (Nat × Nat × Value)→List (Nat × Nat × Value)
 | []=>[]
 | (b',o',u) :: r=>(b',o',if b'=b∧o'=o then v else u) :: zvp b o v r
theorem Cells.put {wr:World} (b o:Nat) (v:Value):∀{cs:List (Nat × Nat × Value)},Cells wr cs→Cells (wr.setCell ⟨b,o,none⟩ v) (zvp b o v cs)
 | [],_=>trivial
 | (b',o',u) :: r,⟨⟨h1,h2⟩,h⟩=>by
  refine ⟨⟨by simpa using h1,?_⟩,Cells.put b o v h⟩
  by_cases e:b'=b∧o'=o
  ·rw [if_pos e]
   obtain ⟨rfl,rfl⟩:=e
   exact zbt _ h2
  ·rw [if_neg e]
   exact (World.cell?_setCell_other _ _ _ _ (fun k=>e (by injection k with k1 k2 _;exact ⟨k1.symm,k2.symm⟩))).trans h2
theorem Kept.put {w:World} {cs:List (Nat × Nat × Value)} {bs:List Nat} {wr:World} (h:Kept w cs bs wr) (b o:Nat) (v:Value) (hb:w.heap.size≤b):Kept w (zvp b o v cs) bs (wr.setCell ⟨b,o,none⟩ v) :=
 ⟨h.cells.put b o v,fun b' hb'=>⟨by simpa using (h.free b' hb').1,fun o'=>by simpa using (h.free b' hb').2 o'⟩,h.hb.setCell (by exact hb) _⟩
theorem Kept.to {w:World} {cs cs':List (Nat × Nat × Value)} {bs:List Nat} {wr:World} (h:Kept w cs bs wr) (e:cs=cs'):Kept w cs' bs wr:=e ▸ h
theorem Fill.onlyO {w w':World} {g n k:Nat} {xs:List (Int × Int)} {o:Option Nat} (f:Fill w g n xs k) (ho:OnlyO o w w') (hg:g<w.heap.size) (hn:o≠some g):Fill w' g n xs k where
 any:=fun j hj=>⟨by obtain ⟨z,hz⟩:=(f.any j hj).1;exact ⟨z,(ho.cell (by exact hg) (by exact hn)).trans hz⟩,(ho.frozen (by exact hg) (by exact hn)).trans (f.any j hj).2⟩
 got:=fun i hi hk=>⟨(ho.cell (by exact hg) (by exact hn)).trans (f.got i hi hk).1,(ho.cell (by exact hg) (by exact hn)).trans (f.got i hi hk).2⟩
theorem za5 {w:World} {b i:Nat} {v u:Value} {base:Nat} {e:TypeId} {s n:Nat} {xs:List Value} (h:w.ownsRow base e s u n xs) (hb:b<base):(w.setCell ⟨b,i,none⟩ v).ownsRow base e s u n xs :=
 h.kept (row:=some b) ⟨rfl,rfl,rfl,by simp,fun k _ hk=>Below.heap_setCell _ _ _ _ (fun e=>hk (by simp [e]))⟩ (Or.inr (fun e=>by have:=(h.lt _ e).1;omega))
theorem zay {w:World} {b:Nat} {e:TypeId} {s n:Nat} {v:Value} {xs:List Value} (h:w.ownsRow b e s v n xs):∃a c,v=.slice a n c:=by
 rcases h.2 with ⟨rfl,e⟩|⟨g1,cap,cur,rfl,_⟩
 ·exact ⟨none,0,by rw [e]⟩
 ·exact ⟨_,_,rfl⟩
theorem za2 {w w':World} {base:Nat} {e:TypeId} {s n:Nat} {u:Value} {xs:List Value} (h:w.ownsRow base e s u n xs) (hb:Below w.heap.size w w'):w'.ownsRow base e s u n xs :=
 h.kept (row:=none) ⟨hb.os,hb.tape,hb.output,hb.size,fun k hk _=>hb.block k hk⟩ (by cases u.ownBlock with|none=>exact .inl rfl|some g=>exact .inr (fun e=>by cases e))
theorem zam {B:Nat} {w w':World} (h:Below B w w') (n:Nat):Below B w (w'.drewN n):=⟨h.os,h.tape,h.output,h.size,h.block⟩
theorem zg5:(Tryz.prog.info? 2).map (fun i=>(i.zero,i.size,i.bytes))=some (some (.int .i64 0),1,8):=by kernel_rfl
theorem zea (w:World) (b g:Nat) (hg:g=w.heap.size) (hb:b≤w.heap.size) (t:TypeId):(w.alloc (.cells #[] t)).ownsRow b t 1 (.slice (some ⟨g,0,none⟩) 0 0) 0 []:=by
 subst hg
 exact ⟨rfl,.inr ⟨w.heap.size,0,#[],rfl,hb,heap_alloc_new _ _,Nat.le_refl _,by unfold maxLen;omega,rfl,rfl⟩⟩
theorem zeo {w:World} {g:Nat} {u:Value} (h:w.cell? ⟨g,0,none⟩=some u):∀j v,[u][j]?=some v→w.cell? ((⟨g,0,none⟩:Addr).add j)=some v:=by
 intro j v hv
 match j,hv with
 | 0,hv=>obtain rfl:u=v:=by simpa using hv
         exact h
theorem zbp {w:World} {b b':Nat} {e e':TypeId} {s s' n n':Nat} {v v':Value} {xs xs':List Value} (h:w.ownsRow b e s v n xs) (h':w.ownsRow b' e' s' v' n' xs') (he:e≠e'):∀g,v.ownBlock=some g→v'.ownBlock≠some g:=by
 intro g hg hg'
 rcases h.2 with ⟨rfl,_⟩|⟨g1,cap,cur,rfl,_,hc,_⟩
 ·cases hg
 ·rcases h'.2 with ⟨rfl,_⟩|⟨g2,cap',cur',rfl,_,hc',_⟩
  ·cases hg'
  ·have e1:g1=g:=Option.some.inj hg
   have e2:g2=g:=Option.some.inj hg'
   subst e1
   subst e2
   rw [hc] at hc'
   injection hc' with hc'
   injection hc' with _ k _
   exact he k
theorem zb3 {w:World} {b b':Nat} {e e':TypeId} {s s' n n':Nat} {v v':Value} {xs xs':List Value} (h:w.ownsRow b e s v n xs) (h':w.ownsRow b' e' s' v' n' xs') (he:e≠e'):v.ownBlock=none∨v.ownBlock≠v'.ownBlock:=by
 cases ho:v.ownBlock with
 | none=>exact .inl rfl
 | some g=>exact .inr (fun k=>zbp h h' he g ho k.symm)
theorem zc9 (w:World) (b i:Nat) (v:Value):w.grownBy (w.setCell ⟨b,i,none⟩ v) (some b) :=
 ⟨rfl,rfl,rfl,by simp,fun k _ hk=>Below.heap_setCell _ _ _ _ (fun e=>hk (by simp [e]))⟩
theorem zbz (lo x hi:Int) (w:World):Calls Tryz.prog 62 #[.int .i64 x,.int .i64 lo,.int .i64 hi] w fun e w'=>e=.returned (.bool (decide (lo≤x) && decide (x≤hi)))∧w'=w:=by
 by_cases h1:lo≤x
 ·by_cases h2:x≤hi
  ·rw [decide_eq_true h1,decide_eq_true h2]
   go_enter Tryz.func62,Tryz.ntmps62
   go_wp2
   go_ret
   exact ⟨rfl,rfl⟩
  ·have h2':decide (x≤hi)=false:=decide_eq_false h2
   rw [decide_eq_true h1,h2']
   go_enter Tryz.func62,Tryz.ntmps62
   go_wp2
   go_ret
   exact ⟨rfl,rfl⟩
 ·have h1':decide (lo≤x)=false:=decide_eq_false h1
  rw [h1']
  go_enter Tryz.func62,Tryz.ntmps62
  go_wp2
  go_ret
  exact ⟨rfl,rfl⟩
theorem zex (x:Int) (w:World):Calls Tryz.prog 87 #[.int .i64 x] w fun e w'=>e=.returned (.bool (zau x))∧w'=w:=by
 go_enter Tryz.func87,Tryz.ntmps87
 go_wp2_with (first|(go_at_call 62;refine (zbz _ _ _ _).mono ?_;rintro e w2 ⟨rfl,rfl⟩))
 go_ret
 exact ⟨rfl,rfl⟩
theorem zeb (x:Int) (w:World):Calls Tryz.prog 191 #[.int .i64 x] w fun e w'=>e=.returned (.bool (zc2 x))∧w'=w:=by
 go_enter Tryz.func191,Tryz.ntmps191
 go_wp2_with (first|(go_at_call 62;refine (zbz _ _ _ _).mono ?_;rintro e w2 ⟨rfl,rfl⟩))
 go_ret
 exact ⟨rfl,rfl⟩
def zgv:Value→Option Nat
 | .slice (some p) _ (_+1)=>some p.block
 | _=>none
theorem za3 {a:Option Addr} {n c g:Nat} (h:zgv (.slice a n c)=some g):(Value.slice a n c).ownBlock=some g:=by
 cases a with
 | none=>cases h
 | some p=>cases c with
  | zero=>cases h
  | succ c=>exact h
theorem zvq (a:Option Addr) (n:Nat):zgv (.slice a n 0)=none:=by cases a <;> rfl
theorem zok (x y:Int) (hx:0≤x∧x≤4294967295) (hy:0≤y∧y≤4294967295):0≤x*y∧x*y≤18446744065119617025 :=
 ⟨Int.mul_nonneg hx.1 hy.1,by have:=Int.mul_le_mul hx.2 hy.2 hy.1 (by omega:(0:Int)≤4294967295);omega⟩
theorem zol (x0 x1 y0 y1:Int) :
 (x0+4294967296*x1)*(y0+4294967296*y1)=x0*y0+4294967296*(x0*y1+x1*y0)+18446744073709551616*(x1*y1):=by
 grind
def mulSt (x0 x1 y0 y1:Int) (k:Int) (p0 p1 p2 p3:Int):Prop :=
 (k=0∧p0=0∧p1=0∧p2=0∧p3=0) ∨
 (k=1∧p3=0∧p0+4294967296*p1+18446744073709551616*p2=x0*y0+4294967296*(x0*y1)) ∨
 (k=2∧p0+4294967296*p1+18446744073709551616*p2+79228162514264337593543950336*p3=x0*y0+4294967296*(x0*y1+x1*y0)+18446744073709551616*(x1*y1))
theorem zom (a b:Int) (w:World) (a0:0≤a) (a1:a≤9223372036854775807) (b0:0≤b) (b1:b≤9223372036854775807) :
 Calls Tryz.prog 204 #[.int .u64 a,.int .u64 b] w fun e w'=>∃p0 p1 p2 p3:Int,e=.returned (.agg #[.int .u32 p0,.int .u32 p1,.int .u32 p2,.int .u32 p3]) ∧
  (0≤p0∧p0≤4294967295)∧(0≤p1∧p1≤4294967295)∧(0≤p2∧p2≤4294967295)∧(0≤p3∧p3≤4294967295) ∧
  p0+4294967296*p1+18446744073709551616*p2+79228162514264337593543950336*p3=a*b∧Below w.heap.size w w':=by
 have hx0:0≤a % 4294967296∧a % 4294967296≤4294967295:=by omega
 have hx1:0≤a / 4294967296∧a / 4294967296≤4294967295:=by omega
 have hy0:0≤b % 4294967296∧b % 4294967296≤4294967295:=by omega
 have hy1:0≤b / 4294967296∧b / 4294967296≤4294967295:=by omega
 have HA:Hid (a=a % 4294967296+4294967296*(a / 4294967296)):=by show _=_;omega
 have HB:Hid (b=b % 4294967296+4294967296*(b / 4294967296)):=by show _=_;omega
 go_enter Tryz.func204,Tryz.ntmps204
 go_wp2
 generalize a % 4294967296=x0 at *
 generalize a / 4294967296=x1 at *
 generalize b % 4294967296=y0 at *
 generalize b / 4294967296=y1 at *
 have h00:=zok x0 y0 hx0 hy0
 have h01:=zok x0 y1 hx0 hy1
 have h10:=zok x1 y0 hx1 hy0
 have h11:=zok x1 y1 hx1 hy1
 go_loopw [24] (fun i wr=>∃k p0 p1 p2 p3:Int,i=.int .i64 k∧Hid (mulSt x0 x1 y0 y1 k p0 p1 p2 p3)∧(0≤k∧k≤2)∧(0≤p0∧p0≤4294967295)∧(0≤p1∧p1≤4294967295)∧(0≤p2∧p2≤4294967295)∧(0≤p3∧p3≤4294967295) ∧
  wr.cell? ⟨w.heap.size+1,0,none⟩=some (.int .u32 x0)∧wr.cell? ⟨w.heap.size+1,1,none⟩=some (.int .u32 x1) ∧
  wr.cell? ⟨w.heap.size+1+1,0,none⟩=some (.int .u32 y0)∧wr.cell? ⟨w.heap.size+1+1,1,none⟩=some (.int .u32 y1) ∧
  wr.cell? ⟨w.heap.size+1+1+1,0,none⟩=some (.int .u32 p0)∧wr.cell? ⟨w.heap.size+1+1+1,1,none⟩=some (.int .u32 p1) ∧
  wr.cell? ⟨w.heap.size+1+1+1,2,none⟩=some (.int .u32 p2)∧wr.cell? ⟨w.heap.size+1+1+1,3,none⟩=some (.int .u32 p3) ∧
  (∀j,wr.frozen? ⟨w.heap.size+1+1+1,j,none⟩=false)∧(∀j,wr.frozen? ⟨w.heap.size,j,none⟩=false) ∧
  wr.cell? ⟨w.heap.size,0,none⟩=some (.int .u32 0)∧wr.cell? ⟨w.heap.size,1,none⟩=some (.int .u32 0) ∧
  wr.cell? ⟨w.heap.size,2,none⟩=some (.int .u32 0)∧wr.cell? ⟨w.heap.size,3,none⟩=some (.int .u32 0) ∧
  Below w.heap.size w wr) (fun i _=>2-(intOf i).toNat)
 case atStart =>
  refine ⟨0,0,0,0,0,rfl,.inl ⟨rfl,rfl,rfl,rfl,rfl⟩,by omega,by omega,by omega,by omega,by omega,?_,?_,?_,?_,?_,?_,?_,?_,?_,?_,?_,?_,?_,?_,?_⟩
  all_goals first|(go_simp;done)|(intro j;go_simp;done)|skip
  go_grown
 case round =>
  obtain ⟨k,p0,p1,p2,p3,rfl,hst,hk,g0,g1,g2,g3,cx0,cx1,cy0,cy1,c0,c1,c2,c3,hf,hf',z0,z1,z2,z3,hb⟩:=hrel
  by_cases k0:k=0
  ·subst k0
   obtain ⟨rfl,rfl,rfl,rfl⟩:p0=0∧p1=0∧p2=0∧p3=0:=by rcases hst.out with h|h|h <;> omega
   go_wp2
   refine wp_loop_rounds 3 ?_
   rw [rounds_succ];go_wp2
   go_quiet (fail)
   go_wp2
   rw [rounds_succ];go_wp2
   go_quiet (fail)
   go_wp2
   rw [rounds_succ];go_wp2
   go_roundw
   case rel =>
    refine ⟨1,x0*y0 % 4294967296,(x0*y1+x0*y0 / 4294967296) % 4294967296,(x0*y1+x0*y0 / 4294967296) / 4294967296,0,by go_num,.inr (.inl ⟨rfl,rfl,by omega⟩),by omega,by omega,by omega,by omega,by omega,?_,?_,?_,?_,?_,?_,?_,?_,?_,?_,?_,?_,?_,?_,?_⟩
    all_goals first|(go_simp;done)|(intro j;go_simp;done)|skip
    exact ((below_drewN ((below_drewN hb _).setCell (by dsimp only;omega) _) _).setCell (by dsimp only;omega) _).setCell (by dsimp only;omega) _
   case measure=>simp [intOf]
  ·by_cases k1:k=1
   ·subst k1
    obtain ⟨rfl,HV⟩:p3=0∧Hid (p0+4294967296*p1+18446744073709551616*p2=x0*y0+4294967296*(x0*y1)):=by rcases hst.out with h|h|h <;> first|exact ⟨h.2.1,h.2.2⟩|omega
    go_wp2
    refine wp_loop_rounds 3 ?_
    rw [rounds_succ];go_wp2
    go_quiet (fail)
    go_wp2
    rw [rounds_succ];go_wp2
    go_quiet (fail)
    go_wp2
    rw [rounds_succ];go_wp2
    go_roundw
    case rel =>
     have HV':=HV.out
     refine ⟨2,p0,(x1*y0+p1) % 4294967296,(x1*y1+p2+(x1*y0+p1) / 4294967296) % 4294967296,(x1*y1+p2+(x1*y0+p1) / 4294967296) / 4294967296,by go_num,.inr (.inr ⟨rfl,by omega⟩),by omega,by omega,by omega,by omega,by omega,?_,?_,?_,?_,?_,?_,?_,?_,?_,?_,?_,?_,?_,?_,?_⟩
     all_goals first|(go_simp;done)|(intro j;go_simp;done)|skip
     exact ((below_drewN ((below_drewN hb _).setCell (by dsimp only;omega) _) _).setCell (by dsimp only;omega) _).setCell (by dsimp only;omega) _
    case measure=>simp [intOf]
   ·have k2:k=2:=by omega
    subst k2
    go_wp2
    have HV:p0+4294967296*p1+18446744073709551616*p2+79228162514264337593543950336*p3=x0*y0+4294967296*(x0*y1+x1*y0)+18446744073709551616*(x1*y1):=by rcases hst.out with h|h|h <;> first|exact h.2|omega
    refine bodyPost_ret (v:=.agg #[.int .u32 p0,.int .u32 p1,.int .u32 p2,.int .u32 p3]) (by simp [results,Tryz.results204,go_sem, *]) rfl ⟨p0,p1,p2,p3,rfl,g0,g1,g2,g3,?_,?_⟩
    ·rw [HA.out,HB.out,zol];exact HV
    ·go_grown
theorem zt5 (p0 p1 p2 p3 c N:Nat) (w:World) (h0:p0≤4294967295) (h1:p1≤4294967295) (h2:p2≤4294967295) (h3:p3≤4294967295) (hc:1≤c) (hc':c≤9223372036854775807)
 (HN:Hid (N=p0+4294967296*p1+18446744073709551616*p2+79228162514264337593543950336*p3)) :
 Calls Tryz.prog 203 #[.agg #[.int .u32 p0,.int .u32 p1,.int .u32 p2,.int .u32 p3],.int .u64 c] w fun e w'=>∃(q:Nat) (f:Bool),e=.returned (.tuple #[.int .u64 q,.bool f]) ∧
  (f=true→q=N / c∧N / c≤9223372036854775807)∧(f=false→9223372036854775807<N / c)∧Below w.heap.size w w':=by
 obtain ⟨wd,hwd⟩:∃wd:Nat→Nat,wd=fun k=>if k=0 then p0 else if k=1 then p1 else if k=2 then p2 else p3:=⟨_,rfl⟩
 have HC:Hid (∀k:Nat,k<4→(w.alloc (Obj.cells #[.int .u32 p0,.int .u32 p1,.int .u32 p2,.int .u32 p3] 210)).cell? ⟨w.heap.size,k,none⟩=some (.int .u32 (wd k))):=by
  intro k hk
  match k,hk with
  | 0,_=>go_simp
  | 1,_=>go_simp
  | 2,_=>go_simp
  | 3,_=>go_simp
 have HW:Hid (∀k,k<4→wd k≤4294967295∧wd k=N / 2 ^ (32*k) % 4294967296):=by
  intro k hk
  have:=HN.out
  match k,hk with
  | 0,_=>rw [hwd];dsimp only;rw [if_pos rfl];omega
  | 1,_=>rw [hwd];dsimp only;rw [if_neg (by decide),if_pos rfl];omega
  | 2,_=>rw [hwd];dsimp only;rw [if_neg (by decide),if_neg (by decide),if_pos rfl];omega
  | 3,_=>rw [hwd];dsimp only;rw [if_neg (by decide),if_neg (by decide),if_neg (by decide)];omega
 clear hwd
 go_enter Tryz.func203,Tryz.ntmps203
 go_wp2;go_step3
 go_wp2;go_step3
 go_wp2
 go_loop [6,7,8,9] (fun sq sr sf si=>∃q r m:Nat,sq=.int .u64 q∧sr=.int .u64 r∧sf=.bool true∧((si=.int .i64 (-1)∧m=0)∨(∃k:Nat,m=k+1∧si=.int .i64 k))∧m≤4∧zl5 N c (32*m) q r) (fun _ _ _ i=>(intOf i+1).toNat)
 case atStart =>
  refine ⟨0,0,4,rfl,rfl,rfl,.inr ⟨3,rfl,rfl⟩,by omega,?_,by omega,by omega⟩
  have:=HN.out
  omega
 case round =>
  obtain ⟨q,r,m,rfl,rfl,rfl,⟨rfl,rfl⟩|⟨k,rfl,rfl⟩,hm,hst⟩:=hrel
  ·go_wp2
   go_ret2
   exact ⟨q,true,rfl,fun _=>zvl hst,(fun h=>by cases h),by go_grown⟩
  ·have hcell:=HC.out k (by omega)
   have hwk:=(HW.out k (by omega)).1
   have hk4:(k:Int)<4:=by omega
   go_wp2
   go_loop [6,7,8,10] (fun sq sr sf sb=>∃q r s:Nat,sq=.int .u64 q∧sr=.int .u64 r∧sf=.bool true∧((sb=.int .i64 (-1)∧s=0)∨(∃j:Nat,s=j+1∧sb=.int .i64 j))∧s≤32∧zl5 N c (32*k+s) q r) (fun _ _ _ i=>(intOf i+1).toNat)
   case atStart=>exact ⟨q,r,32,rfl,rfl,rfl,.inr ⟨31,rfl,rfl⟩,by omega,hst⟩
   case round =>
    obtain ⟨q,r,s,rfl,rfl,rfl,⟨rfl,rfl⟩|⟨j,rfl,rfl⟩,hs,hst⟩:=hrel
    ·go_wp2
     go_round
     case rel =>
      refine ⟨q,r,k,rfl,rfl,rfl,?_,by omega,hst⟩
      cases k with
      | zero=>exact .inl ⟨by go_num,rfl⟩
      | succ k=>exact .inr ⟨k,rfl,by go_num⟩
     case measure=>simp [intOf]<;>omega
    ·have hq:=hst.2.2
     have hr:=hst.2.1
     have HB:=zqs N k j (by omega)
     rw [←(HW.out k (by omega)).2] at HB
     obtain ⟨β,hβ⟩:∃β:Nat,β=N / 2 ^ (32*k+j) % 2:=⟨_,rfl⟩
     have hb1:β≤1:=by omega
     have hle:wd k / 2 ^ j≤wd k:=Nat.div_le_self _ _
     have hand:bits .and .u32 ((wd k:Int) / 2 ^ j) 1=(β:Int):=by
      rw [show ((wd k:Int) / 2 ^ j)=((wd k / 2 ^ j:Nat):Int) by simp,hβ,←HB]
      generalize wd k / 2 ^ j=Y at hle
      rw [zx1 _ (by omega) (by omega)]
      omega
     have hor:bits .or .u64 ((r:Int)*2) (β:Int)=(r:Int)*2+β:=znh _ _ (by omega) (by omega) (by omega) (by omega) (by omega)
     have Hyes:Hid (q≤4611686018427387903→c≤2*r+β→zl5 N c (32*k+j) (2*q+1) (2*r+β-c)):=by
      intro g1 g2;rw [hβ] at g2 ⊢;exact zvk hst g1 g2
     have Hno:Hid (q≤4611686018427387903→2*r+β<c→zl5 N c (32*k+j) (2*q) (2*r+β)):=by
      intro g1 g2;rw [hβ] at g2 ⊢;exact zx2 hst g1 g2
     have Hov:Hid (4611686018427387903<q→9223372036854775807<N / c):=fun g=>zt0 hst g
     clear HB hβ hle
     by_cases hover:4611686018427387903<q
     ·go_wp2
      go_ret2
      exact ⟨q,false,rfl,(fun h=>by cases h),fun _=>Hov.out hover,by go_grown⟩
     ·have hor1:bits .or .u64 ((q:Int)*2) 1=(q:Int)*2+1:=znh _ _ (by omega) (by omega) (by omega) (by omega) (by omega)
      by_cases hge:c≤2*r+β
      ·go_wp2
       go_round
       case rel =>
        refine ⟨2*q+1,2*r+β-c,j,by go_num,by go_num,rfl,?_,by omega,Hyes.out (by omega) hge⟩
        cases j with
        | zero=>exact .inl ⟨by go_num,rfl⟩
        | succ j=>exact .inr ⟨j,rfl,by go_num⟩
       case measure=>simp [intOf]<;>omega
      ·go_wp2
       go_round
       case rel =>
        refine ⟨2*q,2*r+β,j,by go_num,by go_num,rfl,?_,by omega,Hno.out (by omega) (by omega)⟩
        cases j with
        | zero=>exact .inl ⟨by go_num,rfl⟩
        | succ j=>exact .inr ⟨j,rfl,by go_num⟩
       case measure=>simp [intOf]<;>omega
def zh9 (a b c:Int):Bool:=decide (0≤a∧0≤b∧1≤c∧a*b / c≤9223372036854775807)
def mdQ (a b c:Int):Int:=if zh9 a b c then a*b / c else 0
theorem zzp {a b c:Int} (h:a<0∨b<0∨c<1):zh9 a b c=false∧mdQ a b c=0:=by
 have:zh9 a b c=false:=by unfold zh9;exact decide_eq_false (by omega)
 exact ⟨this,by unfold mdQ;rw [this];rfl⟩
theorem zqu (A B C:Nat):(A:Int)*(B:Int) / (C:Int)=((A*B / C:Nat):Int):=by simp
theorem zzq {A B C:Nat} (hc:1≤C) (h:A*B / C≤9223372036854775807):zh9 A B C=true∧mdQ A B C=((A*B / C:Nat):Int):=by
 have:zh9 A B C=true:=by
  unfold zh9;rw [zqu];generalize A*B / C=Q at *;exact decide_eq_true (by omega)
 exact ⟨this,by unfold mdQ;rw [this,zqu];rfl⟩
theorem z0o {A B C:Nat} (h:9223372036854775807<A*B / C):zh9 A B C=false∧mdQ A B C=0:=by
 have:zh9 A B C=false:=by
  unfold zh9;rw [zqu];generalize A*B / C=Q at *;exact decide_eq_false (by omega)
 exact ⟨this,by unfold mdQ;rw [this];rfl⟩
theorem zkw {k:IntKind} {a b:Int} {f g:Bool} (h:a=b) (h':f=g):Ending.returned (.tuple #[.int k a,.bool f])=.returned (.tuple #[.int k b,.bool g]):=by rw [h,h']
theorem zon (A B:Nat) (w:World) (a1:A≤9223372036854775807) (b1:B≤9223372036854775807) :
 Calls Tryz.prog 204 #[.int .u64 A,.int .u64 B] w fun e w'=>∃p0 p1 p2 p3:Nat,e=.returned (.agg #[.int .u32 p0,.int .u32 p1,.int .u32 p2,.int .u32 p3]) ∧
  p0≤4294967295∧p1≤4294967295∧p2≤4294967295∧p3≤4294967295 ∧
  Hid (A*B=p0+4294967296*p1+18446744073709551616*p2+79228162514264337593543950336*p3)∧Below w.heap.size w w':=by
 refine (zom A B w (by omega) (by omega) (by omega) (by omega)).mono ?_
 rintro e w' ⟨p0,p1,p2,p3,rfl,g0,g1,g2,g3,hv,hb⟩
 obtain ⟨P0,rfl⟩:=Int.eq_ofNat_of_zero_le g0.1
 obtain ⟨P1,rfl⟩:=Int.eq_ofNat_of_zero_le g1.1
 obtain ⟨P2,rfl⟩:=Int.eq_ofNat_of_zero_le g2.1
 obtain ⟨P3,rfl⟩:=Int.eq_ofNat_of_zero_le g3.1
 refine ⟨P0,P1,P2,P3,rfl,by omega,by omega,by omega,by omega,?_,hb⟩
 show _=_
 have:((A*B:Nat):Int)=(A:Int)*B:=by simp
 omega
theorem zt6 (p0 p1 p2 p3 c N:Nat) (w:World) (h0:p0≤4294967295) (h1:p1≤4294967295) (h2:p2≤4294967295) (h3:p3≤4294967295) (hc:1≤c) (hc':c≤9223372036854775807)
 (HN:Hid (N=p0+4294967296*p1+18446744073709551616*p2+79228162514264337593543950336*p3)) :
 Calls Tryz.prog 203 #[.agg #[.int .u32 p0,.int .u32 p1,.int .u32 p2,.int .u32 p3],.int .u64 c] w fun e w'=>∃(q:Nat) (f:Bool),e=.returned (.tuple #[.int .u64 q,.bool f]) ∧
  Hid ((f=true→q=N / c∧N / c≤9223372036854775807)∧(f=false→9223372036854775807<N / c))∧Below w.heap.size w w':=by
 refine (zt5 p0 p1 p2 p3 c N w h0 h1 h2 h3 hc hc' HN).mono ?_
 rintro e w' ⟨q,f,rfl,hy,hn,hb⟩
 exact ⟨q,f,rfl,⟨hy,hn⟩,hb⟩
theorem znj (A B C:Nat) (w:World) (a1:A≤9223372036854775807) (b1:B≤9223372036854775807) (c0:1≤C) (c1:C≤9223372036854775807) :
 Calls Tryz.prog 201 #[.int .i64 A,.int .i64 B,.int .i64 C] w fun e w'=>e=.returned (.tuple #[.int .i64 (mdQ A B C),.bool (zh9 A B C)])∧Below w.heap.size w w':=by
 go_enter Tryz.func201,Tryz.ntmps201
 go_wp2_with (first
  | (go_at_call 204;refine (zon A B _ a1 b1).mono ?_;rintro e w1 ⟨p0,p1,p2,p3,rfl,g0,g1,g2,g3,hv,hb1⟩)
  | (go_at_call 203;refine (zt6 p0 p1 p2 p3 C _ _ g0 g1 g2 g3 c0 c1 hv).mono ?_;rintro e w2 ⟨q,f,rfl,hyn,hb2⟩;cases f))
 ·go_ret2
  have h:=z0o (hyn.out.2 (by simp))
  exact ⟨zkw h.2.symm h.1.symm,hb1.trans (hb2.mono hb1.size)⟩
 ·go_ret2
  obtain ⟨hq,hle⟩:=hyn.out.1 (by simp)
  have h:=zzq c0 hle
  exact ⟨zkw (by rw [h.2,←hq];exact IntWalk.wrap64_in _ (by omega)) h.1.symm,hb1.trans (hb2.mono hb1.size)⟩
theorem zl6 (a b c:Int) (w:World) (h:a<0∨b<0∨c<1) :
 Calls Tryz.prog 201 #[.int .i64 a,.int .i64 b,.int .i64 c] w fun e w'=>e=.returned (.tuple #[.int .i64 (mdQ a b c),.bool (zh9 a b c)])∧Below w.heap.size w w':=by
 have h':=zzp h
 rw [h'.1,h'.2]
 clear h'
 by_cases ha:a<0
 ·go_enter Tryz.func201,Tryz.ntmps201
  go_wp2
  go_ret2
  exact ⟨rfl,Below.refl _ _⟩
 ·by_cases hb:b<0
  ·go_enter Tryz.func201,Tryz.ntmps201
   go_wp2
   go_ret2
   exact ⟨rfl,Below.refl _ _⟩
  ·have hc:c<1:=by omega
   go_enter Tryz.func201,Tryz.ntmps201
   go_wp2
   go_ret2
   exact ⟨rfl,Below.refl _ _⟩
theorem zl7 (a b c:Int) (w:World) (a1:a≤9223372036854775807) (b1:b≤9223372036854775807) (c1:c≤9223372036854775807) :
 Calls Tryz.prog 201 #[.int .i64 a,.int .i64 b,.int .i64 c] w fun e w'=>e=.returned (.tuple #[.int .i64 (mdQ a b c),.bool (zh9 a b c)])∧Below w.heap.size w w':=by
 by_cases h:a<0∨b<0∨c<1
 ·exact zl6 a b c w h
 ·obtain ⟨A,rfl⟩:=Int.eq_ofNat_of_zero_le (show 0≤a by omega)
  obtain ⟨B,rfl⟩:=Int.eq_ofNat_of_zero_le (show 0≤b by omega)
  obtain ⟨C,rfl⟩:=Int.eq_ofNat_of_zero_le (show 0≤c by omega)
  exact znj A B C w (by omega) (by omega) (by omega) (by omega)
theorem zix (x:Int) (h₀:0≤x) (h₁:x<18446744073709551616):bits .and .u64 x 4294967295=x % 4294967296:=by
 have:=bits_mask .u64 64 (by decide) zog 32 (by decide) x h₀ (by simpa using h₁)
 simpa using this
theorem zvr (x y:Int) (hx:0≤x∧x≤4294967295) (hy:0≤y∧y≤2147483647):0≤x*y∧x*y≤9223372030412324865 :=
 ⟨Int.mul_nonneg hx.1 hy.1,by have:=Int.mul_le_mul hx.2 hy.2 hy.1 (by omega:(0:Int)≤4294967295);omega⟩
theorem z0p (x y:Int) (hx:0≤x∧x≤2147483647) (hy:0≤y∧y≤2147483647):0≤x*y∧x*y≤4611686014132420609 :=
 ⟨Int.mul_nonneg hx.1 hy.1,by have:=Int.mul_le_mul hx.2 hy.2 hy.1 (by omega:(0:Int)≤2147483647);omega⟩
theorem znk (A B C:Nat) (w:World) (a1:A≤9223372036854775807) (b1:B≤9223372036854775807) (c0:1≤C) (c1:C≤9223372036854775807) :
 Calls Tryz.prog 168 #[.int .i64 A,.int .i64 B,.int .i64 C] w fun e w'=>e=.returned (.tuple #[.int .i64 (mdQ A B C),.bool (zh9 A B C)])∧w'=w:=by
 have mA:=zix A (by omega) (by omega)
 have mB:=zix B (by omega) (by omega)
 have hx0:0≤(A:Int) % 4294967296∧(A:Int) % 4294967296≤4294967295:=by omega
 have hx1:0≤(A:Int) / 4294967296∧(A:Int) / 4294967296≤2147483647:=by omega
 have hy0:0≤(B:Int) % 4294967296∧(B:Int) % 4294967296≤4294967295:=by omega
 have hy1:0≤(B:Int) / 4294967296∧(B:Int) / 4294967296≤2147483647:=by omega
 have h00:=zok ((A:Int) % 4294967296) ((B:Int) % 4294967296) hx0 hy0
 have h01:=zvr ((A:Int) % 4294967296) ((B:Int) / 4294967296) hx0 hy1
 have h10:=zvr ((B:Int) % 4294967296) ((A:Int) / 4294967296) hy0 hx1
 rw [Int.mul_comm] at h10
 have h11:=z0p ((A:Int) / 4294967296) ((B:Int) / 4294967296) hx1 hy1
 have mM:=zix ((A:Int) % 4294967296*((B:Int) / 4294967296)+(A:Int) % 4294967296*((B:Int) % 4294967296) / 4294967296) (by omega) (by omega)
 obtain ⟨HI,hHI⟩:∃HI:Nat,HI=A*B / 18446744073709551616:=⟨_,rfl⟩
 obtain ⟨LO,hLO⟩:∃LO:Nat,LO=A*B % 18446744073709551616:=⟨_,rfl⟩
 have hl:LO≤18446744073709551615:=by omega
 have HN:Hid (A*B=HI*18446744073709551616+LO):=by show _=_;omega
 have cast:((A*B:Nat):Int)=(A:Int)*B:=by simp
 have parts:(A:Int)*B=_:=(show (A:Int)*B=((A:Int) % 4294967296+4294967296*((A:Int) / 4294967296))*((B:Int) % 4294967296+4294967296*((B:Int) / 4294967296)) by congr 1 <;> omega).trans (zol _ _ _ _)
 have hW:IntKind.u64.wrap ((A:Int)*(B:Int))=(LO:Int):=by rw [IntKind.wrap_u64,←cast];omega
 have hE:(A:Int) / 4294967296*((B:Int) / 4294967296)+((A:Int) % 4294967296*((B:Int) / 4294967296)+(A:Int) % 4294967296*((B:Int) % 4294967296) / 4294967296) / 4294967296+((A:Int) / 4294967296*((B:Int) % 4294967296)+((A:Int) % 4294967296*((B:Int) / 4294967296)+(A:Int) % 4294967296*((B:Int) % 4294967296) / 4294967296) % 4294967296) / 4294967296=(HI:Int):=by
  rw [←cast] at parts
  have e:(HI:Int)=((A*B:Nat):Int) / 18446744073709551616:=by omega
  rw [e,parts]
  clear parts e cast hHI hLO HN hW
  generalize (A:Int) % 4294967296*((B:Int) % 4294967296)=z00 at *
  generalize (A:Int) % 4294967296*((B:Int) / 4294967296)=z01 at *
  generalize (A:Int) / 4294967296*((B:Int) % 4294967296)=z10 at *
  generalize (A:Int) / 4294967296*((B:Int) / 4294967296)=z11 at *
  omega
 clear cast parts hHI hLO
 by_cases hge:C≤HI
 ·go_enter Tryz.func168,Tryz.ntmps168
  go_wp2
  go_ret2
  have h:=z0o (A:=A) (B:=B) (C:=C) (by rw [HN.out];exact zvo (by omega) hge)
  exact ⟨zkw h.2.symm h.1.symm,rfl⟩
 ·go_enter Tryz.func168,Tryz.ntmps168
  go_wp2
  clear mA mB hx0 hx1 hy0 hy1 h00 h01 h10 h11 mM hW hE
  go_loop [17,19,20,21] (fun sl sr sq si=>∃i lo q r:Nat,sl=.int .u64 lo∧sr=.int .u64 r∧sq=.int .u64 q∧si=.int .i64 i∧i≤64∧zhl HI LO C i lo q r) (fun _ _ _ i=>64-(intOf i).toNat)
  case atStart=>exact ⟨0,LO,0,HI,rfl,rfl,rfl,rfl,by omega,zoi (by omega) (by omega)⟩
  case round =>
   obtain ⟨i,lo,q,r,rfl,rfl,rfl,rfl,hi,hst⟩:=hrel
   by_cases h64:i<64
   ·have hq:=zt1 h64 (by omega) (by omega) hst
    have hlo:=zvm hi hst
    have hr:=hst.2.2
    have hor:bits .or .u64 ((r:Int)*2) ((lo:Int) / 9223372036854775808)=(r:Int)*2+(lo:Int) / 9223372036854775808:=znh _ _ (by omega) (by omega) (by omega) (by omega) (by omega)
    have hor1:bits .or .u64 ((q:Int)*2) 1=(q:Int)*2+1:=znh _ _ (by omega) (by omega) (by omega) (by omega) (by omega)
    by_cases hc:C≤2*r+lo / 9223372036854775808
    ·go_wp2
     go_round
     case rel=>exact ⟨i+1,lo*2 % 18446744073709551616,2*q+1,2*r+lo / 9223372036854775808-C,by first|go_num|(rw [IntKind.wrap_u64];go_num),by go_num,by go_num,by go_num,by omega,zt2 h64 hst hc⟩
     case measure=>simp [intOf]<;>omega
    ·go_wp2
     go_round
     case rel=>exact ⟨i+1,lo*2 % 18446744073709551616,2*q,2*r+lo / 9223372036854775808,by first|go_num|(rw [IntKind.wrap_u64];go_num),by go_num,by go_num,by go_num,by omega,zvn h64 hst (by omega)⟩
     case measure=>simp [intOf]<;>omega
   ·have e:i=64:=by omega
    subst e
    have Hq:Hid (q=A*B / C):=by have:=zt3 hst;rw [←HN.out] at this;exact this
    have hq1:q≤18446744073709551615:=by have:=zsj (by omega) (by omega) (by omega) hst;omega
    by_cases hbig:9223372036854775807<q
    ·go_wp2
     go_ret2
     have h:=z0o (A:=A) (B:=B) (C:=C) (by rw [←Hq.out];exact hbig)
     exact ⟨zkw h.2.symm h.1.symm,rfl⟩
    ·go_wp2
     go_ret2
     have h:=zzq (A:=A) (B:=B) (C:=C) c0 (by rw [←Hq.out];omega)
     exact ⟨zkw (by rw [h.2,←Hq.out]) h.1.symm,rfl⟩
theorem zl8 (a b c:Int) (w:World) (h:a<0∨b<0∨c<1) :
 Calls Tryz.prog 168 #[.int .i64 a,.int .i64 b,.int .i64 c] w fun e w'=>e=.returned (.tuple #[.int .i64 (mdQ a b c),.bool (zh9 a b c)])∧w'=w:=by
 have h':=zzp h
 rw [h'.1,h'.2]
 clear h'
 by_cases ha:a<0
 ·go_enter Tryz.func168,Tryz.ntmps168
  go_wp2
  go_ret2
  exact ⟨rfl,rfl⟩
 ·by_cases hb:b<0
  ·go_enter Tryz.func168,Tryz.ntmps168
   go_wp2
   go_ret2
   exact ⟨rfl,rfl⟩
  ·have hc:c<1:=by omega
   go_enter Tryz.func168,Tryz.ntmps168
   go_wp2
   go_ret2
   exact ⟨rfl,rfl⟩
theorem zfh (a b c:Int) (w:World) (a1:a≤9223372036854775807) (b1:b≤9223372036854775807) (c1:c≤9223372036854775807) :
 Calls Tryz.prog 168 #[.int .i64 a,.int .i64 b,.int .i64 c] w fun e w'=>e=.returned (.tuple #[.int .i64 (mdQ a b c),.bool (zh9 a b c)])∧w'=w:=by
 by_cases h:a<0∨b<0∨c<1
 ·exact zl8 a b c w h
 ·obtain ⟨A,rfl⟩:=Int.eq_ofNat_of_zero_le (show 0≤a by omega)
  obtain ⟨B,rfl⟩:=Int.eq_ofNat_of_zero_le (show 0≤b by omega)
  obtain ⟨C,rfl⟩:=Int.eq_ofNat_of_zero_le (show 0≤c by omega)
  exact znk A B C w (by omega) (by omega) (by omega) (by omega)
theorem zt7 (X:Nat) (h:X<6):∃y:Int,(#[Value.int IntKind.i64 0,Value.int IntKind.i64 1000000000000000,Value.int IntKind.i64 1000000000000001,Value.int IntKind.i64 (-1),Value.int IntKind.i64 4611686018427387904,Value.int IntKind.i64 (-9223372036854775808)]:Array Value)[X]?=some (.int .i64 y)∧I64 y:=by
 match X,h with
 | 0,_=>exact ⟨_,rfl,by unfold I64;decide⟩
 | 1,_=>exact ⟨_,rfl,by unfold I64;decide⟩
 | 2,_=>exact ⟨_,rfl,by unfold I64;decide⟩
 | 3,_=>exact ⟨_,rfl,by unfold I64;decide⟩
 | 4,_=>exact ⟨_,rfl,by unfold I64;decide⟩
 | 5,_=>exact ⟨_,rfl,by unfold I64;decide⟩
theorem zoo {B:Nat} {a0:Option Addr} {len cap b:Nat} {w0 w:World} (c:Cur B a0 len cap b w) (o:Only b w0 w) :
 Calls Tryz.prog 86 #[.pointer (some ⟨b,0,none⟩)] w fun e w'=>∃x:Int,e=.returned (.int .i64 x)∧I64 x∧Cur B a0 len cap b w'∧Only b w0 w':=by
 go_enter Tryz.func86,Tryz.ntmps86
 go_wp2_with (first
  | (go_at_call 36;refine (zni _ (by assumption) (by assumption) (by omega) (by omega)).mono ?_;rintro e w2 ⟨f,rfl,c,o⟩;cases f)
  | (go_at_call 35;refine (zat _ (by assumption) (by assumption) (by omega) (by omega)).mono ?_;rintro e w2 ⟨x,rfl,hx,c,o⟩)
  | (go_at_call 35;refine (zat 6 (Cur.alloc (by assumption) _) (Only.refl _ _) (by omega) (by omega)).mono ?_;rintro e w3 ⟨x,rfl,hx,c3,o3⟩;obtain ⟨X,rfl⟩:=Int.eq_ofNat_of_zero_le hx.1;obtain ⟨y,hy,hby⟩:=zt7 X (by omega);have hcell:=(zms (Cur.hi (by assumption)) o3 X).trans hy;clear hy))
 all_goals go_ret
 all_goals first|exact ⟨_,rfl,hby,c3,(o.alloc _).trans o3⟩|exact ⟨_,rfl,by unfold I64;omega,c,o⟩
theorem zsl {w w':World} {b base:Nat} {e:TypeId} {s n:Nat} {u:Value} {xs:List Value} (h:w.ownsRow base e s u n xs) (o:Only b w w') (hb:b<base):w'.ownsRow base e s u n xs :=
 h.kept (row:=some b) ⟨o.os,o.tape,o.output,o.size,fun k hk hn=>o.block k hk (fun e=>hn (by rw [e]))⟩ (Or.inr (fun e=>by have:=(h.lt _ e).1;omega))
theorem Cur.under {B:Nat} {a0:Option Addr} {len cap b V:Nat} {w w':World} (c:Cur B a0 len cap b w) (h:Below V w w') (hb:b<V):Cur B a0 len cap b w' where
 small:=c.small
 lo:=c.lo
 hi:=Nat.lt_of_lt_of_le c.hi h.size
 val:=by
  obtain ⟨i,v,h0,h1,h2,h3⟩:=c.val
  exact ⟨i,v,(h.cell (by exact hb)).trans h0,(h.cell (by exact hb)).trans h1,(h.cell (by exact hb)).trans h2,h3⟩
 fr:=fun j=>(h.frozen (by exact hb)).trans (c.fr j)
 row:=fun i hi=>by
  obtain ⟨xb,xo,z,e,hx,hc,hz⟩:=c.row i hi
  have:=c.lo
  exact ⟨xb,xo,z,e,hx,(h.cell (by show xb<V;omega)).trans hc,hz⟩
theorem zvs {B:Nat} {a0:Option Addr} {len:Nat} (cap:Nat) {w:World} (n:Int) (n0:1≤n) (n1:n≤4611686018427387904) (hs:len≤5000) (row:Row B a0 len w) :
 Calls Tryz.prog 32 #[.slice a0 len cap,.int .i64 n] w fun e w'=>∃k:Int,e=.returned (.int .i64 k)∧0≤k∧k<n∧k≤1000003∧w'=w:=by
 go_enter Tryz.func32,Tryz.ntmps32
 go_wp2
 go_loop [5,6] (fun sh si=>∃(k:Nat) (v:Int),si=.int .i64 k∧k≤len∧sh=.int .i64 v∧0≤v∧v≤1000003) (fun _ i=>len-(intOf i).toNat)
 case atStart=>exact ⟨0,_,rfl,by omega,rfl,by omega,by omega⟩
 case round =>
  obtain ⟨k,v,rfl,hk,rfl,v0,v1⟩:=hrel
  by_cases hlt:k<len
  ·obtain ⟨xb,xo,z,rfl,hx,cz,z0,z1⟩:=row k hlt
   have hlt':(k:Int)<(len:Int):=by omega
   go_wp2
   go_round
   case rel=>exact ⟨k+1,_,by go_num,by omega,rfl,by omega,by omega⟩
   case measure=>simp [intOf]<;>omega
  ·have e:k=len:=by omega
   subst e
   have nz:(n == 0)=false:=by simp;omega
   have nz':¬n=0:=by omega
   have em:v.tmod n=v % n:=Int.tmod_eq_emod_of_nonneg v0
   have m0:=Int.emod_nonneg v nz'
   have m1:=Int.emod_lt_of_pos v (show 0<n by omega)
   have m2:v % n≤v:=by
    have a1:=Int.mul_ediv_add_emod v n
    have a2:=Int.mul_nonneg (show 0≤n by omega) (Int.ediv_nonneg v0 (show 0≤n by omega))
    omega
   have ew:IntKind.i64.wrap (v % n)=v % n:=by rw [IntKind.wrap_i64];omega
   go_wp2
   go_ret
   exact ⟨v % n,by first|rfl|(simp [em,ew]),m0,m1,by omega,rfl⟩
end Go.Proofs.YthiojkjcmhojoaaGreat
