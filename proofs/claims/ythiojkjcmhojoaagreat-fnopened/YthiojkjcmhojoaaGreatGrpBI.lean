import Derived.Test.YthiojkjcmhojoaaGreatGrpBH
import Derived.Lib.Overlaps
import Derived.Lib.AppendZerosOnto
namespace Go.Proofs.YthiojkjcmhojoaaGreat
set_option maxHeartbeats 8000000
open Go.ChangeShapes Go.WideShapes Go.ChangeAt Go.RowKit
set_option maxRecDepth 100000
set_option linter.unusedVariables false
set_option linter.unusedSimpArgs false
theorem copy14 {w:World} (ty:TypeId) (b o dLen dCap:Nat) (a:Addr) (sLen sCap:Nat) (cs:List Value) (k:Nat) (hk:k=Nat.min sLen dLen) (hl:cs.length=k*14) (hsrc:∀j v,cs[j]?=some v→w.cell? (a.add j)=some v) (hc:∀j,j<cs.length→(w.cell? ⟨b,o+j,none⟩).isSome=true) (hf:∀j,j<cs.length→w.frozen? ⟨b,o+j,none⟩=false) (h1:∀v ∈ cs,v.oneCell'=true) :
 (Builtin.copy_ #[29,29] ty #[.slice (some ⟨b,o,none⟩) dLen dCap,.slice (some a) sLen sCap]).run Tryz.prog w=.ok (goInt k) (w.setCells b o cs):=by
 have hld:=run_loadCells_list (P:=Tryz.prog) w a cs hsrc
 rw [hl] at hld
 have hst:=run_storeCells_cells (P:=Tryz.prog) b o cs 0 w (by simpa using hc) (by simpa using hf) h1
 simp only [Nat.add_zero] at hst
 have hsz:=sizeConn w
 simp [Builtin.copy_,run_underlying Tryz.underlying29,Builtin.lenOf,Builtin.firstCells,hsz,←hk,hld,hst]
def InsPost (w:World) (lo:Nat) (v:Value) (G:List G14) (K:List Kn) (i:Nat) (c:Kn) (e:Ending) (w':World):Prop :=
 ∃a' c',e=.returned (.slice a' (K.length+1) c')∧CpK w' lo (.slice a' (K.length+1) c') (insAt G i (c,.slice none 0 0)) (insAt K i c)∧w.grownBy w' v.ownBlock∧(∀b,(Value.slice a' (K.length+1) c').ownBlock=some b→v.ownBlock=some b∨w.heap.size≤b)
theorem ck_keep {w w':World} {lo:Nat} {v:Value} {G:List G14} {K:List Kn} (ck:CpK w lo v G K) (hg:w.grownBy w' v.ownBlock):∀j (hj:j<G.length),w'.ownsRow lo 2 1 G[j].2 G[j].1.xs.length (flatI G[j].1.xs):=fun j hj=>by
 have hty:(2:TypeId)≠47:=by decide
 exact (ck.ints j hj).kept hg (rows_keep (ck.ints j hj) ck.row hty)
theorem ins_one (c:Kn):∀u ∈ cs14 (c,.slice none 0 0),u.oneCell'=true:=by
 intro u hu
 simp only [cs14,Kn.cs,List.mem_append,List.mem_cons,List.not_mem_nil,or_false] at hu
 rcases hu with (rfl|rfl|rfl|rfl|rfl|rfl|rfl|rfl|rfl|rfl|rfl|rfl|rfl)|rfl <;> rfl
theorem row_room {w:World} {lo g n cap:Nat} {e:TypeId} {xs:List Value} (h:w.ownsRow lo e 14 (.slice (some ⟨g,0,none⟩) n cap) n xs) (hr:n+1≤cap):∃ys,w.ownsRow lo e 14 (.slice (some ⟨g,0,none⟩) (n+1) cap) (n+1) ys∧∀j,j<n*14→ys[j]?=xs[j]?:=by
 rcases h.2 with ⟨h',_⟩|⟨g',cap',cur,h',hb,hg,hnc,hcm,hcs,htake⟩
 ·cases h'
 ·injection h' with e1 _ e3
  injection e1 with e1
  injection e1 with e1
  subst e1 e3
  refine ⟨cur.toList.take ((n+1)*14),⟨?_,.inr ⟨g,cap,cur,rfl,hb,hg,hr,hcm,hcs,rfl⟩⟩,fun j hj=>?_⟩
  ·rw [List.length_take,Array.length_toList,hcs]
   omega
  ·rw [←htake,List.getElem?_take,List.getElem?_take,if_pos hj,if_pos (by omega)]
theorem insert_end {w:World} {lo cap vb:Nat} {a:Option Addr} {G:List G14} {K:List Kn} (c:Kn) (hc:c.xs=[]) (ck:CpK w lo (.slice a K.length cap) G K) (h40:K.length≤40) (hlo:lo≤w.heap.size) (hv:∀j u,(cs14 (c,.slice none 0 0))[j]?=some u→w.cell? ⟨vb,0+j,none⟩=some u) :
 Calls Tryz.prog 45 #[.slice a K.length cap,.int .i64 (K.length:Int),.slice (some ⟨vb,0,none⟩) 1 1] w (InsPost w lo (.slice a K.length cap) G K K.length c):=by
 obtain ⟨i0,hinf,hz0,hz1,hz2⟩:=info_parts info_connI
 have HCK:Hid (CpK w lo (.slice a K.length cap) G K):=ck
 have HNW:Hid (∀j u,(cs14 (c,.slice none 0 0))[j]?=some u→w.cell? ((⟨vb,0,none⟩:Addr).add j)=some u):=fun j u hu=>by rw [addr_add];exact hv j u hu
 have HN1:Hid (∀u ∈ cs14 (c,Value.slice none 0 0),u.oneCell'=true):=ins_one c
 have HR:Hid (w.ownsRow lo 47 14 (.slice a K.length cap) K.length (flatK G)):=ck.row
 have hs:∀w,∃x y z,(Instr.sliceAt 29 (.slice a K.length cap) (some (.int .i64 (K.length:Int))) none none).run Tryz.prog w=.ok (.slice x y z) w:=fun w=>⟨_,_,_,sliceK_from (Nat.le_refl _) w⟩
 clear ck hv
 obtain ⟨n,hn⟩:∃n,n=K.length:=⟨_,rfl⟩
 have HLN:Hid (n=K.length):=hn
 rw [←hn] at HR h40 ⊢
 clear hn hs
 rcases Decidable.em (cap=n) with rfl|hcn
 all_goals
  go_enter Tryz.func45,Tryz.ntmps45
  go_wp2_with (at_builtin;refine wpList_append_two _ rfl _ _ 29 rfl lo 47 i0 _ 14 128 Tryz.underlying29 hinf hz0 hz1 hz2 rfl (by decide) _ _ _ rfl HR.out ⟨vb,0,none⟩ 1 _ (cs14 (c,Value.slice none 0 0)) rfl rfl HNW.out HN1.out (by unfold maxLen;omega) (by omega) (by exact hlo) (by decide) ?_;intro v1 w1 hown hgr htwo;obtain ⟨a1,c1,rfl⟩:=own_slice hown)
  go_ret
  have hn:=HLN.out
  subst hn
  have e1:insAt G K.length (c,Value.slice none 0 0)=G ++ [(c,Value.slice none 0 0)]:=by
   unfold insAt
   rw [List.take_of_length_le (by rw [HCK.out.len];exact Nat.le_refl _),List.drop_eq_nil_of_le (by rw [HCK.out.len];exact Nat.le_refl _)]
  have e2:flatK [(c,Value.slice none 0 0)]=cs14 (c,Value.slice none 0 0):=by simp [flatK]
  refine ⟨a1,c1,rfl,HCK.out.insert (Nat.le_refl _) c hc (by rw [e1,flatK_append,e2];exact hown) (ck_keep HCK.out hgr) hgr.size,hgr,fun b hb=>?_⟩
  rcases htwo with h|h
  ·exact .inl (h ▸ hb)
  ·rw [h] at hb
   exact .inr (Nat.le_of_eq (Option.some.inj hb))
theorem zeroCells_size (z:Array Value) (k:Nat):(Builtin.zeroCells z k).size=k*z.size:=by simp [Builtin.zeroCells]
theorem row_some {w:World} {lo g n cap:Nat} {e:TypeId} {xs:List Value} (h:w.ownsRow lo e 14 (.slice (some ⟨g,0,none⟩) n cap) n xs):∀j,j<n*14→(w.cell? ⟨g,j,none⟩).isSome=true:=fun j hj=>by
 rw [h.cellAt _ hj,List.getElem?_eq_getElem (by rw [h.1];exact hj)]
 rfl
theorem ins_end {w w3:World} {lo g cap i:Nat} {v:Value} {G:List G14} {K:List Kn} {c:Kn} {ys:List Value} (hc:c.xs=[]) (ck:CpK w lo v G K) (hi:i≤K.length) (hr:w3.ownsRow lo 47 14 (.slice (some ⟨g,0,none⟩) (K.length+1) cap) (K.length+1) ys) (hy:ys=flatK (insAt G i (c,Value.slice none 0 0))) (hg:w.grownBy w3 v.ownBlock) (ho:v.ownBlock=some g∨w.heap.size≤g):InsPost w lo v G K i c (.returned (.slice (some ⟨g,0,none⟩) (K.length+1) cap)) w3:=by
 subst hy
 exact ⟨_,_,rfl,ck.insert hi c hc hr (ck_keep ck hg) hg.size,hg,fun b hb=>by
  have:g=b:=Option.some.inj hb
  subst this
  exact ho⟩
theorem insert_grow {w:World} {lo g cap vb i:Nat} {G:List G14} {K:List Kn} (c:Kn) (hc:c.xs=[]) (ck:CpK w lo (.slice (some ⟨g,0,none⟩) K.length cap) G K) (hi:i<K.length) (h40:K.length≤40) (hnc:K.length≤cap) (hroom:cap<K.length+1) (hlo:lo≤w.heap.size) (hvb:vb<w.heap.size) (hv:∀j u,(cs14 (c,.slice none 0 0))[j]?=some u→w.cell? ⟨vb,0+j,none⟩=some u) :
 Calls Tryz.prog 45 #[.slice (some ⟨g,0,none⟩) K.length cap,.int .i64 (i:Int),.slice (some ⟨vb,0,none⟩) 1 1] w (InsPost w lo (.slice (some ⟨g,0,none⟩) K.length cap) G K i c):=by
 obtain ⟨i0,hinf,hz0,hz1,hz2⟩:=info_parts info_connI
 have HCK:Hid (CpK w lo (.slice (some ⟨g,0,none⟩) K.length cap) G K):=ck
 have hrow:=ck.row
 have hgw:=(hrow.lt g rfl)
 have hGl:=ck.len
 have one:=rows_one ck
 clear ck
 obtain ⟨n,hn⟩:∃n,n=K.length:=⟨_,rfl⟩
 have HLN:Hid (n=K.length):=hn
 rw [←hn] at hrow h40 hi hnc hroom hGl ⊢
 clear hn
 obtain ⟨Gc,hGc⟩:∃x,x=grownCap w (n+1) cap 47:=⟨_,rfl⟩
 have hG1:n+1≤Gc:=by rw [hGc];exact grownCap_ge w _ _ _
 have hG2:Gc≤maxLen:=by rw [hGc];exact grownCap_le_maxLen w _ _ _ (by unfold maxLen;omega)
 have hold:(Builtin.firstCells i0.size i (.slice (some ⟨g,0,none⟩) i cap)).run Tryz.prog w.drew=.ok (flatK (G.take i)).toArray w.drew:=by
  rw [hz1]
  refine run_firstCells_some w.drew 14 i ⟨g,0,none⟩ i cap _ (by rw [flatK_length,List.length_take];congr 1;omega) (fun j v hj=>?_)
  rw [addr_add,Nat.zero_add]
  have hj':=(List.getElem?_eq_some_iff.1 hj).1
  rw [flatK_length,List.length_take] at hj'
  rw [←flatK_take,List.getElem?_take,if_pos (by omega)] at hj
  exact (hrow.cellAt j (by omega)).trans hj
 obtain ⟨zc,hzc⟩:∃z:Value,i0.zero=some z∧z.cells.size=14:=⟨_,hz0,rfl⟩
 obtain ⟨ROW,hROW⟩:∃ROW:Array Value,ROW=(flatK (G.take i)).toArray ++ Builtin.zeroCells zc.cells (n+1-i) ++ Builtin.zeroCells zc.cells (Gc-(n+1)):=⟨_,rfl⟩
 have hRs:ROW.size=Gc*14:=by
  rw [hROW,Array.size_append,Array.size_append,zeroCells_size,zeroCells_size,hzc.2,List.size_toArray,flatK_length,List.length_take]
  have:min i G.length=i:=by omega
  rw [this]
  omega
 obtain ⟨W1,hW1⟩:∃W1,W1=w.drew.alloc (.cells ROW 47):=⟨_,rfl⟩
 have hkk:(n:Int)+1-(i:Int)=((n+1-i:Nat):Int):=by omega
 have hrz:∀ty,(Builtin.append_ #[29,3] ty #[.slice (some ⟨g,0,none⟩) i cap,.int .i64 ((n:Int)+1-(i:Int))]).run Tryz.prog w=.ok (.slice (some ⟨w.heap.size,0,none⟩) (n+1) Gc) W1:=fun ty=>by
  have hik:i+(n+1-i)=n+1:=by omega
  have h:=Lib.run_append_grow_zeros (P:=Tryz.prog) w 29 3 ty 47 i0 zc .i64 .i64 Tryz.underlying29 Tryz.underlying3 hinf hzc.1 (some ⟨g,0,none⟩) i cap _ hold (n+1-i) (by omega) (by omega) (by omega) (by omega) (by rw [show i0.bytes=128 from by assumption];omega) (by rw [hik,show i0.bytes=128 from by assumption];exact growslice_fits hroom (by omega))
  rw [hik,←hGc,←hROW,←hW1] at h
  rw [hkk]
  exact h
 have hb1:Below w.heap.size w W1:=by rw [hW1];exact ((Below.refl _ w).drew).alloc (Nat.le_refl _) _
 have hr1:W1.ownsRow lo 47 14 (.slice (some ⟨w.heap.size,0,none⟩) (n+1) Gc) (n+1) (ROW.toList.take ((n+1)*14)):=by
  refine ⟨?_,.inr ⟨w.heap.size,Gc,ROW,rfl,hlo,by rw [hW1];exact heap_alloc_new w.drew _,hG1,hG2,hRs,rfl⟩⟩
  rw [List.length_take,Array.length_toList,hRs]
  omega
 have hys:∀j,j<i*14→(ROW.toList.take ((n+1)*14))[j]?=(flatK G)[j]?:=fun j hj=>by
  have hl:(flatK (G.take i)).length=i*14:=by rw [flatK_length,List.length_take];congr 1;omega
  rw [List.getElem?_take,if_pos (by omega),hROW,Array.toList_append,Array.toList_append,List.append_assoc,List.getElem?_append_left (by simpa [hl] using hj)]
  rw [←flatK_take,List.getElem?_take,if_pos hj]
 obtain ⟨ys,hy⟩:∃ys,ys=ROW.toList.take ((n+1)*14):=⟨_,rfl⟩
 rw [←hy] at hr1 hys
 have hyl:=hr1.1
 clear hW1 hROW hRs hy hold hGc hkk
 obtain ⟨W2,hW2⟩:∃W2,W2=W1.setCells w.heap.size (i*14) (cs14 (c,Value.slice none 0 0)):=⟨_,rfl⟩
 have hr2:W2.ownsRow lo 47 14 (.slice (some ⟨w.heap.size,0,none⟩) (n+1) Gc) (n+1) (setL ys (i*14) (cs14 (c,Value.slice none 0 0))):=by rw [hW2];exact row_setL _ _ _ _ hr1
 have hcpA:∀ty,(Builtin.copy_ #[29,29] ty #[.slice (some ⟨w.heap.size,i*14,none⟩) (n+1-i) (Gc-i),.slice (some ⟨vb,0,none⟩) 1 1]).run Tryz.prog W1=.ok (goInt 1) W2:=fun ty=>by
  rw [hW2]
  refine copy14 ty w.heap.size (i*14) (n+1-i) (Gc-i) ⟨vb,0,none⟩ 1 1 _ 1 (by show 1=min 1 (n+1-i);omega) rfl (fun j u hu=>?_) (fun j hj=>row_some hr1 _ (by have hj:j<14:=hj;omega)) (fun j hj=>hr1.frozenAt _) (ins_one c)
  rw [addr_add]
  exact (hb1.cell (by exact hvb)).trans (hv j u hu)
 have hb2:Below w.heap.size w W2:=by rw [hW2];exact belowK_set (Nat.le_refl _) _ _ _ _ hb1
 obtain ⟨W3,hW3⟩:∃W3,W3=W2.drew.setCells w.heap.size ((i+1)*14) (flatK (G.drop i)):=⟨_,rfl⟩
 have hr2':W2.drew.ownsRow lo 47 14 (.slice (some ⟨w.heap.size,0,none⟩) (n+1) Gc) (n+1) (setL ys (i*14) (cs14 (c,Value.slice none 0 0))):=row_next hr2 (Below.refl _ _).drew
 have hr3:W3.ownsRow lo 47 14 (.slice (some ⟨w.heap.size,0,none⟩) (n+1) Gc) (n+1) (setL (setL ys (i*14) (cs14 (c,Value.slice none 0 0))) ((i+1)*14) (flatK (G.drop i))):=by rw [hW3];exact row_setL _ _ _ _ hr2'
 have hb3:Below w.heap.size w W3:=by rw [hW3];exact belowK_set (Nat.le_refl _) _ _ _ _ hb2.drew
 have hcpB:∀ty,(Builtin.copy_ #[29,29] ty #[.slice (some ⟨w.heap.size,(i+1)*14,none⟩) (n-i) (Gc-(i+1)),.slice (some ⟨g,i*14,none⟩) (n-i) (cap-i)]).run Tryz.prog W2.drew=.ok (goInt ((n-i:Nat):Int)) W3:=fun ty=>by
  rw [hW3]
  have hl:(flatK (G.drop i)).length=(n-i)*14:=by rw [flatK_length,List.length_drop,hGl]
  refine copy14 ty w.heap.size ((i+1)*14) (n-i) (Gc-(i+1)) ⟨g,i*14,none⟩ (n-i) (cap-i) _ (n-i) (by show n-i=min (n-i) (n-i);omega) hl (fun j u hu=>?_) (fun j hj=>row_some hr2' _ (by omega)) (fun j hj=>hr2'.frozenAt _) (fun u hu=>flatK_sub (fun x hx=>List.mem_of_mem_drop hx) one u hu)
  rw [addr_add]
  have hj:=(List.getElem?_eq_some_iff.1 hu).1
  rw [←flatK_drop,List.getElem?_drop] at hu
  exact (hb2.drew.cell (by exact hgw.2)).trans ((hrow.cellAt _ (by omega)).trans hu)
 have HE:Hid (setL (setL ys (i*14) (cs14 (c,Value.slice none 0 0))) ((i+1)*14) (flatK (G.drop i))=flatK (insAt G i (c,Value.slice none 0 0))):=(row_ins G (by omega) _ (by rw [hyl,hGl]) hys).2
 have HR3:Hid (W3.ownsRow lo 47 14 (.slice (some ⟨w.heap.size,0,none⟩) (n+1) Gc) (n+1) (setL (setL ys (i*14) (cs14 (c,Value.slice none 0 0))) ((i+1)*14) (flatK (G.drop i)))):=hr3
 have HB3:Hid (Below w.heap.size w W3):=hb3
 have HS2:Hid (∀w',(Instr.sliceAt 29 (.slice (some ⟨w.heap.size,0,none⟩) (n+1) Gc) (some (.int .i64 ((i:Int)+1))) none none).run Tryz.prog w'=.ok (.slice (some ⟨w.heap.size,(i+1)*14,none⟩) (n-i) (Gc-(i+1))) w'):=fun w'=>by
  have q:=sliceK_from (a:=some ⟨w.heap.size,0,none⟩) (n:=n+1) (cap:=Gc) (k:=i+1) (by omega) w'
  rw [if_neg (by omega),show n+1-(i+1)=n-i by omega] at q
  have e:(some (⟨w.heap.size,0,none⟩:Addr)).map (·.add ((i+1)*14))=some ⟨w.heap.size,(i+1)*14,none⟩:=by show some ((⟨w.heap.size,0,none⟩:Addr).add ((i+1)*14))=_;rw [addr_add,Nat.zero_add]
  rw [e] at q
  exact q
 have HS3:Hid (∀w',(Instr.sliceAt 29 (.slice (some ⟨g,0,none⟩) n cap) (some (.int .i64 (i:Int))) none none).run Tryz.prog w'=.ok (.slice (some ⟨g,i*14,none⟩) (n-i) (cap-i)) w'):=fun w'=>by
  have q:=sliceK_from (a:=some ⟨g,0,none⟩) (n:=n) (cap:=cap) (k:=i) (by omega) w'
  rw [if_neg (by omega)] at q
  have e:(some (⟨g,0,none⟩:Addr)).map (·.add (i*14))=some ⟨g,i*14,none⟩:=by show some ((⟨g,0,none⟩:Addr).add (i*14))=_;rw [addr_add,Nat.zero_add]
  rw [e] at q
  exact q
 have HWR:Hid (IntKind.i64.wrap ((i:Int)+1)=(i:Int)+1):=by show _=_;rw [IntKind.wrap_i64];omega
 have HHC:Hid (c.xs=[]):=hc
 have f1:(i:Int)≤(n:Int):=by omega
 have f2:¬(i:Int)=(n:Int):=by omega
 have f3:(cap:Int)<(n:Int)+1:=by omega
 have f4:¬Gc=i:=by omega
 have f5:(i:Int)≤(n:Int)+1:=by omega
 have f6:i≤cap:=by omega
 have f7:¬cap=i:=by omega
 have f8:(i:Int)≤(cap:Int):=by omega
 clear hr1 hr2 hr2' hr3 hb1 hb2 hb3 hys hyl hv hnc hroom hrow one hW2 hW3 hG1 hG2 hgw hzc
 go_enter Tryz.func45,Tryz.ntmps45
 go_upto_region 10 with (at_builtin;refine Lib.wpList_append_run _ rfl _ _ _ _ rfl _ _ rfl rfl _ _ (hrz _) ?_)
 go_upto_region 11 with (fail)
 refine wp_region_held_drew (S:=fun _=>True) (by kernel_rfl) trivial (fun hS=>?_)
 refine anyR 0 rfl ?_
 refine anyR 1 rfl ?_
 refine anyR 2 rfl ?_
 refine anyR 3 rfl ?_
 refine anyV 4 (v:=.slice (some ⟨w.heap.size,(i+1)*14,none⟩) (n-i) (Gc-(i+1))) rfl ?_ ?_
 ·(intro w' hSw;(try dsimp only at hSw);have h:=HS2.out w';simp [execOp,Act.eval,HWR.out,h,Result.andThen])
 try simp only [nrm]
 refine anyR 5 rfl ?_
 refine anyR 6 rfl ?_
 refine anyV 7 (v:=.slice (some ⟨g,i*14,none⟩) (n-i) (cap-i)) rfl ?_ ?_
 ·(intro w' hSw;(try dsimp only at hSw);have h:=HS3.out w';simp [execOp,Act.eval,HWR.out,h,Result.andThen])
 try simp only [nrm]
 refine anyC 8 rfl fun Kr hKr=>?_
 go_simp
 refine hKr.out _ _ trivial (fun _=>?_)
 try simp only [nrm]
 refine wpAnyH_done (by kernel_rfl) ?_ _
 go_wp2
 go_ret
 have hn:=HLN.out
 subst hn
 exact ins_end HHC.out HCK.out (by omega) HR3.out HE.out ⟨HB3.out.os,HB3.out.tape,HB3.out.output,HB3.out.size,fun k hk _=>HB3.out.block k hk⟩ (.inr (Nat.le_refl _))
theorem insert_shift {w:World} {lo g cap vb i:Nat} {G:List G14} {K:List Kn} {cv:Array Value} {tv:TypeId} (c:Kn) (hc:c.xs=[]) (ck:CpK w lo (.slice (some ⟨g,0,none⟩) K.length cap) G K) (hi:i<K.length) (h40:K.length≤40) (hroom:K.length+1≤cap) (hlo:lo≤w.heap.size) (hne:vb≠g) (hvb:w.heap[vb]?=some (.cells cv tv (0,0))) (hv:∀j u,(cs14 (c,.slice none 0 0))[j]?=some u→w.cell? ⟨vb,0+j,none⟩=some u) :
 Calls Tryz.prog 45 #[.slice (some ⟨g,0,none⟩) K.length cap,.int .i64 (i:Int),.slice (some ⟨vb,0,none⟩) 1 1] w (InsPost w lo (.slice (some ⟨g,0,none⟩) K.length cap) G K i c):=by
 have HCK:Hid (CpK w lo (.slice (some ⟨g,0,none⟩) K.length cap) G K):=ck
 have hrow:=ck.row
 have hgw:=(hrow.lt g rfl)
 have hGl:=ck.len
 have one:=rows_one ck
 obtain ⟨tB,kB,hsb,hkB,hc63⟩:∃tB kB,w.shape? g=some (tB,kB)∧kB≠0∧cap≤maxLen:=by
  rcases hrow.2 with ⟨h',_⟩|⟨g',cap',cur,h',hb,hg,hnc,hcm,hcs,htake⟩
  ·cases h'
  ·injection h' with e1 _ e3
   injection e1 with e1
   injection e1 with e1
   subst e1 e3
   exact ⟨47,cur.size,by unfold World.shape?;rw [hg],by omega,hcm⟩
 have hsa:w.shape? vb=some (tv,cv.size):=by unfold World.shape?;rw [hvb]
 have hfa:∀o,w.frozen? ⟨vb,o,none⟩=false:=fun o=>by unfold World.frozen?;rw [hvb];simp
 clear ck
 obtain ⟨n,hn⟩:∃n,n=K.length:=⟨_,rfl⟩
 have HLN:Hid (n=K.length):=hn
 rw [←hn] at hrow h40 hi hroom hGl ⊢
 clear hn
 obtain ⟨ys,hr0,hys⟩:=row_room hrow hroom
 have hyl:=hr0.1
 have hov:∀lb cb,(callFunc 110 #[.slice (some ⟨vb,0,none⟩) 1 1,.slice (some ⟨g,(i+1)*14,none⟩) lb cb]).run Tryz.prog w=.ok (.value (.bool false)) w:=fun lb cb=>by
  rw [run_callFunc_extern Tryz.func110 (by kernel_rfl) (by kernel_rfl) (by kernel_rfl) (e:=Extern.SlicesOverlaps.overlaps #[29,29] #[4]) (by kernel_rfl),
   Lib.run_overlaps_apart w 29 4 47 Tryz.underlying29 14 sizeConn ⟨vb,0,none⟩ ⟨g,(i+1)*14,none⟩ 1 1 lb cb hne tv tB cv.size kB hsa hsb hkB (hfa _) (hfa _)]
  rfl
 have hr0':w.drew.ownsRow lo 47 14 (.slice (some ⟨g,0,none⟩) (n+1) cap) (n+1) ys:=row_next hr0 (Below.refl _ _).drew
 obtain ⟨W2,hW2⟩:∃W2,W2=w.drew.setCells g ((i+1)*14) (flatK (G.drop i)):=⟨_,rfl⟩
 have hr2:W2.ownsRow lo 47 14 (.slice (some ⟨g,0,none⟩) (n+1) cap) (n+1) (setL ys ((i+1)*14) (flatK (G.drop i))):=by rw [hW2];exact row_setL _ _ _ _ hr0'
 have hcpA:∀ty,(Builtin.copy_ #[29,29] ty #[.slice (some ⟨g,(i+1)*14,none⟩) (n-i) (cap-(i+1)),.slice (some ⟨g,i*14,none⟩) (n+1-i) (cap-i)]).run Tryz.prog w.drew=.ok (goInt ((n-i:Nat):Int)) W2:=fun ty=>by
  rw [hW2]
  have hl:(flatK (G.drop i)).length=(n-i)*14:=by rw [flatK_length,List.length_drop,hGl]
  refine copy14 ty g ((i+1)*14) (n-i) (cap-(i+1)) ⟨g,i*14,none⟩ (n+1-i) (cap-i) _ (n-i) (by show n-i=min (n+1-i) (n-i);omega) hl (fun j u hu=>?_) (fun j hj=>row_some hr0' _ (by omega)) (fun j hj=>hr0'.frozenAt _) (fun u hu=>flatK_sub (fun x hx=>List.mem_of_mem_drop hx) one u hu)
  rw [addr_add]
  have hj:=(List.getElem?_eq_some_iff.1 hu).1
  rw [←flatK_drop,List.getElem?_drop] at hu
  exact (hrow.cellAt _ (by omega)).trans hu
 have oA:Only g w W2:=by
  rw [hW2]
  have b0:Below w.heap.size w w.drew:=(Below.refl _ _).drew
  have o0:Only g w w.drew:=⟨b0.os,b0.tape,b0.output,b0.size,fun k hk _=>b0.block k hk⟩
  exact o0.trans (onlyCells _ _ _)
 obtain ⟨W3,hW3⟩:∃W3,W3=W2.setCells g (i*14) (cs14 (c,Value.slice none 0 0)):=⟨_,rfl⟩
 have hr3:W3.ownsRow lo 47 14 (.slice (some ⟨g,0,none⟩) (n+1) cap) (n+1) (setL (setL ys ((i+1)*14) (flatK (G.drop i))) (i*14) (cs14 (c,Value.slice none 0 0))):=by rw [hW3];exact row_setL _ _ _ _ hr2
 have hcpB:∀ty,(Builtin.copy_ #[29,29] ty #[.slice (some ⟨g,i*14,none⟩) (n+1-i) (cap-i),.slice (some ⟨vb,0,none⟩) 1 1]).run Tryz.prog W2=.ok (goInt 1) W3:=fun ty=>by
  rw [hW3]
  refine copy14 ty g (i*14) (n+1-i) (cap-i) ⟨vb,0,none⟩ 1 1 _ 1 (by show 1=min 1 (n+1-i);omega) rfl (fun j u hu=>?_) (fun j hj=>row_some hr2 _ (by have hj:j<14:=hj;omega)) (fun j hj=>hr2.frozenAt _) (ins_one c)
  rw [addr_add]
  have q:=hv j u hu
  rw [World.cell?_of_block (oA.block vb (by exact (Array.getElem?_eq_some_iff.1 hvb).1) hne)]
  exact q
 have oB:Only g w W3:=by rw [hW3];exact oA.trans (onlyCells _ _ _)
 have HE:Hid (setL (setL ys ((i+1)*14) (flatK (G.drop i))) (i*14) (cs14 (c,Value.slice none 0 0))=flatK (insAt G i (c,Value.slice none 0 0))):=(row_ins G (by omega) _ (by rw [hyl,hGl]) (fun j hj=>hys j (by omega))).1
 have HR3:Hid (W3.ownsRow lo 47 14 (.slice (some ⟨g,0,none⟩) (n+1) cap) (n+1) (setL (setL ys ((i+1)*14) (flatK (G.drop i))) (i*14) (cs14 (c,Value.slice none 0 0)))):=hr3
 have HOB:Hid (Only g w W3):=oB
 have HS2:Hid (∀w',(Instr.sliceAt 29 (.slice (some ⟨g,0,none⟩) (n+1) cap) (some (.int .i64 ((i:Int)+1))) none none).run Tryz.prog w'=.ok (.slice (some ⟨g,(i+1)*14,none⟩) (n-i) (cap-(i+1))) w'):=fun w'=>by
  have q:=sliceK_from (a:=some ⟨g,0,none⟩) (n:=n+1) (cap:=cap) (k:=i+1) (by omega) w'
  rw [if_neg (by omega),show n+1-(i+1)=n-i by omega] at q
  have e:(some (⟨g,0,none⟩:Addr)).map (·.add ((i+1)*14))=some ⟨g,(i+1)*14,none⟩:=by show some ((⟨g,0,none⟩:Addr).add ((i+1)*14))=_;rw [addr_add,Nat.zero_add]
  rw [e] at q
  exact q
 have HS3:Hid (∀w',(Instr.sliceAt 29 (.slice (some ⟨g,0,none⟩) (n+1) cap) (some (.int .i64 (i:Int))) none none).run Tryz.prog w'=.ok (.slice (some ⟨g,i*14,none⟩) (n+1-i) (cap-i)) w'):=fun w'=>by
  have q:=sliceK_from (a:=some ⟨g,0,none⟩) (n:=n+1) (cap:=cap) (k:=i) (by omega) w'
  rw [if_neg (by omega)] at q
  have e:(some (⟨g,0,none⟩:Addr)).map (·.add (i*14))=some ⟨g,i*14,none⟩:=by show some ((⟨g,0,none⟩:Addr).add (i*14))=_;rw [addr_add,Nat.zero_add]
  rw [e] at q
  exact q
 have HWR:Hid (IntKind.i64.wrap ((i:Int)+1)=(i:Int)+1):=by show _=_;rw [IntKind.wrap_i64];omega
 have HHC:Hid (c.xs=[]):=hc
 have f1:(i:Int)≤(n:Int):=by omega
 have f2:¬(i:Int)=(n:Int):=by omega
 have f3:¬(cap:Int)<(n:Int)+1:=by omega
 have f4:¬cap=i+1:=by omega
 have f5:(i:Int)≤(n:Int)+1:=by omega
 have f6:n+1≤cap:=by omega
 have f7:¬cap=i:=by omega
 have f8:(n:Int)+1≤(cap:Int):=by omega
 have f9:i≤n+1:=by omega
 have f10:(0:Int)≤(i:Int)+1:=by omega
 have f11:((i:Int)+1).toNat=i+1:=by omega
 have f12:i≤n:=by omega
 have HG:Hid (g<w.heap.size):=hgw.2
 clear hr0 hr2 hr0' hr3 oA oB hys hyl hv hroom hrow one hW2 hW3 hgw hsa hsb hfa hkB hvb hne hc63
 go_enter Tryz.func45,Tryz.ntmps45
 go_upto_region 15 with (simp only [hov])
 refine wp_region_held_drew (S:=fun _=>True) (by kernel_rfl) trivial (fun hS=>?_)
 refine anyR 0 rfl ?_
 refine anyR 1 rfl ?_
 refine anyR 2 rfl ?_
 refine anyR 3 rfl ?_
 refine anyV 4 (v:=.slice (some ⟨g,(i+1)*14,none⟩) (n-i) (cap-(i+1))) rfl ?_ ?_
 ·(intro w' hSw;(try dsimp only at hSw);have h:=HS2.out w';simp [execOp,Act.eval,HWR.out,h,Result.andThen])
 try simp only [nrm]
 refine anyR 5 rfl ?_
 refine anyR 6 rfl ?_
 refine anyV 7 (v:=.slice (some ⟨g,i*14,none⟩) (n+1-i) (cap-i)) rfl ?_ ?_
 ·(intro w' hSw;(try dsimp only at hSw);have h:=HS3.out w';simp [execOp,Act.eval,HWR.out,h,Result.andThen])
 try simp only [nrm]
 refine anyC 8 rfl fun Kr hKr=>?_
 go_simp
 refine hKr.out _ _ trivial (fun _=>?_)
 try simp only [nrm]
 refine wpAnyH_done (by kernel_rfl) ?_ _
 go_wp2
 go_ret
 have hn:=HLN.out
 subst hn
 exact ins_end HHC.out HCK.out (by omega) HR3.out HE.out ⟨HOB.out.os,HOB.out.tape,HOB.out.output,HOB.out.size,fun k hk e=>HOB.out.block k hk (fun e'=>e (congrArg some e'))⟩ (.inl rfl)
theorem insert_any {w:World} {lo cap vb i:Nat} {a:Option Addr} {G:List G14} {K:List Kn} {cv:Array Value} {tv:TypeId} (c:Kn) (hc:c.xs=[]) (ck:CpK w lo (.slice a K.length cap) G K) (hi:i≤K.length) (h40:K.length≤40) (hlo:lo≤w.heap.size) (hne:∀g,(Value.slice a K.length cap).ownBlock=some g→vb≠g) (hvb:w.heap[vb]?=some (.cells cv tv (0,0))) (hv:∀j u,(cs14 (c,.slice none 0 0))[j]?=some u→w.cell? ⟨vb,0+j,none⟩=some u) :
 Calls Tryz.prog 45 #[.slice a K.length cap,.int .i64 (i:Int),.slice (some ⟨vb,0,none⟩) 1 1] w (InsPost w lo (.slice a K.length cap) G K i c):=by
 by_cases h:i=K.length
 ·subst h
  exact insert_end c hc ck h40 hlo hv
 ·rcases ck.row.2 with ⟨e,e2⟩|⟨g,cap',cur,e,_,_,hnc,_⟩
  ·omega
  ·injection e with e1 _ e3
   subst e1 e3
   by_cases hr:K.length+1≤cap
   ·exact insert_shift c hc ck (by omega) h40 hr hlo (hne g rfl) hvb hv
   ·exact insert_grow c hc ck (by omega) h40 hnc (by omega) hlo (by exact (Array.getElem?_eq_some_iff.1 hvb).1) hv
def SrcK (w:World) (av:Option Addr) (m c:Nat) (news:List Value):Prop:=(∃ad,av=some ad∧ad.block<w.heap.size∧∀j u,news[j]?=some u→w.cell? (ad.add j)=some u)∨(av=none∧m=0∧c=0∧news=[])
theorem SrcK.next {w w':World} {av:Option Addr} {m c:Nat} {news:List Value} (h:SrcK w av m c news) (hb:Below w.heap.size w w'):SrcK w' av m c news:=by
 rcases h with ⟨ad,e,hl,h⟩|h
 ·refine .inl ⟨ad,e,Nat.lt_of_lt_of_le hl hb.size,fun j u hu=>(hb.cell (p:=ad.add j) ?_).trans (h j u hu)⟩
  have:(ad.add j).block=ad.block:=by unfold Addr.add;split <;> rfl
  rw [this]
  exact hl
 ·exact .inr h
theorem wp_append_srcK {P:Program} (w:World) {o:Oper} {a:Act} {K:Act→World→Prop} {Q:Exit→Act→World→Prop} (s x:Operand) (t:TypeId)
 (ho:o.op=.call { callee:=.builtin .append,args:=#[s,x],argTypes:=#[t,t] })
 (base:Nat) (e:TypeId) (i:TypeInfo) (z:Value) (size bytes:Nat) (ht:P.underlying t=some (.slice e)) (hi:P.info? e=some i) (hz:i.zero=some z)
 (hsize:i.size=size) (hby:i.bytes=bytes) (hzs:z.cells.size=size) (hsz:0<size)
 (v:Value) (n:Nat) (xs:List Value) (hs:a.eval s=v) (hown:w.ownsRow base e size v n xs)
 (av:Option Addr) (m c:Nat) (news:List Value) (hx:a.eval x=.slice av m c) (hsrc:SrcK w av m c news) (hl:news.length=m*size) (h1:∀u ∈ news,u.oneCell'=true)
 (h63:n+m≤maxLen) (hbytes:(n+m)*bytes≤140737488355328) (hbase:base≤w.heap.size)
 (h:∀v' w',w'.ownsRow base e size v' (n+m) (xs ++ news)→w.grownBy w' v.ownBlock→K (a.put o.dst v') w'):o.wp P a w K Q:=by
 rcases hsrc with ⟨ad,rfl,_,hn⟩|⟨rfl,rfl,rfl,rfl⟩
 ·exact wp_append_own w s x t ho base e i z size bytes ht hi hz hsize hby hzs hsz v n xs hs hown ad m c news hx hl hn h1 h63 hbytes hbase (fun v' w' a b _=>h v' w' a b)
 ·have hrun:=run_append_owned_none (P:=P) (w:=w) base t o.type e i size ht hi v n xs hown
  unfold Oper.wp
  simp [execOp,ho,resolve,invoke,builtin,hs,hx,hrun,Result.andThen]
  exact h v w (by rw [Nat.add_zero,List.append_nil];exact hown) ⟨rfl,rfl,rfl,Nat.le_refl _,fun _ _ _=>rfl⟩
theorem one_atG {w:World} {lo:Nat} {v:Value} {G:List G14} {K:List Kn} (ck:CpK w lo v G K) {j:Nat} (hj:j<G.length):∀u ∈ cs14 G[j],u.oneCell'=true:=fun u hu=>rows_one ck u (List.mem_flatMap.2 ⟨G[j],List.getElem_mem hj,hu⟩)
theorem rest_src {w:World} {lo cap i:Nat} {a:Option Addr} {G:List G14} {K:List Kn} (ck:CpK w lo (.slice a K.length cap) G K) (hi:i≤K.length):SrcK w (if cap=i then a else a.map (·.add (i*14))) (K.length-i) (cap-i) (flatK (G.drop i)):=by
 have hl:=ck.len
 rcases ck.row.2 with ⟨e,e2⟩|⟨g,cap',cur,e,_,_,hnc,_⟩
 ·injection e with e1 _ e3
  subst e1 e3
  refine .inr ⟨by split <;> rfl,by omega,by omega,?_⟩
  have:G=[]:=List.eq_nil_of_length_eq_zero (by omega)
  rw [this,List.drop_nil]
  rfl
 ·injection e with e1 _ e3
  subst e1 e3
  obtain ⟨ad,had,h⟩:=rest_at ck hi hnc
  refine .inl ⟨ad,had,?_,h⟩
  have hg:=(ck.row.lt g rfl).2
  by_cases e:cap=i
  ·rw [if_pos e] at had
   rw [←Option.some.inj had]
   exact hg
  ·rw [if_neg e] at had
   rw [←Option.some.inj had]
   show ((⟨g,0,none⟩:Addr).add (i*14)).block<_
   rw [addr_add]
   exact hg
theorem specOpn_bad {w:World} (now nx:Int) {aT aO aP aL aK:Option Addr} (cT cO cP cL cK:Nat) {T O P:List Q4} {L:List F8} {K:List Kn} (id lf pl kd:Int) (hT:Quad w.heap.size w aT T) (hO:Quad w.heap.size w aO O) (hP:Quad w.heap.size w aP P) (hL:Fls w.heap.size w aL L) (hK:Kls w.heap.size w aK K) (mT:T.length≤1048576) (mL:L.length≤1048576) (sL:∀f ∈ L,f.2.2.length≤1048576) (mK:K.length≤1048576) (sK:∀c ∈ K,c.xs.length≤1048576) (h1:engB now nx T O P L K=false):Calls Tryz.prog 11 #[engV now aT T.length cT aO O.length cO aP P.length cP aL L.length cL aK K.length cK nx,.int .i64 id,.int .i64 lf,.int .i64 pl,.int .i64 kd] w (EgPost w 0 0 [] [] [] [] [] (.int .i64 1)):=by
 have sKm:=szKn sK
 have mKm:=szMx mK
 obtain ⟨v,hv,nb,L0,L1⟩:=preZ w 31 [.int .i64 now,.slice aT T.length cT,.slice aO O.length cO,.slice aP P.length cP,.slice aL L.length cL,.slice aK K.length cK,.int .i64 nx]
 have hw1:=L1.lt
 go_enter Tryz.func11,Tryz.ntmps11
 go_upto_region 1 with (fail)
 rw [←hv]
 clear hv
 obtain ⟨q0,q1,q2,q3,q4,q5,q6⟩:=Lay.c7 (b:=w.heap.size) L0
 go_wp2_with (first|(go_at_call 40;refine (specEngineOk_is cT cO cP cL cK h1 (hT.here nb) (hO.here nb) (hP.here nb) (hL.here nb) (hK.here nb) mT mL mK sKm).mono ?_;rintro e v2 ⟨rfl,hb2⟩;have b2:=below_two nb hb2;have M0:=L0.next hb2;have M1:=L1.next hb2;clear q0 q1 q2 q3 q4 q5 q6;obtain ⟨q0,q1,q2,q3,q4,q5,q6⟩:=Lay.c7 (b:=w.heap.size) M0;skip)|(go_at_call 47;refine (l14No_bad now nx cT cO cP cL cK).mono ?_;rintro e u1 ⟨bT,dT,bO,dO,bP,dP,bL,dL,bK,dK,rfl,eg,hb1⟩;have HEG:Hid (Eng u1 v2.heap.size u1.heap.size (.slice bT 0 dT) (.slice bO 0 dO) (.slice bP 0 dP) (.slice bL 0 dL) (.slice bK 0 dK) [] [] [] [] []):=eg;have LU:=M1.next hb1;obtain ⟨z0,z1,z2,z3,z4,z5,z6⟩:=Lay.c7 (b:=w.heap.size+1) LU;have fz:=LU.free))
 obtain ⟨u,hu',ou,U⟩:=st7 (b:=w.heap.size+1) LU (.int .i64 0) (.slice bT 0 dT) (.slice bO 0 dO) (.slice bP 0 dP) (.slice bL 0 dL) (.slice bK 0 dK) (.int .i64 0)
 rw [hu']
 clear hu'
 have zu:=ou.size
 have bw:=below_two b2 hb1
 have zb:=b2.size
 have z2:=hb2.size
 have zbb:=b2.size
 refine bodyPost_ret (results_two rfl _ _ _ _ rfl U.cell Tryz.underlying31 rfl (by kernel_rfl)) rfl ?_
 exact ⟨bT,dT,bO,dO,bP,dP,bL,dL,bK,dK,rfl,engO HEG.out ou (by omega) (by omega) ou.size,bw.trans (ou.below (by omega) bw.size)⟩
theorem specOpn_id2 {w:World} (now nx:Int) {aT aO aP aL aK:Option Addr} (cT cO cP cL cK:Nat) {T O P:List Q4} {L:List F8} {K:List Kn} (id lf pl kd:Int) (hT:Quad w.heap.size w aT T) (hO:Quad w.heap.size w aO O) (hP:Quad w.heap.size w aP P) (hL:Fls w.heap.size w aL L) (hK:Kls w.heap.size w aK K) (mT:T.length≤1048576) (mL:L.length≤1048576) (sL:∀f ∈ L,f.2.2.length≤1048576) (mK:K.length≤1048576) (sK:∀c ∈ K,c.xs.length≤1048576) (h1:engB now nx T O P L K=true) (hn:inQ 0 id 1000000=false):Calls Tryz.prog 11 #[engV now aT T.length cT aO O.length cO aP P.length cP aL L.length cL aK K.length cK nx,.int .i64 id,.int .i64 lf,.int .i64 pl,.int .i64 kd] w (EgPost w now nx T O P L K (.int .i64 2)):=by
 have sKm:=szKn sK
 have mKm:=szMx mK
 obtain ⟨nT,nO,nP⟩:=eg_lens (eg_yes h1)
 obtain ⟨v,hv,nb,L0,L1⟩:=preZ w 31 [.int .i64 now,.slice aT T.length cT,.slice aO O.length cO,.slice aP P.length cP,.slice aL L.length cL,.slice aK K.length cK,.int .i64 nx]
 have hw1:=L1.lt
 go_enter Tryz.func11,Tryz.ntmps11
 go_upto_region 1 with (fail)
 rw [←hv]
 clear hv
 obtain ⟨q0,q1,q2,q3,q4,q5,q6⟩:=Lay.c7 (b:=w.heap.size) L0
 go_wp2_with (first|(go_at_call 40;refine (specEngineOk_is cT cO cP cL cK h1 (hT.here nb) (hO.here nb) (hP.here nb) (hL.here nb) (hK.here nb) mT mL mK sKm).mono ?_;rintro e v2 ⟨rfl,hb2⟩;have b2:=below_two nb hb2;have M0:=L0.next hb2;have M1:=L1.next hb2;clear q0 q1 q2 q3 q4 q5 q6;obtain ⟨q0,q1,q2,q3,q4,q5,q6⟩:=Lay.c7 (b:=w.heap.size) M0;skip)|(go_at_call 48;refine (inQ_is hn _).mono ?_;rintro e w3 ⟨rfl,e3⟩;replace e3:=e3.symm;subst e3;have g1:=True.intro)|(go_at_call 47;refine (l14No_code now nx cT cO cP cL cK (hT.here b2) (hO.here b2) (hP.here b2) (hL.here b2) (hK.here b2) nT nO nP mL sL mK sK 2 (by decide)).mono ?_;rintro e u1 ⟨bT,dT,bO,dO,bP,dP,bL,dL,bK,dK,rfl,eg,hb1⟩;have HEG:Hid (Eng u1 v2.heap.size u1.heap.size (.slice bT T.length dT) (.slice bO O.length dO) (.slice bP P.length dP) (.slice bL L.length dL) (.slice bK K.length dK) T O P L K):=eg;have LU:=M1.next hb1;obtain ⟨z0,z1,z2,z3,z4,z5,z6⟩:=Lay.c7 (b:=w.heap.size+1) LU;have fz:=LU.free))
 obtain ⟨u,hu',ou,U⟩:=st7 (b:=w.heap.size+1) LU (.int .i64 now) (.slice bT T.length dT) (.slice bO O.length dO) (.slice bP P.length dP) (.slice bL L.length dL) (.slice bK K.length dK) (.int .i64 nx)
 rw [hu']
 clear hu'
 have zu:=ou.size
 have bw:=below_two b2 hb1
 have zb:=b2.size
 have z2:=hb2.size
 have zbb:=b2.size
 refine bodyPost_ret (results_two rfl _ _ _ _ rfl U.cell Tryz.underlying31 rfl (by kernel_rfl)) rfl ?_
 exact ⟨bT,dT,bO,dO,bP,dP,bL,dL,bK,dK,rfl,engO HEG.out ou (by omega) (by omega) ou.size,bw.trans (ou.below (by omega) bw.size)⟩
theorem specOpn_id1 {w:World} (now nx:Int) {aT aO aP aL aK:Option Addr} (cT cO cP cL cK:Nat) {T O P:List Q4} {L:List F8} {K:List Kn} (id lf pl kd:Int) (hT:Quad w.heap.size w aT T) (hO:Quad w.heap.size w aO O) (hP:Quad w.heap.size w aP P) (hL:Fls w.heap.size w aL L) (hK:Kls w.heap.size w aK K) (mT:T.length≤1048576) (mL:L.length≤1048576) (sL:∀f ∈ L,f.2.2.length≤1048576) (mK:K.length≤1048576) (sK:∀c ∈ K,c.xs.length≤1048576) (h1:engB now nx T O P L K=true) (hn:inQ 0 id 1000000=true) (i:Nat) (hi:i<K.length) (hf:fK K id=(i:Int)):Calls Tryz.prog 11 #[engV now aT T.length cT aO O.length cO aP P.length cP aL L.length cL aK K.length cK nx,.int .i64 id,.int .i64 lf,.int .i64 pl,.int .i64 kd] w (EgPost w now nx T O P L K (.int .i64 2)):=by
 have sKm:=szKn sK
 have mKm:=szMx mK
 obtain ⟨nT,nO,nP⟩:=eg_lens (eg_yes h1)
 have hi0:¬((i:Int)<0):=by omega
 have hi':(i:Int)<(K.length:Int):=by omega
 obtain ⟨v,hv,nb,L0,L1⟩:=preZ w 31 [.int .i64 now,.slice aT T.length cT,.slice aO O.length cO,.slice aP P.length cP,.slice aL L.length cL,.slice aK K.length cK,.int .i64 nx]
 have hw1:=L1.lt
 go_enter Tryz.func11,Tryz.ntmps11
 go_upto_region 1 with (fail)
 rw [←hv]
 clear hv
 obtain ⟨q0,q1,q2,q3,q4,q5,q6⟩:=Lay.c7 (b:=w.heap.size) L0
 go_wp2_with (first|(go_at_call 40;refine (specEngineOk_is cT cO cP cL cK h1 (hT.here nb) (hO.here nb) (hP.here nb) (hL.here nb) (hK.here nb) mT mL mK sKm).mono ?_;rintro e v2 ⟨rfl,hb2⟩;have b2:=below_two nb hb2;have M0:=L0.next hb2;have M1:=L1.next hb2;clear q0 q1 q2 q3 q4 q5 q6;obtain ⟨q0,q1,q2,q3,q4,q5,q6⟩:=Lay.c7 (b:=w.heap.size) M0;skip)|(go_at_call 48;refine (inQ_is hn _).mono ?_;rintro e w3 ⟨rfl,e3⟩;replace e3:=e3.symm;subst e3;have g1:=True.intro)|(go_at_call 49;refine (specFind_any now nx id (hK.here b2) mKm).mono ?_;rintro e v3 ⟨rfl,hb3⟩;rw [hf];have b3:=below_two b2 hb3;have N0:=M0.next hb3;have N1:=M1.next hb3;clear q0 q1 q2 q3 q4 q5 q6;obtain ⟨q0,q1,q2,q3,q4,q5,q6⟩:=Lay.c7 (b:=w.heap.size) N0;skip)|(go_at_call 47;refine (l14No_code now nx cT cO cP cL cK (hT.here b3) (hO.here b3) (hP.here b3) (hL.here b3) (hK.here b3) nT nO nP mL sL mK sK 2 (by decide)).mono ?_;rintro e u1 ⟨bT,dT,bO,dO,bP,dP,bL,dL,bK,dK,rfl,eg,hb1⟩;have HEG:Hid (Eng u1 v3.heap.size u1.heap.size (.slice bT T.length dT) (.slice bO O.length dO) (.slice bP P.length dP) (.slice bL L.length dL) (.slice bK K.length dK) T O P L K):=eg;have LU:=N1.next hb1;obtain ⟨z0,z1,z2,z3,z4,z5,z6⟩:=Lay.c7 (b:=w.heap.size+1) LU;have fz:=LU.free))
 obtain ⟨u,hu',ou,U⟩:=st7 (b:=w.heap.size+1) LU (.int .i64 now) (.slice bT T.length dT) (.slice bO O.length dO) (.slice bP P.length dP) (.slice bL L.length dL) (.slice bK K.length dK) (.int .i64 nx)
 rw [hu']
 clear hu'
 have zu:=ou.size
 have bw:=below_two b3 hb1
 have zb:=b2.size
 have z2:=hb2.size
 have zbb:=b3.size
 have z3:=hb3.size
 refine bodyPost_ret (results_two rfl _ _ _ _ rfl U.cell Tryz.underlying31 rfl (by kernel_rfl)) rfl ?_
 exact ⟨bT,dT,bO,dO,bP,dP,bL,dL,bK,dK,rfl,engO HEG.out ou (by omega) (by omega) ou.size,bw.trans (ou.below (by omega) bw.size)⟩
theorem specOpn_leaf1 {w:World} (now nx:Int) {aT aO aP aL aK:Option Addr} (cT cO cP cL cK:Nat) {T O P:List Q4} {L:List F8} {K:List Kn} (id lf pl kd:Int) (hT:Quad w.heap.size w aT T) (hO:Quad w.heap.size w aO O) (hP:Quad w.heap.size w aP P) (hL:Fls w.heap.size w aL L) (hK:Kls w.heap.size w aK K) (mT:T.length≤1048576) (mL:L.length≤1048576) (sL:∀f ∈ L,f.2.2.length≤1048576) (mK:K.length≤1048576) (sK:∀c ∈ K,c.xs.length≤1048576) (h1:engB now nx T O P L K=true) (hf:fK K id = -1) (hn:inQ 0 id 1000000=true) (hl1:inQ 0 lf ((T.length:Int)-1)=false):Calls Tryz.prog 11 #[engV now aT T.length cT aO O.length cO aP P.length cP aL L.length cL aK K.length cK nx,.int .i64 id,.int .i64 lf,.int .i64 pl,.int .i64 kd] w (EgPost w now nx T O P L K (.int .i64 3)):=by
 have sKm:=szKn sK
 have mKm:=szMx mK
 obtain ⟨nT,nO,nP⟩:=eg_lens (eg_yes h1)
 have hli:(T.length:Int)≤1048576:=by omega
 have hLi:(L.length:Int)≤1048576:=by omega
 obtain ⟨v,hv,nb,L0,L1⟩:=preZ w 31 [.int .i64 now,.slice aT T.length cT,.slice aO O.length cO,.slice aP P.length cP,.slice aL L.length cL,.slice aK K.length cK,.int .i64 nx]
 have hw1:=L1.lt
 go_enter Tryz.func11,Tryz.ntmps11
 go_upto_region 1 with (fail)
 rw [←hv]
 clear hv
 obtain ⟨q0,q1,q2,q3,q4,q5,q6⟩:=Lay.c7 (b:=w.heap.size) L0
 go_wp2_with (first|(go_at_call 40;refine (specEngineOk_is cT cO cP cL cK h1 (hT.here nb) (hO.here nb) (hP.here nb) (hL.here nb) (hK.here nb) mT mL mK sKm).mono ?_;rintro e v2 ⟨rfl,hb2⟩;have b2:=below_two nb hb2;have M0:=L0.next hb2;have M1:=L1.next hb2;clear q0 q1 q2 q3 q4 q5 q6;obtain ⟨q0,q1,q2,q3,q4,q5,q6⟩:=Lay.c7 (b:=w.heap.size) M0;skip)|(go_at_call 48;have tk:=g1;refine (inQ_is hl1 _).mono ?_;rintro e w3 ⟨rfl,e3⟩;replace e3:=e3.symm;subst e3;have g2:=True.intro)|(go_at_call 48;refine (inQ_is hn _).mono ?_;rintro e w3 ⟨rfl,e3⟩;replace e3:=e3.symm;subst e3;have g1:=True.intro)|(go_at_call 49;refine (specFind_any now nx id (hK.here b2) mKm).mono ?_;rintro e v3 ⟨rfl,hb3⟩;rw [hf];have b3:=below_two b2 hb3;have N0:=M0.next hb3;have N1:=M1.next hb3;clear q0 q1 q2 q3 q4 q5 q6;obtain ⟨q0,q1,q2,q3,q4,q5,q6⟩:=Lay.c7 (b:=w.heap.size) N0;skip)|(go_at_call 47;refine (l14No_code now nx cT cO cP cL cK (hT.here b3) (hO.here b3) (hP.here b3) (hL.here b3) (hK.here b3) nT nO nP mL sL mK sK 3 (by decide)).mono ?_;rintro e u1 ⟨bT,dT,bO,dO,bP,dP,bL,dL,bK,dK,rfl,eg,hb1⟩;have HEG:Hid (Eng u1 v3.heap.size u1.heap.size (.slice bT T.length dT) (.slice bO O.length dO) (.slice bP P.length dP) (.slice bL L.length dL) (.slice bK K.length dK) T O P L K):=eg;have LU:=N1.next hb1;obtain ⟨z0,z1,z2,z3,z4,z5,z6⟩:=Lay.c7 (b:=w.heap.size+1) LU;have fz:=LU.free))
 obtain ⟨u,hu',ou,U⟩:=st7 (b:=w.heap.size+1) LU (.int .i64 now) (.slice bT T.length dT) (.slice bO O.length dO) (.slice bP P.length dP) (.slice bL L.length dL) (.slice bK K.length dK) (.int .i64 nx)
 rw [hu']
 clear hu'
 have zu:=ou.size
 have bw:=below_two b3 hb1
 have zb:=b2.size
 have z2:=hb2.size
 have zbb:=b3.size
 have z3:=hb3.size
 refine bodyPost_ret (results_two rfl _ _ _ _ rfl U.cell Tryz.underlying31 rfl (by kernel_rfl)) rfl ?_
 exact ⟨bT,dT,bO,dO,bP,dP,bL,dL,bK,dK,rfl,engO HEG.out ou (by omega) (by omega) ou.size,bw.trans (ou.below (by omega) bw.size)⟩
theorem specOpn_leaf2 {w:World} (now nx:Int) {aT aO aP aL aK:Option Addr} (cT cO cP cL cK:Nat) {T O P:List Q4} {L:List F8} {K:List Kn} (id lf pl kd:Int) (hT:Quad w.heap.size w aT T) (hO:Quad w.heap.size w aO O) (hP:Quad w.heap.size w aP P) (hL:Fls w.heap.size w aL L) (hK:Kls w.heap.size w aK K) (mT:T.length≤1048576) (mL:L.length≤1048576) (sL:∀f ∈ L,f.2.2.length≤1048576) (mK:K.length≤1048576) (sK:∀c ∈ K,c.xs.length≤1048576) (h1:engB now nx T O P L K=true) (hf:fK K id = -1) (hn:inQ 0 id 1000000=true) (hl1:inQ 0 lf ((T.length:Int)-1)=true) (hl2:leafB T lf=false):Calls Tryz.prog 11 #[engV now aT T.length cT aO O.length cO aP P.length cP aL L.length cL aK K.length cK nx,.int .i64 id,.int .i64 lf,.int .i64 pl,.int .i64 kd] w (EgPost w now nx T O P L K (.int .i64 3)):=by
 have sKm:=szKn sK
 have mKm:=szMx mK
 obtain ⟨nT,nO,nP⟩:=eg_lens (eg_yes h1)
 have hli:(T.length:Int)≤1048576:=by omega
 have hLi:(L.length:Int)≤1048576:=by omega
 obtain ⟨v,hv,nb,L0,L1⟩:=preZ w 31 [.int .i64 now,.slice aT T.length cT,.slice aO O.length cO,.slice aP P.length cP,.slice aL L.length cL,.slice aK K.length cK,.int .i64 nx]
 have hw1:=L1.lt
 go_enter Tryz.func11,Tryz.ntmps11
 go_upto_region 1 with (fail)
 rw [←hv]
 clear hv
 obtain ⟨q0,q1,q2,q3,q4,q5,q6⟩:=Lay.c7 (b:=w.heap.size) L0
 go_wp2_with (first|(go_at_call 40;refine (specEngineOk_is cT cO cP cL cK h1 (hT.here nb) (hO.here nb) (hP.here nb) (hL.here nb) (hK.here nb) mT mL mK sKm).mono ?_;rintro e v2 ⟨rfl,hb2⟩;have b2:=below_two nb hb2;have M0:=L0.next hb2;have M1:=L1.next hb2;clear q0 q1 q2 q3 q4 q5 q6;obtain ⟨q0,q1,q2,q3,q4,q5,q6⟩:=Lay.c7 (b:=w.heap.size) M0;skip)|(go_at_call 48;have tk:=g1;refine (inQ_is hl1 _).mono ?_;rintro e w3 ⟨rfl,e3⟩;replace e3:=e3.symm;subst e3;have g2:=True.intro)|(go_at_call 48;refine (inQ_is hn _).mono ?_;rintro e w3 ⟨rfl,e3⟩;replace e3:=e3.symm;subst e3;have g1:=True.intro)|(go_at_call 50;refine (sLeaf_is cT hl2 (hT.here b3) mT).mono ?_;rintro e w3 ⟨rfl,e3⟩;replace e3:=e3.symm;subst e3)|(go_at_call 49;refine (specFind_any now nx id (hK.here b2) mKm).mono ?_;rintro e v3 ⟨rfl,hb3⟩;rw [hf];have b3:=below_two b2 hb3;have N0:=M0.next hb3;have N1:=M1.next hb3;clear q0 q1 q2 q3 q4 q5 q6;obtain ⟨q0,q1,q2,q3,q4,q5,q6⟩:=Lay.c7 (b:=w.heap.size) N0;skip)|(go_at_call 47;refine (l14No_code now nx cT cO cP cL cK (hT.here b3) (hO.here b3) (hP.here b3) (hL.here b3) (hK.here b3) nT nO nP mL sL mK sK 3 (by decide)).mono ?_;rintro e u1 ⟨bT,dT,bO,dO,bP,dP,bL,dL,bK,dK,rfl,eg,hb1⟩;have HEG:Hid (Eng u1 v3.heap.size u1.heap.size (.slice bT T.length dT) (.slice bO O.length dO) (.slice bP P.length dP) (.slice bL L.length dL) (.slice bK K.length dK) T O P L K):=eg;have LU:=N1.next hb1;obtain ⟨z0,z1,z2,z3,z4,z5,z6⟩:=Lay.c7 (b:=w.heap.size+1) LU;have fz:=LU.free))
 obtain ⟨u,hu',ou,U⟩:=st7 (b:=w.heap.size+1) LU (.int .i64 now) (.slice bT T.length dT) (.slice bO O.length dO) (.slice bP P.length dP) (.slice bL L.length dL) (.slice bK K.length dK) (.int .i64 nx)
 rw [hu']
 clear hu'
 have zu:=ou.size
 have bw:=below_two b3 hb1
 have zb:=b2.size
 have z2:=hb2.size
 have zbb:=b3.size
 have z3:=hb3.size
 refine bodyPost_ret (results_two rfl _ _ _ _ rfl U.cell Tryz.underlying31 rfl (by kernel_rfl)) rfl ?_
 exact ⟨bT,dT,bO,dO,bP,dP,bL,dL,bK,dK,rfl,engO HEG.out ou (by omega) (by omega) ou.size,bw.trans (ou.below (by omega) bw.size)⟩
theorem specOpn_place {w:World} (now nx:Int) {aT aO aP aL aK:Option Addr} (cT cO cP cL cK:Nat) {T O P:List Q4} {L:List F8} {K:List Kn} (id lf pl kd:Int) (hT:Quad w.heap.size w aT T) (hO:Quad w.heap.size w aO O) (hP:Quad w.heap.size w aP P) (hL:Fls w.heap.size w aL L) (hK:Kls w.heap.size w aK K) (mT:T.length≤1048576) (mL:L.length≤1048576) (sL:∀f ∈ L,f.2.2.length≤1048576) (mK:K.length≤1048576) (sK:∀c ∈ K,c.xs.length≤1048576) (h1:engB now nx T O P L K=true) (hf:fK K id = -1) (hn:inQ 0 id 1000000=true) (hl1:inQ 0 lf ((T.length:Int)-1)=true) (hl2:leafB T lf=true) (hpl:inQ 0 pl ((L.length:Int)-1)=false):Calls Tryz.prog 11 #[engV now aT T.length cT aO O.length cO aP P.length cP aL L.length cL aK K.length cK nx,.int .i64 id,.int .i64 lf,.int .i64 pl,.int .i64 kd] w (EgPost w now nx T O P L K (.int .i64 4)):=by
 have sKm:=szKn sK
 have mKm:=szMx mK
 obtain ⟨nT,nO,nP⟩:=eg_lens (eg_yes h1)
 have hli:(T.length:Int)≤1048576:=by omega
 have hLi:(L.length:Int)≤1048576:=by omega
 obtain ⟨v,hv,nb,L0,L1⟩:=preZ w 31 [.int .i64 now,.slice aT T.length cT,.slice aO O.length cO,.slice aP P.length cP,.slice aL L.length cL,.slice aK K.length cK,.int .i64 nx]
 have hw1:=L1.lt
 go_enter Tryz.func11,Tryz.ntmps11
 go_upto_region 1 with (fail)
 rw [←hv]
 clear hv
 obtain ⟨q0,q1,q2,q3,q4,q5,q6⟩:=Lay.c7 (b:=w.heap.size) L0
 go_wp2_with (first|(go_at_call 40;refine (specEngineOk_is cT cO cP cL cK h1 (hT.here nb) (hO.here nb) (hP.here nb) (hL.here nb) (hK.here nb) mT mL mK sKm).mono ?_;rintro e v2 ⟨rfl,hb2⟩;have b2:=below_two nb hb2;have M0:=L0.next hb2;have M1:=L1.next hb2;clear q0 q1 q2 q3 q4 q5 q6;obtain ⟨q0,q1,q2,q3,q4,q5,q6⟩:=Lay.c7 (b:=w.heap.size) M0;skip)|(go_at_call 48;have tk:=g2;refine (inQ_is hpl _).mono ?_;rintro e w3 ⟨rfl,e3⟩;replace e3:=e3.symm;subst e3)|(go_at_call 48;have tk:=g1;refine (inQ_is hl1 _).mono ?_;rintro e w3 ⟨rfl,e3⟩;replace e3:=e3.symm;subst e3;have g2:=True.intro)|(go_at_call 48;refine (inQ_is hn _).mono ?_;rintro e w3 ⟨rfl,e3⟩;replace e3:=e3.symm;subst e3;have g1:=True.intro)|(go_at_call 50;refine (sLeaf_is cT hl2 (hT.here b3) mT).mono ?_;rintro e w3 ⟨rfl,e3⟩;replace e3:=e3.symm;subst e3)|(go_at_call 49;refine (specFind_any now nx id (hK.here b2) mKm).mono ?_;rintro e v3 ⟨rfl,hb3⟩;rw [hf];have b3:=below_two b2 hb3;have N0:=M0.next hb3;have N1:=M1.next hb3;clear q0 q1 q2 q3 q4 q5 q6;obtain ⟨q0,q1,q2,q3,q4,q5,q6⟩:=Lay.c7 (b:=w.heap.size) N0;skip)|(go_at_call 47;refine (l14No_code now nx cT cO cP cL cK (hT.here b3) (hO.here b3) (hP.here b3) (hL.here b3) (hK.here b3) nT nO nP mL sL mK sK 4 (by decide)).mono ?_;rintro e u1 ⟨bT,dT,bO,dO,bP,dP,bL,dL,bK,dK,rfl,eg,hb1⟩;have HEG:Hid (Eng u1 v3.heap.size u1.heap.size (.slice bT T.length dT) (.slice bO O.length dO) (.slice bP P.length dP) (.slice bL L.length dL) (.slice bK K.length dK) T O P L K):=eg;have LU:=N1.next hb1;obtain ⟨z0,z1,z2,z3,z4,z5,z6⟩:=Lay.c7 (b:=w.heap.size+1) LU;have fz:=LU.free))
 obtain ⟨u,hu',ou,U⟩:=st7 (b:=w.heap.size+1) LU (.int .i64 now) (.slice bT T.length dT) (.slice bO O.length dO) (.slice bP P.length dP) (.slice bL L.length dL) (.slice bK K.length dK) (.int .i64 nx)
 rw [hu']
 clear hu'
 have zu:=ou.size
 have bw:=below_two b3 hb1
 have zb:=b2.size
 have z2:=hb2.size
 have zbb:=b3.size
 have z3:=hb3.size
 refine bodyPost_ret (results_two rfl _ _ _ _ rfl U.cell Tryz.underlying31 rfl (by kernel_rfl)) rfl ?_
 exact ⟨bT,dT,bO,dO,bP,dP,bL,dL,bK,dK,rfl,engO HEG.out ou (by omega) (by omega) ou.size,bw.trans (ou.below (by omega) bw.size)⟩
theorem specOpn_kind {w:World} (now nx:Int) {aT aO aP aL aK:Option Addr} (cT cO cP cL cK:Nat) {T O P:List Q4} {L:List F8} {K:List Kn} (id lf pl kd:Int) (hT:Quad w.heap.size w aT T) (hO:Quad w.heap.size w aO O) (hP:Quad w.heap.size w aP P) (hL:Fls w.heap.size w aL L) (hK:Kls w.heap.size w aK K) (mT:T.length≤1048576) (mL:L.length≤1048576) (sL:∀f ∈ L,f.2.2.length≤1048576) (mK:K.length≤1048576) (sK:∀c ∈ K,c.xs.length≤1048576) (h1:engB now nx T O P L K=true) (hf:fK K id = -1) (hn:inQ 0 id 1000000=true) (hl1:inQ 0 lf ((T.length:Int)-1)=true) (hl2:leafB T lf=true) (hpl:inQ 0 pl ((L.length:Int)-1)=true) (p:Nat) (hpe:pl=(p:Int)) (hp:p<L.length) (hk:conK kd=false):Calls Tryz.prog 11 #[engV now aT T.length cT aO O.length cO aP P.length cP aL L.length cL aK K.length cK nx,.int .i64 id,.int .i64 lf,.int .i64 pl,.int .i64 kd] w (EgPost w now nx T O P L K (.int .i64 5)):=by
 have sKm:=szKn sK
 have mKm:=szMx mK
 obtain ⟨nT,nO,nP⟩:=eg_lens (eg_yes h1)
 have hli:(T.length:Int)≤1048576:=by omega
 have hLi:(L.length:Int)≤1048576:=by omega
 have hm:=eg_mem40 (eg_yes h1) hp
 subst hpe
 have hp':(p:Int)<(L.length:Int):=by omega
 have hp0:(0:Int)≤(p:Int):=by omega
 obtain ⟨b,off,sa,sc,hal,hbl,d0,d1,d2,sm⟩:=hL p hp
 subst hal
 obtain ⟨m,hm'⟩:∃m,L[p].2.2.length=m:=⟨_,rfl⟩
 rw [hm'] at d2 hm
 have hm50:((m:Int) == 50)=false:=by rw [beq_eq_false_iff_ne];omega
 have hq:∀x,Below w.heap.size w x→x.cell? ⟨b,off+p*3+2,none⟩=some (.slice sa m sc):=fun x hx=>(hx.cell (by exact hbl)).trans d2
 clear d0 d1 d2 sm hm'
 obtain ⟨v,hv,nb,L0,L1⟩:=preZ w 31 [.int .i64 now,.slice aT T.length cT,.slice aO O.length cO,.slice aP P.length cP,.slice (some ⟨b,off,none⟩) L.length cL,.slice aK K.length cK,.int .i64 nx]
 have hw1:=L1.lt
 go_enter Tryz.func11,Tryz.ntmps11
 go_upto_region 1 with (fail)
 rw [←hv]
 clear hv
 obtain ⟨q0,q1,q2,q3,q4,q5,q6⟩:=Lay.c7 (b:=w.heap.size) L0
 go_wp2_with (first|(go_at_call 40;refine (specEngineOk_is cT cO cP cL cK h1 (hT.here nb) (hO.here nb) (hP.here nb) (hL.here nb) (hK.here nb) mT mL mK sKm).mono ?_;rintro e v2 ⟨rfl,hb2⟩;have b2:=below_two nb hb2;have M0:=L0.next hb2;have M1:=L1.next hb2;clear q0 q1 q2 q3 q4 q5 q6;obtain ⟨q0,q1,q2,q3,q4,q5,q6⟩:=Lay.c7 (b:=w.heap.size) M0;skip)|(go_at_call 48;have tk:=g2;refine (inQ_is hpl _).mono ?_;rintro e w3 ⟨rfl,e3⟩;replace e3:=e3.symm;subst e3)|(go_at_call 48;have tk:=g1;refine (inQ_is hl1 _).mono ?_;rintro e w3 ⟨rfl,e3⟩;replace e3:=e3.symm;subst e3;have g2:=True.intro)|(go_at_call 48;refine (inQ_is hn _).mono ?_;rintro e w3 ⟨rfl,e3⟩;replace e3:=e3.symm;subst e3;have g1:=True.intro)|(go_at_call 50;refine (sLeaf_is cT hl2 (hT.here b3) mT).mono ?_;rintro e w3 ⟨rfl,e3⟩;replace e3:=e3.symm;subst e3)|(go_at_call 51;refine (sConK_is hk _).mono ?_;rintro e w3 ⟨rfl,e3⟩;replace e3:=e3.symm;subst e3)|(go_at_call 49;refine (specFind_any now nx id (hK.here b2) mKm).mono ?_;rintro e v3 ⟨rfl,hb3⟩;rw [hf];have b3:=below_two b2 hb3;have N0:=M0.next hb3;have N1:=M1.next hb3;clear q0 q1 q2 q3 q4 q5 q6;obtain ⟨q0,q1,q2,q3,q4,q5,q6⟩:=Lay.c7 (b:=w.heap.size) N0;have c2:=hq v3 b3)|(go_at_call 47;refine (l14No_code now nx cT cO cP cL cK (hT.here b3) (hO.here b3) (hP.here b3) (hL.here b3) (hK.here b3) nT nO nP mL sL mK sK 5 (by decide)).mono ?_;rintro e u1 ⟨bT,dT,bO,dO,bP,dP,bL,dL,bK,dK,rfl,eg,hb1⟩;have HEG:Hid (Eng u1 v3.heap.size u1.heap.size (.slice bT T.length dT) (.slice bO O.length dO) (.slice bP P.length dP) (.slice bL L.length dL) (.slice bK K.length dK) T O P L K):=eg;have LU:=N1.next hb1;obtain ⟨z0,z1,z2,z3,z4,z5,z6⟩:=Lay.c7 (b:=w.heap.size+1) LU;have fz:=LU.free))
 obtain ⟨u,hu',ou,U⟩:=st7 (b:=w.heap.size+1) LU (.int .i64 now) (.slice bT T.length dT) (.slice bO O.length dO) (.slice bP P.length dP) (.slice bL L.length dL) (.slice bK K.length dK) (.int .i64 nx)
 rw [hu']
 clear hu'
 have zu:=ou.size
 have bw:=below_two b3 hb1
 have zb:=b2.size
 have z2:=hb2.size
 have zbb:=b3.size
 have z3:=hb3.size
 refine bodyPost_ret (results_two rfl _ _ _ _ rfl U.cell Tryz.underlying31 rfl (by kernel_rfl)) rfl ?_
 exact ⟨bT,dT,bO,dO,bP,dP,bL,dL,bK,dK,rfl,engO HEG.out ou (by omega) (by omega) ou.size,bw.trans (ou.below (by omega) bw.size)⟩
theorem specOpn_full {w:World} (now nx:Int) {aT aO aP aL aK:Option Addr} (cT cO cP cL cK:Nat) {T O P:List Q4} {L:List F8} {K:List Kn} (id lf pl kd:Int) (hT:Quad w.heap.size w aT T) (hO:Quad w.heap.size w aO O) (hP:Quad w.heap.size w aP P) (hL:Fls w.heap.size w aL L) (hK:Kls w.heap.size w aK K) (mT:T.length≤1048576) (mL:L.length≤1048576) (sL:∀f ∈ L,f.2.2.length≤1048576) (mK:K.length≤1048576) (sK:∀c ∈ K,c.xs.length≤1048576) (h1:engB now nx T O P L K=true) (hf:fK K id = -1) (hn:inQ 0 id 1000000=true) (hl1:inQ 0 lf ((T.length:Int)-1)=true) (hl2:leafB T lf=true) (hpl:inQ 0 pl ((L.length:Int)-1)=true) (p:Nat) (hpe:pl=(p:Int)) (hp:p<L.length) (hk:conK kd=true) (h40:K.length=40):Calls Tryz.prog 11 #[engV now aT T.length cT aO O.length cO aP P.length cP aL L.length cL aK K.length cK nx,.int .i64 id,.int .i64 lf,.int .i64 pl,.int .i64 kd] w (EgPost w now nx T O P L K (.int .i64 6)):=by
 have sKm:=szKn sK
 have mKm:=szMx mK
 obtain ⟨nT,nO,nP⟩:=eg_lens (eg_yes h1)
 have hli:(T.length:Int)≤1048576:=by omega
 have hLi:(L.length:Int)≤1048576:=by omega
 have hm:=eg_mem40 (eg_yes h1) hp
 subst hpe
 have hp':(p:Int)<(L.length:Int):=by omega
 have hp0:(0:Int)≤(p:Int):=by omega
 obtain ⟨b,off,sa,sc,hal,hbl,d0,d1,d2,sm⟩:=hL p hp
 subst hal
 obtain ⟨m,hm'⟩:∃m,L[p].2.2.length=m:=⟨_,rfl⟩
 rw [hm'] at d2 hm
 have hm50:((m:Int) == 50)=false:=by rw [beq_eq_false_iff_ne];omega
 have hq:∀x,Below w.heap.size w x→x.cell? ⟨b,off+p*3+2,none⟩=some (.slice sa m sc):=fun x hx=>(hx.cell (by exact hbl)).trans d2
 clear d0 d1 d2 sm hm'
 have e40:((K.length:Int) == 40)=true:=by rw [beq_iff_eq];omega
 clear h40
 obtain ⟨v,hv,nb,L0,L1⟩:=preZ w 31 [.int .i64 now,.slice aT T.length cT,.slice aO O.length cO,.slice aP P.length cP,.slice (some ⟨b,off,none⟩) L.length cL,.slice aK K.length cK,.int .i64 nx]
 have hw1:=L1.lt
 go_enter Tryz.func11,Tryz.ntmps11
 go_upto_region 1 with (fail)
 rw [←hv]
 clear hv
 obtain ⟨q0,q1,q2,q3,q4,q5,q6⟩:=Lay.c7 (b:=w.heap.size) L0
 go_wp2_with (first|(go_at_call 40;refine (specEngineOk_is cT cO cP cL cK h1 (hT.here nb) (hO.here nb) (hP.here nb) (hL.here nb) (hK.here nb) mT mL mK sKm).mono ?_;rintro e v2 ⟨rfl,hb2⟩;have b2:=below_two nb hb2;have M0:=L0.next hb2;have M1:=L1.next hb2;clear q0 q1 q2 q3 q4 q5 q6;obtain ⟨q0,q1,q2,q3,q4,q5,q6⟩:=Lay.c7 (b:=w.heap.size) M0;skip)|(go_at_call 48;have tk:=g2;refine (inQ_is hpl _).mono ?_;rintro e w3 ⟨rfl,e3⟩;replace e3:=e3.symm;subst e3)|(go_at_call 48;have tk:=g1;refine (inQ_is hl1 _).mono ?_;rintro e w3 ⟨rfl,e3⟩;replace e3:=e3.symm;subst e3;have g2:=True.intro)|(go_at_call 48;refine (inQ_is hn _).mono ?_;rintro e w3 ⟨rfl,e3⟩;replace e3:=e3.symm;subst e3;have g1:=True.intro)|(go_at_call 50;refine (sLeaf_is cT hl2 (hT.here b3) mT).mono ?_;rintro e w3 ⟨rfl,e3⟩;replace e3:=e3.symm;subst e3)|(go_at_call 51;refine (sConK_is hk _).mono ?_;rintro e w3 ⟨rfl,e3⟩;replace e3:=e3.symm;subst e3)|(go_at_call 49;refine (specFind_any now nx id (hK.here b2) mKm).mono ?_;rintro e v3 ⟨rfl,hb3⟩;rw [hf];have b3:=below_two b2 hb3;have N0:=M0.next hb3;have N1:=M1.next hb3;clear q0 q1 q2 q3 q4 q5 q6;obtain ⟨q0,q1,q2,q3,q4,q5,q6⟩:=Lay.c7 (b:=w.heap.size) N0;have c2:=hq v3 b3)|(go_at_call 47;refine (l14No_code now nx cT cO cP cL cK (hT.here b3) (hO.here b3) (hP.here b3) (hL.here b3) (hK.here b3) nT nO nP mL sL mK sK 6 (by decide)).mono ?_;rintro e u1 ⟨bT,dT,bO,dO,bP,dP,bL,dL,bK,dK,rfl,eg,hb1⟩;have HEG:Hid (Eng u1 v3.heap.size u1.heap.size (.slice bT T.length dT) (.slice bO O.length dO) (.slice bP P.length dP) (.slice bL L.length dL) (.slice bK K.length dK) T O P L K):=eg;have LU:=N1.next hb1;obtain ⟨z0,z1,z2,z3,z4,z5,z6⟩:=Lay.c7 (b:=w.heap.size+1) LU;have fz:=LU.free))
 obtain ⟨u,hu',ou,U⟩:=st7 (b:=w.heap.size+1) LU (.int .i64 now) (.slice bT T.length dT) (.slice bO O.length dO) (.slice bP P.length dP) (.slice bL L.length dL) (.slice bK K.length dK) (.int .i64 nx)
 rw [hu']
 clear hu'
 have zu:=ou.size
 have bw:=below_two b3 hb1
 have zb:=b2.size
 have z2:=hb2.size
 have zbb:=b3.size
 have z3:=hb3.size
 refine bodyPost_ret (results_two rfl _ _ _ _ rfl U.cell Tryz.underlying31 rfl (by kernel_rfl)) rfl ?_
 exact ⟨bT,dT,bO,dO,bP,dP,bL,dL,bK,dK,rfl,engO HEG.out ou (by omega) (by omega) ou.size,bw.trans (ou.below (by omega) bw.size)⟩
theorem specOpn_go {w:World} (now nx:Int) {aT aO aP aL aK:Option Addr} (cT cO cP cL cK:Nat) {T O P:List Q4} {L:List F8} {K:List Kn} (id lf pl kd:Int) (hT:Quad w.heap.size w aT T) (hO:Quad w.heap.size w aO O) (hP:Quad w.heap.size w aP P) (hL:Fls w.heap.size w aL L) (hK:Kls w.heap.size w aK K) (mT:T.length≤1048576) (mL:L.length≤1048576) (sL:∀f ∈ L,f.2.2.length≤1048576) (mK:K.length≤1048576) (sK:∀c ∈ K,c.xs.length≤1048576) (h1:engB now nx T O P L K=true) (hf:fK K id = -1) (hn:inQ 0 id 1000000=true) (hl1:inQ 0 lf ((T.length:Int)-1)=true) (hl2:leafB T lf=true) (hpl:inQ 0 pl ((L.length:Int)-1)=true) (p:Nat) (hpe:pl=(p:Int)) (hp:p<L.length) (hk:conK kd=true) (h40:K.length<40) (i:Nat) (hpos:PosK K id i):Calls Tryz.prog 11 #[engV now aT T.length cT aO O.length cO aP P.length cP aL L.length cL aK K.length cK nx,.int .i64 id,.int .i64 lf,.int .i64 pl,.int .i64 kd] w (EgPost w now nx T O P (L.set p (opnP L p id)) (insAt K i (opnK id lf pl kd)) (.int .i64 0)):=by
 have sKm:=szKn sK
 have mKm:=szMx mK
 obtain ⟨nT,nO,nP⟩:=eg_lens (eg_yes h1)
 have hli:(T.length:Int)≤1048576:=by omega
 have hLi:(L.length:Int)≤1048576:=by omega
 have l0:=(eg_yes h1).l0
 obtain ⟨i2,hi2,hq0,hq1,hq2⟩:=info_parts info_connI
 have e40:((K.length:Int) == 40)=false:=by rw [beq_eq_false_iff_ne];omega
 have hm:=eg_mem40 (eg_yes h1) hp
 subst hpe
 have hp':(p:Int)<(L.length:Int):=by omega
 have hp0:(0:Int)≤(p:Int):=by omega
 obtain ⟨b,off,sa,sc,hal,hbl,d0,d1,d2,sm⟩:=hL p hp
 subst hal
 obtain ⟨m,hm'⟩:∃m,L[p].2.2.length=m:=⟨_,rfl⟩
 rw [hm'] at d2 hm
 have hm50:((m:Int) == 50)=false:=by rw [beq_eq_false_iff_ne];omega
 have hq:∀x,Below w.heap.size w x→x.cell? ⟨b,off+p*3+2,none⟩=some (.slice sa m sc):=fun x hx=>(hx.cell (by exact hbl)).trans d2
 clear d0 d1 d2 sm hm'
 have hpb:=((eg_yes h1).pl p hp).1
 have hhas:=eg_hasN (eg_yes h1) hp hf
 have h50:L[p].2.2.length<50:=by have:=eg_mem40 (eg_yes h1) hp;omega
 rw [opnP_at hp id]
 have HPB:Hid (plB L[p].1 L[p].2.1 L[p].2.2=true):=hpb
 have HHS:Hid (hasI id L[p].2.2=false):=hhas
 have H5:Hid (L[p].2.2.length<50):=h50
 have HPOS:Hid (PosK K id i):=hpos
 have hp':(p:Int)<(L.length:Int):=by omega
 have hp0:(0:Int)≤(p:Int):=by omega
 have hik:=hpos.le
 have hkk:kindB kd=true:=kind_con hk
 clear hpb hhas hpos h50
 obtain ⟨v,hv,nb,L0,L1⟩:=preZ w 31 [.int .i64 now,.slice aT T.length cT,.slice aO O.length cO,.slice aP P.length cP,.slice (some ⟨b,off,none⟩) L.length cL,.slice aK K.length cK,.int .i64 nx]
 have hw1:=L1.lt
 go_enter Tryz.func11,Tryz.ntmps11
 go_upto_region 1 with (fail)
 rw [←hv]
 clear hv
 obtain ⟨q0,q1,q2,q3,q4,q5,q6⟩:=Lay.c7 (b:=w.heap.size) L0
 go_upto_region 14 with (first|(go_at_call 40;refine (specEngineOk_is cT cO cP cL cK h1 (hT.here nb) (hO.here nb) (hP.here nb) (hL.here nb) (hK.here nb) mT mL mK sKm).mono ?_;rintro e v2 ⟨rfl,hb2⟩;have b2:=below_two nb hb2;have M0:=L0.next hb2;have M1:=L1.next hb2;clear q0 q1 q2 q3 q4 q5 q6;obtain ⟨q0,q1,q2,q3,q4,q5,q6⟩:=Lay.c7 (b:=w.heap.size) M0;skip)|(go_at_call 48;have tk:=g2;refine (inQ_is hpl _).mono ?_;rintro e w3 ⟨rfl,e3⟩;replace e3:=e3.symm;subst e3)|(go_at_call 48;have tk:=g1;refine (inQ_is hl1 _).mono ?_;rintro e w3 ⟨rfl,e3⟩;replace e3:=e3.symm;subst e3;have g2:=True.intro)|(go_at_call 48;refine (inQ_is hn _).mono ?_;rintro e w3 ⟨rfl,e3⟩;replace e3:=e3.symm;subst e3;have g1:=True.intro)|(go_at_call 50;refine (sLeaf_is cT hl2 (hT.here b3) mT).mono ?_;rintro e w3 ⟨rfl,e3⟩;replace e3:=e3.symm;subst e3)|(go_at_call 51;refine (sConK_is hk _).mono ?_;rintro e w3 ⟨rfl,e3⟩;replace e3:=e3.symm;subst e3)|(go_at_call 49;refine (specFind_any now nx id (hK.here b2) mKm).mono ?_;rintro e v3 ⟨rfl,hb3⟩;rw [hf];have b3:=below_two b2 hb3;have N0:=M0.next hb3;have N1:=M1.next hb3;clear q0 q1 q2 q3 q4 q5 q6;obtain ⟨q0,q1,q2,q3,q4,q5,q6⟩:=Lay.c7 (b:=w.heap.size) N0;have c2:=hq v3 b3)|(go_at_call 52;refine (l14Copy_any now nx cT cO cP cL cK (hT.here b3) (hO.here b3) (hP.here b3) (hL.here b3) (hK.here b3) nT nO nP mL sL mK sK).mono ?_;rintro e u1 ⟨bT,dT,bO,dO,bP,dP,bL,dL,bK,dK,GK,lh,ph,rfl,lv,lb,tv,ck,hz,hb1⟩))
 obtain ⟨gl,hbL⟩:∃gl,bL=some ⟨gl,0,none⟩:=by
  rcases tv with ⟨g,cap,vs,e,_⟩|⟨e,_⟩
  ·injection e with e1
   exact ⟨g,e1⟩
  ·rw [e] at l0
   simp at l0
 subst hbL
 have hglb:lh≤gl∧gl<ph:=by
  rcases tv with ⟨g,cap,vs,e,_,f⟩|⟨e,_⟩
  ·injection e with e1
   injection e1 with e1
   injection e1 with e1
   subst e1
   exact ⟨f.g0,f.g1⟩
  ·rw [e] at l0
   simp at l0
 have hgl1:=hglb.1
 have hgl2:=hglb.2
 obtain ⟨x,hx,LX,bx⟩:=new1 u1 31 [.int .i64 now,.slice bT T.length dT,.slice bO O.length dO,.slice bP P.length dP,.slice (some ⟨gl,0,none⟩) L.length dL,.slice bK K.length dK,.int .i64 nx]
 rw [←hx]
 clear hx q0 q1 q2 q3 q4 q5 q6
 have X1:=(N1.next hb1).next bx
 obtain ⟨j0,j1,j2,j3,j4,j5,j6⟩:=LX.c7
 have z1:=hb1.size
 have zx:=bx.size
 have zb:=b3.size
 have z3:=hb3.size
 have hlx:=LX.lt
 have hn1:=N1.lt
 have hzA:=hz.1
 have hzB:=hz.2.1
 have hzC:=hz.2.2
 go_upto_region 15 with (first|(go_at_call 53;refine (specNewCc_yes _ hkk).mono ?_;rintro e x4 ⟨rfl,hbn⟩;have L4:=LX.next hbn;have X4:=X1.next hbn;clear j0 j1 j2 j3 j4 j5 j6;obtain ⟨j0,j1,j2,j3,j4,j5,j6⟩:=Lay.c7 (b:=u1.heap.size) L4))
 obtain ⟨y0,hy0,LC,by0⟩:=new1 x4 44 [.int .i64 kd,.int .i64 15000,.int .i64 1000000000,.int .i64 0,.int .i64 0,.int .i64 0,.int .i64 0,.int .i64 0,.int .i64 0,.bool true]
 rw [←hy0]
 clear hy0 j0 j1 j2 j3 j4 j5 j6
 obtain ⟨g0,g1',g2',g3,g4,g5,g6,g7,g8,g9⟩:=LC.c10
 have L5:=L4.next by0
 have X5:=X4.next by0
 go_upto_region 16 with (fail)
 obtain ⟨y1,hy1,LK,by1⟩:=new1 y0 47 [.int .i64 id,.int .i64 lf,.int .i64 (p:Int),.int .i64 kd,.int .i64 15000,.int .i64 1000000000,.int .i64 0,.int .i64 0,.int .i64 0,.int .i64 0,.int .i64 0,.int .i64 0,.bool true,.slice none 0 0]
 rw [←hy1]
 clear hy1 g0 g1' g2' g3 g4 g5 g6 g7 g8 g9
 have L6:=L5.next by1
 have X6:=X5.next by1
 have bu:Below u1.heap.size u1 y1:=below_two (below_two (below_two bx hbn) by0) by1
 have zbn:=hbn.size
 have zy0:=by0.size
 have zy1:=by1.size
 have zbu:=bu.size
 have hlk:=LK.lt
 have HCK1:Hid (CpK u1 ph (.slice bK K.length dK) GK K):=ck
 have HSEPK:Hid (∀q,(Value.slice bK K.length dK).ownBlock=some q→ph≤q∧q<u1.heap.size):=fun q hq=>ck.row.lt q hq
 have CY:Hid (CpK y1 ph (.slice bK K.length dK) GK K):=ck.next bu
 go_upto_region 17 with (fail)
 obtain ⟨y2,hy2⟩:∃y,y=y1.alloc (.cells #[] 47):=⟨_,rfl⟩
 rw [←hy2]
 have R2:Hid (y2.ownsRow y1.heap.size 47 14 (.slice (some ⟨y1.heap.size,0,none⟩) 0 0) 0 (flatK (GK.take 0))):=by show World.ownsRow ..;rw [hy2];exact ⟨rfl,.inr ⟨y1.heap.size,0,#[],rfl,Nat.le_refl _,heap_alloc_new _ _,Nat.le_refl _,by unfold maxLen;omega,rfl,rfl⟩⟩
 have by2:Below y1.heap.size y1 y2:=by rw [hy2];exact new_below _ _
 clear hy2
 have HHF:Hid (fK K id = -1):=hf
 clear hf
 go_wp2
 go_loopw [16,17] (fun s t wr=>∃(a:Option Addr) (j c:Nat),s=.slice a j c∧t=.int .i64 (j:Int)∧j≤i∧Hid (wr.ownsRow y1.heap.size 47 14 (.slice a j c) j (flatK (GK.take j)))∧Below y1.heap.size y1 wr) (fun _ t _=>i-(intOf t).toNat)
 case atStart=>exact ⟨_,0,0,rfl,rfl,Nat.zero_le _,R2,by2⟩
 case round =>
  clear R2 by2
  obtain ⟨a,j,c,rfl,rfl,hj,HO,hbw⟩:=hrel
  have LW:=L6.next hbw
  obtain ⟨j0,j1,j2,j3,j4,j5,j6⟩:=LW.c7
  have hij:(j:Int)≤(i:Int):=by omega
  have hik':(i:Int)≤(K.length:Int):=by omega
  have hj0:(0:Int)≤(j:Int):=by omega
  go_upto_region 18 with (fail)
  go_cut [127] from 113 to 127 (fun s wd=>∃f:Bool,s=.bool f∧(f=true ↔ j<i)∧wd=wr)
  case first =>
   by_cases hjk:j<K.length
   ·have hjk':decide ((j:Int)<(K.length:Int))=true:=decide_eq_true (by omega)
    have hjk2:(j:Int)<(K.length:Int):=by omega
    obtain ⟨gk,hbK⟩:∃gk,bK=some ⟨gk,0,none⟩:=by
     rcases CY.out.row.2 with ⟨e,e2⟩|⟨gk,capk,cur,e,_⟩
     ·omega
     ·injection e with e1
      exact ⟨gk,e1⟩
    subst hbK
    have hiG:j<GK.length:=by rw [CY.out.len];exact hjk
    have cid:wr.cell? ⟨gk,j*14,none⟩=some (.int .i64 K[j].id):=by
     have q:=(CY.out.next hbw).row.cellAt (j*14) (by omega)
     rw [q]
     have r:=flatK_get GK j hiG 0 (by omega)
     rw [Nat.add_zero] at r
     rw [r]
     show some (Value.int .i64 GK[j].1.id)=_
     have:(GK.map Prod.fst)[j]?=K[j]?:=by rw [CY.out.fst]
     rw [List.getElem?_map,List.getElem?_eq_getElem hiG,List.getElem?_eq_getElem hjk] at this
     rw [Option.some.inj this]
    by_cases hji:j<i
    ·have hd:decide (K[j].id<id)=true:=decide_eq_true (HPOS.out.lo j hjk hji)
     clear HPOS
     go_wp2
     go_meet
     exact ⟨true,rfl,⟨fun _=>hji,fun _=>rfl⟩,rfl⟩
    ·have hd:decide (K[j].id<id)=false:=decide_eq_false (by have:=HPOS.out.hi j hjk (by omega);omega)
     clear HPOS
     go_wp2
     go_meet
     exact ⟨false,rfl,⟨fun e=>(by cases e),fun e=>absurd e hji⟩,rfl⟩
   ·have hjk':decide ((j:Int)<(K.length:Int))=false:=decide_eq_false (by omega)
    go_wp2
    go_meet
    exact ⟨false,rfl,⟨fun e=>(by cases e),fun e=>(by omega)⟩,rfl⟩
  case rest =>
  obtain ⟨f,rfl,hf,e⟩:=hcut
  replace e:=e.symm
  subst e
  cases f
  rotate_left 1
  ·have hji:j<i:=hf.1 rfl
   have hjk:j<K.length:=by omega
   have hjk2:(j:Int)<(K.length:Int):=by omega
   obtain ⟨gk,hbK⟩:∃gk,bK=some ⟨gk,0,none⟩:=by
    rcases CY.out.row.2 with ⟨e,e2⟩|⟨gk,capk,cur,e,_⟩
    ·omega
    ·injection e with e1
     exact ⟨gk,e1⟩
   subst hbK
   have hiG:j<GK.length:=by rw [CY.out.len];exact hjk
   obtain ⟨cj,hcj⟩:∃q,GK[j].1=q:=⟨_,rfl⟩
   obtain ⟨m,hm⟩:∃m,cj.xs.length=m:=⟨_,rfl⟩
   obtain ⟨sv,cv,hsv⟩:=own_slice (CY.out.ints j hiG)
   rw [hcj,hm] at hsv
   have hG:GK[j]=(cj,.slice sv m cv):=Prod.ext hcj hsv
   have dd:∀k u,(cs14 (cj,.slice sv m cv))[k]?=some u→wr.cell? ⟨gk,j*14+k,none⟩=some u:=fun k u hu=>by
    have hk:=(List.getElem?_eq_some_iff.1 hu).1
    rw [cs14_length] at hk
    refine ((CY.out.next hbw).row.cellAt _ (by omega)).trans ((flatK_get GK j hiG k hk).trans ?_)
    rw [hG]
    exact hu
   have d0:wr.cell? ⟨gk,j*14,none⟩=some (.int .i64 cj.id):=dd 0 _ rfl
   have d1:wr.cell? ⟨gk,j*14+1,none⟩=some (.int .i64 cj.lf):=dd 1 _ rfl
   have d2:wr.cell? ⟨gk,j*14+2,none⟩=some (.int .i64 cj.pl):=dd 2 _ rfl
   have d3:wr.cell? ⟨gk,j*14+3,none⟩=some (.int .i64 cj.k):=dd 3 _ rfl
   have d4:wr.cell? ⟨gk,j*14+4,none⟩=some (.int .i64 cj.wn):=dd 4 _ rfl
   have d5:wr.cell? ⟨gk,j*14+5,none⟩=some (.int .i64 cj.th):=dd 5 _ rfl
   have d6:wr.cell? ⟨gk,j*14+6,none⟩=some (.int .i64 cj.fl):=dd 6 _ rfl
   have d7:wr.cell? ⟨gk,j*14+7,none⟩=some (.int .i64 cj.ac):=dd 7 _ rfl
   have d8:wr.cell? ⟨gk,j*14+8,none⟩=some (.int .i64 cj.la):=dd 8 _ rfl
   have d9:wr.cell? ⟨gk,j*14+9,none⟩=some (.int .i64 cj.og):=dd 9 _ rfl
   have d10:wr.cell? ⟨gk,j*14+10,none⟩=some (.int .i64 cj.st):=dd 10 _ rfl
   have d11:wr.cell? ⟨gk,j*14+11,none⟩=some (.int .i64 cj.fr):=dd 11 _ rfl
   have d12:wr.cell? ⟨gk,j*14+12,none⟩=some (.bool cj.sl):=dd 12 _ rfl
   have d13:wr.cell? ⟨gk,j*14+13,none⟩=some (.slice sv m cv):=dd 13 _ rfl
   have HJ1:Hid (∀u ∈ cs14 (cj,Value.slice sv m cv),u.oneCell'=true):=hG ▸ one_atG CY.out hiG
   have HNX:Hid (flatK (GK.take j) ++ cs14 (cj,Value.slice sv m cv)=flatK (GK.take (j+1))):=by
    show _=_
    have e2:flatK [(cj,Value.slice sv m cv)]=cs14 (cj,Value.slice sv m cv):=by simp [flatK]
    rw [List.take_succ_eq_append_getElem hiG,flatK_append,hG,e2]
   clear dd hcj hsv hG hm hf
   go_wp2_with (first|(at_builtin;refine wpList_append_own _ rfl _ _ 29 rfl y1.heap.size 47 i2 _ 14 128 Tryz.underlying29 hi2 hq0 hq1 hq2 rfl (by decide) _ _ _ rfl (HO.out.alloc _) ⟨wr.heap.size,0,none⟩ 1 1 (cs14 (cj,.slice sv m cv)) rfl rfl (fun q u hu=>by rw [addr_add,Nat.zero_add,World.cell?_alloc_at _ _ _ _ rfl,←Array.getElem?_toList];exact hu) HJ1.out (by unfold maxLen;omega) (by omega) (by have:=hbw.size;simp;omega) ?_;intro v1 w1 hown hgr hnil;obtain ⟨a1,c1,rfl⟩:=own_slice hown))
   go_roundw
   case rel=>exact ⟨_,j+1,_,rfl,by go_num,by omega,(by rw [←HNX.out];exact hown),(hbw.trans ((new_below _ _).mono hbw.size)).grown hgr (by have:=hbw.size;simp;omega) (fun k hk=>(HO.out.lt k hk).1)⟩
   case measure=>simp [intOf];omega
  have hji:i=j:=by
   have:¬j<i:=fun h=>by have:=hf.2 h;cases this
   omega
  subst hji
  clear hf hj hij
  go_upto_region 21 with (fail)
  have av0:=rest_src CY.out hik
  obtain ⟨av,hav⟩:∃av,(if dK=i then bK else bK.map (·.add (i*14)))=av:=⟨_,rfl⟩
  rw [hav] at av0
  have HSRC:Hid (∀u,Below y1.heap.size y1 u→SrcK u av (K.length-i) (dK-i) (flatK (GK.drop i))):=fun u hu=>av0.next hu
  have HSB:Hid (∀w,(Instr.sliceAt 29 (.slice bK K.length dK) (some (.int .i64 (i:Int))) none none).run Tryz.prog w=.ok (.slice av (K.length-i) (dK-i)) w):=fun w=>by
   have q:=sliceK_from (a:=bK) (n:=K.length) (cap:=dK) (k:=i) hik w
   rw [hav] at q
   exact q
  have hGl:=CY.out.len
  have HL2:Hid ((flatK (GK.drop i)).length=(K.length-i)*14):=by show (flatK (GK.drop i)).length=_;rw [flatK_length,List.length_drop,hGl]
  have HO2:Hid (∀u ∈ flatK (GK.drop i),u.oneCell'=true):=flatK_sub (fun x hx=>List.mem_of_mem_drop hx) (rows_one CY.out)
  have HS9:Hid (∀u,Below y1.heap.size y1 u→u.cell? ⟨u1.heap.size,5,none⟩=some (.slice bK K.length dK)∧u.cell? ⟨y0.heap.size,0,none⟩=some (.int .i64 id)∧u.cell? ⟨y0.heap.size,1,none⟩=some (.int .i64 lf)∧u.cell? ⟨y0.heap.size,2,none⟩=some (.int .i64 (p:Int))∧u.cell? ⟨y0.heap.size,3,none⟩=some (.int .i64 kd)∧u.cell? ⟨y0.heap.size,4,none⟩=some (.int .i64 15000)∧u.cell? ⟨y0.heap.size,5,none⟩=some (.int .i64 1000000000)∧u.cell? ⟨y0.heap.size,6,none⟩=some (.int .i64 0)∧u.cell? ⟨y0.heap.size,7,none⟩=some (.int .i64 0)∧u.cell? ⟨y0.heap.size,8,none⟩=some (.int .i64 0)∧u.cell? ⟨y0.heap.size,9,none⟩=some (.int .i64 0)∧u.cell? ⟨y0.heap.size,10,none⟩=some (.int .i64 0)∧u.cell? ⟨y0.heap.size,11,none⟩=some (.int .i64 0)∧u.cell? ⟨y0.heap.size,12,none⟩=some (.bool true)∧u.cell? ⟨y0.heap.size,13,none⟩=some (.slice none 0 0)):=fun u hu=>⟨(L6.next hu).cell 5 _ rfl,⟨(LK.next hu).cell 0 _ rfl,(LK.next hu).cell 1 _ rfl,(LK.next hu).cell 2 _ rfl,(LK.next hu).cell 3 _ rfl,(LK.next hu).cell 4 _ rfl,(LK.next hu).cell 5 _ rfl,(LK.next hu).cell 6 _ rfl,(LK.next hu).cell 7 _ rfl,(LK.next hu).cell 8 _ rfl,(LK.next hu).cell 9 _ rfl,(LK.next hu).cell 10 _ rfl,(LK.next hu).cell 11 _ rfl,(LK.next hu).cell 12 _ rfl,(LK.next hu).cell 13 _ rfl⟩⟩
  clear av0 hav j0 j1 j2 j3 j4 j5 j6 LW
  refine lateQ1 11 HS9 hbw.drew fun hS=>?_
  refine lateR 0 rfl ?_
  refine lateR 1 rfl ?_
  refine lateR 4 rfl ?_
  refine lateR 5 rfl ?_
  refine lateR 6 rfl ?_
  refine lateR 7 rfl ?_
  refine lateV 8 (v:=.slice av (K.length-i) (dK-i)) rfl ?_ ?_
  ·(intro w' hSw;(try dsimp only at hSw);have h:=HSB.out w';simp [execOp,Act.eval,h,Result.andThen])
  try simp only [nrm]
  refine late_one (i:=2) (by kernel_rfl) rfl (fun Kr hKr=>?_)
  go_simp
  refine hKr.out _ _ (HS9.out _ ((hbw.drew).trans ((Below.refl _ wr.drew).alloc hbw.size _))) (fun hS=>?_)
  try simp only [nrm]
  refine late_one (i:=3) (by kernel_rfl) rfl (fun Kr hKr=>?_)
  rw [if_pos (by rfl)]
  have bA':Below wr.heap.size wr ((wr.alloc (.cells #[.int .i64 id,.int .i64 lf,.int .i64 (p:Int),.int .i64 kd,.int .i64 15000,.int .i64 1000000000,.int .i64 0,.int .i64 0,.int .i64 0,.int .i64 0,.int .i64 0,.int .i64 0,.bool true,.slice none 0 0] 47)).drew):=((Below.refl _ wr).alloc (Nat.le_refl _) _).drew
  refine wp_append_own _ _ _ 29 rfl y1.heap.size 47 i2 _ 14 128 Tryz.underlying29 hi2 hq0 hq1 hq2 rfl (by decide) _ _ _ rfl (row_next HO.out bA') ⟨wr.heap.size,0,none⟩ 1 1 (cs14 (opnK id lf (p:Int) kd,Value.slice none 0 0)) rfl rfl (fun q u hu=>by rw [addr_add,Nat.zero_add];refine (World.cell?_alloc_at (w:=wr) _ _ _ _ rfl).trans ?_;rw [←Array.getElem?_toList];exact hu) (ins_one _) (by unfold maxLen;omega) (by omega) (by have:=hbw.size;have:=bA'.size;omega) ?_
  intro v1 w1 hown1 hgr1 hnil1
  have hv0:∀k,(Value.slice a i c).ownBlock=some k→y1.heap.size≤k:=fun k hk=>(HO.out.lt k hk).1
  have bB:Below y1.heap.size y1 w1:=(hbw.trans (bA'.mono hbw.size)).grown hgr1 (by have:=hbw.size;have:=bA'.size;omega) hv0
  refine hKr.out _ _ (HS9.out _ bB) (fun hS=>?_)
  try simp only [nrm]
  refine late_one (i:=9) (by kernel_rfl) rfl (fun Kr hKr=>?_)
  rw [if_pos (by rfl)]
  refine wp_append_srcK _ _ _ 29 rfl y1.heap.size 47 i2 _ 14 128 Tryz.underlying29 hi2 hq0 hq1 hq2 rfl (by decide) _ _ _ rfl hown1 av (K.length-i) (dK-i) (flatK (GK.drop i)) rfl (HSRC.out _ bB) HL2.out HO2.out (by unfold maxLen;omega) (by omega) (by have:=bB.size;omega) ?_
  intro v2x w2 hown2 hgr2
  obtain ⟨a2,c2,rfl⟩:=own_slice hown2
  have hv1:∀k,v1.ownBlock=some k→y1.heap.size≤k:=fun k hk=>(hown1.lt k hk).1
  have bC:Below y1.heap.size y1 w2:=bB.grown hgr2 (by have:=bB.size;omega) hv1
  have LQ:=L6.next bC
  obtain ⟨j0,j1,j2,j3,j4,j5,j6⟩:=LQ.c7
  have jf:=LQ.free
  refine hKr.out _ _ (HS9.out _ bC) (fun hS=>?_)
  try simp only [nrm]
  refine lateR 10 rfl ?_
  refine late_last (by kernel_rfl) rfl (by kernel_rfl) (fun Kr hKr=>?_)
  go_simp
  refine hKr.out _ _ ?_
  try simp only [nrm]
  obtain ⟨y,hyy⟩:∃y,y=w2.setCells u1.heap.size 5 [.slice a2 (i+1+(K.length-i)) c2]:=⟨_,rfl⟩
  have hy':w2.setCell ⟨u1.heap.size,5,none⟩ (.slice a2 (i+1+(K.length-i)) c2)=y:=hyy.symm
  rw [hy']
  clear hy'
  have oy:Only u1.heap.size w2 y:=by rw [hyy];exact onlyCells _ _ _
  have LY:Lay y u1.heap.size [.int .i64 now,.slice bT T.length dT,.slice bO O.length dO,.slice bP P.length dP,.slice (some ⟨gl,0,none⟩) L.length dL,.slice a2 (i+1+(K.length-i)) c2,.int .i64 nx]:=by rw [hyy];exact LQ.put (p:=[.int .i64 now,.slice bT T.length dT,.slice bO O.length dO,.slice bP P.length dP,.slice (some ⟨gl,0,none⟩) L.length dL]) (q:=[.slice bK K.length dK]) (r:=[.int .i64 nx]) [.slice a2 (i+1+(K.length-i)) c2] rfl
  clear hyy j0 j1 j2 j3 j4 j5 j6 jf
  have zC:=bC.size
  have zoy:=oy.size
  have XY:=(X6.next bC).only oy (by omega)
  have bY:Below u1.heap.size u1 y:=(bu.trans (bC.mono (by omega))).trans (oy.below (Nat.le_refl _) (by omega))
  have zbY:=bY.size
  have hl2:(insAt K i (opnK id lf (p:Int) kd)).length=i+1+(K.length-i):=by rw [insAt_length];omega
  have hiG:i≤GK.length:=by omega
  have hty2:∀b,(Value.slice a2 (i+1+(K.length-i)) c2).ownBlock=some b→y1.heap.size≤b:=fun b e=>(hown2.lt b e).1
  have cky:CpK y ph (.slice a2 (insAt K i (opnK id lf (p:Int) kd)).length c2) (insAt GK i (opnK id lf (p:Int) kd,Value.slice none 0 0)) (insAt K i (opnK id lf (p:Int) kd)):=by
   refine HCK1.out.insert hik _ rfl ?_ (fun k hk=>row_next (HCK1.out.ints k hk) bY) bY.size
   rw [hl2,flatK_ins,show K.length+1=i+1+(K.length-i) by omega]
   refine row_keepO (row_lowE ?_ (show ph≤y1.heap.size by omega)) (OnlyO.of_only oy) (fun b e e'=>by have:=hty2 b e;have:=Option.some.inj e';omega)
   have h2:=hown2
   rw [List.append_assoc] at h2
   exact h2
  obtain ⟨uL,eo⟩:=cp_own2 (lv.next bY) lb (tv.next bY) cky ⟨hzA,hzB,by omega⟩
  have EY:Hid (EOwn y v3.heap.size y.heap.size (.slice bT T.length dT) (.slice bO O.length dO) (.slice bP P.length dP) (.slice (some ⟨gl,0,none⟩) L.length dL) uL (.slice a2 (insAt K i (opnK id lf (p:Int) kd)).length c2) ((insAt GK i (opnK id lf (p:Int) kd,Value.slice none 0 0)).map (·.2)) T O P L (insAt K i (opnK id lf (p:Int) kd))):=eo
  clear eo cky lv tv
  go_upto_region 22 with (fail)
  obtain ⟨q0,q1,qf,sa,sc,q2,qu,qsm⟩:=EY.out.plc hp
  have hcap:L[p].2.2.length≤sc:=EY.out.capP hp qu
  have HSM:Hid (ISmp y.heap.size y sa L[p].2.2):=qsm
  have HS:Hid (∀u,Below y.heap.size y u→u.cell? ⟨u1.heap.size,4,none⟩=some (.slice (some ⟨gl,0,none⟩) L.length dL)):=fun u hu=>(LY.next hu).cell 4 _ rfl
  clear qf qu qsm
  refine heldQ1 HS (Below.refl _ _).drew fun hS=>?_
  refine anyR 0 rfl ?_
  refine anyR 1 rfl ?_
  refine anyR 2 rfl ?_
  refine anyR 3 rfl ?_
  refine anyR 4 rfl ?_
  refine anyR 5 rfl ?_
  refine anyR 6 rfl ?_
  refine anyR 8 rfl ?_
  refine anyC 7 rfl fun Kr hKr=>?_
  go_simp
  refine hKr.out _ _ ‹_› fun _=>?_
  try simp only [nrm]
  refine anyC 9 rfl fun Kr hKr=>?_
  go_simp
  (refine (l13Join_any sc (Nat.le_of_lt H5.out) hcap (HSM.out.here (Below.refl _ _).drew)).mono ?_;rintro e u5 ⟨va,nv,cv2,rfl,iv5,hb5⟩;have nz:=iv_lenC iv5;subst nz;have iv5:IV u5 y.heap.size (.slice va (insI L[p].2.2 id).length cv2) (insI L[p].2.2 id):=iv5;have hb5:=undrewE hb5;have hS5:=HS.out _ hb5;have z5:=hb5.size;have HE5:=eoN EY hb5;obtain ⟨e0,e1,⟨pf0,pf1,pf2⟩,sb,sd,e2,pu,psm⟩:=HE5.out.plc hp)
  refine hKr.out _ _ ‹_› fun _=>?_
  try simp only [nrm]
  refine anyR 10 rfl ?_
  refine anyC 11 rfl fun Kr hKr=>?_
  go_simp
  obtain ⟨z,hzz⟩:∃z,z=u5.setCells gl (p*3) [.int .i64 L[p].1,.int .i64 L[p].2.1,.slice va (insI L[p].2.2 id).length cv2]:=⟨_,rfl⟩
  have hz':((u5.setCell ⟨gl,p*3,none⟩ (.int .i64 L[p].1)).setCell ⟨gl,p*3+1,none⟩ (.int .i64 L[p].2.1)).setCell ⟨gl,p*3+2,none⟩ (.slice va (insI L[p].2.2 id).length cv2)=z:=hzz.symm
  rw [hz']
  clear hz' e0 e1 pf0 pf1 pf2 e2 pu psm
  have ez:=HE5.out.setP (hi':=u5.heap.size) (q:=L[p].1) (d:=L[p].2.1) hp (iv5.io.wider (by omega) (Nat.le_refl _)) (fun b hb=>.inr (fun hn=>by have:=(iv5.io.el hb).1;have:=HE5.out.bd hn;omega)) (by omega) (Nat.le_refl _)
  rw [←hzz] at ez
  have oz:Only gl u5 z:=by rw [hzz];exact onlyCells _ _ _
  clear hzz
  have LZ:=(LY.next hb5).only oz (by omega)
  have XZ:=(XY.next hb5).only oz (by omega)
  have zoz:=oz.size
  refine hKr.out _ _ (LZ.cell 4 _ rfl) (fun hS=>?_)
  try simp only [nrm]
  refine wpAnyH_done (by kernel_rfl) ?_ _
  obtain ⟨j0,j1,j2,j3,j4,j5,j6⟩:=LZ.c7
  obtain ⟨r0,r1,r2,r3,r4,r5,r6⟩:=XZ.c7
  have rf:=XZ.free
  go_wp2
  obtain ⟨u,hu',ou,U⟩:=st7 (b:=w.heap.size+1) XZ (.int .i64 now) (.slice bT T.length dT) (.slice bO O.length dO) (.slice bP P.length dP) (.slice (some ⟨gl,0,none⟩) L.length dL) (.slice a2 (i+1+(K.length-i)) c2) (.int .i64 nx)
  rw [hu']
  clear hu'
  have bw1:Below w.heap.size w u1:=below_two b3 hb1
  have zbw1:=bw1.size
  have bwy:Below w.heap.size w y:=bw1.trans (bY.mono (by omega))
  have bwz:Below w.heap.size w z:=(bwy.trans (hb5.mono (by omega))).trans (oz.below (by omega) (by omega))
  have hnn:¬inE (.slice bT T.length dT) (.slice bO O.length dO) (.slice bP P.length dP) (.slice (some ⟨gl,0,none⟩) (L.set p (L[p].1,L[p].2.1,insI L[p].2.2 id)).length dL) (uL.set p (.slice va (insI L[p].2.2 id).length cv2)) (.slice a2 (insAt K i (opnK id lf (p:Int) kd)).length c2) ((insAt GK i (opnK id lf (p:Int) kd,Value.slice none 0 0)).map (·.2)) (w.heap.size+1):=fun hb=>by have:=ez.bd hb;omega
  have eu:=ez.only ou hnn
  have zu:=ou.size
  refine bodyPost_ret (results_two rfl _ _ _ _ rfl U.cell Tryz.underlying31 rfl (by kernel_rfl)) rfl ?_
  exact ⟨bT,dT,bO,dO,bP,dP,some ⟨gl,0,none⟩,dL,a2,c2,by rw [List.length_set,hl2];rfl,eu.eng.wider (by omega) (by omega),bwz.trans (ou.below (by omega) bwz.size)⟩
theorem at_posE {K:List Kn} {id:Int} {i:Nat} {w w':World} {e:Ending} (hp:PosK K id i) (h:AtPost K id w e w'):e=.returned (.tuple #[.int .i64 i,.bool false])∧Below w.heap.size w w':=by
 obtain ⟨p,f,e,hq,h1,h2,h3,hb⟩:=h
 have hpi:=pos_is hp hq h1 h2
 subst hpi
 cases f with
 | false=>exact ⟨e,hb⟩
 | true =>
  obtain ⟨q,e'⟩:=h3.1 rfl
  have:=hp.hi p q (Nat.le_refl _)
  omega
theorem oi_put {w u y:World} {lo b:Nat} (oi:OnlyI lo b w u) (oy:Only b u y) (hw:w.heap.size≤b):OnlyI lo b w y:=⟨oy.os.trans oi.os,oy.tape.trans oi.tape,oy.output.trans oi.output,Nat.le_trans oi.size oy.size,fun k hk hn=>(oy.block k (Nat.lt_of_lt_of_le hk oi.size) (by omega)).trans (oi.block k hk hn)⟩
theorem implOpn_bad {w:World} (now nx:Int) {aT aO aP aL aK:Option Addr} (cT cO cP cL cK:Nat) {T O P:List Q4} {L:List F8} {K:List Kn} (id lf pl kd:Int) (hT:Quad w.heap.size w aT T) (hO:Quad w.heap.size w aO O) (hP:Quad w.heap.size w aP P) (hL:Fls w.heap.size w aL L) (hK:Kls w.heap.size w aK K) (mL:L.length≤1048576) (sL:∀f ∈ L,f.2.2.length≤1048576) (mK:K.length≤1048576) (sK:∀c ∈ K,c.xs.length≤1048576) (h1:engB now nx T O P L K=false):Calls Tryz.prog 10 #[engV now aT T.length cT aO O.length cO aP P.length cP aL L.length cL aK K.length cK nx,.int .i64 id,.int .i64 lf,.int .i64 pl,.int .i64 kd] w (EgPost w 0 0 [] [] [] [] [] (.int .i64 1)):=by
 have sKm:=szKn sK
 obtain ⟨v,hv,nb,L0,L1⟩:=preZ w 31 [.int .i64 now,.slice aT T.length cT,.slice aO O.length cO,.slice aP P.length cP,.slice aL L.length cL,.slice aK K.length cK,.int .i64 nx]
 have hw1:=L1.lt
 go_enter Tryz.func10,Tryz.ntmps10
 go_upto_region 1 with (fail)
 rw [←hv]
 clear hv
 obtain ⟨q0,q1,q2,q3,q4,q5,q6⟩:=Lay.c7 (b:=w.heap.size) L0
 go_wp2_with (first|(go_at_call 16;refine (implEngineOk_is cT cO cP cL cK h1 (hT.here nb) (hO.here nb) (hP.here nb) (hL.here nb) (hK.here nb) mL sL mK sKm).mono ?_;rintro e v2 ⟨rfl,hb2⟩;have b2:=below_two nb hb2;have M0:=L0.next hb2;have M1:=L1.next hb2;clear q0 q1 q2 q3 q4 q5 q6;obtain ⟨q0,q1,q2,q3,q4,q5,q6⟩:=Lay.c7 (b:=w.heap.size) M0;have m1f:=M1.free;obtain ⟨z0,z1,z2,z3,z4,z5,z6⟩:=Lay.c7 (b:=w.heap.size+1) M1))
 obtain ⟨u,hu',ou,U⟩:=st7 (b:=w.heap.size+1) M1 (.int .i64 0) (.slice none 0 0) (.slice none 0 0) (.slice none 0 0) (.slice none 0 0) (.slice none 0 0) (.int .i64 0)
 rw [hu']
 clear hu'
 have zu:=ou.size
 have zb:=b2.size
 have hl1:=M1.lt
 refine bodyPost_ret (results_two rfl _ _ _ _ rfl U.cell Tryz.underlying31 rfl (by kernel_rfl)) rfl ?_
 exact ⟨_,_,_,_,_,_,_,_,_,_,rfl,eng_zero (by omega) (Nat.le_refl _),b2.trans (ou.below (by omega) b2.size)⟩
theorem implOpn_no {w:World} (now nx:Int) {aT aO aP aL aK:Option Addr} (cT cO cP cL cK:Nat) {T O P:List Q4} {L:List F8} {K:List Kn} (id lf pl kd:Int) (hT:Quad w.heap.size w aT T) (hO:Quad w.heap.size w aO O) (hP:Quad w.heap.size w aP P) (hL:Fls w.heap.size w aL L) (hK:Kls w.heap.size w aK K) (mL:L.length≤1048576) (sL:∀f ∈ L,f.2.2.length≤1048576) (mK:K.length≤1048576) (sK:∀c ∈ K,c.xs.length≤1048576) (h1:engB now nx T O P L K=true) (cd:Int) (hcd:cd≠0) (HWHY:∀(u:World) (bT bO bP bL bK:Option Addr) (dT dO dP dL dK:Nat),Quad u.heap.size u bT T→Fls u.heap.size u bL L→Kls u.heap.size u bK K→Calls Tryz.prog 42 #[engV now bT T.length dT bO O.length dO bP P.length dP bL L.length dL bK K.length dK nx,.int .i64 id,.int .i64 lf,.int .i64 pl,.int .i64 kd] u fun e w'=>e=.returned (.int .i64 cd)∧Below u.heap.size u w'):Calls Tryz.prog 10 #[engV now aT T.length cT aO O.length cO aP P.length cP aL L.length cL aK K.length cK nx,.int .i64 id,.int .i64 lf,.int .i64 pl,.int .i64 kd] w (EgPost w now nx T O P L K (.int .i64 cd)):=by
 have sKm:=szKn sK
 obtain ⟨nT,nO,nP⟩:=eg_lens (eg_yes h1)
 have l0:=(eg_yes h1).l0
 have k40:=(eg_yes h1).k1
 have HRI:Hid (∀i j (h1:i<K.length) (h2:j<K.length),i<j→K[i].id<K[j].id):=eg_rise (eg_yes h1)
 have hc1:(cd != 0)=true:=by simpa using hcd
 have hc2:(cd == 0)=false:=by simpa using hcd
 obtain ⟨v,hv,nb,L0,L1⟩:=preZ w 31 [.int .i64 now,.slice aT T.length cT,.slice aO O.length cO,.slice aP P.length cP,.slice aL L.length cL,.slice aK K.length cK,.int .i64 nx]
 have hw1:=L1.lt
 go_enter Tryz.func10,Tryz.ntmps10
 go_upto_region 1 with (fail)
 rw [←hv]
 clear hv
 obtain ⟨q0,q1,q2,q3,q4,q5,q6⟩:=Lay.c7 (b:=w.heap.size) L0
 go_upto_region 4 with (first|(go_at_call 16;refine (implEngineOk_is cT cO cP cL cK h1 (hT.here nb) (hO.here nb) (hP.here nb) (hL.here nb) (hK.here nb) mL sL mK sKm).mono ?_;rintro e v2 ⟨rfl,hb2⟩;have b2:=below_two nb hb2;have M0:=L0.next hb2;have M1:=L1.next hb2;clear q0 q1 q2 q3 q4 q5 q6;obtain ⟨q0,q1,q2,q3,q4,q5,q6⟩:=Lay.c7 (b:=w.heap.size) M0;have m1f:=M1.free;obtain ⟨z0,z1,z2,z3,z4,z5,z6⟩:=Lay.c7 (b:=w.heap.size+1) M1)|(go_at_call 41;refine (copiedE_any now nx cT cO cP cL cK (hT.here b2) (hO.here b2) (hP.here b2) (hL.here b2) (hK.here b2) nT nO nP mL sL mK sK l0).mono ?_;rintro e u1 ⟨bT,dT,bO,dO,bP,dP,bL,dL,bK,dK,GK,lh,ph,rfl,lv,lb,tv,ck,hz,hb1⟩))
 clear z0 z1 z2 z3 z4 z5 z6 m1f
 obtain ⟨x,hx,LX,bx⟩:=new1 u1 31 [.int .i64 now,.slice bT T.length dT,.slice bO O.length dO,.slice bP P.length dP,.slice bL L.length dL,.slice bK K.length dK,.int .i64 nx]
 rw [←hx]
 clear hx
 have X1:=(M1.next hb1).next bx
 have kls:=(((ck.next bx).kv rfl).kls).2
 have z1:=hb1.size
 have zx:=bx.size
 have zb:=b2.size
 have z2:=hb2.size
 have hlx:=LX.lt
 have QTX:Quad x.heap.size x bT T:=((lv.next bx).t.quad).2
 have QLX:Fls x.heap.size x bL L:=((tv.next bx).fls).2
 obtain ⟨j0,j1,j2,j3,j4,j5,j6⟩:=Lay.c7 (b:=u1.heap.size) LX
 go_wp2_with (first|(go_at_call 42;refine (HWHY x bT bO bP bL bK dT dO dP dL dK QTX QLX kls).mono ?_;rintro e x2 ⟨rfl,hb3⟩;have LX2:=LX.next hb3;have X2:=X1.next hb3;obtain ⟨c0,c1,c2,c3,c4,c5,c6⟩:=Lay.c7 (b:=u1.heap.size) LX2;obtain ⟨d0,d1,d2,d3,d4,d5,d6⟩:=Lay.c7 (b:=w.heap.size+1) X2;have df:=X2.free;clear j0 j1 j2 j3 j4 j5 j6))
 obtain ⟨u,hu',ou,U⟩:=st7 (b:=w.heap.size+1) X2 (.int .i64 now) (.slice bT T.length dT) (.slice bO O.length dO) (.slice bP P.length dP) (.slice bL L.length dL) (.slice bK K.length dK) (.int .i64 nx)
 rw [hu']
 clear hu'
 have zu:=ou.size
 have z3:=hb3.size
 have hB:Below u1.heap.size u1 x2:=below_two bx hb3
 have hz1:=hz.1
 have hz2:=hz.2.1
 have hz3:=hz.2.2
 have zb2:=hB.size
 have bw:Below w.heap.size w x2:=below_two (below_two b2 hb1) hB
 refine bodyPost_ret (results_two rfl _ _ _ _ rfl U.cell Tryz.underlying31 rfl (by kernel_rfl)) rfl ?_
 exact ⟨bT,dT,bO,dO,bP,dP,bL,dL,bK,dK,rfl,cp_out (lv.next hB) lb (tv.next hB) (ck.next hB) ⟨by omega,hz2,by omega⟩ ou (by omega) (by omega),bw.trans (ou.below (by omega) bw.size)⟩
theorem implOpn_go {w:World} (now nx:Int) {aT aO aP aL aK:Option Addr} (cT cO cP cL cK:Nat) {T O P:List Q4} {L:List F8} {K:List Kn} (id lf pl kd:Int) (hT:Quad w.heap.size w aT T) (hO:Quad w.heap.size w aO O) (hP:Quad w.heap.size w aP P) (hL:Fls w.heap.size w aL L) (hK:Kls w.heap.size w aK K) (mL:L.length≤1048576) (sL:∀f ∈ L,f.2.2.length≤1048576) (mK:K.length≤1048576) (sK:∀c ∈ K,c.xs.length≤1048576) (h1:engB now nx T O P L K=true) (hf:fK K id = -1) (hn:inQ 0 id 1000000=true) (p:Nat) (hpe:pl=(p:Int)) (hp:p<L.length) (hk:conK kd=true) (h40:K.length<40) (i:Nat) (hpos:PosK K id i) (HWHY:∀(u:World) (bT bO bP bL bK:Option Addr) (dT dO dP dL dK:Nat),Quad u.heap.size u bT T→Fls u.heap.size u bL L→Kls u.heap.size u bK K→Calls Tryz.prog 42 #[engV now bT T.length dT bO O.length dO bP P.length dP bL L.length dL bK K.length dK nx,.int .i64 id,.int .i64 lf,.int .i64 pl,.int .i64 kd] u fun e w'=>e=.returned (.int .i64 0)∧Below u.heap.size u w'):Calls Tryz.prog 10 #[engV now aT T.length cT aO O.length cO aP P.length cP aL L.length cL aK K.length cK nx,.int .i64 id,.int .i64 lf,.int .i64 pl,.int .i64 kd] w (EgPost w now nx T O P (L.set p (opnP L p id)) (insAt K i (opnK id lf pl kd)) (.int .i64 0)):=by
 have sKm:=szKn sK
 obtain ⟨nT,nO,nP⟩:=eg_lens (eg_yes h1)
 have l0:=(eg_yes h1).l0
 have k40:=(eg_yes h1).k1
 have HRI:Hid (∀i j (h1:i<K.length) (h2:j<K.length),i<j→K[i].id<K[j].id):=eg_rise (eg_yes h1)
 subst hpe
 have hpb:=((eg_yes h1).pl p hp).1
 have hhas:=eg_hasN (eg_yes h1) hp hf
 have h50:L[p].2.2.length<50:=by have:=eg_mem40 (eg_yes h1) hp;omega
 rw [opnP_at hp id]
 have HPB:Hid (plB L[p].1 L[p].2.1 L[p].2.2=true):=hpb
 have HHS:Hid (hasI id L[p].2.2=false):=hhas
 have HN:Hid (inQ 0 id 1000000=true):=hn
 have H5:Hid (L[p].2.2.length<50):=h50
 have HPOS:Hid (PosK K id i):=hpos
 have hp':(p:Int)<(L.length:Int):=by omega
 have hp0:(0:Int)≤(p:Int):=by omega
 have hik:=hpos.le
 have hkk:kindB kd=true:=kind_con hk
 clear hpb hhas hn hpos hf h50
 obtain ⟨v,hv,nb,L0,L1⟩:=preZ w 31 [.int .i64 now,.slice aT T.length cT,.slice aO O.length cO,.slice aP P.length cP,.slice aL L.length cL,.slice aK K.length cK,.int .i64 nx]
 have hw1:=L1.lt
 go_enter Tryz.func10,Tryz.ntmps10
 go_upto_region 1 with (fail)
 rw [←hv]
 clear hv
 obtain ⟨q0,q1,q2,q3,q4,q5,q6⟩:=Lay.c7 (b:=w.heap.size) L0
 go_upto_region 4 with (first|(go_at_call 16;refine (implEngineOk_is cT cO cP cL cK h1 (hT.here nb) (hO.here nb) (hP.here nb) (hL.here nb) (hK.here nb) mL sL mK sKm).mono ?_;rintro e v2 ⟨rfl,hb2⟩;have b2:=below_two nb hb2;have M0:=L0.next hb2;have M1:=L1.next hb2;clear q0 q1 q2 q3 q4 q5 q6;obtain ⟨q0,q1,q2,q3,q4,q5,q6⟩:=Lay.c7 (b:=w.heap.size) M0;have m1f:=M1.free;obtain ⟨z0,z1,z2,z3,z4,z5,z6⟩:=Lay.c7 (b:=w.heap.size+1) M1)|(go_at_call 41;refine (copiedE_any now nx cT cO cP cL cK (hT.here b2) (hO.here b2) (hP.here b2) (hL.here b2) (hK.here b2) nT nO nP mL sL mK sK l0).mono ?_;rintro e u1 ⟨bT,dT,bO,dO,bP,dP,bL,dL,bK,dK,GK,lh,ph,rfl,lv,lb,tv,ck,hz,hb1⟩))
 clear z0 z1 z2 z3 z4 z5 z6 m1f
 obtain ⟨x,hx,LX,bx⟩:=new1 u1 31 [.int .i64 now,.slice bT T.length dT,.slice bO O.length dO,.slice bP P.length dP,.slice bL L.length dL,.slice bK K.length dK,.int .i64 nx]
 rw [←hx]
 clear hx
 have X1:=(M1.next hb1).next bx
 have kls:=(((ck.next bx).kv rfl).kls).2
 have z1:=hb1.size
 have zx:=bx.size
 have zb:=b2.size
 have z2:=hb2.size
 have hlx:=LX.lt
 have QTX:Quad x.heap.size x bT T:=((lv.next bx).t.quad).2
 have QLX:Fls x.heap.size x bL L:=((tv.next bx).fls).2
 obtain ⟨j0,j1,j2,j3,j4,j5,j6⟩:=Lay.c7 (b:=u1.heap.size) LX
 go_upto_region 7 with (first|(go_at_call 42;refine (HWHY x bT bO bP bL bK dT dO dP dL dK QTX QLX kls).mono ?_;rintro e x2 ⟨rfl,hb3⟩;have LX2:=LX.next hb3;have X2:=X1.next hb3;obtain ⟨c0,c1,c2,c3,c4,c5,c6⟩:=Lay.c7 (b:=u1.heap.size) LX2;obtain ⟨d0,d1,d2,d3,d4,d5,d6⟩:=Lay.c7 (b:=w.heap.size+1) X2;have df:=X2.free;clear j0 j1 j2 j3 j4 j5 j6))
 have hB:Below u1.heap.size u1 x2:=below_two bx hb3
 have kls2:=(((ck.next hB).kv rfl).kls).2
 go_upto_region 9 with (first|(go_at_call 43;refine (connAt_any dK id kls2 k40 HRI.out).mono ?_;rintro e x3 hat;obtain ⟨he,hb4⟩:=at_posE HPOS.out hat;subst he;have L3:=LX2.next hb4;have X3:=X2.next hb4;clear c0 c1 c2 c3 c4 c5 c6 d0 d1 d2 d3 d4 d5 d6 df;obtain ⟨c0,c1,c2,c3,c4,c5,c6⟩:=Lay.c7 (b:=u1.heap.size) L3)|(go_at_call 44;refine (implNewCc_yes _ hkk).mono ?_;rintro e x4 ⟨rfl,hbn⟩;have L4:=L3.next hbn;have X4:=X3.next hbn;clear c0 c1 c2 c3 c4 c5 c6;obtain ⟨c0,c1,c2,c3,c4,c5,c6⟩:=Lay.c7 (b:=u1.heap.size) L4))
 obtain ⟨gl,hbL⟩:∃gl,bL=some ⟨gl,0,none⟩:=by
  rcases tv with ⟨g,cap,vs,e,_⟩|⟨e,_⟩
  ·injection e with e1
   exact ⟨g,e1⟩
  ·rw [e] at l0
   simp at l0
 subst hbL
 have hglb:lh≤gl∧gl<ph:=by
  rcases tv with ⟨g,cap,vs,e,_,f⟩|⟨e,_⟩
  ·injection e with e1
   injection e1 with e1
   injection e1 with e1
   subst e1
   exact ⟨f.g0,f.g1⟩
  ·rw [e] at l0
   simp at l0
 have hgl1:=hglb.1
 have hgl2:=hglb.2
 obtain ⟨y0,hy0,LC,by0⟩:=new1 x4 44 [.int .i64 kd,.int .i64 15000,.int .i64 1000000000,.int .i64 0,.int .i64 0,.int .i64 0,.int .i64 0,.int .i64 0,.int .i64 0,.bool true]
 rw [←hy0]
 clear hy0 c0 c1 c2 c3 c4 c5 c6
 have L5:=L4.next by0
 have X5:=X4.next by0
 have bu0:Below u1.heap.size u1 y0:=below_two (below_two (below_two hB hb4) hbn) by0
 have bv:Below y0.heap.size y0 (y0.alloc (.cells #[.int .i64 id,.int .i64 lf,.int .i64 (p:Int),.int .i64 kd,.int .i64 15000,.int .i64 1000000000,.int .i64 0,.int .i64 0,.int .i64 0,.int .i64 0,.int .i64 0,.int .i64 0,.bool true,.slice none 0 0] 47)):=new_below _ _
 have bxv:Below u1.heap.size u1 (y0.alloc (.cells #[.int .i64 id,.int .i64 lf,.int .i64 (p:Int),.int .i64 kd,.int .i64 15000,.int .i64 1000000000,.int .i64 0,.int .i64 0,.int .i64 0,.int .i64 0,.int .i64 0,.int .i64 0,.bool true,.slice none 0 0] 47)):=below_two bu0 bv
 have zu0:=bu0.size
 have zbv:=bv.size
 have hzA:=hz.1
 have hzB:=hz.2.1
 have hzC:=hz.2.2
 have z4:=hb4.size
 have z5':=hbn.size
 have z3:=hb3.size
 have zy0:=by0.size
 have hlc:=LC.lt
 have hlx5:=L5.lt
 have HCK1:Hid (CpK u1 ph (.slice bK K.length dK) GK K):=ck
 have HSEPK:Hid (∀q,(Value.slice bK K.length dK).ownBlock=some q→ph≤q∧q<u1.heap.size):=fun q hq=>ck.row.lt q hq
 have HINS:Hid (Calls Tryz.prog 45 #[.slice bK K.length dK,.int .i64 (i:Int),.slice (some ⟨y0.heap.size,0,none⟩) 1 1] (y0.alloc (.cells #[.int .i64 id,.int .i64 lf,.int .i64 (p:Int),.int .i64 kd,.int .i64 15000,.int .i64 1000000000,.int .i64 0,.int .i64 0,.int .i64 0,.int .i64 0,.int .i64 0,.int .i64 0,.bool true,.slice none 0 0] 47)) (InsPost (y0.alloc (.cells #[.int .i64 id,.int .i64 lf,.int .i64 (p:Int),.int .i64 kd,.int .i64 15000,.int .i64 1000000000,.int .i64 0,.int .i64 0,.int .i64 0,.int .i64 0,.int .i64 0,.int .i64 0,.bool true,.slice none 0 0] 47)) ph (.slice bK K.length dK) GK K i (opnK id lf (p:Int) kd))) :=
  insert_any (opnK id lf (p:Int) kd) rfl (ck.next bxv) hik (by omega) (by omega) (fun g hg=>by have:=HSEPK.out g hg;omega) (heap_alloc_new y0 _) (fun j u hu=>by
   rw [Nat.zero_add,World.cell?_alloc_at _ _ _ _ rfl]
   rw [←Array.getElem?_toList]
   exact hu)
 obtain ⟨j0,j1,j2,j3,j4,j5,j6⟩:=L5.c7
 have jf:=L5.free
 obtain ⟨g0,g1,g2,g3,g4,g5,g6,g7,g8,g9⟩:=LC.c10
 go_upto_region 10 with (first|(go_at_call 45;refine HINS.out.mono ?_;rintro e u2 ⟨a',c',rfl,ck2,hgr,hnb⟩;have ho:OnlyO (Value.slice bK K.length dK).ownBlock (y0.alloc (.cells #[.int .i64 id,.int .i64 lf,.int .i64 (p:Int),.int .i64 kd,.int .i64 15000,.int .i64 1000000000,.int .i64 0,.int .i64 0,.int .i64 0,.int .i64 0,.int .i64 0,.int .i64 0,.bool true,.slice none 0 0] 47)) u2:=⟨hgr.os,hgr.tape,hgr.output,hgr.size,fun k hk hn=>hgr.block k hk (fun e=>hn e.symm)⟩;have L6:=(L5.next bv).onlyO ho (fun e=>by have:=HSEPK.out _ e;omega);have X6:=(X5.next bv).onlyO ho (fun e=>by have:=HSEPK.out _ e;omega);obtain ⟨j0,j1,j2,j3,j4,j5,j6⟩:=L6.c7;have jf:=L6.free))
 obtain ⟨y,hyy⟩:∃y,y=u2.setCells u1.heap.size 5 [.slice a' (K.length+1) c']:=⟨_,rfl⟩
 have hy':u2.setCell ⟨u1.heap.size,5,none⟩ (.slice a' (K.length+1) c')=y:=hyy.symm
 rw [hy']
 clear hy'
 have oy:Only u1.heap.size u2 y:=by rw [hyy];exact onlyCells _ _ _
 have LY:Lay y u1.heap.size [.int .i64 now,.slice bT T.length dT,.slice bO O.length dO,.slice bP P.length dP,.slice (some ⟨gl,0,none⟩) L.length dL,.slice a' (K.length+1) c',.int .i64 nx]:=by rw [hyy];exact L6.put (p:=[.int .i64 now,.slice bT T.length dT,.slice bO O.length dO,.slice bP P.length dP,.slice (some ⟨gl,0,none⟩) L.length dL]) (q:=[.slice bK K.length dK]) (r:=[.int .i64 nx]) [.slice a' (K.length+1) c'] rfl
 clear hyy j0 j1 j2 j3 j4 j5 j6 jf g0 g1 g2 g3 g4 g5 g6 g7 g8 g9
 have zo2:=ho.size
 have zoy:=oy.size
 have XY:=X6.only oy (by omega)
 have oi1:OnlyI ph u1.heap.size u1 u2:=(OnlyI.of_below bxv).trans (OnlyI.ofO ho (fun q hq=>HSEPK.out q hq))
 have oiy:OnlyI ph u1.heap.size u1 y:=oi_put oi1 oy (Nat.le_refl _)
 have lvy:=lv.onlyP (p:=fun k=>ph≤k∧k<u1.heap.size) ⟨oiy.os,oiy.tape,oiy.output,oiy.size,fun k hk hn=>oiy.block k hk (by omega)⟩ (fun b e e'=>by have:=lb b (.inl e);omega) (fun b e e'=>by have:=lb b (.inr (.inl e));omega) (fun b e e'=>by have:=lb b (.inr (.inr e));omega)
 have tvy:=tv.onlyI oiy (.inl (Nat.le_refl _))
 have zoiy:=oiy.size
 have hl2:(insAt K i (opnK id lf (p:Int) kd)).length=K.length+1:=insAt_length _ _ _
 have hiG:i≤GK.length:=by rw [HCK1.out.len];exact hik
 have hty2:∀b,(Value.slice a' (K.length+1) c').ownBlock=some b→b≠u1.heap.size:=fun b e=>by
  rcases hnb b e with h|h
  ·have:=HSEPK.out _ h
   omega
  ·omega
 have cky:CpK y ph (.slice a' (insAt K i (opnK id lf (p:Int) kd)).length c') (insAt GK i (opnK id lf (p:Int) kd,Value.slice none 0 0)) (insAt K i (opnK id lf (p:Int) kd)):=by
  rw [hl2]
  have kp:∀{e:TypeId} {s n:Nat} {v:Value} {xs:List Value},u2.ownsRow ph e s v n xs→(∀b,v.ownBlock=some b→b≠u1.heap.size)→y.ownsRow ph e s v n xs:=fun {e s n v xs} hr hne=>row_keepO hr (OnlyO.of_only oy) (fun b e e'=>hne b e (Option.some.inj e').symm)
  refine ⟨kp ck2.row hty2,ck2.fst,fun k hk=>kp (ck2.ints k hk) (fun b e=>?_),fun k hk b e=>⟨Nat.lt_of_lt_of_le (ck2.sep k hk b e).1 oy.size,(ck2.sep k hk b e).2⟩,ck2.z⟩
  rcases insAt_get hiG hk with ⟨_,hj,e1⟩|⟨_,e1⟩|⟨_,hj,e1⟩
  ·rw [e1] at e
   have:=(HCK1.out.sep _ hj b e).1
   omega
  ·rw [e1] at e
   cases e
  ·rw [e1] at e
   have:=(HCK1.out.sep _ hj b e).1
   omega
 obtain ⟨uL,eo⟩:=cp_own2 lvy lb tvy cky ⟨hzA,hzB,by omega⟩
 have EY:Hid (EOwn y v2.heap.size y.heap.size (.slice bT T.length dT) (.slice bO O.length dO) (.slice bP P.length dP) (.slice (some ⟨gl,0,none⟩) L.length dL) uL (.slice a' (insAt K i (opnK id lf (p:Int) kd)).length c') ((insAt GK i (opnK id lf (p:Int) kd,Value.slice none 0 0)).map (·.2)) T O P L (insAt K i (opnK id lf (p:Int) kd))):=eo
 clear eo lvy tvy cky ck2 lv tv
 obtain ⟨q0,q1,qf,sa,sc,q2,qu,qsm⟩:=EY.out.plc hp
 have hcap:L[p].2.2.length≤sc:=EY.out.capP hp qu
 have HSM:Hid (ISmp y.heap.size y sa L[p].2.2):=qsm
 have HS:Hid (∀u,Below y.heap.size y u→u.cell? ⟨u1.heap.size,4,none⟩=some (.slice (some ⟨gl,0,none⟩) L.length dL)):=fun u hu=>(LY.next hu).cell 4 _ rfl
 clear qf qu qsm
 refine heldQ1 HS (Below.refl _ _).drew fun hS=>?_
 refine anyR 0 rfl ?_
 refine anyR 1 rfl ?_
 refine anyR 2 rfl ?_
 refine anyR 3 rfl ?_
 refine anyR 4 rfl ?_
 refine anyR 5 rfl ?_
 refine anyR 6 rfl ?_
 refine anyR 8 rfl ?_
 refine anyC 7 rfl fun Kr hKr=>?_
 go_simp
 refine hKr.out _ _ ‹_› fun _=>?_
 try simp only [nrm]
 refine anyC 9 rfl fun Kr hKr=>?_
 go_simp
 (refine (implJoin_yes sc HPB.out HN.out H5.out HHS.out (HSM.out.here (Below.refl _ _).drew)).mono ?_;rintro e u5 ⟨va,nv,cv2,rfl,iv5,hb5⟩;have nz:=iv_lenC iv5;subst nz;have iv5:IV u5 y.heap.size (.slice va (insI L[p].2.2 id).length cv2) (insI L[p].2.2 id):=iv5;have hb5:=undrewE hb5;have hS5:=HS.out _ hb5;have z5:=hb5.size;have HE5:=eoN EY hb5;obtain ⟨e0,e1,⟨pf0,pf1,pf2⟩,sb,sd,e2,pu,psm⟩:=HE5.out.plc hp)
 refine hKr.out _ _ ‹_› fun _=>?_
 try simp only [nrm]
 refine anyR 10 rfl ?_
 refine anyR 11 rfl ?_
 refine anyR 12 rfl ?_
 refine anyR 13 rfl ?_
 refine anyC 14 rfl fun Kr hKr=>?_
 go_simp
 obtain ⟨z,hzz⟩:∃z,z=u5.setCells gl (p*3) [.int .i64 L[p].1,.int .i64 L[p].2.1,.slice va (insI L[p].2.2 id).length cv2]:=⟨_,rfl⟩
 have hz':((u5.setCell ⟨gl,p*3,none⟩ (.int .i64 L[p].1)).setCell ⟨gl,p*3+1,none⟩ (.int .i64 L[p].2.1)).setCell ⟨gl,p*3+2,none⟩ (.slice va (insI L[p].2.2 id).length cv2)=z:=hzz.symm
 rw [hz']
 clear hz' e0 e1 pf0 pf1 pf2 e2 pu psm
 have ez:=HE5.out.setP (hi':=u5.heap.size) (q:=L[p].1) (d:=L[p].2.1) hp (iv5.io.wider (by omega) (Nat.le_refl _)) (fun b hb=>.inr (fun hn=>by have:=(iv5.io.el hb).1;have:=HE5.out.bd hn;omega)) (by omega) (Nat.le_refl _)
 rw [←hzz] at ez
 have oz:Only gl u5 z:=by rw [hzz];exact onlyCells _ _ _
 clear hzz
 have LZ:=(LY.next hb5).only oz (by omega)
 have XZ:=(XY.next hb5).only oz (by omega)
 have zoz:=oz.size
 refine hKr.out _ _ (LZ.cell 4 _ rfl) (fun hS=>?_)
 try simp only [nrm]
 refine wpAnyH_done (by kernel_rfl) ?_ _
 obtain ⟨j0,j1,j2,j3,j4,j5,j6⟩:=LZ.c7
 obtain ⟨r0,r1,r2,r3,r4,r5,r6⟩:=XZ.c7
 have rf:=XZ.free
 go_wp2
 obtain ⟨u,hu',ou,U⟩:=st7 (b:=w.heap.size+1) XZ (.int .i64 now) (.slice bT T.length dT) (.slice bO O.length dO) (.slice bP P.length dP) (.slice (some ⟨gl,0,none⟩) L.length dL) (.slice a' (K.length+1) c') (.int .i64 nx)
 rw [hu']
 clear hu'
 have bw1:Below w.heap.size w u1:=below_two b2 hb1
 have zbw1:=bw1.size
 have bwy:Below w.heap.size w y:=bw1.trans (oiy.below (by omega) (by omega))
 have bwz:Below w.heap.size w z:=(bwy.trans (hb5.mono (by omega))).trans (oz.below (by omega) (by omega))
 have hnn:¬inE (.slice bT T.length dT) (.slice bO O.length dO) (.slice bP P.length dP) (.slice (some ⟨gl,0,none⟩) (L.set p (L[p].1,L[p].2.1,insI L[p].2.2 id)).length dL) (uL.set p (.slice va (insI L[p].2.2 id).length cv2)) (.slice a' (insAt K i (opnK id lf (p:Int) kd)).length c') ((insAt GK i (opnK id lf (p:Int) kd,Value.slice none 0 0)).map (·.2)) (w.heap.size+1):=fun hb=>by have:=ez.bd hb;omega
 have eu:=ez.only ou hnn
 have zu:=ou.size
 refine bodyPost_ret (results_two rfl _ _ _ _ rfl U.cell Tryz.underlying31 rfl (by kernel_rfl)) rfl ?_
 exact ⟨bT,dT,bO,dO,bP,dP,some ⟨gl,0,none⟩,dL,a',c',by rw [List.length_set,hl2];rfl,eu.eng.wider (by omega) (by omega),bwz.trans (ou.below (by omega) bwz.size)⟩
theorem opn_small {T O P:List Q4} {L:List F8} {K:List Kn} (es:Small T O P L K) {i p:Nat} {id lf pl kd:Int} (hp:p<L.length) (hm:L[p].2.2.length≤40) (hk:K.length≤40):Small T O P (L.set p (opnP L p id)) (insAt K i (opnK id lf pl kd)):=by
 have h1:=es.setL (i:=p) (f:=opnP L p id) (by
  rw [opnP_at hp]
  show (insI L[p].2.2 id).length≤1000
  rw [insI_len]
  omega)
 refine ⟨h1.t,h1.o,h1.p,h1.l,h1.lm,by rw [insAt_length];omega,fun c hc=>?_⟩
 unfold insAt at hc
 rcases List.mem_append.1 hc with h|h
 ·exact h1.km c (List.mem_of_mem_take h)
 ·rcases List.mem_cons.1 h with rfl|h
  ·exact Nat.zero_le _
  ·exact h1.km c (List.mem_of_mem_drop h)
end Go.Proofs.YthiojkjcmhojoaaGreat
