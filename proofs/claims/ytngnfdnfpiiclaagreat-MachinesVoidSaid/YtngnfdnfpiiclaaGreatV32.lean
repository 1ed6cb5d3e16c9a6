/-
  Pieces of one proof, without what is not wanted: PMach2, Lives09.
-/
import Derived.Test.YtngnfdnfpiiclaaGreatV11
import Derived.Test.YtngnfdnfpiiclaaGreatV12
import Derived.Test.YtngnfdnfpiiclaaGreatV19
import Derived.Test.YtngnfdnfpiiclaaGreatV31
set_option linter.unusedSimpArgs false
set_option linter.unusedVariables false
namespace Go.Proofs.YtngnfdnfpiiclaaGreat
open Go.RowKit
def Between (D:Nat→Prop) (w w':World):Prop:=∀ j,w.heap.size≤j→j<w'.heap.size→D j
theorem MIs.between {D:Nat→Prop} {w w':World} {k G M gb:Nat} {vb:Value} {σ:Hs} (hD:Between D w w') (h:MM w' (fun j=>w.heap.size≤j) k G M gb vb σ):MIs D w' k σ :=
 ⟨G,M,gb,vb,h.blk,h.led,h.pb,hD _ h.dk h.blk.lt,hD _ h.dg h.led.blk.lt,hD _ h.dm h.led.map.lt,fun j hj=>hD _ (h.db j hj) (h.pb.lt hj).2⟩
theorem MIs.below {D:Nat→Prop} {w w':World} {k:Nat} {σ:Hs} (h:MIs D w k σ) (q:Below w.heap.size w w'):MIs D w' k σ:=by
 obtain ⟨G,M,gb,vb,h⟩:=h
 exact ⟨G,M,gb,vb,h.below q⟩
theorem MIs.keep {D:Nat→Prop} {w w':World} {k g:Nat} {σ:Hs} {cs:Array Value} (h:MIs D w k σ) (b:Blk w g cs 36) (q:Keep (·=g) w w'):MIs D w' k σ:=by
 obtain ⟨G,M,gb,vb,h⟩:=h
 exact ⟨G,M,gb,vb,h.blk.keep q (blk_blk_ne h.blk b (by decide)),h.led.keep q (blk_blk_ne h.led.blk b (by decide)) (h.led.map.ne_blk b),h.pb.keep q (blk_blk_ne h.pb.blk b (by decide)) (owns_ne h.pb.row b (by decide)),h.dk,h.dg,h.dm,h.db⟩
theorem mmade_any {w:World} {k G:Nat} {q:Value} (h:Blk w k #[.pointer (some ⟨G,0,none⟩),q] 82):Calls Tryz.prog 46 #[.pointer (some ⟨k,0,none⟩)] w fun e w'=>e=.returned (.bool true)∧w=w':=by
 have m0:=h.cell 0; have ml:=h.lt
 simp at m0
 go_enter Tryz.func46,Tryz.ntmps46
 go_wp2_with fail
 go_ret
 exact ⟨rfl,rfl⟩
theorem mnew_any (w:World):Calls Tryz.prog 11 #[] w fun e w'=>∃ g,e=.returned (.pointer (some ⟨g,0,none⟩))∧w.heap.size≤g∧(∀ D,Between D w w'→MIs D w' g ⟨[],[],[],1⟩)∧Below w.heap.size w w':=by
 have C1:=Lib.hid (new_any w)
 go_enter Tryz.func11,Tryz.ntmps11
 go_wp2_with fail
 refine C1.out.mono ?_
 rintro e w1 ⟨G,M,rfl,hl,h1,h2,b1⟩
 have HL:=Lib.hid hl; have H1:=Lib.hid h1; have H2:=Lib.hid h2; have B1:=Lib.hid b1
 clear hl h1 h2 b1 C1
 go_wp2_with fail
 refine (pnew_any w1 w.heap.size B1.out.size).mono ?_
 rintro e w2 ⟨rfl,hp,b2⟩
 have HP:=Lib.hid hp; have B2:=Lib.hid b2
 clear hp b2
 go_wp2_with fail
 go_ret
 have b3:=(Below.refl w2.heap.size w2).alloc (Nat.le_refl _) (.cells #[.pointer (some ⟨G,0,none⟩),.pointer (some ⟨w1.heap.size,0,none⟩)] 82)
 have s1:=B1.out.size; have s2:=B2.out.size
 exact ⟨_,rfl,by omega,fun D hD=>MIs.between hD ⟨Blk.new _ _ _,(HL.out.below B2.out).below b3,(HP.out.down12 (Nat.zero_le _)).below b3,by omega,H1.out,H2.out,fun j hj=>(HP.out.lt hj).1⟩,(B1.out.trans (B2.out.mono s1)).trans (b3.mono (by omega))⟩
set_option maxHeartbeats 4000000 in
theorem mcopy_any (HCp:FCopyProg) {w:World} {D:Nat→Prop} {k G M gb:Nat} {vb:Value} {σ:Hs} (h:MM w D k G M gb vb σ) (hi:HInv σ):Calls Tryz.prog 13 #[.pointer (some ⟨k,0,none⟩)] w fun e w'=>∃ g,e=.returned (.pointer (some ⟨g,0,none⟩))∧w.heap.size≤g∧(∀ D,Between D w w'→MIs D w' g σ)∧Below w.heap.size w w':=by
 have CM:=Lib.hid (mmade_any h.blk)
 have CC:=Lib.hid (HCp h.led hi.li h.pb hi.bi)
 have H:=Lib.hid h
 clear h hi HCp
 go_enter Tryz.func13,Tryz.ntmps13
 go_wp2_with fail
 refine CM.out.mono ?_
 rintro e w ⟨rfl,rfl⟩
 have m0:=H.out.blk.cell 0; have m1:=H.out.blk.cell 1; have ml:=H.out.blk.lt
 simp at m0 m1
 go_wp2_with fail
 refine CC.out.mono ?_
 rintro e w2 ⟨G2,M2,gb2,vb2,rfl,hl,hp,h1,h2,b2⟩
 have HL:=Lib.hid hl; have HP:=Lib.hid hp; have B2:=Lib.hid b2; have HN:=Lib.hid (And.intro h1 h2)
 clear hl hp b2 h1 h2 m0 m1 ml CC CM H
 go_wp2_with fail
 go_ret
 have b3:=(Below.refl w2.heap.size w2).alloc (Nat.le_refl _) (.cells #[.pointer (some ⟨G2,0,none⟩),.pointer (some ⟨gb2,0,none⟩)] 82)
 have s2:=B2.out.size
 exact ⟨_,rfl,s2,fun D hD=>MIs.between hD ⟨Blk.new _ _ _,HL.out.below b3,(HP.out.down12 (Nat.zero_le _)).below b3,s2,HN.out.1,HN.out.2,fun j hj=>(HP.out.lt hj).1⟩,B2.out.trans (b3.mono s2)⟩
set_option maxHeartbeats 4000000 in
set_option maxRecDepth 100000 in
theorem mstate_any {w:World} {D:Nat→Prop} {k G M gb:Nat} {vb:Value} {σ:Hs} (h:MM w D k G M gb vb σ) (hi:HInv σ):Calls Tryz.prog 21 #[.pointer (some ⟨k,0,none⟩)] w (StatePost w σ):=by
 have b1:=(Below.refl w.heap.size w).alloc (Nat.le_refl _) (.cells #[.slice none 0 0,.slice none 0 0,.slice none 0 0,.int .u64 0] 46)
 have KX:=Lib.hid (Blk.new w #[.slice none 0 0,.slice none 0 0,.slice none 0 0,.int .u64 0] 46)
 have H:=Lib.hid (h.below b1)
 have B1:=Lib.hid b1
 have II:=Lib.hid hi
 clear h hi b1
 go_enter Tryz.func21,Tryz.ntmps21
 go_upto_region 1 with fail
 generalize w.alloc (.cells #[.slice none 0 0,.slice none 0 0,.slice none 0 0,.int .u64 0] 46)=W at *
 go_wp2_with fail
 refine (mmade_any H.out.blk).mono ?_
 rintro e W ⟨rfl,rfl⟩
 have m0:=H.out.blk.cell 0; have m1:=H.out.blk.cell 1; have ml:=H.out.blk.lt
 simp at m0 m1
 go_wp2_with fail
 go_quiet (fail)
 have B2:=Lib.hid (below_drewN B1.out nq)
 have KX2:=Lib.hid (show Blk (W.drewN nq) w.heap.size #[.slice none 0 0,.slice none 0 0,.slice none 0 0,.int .u64 0] 46 from KX.out)
 have H2:=Lib.hid (H.out.below (below_drewN (Below.refl _ _) nq))
 generalize W.drewN nq=W2 at *
 clear m0 m1 ml KX H B1
 go_wp2_with fail
 refine (pparties_any H2.out.led II.out.li).mono ?_
 rintro e w3 ⟨vp,rfl,hp,b3⟩
 have HP:=Lib.hid hp; have B3:=Lib.hid b3
 clear hp b3
 go_wp2_with fail
 refine (plines_any (H2.out.below B3.out).led II.out.li).mono ?_
 rintro e w4 ⟨vl,rfl,hl,b4⟩
 have HL:=Lib.hid hl; have B4:=Lib.hid b4
 clear hl b4
 go_wp2_with fail
 refine (pall_any ((H2.out.below B3.out).below B4.out).pb (by have:=II.out.bi.len; omega)).mono ?_
 rintro e w5 ⟨vo,rfl,ho,b5⟩
 have HO:=Lib.hid ho; have B5:=Lib.hid b5
 clear ho b5
 go_wp2_with fail
 refine (pnext_any (((H2.out.below B3.out).below B4.out).below B5.out).pb.blk).mono ?_
 rintro e w5 ⟨rfl,rfl⟩
 have s2:=B2.out.size; have s3:=B3.out.size; have s4:=B4.out.size
 have KX5:=Lib.hid (((KX2.out.below B3.out KX2.out.lt).below B4.out (Nat.lt_of_lt_of_le KX2.out.lt s3)).below B5.out (Nat.lt_of_lt_of_le KX2.out.lt (Nat.le_trans s3 s4)))
 have P5:=Lib.hid ((HP.out.below B4.out).below B5.out)
 have L5:=Lib.hid (HL.out.below B5.out)
 obtain ⟨po,pc,rfl,_⟩:=P5.out.look
 obtain ⟨lo,lc,rfl,_⟩:=L5.out.look
 obtain ⟨oo,oc,rfl,_⟩:=HO.out.look
 go_wp2_with (refine wpList_store_whole rfl 46 (.tmp 2) (.tmp 27) rfl w.heap.size #[.slice po σ.ps.length pc,.slice lo σ.ls.length lc,.slice oo σ.l.length oc,.int .u64 σ.N] rfl rfl 46 _ KX5.out.out (by kernel_rfl) rfl (by simp [Value.oneCell']) ?_)
 have kk:=below_keepRow (w:=w5) w.heap.size #[.slice po σ.ps.length pc,.slice lo σ.ls.length lc,.slice oo σ.l.length oc,.int .u64 σ.N]
 have far:∀ {b:Nat},w.heap.size<b→¬ b=w.heap.size:=fun h e=>by omega
 refine bodyPost_ret (v:=.agg #[.slice po σ.ps.length pc,.slice lo σ.ls.length lc,.slice oo σ.l.length oc,.int .u64 σ.N]) (results_cell_row rfl _ _ w.heap.size 46 #[.slice po σ.ps.length pc,.slice lo σ.ls.length lc,.slice oo σ.l.length oc,.int .u64 σ.N] (0,0) _ rfl (setRow_heap w5 w.heap.size _ _ _ (0,0) KX5.out.out) Tryz.underlying46 rfl (by kernel_rfl)) rfl ?_
 have bb:Below w.heap.size w w5:=andB (andB (andB B2.out (B3.out)) B4.out) B5.out
 exact ⟨_,_,_,rfl,.inl ((P5.out.keep kk (rowed_ty P5.out KX5.out (by decide))).base (by omega)),.inl ((L5.out.keep kk (rowed_ty L5.out KX5.out (by decide))).base (by omega)),.inl ((HO.out.keep kk (rowed_ty HO.out KX5.out (by decide))).base (by omega)),bb.trans (kk.below bb.size (fun j hj e=>by omega))⟩
theorem gtCells_put (l:List Gt) (k:Nat) (x:Gt) (h:k<l.length):(gtCells l).take (k * 2)++x.vals++(gtCells l).drop (k * 2 + 2)=gtCells (l.set k x):=by
 have e0:gtCells l=gtCells (l.take k)++gtCells (l.drop k):=by rw [← gtCells_append,List.take_append_drop]
 have e1:gtCells l=gtCells (l.take (k + 1))++gtCells (l.drop (k + 1)):=by rw [← gtCells_append,List.take_append_drop]
 have h1:(gtCells l).take (k * 2)=gtCells (l.take k):=by rw [e0,List.take_left' (by rw [gtCells_len,List.length_take]; omega)]
 have h2:(gtCells l).drop (k * 2 + 2)=gtCells (l.drop (k + 1)):=by rw [e1,List.drop_left' (by rw [gtCells_len,List.length_take]; omega)]
 rw [h1,h2,List.set_eq_take_append_cons_drop,if_pos h,gtCells_append,show x::l.drop (k + 1)=[x]++l.drop (k + 1) from rfl,gtCells_append,gtCells_one,List.append_assoc]
theorem gots_set {w:World} {g k:Nat} {e:TypeId} {d:List Gt} (h:Blk w g (gtCells d).toArray e) (hk:k<d.length) (x:Gt):Blk (w.setCells g (k * 2) x.vals) g (gtCells (d.set k x)).toArray e:=by
 obtain ⟨cur',hb',hc'⟩:=heap_setCells (w:=w) (e:=e) x.vals (k * 2) _ h (by rw [Gt.vals_len,List.size_toArray,gtCells_len]; omega)
 rw [Gt.vals_len,List.toList_toArray,gtCells_put d k x hk] at hc'
 rw [← hc']
 exact hb'
theorem gots_there {w:World} {g k:Nat} {e:TypeId} {d:List Gt} (h:Blk w g (gtCells d).toArray e) (hk:k<d.length):w.there g (k * 2) 2:=fun j hj=>⟨by
 rw [h.cell,Array.getElem?_eq_getElem (by rw [List.size_toArray,gtCells_len]; omega)]; rfl,h.frozen _⟩
def gotsAt (hs:List Gt) (n:Nat):List Gt:=hs++List.replicate (n - hs.length) ⟨0,0⟩
theorem gotsAt_len {hs:List Gt} {n:Nat} (h:hs.length≤n):(gotsAt hs n).length=n:=by
 unfold gotsAt
 rw [List.length_append,List.length_replicate]
 omega
theorem gotsAt_set {hs:List Gt} {n:Nat} (h:hs.length<n) (x:Gt):(gotsAt hs n).set hs.length x=gotsAt (hs++[x]) n:=by
 unfold gotsAt
 rw [List.set_append_right _ _ (Nat.le_refl _),Nat.sub_self,List.append_assoc,List.length_append,show n - hs.length=(n - (hs.length + 1)) + 1 by omega,List.replicate_succ]
 rfl
theorem gotsAt_full {hs:List Gt} {n:Nat} (h:hs.length=n):gotsAt hs n=hs:=by
 unfold gotsAt
 rw [h,Nat.sub_self]
 simp
theorem blk_of_made {w:World} {base g n:Nat} {e:TypeId} (h:w.ownsRow base e 2 (.slice (some ⟨g,0,none⟩) n n) n (madeCells #[.int .i64 0,.int .i64 0] (n * 2)).toList) (hn:1≤n∧n≤8):Blk w g (gtCells (gotsAt [] n)).toArray e:=by
 have hc:(madeCells #[.int .i64 0,.int .i64 0] (n * 2)).toList=gtCells (gotsAt [] n):=by
  rcases (show n=1∨n=2∨n=3∨n=4∨n=5∨n=6∨n=7∨n=8 by omega) with rfl | rfl | rfl | rfl | rfl | rfl | rfl | rfl <;> kernel_rfl
 rw [hc] at h
 obtain ⟨hl,hx⟩:=h
 rcases hx with ⟨hx,_⟩ | ⟨g',cap',cur,hv,hbase,hb,h1,h2,h3,h4⟩
 ·cases hx
 cases hv
 have:cur.toList=gtCells (gotsAt [] n):=by rw [← h4,List.take_of_length_le (by rw [Array.length_toList,h3]; exact Nat.le_refl _)]
 rw [← this]
 exact hb
def ApIn (B gr:Nat) (j:Nat):Prop:=B≤j∧j≠gr
def ApAt (B gr k2 n:Nat) (W:World) (σ:Hs) (xs:List Stp) (i:Value) (wr:World):Prop:=∃ (j:Nat) (τ:Hs) (hs:List Gt),j≤n∧i=.int .i64 j∧runF σ xs 0 []=runF τ (xs.drop j) j hs∧hs.length=j∧HInv τ∧MIs (ApIn B gr) wr k2 τ ∧
 Blk wr gr (gtCells (gotsAt hs n)).toArray 93∧Below B W wr
set_option maxHeartbeats 32000000 in
set_option maxRecDepth 100000 in
theorem mapply_any (HCp:FCopyProg) {w:World} {D:Nat→Prop} {k G M gb:Nat} {vb:Value} {σ:Hs} (h:MM w D k G M gb vb σ) (hD:Later D w) (hi:HInv σ) (x:Cm) (hx:x.In w) (HK:∀ s ∈ x.xs,KdAns s) :
  Calls Tryz.prog 16 #[.pointer (some ⟨k,0,none⟩),.agg #[.slice x.a x.n x.c]] w (ApplyPost (MIs D) w k σ x.xs):=by
 obtain ⟨xa,xn,xc,xs⟩:=x
 have hxl:xs.length=xn:=hx.2.1
 have b1:=(Below.refl w.heap.size w).alloc (Nat.le_refl _) (.cells #[.slice xa xn xc] 32)
 have b2:=b1.alloc b1.size (.cells #[.int .i64 0,.int .i64 0,.slice none 0 0] 36)
 have KX:=Lib.hid ((Blk.new w #[.slice xa xn xc] 32).alloc (.cells #[.int .i64 0,.int .i64 0,.slice none 0 0] 36))
 have KR:=Lib.hid (Blk.newAt (w.alloc (.cells #[.slice xa xn xc] 32)) #[.int .i64 0,.int .i64 0,.slice none 0 0] 36 (g:=w.heap.size + 1) (by simp))
 have HM:=Lib.hid (h.below b2)
 have HXL:=Lib.hid hxl
 have HX:Hid (SlIn Stp.vals 10 Stp.Fits ((w.alloc (.cells #[.slice xa xn xc] 32)).alloc (.cells #[.int .i64 0,.int .i64 0,.slice none 0 0] 36)) xa xn xc xs):=Lib.hid (SlIn.below hx b2)
 have B2:=Lib.hid b2
 have LT:=Lib.hid (hD.of_le b2.size)
 have II:=Lib.hid hi
 have KA:=Lib.hid HK
 have hwz:((w.alloc (.cells #[.slice xa xn xc] 32)).alloc (.cells #[.int .i64 0,.int .i64 0,.slice none 0 0] 36)).heap.size=w.heap.size + 2:=by simp
 have WZ:=Lib.hid hwz
 clear h hD hi hx b1 b2 HK hxl hwz
 go_enter Tryz.func16,Tryz.ntmps16
 go_upto_region 1 with fail
 generalize (w.alloc (.cells #[.slice xa xn xc] 32)).alloc (.cells #[.int .i64 0,.int .i64 0,.slice none 0 0] 36)=W at *
 go_wp2_with fail
 refine (mmade_any HM.out.blk).mono ?_
 rintro e W ⟨rfl,rfl⟩
 have x0:=KX.out.cell 0; have xl:=KX.out.lt
 simp at x0
 by_cases hbad:xn<1∨8<xn
 ·have AE:Hid (applyF σ xs=(σ,3,0,[])):=Lib.hid (by unfold applyF; rw [if_pos (by have:=HXL.out; omega)])
  have q1:decide ((xn:Int)<1)=decide (xn<1):=decide_eq_decide.2 (by omega)
  have q2:xn<1∨(¬ xn<1∧decide ((8:Int)<(xn:Int))=true):=by rcases hbad with h | h; exact .inl h; by_cases h1:xn<1; exact .inl h1; exact .inr ⟨h1,by simp; omega⟩
  clear hbad
  rcases q2 with h1 | ⟨h1,q2⟩
  ·rw [decide_eq_true h1] at q1
   clear h1
   go_wp2_with (refine wpList_store_whole rfl 36 (.tmp 4) (.tmp 28) rfl (w.heap.size + 1) #[.int .i64 3,.int .i64 0,.slice none 0 0] rfl rfl 36 _ KR.out.out (by kernel_rfl) rfl (by simp [Value.oneCell']) ?_)
   refine bodyPost_ret (v:=.agg #[.int .i64 3,.int .i64 0,.slice none 0 0]) (results_cell_row rfl _ _ (w.heap.size + 1) 36 #[.int .i64 3,.int .i64 0,.slice none 0 0] (0,0) _ rfl (setRow_heap _ (w.heap.size + 1) _ _ _ (0,0) KR.out.out) Tryz.underlying36 rfl (by kernel_rfl)) rfl ?_
   have kk:=below_keepRow (w:=W) (w.heap.size + 1) #[.int .i64 3,.int .i64 0,.slice none 0 0]
   obtain ⟨_,a2,a3⟩:=HM.out.apart
   have hkl:=HM.out.blk.lt
   unfold ApplyPost
   rw [AE.out]
   exact ⟨_,rfl,.inl ⟨rfl,.inl ⟨rfl,rfl⟩⟩,MIs.keep ⟨_,_,_,_,HM.out⟩ KR.out kk,(Keep.of_below B2.out).trans_new kk (fun j hj e=>by omega)⟩
  ·rw [decide_eq_false h1] at q1
   clear h1
   go_wp2_with (refine wpList_store_whole rfl 36 (.tmp 4) (.tmp 28) rfl (w.heap.size + 1) #[.int .i64 3,.int .i64 0,.slice none 0 0] rfl rfl 36 _ KR.out.out (by kernel_rfl) rfl (by simp [Value.oneCell']) ?_)
   refine bodyPost_ret (v:=.agg #[.int .i64 3,.int .i64 0,.slice none 0 0]) (results_cell_row rfl _ _ (w.heap.size + 1) 36 #[.int .i64 3,.int .i64 0,.slice none 0 0] (0,0) _ rfl (setRow_heap _ (w.heap.size + 1) _ _ _ (0,0) KR.out.out) Tryz.underlying36 rfl (by kernel_rfl)) rfl ?_
   have kk:=below_keepRow (w:=W) (w.heap.size + 1) #[.int .i64 3,.int .i64 0,.slice none 0 0]
   obtain ⟨_,a2,a3⟩:=HM.out.apart
   have hkl:=HM.out.blk.lt
   unfold ApplyPost
   rw [AE.out]
   exact ⟨_,rfl,.inl ⟨rfl,.inl ⟨rfl,rfl⟩⟩,MIs.keep ⟨_,_,_,_,HM.out⟩ KR.out kk,(Keep.of_below B2.out).trans_new kk (fun j hj e=>by omega)⟩
 have q1:decide ((xn:Int)<1)=false:=by simp; omega
 have q2:decide ((8:Int)<(xn:Int))=false:=by simp; omega
 have XN:Hid (1≤xn∧xn≤8):=Lib.hid (by omega)
 clear hbad
 go_wp2_with fail
 refine (mcopy_any HCp HM.out II.out).mono ?_
 rintro e w3 ⟨k2,rfl,hk2,hI2,b3⟩
 have I2:=Lib.hid hI2; have B3:=Lib.hid b3
 have K2:=Lib.hid hk2
 have x0':=(KX.out.below B3.out KX.out.lt).cell 0; have xl':=(KX.out.below B3.out KX.out.lt).lt
 simp at x0'
 have xn1:=XN.out
 clear hI2 b3 hk2 x0 xl
 obtain ⟨i0,hi,hz0,hz1,hz2⟩:=info_parts info_gt
 go_wp2_with (at_make; refine wpList_make_full _ rfl _ _ 34 rfl w3.heap.size 93 i0 (.agg #[.int .i64 0,.int .i64 0]) 2 Tryz.underlying34 hi hz0 hz1 _ _ _ _ xn rfl rfl rfl rfl (by rw [hz2]; omega) (by unfold maxLen; omega) (Nat.le_refl _) ?_)
 intro w4 hown hgr
 have b4:Below w3.heap.size w3 w4:=(Below.refl w3.heap.size w3).grown hgr (Nat.le_refl _) (fun k h=>by cases h)
 have HG:=Lib.hid (blk_of_made hown XN.out)
 have M4:=Lib.hid ((I2.out (ApIn W.heap.size w3.heap.size) (fun j h1 h2=>⟨h1,by omega⟩)).below b4)
 have B4:=Lib.hid (andB B3.out b4)
 clear hown hgr b4 x0' xl' hi hz0 hz1 hz2 i0
 have KX4:=Lib.hid (KX.out.below B4.out KX.out.lt)
 have x0:=KX4.out.cell 0; have xl:=KX4.out.lt
 simp at x0
 go_wp2_with fail
 clear x0 xl
 go_loopw [38] (ApAt W.heap.size w3.heap.size k2 xn W σ xs) (fun i _=>xn - (intOf i).toNat)
 case atStart=>exact ⟨0,σ,[],by omega,rfl,rfl,rfl,II.out,M4.out,HG.out,B4.out⟩
 case round =>
  obtain ⟨j,τ,hs,hj,rfl,hrun,hlen,hti,hm,hg,hb⟩:=hrel
  have KR1:=Lib.hid (KR.out.below hb KR.out.lt)
  have BW:=Lib.hid hb
  have RU:=Lib.hid hrun; have SL:=Lib.hid hlen; have TI:=Lib.hid hti; have IM:=Lib.hid hm; have GB:=Lib.hid hg
  have wz:=WZ.out
  have hgl:=hg.lt
  have GR:Hid (W.heap.size≤w3.heap.size∧w3.heap.size<wr.heap.size∧W.heap.size=w.heap.size + 2):=Lib.hid ⟨B3.out.size,hgl,wz⟩
  clear hrun hlen hti hm hg hgl wz
  by_cases hjl:j<xn
  ·have hji:(j:Int)<(xn:Int):=by omega
   have hj0:(0:Int)≤(j:Int):=by omega
   have q1:decide ((j:Int)<(xn:Int))=true:=by simpa using hjl
   obtain ⟨_,_,hfit,_,_,hcell⟩:=SlIn.below HX.out hb
   obtain ⟨b,off,hxa,hbl,hc⟩:=hcell (by omega)
   subst hxa
   have hjx:j<xs.length:=by rw [HXL.out]; exact hjl
   have RD:=Lib.hid (runF_drop (τ:=τ) (xs:=xs) (k:=j) (i:=j) (gs:=hs) hjx)
   have FS:=Lib.hid (hfit _ (List.getElem_mem hjx))
   have KD:=Lib.hid (KA.out _ (List.getElem_mem hjx))
   have c0:=hc j hjx 0; have c1:=hc j hjx 1; have c2:=hc j hjx 2; have c3:=hc j hjx 3; have c4:=hc j hjx 4
   have c5:=hc j hjx 5; have c6:=hc j hjx 6; have c7:=hc j hjx 7; have c8:=hc j hjx 8; have c9:=hc j hjx 9
   generalize xs[j]=s at RD FS KD c0 c1 c2 c3 c4 c5 c6 c7 c8 c9
   obtain ⟨kd,sa,sb,sc,sd,sn,sm,su,se,sq⟩:=s
   replace c0:=c0 _ rfl; replace c1:=c1 _ rfl; replace c2:=c2 _ rfl; replace c3:=c3 _ rfl; replace c4:=c4 _ rfl
   replace c5:=c5 _ rfl; replace c6:=c6 _ rfl; replace c7:=c7 _ rfl; replace c8:=c8 _ rfl; replace c9:=c9 _ rfl
   rw [Nat.add_zero] at c0
   have HJ:=Lib.hid hjl
   clear hfit hcell hc hjx hj hb
   have bz:=below_setRow ((Below.refl wr.heap.size wr).alloc (Nat.le_refl _) (.cells #[.int .u8 0,.int .u8 0,.int .u8 0,.int .u8 0,.int .u8 0,.int .i64 0,.int .i64 0,.int .i64 0,.int .i64 0,.int .u64 0] 87)) (Nat.le_refl wr.heap.size) #[.int .u8 kd,.int .u8 sa,.int .u8 sb,.int .u8 sc,.int .u8 sd,.int .i64 sn,.int .i64 sm,.int .i64 su,.int .i64 se,.int .u64 sq]
   have KS:=Lib.hid (show Blk ((wr.alloc (.cells #[.int .u8 0,.int .u8 0,.int .u8 0,.int .u8 0,.int .u8 0,.int .i64 0,.int .i64 0,.int .i64 0,.int .i64 0,.int .u64 0] 87)).setRow wr.heap.size #[.int .u8 kd,.int .u8 sa,.int .u8 sb,.int .u8 sc,.int .u8 sd,.int .i64 sn,.int .i64 sm,.int .i64 su,.int .i64 se,.int .u64 sq]) wr.heap.size _ 87 from setRow_heap _ _ _ _ _ (0,0) (Blk.new wr _ _))
   go_upto_region 10 with (refine wpList_store_whole rfl 87 (.tmp 8) (.tmp 42) rfl wr.heap.size #[.int .u8 kd,.int .u8 sa,.int .u8 sb,.int .u8 sc,.int .u8 sd,.int .i64 sn,.int .i64 sm,.int .i64 su,.int .i64 se,.int .u64 sq] rfl rfl 87 _ (Blk.new wr #[.int .u8 0,.int .u8 0,.int .u8 0,.int .u8 0,.int .u8 0,.int .i64 0,.int .i64 0,.int .i64 0,.int .i64 0,.int .u64 0] 87).out (by kernel_rfl) rfl (by simp [Value.oneCell']) ?_)
   generalize (wr.alloc (.cells #[.int .u8 0,.int .u8 0,.int .u8 0,.int .u8 0,.int .u8 0,.int .i64 0,.int .i64 0,.int .i64 0,.int .i64 0,.int .u64 0] 87)).setRow wr.heap.size #[.int .u8 kd,.int .u8 sa,.int .u8 sb,.int .u8 sc,.int .u8 sd,.int .i64 sn,.int .i64 sm,.int .i64 su,.int .i64 se,.int .u64 sq]=w5 at *
   have KR2:=Lib.hid (KR1.out.below bz KR1.out.lt)
   have GB2:=Lib.hid (GB.out.below bz GB.out.lt)
   have IM2:=Lib.hid (IM.out.below bz)
   have BW2:=Lib.hid (BW.out.trans (bz.mono BW.out.size))
   have S5:=Lib.hid bz.size
   clear c0 c1 c2 c3 c4 c5 c6 c7 c8 c9 bz KR1 GB IM BW
   have s0:=KS.out.cell 0; have s1:=KS.out.cell 1; have s2:=KS.out.cell 2; have s3:=KS.out.cell 3; have s4:=KS.out.cell 4; have s5:=KS.out.cell 5; have s6:=KS.out.cell 6; have s7:=KS.out.cell 7; have s8:=KS.out.cell 8; have s9:=KS.out.cell 9; have sl:=KS.out.lt
   simp at s0 s1 s2 s3 s4 s5 s6 s7 s8 s9
   obtain ⟨G5,M5,gb5,vb5,mm5⟩:=IM2.out
   have CD:=Lib.hid (mdo_any mm5 (fun j hj=>⟨by have:=GR.out; have:=S5.out; omega,by have:=GR.out; have:=S5.out; omega⟩) TI.out ⟨kd,sa,sb,sc,sd,sn,sm,su,se,sq⟩ FS.out KD.out)
   clear mm5
   go_wp2_with fail
   refine CD.out.mono ?_
   rintro e w6 ⟨rfl,hm6,k6⟩
   have hgr:=GR.out
   have s5:=S5.out
   have KR6:=Lib.hid (KR2.out.keep k6 (fun h=>by have:=h.1; omega))
   have GB6:=Lib.hid (GB2.out.keep k6 (fun h=>h.2 rfl))
   have BW6:=Lib.hid (BW2.out.trans (k6.below BW2.out.size (fun j hj h=>by have:=h.1; omega)))
   have IM6:=Lib.hid hm6
   have HW:Hid (HInv (stepF τ ⟨kd,sa,sb,sc,sd,sn,sm,su,se,sq⟩).1):=Lib.hid (TI.out.step _)
   generalize stepF τ ⟨kd,sa,sb,sc,sd,sn,sm,su,se,sq⟩=R at RD IM6 HW
   obtain ⟨ρ,gt,er⟩:=R
   clear hm6 k6 s0 s1 s2 s3 s4 s5 s6 s7 s8 s9 sl KR2 GB2 BW2 IM2 KS CD hgr
   by_cases he:er=0
   ·subst he
    have RR:=Lib.hid (RU.out.trans (RD.out.trans (if_neg (fun q=>q rfl))))
    have hjl:=HJ.out
    have hsl:=SL.out
    have gl:=GB6.out.lt
    have TH:=Lib.hid (gots_there (k:=j) GB6.out (by rw [gotsAt_len (by omega)]; exact hjl))
    have GS:=Lib.hid (show Blk (w6.setCells w3.heap.size (j * 2) [.int .i64 gt.gx,.int .i64 gt.gy]) w3.heap.size (gtCells (gotsAt (hs++[gt]) xn)).toArray 93 from by
     have h:=gots_set (k:=j) GB6.out (by rw [gotsAt_len (by omega)]; exact hjl) gt
     subst hsl
     rwa [gotsAt_set hjl gt] at h)
    have kk:Keep (·=w3.heap.size) w6 (w6.setCells w3.heap.size (j * 2) [.int .i64 gt.gx,.int .i64 gt.gy]):=Keep.setCells _ _ (Keep.refl _ _) (.inl rfl)
    have KK:=Lib.hid kk
    obtain ⟨W7,hW7⟩:∃ W7,W7=w6.setCells w3.heap.size (j * 2) [.int .i64 gt.gx,.int .i64 gt.gy]:=⟨_,rfl⟩
    rw [← hW7] at GS KK
    have HW7:=Lib.hid hW7
    have IM7:Hid (MIs (ApIn W.heap.size w3.heap.size) W7 k2 ρ):=Lib.hid (by
     obtain ⟨G6,M6,gb6,vb6,h⟩:=IM6.out
     exact ⟨G6,M6,gb6,vb6,h.blk.keep KK.out (fun e=>h.dk.2 e),h.led.keep KK.out (fun e=>h.dg.2 e) (fun e=>h.dm.2 e),h.pb.keep KK.out (fun e=>(h.db gb6 (.inl rfl)).2 e) (fun b hb e=>(h.db b (.inr hb)).2 e),h.dk,h.dg,h.dm,h.db⟩)
    have BW7:=Lib.hid (BW6.out.trans (KK.out.below BW6.out.size (fun j hj e=>by have:=GR.out; omega)))
    clear hW7 kk hsl
    go_wp2_with (refine wpList_store_mid rfl 93 (.tmp 60) (.tmp 59) rfl w3.heap.size (j * 2) #[.int .i64 gt.gx,.int .i64 gt.gy] rfl rfl TH.out (by kernel_rfl) (by simp [Value.oneCell']) ?_; rw [← HW7.out])
    have hjl:=HJ.out
    have hsl:=SL.out
    exact ⟨⟨j + 1,ρ,hs++[gt],by omega,by go_num,RR.out,by rw [List.length_append,hsl]; rfl,HW.out,IM7.out,GS.out,BW7.out⟩,by simp [intOf]; omega⟩
   ·have q2:(er != 0)=true:=by simpa using he
    have AE:=Lib.hid (applyF_err (by rw [HXL.out]; exact XN.out) (RU.out.trans (RD.out.trans (if_pos he))) he)
    clear he
    go_wp2_with (refine wpList_store_whole rfl 36 (.tmp 4) (.tmp 54) rfl (w.heap.size + 1) #[.int .i64 er,.int .i64 j,.slice none 0 0] rfl rfl 36 _ KR6.out.out (by kernel_rfl) rfl (by simp [Value.oneCell']) ?_)
    refine bodyPost_ret (v:=.agg #[.int .i64 er,.int .i64 j,.slice none 0 0]) (results_cell_row rfl _ _ (w.heap.size + 1) 36 #[.int .i64 er,.int .i64 j,.slice none 0 0] (0,0) _ rfl (setRow_heap _ (w.heap.size + 1) _ _ _ (0,0) KR6.out.out) Tryz.underlying36 rfl (by kernel_rfl)) rfl ?_
    have kk:=below_keepRow (w:=w6) (w.heap.size + 1) #[.int .i64 er,.int .i64 j,.slice none 0 0]
    unfold ApplyPost
    rw [AE.out]
    exact ⟨_,rfl,.inl ⟨rfl,.inl ⟨rfl,rfl⟩⟩,(MIs.below ⟨_,_,_,_,HM.out⟩ BW6.out).keep KR6.out kk,((Keep.of_below (S:=(·=k)) B2.out).trans (Keep.of_below BW6.out)).trans_new kk (fun j hj e=>by omega)⟩
  ·have hjn:j=xn:=by omega
   subst hjn
   have q1:decide ((j:Int)<(j:Int))=false:=by simp
   have AE:=Lib.hid (applyF_ok (by rw [HXL.out]; exact XN.out) (RU.out.trans (by rw [← HXL.out]; exact runF_end)))
   obtain ⟨G6,M6,gb6,vb6,mm⟩:=IM.out
   have MM6:=Lib.hid mm
   have KA6:=Lib.hid (HM.out.blk.below BW.out HM.out.blk.lt)
   have e0:=mm.blk.cell 0; have e1:=mm.blk.cell 1; have el:=mm.blk.lt
   simp at e0 e1
   have kl:=KA6.out.lt
   clear hjl hj hb mm RU
   go_upto_region 16 with (refine wpList_store_whole rfl 80 (.tmp 68) (.tmp 66) rfl k #[.pointer (some ⟨G6,0,none⟩),.pointer (some ⟨gb6,0,none⟩)] rfl rfl 82 _ KA6.out.out (by kernel_rfl) rfl (by simp [Value.oneCell']) ?_)
   have kk:=below_keepRow (w:=wr) k #[.pointer (some ⟨G6,0,none⟩),.pointer (some ⟨gb6,0,none⟩)]
   have hgr:=GR.out
   have hkW:=HM.out.blk.lt
   have KR7:=Lib.hid (KR1.out.keep kk (blk_blk_ne KR1.out KA6.out (by decide)))
   have GB7:=Lib.hid (GB.out.keep kk (blk_blk_ne GB.out KA6.out (by decide)))
   have M7:Hid (MIs D (wr.setRow k #[.pointer (some ⟨G6,0,none⟩),.pointer (some ⟨gb6,0,none⟩)]) k τ):=Lib.hid ⟨G6,M6,gb6,vb6,setRow_heap wr k _ _ _ (0,0) KA6.out.out,
    MM6.out.led.keep kk (fun e=>by have:=MM6.out.dg.1; omega) (fun e=>by have:=MM6.out.dm.1; omega),MM6.out.pb.keep kk (fun e=>by have:=(MM6.out.db gb6 (.inl rfl)).1; omega) (fun b hb e=>by have:=(MM6.out.db b (.inr hb)).1; omega),
    HM.out.dk,LT.out _ MM6.out.dg.1,LT.out _ MM6.out.dm.1,fun j hj=>LT.out _ (MM6.out.db j hj).1⟩
   have K7:=Lib.hid (((Keep.of_below (S:=(·=k)) B2.out).trans (Keep.of_below BW.out)).trans kk)
   clear kk e0 e1 el kl hgr hkW KR1 GB BW MM6 KA6
   generalize wr.setRow k #[.pointer (some ⟨G6,0,none⟩),.pointer (some ⟨gb6,0,none⟩)]=w7 at *
   go_wp2_with (refine wpList_store_whole rfl 36 (.tmp 4) (.tmp 70) rfl (w.heap.size + 1) #[.int .i64 0,.int .i64 0,.slice (some ⟨w3.heap.size,0,none⟩) j j] rfl rfl 36 _ KR7.out.out (by kernel_rfl) rfl (by simp [Value.oneCell']) ?_)
   refine bodyPost_ret (v:=.agg #[.int .i64 0,.int .i64 0,.slice (some ⟨w3.heap.size,0,none⟩) j j]) (results_cell_row rfl _ _ (w.heap.size + 1) 36 #[.int .i64 0,.int .i64 0,.slice (some ⟨w3.heap.size,0,none⟩) j j] (0,0) _ rfl (setRow_heap _ (w.heap.size + 1) _ _ _ (0,0) KR7.out.out) Tryz.underlying36 rfl (by kernel_rfl)) rfl ?_
   have kk:=below_keepRow (w:=w7) (w.heap.size + 1) #[.int .i64 0,.int .i64 0,.slice (some ⟨w3.heap.size,0,none⟩) j j]
   have hgr:=GR.out
   have hsl:=SL.out
   have hx8:=XN.out
   have GB8:=GB7.out.keep kk (blk_blk_ne GB7.out KR7.out (by decide))
   rw [gotsAt_full hsl] at GB8
   unfold ApplyPost
   rw [AE.out]
   exact ⟨_,rfl,.inl ⟨by rw [gtCells_len],.inr ⟨w3.heap.size,_,by rw [hsl],by omega,GB8,by rw [hsl]; unfold maxLen; omega,by rw [List.size_toArray,gtCells_len]; exact Nat.le_refl _,by rw [List.toList_toArray,List.take_of_length_le (by rw [gtCells_len]; exact Nat.le_refl _)]⟩⟩,M7.out.keep KR7.out kk,K7.out.trans_new kk (fun j hj e=>by omega)⟩
theorem machProg_of (HCp:FCopyProg) {Ok:Stp→Prop} (HK:∀ s,Ok s→KdAns s):MachProg Ok (MIs (fun _=>True)) where
 lt:=fun ⟨_,_,_,_,h⟩=>h.blk.lt
 below:=fun h k=>h.below k
 other:=fun {w w' g k σ τ} h h2 hne q=>by
  obtain ⟨G,M,gb,vb,h⟩:=h
  obtain ⟨_,_,_,_,h2⟩:=h2
  exact ⟨G,M,gb,vb,h.blk.keep q hne,h.led.keep q (blk_blk_ne h.led.blk h2.blk (by decide)) (h.led.map.ne_blk h2.blk),h.pb.keep q (blk_blk_ne h.pb.blk h2.blk (by decide)) (owns_ne h.pb.row h2.blk (by decide)),h.dk,h.dg,h.dm,h.db⟩
 rows:=fun {w w' g σ S} h q hS=>by
  obtain ⟨G,M,gb,vb,h⟩:=h
  have far:∀ {b:Nat} {cs:Array Value} {t:TypeId},Blk w b cs t→(t≠68∧t≠71∧t≠75∧t≠87∧t≠93)→¬ S b:=fun {b cs t} hb ht hs=>by
   obtain ⟨cur,e,h1,h2⟩:=hS b hs
   have he:¬ t≠e:=fun hne=>blk_blk_ne hb (show Blk w b cur e from h1) hne rfl
   have he:=Decidable.not_not.1 he
   subst he
   rcases h2 with h2 | h2 | h2 | h2 | h2
   ·exact ht.1 h2
   ·exact ht.2.1 h2
   ·exact ht.2.2.1 h2
   ·exact ht.2.2.2.1 h2
   ·exact ht.2.2.2.2 h2
  have hm:¬ S M:=fun hs=>by
   obtain ⟨cur,e,h1,_⟩:=hS M hs
   exact h.led.map.ne_blk (show Blk w M cur e from h1) rfl
  refine ⟨G,M,gb,vb,h.blk.keep q (far h.blk (by decide)),h.led.keep q (far h.led.blk (by decide)) hm,h.pb.keep q (far h.pb.blk (by decide)) (fun b hb=>?_),h.dk,h.dg,h.dm,h.db⟩
  obtain ⟨_,_,cur,hc⟩:=owns_type h.pb.row hb
  exact far (show Blk w b cur 197 from hc) (by decide)
 new:=fun w=>(mnew_any w).mono fun e w' ⟨g,he,hg,hI,hb⟩=>⟨g,he,hI _ (fun _ _ _=>trivial),hg,hb⟩
 apply:=fun ⟨_,_,_,_,h⟩ hi x hx ho=>mapply_any HCp h (fun _ _=>trivial) hi x hx (fun s hs=>HK s (ho s hs))
 state:=fun ⟨_,_,_,_,h⟩ hi=>mstate_any h hi
 copy:=fun ⟨_,_,_,_,h⟩ hi=>(mcopy_any HCp h hi).mono fun e w' ⟨g,he,hg,hI,hb⟩=>⟨g,he,hI _ (fun _ _ _=>trivial),hg,hb⟩
end Go.Proofs.YtngnfdnfpiiclaaGreat
namespace Go.Proofs.YtngnfdnfpiiclaaGreat
open Go.RowKit
def way9 (s t:Int) (σ:RS):Nat→RS
 | 0=>σ
 | k + 1=>wayR s t (way9 s t σ k)
theorem route9_by {f0:Int→Int→Int} {B s t want:Int} (h:GInv f0 B):∀ k,(∀ j,j<k→¬ doneR s t (way9 s t ⟨f0,want,[]⟩ j))→RInv f0 B s t want k (way9 s t ⟨f0,want,[]⟩ k)
 | 0,_=>RInv.start h s t want
 | k + 1,hj=>(route9_by h k (fun j hk=>hj j (by omega))).step (hj k (by omega))
theorem route9_is {f0:Int→Int→Int} {B s t want:Int} (h:GInv f0 B) (k:Nat) (hj:∀ j,j<k→¬ doneR s t (way9 s t ⟨f0,want,[]⟩ j)) (hd:doneR s t (way9 s t ⟨f0,want,[]⟩ k)):IsRoute f0 B s t want (way9 s t ⟨f0,want,[]⟩ k) :=
 ⟨k,route9_by h k hj,hd⟩
def p9:List Int:=[1,2,3]
def m9:List Ln:=[⟨2,1,1,10,4⟩,⟨3,2,1,4,4⟩]
end Go.Proofs.YtngnfdnfpiiclaaGreat
