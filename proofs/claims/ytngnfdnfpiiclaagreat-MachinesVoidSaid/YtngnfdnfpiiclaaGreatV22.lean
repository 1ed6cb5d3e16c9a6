/-
  Pieces of one proof, without what is not wanted: Com, Rounds2, SortO, BelowD.
-/
import Derived.Test.YtngnfdnfpiiclaaGreatV01
import Derived.Test.YtngnfdnfpiiclaaGreatV08
import Derived.Test.YtngnfdnfpiiclaaGreatV17
import Derived.Test.YtngnfdnfpiiclaaGreatV21
import Derived.Shelf.SlSortCmp.NoneTotal
import Derived.Sort.Grow
set_option linter.unusedSimpArgs false
set_option linter.unusedVariables false
namespace Go.Proofs.YtngnfdnfpiiclaaGreat
open Go.RowKit
set_option maxHeartbeats 8000000 in
theorem cmade_of {w:World} {a b:Option Addr} {er:Int} (h:∀ w',Below w.heap.size w w'→Calls Tryz.prog 235 #[.agg #[.pointer a,.pointer b],.int .u64 0,.int .u8 0,.int .u8 0,.int .i64 0] w' fun e w''=>e=.returned (.tuple #[noFill,.int .i64 er])∧Below w'.heap.size w' w'') :
  Calls Tryz.prog 240 #[.agg #[.pointer a,.pointer b]] w fun e w'=>e=.returned (.bool (er != 2))∧Below w.heap.size w w':=by
 have b0:=(Below.refl w.heap.size w).alloc (Nat.le_refl _) (.cells #[.pointer a,.pointer b] 80)
 have K:=Lib.hid (Blk.new w #[.pointer a,.pointer b] 80)
 have B:=Lib.hid b0
 have C:=Lib.hid (h _ b0)
 clear b0 h
 obtain ⟨q,hq⟩:∃ q,(er != 2)=q:=⟨_,rfl⟩
 rw [hq]
 unfold noFill at C
 generalize hW:w.alloc (.cells #[.pointer a,.pointer b] 80)=W at *
 have HW:=Lib.hid hW
 clear hW
 have c0:=K.out.cell 0; have c1:=K.out.cell 1
 have cl:=K.out.lt
 simp at c0 c1
 clear K
 go_enter Tryz.func240,Tryz.ntmps240
 go_upto_region 1 with fail
 rw [HW.out]
 go_wp2_with fail
 refine C.out.mono ?_
 rintro e w1 ⟨rfl,b1⟩
 have B1:=Lib.hid ((B.out.trans (b1.mono B.out.size)).alloc (Nat.le_trans B.out.size b1.size) (.cells #[.int .u64 0,.int .u8 0,.int .u8 0,.int .i64 0,.int .i64 0] 241))
 clear b1 c0 c1 cl C B
 go_wp2_with fail
 go_ret
 exact ⟨rfl,B1.out⟩
theorem cmade_any (HD:FDoProg) {w:World} {base G M gb:Nat} {ps:List Int} {ls:List Ln} {l:List Of} {N:Int} {vb:Value} (hL:LedM w G M ps ls) (hI:LInv ps ls) (hP:PB w base gb l N vb) (hJ:BInv l N) :
  Calls Tryz.prog 240 #[.agg #[.pointer (some ⟨G,0,none⟩),.pointer (some ⟨gb,0,none⟩)]] w fun e w'=>e=.returned (.bool true)∧Below w.heap.size w w' :=
 cmade_of (er:=1) (fun w' b=>(pdoS_any HD (hL.below b) hI (hP.below b) hJ 0 0 0 0 (by omega) (by unfold In8; omega) (by unfold In8; omega) (by unfold In64; omega)).mono (by
  rintro e w'' (⟨_,h1,h2⟩ | ⟨h,_⟩)
  ·exact ⟨h1,h2⟩
  ·exact absurd h.1 (by omega)))
theorem may_one (x:Of):(okO 2 [(⟨1,x.ow,x.sl,x.bu,x.lf,x.nu,x.de⟩:Of)]∧(2:Int)≠0)↔x.may:=by
 constructor
 ·rintro ⟨⟨_,h⟩,_⟩
  exact (h _ List.mem_cons_self).1
 ·intro h
  refine ⟨⟨List.pairwise_singleton _ _,fun y hy=>?_⟩,by decide⟩
  rw [List.mem_singleton] at hy
  subst hy
  exact ⟨h,by show (1:Int)≠0; decide,by show (1:Int)<2; decide⟩
set_option maxHeartbeats 8000000 in
set_option maxRecDepth 100000 in
theorem cmay_any (x:Of) (hx:x.Fits) (w:World):Calls Tryz.prog 241 #[.agg #[.int .u64 x.se,.int .u8 x.ow,.int .u8 x.sl,.int .u8 x.bu,.int .i64 x.lf,.int .i64 x.nu,.int .i64 x.de]] w fun e w'=>e=.returned (.bool (decide x.may))∧Below w.heap.size w w':=by
 have b0:=(Below.refl w.heap.size w).alloc (Nat.le_refl _) (.cells #[.int .u64 x.se,.int .u8 x.ow,.int .u8 x.sl,.int .u8 x.bu,.int .i64 x.lf,.int .i64 x.nu,.int .i64 x.de] 294)
 have K:=Lib.hid (Blk.new w #[.int .u64 x.se,.int .u8 x.ow,.int .u8 x.sl,.int .u8 x.bu,.int .i64 x.lf,.int .i64 x.nu,.int .i64 x.de] 294)
 have B:=Lib.hid b0
 have HX:=Lib.hid hx
 obtain ⟨q,hq⟩:∃ q,decide x.may=q:=⟨_,rfl⟩
 have HQ:=Lib.hid hq
 rw [hq]
 clear b0 hx hq
 generalize hW:w.alloc (.cells #[.int .u64 x.se,.int .u8 x.ow,.int .u8 x.sl,.int .u8 x.bu,.int .i64 x.lf,.int .i64 x.nu,.int .i64 x.de] 294)=W at *
 have HW:=Lib.hid hW
 clear hW
 have fz:=K.out.frozen 0
 have cl:=K.out.lt
 have z0:=K.out.cell 0
 simp at z0
 have K2:=Lib.hid (K.out.set 0 (.int .u64 1))
 go_enter Tryz.func241,Tryz.ntmps241
 go_upto_region 1 with fail
 rw [HW.out]
 go_upto_region 2 with fail
 have B2:=Lib.hid (B.out.setCell (p:=⟨w.heap.size,0,none⟩) (by show w.heap.size≤w.heap.size; omega) (.int .u64 1))
 clear fz cl z0 K B
 generalize W.setCell ⟨w.heap.size,0,none⟩ (.int .u64 1)=W2 at *
 have c0:=K2.out.cell 0; have c1:=K2.out.cell 1; have c2:=K2.out.cell 2; have c3:=K2.out.cell 3; have c4:=K2.out.cell 4; have c5:=K2.out.cell 5; have c6:=K2.out.cell 6
 have cl:=K2.out.lt
 simp at c0 c1 c2 c3 c4 c5 c6
 have bl:=(Below.refl W2.heap.size W2).alloc (Nat.le_refl _) (.cells #[.int .u64 1,.int .u8 x.ow,.int .u8 x.sl,.int .u8 x.bu,.int .i64 x.lf,.int .i64 x.nu,.int .i64 x.de] 75)
 have KL:=Lib.hid (Blk.new W2 #[.int .u64 1,.int .u8 x.ow,.int .u8 x.sl,.int .u8 x.bu,.int .i64 x.lf,.int .i64 x.nu,.int .i64 x.de] 75)
 have B3:=Lib.hid (B2.out.trans (bl.mono B2.out.size))
 have RD:Hid (Reads (W2.alloc (.cells #[.int .u64 1,.int .u8 x.ow,.int .u8 x.sl,.int .u8 x.bu,.int .i64 x.lf,.int .i64 x.nu,.int .i64 x.de] 75)) (.slice (some ⟨W2.heap.size,0,none⟩) 1 1) 7 [(⟨1,x.ow,x.sl,x.bu,x.lf,x.nu,x.de⟩:Of)].length (ofCells [(⟨1,x.ow,x.sl,x.bu,x.lf,x.nu,x.de⟩:Of)])):=Lib.hid (by
  refine ⟨_,1,rfl,by show (1:Nat)≤100000000; decide,rfl,fun _=>⟨W2.heap.size,0,rfl,KL.out.lt,fun j hj=>?_⟩⟩
  rw [Nat.zero_add,KL.out.cell j]
  have hj7:j<7:=hj
  rcases (by omega:j=0∨j=1∨j=2∨j=3∨j=4∨j=5∨j=6) with rfl | rfl | rfl | rfl | rfl | rfl | rfl <;> rfl)
 have CO:=Lib.hid (pofB_any (nx:=2) RD.out (fun y hy=>by rw [List.mem_singleton] at hy; subst hy; exact ⟨by show (0:Int)≤1∧(1:Int)≤18446744073709551615; decide,HX.out.ow,HX.out.sl,HX.out.bu,HX.out.lf,HX.out.nu,HX.out.de⟩) (by decide) (by decide))
 have QY:Hid ((okO 2 [(⟨1,x.ow,x.sl,x.bu,x.lf,x.nu,x.de⟩:Of)]∧(2:Int)≠0)↔x.may):=Lib.hid (may_one x)
 clear bl RD
 go_wp2_with fail
 generalize W2.alloc (.cells #[.int .u64 1,.int .u8 x.ow,.int .u8 x.sl,.int .u8 x.bu,.int .i64 x.lf,.int .i64 x.nu,.int .i64 x.de] 75)=W3 at *
 refine CO.out.mono ?_
 rintro e w1 ⟨b1,hp⟩
 have B4:=Lib.hid (B3.out.trans (b1.mono B3.out.size))
 clear b1 c0 c1 c2 c3 c4 c5 c6 cl CO KL K2 B2
 rcases hp with ⟨_,h1,h2,g,vl,rfl,_⟩ | ⟨rfl,h⟩ | ⟨rfl,_,h⟩
 ·obtain rfl:true=q:=by rw [← HQ.out,decide_eq_true (QY.out.1 ⟨h1,h2⟩)]
  clear h1 h2
  go_wp2_with fail
  go_ret
  exact ⟨rfl,B4.out⟩
 ·exact absurd h (by show ¬ 32<1; decide)
 ·obtain rfl:false=q:=by rw [← HQ.out,decide_eq_false (fun q=>h (QY.out.2 q))]
  clear h
  go_wp2_with fail
  go_ret
  exact ⟨rfl,B4.out⟩
def wrongC (ps:List Int) (x:Of):Int:=if ¬ x.may then 1 else if x.ow ∉ ps then 7 else 0
set_option maxHeartbeats 8000000 in
theorem cwrong_void {w:World} {a b:Option Addr} (x:Of) (h:∀ w',Below w.heap.size w w'→Calls Tryz.prog 240 #[.agg #[.pointer a,.pointer b]] w' fun e w''=>e=.returned (.bool false)∧Below w'.heap.size w' w'') :
  Calls Tryz.prog 200 #[.agg #[.int .u64 x.se,.int .u8 x.ow,.int .u8 x.sl,.int .u8 x.bu,.int .i64 x.lf,.int .i64 x.nu,.int .i64 x.de],.agg #[.pointer a,.pointer b]] w fun e w'=>e=.returned (.int .i64 2)∧Below w.heap.size w w':=by
 have b0:=((Below.refl w.heap.size w).alloc (Nat.le_refl _) (.cells #[.int .u64 x.se,.int .u8 x.ow,.int .u8 x.sl,.int .u8 x.bu,.int .i64 x.lf,.int .i64 x.nu,.int .i64 x.de] 294))
 have b1:=b0.alloc b0.size (.cells #[.pointer a,.pointer b] 80)
 have K:=Lib.hid (Blk.newAt (w.alloc (.cells #[.int .u64 x.se,.int .u8 x.ow,.int .u8 x.sl,.int .u8 x.bu,.int .i64 x.lf,.int .i64 x.nu,.int .i64 x.de] 294)) #[.pointer a,.pointer b] 80 (g:=w.heap.size + 1) (by simp))
 have B:=Lib.hid b1
 have C:=Lib.hid (h _ b1)
 clear b0 b1 h
 generalize hW:(w.alloc (.cells #[.int .u64 x.se,.int .u8 x.ow,.int .u8 x.sl,.int .u8 x.bu,.int .i64 x.lf,.int .i64 x.nu,.int .i64 x.de] 294)).alloc (.cells #[.pointer a,.pointer b] 80)=W at *
 have HW:=Lib.hid hW
 clear hW
 have c0:=K.out.cell 0; have c1:=K.out.cell 1
 have cl:=K.out.lt
 simp at c0 c1
 clear K
 go_enter Tryz.func200,Tryz.ntmps200
 go_upto_region 1 with fail
 rw [HW.out]
 go_wp2_with fail
 refine C.out.mono ?_
 rintro e w1 ⟨rfl,b1⟩
 have B1:=Lib.hid (B.out.trans (b1.mono B.out.size))
 clear b1 c0 c1 cl C B
 go_wp2_with fail
 go_ret
 exact ⟨rfl,B1.out⟩
set_option maxHeartbeats 16000000 in
set_option maxRecDepth 100000 in
theorem cwrong_any (HD:FDoProg) {w:World} {base G M gb:Nat} {ps:List Int} {ls:List Ln} {l:List Of} {N:Int} {vb:Value} (hL:LedM w G M ps ls) (hI:LInv ps ls) (hP:PB w base gb l N vb) (hJ:BInv l N) (x:Of) (hx:x.Fits) :
  Calls Tryz.prog 200 #[.agg #[.int .u64 x.se,.int .u8 x.ow,.int .u8 x.sl,.int .u8 x.bu,.int .i64 x.lf,.int .i64 x.nu,.int .i64 x.de],.agg #[.pointer (some ⟨G,0,none⟩),.pointer (some ⟨gb,0,none⟩)]] w fun e w'=>e=.returned (.int .i64 (wrongC ps x))∧Below w.heap.size w w':=by
 have b0:=((Below.refl w.heap.size w).alloc (Nat.le_refl _) (.cells #[.int .u64 x.se,.int .u8 x.ow,.int .u8 x.sl,.int .u8 x.bu,.int .i64 x.lf,.int .i64 x.nu,.int .i64 x.de] 294))
 have b1:=b0.alloc b0.size (.cells #[.pointer (some ⟨G,0,none⟩),.pointer (some ⟨gb,0,none⟩)] 80)
 have KS:=Lib.hid ((Blk.new w #[.int .u64 x.se,.int .u8 x.ow,.int .u8 x.sl,.int .u8 x.bu,.int .i64 x.lf,.int .i64 x.nu,.int .i64 x.de] 294).alloc (.cells #[.pointer (some ⟨G,0,none⟩),.pointer (some ⟨gb,0,none⟩)] 80))
 have KH:=Lib.hid (Blk.newAt (w.alloc (.cells #[.int .u64 x.se,.int .u8 x.ow,.int .u8 x.sl,.int .u8 x.bu,.int .i64 x.lf,.int .i64 x.nu,.int .i64 x.de] 294)) #[.pointer (some ⟨G,0,none⟩),.pointer (some ⟨gb,0,none⟩)] 80 (g:=w.heap.size + 1) (by simp))
 have HL:=Lib.hid (hL.below b1)
 have C:=Lib.hid (cmade_any HD (hL.below b1) hI (hP.below b1) hJ)
 have B:=Lib.hid b1
 have HB:=Lib.hid hI.bd
 have CM:=Lib.hid (fun w=>cmay_any x hx w)
 obtain ⟨R,hR⟩:∃ R,wrongC ps x=R:=⟨_,rfl⟩
 rw [hR]
 have HR:=Lib.hid hR
 clear b0 b1 hL hI hP hJ hR hx
 generalize hW:(w.alloc (.cells #[.int .u64 x.se,.int .u8 x.ow,.int .u8 x.sl,.int .u8 x.bu,.int .i64 x.lf,.int .i64 x.nu,.int .i64 x.de] 294)).alloc (.cells #[.pointer (some ⟨G,0,none⟩),.pointer (some ⟨gb,0,none⟩)] 80)=W at *
 have HW:=Lib.hid hW
 clear hW
 have c0:=KH.out.cell 0; have c1:=KH.out.cell 1
 have cl:=KH.out.lt
 simp at c0 c1
 go_enter Tryz.func200,Tryz.ntmps200
 go_upto_region 1 with fail
 rw [HW.out]
 go_wp2_with fail
 refine C.out.mono ?_
 rintro e w1 ⟨rfl,b1⟩
 have HL1:=Lib.hid (HL.out.below b1)
 have KS1:=Lib.hid (KS.out.below b1 KS.out.lt)
 have KH1:=Lib.hid (KH.out.below b1 KH.out.lt)
 have B1:=Lib.hid (B.out.trans (b1.mono B.out.size))
 clear b1 c0 c1 cl C B HL KS KH
 have s0:=KS1.out.cell 0; have s1:=KS1.out.cell 1; have s2:=KS1.out.cell 2; have s3:=KS1.out.cell 3; have s4:=KS1.out.cell 4; have s5:=KS1.out.cell 5; have s6:=KS1.out.cell 6
 have sl:=KS1.out.lt
 simp at s0 s1 s2 s3 s4 s5 s6
 by_cases hm:x.may
 ·rw [decide_eq_true hm] at CM
  have HMY:=Lib.hid hm
  clear hm
  go_wp2_with fail
  refine (CM.out _).mono ?_
  rintro e w2 ⟨rfl,b2⟩
  have HL2:=Lib.hid (HL1.out.below b2)
  have KS2:=Lib.hid (KS1.out.below b2 KS1.out.lt)
  have KH2:=Lib.hid (KH1.out.below b2 KH1.out.lt)
  have B2:=Lib.hid (B1.out.trans (b2.mono B1.out.size))
  clear b2 s0 s1 s2 s3 s4 s5 s6 sl CM B1 HL1 KS1 KH1
  have s1:=KS2.out.cell 1
  have sl:=KS2.out.lt
  have c0:=KH2.out.cell 0; have c1:=KH2.out.cell 1
  have cl:=KH2.out.lt
  simp at s1 c0 c1
  have CF:=Lib.hid (has_any HL2.out.blk HB.out x.ow)
  by_cases hf:x.ow ∈ ps
  ·rw [decide_eq_true hf] at CF
   have EE:Hid (R=0):=Lib.hid (by rw [← HR.out]; unfold wrongC; rw [if_neg (fun h=>h HMY.out),if_neg (fun h=>h hf)])
   clear hf
   go_wp2_with fail
   refine CF.out.mono ?_
   rintro e w3 ⟨rfl,rfl⟩
   go_wp2_with fail
   go_ret
   exact ⟨by rw [EE.out]; rfl,B2.out⟩
  ·rw [decide_eq_false hf] at CF
   have EE:Hid (R=7):=Lib.hid (by rw [← HR.out]; unfold wrongC; rw [if_neg (fun h=>h HMY.out),if_pos hf])
   clear hf
   go_wp2_with fail
   refine CF.out.mono ?_
   rintro e w3 ⟨rfl,rfl⟩
   go_wp2_with fail
   go_ret
   exact ⟨by rw [EE.out]; rfl,B2.out⟩
 ·rw [decide_eq_false hm] at CM
  have EE:Hid (R=1):=Lib.hid (by rw [← HR.out]; unfold wrongC; rw [if_pos hm])
  clear hm
  go_wp2_with fail
  refine (CM.out _).mono ?_
  rintro e w2 ⟨rfl,b2⟩
  have B2:=Lib.hid (B1.out.trans (b2.mono B1.out.size))
  clear b2 s0 s1 s2 s3 s4 s5 s6 sl CM B1
  go_wp2_with fail
  go_ret
  exact ⟨by rw [EE.out]; rfl,B2.out⟩
set_option maxHeartbeats 8000000 in
set_option maxRecDepth 100000 in
theorem crest_none (x:Of) (hn:x.lf<1) (b:Option Addr) (w:World) :
  Calls Tryz.prog 202 #[.agg #[.int .u64 x.se,.int .u8 x.ow,.int .u8 x.sl,.int .u8 x.bu,.int .i64 x.lf,.int .i64 x.nu,.int .i64 x.de],.pointer b] w fun e w'=>e=.returned (.tuple #[.int .u64 0,.int .i64 0])∧Below w.heap.size w w':=by
 have b0:=((Below.refl w.heap.size w).alloc (Nat.le_refl _) (.cells #[.int .u64 x.se,.int .u8 x.ow,.int .u8 x.sl,.int .u8 x.bu,.int .i64 x.lf,.int .i64 x.nu,.int .i64 x.de] 294))
 have KS:=Lib.hid (Blk.new w #[.int .u64 x.se,.int .u8 x.ow,.int .u8 x.sl,.int .u8 x.bu,.int .i64 x.lf,.int .i64 x.nu,.int .i64 x.de] 294)
 have B:=Lib.hid b0
 have q0:decide (x.lf<1)=true:=by simpa using hn
 clear b0 hn
 generalize hW:w.alloc (.cells #[.int .u64 x.se,.int .u8 x.ow,.int .u8 x.sl,.int .u8 x.bu,.int .i64 x.lf,.int .i64 x.nu,.int .i64 x.de] 294)=W at *
 have HW:=Lib.hid hW
 clear hW
 have s4:=KS.out.cell 4
 have sl:=KS.out.lt
 simp at s4
 go_enter Tryz.func202,Tryz.ntmps202
 go_upto_region 1 with fail
 rw [HW.out]
 go_wp2_with fail
 go_ret2
 exact ⟨rfl,B.out⟩
set_option maxHeartbeats 8000000 in
set_option maxRecDepth 100000 in
theorem crest_any {w:World} {base g:Nat} {l:List Of} {N:Int} {vl:Value} (h:PB w base g l N vl) (hI:BInv l N) (x:Of) (hx:x.Fits) (hn:¬ x.lf<1) :
  Calls Tryz.prog 202 #[.agg #[.int .u64 x.se,.int .u8 x.ow,.int .u8 x.sl,.int .u8 x.bu,.int .i64 x.lf,.int .i64 x.nu,.int .i64 x.de],.pointer (some ⟨g,0,none⟩)] w fun e w'=>e=.returned (.tuple #[.int .u64 (placeS l ⟨N,x.ow,x.sl,x.bu,x.lf,x.nu,x.de⟩),.int .i64 (placeE l ⟨N,x.ow,x.sl,x.bu,x.lf,x.nu,x.de⟩)]) ∧
   ∃ vl',PB w' base g (placeL l ⟨N,x.ow,x.sl,x.bu,x.lf,x.nu,x.de⟩) (placeN l ⟨N,x.ow,x.sl,x.bu,x.lf,x.nu,x.de⟩) vl'∧Keep (Foot g vl) w w'∧Moved w vl vl':=by
 have b0:=((Below.refl w.heap.size w).alloc (Nat.le_refl _) (.cells #[.int .u64 x.se,.int .u8 x.ow,.int .u8 x.sl,.int .u8 x.bu,.int .i64 x.lf,.int .i64 x.nu,.int .i64 x.de] 294))
 have KS:=Lib.hid (Blk.new w #[.int .u64 x.se,.int .u8 x.ow,.int .u8 x.sl,.int .u8 x.bu,.int .i64 x.lf,.int .i64 x.nu,.int .i64 x.de] 294)
 have B:=Lib.hid b0
 have q0:decide (x.lf<1)=false:=by simpa using hn
 have CP:=Lib.hid (pplace_any (x:=⟨N,x.ow,x.sl,x.bu,x.lf,x.nu,x.de⟩) (h.below b0) hI ⟨⟨by have:=hI.n1; show 0≤N; omega,hI.n2⟩,hx.ow,hx.sl,hx.bu,hx.lf,hx.nu,hx.de⟩)
 obtain ⟨rs,hrs⟩:∃ rs,placeS l ⟨N,x.ow,x.sl,x.bu,x.lf,x.nu,x.de⟩=rs:=⟨_,rfl⟩
 obtain ⟨re,hre⟩:∃ re,placeE l ⟨N,x.ow,x.sl,x.bu,x.lf,x.nu,x.de⟩=re:=⟨_,rfl⟩
 rw [hrs,hre] at CP ⊢
 dsimp only at CP
 clear b0 hn h hI hx hrs hre
 generalize hW:w.alloc (.cells #[.int .u64 x.se,.int .u8 x.ow,.int .u8 x.sl,.int .u8 x.bu,.int .i64 x.lf,.int .i64 x.nu,.int .i64 x.de] 294)=W at *
 have HW:=Lib.hid hW
 clear hW
 have s1:=KS.out.cell 1; have s2:=KS.out.cell 2; have s3:=KS.out.cell 3; have s4:=KS.out.cell 4; have s5:=KS.out.cell 5; have s6:=KS.out.cell 6
 have sl:=KS.out.lt
 simp at s1 s2 s3 s4 s5 s6
 go_enter Tryz.func202,Tryz.ntmps202
 go_upto_region 1 with fail
 rw [HW.out]
 go_wp2_with fail
 refine CP.out.mono ?_
 rintro e w1 ⟨rfl,vl',hP,k1,hm⟩
 have HP:=Lib.hid hP
 have K1:=Lib.hid ((Keep.of_below (S:=Foot g vl) B.out).trans k1)
 have M1:=Lib.hid (show Moved w vl vl' from fun b hb=>(hm b hb).imp id (fun h=>Nat.le_trans B.out.size h))
 clear hP k1 hm CP s1 s2 s3 s4 s5 s6 sl
 go_wp2_with fail
 go_ret2
 exact ⟨rfl,vl',HP.out,K1.out,M1.out⟩
end Go.Proofs.YtngnfdnfpiiclaaGreat
namespace Go.Proofs.YtngnfdnfpiiclaaGreat
open Go.RowKit
structure OldFrom (B l:Nat) (W W':World):Prop where
 size:W.heap.size≤W'.heap.size
 same:∀ k,B≤k→k≠l→k<W.heap.size→W'.heap[k]? = W.heap[k]?
structure OldAll (B:Nat) (W W':World):Prop where
 size:W.heap.size≤W'.heap.size
 same:∀ k,B≤k→k<W.heap.size→W'.heap[k]? = W.heap[k]?
theorem OldAll.of_keep {S:Nat→Prop} {B:Nat} {W W':World} (h:Keep S W W') (hS:∀ k,B≤k→¬ S k):OldAll B W W' :=
 ⟨h.size,fun k hB hk=>h.block k hk (hS k hB)⟩
theorem Blk.old {W W':World} {B l g:Nat} {cs:Array Value} {t:TypeId} (h:Blk W g cs t) (k:OldFrom B l W W') (hB:B≤g) (hl:g≠l):Blk W' g cs t:=(k.same g hB hl h.lt).trans h
def SeqK (P:Program) (gf:FuncId) (lb:Array Value) {St:Type} (s0:St) (S:St→Prop) (Y:St→Array Value→World→Prop) (next:St→St→Prop) (I:St→World→Prop):Prop :=
 ∀ (n l B:Nat) (J:St→World→Prop) (Jx:World→Prop),(∀ s W W',J s W→Below W.heap.size W W'→J s W')→(∀ s W,J s W→I s W) →
  (∀ m s vs W,J s W→Y s vs W→YieldAt Fence.wide m P l vs W fun e W'=>OldFrom B l W W'∧((e=.returned (.bool true)∧∃ s',next s s'∧J s' W')∨(e=.returned (.bool false)∧Jx W'))) →
  ∀ W,J s0 W→B≤W.heap.size→l<W.heap.size→CallsIn Fence.wide n P gf (#[.func (.yield l) #[] #[]]++lb) W fun e W'=>(∃ v,e=.returned v)∧((∃ s,S s∧J s W')∨Jx W')
def roundEndK {St:Type} (B:Nat) (I:St→World→Prop) (Ix:Code→World→Prop) (next:St→St→Prop) (s:St) (W:World):Exit→Act→World→Prop
 | .normal,_,W'=>OldAll B W W'∧∃ s',next s s'∧I s' W'
 | .ret,_,W'=>OldAll B W W'∧Ix .ret W'
 | .exit id,_,W'=>OldAll B W W'∧Ix (.exit id) W'
 | .goto t,_,W'=>OldAll B W W'∧Ix (.goto t) W'
 | .panic _,_,_=>False
 | .outgrown,_,_=>False
theorem wp_roundsK {P:Program} {g:Operand} {ps:Array Tmp} {assign body:Code} {Q:Exit→Act→World→Prop} {a:Act} {w:World} {St:Type} {gf:FuncId} {lb:Array Value}
  (hg:a.eval g=.func (.func gf) #[] lb) (eg:∀ args w,(callFunc gf args).run P w=.ok (.enter gf args) w)
  (I:St→World→Prop) (Y:St→Array Value→World→Prop) (Ix:Code→World→Prop) (S:St→Prop) (next:St→St→Prop) (A:St→Array Value→Act→World→Prop)
  (hI:∀ s,Fits w.heap.size (I s)) (hIx:∀ c,Fits w.heap.size (Ix c)) (hA:∀ s vs a,Fits w.heap.size (A s vs a)) (hps:∀ s vs W,Y s vs W→vs.size=ps.size)
  (s0:St) (hseq:SeqK P gf lb s0 S Y next I) (h0:I s0 w)
  (hassign:∀ (m l:Nat) (s:St) (vs:Array Value) (W:World) (K:Act→World→Prop),I s W→Y s vs W→(∀ a' W',Below W.heap.size W W'→A s vs a' W'→K a' W') →
   assign.wpIn (Fence.wide.inRound l) m P (Exit.then K fun _ _ _=>False) { tmps:=(ps.zip vs).foldl (fun t (p,v)=>t.setIfInBounds p v) a.tmps,defers:=[] } W)
  (hbody:∀ (m l:Nat) (s:St) (vs:Array Value) (a':Act) (W:World),w.heap.size≤W.heap.size→I s W→A s vs a' W→body.wpIn (Fence.wide.inRound l) m P (roundEndK w.heap.size I Ix next s W) a' W)
  (hdone:∀ (D:Nat) (s:St) (W:World),w.heap.size≤D→S s→I s W→W.heap[D]? = some (.deferred (some []))→Q .normal { a with defers:={ target:=.collected D,args:=#[] }::a.defers } W)
  (hstop:∀ (D:Nat) (c:Code) (W:World),w.heap.size≤D→Ix c W→W.heap[D]? = some (.deferred (some []))→c.wp P Q { a with defers:={ target:=.collected D,args:=#[] }::a.defers } W) :
  (Code.rangeFunc g ps assign body).wp P Q a w:=by
 refine (wpIn_wide (n:=0)).1 (wpIn_rangeFunc fun fn hfn=>?_)
 obtain ⟨rec,hrec⟩:∃ rec:LoopState→Option Code→Loop,rec=fun st pe=>{ state:=st,pending:=pe,fn,tmps:=a.tmps,params:=ps,assign,body,defers:=w.heap.size }:=⟨_,rfl⟩
 obtain ⟨W1,hW1⟩:∃ W1,(w.alloc (.deferred (some []))).alloc (.loop (rec .ready none))=W1:=⟨_,rfl⟩
 have hl1:W1.heap[w.heap.size + 1]? = some (.loop (rec .ready none)):=by
  have e:=World.alloc_heap_new (w.alloc (.deferred (some []))) (.loop (rec .ready none))
  rw [World.size_alloc,hW1] at e
  exact e
 have hd1:W1.heap[w.heap.size]? = some (.deferred (some [])):=by
  rw [← hW1]
  exact (Below.heap_alloc _ _ _ (by simp)).trans (World.alloc_heap_new w _)
 have hb1:Below w.heap.size w W1:=by
  rw [← hW1]
  exact ((Below.refl _ w).alloc (Nat.le_refl _) _).alloc (by simp) _
 have hI1:I s0 W1:=(hI s0).grow _ _ h0 hb1
 refine ⟨w.heap.size + 1,[{ target:=.collected w.heap.size,args:=#[] }],W1,{ target:=.fn (.func gf) lb,args:=#[.func (.yield (w.heap.size + 1)) #[] #[]] },W1,gf,
  #[.func (.yield (w.heap.size + 1)) #[] #[]]++lb,W1,?_,?_,fun _ _=>trivial,?_,fun hh=>(by cases hh),?_⟩
 ·rw [← hW1,hrec]
  exact run_enterLoop_outer _ _ _ _ _
 ·simp only [resolve,hg]
  simp [go_sem]
 ·simp [invoke,go_sem,eg]
 refine (hseq (0 - 1) (w.heap.size + 1) w.heap.size (fun s W=>I s W∧W.heap[w.heap.size + 1]? = some (.loop (rec .ready none))∧W.heap[w.heap.size]? = some (.deferred (some [])))
  (fun W=>∃ c,Ix c W∧W.heap[w.heap.size + 1]? = some (.loop (rec .done (some c)))∧W.heap[w.heap.size]? = some (.deferred (some [])))
  (fun s W W' h hb=>⟨(hI s).grow _ _ h.1 hb,(hb.block _ (Array.getElem?_eq_some_iff.1 h.2.1).1).trans h.2.1,(hb.block _ (Array.getElem?_eq_some_iff.1 h.2.2).1).trans h.2.2⟩)
  (fun s W h=>h.1) ?_ W1 ⟨hI1,hl1,hd1⟩ hb1.size (Array.getElem?_eq_some_iff.1 hl1).1).mono ?_
 ·rintro m s vs V ⟨hiV,hlV,hkV⟩ hy
  have hry:=run_yield (P:=P) (args:=vs) hlV (by rw [hrec]; exact hps s vs V hy)
  rw [hrec] at hry
  refine ⟨fn,_,assign,body,hry,roundIn_of_wpIn hfn (hassign m _ s vs V _ hiV hy (fun a1 W hb hAx=>?_))⟩
  clear hry
  have hi:=(hI s).grow _ _ hiV hb
  have hl:=(hb.block _ (Array.getElem?_eq_some_iff.1 hlV).1).trans hlV
  have hk:=(hb.block _ (Array.getElem?_eq_some_iff.1 hkV).1).trans hkV
  have hlt:=(Array.getElem?_eq_some_iff.1 hl).1
  have hltV:=(Array.getElem?_eq_some_iff.1 hlV).1
  refine ⟨_,run_beginRound hl (by rw [hrec]),?_⟩
  obtain ⟨W2,hW2⟩:∃ W2,W.putObj (w.heap.size + 1) (.loop { rec .ready none with state:=.busy })=W2:=⟨_,rfl⟩
  have hl2:W2.heap[w.heap.size + 1]? = some (.loop { rec .ready none with state:=.busy }):=by rw [← hW2]; exact World.putObj_heap_same hlt
  have hk2:W2.heap[w.heap.size]? = some (.deferred (some [])):=by rw [← hW2]; exact (World.putObj_heap_other (by omega)).trans hk
  have hs2:W2.heap.size=W.heap.size:=by rw [← hW2]; simp [World.putObj]
  have ho2:∀ k,k≠w.heap.size + 1→W2.heap[k]? = W.heap[k]? := fun k hk=>by rw [← hW2]; exact World.putObj_heap_other (by omega)
  have hi2:I s W2:=by rw [← hW2]; exact (hI s).turn _ _ _ _ hi (by omega) hl rfl
  have hA2:A s vs a1 W2:=by rw [← hW2]; exact (hA s vs a1).turn _ _ _ _ hAx (by omega) hl rfl
  rw [hW2]
  refine wpIn_mono (hbody m _ s vs a1 W2 (by omega) hi2 hA2) ?_
  have fin:∀ (jump:Option Code) (W3:World),OldAll w.heap.size W2 W3 →
    (Instr.endRound (w.heap.size + 1) jump).run P W3=.ok (.bool jump.isNone) (W3.putObj (w.heap.size + 1) (.loop (rec (if jump.isNone then .ready else .done) jump))) ∧
    W3.heap[w.heap.size + 1]? = some (.loop { rec .ready none with state:=.busy }) ∧
    (W3.putObj (w.heap.size + 1) (.loop (rec (if jump.isNone then .ready else .done) jump))).heap[w.heap.size + 1]? = some (.loop (rec (if jump.isNone then .ready else .done) jump)) ∧
    (W3.putObj (w.heap.size + 1) (.loop (rec (if jump.isNone then .ready else .done) jump))).heap[w.heap.size]? = some (.deferred (some [])) ∧
    OldFrom w.heap.size (w.heap.size + 1) V (W3.putObj (w.heap.size + 1) (.loop (rec (if jump.isNone then .ready else .done) jump))):=fun jump W3 hk3=>by
   have hl3:=(hk3.same (w.heap.size + 1) (by omega) (by omega)).trans hl2
   have he:=run_endRound (P:=P) jump hl3
   rw [hrec] at he ⊢
   refine ⟨he,by rw [hrec] at hl3; exact hl3,World.putObj_heap_same (Array.getElem?_eq_some_iff.1 hl3).1,(World.putObj_heap_other (by omega)).trans ((hk3.same w.heap.size (Nat.le_refl _) (by omega)).trans hk2),?_,fun k hB hkl hks=>?_⟩
   ·have h1:=hk3.size
    have h2:=hb.size
    simp [World.putObj]
    omega
   ·have h2:=hb.size
    rw [World.putObj_heap_other (by omega),hk3.same k hB (by omega),ho2 k hkl]
    exact hb.block k hks
  rintro e a3 W3 hp
  cases e with
  | normal =>
   obtain ⟨hk3,s',hn,hi3⟩:=hp
   obtain ⟨hr,hl3,hl4,hk4,hof⟩:=fin none W3 hk3
   exact ⟨_,_,hr,hof,.inl ⟨rfl,s',hn,(hI s').turn _ _ _ _ hi3 (by omega) hl3 rfl,hl4,hk4⟩⟩
  | ret =>
   obtain ⟨hk3,hi3⟩:=hp
   obtain ⟨hr,hl3,hl4,hk4,hof⟩:=fin (some .ret) W3 hk3
   exact ⟨_,_,hr,hof,.inr ⟨rfl,.ret,(hIx _).turn _ _ _ _ hi3 (by omega) hl3 rfl,hl4,hk4⟩⟩
  | exit id =>
   obtain ⟨hk3,hi3⟩:=hp
   obtain ⟨hr,hl3,hl4,hk4,hof⟩:=fin (some (.exit id)) W3 hk3
   exact ⟨_,_,hr,hof,.inr ⟨rfl,.exit id,(hIx _).turn _ _ _ _ hi3 (by omega) hl3 rfl,hl4,hk4⟩⟩
  | goto t =>
   obtain ⟨hk3,hi3⟩:=hp
   obtain ⟨hr,hl3,hl4,hk4,hof⟩:=fin (some (.goto t)) W3 hk3
   exact ⟨_,_,hr,hof,.inr ⟨rfl,.goto t,(hIx _).turn _ _ _ _ hi3 (by omega) hl3 rfl,hl4,hk4⟩⟩
  | panic ch=>exact hp.elim
  | outgrown=>exact hp.elim
 ·rintro e W2 ⟨⟨v,rfl⟩,(⟨s,hS,hi,hl,hk⟩ | ⟨c,hi,hl,hk⟩)⟩
  ·have he:=run_endLoop (P:=P) hl (by rw [hrec]; simp)
   rw [hrec] at he
   exact ⟨none,_,he,hdone _ s _ (Nat.le_refl _) hS ((hI s).turn _ _ _ _ hi (by omega) hl rfl) ((World.putObj_heap_other (by omega)).trans hk)⟩
  ·have he:=run_endLoop (P:=P) hl (by rw [hrec]; simp)
   rw [hrec] at he
   exact ⟨some c,_,he,wpIn_wide.2 (hstop _ c _ (Nat.le_refl _) ((hIx c).turn _ _ _ _ hi (by omega) hl rfl) ((World.putObj_heap_other (by omega)).trans hk))⟩
end Go.Proofs.YtngnfdnfpiiclaaGreat
namespace Go.Proofs.YtngnfdnfpiiclaaGreat
open Go.RowKit Go.Shelf
def sortO_ren:Go.Shelf.Ren:=⟨fun | 6=>295 | 15=>141 | 14=>313 | 28=>186 | 29=>187 | 20=>332 | 21=>333 | 22=>334 | 23=>335 | 24=>336 | 25=>337 | 26=>338 | 27=>339 | 46=>348 | 47=>219 | 48=>220 | 49=>349 | 50=>350 | 57=>354 | n=>n,fun | 22=>156 | 24=>197 | 25=>392 | 3=>3 | 39=>227 | 0=>0 | 53=>278 | 55=>44 | 4=>4 | 46=>271 | 45=>270 | 50=>275 | 5=>5 | 9=>9 | 66=>310 | 70=>313 | 76=>358 | 77=>359 | n=>n,fun | n=>n⟩
theorem sortO:Go.Proofs.SlLaysF0.n6 Tryz.prog sortO_ren:={
 mixed:=by kernel_rfl
 f6:=⟨Tryz.f295.name,by decide,Tryz.func295.trans (congrArg some (by kernel_rfl))⟩
 f14:=⟨Tryz.f313.name,by decide,Tryz.func313.trans (congrArg some (by kernel_rfl))⟩
 f15:=Tryz.func141.trans (congrArg some (by kernel_rfl))
 f20:=⟨Tryz.f332.name,by decide,Tryz.func332.trans (congrArg some (by kernel_rfl))⟩
 f21:=⟨Tryz.f333.name,by decide,Tryz.func333.trans (congrArg some (by kernel_rfl))⟩
 f22:=⟨Tryz.f334.name,by decide,Tryz.func334.trans (congrArg some (by kernel_rfl))⟩
 f23:=⟨Tryz.f335.name,by decide,Tryz.func335.trans (congrArg some (by kernel_rfl))⟩
 f24:=⟨Tryz.f336.name,by decide,Tryz.func336.trans (congrArg some (by kernel_rfl))⟩
 f25:=⟨Tryz.f337.name,by decide,Tryz.func337.trans (congrArg some (by kernel_rfl))⟩
 f26:=⟨Tryz.f338.name,by decide,Tryz.func338.trans (congrArg some (by kernel_rfl))⟩
 f27:=⟨Tryz.f339.name,by decide,Tryz.func339.trans (congrArg some (by kernel_rfl))⟩
 f28:=Tryz.func186.trans (congrArg some (by kernel_rfl))
 f29:=Tryz.func187.trans (congrArg some (by kernel_rfl))
 f46:=⟨Tryz.f348.name,by decide,Tryz.func348.trans (congrArg some (by kernel_rfl))⟩
 f47:=Tryz.func219.trans (congrArg some (by kernel_rfl))
 f48:=Tryz.func220.trans (congrArg some (by kernel_rfl))
 f49:=⟨Tryz.f349.name,by decide,Tryz.func349.trans (congrArg some (by kernel_rfl))⟩
 f50:=⟨Tryz.f350.name,by decide,Tryz.func350.trans (congrArg some (by kernel_rfl))⟩
 f57:=⟨Tryz.f354.name,by decide,Tryz.func354.trans (congrArg some (by kernel_rfl))⟩
 t0:=Tryz.underlying0
 a0:=Tryz.isAgg0
 z0:=Tryz.sizeOf0
 v0:=Tryz.zeroValue0
 t3:=Tryz.underlying3
 a3:=Tryz.isAgg3
 z3:=Tryz.sizeOf3
 v3:=Tryz.zeroValue3
 t4:=Tryz.underlying4
 a4:=Tryz.isAgg4
 z4:=Tryz.sizeOf4
 v4:=Tryz.zeroValue4
 t5:=Tryz.underlying5
 a5:=Tryz.isAgg5
 z5:=Tryz.sizeOf5
 v5:=Tryz.zeroValue5
 t9:=Tryz.underlying9
 a9:=Tryz.isAgg9
 z9:=Tryz.sizeOf9
 v9:=Tryz.zeroValue9
 t22:=Tryz.underlying156
 a22:=Tryz.isAgg156
 z22:=Tryz.sizeOf156
 v22:=Tryz.zeroValue156
 t25:=Tryz.underlying392
 a25:=Tryz.isAgg392
 z25:=Tryz.sizeOf392
 v25:=Tryz.zeroValue392
 t39:=Tryz.underlying227
 a39:=Tryz.isAgg227
 z39:=Tryz.sizeOf227
 v39:=Tryz.zeroValue227
 t45:=Tryz.underlying270
 a45:=Tryz.isAgg270
 z45:=Tryz.sizeOf270
 v45:=Tryz.zeroValue270
 t46:=Tryz.underlying271
 a46:=Tryz.isAgg271
 z46:=Tryz.sizeOf271
 v46:=Tryz.zeroValue271
 t50:=Tryz.underlying275
 a50:=Tryz.isAgg275
 z50:=Tryz.sizeOf275
 v50:=Tryz.zeroValue275
 t53:=Tryz.underlying278
 a53:=Tryz.isAgg278
 z53:=Tryz.sizeOf278
 v53:=Tryz.zeroValue278
 t55:=Tryz.underlying44
 a55:=Tryz.isAgg44
 z55:=Tryz.sizeOf44
 v55:=Tryz.zeroValue44
 t66:=Tryz.underlying310
 a66:=Tryz.isAgg310
 z66:=Tryz.sizeOf310
 v66:=Tryz.zeroValue310
 t70:=Tryz.underlying313
 a70:=Tryz.isAgg313
 z70:=Tryz.sizeOf313
 v70:=Tryz.zeroValue313
 t76:=Tryz.underlying358
 a76:=Tryz.isAgg358
 z76:=Tryz.sizeOf358
 v76:=Tryz.zeroValue358
 t77:=Tryz.underlying359
 a77:=Tryz.isAgg359
 z77:=Tryz.sizeOf359
 v77:=Tryz.zeroValue359 }
end Go.Proofs.YtngnfdnfpiiclaaGreat
namespace Go.Proofs.YtngnfdnfpiiclaaGreat
open Go.RowKit
structure BelowD (B:Nat) (w w':World):Prop extends Below B w w' where
 dr:w.drawn≤w'.drawn
theorem BelowD.refl (B:Nat) (w:World):BelowD B w w:=⟨Below.refl B w,Nat.le_refl _⟩
theorem BelowD.trans {B:Nat} {a b c:World} (h:BelowD B a b) (k:BelowD B b c):BelowD B a c:=⟨h.toBelow.trans k.toBelow,Nat.le_trans h.dr k.dr⟩
theorem BelowD.mono {B B':Nat} {w w':World} (h:BelowD B w w') (hb:B'≤B):BelowD B' w w':=⟨h.toBelow.mono hb,h.dr⟩
theorem BelowD.alloc {B:Nat} {a w:World} (h:BelowD B a w) (hb:B≤w.heap.size) (o:Obj):BelowD B a (w.alloc o):=⟨h.toBelow.alloc hb o,h.dr⟩
theorem BelowD.drew {B:Nat} {a w:World} (h:BelowD B a w):BelowD B a w.drew:=⟨h.toBelow.drew,Nat.le_trans h.dr (Nat.le_succ _)⟩
theorem BelowD.setCell {B:Nat} {a w:World} (h:BelowD B a w) {p:Addr} (hp:B≤p.block) (u:Value):BelowD B a (w.setCell p u):=⟨h.toBelow.setCell hp u,h.dr⟩
theorem BelowD.grown {w w':World} (h:BelowD w.heap.size w w'):∃ q os',w'=Go.Sort.grow (w.drewN q) os':=by
 refine ⟨w'.drawn - w.drawn,w'.heap.extract w.heap.size w'.heap.size,?_⟩
 have hd:=h.dr
 have hh:w'.heap=w.heap++w'.heap.extract w.heap.size w'.heap.size:=by
  apply Array.ext_getElem?
  intro i
  by_cases hi:i<w.heap.size
  ·rw [h.block i hi,Array.getElem?_append_left hi]
  ·rw [Array.getElem?_append_right (by omega),Array.getElem?_extract]
   by_cases hi2:i<w'.heap.size
   ·rw [if_pos (by simp; omega)]; congr 1; omega
   ·rw [if_neg (by simp; omega),Array.getElem?_eq_none (by omega)]
 obtain ⟨h0,h1,h2,h3,h4⟩:=w'
 obtain ⟨g0,g1,g2,g3,g4⟩:=w
 have e1:=h.os; have e2:=h.tape; have e3:=h.output
 simp only at hh e1 e2 e3 hd
 subst e1 e2 e3
 simp only [Go.Sort.grow,World.drewN]
 rw [← hh]
 congr 1
 omega
end Go.Proofs.YtngnfdnfpiiclaaGreat
