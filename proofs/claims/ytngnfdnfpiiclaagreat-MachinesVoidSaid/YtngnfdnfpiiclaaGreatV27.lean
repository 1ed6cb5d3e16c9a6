/-
  Pieces of one proof, without what is not wanted: PPlc, PSwap.
-/
import Derived.Test.YtngnfdnfpiiclaaGreatV21
import Derived.Test.YtngnfdnfpiiclaaGreatV26
set_option linter.unusedSimpArgs false
set_option linter.unusedVariables false
namespace Go.Proofs.YtngnfdnfpiiclaaGreat
open Go.RowKit
theorem PB.down12 {w:World} {base base' g:Nat} {l:List Of} {N:Int} {vl:Value} (h:PB w base g l N vl) (hb:base'≤base):PB w base' g l N vl:=⟨h.blk,Nat.le_trans hb h.ge,owns_base h.row hb⟩
def PlcNo (w:World) (er:Int) (e:Ending) (w':World):Prop:=e=.returned (.tuple #[.agg #[.pointer none,.pointer none],.slice none 0 0,.int .u64 0,.int .i64 er])∧Below w.heap.size w w'
set_option maxHeartbeats 8000000 in
set_option maxRecDepth 100000 in
theorem pplc_void {w:World} {a b:Option Addr} (x:Of) (h:∀ w',Below w.heap.size w w'→Calls Tryz.prog 240 #[.agg #[.pointer a,.pointer b]] w' fun e w''=>e=.returned (.bool false)∧Below w'.heap.size w' w'') :
  Calls Tryz.prog 156 #[.agg #[.pointer a,.pointer b],.agg #[.int .u64 x.se,.int .u8 x.ow,.int .u8 x.sl,.int .u8 x.bu,.int .i64 x.lf,.int .i64 x.nu,.int .i64 x.de]] w (PlcNo w 2):=by
 have b1:=(Below.refl w.heap.size w).alloc (Nat.le_refl _) (.cells #[.pointer a,.pointer b] 80)
 have b2:=b1.alloc b1.size (.cells #[.int .u64 x.se,.int .u8 x.ow,.int .u8 x.sl,.int .u8 x.bu,.int .i64 x.lf,.int .i64 x.nu,.int .i64 x.de] 75)
 have b3:=b2.alloc b2.size (.cells #[.pointer none,.pointer none] 80)
 have b4:=b3.alloc b3.size (.cells #[.int .u64 x.se,.int .u8 x.ow,.int .u8 x.sl,.int .u8 x.bu,.int .i64 x.lf,.int .i64 x.nu,.int .i64 x.de] 294)
 have KH:=Lib.hid ((((Blk.new w #[.pointer a,.pointer b] 80).alloc (.cells #[.int .u64 x.se,.int .u8 x.ow,.int .u8 x.sl,.int .u8 x.bu,.int .i64 x.lf,.int .i64 x.nu,.int .i64 x.de] 75)).alloc (.cells #[.pointer none,.pointer none] 80)).alloc (.cells #[.int .u64 x.se,.int .u8 x.ow,.int .u8 x.sl,.int .u8 x.bu,.int .i64 x.lf,.int .i64 x.nu,.int .i64 x.de] 294))
 have KO:=Lib.hid (((Blk.newAt (w.alloc (.cells #[.pointer a,.pointer b] 80)) #[.int .u64 x.se,.int .u8 x.ow,.int .u8 x.sl,.int .u8 x.bu,.int .i64 x.lf,.int .i64 x.nu,.int .i64 x.de] 75 (g:=w.heap.size + 1) (by simp)).alloc (.cells #[.pointer none,.pointer none] 80)).alloc (.cells #[.int .u64 x.se,.int .u8 x.ow,.int .u8 x.sl,.int .u8 x.bu,.int .i64 x.lf,.int .i64 x.nu,.int .i64 x.de] 294))
 have KR:=Lib.hid ((Blk.newAt ((w.alloc (.cells #[.pointer a,.pointer b] 80)).alloc (.cells #[.int .u64 x.se,.int .u8 x.ow,.int .u8 x.sl,.int .u8 x.bu,.int .i64 x.lf,.int .i64 x.nu,.int .i64 x.de] 75)) #[.pointer none,.pointer none] 80 (g:=w.heap.size + 2) (by simp)).alloc (.cells #[.int .u64 x.se,.int .u8 x.ow,.int .u8 x.sl,.int .u8 x.bu,.int .i64 x.lf,.int .i64 x.nu,.int .i64 x.de] 294))
 have KC:=Lib.hid (Blk.newAt (((w.alloc (.cells #[.pointer a,.pointer b] 80)).alloc (.cells #[.int .u64 x.se,.int .u8 x.ow,.int .u8 x.sl,.int .u8 x.bu,.int .i64 x.lf,.int .i64 x.nu,.int .i64 x.de] 75)).alloc (.cells #[.pointer none,.pointer none] 80)) #[.int .u64 x.se,.int .u8 x.ow,.int .u8 x.sl,.int .u8 x.bu,.int .i64 x.lf,.int .i64 x.nu,.int .i64 x.de] 294 (g:=w.heap.size + 3) (by simp))
 have B:=Lib.hid b4
 have CW:=Lib.hid (cwrong_void x (fun w' k=>h w' (andB b4 k)))
 clear b1 b2 b3 b4 h
 generalize hW:((((w.alloc (.cells #[.pointer a,.pointer b] 80)).alloc (.cells #[.int .u64 x.se,.int .u8 x.ow,.int .u8 x.sl,.int .u8 x.bu,.int .i64 x.lf,.int .i64 x.nu,.int .i64 x.de] 75)).alloc (.cells #[.pointer none,.pointer none] 80)).alloc (.cells #[.int .u64 x.se,.int .u8 x.ow,.int .u8 x.sl,.int .u8 x.bu,.int .i64 x.lf,.int .i64 x.nu,.int .i64 x.de] 294))=W at *
 have HW:=Lib.hid hW
 clear hW
 have h0:=KH.out.cell 0; have h1:=KH.out.cell 1
 have hl:=KH.out.lt
 have c0:=KC.out.cell 0; have c1:=KC.out.cell 1; have c2:=KC.out.cell 2; have c3:=KC.out.cell 3; have c4:=KC.out.cell 4; have c5:=KC.out.cell 5; have c6:=KC.out.cell 6
 have cl:=KC.out.lt
 simp at h0 h1 c0 c1 c2 c3 c4 c5 c6
 go_enter Tryz.func156,Tryz.ntmps156
 go_upto_region 2 with fail
 rw [HW.out]
 go_wp2_with fail
 refine CW.out.mono ?_
 rintro e w1 ⟨rfl,b1⟩
 have KR1:=Lib.hid (KR.out.below b1 KR.out.lt)
 have B1:=Lib.hid (B.out.trans (b1.mono B.out.size))
 clear b1 h0 h1 hl c0 c1 c2 c3 c4 c5 c6 cl KH KO KR KC B CW
 have r0:=KR1.out.cell 0; have r1:=KR1.out.cell 1
 have rl:=KR1.out.lt
 simp at r0 r1
 go_wp2_with (refine wpList_store_whole rfl 80 (.tmp 4) (.tmp 15) rfl (w.heap.size + 2) #[.pointer none,.pointer none] rfl rfl 80 _ KR1.out.out (by kernel_rfl) rfl (by simp [Value.oneCell']) ?_)
 refine bodyPost_ret (v:=.tuple #[.agg #[.pointer none,.pointer none],.slice none 0 0,.int .u64 0,.int .i64 2]) (results_cell_and3 rfl _ _ (w.heap.size + 2) 80 #[.pointer none,.pointer none] _ _ _ _ rfl (setRow_heap _ (w.heap.size + 2) _ _ _ (0,0) KR1.out.out) Tryz.underlying80 rfl (by kernel_rfl) rfl rfl rfl) rfl ?_
 exact ⟨rfl,below_setRow B1.out (by omega) _⟩
def PPlc (w:World) (ps:List Int) (ls:List Ln) (l:List Of) (N:Int) (x:Of) (e:Ending) (w':World):Prop :=
 (∃ er:Int,er≠0∧(placeF ps ls l N x.ow x.sl x.bu x.lf x.nu x.de).1=er∧PlcNo w er e w') ∨
 (∃ (G M gb:Nat) (vb:Value) (a:Option Addr) (c:Nat) (σ:SwS) (N' sq:Int),placeF ps ls l N x.ow x.sl x.bu x.lf x.nu x.de=(0,σ,N',sq)∧e=.returned (.tuple #[.agg #[.pointer (some ⟨G,0,none⟩),.pointer (some ⟨gb,0,none⟩)],.slice a σ.fs.length c,.int .u64 sq,.int .i64 0])∧LedM w' G M ps σ.ls∧PB w' w.heap.size gb σ.l N' vb ∧
  Rowed w' w.heap.size 241 5 (.slice a σ.fs.length c) σ.fs.length (flCells x.ow x.ow σ.fs)∧w.heap.size≤G∧w.heap.size≤M∧Below w.heap.size w w')
theorem placeF_wrong {ps:List Int} {ls:List Ln} {l:List Of} {N:Int} {x:Of} {er:Int} (h:wrongC ps x=er) (he:er≠0):(placeF ps ls l N x.ow x.sl x.bu x.lf x.nu x.de).1=er:=by
 unfold wrongC at h
 unfold placeF
 by_cases h1:x.may
 ·have h1':(Of.mk 0 x.ow x.sl x.bu x.lf x.nu x.de).may:=h1
  rw [if_neg (fun q=>q h1)] at h
  rw [if_neg (fun q=>q h1')]
  by_cases h2:x.ow ∉ ps
  ·rw [if_pos h2] at h ⊢
   exact h
  ·rw [if_neg h2] at h
   exact absurd h.symm he
 ·have h1':¬ (Of.mk 0 x.ow x.sl x.bu x.lf x.nu x.de).may:=h1
  rw [if_pos h1] at h
  rw [if_pos h1']
  exact h
theorem placeF_right {ps:List Int} {ls:List Ln} {l:List Of} {N:Int} {x:Of} (h:wrongC ps x=0):x.may∧placeF ps ls l N x.ow x.sl x.bu x.lf x.nu x.de=placeEnd N x.ow x.sl x.bu x.nu x.de (placeG ps x.ow x.sl x.bu x.nu x.de 64 ⟨ls,l,[],x.lf⟩):=by
 unfold wrongC at h
 unfold placeF
 by_cases h1:x.may
 ·have h1':(Of.mk 0 x.ow x.sl x.bu x.lf x.nu x.de).may:=h1
  rw [if_neg (fun q=>q h1)] at h
  rw [if_neg (fun q=>q h1')]
  by_cases h2:x.ow ∉ ps
  ·rw [if_pos h2] at h
   exact absurd h (by decide)
  ·rw [if_neg h2]
   exact ⟨h1,rfl⟩
 ·rw [if_pos h1] at h
  exact absurd h (by decide)
set_option maxHeartbeats 32000000 in
set_option maxRecDepth 100000 in
theorem pplc_any (HMy:FMayProg) (HD:FDoProg) (HCp:FCopyProg) {w:World} {base G M gb:Nat} {ps:List Int} {ls:List Ln} {l:List Of} {N:Int} {vb:Value} (hL:LedM w G M ps ls) (hI:LInv ps ls) (hP:PB w base gb l N vb) (hJ:BInv l N) (x:Of) (hx:x.Fits) :
  Calls Tryz.prog 156 #[.agg #[.pointer (some ⟨G,0,none⟩),.pointer (some ⟨gb,0,none⟩)],.agg #[.int .u64 x.se,.int .u8 x.ow,.int .u8 x.sl,.int .u8 x.bu,.int .i64 x.lf,.int .i64 x.nu,.int .i64 x.de]] w (PPlc w ps ls l N x):=by
 have b1:=(Below.refl w.heap.size w).alloc (Nat.le_refl _) (.cells #[.pointer (some ⟨G,0,none⟩),.pointer (some ⟨gb,0,none⟩)] 80)
 have b2:=b1.alloc b1.size (.cells #[.int .u64 x.se,.int .u8 x.ow,.int .u8 x.sl,.int .u8 x.bu,.int .i64 x.lf,.int .i64 x.nu,.int .i64 x.de] 75)
 have b3:=b2.alloc b2.size (.cells #[.pointer none,.pointer none] 80)
 have b4:=b3.alloc b3.size (.cells #[.int .u64 x.se,.int .u8 x.ow,.int .u8 x.sl,.int .u8 x.bu,.int .i64 x.lf,.int .i64 x.nu,.int .i64 x.de] 294)
 have KH:=Lib.hid ((((Blk.new w #[.pointer (some ⟨G,0,none⟩),.pointer (some ⟨gb,0,none⟩)] 80).alloc (.cells #[.int .u64 x.se,.int .u8 x.ow,.int .u8 x.sl,.int .u8 x.bu,.int .i64 x.lf,.int .i64 x.nu,.int .i64 x.de] 75)).alloc (.cells #[.pointer none,.pointer none] 80)).alloc (.cells #[.int .u64 x.se,.int .u8 x.ow,.int .u8 x.sl,.int .u8 x.bu,.int .i64 x.lf,.int .i64 x.nu,.int .i64 x.de] 294))
 have KO:=Lib.hid (((Blk.newAt (w.alloc (.cells #[.pointer (some ⟨G,0,none⟩),.pointer (some ⟨gb,0,none⟩)] 80)) #[.int .u64 x.se,.int .u8 x.ow,.int .u8 x.sl,.int .u8 x.bu,.int .i64 x.lf,.int .i64 x.nu,.int .i64 x.de] 75 (g:=w.heap.size + 1) (by simp)).alloc (.cells #[.pointer none,.pointer none] 80)).alloc (.cells #[.int .u64 x.se,.int .u8 x.ow,.int .u8 x.sl,.int .u8 x.bu,.int .i64 x.lf,.int .i64 x.nu,.int .i64 x.de] 294))
 have KR:=Lib.hid ((Blk.newAt ((w.alloc (.cells #[.pointer (some ⟨G,0,none⟩),.pointer (some ⟨gb,0,none⟩)] 80)).alloc (.cells #[.int .u64 x.se,.int .u8 x.ow,.int .u8 x.sl,.int .u8 x.bu,.int .i64 x.lf,.int .i64 x.nu,.int .i64 x.de] 75)) #[.pointer none,.pointer none] 80 (g:=w.heap.size + 2) (by simp)).alloc (.cells #[.int .u64 x.se,.int .u8 x.ow,.int .u8 x.sl,.int .u8 x.bu,.int .i64 x.lf,.int .i64 x.nu,.int .i64 x.de] 294))
 have KC:=Lib.hid (Blk.newAt (((w.alloc (.cells #[.pointer (some ⟨G,0,none⟩),.pointer (some ⟨gb,0,none⟩)] 80)).alloc (.cells #[.int .u64 x.se,.int .u8 x.ow,.int .u8 x.sl,.int .u8 x.bu,.int .i64 x.lf,.int .i64 x.nu,.int .i64 x.de] 75)).alloc (.cells #[.pointer none,.pointer none] 80)) #[.int .u64 x.se,.int .u8 x.ow,.int .u8 x.sl,.int .u8 x.bu,.int .i64 x.lf,.int .i64 x.nu,.int .i64 x.de] 294 (g:=w.heap.size + 3) (by simp))
 have B:=Lib.hid b4
 have CW:=Lib.hid (cwrong_any HD (hL.below b4) hI (hP.below b4) hJ x hx)
 have HL:=Lib.hid (hL.below b4)
 have HP:=Lib.hid (hP.below b4)
 have II:=Lib.hid hI
 have JJ:=Lib.hid hJ
 have HX:=Lib.hid hx
 have HSZ:Hid (((((w.alloc (.cells #[.pointer (some ⟨G,0,none⟩),.pointer (some ⟨gb,0,none⟩)] 80)).alloc (.cells #[.int .u64 x.se,.int .u8 x.ow,.int .u8 x.sl,.int .u8 x.bu,.int .i64 x.lf,.int .i64 x.nu,.int .i64 x.de] 75)).alloc (.cells #[.pointer none,.pointer none] 80)).alloc (.cells #[.int .u64 x.se,.int .u8 x.ow,.int .u8 x.sl,.int .u8 x.bu,.int .i64 x.lf,.int .i64 x.nu,.int .i64 x.de] 294)).heap.size=w.heap.size + 4):=Lib.hid (by simp)
 obtain ⟨R,hR⟩:∃ R,wrongC ps x=R:=⟨_,rfl⟩
 rw [hR] at CW
 have HR:=Lib.hid hR
 clear b1 b2 b3 b4 hL hI hP hJ hx hR
 generalize hW:((((w.alloc (.cells #[.pointer (some ⟨G,0,none⟩),.pointer (some ⟨gb,0,none⟩)] 80)).alloc (.cells #[.int .u64 x.se,.int .u8 x.ow,.int .u8 x.sl,.int .u8 x.bu,.int .i64 x.lf,.int .i64 x.nu,.int .i64 x.de] 75)).alloc (.cells #[.pointer none,.pointer none] 80)).alloc (.cells #[.int .u64 x.se,.int .u8 x.ow,.int .u8 x.sl,.int .u8 x.bu,.int .i64 x.lf,.int .i64 x.nu,.int .i64 x.de] 294))=W at *
 have HW:=Lib.hid hW
 clear hW
 have h0:=KH.out.cell 0; have h1:=KH.out.cell 1
 have hl:=KH.out.lt
 have c0:=KC.out.cell 0; have c1:=KC.out.cell 1; have c2:=KC.out.cell 2; have c3:=KC.out.cell 3; have c4:=KC.out.cell 4; have c5:=KC.out.cell 5; have c6:=KC.out.cell 6
 have cl:=KC.out.lt
 simp at h0 h1 c0 c1 c2 c3 c4 c5 c6
 go_enter Tryz.func156,Tryz.ntmps156
 go_upto_region 2 with fail
 rw [HW.out]
 go_wp2_with fail
 refine CW.out.mono ?_
 rintro e w1 ⟨rfl,b1⟩
 have KH1:=Lib.hid (KH.out.below b1 KH.out.lt)
 have KR1:=Lib.hid (KR.out.below b1 KR.out.lt)
 have KC1:=Lib.hid (KC.out.below b1 KC.out.lt)
 have L1:=Lib.hid (HL.out.below b1)
 have P1:=Lib.hid (HP.out.below b1)
 have B1:=Lib.hid (B.out.trans (b1.mono B.out.size))
 have SZ1:=Lib.hid (show w.heap.size + 4≤w1.heap.size by have:=HSZ.out; have:=b1.size; omega)
 clear b1 h0 h1 hl c0 c1 c2 c3 c4 c5 c6 cl KH KO KR KC B CW HL HP
 by_cases hz:R=0
 rotate_left
 ·have q0:(R != 0)=true:=by simpa using hz
  have NO:=Lib.hid (placeF_wrong (ls:=ls) (l:=l) (N:=N) HR.out hz)
  have HZ:=Lib.hid hz
  clear hz KH1 KC1 L1 P1
  have r0:=KR1.out.cell 0; have r1:=KR1.out.cell 1
  have rl:=KR1.out.lt
  simp at r0 r1
  go_wp2_with (refine wpList_store_whole rfl 80 (.tmp 4) (.tmp 15) rfl (w.heap.size + 2) #[.pointer none,.pointer none] rfl rfl 80 _ KR1.out.out (by kernel_rfl) rfl (by simp [Value.oneCell']) ?_)
  refine bodyPost_ret (v:=.tuple #[.agg #[.pointer none,.pointer none],.slice none 0 0,.int .u64 0,.int .i64 R]) (results_cell_and3 rfl _ _ (w.heap.size + 2) 80 #[.pointer none,.pointer none] _ _ _ _ rfl (setRow_heap _ (w.heap.size + 2) _ _ _ (0,0) KR1.out.out) Tryz.underlying80 rfl (by kernel_rfl) rfl rfl rfl) rfl ?_
  exact .inl ⟨R,HZ.out,NO.out,rfl,below_setRow B1.out (by omega) _⟩
 subst hz
 obtain ⟨hmay,heq⟩:=placeF_right (ls:=ls) (l:=l) (N:=N) HR.out
 have MAY:=Lib.hid hmay
 have EQ:=Lib.hid heq
 clear hmay heq
 have CC:=Lib.hid (HCp L1.out II.out P1.out JJ.out)
 have h0:=KH1.out.cell 0; have h1:=KH1.out.cell 1
 have hl:=KH1.out.lt
 simp at h0 h1
 go_wp2_with fail
 refine CC.out.mono ?_
 rintro e w2 ⟨G1,M1,gb1,vb1,rfl,hL1,hP1,hg1,hm1,b2⟩
 have GE:=Lib.hid (show w1.heap.size≤G1∧w1.heap.size≤M1∧w.heap.size + 4≤w1.heap.size∧w1.heap.size≤w2.heap.size∧w1.heap.size≤gb1 from ⟨hg1,hm1,SZ1.out,b2.size,hP1.ge⟩)
 have KR2:=Lib.hid (KR1.out.below b2 KR1.out.lt)
 have KC2:=Lib.hid (KC1.out.below b2 KC1.out.lt)
 have B2:=Lib.hid (B1.out.trans (b2.mono B1.out.size))
 have L2:=Lib.hid hL1
 have P2:=Lib.hid hP1
 clear hL1 hP1 hg1 hm1 b2 h0 h1 hl CC KH1 L1 P1 KR1 KC1 B1 SZ1
 go_upto_region 6 with (refine wpList_store_whole rfl 80 (.tmp 4) (.tmp 18) rfl (w.heap.size + 2) #[.pointer (some ⟨G1,0,none⟩),.pointer (some ⟨gb1,0,none⟩)] rfl rfl 80 _ KR2.out.out (by kernel_rfl) rfl (by simp [Value.oneCell']) ?_)
 have kA:=below_keepRow (w:=w2) (w.heap.size + 2) #[.pointer (some ⟨G1,0,none⟩),.pointer (some ⟨gb1,0,none⟩)]
 have KR3:=Lib.hid (show Blk (w2.setRow (w.heap.size + 2) #[.pointer (some ⟨G1,0,none⟩),.pointer (some ⟨gb1,0,none⟩)]) (w.heap.size + 2) #[.pointer (some ⟨G1,0,none⟩),.pointer (some ⟨gb1,0,none⟩)] 80 from setRow_heap _ (w.heap.size + 2) _ _ _ (0,0) KR2.out.out)
 have KC3:=Lib.hid (KC2.out.keep kA (by omega))
 have L3:=Lib.hid (L2.out.keep kA (by have:=GE.out; omega) (by have:=GE.out; omega))
 have P3:=Lib.hid (P2.out.keep kA (by have:=GE.out; omega) (fun b hb e=>by have h1:=(P2.out.lt (.inr hb)).1; have:=GE.out; omega))
 have B3:=Lib.hid (below_setRow B2.out (by omega:w.heap.size≤w.heap.size + 2) #[.pointer (some ⟨G1,0,none⟩),.pointer (some ⟨gb1,0,none⟩)])
 have HS3:Hid ((w2.setRow (w.heap.size + 2) #[.pointer (some ⟨G1,0,none⟩),.pointer (some ⟨gb1,0,none⟩)]).heap.size=w2.heap.size):=Lib.hid (by simp [World.setRow])
 generalize hW3:w2.setRow (w.heap.size + 2) #[.pointer (some ⟨G1,0,none⟩),.pointer (some ⟨gb1,0,none⟩)]=W3 at *
 clear hW3 kA KR2 KC2 L2 P2 B2
 have r0:=KR3.out.cell 0; have r1:=KR3.out.cell 1
 have rl:=KR3.out.lt
 simp at r0 r1
 have CF:=Lib.hid (cfill_any HMy HD (base:=w1.heap.size) (ch:=w.heap.size + 3) L3.out II.out P3.out JJ.out (by have:=GE.out; omega) (by have:=GE.out; omega) (by have:=GE.out; have:=HS3.out; omega) x HX.out MAY.out.2.2.2.2.2 MAY.out.2.2.2.2.1 KC3.out (by have:=GE.out; omega))
 go_wp2_with fail
 refine CF.out.mono ?_
 rintro e wf hpf
 clear r0 r1 rl CF
 rcases hpf with ⟨her,rfl,kf⟩ | ⟨vb3,a,c,σ,heq,rfl,hC,hL,hP,hR,kf⟩
 ·have NO:Hid ((placeF ps ls l N x.ow x.sl x.bu x.lf x.nu x.de).1=13):=Lib.hid (by rw [EQ.out]; unfold placeEnd; rw [if_pos (by rw [her]; decide)]; exact her)
  have KRf:=Lib.hid (KR3.out.keep kf (by have:=GE.out; omega))
  have Bf:=Lib.hid (B3.out.trans (kf.below B3.out.size (fun k hk h=>by have:=GE.out; omega)))
  clear her kf KR3 KC3 L3 P3 B3
  have r0:=KRf.out.cell 0; have r1:=KRf.out.cell 1
  have rl:=KRf.out.lt
  simp at r0 r1
  go_wp2_with (refine wpList_store_whole rfl 80 (.tmp 4) (.tmp 26) rfl (w.heap.size + 2) #[.pointer none,.pointer none] rfl rfl 80 _ KRf.out.out (by kernel_rfl) rfl (by simp [Value.oneCell']) ?_)
  refine bodyPost_ret (v:=.tuple #[.agg #[.pointer none,.pointer none],.slice none 0 0,.int .u64 0,.int .i64 13]) (results_cell_and3 rfl _ _ (w.heap.size + 2) 80 #[.pointer none,.pointer none] _ _ _ _ rfl (setRow_heap _ (w.heap.size + 2) _ _ _ (0,0) KRf.out.out) Tryz.underlying80 rfl (by kernel_rfl) rfl rfl rfl) rfl ?_
  exact .inl ⟨13,by decide,NO.out,rfl,below_setRow Bf.out (by omega) _⟩
 have KRf:=Lib.hid (KR3.out.keep kf (by have:=GE.out; omega))
 have Bf:=Lib.hid (B3.out.trans (kf.below B3.out.size (fun k hk h=>by have:=GE.out; omega)))
 have KCf:=Lib.hid hC
 have Lf:=Lib.hid hL
 have Pf:=Lib.hid hP
 have Rf:=Lib.hid hR
 have HQ:=Lib.hid heq
 have SF:=Lib.hid (show w1.heap.size≤W3.heap.size by have:=GE.out; have:=HS3.out; omega)
 have hinv:=PlInv.ends (ow:=x.ow) (sl:=x.sl) (bu:=x.bu) (nu:=x.nu) (de:=x.de) 64 (PlInv.start II.out JJ.out (ow:=x.ow) (sl:=x.sl) (bu:=x.bu) (nu:=x.nu) (de:=x.de) (n0:=x.lf) (by have:=MAY.out.2.2.2.2.1; omega))
 rw [heq] at hinv
 dsimp only at hinv
 have IV:=Lib.hid hinv
 have hnn:=hinv.nn
 have hsum:=hinv.sum
 have hgi:=hinv.gi_nn
 have hbd:=MAY.out.2.2.2.2.1
 have SN:=Lib.hid (show 0≤σ.n∧σ.n≤1099511627776 by omega)
 clear hC hL hP hR heq kf KR3 KC3 L3 P3 B3 hinv hnn hsum hgi hbd
 obtain ⟨sn,hsn⟩:∃ sn,σ.n=sn:=⟨_,rfl⟩
 have HSN:=Lib.hid hsn
 rw [hsn] at KCf SN
 clear hsn
 have c0:=KCf.out.cell 0; have c1:=KCf.out.cell 1; have c2:=KCf.out.cell 2; have c3:=KCf.out.cell 3; have c4:=KCf.out.cell 4; have c5:=KCf.out.cell 5; have c6:=KCf.out.cell 6
 have cl:=KCf.out.lt
 have r0:=KRf.out.cell 0; have r1:=KRf.out.cell 1
 have rl:=KRf.out.lt
 simp at c0 c1 c2 c3 c4 c5 c6 r0 r1
 by_cases hn1:sn<1
 ·have CN:=Lib.hid (crest_none ⟨x.se,x.ow,x.sl,x.bu,sn,x.nu,x.de⟩ hn1 (some ⟨gb1,0,none⟩) wf)
  dsimp only at CN
  have YES:Hid (placeF ps ls l N x.ow x.sl x.bu x.lf x.nu x.de=(0,σ,N,0)):=Lib.hid (by rw [EQ.out,HQ.out]; unfold placeEnd; rw [if_neg (by simp),if_pos (by show σ.n≤0; rw [HSN.out]; omega)])
  clear hn1
  go_wp2_with fail
  refine CN.out.mono ?_
  rintro e WE ⟨rfl,be⟩
  have KRe:=Lib.hid (KRf.out.below be KRf.out.lt)
  have Be:=Lib.hid (Bf.out.trans (be.mono Bf.out.size))
  have Le:=Lib.hid (Lf.out.below be)
  have Pe:=Lib.hid (Pf.out.below be)
  have Re:=Lib.hid (Rf.out.below be)
  have SE:=Lib.hid (Nat.le_trans SF.out (Nat.le_refl _))
  clear be c0 c1 c2 c3 c4 c5 c6 cl r0 r1 rl CN KRf KCf Bf Lf Pf Rf
  have sf:=SF.out
  have r0:=KRe.out.cell 0; have r1:=KRe.out.cell 1
  have rl:=KRe.out.lt
  simp at r0 r1
  go_wp2_with (refine wpList_store_whole rfl 80 (.tmp 4) (.tmp 39) rfl (w.heap.size + 2) #[.pointer (some ⟨G1,0,none⟩),.pointer (some ⟨gb1,0,none⟩)] rfl rfl 80 _ KRe.out.out (by kernel_rfl) rfl (by simp [Value.oneCell']) ?_)
  refine bodyPost_ret (v:=.tuple #[.agg #[.pointer (some ⟨G1,0,none⟩),.pointer (some ⟨gb1,0,none⟩)],_,.int .u64 0,.int .i64 0]) (results_cell_and3 rfl _ _ (w.heap.size + 2) 80 #[.pointer (some ⟨G1,0,none⟩),.pointer (some ⟨gb1,0,none⟩)] _ _ _ _ rfl (setRow_heap _ (w.heap.size + 2) _ _ _ (0,0) KRe.out.out) Tryz.underlying80 rfl (by kernel_rfl) rfl rfl rfl) rfl ?_
  have kk:=below_keepRow (w:=WE) (w.heap.size + 2) #[.pointer (some ⟨G1,0,none⟩),.pointer (some ⟨gb1,0,none⟩)]
  have ge:=GE.out
  refine .inr ⟨G1,M1,gb1,_,a,c,_,N,_,YES.out,rfl,Le.out.keep kk (by omega) (by omega),PB.down12 (Pe.out.keep kk (by have:=Pe.out.ge; omega) (fun b hb e=>by have h1:=(Pe.out.lt (.inr hb)).1; omega)) (by omega),Rowed.base (Re.out.keep kk (fun b hb e=>by have h1:=(Re.out.type hb).1; omega)) (by omega),by omega,by omega,below_setRow Be.out (by omega) _⟩
 ·have CR:=Lib.hid (crest_any Pf.out IV.out.binv ⟨x.se,x.ow,x.sl,x.bu,sn,x.nu,x.de⟩ ⟨HX.out.se,HX.out.ow,HX.out.sl,HX.out.bu,⟨by have:=SN.out; show _≤sn; omega,by have:=SN.out; show sn≤_; omega⟩,HX.out.nu,HX.out.de⟩ hn1)
  dsimp only at CR
  obtain ⟨pe,hpe⟩:∃ pe,placeE σ.l ⟨N,x.ow,x.sl,x.bu,sn,x.nu,x.de⟩=pe:=⟨_,rfl⟩
  obtain ⟨pn,hpn⟩:∃ pn,placeS σ.l ⟨N,x.ow,x.sl,x.bu,sn,x.nu,x.de⟩=pn:=⟨_,rfl⟩
  have END:Hid (placeF ps ls l N x.ow x.sl x.bu x.lf x.nu x.de=(pe,⟨σ.ls,placeL σ.l ⟨N,x.ow,x.sl,x.bu,sn,x.nu,x.de⟩,σ.fs,sn⟩,placeN σ.l ⟨N,x.ow,x.sl,x.bu,sn,x.nu,x.de⟩,pn)):=Lib.hid (by
   rw [EQ.out,HQ.out]
   unfold placeEnd
   rw [if_neg (by simp),if_neg (by show ¬ σ.n≤0; rw [HSN.out]; omega)]
   simp only [HSN.out,hpe,hpn])
  rw [hpe,hpn] at CR
  clear hpe hpn hn1
  go_wp2_with fail
  refine CR.out.mono ?_
  rintro e WE ⟨rfl,vl',hP',ke,_⟩
  have KRe:=Lib.hid (KRf.out.keep ke (fun h=>by have h1:=(Pf.out.lt h).1; have:=GE.out; omega))
  have Be:=Lib.hid (Bf.out.trans (ke.below Bf.out.size (fun k hk h=>by have h1:=(Pf.out.lt h).1; have:=GE.out; omega)))
  have AP:=(Pf.out.ne_map Lf.out).2
  have Le:=Lib.hid (Lf.out.keep ke AP.1 AP.2)
  have Pe:=Lib.hid hP'
  have Re:=Lib.hid (Rf.out.keep ke (fun b hb h=>by
   obtain ⟨_,_,cu,hcu⟩:=Rf.out.type hb
   rcases h with h | h
   ·subst h
    exact absurd (Pf.out.blk.out.symm.trans hcu) (by simp)
   ·obtain ⟨_,_,c2,k2⟩:=owns_type Pf.out.row h
    exact absurd (k2.symm.trans hcu) (by simp)))
  clear hP' ke AP c0 c1 c2 c3 c4 c5 c6 cl r0 r1 rl CR KRf KCf Bf Lf Pf Rf
  by_cases hz:pe=0
  rotate_left
  ·have q2:(pe != 0)=true:=by simpa using hz
   have HZ:=Lib.hid hz
   clear hz
   have r0:=KRe.out.cell 0; have r1:=KRe.out.cell 1
   have rl:=KRe.out.lt
   simp at r0 r1
   go_wp2_with (refine wpList_store_whole rfl 80 (.tmp 4) (.tmp 37) rfl (w.heap.size + 2) #[.pointer none,.pointer none] rfl rfl 80 _ KRe.out.out (by kernel_rfl) rfl (by simp [Value.oneCell']) ?_)
   refine bodyPost_ret (v:=.tuple #[.agg #[.pointer none,.pointer none],.slice none 0 0,.int .u64 0,.int .i64 pe]) (results_cell_and3 rfl _ _ (w.heap.size + 2) 80 #[.pointer none,.pointer none] _ _ _ _ rfl (setRow_heap _ (w.heap.size + 2) _ _ _ (0,0) KRe.out.out) Tryz.underlying80 rfl (by kernel_rfl) rfl rfl rfl) rfl ?_
   exact .inl ⟨pe,HZ.out,by rw [END.out],rfl,below_setRow Be.out (by omega) _⟩
  subst hz
  have sf:=SF.out
  have r0:=KRe.out.cell 0; have r1:=KRe.out.cell 1
  have rl:=KRe.out.lt
  simp at r0 r1
  go_wp2_with (refine wpList_store_whole rfl 80 (.tmp 4) (.tmp 39) rfl (w.heap.size + 2) #[.pointer (some ⟨G1,0,none⟩),.pointer (some ⟨gb1,0,none⟩)] rfl rfl 80 _ KRe.out.out (by kernel_rfl) rfl (by simp [Value.oneCell']) ?_)
  refine bodyPost_ret (v:=.tuple #[.agg #[.pointer (some ⟨G1,0,none⟩),.pointer (some ⟨gb1,0,none⟩)],_,.int .u64 pn,.int .i64 0]) (results_cell_and3 rfl _ _ (w.heap.size + 2) 80 #[.pointer (some ⟨G1,0,none⟩),.pointer (some ⟨gb1,0,none⟩)] _ _ _ _ rfl (setRow_heap _ (w.heap.size + 2) _ _ _ (0,0) KRe.out.out) Tryz.underlying80 rfl (by kernel_rfl) rfl rfl rfl) rfl ?_
  have kk:=below_keepRow (w:=WE) (w.heap.size + 2) #[.pointer (some ⟨G1,0,none⟩),.pointer (some ⟨gb1,0,none⟩)]
  have ge:=GE.out
  refine .inr ⟨G1,M1,gb1,_,a,c,_,_,_,END.out,rfl,Le.out.keep kk (by omega) (by omega),PB.down12 (Pe.out.keep kk (by have:=Pe.out.ge; omega) (fun b hb e=>by have h1:=(Pe.out.lt (.inr hb)).1; omega)) (by omega),Rowed.base (Re.out.keep kk (fun b hb e=>by have h1:=(Re.out.type hb).1; omega)) (by omega),by omega,by omega,below_setRow Be.out (by omega) _⟩
end Go.Proofs.YtngnfdnfpiiclaaGreat
namespace Go.Proofs.YtngnfdnfpiiclaaGreat
open Go.RowKit
theorem sw_partyMay (x:Int) (w:World):Calls Tryz.prog 267 #[.int .u8 x] w fun e w'=>e=.returned (.bool (decide (1≤x∧x≤16)))∧w=w':=by
 by_cases h1:1≤x
 ·have d1:decide (1≤x)=true:=by simpa using h1
  by_cases h2:x≤16
  ·have d2:decide (x≤16)=true:=by simpa using h2
   rw [decide_eq_true (⟨h1,h2⟩:1≤x∧x≤16)]
   clear h1 h2
   go_enter Tryz.func267,Tryz.ntmps267
   go_wp2_with fail
   go_ret
   exact ⟨rfl,rfl⟩
  ·have d2:decide (x≤16)=false:=by simpa using h2
   rw [decide_eq_false (fun h:1≤x∧x≤16=>h2 h.2)]
   clear h1 h2
   go_enter Tryz.func267,Tryz.ntmps267
   go_wp2_with fail
   go_ret
   exact ⟨rfl,rfl⟩
 ·have d1:decide (1≤x)=false:=by simpa using h1
  rw [decide_eq_false (fun h:1≤x∧x≤16=>h1 h.1)]
  clear h1
  go_enter Tryz.func267,Tryz.ntmps267
  go_wp2_with fail
  go_ret
  exact ⟨rfl,rfl⟩
theorem sw_currencyMay (x:Int) (w:World):Calls Tryz.prog 268 #[.int .u8 x] w fun e w'=>e=.returned (.bool (decide (1≤x∧x≤8)))∧w=w':=by
 by_cases h1:1≤x
 ·have d1:decide (1≤x)=true:=by simpa using h1
  by_cases h2:x≤8
  ·have d2:decide (x≤8)=true:=by simpa using h2
   rw [decide_eq_true (⟨h1,h2⟩:1≤x∧x≤8)]
   clear h1 h2
   go_enter Tryz.func268,Tryz.ntmps268
   go_wp2_with fail
   go_ret
   exact ⟨rfl,rfl⟩
  ·have d2:decide (x≤8)=false:=by simpa using h2
   rw [decide_eq_false (fun h:1≤x∧x≤8=>h2 h.2)]
   clear h1 h2
   go_enter Tryz.func268,Tryz.ntmps268
   go_wp2_with fail
   go_ret
   exact ⟨rfl,rfl⟩
 ·have d1:decide (1≤x)=false:=by simpa using h1
  rw [decide_eq_false (fun h:1≤x∧x≤8=>h1 h.1)]
  clear h1
  go_enter Tryz.func268,Tryz.ntmps268
  go_wp2_with fail
  go_ret
  exact ⟨rfl,rfl⟩
theorem sw_amountMay (x:Int) (w:World):Calls Tryz.prog 269 #[.int .i64 x] w fun e w'=>e=.returned (.bool (decide (1≤x∧x≤1099511627776)))∧w=w':=by
 by_cases h1:1≤x
 ·have d1:decide (1≤x)=true:=by simpa using h1
  by_cases h2:x≤1099511627776
  ·have d2:decide (x≤1099511627776)=true:=by simpa using h2
   rw [decide_eq_true (⟨h1,h2⟩:1≤x∧x≤1099511627776)]
   clear h1 h2
   go_enter Tryz.func269,Tryz.ntmps269
   go_wp2_with fail
   go_ret
   exact ⟨rfl,rfl⟩
  ·have d2:decide (x≤1099511627776)=false:=by simpa using h2
   rw [decide_eq_false (fun h:1≤x∧x≤1099511627776=>h2 h.2)]
   clear h1 h2
   go_enter Tryz.func269,Tryz.ntmps269
   go_wp2_with fail
   go_ret
   exact ⟨rfl,rfl⟩
 ·have d1:decide (1≤x)=false:=by simpa using h1
  rw [decide_eq_false (fun h:1≤x∧x≤1099511627776=>h1 h.1)]
  clear h1
  go_enter Tryz.func269,Tryz.ntmps269
  go_wp2_with fail
  go_ret
  exact ⟨rfl,rfl⟩
set_option maxHeartbeats 8000000 in
set_option maxRecDepth 100000 in
theorem smay_any (fr pt get give n most:Int) (w:World):Calls Tryz.prog 233 #[.agg #[.int .u8 fr,.int .u8 pt,.int .u8 get,.int .u8 give,.int .i64 n,.int .i64 most]] w fun e w'=>e=.returned (.bool (decide (swMay fr pt get give n most)))∧Below w.heap.size w w':=by
 have B:=Lib.hid ((Below.refl w.heap.size w).alloc (Nat.le_refl _) (.cells #[.int .u8 fr,.int .u8 pt,.int .u8 get,.int .u8 give,.int .i64 n,.int .i64 most] 289))
 have K:=Lib.hid (Blk.new w #[.int .u8 fr,.int .u8 pt,.int .u8 get,.int .u8 give,.int .i64 n,.int .i64 most] 289)
 generalize hW:w.alloc (.cells #[.int .u8 fr,.int .u8 pt,.int .u8 get,.int .u8 give,.int .i64 n,.int .i64 most] 289)=W at *
 have HW:=Lib.hid hW
 clear hW
 have c0:=K.out.cell 0; have c1:=K.out.cell 1; have c2:=K.out.cell 2; have c3:=K.out.cell 3; have c4:=K.out.cell 4; have c5:=K.out.cell 5
 have cl:=K.out.lt
 simp at c0 c1 c2 c3 c4 c5
 clear K
 by_cases h0:¬ (1≤fr∧fr≤16)
 ·have NO:decide (swMay fr pt get give n most)=false:=decide_eq_false (by unfold swMay; omega)
  rw [NO]
  have C0:=Lib.hid (sw_partyMay fr W)
  rw [decide_eq_false h0] at C0
  clear NO h0
  go_enter Tryz.func233,Tryz.ntmps233
  go_upto_region 1 with fail
  rw [HW.out]
  go_wp2_with fail
  refine C0.out.mono ?_
  rintro e w' ⟨rfl,rfl⟩
  go_wp2_with fail
  go_ret
  exact ⟨rfl,B.out⟩
 have h0:=Decidable.not_not.1 h0
 have C0:=Lib.hid (sw_partyMay fr W)
 rw [decide_eq_true h0] at C0
 by_cases h1:¬ (1≤pt∧pt≤16)
 ·have NO:decide (swMay fr pt get give n most)=false:=decide_eq_false (by unfold swMay; omega)
  rw [NO]
  have C1:=Lib.hid (sw_partyMay pt W)
  rw [decide_eq_false h1] at C1
  clear NO h0 h1
  go_enter Tryz.func233,Tryz.ntmps233
  go_upto_region 1 with fail
  rw [HW.out]
  go_wp2_with fail
  refine C0.out.mono ?_
  rintro e w' ⟨rfl,rfl⟩
  go_wp2_with fail
  refine C1.out.mono ?_
  rintro e w' ⟨rfl,rfl⟩
  go_wp2_with fail
  go_ret
  exact ⟨rfl,B.out⟩
 have h1:=Decidable.not_not.1 h1
 have C1:=Lib.hid (sw_partyMay pt W)
 rw [decide_eq_true h1] at C1
 by_cases h2:¬ (1≤get∧get≤8)
 ·have NO:decide (swMay fr pt get give n most)=false:=decide_eq_false (by unfold swMay; omega)
  rw [NO]
  have C2:=Lib.hid (sw_currencyMay get W)
  rw [decide_eq_false h2] at C2
  clear NO h0 h1 h2
  go_enter Tryz.func233,Tryz.ntmps233
  go_upto_region 1 with fail
  rw [HW.out]
  go_wp2_with fail
  refine C0.out.mono ?_
  rintro e w' ⟨rfl,rfl⟩
  go_wp2_with fail
  refine C1.out.mono ?_
  rintro e w' ⟨rfl,rfl⟩
  go_wp2_with fail
  refine C2.out.mono ?_
  rintro e w' ⟨rfl,rfl⟩
  go_wp2_with fail
  go_ret
  exact ⟨rfl,B.out⟩
 have h2:=Decidable.not_not.1 h2
 have C2:=Lib.hid (sw_currencyMay get W)
 rw [decide_eq_true h2] at C2
 by_cases h3:¬ (1≤give∧give≤8)
 ·have NO:decide (swMay fr pt get give n most)=false:=decide_eq_false (by unfold swMay; omega)
  rw [NO]
  have C3:=Lib.hid (sw_currencyMay give W)
  rw [decide_eq_false h3] at C3
  clear NO h0 h1 h2 h3
  go_enter Tryz.func233,Tryz.ntmps233
  go_upto_region 1 with fail
  rw [HW.out]
  go_wp2_with fail
  refine C0.out.mono ?_
  rintro e w' ⟨rfl,rfl⟩
  go_wp2_with fail
  refine C1.out.mono ?_
  rintro e w' ⟨rfl,rfl⟩
  go_wp2_with fail
  refine C2.out.mono ?_
  rintro e w' ⟨rfl,rfl⟩
  go_wp2_with fail
  refine C3.out.mono ?_
  rintro e w' ⟨rfl,rfl⟩
  go_wp2_with fail
  go_ret
  exact ⟨rfl,B.out⟩
 have h3:=Decidable.not_not.1 h3
 have C3:=Lib.hid (sw_currencyMay give W)
 rw [decide_eq_true h3] at C3
 by_cases h4:¬ (get≠give)
 ·have NO:decide (swMay fr pt get give n most)=false:=decide_eq_false (by unfold swMay; omega)
  rw [NO]
  have q4:(get != give)=false:=by simpa using h4
  clear NO h0 h1 h2 h3 h4
  go_enter Tryz.func233,Tryz.ntmps233
  go_upto_region 1 with fail
  rw [HW.out]
  go_wp2_with fail
  refine C0.out.mono ?_
  rintro e w' ⟨rfl,rfl⟩
  go_wp2_with fail
  refine C1.out.mono ?_
  rintro e w' ⟨rfl,rfl⟩
  go_wp2_with fail
  refine C2.out.mono ?_
  rintro e w' ⟨rfl,rfl⟩
  go_wp2_with fail
  refine C3.out.mono ?_
  rintro e w' ⟨rfl,rfl⟩
  go_wp2_with fail
  go_ret
  exact ⟨rfl,B.out⟩
 have h4:=Decidable.not_not.1 h4
 have q4:(get != give)=true:=by simpa using h4
 by_cases h5:¬ (1≤n∧n≤1099511627776)
 ·have NO:decide (swMay fr pt get give n most)=false:=decide_eq_false (by unfold swMay; omega)
  rw [NO]
  have C5:=Lib.hid (sw_amountMay n W)
  rw [decide_eq_false h5] at C5
  clear NO h0 h1 h2 h3 h4 h5
  go_enter Tryz.func233,Tryz.ntmps233
  go_upto_region 1 with fail
  rw [HW.out]
  go_wp2_with fail
  refine C0.out.mono ?_
  rintro e w' ⟨rfl,rfl⟩
  go_wp2_with fail
  refine C1.out.mono ?_
  rintro e w' ⟨rfl,rfl⟩
  go_wp2_with fail
  refine C2.out.mono ?_
  rintro e w' ⟨rfl,rfl⟩
  go_wp2_with fail
  refine C3.out.mono ?_
  rintro e w' ⟨rfl,rfl⟩
  go_wp2_with fail
  refine C5.out.mono ?_
  rintro e w' ⟨rfl,rfl⟩
  go_wp2_with fail
  go_ret
  exact ⟨rfl,B.out⟩
 have h5:=Decidable.not_not.1 h5
 have C5:=Lib.hid (sw_amountMay n W)
 rw [decide_eq_true h5] at C5
 by_cases h6:¬ (1≤most∧most≤1099511627776)
 ·have NO:decide (swMay fr pt get give n most)=false:=decide_eq_false (by unfold swMay; omega)
  rw [NO]
  have C6:=Lib.hid (sw_amountMay most W)
  rw [decide_eq_false h6] at C6
  clear NO h0 h1 h2 h3 h4 h5 h6
  go_enter Tryz.func233,Tryz.ntmps233
  go_upto_region 1 with fail
  rw [HW.out]
  go_wp2_with fail
  refine C0.out.mono ?_
  rintro e w' ⟨rfl,rfl⟩
  go_wp2_with fail
  refine C1.out.mono ?_
  rintro e w' ⟨rfl,rfl⟩
  go_wp2_with fail
  refine C2.out.mono ?_
  rintro e w' ⟨rfl,rfl⟩
  go_wp2_with fail
  refine C3.out.mono ?_
  rintro e w' ⟨rfl,rfl⟩
  go_wp2_with fail
  refine C5.out.mono ?_
  rintro e w' ⟨rfl,rfl⟩
  go_wp2_with fail
  refine C6.out.mono ?_
  rintro e w' ⟨rfl,rfl⟩
  go_wp2_with fail
  go_ret
  exact ⟨rfl,B.out⟩
 have h6:=Decidable.not_not.1 h6
 have C6:=Lib.hid (sw_amountMay most W)
 rw [decide_eq_true h6] at C6
 rw [decide_eq_true (show swMay fr pt get give n most from ⟨h0,h1,h2,h3,h4,h5,h6⟩)]
 clear h0 h1 h2 h3 h4 h5 h6
 go_enter Tryz.func233,Tryz.ntmps233
 go_upto_region 1 with fail
 rw [HW.out]
 go_wp2_with fail
 refine C0.out.mono ?_
 rintro e w' ⟨rfl,rfl⟩
 go_wp2_with fail
 refine C1.out.mono ?_
 rintro e w' ⟨rfl,rfl⟩
 go_wp2_with fail
 refine C2.out.mono ?_
 rintro e w' ⟨rfl,rfl⟩
 go_wp2_with fail
 refine C3.out.mono ?_
 rintro e w' ⟨rfl,rfl⟩
 go_wp2_with fail
 refine C5.out.mono ?_
 rintro e w' ⟨rfl,rfl⟩
 go_wp2_with fail
 refine C6.out.mono ?_
 rintro e w' ⟨rfl,rfl⟩
 go_wp2_with fail
 go_ret
 exact ⟨rfl,B.out⟩
set_option maxHeartbeats 8000000 in
theorem smade_of {w:World} {a b:Option Addr} {er:Int} (h:∀ w',Below w.heap.size w w'→Calls Tryz.prog 235 #[.agg #[.pointer a,.pointer b],.int .u64 0,.int .u8 0,.int .u8 0,.int .i64 0] w' fun e w''=>e=.returned (.tuple #[noFill,.int .i64 er])∧Below w'.heap.size w' w'') :
  Calls Tryz.prog 232 #[.agg #[.pointer a,.pointer b]] w fun e w'=>e=.returned (.bool (er != 2))∧Below w.heap.size w w':=by
 have b0:=(Below.refl w.heap.size w).alloc (Nat.le_refl _) (.cells #[.pointer a,.pointer b] 80)
 have K:=Lib.hid (Blk.new w #[.pointer a,.pointer b] 80)
 have B:=Lib.hid b0
 have C:=Lib.hid (h _ b0)
 clear b0 h
 obtain ⟨q,hq⟩:∃ q,(er != 2)=q:=⟨_,rfl⟩
 rw [hq]
 unfold noFill at C
 generalize hW:w.alloc (.cells #[.pointer a,.pointer b] 80)=W at *
 have HW:=Lib.hid hW
 clear hW
 have c0:=K.out.cell 0; have c1:=K.out.cell 1
 have cl:=K.out.lt
 simp at c0 c1
 clear K
 go_enter Tryz.func232,Tryz.ntmps232
 go_upto_region 1 with fail
 rw [HW.out]
 go_wp2_with fail
 refine C.out.mono ?_
 rintro e w1 ⟨rfl,b1⟩
 have B1:=Lib.hid ((B.out.trans (b1.mono B.out.size)).alloc (Nat.le_trans B.out.size b1.size) (.cells #[.int .u64 0,.int .u8 0,.int .u8 0,.int .i64 0,.int .i64 0] 241))
 clear b1 c0 c1 cl C B
 go_wp2_with fail
 go_ret
 exact ⟨rfl,B1.out⟩
theorem smade_any (HD:FDoProg) {w:World} {base G M gb:Nat} {ps:List Int} {ls:List Ln} {l:List Of} {N:Int} {vb:Value} (hL:LedM w G M ps ls) (hI:LInv ps ls) (hP:PB w base gb l N vb) (hJ:BInv l N) :
  Calls Tryz.prog 232 #[.agg #[.pointer (some ⟨G,0,none⟩),.pointer (some ⟨gb,0,none⟩)]] w fun e w'=>e=.returned (.bool true)∧Below w.heap.size w w' :=
 smade_of (er:=1) (fun w' b=>(pdoS_any HD (hL.below b) hI (hP.below b) hJ 0 0 0 0 (by omega) (by unfold In8; omega) (by unfold In8; omega) (by unfold In64; omega)).mono (by
  rintro e w'' (⟨_,h1,h2⟩ | ⟨h,_⟩)
  ·exact ⟨h1,h2⟩
  ·exact absurd h.1 (by omega)))
def wrongS (ps:List Int) (fr pt get give n most:Int):Int:=if ¬ swMay fr pt get give n most then 1 else if fr ∉ ps∨pt ∉ ps then 7 else 0
set_option maxHeartbeats 8000000 in
theorem swrong_void {w:World} {a b:Option Addr} (fr pt get give n most:Int) (h:∀ w',Below w.heap.size w w'→Calls Tryz.prog 232 #[.agg #[.pointer a,.pointer b]] w' fun e w''=>e=.returned (.bool false)∧Below w'.heap.size w' w'') :
  Calls Tryz.prog 197 #[.agg #[.int .u8 fr,.int .u8 pt,.int .u8 get,.int .u8 give,.int .i64 n,.int .i64 most],.agg #[.pointer a,.pointer b]] w fun e w'=>e=.returned (.int .i64 2)∧Below w.heap.size w w':=by
 have b0:=((Below.refl w.heap.size w).alloc (Nat.le_refl _) (.cells #[.int .u8 fr,.int .u8 pt,.int .u8 get,.int .u8 give,.int .i64 n,.int .i64 most] 289))
 have b1:=b0.alloc b0.size (.cells #[.pointer a,.pointer b] 80)
 have K:=Lib.hid (Blk.newAt (w.alloc (.cells #[.int .u8 fr,.int .u8 pt,.int .u8 get,.int .u8 give,.int .i64 n,.int .i64 most] 289)) #[.pointer a,.pointer b] 80 (g:=w.heap.size + 1) (by simp))
 have B:=Lib.hid b1
 have C:=Lib.hid (h _ b1)
 clear b0 b1 h
 generalize hW:(w.alloc (.cells #[.int .u8 fr,.int .u8 pt,.int .u8 get,.int .u8 give,.int .i64 n,.int .i64 most] 289)).alloc (.cells #[.pointer a,.pointer b] 80)=W at *
 have HW:=Lib.hid hW
 clear hW
 have c0:=K.out.cell 0; have c1:=K.out.cell 1
 have cl:=K.out.lt
 simp at c0 c1
 clear K
 go_enter Tryz.func197,Tryz.ntmps197
 go_upto_region 1 with fail
 rw [HW.out]
 go_wp2_with fail
 refine C.out.mono ?_
 rintro e w1 ⟨rfl,b1⟩
 have B1:=Lib.hid (B.out.trans (b1.mono B.out.size))
 clear b1 c0 c1 cl C B
 go_wp2_with fail
 go_ret
 exact ⟨rfl,B1.out⟩
set_option maxHeartbeats 16000000 in
set_option maxRecDepth 100000 in
theorem swrong_any (HD:FDoProg) {w:World} {base G M gb:Nat} {ps:List Int} {ls:List Ln} {l:List Of} {N:Int} {vb:Value} (hL:LedM w G M ps ls) (hI:LInv ps ls) (hP:PB w base gb l N vb) (hJ:BInv l N) (fr pt get give n most:Int) :
  Calls Tryz.prog 197 #[.agg #[.int .u8 fr,.int .u8 pt,.int .u8 get,.int .u8 give,.int .i64 n,.int .i64 most],.agg #[.pointer (some ⟨G,0,none⟩),.pointer (some ⟨gb,0,none⟩)]] w fun e w'=>e=.returned (.int .i64 (wrongS ps fr pt get give n most))∧Below w.heap.size w w':=by
 have b0:=((Below.refl w.heap.size w).alloc (Nat.le_refl _) (.cells #[.int .u8 fr,.int .u8 pt,.int .u8 get,.int .u8 give,.int .i64 n,.int .i64 most] 289))
 have b1:=b0.alloc b0.size (.cells #[.pointer (some ⟨G,0,none⟩),.pointer (some ⟨gb,0,none⟩)] 80)
 have KS:=Lib.hid ((Blk.new w #[.int .u8 fr,.int .u8 pt,.int .u8 get,.int .u8 give,.int .i64 n,.int .i64 most] 289).alloc (.cells #[.pointer (some ⟨G,0,none⟩),.pointer (some ⟨gb,0,none⟩)] 80))
 have KH:=Lib.hid (Blk.newAt (w.alloc (.cells #[.int .u8 fr,.int .u8 pt,.int .u8 get,.int .u8 give,.int .i64 n,.int .i64 most] 289)) #[.pointer (some ⟨G,0,none⟩),.pointer (some ⟨gb,0,none⟩)] 80 (g:=w.heap.size + 1) (by simp))
 have HL:=Lib.hid (hL.below b1)
 have C:=Lib.hid (smade_any HD (hL.below b1) hI (hP.below b1) hJ)
 have B:=Lib.hid b1
 have HB:=Lib.hid hI.bd
 obtain ⟨R,hR⟩:∃ R,wrongS ps fr pt get give n most=R:=⟨_,rfl⟩
 rw [hR]
 have HR:=Lib.hid hR
 clear b0 b1 hL hI hP hJ hR
 generalize hW:(w.alloc (.cells #[.int .u8 fr,.int .u8 pt,.int .u8 get,.int .u8 give,.int .i64 n,.int .i64 most] 289)).alloc (.cells #[.pointer (some ⟨G,0,none⟩),.pointer (some ⟨gb,0,none⟩)] 80)=W at *
 have HW:=Lib.hid hW
 clear hW
 have c0:=KH.out.cell 0; have c1:=KH.out.cell 1
 have cl:=KH.out.lt
 simp at c0 c1
 go_enter Tryz.func197,Tryz.ntmps197
 go_upto_region 1 with fail
 rw [HW.out]
 go_wp2_with fail
 refine C.out.mono ?_
 rintro e w1 ⟨rfl,b1⟩
 have HL1:=Lib.hid (HL.out.below b1)
 have KS1:=Lib.hid (KS.out.below b1 KS.out.lt)
 have KH1:=Lib.hid (KH.out.below b1 KH.out.lt)
 have B1:=Lib.hid (B.out.trans (b1.mono B.out.size))
 clear b1 c0 c1 cl C B HL KS KH
 have s0:=KS1.out.cell 0; have s1:=KS1.out.cell 1; have s2:=KS1.out.cell 2; have s3:=KS1.out.cell 3; have s4:=KS1.out.cell 4; have s5:=KS1.out.cell 5
 have sl:=KS1.out.lt
 simp at s0 s1 s2 s3 s4 s5
 have CM:=Lib.hid (smay_any fr pt get give n most w1)
 by_cases hm:swMay fr pt get give n most
 ·rw [decide_eq_true hm] at CM
  have HMY:=Lib.hid hm
  clear hm
  go_wp2_with fail
  refine CM.out.mono ?_
  rintro e w2 ⟨rfl,b2⟩
  have HL2:=Lib.hid (HL1.out.below b2)
  have KS2:=Lib.hid (KS1.out.below b2 KS1.out.lt)
  have KH2:=Lib.hid (KH1.out.below b2 KH1.out.lt)
  have B2:=Lib.hid (B1.out.trans (b2.mono B1.out.size))
  clear b2 s0 s1 s2 s3 s4 s5 sl CM B1 HL1 KS1 KH1
  have s0:=KS2.out.cell 0; have s1:=KS2.out.cell 1
  have sl:=KS2.out.lt
  have c0:=KH2.out.cell 0; have c1:=KH2.out.cell 1
  have cl:=KH2.out.lt
  simp at s0 s1 c0 c1
  have CF:=Lib.hid (has_any HL2.out.blk HB.out fr)
  have CT:=Lib.hid (has_any HL2.out.blk HB.out pt)
  by_cases hf:fr ∈ ps
  ·rw [decide_eq_true hf] at CF
   by_cases ht:pt ∈ ps
   ·rw [decide_eq_true ht] at CT
    have EE:Hid (R=0):=Lib.hid (by rw [← HR.out]; unfold wrongS; rw [if_neg (fun h=>h HMY.out),if_neg (fun h=>h.elim (fun h=>h hf) (fun h=>h ht))])
    clear hf ht
    go_wp2_with fail
    refine CF.out.mono ?_
    rintro e w3 ⟨rfl,rfl⟩
    go_wp2_with fail
    refine CT.out.mono ?_
    rintro e w3 ⟨rfl,rfl⟩
    go_wp2_with fail
    go_ret
    exact ⟨by rw [EE.out]; rfl,B2.out⟩
   ·rw [decide_eq_false ht] at CT
    have EE:Hid (R=7):=Lib.hid (by rw [← HR.out]; unfold wrongS; rw [if_neg (fun h=>h HMY.out),if_pos (.inr ht)])
    clear hf ht
    go_wp2_with fail
    refine CF.out.mono ?_
    rintro e w3 ⟨rfl,rfl⟩
    go_wp2_with fail
    refine CT.out.mono ?_
    rintro e w3 ⟨rfl,rfl⟩
    go_wp2_with fail
    go_ret
    exact ⟨by rw [EE.out]; rfl,B2.out⟩
  ·rw [decide_eq_false hf] at CF
   have EE:Hid (R=7):=Lib.hid (by rw [← HR.out]; unfold wrongS; rw [if_neg (fun h=>h HMY.out),if_pos (.inl hf)])
   clear hf CT
   go_wp2_with fail
   refine CF.out.mono ?_
   rintro e w3 ⟨rfl,rfl⟩
   go_wp2_with fail
   go_ret
   exact ⟨by rw [EE.out]; rfl,B2.out⟩
 ·rw [decide_eq_false hm] at CM
  have EE:Hid (R=1):=Lib.hid (by rw [← HR.out]; unfold wrongS; rw [if_pos hm])
  clear hm
  go_wp2_with fail
  refine CM.out.mono ?_
  rintro e w2 ⟨rfl,b2⟩
  have B2:=Lib.hid (B1.out.trans (b2.mono B1.out.size))
  clear b2 s0 s1 s2 s3 s4 s5 sl CM B1
  go_wp2_with fail
  go_ret
  exact ⟨by rw [EE.out]; rfl,B2.out⟩
end Go.Proofs.YtngnfdnfpiiclaaGreat
