/-
  Pieces of one proof, without what is not wanted: PSwap, SwapInv, SortO.
-/
import Derived.Test.YtojbmnbphdcjfaaGreatV01
import Derived.Test.YtojbmnbphdcjfaaGreatV17
import Derived.Test.YtojbmnbphdcjfaaGreatV18
import Derived.Shelf.SlSortCmp.NoneTotal
set_option linter.unusedSimpArgs false
set_option linter.unusedVariables false
namespace Go.Proofs.YtojbmnbphdcjfaaGreat
open Go.RowKit
theorem sw_partyMay (x:Int) (w:World):Calls Tryz.prog 136 #[.int .u8 x] w fun e w'=>e=.returned (.bool (decide (1≤x∧x≤16)))∧w=w':=by
 by_cases h1:1≤x
 ·have d1:decide (1≤x)=true:=by simpa using h1
  by_cases h2:x≤16
  ·have d2:decide (x≤16)=true:=by simpa using h2
   rw [decide_eq_true (⟨h1,h2⟩:1≤x∧x≤16)]
   clear h1 h2
   go_enter Tryz.func136,Tryz.ntmps136
   go_wp2_with fail
   go_ret
   exact ⟨rfl,rfl⟩
  ·have d2:decide (x≤16)=false:=by simpa using h2
   rw [decide_eq_false (fun h:1≤x∧x≤16=>h2 h.2)]
   clear h1 h2
   go_enter Tryz.func136,Tryz.ntmps136
   go_wp2_with fail
   go_ret
   exact ⟨rfl,rfl⟩
 ·have d1:decide (1≤x)=false:=by simpa using h1
  rw [decide_eq_false (fun h:1≤x∧x≤16=>h1 h.1)]
  clear h1
  go_enter Tryz.func136,Tryz.ntmps136
  go_wp2_with fail
  go_ret
  exact ⟨rfl,rfl⟩
theorem sw_currencyMay (x:Int) (w:World):Calls Tryz.prog 137 #[.int .u8 x] w fun e w'=>e=.returned (.bool (decide (1≤x∧x≤8)))∧w=w':=by
 by_cases h1:1≤x
 ·have d1:decide (1≤x)=true:=by simpa using h1
  by_cases h2:x≤8
  ·have d2:decide (x≤8)=true:=by simpa using h2
   rw [decide_eq_true (⟨h1,h2⟩:1≤x∧x≤8)]
   clear h1 h2
   go_enter Tryz.func137,Tryz.ntmps137
   go_wp2_with fail
   go_ret
   exact ⟨rfl,rfl⟩
  ·have d2:decide (x≤8)=false:=by simpa using h2
   rw [decide_eq_false (fun h:1≤x∧x≤8=>h2 h.2)]
   clear h1 h2
   go_enter Tryz.func137,Tryz.ntmps137
   go_wp2_with fail
   go_ret
   exact ⟨rfl,rfl⟩
 ·have d1:decide (1≤x)=false:=by simpa using h1
  rw [decide_eq_false (fun h:1≤x∧x≤8=>h1 h.1)]
  clear h1
  go_enter Tryz.func137,Tryz.ntmps137
  go_wp2_with fail
  go_ret
  exact ⟨rfl,rfl⟩
theorem sw_amountMay (x:Int) (w:World):Calls Tryz.prog 138 #[.int .i64 x] w fun e w'=>e=.returned (.bool (decide (1≤x∧x≤1099511627776)))∧w=w':=by
 by_cases h1:1≤x
 ·have d1:decide (1≤x)=true:=by simpa using h1
  by_cases h2:x≤1099511627776
  ·have d2:decide (x≤1099511627776)=true:=by simpa using h2
   rw [decide_eq_true (⟨h1,h2⟩:1≤x∧x≤1099511627776)]
   clear h1 h2
   go_enter Tryz.func138,Tryz.ntmps138
   go_wp2_with fail
   go_ret
   exact ⟨rfl,rfl⟩
  ·have d2:decide (x≤1099511627776)=false:=by simpa using h2
   rw [decide_eq_false (fun h:1≤x∧x≤1099511627776=>h2 h.2)]
   clear h1 h2
   go_enter Tryz.func138,Tryz.ntmps138
   go_wp2_with fail
   go_ret
   exact ⟨rfl,rfl⟩
 ·have d1:decide (1≤x)=false:=by simpa using h1
  rw [decide_eq_false (fun h:1≤x∧x≤1099511627776=>h1 h.1)]
  clear h1
  go_enter Tryz.func138,Tryz.ntmps138
  go_wp2_with fail
  go_ret
  exact ⟨rfl,rfl⟩
set_option maxHeartbeats 8000000 in
set_option maxRecDepth 100000 in
theorem smay_any (fr pt get give n most:Int) (w:World):Calls Tryz.prog 84 #[.agg #[.int .u8 fr,.int .u8 pt,.int .u8 get,.int .u8 give,.int .i64 n,.int .i64 most]] w fun e w'=>e=.returned (.bool (decide (swMay fr pt get give n most)))∧Below w.heap.size w w':=by
 have B:=Lib.hid ((Below.refl w.heap.size w).alloc (Nat.le_refl _) (.cells #[.int .u8 fr,.int .u8 pt,.int .u8 get,.int .u8 give,.int .i64 n,.int .i64 most] 94))
 have K:=Lib.hid (Blk.new w #[.int .u8 fr,.int .u8 pt,.int .u8 get,.int .u8 give,.int .i64 n,.int .i64 most] 94)
 generalize hW:w.alloc (.cells #[.int .u8 fr,.int .u8 pt,.int .u8 get,.int .u8 give,.int .i64 n,.int .i64 most] 94)=W at *
 have HW:=Lib.hid hW
 clear hW
 have c0:=K.out.cell 0; have c1:=K.out.cell 1; have c2:=K.out.cell 2; have c3:=K.out.cell 3; have c4:=K.out.cell 4; have c5:=K.out.cell 5
 have cl:=K.out.lt
 simp at c0 c1 c2 c3 c4 c5
 clear K
 by_cases h0:¬ (1≤fr∧fr≤16)
 ·have NO:decide (swMay fr pt get give n most)=false:=decide_eq_false (by unfold swMay; omega)
  rw [NO]
  have C0:=Lib.hid (sw_partyMay fr W)
  rw [decide_eq_false h0] at C0
  clear NO h0
  go_enter Tryz.func84,Tryz.ntmps84
  go_upto_region 1 with fail
  rw [HW.out]
  go_wp2_with fail
  refine C0.out.mono ?_
  rintro e w' ⟨rfl,rfl⟩
  go_wp2_with fail
  go_ret
  exact ⟨rfl,B.out⟩
 have h0:=Decidable.not_not.1 h0
 have C0:=Lib.hid (sw_partyMay fr W)
 rw [decide_eq_true h0] at C0
 by_cases h1:¬ (1≤pt∧pt≤16)
 ·have NO:decide (swMay fr pt get give n most)=false:=decide_eq_false (by unfold swMay; omega)
  rw [NO]
  have C1:=Lib.hid (sw_partyMay pt W)
  rw [decide_eq_false h1] at C1
  clear NO h0 h1
  go_enter Tryz.func84,Tryz.ntmps84
  go_upto_region 1 with fail
  rw [HW.out]
  go_wp2_with fail
  refine C0.out.mono ?_
  rintro e w' ⟨rfl,rfl⟩
  go_wp2_with fail
  refine C1.out.mono ?_
  rintro e w' ⟨rfl,rfl⟩
  go_wp2_with fail
  go_ret
  exact ⟨rfl,B.out⟩
 have h1:=Decidable.not_not.1 h1
 have C1:=Lib.hid (sw_partyMay pt W)
 rw [decide_eq_true h1] at C1
 by_cases h2:¬ (1≤get∧get≤8)
 ·have NO:decide (swMay fr pt get give n most)=false:=decide_eq_false (by unfold swMay; omega)
  rw [NO]
  have C2:=Lib.hid (sw_currencyMay get W)
  rw [decide_eq_false h2] at C2
  clear NO h0 h1 h2
  go_enter Tryz.func84,Tryz.ntmps84
  go_upto_region 1 with fail
  rw [HW.out]
  go_wp2_with fail
  refine C0.out.mono ?_
  rintro e w' ⟨rfl,rfl⟩
  go_wp2_with fail
  refine C1.out.mono ?_
  rintro e w' ⟨rfl,rfl⟩
  go_wp2_with fail
  refine C2.out.mono ?_
  rintro e w' ⟨rfl,rfl⟩
  go_wp2_with fail
  go_ret
  exact ⟨rfl,B.out⟩
 have h2:=Decidable.not_not.1 h2
 have C2:=Lib.hid (sw_currencyMay get W)
 rw [decide_eq_true h2] at C2
 by_cases h3:¬ (1≤give∧give≤8)
 ·have NO:decide (swMay fr pt get give n most)=false:=decide_eq_false (by unfold swMay; omega)
  rw [NO]
  have C3:=Lib.hid (sw_currencyMay give W)
  rw [decide_eq_false h3] at C3
  clear NO h0 h1 h2 h3
  go_enter Tryz.func84,Tryz.ntmps84
  go_upto_region 1 with fail
  rw [HW.out]
  go_wp2_with fail
  refine C0.out.mono ?_
  rintro e w' ⟨rfl,rfl⟩
  go_wp2_with fail
  refine C1.out.mono ?_
  rintro e w' ⟨rfl,rfl⟩
  go_wp2_with fail
  refine C2.out.mono ?_
  rintro e w' ⟨rfl,rfl⟩
  go_wp2_with fail
  refine C3.out.mono ?_
  rintro e w' ⟨rfl,rfl⟩
  go_wp2_with fail
  go_ret
  exact ⟨rfl,B.out⟩
 have h3:=Decidable.not_not.1 h3
 have C3:=Lib.hid (sw_currencyMay give W)
 rw [decide_eq_true h3] at C3
 by_cases h4:¬ (get≠give)
 ·have NO:decide (swMay fr pt get give n most)=false:=decide_eq_false (by unfold swMay; omega)
  rw [NO]
  have q4:(get != give)=false:=by simpa using h4
  clear NO h0 h1 h2 h3 h4
  go_enter Tryz.func84,Tryz.ntmps84
  go_upto_region 1 with fail
  rw [HW.out]
  go_wp2_with fail
  refine C0.out.mono ?_
  rintro e w' ⟨rfl,rfl⟩
  go_wp2_with fail
  refine C1.out.mono ?_
  rintro e w' ⟨rfl,rfl⟩
  go_wp2_with fail
  refine C2.out.mono ?_
  rintro e w' ⟨rfl,rfl⟩
  go_wp2_with fail
  refine C3.out.mono ?_
  rintro e w' ⟨rfl,rfl⟩
  go_wp2_with fail
  go_ret
  exact ⟨rfl,B.out⟩
 have h4:=Decidable.not_not.1 h4
 have q4:(get != give)=true:=by simpa using h4
 by_cases h5:¬ (1≤n∧n≤1099511627776)
 ·have NO:decide (swMay fr pt get give n most)=false:=decide_eq_false (by unfold swMay; omega)
  rw [NO]
  have C5:=Lib.hid (sw_amountMay n W)
  rw [decide_eq_false h5] at C5
  clear NO h0 h1 h2 h3 h4 h5
  go_enter Tryz.func84,Tryz.ntmps84
  go_upto_region 1 with fail
  rw [HW.out]
  go_wp2_with fail
  refine C0.out.mono ?_
  rintro e w' ⟨rfl,rfl⟩
  go_wp2_with fail
  refine C1.out.mono ?_
  rintro e w' ⟨rfl,rfl⟩
  go_wp2_with fail
  refine C2.out.mono ?_
  rintro e w' ⟨rfl,rfl⟩
  go_wp2_with fail
  refine C3.out.mono ?_
  rintro e w' ⟨rfl,rfl⟩
  go_wp2_with fail
  refine C5.out.mono ?_
  rintro e w' ⟨rfl,rfl⟩
  go_wp2_with fail
  go_ret
  exact ⟨rfl,B.out⟩
 have h5:=Decidable.not_not.1 h5
 have C5:=Lib.hid (sw_amountMay n W)
 rw [decide_eq_true h5] at C5
 by_cases h6:¬ (1≤most∧most≤1099511627776)
 ·have NO:decide (swMay fr pt get give n most)=false:=decide_eq_false (by unfold swMay; omega)
  rw [NO]
  have C6:=Lib.hid (sw_amountMay most W)
  rw [decide_eq_false h6] at C6
  clear NO h0 h1 h2 h3 h4 h5 h6
  go_enter Tryz.func84,Tryz.ntmps84
  go_upto_region 1 with fail
  rw [HW.out]
  go_wp2_with fail
  refine C0.out.mono ?_
  rintro e w' ⟨rfl,rfl⟩
  go_wp2_with fail
  refine C1.out.mono ?_
  rintro e w' ⟨rfl,rfl⟩
  go_wp2_with fail
  refine C2.out.mono ?_
  rintro e w' ⟨rfl,rfl⟩
  go_wp2_with fail
  refine C3.out.mono ?_
  rintro e w' ⟨rfl,rfl⟩
  go_wp2_with fail
  refine C5.out.mono ?_
  rintro e w' ⟨rfl,rfl⟩
  go_wp2_with fail
  refine C6.out.mono ?_
  rintro e w' ⟨rfl,rfl⟩
  go_wp2_with fail
  go_ret
  exact ⟨rfl,B.out⟩
 have h6:=Decidable.not_not.1 h6
 have C6:=Lib.hid (sw_amountMay most W)
 rw [decide_eq_true h6] at C6
 rw [decide_eq_true (show swMay fr pt get give n most from ⟨h0,h1,h2,h3,h4,h5,h6⟩)]
 clear h0 h1 h2 h3 h4 h5 h6
 go_enter Tryz.func84,Tryz.ntmps84
 go_upto_region 1 with fail
 rw [HW.out]
 go_wp2_with fail
 refine C0.out.mono ?_
 rintro e w' ⟨rfl,rfl⟩
 go_wp2_with fail
 refine C1.out.mono ?_
 rintro e w' ⟨rfl,rfl⟩
 go_wp2_with fail
 refine C2.out.mono ?_
 rintro e w' ⟨rfl,rfl⟩
 go_wp2_with fail
 refine C3.out.mono ?_
 rintro e w' ⟨rfl,rfl⟩
 go_wp2_with fail
 refine C5.out.mono ?_
 rintro e w' ⟨rfl,rfl⟩
 go_wp2_with fail
 refine C6.out.mono ?_
 rintro e w' ⟨rfl,rfl⟩
 go_wp2_with fail
 go_ret
 exact ⟨rfl,B.out⟩
set_option maxHeartbeats 8000000 in
theorem smade_of {w:World} {a b:Option Addr} {er:Int} (h:∀ w',Below w.heap.size w w'→Calls Tryz.prog 67 #[.agg #[.pointer a,.pointer b],.int .u64 0,.int .u8 0,.int .u8 0,.int .i64 0] w' fun e w''=>e=.returned (.tuple #[noFill,.int .i64 er])∧Below w'.heap.size w' w'') :
  Calls Tryz.prog 83 #[.agg #[.pointer a,.pointer b]] w fun e w'=>e=.returned (.bool (er != 2))∧Below w.heap.size w w':=by
 have b0:=(Below.refl w.heap.size w).alloc (Nat.le_refl _) (.cells #[.pointer a,.pointer b] 32)
 have K:=Lib.hid (Blk.new w #[.pointer a,.pointer b] 32)
 have B:=Lib.hid b0
 have C:=Lib.hid (h _ b0)
 clear b0 h
 obtain ⟨q,hq⟩:∃ q,(er != 2)=q:=⟨_,rfl⟩
 rw [hq]
 unfold noFill at C
 generalize hW:w.alloc (.cells #[.pointer a,.pointer b] 32)=W at *
 have HW:=Lib.hid hW
 clear hW
 have c0:=K.out.cell 0; have c1:=K.out.cell 1
 have cl:=K.out.lt
 simp at c0 c1
 clear K
 go_enter Tryz.func83,Tryz.ntmps83
 go_upto_region 1 with fail
 rw [HW.out]
 go_wp2_with fail
 refine C.out.mono ?_
 rintro e w1 ⟨rfl,b1⟩
 have B1:=Lib.hid ((B.out.trans (b1.mono B.out.size)).alloc (Nat.le_trans B.out.size b1.size) (.cells #[.int .u64 0,.int .u8 0,.int .u8 0,.int .i64 0,.int .i64 0] 80))
 clear b1 c0 c1 cl C B
 go_wp2_with fail
 go_ret
 exact ⟨rfl,B1.out⟩
theorem smade_any (HD:FDoProg) {w:World} {base G M gb:Nat} {ps:List Int} {ls:List Ln} {l:List Of} {N:Int} {vb:Value} (hL:LedM w G M ps ls) (hI:LInv ps ls) (hP:PB w base gb l N vb) (hJ:BInv l N) :
  Calls Tryz.prog 83 #[.agg #[.pointer (some ⟨G,0,none⟩),.pointer (some ⟨gb,0,none⟩)]] w fun e w'=>e=.returned (.bool true)∧Below w.heap.size w w' :=
 smade_of (er:=1) (fun w' b=>(pdoS_any HD (hL.below b) hI (hP.below b) hJ 0 0 0 0 (by omega) (by unfold In8; omega) (by unfold In8; omega) (by unfold In64; omega)).mono (by
  rintro e w'' (⟨_,h1,h2⟩ | ⟨h,_⟩)
  ·exact ⟨h1,h2⟩
  ·exact absurd h.1 (by omega)))
def wrongS (ps:List Int) (fr pt get give n most:Int):Int:=if ¬ swMay fr pt get give n most then 1 else if fr ∉ ps∨pt ∉ ps then 7 else 0
set_option maxHeartbeats 8000000 in
theorem swrong_void {w:World} {a b:Option Addr} (fr pt get give n most:Int) (h:∀ w',Below w.heap.size w w'→Calls Tryz.prog 83 #[.agg #[.pointer a,.pointer b]] w' fun e w''=>e=.returned (.bool false)∧Below w'.heap.size w' w'') :
  Calls Tryz.prog 39 #[.agg #[.int .u8 fr,.int .u8 pt,.int .u8 get,.int .u8 give,.int .i64 n,.int .i64 most],.agg #[.pointer a,.pointer b]] w fun e w'=>e=.returned (.int .i64 2)∧Below w.heap.size w w':=by
 have b0:=((Below.refl w.heap.size w).alloc (Nat.le_refl _) (.cells #[.int .u8 fr,.int .u8 pt,.int .u8 get,.int .u8 give,.int .i64 n,.int .i64 most] 94))
 have b1:=b0.alloc b0.size (.cells #[.pointer a,.pointer b] 32)
 have K:=Lib.hid (Blk.newAt (w.alloc (.cells #[.int .u8 fr,.int .u8 pt,.int .u8 get,.int .u8 give,.int .i64 n,.int .i64 most] 94)) #[.pointer a,.pointer b] 32 (g:=w.heap.size + 1) (by simp))
 have B:=Lib.hid b1
 have C:=Lib.hid (h _ b1)
 clear b0 b1 h
 generalize hW:(w.alloc (.cells #[.int .u8 fr,.int .u8 pt,.int .u8 get,.int .u8 give,.int .i64 n,.int .i64 most] 94)).alloc (.cells #[.pointer a,.pointer b] 32)=W at *
 have HW:=Lib.hid hW
 clear hW
 have c0:=K.out.cell 0; have c1:=K.out.cell 1
 have cl:=K.out.lt
 simp at c0 c1
 clear K
 go_enter Tryz.func39,Tryz.ntmps39
 go_upto_region 1 with fail
 rw [HW.out]
 go_wp2_with fail
 refine C.out.mono ?_
 rintro e w1 ⟨rfl,b1⟩
 have B1:=Lib.hid (B.out.trans (b1.mono B.out.size))
 clear b1 c0 c1 cl C B
 go_wp2_with fail
 go_ret
 exact ⟨rfl,B1.out⟩
set_option maxHeartbeats 16000000 in
set_option maxRecDepth 100000 in
theorem swrong_any (HD:FDoProg) {w:World} {base G M gb:Nat} {ps:List Int} {ls:List Ln} {l:List Of} {N:Int} {vb:Value} (hL:LedM w G M ps ls) (hI:LInv ps ls) (hP:PB w base gb l N vb) (hJ:BInv l N) (fr pt get give n most:Int) :
  Calls Tryz.prog 39 #[.agg #[.int .u8 fr,.int .u8 pt,.int .u8 get,.int .u8 give,.int .i64 n,.int .i64 most],.agg #[.pointer (some ⟨G,0,none⟩),.pointer (some ⟨gb,0,none⟩)]] w fun e w'=>e=.returned (.int .i64 (wrongS ps fr pt get give n most))∧Below w.heap.size w w':=by
 have b0:=((Below.refl w.heap.size w).alloc (Nat.le_refl _) (.cells #[.int .u8 fr,.int .u8 pt,.int .u8 get,.int .u8 give,.int .i64 n,.int .i64 most] 94))
 have b1:=b0.alloc b0.size (.cells #[.pointer (some ⟨G,0,none⟩),.pointer (some ⟨gb,0,none⟩)] 32)
 have KS:=Lib.hid ((Blk.new w #[.int .u8 fr,.int .u8 pt,.int .u8 get,.int .u8 give,.int .i64 n,.int .i64 most] 94).alloc (.cells #[.pointer (some ⟨G,0,none⟩),.pointer (some ⟨gb,0,none⟩)] 32))
 have KH:=Lib.hid (Blk.newAt (w.alloc (.cells #[.int .u8 fr,.int .u8 pt,.int .u8 get,.int .u8 give,.int .i64 n,.int .i64 most] 94)) #[.pointer (some ⟨G,0,none⟩),.pointer (some ⟨gb,0,none⟩)] 32 (g:=w.heap.size + 1) (by simp))
 have HL:=Lib.hid (hL.below b1)
 have C:=Lib.hid (smade_any HD (hL.below b1) hI (hP.below b1) hJ)
 have B:=Lib.hid b1
 have HB:=Lib.hid hI.bd
 obtain ⟨R,hR⟩:∃ R,wrongS ps fr pt get give n most=R:=⟨_,rfl⟩
 rw [hR]
 have HR:=Lib.hid hR
 clear b0 b1 hL hI hP hJ hR
 generalize hW:(w.alloc (.cells #[.int .u8 fr,.int .u8 pt,.int .u8 get,.int .u8 give,.int .i64 n,.int .i64 most] 94)).alloc (.cells #[.pointer (some ⟨G,0,none⟩),.pointer (some ⟨gb,0,none⟩)] 32)=W at *
 have HW:=Lib.hid hW
 clear hW
 have c0:=KH.out.cell 0; have c1:=KH.out.cell 1
 have cl:=KH.out.lt
 simp at c0 c1
 go_enter Tryz.func39,Tryz.ntmps39
 go_upto_region 1 with fail
 rw [HW.out]
 go_wp2_with fail
 refine C.out.mono ?_
 rintro e w1 ⟨rfl,b1⟩
 have HL1:=Lib.hid (HL.out.below b1)
 have KS1:=Lib.hid (KS.out.below b1 KS.out.lt)
 have KH1:=Lib.hid (KH.out.below b1 KH.out.lt)
 have B1:=Lib.hid (B.out.trans (b1.mono B.out.size))
 clear b1 c0 c1 cl C B HL KS KH
 have s0:=KS1.out.cell 0; have s1:=KS1.out.cell 1; have s2:=KS1.out.cell 2; have s3:=KS1.out.cell 3; have s4:=KS1.out.cell 4; have s5:=KS1.out.cell 5
 have sl:=KS1.out.lt
 simp at s0 s1 s2 s3 s4 s5
 have CM:=Lib.hid (smay_any fr pt get give n most w1)
 by_cases hm:swMay fr pt get give n most
 ·rw [decide_eq_true hm] at CM
  have HMY:=Lib.hid hm
  clear hm
  go_wp2_with fail
  refine CM.out.mono ?_
  rintro e w2 ⟨rfl,b2⟩
  have HL2:=Lib.hid (HL1.out.below b2)
  have KS2:=Lib.hid (KS1.out.below b2 KS1.out.lt)
  have KH2:=Lib.hid (KH1.out.below b2 KH1.out.lt)
  have B2:=Lib.hid (B1.out.trans (b2.mono B1.out.size))
  clear b2 s0 s1 s2 s3 s4 s5 sl CM B1 HL1 KS1 KH1
  have s0:=KS2.out.cell 0; have s1:=KS2.out.cell 1
  have sl:=KS2.out.lt
  have c0:=KH2.out.cell 0; have c1:=KH2.out.cell 1
  have cl:=KH2.out.lt
  simp at s0 s1 c0 c1
  have CF:=Lib.hid (has_any HL2.out.blk HB.out fr)
  have CT:=Lib.hid (has_any HL2.out.blk HB.out pt)
  by_cases hf:fr ∈ ps
  ·rw [decide_eq_true hf] at CF
   by_cases ht:pt ∈ ps
   ·rw [decide_eq_true ht] at CT
    have EE:Hid (R=0):=Lib.hid (by rw [← HR.out]; unfold wrongS; rw [if_neg (fun h=>h HMY.out),if_neg (fun h=>h.elim (fun h=>h hf) (fun h=>h ht))])
    clear hf ht
    go_wp2_with fail
    refine CF.out.mono ?_
    rintro e w3 ⟨rfl,rfl⟩
    go_wp2_with fail
    refine CT.out.mono ?_
    rintro e w3 ⟨rfl,rfl⟩
    go_wp2_with fail
    go_ret
    exact ⟨by rw [EE.out]; rfl,B2.out⟩
   ·rw [decide_eq_false ht] at CT
    have EE:Hid (R=7):=Lib.hid (by rw [← HR.out]; unfold wrongS; rw [if_neg (fun h=>h HMY.out),if_pos (.inr ht)])
    clear hf ht
    go_wp2_with fail
    refine CF.out.mono ?_
    rintro e w3 ⟨rfl,rfl⟩
    go_wp2_with fail
    refine CT.out.mono ?_
    rintro e w3 ⟨rfl,rfl⟩
    go_wp2_with fail
    go_ret
    exact ⟨by rw [EE.out]; rfl,B2.out⟩
  ·rw [decide_eq_false hf] at CF
   have EE:Hid (R=7):=Lib.hid (by rw [← HR.out]; unfold wrongS; rw [if_neg (fun h=>h HMY.out),if_pos (.inl hf)])
   clear hf CT
   go_wp2_with fail
   refine CF.out.mono ?_
   rintro e w3 ⟨rfl,rfl⟩
   go_wp2_with fail
   go_ret
   exact ⟨by rw [EE.out]; rfl,B2.out⟩
 ·rw [decide_eq_false hm] at CM
  have EE:Hid (R=1):=Lib.hid (by rw [← HR.out]; unfold wrongS; rw [if_pos hm])
  clear hm
  go_wp2_with fail
  refine CM.out.mono ?_
  rintro e w2 ⟨rfl,b2⟩
  have B2:=Lib.hid (B1.out.trans (b2.mono B1.out.size))
  clear b2 s0 s1 s2 s3 s4 s5 sl CM B1
  go_wp2_with fail
  go_ret
  exact ⟨by rw [EE.out]; rfl,B2.out⟩
end Go.Proofs.YtojbmnbphdcjfaaGreat
namespace Go.Proofs.YtojbmnbphdcjfaaGreat
theorem best_mem {l:List Of} {N:Int} (h:BInv l N) {s b:Int} {o:Of} (ho:o ∈ bestO l s b):o ∈ l∧o.sl=s∧o.bu=b:=by
 have h1:=((bestO_is h.may h.rise s b).1.mem_iff).1 ho
 rw [List.mem_filter] at h1
 obtain ⟨h2,h3⟩:=h1
 simp [ofPair] at h3
 exact ⟨h2,h3.1,h3.2⟩
theorem find_of {l:List Of} {N:Int} (h:BInv l N) {o:Of} (ho:o ∈ l):findO l o.se=some o:=by
 cases hf:findO l o.se with
 | none =>
  unfold findO at hf
  rw [List.find?_eq_none] at hf
  exact absurd (by simp) (hf o ho)
 | some o' =>
  obtain ⟨h1,h2⟩:=findO_mem hf
  have key:∀ {m:List Of},m.Pairwise (fun x y=>x.se<y.se)→o ∈ m→o' ∈ m→o=o':=by
   intro m hm
   induction m with
   | nil=>intro a; cases a
   | cons z m ih =>
    intro a b
    have hz:=(List.pairwise_cons.1 hm).1
    rcases List.mem_cons.1 a with ea | a
    ·rcases List.mem_cons.1 b with eb | b
     ·rw [ea,eb]
     ·have:=hz _ b; rw [← ea] at this; omega
    ·rcases List.mem_cons.1 b with eb | b
     ·have:=hz _ a; rw [← eb] at this; omega
     ·exact ih (List.pairwise_cons.1 hm).2 a b
  rw [key h.rise ho h1]
def likeO (a b:Of):Prop:=a.ow=b.ow∧a.sl=b.sl∧a.bu=b.bu∧a.nu=b.nu∧a.de=b.de
theorem take_like {l:List Of} {N:Int} (h:BInv l N) {s n:Int} {o:Of} (hf:findO l s=some o) (h1:1≤n) (h2:n≤o.lf) {t:Int} {x:Of} (hx:findO (takeL l s n) t=some x):∃ y,findO l t=some y∧likeO y x:=by
 obtain ⟨hm,hs⟩:=findO_mem hx
 rw [take_facts h hf h1 h2] at hm
 obtain ⟨_,y,hy,hor⟩:=setO_mem hm
 rcases hor with rfl | ⟨_,rfl⟩
 ·exact ⟨x,by rw [← hs]; exact find_of h hy,rfl,rfl,rfl,rfl,rfl⟩
 ·exact ⟨y,by rw [← hs]; exact find_of h hy,rfl,rfl,rfl,rfl,rfl⟩
def flBy (l0:List Of) (tk pt:Int) (f:Fl) (p c:Int):Int:=match findO l0 f.se with
 | none=>0
 | some o=>fillBy o tk pt f.got f.gi p c
structure SwInv (ps:List Int) (ls0:List Ln) (l0:List Of) (N tk pt get give n0:Int) (σ:SwS):Prop where
 linv:LInv ps σ.ls
 binv:BInv σ.l N
 lim:limL σ.ls=limL ls0
 like:∀ s o,findO σ.l s=some o→∃ y,findO l0 s=some y∧likeO y o
 fs:∀ f ∈ σ.fs,∃ o,findO l0 f.se=some o∧o.sl=get∧o.bu=give∧o.ow≠tk∧o.ow ∈ ps∧(1≤f.got∧f.got≤1099511627776)∧1≤f.gi∧f.gi≤1099511627776
 sum:(σ.fs.map Fl.got).sum + σ.n=n0
 pos:∀ p c,posL σ.ls p c=posL ls0 p c + (σ.fs.map fun f=>flBy l0 tk pt f p c).sum
theorem SwInv.start {ps:List Int} {ls0:List Ln} {l0:List Of} {N tk pt get give n0:Int} (hI:LInv ps ls0) (hJ:BInv l0 N):SwInv ps ls0 l0 N tk pt get give n0 ⟨ls0,l0,[],n0⟩ :=
 ⟨hI,hJ,rfl,fun s o h=>⟨o,h,rfl,rfl,rfl,rfl,rfl⟩,fun f hf=>(by cases hf),(by simp),fun p c=>(by simp)⟩
theorem SwInv.step {ps:List Int} {ls0:List Ln} {l0:List Of} {N tk pt get give n0:Int} {σ:SwS} (h:SwInv ps ls0 l0 N tk pt get give n0 σ) {s k:Int} (hf:firstS ps σ.ls σ.l tk pt σ.n 1099511627776 (bestO σ.l get give)=some (s,k)) :
  1≤k∧k≤σ.n∧okS ps σ.ls σ.l tk pt k s∧(∃ o,findO σ.l s=some o∧o ∈ bestO σ.l get give∧k≤o.lf)∧SwInv ps ls0 l0 N tk pt get give n0 (nextS ps tk pt σ s k):=by
 obtain ⟨h1,h2,o,h3,rfl⟩:=firstS_some hf
 obtain ⟨hm,hsl,hbu⟩:=best_mem h.binv h3
 have hfo:=find_of h.binv hm
 obtain ⟨ok,hle⟩:=may_okS h.linv h2 (by omega)
 have hG:=goesS h.linv o tk pt
 have hG':∀ o',findO σ.l o.se=some o'→Goes ps σ.ls o' tk pt (mostS ps σ.ls o.sl o.ow pt) (mostS ps σ.ls o.bu tk o.ow):=fun o' ho'=>by rw [hfo] at ho'; cases ho'; exact hG
 have hd:=(okS_iff h.linv hG').2 ok
 obtain ⟨o',ho',⟨k1,k2,k3,k4⟩,k5,_,_⟩:=hd.facts
 rw [hfo] at ho'
 cases ho'
 obtain ⟨f1,f2,f3,f4,f5⟩:=filled_facts h.linv h.binv hfo hG hd rfl (filledS_is h.linv o tk pt k (upN (k * o.nu) o.de))
 obtain ⟨_,_,_,_,⟨l1,l2⟩,_⟩:=h.binv.may o hm
 obtain ⟨y,hy,y1,y2,y3,y4,y5⟩:=h.like o.se o hfo
 refine ⟨by omega,hle,ok,⟨o,hfo,h3,k5⟩,?_⟩
 have e:nextS ps tk pt σ o.se k=⟨filledS ps σ.ls o tk pt k (upN (k * o.nu) o.de),takeL σ.l o.se k,σ.fs++[⟨o.se,k,upN (k * o.nu) o.de⟩],σ.n - k⟩:=by
  unfold nextS
  rw [hfo]
 rw [e]
 refine ⟨filledS_inv h.linv _ _ _ _ _,h.binv.take _ _,f1.symm.trans h.lim,fun t x hx=>?_,fun f hf=>?_,?_,fun p c=>?_⟩
 ·obtain ⟨z,hz,z1,z2,z3,z4,z5⟩:=take_like h.binv hfo (by omega) k5 hx
  obtain ⟨v,hv,v1,v2,v3,v4,v5⟩:=h.like t z hz
  exact ⟨v,hv,v1.trans z1,v2.trans z2,v3.trans z3,v4.trans z4,v5.trans z5⟩
 ·rcases List.mem_append.1 hf with hf | hf
  ·exact h.fs f hf
  ·rw [List.mem_singleton] at hf
   subst hf
   exact ⟨y,hy,by rw [y2,hsl],by rw [y3,hbu],by rw [y1]; exact k1,by rw [y1]; exact k2,⟨by show 1≤k; omega,by show k≤1099511627776; omega⟩,f3,f4⟩
 ·have:=h.sum
  simp only [List.map_append,List.map_cons,List.map_nil,List.sum_append,List.sum_cons,List.sum_nil]
  omega
 ·show posL (filledS ps σ.ls o tk pt k (upN (k * o.nu) o.de)) p c=_
  rw [f2 p c,h.pos p c]
  simp only [List.map_append,List.map_cons,List.map_nil,List.sum_append,List.sum_cons,List.sum_nil]
  have e2:flBy l0 tk pt ⟨o.se,k,upN (k * o.nu) o.de⟩ p c=fillBy o tk pt k (upN (k * o.nu) o.de) p c:=by
   unfold flBy
   simp only [hy]
   unfold fillBy
   rw [y1,y2,y3]
  rw [e2]
  omega
theorem SwInv.got_nn {ps:List Int} {ls0:List Ln} {l0:List Of} {N tk pt get give n0:Int} {σ:SwS} (h:SwInv ps ls0 l0 N tk pt get give n0 σ):0≤(σ.fs.map Fl.got).sum:=by
 have key:∀ l:List Fl,(∀ f ∈ l,1≤f.got)→0≤(l.map Fl.got).sum:=by
  intro l
  induction l with
  | nil=>intro _; simp
  | cons x l ih =>
   intro hx
   have a:=hx x List.mem_cons_self
   have b:=ih (fun y hy=>hx y (List.mem_cons_of_mem _ hy))
   rw [List.map_cons,List.sum_cons]
   omega
 exact key _ (fun f hf=>by obtain ⟨o,_,_,_,_,_,a,_⟩:=h.fs f hf; exact a.1)
theorem SwInv.given_bd {ps:List Int} {ls0:List Ln} {l0:List Of} {N tk pt get give n0:Int} {σ:SwS} (h:SwInv ps ls0 l0 N tk pt get give n0 σ):0≤(σ.fs.map Fl.gi).sum∧(σ.fs.map Fl.gi).sum≤1099511627776 * (σ.fs.length:Int):=by
 have key:∀ l:List Fl,(∀ f ∈ l,1≤f.gi∧f.gi≤1099511627776)→0≤(l.map Fl.gi).sum∧(l.map Fl.gi).sum≤1099511627776 * (l.length:Int):=by
  intro l
  induction l with
  | nil=>intro _; simp
  | cons x l ih =>
   intro hx
   have a:=hx x List.mem_cons_self
   have b:=ih (fun y hy=>hx y (List.mem_cons_of_mem _ hy))
   rw [List.map_cons,List.sum_cons,List.length_cons]
   constructor <;> omega
 exact key _ (fun f hf=>by obtain ⟨o,_,_,_,_,_,_,a,b⟩:=h.fs f hf; exact ⟨a,b⟩)
end Go.Proofs.YtojbmnbphdcjfaaGreat
namespace Go.Proofs.YtojbmnbphdcjfaaGreat
open Go.RowKit Go.Shelf
def sortO_ren:Go.Shelf.Ren:=⟨fun | 6=>115 | 15=>106 | 14=>166 | 28=>162 | 29=>163 | 20=>192 | 21=>193 | 22=>194 | 23=>195 | 24=>196 | 25=>197 | 26=>198 | 27=>199 | 46=>218 | 47=>188 | 48=>189 | 49=>219 | 50=>220 | 57=>233 | n=>n,fun | 22=>61 | 24=>126 | 25=>180 | 3=>3 | 39=>171 | 0=>0 | 53=>220 | 55=>62 | 4=>4 | 46=>213 | 45=>212 | 50=>217 | 5=>5 | 9=>9 | 66=>246 | 70=>249 | 76=>284 | 77=>285 | n=>n,fun | n=>n⟩
theorem sortO:Go.Proofs.SlLaysF0.n6 Tryz.prog sortO_ren:={
 mixed:=by kernel_rfl
 f6:=⟨Tryz.f115.name,by decide,Tryz.func115.trans (congrArg some (by kernel_rfl))⟩
 f14:=⟨Tryz.f166.name,by decide,Tryz.func166.trans (congrArg some (by kernel_rfl))⟩
 f15:=Tryz.func106.trans (congrArg some (by kernel_rfl))
 f20:=⟨Tryz.f192.name,by decide,Tryz.func192.trans (congrArg some (by kernel_rfl))⟩
 f21:=⟨Tryz.f193.name,by decide,Tryz.func193.trans (congrArg some (by kernel_rfl))⟩
 f22:=⟨Tryz.f194.name,by decide,Tryz.func194.trans (congrArg some (by kernel_rfl))⟩
 f23:=⟨Tryz.f195.name,by decide,Tryz.func195.trans (congrArg some (by kernel_rfl))⟩
 f24:=⟨Tryz.f196.name,by decide,Tryz.func196.trans (congrArg some (by kernel_rfl))⟩
 f25:=⟨Tryz.f197.name,by decide,Tryz.func197.trans (congrArg some (by kernel_rfl))⟩
 f26:=⟨Tryz.f198.name,by decide,Tryz.func198.trans (congrArg some (by kernel_rfl))⟩
 f27:=⟨Tryz.f199.name,by decide,Tryz.func199.trans (congrArg some (by kernel_rfl))⟩
 f28:=Tryz.func162.trans (congrArg some (by kernel_rfl))
 f29:=Tryz.func163.trans (congrArg some (by kernel_rfl))
 f46:=⟨Tryz.f218.name,by decide,Tryz.func218.trans (congrArg some (by kernel_rfl))⟩
 f47:=Tryz.func188.trans (congrArg some (by kernel_rfl))
 f48:=Tryz.func189.trans (congrArg some (by kernel_rfl))
 f49:=⟨Tryz.f219.name,by decide,Tryz.func219.trans (congrArg some (by kernel_rfl))⟩
 f50:=⟨Tryz.f220.name,by decide,Tryz.func220.trans (congrArg some (by kernel_rfl))⟩
 f57:=⟨Tryz.f233.name,by decide,Tryz.func233.trans (congrArg some (by kernel_rfl))⟩
 t0:=Tryz.underlying0
 a0:=Tryz.isAgg0
 z0:=Tryz.sizeOf0
 v0:=Tryz.zeroValue0
 t3:=Tryz.underlying3
 a3:=Tryz.isAgg3
 z3:=Tryz.sizeOf3
 v3:=Tryz.zeroValue3
 t4:=Tryz.underlying4
 a4:=Tryz.isAgg4
 z4:=Tryz.sizeOf4
 v4:=Tryz.zeroValue4
 t5:=Tryz.underlying5
 a5:=Tryz.isAgg5
 z5:=Tryz.sizeOf5
 v5:=Tryz.zeroValue5
 t9:=Tryz.underlying9
 a9:=Tryz.isAgg9
 z9:=Tryz.sizeOf9
 v9:=Tryz.zeroValue9
 t22:=Tryz.underlying61
 a22:=Tryz.isAgg61
 z22:=Tryz.sizeOf61
 v22:=Tryz.zeroValue61
 t25:=Tryz.underlying180
 a25:=Tryz.isAgg180
 z25:=Tryz.sizeOf180
 v25:=Tryz.zeroValue180
 t39:=Tryz.underlying171
 a39:=Tryz.isAgg171
 z39:=Tryz.sizeOf171
 v39:=Tryz.zeroValue171
 t45:=Tryz.underlying212
 a45:=Tryz.isAgg212
 z45:=Tryz.sizeOf212
 v45:=Tryz.zeroValue212
 t46:=Tryz.underlying213
 a46:=Tryz.isAgg213
 z46:=Tryz.sizeOf213
 v46:=Tryz.zeroValue213
 t50:=Tryz.underlying217
 a50:=Tryz.isAgg217
 z50:=Tryz.sizeOf217
 v50:=Tryz.zeroValue217
 t53:=Tryz.underlying220
 a53:=Tryz.isAgg220
 z53:=Tryz.sizeOf220
 v53:=Tryz.zeroValue220
 t55:=Tryz.underlying62
 a55:=Tryz.isAgg62
 z55:=Tryz.sizeOf62
 v55:=Tryz.zeroValue62
 t66:=Tryz.underlying246
 a66:=Tryz.isAgg246
 z66:=Tryz.sizeOf246
 v66:=Tryz.zeroValue246
 t70:=Tryz.underlying249
 a70:=Tryz.isAgg249
 z70:=Tryz.sizeOf249
 v70:=Tryz.zeroValue249
 t76:=Tryz.underlying284
 a76:=Tryz.isAgg284
 z76:=Tryz.sizeOf284
 v76:=Tryz.zeroValue284
 t77:=Tryz.underlying285
 a77:=Tryz.isAgg285
 z77:=Tryz.sizeOf285
 v77:=Tryz.zeroValue285 }
end Go.Proofs.YtojbmnbphdcjfaaGreat
