/-
  Pieces of one proof, without what is not wanted: PSwap, SortO, RatsD.
-/
import Derived.Test.YtojbmnbphdcjfaaGreatE01
import Derived.Test.YtojbmnbphdcjfaaGreatE16
import Derived.Test.YtojbmnbphdcjfaaGreatE22
import Derived.Shelf.SlSortCmp.NoneTotal
import Derived.Sort.Grow
set_option linter.unusedSimpArgs false
set_option linter.unusedVariables false
namespace Go.Proofs.YtojbmnbphdcjfaaGreat
open Go.RowKit
theorem sw_partyMay (x:Int) (w:World):Calls Tryz.prog 136 #[.int .u8 x] w fun e w'=>e=.returned (.bool (decide (1≤x∧x≤16)))∧w=w':=by
 by_cases h1:1≤x
 ·have d1:decide (1≤x)=true:=by simpa using h1
  by_cases h2:x≤16
  ·have d2:decide (x≤16)=true:=by simpa using h2
   rw [decide_eq_true (⟨h1,h2⟩:1≤x∧x≤16)]
   clear h1 h2
   go_enter Tryz.func136,Tryz.ntmps136
   go_wp2_with fail
   go_ret
   exact ⟨rfl,rfl⟩
  ·have d2:decide (x≤16)=false:=by simpa using h2
   rw [decide_eq_false (fun h:1≤x∧x≤16=>h2 h.2)]
   clear h1 h2
   go_enter Tryz.func136,Tryz.ntmps136
   go_wp2_with fail
   go_ret
   exact ⟨rfl,rfl⟩
 ·have d1:decide (1≤x)=false:=by simpa using h1
  rw [decide_eq_false (fun h:1≤x∧x≤16=>h1 h.1)]
  clear h1
  go_enter Tryz.func136,Tryz.ntmps136
  go_wp2_with fail
  go_ret
  exact ⟨rfl,rfl⟩
theorem sw_currencyMay (x:Int) (w:World):Calls Tryz.prog 137 #[.int .u8 x] w fun e w'=>e=.returned (.bool (decide (1≤x∧x≤8)))∧w=w':=by
 by_cases h1:1≤x
 ·have d1:decide (1≤x)=true:=by simpa using h1
  by_cases h2:x≤8
  ·have d2:decide (x≤8)=true:=by simpa using h2
   rw [decide_eq_true (⟨h1,h2⟩:1≤x∧x≤8)]
   clear h1 h2
   go_enter Tryz.func137,Tryz.ntmps137
   go_wp2_with fail
   go_ret
   exact ⟨rfl,rfl⟩
  ·have d2:decide (x≤8)=false:=by simpa using h2
   rw [decide_eq_false (fun h:1≤x∧x≤8=>h2 h.2)]
   clear h1 h2
   go_enter Tryz.func137,Tryz.ntmps137
   go_wp2_with fail
   go_ret
   exact ⟨rfl,rfl⟩
 ·have d1:decide (1≤x)=false:=by simpa using h1
  rw [decide_eq_false (fun h:1≤x∧x≤8=>h1 h.1)]
  clear h1
  go_enter Tryz.func137,Tryz.ntmps137
  go_wp2_with fail
  go_ret
  exact ⟨rfl,rfl⟩
theorem sw_amountMay (x:Int) (w:World):Calls Tryz.prog 138 #[.int .i64 x] w fun e w'=>e=.returned (.bool (decide (1≤x∧x≤1099511627776)))∧w=w':=by
 by_cases h1:1≤x
 ·have d1:decide (1≤x)=true:=by simpa using h1
  by_cases h2:x≤1099511627776
  ·have d2:decide (x≤1099511627776)=true:=by simpa using h2
   rw [decide_eq_true (⟨h1,h2⟩:1≤x∧x≤1099511627776)]
   clear h1 h2
   go_enter Tryz.func138,Tryz.ntmps138
   go_wp2_with fail
   go_ret
   exact ⟨rfl,rfl⟩
  ·have d2:decide (x≤1099511627776)=false:=by simpa using h2
   rw [decide_eq_false (fun h:1≤x∧x≤1099511627776=>h2 h.2)]
   clear h1 h2
   go_enter Tryz.func138,Tryz.ntmps138
   go_wp2_with fail
   go_ret
   exact ⟨rfl,rfl⟩
 ·have d1:decide (1≤x)=false:=by simpa using h1
  rw [decide_eq_false (fun h:1≤x∧x≤1099511627776=>h1 h.1)]
  clear h1
  go_enter Tryz.func138,Tryz.ntmps138
  go_wp2_with fail
  go_ret
  exact ⟨rfl,rfl⟩
set_option maxHeartbeats 8000000 in
set_option maxRecDepth 100000 in
theorem smay_any (fr pt get give n most:Int) (w:World):Calls Tryz.prog 84 #[.agg #[.int .u8 fr,.int .u8 pt,.int .u8 get,.int .u8 give,.int .i64 n,.int .i64 most]] w fun e w'=>e=.returned (.bool (decide (swMay fr pt get give n most)))∧Below w.heap.size w w':=by
 have B:=Lib.hid ((Below.refl w.heap.size w).alloc (Nat.le_refl _) (.cells #[.int .u8 fr,.int .u8 pt,.int .u8 get,.int .u8 give,.int .i64 n,.int .i64 most] 94))
 have K:=Lib.hid (Blk.new w #[.int .u8 fr,.int .u8 pt,.int .u8 get,.int .u8 give,.int .i64 n,.int .i64 most] 94)
 generalize hW:w.alloc (.cells #[.int .u8 fr,.int .u8 pt,.int .u8 get,.int .u8 give,.int .i64 n,.int .i64 most] 94)=W at *
 have HW:=Lib.hid hW
 clear hW
 have c0:=K.out.cell 0; have c1:=K.out.cell 1; have c2:=K.out.cell 2; have c3:=K.out.cell 3; have c4:=K.out.cell 4; have c5:=K.out.cell 5
 have cl:=K.out.lt
 simp at c0 c1 c2 c3 c4 c5
 clear K
 by_cases h0:¬ (1≤fr∧fr≤16)
 ·have NO:decide (swMay fr pt get give n most)=false:=decide_eq_false (by unfold swMay; omega)
  rw [NO]
  have C0:=Lib.hid (sw_partyMay fr W)
  rw [decide_eq_false h0] at C0
  clear NO h0
  go_enter Tryz.func84,Tryz.ntmps84
  go_upto_region 1 with fail
  rw [HW.out]
  go_wp2_with fail
  refine C0.out.mono ?_
  rintro e w' ⟨rfl,rfl⟩
  go_wp2_with fail
  go_ret
  exact ⟨rfl,B.out⟩
 have h0:=Decidable.not_not.1 h0
 have C0:=Lib.hid (sw_partyMay fr W)
 rw [decide_eq_true h0] at C0
 by_cases h1:¬ (1≤pt∧pt≤16)
 ·have NO:decide (swMay fr pt get give n most)=false:=decide_eq_false (by unfold swMay; omega)
  rw [NO]
  have C1:=Lib.hid (sw_partyMay pt W)
  rw [decide_eq_false h1] at C1
  clear NO h0 h1
  go_enter Tryz.func84,Tryz.ntmps84
  go_upto_region 1 with fail
  rw [HW.out]
  go_wp2_with fail
  refine C0.out.mono ?_
  rintro e w' ⟨rfl,rfl⟩
  go_wp2_with fail
  refine C1.out.mono ?_
  rintro e w' ⟨rfl,rfl⟩
  go_wp2_with fail
  go_ret
  exact ⟨rfl,B.out⟩
 have h1:=Decidable.not_not.1 h1
 have C1:=Lib.hid (sw_partyMay pt W)
 rw [decide_eq_true h1] at C1
 by_cases h2:¬ (1≤get∧get≤8)
 ·have NO:decide (swMay fr pt get give n most)=false:=decide_eq_false (by unfold swMay; omega)
  rw [NO]
  have C2:=Lib.hid (sw_currencyMay get W)
  rw [decide_eq_false h2] at C2
  clear NO h0 h1 h2
  go_enter Tryz.func84,Tryz.ntmps84
  go_upto_region 1 with fail
  rw [HW.out]
  go_wp2_with fail
  refine C0.out.mono ?_
  rintro e w' ⟨rfl,rfl⟩
  go_wp2_with fail
  refine C1.out.mono ?_
  rintro e w' ⟨rfl,rfl⟩
  go_wp2_with fail
  refine C2.out.mono ?_
  rintro e w' ⟨rfl,rfl⟩
  go_wp2_with fail
  go_ret
  exact ⟨rfl,B.out⟩
 have h2:=Decidable.not_not.1 h2
 have C2:=Lib.hid (sw_currencyMay get W)
 rw [decide_eq_true h2] at C2
 by_cases h3:¬ (1≤give∧give≤8)
 ·have NO:decide (swMay fr pt get give n most)=false:=decide_eq_false (by unfold swMay; omega)
  rw [NO]
  have C3:=Lib.hid (sw_currencyMay give W)
  rw [decide_eq_false h3] at C3
  clear NO h0 h1 h2 h3
  go_enter Tryz.func84,Tryz.ntmps84
  go_upto_region 1 with fail
  rw [HW.out]
  go_wp2_with fail
  refine C0.out.mono ?_
  rintro e w' ⟨rfl,rfl⟩
  go_wp2_with fail
  refine C1.out.mono ?_
  rintro e w' ⟨rfl,rfl⟩
  go_wp2_with fail
  refine C2.out.mono ?_
  rintro e w' ⟨rfl,rfl⟩
  go_wp2_with fail
  refine C3.out.mono ?_
  rintro e w' ⟨rfl,rfl⟩
  go_wp2_with fail
  go_ret
  exact ⟨rfl,B.out⟩
 have h3:=Decidable.not_not.1 h3
 have C3:=Lib.hid (sw_currencyMay give W)
 rw [decide_eq_true h3] at C3
 by_cases h4:¬ (get≠give)
 ·have NO:decide (swMay fr pt get give n most)=false:=decide_eq_false (by unfold swMay; omega)
  rw [NO]
  have q4:(get != give)=false:=by simpa using h4
  clear NO h0 h1 h2 h3 h4
  go_enter Tryz.func84,Tryz.ntmps84
  go_upto_region 1 with fail
  rw [HW.out]
  go_wp2_with fail
  refine C0.out.mono ?_
  rintro e w' ⟨rfl,rfl⟩
  go_wp2_with fail
  refine C1.out.mono ?_
  rintro e w' ⟨rfl,rfl⟩
  go_wp2_with fail
  refine C2.out.mono ?_
  rintro e w' ⟨rfl,rfl⟩
  go_wp2_with fail
  refine C3.out.mono ?_
  rintro e w' ⟨rfl,rfl⟩
  go_wp2_with fail
  go_ret
  exact ⟨rfl,B.out⟩
 have h4:=Decidable.not_not.1 h4
 have q4:(get != give)=true:=by simpa using h4
 by_cases h5:¬ (1≤n∧n≤1099511627776)
 ·have NO:decide (swMay fr pt get give n most)=false:=decide_eq_false (by unfold swMay; omega)
  rw [NO]
  have C5:=Lib.hid (sw_amountMay n W)
  rw [decide_eq_false h5] at C5
  clear NO h0 h1 h2 h3 h4 h5
  go_enter Tryz.func84,Tryz.ntmps84
  go_upto_region 1 with fail
  rw [HW.out]
  go_wp2_with fail
  refine C0.out.mono ?_
  rintro e w' ⟨rfl,rfl⟩
  go_wp2_with fail
  refine C1.out.mono ?_
  rintro e w' ⟨rfl,rfl⟩
  go_wp2_with fail
  refine C2.out.mono ?_
  rintro e w' ⟨rfl,rfl⟩
  go_wp2_with fail
  refine C3.out.mono ?_
  rintro e w' ⟨rfl,rfl⟩
  go_wp2_with fail
  refine C5.out.mono ?_
  rintro e w' ⟨rfl,rfl⟩
  go_wp2_with fail
  go_ret
  exact ⟨rfl,B.out⟩
 have h5:=Decidable.not_not.1 h5
 have C5:=Lib.hid (sw_amountMay n W)
 rw [decide_eq_true h5] at C5
 by_cases h6:¬ (1≤most∧most≤1099511627776)
 ·have NO:decide (swMay fr pt get give n most)=false:=decide_eq_false (by unfold swMay; omega)
  rw [NO]
  have C6:=Lib.hid (sw_amountMay most W)
  rw [decide_eq_false h6] at C6
  clear NO h0 h1 h2 h3 h4 h5 h6
  go_enter Tryz.func84,Tryz.ntmps84
  go_upto_region 1 with fail
  rw [HW.out]
  go_wp2_with fail
  refine C0.out.mono ?_
  rintro e w' ⟨rfl,rfl⟩
  go_wp2_with fail
  refine C1.out.mono ?_
  rintro e w' ⟨rfl,rfl⟩
  go_wp2_with fail
  refine C2.out.mono ?_
  rintro e w' ⟨rfl,rfl⟩
  go_wp2_with fail
  refine C3.out.mono ?_
  rintro e w' ⟨rfl,rfl⟩
  go_wp2_with fail
  refine C5.out.mono ?_
  rintro e w' ⟨rfl,rfl⟩
  go_wp2_with fail
  refine C6.out.mono ?_
  rintro e w' ⟨rfl,rfl⟩
  go_wp2_with fail
  go_ret
  exact ⟨rfl,B.out⟩
 have h6:=Decidable.not_not.1 h6
 have C6:=Lib.hid (sw_amountMay most W)
 rw [decide_eq_true h6] at C6
 rw [decide_eq_true (show swMay fr pt get give n most from ⟨h0,h1,h2,h3,h4,h5,h6⟩)]
 clear h0 h1 h2 h3 h4 h5 h6
 go_enter Tryz.func84,Tryz.ntmps84
 go_upto_region 1 with fail
 rw [HW.out]
 go_wp2_with fail
 refine C0.out.mono ?_
 rintro e w' ⟨rfl,rfl⟩
 go_wp2_with fail
 refine C1.out.mono ?_
 rintro e w' ⟨rfl,rfl⟩
 go_wp2_with fail
 refine C2.out.mono ?_
 rintro e w' ⟨rfl,rfl⟩
 go_wp2_with fail
 refine C3.out.mono ?_
 rintro e w' ⟨rfl,rfl⟩
 go_wp2_with fail
 refine C5.out.mono ?_
 rintro e w' ⟨rfl,rfl⟩
 go_wp2_with fail
 refine C6.out.mono ?_
 rintro e w' ⟨rfl,rfl⟩
 go_wp2_with fail
 go_ret
 exact ⟨rfl,B.out⟩
set_option maxHeartbeats 8000000 in
theorem smade_of {w:World} {a b:Option Addr} {er:Int} (h:∀ w',Below w.heap.size w w'→Calls Tryz.prog 67 #[.agg #[.pointer a,.pointer b],.int .u64 0,.int .u8 0,.int .u8 0,.int .i64 0] w' fun e w''=>e=.returned (.tuple #[noFill,.int .i64 er])∧Below w'.heap.size w' w'') :
  Calls Tryz.prog 83 #[.agg #[.pointer a,.pointer b]] w fun e w'=>e=.returned (.bool (er != 2))∧Below w.heap.size w w':=by
 have b0:=(Below.refl w.heap.size w).alloc (Nat.le_refl _) (.cells #[.pointer a,.pointer b] 32)
 have K:=Lib.hid (Blk.new w #[.pointer a,.pointer b] 32)
 have B:=Lib.hid b0
 have C:=Lib.hid (h _ b0)
 clear b0 h
 obtain ⟨q,hq⟩:∃ q,(er != 2)=q:=⟨_,rfl⟩
 rw [hq]
 unfold noFill at C
 generalize hW:w.alloc (.cells #[.pointer a,.pointer b] 32)=W at *
 have HW:=Lib.hid hW
 clear hW
 have c0:=K.out.cell 0; have c1:=K.out.cell 1
 have cl:=K.out.lt
 simp at c0 c1
 clear K
 go_enter Tryz.func83,Tryz.ntmps83
 go_upto_region 1 with fail
 rw [HW.out]
 go_wp2_with fail
 refine C.out.mono ?_
 rintro e w1 ⟨rfl,b1⟩
 have B1:=Lib.hid ((B.out.trans (b1.mono B.out.size)).alloc (Nat.le_trans B.out.size b1.size) (.cells #[.int .u64 0,.int .u8 0,.int .u8 0,.int .i64 0,.int .i64 0] 80))
 clear b1 c0 c1 cl C B
 go_wp2_with fail
 go_ret
 exact ⟨rfl,B1.out⟩
theorem smade_any (HD:FDoProg) {w:World} {base G M gb:Nat} {ps:List Int} {ls:List Ln} {l:List Of} {N:Int} {vb:Value} (hL:LedM w G M ps ls) (hI:LInv ps ls) (hP:PB w base gb l N vb) (hJ:BInv l N) :
  Calls Tryz.prog 83 #[.agg #[.pointer (some ⟨G,0,none⟩),.pointer (some ⟨gb,0,none⟩)]] w fun e w'=>e=.returned (.bool true)∧Below w.heap.size w w' :=
 smade_of (er:=1) (fun w' b=>(pdoS_any HD (hL.below b) hI (hP.below b) hJ 0 0 0 0 (by omega) (by unfold In8; omega) (by unfold In8; omega) (by unfold In64; omega)).mono (by
  rintro e w'' (⟨_,h1,h2⟩ | ⟨h,_⟩)
  ·exact ⟨h1,h2⟩
  ·exact absurd h.1 (by omega)))
def wrongS (ps:List Int) (fr pt get give n most:Int):Int:=if ¬ swMay fr pt get give n most then 1 else if fr ∉ ps∨pt ∉ ps then 7 else 0
set_option maxHeartbeats 8000000 in
theorem swrong_void {w:World} {a b:Option Addr} (fr pt get give n most:Int) (h:∀ w',Below w.heap.size w w'→Calls Tryz.prog 83 #[.agg #[.pointer a,.pointer b]] w' fun e w''=>e=.returned (.bool false)∧Below w'.heap.size w' w'') :
  Calls Tryz.prog 39 #[.agg #[.int .u8 fr,.int .u8 pt,.int .u8 get,.int .u8 give,.int .i64 n,.int .i64 most],.agg #[.pointer a,.pointer b]] w fun e w'=>e=.returned (.int .i64 2)∧Below w.heap.size w w':=by
 have b0:=((Below.refl w.heap.size w).alloc (Nat.le_refl _) (.cells #[.int .u8 fr,.int .u8 pt,.int .u8 get,.int .u8 give,.int .i64 n,.int .i64 most] 94))
 have b1:=b0.alloc b0.size (.cells #[.pointer a,.pointer b] 32)
 have K:=Lib.hid (Blk.newAt (w.alloc (.cells #[.int .u8 fr,.int .u8 pt,.int .u8 get,.int .u8 give,.int .i64 n,.int .i64 most] 94)) #[.pointer a,.pointer b] 32 (g:=w.heap.size + 1) (by simp))
 have B:=Lib.hid b1
 have C:=Lib.hid (h _ b1)
 clear b0 b1 h
 generalize hW:(w.alloc (.cells #[.int .u8 fr,.int .u8 pt,.int .u8 get,.int .u8 give,.int .i64 n,.int .i64 most] 94)).alloc (.cells #[.pointer a,.pointer b] 32)=W at *
 have HW:=Lib.hid hW
 clear hW
 have c0:=K.out.cell 0; have c1:=K.out.cell 1
 have cl:=K.out.lt
 simp at c0 c1
 clear K
 go_enter Tryz.func39,Tryz.ntmps39
 go_upto_region 1 with fail
 rw [HW.out]
 go_wp2_with fail
 refine C.out.mono ?_
 rintro e w1 ⟨rfl,b1⟩
 have B1:=Lib.hid (B.out.trans (b1.mono B.out.size))
 clear b1 c0 c1 cl C B
 go_wp2_with fail
 go_ret
 exact ⟨rfl,B1.out⟩
set_option maxHeartbeats 16000000 in
set_option maxRecDepth 100000 in
theorem swrong_any (HD:FDoProg) {w:World} {base G M gb:Nat} {ps:List Int} {ls:List Ln} {l:List Of} {N:Int} {vb:Value} (hL:LedM w G M ps ls) (hI:LInv ps ls) (hP:PB w base gb l N vb) (hJ:BInv l N) (fr pt get give n most:Int) :
  Calls Tryz.prog 39 #[.agg #[.int .u8 fr,.int .u8 pt,.int .u8 get,.int .u8 give,.int .i64 n,.int .i64 most],.agg #[.pointer (some ⟨G,0,none⟩),.pointer (some ⟨gb,0,none⟩)]] w fun e w'=>e=.returned (.int .i64 (wrongS ps fr pt get give n most))∧Below w.heap.size w w':=by
 have b0:=((Below.refl w.heap.size w).alloc (Nat.le_refl _) (.cells #[.int .u8 fr,.int .u8 pt,.int .u8 get,.int .u8 give,.int .i64 n,.int .i64 most] 94))
 have b1:=b0.alloc b0.size (.cells #[.pointer (some ⟨G,0,none⟩),.pointer (some ⟨gb,0,none⟩)] 32)
 have KS:=Lib.hid ((Blk.new w #[.int .u8 fr,.int .u8 pt,.int .u8 get,.int .u8 give,.int .i64 n,.int .i64 most] 94).alloc (.cells #[.pointer (some ⟨G,0,none⟩),.pointer (some ⟨gb,0,none⟩)] 32))
 have KH:=Lib.hid (Blk.newAt (w.alloc (.cells #[.int .u8 fr,.int .u8 pt,.int .u8 get,.int .u8 give,.int .i64 n,.int .i64 most] 94)) #[.pointer (some ⟨G,0,none⟩),.pointer (some ⟨gb,0,none⟩)] 32 (g:=w.heap.size + 1) (by simp))
 have HL:=Lib.hid (hL.below b1)
 have C:=Lib.hid (smade_any HD (hL.below b1) hI (hP.below b1) hJ)
 have B:=Lib.hid b1
 have HB:=Lib.hid hI.bd
 obtain ⟨R,hR⟩:∃ R,wrongS ps fr pt get give n most=R:=⟨_,rfl⟩
 rw [hR]
 have HR:=Lib.hid hR
 clear b0 b1 hL hI hP hJ hR
 generalize hW:(w.alloc (.cells #[.int .u8 fr,.int .u8 pt,.int .u8 get,.int .u8 give,.int .i64 n,.int .i64 most] 94)).alloc (.cells #[.pointer (some ⟨G,0,none⟩),.pointer (some ⟨gb,0,none⟩)] 32)=W at *
 have HW:=Lib.hid hW
 clear hW
 have c0:=KH.out.cell 0; have c1:=KH.out.cell 1
 have cl:=KH.out.lt
 simp at c0 c1
 go_enter Tryz.func39,Tryz.ntmps39
 go_upto_region 1 with fail
 rw [HW.out]
 go_wp2_with fail
 refine C.out.mono ?_
 rintro e w1 ⟨rfl,b1⟩
 have HL1:=Lib.hid (HL.out.below b1)
 have KS1:=Lib.hid (KS.out.below b1 KS.out.lt)
 have KH1:=Lib.hid (KH.out.below b1 KH.out.lt)
 have B1:=Lib.hid (B.out.trans (b1.mono B.out.size))
 clear b1 c0 c1 cl C B HL KS KH
 have s0:=KS1.out.cell 0; have s1:=KS1.out.cell 1; have s2:=KS1.out.cell 2; have s3:=KS1.out.cell 3; have s4:=KS1.out.cell 4; have s5:=KS1.out.cell 5
 have sl:=KS1.out.lt
 simp at s0 s1 s2 s3 s4 s5
 have CM:=Lib.hid (smay_any fr pt get give n most w1)
 by_cases hm:swMay fr pt get give n most
 ·rw [decide_eq_true hm] at CM
  have HMY:=Lib.hid hm
  clear hm
  go_wp2_with fail
  refine CM.out.mono ?_
  rintro e w2 ⟨rfl,b2⟩
  have HL2:=Lib.hid (HL1.out.below b2)
  have KS2:=Lib.hid (KS1.out.below b2 KS1.out.lt)
  have KH2:=Lib.hid (KH1.out.below b2 KH1.out.lt)
  have B2:=Lib.hid (B1.out.trans (b2.mono B1.out.size))
  clear b2 s0 s1 s2 s3 s4 s5 sl CM B1 HL1 KS1 KH1
  have s0:=KS2.out.cell 0; have s1:=KS2.out.cell 1
  have sl:=KS2.out.lt
  have c0:=KH2.out.cell 0; have c1:=KH2.out.cell 1
  have cl:=KH2.out.lt
  simp at s0 s1 c0 c1
  have CF:=Lib.hid (has_any HL2.out.blk HB.out fr)
  have CT:=Lib.hid (has_any HL2.out.blk HB.out pt)
  by_cases hf:fr ∈ ps
  ·rw [decide_eq_true hf] at CF
   by_cases ht:pt ∈ ps
   ·rw [decide_eq_true ht] at CT
    have EE:Hid (R=0):=Lib.hid (by rw [← HR.out]; unfold wrongS; rw [if_neg (fun h=>h HMY.out),if_neg (fun h=>h.elim (fun h=>h hf) (fun h=>h ht))])
    clear hf ht
    go_wp2_with fail
    refine CF.out.mono ?_
    rintro e w3 ⟨rfl,rfl⟩
    go_wp2_with fail
    refine CT.out.mono ?_
    rintro e w3 ⟨rfl,rfl⟩
    go_wp2_with fail
    go_ret
    exact ⟨by rw [EE.out]; rfl,B2.out⟩
   ·rw [decide_eq_false ht] at CT
    have EE:Hid (R=7):=Lib.hid (by rw [← HR.out]; unfold wrongS; rw [if_neg (fun h=>h HMY.out),if_pos (.inr ht)])
    clear hf ht
    go_wp2_with fail
    refine CF.out.mono ?_
    rintro e w3 ⟨rfl,rfl⟩
    go_wp2_with fail
    refine CT.out.mono ?_
    rintro e w3 ⟨rfl,rfl⟩
    go_wp2_with fail
    go_ret
    exact ⟨by rw [EE.out]; rfl,B2.out⟩
  ·rw [decide_eq_false hf] at CF
   have EE:Hid (R=7):=Lib.hid (by rw [← HR.out]; unfold wrongS; rw [if_neg (fun h=>h HMY.out),if_pos (.inl hf)])
   clear hf CT
   go_wp2_with fail
   refine CF.out.mono ?_
   rintro e w3 ⟨rfl,rfl⟩
   go_wp2_with fail
   go_ret
   exact ⟨by rw [EE.out]; rfl,B2.out⟩
 ·rw [decide_eq_false hm] at CM
  have EE:Hid (R=1):=Lib.hid (by rw [← HR.out]; unfold wrongS; rw [if_pos hm])
  clear hm
  go_wp2_with fail
  refine CM.out.mono ?_
  rintro e w2 ⟨rfl,b2⟩
  have B2:=Lib.hid (B1.out.trans (b2.mono B1.out.size))
  clear b2 s0 s1 s2 s3 s4 s5 sl CM B1
  go_wp2_with fail
  go_ret
  exact ⟨by rw [EE.out]; rfl,B2.out⟩
end Go.Proofs.YtojbmnbphdcjfaaGreat
namespace Go.Proofs.YtojbmnbphdcjfaaGreat
open Go.RowKit Go.Shelf
def sortO_ren:Go.Shelf.Ren:=⟨fun | 6=>115 | 15=>106 | 14=>166 | 28=>162 | 29=>163 | 20=>192 | 21=>193 | 22=>194 | 23=>195 | 24=>196 | 25=>197 | 26=>198 | 27=>199 | 46=>218 | 47=>188 | 48=>189 | 49=>219 | 50=>220 | 57=>233 | n=>n,fun | 22=>61 | 24=>126 | 25=>180 | 3=>3 | 39=>171 | 0=>0 | 53=>220 | 55=>62 | 4=>4 | 46=>213 | 45=>212 | 50=>217 | 5=>5 | 9=>9 | 66=>246 | 70=>249 | 76=>284 | 77=>285 | n=>n,fun | n=>n⟩
theorem sortO:Go.Proofs.SlLaysF0.n6 Tryz.prog sortO_ren:={
 mixed:=by kernel_rfl
 f6:=⟨Tryz.f115.name,by decide,Tryz.func115.trans (congrArg some (by kernel_rfl))⟩
 f14:=⟨Tryz.f166.name,by decide,Tryz.func166.trans (congrArg some (by kernel_rfl))⟩
 f15:=Tryz.func106.trans (congrArg some (by kernel_rfl))
 f20:=⟨Tryz.f192.name,by decide,Tryz.func192.trans (congrArg some (by kernel_rfl))⟩
 f21:=⟨Tryz.f193.name,by decide,Tryz.func193.trans (congrArg some (by kernel_rfl))⟩
 f22:=⟨Tryz.f194.name,by decide,Tryz.func194.trans (congrArg some (by kernel_rfl))⟩
 f23:=⟨Tryz.f195.name,by decide,Tryz.func195.trans (congrArg some (by kernel_rfl))⟩
 f24:=⟨Tryz.f196.name,by decide,Tryz.func196.trans (congrArg some (by kernel_rfl))⟩
 f25:=⟨Tryz.f197.name,by decide,Tryz.func197.trans (congrArg some (by kernel_rfl))⟩
 f26:=⟨Tryz.f198.name,by decide,Tryz.func198.trans (congrArg some (by kernel_rfl))⟩
 f27:=⟨Tryz.f199.name,by decide,Tryz.func199.trans (congrArg some (by kernel_rfl))⟩
 f28:=Tryz.func162.trans (congrArg some (by kernel_rfl))
 f29:=Tryz.func163.trans (congrArg some (by kernel_rfl))
 f46:=⟨Tryz.f218.name,by decide,Tryz.func218.trans (congrArg some (by kernel_rfl))⟩
 f47:=Tryz.func188.trans (congrArg some (by kernel_rfl))
 f48:=Tryz.func189.trans (congrArg some (by kernel_rfl))
 f49:=⟨Tryz.f219.name,by decide,Tryz.func219.trans (congrArg some (by kernel_rfl))⟩
 f50:=⟨Tryz.f220.name,by decide,Tryz.func220.trans (congrArg some (by kernel_rfl))⟩
 f57:=⟨Tryz.f233.name,by decide,Tryz.func233.trans (congrArg some (by kernel_rfl))⟩
 t0:=Tryz.underlying0
 a0:=Tryz.isAgg0
 z0:=Tryz.sizeOf0
 v0:=Tryz.zeroValue0
 t3:=Tryz.underlying3
 a3:=Tryz.isAgg3
 z3:=Tryz.sizeOf3
 v3:=Tryz.zeroValue3
 t4:=Tryz.underlying4
 a4:=Tryz.isAgg4
 z4:=Tryz.sizeOf4
 v4:=Tryz.zeroValue4
 t5:=Tryz.underlying5
 a5:=Tryz.isAgg5
 z5:=Tryz.sizeOf5
 v5:=Tryz.zeroValue5
 t9:=Tryz.underlying9
 a9:=Tryz.isAgg9
 z9:=Tryz.sizeOf9
 v9:=Tryz.zeroValue9
 t22:=Tryz.underlying61
 a22:=Tryz.isAgg61
 z22:=Tryz.sizeOf61
 v22:=Tryz.zeroValue61
 t25:=Tryz.underlying180
 a25:=Tryz.isAgg180
 z25:=Tryz.sizeOf180
 v25:=Tryz.zeroValue180
 t39:=Tryz.underlying171
 a39:=Tryz.isAgg171
 z39:=Tryz.sizeOf171
 v39:=Tryz.zeroValue171
 t45:=Tryz.underlying212
 a45:=Tryz.isAgg212
 z45:=Tryz.sizeOf212
 v45:=Tryz.zeroValue212
 t46:=Tryz.underlying213
 a46:=Tryz.isAgg213
 z46:=Tryz.sizeOf213
 v46:=Tryz.zeroValue213
 t50:=Tryz.underlying217
 a50:=Tryz.isAgg217
 z50:=Tryz.sizeOf217
 v50:=Tryz.zeroValue217
 t53:=Tryz.underlying220
 a53:=Tryz.isAgg220
 z53:=Tryz.sizeOf220
 v53:=Tryz.zeroValue220
 t55:=Tryz.underlying62
 a55:=Tryz.isAgg62
 z55:=Tryz.sizeOf62
 v55:=Tryz.zeroValue62
 t66:=Tryz.underlying246
 a66:=Tryz.isAgg246
 z66:=Tryz.sizeOf246
 v66:=Tryz.zeroValue246
 t70:=Tryz.underlying249
 a70:=Tryz.isAgg249
 z70:=Tryz.sizeOf249
 v70:=Tryz.zeroValue249
 t76:=Tryz.underlying284
 a76:=Tryz.isAgg284
 z76:=Tryz.sizeOf284
 v76:=Tryz.zeroValue284
 t77:=Tryz.underlying285
 a77:=Tryz.isAgg285
 z77:=Tryz.sizeOf285
 v77:=Tryz.zeroValue285 }
end Go.Proofs.YtojbmnbphdcjfaaGreat
namespace Go.Proofs.YtojbmnbphdcjfaaGreat
open Go.RowKit
structure BelowD (B:Nat) (w w':World):Prop extends Below B w w' where
 dr:w.drawn≤w'.drawn
theorem BelowD.refl (B:Nat) (w:World):BelowD B w w:=⟨Below.refl B w,Nat.le_refl _⟩
theorem BelowD.trans {B:Nat} {a b c:World} (h:BelowD B a b) (k:BelowD B b c):BelowD B a c:=⟨h.toBelow.trans k.toBelow,Nat.le_trans h.dr k.dr⟩
theorem BelowD.mono {B B':Nat} {w w':World} (h:BelowD B w w') (hb:B'≤B):BelowD B' w w':=⟨h.toBelow.mono hb,h.dr⟩
theorem BelowD.alloc {B:Nat} {a w:World} (h:BelowD B a w) (hb:B≤w.heap.size) (o:Obj):BelowD B a (w.alloc o):=⟨h.toBelow.alloc hb o,h.dr⟩
theorem BelowD.drew {B:Nat} {a w:World} (h:BelowD B a w):BelowD B a w.drew:=⟨h.toBelow.drew,Nat.le_trans h.dr (Nat.le_succ _)⟩
theorem BelowD.setCell {B:Nat} {a w:World} (h:BelowD B a w) {p:Addr} (hp:B≤p.block) (u:Value):BelowD B a (w.setCell p u):=⟨h.toBelow.setCell hp u,h.dr⟩
theorem BelowD.grown {w w':World} (h:BelowD w.heap.size w w'):∃ q os',w'=Go.Sort.grow (w.drewN q) os':=by
 refine ⟨w'.drawn - w.drawn,w'.heap.extract w.heap.size w'.heap.size,?_⟩
 have hd:=h.dr
 have hh:w'.heap=w.heap++w'.heap.extract w.heap.size w'.heap.size:=by
  apply Array.ext_getElem?
  intro i
  by_cases hi:i<w.heap.size
  ·rw [h.block i hi,Array.getElem?_append_left hi]
  ·rw [Array.getElem?_append_right (by omega),Array.getElem?_extract]
   by_cases hi2:i<w'.heap.size
   ·rw [if_pos (by simp; omega)]; congr 1; omega
   ·rw [if_neg (by simp; omega),Array.getElem?_eq_none (by omega)]
 obtain ⟨h0,h1,h2,h3,h4⟩:=w'
 obtain ⟨g0,g1,g2,g3,g4⟩:=w
 have e1:=h.os; have e2:=h.tape; have e3:=h.output
 simp only at hh e1 e2 e3 hd
 subst e1 e2 e3
 simp only [Go.Sort.grow,World.drewN]
 rw [← hh]
 congr 1
 omega
set_option maxHeartbeats 1000000 in
theorem divisor_any_d (a b:Int) (w:World) (ha:In64 a) (hb:In64 b) (h1:1≤a) (h2:1≤b) :
  Calls Tryz.prog 232 #[.int .i64 a,.int .i64 b] w fun e w'=>e=.returned (.int .i64 (Int.gcd a b))∧BelowD w.heap.size w w':=by
 have HA:=Lib.hid ha; have HB:=Lib.hid hb
 clear ha hb
 go_enter Tryz.func232,Tryz.ntmps232
 go_wp2
 refine wp_scope_jumps 0 (fun a' w'=>BelowD w.heap.size w w'∧∃ (x y:Int) (u2 u3 u4 u5 u6 u7 u8 u9 u10 u11:Value),a'={ tmps:=#[.int .i64 x,.int .i64 y,u2,u3,u4,u5,u6,u7,u8,u9,u10,u11],defers:=[] }∧1≤x∧0≤y∧x≤9223372036854775807∧y≤9223372036854775807∧Int.gcd x y=Int.gcd a b) (fun a' _=>(intOf (a'.tmps.getD 1 undef)).toNat) rfl ?_ ?_
 ·by_cases hb:b=0
  ·omega
  ·have hnb:(b==0)=false:=by simp; omega
   have HG:=Lib.hid (gcd_mod a b)
   have HLT:=Lib.hid (Int.emod_lt_of_pos a (show 0<b by omega)); have HGE:=Lib.hid (Int.emod_nonneg a hb)
   go_wp2
   go_step3
   go_wp2
   go_region
   all_goals
    go_wp2
    go_step3
    exact ⟨rfl,(BelowD.refl _ _).drew,b,_,_,_,_,_,_,_,_,_,_,_,rfl,h2,HGE.out,HB.out.2,by have:=HLT.out; have:=HB.out.2; omega,HG.out⟩
 ·rintro a' w' ⟨bel,x,y,u2,u3,u4,u5,u6,u7,u8,u9,u10,u11,rfl,hx,hy,hx2,hy2,hg⟩
  have HG:=Lib.hid hg
  clear hg
  by_cases hb:y=0
  ·subst hb
   have e:((Int.gcd x 0:Nat):Int)=x:=by rw [Int.gcd_zero_right]; omega
   have hnn:((0:Int)==0)=true:=rfl
   go_wp2
   simp only [Exit.jump]
   go_ret
   exact ⟨by rw [← HG.out,e]; rfl,bel⟩
  ·have hnb:(y==0)=false:=by simp; omega
   have HS:=Lib.hid (gcd_mod x y)
   have HLT:=Lib.hid (Int.emod_lt_of_pos x (show 0<y by omega)); have HGE:=Lib.hid (Int.emod_nonneg x hb)
   go_wp2
   go_region
   all_goals
    go_wp2
    go_step3
    refine ⟨rfl,⟨bel.drew,y,_,_,_,_,_,_,_,_,_,_,_,rfl,by omega,HGE.out,hy2,by have:=HLT.out; omega,by rw [HS.out]; exact HG.out⟩,?_⟩
    have:=HLT.out; have:=HGE.out
    simp [intOf]; omega
theorem of_arg_d (n d:Int) (w:World) (h:n<1∨d<1) :
  Calls Tryz.prog 213 #[.int .i64 n,.int .i64 d] w fun e w'=>e=.returned (ofV n d)∧BelowD w.heap.size w w':=by
 rw [ofV_arg h]
 have q2:Blk (w.alloc (.cells #[.int .i64 0,.int .i64 0] 74)) w.heap.size #[.int .i64 0,.int .i64 0] 74:=Blk.new _ _ _
 have hlt:=q2.lt
 clear q2
 have hs:n<1∨(1≤n∧d<1):=by omega
 clear h
 rcases hs with h1 | ⟨h1,h2⟩
 all_goals
  go_enter Tryz.func213,Tryz.ntmps213
  go_wp2
  refine bodyPost_ret (v:=.tuple #[.agg #[.int .i64 0,.int .i64 0],.int .i64 1]) (results_cell_and rfl _ _ w.heap.size 74 #[.int .i64 0,.int .i64 0] _ _ rfl (Blk.new w #[.int .i64 0,.int .i64 0] 74).out Tryz.underlying74 rfl (by kernel_rfl) rfl) rfl ⟨rfl,?_⟩
  exact ((BelowD.refl _ _).alloc (Nat.le_refl _) _)
set_option maxHeartbeats 1000000 in
theorem of_two_d (n d g x y:Int) (w:World) (h1:1≤n) (h2:1≤d) (hn:In64 n) (hd:In64 d) (hg:(Int.gcd n d:Int)=g) (hx:n / g=x) (hy:d / g=y) (hx0:0≤x) (hy0:0≤y) (hxn:x≤n) (hyd:y≤d) (hg0:1≤g) :
  Calls Tryz.prog 213 #[.int .i64 n,.int .i64 d] w fun e w'=>e=.returned (if 1099511627776<x∨1099511627776<y then .tuple #[.agg #[.int .i64 0,.int .i64 0],.int .i64 10] else .tuple #[.agg #[.int .i64 x,.int .i64 y],.int .i64 0])∧BelowD w.heap.size w w':=by
 have c:=Lib.hid (fun w=>divisor_any_d n d w hn hd h1 h2)
 rw [hg] at c
 have e1:Int.tdiv n g=x:=by rw [← hx]; exact Int.tdiv_eq_ediv_of_nonneg (by omega)
 have e2:Int.tdiv d g=y:=by rw [← hy]; exact Int.tdiv_eq_ediv_of_nonneg (by omega)
 have ew1:wrap64 x=x:=wrap64_of x ⟨by omega,by have:=hn.2; omega⟩
 have ew2:wrap64 y=y:=wrap64_of y ⟨by omega,by have:=hd.2; omega⟩
 have q2:Blk (w.alloc (.cells #[.int .i64 0,.int .i64 0] 74)) w.heap.size #[.int .i64 0,.int .i64 0] 74:=Blk.new _ _ _
 have b0:BelowD w.heap.size w (w.alloc (.cells #[.int .i64 0,.int .i64 0] 74)):=(BelowD.refl _ _).alloc (Nat.le_refl _) _
 have Q2:=Lib.hid q2; have B0:=Lib.hid b0
 have hs:1099511627776<x∨(x≤1099511627776∧1099511627776<y)∨(x≤1099511627776∧y≤1099511627776):=by omega
 clear q2 b0 hn hd
 rcases hs with o1 | ⟨o1,o2⟩ | ⟨o1,o2⟩
 ·rw [if_pos (.inl o1)]
  go_enter Tryz.func213,Tryz.ntmps213
  go_wp2_with fail
  refine (c.out _).mono ?_
  rintro e w1 ⟨rfl,bw⟩
  have k1:=Q2.out.below bw.toBelow Q2.out.lt
  have B1:=Lib.hid (B0.out.trans (bw.mono (by simp)))
  have d0:=k1.cell 0; have d1:=k1.cell 1
  simp at d0 d1
  have f1:=k1.frozen
  have hz:=k1.lt
  have K1:=Lib.hid k1
  clear k1 bw
  go_wp2
  go_region
  all_goals
   go_wp2
   refine bodyPost_ret (v:=.tuple #[.agg #[.int .i64 0,.int .i64 0],.int .i64 10]) (results_cell_and rfl _ _ w.heap.size 74 #[.int .i64 0,.int .i64 0] _ _ rfl (Blk.drew (((K1.out.set 0 (.int .i64 0)).set 1 (.int .i64 0)).alloc _)).out Tryz.underlying74 rfl (by kernel_rfl) rfl) rfl ⟨rfl,?_⟩
   first
   | exact ((((B1.out.alloc B1.out.size _).drew).setCell (Nat.le_refl _) _).setCell (Nat.le_refl _) _)
   | exact ((((B1.out.setCell (Nat.le_refl _) _).setCell (Nat.le_refl _) _).alloc (by simpa using B1.out.size) _).drew)
 ·rw [if_pos (.inr o2)]
  go_enter Tryz.func213,Tryz.ntmps213
  go_wp2_with fail
  refine (c.out _).mono ?_
  rintro e w1 ⟨rfl,bw⟩
  have k1:=Q2.out.below bw.toBelow Q2.out.lt
  have B1:=Lib.hid (B0.out.trans (bw.mono (by simp)))
  have d0:=k1.cell 0; have d1:=k1.cell 1
  simp at d0 d1
  have f1:=k1.frozen
  have hz:=k1.lt
  have K1:=Lib.hid k1
  clear k1 bw
  go_wp2
  go_region
  all_goals
   go_wp2
   refine bodyPost_ret (v:=.tuple #[.agg #[.int .i64 0,.int .i64 0],.int .i64 10]) (results_cell_and rfl _ _ w.heap.size 74 #[.int .i64 0,.int .i64 0] _ _ rfl (Blk.drew (((K1.out.set 0 (.int .i64 0)).set 1 (.int .i64 0)).alloc _)).out Tryz.underlying74 rfl (by kernel_rfl) rfl) rfl ⟨rfl,?_⟩
   first
   | exact ((((B1.out.alloc B1.out.size _).drew).setCell (Nat.le_refl _) _).setCell (Nat.le_refl _) _)
   | exact ((((B1.out.setCell (Nat.le_refl _) _).setCell (Nat.le_refl _) _).alloc (by simpa using B1.out.size) _).drew)
 ·rw [if_neg (by omega)]
  go_enter Tryz.func213,Tryz.ntmps213
  go_wp2_with fail
  refine (c.out _).mono ?_
  rintro e w1 ⟨rfl,bw⟩
  have k1:=Q2.out.below bw.toBelow Q2.out.lt
  have B1:=Lib.hid (B0.out.trans (bw.mono (by simp)))
  have d0:=k1.cell 0; have d1:=k1.cell 1
  simp at d0 d1
  have f1:=k1.frozen
  have hz:=k1.lt
  have K1:=Lib.hid k1
  clear k1 bw
  go_wp2
  go_region
  all_goals
   go_wp2
   refine bodyPost_ret (v:=.tuple #[.agg #[.int .i64 x,.int .i64 y],.int .i64 0]) (results_cell_and rfl _ _ w.heap.size 74 #[.int .i64 x,.int .i64 y] _ _ rfl (Blk.drew (((K1.out.set 0 (.int .i64 x)).set 1 (.int .i64 y)).alloc _)).out Tryz.underlying74 rfl (by kernel_rfl) rfl) rfl ⟨rfl,?_⟩
   first
   | exact ((((B1.out.alloc B1.out.size _).drew).setCell (Nat.le_refl _) _).setCell (Nat.le_refl _) _)
   | exact ((((B1.out.setCell (Nat.le_refl _) _).setCell (Nat.le_refl _) _).alloc (by simpa using B1.out.size) _).drew)
theorem of_rat_d (n d:Int) (w:World) (hn:In64 n) (hd:In64 d) :
  Calls Tryz.prog 213 #[.int .i64 n,.int .i64 d] w fun e w'=>e=.returned (ofV n d)∧BelowD w.heap.size w w':=by
 by_cases h:n<1∨d<1
 ·exact of_arg_d n d w h
 ·obtain ⟨g0,x0,xn,y0,yd⟩:=gcd_bd (n:=n) (d:=d) (by omega) (by omega)
  have:=of_two_d n d _ _ _ w (by omega) (by omega) hn hd rfl rfl rfl x0 y0 xn yd g0
  refine this.mono fun e w' ⟨he,hb⟩=>⟨?_,hb⟩
  rw [he]
  by_cases ho:1099511627776<n / Int.gcd n d∨1099511627776<d / Int.gcd n d
  ·rw [if_pos ho,ofV_over (by omega) (by omega) rfl ho]
  ·rw [if_neg ho,ofV_good (by omega) (by omega) rfl ho]
set_option maxHeartbeats 1000000 in
theorem allowed_any_d (n d:Int) (w:World) (hn:In64 n) (hd:In64 d) :
  Calls Tryz.prog 178 #[.agg #[.int .i64 n,.int .i64 d]] w fun e w'=>e=.returned (.agg #[.int .i64 (alN n d),.int .i64 (alD n d)])∧BelowD w.heap.size w w':=by
 have c:=Lib.hid (fun w=>of_rat_d n d w hn hd)
 unfold ofV at c
 have hs:(ofRN n d=n∧ofD n d=d∧alN n d=n∧alD n d=d)∨(ofRN n d≠n∧alN n d=0∧alD n d=0)∨(ofRN n d=n∧ofD n d≠d∧alN n d=0∧alD n d=0):=by
  unfold alN alD
  by_cases hm:MayN n d
  ·rw [(may_iff n d).2 hm]; obtain ⟨a,b⟩:=of_self hm; exact .inl ⟨a,b,rfl,rfl⟩
  ·have e:mayB n d=false:=by rw [Bool.eq_false_iff]; exact fun h=>hm ((may_iff n d).1 h)
   rw [e]
   rcases of_not hm with ⟨a,b,rfl,rfl⟩ | h | h
   ·exact .inl ⟨a,b,rfl,rfl⟩
   ·exact .inr (.inl ⟨h,rfl,rfl⟩)
   ·by_cases h':ofRN n d=n
    ·exact .inr (.inr ⟨h',h,rfl,rfl⟩)
    ·exact .inr (.inl ⟨h',rfl,rfl⟩)
 generalize ofRN n d=x at *
 generalize ofD n d=y at *
 generalize ofE n d=z at *
 have k1:Blk ((w.alloc (.cells #[.int .i64 n,.int .i64 d] 74)).alloc (.cells #[.int .i64 0,.int .i64 0] 74)) w.heap.size #[.int .i64 n,.int .i64 d] 74:=(Blk.new _ _ _).alloc _
 have k2:Blk ((w.alloc (.cells #[.int .i64 n,.int .i64 d] 74)).alloc (.cells #[.int .i64 0,.int .i64 0] 74)) (w.heap.size + 1) #[.int .i64 0,.int .i64 0] 74:=Blk.newAt _ _ _ (by simp)
 have b0:BelowD w.heap.size w ((w.alloc (.cells #[.int .i64 n,.int .i64 d] 74)).alloc (.cells #[.int .i64 0,.int .i64 0] 74)):=((BelowD.refl _ _).alloc (Nat.le_refl _) _).alloc (by simp) _
 have K1:=Lib.hid k1; have K2:=Lib.hid k2; have B0:=Lib.hid b0
 clear k1 k2 b0 hn hd
 rcases hs with ⟨e1,e2,e3,e4⟩ | ⟨e1,e3,e4⟩ | ⟨e1,e2,e3,e4⟩
 ·rw [e3,e4]
  subst e1 e2
  clear e3 e4
  go_enter Tryz.func178,Tryz.ntmps178
  go_wp2_with fail
  refine (c.out _).mono ?_
  rintro e w1 ⟨rfl,bw⟩
  have q1:=K1.out.below bw.toBelow K1.out.lt; have q2:=K2.out.below bw.toBelow K2.out.lt
  have B1:=Lib.hid (B0.out.trans (bw.mono (by simp; omega)))
  have d0:=q1.cell 0; have d1:=q1.cell 1; have e0:=q2.cell 0; have e1:=q2.cell 1
  simp at d0 d1 e0 e1
  have f2:=q2.frozen
  have hz:=q1.lt; have hz2:=q2.lt
  have Q1:=Lib.hid q1; have Q2:=Lib.hid q2
  clear q1 q2 bw
  go_wp2
  refine bodyPost_ret (v:=.agg #[.int .i64 x,.int .i64 y]) (results_cell_row rfl _ _ (w.heap.size + 1) 74 #[.int .i64 x,.int .i64 y] (0,0) _ rfl (((Q2.out.set 0 (.int .i64 x)).set 1 (.int .i64 y)).alloc _).out Tryz.underlying74 rfl (by kernel_rfl)) rfl ⟨by simp,?_⟩
  exact (((B1.out.setCell (by simp) _).setCell (by simp) _).alloc (by simpa using B1.out.size) _)
 ·rw [e3,e4]
  have e5:(x==n)=false:=by simp [e1]
  clear e1 e3 e4
  go_enter Tryz.func178,Tryz.ntmps178
  go_wp2_with fail
  refine (c.out _).mono ?_
  rintro e w1 ⟨rfl,bw⟩
  have q1:=K1.out.below bw.toBelow K1.out.lt; have q2:=K2.out.below bw.toBelow K2.out.lt
  have B1:=Lib.hid (B0.out.trans (bw.mono (by simp; omega)))
  have d0:=q1.cell 0; have d1:=q1.cell 1; have e0:=q2.cell 0; have e1:=q2.cell 1
  simp at d0 d1 e0 e1
  have f2:=q2.frozen
  have hz:=q1.lt; have hz2:=q2.lt
  have Q1:=Lib.hid q1; have Q2:=Lib.hid q2
  clear q1 q2 bw
  go_wp2
  refine bodyPost_ret (v:=.agg #[.int .i64 0,.int .i64 0]) (results_cell_row rfl _ _ (w.heap.size + 1) 74 #[.int .i64 0,.int .i64 0] (0,0) _ rfl (((Q2.out.set 0 (.int .i64 0)).set 1 (.int .i64 0)).alloc _).out Tryz.underlying74 rfl (by kernel_rfl)) rfl ⟨by simp,?_⟩
  exact (((B1.out.setCell (by simp) _).setCell (by simp) _).alloc (by simpa using B1.out.size) _)
 ·rw [e3,e4]
  subst e1
  have e5:(y==d)=false:=by simp [e2]
  clear e2 e3 e4
  go_enter Tryz.func178,Tryz.ntmps178
  go_wp2_with fail
  refine (c.out _).mono ?_
  rintro e w1 ⟨rfl,bw⟩
  have q1:=K1.out.below bw.toBelow K1.out.lt; have q2:=K2.out.below bw.toBelow K2.out.lt
  have B1:=Lib.hid (B0.out.trans (bw.mono (by simp; omega)))
  have d0:=q1.cell 0; have d1:=q1.cell 1; have e0:=q2.cell 0; have e1:=q2.cell 1
  simp at d0 d1 e0 e1
  have f2:=q2.frozen
  have hz:=q1.lt; have hz2:=q2.lt
  have Q1:=Lib.hid q1; have Q2:=Lib.hid q2
  clear q1 q2 bw
  go_wp2
  refine bodyPost_ret (v:=.agg #[.int .i64 0,.int .i64 0]) (results_cell_row rfl _ _ (w.heap.size + 1) 74 #[.int .i64 0,.int .i64 0] (0,0) _ rfl (((Q2.out.set 0 (.int .i64 0)).set 1 (.int .i64 0)).alloc _).out Tryz.underlying74 rfl (by kernel_rfl)) rfl ⟨by simp,?_⟩
  exact (((B1.out.setCell (by simp) _).setCell (by simp) _).alloc (by simpa using B1.out.size) _)
set_option maxHeartbeats 1000000 in
theorem may_any_d (n d:Int) (w:World) (hn:In64 n) (hd:In64 d) :
  Calls Tryz.prog 130 #[.agg #[.int .i64 n,.int .i64 d]] w fun e w'=>e=.returned (.bool (mayB n d))∧BelowD w.heap.size w w':=by
 have c:=Lib.hid (fun w=>allowed_any_d n d w hn hd)
 have B0:=Lib.hid ((BelowD.refl w.heap.size w).alloc (Nat.le_refl _) (.cells #[.int .i64 n,.int .i64 d] 74))
 clear hn hd
 rcases al_cases n d with ⟨hm,h1,h2,h3,h4,h5,h6⟩ | ⟨hm,h1,h2⟩
 ·rw [h1,h2] at c
  rw [hm]
  have e1:(n==0)=false:=by simp; omega
  clear h1 h2 h4 h5 h6 h3
  go_enter Tryz.func130,Tryz.ntmps130
  go_wp2_with fail
  refine (c.out _).mono ?_
  rintro e w1 ⟨rfl,b1⟩
  go_wp2_with fail
  go_ret
  exact ⟨rfl,B0.out.trans (b1.mono (by simp))⟩
 ·rw [h1,h2] at c
  rw [hm]
  clear h1 h2
  go_enter Tryz.func130,Tryz.ntmps130
  go_wp2_with fail
  refine (c.out _).mono ?_
  rintro e w1 ⟨rfl,b1⟩
  go_wp2_with fail
  go_ret
  exact ⟨rfl,B0.out.trans (b1.mono (by simp))⟩
set_option maxHeartbeats 1000000 in
theorem compare_any_d (an ad bn bd:Int) (w:World) (h1:In64 an) (h2:In64 ad) (h3:In64 bn) (h4:In64 bd) :
  Calls Tryz.prog 167 #[.agg #[.int .i64 an,.int .i64 ad],.agg #[.int .i64 bn,.int .i64 bd]] w fun e w'=>e=.returned (.int .i64 (cmpR an ad bn bd))∧BelowD w.heap.size w w':=by
 have c1:=Lib.hid (fun w=>may_any_d an ad w h1 h2)
 have c2:=Lib.hid (fun w=>may_any_d bn bd w h3 h4)
 have k1:Blk ((w.alloc (.cells #[.int .i64 an,.int .i64 ad] 74)).alloc (.cells #[.int .i64 bn,.int .i64 bd] 74)) w.heap.size #[.int .i64 an,.int .i64 ad] 74:=(Blk.new _ _ _).alloc _
 have k2:Blk ((w.alloc (.cells #[.int .i64 an,.int .i64 ad] 74)).alloc (.cells #[.int .i64 bn,.int .i64 bd] 74)) (w.heap.size + 1) #[.int .i64 bn,.int .i64 bd] 74:=Blk.newAt _ _ _ (by simp)
 have b0:BelowD w.heap.size w ((w.alloc (.cells #[.int .i64 an,.int .i64 ad] 74)).alloc (.cells #[.int .i64 bn,.int .i64 bd] 74)):=((BelowD.refl _ _).alloc (Nat.le_refl _) _).alloc (by simp) _
 have K1:=Lib.hid k1; have K2:=Lib.hid k2; have B0:=Lib.hid b0
 clear k1 k2 b0 h1 h2 h3 h4
 by_cases hm:mayB an ad=true
 ·by_cases hm2:mayB bn bd=true
  ·rw [show cmpR an ad bn bd=cmpI (an * bd) (bn * ad) by unfold cmpR; rw [if_pos ⟨hm,hm2⟩],← cmp_words]
   obtain ⟨p1,p2,p3,p4,_⟩:=may_bd hm
   obtain ⟨q1,q2,q3,q4,_⟩:=may_bd hm2
   rw [hm] at c1; rw [hm2] at c2
   have u1:IntKind.u64.wrap an=an:=u64_of _ ⟨by omega,by omega⟩
   have u2:IntKind.u64.wrap ad=ad:=u64_of _ ⟨by omega,by omega⟩
   have u3:IntKind.u64.wrap bn=bn:=u64_of _ ⟨by omega,by omega⟩
   have u4:IntKind.u64.wrap bd=bd:=u64_of _ ⟨by omega,by omega⟩
   have cm1:=Lib.hid (fun w=>mul64_any an bd w ⟨by omega,by omega⟩ ⟨by omega,by omega⟩)
   have cm2:=Lib.hid (fun w=>mul64_any bn ad w ⟨by omega,by omega⟩ ⟨by omega,by omega⟩)
   have cc:=Lib.hid compare_u64
   generalize an * bd=x at *
   generalize bn * ad=y at *
   clear hm hm2 p1 p2 p3 p4 q1 q2 q3 q4
   go_enter Tryz.func167,Tryz.ntmps167
   go_wp2_with fail
   refine (c1.out _).mono ?_
   rintro e w1 ⟨rfl,b1⟩
   have B1:=Lib.hid (B0.out.trans (b1.mono (by simp; omega)))
   have r1:=K1.out.below b1.toBelow K1.out.lt; have r2:=K2.out.below b1.toBelow K2.out.lt
   have d0:=r1.cell 0; have d1:=r1.cell 1; have e0:=r2.cell 0; have e1:=r2.cell 1
   simp at d0 d1 e0 e1
   have R1:=Lib.hid r1; have R2:=Lib.hid r2
   clear r1 r2 b1
   go_wp2_with fail
   refine (c2.out _).mono ?_
   rintro e w2 ⟨rfl,b2⟩
   have B2:=Lib.hid (B1.out.trans (b2.mono B1.out.size))
   have r1:=R1.out.below b2.toBelow R1.out.lt; have r2:=R2.out.below b2.toBelow R2.out.lt
   clear d0 d1 e0 e1
   have d0:=r1.cell 0; have d1:=r1.cell 1; have e0:=r2.cell 0; have e1:=r2.cell 1
   simp at d0 d1 e0 e1
   clear r1 r2 b2
   go_wp2_with fail
   refine (cm1.out _).mono ?_
   rintro e w2 ⟨rfl,rfl⟩
   go_wp2_with fail
   refine (cm2.out _).mono ?_
   rintro e w2 ⟨rfl,rfl⟩
   go_wp2_with fail
   refine (cc.out _ _ _).mono ?_
   rintro e w2 ⟨rfl,rfl⟩
   go_wp2_with fail
   refine (cc.out _ _ _).mono ?_
   rintro e w2 ⟨rfl,rfl⟩
   go_wp2_with fail
   refine (or_two w2.heap.size _ (cmpI (x / 18446744073709551616) (y / 18446744073709551616)) (cmpI (x % 18446744073709551616) (y % 18446744073709551616)) _ (by simp) (by simp) (by simp)).mono ?_
   rintro e w2 ⟨rfl,rfl⟩
   go_wp2_with fail
   go_ret
   exact ⟨rfl,B2.out.alloc B2.out.size _⟩
  ·rw [show cmpR an ad bn bd=0 by unfold cmpR; rw [if_neg (by simp [hm2])]]
   simp only [Bool.not_eq_true] at hm2
   rw [hm] at c1; rw [hm2] at c2
   clear hm hm2
   go_enter Tryz.func167,Tryz.ntmps167
   go_wp2_with fail
   refine (c1.out _).mono ?_
   rintro e w1 ⟨rfl,b1⟩
   have B1:=Lib.hid (B0.out.trans (b1.mono (by simp; omega)))
   have r2:=K2.out.below b1.toBelow K2.out.lt
   have e0:=r2.cell 0; have e1:=r2.cell 1
   simp at e0 e1
   clear r2 b1
   go_wp2_with fail
   refine (c2.out _).mono ?_
   rintro e w2 ⟨rfl,b2⟩
   go_wp2_with fail
   go_ret
   exact ⟨rfl,B1.out.trans (b2.mono B1.out.size)⟩
 ·rw [show cmpR an ad bn bd=0 by unfold cmpR; rw [if_neg (by simp [hm])]]
  simp only [Bool.not_eq_true] at hm
  rw [hm] at c1
  clear hm
  go_enter Tryz.func167,Tryz.ntmps167
  go_wp2_with fail
  refine (c1.out _).mono ?_
  rintro e w1 ⟨rfl,b1⟩
  go_wp2_with fail
  go_ret
  exact ⟨rfl,B0.out.trans (b1.mono (by simp; omega))⟩
end Go.Proofs.YtojbmnbphdcjfaaGreat
