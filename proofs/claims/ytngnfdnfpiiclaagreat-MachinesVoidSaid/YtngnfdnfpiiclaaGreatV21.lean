/-
  Pieces of one proof, without what is not wanted: MachinesVoid, FillsSay, SwapSay, Both, PFills4, PB10.
-/
import Derived.Test.YtngnfdnfpiiclaaGreatV01
import Derived.Test.YtngnfdnfpiiclaaGreatV02
import Derived.Test.YtngnfdnfpiiclaaGreatV05
import Derived.Test.YtngnfdnfpiiclaaGreatV06
import Derived.Test.YtngnfdnfpiiclaaGreatV11
import Derived.Test.YtngnfdnfpiiclaaGreatV12
import Derived.Test.YtngnfdnfpiiclaaGreatV13
import Derived.Test.YtngnfdnfpiiclaaGreatV15
import Derived.Test.YtngnfdnfpiiclaaGreatV16
import Derived.Test.YtngnfdnfpiiclaaGreatV17
import Derived.Test.YtngnfdnfpiiclaaGreatV20
import Derived.Laws.AppendOwnNone
import Derived.Deep.RegionWith
import Derived.Laws.EntriesVeiled
import Derived.Shelf.Abstract
set_option linter.unusedSimpArgs false
set_option linter.unusedVariables false
namespace Go.Proofs.YtngnfdnfpiiclaaGreat
open Go.RowKit
def VoidM (w:World) (p:Option Addr):Prop:=p=none∨∃ g,p=some ⟨g,0,none⟩∧Blk w g #[.pointer none,.pointer none] 82
theorem VoidM.below {w w':World} {p:Option Addr} (h:VoidM w p) (k:Below w.heap.size w w'):VoidM w' p:=h.imp id fun ⟨g,e,b⟩=>⟨g,e,b.below k b.lt⟩
theorem mmade_void {w:World} {p:Option Addr} (h:VoidM w p):Calls Tryz.prog 46 #[.pointer p] w fun e w'=>e=.returned (.bool false)∧w=w':=by
 rcases h with rfl | ⟨g,rfl,b⟩
 ·go_enter Tryz.func46,Tryz.ntmps46
  go_wp2_with fail
  go_ret
  exact ⟨rfl,rfl⟩
 ·have m0:=b.cell 0; have ml:=b.lt
  simp at m0
  clear b
  go_enter Tryz.func46,Tryz.ntmps46
  go_wp2_with fail
  go_ret
  exact ⟨rfl,rfl⟩
theorem mcopy_void {w:World} {p:Option Addr} (h:VoidM w p):Calls Tryz.prog 13 #[.pointer p] w fun e w'=>e=.returned (.pointer none)∧Below w.heap.size w w':=by
 have C:=Lib.hid (mmade_void h)
 clear h
 go_enter Tryz.func13,Tryz.ntmps13
 go_wp2_with fail
 refine C.out.mono ?_
 rintro e w ⟨rfl,rfl⟩
 go_wp2_with fail
 go_ret
 exact ⟨rfl,Below.refl _ _⟩
theorem mstate_void {w:World} {p:Option Addr} (h:VoidM w p):Calls Tryz.prog 21 #[.pointer p] w fun e w'=>e=.returned (.agg #[.slice none 0 0,.slice none 0 0,.slice none 0 0,.int .u64 0])∧Below w.heap.size w w':=by
 have b1:=(Below.refl w.heap.size w).alloc (Nat.le_refl _) (.cells #[.slice none 0 0,.slice none 0 0,.slice none 0 0,.int .u64 0] 46)
 have KX:=Lib.hid (Blk.new w #[.slice none 0 0,.slice none 0 0,.slice none 0 0,.int .u64 0] 46)
 have C:=Lib.hid (mmade_void (h.below b1))
 have B1:=Lib.hid b1
 clear h b1
 go_enter Tryz.func21,Tryz.ntmps21
 go_upto_region 1 with fail
 generalize w.alloc (.cells #[.slice none 0 0,.slice none 0 0,.slice none 0 0,.int .u64 0] 46)=W at *
 go_wp2_with fail
 refine C.out.mono ?_
 rintro e W ⟨rfl,rfl⟩
 go_wp2_with (refine wpList_store_whole rfl 46 (.tmp 2) (.tmp 8) rfl w.heap.size #[.slice none 0 0,.slice none 0 0,.slice none 0 0,.int .u64 0] rfl rfl 46 _ KX.out.out (by kernel_rfl) rfl (by simp [Value.oneCell']) ?_)
 refine bodyPost_ret (v:=.agg #[.slice none 0 0,.slice none 0 0,.slice none 0 0,.int .u64 0]) (results_cell_row rfl _ _ w.heap.size 46 #[.slice none 0 0,.slice none 0 0,.slice none 0 0,.int .u64 0] (0,0) _ rfl (setRow_heap _ w.heap.size _ _ _ (0,0) KX.out.out) Tryz.underlying46 rfl (by kernel_rfl)) rfl ?_
 exact ⟨rfl,below_setRow B1.out (Nat.le_refl _) _⟩
theorem mapply_void {w:World} {p:Option Addr} (xa:Option Addr) (xn xc:Nat) (h:VoidM w p):Calls Tryz.prog 16 #[.pointer p,.agg #[.slice xa xn xc]] w fun e w'=>e=.returned (.agg #[.int .i64 2,.int .i64 0,.slice none 0 0])∧Below w.heap.size w w':=by
 have b1:=(Below.refl w.heap.size w).alloc (Nat.le_refl _) (.cells #[.slice xa xn xc] 32)
 have b2:=b1.alloc b1.size (.cells #[.int .i64 0,.int .i64 0,.slice none 0 0] 36)
 have KX:=Lib.hid (Blk.newAt (w.alloc (.cells #[.slice xa xn xc] 32)) #[.int .i64 0,.int .i64 0,.slice none 0 0] 36 (g:=w.heap.size + 1) (by simp))
 have C:=Lib.hid (mmade_void (h.below b2))
 have B1:=Lib.hid b2
 clear h b1 b2
 go_enter Tryz.func16,Tryz.ntmps16
 go_upto_region 1 with fail
 generalize (w.alloc (.cells #[.slice xa xn xc] 32)).alloc (.cells #[.int .i64 0,.int .i64 0,.slice none 0 0] 36)=W at *
 go_wp2_with fail
 refine C.out.mono ?_
 rintro e W ⟨rfl,rfl⟩
 go_wp2_with (refine wpList_store_whole rfl 36 (.tmp 4) (.tmp 16) rfl (w.heap.size + 1) #[.int .i64 2,.int .i64 0,.slice none 0 0] rfl rfl 36 _ KX.out.out (by kernel_rfl) rfl (by simp [Value.oneCell']) ?_)
 refine bodyPost_ret (v:=.agg #[.int .i64 2,.int .i64 0,.slice none 0 0]) (results_cell_row rfl _ _ (w.heap.size + 1) 36 #[.int .i64 2,.int .i64 0,.slice none 0 0] (0,0) _ rfl (setRow_heap _ (w.heap.size + 1) _ _ _ (0,0) KX.out.out) Tryz.underlying36 rfl (by kernel_rfl)) rfl ?_
 exact ⟨rfl,below_setRow B1.out (by omega) _⟩
def VdAt (W:World) (i:Value) (wr:World):Prop:=∃ k:Nat,k≤2∧i=.int .i64 k∧Below W.heap.size W wr
set_option maxHeartbeats 32000000 in
set_option maxRecDepth 100000 in
theorem mvoid_walk (HL:Lives14) (x:Cm) (w:World) (hx:x.In w):Calls Tryz.prog 5 #[.agg #[.slice x.a x.n x.c]] w fun e w'=>e=.returned (.bool true)∧Below w.heap.size w w':=by
 obtain ⟨xa,xn,xc,xs⟩:=x
 clear hx
 have LV:=Lib.hid HL
 clear HL
 have b1:=(Below.refl w.heap.size w).alloc (Nat.le_refl _) (.cells #[.slice xa xn xc] 32)
 have b2:=b1.alloc b1.size (.cells #[.pointer none,.pointer none] 82)
 have b3:=b2.alloc b2.size (.cells #[.pointer none,.pointer (some ⟨w.heap.size + 1,0,none⟩)] 25)
 have KC:=Lib.hid (((Blk.new w #[.slice xa xn xc] 32).alloc (.cells #[.pointer none,.pointer none] 82)).alloc (.cells #[.pointer none,.pointer (some ⟨w.heap.size + 1,0,none⟩)] 25))
 have KN:=Lib.hid ((Blk.newAt (w.alloc (.cells #[.slice xa xn xc] 32)) #[.pointer none,.pointer none] 82 (g:=w.heap.size + 1) (by simp)).alloc (.cells #[.pointer none,.pointer (some ⟨w.heap.size + 1,0,none⟩)] 25))
 have KL:=Lib.hid (Blk.newAt ((w.alloc (.cells #[.slice xa xn xc] 32)).alloc (.cells #[.pointer none,.pointer none] 82)) #[.pointer none,.pointer (some ⟨w.heap.size + 1,0,none⟩)] 25 (g:=w.heap.size + 1 + 1) (by simp))
 have B3:=Lib.hid b3
 clear b1 b2 b3
 go_enter Tryz.func5,Tryz.ntmps5
 go_upto_region 3 with fail
 generalize ((w.alloc (.cells #[.slice xa xn xc] 32)).alloc (.cells #[.pointer none,.pointer none] 82)).alloc (.cells #[.pointer none,.pointer (some ⟨w.heap.size + 1,0,none⟩)] 25)=W at *
 go_wp2_with fail
 go_loopw [5] (VdAt W) (fun i _=>2 - (intOf i).toNat)
 case atStart=>exact ⟨0,by omega,rfl,Below.refl _ _⟩
 case round =>
  obtain ⟨k,hk,rfl,hb⟩:=hrel
  by_cases hk2:k<2
  ·have hp:∃ p,VoidM wr p∧wr.cell? ⟨w.heap.size + 1 + 1,k,none⟩=some (.pointer p):=by
    have kl:=KL.out.below hb KL.out.lt
    rcases (show k=0∨k=1 by omega) with rfl | rfl
    ·exact ⟨none,.inl rfl,(kl.cell 0).trans (by simp)⟩
    ·exact ⟨_,.inr ⟨_,rfl,KN.out.below hb KN.out.lt⟩,(kl.cell 1).trans (by simp)⟩
   obtain ⟨p,hp,c0⟩:=hp
   have VM:=Lib.hid hp
   have C0:=Lib.hid c0
   have hki:(k:Int)<2:=by omega
   have hk0:(0:Int)≤(k:Int):=by omega
   have q1:decide ((k:Int)<2)=true:=by simpa using hki
   have KL1:=Lib.hid (KL.out.below hb KL.out.lt)
   have KC1:=Lib.hid (KC.out.below hb KC.out.lt)
   have hl:=KL1.out.lt
   have BR:=Lib.hid hb
   clear hp hb hk
   go_wp2_with fail
   refine (mstate_void VM.out).mono ?_
   rintro e w5 ⟨rfl,b5⟩
   have VM5:=Lib.hid (VM.out.below b5)
   have KL5:=Lib.hid (KL1.out.below b5 KL1.out.lt)
   have KC5:=Lib.hid (KC1.out.below b5 KC1.out.lt)
   have C5:=Lib.hid ((b5.cell (p:=⟨w.heap.size + 1 + 1,k,none⟩) KL1.out.lt).trans C0.out)
   have B5:=Lib.hid (BR.out.trans (b5.mono BR.out.size))
   clear VM KL1 KC1 C0 BR c0 hl b5
   have bz:=below_setRow ((Below.refl w5.heap.size w5).alloc (Nat.le_refl _) (.cells #[.slice none 0 0,.slice none 0 0,.slice none 0 0,.int .u64 0] 46)) (Nat.le_refl w5.heap.size) #[.slice none 0 0,.slice none 0 0,.slice none 0 0,.int .u64 0]
   have KS3:=Lib.hid (show Blk ((w5.alloc (.cells #[.slice none 0 0,.slice none 0 0,.slice none 0 0,.int .u64 0] 46)).setRow w5.heap.size #[.slice none 0 0,.slice none 0 0,.slice none 0 0,.int .u64 0]) w5.heap.size #[.slice none 0 0,.slice none 0 0,.slice none 0 0,.int .u64 0] 46 from setRow_heap _ _ _ _ _ (0,0) (Blk.new w5 _ _))
   go_upto_region 7 with (refine wpList_store_whole rfl 46 (.tmp 6) (.tmp 16) rfl w5.heap.size #[.slice none 0 0,.slice none 0 0,.slice none 0 0,.int .u64 0] rfl rfl 46 _ (Blk.new w5 #[.slice none 0 0,.slice none 0 0,.slice none 0 0,.int .u64 0] 46).out (by kernel_rfl) rfl (by simp [Value.oneCell']) ?_)
   generalize (w5.alloc (.cells #[.slice none 0 0,.slice none 0 0,.slice none 0 0,.int .u64 0] 46)).setRow w5.heap.size #[.slice none 0 0,.slice none 0 0,.slice none 0 0,.int .u64 0]=w6 at *
   have VM3:=Lib.hid (VM5.out.below bz)
   have KL3:=Lib.hid (KL5.out.below bz KL5.out.lt)
   have KC3:=Lib.hid (KC5.out.below bz KC5.out.lt)
   have C3:=Lib.hid ((bz.cell (p:=⟨w.heap.size + 1 + 1,k,none⟩) KL5.out.lt).trans C5.out)
   have B6:=Lib.hid (B5.out.trans (bz.mono B5.out.size))
   have SR:Hid (∀ w',Calls Tryz.prog 17 #[.agg #[.int .i64 2,.int .i64 0,.slice none 0 0],.agg #[.int .i64 2,.int .i64 0,.slice none 0 0]] w' fun e w''=>e=.returned (.bool true)∧Below w'.heap.size w' w''):=Lib.hid (fun w'=>(SameReply_any (la:=[]) (lb:=[]) (reads_nil w' 2) (reads_nil w' 2)).mono fun e w'' h=>⟨h.1.trans (by rw [decide_eq_true (by simp)]),h.2⟩)
   clear VM5 KL5 KC5 C5 B5 bz
   refine region_still (by kernel_rfl) [(.slice (some ⟨w.heap.size + 1 + 1,0,none⟩) 2 2),(.int .i64 k),(.pointer (some ⟨w.heap.size + 1 + 1,k,none⟩)),(.pointer p),(.agg #[.slice xa xn xc]),(.agg #[.int .i64 2,.int .i64 0,.slice none 0 0]),(.agg #[.int .i64 2,.int .i64 0,.slice none 0 0]),(.bool true),(.bool false),(.bool false),(.pointer (some ⟨w5.heap.size,0,none⟩)),(.slice none 0 0),(.int .i64 0),(.pointer (some ⟨w5.heap.size,1,none⟩)),(.slice none 0 0),(.int .i64 0),(.int .i64 0),(.pointer (some ⟨w5.heap.size,2,none⟩)),(.slice none 0 0),(.int .i64 0),(.int .i64 0),(.bool false),(.bool false),(.bool false),(.pointer (some ⟨w5.heap.size,3,none⟩)),(.int .u64 0),(.bool false),(.bool false),(.bool false),(.slice (some ⟨w.heap.size + 1 + 1,0,none⟩) 2 2),(.int .i64 k),(.pointer (some ⟨w.heap.size + 1 + 1,k,none⟩)),(.pointer p),(.pointer none),(.bool false),(.bool false)] (fun w'=>Below w6.heap.size w6 w') (by kernel_rfl) (Below.refl _ _).drew ?_
   intro af haf
   simp only [List.toList_toArray,List.append_eq,List.cons_append,List.nil_append,puts,Act.put,List.getD_cons_zero,List.getD_cons_succ,List.setIfInBounds_toArray,List.set_cons_succ,List.set_cons_zero] at haf
   subst haf
   refine ⟨?_,?_⟩
   ·simp only [List.toList_toArray,List.append_eq,List.cons_append,List.nil_append,EachTo]
    refine ⟨?_,?_,?_,?_,?_,?_,?_,?_,?_,?_,?_,?_,?_,?_,?_,?_,?_,?_,?_,?_,?_,?_,?_,?_,?_,?_,?_,?_,?_,?_,?_,?_,?_,?_,?_,?_,trivial⟩
    ·intro w' hS; refine OpTo.plain ?_ ?_; exact rfl; have HS:=Lib.hid hS; clear hS; go_wp2_with fail; all_goals first | exact HS.out | exact ⟨rfl,HS.out⟩ | rfl
    ·intro w' hS; refine OpTo.plain ?_ ?_; exact rfl; have HS:=Lib.hid hS; clear hS; go_wp2_with fail; all_goals first | exact HS.out | exact ⟨rfl,HS.out⟩ | rfl
    ·intro w' hS; refine OpTo.plain ?_ ?_; exact rfl; have HS:=Lib.hid hS; clear hS; go_wp2_with fail; all_goals first | exact HS.out | exact ⟨rfl,HS.out⟩ | rfl
    ·intro w' hS; refine OpTo.plain ?_ ?_; exact rfl; have HS:=Lib.hid hS; have t0:=(hS.cell (p:=⟨w.heap.size + 1 + 1,k,none⟩) KL3.out.lt).trans C3.out; have tl:=Nat.lt_of_lt_of_le KL3.out.lt hS.size; clear hS; go_wp2_with fail; all_goals first | exact HS.out | exact ⟨rfl,HS.out⟩ | rfl
    ·intro w' hS; refine OpTo.plain ?_ ?_; exact rfl; have HS:=Lib.hid hS; have d0:=(KC3.out.below hS KC3.out.lt).cell 0; simp at d0; have dl:=(KC3.out.below hS KC3.out.lt).lt; clear hS; go_wp2_with fail; all_goals first | exact HS.out | exact ⟨rfl,HS.out⟩ | rfl
    ·intro w' hS; refine OpTo.plain ?_ ?_; exact rfl; have HS:=Lib.hid hS; clear hS; go_wp2_with fail; refine (mapply_void xa xn xc (VM3.out.below HS.out)).mono ?_; rintro e w'' ⟨rfl,hb2⟩; exact ⟨rfl,andB HS.out hb2⟩
    ·intro w' hS; refine OpTo.plain ?_ ?_; exact rfl; have HS:=Lib.hid hS; clear hS; go_wp2_with fail; all_goals first | exact HS.out | exact ⟨rfl,HS.out⟩ | rfl
    ·intro w' hS; refine OpTo.plain ?_ ?_; exact rfl; have HS:=Lib.hid hS; clear hS; go_wp2_with fail; refine (SR.out w').mono ?_; rintro e w'' ⟨rfl,hb2⟩; exact ⟨rfl,andB HS.out hb2⟩
    ·intro w' hS; refine OpTo.plain ?_ ?_; exact rfl; have HS:=Lib.hid hS; clear hS; go_wp2_with fail; all_goals first | exact HS.out | exact ⟨rfl,HS.out⟩ | rfl
    ·intro w' hS; refine OpTo.plain ?_ ?_; exact rfl; have HS:=Lib.hid hS; clear hS; go_wp2_with fail; all_goals first | exact HS.out | exact ⟨rfl,HS.out⟩ | rfl
    ·intro w' hS; refine OpTo.wanted ?_ ?_; kernel_rfl; have HS:=Lib.hid hS; clear hS; go_wp2_with fail; all_goals first | exact HS.out | exact ⟨rfl,HS.out⟩ | rfl
    ·intro w' hS; refine OpTo.wanted ?_ ?_; kernel_rfl; have HS:=Lib.hid hS; have d0:=(KS3.out.below hS KS3.out.lt).cell 0; have d1:=(KS3.out.below hS KS3.out.lt).cell 1; have d2:=(KS3.out.below hS KS3.out.lt).cell 2; have d3:=(KS3.out.below hS KS3.out.lt).cell 3; simp at d0 d1 d2 d3; have dl:=(KS3.out.below hS KS3.out.lt).lt; clear hS; go_wp2_with fail; all_goals first | exact HS.out | exact ⟨rfl,HS.out⟩ | rfl
    ·intro w' hS; refine OpTo.wanted ?_ ?_; kernel_rfl; have HS:=Lib.hid hS; clear hS; go_wp2_with fail; all_goals first | exact HS.out | exact ⟨rfl,HS.out⟩ | rfl
    ·intro w' hS; refine OpTo.wanted ?_ ?_; kernel_rfl; have HS:=Lib.hid hS; clear hS; go_wp2_with fail; all_goals first | exact HS.out | exact ⟨rfl,HS.out⟩ | rfl
    ·intro w' hS; refine OpTo.wanted ?_ ?_; kernel_rfl; have HS:=Lib.hid hS; have d0:=(KS3.out.below hS KS3.out.lt).cell 0; have d1:=(KS3.out.below hS KS3.out.lt).cell 1; have d2:=(KS3.out.below hS KS3.out.lt).cell 2; have d3:=(KS3.out.below hS KS3.out.lt).cell 3; simp at d0 d1 d2 d3; have dl:=(KS3.out.below hS KS3.out.lt).lt; clear hS; go_wp2_with fail; all_goals first | exact HS.out | exact ⟨rfl,HS.out⟩ | rfl
    ·intro w' hS; refine OpTo.wanted ?_ ?_; kernel_rfl; have HS:=Lib.hid hS; clear hS; go_wp2_with fail; all_goals first | exact HS.out | exact ⟨rfl,HS.out⟩ | rfl
    ·intro w' hS; refine OpTo.wanted ?_ ?_; kernel_rfl; have HS:=Lib.hid hS; clear hS; go_wp2_with fail; all_goals first | exact HS.out | exact ⟨rfl,HS.out⟩ | rfl
    ·intro w' hS; refine OpTo.wanted ?_ ?_; kernel_rfl; have HS:=Lib.hid hS; clear hS; go_wp2_with fail; all_goals first | exact HS.out | exact ⟨rfl,HS.out⟩ | rfl
    ·intro w' hS; refine OpTo.wanted ?_ ?_; kernel_rfl; have HS:=Lib.hid hS; have d0:=(KS3.out.below hS KS3.out.lt).cell 0; have d1:=(KS3.out.below hS KS3.out.lt).cell 1; have d2:=(KS3.out.below hS KS3.out.lt).cell 2; have d3:=(KS3.out.below hS KS3.out.lt).cell 3; simp at d0 d1 d2 d3; have dl:=(KS3.out.below hS KS3.out.lt).lt; clear hS; go_wp2_with fail; all_goals first | exact HS.out | exact ⟨rfl,HS.out⟩ | rfl
    ·intro w' hS; refine OpTo.wanted ?_ ?_; kernel_rfl; have HS:=Lib.hid hS; clear hS; go_wp2_with fail; all_goals first | exact HS.out | exact ⟨rfl,HS.out⟩ | rfl
    ·intro w' hS; refine OpTo.wanted ?_ ?_; kernel_rfl; have HS:=Lib.hid hS; clear hS; go_wp2_with fail; all_goals first | exact HS.out | exact ⟨rfl,HS.out⟩ | rfl
    ·intro w' hS; refine OpTo.wanted ?_ ?_; kernel_rfl; have HS:=Lib.hid hS; clear hS; go_wp2_with fail; all_goals first | exact HS.out | exact ⟨rfl,HS.out⟩ | rfl
    ·intro w' hS; refine OpTo.plain ?_ ?_; exact rfl; have HS:=Lib.hid hS; clear hS; go_wp2_with fail; all_goals first | exact HS.out | exact ⟨rfl,HS.out⟩ | rfl
    ·intro w' hS; refine OpTo.plain ?_ ?_; exact rfl; have HS:=Lib.hid hS; clear hS; go_wp2_with fail; all_goals first | exact HS.out | exact ⟨rfl,HS.out⟩ | rfl
    ·intro w' hS; refine OpTo.wanted ?_ ?_; kernel_rfl; have HS:=Lib.hid hS; clear hS; go_wp2_with fail; all_goals first | exact HS.out | exact ⟨rfl,HS.out⟩ | rfl
    ·intro w' hS; refine OpTo.wanted ?_ ?_; kernel_rfl; have HS:=Lib.hid hS; have d0:=(KS3.out.below hS KS3.out.lt).cell 0; have d1:=(KS3.out.below hS KS3.out.lt).cell 1; have d2:=(KS3.out.below hS KS3.out.lt).cell 2; have d3:=(KS3.out.below hS KS3.out.lt).cell 3; simp at d0 d1 d2 d3; have dl:=(KS3.out.below hS KS3.out.lt).lt; clear hS; go_wp2_with fail; all_goals first | exact HS.out | exact ⟨rfl,HS.out⟩ | rfl
    ·intro w' hS; refine OpTo.wanted ?_ ?_; kernel_rfl; have HS:=Lib.hid hS; clear hS; go_wp2_with fail; all_goals first | exact HS.out | exact ⟨rfl,HS.out⟩ | rfl
    ·intro w' hS; refine OpTo.plain ?_ ?_; exact rfl; have HS:=Lib.hid hS; clear hS; go_wp2_with fail; all_goals first | exact HS.out | exact ⟨rfl,HS.out⟩ | rfl
    ·intro w' hS; refine OpTo.plain ?_ ?_; exact rfl; have HS:=Lib.hid hS; clear hS; go_wp2_with fail; all_goals first | exact HS.out | exact ⟨rfl,HS.out⟩ | rfl
    ·intro w' hS; refine OpTo.wanted ?_ ?_; kernel_rfl; have HS:=Lib.hid hS; clear hS; go_wp2_with fail; all_goals first | exact HS.out | exact ⟨rfl,HS.out⟩ | rfl
    ·intro w' hS; refine OpTo.wanted ?_ ?_; kernel_rfl; have HS:=Lib.hid hS; clear hS; go_wp2_with fail; all_goals first | exact HS.out | exact ⟨rfl,HS.out⟩ | rfl
    ·intro w' hS; refine OpTo.wanted ?_ ?_; kernel_rfl; have HS:=Lib.hid hS; clear hS; go_wp2_with fail; all_goals first | exact HS.out | exact ⟨rfl,HS.out⟩ | rfl
    ·intro w' hS; refine OpTo.wanted ?_ ?_; kernel_rfl; have HS:=Lib.hid hS; have t0:=(hS.cell (p:=⟨w.heap.size + 1 + 1,k,none⟩) KL3.out.lt).trans C3.out; have tl:=Nat.lt_of_lt_of_le KL3.out.lt hS.size; clear hS; go_wp2_with fail; all_goals first | exact HS.out | exact ⟨rfl,HS.out⟩ | rfl
    ·intro w' hS; refine OpTo.wanted ?_ ?_; kernel_rfl; have HS:=Lib.hid hS; clear hS; go_wp2_with fail; refine (mcopy_void (VM3.out.below HS.out)).mono ?_; rintro e w'' ⟨rfl,hb2⟩; exact ⟨rfl,andB HS.out hb2⟩
    ·intro w' hS; refine OpTo.wanted ?_ ?_; kernel_rfl; have HS:=Lib.hid hS; clear hS; go_wp2_with fail; all_goals first | exact HS.out | exact ⟨rfl,HS.out⟩ | rfl
    ·intro w' hS; refine OpTo.plain ?_ ?_; exact rfl; have HS:=Lib.hid hS; clear hS; go_wp2_with fail; all_goals first | exact HS.out | exact ⟨rfl,HS.out⟩ | rfl
   intro w7 hS7
   have B7:=Lib.hid (B6.out.trans (hS7.mono B6.out.size))
   clear hS7
   go_wp2_with fail
   exact ⟨⟨k + 1,by omega,by go_num,B7.out⟩,by simp [intOf]; omega⟩
  ·have hkn:k=2:=by omega
   subst hkn
   have BR:=Lib.hid (B3.out.trans (hb.mono B3.out.size))
   clear hk hk2 hb
   go_wp2_with fail
   refine (LV.out _).mono ?_
   rintro e w8 ⟨rfl,b8⟩
   go_wp2_with fail
   go_ret
   exact ⟨rfl,BR.out.trans (b8.mono BR.out.size)⟩
end Go.Proofs.YtngnfdnfpiiclaaGreat
namespace Go.Proofs.YtngnfdnfpiiclaaGreat
open Go.RowKit
theorem Keep.trans_new {S T:Nat→Prop} {a b c:World} (h:Keep S a b) (k:Keep T b c) (hT:∀ j,j<a.heap.size→T j→S j):Keep S a c :=
 ⟨k.os.trans h.os,k.tape.trans h.tape,k.output.trans h.output,Nat.le_trans h.size k.size,fun i hi hs=>(k.block i (Nat.lt_of_lt_of_le hi h.size) (fun t=>hs (hT i hi t))).trans (h.block i hi hs)⟩
theorem own_own_ne {w:World} {b1 b2 s1 s2 n1 n2:Nat} {e1 e2:TypeId} {v1 v2:Value} {xs ys:List Value} (h:w.ownsRow b1 e1 s1 v1 n1 xs) (g:w.ownsRow b2 e2 s2 v2 n2 ys) (hne:e1≠e2):∀ b,v1.ownBlock=some b→¬ v2.ownBlock=some b:=fun b hb hg=>by
 obtain ⟨_,_,c1,k1⟩:=owns_type h hb
 obtain ⟨_,_,c2,k2⟩:=owns_type g hg
 have:=k1.symm.trans k2
 simp at this
 exact hne this.2
def FMayProg:Prop:=∀ {w:World} {base G M gb:Nat} {ps:List Int} {ls:List Ln} {l:List Of} {N:Int} {vb:Value},LedM w G M ps ls→LInv ps ls→PB w base gb l N vb→BInv l N →
 ∀ (s tk pt want most m1 m2:Int),(0≤s∧s≤18446744073709551615)→In8 tk→In8 pt→In64 want→In64 most→(∀ o,findO l s=some o→Goes ps ls o tk pt m1 m2) →
 Calls Tryz.prog 273 #[.agg #[.pointer (some ⟨G,0,none⟩),.pointer (some ⟨gb,0,none⟩)],.int .u64 s,.int .u8 tk,.int .u8 pt,.int .i64 want,.int .i64 most] w fun e w'=>e=.returned (.int .i64 (mayV l ps s tk pt want most m1 m2))∧Below w.heap.size w w'
def FDoPost (w:World) (base G M gb:Nat) (ps:List Int) (ls:List Ln) (l:List Of) (N:Int) (vb:Value) (s tk pt n m1 m2:Int) (e:Ending) (w':World):Prop :=
 (¬ doOk l ps s tk pt n m1 m2∧e=.returned (.tuple #[noFill,.int .i64 1])∧Below w.heap.size w w') ∨
 (doOk l ps s tk pt n m1 m2∧∃ o x ls' vb',findO l s=some o∧x=upN (n * o.nu) o.de∧Filled ps ls o tk pt n x ls'∧e=.returned (.tuple #[.agg #[.int .u64 s,.int .u8 tk,.int .u8 pt,.int .i64 n,.int .i64 x],.int .i64 0]) ∧
  LedM w' G M ps ls'∧PB w' base gb (takeL l s n) N vb'∧Keep (fun k=>k=G∨k=M∨Foot gb vb k) w w'∧Moved w vb vb')
def FDoProg:Prop:=∀ {w:World} {base G M gb:Nat} {ps:List Int} {ls:List Ln} {l:List Of} {N:Int} {vb:Value},LedM w G M ps ls→LInv ps ls→PB w base gb l N vb→BInv l N →
 ∀ (s tk pt n m1 m2:Int),(0≤s∧s≤18446744073709551615)→In8 tk→In8 pt→In64 n→(∀ o,findO l s=some o→Goes ps ls o tk pt m1 m2) →
 Calls Tryz.prog 235 #[.agg #[.pointer (some ⟨G,0,none⟩),.pointer (some ⟨gb,0,none⟩)],.int .u64 s,.int .u8 tk,.int .u8 pt,.int .i64 n] w (FDoPost w base G M gb ps ls l N vb s tk pt n m1 m2)
def FCopyPost (w:World) (ps:List Int) (ls:List Ln) (l:List Of) (N:Int) (e:Ending) (w':World):Prop :=
 ∃ G M gb vb,e=.returned (.agg #[.pointer (some ⟨G,0,none⟩),.pointer (some ⟨gb,0,none⟩)])∧LedM w' G M ps ls∧PB w' w.heap.size gb l N vb∧w.heap.size≤G∧w.heap.size≤M∧Below w.heap.size w w'
def FCopyProg:Prop:=∀ {w:World} {base G M gb:Nat} {ps:List Int} {ls:List Ln} {l:List Of} {N:Int} {vb:Value},LedM w G M ps ls→LInv ps ls→PB w base gb l N vb→BInv l N →
 Calls Tryz.prog 47 #[.agg #[.pointer (some ⟨G,0,none⟩),.pointer (some ⟨gb,0,none⟩)]] w (FCopyPost w ps ls l N)
end Go.Proofs.YtngnfdnfpiiclaaGreat
namespace Go.Proofs.YtngnfdnfpiiclaaGreat
open Go.RowKit
theorem pmayS_any (HMy:FMayProg) {w:World} {base G M gb:Nat} {ps:List Int} {ls:List Ln} {l:List Of} {N:Int} {vb:Value} (hL:LedM w G M ps ls) (hI:LInv ps ls) (hP:PB w base gb l N vb) (hJ:BInv l N)
  (s tk pt want most:Int) (hs:0≤s∧s≤18446744073709551615) (ht:In8 tk) (hto:In8 pt) (hw:In64 want) (hmo:In64 most) :
  Calls Tryz.prog 273 #[.agg #[.pointer (some ⟨G,0,none⟩),.pointer (some ⟨gb,0,none⟩)],.int .u64 s,.int .u8 tk,.int .u8 pt,.int .i64 want,.int .i64 most] w fun e w'=>e=.returned (.int .i64 (mayS ps ls l tk pt want most s))∧Below w.heap.size w w':=by
 obtain ⟨m1,m2,g,_,_⟩:=goes_some hI l s tk pt
 rw [← mayS_eq hI g]
 exact HMy hL hI hP hJ s tk pt want most m1 m2 hs ht hto hw hmo g
def PDoS (w:World) (base G M gb:Nat) (ps:List Int) (ls:List Ln) (l:List Of) (N:Int) (vb:Value) (s tk pt n:Int) (e:Ending) (w':World):Prop :=
 (¬ okS ps ls l tk pt n s∧e=.returned (.tuple #[noFill,.int .i64 1])∧Below w.heap.size w w') ∨
 (okS ps ls l tk pt n s∧∃ o x vb',findO l s=some o∧x=upN (n * o.nu) o.de∧e=.returned (.tuple #[.agg #[.int .u64 s,.int .u8 tk,.int .u8 pt,.int .i64 n,.int .i64 x],.int .i64 0]) ∧
  LedM w' G M ps (filledS ps ls o tk pt n x)∧PB w' base gb (takeL l s n) N vb'∧Keep (fun k=>k=G∨k=M∨Foot gb vb k) w w'∧Moved w vb vb')
theorem pdoS_any (HD:FDoProg) {w:World} {base G M gb:Nat} {ps:List Int} {ls:List Ln} {l:List Of} {N:Int} {vb:Value} (hL:LedM w G M ps ls) (hI:LInv ps ls) (hP:PB w base gb l N vb) (hJ:BInv l N)
  (s tk pt n:Int) (hs:0≤s∧s≤18446744073709551615) (ht:In8 tk) (hto:In8 pt) (hn:In64 n) :
  Calls Tryz.prog 235 #[.agg #[.pointer (some ⟨G,0,none⟩),.pointer (some ⟨gb,0,none⟩)],.int .u64 s,.int .u8 tk,.int .u8 pt,.int .i64 n] w (PDoS w base G M gb ps ls l N vb s tk pt n):=by
 obtain ⟨m1,m2,g,_,_⟩:=goes_some hI l s tk pt
 refine (HD hL hI hP hJ s tk pt n m1 m2 hs ht hto hn g).mono ?_
 rintro e w' (⟨a,b,c⟩ | ⟨a,o,x,ls',vb',b,c,d,f,h1,h2,h3,h4⟩)
 ·exact .inl ⟨fun q=>a ((okS_iff hI g).2 q),b,c⟩
 ·rw [d.eq (filledS_is hI o tk pt n x)] at h1
  exact .inr ⟨(okS_iff hI g).1 a,o,x,vb',b,c,f,h1,h2,h3,h4⟩
end Go.Proofs.YtngnfdnfpiiclaaGreat
namespace Go.Proofs.YtngnfdnfpiiclaaGreat
open Go.RowKit
theorem blk_ne {w:World} {g h:Nat} {cs ds:Array Value} {t u:TypeId} (a:Blk w g cs t) (b:Blk w h ds u) (hn:t≠u):g≠h:=by
 rintro rfl
 have e:=a.out
 rw [b.out] at e
 simp only [Option.some.injEq,Obj.cells.injEq] at e
 exact hn e.2.1.symm
end Go.Proofs.YtngnfdnfpiiclaaGreat
namespace Go.Proofs.YtngnfdnfpiiclaaGreat
open Go.RowKit
theorem PB.ne_map {w:World} {base g G M:Nat} {ps:List Int} {ls:List Ln} {l:List Of} {N:Int} {vl:Value} (h:PB w base g l N vl) (k:LedM w G M ps ls):(¬ g=M∧∀ b,vl.ownBlock=some b→¬ b=M)∧¬ Foot g vl G∧¬ Foot g vl M:=by
 have h1:¬ g=M:=fun e=>k.map.ne_blk h.blk e.symm
 have h2:∀ b,vl.ownBlock=some b→¬ b=M:=fun b hb e=>by
  obtain ⟨_,_,cur,hc⟩:=owns_type h.row hb
  have hB:Blk w b cur _:=hc
  exact k.map.ne_blk hB e.symm
 have h3:¬ G=g:=fun e=>by have:=blk_ne k.blk h.blk (by decide); exact this e
 have h4:¬ vl.ownBlock=some G:=fun e=>owns_ne h.row k.blk (by decide) G e rfl
 exact ⟨⟨h1,h2⟩,fun e=>e.elim h3 h4,fun e=>e.elim (fun q=>h1 q.symm) (fun q=>h2 M q rfl)⟩
end Go.Proofs.YtngnfdnfpiiclaaGreat
namespace Go.Proofs.YtngnfdnfpiiclaaGreat
open Go.RowKit
theorem of_cells_off {w:World} {b o:Nat} {ls:List Of} (h:∀ j,j<ls.length * 7→w.cell? ⟨b,o + j,none⟩=(ofCells ls)[j]?) {k:Nat} (hk:k<ls.length) :
  w.cell? ⟨b,o + k * 7,none⟩=some (.int .u64 ls[k].se)∧w.cell? ⟨b,o + k * 7 + 1,none⟩=some (.int .u8 ls[k].ow)∧w.cell? ⟨b,o + k * 7 + 2,none⟩=some (.int .u8 ls[k].sl)∧w.cell? ⟨b,o + k * 7 + 3,none⟩=some (.int .u8 ls[k].bu)∧w.cell? ⟨b,o + k * 7 + 4,none⟩=some (.int .i64 ls[k].lf)∧w.cell? ⟨b,o + k * 7 + 5,none⟩=some (.int .i64 ls[k].nu)∧w.cell? ⟨b,o + k * 7 + 6,none⟩=some (.int .i64 ls[k].de):=by
 have q:∀ j,j<7→w.cell? ⟨b,o + k * 7 + j,none⟩=ls[k].vals[j]? := fun j hj=>by
  have:=h (k * 7 + j) (by omega)
  rw [ofCells_get ls k j hj hk,← Nat.add_assoc] at this
  exact this
 exact ⟨q 0 (by omega),q 1 (by omega),q 2 (by omega),q 3 (by omega),q 4 (by omega),q 5 (by omega),q 6 (by omega)⟩
structure OkTo (l:List Of) (last:Int):Prop where
 rise:l.Pairwise fun x y=>x.se<y.se
 ok:∀ x ∈ l,x.may∧1≤x.se∧x.se≤last
 last:(l=[]∧last=0)∨∃ x ∈ l,x.se=last
theorem OkTo.nil:OkTo [] 0:=⟨List.Pairwise.nil,by simp,.inl ⟨rfl,rfl⟩⟩
theorem OkTo.nonneg {l:List Of} {last:Int} (h:OkTo l last):0≤last:=by
 rcases h.last with ⟨_,h⟩ | ⟨x,hx,h⟩
 ·omega
 ·have:=(h ▸ (‹OkTo l last›).ok x hx).2.1; omega
theorem OkTo.next {l:List Of} {last:Int} {k:Nat} (hk:k<l.length) (h:OkTo (l.take k) last) (hm:l[k].may) (hs:last<l[k].se):OkTo (l.take (k + 1)) l[k].se:=by
 have h0:=h.nonneg
 rw [List.take_succ_eq_append_getElem hk]
 refine ⟨?_,fun x hx=>?_,.inr ⟨l[k],List.mem_append_right _ (List.mem_singleton.2 rfl),rfl⟩⟩
 ·rw [List.pairwise_append]
  refine ⟨h.rise,by simp,fun a ha b hb=>?_⟩
  rw [List.mem_singleton] at hb
  subst hb
  have:=(h.ok a ha).2.2; omega
 ·rcases List.mem_append.1 hx with hx | hx
  ·obtain ⟨a,b,c⟩:=h.ok x hx
   exact ⟨a,b,by omega⟩
  ·rw [List.mem_singleton] at hx
   subst hx
   exact ⟨hm,by omega,Int.le_refl _⟩
theorem OkTo.good {l:List Of} {last nx:Int} (h:OkTo l last) (hn:last<nx):okO nx l∧nx≠0:=by
 have:=h.nonneg
 exact ⟨⟨h.rise,fun x hx=>by obtain ⟨a,b,c⟩:=h.ok x hx; exact ⟨a,by omega,by omega⟩⟩,by omega⟩
theorem OkTo.bad {l:List Of} {last nx:Int} {k:Nat} (hk:k<l.length) (h:OkTo (l.take k) last) (h0:0≤l[k].se) (hb:¬ l[k].may∨l[k].se≤last):¬ (okO nx l∧nx≠0):=by
 rintro ⟨⟨h1,h2⟩,_⟩
 obtain ⟨m,z,_⟩:=h2 _ (List.getElem_mem hk)
 rcases hb with hb | hb
 ·exact hb m
 ·rcases h.last with ⟨_,e⟩ | ⟨x,hx,e⟩
  ·omega
  ·obtain ⟨j,hj,rfl⟩:=List.mem_take_iff_getElem.1 hx
   have:=List.pairwise_iff_getElem.1 h1 j k (by omega) hk (by omega)
   omega
theorem OkTo.late {l:List Of} {last nx:Int} (h:OkTo l last) (h0:0≤nx) (hb:nx≤last):¬ (okO nx l∧nx≠0):=by
 rintro ⟨⟨_,h2⟩,hz⟩
 rcases h.last with ⟨_,e⟩ | ⟨x,hx,e⟩
 ·omega
 ·have:=(h2 x hx).2.2; omega
def POfPost (w:World) (l:List Of) (nx:Int) (e:Ending) (w':World):Prop :=
 Below w.heap.size w w'∧((l.length≤32∧okO nx l∧nx≠0∧∃ g vl,e=.returned (.tuple #[.pointer (some ⟨g,0,none⟩),.int .i64 0])∧PB w' w.heap.size g l nx vl) ∨
  (e=.returned (.tuple #[.pointer none,.int .i64 9])∧32<l.length)∨(e=.returned (.tuple #[.pointer none,.int .i64 1])∧l.length≤32∧¬ (okO nx l∧nx≠0)))
def POfAt (w:World) (l:List Of) (nx:Int) (s7 s18:Value) (wr:World):Prop :=
 ∃ (k:Nat) (last:Int) (vl:Value),k≤l.length∧s18=.int .i64 k∧s7=.int .u64 last∧OkTo (l.take k) last∧PB wr w.heap.size w.heap.size (l.take k) nx vl∧Below w.heap.size w wr
set_option maxHeartbeats 8000000 in
set_option maxRecDepth 100000 in
theorem pofB_any {w:World} {v:Value} {l:List Of} {nx:Int} (hp:Reads w v 7 l.length (ofCells l)) (hf:∀ x ∈ l,x.Fits) (h0:0≤nx) (h1:nx≤18446744073709551615) :
  Calls Tryz.prog 66 #[v,.int .u64 nx] w (POfPost w l nx):=by
 obtain ⟨ai,capi,hv,hn,hxl,hrd⟩:=hp
 subst hv
 have HR:=Lib.hid hrd
 have HF:=Lib.hid hf
 clear hxl hrd hf
 by_cases h32:32<l.length
 ·have q0:decide (32<(l.length:Int))=true:=by simp; omega
  have H32:=Lib.hid h32
  clear h32
  go_enter Tryz.func66,Tryz.ntmps66
  go_wp2_with fail
  refine bodyPost_ret (v:=.tuple #[.pointer none,.int .i64 9]) (by simp [results,Tryz.results66,go_sem]) rfl ?_
  exact ⟨Below.refl _ _,.inr (.inl ⟨rfl,H32.out⟩)⟩
 have q0:decide (32<(l.length:Int))=false:=by simp; omega
 have h32:l.length≤32:=by omega
 have KG:=Lib.hid (Blk.new w #[.slice none 0 0,.int .u64 nx] 158)
 have B0:=Lib.hid ((Below.refl w.heap.size w).alloc (Nat.le_refl _) (.cells #[.slice none 0 0,.int .u64 nx] 158))
 go_enter Tryz.func66,Tryz.ntmps66
 go_wp2_with fail
 go_loopw [7,18] (POfAt w l nx) (fun _ i _=>l.length - (intOf i).toNat)
 case atStart=>exact ⟨0,0,.slice none 0 0,Nat.zero_le _,rfl,rfl,OkTo.nil,⟨KG.out,Nat.le_refl _,World.ownsRow_nil _ _ _ _⟩,B0.out⟩
 case round =>
  obtain ⟨k,last,vl,hk,rfl,rfl,hO,hP,hb⟩:=hrel
  have hl0:=hO.nonneg
  by_cases hkl:k<l.length
  ·obtain ⟨b,o,rfl,hbl,hcell⟩:=HR.out (by omega)
   obtain ⟨e0,e1,e2,e3,e4,e5,e6⟩:=of_cells_off (w:=wr) (fun j hj=>by rw [hb.cell (p:=⟨b,o + j,none⟩) hbl]; exact hcell j hj) hkl
   have hbl2:b<wr.heap.size:=Nat.lt_of_lt_of_le hbl hb.size
   have hx:=HF.out _ (List.getElem_mem hkl)
   have BD:=Lib.hid (fun h=>OkTo.bad (nx:=nx) hkl hO hx.se.1 h)
   have NX:=Lib.hid (fun h1 h2=>OkTo.next hkl hO h1 h2)
   have TK:=Lib.hid (List.take_succ_eq_append_getElem hkl)
   have hlk:(l.take k).length≤32:=Nat.le_trans (List.length_take_le _ _) (by omega)
   have HX:=Lib.hid hx
   clear hcell hx hO
   generalize l[k]=x at *
   generalize l.take k=out at *
   have bw:=(Below.refl wr.heap.size wr).alloc (Nat.le_refl _) (.cells #[.int .u64 x.se,.int .u8 x.ow,.int .u8 x.sl,.int .u8 x.bu,.int .i64 x.lf,.int .i64 x.nu,.int .i64 x.de] 75)
   have K0:=Lib.hid (Blk.new wr #[.int .u64 x.se,.int .u8 x.ow,.int .u8 x.sl,.int .u8 x.bu,.int .i64 x.lf,.int .i64 x.nu,.int .i64 x.de] 75)
   have HP0:=Lib.hid (hP.below bw)
   have HNF:=Lib.hid (show ¬ Foot w.heap.size vl wr.heap.size from fun h=>by have:=(hP.lt h).2; omega)
   have HBW:=Lib.hid (hb.trans (bw.mono hb.size))
   have CM:=Lib.hid (pmay_any x (wr.alloc (.cells #[.int .u64 x.se,.int .u8 x.ow,.int .u8 x.sl,.int .u8 x.bu,.int .i64 x.lf,.int .i64 x.nu,.int .i64 x.de] 75)) HX.out)
   clear bw hP hb
   by_cases hm:x.may
   ·rw [decide_eq_true hm] at CM
    by_cases hs:x.se≤last
    ·have HBad:=Lib.hid (BD.out (.inr hs))
     clear BD NX hm TK
     go_wp2_with fail
     refine CM.out.mono ?_
     rintro e w3 ⟨rfl,b3⟩
     have K3:=K0.out.below b3 K0.out.lt
     have d0:=K3.cell 0
     have dl:=K3.lt
     simp at d0
     have HB3:=Lib.hid (HBW.out.trans (b3.mono HBW.out.size))
     clear b3 K3 CM
     go_wp2_with fail
     refine bodyPost_ret (v:=.tuple #[.pointer none,.int .i64 1]) (by simp [results,Tryz.results66,go_sem]) rfl ?_
     exact ⟨HB3.out,.inr (.inr ⟨rfl,h32,HBad.out⟩)⟩
    have hs':last<x.se:=by omega
    have HN:=Lib.hid (NX.out hm hs')
    clear BD NX hm hs
    go_wp2_with fail
    refine CM.out.mono ?_
    rintro e w3 ⟨rfl,b3⟩
    have HA4:=Lib.hid (K0.out.below b3 K0.out.lt)
    have HG4':=HP0.out.below b3
    have HB3:=Lib.hid (HBW.out.trans (b3.mono HBW.out.size))
    clear b3 CM HP0 HBW K0
    obtain ⟨ao,cap,hvl,hc1,hc2,_⟩:=owns_open HG4'.row
    subst hvl
    have HG4:=Lib.hid HG4'
    clear HG4'
    unfold maxLen at hc2
    have d0:=HA4.out.cell 0
    have dl:=HA4.out.lt
    simp at d0
    go_wp2_with fail
    clear d0 dl
    have hgl:=HG4.out.blk.lt
    have d0:=HG4.out.blk.cell 0
    simp at d0
    have hal:=HA4.out.lt
    have a0:=HA4.out.cell 0; have a1:=HA4.out.cell 1; have a2:=HA4.out.cell 2; have a3:=HA4.out.cell 3; have a4:=HA4.out.cell 4; have a5:=HA4.out.cell 5; have a6:=HA4.out.cell 6
    simp at a0 a1 a2 a3 a4 a5 a6
    have hbs:=Nat.le_trans HG4.out.ge (Nat.le_of_lt hgl)
    go_region_law (refine step_append_off rfl (.tmp 35) (.tmp 37) 156 rfl w.heap.size 197 Tryz.underlying156 rfl info_poff (.slice ao out.length cap) out rfl (owns_below HG4.out.row ((Below.refl _ _).drew.alloc (Nat.le_refl _) _)) w3.heap.size 1 x rfl (Blk.new w3.drew _ _) (by omega) (by simp; omega) ?_; intro v' w' ho hgr hat; have HAP:=Lib.hid (appended HG4.out ho hgr hat); have hB:=HAP.out.1; have d1:=hB.cell 0; have f1:=hB.frozen 0; have l1:=hB.lt; simp at d1; obtain ⟨ao',cap',hv',_⟩:=owns_open ho; obtain ⟨ln,hln⟩:∃ ln,(out++[x]).length=ln:=⟨_,rfl⟩; rw [hln] at hv'; subst hv'; clear hln; clear ho hgr hat hB d0)
    all_goals
     have HE:=Lib.hid HAP.out.2
     clear HAP d1 f1 l1
     have e3:=HE.out.2.2 HA4.out HNF.out
     have e4:=e3.cell 0
     have e5:=e3.lt
     simp at e4
     clear e3
     go_wp2_with fail
     go_roundw
     case rel=>exact ⟨k + 1,x.se,_,by omega,by go_num,by first | rfl | go_num,HN.out,by rw [TK.out]; exact HE.out.1,HB3.out.trans (HE.out.2.1.1.below HB3.out.size (fun j hj hf=>by have:=(HG4.out.lt hf).1; omega))⟩
     case measure=>simp [intOf]; omega
   ·rw [decide_eq_false hm] at CM
    have HBad:=Lib.hid (BD.out (.inl hm))
    clear BD NX hm TK
    go_wp2_with fail
    refine CM.out.mono ?_
    rintro e w3 ⟨rfl,b3⟩
    have HB3:=Lib.hid (HBW.out.trans (b3.mono HBW.out.size))
    clear b3 CM
    go_wp2_with fail
    refine bodyPost_ret (v:=.tuple #[.pointer none,.int .i64 1]) (by simp [results,Tryz.results66,go_sem]) rfl ?_
    exact ⟨HB3.out,.inr (.inr ⟨rfl,h32,HBad.out⟩)⟩
  ·have hke:l.take k=l:=List.take_of_length_le (by omega)
   rw [hke] at hO hP
   by_cases hs:nx≤last
   ·have HBad:=Lib.hid (hO.late h0 hs)
    have HB:=Lib.hid hb
    clear hO hP hb hke
    go_wp2_with fail
    refine bodyPost_ret (v:=.tuple #[.pointer none,.int .i64 1]) (by simp [results,Tryz.results66,go_sem]) rfl ?_
    exact ⟨HB.out,.inr (.inr ⟨rfl,h32,HBad.out⟩)⟩
   ·have HG:=Lib.hid (hO.good (nx:=nx) (by omega))
    have HB:=Lib.hid hb
    have HP:=Lib.hid hP
    clear hO hP hb hke
    go_wp2_with fail
    refine bodyPost_ret (v:=.tuple #[.pointer (some ⟨w.heap.size,0,none⟩),.int .i64 0]) (by simp [results,Tryz.results66,go_sem]) rfl ?_
    exact ⟨HB.out,.inl ⟨h32,HG.out.1,HG.out.2,w.heap.size,vl,rfl,HP.out⟩⟩
end Go.Proofs.YtngnfdnfpiiclaaGreat
