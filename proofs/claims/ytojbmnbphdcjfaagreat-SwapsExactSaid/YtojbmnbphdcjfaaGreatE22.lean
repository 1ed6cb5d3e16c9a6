/-
  Pieces of one proof, without what is not wanted: PFills3, Both, PFills4, Lives10, SwapLv, SwapSay.
-/
import Derived.Test.YtojbmnbphdcjfaaGreatE01
import Derived.Test.YtojbmnbphdcjfaaGreatE02
import Derived.Test.YtojbmnbphdcjfaaGreatE05
import Derived.Test.YtojbmnbphdcjfaaGreatE06
import Derived.Test.YtojbmnbphdcjfaaGreatE12
import Derived.Test.YtojbmnbphdcjfaaGreatE14
import Derived.Test.YtojbmnbphdcjfaaGreatE16
import Derived.Test.YtojbmnbphdcjfaaGreatE17
import Derived.Test.YtojbmnbphdcjfaaGreatE19
import Derived.Test.YtojbmnbphdcjfaaGreatE20
import Derived.Test.YtojbmnbphdcjfaaGreatE21
import Derived.Laws.AppendOwnNone
import Derived.Deep.RegionWith
set_option linter.unusedSimpArgs false
set_option linter.unusedVariables false
namespace Go.Proofs.YtojbmnbphdcjfaaGreat
open Go.RowKit
set_option maxHeartbeats 4000000 in
set_option maxRecDepth 100000 in
theorem fmay_any {w:World} {lp:Option Addr} {e0:Int} {has:Int→Bool} (h:Answers w lp e0 has) (o:Of) (tk pt want most:Int) :
  Calls Tryz.prog 117 #[filV lp o tk pt want most] w fun e w'=>e=.returned (.bool (!(tk==o.ow) && has tk && has pt && has o.ow))∧Below w.heap.size w w':=by
 have bw:=(Below.refl w.heap.size w).alloc (Nat.le_refl _) (.cells (filC lp o tk pt want most) 183)
 have C1:=Lib.hid (h.has _ bw tk)
 have C2:=Lib.hid (h.has _ bw pt)
 have C3:=Lib.hid (h.has _ bw o.ow)
 have B:=Lib.hid bw
 clear bw h
 unfold filV
 generalize has tk=x at *
 generalize has pt=y at *
 generalize has o.ow=z at *
 have hneq:(tk != o.ow)=!(tk==o.ow):=rfl
 obtain ⟨q,hq⟩:∃ q,(tk==o.ow)=q:=⟨_,rfl⟩
 rw [hq] at hneq ⊢
 clear hq
 cases q
 ·cases x
  ·go_enter Tryz.func117,Tryz.ntmps117
   go_wp2_with fail
   refine C1.out.mono ?_
   rintro e w1 ⟨rfl,rfl⟩
   go_wp2_with fail
   go_ret
   exact ⟨rfl,B.out⟩
  ·cases y
   ·go_enter Tryz.func117,Tryz.ntmps117
    go_wp2_with fail
    refine C1.out.mono ?_
    rintro e w1 ⟨rfl,rfl⟩
    go_wp2_with fail
    refine C2.out.mono ?_
    rintro e w1 ⟨rfl,rfl⟩
    go_wp2_with fail
    go_ret
    exact ⟨rfl,B.out⟩
   ·go_enter Tryz.func117,Tryz.ntmps117
    go_wp2_with fail
    refine C1.out.mono ?_
    rintro e w1 ⟨rfl,rfl⟩
    go_wp2_with fail
    refine C2.out.mono ?_
    rintro e w1 ⟨rfl,rfl⟩
    go_wp2_with fail
    refine C3.out.mono ?_
    rintro e w1 ⟨rfl,rfl⟩
    go_wp2_with fail
    go_ret
    exact ⟨rfl,B.out⟩
 ·go_enter Tryz.func117,Tryz.ntmps117
  go_wp2_with fail
  go_ret
  exact ⟨rfl,B.out⟩
set_option maxHeartbeats 4000000 in
theorem hmade_any {w:World} {lp bp:Option Addr} {e0 N:Int} {has:Int→Bool} (h:Answers w lp e0 has) (hn:∀ w',Below w.heap.size w w'→Calls Tryz.prog 72 #[.pointer bp] w' fun e w''=>e=.returned (.int .u64 N)∧w'=w'') :
  Calls Tryz.prog 125 #[.agg #[.pointer lp,.pointer bp]] w fun e w'=>e=.returned (.bool (!(e0==2) && !(N==0)))∧Below w.heap.size w w':=by
 have bw:=(Below.refl w.heap.size w).alloc (Nat.le_refl _) (.cells #[.pointer lp,.pointer bp] 32)
 have C1:=Lib.hid (h.open0 _ bw)
 have C2:=Lib.hid (hn _ bw)
 have B:=Lib.hid bw
 clear bw h hn
 have hneq:(e0 != 2)=!(e0==2):=rfl
 obtain ⟨q,hq⟩:∃ q,(e0==2)=q:=⟨_,rfl⟩
 rw [hq] at hneq ⊢
 clear hq
 cases q
 ·have hneN:(N != 0)=!(N==0):=rfl
  obtain ⟨r,hr⟩:∃ r,(N==0)=r:=⟨_,rfl⟩
  rw [hr] at hneN ⊢
  clear hr
  go_enter Tryz.func125,Tryz.ntmps125
  go_wp2_with fail
  refine C1.out.mono ?_
  rintro e w1 ⟨rfl,rfl⟩
  go_wp2_with fail
  refine C2.out.mono ?_
  rintro e w1 ⟨rfl,rfl⟩
  go_wp2_with fail
  go_ret
  exact ⟨rfl,B.out⟩
 ·go_enter Tryz.func125,Tryz.ntmps125
  go_wp2_with fail
  refine C1.out.mono ?_
  rintro e w1 ⟨rfl,rfl⟩
  go_wp2_with fail
  go_ret
  exact ⟨rfl,B.out⟩
theorem fitN_zero (nu de:Int):fitN 0 nu de=0:=by
 unfold fitN
 split
 ·rw [Int.zero_mul,Int.zero_ediv]; rfl
 ·rfl
theorem leastN_no {n v:Int} {vs:List Int} (h:min n v<1):leastN n (v::vs)=0:=if_pos h
theorem leastN_go {n v:Int} {vs:List Int} (h:¬ min n v<1):leastN n (v::vs)=leastN (min n v) vs:=if_neg h
theorem least4 {a b c d:Int} (hb:1≤b∧b≤1099511627776) (hc:0≤c) (hd:0≤d):leastN 1099511627776 [a,b,c,d]=if a<1 then 0 else min (min (min a b) c) d:=by
 by_cases h1:min 1099511627776 a<1
 ·rw [leastN_no h1,if_pos (by omega)]
 ·rw [leastN_go h1,if_neg (by omega)]
  rw [leastN_go (by omega)]
  by_cases h3:min (min (min 1099511627776 a) b) c<1
  ·rw [leastN_no h3]; omega
  ·rw [leastN_go h3]
   by_cases h4:min (min (min (min 1099511627776 a) b) c) d<1
   ·rw [leastN_no h4]; omega
   ·rw [leastN_go h4,leastN]; omega
theorem least2 {a b:Int} (hb:0≤b):leastN 1099511627776 [a,b]=if a<1 then 0 else min (min a 1099511627776) b:=by
 by_cases h1:min 1099511627776 a<1
 ·rw [leastN_no h1,if_pos (by omega)]
 ·rw [leastN_go h1,if_neg (by omega)]
  by_cases h3:min (min 1099511627776 a) b<1
  ·rw [leastN_no h3]; omega
  ·rw [leastN_go h3,leastN]; omega
theorem least_may {o:Of} {ps:List Int} {tk pt want most m1 m2:Int} (hr:o.ow≠tk∧o.ow ∈ ps∧tk ∈ ps∧pt ∈ ps) (hl:1≤o.lf∧o.lf≤1099511627776) (h1:0≤m1) (h2:0≤m2) :
  leastN 1099511627776 [want,o.lf,(if pt=o.ow then 1099511627776 else m1),fitN (leastN 1099511627776 [most,m2]) o.nu o.de]=mayO o ps tk pt want most m1 m2:=by
 obtain ⟨r1,r2,r3,r4⟩:=hr
 rw [least4 hl (by split <;> omega) fitN_nn,least2 h2]
 unfold mayO
 by_cases hw:want<1
 ·rw [if_pos hw,if_pos (show o.ow=tk∨o.ow ∉ ps∨tk ∉ ps∨pt ∉ ps∨want<1∨most<1 from .inr (.inr (.inr (.inr (.inl hw)))))]
 ·rw [if_neg hw]
  by_cases hm:most<1
  ·rw [if_pos hm,if_pos (show o.ow=tk∨o.ow ∉ ps∨tk ∉ ps∨pt ∉ ps∨want<1∨most<1 from .inr (.inr (.inr (.inr (.inr hm))))),fitN_zero]
   by_cases hp:pt=o.ow
   ·rw [if_pos hp]; omega
   ·rw [if_neg hp]; omega
  ·rw [if_neg hm,if_neg (show ¬ (o.ow=tk∨o.ow ∉ ps∨tk ∉ ps∨pt ∉ ps∨want<1∨most<1) from fun h=>by
    rcases h with h | h | h | h | h | h
    ·exact r1 h
    ·exact h r2
    ·exact h r3
    ·exact h r4
    ·exact hw h
    ·exact hm h)]
   by_cases hp:pt=o.ow
   ·rw [if_pos hp,if_pos hp]; omega
   ·rw [if_neg hp,if_neg hp]
set_option maxHeartbeats 8000000 in
set_option maxRecDepth 100000 in
theorem hmay_none {w:World} {lp bp:Option Addr} {s:Int} (hf:∀ w',Below w.heap.size w w'→Calls Tryz.prog 24 #[.pointer bp,.int .u64 s] w' fun e w''=>e=.returned (.tuple #[noOf.val,.bool false])∧Below w'.heap.size w' w'') (tk pt want most:Int) :
  Calls Tryz.prog 65 #[.agg #[.pointer lp,.pointer bp],.int .u64 s,.int .u8 tk,.int .u8 pt,.int .i64 want,.int .i64 most] w fun e w'=>e=.returned (.int .i64 0)∧Below w.heap.size w w':=by
 have bw:=(Below.refl w.heap.size w).alloc (Nat.le_refl _) (.cells #[.pointer lp,.pointer bp] 32)
 have CF:=Lib.hid (hf _ bw)
 have KX:=Lib.hid (Blk.new w #[.pointer lp,.pointer bp] 32)
 have B0:=Lib.hid bw
 clear bw hf
 unfold noOf Of.val at CF
 dsimp only at CF
 go_enter Tryz.func65,Tryz.ntmps65
 go_wp2_with fail
 generalize w.alloc (.cells #[.pointer lp,.pointer bp] 32)=W at *
 refine CF.out.mono ?_
 rintro e w1 ⟨rfl,b1⟩
 have KX1:=Lib.hid (KX.out.below b1 KX.out.lt)
 have B1:=Lib.hid (B0.out.trans (b1.mono B0.out.size))
 clear b1 KX B0 CF
 have e0:=KX1.out.cell 0; have e1:=KX1.out.cell 1
 have kx:=KX1.out.lt
 simp at e0 e1
 go_wp2_with fail
 go_ret
 refine ⟨rfl,B1.out.trans ?_⟩
 exact ((Below.alloc ((Below.refl w1.heap.size w1).alloc (Nat.le_refl _) _) (by simp) _)).mono B1.out.size
set_option maxHeartbeats 16000000 in
set_option maxRecDepth 100000 in
theorem hmay_any (HM:MostProg):FMayProg:=by
 intro w base G M gb ps ls l N vb hL hI hP hJ s tk pt want most m1 m2 hs ht hto hw hmo hG
 cases hf:findO l s with
 | none =>
  have e:mayV l ps s tk pt want most m1 m2=0:=by unfold mayV; rw [hf]
  rw [e]
  refine hmay_none (fun w' k=>?_) tk pt want most
  have:=pfind_any (hP.below k) hJ.n1 s
  rw [hf] at this
  exact this
 | some o =>
  have bw:=(Below.refl w.heap.size w).alloc (Nat.le_refl _) (.cells #[.pointer (some ⟨G,0,none⟩),.pointer (some ⟨gb,0,none⟩)] 32)
  have CF:=Lib.hid (pfind_any (hP.below bw) hJ.n1 s)
  rw [hf] at CF
  have KX:=Lib.hid (Blk.new w #[.pointer (some ⟨G,0,none⟩),.pointer (some ⟨gb,0,none⟩)] 32)
  have B0:=Lib.hid bw
  have L0:=Lib.hid (hL.below bw)
  have II:=Lib.hid hI
  have HGo:=Lib.hid (hG o hf)
  have hmem:=(findO_mem hf).1
  have HF:=Lib.hid (hJ.fits hmem)
  have MY:=Lib.hid (hJ.may o hmem)
  obtain ⟨R,hR⟩:∃ R,mayV l ps s tk pt want most m1 m2=R:=⟨_,rfl⟩
  rw [hR]
  have EV:Hid (R=mayO o ps tk pt want most m1 m2):=Lib.hid (by rw [← hR]; unfold mayV; rw [hf])
  clear hR
  have HT:=Lib.hid ht
  have HTo:=Lib.hid hto
  have HW:=Lib.hid hw
  have HMo:=Lib.hid hmo
  have HMP:=Lib.hid HM
  clear bw hL hI hP hJ hs ht hto hw hmo hG hf hmem HM
  unfold foundV Of.val at CF
  dsimp only at CF
  go_enter Tryz.func65,Tryz.ntmps65
  go_wp2_with fail
  generalize w.alloc (.cells #[.pointer (some ⟨G,0,none⟩),.pointer (some ⟨gb,0,none⟩)] 32)=W at *
  refine CF.out.mono ?_
  rintro e w1 ⟨rfl,b1⟩
  have KX1:=Lib.hid (KX.out.below b1 KX.out.lt)
  have B1:=Lib.hid (B0.out.trans (b1.mono B0.out.size))
  have L1:=Lib.hid (L0.out.below b1)
  clear b1 KX B0 CF L0
  have e0:=KX1.out.cell 0; have e1:=KX1.out.cell 1
  have kx:=KX1.out.lt
  simp at e0 e1
  have ba:=(Below.refl w1.heap.size w1).alloc (Nat.le_refl _) (.cells #[.int .u64 o.se,.int .u8 o.ow,.int .u8 o.sl,.int .u8 o.bu,.int .i64 o.lf,.int .i64 o.nu,.int .i64 o.de] 76)
  have KF0:=Lib.hid (Blk.newAt (w1.alloc (.cells #[.int .u64 o.se,.int .u8 o.ow,.int .u8 o.sl,.int .u8 o.bu,.int .i64 o.lf,.int .i64 o.nu,.int .i64 o.de] 76)) (filC (some ⟨G,0,none⟩) o tk pt want most) 183 (g:=w1.heap.size + 1) (by simp))
  have bb:=ba.alloc (by simp) (.cells (filC (some ⟨G,0,none⟩) o tk pt want most) 183)
  have L2:=Lib.hid (L1.out.below bb)
  have B2:=Lib.hid (B1.out.trans (bb.mono B1.out.size))
  have CM:=Lib.hid (fmay_any (answers_led L2.out II.out) o tk pt want most)
  clear ba bb L1
  go_wp2_with fail
  generalize (w1.alloc (.cells #[.int .u64 o.se,.int .u8 o.ow,.int .u8 o.sl,.int .u8 o.bu,.int .i64 o.lf,.int .i64 o.nu,.int .i64 o.de] 76)).alloc (.cells #[.pointer (some ⟨G,0,none⟩),.int .u64 o.se,.int .u8 o.ow,.int .u8 o.sl,.int .u8 o.bu,.int .i64 o.lf,.int .i64 o.nu,.int .i64 o.de,.int .u8 tk,.int .u8 pt,.int .i64 want,.int .i64 most] 183)=W2 at *
  clear e0 e1 kx
  obtain ⟨r,hr⟩:∃ r,(!(tk==o.ow) && decide (tk ∈ ps) && decide (pt ∈ ps) && decide (o.ow ∈ ps))=r:=⟨_,rfl⟩
  rw [hr] at CM
  cases r
  ·have EZ:Hid (R=0):=Lib.hid (by
    rw [EV.out]
    unfold mayO
    rw [if_pos]
    by_cases c1:o.ow=tk
    ·exact .inl c1
    by_cases c2:o.ow ∈ ps
    ·by_cases c3:tk ∈ ps
     ·by_cases c4:pt ∈ ps
      ·have c5:¬ tk=o.ow:=fun h=>c1 h.symm
       simp [c2,c3,c4,c5] at hr
      ·exact .inr (.inr (.inr (.inl c4)))
     ·exact .inr (.inr (.inl c3))
    ·exact .inr (.inl c2))
   clear hr EV
   refine CM.out.mono ?_
   rintro e w3 ⟨rfl,b3⟩
   have B3:=Lib.hid (B2.out.trans (b3.mono B2.out.size))
   clear b3
   go_wp2_with fail
   go_ret
   exact ⟨by rw [EZ.out]; rfl,B3.out⟩
  ·have hok:o.ow≠tk∧o.ow ∈ ps∧tk ∈ ps∧pt ∈ ps:=by
    simp only [Bool.and_eq_true,Bool.not_eq_true',decide_eq_true_eq,beq_eq_false_iff_ne,ne_eq] at hr
    obtain ⟨⟨⟨h1,h2⟩,h3⟩,h4⟩:=hr
    exact ⟨fun h=>h1 h.symm,h4,h2,h3⟩
   have hb:=HGo.out.bd II.out
   have EM:=Lib.hid (EV.out.trans (least_may (want:=want) (most:=most) hok MY.out.2.2.2.2.1 hb.1.1 hb.2.1).symm)
   have HS1:Hid (In64 (if pt=o.ow then 1099511627776 else m1)):=Lib.hid (by split <;> exact ⟨by omega,by omega⟩)
   have HL1:Hid (In64 (leastN 1099511627776 [most,m2])):=Lib.hid (leastN_bd _ (by omega) (by omega) (by intro v hv; simp only [List.mem_cons,List.not_mem_nil,or_false] at hv; rcases hv with rfl | rfl; exact HMo.out.1; omega))
   have HFt:Hid (In64 (fitN (leastN 1099511627776 [most,m2]) o.nu o.de)):=Lib.hid (by
    have h0:=fitN_nn (g:=leastN 1099511627776 [most,m2]) (nu:=o.nu) (de:=o.de)
    refine ⟨by omega,?_⟩
    unfold fitN
    split <;> omega)
   clear hr EV hok hb
   refine CM.out.mono ?_
   rintro e w3 ⟨rfl,b3⟩
   have KF3:=Lib.hid (KF0.out.below b3 KF0.out.lt)
   have L3:=Lib.hid (L2.out.below b3)
   have B3:=Lib.hid (B2.out.trans (b3.mono B2.out.size))
   clear b3 KF0 L2 B2 CM
   have d0:=KF3.out.cell 0; have d1:=KF3.out.cell 1; have d2:=KF3.out.cell 2; have d3:=KF3.out.cell 3; have d4:=KF3.out.cell 4; have d5:=KF3.out.cell 5
   have d6:=KF3.out.cell 6; have d7:=KF3.out.cell 7; have d8:=KF3.out.cell 8; have d9:=KF3.out.cell 9; have d10:=KF3.out.cell 10; have d11:=KF3.out.cell 11
   have kf:=KF3.out.lt
   simp at d0 d1 d2 d3 d4 d5 d6 d7 d8 d9 d10 d11
   have HB1:Hid (Bnd w3 (filV (some ⟨G,0,none⟩) o tk pt want most) (119,want)):=Lib.hid ⟨enters_of Tryz.func119 (by kernel_rfl) rfl,fun w' k=>fwanted_any _ o tk pt want most w'⟩
   have HB2:Hid (Bnd w3 (filV (some ⟨G,0,none⟩) o tk pt want most) (120,o.lf)):=Lib.hid ⟨enters_of Tryz.func120 (by kernel_rfl) rfl,fun w' k=>fleft_any _ o tk pt want most w'⟩
   have HB3:Hid (Bnd w3 (filV (some ⟨G,0,none⟩) o tk pt want most) (121,if pt=o.ow then 1099511627776 else m1)):=Lib.hid ⟨enters_of Tryz.func121 (by kernel_rfl) rfl,fun w' k=>fsold_any HMP.out (L3.out.below k) II.out HF.out tk pt want most HTo.out HGo.out⟩
   have HB4:Hid (Bnd w3 (filV (some ⟨G,0,none⟩) o tk pt want most) (122,fitN (leastN 1099511627776 [most,m2]) o.nu o.de)):=Lib.hid ⟨enters_of Tryz.func122 (by kernel_rfl) rfl,fun w' k=>ffits_any HMP.out (L3.out.below k) II.out HF.out tk pt want most HT.out HMo.out HGo.out⟩
   have bk:=(Below.refl w3.heap.size w3).alloc (Nat.le_refl _) (.cells #[.func (.func 119) #[filV (some ⟨G,0,none⟩) o tk pt want most] #[],.func (.func 120) #[filV (some ⟨G,0,none⟩) o tk pt want most] #[],.func (.func 121) #[filV (some ⟨G,0,none⟩) o tk pt want most] #[],.func (.func 122) #[filV (some ⟨G,0,none⟩) o tk pt want most] #[]] 185)
   have kk:=Blk.new w3 #[.func (.func 119) #[filV (some ⟨G,0,none⟩) o tk pt want most] #[],.func (.func 120) #[filV (some ⟨G,0,none⟩) o tk pt want most] #[],.func (.func 121) #[filV (some ⟨G,0,none⟩) o tk pt want most] #[],.func (.func 122) #[filV (some ⟨G,0,none⟩) o tk pt want most] #[]] 185
   have CL:=Lib.hid (least_any (bs:=[(119,want),(120,o.lf),(121,if pt=o.ow then 1099511627776 else m1),(122,fitN (leastN 1099511627776 [most,m2]) o.nu o.de)]) (rv:=filV (some ⟨G,0,none⟩) o tk pt want most) kk
    (by intro b hb; simp only [List.mem_cons,List.not_mem_nil,or_false] at hb; rcases hb with rfl | rfl | rfl | rfl; exact HB1.out.below bk; exact HB2.out.below bk; exact HB3.out.below bk; exact HB4.out.below bk)
    (by intro b hb; simp only [List.mem_cons,List.not_mem_nil,or_false] at hb; rcases hb with rfl | rfl | rfl | rfl; exact HW.out; exact HF.out.lf; exact HS1.out; exact HFt.out) (by simp))
   have B4:=Lib.hid (B3.out.trans (bk.mono B3.out.size))
   rw [show List.map (fun x:Nat × Int=>x.2) [(119,want),(120,o.lf),(121,if pt=o.ow then 1099511627776 else m1),(122,fitN (leastN 1099511627776 [most,m2]) o.nu o.de)]=[want,o.lf,if pt=o.ow then 1099511627776 else m1,fitN (leastN 1099511627776 [most,m2]) o.nu o.de] from rfl,← EM.out] at CL
   clear bk kk HB1 HB2 HB3 HB4
   go_wp2_with fail
   refine CL.out.mono ?_
   rintro e w4 ⟨rfl,b4⟩
   have B5:=Lib.hid (B4.out.trans (b4.mono B4.out.size))
   clear b4 d0 d1 d2 d3 d4 d5 d6 d7 d8 d9 d10 d11 kf
   go_wp2_with fail
   go_ret
   exact ⟨rfl,B5.out⟩
end Go.Proofs.YtojbmnbphdcjfaaGreat
namespace Go.Proofs.YtojbmnbphdcjfaaGreat
open Go.RowKit
theorem blk_ne {w:World} {g h:Nat} {cs ds:Array Value} {t u:TypeId} (a:Blk w g cs t) (b:Blk w h ds u) (hn:t≠u):g≠h:=by
 rintro rfl
 have e:=a.out
 rw [b.out] at e
 simp only [Option.some.injEq,Obj.cells.injEq] at e
 exact hn e.2.1.symm
theorem RefL.apart {w:World} {base r G M:Nat} {ps ps':List Int} {ls ls':List Ln} {vp vl:Value} (hL:LedM w G M ps ls) (hR:RefL w base r ps' ls' vp vl) :
  (r≠G∧r≠M)∧(∀ b,vp.ownBlock=some b→b≠G∧b≠M∧b≠r)∧(∀ b,vl.ownBlock=some b→b≠G∧b≠M∧b≠r):=by
 refine ⟨⟨blk_ne hR.blk hL.blk (by decide),fun e=>hL.map.ne_blk hR.blk e.symm⟩,fun b hb=>?_,fun b hb=>?_⟩
 ·obtain ⟨_,_,cur,hc⟩:=owns_type hR.p hb
  have hbk:Blk w b cur 39:=hc
  exact ⟨blk_ne hbk hL.blk (by decide),fun e=>hL.map.ne_blk hbk e.symm,blk_ne hbk hR.blk (by decide)⟩
 ·obtain ⟨_,_,cur,hc⟩:=owns_type hR.l hb
  have hbk:Blk w b cur 112:=hc
  exact ⟨blk_ne hbk hL.blk (by decide),fun e=>hL.map.ne_blk hbk e.symm,blk_ne hbk hR.blk (by decide)⟩
def Trio (G M r:Nat) (b:Nat):Prop:=b=G∨b=M∨b=r
structure Both (W:World) (G M base r X:Nat) (xs:Array Value) (ps P:List Int) (ls L:List Ln) (c1 c2:Nat) (D:Nat→Bool) (w:World):Prop where
 keep:Keep (Trio G M r) W w
 x:Blk w X xs 92
 led:LedM w G M (cond (D c1) P ps) (cond (D c1) L ls)
 ref:∃ vp vl,RefL w base r (cond (D c2) P ps) (cond (D c2) L ls) vp vl
theorem Both.two {W w w':World} {G M base r X:Nat} {xs:Array Value} {ps P:List Int} {ls L:List Ln} {c1 c2:Nat} {D:Nat→Bool} (h:Both W G M base r X xs ps P ls L c1 c2 D w) (hc:c1≠c2) (hl:∃ vp vl,RefL w' base r P L vp vl) (hk:Keep (·=r) w w'):Both W G M base r X xs ps P ls L c1 c2 (ins c2 D) w':=by
 obtain ⟨vp,vl,hr⟩:=h.ref
 obtain ⟨⟨a1,a2⟩,a3,a4⟩:=RefL.apart h.led hr
 have e1:ins c2 D c1=D c1:=by simp [ins,hc]
 have e2:ins c2 D c2=true:=by simp [ins]
 refine ⟨h.keep.trans (hk.mono fun b _ hb=>.inr (.inr hb)),h.x.keep hk (fun e=>blk_ne h.x hr.blk (by decide) e),?_,by rw [e2]; exact hl⟩
 rw [e1]
 exact h.led.keep hk (fun e=>a1 e.symm) (fun e=>a2 e.symm)
end Go.Proofs.YtojbmnbphdcjfaaGreat
namespace Go.Proofs.YtojbmnbphdcjfaaGreat
open Go.RowKit
theorem PB.ne_map {w:World} {base g G M:Nat} {ps:List Int} {ls:List Ln} {l:List Of} {N:Int} {vl:Value} (h:PB w base g l N vl) (k:LedM w G M ps ls):(¬ g=M∧∀ b,vl.ownBlock=some b→¬ b=M)∧¬ Foot g vl G∧¬ Foot g vl M:=by
 have h1:¬ g=M:=fun e=>k.map.ne_blk h.blk e.symm
 have h2:∀ b,vl.ownBlock=some b→¬ b=M:=fun b hb e=>by
  obtain ⟨_,_,cur,hc⟩:=owns_type h.row hb
  have hB:Blk w b cur _:=hc
  exact k.map.ne_blk hB e.symm
 have h3:¬ G=g:=fun e=>by have:=blk_ne k.blk h.blk (by decide); exact this e
 have h4:¬ vl.ownBlock=some G:=fun e=>owns_ne h.row k.blk (by decide) G e rfl
 exact ⟨⟨h1,h2⟩,fun e=>e.elim h3 h4,fun e=>e.elim (fun q=>h1 q.symm) (fun q=>h2 M q rfl)⟩
theorem Keep.freshRow {S:Nat→Prop} {a w:World} (h:Keep S a w) {g:Nat} (hg:a.heap.size≤g) (cs:Array Value):Keep S a (w.setRow g cs) :=
 have k:=below_keepRow (w:=w) g cs
 ⟨k.os.trans h.os,k.tape.trans h.tape,k.output.trans h.output,Nat.le_trans h.size k.size,fun i hi hs=>(k.block i (Nat.lt_of_lt_of_le hi h.size) (by omega)).trans (h.block i hi hs)⟩
set_option maxHeartbeats 8000000 in
set_option maxRecDepth 100000 in
theorem hdo_void {w:World} {lp bp:Option Addr} {e0 N:Int} {has:Int→Bool} (h:Answers w lp e0 has) (hn:∀ w',Below w.heap.size w w'→Calls Tryz.prog 72 #[.pointer bp] w' fun e w''=>e=.returned (.int .u64 N)∧w'=w'') (he:e0=2∨N=0) (s tk pt n:Int) :
  Calls Tryz.prog 67 #[.agg #[.pointer lp,.pointer bp],.int .u64 s,.int .u8 tk,.int .u8 pt,.int .i64 n] w fun e w'=>e=.returned (.tuple #[noFill,.int .i64 2])∧Below w.heap.size w w':=by
 have b1:=(Below.refl w.heap.size w).alloc (Nat.le_refl _) (.cells #[.pointer lp,.pointer bp] 32)
 have k1:=Blk.new w #[.pointer lp,.pointer bp] 32
 generalize hW1:w.alloc (.cells #[.pointer lp,.pointer bp] 32)=W1 at *
 have b2:=(Below.refl W1.heap.size W1).alloc (Nat.le_refl _) (.cells #[.int .u64 0,.int .u8 0,.int .u8 0,.int .i64 0,.int .i64 0] 80)
 have k2:=Blk.new W1 #[.int .u64 0,.int .u8 0,.int .u8 0,.int .i64 0,.int .i64 0] 80
 generalize hW2:W1.alloc (.cells #[.int .u64 0,.int .u8 0,.int .u8 0,.int .i64 0,.int .i64 0] 80)=W2 at *
 have HW1:=Lib.hid hW1
 have HW2:=Lib.hid hW2
 have hg1:W1.heap.size=w.heap.size + 1:=by rw [← hW1]; simp
 rw [hg1] at k2
 have KX:=Lib.hid (k1.below b2 k1.lt)
 have KF:=Lib.hid k2
 have B2:=Lib.hid (b1.trans (b2.mono b1.size))
 have CM:=Lib.hid (hmade_any (h.below B2.out) (fun w' k=>hn w' (andB B2.out k)))
 rw [show (!(e0==2) && !(N==0))=false by rcases he with rfl | rfl <;> simp] at CM
 clear h hn he b1 k1 b2 k2 hW1 hW2 hg1
 go_enter Tryz.func67,Tryz.ntmps67
 go_upto_region 1 with fail
 rw [HW1.out,HW2.out]
 have e0:=KX.out.cell 0; have e1:=KX.out.cell 1
 have kx:=KX.out.lt
 simp at e0 e1
 go_wp2_with fail
 refine CM.out.mono ?_
 rintro e w1 ⟨rfl,b1⟩
 have KF1:=Lib.hid (KF.out.below b1 KF.out.lt)
 have B1:=Lib.hid (B2.out.trans (b1.mono B2.out.size))
 clear b1 e0 e1 kx KX KF B2 CM
 go_wp2_with (refine wpList_store_whole rfl 80 (.tmp 10) (.tmp 20) rfl (w.heap.size + 1) #[.int .u64 0,.int .u8 0,.int .u8 0,.int .i64 0,.int .i64 0] rfl rfl 80 _ KF1.out.out (by kernel_rfl) rfl (by simp [Value.oneCell']) ?_)
 refine bodyPost_ret (v:=.tuple #[noFill,.int .i64 2]) (results_cell_and rfl _ _ (w.heap.size + 1) 80 #[.int .u64 0,.int .u8 0,.int .u8 0,.int .i64 0,.int .i64 0] _ _ rfl (setRow_heap _ (w.heap.size + 1) _ _ _ (0,0) KF1.out.out) Tryz.underlying80 rfl (by kernel_rfl) rfl) rfl ⟨rfl,below_setRow B1.out (by omega) _⟩
set_option maxHeartbeats 32000000 in
set_option maxRecDepth 100000 in
theorem hdo_any (HR:RouteProg) (HMP:MostProg):FDoProg:=by
 intro w base G M gb ps ls l N vb hL hI hP hJ s tk pt n m1 m2 hs ht hto hn hG
 have b1:=(Below.refl w.heap.size w).alloc (Nat.le_refl _) (.cells #[.pointer (some ⟨G,0,none⟩),.pointer (some ⟨gb,0,none⟩)] 32)
 have k1:=Blk.new w #[.pointer (some ⟨G,0,none⟩),.pointer (some ⟨gb,0,none⟩)] 32
 generalize hW1:w.alloc (.cells #[.pointer (some ⟨G,0,none⟩),.pointer (some ⟨gb,0,none⟩)] 32)=W1 at *
 have b2:=(Below.refl W1.heap.size W1).alloc (Nat.le_refl _) (.cells #[.int .u64 0,.int .u8 0,.int .u8 0,.int .i64 0,.int .i64 0] 80)
 have k2:=Blk.new W1 #[.int .u64 0,.int .u8 0,.int .u8 0,.int .i64 0,.int .i64 0] 80
 generalize hW2:W1.alloc (.cells #[.int .u64 0,.int .u8 0,.int .u8 0,.int .i64 0,.int .i64 0] 80)=W2 at *
 have HW1:=Lib.hid hW1
 have HW2:=Lib.hid hW2
 have hg1:W1.heap.size=w.heap.size + 1:=by rw [← hW1]; simp
 rw [hg1] at k2
 have KX:=Lib.hid (k1.below b2 k1.lt)
 have KF:=Lib.hid k2
 have B2:=Lib.hid (b1.trans (b2.mono b1.size))
 have L0:=Lib.hid ((hL.below b1).below b2)
 have P0:=Lib.hid ((hP.below b1).below b2)
 have HGT:=Lib.hid hg1
 have II:=Lib.hid hI
 have JJ:=Lib.hid hJ
 have HT:=Lib.hid ht
 have HTo:=Lib.hid hto
 have HN:=Lib.hid hn
 have HGo:=Lib.hid hG
 have HRo:=Lib.hid HR
 have hG1:=hL.blk.lt
 have hM1:=hL.map.lt
 have hb1:=hP.blk.lt
 have HGL:=Lib.hid hG1
 have HML:=Lib.hid hM1
 have HBL:=Lib.hid hb1
 have HFO:Hid (∀ b,Foot gb vb b→b<w.heap.size):=Lib.hid (fun b hb=>(hP.lt hb).2)
 have CMd:=Lib.hid (hmade_any (N:=N) (answers_led L0.out II.out) (fun w' k=>pnext_any (P0.out.below k).blk))
 rw [show (!((1:Int)==2) && !(N==0))=true by have:=hJ.n1; simp; omega] at CMd
 have CM:=Lib.hid (fun w' (k:Below W2.heap.size W2 w')=>hmay_any HMP (L0.out.below k) hI (P0.out.below k) hJ s tk pt n 1099511627776 m1 m2 hs ht hto hn ⟨by omega,by omega⟩ hG)
 clear b1 k1 b2 k2 hW1 hW2 hL hI hP hJ hs ht hto hn hG hg1 hG1 hM1 hb1 HR HMP
 go_enter Tryz.func67,Tryz.ntmps67
 go_upto_region 1 with fail
 rw [HW1.out,HW2.out]
 have e0:=KX.out.cell 0; have e1:=KX.out.cell 1
 have kx:=KX.out.lt
 simp at e0 e1
 go_wp2_with fail
 refine CMd.out.mono ?_
 rintro e w0 ⟨rfl,b0⟩
 have CM0:=Lib.hid (CM.out w0 b0)
 have KX0:=Lib.hid (KX.out.below b0 KX.out.lt)
 have KF0:=Lib.hid (KF.out.below b0 KF.out.lt)
 have L1:=Lib.hid (L0.out.below b0)
 have P1:=Lib.hid (P0.out.below b0)
 have B0:=Lib.hid (B2.out.trans (b0.mono B2.out.size))
 clear b0 e0 e1 kx KX KF B2 CMd CM L0 P0
 have e0:=KX0.out.cell 0; have e1:=KX0.out.cell 1
 have kx:=KX0.out.lt
 simp at e0 e1
 by_cases h1:n<1
 ·have q1:decide (n<1)=true:=by simpa using h1
  have NO:Hid (¬ doOk l ps s tk pt n m1 m2):=Lib.hid (fun h=>by have:=h.1; omega)
  clear h1
  go_wp2_with (refine wpList_store_whole rfl 80 (.tmp 10) (.tmp 34) rfl (w.heap.size + 1) #[.int .u64 0,.int .u8 0,.int .u8 0,.int .i64 0,.int .i64 0] rfl rfl 80 _ KF0.out.out (by kernel_rfl) rfl (by simp [Value.oneCell']) ?_)
  refine bodyPost_ret (v:=.tuple #[noFill,.int .i64 1]) (results_cell_and rfl _ _ (w.heap.size + 1) 80 #[.int .u64 0,.int .u8 0,.int .u8 0,.int .i64 0,.int .i64 0] _ _ rfl (setRow_heap _ (w.heap.size + 1) _ _ _ (0,0) KF0.out.out) Tryz.underlying80 rfl (by kernel_rfl) rfl) rfl (.inl ⟨NO.out,rfl,below_setRow B0.out (by omega) _⟩)
 ·have q1:decide (n<1)=false:=by simpa using h1
  go_wp2_with fail
  refine CM0.out.mono ?_
  rintro e w1 ⟨rfl,b1⟩
  have KX1:=Lib.hid (KX0.out.below b1 KX0.out.lt)
  have KF1:=Lib.hid (KF0.out.below b1 KF0.out.lt)
  have L2:=Lib.hid (L1.out.below b1)
  have P2:=Lib.hid (P1.out.below b1)
  have B1:=Lib.hid (B0.out.trans (b1.mono B0.out.size))
  clear b1 e0 e1 kx KX0 KF0 L1 P1 B0 CM0
  have e0:=KX1.out.cell 0; have e1:=KX1.out.cell 1
  have kx:=KX1.out.lt
  simp at e0 e1
  by_cases h2:n≤mayV l ps s tk pt n 1099511627776 m1 m2
  ·have q2:decide (mayV l ps s tk pt n 1099511627776 m1 m2<n)=false:=by simpa using h2
   have hOK:doOk l ps s tk pt n m1 m2:=⟨by omega,h2⟩
   obtain ⟨o,hf,⟨c1,c2,c3,c4⟩,h3,h4,h5⟩:=hOK.facts
   have hGo:=(HGo.out o hf).bd II.out
   have hmem:=(findO_mem hf).1
   have hmay:=JJ.out.may o hmem
   have FT:=Lib.hid (JJ.out.fits hmem)
   obtain ⟨_,_,_,_,_,hmy⟩:=hmay
   obtain ⟨x,hx⟩:∃ x,upN (n * o.nu) o.de=x:=⟨_,rfl⟩
   obtain ⟨u1,u2,u3⟩:=up_fits hmy (g:=min 1099511627776 m2) (by omega) (by omega) (by omega) h5
   rw [hx] at u1 u2 u3
   have CU:=Lib.hid (fun w=>rup_rat n o.nu o.de w HN.out FT.out.nu FT.out.de)
   rw [u1] at CU
   have HX:=Lib.hid hx
   have HOK:=Lib.hid hOK
   have HF:=Lib.hid hf
   have CF:=Lib.hid (pfind_any P2.out JJ.out.n1 s)
   rw [hf] at CF
   dsimp only [foundV,Of.val] at CF
   have hx64:Hid (In64 x):=Lib.hid ⟨by omega,by omega⟩
   clear hOK hGo hmem hmy u1 u2 u3 hx hf h5 h4 h3 c1 c2 c3 c4
   generalize mayV l ps s tk pt n 1099511627776 m1 m2=mm at *
   clear h2
   go_wp2_with fail
   refine CF.out.mono ?_
   rintro e w2 ⟨rfl,b2⟩
   have bo:=(Below.refl w2.heap.size w2).alloc (Nat.le_refl _) (.cells #[.int .u64 o.se,.int .u8 o.ow,.int .u8 o.sl,.int .u8 o.bu,.int .i64 o.lf,.int .i64 o.nu,.int .i64 o.de] 76)
   have KO:=Lib.hid (Blk.new w2 #[.int .u64 o.se,.int .u8 o.ow,.int .u8 o.sl,.int .u8 o.bu,.int .i64 o.lf,.int .i64 o.nu,.int .i64 o.de] 76)
   have b3:=b2.trans (bo.mono b2.size)
   have KX2:=Lib.hid (KX1.out.below b3 KX1.out.lt)
   have KF2:=Lib.hid (KF1.out.below b3 KF1.out.lt)
   have L3:=Lib.hid (L2.out.below b3)
   have P3:=Lib.hid (P2.out.below b3)
   have B3:=Lib.hid (B1.out.trans (b3.mono B1.out.size))
   have HSZ:Hid (w.heap.size≤w2.heap.size):=Lib.hid (B1.out.trans (b2.mono B1.out.size)).size
   clear b2 b3 bo e0 e1 kx KX1 KF1 L2 P2 B1 CF
   have e0:=KX2.out.cell 0; have e1:=KX2.out.cell 1
   have kx:=KX2.out.lt
   simp at e0 e1
   have d0:=KO.out.cell 0; have d1:=KO.out.cell 1; have d2:=KO.out.cell 2; have d3:=KO.out.cell 3; have d4:=KO.out.cell 4; have d5:=KO.out.cell 5; have d6:=KO.out.cell 6
   have kol:=KO.out.lt
   simp at d0 d1 d2 d3 d4 d5 d6
   go_wp2_with fail
   refine (CU.out _).mono ?_
   rintro e w3 ⟨rfl,b3⟩
   have KX3:=Lib.hid (KX2.out.below b3 KX2.out.lt)
   have KO3:=Lib.hid (KO.out.below b3 KO.out.lt)
   have KF3:=Lib.hid (KF2.out.below b3 KF2.out.lt)
   have L4:=Lib.hid (L3.out.below b3)
   have P4:=Lib.hid (P3.out.below b3)
   have B4:=Lib.hid (B3.out.trans (b3.mono B3.out.size))
   clear b3 CU KX2 KO KF2 L3 P3 B3
   clear e0 e1 kx d0 d1 d2 d3 d4 d5 d6 kol
   have e0:=KX3.out.cell 0; have e1:=KX3.out.cell 1
   have kx:=KX3.out.lt
   simp at e0 e1
   have d0:=KO3.out.cell 0; have d1:=KO3.out.cell 1; have d2:=KO3.out.cell 2; have d3:=KO3.out.cell 3; have d4:=KO3.out.cell 4; have d5:=KO3.out.cell 5; have d6:=KO3.out.cell 6
   have kol:=KO3.out.lt
   simp at d0 d1 d2 d3 d4 d5 d6
   by_cases hp:pt=o.ow
   ·have q3:(pt != o.ow)=false:=by simpa using hp
    have HP:=Lib.hid hp
    clear hp
    have BK:Hid (Keep (fun k=>k=G∨k=M∨Foot gb vb k) w w3):=Lib.hid (Keep.of_below B4.out)
    clear B4
    have KXA:=KX3
    have KFA:=KF3
    have KOA:=KO3
    have LA:=L4
    have PA:=P4
    clear KX3 KF3 KO3 L4 P4
    obtain ⟨τ,hτ⟩:=route_ends (roomF_inv II.out o.bu) tk o.ow x
    have HTAU:=Lib.hid hτ
    have CP:=Lib.hid (ppay_any HRo.out LA.out II.out HT.out FT.out.ow FT.out.bu hx64.out hτ)
    clear hτ
    go_wp2_with fail
    refine CP.out.mono ?_
    rintro e w6 ⟨rfl,r6,k6⟩
    have AP:=(PA.out.ne_map LA.out).1
    have KX6:=Lib.hid (KXA.out.keep k6 (by have:=HML.out; omega))
    have KF6:=Lib.hid (KFA.out.keep k6 (by have:=HML.out; omega))
    have P6:=Lib.hid (PA.out.keep k6 AP.1 AP.2)
    have B6:=Lib.hid (BK.out.trans (k6.mono (fun k _ h=>Or.inr (Or.inl h))))
    have L6:=Lib.hid r6
    clear CP r6 k6 AP KXA KFA PA LA BK KOA
    clear e0 e1 kx d0 d1 d2 d3 d4 d5 d6 kol
    have e0:=KX6.out.cell 0; have e1:=KX6.out.cell 1
    have kx:=KX6.out.lt
    simp at e0 e1
    have CK:=Lib.hid (ptake_any P6.out JJ.out s n)
    go_wp2_with fail
    refine CK.out.mono ?_
    rintro e w7 ⟨rfl,vb7,r7,k7,mv7⟩
    have AP:=(P6.out.ne_map L6.out).2
    have hgz:¬ Foot gb vb (w.heap.size + 1):=fun h=>by have:=HFO.out _ h; omega
    have KF7:=Lib.hid (KF6.out.keep k7 hgz)
    have L7:=Lib.hid (L6.out.keep k7 AP.1 AP.2)
    have B7:=Lib.hid (B6.out.trans (k7.mono (fun k _ h=>Or.inr (Or.inr h))))
    have P7:=Lib.hid r7
    have MV:=Lib.hid (mv7.of_le B6.out.size)
    clear CK r7 k7 mv7 AP hgz KX6 KF6 P6 L6 B6
    clear e0 e1 kx
    go_wp2_with (refine wpList_store_whole rfl 80 (.tmp 10) (.tmp 81) rfl (w.heap.size + 1) #[.int .u64 s,.int .u8 tk,.int .u8 pt,.int .i64 n,.int .i64 x] rfl rfl 80 _ KF7.out.out (by kernel_rfl) rfl (by simp [Value.oneCell']) ?_)
    refine bodyPost_ret (v:=.tuple #[.agg #[.int .u64 s,.int .u8 tk,.int .u8 pt,.int .i64 n,.int .i64 x],.int .i64 0]) (results_cell_and rfl _ _ (w.heap.size + 1) 80 #[.int .u64 s,.int .u8 tk,.int .u8 pt,.int .i64 n,.int .i64 x] _ _ rfl (setRow_heap _ (w.heap.size + 1) _ _ _ (0,0) KF7.out.out) Tryz.underlying80 rfl (by kernel_rfl) rfl) rfl (.inr ⟨HOK.out,o,x,_,vb7,HF.out,HX.out.symm,⟨ls,τ,(.inl ⟨HP.out,rfl⟩),HTAU.out,rfl⟩,rfl,?_,?_,B7.out.freshRow (by omega) _,MV.out⟩)
    ·exact L7.out.keep (below_keepRow _ _) (by have:=HGL.out; omega) (by have:=HML.out; omega)
    ·refine P7.out.keep (below_keepRow _ _) (by have:=HBL.out; omega) (fun b hb h=>?_)
     subst h
     exact owns_ne P7.out.row KF7.out (by decide) _ hb rfl
   ·have q3:(pt != o.ow)=true:=by simpa using hp
    have HP:=Lib.hid hp
    clear hp
    obtain ⟨σ,hσ⟩:=route_ends (roomF_inv II.out o.sl) o.ow pt n
    have HSG:=Lib.hid hσ
    have CP:=Lib.hid (ppay_any HRo.out L4.out II.out FT.out.ow HTo.out FT.out.sl HN.out hσ)
    clear hσ
    go_wp2_with fail
    refine CP.out.mono ?_
    rintro e w5 ⟨rfl,r5,k5⟩
    have AP:=(P4.out.ne_map L4.out).1
    have KXA:=Lib.hid (KX3.out.keep k5 (by have:=HML.out; omega))
    have KFA:=Lib.hid (KF3.out.keep k5 (by have:=HML.out; omega))
    have KOA:=Lib.hid (KO3.out.keep k5 (by have:=HML.out; have:=HSZ.out; omega))
    have PA:=Lib.hid (P4.out.keep k5 AP.1 AP.2)
    have BK:Hid (Keep (fun k=>k=G∨k=M∨Foot gb vb k) w w5):=Lib.hid ((Keep.of_below B4.out).trans (k5.mono (fun k _ h=>Or.inr (Or.inl h))))
    have LA:=Lib.hid r5
    have IA:=Lib.hid (payL_inv II.out o.ow pt o.sl n σ)
    clear CP r5 k5 AP KX3 KF3 KO3 P4 L4 B4
    clear e0 e1 kx d0 d1 d2 d3 d4 d5 d6 kol
    have RT:Hid (∃ a,IsRoute (roomF ps ls o.sl) 4398046511104 o.ow pt n a∧payL ps ls o.ow pt o.sl n σ=payL ps ls o.ow pt o.sl n a):=Lib.hid ⟨σ,HSG.out,rfl⟩
    clear HSG
    generalize payL ps ls o.ow pt o.sl n σ=ls4 at *
    have e0:=KXA.out.cell 0; have e1:=KXA.out.cell 1
    have kx:=KXA.out.lt
    simp at e0 e1
    have d0:=KOA.out.cell 0; have d1:=KOA.out.cell 1; have d2:=KOA.out.cell 2; have d3:=KOA.out.cell 3; have d4:=KOA.out.cell 4; have d5:=KOA.out.cell 5; have d6:=KOA.out.cell 6
    have kol:=KOA.out.lt
    simp at d0 d1 d2 d3 d4 d5 d6
    obtain ⟨τ,hτ⟩:=route_ends (roomF_inv IA.out o.bu) tk o.ow x
    have HTAU:=Lib.hid hτ
    have CP:=Lib.hid (ppay_any HRo.out LA.out IA.out HT.out FT.out.ow FT.out.bu hx64.out hτ)
    clear hτ
    go_wp2_with fail
    refine CP.out.mono ?_
    rintro e w6 ⟨rfl,r6,k6⟩
    have AP:=(PA.out.ne_map LA.out).1
    have KX6:=Lib.hid (KXA.out.keep k6 (by have:=HML.out; omega))
    have KF6:=Lib.hid (KFA.out.keep k6 (by have:=HML.out; omega))
    have P6:=Lib.hid (PA.out.keep k6 AP.1 AP.2)
    have B6:=Lib.hid (BK.out.trans (k6.mono (fun k _ h=>Or.inr (Or.inl h))))
    have L6:=Lib.hid r6
    clear CP r6 k6 AP KXA KFA PA LA BK KOA
    clear e0 e1 kx d0 d1 d2 d3 d4 d5 d6 kol
    have e0:=KX6.out.cell 0; have e1:=KX6.out.cell 1
    have kx:=KX6.out.lt
    simp at e0 e1
    have CK:=Lib.hid (ptake_any P6.out JJ.out s n)
    go_wp2_with fail
    refine CK.out.mono ?_
    rintro e w7 ⟨rfl,vb7,r7,k7,mv7⟩
    have AP:=(P6.out.ne_map L6.out).2
    have hgz:¬ Foot gb vb (w.heap.size + 1):=fun h=>by have:=HFO.out _ h; omega
    have KF7:=Lib.hid (KF6.out.keep k7 hgz)
    have L7:=Lib.hid (L6.out.keep k7 AP.1 AP.2)
    have B7:=Lib.hid (B6.out.trans (k7.mono (fun k _ h=>Or.inr (Or.inr h))))
    have P7:=Lib.hid r7
    have MV:=Lib.hid (mv7.of_le B6.out.size)
    clear CK r7 k7 mv7 AP hgz KX6 KF6 P6 L6 B6
    clear e0 e1 kx
    go_wp2_with (refine wpList_store_whole rfl 80 (.tmp 10) (.tmp 81) rfl (w.heap.size + 1) #[.int .u64 s,.int .u8 tk,.int .u8 pt,.int .i64 n,.int .i64 x] rfl rfl 80 _ KF7.out.out (by kernel_rfl) rfl (by simp [Value.oneCell']) ?_)
    refine bodyPost_ret (v:=.tuple #[.agg #[.int .u64 s,.int .u8 tk,.int .u8 pt,.int .i64 n,.int .i64 x],.int .i64 0]) (results_cell_and rfl _ _ (w.heap.size + 1) 80 #[.int .u64 s,.int .u8 tk,.int .u8 pt,.int .i64 n,.int .i64 x] _ _ rfl (setRow_heap _ (w.heap.size + 1) _ _ _ (0,0) KF7.out.out) Tryz.underlying80 rfl (by kernel_rfl) rfl) rfl (.inr ⟨HOK.out,o,x,_,vb7,HF.out,HX.out.symm,⟨ls4,τ,(.inr ⟨HP.out,RT.out⟩),HTAU.out,rfl⟩,rfl,?_,?_,B7.out.freshRow (by omega) _,MV.out⟩)
    ·exact L7.out.keep (below_keepRow _ _) (by have:=HGL.out; omega) (by have:=HML.out; omega)
    ·refine P7.out.keep (below_keepRow _ _) (by have:=HBL.out; omega) (fun b hb h=>?_)
     subst h
     exact owns_ne P7.out.row KF7.out (by decide) _ hb rfl
  ·have q2:decide (mayV l ps s tk pt n 1099511627776 m1 m2<n)=true:=by simpa using h2
   have NO:Hid (¬ doOk l ps s tk pt n m1 m2):=Lib.hid (fun h=>h2 h.2)
   clear h2
   generalize mayV l ps s tk pt n 1099511627776 m1 m2=mm at *
   go_wp2_with (refine wpList_store_whole rfl 80 (.tmp 10) (.tmp 34) rfl (w.heap.size + 1) #[.int .u64 0,.int .u8 0,.int .u8 0,.int .i64 0,.int .i64 0] rfl rfl 80 _ KF1.out.out (by kernel_rfl) rfl (by simp [Value.oneCell']) ?_)
   refine bodyPost_ret (v:=.tuple #[noFill,.int .i64 1]) (results_cell_and rfl _ _ (w.heap.size + 1) 80 #[.int .u64 0,.int .u8 0,.int .u8 0,.int .i64 0,.int .i64 0] _ _ rfl (setRow_heap _ (w.heap.size + 1) _ _ _ (0,0) KF1.out.out) Tryz.underlying80 rfl (by kernel_rfl) rfl) rfl (.inl ⟨NO.out,rfl,below_setRow B1.out (by omega) _⟩)
end Go.Proofs.YtojbmnbphdcjfaaGreat
namespace Go.Proofs.YtojbmnbphdcjfaaGreat
open Go.RowKit
def wayX10 (s t:Int) (σ:RS):Nat→RS
 | 0=>σ
 | k + 1=>wayR s t (wayX10 s t σ k)
theorem route10_by {f0:Int→Int→Int} {B s t want:Int} (h:GInv f0 B):∀ k,(∀ j,j<k→¬ doneR s t (wayX10 s t ⟨f0,want,[]⟩ j))→RInv f0 B s t want k (wayX10 s t ⟨f0,want,[]⟩ k)
 | 0,_=>RInv.start h s t want
 | k + 1,hj=>(route10_by h k (fun j hk=>hj j (by omega))).step (hj k (by omega))
theorem route10_is {f0:Int→Int→Int} {B s t want:Int} (h:GInv f0 B) (k:Nat) (hj:∀ j,j<k→¬ doneR s t (wayX10 s t ⟨f0,want,[]⟩ j)) (hd:doneR s t (wayX10 s t ⟨f0,want,[]⟩ k)):IsRoute f0 B s t want (wayX10 s t ⟨f0,want,[]⟩ k) :=
 ⟨k,route10_by h k hj,hd⟩
def p10:List Int:=[1,2,3]
def l10:List Ln:=[⟨3,2,1,9,0⟩,⟨2,1,2,7,0⟩]
def o10:List Of:=[⟨1,2,1,2,5,3,2⟩]
theorem lv10_s:(∀ j,j<1→¬ doneR 2 3 (wayX10 2 3 ⟨roomF p10 l10 1,mostW,[]⟩ j))∧doneR 2 3 (wayX10 2 3 ⟨roomF p10 l10 1,mostW,[]⟩ 1)∧mostW - (wayX10 2 3 ⟨roomF p10 l10 1,mostW,[]⟩ 1).left=9:=by
 unfold doneR
 decide +kernel
theorem lv10_b:(∀ j,j<1→¬ doneR 1 2 (wayX10 1 2 ⟨roomF p10 l10 2,mostW,[]⟩ j))∧doneR 1 2 (wayX10 1 2 ⟨roomF p10 l10 2,mostW,[]⟩ 1)∧mostW - (wayX10 1 2 ⟨roomF p10 l10 2,mostW,[]⟩ 1).left=7:=by
 unfold doneR
 decide +kernel
end Go.Proofs.YtojbmnbphdcjfaaGreat
namespace Go.Proofs.YtojbmnbphdcjfaaGreat
theorem mostS_by {ps:List Int} {ls:List Ln} (h:LInv ps ls) {c a b v:Int} (k:Nat) (hc:(∀ j,j<k→¬ doneR a b (wayX10 a b ⟨roomF ps ls c,mostW,[]⟩ j))∧doneR a b (wayX10 a b ⟨roomF ps ls c,mostW,[]⟩ k)∧mostW - (wayX10 a b ⟨roomF ps ls c,mostW,[]⟩ k).left=v):mostS ps ls c a b=v:=by
 unfold mostS
 rw [(routeS_is (roomF_inv h c) a b mostW).eq (route10_is (roomF_inv h c) k hc.1 hc.2.1)]
 exact hc.2.2
theorem paidS_by {ps:List Int} {ls ls':List Ln} (h:LInv ps ls) {c a b n:Int} (k:Nat) (hc:(∀ j,j<k→¬ doneR a b (wayX10 a b ⟨roomF ps ls c,n,[]⟩ j))∧doneR a b (wayX10 a b ⟨roomF ps ls c,n,[]⟩ k)∧payL ps ls a b c n (wayX10 a b ⟨roomF ps ls c,n,[]⟩ k)=ls'):paidS ps ls a b c n=ls':=by
 unfold paidS
 rw [(routeS_is (roomF_inv h c) a b n).eq (route10_is (roomF_inv h c) k hc.1 hc.2.1)]
 exact hc.2.2
def lzA:List Ln:=[⟨3,2,1,9,5⟩,⟨2,1,2,7,0⟩]
def lz1:List Ln:=[⟨3,2,1,9,5⟩,⟨2,1,2,7,5⟩]
def lzB:List Ln:=[⟨3,2,1,9,6⟩,⟨2,1,2,7,5⟩]
def lz2:List Ln:=[⟨3,2,1,9,6⟩,⟨2,1,2,7,7⟩]
def ov0:List Of:=[⟨1,2,1,2,5,3,2⟩,⟨2,2,1,2,5,1,1⟩]
def ov1:List Of:=[⟨1,2,1,2,5,3,2⟩]
def ov2:List Of:=[⟨1,2,1,2,4,3,2⟩]
set_option maxRecDepth 100000 in
theorem lw_s0 (h:LInv p10 l10):mostS p10 l10 1 2 3=9∧mostS p10 l10 2 1 2=7:=⟨mostS_by h 1 lv10_s,mostS_by h 1 lv10_b⟩
theorem lw_p0 (h:LInv p10 l10):paidS p10 l10 2 3 1 5=lzA:=paidS_by h 1 (by unfold doneR; decide +kernel)
theorem lw_pA (h:LInv p10 lzA):paidS p10 lzA 1 2 2 5=lz1:=paidS_by h 1 (by unfold doneR; decide +kernel)
theorem lw_s1 (h:LInv p10 lz1):mostS p10 lz1 1 2 3=4∧mostS p10 lz1 2 1 2=2:=⟨mostS_by h 1 (by unfold doneR; decide +kernel),mostS_by h 1 (by unfold doneR; decide +kernel)⟩
theorem lw_p1 (h:LInv p10 lz1):paidS p10 lz1 2 3 1 1=lzB:=paidS_by h 1 (by unfold doneR; decide +kernel)
theorem lw_pB (h:LInv p10 lzB):paidS p10 lzB 1 2 2 2=lz2:=paidS_by h 1 (by unfold doneR; decide +kernel)
theorem lw_s2 (h:LInv p10 lz2):mostS p10 lz2 1 2 3=3∧mostS p10 lz2 2 1 2=0:=⟨mostS_by h 1 (by unfold doneR; decide +kernel),mostS_by h 0 (by unfold doneR; decide +kernel)⟩
theorem lw_f0 (h:LInv p10 l10):filledS p10 l10 ⟨2,2,1,2,5,1,1⟩ 1 3 5 5=lz1∧LInv p10 lz1:=by
 have e0:=lw_p0 h
 have hA:LInv p10 lzA:=by rw [← e0]; exact paidS_inv h _ _ _ _
 have e1:=lw_pA hA
 refine ⟨?_,by rw [← e1]; exact paidS_inv hA _ _ _ _⟩
 unfold filledS
 rw [if_neg (by decide)]
 show paidS p10 (paidS p10 l10 2 3 1 5) 1 2 2 5=lz1
 rw [e0,e1]
theorem lw_f1 (h:LInv p10 lz1):filledS p10 lz1 ⟨1,2,1,2,5,3,2⟩ 1 3 1 2=lz2∧LInv p10 lz2:=by
 have e0:=lw_p1 h
 have hB:LInv p10 lzB:=by rw [← e0]; exact paidS_inv h _ _ _ _
 have e1:=lw_pB hB
 refine ⟨?_,by rw [← e1]; exact paidS_inv hB _ _ _ _⟩
 unfold filledS
 rw [if_neg (by decide)]
 show paidS p10 (paidS p10 lz1 2 3 1 1) 1 2 2 2=lz2
 rw [e0,e1]
def fv1:Fl:=⟨2,5,5⟩
def fv2:Fl:=⟨1,1,2⟩
theorem lw_step0 (h:LInv p10 l10) {n:Int} (hn:n=6∨n=7):swapN p10 1 3 1 2 64 ⟨l10,ov0,[],n⟩=swapN p10 1 3 1 2 63 ⟨lz1,ov1,[fv1],n - 5⟩:=by
 have hm:mayS p10 l10 ov0 1 3 n 1099511627776 2=5:=by
  show mayO ⟨2,2,1,2,5,1,1⟩ p10 1 3 n 1099511627776 (mostS p10 l10 1 2 3) (mostS p10 l10 2 1 2)=5
  rw [(lw_s0 h).1,(lw_s0 h).2]
  rcases hn with rfl | rfl <;> decide +kernel
 have hf:firstS p10 l10 ov0 1 3 n 1099511627776 (bestO ov0 1 2)=some (2,5):=by
  rw [show bestO ov0 1 2=[⟨2,2,1,2,5,1,1⟩,⟨1,2,1,2,5,3,2⟩] by decide +kernel]
  unfold firstS
  rw [hm]
  rfl
 rw [swapN_next (s:=2) (k:=5) (by show ¬ n≤0; omega) hf (by simp)]
 have e:nextS p10 1 3 ⟨l10,ov0,[],n⟩ 2 5=⟨lz1,ov1,[fv1],n - 5⟩:=by
  unfold nextS
  rw [show findO ov0 2=some ⟨2,2,1,2,5,1,1⟩ by decide +kernel]
  simp only []
  rw [show upN (5 * 1) 1=5 by decide +kernel,(lw_f0 h).1,show takeL ov0 2 5=ov1 by decide +kernel]
  rfl
 rw [e]
theorem lw_step1 (h:LInv p10 lz1) {n:Int} (hn:n=1∨n=2):swapN p10 1 3 1 2 63 ⟨lz1,ov1,[fv1],n⟩=swapN p10 1 3 1 2 62 ⟨lz2,ov2,[fv1,fv2],n - 1⟩:=by
 have hm:mayS p10 lz1 ov1 1 3 n 1099511627776 1=1:=by
  show mayO ⟨1,2,1,2,5,3,2⟩ p10 1 3 n 1099511627776 (mostS p10 lz1 1 2 3) (mostS p10 lz1 2 1 2)=1
  rw [(lw_s1 h).1,(lw_s1 h).2]
  rcases hn with rfl | rfl <;> decide +kernel
 have hf:firstS p10 lz1 ov1 1 3 n 1099511627776 (bestO ov1 1 2)=some (1,1):=by
  rw [show bestO ov1 1 2=[⟨1,2,1,2,5,3,2⟩] by decide +kernel]
  unfold firstS
  rw [hm]
  rfl
 rw [swapN_next (s:=1) (k:=1) (by show ¬ n≤0; omega) hf (by simp)]
 have e:nextS p10 1 3 ⟨lz1,ov1,[fv1],n⟩ 1 1=⟨lz2,ov2,[fv1,fv2],n - 1⟩:=by
  unfold nextS
  rw [show findO ov1 1=some ⟨1,2,1,2,5,3,2⟩ by decide +kernel]
  simp only []
  rw [show upN (1 * 3) 2=2 by decide +kernel,(lw_f1 h).1,show takeL ov1 1 1=ov2 by decide +kernel]
  rfl
 rw [e]
theorem lw_none (h:LInv p10 lz2):swapN p10 1 3 1 2 62 ⟨lz2,ov2,[fv1,fv2],1⟩=(11,⟨lz2,ov2,[fv1,fv2],1⟩):=by
 refine swapN_none (by decide) ?_
 have hm:mayS p10 lz2 ov2 1 3 1 1099511627776 1=0:=by
  show mayO ⟨1,2,1,2,4,3,2⟩ p10 1 3 1 1099511627776 (mostS p10 lz2 1 2 3) (mostS p10 lz2 2 1 2)=0
  rw [(lw_s2 h).1,(lw_s2 h).2]
  decide +kernel
 show firstS p10 lz2 ov2 1 3 1 1099511627776 (bestO ov2 1 2)=none
 rw [show bestO ov2 1 2=[⟨1,2,1,2,4,3,2⟩] by decide +kernel]
 unfold firstS
 rw [hm]
 rfl
theorem lw_n6 (h:LInv p10 l10):swapN p10 1 3 1 2 64 ⟨l10,ov0,[],6⟩=(0,⟨lz2,ov2,[fv1,fv2],0⟩):=by
 have h1:=(lw_f0 h).2
 rw [lw_step0 h (.inl rfl),show (6:Int) - 5=1 by decide,lw_step1 h1 (.inl rfl),show (1:Int) - 1=0 by decide,swapN_done (by decide)]
theorem lw_n7 (h:LInv p10 l10):swapN p10 1 3 1 2 64 ⟨l10,ov0,[],7⟩=(11,⟨lz2,ov2,[fv1,fv2],1⟩):=by
 have h1:=(lw_f0 h).2
 have h2:=(lw_f1 h1).2
 rw [lw_step0 h (.inr rfl),show (7:Int) - 5=2 by decide,lw_step1 h1 (.inr rfl),show (2:Int) - 1=1 by decide,lw_none h2]
theorem lw_sw1 (h:LInv p10 l10):swapF p10 l10 ov0 1 3 1 2 6 7=(0,⟨lz2,ov2,[fv1,fv2],0⟩):=by
 unfold swapF
 rw [if_neg (fun q=>q (by unfold swMay; decide)),if_neg (by decide),lw_n6 h]
 rfl
theorem lw_sw2 (h:LInv p10 l10):(swapF p10 l10 ov0 1 3 1 2 6 6).1=12:=by
 unfold swapF
 rw [if_neg (fun q=>q (by unfold swMay; decide)),if_neg (by decide),lw_n6 h]
 rfl
theorem lw_sw3 (h:LInv p10 l10):(swapF p10 l10 ov0 1 3 1 2 7 99).1=11:=by
 unfold swapF
 rw [if_neg (fun q=>q (by unfold swMay; decide)),if_neg (by decide),lw_n7 h]
 rfl
theorem lw_sw4:(swapF p10 l10 ov0 1 3 1 2 0 9).1=1:=by
 unfold swapF
 rw [if_pos (by unfold swMay; decide)]
end Go.Proofs.YtojbmnbphdcjfaaGreat
namespace Go.Proofs.YtojbmnbphdcjfaaGreat
open Go.RowKit
theorem pmayS_any (HMy:FMayProg) {w:World} {base G M gb:Nat} {ps:List Int} {ls:List Ln} {l:List Of} {N:Int} {vb:Value} (hL:LedM w G M ps ls) (hI:LInv ps ls) (hP:PB w base gb l N vb) (hJ:BInv l N)
  (s tk pt want most:Int) (hs:0≤s∧s≤18446744073709551615) (ht:In8 tk) (hto:In8 pt) (hw:In64 want) (hmo:In64 most) :
  Calls Tryz.prog 65 #[.agg #[.pointer (some ⟨G,0,none⟩),.pointer (some ⟨gb,0,none⟩)],.int .u64 s,.int .u8 tk,.int .u8 pt,.int .i64 want,.int .i64 most] w fun e w'=>e=.returned (.int .i64 (mayS ps ls l tk pt want most s))∧Below w.heap.size w w':=by
 obtain ⟨m1,m2,g,_,_⟩:=goes_some hI l s tk pt
 rw [← mayS_eq hI g]
 exact HMy hL hI hP hJ s tk pt want most m1 m2 hs ht hto hw hmo g
def PDoS (w:World) (base G M gb:Nat) (ps:List Int) (ls:List Ln) (l:List Of) (N:Int) (vb:Value) (s tk pt n:Int) (e:Ending) (w':World):Prop :=
 (¬ okS ps ls l tk pt n s∧e=.returned (.tuple #[noFill,.int .i64 1])∧Below w.heap.size w w') ∨
 (okS ps ls l tk pt n s∧∃ o x vb',findO l s=some o∧x=upN (n * o.nu) o.de∧e=.returned (.tuple #[.agg #[.int .u64 s,.int .u8 tk,.int .u8 pt,.int .i64 n,.int .i64 x],.int .i64 0]) ∧
  LedM w' G M ps (filledS ps ls o tk pt n x)∧PB w' base gb (takeL l s n) N vb'∧Keep (fun k=>k=G∨k=M∨Foot gb vb k) w w'∧Moved w vb vb')
theorem pdoS_any (HD:FDoProg) {w:World} {base G M gb:Nat} {ps:List Int} {ls:List Ln} {l:List Of} {N:Int} {vb:Value} (hL:LedM w G M ps ls) (hI:LInv ps ls) (hP:PB w base gb l N vb) (hJ:BInv l N)
  (s tk pt n:Int) (hs:0≤s∧s≤18446744073709551615) (ht:In8 tk) (hto:In8 pt) (hn:In64 n) :
  Calls Tryz.prog 67 #[.agg #[.pointer (some ⟨G,0,none⟩),.pointer (some ⟨gb,0,none⟩)],.int .u64 s,.int .u8 tk,.int .u8 pt,.int .i64 n] w (PDoS w base G M gb ps ls l N vb s tk pt n):=by
 obtain ⟨m1,m2,g,_,_⟩:=goes_some hI l s tk pt
 refine (HD hL hI hP hJ s tk pt n m1 m2 hs ht hto hn g).mono ?_
 rintro e w' (⟨a,b,c⟩ | ⟨a,o,x,ls',vb',b,c,d,f,h1,h2,h3,h4⟩)
 ·exact .inl ⟨fun q=>a ((okS_iff hI g).2 q),b,c⟩
 ·rw [d.eq (filledS_is hI o tk pt n x)] at h1
  exact .inr ⟨(okS_iff hI g).1 a,o,x,vb',b,c,f,h1,h2,h3,h4⟩
end Go.Proofs.YtojbmnbphdcjfaaGreat
