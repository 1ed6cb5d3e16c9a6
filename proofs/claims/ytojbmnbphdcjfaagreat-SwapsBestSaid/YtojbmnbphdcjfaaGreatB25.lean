/-
  Pieces of one proof, without what is not wanted: PFills, PFills2, PFills3, Both.
-/
import Derived.Test.YtojbmnbphdcjfaaGreatB01
import Derived.Test.YtojbmnbphdcjfaaGreatB02
import Derived.Test.YtojbmnbphdcjfaaGreatB05
import Derived.Test.YtojbmnbphdcjfaaGreatB06
import Derived.Test.YtojbmnbphdcjfaaGreatB12
import Derived.Test.YtojbmnbphdcjfaaGreatB14
import Derived.Test.YtojbmnbphdcjfaaGreatB17
import Derived.Test.YtojbmnbphdcjfaaGreatB19
import Derived.Laws.EntriesVeiled
import Derived.Shelf.Abstract
import Derived.Laws.AppendOwnNone
set_option linter.unusedSimpArgs false
set_option linter.unusedVariables false
namespace Go.Proofs.YtojbmnbphdcjfaaGreat
open Go.RowKit
def leastN:Int→List Int→Int
 | n,[]=>n
 | n,v::vs=>if min n v<1 then 0 else leastN (min n v) vs
structure Bnd (w:World) (rv:Value) (b:Nat × Int):Prop where
 enter:∀ args w',(callFunc b.1 args).run Tryz.prog w'=.ok (.enter b.1 args) w'
 call:∀ w',Below w.heap.size w w'→Calls Tryz.prog b.1 #[rv] w' fun e w''=>e=.returned (.int .i64 b.2)∧Below w'.heap.size w' w''
theorem Bnd.below {w w':World} {rv:Value} {b:Nat × Int} (h:Bnd w rv b) (k:Below w.heap.size w w'):Bnd w' rv b:=⟨h.enter,fun w2 q=>h.call w2 (andB k q)⟩
def bndV (rv:Value) (b:Nat × Int):Value:=.func (.func b.1) #[rv] #[]
def LeastAt (W:World) (bs:List (Nat × Int)) (n i:Value) (wr:World):Prop :=
 ∃ (k:Nat) (m:Int),k≤bs.length∧i=.int .i64 k∧n=.int .i64 m∧(m≤1099511627776 ∧ -9223372036854775808≤m)∧Below W.heap.size W wr∧Hid (leastN 1099511627776 (bs.map (·.2))=leastN m ((bs.drop k).map (·.2)))
set_option maxHeartbeats 4000000 in
set_option maxRecDepth 100000 in
theorem least_any {w:World} {g:Nat} {rv:Value} {bs:List (Nat × Int)} {t:TypeId} (hk:Blk w g (bs.map (bndV rv)).toArray t) (hb:∀ b ∈ bs,Bnd w rv b) (h64:∀ b ∈ bs,In64 b.2) (hl:bs.length≤100) :
  Calls Tryz.prog 118 #[.slice (some ⟨g,0,none⟩) bs.length bs.length] w fun e w'=>e=.returned (.int .i64 (leastN 1099511627776 (bs.map (·.2))))∧Below w.heap.size w w':=by
 have K:=Lib.hid hk
 have HB:=Lib.hid hb
 have H64:=Lib.hid h64
 clear hk hb h64
 go_enter Tryz.func118,Tryz.ntmps118
 go_wp2_with fail
 go_loopw [3,8] (LeastAt w bs) (fun _ i _=>bs.length - (intOf i).toNat)
 case atStart=>exact ⟨0,_,by omega,rfl,rfl,by omega,Below.refl _ _,Lib.hid rfl⟩
 case round =>
  obtain ⟨k,m,hkl,rfl,rfl,⟨m1,m2⟩,hB,HE⟩:=hrel
  have BB:=Lib.hid hB
  clear hB
  by_cases hlt:k<bs.length
  ·have hki:(k:Int)<(bs.length:Int):=by omega
   have hk0:(0:Int)≤(k:Int):=by omega
   have q0:decide ((k:Int)<(bs.length:Int))=true:=by simpa using hlt
   have KK:=Lib.hid (K.out.below BB.out K.out.lt)
   have d0:=KK.out.cell k
   have kl:=KK.out.lt
   simp only [List.getElem?_toArray,List.getElem?_map,List.getElem?_eq_getElem hlt,Option.map_some] at d0
   have HBk:=Lib.hid ((HB.out bs[k] (List.getElem_mem _)).below BB.out)
   have h64:=H64.out bs[k] (List.getElem_mem _)
   have HD:Hid (bs.drop k=bs[k]::bs.drop (k + 1)):=Lib.hid (List.drop_eq_getElem_cons hlt)
   generalize bs[k]=b at *
   obtain ⟨f,v⟩:=b
   unfold bndV at d0
   dsimp only at d0 h64
   have hv1:=h64.1
   have hv2:=h64.2
   clear h64
   have CB:=Lib.hid (HBk.out.call wr (Below.refl _ _))
   have EN:=HBk.out.enter #[rv] wr
   dsimp only at CB EN
   have HM:Hid (leastN m (((f,v)::bs.drop (k + 1)).map (·.2))=if min m v<1 then 0 else leastN (min m v) ((bs.drop (k + 1)).map (·.2))):=Lib.hid rfl
   clear HBk
   go_wp2_with fail
   refine CB.out.mono ?_
   rintro e w1 ⟨rfl,b1⟩
   have B1:=Lib.hid (BB.out.trans (b1.mono BB.out.size))
   clear b1 CB EN d0 kl
   by_cases hz:min m v<1
   ·have q1:decide (min m v<1)=true:=by simpa using hz
    have HZ:=Lib.hid hz
    clear hz
    go_wp2_with fail
    go_ret
    exact ⟨by rw [HE.out,HD.out,HM.out.trans (if_pos HZ.out)]; rfl,B1.out⟩
   ·have q1:decide (min m v<1)=false:=by simpa using hz
    have HZ:=Lib.hid hz
    clear hz
    go_wp2_with fail
    exact ⟨⟨k + 1,_,by omega,by go_num,rfl,by omega,B1.out,Lib.hid (by rw [HE.out,HD.out]; exact HM.out.trans (if_neg (by have:=HZ.out; omega)))⟩,by simp [intOf]; omega⟩
  ·have hkn:k=bs.length:=by omega
   subst hkn
   have q0:decide (((bs.length:Nat):Int)<(bs.length:Int))=false:=by simp
   have HM:Hid (leastN m ((bs.drop bs.length).map (·.2))=m):=Lib.hid (by rw [List.drop_length]; rfl)
   go_wp2_with fail
   go_ret
   exact ⟨by rw [HE.out,HM.out]; rfl,BB.out⟩
abbrev filV (lp:Option Addr) (o:Of) (tk pt want most:Int):Value:=.agg #[.pointer lp,.int .u64 o.se,.int .u8 o.ow,.int .u8 o.sl,.int .u8 o.bu,.int .i64 o.lf,.int .i64 o.nu,.int .i64 o.de,.int .u8 tk,.int .u8 pt,.int .i64 want,.int .i64 most]
abbrev filC (lp:Option Addr) (o:Of) (tk pt want most:Int):Array Value:=#[.pointer lp,.int .u64 o.se,.int .u8 o.ow,.int .u8 o.sl,.int .u8 o.bu,.int .i64 o.lf,.int .i64 o.nu,.int .i64 o.de,.int .u8 tk,.int .u8 pt,.int .i64 want,.int .i64 most]
theorem fwanted_any (lp:Option Addr) (o:Of) (tk pt want most:Int) (w:World):Calls Tryz.prog 119 #[filV lp o tk pt want most] w fun e w'=>e=.returned (.int .i64 want)∧Below w.heap.size w w':=by
 have B:=Lib.hid ((Below.refl w.heap.size w).alloc (Nat.le_refl _) (.cells (filC lp o tk pt want most) 183))
 unfold filV
 go_enter Tryz.func119,Tryz.ntmps119
 go_wp2_with fail
 go_ret
 exact ⟨rfl,B.out⟩
theorem fleft_any (lp:Option Addr) (o:Of) (tk pt want most:Int) (w:World):Calls Tryz.prog 120 #[filV lp o tk pt want most] w fun e w'=>e=.returned (.int .i64 o.lf)∧Below w.heap.size w w':=by
 have B:=Lib.hid ((Below.refl w.heap.size w).alloc (Nat.le_refl _) (.cells (filC lp o tk pt want most) 183))
 unfold filV
 go_enter Tryz.func120,Tryz.ntmps120
 go_wp2_with fail
 go_ret
 exact ⟨rfl,B.out⟩
theorem fallowed_any (lp:Option Addr) (o:Of) (tk pt want most:Int) (w:World):Calls Tryz.prog 171 #[filV lp o tk pt want most] w fun e w'=>e=.returned (.int .i64 most)∧Below w.heap.size w w':=by
 have B:=Lib.hid ((Below.refl w.heap.size w).alloc (Nat.le_refl _) (.cells (filC lp o tk pt want most) 183))
 unfold filV
 go_enter Tryz.func171,Tryz.ntmps171
 go_wp2_with fail
 go_ret
 exact ⟨rfl,B.out⟩
theorem fsold_any (HM:MostProg) {w:World} {G M:Nat} {ps:List Int} {ls:List Ln} {o:Of} (h:LedM w G M ps ls) (hI:LInv ps ls) (hf:o.Fits) (tk pt want most:Int) (hp:In8 pt) {m1 m2:Int} (g:Goes ps ls o tk pt m1 m2) :
  Calls Tryz.prog 121 #[filV (some ⟨G,0,none⟩) o tk pt want most] w fun e w'=>e=.returned (.int .i64 (if pt=o.ow then 1099511627776 else m1))∧Below w.heap.size w w':=by
 have bw:=(Below.refl w.heap.size w).alloc (Nat.le_refl _) (.cells (filC (some ⟨G,0,none⟩) o tk pt want most) 183)
 have B:=Lib.hid bw
 obtain ⟨⟨μ,h1,h2⟩,_⟩:=g
 have CM:=Lib.hid (pmost9_any HM (h.below bw) hI hf.ow hp hf.sl h1)
 rw [h2] at CM
 clear bw h hI hf hp h1 h2
 unfold filV
 by_cases he:pt=o.ow
 ·rw [if_pos he]
  subst he
  have q0:(o.ow==o.ow)=true:=by simp
  clear CM
  go_enter Tryz.func121,Tryz.ntmps121
  go_wp2_with fail
  go_ret
  exact ⟨rfl,B.out⟩
 ·rw [if_neg he]
  have q0:(pt==o.ow)=false:=by simpa using he
  clear he
  go_enter Tryz.func121,Tryz.ntmps121
  go_wp2_with fail
  refine CM.out.mono ?_
  rintro e w1 ⟨rfl,b1⟩
  have B1:=Lib.hid (B.out.trans (b1.mono B.out.size))
  clear b1
  go_wp2_with fail
  go_ret
  exact ⟨rfl,B1.out⟩
theorem fbought_any (HM:MostProg) {w:World} {G M:Nat} {ps:List Int} {ls:List Ln} {o:Of} (h:LedM w G M ps ls) (hI:LInv ps ls) (hf:o.Fits) (tk pt want most:Int) (ht:In8 tk) {m1 m2:Int} (g:Goes ps ls o tk pt m1 m2) :
  Calls Tryz.prog 172 #[filV (some ⟨G,0,none⟩) o tk pt want most] w fun e w'=>e=.returned (.int .i64 m2)∧Below w.heap.size w w':=by
 have bw:=(Below.refl w.heap.size w).alloc (Nat.le_refl _) (.cells (filC (some ⟨G,0,none⟩) o tk pt want most) 183)
 have B:=Lib.hid bw
 obtain ⟨_,μ,h1,h2⟩:=g
 have CM:=Lib.hid (pmost9_any HM (h.below bw) hI ht hf.ow hf.bu h1)
 rw [h2] at CM
 clear bw h hI hf ht h1 h2
 unfold filV
 go_enter Tryz.func172,Tryz.ntmps172
 go_wp2_with fail
 refine CM.out.mono ?_
 rintro e w1 ⟨rfl,b1⟩
 have B1:=Lib.hid (B.out.trans (b1.mono B.out.size))
 clear b1
 go_wp2_with fail
 go_ret
 exact ⟨rfl,B1.out⟩
end Go.Proofs.YtojbmnbphdcjfaaGreat
namespace Go.Proofs.YtojbmnbphdcjfaaGreat
open Go.RowKit
theorem leastN_bd:∀ (vs:List Int) {n:Int},n≤1099511627776 → -9223372036854775808≤n→(∀ v ∈ vs,-9223372036854775808≤v)→In64 (leastN n vs)
 | [],n,h1,h2,_=>⟨by unfold leastN; omega,by unfold leastN; omega⟩
 | v::vs,n,h1,h2,h=>by
  unfold leastN
  split
  ·exact ⟨by omega,by omega⟩
  ·rename_i hz
   have:=h v (List.mem_cons_self)
   exact leastN_bd vs (by omega) (by omega) (fun x hx=>h x (List.mem_cons_of_mem _ hx))
set_option maxHeartbeats 8000000 in
set_option maxRecDepth 100000 in
theorem ffits_any (HM:MostProg) {w:World} {G M:Nat} {ps:List Int} {ls:List Ln} {o:Of} (h:LedM w G M ps ls) (hI:LInv ps ls) (hf:o.Fits) (tk pt want most:Int) (ht:In8 tk) (hm:In64 most) {m1 m2:Int} (g:Goes ps ls o tk pt m1 m2) :
  Calls Tryz.prog 122 #[filV (some ⟨G,0,none⟩) o tk pt want most] w fun e w'=>e=.returned (.int .i64 (fitN (leastN 1099511627776 [most,m2]) o.nu o.de))∧Below w.heap.size w w':=by
 have bw:=(Below.refl w.heap.size w).alloc (Nat.le_refl _) (.cells (filC (some ⟨G,0,none⟩) o tk pt want most) 183)
 have KX:=Lib.hid (Blk.new w (filC (some ⟨G,0,none⟩) o tk pt want most) 183)
 have B:=Lib.hid bw
 have hbd:=g.bd hI
 have H64a:=Lib.hid hm
 have H64b:Hid (In64 m2):=Lib.hid ⟨by omega,by omega⟩
 have H64l:Hid (In64 (leastN 1099511627776 [most,m2])):=Lib.hid (leastN_bd _ (by omega) (by omega) (by intro v hv; simp only [List.mem_cons,List.not_mem_nil,or_false] at hv; rcases hv with rfl | rfl; exact hm.1; omega))
 have HF:=Lib.hid hf
 have L:=h.below bw
 have HA:Hid (Bnd (w.alloc (.cells (filC (some ⟨G,0,none⟩) o tk pt want most) 183)) (filV (some ⟨G,0,none⟩) o tk pt want most) (171,most)):=Lib.hid
  ⟨enters_of Tryz.func171 (by kernel_rfl) rfl,fun w' k=>fallowed_any _ o tk pt want most w'⟩
 have HBo:Hid (Bnd (w.alloc (.cells (filC (some ⟨G,0,none⟩) o tk pt want most) 183)) (filV (some ⟨G,0,none⟩) o tk pt want most) (172,m2)):=Lib.hid
  ⟨enters_of Tryz.func172 (by kernel_rfl) rfl,fun w' k=>fbought_any HM (L.below k) hI hf tk pt want most ht g⟩
 clear bw h hI hf hm hbd L g
 go_enter Tryz.func122,Tryz.ntmps122
 go_upto_region 1 with fail
 generalize w.alloc (.cells #[.pointer (some ⟨G,0,none⟩),.int .u64 o.se,.int .u8 o.ow,.int .u8 o.sl,.int .u8 o.bu,.int .i64 o.lf,.int .i64 o.nu,.int .i64 o.de,.int .u8 tk,.int .u8 pt,.int .i64 want,.int .i64 most] 183)=W at *
 refine region_ghost (by kernel_rfl) (fun g:Nat→Nat=>[(filV (some ⟨G,0,none⟩) o tk pt want most),(.func (.func 171) #[(filV (some ⟨G,0,none⟩) o tk pt want most)] #[]),(filV (some ⟨G,0,none⟩) o tk pt want most),(.func (.func 172) #[(filV (some ⟨G,0,none⟩) o tk pt want most)] #[]),(.slice (some ⟨g 4,0,none⟩) 2 2),(.int .i64 (leastN 1099511627776 [most,m2])),(.pointer (some ⟨w.heap.size,1,none⟩)),(.pointer (some ⟨w.heap.size,6,none⟩)),(.agg #[.int .i64 o.nu,.int .i64 o.de]),(.int .i64 (fitN (leastN 1099511627776 [most,m2]) o.nu o.de)),(.int .i64 (fitN (leastN 1099511627776 [most,m2]) o.nu o.de))])
  (Lays W [(⟨4,4,(.cells #[(.func (.func 171) #[(filV (some ⟨G,0,none⟩) o tk pt want most)] #[]),(.func (.func 172) #[(filV (some ⟨G,0,none⟩) o tk pt want most)] #[])] 185),(.cells #[(.func (.func 171) #[(filV (some ⟨G,0,none⟩) o tk pt want most)] #[]),(.func (.func 172) #[(filV (some ⟨G,0,none⟩) o tk pt want most)] #[])] 185)⟩:Spec)]) (by kernel_rfl) (fun _=>0) (Lays.start _ _ _) ?_
 intro AF hAF
 simp only [List.toList_toArray,puts,Act.put,List.getD_cons_zero,List.getD_cons_succ,List.setIfInBounds_toArray,List.set_cons_succ,List.set_cons_zero] at hAF
 have hAF2:_=AF:=funext hAF
 subst hAF2
 clear hAF
 refine ⟨?_,?_⟩
 ·simp only [List.toList_toArray,EachG]
  refine ⟨?_,?_,?_,?_,?_,?_,?_,?_,?_,?_,?_,trivial⟩
  ·intro g D w' hD hW hC hI
   refine ⟨g,fun _ _ _=>rfl,?_⟩
   with_reducible refine OpTo.plain ?_ ?_
   exact rfl
   have hS:=hI.below
   have hl0:=Nat.lt_of_lt_of_le KX.out.lt hS.size
   have d0_0:=(KX.out.below hS KX.out.lt).cell 0
   have d0_1:=(KX.out.below hS KX.out.lt).cell 1
   have d0_2:=(KX.out.below hS KX.out.lt).cell 2
   have d0_3:=(KX.out.below hS KX.out.lt).cell 3
   have d0_4:=(KX.out.below hS KX.out.lt).cell 4
   have d0_5:=(KX.out.below hS KX.out.lt).cell 5
   have d0_6:=(KX.out.below hS KX.out.lt).cell 6
   have d0_7:=(KX.out.below hS KX.out.lt).cell 7
   have d0_8:=(KX.out.below hS KX.out.lt).cell 8
   have d0_9:=(KX.out.below hS KX.out.lt).cell 9
   have d0_10:=(KX.out.below hS KX.out.lt).cell 10
   have d0_11:=(KX.out.below hS KX.out.lt).cell 11
   simp at d0_0 d0_1 d0_2 d0_3 d0_4 d0_5 d0_6 d0_7 d0_8 d0_9 d0_10 d0_11
   have HS:=Lib.hid (hI.step (Below.refl _ _) (k:=0) (by rfl))
   clear hI hS hC hW hD
   go_wp2_with fail
   all_goals first | exact HS.out | exact ⟨rfl,HS.out⟩ | rfl
  ·intro g D w' hD hW hC hI
   refine ⟨g,fun _ _ _=>rfl,?_⟩
   with_reducible refine OpTo.plain ?_ ?_
   exact rfl
   have hS:=hI.below
   have HS:=Lib.hid (hI.step (Below.refl _ _) (k:=1) (by rfl))
   clear hI hS hC hW hD
   go_wp2_with fail
   all_goals first | exact HS.out | exact ⟨rfl,HS.out⟩ | rfl
  ·intro g D w' hD hW hC hI
   refine ⟨g,fun _ _ _=>rfl,?_⟩
   with_reducible refine OpTo.plain ?_ ?_
   exact rfl
   have hS:=hI.below
   have hl0:=Nat.lt_of_lt_of_le KX.out.lt hS.size
   have d0_0:=(KX.out.below hS KX.out.lt).cell 0
   have d0_1:=(KX.out.below hS KX.out.lt).cell 1
   have d0_2:=(KX.out.below hS KX.out.lt).cell 2
   have d0_3:=(KX.out.below hS KX.out.lt).cell 3
   have d0_4:=(KX.out.below hS KX.out.lt).cell 4
   have d0_5:=(KX.out.below hS KX.out.lt).cell 5
   have d0_6:=(KX.out.below hS KX.out.lt).cell 6
   have d0_7:=(KX.out.below hS KX.out.lt).cell 7
   have d0_8:=(KX.out.below hS KX.out.lt).cell 8
   have d0_9:=(KX.out.below hS KX.out.lt).cell 9
   have d0_10:=(KX.out.below hS KX.out.lt).cell 10
   have d0_11:=(KX.out.below hS KX.out.lt).cell 11
   simp at d0_0 d0_1 d0_2 d0_3 d0_4 d0_5 d0_6 d0_7 d0_8 d0_9 d0_10 d0_11
   have HS:=Lib.hid (hI.step (Below.refl _ _) (k:=2) (by rfl))
   clear hI hS hC hW hD
   go_wp2_with fail
   all_goals first | exact HS.out | exact ⟨rfl,HS.out⟩ | rfl
  ·intro g D w' hD hW hC hI
   refine ⟨g,fun _ _ _=>rfl,?_⟩
   with_reducible refine OpTo.plain ?_ ?_
   exact rfl
   have hS:=hI.below
   have HS:=Lib.hid (hI.step (Below.refl _ _) (k:=3) (by rfl))
   clear hI hS hC hW hD
   go_wp2_with fail
   all_goals first | exact HS.out | exact ⟨rfl,HS.out⟩ | rfl
  ·intro g D w' hD hW hC hI
   refine ⟨upd g 4 w'.heap.size,vals_upd _ (fun g:Nat→Nat=>[(filV (some ⟨G,0,none⟩) o tk pt want most),(.func (.func 171) #[(filV (some ⟨G,0,none⟩) o tk pt want most)] #[]),(filV (some ⟨G,0,none⟩) o tk pt want most),(.func (.func 172) #[(filV (some ⟨G,0,none⟩) o tk pt want most)] #[]),(.slice (some ⟨g 4,0,none⟩) 2 2),(.int .i64 (leastN 1099511627776 [most,m2])),(.pointer (some ⟨w.heap.size,1,none⟩)),(.pointer (some ⟨w.heap.size,6,none⟩)),(.agg #[.int .i64 o.nu,.int .i64 o.de]),(.int .i64 (fitN (leastN 1099511627776 [most,m2]) o.nu o.de)),(.int .i64 (fitN (leastN 1099511627776 [most,m2]) o.nu o.de))]) g 4 _ 12 hC hD ?_,?_⟩
   ·intro j hj
    match j,hj with
    | 0,_=>exact .inr rfl
    | 1,_=>exact .inr rfl
    | 2,_=>exact .inr rfl
    | 3,_=>exact .inr rfl
    | 4,_=>exact .inl (.inl rfl)
    | 5,_=>exact .inr rfl
    | 6,_=>exact .inr rfl
    | 7,_=>exact .inr rfl
    | 8,_=>exact .inr rfl
    | 9,_=>exact .inr rfl
    | 10,_=>exact .inr rfl
    | j + 11,_=>exact .inr rfl
   with_reducible refine OpTo.plain ?_ ?_
   exact rfl
   have HS:=Lib.hid (hI.lay (⟨4,4,(.cells #[(.func (.func 171) #[(filV (some ⟨G,0,none⟩) o tk pt want most)] #[]),(.func (.func 172) #[(filV (some ⟨G,0,none⟩) o tk pt want most)] #[])] 185),(.cells #[(.func (.func 171) #[(filV (some ⟨G,0,none⟩) o tk pt want most)] #[]),(.func (.func 172) #[(filV (some ⟨G,0,none⟩) o tk pt want most)] #[])] 185)⟩:Spec) (by simp) (by rfl) (.inl rfl) (by rfl) (fun s' hs' _=>List.mem_singleton.1 hs') (.cells #[(.func (.func 171) #[(filV (some ⟨G,0,none⟩) o tk pt want most)] #[]),(.func (.func 172) #[(filV (some ⟨G,0,none⟩) o tk pt want most)] #[])] 185) rfl)
   clear hI hC hW hD
   go_wp2_with fail
   all_goals first | exact HS.out | exact ⟨rfl,HS.out⟩ | rfl
  ·intro g D w' hD hW hC hI
   refine ⟨g,fun _ _ _=>rfl,?_⟩
   with_reducible refine OpTo.plain ?_ ?_
   exact rfl
   have hS:=hI.below
   have HI:=Lib.hid hI
   have HC:=Lib.hid (least_any (bs:=[(171,most),(172,m2)]) (rv:=(filV (some ⟨G,0,none⟩) o tk pt want most)) (show Blk w' (g 4) (List.map (bndV (filV (some ⟨G,0,none⟩) o tk pt want most)) [(171,most),(172,m2)]).toArray 185 from (hI.full (⟨4,4,(.cells #[(.func (.func 171) #[(filV (some ⟨G,0,none⟩) o tk pt want most)] #[]),(.func (.func 172) #[(filV (some ⟨G,0,none⟩) o tk pt want most)] #[])] 185),(.cells #[(.func (.func 171) #[(filV (some ⟨G,0,none⟩) o tk pt want most)] #[]),(.func (.func 172) #[(filV (some ⟨G,0,none⟩) o tk pt want most)] #[])] 185)⟩:Spec) (by simp) (waited_done hC hW (d:=12) (by kernel_rfl)) (waited_done hC hW (d:=12) (by kernel_rfl))).2) (by intro b hb; simp only [List.mem_cons,List.not_mem_nil,or_false] at hb; rcases hb with rfl | rfl; exact HA.out.below hS; exact HBo.out.below hS) (by intro b hb; simp only [List.mem_cons,List.not_mem_nil,or_false] at hb; rcases hb with rfl | rfl; exact H64a.out; exact H64b.out) (by simp))
   clear hI hS hC hW hD
   go_wp2_with fail
   refine HC.out.mono ?_
   rintro e w'' ⟨rfl,hb2⟩
   exact ⟨rfl,HI.out.step hb2 (by rfl)⟩
  ·intro g D w' hD hW hC hI
   refine ⟨g,fun _ _ _=>rfl,?_⟩
   with_reducible refine OpTo.plain ?_ ?_
   exact rfl
   have hS:=hI.below
   have HS:=Lib.hid (hI.step (Below.refl _ _) (k:=6) (by rfl))
   clear hI hS hC hW hD
   go_wp2_with fail
   all_goals first | exact HS.out | exact ⟨rfl,HS.out⟩ | rfl
  ·intro g D w' hD hW hC hI
   refine ⟨g,fun _ _ _=>rfl,?_⟩
   with_reducible refine OpTo.plain ?_ ?_
   exact rfl
   have hS:=hI.below
   have HS:=Lib.hid (hI.step (Below.refl _ _) (k:=7) (by rfl))
   clear hI hS hC hW hD
   go_wp2_with fail
   all_goals first | exact HS.out | exact ⟨rfl,HS.out⟩ | rfl
  ·intro g D w' hD hW hC hI
   refine ⟨g,fun _ _ _=>rfl,?_⟩
   with_reducible refine OpTo.plain ?_ ?_
   exact rfl
   have hS:=hI.below
   have hl0:=Nat.lt_of_lt_of_le KX.out.lt hS.size
   have d0_0:=(KX.out.below hS KX.out.lt).cell 0
   have d0_1:=(KX.out.below hS KX.out.lt).cell 1
   have d0_2:=(KX.out.below hS KX.out.lt).cell 2
   have d0_3:=(KX.out.below hS KX.out.lt).cell 3
   have d0_4:=(KX.out.below hS KX.out.lt).cell 4
   have d0_5:=(KX.out.below hS KX.out.lt).cell 5
   have d0_6:=(KX.out.below hS KX.out.lt).cell 6
   have d0_7:=(KX.out.below hS KX.out.lt).cell 7
   have d0_8:=(KX.out.below hS KX.out.lt).cell 8
   have d0_9:=(KX.out.below hS KX.out.lt).cell 9
   have d0_10:=(KX.out.below hS KX.out.lt).cell 10
   have d0_11:=(KX.out.below hS KX.out.lt).cell 11
   simp at d0_0 d0_1 d0_2 d0_3 d0_4 d0_5 d0_6 d0_7 d0_8 d0_9 d0_10 d0_11
   have HS:=Lib.hid (hI.step (Below.refl _ _) (k:=8) (by rfl))
   clear hI hS hC hW hD
   go_wp2_with fail
   all_goals first | exact HS.out | exact ⟨rfl,HS.out⟩ | rfl
  ·intro g D w' hD hW hC hI
   refine ⟨g,fun _ _ _=>rfl,?_⟩
   with_reducible refine OpTo.plain ?_ ?_
   exact rfl
   have hS:=hI.below
   have HI:=Lib.hid hI
   have HC:=Lib.hid (fits_any (leastN 1099511627776 [most,m2]) o.nu o.de w' H64l.out HF.out.nu HF.out.de)
   clear hI hS hC hW hD
   go_wp2_with fail
   refine HC.out.mono ?_
   rintro e w'' ⟨rfl,hb2⟩
   exact ⟨rfl,HI.out.step hb2 (by rfl)⟩
  ·intro g D w' hD hW hC hI
   refine ⟨g,fun _ _ _=>rfl,?_⟩
   with_reducible refine OpTo.plain ?_ ?_
   exact rfl
   have hS:=hI.below
   have HS:=Lib.hid (hI.step (Below.refl _ _) (k:=10) (by rfl))
   clear hI hS hC hW hD
   go_wp2_with fail
   all_goals first | exact HS.out | exact ⟨rfl,HS.out⟩ | rfl
 ·intro g D w' hall hI
  have B1:=Lib.hid (B.out.trans (hI.below.mono B.out.size))
  clear hall hI
  go_wp2_with fail
  go_ret
  exact ⟨rfl,B1.out⟩
end Go.Proofs.YtojbmnbphdcjfaaGreat
namespace Go.Proofs.YtojbmnbphdcjfaaGreat
open Go.RowKit
set_option maxHeartbeats 4000000 in
set_option maxRecDepth 100000 in
theorem fmay_any {w:World} {lp:Option Addr} {e0:Int} {has:Int→Bool} (h:Answers w lp e0 has) (o:Of) (tk pt want most:Int) :
  Calls Tryz.prog 117 #[filV lp o tk pt want most] w fun e w'=>e=.returned (.bool (!(tk==o.ow) && has tk && has pt && has o.ow))∧Below w.heap.size w w':=by
 have bw:=(Below.refl w.heap.size w).alloc (Nat.le_refl _) (.cells (filC lp o tk pt want most) 183)
 have C1:=Lib.hid (h.has _ bw tk)
 have C2:=Lib.hid (h.has _ bw pt)
 have C3:=Lib.hid (h.has _ bw o.ow)
 have B:=Lib.hid bw
 clear bw h
 unfold filV
 generalize has tk=x at *
 generalize has pt=y at *
 generalize has o.ow=z at *
 have hneq:(tk != o.ow)=!(tk==o.ow):=rfl
 obtain ⟨q,hq⟩:∃ q,(tk==o.ow)=q:=⟨_,rfl⟩
 rw [hq] at hneq ⊢
 clear hq
 cases q
 ·cases x
  ·go_enter Tryz.func117,Tryz.ntmps117
   go_wp2_with fail
   refine C1.out.mono ?_
   rintro e w1 ⟨rfl,rfl⟩
   go_wp2_with fail
   go_ret
   exact ⟨rfl,B.out⟩
  ·cases y
   ·go_enter Tryz.func117,Tryz.ntmps117
    go_wp2_with fail
    refine C1.out.mono ?_
    rintro e w1 ⟨rfl,rfl⟩
    go_wp2_with fail
    refine C2.out.mono ?_
    rintro e w1 ⟨rfl,rfl⟩
    go_wp2_with fail
    go_ret
    exact ⟨rfl,B.out⟩
   ·go_enter Tryz.func117,Tryz.ntmps117
    go_wp2_with fail
    refine C1.out.mono ?_
    rintro e w1 ⟨rfl,rfl⟩
    go_wp2_with fail
    refine C2.out.mono ?_
    rintro e w1 ⟨rfl,rfl⟩
    go_wp2_with fail
    refine C3.out.mono ?_
    rintro e w1 ⟨rfl,rfl⟩
    go_wp2_with fail
    go_ret
    exact ⟨rfl,B.out⟩
 ·go_enter Tryz.func117,Tryz.ntmps117
  go_wp2_with fail
  go_ret
  exact ⟨rfl,B.out⟩
set_option maxHeartbeats 4000000 in
theorem hmade_any {w:World} {lp bp:Option Addr} {e0 N:Int} {has:Int→Bool} (h:Answers w lp e0 has) (hn:∀ w',Below w.heap.size w w'→Calls Tryz.prog 72 #[.pointer bp] w' fun e w''=>e=.returned (.int .u64 N)∧w'=w'') :
  Calls Tryz.prog 125 #[.agg #[.pointer lp,.pointer bp]] w fun e w'=>e=.returned (.bool (!(e0==2) && !(N==0)))∧Below w.heap.size w w':=by
 have bw:=(Below.refl w.heap.size w).alloc (Nat.le_refl _) (.cells #[.pointer lp,.pointer bp] 32)
 have C1:=Lib.hid (h.open0 _ bw)
 have C2:=Lib.hid (hn _ bw)
 have B:=Lib.hid bw
 clear bw h hn
 have hneq:(e0 != 2)=!(e0==2):=rfl
 obtain ⟨q,hq⟩:∃ q,(e0==2)=q:=⟨_,rfl⟩
 rw [hq] at hneq ⊢
 clear hq
 cases q
 ·have hneN:(N != 0)=!(N==0):=rfl
  obtain ⟨r,hr⟩:∃ r,(N==0)=r:=⟨_,rfl⟩
  rw [hr] at hneN ⊢
  clear hr
  go_enter Tryz.func125,Tryz.ntmps125
  go_wp2_with fail
  refine C1.out.mono ?_
  rintro e w1 ⟨rfl,rfl⟩
  go_wp2_with fail
  refine C2.out.mono ?_
  rintro e w1 ⟨rfl,rfl⟩
  go_wp2_with fail
  go_ret
  exact ⟨rfl,B.out⟩
 ·go_enter Tryz.func125,Tryz.ntmps125
  go_wp2_with fail
  refine C1.out.mono ?_
  rintro e w1 ⟨rfl,rfl⟩
  go_wp2_with fail
  go_ret
  exact ⟨rfl,B.out⟩
theorem fitN_zero (nu de:Int):fitN 0 nu de=0:=by
 unfold fitN
 split
 ·rw [Int.zero_mul,Int.zero_ediv]; rfl
 ·rfl
theorem leastN_no {n v:Int} {vs:List Int} (h:min n v<1):leastN n (v::vs)=0:=if_pos h
theorem leastN_go {n v:Int} {vs:List Int} (h:¬ min n v<1):leastN n (v::vs)=leastN (min n v) vs:=if_neg h
theorem least4 {a b c d:Int} (hb:1≤b∧b≤1099511627776) (hc:0≤c) (hd:0≤d):leastN 1099511627776 [a,b,c,d]=if a<1 then 0 else min (min (min a b) c) d:=by
 by_cases h1:min 1099511627776 a<1
 ·rw [leastN_no h1,if_pos (by omega)]
 ·rw [leastN_go h1,if_neg (by omega)]
  rw [leastN_go (by omega)]
  by_cases h3:min (min (min 1099511627776 a) b) c<1
  ·rw [leastN_no h3]; omega
  ·rw [leastN_go h3]
   by_cases h4:min (min (min (min 1099511627776 a) b) c) d<1
   ·rw [leastN_no h4]; omega
   ·rw [leastN_go h4,leastN]; omega
theorem least2 {a b:Int} (hb:0≤b):leastN 1099511627776 [a,b]=if a<1 then 0 else min (min a 1099511627776) b:=by
 by_cases h1:min 1099511627776 a<1
 ·rw [leastN_no h1,if_pos (by omega)]
 ·rw [leastN_go h1,if_neg (by omega)]
  by_cases h3:min (min 1099511627776 a) b<1
  ·rw [leastN_no h3]; omega
  ·rw [leastN_go h3,leastN]; omega
theorem least_may {o:Of} {ps:List Int} {tk pt want most m1 m2:Int} (hr:o.ow≠tk∧o.ow ∈ ps∧tk ∈ ps∧pt ∈ ps) (hl:1≤o.lf∧o.lf≤1099511627776) (h1:0≤m1) (h2:0≤m2) :
  leastN 1099511627776 [want,o.lf,(if pt=o.ow then 1099511627776 else m1),fitN (leastN 1099511627776 [most,m2]) o.nu o.de]=mayO o ps tk pt want most m1 m2:=by
 obtain ⟨r1,r2,r3,r4⟩:=hr
 rw [least4 hl (by split <;> omega) fitN_nn,least2 h2]
 unfold mayO
 by_cases hw:want<1
 ·rw [if_pos hw,if_pos (show o.ow=tk∨o.ow ∉ ps∨tk ∉ ps∨pt ∉ ps∨want<1∨most<1 from .inr (.inr (.inr (.inr (.inl hw)))))]
 ·rw [if_neg hw]
  by_cases hm:most<1
  ·rw [if_pos hm,if_pos (show o.ow=tk∨o.ow ∉ ps∨tk ∉ ps∨pt ∉ ps∨want<1∨most<1 from .inr (.inr (.inr (.inr (.inr hm))))),fitN_zero]
   by_cases hp:pt=o.ow
   ·rw [if_pos hp]; omega
   ·rw [if_neg hp]; omega
  ·rw [if_neg hm,if_neg (show ¬ (o.ow=tk∨o.ow ∉ ps∨tk ∉ ps∨pt ∉ ps∨want<1∨most<1) from fun h=>by
    rcases h with h | h | h | h | h | h
    ·exact r1 h
    ·exact h r2
    ·exact h r3
    ·exact h r4
    ·exact hw h
    ·exact hm h)]
   by_cases hp:pt=o.ow
   ·rw [if_pos hp,if_pos hp]; omega
   ·rw [if_neg hp,if_neg hp]
set_option maxHeartbeats 8000000 in
set_option maxRecDepth 100000 in
theorem hmay_none {w:World} {lp bp:Option Addr} {s:Int} (hf:∀ w',Below w.heap.size w w'→Calls Tryz.prog 24 #[.pointer bp,.int .u64 s] w' fun e w''=>e=.returned (.tuple #[noOf.val,.bool false])∧Below w'.heap.size w' w'') (tk pt want most:Int) :
  Calls Tryz.prog 65 #[.agg #[.pointer lp,.pointer bp],.int .u64 s,.int .u8 tk,.int .u8 pt,.int .i64 want,.int .i64 most] w fun e w'=>e=.returned (.int .i64 0)∧Below w.heap.size w w':=by
 have bw:=(Below.refl w.heap.size w).alloc (Nat.le_refl _) (.cells #[.pointer lp,.pointer bp] 32)
 have CF:=Lib.hid (hf _ bw)
 have KX:=Lib.hid (Blk.new w #[.pointer lp,.pointer bp] 32)
 have B0:=Lib.hid bw
 clear bw hf
 unfold noOf Of.val at CF
 dsimp only at CF
 go_enter Tryz.func65,Tryz.ntmps65
 go_wp2_with fail
 generalize w.alloc (.cells #[.pointer lp,.pointer bp] 32)=W at *
 refine CF.out.mono ?_
 rintro e w1 ⟨rfl,b1⟩
 have KX1:=Lib.hid (KX.out.below b1 KX.out.lt)
 have B1:=Lib.hid (B0.out.trans (b1.mono B0.out.size))
 clear b1 KX B0 CF
 have e0:=KX1.out.cell 0; have e1:=KX1.out.cell 1
 have kx:=KX1.out.lt
 simp at e0 e1
 go_wp2_with fail
 go_ret
 refine ⟨rfl,B1.out.trans ?_⟩
 exact ((Below.alloc ((Below.refl w1.heap.size w1).alloc (Nat.le_refl _) _) (by simp) _)).mono B1.out.size
set_option maxHeartbeats 16000000 in
set_option maxRecDepth 100000 in
theorem hmay_any (HM:MostProg):FMayProg:=by
 intro w base G M gb ps ls l N vb hL hI hP hJ s tk pt want most m1 m2 hs ht hto hw hmo hG
 cases hf:findO l s with
 | none =>
  have e:mayV l ps s tk pt want most m1 m2=0:=by unfold mayV; rw [hf]
  rw [e]
  refine hmay_none (fun w' k=>?_) tk pt want most
  have:=pfind_any (hP.below k) hJ.n1 s
  rw [hf] at this
  exact this
 | some o =>
  have bw:=(Below.refl w.heap.size w).alloc (Nat.le_refl _) (.cells #[.pointer (some ⟨G,0,none⟩),.pointer (some ⟨gb,0,none⟩)] 32)
  have CF:=Lib.hid (pfind_any (hP.below bw) hJ.n1 s)
  rw [hf] at CF
  have KX:=Lib.hid (Blk.new w #[.pointer (some ⟨G,0,none⟩),.pointer (some ⟨gb,0,none⟩)] 32)
  have B0:=Lib.hid bw
  have L0:=Lib.hid (hL.below bw)
  have II:=Lib.hid hI
  have HGo:=Lib.hid (hG o hf)
  have hmem:=(findO_mem hf).1
  have HF:=Lib.hid (hJ.fits hmem)
  have MY:=Lib.hid (hJ.may o hmem)
  obtain ⟨R,hR⟩:∃ R,mayV l ps s tk pt want most m1 m2=R:=⟨_,rfl⟩
  rw [hR]
  have EV:Hid (R=mayO o ps tk pt want most m1 m2):=Lib.hid (by rw [← hR]; unfold mayV; rw [hf])
  clear hR
  have HT:=Lib.hid ht
  have HTo:=Lib.hid hto
  have HW:=Lib.hid hw
  have HMo:=Lib.hid hmo
  have HMP:=Lib.hid HM
  clear bw hL hI hP hJ hs ht hto hw hmo hG hf hmem HM
  unfold foundV Of.val at CF
  dsimp only at CF
  go_enter Tryz.func65,Tryz.ntmps65
  go_wp2_with fail
  generalize w.alloc (.cells #[.pointer (some ⟨G,0,none⟩),.pointer (some ⟨gb,0,none⟩)] 32)=W at *
  refine CF.out.mono ?_
  rintro e w1 ⟨rfl,b1⟩
  have KX1:=Lib.hid (KX.out.below b1 KX.out.lt)
  have B1:=Lib.hid (B0.out.trans (b1.mono B0.out.size))
  have L1:=Lib.hid (L0.out.below b1)
  clear b1 KX B0 CF L0
  have e0:=KX1.out.cell 0; have e1:=KX1.out.cell 1
  have kx:=KX1.out.lt
  simp at e0 e1
  have ba:=(Below.refl w1.heap.size w1).alloc (Nat.le_refl _) (.cells #[.int .u64 o.se,.int .u8 o.ow,.int .u8 o.sl,.int .u8 o.bu,.int .i64 o.lf,.int .i64 o.nu,.int .i64 o.de] 76)
  have KF0:=Lib.hid (Blk.newAt (w1.alloc (.cells #[.int .u64 o.se,.int .u8 o.ow,.int .u8 o.sl,.int .u8 o.bu,.int .i64 o.lf,.int .i64 o.nu,.int .i64 o.de] 76)) (filC (some ⟨G,0,none⟩) o tk pt want most) 183 (g:=w1.heap.size + 1) (by simp))
  have bb:=ba.alloc (by simp) (.cells (filC (some ⟨G,0,none⟩) o tk pt want most) 183)
  have L2:=Lib.hid (L1.out.below bb)
  have B2:=Lib.hid (B1.out.trans (bb.mono B1.out.size))
  have CM:=Lib.hid (fmay_any (answers_led L2.out II.out) o tk pt want most)
  clear ba bb L1
  go_wp2_with fail
  generalize (w1.alloc (.cells #[.int .u64 o.se,.int .u8 o.ow,.int .u8 o.sl,.int .u8 o.bu,.int .i64 o.lf,.int .i64 o.nu,.int .i64 o.de] 76)).alloc (.cells #[.pointer (some ⟨G,0,none⟩),.int .u64 o.se,.int .u8 o.ow,.int .u8 o.sl,.int .u8 o.bu,.int .i64 o.lf,.int .i64 o.nu,.int .i64 o.de,.int .u8 tk,.int .u8 pt,.int .i64 want,.int .i64 most] 183)=W2 at *
  clear e0 e1 kx
  obtain ⟨r,hr⟩:∃ r,(!(tk==o.ow) && decide (tk ∈ ps) && decide (pt ∈ ps) && decide (o.ow ∈ ps))=r:=⟨_,rfl⟩
  rw [hr] at CM
  cases r
  ·have EZ:Hid (R=0):=Lib.hid (by
    rw [EV.out]
    unfold mayO
    rw [if_pos]
    by_cases c1:o.ow=tk
    ·exact .inl c1
    by_cases c2:o.ow ∈ ps
    ·by_cases c3:tk ∈ ps
     ·by_cases c4:pt ∈ ps
      ·have c5:¬ tk=o.ow:=fun h=>c1 h.symm
       simp [c2,c3,c4,c5] at hr
      ·exact .inr (.inr (.inr (.inl c4)))
     ·exact .inr (.inr (.inl c3))
    ·exact .inr (.inl c2))
   clear hr EV
   refine CM.out.mono ?_
   rintro e w3 ⟨rfl,b3⟩
   have B3:=Lib.hid (B2.out.trans (b3.mono B2.out.size))
   clear b3
   go_wp2_with fail
   go_ret
   exact ⟨by rw [EZ.out]; rfl,B3.out⟩
  ·have hok:o.ow≠tk∧o.ow ∈ ps∧tk ∈ ps∧pt ∈ ps:=by
    simp only [Bool.and_eq_true,Bool.not_eq_true',decide_eq_true_eq,beq_eq_false_iff_ne,ne_eq] at hr
    obtain ⟨⟨⟨h1,h2⟩,h3⟩,h4⟩:=hr
    exact ⟨fun h=>h1 h.symm,h4,h2,h3⟩
   have hb:=HGo.out.bd II.out
   have EM:=Lib.hid (EV.out.trans (least_may (want:=want) (most:=most) hok MY.out.2.2.2.2.1 hb.1.1 hb.2.1).symm)
   have HS1:Hid (In64 (if pt=o.ow then 1099511627776 else m1)):=Lib.hid (by split <;> exact ⟨by omega,by omega⟩)
   have HL1:Hid (In64 (leastN 1099511627776 [most,m2])):=Lib.hid (leastN_bd _ (by omega) (by omega) (by intro v hv; simp only [List.mem_cons,List.not_mem_nil,or_false] at hv; rcases hv with rfl | rfl; exact HMo.out.1; omega))
   have HFt:Hid (In64 (fitN (leastN 1099511627776 [most,m2]) o.nu o.de)):=Lib.hid (by
    have h0:=fitN_nn (g:=leastN 1099511627776 [most,m2]) (nu:=o.nu) (de:=o.de)
    refine ⟨by omega,?_⟩
    unfold fitN
    split <;> omega)
   clear hr EV hok hb
   refine CM.out.mono ?_
   rintro e w3 ⟨rfl,b3⟩
   have KF3:=Lib.hid (KF0.out.below b3 KF0.out.lt)
   have L3:=Lib.hid (L2.out.below b3)
   have B3:=Lib.hid (B2.out.trans (b3.mono B2.out.size))
   clear b3 KF0 L2 B2 CM
   have d0:=KF3.out.cell 0; have d1:=KF3.out.cell 1; have d2:=KF3.out.cell 2; have d3:=KF3.out.cell 3; have d4:=KF3.out.cell 4; have d5:=KF3.out.cell 5
   have d6:=KF3.out.cell 6; have d7:=KF3.out.cell 7; have d8:=KF3.out.cell 8; have d9:=KF3.out.cell 9; have d10:=KF3.out.cell 10; have d11:=KF3.out.cell 11
   have kf:=KF3.out.lt
   simp at d0 d1 d2 d3 d4 d5 d6 d7 d8 d9 d10 d11
   have HB1:Hid (Bnd w3 (filV (some ⟨G,0,none⟩) o tk pt want most) (119,want)):=Lib.hid ⟨enters_of Tryz.func119 (by kernel_rfl) rfl,fun w' k=>fwanted_any _ o tk pt want most w'⟩
   have HB2:Hid (Bnd w3 (filV (some ⟨G,0,none⟩) o tk pt want most) (120,o.lf)):=Lib.hid ⟨enters_of Tryz.func120 (by kernel_rfl) rfl,fun w' k=>fleft_any _ o tk pt want most w'⟩
   have HB3:Hid (Bnd w3 (filV (some ⟨G,0,none⟩) o tk pt want most) (121,if pt=o.ow then 1099511627776 else m1)):=Lib.hid ⟨enters_of Tryz.func121 (by kernel_rfl) rfl,fun w' k=>fsold_any HMP.out (L3.out.below k) II.out HF.out tk pt want most HTo.out HGo.out⟩
   have HB4:Hid (Bnd w3 (filV (some ⟨G,0,none⟩) o tk pt want most) (122,fitN (leastN 1099511627776 [most,m2]) o.nu o.de)):=Lib.hid ⟨enters_of Tryz.func122 (by kernel_rfl) rfl,fun w' k=>ffits_any HMP.out (L3.out.below k) II.out HF.out tk pt want most HT.out HMo.out HGo.out⟩
   have bk:=(Below.refl w3.heap.size w3).alloc (Nat.le_refl _) (.cells #[.func (.func 119) #[filV (some ⟨G,0,none⟩) o tk pt want most] #[],.func (.func 120) #[filV (some ⟨G,0,none⟩) o tk pt want most] #[],.func (.func 121) #[filV (some ⟨G,0,none⟩) o tk pt want most] #[],.func (.func 122) #[filV (some ⟨G,0,none⟩) o tk pt want most] #[]] 185)
   have kk:=Blk.new w3 #[.func (.func 119) #[filV (some ⟨G,0,none⟩) o tk pt want most] #[],.func (.func 120) #[filV (some ⟨G,0,none⟩) o tk pt want most] #[],.func (.func 121) #[filV (some ⟨G,0,none⟩) o tk pt want most] #[],.func (.func 122) #[filV (some ⟨G,0,none⟩) o tk pt want most] #[]] 185
   have CL:=Lib.hid (least_any (bs:=[(119,want),(120,o.lf),(121,if pt=o.ow then 1099511627776 else m1),(122,fitN (leastN 1099511627776 [most,m2]) o.nu o.de)]) (rv:=filV (some ⟨G,0,none⟩) o tk pt want most) kk
    (by intro b hb; simp only [List.mem_cons,List.not_mem_nil,or_false] at hb; rcases hb with rfl | rfl | rfl | rfl; exact HB1.out.below bk; exact HB2.out.below bk; exact HB3.out.below bk; exact HB4.out.below bk)
    (by intro b hb; simp only [List.mem_cons,List.not_mem_nil,or_false] at hb; rcases hb with rfl | rfl | rfl | rfl; exact HW.out; exact HF.out.lf; exact HS1.out; exact HFt.out) (by simp))
   have B4:=Lib.hid (B3.out.trans (bk.mono B3.out.size))
   rw [show List.map (fun x:Nat × Int=>x.2) [(119,want),(120,o.lf),(121,if pt=o.ow then 1099511627776 else m1),(122,fitN (leastN 1099511627776 [most,m2]) o.nu o.de)]=[want,o.lf,if pt=o.ow then 1099511627776 else m1,fitN (leastN 1099511627776 [most,m2]) o.nu o.de] from rfl,← EM.out] at CL
   clear bk kk HB1 HB2 HB3 HB4
   go_wp2_with fail
   refine CL.out.mono ?_
   rintro e w4 ⟨rfl,b4⟩
   have B5:=Lib.hid (B4.out.trans (b4.mono B4.out.size))
   clear b4 d0 d1 d2 d3 d4 d5 d6 d7 d8 d9 d10 d11 kf
   go_wp2_with fail
   go_ret
   exact ⟨rfl,B5.out⟩
end Go.Proofs.YtojbmnbphdcjfaaGreat
namespace Go.Proofs.YtojbmnbphdcjfaaGreat
open Go.RowKit
theorem blk_ne {w:World} {g h:Nat} {cs ds:Array Value} {t u:TypeId} (a:Blk w g cs t) (b:Blk w h ds u) (hn:t≠u):g≠h:=by
 rintro rfl
 have e:=a.out
 rw [b.out] at e
 simp only [Option.some.injEq,Obj.cells.injEq] at e
 exact hn e.2.1.symm
theorem RefL.apart {w:World} {base r G M:Nat} {ps ps':List Int} {ls ls':List Ln} {vp vl:Value} (hL:LedM w G M ps ls) (hR:RefL w base r ps' ls' vp vl) :
  (r≠G∧r≠M)∧(∀ b,vp.ownBlock=some b→b≠G∧b≠M∧b≠r)∧(∀ b,vl.ownBlock=some b→b≠G∧b≠M∧b≠r):=by
 refine ⟨⟨blk_ne hR.blk hL.blk (by decide),fun e=>hL.map.ne_blk hR.blk e.symm⟩,fun b hb=>?_,fun b hb=>?_⟩
 ·obtain ⟨_,_,cur,hc⟩:=owns_type hR.p hb
  have hbk:Blk w b cur 39:=hc
  exact ⟨blk_ne hbk hL.blk (by decide),fun e=>hL.map.ne_blk hbk e.symm,blk_ne hbk hR.blk (by decide)⟩
 ·obtain ⟨_,_,cur,hc⟩:=owns_type hR.l hb
  have hbk:Blk w b cur 112:=hc
  exact ⟨blk_ne hbk hL.blk (by decide),fun e=>hL.map.ne_blk hbk e.symm,blk_ne hbk hR.blk (by decide)⟩
def Trio (G M r:Nat) (b:Nat):Prop:=b=G∨b=M∨b=r
structure Both (W:World) (G M base r X:Nat) (xs:Array Value) (ps P:List Int) (ls L:List Ln) (c1 c2:Nat) (D:Nat→Bool) (w:World):Prop where
 keep:Keep (Trio G M r) W w
 x:Blk w X xs 92
 led:LedM w G M (cond (D c1) P ps) (cond (D c1) L ls)
 ref:∃ vp vl,RefL w base r (cond (D c2) P ps) (cond (D c2) L ls) vp vl
theorem Both.two {W w w':World} {G M base r X:Nat} {xs:Array Value} {ps P:List Int} {ls L:List Ln} {c1 c2:Nat} {D:Nat→Bool} (h:Both W G M base r X xs ps P ls L c1 c2 D w) (hc:c1≠c2) (hl:∃ vp vl,RefL w' base r P L vp vl) (hk:Keep (·=r) w w'):Both W G M base r X xs ps P ls L c1 c2 (ins c2 D) w':=by
 obtain ⟨vp,vl,hr⟩:=h.ref
 obtain ⟨⟨a1,a2⟩,a3,a4⟩:=RefL.apart h.led hr
 have e1:ins c2 D c1=D c1:=by simp [ins,hc]
 have e2:ins c2 D c2=true:=by simp [ins]
 refine ⟨h.keep.trans (hk.mono fun b _ hb=>.inr (.inr hb)),h.x.keep hk (fun e=>blk_ne h.x hr.blk (by decide) e),?_,by rw [e2]; exact hl⟩
 rw [e1]
 exact h.led.keep hk (fun e=>a1 e.symm) (fun e=>a2 e.symm)
end Go.Proofs.YtojbmnbphdcjfaaGreat
