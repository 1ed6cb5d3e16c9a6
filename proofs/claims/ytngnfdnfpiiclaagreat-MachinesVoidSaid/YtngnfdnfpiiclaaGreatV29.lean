/-
  Pieces of one proof, without what is not wanted: PSwap5, SwapFacts, NSort.
-/
import Derived.Test.YtngnfdnfpiiclaaGreatV01
import Derived.Test.YtngnfdnfpiiclaaGreatV05
import Derived.Test.YtngnfdnfpiiclaaGreatV07
import Derived.Test.YtngnfdnfpiiclaaGreatV16
import Derived.Test.YtngnfdnfpiiclaaGreatV18
import Derived.Test.YtngnfdnfpiiclaaGreatV22
import Derived.Test.YtngnfdnfpiiclaaGreatV28
import Derived.Defers
import Derived.BigQuiet
import Derived.StillTailTactics
import Derived.WalkMore
import Derived.ScopeJumps
import Derived.Laws.EntriesVeiled
import Derived.Shelf.Abstract
import Derived.Shelf.SlSortCmp.NoneTotal
set_option linter.unusedSimpArgs false
set_option linter.unusedVariables false
namespace Go.Proofs.YtngnfdnfpiiclaaGreat
open Go.RowKit
theorem PB.down5 {w:World} {base base' g:Nat} {l:List Of} {N:Int} {vl:Value} (h:PB w base g l N vl) (hb:base'≤base):PB w base' g l N vl:=⟨h.blk,Nat.le_trans hb h.ge,owns_base h.row hb⟩
theorem swap1_ok {w:World} {cE cA cL:Nat} {u:FrameMode} (hE:Blk w cE #[.int .i64 0] 33) :
  CallsD Tryz.prog 196 #[.pointer (some ⟨cE,0,none⟩),.pointer (some ⟨cA,0,none⟩),.pointer (some ⟨cL,0,none⟩)] u w fun e u' w'=>u'=u∧(e=.returned (.tuple #[])∧w'=w):=by
 have e0:=hE.cell 0
 have el:=hE.lt
 simp at e0
 clear hE
 go_enter_d Tryz.func196,Tryz.ntmps196
 go_wp2_with fail
 go_end0
 exact ⟨rfl,rfl⟩
theorem swap1_bad {w:World} {cE cA cL:Nat} {u:FrameMode} {er:Int} {x y v:Value} (hE:Blk w cE #[.int .i64 er] 33) (hA:Blk w cA #[x,y] 80) (hL:Blk w cL #[v] 235) (hAL:cA≠cL) (he:(er != 0)=true) :
  CallsD Tryz.prog 196 #[.pointer (some ⟨cE,0,none⟩),.pointer (some ⟨cA,0,none⟩),.pointer (some ⟨cL,0,none⟩)] u w fun e u' w'=>u'=u∧(e=.returned (.tuple #[])∧w'=(w.setRow cA #[.pointer none,.pointer none]).setCell ⟨cL,0,none⟩ (.slice none 0 0)):=by
 have e0:=hE.cell 0
 have el:=hE.lt
 simp at e0
 have KA:=Lib.hid hA
 have L2:Blk (w.setRow cA #[.pointer none,.pointer none]) cL #[v] 235:=hL.keep (below_keepRow (w:=w) cA #[.pointer none,.pointer none]) (fun h=>hAL h.symm)
 have l0:=L2.cell 0
 have ll:=L2.lt
 have lf:=L2.frozen 0
 simp at l0
 clear hE hA hL hAL L2
 go_enter_d Tryz.func196,Tryz.ntmps196
 go_wp2_with (refine wpList_store_whole rfl 80 (.tmp 1) (.tmp 5) rfl cA #[.pointer none,.pointer none] rfl rfl 80 _ KA.out.out (by kernel_rfl) rfl (by simp [Value.oneCell']) ?_)
 go_end0
 exact ⟨rfl,rfl⟩
def SwapNo (w:World) (er:Int) (e:Ending) (w':World):Prop:=e=.returned (.tuple #[.agg #[.pointer none,.pointer none],.slice none 0 0,.int .i64 er])∧Below w.heap.size w w'
structure SwR (w:World) (g:Nat) (x y a:Option Addr) (k c:Nat) (e:Int):Prop where
 af:Blk w (g + 1) #[.pointer x,.pointer y] 80
 al:Blk w (g + 2) #[.slice a k c] 235
 er:Blk w (g + 3) #[.int .i64 e] 33
theorem SwR.keep {S:Nat→Prop} {w w':World} {g:Nat} {x y a:Option Addr} {k c:Nat} {er:Int} (h:SwR w g x y a k c er) (q:Keep S w w') (hS:∀ j,g<j→j<g + 4→¬ S j):SwR w' g x y a k c er :=
 ⟨h.af.keep q (hS _ (by omega) (by omega)),h.al.keep q (hS _ (by omega) (by omega)),h.er.keep q (hS _ (by omega) (by omega))⟩
theorem SwR.below {w w':World} {g:Nat} {x y a:Option Addr} {k c:Nat} {er:Int} (h:SwR w g x y a k c er) (q:Below w.heap.size w w'):SwR w' g x y a k c er:=h.keep (Keep.of_below (S:=fun _=>False) q) (fun _ _ _ h=>h)
theorem SwR.belowB {w w':World} {B g:Nat} {x y a:Option Addr} {k c:Nat} {er:Int} (h:SwR w g x y a k c er) (q:Below B w w') (hB:g + 3<B):SwR w' g x y a k c er:=⟨h.af.below q (by omega),h.al.below q (by omega),h.er.below q (by omega)⟩
theorem SwR.drew {w:World} {g:Nat} {x y a:Option Addr} {k c:Nat} {er:Int} (h:SwR w g x y a k c er):SwR w.drew g x y a k c er:=⟨h.af,h.al,h.er⟩
theorem SwR.stA {w:World} {g:Nat} {x y a:Option Addr} {k c:Nat} {er:Int} (h:SwR w g x y a k c er) (x' y':Option Addr):SwR (w.setRow (g + 1) #[.pointer x',.pointer y']) g x' y' a k c er :=
 ⟨setRow_heap _ (g + 1) _ _ _ (0,0) h.af,h.al.keep (below_keepRow (w:=w) (g + 1) _) (by omega),h.er.keep (below_keepRow (w:=w) (g + 1) _) (by omega)⟩
theorem SwR.stL {w:World} {g:Nat} {x y a:Option Addr} {k c:Nat} {er:Int} (h:SwR w g x y a k c er) (a':Option Addr) (k' c':Nat):SwR (w.setCell ⟨g + 2,0,none⟩ (.slice a' k' c')) g x y a' k' c' er :=
 ⟨h.af.setOther (by show ¬ g + 1=g + 2; omega) _,h.al.set 0 _,h.er.setOther (by show ¬ g + 3=g + 2; omega) _⟩
theorem SwR.stE {w:World} {g:Nat} {x y a:Option Addr} {k c:Nat} {er:Int} (h:SwR w g x y a k c er) (er':Int):SwR (w.setCell ⟨g + 3,0,none⟩ (.int .i64 er')) g x y a k c er' :=
 ⟨h.af.setOther (by show ¬ g + 1=g + 3; omega) _,h.al.setOther (by show ¬ g + 2=g + 3; omega) _,h.er.set 0 _⟩
abbrev SwK (g:Nat) (W w':World):Prop:=Keep (fun j=>g<j∧j<g + 4) W w'
theorem SwK.stA {W w:World} {g:Nat} (h:SwK g W w) (cs:Array Value):SwK g W (w.setRow (g + 1) cs):=Keep.trans h ((below_keepRow (w:=w) (g + 1) cs).mono (fun j _ e=>by omega))
theorem SwK.st {W w:World} {g:Nat} (h:SwK g W w) (j:Nat) (hj:g<j∧j<g + 4) (v:Value):SwK g W (w.setCell ⟨j,0,none⟩ v):=Keep.setCell h (.inl hj) v
theorem results_cells3 {tmps:Array Value} {w:World} {g:Nat} {x y a:Option Addr} {k c:Nat} {er:Int} (h1:tmps[14]? = some (.pointer (some ⟨g + 1,0,none⟩))) (h2:tmps[15]? = some (.pointer (some ⟨g + 2,0,none⟩))) (h3:tmps[16]? = some (.pointer (some ⟨g + 3,0,none⟩))) (h:SwR w g x y a k c er) :
  (results Tryz.f154 tmps).run Tryz.prog w=.ok (.tuple #[.agg #[.pointer x,.pointer y],.slice a k c,.int .i64 er]) w:=by
 have a0:=h.af.cell 0; have a1:=h.af.cell 1; have l0:=h.al.cell 0; have e0:=h.er.cell 0
 simp at a0 a1 l0 e0
 simp [results,Tryz.results154,go_sem,h1,h2,h3,a0,a1,l0,e0]
theorem swap_door_bad {tmps:Array Value} {w:World} {g:Nat} {x y a:Option Addr} {k c:Nat} {er:Int} {R:Ending→World→Prop} (h1:tmps[14]? = some (.pointer (some ⟨g + 1,0,none⟩))) (h2:tmps[15]? = some (.pointer (some ⟨g + 2,0,none⟩))) (h3:tmps[16]? = some (.pointer (some ⟨g + 3,0,none⟩))) (h:SwR w g x y a k c er) (he:(er != 0)=true)
  (hR:R (.returned (.tuple #[.agg #[.pointer none,.pointer none],.slice none 0 0,.int .i64 er])) ((w.setRow (g + 1) #[.pointer none,.pointer none]).setCell ⟨g + 2,0,none⟩ (.slice none 0 0))) :
  Leaves Tryz.prog Tryz.f154 tmps R [{ target:=.fn (.func 196) #[.pointer (some ⟨g + 3,0,none⟩),.pointer (some ⟨g + 1,0,none⟩),.pointer (some ⟨g + 2,0,none⟩)],args:=#[] }] .returning w:=by
 refine leaves_cons (f:=196) (args:=#[.pointer (some ⟨g + 3,0,none⟩),.pointer (some ⟨g + 1,0,none⟩),.pointer (some ⟨g + 2,0,none⟩)]) (by simp) (by simp [go_sem]) ?_
 refine (swap1_bad h.er h.af h.al (by omega) he).mono ?_
 rintro e u' w' ⟨rfl,rfl,rfl⟩
 exact ⟨_,results_cells3 h1 h2 h3 ((h.stA none none).stL none 0 0),hR⟩
theorem swap_door_ok {tmps:Array Value} {w:World} {g:Nat} {x y a:Option Addr} {k c:Nat} {R:Ending→World→Prop} (h1:tmps[14]? = some (.pointer (some ⟨g + 1,0,none⟩))) (h2:tmps[15]? = some (.pointer (some ⟨g + 2,0,none⟩))) (h3:tmps[16]? = some (.pointer (some ⟨g + 3,0,none⟩))) (h:SwR w g x y a k c 0)
  (hR:R (.returned (.tuple #[.agg #[.pointer x,.pointer y],.slice a k c,.int .i64 0])) w) :
  Leaves Tryz.prog Tryz.f154 tmps R [{ target:=.fn (.func 196) #[.pointer (some ⟨g + 3,0,none⟩),.pointer (some ⟨g + 1,0,none⟩),.pointer (some ⟨g + 2,0,none⟩)],args:=#[] }] .returning w:=by
 refine leaves_cons (f:=196) (args:=#[.pointer (some ⟨g + 3,0,none⟩),.pointer (some ⟨g + 1,0,none⟩),.pointer (some ⟨g + 2,0,none⟩)]) (by simp) (by simp [go_sem]) ?_
 refine (swap1_ok h.er).mono ?_
 rintro e u' w' ⟨rfl,rfl,rfl⟩
 exact ⟨_,results_cells3 h1 h2 h3 h,hR⟩
theorem swap_rest {B:Nat} {w0 w:World} (h:Below B w0 w) {g:Nat} (hg:B≤g):Below B w0 ((w.setRow (g + 1) #[.pointer none,.pointer none]).setCell ⟨g + 2,0,none⟩ (.slice none 0 0)):=(below_setRow h (by omega) _).setCell (p:=⟨g + 2,0,none⟩) (by show B≤g + 2; omega) _
set_option maxHeartbeats 8000000 in
set_option maxRecDepth 100000 in
theorem pswap_void {w:World} {a b:Option Addr} (fr pt get give n most:Int) (h:∀ w',Below w.heap.size w w'→Calls Tryz.prog 232 #[.agg #[.pointer a,.pointer b]] w' fun e w''=>e=.returned (.bool false)∧Below w'.heap.size w' w'') :
  Calls Tryz.prog 154 #[.agg #[.pointer a,.pointer b],.int .u8 fr,.int .u8 pt,.int .u8 get,.int .u8 give,.int .i64 n,.int .i64 most] w (SwapNo w 2):=by
 have b1:=(Below.refl w.heap.size w).alloc (Nat.le_refl _) (.cells #[.pointer a,.pointer b] 80)
 have b2:=b1.alloc b1.size (.cells #[.pointer none,.pointer none] 80)
 have b3:=b2.alloc b2.size (.cells #[.slice none 0 0] 235)
 have b4:=b3.alloc b3.size (.cells #[.int .i64 0] 33)
 have b5:=b4.alloc b4.size (.cells #[.int .u8 fr,.int .u8 pt,.int .u8 get,.int .u8 give,.int .i64 n,.int .i64 most] 289)
 have KH:=Lib.hid (((((Blk.new w #[.pointer a,.pointer b] 80).alloc (.cells #[.pointer none,.pointer none] 80)).alloc (.cells #[.slice none 0 0] 235)).alloc (.cells #[.int .i64 0] 33)).alloc (.cells #[.int .u8 fr,.int .u8 pt,.int .u8 get,.int .u8 give,.int .i64 n,.int .i64 most] 289))
 have KS:=Lib.hid (Blk.newAt ((((w.alloc (.cells #[.pointer a,.pointer b] 80)).alloc (.cells #[.pointer none,.pointer none] 80)).alloc (.cells #[.slice none 0 0] 235)).alloc (.cells #[.int .i64 0] 33)) #[.int .u8 fr,.int .u8 pt,.int .u8 get,.int .u8 give,.int .i64 n,.int .i64 most] 289 (g:=w.heap.size + 4) (by simp))
 have RR:Hid (SwR (((((w.alloc (.cells #[.pointer a,.pointer b] 80)).alloc (.cells #[.pointer none,.pointer none] 80)).alloc (.cells #[.slice none 0 0] 235)).alloc (.cells #[.int .i64 0] 33)).alloc (.cells #[.int .u8 fr,.int .u8 pt,.int .u8 get,.int .u8 give,.int .i64 n,.int .i64 most] 289)) w.heap.size none none none 0 0 0):=Lib.hid ⟨(((Blk.newAt (w.alloc (.cells #[.pointer a,.pointer b] 80)) #[.pointer none,.pointer none] 80 (g:=w.heap.size + 1) (by simp)).alloc (.cells #[.slice none 0 0] 235)).alloc (.cells #[.int .i64 0] 33)).alloc (.cells #[.int .u8 fr,.int .u8 pt,.int .u8 get,.int .u8 give,.int .i64 n,.int .i64 most] 289),
  ((Blk.newAt ((w.alloc (.cells #[.pointer a,.pointer b] 80)).alloc (.cells #[.pointer none,.pointer none] 80)) #[.slice none 0 0] 235 (g:=w.heap.size + 2) (by simp)).alloc (.cells #[.int .i64 0] 33)).alloc (.cells #[.int .u8 fr,.int .u8 pt,.int .u8 get,.int .u8 give,.int .i64 n,.int .i64 most] 289),
  (Blk.newAt (((w.alloc (.cells #[.pointer a,.pointer b] 80)).alloc (.cells #[.pointer none,.pointer none] 80)).alloc (.cells #[.slice none 0 0] 235)) #[.int .i64 0] 33 (g:=w.heap.size + 3) (by simp)).alloc (.cells #[.int .u8 fr,.int .u8 pt,.int .u8 get,.int .u8 give,.int .i64 n,.int .i64 most] 289)⟩
 have B:=Lib.hid b5
 have CW:=Lib.hid (swrong_void fr pt get give n most (fun w' k=>h w' (andB b5 k)))
 clear b1 b2 b3 b4 b5 h
 have hmf:∀ (fn:Fn) (first cap:Array Value) (w:World),(Instr.makeFunc fn first cap).run Tryz.prog w=.ok (.func fn first cap) w:=fun _ _ _ _=>rfl
 generalize hW:((((w.alloc (.cells #[.pointer a,.pointer b] 80)).alloc (.cells #[.pointer none,.pointer none] 80)).alloc (.cells #[.slice none 0 0] 235)).alloc (.cells #[.int .i64 0] 33)).alloc (.cells #[.int .u8 fr,.int .u8 pt,.int .u8 get,.int .u8 give,.int .i64 n,.int .i64 most] 289)=W at *
 have HW:=Lib.hid hW
 clear hW
 have h0:=KH.out.cell 0; have h1:=KH.out.cell 1
 have hl:=KH.out.lt
 have s0:=KS.out.cell 0; have s1:=KS.out.cell 1; have s2:=KS.out.cell 2; have s3:=KS.out.cell 3; have s4:=KS.out.cell 4; have s5:=KS.out.cell 5
 have sl:=KS.out.lt
 simp at h0 h1 s0 s1 s2 s3 s4 s5
 go_enter_defers Tryz.func154,Tryz.ntmps154
 go_upto_region 3 with fail
 rw [HW.out]
 go_wp2_with fail
 refine CW.out.mono ?_
 rintro e w1 ⟨rfl,b1⟩
 have RR1:=Lib.hid (RR.out.below b1)
 have B1:=Lib.hid (B.out.trans (b1.mono B.out.size))
 clear b1 h0 h1 hl s0 s1 s2 s3 s4 s5 sl KH KS RR B CW
 have RRq:=Lib.hid (RR1.out.stE 2)
 have B2:=Lib.hid (B1.out.setCell (p:=⟨w.heap.size + 3,0,none⟩) (by show w.heap.size≤w.heap.size + 3; omega) (.int .i64 2))
 have x0:=RR1.out.er.cell 0
 have xl:=RR1.out.er.lt
 have fz:=RR1.out.er.frozen 0
 have y0:=RRq.out.er.cell 0
 simp at x0 y0
 generalize hW2:w1.setCell ⟨w.heap.size + 3,0,none⟩ (.int .i64 2)=W2 at *
 have HW2:=Lib.hid hW2
 clear hW2
 go_upto_region 4 with fail
 rw [HW2.out]
 go_wp2_with fail
 refine region_still (by kernel_rfl) [(.agg #[.pointer none,.pointer none]),(.slice none 0 0),(.int .i64 2),undef,undef,undef]
  (fun w'=>SwR w' w.heap.size none none none 0 0 2∧SwK w.heap.size W2 w') (by kernel_rfl) ⟨RRq.out.drew,(Keep.refl _ _).drew⟩ ?_
 intro af haf
 simp only [List.toList_toArray,List.append_eq,List.cons_append,List.nil_append,puts,Act.put,List.getD_cons_zero,List.getD_cons_succ,List.setIfInBounds_toArray,List.set_cons_succ,List.set_cons_zero] at haf
 subst haf
 refine ⟨?_,?_⟩
 ·simp only [List.toList_toArray,List.append_eq,List.cons_append,List.nil_append,EachTo]
  refine ⟨?_,?_,?_,?_,?_,?_,trivial⟩
  ·intro w' hS
   refine OpTo.plain ?_ ?_
   exact rfl
   have d0:=hS.1.af.cell 0; have d1:=hS.1.af.cell 1; have dl:=hS.1.af.lt; have dz:=hS.1.af.frozen 0
   simp at d0 d1
   have HS:=Lib.hid hS
   clear hS
   go_wp2_with fail
   all_goals first | exact HS.out | exact ⟨rfl,HS.out⟩ | rfl
  ·intro w' hS
   refine OpTo.plain ?_ ?_
   exact rfl
   have d0:=hS.1.al.cell 0; have dl:=hS.1.al.lt; have dz:=hS.1.al.frozen 0
   simp at d0
   have HS:=Lib.hid hS
   clear hS
   go_wp2_with fail
   all_goals first | exact HS.out | exact ⟨rfl,HS.out⟩ | rfl
  ·intro w' hS
   refine OpTo.plain ?_ ?_
   exact rfl
   have d0:=hS.1.er.cell 0; have dl:=hS.1.er.lt; have dz:=hS.1.er.frozen 0
   simp at d0
   have HS:=Lib.hid hS
   clear hS
   go_wp2_with fail
   all_goals first | exact HS.out | exact ⟨rfl,HS.out⟩ | rfl
  ·intro w' hS
   refine OpTo.plain ?_ ?_
   exact rfl
   have d0:=hS.1.af.cell 0; have d1:=hS.1.af.cell 1; have dl:=hS.1.af.lt; have dz:=hS.1.af.frozen 0
   simp at d0 d1
   have HS:=Lib.hid hS
   clear hS
   refine wp_store_row 80 (.tmp 14) (.tmp 31) rfl (w.heap.size + 1) #[.pointer none,.pointer none] rfl rfl 80 _ HS.out.1.af.out (by kernel_rfl) rfl (by simp [Value.oneCell']) ⟨rfl,?_⟩
   exact ⟨HS.out.1.stA _ _,SwK.stA HS.out.2 _⟩
  ·intro w' hS
   refine OpTo.plain ?_ ?_
   exact rfl
   have d0:=hS.1.al.cell 0; have dl:=hS.1.al.lt; have dz:=hS.1.al.frozen 0
   simp at d0
   have HS:=Lib.hid hS
   clear hS
   go_wp2_with fail
   exact ⟨HS.out.1.stL _ _ _,SwK.st HS.out.2 (w.heap.size + 2) (by omega) _⟩
  ·intro w' hS
   refine OpTo.plain ?_ ?_
   exact rfl
   have d0:=hS.1.er.cell 0; have dl:=hS.1.er.lt; have dz:=hS.1.er.frozen 0
   simp at d0
   have HS:=Lib.hid hS
   clear hS
   go_wp2_with fail
   exact ⟨HS.out.1.stE _,SwK.st HS.out.2 (w.heap.size + 3) (by omega) _⟩
 intro wq hq
 go_wp2_with fail
 refine swap_door_bad (g:=w.heap.size) rfl rfl rfl hq.1 (by first | assumption | decide) ?_
 exact ⟨rfl,swap_rest (B2.out.trans (hq.2.below B2.out.size (fun j hj h=>by omega))) (Nat.le_refl _)⟩
def PSwapPost (w:World) (ps:List Int) (ls:List Ln) (l:List Of) (N fr pt get give n most:Int) (e:Ending) (w':World):Prop :=
 (∃ er:Int,er≠0∧(swapF ps ls l fr pt get give n most).1=er∧SwapNo w er e w') ∨
 (∃ (G M gb:Nat) (vb:Value) (a:Option Addr) (c:Nat) (σ:SwS),swapF ps ls l fr pt get give n most=(0,σ)∧swMay fr pt get give n most∧e=.returned (.tuple #[.agg #[.pointer (some ⟨G,0,none⟩),.pointer (some ⟨gb,0,none⟩)],.slice a σ.fs.length c,.int .i64 0])∧LedM w' G M ps σ.ls∧PB w' w.heap.size gb σ.l N vb∧Rowed w' w.heap.size 241 5 (.slice a σ.fs.length c) σ.fs.length (flCells fr pt σ.fs) ∧
  w.heap.size≤G∧w.heap.size≤M∧Below w.heap.size w w')
theorem swapF_wrong {ps:List Int} {ls:List Ln} {l:List Of} {fr pt get give n most er:Int} (h:wrongS ps fr pt get give n most=er) (he:er≠0):(swapF ps ls l fr pt get give n most).1=er:=by
 unfold wrongS at h
 unfold swapF
 by_cases h1:swMay fr pt get give n most
 ·rw [if_neg (fun q=>q h1)] at h ⊢
  by_cases h2:fr ∉ ps∨pt ∉ ps
  ·rw [if_pos h2] at h ⊢
   exact h
  ·rw [if_neg h2] at h
   exact absurd h.symm he
 ·rw [if_pos h1] at h ⊢
  exact h
theorem swapF_right {ps:List Int} {ls:List Ln} {l:List Of} {fr pt get give n most:Int} (h:wrongS ps fr pt get give n most=0):swMay fr pt get give n most∧swapF ps ls l fr pt get give n most=swapG ps fr pt get give most ⟨ls,l,[],n⟩:=by
 unfold wrongS at h
 unfold swapF
 by_cases h1:swMay fr pt get give n most
 ·rw [if_neg (fun q=>q h1)] at h ⊢
  by_cases h2:fr ∉ ps∨pt ∉ ps
  ·rw [if_pos h2] at h
   exact absurd h (by decide)
  ·rw [if_neg h2]
   exact ⟨h1,rfl⟩
 ·rw [if_pos h1] at h
  exact absurd h (by decide)
set_option maxHeartbeats 16000000 in
set_option maxRecDepth 100000 in
theorem pswap_any (HMy:FMayProg) (HD:FDoProg) (HCp:FCopyProg) {w:World} {base G M gb:Nat} {ps:List Int} {ls:List Ln} {l:List Of} {N:Int} {vb:Value} (hL:LedM w G M ps ls) (hI:LInv ps ls) (hP:PB w base gb l N vb) (hJ:BInv l N)
  (fr pt get give n most:Int) (hf:In8 fr) (ht:In8 pt) (hg:In8 get) (hv:In8 give) :
  Calls Tryz.prog 154 #[.agg #[.pointer (some ⟨G,0,none⟩),.pointer (some ⟨gb,0,none⟩)],.int .u8 fr,.int .u8 pt,.int .u8 get,.int .u8 give,.int .i64 n,.int .i64 most] w (PSwapPost w ps ls l N fr pt get give n most):=by
 have b1:=(Below.refl w.heap.size w).alloc (Nat.le_refl _) (.cells #[.pointer (some ⟨G,0,none⟩),.pointer (some ⟨gb,0,none⟩)] 80)
 have b2:=b1.alloc b1.size (.cells #[.pointer none,.pointer none] 80)
 have b3:=b2.alloc b2.size (.cells #[.slice none 0 0] 235)
 have b4:=b3.alloc b3.size (.cells #[.int .i64 0] 33)
 have b5:=b4.alloc b4.size (.cells #[.int .u8 fr,.int .u8 pt,.int .u8 get,.int .u8 give,.int .i64 n,.int .i64 most] 289)
 have KH:=Lib.hid (((((Blk.new w #[.pointer (some ⟨G,0,none⟩),.pointer (some ⟨gb,0,none⟩)] 80).alloc (.cells #[.pointer none,.pointer none] 80)).alloc (.cells #[.slice none 0 0] 235)).alloc (.cells #[.int .i64 0] 33)).alloc (.cells #[.int .u8 fr,.int .u8 pt,.int .u8 get,.int .u8 give,.int .i64 n,.int .i64 most] 289))
 have KS:=Lib.hid (Blk.newAt ((((w.alloc (.cells #[.pointer (some ⟨G,0,none⟩),.pointer (some ⟨gb,0,none⟩)] 80)).alloc (.cells #[.pointer none,.pointer none] 80)).alloc (.cells #[.slice none 0 0] 235)).alloc (.cells #[.int .i64 0] 33)) #[.int .u8 fr,.int .u8 pt,.int .u8 get,.int .u8 give,.int .i64 n,.int .i64 most] 289 (g:=w.heap.size + 4) (by simp))
 have RR:Hid (SwR (((((w.alloc (.cells #[.pointer (some ⟨G,0,none⟩),.pointer (some ⟨gb,0,none⟩)] 80)).alloc (.cells #[.pointer none,.pointer none] 80)).alloc (.cells #[.slice none 0 0] 235)).alloc (.cells #[.int .i64 0] 33)).alloc (.cells #[.int .u8 fr,.int .u8 pt,.int .u8 get,.int .u8 give,.int .i64 n,.int .i64 most] 289)) w.heap.size none none none 0 0 0):=Lib.hid ⟨(((Blk.newAt (w.alloc (.cells #[.pointer (some ⟨G,0,none⟩),.pointer (some ⟨gb,0,none⟩)] 80)) #[.pointer none,.pointer none] 80 (g:=w.heap.size + 1) (by simp)).alloc (.cells #[.slice none 0 0] 235)).alloc (.cells #[.int .i64 0] 33)).alloc (.cells #[.int .u8 fr,.int .u8 pt,.int .u8 get,.int .u8 give,.int .i64 n,.int .i64 most] 289),
  ((Blk.newAt ((w.alloc (.cells #[.pointer (some ⟨G,0,none⟩),.pointer (some ⟨gb,0,none⟩)] 80)).alloc (.cells #[.pointer none,.pointer none] 80)) #[.slice none 0 0] 235 (g:=w.heap.size + 2) (by simp)).alloc (.cells #[.int .i64 0] 33)).alloc (.cells #[.int .u8 fr,.int .u8 pt,.int .u8 get,.int .u8 give,.int .i64 n,.int .i64 most] 289),
  (Blk.newAt (((w.alloc (.cells #[.pointer (some ⟨G,0,none⟩),.pointer (some ⟨gb,0,none⟩)] 80)).alloc (.cells #[.pointer none,.pointer none] 80)).alloc (.cells #[.slice none 0 0] 235)) #[.int .i64 0] 33 (g:=w.heap.size + 3) (by simp)).alloc (.cells #[.int .u8 fr,.int .u8 pt,.int .u8 get,.int .u8 give,.int .i64 n,.int .i64 most] 289)⟩
 have B:=Lib.hid b5
 have CW:=Lib.hid (swrong_any HD (hL.below b5) hI (hP.below b5) hJ fr pt get give n most)
 have L5:=Lib.hid (hL.below b5)
 have P5:=Lib.hid (hP.below b5)
 have II:=Lib.hid hI
 have JJ:=Lib.hid hJ
 have HF:=Lib.hid hf
 have HTo:=Lib.hid ht
 have HGe:=Lib.hid hg
 have HGi:=Lib.hid hv
 obtain ⟨er,her⟩:∃ er,wrongS ps fr pt get give n most=er:=⟨_,rfl⟩
 rw [her] at CW
 have HER:=Lib.hid her
 have GE:=Lib.hid (show G<w.heap.size∧M<w.heap.size∧∀ b,Foot gb vb b→b<w.heap.size from ⟨hL.blk.lt,hL.map.lt,fun b hb=>(hP.lt hb).2⟩)
 clear b1 b2 b3 b4 b5 hL hI hP hJ hf ht hg hv her
 have hmf:∀ (fn:Fn) (first cap:Array Value) (w:World),(Instr.makeFunc fn first cap).run Tryz.prog w=.ok (.func fn first cap) w:=fun _ _ _ _=>rfl
 generalize hW:((((w.alloc (.cells #[.pointer (some ⟨G,0,none⟩),.pointer (some ⟨gb,0,none⟩)] 80)).alloc (.cells #[.pointer none,.pointer none] 80)).alloc (.cells #[.slice none 0 0] 235)).alloc (.cells #[.int .i64 0] 33)).alloc (.cells #[.int .u8 fr,.int .u8 pt,.int .u8 get,.int .u8 give,.int .i64 n,.int .i64 most] 289)=W at *
 have HW:=Lib.hid hW
 clear hW
 have h0:=KH.out.cell 0; have h1:=KH.out.cell 1
 have hl:=KH.out.lt
 have s0:=KS.out.cell 0; have s1:=KS.out.cell 1; have s2:=KS.out.cell 2; have s3:=KS.out.cell 3; have s4:=KS.out.cell 4; have s5:=KS.out.cell 5
 have sl:=KS.out.lt
 simp at h0 h1 s0 s1 s2 s3 s4 s5
 go_enter_defers Tryz.func154,Tryz.ntmps154
 go_upto_region 3 with fail
 rw [HW.out]
 go_wp2_with fail
 refine CW.out.mono ?_
 rintro e w1 ⟨rfl,b1⟩
 have RR1:=Lib.hid (RR.out.below b1)
 have KH1:=Lib.hid (KH.out.below b1 KH.out.lt)
 have KS1:=Lib.hid (KS.out.below b1 KS.out.lt)
 have L1:=Lib.hid (L5.out.below b1)
 have P1:=Lib.hid (P5.out.below b1)
 have B1:=Lib.hid (B.out.trans (b1.mono B.out.size))
 clear b1 h0 h1 hl s0 s1 s2 s3 s4 s5 sl KH KS RR B CW L5 P5
 by_cases hz:er=0
 ·subst hz
  obtain ⟨hmay,heq⟩:=swapF_right (ls:=ls) (l:=l) HER.out
  have HMA:=Lib.hid hmay
  have EQ:=Lib.hid heq
  have RR2:=Lib.hid (RR1.out.stE 0)
  have kE:Keep (fun j=>j=w.heap.size + 3) w1 (w1.setCell ⟨w.heap.size + 3,0,none⟩ (.int .i64 0)):=Keep.setCell (S:=fun j=>j=w.heap.size + 3) (Keep.refl _ _) (p:=⟨w.heap.size + 3,0,none⟩) (.inl rfl) _
  have KH2:=Lib.hid (KH1.out.keep kE (by omega))
  have KS2:=Lib.hid (KS1.out.keep kE (by omega))
  have L2:=Lib.hid (L1.out.keep kE (by have:=GE.out; omega) (by have:=GE.out; omega))
  have P2:=Lib.hid (P1.out.keep kE (fun e=>by have:=GE.out.2.2 gb (.inl rfl); omega) (fun b hb e=>by have:=GE.out.2.2 b (.inr hb); omega))
  have B2:=Lib.hid (B1.out.setCell (p:=⟨w.heap.size + 3,0,none⟩) (by show w.heap.size≤w.heap.size + 3; omega) (.int .i64 0))
  have x0:=RR1.out.er.cell 0
  have xl:=RR1.out.er.lt
  have fz:=RR1.out.er.frozen 0
  have y0:=RR2.out.er.cell 0
  simp at x0 y0
  generalize hW2:w1.setCell ⟨w.heap.size + 3,0,none⟩ (.int .i64 0)=W2 at *
  have HW2:=Lib.hid hW2
  clear hW2 hmay heq kE KH1 KS1 L1 P1 RR1 B1
  go_upto_region 4 with fail
  rw [HW2.out]
  have h0:=KH2.out.cell 0; have h1:=KH2.out.cell 1
  have hl:=KH2.out.lt
  simp at h0 h1
  have CC:=Lib.hid (HCp L2.out II.out P2.out JJ.out)
  go_wp2_with fail
  refine CC.out.mono ?_
  rintro e wc ⟨G2,M2,gb2,vb2,rfl,hL3,hP3,hg,hm,b3⟩
  have RR3:=Lib.hid (RR2.out.below b3)
  have KS3:=Lib.hid (KS2.out.below b3 KS2.out.lt)
  have L3:=Lib.hid hL3
  have P3:=Lib.hid hP3
  have B3:=Lib.hid (B2.out.trans (b3.mono B2.out.size))
  have GE3:=Lib.hid (show W2.heap.size≤G2∧W2.heap.size≤M2∧W2.heap.size≤gb2∧(∀ b,vb2.ownBlock=some b→W2.heap.size≤b)∧w.heap.size + 4<W2.heap.size∧W2.heap.size≤wc.heap.size from ⟨hg,hm,hP3.ge,fun b hb=>(hP3.lt (.inr hb)).1,KS2.out.lt,b3.size⟩)
  clear hL3 hP3 hg hm b3 h0 h1 hl x0 xl fz y0 CC RR2 KS2 B2 L2 P2 KH2
  go_upto_region 7 with (refine wpList_store_whole rfl 80 (.tmp 14) (.tmp 35) rfl (w.heap.size + 1) #[.pointer (some ⟨G2,0,none⟩),.pointer (some ⟨gb2,0,none⟩)] rfl rfl 80 _ RR3.out.af.out (by kernel_rfl) rfl (by simp [Value.oneCell']) ?_)
  have kA:=below_keepRow (w:=wc) (w.heap.size + 1) #[.pointer (some ⟨G2,0,none⟩),.pointer (some ⟨gb2,0,none⟩)]
  have RR4:=Lib.hid (RR3.out.stA (some ⟨G2,0,none⟩) (some ⟨gb2,0,none⟩))
  have KS4:=Lib.hid (KS3.out.keep kA (by omega))
  have L4:=Lib.hid (L3.out.keep kA (by have:=GE3.out; omega) (by have:=GE3.out; omega))
  have P4:=Lib.hid (P3.out.keep kA (by have:=GE3.out; omega) (fun b hb e=>by have h1:=GE3.out.2.2.2.1 b hb; have h2:=GE3.out.2.2.2.2; omega))
  have B4:=Lib.hid (below_setRow B3.out (by omega:w.heap.size≤w.heap.size + 1) #[.pointer (some ⟨G2,0,none⟩),.pointer (some ⟨gb2,0,none⟩)])
  have HSZ:Hid ((wc.setRow (w.heap.size + 1) #[.pointer (some ⟨G2,0,none⟩),.pointer (some ⟨gb2,0,none⟩)]).heap.size=wc.heap.size):=Lib.hid (by simp [World.setRow])
  generalize hW4:wc.setRow (w.heap.size + 1) #[.pointer (some ⟨G2,0,none⟩),.pointer (some ⟨gb2,0,none⟩)]=W4 at *
  clear hW4 kA RR3 KS3 L3 P3 B3
  have s0:=KS4.out.cell 0; have s1:=KS4.out.cell 1; have s2:=KS4.out.cell 2; have s3:=KS4.out.cell 3; have s4:=KS4.out.cell 4; have s5:=KS4.out.cell 5
  have sl:=KS4.out.lt
  have a0:=RR4.out.af.cell 0; have a1:=RR4.out.af.cell 1
  have al:=RR4.out.af.lt
  simp at s0 s1 s2 s3 s4 s5 a0 a1
  have CF:=Lib.hid (pfill_any HMy HD (base:=W2.heap.size) L4.out II.out (P4.out.below (Below.refl _ _)) JJ.out (by have:=GE3.out; omega) (by have:=GE3.out; omega) (by have:=GE3.out; have:=HSZ.out; omega) fr pt get give n most HF.out HTo.out HGe.out HGi.out HMA.out.2.2.2.2.2.1 HMA.out.2.2.2.2.2.2)
  go_wp2_with fail
  refine CF.out.mono ?_
  rintro e wf hpf
  clear s0 s1 s2 s3 s4 s5 sl a0 a1 al CF KS4
  have DN:=Lib.hid (fun (a:Option Addr) (k c:Nat) (e':Int) (q:SwR wf w.heap.size (some ⟨G2,0,none⟩) (some ⟨gb2,0,none⟩) none 0 0 0)=>(q.stL a k c).stE e')
  rcases hpf with ⟨er,a,k,c,hne,her,rfl,bf⟩ | ⟨vb3,a,c,σ,heq,rfl,hL,hP,hR,bf⟩
  ·have NO:Hid ((swapF ps ls l fr pt get give n most).1=er):=Lib.hid (by rw [EQ.out]; exact her)
   have HNE:=Lib.hid hne
   have q0:(er != 0)=true:=by simpa using hne
   clear hne her
   have RRf:=Lib.hid (RR4.out.belowB bf (by have:=GE3.out; omega))
   have RRq:=Lib.hid (DN.out a k c er RRf.out)
   have HS4:W2.heap.size≤wf.heap.size:=Nat.le_trans (by have:=GE3.out; have:=HSZ.out; omega) bf.size
   have Bf:=Lib.hid (B4.out.trans (bf.mono (by have:=GE3.out; omega)))
   have Bq:=Lib.hid ((Bf.out.setCell (p:=⟨w.heap.size + 2,0,none⟩) (by show w.heap.size≤w.heap.size + 2; omega) (.slice a k c)).setCell (p:=⟨w.heap.size + 3,0,none⟩) (by show w.heap.size≤w.heap.size + 3; omega) (.int .i64 er))
   have kq:Keep (fun j=>w.heap.size<j∧j<w.heap.size + 4) wf ((wf.setCell ⟨w.heap.size + 2,0,none⟩ (.slice a k c)).setCell ⟨w.heap.size + 3,0,none⟩ (.int .i64 er)):=SwK.st (SwK.st (Keep.refl _ _) (w.heap.size + 2) (by omega) _) (w.heap.size + 3) (by omega) _
   have RR5:=(RRf.out.stL a k c)
   have x0:=RRf.out.al.cell 0; have x1:=RRf.out.er.cell 0
   have xl:=RRf.out.al.lt; have xm:=RRf.out.er.lt
   have f0:=RRf.out.al.frozen 0; have f1:=RRf.out.er.frozen 0
   have y1:=RR5.er.cell 0; have yl:=RR5.er.lt; have f2:=RR5.er.frozen 0
   simp at x0 x1 y1
   generalize hWq:((wf.setCell ⟨w.heap.size + 2,0,none⟩ (.slice a k c)).setCell ⟨w.heap.size + 3,0,none⟩ (.int .i64 er))=Wq at *
   have HWq:=Lib.hid hWq
   clear hWq RR5 kq
   go_upto_region 8 with fail
   rw [HWq.out]
   refine region_still (by kernel_rfl) [(.agg #[.pointer (some ⟨G2,0,none⟩),.pointer (some ⟨gb2,0,none⟩)]),(.slice a k c),(.int .i64 er),undef,undef,undef]
    (fun w'=>SwR w' w.heap.size (some ⟨G2,0,none⟩) (some ⟨gb2,0,none⟩) a k c er∧SwK w.heap.size Wq w') (by kernel_rfl) ⟨RRq.out.drew,(Keep.refl _ _).drew⟩ ?_
   intro af haf
   simp only [List.toList_toArray,List.append_eq,List.cons_append,List.nil_append,puts,Act.put,List.getD_cons_zero,List.getD_cons_succ,List.setIfInBounds_toArray,List.set_cons_succ,List.set_cons_zero] at haf
   subst haf
   refine ⟨?_,?_⟩
   ·simp only [List.toList_toArray,List.append_eq,List.cons_append,List.nil_append,EachTo]
    refine ⟨?_,?_,?_,?_,?_,?_,trivial⟩
    ·intro w' hS
     refine OpTo.plain ?_ ?_
     exact rfl
     have d0:=hS.1.af.cell 0; have d1:=hS.1.af.cell 1; have dl:=hS.1.af.lt; have dz:=hS.1.af.frozen 0
     simp at d0 d1
     have HS:=Lib.hid hS
     clear hS
     go_wp2_with fail
     all_goals first | exact HS.out | exact ⟨rfl,HS.out⟩ | rfl
    ·intro w' hS
     refine OpTo.plain ?_ ?_
     exact rfl
     have d0:=hS.1.al.cell 0; have dl:=hS.1.al.lt; have dz:=hS.1.al.frozen 0
     simp at d0
     have HS:=Lib.hid hS
     clear hS
     go_wp2_with fail
     all_goals first | exact HS.out | exact ⟨rfl,HS.out⟩ | rfl
    ·intro w' hS
     refine OpTo.plain ?_ ?_
     exact rfl
     have d0:=hS.1.er.cell 0; have dl:=hS.1.er.lt; have dz:=hS.1.er.frozen 0
     simp at d0
     have HS:=Lib.hid hS
     clear hS
     go_wp2_with fail
     all_goals first | exact HS.out | exact ⟨rfl,HS.out⟩ | rfl
    ·intro w' hS
     refine OpTo.plain ?_ ?_
     exact rfl
     have d0:=hS.1.af.cell 0; have d1:=hS.1.af.cell 1; have dl:=hS.1.af.lt; have dz:=hS.1.af.frozen 0
     simp at d0 d1
     have HS:=Lib.hid hS
     clear hS
     refine wp_store_row 80 (.tmp 14) (.tmp 42) rfl (w.heap.size + 1) #[.pointer (some ⟨G2,0,none⟩),.pointer (some ⟨gb2,0,none⟩)] rfl rfl 80 _ HS.out.1.af.out (by kernel_rfl) rfl (by simp [Value.oneCell']) ⟨rfl,?_⟩
     exact ⟨HS.out.1.stA _ _,SwK.stA HS.out.2 _⟩
    ·intro w' hS
     refine OpTo.plain ?_ ?_
     exact rfl
     have d0:=hS.1.al.cell 0; have dl:=hS.1.al.lt; have dz:=hS.1.al.frozen 0
     simp at d0
     have HS:=Lib.hid hS
     clear hS
     go_wp2_with fail
     exact ⟨HS.out.1.stL _ _ _,SwK.st HS.out.2 (w.heap.size + 2) (by omega) _⟩
    ·intro w' hS
     refine OpTo.plain ?_ ?_
     exact rfl
     have d0:=hS.1.er.cell 0; have dl:=hS.1.er.lt; have dz:=hS.1.er.frozen 0
     simp at d0
     have HS:=Lib.hid hS
     clear hS
     go_wp2_with fail
     exact ⟨HS.out.1.stE _,SwK.st HS.out.2 (w.heap.size + 3) (by omega) _⟩
   intro wq hq
   have BQ:=Lib.hid (Bq.out.trans (hq.2.below Bq.out.size (fun j hj h=>by omega)))
   go_wp2_with fail
   refine swap_door_bad (g:=w.heap.size) rfl rfl rfl hq.1 q0 ?_
   exact .inl ⟨er,HNE.out,NO.out,rfl,swap_rest BQ.out (Nat.le_refl _)⟩
  ·have YES:Hid (swapF ps ls l fr pt get give n most=(0,σ)):=Lib.hid (by rw [EQ.out]; exact heq)
   have RRf:=Lib.hid (RR4.out.belowB bf (by have:=GE3.out; omega))
   have RRq:=Lib.hid (DN.out a σ.fs.length c 0 RRf.out)
   have HS4:W2.heap.size≤wf.heap.size:=Nat.le_trans (by have:=GE3.out; have:=HSZ.out; omega) bf.size
   have Bf:=Lib.hid (B4.out.trans (bf.mono (by have:=GE3.out; omega)))
   have Bq:=Lib.hid ((Bf.out.setCell (p:=⟨w.heap.size + 2,0,none⟩) (by show w.heap.size≤w.heap.size + 2; omega) (.slice a σ.fs.length c)).setCell (p:=⟨w.heap.size + 3,0,none⟩) (by show w.heap.size≤w.heap.size + 3; omega) (.int .i64 0))
   have kq:Keep (fun j=>w.heap.size<j∧j<w.heap.size + 4) wf ((wf.setCell ⟨w.heap.size + 2,0,none⟩ (.slice a σ.fs.length c)).setCell ⟨w.heap.size + 3,0,none⟩ (.int .i64 0)):=SwK.st (SwK.st (Keep.refl _ _) (w.heap.size + 2) (by omega) _) (w.heap.size + 3) (by omega) _
   have RR5:=(RRf.out.stL a σ.fs.length c)
   have x0:=RRf.out.al.cell 0; have x1:=RRf.out.er.cell 0
   have xl:=RRf.out.al.lt; have xm:=RRf.out.er.lt
   have f0:=RRf.out.al.frozen 0; have f1:=RRf.out.er.frozen 0
   have y1:=RR5.er.cell 0; have yl:=RR5.er.lt; have f2:=RR5.er.frozen 0
   simp at x0 x1 y1
   have Lq:=Lib.hid (hL.keep kq (by have:=GE3.out; omega) (by have:=GE3.out; omega))
   have Pq:=Lib.hid (hP.keep kq (by have:=GE3.out; have:=hP.ge; omega) (fun b hb e=>by have h1:=(hP.lt (.inr hb)).1; have h2:=GE3.out; omega))
   have Rq:=Lib.hid (hR.keep kq (fun b hb e=>by have h1:=(hR.type hb).1; have h2:=GE3.out; have h3:=HSZ.out; omega))
   have HGE:=Lib.hid hP.ge
   clear hL hP hR heq
   generalize hWq:((wf.setCell ⟨w.heap.size + 2,0,none⟩ (.slice a σ.fs.length c)).setCell ⟨w.heap.size + 3,0,none⟩ (.int .i64 0))=Wq at *
   have HWq:=Lib.hid hWq
   clear hWq RR5 kq
   go_upto_region 8 with fail
   rw [HWq.out]
   refine region_still (by kernel_rfl) [(.agg #[.pointer (some ⟨G2,0,none⟩),.pointer (some ⟨gb2,0,none⟩)]),(.slice a σ.fs.length c),(.int .i64 0),undef,undef,undef]
    (fun w'=>SwR w' w.heap.size (some ⟨G2,0,none⟩) (some ⟨gb2,0,none⟩) a σ.fs.length c 0∧SwK w.heap.size Wq w') (by kernel_rfl) ⟨RRq.out.drew,(Keep.refl _ _).drew⟩ ?_
   intro af haf
   simp only [List.toList_toArray,List.append_eq,List.cons_append,List.nil_append,puts,Act.put,List.getD_cons_zero,List.getD_cons_succ,List.setIfInBounds_toArray,List.set_cons_succ,List.set_cons_zero] at haf
   subst haf
   refine ⟨?_,?_⟩
   ·simp only [List.toList_toArray,List.append_eq,List.cons_append,List.nil_append,EachTo]
    refine ⟨?_,?_,?_,?_,?_,?_,trivial⟩
    ·intro w' hS
     refine OpTo.plain ?_ ?_
     exact rfl
     have d0:=hS.1.af.cell 0; have d1:=hS.1.af.cell 1; have dl:=hS.1.af.lt; have dz:=hS.1.af.frozen 0
     simp at d0 d1
     have HS:=Lib.hid hS
     clear hS
     go_wp2_with fail
     all_goals first | exact HS.out | exact ⟨rfl,HS.out⟩ | rfl
    ·intro w' hS
     refine OpTo.plain ?_ ?_
     exact rfl
     have d0:=hS.1.al.cell 0; have dl:=hS.1.al.lt; have dz:=hS.1.al.frozen 0
     simp at d0
     have HS:=Lib.hid hS
     clear hS
     go_wp2_with fail
     all_goals first | exact HS.out | exact ⟨rfl,HS.out⟩ | rfl
    ·intro w' hS
     refine OpTo.plain ?_ ?_
     exact rfl
     have d0:=hS.1.er.cell 0; have dl:=hS.1.er.lt; have dz:=hS.1.er.frozen 0
     simp at d0
     have HS:=Lib.hid hS
     clear hS
     go_wp2_with fail
     all_goals first | exact HS.out | exact ⟨rfl,HS.out⟩ | rfl
    ·intro w' hS
     refine OpTo.plain ?_ ?_
     exact rfl
     have d0:=hS.1.af.cell 0; have d1:=hS.1.af.cell 1; have dl:=hS.1.af.lt; have dz:=hS.1.af.frozen 0
     simp at d0 d1
     have HS:=Lib.hid hS
     clear hS
     refine wp_store_row 80 (.tmp 14) (.tmp 42) rfl (w.heap.size + 1) #[.pointer (some ⟨G2,0,none⟩),.pointer (some ⟨gb2,0,none⟩)] rfl rfl 80 _ HS.out.1.af.out (by kernel_rfl) rfl (by simp [Value.oneCell']) ⟨rfl,?_⟩
     exact ⟨HS.out.1.stA _ _,SwK.stA HS.out.2 _⟩
    ·intro w' hS
     refine OpTo.plain ?_ ?_
     exact rfl
     have d0:=hS.1.al.cell 0; have dl:=hS.1.al.lt; have dz:=hS.1.al.frozen 0
     simp at d0
     have HS:=Lib.hid hS
     clear hS
     go_wp2_with fail
     exact ⟨HS.out.1.stL _ _ _,SwK.st HS.out.2 (w.heap.size + 2) (by omega) _⟩
    ·intro w' hS
     refine OpTo.plain ?_ ?_
     exact rfl
     have d0:=hS.1.er.cell 0; have dl:=hS.1.er.lt; have dz:=hS.1.er.frozen 0
     simp at d0
     have HS:=Lib.hid hS
     clear hS
     go_wp2_with fail
     exact ⟨HS.out.1.stE _,SwK.st HS.out.2 (w.heap.size + 3) (by omega) _⟩
   intro wq hq
   have BQ:=Lib.hid (Bq.out.trans (hq.2.below Bq.out.size (fun j hj h=>by omega)))
   go_wp2_with fail
   refine swap_door_ok (g:=w.heap.size) rfl rfl rfl hq.1 ?_
   refine .inr ⟨G2,M2,gb2,vb3,a,c,σ,YES.out,HMA.out,rfl,Lq.out.keep hq.2 (by have:=GE3.out; omega) (by have:=GE3.out; omega),?_,?_,by have:=GE3.out; omega,by have:=GE3.out; omega,BQ.out⟩
   ·have h2:=GE3.out
    refine PB.down5 (Pq.out.keep hq.2 (by omega) (fun b hb e=>by have h1:=(Pq.out.lt (.inr hb)).1; omega)) (by omega)
   ·have h2:=GE3.out
    have h3:=HSZ.out
    refine Rowed.base (Rq.out.keep hq.2 (fun b hb e=>by have h1:=(Rq.out.type hb).1; omega)) (by omega)
 ·have q0:(er != 0)=true:=by simpa using hz
  have NO:=Lib.hid (swapF_wrong (ls:=ls) (l:=l) HER.out hz)
  have HZ:=Lib.hid hz
  clear hz KH1 KS1 L1 P1
  have RRq:=Lib.hid (RR1.out.stE er)
  have B2:=Lib.hid (B1.out.setCell (p:=⟨w.heap.size + 3,0,none⟩) (by show w.heap.size≤w.heap.size + 3; omega) (.int .i64 er))
  have x0:=RR1.out.er.cell 0
  have xl:=RR1.out.er.lt
  have fz:=RR1.out.er.frozen 0
  have y0:=RRq.out.er.cell 0
  simp at x0 y0
  generalize hW2:w1.setCell ⟨w.heap.size + 3,0,none⟩ (.int .i64 er)=W2 at *
  have HW2:=Lib.hid hW2
  clear hW2
  go_upto_region 4 with fail
  rw [HW2.out]
  go_wp2_with fail
  refine region_still (by kernel_rfl) [(.agg #[.pointer none,.pointer none]),(.slice none 0 0),(.int .i64 er),undef,undef,undef]
   (fun w'=>SwR w' w.heap.size none none none 0 0 er∧SwK w.heap.size W2 w') (by kernel_rfl) ⟨RRq.out.drew,(Keep.refl _ _).drew⟩ ?_
  intro af haf
  simp only [List.toList_toArray,List.append_eq,List.cons_append,List.nil_append,puts,Act.put,List.getD_cons_zero,List.getD_cons_succ,List.setIfInBounds_toArray,List.set_cons_succ,List.set_cons_zero] at haf
  subst haf
  refine ⟨?_,?_⟩
  ·simp only [List.toList_toArray,List.append_eq,List.cons_append,List.nil_append,EachTo]
   refine ⟨?_,?_,?_,?_,?_,?_,trivial⟩
   ·intro w' hS
    refine OpTo.plain ?_ ?_
    exact rfl
    have d0:=hS.1.af.cell 0; have d1:=hS.1.af.cell 1; have dl:=hS.1.af.lt; have dz:=hS.1.af.frozen 0
    simp at d0 d1
    have HS:=Lib.hid hS
    clear hS
    go_wp2_with fail
    all_goals first | exact HS.out | exact ⟨rfl,HS.out⟩ | rfl
   ·intro w' hS
    refine OpTo.plain ?_ ?_
    exact rfl
    have d0:=hS.1.al.cell 0; have dl:=hS.1.al.lt; have dz:=hS.1.al.frozen 0
    simp at d0
    have HS:=Lib.hid hS
    clear hS
    go_wp2_with fail
    all_goals first | exact HS.out | exact ⟨rfl,HS.out⟩ | rfl
   ·intro w' hS
    refine OpTo.plain ?_ ?_
    exact rfl
    have d0:=hS.1.er.cell 0; have dl:=hS.1.er.lt; have dz:=hS.1.er.frozen 0
    simp at d0
    have HS:=Lib.hid hS
    clear hS
    go_wp2_with fail
    all_goals first | exact HS.out | exact ⟨rfl,HS.out⟩ | rfl
   ·intro w' hS
    refine OpTo.plain ?_ ?_
    exact rfl
    have d0:=hS.1.af.cell 0; have d1:=hS.1.af.cell 1; have dl:=hS.1.af.lt; have dz:=hS.1.af.frozen 0
    simp at d0 d1
    have HS:=Lib.hid hS
    clear hS
    refine wp_store_row 80 (.tmp 14) (.tmp 31) rfl (w.heap.size + 1) #[.pointer none,.pointer none] rfl rfl 80 _ HS.out.1.af.out (by kernel_rfl) rfl (by simp [Value.oneCell']) ⟨rfl,?_⟩
    exact ⟨HS.out.1.stA _ _,SwK.stA HS.out.2 _⟩
   ·intro w' hS
    refine OpTo.plain ?_ ?_
    exact rfl
    have d0:=hS.1.al.cell 0; have dl:=hS.1.al.lt; have dz:=hS.1.al.frozen 0
    simp at d0
    have HS:=Lib.hid hS
    clear hS
    go_wp2_with fail
    exact ⟨HS.out.1.stL _ _ _,SwK.st HS.out.2 (w.heap.size + 2) (by omega) _⟩
   ·intro w' hS
    refine OpTo.plain ?_ ?_
    exact rfl
    have d0:=hS.1.er.cell 0; have dl:=hS.1.er.lt; have dz:=hS.1.er.frozen 0
    simp at d0
    have HS:=Lib.hid hS
    clear hS
    go_wp2_with fail
    exact ⟨HS.out.1.stE _,SwK.st HS.out.2 (w.heap.size + 3) (by omega) _⟩
  intro wq hq
  go_wp2_with fail
  refine swap_door_bad (g:=w.heap.size) rfl rfl rfl hq.1 (by first | assumption | decide) ?_
  exact .inl ⟨er,HZ.out,NO.out,rfl,swap_rest (B2.out.trans (hq.2.below B2.out.size (fun j hj h=>by omega))) (Nat.le_refl _)⟩
end Go.Proofs.YtngnfdnfpiiclaaGreat
namespace Go.Proofs.YtngnfdnfpiiclaaGreat
theorem swapN_ind {ps:List Int} {tk pt get give:Int} (C:SwS→Prop) (hs:∀ σ s k,C σ→¬ σ.n≤0→firstS ps σ.ls σ.l tk pt σ.n 1099511627776 (bestO σ.l get give)=some (s,k)→¬ σ.fs.length=64→C (nextS ps tk pt σ s k)):∀ (fuel:Nat) {σ:SwS},C σ→C (swapN ps tk pt get give fuel σ).2
 | fuel,σ,h=>by
  by_cases hn:σ.n≤0
  ·rw [swapN_done hn]; exact h
  ·cases hf:firstS ps σ.ls σ.l tk pt σ.n 1099511627776 (bestO σ.l get give) with
   | none=>rw [swapN_none hn hf]; exact h
   | some sk =>
    obtain ⟨s,k⟩:=sk
    by_cases hl:σ.fs.length=64
    ·rw [swapN_full hn hf hl]; exact h
    ·cases fuel with
     | zero =>
      have e:swapN ps tk pt get give 0 σ=(13,σ):=by
       unfold swapN
       rw [if_neg hn,hf]
       simp only []
       rw [if_neg hl]
      rw [e]; exact h
     | succ fuel=>rw [swapN_next hn hf hl]; exact swapN_ind C hs fuel (hs σ s k h hn hf hl)
theorem swapN_ok {ps:List Int} {tk pt get give:Int}:∀ (fuel:Nat) {σ:SwS},(swapN ps tk pt get give fuel σ).1=0→(swapN ps tk pt get give fuel σ).2.n≤0
 | fuel,σ,h=>by
  by_cases hn:σ.n≤0
  ·rw [swapN_done hn]; exact hn
  ·cases hf:firstS ps σ.ls σ.l tk pt σ.n 1099511627776 (bestO σ.l get give) with
   | none=>rw [swapN_none hn hf] at h; exact absurd h (by show ¬ (11:Int)=0; decide)
   | some sk =>
    obtain ⟨s,k⟩:=sk
    by_cases hl:σ.fs.length=64
    ·rw [swapN_full hn hf hl] at h; exact absurd h (by show ¬ (13:Int)=0; decide)
    ·cases fuel with
     | zero =>
      have e:swapN ps tk pt get give 0 σ=(13,σ):=by
       unfold swapN
       rw [if_neg hn,hf]
       simp only []
       rw [if_neg hl]
      rw [e] at h; exact absurd h (by show ¬ (13:Int)=0; decide)
     | succ fuel =>
      rw [swapN_next hn hf hl] at h ⊢
      exact swapN_ok fuel h
structure SwDone (ps:List Int) (ls:List Ln) (l:List Of) (N fr pt get give n most:Int) (σ:SwS):Prop where
 inv:SwInv ps ls l N fr pt get give n σ
 got:(σ.fs.map Fl.got).sum=n
 given:(σ.fs.map Fl.gi).sum≤most
 len:σ.fs.length≤64
 may:swMay fr pt get give n most
 parts:fr ∈ ps∧pt ∈ ps
 is:swapN ps fr pt get give 64 ⟨ls,l,[],n⟩=(0,σ)
theorem swapF_done {ps:List Int} {ls:List Ln} {l:List Of} {N fr pt get give n most:Int} {σ:SwS} (hI:LInv ps ls) (hJ:BInv l N) (h:swapF ps ls l fr pt get give n most=(0,σ)):SwDone ps ls l N fr pt get give n most σ:=by
 unfold swapF at h
 by_cases hm:swMay fr pt get give n most
 ·rw [if_neg (fun q=>q hm)] at h
  by_cases hp:fr ∉ ps∨pt ∉ ps
  ·rw [if_pos hp] at h
   exact absurd (congrArg Prod.fst h) (by show ¬ (7:Int)=0; decide)
  ·rw [if_neg hp] at h
   by_cases he:(swapN ps fr pt get give 64 ⟨ls,l,[],n⟩).1≠0
   ·rw [if_pos he] at h
    exact absurd (congrArg Prod.fst h) he
   ·rw [if_neg he] at h
    have he:=Decidable.not_not.1 he
    by_cases hg:most<((swapN ps fr pt get give 64 ⟨ls,l,[],n⟩).2.fs.map Fl.gi).sum
    ·rw [if_pos hg] at h
     exact absurd (congrArg Prod.fst h) (by show ¬ (12:Int)=0; decide)
    ·rw [if_neg hg] at h
     have hn1:=swapN_ok 64 he
     have hinv:=SwInv.ends (tk:=fr) (pt:=pt) (get:=get) (give:=give) 64 (SwInv.start hI hJ (tk:=fr) (pt:=pt) (get:=get) (give:=give) (n0:=n))
     have hn2:0≤(swapN ps fr pt get give 64 ⟨ls,l,[],n⟩).2.n∧(swapN ps fr pt get give 64 ⟨ls,l,[],n⟩).2.fs.length≤64:=by
      have:=swapN_ind (ps:=ps) (tk:=fr) (pt:=pt) (get:=get) (give:=give) (fun σ=>SwInv ps ls l N fr pt get give n σ∧0≤σ.n∧σ.fs.length≤64) (fun σ s k hc hn hf hl=>by
       obtain ⟨i1,i2,i3⟩:=hc
       obtain ⟨a,b,c,⟨o,ho,_,_⟩,d⟩:=i1.step hf
       refine ⟨d,?_,?_⟩
       ·unfold nextS
        rw [ho]
        show 0≤σ.n - k
        omega
       ·unfold nextS
        rw [ho]
        show (σ.fs++[_]).length≤64
        rw [List.length_append,List.length_singleton]
        omega) 64 (σ:=⟨ls,l,[],n⟩) ⟨SwInv.start hI hJ,by have:=hm.2.2.2.2.2.1.1; show 0≤n; omega,by simp⟩
      exact this.2
     rw [h] at hn1 hn2 hg hinv
     dsimp only at hn1 hn2 hg hinv
     refine ⟨hinv,?_,by show _≤most; omega,hn2.2,hm,⟨Decidable.not_not.1 fun q=>hp (.inl q),Decidable.not_not.1 fun q=>hp (.inr q)⟩,h⟩
     have:=hinv.sum
     have q1:σ.n≤0:=hn1
     have q2:0≤σ.n:=hn2.1
     omega
 ·rw [if_pos hm] at h
  exact absurd (congrArg Prod.fst h) (by show ¬ (1:Int)=0; decide)
end Go.Proofs.YtngnfdnfpiiclaaGreat
namespace Go.Proofs.YtngnfdnfpiiclaaGreat
open Go.RowKit Go.Shelf Go.Sort Go.Lib
instance:Inhabited Fw:=⟨⟨0,0,0⟩⟩
end Go.Proofs.YtngnfdnfpiiclaaGreat
namespace Go.Proofs.YtngnfdnfpiiclaaGreat
open Go.RowKit Go.Shelf Go.Lib
open Go.Sort (grow flatK putCells HoldsK PermIn SortedIn SWO)
end Go.Proofs.YtngnfdnfpiiclaaGreat
