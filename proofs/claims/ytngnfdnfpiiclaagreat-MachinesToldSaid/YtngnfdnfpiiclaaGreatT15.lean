/- Pieces of one proof. -/
import Derived.Test.YtngnfdnfpiiclaaGreatT14
import Derived.Defers
set_option linter.all false
set_option maxHeartbeats 64000000
set_option maxRecDepth 100000
namespace Go.Proofs.YtngnfdnfpiiclaaGreat
open Go.RowKit
theorem PB.down5{w:World}{base base' g:Nat}{l:List Of}{N:Int}{vl:Value}(h:PB w base g l N vl)(hb:base'≤base):PB w base' g l N vl:=⟨h.blk,Nat.le_trans hb h.ge,aI2 h.row hb⟩
theorem swap1_ok{w:World}{cE cA cL:Nat}{u:FrameMode}(hE:Blk w cE #[.int .i64 0] 33):
  CallsD Tryz.prog 196 #[.pointer (some ⟨cE,0,none⟩),.pointer (some ⟨cA,0,none⟩),.pointer (some ⟨cL,0,none⟩)] u w fun e u' w'=>u'=u∧(e=.returned (.tuple #[])∧w'=w):=by
 have e0:=hE.cell 0;simp at e0;clear hE
 go_enter_d Tryz.func196,Tryz.ntmps196
 go_wp2_with fail;go_end0;exact⟨rfl,rfl⟩
theorem swap1_bad{w:World}{cE cA cL:Nat}{u:FrameMode}{er:Int}{x y v:Value}(hE:Blk w cE #[.int .i64 er] 33)(hA:Blk w cA #[x,y] 80)(hL:Blk w cL #[v] 235)(hAL:cA≠cL)(he:(er != 0)=true):
  CallsD Tryz.prog 196 #[.pointer (some ⟨cE,0,none⟩),.pointer (some ⟨cA,0,none⟩),.pointer (some ⟨cL,0,none⟩)] u w fun e u' w'=>u'=u∧(e=.returned (.tuple #[])∧w'=(w.setRow cA #[.pointer none,.pointer none]).setCell ⟨cL,0,none⟩ (.slice none 0 0)):=by
 have e0:=hE.cell 0;simp at e0;have KA:=yH hA;have L2:Blk (w.setRow cA #[.pointer none,.pointer none]) cL #[v] 235:=hL.keep (aAc (w:=w) cA #[.pointer none,.pointer none]) (fun h=>hAL h.symm);have l0:=L2.cell 0;have lf:=L2.frozen 0;simp at l0;clear hE hA hL hAL L2
 go_enter_d Tryz.func196,Tryz.ntmps196
 go_wp2_with (refine aAa rfl 80 (.tmp 1) (.tmp 5) rfl cA #[.pointer none,.pointer none] rfl rfl 80 _ KA.o.out zW rfl zK ?_);go_end0;exact⟨rfl,rfl⟩
def SwapNo(w:World)(er:Int)(e:Ending)(w':World):Prop:=e=.returned (.tuple #[.agg #[.pointer none,.pointer none],.slice none 0 0,.int .i64 er])∧Below w.heap.size w w'
structure SwR(w:World)(g:Nat)(x y a:Option Addr)(k c:Nat)(e:Int):Prop where
 af:Blk w (g+1) #[.pointer x,.pointer y] 80
 al:Blk w (g+2) #[.slice a k c] 235
 er:Blk w (g+3) #[.int .i64 e] 33
theorem SwR.keep{S:Nat→Prop}{w w':World}{g:Nat}{x y a:Option Addr}{k c:Nat}{er:Int}(h:SwR w g x y a k c er)(q:Keep S w w')(hS:∀j,g<j→j<g+4→¬S j):SwR w' g x y a k c er:=
 ⟨h.af.keep q (hS _ zQ zQ),h.al.keep q (hS _ zQ zQ),h.er.keep q (hS _ zQ zQ)⟩
theorem SwR.below{w w':World}{g:Nat}{x y a:Option Addr}{k c:Nat}{er:Int}(h:SwR w g x y a k c er)(q:Below w.heap.size w w'):SwR w' g x y a k c er:=h.keep (pAD (S:=fun _=>False) q) (fun _ _ _ h=>h)
theorem SwR.belowB{w w':World}{B g:Nat}{x y a:Option Addr}{k c:Nat}{er:Int}(h:SwR w g x y a k c er)(q:Below B w w')(hB:g+3<B):SwR w' g x y a k c er:=⟨h.af.below q zQ,h.al.below q zQ,h.er.below q zQ⟩
theorem SwR.drew{w:World}{g:Nat}{x y a:Option Addr}{k c:Nat}{er:Int}(h:SwR w g x y a k c er):SwR w.drew g x y a k c er:=⟨h.af,h.al,h.er⟩
theorem SwR.stA{w:World}{g:Nat}{x y a:Option Addr}{k c:Nat}{er:Int}(h:SwR w g x y a k c er)(x' y':Option Addr):SwR (w.setRow (g+1) #[.pointer x',.pointer y']) g x' y' a k c er:=
 ⟨setRow_heap _ (g+1) _ _ _ (0,0) h.af,h.al.keep (aAc (w:=w) (g+1) _) zQ,h.er.keep (aAc (w:=w) (g+1) _) zQ⟩
theorem SwR.stL{w:World}{g:Nat}{x y a:Option Addr}{k c:Nat}{er:Int}(h:SwR w g x y a k c er)(a':Option Addr)(k' c':Nat):SwR (w.setCell ⟨g+2,0,none⟩ (.slice a' k' c')) g x y a' k' c' er:=
 ⟨h.af.setOther (by show ¬g+1=g+2;omega) _,h.al.set 0 _,h.er.setOther (by show ¬g+3=g+2;omega) _⟩
theorem SwR.stE{w:World}{g:Nat}{x y a:Option Addr}{k c:Nat}{er:Int}(h:SwR w g x y a k c er)(er':Int):SwR (w.setCell ⟨g+3,0,none⟩ (.int .i64 er')) g x y a k c er':=
 ⟨h.af.setOther (by show ¬g+1=g+3;omega) _,h.al.setOther (by show ¬g+2=g+3;omega) _,h.er.set 0 _⟩
abbrev SwK(g:Nat)(W w':World):Prop:=Keep (fun j=>g<j∧j<g+4) W w'
theorem SwK.stA{W w:World}{g:Nat}(h:SwK g W w)(cs:Array Value):SwK g W (w.setRow (g+1) cs):=Keep.trans h ((aAc (w:=w) (g+1) cs).mono (fun j _ e=>zQ))
theorem SwK.st{W w:World}{g:Nat}(h:SwK g W w)(j:Nat)(hj:g<j∧j<g+4)(v:Value):SwK g W (w.setCell ⟨j,0,none⟩ v):=Keep.setCell h (.inl hj) v
theorem aH9{tmps:Array Value}{w:World}{g:Nat}{x y a:Option Addr}{k c:Nat}{er:Int}(h1:tmps[14]? = some (.pointer (some ⟨g+1,0,none⟩)))(h2:tmps[15]? = some (.pointer (some ⟨g+2,0,none⟩)))(h3:tmps[16]? = some (.pointer (some ⟨g+3,0,none⟩)))(h:SwR w g x y a k c er):
  (results Tryz.f154 tmps).run Tryz.prog w=.ok (.tuple #[.agg #[.pointer x,.pointer y],.slice a k c,.int .i64 er]) w:=by
 have a0:=h.af.cell 0;have a1:=h.af.cell 1;have l0:=h.al.cell 0;have e0:=h.er.cell 0;simp at a0 a1 l0 e0;simp[results,Tryz.results154,go_sem,h1,h2,h3,a0,a1,l0,e0]
theorem aGm{tmps:Array Value}{w:World}{g:Nat}{x y a:Option Addr}{k c:Nat}{er:Int}{R:Ending→World→Prop}(h1:tmps[14]? = some (.pointer (some ⟨g+1,0,none⟩)))(h2:tmps[15]? = some (.pointer (some ⟨g+2,0,none⟩)))(h3:tmps[16]? = some (.pointer (some ⟨g+3,0,none⟩)))(h:SwR w g x y a k c er)(he:(er != 0)=true)
  (hR:R (.returned (.tuple #[.agg #[.pointer none,.pointer none],.slice none 0 0,.int .i64 er])) ((w.setRow (g+1) #[.pointer none,.pointer none]).setCell ⟨g+2,0,none⟩ (.slice none 0 0))):
  Leaves Tryz.prog Tryz.f154 tmps R [{ target:=.fn (.func 196) #[.pointer (some ⟨g+3,0,none⟩),.pointer (some ⟨g+1,0,none⟩),.pointer (some ⟨g+2,0,none⟩)],args:=#[] }] .returning w:=by
 refine leaves_cons (f:=196) (args:=#[.pointer (some ⟨g+3,0,none⟩),.pointer (some ⟨g+1,0,none⟩),.pointer (some ⟨g+2,0,none⟩)]) zV xU ?_;refine(swap1_bad h.er h.af h.al zQ he).mono ?_;rintro e u' w' ⟨rfl,rfl,rfl⟩;exact⟨_,aH9 h1 h2 h3 ((h.stA none none).stL none 0 0),hR⟩
theorem aRx{tmps:Array Value}{w:World}{g:Nat}{x y a:Option Addr}{k c:Nat}{R:Ending→World→Prop}(h1:tmps[14]? = some (.pointer (some ⟨g+1,0,none⟩)))(h2:tmps[15]? = some (.pointer (some ⟨g+2,0,none⟩)))(h3:tmps[16]? = some (.pointer (some ⟨g+3,0,none⟩)))(h:SwR w g x y a k c 0)
  (hR:R (.returned (.tuple #[.agg #[.pointer x,.pointer y],.slice a k c,.int .i64 0])) w):
  Leaves Tryz.prog Tryz.f154 tmps R [{ target:=.fn (.func 196) #[.pointer (some ⟨g+3,0,none⟩),.pointer (some ⟨g+1,0,none⟩),.pointer (some ⟨g+2,0,none⟩)],args:=#[] }] .returning w:=by
 refine leaves_cons (f:=196) (args:=#[.pointer (some ⟨g+3,0,none⟩),.pointer (some ⟨g+1,0,none⟩),.pointer (some ⟨g+2,0,none⟩)]) zV xU ?_;refine(swap1_ok h.er).mono ?_;rintro e u' w' ⟨rfl,rfl,rfl⟩;exact⟨_,aH9 h1 h2 h3 h,hR⟩
theorem aNf{B:Nat}{w0 w:World}(h:Below B w0 w){g:Nat}(hg:B≤g):Below B w0 ((w.setRow (g+1) #[.pointer none,.pointer none]).setCell ⟨g+2,0,none⟩ (.slice none 0 0)):=(below_setRow h zQ _).setCell (p:=⟨g+2,0,none⟩) (by show B≤g+2;omega) _
theorem pswap_void{w:World}{a b:Option Addr}(fr pt get give n most:Int)(h:∀w',Below w.heap.size w w'→Calls Tryz.prog 232 #[.agg #[.pointer a,.pointer b]] w' fun e w''=>e=.returned (.bool false)∧Below w'.heap.size w' w''):
  Calls Tryz.prog 154 #[.agg #[.pointer a,.pointer b],.int .u8 fr,.int .u8 pt,.int .u8 get,.int .u8 give,.int .i64 n,.int .i64 most] w (SwapNo w 2):=by
 have b1:=(Below.refl w.heap.size w).alloc yL (.cells #[.pointer a,.pointer b] 80);have b2:=b1.alloc b1.size (.cells #[.pointer none,.pointer none] 80);have b3:=b2.alloc b2.size (.cells #[.slice none 0 0] 235);have b4:=b3.alloc b3.size (.cells #[.int .i64 0] 33);have b5:=b4.alloc b4.size (.cells #[.int .u8 fr,.int .u8 pt,.int .u8 get,.int .u8 give,.int .i64 n,.int .i64 most] 289);have KH:=yH (((((Blk.new w #[.pointer a,.pointer b] 80).alloc (.cells #[.pointer none,.pointer none] 80)).alloc (.cells #[.slice none 0 0] 235)).alloc (.cells #[.int .i64 0] 33)).alloc (.cells #[.int .u8 fr,.int .u8 pt,.int .u8 get,.int .u8 give,.int .i64 n,.int .i64 most] 289));have KS:=yH (pAB ((((w.alloc (.cells #[.pointer a,.pointer b] 80)).alloc (.cells #[.pointer none,.pointer none] 80)).alloc (.cells #[.slice none 0 0] 235)).alloc (.cells #[.int .i64 0] 33)) #[.int .u8 fr,.int .u8 pt,.int .u8 get,.int .u8 give,.int .i64 n,.int .i64 most] 289 (g:=w.heap.size+4) zV)
 have RR:Hid (SwR (((((w.alloc (.cells #[.pointer a,.pointer b] 80)).alloc (.cells #[.pointer none,.pointer none] 80)).alloc (.cells #[.slice none 0 0] 235)).alloc (.cells #[.int .i64 0] 33)).alloc (.cells #[.int .u8 fr,.int .u8 pt,.int .u8 get,.int .u8 give,.int .i64 n,.int .i64 most] 289)) w.heap.size none none none 0 0 0):=yH ⟨(((pAB (w.alloc (.cells #[.pointer a,.pointer b] 80)) #[.pointer none,.pointer none] 80 (g:=w.heap.size+1) zV).alloc (.cells #[.slice none 0 0] 235)).alloc (.cells #[.int .i64 0] 33)).alloc (.cells #[.int .u8 fr,.int .u8 pt,.int .u8 get,.int .u8 give,.int .i64 n,.int .i64 most] 289),
  ((pAB ((w.alloc (.cells #[.pointer a,.pointer b] 80)).alloc (.cells #[.pointer none,.pointer none] 80)) #[.slice none 0 0] 235 (g:=w.heap.size+2) zV).alloc (.cells #[.int .i64 0] 33)).alloc (.cells #[.int .u8 fr,.int .u8 pt,.int .u8 get,.int .u8 give,.int .i64 n,.int .i64 most] 289),
  (pAB (((w.alloc (.cells #[.pointer a,.pointer b] 80)).alloc (.cells #[.pointer none,.pointer none] 80)).alloc (.cells #[.slice none 0 0] 235)) #[.int .i64 0] 33 (g:=w.heap.size+3) zV).alloc (.cells #[.int .u8 fr,.int .u8 pt,.int .u8 get,.int .u8 give,.int .i64 n,.int .i64 most] 289)⟩
 have B:=yH b5;have CW:=yH (aT1 fr pt get give n most (fun w' k=>h w' (andB b5 k)));clear b1 b2 b3 b4 b5 h;generalize hW:((((w.alloc (.cells #[.pointer a,.pointer b] 80)).alloc (.cells #[.pointer none,.pointer none] 80)).alloc (.cells #[.slice none 0 0] 235)).alloc (.cells #[.int .i64 0] 33)).alloc (.cells #[.int .u8 fr,.int .u8 pt,.int .u8 get,.int .u8 give,.int .i64 n,.int .i64 most] 289)=W at *;have HW:=yH hW;clear hW;have h0:=KH.o.cell 0;have h1:=KH.o.cell 1;have s0:=KS.o.cell 0;have s1:=KS.o.cell 1;have s2:=KS.o.cell 2;have s3:=KS.o.cell 3;have s4:=KS.o.cell 4;have s5:=KS.o.cell 5;simp at h0 h1 s0 s1 s2 s3 s4 s5
 go_enter_defers Tryz.func154,Tryz.ntmps154
 go_upto_region 3 with fail
 rw[HW.o];go_wp2_with fail;refine CW.o.mono ?_;rintro e w1 ⟨rfl,b1⟩;have RR1:=yH (RR.o.below b1);have B1:=yT B b1;clear b1 h0 h1 s0 s1 s2 s3 s4 s5 KH KS RR B CW;have RRq:=yH (RR1.o.stE 2);have B2:=yH (B1.o.setCell (p:=⟨w.heap.size+3,0,none⟩) zA (.int .i64 2));have x0:=RR1.o.er.cell 0;have fz:=RR1.o.er.frozen 0;have y0:=RRq.o.er.cell 0;simp at x0 y0;generalize hW2:w1.setCell ⟨w.heap.size+3,0,none⟩ (.int .i64 2)=W2 at *;have HW2:=yH hW2;clear hW2
 go_upto_region 4 with fail
 rw[HW2.o];go_wp2_with fail
 refine aAl zW [(.agg #[.pointer none,.pointer none]),(.slice none 0 0),(.int .i64 2),undef,undef,undef]
  (fun w'=>SwR w' w.heap.size none none none 0 0 2∧SwK w.heap.size W2 w') zW ⟨RRq.o.drew,(Keep.refl _ _).drew⟩ ?_
 intro af haf;simp only[yG,List.append_eq,List.cons_append,List.nil_append,puts,Act.put,yA,yC,yF,yD,yE]at haf;subst haf;refine⟨?_,?_⟩
 ·simp only[yG,List.append_eq,List.cons_append,List.nil_append,aA6];refine⟨?_,?_,?_,?_,?_,?_,trivial⟩
  ·intro w' hS;refine yO rfl ?_;have d0:=hS.1.af.cell 0;have d1:=hS.1.af.cell 1;simp at d0 d1;have HS:=yH hS;clear hS;go_wp2_with fail;all_goals first|exact HS|exact⟨rfl,HS⟩|rfl
  ·intro w' hS;refine yO rfl ?_;have d0:=hS.1.al.cell 0;simp at d0;have HS:=yH hS;clear hS;go_wp2_with fail;all_goals first|exact HS|exact⟨rfl,HS⟩|rfl
  ·intro w' hS;refine yO rfl ?_;have d0:=hS.1.er.cell 0;simp at d0;have HS:=yH hS;clear hS;go_wp2_with fail;all_goals first|exact HS|exact⟨rfl,HS⟩|rfl
  ·intro w' hS;refine yO rfl ?_;have d0:=hS.1.af.cell 0;have d1:=hS.1.af.cell 1;simp at d0 d1;have HS:=yH hS;clear hS;refine wp_store_row 80 (.tmp 14) (.tmp 31) rfl (w.heap.size+1) #[.pointer none,.pointer none] rfl rfl 80 _ HS.o.1.af.out zW rfl zK ⟨rfl,?_⟩;exact⟨HS.o.1.stA _ _,SwK.stA HS.o.2 _⟩
  ·intro w' hS;refine yO rfl ?_;have d0:=hS.1.al.cell 0;have dz:=hS.1.al.frozen 0;simp at d0;have HS:=yH hS;clear hS;go_wp2_with fail;exact⟨HS.o.1.stL _ _ _,SwK.st HS.o.2 (w.heap.size+2) zQ _⟩
  intro w' hS;refine yO rfl ?_;have d0:=hS.1.er.cell 0;have dz:=hS.1.er.frozen 0;simp at d0;have HS:=yH hS;clear hS;go_wp2_with fail;exact⟨HS.o.1.stE _,SwK.st HS.o.2 (w.heap.size+3) zQ _⟩
 intro wq hq;go_wp2_with fail;refine aGm (g:=w.heap.size) rfl rfl rfl hq.1 (by first|assumption|decide) ?_;exact⟨rfl,aNf (B2.o.trans (hq.2.below B2.o.size (fun j hj h=>zQ))) yL⟩
def aRy(w:World)(ps:List Int)(ls:List Ln)(l:List Of)(N fr pt get give n most:Int)(e:Ending)(w':World):Prop:=
 (∃er:Int,er≠0∧(aDw ps ls l fr pt get give n most).1=er∧SwapNo w er e w')∨
 (∃(G M gb:Nat) (vb:Value) (a:Option Addr) (c:Nat) (σ:SwS),aDw ps ls l fr pt get give n most=(0,σ)∧aD1 fr pt get give n most∧e=.returned (.tuple #[.agg #[.pointer (some ⟨G,0,none⟩),.pointer (some ⟨gb,0,none⟩)],.slice a σ.fs.length c,.int .i64 0])∧LedM w' G M ps σ.ls∧PB w' w.heap.size gb σ.l N vb∧aBk w' w.heap.size 241 5 (.slice a σ.fs.length c) σ.fs.length (aCh fr pt σ.fs)∧
  w.heap.size≤G∧w.heap.size≤M∧Below w.heap.size w w')
theorem aT4{ps:List Int}{ls:List Ln}{l:List Of}{fr pt get give n most er:Int}(h:aHd ps fr pt get give n most=er)(he:er≠0):(aDw ps ls l fr pt get give n most).1=er:=by
 unfold aHd at h;unfold aDw
 by_cases h1:aD1 fr pt get give n most
 ·rw[if_neg (fun q=>q h1)]at h ⊢
  by_cases h2:fr∉ps∨pt∉ps
  ·rw[if_pos h2]at h ⊢;exact h
  rw[if_neg h2]at h;exact absurd h.symm he
 rw[if_pos h1]at h ⊢;exact h
theorem aT5{ps:List Int}{ls:List Ln}{l:List Of}{fr pt get give n most:Int}(h:aHd ps fr pt get give n most=0):aD1 fr pt get give n most∧aDw ps ls l fr pt get give n most=aNd ps fr pt get give most ⟨ls,l,[],n⟩:=by
 unfold aHd at h;unfold aDw
 by_cases h1:aD1 fr pt get give n most
 ·rw[if_neg (fun q=>q h1)]at h ⊢
  by_cases h2:fr∉ps∨pt∉ps
  ·rw[if_pos h2]at h;exact absurd h zX
  rw[if_neg h2];exact⟨h1,rfl⟩
 rw[if_pos h1]at h;exact absurd h zX
theorem pswap_any(HMy:aCj)(HD:aD3)(HCp:aDu){w:World}{base G M gb:Nat}{ps:List Int}{ls:List Ln}{l:List Of}{N:Int}{vb:Value}(hL:LedM w G M ps ls)(hI:LInv ps ls)(hP:PB w base gb l N vb)(hJ:BInv l N)
  (fr pt get give n most:Int)(hf:In8 fr)(ht:In8 pt)(hg:In8 get)(hv:In8 give):
  Calls Tryz.prog 154 #[.agg #[.pointer (some ⟨G,0,none⟩),.pointer (some ⟨gb,0,none⟩)],.int .u8 fr,.int .u8 pt,.int .u8 get,.int .u8 give,.int .i64 n,.int .i64 most] w (aRy w ps ls l N fr pt get give n most):=by
 have b1:=(Below.refl w.heap.size w).alloc yL (.cells #[.pointer (some ⟨G,0,none⟩),.pointer (some ⟨gb,0,none⟩)] 80);have b2:=b1.alloc b1.size (.cells #[.pointer none,.pointer none] 80);have b3:=b2.alloc b2.size (.cells #[.slice none 0 0] 235);have b4:=b3.alloc b3.size (.cells #[.int .i64 0] 33);have b5:=b4.alloc b4.size (.cells #[.int .u8 fr,.int .u8 pt,.int .u8 get,.int .u8 give,.int .i64 n,.int .i64 most] 289);have KH:=yH (((((Blk.new w #[.pointer (some ⟨G,0,none⟩),.pointer (some ⟨gb,0,none⟩)] 80).alloc (.cells #[.pointer none,.pointer none] 80)).alloc (.cells #[.slice none 0 0] 235)).alloc (.cells #[.int .i64 0] 33)).alloc (.cells #[.int .u8 fr,.int .u8 pt,.int .u8 get,.int .u8 give,.int .i64 n,.int .i64 most] 289));have KS:=yH (pAB ((((w.alloc (.cells #[.pointer (some ⟨G,0,none⟩),.pointer (some ⟨gb,0,none⟩)] 80)).alloc (.cells #[.pointer none,.pointer none] 80)).alloc (.cells #[.slice none 0 0] 235)).alloc (.cells #[.int .i64 0] 33)) #[.int .u8 fr,.int .u8 pt,.int .u8 get,.int .u8 give,.int .i64 n,.int .i64 most] 289 (g:=w.heap.size+4) zV)
 have RR:Hid (SwR (((((w.alloc (.cells #[.pointer (some ⟨G,0,none⟩),.pointer (some ⟨gb,0,none⟩)] 80)).alloc (.cells #[.pointer none,.pointer none] 80)).alloc (.cells #[.slice none 0 0] 235)).alloc (.cells #[.int .i64 0] 33)).alloc (.cells #[.int .u8 fr,.int .u8 pt,.int .u8 get,.int .u8 give,.int .i64 n,.int .i64 most] 289)) w.heap.size none none none 0 0 0):=yH ⟨(((pAB (w.alloc (.cells #[.pointer (some ⟨G,0,none⟩),.pointer (some ⟨gb,0,none⟩)] 80)) #[.pointer none,.pointer none] 80 (g:=w.heap.size+1) zV).alloc (.cells #[.slice none 0 0] 235)).alloc (.cells #[.int .i64 0] 33)).alloc (.cells #[.int .u8 fr,.int .u8 pt,.int .u8 get,.int .u8 give,.int .i64 n,.int .i64 most] 289),
  ((pAB ((w.alloc (.cells #[.pointer (some ⟨G,0,none⟩),.pointer (some ⟨gb,0,none⟩)] 80)).alloc (.cells #[.pointer none,.pointer none] 80)) #[.slice none 0 0] 235 (g:=w.heap.size+2) zV).alloc (.cells #[.int .i64 0] 33)).alloc (.cells #[.int .u8 fr,.int .u8 pt,.int .u8 get,.int .u8 give,.int .i64 n,.int .i64 most] 289),
  (pAB (((w.alloc (.cells #[.pointer (some ⟨G,0,none⟩),.pointer (some ⟨gb,0,none⟩)] 80)).alloc (.cells #[.pointer none,.pointer none] 80)).alloc (.cells #[.slice none 0 0] 235)) #[.int .i64 0] 33 (g:=w.heap.size+3) zV).alloc (.cells #[.int .u8 fr,.int .u8 pt,.int .u8 get,.int .u8 give,.int .i64 n,.int .i64 most] 289)⟩
 have B:=yH b5;have CW:=yH (swrong_any HD (hL.below b5) hI (hP.below b5) hJ fr pt get give n most);have L5:=yH (hL.below b5);have P5:=yH (hP.below b5);have II:=yH hI;have JJ:=yH hJ;have HF:=yH hf;have HTo:=yH ht;have HGe:=yH hg;have HGi:=yH hv;obtain⟨er,her⟩:∃er,aHd ps fr pt get give n most=er:=⟨_,rfl⟩;rw[her]at CW;have HER:=yH her;have GE:=yH (show G<w.heap.size∧M<w.heap.size∧∀b,Foot gb vb b→b<w.heap.size from⟨hL.blk.lt,hL.map.lt,fun b hb=>(hP.lt hb).2⟩);clear b1 b2 b3 b4 b5 hL hI hP hJ hf ht hg hv her;generalize hW:((((w.alloc (.cells #[.pointer (some ⟨G,0,none⟩),.pointer (some ⟨gb,0,none⟩)] 80)).alloc (.cells #[.pointer none,.pointer none] 80)).alloc (.cells #[.slice none 0 0] 235)).alloc (.cells #[.int .i64 0] 33)).alloc (.cells #[.int .u8 fr,.int .u8 pt,.int .u8 get,.int .u8 give,.int .i64 n,.int .i64 most] 289)=W at *;have HW:=yH hW;clear hW;have h0:=KH.o.cell 0;have h1:=KH.o.cell 1;have s0:=KS.o.cell 0;have s1:=KS.o.cell 1;have s2:=KS.o.cell 2;have s3:=KS.o.cell 3;have s4:=KS.o.cell 4;have s5:=KS.o.cell 5;simp at h0 h1 s0 s1 s2 s3 s4 s5
 go_enter_defers Tryz.func154,Tryz.ntmps154
 go_upto_region 3 with fail
 rw[HW.o];go_wp2_with fail;refine CW.o.mono ?_;rintro e w1 ⟨rfl,b1⟩;have RR1:=yH (RR.o.below b1);have KH1:=yB KH b1;have KS1:=yB KS b1;have L1:=yH (L5.o.below b1);have P1:=yH (P5.o.below b1);have B1:=yT B b1;clear b1 h0 h1 s0 s1 s2 s3 s4 s5 KH KS RR B CW L5 P5
 by_cases hz:er=0
 ·subst hz;obtain⟨hmay,heq⟩:=aT5 (ls:=ls) (l:=l) HER.o;have HMA:=yH hmay;have EQ:=yH heq;have RR2:=yH (RR1.o.stE 0);have kE:Keep (fun j=>j=w.heap.size+3) w1 (w1.setCell ⟨w.heap.size+3,0,none⟩ (.int .i64 0)):=Keep.setCell (S:=fun j=>j=w.heap.size+3) (Keep.refl _ _) (p:=⟨w.heap.size+3,0,none⟩) (.inl rfl) _;have KH2:=yH (KH1.o.keep kE zQ);have KS2:=yH (KS1.o.keep kE zQ);have L2:=yH (L1.o.keep kE zG zG);have P2:=yH (P1.o.keep kE (fun e=>by have:=GE.o.2.2 gb (.inl rfl);omega) (fun b hb e=>by have:=GE.o.2.2 b (.inr hb);omega));have B2:=yH (B1.o.setCell (p:=⟨w.heap.size+3,0,none⟩) zA (.int .i64 0));have x0:=RR1.o.er.cell 0;have fz:=RR1.o.er.frozen 0;have y0:=RR2.o.er.cell 0;simp at x0 y0;generalize hW2:w1.setCell ⟨w.heap.size+3,0,none⟩ (.int .i64 0)=W2 at *;have HW2:=yH hW2;clear hW2 hmay heq kE KH1 KS1 L1 P1 RR1 B1
  go_upto_region 4 with fail
  rw[HW2.o];have h0:=KH2.o.cell 0;have h1:=KH2.o.cell 1;simp at h0 h1;have CC:=yH (HCp L2.o II.o P2.o JJ.o);go_wp2_with fail;refine CC.o.mono ?_;rintro e wc ⟨G2,M2,gb2,vb2,rfl,hL3,hP3,hg,hm,b3⟩;have RR3:=yH (RR2.o.below b3);have KS3:=yB KS2 b3;have L3:=yH hL3;have P3:=yH hP3;have B3:=yT B2 b3;have GE3:=yH (show W2.heap.size≤G2∧W2.heap.size≤M2∧W2.heap.size≤gb2∧(∀b,vb2.ownBlock=some b→W2.heap.size≤b)∧w.heap.size+4<W2.heap.size∧W2.heap.size≤wc.heap.size from⟨hg,hm,hP3.ge,fun b hb=>(hP3.lt (.inr hb)).1,KS2.o.lt,b3.size⟩);clear hL3 hP3 hg hm b3 h0 h1 x0 fz y0 CC RR2 KS2 B2 L2 P2 KH2
  go_upto_region 7 with(refine aAa rfl 80 (.tmp 14) (.tmp 35) rfl (w.heap.size+1) #[.pointer (some ⟨G2,0,none⟩),.pointer (some ⟨gb2,0,none⟩)] rfl rfl 80 _ RR3.o.af.out zW rfl zK ?_)
  have kA:=aAc (w:=wc) (w.heap.size+1) #[.pointer (some ⟨G2,0,none⟩),.pointer (some ⟨gb2,0,none⟩)];have RR4:=yH (RR3.o.stA (some ⟨G2,0,none⟩) (some ⟨gb2,0,none⟩));have KS4:=yH (KS3.o.keep kA zQ);have L4:=yH (L3.o.keep kA zH zH);have P4:=yH (P3.o.keep kA zH (fun b hb e=>by have h1:=GE3.o.2.2.2.1 b hb;have h2:=GE3.o.2.2.2.2;omega));have B4:=yH (below_setRow B3.o (by omega:w.heap.size≤w.heap.size+1) #[.pointer (some ⟨G2,0,none⟩),.pointer (some ⟨gb2,0,none⟩)]);have HSZ:Hid ((wc.setRow (w.heap.size+1) #[.pointer (some ⟨G2,0,none⟩),.pointer (some ⟨gb2,0,none⟩)]).heap.size=wc.heap.size):=yH (by simp[World.setRow]);generalize hW4:wc.setRow (w.heap.size+1) #[.pointer (some ⟨G2,0,none⟩),.pointer (some ⟨gb2,0,none⟩)]=W4 at *;clear hW4 kA RR3 KS3 L3 P3 B3;have s0:=KS4.o.cell 0;have s1:=KS4.o.cell 1;have s2:=KS4.o.cell 2;have s3:=KS4.o.cell 3;have s4:=KS4.o.cell 4;have s5:=KS4.o.cell 5;have a0:=RR4.o.af.cell 0;have a1:=RR4.o.af.cell 1;have al:=RR4.o.af.lt;simp at s0 s1 s2 s3 s4 s5 a0 a1;have CF:=yH (pfill_any HMy HD (base:=W2.heap.size) L4.o II.o (P4.o.below yZ) JJ.o zH zH (uS GE3.o HSZ.o) fr pt get give n most HF.o HTo.o HGe.o HGi.o HMA.o.2.2.2.2.2.1 HMA.o.2.2.2.2.2.2);go_wp2_with fail;refine CF.o.mono ?_;rintro e wf hpf;clear s0 s1 s2 s3 s4 s5 a0 a1 al CF KS4;have DN:=yH (fun(a:Option Addr) (k c:Nat) (e':Int) (q:SwR wf w.heap.size (some ⟨G2,0,none⟩) (some ⟨gb2,0,none⟩) none 0 0 0)=>(q.stL a k c).stE e');rcases hpf with⟨er,a,k,c,hne,her,rfl,bf⟩|⟨vb3,a,c,σ,heq,rfl,hL,hP,hR,bf⟩
  ·have NO:Hid ((aDw ps ls l fr pt get give n most).1=er):=yH (by rw[EQ.o];exact her);have HNE:=yH hne;have q0:(er != 0)=true:=uN hne
   clear hne her;have RRf:=yH (RR4.o.belowB bf zH);have RRq:=yH (DN.o a k c er RRf.o);have Bf:=yH (B4.o.trans (bf.mono zH));have Bq:=yH ((Bf.o.setCell (p:=⟨w.heap.size+2,0,none⟩) (by show w.heap.size≤w.heap.size+2;omega) (.slice a k c)).setCell (p:=⟨w.heap.size+3,0,none⟩) zA (.int .i64 er));have RR5:=(RRf.o.stL a k c);have x0:=RRf.o.al.cell 0;have x1:=RRf.o.er.cell 0;have f0:=RRf.o.al.frozen 0;have y1:=RR5.er.cell 0;have f2:=RR5.er.frozen 0;simp at x0 x1 y1;generalize hWq:((wf.setCell ⟨w.heap.size+2,0,none⟩ (.slice a k c)).setCell ⟨w.heap.size+3,0,none⟩ (.int .i64 er))=Wq at *;have HWq:=yH hWq;clear hWq RR5
   go_upto_region 8 with fail
   rw[HWq.o]
   refine aAl zW [(.agg #[.pointer (some ⟨G2,0,none⟩),.pointer (some ⟨gb2,0,none⟩)]),(.slice a k c),(.int .i64 er),undef,undef,undef]
    (fun w'=>SwR w' w.heap.size (some ⟨G2,0,none⟩) (some ⟨gb2,0,none⟩) a k c er∧SwK w.heap.size Wq w') zW ⟨RRq.o.drew,(Keep.refl _ _).drew⟩ ?_
   intro af haf;simp only[yG,List.append_eq,List.cons_append,List.nil_append,puts,Act.put,yA,yC,yF,yD,yE]at haf;subst haf;refine⟨?_,?_⟩
   ·simp only[yG,List.append_eq,List.cons_append,List.nil_append,aA6];refine⟨?_,?_,?_,?_,?_,?_,trivial⟩
    ·intro w' hS;refine yO rfl ?_;have d0:=hS.1.af.cell 0;have d1:=hS.1.af.cell 1;simp at d0 d1;have HS:=yH hS;clear hS;go_wp2_with fail;all_goals first|exact HS|exact⟨rfl,HS⟩|rfl
    ·intro w' hS;refine yO rfl ?_;have d0:=hS.1.al.cell 0;simp at d0;have HS:=yH hS;clear hS;go_wp2_with fail;all_goals first|exact HS|exact⟨rfl,HS⟩|rfl
    ·intro w' hS;refine yO rfl ?_;have d0:=hS.1.er.cell 0;simp at d0;have HS:=yH hS;clear hS;go_wp2_with fail;all_goals first|exact HS|exact⟨rfl,HS⟩|rfl
    ·intro w' hS;refine yO rfl ?_;have d0:=hS.1.af.cell 0;have d1:=hS.1.af.cell 1;simp at d0 d1;have HS:=yH hS;clear hS;refine wp_store_row 80 (.tmp 14) (.tmp 42) rfl (w.heap.size+1) #[.pointer (some ⟨G2,0,none⟩),.pointer (some ⟨gb2,0,none⟩)] rfl rfl 80 _ HS.o.1.af.out zW rfl zK ⟨rfl,?_⟩;exact⟨HS.o.1.stA _ _,SwK.stA HS.o.2 _⟩
    ·intro w' hS;refine yO rfl ?_;have d0:=hS.1.al.cell 0;have dz:=hS.1.al.frozen 0;simp at d0;have HS:=yH hS;clear hS;go_wp2_with fail;exact⟨HS.o.1.stL _ _ _,SwK.st HS.o.2 (w.heap.size+2) zQ _⟩
    intro w' hS;refine yO rfl ?_;have d0:=hS.1.er.cell 0;have dz:=hS.1.er.frozen 0;simp at d0;have HS:=yH hS;clear hS;go_wp2_with fail;exact⟨HS.o.1.stE _,SwK.st HS.o.2 (w.heap.size+3) zQ _⟩
   intro wq hq;have BQ:=yH (Bq.o.trans (hq.2.below Bq.o.size (fun j hj h=>zQ)));go_wp2_with fail;refine aGm (g:=w.heap.size) rfl rfl rfl hq.1 q0 ?_;exact .inl ⟨er,HNE.o,NO.o,rfl,aNf BQ.o yL⟩
  have YES:Hid (aDw ps ls l fr pt get give n most=(0,σ)):=yH (by rw[EQ.o];exact heq);have RRf:=yH (RR4.o.belowB bf zH);have RRq:=yH (DN.o a σ.fs.length c 0 RRf.o);have Bf:=yH (B4.o.trans (bf.mono zH));have Bq:=yH ((Bf.o.setCell (p:=⟨w.heap.size+2,0,none⟩) (by show w.heap.size≤w.heap.size+2;omega) (.slice a σ.fs.length c)).setCell (p:=⟨w.heap.size+3,0,none⟩) zA (.int .i64 0));have kq:Keep (fun j=>w.heap.size<j∧j<w.heap.size+4) wf ((wf.setCell ⟨w.heap.size+2,0,none⟩ (.slice a σ.fs.length c)).setCell ⟨w.heap.size+3,0,none⟩ (.int .i64 0)):=SwK.st (SwK.st (Keep.refl _ _) (w.heap.size+2) zQ _) (w.heap.size+3) zQ _;have RR5:=(RRf.o.stL a σ.fs.length c);have x0:=RRf.o.al.cell 0;have x1:=RRf.o.er.cell 0;have f0:=RRf.o.al.frozen 0;have y1:=RR5.er.cell 0;have f2:=RR5.er.frozen 0;simp at x0 x1 y1;have Lq:=yH (hL.keep kq zH zH);have Pq:=yH (hP.keep kq (uS GE3.o hP.ge) (fun b hb e=>by have h1:=(hP.lt (.inr hb)).1;have h2:=GE3.o;omega));have Rq:=yH (hR.keep kq (fun b hb e=>by have h1:=(hR.type hb).1;have h2:=GE3.o;have h3:=HSZ.o;omega));clear hL hP hR heq;generalize hWq:((wf.setCell ⟨w.heap.size+2,0,none⟩ (.slice a σ.fs.length c)).setCell ⟨w.heap.size+3,0,none⟩ (.int .i64 0))=Wq at *;have HWq:=yH hWq;clear hWq RR5 kq
  go_upto_region 8 with fail
  rw[HWq.o]
  refine aAl zW [(.agg #[.pointer (some ⟨G2,0,none⟩),.pointer (some ⟨gb2,0,none⟩)]),(.slice a σ.fs.length c),(.int .i64 0),undef,undef,undef]
   (fun w'=>SwR w' w.heap.size (some ⟨G2,0,none⟩) (some ⟨gb2,0,none⟩) a σ.fs.length c 0∧SwK w.heap.size Wq w') zW ⟨RRq.o.drew,(Keep.refl _ _).drew⟩ ?_
  intro af haf;simp only[yG,List.append_eq,List.cons_append,List.nil_append,puts,Act.put,yA,yC,yF,yD,yE]at haf;subst haf;refine⟨?_,?_⟩
  ·simp only[yG,List.append_eq,List.cons_append,List.nil_append,aA6];refine⟨?_,?_,?_,?_,?_,?_,trivial⟩
   ·intro w' hS;refine yO rfl ?_;have d0:=hS.1.af.cell 0;have d1:=hS.1.af.cell 1;simp at d0 d1;have HS:=yH hS;clear hS;go_wp2_with fail;all_goals first|exact HS|exact⟨rfl,HS⟩|rfl
   ·intro w' hS;refine yO rfl ?_;have d0:=hS.1.al.cell 0;simp at d0;have HS:=yH hS;clear hS;go_wp2_with fail;all_goals first|exact HS|exact⟨rfl,HS⟩|rfl
   ·intro w' hS;refine yO rfl ?_;have d0:=hS.1.er.cell 0;simp at d0;have HS:=yH hS;clear hS;go_wp2_with fail;all_goals first|exact HS|exact⟨rfl,HS⟩|rfl
   ·intro w' hS;refine yO rfl ?_;have d0:=hS.1.af.cell 0;have d1:=hS.1.af.cell 1;simp at d0 d1;have HS:=yH hS;clear hS;refine wp_store_row 80 (.tmp 14) (.tmp 42) rfl (w.heap.size+1) #[.pointer (some ⟨G2,0,none⟩),.pointer (some ⟨gb2,0,none⟩)] rfl rfl 80 _ HS.o.1.af.out zW rfl zK ⟨rfl,?_⟩;exact⟨HS.o.1.stA _ _,SwK.stA HS.o.2 _⟩
   ·intro w' hS;refine yO rfl ?_;have d0:=hS.1.al.cell 0;have dz:=hS.1.al.frozen 0;simp at d0;have HS:=yH hS;clear hS;go_wp2_with fail;exact⟨HS.o.1.stL _ _ _,SwK.st HS.o.2 (w.heap.size+2) zQ _⟩
   intro w' hS;refine yO rfl ?_;have d0:=hS.1.er.cell 0;have dz:=hS.1.er.frozen 0;simp at d0;have HS:=yH hS;clear hS;go_wp2_with fail;exact⟨HS.o.1.stE _,SwK.st HS.o.2 (w.heap.size+3) zQ _⟩
  intro wq hq;have BQ:=yH (Bq.o.trans (hq.2.below Bq.o.size (fun j hj h=>zQ)));go_wp2_with fail;refine aRx (g:=w.heap.size) rfl rfl rfl hq.1 ?_;refine .inr ⟨G2,M2,gb2,vb3,a,c,σ,YES.o,HMA.o,rfl,Lq.o.keep hq.2 zH zH,?_,?_,zH,zH,BQ.o⟩
  ·have h2:=GE3.o;refine PB.down5 (Pq.o.keep hq.2 zQ (fun b hb e=>by have h1:=(Pq.o.lt (.inr hb)).1;omega)) zQ
  have h2:=GE3.o;have h3:=HSZ.o;refine aBk.base (Rq.o.keep hq.2 (fun b hb e=>by have h1:=(Rq.o.type hb).1;omega)) zQ
 have q0:(er != 0)=true:=vI
 have NO:=yH (aT4 (ls:=ls) (l:=l) HER.o hz);have HZ:=yH hz;clear hz KH1 KS1 L1 P1;have RRq:=yH (RR1.o.stE er);have B2:=yH (B1.o.setCell (p:=⟨w.heap.size+3,0,none⟩) zA (.int .i64 er));have x0:=RR1.o.er.cell 0;have fz:=RR1.o.er.frozen 0;have y0:=RRq.o.er.cell 0;simp at x0 y0;generalize hW2:w1.setCell ⟨w.heap.size+3,0,none⟩ (.int .i64 er)=W2 at *;have HW2:=yH hW2;clear hW2
 go_upto_region 4 with fail
 rw[HW2.o];go_wp2_with fail
 refine aAl zW [(.agg #[.pointer none,.pointer none]),(.slice none 0 0),(.int .i64 er),undef,undef,undef]
  (fun w'=>SwR w' w.heap.size none none none 0 0 er∧SwK w.heap.size W2 w') zW ⟨RRq.o.drew,(Keep.refl _ _).drew⟩ ?_
 intro af haf;simp only[yG,List.append_eq,List.cons_append,List.nil_append,puts,Act.put,yA,yC,yF,yD,yE]at haf;subst haf;refine⟨?_,?_⟩
 ·simp only[yG,List.append_eq,List.cons_append,List.nil_append,aA6];refine⟨?_,?_,?_,?_,?_,?_,trivial⟩
  ·intro w' hS;refine yO rfl ?_;have d0:=hS.1.af.cell 0;have d1:=hS.1.af.cell 1;simp at d0 d1;have HS:=yH hS;clear hS;go_wp2_with fail;all_goals first|exact HS|exact⟨rfl,HS⟩|rfl
  ·intro w' hS;refine yO rfl ?_;have d0:=hS.1.al.cell 0;simp at d0;have HS:=yH hS;clear hS;go_wp2_with fail;all_goals first|exact HS|exact⟨rfl,HS⟩|rfl
  ·intro w' hS;refine yO rfl ?_;have d0:=hS.1.er.cell 0;simp at d0;have HS:=yH hS;clear hS;go_wp2_with fail;all_goals first|exact HS|exact⟨rfl,HS⟩|rfl
  ·intro w' hS;refine yO rfl ?_;have d0:=hS.1.af.cell 0;have d1:=hS.1.af.cell 1;simp at d0 d1;have HS:=yH hS;clear hS;refine wp_store_row 80 (.tmp 14) (.tmp 31) rfl (w.heap.size+1) #[.pointer none,.pointer none] rfl rfl 80 _ HS.o.1.af.out zW rfl zK ⟨rfl,?_⟩;exact⟨HS.o.1.stA _ _,SwK.stA HS.o.2 _⟩
  ·intro w' hS;refine yO rfl ?_;have d0:=hS.1.al.cell 0;have dz:=hS.1.al.frozen 0;simp at d0;have HS:=yH hS;clear hS;go_wp2_with fail;exact⟨HS.o.1.stL _ _ _,SwK.st HS.o.2 (w.heap.size+2) zQ _⟩
  intro w' hS;refine yO rfl ?_;have d0:=hS.1.er.cell 0;have dz:=hS.1.er.frozen 0;simp at d0;have HS:=yH hS;clear hS;go_wp2_with fail;exact⟨HS.o.1.stE _,SwK.st HS.o.2 (w.heap.size+3) zQ _⟩
 intro wq hq;go_wp2_with fail;refine aGm (g:=w.heap.size) rfl rfl rfl hq.1 (by first|assumption|decide) ?_;exact .inl ⟨er,HZ.o,NO.o,rfl,aNf (B2.o.trans (hq.2.below B2.o.size (fun j hj h=>zQ))) yL⟩
theorem aRz{ps:List Int}{tk pt get give:Int}(C:SwS→Prop)(hs:∀σ s k,C σ→¬σ.n≤0→aAy ps σ.ls σ.l tk pt σ.n 1099511627776 (aC5 σ.l get give)=some (s,k)→¬σ.fs.length=64→C (aMs ps tk pt σ s k)):∀(fuel:Nat) {σ:SwS},C σ→C (aB4 ps tk pt get give fuel σ).2
 | fuel,σ,h=>by
  by_cases hn:σ.n≤0
  ·rw[aHp hn];exact h
  cases hf:aAy ps σ.ls σ.l tk pt σ.n 1099511627776 (aC5 σ.l get give)with
  | none=>rw[aHq hn hf];exact h
  | some sk=>
   obtain⟨s,k⟩:=sk
   by_cases hl:σ.fs.length=64
   ·rw[aHr hn hf hl];exact h
   cases fuel with
   | zero=>
    have e:aB4 ps tk pt get give 0 σ=(13,σ):=by
     unfold aB4;rw[if_neg hn,hf];simp only[];rw[if_neg hl]
    rw[e];exact h
   | succ fuel=>rw[aHs hn hf hl];exact aRz C hs fuel (hs σ s k h hn hf hl)
theorem swapN_ok{ps:List Int}{tk pt get give:Int}:∀(fuel:Nat) {σ:SwS},(aB4 ps tk pt get give fuel σ).1=0→(aB4 ps tk pt get give fuel σ).2.n≤0
 | fuel,σ,h=>by
  by_cases hn:σ.n≤0
  ·rw[aHp hn];exact hn
  cases hf:aAy ps σ.ls σ.l tk pt σ.n 1099511627776 (aC5 σ.l get give)with
  | none=>rw[aHq hn hf]at h;exact absurd h (by show ¬(11:Int)=0;decide)
  | some sk=>
   obtain⟨s,k⟩:=sk
   by_cases hl:σ.fs.length=64
   ·rw[aHr hn hf hl]at h;exact absurd h (by show ¬(13:Int)=0;decide)
   cases fuel with
   | zero=>
    have e:aB4 ps tk pt get give 0 σ=(13,σ):=by
     unfold aB4;rw[if_neg hn,hf];simp only[];rw[if_neg hl]
    rw[e]at h;exact absurd h (by show ¬(13:Int)=0;decide)
   | succ fuel=>
    rw[aHs hn hf hl]at h ⊢;exact swapN_ok fuel h
structure SwDone(ps:List Int)(ls:List Ln)(l:List Of)(N fr pt get give n most:Int)(σ:SwS):Prop where
 inv:aE3 ps ls l N fr pt get give n σ
 got:(σ.fs.map Fl.got).sum=n
 given:(σ.fs.map Fl.gi).sum≤most
 len:σ.fs.length≤64
 may:aD1 fr pt get give n most
 parts:fr∈ps∧pt∈ps
 is:aB4 ps fr pt get give 64 ⟨ls,l,[],n⟩=(0,σ)
theorem swapF_done{ps:List Int}{ls:List Ln}{l:List Of}{N fr pt get give n most:Int}{σ:SwS}(hI:LInv ps ls)(hJ:BInv l N)(h:aDw ps ls l fr pt get give n most=(0,σ)):SwDone ps ls l N fr pt get give n most σ:=by
 unfold aDw at h
 by_cases hm:aD1 fr pt get give n most
 ·rw[if_neg (fun q=>q hm)]at h
  by_cases hp:fr∉ps∨pt∉ps
  ·rw[if_pos hp]at h;exact absurd (congrArg Prod.fst h) (by show ¬(7:Int)=0;decide)
  rw[if_neg hp]at h
  by_cases he:(aB4 ps fr pt get give 64 ⟨ls,l,[],n⟩).1≠0
  ·rw[if_pos he]at h;exact absurd (congrArg Prod.fst h) he
  rw[if_neg he]at h;have he:=Decidable.not_not.1 he
  by_cases hg:most<((aB4 ps fr pt get give 64 ⟨ls,l,[],n⟩).2.fs.map Fl.gi).sum
  ·rw[if_pos hg]at h;exact absurd (congrArg Prod.fst h) (by show ¬(12:Int)=0;decide)
  rw[if_neg hg]at h;have hn1:=swapN_ok 64 he;have hinv:=aE3.ends (tk:=fr) (pt:=pt) (get:=get) (give:=give) 64 (aE3.start hI hJ (tk:=fr) (pt:=pt) (get:=get) (give:=give) (n0:=n))
  have hn2:0≤(aB4 ps fr pt get give 64 ⟨ls,l,[],n⟩).2.n∧(aB4 ps fr pt get give 64 ⟨ls,l,[],n⟩).2.fs.length≤64:=by
   have:=aRz (ps:=ps) (tk:=fr) (pt:=pt) (get:=get) (give:=give) (fun σ=>aE3 ps ls l N fr pt get give n σ∧0≤σ.n∧σ.fs.length≤64) (fun σ s k hc hn hf hl=>by
    obtain⟨i1,i2,i3⟩:=hc;obtain⟨a,b,c,⟨o,ho,_,_⟩,d⟩:=i1.step hf;refine⟨d,?_,?_⟩
    ·unfold aMs;rw[ho];show 0≤σ.n - k;omega
    unfold aMs;rw[ho];show(σ.fs++[_]).length≤64;rw[List.length_append,List.length_singleton];omega) 64 (σ:=⟨ls,l,[],n⟩) ⟨aE3.start hI hJ,by have:=hm.2.2.2.2.2.1.1;show 0≤n;omega,zV⟩
   exact this.2
  rw[h]at hn1 hn2 hg hinv;dsimp only at hn1 hn2 hg hinv;refine⟨hinv,?_,by show _≤most;omega,hn2.2,hm,⟨Decidable.not_not.1 fun q=>hp (.inl q),Decidable.not_not.1 fun q=>hp (.inr q)⟩,h⟩;have:=hinv.sum;omega
 rw[if_pos hm]at h;exact absurd (congrArg Prod.fst h) (by show ¬(1:Int)=0;decide)
end Go.Proofs.YtngnfdnfpiiclaaGreat
namespace Go.Proofs.YtngnfdnfpiiclaaGreat
open Go.RowKit Go.Shelf
theorem ends_any(x:Fw)(w:World):Calls Tryz.prog 248 #[.agg #[.int .u8 x.fr,.int .u8 x.tt,.int .i64 x.am]] w fun e w'=>e=.returned (.tuple #[.int .u8 x.fr,.int .u8 x.tt])∧aAp w.heap.size w w':=by
 go_enter Tryz.func248,Tryz.ntmps248;go_wp2_with fail;have K:=Blk.new w #[.int .u8 x.fr,.int .u8 x.tt,.int .i64 x.am] 209;have B:=yH ((aAp.refl w.heap.size w).alloc yL (.cells #[.int .u8 x.fr,.int .u8 x.tt,.int .i64 x.am] 209));generalize w.alloc (.cells #[.int .u8 x.fr,.int .u8 x.tt,.int .i64 x.am] 209)=W at K B ⊢;have d0:=K.cell 0;have d1:=K.cell 1;simp at d0 d1;clear K
 go_quiet (fail)
 have B2:∀k,Hid (aAp w.heap.size w (W.drewN k)):=fun k=>yH ⟨⟨B.o.os,B.o.tape,B.o.output,B.o.size,B.o.block⟩,Nat.le_trans B.o.dr (Nat.le_add_right _ _)⟩
 clear B;go_wp2_with fail;refine bodyPost_ret (v:=.tuple #[.int .u8 x.fr,.int .u8 x.tt]) (by simp[results,Tryz.results248,go_sem]) rfl ?_;exact⟨rfl,(B2 _).out⟩
theorem byends_any(x y:Fw){w:World}{h:Nat}(hh:Blk w h #[.func (.func 248) #[] #[]] 350):
  Calls Tryz.prog 280 #[.agg #[.int .u8 x.fr,.int .u8 x.tt,.int .i64 x.am],.agg #[.int .u8 y.fr,.int .u8 y.tt,.int .i64 y.am],.pointer (some ⟨h,0,none⟩)] w fun e w'=>e=.returned (.int .i64 (ordF x y))∧aAp w.heap.size w w':=by
 unfold ordF;have c1:=yH (fun w=>aJk x.fr y.fr w);have c2:=yH (fun w=>aJk x.tt y.tt w);have e1:=yH (fun w=>ends_any x w);have e2:=yH (fun w=>ends_any y w);have hen:∀args w,(callFunc 248 args).run Tryz.prog w=.ok (.enter 248 args) w:=enters_of Tryz.func248 zW rfl;generalize cmpD x.fr y.fr=p at *;generalize cmpD x.tt y.tt=q at *;have d0:=hh.cell 0;simp at d0;have hlt:=hh.lt;have HH:=yH hh;clear hh;go_enter Tryz.func280,Tryz.ntmps280;go_wp2_with fail;have KY:=yH (pAB (w.alloc (.cells #[.int .u8 x.fr,.int .u8 x.tt,.int .i64 x.am] 209)) #[.int .u8 y.fr,.int .u8 y.tt,.int .i64 y.am] 209 (g:=w.heap.size+1) zV);have B0:=yH (((aAp.refl w.heap.size w).alloc yL (.cells #[.int .u8 x.fr,.int .u8 x.tt,.int .i64 x.am] 209)).alloc zV (.cells #[.int .u8 y.fr,.int .u8 y.tt,.int .i64 y.am] 209));refine(e1.out _).mono ?_;rintro e w1 ⟨rfl,b1⟩;have HH1:=(HH.o.below B0.o.toBelow HH.o.lt).below b1.toBelow (uS B0.o.size HH.o.lt);have KY1:=KY.o.below b1.toBelow KY.o.lt;have B1:=yH (B0.o.trans (b1.mono B0.o.size));clear b1 d0 hlt;have d0:=HH1.cell 0;have d1:=KY1.cell 0;have d2:=KY1.cell 1;have d3:=KY1.cell 2;simp at d0 d1 d2 d3;clear HH1 KY1;go_wp2_with fail;refine(e2.out _).mono ?_;rintro e w2 ⟨rfl,b2⟩;have B2:=yH (B1.o.trans (b2.mono B1.o.size));clear b2 d0 d1 d2 d3;go_wp2_with fail;refine(c1.out _).mono ?_;rintro e w3 ⟨rfl,rfl⟩;go_wp2_with fail;refine(c2.out _).mono ?_;rintro e w4 ⟨rfl,rfl⟩;have KB:=Blk.new w4 #[.int .i64 p,.int .i64 q] 3;have B3:=yH (B2.o.alloc B2.o.size (.cells #[.int .i64 p,.int .i64 q] 3));have HO:=yH (or_pair w4.heap.size 2 p q _ KB.lt (KB.cell 0) (KB.cell 1));clear KB;go_wp2_with fail;refine HO.o.mono ?_;rintro e w5 ⟨rfl,rfl⟩;go_wp2_with fail;go_ret;exact⟨rfl,B3.o⟩
end Go.Proofs.YtngnfdnfpiiclaaGreat
namespace Go.Proofs.YtngnfdnfpiiclaaGreat
open Go.RowKit Go.Shelf Go.Sort Go.Lib
instance:Inhabited Fw:=⟨⟨0,0,0⟩⟩
theorem aP0(x y:Fw):ordF x y<0↔(x.fr<y.fr∨(x.fr=y.fr∧x.tt<y.tt)):=by
 unfold ordF orD cmpD
 (repeat' split) <;> omega
theorem swoF:SWO (ltOf ordF) where
 irrefl x:=by unfold ltOf;rw[decide_eq_false_iff_not,aP0];omega
 trans x y z h1 h2:=by
  unfold ltOf at *;rw[decide_eq_true_eq,aP0]at *;omega
 ntrans x y z h1 h2:=by
  unfold ltOf at *;rw[decide_eq_false_iff_not,aP0]at *;omega
theorem flat_fws(ls:List Fw){j:Nat}(h:j<ls.length*3):(flatK Fw.vals 3 ls.toArray)[j]! = (aAn ls)[j]'(by rw[aDa];exact h):=by
 rw[get_flatK _ _ _ j y7];have h1:j/3<ls.length:=zQ
 have h2:j%3<3:=Nat.mod_lt _ zQ;have h3:=aCn ls (j/3) (j%3) h2 h1;rw[show j/3*3+j%3=j by omega]at h3;rw[List.getElem?_eq_getElem (by rw[aDa];exact h)]at h3;have h4:(ls.toArray)[j/3]! = ls[j/3]:=by simp[h1]
 rw[h4,List.getElem!_eq_getElem?_getD,←h3];rfl
theorem holds_fws{w:World}{g:Nat}{cur:Array Value}{e:TypeId}{ls:List Fw}(hb:w.heap[g]? = some (.cells cur e (0,0)))(ht:cur.toList.take (ls.length*3)=aAn ls):HoldsK Fw.vals 3 w g 0 ls.toArray:=by
 intro j hj;have hj':j<ls.length*3:=xI
 refine⟨?_,by simp[World.frozen?,hb]⟩;rw[flat_fws ls hj'];have h1:(cur.toList.take (ls.length*3))[j]? = (aAn ls)[j]? := by rw[ht]
 rw[List.getElem?_take_of_lt hj']at h1;simp only[World.cell?,hb,Nat.zero_add];simp only[Option.isSome_none,Bool.false_eq_true,if_false];rw[←Array.getElem?_toList,h1,List.getElem?_eq_getElem (by rw[aDa];exact hj')];rfl
theorem heap_fws{w:World}{g n:Nat}{os:Array Obj}{cur:Array Value}{e:TypeId}(d:Array Fw)(hb:w.heap[g]? = some (.cells cur e (0,0))):
  (sortWorldK Fw.vals 3 w g 0 n d os).heap[g]? = some (.cells (putCells id 0 (flatK Fw.vals 3 d) cur) e (0,0)):=by
 have hg:g<w.heap.size:=(Array.getElem?_eq_some_iff.1 hb).1;unfold sortWorldK putRowK;rw[heap_grow_old _ _ (uN hg)];simp[putRow,mapBlock,Go.Sort.ahead,Array.getElem?_modify,hb,onCells]
theorem keep_fws{w:World}{g n:Nat}{os:Array Obj}(d:Array Fw):Keep (·=g) w (sortWorldK Fw.vals 3 w g 0 n d os):=by
 refine⟨rfl,rfl,rfl,vO,fun k hk hne=>?_⟩;unfold sortWorldK putRowK;rw[heap_grow_old _ _ wK];have:g≠k:=fun e=>hne e.symm
 simp[putRow,mapBlock,Go.Sort.ahead,Array.getElem?_modify,this]
theorem take_fws(cur:Array Value)(ls:List Fw)(h:ls.length*3≤cur.size):(putCells id 0 (flatK Fw.vals 3 ls.toArray) cur).toList.take (ls.length*3)=aAn ls:=by
 apply List.ext_getElem?;intro j
 by_cases hj:j<ls.length*3
 ·have hf:=flat_fws ls hj;rw[List.getElem?_take_of_lt hj,Array.getElem?_toList,List.getElem?_eq_getElem (by rw[aDa];exact hj),←hf];simp[putCells,hj,show j<cur.size by omega]
 rw[List.getElem?_take_eq_none zQ,List.getElem?_eq_none (uT aDa)]
theorem sorted_fws{f m:List Fw}(hp:f.Perm m)(hm:m.Pairwise fun x y=>keyD x<keyD y)(hb:∀x∈m,0≤x.tt∧x.tt≤255)(d:Array Fw)(h1:PermIn 0 f.toArray.size f.toArray d)(h2:SortedIn (ltOf ordF) 0 f.toArray.size d):d.toList=m:=by
 obtain⟨hs,_,hperm⟩:=h1
 have hpd:d.toList.Perm f:=by
  have e1:d.extract 0 f.toArray.size=d:=vD
  rw[e1,Array.extract_size]at hperm;simpa using hperm
 have hpl:=hpd.trans hp;have hne:d.toList.Pairwise fun x y=>keyD x≠keyD y:=(hpl.symm.pairwise_iff (fun{a b} (h:keyD a≠keyD b)=>h.symm)).1 (hm.imp fun h=>zQ)
 refine List.Perm.eq_of_pairwise (fun a b _ _ h1 h2=>absurd h1 zQ) (le:=fun x y=>keyD x<keyD y) ?_ hm hpl;rw[List.pairwise_iff_getElem]at hne ⊢;intro i j hi hj hij;have hn:=hne i j hi hj hij;have hi':i<d.size:=xX
 have hj':j<d.size:=xI
 have hso:=h2 i j (Nat.zero_le _) hij (by rw[←hs];exact hj');rw[getElem!_pos d i hi',getElem!_pos d j hj']at hso;have b1:=hb d[i] (hpl.mem_iff.1 zV);have b2:=hb d[j] (hpl.mem_iff.1 zV);unfold ltOf at hso;rw[decide_eq_false_iff_not,aP0]at hso;simp only[Array.getElem_toList]at hn ⊢;unfold keyD at hn ⊢;omega
end Go.Proofs.YtngnfdnfpiiclaaGreat
namespace Go.Proofs.YtngnfdnfpiiclaaGreat
open Go.RowKit Go.Shelf Go.Lib
open Go.Sort (grow flatK putCells HoldsK PermIn SortedIn SWO)
def sortF_ren:Go.Shelf.Ren:=⟨fun|6=>279|15=>141|14=>307|28=>186|29=>187|20=>322|21=>323|22=>324|23=>325|24=>326|25=>327|26=>328|27=>329|46=>345|47=>219|48=>220|49=>346|50=>347|57=>353|n=>n,fun|22=>203|24=>209|25=>372|3=>3|39=>227|0=>0|53=>278|55=>44|4=>4|46=>271|45=>270|50=>275|5=>5|9=>9|66=>310|70=>313|76=>358|77=>359|n=>n,fun|n=>n⟩
theorem sortF:Go.Proofs.SlLaysF0.n6 Tryz.prog sortF_ren:={
 mixed:=zW
 f6:=⟨Tryz.f279.name,zX,Tryz.func279.trans (congrArg some zW)⟩
 f14:=⟨Tryz.f307.name,zX,Tryz.func307.trans (congrArg some zW)⟩
 f15:=Tryz.func141.trans (congrArg some zW)
 f20:=⟨Tryz.f322.name,zX,Tryz.func322.trans (congrArg some zW)⟩
 f21:=⟨Tryz.f323.name,zX,Tryz.func323.trans (congrArg some zW)⟩
 f22:=⟨Tryz.f324.name,zX,Tryz.func324.trans (congrArg some zW)⟩
 f23:=⟨Tryz.f325.name,zX,Tryz.func325.trans (congrArg some zW)⟩
 f24:=⟨Tryz.f326.name,zX,Tryz.func326.trans (congrArg some zW)⟩
 f25:=⟨Tryz.f327.name,zX,Tryz.func327.trans (congrArg some zW)⟩
 f26:=⟨Tryz.f328.name,zX,Tryz.func328.trans (congrArg some zW)⟩
 f27:=⟨Tryz.f329.name,zX,Tryz.func329.trans (congrArg some zW)⟩
 f28:=Tryz.func186.trans (congrArg some zW)
 f29:=Tryz.func187.trans (congrArg some zW)
 f46:=⟨Tryz.f345.name,zX,Tryz.func345.trans (congrArg some zW)⟩
 f47:=Tryz.func219.trans (congrArg some zW)
 f48:=Tryz.func220.trans (congrArg some zW)
 f49:=⟨Tryz.f346.name,zX,Tryz.func346.trans (congrArg some zW)⟩
 f50:=⟨Tryz.f347.name,zX,Tryz.func347.trans (congrArg some zW)⟩
 f57:=⟨Tryz.f353.name,zX,Tryz.func353.trans (congrArg some zW)⟩
 t0:=Tryz.underlying0
 a0:=Tryz.isAgg0
 z0:=Tryz.sizeOf0
 v0:=Tryz.zeroValue0
 t3:=Tryz.underlying3
 a3:=Tryz.isAgg3
 z3:=Tryz.sizeOf3
 v3:=Tryz.zeroValue3
 t4:=Tryz.underlying4
 a4:=Tryz.isAgg4
 z4:=Tryz.sizeOf4
 v4:=Tryz.zeroValue4
 t5:=Tryz.underlying5
 a5:=Tryz.isAgg5
 z5:=Tryz.sizeOf5
 v5:=Tryz.zeroValue5
 t9:=Tryz.underlying9
 a9:=Tryz.isAgg9
 z9:=Tryz.sizeOf9
 v9:=Tryz.zeroValue9
 t22:=Tryz.underlying203
 a22:=Tryz.isAgg203
 z22:=Tryz.sizeOf203
 v22:=Tryz.zeroValue203
 t25:=Tryz.underlying372
 a25:=Tryz.isAgg372
 z25:=Tryz.sizeOf372
 v25:=Tryz.zeroValue372
 t39:=Tryz.underlying227
 a39:=Tryz.isAgg227
 z39:=Tryz.sizeOf227
 v39:=Tryz.zeroValue227
 t45:=Tryz.underlying270
 a45:=Tryz.isAgg270
 z45:=Tryz.sizeOf270
 v45:=Tryz.zeroValue270
 t46:=Tryz.underlying271
 a46:=Tryz.isAgg271
 z46:=Tryz.sizeOf271
 v46:=Tryz.zeroValue271
 t50:=Tryz.underlying275
 a50:=Tryz.isAgg275
 z50:=Tryz.sizeOf275
 v50:=Tryz.zeroValue275
 t53:=Tryz.underlying278
 a53:=Tryz.isAgg278
 z53:=Tryz.sizeOf278
 v53:=Tryz.zeroValue278
 t55:=Tryz.underlying44
 a55:=Tryz.isAgg44
 z55:=Tryz.sizeOf44
 v55:=Tryz.zeroValue44
 t66:=Tryz.underlying310
 a66:=Tryz.isAgg310
 z66:=Tryz.sizeOf310
 v66:=Tryz.zeroValue310
 t70:=Tryz.underlying313
 a70:=Tryz.isAgg313
 z70:=Tryz.sizeOf313
 v70:=Tryz.zeroValue313
 t76:=Tryz.underlying358
 a76:=Tryz.isAgg358
 z76:=Tryz.sizeOf358
 v76:=Tryz.zeroValue358
 t77:=Tryz.underlying359
 a77:=Tryz.isAgg359
 z77:=Tryz.sizeOf359
 v77:=Tryz.zeroValue359 }
theorem sortF_any{w:World}{base h:Nat}{v:Value}{f m:List Fw}(hp:f.Perm m)(hm:m.Pairwise fun x y=>keyD x<keyD y)(hb:∀x∈m,0≤x.tt∧x.tt≤255)(hl:f.length≤1000)(ho:w.ownsRow base 209 3 v f.length (aAn f))
  (hh:Blk w h #[.func (.func 248) #[] #[]] 350):
  Calls Tryz.prog 279 #[v,.func (.func 280) #[] #[.pointer (some ⟨h,0,none⟩)]] w fun e w'=>e=.returned (.tuple #[])∧w'.ownsRow base 209 3 v m.length (aAn m)∧Keep (fun b=>v.ownBlock=some b) w w':=by
 have hlen:=hp.length_eq;rcases ho.2 with⟨rfl,h0⟩|⟨g,cap,cur,rfl,hbase,hbl,h1,h2,h3,h4⟩
 ·rw[h0]at hlen;have:m=[]:=List.eq_nil_of_length_eq_zero hlen.symm;subst this;refine(AnyF.slices_SortFunc_none { sortF with } none 0 (.func (.func 280) #[] #[.pointer (some ⟨h,0,none⟩)]) w).mono ?_;rintro e w' ⟨rfl,rfl⟩;exact⟨rfl,World.ownsRow_nil _ _ _ _,Keep.refl _ _⟩
 have hg:g<w.heap.size:=(Array.getElem?_eq_some_iff.1 hbl).1
 have hne:¬h=g:=fun e=>by
  subst e;have e1:w.heap[h]? = some (.cells #[.func (.func 248) #[] #[]] 350 (0,0)):=hh;rw[hbl]at e1;simp at e1
 have eg:∀args w,(callFunc 280 args).run Tryz.prog w=.ok (.enter 280 args) w:=enters_of Tryz.func280 zW rfl;have hcmp:CmpLays Tryz.prog 280 #[.pointer (some ⟨h,0,none⟩)] Fw.vals 3 ordF g 0 f.toArray.size w:=fun m os dk _ x y=>(byends_any x y (hh.keep (keep_fws dk) hne)).mono fun e w' ⟨he,hb⟩=>⟨he,hb.grown⟩
 have hc:=AnyQ.slices_SortFunc (P:=Tryz.prog) sortF 3 Tryz.isAgg209 Tryz.sizeOf209 Fw.vals (fun _=>rfl) (fun x u hu=>by simp[Fw.vals]at hu;rcases hu with rfl|rfl|rfl <;> rfl) ordF swoF 280 #[.pointer (some ⟨h,0,none⟩)] g 0 cap f.toArray w eg hcmp (holds_fws hbl h4) hg zU;have hsz:f.toArray.size=f.length:=zV
 rw[hsz]at hc;refine Calls.mono hc ?_;rintro e w' ⟨rfl,d,n,os,hp1,hs1,rfl⟩;have hd:=sorted_fws hp hm hb d (by rw[hsz];exact hp1) (by rw[hsz];exact hs1);have hda:d=m.toArray:=by rw[←hd]
 subst hda;refine⟨rfl,⟨aDa m,.inr ⟨g,cap,_,by rw[hlen],hbase,heap_fws _ hbl,zQ,h2,by simp[putCells,h3],take_fws cur m zQ⟩⟩,(keep_fws _).mono fun k _ hk=>by rw[hk];rfl⟩
theorem sortE_any{w:World}{base:Nat}{v:Value}{f m:List Fw}(hp:f.Perm m)(hm:m.Pairwise fun x y=>keyD x<keyD y)(hb:∀x∈m,0≤x.tt∧x.tt≤255)(hl:f.length≤1000)(ho:w.ownsRow base 209 3 v f.length (aAn f)):
  Calls Tryz.prog 247 #[v,.func (.func 248) #[] #[]] w fun e w'=>e=.returned (.tuple #[])∧w'.ownsRow base 209 3 v m.length (aAn m)∧Keep (fun b=>v.ownBlock=some b) w w':=by
 have B:=yH ((Keep.refl (fun b=>v.ownBlock=some b) w).alloc (.cells #[.func (.func 248) #[] #[]] 350));have CS:=yH (sortF_any hp hm hb hl (ho.alloc (.cells #[.func (.func 248) #[] #[]] 350)) (Blk.new w #[.func (.func 248) #[] #[]] 350));clear hp hm hb hl ho;go_enter Tryz.func247,Tryz.ntmps247;go_wp2_with fail;refine CS.o.mono ?_;rintro e w1 ⟨rfl,h1,h2⟩;have H1:=yH h1;have H2:=yH (B.o.trans h2);clear h1 h2;go_wp2_with fail;go_end0;exact⟨rfl,H1.o,H2.o⟩
end Go.Proofs.YtngnfdnfpiiclaaGreat
namespace Go.Proofs.YtngnfdnfpiiclaaGreat
open Go.RowKit
def dbOf(c:Int)(x:Ln):List Fw:=if x.cu=c∧0<x.db then [⟨x.de,x.cr,x.db⟩]else []
def dbL(c:Int)(ls:List Ln):List Fw:=ls.flatMap (dbOf c)
theorem dbL_next{c:Int}{ls:List Ln}{k:Nat}(h:k<ls.length):dbL c (ls.take (k+1))=dbL c (ls.take k)++dbOf c ls[k]:=by
 unfold dbL;rw[List.take_succ_eq_append_getElem h,List.flatMap_append];simp
theorem aP1(c:Int):∀ls:List Ln,(dbL c ls).length≤ls.length
 | []=>Nat.le_refl _
 | x::ls=>by
  have ih:=aP1 c ls;show(dbOf c x++dbL c ls).length≤_;rw[List.length_append];unfold dbOf;split <;> simp <;> omega
theorem dbL_mem{c:Int}{ls:List Ln}{x:Fw}:x∈dbL c ls↔∃y∈ls,y.cu=c∧0<y.db∧x=⟨y.de,y.cr,y.db⟩:=by
 unfold dbL;rw[List.mem_flatMap]
 constructor
 ·rintro⟨y,hy,hx⟩;unfold dbOf at hx;split at hx
  ·rename_i hc;rw[List.mem_singleton]at hx;exact⟨y,hy,hc.1,hc.2,hx⟩
  cases hx
 rintro⟨y,hy,h1,h2,rfl⟩;refine⟨y,hy,?_⟩;unfold dbOf;rw[if_pos ⟨h1,h2⟩];exact List.mem_singleton.2 rfl
theorem aR0{c:Int}:∀{ls:List Ln},(∀x∈ls,x.Good)→ls.Pairwise (fun x y=>x.rank<y.rank)→(dbL c ls).Nodup
 | [],_,_=>List.Pairwise.nil
 | x::ls,hg,hp=>by
  obtain⟨p1,p2⟩:=List.pairwise_cons.1 hp;have ih:=aR0 (c:=c) (fun y hy=>hg y (List.mem_cons_of_mem _ hy)) p2;show(dbOf c x++dbL c ls).Pairwise _;rw[List.pairwise_append];refine⟨by unfold dbOf;split <;> simp,ih,fun a ha b hb=>?_⟩;obtain⟨y,hy,h1,h2,rfl⟩:=dbL_mem.1 hb;unfold dbOf at ha;split at ha
  ·rename_i hc;rw[List.mem_singleton]at ha;subst ha;intro e;simp only[Fw.mk.injEq]at e;have hr:=p1 y hy;have:x.rank=y.rank:=aIg e.2.1 e.1 (hc.1.trans h1.symm);omega
  cases ha
theorem dbL_perm{ps:List Int}{ls:List Ln}(h:LInv ps ls)(c:Int):(dbL c ls).Perm (aA4 ls c):=by
 refine(List.perm_ext_iff_of_nodup (aR0 h.inv.good h.inv.sorted) ((aGh ls c).imp (fun{a b} hab e=>by subst e;omega))).2 fun x=>?_
 rw[dbL_mem,aHw]
 constructor
 ·rintro⟨y,hy,rfl,h2,rfl⟩;have hg:=h.inv.good y hy;have hl:=(aBy h.inv y.cr y.de y.cu y).2 ⟨hy,rfl,rfl,rfl⟩;refine⟨hg.de,hg.cr,h2,?_⟩;unfold aM3;rw[aAk hl]
 rintro⟨_,_,h3,h4⟩;obtain⟨y,hl,hy,_,k1,k2,k3⟩:=aM6 h (c:=c) (a:=x.fr) (b:=x.tt) (by rw[←h4];exact h3);obtain⟨hm,_⟩:=(aBy h.inv _ _ _ y).1 hl;have e:x.am=y.db:=by rw[h4];unfold aM3;rw[hy]
 refine⟨y,hm,k3,zQ,?_⟩
 cases x
 simp_all
theorem debts_fit8(ls:List Ln)(c:Int):∀x∈aA4 ls c,0≤x.tt∧x.tt≤255:=fun x hx=>by
 obtain⟨_,h,_⟩:=aHw.1 hx;omega
theorem aT6{ps:List Int}{ls:List Ln}(h:LInv ps ls)(c:Int):(aA4 ls c).length≤64:=by
 rw[← (dbL_perm h c).length_eq];exact Nat.le_trans (aP1 c ls) h.len
def DbsAt(W:World)(c:Int)(ls:List Ln)(v i:Value)(wr:World):Prop:=
 ∃k:Nat,k≤ls.length∧i=.int .i64 k∧wr.ownsRow W.heap.size 209 3 v (dbL c (ls.take k)).length (aAn (dbL c (ls.take k)))∧Below W.heap.size W wr
theorem pdebts_at{w:World}{G M:Nat}{ps:List Int}{ls:List Ln}(hL:LedM w G M ps ls)(hI:LInv ps ls)(c:Int)(hc:In8 c):
  Calls Tryz.prog 206 #[.pointer (some ⟨G,0,none⟩),.int .u8 c] w (aFb w 209 3 (aA4 ls c).length (aAn (aA4 ls c))):=by
 have C1:=yH (aOn hL hI);have HP:=yH (dbL_perm hI c);have hl64:=hI.len;clear hL hI;go_enter Tryz.func206,Tryz.ntmps206;go_wp2_with fail;refine C1.o.mono ?_;rintro e w1 ⟨lv,rfl,hr,hb⟩;obtain⟨ao,rfl,hsh⟩:=aF1 hr
 have HS:Hid (0<ls.length→∃g,ao=some ⟨g,0,none⟩∧g<w1.heap.size∧∀j,j<ls.length*5→w1.cell? ⟨g,j,none⟩=(aA9 ls)[j]?):=yH (fun h0=>by
  obtain⟨g,h1,_,h2,h3⟩:=hsh h0;exact⟨g,h1,h2,h3⟩)
 have B1:=yH hb;clear hr hb hsh C1;go_wp2_with fail
 go_loopw [5,11] (fun v i wr=>DbsAt w1 c ls v i wr) (fun _ i _=>ls.length - (intOf i).toNat)
 case atStart=>exact⟨0,zQ,rfl,World.ownsRow_nil _ _ _ _,yZ⟩
 obtain⟨k,hk,rfl,hO,hB⟩:=hrel;have OO:=yH hO;have BB:=yH hB;clear hO hB
 by_cases hkl:k<ls.length
 ·have hki:(k:Int)<(ls.length:Int):=zQ
  have hk0:(0:Int)≤(k:Int):=zQ
  obtain⟨g,rfl,hg,hcell⟩:=HS.o zQ;have NX:=yH (dbL_next (c:=c) hkl);have HLEN:=yH (show(dbL c (ls.take k)).length≤100000 by have:=aP1 c (ls.take k);rw[List.length_take]at this;omega);generalize dbL c (ls.take k)=out at *;obtain⟨x,hx⟩:∃x,ls[k]=x:=⟨_,rfl⟩
  have hv:∀j,j<5→wr.cell? ⟨g,k*5+j,none⟩=x.vals[j]? := fun j hj=>by
   rw[BB.o.cell (p:=⟨g,k*5+j,none⟩) hg,hcell _ zQ,aA5 ls k j hj hkl,hx]
  rw[hx]at NX;obtain⟨cr,de,cu,li,db⟩:=x;have d0:wr.cell? ⟨g,k*5,none⟩=some (.int .u8 cr):=hv 0 zX;have d1:wr.cell? ⟨g,k*5+1,none⟩=some (.int .u8 de):=hv 1 zX;have d2:wr.cell? ⟨g,k*5+2,none⟩=some (.int .u8 cu):=hv 2 zX;have d3:wr.cell? ⟨g,k*5+3,none⟩=some (.int .i64 li):=hv 3 zX;have d4:wr.cell? ⟨g,k*5+4,none⟩=some (.int .i64 db):=hv 4 zX;have HKL:=yH hkl;clear hv hx hcell hkl;unfold dbOf at NX;dsimp only at NX;have HS0:=BB.o.size
  by_cases hc1:cu=c
  ·have q1:(cu==c)=true:=uN hc1
   by_cases hd:0<db
   ·have q2:decide (0<db)=true:=uN hd
    rw[if_pos ⟨hc1,hd⟩]at NX;clear hd hc1;go_wp2_with (at_builtin;refine aGp _ rfl (.tmp 24) (.tmp 32) rfl w1.heap.size _ out rfl ((OO.o.alloc _).alloc _) (wr.heap.size+1) 1 (⟨de,cr,db⟩:Fw) xU (pAB _ _ _ zV) HLEN.o zU ?_);intro v3 w3 hown3 hgr3;have O3:=yH (show w3.ownsRow w1.heap.size 209 3 v3 (out++[(⟨de,cr,db⟩:Fw)]).length (aAn (out++[(⟨de,cr,db⟩:Fw)])) by simpa using hown3);have B3:=yH (((BB.o.alloc HS0 _).alloc zU _).grown hgr3 zU (fun k hk=>(aAe OO.o hk).1));clear hown3 hgr3;go_wp2_with fail;exact⟨⟨k+1,xE,by go_num,vC,B3.o⟩,y6⟩
   have q2:decide (0<db)=false:=uN hd
   rw[if_neg (fun e=>hd e.2),List.append_nil]at NX;clear hd hc1;go_wp2_with fail;exact⟨⟨k+1,xE,by go_num,by rw[NX.o];exact OO.o.alloc _,BB.o.alloc HS0 _⟩,y6⟩
  have q1:(cu==c)=false:=uN hc1
  rw[if_neg (fun e=>hc1 e.1),List.append_nil]at NX;clear hc1;go_wp2_with fail;exact⟨⟨k+1,xE,by go_num,by rw[NX.o];exact OO.o.alloc _,BB.o.alloc HS0 _⟩,y6⟩
 have hke:k=ls.length:=zQ
 subst hke;have OE:=OO.o;rw[List.take_length]at OE;have CS:=yH (sortE_any HP.o (aGh ls c) (debts_fit8 ls c) (uF (aP1 c ls)) OE);have OT:=yH OE;clear OE OO;go_wp2_with fail;refine CS.o.mono ?_;rintro e w2 ⟨rfl,ho2,hk2⟩;have B2:=yH (BB.o.trans (hk2.below BB.o.size (fun k hk he=>by have:=(aAe OT.o he).1;omega)));have CC:=yH (aI8 ho2);clear ho2 hk2 CS OT;go_wp2_with fail;refine CC.o.mono ?_;rintro e w3 ⟨v',rfl,hrow,_,rfl⟩;have HRow:=yH hrow;clear hrow CC;go_wp2_with fail;refine bodyPost_ret (v:=v') (by simp[results,Tryz.results206,go_sem]) rfl ?_;exact⟨v',rfl,HRow.o.base B1.o.size,B1.o.trans (B2.o.mono B1.o.size)⟩
def RestAt(W:World)(l:List Fw)(a b:Int)(i:Value)(wr:World):Prop:=∃k:Nat,k≤l.length∧i=.int .i64 k∧Hid (ofL l a b=ofN l a b (l.length - k))∧Below W.heap.size W wr
theorem rest_any{w:World}{ao:Option Addr}{cap:Nat}{l:List Fw}(hr:aFm w ao l)(hln:l.length≤240)(fr tt am:Int):
  Calls Tryz.prog 208 #[.slice ao l.length cap,.agg #[.int .u8 fr,.int .u8 tt,.int .i64 am]] w (yR w (.int .i64 (ofL l fr tt))):=by
 have HC:=yH hr;clear hr;go_enter Tryz.func208,Tryz.ntmps208;go_wp2_with fail;have KX:=yH (Blk.new w #[.int .u8 fr,.int .u8 tt,.int .i64 am] 209);have B0:=yH ((Below.refl w.heap.size w).alloc yL (.cells #[.int .u8 fr,.int .u8 tt,.int .i64 am] 209));generalize w.alloc (.cells #[.int .u8 fr,.int .u8 tt,.int .i64 am] 209)=W at KX B0 ⊢
 go_loopw [9] (RestAt W l fr tt) (fun i _=>l.length - (intOf i).toNat)
 case atStart=>exact⟨0,zQ,rfl,yH rfl,yZ⟩
 obtain⟨k,hk,rfl,HO,hB⟩:=hrel;have BB:=yH hB;have B1:=yT B0 hB;have kk:=KX.o.below hB KX.o.lt;have x0:=kk.cell 0;have x1:=kk.cell 1;simp at x0 x1;have hxl:=kk.lt;clear hB kk
 by_cases hkl:k<l.length
 ·have k0:(0:Int)≤(k:Int):=zQ
  have k1:(k:Int)<(l.length:Int):=zQ
  obtain⟨g,off,rfl,hbw,hcell⟩:=HC.o zQ;obtain⟨c0,c1,c2⟩:=hcell k hkl;have e0:=(B1.o.cell (p:=⟨g,off+k*3,none⟩) hbw).trans c0;have e1:=(B1.o.cell (p:=⟨g,off+k*3+1,none⟩) hbw).trans c1;have e2:=(B1.o.cell (p:=⟨g,off+k*3+2,none⟩) hbw).trans c2;have NX:=yH (HO.o.trans (ofN_next l fr tt hkl));have HLT:=yH hkl;obtain⟨x,hx⟩:∃x,dbt l k=x:=⟨_,rfl⟩;rw[hx]at e0 e1 e2 NX;obtain⟨fx,tx,ax⟩:=x;dsimp only at e0 e1 e2 NX;clear hcell c0 c1 c2 hx HO;have BS:=BB.o.size
  by_cases h1:fx=fr
  ·have q1:(fx==fr)=true:=zN
   by_cases h2:tx=tt
   ·have q2:(tx==tt)=true:=zF
    have RZ:Hid (ofL l fr tt=ax):=yH (by rw[NX.o,if_pos ⟨h1,h2⟩]);clear h1 h2;go_wp2_with fail;go_ret;exact⟨by rw[RZ.o];rfl,B1.o.alloc B1.o.size _⟩
   have q2:(tx==tt)=false:=zF
   have RZ:Hid (ofL l fr tt=ofN l fr tt (l.length - (k+1))):=yH (by rw[NX.o,if_neg (fun h=>h2 h.2)]);clear h1 h2;go_wp2_with fail;exact⟨⟨k+1,v6,by go_num,RZ,BB.o.alloc BS _⟩,by simp[intOf];have:=HLT.o;omega⟩
  have q1:(fx==fr)=false:=zN
  have RZ:Hid (ofL l fr tt=ofN l fr tt (l.length - (k+1))):=yH (by rw[NX.o,if_neg (fun h=>h1 h.1)]);clear h1;go_wp2_with fail;exact⟨⟨k+1,v6,by go_num,RZ,BB.o.alloc BS _⟩,by simp[intOf];have:=HLT.o;omega⟩
 have hkn:k=l.length:=zQ
 subst hkn;have RZ:Hid (ofL l fr tt=0):=yH (by rw[HO.o,Nat.sub_self];rfl);go_wp2_with fail;go_ret;exact⟨by rw[RZ.o];rfl,B1.o⟩
theorem aOr(c:Int)(w:World):
  Calls Tryz.prog 205 #[.int .u8 c] w fun e w'=>e=.returned (.bool (decide (1≤c∧c≤8)))∧w'=w:=by
 by_cases h1:1≤c
 ·by_cases h2:c≤8
  ·rw[decide_eq_true (show 1≤c∧c≤8 from⟨h1,h2⟩)];go_enter Tryz.func205,Tryz.ntmps205;go_wp2_with fail;go_ret;exact⟨rfl,rfl⟩
  rw[decide_eq_false (show ¬(1≤c∧c≤8)from fun h=>h2 h.2)];go_enter Tryz.func205,Tryz.ntmps205;go_wp2_with fail;go_ret;exact⟨rfl,rfl⟩
 rw[decide_eq_false (show ¬(1≤c∧c≤8)from fun h=>h1 h.1)];go_enter Tryz.func205,Tryz.ntmps205;go_wp2_with fail;go_ret;exact⟨rfl,rfl⟩
theorem aT7{w:World}{g m:Nat}{ps:List Int}{ls:List Ln}(h:LedM w g m ps ls):
  Calls Tryz.prog 151 #[.pointer (some ⟨g,0,none⟩),.int .u8 0] w (yS w (.int .i64 1)):=by
 have C1:=yH (aF3 h.blk);have C2:=yH (aCr 0 w);rw[show mayP 0=false by rfl]at C2;clear h;go_enter Tryz.func151,Tryz.ntmps151;go_wp2_with fail;refine C1.o.mono ?_;rintro e w ⟨rfl,rfl⟩;go_wp2_with fail;refine C2.o.mono ?_;rintro e w ⟨rfl,rfl⟩;go_wp2_with fail;go_ret;exact⟨rfl,rfl⟩
def NpAt(W:World)(G M:Nat)(ps:List Int)(ls:List Ln)(c:Int)(D:List Fw)(L:Nat→Int)(gv i:Value)(wr:World):Prop:=
 ∃k:Nat,k≤D.length∧i=.int .i64 k∧gv=.int .i64 (sumN (fun m=>(dbt D m).am - L m) k)∧LedM wr G M ps (aKg ls c D L k)∧Keep (·=M) W wr
theorem pnet_at{w:World}{G M:Nat}{ps:List Int}{ls:List Ln}(hL:LedM w G M ps ls)(hI:LInv ps ls)(c q:Int)(hc:In8 c)(hq:In64 q):
  Calls Tryz.prog 158 #[.pointer (some ⟨G,0,none⟩),.int .u8 c,.int .i64 q] w fun e w'=>∃gone many er ms,aFh ls c q gone many er ms∧e=.returned (.tuple #[.int .i64 gone,.int .i64 many,.int .i64 er])∧LedM w' G M ps ms∧Keep (·=M) w w':=by
 have C1:=yH (aT7 hL);have H:=yH hL;have II:=yH hI;have hMw:=hL.map.lt
 by_cases hcm:1≤c∧c≤8
 case neg=>
  have CM:=yH (fun w=>aOr c w);rw[decide_eq_false hcm]at CM;have HN:=yH hcm;clear hL hI hcm;go_enter Tryz.func158,Tryz.ntmps158;go_wp2_with fail;refine C1.o.mono ?_;rintro e w ⟨rfl,rfl⟩;go_wp2_with fail;refine(CM.o _).mono ?_;rintro e w ⟨rfl,rfl⟩;go_wp2_with fail;refine bodyPost_ret (v:=.tuple #[.int .i64 0,.int .i64 0,.int .i64 1]) xS rfl ?_;exact⟨0,0,1,ls,.inl ⟨fun e=>HN.o e.1,rfl,rfl,rfl,rfl⟩,rfl,H.o,Keep.refl _ _⟩
 have CM:=yH (fun w=>aOr c w);rw[decide_eq_true hcm]at CM;have HC:=yH hcm;have C2:=yH (pdebts_at hL hI c hc);have DM:=yH (aKf hI c);have DL:=yH (aT6 hI c);clear hL hI hcm;go_enter Tryz.func158,Tryz.ntmps158;go_wp2_with fail;refine C1.o.mono ?_;rintro e w ⟨rfl,rfl⟩;go_wp2_with fail;refine(CM.o _).mono ?_;rintro e w ⟨rfl,rfl⟩;go_wp2_with fail;refine C2.o.mono ?_;rintro e w1 ⟨dv,rfl,hr,hb1⟩;obtain⟨D,hD⟩:∃D,aA4 ls c=D:=⟨_,rfl⟩;have ED:=yH hD;rw[hD]at hr DM DL;obtain⟨ao,rfl,_⟩:=aF1 hr
 have HDf:aJj D:=fun m hm=>by
  obtain⟨⟨a1,a2⟩,⟨a3,a4⟩,_,a5,a6⟩:=DM.o.ok m hm;exact⟨⟨zQ,zQ⟩,⟨zQ,zQ⟩,zQ,zQ⟩
 have HD1:=yH (pAL (g:=M) hr (uF DL.o) hMw);have B1:=yH hb1;have C3:=yH (pleast_any (cap:=D.length) HD1.o.ins HDf (uF DL.o) q);have H1:=yH (H.o.below hb1);clear hr hb1 hD C1 C2 CM H HDf;go_wp2_with fail;refine C3.o.mono ?_;rintro e w2 ⟨hb2,hcase⟩;have B2:=yT B1 hb2;have H2:=yH (H1.o.below hb2);have DX:=yH (HD1.o.keep (pAD hb2));have hMw1:=yM hMw B1.o.size;clear C3 hb2 HD1 H1;rcases hcase with⟨hn,rfl⟩|⟨_,hq0,L,j,hLs,⟨hj,lv,rfl,hr⟩|⟨hj,rfl⟩⟩
 ·have hn0:¬0≤q:=fun e=>hn ⟨DM.o,e⟩
  clear hn;go_wp2_with fail;refine bodyPost_ret (v:=.tuple #[.int .i64 0,.int .i64 0,.int .i64 1]) xS rfl ?_;exact⟨0,0,1,ls,.inl ⟨fun e=>uF e.2,rfl,rfl,rfl,rfl⟩,rfl,H2.o,pAD B2.o⟩
 ·have HL:=yH hLs;have RO:=yH hLs.inv.ok
  have GB:=yH (fun k (hk:k≤D.length)=>aPh (g:=fun m=>(dbt D m).am - L m) (B:=1099511627776) k (fun m hm=>by
   have:=RO.o.lo m zQ;have:=RO.o.hi m zQ;have:=(DM.o.ok m zQ).2.2.2.2;omega))
  obtain⟨T,hT⟩:∃T,aMx D L=T:=⟨_,rfl⟩;have ET:=yH hT;rw[hT]at hr;have TL:Hid (T.length≤240):=yH (by rw[←hT];exact Nat.le_trans (aMy D L D.length) (uF DL.o));obtain⟨lo,lc,hlv⟩:∃lo lc,lv=.slice lo T.length lc:=by obtain⟨lo,e,_⟩:=aF1 hr;exact⟨lo,_,e⟩
  subst hlv;have LX:=yH (pAL (g:=M) hr (uF TL.o) hMw1);clear hr hLs;go_wp2_with fail
  go_loopw [6,37] (fun gv i wr=>NpAt w2 G M ps ls c D L gv i wr) (fun _ i _=>D.length - (intOf i).toNat)
  case atStart=>exact⟨0,zQ,rfl,rfl,H2.o,Keep.refl _ _⟩
  obtain⟨k,hk,rfl,rfl,hRL,hKK⟩:=hrel;have LL:=yH hRL;have KK:=yH hKK;have DW:=yH (DX.o.keep hKK);have LW:=yH (LX.o.keep hKK);clear hRL hKK
  by_cases hkl:k<D.length
  ·have hki:(k:Int)<(D.length:Int):=zQ
   have hk0:(0:Int)≤(k:Int):=zQ
   obtain⟨db,doff,rfl,hdb,hdg,hdc⟩:=DW.o zQ;obtain⟨d0,d1,d2⟩:=hdc k hkl;have NX:Hid (aKg ls c D L (k+1)=aBc (aKg ls c D L k) (dbt D k).tt (dbt D k).fr c ((dbt D k).am - L k)):=yH rfl;have IK:=yH (aJq II.o c D L k);have OF:=yH (ofL_left DM.o RO.o hkl);rw[ET.o]at OF;have SX:Hid (sumN (fun m=>(dbt D m).am - L m) (k+1)=sumN (fun m=>(dbt D m).am - L m) k+((dbt D k).am - L k)):=yH rfl;obtain⟨s0,s9⟩:=GB.o k hk;have hD64:=DL.o;have s8:sumN (fun m=>(dbt D m).am - L m) k≤70368744177664:=zQ
   have LO:=RO.o.lo k hkl;have LH:=RO.o.hi k hkl;obtain⟨_,_,_,ab,a9⟩:=DM.o.ok k hkl;have HKL:=yH hkl;generalize aKg ls c D L k=lk2 at *;generalize sumN (fun m=>(dbt D m).am - L m) k=s at *;generalize L k=lk at *;obtain⟨x,hx⟩:∃x,dbt D k=x:=⟨_,rfl⟩;have OK:=DM.o.ok k hkl;rw[hx]at NX SX OF d0 d1 d2 LH OK;clear hx hdc s9 hkl;obtain⟨fr,tt,am⟩:=x;obtain⟨⟨f1,f2⟩,⟨t1,t2⟩,_,ab,a9⟩:=OK;dsimp only at NX SX OF d0 d1 d2 ab a9 LH f1 f2 t1 t2;have KX0:=Blk.new wr #[.int .u8 fr,.int .u8 tt,.int .i64 am] 209;have BV:=yH ((Below.refl wr.heap.size wr).alloc yL (.cells #[.int .u8 fr,.int .u8 tt,.int .i64 am] 209))
   have CR:=yH (fun w' (k:Below (wr.alloc (.cells #[.int .u8 fr,.int .u8 tt,.int .i64 am] 209)).heap.size (wr.alloc (.cells #[.int .u8 fr,.int .u8 tt,.int .i64 am] 209)) w')=>(by
    have:=rest_any (cap:=lc) (LW.o.keep (pAD (BV.o.trans (k.mono BV.o.size)))).ins TL.o fr tt am;rw[OF.o]at this;exact this:Calls Tryz.prog 208 #[.slice lo T.length lc,.agg #[.int .u8 fr,.int .u8 tt,.int .i64 am]] w' fun e w''=>e=.returned (.int .i64 lk)∧Below w'.heap.size w' w''))
   have KX:=yH KX0;clear KX0;go_wp2_with fail;clear d0 d1 d2;generalize hX:wr.heap.size=X at KX ⊢;generalize (wr.alloc (.cells #[.int .u8 fr,.int .u8 tt,.int .i64 am] 209))=V at KX BV CR ⊢
   refine aAl zW [(.pointer (some ⟨X,2,none⟩)),(.int .i64 am),(.slice lo T.length lc),(.agg #[.int .u8 fr,.int .u8 tt,.int .i64 am]),(.int .i64 lk),(.int .i64 (am - lk)),(.int .i64 (am - lk))]
    (fun w'=>Below V.heap.size V w') zW yZ.drew ?_
   intro af haf;simp only[yG,List.append_eq,List.cons_append,List.nil_append,puts,Act.put,yA,yC,yF,yD,yE]at haf;subst haf;refine⟨?_,?_⟩
   ·simp only[yG,List.append_eq,List.cons_append,List.nil_append,aA6];refine⟨?z1,?z5,?z2,?z6,?_,?z3,?z4,trivial⟩
    case z1|z2|z3|z4=>
     intro w' hS;refine yO rfl ?_;have HS:=yH hS;clear hS;go_wp2_with fail;all_goals first|exact HS|exact⟨rfl,HS⟩|rfl|exact⟨zQ,HS.o⟩
    case z5|z6=>
     intro w' hS;refine yO rfl ?_;have d0_0:=(KX.o.below hS KX.o.lt).cell 0;have d0_1:=(KX.o.below hS KX.o.lt).cell 1;have d0_2:=(KX.o.below hS KX.o.lt).cell 2;simp at d0_0 d0_1 d0_2;have HS:=yH hS;clear hS;go_wp2_with fail;all_goals first|exact HS|exact⟨rfl,HS⟩|rfl|exact⟨zQ,HS.o⟩
    intro w' hS;refine yO rfl ?_;have HS:=yH hS;clear hS;go_wp2_with fail;refine(CR.o w' HS.o).mono ?_;rintro e w'' ⟨rfl,hb2⟩;exact⟨rfl,andB HS.o hb2⟩
   intro V2 hS2;have KX2:=KX.o.below hS2 KX.o.lt;have x0:=KX2.cell 0;have x1:=KX2.cell 1;simp at x0 x1;have BV2:=yT BV hS2;have L2:=yH (LL.o.below BV2.o);have K2:=yH (KK.o.trans (pAD BV2.o));clear hS2 KX2
   by_cases hp:0<am - lk
   ·have q8:lk<am:=zQ
    have CF:=yH (aSy L2.o IK.o.inv (a:=tt) (b:=fr) (c:=c) (n:=am - lk) ⟨zQ,zQ⟩ ⟨zQ,zQ⟩ hc ⟨zQ,zQ⟩);rw[←NX.o]at CF;have hp2:am - lk≤1099511627776:=zQ
    clear hp;go_wp2_with fail;refine CF.o.mono ?_;rintro e V3 ⟨rfl,hl3,hk3⟩;have L3:=yH hl3;have K3:=yH (K2.o.trans hk3);clear hl3 hk3;go_wp2_with fail;exact⟨⟨k+1,xE,by go_num,by rw[SX.o],L3.o,K3.o⟩,y6⟩
   have q8:¬lk<am:=zQ
   rw[aKy zQ]at NX;have hz:am - lk=0:=zQ
   rw[hz,Int.add_zero]at SX;clear hp hz;go_wp2_with fail;exact⟨⟨k+1,xE,by go_num,by rw[SX.o],by rw[NX.o];exact L2.o,K2.o⟩,y6⟩
  have hke:k=D.length:=zQ
  subst hke;have TT:=(net_is II.o c (L:=L) (by rw[ED.o];exact RO.o)).tot c;rw[if_pos rfl,ED.o]at TT;have GO:Hid (sumN (fun m=>(dbt D m).am - L m) D.length=totL ls c - totL (ntL ls c L) c):=yH zQ;have EN:Hid (ntL ls c L=aKg ls c D L D.length):=yH (by unfold ntL;rw[ED.o]);rw[GO.o];clear TT;go_wp2_with fail;refine bodyPost_ret (v:=.tuple #[.int .i64 (totL ls c - totL (ntL ls c L) c),.int .i64 j,.int .i64 0]) xS rfl ?_;exact⟨_,_,_,ntL ls c L,.inr ⟨HC.o,hq0,L,j,by rw[ED.o];exact HL.o,.inl ⟨hj,rfl,rfl,rfl,rfl⟩⟩,rfl,by rw[EN.o];exact LL.o,(pAD B2.o).trans KK.o⟩
 have HL:=yH hLs;clear hLs;go_wp2_with fail;refine bodyPost_ret (v:=.tuple #[.int .i64 0,.int .i64 0,.int .i64 13]) xS rfl ?_;exact⟨0,0,13,ls,.inr ⟨HC.o,hq0,L,j,by rw[ED.o];exact HL.o,.inr ⟨hj,rfl,rfl,rfl,rfl⟩⟩,rfl,H2.o,pAD B2.o⟩
theorem pnet_any:aTp:=⟨pnet_at⟩
end Go.Proofs.YtngnfdnfpiiclaaGreat
