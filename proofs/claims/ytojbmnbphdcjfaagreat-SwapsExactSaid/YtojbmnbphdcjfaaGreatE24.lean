/-
  Pieces of one proof, without what is not wanted: SortO2, PB7.
-/
import Derived.Test.YtojbmnbphdcjfaaGreatE01
import Derived.Test.YtojbmnbphdcjfaaGreatE02
import Derived.Test.YtojbmnbphdcjfaaGreatE17
import Derived.Test.YtojbmnbphdcjfaaGreatE20
import Derived.Test.YtojbmnbphdcjfaaGreatE23
import Derived.Deep.MidRow
set_option linter.unusedSimpArgs false
set_option linter.unusedVariables false
namespace Go.Proofs.YtojbmnbphdcjfaaGreat
open Go.RowKit Go.Shelf Go.Sort Go.Lib
def OrdI (W:World) (p q:Int) (g:Nat) (D:Nat→Bool) (w:World):Prop:=BelowD W.heap.size W w∧(D 10=true→W.heap.size≤g∧Blk w g #[.int .i64 p,.int .i64 q] 3)
theorem OrdI.step {W w w':World} {p q:Int} {g:Nat} {D:Nat→Bool} {k:Nat} (h:OrdI W p q g D w) (hb:BelowD w.heap.size w w') (hk:k≠10):OrdI W p q g (ins k D) w':=by
 have e:¬ 10=k:=fun e=>hk e.symm
 refine ⟨h.1.trans (hb.mono h.1.size),fun d=>?_⟩
 simp [ins,e] at d
 exact ⟨(h.2 d).1,(h.2 d).2.below hb.toBelow (h.2 d).2.lt⟩
set_option maxHeartbeats 4000000 in
set_option maxRecDepth 100000 in
theorem porder_any (x y:Of) (w:World) (hx:x.Fits) (hy:y.Fits):Calls Tryz.prog 116 #[.agg #[.int .u64 x.se,.int .u8 x.ow,.int .u8 x.sl,.int .u8 x.bu,.int .i64 x.lf,.int .i64 x.nu,.int .i64 x.de],.agg #[.int .u64 y.se,.int .u8 y.ow,.int .u8 y.sl,.int .u8 y.bu,.int .i64 y.lf,.int .i64 y.nu,.int .i64 y.de]] w fun e w'=>e=.returned (.int .i64 (ordO x y))∧BelowD w.heap.size w w':=by
 unfold ordO
 have c1:=Lib.hid (fun w=>compare_any_d x.nu x.de y.nu y.de w hx.nu hx.de hy.nu hy.de)
 have c2:=Lib.hid (fun w=>compare_u64 x.se y.se w)
 clear hx hy
 generalize cmpR x.nu x.de y.nu y.de=p at *
 generalize cmpI x.se y.se=q at *
 go_enter Tryz.func116,Tryz.ntmps116
 go_wp2_with fail
 have KX:=Lib.hid ((Blk.new w #[.int .u64 x.se,.int .u8 x.ow,.int .u8 x.sl,.int .u8 x.bu,.int .i64 x.lf,.int .i64 x.nu,.int .i64 x.de] 126).alloc (.cells #[.int .u64 y.se,.int .u8 y.ow,.int .u8 y.sl,.int .u8 y.bu,.int .i64 y.lf,.int .i64 y.nu,.int .i64 y.de] 126))
 have KY:=Lib.hid (Blk.newAt (w.alloc (.cells #[.int .u64 x.se,.int .u8 x.ow,.int .u8 x.sl,.int .u8 x.bu,.int .i64 x.lf,.int .i64 x.nu,.int .i64 x.de] 126)) #[.int .u64 y.se,.int .u8 y.ow,.int .u8 y.sl,.int .u8 y.bu,.int .i64 y.lf,.int .i64 y.nu,.int .i64 y.de] 126 (g:=w.heap.size + 1) (by simp))
 have B0:=Lib.hid (((BelowD.refl w.heap.size w).alloc (Nat.le_refl _) (.cells #[.int .u64 x.se,.int .u8 x.ow,.int .u8 x.sl,.int .u8 x.bu,.int .i64 x.lf,.int .i64 x.nu,.int .i64 x.de] 126)).alloc (by simp) (.cells #[.int .u64 y.se,.int .u8 y.ow,.int .u8 y.sl,.int .u8 y.bu,.int .i64 y.lf,.int .i64 y.nu,.int .i64 y.de] 126))
 generalize ((w.alloc (.cells #[.int .u64 x.se,.int .u8 x.ow,.int .u8 x.sl,.int .u8 x.bu,.int .i64 x.lf,.int .i64 x.nu,.int .i64 x.de] 126)).alloc (.cells #[.int .u64 y.se,.int .u8 y.ow,.int .u8 y.sl,.int .u8 y.bu,.int .i64 y.lf,.int .i64 y.nu,.int .i64 y.de] 126))=W at KX KY B0 ⊢
 refine region_ghost (by kernel_rfl) (fun g:Nat=>[(.pointer (some ⟨w.heap.size,5,none⟩)),(.agg #[.int .i64 x.nu,.int .i64 x.de]),(.pointer (some ⟨w.heap.size + 1,5,none⟩)),(.agg #[.int .i64 y.nu,.int .i64 y.de]),(.int .i64 p),(.pointer (some ⟨w.heap.size,0,none⟩)),(.int .u64 x.se),(.pointer (some ⟨w.heap.size + 1,0,none⟩)),(.int .u64 y.se),(.int .i64 q),(.slice (some ⟨g,0,none⟩) 2 2),(.int .i64 (orI p q)),(.int .i64 (orI p q))])
  (OrdI W p q) (by kernel_rfl) 0 ⟨(BelowD.refl _ _).drew,by simp⟩ ?_
 intro AF hAF
 simp only [List.toList_toArray,puts,Act.put,List.getD_cons_zero,List.getD_cons_succ,List.setIfInBounds_toArray,List.set_cons_succ,List.set_cons_zero] at hAF
 have hAF2:_=AF:=funext hAF
 subst hAF2
 clear hAF
 refine ⟨?_,?_⟩
 ·simp only [List.toList_toArray,EachG]
  refine ⟨?_,?_,?_,?_,?_,?_,?_,?_,?_,?_,?_,?_,?_,trivial⟩
  ·intro g D w' hD hW hC hI
   refine ⟨g,fun _ _ _=>rfl,?_⟩
   with_reducible refine OpTo.plain ?_ ?_
   exact rfl
   have HS:=Lib.hid (hI.step (BelowD.refl _ _) (k:=0) (by decide))
   have hB:=hI.1.toBelow
   clear hI hC hW hD hB
   go_wp2_with fail
   all_goals first | exact HS.out | exact ⟨rfl,HS.out⟩ | rfl
  ·intro g D w' hD hW hC hI
   refine ⟨g,fun _ _ _=>rfl,?_⟩
   with_reducible refine OpTo.plain ?_ ?_
   exact rfl
   have HS:=Lib.hid (hI.step (BelowD.refl _ _) (k:=1) (by decide))
   have hB:=hI.1.toBelow
   have kk:=KX.out.below hB KX.out.lt
   have hl:=kk.lt
   have d0:=kk.cell 0; have d5:=kk.cell 5; have d6:=kk.cell 6
   simp at d0 d5 d6
   clear kk
   clear hI hC hW hD hB
   go_wp2_with fail
   all_goals first | exact HS.out | exact ⟨rfl,HS.out⟩ | rfl
  ·intro g D w' hD hW hC hI
   refine ⟨g,fun _ _ _=>rfl,?_⟩
   with_reducible refine OpTo.plain ?_ ?_
   exact rfl
   have HS:=Lib.hid (hI.step (BelowD.refl _ _) (k:=2) (by decide))
   have hB:=hI.1.toBelow
   clear hI hC hW hD hB
   go_wp2_with fail
   all_goals first | exact HS.out | exact ⟨rfl,HS.out⟩ | rfl
  ·intro g D w' hD hW hC hI
   refine ⟨g,fun _ _ _=>rfl,?_⟩
   with_reducible refine OpTo.plain ?_ ?_
   exact rfl
   have HS:=Lib.hid (hI.step (BelowD.refl _ _) (k:=3) (by decide))
   have hB:=hI.1.toBelow
   have kk:=KY.out.below hB KY.out.lt
   have hl:=kk.lt
   have d0:=kk.cell 0; have d5:=kk.cell 5; have d6:=kk.cell 6
   simp at d0 d5 d6
   clear kk
   clear hI hC hW hD hB
   go_wp2_with fail
   all_goals first | exact HS.out | exact ⟨rfl,HS.out⟩ | rfl
  ·intro g D w' hD hW hC hI
   refine ⟨g,fun _ _ _=>rfl,?_⟩
   with_reducible refine OpTo.plain ?_ ?_
   exact rfl
   have HI:=Lib.hid hI
   clear hI hC hW hD
   go_wp2_with fail
   refine (c1.out w').mono ?_
   rintro e w'' ⟨rfl,hb⟩
   exact ⟨rfl,HI.out.step hb (by decide)⟩
  ·intro g D w' hD hW hC hI
   refine ⟨g,fun _ _ _=>rfl,?_⟩
   with_reducible refine OpTo.plain ?_ ?_
   exact rfl
   have HS:=Lib.hid (hI.step (BelowD.refl _ _) (k:=5) (by decide))
   have hB:=hI.1.toBelow
   clear hI hC hW hD hB
   go_wp2_with fail
   all_goals first | exact HS.out | exact ⟨rfl,HS.out⟩ | rfl
  ·intro g D w' hD hW hC hI
   refine ⟨g,fun _ _ _=>rfl,?_⟩
   with_reducible refine OpTo.plain ?_ ?_
   exact rfl
   have HS:=Lib.hid (hI.step (BelowD.refl _ _) (k:=6) (by decide))
   have hB:=hI.1.toBelow
   have kk:=KX.out.below hB KX.out.lt
   have hl:=kk.lt
   have d0:=kk.cell 0; have d5:=kk.cell 5; have d6:=kk.cell 6
   simp at d0 d5 d6
   clear kk
   clear hI hC hW hD hB
   go_wp2_with fail
   all_goals first | exact HS.out | exact ⟨rfl,HS.out⟩ | rfl
  ·intro g D w' hD hW hC hI
   refine ⟨g,fun _ _ _=>rfl,?_⟩
   with_reducible refine OpTo.plain ?_ ?_
   exact rfl
   have HS:=Lib.hid (hI.step (BelowD.refl _ _) (k:=7) (by decide))
   have hB:=hI.1.toBelow
   clear hI hC hW hD hB
   go_wp2_with fail
   all_goals first | exact HS.out | exact ⟨rfl,HS.out⟩ | rfl
  ·intro g D w' hD hW hC hI
   refine ⟨g,fun _ _ _=>rfl,?_⟩
   with_reducible refine OpTo.plain ?_ ?_
   exact rfl
   have HS:=Lib.hid (hI.step (BelowD.refl _ _) (k:=8) (by decide))
   have hB:=hI.1.toBelow
   have kk:=KY.out.below hB KY.out.lt
   have hl:=kk.lt
   have d0:=kk.cell 0; have d5:=kk.cell 5; have d6:=kk.cell 6
   simp at d0 d5 d6
   clear kk
   clear hI hC hW hD hB
   go_wp2_with fail
   all_goals first | exact HS.out | exact ⟨rfl,HS.out⟩ | rfl
  ·intro g D w' hD hW hC hI
   refine ⟨g,fun _ _ _=>rfl,?_⟩
   with_reducible refine OpTo.plain ?_ ?_
   exact rfl
   have HI:=Lib.hid hI
   clear hI hC hW hD
   go_wp2_with fail
   refine (c2.out w').mono ?_
   rintro e w'' ⟨rfl,rfl⟩
   exact ⟨rfl,HI.out.step (BelowD.refl _ _) (by decide)⟩
  ·intro g D w' hD hW hC hI
   have hN:D 11=false:=need_not hC hD 11 (by kernel_rfl)
   have hN2:D 12=false:=need_not hC hD 12 (by kernel_rfl)
   refine ⟨w'.heap.size,?_,?_⟩
   ·intro j hj hDj
    match j,hj,hDj with
    | 0,_,_=>rfl
    | 1,_,_=>rfl
    | 2,_,_=>rfl
    | 3,_,_=>rfl
    | 4,_,_=>rfl
    | 5,_,_=>rfl
    | 6,_,_=>rfl
    | 7,_,_=>rfl
    | 8,_,_=>rfl
    | 9,_,_=>rfl
    | 10,_,h=>simp_all
    | 11,_,h=>simp_all
    | 12,_,h=>simp_all
    | j + 13,_,_=>rfl
   with_reducible refine OpTo.plain ?_ ?_
   exact rfl
   have HS:Hid (OrdI W p q w'.heap.size (ins 10 D) (w'.alloc (.cells #[.int .i64 p,.int .i64 q] 3))):=Lib.hid ⟨hI.1.alloc hI.1.size _,fun _=>⟨hI.1.size,Blk.new _ _ _⟩⟩
   clear hI hC hW hD hN hN2
   go_wp2_with fail
   all_goals first | exact HS.out | exact ⟨rfl,HS.out⟩ | rfl
  ·intro g D w' hD hW hC hI
   refine ⟨g,fun _ _ _=>rfl,?_⟩
   with_reducible refine OpTo.plain ?_ ?_
   exact rfl
   have hP:D 10=true:=need_waited hC hW (by kernel_rfl)
   have KB:=(hI.2 hP).2
   have HO:=Lib.hid (or_two g 2 p q w' KB.lt (KB.cell 0) (KB.cell 1))
   have HI:=Lib.hid hI
   clear hI hC hW hD KB hP
   go_wp2_with fail
   refine HO.out.mono ?_
   rintro e w'' ⟨rfl,rfl⟩
   exact ⟨rfl,HI.out.step (BelowD.refl _ _) (by decide)⟩
  ·intro g D w' hD hW hC hI
   refine ⟨g,fun _ _ _=>rfl,?_⟩
   with_reducible refine OpTo.plain ?_ ?_
   exact rfl
   have HS:=Lib.hid (hI.step (BelowD.refl _ _) (k:=12) (by decide))
   have hB:=hI.1.toBelow
   clear hI hC hW hD hB
   go_wp2_with fail
   all_goals first | exact HS.out | exact ⟨rfl,HS.out⟩ | rfl
 intro g D w2 hall hI
 have HE:=Lib.hid (B0.out.trans (hI.1.mono B0.out.size))
 clear hI hall
 dsimp only
 go_wp2_with fail
 go_ret
 exact ⟨rfl,HE.out⟩
def GoodO:={ x:Of // x.may∧0≤x.se∧x.se≤18446744073709551615 }
instance:Inhabited GoodO:=⟨⟨⟨1,1,1,2,1,1,1⟩,by decide⟩⟩
def GoodO.enc (x:GoodO):List Value:=x.1.vals
def ordG (x y:GoodO):Int:=ordO x.1 y.1
theorem ordG_lt (x y:GoodO):ltOf ordG x y=true↔ltO x.1 y.1:=by unfold ltOf ordG; rw [decide_eq_true_eq]; exact ordO_lt x.2.1 y.2.1
theorem ordG_nlt (x y:GoodO):ltOf ordG x y=false↔¬ ltO x.1 y.1:=by rw [← ordG_lt]; simp
theorem swoO:SWO (ltOf ordG) where
 irrefl x:=by rw [ordG_nlt]; exact ltO_irrefl x.1
 trans x y z h1 h2:=by rw [ordG_lt] at *; exact ltO_trans x.2.1 y.2.1 z.2.1 h1 h2
 ntrans x y z h1 h2:=by rw [ordG_nlt] at *; exact ltO_ntrans x.2.1 y.2.1 z.2.1 h1 h2
theorem flat_offs (ls:List GoodO) {j:Nat} (h:j<ls.length * 7):(flatK GoodO.enc 7 ls.toArray)[j]! = (ofCells (ls.map (·.1)))[j]'(by rw [ofCells_len,List.length_map]; exact h):=by
 rw [get_flatK _ _ _ j (by simpa using h)]
 have h1:j / 7<ls.length:=by omega
 have h2:j % 7<7:=Nat.mod_lt _ (by omega)
 have h3:=ofCells_get (ls.map (·.1)) (j / 7) (j % 7) h2 (by simpa using h1)
 rw [show j / 7 * 7 + j % 7=j by omega] at h3
 rw [List.getElem?_eq_getElem (by rw [ofCells_len,List.length_map]; exact h)] at h3
 have h4:(ls.toArray)[j / 7]! = ls[j / 7]:=by simp [h1]
 rw [h4,List.getElem!_eq_getElem?_getD]
 unfold GoodO.enc
 rw [List.getElem_map] at h3
 rw [← h3]
 rfl
theorem holds_offs {w:World} {g:Nat} {cur:Array Value} {e:TypeId} {ls:List GoodO} (hb:w.heap[g]? = some (.cells cur e (0,0))) (ht:cur.toList.take (ls.length * 7)=ofCells (ls.map (·.1))):HoldsK GoodO.enc 7 w g 0 ls.toArray:=by
 intro j hj
 have hj':j<ls.length * 7:=by simpa using hj
 refine ⟨?_,by simp [World.frozen?,hb]⟩
 rw [flat_offs ls hj']
 have h1:(cur.toList.take (ls.length * 7))[j]? = (ofCells (ls.map (·.1)))[j]? := by rw [ht]
 rw [List.getElem?_take_of_lt hj'] at h1
 simp only [World.cell?,hb,Nat.zero_add]
 simp only [Option.isSome_none,Bool.false_eq_true,if_false]
 rw [← Array.getElem?_toList,h1,List.getElem?_eq_getElem (by rw [ofCells_len,List.length_map]; exact hj')]
 rfl
theorem heap_offs {w:World} {g n:Nat} {os:Array Obj} {cur:Array Value} {e:TypeId} (d:Array GoodO) (hb:w.heap[g]? = some (.cells cur e (0,0))) :
  (sortWorldK GoodO.enc 7 w g 0 n d os).heap[g]? = some (.cells (putCells id 0 (flatK GoodO.enc 7 d) cur) e (0,0)):=by
 have hg:g<w.heap.size:=(Array.getElem?_eq_some_iff.1 hb).1
 unfold sortWorldK putRowK
 rw [heap_grow_old _ _ (by simpa using hg)]
 simp [putRow,mapBlock,Go.Sort.ahead,Array.getElem?_modify,hb,onCells]
theorem keep_offs {w:World} {g n:Nat} {os:Array Obj} (d:Array GoodO):Keep (·=g) w (sortWorldK GoodO.enc 7 w g 0 n d os):=by
 refine ⟨rfl,rfl,rfl,by simp [sortWorldK,putRowK],fun k hk hne=>?_⟩
 unfold sortWorldK putRowK
 rw [heap_grow_old _ _ (by simpa using hk)]
 have:g≠k:=fun e=>hne e.symm
 simp [putRow,mapBlock,Go.Sort.ahead,Array.getElem?_modify,this]
theorem take_offs (cur:Array Value) (ls:List GoodO) (h:ls.length * 7≤cur.size):(putCells id 0 (flatK GoodO.enc 7 ls.toArray) cur).toList.take (ls.length * 7)=ofCells (ls.map (·.1)):=by
 apply List.ext_getElem?
 intro j
 by_cases hj:j<ls.length * 7
 ·have hf:=flat_offs ls hj
  rw [List.getElem?_take_of_lt hj,Array.getElem?_toList,List.getElem?_eq_getElem (by rw [ofCells_len,List.length_map]; exact hj),← hf]
  simp [putCells,hj,show j<cur.size by omega]
 ·rw [List.getElem?_take_eq_none (by omega),List.getElem?_eq_none (by rw [ofCells_len,List.length_map]; omega)]
theorem sorted_offs {f m:List Of} {d:Array GoodO} {ls:List GoodO} (hf:ls.map (·.1)=f) (hm:m.Perm f) (hms:m.Pairwise ltO) (hne:f.Pairwise fun x y=>x.se≠y.se)
  (h1:PermIn 0 ls.toArray.size ls.toArray d) (h2:SortedIn (ltOf ordG) 0 ls.toArray.size d):d.toList.map (·.1)=m∧d.size=ls.length:=by
 obtain ⟨hs,_,hperm⟩:=h1
 have hpd:d.toList.Perm ls:=by
  have e1:d.extract 0 ls.toArray.size=d:=by rw [← hs,Array.extract_size]
  rw [e1,Array.extract_size] at hperm
  simpa using hperm
 have hpm:(d.toList.map (·.1)).Perm f:=by rw [← hf]; exact hpd.map _
 have hse:(d.toList.map (·.1)).Pairwise fun x y=>x.se≠y.se:=(hpm.symm.pairwise_iff (fun {a b} (h:a.se≠b.se)=>h.symm)).1 hne
 have hso:(d.toList.map (·.1)).Pairwise ltO:=by
  rw [List.pairwise_iff_getElem] at hse ⊢
  intro i j hi hj hij
  have hi':i<d.size:=by simpa using hi
  have hj':j<d.size:=by simpa using hj
  have h3:=h2 i j (Nat.zero_le _) hij (by rw [← hs]; exact hj')
  rw [getElem!_pos d i hi',getElem!_pos d j hj',ordG_nlt] at h3
  have h4:=hse i j hi hj hij
  simp only [List.getElem_map,Array.getElem_toList] at h4 ⊢
  exact ltO_total (fun e=>h4 e.symm) h3
 refine ⟨List.Perm.eq_of_pairwise (fun a b _ _ h1 h2=>(ltO_asymm h1 h2).elim) hso hms (hpm.trans hm.symm),by simpa using hs⟩
theorem good_list:∀ {f:List Of},(∀ x ∈ f,x.may∧0≤x.se∧x.se≤18446744073709551615)→∃ ls:List GoodO,ls.map (·.1)=f
 | [],_=>⟨[],rfl⟩
 | x::r,h=>by
  obtain ⟨ls,hl⟩:=good_list (f:=r) (fun y hy=>h y (by simp [hy]))
  exact ⟨⟨x,h x (by simp)⟩::ls,congrArg (List.cons x) hl⟩
theorem sortO_any {w:World} {base:Nat} {v:Value} {f m:List Of} (hg:∀ x ∈ f,x.may∧0≤x.se∧x.se≤18446744073709551615) (hm:m.Perm f) (hms:m.Pairwise ltO) (hne:f.Pairwise fun x y=>x.se≠y.se) (hl:f.length≤1000) (h:w.ownsRow base 126 7 v f.length (ofCells f)) :
  Calls Tryz.prog 115 #[v,.func (.func 116) #[] #[]] w fun e w'=>e=.returned (.tuple #[])∧w'.ownsRow base 126 7 v m.length (ofCells m)∧Keep (fun b=>v.ownBlock=some b) w w':=by
 have hlen:=hm.length_eq
 rcases h.2 with ⟨rfl,h0⟩ | ⟨g,cap,cur,rfl,hbase,hb,h1,h2,h3,h4⟩
 ·rw [h0] at hlen
  have:m=[]:=List.eq_nil_of_length_eq_zero hlen
  subst this
  refine (AnyF.slices_SortFunc_none { sortO with } none 0 (.func (.func 116) #[] #[]) w).mono ?_
  rintro e w' ⟨rfl,rfl⟩
  exact ⟨rfl,World.ownsRow_nil _ _ _ _,Keep.refl _ _⟩
 ·have hgl:g<w.heap.size:=(Array.getElem?_eq_some_iff.1 hb).1
  obtain ⟨ls,hls⟩:=good_list hg
  have hll:ls.length=f.length:=by rw [← hls,List.length_map]
  have eg:∀ args w,(callFunc 116 args).run Tryz.prog w=.ok (.enter 116 args) w:=enters_of Tryz.func116 (by kernel_rfl) rfl
  have hcmp:CmpLays Tryz.prog 116 #[] GoodO.enc 7 ordG g 0 ls.toArray.size w:=fun m os dk _ x y=>(porder_any x.1 y.1 _ (x.2.1.fits x.2.2) (y.2.1.fits y.2.2)).mono fun e w' ⟨he,hb⟩=>⟨he,hb.grown⟩
  have hc:=AnyQ.slices_SortFunc (P:=Tryz.prog) sortO 7 Tryz.isAgg126 Tryz.sizeOf126 GoodO.enc (fun _=>rfl) (fun x u hu=>by simp [GoodO.enc,Of.vals] at hu; rcases hu with rfl | rfl | rfl | rfl | rfl | rfl | rfl <;> rfl) ordG swoO 116 #[] g 0 cap ls.toArray w eg hcmp (holds_offs hb (by rw [hll,hls]; exact h4)) hgl (by simp; omega)
  have hsz:ls.toArray.size=f.length:=by simp [hll]
  rw [hsz] at hc
  refine Calls.mono hc ?_
  rintro e w' ⟨rfl,d,n,os,hp1,hs1,rfl⟩
  obtain ⟨hd,hds⟩:=sorted_offs hls hm hms hne (by rw [hsz]; exact hp1) (by rw [hsz]; exact hs1)
  have hcells:(putCells id 0 (flatK GoodO.enc 7 d) cur).toList.take (f.length * 7)=ofCells m:=by
   have:=take_offs cur d.toList (by rw [Array.length_toList,hds,hll,h3]; omega)
   rw [hd] at this
   simpa [hds,hll] using this
  refine ⟨rfl,⟨ofCells_len m,.inr ⟨g,cap,_,by rw [hlen],hbase,heap_offs _ hb,by omega,h2,by simp [putCells,h3],by rw [hlen]; exact hcells⟩⟩,(keep_offs _).mono fun k _ hk=>by rw [hk]; rfl⟩
end Go.Proofs.YtojbmnbphdcjfaaGreat
namespace Go.Proofs.YtojbmnbphdcjfaaGreat
open Go.RowKit
theorem best1_any (x:Of) {c1 c2:Nat} {s b:Int} {w:World} (h1:Blk w c1 #[.int .u8 s] 40) (h2:Blk w c2 #[.int .u8 b] 40) :
  Calls Tryz.prog 114 #[.agg #[.int .u64 x.se,.int .u8 x.ow,.int .u8 x.sl,.int .u8 x.bu,.int .i64 x.lf,.int .i64 x.nu,.int .i64 x.de],.pointer (some ⟨c1,0,none⟩),.pointer (some ⟨c2,0,none⟩)] w fun e w'=>e=.returned (.bool (!ofPair s b x))∧Below w.heap.size w w':=by
 have B0:=Lib.hid ((Below.refl w.heap.size w).alloc (Nat.le_refl _) (.cells #[.int .u64 x.se,.int .u8 x.ow,.int .u8 x.sl,.int .u8 x.bu,.int .i64 x.lf,.int .i64 x.nu,.int .i64 x.de] 126))
 have k1:=h1.alloc (.cells #[.int .u64 x.se,.int .u8 x.ow,.int .u8 x.sl,.int .u8 x.bu,.int .i64 x.lf,.int .i64 x.nu,.int .i64 x.de] 126)
 have k2:=h2.alloc (.cells #[.int .u64 x.se,.int .u8 x.ow,.int .u8 x.sl,.int .u8 x.bu,.int .i64 x.lf,.int .i64 x.nu,.int .i64 x.de] 126)
 have d0:=k1.cell 0
 have e0:=k2.cell 0
 simp at d0 e0
 have hl:=k1.lt
 have hl2:=k2.lt
 clear k1 k2 h1 h2
 unfold ofPair
 by_cases q1:x.sl=s
 ·have p1:(x.sl==s)=true:=by simpa using q1
  have p2:(x.sl != s)=false:=by simpa using q1
  by_cases q2:x.bu=b
  ·have p3:(x.bu==b)=true:=by simpa using q2
   have p4:(x.bu != b)=false:=by simpa using q2
   rw [decide_eq_true (And.intro q1 q2)]
   clear q1 q2
   go_enter Tryz.func114,Tryz.ntmps114
   go_wp2_with fail
   go_ret
   exact ⟨rfl,B0.out⟩
  ·have p3:(x.bu==b)=false:=by simpa using q2
   have p4:(x.bu != b)=true:=by simpa using q2
   rw [decide_eq_false (fun k=>q2 k.2)]
   clear q1 q2
   go_enter Tryz.func114,Tryz.ntmps114
   go_wp2_with fail
   go_ret
   exact ⟨rfl,B0.out⟩
 ·have p1:(x.sl==s)=false:=by simpa using q1
  have p2:(x.sl != s)=true:=by simpa using q1
  rw [decide_eq_false (fun k=>q1 k.1)]
  clear q1
  go_enter Tryz.func114,Tryz.ntmps114
  go_wp2_with fail
  go_ret
  exact ⟨rfl,B0.out⟩
def posBk (l:List Of) (s b:Int):Nat:=l.findIdx fun x=>!ofPair s b x
theorem posB_le (l:List Of) (s b:Int):posBk l s b≤l.length:=List.findIdx_le_length
theorem posB_at {l:List Of} {s b:Int} {k:Nat} (hk:k<l.length) (hn:∀ x ∈ l.take k,ofPair s b x=true) (hx:ofPair s b l[k]=false):posBk l s b=k:=by
 unfold posBk
 rw [List.findIdx_eq hk]
 refine ⟨by simp [hx],fun j hj=>?_⟩
 have:=hn l[j] (by rw [List.mem_take_iff_getElem]; exact ⟨j,by omega,rfl⟩)
 simp [this]
theorem posB_none {l:List Of} {s b:Int} (hn:∀ x ∈ l,ofPair s b x=true):posBk l s b=l.length:=by
 unfold posBk
 rw [List.findIdx_eq_length]
 intro x hx
 simp [hn x hx]
theorem posB_take {l:List Of} {s b:Int} {j:Nat} (hj:j<posBk l s b):ofPair s b (l[j]'(Nat.lt_of_lt_of_le hj (posB_le l s b)))=true:=by
 have:=List.not_of_lt_findIdx (p:=fun x=>!ofPair s b x) (xs:=l) (i:=j) hj
 simpa using this
theorem posB_hit {l:List Of} {s b:Int} (h:posBk l s b<l.length):ofPair s b l[posBk l s b]=false:=by
 have:=List.findIdx_getElem (p:=fun x=>!ofPair s b x) (xs:=l) (w:=h)
 rw [Bool.not_eq_true'] at this
 exact this
def idxB (l:List Of) (s b:Int):Value:=if posBk l s b<l.length then .int .i64 (posBk l s b:Nat) else .int .i64 (-1)
def IdxBAt (w:World) (l:List Of) (s b:Int) (i:Value) (wr:World):Prop :=
 ∃ k:Nat,k≤l.length∧i=.int .i64 k∧(∀ x ∈ l.take k,ofPair s b x=true)∧Below w.heap.size w wr
set_option maxHeartbeats 4000000 in
theorem pidxB_any {w:World} {base c1 c2:Nat} {l:List Of} {s b:Int} {v:Value} (h:w.ownsRow base 126 7 v l.length (ofCells l)) (h1:Blk w c1 #[.int .u8 s] 40) (h2:Blk w c2 #[.int .u8 b] 40) :
  Calls Tryz.prog 111 #[v,.func (.func 114) #[] #[.pointer (some ⟨c1,0,none⟩),.pointer (some ⟨c2,0,none⟩)]] w fun e w'=>e=.returned (idxB l s b)∧Below w.heap.size w w':=by
 obtain ⟨ao,cap,rfl,hc1,hc2,hc3,hc4⟩:=owns_open h
 have HC:=Lib.hid hc4
 have K1:=Lib.hid h1
 have K2:=Lib.hid h2
 unfold maxLen at hc2
 clear hc3 hc4 h h1 h2
 go_enter Tryz.func111,Tryz.ntmps111
 go_wp2_with fail
 go_loopw [5,8] (fun _ i wr=>IdxBAt w l s b i wr) (fun _ i _=>l.length - (intOf i).toNat)
 case atStart=>exact ⟨0,Nat.zero_le _,rfl,by simp,Below.refl _ _⟩
 case round =>
  obtain ⟨k,hk,rfl,hn,hb⟩:=hrel
  by_cases hkl:k<l.length
  ·obtain ⟨g,rfl,hb1,hb2,hcell,_⟩:=HC.out (by omega)
   obtain ⟨e0,e1,e2,e3,e4,e5,e6⟩:=of_cells (w:=wr) (fun j hj=>by rw [hb.cell (p:=⟨g,j,none⟩) hb2]; exact hcell j hj) hkl
   have FA:=Lib.hid (fun hx=>posB_at (s:=s) (b:=b) hkl hn hx)
   have TN:=Lib.hid (fun hx=>take_all_next (q:=fun x=>ofPair s b x=true) hkl hn hx)
   have C1:=Lib.hid (best1_any l[k] (K1.out.below hb K1.out.lt) (K2.out.below hb K2.out.lt))
   have HB:=Lib.hid hb
   clear hcell hn hb
   generalize l[k]=x at *
   cases hx:ofPair s b x with
   | false =>
    have E:=Lib.hid (FA.out hx)
    rw [hx] at C1
    clear FA TN hx
    go_wp2_with fail
    refine C1.out.mono ?_
    rintro e w2 ⟨rfl,b2⟩
    have HB2:=Lib.hid (HB.out.trans (b2.mono HB.out.size))
    clear b2
    go_wp2_with fail
    go_ret
    refine ⟨?_,HB2.out⟩
    unfold idxB
    rw [E.out,if_pos hkl]
    rfl
   | true =>
    have E:=Lib.hid (TN.out hx)
    rw [hx] at C1
    clear FA TN hx
    go_wp2_with fail
    refine C1.out.mono ?_
    rintro e w2 ⟨rfl,b2⟩
    have HB2:=Lib.hid (HB.out.trans (b2.mono HB.out.size))
    clear b2
    go_wp2_with fail
    go_roundw
    case rel=>exact ⟨k + 1,by omega,by go_num,E.out,HB2.out⟩
    case measure=>simp [intOf]; omega
  ·have E:Hid (posBk l s b=l.length):=Lib.hid (posB_none (by have:=hn; rwa [List.take_of_length_le (by omega)] at this))
   have HB:=Lib.hid hb
   clear hn hb
   go_wp2_with fail
   go_ret
   refine ⟨?_,HB.out⟩
   unfold idxB
   rw [E.out,if_neg (by omega)]
   rfl
theorem ofCells_put:∀ (l:List Of) (k:Nat) (x:Of),k<l.length→(ofCells l).take (k * 7)++x.vals++(ofCells l).drop (k * 7 + 7)=ofCells (l.set k x):=by
 intro l k x h
 have e0:ofCells l=ofCells (l.take k)++ofCells (l.drop k):=by rw [← ofCells_append,List.take_append_drop]
 have e1:ofCells l=ofCells (l.take (k + 1))++ofCells (l.drop (k + 1)):=by rw [← ofCells_append,List.take_append_drop]
 have h1:(ofCells l).take (k * 7)=ofCells (l.take k):=by rw [e0,List.take_left' (by rw [ofCells_len,List.length_take]; omega)]
 have h2:(ofCells l).drop (k * 7 + 7)=ofCells (l.drop (k + 1)):=by rw [e1,List.drop_left' (by rw [ofCells_len,List.length_take]; omega)]
 rw [h1,h2,List.set_eq_take_append_cons_drop,if_pos h,ofCells_append,show x::l.drop (k + 1)=[x]++l.drop (k + 1) from rfl,ofCells_append,ofCells_one,List.append_assoc]
theorem owns_store {w:World} {base g n cap k:Nat} {e:TypeId} {d:List Of} (h:w.ownsRow base e 7 (.slice (some ⟨g,0,none⟩) n cap) n (ofCells d)) (hd:d.length=n) (hk:k<n) (x:Of) :
  (w.setCells g (k * 7) x.vals).ownsRow base e 7 (.slice (some ⟨g,0,none⟩) n cap) n (ofCells (d.set k x)):=by
 obtain ⟨_,hx⟩:=h
 rcases hx with ⟨hx,_⟩ | ⟨g',cap',cur,hv,hbase,hb,h1,h2,h3,h4⟩
 ·cases hx
 cases hv
 obtain ⟨cur',hb',hc'⟩:=heap_setCells (w:=w) (e:=e) x.vals (k * 7) cur hb (by rw [Of.vals_len,h3]; omega)
 refine ⟨by rw [ofCells_len,List.length_set,hd],.inr ⟨g,cap,cur',rfl,hbase,hb',h1,h2,?_,?_⟩⟩
 ·rw [← Array.length_toList,hc']
  simp only [List.length_append,List.length_take,List.length_drop,Array.length_toList,Of.vals_len,h3]
  omega
 ·rw [hc',← ofCells_put d k x (by omega),← h4,Of.vals_len]
  have hcl:cur.toList.length=cap * 7:=by rw [Array.length_toList,h3]
  rw [List.take_take,Nat.min_eq_left (by omega),List.take_append,List.length_append,List.length_take,Of.vals_len,hcl,Nat.min_eq_left (by omega)]
  rw [List.take_of_length_le (l:=cur.toList.take (k * 7)++x.vals) (by rw [List.length_append,List.length_take,Of.vals_len,hcl]; omega),List.drop_take]
theorem zero_one (n:Nat):∀ u ∈ (Builtin.zeroCells zOff.cells n).toList,u.oneCell'=true:=by
 intro u hu
 unfold Builtin.zeroCells at hu
 simp at hu
 obtain ⟨i,hi,rfl⟩:=hu
 have h7:zOff.cells.size=7:=rfl
 rw [h7]
 have h:=Nat.mod_lt i (show 7 > 0 by omega)
 generalize i % 7=m at *
 match m,h with
 | 0,_=>rfl
 | 1,_=>rfl
 | 2,_=>rfl
 | 3,_=>rfl
 | 4,_=>rfl
 | 5,_=>rfl
 | 6,_=>rfl
theorem zero_len (n:Nat):(Builtin.zeroCells zOff.cells n).toList.length=n * 7:=by
 unfold Builtin.zeroCells
 simp
 rfl
theorem owns_cut {w:World} {base g n cap i:Nat} {e:TypeId} {d f:List Of} (h:w.ownsRow base e 7 (.slice (some ⟨g,0,none⟩) n cap) n (ofCells d)) (hd:d.length=n) (hi:i≤n) (hf:d.take i=f) (hfl:f.length=i) (zs:List Value) (hz:zs.length=(n - i) * 7) :
  (w.setCells g (i * 7) zs).ownsRow base e 7 (.slice (some ⟨g,0,none⟩) i cap) i (ofCells f):=by
 obtain ⟨_,hx⟩:=h
 rcases hx with ⟨hx,_⟩ | ⟨g',cap',cur,hv,hbase,hb,h1,h2,h3,h4⟩
 ·cases hx
 cases hv
 obtain ⟨cur',hb',hc'⟩:=heap_setCells (w:=w) (e:=e) zs (i * 7) cur hb (by rw [hz,h3]; omega)
 refine ⟨by rw [ofCells_len,hfl],.inr ⟨g,cap,cur',rfl,hbase,hb',by omega,h2,?_,?_⟩⟩
 ·rw [← Array.length_toList,hc']
  simp only [List.length_append,List.length_take,List.length_drop,Array.length_toList,hz,h3]
  omega
 ·have hcl:cur.toList.length=cap * 7:=by rw [Array.length_toList,h3]
  rw [hc',List.append_assoc,List.take_append_of_le_length (by rw [List.length_take,hcl]; omega),List.take_take,Nat.min_self]
  have e1:cur.toList.take (i * 7)=(cur.toList.take (n * 7)).take (i * 7):=by rw [List.take_take,Nat.min_eq_left (by omega)]
  rw [e1,h4,← hf]
  have e0:ofCells d=ofCells (d.take i)++ofCells (d.drop i):=by rw [← ofCells_append,List.take_append_drop]
  rw [e0,List.take_left' (by rw [ofCells_len,List.length_take]; omega)]
theorem owns_there' {w:World} {base g n cap o:Nat} {e:TypeId} {xs:List Value} (h:w.ownsRow base e 7 (.slice (some ⟨g,0,none⟩) n cap) n xs) (ho:o<n * 7):(w.cell? ⟨g,o,none⟩).isSome=true∧w.frozen? ⟨g,o,none⟩=false:=by
 obtain ⟨_,hx⟩:=h
 rcases hx with ⟨hx,_⟩ | ⟨g',cap',cur,hv,hbase,hb,h1,h2,h3,h4⟩
 ·cases hx
 cases hv
 refine ⟨?_,Blk.frozen (show Blk w g cur e from hb) o⟩
 rw [Blk.cell (show Blk w g cur e from hb),Array.getElem?_eq_getElem (by rw [h3]; omega)]
 rfl
theorem owns_there {w:World} {base g n cap k:Nat} {e:TypeId} {xs:List Value} (h:w.ownsRow base e 7 (.slice (some ⟨g,0,none⟩) n cap) n xs) (hk:k<n):w.there g (k * 7) 7:=fun j hj=>owns_there' h (by omega)
theorem run_slice_from {P:Program} (w:World) (t e:TypeId) (ht:P.underlying t=some (.slice e)) (hs:(sizeOf e).run P w=.ok 7 w) (g n cap j:Nat) (h:j<n) (h2:n≤cap) :
  (Instr.sliceAt t (.slice (some ⟨g,0,none⟩) n cap) (some (.int .i64 (j:Int))) none none).run P w=.ok (.slice (some ⟨g,j * 7,none⟩) (n - j) (cap - j)) w:=by
 have:=run_slice_tail (P:=P) w t e ht hs g n cap j (by omega) h2 (j:Int) rfl
 unfold tailAt at this
 rw [if_neg (by omega)] at this
 exact this
def keptN (l:List Of) (s b:Int) (j:Nat):Nat:=((l.take j).filter (ofPair s b)).length
theorem keptN_succ (l:List Of) (s b:Int) {j:Nat} (h:j<l.length):keptN l s b (j + 1)=keptN l s b j + (if ofPair s b l[j]=true then 1 else 0):=by
 unfold keptN
 rw [List.take_succ_eq_append_getElem h,List.filter_append,List.length_append]
 congr 1
 by_cases q:ofPair s b l[j]=true <;> simp [List.filter_cons,q]
theorem keptN_le (l:List Of) (s b:Int) (j:Nat):keptN l s b j≤j:=by
 unfold keptN
 exact Nat.le_trans (List.length_filter_le _ _) (List.length_take_le _ _)
structure DelInv (l d:List Of) (s b:Int) (j:Nat):Prop where
 len:d.length=l.length
 lt:keptN l s b j<j
 low:d.take (keptN l s b j)=(l.take j).filter (ofPair s b)
 high:d.drop j=l.drop j
theorem DelInv.start {l:List Of} {s b:Int} (h:posBk l s b<l.length):DelInv l l s b (posBk l s b + 1)∧keptN l s b (posBk l s b + 1)=posBk l s b:=by
 have hall:(l.take (posBk l s b)).filter (ofPair s b)=l.take (posBk l s b):=by
  rw [List.filter_eq_self]
  intro x hx
  obtain ⟨j,hj,rfl⟩:=List.mem_take_iff_getElem.1 hx
  exact posB_take (by omega)
 have hf:(l.take (posBk l s b + 1)).filter (ofPair s b)=l.take (posBk l s b):=by
  rw [List.take_succ_eq_append_getElem h,List.filter_append,hall]
  simp [List.filter_cons,posB_hit h]
 have hk:keptN l s b (posBk l s b + 1)=posBk l s b:=by
  unfold keptN; rw [hf,List.length_take]; omega
 exact ⟨⟨rfl,by omega,by rw [hk,hf],rfl⟩,hk⟩
theorem DelInv.get {l d:List Of} {s b:Int} {j:Nat} (h:DelInv l d s b j) (hj:j<l.length):d[j]'(by rw [h.len]; exact hj)=l[j]:=by
 have h1:d.drop j=l.drop j:=h.high
 have h2:(d.drop j)[0]? = (l.drop j)[0]? := by rw [h1]
 rw [List.getElem?_drop,List.getElem?_drop,Nat.add_zero,List.getElem?_eq_getElem (by rw [h.len]; exact hj),List.getElem?_eq_getElem hj] at h2
 exact Option.some.inj h2
theorem DelInv.skip {l d:List Of} {s b:Int} {j:Nat} (h:DelInv l d s b j) (hj:j<l.length) (hq:ofPair s b l[j]=false):DelInv l d s b (j + 1)∧keptN l s b (j + 1)=keptN l s b j:=by
 have hk:keptN l s b (j + 1)=keptN l s b j:=by rw [keptN_succ l s b hj,hq]; simp
 refine ⟨⟨h.len,by have:=h.lt; omega,?_,?_⟩,hk⟩
 ·rw [hk,h.low,List.take_succ_eq_append_getElem hj,List.filter_append]; simp [List.filter_cons,hq]
 ·rw [← List.drop_drop,h.high,List.drop_drop]
theorem DelInv.keep {l d:List Of} {s b:Int} {j:Nat} (h:DelInv l d s b j) (hj:j<l.length) (hq:ofPair s b l[j]=true):DelInv l (d.set (keptN l s b j) l[j]) s b (j + 1)∧keptN l s b (j + 1)=keptN l s b j + 1:=by
 have hk:keptN l s b (j + 1)=keptN l s b j + 1:=by rw [keptN_succ l s b hj,hq]; simp
 have hlt:=h.lt
 refine ⟨⟨by rw [List.length_set]; exact h.len,by omega,?_,?_⟩,hk⟩
 ·have hl:keptN l s b j<d.length:=by rw [h.len]; omega
  rw [hk,List.take_succ_eq_append_getElem (by rw [List.length_set]; exact hl),List.take_set_of_le (Nat.le_refl _),h.low,List.getElem_set_self,List.take_succ_eq_append_getElem hj,List.filter_append]
  simp [List.filter_cons,hq]
 ·rw [List.drop_set_of_lt (by omega),← List.drop_drop,h.high,List.drop_drop]
def DelAt (w:World) (base g cap:Nat) (l:List Of) (s b:Int) (s5 s6:Value) (wr:World):Prop :=
 ∃ (j:Nat) (d:List Of),j≤l.length∧s5=.int .i64 (keptN l s b j:Nat)∧s6=.int .i64 j∧DelInv l d s b j∧wr.ownsRow base 126 7 (.slice (some ⟨g,0,none⟩) l.length cap) l.length (ofCells d)∧Keep (·=g) w wr
set_option maxHeartbeats 8000000 in
set_option maxRecDepth 100000 in
theorem pdelf_any {w:World} {base c1 c2:Nat} {l:List Of} {s b:Int} {v:Value} (h:w.ownsRow base 126 7 v l.length (ofCells l)) (hl:l.length≤1000) (h1:Blk w c1 #[.int .u8 s] 40) (h2:Blk w c2 #[.int .u8 b] 40) :
  Calls Tryz.prog 113 #[v,.func (.func 114) #[] #[.pointer (some ⟨c1,0,none⟩),.pointer (some ⟨c2,0,none⟩)]] w fun e w'=>∃ v',e=.returned v'∧w'.ownsRow base 126 7 v' (l.filter (ofPair s b)).length (ofCells (l.filter (ofPair s b)))∧Keep (fun k=>v.ownBlock=some k) w w'∧v'.ownBlock=v.ownBlock:=by
 have CI:=Lib.hid (pidxB_any h h1 h2)
 by_cases hp:posBk l s b<l.length
 ·rw [show idxB l s b=.int .i64 (posBk l s b:Nat) by unfold idxB; rw [if_pos hp]] at CI
  obtain ⟨D0,kp⟩:=DelInv.start hp
  obtain ⟨ao,cap,rfl,hc1,hc2,hc3,hc4⟩:=owns_open h
  obtain ⟨g,rfl,hb1,hb2,_,_⟩:=hc4 (by omega)
  have hne1:c1≠g:=fun e=>(owns_ne h h1 (by decide)) g rfl e.symm
  have hne2:c2≠g:=fun e=>(owns_ne h h2 (by decide)) g rfl e.symm
  have HO:=Lib.hid h
  have K1:=Lib.hid h1
  have K2:=Lib.hid h2
  have HD0:=Lib.hid D0
  have HKP:=Lib.hid kp
  have HN:=Lib.hid (And.intro hne1 hne2)
  have e1:((posBk l s b:Int) == -1)=false:=by simp <;> omega
  unfold maxLen at hc2
  generalize hpk:posBk l s b=k0 at *
  have HPK:=Lib.hid hpk
  clear hc3 hc4 h h1 h2 D0 kp hne1 hne2 hpk
  go_enter Tryz.func113,Tryz.ntmps113
  go_wp2_with fail
  refine CI.out.mono ?_
  rintro e w1 ⟨rfl,b1⟩
  have HO1:=Lib.hid (owns_below HO.out b1)
  have K11:=Lib.hid (K1.out.below b1 K1.out.lt)
  have K21:=Lib.hid (K2.out.below b1 K2.out.lt)
  have HB1:=Lib.hid b1
  clear b1 CI HO K1 K2
  go_wp2_with fail
  go_loopw [5,6] (DelAt w1 base g cap l s b) (fun _ j _=>l.length - (intOf j).toNat)
  case atStart=>exact ⟨k0 + 1,l,by omega,by rw [HKP.out],by go_num,HD0.out,HO1.out,Keep.refl _ _⟩
  case round =>
   obtain ⟨j,d,hj,rfl,rfl,hD,hown,hk⟩:=hrel
   have hgl:g<wr.heap.size:=(owns_type hown rfl).2.1
   by_cases hjl:j<l.length
   ·have hdl:j<d.length:=by rw [hD.len]; exact hjl
    have hget:=hD.get hjl
    obtain ⟨ao',cap',hv,_,_,_,hr⟩:=owns_open hown
    cases hv
    obtain ⟨g',hg',_,_,hcell,hfr⟩:=hr (by omega)
    cases hg'
    obtain ⟨e0,e1,e2,e3,e4,e5,e6⟩:=of_cells (w:=wr) (ls:=d) (fun t ht=>hcell t (by rw [← hD.len]; exact ht)) hdl
    rw [hget] at e0 e1 e2 e3 e4 e5 e6
    have HDv:=Lib.hid hD
    have HW:=Lib.hid hown
    have HK:=Lib.hid hk
    have HF:=Lib.hid hfr
    have K12:=Lib.hid (K11.out.keep hk HN.out.1)
    have K22:=Lib.hid (K21.out.keep hk HN.out.2)
    have hkl:=keptN_le l s b j
    have DS:=Lib.hid (fun hq=>hD.skip hjl hq)
    have DK:=Lib.hid (fun hq=>hD.keep hjl hq)
    clear hget hr hcell hfr hown hk hD hdl
    generalize l[j]=x at *
    generalize hkn:keptN l s b j=m at *
    clear hkn
    have bw:=(Below.refl wr.heap.size wr).alloc (Nat.le_refl _) (.cells #[.int .u64 x.se,.int .u8 x.ow,.int .u8 x.sl,.int .u8 x.bu,.int .i64 x.lf,.int .i64 x.nu,.int .i64 x.de] 126)
    have CB:=Lib.hid (best1_any x (K12.out.below bw K12.out.lt) (K22.out.below bw K22.out.lt))
    have KX:=Lib.hid (Blk.new wr #[.int .u64 x.se,.int .u8 x.ow,.int .u8 x.sl,.int .u8 x.bu,.int .i64 x.lf,.int .i64 x.nu,.int .i64 x.de] 126)
    have HBW:=Lib.hid bw
    clear bw
    cases hq:ofPair s b x with
    | false =>
     have E:=Lib.hid (DS.out hq)
     rw [hq] at CB
     clear DS DK hq
     go_wp2_with fail
     refine CB.out.mono ?_
     rintro e w2 ⟨rfl,b2⟩
     have HB2:=Lib.hid (HBW.out.trans (b2.mono HBW.out.size))
     clear b2
     go_wp2_with fail
     go_roundw
     case rel=>exact ⟨j + 1,d,by omega,by rw [E.out.2],by go_num,E.out.1,owns_below HW.out HB2.out,HK.out.trans (Keep.of_below HB2.out)⟩
     case measure=>simp [intOf]; omega
    | true =>
     have E:=Lib.hid (DK.out hq)
     rw [hq] at CB
     clear DS DK hq
     go_wp2_with fail
     refine CB.out.mono ?_
     rintro e w2 ⟨rfl,b2⟩
     have HB2:=Lib.hid (HBW.out.trans (b2.mono HBW.out.size))
     have KX2:=KX.out.below b2 KX.out.lt
     have d0:=KX2.cell 0; have d1:=KX2.cell 1; have d2:=KX2.cell 2; have d3:=KX2.cell 3; have d4:=KX2.cell 4; have d5:=KX2.cell 5; have d6:=KX2.cell 6
     simp at d0 d1 d2 d3 d4 d5 d6
     have hxl:=KX2.lt
     have HW2:=Lib.hid (owns_below HW.out HB2.out)
     have HT:=Lib.hid (owns_there HW2.out (k:=m) (by omega))
     obtain ⟨W3,hW3⟩:∃ W3,W3=w2.setCells g (m * 7) [.int .u64 x.se,.int .u8 x.ow,.int .u8 x.sl,.int .u8 x.bu,.int .i64 x.lf,.int .i64 x.nu,.int .i64 x.de]:=⟨_,rfl⟩
     have HW3:=Lib.hid hW3
     have HO3:=Lib.hid (show W3.ownsRow base 126 7 (.slice (some ⟨g,0,none⟩) l.length cap) l.length (ofCells (d.set m x)) by rw [hW3]; exact owns_store HW2.out HDv.out.len (by omega) x)
     have HK3:=Lib.hid (show Keep (·=g) w1 W3 by rw [hW3]; exact Keep.setCells _ _ (HK.out.trans (Keep.of_below HB2.out)) (.inl rfl))
     clear b2 KX2 hW3
     go_wp2_with (refine wpList_store_mid rfl 126 (.tmp 33) (.tmp 32) rfl g (m * 7) #[.int .u64 x.se,.int .u8 x.ow,.int .u8 x.sl,.int .u8 x.bu,.int .i64 x.lf,.int .i64 x.nu,.int .i64 x.de] rfl rfl HT.out (by kernel_rfl) (by simp [Value.oneCell']) ?_; rw [← HW3.out])
     go_roundw
     case rel=>exact ⟨j + 1,d.set m x,by omega,by rw [E.out.2]; go_num,by go_num,E.out.1,HO3.out,HK3.out⟩
     case measure=>simp [intOf]; omega
   ·have hje:j=l.length:=by omega
    subst hje
    have hkl:=hD.lt
    have hlo:=hD.low
    have hdn:=hD.len
    rw [List.take_of_length_le (Nat.le_refl _)] at hlo
    have hfl:(l.filter (ofPair s b)).length=keptN l s b l.length:=by unfold keptN; rw [List.take_of_length_le (Nat.le_refl _)]
    have HK:=Lib.hid hk
    have HC:=Lib.hid (owns_cut hown hdn (by omega) hlo hfl (Builtin.zeroCells zOff.cells (l.length - keptN l s b l.length)).toList (by rw [zero_len]))
    have hcl:∀ ty,(Builtin.clear_ #[61] ty #[.slice (some ⟨g,keptN l s b l.length * 7,none⟩) (l.length - keptN l s b l.length) (cap - keptN l s b l.length)]).run Tryz.prog wr=.ok (.tuple #[]) (wr.setCells g (keptN l s b l.length * 7) (Builtin.zeroCells zOff.cells (l.length - keptN l s b l.length)).toList):=fun ty =>
     run_clear_cells wr 61 126 ty zOff Tryz.underlying61 (Tryz.zeroValue126) g (keptN l s b l.length * 7) _ _ (by omega) (zero_one _)
      (fun t ht=>(owns_there' hown (by rw [zero_len] at ht; omega)).1) (fun t ht=>(owns_there' hown (by rw [zero_len] at ht; omega)).2)
    have hr:=run_slice_from (P:=Tryz.prog) wr 61 126 Tryz.underlying61 (Tryz.sizeOf126 _) g l.length cap (keptN l s b l.length) hkl (by omega)
    obtain ⟨W3,hW3⟩:∃ W3,W3=wr.setCells g (keptN l s b l.length * 7) (Builtin.zeroCells zOff.cells (l.length - keptN l s b l.length)).toList:=⟨_,rfl⟩
    have HK3:=Lib.hid (show Keep (·=g) w1 W3 by rw [hW3]; exact Keep.setCells _ _ HK.out (.inl rfl))
    simp only [← hW3] at hcl HC
    rw [← hfl] at HC hcl hr hkl ⊢
    obtain ⟨m,hm⟩:∃ m,(l.filter (ofPair s b)).length=m:=⟨_,rfl⟩
    rw [hm] at HC hcl hr hkl ⊢
    have HM:=Lib.hid hm
    clear hm
    have hic:m≤cap:=by omega
    clear hW3 hfl hlo hdn hown hk hD
    go_wp2_with fail
    refine bodyPost_ret (v:=.slice (some ⟨g,0,none⟩) m cap) (by simp [results,Tryz.results113,go_sem]) rfl ?_
    exact ⟨_,rfl,by rw [HM.out]; exact HC.out,((Keep.of_below HB1.out).trans HK3.out).mono (fun k _ (hk:k=g)=>by rw [hk]; rfl),rfl⟩
 ·rw [show idxB l s b=.int .i64 (-1) by unfold idxB; rw [if_neg hp]] at CI
  have hfe:l.filter (ofPair s b)=l:=by
   rw [List.filter_eq_self]
   intro x hx
   obtain ⟨j,hj,rfl⟩:=List.mem_iff_getElem.1 hx
   exact posB_take (by have:=posB_le l s b; omega)
  rw [hfe]
  obtain ⟨ao,cap,rfl,_⟩:=owns_open h
  have HO:=Lib.hid h
  clear h h1 h2 hp hfe
  go_enter Tryz.func113,Tryz.ntmps113
  go_wp2_with fail
  refine CI.out.mono ?_
  rintro e w1 ⟨rfl,b1⟩
  have HB1:=Lib.hid b1
  clear b1 CI
  go_wp2_with fail
  refine bodyPost_ret (v:=.slice ao l.length cap) (by simp [results,Tryz.results113,go_sem]) rfl ?_
  exact ⟨_,rfl,owns_below HO.out HB1.out,Keep.of_below HB1.out,rfl⟩
end Go.Proofs.YtojbmnbphdcjfaaGreat
namespace Go.Proofs.YtojbmnbphdcjfaaGreat
open Go.RowKit
set_option maxHeartbeats 4000000 in
theorem pbest_of {w:World} {base:Nat} {pv v:Value} {l:List Of} {N:Int} {s b:Int} (hc:∀ w',Below w.heap.size w w'→Calls Tryz.prog 60 #[pv] w' fun e w''=>e=.returned v∧w'=w'') (h:w.ownsRow base 126 7 v l.length (ofCells l)) (hI:BInv l N) :
  Calls Tryz.prog 64 #[pv,.int .u8 s,.int .u8 b] w (ListPost w 76 7 (bestO l s b).length (ofCells (bestO l s b))):=by
 have hlen:=hI.len
 have hbw:=((Below.refl w.heap.size w).alloc (Nat.le_refl _) (.cells #[.int .u8 s] 40)).alloc (by simp) (.cells #[.int .u8 b] 40)
 have HB:=Lib.hid hbw
 have K1:=Lib.hid ((Blk.new w #[.int .u8 s] 40).alloc (.cells #[.int .u8 b] 40))
 have K2:=Lib.hid (Blk.newAt (w.alloc (.cells #[.int .u8 s] 40)) #[.int .u8 b] 40 (g:=w.heap.size + 1) (by simp))
 have C1:=Lib.hid (hc _ hbw)
 have C2:=Lib.hid (cloneO_any (owns_below h hbw) (by omega))
 obtain ⟨bp,bs⟩:=bestO_is hI.may hI.rise s b
 have hgood:∀ x ∈ l.filter (ofPair s b),x.may∧0≤x.se∧x.se≤18446744073709551615:=fun x hx=>by
  have hx:=(List.mem_filter.1 hx).1
  have:=hI.bd x hx
  have:=hI.n2
  exact ⟨hI.may x hx,by omega,by omega⟩
 have hne:(l.filter (ofPair s b)).Pairwise fun x y=>x.se≠y.se:=(hI.rise.filter _).imp fun h=>by omega
 have hfl:(l.filter (ofPair s b)).length≤1000:=Nat.le_trans (List.length_filter_le _ _) (by omega)
 have HS:=Lib.hid (fun (w:World) (base:Nat) (v:Value) (h:w.ownsRow base 126 7 v (l.filter (ofPair s b)).length (ofCells (l.filter (ofPair s b))))=>sortO_any hgood bp bs hne hfl h)
 have HM:=Lib.hid (show (bestO l s b).length≤1000 by rw [bp.length_eq]; exact hfl)
 clear hbw hc h hI bp bs hgood hne hfl
 go_enter Tryz.func64,Tryz.ntmps64
 go_wp2_with fail
 generalize hWW:(w.alloc (.cells #[.int .u8 s] 40)).alloc (.cells #[.int .u8 b] 40)=W at *
 have HWs:=Lib.hid (show W.heap.size=w.heap.size + 2 by rw [← hWW]; simp)
 clear hWW
 refine C1.out.mono ?_
 rintro e W ⟨rfl,rfl⟩
 go_wp2_with fail
 refine C2.out.mono ?_
 rintro e w1 ⟨v1,rfl,o1,b1⟩
 have CD:=Lib.hid (pdelf_any o1 (by omega) (K1.out.below b1 K1.out.lt) (K2.out.below b1 K2.out.lt))
 have HB1:=Lib.hid (HB.out.trans (b1.mono HB.out.size))
 have HO1:=Lib.hid o1
 have HW1:=Lib.hid b1.size
 clear o1 b1 C2 C1
 go_wp2_with fail
 refine CD.out.mono ?_
 rintro e w2 ⟨v2,rfl,o2,k2,e2⟩
 have HK2:=Lib.hid k2
 have CS:=Lib.hid (HS.out _ _ _ o2)
 have HE:=Lib.hid e2
 have hv2:∃ ao c,v2=.slice ao (l.filter (ofPair s b)).length c:=by obtain ⟨ao,c,hv,_⟩:=owns_open o2; exact ⟨ao,c,hv⟩
 have HB2:=Lib.hid (HB1.out.trans (k2.below HB1.out.size (fun k hk e=>by have:=(owns_type HO1.out e).1; have:=HWs.out; omega)))
 have HO2:=Lib.hid o2
 clear o2 k2 e2 CD
 obtain ⟨ao,c,rfl⟩:=hv2
 go_wp2_with fail
 refine CS.out.mono ?_
 rintro e w3 ⟨rfl,o3,k3⟩
 have CT:=Lib.hid (told_any o3 HM.out)
 have HB3:=Lib.hid (HB2.out.trans (k3.below HB2.out.size (fun k hk e=>by have:=(owns_type HO2.out e).1; have:=HWs.out; omega)))
 clear o3 k3 CS
 go_wp2_with fail
 refine CT.out.mono ?_
 rintro e w4 ⟨v',rfl,h1,b4⟩
 have H1:=Lib.hid h1
 have HB4:=Lib.hid (HB3.out.trans (b4.mono HB3.out.size))
 clear h1 b4 CT
 go_wp2_with fail
 refine bodyPost_ret (v:=v') (by simp [results,Tryz.results64,go_sem]) rfl ?_
 exact ⟨v',rfl,H1.out.base HB3.out.size,HB4.out⟩
theorem pbest_any {w:World} {base g:Nat} {l:List Of} {N:Int} {vl:Value} (h:PB w base g l N vl) (hI:BInv l N) (s b:Int) :
  Calls Tryz.prog 64 #[.pointer (some ⟨g,0,none⟩),.int .u8 s,.int .u8 b] w (ListPost w 76 7 (bestO l s b).length (ofCells (bestO l s b))):=by
 obtain ⟨ao,cap,rfl,_⟩:=owns_open h.row
 exact pbest_of (fun w' k=>ball_any (h.below k).blk) h.row hI
end Go.Proofs.YtojbmnbphdcjfaaGreat
