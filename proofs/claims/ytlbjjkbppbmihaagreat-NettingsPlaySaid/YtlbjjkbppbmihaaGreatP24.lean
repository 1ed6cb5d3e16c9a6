/-
  Pieces of one proof, without what is not wanted: NEnds, NSort, PNet.
-/
import Derived.Test.YtlbjjkbppbmihaaGreatP05
import Derived.Test.YtlbjjkbppbmihaaGreatP11
import Derived.Test.YtlbjjkbppbmihaaGreatP17
import Derived.Test.YtlbjjkbppbmihaaGreatP18
import Derived.Test.YtlbjjkbppbmihaaGreatP23
import Derived.Laws.EntriesVeiled
import Derived.Shelf.Abstract
import Derived.Shelf.SlSortCmp.NoneTotal
set_option linter.unusedSimpArgs false
set_option linter.unusedVariables false
namespace Go.Proofs.YtlbjjkbppbmihaaGreat
open Go.RowKit Go.Shelf
set_option maxHeartbeats 4000000 in
set_option maxRecDepth 100000 in
theorem ends_any (x:Fw) (w:World):Calls Tryz.prog 37 #[.agg #[.int .u8 x.fr,.int .u8 x.tt,.int .i64 x.am]] w fun e w'=>e=.returned (.tuple #[.int .u8 x.fr,.int .u8 x.tt])∧BelowD w.heap.size w w':=by
 go_enter Tryz.func37,Tryz.ntmps37
 go_wp2_with fail
 have K:=Blk.new w #[.int .u8 x.fr,.int .u8 x.tt,.int .i64 x.am] 62
 have B:=Lib.hid ((BelowD.refl w.heap.size w).alloc (Nat.le_refl _) (.cells #[.int .u8 x.fr,.int .u8 x.tt,.int .i64 x.am] 62))
 generalize w.alloc (.cells #[.int .u8 x.fr,.int .u8 x.tt,.int .i64 x.am] 62)=W at K B ⊢
 have d0:=K.cell 0
 have d1:=K.cell 1
 simp at d0 d1
 have hl:=K.lt
 clear K
 go_quiet (fail)
 have B2:∀ k,Hid (BelowD w.heap.size w (W.drewN k)):=fun k=>Lib.hid ⟨⟨B.out.os,B.out.tape,B.out.output,B.out.size,B.out.block⟩,Nat.le_trans B.out.dr (Nat.le_add_right _ _)⟩
 clear B
 go_wp2_with fail
 refine bodyPost_ret (v:=.tuple #[.int .u8 x.fr,.int .u8 x.tt]) (by simp [results,Tryz.results37,go_sem]) rfl ?_
 exact ⟨rfl,(B2 _).out⟩
set_option maxHeartbeats 4000000 in
set_option maxRecDepth 100000 in
theorem byends_any (x y:Fw) {w:World} {h:Nat} (hh:Blk w h #[.func (.func 37) #[] #[]] 74) :
  Calls Tryz.prog 67 #[.agg #[.int .u8 x.fr,.int .u8 x.tt,.int .i64 x.am],.agg #[.int .u8 y.fr,.int .u8 y.tt,.int .i64 y.am],.pointer (some ⟨h,0,none⟩)] w fun e w'=>e=.returned (.int .i64 (ordF x y))∧BelowD w.heap.size w w':=by
 unfold ordF
 have c1:=Lib.hid (fun w=>compare_q x.fr y.fr w)
 have c2:=Lib.hid (fun w=>compare_q x.tt y.tt w)
 have e1:=Lib.hid (fun w=>ends_any x w)
 have e2:=Lib.hid (fun w=>ends_any y w)
 have hen:∀ args w,(callFunc 37 args).run Tryz.prog w=.ok (.enter 37 args) w:=enters_of Tryz.func37 (by kernel_rfl) rfl
 generalize cmpD x.fr y.fr=p at *
 generalize cmpD x.tt y.tt=q at *
 have d0:=hh.cell 0
 simp at d0
 have hlt:=hh.lt
 have HH:=Lib.hid hh
 clear hh
 go_enter Tryz.func67,Tryz.ntmps67
 go_wp2_with fail
 have KX:=Lib.hid ((Blk.new w #[.int .u8 x.fr,.int .u8 x.tt,.int .i64 x.am] 62).alloc (.cells #[.int .u8 y.fr,.int .u8 y.tt,.int .i64 y.am] 62))
 have KY:=Lib.hid (Blk.newAt (w.alloc (.cells #[.int .u8 x.fr,.int .u8 x.tt,.int .i64 x.am] 62)) #[.int .u8 y.fr,.int .u8 y.tt,.int .i64 y.am] 62 (g:=w.heap.size + 1) (by simp))
 have B0:=Lib.hid (((BelowD.refl w.heap.size w).alloc (Nat.le_refl _) (.cells #[.int .u8 x.fr,.int .u8 x.tt,.int .i64 x.am] 62)).alloc (by simp) (.cells #[.int .u8 y.fr,.int .u8 y.tt,.int .i64 y.am] 62))
 refine (e1.out _).mono ?_
 rintro e w1 ⟨rfl,b1⟩
 have HH1:=(HH.out.below B0.out.toBelow HH.out.lt).below b1.toBelow (by have:=B0.out.size; have:=HH.out.lt; omega)
 have KY1:=KY.out.below b1.toBelow KY.out.lt
 have B1:=Lib.hid (B0.out.trans (b1.mono B0.out.size))
 clear b1 d0 hlt
 have d0:=HH1.cell 0
 have d1:=KY1.cell 0
 have d2:=KY1.cell 1
 have d3:=KY1.cell 2
 simp at d0 d1 d2 d3
 have l0:=HH1.lt
 have l1:=KY1.lt
 clear HH1 KY1
 go_wp2_with fail
 refine (e2.out _).mono ?_
 rintro e w2 ⟨rfl,b2⟩
 have B2:=Lib.hid (B1.out.trans (b2.mono B1.out.size))
 clear b2 d0 d1 d2 d3 l0 l1
 go_wp2_with fail
 refine (c1.out _).mono ?_
 rintro e w3 ⟨rfl,rfl⟩
 go_wp2_with fail
 refine (c2.out _).mono ?_
 rintro e w4 ⟨rfl,rfl⟩
 have KB:=Blk.new w4 #[.int .i64 p,.int .i64 q] 3
 have B3:=Lib.hid (B2.out.alloc B2.out.size (.cells #[.int .i64 p,.int .i64 q] 3))
 have HO:=Lib.hid (or_pair w4.heap.size 2 p q _ KB.lt (KB.cell 0) (KB.cell 1))
 clear KB
 go_wp2_with fail
 refine HO.out.mono ?_
 rintro e w5 ⟨rfl,rfl⟩
 go_wp2_with fail
 go_ret
 exact ⟨rfl,B3.out⟩
end Go.Proofs.YtlbjjkbppbmihaaGreat
namespace Go.Proofs.YtlbjjkbppbmihaaGreat
open Go.RowKit Go.Shelf Go.Sort Go.Lib
instance:Inhabited Fw:=⟨⟨0,0,0⟩⟩
theorem ordF_lt (x y:Fw):ordF x y<0↔(x.fr<y.fr∨(x.fr=y.fr∧x.tt<y.tt)):=by
 unfold ordF orD cmpD
 (repeat' split) <;> omega
theorem swoF:SWO (ltOf ordF) where
 irrefl x:=by unfold ltOf; rw [decide_eq_false_iff_not,ordF_lt]; omega
 trans x y z h1 h2:=by
  unfold ltOf at *
  rw [decide_eq_true_eq,ordF_lt] at *
  omega
 ntrans x y z h1 h2:=by
  unfold ltOf at *
  rw [decide_eq_false_iff_not,ordF_lt] at *
  omega
theorem flat_fws (ls:List Fw) {j:Nat} (h:j<ls.length * 3):(flatK Fw.vals 3 ls.toArray)[j]! = (fwCells ls)[j]'(by rw [fwCells_len]; exact h):=by
 rw [get_flatK _ _ _ j (by simpa using h)]
 have h1:j / 3<ls.length:=by omega
 have h2:j % 3<3:=Nat.mod_lt _ (by omega)
 have h3:=fwCells_get ls (j / 3) (j % 3) h2 h1
 rw [show j / 3 * 3 + j % 3=j by omega] at h3
 rw [List.getElem?_eq_getElem (by rw [fwCells_len]; exact h)] at h3
 have h4:(ls.toArray)[j / 3]! = ls[j / 3]:=by simp [h1]
 rw [h4,List.getElem!_eq_getElem?_getD,← h3]
 rfl
theorem holds_fws {w:World} {g:Nat} {cur:Array Value} {e:TypeId} {ls:List Fw} (hb:w.heap[g]? = some (.cells cur e (0,0))) (ht:cur.toList.take (ls.length * 3)=fwCells ls):HoldsK Fw.vals 3 w g 0 ls.toArray:=by
 intro j hj
 have hj':j<ls.length * 3:=by simpa using hj
 refine ⟨?_,by simp [World.frozen?,hb]⟩
 rw [flat_fws ls hj']
 have h1:(cur.toList.take (ls.length * 3))[j]? = (fwCells ls)[j]? := by rw [ht]
 rw [List.getElem?_take_of_lt hj'] at h1
 simp only [World.cell?,hb,Nat.zero_add]
 simp only [Option.isSome_none,Bool.false_eq_true,if_false]
 rw [← Array.getElem?_toList,h1,List.getElem?_eq_getElem (by rw [fwCells_len]; exact hj')]
 rfl
theorem heap_fws {w:World} {g n:Nat} {os:Array Obj} {cur:Array Value} {e:TypeId} (d:Array Fw) (hb:w.heap[g]? = some (.cells cur e (0,0))) :
  (sortWorldK Fw.vals 3 w g 0 n d os).heap[g]? = some (.cells (putCells id 0 (flatK Fw.vals 3 d) cur) e (0,0)):=by
 have hg:g<w.heap.size:=(Array.getElem?_eq_some_iff.1 hb).1
 unfold sortWorldK putRowK
 rw [heap_grow_old _ _ (by simpa using hg)]
 simp [putRow,mapBlock,Go.Sort.ahead,Array.getElem?_modify,hb,onCells]
theorem keep_fws {w:World} {g n:Nat} {os:Array Obj} (d:Array Fw):Keep (·=g) w (sortWorldK Fw.vals 3 w g 0 n d os):=by
 refine ⟨rfl,rfl,rfl,by simp [sortWorldK,putRowK],fun k hk hne=>?_⟩
 unfold sortWorldK putRowK
 rw [heap_grow_old _ _ (by simpa using hk)]
 have:g≠k:=fun e=>hne e.symm
 simp [putRow,mapBlock,Go.Sort.ahead,Array.getElem?_modify,this]
theorem take_fws (cur:Array Value) (ls:List Fw) (h:ls.length * 3≤cur.size):(putCells id 0 (flatK Fw.vals 3 ls.toArray) cur).toList.take (ls.length * 3)=fwCells ls:=by
 apply List.ext_getElem?
 intro j
 by_cases hj:j<ls.length * 3
 ·have hf:=flat_fws ls hj
  rw [List.getElem?_take_of_lt hj,Array.getElem?_toList,List.getElem?_eq_getElem (by rw [fwCells_len]; exact hj),← hf]
  simp [putCells,hj,show j<cur.size by omega]
 ·rw [List.getElem?_take_eq_none (by omega),List.getElem?_eq_none (by rw [fwCells_len]; omega)]
theorem sorted_fws {f m:List Fw} (hp:f.Perm m) (hm:m.Pairwise fun x y=>keyD x<keyD y) (hb:∀ x ∈ m,0≤x.tt∧x.tt≤255) (d:Array Fw) (h1:PermIn 0 f.toArray.size f.toArray d) (h2:SortedIn (ltOf ordF) 0 f.toArray.size d):d.toList=m:=by
 obtain ⟨hs,_,hperm⟩:=h1
 have hpd:d.toList.Perm f:=by
  have e1:d.extract 0 f.toArray.size=d:=by rw [← hs,Array.extract_size]
  rw [e1,Array.extract_size] at hperm
  simpa using hperm
 have hpl:=hpd.trans hp
 have hne:d.toList.Pairwise fun x y=>keyD x≠keyD y:=(hpl.symm.pairwise_iff (fun {a b} (h:keyD a≠keyD b)=>h.symm)).1 (hm.imp fun h=>by omega)
 refine List.Perm.eq_of_pairwise (fun a b _ _ h1 h2=>absurd h1 (by omega)) (le:=fun x y=>keyD x<keyD y) ?_ hm hpl
 rw [List.pairwise_iff_getElem] at hne ⊢
 intro i j hi hj hij
 have hn:=hne i j hi hj hij
 have hi':i<d.size:=by simpa using hi
 have hj':j<d.size:=by simpa using hj
 have hso:=h2 i j (Nat.zero_le _) hij (by rw [← hs]; exact hj')
 rw [getElem!_pos d i hi',getElem!_pos d j hj'] at hso
 have b1:=hb d[i] (hpl.mem_iff.1 (by simp))
 have b2:=hb d[j] (hpl.mem_iff.1 (by simp))
 unfold ltOf at hso
 rw [decide_eq_false_iff_not,ordF_lt] at hso
 simp only [Array.getElem_toList] at hn ⊢
 unfold keyD at hn ⊢
 omega
end Go.Proofs.YtlbjjkbppbmihaaGreat
namespace Go.Proofs.YtlbjjkbppbmihaaGreat
open Go.RowKit Go.Shelf Go.Lib
open Go.Sort (grow flatK putCells HoldsK PermIn SortedIn SWO)
def sortF_ren:Go.Shelf.Ren:=⟨fun | 6=>66 | 15=>82 | 14=>85 | 28=>101 | 29=>102 | 20=>104 | 21=>105 | 22=>106 | 23=>107 | 24=>108 | 25=>109 | 26=>110 | 27=>111 | 46=>122 | 47=>118 | 48=>119 | 49=>123 | 50=>124 | 57=>130 | n=>n,fun | 22=>36 | 24=>62 | 25=>113 | 3=>3 | 39=>133 | 0=>0 | 53=>159 | 55=>161 | 4=>4 | 46=>152 | 45=>151 | 50=>156 | 5=>5 | 9=>9 | 66=>174 | 70=>178 | 76=>186 | 77=>187 | n=>n,fun | n=>n⟩
theorem sortF:Go.Proofs.SlLaysF0.n6 Tryz.prog sortF_ren:={
 mixed:=by kernel_rfl
 f6:=⟨Tryz.f66.name,by decide,Tryz.func66.trans (congrArg some (by kernel_rfl))⟩
 f14:=⟨Tryz.f85.name,by decide,Tryz.func85.trans (congrArg some (by kernel_rfl))⟩
 f15:=Tryz.func82.trans (congrArg some (by kernel_rfl))
 f20:=⟨Tryz.f104.name,by decide,Tryz.func104.trans (congrArg some (by kernel_rfl))⟩
 f21:=⟨Tryz.f105.name,by decide,Tryz.func105.trans (congrArg some (by kernel_rfl))⟩
 f22:=⟨Tryz.f106.name,by decide,Tryz.func106.trans (congrArg some (by kernel_rfl))⟩
 f23:=⟨Tryz.f107.name,by decide,Tryz.func107.trans (congrArg some (by kernel_rfl))⟩
 f24:=⟨Tryz.f108.name,by decide,Tryz.func108.trans (congrArg some (by kernel_rfl))⟩
 f25:=⟨Tryz.f109.name,by decide,Tryz.func109.trans (congrArg some (by kernel_rfl))⟩
 f26:=⟨Tryz.f110.name,by decide,Tryz.func110.trans (congrArg some (by kernel_rfl))⟩
 f27:=⟨Tryz.f111.name,by decide,Tryz.func111.trans (congrArg some (by kernel_rfl))⟩
 f28:=Tryz.func101.trans (congrArg some (by kernel_rfl))
 f29:=Tryz.func102.trans (congrArg some (by kernel_rfl))
 f46:=⟨Tryz.f122.name,by decide,Tryz.func122.trans (congrArg some (by kernel_rfl))⟩
 f47:=Tryz.func118.trans (congrArg some (by kernel_rfl))
 f48:=Tryz.func119.trans (congrArg some (by kernel_rfl))
 f49:=⟨Tryz.f123.name,by decide,Tryz.func123.trans (congrArg some (by kernel_rfl))⟩
 f50:=⟨Tryz.f124.name,by decide,Tryz.func124.trans (congrArg some (by kernel_rfl))⟩
 f57:=⟨Tryz.f130.name,by decide,Tryz.func130.trans (congrArg some (by kernel_rfl))⟩
 t0:=Tryz.underlying0
 a0:=Tryz.isAgg0
 z0:=Tryz.sizeOf0
 v0:=Tryz.zeroValue0
 t3:=Tryz.underlying3
 a3:=Tryz.isAgg3
 z3:=Tryz.sizeOf3
 v3:=Tryz.zeroValue3
 t4:=Tryz.underlying4
 a4:=Tryz.isAgg4
 z4:=Tryz.sizeOf4
 v4:=Tryz.zeroValue4
 t5:=Tryz.underlying5
 a5:=Tryz.isAgg5
 z5:=Tryz.sizeOf5
 v5:=Tryz.zeroValue5
 t9:=Tryz.underlying9
 a9:=Tryz.isAgg9
 z9:=Tryz.sizeOf9
 v9:=Tryz.zeroValue9
 t22:=Tryz.underlying36
 a22:=Tryz.isAgg36
 z22:=Tryz.sizeOf36
 v22:=Tryz.zeroValue36
 t25:=Tryz.underlying113
 a25:=Tryz.isAgg113
 z25:=Tryz.sizeOf113
 v25:=Tryz.zeroValue113
 t39:=Tryz.underlying133
 a39:=Tryz.isAgg133
 z39:=Tryz.sizeOf133
 v39:=Tryz.zeroValue133
 t45:=Tryz.underlying151
 a45:=Tryz.isAgg151
 z45:=Tryz.sizeOf151
 v45:=Tryz.zeroValue151
 t46:=Tryz.underlying152
 a46:=Tryz.isAgg152
 z46:=Tryz.sizeOf152
 v46:=Tryz.zeroValue152
 t50:=Tryz.underlying156
 a50:=Tryz.isAgg156
 z50:=Tryz.sizeOf156
 v50:=Tryz.zeroValue156
 t53:=Tryz.underlying159
 a53:=Tryz.isAgg159
 z53:=Tryz.sizeOf159
 v53:=Tryz.zeroValue159
 t55:=Tryz.underlying161
 a55:=Tryz.isAgg161
 z55:=Tryz.sizeOf161
 v55:=Tryz.zeroValue161
 t66:=Tryz.underlying174
 a66:=Tryz.isAgg174
 z66:=Tryz.sizeOf174
 v66:=Tryz.zeroValue174
 t70:=Tryz.underlying178
 a70:=Tryz.isAgg178
 z70:=Tryz.sizeOf178
 v70:=Tryz.zeroValue178
 t76:=Tryz.underlying186
 a76:=Tryz.isAgg186
 z76:=Tryz.sizeOf186
 v76:=Tryz.zeroValue186
 t77:=Tryz.underlying187
 a77:=Tryz.isAgg187
 z77:=Tryz.sizeOf187
 v77:=Tryz.zeroValue187 }
theorem sortF_any {w:World} {base h:Nat} {v:Value} {f m:List Fw} (hp:f.Perm m) (hm:m.Pairwise fun x y=>keyD x<keyD y) (hb:∀ x ∈ m,0≤x.tt∧x.tt≤255) (hl:f.length≤1000) (ho:w.ownsRow base 62 3 v f.length (fwCells f))
  (hh:Blk w h #[.func (.func 37) #[] #[]] 74) :
  Calls Tryz.prog 66 #[v,.func (.func 67) #[] #[.pointer (some ⟨h,0,none⟩)]] w fun e w'=>e=.returned (.tuple #[])∧w'.ownsRow base 62 3 v m.length (fwCells m)∧Keep (fun b=>v.ownBlock=some b) w w':=by
 have hlen:=hp.length_eq
 rcases ho.2 with ⟨rfl,h0⟩ | ⟨g,cap,cur,rfl,hbase,hbl,h1,h2,h3,h4⟩
 ·rw [h0] at hlen
  have:m=[]:=List.eq_nil_of_length_eq_zero hlen.symm
  subst this
  refine (AnyF.slices_SortFunc_none { sortF with } none 0 (.func (.func 67) #[] #[.pointer (some ⟨h,0,none⟩)]) w).mono ?_
  rintro e w' ⟨rfl,rfl⟩
  exact ⟨rfl,World.ownsRow_nil _ _ _ _,Keep.refl _ _⟩
 ·have hg:g<w.heap.size:=(Array.getElem?_eq_some_iff.1 hbl).1
  have hne:¬ h=g:=fun e=>by
   subst e
   have e1:w.heap[h]? = some (.cells #[.func (.func 37) #[] #[]] 74 (0,0)):=hh
   rw [hbl] at e1
   simp at e1
  have eg:∀ args w,(callFunc 67 args).run Tryz.prog w=.ok (.enter 67 args) w:=enters_of Tryz.func67 (by kernel_rfl) rfl
  have hcmp:CmpLays Tryz.prog 67 #[.pointer (some ⟨h,0,none⟩)] Fw.vals 3 ordF g 0 f.toArray.size w:=fun m os dk _ x y=>(byends_any x y (hh.keep (keep_fws dk) hne)).mono fun e w' ⟨he,hb⟩=>⟨he,hb.grown⟩
  have hc:=AnyQ.slices_SortFunc (P:=Tryz.prog) sortF 3 Tryz.isAgg62 Tryz.sizeOf62 Fw.vals (fun _=>rfl) (fun x u hu=>by simp [Fw.vals] at hu; rcases hu with rfl | rfl | rfl <;> rfl) ordF swoF 67 #[.pointer (some ⟨h,0,none⟩)] g 0 cap f.toArray w eg hcmp (holds_fws hbl h4) hg (by simp; omega)
  have hsz:f.toArray.size=f.length:=by simp
  rw [hsz] at hc
  refine Calls.mono hc ?_
  rintro e w' ⟨rfl,d,n,os,hp1,hs1,rfl⟩
  have hd:=sorted_fws hp hm hb d (by rw [hsz]; exact hp1) (by rw [hsz]; exact hs1)
  have hda:d=m.toArray:=by rw [← hd]
  subst hda
  refine ⟨rfl,⟨fwCells_len m,.inr ⟨g,cap,_,by rw [hlen],hbase,heap_fws _ hbl,by omega,h2,by simp [putCells,h3],take_fws cur m (by omega)⟩⟩,(keep_fws _).mono fun k _ hk=>by rw [hk]; rfl⟩
set_option maxHeartbeats 4000000 in
theorem sortE_any {w:World} {base:Nat} {v:Value} {f m:List Fw} (hp:f.Perm m) (hm:m.Pairwise fun x y=>keyD x<keyD y) (hb:∀ x ∈ m,0≤x.tt∧x.tt≤255) (hl:f.length≤1000) (ho:w.ownsRow base 62 3 v f.length (fwCells f)) :
  Calls Tryz.prog 36 #[v,.func (.func 37) #[] #[]] w fun e w'=>e=.returned (.tuple #[])∧w'.ownsRow base 62 3 v m.length (fwCells m)∧Keep (fun b=>v.ownBlock=some b) w w':=by
 have B:=Lib.hid ((Keep.refl (fun b=>v.ownBlock=some b) w).alloc (.cells #[.func (.func 37) #[] #[]] 74))
 have CS:=Lib.hid (sortF_any hp hm hb hl (ho.alloc (.cells #[.func (.func 37) #[] #[]] 74)) (Blk.new w #[.func (.func 37) #[] #[]] 74))
 clear hp hm hb hl ho
 go_enter Tryz.func36,Tryz.ntmps36
 go_wp2_with fail
 refine CS.out.mono ?_
 rintro e w1 ⟨rfl,h1,h2⟩
 have H1:=Lib.hid h1
 have H2:=Lib.hid (B.out.trans h2)
 clear h1 h2
 go_wp2_with fail
 go_end0
 exact ⟨rfl,H1.out,H2.out⟩
end Go.Proofs.YtlbjjkbppbmihaaGreat
namespace Go.Proofs.YtlbjjkbppbmihaaGreat
open Go.RowKit
def dbOf (c:Int) (x:Ln):List Fw:=if x.cu=c∧0<x.db then [⟨x.de,x.cr,x.db⟩] else []
def dbL (c:Int) (ls:List Ln):List Fw:=ls.flatMap (dbOf c)
theorem dbL_next {c:Int} {ls:List Ln} {k:Nat} (h:k<ls.length):dbL c (ls.take (k + 1))=dbL c (ls.take k)++dbOf c ls[k]:=by
 unfold dbL
 rw [List.take_succ_eq_append_getElem h,List.flatMap_append]
 simp
theorem dbL_len (c:Int):∀ ls:List Ln,(dbL c ls).length≤ls.length
 | []=>Nat.le_refl _
 | x::ls=>by
  have ih:=dbL_len c ls
  show (dbOf c x++dbL c ls).length≤_
  rw [List.length_append]
  unfold dbOf
  split <;> simp <;> omega
theorem dbL_mem {c:Int} {ls:List Ln} {x:Fw}:x ∈ dbL c ls↔∃ y ∈ ls,y.cu=c∧0<y.db∧x=⟨y.de,y.cr,y.db⟩:=by
 unfold dbL
 rw [List.mem_flatMap]
 constructor
 ·rintro ⟨y,hy,hx⟩
  unfold dbOf at hx
  split at hx
  ·rename_i hc
   rw [List.mem_singleton] at hx
   exact ⟨y,hy,hc.1,hc.2,hx⟩
  ·cases hx
 ·rintro ⟨y,hy,h1,h2,rfl⟩
  refine ⟨y,hy,?_⟩
  unfold dbOf
  rw [if_pos ⟨h1,h2⟩]
  exact List.mem_singleton.2 rfl
theorem dbL_apart {c:Int}:∀ {ls:List Ln},(∀ x ∈ ls,x.Good)→ls.Pairwise (fun x y=>x.rank<y.rank)→(dbL c ls).Nodup
 | [],_,_=>List.Pairwise.nil
 | x::ls,hg,hp=>by
  obtain ⟨p1,p2⟩:=List.pairwise_cons.1 hp
  have ih:=dbL_apart (c:=c) (fun y hy=>hg y (List.mem_cons_of_mem _ hy)) p2
  show (dbOf c x++dbL c ls).Pairwise _
  rw [List.pairwise_append]
  refine ⟨by unfold dbOf; split <;> simp,ih,fun a ha b hb=>?_⟩
  obtain ⟨y,hy,h1,h2,rfl⟩:=dbL_mem.1 hb
  unfold dbOf at ha
  split at ha
  ·rename_i hc
   rw [List.mem_singleton] at ha
   subst ha
   intro e
   simp only [Fw.mk.injEq] at e
   have hr:=p1 y hy
   have:x.rank=y.rank:=rank_of e.2.1 e.1 (hc.1.trans h1.symm)
   omega
  ·cases ha
theorem dbL_perm {ps:List Int} {ls:List Ln} (h:LInv ps ls) (c:Int):(dbL c ls).Perm (debtsL ls c):=by
 refine (List.perm_ext_iff_of_nodup (dbL_apart h.inv.good h.inv.sorted) ((debtsL_sorted ls c).imp (fun {a b} hab e=>by subst e; omega))).2 fun x=>?_
 rw [dbL_mem,debtsL_mem]
 constructor
 ·rintro ⟨y,hy,rfl,h2,rfl⟩
  have hg:=h.inv.good y hy
  have hl:=(line_iff h.inv y.cr y.de y.cu y).2 ⟨hy,rfl,rfl,rfl⟩
  refine ⟨hg.de,hg.cr,h2,?_⟩
  unfold owedL
  rw [lnAt_some hl]
 ·rintro ⟨_,_,h3,h4⟩
  obtain ⟨y,hl,hy,_,k1,k2,k3⟩:=owed_line h (c:=c) (a:=x.fr) (b:=x.tt) (by rw [← h4]; exact h3)
  obtain ⟨hm,_⟩:=(line_iff h.inv _ _ _ y).1 hl
  have e:x.am=y.db:=by rw [h4]; unfold owedL; rw [hy]
  refine ⟨y,hm,k3,by omega,?_⟩
  cases x
  simp_all
theorem debts_fit8 (ls:List Ln) (c:Int):∀ x ∈ debtsL ls c,0≤x.tt∧x.tt≤255:=fun x hx=>by
 obtain ⟨_,h,_⟩:=debtsL_mem.1 hx
 omega
theorem debts_len64 {ps:List Int} {ls:List Ln} (h:LInv ps ls) (c:Int):(debtsL ls c).length≤64:=by
 rw [← (dbL_perm h c).length_eq]
 exact Nat.le_trans (dbL_len c ls) h.len
def DbsAt (W:World) (c:Int) (ls:List Ln) (v i:Value) (wr:World):Prop :=
 ∃ k:Nat,k≤ls.length∧i=.int .i64 k∧wr.ownsRow W.heap.size 62 3 v (dbL c (ls.take k)).length (fwCells (dbL c (ls.take k)))∧Below W.heap.size W wr
set_option maxHeartbeats 16000000 in
set_option maxRecDepth 100000 in
theorem pdebts_at {w:World} {G M:Nat} {ps:List Int} {ls:List Ln} (hL:LedM w G M ps ls) (hI:LInv ps ls) (c:Int) (hc:In8 c) :
  Calls Tryz.prog 9 #[.pointer (some ⟨G,0,none⟩),.int .u8 c] w (ListPost w 62 3 (debtsL ls c).length (fwCells (debtsL ls c))):=by
 have C1:=Lib.hid (plines_any hL hI)
 have HP:=Lib.hid (dbL_perm hI c)
 have HL64:=Lib.hid hI.len
 have hl64:=hI.len
 clear hL hI
 go_enter Tryz.func9,Tryz.ntmps9
 go_wp2_with fail
 refine C1.out.mono ?_
 rintro e w1 ⟨lv,rfl,hr,hb⟩
 obtain ⟨ao,rfl,hsh⟩:=rowed_shape hr
 have HS:Hid (0<ls.length→∃ g,ao=some ⟨g,0,none⟩∧g<w1.heap.size∧∀ j,j<ls.length * 5→w1.cell? ⟨g,j,none⟩=(lnCells ls)[j]?):=Lib.hid (fun h0=>by
  obtain ⟨g,h1,_,h2,h3⟩:=hsh h0
  exact ⟨g,h1,h2,h3⟩)
 have B1:=Lib.hid hb
 clear hr hb hsh C1
 go_wp2_with fail
 go_loopw [5,11] (fun v i wr=>DbsAt w1 c ls v i wr) (fun _ i _=>ls.length - (intOf i).toNat)
 case atStart=>exact ⟨0,by omega,rfl,World.ownsRow_nil _ _ _ _,Below.refl _ _⟩
 case round =>
  obtain ⟨k,hk,rfl,hO,hB⟩:=hrel
  have OO:=Lib.hid hO
  have BB:=Lib.hid hB
  clear hO hB
  by_cases hkl:k<ls.length
  ·have hki:(k:Int)<(ls.length:Int):=by omega
   have hk0:(0:Int)≤(k:Int):=by omega
   have q0:decide ((k:Int)<(ls.length:Int))=true:=by simpa using hkl
   obtain ⟨g,rfl,hg,hcell⟩:=HS.out (by omega)
   have hgr:=Nat.lt_of_lt_of_le hg BB.out.size
   have NX:=Lib.hid (dbL_next (c:=c) hkl)
   have HLEN:=Lib.hid (show (dbL c (ls.take k)).length≤100000 by have:=dbL_len c (ls.take k); rw [List.length_take] at this; omega)
   generalize dbL c (ls.take k)=out at *
   obtain ⟨x,hx⟩:∃ x,ls[k]=x:=⟨_,rfl⟩
   have hv:∀ j,j<5→wr.cell? ⟨g,k * 5 + j,none⟩=x.vals[j]? := fun j hj=>by
    rw [BB.out.cell (p:=⟨g,k * 5 + j,none⟩) hg,hcell _ (by omega),lnCells_get ls k j hj hkl,hx]
   rw [hx] at NX
   obtain ⟨cr,de,cu,li,db⟩:=x
   have d0:wr.cell? ⟨g,k * 5,none⟩=some (.int .u8 cr):=hv 0 (by decide)
   have d1:wr.cell? ⟨g,k * 5 + 1,none⟩=some (.int .u8 de):=hv 1 (by decide)
   have d2:wr.cell? ⟨g,k * 5 + 2,none⟩=some (.int .u8 cu):=hv 2 (by decide)
   have d3:wr.cell? ⟨g,k * 5 + 3,none⟩=some (.int .i64 li):=hv 3 (by decide)
   have d4:wr.cell? ⟨g,k * 5 + 4,none⟩=some (.int .i64 db):=hv 4 (by decide)
   have HKL:=Lib.hid hkl
   clear hv hx hcell hkl
   unfold dbOf at NX
   dsimp only at NX
   have HS0:=BB.out.size
   by_cases hc1:cu=c
   ·have q1:(cu==c)=true:=by simpa using hc1
    by_cases hd:0<db
    ·have q2:decide (0<db)=true:=by simpa using hd
     rw [if_pos ⟨hc1,hd⟩] at NX
     clear hd hc1
     go_wp2_with (at_builtin; refine wpList_append_fw _ rfl (.tmp 24) (.tmp 32) rfl w1.heap.size _ out rfl ((OO.out.alloc _).alloc _) (wr.heap.size + 1) 1 (⟨de,cr,db⟩:Fw) (by simp [go_sem]) (Blk.newAt _ _ _ (by simp)) HLEN.out (by simp; omega) ?_)
     intro v3 w3 hown3 hgr3
     have O3:=Lib.hid (show w3.ownsRow w1.heap.size 62 3 v3 (out++[(⟨de,cr,db⟩:Fw)]).length (fwCells (out++[(⟨de,cr,db⟩:Fw)])) by simpa using hown3)
     have B3:=Lib.hid (((BB.out.alloc HS0 _).alloc (by simp; omega) _).grown hgr3 (by simp; omega) (fun k hk=>(owns_type OO.out hk).1))
     clear hown3 hgr3
     go_wp2_with fail
     exact ⟨⟨k + 1,by have:=HKL.out; omega,by go_num,by rw [NX.out]; exact O3.out,B3.out⟩,by simp [intOf]; have:=HKL.out; omega⟩
    ·have q2:decide (0<db)=false:=by simpa using hd
     rw [if_neg (fun e=>hd e.2),List.append_nil] at NX
     clear hd hc1
     go_wp2_with fail
     exact ⟨⟨k + 1,by have:=HKL.out; omega,by go_num,by rw [NX.out]; exact OO.out.alloc _,BB.out.alloc HS0 _⟩,by simp [intOf]; have:=HKL.out; omega⟩
   ·have q1:(cu==c)=false:=by simpa using hc1
    rw [if_neg (fun e=>hc1 e.1),List.append_nil] at NX
    clear hc1
    go_wp2_with fail
    exact ⟨⟨k + 1,by have:=HKL.out; omega,by go_num,by rw [NX.out]; exact OO.out.alloc _,BB.out.alloc HS0 _⟩,by simp [intOf]; have:=HKL.out; omega⟩
  ·have hke:k=ls.length:=by omega
   subst hke
   have q0:decide (((ls.length:Nat):Int)<(ls.length:Int))=false:=by simp
   have OE:=OO.out
   rw [List.take_length] at OE
   have CS:=Lib.hid (sortE_any HP.out (debtsL_sorted ls c) (debts_fit8 ls c) (by have:=dbL_len c ls; omega) OE)
   have OT:=Lib.hid OE
   clear OE OO
   go_wp2_with fail
   refine CS.out.mono ?_
   rintro e w2 ⟨rfl,ho2,hk2⟩
   have B2:=Lib.hid (BB.out.trans (hk2.below BB.out.size (fun k hk he=>by have:=(owns_type OT.out he).1; omega)))
   have CC:=Lib.hid (clipF_any ho2)
   clear ho2 hk2 CS OT
   go_wp2_with fail
   refine CC.out.mono ?_
   rintro e w3 ⟨v',rfl,hrow,_,rfl⟩
   have HRow:=Lib.hid hrow
   clear hrow CC
   go_wp2_with fail
   refine bodyPost_ret (v:=v') (by simp [results,Tryz.results9,go_sem]) rfl ?_
   exact ⟨v',rfl,HRow.out.base B1.out.size,B1.out.trans (B2.out.mono B1.out.size)⟩
theorem pdebts_any:DebtsProg:=⟨pdebts_at⟩
def RestAt (W:World) (l:List Fw) (a b:Int) (i:Value) (wr:World):Prop:=∃ k:Nat,k≤l.length∧i=.int .i64 k∧Hid (ofL l a b=ofN l a b (l.length - k))∧Below W.heap.size W wr
set_option maxHeartbeats 8000000 in
set_option maxRecDepth 100000 in
theorem rest_any {w:World} {ao:Option Addr} {cap:Nat} {l:List Fw} (hr:DebtsIn w ao l) (hln:l.length≤240) (fr tt am:Int) :
  Calls Tryz.prog 44 #[.slice ao l.length cap,.agg #[.int .u8 fr,.int .u8 tt,.int .i64 am]] w fun e w'=>e=.returned (.int .i64 (ofL l fr tt))∧Below w.heap.size w w':=by
 have HC:=Lib.hid hr
 clear hr
 go_enter Tryz.func44,Tryz.ntmps44
 go_wp2_with fail
 have KX:=Lib.hid (Blk.new w #[.int .u8 fr,.int .u8 tt,.int .i64 am] 62)
 have B0:=Lib.hid ((Below.refl w.heap.size w).alloc (Nat.le_refl _) (.cells #[.int .u8 fr,.int .u8 tt,.int .i64 am] 62))
 generalize w.alloc (.cells #[.int .u8 fr,.int .u8 tt,.int .i64 am] 62)=W at KX B0 ⊢
 go_loopw [9] (RestAt W l fr tt) (fun i _=>l.length - (intOf i).toNat)
 case atStart=>exact ⟨0,by omega,rfl,Lib.hid rfl,Below.refl _ _⟩
 case round =>
  obtain ⟨k,hk,rfl,HO,hB⟩:=hrel
  have BB:=Lib.hid hB
  have B1:=Lib.hid (B0.out.trans (hB.mono B0.out.size))
  have kk:=KX.out.below hB KX.out.lt
  have x0:=kk.cell 0
  have x1:=kk.cell 1
  simp at x0 x1
  have hxl:=kk.lt
  clear hB kk
  by_cases hkl:k<l.length
  ·have qk:decide ((k:Int)<(l.length:Int))=true:=by simpa using hkl
   have k0:(0:Int)≤(k:Int):=by omega
   have k1:(k:Int)<(l.length:Int):=by omega
   obtain ⟨g,off,rfl,hbw,hcell⟩:=HC.out (by omega)
   obtain ⟨c0,c1,c2⟩:=hcell k hkl
   have e0:=(B1.out.cell (p:=⟨g,off + k * 3,none⟩) hbw).trans c0
   have e1:=(B1.out.cell (p:=⟨g,off + k * 3 + 1,none⟩) hbw).trans c1
   have e2:=(B1.out.cell (p:=⟨g,off + k * 3 + 2,none⟩) hbw).trans c2
   have hgl:=Nat.lt_of_lt_of_le hbw B1.out.size
   have NX:=Lib.hid (HO.out.trans (ofN_next l fr tt hkl))
   have HLT:=Lib.hid hkl
   obtain ⟨x,hx⟩:∃ x,dbt l k=x:=⟨_,rfl⟩
   rw [hx] at e0 e1 e2 NX
   obtain ⟨fx,tx,ax⟩:=x
   dsimp only at e0 e1 e2 NX
   clear hcell c0 c1 c2 hx HO
   have BS:=BB.out.size
   by_cases h1:fx=fr
   ·have q1:(fx==fr)=true:=by simpa using h1
    by_cases h2:tx=tt
    ·have q2:(tx==tt)=true:=by simpa using h2
     have RS:Hid (ofL l fr tt=ax):=Lib.hid (by rw [NX.out,if_pos ⟨h1,h2⟩])
     clear h1 h2
     go_wp2_with fail
     go_ret
     exact ⟨by rw [RS.out]; rfl,B1.out.alloc B1.out.size _⟩
    ·have q2:(tx==tt)=false:=by simpa using h2
     have RS:Hid (ofL l fr tt=ofN l fr tt (l.length - (k + 1))):=Lib.hid (by rw [NX.out,if_neg (fun h=>h2 h.2)])
     clear h1 h2
     go_wp2_with fail
     exact ⟨⟨k + 1,by have:=HLT.out; omega,by go_num,RS,BB.out.alloc BS _⟩,by simp [intOf]; have:=HLT.out; omega⟩
   ·have q1:(fx==fr)=false:=by simpa using h1
    have RS:Hid (ofL l fr tt=ofN l fr tt (l.length - (k + 1))):=Lib.hid (by rw [NX.out,if_neg (fun h=>h1 h.1)])
    clear h1
    go_wp2_with fail
    exact ⟨⟨k + 1,by have:=HLT.out; omega,by go_num,RS,BB.out.alloc BS _⟩,by simp [intOf]; have:=HLT.out; omega⟩
  ·have hkn:k=l.length:=by omega
   subst hkn
   have qk:decide (((l.length:Nat):Int)<(l.length:Int))=false:=by simp
   have RS:Hid (ofL l fr tt=0):=Lib.hid (by rw [HO.out,Nat.sub_self]; rfl)
   go_wp2_with fail
   go_ret
   exact ⟨by rw [RS.out]; rfl,B1.out⟩
theorem cmay13_any (c:Int) (w:World) :
  Calls Tryz.prog 42 #[.int .u8 c] w fun e w'=>e=.returned (.bool (decide (1≤c∧c≤8)))∧w'=w:=by
 by_cases h1:1≤c
 ·have q1:decide (1≤c)=true:=by simpa using h1
  by_cases h2:c≤8
  ·have q2:decide (c≤8)=true:=by simpa using h2
   rw [decide_eq_true (show 1≤c∧c≤8 from ⟨h1,h2⟩)]
   go_enter Tryz.func42,Tryz.ntmps42
   go_wp2_with fail
   go_ret
   exact ⟨rfl,rfl⟩
  ·have q2:decide (c≤8)=false:=by simpa using h2
   rw [decide_eq_false (show ¬ (1≤c∧c≤8) from fun h=>h2 h.2)]
   go_enter Tryz.func42,Tryz.ntmps42
   go_wp2_with fail
   go_ret
   exact ⟨rfl,rfl⟩
 ·have q1:decide (1≤c)=false:=by simpa using h1
  rw [decide_eq_false (show ¬ (1≤c∧c≤8) from fun h=>h1 h.1)]
  go_enter Tryz.func42,Tryz.ntmps42
  go_wp2_with fail
  go_ret
  exact ⟨rfl,rfl⟩
theorem popen0n_any {w:World} {g m:Nat} {ps:List Int} {ls:List Ln} (h:LedM w g m ps ls) :
  Calls Tryz.prog 27 #[.pointer (some ⟨g,0,none⟩),.int .u8 0] w fun e w'=>e=.returned (.int .i64 1)∧w=w':=by
 have C1:=Lib.hid (made_any h.blk)
 have C2:=Lib.hid (partyMay_any 0 w)
 rw [show mayP 0=false by rfl] at C2
 clear h
 go_enter Tryz.func27,Tryz.ntmps27
 go_wp2_with fail
 refine C1.out.mono ?_
 rintro e w ⟨rfl,rfl⟩
 go_wp2_with fail
 refine C2.out.mono ?_
 rintro e w ⟨rfl,rfl⟩
 go_wp2_with fail
 go_ret
 exact ⟨rfl,rfl⟩
def NpAt (W:World) (G M:Nat) (ps:List Int) (ls:List Ln) (c:Int) (D:List Fw) (L:Nat→Int) (gv i:Value) (wr:World):Prop :=
 ∃ k:Nat,k≤D.length∧i=.int .i64 k∧gv=.int .i64 (sumN (fun m=>(dbt D m).am - L m) k)∧LedM wr G M ps (netTo ls c D L k)∧Keep (·=M) W wr
set_option maxHeartbeats 32000000 in
set_option maxRecDepth 100000 in
theorem pnet_at {w:World} {G M:Nat} {ps:List Int} {ls:List Ln} (hL:LedM w G M ps ls) (hI:LInv ps ls) (c q:Int) (hc:In8 c) (hq:In64 q) :
  Calls Tryz.prog 13 #[.pointer (some ⟨G,0,none⟩),.int .u8 c,.int .i64 q] w fun e w'=>∃ gone many er ms,NetAns ls c q gone many er ms∧e=.returned (.tuple #[.int .i64 gone,.int .i64 many,.int .i64 er])∧LedM w' G M ps ms∧Keep (·=M) w w':=by
 have C1:=Lib.hid (popen0n_any hL)
 have H:=Lib.hid hL
 have II:=Lib.hid hI
 have hMw:=hL.map.lt
 by_cases hcm:1≤c∧c≤8
 case neg =>
  have CM:=Lib.hid (fun w=>cmay13_any c w)
  rw [decide_eq_false hcm] at CM
  have HN:=Lib.hid hcm
  clear hL hI hcm
  go_enter Tryz.func13,Tryz.ntmps13
  go_wp2_with fail
  refine C1.out.mono ?_
  rintro e w ⟨rfl,rfl⟩
  go_wp2_with fail
  refine (CM.out _).mono ?_
  rintro e w ⟨rfl,rfl⟩
  go_wp2_with fail
  refine bodyPost_ret (v:=.tuple #[.int .i64 0,.int .i64 0,.int .i64 1]) (by simp [results,Tryz.results13,go_sem]) rfl ?_
  exact ⟨0,0,1,ls,.inl ⟨fun e=>HN.out e.1,rfl,rfl,rfl,rfl⟩,rfl,H.out,Keep.refl _ _⟩
 have CM:=Lib.hid (fun w=>cmay13_any c w)
 rw [decide_eq_true hcm] at CM
 have HC:=Lib.hid hcm
 have C2:=Lib.hid (pdebts_at hL hI c hc)
 have DM:=Lib.hid (debtsL_may hI c)
 have DL:=Lib.hid (debts_len64 hI c)
 clear hL hI hcm
 go_enter Tryz.func13,Tryz.ntmps13
 go_wp2_with fail
 refine C1.out.mono ?_
 rintro e w ⟨rfl,rfl⟩
 go_wp2_with fail
 refine (CM.out _).mono ?_
 rintro e w ⟨rfl,rfl⟩
 go_wp2_with fail
 refine C2.out.mono ?_
 rintro e w1 ⟨dv,rfl,hr,hb1⟩
 obtain ⟨D,hD⟩:∃ D,debtsL ls c=D:=⟨_,rfl⟩
 have ED:=Lib.hid hD
 rw [hD] at hr DM DL
 obtain ⟨ao,rfl,_⟩:=rowed_shape hr
 have HDf:DebtsFit D:=fun m hm=>by
  obtain ⟨⟨a1,a2⟩,⟨a3,a4⟩,_,a5,a6⟩:=DM.out.ok m hm
  exact ⟨⟨by omega,by omega⟩,⟨by omega,by omega⟩,by omega,by omega⟩
 have HD1:=Lib.hid (DebtsBy.rowed (g:=M) hr (by have:=DL.out; omega) hMw)
 have B1:=Lib.hid hb1
 have C3:=Lib.hid (pleast_any (cap:=D.length) HD1.out.ins HDf (by have:=DL.out; omega) q)
 have H1:=Lib.hid (H.out.below hb1)
 clear hr hb1 hD C1 C2 CM H HDf
 go_wp2_with fail
 refine C3.out.mono ?_
 rintro e w2 ⟨hb2,hcase⟩
 have B2:=Lib.hid (B1.out.trans (hb2.mono B1.out.size))
 have H2:=Lib.hid (H1.out.below hb2)
 have DX:=Lib.hid (HD1.out.keep (Keep.of_below hb2))
 have hMw1:=Nat.lt_of_lt_of_le hMw B1.out.size
 clear C3 hb2 HD1 H1
 rcases hcase with ⟨hn,rfl⟩ | ⟨_,hq0,L,j,hLs,⟨hj,lv,rfl,hr⟩ | ⟨hj,rfl⟩⟩
 ·have hn0:¬ 0≤q:=fun e=>hn ⟨DM.out,e⟩
  clear hn
  go_wp2_with fail
  refine bodyPost_ret (v:=.tuple #[.int .i64 0,.int .i64 0,.int .i64 1]) (by simp [results,Tryz.results13,go_sem]) rfl ?_
  exact ⟨0,0,1,ls,.inl ⟨fun e=>by have:=e.2; omega,rfl,rfl,rfl,rfl⟩,rfl,H2.out,Keep.of_below B2.out⟩
 ·have HL:=Lib.hid hLs
  have RO:=Lib.hid hLs.inv.ok
  have GB:=Lib.hid (fun k (hk:k≤D.length)=>sumN_bd (g:=fun m=>(dbt D m).am - L m) (B:=1099511627776) k (fun m hm=>by
   have:=RO.out.lo m (by omega)
   have:=RO.out.hi m (by omega)
   have:=(DM.out.ok m (by omega)).2.2.2.2
   omega))
  obtain ⟨T,hT⟩:∃ T,leftL D L=T:=⟨_,rfl⟩
  have ET:=Lib.hid hT
  rw [hT] at hr
  have TL:Hid (T.length≤240):=Lib.hid (by rw [← hT]; exact Nat.le_trans (leftN_len D L D.length) (by have:=DL.out; omega))
  obtain ⟨lo,lc,hlv⟩:∃ lo lc,lv=.slice lo T.length lc:=by obtain ⟨lo,e,_⟩:=rowed_shape hr; exact ⟨lo,_,e⟩
  subst hlv
  have LX:=Lib.hid (DebtsBy.rowed (g:=M) hr (by have:=TL.out; omega) hMw1)
  clear hr hLs
  go_wp2_with fail
  go_loopw [6,37] (fun gv i wr=>NpAt w2 G M ps ls c D L gv i wr) (fun _ i _=>D.length - (intOf i).toNat)
  case atStart=>exact ⟨0,by omega,rfl,rfl,H2.out,Keep.refl _ _⟩
  case round =>
   obtain ⟨k,hk,rfl,rfl,hRL,hKK⟩:=hrel
   have LL:=Lib.hid hRL
   have KK:=Lib.hid hKK
   have DW:=Lib.hid (DX.out.keep hKK)
   have LW:=Lib.hid (LX.out.keep hKK)
   clear hRL hKK
   by_cases hkl:k<D.length
   ·have hki:(k:Int)<(D.length:Int):=by omega
    have hk0:(0:Int)≤(k:Int):=by omega
    have q5:decide ((k:Int)<(D.length:Int))=true:=by simpa using hkl
    obtain ⟨db,doff,rfl,hdb,hdg,hdc⟩:=DW.out (by omega)
    obtain ⟨d0,d1,d2⟩:=hdc k hkl
    have NX:Hid (netTo ls c D L (k + 1)=forgiveL (netTo ls c D L k) (dbt D k).tt (dbt D k).fr c ((dbt D k).am - L k)):=Lib.hid rfl
    have IK:=Lib.hid (netTo_inv II.out c D L k)
    have OF:=Lib.hid (ofL_left DM.out RO.out hkl)
    rw [ET.out] at OF
    have SX:Hid (sumN (fun m=>(dbt D m).am - L m) (k + 1)=sumN (fun m=>(dbt D m).am - L m) k + ((dbt D k).am - L k)):=Lib.hid rfl
    obtain ⟨s0,s9⟩:=GB.out k hk
    have hD64:=DL.out
    have s8:sumN (fun m=>(dbt D m).am - L m) k≤70368744177664:=by omega
    have LO:=RO.out.lo k hkl
    have LH:=RO.out.hi k hkl
    obtain ⟨_,_,_,ab,a9⟩:=DM.out.ok k hkl
    have HKL:=Lib.hid hkl
    generalize netTo ls c D L k=lk2 at *
    generalize sumN (fun m=>(dbt D m).am - L m) k=s at *
    generalize L k=lk at *
    obtain ⟨x,hx⟩:∃ x,dbt D k=x:=⟨_,rfl⟩
    have OK:=DM.out.ok k hkl
    rw [hx] at NX SX OF d0 d1 d2 LH OK
    clear hx hdc s9 hkl
    obtain ⟨fr,tt,am⟩:=x
    obtain ⟨⟨f1,f2⟩,⟨t1,t2⟩,_,ab,a9⟩:=OK
    dsimp only at NX SX OF d0 d1 d2 ab a9 LH f1 f2 t1 t2
    have KX0:=Blk.new wr #[.int .u8 fr,.int .u8 tt,.int .i64 am] 62
    have BV:=Lib.hid ((Below.refl wr.heap.size wr).alloc (Nat.le_refl _) (.cells #[.int .u8 fr,.int .u8 tt,.int .i64 am] 62))
    have CR:=Lib.hid (fun w' (k:Below (wr.alloc (.cells #[.int .u8 fr,.int .u8 tt,.int .i64 am] 62)).heap.size (wr.alloc (.cells #[.int .u8 fr,.int .u8 tt,.int .i64 am] 62)) w')=>(by
     have:=rest_any (cap:=lc) (LW.out.keep (Keep.of_below (BV.out.trans (k.mono BV.out.size)))).ins TL.out fr tt am
     rw [OF.out] at this
     exact this:Calls Tryz.prog 44 #[.slice lo T.length lc,.agg #[.int .u8 fr,.int .u8 tt,.int .i64 am]] w' fun e w''=>e=.returned (.int .i64 lk)∧Below w'.heap.size w' w''))
    have KX:=Lib.hid KX0
    clear KX0
    go_wp2_with fail
    clear d0 d1 d2
    generalize hX:wr.heap.size=X at KX ⊢
    generalize (wr.alloc (.cells #[.int .u8 fr,.int .u8 tt,.int .i64 am] 62))=V at KX BV CR ⊢
    refine region_still (by kernel_rfl) [(.pointer (some ⟨X,2,none⟩)),(.int .i64 am),(.slice lo T.length lc),(.agg #[.int .u8 fr,.int .u8 tt,.int .i64 am]),(.int .i64 lk),(.int .i64 (am - lk)),(.int .i64 (am - lk))]
     (fun w'=>Below V.heap.size V w') (by kernel_rfl) (Below.refl _ _).drew ?_
    intro af haf
    simp only [List.toList_toArray,List.append_eq,List.cons_append,List.nil_append,puts,Act.put,List.getD_cons_zero,List.getD_cons_succ,List.setIfInBounds_toArray,List.set_cons_succ,List.set_cons_zero] at haf
    subst haf
    refine ⟨?_,?_⟩
    ·simp only [List.toList_toArray,List.append_eq,List.cons_append,List.nil_append,EachTo]
     refine ⟨?_,?_,?_,?_,?_,?_,?_,trivial⟩
     ·intro w' hS
      refine OpTo.plain ?_ ?_
      exact rfl
      have HS:=Lib.hid hS
      clear hS
      go_wp2_with fail
      all_goals first | exact HS.out | exact ⟨rfl,HS.out⟩ | rfl | exact ⟨by omega,HS.out⟩
     ·intro w' hS
      refine OpTo.plain ?_ ?_
      exact rfl
      have d0_0:=(KX.out.below hS KX.out.lt).cell 0
      have d0_1:=(KX.out.below hS KX.out.lt).cell 1
      have d0_2:=(KX.out.below hS KX.out.lt).cell 2
      simp at d0_0 d0_1 d0_2
      have HS:=Lib.hid hS
      clear hS
      go_wp2_with fail
      all_goals first | exact HS.out | exact ⟨rfl,HS.out⟩ | rfl | exact ⟨by omega,HS.out⟩
     ·intro w' hS
      refine OpTo.plain ?_ ?_
      exact rfl
      have HS:=Lib.hid hS
      clear hS
      go_wp2_with fail
      all_goals first | exact HS.out | exact ⟨rfl,HS.out⟩ | rfl | exact ⟨by omega,HS.out⟩
     ·intro w' hS
      refine OpTo.plain ?_ ?_
      exact rfl
      have d0_0:=(KX.out.below hS KX.out.lt).cell 0
      have d0_1:=(KX.out.below hS KX.out.lt).cell 1
      have d0_2:=(KX.out.below hS KX.out.lt).cell 2
      simp at d0_0 d0_1 d0_2
      have HS:=Lib.hid hS
      clear hS
      go_wp2_with fail
      all_goals first | exact HS.out | exact ⟨rfl,HS.out⟩ | rfl | exact ⟨by omega,HS.out⟩
     ·intro w' hS
      refine OpTo.plain ?_ ?_
      exact rfl
      have HS:=Lib.hid hS
      clear hS
      go_wp2_with fail
      refine (CR.out w' HS.out).mono ?_
      rintro e w'' ⟨rfl,hb2⟩
      exact ⟨rfl,andB HS.out hb2⟩
     ·intro w' hS
      refine OpTo.plain ?_ ?_
      exact rfl
      have HS:=Lib.hid hS
      clear hS
      go_wp2_with fail
      all_goals first | exact HS.out | exact ⟨rfl,HS.out⟩ | rfl | exact ⟨by omega,HS.out⟩
     ·intro w' hS
      refine OpTo.plain ?_ ?_
      exact rfl
      have HS:=Lib.hid hS
      clear hS
      go_wp2_with fail
      all_goals first | exact HS.out | exact ⟨rfl,HS.out⟩ | rfl | exact ⟨by omega,HS.out⟩
    intro V2 hS2
    have KX2:=KX.out.below hS2 KX.out.lt
    have x0:=KX2.cell 0
    have x1:=KX2.cell 1
    simp at x0 x1
    have hxl:=KX2.lt
    have BV2:=Lib.hid (BV.out.trans (hS2.mono BV.out.size))
    have L2:=Lib.hid (LL.out.below BV2.out)
    have K2:=Lib.hid (KK.out.trans (Keep.of_below BV2.out))
    clear hS2 KX2
    by_cases hp:0<am - lk
    ·have q6:decide (0<am - lk)=true:=by simpa using hp
     have q7:decide (lk<am)=true:=by simp; omega
     have q8:lk<am:=by omega
     have CF:=Lib.hid (forgive_any L2.out IK.out.inv (a:=tt) (b:=fr) (c:=c) (n:=am - lk) ⟨by omega,by omega⟩ ⟨by omega,by omega⟩ hc ⟨by omega,by omega⟩)
     rw [← NX.out] at CF
     have hp2:am - lk≤1099511627776:=by omega
     have hp1:1≤am - lk:=by omega
     clear hp
     go_wp2_with fail
     refine CF.out.mono ?_
     rintro e V3 ⟨rfl,hl3,hk3⟩
     have L3:=Lib.hid hl3
     have K3:=Lib.hid (K2.out.trans hk3)
     clear hl3 hk3
     go_wp2_with fail
     exact ⟨⟨k + 1,by have:=HKL.out; omega,by go_num,by rw [SX.out],L3.out,K3.out⟩,by simp [intOf]; have:=HKL.out; omega⟩
    ·have q6:decide (0<am - lk)=false:=by simpa using hp
     have q7:decide (lk<am)=false:=by simp; omega
     have q8:¬ lk<am:=by omega
     rw [forgive_none (by omega)] at NX
     have hz:am - lk=0:=by omega
     rw [hz,Int.add_zero] at SX
     clear hp hz
     go_wp2_with fail
     exact ⟨⟨k + 1,by have:=HKL.out; omega,by go_num,by rw [SX.out],by rw [NX.out]; exact L2.out,K2.out⟩,by simp [intOf]; have:=HKL.out; omega⟩
   ·have hke:k=D.length:=by omega
    subst hke
    have q5:decide (((D.length:Nat):Int)<(D.length:Int))=false:=by simp
    have TT:=(net_is II.out c (L:=L) (by rw [ED.out]; exact RO.out)).tot c
    rw [if_pos rfl,ED.out] at TT
    have GO:Hid (sumN (fun m=>(dbt D m).am - L m) D.length=totL ls c - totL (netL ls c L) c):=Lib.hid (by omega)
    have EN:Hid (netL ls c L=netTo ls c D L D.length):=Lib.hid (by unfold netL; rw [ED.out])
    rw [GO.out]
    clear TT
    go_wp2_with fail
    refine bodyPost_ret (v:=.tuple #[.int .i64 (totL ls c - totL (netL ls c L) c),.int .i64 j,.int .i64 0]) (by simp [results,Tryz.results13,go_sem]) rfl ?_
    exact ⟨_,_,_,netL ls c L,.inr ⟨HC.out,hq0,L,j,by rw [ED.out]; exact HL.out,.inl ⟨hj,rfl,rfl,rfl,rfl⟩⟩,rfl,by rw [EN.out]; exact LL.out,(Keep.of_below B2.out).trans KK.out⟩
 ·have HL:=Lib.hid hLs
  clear hLs
  go_wp2_with fail
  refine bodyPost_ret (v:=.tuple #[.int .i64 0,.int .i64 0,.int .i64 13]) (by simp [results,Tryz.results13,go_sem]) rfl ?_
  exact ⟨0,0,13,ls,.inr ⟨HC.out,hq0,L,j,by rw [ED.out]; exact HL.out,.inr ⟨hj,rfl,rfl,rfl,rfl⟩⟩,rfl,H2.out,Keep.of_below B2.out⟩
theorem pnet_any:NetProg:=⟨pnet_at⟩
end Go.Proofs.YtlbjjkbppbmihaaGreat
