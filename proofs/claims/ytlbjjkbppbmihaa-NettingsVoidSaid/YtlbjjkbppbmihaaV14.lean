/-
  Pieces of one proof, without what is not wanted: NSort, NettingsVoid.
-/
import Derived.Test.YtlbjjkbppbmihaaV13
import Derived.Shelf.SlSortCmp.NoneTotal
set_option linter.unusedSimpArgs false
set_option linter.unusedVariables false
namespace Go.Proofs.Ytlbjjkbppbmihaa
open Go.RowKit Go.Shelf Go.Sort Go.Lib
instance:Inhabited Fw:=⟨⟨0,0,0⟩⟩
theorem ordF_lt (x y:Fw):ordF x y<0↔(x.fr<y.fr∨(x.fr=y.fr∧x.tt<y.tt)):=by
 unfold ordF orD cmpD
 (repeat' split) <;> omega
theorem swoF:SWO (ltOf ordF) where
 irrefl x:=by unfold ltOf; rw [decide_eq_false_iff_not,ordF_lt]; omega
 trans x y z h1 h2:=by
  unfold ltOf at *
  rw [decide_eq_true_eq,ordF_lt] at *
  omega
 ntrans x y z h1 h2:=by
  unfold ltOf at *
  rw [decide_eq_false_iff_not,ordF_lt] at *
  omega
theorem flat_fws (ls:List Fw) {j:Nat} (h:j<ls.length * 3):(flatK Fw.vals 3 ls.toArray)[j]! = (fwCells ls)[j]'(by rw [fwCells_len]; exact h):=by
 rw [get_flatK _ _ _ j (by simpa using h)]
 have h1:j / 3<ls.length:=by omega
 have h2:j % 3<3:=Nat.mod_lt _ (by omega)
 have h3:=fwCells_get ls (j / 3) (j % 3) h2 h1
 rw [show j / 3 * 3 + j % 3=j by omega] at h3
 rw [List.getElem?_eq_getElem (by rw [fwCells_len]; exact h)] at h3
 have h4:(ls.toArray)[j / 3]! = ls[j / 3]:=by simp [h1]
 rw [h4,List.getElem!_eq_getElem?_getD,← h3]
 rfl
theorem holds_fws {w:World} {g:Nat} {cur:Array Value} {e:TypeId} {ls:List Fw} (hb:w.heap[g]? = some (.cells cur e (0,0))) (ht:cur.toList.take (ls.length * 3)=fwCells ls):HoldsK Fw.vals 3 w g 0 ls.toArray:=by
 intro j hj
 have hj':j<ls.length * 3:=by simpa using hj
 refine ⟨?_,by simp [World.frozen?,hb]⟩
 rw [flat_fws ls hj']
 have h1:(cur.toList.take (ls.length * 3))[j]? = (fwCells ls)[j]? := by rw [ht]
 rw [List.getElem?_take_of_lt hj'] at h1
 simp only [World.cell?,hb,Nat.zero_add]
 simp only [Option.isSome_none,Bool.false_eq_true,if_false]
 rw [← Array.getElem?_toList,h1,List.getElem?_eq_getElem (by rw [fwCells_len]; exact hj')]
 rfl
theorem heap_fws {w:World} {g n:Nat} {os:Array Obj} {cur:Array Value} {e:TypeId} (d:Array Fw) (hb:w.heap[g]? = some (.cells cur e (0,0))) :
  (sortWorldK Fw.vals 3 w g 0 n d os).heap[g]? = some (.cells (putCells id 0 (flatK Fw.vals 3 d) cur) e (0,0)):=by
 have hg:g<w.heap.size:=(Array.getElem?_eq_some_iff.1 hb).1
 unfold sortWorldK putRowK
 rw [heap_grow_old _ _ (by simpa using hg)]
 simp [putRow,mapBlock,Go.Sort.ahead,Array.getElem?_modify,hb,onCells]
theorem keep_fws {w:World} {g n:Nat} {os:Array Obj} (d:Array Fw):Keep (·=g) w (sortWorldK Fw.vals 3 w g 0 n d os):=by
 refine ⟨rfl,rfl,rfl,by simp [sortWorldK,putRowK],fun k hk hne=>?_⟩
 unfold sortWorldK putRowK
 rw [heap_grow_old _ _ (by simpa using hk)]
 have:g≠k:=fun e=>hne e.symm
 simp [putRow,mapBlock,Go.Sort.ahead,Array.getElem?_modify,this]
theorem take_fws (cur:Array Value) (ls:List Fw) (h:ls.length * 3≤cur.size):(putCells id 0 (flatK Fw.vals 3 ls.toArray) cur).toList.take (ls.length * 3)=fwCells ls:=by
 apply List.ext_getElem?
 intro j
 by_cases hj:j<ls.length * 3
 ·have hf:=flat_fws ls hj
  rw [List.getElem?_take_of_lt hj,Array.getElem?_toList,List.getElem?_eq_getElem (by rw [fwCells_len]; exact hj),← hf]
  simp [putCells,hj,show j<cur.size by omega]
 ·rw [List.getElem?_take_eq_none (by omega),List.getElem?_eq_none (by rw [fwCells_len]; omega)]
theorem sorted_fws {f m:List Fw} (hp:f.Perm m) (hm:m.Pairwise fun x y=>keyD x<keyD y) (hb:∀ x ∈ m,0≤x.tt∧x.tt≤255) (d:Array Fw) (h1:PermIn 0 f.toArray.size f.toArray d) (h2:SortedIn (ltOf ordF) 0 f.toArray.size d):d.toList=m:=by
 obtain ⟨hs,_,hperm⟩:=h1
 have hpd:d.toList.Perm f:=by
  have e1:d.extract 0 f.toArray.size=d:=by rw [← hs,Array.extract_size]
  rw [e1,Array.extract_size] at hperm
  simpa using hperm
 have hpl:=hpd.trans hp
 have hne:d.toList.Pairwise fun x y=>keyD x≠keyD y:=(hpl.symm.pairwise_iff (fun {a b} (h:keyD a≠keyD b)=>h.symm)).1 (hm.imp fun h=>by omega)
 refine List.Perm.eq_of_pairwise (fun a b _ _ h1 h2=>absurd h1 (by omega)) (le:=fun x y=>keyD x<keyD y) ?_ hm hpl
 rw [List.pairwise_iff_getElem] at hne ⊢
 intro i j hi hj hij
 have hn:=hne i j hi hj hij
 have hi':i<d.size:=by simpa using hi
 have hj':j<d.size:=by simpa using hj
 have hso:=h2 i j (Nat.zero_le _) hij (by rw [← hs]; exact hj')
 rw [getElem!_pos d i hi',getElem!_pos d j hj'] at hso
 have b1:=hb d[i] (hpl.mem_iff.1 (by simp))
 have b2:=hb d[j] (hpl.mem_iff.1 (by simp))
 unfold ltOf at hso
 rw [decide_eq_false_iff_not,ordF_lt] at hso
 simp only [Array.getElem_toList] at hn ⊢
 unfold keyD at hn ⊢
 omega
end Go.Proofs.Ytlbjjkbppbmihaa
namespace Go.Proofs.Ytlbjjkbppbmihaa
open Go.RowKit Go.Shelf Go.Lib
open Go.Sort (grow flatK putCells HoldsK PermIn SortedIn SWO)
def sortF_ren:Go.Shelf.Ren:=⟨fun | 6=>41 | 15=>54 | 14=>56 | 28=>71 | 29=>72 | 20=>74 | 21=>75 | 22=>76 | 23=>77 | 24=>78 | 25=>79 | 26=>80 | 27=>81 | 46=>92 | 47=>88 | 48=>89 | 49=>93 | 50=>94 | 57=>96 | n=>n,fun | 22=>34 | 24=>54 | 25=>88 | 3=>3 | 39=>107 | 0=>0 | 53=>129 | 55=>131 | 4=>4 | 46=>122 | 45=>121 | 50=>126 | 5=>5 | 9=>9 | 66=>142 | 70=>146 | 76=>150 | 77=>151 | n=>n,fun | n=>n⟩
theorem sortF:Go.Proofs.SlLaysF0.n6 Try.prog sortF_ren:={
 mixed:=by kernel_rfl
 f6:=⟨Try.f41.name,by decide,Try.func41.trans (congrArg some (by kernel_rfl))⟩
 f14:=⟨Try.f56.name,by decide,Try.func56.trans (congrArg some (by kernel_rfl))⟩
 f15:=Try.func54.trans (congrArg some (by kernel_rfl))
 f20:=⟨Try.f74.name,by decide,Try.func74.trans (congrArg some (by kernel_rfl))⟩
 f21:=⟨Try.f75.name,by decide,Try.func75.trans (congrArg some (by kernel_rfl))⟩
 f22:=⟨Try.f76.name,by decide,Try.func76.trans (congrArg some (by kernel_rfl))⟩
 f23:=⟨Try.f77.name,by decide,Try.func77.trans (congrArg some (by kernel_rfl))⟩
 f24:=⟨Try.f78.name,by decide,Try.func78.trans (congrArg some (by kernel_rfl))⟩
 f25:=⟨Try.f79.name,by decide,Try.func79.trans (congrArg some (by kernel_rfl))⟩
 f26:=⟨Try.f80.name,by decide,Try.func80.trans (congrArg some (by kernel_rfl))⟩
 f27:=⟨Try.f81.name,by decide,Try.func81.trans (congrArg some (by kernel_rfl))⟩
 f28:=Try.func71.trans (congrArg some (by kernel_rfl))
 f29:=Try.func72.trans (congrArg some (by kernel_rfl))
 f46:=⟨Try.f92.name,by decide,Try.func92.trans (congrArg some (by kernel_rfl))⟩
 f47:=Try.func88.trans (congrArg some (by kernel_rfl))
 f48:=Try.func89.trans (congrArg some (by kernel_rfl))
 f49:=⟨Try.f93.name,by decide,Try.func93.trans (congrArg some (by kernel_rfl))⟩
 f50:=⟨Try.f94.name,by decide,Try.func94.trans (congrArg some (by kernel_rfl))⟩
 f57:=⟨Try.f96.name,by decide,Try.func96.trans (congrArg some (by kernel_rfl))⟩
 t0:=Try.underlying0
 a0:=Try.isAgg0
 z0:=Try.sizeOf0
 v0:=Try.zeroValue0
 t3:=Try.underlying3
 a3:=Try.isAgg3
 z3:=Try.sizeOf3
 v3:=Try.zeroValue3
 t4:=Try.underlying4
 a4:=Try.isAgg4
 z4:=Try.sizeOf4
 v4:=Try.zeroValue4
 t5:=Try.underlying5
 a5:=Try.isAgg5
 z5:=Try.sizeOf5
 v5:=Try.zeroValue5
 t9:=Try.underlying9
 a9:=Try.isAgg9
 z9:=Try.sizeOf9
 v9:=Try.zeroValue9
 t22:=Try.underlying34
 a22:=Try.isAgg34
 z22:=Try.sizeOf34
 v22:=Try.zeroValue34
 t25:=Try.underlying88
 a25:=Try.isAgg88
 z25:=Try.sizeOf88
 v25:=Try.zeroValue88
 t39:=Try.underlying107
 a39:=Try.isAgg107
 z39:=Try.sizeOf107
 v39:=Try.zeroValue107
 t45:=Try.underlying121
 a45:=Try.isAgg121
 z45:=Try.sizeOf121
 v45:=Try.zeroValue121
 t46:=Try.underlying122
 a46:=Try.isAgg122
 z46:=Try.sizeOf122
 v46:=Try.zeroValue122
 t50:=Try.underlying126
 a50:=Try.isAgg126
 z50:=Try.sizeOf126
 v50:=Try.zeroValue126
 t53:=Try.underlying129
 a53:=Try.isAgg129
 z53:=Try.sizeOf129
 v53:=Try.zeroValue129
 t55:=Try.underlying131
 a55:=Try.isAgg131
 z55:=Try.sizeOf131
 v55:=Try.zeroValue131
 t66:=Try.underlying142
 a66:=Try.isAgg142
 z66:=Try.sizeOf142
 v66:=Try.zeroValue142
 t70:=Try.underlying146
 a70:=Try.isAgg146
 z70:=Try.sizeOf146
 v70:=Try.zeroValue146
 t76:=Try.underlying150
 a76:=Try.isAgg150
 z76:=Try.sizeOf150
 v76:=Try.zeroValue150
 t77:=Try.underlying151
 a77:=Try.isAgg151
 z77:=Try.sizeOf151
 v77:=Try.zeroValue151 }
theorem sortF_any {w:World} {base h:Nat} {v:Value} {f m:List Fw} (hp:f.Perm m) (hm:m.Pairwise fun x y=>keyD x<keyD y) (hb:∀ x ∈ m,0≤x.tt∧x.tt≤255) (hl:f.length≤1000) (ho:w.ownsRow base 54 3 v f.length (fwCells f))
  (hh:Blk w h #[.func (.func 21) #[] #[]] 59) :
  Calls Try.prog 41 #[v,.func (.func 42) #[] #[.pointer (some ⟨h,0,none⟩)]] w fun e w'=>e=.returned (.tuple #[])∧w'.ownsRow base 54 3 v m.length (fwCells m)∧Keep (fun b=>v.ownBlock=some b) w w':=by
 have hlen:=hp.length_eq
 rcases ho.2 with ⟨rfl,h0⟩ | ⟨g,cap,cur,rfl,hbase,hbl,h1,h2,h3,h4⟩
 ·rw [h0] at hlen
  have:m=[]:=List.eq_nil_of_length_eq_zero hlen.symm
  subst this
  refine (AnyF.slices_SortFunc_none { sortF with } none 0 (.func (.func 42) #[] #[.pointer (some ⟨h,0,none⟩)]) w).mono ?_
  rintro e w' ⟨rfl,rfl⟩
  exact ⟨rfl,World.ownsRow_nil _ _ _ _,Keep.refl _ _⟩
 ·have hg:g<w.heap.size:=(Array.getElem?_eq_some_iff.1 hbl).1
  have hne:¬ h=g:=fun e=>by
   subst e
   have e1:w.heap[h]? = some (.cells #[.func (.func 21) #[] #[]] 59 (0,0)):=hh
   rw [hbl] at e1
   simp at e1
  have eg:∀ args w,(callFunc 42 args).run Try.prog w=.ok (.enter 42 args) w:=enters_of Try.func42 (by kernel_rfl) rfl
  have hcmp:CmpLays Try.prog 42 #[.pointer (some ⟨h,0,none⟩)] Fw.vals 3 ordF g 0 f.toArray.size w:=fun m os dk _ x y=>(byends_any x y (hh.keep (keep_fws dk) hne)).mono fun e w' ⟨he,hb⟩=>⟨he,hb.grown⟩
  have hc:=AnyQ.slices_SortFunc (P:=Try.prog) sortF 3 Try.isAgg54 Try.sizeOf54 Fw.vals (fun _=>rfl) (fun x u hu=>by simp [Fw.vals] at hu; rcases hu with rfl | rfl | rfl <;> rfl) ordF swoF 42 #[.pointer (some ⟨h,0,none⟩)] g 0 cap f.toArray w eg hcmp (holds_fws hbl h4) hg (by simp; omega)
  have hsz:f.toArray.size=f.length:=by simp
  rw [hsz] at hc
  refine Calls.mono hc ?_
  rintro e w' ⟨rfl,d,n,os,hp1,hs1,rfl⟩
  have hd:=sorted_fws hp hm hb d (by rw [hsz]; exact hp1) (by rw [hsz]; exact hs1)
  have hda:d=m.toArray:=by rw [← hd]
  subst hda
  refine ⟨rfl,⟨fwCells_len m,.inr ⟨g,cap,_,by rw [hlen],hbase,heap_fws _ hbl,by omega,h2,by simp [putCells,h3],take_fws cur m (by omega)⟩⟩,(keep_fws _).mono fun k _ hk=>by rw [hk]; rfl⟩
set_option maxHeartbeats 4000000 in
theorem sortE_any {w:World} {base:Nat} {v:Value} {f m:List Fw} (hp:f.Perm m) (hm:m.Pairwise fun x y=>keyD x<keyD y) (hb:∀ x ∈ m,0≤x.tt∧x.tt≤255) (hl:f.length≤1000) (ho:w.ownsRow base 54 3 v f.length (fwCells f)) :
  Calls Try.prog 20 #[v,.func (.func 21) #[] #[]] w fun e w'=>e=.returned (.tuple #[])∧w'.ownsRow base 54 3 v m.length (fwCells m)∧Keep (fun b=>v.ownBlock=some b) w w':=by
 have B:=Lib.hid ((Keep.refl (fun b=>v.ownBlock=some b) w).alloc (.cells #[.func (.func 21) #[] #[]] 59))
 have CS:=Lib.hid (sortF_any hp hm hb hl (ho.alloc (.cells #[.func (.func 21) #[] #[]] 59)) (Blk.new w #[.func (.func 21) #[] #[]] 59))
 clear hp hm hb hl ho
 go_enter Try.func20,Try.ntmps20
 go_wp2_with fail
 refine CS.out.mono ?_
 rintro e w1 ⟨rfl,h1,h2⟩
 have H1:=Lib.hid h1
 have H2:=Lib.hid (B.out.trans h2)
 clear h1 h2
 go_wp2_with fail
 go_end0
 exact ⟨rfl,H1.out,H2.out⟩
end Go.Proofs.Ytlbjjkbppbmihaa
namespace Go.Proofs.Ytlbjjkbppbmihaa
open Go.RowKit
def VDAt (W:World) (v i:Value) (wr:World):Prop:=i=.int .i64 0∧v=.slice none 0 0∧Below W.heap.size W wr
set_option maxHeartbeats 4000000 in
theorem pdebts_void {w:World} {lp:Option Addr} (h:Void w (.pointer lp)) (c:Int) :
  Calls Try.prog 6 #[.pointer lp,.int .u8 c] w fun e w'=>e=.returned (.slice none 0 0)∧Below w.heap.size w w':=by
 have C1:=Lib.hid (void_lines h)
 clear h
 go_enter Try.func6,Try.ntmps6
 go_wp2_with fail
 refine C1.out.mono ?_
 rintro e w1 ⟨rfl,b1⟩
 have B1:=Lib.hid b1
 clear b1
 go_wp2_with fail
 go_loopw [5,11] (fun v i wr=>VDAt w1 v i wr) (fun _ i _=>0 - (intOf i).toNat)
 case atStart=>exact ⟨rfl,rfl,Below.refl _ _⟩
 case round =>
  obtain ⟨rfl,rfl,hB⟩:=hrel
  have BB:=Lib.hid (B1.out.trans (hB.mono B1.out.size))
  have CS:=Lib.hid (fun w=>sortE_any (w:=w) (base:=0) (v:=.slice none 0 0) (f:=[]) (m:=[]) (List.Perm.refl _) List.Pairwise.nil (by simp) (by simp) (World.ownsRow_nil _ _ _ _))
  have CC:=Lib.hid (fun w=>clipF_any (w:=w) (base:=0) (v:=.slice none 0 0) (n:=0) (xs:=[]) (World.ownsRow_nil _ _ _ _))
  clear hB
  go_wp2_with fail
  refine (CS.out _).mono ?_
  rintro e w2 ⟨rfl,_,k2⟩
  have B2:=Lib.hid (BB.out.trans (k2.below BB.out.size (fun k hk e=>by cases e)))
  clear k2
  go_wp2_with fail
  refine (CC.out _).mono ?_
  rintro e w3 ⟨v',rfl,hr,hv,rfl⟩
  have hvn:v'=.slice none 0 0:=by
   obtain ⟨_,⟨rfl,_⟩ | ⟨g,cur,rfl,_⟩⟩:=hr
   ·rfl
   ·cases hv
  subst hvn
  clear hr hv
  go_wp2_with fail
  go_ret
  exact ⟨rfl,B2.out⟩
set_option maxHeartbeats 4000000 in
theorem pnet_void {w:World} {lp:Option Addr} (h:Void w (.pointer lp)) (c q:Int) :
  Calls Try.prog 5 #[.pointer lp,.int .u8 c,.int .i64 q] w fun e w'=>e=.returned (.tuple #[.int .i64 0,.int .i64 0,.int .i64 2])∧Below w.heap.size w w':=by
 have C1:=Lib.hid (void_open h 0)
 clear h
 go_enter Try.func5,Try.ntmps5
 go_wp2_with fail
 refine C1.out.mono ?_
 rintro e w ⟨rfl,rfl⟩
 go_wp2_with fail
 refine bodyPost_ret (v:=.tuple #[.int .i64 0,.int .i64 0,.int .i64 2]) (by simp [results,Try.results5,go_sem]) rfl ?_
 exact ⟨rfl,Below.refl _ _⟩
def VoidAt13 (W:World) (i:Value) (wr:World):Prop:=∃ k:Nat,k≤2∧i=.int .i64 k∧Below W.heap.size W wr
theorem ledC_void13:ledC [] (.map none)=#[.bool false,.bool false,.bool false,.bool false,.bool false,.bool false,.bool false,.bool false,.bool false,.bool false,.bool false,.bool false,.bool false,.bool false,.bool false,.bool false,.bool false,.map none]:=by
 unfold ledC
 rfl
set_option maxHeartbeats 16000000 in
set_option maxRecDepth 100000 in
theorem nvoid_walk (HL:Lives13) (cu q:Int) (w:World) (hc:In8 cu) (hq:In64 q) :
  Calls Try.prog 3 #[.agg #[.int .u8 cu,.int .i64 q]] w fun e w'=>e=.returned (.bool true)∧Below w.heap.size w w':=by
 have b0:=((Below.refl w.heap.size w).alloc (Nat.le_refl _) (.cells #[.int .u8 cu,.int .i64 q] 24))
 have b1:=b0.alloc b0.size (.cells (ledC [] (.map none)) 28)
 have b2:=b1.alloc b1.size (.cells #[.pointer none,.pointer (some ⟨w.heap.size + 1,0,none⟩)] 29)
 have kx:=((Blk.new w #[.int .u8 cu,.int .i64 q] 24).alloc (.cells (ledC [] (.map none)) 28)).alloc (.cells #[.pointer none,.pointer (some ⟨w.heap.size + 1,0,none⟩)] 29)
 have kg:=(Blk.newAt (w.alloc (.cells #[.int .u8 cu,.int .i64 q] 24)) (ledC [] (.map none)) 28 (g:=w.heap.size + 1) (by simp)).alloc (.cells #[.pointer none,.pointer (some ⟨w.heap.size + 1,0,none⟩)] 29)
 have kl:=Blk.newAt ((w.alloc (.cells #[.int .u8 cu,.int .i64 q] 24)).alloc (.cells (ledC [] (.map none)) 28)) #[.pointer none,.pointer (some ⟨w.heap.size + 1,0,none⟩)] 29 (g:=w.heap.size + 1 + 1) (by simp)
 generalize hW:((w.alloc (.cells #[.int .u8 cu,.int .i64 q] 24)).alloc (.cells (ledC [] (.map none)) 28)).alloc (.cells #[.pointer none,.pointer (some ⟨w.heap.size + 1,0,none⟩)] 29)=W at *
 rw [ledC_void13] at hW
 have B2:=Lib.hid b2
 have KX:=Lib.hid kx
 have KG:=Lib.hid kg
 have KL:=Lib.hid kl
 have hW':=Lib.hid hW
 have HLo:=Lib.hid HL
 clear b0 b1 b2 kx kg kl hW HL
 go_enter Try.func3,Try.ntmps3
 go_wp2_with fail
 rw [hW'.out]
 clear hW'
 obtain ⟨L,hL⟩:∃ L,w.heap.size + 1=L:=⟨_,rfl⟩
 obtain ⟨S,hS⟩:∃ S,w.heap.size + 1 + 1=S:=⟨_,rfl⟩
 rw [hL] at KG KL ⊢
 rw [← hL,hS,hL] at KL
 rw [← hL,hS]
 rw [hL]
 go_loopw [5] (VoidAt13 W) (fun i _=>2 - (intOf i).toNat)
 case atStart=>exact ⟨0,by omega,rfl,Below.refl _ _⟩
 case round =>
  obtain ⟨k,hk,rfl,hbr⟩:=hrel
  by_cases hk2:k<2
  ·obtain ⟨p,VV,HD⟩:∃ p:Option Addr,Hid (Void wr (.pointer p))∧Hid (∀ w',Below wr.heap.size wr w'→S<w'.heap.size∧w'.cell? ⟨S,k,none⟩=some (.pointer p)):=by
    have hSl:=KL.out.lt
    have kl:=KL.out.below hbr hSl
    have kg:=KG.out.below hbr KG.out.lt
    rcases (by omega:k=0∨k=1) with rfl | rfl
    ·exact ⟨_,Lib.hid (void_nil wr),Lib.hid fun w' h=>⟨(kl.below h kl.lt).lt,(by simpa using (kl.below h kl.lt).cell 0)⟩⟩
    ·exact ⟨_,Lib.hid (void_zero kg),Lib.hid fun w' h=>⟨(kl.below h kl.lt).lt,(by simpa using (kl.below h kl.lt).cell 1)⟩⟩
   have KXr:=Lib.hid (KX.out.below hbr KX.out.lt)
   have BR:=Lib.hid hbr
   have hki:(k:Int)<2:=by omega
   have hk0:(0:Int)≤(k:Int):=by omega
   have hk3:(k:Int) + 1≤9:=by omega
   have HK:=Lib.hid hk2
   have CP:=Lib.hid (fun w' (h:Below wr.heap.size wr w')=>pnet_void (VV.out.below h) cu q)
   clear hbr
   go_wp2_with fail
   refine region_still (by kernel_rfl) [(.slice (some ⟨S,0,none⟩) 2 2),(.int .i64 k),(.pointer (some ⟨S,k,none⟩)),(.pointer p),(.pointer (some ⟨w.heap.size,0,none⟩)),(.int .u8 cu),(.pointer (some ⟨w.heap.size,1,none⟩)),(.int .i64 q),(.tuple #[.int .i64 0,.int .i64 0,.int .i64 2]),(.tuple #[.int .i64 0,.int .i64 0,.int .i64 2]),(.int .i64 0),(.int .i64 0),(.int .i64 2),(.int .i64 0),(.int .i64 0),(.int .i64 2)]
    (fun w'=>Below wr.heap.size wr w') (by kernel_rfl) (Below.refl _ _).drew ?_
   intro af haf
   simp only [List.toList_toArray,List.append_eq,List.cons_append,List.nil_append,puts,Act.put,List.getD_cons_zero,List.getD_cons_succ,List.setIfInBounds_toArray,List.set_cons_succ,List.set_cons_zero] at haf
   subst haf
   refine ⟨?_,?_⟩
   ·simp only [List.toList_toArray,List.append_eq,List.cons_append,List.nil_append,EachTo]
    refine ⟨?_,?_,?_,?_,?_,?_,?_,?_,?_,?_,?_,?_,?_,?_,?_,?_,trivial⟩
    ·intro w' hS
     refine OpTo.plain ?_ ?_
     exact rfl
     have HS:=Lib.hid hS
     clear hS
     go_wp2_with fail
     all_goals first | exact HS.out | exact ⟨rfl,HS.out⟩ | rfl | exact ⟨by omega,HS.out⟩
    ·intro w' hS
     refine OpTo.plain ?_ ?_
     exact rfl
     have HS:=Lib.hid hS
     clear hS
     go_wp2_with fail
     all_goals first | exact HS.out | exact ⟨rfl,HS.out⟩ | rfl | exact ⟨by omega,HS.out⟩
    ·intro w' hS
     refine OpTo.plain ?_ ?_
     exact rfl
     obtain ⟨hsl,hsc⟩:=HD.out w' hS
     have HS:=Lib.hid hS
     clear hS
     go_wp2_with fail
     all_goals first | exact HS.out | exact ⟨rfl,HS.out⟩ | rfl | exact ⟨by omega,HS.out⟩
    ·intro w' hS
     refine OpTo.plain ?_ ?_
     exact rfl
     obtain ⟨hsl,hsc⟩:=HD.out w' hS
     have HS:=Lib.hid hS
     clear hS
     go_wp2_with fail
     all_goals first | exact HS.out | exact ⟨rfl,HS.out⟩ | rfl | exact ⟨by omega,HS.out⟩
    ·intro w' hS
     refine OpTo.plain ?_ ?_
     exact rfl
     have kx:=KXr.out.below hS KXr.out.lt
     have hl:=kx.lt
     have e0:=kx.cell 0; have e1:=kx.cell 1
     simp at e0 e1
     clear kx
     have HS:=Lib.hid hS
     clear hS
     go_wp2_with fail
     all_goals first | exact HS.out | exact ⟨rfl,HS.out⟩ | rfl | exact ⟨by omega,HS.out⟩
    ·intro w' hS
     refine OpTo.plain ?_ ?_
     exact rfl
     have kx:=KXr.out.below hS KXr.out.lt
     have hl:=kx.lt
     have e0:=kx.cell 0; have e1:=kx.cell 1
     simp at e0 e1
     clear kx
     have HS:=Lib.hid hS
     clear hS
     go_wp2_with fail
     all_goals first | exact HS.out | exact ⟨rfl,HS.out⟩ | rfl | exact ⟨by omega,HS.out⟩
    ·intro w' hS
     refine OpTo.plain ?_ ?_
     exact rfl
     have kx:=KXr.out.below hS KXr.out.lt
     have hl:=kx.lt
     have e0:=kx.cell 0; have e1:=kx.cell 1
     simp at e0 e1
     clear kx
     have HS:=Lib.hid hS
     clear hS
     go_wp2_with fail
     all_goals first | exact HS.out | exact ⟨rfl,HS.out⟩ | rfl | exact ⟨by omega,HS.out⟩
    ·intro w' hS
     refine OpTo.plain ?_ ?_
     exact rfl
     have kx:=KXr.out.below hS KXr.out.lt
     have hl:=kx.lt
     have e0:=kx.cell 0; have e1:=kx.cell 1
     simp at e0 e1
     clear kx
     have HS:=Lib.hid hS
     clear hS
     go_wp2_with fail
     all_goals first | exact HS.out | exact ⟨rfl,HS.out⟩ | rfl | exact ⟨by omega,HS.out⟩
    ·intro w' hS
     refine OpTo.plain ?_ ?_
     exact rfl
     have HS:=Lib.hid hS
     clear hS
     go_wp2_with fail
     refine (CP.out w' HS.out).mono ?_
     rintro e w'' ⟨rfl,hb2⟩
     exact ⟨rfl,andB HS.out hb2⟩
    ·intro w' hS
     refine OpTo.plain ?_ ?_
     exact rfl
     have HS:=Lib.hid hS
     clear hS
     go_wp2_with fail
     all_goals first | exact HS.out | exact ⟨rfl,HS.out⟩ | rfl | exact ⟨by omega,HS.out⟩
    ·intro w' hS
     refine OpTo.plain ?_ ?_
     exact rfl
     have HS:=Lib.hid hS
     clear hS
     go_wp2_with fail
     all_goals first | exact HS.out | exact ⟨rfl,HS.out⟩ | rfl | exact ⟨by omega,HS.out⟩
    ·intro w' hS
     refine OpTo.plain ?_ ?_
     exact rfl
     have HS:=Lib.hid hS
     clear hS
     go_wp2_with fail
     all_goals first | exact HS.out | exact ⟨rfl,HS.out⟩ | rfl | exact ⟨by omega,HS.out⟩
    ·intro w' hS
     refine OpTo.plain ?_ ?_
     exact rfl
     have HS:=Lib.hid hS
     clear hS
     go_wp2_with fail
     all_goals first | exact HS.out | exact ⟨rfl,HS.out⟩ | rfl | exact ⟨by omega,HS.out⟩
    ·intro w' hS
     refine OpTo.plain ?_ ?_
     exact rfl
     have HS:=Lib.hid hS
     clear hS
     go_wp2_with fail
     all_goals first | exact HS.out | exact ⟨rfl,HS.out⟩ | rfl | exact ⟨by omega,HS.out⟩
    ·intro w' hS
     refine OpTo.plain ?_ ?_
     exact rfl
     have HS:=Lib.hid hS
     clear hS
     go_wp2_with fail
     all_goals first | exact HS.out | exact ⟨rfl,HS.out⟩ | rfl | exact ⟨by omega,HS.out⟩
    ·intro w' hS
     refine OpTo.plain ?_ ?_
     exact rfl
     have HS:=Lib.hid hS
     clear hS
     go_wp2_with fail
     all_goals first | exact HS.out | exact ⟨rfl,HS.out⟩ | rfl | exact ⟨by omega,HS.out⟩
   intro W6 hS6
   have HD6:=Lib.hid (fun w' (h:Below W6.heap.size W6 w')=>HD.out w' (andB hS6 h))
   have KX6:=Lib.hid (KXr.out.below hS6 KXr.out.lt)
   have BR6:=Lib.hid (BR.out.trans (hS6.mono BR.out.size))
   have CM:=Lib.hid (fun w' (h:Below W6.heap.size W6 w')=>pdebts_void (VV.out.below (andB hS6 h)) cu)
   clear hS6 CP HD KXr BR VV
   go_wp2_with fail
   refine region_still (by kernel_rfl) [(.int .i64 0),(.bool false),(.bool false),(.int .i64 0),(.bool false),(.bool false),(.bool false),(.int .i64 2),(.bool false),(.bool false),(.bool false),(.slice (some ⟨S,0,none⟩) 2 2),(.int .i64 k),(.pointer (some ⟨S,k,none⟩)),(.pointer p),(.pointer (some ⟨w.heap.size,0,none⟩)),(.int .u8 cu),(.slice none 0 0),(.int .i64 0),(.bool false),(.bool false)]
    (fun w'=>Below W6.heap.size W6 w') (by kernel_rfl) (Below.refl _ _).drew ?_
   intro af haf
   simp only [List.toList_toArray,List.append_eq,List.cons_append,List.nil_append,puts,Act.put,List.getD_cons_zero,List.getD_cons_succ,List.setIfInBounds_toArray,List.set_cons_succ,List.set_cons_zero] at haf
   subst haf
   refine ⟨?_,?_⟩
   ·simp only [List.toList_toArray,List.append_eq,List.cons_append,List.nil_append,EachTo]
    refine ⟨?_,?_,?_,?_,?_,?_,?_,?_,?_,?_,?_,?_,?_,?_,?_,?_,?_,?_,?_,?_,?_,trivial⟩
    ·intro w' hS
     refine OpTo.plain ?_ ?_
     exact rfl
     have HS:=Lib.hid hS
     clear hS
     go_wp2_with fail
     all_goals first | exact HS.out | exact ⟨rfl,HS.out⟩ | rfl | exact ⟨by omega,HS.out⟩
    ·intro w' hS
     refine OpTo.plain ?_ ?_
     exact rfl
     have HS:=Lib.hid hS
     clear hS
     go_wp2_with fail
     all_goals first | exact HS.out | exact ⟨rfl,HS.out⟩ | rfl | exact ⟨by omega,HS.out⟩
    ·intro w' hS
     refine OpTo.plain ?_ ?_
     exact rfl
     have HS:=Lib.hid hS
     clear hS
     go_wp2_with fail
     all_goals first | exact HS.out | exact ⟨rfl,HS.out⟩ | rfl | exact ⟨by omega,HS.out⟩
    ·intro w' hS
     refine OpTo.wanted ?_ ?_
     kernel_rfl
     have HS:=Lib.hid hS
     clear hS
     go_wp2_with fail
     all_goals first | exact HS.out | exact ⟨rfl,HS.out⟩ | rfl | exact ⟨by omega,HS.out⟩
    ·intro w' hS
     refine OpTo.wanted ?_ ?_
     kernel_rfl
     have HS:=Lib.hid hS
     clear hS
     go_wp2_with fail
     all_goals first | exact HS.out | exact ⟨rfl,HS.out⟩ | rfl | exact ⟨by omega,HS.out⟩
    ·intro w' hS
     refine OpTo.plain ?_ ?_
     exact rfl
     have HS:=Lib.hid hS
     clear hS
     go_wp2_with fail
     all_goals first | exact HS.out | exact ⟨rfl,HS.out⟩ | rfl | exact ⟨by omega,HS.out⟩
    ·intro w' hS
     refine OpTo.plain ?_ ?_
     exact rfl
     have HS:=Lib.hid hS
     clear hS
     go_wp2_with fail
     all_goals first | exact HS.out | exact ⟨rfl,HS.out⟩ | rfl | exact ⟨by omega,HS.out⟩
    ·intro w' hS
     refine OpTo.wanted ?_ ?_
     kernel_rfl
     have HS:=Lib.hid hS
     clear hS
     go_wp2_with fail
     all_goals first | exact HS.out | exact ⟨rfl,HS.out⟩ | rfl | exact ⟨by omega,HS.out⟩
    ·intro w' hS
     refine OpTo.wanted ?_ ?_
     kernel_rfl
     have HS:=Lib.hid hS
     clear hS
     go_wp2_with fail
     all_goals first | exact HS.out | exact ⟨rfl,HS.out⟩ | rfl | exact ⟨by omega,HS.out⟩
    ·intro w' hS
     refine OpTo.plain ?_ ?_
     exact rfl
     have HS:=Lib.hid hS
     clear hS
     go_wp2_with fail
     all_goals first | exact HS.out | exact ⟨rfl,HS.out⟩ | rfl | exact ⟨by omega,HS.out⟩
    ·intro w' hS
     refine OpTo.plain ?_ ?_
     exact rfl
     have HS:=Lib.hid hS
     clear hS
     go_wp2_with fail
     all_goals first | exact HS.out | exact ⟨rfl,HS.out⟩ | rfl | exact ⟨by omega,HS.out⟩
    ·intro w' hS
     refine OpTo.wanted ?_ ?_
     kernel_rfl
     have HS:=Lib.hid hS
     clear hS
     go_wp2_with fail
     all_goals first | exact HS.out | exact ⟨rfl,HS.out⟩ | rfl | exact ⟨by omega,HS.out⟩
    ·intro w' hS
     refine OpTo.wanted ?_ ?_
     kernel_rfl
     have HS:=Lib.hid hS
     clear hS
     go_wp2_with fail
     all_goals first | exact HS.out | exact ⟨rfl,HS.out⟩ | rfl | exact ⟨by omega,HS.out⟩
    ·intro w' hS
     refine OpTo.wanted ?_ ?_
     kernel_rfl
     obtain ⟨hsl,hsc⟩:=HD6.out w' hS
     have HS:=Lib.hid hS
     clear hS
     go_wp2_with fail
     all_goals first | exact HS.out | exact ⟨rfl,HS.out⟩ | rfl | exact ⟨by omega,HS.out⟩
    ·intro w' hS
     refine OpTo.wanted ?_ ?_
     kernel_rfl
     obtain ⟨hsl,hsc⟩:=HD6.out w' hS
     have HS:=Lib.hid hS
     clear hS
     go_wp2_with fail
     all_goals first | exact HS.out | exact ⟨rfl,HS.out⟩ | rfl | exact ⟨by omega,HS.out⟩
    ·intro w' hS
     refine OpTo.wanted ?_ ?_
     kernel_rfl
     have kx:=KX6.out.below hS KX6.out.lt
     have hl:=kx.lt
     have e0:=kx.cell 0; have e1:=kx.cell 1
     simp at e0 e1
     clear kx
     have HS:=Lib.hid hS
     clear hS
     go_wp2_with fail
     all_goals first | exact HS.out | exact ⟨rfl,HS.out⟩ | rfl | exact ⟨by omega,HS.out⟩
    ·intro w' hS
     refine OpTo.wanted ?_ ?_
     kernel_rfl
     have kx:=KX6.out.below hS KX6.out.lt
     have hl:=kx.lt
     have e0:=kx.cell 0; have e1:=kx.cell 1
     simp at e0 e1
     clear kx
     have HS:=Lib.hid hS
     clear hS
     go_wp2_with fail
     all_goals first | exact HS.out | exact ⟨rfl,HS.out⟩ | rfl | exact ⟨by omega,HS.out⟩
    ·intro w' hS
     refine OpTo.wanted ?_ ?_
     kernel_rfl
     have HS:=Lib.hid hS
     clear hS
     go_wp2_with fail
     refine (CM.out w' HS.out).mono ?_
     rintro e w'' ⟨rfl,hb2⟩
     exact ⟨rfl,andB HS.out hb2⟩
    ·intro w' hS
     refine OpTo.wanted ?_ ?_
     kernel_rfl
     have HS:=Lib.hid hS
     clear hS
     go_wp2_with fail
     all_goals first | exact HS.out | exact ⟨rfl,HS.out⟩ | rfl | exact ⟨by omega,HS.out⟩
    ·intro w' hS
     refine OpTo.wanted ?_ ?_
     kernel_rfl
     have HS:=Lib.hid hS
     clear hS
     go_wp2_with fail
     all_goals first | exact HS.out | exact ⟨rfl,HS.out⟩ | rfl | exact ⟨by omega,HS.out⟩
    ·intro w' hS
     refine OpTo.plain ?_ ?_
     exact rfl
     have HS:=Lib.hid hS
     clear hS
     go_wp2_with fail
     all_goals first | exact HS.out | exact ⟨rfl,HS.out⟩ | rfl | exact ⟨by omega,HS.out⟩
   intro W7 hS7
   have BR7:=Lib.hid (BR6.out.trans (hS7.mono BR6.out.size))
   clear hS7
   go_wp2_with fail
   exact ⟨⟨k + 1,by have:=HK.out; omega,by go_num,BR7.out⟩,by simp [intOf]; have:=HK.out; omega⟩
  ·have hkn:k=2:=by omega
   subst hkn
   have BR:=Lib.hid (B2.out.trans (hbr.mono B2.out.size))
   clear hbr
   go_wp2_with fail
   refine (HLo.out _).mono ?_
   rintro e w9 ⟨rfl,b9⟩
   have B9:=Lib.hid (BR.out.trans (b9.mono BR.out.size))
   clear b9
   go_wp2_with fail
   go_ret
   exact ⟨rfl,B9.out⟩
theorem nvoid_frame (HL:Lives13) (cu q:Int) (w:World) (hc:(Lit.int .u8 cu).wf=true) (hq:(Lit.int .i64 q).wf=true) :
  Calls Try.prog 3 #[.agg #[.int .u8 cu,.int .i64 q]] w fun e w'=>e=.returned (.bool true)∧Below w.heap.size w w' :=
 nvoid_walk HL cu q w (In8.of_wf hc) (In64.of_wf hq)
end Go.Proofs.Ytlbjjkbppbmihaa
