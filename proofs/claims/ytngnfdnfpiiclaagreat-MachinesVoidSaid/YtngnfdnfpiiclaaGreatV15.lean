/-
  Pieces of one proof, without what is not wanted: PB4, FillMath, FillFacts, BestW.
-/
import Derived.Test.YtngnfdnfpiiclaaGreatV03
import Derived.Test.YtngnfdnfpiiclaaGreatV12
import Derived.Test.YtngnfdnfpiiclaaGreatV13
import Derived.Test.YtngnfdnfpiiclaaGreatV14
import Derived.Lib.SliceRun
set_option linter.unusedSimpArgs false
set_option linter.unusedVariables false
namespace Go.Proofs.YtngnfdnfpiiclaaGreat
open Go.RowKit
theorem setO_append (a b:List Of) (s n:Int):setO (a++b) s n=setO a s n++setO b s n:=by unfold setO; rw [List.map_append,List.filter_append]
theorem setO_other {a:List Of} {s n:Int} (h:∀ x ∈ a,x.se≠s∧0<x.lf):setO a s n=a:=by
 induction a with
 | nil=>rfl
 | cons x r ih =>
  have hx:=h x (by simp)
  have hr:=ih (fun y hy=>h y (by simp [hy]))
  unfold setO at *
  rw [List.map_cons,List.filter_cons,show Of.put s n x=x by unfold Of.put; rw [if_neg hx.1],if_pos (by simpa using hx.2),hr]
theorem BInv.others {l:List Of} {N:Int} (h:BInv l N) {s:Int} (hp:posO l s<l.length):(∀ x ∈ l.take (posO l s),x.se≠s∧0<x.lf)∧(∀ x ∈ l.drop (posO l s + 1),x.se≠s∧0<x.lf)∧l[posO l s].se=s:=by
 have hlf:∀ x ∈ l,0<x.lf:=fun x hx=>by have:=(h.may x hx).2.2.2.2.1; omega
 have hat:l[posO l s].se=s:=by
  have:=List.findIdx_getElem (p:=fun x:Of=>x.se==s) (xs:=l) (w:=hp)
  exact eq_of_beq this
 refine ⟨fun x hx=>⟨?_,hlf x (List.mem_of_mem_take hx)⟩,fun x hx=>⟨?_,hlf x (List.mem_of_mem_drop hx)⟩,hat⟩
 ·obtain ⟨j,hj,rfl⟩:=List.mem_take_iff_getElem.1 hx
  have:=List.not_of_lt_findIdx (p:=fun x:Of=>x.se==s) (xs:=l) (i:=j) (by unfold posO at hj; omega)
  simpa using this
 ·obtain ⟨j,hj,rfl⟩:=List.mem_drop_iff_getElem.1 hx
  have:=List.pairwise_iff_getElem.1 h.rise (posO l s) (posO l s + 1 + j) hp (by omega) (by omega)
  intro e
  omega
theorem off_split {l:List Of} {k:Nat} (h:k<l.length):l=l.take k++[l[k]]++l.drop (k + 1):=by
 rw [← List.take_succ_eq_append_getElem h,List.take_append_drop]
theorem setO_erase {l:List Of} {N:Int} (h:BInv l N) {s:Int} (hp:posO l s<l.length):setO l s 0=l.eraseIdx (posO l s):=by
 obtain ⟨h1,h2,h3⟩:=h.others hp
 conv=>lhs; rw [off_split hp]
 rw [setO_append,setO_append,setO_other h1,setO_other h2,List.eraseIdx_eq_take_drop_succ]
 simp [setO,Of.put,h3]
theorem setO_mem {l:List Of} {s n:Int} {y:Of} (h:y ∈ setO l s n):0<y.lf∧∃ x ∈ l,y=x∨(x.se=s∧y={ x with lf:=n }):=by
 unfold setO at h
 obtain ⟨h1,h2⟩:=List.mem_filter.1 h
 obtain ⟨x,hx,rfl⟩:=List.mem_map.1 h1
 refine ⟨by simpa using h2,x,hx,?_⟩
 unfold Of.put
 split
 ·rename_i e; exact .inr ⟨e,rfl⟩
 ·exact .inl rfl
theorem setO_se (l:List Of) (s n:Int):((l.map (Of.put s n)).map Of.se)=l.map Of.se:=by
 rw [List.map_map]
 apply List.map_congr_left
 intro x _
 show (Of.put s n x).se=x.se
 unfold Of.put; split <;> rfl
theorem BInv.set {l:List Of} {N:Int} (h:BInv l N) {s n:Int} (hn:n≤1099511627776):BInv (setO l s n) N:=by
 refine ⟨fun y hy=>?_,?_,fun y hy=>?_,Nat.le_trans (setO_len l s n) h.len,h.n1,h.n2⟩
 ·obtain ⟨h0,x,hx,rfl | ⟨_,rfl⟩⟩:=setO_mem hy
  ·exact h.may _ hx
  ·obtain ⟨a,b,c,d,e,f⟩:=h.may _ hx
   exact ⟨a,b,c,d,⟨by have:0<n:=h0; show 1≤n; omega,hn⟩,f⟩
 ·have h1:(l.map (Of.put s n)).Pairwise fun x y=>x.se<y.se:=by
   rw [← List.pairwise_map (f:=Of.se) (R:=fun a b:Int=>a<b),setO_se,List.pairwise_map]
   exact h.rise
  exact h1.filter _
 ·obtain ⟨_,x,hx,rfl | ⟨_,rfl⟩⟩:=setO_mem hy
  ·exact h.bd _ hx
  ·have:=h.bd _ hx; exact this
theorem BInv.cancel {l:List Of} {N:Int} (h:BInv l N) (ow s:Int):BInv (cancelL l ow s) N:=by
 unfold cancelL
 split
 ·exact h.set (by omega)
 ·exact h
theorem leftO_bd {l:List Of} {N:Int} (h:BInv l N) (s:Int):0≤leftO l s∧leftO l s≤1099511627776:=by
 unfold leftO
 cases hf:findO l s with
 | none=>simp
 | some x=>have:=(h.may _ (findO_mem hf).1).2.2.2.2.1; simp only; omega
theorem takeE_pos {l:List Of} {s n:Int} (h:takeE l s n=0):1≤n:=by
 unfold takeE at h
 split at h
 ·omega
 ·split at h
  ·omega
  ·omega
theorem BInv.take {l:List Of} {N:Int} (h:BInv l N) (s n:Int):BInv (takeL l s n) N:=by
 unfold takeL
 split
 ·rename_i e
  have:=leftO_bd h s
  have:=takeE_pos e
  exact h.set (by omega)
 ·exact h
set_option maxHeartbeats 4000000 in
theorem pcancel_any {w:World} {base g:Nat} {l:List Of} {N:Int} {vl:Value} (h:PB w base g l N vl) (hI:BInv l N) (ow s:Int) :
  Calls Tryz.prog 157 #[.pointer (some ⟨g,0,none⟩),.int .u8 ow,.int .u64 s] w fun e w'=>e=.returned (.tuple #[.int .i64 (cancelV l ow s),.int .i64 (cancelE l ow s)])∧∃ vl',PB w' base g (cancelL l ow s) N vl'∧Keep (Foot g vl) w w'∧Moved w vl vl':=by
 have C:=Lib.hid (pstand_any h hI.n1 s)
 have H:=Lib.hid h
 have HI:=Lib.hid hI
 have hlen:=hI.len
 clear h hI
 by_cases hp:posO l s<l.length
 ·rw [show standV l s=.tuple #[.int .i64 (posO l s:Nat),.int .i64 0] by unfold standV; rw [if_pos hp]] at C
  have hf:=posO_found hp
  have SE:=Lib.hid (setO_erase HI.out hp)
  obtain ⟨ao,cap,hv,_,hcm,_,hr⟩:=owns_open H.out.row
  subst hv
  obtain ⟨b,rfl,hbb,hbl,hcell,_⟩:=hr (by omega)
  have HC:=Lib.hid hcell
  have CR:=Lib.hid (fun w1 (b1:Below w.heap.size w w1)=>premove_any (H.out.below b1) hp (by omega))
  clear hr hcell
  generalize hpk:posO l s=k at *
  clear hpk
  generalize hxk:l[k]=x at *
  unfold maxLen at hcm
  by_cases hw:x.ow=ow
  ·have E:=Lib.hid (show cancelV l ow s=x.lf∧cancelE l ow s=0∧cancelL l ow s=l.eraseIdx k from by
    have e2:cancelE l ow s=0:=by unfold cancelE; rw [hf]; exact if_pos hw
    exact ⟨by unfold cancelV; rw [hf]; exact if_pos hw,e2,by unfold cancelL; rw [if_pos e2,SE.out]⟩)
   have q1:(x.ow==ow)=true:=by simpa using hw
   have q2:(x.ow != ow)=false:=by simpa using hw
   rw [E.out.1,E.out.2.1,E.out.2.2]
   clear hf hw
   go_enter Tryz.func157,Tryz.ntmps157
   go_wp2_with fail
   refine C.out.mono ?_
   rintro e w1 ⟨rfl,b1⟩
   have H1:=H.out.below b1
   have hl:=H1.blk.lt
   have d0:=H1.blk.cell 0
   simp at d0
   obtain ⟨e0,e1,e2,e3,e4,e5,e6⟩:=of_cells (w:=w1) (fun j hj=>by rw [b1.cell (p:=⟨b,j,none⟩) hbl]; exact HC.out j hj) hp
   rw [hxk] at e0 e1 e2 e3 e4 e5 e6
   have CR1:=Lib.hid (CR.out w1 b1)
   have HB1:=Lib.hid b1
   clear b1 H1 CR C hxk
   go_wp2_with fail
   refine CR1.out.mono ?_
   rintro e w2 ⟨rfl,vl',h2,k2,m2⟩
   have R:=Lib.hid (And.intro h2 (And.intro k2 m2))
   clear h2 k2 m2
   go_wp2_with fail
   refine bodyPost_ret (v:=.tuple #[.int .i64 x.lf,.int .i64 0]) (by simp [results,Tryz.results157,go_sem]) rfl ?_
   exact ⟨rfl,vl',R.out.1,(Keep.of_below HB1.out).trans R.out.2.1,fun b hb=>.inl (by rw [← R.out.2.2]; exact hb)⟩
  ·have E:=Lib.hid (show cancelV l ow s=0∧cancelE l ow s=15∧cancelL l ow s=l from by
    have e2:cancelE l ow s=15:=by unfold cancelE; rw [hf]; exact if_neg hw
    exact ⟨by unfold cancelV; rw [hf]; exact if_neg hw,e2,by unfold cancelL; rw [if_neg (by rw [e2]; decide)]⟩)
   have q1:(x.ow==ow)=false:=by simpa using hw
   have q2:(x.ow != ow)=true:=by simpa using hw
   rw [E.out.1,E.out.2.1,E.out.2.2]
   clear hf hw CR
   go_enter Tryz.func157,Tryz.ntmps157
   go_wp2_with fail
   refine C.out.mono ?_
   rintro e w1 ⟨rfl,b1⟩
   have H1:=H.out.below b1
   have hl:=H1.blk.lt
   have d0:=H1.blk.cell 0
   simp at d0
   obtain ⟨e0,e1,e2,e3,e4,e5,e6⟩:=of_cells (w:=w1) (fun j hj=>by rw [b1.cell (p:=⟨b,j,none⟩) hbl]; exact HC.out j hj) hp
   rw [hxk] at e0 e1 e2 e3 e4 e5 e6
   have HB1:=Lib.hid b1
   clear b1 H1 C hxk
   go_wp2_with fail
   refine bodyPost_ret (v:=.tuple #[.int .i64 0,.int .i64 15]) (by simp [results,Tryz.results157,go_sem]) rfl ?_
   exact ⟨rfl,_,H.out.below HB1.out,Keep.of_below HB1.out,Moved.refl _ _⟩
 ·rw [show standV l s=.tuple #[.int .i64 0,.int .i64 7] by unfold standV; rw [if_neg hp]] at C
  have hf:=posO_missed hp
  have E:=Lib.hid (show cancelV l ow s=0∧cancelE l ow s=7∧cancelL l ow s=l from by
   have e2:cancelE l ow s=7:=by unfold cancelE; rw [hf]
   exact ⟨by unfold cancelV; rw [hf],e2,by unfold cancelL; rw [if_neg (by rw [e2]; decide)]⟩)
  rw [E.out.1,E.out.2.1,E.out.2.2]
  clear hf hp
  go_enter Tryz.func157,Tryz.ntmps157
  go_wp2_with fail
  refine C.out.mono ?_
  rintro e w1 ⟨rfl,b1⟩
  have HB1:=Lib.hid b1
  clear b1 C
  go_wp2_with fail
  refine bodyPost_ret (v:=.tuple #[.int .i64 0,.int .i64 7]) (by simp [results,Tryz.results157,go_sem]) rfl ?_
  exact ⟨rfl,_,H.out.below HB1.out,Keep.of_below HB1.out,Moved.refl _ _⟩
set_option maxHeartbeats 4000000 in
theorem pfind_any {w:World} {base g:Nat} {l:List Of} {N:Int} {vl:Value} (h:PB w base g l N vl) (h1:1≤N) (s:Int) :
  Calls Tryz.prog 162 #[.pointer (some ⟨g,0,none⟩),.int .u64 s] w fun e w'=>e=.returned (foundV (findO l s))∧Below w.heap.size w w':=by
 have bw:=(Below.refl w.heap.size w).alloc (Nat.le_refl _) (.cells #[.int .u64 0,.int .u8 0,.int .u8 0,.int .u8 0,.int .i64 0,.int .i64 0,.int .i64 0] 75)
 have h2:=h.below bw
 have B:=Lib.hid bw
 have H:=Lib.hid h2
 have KR:=Lib.hid (Blk.new w #[.int .u64 0,.int .u8 0,.int .u8 0,.int .u8 0,.int .i64 0,.int .i64 0,.int .i64 0] 75)
 have C:=Lib.hid (pstand_any h2 h1 s)
 obtain ⟨ao,cap,rfl,hc1,hc2,hc3,hc4⟩:=owns_open h2.row
 have HC:=Lib.hid hc4
 unfold maxLen at hc2
 clear hc3 hc4 h bw h2 h1
 by_cases hp:posO l s<l.length
 ·rw [show standV l s=.tuple #[.int .i64 (posO l s:Nat),.int .i64 0] by unfold standV; rw [if_pos hp]] at C
  have E:=Lib.hid (posO_found hp)
  generalize hpk:posO l s=k at *
  clear hpk
  go_enter Tryz.func162,Tryz.ntmps162
  go_wp2_with fail
  refine C.out.mono ?_
  rintro e w1 ⟨rfl,b1⟩
  obtain ⟨b,rfl,hb1,hb2,hcell,_⟩:=HC.out (by omega)
  have H1:=H.out.below b1
  have hl:=H1.blk.lt
  have d0:=H1.blk.cell 0
  simp at d0
  obtain ⟨e0,e1,e2,e3,e4,e5,e6⟩:=of_cells (w:=w1) (fun j hj=>by rw [b1.cell (p:=⟨b,j,none⟩) hb2]; exact hcell j hj) hp
  have KR1:=Lib.hid (KR.out.below b1 KR.out.lt)
  have B1:=Lib.hid (B.out.trans (b1.mono B.out.size))
  clear hcell b1 C H1 KR
  generalize l[k]=x at *
  go_wp2_with (refine wpList_store_whole rfl 75 (.tmp 4) (.tmp 23) rfl w.heap.size #[.int .u64 x.se,.int .u8 x.ow,.int .u8 x.sl,.int .u8 x.bu,.int .i64 x.lf,.int .i64 x.nu,.int .i64 x.de] rfl rfl 75 _ KR1.out.out (by kernel_rfl) rfl (by simp [Value.oneCell']) ?_)
  rw [E.out]
  refine bodyPost_ret (v:=.tuple #[x.val,.bool true]) (results_cell_and rfl _ _ w.heap.size 75 #[.int .u64 x.se,.int .u8 x.ow,.int .u8 x.sl,.int .u8 x.bu,.int .i64 x.lf,.int .i64 x.nu,.int .i64 x.de] _ _ rfl (setRow_heap _ w.heap.size _ _ _ (0,0) KR1.out.out) Tryz.underlying75 rfl (by kernel_rfl) rfl) rfl ⟨rfl,below_setRow B1.out (Nat.le_refl _) _⟩
 ·rw [show standV l s=.tuple #[.int .i64 0,.int .i64 7] by unfold standV; rw [if_neg hp]] at C
  have E:=Lib.hid (posO_missed hp)
  clear hp
  go_enter Tryz.func162,Tryz.ntmps162
  go_wp2_with fail
  refine C.out.mono ?_
  rintro e w1 ⟨rfl,b1⟩
  have KR1:=Lib.hid (KR.out.below b1 KR.out.lt)
  have B1:=Lib.hid (B.out.trans (b1.mono B.out.size))
  clear b1 C KR
  go_wp2_with (refine wpList_store_whole rfl 75 (.tmp 4) (.tmp 16) rfl w.heap.size #[.int .u64 0,.int .u8 0,.int .u8 0,.int .u8 0,.int .i64 0,.int .i64 0,.int .i64 0] rfl rfl 75 _ KR1.out.out (by kernel_rfl) rfl (by simp [Value.oneCell']) ?_)
  rw [E.out]
  refine bodyPost_ret (v:=.tuple #[noOf.val,.bool false]) (results_cell_and rfl _ _ w.heap.size 75 #[.int .u64 0,.int .u8 0,.int .u8 0,.int .u8 0,.int .i64 0,.int .i64 0,.int .i64 0] _ _ rfl (setRow_heap _ w.heap.size _ _ _ (0,0) KR1.out.out) Tryz.underlying75 rfl (by kernel_rfl) rfl) rfl ⟨rfl,below_setRow B1.out (Nat.le_refl _) _⟩
end Go.Proofs.YtngnfdnfpiiclaaGreat
namespace Go.Proofs.YtngnfdnfpiiclaaGreat
open Go.RowKit
def OwnPost (w:World) (e:TypeId) (l:List Of) (en:Ending) (w':World):Prop :=
 ∃ v',en=.returned v'∧w'.ownsRow w.heap.size e 7 v' l.length (ofCells l)∧Below w.heap.size w w'
set_option maxHeartbeats 2000000 in
set_option maxRecDepth 100000 in
theorem cloneO_any {w:World} {base:Nat} {v:Value} {l:List Of} (h:w.ownsRow base 197 7 v l.length (ofCells l)) (hl:l.length≤1000) :
  Calls Tryz.prog 114 #[v] w (OwnPost w 197 l):=by
 have q22:∀ (w:World) (a:Option Addr) (n c n' c':Nat),(binOp .eql 156 (.slice a n c) (.slice none n' c')).run Tryz.prog w=.ok (.bool a.isNone) w:=fun w a n c n' c'=>Lib.run_eql_slice_nil w _ _ a n c n' c' Tryz.underlying156
 rcases h.2 with ⟨rfl,h0⟩ | ⟨g,cap,cur,rfl,hbase,hb,h1,h2,h3,h4⟩
 ·have hl0:=List.eq_nil_of_length_eq_zero h0
  subst hl0
  clear h h0
  go_enter Tryz.func114,Tryz.ntmps114
  go_wp2
  refine bodyPost_ret (v:=.slice none 0 0) (by simp [results,Tryz.results114,go_sem]) rfl ?_
  exact ⟨_,rfl,World.ownsRow_nil _ _ _ _,Below.refl _ _⟩
 ·obtain ⟨i0,hi1,hi2,hi3,hi4⟩:=info_parts info_poff
  have HC:=Lib.hid (h.cells (g:=g) rfl)
  have HL:=Lib.hid hl
  have HX:=Lib.hid h.1
  clear h hb h1 h2 h3 h4 hl
  go_enter Tryz.func114,Tryz.ntmps114
  go_wp2_with (at_builtin; refine wpList_append_own _ rfl _ _ 156 rfl w.heap.size 197 i0 zOff 7 40 Tryz.underlying156 hi1 hi2 hi3 hi4 rfl (by decide) _ _ _ rfl (World.ownsRow_made w #[] 0 (Nat.le_refl _) (Nat.zero_le _) (by simp)) ⟨g,0,none⟩ l.length cap (ofCells l) rfl ?qc1 ?qc2 ?qc3 ?qc4 ?qc5 ?qc6 ?_)
  case qc1=>exact HX.out
  case qc2 =>
   intro j u hj
   exact Lib.cell?_alloc_some _ (HC.out j u hj)
  case qc3=>exact ofCells_oneCell l
  case qc4=>rw [Nat.zero_add]; have:=HL.out; unfold maxLen; omega
  case qc5=>rw [Nat.zero_add]; have:=HL.out; omega
  case qc6=>simp
  intro v' w1 hown hgrow hnil
  have HO:=Lib.hid (show w1.ownsRow w.heap.size 197 7 v' l.length (ofCells l) by simpa using hown)
  have HB:=Lib.hid (((Below.refl w.heap.size w).alloc (Nat.le_refl _) (.cells #[] 197)).grown hgrow (by simp) (by intro k hk; simp [Value.ownBlock] at hk; omega))
  clear hown hgrow hnil
  go_wp2
  refine bodyPost_ret (v:=v') (by simp [results,Tryz.results114,go_sem]) rfl ?_
  exact ⟨v',rfl,HO.out,HB.out⟩
theorem clipO_any {w:World} {base:Nat} {v:Value} {n:Nat} {xs:List Value} (h:w.ownsRow base 75 7 v n xs) :
  Calls Tryz.prog 145 #[v] w (ClipPost w base 75 7 n v xs):=by
 rcases h.2 with ⟨rfl,h0⟩ | ⟨g,cap,cur,rfl,hbase,hb,h1,h2,h3,h4⟩
 ·subst h0
  have hr:=run_slice_clip_none (P:=Tryz.prog) w 43 75 7 Tryz.underlying43 (Tryz.sizeOf75 w)
  have hx:=h.1
  have hx2:=Lib.hid hx
  clear h hx
  go_enter Tryz.func145,Tryz.ntmps145
  go_wp2
  refine bodyPost_ret (v:=.slice none 0 0) (by simp [results,Tryz.results145,go_sem]) rfl ?_
  exact ⟨_,rfl,⟨hx2.out,.inl ⟨rfl,rfl⟩⟩,rfl,rfl⟩
 ·have hr:=run_slice_clip (P:=Tryz.prog) w 43 75 7 Tryz.underlying43 (Tryz.sizeOf75 w) g n cap h1
  have HR:=Lib.hid (show Rowed w base 75 7 (.slice (some ⟨g,0,none⟩) n n) n xs from ⟨h.1,.inr ⟨g,cur,rfl,hbase,hb,by omega,by omega,h4⟩⟩)
  clear h hb h4 h3
  unfold maxLen at h2
  go_enter Tryz.func145,Tryz.ntmps145
  go_wp2
  refine bodyPost_ret (v:=.slice (some ⟨g,0,none⟩) n n) (by simp [results,Tryz.results145,go_sem]) rfl ?_
  exact ⟨_,rfl,HR.out,rfl,rfl⟩
def ToldAt (w:World) (l:List Of) (v i:Value) (wr:World):Prop :=
 ∃ k:Nat,k≤l.length∧i=.int .i64 k∧wr.ownsRow w.heap.size 75 7 v (l.take k).length (ofCells (l.take k))∧Below w.heap.size w wr
set_option maxHeartbeats 4000000 in
set_option maxRecDepth 100000 in
theorem told_any {w:World} {base:Nat} {v:Value} {l:List Of} (h:w.ownsRow base 197 7 v l.length (ofCells l)) (hl:l.length≤1000) :
  Calls Tryz.prog 103 #[v] w (ListPost w 75 7 l.length (ofCells l)):=by
 obtain ⟨ao,cap,rfl,hc1,hc2,hc3,hc4⟩:=owns_open h
 have HC:=Lib.hid hc4
 unfold maxLen at hc2
 clear hc3 hc4 h
 go_enter Tryz.func103,Tryz.ntmps103
 go_wp2_with fail
 go_loopw [3,8] (ToldAt w l) (fun _ i _=>l.length - (intOf i).toNat)
 case atStart=>exact ⟨0,Nat.zero_le _,rfl,World.ownsRow_nil _ _ _ _,Below.refl _ _⟩
 case round =>
  obtain ⟨k,hk,rfl,hown,hb⟩:=hrel
  by_cases hkl:k<l.length
  ·obtain ⟨b,rfl,hb1,hb2,hcell,_⟩:=HC.out (by omega)
   obtain ⟨e0,e1,e2,e3,e4,e5,e6⟩:=of_cells (w:=wr) (fun j hj=>by rw [hb.cell (p:=⟨b,j,none⟩) hb2]; exact hcell j hj) hkl
   have NX:=Lib.hid (List.take_succ_eq_append_getElem hkl)
   have hlk:(l.take k).length≤1000:=Nat.le_trans (List.length_take_le _ _) (by omega)
   clear hcell
   generalize l[k]=y at *
   generalize l.take k=out at *
   have bw:=(Below.refl wr.heap.size wr).alloc (Nat.le_refl _) (.cells #[.int .u64 y.se,.int .u8 y.ow,.int .u8 y.sl,.int .u8 y.bu,.int .i64 y.lf,.int .i64 y.nu,.int .i64 y.de] 197)
   have K0:=Lib.hid (Blk.new wr #[.int .u64 y.se,.int .u8 y.ow,.int .u8 y.sl,.int .u8 y.bu,.int .i64 y.lf,.int .i64 y.nu,.int .i64 y.de] 197)
   have OY:=Lib.hid (owns_below hown bw)
   have BY:=Lib.hid (hb.trans (bw.mono hb.size))
   have hl2:out.length≤100000:=by omega
   clear hown hb bw
   go_wp2_with (at_builtin; refine wpList_append_of _ rfl (.tmp 12) (.tmp 14) rfl w.heap.size _ out rfl (OY.out.alloc _) _ _ y rfl (Blk.newAt _ _ _ (by simp)) hl2 (by have:=BY.out.size; simp at this ⊢; omega) ?_)
   intro v3 w3 hown3 hgr3
   have R2:∀ k,Value.ownBlock _=some k→w.heap.size≤k:=fun k hk=>(owns_type OY.out hk).1
   have B3:=Lib.hid ((BY.out.alloc BY.out.size _).grown hgr3 (by have:=BY.out.size; simp at this ⊢; omega) (fun k hk=>R2 k hk))
   have O3:=Lib.hid (show w3.ownsRow w.heap.size 75 7 v3 (out++[y]).length (ofCells (out++[y])) by simpa using hown3)
   clear R2 hown3 hgr3
   go_wp2_with fail
   go_roundw
   case rel=>exact ⟨k + 1,by omega,by go_num,by rw [NX.out]; exact O3.out,B3.out⟩
   case measure=>simp [intOf]; omega
  ·have hke:l.take k=l:=List.take_of_length_le (by omega)
   rw [hke] at hown
   have CC:=Lib.hid (clipO_any hown)
   have HB:=Lib.hid hb
   clear hown hb hke
   go_wp2_with fail
   refine CC.out.mono ?_
   rintro e w3 ⟨v',rfl,hrow,_,rfl⟩
   have HRow:=Lib.hid hrow
   clear hrow CC
   go_wp2_with fail
   refine bodyPost_ret (v:=v') (by simp [results,Tryz.results103,go_sem]) rfl ?_
   exact ⟨v',rfl,HRow.out,HB.out⟩
theorem pall_of {w:World} {base:Nat} {pv v:Value} {l:List Of} (hc:Calls Tryz.prog 104 #[pv] w fun e w'=>e=.returned v∧w=w') (h:w.ownsRow base 197 7 v l.length (ofCells l)) (hl:l.length≤1000) :
  Calls Tryz.prog 59 #[pv] w (ListPost w 75 7 l.length (ofCells l)):=by
 have C1:=Lib.hid hc
 have C2:=Lib.hid (told_any h hl)
 clear hc h
 go_enter Tryz.func59,Tryz.ntmps59
 go_wp2_with fail
 refine C1.out.mono ?_
 rintro e w ⟨rfl,rfl⟩
 go_wp2_with fail
 refine C2.out.mono ?_
 rintro e w1 ⟨v',rfl,h1,b1⟩
 have H1:=Lib.hid (And.intro h1 b1)
 clear h1 b1
 go_wp2_with fail
 refine bodyPost_ret (v:=v') (by simp [results,Tryz.results59,go_sem]) rfl ?_
 exact ⟨v',rfl,H1.out.1,H1.out.2⟩
theorem pall_any {w:World} {base g:Nat} {l:List Of} {N:Int} {vl:Value} (h:PB w base g l N vl) (hl:l.length≤1000) :
  Calls Tryz.prog 59 #[.pointer (some ⟨g,0,none⟩)] w (ListPost w 75 7 l.length (ofCells l)):=by
 obtain ⟨ao,cap,rfl,_⟩:=owns_open h.row
 exact pall_of (ball_any h.blk) h.row hl
end Go.Proofs.YtngnfdnfpiiclaaGreat
namespace Go.Proofs.YtngnfdnfpiiclaaGreat
def noFill:Value:=.agg #[.int .u64 0,.int .u8 0,.int .u8 0,.int .i64 0,.int .i64 0]
def mayO (o:Of) (ps:List Int) (tk pt want most m1 m2:Int):Int:=if o.ow=tk∨o.ow ∉ ps∨tk ∉ ps∨pt ∉ ps∨want<1∨most<1 then 0 else
 min (if pt=o.ow then min want o.lf else min (min want o.lf) m1) (fitN (min (min most 1099511627776) m2) o.nu o.de)
def mayV (l:List Of) (ps:List Int) (s tk pt want most m1 m2:Int):Int:=match findO l s with
 | none=>0
 | some o=>mayO o ps tk pt want most m1 m2
def Goes (ps:List Int) (ls:List Ln) (o:Of) (tk pt m1 m2:Int):Prop :=
 (∃ μ,IsRoute (roomF ps ls o.sl) 4398046511104 o.ow pt mostW μ∧mostW - μ.left=m1)∧∃ μ,IsRoute (roomF ps ls o.bu) 4398046511104 tk o.ow mostW μ∧mostW - μ.left=m2
theorem goes_ends {ps:List Int} {ls:List Ln} (h:LInv ps ls) (o:Of) (tk pt:Int):∃ m1 m2,Goes ps ls o tk pt m1 m2:=by
 obtain ⟨μ,h1⟩:=route_ends (roomF_inv h o.sl) o.ow pt mostW
 obtain ⟨ν,h2⟩:=route_ends (roomF_inv h o.bu) tk o.ow mostW
 exact ⟨_,_,⟨μ,h1,rfl⟩,ν,h2,rfl⟩
theorem most_any_bd {f:Int→Int→Int} (h0:GInv f 4398046511104) {s t:Int} {μ:RS} (h:IsRoute f 4398046511104 s t mostW μ):0≤mostW - μ.left∧mostW - μ.left≤1125899906842624:=by
 by_cases hi:inP s∧inP t∧s≠t
 ·exact most_bd h h0 hi.2.2
 ·rw [route_out h0 hi h]
  show 0≤mostW - mostW∧mostW - mostW≤1125899906842624
  omega
theorem Goes.bd {ps:List Int} {ls:List Ln} (h:LInv ps ls) {o:Of} {tk pt m1 m2:Int} (g:Goes ps ls o tk pt m1 m2):(0≤m1∧m1≤1125899906842624)∧0≤m2∧m2≤1125899906842624:=by
 obtain ⟨⟨μ,h1,rfl⟩,ν,h2,rfl⟩:=g
 exact ⟨most_any_bd (roomF_inv h _) h1,most_any_bd (roomF_inv h _) h2⟩
def doOk (l:List Of) (ps:List Int) (s tk pt n m1 m2:Int):Prop:=1≤n∧n≤mayV l ps s tk pt n 1099511627776 m1 m2
theorem doOk.facts {l:List Of} {ps:List Int} {s tk pt n m1 m2:Int} (h:doOk l ps s tk pt n m1 m2) :
  ∃ o,findO l s=some o∧(o.ow≠tk∧o.ow ∈ ps∧tk ∈ ps∧pt ∈ ps)∧n≤o.lf∧(pt=o.ow∨n≤m1)∧n≤fitN (min 1099511627776 m2) o.nu o.de:=by
 obtain ⟨h1,h2⟩:=h
 unfold mayV at h2
 cases hf:findO l s with
 | none=>rw [hf] at h2; simp at h2; omega
 | some o =>
  rw [hf] at h2
  simp only [mayO] at h2
  split at h2
  ·omega
  ·rename_i hb
   refine ⟨o,rfl,⟨fun h=>hb (.inl h),Classical.byContradiction fun h=>hb (.inr (.inl h)),Classical.byContradiction fun h=>hb (.inr (.inr (.inl h))),Classical.byContradiction fun h=>hb (.inr (.inr (.inr (.inl h))))⟩,?_,?_,?_⟩
   ·split at h2 <;> omega
   ·split at h2
    ·rename_i h; exact .inl h
    ·exact .inr (by omega)
   ·have e:min (min 1099511627776 1099511627776) m2=min (1099511627776:Int) m2:=by omega
    rw [e] at h2
    omega
theorem up_fits {n g nu de:Int} (hm:mayB nu de=true) (h0:0≤g) (hg:g≤1099511627776) (hn:0≤n) (h:n≤fitN g nu de) :
  upV2 n nu de=.tuple #[.int .i64 (upN (n * nu) de),.int .i64 0]∧0≤upN (n * nu) de∧upN (n * nu) de≤g:=by
 unfold fitN at h
 rw [if_pos ⟨hm,h0⟩] at h
 obtain ⟨h1,h2,h3,h4,_⟩:=may_bd hm
 have hu:=(up_le n nu g de hn h0 h1 h2 (by omega)).2 (by omega)
 have h5:0≤upN (n * nu) de:=by
  have:=Int.ediv_nonneg (Int.mul_nonneg hn (show 0≤nu by omega)) (show 0≤de by omega)
  unfold upN; split <;> omega
 refine ⟨?_,h5,hu⟩
 have hi:In64 (upN (n * nu) de):=⟨by omega,by omega⟩
 rw [upV2,hm,if_pos rfl,upV,if_neg (by omega),ans_of _ hi]
def Filled (ps:List Int) (ls:List Ln) (o:Of) (tk pt n x:Int) (ls':List Ln):Prop :=
 ∃ ls1 τ,((pt=o.ow∧ls1=ls)∨(pt≠o.ow∧∃ σ,IsRoute (roomF ps ls o.sl) 4398046511104 o.ow pt n σ∧ls1=payL ps ls o.ow pt o.sl n σ))∧IsRoute (roomF ps ls1 o.bu) 4398046511104 tk o.ow x τ∧ls'=payL ps ls1 tk o.ow o.bu x τ
theorem Filled.eq {ps:List Int} {ls:List Ln} {o:Of} {tk pt n x:Int} {l1 l2:List Ln} (h:Filled ps ls o tk pt n x l1) (g:Filled ps ls o tk pt n x l2):l1=l2:=by
 obtain ⟨a,σ,ha,hσ,rfl⟩:=h
 obtain ⟨b,τ,hb,hτ,rfl⟩:=g
 have e:a=b:=by
  rcases ha with ⟨h1,rfl⟩ | ⟨h1,α,h2,rfl⟩ <;> rcases hb with ⟨k1,rfl⟩ | ⟨k1,β,k2,rfl⟩
  ·rfl
  ·exact absurd h1 k1
  ·exact absurd k1 h1
  ·rw [h2.eq k2]
 subst e
 rw [hσ.eq hτ]
theorem Filled.inv {ps:List Int} {ls:List Ln} {o:Of} {tk pt n x:Int} {l1:List Ln} (h:Filled ps ls o tk pt n x l1) (hI:LInv ps ls):LInv ps l1:=by
 obtain ⟨a,σ,ha,hσ,rfl⟩:=h
 refine payL_inv ?_ _ _ _ _ _
 rcases ha with ⟨h1,rfl⟩ | ⟨h1,α,h2,rfl⟩
 ·exact hI
 ·exact payL_inv hI _ _ _ _ _
end Go.Proofs.YtngnfdnfpiiclaaGreat
namespace Go.Proofs.YtngnfdnfpiiclaaGreat
theorem fitN_nn {g nu de:Int}:0≤fitN g nu de:=by
 unfold fitN
 split
 ·rename_i h
  have:=may_bd h.1
  have:=Int.ediv_nonneg (Int.mul_nonneg h.2 (show 0≤de by omega)) (show 0≤nu by omega)
  omega
 ·omega
theorem fitN_mono {a b nu de:Int} (h0:0≤a) (h:a≤b):fitN a nu de≤fitN b nu de:=by
 unfold fitN
 by_cases hm:mayB nu de=true
 ·rw [if_pos ⟨hm,h0⟩,if_pos ⟨hm,by omega⟩]
  have hb:=may_bd hm
  have h1:a * de≤b * de:=Int.mul_le_mul_of_nonneg_right h (by omega)
  have:=Int.ediv_le_ediv (show 0<nu by omega) h1
  omega
 ·rw [if_neg (fun q=>hm q.1),if_neg (fun q=>hm q.1)]; omega
theorem may_do {l:List Of} {ps:List Int} {s tk pt want most m1 m2 n:Int} (h1:0≤m1) (h2:0≤m2) (hn:mayV l ps s tk pt want most m1 m2=n) (h:1≤n) :
  doOk l ps s tk pt n m1 m2∧n≤want∧1≤most∧∃ o,findO l s=some o∧n≤fitN (min (min most 1099511627776) m2) o.nu o.de:=by
 unfold mayV at hn
 cases hf:findO l s with
 | none=>rw [hf] at hn; simp at hn; omega
 | some o =>
  rw [hf] at hn
  simp only [mayO] at hn
  by_cases hb:o.ow=tk∨o.ow ∉ ps∨tk ∉ ps∨pt ∉ ps∨want<1∨most<1
  ·rw [if_pos hb] at hn; omega
  ·rw [if_neg hb] at hn
   have hb2:¬ (o.ow=tk∨o.ow ∉ ps∨tk ∉ ps∨pt ∉ ps∨n<1∨(1099511627776:Int)<1):=by
    intro q
    rcases q with q | q | q | q | q | q
    ·exact hb (.inl q)
    ·exact hb (.inr (.inl q))
    ·exact hb (.inr (.inr (.inl q)))
    ·exact hb (.inr (.inr (.inr (.inl q))))
    ·omega
    ·omega
   have hmo:¬ most<1:=fun q=>hb (.inr (.inr (.inr (.inr (.inr q)))))
   have hmn:=fitN_mono (nu:=o.nu) (de:=o.de) (a:=min (min most 1099511627776) m2) (b:=min (min 1099511627776 1099511627776) m2) (by omega) (by omega)
   have hle:n≤want∧n≤fitN (min (min most 1099511627776) m2) o.nu o.de:=by split at hn <;> omega
   refine ⟨⟨h,?_⟩,hle.1,by omega,o,rfl,hle.2⟩
   unfold mayV
   rw [hf]
   simp only [mayO]
   rw [if_neg hb2]
   split at hn
   ·rename_i hp; rw [if_pos hp]; omega
   ·rename_i hp; rw [if_neg hp]; omega
theorem take_facts {l:List Of} {N:Int} (h:BInv l N) {s n:Int} {o:Of} (hf:findO l s=some o) (h1:1≤n) (h2:n≤o.lf) :
  takeL l s n=setO l s (o.lf - n):=by
 unfold takeL takeE leftO
 rw [hf]
 simp only []
 rw [if_pos (show (if n<1∨o.lf<n then (1:Int) else 0)=0 from if_neg (by omega))]
theorem pay_goes {ps:List Int} {ls:List Ln} (hI:LInv ps ls) {a b c n m:Int} {σ μ:RS} (ha:a ∈ ps) (hb:b ∈ ps) (hab:a≠b) (hc:1≤c∧c≤8) (h1:1≤n) (h2:n≤1099511627776)
  (hσ:IsRoute (roomF ps ls c) 4398046511104 a b n σ) (hμ:IsRoute (roomF ps ls c) 4398046511104 a b mostW μ) (hm:mostW - μ.left=m) (hnm:n≤m) :
  payE ps a b c n σ=0∧payL ps ls a b c n σ=pushAll ps c ls σ.out∧n - σ.left=n:=by
 have pa:=hI.bd a ha
 have pb:=hI.bd b hb
 have MIN:=route_min hσ hμ (roomF_inv hI c) pa pb hab h1
 rw [hm] at MIN
 have hg:n - σ.left=n:=by rw [MIN]; omega
 have PE:payE ps a b c n σ=0:=by
  unfold payE
  rcases wrong_cases (fun p=>decide (p ∈ ps)) a b c n (n - σ.left) with ⟨_,q⟩ | ⟨_,_,q⟩ | ⟨_,_,_,_,q⟩ | ⟨q,_⟩
  ·exact absurd ⟨pa,pb,hab,hc.1,hc.2,h1,h2⟩ q
  ·rcases q with q | q
   ·exact absurd ha (by simpa using q)
   ·exact absurd hb (by simpa using q)
  ·omega
  ·exact q
 exact ⟨PE,by unfold payL; rw [if_pos PE],hg⟩
theorem pay_pos {ps:List Int} {ls:List Ln} (hI:LInv ps ls) {a b c n:Int} {σ:RS} (hσ:IsRoute (roomF ps ls c) 4398046511104 a b n σ) (hg:n - σ.left=n) (p d:Int) :
  posL (pushAll ps c ls σ.out) p d=posL ls p d + (if d=c then (if b=p then n else 0) - (if a=p then n else 0) else 0):=by
 rw [pushAll_pos p σ.out hI hσ.good.1 d,hσ.net p,hg]
def fillBy (o:Of) (tk pt n x p c:Int):Int :=
 (((if c=o.sl∧p=o.ow then -n else 0) + (if c=o.sl∧p=pt then n else 0)) + (if c=o.bu∧p=tk then -x else 0)) + (if c=o.bu∧p=o.ow then x else 0)
theorem filled_facts {ps:List Int} {ls ls':List Ln} (hI:LInv ps ls) {l:List Of} {N:Int} (hJ:BInv l N) {s tk pt n m1 m2 x:Int} {o:Of} (hf:findO l s=some o) (hG:Goes ps ls o tk pt m1 m2) (hd:doOk l ps s tk pt n m1 m2) (hx:x=upN (n * o.nu) o.de) (hF:Filled ps ls o tk pt n x ls') :
  limL ls=limL ls'∧(∀ p c,posL ls' p c=posL ls p c + fillBy o tk pt n x p c)∧1≤x∧x≤1099511627776∧x≤m2:=by
 obtain ⟨o',hf',⟨k1,k2,k3,k4⟩,k5,k6,k7⟩:=hd.facts
 rw [hf] at hf'
 cases hf'
 have hB:=hG.bd hI
 obtain ⟨⟨μ,hμ,em⟩,ν,hν,en⟩:=hG
 obtain ⟨_,⟨s1,s2⟩,⟨b1,b2⟩,hsb,⟨l1,l2⟩,hm⟩:=hJ.may o (findO_mem hf).1
 have hn1:=hd.1
 have hb:=may_bd hm
 obtain ⟨u1,u2,u3⟩:=up_fits hm (g:=min 1099511627776 m2) (by omega) (by omega) (by omega) k7
 rw [← hx] at u2 u3
 have hx1:1≤x:=by
  have hp:1≤n * o.nu:=by have:=Int.mul_le_mul hn1 hb.1 (by omega) (by omega); omega
  rw [hx]
  unfold upN
  have h0:0≤n * o.nu / o.de:=Int.ediv_nonneg (by omega) (by omega)
  split
  ·rename_i h
   have hd2:=Int.mul_ediv_add_emod (n * o.nu) o.de
   rw [h] at hd2
   rcases Int.lt_or_le (n * o.nu / o.de) 1 with k | k
   ·have:n * o.nu / o.de=0:=by omega
    rw [this] at hd2; omega
   ·exact k
  ·omega
 obtain ⟨ls1,τ,hA,hτ,rfl⟩:=hF
 have hroom:LInv ps ls1∧roomF ps ls1 o.bu=roomF ps ls o.bu∧limL ls=limL ls1∧∀ p c,posL ls1 p c=posL ls p c + ((if c=o.sl∧p=o.ow then -n else 0) + (if c=o.sl∧p=pt then n else 0)):=by
  rcases hA with ⟨hp,rfl⟩ | ⟨hp,σ,hσ,rfl⟩
  ·refine ⟨hI,rfl,rfl,fun p c=>?_⟩
   subst hp
   by_cases h:c=o.sl∧p=o.ow
   ·rw [if_pos h,if_pos h]; omega
   ·rw [if_neg h,if_neg h]; omega
  ·have hn:n≤m1:=by rcases k6 with h | h; exact absurd h hp; exact h
   obtain ⟨e1,e2,e3⟩:=pay_goes hI k2 k4 (fun e=>hp e.symm) ⟨s1,s2⟩ hn1 (by omega) hσ hμ em hn
   rw [e2]
   refine ⟨pushAll_inv _ hI,pushAll_else hsb _ hI,(pushAll_lims _ hI).symm,fun p c=>?_⟩
   rw [pay_pos hI hσ e3]
   clear hμ hν hσ hτ hm hx hb u1
   repeat' split
   all_goals omega
 obtain ⟨hI1,hr,hl,hpos⟩:=hroom
 rw [hr] at hτ
 rw [← hr] at hν hτ
 obtain ⟨e1,e2,e3⟩:=pay_goes hI1 k3 k2 (fun e=>k1 e.symm) ⟨b1,b2⟩ hx1 (by omega) hτ hν en (by omega)
 rw [e2]
 refine ⟨hl.trans (pushAll_lims _ hI1).symm,fun p c=>?_,hx1,by omega,by omega⟩
 rw [pay_pos hI1 hτ e3,hpos]
 unfold fillBy
 generalize (if c=o.sl∧p=o.ow then -n else 0) + (if c=o.sl∧p=pt then n else 0)=S
 clear hμ hν hτ hm hx hb u1 hpos
 repeat' split
 all_goals omega
theorem goes_some {ps:List Int} {ls:List Ln} (hI:LInv ps ls) (l:List Of) (s tk pt:Int):∃ m1 m2,(∀ o,findO l s=some o→Goes ps ls o tk pt m1 m2)∧0≤m1∧0≤m2:=by
 cases hf:findO l s with
 | none=>exact ⟨0,0,(fun o h=>by cases h),by omega,by omega⟩
 | some o =>
  obtain ⟨m1,m2,g⟩:=goes_ends hI o tk pt
  have:=g.bd hI
  exact ⟨m1,m2,(fun o' h=>by cases h; exact g),by omega,by omega⟩
end Go.Proofs.YtngnfdnfpiiclaaGreat
namespace Go.Proofs.YtngnfdnfpiiclaaGreat
open Go.RowKit
def noWorse (x y:Of):Bool:=decide (cmpR y.nu y.de x.nu x.de≤0)
def insO (out:List Of) (x:Of):List Of:=out.takeWhile (noWorse x)++x::out.dropWhile (noWorse x)
def bestStep (s b:Int) (out:List Of) (x:Of):List Of:=if x.sl=s∧x.bu=b then insO out x else out
def bestO (l:List Of) (s b:Int):List Of:=l.foldl (bestStep s b) []
def ltO (x y:Of):Prop:=x.nu * y.de<y.nu * x.de∨(x.nu * y.de=y.nu * x.de∧x.se<y.se)
def ordO (x y:Of):Int:=orI (cmpR x.nu x.de y.nu y.de) (cmpI x.se y.se)
theorem cmpR_may {an ad bn bd:Int} (h1:mayB an ad=true) (h2:mayB bn bd=true):cmpR an ad bn bd=cmpI (an * bd) (bn * ad):=by unfold cmpR; rw [if_pos ⟨h1,h2⟩]
theorem ordO_lt {x y:Of} (hx:x.may) (hy:y.may):ordO x y<0↔ltO x y:=by
 unfold ordO
 rw [cmpR_may hx.2.2.2.2.2 hy.2.2.2.2.2]
 unfold ltO orI cmpI
 generalize x.nu * y.de=p
 generalize y.nu * x.de=q
 (repeat' split) <;> omega
theorem sgn3 {a1 d1 a2 d2 a3 d3:Int} (h1:1≤d1) (h2:1≤d2) (h3:1≤d3):d2 * (a1 * d3 - a3 * d1)=d3 * (a1 * d2 - a2 * d1) + d1 * (a2 * d3 - a3 * d2):=by
 simp only [Int.mul_sub]
 have e1:d2 * (a1 * d3)=d3 * (a1 * d2):=by rw [← Int.mul_assoc,Int.mul_comm d2 a1,Int.mul_comm d3,Int.mul_assoc]
 have e2:d2 * (a3 * d1)=d1 * (a3 * d2):=by rw [← Int.mul_assoc,Int.mul_comm d2 a3,Int.mul_comm d1,Int.mul_assoc]
 have e3:d3 * (a2 * d1)=d1 * (a2 * d3):=by rw [← Int.mul_assoc,Int.mul_comm d3 a2,Int.mul_comm d1,Int.mul_assoc]
 omega
theorem sgn_three {d1 d2 d3 u v t:Int} (h1:1≤d1) (h2:1≤d2) (h3:1≤d3) (h:d2 * t=d3 * u + d1 * v):(u<0→v≤0→t<0)∧(u≤0→v<0→t<0)∧(u=0→v=0→t=0)∧(0<u→0≤v→0<t)∧(0≤u→0<v→0<t):=by
 refine ⟨fun a b=>?_,fun a b=>?_,fun a b=>?_,fun a b=>?_,fun a b=>?_⟩
 ·have p:=Int.mul_neg_of_pos_of_neg (show 0<d3 by omega) a
  have q:=Int.mul_nonpos_of_nonneg_of_nonpos (show 0≤d1 by omega) b
  by_cases c:0≤t
  ·have:=Int.mul_nonneg (show 0≤d2 by omega) c; omega
  ·omega
 ·have p:=Int.mul_neg_of_pos_of_neg (show 0<d1 by omega) b
  have q:=Int.mul_nonpos_of_nonneg_of_nonpos (show 0≤d3 by omega) a
  by_cases c:0≤t
  ·have:=Int.mul_nonneg (show 0≤d2 by omega) c; omega
  ·omega
 ·subst a b
  rw [Int.mul_zero,Int.mul_zero,Int.add_zero] at h
  rcases Int.mul_eq_zero.1 h with e | e <;> omega
 ·have p:=Int.mul_pos (show 0<d3 by omega) a
  have q:=Int.mul_nonneg (show 0≤d1 by omega) b
  by_cases c:t≤0
  ·have:=Int.mul_nonpos_of_nonneg_of_nonpos (show 0≤d2 by omega) c; omega
  ·omega
 ·have p:=Int.mul_pos (show 0<d1 by omega) b
  have q:=Int.mul_nonneg (show 0≤d3 by omega) a
  by_cases c:t≤0
  ·have:=Int.mul_nonpos_of_nonneg_of_nonpos (show 0≤d2 by omega) c; omega
  ·omega
theorem Of.may.de {x:Of} (h:x.may):1≤x.de:=(may_bd h.2.2.2.2.2).2.1
theorem ltO_trans {x y z:Of} (hx:x.may) (hy:y.may) (hz:z.may) (h1:ltO x y) (h2:ltO y z):ltO x z:=by
 have k:=sgn_three hx.de hy.de hz.de (sgn3 (a1:=x.nu) (a2:=y.nu) (a3:=z.nu) hx.de hy.de hz.de)
 unfold ltO at *
 generalize x.nu * y.de=a at *
 generalize y.nu * x.de=b at *
 generalize y.nu * z.de=c at *
 generalize z.nu * y.de=d at *
 generalize x.nu * z.de=e at *
 generalize z.nu * x.de=f at *
 obtain ⟨k1,k2,k3,k4,k5⟩:=k
 rcases h1 with h1 | ⟨h1,s1⟩
 ·have:=k1 (by omega) (by omega); omega
 ·rcases h2 with h2 | ⟨h2,s2⟩
  ·have:=k2 (by omega) (by omega); omega
  ·have:=k3 (by omega) (by omega); omega
theorem ltO_ntrans {x y z:Of} (hx:x.may) (hy:y.may) (hz:z.may) (h1:¬ ltO x y) (h2:¬ ltO y z):¬ ltO x z:=by
 have k:=sgn_three hx.de hy.de hz.de (sgn3 (a1:=x.nu) (a2:=y.nu) (a3:=z.nu) hx.de hy.de hz.de)
 unfold ltO at *
 generalize x.nu * y.de=a at *
 generalize y.nu * x.de=b at *
 generalize y.nu * z.de=c at *
 generalize z.nu * y.de=d at *
 generalize x.nu * z.de=e at *
 generalize z.nu * x.de=f at *
 obtain ⟨k1,k2,k3,k4,k5⟩:=k
 by_cases u:b<a
 ·have:=k4 (by omega) (by omega); omega
 ·have ue:a=b:=by omega
  by_cases v:d<c
  ·have:=k5 (by omega) (by omega); omega
  ·have:=k3 (by omega) (by omega); omega
theorem ltO_irrefl (x:Of):¬ ltO x x:=by unfold ltO; omega
theorem ltO_total {x y:Of} (h:x.se≠y.se) (h1:¬ ltO x y):ltO y x:=by
 unfold ltO at *
 generalize x.nu * y.de=a at *
 generalize y.nu * x.de=b at *
 omega
theorem ltO_asymm {x y:Of} (h1:ltO x y) (h2:ltO y x):False:=by
 unfold ltO at *
 generalize x.nu * y.de=a at *
 generalize y.nu * x.de=b at *
 omega
theorem noWorse_lt {x y:Of} (hx:x.may) (hy:y.may) (hs:y.se<x.se) (h:noWorse x y=true):ltO y x:=by
 unfold noWorse at h
 rw [cmpR_may hy.2.2.2.2.2 hx.2.2.2.2.2] at h
 unfold ltO
 generalize x.nu * y.de=a at *
 generalize y.nu * x.de=b at *
 unfold cmpI at h
 split at h
 ·omega
 ·split at h
  ·simp at h
  ·omega
theorem worse_lt {x y:Of} (hx:x.may) (hy:y.may) (h:noWorse x y=false):ltO x y:=by
 unfold noWorse at h
 rw [cmpR_may hy.2.2.2.2.2 hx.2.2.2.2.2] at h
 unfold ltO
 generalize x.nu * y.de=a at *
 generalize y.nu * x.de=b at *
 unfold cmpI at h
 split at h
 ·simp at h
 ·split at h
  ·omega
  ·simp at h
theorem insO_perm (out:List Of) (x:Of):(insO out x).Perm (out++[x]):=by
 unfold insO
 have h1:(out.takeWhile (noWorse x)++x::out.dropWhile (noWorse x)).Perm (x::(out.takeWhile (noWorse x)++out.dropWhile (noWorse x))):=List.perm_middle
 rw [List.takeWhile_append_dropWhile] at h1
 exact h1.trans (List.perm_append_singleton x out).symm
theorem mem_takeWhile {p:Of→Bool}:∀ {l:List Of} {y:Of},y ∈ l.takeWhile p→p y=true
 | x::r,y,h=>by
  rw [List.takeWhile_cons] at h
  split at h
  ·rcases List.mem_cons.1 h with rfl | h
   ·assumption
   ·exact mem_takeWhile h
  ·simp at h
theorem insO_sorted {out:List Of} {x:Of} (hm:∀ y ∈ out,y.may) (hx:x.may) (hs:∀ y ∈ out,y.se<x.se) (ho:out.Pairwise ltO):(insO out x).Pairwise ltO:=by
 unfold insO
 have hsplit:out.takeWhile (noWorse x)++out.dropWhile (noWorse x)=out:=List.takeWhile_append_dropWhile
 have h1:∀ y ∈ out.takeWhile (noWorse x),y ∈ out∧noWorse x y=true:=fun y hy=>⟨by rw [← hsplit]; exact List.mem_append_left _ hy,mem_takeWhile hy⟩
 have h2:∀ y ∈ out.dropWhile (noWorse x),y ∈ out:=fun y hy=>by rw [← hsplit]; exact List.mem_append_right _ hy
 rw [← hsplit,List.pairwise_append] at ho
 obtain ⟨o1,o2,o3⟩:=ho
 have h3:∀ y ∈ out.dropWhile (noWorse x),ltO x y:=by
  cases hd:out.dropWhile (noWorse x) with
  | nil=>simp
  | cons z r =>
   rw [hd] at o2 h2
   have hz:noWorse x z=false:=by
    have:=List.head_dropWhile_not (noWorse x) (l:=out) (by rw [hd]; simp)
    simpa [hd] using this
   have hz2:=worse_lt hx (hm z (h2 z (by simp))) hz
   intro y hy
   rcases List.mem_cons.1 hy with rfl | hy
   ·exact hz2
   ·exact ltO_trans hx (hm z (h2 z (by simp))) (hm y (h2 y (by simp [hy]))) hz2 ((List.pairwise_cons.1 o2).1 y hy)
 rw [List.pairwise_append]
 refine ⟨o1,List.pairwise_cons.2 ⟨h3,o2⟩,fun y hy z hz=>?_⟩
 obtain ⟨hyo,hyn⟩:=h1 y hy
 have hyx:=noWorse_lt hx (hm y hyo) (hs y hyo) hyn
 rcases List.mem_cons.1 hz with rfl | hz
 ·exact hyx
 ·exact o3 y hy z hz
def ofPair (s b:Int) (x:Of):Bool:=decide (x.sl=s∧x.bu=b)
theorem foldl_best {s b:Int}:∀ (l out:List Of),(∀ x ∈ l,x.may)→(∀ x ∈ out,x.may)→l.Pairwise (fun x y=>x.se<y.se)→(∀ y ∈ out,∀ x ∈ l,y.se<x.se)→out.Pairwise ltO →
  (l.foldl (bestStep s b) out).Perm (out++l.filter (ofPair s b))∧(l.foldl (bestStep s b) out).Pairwise ltO
 | [],out,_,_,_,_,ho=>by simpa using ho
 | x::r,out,h1,h2,h3,h4,ho=>by
  obtain ⟨h3a,h3b⟩:=List.pairwise_cons.1 h3
  rw [List.foldl_cons]
  by_cases hp:x.sl=s∧x.bu=b
  ·have e:bestStep s b out x=insO out x:=by unfold bestStep; rw [if_pos hp]
   have hi:=insO_perm out x
   have hmem:∀ y ∈ insO out x,y ∈ out∨y=x:=fun y hy=>by
    have:=hi.mem_iff.1 hy
    simpa using this
   rw [e]
   obtain ⟨p,q⟩:=foldl_best r (insO out x) (fun y hy=>h1 y (by simp [hy])) (fun y hy=>by rcases hmem y hy with h | rfl; exact h2 y h; exact h1 y (by simp)) h3b
    (fun y hy z hz=>by rcases hmem y hy with h | rfl; exact h4 y h z (by simp [hz]); exact h3a z hz) (insO_sorted h2 (h1 x (by simp)) (fun y hy=>h4 y hy x (by simp)) ho)
   refine ⟨p.trans ?_,q⟩
   rw [List.filter_cons,if_pos (by unfold ofPair; simpa using hp)]
   exact (hi.append_right _).trans (by simp)
  ·have e:bestStep s b out x=out:=by unfold bestStep; rw [if_neg hp]
   rw [e]
   obtain ⟨p,q⟩:=foldl_best r out (fun y hy=>h1 y (by simp [hy])) h2 h3b (fun y hy z hz=>h4 y hy z (by simp [hz])) ho
   refine ⟨?_,q⟩
   rw [List.filter_cons,if_neg (by unfold ofPair; simpa using hp)]
   exact p
theorem bestO_is {l:List Of} (h1:∀ x ∈ l,x.may) (h3:l.Pairwise (fun x y=>x.se<y.se)) (s b:Int):(bestO l s b).Perm (l.filter (ofPair s b))∧(bestO l s b).Pairwise ltO:=by
 have:=foldl_best (s:=s) (b:=b) l [] h1 (by simp) h3 (by simp) List.Pairwise.nil
 simpa [bestO] using this
end Go.Proofs.YtngnfdnfpiiclaaGreat
