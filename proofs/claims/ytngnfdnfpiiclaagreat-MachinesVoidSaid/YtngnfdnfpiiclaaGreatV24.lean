/-
  Pieces of one proof, without what is not wanted: PB7, Agst.
-/
import Derived.Test.YtngnfdnfpiiclaaGreatV15
import Derived.Test.YtngnfdnfpiiclaaGreatV16
import Derived.Test.YtngnfdnfpiiclaaGreatV22
import Derived.Test.YtngnfdnfpiiclaaGreatV23
import Derived.Deep.MidRow
set_option linter.unusedSimpArgs false
set_option linter.unusedVariables false
namespace Go.Proofs.YtngnfdnfpiiclaaGreat
open Go.RowKit
theorem best1_any (x:Of) {c1 c2:Nat} {s b:Int} {w:World} (h1:Blk w c1 #[.int .u8 s] 69) (h2:Blk w c2 #[.int .u8 b] 69) :
  Calls Tryz.prog 294 #[.agg #[.int .u64 x.se,.int .u8 x.ow,.int .u8 x.sl,.int .u8 x.bu,.int .i64 x.lf,.int .i64 x.nu,.int .i64 x.de],.pointer (some ⟨c1,0,none⟩),.pointer (some ⟨c2,0,none⟩)] w fun e w'=>e=.returned (.bool (!ofPair s b x))∧Below w.heap.size w w':=by
 have B0:=Lib.hid ((Below.refl w.heap.size w).alloc (Nat.le_refl _) (.cells #[.int .u64 x.se,.int .u8 x.ow,.int .u8 x.sl,.int .u8 x.bu,.int .i64 x.lf,.int .i64 x.nu,.int .i64 x.de] 197))
 have k1:=h1.alloc (.cells #[.int .u64 x.se,.int .u8 x.ow,.int .u8 x.sl,.int .u8 x.bu,.int .i64 x.lf,.int .i64 x.nu,.int .i64 x.de] 197)
 have k2:=h2.alloc (.cells #[.int .u64 x.se,.int .u8 x.ow,.int .u8 x.sl,.int .u8 x.bu,.int .i64 x.lf,.int .i64 x.nu,.int .i64 x.de] 197)
 have d0:=k1.cell 0
 have e0:=k2.cell 0
 simp at d0 e0
 have hl:=k1.lt
 have hl2:=k2.lt
 clear k1 k2 h1 h2
 unfold ofPair
 by_cases q1:x.sl=s
 ·have p1:(x.sl==s)=true:=by simpa using q1
  have p2:(x.sl != s)=false:=by simpa using q1
  by_cases q2:x.bu=b
  ·have p3:(x.bu==b)=true:=by simpa using q2
   have p4:(x.bu != b)=false:=by simpa using q2
   rw [decide_eq_true (And.intro q1 q2)]
   clear q1 q2
   go_enter Tryz.func294,Tryz.ntmps294
   go_wp2_with fail
   go_ret
   exact ⟨rfl,B0.out⟩
  ·have p3:(x.bu==b)=false:=by simpa using q2
   have p4:(x.bu != b)=true:=by simpa using q2
   rw [decide_eq_false (fun k=>q2 k.2)]
   clear q1 q2
   go_enter Tryz.func294,Tryz.ntmps294
   go_wp2_with fail
   go_ret
   exact ⟨rfl,B0.out⟩
 ·have p1:(x.sl==s)=false:=by simpa using q1
  have p2:(x.sl != s)=true:=by simpa using q1
  rw [decide_eq_false (fun k=>q1 k.1)]
  clear q1
  go_enter Tryz.func294,Tryz.ntmps294
  go_wp2_with fail
  go_ret
  exact ⟨rfl,B0.out⟩
def posBk (l:List Of) (s b:Int):Nat:=l.findIdx fun x=>!ofPair s b x
theorem posB_le (l:List Of) (s b:Int):posBk l s b≤l.length:=List.findIdx_le_length
theorem posB_at {l:List Of} {s b:Int} {k:Nat} (hk:k<l.length) (hn:∀ x ∈ l.take k,ofPair s b x=true) (hx:ofPair s b l[k]=false):posBk l s b=k:=by
 unfold posBk
 rw [List.findIdx_eq hk]
 refine ⟨by simp [hx],fun j hj=>?_⟩
 have:=hn l[j] (by rw [List.mem_take_iff_getElem]; exact ⟨j,by omega,rfl⟩)
 simp [this]
theorem posB_none {l:List Of} {s b:Int} (hn:∀ x ∈ l,ofPair s b x=true):posBk l s b=l.length:=by
 unfold posBk
 rw [List.findIdx_eq_length]
 intro x hx
 simp [hn x hx]
theorem posB_take {l:List Of} {s b:Int} {j:Nat} (hj:j<posBk l s b):ofPair s b (l[j]'(Nat.lt_of_lt_of_le hj (posB_le l s b)))=true:=by
 have:=List.not_of_lt_findIdx (p:=fun x=>!ofPair s b x) (xs:=l) (i:=j) hj
 simpa using this
theorem posB_hit {l:List Of} {s b:Int} (h:posBk l s b<l.length):ofPair s b l[posBk l s b]=false:=by
 have:=List.findIdx_getElem (p:=fun x=>!ofPair s b x) (xs:=l) (w:=h)
 rw [Bool.not_eq_true'] at this
 exact this
def idxB (l:List Of) (s b:Int):Value:=if posBk l s b<l.length then .int .i64 (posBk l s b:Nat) else .int .i64 (-1)
def IdxBAt (w:World) (l:List Of) (s b:Int) (i:Value) (wr:World):Prop :=
 ∃ k:Nat,k≤l.length∧i=.int .i64 k∧(∀ x ∈ l.take k,ofPair s b x=true)∧Below w.heap.size w wr
set_option maxHeartbeats 4000000 in
theorem pidxB_any {w:World} {base c1 c2:Nat} {l:List Of} {s b:Int} {v:Value} (h:w.ownsRow base 197 7 v l.length (ofCells l)) (h1:Blk w c1 #[.int .u8 s] 69) (h2:Blk w c2 #[.int .u8 b] 69) :
  Calls Tryz.prog 244 #[v,.func (.func 294) #[] #[.pointer (some ⟨c1,0,none⟩),.pointer (some ⟨c2,0,none⟩)]] w fun e w'=>e=.returned (idxB l s b)∧Below w.heap.size w w':=by
 obtain ⟨ao,cap,rfl,hc1,hc2,hc3,hc4⟩:=owns_open h
 have HC:=Lib.hid hc4
 have K1:=Lib.hid h1
 have K2:=Lib.hid h2
 unfold maxLen at hc2
 clear hc3 hc4 h h1 h2
 go_enter Tryz.func244,Tryz.ntmps244
 go_wp2_with fail
 go_loopw [5,8] (fun _ i wr=>IdxBAt w l s b i wr) (fun _ i _=>l.length - (intOf i).toNat)
 case atStart=>exact ⟨0,Nat.zero_le _,rfl,by simp,Below.refl _ _⟩
 case round =>
  obtain ⟨k,hk,rfl,hn,hb⟩:=hrel
  by_cases hkl:k<l.length
  ·obtain ⟨g,rfl,hb1,hb2,hcell,_⟩:=HC.out (by omega)
   obtain ⟨e0,e1,e2,e3,e4,e5,e6⟩:=of_cells (w:=wr) (fun j hj=>by rw [hb.cell (p:=⟨g,j,none⟩) hb2]; exact hcell j hj) hkl
   have FA:=Lib.hid (fun hx=>posB_at (s:=s) (b:=b) hkl hn hx)
   have TN:=Lib.hid (fun hx=>take_all_next (q:=fun x=>ofPair s b x=true) hkl hn hx)
   have C1:=Lib.hid (best1_any l[k] (K1.out.below hb K1.out.lt) (K2.out.below hb K2.out.lt))
   have HB:=Lib.hid hb
   clear hcell hn hb
   generalize l[k]=x at *
   cases hx:ofPair s b x with
   | false =>
    have E:=Lib.hid (FA.out hx)
    rw [hx] at C1
    clear FA TN hx
    go_wp2_with fail
    refine C1.out.mono ?_
    rintro e w2 ⟨rfl,b2⟩
    have HB2:=Lib.hid (HB.out.trans (b2.mono HB.out.size))
    clear b2
    go_wp2_with fail
    go_ret
    refine ⟨?_,HB2.out⟩
    unfold idxB
    rw [E.out,if_pos hkl]
    rfl
   | true =>
    have E:=Lib.hid (TN.out hx)
    rw [hx] at C1
    clear FA TN hx
    go_wp2_with fail
    refine C1.out.mono ?_
    rintro e w2 ⟨rfl,b2⟩
    have HB2:=Lib.hid (HB.out.trans (b2.mono HB.out.size))
    clear b2
    go_wp2_with fail
    go_roundw
    case rel=>exact ⟨k + 1,by omega,by go_num,E.out,HB2.out⟩
    case measure=>simp [intOf]; omega
  ·have E:Hid (posBk l s b=l.length):=Lib.hid (posB_none (by have:=hn; rwa [List.take_of_length_le (by omega)] at this))
   have HB:=Lib.hid hb
   clear hn hb
   go_wp2_with fail
   go_ret
   refine ⟨?_,HB.out⟩
   unfold idxB
   rw [E.out,if_neg (by omega)]
   rfl
theorem ofCells_put:∀ (l:List Of) (k:Nat) (x:Of),k<l.length→(ofCells l).take (k * 7)++x.vals++(ofCells l).drop (k * 7 + 7)=ofCells (l.set k x):=by
 intro l k x h
 have e0:ofCells l=ofCells (l.take k)++ofCells (l.drop k):=by rw [← ofCells_append,List.take_append_drop]
 have e1:ofCells l=ofCells (l.take (k + 1))++ofCells (l.drop (k + 1)):=by rw [← ofCells_append,List.take_append_drop]
 have h1:(ofCells l).take (k * 7)=ofCells (l.take k):=by rw [e0,List.take_left' (by rw [ofCells_len,List.length_take]; omega)]
 have h2:(ofCells l).drop (k * 7 + 7)=ofCells (l.drop (k + 1)):=by rw [e1,List.drop_left' (by rw [ofCells_len,List.length_take]; omega)]
 rw [h1,h2,List.set_eq_take_append_cons_drop,if_pos h,ofCells_append,show x::l.drop (k + 1)=[x]++l.drop (k + 1) from rfl,ofCells_append,ofCells_one,List.append_assoc]
theorem owns_store {w:World} {base g n cap k:Nat} {e:TypeId} {d:List Of} (h:w.ownsRow base e 7 (.slice (some ⟨g,0,none⟩) n cap) n (ofCells d)) (hd:d.length=n) (hk:k<n) (x:Of) :
  (w.setCells g (k * 7) x.vals).ownsRow base e 7 (.slice (some ⟨g,0,none⟩) n cap) n (ofCells (d.set k x)):=by
 obtain ⟨_,hx⟩:=h
 rcases hx with ⟨hx,_⟩ | ⟨g',cap',cur,hv,hbase,hb,h1,h2,h3,h4⟩
 ·cases hx
 cases hv
 obtain ⟨cur',hb',hc'⟩:=heap_setCells (w:=w) (e:=e) x.vals (k * 7) cur hb (by rw [Of.vals_len,h3]; omega)
 refine ⟨by rw [ofCells_len,List.length_set,hd],.inr ⟨g,cap,cur',rfl,hbase,hb',h1,h2,?_,?_⟩⟩
 ·rw [← Array.length_toList,hc']
  simp only [List.length_append,List.length_take,List.length_drop,Array.length_toList,Of.vals_len,h3]
  omega
 ·rw [hc',← ofCells_put d k x (by omega),← h4,Of.vals_len]
  have hcl:cur.toList.length=cap * 7:=by rw [Array.length_toList,h3]
  rw [List.take_take,Nat.min_eq_left (by omega),List.take_append,List.length_append,List.length_take,Of.vals_len,hcl,Nat.min_eq_left (by omega)]
  rw [List.take_of_length_le (l:=cur.toList.take (k * 7)++x.vals) (by rw [List.length_append,List.length_take,Of.vals_len,hcl]; omega),List.drop_take]
theorem zero_one (n:Nat):∀ u ∈ (Builtin.zeroCells zOff.cells n).toList,u.oneCell'=true:=by
 intro u hu
 unfold Builtin.zeroCells at hu
 simp at hu
 obtain ⟨i,hi,rfl⟩:=hu
 have h7:zOff.cells.size=7:=rfl
 rw [h7]
 have h:=Nat.mod_lt i (show 7 > 0 by omega)
 generalize i % 7=m at *
 match m,h with
 | 0,_=>rfl
 | 1,_=>rfl
 | 2,_=>rfl
 | 3,_=>rfl
 | 4,_=>rfl
 | 5,_=>rfl
 | 6,_=>rfl
theorem zero_len (n:Nat):(Builtin.zeroCells zOff.cells n).toList.length=n * 7:=by
 unfold Builtin.zeroCells
 simp
 rfl
theorem owns_cut {w:World} {base g n cap i:Nat} {e:TypeId} {d f:List Of} (h:w.ownsRow base e 7 (.slice (some ⟨g,0,none⟩) n cap) n (ofCells d)) (hd:d.length=n) (hi:i≤n) (hf:d.take i=f) (hfl:f.length=i) (zs:List Value) (hz:zs.length=(n - i) * 7) :
  (w.setCells g (i * 7) zs).ownsRow base e 7 (.slice (some ⟨g,0,none⟩) i cap) i (ofCells f):=by
 obtain ⟨_,hx⟩:=h
 rcases hx with ⟨hx,_⟩ | ⟨g',cap',cur,hv,hbase,hb,h1,h2,h3,h4⟩
 ·cases hx
 cases hv
 obtain ⟨cur',hb',hc'⟩:=heap_setCells (w:=w) (e:=e) zs (i * 7) cur hb (by rw [hz,h3]; omega)
 refine ⟨by rw [ofCells_len,hfl],.inr ⟨g,cap,cur',rfl,hbase,hb',by omega,h2,?_,?_⟩⟩
 ·rw [← Array.length_toList,hc']
  simp only [List.length_append,List.length_take,List.length_drop,Array.length_toList,hz,h3]
  omega
 ·have hcl:cur.toList.length=cap * 7:=by rw [Array.length_toList,h3]
  rw [hc',List.append_assoc,List.take_append_of_le_length (by rw [List.length_take,hcl]; omega),List.take_take,Nat.min_self]
  have e1:cur.toList.take (i * 7)=(cur.toList.take (n * 7)).take (i * 7):=by rw [List.take_take,Nat.min_eq_left (by omega)]
  rw [e1,h4,← hf]
  have e0:ofCells d=ofCells (d.take i)++ofCells (d.drop i):=by rw [← ofCells_append,List.take_append_drop]
  rw [e0,List.take_left' (by rw [ofCells_len,List.length_take]; omega)]
theorem owns_there' {w:World} {base g n cap o:Nat} {e:TypeId} {xs:List Value} (h:w.ownsRow base e 7 (.slice (some ⟨g,0,none⟩) n cap) n xs) (ho:o<n * 7):(w.cell? ⟨g,o,none⟩).isSome=true∧w.frozen? ⟨g,o,none⟩=false:=by
 obtain ⟨_,hx⟩:=h
 rcases hx with ⟨hx,_⟩ | ⟨g',cap',cur,hv,hbase,hb,h1,h2,h3,h4⟩
 ·cases hx
 cases hv
 refine ⟨?_,Blk.frozen (show Blk w g cur e from hb) o⟩
 rw [Blk.cell (show Blk w g cur e from hb),Array.getElem?_eq_getElem (by rw [h3]; omega)]
 rfl
theorem owns_there {w:World} {base g n cap k:Nat} {e:TypeId} {xs:List Value} (h:w.ownsRow base e 7 (.slice (some ⟨g,0,none⟩) n cap) n xs) (hk:k<n):w.there g (k * 7) 7:=fun j hj=>owns_there' h (by omega)
theorem run_slice_from {P:Program} (w:World) (t e:TypeId) (ht:P.underlying t=some (.slice e)) (hs:(sizeOf e).run P w=.ok 7 w) (g n cap j:Nat) (h:j<n) (h2:n≤cap) :
  (Instr.sliceAt t (.slice (some ⟨g,0,none⟩) n cap) (some (.int .i64 (j:Int))) none none).run P w=.ok (.slice (some ⟨g,j * 7,none⟩) (n - j) (cap - j)) w:=by
 have:=run_slice_tail (P:=P) w t e ht hs g n cap j (by omega) h2 (j:Int) rfl
 unfold tailAt at this
 rw [if_neg (by omega)] at this
 exact this
def keptN (l:List Of) (s b:Int) (j:Nat):Nat:=((l.take j).filter (ofPair s b)).length
theorem keptN_succ (l:List Of) (s b:Int) {j:Nat} (h:j<l.length):keptN l s b (j + 1)=keptN l s b j + (if ofPair s b l[j]=true then 1 else 0):=by
 unfold keptN
 rw [List.take_succ_eq_append_getElem h,List.filter_append,List.length_append]
 congr 1
 by_cases q:ofPair s b l[j]=true <;> simp [List.filter_cons,q]
theorem keptN_le (l:List Of) (s b:Int) (j:Nat):keptN l s b j≤j:=by
 unfold keptN
 exact Nat.le_trans (List.length_filter_le _ _) (List.length_take_le _ _)
structure DelInv (l d:List Of) (s b:Int) (j:Nat):Prop where
 len:d.length=l.length
 lt:keptN l s b j<j
 low:d.take (keptN l s b j)=(l.take j).filter (ofPair s b)
 high:d.drop j=l.drop j
theorem DelInv.start {l:List Of} {s b:Int} (h:posBk l s b<l.length):DelInv l l s b (posBk l s b + 1)∧keptN l s b (posBk l s b + 1)=posBk l s b:=by
 have hall:(l.take (posBk l s b)).filter (ofPair s b)=l.take (posBk l s b):=by
  rw [List.filter_eq_self]
  intro x hx
  obtain ⟨j,hj,rfl⟩:=List.mem_take_iff_getElem.1 hx
  exact posB_take (by omega)
 have hf:(l.take (posBk l s b + 1)).filter (ofPair s b)=l.take (posBk l s b):=by
  rw [List.take_succ_eq_append_getElem h,List.filter_append,hall]
  simp [List.filter_cons,posB_hit h]
 have hk:keptN l s b (posBk l s b + 1)=posBk l s b:=by
  unfold keptN; rw [hf,List.length_take]; omega
 exact ⟨⟨rfl,by omega,by rw [hk,hf],rfl⟩,hk⟩
theorem DelInv.get {l d:List Of} {s b:Int} {j:Nat} (h:DelInv l d s b j) (hj:j<l.length):d[j]'(by rw [h.len]; exact hj)=l[j]:=by
 have h1:d.drop j=l.drop j:=h.high
 have h2:(d.drop j)[0]? = (l.drop j)[0]? := by rw [h1]
 rw [List.getElem?_drop,List.getElem?_drop,Nat.add_zero,List.getElem?_eq_getElem (by rw [h.len]; exact hj),List.getElem?_eq_getElem hj] at h2
 exact Option.some.inj h2
theorem DelInv.skip {l d:List Of} {s b:Int} {j:Nat} (h:DelInv l d s b j) (hj:j<l.length) (hq:ofPair s b l[j]=false):DelInv l d s b (j + 1)∧keptN l s b (j + 1)=keptN l s b j:=by
 have hk:keptN l s b (j + 1)=keptN l s b j:=by rw [keptN_succ l s b hj,hq]; simp
 refine ⟨⟨h.len,by have:=h.lt; omega,?_,?_⟩,hk⟩
 ·rw [hk,h.low,List.take_succ_eq_append_getElem hj,List.filter_append]; simp [List.filter_cons,hq]
 ·rw [← List.drop_drop,h.high,List.drop_drop]
theorem DelInv.keep {l d:List Of} {s b:Int} {j:Nat} (h:DelInv l d s b j) (hj:j<l.length) (hq:ofPair s b l[j]=true):DelInv l (d.set (keptN l s b j) l[j]) s b (j + 1)∧keptN l s b (j + 1)=keptN l s b j + 1:=by
 have hk:keptN l s b (j + 1)=keptN l s b j + 1:=by rw [keptN_succ l s b hj,hq]; simp
 have hlt:=h.lt
 refine ⟨⟨by rw [List.length_set]; exact h.len,by omega,?_,?_⟩,hk⟩
 ·have hl:keptN l s b j<d.length:=by rw [h.len]; omega
  rw [hk,List.take_succ_eq_append_getElem (by rw [List.length_set]; exact hl),List.take_set_of_le (Nat.le_refl _),h.low,List.getElem_set_self,List.take_succ_eq_append_getElem hj,List.filter_append]
  simp [List.filter_cons,hq]
 ·rw [List.drop_set_of_lt (by omega),← List.drop_drop,h.high,List.drop_drop]
def DelAt (w:World) (base g cap:Nat) (l:List Of) (s b:Int) (s5 s6:Value) (wr:World):Prop :=
 ∃ (j:Nat) (d:List Of),j≤l.length∧s5=.int .i64 (keptN l s b j:Nat)∧s6=.int .i64 j∧DelInv l d s b j∧wr.ownsRow base 197 7 (.slice (some ⟨g,0,none⟩) l.length cap) l.length (ofCells d)∧Keep (·=g) w wr
set_option maxHeartbeats 8000000 in
set_option maxRecDepth 100000 in
theorem pdelf_any {w:World} {base c1 c2:Nat} {l:List Of} {s b:Int} {v:Value} (h:w.ownsRow base 197 7 v l.length (ofCells l)) (hl:l.length≤1000) (h1:Blk w c1 #[.int .u8 s] 69) (h2:Blk w c2 #[.int .u8 b] 69) :
  Calls Tryz.prog 293 #[v,.func (.func 294) #[] #[.pointer (some ⟨c1,0,none⟩),.pointer (some ⟨c2,0,none⟩)]] w fun e w'=>∃ v',e=.returned v'∧w'.ownsRow base 197 7 v' (l.filter (ofPair s b)).length (ofCells (l.filter (ofPair s b)))∧Keep (fun k=>v.ownBlock=some k) w w'∧v'.ownBlock=v.ownBlock:=by
 have CI:=Lib.hid (pidxB_any h h1 h2)
 by_cases hp:posBk l s b<l.length
 ·rw [show idxB l s b=.int .i64 (posBk l s b:Nat) by unfold idxB; rw [if_pos hp]] at CI
  obtain ⟨D0,kp⟩:=DelInv.start hp
  obtain ⟨ao,cap,rfl,hc1,hc2,hc3,hc4⟩:=owns_open h
  obtain ⟨g,rfl,hb1,hb2,_,_⟩:=hc4 (by omega)
  have hne1:c1≠g:=fun e=>(owns_ne h h1 (by decide)) g rfl e.symm
  have hne2:c2≠g:=fun e=>(owns_ne h h2 (by decide)) g rfl e.symm
  have HO:=Lib.hid h
  have K1:=Lib.hid h1
  have K2:=Lib.hid h2
  have HD0:=Lib.hid D0
  have HKP:=Lib.hid kp
  have HN:=Lib.hid (And.intro hne1 hne2)
  have e1:((posBk l s b:Int) == -1)=false:=by simp <;> omega
  unfold maxLen at hc2
  generalize hpk:posBk l s b=k0 at *
  have HPK:=Lib.hid hpk
  clear hc3 hc4 h h1 h2 D0 kp hne1 hne2 hpk
  go_enter Tryz.func293,Tryz.ntmps293
  go_wp2_with fail
  refine CI.out.mono ?_
  rintro e w1 ⟨rfl,b1⟩
  have HO1:=Lib.hid (owns_below HO.out b1)
  have K11:=Lib.hid (K1.out.below b1 K1.out.lt)
  have K21:=Lib.hid (K2.out.below b1 K2.out.lt)
  have HB1:=Lib.hid b1
  clear b1 CI HO K1 K2
  go_wp2_with fail
  go_loopw [5,6] (DelAt w1 base g cap l s b) (fun _ j _=>l.length - (intOf j).toNat)
  case atStart=>exact ⟨k0 + 1,l,by omega,by rw [HKP.out],by go_num,HD0.out,HO1.out,Keep.refl _ _⟩
  case round =>
   obtain ⟨j,d,hj,rfl,rfl,hD,hown,hk⟩:=hrel
   have hgl:g<wr.heap.size:=(owns_type hown rfl).2.1
   by_cases hjl:j<l.length
   ·have hdl:j<d.length:=by rw [hD.len]; exact hjl
    have hget:=hD.get hjl
    obtain ⟨ao',cap',hv,_,_,_,hr⟩:=owns_open hown
    cases hv
    obtain ⟨g',hg',_,_,hcell,hfr⟩:=hr (by omega)
    cases hg'
    obtain ⟨e0,e1,e2,e3,e4,e5,e6⟩:=of_cells (w:=wr) (ls:=d) (fun t ht=>hcell t (by rw [← hD.len]; exact ht)) hdl
    rw [hget] at e0 e1 e2 e3 e4 e5 e6
    have HDv:=Lib.hid hD
    have HW:=Lib.hid hown
    have HK:=Lib.hid hk
    have HF:=Lib.hid hfr
    have K12:=Lib.hid (K11.out.keep hk HN.out.1)
    have K22:=Lib.hid (K21.out.keep hk HN.out.2)
    have hkl:=keptN_le l s b j
    have DS:=Lib.hid (fun hq=>hD.skip hjl hq)
    have DK:=Lib.hid (fun hq=>hD.keep hjl hq)
    clear hget hr hcell hfr hown hk hD hdl
    generalize l[j]=x at *
    generalize hkn:keptN l s b j=m at *
    clear hkn
    have bw:=(Below.refl wr.heap.size wr).alloc (Nat.le_refl _) (.cells #[.int .u64 x.se,.int .u8 x.ow,.int .u8 x.sl,.int .u8 x.bu,.int .i64 x.lf,.int .i64 x.nu,.int .i64 x.de] 197)
    have CB:=Lib.hid (best1_any x (K12.out.below bw K12.out.lt) (K22.out.below bw K22.out.lt))
    have KX:=Lib.hid (Blk.new wr #[.int .u64 x.se,.int .u8 x.ow,.int .u8 x.sl,.int .u8 x.bu,.int .i64 x.lf,.int .i64 x.nu,.int .i64 x.de] 197)
    have HBW:=Lib.hid bw
    clear bw
    cases hq:ofPair s b x with
    | false =>
     have E:=Lib.hid (DS.out hq)
     rw [hq] at CB
     clear DS DK hq
     go_wp2_with fail
     refine CB.out.mono ?_
     rintro e w2 ⟨rfl,b2⟩
     have HB2:=Lib.hid (HBW.out.trans (b2.mono HBW.out.size))
     clear b2
     go_wp2_with fail
     go_roundw
     case rel=>exact ⟨j + 1,d,by omega,by rw [E.out.2],by go_num,E.out.1,owns_below HW.out HB2.out,HK.out.trans (Keep.of_below HB2.out)⟩
     case measure=>simp [intOf]; omega
    | true =>
     have E:=Lib.hid (DK.out hq)
     rw [hq] at CB
     clear DS DK hq
     go_wp2_with fail
     refine CB.out.mono ?_
     rintro e w2 ⟨rfl,b2⟩
     have HB2:=Lib.hid (HBW.out.trans (b2.mono HBW.out.size))
     have KX2:=KX.out.below b2 KX.out.lt
     have d0:=KX2.cell 0; have d1:=KX2.cell 1; have d2:=KX2.cell 2; have d3:=KX2.cell 3; have d4:=KX2.cell 4; have d5:=KX2.cell 5; have d6:=KX2.cell 6
     simp at d0 d1 d2 d3 d4 d5 d6
     have hxl:=KX2.lt
     have HW2:=Lib.hid (owns_below HW.out HB2.out)
     have HT:=Lib.hid (owns_there HW2.out (k:=m) (by omega))
     obtain ⟨W3,hW3⟩:∃ W3,W3=w2.setCells g (m * 7) [.int .u64 x.se,.int .u8 x.ow,.int .u8 x.sl,.int .u8 x.bu,.int .i64 x.lf,.int .i64 x.nu,.int .i64 x.de]:=⟨_,rfl⟩
     have HW3:=Lib.hid hW3
     have HO3:=Lib.hid (show W3.ownsRow base 197 7 (.slice (some ⟨g,0,none⟩) l.length cap) l.length (ofCells (d.set m x)) by rw [hW3]; exact owns_store HW2.out HDv.out.len (by omega) x)
     have HK3:=Lib.hid (show Keep (·=g) w1 W3 by rw [hW3]; exact Keep.setCells _ _ (HK.out.trans (Keep.of_below HB2.out)) (.inl rfl))
     clear b2 KX2 hW3
     go_wp2_with (refine wpList_store_mid rfl 197 (.tmp 33) (.tmp 32) rfl g (m * 7) #[.int .u64 x.se,.int .u8 x.ow,.int .u8 x.sl,.int .u8 x.bu,.int .i64 x.lf,.int .i64 x.nu,.int .i64 x.de] rfl rfl HT.out (by kernel_rfl) (by simp [Value.oneCell']) ?_; rw [← HW3.out])
     go_roundw
     case rel=>exact ⟨j + 1,d.set m x,by omega,by rw [E.out.2]; go_num,by go_num,E.out.1,HO3.out,HK3.out⟩
     case measure=>simp [intOf]; omega
   ·have hje:j=l.length:=by omega
    subst hje
    have hkl:=hD.lt
    have hlo:=hD.low
    have hdn:=hD.len
    rw [List.take_of_length_le (Nat.le_refl _)] at hlo
    have hfl:(l.filter (ofPair s b)).length=keptN l s b l.length:=by unfold keptN; rw [List.take_of_length_le (Nat.le_refl _)]
    have HK:=Lib.hid hk
    have HC:=Lib.hid (owns_cut hown hdn (by omega) hlo hfl (Builtin.zeroCells zOff.cells (l.length - keptN l s b l.length)).toList (by rw [zero_len]))
    have hcl:∀ ty,(Builtin.clear_ #[156] ty #[.slice (some ⟨g,keptN l s b l.length * 7,none⟩) (l.length - keptN l s b l.length) (cap - keptN l s b l.length)]).run Tryz.prog wr=.ok (.tuple #[]) (wr.setCells g (keptN l s b l.length * 7) (Builtin.zeroCells zOff.cells (l.length - keptN l s b l.length)).toList):=fun ty =>
     run_clear_cells wr 156 197 ty zOff Tryz.underlying156 (Tryz.zeroValue197) g (keptN l s b l.length * 7) _ _ (by omega) (zero_one _)
      (fun t ht=>(owns_there' hown (by rw [zero_len] at ht; omega)).1) (fun t ht=>(owns_there' hown (by rw [zero_len] at ht; omega)).2)
    have hr:=run_slice_from (P:=Tryz.prog) wr 156 197 Tryz.underlying156 (Tryz.sizeOf197 _) g l.length cap (keptN l s b l.length) hkl (by omega)
    obtain ⟨W3,hW3⟩:∃ W3,W3=wr.setCells g (keptN l s b l.length * 7) (Builtin.zeroCells zOff.cells (l.length - keptN l s b l.length)).toList:=⟨_,rfl⟩
    have HK3:=Lib.hid (show Keep (·=g) w1 W3 by rw [hW3]; exact Keep.setCells _ _ HK.out (.inl rfl))
    simp only [← hW3] at hcl HC
    rw [← hfl] at HC hcl hr hkl ⊢
    obtain ⟨m,hm⟩:∃ m,(l.filter (ofPair s b)).length=m:=⟨_,rfl⟩
    rw [hm] at HC hcl hr hkl ⊢
    have HM:=Lib.hid hm
    clear hm
    have hic:m≤cap:=by omega
    clear hW3 hfl hlo hdn hown hk hD
    go_wp2_with fail
    refine bodyPost_ret (v:=.slice (some ⟨g,0,none⟩) m cap) (by simp [results,Tryz.results293,go_sem]) rfl ?_
    exact ⟨_,rfl,by rw [HM.out]; exact HC.out,((Keep.of_below HB1.out).trans HK3.out).mono (fun k _ (hk:k=g)=>by rw [hk]; rfl),rfl⟩
 ·rw [show idxB l s b=.int .i64 (-1) by unfold idxB; rw [if_neg hp]] at CI
  have hfe:l.filter (ofPair s b)=l:=by
   rw [List.filter_eq_self]
   intro x hx
   obtain ⟨j,hj,rfl⟩:=List.mem_iff_getElem.1 hx
   exact posB_take (by have:=posB_le l s b; omega)
  rw [hfe]
  obtain ⟨ao,cap,rfl,_⟩:=owns_open h
  have HO:=Lib.hid h
  clear h h1 h2 hp hfe
  go_enter Tryz.func293,Tryz.ntmps293
  go_wp2_with fail
  refine CI.out.mono ?_
  rintro e w1 ⟨rfl,b1⟩
  have HB1:=Lib.hid b1
  clear b1 CI
  go_wp2_with fail
  refine bodyPost_ret (v:=.slice ao l.length cap) (by simp [results,Tryz.results293,go_sem]) rfl ?_
  exact ⟨_,rfl,owns_below HO.out HB1.out,Keep.of_below HB1.out,rfl⟩
end Go.Proofs.YtngnfdnfpiiclaaGreat
namespace Go.Proofs.YtngnfdnfpiiclaaGreat
open Go.RowKit
set_option maxHeartbeats 4000000 in
theorem pbest_of {w:World} {base:Nat} {pv v:Value} {l:List Of} {N:Int} {s b:Int} (hc:∀ w',Below w.heap.size w w'→Calls Tryz.prog 104 #[pv] w' fun e w''=>e=.returned v∧w'=w'') (h:w.ownsRow base 197 7 v l.length (ofCells l)) (hI:BInv l N) :
  Calls Tryz.prog 270 #[pv,.int .u8 s,.int .u8 b] w (ListPost w 75 7 (bestO l s b).length (ofCells (bestO l s b))):=by
 have hlen:=hI.len
 have hbw:=((Below.refl w.heap.size w).alloc (Nat.le_refl _) (.cells #[.int .u8 s] 69)).alloc (by simp) (.cells #[.int .u8 b] 69)
 have HB:=Lib.hid hbw
 have K1:=Lib.hid ((Blk.new w #[.int .u8 s] 69).alloc (.cells #[.int .u8 b] 69))
 have K2:=Lib.hid (Blk.newAt (w.alloc (.cells #[.int .u8 s] 69)) #[.int .u8 b] 69 (g:=w.heap.size + 1) (by simp))
 have C1:=Lib.hid (hc _ hbw)
 have C2:=Lib.hid (cloneO_any (owns_below h hbw) (by omega))
 obtain ⟨bp,bs⟩:=bestO_is hI.may hI.rise s b
 have hgood:∀ x ∈ l.filter (ofPair s b),x.may∧0≤x.se∧x.se≤18446744073709551615:=fun x hx=>by
  have hx:=(List.mem_filter.1 hx).1
  have:=hI.bd x hx
  have:=hI.n2
  exact ⟨hI.may x hx,by omega,by omega⟩
 have hne:(l.filter (ofPair s b)).Pairwise fun x y=>x.se≠y.se:=(hI.rise.filter _).imp fun h=>by omega
 have hfl:(l.filter (ofPair s b)).length≤1000:=Nat.le_trans (List.length_filter_le _ _) (by omega)
 have HS:=Lib.hid (fun (w:World) (base:Nat) (v:Value) (h:w.ownsRow base 197 7 v (l.filter (ofPair s b)).length (ofCells (l.filter (ofPair s b))))=>sortO_any hgood bp bs hne hfl h)
 have HM:=Lib.hid (show (bestO l s b).length≤1000 by rw [bp.length_eq]; exact hfl)
 clear hbw hc h hI bp bs hgood hne hfl
 go_enter Tryz.func270,Tryz.ntmps270
 go_wp2_with fail
 generalize hWW:(w.alloc (.cells #[.int .u8 s] 69)).alloc (.cells #[.int .u8 b] 69)=W at *
 have HWs:=Lib.hid (show W.heap.size=w.heap.size + 2 by rw [← hWW]; simp)
 clear hWW
 refine C1.out.mono ?_
 rintro e W ⟨rfl,rfl⟩
 go_wp2_with fail
 refine C2.out.mono ?_
 rintro e w1 ⟨v1,rfl,o1,b1⟩
 have CD:=Lib.hid (pdelf_any o1 (by omega) (K1.out.below b1 K1.out.lt) (K2.out.below b1 K2.out.lt))
 have HB1:=Lib.hid (HB.out.trans (b1.mono HB.out.size))
 have HO1:=Lib.hid o1
 have HW1:=Lib.hid b1.size
 clear o1 b1 C2 C1
 go_wp2_with fail
 refine CD.out.mono ?_
 rintro e w2 ⟨v2,rfl,o2,k2,e2⟩
 have HK2:=Lib.hid k2
 have CS:=Lib.hid (HS.out _ _ _ o2)
 have HE:=Lib.hid e2
 have hv2:∃ ao c,v2=.slice ao (l.filter (ofPair s b)).length c:=by obtain ⟨ao,c,hv,_⟩:=owns_open o2; exact ⟨ao,c,hv⟩
 have HB2:=Lib.hid (HB1.out.trans (k2.below HB1.out.size (fun k hk e=>by have:=(owns_type HO1.out e).1; have:=HWs.out; omega)))
 have HO2:=Lib.hid o2
 clear o2 k2 e2 CD
 obtain ⟨ao,c,rfl⟩:=hv2
 go_wp2_with fail
 refine CS.out.mono ?_
 rintro e w3 ⟨rfl,o3,k3⟩
 have CT:=Lib.hid (told_any o3 HM.out)
 have HB3:=Lib.hid (HB2.out.trans (k3.below HB2.out.size (fun k hk e=>by have:=(owns_type HO2.out e).1; have:=HWs.out; omega)))
 clear o3 k3 CS
 go_wp2_with fail
 refine CT.out.mono ?_
 rintro e w4 ⟨v',rfl,h1,b4⟩
 have H1:=Lib.hid h1
 have HB4:=Lib.hid (HB3.out.trans (b4.mono HB3.out.size))
 clear h1 b4 CT
 go_wp2_with fail
 refine bodyPost_ret (v:=v') (by simp [results,Tryz.results270,go_sem]) rfl ?_
 exact ⟨v',rfl,H1.out.base HB3.out.size,HB4.out⟩
theorem pbest_any {w:World} {base g:Nat} {l:List Of} {N:Int} {vl:Value} (h:PB w base g l N vl) (hI:BInv l N) (s b:Int) :
  Calls Tryz.prog 270 #[.pointer (some ⟨g,0,none⟩),.int .u8 s,.int .u8 b] w (ListPost w 75 7 (bestO l s b).length (ofCells (bestO l s b))):=by
 obtain ⟨ao,cap,rfl,_⟩:=owns_open h.row
 exact pbest_of (fun w' k=>ball_any (h.below k).blk) h.row hI
end Go.Proofs.YtngnfdnfpiiclaaGreat
namespace Go.Proofs.YtngnfdnfpiiclaaGreat
open Go.RowKit
attribute [local go_sem] Oper.semAt_some
theorem takeWhile_more {p:Of→Bool}:∀ {l:List Of} {k:Nat} (hk:k<l.length),k≤(l.takeWhile p).length→(p l[k]=true→k<(l.takeWhile p).length∧(l.takeWhile p)[k]? = some l[k])∧(p l[k]=false→(l.takeWhile p).length≤k)
 | [],k,hk,_=>absurd hk (by simp)
 | z::l,0,hk,_=>by
  constructor
  ·intro h
   have h':p z=true:=h
   rw [List.takeWhile_cons,if_pos h']
   simp
  ·intro h
   have h':p z=false:=h
   rw [List.takeWhile_cons,if_neg (by simp [h'])]
   simp
 | z::l,k + 1,hk,h1=>by
  rw [List.takeWhile_cons] at h1 ⊢
  by_cases h:p z=true
  ·rw [if_pos h] at h1 ⊢
   have hk':k<l.length:=by simpa using hk
   obtain ⟨a,b⟩:=takeWhile_more (p:=p) hk' (by simpa using h1)
   exact ⟨fun q=>by obtain ⟨a1,a2⟩:=a q; exact ⟨by simpa using a1,by simpa using a2⟩,fun q=>by have:=b q; simpa using this⟩
  ·rw [if_neg h] at h1
   simp at h1
theorem takeWhile_le (p:Of→Bool):∀ l:List Of,(l.takeWhile p).length≤l.length
 | []=>by simp
 | z::l=>by
  rw [List.takeWhile_cons]
  have:=takeWhile_le p l
  split
  ·simp only [List.length_cons]; omega
  ·simp
theorem against_any (x:Of) (b:Option Addr) (w:World) :
  Calls Tryz.prog 278 #[.agg #[.int .u64 x.se,.int .u8 x.ow,.int .u8 x.sl,.int .u8 x.bu,.int .i64 x.lf,.int .i64 x.nu,.int .i64 x.de],.pointer b] w fun e w'=>e=.returned (.func (.func 304) #[] #[(.pointer (some ⟨w.heap.size,0,none⟩)),(.pointer (some ⟨w.heap.size + 1,0,none⟩))])∧w'=(w.alloc (.cells #[.int .u64 x.se,.int .u8 x.ow,.int .u8 x.sl,.int .u8 x.bu,.int .i64 x.lf,.int .i64 x.nu,.int .i64 x.de] 294)).alloc (.cells #[.pointer b] 78):=by
 go_enter Tryz.func278,Tryz.ntmps278
 go_wp2
 go_ret
 exact ⟨rfl,rfl⟩
theorem Rowed.old {w w':World} {B l base size n:Nat} {e:TypeId} {v:Value} {xs:List Value} (h:Rowed w base e size v n xs) (k:OldFrom B l w w') (hB:B≤base) (hl:l<base):Rowed w' base e size v n xs:=by
 obtain ⟨h1,h2 | ⟨g,cs,hv,hg,hb,h3,h4,h5⟩⟩:=h
 ·exact ⟨h1,.inl h2⟩
 ·exact ⟨h1,.inr ⟨g,cs,hv,hg,Blk.old hb k (by omega) (by omega),h3,h4,h5⟩⟩
def AgIt (J:Nat→World→Prop) (W0:World) (g:Nat) (nu de:Int) (os:List Of) (m:Nat) (v i:Value) (wr:World):Prop :=
 ∃ k:Nat,i=.int .i64 k∧k≤m∧J k wr∧Blk wr g #[.int .i64 de,.int .i64 nu] 73∧Rowed wr W0.heap.size 75 7 v os.length (ofCells os)∧W0.heap.size≤wr.heap.size
set_option maxHeartbeats 16000000 in
set_option maxRecDepth 100000 in
theorem against_seq {I:Nat→World→Prop} {b1 b2 base gb:Nat} {l:List Of} {N:Int} {vb:Value} (x:Of) (hx:x.Fits) (hm:mayB x.nu x.de=true) (hJ:BInv l N)
  (hI:∀ k W,I k W→PB W base gb l N vb∧Blk W b1 #[.int .u64 x.se,.int .u8 x.ow,.int .u8 x.sl,.int .u8 x.bu,.int .i64 x.lf,.int .i64 x.nu,.int .i64 x.de] 294∧Blk W b2 #[(.pointer (some ⟨gb,0,none⟩))] 78) :
  SeqK Tryz.prog 304 #[(.pointer (some ⟨b1,0,none⟩)),(.pointer (some ⟨b2,0,none⟩))] 0 (fun k=>(agO l x.sl x.bu x.nu x.de).length≤k) (fun k vs _=>∃ o:Of,(agO l x.sl x.bu x.nu x.de)[k]? = some o∧vs=#[.agg #[.int .u64 o.se,.int .u8 o.ow,.int .u8 o.sl,.int .u8 o.bu,.int .i64 o.lf,.int .i64 o.nu,.int .i64 o.de]]) (fun k k'=>k'=k + 1) I:=by
 intro n lb B J Jx hgrow hJI hY W0 h0 hB hlb
 obtain ⟨hP,k1,k2⟩:=hI 0 W0 (hJI 0 W0 h0)
 have GR:=Lib.hid hgrow
 have JI:=Lib.hid hJI
 have HY:=Lib.hid hY
 have HI:=Lib.hid hI
 have J0:=Lib.hid h0
 have HP:=Lib.hid hP
 have HB:=Lib.hid (And.intro hB hlb)
 have CI:=Lib.hid (fun w=>inverse_any x.nu x.de w hx.nu hx.de)
 rw [show alN x.nu x.de=x.nu by unfold alN; rw [if_pos hm],show alD x.nu x.de=x.de by unfold alD; rw [if_pos hm]] at CI
 have CC:=Lib.hid (fun (o:Of) w (ho:o ∈ bestO l x.bu x.sl)=>compare_any o.nu o.de x.de x.nu w (by have:=may_bd (hJ.may o (best_mem hJ ho).1).2.2.2.2.2; unfold In64; omega) (by have:=may_bd (hJ.may o (best_mem hJ ho).1).2.2.2.2.2; unfold In64; omega) hx.de hx.nu)
 have CB:=Lib.hid (fun w' (h:PB w' base gb l N vb)=>pbest_any h hJ x.bu x.sl)
 obtain ⟨m,hmm⟩:∃ m,(agO l x.sl x.bu x.nu x.de).length=m:=⟨_,rfl⟩
 have TW:=Lib.hid (fun (k:Nat) (hk:k<(bestO l x.bu x.sl).length) (h:k≤m)=>takeWhile_more (p:=fun o:Of=>decide (cmpR o.nu o.de x.de x.nu≤0)) hk (by rw [← hmm] at h; exact h))
 have TL:=Lib.hid (show m≤(bestO l x.bu x.sl).length by rw [← hmm]; exact takeWhile_le _ _)
 have AG:=Lib.hid (show (bestO l x.bu x.sl).takeWhile (fun o:Of=>decide (cmpR o.nu o.de x.de x.nu≤0))=agO l x.sl x.bu x.nu x.de from rfl)
 rw [AG.out,hmm] at TW
 rw [hmm]
 obtain ⟨ag,hag⟩:∃ ag,agO l x.sl x.bu x.nu x.de=ag:=⟨_,rfl⟩
 rw [hag] at TW HY
 generalize hos:bestO l x.bu x.sl=os at *
 have d2:=k1.cell 2; have d3:=k1.cell 3; have d5:=k1.cell 5; have d6:=k1.cell 6
 have dl:=k1.lt
 have e0:=k2.cell 0
 have el:=k2.lt
 simp at d2 d3 d5 d6 e0
 have K1:=Lib.hid k1
 have K2:=Lib.hid k2
 clear hgrow hJI hY hI h0 hP hB hlb hx hm hJ k1 k2 hmm AG hag hos
 refine callsIn_of_wp Tryz.func304 rfl trivial ?_ rfl
 simp only [Tryz.ntmps304,List.size_toArray,List.length_cons,List.length_nil,Nat.reduceAdd,Nat.reduceSub,Array.replicate_succ,Array.replicate_zero,List.push_toArray,List.append_toArray,List.nil_append,List.cons_append]
 gi_wp2_with fail
 refine ⟨trivial,(fun hh=>(by cases hh)),(callsIn_wide.2 (CI.out _)).mono ?_⟩
 rintro e w1 ⟨rfl,hb1⟩
 have J1:=Lib.hid (GR.out 0 W0 w1 J0.out hb1)
 have bg:=(Below.refl w1.heap.size w1).alloc (Nat.le_refl _) (.cells #[.int .i64 x.de,.int .i64 x.nu] 73)
 have KG:=Lib.hid (Blk.new w1 #[.int .i64 x.de,.int .i64 x.nu] 73)
 have J2:=Lib.hid (GR.out 0 w1 _ J1.out bg)
 have bw:=hb1.trans (bg.mono hb1.size)
 have SZ:=Lib.hid (show W0.heap.size≤w1.heap.size∧W0.heap.size≤(w1.alloc (.cells #[.int .i64 x.de,.int .i64 x.nu] 73)).heap.size from ⟨hb1.size,bw.size⟩)
 have K1b:=Lib.hid (K1.out.below bw K1.out.lt)
 have K2b:=Lib.hid (K2.out.below bw K2.out.lt)
 have CB2:=Lib.hid (CB.out _ (HP.out.below bw))
 clear hb1 bg bw d2 d3 d5 d6 dl e0 el J0 J1 K1 K2 CB HP CI
 have d2:=K1b.out.cell 2; have d3:=K1b.out.cell 3
 have dl:=K1b.out.lt
 have e0:=K2b.out.cell 0
 have el:=K2b.out.lt
 simp at d2 d3 e0
 gi_wp2_with fail
 generalize w1.alloc (.cells #[.int .i64 x.de,.int .i64 x.nu] 73)=w2 at *
 refine ⟨trivial,(fun hh=>(by cases hh)),(callsIn_wide.2 CB2.out).mono ?_⟩
 rintro e w3 ⟨v,rfl,hv,hb3⟩
 have J3:=Lib.hid (GR.out 0 w2 w3 J2.out hb3)
 have KG3:=Lib.hid (KG.out.below hb3 KG.out.lt)
 have RW:=Lib.hid (hv.base SZ.out.2)
 have SZ3:=Lib.hid (Nat.le_trans SZ.out.2 hb3.size)
 obtain ⟨ao,cap,rfl,hc1,hc2,_,_⟩:=hv.look
 unfold maxLen at hc2
 clear hv hb3 d2 d3 dl e0 el J2 KG K1b K2b CB2
 gi_wp2_with fail
 gi_loopw [6,17,19,20,21,22,23,24,25,26,27,28,29,30,31,32] (fun _ i _ _ _ _ _ _ _ _ _ _ _ _ _ _ wr=>AgIt J W0 w1.heap.size x.nu x.de os m (.slice ao os.length cap) i wr) (fun _ i _ _ _ _ _ _ _ _ _ _ _ _ _ _ _=>os.length - (intOf i).toNat)
 case atStart=>exact ⟨0,rfl,Nat.zero_le _,J3.out,KG3.out,RW.out,SZ3.out⟩
 case round =>
  obtain ⟨k,rfl,hkm,hj,hg,hr,hs⟩:=hrel
  have JR:=Lib.hid hj
  have KR:=Lib.hid hg
  have RR:=Lib.hid hr
  have HS:=Lib.hid hs
  have HKM:=Lib.hid hkm
  by_cases hkl:k<os.length
  ·have q0:decide ((k:Int)<(os.length:Int))=true:=by simpa using hkl
   have hki:(k:Int)<(os.length:Int):=by omega
   have hk0:(0:Int)≤(k:Int):=by omega
   obtain ⟨_,_,hvv,_,_,_,hcc⟩:=hr.look
   cases hvv
   obtain ⟨b,rfl,_,hb,hc,_⟩:=hcc (by omega)
   obtain ⟨e0,e1,e2,e3,e4,e5,e6⟩:=of_cells (w:=wr) hc hkl
   have T:=Lib.hid (TW.out k hkl hkm)
   have CC1:=Lib.hid (fun w=>CC.out os[k] w (List.getElem_mem hkl))
   have HKL:=Lib.hid hkl
   clear hj hg hr hs hkm hcc hc
   generalize os[k]=o at *
   clear hkl
   have bo:=(Below.refl wr.heap.size wr).alloc (Nat.le_refl _) (.cells #[.int .u64 o.se,.int .u8 o.ow,.int .u8 o.sl,.int .u8 o.bu,.int .i64 o.lf,.int .i64 o.nu,.int .i64 o.de] 75)
   have KO:=Lib.hid (Blk.new wr #[.int .u64 o.se,.int .u8 o.ow,.int .u8 o.sl,.int .u8 o.bu,.int .i64 o.lf,.int .i64 o.nu,.int .i64 o.de] 75)
   have JR4:=Lib.hid (GR.out k wr _ JR.out bo)
   have KR4:=Lib.hid (KR.out.below bo KR.out.lt)
   have RR4:=Lib.hid (RR.out.below bo)
   have HS4:=Lib.hid (Nat.le_trans HS.out bo.size)
   clear bo JR KR RR HS
   obtain ⟨c,hcv⟩:∃ c,cmpR o.nu o.de x.de x.nu=c:=⟨_,rfl⟩
   rw [hcv] at T CC1
   clear hcv
   have g0:=KR4.out.cell 0; have g1:=KR4.out.cell 1
   have gl:=KR4.out.lt
   have o0:=KO.out.cell 0; have o1:=KO.out.cell 1; have o2:=KO.out.cell 2; have o3:=KO.out.cell 3; have o4:=KO.out.cell 4; have o5:=KO.out.cell 5; have o6:=KO.out.cell 6
   have ol:=KO.out.lt
   simp at g0 g1 o0 o1 o2 o3 o4 o5 o6
   gi_wp2_with fail
   generalize wr.alloc (.cells #[.int .u64 o.se,.int .u8 o.ow,.int .u8 o.sl,.int .u8 o.bu,.int .i64 o.lf,.int .i64 o.nu,.int .i64 o.de] 75)=w4 at *
   refine ⟨trivial,(fun hh=>(by cases hh)),(callsIn_wide.2 (CC1.out _)).mono ?_⟩
   rintro e w5 ⟨rfl,hb5⟩
   have JR5:=Lib.hid (GR.out k w4 _ JR4.out hb5)
   have KR5:=Lib.hid (KR4.out.below hb5 KR4.out.lt)
   have RR5:=Lib.hid (RR4.out.below hb5)
   have HS5:=Lib.hid (Nat.le_trans HS4.out hb5.size)
   have KO5:=Lib.hid (KO.out.below hb5 KO.out.lt)
   clear hb5 g0 g1 gl o0 o1 o2 o3 o4 o5 o6 ol e0 e1 e2 e3 e4 e5 e6 JR4 KR4 RR4 HS4 KO CC1 hb
   have o0:=KO5.out.cell 0; have o1:=KO5.out.cell 1; have o2:=KO5.out.cell 2; have o3:=KO5.out.cell 3; have o4:=KO5.out.cell 4; have o5:=KO5.out.cell 5; have o6:=KO5.out.cell 6
   have ol:=KO5.out.lt
   simp at o0 o1 o2 o3 o4 o5 o6
   by_cases hle:c≤0
   ·have q1:decide (c > 0)=false:=by simp; omega
    have q2:decide (0<c)=false:=by simp; omega
    obtain ⟨t1,t2⟩:=T.out.1 (by simpa using hle)
    obtain ⟨fn,tmps,assign,body,hy,hR⟩:=HY.out (n - 1) k #[.agg #[.int .u64 o.se,.int .u8 o.ow,.int .u8 o.sl,.int .u8 o.bu,.int .i64 o.lf,.int .i64 o.nu,.int .i64 o.de]] w5 JR5.out ⟨o,t2,rfl⟩
    have RY:=Lib.hid hR
    have HT1:=Lib.hid t1
    clear hle t1 t2 hR T
    gi_wp2_with fail
    refine ⟨(fun hh=>(by cases hh)),RY.out.mono ?_⟩
    rintro e W6 ⟨hof,(⟨rfl,k',rfl,hj⟩ | ⟨rfl,hjx⟩)⟩
    ·have JN:=Lib.hid hj
     have KN:=Lib.hid (Blk.old KR5.out hof (by have:=HB.out; have:=SZ.out; omega) (by have:=HB.out; have:=SZ.out; omega))
     have RN:=Lib.hid (RR5.out.old hof (by have:=HB.out; omega) (by have:=HB.out; omega))
     have HN:=Lib.hid (Nat.le_trans HS5.out hof.size)
     clear hj hof RY o0 o1 o2 o3 o4 o5 o6 ol hy
     gi_wp2_with fail
     go_roundw
     case rel=>exact ⟨k + 1,by go_num,HT1.out,JN.out,KN.out,RN.out,HN.out⟩
     case measure=>simp [intOf]; have:=HKL.out; omega
    ·have HX:=Lib.hid hjx
     clear hjx hof RY o0 o1 o2 o3 o4 o5 o6 ol hy
     gi_wp2_with fail
     refine bodyPost_ret (results_none rfl _ _ _) rfl ?_
     exact ⟨⟨_,rfl⟩,.inr HX.out⟩
   ·have q1:decide (c > 0)=true:=by simp; omega
    have q2:decide (0<c)=true:=by simp; omega
    have HE:=Lib.hid (T.out.2 (by simpa using hle))
    clear hle T
    gi_wp2_with fail
    refine ⟨fun _ h=>(by cases h),?_⟩
    gi_wp2_with fail
    refine bodyPost_ret (results_none rfl _ _ _) rfl ?_
    exact ⟨⟨_,rfl⟩,.inl ⟨k,HE.out,JR5.out⟩⟩
  ·have q0:decide ((k:Int)<(os.length:Int))=false:=by simpa using hkl
   have q1:decide (k<os.length)=false:=by simpa using hkl
   have HE:=Lib.hid (show m≤k by have:=TL.out; omega)
   clear hj hg hr hs hkm hkl
   gi_wp2_with fail
   go_end0
   exact ⟨⟨_,rfl⟩,.inl ⟨k,HE.out,JR.out⟩⟩
end Go.Proofs.YtngnfdnfpiiclaaGreat
