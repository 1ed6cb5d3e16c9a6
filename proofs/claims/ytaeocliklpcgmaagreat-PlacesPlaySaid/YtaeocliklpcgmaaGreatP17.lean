/- Pieces of one proof. -/
import Derived.Test.YtaeocliklpcgmaaGreatP16
import Derived.Deep.RegionLaw
import Derived.Lib.SliceRun
set_option linter.all false
set_option maxHeartbeats 64000000
set_option maxRecDepth 100000
namespace Go.Proofs.YtaeocliklpcgmaaGreat
open Go.RowKit
def posO(l:List Of)(s:Int):Nat:=l.findIdx fun x=>x.se==s
theorem posO_le(l:List Of)(s:Int):posO l s≤l.length:=List.findIdx_le_length
theorem posO_at{l:List Of}{s:Int}{k:Nat}(hk:k<l.length)(hn:∀x∈l.take k,(x.se==s)=false)(hx:(l[k].se==s)=true):posO l s=k:=by
 unfold posO;rw[List.findIdx_eq hk];refine⟨hx,fun j hj=>?_⟩;exact hn _ (by rw[List.mem_take_iff_getElem];exact⟨j,by omega,rfl⟩)
theorem posO_none{l:List Of}{s:Int}(hn:∀x∈l,(x.se==s)=false):posO l s=l.length:=by
 unfold posO;rw[List.findIdx_eq_length];exact hn
theorem aI9{l:List Of}{s:Int}(h:posO l s<l.length):aBg l s=some l[posO l s]:=by
 unfold aBg posO at *;rw[List.find?_eq_some_iff_getElem];refine⟨List.findIdx_getElem (w:=h),_,h,rfl,fun j hj=>?_⟩;have:=List.not_of_lt_findIdx hj;simpa using this
theorem aHz{l:List Of}{s:Int}(h:¬posO l s<l.length):aBg l s=none:=by
 have h2:posO l s=l.length:=by have:=posO_le l s;omega
 unfold posO at h2;rw[List.findIdx_eq_length]at h2;exact aM2 h2
def idxV(l:List Of)(s:Int):Value:=if posO l s<l.length then .int .i64 (posO l s:Nat)else .int .i64 (-1)
def aD8(l:List Of)(s:Int):Value:=if posO l s<l.length then .tuple #[.int .i64 (posO l s:Nat),.int .i64 0]else .tuple #[.int .i64 0,.int .i64 7]
theorem stand1_any(x:Of){c:Nat}{s:Int}{w:World}(hK:Blk w c #[.int .u64 s] 39):
  Calls Tryz.prog 125 #[.agg #[.int .u64 x.se,.int .u8 x.ow,.int .u8 x.sl,.int .u8 x.bu,.int .i64 x.lf,.int .i64 x.nu,.int .i64 x.de],.pointer (some ⟨c,0,none⟩)] w (yR w (.bool (x.se==s))):=by
 have B0:=yH ((Below.refl w.heap.size w).alloc yL (.cells #[.int .u64 x.se,.int .u8 x.ow,.int .u8 x.sl,.int .u8 x.bu,.int .i64 x.lf,.int .i64 x.nu,.int .i64 x.de] 129));have k1:=hK.alloc (.cells #[.int .u64 x.se,.int .u8 x.ow,.int .u8 x.sl,.int .u8 x.bu,.int .i64 x.lf,.int .i64 x.nu,.int .i64 x.de] 129);have d0:=k1.cell 0;simp at d0;clear k1 hK;go_enter Tryz.func125,Tryz.ntmps125;go_wp2_with fail;go_ret;exact⟨rfl,B0.out⟩
def IdxAt(w:World)(l:List Of)(s:Int)(i:Value)(wr:World):Prop:=
 ∃k:Nat,k≤l.length∧i=.int .i64 k∧(∀x∈l.take k,(x.se==s)=false)∧Below w.heap.size w wr
theorem pidx_any{w:World}{base c:Nat}{l:List Of}{s:Int}{v:Value}(h:w.ownsRow base 129 7 v l.length (aAa l))(hK:Blk w c #[.int .u64 s] 39):
  Calls Tryz.prog 124 #[v,.func (.func 125) #[] #[.pointer (some ⟨c,0,none⟩)]] w (yR w (idxV l s)):=by
 obtain⟨ao,cap,rfl,hc1,hc2,hc3,hc4⟩:=aAd h;have HC:=yH hc4;have KC:=yH hK;unfold maxLen at hc2;clear hc3 hc4 h hK;go_enter Tryz.func124,Tryz.ntmps124;go_wp2_with fail
 go_loopw [5,8] (fun _ i wr=>IdxAt w l s i wr) (fun _ i _=>l.length - (intOf i).toNat)
 case atStart=>exact⟨0,Nat.zero_le _,rfl,by simp,yZ⟩
 obtain⟨k,hk,rfl,hn,hb⟩:=hrel
 by_cases hkl:k<l.length
 ·obtain⟨b,rfl,hb1,hb2,hcell,_⟩:=HC.out (by omega);obtain⟨e0,e1,e2,e3,e4,e5,e6⟩:=aCn (w:=wr) (fun j hj=>by rw[hb.cell (p:=⟨b,j,none⟩) hb2];exact hcell j hj) hkl;have FA:=yH (fun hx=>posO_at (s:=s) hkl hn hx);have TN:=yH (fun hx=>aEh (q:=fun x=>(x.se==s)=false) hkl hn hx);have C1:=yH (stand1_any l[k] (KC.out.below hb KC.out.lt));have HB:=yH hb;clear hcell hn hb;generalize l[k]=x at *
  by_cases hx:(x.se==s)=true
  ·have E:=yH (FA.out hx);rw[hx]at C1;clear FA TN hx;go_wp2_with fail;refine C1.out.mono ?_;rintro e w2 ⟨rfl,b2⟩;have HB2:=yT HB b2;clear b2;go_wp2_with fail;go_ret;refine⟨?_,HB2.out⟩;unfold idxV;rw[E.out,if_pos hkl];rfl
  have hx:(x.se==s)=false:=by simpa using hx
  have E:=yH (TN.out hx);rw[hx]at C1;clear FA TN hx;go_wp2_with fail;refine C1.out.mono ?_;rintro e w2 ⟨rfl,b2⟩;have HB2:=yT HB b2;clear b2;go_wp2_with fail;go_roundw
  case rel=>exact⟨k+1,by omega,by go_num,E.out,HB2.out⟩
  case measure=>simp[intOf];omega
 have E:Hid (posO l s=l.length):=yH (posO_none (by have:=hn;rwa [List.take_of_length_le (by omega)]at this));have HB:=yH hb;clear hn hb;go_wp2_with fail;go_ret;refine⟨?_,HB.out⟩;unfold idxV;rw[E.out,if_neg (by omega)];rfl
theorem aJa{w:World}{base g:Nat}{l:List Of}{N:Int}{vl:Value}(h:PB w base g l N vl)(h1:1≤N)(s:Int):
  Calls Tryz.prog 66 #[.pointer (some ⟨g,0,none⟩),.int .u64 s] w (yR w (aD8 l s)):=by
 have bw:=(Below.refl w.heap.size w).alloc yL (.cells #[.int .u64 s] 39);have B0:=yH bw;have h2:=h.below bw;have C:=yH (aLq h2.blk h1);have C2:=yH (pidx_any h2.row (pAA w #[.int .u64 s] 39));have d0:=h2.blk.cell 0;simp at d0;obtain⟨ao,cap,rfl,_⟩:=aAd h2.row;clear bw h h2 h1
 by_cases hp:posO l s<l.length
 ·rw[show idxV l s=.int .i64 (posO l s:Nat) by unfold idxV;rw[if_pos hp]]at C2;rw[show aD8 l s=.tuple #[.int .i64 (posO l s:Nat),.int .i64 0] by unfold aD8;rw[if_pos hp]];generalize posO l s=p at *;clear hp;go_enter Tryz.func66,Tryz.ntmps66;go_wp2_with fail;refine C.out.mono ?_;rintro e w1 ⟨rfl,rfl⟩;go_wp2_with fail;refine C2.out.mono ?_;rintro e w1 ⟨rfl,b1⟩;have B1:=yT B0 b1;clear b1 C C2;go_wp2_with fail;refine bodyPost_ret (v:=.tuple #[.int .i64 (p:Nat),.int .i64 0]) (by simp[results,Tryz.results66,go_sem]) rfl ?_;exact⟨rfl,B1.out⟩
 rw[show idxV l s=.int .i64 (-1) by unfold idxV;rw[if_neg hp]]at C2;rw[show aD8 l s=.tuple #[.int .i64 0,.int .i64 7] by unfold aD8;rw[if_neg hp]];clear hp;go_enter Tryz.func66,Tryz.ntmps66;go_wp2_with fail;refine C.out.mono ?_;rintro e w1 ⟨rfl,rfl⟩;go_wp2_with fail;refine C2.out.mono ?_;rintro e w1 ⟨rfl,b1⟩;have B1:=yT B0 b1;clear b1 C C2;go_wp2_with fail;refine bodyPost_ret (v:=.tuple #[.int .i64 0,.int .i64 7]) (by simp[results,Tryz.results66,go_sem]) rfl ?_;exact⟨rfl,B1.out⟩
theorem aGo{P:Program}(w:World)(t e ty:TypeId)(z:Value)(ht:P.underlying t=some (.slice e))(hv:∀w,(zeroValue e).run P w=.ok z w)(b o n c:Nat)(hn:0<n)(h1:∀u∈(Builtin.zeroCells z.cells n).toList,u.oneCell'=true)
  (hc:∀j,j<(Builtin.zeroCells z.cells n).toList.length→(w.cell? ⟨b,o+j,none⟩).isSome=true)(hf:∀j,j<(Builtin.zeroCells z.cells n).toList.length→w.frozen? ⟨b,o+j,none⟩=false):
  (Builtin.clear_ #[t] ty #[.slice (some ⟨b,o,none⟩) n c]).run P w=.ok (.tuple #[]) (w.setCells b o (Builtin.zeroCells z.cells n).toList):=by
 have hst:=run_storeCells_cells (P:=P) b o (Builtin.zeroCells z.cells n).toList 0 w (by simpa using hc) (by simpa using hf) h1;simp only[Nat.add_zero]at hst;obtain⟨m,rfl⟩:∃m,n=m+1:=⟨n - 1,by omega⟩;simp[Builtin.clear_,run_underlying ht,hv,hst]
theorem aDt{w:World}{g:Nat}{e:TypeId}:∀(vs:List Value) (o:Nat) (cur:Array Value),w.heap[g]? = some (.cells cur e (0,0))→o+vs.length≤cur.size→
  ∃cur',(w.setCells g o vs).heap[g]? = some (.cells cur' e (0,0))∧cur'.toList=cur.toList.take o++vs++cur.toList.drop (o+vs.length)
 | [],o,cur,h,hs=>⟨cur,h,by simp⟩
 | v::r,o,cur,h,hs=>by
  have hl:o<cur.size:=by simp at hs;omega
  have h2:(w.setCell ⟨g,o,none⟩ v).heap[g]? = some (.cells (cur.setIfInBounds o v) e (0,0)):=Blk.set (show Blk w g cur e from h) o v;obtain⟨cur',h3,h4⟩:=aDt (w:=w.setCell ⟨g,o,none⟩ v) r (o+1) _ h2 (by simp at hs ⊢;omega);refine⟨cur',by rw[World.setCells];exact h3,?_⟩;rw[h4,Array.toList_setIfInBounds];have hl':o<cur.toList.length:=by simpa using hl
  rw[List.take_set,List.drop_set_of_lt (by omega),List.take_succ_eq_append_getElem hl',List.set_append_right _ _ (by simp;omega)];simp[List.length_take,Nat.min_eq_left (Nat.le_of_lt hl),show o+1+r.length=o+(r.length+1) by omega]
def aHf(g j cap:Nat):Addr:=if cap=j then⟨g,0,none⟩else⟨g,j*7,none⟩
def zOff:Value:=.agg #[.int .u64 0,.int .u8 0,.int .u8 0,.int .u8 0,.int .i64 0,.int .i64 0,.int .i64 0]
theorem aIn:(Tryz.prog.info? 129).map (fun i=>(i.zero,i.size,i.bytes))=some (some zOff,7,40):=by kernel_rfl
theorem aE5{P:Program}(w:World)(t e:TypeId)(ht:P.underlying t=some (.slice e))(hs:(sizeOf e).run P w=.ok 7 w)(g n cap j:Nat)(h:j≤n)(h2:n≤cap)(i:Int)(hi:i=(j:Int)):
  (Instr.sliceAt t (.slice (some ⟨g,0,none⟩) n cap) (some (.int .i64 i)) none none).run P w=.ok (.slice (some (aHf g j cap)) (n - j) (cap - j)) w:=by
 subst hi
 by_cases hc:cap=j
 ·subst hc;have:n=cap:=by omega
  subst this;simp[Instr.sliceAt,Instr.slice,run_underlying ht,Instr.sliceBounds,run_sliceBound,hs,Result.andThen,Addr.add,aHf]
 simp[Instr.sliceAt,Instr.slice,run_underlying ht,Instr.sliceBounds,run_sliceBound,hs,Result.andThen,Addr.add,aHf,hc,h,h2,show j≤cap by omega,show cap - j≠0 by omega];omega
theorem aMd{P:Program}(w:World)(t e:TypeId)(ht:P.underlying t=some (.slice e))(hs:(sizeOf e).run P w=.ok 7 w)(g m cap:Nat)(h2:m+1≤cap)(i:Int)(hi:i=(m:Int)+1):
  (Instr.sliceAt t (.slice (some ⟨g,0,none⟩) m cap) (some (.int .i64 (m:Int))) (some (.int .i64 i)) none).run P w=.ok (.slice (some ⟨g,m*7,none⟩) 1 (cap - m)) w:=by
 obtain⟨x,hx⟩:∃x:Nat,x=m+1:=⟨_,rfl⟩;have e1:i=(x:Int):=by omega
 rw[e1];clear e1 hi;simp[Instr.sliceAt,Instr.slice,run_underlying ht,Instr.sliceBounds,run_sliceBound,hs,Result.andThen,Addr.add,show x≤cap by omega,show m≤x by omega,show cap≠m by omega];refine⟨?_,by omega⟩;intro h;omega
theorem pdel_any{w:World}{base g cap k:Nat}{l:List Of}(h:w.ownsRow base 129 7 (.slice (some ⟨g,0,none⟩) l.length cap) l.length (aAa l))(hk:k<l.length)(i:Int)(hi:i=(k:Int)+1):
  Calls Tryz.prog 131 #[.slice (some ⟨g,0,none⟩) l.length cap,.int .i64 (k:Nat),.int .i64 i] w fun e w'=>e=.returned (.slice (some ⟨g,0,none⟩) (l.eraseIdx k).length cap)∧w'.ownsRow base 129 7 (.slice (some ⟨g,0,none⟩) (l.eraseIdx k).length cap) (l.eraseIdx k).length (aAa (l.eraseIdx k))∧Keep (·=g) w w':=by
 obtain⟨_,hx⟩:=h;rcases hx with⟨hx,_⟩|⟨g',cap',cur,hv,hbase,hb,h1,h2,h3,h4⟩
 ·cases hx
 cases hv
 obtain⟨m,hm⟩:∃m,l.length=m+1:=⟨l.length - 1,by omega⟩;have hel:(l.eraseIdx k).length=m:=by rw[List.length_eraseIdx_of_lt hk,hm];rfl
 obtain⟨i0,hi1,hi2,hi3,hi4⟩:=info_parts aIn;have hnl:(aAa (l.drop (k+1))).length=(m - k)*7:=by rw[aAn,List.length_drop,hm];congr 1;omega
 have hns:=aCt (l.drop (k+1))
 have htl:∀t u,(aAa (l.drop (k+1)))[t]? = some u→w.drew.cell? ((aHf g (k+1) cap).add t)=some u:=by
  intro t u hu;have ht:t<(m - k)*7:=by rw[←hnl];exact(List.getElem?_eq_some_iff.1 hu).1
  have hc:¬cap=k+1:=by omega
  have e1:(aHf g (k+1) cap).add t=⟨g,(k+1)*7+t,none⟩:=by unfold aHf;rw[if_neg hc,Go.WideShapes.add_plain]
  rw[e1];have hcl:(w.cell? ⟨g,(k+1)*7+t,none⟩)=cur[(k+1)*7+t]? := Blk.cell (show Blk w g cur _ from hb) _;show w.cell? _=_;rw[hcl,←Array.getElem?_toList];have h5:(cur.toList.take (l.length*7))[(k+1)*7+t]? = (aAa l)[(k+1)*7+t]? := by rw[h4]
  rw[List.getElem?_take_of_lt (by rw[hm];omega)]at h5;rw[h5];have h6:aAa l=aAa (l.take (k+1))++aAa (l.drop (k+1)):=by rw[←aAt,List.take_append_drop]
  rw[h6,List.getElem?_append_right (by rw[aAn,List.length_take];omega),aAn,List.length_take];rw[show(k+1)*7+t - min (k+1) l.length*7=t by rw[Nat.min_eq_left (by omega)];omega];exact hu
 obtain⟨W1,hW1⟩:∃W1,W1=w.drew.setCells g (0+k*7) (aAa (l.drop (k+1))):=⟨_,rfl⟩;obtain⟨cur1,hb1,hc1⟩:=aDt (w:=w.drew) (e:=129) (aAa (l.drop (k+1))) (0+k*7) cur hb (by rw[hnl,h3];omega);have kk1:Keep (·=g) w W1:=by rw[hW1];exact Keep.setCells _ _ (Keep.refl _ w).drew (.inl rfl)
 rw[←hW1]at hb1
 have hz1:cur1.size=cap*7:=by
  rw[←Array.length_toList,hc1];simp only[List.length_append,List.length_take,List.length_drop,Array.length_toList,hnl];omega
 have hzc:(Builtin.zeroCells zOff.cells 1).toList=[.int .u64 0,.int .u8 0,.int .u8 0,.int .u8 0,.int .i64 0,.int .i64 0,.int .i64 0]:=by kernel_rfl
 have hcl:∀ty,(Builtin.clear_ #[61] ty #[.slice (some ⟨g,m*7,none⟩) 1 (cap - m)]).run Tryz.prog W1=.ok (.tuple #[]) (W1.setCells g (m*7) (Builtin.zeroCells zOff.cells 1).toList):=fun ty=>
  aGo W1 61 129 ty zOff Tryz.underlying61 (Tryz.zeroValue129) g (m*7) 1 (cap - m) (by omega) (by rw[hzc];simp[Value.oneCell'])
   (fun j hj=>by rw[hzc]at hj;rw[Blk.cell (show Blk W1 g cur1 _ from hb1)];simp at hj;rw[Array.getElem?_eq_getElem (by rw[hz1];omega)];rfl) (fun j hj=>Blk.frozen (show Blk W1 g cur1 _ from hb1) _)
 obtain⟨cur2,hb2,hc2⟩:=aDt (w:=W1) (e:=129) (Builtin.zeroCells zOff.cells 1).toList (m*7) cur1 hb1 (by rw[hzc,hz1];simp;omega);have kk2:Keep (·=g) W1 (W1.setCells g (m*7) (Builtin.zeroCells zOff.cells 1).toList):=Keep.setCells _ _ (Keep.refl _ W1) (.inl rfl)
 have HF:Hid ((W1.setCells g (m*7) (Builtin.zeroCells zOff.cells 1).toList).ownsRow base 129 7 (.slice (some ⟨g,0,none⟩) m cap) m (aAa (l.eraseIdx k))∧Keep (·=g) w (W1.setCells g (m*7) (Builtin.zeroCells zOff.cells 1).toList)):=by
  refine yH ⟨⟨by rw[aAn,hel],.inr ⟨g,cap,cur2,rfl,hbase,hb2,by omega,h2,?_,?_⟩⟩,kk1.trans kk2⟩
  ·rw[←Array.length_toList,hc2,hzc];simp only[List.length_append,List.length_take,List.length_drop,Array.length_toList,hz1,List.length_cons,List.length_nil];omega
  rw[hc2,List.append_assoc,List.take_append_of_le_length (by simp[hz1];omega),List.take_take,Nat.min_self,hc1,Nat.zero_add];rw[List.take_append_of_le_length (by simp[hnl,h3];omega)]
  have e1:cur.toList.take (k*7)=aAa (l.take k):=by
   have:cur.toList.take (k*7)=(cur.toList.take (l.length*7)).take (k*7):=by rw[List.take_take,Nat.min_eq_left (by omega)]
   rw[this,h4];have h6:aAa l=aAa (l.take k)++aAa (l.drop k):=by rw[←aAt,List.take_append_drop]
   rw[h6,List.take_left' (by rw[aAn,List.length_take];omega)]
  rw[e1,List.take_of_length_le (by simp[aAn,List.length_take];omega),←aAt,List.eraseIdx_eq_take_drop_succ]
 rw[hzc]at HF;simp only[hzc]at hcl;have HW:=yH hW1;have HT:=yH htl;have HN:=yH hnl;have HS:=yH hns;have hr1:=aE5 (P:=Tryz.prog) w.drew 61 129 Tryz.underlying61 (Tryz.sizeOf129 _) g (m+1) cap (k+1) (by omega) (by omega) i (by omega);have hr2:=aMd (P:=Tryz.prog) W1 61 129 Tryz.underlying61 (Tryz.sizeOf129 _) g m cap (by omega) ((m:Int)+1) rfl;have HB:=yH (Blk.cell (show Blk w g cur _ from hb));have HBf:=yH (Blk.frozen (show Blk w g cur _ from hb));have hkm:k≤m:=by omega
 rw[hel,hm];have s3:Hid (∀t,t<(aAa (l.drop (k+1))).length→(w.drew.cell? ⟨g,0+k*7+t,none⟩).isSome=true∧w.drew.frozen? ⟨g,0+k*7+t,none⟩=false):=yH (fun t ht=>⟨by show(w.cell? _).isSome=true;rw[HB.out,Array.getElem?_eq_getElem (by rw[h3];omega)];rfl,HBf.out _⟩);have hcm:m+1≤cap:=by omega
 have hin:i=(k:Int)+1:=hi;subst hin;have q1:((k:Int)==(k:Int)+1)=false:=by simp;omega
 have hic:k≤cap:=by omega
 unfold maxLen at h2;clear hW1 htl hnl hns kk1 kk2 hb1 hc1 hb2 hc2 hz1 hzc hel hm h3 h4 hb h1 hk;go_enter Tryz.func131,Tryz.ntmps131;go_wp2_with fail
 go_region_law (refine step_append_room rfl (.tmp 22) (.tmp 25) 61 rfl 129 i0 7 Tryz.underlying61 hi1 hi3 g 0 k cap (by simp[Act.eval,Act.put]) (aHf g (k+1) cap) (m - k) (cap - (k+1)) (aAa (l.drop (k+1))) (by simp[Act.eval,Act.put]) HN.out HT.out HS.out (by omega) s3.out ?_;rw[←HW.out])
 go_wp2;go_ret;exact⟨rfl,HF.out.1,HF.out.2⟩
theorem aLr{w:World}{base g k:Nat}{l:List Of}{N:Int}{vl:Value}(h:PB w base g l N vl)(hk:k<l.length)(hl:l.length≤1000):
  Calls Tryz.prog 74 #[.pointer (some ⟨g,0,none⟩),.int .i64 (k:Nat)] w fun e w'=>e=.returned (.tuple #[])∧∃vl',PB w' base g (l.eraseIdx k) N vl'∧Keep (Foot g vl) w w'∧vl'.ownBlock=vl.ownBlock:=by
 obtain⟨ao,cap,rfl,_,_,_,hr⟩:=aAd h.row;obtain⟨b,rfl,hbb,hbl,_⟩:=hr (by omega);have C:=yH (pdel_any h.row hk ((k:Int)+1) rfl);have H:=yH h;have d0:=h.blk.cell 0;simp at d0;have hne:b≠g:=h.apart b rfl;clear h hr;have HN:=yH hne;clear hne;go_enter Tryz.func74,Tryz.ntmps74;go_wp2_with fail;refine C.out.mono ?_;rintro e w1 ⟨rfl,ho,kk⟩;have HO:=yH ho;have HK:=yH kk;have HB:=yH (H.out.blk.keep kk (fun e=>HN.out e.symm));have hf1:=HB.out.frozen 0;have d1:=HB.out.cell 0;simp at d1;clear ho kk C d0;go_wp2_with fail;go_end0;have k2:Keep (·=g) w1 (w1.setCell ⟨g,0,none⟩ (.slice (some ⟨b,0,none⟩) (l.eraseIdx k).length cap)):=Keep.setCell (S:=(·=g)) (Keep.refl _ _) (p:=⟨g,0,none⟩) (.inl rfl) _;refine⟨rfl,_,⟨by simpa using HB.out.set 0 (.slice (some ⟨b,0,none⟩) (l.eraseIdx k).length cap),H.out.ge,aAl HO.out k2 (fun b' hb' e=>by cases hb';exact HN.out e)⟩,(HK.out.mono (fun j _ (hj:j=b)=>.inr (by rw[hj];rfl))).trans (k2.mono (fun j _ (hj:j=g)=>.inl hj)),rfl⟩
theorem aFy(a b:List Of)(s n:Int):setO (a++b) s n=setO a s n++setO b s n:=by unfold setO;rw[List.map_append,List.filter_append]
theorem aG4{a:List Of}{s n:Int}(h:∀x∈a,x.se≠s∧0<x.lf):setO a s n=a:=by
 induction a with
 | nil=>rfl
 | cons x r ih=>
  have hx:=h x (by simp);have hr:=ih (fun y hy=>h y (by simp[hy]));unfold setO at *;rw[List.map_cons,List.filter_cons,show Of.put s n x=x by unfold Of.put;rw[if_neg hx.1],if_pos (by simpa using hx.2),hr]
theorem BInv.others{l:List Of}{N:Int}(h:BInv l N){s:Int}(hp:posO l s<l.length):(∀x∈l.take (posO l s),x.se≠s∧0<x.lf)∧(∀x∈l.drop (posO l s+1),x.se≠s∧0<x.lf)∧l[posO l s].se=s:=by
 have hlf:∀x∈l,0<x.lf:=fun x hx=>by have:=(h.may x hx).2.2.2.2.1;omega
 have hat:l[posO l s].se=s:=by
  have:=List.findIdx_getElem (p:=fun x:Of=>x.se==s) (xs:=l) (w:=hp);exact eq_of_beq this
 refine⟨fun x hx=>⟨?_,hlf x (List.mem_of_mem_take hx)⟩,fun x hx=>⟨?_,hlf x (List.mem_of_mem_drop hx)⟩,hat⟩
 ·obtain⟨j,hj,rfl⟩:=List.mem_take_iff_getElem.1 hx;have:=List.not_of_lt_findIdx (p:=fun x:Of=>x.se==s) (xs:=l) (i:=j) (by unfold posO at hj;omega);simpa using this
 obtain⟨j,hj,rfl⟩:=List.mem_drop_iff_getElem.1 hx;have:=List.pairwise_iff_getElem.1 h.rise (posO l s) (posO l s+1+j) hp (by omega) (by omega);intro e;omega
theorem aP0{l:List Of}{k:Nat}(h:k<l.length):l=l.take k++[l[k]]++l.drop (k+1):=by
 rw[←List.take_succ_eq_append_getElem h,List.take_append_drop]
theorem aM3{l:List Of}{N:Int}(h:BInv l N){s:Int}(hp:posO l s<l.length):setO l s 0=l.eraseIdx (posO l s):=by
 obtain⟨h1,h2,h3⟩:=h.others hp
 conv=>lhs;rw[aP0 hp]
 rw[aFy,aFy,aG4 h1,aG4 h2,List.eraseIdx_eq_take_drop_succ];simp[setO,Of.put,h3]
theorem setO_put{l:List Of}{N:Int}(h:BInv l N){s n:Int}(hn:0<n)(hp:posO l s<l.length):setO l s n=l.set (posO l s) { l[posO l s]with lf:=n }:=by
 obtain⟨h1,h2,h3⟩:=h.others hp
 conv=>lhs;rw[aP0 hp]
 rw[aFy,aFy,aG4 h1,aG4 h2,List.set_eq_take_append_cons_drop,if_pos hp];simp[setO,Of.put,h3,hn]
theorem aN9{l:List Of}{s n:Int}{y:Of}(h:y∈setO l s n):0<y.lf∧∃x∈l,y=x∨(x.se=s∧y={ x with lf:=n }):=by
 unfold setO at h;obtain⟨h1,h2⟩:=List.mem_filter.1 h;obtain⟨x,hx,rfl⟩:=List.mem_map.1 h1;refine⟨by simpa using h2,x,hx,?_⟩;unfold Of.put;split
 ·rename_i e;exact .inr ⟨e,rfl⟩
 exact .inl rfl
theorem setO_se(l:List Of)(s n:Int):((l.map (Of.put s n)).map Of.se)=l.map Of.se:=by
 rw[List.map_map];apply List.map_congr_left;intro x _;show(Of.put s n x).se=x.se;unfold Of.put;split <;> rfl
theorem BInv.set{l:List Of}{N:Int}(h:BInv l N){s n:Int}(hn:n≤1099511627776):BInv (setO l s n) N:=by
 refine⟨fun y hy=>?_,?_,fun y hy=>?_,Nat.le_trans (setO_len l s n) h.len,h.n1,h.n2⟩
 ·obtain⟨h0,x,hx,rfl|⟨_,rfl⟩⟩:=aN9 hy
  ·exact h.may _ hx
  obtain⟨a,b,c,d,e,f⟩:=h.may _ hx;exact⟨a,b,c,d,⟨by have:0<n:=h0;show 1≤n;omega,hn⟩,f⟩
 ·have h1:(l.map (Of.put s n)).Pairwise fun x y=>x.se<y.se:=by
   rw[←List.pairwise_map (f:=Of.se) (R:=fun a b:Int=>a<b),setO_se,List.pairwise_map];exact h.rise
  exact h1.filter _
 obtain⟨_,x,hx,rfl|⟨_,rfl⟩⟩:=aN9 hy
 ·exact h.bd _ hx
 have:=h.bd _ hx;exact this
theorem leftO_bd{l:List Of}{N:Int}(h:BInv l N)(s:Int):0≤aPx l s∧aPx l s≤1099511627776:=by
 unfold aPx
 cases hf:aBg l s with
 | none=>simp
 | some x=>have:=(h.may _ (aCx hf).1).2.2.2.2.1;simp only;omega
theorem takeE_pos{l:List Of}{s n:Int}(h:aDz l s n=0):1≤n:=by
 unfold aDz at h;split at h
 ·omega
 split at h
 ·omega
 omega
theorem BInv.take{l:List Of}{N:Int}(h:BInv l N)(s n:Int):BInv (aCh l s n) N:=by
 unfold aCh;split
 ·rename_i e;have:=leftO_bd h s;have:=takeE_pos e;exact h.set (by omega)
 exact h
theorem aLs:∀(l:List Of) (k:Nat) (h:k<l.length) (n:Int),(aAa l).set (k*7+4) (.int .i64 n)=aAa (l.set k { l[k]with lf:=n })
 | x::r,0,_,n=>by simp[aAa,Of.vals]
 | x::r,k+1,h,n=>by
  have ih:=aLs r k (by simpa using h) n;have e1:aAa (x::r)=x.vals++aAa r:=rfl;have hk':k<r.length:=by simpa using h
  have e2:aAa ((x::r).set (k+1) { (x::r)[k+1]with lf:=n })=x.vals++aAa (r.set k { r[k]with lf:=n }):=rfl;rw[e1,e2,←ih,List.set_append_right _ _ (by simp[Of.vals];omega)];congr 2;simp[Of.vals];omega
theorem owns_put{w:World}{base b cap k:Nat}{e:TypeId}{l:List Of}(h:w.ownsRow base e 7 (.slice (some ⟨b,0,none⟩) l.length cap) l.length (aAa l))(hk:k<l.length)(n:Int):
  (w.setCell ⟨b,k*7+4,none⟩ (.int .i64 n)).ownsRow base e 7 (.slice (some ⟨b,0,none⟩) l.length cap) (l.set k { l[k]with lf:=n }).length (aAa (l.set k { l[k]with lf:=n })):=by
 obtain⟨_,hx⟩:=h;rcases hx with⟨hx,_⟩|⟨g,cap',cur,hv,hbase,hb,h1,h2,h3,h4⟩
 ·cases hx
 cases hv
 refine⟨by rw[aAn],.inr ⟨b,cap,_,by rw[List.length_set],hbase,Blk.set (show Blk w b cur e from hb) (k*7+4) (.int .i64 n),by rw[List.length_set];exact h1,h2,by simpa using h3,?_⟩⟩;rw[←aLs l k hk n,←h4,List.length_set,Array.toList_setIfInBounds,List.take_set]
theorem pcancel_any{w:World}{base g:Nat}{l:List Of}{N:Int}{vl:Value}(h:PB w base g l N vl)(hI:BInv l N)(ow s:Int):
  Calls Tryz.prog 30 #[.pointer (some ⟨g,0,none⟩),.int .u8 ow,.int .u64 s] w fun e w'=>e=.returned (.tuple #[.int .i64 (aHw l ow s),.int .i64 (aEs l ow s)])∧∃vl',PB w' base g (aHx l ow s) N vl'∧Keep (Foot g vl) w w'∧aEt w vl vl':=by
 have C:=yH (aJa h hI.n1 s);have H:=yH h;have HI:=yH hI;have hlen:=hI.len;clear h hI
 by_cases hp:posO l s<l.length
 ·rw[show aD8 l s=.tuple #[.int .i64 (posO l s:Nat),.int .i64 0] by unfold aD8;rw[if_pos hp]]at C;have hf:=aI9 hp;have SE:=yH (aM3 HI.out hp);obtain⟨ao,cap,hv,_,hcm,_,hr⟩:=aAd H.out.row;subst hv;obtain⟨b,rfl,hbb,hbl,hcell,_⟩:=hr (by omega);have HC:=yH hcell;have CR:=yH (fun w1 (b1:Below w.heap.size w w1)=>aLr (H.out.below b1) hp (by omega));clear hr hcell;generalize hpk:posO l s=k at *;clear hpk;generalize hxk:l[k]=x at *;unfold maxLen at hcm
  by_cases hw:x.ow=ow
  ·have E:=yH (show aHw l ow s=x.lf∧aEs l ow s=0∧aHx l ow s=l.eraseIdx k from by
    have e2:aEs l ow s=0:=by unfold aEs;rw[hf];exact if_pos hw
    exact⟨by unfold aHw;rw[hf];exact if_pos hw,e2,by unfold aHx;rw[if_pos e2,SE.out]⟩)
   have q2:(x.ow != ow)=false:=by simpa using hw
   rw[E.out.1,E.out.2.1,E.out.2.2];clear hf hw;go_enter Tryz.func30,Tryz.ntmps30;go_wp2_with fail;refine C.out.mono ?_;rintro e w1 ⟨rfl,b1⟩;have H1:=H.out.below b1;have d0:=H1.blk.cell 0;simp at d0;obtain⟨e0,e1,e2,e3,e4,e5,e6⟩:=aCn (w:=w1) (fun j hj=>by rw[b1.cell (p:=⟨b,j,none⟩) hbl];exact HC.out j hj) hp;rw[hxk]at e0 e1 e2 e3 e4 e5 e6;have CR1:=yH (CR.out w1 b1);have HB1:=yH b1;clear b1 H1 CR C hxk;go_wp2_with fail;refine CR1.out.mono ?_;rintro e w2 ⟨rfl,vl',h2,k2,m2⟩;have R:=yH (And.intro h2 (And.intro k2 m2));clear h2 k2 m2;go_wp2_with fail;refine bodyPost_ret (v:=.tuple #[.int .i64 x.lf,.int .i64 0]) (by simp[results,Tryz.results30,go_sem]) rfl ?_;exact⟨rfl,vl',R.out.1,(pAE HB1.out).trans R.out.2.1,fun b hb=>.inl (by rw[←R.out.2.2];exact hb)⟩
  have E:=yH (show aHw l ow s=0∧aEs l ow s=15∧aHx l ow s=l from by
   have e2:aEs l ow s=15:=by unfold aEs;rw[hf];exact if_neg hw
   exact⟨by unfold aHw;rw[hf];exact if_neg hw,e2,by unfold aHx;rw[if_neg (by rw[e2];decide)]⟩)
  have q2:(x.ow != ow)=true:=by simpa using hw
  rw[E.out.1,E.out.2.1,E.out.2.2];clear hf hw CR;go_enter Tryz.func30,Tryz.ntmps30;go_wp2_with fail;refine C.out.mono ?_;rintro e w1 ⟨rfl,b1⟩;have H1:=H.out.below b1;have d0:=H1.blk.cell 0;simp at d0;obtain⟨e0,e1,e2,e3,e4,e5,e6⟩:=aCn (w:=w1) (fun j hj=>by rw[b1.cell (p:=⟨b,j,none⟩) hbl];exact HC.out j hj) hp;rw[hxk]at e0 e1 e2 e3 e4 e5 e6;have HB1:=yH b1;clear b1 H1 C hxk;go_wp2_with fail;refine bodyPost_ret (v:=.tuple #[.int .i64 0,.int .i64 15]) (by simp[results,Tryz.results30,go_sem]) rfl ?_;exact⟨rfl,_,H.out.below HB1.out,pAE HB1.out,aEt.refl _ _⟩
 rw[show aD8 l s=.tuple #[.int .i64 0,.int .i64 7] by unfold aD8;rw[if_neg hp]]at C;have hf:=aHz hp
 have E:=yH (show aHw l ow s=0∧aEs l ow s=7∧aHx l ow s=l from by
  have e2:aEs l ow s=7:=by unfold aEs;rw[hf]
  exact⟨by unfold aHw;rw[hf],e2,by unfold aHx;rw[if_neg (by rw[e2];decide)]⟩)
 rw[E.out.1,E.out.2.1,E.out.2.2];clear hf hp;go_enter Tryz.func30,Tryz.ntmps30;go_wp2_with fail;refine C.out.mono ?_;rintro e w1 ⟨rfl,b1⟩;have HB1:=yH b1;clear b1 C;go_wp2_with fail;refine bodyPost_ret (v:=.tuple #[.int .i64 0,.int .i64 7]) (by simp[results,Tryz.results30,go_sem]) rfl ?_;exact⟨rfl,_,H.out.below HB1.out,pAE HB1.out,aEt.refl _ _⟩
theorem aP1{w:World}{base g:Nat}{l:List Of}{N:Int}{vl:Value}(h:PB w base g l N vl)(hI:BInv l N)(s n:Int):
  Calls Tryz.prog 141 #[.pointer (some ⟨g,0,none⟩),.int .u64 s,.int .i64 n] w fun e w'=>e=.returned (.int .i64 (aDz l s n))∧∃vl',PB w' base g (aCh l s n) N vl'∧Keep (Foot g vl) w w'∧aEt w vl vl':=by
 have C:=yH (aJa h hI.n1 s);have H:=yH h;have HI:=yH hI;have hlen:=hI.len;clear h hI
 by_cases hp:posO l s<l.length
 ·rw[show aD8 l s=.tuple #[.int .i64 (posO l s:Nat),.int .i64 0] by unfold aD8;rw[if_pos hp]]at C;have hf:=aI9 hp;have SE:=yH (aM3 HI.out hp);have SP:=yH (fun m hm=>setO_put HI.out (s:=s) (n:=m) hm hp);obtain⟨ao,cap,hv,_,hcm,_,hr⟩:=aAd H.out.row;subst hv;obtain⟨b,rfl,hbb,hbl,hcell,hfr⟩:=hr (by omega);have HC:=yH hcell;have HF:=yH hfr;have CR:=yH (fun w1 (b1:Below w.heap.size w w1)=>aLr (H.out.below b1) hp (by omega));have hlf:=(HI.out.may _ (List.getElem_mem hp)).2.2.2.2.1;have HA:=yH (H.out.apart b rfl);have OP:=yH (fun w1 (b1:Below w.heap.size w w1) m=>owns_put (aAc H.out.row b1) hp m);clear hr hcell hfr;generalize hpk:posO l s=k at *;clear hpk;generalize hxk:l[k]=x at *;obtain⟨hlf1,hlf2⟩:=hlf;unfold maxLen at hcm
  by_cases hn1:n<1
  ·have E:=yH (show aDz l s n=1∧aCh l s n=l from by
    have e2:aDz l s n=1:=by unfold aDz;rw[hf];exact if_pos (.inl hn1)
    exact⟨e2,by unfold aCh;rw[if_neg (by rw[e2];decide)]⟩)
   rw[E.out.1,E.out.2];clear hf CR OP SP SE;go_enter Tryz.func141,Tryz.ntmps141;go_wp2_with fail;refine C.out.mono ?_;rintro e w1 ⟨rfl,b1⟩;have HB1:=yH b1;clear b1 C hxk;go_wp2_with fail;go_ret;exact⟨rfl,_,H.out.below HB1.out,pAE HB1.out,aEt.refl _ _⟩
  by_cases hn2:x.lf<n
  ·have E:=yH (show aDz l s n=1∧aCh l s n=l from by
    have e2:aDz l s n=1:=by unfold aDz;rw[hf];exact if_pos (.inr hn2)
    exact⟨e2,by unfold aCh;rw[if_neg (by rw[e2];decide)]⟩)
   rw[E.out.1,E.out.2];clear hf CR OP SP SE;go_enter Tryz.func141,Tryz.ntmps141;go_wp2_with fail;refine C.out.mono ?_;rintro e w1 ⟨rfl,b1⟩;have H1:=H.out.below b1;have d0:=H1.blk.cell 0;simp at d0;obtain⟨e0,e1,e2,e3,e4,e5,e6⟩:=aCn (w:=w1) (fun j hj=>by rw[b1.cell (p:=⟨b,j,none⟩) hbl];exact HC.out j hj) hp;rw[hxk]at e0 e1 e2 e3 e4 e5 e6;have HB1:=yH b1;clear b1 C H1 hxk;go_wp2_with fail;go_ret;exact⟨rfl,_,H.out.below HB1.out,pAE HB1.out,aEt.refl _ _⟩
  have e0':aDz l s n=0:=by unfold aDz;rw[hf];exact if_neg (by omega)
  have eL:aPx l s=x.lf:=by unfold aPx;rw[hf]
  by_cases hn3:n=x.lf
  ·have E:=yH (show aDz l s n=0∧aCh l s n=l.eraseIdx k from⟨e0',by unfold aCh;rw[if_pos e0',eL,hn3,Int.sub_self,SE.out]⟩);rw[E.out.1,E.out.2];have q1:(n==x.lf)=true:=by simpa using hn3
   clear hf OP SP SE e0' eL hn3;go_enter Tryz.func141,Tryz.ntmps141;go_wp2_with fail;refine C.out.mono ?_;rintro e w1 ⟨rfl,b1⟩;have H1:=H.out.below b1;have d0:=H1.blk.cell 0;simp at d0;obtain⟨e0,e1,e2,e3,e4,e5,e6⟩:=aCn (w:=w1) (fun j hj=>by rw[b1.cell (p:=⟨b,j,none⟩) hbl];exact HC.out j hj) hp;rw[hxk]at e0 e1 e2 e3 e4 e5 e6;have CR1:=yH (CR.out w1 b1);have HB1:=yH b1;clear b1 C H1 CR hxk;go_wp2_with fail;refine CR1.out.mono ?_;rintro e w2 ⟨rfl,vl',h2,k2,m2⟩;have R:=yH (And.intro h2 (And.intro k2 m2));clear h2 k2 m2;go_wp2_with fail;go_ret;exact⟨rfl,vl',R.out.1,(pAE HB1.out).trans R.out.2.1,fun b hb=>.inl (by rw[←R.out.2.2];exact hb)⟩
  have E:=yH (show aDz l s n=0∧aCh l s n=l.set k { x with lf:=x.lf - n }from⟨e0',by unfold aCh;rw[if_pos e0',eL,SP.out _ (by omega)]⟩);rw[E.out.1,E.out.2];have q1:(n==x.lf)=false:=by simpa using hn3
  clear hf CR SP SE e0' eL hn3;go_enter Tryz.func141,Tryz.ntmps141;go_wp2_with fail;refine C.out.mono ?_;rintro e w1 ⟨rfl,b1⟩;have H1:=H.out.below b1;have d0:=H1.blk.cell 0;simp at d0;obtain⟨e0,e1,e2,e3,e4,e5,e6⟩:=aCn (w:=w1) (fun j hj=>by rw[b1.cell (p:=⟨b,j,none⟩) hbl];exact HC.out j hj) hp;rw[hxk]at e0 e1 e2 e3 e4 e5 e6;have hfz:w1.frozen? ⟨b,k*7+4,none⟩=false:=by rw[b1.frozen (p:=⟨b,k*7+4,none⟩) hbl];exact HF.out _
  have HO1:=yH (OP.out w1 b1 (x.lf - n));have HG:=yH H1.blk;have HB1:=yH b1;clear b1 C H1 OP hxk;go_wp2_with fail;go_ret;have k2:Keep (·=b) w1 (w1.setCell ⟨b,k*7+4,none⟩ (.int .i64 (x.lf - n))):=Keep.setCell (S:=(·=b)) (Keep.refl _ _) (p:=⟨b,k*7+4,none⟩) (.inl rfl) _;refine⟨rfl,_,⟨HG.out.keep k2 (fun e=>HA.out e.symm),H.out.ge,HO1.out⟩,((pAE HB1.out).trans k2).mono (fun j _ (hj:j=b)=>.inr (by rw[hj];rfl)),aEt.refl _ _⟩
 rw[show aD8 l s=.tuple #[.int .i64 0,.int .i64 7] by unfold aD8;rw[if_neg hp]]at C;have hf:=aHz hp
 have E:=yH (show aDz l s n=7∧aCh l s n=l from by
  have e2:aDz l s n=7:=by unfold aDz;rw[hf]
  exact⟨e2,by unfold aCh;rw[if_neg (by rw[e2];decide)]⟩)
 rw[E.out.1,E.out.2];clear hf hp;go_enter Tryz.func141,Tryz.ntmps141;go_wp2_with fail;refine C.out.mono ?_;rintro e w1 ⟨rfl,b1⟩;have HB1:=yH b1;clear b1 C;go_wp2_with fail;go_ret;exact⟨rfl,_,H.out.below HB1.out,pAE HB1.out,aEt.refl _ _⟩
theorem aIo{w:World}{base g:Nat}{l:List Of}{N:Int}{vl:Value}(h:PB w base g l N vl)(h1:1≤N)(s:Int):
  Calls Tryz.prog 22 #[.pointer (some ⟨g,0,none⟩),.int .u64 s] w (yR w (aGn (aBg l s))):=by
 have bw:=(Below.refl w.heap.size w).alloc yL (.cells #[.int .u64 0,.int .u8 0,.int .u8 0,.int .u8 0,.int .i64 0,.int .i64 0,.int .i64 0] 48);have h2:=h.below bw;have B:=yH bw;have H:=yH h2;have KR:=yH (pAA w #[.int .u64 0,.int .u8 0,.int .u8 0,.int .u8 0,.int .i64 0,.int .i64 0,.int .i64 0] 48);have C:=yH (aJa h2 h1 s);obtain⟨ao,cap,rfl,hc1,hc2,hc3,hc4⟩:=aAd h2.row;have HC:=yH hc4;unfold maxLen at hc2;clear hc3 hc4 h bw h2 h1
 by_cases hp:posO l s<l.length
 ·rw[show aD8 l s=.tuple #[.int .i64 (posO l s:Nat),.int .i64 0] by unfold aD8;rw[if_pos hp]]at C;have E:=yH (aI9 hp);generalize hpk:posO l s=k at *;clear hpk;go_enter Tryz.func22,Tryz.ntmps22;go_wp2_with fail;refine C.out.mono ?_;rintro e w1 ⟨rfl,b1⟩;obtain⟨b,rfl,hb1,hb2,hcell,_⟩:=HC.out (by omega);have H1:=H.out.below b1;have d0:=H1.blk.cell 0;simp at d0;obtain⟨e0,e1,e2,e3,e4,e5,e6⟩:=aCn (w:=w1) (fun j hj=>by rw[b1.cell (p:=⟨b,j,none⟩) hb2];exact hcell j hj) hp;have KR1:=yB KR b1;have B1:=yT B b1;clear hcell b1 C H1 KR;generalize l[k]=x at *;go_wp2_with (refine aAb rfl 48 (.tmp 4) (.tmp 23) rfl w.heap.size #[.int .u64 x.se,.int .u8 x.ow,.int .u8 x.sl,.int .u8 x.bu,.int .i64 x.lf,.int .i64 x.nu,.int .i64 x.de] rfl rfl 48 _ KR1.out.out (by kernel_rfl) rfl (by simp[Value.oneCell']) ?_);rw[E.out];refine bodyPost_ret (v:=.tuple #[x.val,.bool true]) (aAh rfl _ _ w.heap.size 48 #[.int .u64 x.se,.int .u8 x.ow,.int .u8 x.sl,.int .u8 x.bu,.int .i64 x.lf,.int .i64 x.nu,.int .i64 x.de] _ _ rfl (setRow_heap _ w.heap.size _ _ _ (0,0) KR1.out.out) Tryz.underlying48 rfl (by kernel_rfl) rfl) rfl ⟨rfl,below_setRow B1.out yL _⟩
 rw[show aD8 l s=.tuple #[.int .i64 0,.int .i64 7] by unfold aD8;rw[if_neg hp]]at C;have E:=yH (aHz hp);clear hp;go_enter Tryz.func22,Tryz.ntmps22;go_wp2_with fail;refine C.out.mono ?_;rintro e w1 ⟨rfl,b1⟩;have KR1:=yB KR b1;have B1:=yT B b1;clear b1 C KR;go_wp2_with (refine aAb rfl 48 (.tmp 4) (.tmp 16) rfl w.heap.size #[.int .u64 0,.int .u8 0,.int .u8 0,.int .u8 0,.int .i64 0,.int .i64 0,.int .i64 0] rfl rfl 48 _ KR1.out.out (by kernel_rfl) rfl (by simp[Value.oneCell']) ?_);rw[E.out];refine bodyPost_ret (v:=.tuple #[noOf.val,.bool false]) (aAh rfl _ _ w.heap.size 48 #[.int .u64 0,.int .u8 0,.int .u8 0,.int .u8 0,.int .i64 0,.int .i64 0,.int .i64 0] _ _ rfl (setRow_heap _ w.heap.size _ _ _ (0,0) KR1.out.out) Tryz.underlying48 rfl (by kernel_rfl) rfl) rfl ⟨rfl,below_setRow B1.out yL _⟩
def OwnPost(w:World)(e:TypeId)(l:List Of)(en:Ending)(w':World):Prop:=
 ∃v',en=.returned v'∧w'.ownsRow w.heap.size e 7 v' l.length (aAa l)∧Below w.heap.size w w'
theorem aM4{w:World}{base:Nat}{v:Value}{l:List Of}(h:w.ownsRow base 129 7 v l.length (aAa l))(hl:l.length≤1000):
  Calls Tryz.prog 76 #[v] w (OwnPost w 129 l):=by
 have q22:∀(w:World) (a:Option Addr) (n c n' c':Nat),(binOp .eql 61 (.slice a n c) (.slice none n' c')).run Tryz.prog w=.ok (.bool a.isNone) w:=fun w a n c n' c'=>Lib.run_eql_slice_nil w _ _ a n c n' c' Tryz.underlying61
 rcases h.2 with⟨rfl,h0⟩|⟨g,cap,cur,rfl,hbase,hb,h1,h2,h3,h4⟩
 ·have hl0:=List.eq_nil_of_length_eq_zero h0;subst hl0;clear h h0;go_enter Tryz.func76,Tryz.ntmps76;go_wp2;refine bodyPost_ret (v:=.slice none 0 0) (by simp[results,Tryz.results76,go_sem]) rfl ?_;exact⟨_,rfl,World.ownsRow_nil _ _ _ _,yZ⟩
 obtain⟨i0,hi1,hi2,hi3,hi4⟩:=info_parts aIn;have HC:=yH (h.cells (g:=g) rfl);have HL:=yH hl;have HX:=yH h.1;clear h hb h1 h2 h3 h4 hl;go_enter Tryz.func76,Tryz.ntmps76;go_wp2_with (at_builtin;refine wpList_append_own _ rfl _ _ 61 rfl w.heap.size 129 i0 zOff 7 40 Tryz.underlying61 hi1 hi2 hi3 hi4 rfl (by decide) _ _ _ rfl (World.ownsRow_made w #[] 0 yL (Nat.zero_le _) (by simp)) ⟨g,0,none⟩ l.length cap (aAa l) rfl ?qc1 ?qc2 ?qc3 ?qc4 ?qc5 ?qc6 ?_)
 case qc1=>exact HX.out
 case qc2=>
  intro j u hj;exact Lib.cell?_alloc_some _ (HC.out j u hj)
 case qc3=>exact aCt l
 case qc4=>rw[Nat.zero_add];have:=HL.out;unfold maxLen;omega
 case qc5=>rw[Nat.zero_add];have:=HL.out;omega
 case qc6=>simp
 intro v' w1 hown hgrow hnil;have HO:=yH (show w1.ownsRow w.heap.size 129 7 v' l.length (aAa l) by simpa using hown);have HB:=yH (((Below.refl w.heap.size w).alloc yL (.cells #[] 129)).grown hgrow (by simp) (by intro k hk;simp[Value.ownBlock]at hk;omega));clear hown hgrow hnil;go_wp2;refine bodyPost_ret (v:=v') (by simp[results,Tryz.results76,go_sem]) rfl ?_;exact⟨v',rfl,HO.out,HB.out⟩
theorem clipO_any{w:World}{base:Nat}{v:Value}{n:Nat}{xs:List Value}(h:w.ownsRow base 48 7 v n xs):
  Calls Tryz.prog 123 #[v] w (aGw w base 48 7 n v xs):=by
 rcases h.2 with⟨rfl,h0⟩|⟨g,cap,cur,rfl,hbase,hb,h1,h2,h3,h4⟩
 ·subst h0;have hr:=aBn (P:=Tryz.prog) w 23 48 7 Tryz.underlying23 (Tryz.sizeOf48 w);have hx:=h.1;have hx2:=yH hx;clear h hx;go_enter Tryz.func123,Tryz.ntmps123;go_wp2;refine bodyPost_ret (v:=.slice none 0 0) (by simp[results,Tryz.results123,go_sem]) rfl ?_;exact⟨_,rfl,⟨hx2.out,.inl ⟨rfl,rfl⟩⟩,rfl,rfl⟩
 have hr:=aCj (P:=Tryz.prog) w 23 48 7 Tryz.underlying23 (Tryz.sizeOf48 w) g n cap h1;have HR:=yH (show aCl w base 48 7 (.slice (some ⟨g,0,none⟩) n n) n xs from⟨h.1,.inr ⟨g,cur,rfl,hbase,hb,by omega,by omega,h4⟩⟩);clear h hb h4 h3;unfold maxLen at h2;go_enter Tryz.func123,Tryz.ntmps123;go_wp2;refine bodyPost_ret (v:=.slice (some ⟨g,0,none⟩) n n) (by simp[results,Tryz.results123,go_sem]) rfl ?_;exact⟨_,rfl,HR.out,rfl,rfl⟩
def ToldAt(w:World)(l:List Of)(v i:Value)(wr:World):Prop:=
 ∃k:Nat,k≤l.length∧i=.int .i64 k∧wr.ownsRow w.heap.size 48 7 v (l.take k).length (aAa (l.take k))∧Below w.heap.size w wr
theorem told_any{w:World}{base:Nat}{v:Value}{l:List Of}(h:w.ownsRow base 129 7 v l.length (aAa l))(hl:l.length≤1000):
  Calls Tryz.prog 64 #[v] w (aFr w 48 7 l.length (aAa l)):=by
 obtain⟨ao,cap,rfl,hc1,hc2,hc3,hc4⟩:=aAd h;have HC:=yH hc4;unfold maxLen at hc2;clear hc3 hc4 h;go_enter Tryz.func64,Tryz.ntmps64;go_wp2_with fail
 go_loopw [3,8] (ToldAt w l) (fun _ i _=>l.length - (intOf i).toNat)
 case atStart=>exact⟨0,Nat.zero_le _,rfl,World.ownsRow_nil _ _ _ _,yZ⟩
 obtain⟨k,hk,rfl,hown,hb⟩:=hrel
 by_cases hkl:k<l.length
 ·obtain⟨b,rfl,hb1,hb2,hcell,_⟩:=HC.out (by omega);obtain⟨e0,e1,e2,e3,e4,e5,e6⟩:=aCn (w:=wr) (fun j hj=>by rw[hb.cell (p:=⟨b,j,none⟩) hb2];exact hcell j hj) hkl;have NX:=yH (List.take_succ_eq_append_getElem hkl);have hlk:(l.take k).length≤1000:=Nat.le_trans (List.length_take_le _ _) (by omega);clear hcell;generalize l[k]=y at *;generalize l.take k=out at *;have bw:=(Below.refl wr.heap.size wr).alloc yL (.cells #[.int .u64 y.se,.int .u8 y.ow,.int .u8 y.sl,.int .u8 y.bu,.int .i64 y.lf,.int .i64 y.nu,.int .i64 y.de] 129);have OY:=yH (aAc hown bw);have BY:=yH (hb.trans (bw.mono hb.size));have hl2:out.length≤100000:=by omega
  clear hown hb bw;go_wp2_with (at_builtin;refine aDa _ rfl (.tmp 12) (.tmp 14) rfl w.heap.size _ out rfl (OY.out.alloc _) _ _ y rfl (pAC _ _ _ (by simp)) hl2 (by have:=BY.out.size;simp at this ⊢;omega) ?_);intro v3 w3 hown3 hgr3;have R2:∀k,Value.ownBlock _=some k→w.heap.size≤k:=fun k hk=>(aAe OY.out hk).1
  have B3:=yH ((BY.out.alloc BY.out.size _).grown hgr3 (by have:=BY.out.size;simp at this ⊢;omega) (fun k hk=>R2 k hk));have O3:=yH (show w3.ownsRow w.heap.size 48 7 v3 (out++[y]).length (aAa (out++[y])) by simpa using hown3);clear R2 hown3 hgr3;go_wp2_with fail;go_roundw
  case rel=>exact⟨k+1,by omega,by go_num,by rw[NX.out];exact O3.out,B3.out⟩
  case measure=>simp[intOf];omega
 have hke:l.take k=l:=List.take_of_length_le (by omega);rw[hke]at hown;have CC:=yH (clipO_any hown);have HB:=yH hb;clear hown hb hke;go_wp2_with fail;refine CC.out.mono ?_;rintro e w3 ⟨v',rfl,hrow,_,rfl⟩;have HRow:=yH hrow;clear hrow CC;go_wp2_with fail;refine bodyPost_ret (v:=v') (by simp[results,Tryz.results64,go_sem]) rfl ?_;exact⟨v',rfl,HRow.out,HB.out⟩
theorem pall_of{w:World}{base:Nat}{pv v:Value}{l:List Of}(hc:Calls Tryz.prog 65 #[pv] w (yS w v))(h:w.ownsRow base 129 7 v l.length (aAa l))(hl:l.length≤1000):
  Calls Tryz.prog 21 #[pv] w (aFr w 48 7 l.length (aAa l)):=by
 have C1:=yH hc;have C2:=yH (told_any h hl);clear hc h;go_enter Tryz.func21,Tryz.ntmps21;go_wp2_with fail;refine C1.out.mono ?_;rintro e w ⟨rfl,rfl⟩;go_wp2_with fail;refine C2.out.mono ?_;rintro e w1 ⟨v',rfl,h1,b1⟩;have H1:=yH (And.intro h1 b1);clear h1 b1;go_wp2_with fail;refine bodyPost_ret (v:=v') (by simp[results,Tryz.results21,go_sem]) rfl ?_;exact⟨v',rfl,H1.out.1,H1.out.2⟩
theorem pall_any{w:World}{base g:Nat}{l:List Of}{N:Int}{vl:Value}(h:PB w base g l N vl)(hl:l.length≤1000):
  Calls Tryz.prog 21 #[.pointer (some ⟨g,0,none⟩)] w (aFr w 48 7 l.length (aAa l)):=by
 obtain⟨ao,cap,rfl,_⟩:=aAd h.row;exact pall_of (ball_any h.blk) h.row hl
def aF3:Value:=.agg #[.int .u64 0,.int .u8 0,.int .u8 0,.int .i64 0,.int .i64 0]
def mayO(o:Of)(ps:List Int)(tk pt want most m1 m2:Int):Int:=if o.ow=tk∨o.ow∉ps∨tk∉ps∨pt∉ps∨want<1∨most<1 then 0 else
 min (if pt=o.ow then min want o.lf else min (min want o.lf) m1) (fitN (min (min most 1099511627776) m2) o.nu o.de)
def mayV(l:List Of)(ps:List Int)(s tk pt want most m1 m2:Int):Int:=match aBg l s with
 | none=>0
 | some o=>mayO o ps tk pt want most m1 m2
def Goes(ps:List Int)(ls:List Ln)(o:Of)(tk pt m1 m2:Int):Prop:=
 (∃μ,aAk (aB1 ps ls o.sl) 4398046511104 o.ow pt aBs μ∧aBs - μ.left=m1)∧∃μ,aAk (aB1 ps ls o.bu) 4398046511104 tk o.ow aBs μ∧aBs - μ.left=m2
theorem goes_ends{ps:List Int}{ls:List Ln}(h:LInv ps ls)(o:Of)(tk pt:Int):∃m1 m2,Goes ps ls o tk pt m1 m2:=by
 obtain⟨μ,h1⟩:=aCk (aAx h o.sl) o.ow pt aBs;obtain⟨ν,h2⟩:=aCk (aAx h o.bu) tk o.ow aBs;exact⟨_,_,⟨μ,h1,rfl⟩,ν,h2,rfl⟩
theorem aH0{f:Int→Int→Int}(h0:GInv f 4398046511104){s t:Int}{μ:RS}(h:aAk f 4398046511104 s t aBs μ):0≤aBs - μ.left∧aBs - μ.left≤1125899906842624:=by
 by_cases hi:inP s∧inP t∧s≠t
 ·exact aRb h h0 hi.2.2
 rw[aK8 h0 hi h];show 0≤aBs - aBs∧aBs - aBs≤1125899906842624;omega
theorem Goes.bd{ps:List Int}{ls:List Ln}(h:LInv ps ls){o:Of}{tk pt m1 m2:Int}(g:Goes ps ls o tk pt m1 m2):(0≤m1∧m1≤1125899906842624)∧0≤m2∧m2≤1125899906842624:=by
 obtain⟨⟨μ,h1,rfl⟩,ν,h2,rfl⟩:=g;exact⟨aH0 (aAx h _) h1,aH0 (aAx h _) h2⟩
theorem fit_half{nu de g n1:Int}(hm:mayB nu de=true)(h0:0≤g)(hn:n1≤1099511627776):min n1 (fitN g nu de)=min n1 (g*de/nu):=by
 unfold fitN;rw[if_pos ⟨hm,h0⟩];omega
def doOk(l:List Of)(ps:List Int)(s tk pt n m1 m2:Int):Prop:=1≤n∧n≤mayV l ps s tk pt n 1099511627776 m1 m2
theorem doOk.facts{l:List Of}{ps:List Int}{s tk pt n m1 m2:Int}(h:doOk l ps s tk pt n m1 m2):
  ∃o,aBg l s=some o∧(o.ow≠tk∧o.ow∈ps∧tk∈ps∧pt∈ps)∧n≤o.lf∧(pt=o.ow∨n≤m1)∧n≤fitN (min 1099511627776 m2) o.nu o.de:=by
 obtain⟨h1,h2⟩:=h;unfold mayV at h2
 cases hf:aBg l s with
 | none=>rw[hf]at h2;simp at h2;omega
 | some o=>
  rw[hf]at h2;simp only[mayO]at h2;split at h2
  ·omega
  rename_i hb;refine⟨o,rfl,⟨fun h=>hb (.inl h),Classical.byContradiction fun h=>hb (.inr (.inl h)),Classical.byContradiction fun h=>hb (.inr (.inr (.inl h))),Classical.byContradiction fun h=>hb (.inr (.inr (.inr (.inl h))))⟩,?_,?_,?_⟩
  ·split at h2 <;> omega
  ·split at h2
   ·rename_i h;exact .inl h
   exact .inr (by omega)
  have e:min (min 1099511627776 1099511627776) m2=min (1099511627776:Int) m2:=by omega
  rw[e]at h2;omega
theorem aOa{n g nu de:Int}(hm:mayB nu de=true)(h0:0≤g)(hg:g≤1099511627776)(hn:0≤n)(h:n≤fitN g nu de):
  upV2 n nu de=.tuple #[.int .i64 (upN (n*nu) de),.int .i64 0]∧0≤upN (n*nu) de∧upN (n*nu) de≤g:=by
 unfold fitN at h;rw[if_pos ⟨hm,h0⟩]at h;obtain⟨h1,h2,h3,h4,_⟩:=aC4 hm;have hu:=(up_le n nu g de hn h0 h1 h2 (by omega)).2 (by omega)
 have h5:0≤upN (n*nu) de:=by
  have:=Int.ediv_nonneg (Int.mul_nonneg hn (show 0≤nu by omega)) (show 0≤de by omega);unfold upN;split <;> omega
 refine⟨?_,h5,hu⟩;have hi:In64 (upN (n*nu) de):=⟨by omega,by omega⟩;rw[upV2,hm,if_pos rfl,upV,if_neg (by omega),aPt _ hi]
def aIp(ps:List Int)(ls:List Ln)(o:Of)(tk pt n x:Int)(ls':List Ln):Prop:=
 ∃ls1 τ,((pt=o.ow∧ls1=ls)∨(pt≠o.ow∧∃σ,aAk (aB1 ps ls o.sl) 4398046511104 o.ow pt n σ∧ls1=payL ps ls o.ow pt o.sl n σ))∧aAk (aB1 ps ls1 o.bu) 4398046511104 tk o.ow x τ∧ls'=payL ps ls1 tk o.ow o.bu x τ
theorem aIp.eq{ps:List Int}{ls:List Ln}{o:Of}{tk pt n x:Int}{l1 l2:List Ln}(h:aIp ps ls o tk pt n x l1)(g:aIp ps ls o tk pt n x l2):l1=l2:=by
 obtain⟨a,σ,ha,hσ,rfl⟩:=h;obtain⟨b,τ,hb,hτ,rfl⟩:=g
 have e:a=b:=by
  rcases ha with⟨h1,rfl⟩|⟨h1,α,h2,rfl⟩ <;> rcases hb with⟨k1,rfl⟩|⟨k1,β,k2,rfl⟩
  ·rfl
  ·exact absurd h1 k1
  ·exact absurd k1 h1
  rw[h2.eq k2]
 subst e;rw[hσ.eq hτ]
theorem aIp.inv{ps:List Int}{ls:List Ln}{o:Of}{tk pt n x:Int}{l1:List Ln}(h:aIp ps ls o tk pt n x l1)(hI:LInv ps ls):LInv ps l1:=by
 obtain⟨a,σ,ha,hσ,rfl⟩:=h;refine aIi ?_ _ _ _ _ _;rcases ha with⟨h1,rfl⟩|⟨h1,α,h2,rfl⟩
 ·exact hI
 exact aIi hI _ _ _ _ _
end Go.Proofs.YtaeocliklpcgmaaGreat
