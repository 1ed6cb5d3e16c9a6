/-
  Pieces of one proof, without what is not wanted: Exacts, Lives01, Ref02, Rats, Rats2, Ref02d, Ref04.
-/
import Derived.Test.YtngnfdnfpiiclaaGreatV01
import Derived.Test.YtngnfdnfpiiclaaGreatV02
import Derived.Test.YtngnfdnfpiiclaaGreatV06
import Derived.Test.YtngnfdnfpiiclaaGreatV12
import Derived.Deep.CutBlock
import Derived.Lib.Strings
import Derived.Lib.Small
import Derived.Lib.BitFns
import Derived.Lib.Slices
import Derived.Lib.Walk
import Derived.Lib.ItoaNum
import Derived.Deep.RegionWith
import Derived.ScopeJumps
import Derived.WalkMore
import Derived.LoopN
import Derived.Laws.AppendOwnNone
set_option linter.unusedSimpArgs false
set_option linter.unusedVariables false
namespace Go.Proofs.YtngnfdnfpiiclaaGreat
open Go.RowKit
def hi64 (x:Int):Int:=x / 18446744073709551616 % 18446744073709551616
def lo64 (x:Int):Int:=x % 18446744073709551616
def wideV (x:Int):Value:=.agg #[.int .u64 (hi64 x),.int .u64 (lo64 x)]
theorem hi64_bd (x:Int):InU64 (hi64 x):=by unfold hi64 InU64; omega
theorem lo64_bd (x:Int):InU64 (lo64 x):=by unfold lo64 InU64; omega
theorem wideV_eq (x:Int):wideV x=.agg #[.int .u64 (hi64 x),.int .u64 (lo64 x)]:=rfl
theorem wideV_mk (x a b:Int) (ha:a=hi64 x) (hb:b=lo64 x):Value.agg #[.int .u64 a,.int .u64 b]=wideV x:=by rw [ha,hb]; rfl
def okN (x:Int):Int:=if In64 x then x else 0
def erN (x:Int):Int:=if In64 x then 0 else 10
def ans (x:Int):Value:=.tuple #[.int .i64 (okN x),.int .i64 (erN x)]
set_option maxHeartbeats 400000 in
theorem widen_any (n:Int) (w:World) (h:In64 n) :
  Calls Tryz.prog 238 #[.int .i64 n] w fun e w'=>e=.returned (wideV n)∧Below w.heap.size w w':=by
 have hv:=Lib.hid (wideV_mk n (IntKind.u64.wrap (n / 9223372036854775808)) (IntKind.u64.wrap n) (by unfold In64 at h; rw [wrap_u64,hi64]; omega) (by rw [wrap_u64,lo64]))
 obtain ⟨h1,h2⟩:=h
 go_enter Tryz.func238,Tryz.ntmps238
 go_wp2
 refine bodyPost_ret (v:=wideV n) ?_ rfl ⟨rfl,(Below.refl _ _).alloc (Nat.le_refl _) _⟩
 simp [results,Tryz.results238,go_sem]
 exact hv.out
set_option maxHeartbeats 400000 in
theorem plus_any (x y:Int) (w:World) :
  Calls Tryz.prog 237 #[wideV x,wideV y] w fun e w'=>e=.returned (wideV (x + y))∧Below w.heap.size w w':=by
 have bx:=lo64_bd x; have by':=lo64_bd y; have cx:=hi64_bd x; have cy:=hi64_bd y
 have hv:=Lib.hid (wideV_mk (x + y) ((hi64 x + hi64 y + (lo64 x + lo64 y) / 18446744073709551616) % 18446744073709551616) ((lo64 x + lo64 y) % 18446744073709551616) (by unfold hi64 lo64; omega) (by unfold lo64; omega))
 have a1:=fun w=>run_Add64 (lo64 x) (lo64 y) 0 bx.1 by'.1 (by omega) (by omega) w
 unfold InU64 at bx by' cx cy
 have a2:=fun w=>run_Add64 (hi64 x) (hi64 y) ((lo64 x + lo64 y) / 18446744073709551616) cx.1 cy.1 (by omega) (by omega) w
 simp only [Int.add_zero] at a1
 rw [wideV_eq,wideV_eq]
 go_enter Tryz.func237,Tryz.ntmps237
 go_wp2
 refine bodyPost_ret (v:=wideV (x + y)) ?_ rfl ⟨rfl,(((Below.refl _ _).alloc (Nat.le_refl _) _).alloc (by simp) _).alloc (by simp; omega) _⟩
 simp [results,Tryz.results237,go_sem]
 exact hv.out
theorem run_eq_wide (a b c d:Int) (w:World) :
  (Op.equalIn 10000 340 (.agg #[.int .u64 a,.int .u64 b]) (.agg #[.int .u64 c,.int .u64 d])).run Tryz.prog w=.ok (a==c && b==d) w:=by
 have h:=run_equalIn_cells (P:=Tryz.prog) 9999 340 44 2 Tryz.underlying340 (fun w=>by kernel_rfl) (fun w=>by kernel_rfl) #[.int .u64 a,.int .u64 b] #[.int .u64 c,.int .u64 d] rfl rfl
  (fun i=>if i=0 then a==c else b==d) (by
   intro i x y w hx hy
   match i,hx,hy with
   | 0,hx,hy=>simp at hx hy; subst hx hy; exact run_equalIn_int w 9998 44 .u64 .u64 a c Tryz.underlying44
   | 1,hx,hy=>simp at hx hy; subst hx hy; exact run_equalIn_int w 9998 44 .u64 .u64 b d Tryz.underlying44
   | n + 2,hx,_=>simp at hx) w
 rw [h]
 simp [List.range_succ]
theorem narrow_eq (x:Int) (h1:-170141183460469231731687303715884105728≤x) (h2:x<170141183460469231731687303715884105728) :
  wrap64 (lo64 x)=x∨(¬ In64 x∧(hi64 (wrap64 (lo64 x))==hi64 x && lo64 (wrap64 (lo64 x))==lo64 x)=false):=by
 obtain ⟨h3,h4⟩:=wrap64_def (lo64 x)
 generalize wrap64 (lo64 x)=y at *
 unfold In64 hi64 lo64 at *
 by_cases h:y=x
 ·exact .inl h
 ·right
  constructor
  ·omega
  ·rw [Bool.and_eq_false_iff]; left; rw [beq_eq_false_iff_ne]; omega
set_option maxHeartbeats 400000 in
theorem narrow_any (x:Int) (w:World) (h1:-170141183460469231731687303715884105728≤x) (h2:x<170141183460469231731687303715884105728) :
  Calls Tryz.prog 239 #[wideV x] w fun e w'=>e=.returned (ans x)∧Below w.heap.size w w':=by
 have hq:=run_eq_wide
 have h64:=(wrap64_def (lo64 x)).1
 have key:=narrow_eq x h1 h2
 clear h1 h2
 rw [wideV_eq]
 go_enter Tryz.func239,Tryz.ntmps239
 go_wp2
 have hk:=Blk.new w #[Value.int IntKind.u64 (hi64 x),Value.int IntKind.u64 (lo64 x)] 340
 have hbw:Below w.heap.size w (w.alloc (Obj.cells #[Value.int IntKind.u64 (hi64 x),Value.int IntKind.u64 (lo64 x)] 340)):=(Below.refl _ _).alloc (Nat.le_refl _) _
 have hs:w.heap.size<(w.alloc (Obj.cells #[Value.int IntKind.u64 (hi64 x),Value.int IntKind.u64 (lo64 x)] 340)).heap.size:=by simp
 generalize w.alloc (Obj.cells #[Value.int IntKind.u64 (hi64 x),Value.int IntKind.u64 (lo64 x)] 340)=W at *
 have hc0:W.cell? ⟨w.heap.size,0,none⟩=some (.int .u64 (hi64 x)):=hk.cell 0
 have hc1:W.cell? ⟨w.heap.size,1,none⟩=some (.int .u64 (lo64 x)):=hk.cell 1
 generalize wrap64 (lo64 x)=y at *
 have hfit:In64 x→okN x=x∧erN x=0:=fun h=>by simp [okN,erN,h]
 have hnot:¬ In64 x→okN x=0∧erN x=10:=fun h=>by simp [okN,erN,h]
 have hk1:=Lib.hid hfit; have hk2:=Lib.hid hnot; clear hfit hnot
 rcases key with rfl | ⟨hn,hne⟩
 ·go_region_held3 (fun w'=>w'.cell? ⟨w.heap.size,0,none⟩=some (.int .u64 (hi64 y))∧w'.cell? ⟨w.heap.size,1,none⟩=some (.int .u64 (lo64 y))) (go_keep)
   (first | (go_at_call 238; refine (widen_any _ _ h64).mono ?_; simp only [wideV_eq]; rintro e w' ⟨rfl,hb⟩; have c0:=(bcell hb).1 _ 0 hs; have c1:=(bcell hb).1 _ 1 hs))
  go_wp2
  go_ret2
  refine ⟨by rw [ans,(hk1.out h64).1,(hk1.out h64).2]; rfl,hbw.trans ((Below.undrew hb).mono (by simp; omega))⟩
 ·go_region_held3 (fun w'=>w'.cell? ⟨w.heap.size,0,none⟩=some (.int .u64 (hi64 x))∧w'.cell? ⟨w.heap.size,1,none⟩=some (.int .u64 (lo64 x))) (go_keep)
   (first | (go_at_call 238; refine (widen_any _ _ h64).mono ?_; simp only [wideV_eq]; rintro e w' ⟨rfl,hb⟩; have c0:=(bcell hb).1 _ 0 hs; have c1:=(bcell hb).1 _ 1 hs))
  go_wp2
  go_ret2
  exact ⟨by rw [ans,(hk2.out hn).1,(hk2.out hn).2]; rfl,hbw.trans ((Below.undrew hb).mono (by simp; omega))⟩
theorem sum_take (zs:List Int) (k:Nat) (h:k<zs.length):(zs.take (k + 1)).sum=(zs.take k).sum + zs[k]:=by
 rw [List.take_succ_eq_append_getElem h,List.sum_append]; simp
theorem sum_bd (zs:List Int) (hz:∀ z ∈ zs,In64 z):-9223372036854775808 * (zs.length:Int)≤zs.sum∧zs.sum≤9223372036854775807 * (zs.length:Int):=by
 induction zs with
 | nil=>simp
 | cons z l ih =>
  have h1:=hz z (by simp)
  have h2:=ih (fun y hy=>hz y (by simp [hy]))
  unfold In64 at h1
  simp only [List.sum_cons,List.length_cons]
  omega
def SumAt1 (zs:List Int) (w:World) (i:Value) (wr:World):Prop :=
 ∃ k:Nat,k≤zs.length∧i=.int .i64 k∧Blk wr w.heap.size #[.int .u64 (hi64 (zs.take k).sum),.int .u64 (lo64 (zs.take k).sum)] 340∧Below w.heap.size w wr
set_option maxHeartbeats 1000000 in
theorem sum_any (b off cap:Nat) (zs:List Int) (w:World) (hz:∀ z ∈ zs,In64 z) (hl:zs.length≤140737488355328) (hlt:b<w.heap.size)
  (hc:∀ i (h:i<zs.length),w.cell? ⟨b,off + i,none⟩=some (.int .i64 zs[i])) :
  Calls Tryz.prog 199 #[.slice (some ⟨b,off,none⟩) zs.length cap] w fun e w'=>e=.returned (ans zs.sum)∧Below w.heap.size w w':=by
 have ht:=Lib.hid hz
 have hcc:=Lib.hid hc
 have hbd:=Lib.hid (sum_bd zs hz)
 clear hz hc
 go_enter Tryz.func199,Tryz.ntmps199
 go_wp2
 go_loopw [9] (SumAt1 zs w) (fun i _=>zs.length - (intOf i).toNat)
 case atStart=>exact ⟨0,Nat.zero_le _,rfl,Blk.new _ _ _,(Below.refl _ _).alloc (Nat.le_refl _) _⟩
 case round =>
  obtain ⟨k,hk,rfl,hblk,hb⟩:=hrel
  have hg:=hblk.lt
  have hc0:wr.cell? ⟨w.heap.size,0,none⟩=some (.int .u64 (hi64 (zs.take k).sum)):=hblk.cell 0
  have hc1:wr.cell? ⟨w.heap.size,1,none⟩=some (.int .u64 (lo64 (zs.take k).sum)):=hblk.cell 1
  have hf:=hblk.frozen
  by_cases hkl:k<zs.length
  ·have hcell:wr.cell? ⟨b,off + k,none⟩=some (.int .i64 zs[k]):=by rw [hb.cell (p:=⟨b,off + k,none⟩) hlt]; exact hcc.out k hkl
   have hz:=ht.out zs[k] (by simp)
   have hs:=Lib.hid (sum_take zs k hkl)
   generalize zs[k]=z at *
   generalize (zs.take k).sum=s at *
   go_wp2
   go_region_with (first | (go_at_call 238; refine (widen_any _ _ hz).mono ?_; simp only [wideV_eq]; rintro e w' ⟨rfl,hb1⟩; obtain ⟨kc,kf,ks⟩:=keepB hb1 (g:=w.heap.size) (by simp; exact hg)) | (go_at_call 237; simp only [← wideV_eq]; refine (plus_any _ _ _).mono ?_; simp only [wideV_eq]; rintro e w' ⟨rfl,hb2⟩; obtain ⟨lc,lf,ls⟩:=keepB hb2 (g:=w.heap.size) (by first | exact ks | (simp; exact ks))))
   all_goals
    go_wp2
    go_roundw
    case rel =>
     have h3:=((((hblk.drew.below hb1 hg).below hb2 ks).set 0 (.int .u64 (hi64 (s + z)))).set 1 (.int .u64 (lo64 (s + z))))
     exact ⟨k + 1,by omega,by go_num,by rw [hs.out]; exact h3,((andB (hb.trans ((Below.undrew hb1).mono (Nat.le_of_lt hg))) hb2).setCell (Nat.le_refl _) _).setCell (Nat.le_refl _) _⟩
    case measure=>simp [intOf]; omega
  ·have hkk:zs.take k=zs:=List.take_of_length_le (by omega)
   rw [hkk] at hc0 hc1
   have hbd2:=hbd.out
   have hw:=narrow_any zs.sum wr (by omega) (by omega)
   have hn:=Lib.hid hw
   clear hw hbd2 hblk hkk
   go_wp2_with fail
   simp only [← wideV_eq]
   refine hn.out.mono ?_
   rintro e w4 ⟨rfl,b4⟩
   unfold ans
   go_wp2
   go_ret2
   exact ⟨rfl,hb.trans (b4.mono (Nat.le_of_lt hg))⟩
def upN (n den:Int):Int:=if n % den=0 then n / den else n / den + 1
def upV (a num den:Int):Value:=if a<0∨num<0∨den<1 then .tuple #[.int .i64 0,.int .i64 1] else ans (upN (a * num) den)
end Go.Proofs.YtngnfdnfpiiclaaGreat
namespace Go.Proofs.YtngnfdnfpiiclaaGreat
open Go.RowKit
theorem ans_of (x:Int) (h:In64 x):ans x=.tuple #[.int .i64 x,.int .i64 0]:=by simp [ans,okN,erN,h]
end Go.Proofs.YtngnfdnfpiiclaaGreat
namespace Go.Proofs.YtngnfdnfpiiclaaGreat
open Go.RowKit
theorem gcd_step (x y k:Int):Int.gcd (x - y * k) y=Int.gcd x y:=by
 rw [Int.sub_eq_add_neg,← Int.mul_neg]
 exact Int.gcd_add_mul_left_left y x (-k)
def MayN (n d:Int):Prop:=1≤n∧1≤d∧n≤1099511627776∧d≤1099511627776∧Int.gcd n d=1
instance (n d:Int):Decidable (MayN n d):=inferInstanceAs (Decidable (_∧_))
def mayB (n d:Int):Bool:=decide (MayN n d)
def upV2 (a n d:Int):Value:=if mayB n d then upV a n d else .tuple #[.int .i64 0,.int .i64 1]
end Go.Proofs.YtngnfdnfpiiclaaGreat
namespace Go.Proofs.YtngnfdnfpiiclaaGreat
open Go.RowKit
theorem gcd_mod (a b:Int):Int.gcd b (a % b)=Int.gcd a b:=by
 have:=gcd_step a b (a / b)
 rw [show a - b * (a / b)=a % b by have:=Int.mul_ediv_add_emod a b; omega] at this
 rw [Int.gcd_comm,this]
set_option maxHeartbeats 1000000 in
theorem divisor_any (a b:Int) (w:World) (ha:In64 a) (hb:In64 b) (h1:1≤a) (h2:1≤b) :
  Calls Tryz.prog 258 #[.int .i64 a,.int .i64 b] w fun e w'=>e=.returned (.int .i64 (Int.gcd a b))∧Below w.heap.size w w':=by
 have HA:=Lib.hid ha; have HB:=Lib.hid hb
 clear ha hb
 go_enter Tryz.func258,Tryz.ntmps258
 go_wp2
 refine wp_scope_jumps 0 (fun a' w'=>Below w.heap.size w w'∧∃ (x y:Int) (u2 u3 u4 u5 u6 u7 u8 u9 u10 u11:Value),a'={ tmps:=#[.int .i64 x,.int .i64 y,u2,u3,u4,u5,u6,u7,u8,u9,u10,u11],defers:=[] }∧1≤x∧0≤y∧x≤9223372036854775807∧y≤9223372036854775807∧Int.gcd x y=Int.gcd a b) (fun a' _=>(intOf (a'.tmps.getD 1 undef)).toNat) rfl ?_ ?_
 ·by_cases hb:b=0
  ·omega
  ·have hnb:(b==0)=false:=by simp; omega
   have HG:=Lib.hid (gcd_mod a b)
   have HLT:=Lib.hid (Int.emod_lt_of_pos a (show 0<b by omega)); have HGE:=Lib.hid (Int.emod_nonneg a hb)
   go_wp2
   go_step3
   go_wp2
   go_region
   all_goals
    go_wp2
    go_step3
    exact ⟨rfl,(Below.refl _ _).drew,b,_,_,_,_,_,_,_,_,_,_,_,rfl,h2,HGE.out,HB.out.2,by have:=HLT.out; have:=HB.out.2; omega,HG.out⟩
 ·rintro a' w' ⟨bel,x,y,u2,u3,u4,u5,u6,u7,u8,u9,u10,u11,rfl,hx,hy,hx2,hy2,hg⟩
  have HG:=Lib.hid hg
  clear hg
  by_cases hb:y=0
  ·subst hb
   have e:((Int.gcd x 0:Nat):Int)=x:=by rw [Int.gcd_zero_right]; omega
   have hnn:((0:Int)==0)=true:=rfl
   go_wp2
   simp only [Exit.jump]
   go_ret
   exact ⟨by rw [← HG.out,e]; rfl,bel⟩
  ·have hnb:(y==0)=false:=by simp; omega
   have HS:=Lib.hid (gcd_mod x y)
   have HLT:=Lib.hid (Int.emod_lt_of_pos x (show 0<y by omega)); have HGE:=Lib.hid (Int.emod_nonneg x hb)
   go_wp2
   go_region
   all_goals
    go_wp2
    go_step3
    refine ⟨rfl,⟨bel.drew,y,_,_,_,_,_,_,_,_,_,_,_,rfl,by omega,HGE.out,hy2,by have:=HLT.out; omega,by rw [HS.out]; exact HG.out⟩,?_⟩
    have:=HLT.out; have:=HGE.out
    simp [intOf]; omega
def ofRN (n d:Int):Int:=if n<1∨d<1 then 0 else if 1099511627776<n / Int.gcd n d∨1099511627776<d / Int.gcd n d then 0 else n / Int.gcd n d
def ofD (n d:Int):Int:=if n<1∨d<1 then 0 else if 1099511627776<n / Int.gcd n d∨1099511627776<d / Int.gcd n d then 0 else d / Int.gcd n d
def ofE (n d:Int):Int:=if n<1∨d<1 then 1 else if 1099511627776<n / Int.gcd n d∨1099511627776<d / Int.gcd n d then 10 else 0
def ofV (n d:Int):Value:=.tuple #[.agg #[.int .i64 (ofRN n d),.int .i64 (ofD n d)],.int .i64 (ofE n d)]
theorem ofV_arg {n d:Int} (h:n<1∨d<1):ofV n d=.tuple #[.agg #[.int .i64 0,.int .i64 0],.int .i64 1]:=by simp [ofV,ofRN,ofD,ofE,h]
theorem ofV_over {n d g:Int} (h:1≤n) (h2:1≤d) (hg:(Int.gcd n d:Int)=g) (ho:1099511627776<n / g∨1099511627776<d / g):ofV n d=.tuple #[.agg #[.int .i64 0,.int .i64 0],.int .i64 10]:=by
 have hn:¬ (n<1∨d<1):=by omega
 subst hg
 simp [ofV,ofRN,ofD,ofE,hn,ho]
theorem ofV_good {n d g:Int} (h:1≤n) (h2:1≤d) (hg:(Int.gcd n d:Int)=g) (ho:¬ (1099511627776<n / g∨1099511627776<d / g)):ofV n d=.tuple #[.agg #[.int .i64 (n / g),.int .i64 (d / g)],.int .i64 0]:=by
 have hn:¬ (n<1∨d<1):=by omega
 subst hg
 simp [ofV,ofRN,ofD,ofE,hn,ho]
theorem gcd_bd {n d:Int} (h:1≤n) (hd:1≤d):(1:Int)≤Int.gcd n d∧0≤n / Int.gcd n d∧n / Int.gcd n d≤n∧0≤d / Int.gcd n d∧d / Int.gcd n d≤d:=by
 have h1:0<Int.gcd n d:=Int.gcd_pos_of_ne_zero_left _ (by omega)
 exact ⟨by omega,Int.ediv_nonneg (by omega) (by omega),Int.ediv_le_self _ (by omega),Int.ediv_nonneg (by omega) (by omega),Int.ediv_le_self _ (by omega)⟩
set_option maxHeartbeats 1000000 in
theorem of_arg (n d:Int) (w:World) (h:n<1∨d<1) :
  Calls Tryz.prog 223 #[.int .i64 n,.int .i64 d] w fun e w'=>e=.returned (ofV n d)∧Below w.heap.size w w':=by
 rw [ofV_arg h]
 have q2:Blk (w.alloc (.cells #[.int .i64 0,.int .i64 0] 73)) w.heap.size #[.int .i64 0,.int .i64 0] 73:=Blk.new _ _ _
 have hlt:=q2.lt
 clear q2
 have hs:n<1∨(1≤n∧d<1):=by omega
 clear h
 rcases hs with h1 | ⟨h1,h2⟩
 all_goals
  go_enter Tryz.func223,Tryz.ntmps223
  go_wp2
  refine bodyPost_ret (v:=.tuple #[.agg #[.int .i64 0,.int .i64 0],.int .i64 1]) (results_cell_and rfl _ _ w.heap.size 73 #[.int .i64 0,.int .i64 0] _ _ rfl (Blk.new w #[.int .i64 0,.int .i64 0] 73).out Tryz.underlying73 rfl (by kernel_rfl) rfl) rfl ⟨rfl,?_⟩
  exact ((Below.refl _ _).alloc (Nat.le_refl _) _)
set_option maxHeartbeats 1000000 in
theorem of_two (n d g x y:Int) (w:World) (h1:1≤n) (h2:1≤d) (hn:In64 n) (hd:In64 d) (hg:(Int.gcd n d:Int)=g) (hx:n / g=x) (hy:d / g=y) (hx0:0≤x) (hy0:0≤y) (hxn:x≤n) (hyd:y≤d) (hg0:1≤g) :
  Calls Tryz.prog 223 #[.int .i64 n,.int .i64 d] w fun e w'=>e=.returned (if 1099511627776<x∨1099511627776<y then .tuple #[.agg #[.int .i64 0,.int .i64 0],.int .i64 10] else .tuple #[.agg #[.int .i64 x,.int .i64 y],.int .i64 0])∧Below w.heap.size w w':=by
 have c:=Lib.hid (fun w=>divisor_any n d w hn hd h1 h2)
 rw [hg] at c
 have e1:Int.tdiv n g=x:=by rw [← hx]; exact Int.tdiv_eq_ediv_of_nonneg (by omega)
 have e2:Int.tdiv d g=y:=by rw [← hy]; exact Int.tdiv_eq_ediv_of_nonneg (by omega)
 have ew1:wrap64 x=x:=wrap64_of x ⟨by omega,by have:=hn.2; omega⟩
 have ew2:wrap64 y=y:=wrap64_of y ⟨by omega,by have:=hd.2; omega⟩
 have q2:Blk (w.alloc (.cells #[.int .i64 0,.int .i64 0] 73)) w.heap.size #[.int .i64 0,.int .i64 0] 73:=Blk.new _ _ _
 have b0:Below w.heap.size w (w.alloc (.cells #[.int .i64 0,.int .i64 0] 73)):=(Below.refl _ _).alloc (Nat.le_refl _) _
 have Q2:=Lib.hid q2; have B0:=Lib.hid b0
 have hs:1099511627776<x∨(x≤1099511627776∧1099511627776<y)∨(x≤1099511627776∧y≤1099511627776):=by omega
 clear q2 b0 hn hd
 rcases hs with o1 | ⟨o1,o2⟩ | ⟨o1,o2⟩
 ·rw [if_pos (.inl o1)]
  go_enter Tryz.func223,Tryz.ntmps223
  go_wp2_with fail
  refine (c.out _).mono ?_
  rintro e w1 ⟨rfl,bw⟩
  have k1:=Q2.out.below bw Q2.out.lt
  have B1:=Lib.hid (B0.out.trans (bw.mono (by simp)))
  have d0:=k1.cell 0; have d1:=k1.cell 1
  simp at d0 d1
  have f1:=k1.frozen
  have hz:=k1.lt
  have K1:=Lib.hid k1
  clear k1 bw
  go_wp2
  go_region
  all_goals
   go_wp2
   refine bodyPost_ret (v:=.tuple #[.agg #[.int .i64 0,.int .i64 0],.int .i64 10]) (results_cell_and rfl _ _ w.heap.size 73 #[.int .i64 0,.int .i64 0] _ _ rfl (Blk.drew (((K1.out.set 0 (.int .i64 0)).set 1 (.int .i64 0)).alloc _)).out Tryz.underlying73 rfl (by kernel_rfl) rfl) rfl ⟨rfl,?_⟩
   first
   | exact ((((B1.out.alloc B1.out.size _).drew).setCell (Nat.le_refl _) _).setCell (Nat.le_refl _) _)
   | exact ((((B1.out.setCell (Nat.le_refl _) _).setCell (Nat.le_refl _) _).alloc (by simpa using B1.out.size) _).drew)
 ·rw [if_pos (.inr o2)]
  go_enter Tryz.func223,Tryz.ntmps223
  go_wp2_with fail
  refine (c.out _).mono ?_
  rintro e w1 ⟨rfl,bw⟩
  have k1:=Q2.out.below bw Q2.out.lt
  have B1:=Lib.hid (B0.out.trans (bw.mono (by simp)))
  have d0:=k1.cell 0; have d1:=k1.cell 1
  simp at d0 d1
  have f1:=k1.frozen
  have hz:=k1.lt
  have K1:=Lib.hid k1
  clear k1 bw
  go_wp2
  go_region
  all_goals
   go_wp2
   refine bodyPost_ret (v:=.tuple #[.agg #[.int .i64 0,.int .i64 0],.int .i64 10]) (results_cell_and rfl _ _ w.heap.size 73 #[.int .i64 0,.int .i64 0] _ _ rfl (Blk.drew (((K1.out.set 0 (.int .i64 0)).set 1 (.int .i64 0)).alloc _)).out Tryz.underlying73 rfl (by kernel_rfl) rfl) rfl ⟨rfl,?_⟩
   first
   | exact ((((B1.out.alloc B1.out.size _).drew).setCell (Nat.le_refl _) _).setCell (Nat.le_refl _) _)
   | exact ((((B1.out.setCell (Nat.le_refl _) _).setCell (Nat.le_refl _) _).alloc (by simpa using B1.out.size) _).drew)
 ·rw [if_neg (by omega)]
  go_enter Tryz.func223,Tryz.ntmps223
  go_wp2_with fail
  refine (c.out _).mono ?_
  rintro e w1 ⟨rfl,bw⟩
  have k1:=Q2.out.below bw Q2.out.lt
  have B1:=Lib.hid (B0.out.trans (bw.mono (by simp)))
  have d0:=k1.cell 0; have d1:=k1.cell 1
  simp at d0 d1
  have f1:=k1.frozen
  have hz:=k1.lt
  have K1:=Lib.hid k1
  clear k1 bw
  go_wp2
  go_region
  all_goals
   go_wp2
   refine bodyPost_ret (v:=.tuple #[.agg #[.int .i64 x,.int .i64 y],.int .i64 0]) (results_cell_and rfl _ _ w.heap.size 73 #[.int .i64 x,.int .i64 y] _ _ rfl (Blk.drew (((K1.out.set 0 (.int .i64 x)).set 1 (.int .i64 y)).alloc _)).out Tryz.underlying73 rfl (by kernel_rfl) rfl) rfl ⟨rfl,?_⟩
   first
   | exact ((((B1.out.alloc B1.out.size _).drew).setCell (Nat.le_refl _) _).setCell (Nat.le_refl _) _)
   | exact ((((B1.out.setCell (Nat.le_refl _) _).setCell (Nat.le_refl _) _).alloc (by simpa using B1.out.size) _).drew)
theorem of_rat (n d:Int) (w:World) (hn:In64 n) (hd:In64 d) :
  Calls Tryz.prog 223 #[.int .i64 n,.int .i64 d] w fun e w'=>e=.returned (ofV n d)∧Below w.heap.size w w':=by
 by_cases h:n<1∨d<1
 ·exact of_arg n d w h
 ·obtain ⟨g0,x0,xn,y0,yd⟩:=gcd_bd (n:=n) (d:=d) (by omega) (by omega)
  have:=of_two n d _ _ _ w (by omega) (by omega) hn hd rfl rfl rfl x0 y0 xn yd g0
  refine this.mono fun e w' ⟨he,hb⟩=>⟨?_,hb⟩
  rw [he]
  by_cases ho:1099511627776<n / Int.gcd n d∨1099511627776<d / Int.gcd n d
  ·rw [if_pos ho,ofV_over (by omega) (by omega) rfl ho]
  ·rw [if_neg ho,ofV_good (by omega) (by omega) rfl ho]
end Go.Proofs.YtngnfdnfpiiclaaGreat
namespace Go.Proofs.YtngnfdnfpiiclaaGreat
open Go.RowKit
theorem may_iff (n d:Int):mayB n d=true↔MayN n d:=by simp [mayB]
theorem of_self {n d:Int} (h:MayN n d):ofRN n d=n∧ofD n d=d:=by
 obtain ⟨h1,h2,h3,h4,h5⟩:=h
 have hn:¬ (n<1∨d<1):=by omega
 have e1:n / (1:Int)=n:=Int.ediv_one n
 have e2:d / (1:Int)=d:=Int.ediv_one d
 have ho:¬ (1099511627776<n∨1099511627776<d):=by omega
 simp [ofRN,ofD,hn,h5,ho]
theorem of_not {n d:Int} (h:¬ MayN n d):(ofRN n d=n∧ofD n d=d∧n=0∧d=0)∨ofRN n d≠n∨ofD n d≠d:=by
 unfold ofRN ofD
 by_cases hn:n<1∨d<1
 ·rw [if_pos hn,if_pos hn]; omega
 ·rw [if_neg hn,if_neg hn]
  by_cases ho:1099511627776<n / Int.gcd n d∨1099511627776<d / Int.gcd n d
  ·rw [if_pos ho,if_pos ho]; omega
  ·rw [if_neg ho,if_neg ho]
   right
   rcases Classical.em (n / Int.gcd n d=n) with e | e
   ·have g1:Int.gcd n d=1:=by
     have hd:=Int.mul_ediv_cancel' (Int.gcd_dvd_left (a:=n) (b:=d))
     rw [e] at hd
     have hnn:n * ((Int.gcd n d:Int) - 1)=0:=by rw [Int.mul_sub,Int.mul_one,Int.mul_comm]; omega
     rcases Int.mul_eq_zero.1 hnn with h | h <;> omega
    rw [g1] at ho
    have e1:n / ((1:Nat):Int)=n:=Int.ediv_one n
    have e2:d / ((1:Nat):Int)=d:=Int.ediv_one d
    rw [e1,e2] at ho
    exact absurd ⟨by omega,by omega,by omega,by omega,g1⟩ h
   ·exact .inl e
def alN (n d:Int):Int:=if mayB n d then n else 0
def alD (n d:Int):Int:=if mayB n d then d else 0
set_option maxHeartbeats 1000000 in
theorem allowed_any (n d:Int) (w:World) (hn:In64 n) (hd:In64 d) :
  Calls Tryz.prog 190 #[.agg #[.int .i64 n,.int .i64 d]] w fun e w'=>e=.returned (.agg #[.int .i64 (alN n d),.int .i64 (alD n d)])∧Below w.heap.size w w':=by
 have c:=Lib.hid (fun w=>of_rat n d w hn hd)
 unfold ofV at c
 have hs:(ofRN n d=n∧ofD n d=d∧alN n d=n∧alD n d=d)∨(ofRN n d≠n∧alN n d=0∧alD n d=0)∨(ofRN n d=n∧ofD n d≠d∧alN n d=0∧alD n d=0):=by
  unfold alN alD
  by_cases hm:MayN n d
  ·rw [(may_iff n d).2 hm]; obtain ⟨a,b⟩:=of_self hm; exact .inl ⟨a,b,rfl,rfl⟩
  ·have e:mayB n d=false:=by rw [Bool.eq_false_iff]; exact fun h=>hm ((may_iff n d).1 h)
   rw [e]
   rcases of_not hm with ⟨a,b,rfl,rfl⟩ | h | h
   ·exact .inl ⟨a,b,rfl,rfl⟩
   ·exact .inr (.inl ⟨h,rfl,rfl⟩)
   ·by_cases h':ofRN n d=n
    ·exact .inr (.inr ⟨h',h,rfl,rfl⟩)
    ·exact .inr (.inl ⟨h',rfl,rfl⟩)
 generalize ofRN n d=x at *
 generalize ofD n d=y at *
 generalize ofE n d=z at *
 have k1:Blk ((w.alloc (.cells #[.int .i64 n,.int .i64 d] 73)).alloc (.cells #[.int .i64 0,.int .i64 0] 73)) w.heap.size #[.int .i64 n,.int .i64 d] 73:=(Blk.new _ _ _).alloc _
 have k2:Blk ((w.alloc (.cells #[.int .i64 n,.int .i64 d] 73)).alloc (.cells #[.int .i64 0,.int .i64 0] 73)) (w.heap.size + 1) #[.int .i64 0,.int .i64 0] 73:=Blk.newAt _ _ _ (by simp)
 have b0:Below w.heap.size w ((w.alloc (.cells #[.int .i64 n,.int .i64 d] 73)).alloc (.cells #[.int .i64 0,.int .i64 0] 73)):=((Below.refl _ _).alloc (Nat.le_refl _) _).alloc (by simp) _
 have K1:=Lib.hid k1; have K2:=Lib.hid k2; have B0:=Lib.hid b0
 clear k1 k2 b0 hn hd
 rcases hs with ⟨e1,e2,e3,e4⟩ | ⟨e1,e3,e4⟩ | ⟨e1,e2,e3,e4⟩
 ·rw [e3,e4]
  subst e1 e2
  clear e3 e4
  go_enter Tryz.func190,Tryz.ntmps190
  go_wp2_with fail
  refine (c.out _).mono ?_
  rintro e w1 ⟨rfl,bw⟩
  have q1:=K1.out.below bw K1.out.lt; have q2:=K2.out.below bw K2.out.lt
  have B1:=Lib.hid (B0.out.trans (bw.mono (by simp; omega)))
  have d0:=q1.cell 0; have d1:=q1.cell 1; have e0:=q2.cell 0; have e1:=q2.cell 1
  simp at d0 d1 e0 e1
  have f2:=q2.frozen
  have hz:=q1.lt; have hz2:=q2.lt
  have Q1:=Lib.hid q1; have Q2:=Lib.hid q2
  clear q1 q2 bw
  go_wp2
  refine bodyPost_ret (v:=.agg #[.int .i64 x,.int .i64 y]) (results_cell_row rfl _ _ (w.heap.size + 1) 73 #[.int .i64 x,.int .i64 y] (0,0) _ rfl (((Q2.out.set 0 (.int .i64 x)).set 1 (.int .i64 y)).alloc _).out Tryz.underlying73 rfl (by kernel_rfl)) rfl ⟨by simp,?_⟩
  exact (((B1.out.setCell (by simp) _).setCell (by simp) _).alloc (by simpa using B1.out.size) _)
 ·rw [e3,e4]
  have e5:(x==n)=false:=by simp [e1]
  clear e1 e3 e4
  go_enter Tryz.func190,Tryz.ntmps190
  go_wp2_with fail
  refine (c.out _).mono ?_
  rintro e w1 ⟨rfl,bw⟩
  have q1:=K1.out.below bw K1.out.lt; have q2:=K2.out.below bw K2.out.lt
  have B1:=Lib.hid (B0.out.trans (bw.mono (by simp; omega)))
  have d0:=q1.cell 0; have d1:=q1.cell 1; have e0:=q2.cell 0; have e1:=q2.cell 1
  simp at d0 d1 e0 e1
  have f2:=q2.frozen
  have hz:=q1.lt; have hz2:=q2.lt
  have Q1:=Lib.hid q1; have Q2:=Lib.hid q2
  clear q1 q2 bw
  go_wp2
  refine bodyPost_ret (v:=.agg #[.int .i64 0,.int .i64 0]) (results_cell_row rfl _ _ (w.heap.size + 1) 73 #[.int .i64 0,.int .i64 0] (0,0) _ rfl (((Q2.out.set 0 (.int .i64 0)).set 1 (.int .i64 0)).alloc _).out Tryz.underlying73 rfl (by kernel_rfl)) rfl ⟨by simp,?_⟩
  exact (((B1.out.setCell (by simp) _).setCell (by simp) _).alloc (by simpa using B1.out.size) _)
 ·rw [e3,e4]
  subst e1
  have e5:(y==d)=false:=by simp [e2]
  clear e2 e3 e4
  go_enter Tryz.func190,Tryz.ntmps190
  go_wp2_with fail
  refine (c.out _).mono ?_
  rintro e w1 ⟨rfl,bw⟩
  have q1:=K1.out.below bw K1.out.lt; have q2:=K2.out.below bw K2.out.lt
  have B1:=Lib.hid (B0.out.trans (bw.mono (by simp; omega)))
  have d0:=q1.cell 0; have d1:=q1.cell 1; have e0:=q2.cell 0; have e1:=q2.cell 1
  simp at d0 d1 e0 e1
  have f2:=q2.frozen
  have hz:=q1.lt; have hz2:=q2.lt
  have Q1:=Lib.hid q1; have Q2:=Lib.hid q2
  clear q1 q2 bw
  go_wp2
  refine bodyPost_ret (v:=.agg #[.int .i64 0,.int .i64 0]) (results_cell_row rfl _ _ (w.heap.size + 1) 73 #[.int .i64 0,.int .i64 0] (0,0) _ rfl (((Q2.out.set 0 (.int .i64 0)).set 1 (.int .i64 0)).alloc _).out Tryz.underlying73 rfl (by kernel_rfl)) rfl ⟨by simp,?_⟩
  exact (((B1.out.setCell (by simp) _).setCell (by simp) _).alloc (by simpa using B1.out.size) _)
theorem al_cases (n d:Int):(mayB n d=true∧alN n d=n∧alD n d=d∧1≤n∧1≤d∧n≤1099511627776∧d≤1099511627776)∨(mayB n d=false∧alN n d=0∧alD n d=0):=by
 unfold alN alD
 by_cases hm:MayN n d
 ·rw [(may_iff n d).2 hm]; exact .inl ⟨rfl,rfl,rfl,hm.1,hm.2.1,hm.2.2.1,hm.2.2.2.1⟩
 ·have e:mayB n d=false:=by rw [Bool.eq_false_iff]; exact fun h=>hm ((may_iff n d).1 h)
  rw [e]; exact .inr ⟨rfl,rfl,rfl⟩
set_option maxHeartbeats 1000000 in
theorem rtmay_any (n d:Int) (w:World) (hn:In64 n) (hd:In64 d) :
  Calls Tryz.prog 148 #[.agg #[.int .i64 n,.int .i64 d]] w fun e w'=>e=.returned (.bool (mayB n d))∧Below w.heap.size w w':=by
 have c:=Lib.hid (fun w=>allowed_any n d w hn hd)
 have B0:=Lib.hid ((Below.refl w.heap.size w).alloc (Nat.le_refl _) (.cells #[.int .i64 n,.int .i64 d] 73))
 clear hn hd
 rcases al_cases n d with ⟨hm,h1,h2,h3,h4,h5,h6⟩ | ⟨hm,h1,h2⟩
 ·rw [h1,h2] at c
  rw [hm]
  have e1:(n==0)=false:=by simp; omega
  clear h1 h2 h4 h5 h6 h3
  go_enter Tryz.func148,Tryz.ntmps148
  go_wp2_with fail
  refine (c.out _).mono ?_
  rintro e w1 ⟨rfl,b1⟩
  go_wp2_with fail
  go_ret
  exact ⟨rfl,B0.out.trans (b1.mono (by simp))⟩
 ·rw [h1,h2] at c
  rw [hm]
  clear h1 h2
  go_enter Tryz.func148,Tryz.ntmps148
  go_wp2_with fail
  refine (c.out _).mono ?_
  rintro e w1 ⟨rfl,b1⟩
  go_wp2_with fail
  go_ret
  exact ⟨rfl,B0.out.trans (b1.mono (by simp))⟩
set_option maxHeartbeats 1000000 in
theorem inverse_any (n d:Int) (w:World) (hn:In64 n) (hd:In64 d) :
  Calls Tryz.prog 305 #[.agg #[.int .i64 n,.int .i64 d]] w fun e w'=>e=.returned (.agg #[.int .i64 (alD n d),.int .i64 (alN n d)])∧Below w.heap.size w w':=by
 have c:=Lib.hid (fun w=>allowed_any n d w hn hd)
 have k1:Blk ((w.alloc (.cells #[.int .i64 n,.int .i64 d] 73)).alloc (.cells #[.int .i64 0,.int .i64 0] 73)) w.heap.size #[.int .i64 n,.int .i64 d] 73:=(Blk.new _ _ _).alloc _
 have k2:Blk ((w.alloc (.cells #[.int .i64 n,.int .i64 d] 73)).alloc (.cells #[.int .i64 0,.int .i64 0] 73)) (w.heap.size + 1) #[.int .i64 0,.int .i64 0] 73:=Blk.newAt _ _ _ (by simp)
 have b0:Below w.heap.size w ((w.alloc (.cells #[.int .i64 n,.int .i64 d] 73)).alloc (.cells #[.int .i64 0,.int .i64 0] 73)):=((Below.refl _ _).alloc (Nat.le_refl _) _).alloc (by simp) _
 have K1:=Lib.hid k1; have K2:=Lib.hid k2; have B0:=Lib.hid b0
 clear k1 k2 b0 hn hd
 generalize alN n d=x at *
 generalize alD n d=y at *
 go_enter Tryz.func305,Tryz.ntmps305
 go_wp2_with fail
 refine (c.out _).mono ?_
 rintro e w1 ⟨rfl,bw⟩
 have q1:=K1.out.below bw K1.out.lt; have q2:=K2.out.below bw K2.out.lt
 have B1:=Lib.hid (B0.out.trans (bw.mono (by simp; omega)))
 have d0:=q1.cell 0; have d1:=q1.cell 1; have e0:=q2.cell 0; have e1:=q2.cell 1
 simp at d0 d1 e0 e1
 have f1:=q1.frozen; have f2:=q2.frozen
 have hz:=q1.lt; have hz2:=q2.lt
 have Q1:=Lib.hid q1; have Q2:=Lib.hid q2
 clear q1 q2 bw
 go_wp2
 refine bodyPost_ret (v:=.agg #[.int .i64 y,.int .i64 x]) (results_cell_row rfl _ _ (w.heap.size + 1) 73 #[.int .i64 y,.int .i64 x] (0,0) _ rfl ((((Q2.out.setOther (by simp) _).setOther (by simp) _).set 0 (.int .i64 y)).set 1 (.int .i64 x)).out Tryz.underlying73 rfl (by kernel_rfl)) rfl ⟨by simp,?_⟩
 exact ((((B1.out.setCell (by simp) _).setCell (by simp) _).setCell (by simp) _).setCell (by simp) _)
end Go.Proofs.YtngnfdnfpiiclaaGreat
namespace Go.Proofs.YtngnfdnfpiiclaaGreat
open Go.RowKit
def fitN (n num den:Int):Int:=if mayB num den=true∧0≤n then min (n * den / num) 1099511627776 else 0
def cmpI (x y:Int):Int:=if x<y then -1 else if y<x then 1 else 0
def orI (p q:Int):Int:=if p=0 then q else p
theorem isnan_any (x:Int) (w:World) :
  Calls Tryz.prog 340 #[.int .u64 x] w fun e w'=>e=.returned (.bool false)∧w'=w:=by
 have hx:(x==x)=true:=by simp
 go_enter Tryz.func340,Tryz.ntmps340
 go_wp2
 go_ret
 exact ⟨rfl,rfl⟩
theorem compare_u64 (x y:Int) (w:World) :
  Calls Tryz.prog 314 #[.int .u64 x,.int .u64 y] w fun e w'=>e=.returned (.int .i64 (cmpI x y))∧w'=w:=by
 have c1:=Lib.hid (fun w=>isnan_any x w)
 have c2:=Lib.hid (fun w=>isnan_any y w)
 rcases Int.lt_trichotomy x y with h | h | h
 ·rw [show cmpI x y = -1 by unfold cmpI; rw [if_pos h]]
  go_enter Tryz.func314,Tryz.ntmps314
  go_wp2_with fail
  refine (c1.out _).mono ?_
  rintro e w1 ⟨rfl,rfl⟩
  go_wp2_with fail
  refine (c2.out _).mono ?_
  rintro e w1 ⟨rfl,rfl⟩
  go_wp2_with fail
  go_ret
  exact ⟨rfl,rfl⟩
 ·rw [show cmpI x y=0 by unfold cmpI; rw [if_neg (by omega),if_neg (by omega)]]
  subst h
  go_enter Tryz.func314,Tryz.ntmps314
  go_wp2_with fail
  refine (c1.out _).mono ?_
  rintro e w1 ⟨rfl,rfl⟩
  go_wp2_with fail
  refine (c2.out _).mono ?_
  rintro e w1 ⟨rfl,rfl⟩
  go_wp2_with fail
  go_ret
  exact ⟨rfl,rfl⟩
 ·rw [show cmpI x y=1 by unfold cmpI; rw [if_neg (by omega),if_pos h]]
  have h2:¬ x<y:=by omega
  go_enter Tryz.func314,Tryz.ntmps314
  go_wp2_with fail
  refine (c1.out _).mono ?_
  rintro e w1 ⟨rfl,rfl⟩
  go_wp2_with fail
  refine (c2.out _).mono ?_
  rintro e w1 ⟨rfl,rfl⟩
  go_wp2_with fail
  go_ret
  exact ⟨rfl,rfl⟩
theorem or_two (b cap:Nat) (p q:Int) (w:World) (hlt:b<w.heap.size) (h0:w.cell? ⟨b,0,none⟩=some (.int .i64 p)) (h1:w.cell? ⟨b,1,none⟩=some (.int .i64 q)) :
  Calls Tryz.prog 142 #[.slice (some ⟨b,0,none⟩) 2 cap] w fun e w'=>e=.returned (.int .i64 (orI p q))∧w'=w:=by
 unfold orI
 by_cases hp:p=0
 ·rw [if_pos hp]
  subst hp
  by_cases hq:q=0
  ·subst hq
   go_enter Tryz.func142,Tryz.ntmps142
   go_wp2
   refine wp_loop_rounds 3 ?_
   rw [rounds_succ]; go_wp2
   rw [rounds_succ]; go_wp2
   rw [rounds_succ]; go_wp2
   go_ret
   exact ⟨rfl,rfl⟩
  ·have hb:(q==0)=false:=by simp [hq]
   go_enter Tryz.func142,Tryz.ntmps142
   go_wp2
   refine wp_loop_rounds 2 ?_
   rw [rounds_succ]; go_wp2
   rw [rounds_succ]; go_wp2
   go_ret
   exact ⟨rfl,rfl⟩
 ·rw [if_neg hp]
  have hb:(p==0)=false:=by simp [hp]
  go_enter Tryz.func142,Tryz.ntmps142
  go_wp2
  refine wp_loop_rounds 1 ?_
  rw [rounds_succ]; go_wp2
  go_ret
  exact ⟨rfl,rfl⟩
end Go.Proofs.YtngnfdnfpiiclaaGreat
namespace Go.Proofs.YtngnfdnfpiiclaaGreat
open Go.RowKit
theorem cmp_words (x y:Int):orI (cmpI (x / 18446744073709551616) (y / 18446744073709551616)) (cmpI (x % 18446744073709551616) (y % 18446744073709551616))=cmpI x y:=by
 unfold orI cmpI
 split <;> (repeat' split at *) <;> omega
def cmpR (an ad bn bd:Int):Int:=if mayB an ad=true∧mayB bn bd=true then cmpI (an * bd) (bn * ad) else 0
theorem may_bd {n d:Int} (h:mayB n d=true):1≤n∧1≤d∧n≤1099511627776∧d≤1099511627776∧Int.gcd n d=1:=(may_iff n d).1 h
set_option maxHeartbeats 1000000 in
theorem compare_any (an ad bn bd:Int) (w:World) (h1:In64 an) (h2:In64 ad) (h3:In64 bn) (h4:In64 bd) :
  Calls Tryz.prog 306 #[.agg #[.int .i64 an,.int .i64 ad],.agg #[.int .i64 bn,.int .i64 bd]] w fun e w'=>e=.returned (.int .i64 (cmpR an ad bn bd))∧Below w.heap.size w w':=by
 have c1:=Lib.hid (fun w=>rtmay_any an ad w h1 h2)
 have c2:=Lib.hid (fun w=>rtmay_any bn bd w h3 h4)
 have k1:Blk ((w.alloc (.cells #[.int .i64 an,.int .i64 ad] 73)).alloc (.cells #[.int .i64 bn,.int .i64 bd] 73)) w.heap.size #[.int .i64 an,.int .i64 ad] 73:=(Blk.new _ _ _).alloc _
 have k2:Blk ((w.alloc (.cells #[.int .i64 an,.int .i64 ad] 73)).alloc (.cells #[.int .i64 bn,.int .i64 bd] 73)) (w.heap.size + 1) #[.int .i64 bn,.int .i64 bd] 73:=Blk.newAt _ _ _ (by simp)
 have b0:Below w.heap.size w ((w.alloc (.cells #[.int .i64 an,.int .i64 ad] 73)).alloc (.cells #[.int .i64 bn,.int .i64 bd] 73)):=((Below.refl _ _).alloc (Nat.le_refl _) _).alloc (by simp) _
 have K1:=Lib.hid k1; have K2:=Lib.hid k2; have B0:=Lib.hid b0
 clear k1 k2 b0 h1 h2 h3 h4
 by_cases hm:mayB an ad=true
 ·by_cases hm2:mayB bn bd=true
  ·rw [show cmpR an ad bn bd=cmpI (an * bd) (bn * ad) by unfold cmpR; rw [if_pos ⟨hm,hm2⟩],← cmp_words]
   obtain ⟨p1,p2,p3,p4,_⟩:=may_bd hm
   obtain ⟨q1,q2,q3,q4,_⟩:=may_bd hm2
   rw [hm] at c1; rw [hm2] at c2
   have u1:IntKind.u64.wrap an=an:=u64_of _ ⟨by omega,by omega⟩
   have u2:IntKind.u64.wrap ad=ad:=u64_of _ ⟨by omega,by omega⟩
   have u3:IntKind.u64.wrap bn=bn:=u64_of _ ⟨by omega,by omega⟩
   have u4:IntKind.u64.wrap bd=bd:=u64_of _ ⟨by omega,by omega⟩
   have cm1:=Lib.hid (fun w=>mul64_any an bd w ⟨by omega,by omega⟩ ⟨by omega,by omega⟩)
   have cm2:=Lib.hid (fun w=>mul64_any bn ad w ⟨by omega,by omega⟩ ⟨by omega,by omega⟩)
   have cc:=Lib.hid compare_u64
   generalize an * bd=x at *
   generalize bn * ad=y at *
   clear hm hm2 p1 p2 p3 p4 q1 q2 q3 q4
   go_enter Tryz.func306,Tryz.ntmps306
   go_wp2_with fail
   refine (c1.out _).mono ?_
   rintro e w1 ⟨rfl,b1⟩
   have B1:=Lib.hid (B0.out.trans (b1.mono (by simp; omega)))
   have r1:=K1.out.below b1 K1.out.lt; have r2:=K2.out.below b1 K2.out.lt
   have d0:=r1.cell 0; have d1:=r1.cell 1; have e0:=r2.cell 0; have e1:=r2.cell 1
   simp at d0 d1 e0 e1
   have R1:=Lib.hid r1; have R2:=Lib.hid r2
   clear r1 r2 b1
   go_wp2_with fail
   refine (c2.out _).mono ?_
   rintro e w2 ⟨rfl,b2⟩
   have B2:=Lib.hid (B1.out.trans (b2.mono B1.out.size))
   have r1:=R1.out.below b2 R1.out.lt; have r2:=R2.out.below b2 R2.out.lt
   clear d0 d1 e0 e1
   have d0:=r1.cell 0; have d1:=r1.cell 1; have e0:=r2.cell 0; have e1:=r2.cell 1
   simp at d0 d1 e0 e1
   clear r1 r2 b2
   go_wp2_with fail
   refine (cm1.out _).mono ?_
   rintro e w2 ⟨rfl,rfl⟩
   go_wp2_with fail
   refine (cm2.out _).mono ?_
   rintro e w2 ⟨rfl,rfl⟩
   go_wp2_with fail
   refine (cc.out _ _ _).mono ?_
   rintro e w2 ⟨rfl,rfl⟩
   go_wp2_with fail
   refine (cc.out _ _ _).mono ?_
   rintro e w2 ⟨rfl,rfl⟩
   go_wp2_with fail
   refine (or_two w2.heap.size _ (cmpI (x / 18446744073709551616) (y / 18446744073709551616)) (cmpI (x % 18446744073709551616) (y % 18446744073709551616)) _ (by simp) (by simp) (by simp)).mono ?_
   rintro e w2 ⟨rfl,rfl⟩
   go_wp2_with fail
   go_ret
   exact ⟨rfl,B2.out.alloc B2.out.size _⟩
  ·rw [show cmpR an ad bn bd=0 by unfold cmpR; rw [if_neg (by simp [hm2])]]
   simp only [Bool.not_eq_true] at hm2
   rw [hm] at c1; rw [hm2] at c2
   clear hm hm2
   go_enter Tryz.func306,Tryz.ntmps306
   go_wp2_with fail
   refine (c1.out _).mono ?_
   rintro e w1 ⟨rfl,b1⟩
   have B1:=Lib.hid (B0.out.trans (b1.mono (by simp; omega)))
   have r2:=K2.out.below b1 K2.out.lt
   have e0:=r2.cell 0; have e1:=r2.cell 1
   simp at e0 e1
   clear r2 b1
   go_wp2_with fail
   refine (c2.out _).mono ?_
   rintro e w2 ⟨rfl,b2⟩
   go_wp2_with fail
   go_ret
   exact ⟨rfl,B1.out.trans (b2.mono B1.out.size)⟩
 ·rw [show cmpR an ad bn bd=0 by unfold cmpR; rw [if_neg (by simp [hm])]]
  simp only [Bool.not_eq_true] at hm
  rw [hm] at c1
  clear hm
  go_enter Tryz.func306,Tryz.ntmps306
  go_wp2_with fail
  refine (c1.out _).mono ?_
  rintro e w1 ⟨rfl,b1⟩
  go_wp2_with fail
  go_ret
  exact ⟨rfl,B0.out.trans (b1.mono (by simp; omega))⟩
end Go.Proofs.YtngnfdnfpiiclaaGreat
namespace Go.Proofs.YtngnfdnfpiiclaaGreat
open Go.RowKit
theorem up_le (y num n den:Int) (hy:0≤y) (hn:0≤n) (h1:1≤num) (h2:1≤den) (hn2:n≤9223372036854775807) :
  (upN (y * num) den≤n)↔y≤n * den / num:=by
 rw [Int.le_ediv_iff_mul_le (by omega)]
 generalize y * num=x
 have hm:=Int.emod_nonneg x (show den≠0 by omega)
 have hm2:=Int.emod_lt_of_pos x (show 0<den by omega)
 have hd:=Int.mul_ediv_add_emod x den
 rw [Int.mul_comm n]
 unfold upN
 generalize x / den=q at *
 generalize x % den=r at *
 split
 ·constructor
  ·intro h; have:=Int.mul_le_mul_of_nonneg_left h (show 0≤den by omega); omega
  ·intro h
   rcases Int.lt_or_le n q with k | k
   ·have:=Int.mul_le_mul_of_nonneg_left (show n + 1≤q by omega) (show 0≤den by omega)
    rw [Int.mul_add] at this; omega
   ·exact k
 ·constructor
  ·intro h; have:=Int.mul_le_mul_of_nonneg_left h (show 0≤den by omega); rw [Int.mul_add] at this; omega
  ·intro h
   rcases Int.lt_or_le q n with k | k
   ·omega
   ·have:=Int.mul_le_mul_of_nonneg_left k (show 0≤den by omega); omega
end Go.Proofs.YtngnfdnfpiiclaaGreat
namespace Go.Proofs.YtngnfdnfpiiclaaGreat
open Go.RowKit
def Of.may (x:Of):Prop:=(1≤x.ow∧x.ow≤16)∧(1≤x.sl∧x.sl≤8)∧(1≤x.bu∧x.bu≤8)∧x.sl≠x.bu∧(1≤x.lf∧x.lf≤1099511627776)∧mayB x.nu x.de=true
instance (x:Of):Decidable x.may:=by unfold Of.may; infer_instance
def findO (l:List Of) (s:Int):Option Of:=l.find? fun x=>x.se==s
def noOf:Of:=⟨0,0,0,0,0,0,0⟩
def foundV (o:Option Of):Value:=match o with | some x=>.tuple #[x.val,.bool true] | none=>.tuple #[noOf.val,.bool false]
theorem findO_none {l:List Of} {s:Int} (hn:∀ x ∈ l,(x.se==s)=false):findO l s=none:=by
 unfold findO
 rw [List.find?_eq_none]
 intro x hx
 simp [hn x hx]
theorem take_all_next {q:Of→Prop} {l:List Of} {k:Nat} (h:k<l.length) (hn:∀ x ∈ l.take k,q x) (hx:q l[k]):∀ x ∈ l.take (k + 1),q x:=by
 rw [List.take_succ_eq_append_getElem h]
 intro x hx'
 rcases List.mem_append.1 hx' with h1 | h1
 ·exact hn x h1
 ·rw [List.mem_singleton] at h1; rw [h1]; exact hx
theorem of_cells {w:World} {b:Nat} {ls:List Of} (h:∀ j,j<ls.length * 7→w.cell? ⟨b,j,none⟩=(ofCells ls)[j]?) {k:Nat} (hk:k<ls.length) :
  w.cell? ⟨b,k * 7,none⟩=some (.int .u64 ls[k].se)∧w.cell? ⟨b,k * 7 + 1,none⟩=some (.int .u8 ls[k].ow)∧w.cell? ⟨b,k * 7 + 2,none⟩=some (.int .u8 ls[k].sl)∧w.cell? ⟨b,k * 7 + 3,none⟩=some (.int .u8 ls[k].bu)∧w.cell? ⟨b,k * 7 + 4,none⟩=some (.int .i64 ls[k].lf)∧w.cell? ⟨b,k * 7 + 5,none⟩=some (.int .i64 ls[k].nu)∧w.cell? ⟨b,k * 7 + 6,none⟩=some (.int .i64 ls[k].de):=by
 refine ⟨?_,?_,?_,?_,?_,?_,?_⟩
 ·exact (h (k * 7 + 0) (by omega)).trans (ofCells_get ls k 0 (by omega) hk)
 ·exact (h (k * 7 + 1) (by omega)).trans (ofCells_get ls k 1 (by omega) hk)
 ·exact (h (k * 7 + 2) (by omega)).trans (ofCells_get ls k 2 (by omega) hk)
 ·exact (h (k * 7 + 3) (by omega)).trans (ofCells_get ls k 3 (by omega) hk)
 ·exact (h (k * 7 + 4) (by omega)).trans (ofCells_get ls k 4 (by omega) hk)
 ·exact (h (k * 7 + 5) (by omega)).trans (ofCells_get ls k 5 (by omega) hk)
 ·exact (h (k * 7 + 6) (by omega)).trans (ofCells_get ls k 6 (by omega) hk)
theorem wpList_store_whole {P:Program} {ops:Array Oper} {rest:List Oper} {o:Oper} {a:Act} {w:World} {Q:Exit→Act→World→Prop} (hgd:o.guard=none) (ty:TypeId) (x y:Operand) (ho:o.op=.store ty x y)
  (g:Nat) (cells:Array Value) (hx:a.eval x=.pointer (some ⟨g,0,none⟩)) (hy:a.eval y=.agg cells)
  (t:TypeId) (old:Array Value) (hg:w.heap[g]? = some (.cells old t (0,0))) (hi:(P.info? ty).map (·.size)=some cells.size)
  (hold:old.size=cells.size) (h1:cells.all (·.oneCell')=true)
  (h:wpList P ops Q rest (a.put o.dst undef) (w.setRow g cells)):wpList P ops Q (o::rest) a w :=
 wpList_plain hgd fun _ hK=>wp_store_row ty x y ho g cells hx hy t old hg hi hold h1 (hK _ _ h)
end Go.Proofs.YtngnfdnfpiiclaaGreat
namespace Go.Proofs.YtngnfdnfpiiclaaGreat
open Go.RowKit
def Of.put (s n:Int) (x:Of):Of:=if x.se=s then { x with lf:=n } else x
def setO (l:List Of) (s n:Int):List Of:=(l.map (Of.put s n)).filter fun x=>decide (0<x.lf)
theorem setO_len (l:List Of) (s n:Int):(setO l s n).length≤l.length:=by
 unfold setO
 exact Nat.le_trans (List.length_filter_le _ _) (by simp)
def cancelV (l:List Of) (ow s:Int):Int:=match findO l s with | none=>0 | some x=>if x.ow=ow then x.lf else 0
def cancelE (l:List Of) (ow s:Int):Int:=match findO l s with | none=>7 | some x=>if x.ow=ow then 0 else 15
def cancelL (l:List Of) (ow s:Int):List Of:=if cancelE l ow s=0 then setO l s 0 else l
def takeE (l:List Of) (s n:Int):Int:=match findO l s with | none=>7 | some x=>if n<1∨x.lf<n then 1 else 0
def leftO (l:List Of) (s:Int):Int:=match findO l s with | none=>0 | some x=>x.lf
def takeL (l:List Of) (s n:Int):List Of:=if takeE l s n=0 then setO l s (leftO l s - n) else l
theorem findO_mem {l:List Of} {s:Int} {x:Of} (h:findO l s=some x):x ∈ l∧x.se=s:=by
 unfold findO at h
 exact ⟨List.mem_of_find?_eq_some h,by have:=List.find?_some h; simpa using this⟩
end Go.Proofs.YtngnfdnfpiiclaaGreat
namespace Go.Proofs.YtngnfdnfpiiclaaGreat
open Go.RowKit
end Go.Proofs.YtngnfdnfpiiclaaGreat
