/-
  Pieces of one proof, without what is not wanted: FlwIn, Lays, Ref08, AppOne, BitArr, Grd, Rowed.
-/
import Derived.Test.YtlbjjkbppbmihaaGreatP01
import Derived.Test.YtlbjjkbppbmihaaGreatP02
import Derived.Test.YtlbjjkbppbmihaaGreatP04
import Derived.Laws.Tables
import Derived.Laws.CopyOwn
import Derived.BigQuiet
import Derived.Laws.AppendOwnNone
import Derived.Laws.Rows
import Derived.Deep.MidRow
import Derived.Deep.WholeRow
set_option linter.unusedSimpArgs false
set_option linter.unusedVariables false
namespace Go.Proofs.YtlbjjkbppbmihaaGreat
open Go.RowKit Go.ChangeShapes Go.WideShapes Go.Deep
section
variable {H:Type} {enc:TypeId × Value→H} {P:Program} {w:World} {base:Nat} {spare:Nat→Bool} {held:Bool}
end
section
variable {H:Type} {enc:TypeId × Value→H} {w:World} {base:Nat} {spare:Nat→Bool} {held:Bool}
end
theorem SlIn.flows {w:World} {a:Option Addr} {len cap:Nat} {xs:List Fw} (h:SlIn Fw.vals 3 Fw.Fits w a len cap xs) (hn:len≤100000000):Reads w (.slice a xs.length cap) 3 xs.length (fwCells xs):=by
 obtain ⟨h0,hl,hk,h1,h2,h3⟩:=h
 subst hl
 refine ⟨a,cap,rfl,hn,fwCells_len xs,fun hp=>?_⟩
 obtain ⟨b,off,ha,hb,hc⟩:=h3 hp
 refine ⟨b,off,ha,hb,fun j hj=>?_⟩
 have hjd:j / 3<xs.length:=by omega
 have h4:=fwCells_get xs (j / 3) (j % 3) (by omega) hjd
 rw [show j / 3 * 3 + j % 3=j by omega] at h4
 have hv:(xs[j / 3].vals)[j % 3]? = some (xs[j / 3].vals[j % 3]'(by rw [Fw.vals_len]; omega)):=List.getElem?_eq_getElem _
 have h5:=hc (j / 3) hjd (j % 3) _ hv
 rw [show off + j / 3 * 3 + j % 3=off + j by omega] at h5
 rw [h5,h4,hv]
end Go.Proofs.YtlbjjkbppbmihaaGreat
namespace Go.Proofs.YtlbjjkbppbmihaaGreat
open Go.RowKit
structure Spec where
 p:Nat
 q:Nat
 zero:Obj
 full:Obj
def upd (g:Nat→Nat) (p a:Nat):Nat→Nat:=fun i=>if i=p then a else g i
theorem upd_same (g:Nat→Nat) (p a:Nat):upd g p a p=a:=by simp [upd]
theorem upd_other (g:Nat→Nat) {p i:Nat} (a:Nat) (h:i≠p):upd g p a i=g i:=by simp [upd,h]
def SpecOk (W w:World) (g:Nat→Nat) (D:Nat→Bool) (s:Spec):Prop :=
 D s.p=true→W.heap.size≤g s.p∧w.heap[g s.p]? = some (if D s.q then s.full else s.zero)
def specsApart (bs:List Spec):Bool:=bs.all fun s=>bs.all fun s'=>s.p==s'.p || (s.p != s'.q && s.q != s'.p && s.q != s'.q)
structure Lays (W:World) (bs:List Spec) (g:Nat→Nat) (D:Nat→Bool) (w:World):Prop where
 below:Below W.heap.size W w
 ok:∀ s ∈ bs,SpecOk W w g D s
 apart:∀ s ∈ bs,∀ s' ∈ bs,D s.p=true→D s'.p=true→s.p≠s'.p→g s.p≠g s'.p
theorem Lays.start (W:World) (bs:List Spec) (g:Nat→Nat):Lays W bs g (fun _=>false) W.drew :=
 ⟨(Below.refl _ _).drew,fun s _ h=>by simp at h,fun s _ s' _ h=>by simp at h⟩
theorem ins_ne {k i:Nat} (D:Nat→Bool) (h:i≠k):ins k D i=D i:=by simp [ins,h]
theorem ins_same (k:Nat) (D:Nat→Bool):ins k D k=true:=by simp [ins]
theorem Lays.step {W w w':World} {bs:List Spec} {g:Nat→Nat} {D:Nat→Bool} {k:Nat} (h:Lays W bs g D w) (hb:Below w.heap.size w w') (hk:bs.all (fun s=>s.p != k && s.q != k)=true):Lays W bs g (ins k D) w':=by
 obtain ⟨h1,h2,h3⟩:=h
 have hk':∀ s ∈ bs,s.p≠k∧s.q≠k:=fun s hs=>by
  have:=List.all_eq_true.1 hk s hs
  simpa using this
 refine ⟨h1.trans (hb.mono h1.size),fun s hs hd=>?_,fun s hs s' hs' hd hd' hne=>?_⟩
 ·rw [ins_ne D (hk' s hs).1] at hd
  obtain ⟨a,b⟩:=h2 s hs hd
  rw [ins_ne D (hk' s hs).2]
  exact ⟨a,by rw [hb.block _ (Array.getElem?_eq_some_iff.1 b).1]; exact b⟩
 ·rw [ins_ne D (hk' s hs).1] at hd
  rw [ins_ne D (hk' s' hs').1] at hd'
  exact h3 s hs s' hs' hd hd' hne
theorem Lays.lay {W w:World} {bs:List Spec} {g:Nat→Nat} {D:Nat→Bool} (h:Lays W bs g D w) (s:Spec) (hs:s ∈ bs) (ha:specsApart bs=true) (hq:s.q=s.p∨D s.q=false) (hone:bs.all (fun s'=>s'.p != s.p || s'.q==s.q)=true)
  (hsame:∀ s' ∈ bs,s'.p=s.p→s'=s) (o:Obj) (ho:o=if s.q=s.p then s.full else s.zero):Lays W bs (upd g s.p w.heap.size) (ins s.p D) (w.alloc o):=by
 obtain ⟨h1,h2,h3⟩:=h
 have hap:∀ s' ∈ bs,s'.p≠s.p→s'.q≠s.p:=fun s' hs' hne=>by
  have:=List.all_eq_true.1 (List.all_eq_true.1 ha s' hs') s hs
  simp only [Bool.or_eq_true,beq_iff_eq,Bool.and_eq_true,bne_iff_ne,ne_eq] at this
  rcases this with e | e
  ·exact absurd e hne
  ·exact e.1.2
 refine ⟨h1.alloc h1.size _,fun s' hs' hd=>?_,fun s1 hs1 s2 hs2 hd1 hd2 hne=>?_⟩
 ·by_cases he:s'.p=s.p
  ·have:=hsame s' hs' he
   subst this
   rw [upd_same]
   refine ⟨h1.size,?_⟩
   have e1:(w.alloc o).heap[w.heap.size]? = some o:=by show (w.heap.push _)[w.heap.size]? = _; simp
   rw [e1,ho]
   by_cases hqp:s'.q=s'.p
   ·rw [if_pos hqp,hqp,ins_same]; rfl
   ·rw [if_neg hqp,ins_ne D hqp]
    rcases hq with e | e
    ·exact absurd e hqp
    ·rw [e]; rfl
  ·rw [ins_ne D he] at hd
   obtain ⟨a,b⟩:=h2 s' hs' hd
   rw [upd_other g _ he,ins_ne D (hap s' hs' he)]
   exact ⟨a,by rw [Below.heap_alloc _ _ _ (Array.getElem?_eq_some_iff.1 b).1]; exact b⟩
 ·have lt:∀ s' ∈ bs,s'.p≠s.p→ins s.p D s'.p=true→g s'.p<w.heap.size:=fun s' hs' he hd=>by
   rw [ins_ne D he] at hd
   exact (Array.getElem?_eq_some_iff.1 (h2 s' hs' hd).2).1
  by_cases e1:s1.p=s.p
  ·by_cases e2:s2.p=s.p
   ·exact absurd (e1.trans e2.symm) hne
   ·have:=lt s2 hs2 e2 hd2
    rw [e1,upd_same,upd_other g _ e2]
    omega
  ·by_cases e2:s2.p=s.p
   ·have:=lt s1 hs1 e1 hd1
    rw [e2,upd_same,upd_other g _ e1]
    omega
   ·rw [upd_other g _ e1,upd_other g _ e2]
    rw [ins_ne D e1] at hd1
    rw [ins_ne D e2] at hd2
    exact h3 s1 hs1 s2 hs2 hd1 hd2 hne
theorem Lays.fill {W w w':World} {bs:List Spec} {g:Nat→Nat} {D:Nat→Bool} (h:Lays W bs g D w) (s:Spec) (hs:s ∈ bs) (ha:specsApart bs=true) (hqp:s.q≠s.p) (hsame:∀ s' ∈ bs,s'.p=s.p→s'=s) (hd:D s.p=true)
  (hk:Keep (·=g s.p) w w') (hf:w'.heap[g s.p]? = some s.full):Lays W bs g (ins s.q D) w':=by
 obtain ⟨h1,h2,h3⟩:=h
 have hg:=(h2 s hs hd).1
 have hap:∀ s' ∈ bs,s'.p≠s.p→s'.q≠s.q∧s'.p≠s.q:=fun s' hs' hne=>by
  have:=List.all_eq_true.1 (List.all_eq_true.1 ha s' hs') s hs
  simp only [Bool.or_eq_true,beq_iff_eq,Bool.and_eq_true,bne_iff_ne,ne_eq] at this
  rcases this with e | e
  ·exact absurd e hne
  ·exact ⟨e.2,e.1.1⟩
 refine ⟨⟨hk.os.trans h1.os,hk.tape.trans h1.tape,hk.output.trans h1.output,Nat.le_trans h1.size hk.size,fun i hi=>by rw [hk.block i (Nat.lt_of_lt_of_le hi h1.size) (by omega)]; exact h1.block i hi⟩,fun s' hs' hd'=>?_,fun s1 hs1 s2 hs2 hd1 hd2 hne=>?_⟩
 ·by_cases he:s'.p=s.p
  ·have:=hsame s' hs' he
   subst this
   rw [ins_same]
   exact ⟨hg,hf⟩
  ·rw [ins_ne D (hap s' hs' he).2] at hd'
   obtain ⟨a,b⟩:=h2 s' hs' hd'
   rw [ins_ne D (hap s' hs' he).1]
   exact ⟨a,by rw [hk.block _ (Array.getElem?_eq_some_iff.1 b).1 (h3 s' hs' s hs hd' hd he)]; exact b⟩
 ·have pn:∀ s' ∈ bs,s'.p≠s.q:=fun s' hs'=>by
   by_cases he:s'.p=s.p
   ·rw [he]; exact fun e=>hqp e.symm
   ·exact (hap s' hs' he).2
  rw [ins_ne D (pn s1 hs1)] at hd1
  rw [ins_ne D (pn s2 hs2)] at hd2
  exact h3 s1 hs1 s2 hs2 hd1 hd2 hne
theorem Lays.full {W w:World} {bs:List Spec} {g:Nat→Nat} {D:Nat→Bool} (h:Lays W bs g D w) (s:Spec) (hs:s ∈ bs) (hp:D s.p=true) (hq:D s.q=true):W.heap.size≤g s.p∧w.heap[g s.p]? = some s.full:=by
 obtain ⟨a,b⟩:=h.ok s hs hp
 rw [hq] at b
 exact ⟨a,b⟩
theorem Lays.zeroed {W w:World} {bs:List Spec} {g:Nat→Nat} {D:Nat→Bool} (h:Lays W bs g D w) (s:Spec) (hs:s ∈ bs) (hp:D s.p=true) (hq:D s.q=false):W.heap.size≤g s.p∧w.heap[g s.p]? = some s.zero:=by
 obtain ⟨a,b⟩:=h.ok s hs hp
 rw [hq] at b
 exact ⟨a,b⟩
def waitsFor (ops:Array Oper):Nat→Nat→Nat→Bool
 | 0,_,_=>false
 | d + 1,i,j=>match ops[i]? with
  | some o=>o.after.any fun e=>Region.binds .any e && (e.on==j || waitsFor ops d e.on j)
  | none=>false
theorem waits_not {ops:Array Oper} {D:Nat→Bool} (hC:Closed ops D) {j:Nat} (hj:D j=false):∀ (d i:Nat),waitsFor ops d i j=true→D i=false
 | 0,i,h=>by simp [waitsFor] at h
 | d + 1,i,h=>by
  unfold waitsFor at h
  split at h
  ·rename_i o ho
   obtain ⟨e,he,hb⟩:=Array.any_eq_true'.1 h
   simp only [Bool.and_eq_true,Bool.or_eq_true,beq_iff_eq] at hb
   by_cases hi:D i=true
   ·exfalso
    have hw:=hC i o ho hi e he hb.1
    rcases hb.2 with h2 | h2
    ·rw [h2,hj] at hw; cases hw
    ·rw [waits_not hC hj d e.on h2] at hw; cases hw
   ·simpa using hi
  ·cases h
theorem waited_done {ops:Array Oper} {D:Nat→Bool} (hC:Closed ops D) {o:Oper} (hw:Waited D o) {d j:Nat} (h:(o.after.any fun e=>Region.binds .any e && (e.on==j || waitsFor ops d e.on j))=true):D j=true:=by
 obtain ⟨e,he,hb⟩:=Array.any_eq_true'.1 h
 simp only [Bool.and_eq_true,Bool.or_eq_true,beq_iff_eq] at hb
 have h1:=hw e he hb.1
 rcases hb.2 with h2 | h2
 ·rw [← h2]; exact h1
 ·by_cases hj:D j=true
  ·exact hj
  ·rw [waits_not hC (by simpa using hj) d e.on h2] at h1; cases h1
theorem vals_upd {n:Nat} (ops:Array Oper) (vals:(Nat→Nat)→List Value) (g:Nat→Nat) (p a d:Nat) {D:Nat→Bool} (hC:Closed ops D) (hp:D p=false)
  (h:∀ j,j<n→(j=p∨waitsFor ops d j p=true)∨(vals g).getD j undef=(vals (upd g p a)).getD j undef):∀ j,j<n→D j=true→(vals g).getD j undef=(vals (upd g p a)).getD j undef:=by
 intro j hj hD
 rcases h j hj with (rfl | h) | h
 ·rw [hp] at hD; cases hD
 ·rw [waits_not hC hp d j h] at hD; cases hD
 ·exact h
theorem below_keepRow {w:World} (g:Nat) (cs:Array Value):Keep (·=g) w (w.setRow g cs) :=
 ⟨rfl,rfl,rfl,by simp [World.setRow],fun k _ hk=>setRow_other w g k cs (fun e=>hk e)⟩
section
variable {P:Program} {ops:Array Oper} {Q:Exit→Act→World→Prop} {a:Act}
theorem region_end {id:Nat} {w:World} (hm:P.follows .mixedOrders=true) (n d:Nat) (vals:List Value) (S:World→Prop) (hok:regionOk ops=true) (hsz:ops.size=n + 1)
  (hlast:(List.range n).all (fun j=>waitsFor ops d n j)=true) (h0:S w.drew)
  (h:∀ af,puts (fun i=>vals.getD i undef) 0 ops.toList a=af→EachTo P ops af S (ops.toList.take n)∧∀ w',S w'→OpTo P ops af (ops.toList.getD n default) w' (fun w''=>Q .normal af w'')) :
  (Code.region id ops true).wp P Q a w:=by
 obtain ⟨h1,h2⟩:=h _ rfl
 refine wp_region_any hm ?_
 have haf':frOf ops (fun i=>vals.getD i undef) (fun _=>true) a=puts (fun i=>vals.getD i undef) 0 ops.toList a:=frOf_puts hok
 have hfr:=frOf_none ops (fun i=>vals.getD i undef) a
 have hz:(fun i=>(Array.replicate ops.size false).getD i false)=fun _=>false:=by
  funext i; simp [Array.getD_eq_getD_getElem?,Array.getElem?_replicate]; split <;> rfl
 have key:=region_any (P:=P) (Q:=Q) (val:=fun i=>vals.getD i undef) (a:=a) (I:=fun D w'=>if D n=true then Q .normal (puts (fun i=>vals.getD i undef) 0 ops.toList a) w' else S w') hm hok
  (fun i o ho D w' hDi hw hc hI=>by
   rw [haf']
   have hi:i<ops.size:=by
    rcases Nat.lt_or_ge i ops.size with h' | h'
    ·exact h'
    ·simp [Array.getElem?_eq_none h'] at ho
   by_cases hin:i=n
   ·subst hin
    rw [hDi] at hI
    simp only [ins,beq_self_eq_true,Bool.true_or,if_true]
    have h3:=h2 w' hI
    rwa [List.getD_eq_getElem?_getD,Array.getElem?_toList,ho] at h3
   ·have hDn:D n=false:=waits_not hc hDi d n (List.all_eq_true.1 hlast i (by simp; omega))
    rw [hDn] at hI
    have:(ins i D) n=false:=by simp [ins,hDn]; omega
    simp only [this]
    exact h1.at (i:=i) (by rw [List.getElem?_take]; simp [show i<n by omega,ho]) w' hI)
  (fun D w' hall hI=>by
   rw [haf']
   rwa [if_pos (hall n (by omega))] at hI)
  ops.size (Array.replicate ops.size false) w.drew (by simp) (by simp) (fun j o ho hj=>by
   simp [Array.getD_eq_getD_getElem?,Array.getElem?_replicate] at hj
   split at hj <;> simp at hj) (by
   have:(Array.replicate ops.size false).getD n false=false:=by simp [Array.getD_eq_getD_getElem?,Array.getElem?_replicate]; split <;> rfl
   show if (Array.replicate ops.size false).getD n false=true then _ else S w.drew
   rw [this]
   exact h0)
 rw [hz,hfr] at key
 exact key
end
theorem wp_mapUpdate_of {P:Program} {w w':World} {o:Oper} {a:Act} {K:Act→World→Prop} {Q:Exit→Act→World→Prop} (t:TypeId) (m x v:Operand) (ho:o.op=.mapUpdate t m x v) {mv xv vv:Value}
  (hm:a.eval m=mv) (hx:a.eval x=xv) (hv:a.eval v=vv) (hr:(Instr.mapUpdate t mv xv vv).run P w=.ok () w') (h:K (a.put o.dst undef) w'):o.wp P a w K Q:=by
 unfold Oper.wp
 simp only [execOp,ho,hm,hx,hv,Sem.run_bind,hr,Result.andThen_ok]
 exact h
theorem wp_delete_of {P:Program} {w w':World} {o:Oper} {a:Act} {K:Act→World→Prop} {Q:Exit→Act→World→Prop} (m x:Operand) (t k:TypeId) {mv xv:Value}
  (ho:o.op=.call { callee:=.builtin .delete,args:=#[m,x],argTypes:=#[t,k] }) (hm:a.eval m=mv) (hx:a.eval x=xv)
  (hr:(Builtin.delete_ #[t,k] o.type #[mv,xv]).run P w=.ok (.tuple #[]) w') (h:K (a.put o.dst (.tuple #[])) w'):o.wp P a w K Q:=by
 unfold Oper.wp execOp
 simp only [ho,resolve,invoke,builtin,Sem.run_bind,Sem.run_pure,Result.andThen_ok,List.map_toArray,List.map_cons,List.map_nil,hm,hx,hr]
 exact h
end Go.Proofs.YtlbjjkbppbmihaaGreat
namespace Go.Proofs.YtlbjjkbppbmihaaGreat
open Go.RowKit
theorem dbt_get {l:List Fw} {i:Nat} (h:i<l.length):dbt l i=l[i]:=by unfold dbt; simp [h]
def DebtsIn (w:World) (ao:Option Addr) (l:List Fw):Prop :=
 0<l.length→∃ b off,ao=some ⟨b,off,none⟩∧b<w.heap.size∧∀ m,m<l.length→w.cell? ⟨b,off + m * 3,none⟩=some (.int .u8 (dbt l m).fr)∧w.cell? ⟨b,off + m * 3 + 1,none⟩=some (.int .u8 (dbt l m).tt)∧w.cell? ⟨b,off + m * 3 + 2,none⟩=some (.int .i64 (dbt l m).am)
theorem reads_debts {w:World} {ao:Option Addr} {cap:Nat} {l:List Fw} (h:Reads w (.slice ao l.length cap) 3 l.length (fwCells l)):DebtsIn w ao l:=by
 obtain ⟨ao',cap',hv,_,_,hcell⟩:=h
 cases hv
 intro h0
 obtain ⟨b,off,h1,h2,h3⟩:=hcell h0
 refine ⟨b,off,h1,h2,fun m hm=>?_⟩
 rw [dbt_get hm]
 refine ⟨?_,?_,?_⟩
 ·have:=h3 (m * 3 + 0) (by omega)
  rw [fwCells_get l m 0 (by omega) hm,show off + (m * 3 + 0)=off + m * 3 by omega] at this
  exact this
 ·have:=h3 (m * 3 + 1) (by omega)
  rw [fwCells_get l m 1 (by omega) hm,show off + (m * 3 + 1)=off + m * 3 + 1 by omega] at this
  exact this
 ·have:=h3 (m * 3 + 2) (by omega)
  rw [fwCells_get l m 2 (by omega) hm,show off + (m * 3 + 2)=off + m * 3 + 2 by omega] at this
  exact this
theorem DebtsIn.below {w w':World} {ao:Option Addr} {l:List Fw} (h:DebtsIn w ao l) (hb:Below w.heap.size w w'):DebtsIn w' ao l:=by
 intro h0
 obtain ⟨b,off,h1,h2,h3⟩:=h h0
 refine ⟨b,off,h1,Nat.lt_of_lt_of_le h2 hb.size,fun m hm=>?_⟩
 obtain ⟨a1,a2,a3⟩:=h3 m hm
 exact ⟨(hb.cell (p:=⟨b,off + m * 3,none⟩) h2).trans a1,(hb.cell (p:=⟨b,off + m * 3 + 1,none⟩) h2).trans a2,(hb.cell (p:=⟨b,off + m * 3 + 2,none⟩) h2).trans a3⟩
def DebtsFit (l:List Fw):Prop:=∀ m,m<l.length→(0≤(dbt l m).fr∧(dbt l m).fr≤255)∧(0≤(dbt l m).tt∧(dbt l m).tt≤255) ∧ -9223372036854775808≤(dbt l m).am∧(dbt l m).am≤9223372036854775807
theorem mayN_next (l:List Fw) (k:Nat):mayN l (k + 1)=(mayN l k && decide (okD (dbt l k)) && (decide (k=0) || decide (keyD (dbt l (k - 1))<keyD (dbt l k)))):=rfl
theorem mayN_less {l:List Fw}:∀ {n:Nat} (k:Nat),k≤n→mayN l k=false→mayN l n=false
 | 0,k,hk,h=>by
  have:k=0:=by omega
  subst this; exact h
 | n + 1,k,hk,h=>by
  by_cases hkn:k=n + 1
  ·subst hkn; exact h
  ·rw [mayN_next,mayN_less k (by omega) h]; rfl
def MayAt (w:World) (l:List Fw) (i:Value) (wr:World):Prop:=∃ k:Nat,k≤l.length∧i=.int .i64 k∧Hid (mayN l k=true)∧Below w.heap.size w wr
set_option maxHeartbeats 16000000 in
set_option maxRecDepth 100000 in
theorem rmay_any {w:World} {ao:Option Addr} {cap:Nat} {l:List Fw} (hr:DebtsIn w ao l) (hfit:DebtsFit l) (hln:l.length≤300) :
  Calls Tryz.prog 76 #[.slice ao l.length cap] w fun e w'=>e=.returned (.bool (mayN l l.length))∧Below w.heap.size w w':=by
 have HC:=Lib.hid hr
 have HF:=Lib.hid hfit
 clear hr hfit
 go_enter Tryz.func76,Tryz.ntmps76
 go_wp2_with fail
 go_loopw [3] (MayAt w l) (fun i _=>l.length - (intOf i).toNat)
 case atStart=>exact ⟨0,by omega,rfl,Lib.hid rfl,Below.refl _ _⟩
 case round =>
  obtain ⟨k,hk,rfl,HM,hB⟩:=hrel
  have BB:=Lib.hid hB
  clear hB
  by_cases hkl:k<l.length
  ·have qk:decide ((k:Int)<(l.length:Int))=true:=by simpa using hkl
   have k0:(0:Int)≤(k:Int):=by omega
   have k1:(k:Int)<(l.length:Int):=by omega
   obtain ⟨b,off,rfl,hbw,hcell⟩:=HC.out (by omega)
   obtain ⟨e0,e1,e2⟩:=hcell k hkl
   have d0:=(BB.out.cell (p:=⟨b,off + k * 3,none⟩) hbw).trans e0
   have d1:=(BB.out.cell (p:=⟨b,off + k * 3 + 1,none⟩) hbw).trans e1
   have d2:=(BB.out.cell (p:=⟨b,off + k * 3 + 2,none⟩) hbw).trans e2
   have HCELL:=Lib.hid hcell
   have hbr:=Nat.lt_of_lt_of_le hbw BB.out.size
   obtain ⟨⟨f0,f9⟩,⟨t0,t9⟩,⟨a0,a9⟩⟩:=HF.out k hkl
   obtain ⟨N,hN⟩:∃ N,l.length=N:=⟨_,rfl⟩
   have HN:=Lib.hid hN
   obtain ⟨x,hx⟩:∃ x,dbt l k=x:=⟨_,rfl⟩
   have HX:=Lib.hid hx
   have NF:Hid (¬ okD x→mayN l l.length=false):=Lib.hid fun h=>by
    refine mayN_less (k + 1) (by omega) ?_
    rw [mayN_next,hx,decide_eq_false h,Bool.and_false,Bool.false_and]
   rw [hx] at d0 d1 d2 f0 f9 t0 t9 a0 a9
   rw [hN] at k1 qk hkl ⊢
   obtain ⟨fr,tt,am⟩:=x
   dsimp only at d0 d1 d2 f0 f9 t0 t9 a0 a9
   have BX:=Lib.hid (BB.out.alloc BB.out.size (.cells #[.int .u8 fr,.int .u8 tt,.int .i64 am] 62))
   clear hcell e0 e1 e2 hx hN
   by_cases c1:fr<1
   ·have q:decide (fr<1)=true:=by simpa using c1
    have r:=NF.out (fun o=>by have h:=o.1.1; dsimp only at h; omega)
    have R:=Lib.hid r
    clear r
    go_wp2_with fail
    go_ret
    exact ⟨by rw [R.out]; rfl,BX.out⟩
   have q1:decide (fr<1)=false:=by simpa using c1
   by_cases c2:16<fr
   ·have q:decide (16<fr)=true:=by simpa using c2
    have r:=NF.out (fun o=>by have h:=o.1.2; dsimp only at h; omega)
    have R:=Lib.hid r
    clear r
    go_wp2_with fail
    go_ret
    exact ⟨by rw [R.out]; rfl,BX.out⟩
   have q2:decide (16<fr)=false:=by simpa using c2
   by_cases c3:tt<1
   ·have q:decide (tt<1)=true:=by simpa using c3
    have r:=NF.out (fun o=>by have h:=o.2.1.1; dsimp only at h; omega)
    have R:=Lib.hid r
    clear r
    go_wp2_with fail
    go_ret
    exact ⟨by rw [R.out]; rfl,BX.out⟩
   have q3:decide (tt<1)=false:=by simpa using c3
   by_cases c4:16<tt
   ·have q:decide (16<tt)=true:=by simpa using c4
    have r:=NF.out (fun o=>by have h:=o.2.1.2; dsimp only at h; omega)
    have R:=Lib.hid r
    clear r
    go_wp2_with fail
    go_ret
    exact ⟨by rw [R.out]; rfl,BX.out⟩
   have q4:decide (16<tt)=false:=by simpa using c4
   by_cases c5:fr=tt
   ·have q:(fr==tt)=true:=by simpa using c5
    have r:=NF.out (fun o=>o.2.2.1 c5)
    have R:=Lib.hid r
    clear r c5
    go_wp2_with fail
    go_ret
    exact ⟨by rw [R.out]; rfl,BX.out⟩
   have q5:(fr==tt)=false:=by simpa using c5
   by_cases c6:am<1
   ·have q:decide (am<1)=true:=by simpa using c6
    have r:=NF.out (fun o=>by have h:=o.2.2.2.1; dsimp only at h; omega)
    have R:=Lib.hid r
    clear r
    go_wp2_with fail
    go_ret
    exact ⟨by rw [R.out]; rfl,BX.out⟩
   have q6:decide (am<1)=false:=by simpa using c6
   by_cases c7:1099511627776<am
   ·have q:decide (1099511627776<am)=true:=by simpa using c7
    have r:=NF.out (fun o=>by have h:=o.2.2.2.2; dsimp only at h; omega)
    have R:=Lib.hid r
    clear r
    go_wp2_with fail
    go_ret
    exact ⟨by rw [R.out]; rfl,BX.out⟩
   have q7:decide (1099511627776<am)=false:=by simpa using c7
   have OK:Hid (okD ⟨fr,tt,am⟩):=Lib.hid ⟨⟨by dsimp only; omega,by dsimp only; omega⟩,⟨by dsimp only; omega,by dsimp only; omega⟩,c5,by dsimp only; omega,by dsimp only; omega⟩
   have g1:1≤fr:=by omega
   have g2:fr≤16:=by omega
   have g3:1≤tt:=by omega
   have g4:tt≤16:=by omega
   clear c5
   have OKD:decide (okD (dbt l k))=true:=by rw [HX.out]; exact decide_eq_true OK.out
   by_cases hk0:k=0
   ·have NX:Hid (mayN l (k + 1)=true):=Lib.hid (by rw [mayN_next,HM.out,OKD,decide_eq_true hk0]; rfl)
    have q6:decide (0<(k:Int))=false:=by simp; omega
    have q6n:decide (0<k)=false:=by simp; omega
    clear hk0 OKD
    go_wp2_with fail
    go_quiet (fail)
    go_wp2_with fail
    exact ⟨⟨k + 1,by rw [HN.out]; omega,by go_num,NX,⟨BX.out.os,BX.out.tape,BX.out.output,BX.out.size,BX.out.block⟩⟩,by simp [intOf]; omega⟩
   ·have q6:decide (0<(k:Int))=true:=by simp; omega
    obtain ⟨j,rfl⟩:∃ j,k=j + 1:=⟨k - 1,by omega⟩
    obtain ⟨p0,p1,_⟩:=HCELL.out j (by omega)
    obtain ⟨⟨u0,u9⟩,⟨v0,v9⟩,_⟩:=HF.out j (by omega)
    obtain ⟨y,hy⟩:∃ y,dbt l j=y:=⟨_,rfl⟩
    have HY:=Lib.hid hy
    rw [hy] at p0 p1 u0 u9 v0 v9
    obtain ⟨yf,yt,ya⟩:=y
    dsimp only at p0 p1 u0 u9 v0 v9
    have dp0:=(BB.out.cell (p:=⟨b,off + j * 3,none⟩) hbw).trans p0
    have dp1:=(BB.out.cell (p:=⟨b,off + j * 3 + 1,none⟩) hbw).trans p1
    clear hy hk0 p0 p1
    by_cases hkey:256 * yf + yt<256 * fr + tt
    ·have q7:decide (256 * fr + tt≤256 * yf + yt)=false:=by simp; omega
     have NX:Hid (mayN l (j + 1 + 1)=true):=Lib.hid (by rw [mayN_next,HM.out,OKD,Nat.add_sub_cancel,HX.out,HY.out,show decide (keyD ⟨yf,yt,ya⟩<keyD ⟨fr,tt,am⟩)=true from decide_eq_true hkey,Bool.or_true]; rfl)
     clear hkey OKD
     go_wp2_with fail
     go_quiet (fail)
     go_wp2_with fail
     exact ⟨⟨j + 1 + 1,by rw [HN.out]; omega,by go_num,NX,⟨BX.out.os,BX.out.tape,BX.out.output,BX.out.size,BX.out.block⟩⟩,by simp [intOf]; omega⟩
    ·have q7:decide (256 * fr + tt≤256 * yf + yt)=true:=by simp; omega
     have R:Hid (mayN l l.length=false):=Lib.hid (mayN_less (j + 1 + 1) (by rw [HN.out]; omega) (by rw [mayN_next,Nat.add_sub_cancel,HX.out,HY.out,show decide (keyD ⟨yf,yt,ya⟩<keyD ⟨fr,tt,am⟩)=false from decide_eq_false hkey,show decide (j + 1=0)=false from decide_eq_false (by omega),Bool.or_false,Bool.and_false]))
     clear hkey OKD
     go_wp2_with fail
     go_quiet (fail)
     go_wp2_with fail
     go_ret
     exact ⟨by rw [R.out]; rfl,⟨BX.out.os,BX.out.tape,BX.out.output,BX.out.size,BX.out.block⟩⟩
  ·have hkn:k=l.length:=by omega
   subst hkn
   have qk:decide (((l.length:Nat):Int)<(l.length:Int))=false:=by simp
   go_wp2_with fail
   go_ret
   exact ⟨by rw [HM.out]; rfl,BB.out⟩
end Go.Proofs.YtlbjjkbppbmihaaGreat
namespace Go.Proofs.YtlbjjkbppbmihaaGreat
open Go.RowKit
theorem wpList_append_one {P:Program} (w:World) {ops:Array Oper} {rest:List Oper} {o:Oper} {a:Act} {Q:Exit→Act→World→Prop} (hgd:o.guard=none) (s x:Operand) (t e:TypeId)
  (ho:o.op=.call { callee:=.builtin .append,args:=#[s,x],argTypes:=#[t,t] }) {z:Value} {sz by':Nat} (ht:P.underlying t=some (.slice e)) (hinf:(P.info? e).map (fun i=>(i.zero,i.size,i.bytes))=some (some z,sz,by')) (hzs:z.cells.size=sz) (h0:0<sz) (hby:by'≤1000)
  (base:Nat) (v:Value) (n:Nat) (xs:List Value) (hs:a.eval s=v) (hown:w.ownsRow base e sz v n xs) (g c:Nat) (vs:List Value) (hvs:vs.length=sz) (hx:a.eval x=.slice (some ⟨g,0,none⟩) 1 c) (hy:Blk w g vs.toArray e) (h1:∀ u ∈ vs,u.oneCell'=true) (hlen:n≤100000) (hbase:base≤w.heap.size)
  (h:∀ v' w',w'.ownsRow base e sz v' (n + 1) (xs++vs)→w.grownBy w' v.ownBlock→wpList P ops Q rest (a.put o.dst v') w'):wpList P ops Q (o::rest) a w:=by
 obtain ⟨i0,hi,hz0,hz1,hz2⟩:=info_parts hinf
 refine wpList_append_own w hgd s x t ho base e i0 z sz by' ht hi hz0 hz1 hz2 hzs h0 v n xs hs hown ⟨g,0,none⟩ 1 c vs hx (by rw [hvs]; omega) ?_ h1 (by unfold maxLen; omega) ?_ hbase ?_
 ·intro j u hj
  rw [Go.WideShapes.add_plain,Nat.zero_add,hy.cell j]
  simpa using hj
 ·refine Nat.le_trans (Nat.mul_le_mul_left _ hby) ?_
  omega
 ·intro v' w' h2 h3 _
  exact h v' w' h2 h3
theorem below_ag {B:Nat} {w w1 w2:World} {o:Obj} {row:Option Nat} (h:Below B w w1) (hB:B≤w1.heap.size) (hg:(w1.alloc o).grownBy w2 row) (hr:∀ k,row=some k→B≤k):Below B w w2 :=
 (h.alloc hB o).grown hg (by simp; omega) hr
end Go.Proofs.YtlbjjkbppbmihaaGreat
namespace Go.Proofs.YtlbjjkbppbmihaaGreat
open Go.RowKit
theorem wpList_build_of {P:Program} {ops:Array Oper} {rest:List Oper} {o:Oper} {a:Act} {w:World} {Q:Exit→Act→World→Prop} (hgd:o.guard=none) (t:TypeId) (parts:Array (Nat × Operand)) (ho:o.op=.build t parts)
  (ps:Array (Nat × Value)) (hp:(parts.map fun (i,x)=>(i,a.eval x))=ps) (cells:Array Value) (hrun:(Instr.build t ps).run P w=.ok (.agg cells) w)
  (h:wpList P ops Q rest (a.put o.dst (.agg cells)) w):wpList P ops Q (o::rest) a w :=
 wpList_plain hgd fun _ hK=>by
  unfold Oper.wp execOp
  simp only [ho,hp,Sem.run_bind,hrun,Result.andThen_ok]
  exact hK _ _ h
end Go.Proofs.YtlbjjkbppbmihaaGreat
namespace Go.Proofs.YtlbjjkbppbmihaaGreat
open Go.RowKit
def gridA (v:Int→Int→Value):Array Value:=Array.ofFn (n:=289) fun i=>v ((i.val / 17:Nat):Int) ((i.val % 17:Nat):Int)
theorem gridA_get (v:Int→Int→Value) {i:Nat} (h:i<289):(gridA v)[i]? = some (v ((i / 17:Nat):Int) ((i % 17:Nat):Int)):=by simp [gridA,h]
theorem gridA_at (v:Int→Int→Value) {p q:Nat} (hp:p<17) (hq:q<17):(gridA v)[p * 17 + q]? = some (v p q):=by
 rw [gridA_get _ (by omega),show (p * 17 + q) / 17=p by omega,show (p * 17 + q) % 17=q by omega]
def rowA (v:Int→Int→Value) (p:Int):Array Value:=Array.ofFn (n:=17) fun i=>v p ((i.val:Nat):Int)
theorem rowA_size (v:Int→Int→Value) (p:Int):(rowA v p).size=17:=by simp [rowA]
theorem rowA_get (v:Int→Int→Value) (p:Int) {i:Nat} (h:i<17):(rowA v p)[i]? = some (v p i):=by simp [rowA,h]
def graC (f:Int→Int→Int) (b:Bool):Array Value:=Array.ofFn (n:=290) fun i=>if i.val=289 then .bool b else .int .i64 (f ((i.val / 17:Nat):Int) ((i.val % 17:Nat):Int))
theorem graC_get (f:Int→Int→Int) (b:Bool) {i:Nat} (h:i<289):(graC f b)[i]? = some (.int .i64 (f ((i / 17:Nat):Int) ((i % 17:Nat):Int))):=by
 have h1:i<290:=by omega
 have h2:i≠289:=by omega
 simp [graC,h1,h2]
theorem graC_at (f:Int→Int→Int) (b:Bool) {p q:Nat} (hp:p<17) (hq:q<17):(graC f b)[p * 17 + q]? = some (.int .i64 (f p q)):=by
 rw [graC_get _ _ (by omega),show (p * 17 + q) / 17=p by omega,show (p * 17 + q) % 17=q by omega]
def capA (f:Int→Int→Int):Array Value:=gridA fun p q=>.int .i64 (f p q)
theorem Blk.cap {w:World} {g:Nat} {f:Int→Int→Int} {b:Bool} {t:TypeId} (h:Blk w g (graC f b) t) {p q:Int} (h0:0≤p) (h1:p<17) (h2:0≤q) (h3:q<17):w.cell? ⟨g,p.toNat * 17 + q.toNat,none⟩=some (.int .i64 (f p q)):=by
 rw [h.cell,graC_at f b (by omega) (by omega),Int.toNat_of_nonneg h0,Int.toNat_of_nonneg h2]
attribute [irreducible] graC capA rowA gridA
end Go.Proofs.YtlbjjkbppbmihaaGreat
namespace Go.Proofs.YtlbjjkbppbmihaaGreat
open Go.RowKit
def mayG (p:Int):Bool:=decide (1≤p∧p≤16)
theorem mayG_true {p:Int} (h:inP p):mayG p=true:=by unfold mayG; unfold inP at h; simp; omega
theorem mayG_false {p:Int} (h:¬ inP p):mayG p=false:=by unfold mayG; unfold inP at h; simp; omega
end Go.Proofs.YtlbjjkbppbmihaaGreat
namespace Go.Proofs.YtlbjjkbppbmihaaGreat
open Go.RowKit
theorem Rowed.alloc {w:World} {base:Nat} {e:TypeId} {size:Nat} {v:Value} {n:Nat} {xs:List Value} (h:Rowed w base e size v n xs) (o:Obj):Rowed (w.alloc o) base e size v n xs :=
 h.below ((Below.refl w.heap.size w).alloc (Nat.le_refl _) o)
theorem rowed_shape {w:World} {base:Nat} {e:TypeId} {size:Nat} {v:Value} {n:Nat} {xs:List Value} (h:Rowed w base e size v n xs) :
  ∃ (ao:Option Addr),v=.slice ao n n∧(0<n→∃ g,ao=some ⟨g,0,none⟩∧base≤g∧g<w.heap.size∧∀ j,j<n * size→w.cell? ⟨g,j,none⟩=xs[j]?):=by
 obtain ⟨h1,h2⟩:=h
 rcases h2 with ⟨rfl,rfl⟩ | ⟨g,cur,rfl,hb,hg,h3,h4,h5⟩
 ·exact ⟨none,rfl,fun h=>absurd h (by omega)⟩
 ·refine ⟨some ⟨g,0,none⟩,rfl,fun _=>⟨g,rfl,hb,lt_of_block hg,fun j hj=>?_⟩⟩
  have:w.cell? ⟨g,j,none⟩=cur[j]? := by simp [World.cell?,hg]
  rw [this,← h5,List.getElem?_take_of_lt hj,Array.getElem?_toList]
theorem rowed_own {w:World} {base:Nat} {e:TypeId} {size:Nat} {v:Value} {n:Nat} {xs:List Value} (h:Rowed w base e size v n xs) {b:Nat} (hb:v.ownBlock=some b):base≤b∧b<w.heap.size:=by
 obtain ⟨_,h2⟩:=h
 rcases h2 with ⟨rfl,rfl⟩ | ⟨g,cur,rfl,h3,hg,_⟩
 ·cases hb
 ·cases hb
  exact ⟨h3,lt_of_block hg⟩
theorem Rowed.look {w:World} {base:Nat} {e:TypeId} {size:Nat} {v:Value} {n:Nat} {xs:List Value} (h:Rowed w base e size v n xs) :
  ∃ (ao:Option Addr) (cap:Nat),v=.slice ao n cap∧n≤cap∧cap≤maxLen∧xs.length=n * size∧(0<n→∃ b,ao=some ⟨b,0,none⟩∧base≤b∧b<w.heap.size∧(∀ j,j<n * size→w.cell? ⟨b,j,none⟩=xs[j]?)∧∀ j,w.frozen? ⟨b,j,none⟩=false):=by
 obtain ⟨h1,h2⟩:=h
 rcases h2 with ⟨rfl,rfl⟩ | ⟨g,cur,rfl,hb,hg,hm,hc,ht⟩
 ·exact ⟨none,0,rfl,Nat.le_refl _,by decide,h1,fun h=>absurd h (by omega)⟩
 ·have hB:Blk w g cur e:=hg
  refine ⟨some ⟨g,0,none⟩,n,rfl,Nat.le_refl _,hm,h1,fun _=>⟨g,rfl,hb,lt_of_block hg,fun j hj=>?_,fun j=>hB.frozen j⟩⟩
  rw [hB.cell,← ht,List.getElem?_take_of_lt hj,Array.getElem?_toList]
def RowPost (e:TypeId) (L:List Int) (w:World) (en:Ending) (w':World):Prop :=
 ∃ v,en=.returned v∧Rowed w' w.heap.size e 1 v L.length (L.map (.int .u8))∧Below w.heap.size w w'
end Go.Proofs.YtlbjjkbppbmihaaGreat
namespace Go.Proofs.YtlbjjkbppbmihaaGreat
open Go.RowKit
def RowA (w:World) (base:Nat) (e:TypeId) (size:Nat) (v:Value) (n:Nat) (xs:List Value):Prop :=
 xs.length=n * size∧((v=.slice none 0 0∧n=0)∨∃ g cap cur,v=.slice (some ⟨g,0,none⟩) n cap∧base≤g∧w.heap[g]? = some (.cells cur e (0,0))∧n≤cap∧cap≤maxLen∧cap * size≤cur.size∧cur.toList.take (n * size)=xs)
section
variable {w w':World} {base:Nat} {e:TypeId} {size:Nat} {v:Value} {n:Nat} {xs:List Value}
theorem RowA.type (h:RowA w base e size v n xs) {b:Nat} (hb:v.ownBlock=some b):base≤b∧b<w.heap.size∧∃ cur,w.heap[b]? = some (.cells cur e (0,0)):=by
 obtain ⟨_,h2⟩:=h
 rcases h2 with ⟨rfl,_⟩ | ⟨g,cap,cur,rfl,hge,hg,_⟩
 ·cases hb
 ·cases hb; exact ⟨hge,lt_of_block hg,cur,hg⟩
end
end Go.Proofs.YtlbjjkbppbmihaaGreat
