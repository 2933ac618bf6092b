/-GTm1-/
import Derived.Test.YtjaebndajhppgaaGreatDoorRows
import Derived.WalkKit
import Derived.ProofKit
import Derived.OpenShut
import Derived.Deep.QuietTactic
import Derived.BigQuiet
import Derived.Deep.Slices
import Derived.Deep.DeepHandedRow
import Derived.Lib.LaidTab
import Derived.StillTailTactics
import Derived.Laws.AppendOwnNone
import Derived.SizedLaws
import Derived.WalkLawsBesides
import Derived.WalkSpells
import Derived.Lib.SplitLaws
import Derived.Lib.Bytealg
import Derived.Lib.TrimUEq
import Derived.Lib.ValidLaws
set_option linter.unusedVariables false
set_option maxRecDepth 100000
set_option linter.unusedSimpArgs false
namespace Go.Proofs.YtjaebndajhppgaaGreatDoor
open Go.ChangeShapes Go.WideShapes Go.ChangeAt Go.RowKit
theorem ret_int {k:IntKind} {a b:Int} (h:a=b):Ending.returned (.int k a)=.returned (.int k b):=by rw [h]
theorem ret_bool {a b:Bool} (h:a=b):Ending.returned (.bool a)=.returned (.bool b):=by rw [h]
theorem hid {p:Prop} (h:p):Hid p:=h
structure Later (B:Nat) (w:World) where
 it:World
 low:Below B w it
instance {B:Nat} {w:World}:Nonempty (Later B w):=⟨⟨w,Below.refl B w⟩⟩
theorem wp_region_later {P:Program} {id:Nat} {Q:Exit→Act→World→Prop} {a:Act} {w:World} {l:List Oper} (B:Nat) (hm:P.follows .mixedOrders=true) (hB:Region.lexB .any l.toArray=true)
  (h:wpQuiet P l.toArray (fun w'=>∃ p:Later B w,w'=p.it) (fun a'=>∀ w',(∃ p:Later B w,w'=p.it)→Q .normal a' w') l a):(Code.region id l.toArray true).wp P Q a w:=
 wp_region_quiet (C:=fun w'=>∃ p:Later B w,w'=p.it) hm hB ⟨⟨_,(Below.refl B w).drew⟩,rfl⟩ (by simpa using h)
theorem Later.call {P:Program} {f:FuncId} {args:Array Value} {B:Nat} {w:World} {p:Later B w} {v:Value} (hB:B≤w.heap.size)
  (h:Calls P f args p.it fun e w'=>e=.returned v∧Below p.it.heap.size p.it w'):Calls P f args p.it fun e w''=>e=.returned v∧∃ q:Later B w,w''=q.it:=
 h.mono fun _ _ ⟨he,hb⟩=>⟨he,⟨_,p.low.trans (hb.mono (Nat.le_trans hB p.low.size))⟩,rfl⟩
theorem Later.call_same {P:Program} {f:FuncId} {args:Array Value} {B:Nat} {w:World} {p:Later B w} {v:Value}
  (h:Calls P f args p.it fun e w'=>e=.returned v∧w'=p.it):Calls P f args p.it fun e w''=>e=.returned v∧∃ q:Later B w,w''=q.it:=
 h.mono fun _ _ ⟨he,hb⟩=>⟨he,p,hb⟩
theorem below_drawn {B:Nat} {a w:World} (h:Below B a w) (n:Nat):Below B a (w.drewN n):=⟨h.os,h.tape,h.output,h.size,h.block⟩
theorem Later.cell {B:Nat} {w:World} (p:Later B w) (b o:Nat) (h:b<B):p.it.cell? ⟨b,o,none⟩=w.cell? ⟨b,o,none⟩:=p.low.cell (p:=⟨b,o,none⟩) h
theorem below_cells {B:Nat} {w w':World} (h:Below B w w') (b o:Nat) (hb:b<B):w'.cell? ⟨b,o,none⟩=w.cell? ⟨b,o,none⟩:=h.cell (p:=⟨b,o,none⟩) hb
theorem lt_of_cell {w:World} {b o:Nat} {v:Value} (h:w.cell? ⟨b,o,none⟩=some v):b<w.heap.size:=World.block_lt_of_cell? _ _ h
theorem below_keep {w w':World} (h:Below w.heap.size w w') {b o:Nat} {v:Value} (hc:w.cell? ⟨b,o,none⟩=some v):w'.cell? ⟨b,o,none⟩=some v:=by
 rw [below_cells h b o (lt_of_cell hc)];exact hc
theorem Later.keep {w:World} (p:Later w.heap.size w) {b o:Nat} {v:Value} (hc:w.cell? ⟨b,o,none⟩=some v):p.it.cell? ⟨b,o,none⟩=some v:=below_keep p.low hc
theorem below_then {w w' w'':World} (h:Below w.heap.size w w') (k:Below w'.heap.size w' w''):Below w.heap.size w w'':=h.trans (k.mono h.size)
section
variable {P:Program} {ops:Array Oper} {md:Region.Mode} {C:World→Prop}
def headQ (P:Program) (md:Region.Mode) (ops:Array Oper) (C:World→Prop) (n:Nat) (L:Array Bool→Act→Prop):Nat→Array Bool→Act→Prop
 | 0,listed,a=>L listed a
 | f+1,listed,a=>Region.ready md ops listed≠[]∧∀ i∈Region.ready md ops listed,i<n∧qOp P ops C i (headQ P md ops C n L f (listed.setIfInBounds i true)) a
theorem any_of_headQ {n g:Nat} {L:Array Bool→Act→Prop} {Q:Exit→Act→World→Prop} (hL:∀ listed a w,C w→L listed a→wpAny P md ops Q g listed a w) :
  ∀ (f:Nat) (listed:Array Bool) (a:Act) (w:World),C w→headQ P md ops C n L f listed a→wpAny P md ops Q (f+g) listed a w:=by
 intro f
 induction f with
 | zero=>intro listed a w hw h;rw [Nat.zero_add];exact hL _ _ _ hw h
 | succ f ih=>
  intro listed a w hw h
  rw [show f+1+g=(f+g)+1 by omega]
  exact ⟨fun h0=>absurd h0 h.1,fun i hi=>wpOp_of_qOp hw (fun a' w' hw' h'=>ih _ a' w' hw' h') (h.2 i hi).2⟩
theorem headQ_first {n i:Nat} {oi:Oper} {v:Value} {L:Array Bool→Act→Prop} (hi:ops[i]?=some oi) (hsel:∀ (j:Nat) (o:Oper) cs b,ops[j]?=some o→o.op≠.select cs b)
  (hs:Region.sinkB md ops n=true) (hc:Region.chainB md ops n=true) (hn:n<ops.size) (hin:i<n)
  (hdone:∀ listed a,L listed a→∀ j∈Region.ready md ops listed,n≤j) :
  ∀ (f:Nat) (listed:Array Bool) (a:Act),HeadInv md ops n listed →
   (∀ j oj,ops[j]?=some oj→j≠i→listed.getD j true=false→(∀ e∈oj.after,Region.binds md e=true→e.on≠i)→oi.apart ops oj=true) →
   i∈Region.ready md ops listed→YieldsIn P ops C oi v a →
   headQ P md ops C n L f (listed.setIfInBounds i true) (a.put oi.dst v)→headQ P md ops C n L (f+1) listed a:=by
 intro f
 induction f with
 | zero=>
  intro listed a inv _ hr hy H
  have hun:=(mem_ready.1 hr).1
  refine ⟨fun h=>(by rw [h] at hr;cases hr),fun j hj=>?_⟩
  have hjn:j<n:=by
   rcases Nat.lt_or_ge j n with h | h
   · exact h
   · exact absurd hj (tail_waits hs hc hn inv _ i rfl hin hun j h)
  refine ⟨hjn,?_⟩
  by_cases hji:j=i
  · subst hji;exact hy.qOp hi H
  · have:=hdone _ _ H j (ready_mono hj hji)
    omega
 | succ f ih=>
  intro listed a inv hfree hr hy H
  have hun:=(mem_ready.1 hr).1
  refine ⟨fun h=>(by rw [h] at hr;cases hr),fun j hj=>?_⟩
  have hjn:j<n:=by
   rcases Nat.lt_or_ge j n with h | h
   · exact h
   · exact absurd hj (tail_waits hs hc hn inv _ i rfl hin hun j h)
  refine ⟨hjn,?_⟩
  by_cases hji:j=i
  · subst hji;exact hy.qOp hi H
  · have h1:=(H.2 j (ready_mono hj hji)).2
    obtain ⟨hjun,oj,hoj,hall⟩:=mem_ready.1 hj
    have hnot:∀ e∈oj.after,Region.binds md e=true→e.on≠i:=fun e he hb heq=>by
     have h2:=hall e he hb
     rw [heq,getD_both hun] at h2
     cases h2
    have h2:=qOp_put hoj (hfree j oj hoj hji hjun hnot) (fun cs b=>hsel i oi cs b hi) (fun cs b=>hsel j oj cs b hoj) hy h1
    refine qOp_mono (fun a' h3=>ih (listed.setIfInBounds j true) a' (inv.set hj hjn) ?_ (ready_mono hr (Ne.symm hji)) h3.1 ?_) h2
    · intro k ok hk hki hkun hno
      refine hfree k ok hk hki ?_ hno
      by_cases hjk:j=k
      · subst hjk;exact hjun
      · rw [getD_set_ne true hjk] at hkun;exact hkun
    · rw [Array.setIfInBounds_comm _ _ hji]
      exact h3.2
theorem headQ_lex {n g:Nat} {Lq:Act→Prop} (hsel:Region.noSelect ops=true) (hs:Region.sinkB md ops n=true) (hc:Region.chainB md ops n=true) (hn:n<ops.size) :
  ∀ (l:List Oper) (k:Nat) (listed:Array Bool) (a:Act),(∀ j,j<l.length→l[j]?=ops[k+j]?)→k+l.length=n→HeadInv md ops n listed →
  Region.lexHead md ops g l.length k listed=true→wpQuiet P ops C Lq l a →
  headQ P md ops C n (fun listed' a'=>Region.seqB md ops g n listed'=true∧Lq a') l.length listed a:=by
 intro l
 induction l with
 | nil=>
  intro k listed a _ hk _ hB h
  obtain rfl:k=n:=by simpa using hk
  exact ⟨by simpa [Region.lexHead] using hB,h⟩
 | cons o l ih=>
  intro k listed a hl hk inv hB h
  have h0:ops[k]?=some o:=by simpa using (hl 0 (by simp)).symm
  simp only [List.length_cons,Region.lexHead,Bool.and_eq_true] at hB
  obtain ⟨⟨hr,hf⟩,hB'⟩:=hB
  have hkn:k<n:=by simp only [List.length_cons] at hk;omega
  have hr':k∈Region.ready md ops listed:=by simpa using hr
  have hst:qOp P ops C k (wpQuiet P ops C Lq l) a:=by unfold qOp;simp only [h0];exact h
  obtain ⟨v,hy,hK⟩:=yieldsIn_of_qOp h0 hst
  exact headQ_first h0 (Region.noSelect_spec hsel) hs hc hn hkn (fun listed' a' hL=>seqB_ready hL.1) l.length listed a inv (Region.free_spec h0 hf) hr' hy
   (ih (k+1) _ _ (fun j hj=>by have:=hl (j+1) (by simp;omega);simpa [Nat.add_assoc,Nat.add_comm 1 j] using this) (by simp only [List.length_cons] at hk;omega) (inv.set hr' hkn) hB' hK)
theorem wp_region_quiet_tail {id:Nat} {Q:Exit→Act→World→Prop} {a:Act} {w:World} {l:List Oper} (n:Nat) (C:World→Prop) (hm:P.follows .mixedOrders=true) (hB:Region.lexTailB .any l.toArray n=true)
  (hC:C w.drew) (h:wpQuiet P l.toArray C (fun a'=>∀ w',C w'→wpList P l.toArray Q (l.drop n) a' w') (l.take n) a):(Code.region id l.toArray true).wp P Q a w:=by
 simp only [Region.lexTailB,Bool.and_eq_true,decide_eq_true_eq] at hB
 obtain ⟨⟨⟨⟨hsel,hn⟩,hs⟩,hc⟩,hlex⟩:=hB
 have hn':n<l.length:=by simpa using hn
 have htl:(l.take n).length=n:=by simp;omega
 have hdl:(l.drop n).length=l.toArray.size-n:=by simp
 have inv0:HeadInv .any l.toArray n (Array.replicate l.toArray.size false):=
  ⟨by simp,fun j oj _ hl=>(by rw [getD_replicate_false] at hl;cases hl),fun t _ ht=>getD_in (by simpa using ht) (getD_replicate_false _ _)⟩
 have H:=headQ_lex (md:=.any) (g:=l.toArray.size-n) hsel hs hc hn (l.take n) 0 _ a (fun j hj=>by
  have hj':j<n:=by rw [htl] at hj;exact hj
  simp [hj']) (by simpa using htl) inv0 (by rw [htl];exact hlex) h
 refine wp_region_any hm ?_
 have:=any_of_headQ (Q:=Q) (g:=l.toArray.size-n) (fun listed a' w' hw' hL=>by
  have:=wpAny_of_seq (md:=.any) (Q':=Q) (l.drop n) n listed a' w' (fun j=>by simp [List.getElem?_drop]) (by rw [hdl];exact hL.1) (hL.2 w' hw')
  rwa [hdl] at this) _ _ _ _ hC H
 rw [htl,show n+(l.toArray.size-n)=l.toArray.size by omega] at this
 exact this
end
theorem wp_region_later_tail {P:Program} {id:Nat} {Q:Exit→Act→World→Prop} {a:Act} {w:World} {l:List Oper} (n:Nat) (B:Nat) (hm:P.follows .mixedOrders=true) (hB:Region.lexTailB .any l.toArray n=true)
  (h:wpQuiet P l.toArray (fun w'=>∃ p:Later B w,w'=p.it) (fun a'=>∀ w',(∃ p:Later B w,w'=p.it)→wpList P l.toArray Q (l.drop n) a' w') (l.take n) a):(Code.region id l.toArray true).wp P Q a w:=
 wp_region_quiet_tail n (fun w'=>∃ p:Later B w,w'=p.it) hm hB ⟨⟨_,(Below.refl B w).drew⟩,rfl⟩ h
theorem wp_region_drawn_tail {P:Program} {id:Nat} {Q:Exit→Act→World→Prop} {a:Act} {w:World} {l:List Oper} (n:Nat) (hm:P.follows .mixedOrders=true) (hB:Region.lexTailB .any l.toArray n=true)
  (h:wpQuiet P l.toArray (fun w'=>∃ n,w'=w.drewN n) (fun a'=>∀ w',(∃ n,w'=w.drewN n)→wpList P l.toArray Q (l.drop n) a' w') (l.take n) a):(Code.region id l.toArray true).wp P Q a w:=
 wp_region_quiet_tail n (fun w'=>∃ n,w'=w.drewN n) hm hB ⟨1,rfl⟩ h
theorem drawn_same {P:Program} {f:FuncId} {args:Array Value} {w:World} {x:Nat} {v:Value}
  (h:∀ W,W=w.drewN x→Calls P f args W fun e w'=>e=.returned v∧w'=W):Calls P f args (w.drewN x) fun e w''=>e=.returned v∧∃ n,w''=w.drewN n:=
 (h _ rfl).mono fun _ _ ⟨he,hm⟩=>⟨he,x,hm⟩
theorem drawn_same' {P:Program} {f:FuncId} {args:Array Value} {w:World} {m x:Nat} {v:Value}
  (h:∀ W,W=w.drewN (m+x)→Calls P f args W fun e w'=>e=.returned v∧w'=W):Calls P f args (w.drewN (m+x)) fun e w''=>e=.returned v∧∃ n,w''=w.drewN (m+n):=
 (h _ rfl).mono fun _ _ ⟨he,hm⟩=>⟨he,x,hm⟩
def Blk (w:World) (b:Nat) (A:List Value) (t:TypeId):Prop:=w.heap[b]?=some (.cells A.toArray t (0,0))
theorem Blk.lt {w:World} {b:Nat} {A:List Value} {t:TypeId} (h:Blk w b A t):b<w.heap.size:=lt_of_block h
theorem Blk.cell {w:World} {b:Nat} {A:List Value} {t:TypeId} (h:Blk w b A t) {i:Nat} {v:Value} (hv:A[i]?=some v):w.cell? ⟨b,i,none⟩=some v:=by
 unfold Blk at h;simp [World.cell?,h,hv]
theorem Blk.free {w:World} {b:Nat} {A:List Value} {t:TypeId} (h:Blk w b A t) (i:Nat):w.frozen? ⟨b,i,none⟩=false:=by
 unfold Blk at h;simp [World.frozen?,h]
theorem Blk.set {w:World} {b:Nat} {A:List Value} {t:TypeId} (h:Blk w b A t) (i:Nat) (v:Value):Blk (w.setCell ⟨b,i,none⟩ v) b (A.set i v) t:=by
 have hlt:=h.lt
 unfold Blk at *
 have h':w.heap[b]=.cells A.toArray t (0,0):=by simpa [Array.getElem?_eq_getElem hlt] using h
 show (w.heap.modify b _)[b]?=_
 rw [Array.getElem?_eq_getElem (by simpa using hlt),Array.getElem_modify_self,h']
 simp
theorem Blk.other {w:World} {b c:Nat} {A:List Value} {t:TypeId} (h:Blk w b A t) (hc:b≠c) (i:Nat) (v:Value):Blk (w.setCell ⟨c,i,none⟩ v) b A t:=by
 unfold Blk at *;rw [Below.heap_setCell _ _ _ _ (by simpa using hc)];exact h
theorem Blk.drew {w:World} {b:Nat} {A:List Value} {t:TypeId} (h:Blk w b A t):Blk w.drew b A t:=h
theorem Blk.alloc {w:World} {b:Nat} {A:List Value} {t:TypeId} (h:Blk w b A t) (o:Obj):Blk (w.alloc o) b A t:=by
 unfold Blk;rw [Below.heap_alloc _ _ _ h.lt];exact h
theorem Blk.new (w:World) (A:List Value) (t:TypeId):Blk (w.alloc (.cells A.toArray t)) w.heap.size A t:=by
 show (w.heap.push _)[w.heap.size]?=_
 simp
theorem Blk.new' {w:World} {n:Nat} {A:List Value} {c:Array Value} {t:TypeId} (hs:w.heap.size=n) (h:c.toList=A):Blk (w.alloc (.cells c t)) n A t:=by
 subst h;subst hs
 simpa using Blk.new w c.toList t
theorem Blk.drewN {w:World} {b:Nat} {A:List Value} {t:TypeId} (h:Blk w b A t) (n:Nat):Blk (w.drewN n) b A t:=h
theorem Blk.below {B:Nat} {w w':World} {b:Nat} {A:List Value} {t:TypeId} (h:Blk w b A t) (hb:Below B w w') (hB:b<B):Blk w' b A t:=by
 unfold Blk;rw [hb.block b hB];exact h
theorem Blk.keep {w w':World} {b:Nat} {A:List Value} {t:TypeId} (h:Blk w b A t) (hb:Below w.heap.size w w'):Blk w' b A t:=h.below hb h.lt
def RowAt (w:World) (a:Option Addr) (n:Nat) (V:Nat→Value):Prop:=n=0∨∃ b off,a=some ⟨b,off,none⟩∧∀ i,i<n→w.cell? ⟨b,off+i,none⟩=some (V i)
theorem RowAt.keep {w w':World} {a:Option Addr} {n:Nat} {V:Nat→Value} (h:RowAt w a n V) (hb:Below w.heap.size w w'):RowAt w' a n V:=by
 rcases h with h | ⟨b,off,ha,hc⟩
 · exact Or.inl h
 · exact Or.inr ⟨b,off,ha,fun i hi=>below_keep hb (hc i hi)⟩
theorem RowAt.get {w:World} {a:Option Addr} {n:Nat} {V:Nat→Value} (h:RowAt w a n V) {i:Nat} (hi:i<n):∃ b off,a=some ⟨b,off,none⟩∧∀ i,i<n→w.cell? ⟨b,off+i,none⟩=some (V i):=by
 rcases h with h | h
 · omega
 · exact h
theorem own:ownKnob Tryz.prog.godebug=none:=by kernel_rfl
theorem laidOut:laidOutB Tryz.prog=true:=by kernel_rfl
theorem trodAll_below {H:Type} {enc:TypeId×Value→H} {W W':World} (hb:Below W.heap.size W W') :
  ∀ (ts:List TypeId) (vs:List Value) (ds:List (DataW H)) (ps:List MemPlace),(∀ t,t∈ts→Tryz.prog.readableRec t=true∧t<Tryz.prog.types.size) →
   DataW.TrodAll enc Tryz.prog W 0 (fun _=>true) true ts vs ds ps→(∀ x∈ps,x.block<W.heap.size)→DataW.TrodAll enc Tryz.prog W' 0 (fun b=>decide (b<W.heap.size)) true ts vs ds ps:=by
 intro ts
 induction ts with
 | nil=>intro vs ds ps _ h _;cases vs <;> cases ds <;> first | exact h | exact absurd h (by simp [DataW.TrodAll])
 | cons t ts ih=>
  intro vs ds ps hr h hlt
  cases vs with
  | nil=>exact absurd h (by simp [DataW.TrodAll])
  | cons v vs=>
   cases ds with
   | nil=>exact absurd h (by simp [DataW.TrodAll])
   | cons d ds=>
    obtain ⟨p,q,h1,h2,rfl⟩:=h
    exact ⟨p,q,Below.trod laidOut (hr t (by simp)).1 (hr t (by simp)).2 h1 hb (fun x hx=>hlt x (by simp [hx])),
     ih vs ds q (fun t ht=>hr t (by simp [ht])) h2 (fun x hx=>hlt x (by simp [hx])),rfl⟩
theorem law_post {H:Type} {enc:TypeId×Value→H} {fn:Func} {s:ChangeSpec} {W W':World} {args:Array Value} {ds gs:List (DataW H)} {before:List MemPlace} {tb:TypeId}
  (hv:s.vars=[]) (hspec:∀ (ds:List (DataW H)),ds.length=fn.params.toList.length→s.fn H (ds++[]) = { results:=[.lit (.bool true)],args:=ds })
  (hres:fn.resultTypes=#[tb]) (htb:Tryz.prog.underlying tb=some .bool)
  (hpar:fn.params.all (fun t=>Tryz.prog.readableRec t && decide (t<Tryz.prog.types.size))=true)
  (hW:DataW.Whole enc Tryz.prog fn.params.toList s.vars false W args.toList ds gs before) (hb:Below W.heap.size W W') :
  s.post enc Tryz.prog fn false true false false W args (.bool true) W':=by
 have hW':=hW
 obtain ⟨p,q,hA,hV,rfl,hfz,hnd⟩:=hW
 rw [hv] at hV
 obtain ⟨rfl,rfl⟩:=trodVars_none hV
 have hlen:ds.length=fn.params.toList.length:=by
  have:∀ (ts:List TypeId) (vs:List Value) (ds:List (DataW H)) (ps:List MemPlace),DataW.TrodAll enc Tryz.prog W 0 (fun _=>true) true ts vs ds ps→ds.length=ts.length:=by
   intro ts
   induction ts with
   | nil=>intro vs ds ps h;cases vs <;> cases ds <;> first | rfl | exact absurd h (by simp [DataW.TrodAll])
   | cons t ts ih=>
    intro vs ds ps h
    cases vs with
    | nil=>exact absurd h (by simp [DataW.TrodAll])
    | cons v vs=>
     cases ds with
     | nil=>exact absurd h (by simp [DataW.TrodAll])
     | cons d ds=>obtain ⟨p,q,h1,h2,rfl⟩:=h;simp [ih vs ds q h2]
  exact this _ _ _ _ hA
 have e:=hspec ds hlen
 refine ⟨ds,[],p++[],[],p,[],hW',?_,?_,?_,hb.frame _,fun h=>by cases h⟩
 · rw [e,hres]
   exact trodAll_cons_mk (shut_bool htb true) trodAll_mk0
 · rw [e]
   refine trodAll_below hb _ _ _ _ (fun t ht=>?_) hA (fun x hx=>hW'.lt x (by simp [hx]))
   have:=Array.all_eq_true_iff_forall_mem.1 hpar t (by simpa using ht)
   simpa using this
 · rw [hv,e];rfl
theorem spot_none {w:World} {a:Addr} {v:Value} (h:w.cell? a=some v):a.spot=none:=by
 unfold World.cell? at h
 split at h
 · split at h
   · cases h
   · rename_i h1;cases hs:a.spot with
     | none=>rfl
     | some x=>rw [hs] at h1;exact absurd rfl h1
 · cases h
theorem add_cell {w:World} {a:Addr} (hs:a.spot=none) (i:Nat):w.cell? (a.add i)=w.cell? ⟨a.block,a.off+i,none⟩:=by
 unfold Addr.add
 split
 · rename_i h;subst h;rw [Nat.add_zero,←hs]
 · rfl
theorem wpList_append_row {w:World} {P:Program} {ops:Array Oper} {rest:List Oper} {o:Oper} {a:Act} {Q:Exit→Act→World→Prop} (hgd:o.guard=none) (s x:Operand) (t:TypeId)
  (ho:o.op=.call { callee:=.builtin .append,args:=#[s,x],argTypes:=#[t,t] })
  (base:Nat) (e:TypeId) (i:TypeInfo) (z:Value) (bytes:Nat) (ht:P.underlying t=some (.slice e)) (hi:P.info? e=some i) (hz:i.zero=some z)
  (hsize:i.size=1) (hby:i.bytes=bytes) (hzs:z.cells.size=1)
  (v:Value) (n:Nat) (xs:List Value) (hs:a.eval s=v) (hown:w.ownsRow base e 1 v n xs)
  (sa:Option Addr) (m c:Nat) (V:Nat→Value) (hx:a.eval x=.slice sa m c) (hnil:sa=none→m=0∧c=0) (hrow:RowAt w sa m V) (h1:∀ j,j<m→(V j).oneCell'=true)
  (h63:n+m≤maxLen) (hbytes:(n+m)*bytes≤140737488355328) (hbase:base≤w.heap.size)
  (h:∀ v' w',w'.ownsRow base e 1 v' (n+m) (xs++(List.range m).map V)→w.grownBy w' v.ownBlock→wpList P ops Q rest (a.put o.dst v') w'):wpList P ops Q (o::rest) a w:=by
 cases sa with
 | none=>
  obtain ⟨rfl,rfl⟩:=hnil rfl
  refine wpList_append_own_none hgd s x t ho base e i 1 ht hi v n xs hs hown hx (h v w ?_ ⟨rfl,rfl,rfl,Nat.le_refl _,fun _ _ _=>rfl⟩)
  simpa using hown
 | some ad=>
  refine wpList_append_own w hgd s x t ho base e i z 1 bytes ht hi hz hsize hby hzs (by decide) v n xs hs hown ad m c ((List.range m).map V) hx (by simp) ?_ ?_ h63 hbytes hbase (fun v' w' h2 h3 _=>h v' w' h2 h3)
  · intro j u hj
    have hjm:j<m:=by
     have:=(List.getElem?_eq_some_iff.1 hj).1
     simpa using this
    obtain ⟨b,off,hab,hc⟩:=hrow.get hjm
    simp only [Option.some.injEq] at hab
    subst hab
    rw [List.getElem?_map,List.getElem?_range hjm] at hj
    simp only [Option.map_some,Option.some.injEq] at hj
    subst hj
    rw [add_cell rfl]
    exact hc j hjm
  · intro u hu
    obtain ⟨j,hj,rfl⟩:=List.mem_map.1 hu
    exact h1 j (by simpa using hj)
theorem rowAt_own {w:World} {base:Nat} {e:TypeId} {v:Value} {n:Nat} {xs:List Value} (h:w.ownsRow base e 1 v n xs):∃ (a:Option Addr) (cap:Nat),v=.slice a n cap∧n≤cap∧cap≤maxLen∧(a=none→n=0∧cap=0)∧RowAt w a n fun i=>xs.getD i undef:=by
 obtain ⟨hl,h⟩:=h
 rcases h with ⟨rfl,rfl⟩ | ⟨g,cap,cur,rfl,hg,hh,hn,hm,hc,hx⟩
 · exact ⟨none,0,rfl,Nat.le_refl _,by unfold maxLen;omega,fun _=>⟨rfl,rfl⟩,Or.inl rfl⟩
 · refine ⟨_,cap,rfl,hn,hm,(fun h=>by cases h),Or.inr ⟨g,0,rfl,fun i hi=>?_⟩⟩
   have h1:cur.toList[i]?=xs[i]?:=by rw [←hx,List.getElem?_take,if_pos (by omega)]
   have h2:i<xs.length:=by omega
   rw [Nat.zero_add]
   simp [World.cell?,hh,List.getD]
   rw [←Array.getElem?_toList,h1,List.getElem?_eq_getElem h2];simp
theorem getD_left {α:Type} {a b:List α} {i:Nat} {d:α} (h:i<a.length):(a++b).getD i d=a.getD i d:=by simp [List.getD,List.getElem?_append_left h]
theorem getD_right {α:Type} {a b:List α} {i:Nat} {d:α} (h:a.length≤i):(a++b).getD i d=b.getD (i-a.length) d:=by simp [List.getD,List.getElem?_append_right h]
def strOf (l:List Nat):ByteArray:=⟨(l.map fun x=>UInt8.ofNat x).toArray⟩
theorem conv_bytes {P:Program} (w:World) (src e dst:TypeId) (hs:P.underlying src=some (.slice e)) (he:P.underlying e=some (.int .u8)) (hd:P.underlying dst=some .string) (a:Option Addr) (m cap:Nat) (l:List Nat)
  (hm:m=l.length) (hR:RowAt w a m fun i=>.int .u8 (l.getD i 0:Nat)):(convert src dst (.slice a m cap)).run P w=.ok (.string (strOf l)) w:=by
 subst hm
 rcases hR with h0 | ⟨b,off,rfl,hc⟩
 · obtain rfl:l=[]:=List.eq_nil_of_length_eq_zero h0
   cases a with
   | none=>exact run_convert_bytes_nil w src e hs he _ _ dst hd
   | some ad=>
    rw [run_convert_bytes_string w src dst e _ _ cap hs he hd]
    rw [run_bytesToString w ad _ cap [] (by simp [loadCells];rfl)]
    rfl
 · rw [run_convert_bytes_arg w src e hs he b off l.length cap (l.map fun x:Nat=>(x:Int)) (by simp) (fun i hi=>by
    rw [hc i hi];simp [List.getD,hi]) dst hd]
   congr 2
   simp [strOfNums,strOf]
open Go.ChangeShapes Go.WideShapes Go.ChangeAt Go.RowKit
def Moved (w:World) (v v':Value):Prop:=v'.ownBlock=v.ownBlock∨∃ k,v'.ownBlock=some k∧w.heap.size≤k
theorem run_append_blk {P:Program} {w:World} (base:Nat) (t ty e:TypeId) (i:TypeInfo) (z:Value) (size bytes:Nat) (ht:P.underlying t=some (.slice e)) (hi:P.info? e=some i) (hz:i.zero=some z)
  (hsize:i.size=size) (hby:i.bytes=bytes) (hzs:z.cells.size=size) (hsz:0<size)
  (v:Value) (n:Nat) (xs:List Value) (hown:w.ownsRow base e size v n xs)
  (a:Addr) (m c:Nat) (news:List Value) (hl:news.length=m*size) (hnews:∀ j u,news[j]?=some u→w.cell? (a.add j)=some u) (h1:∀ u∈news,u.oneCell'=true)
  (h63:n+m≤maxLen) (hbytes:(n+m)*bytes≤140737488355328) (hbase:base≤w.heap.size) :
  ∃ v' w',(Builtin.append_ #[t,t] ty #[v,.slice (some a) m c]).run P w=.ok v' w'∧w'.ownsRow base e size v' (n+m) (xs++news)∧w.grownBy w' v.ownBlock∧Moved w v v':=by
 obtain ⟨v',w',hr,h2,h3,h4⟩:=run_append_own (P:=P) w base t ty e i z size bytes ht hi hz hsize hby hzs hsz v n xs hown a m c news hl hnews h1 h63 hbytes hbase
 refine ⟨v',w',hr,h2,h3,?_⟩
 rcases hown.2 with ⟨rfl,rfl⟩ | ⟨g,cap,cur,rfl,hbg,hg,hnc,hcm,hcs,htake⟩
 · by_cases hm:m=0
   · rw [h4.2 ⟨rfl,hm⟩];exact Or.inl rfl
   · have hown2:w.ownsRow w.heap.size e size (.slice none 0 0) 0 xs:=⟨hown.1,.inl ⟨rfl,rfl⟩⟩
     obtain ⟨v2,w2,hr2,k2,_,k4⟩:=run_append_own (P:=P) w w.heap.size t ty e i z size bytes ht hi hz hsize hby hzs hsz _ 0 xs hown2 a m c news hl hnews h1 h63 hbytes (Nat.le_refl _)
     rw [hr] at hr2
     obtain ⟨rfl,rfl⟩:v'=v2∧w'=w2:=by simpa using hr2
     cases hb:v'.ownBlock with
     | none=>exact Or.inl (by rw [hb];rfl)
     | some k=>exact Or.inr ⟨k,hb,(k2.lt k hb).1⟩
 · by_cases hroom:n+m≤cap
   · obtain ⟨w2,hr2,_,_⟩:=run_append_fits (P:=P) (w:=w) base t ty e i size ht hi hsize g n cap xs hown a m c news hl hnews h1 hroom
     rw [hr] at hr2
     obtain ⟨rfl,_⟩:v'=_∧w'=w2:=by simpa using hr2
     exact Or.inl rfl
   · subst hsize
     subst hby
     have h63':((n+m:Nat):Int)≤9223372036854775807:=by unfold maxLen at h63;omega
     have hr2:=run_append_grow (P:=P) w t ty e i z ht hi hz ⟨g,0,none⟩ n cap xs hown.1 (hown.cells (g:=g) rfl) a m c news hl hnews (by omega) h63' (growslice_fits (by omega) hbytes)
     rw [hr] at hr2
     obtain ⟨rfl,_⟩:v'=_∧w'=_:=by simpa using hr2
     exact Or.inr ⟨_,rfl,Nat.le_refl _⟩
theorem wpList_append_blk {w:World} {P:Program} {ops:Array Oper} {rest:List Oper} {o:Oper} {a:Act} {Q:Exit→Act→World→Prop} (hgd:o.guard=none) (s x:Operand) (t:TypeId)
  (ho:o.op=.call { callee:=.builtin .append,args:=#[s,x],argTypes:=#[t,t] })
  (base:Nat) (e:TypeId) (i:TypeInfo) (z:Value) (size bytes:Nat) (ht:P.underlying t=some (.slice e)) (hi:P.info? e=some i) (hz:i.zero=some z)
  (hsize:i.size=size) (hby:i.bytes=bytes) (hzs:z.cells.size=size) (hsz:0<size)
  (v:Value) (n:Nat) (xs:List Value) (hs:a.eval s=v) (hown:w.ownsRow base e size v n xs)
  (sa:Option Addr) (m c:Nat) (news:List Value) (hx:a.eval x=.slice sa m c) (hnil:sa=none→m=0∧c=0) (hl:news.length=m*size)
  (hnews:∀ ad,sa=some ad→∀ j u,news[j]?=some u→w.cell? (ad.add j)=some u) (h1:∀ u∈news,u.oneCell'=true)
  (h63:n+m≤maxLen) (hbytes:(n+m)*bytes≤140737488355328) (hbase:base≤w.heap.size)
  (h:∀ v' w',w'.ownsRow base e size v' (n+m) (xs++news)→w.grownBy w' v.ownBlock→Moved w v v'→wpList P ops Q rest (a.put o.dst v') w'):wpList P ops Q (o::rest) a w:=by
 cases sa with
 | none=>
  obtain ⟨rfl,rfl⟩:=hnil rfl
  obtain rfl:news=[]:=List.eq_nil_of_length_eq_zero (by simpa using hl)
  refine wpList_append_own_none hgd s x t ho base e i size ht hi v n xs hs hown hx (h v w ?_ ⟨rfl,rfl,rfl,Nat.le_refl _,fun _ _ _=>rfl⟩ (Or.inl rfl))
  simpa using hown
 | some ad=>
  refine wpList_plain hgd fun K hK=>?_
  obtain ⟨v',w',hr,h2,h3,h4⟩:=run_append_blk (P:=P) (w:=w) base t o.type e i z size bytes ht hi hz hsize hby hzs hsz v n xs hown ad m c news hl (hnews ad rfl) h1 h63 hbytes hbase
  unfold Oper.wp execOp
  simp only [ho,resolve,invoke,builtin,Sem.run_bind,Sem.run_pure,Result.andThen_ok,List.map_toArray,List.map_cons,List.map_nil,hs,hx,hr]
  exact hK _ _ (h v' w' h2 h3 h4)
theorem wpList_append_one {w:World} {P:Program} {ops:Array Oper} {rest:List Oper} {o:Oper} {a:Act} {Q:Exit→Act→World→Prop} (hgd:o.guard=none) (s x:Operand) (t:TypeId)
  (ho:o.op=.call { callee:=.builtin .append,args:=#[s,x],argTypes:=#[t,t] })
  (base:Nat) (e:TypeId) (i:TypeInfo) (z:Value) (bytes:Nat) (ht:P.underlying t=some (.slice e)) (hi:P.info? e=some i) (hz:i.zero=some z)
  (hsize:i.size=1) (hby:i.bytes=bytes) (hzs:z.cells.size=1)
  (v:Value) (n:Nat) (xs:List Value) (u:Value) (W:World) (hw:w=W.alloc (.cells #[u] e)) (hs:a.eval s=v) (hown:W.ownsRow base e 1 v n xs)
  (hx:a.eval x=.slice (some ⟨W.heap.size,0,none⟩) 1 1) (h1:u.oneCell'=true)
  (h63:n+1≤maxLen) (hbytes:(n+1)*bytes≤140737488355328) (hbase:base≤W.heap.size)
  (h:∀ v' w',w'.ownsRow base e 1 v' (n+1) (xs++[u])→W.grownBy w' v.ownBlock→Moved W v v'→wpList P ops Q rest (a.put o.dst v') w'):wpList P ops Q (o::rest) a w:=by
 subst hw
 have hs1:(W.alloc (.cells #[u] e)).heap.size=W.heap.size+1:=by simp
 refine wpList_append_blk hgd s x t ho base e i z 1 bytes ht hi hz hsize hby hzs (by decide) v n xs hs (hown.alloc _) (some ⟨W.heap.size,0,none⟩) 1 1 [u] hx (fun h=>by cases h) rfl ?_ ?_ h63 hbytes (by omega) (fun v' w' a b c=>h v' w' a ?_ ?_)
 · intro ad had j u' hu
   cases had
   cases j with
   | zero=>
    rw [add_cell rfl,World.cell?_alloc_at _ _ _ _ rfl]
    simpa using hu
   | succ j=>simp at hu
 · intro u' hu;simp at hu;rw [hu];exact h1
 · refine ⟨b.os,b.tape,b.output,by have:=b.size;omega,fun k hk hne=>?_⟩
   rw [b.block k (by omega) hne,Below.heap_alloc _ _ _ hk]
 · rcases c with c | ⟨k,c,d⟩
   · exact Or.inl c
   · exact Or.inr ⟨k,c,by omega⟩
def Apart (u v:Value):Prop:=u.ownBlock=none∨v.ownBlock=none∨u.ownBlock≠v.ownBlock
theorem Apart.symm {u v:Value} (h:Apart u v):Apart v u:=by
 rcases h with h | h | h
 · exact Or.inr (Or.inl h)
 · exact Or.inl h
 · exact Or.inr (Or.inr (Ne.symm h))
theorem apart_nil (u:Value) (n:Nat):Apart u (.slice none n n):=Or.inr (Or.inl rfl)
theorem Apart.kept {w w':World} {base:Nat} {e:TypeId} {size:Nat} {u v:Value} {n:Nat} {xs:List Value} (h:Apart u v) (hv:w.ownsRow base e size v n xs) (hg:w.grownBy w' u.ownBlock):w'.ownsRow base e size v n xs:=by
 refine hv.kept hg ?_
 rcases h with h | h | h
 · rw [h]
   cases v.ownBlock <;> simp
 · exact Or.inl h
 · exact Or.inr (Ne.symm h)
theorem Moved.apart {w:World} {base:Nat} {e:TypeId} {size:Nat} {v v' u:Value} {n:Nat} {xs:List Value} (h:Moved w v v') (hu:w.ownsRow base e size u n xs) (hv:Apart v u):Apart v' u:=by
 rcases h with h | ⟨k,h,hk⟩
 · unfold Apart at *;rw [h];exact hv
 · refine Or.inr (Or.inr fun e=>?_)
   rw [h] at e
   have:=(hu.lt k e.symm).2
   omega
def SlV (W:World) (v:Value) (n:Nat) (V:Nat→Value):Prop:=∃ (a:Option Addr) (cap:Nat),v=.slice a n cap∧n≤cap∧cap≤maxLen∧(a=none→cap=0)∧RowAt W a n V
def SlAt {α:Type} (f:α→Value) (d:α) (W:World) (v:Value) (l:List α):Prop:=SlV W v l.length fun i=>f (l.getD i d)
def u8v (x:Nat):Value:=.int .u8 (x:Nat)
def i64v (x:Int):Value:=.int .i64 x
abbrev BytesAt (W:World) (v:Value) (l:List Nat):Prop:=SlAt u8v 0 W v l
theorem SlV.keep {W W':World} {v:Value} {n:Nat} {V:Nat→Value} (h:SlV W v n V) (hb:Below W.heap.size W W'):SlV W' v n V:=by
 obtain ⟨a,cap,e,h1,h2,h3,r⟩:=h;exact ⟨a,cap,e,h1,h2,h3,r.keep hb⟩
theorem SlAt.keep {α:Type} {f:α→Value} {d:α} {W W':World} {v:Value} {l:List α} (h:SlAt f d W v l) (hb:Below W.heap.size W W'):SlAt f d W' v l:=SlV.keep h hb
theorem SlV.drawn {W:World} {v:Value} {n:Nat} {V:Nat→Value} (h:SlV W v n V) (q:Nat):SlV (W.drewN q) v n V:=h
theorem SlAt.drawn {α:Type} {f:α→Value} {d:α} {W:World} {v:Value} {l:List α} (h:SlAt f d W v l) (q:Nat):SlAt f d (W.drewN q) v l:=h
theorem SlAt.congr {α:Type} {f:α→Value} {d:α} {W:World} {v:Value} {l k:List α} (h:SlAt f d W v l) (e:l=k):SlAt f d W v k:=e ▸ h
theorem SlAt.open {α:Type} {f:α→Value} {d:α} {W:World} {v:Value} {l:List α} (h:SlAt f d W v l):∃ (a:Option Addr) (cap:Nat),v=.slice a l.length cap∧l.length≤cap∧cap≤maxLen∧(a=none→l.length=0∧cap=0)∧RowAt W a l.length fun i=>f (l.getD i d):=by
 obtain ⟨a,cap,e,h1,h2,h3,r⟩:=h;exact ⟨a,cap,e,h1,h2,fun h=>⟨by have:=h3 h;omega,h3 h⟩,r⟩
theorem SlAt.len {α:Type} {f:α→Value} {d:α} {W:World} {v:Value} {l:List α} (h:SlAt f d W v l):l.length≤maxLen:=by
 obtain ⟨a,cap,e,h1,h2,h3,r⟩:=h;omega
theorem SlAt.nil {α:Type} {f:α→Value} {d:α} (W:World):SlAt f d W (.slice none 0 0) []:=⟨none,0,rfl,Nat.le_refl _,by unfold maxLen;omega,fun _=>rfl,Or.inl rfl⟩
theorem SlAt.own {α:Type} {f:α→Value} {d:α} {W:World} {base:Nat} {t:TypeId} {v:Value} {n:Nat} {l:List α} (h:W.ownsRow base t 1 v n (l.map f)) (hn:n=l.length):SlAt f d W v l:=by
 subst hn
 obtain ⟨a,cap,rfl,h1,h2,h3,hr⟩:=rowAt_own h
 refine ⟨a,cap,rfl,h1,h2,fun e=>(h3 e).2,?_⟩
 rcases hr with h0 | ⟨b,off,ha,hc⟩
 · exact Or.inl h0
 · refine Or.inr ⟨b,off,ha,fun i hi=>?_⟩
   rw [hc i hi]
   simp [List.getD,hi]
theorem SlAt.blk {α:Type} {f:α→Value} {d:α} {W:World} {b:Nat} {t:TypeId} {A:List Value} {n:Nat} {l:List α} (h:Blk W b A t) (hn:n=l.length) (hA:∀ i,i<n→A[i]?=some (f (l.getD i d))) (cap:Nat) (hc:n≤cap) (hm:cap≤maxLen):SlAt f d W (.slice (some ⟨b,0,none⟩) n cap) l:=by
 subst hn
 refine ⟨_,cap,rfl,hc,hm,(fun h=>by cases h),Or.inr ⟨_,_,rfl,fun i hi=>?_⟩⟩
 rw [Nat.zero_add,h.cell (hA i hi)]
theorem cell_new (W:World) (cs:Array Value) (t:TypeId) (fr:Nat×Nat) (i:Nat):(W.alloc (.cells cs t fr)).cell? ⟨W.heap.size,i,none⟩=cs[i]?:=by
 have:(W.alloc (.cells cs t fr)).heap[W.heap.size]?=some (.cells cs t fr):=heap_alloc_new W _
 unfold World.cell?;rw [this];rfl
theorem SlV.built {W:World} {b n:Nat} {t:TypeId} {fr:Nat×Nat} {cs:Array Value} {V:Nat→Value} (hb:W.heap.size=b) (hcs:∀ i,i<n→cs[i]?=some (V i)) (hm:n≤maxLen):SlV (W.alloc (.cells cs t fr)) (.slice (some ⟨b,0,none⟩) n n) n V:=by
 subst hb
 refine ⟨_,n,rfl,Nat.le_refl _,hm,(fun h=>by cases h),Or.inr ⟨_,_,rfl,fun i hi=>?_⟩⟩
 rw [Nat.zero_add,cell_new,hcs i hi]
theorem SlAt.built {α:Type} {f:α→Value} {d:α} {W:World} {b n:Nat} {t:TypeId} {fr:Nat×Nat} {cs:Array Value} {l:List α} (hb:W.heap.size=b) (hn:n=l.length) (hcs:cs.toList=l.map f) (hm:n≤maxLen):SlAt f d (W.alloc (.cells cs t fr)) (.slice (some ⟨b,0,none⟩) n n) l:=by
 subst hn
 refine SlV.built hb (fun i hi=>?_) hm
 rw [←Array.getElem?_toList,hcs]
 simp [List.getD,hi]
theorem SlAt.front {α:Type} {f:α→Value} {d:α} {W:World} {a:Option Addr} {n cap:Nat} {l:List α} (h:SlAt f d W (.slice a n cap) l) (k:Nat) (hk:k≤n):SlAt f d W (.slice a k cap) (l.take k):=by
 obtain ⟨a',cap',e,h1,h2,h3,r⟩:=h
 simp only [Value.slice.injEq] at e
 obtain ⟨rfl,rfl,rfl⟩:=e
 have hl:(l.take k).length=k:=by rw [List.length_take];omega
 refine ⟨a,cap,by rw [hl],by omega,h2,h3,?_⟩
 rw [hl]
 rcases r with h0 | ⟨b,off,ha,hc⟩
 · exact Or.inl (by omega)
 · refine Or.inr ⟨b,off,ha,fun i hi=>?_⟩
   rw [hc i (by omega)]
   simp [List.getD,hi]
theorem conv_row {P:Program} {src e dst:TypeId} (hs:P.underlying src=some (.slice e)) (he:P.underlying e=some (.int .u8)) (hd:P.underlying dst=some .string) (w:World) (v:Value) (l:List Nat) (hR:BytesAt w v l):(convert src dst v).run P w=.ok (.string (strOf l)) w:=by
 obtain ⟨a,cap,rfl,_,_,_,hR⟩:=hR
 exact conv_bytes (P:=P) w src e dst hs he hd a _ cap l rfl hR
theorem SlAt.row {α:Type} {f:α→Value} {d:α} {W:World} {a:Option Addr} {n cap:Nat} {l:List α} (h:SlAt f d W (.slice a n cap) l):n=l.length∧RowAt W a n fun i=>f (l.getD i d):=by
 obtain ⟨a',cap',e,h1,h2,h3,r⟩:=h
 simp only [Value.slice.injEq] at e
 obtain ⟨rfl,rfl,rfl⟩:=e
 exact ⟨rfl,r⟩
section
variable {H:Type} {enc:TypeId×Value→H} {W:World}
def Sized (t:TypeId) (d:DataW H):Prop:=∀ n∈d.weights Tryz.prog t,n≤reachBytes
theorem weightsAll_mem {P:Program} {e:TypeId} {d:DataW H} {n:Nat} (hn:n∈d.weights P e):∀ {l:List (DataW H)},d∈l→n∈DataW.weightsAll P e l:=by
 intro l
 induction l with
 | nil=>intro h;cases h
 | cons a l ih=>
  intro h
  simp only [DataW.weightsAll,List.mem_append]
  rcases List.mem_cons.1 h with rfl | h
  · exact Or.inl hn
  · exact Or.inr (ih h)
theorem sized_arg {ts:List TypeId} {ds:List (DataW H)} (h:(DataW.weightsEach Tryz.prog ts ds).all (·≤reachBytes)=true) {j:Nat} {t:TypeId} {d:DataW H} (ht:ts[j]?=some t) (hd:ds[j]?=some d):Sized t d:=fun n hn=>by
 have:=List.all_eq_true.1 h _ (DataW.weights_mem_each ht hd n hn)
 simpa using this
theorem choose_list {α:Type} (d:α) (n:Nat) (p:Nat→α→Prop) (h:∀ i,i<n→∃ a,p i a):∃ l:List α,l.length=n∧∀ i,i<n→p i (l.getD i d):=by
 induction n with
 | zero=>exact ⟨[],rfl,fun i hi=>absurd hi (Nat.not_lt_zero i)⟩
 | succ n ih=>
  obtain ⟨l,hl,hp⟩:=ih (fun i hi=>h i (by omega))
  obtain ⟨a,ha⟩:=h n (by omega)
  refine ⟨l++[a],by simp [hl],fun i hi=>?_⟩
  rcases Nat.lt_or_ge i n with h1 | h1
  · rw [getD_left (by omega)];exact hp i h1
  · obtain rfl:i=n:=by omega
    rw [getD_right (by omega),hl];simpa using ha
theorem trod_cells {base:Nat} {t e:TypeId} {v:Value} {d:DataW H} {p:List MemPlace} (ht:Tryz.prog.underlying t=some (.slice e)) (hv:Value.okWide Tryz.prog W .any base t v) (h:DataW.Trod enc Tryz.prog W 0 (fun _=>true) true t v d p):∃ fuel,DataW.trod enc Tryz.prog W 0 (fun _=>true) true fuel t [v]=some (d,p):=by
 obtain ⟨a0,len,cap,rfl⟩:=okWide_slice ht hv
 obtain ⟨fuel,hf⟩:=h
 exact ⟨fuel,hf⟩
variable {base:Nat} {t s e:TypeId} {v:Value} {d:DataW H} {p:List MemPlace}
end
end Go.Proofs.YtjaebndajhppgaaGreatDoor
namespace Go.Proofs.YtjaebndajhppgaaGreatDoor
open Go.ChangeShapes Go.WideShapes Go.ChangeAt Go.RowKit
abbrev str (l:List UInt8):Value:=.string ⟨l.toArray⟩
theorem ba_get (l:List UInt8) (n:Nat) (c:UInt8) (h:l[n]?=some c) (p:n<(⟨l.toArray⟩:ByteArray).size):(⟨l.toArray⟩:ByteArray)[n]=c:=by
 obtain ⟨h1,h2⟩:=List.getElem?_eq_some_iff.1 h
 show l.toArray[n]=c
 simpa using h2
theorem ba_extract (l:List UInt8) (a b:Nat):(⟨l.toArray⟩:ByteArray).extract a b=⟨((l.drop a).take (b-a)).toArray⟩:=by
 apply ByteArray.ext
 rw [ByteArray.data_extract]
 apply Array.ext'
 simp [List.extract_eq_take_drop]
theorem ba_take (l:List UInt8) (n:Nat):(⟨l.toArray⟩:ByteArray).extract 0 n=⟨(l.take n).toArray⟩:=by rw [ba_extract];simp
theorem ba_drop (l:List UInt8) (n:Nat):(⟨l.toArray⟩:ByteArray).extract n l.length=⟨(l.drop n).toArray⟩:=by
 rw [ba_extract,←List.length_drop,List.take_length]
theorem str_of (s:ByteArray):Value.string s=str s.data.toList:=by simp [str]
theorem str_inj {a b:List UInt8} (h:str a=str b):a=b:=by simpa [str] using h
abbrev TextsAt (W:World) (v:Value) (L:List (List UInt8)):Prop:=SlAt str [] W v L
section
variable {H:Type} {enc:TypeId×Value→H} {W:World}
variable {base:Nat} {t s e:TypeId} {v:Value} {d:DataW H} {p:List MemPlace}
end
end Go.Proofs.YtjaebndajhppgaaGreatDoor
namespace Go.Proofs.YtjaebndajhppgaaGreatDoor.Tm
open Go
def parts (c:UInt8):List UInt8→List (List UInt8)
 | []=>[[]]
 | b::t=>if b=c then []::parts c t else (b::(parts c t).headD [])::(parts c t).tail
theorem parts_ne (c:UInt8):∀ l,parts c l≠[]
 | []=>by simp [parts]
 | b::t=>by unfold parts;split <;> simp
theorem parts_len (c:UInt8):∀ l,(parts c l).length=l.count c+1
 | []=>by simp [parts]
 | b::t=>by
  have ih:=parts_len c t
  unfold parts
  by_cases h:b=c
  · subst h;simp [ih]
  · rw [if_neg h,List.count_cons_of_ne (by simpa using h)]
    simp only [List.length_cons,List.length_tail,ih]
    omega
theorem index_cons_ne {b c:UInt8} {l:List UInt8} (h:b≠c):Lib.index (b::l) [c]=if Lib.index l [c] == -1 then -1 else Lib.index l [c]+1:=by
 have hp:([c]:List UInt8).isPrefixOf (b::l)=false:=by simp [List.isPrefixOf,Ne.symm h]
 rw [Lib.index,hp];simp
theorem index_cons_eq (c:UInt8) (l:List UInt8):Lib.index (c::l) [c]=0:=by
 rw [Lib.index];simp [List.isPrefixOf]
theorem splitK_count (c:UInt8):∀ l,Lib.splitK [c] 0 (l.count c) l=parts c l
 | []=>by simp [Lib.splitK,parts]
 | b::t=>by
  have ih:=splitK_count c t
  by_cases h:b=c
  · subst h
    rw [List.count_cons_self,Lib.splitK,index_cons_eq]
    simp [parts,ih]
  · rw [List.count_cons_of_ne (by simpa using h)]
    unfold parts
    rw [if_neg h,←ih]
    have ix:=index_cons_ne (l:=t) h
    cases hk:t.count c with
    | zero=>simp [Lib.splitK]
    | succ k=>
     rw [Lib.splitK,Lib.splitK,ix]
     by_cases hm:Lib.index t [c] = -1
     · simp [hm]
     · have hge:=Lib.index_ge t [c]
       obtain ⟨j,hj⟩:∃ j:Nat,Lib.index t [c]=j:=⟨(Lib.index t [c]).toNat,by omega⟩
       have e1:((j:Int) == -1)=false:=by simp <;> omega
       have e2:((j:Int)+1 == -1)=false:=by simp <;> omega
       have e3:((j:Int)+1).toNat=j+1:=by omega
       rw [hj]
       simp [e1,e2,e3]
theorem split_parts (c:UInt8) (l:List UInt8):Lib.split l [c]=parts c l:=by
 unfold Lib.split
 rw [Lib.count_one,splitK_count]
def small (c:UInt8):Bool:=decide (97≤c.toNat) && decide (c.toNat≤122)
def digit (c:UInt8):Bool:=decide (48≤c.toNat) && decide (c.toNat≤57)
def partOk (d:Bool) (p:List UInt8):Bool:=decide (1≤p.length) && decide (p.length≤8) && p.all (fun c=>small c || (d && digit c))
def partsOk (d:Bool):List (List UInt8)→Bool
 | []=>true
 | p::r=>partOk d p && r.all (partOk true)
def pass:Bool→Nat→List UInt8→Bool
 | d,n,[]=>decide (1≤n)
 | d,n,c::t=>if c=45∧1≤n then pass true 0 t else if small c || (digit c && d) then (if 8<n+1 then false else pass d (n+1) t) else false
def lang (s:List UInt8):Bool:=pass false 0 s && decide (s.length≤16)
theorem pass_parts:∀ (s:List UInt8) (d:Bool) (n:Nat),n≤8 →
  pass d n s=(decide (1≤n+((parts 45 s).headD []).length) && decide (n+((parts 45 s).headD []).length≤8) && ((parts 45 s).headD []).all (fun c=>small c || (d && digit c)) && (parts 45 s).tail.all (partOk true))
 | [],d,n,hn=>by
  simp [pass,parts,hn]
 | c::t,d,n,hn=>by
  have hne:=parts_ne 45 t
  by_cases h:c=45
  · subst h
    have hs:small 45=false:=by decide
    have hd:digit 45=false:=by decide
    unfold pass
    by_cases h1:1≤n
    · rw [if_pos ⟨rfl,h1⟩,pass_parts t true 0 (by omega)]
      obtain ⟨p,r,e⟩:∃ p r,parts 45 t=p::r:=by
       cases hp:parts 45 t with
       | nil=>exact absurd hp hne
       | cons p r=>exact ⟨p,r,rfl⟩
      have:parts 45 ((45:UInt8)::t)=[]::parts 45 t:=by simp [parts]
      rw [this,e]
      simp [partOk,h1,hn]
    · have hn0:n=0:=by omega
      subst hn0
      simp [parts,hs,hd]
  · have hp:parts 45 (c::t)=(c::(parts 45 t).headD [])::(parts 45 t).tail:=by simp [parts,h]
    rw [hp]
    unfold pass
    rw [if_neg (fun e=>h e.1)]
    by_cases hc:(small c || (digit c && d))=true
    · rw [if_pos hc]
      have hc':(small c || (d && digit c))=true:=by rw [Bool.and_comm d];exact hc
      by_cases h8:8<n+1
      · rw [if_pos h8]
        have hx:decide (n+((parts 45 t).headD []).length+1≤8)=false:=by simp;omega
        have hy:n+(((parts 45 t).headD []).length+1)=n+((parts 45 t).headD []).length+1:=by omega
        simp only [List.headD_cons,List.length_cons,hy,hx,Bool.and_false,Bool.false_and]
      · rw [if_neg h8,pass_parts t d (n+1) (by omega)]
        have hy:n+1+((parts 45 t).headD []).length=n+(((parts 45 t).headD []).length+1):=by omega
        simp only [List.headD_cons,List.length_cons,List.all_cons,hc',Bool.true_and,List.tail_cons,hy]
        rfl
    · rw [if_neg hc]
      have hc':(small c || (d && digit c))=false:=by rw [Bool.and_comm d];simpa using hc
      simp only [List.headD_cons,List.all_cons,hc',Bool.false_and,Bool.and_false]
theorem lang_parts (s:List UInt8):lang s=(decide (s.length≤16) && partsOk false (parts 45 s)):=by
 unfold lang
 rw [pass_parts s false 0 (by omega)]
 cases hp:parts 45 s with
 | nil=>exact absurd hp (parts_ne 45 s)
 | cons p r=>
  simp only [List.headD_cons,List.tail_cons,partsOk,partOk,Nat.zero_add]
  rw [Bool.and_comm]
open Go.RowKit
abbrev T:=List UInt8
abbrev lt (a b:T):Bool:=Op.bytesLess a b
theorem lt_nil (a:T):lt a []=false:=by cases a <;> rfl
theorem lt_nil_cons (b:UInt8) (y:T):lt [] (b::y)=true:=rfl
theorem lt_cons (a b:UInt8) (x y:T):lt (a::x) (b::y)=(decide (a<b) || (a==b && lt x y)):=rfl
theorem lt_irrefl:∀ a:T,lt a a=false
 | []=>rfl
 | a::x=>by
  rw [lt_cons,lt_irrefl x]
  simp
theorem lt_trans:∀ {a b c:T},lt a b=true→lt b c=true→lt a c=true
 | _,_,[],_,h=>by rw [lt_nil] at h;cases h
 | _,[],_::_,h,_=>by rw [lt_nil] at h;cases h
 | [],_::_,_::_,_,_=>rfl
 | a::x,b::y,c::z,h1,h2=>by
  rw [lt_cons] at *
  simp only [Bool.or_eq_true,decide_eq_true_eq,Bool.and_eq_true,beq_iff_eq] at *
  rcases h1 with h1 | ⟨rfl,h1⟩
  · rcases h2 with h2 | ⟨rfl,h2⟩
    · exact .inl (UInt8.lt_trans h1 h2)
    · exact .inl h1
  · rcases h2 with h2 | ⟨rfl,h2⟩
    · exact .inl h2
    · exact .inr ⟨rfl,lt_trans h1 h2⟩
theorem lt_tri:∀ {a b:T},lt a b=false→lt b a=false→a=b
 | [],[],_,_=>rfl
 | [],_::_,h,_=>by cases h
 | _::_,[],_,h=>by cases h
 | a::x,b::y,h1,h2=>by
  rw [lt_cons] at *
  simp only [Bool.or_eq_false_iff,decide_eq_false_iff_not,Bool.and_eq_false_iff,beq_eq_false_iff_ne,ne_eq] at *
  obtain ⟨h1,h3⟩:=h1
  obtain ⟨h2,h4⟩:=h2
  have e:a=b:=UInt8.le_antisymm (UInt8.not_lt.1 h2) (UInt8.not_lt.1 h1)
  subst e
  simp only [not_true_eq_false,false_or] at h3 h4
  rw [lt_tri h3 h4]
theorem lt_asymm {a b:T} (h:lt a b=true):lt b a=false:=by
 cases h2:lt b a with
 | false=>rfl
 | true=>have:=lt_trans h h2;rw [lt_irrefl] at this;cases this
theorem lt_of_not' {a b c:T} (h1:lt a b=true) (h2:lt c b=false):lt a c=true:=by
 cases h:lt b c with
 | true=>exact lt_trans h1 h
 | false=>rw [←lt_tri h h2];exact h1
def cmp (a b:T):Int:=if lt a b then -1 else if lt b a then 1 else 0
theorem cmp_lib:∀ a b:T,Lib.compareBytes a b=cmp a b
 | [],[]=>by simp [Lib.compareBytes,cmp,lt_nil]
 | [],_::_=>by simp [Lib.compareBytes,cmp,lt_nil_cons]
 | _::_,[]=>by simp [Lib.compareBytes,cmp,lt_nil,lt_nil_cons]
 | a::x,b::y=>by
  unfold Lib.compareBytes
  rw [cmp_lib x y]
  unfold cmp
  rw [lt_cons,lt_cons]
  by_cases h1:a<b
  · simp [h1]
  · by_cases h2:b<a
    · have:¬ a=b:=fun e=>by subst e;exact h1 h2
      simp [h1,h2,this]
    · have:a=b:=UInt8.le_antisymm (UInt8.not_lt.1 h2) (UInt8.not_lt.1 h1)
      subst this
      simp [h1]
theorem cmp_zero {a b:T}:cmp a b=0↔a=b:=by
 constructor
 · intro h
   unfold cmp at h
   cases h1:lt a b with
   | true=>simp [h1] at h
   | false=>
    cases h2:lt b a with
    | true=>simp [h1,h2] at h
    | false=>exact lt_tri h1 h2
 · rintro rfl
   simp [cmp,lt_irrefl]
theorem cmp_neg (a b:T):cmp b a = - cmp a b:=by
 unfold cmp
 cases h1:lt a b with
 | true=>simp [lt_asymm h1]
 | false=>cases h2:lt b a <;> simp
theorem cmp_bound (a b:T):-1≤cmp a b∧cmp a b≤1:=by
 unfold cmp
 split
 · omega
 · split <;> omega
theorem cmp_le {a b:T}:cmp a b≤0↔lt b a=false:=by
 unfold cmp
 cases h1:lt a b with
 | true=>simp [lt_asymm h1]
 | false=>cases h2:lt b a <;> simp
theorem cmp_trans {a b c:T} (h1:cmp a b≤0) (h2:cmp b c≤0):cmp a c≤0:=by
 rw [cmp_le] at *
 cases h:lt c a with
 | false=>rfl
 | true=>
  have:=lt_of_not' h h1
  rw [h2] at this
  cases this
theorem cmp_less {a b:T}:cmp a b = -1↔lt a b=true:=by
 unfold cmp
 cases h1:lt a b with
 | true=>simp
 | false=>cases h2:lt b a <;> simp
def hexd (n:Nat):UInt8:=if n<10 then (48+n).toUInt8 else (55+n).toUInt8
def esc (c:UInt8):List UInt8:=
 if c=34∨c=92 then [92,c] else if c=10 then [92,110] else if c=13 then [92,114] else if c=9 then [92,116] else if c=8 then [92,98] else if c=12 then [92,102]
 else if c.toNat<32∨c=127 then [92,117,48,48,hexd (c.toNat / 16),hexd (c.toNat % 16)] else [c]
def escs (s:T):T:=s.flatMap esc
theorem escs_cons (c:UInt8) (s:T):escs (c::s)=esc c++escs s:=rfl
theorem escs_append (s t:T):escs (s++t)=escs s++escs t:=by simp [escs]
theorem esc_len (c:UInt8):1≤(esc c).length∧(esc c).length≤6:=by
 unfold esc
 repeat' split
 all_goals simp
theorem escs_len:∀ s:T,s.length≤(escs s).length∧(escs s).length≤6*s.length
 | []=>by simp [escs]
 | c::s=>by
  have:=escs_len s
  have:=esc_len c
  rw [escs_cons,List.length_append,List.length_cons]
  omega
theorem esc_plain (c:UInt8) (h1:32≤c.toNat) (h2:c≠127) (h3:c≠34) (h4:c≠92):esc c=[c]:=by
 unfold esc
 have e1:c≠10:=fun e=>by subst e;revert h1;decide
 have e2:c≠13:=fun e=>by subst e;revert h1;decide
 have e3:c≠9:=fun e=>by subst e;revert h1;decide
 have e4:c≠8:=fun e=>by subst e;revert h1;decide
 have e5:c≠12:=fun e=>by subst e;revert h1;decide
 have e6:¬ c.toNat<32:=by omega
 simp [h2,h3,h4,e1,e2,e3,e4,e5,e6]
def showT (k:Nat) (t x:T):T:=
 if k=1 then 60::(t++[62]) else if k=2 then 95::58::t else if k=3 then 34::(escs t++[34])
 else if k=4 then 34::(escs t++34::64::x) else if k=5 then 34::(escs t++34::94::94::60::(x++[62])) else []
def hexc (c:UInt8):Option Nat:=
 if 48≤c.toNat∧c.toNat≤57 then some (c.toNat-48) else if 97≤c.toNat∧c.toNat≤102 then some (c.toNat-87) else if 65≤c.toNat∧c.toNat≤70 then some (c.toNat-55) else none
def hexL:Nat→T→Nat→Option Nat
 | 0,_,x=>some x
 | _+1,[],_=>none
 | n+1,c::t,x=>match hexc c with
  | none=>none
  | some d=>hexL n t (x*16+d)
def hexR (n:Nat) (s:T):Option Nat:=match hexL n s 0 with
 | none=>none
 | some x=>if 1114111<x∨(55296≤x∧x≤57343) then none else some x
def runeT (x:Nat):T:=(Utf8.encode (x:Int)).data.toList
def letter (c:UInt8):Option UInt8:=
 if c=34 then some 34 else if c=92 then some 92 else if c=110 then some 10 else if c=114 then some 13 else if c=116 then some 9 else if c=98 then some 8 else if c=102 then some 12 else if c=39 then some 39 else none
def esc1 (lit:Bool):T→Option (T×Nat)
 | []=>none
 | c::t=>if c=117 then (hexR 4 t).map (fun x=>(runeT x,5)) else if c=85 then (hexR 8 t).map (fun x=>(runeT x,9)) else if lit then (letter c).map (fun d=>([d],1)) else none
def up:Nat→UInt8→Bool→T→Option (T×T)
 | 0,_,_,_=>none
 | _+1,_,_,[]=>none
 | f+1,e,lit,c::t=>if c=e then some ([],t) else if c=92 then (match esc1 lit t with
    | none=>none
    | some (x,n)=>(up f e lit (t.drop n)).map (fun r=>(x++r.1,r.2)))
  else if c=10∨c=13 then none else (up f e lit t).map (fun r=>(c::r.1,r.2))
theorem up_plain (e:UInt8) (lit:Bool):∀ (s rest:T) (f:Nat),s.length+1≤f→(∀ c∈s,c≠e∧c≠92∧c≠10∧c≠13)→up f e lit (s++e::rest)=some (s,rest)
 | [],rest,f,hf,_=>by
  obtain ⟨g,rfl⟩:∃ g,f=g+1:=⟨f-1,by simp at hf;omega⟩
  simp [up]
 | c::s,rest,f,hf,h=>by
  obtain ⟨g,rfl⟩:∃ g,f=g+1:=⟨f-1,by simp at hf;omega⟩
  have hc:=h c (by simp)
  rw [List.cons_append,up,up_plain e lit s rest g (by simp at hf;omega) (fun d hd=>h d (by simp [hd]))]
  simp [hc]
set_option maxRecDepth 100000 in
theorem hexd_back:∀ n:Fin 16,hexc (hexd n.val)=some n.val:=by decide
set_option maxRecDepth 100000 in
theorem runeT_fin:∀ x:Fin 128,runeT x.val=[x.val.toUInt8]:=by decide
theorem runeT_low {x:Nat} (h:x<128):runeT x=[x.toUInt8]:=runeT_fin ⟨x,h⟩
theorem hexR_low {c:UInt8} (h:c.toNat<128) (rest:T):hexR 4 (48::48::hexd (c.toNat / 16)::hexd (c.toNat % 16)::rest)=some c.toNat:=by
 have e0:hexc 48=some 0:=by decide
 have e1:=hexd_back ⟨c.toNat / 16,by omega⟩
 have e2:=hexd_back ⟨c.toNat % 16,by omega⟩
 simp only at e1 e2
 simp only [hexR,hexL,e0,e1,e2]
 rw [if_neg (by omega)]
 congr 1
 omega
theorem up_esc (c:UInt8) (s:T) (f:Nat):up (f+1) 34 true (esc c++s)=(up f 34 true s).map (fun r=>(c::r.1,r.2)):=by
 unfold esc
 split
 · rename_i h
   rcases h with rfl | rfl <;> simp [up,esc1,letter]
 split
 · rename_i h;subst h;simp [up,esc1,letter]
 split
 · rename_i h;subst h;simp [up,esc1,letter]
 split
 · rename_i h;subst h;simp [up,esc1,letter]
 split
 · rename_i h;subst h;simp [up,esc1,letter]
 split
 · rename_i h;subst h;simp [up,esc1,letter]
 split
 · rename_i h
   have hl:c.toNat<128:=by
    rcases h with h | rfl
    · omega
    · decide
   have e1:=hexR_low hl s
   have e2:=runeT_low hl
   have e3:c.toNat.toUInt8=c:=by simp
   simp [up,esc1,e1,e2,e3]
 · rename_i h1 h2 h3 h4 h5 h6 h7
   have a1:c≠34:=fun e=>h1 (.inl e)
   have a2:c≠92:=fun e=>h1 (.inr e)
   simp [up,a1,a2,h2,h3]
theorem up_escs:∀ (s rest:T) (f:Nat),s.length+1≤f→up f 34 true (escs s++34::rest)=some (s,rest)
 | [],rest,f,hf=>by
  obtain ⟨g,rfl⟩:∃ g,f=g+1:=⟨f-1,by simp at hf;omega⟩
  simp [up,escs]
 | c::s,rest,f,hf=>by
  obtain ⟨g,rfl⟩:∃ g,f=g+1:=⟨f-1,by simp at hf;omega⟩
  rw [escs_cons,List.append_assoc,up_esc,up_escs s rest g (by simp at hf;omega)]
  rfl
def alnum (c:UInt8):Bool:=small c || (decide (65≤c.toNat) && decide (c.toNat≤90)) || digit c
def lower (c:UInt8):UInt8:=if 65≤c.toNat∧c.toNat≤90 then (c.toNat+32).toUInt8 else c
def alnumD (c:UInt8):Bool:=alnum c || c==45
def rterm (s:T):Option (Nat×T×T×T):=
 match s with
 | []=>none
 | c::r=>
  if c=60 then (up (r.length+1) 62 false r).map (fun q=>(1,q.1,[],q.2))
  else if c=95 then (if r.headD 0=58 then some (2,r.tail.takeWhile alnum,[],r.tail.dropWhile alnum) else none)
  else if c=34 then (match up (r.length+1) 34 true r with
   | none=>none
   | some (t,v)=>if v.headD 0=64 then some (4,t,(v.tail.takeWhile alnumD).map lower,v.tail.dropWhile alnumD)
    else if v.take 3=[94,94,60] then (up (v.length+1) 62 false (v.drop 3)).map (fun q=>(5,t,q.1,q.2))
    else some (3,t,[],v))
  else none
theorem takeWhile_all {p:UInt8→Bool}:∀ {l:T},(∀ c∈l,p c=true)→l.takeWhile p=l∧l.dropWhile p=[]
 | [],_=>⟨rfl,rfl⟩
 | c::l,h=>by
  have hc:=h c (by simp)
  have ih:=takeWhile_all (l:=l) (fun d hd=>h d (by simp [hd]))
  simp [List.takeWhile,List.dropWhile,hc,ih.1,ih.2]
theorem pass_bytes:∀ (s:T) (d:Bool) (n:Nat),pass d n s=true→∀ c∈s,(small c || digit c || c==45)=true
 | [],_,_,_,_,hc=>by simp at hc
 | b::t,d,n,h,c,hc=>by
  unfold pass at h
  by_cases h1:b=45∧1≤n
  · rw [if_pos h1] at h
    rcases List.mem_cons.1 hc with rfl | hc
    · simp [h1.1]
    · exact pass_bytes t true 0 h c hc
  · rw [if_neg h1] at h
    by_cases h2:(small b || (digit b && d))=true
    · rw [if_pos h2] at h
      by_cases h3:8<n+1
      · simp [h3] at h
      · rw [if_neg h3] at h
        rcases List.mem_cons.1 hc with rfl | hc
        · cases hs:small c
          · simp [hs] at h2
            simp [h2.1]
          · simp
        · exact pass_bytes t d (n+1) h c hc
    · rw [if_neg h2] at h;cases h
theorem lower_small {c:UInt8} (h:(small c || digit c || c==45)=true):lower c=c:=by
 unfold lower
 rw [if_neg]
 intro e
 simp only [small,digit,Bool.or_eq_true,Bool.and_eq_true,decide_eq_true_eq,beq_iff_eq] at h
 rcases h with (h | h) | h
 · omega
 · omega
 · subst h;revert e;decide
theorem alnumD_small {c:UInt8} (h:(small c || digit c || c==45)=true):alnumD c=true:=by
 unfold alnumD alnum
 revert h
 cases small c <;> cases digit c <;> cases (c==45) <;> simp
theorem map_lower {s:T} (h:∀ c∈s,(small c || digit c || c==45)=true):s.map lower=s:=by
 induction s with
 | nil=>rfl
 | cons c s ih=>rw [List.map_cons,ih (fun d hd=>h d (by simp [hd])),lower_small (h c (by simp))]
def noSign (t:T):Prop:=∀ c∈t,c≠62∧c≠92∧c≠10∧c≠13
theorem rterm_iri {t:T} (h:noSign t):rterm (showT 1 t [])=some (1,t,[],[]):=by
 have:=up_plain 62 false t [] (t.length+1+1) (by omega) h
 simp [rterm,showT,this]
theorem rterm_blank {t:T} (h:∀ c∈t,alnum c=true):rterm (showT 2 t [])=some (2,t,[],[]):=by
 have:=takeWhile_all h
 simp [rterm,showT,this.1,this.2]
theorem rterm_plain (t:T):rterm (showT 3 t [])=some (3,t,[],[]):=by
 have hl:=escs_len t
 have:=up_escs t [] ((escs t).length+1+1) (by omega)
 simp [rterm,showT,this]
theorem rterm_lang {t x:T} (h:lang x=true):rterm (showT 4 t x)=some (4,t,x,[]):=by
 have hb:=pass_bytes x false 0 (by unfold lang at h;simp at h;exact h.1)
 have hl:=escs_len t
 have h1:=up_escs t (64::x) ((escs t++34::64::x).length+1) (by simp;omega)
 have h2:=takeWhile_all (p:=alnumD) (l:=x) (fun c hc=>alnumD_small (hb c hc))
 have h3:=map_lower hb
 have h4:=h2.1
 have h5:=h2.2
 clear hb h2
 simp at h1
 simp [rterm,showT,h1,h4,h5,h3]
theorem rterm_typed {t x:T} (h:noSign x):rterm (showT 5 t x)=some (5,t,x,[]):=by
 have hl:=escs_len t
 have h1:=up_escs t (94::94::60::(x++[62])) ((escs t++34::94::94::60::(x++[62])).length+1) (by simp <;> omega)
 have h2:=up_plain 62 false x [] ((94::94::60::(x++[62])).length+1) (by simp <;> omega) h
 simp at h1 h2
 simp [rterm,showT,h1,h2]
def irune (r:Nat):Bool:=decide (160≤r) || (decide (33≤r) && decide (r≤126) && !([34,60,62,92,94,96,123,124,125].contains r))
def runesAll (p:Nat→Bool):Nat→List UInt8→Bool
 | 0,_=>true
 | _+1,[]=>true
 | n+1,b::t=>p (Lib.decodeL (b::t)).1 && runesAll p n ((b::t).drop (Lib.decodeL (b::t)).2)
theorem runesAll_nil (p:Nat→Bool):∀ n,runesAll p n []=true
 | 0=>rfl
 | _+1=>rfl
theorem runesAll_step (p:Nat→Bool) (n:Nat) (l:List UInt8) (h:l≠[]):runesAll p (n+1) l=(p (Lib.decodeL l).1 && runesAll p n (l.drop (Lib.decodeL l).2)):=by
 cases l with
 | nil=>exact absurd rfl h
 | cons b t=>rfl
theorem runesAll_fuel (p:Nat→Bool):∀ (n m:Nat) (l:List UInt8),l.length≤n→l.length≤m→runesAll p n l=runesAll p m l
 | 0,m,l,hn,_=>by
  have:l=[]:=List.eq_nil_of_length_eq_zero (by omega)
  subst this
  rw [runesAll_nil,runesAll_nil]
 | n+1,0,l,_,hm=>by
  have:l=[]:=List.eq_nil_of_length_eq_zero (by omega)
  subst this
  rw [runesAll_nil,runesAll_nil]
 | n+1,m+1,l,hn,hm=>by
  by_cases hne:l=[]
  · subst hne;rfl
  · have hw:=Lib.decodeL_width l
    have hl:0<l.length:=List.length_pos_iff.2 hne
    rw [runesAll_step p n l hne,runesAll_step p m l hne,runesAll_fuel p n m _ (by rw [List.length_drop];omega) (by rw [List.length_drop];omega)]
theorem decodeN_tail (n b0 b1 b2 b3:Nat):(2≤(Lib.decodeN n b0 b1 b2 b3).2→b1 / 64=2)∧(3≤(Lib.decodeN n b0 b1 b2 b3).2→b2 / 64=2)∧(4≤(Lib.decodeN n b0 b1 b2 b3).2→b3 / 64=2)∧(Lib.decodeN n b0 b1 b2 b3).2≤4:=by
 unfold Lib.decodeN
 repeat' split
 all_goals simp_all
theorem runes_low (p:Nat→Bool):∀ (n:Nat) (l:List UInt8),l.length≤n→runesAll p n l=true→∀ c∈l,c.toNat<128→p c.toNat=true
 | 0,l,hn,_,c,hc,_=>by
  have:l=[]:=List.eq_nil_of_length_eq_zero (by omega)
  subst this
  simp at hc
 | n+1,[],_,_,c,hc,_=>by simp at hc
 | n+1,b::t,hn,h,c,hc,hl=>by
  have hw:=Lib.decodeL_width (b::t)
  rw [runesAll_step p n _ (by simp),Bool.and_eq_true] at h
  by_cases hb:b.toNat<128
  · have hd:=Lib.decodeL_ascii b t hb
    rw [hd] at h
    rcases List.mem_cons.1 hc with rfl | hc
    · exact h.1
    · exact runes_low p n t (by simp at hn;omega) (by simpa using h.2) c hc hl
  · have hs:=List.take_append_drop (Lib.decodeL (b::t)).2 (b::t)
    rw [←hs] at hc
    rcases List.mem_append.1 hc with hc | hc
    · exfalso
      obtain ⟨k,hk,e⟩:=List.mem_iff_getElem.1 hc
      have hkw:k<(Lib.decodeL (b::t)).2:=by rw [List.length_take] at hk;omega
      have hkl:k<(b::t).length:=by rw [List.length_take] at hk;omega
      have e2:(b::t).getD k 0=c:=by
       rw [←e,List.getElem_take]
       rw [List.getD,List.getElem?_eq_getElem hkl]
       rfl
      have ht:=decodeN_tail (b::t).length ((b::t).getD 0 0).toNat ((b::t).getD 1 0).toNat ((b::t).getD 2 0).toNat ((b::t).getD 3 0).toNat
      rw [←Lib.decodeL_N] at ht
      obtain ⟨t1,t2,t3,t4⟩:=ht
      have:k=0∨k=1∨k=2∨k=3:=by omega
      rcases this with rfl | rfl | rfl | rfl
      · simp at e2;subst e2;exact hb hl
      · have:=t1 (by omega);rw [e2] at this;omega
      · have:=t2 (by omega);rw [e2] at this;omega
      · have:=t3 (by omega);rw [e2] at this;omega
    · exact runes_low p n _ (by rw [List.length_drop];simp at hn hw ⊢;omega) h.2 c hc hl
def isIRI (s:List UInt8):Bool:=decide (1≤s.length) && decide (s.length≤60) && Lib.validD s && runesAll irune s.length s
theorem isIRI_sign {s:List UInt8} (h:isIRI s=true):∀ c∈s,c≠62∧c≠92∧c≠10∧c≠13:=by
 intro c hc
 unfold isIRI at h
 simp only [Bool.and_eq_true] at h
 have hp:=runes_low irune s.length s (Nat.le_refl _) h.2 c hc
 refine ⟨?_,?_,?_,?_⟩ <;> (rintro rfl;exact absurd (hp (by decide)) (by decide))
end Go.Proofs.YtjaebndajhppgaaGreatDoor.Tm
namespace Go.Proofs.YtjaebndajhppgaaGreatDoor
open Go.ChangeShapes Go.WideShapes Go.ChangeAt Go.RowKit
theorem tsmall_any (c:UInt8) (w:World) :
  Calls Tryz.prog 240 #[.int .u8 (c.toNat:Nat)] w fun e w'=>e=.returned (.bool (Tm.small c))∧w'=w:=by
 unfold Tm.small
 go_enter Tryz.func240,Tryz.ntmps240
 by_cases h1:97≤c.toNat
 · by_cases h2:c.toNat≤122
   · go_wp2
     go_ret
     exact ⟨by simp [h1,h2] <;> omega,rfl⟩
   · have h3:122<c.toNat:=by omega
     go_wp2
     go_ret
     exact ⟨by simp [h1,h2] <;> omega,rfl⟩
 · have h3:c.toNat<97:=by omega
   go_wp2
   go_ret
   exact ⟨by simp [h1],rfl⟩
theorem tdigit_any (c:UInt8) (w:World) :
  Calls Tryz.prog 241 #[.int .u8 (c.toNat:Nat)] w fun e w'=>e=.returned (.bool (Tm.digit c))∧w'=w:=by
 unfold Tm.digit
 go_enter Tryz.func241,Tryz.ntmps241
 by_cases h1:48≤c.toNat
 · by_cases h2:c.toNat≤57
   · go_wp2
     go_ret
     exact ⟨by simp [h1,h2] <;> omega,rfl⟩
   · have h3:57<c.toNat:=by omega
     go_wp2
     go_ret
     exact ⟨by simp [h1,h2] <;> omega,rfl⟩
 · have h3:c.toNat<48:=by omega
   go_wp2
   go_ret
   exact ⟨by simp [h1],rfl⟩
theorem all_step {p:List UInt8} {f:UInt8→Bool} {n:Nat} {c:UInt8} (h:(p.take n).all f=true) (hc:p[n]?=some c) (hf:f c=true):(p.take (n+1)).all f=true:=by
 rw [List.take_add_one,hc,List.all_append,h]
 simp [hf]
theorem all_stop {p:List UInt8} {f:UInt8→Bool} {n:Nat} {c:UInt8} (hc:p[n]?=some c) (hf:f c=false):p.all f=false:=by
 rw [List.all_eq_false]
 exact ⟨c,List.mem_of_getElem? hc,by simp [hf]⟩
theorem tpart_any (p:List UInt8) (d:Bool) (w:World) (hl:p.length≤9223372036854775807) :
  Calls Tryz.prog 243 #[str p,.bool d] w fun e w'=>e=.returned (.bool (Tm.partOk d p))∧w'=w:=by
 unfold Tm.partOk
 go_enter Tryz.func243,Tryz.ntmps243
 by_cases h0:p=[]
 · subst h0
   go_wp2
   go_ret
   exact ⟨rfl,rfl⟩
 have h1:1≤p.length:=by have:=List.length_pos_iff.2 h0;omega
 have he:p.isEmpty=false:=by simpa using h0
 by_cases h8:8<p.length
 · go_wp2
   go_ret
   exact ⟨by simp;omega,rfl⟩
 go_wp2
 go_loop [15] (fun s=>∃ n:Nat,n≤p.length∧(p.take n).all (fun c=>Tm.small c || (d && Tm.digit c))=true∧s=.int .i64 n) (fun s=>p.length-(intOf s).toNat)
 case atStart=>exact ⟨0,by omega,by simp,rfl⟩
 case round=>
  obtain ⟨n,hn,ha,rfl⟩:=hrel
  by_cases hnl:n<p.length
  · obtain ⟨c,hc⟩:∃ c,p[n]?=some c:=⟨_,List.getElem?_eq_getElem hnl⟩
    have hcc:=fun q=>ba_get p n c hc q
    have HS:=hid (fun hf=>all_step (f:=fun c=>Tm.small c || (d && Tm.digit c)) ha hc hf)
    have HN:=hid (fun hf=>all_stop (f:=fun c=>Tm.small c || (d && Tm.digit c)) hc hf)
    clear hc ha
    cases hs:Tm.small c <;> cases d <;> cases hd:Tm.digit c
    all_goals
     go_wp2_with (first
      | (go_at_call 240;refine (tsmall_any _ _).mono ?_;rintro e w' ⟨rfl,hw⟩;rw [hw,hs])
      | (go_at_call 241;refine (tdigit_any _ _).mono ?_;rintro e w' ⟨rfl,hw⟩;rw [hw,hd]))
    all_goals first
     | (go_round
        case rel=>exact ⟨n+1,by omega,HS.out (by simp [hs,hd]),by go_num⟩
        case measure=>simp [intOf];omega)
     | (go_ret
        exact ⟨by rw [HN.out (by simp [hs,hd])];simp,rfl⟩)
  · have hnn:n=p.length:=by omega
    have HA:=hid (show p.all (fun c=>Tm.small c || (d && Tm.digit c))=true by rw [hnn,List.take_length] at ha;exact ha)
    clear ha
    go_wp2
    go_ret
    exact ⟨by rw [HA.out];simp;omega,rfl⟩
def Tm.label (p:List UInt8):Bool:=decide (1≤p.length) && decide (p.length≤8) && p.all Tm.alnum
theorem tlabel_any (p:List UInt8) (w:World) (hl:p.length≤9223372036854775807) :
  Calls Tryz.prog 212 #[str p] w fun e w'=>e=.returned (.bool (Tm.label p))∧w'=w:=by
 unfold Tm.label
 go_enter Tryz.func212,Tryz.ntmps212
 by_cases h0:p=[]
 · subst h0
   go_wp2
   go_ret
   exact ⟨rfl,rfl⟩
 have h1:1≤p.length:=by have:=List.length_pos_iff.2 h0;omega
 have he:p.isEmpty=false:=by simpa using h0
 by_cases h8:8<p.length
 · go_wp2
   go_ret
   exact ⟨by simp;omega,rfl⟩
 go_wp2
 go_loop [14] (fun s=>∃ n:Nat,n≤p.length∧(p.take n).all Tm.alnum=true∧s=.int .i64 n) (fun s=>p.length-(intOf s).toNat)
 case atStart=>exact ⟨0,by omega,by simp,rfl⟩
 case round=>
  obtain ⟨n,hn,ha,rfl⟩:=hrel
  by_cases hnl:n<p.length
  · obtain ⟨c,hc⟩:∃ c,p[n]?=some c:=⟨_,List.getElem?_eq_getElem hnl⟩
    have hcc:=fun q=>ba_get p n c hc q
    have HS:=hid (fun hf=>all_step (f:=Tm.alnum) ha hc hf)
    have HN:=hid (fun hf=>all_stop (f:=Tm.alnum) hc hf)
    clear hc ha
    have hA:Tm.alnum c=(Tm.small c || (decide (65≤c.toNat) && decide (c.toNat≤90)) || Tm.digit c):=rfl
    have H:=hid hA
    clear hA
    cases hs:Tm.small c <;> cases hd:Tm.digit c <;> rcases (show c.toNat<65∨(65≤c.toNat∧c.toNat≤90)∨90<c.toNat by omega) with hx | ⟨hx,hy⟩ | hx
    all_goals
     go_wp2_with (first
      | (go_at_call 240;refine (tsmall_any _ _).mono ?_;rintro e w' ⟨rfl,hw⟩;rw [hw,hs])
      | (go_at_call 241;refine (tdigit_any _ _).mono ?_;rintro e w' ⟨rfl,hw⟩;rw [hw,hd]))
    all_goals first
     | (go_round
        case rel=>exact ⟨n+1,by omega,HS.out (by rw [H.out,hs,hd];simp <;> omega),by go_num⟩
        case measure=>simp [intOf];omega)
     | (go_ret
        exact ⟨by rw [HN.out (by rw [H.out,hs,hd];simp <;> omega)];simp,rfl⟩)
  · have hnn:n=p.length:=by omega
    have HA:=hid (show p.all Tm.alnum=true by rw [hnn,List.take_length] at ha;exact ha)
    clear ha
    go_wp2
    go_ret
    exact ⟨by rw [HA.out];simp;omega,rfl⟩
theorem ralnum_any (c:UInt8) (w:World) :
  Calls Tryz.prog 191 #[.int .u8 (c.toNat:Nat)] w fun e w'=>e=.returned (.bool (Tm.alnum c))∧w'=w:=by
 unfold Tm.alnum Tm.small Tm.digit
 go_enter Tryz.func191,Tryz.ntmps191
 rcases (show c.toNat<48∨(48≤c.toNat∧c.toNat≤57)∨(57<c.toNat∧c.toNat<65)∨(65≤c.toNat∧c.toNat≤90)∨(90<c.toNat∧c.toNat<97)∨(97≤c.toNat∧c.toNat≤122)∨122<c.toNat by omega) with h | ⟨h,h'⟩ | ⟨h,h'⟩ | ⟨h,h'⟩ | ⟨h,h'⟩ | ⟨h,h'⟩ | h
 all_goals
  go_wp2
  go_ret
  refine ⟨ret_bool ?_,rfl⟩
  rw [Bool.eq_iff_iff]
  all_goals (simp <;> omega)
theorem rlabel_any (p:List UInt8) (w:World) (hl:p.length≤9223372036854775807) :
  Calls Tryz.prog 149 #[str p] w fun e w'=>e=.returned (.bool (Tm.label p))∧w'=w:=by
 unfold Tm.label
 go_enter Tryz.func149,Tryz.ntmps149
 go_wp2
 go_loop [3] (fun s=>∃ n:Nat,n≤p.length∧(p.take n).all Tm.alnum=true∧s=.int .i64 n) (fun s=>p.length-(intOf s).toNat)
 case atStart=>exact ⟨0,by omega,by simp,rfl⟩
 case round=>
  obtain ⟨n,hn,ha,rfl⟩:=hrel
  by_cases hnl:n<p.length
  · obtain ⟨c,hc⟩:∃ c,p[n]?=some c:=⟨_,List.getElem?_eq_getElem hnl⟩
    have hcc:=fun q=>ba_get p n c hc q
    have HS:=hid (fun hf=>all_step (f:=Tm.alnum) ha hc hf)
    have HN:=hid (fun hf=>all_stop (f:=Tm.alnum) hc hf)
    clear hc ha
    cases hs:Tm.alnum c
    all_goals
     go_wp2_with (go_at_call 191;refine (ralnum_any _ _).mono ?_;rintro e w' ⟨rfl,hw⟩;rw [hw,hs])
    all_goals first
     | (go_round
        case rel=>exact ⟨n+1,by omega,HS.out hs,by go_num⟩
        case measure=>simp [intOf];omega)
     | (go_ret
        exact ⟨by rw [HN.out hs];simp,rfl⟩)
  · have hnn:n=p.length:=by omega
    have HA:=hid (show p.all Tm.alnum=true by rw [hnn,List.take_length] at ha;exact ha)
    clear ha
    by_cases h1:1≤p.length
    all_goals
     go_wp2
     go_ret
     first
      | exact ⟨rfl,rfl⟩
      | exact ⟨by rw [HA.out];refine ret_bool ?_;rw [Bool.eq_iff_iff];simp <;> omega,rfl⟩
end Go.Proofs.YtjaebndajhppgaaGreatDoor
