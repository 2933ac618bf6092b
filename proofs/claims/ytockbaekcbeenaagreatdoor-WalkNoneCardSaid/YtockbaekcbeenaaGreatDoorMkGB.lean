/-GB-/
import Derived.Test.YtockbaekcbeenaaGreatDoorMkHd1
import Derived.Test.YtockbaekcbeenaaGreatDoorChecked
import GoSem.PinnedTables
import GoSem.Claim
import GoSem.ClaimJoined
import GoSem.ClaimMapViews
import Derived.JoinedTies
import Derived.KernelRfl
import Derived.WalkKit
import Derived.ProofKit
import Derived.OpenShut
import Derived.Deep.QuietTactic
import Derived.BigQuiet
import Derived.Deep.Slices
import Derived.Deep.DeepHandedRow
import Derived.Lib.LaidTab
import Derived.StillTailTactics
import Derived.Laws.AppendOwnNone
import Derived.SizedLaws
set_option linter.unusedVariables false
set_option maxRecDepth 100000
set_option linter.unusedSimpArgs false
namespace Go.Proofs.YtockbaekcbeenaaGreatDoor
open Go.Proofs.Tryz
open Go.ChangeShapes Go.WideShapes Go.ChangeAt Go.RowKit
theorem tC {k:IntKind} {a b:Int} (h:a=b):Ending.returned (.int k a)=.returned (.int k b):=by rw [h]
theorem iN {a b:Bool} (h:a=b):Ending.returned (.bool a)=.returned (.bool b):=by rw [h]
theorem aj {p:Prop} (h:p):Hid p:=h
structure Later (B:Nat) (w:World) where
 it:World
 low:Below B w it
instance {B:Nat} {w:World}:Nonempty (Later B w):=⟨⟨w,Below.refl B w⟩⟩
theorem dP {P:Program} {id:Nat} {Q:Exit→Act→World→Prop} {a:Act} {w:World} {l:List Oper} (B:Nat) (hm:P.follows .mixedOrders=true) (hB:Region.lexB .any l.toArray=true)
  (h:wpQuiet P l.toArray (fun w'=>∃ p:Later B w,w'=p.it) (fun a'=>∀ w',(∃ p:Later B w,w'=p.it)→Q .normal a' w') l a):(Code.region id l.toArray true).wp P Q a w:=
 wp_region_quiet (C:=fun w'=>∃ p:Later B w,w'=p.it) hm hB ⟨⟨_,(Below.refl B w).drew⟩,rfl⟩ (by simpa using h)
theorem Later.call {P:Program} {f:FuncId} {args:Array Value} {B:Nat} {w:World} {p:Later B w} {v:Value} (hB:B≤w.heap.size)
  (h:Calls P f args p.it fun e w'=>e=.returned v∧Below p.it.heap.size p.it w'):Calls P f args p.it fun e w''=>e=.returned v∧∃ q:Later B w,w''=q.it:=
 h.mono fun _ _ ⟨he,hb⟩=>⟨he,⟨_,p.low.trans (hb.mono (Nat.le_trans hB p.low.size))⟩,rfl⟩
theorem Later.lF {P:Program} {f:FuncId} {args:Array Value} {B:Nat} {w:World} {p:Later B w} {v:Value}
  (h:Calls P f args p.it fun e w'=>e=.returned v∧w'=p.it):Calls P f args p.it fun e w''=>e=.returned v∧∃ q:Later B w,w''=q.it:=
 h.mono fun _ _ ⟨he,hb⟩=>⟨he,p,hb⟩
theorem bV {B:Nat} {a w:World} (h:Below B a w) (n:Nat):Below B a (w.drewN n):=⟨h.os,h.tape,h.output,h.size,h.block⟩
theorem Later.cell {B:Nat} {w:World} (p:Later B w) (b o:Nat) (h:b<B):p.it.cell? ⟨b,o,none⟩=w.cell? ⟨b,o,none⟩:=p.low.cell (p:=⟨b,o,none⟩) h
theorem VJ {B:Nat} {w w':World} (h:Below B w w') (b o:Nat) (hb:b<B):w'.cell? ⟨b,o,none⟩=w.cell? ⟨b,o,none⟩:=h.cell (p:=⟨b,o,none⟩) hb
theorem lt_of_cell {w:World} {b o:Nat} {v:Value} (h:w.cell? ⟨b,o,none⟩=some v):b<w.heap.size:=World.block_lt_of_cell? _ _ h
theorem aD {w w':World} (h:Below w.heap.size w w') {b o:Nat} {v:Value} (hc:w.cell? ⟨b,o,none⟩=some v):w'.cell? ⟨b,o,none⟩=some v:=by rw [VJ h b o (lt_of_cell hc)];exact hc
theorem Later.keep {w:World} (p:Later w.heap.size w) {b o:Nat} {v:Value} (hc:w.cell? ⟨b,o,none⟩=some v):p.it.cell? ⟨b,o,none⟩=some v:=aD p.low hc
theorem aI {w w' w'':World} (h:Below w.heap.size w w') (k:Below w'.heap.size w' w''):Below w.heap.size w w'':=h.trans (k.mono h.size)
section
variable {P:Program} {ops:Array Oper} {md:Region.Mode} {C:World→Prop}
def zM (P:Program) (md:Region.Mode) (ops:Array Oper) (C:World→Prop) (n:Nat) (L:Array Bool→Act→Prop):Nat→Array Bool→Act→Prop
 | 0,listed,a=>L listed a
 | f+1,listed,a=>Region.ready md ops listed≠[]∧∀ i∈Region.ready md ops listed,i<n∧qOp P ops C i (zM P md ops C n L f (listed.setIfInBounds i true)) a
theorem VK {n g:Nat} {L:Array Bool→Act→Prop} {Q:Exit→Act→World→Prop} (hL:∀ listed a w,C w→L listed a→wpAny P md ops Q g listed a w) :
  ∀ (f:Nat) (listed:Array Bool) (a:Act) (w:World),C w→zM P md ops C n L f listed a→wpAny P md ops Q (f+g) listed a w:=by
 intro f;induction f with
 | zero=>intro listed a w hw h;rw [Nat.zero_add];exact hL _ _ _ hw h
 | succ f ih=>intro listed a w hw h;rw [show f+1+g=(f+g)+1 by omega];exact ⟨fun h0=>absurd h0 h.1,fun i hi=>wpOp_of_qOp hw (fun a' w' hw' h'=>ih _ a' w' hw' h') (h.2 i hi).2⟩
theorem VL {n i:Nat} {oi:Oper} {v:Value} {L:Array Bool→Act→Prop} (hi:ops[i]?=some oi) (hsel:∀ (j:Nat) (o:Oper) cs b,ops[j]?=some o→o.op≠.select cs b)
  (hs:Region.sinkB md ops n=true) (hc:Region.chainB md ops n=true) (hn:n<ops.size) (hin:i<n)
  (hdone:∀ listed a,L listed a→∀ j∈Region.ready md ops listed,n≤j) :
  ∀ (f:Nat) (listed:Array Bool) (a:Act),HeadInv md ops n listed →
   (∀ j oj,ops[j]?=some oj→j≠i→listed.getD j true=false→(∀ e∈oj.after,Region.binds md e=true→e.on≠i)→oi.apart ops oj=true) →
   i∈Region.ready md ops listed→YieldsIn P ops C oi v a →
   zM P md ops C n L f (listed.setIfInBounds i true) (a.put oi.dst v)→zM P md ops C n L (f+1) listed a:=by
 intro f;induction f with
 | zero=>
  intro listed a inv _ hr hy H;have hun:=(mem_ready.1 hr).1;refine ⟨fun h=>(by rw [h] at hr;cases hr),fun j hj=>?_⟩;have hjn:j<n:=by rcases Nat.lt_or_ge j n with h | h;{exact h};{exact absurd hj (tail_waits hs hc hn inv _ i rfl hin hun j h)}
  refine ⟨hjn,?_⟩;by_cases hji:j=i;{subst hji;exact hy.qOp hi H};{have:=hdone _ _ H j (ready_mono hj hji);omega}
 | succ f ih=>
  intro listed a inv hfree hr hy H;have hun:=(mem_ready.1 hr).1;refine ⟨fun h=>(by rw [h] at hr;cases hr),fun j hj=>?_⟩;have hjn:j<n:=by rcases Nat.lt_or_ge j n with h | h;{exact h};{exact absurd hj (tail_waits hs hc hn inv _ i rfl hin hun j h)}
  refine ⟨hjn,?_⟩;by_cases hji:j=i;{subst hji;exact hy.qOp hi H};{have h1:=(H.2 j (ready_mono hj hji)).2;obtain ⟨hjun,oj,hoj,hall⟩:=mem_ready.1 hj;have hnot:∀ e∈oj.after,Region.binds md e=true→e.on≠i:=fun e he hb heq=>(by have h2:=hall e he hb;rw [heq,getD_both hun] at h2;cases h2);have h2:=qOp_put hoj (hfree j oj hoj hji hjun hnot) (fun cs b=>hsel i oi cs b hi) (fun cs b=>hsel j oj cs b hoj) hy h1;refine qOp_mono (fun a' h3=>ih (listed.setIfInBounds j true) a' (inv.set hj hjn) ?_ (ready_mono hr (Ne.symm hji)) h3.1 ?_) h2;{intro k ok hk hki MX hno;refine hfree k ok hk hki ?_ hno;by_cases hjk:j=k;{subst hjk;exact hjun};{rw [getD_set_ne true hjk] at MX;exact MX}};{rw [Array.setIfInBounds_comm _ _ hji];exact h3.2}}
theorem VN {n g:Nat} {Lq:Act→Prop} (hsel:Region.noSelect ops=true) (hs:Region.sinkB md ops n=true) (hc:Region.chainB md ops n=true) (hn:n<ops.size) :
  ∀ (l:List Oper) (k:Nat) (listed:Array Bool) (a:Act),(∀ j,j<l.length→l[j]?=ops[k+j]?)→k+l.length=n→HeadInv md ops n listed →
  Region.lexHead md ops g l.length k listed=true→wpQuiet P ops C Lq l a →
  zM P md ops C n (fun listed' a'=>Region.seqB md ops g n listed'=true∧Lq a') l.length listed a:=by
 intro l;induction l with
 | nil=>
  intro k listed a _ hk _ hB h;obtain rfl:k=n:=by simpa using hk
  exact ⟨by simpa [Region.lexHead] using hB,h⟩
 | cons o l ih=>
  intro k listed a hl hk inv hB h;have h0:ops[k]?=some o:=by simpa using (hl 0 aH).symm
  simp only [List.length_cons,Region.lexHead,Bool.and_eq_true] at hB;obtain ⟨⟨hr,hf⟩,hB'⟩:=hB;have hkn:k<n:=by simp only [List.length_cons] at hk;omega
  have hr':k∈Region.ready md ops listed:=by simpa using hr
  have hst:qOp P ops C k (wpQuiet P ops C Lq l) a:=by unfold qOp;simp only [h0];exact h
  obtain ⟨v,hy,hK⟩:=yieldsIn_of_qOp h0 hst;exact VL h0 (Region.noSelect_spec hsel) hs hc hn hkn (fun listed' a' hL=>seqB_ready hL.1) l.length listed a inv (Region.free_spec h0 hf) hr' hy
   (ih (k+1) _ _ (fun j hj=>by have:=hl (j+1) (by simp;omega);simpa [Nat.add_assoc,Nat.add_comm 1 j] using this) (by simp only [List.length_cons] at hk;omega) (inv.set hr' hkn) hB' hK)
theorem MZ {id:Nat} {Q:Exit→Act→World→Prop} {a:Act} {w:World} {l:List Oper} (n:Nat) (C:World→Prop) (hm:P.follows .mixedOrders=true) (hB:Region.lexTailB .any l.toArray n=true)
  (hC:C w.drew) (h:wpQuiet P l.toArray C (fun a'=>∀ w',C w'→wpList P l.toArray Q (l.drop n) a' w') (l.take n) a):(Code.region id l.toArray true).wp P Q a w:=by
 simp only [Region.lexTailB,Bool.and_eq_true,decide_eq_true_eq] at hB;obtain ⟨⟨⟨⟨hsel,hn⟩,hs⟩,hc⟩,hlex⟩:=hB;have hn':n<l.length:=by simpa using hn
 have htl:(l.take n).length=n:=by simp;omega
 have hdl:(l.drop n).length=l.toArray.size-n:=aH;have inv0:HeadInv .any l.toArray n (Array.replicate l.toArray.size false):=
  ⟨aH,fun j oj _ hl=>(by rw [getD_replicate_false] at hl;cases hl),fun t _ ht=>getD_in (by simpa using ht) (getD_replicate_false _ _)⟩
 have H:=VN (md:=.any) (g:=l.toArray.size-n) hsel hs hc hn (l.take n) 0 _ a (fun j hj=>by
  have hj':j<n:=by rw [htl] at hj;exact hj
  simp [hj']) (by simpa using htl) inv0 (by rw [htl];exact hlex) h
 refine wp_region_any hm ?_;have:=VK (Q:=Q) (g:=l.toArray.size-n) (fun listed a' w' hw' hL=>by have:=wpAny_of_seq (md:=.any) (Q':=Q) (l.drop n) n listed a' w' (fun j=>by simp [List.getElem?_drop]) (by rw [hdl];exact hL.1) (hL.2 w' hw');rwa [hdl] at this) _ _ _ _ hC H;rw [htl,show n+(l.toArray.size-n)=l.toArray.size by omega] at this;exact this
end
theorem M4 {P:Program} {id:Nat} {Q:Exit→Act→World→Prop} {a:Act} {w:World} {l:List Oper} (n:Nat) (B:Nat) (hm:P.follows .mixedOrders=true) (hB:Region.lexTailB .any l.toArray n=true)
  (h:wpQuiet P l.toArray (fun w'=>∃ p:Later B w,w'=p.it) (fun a'=>∀ w',(∃ p:Later B w,w'=p.it)→wpList P l.toArray Q (l.drop n) a' w') (l.take n) a):(Code.region id l.toArray true).wp P Q a w:=
 MZ n (fun w'=>∃ p:Later B w,w'=p.it) hm hB ⟨⟨_,(Below.refl B w).drew⟩,rfl⟩ h
theorem nC {P:Program} {id:Nat} {Q:Exit→Act→World→Prop} {a:Act} {w:World} {l:List Oper} (n:Nat) (hm:P.follows .mixedOrders=true) (hB:Region.lexTailB .any l.toArray n=true)
  (h:wpQuiet P l.toArray (fun w'=>∃ n,w'=w.drewN n) (fun a'=>∀ w',(∃ n,w'=w.drewN n)→wpList P l.toArray Q (l.drop n) a' w') (l.take n) a):(Code.region id l.toArray true).wp P Q a w:=
 MZ n (fun w'=>∃ n,w'=w.drewN n) hm hB ⟨1,rfl⟩ h
theorem nX {P:Program} {f:FuncId} {args:Array Value} {w:World} {x:Nat} {v:Value}
  (h:∀ W,W=w.drewN x→Calls P f args W fun e w'=>e=.returned v∧w'=W):Calls P f args (w.drewN x) fun e w''=>e=.returned v∧∃ n,w''=w.drewN n:=
 (h _ rfl).mono fun _ _ ⟨he,hm⟩=>⟨he,x,hm⟩
theorem VO {P:Program} {f:FuncId} {args:Array Value} {w:World} {m x:Nat} {v:Value}
  (h:∀ W,W=w.drewN (m+x)→Calls P f args W fun e w'=>e=.returned v∧w'=W):Calls P f args (w.drewN (m+x)) fun e w''=>e=.returned v∧∃ n,w''=w.drewN (m+n):=
 (h _ rfl).mono fun _ _ ⟨he,hm⟩=>⟨he,x,hm⟩
def aB (w:World) (b:Nat) (A:List Value) (t:TypeId):Prop:=w.heap[b]?=some (.cells A.toArray t (0,0))
theorem aB.lt {w:World} {b:Nat} {A:List Value} {t:TypeId} (h:aB w b A t):b<w.heap.size:=lt_of_block h
theorem aB.cell {w:World} {b:Nat} {A:List Value} {t:TypeId} (h:aB w b A t) {i:Nat} {v:Value} (hv:A[i]?=some v):w.cell? ⟨b,i,none⟩=some v:=by unfold aB at h;simp [World.cell?,h,hv]
theorem aB.free {w:World} {b:Nat} {A:List Value} {t:TypeId} (h:aB w b A t) (i:Nat):w.frozen? ⟨b,i,none⟩=false:=by unfold aB at h;simp [World.frozen?,h]
theorem aB.set {w:World} {b:Nat} {A:List Value} {t:TypeId} (h:aB w b A t) (i:Nat) (v:Value):aB (w.setCell ⟨b,i,none⟩ v) b (A.set i v) t:=by
 have hlt:=h.lt;unfold aB at *;have h':w.heap[b]=.cells A.toArray t (0,0):=by simpa [Array.getElem?_eq_getElem hlt] using h
 show (w.heap.modify b _)[b]?=_;rw [Array.getElem?_eq_getElem (by simpa using hlt),Array.getElem_modify_self,h'];simp
theorem aB.other {w:World} {b c:Nat} {A:List Value} {t:TypeId} (h:aB w b A t) (hc:b≠c) (i:Nat) (v:Value):aB (w.setCell ⟨c,i,none⟩ v) b A t:=by unfold aB at *;rw [Below.heap_setCell _ _ _ _ (by simpa using hc)];exact h
theorem aB.drew {w:World} {b:Nat} {A:List Value} {t:TypeId} (h:aB w b A t):aB w.drew b A t:=h
theorem aB.alloc {w:World} {b:Nat} {A:List Value} {t:TypeId} (h:aB w b A t) (o:Obj):aB (w.alloc o) b A t:=by unfold aB;rw [Below.heap_alloc _ _ _ h.lt];exact h
theorem aB.new (w:World) (A:List Value) (t:TypeId):aB (w.alloc (.cells A.toArray t)) w.heap.size A t:=by show (w.heap.push _)[w.heap.size]?=_;simp
theorem aB.new' {w:World} {n:Nat} {A:List Value} {c:Array Value} {t:TypeId} (hs:w.heap.size=n) (h:c.toList=A):aB (w.alloc (.cells c t)) n A t:=by subst h;subst hs;simpa using aB.new w c.toList t
theorem aB.drewN {w:World} {b:Nat} {A:List Value} {t:TypeId} (h:aB w b A t) (n:Nat):aB (w.drewN n) b A t:=h
theorem aB.below {B:Nat} {w w':World} {b:Nat} {A:List Value} {t:TypeId} (h:aB w b A t) (hb:Below B w w') (hB:b<B):aB w' b A t:=by unfold aB;rw [hb.block b hB];exact h
theorem aB.keep {w w':World} {b:Nat} {A:List Value} {t:TypeId} (h:aB w b A t) (hb:Below w.heap.size w w'):aB w' b A t:=h.below hb h.lt
def gM (w:World) (a:Option Addr) (n:Nat) (V:Nat→Value):Prop:=n=0∨∃ b off,a=some ⟨b,off,none⟩∧∀ i,i<n→w.cell? ⟨b,off+i,none⟩=some (V i)
theorem gM.keep {w w':World} {a:Option Addr} {n:Nat} {V:Nat→Value} (h:gM w a n V) (hb:Below w.heap.size w w'):gM w' a n V:=by rcases h with h | ⟨b,off,ha,hc⟩;{exact Or.inl h};{exact Or.inr ⟨b,off,ha,fun i hi=>aD hb (hc i hi)⟩}
theorem gM.get {w:World} {a:Option Addr} {n:Nat} {V:Nat→Value} (h:gM w a n V) {i:Nat} (hi:i<n):∃ b off,a=some ⟨b,off,none⟩∧∀ i,i<n→w.cell? ⟨b,off+i,none⟩=some (V i):=by rcases h with h | h;{omega};{exact h}
theorem own:ownKnob prog.godebug=none:=aF
theorem laidOut:laidOutB prog=true:=aF
theorem VP {H:Type} {enc:TypeId×Value→H} {W W':World} (hb:Below W.heap.size W W') :
  ∀ (ts:List TypeId) (vs:List Value) (ds:List (DataW H)) (ps:List MemPlace),(∀ t,t∈ts→prog.readableRec t=true∧t<prog.types.size) →
   DataW.TrodAll enc prog W 0 (fun _=>true) true ts vs ds ps→(∀ x∈ps,x.block<W.heap.size)→DataW.TrodAll enc prog W' 0 (fun b=>decide (b<W.heap.size)) true ts vs ds ps:=by
 intro ts;induction ts with
 | nil=>intro vs ds ps _ h _;cases vs <;> cases ds <;> first | exact h | exact absurd h (by simp [DataW.TrodAll])
 | cons t ts ih=>
  intro vs ds ps hr h hlt;cases vs with
  | nil=>exact absurd h (by simp [DataW.TrodAll])
  | cons v vs=>
   cases ds with
   | nil=>exact absurd h (by simp [DataW.TrodAll])
   | cons d ds=>
    obtain ⟨p,q,h1,h2,rfl⟩:=h;exact ⟨p,q,Below.trod laidOut (hr t aH).1 (hr t aH).2 h1 hb (fun x hx=>hlt x (by simp [hx])),
     ih vs ds q (fun t ht=>hr t (by simp [ht])) h2 (fun x hx=>hlt x (by simp [hx])),rfl⟩
theorem VQ {H:Type} {enc:TypeId×Value→H} {fn:Func} {s:ChangeSpec} {W W':World} {args:Array Value} {ds gs:List (DataW H)} {before:List MemPlace} {tb:TypeId}
  (hv:s.vars=[]) (hspec:∀ (ds:List (DataW H)),ds.length=fn.params.toList.length→s.fn H (ds++[]) = { results:=[.lit (.bool true)],args:=ds })
  (hres:fn.resultTypes=#[tb]) (htb:prog.underlying tb=some .bool)
  (hpar:fn.params.all (fun t=>prog.readableRec t && decide (t<prog.types.size))=true)
  (hW:DataW.Whole enc prog fn.params.toList s.vars false W args.toList ds gs before) (hb:Below W.heap.size W W') :
  s.post enc prog fn false true false false W args (.bool true) W':=by
 have hW':=hW;obtain ⟨p,q,hA,hV,rfl,hfz,hnd⟩:=hW;rw [hv] at hV;obtain ⟨rfl,rfl⟩:=trodVars_none hV;have hlen:ds.length=fn.params.toList.length:=by
  have:∀ (ts:List TypeId) (vs:List Value) (ds:List (DataW H)) (ps:List MemPlace),DataW.TrodAll enc prog W 0 (fun _=>true) true ts vs ds ps→ds.length=ts.length:=by
   intro ts;induction ts with
   | nil=>intro vs ds ps h;cases vs <;> cases ds <;> first | rfl | exact absurd h (by simp [DataW.TrodAll])
   | cons t ts ih=>
    intro vs ds ps h;cases vs with
    | nil=>exact absurd h (by simp [DataW.TrodAll])
    | cons v vs=>
     cases ds with
     | nil=>exact absurd h (by simp [DataW.TrodAll])
     | cons d ds=>obtain ⟨p,q,h1,h2,rfl⟩:=h;simp [ih vs ds q h2]
  exact this _ _ _ _ hA
 have e:=hspec ds hlen;refine ⟨ds,[],p++[],[],p,[],hW',?_,?_,?_,hb.frame _,fun h=>by cases h⟩;{rw [e,hres];exact trodAll_cons_mk (shut_bool htb true) trodAll_mk0};{rw [e];refine VP hb _ _ _ _ (fun t ht=>?_) hA (fun x hx=>hW'.lt x (by simp [hx]));have:=Array.all_eq_true_iff_forall_mem.1 hpar t (by simpa using ht);simpa using this};{rw [hv,e];rfl}
theorem VU {w:World} {a:Addr} {v:Value} (h:w.cell? a=some v):a.spot=none:=by
 unfold World.cell? at h;split at h
 · split at h;{cases h}
   · rename_i h1;cases hs:a.spot with
     | none=>rfl
     | some x=>rw [hs] at h1;exact absurd rfl h1
 {cases h}
theorem lG {w:World} {a:Addr} (hs:a.spot=none) (i:Nat):w.cell? (a.add i)=w.cell? ⟨a.block,a.off+i,none⟩:=by unfold Addr.add;split;{rename_i h;subst h;rw [Nat.add_zero,←hs]};{rfl}
theorem M5 {w:World} {P:Program} {ops:Array Oper} {rest:List Oper} {o:Oper} {a:Act} {Q:Exit→Act→World→Prop} (hgd:o.guard=none) (s x:Operand) (t:TypeId)
  (ho:o.op=.call { callee:=.builtin .append,args:=#[s,x],argTypes:=#[t,t] })
  (base:Nat) (e:TypeId) (i:TypeInfo) (z:Value) (bytes:Nat) (ht:P.underlying t=some (.slice e)) (hi:P.info? e=some i) (hz:i.zero=some z)
  (hsize:i.size=1) (hby:i.bytes=bytes) (hzs:z.cells.size=1)
  (v:Value) (n:Nat) (xs:List Value) (hs:a.eval s=v) (hown:w.ownsRow base e 1 v n xs)
  (sa:Option Addr) (m c:Nat) (V:Nat→Value) (hx:a.eval x=.slice sa m c) (hnil:sa=none→m=0∧c=0) (hrow:gM w sa m V) (h1:∀ j,j<m→(V j).oneCell'=true)
  (h63:n+m≤maxLen) (hbytes:(n+m)*bytes≤140737488355328) (hbase:base≤w.heap.size)
  (h:∀ v' w',w'.ownsRow base e 1 v' (n+m) (xs++(List.range m).map V)→w.grownBy w' v.ownBlock→wpList P ops Q rest (a.put o.dst v') w'):wpList P ops Q (o::rest) a w:=by
 cases sa with
 | none=>obtain ⟨rfl,rfl⟩:=hnil rfl;refine wpList_append_own_none hgd s x t ho base e i 1 ht hi v n xs hs hown hx (h v w ?_ ⟨rfl,rfl,rfl,Nat.le_refl _,fun _ _ _=>rfl⟩);simpa using hown
 | some ad=>refine wpList_append_own w hgd s x t ho base e i z 1 bytes ht hi hz hsize hby hzs aL v n xs hs hown ad m c ((List.range m).map V) hx aH ?_ ?_ h63 hbytes hbase (fun v' w' h2 h3 _=>h v' w' h2 h3);{intro j u hj;have hjm:j<m:=(by have:=(List.getElem?_eq_some_iff.1 hj).1;simpa using this);obtain ⟨b,off,hab,hc⟩:=hrow.get hjm;simp only [Option.some.injEq] at hab;subst hab;rw [List.getElem?_map,List.getElem?_range hjm] at hj;simp only [Option.map_some,Option.some.injEq] at hj;subst hj;rw [lG rfl];exact hc j hjm};{intro u hu;obtain ⟨j,hj,rfl⟩:=List.mem_map.1 hu;exact h1 j (by simpa using hj)}
theorem Dj {w:World} {base:Nat} {e:TypeId} {v:Value} {n:Nat} {xs:List Value} (h:w.ownsRow base e 1 v n xs):∃ (a:Option Addr) (cap:Nat),v=.slice a n cap∧n≤cap∧cap≤maxLen∧(a=none→n=0∧cap=0)∧gM w a n fun i=>xs.getD i undef:=by obtain ⟨hl,h⟩:=h;rcases h with ⟨rfl,rfl⟩ | ⟨g,cap,cur,rfl,hg,hh,hn,hm,hc,hx⟩;{exact ⟨none,0,rfl,Nat.le_refl _,by unfold maxLen;omega,fun _=>⟨rfl,rfl⟩,Or.inl rfl⟩};{refine ⟨_,cap,rfl,hn,hm,(fun h=>by cases h),Or.inr ⟨g,0,rfl,fun i hi=>?_⟩⟩;have h1:cur.toList[i]?=xs[i]?:=(by rw [←hx,List.getElem?_take,if_pos ay]);have h2:i<xs.length:=ay;rw [Nat.zero_add];simp [World.cell?,hh,List.getD];rw [←Array.getElem?_toList,h1,List.getElem?_eq_getElem h2];simp}
theorem Hg {α:Type} {a b:List α} {i:Nat} {d:α} (h:i<a.length):(a++b).getD i d=a.getD i d:=by simp [List.getD,List.getElem?_append_left h]
theorem Hl {α:Type} {a b:List α} {i:Nat} {d:α} (h:a.length≤i):(a++b).getD i d=b.getD (i-a.length) d:=by simp [List.getD,List.getElem?_append_right h]
def strOf (l:List Nat):ByteArray:=⟨(l.map fun x=>UInt8.ofNat x).toArray⟩
theorem VW {P:Program} (w:World) (src e dst:TypeId) (hs:P.underlying src=some (.slice e)) (he:P.underlying e=some (.int .u8)) (hd:P.underlying dst=some .string) (a:Option Addr) (m cap:Nat) (l:List Nat)
  (hm:m=l.length) (hR:gM w a m fun i=>.int .u8 (l.getD i 0:Nat)):(convert src dst (.slice a m cap)).run P w=.ok (.string (strOf l)) w:=by
 subst hm;rcases hR with h0 | ⟨b,off,rfl,hc⟩
 · obtain rfl:l=[]:=List.eq_nil_of_length_eq_zero h0;cases a with
   | none=>exact run_convert_bytes_nil w src e hs he _ _ dst hd
   | some ad=>rw [run_convert_bytes_string w src dst e _ _ cap hs he hd];rw [run_bytesToString w ad _ cap [] (by simp [loadCells];rfl)];rfl
 {rw [run_convert_bytes_arg w src e hs he b off l.length cap (l.map fun x:Nat=>(x:Int)) aH (fun i hi=>by rw [hc i hi];simp [List.getD,hi]) dst hd];congr 2;simp [strOfNums,strOf]}
open Go.ChangeShapes Go.WideShapes Go.ChangeAt Go.RowKit
def Moved (w:World) (v v':Value):Prop:=v'.ownBlock=v.ownBlock∨∃ k,v'.ownBlock=some k∧w.heap.size≤k
theorem Dk {P:Program} {w:World} (base:Nat) (t ty e:TypeId) (i:TypeInfo) (z:Value) (size bytes:Nat) (ht:P.underlying t=some (.slice e)) (hi:P.info? e=some i) (hz:i.zero=some z)
  (hsize:i.size=size) (hby:i.bytes=bytes) (hzs:z.cells.size=size) (hsz:0<size)
  (v:Value) (n:Nat) (xs:List Value) (hown:w.ownsRow base e size v n xs)
  (a:Addr) (m c:Nat) (news:List Value) (hl:news.length=m*size) (hnews:∀ j u,news[j]?=some u→w.cell? (a.add j)=some u) (h1:∀ u∈news,u.oneCell'=true)
  (h63:n+m≤maxLen) (hbytes:(n+m)*bytes≤140737488355328) (hbase:base≤w.heap.size) :
  ∃ v' w',(Builtin.append_ #[t,t] ty #[v,.slice (some a) m c]).run P w=.ok v' w'∧w'.ownsRow base e size v' (n+m) (xs++news)∧w.grownBy w' v.ownBlock∧Moved w v v':=by
 obtain ⟨v',w',hr,h2,h3,h4⟩:=run_append_own (P:=P) w base t ty e i z size bytes ht hi hz hsize hby hzs hsz v n xs hown a m c news hl hnews h1 h63 hbytes hbase;refine ⟨v',w',hr,h2,h3,?_⟩;rcases hown.2 with ⟨rfl,rfl⟩ | ⟨g,cap,cur,rfl,hbg,hg,hnc,hcm,hcs,htake⟩
 · by_cases hm:m=0;{rw [h4.2 ⟨rfl,hm⟩];exact Or.inl rfl}
   · have hown2:w.ownsRow w.heap.size e size (.slice none 0 0) 0 xs:=⟨hown.1,.inl ⟨rfl,rfl⟩⟩;obtain ⟨v2,w2,hr2,k2,_,k4⟩:=run_append_own (P:=P) w w.heap.size t ty e i z size bytes ht hi hz hsize hby hzs hsz _ 0 xs hown2 a m c news hl hnews h1 h63 hbytes aG;rw [hr] at hr2;obtain ⟨rfl,rfl⟩:v'=v2∧w'=w2:=(by simpa using hr2);cases hb:v'.ownBlock with
     | none=>exact Or.inl (by rw [hb];rfl)
     | some k=>exact Or.inr ⟨k,hb,(k2.lt k hb).1⟩
 · by_cases hroom:n+m≤cap;{obtain ⟨w2,hr2,_,_⟩:=run_append_fits (P:=P) (w:=w) base t ty e i size ht hi hsize g n cap xs hown a m c news hl hnews h1 hroom;rw [hr] at hr2;obtain ⟨rfl,_⟩:v'=_∧w'=w2:=(by simpa using hr2);exact Or.inl rfl}
   · subst hsize;subst hby
     have h63':((n+m:Nat):Int)≤9223372036854775807:=(by unfold maxLen at h63;omega);have hr2:=run_append_grow (P:=P) w t ty e i z ht hi hz ⟨g,0,none⟩ n cap xs hown.1 (hown.cells (g:=g) rfl) a m c news hl hnews ay h63' (growslice_fits ay hbytes);rw [hr] at hr2;obtain ⟨rfl,_⟩:v'=_∧w'=_:=(by simpa using hr2);exact Or.inr ⟨_,rfl,Nat.le_refl _⟩
theorem nD {w:World} {P:Program} {ops:Array Oper} {rest:List Oper} {o:Oper} {a:Act} {Q:Exit→Act→World→Prop} (hgd:o.guard=none) (s x:Operand) (t:TypeId)
  (ho:o.op=.call { callee:=.builtin .append,args:=#[s,x],argTypes:=#[t,t] })
  (base:Nat) (e:TypeId) (i:TypeInfo) (z:Value) (size bytes:Nat) (ht:P.underlying t=some (.slice e)) (hi:P.info? e=some i) (hz:i.zero=some z)
  (hsize:i.size=size) (hby:i.bytes=bytes) (hzs:z.cells.size=size) (hsz:0<size)
  (v:Value) (n:Nat) (xs:List Value) (hs:a.eval s=v) (hown:w.ownsRow base e size v n xs)
  (sa:Option Addr) (m c:Nat) (news:List Value) (hx:a.eval x=.slice sa m c) (hnil:sa=none→m=0∧c=0) (hl:news.length=m*size)
  (hnews:∀ ad,sa=some ad→∀ j u,news[j]?=some u→w.cell? (ad.add j)=some u) (h1:∀ u∈news,u.oneCell'=true)
  (h63:n+m≤maxLen) (hbytes:(n+m)*bytes≤140737488355328) (hbase:base≤w.heap.size)
  (h:∀ v' w',w'.ownsRow base e size v' (n+m) (xs++news)→w.grownBy w' v.ownBlock→Moved w v v'→wpList P ops Q rest (a.put o.dst v') w'):wpList P ops Q (o::rest) a w:=by
 cases sa with
 | none=>obtain ⟨rfl,rfl⟩:=hnil rfl;obtain rfl:news=[]:=List.eq_nil_of_length_eq_zero (by simpa using hl);refine wpList_append_own_none hgd s x t ho base e i size ht hi v n xs hs hown hx (h v w ?_ ⟨rfl,rfl,rfl,Nat.le_refl _,fun _ _ _=>rfl⟩ (Or.inl rfl));simpa using hown
 | some ad=>refine wpList_plain hgd fun K hK=>?_;obtain ⟨v',w',hr,h2,h3,h4⟩:=Dk (P:=P) (w:=w) base t o.type e i z size bytes ht hi hz hsize hby hzs hsz v n xs hown ad m c news hl (hnews ad rfl) h1 h63 hbytes hbase;unfold Oper.wp execOp;simp only [ho,resolve,invoke,builtin,Sem.run_bind,Sem.run_pure,Result.andThen_ok,List.map_toArray,List.map_cons,List.map_nil,hs,hx,hr];exact hK _ _ (h v' w' h2 h3 h4)
theorem M6 {w:World} {P:Program} {ops:Array Oper} {rest:List Oper} {o:Oper} {a:Act} {Q:Exit→Act→World→Prop} (hgd:o.guard=none) (s x:Operand) (t:TypeId)
  (ho:o.op=.call { callee:=.builtin .append,args:=#[s,x],argTypes:=#[t,t] })
  (base:Nat) (e:TypeId) (i:TypeInfo) (z:Value) (bytes:Nat) (ht:P.underlying t=some (.slice e)) (hi:P.info? e=some i) (hz:i.zero=some z)
  (hsize:i.size=1) (hby:i.bytes=bytes) (hzs:z.cells.size=1)
  (v:Value) (n:Nat) (xs:List Value) (u:Value) (W:World) (hw:w=W.alloc (.cells #[u] e)) (hs:a.eval s=v) (hown:W.ownsRow base e 1 v n xs)
  (hx:a.eval x=.slice (some ⟨W.heap.size,0,none⟩) 1 1) (h1:u.oneCell'=true)
  (h63:n+1≤maxLen) (hbytes:(n+1)*bytes≤140737488355328) (hbase:base≤W.heap.size)
  (h:∀ v' w',w'.ownsRow base e 1 v' (n+1) (xs++[u])→W.grownBy w' v.ownBlock→Moved W v v'→wpList P ops Q rest (a.put o.dst v') w'):wpList P ops Q (o::rest) a w:=by
 subst hw;have hs1:(W.alloc (.cells #[u] e)).heap.size=W.heap.size+1:=aH;refine nD hgd s x t ho base e i z 1 bytes ht hi hz hsize hby hzs aL v n xs hs (hown.alloc _) (some ⟨W.heap.size,0,none⟩) 1 1 [u] hx (fun h=>by cases h) rfl ?_ ?_ h63 hbytes ay (fun v' w' a b c=>h v' w' a ?_ ?_)
 · intro ad had j u' hu;cases had;cases j with
   | zero=>rw [lG rfl,World.cell?_alloc_at _ _ _ _ rfl];simpa using hu
   | succ j=>simp at hu
 {intro u' hu;simp at hu;rw [hu];exact h1};{refine ⟨b.os,b.tape,b.output,by have:=b.size;omega,fun k hk hne=>?_⟩;rw [b.block k ay hne,Below.heap_alloc _ _ _ hk]};{rcases c with c | ⟨k,c,d⟩;{exact Or.inl c};{exact Or.inr ⟨k,c,ay⟩}}
def Apart (u v:Value):Prop:=u.ownBlock=none∨v.ownBlock=none∨u.ownBlock≠v.ownBlock
theorem Apart.symm {u v:Value} (h:Apart u v):Apart v u:=by rcases h with h | h | h;{exact Or.inr (Or.inl h)};{exact Or.inl h};{exact Or.inr (Or.inr (Ne.symm h))}
theorem VX (u:Value) (n:Nat):Apart u (.slice none n n):=Or.inr (Or.inl rfl)
theorem Apart.kept {w w':World} {base:Nat} {e:TypeId} {size:Nat} {u v:Value} {n:Nat} {xs:List Value} (h:Apart u v) (hv:w.ownsRow base e size v n xs) (hg:w.grownBy w' u.ownBlock):w'.ownsRow base e size v n xs:=by refine hv.kept hg ?_;rcases h with h | h | h;{rw [h];cases v.ownBlock <;> simp};{exact Or.inl h};{exact Or.inr (Ne.symm h)}
theorem Moved.apart {w:World} {base:Nat} {e:TypeId} {size:Nat} {v v' u:Value} {n:Nat} {xs:List Value} (h:Moved w v v') (hu:w.ownsRow base e size u n xs) (hv:Apart v u):Apart v' u:=by rcases h with h | ⟨k,h,hk⟩;{unfold Apart at *;rw [h];exact hv};{refine Or.inr (Or.inr fun e=>?_);rw [h] at e;have:=(hu.lt k e.symm).2;omega}
def o8 (W:World) (v:Value) (n:Nat) (V:Nat→Value):Prop:=∃ (a:Option Addr) (cap:Nat),v=.slice a n cap∧n≤cap∧cap≤maxLen∧(a=none→cap=0)∧gM W a n V
def dQ {α:Type} (f:α→Value) (d:α) (W:World) (v:Value) (l:List α):Prop:=o8 W v l.length fun i=>f (l.getD i d)
def Ho (x:Nat):Value:=.int .u8 (x:Nat)
abbrev VY (W:World) (v:Value) (l:List Nat):Prop:=dQ Ho 0 W v l
theorem o8.keep {W W':World} {v:Value} {n:Nat} {V:Nat→Value} (h:o8 W v n V) (hb:Below W.heap.size W W'):o8 W' v n V:=by obtain ⟨a,cap,e,h1,h2,h3,r⟩:=h;exact ⟨a,cap,e,h1,h2,h3,r.keep hb⟩
theorem dQ.keep {α:Type} {f:α→Value} {d:α} {W W':World} {v:Value} {l:List α} (h:dQ f d W v l) (hb:Below W.heap.size W W'):dQ f d W' v l:=o8.keep h hb
theorem o8.drawn {W:World} {v:Value} {n:Nat} {V:Nat→Value} (h:o8 W v n V) (q:Nat):o8 (W.drewN q) v n V:=h
theorem dQ.drawn {α:Type} {f:α→Value} {d:α} {W:World} {v:Value} {l:List α} (h:dQ f d W v l) (q:Nat):dQ f d (W.drewN q) v l:=h
theorem dQ.congr {α:Type} {f:α→Value} {d:α} {W:World} {v:Value} {l k:List α} (h:dQ f d W v l) (e:l=k):dQ f d W v k:=e ▸ h
theorem dQ.open {α:Type} {f:α→Value} {d:α} {W:World} {v:Value} {l:List α} (h:dQ f d W v l):∃ (a:Option Addr) (cap:Nat),v=.slice a l.length cap∧l.length≤cap∧cap≤maxLen∧(a=none→l.length=0∧cap=0)∧gM W a l.length fun i=>f (l.getD i d):=by obtain ⟨a,cap,e,h1,h2,h3,r⟩:=h;exact ⟨a,cap,e,h1,h2,fun h=>⟨by have:=h3 h;omega,h3 h⟩,r⟩
theorem dQ.len {α:Type} {f:α→Value} {d:α} {W:World} {v:Value} {l:List α} (h:dQ f d W v l):l.length≤maxLen:=by obtain ⟨a,cap,e,h1,h2,h3,r⟩:=h;omega
theorem dQ.nil {α:Type} {f:α→Value} {d:α} (W:World):dQ f d W (.slice none 0 0) []:=⟨none,0,rfl,Nat.le_refl _,by unfold maxLen;omega,fun _=>rfl,Or.inl rfl⟩
theorem dQ.own {α:Type} {f:α→Value} {d:α} {W:World} {base:Nat} {t:TypeId} {v:Value} {n:Nat} {l:List α} (h:W.ownsRow base t 1 v n (l.map f)) (hn:n=l.length):dQ f d W v l:=by subst hn;obtain ⟨a,cap,rfl,h1,h2,h3,hr⟩:=Dj h;refine ⟨a,cap,rfl,h1,h2,fun e=>(h3 e).2,?_⟩;rcases hr with h0 | ⟨b,off,ha,hc⟩;{exact Or.inl h0};{refine Or.inr ⟨b,off,ha,fun i hi=>?_⟩;rw [hc i hi];simp [List.getD,hi]}
theorem dQ.blk {α:Type} {f:α→Value} {d:α} {W:World} {b:Nat} {t:TypeId} {A:List Value} {n:Nat} {l:List α} (h:aB W b A t) (hn:n=l.length) (hA:∀ i,i<n→A[i]?=some (f (l.getD i d))) (cap:Nat) (hc:n≤cap) (hm:cap≤maxLen):dQ f d W (.slice (some ⟨b,0,none⟩) n cap) l:=by subst hn;refine ⟨_,cap,rfl,hc,hm,(fun h=>by cases h),Or.inr ⟨_,_,rfl,fun i hi=>?_⟩⟩;rw [Nat.zero_add,h.cell (hA i hi)]
theorem kK (W:World) (cs:Array Value) (t:TypeId) (fr:Nat×Nat) (i:Nat):(W.alloc (.cells cs t fr)).cell? ⟨W.heap.size,i,none⟩=cs[i]?:=by have:(W.alloc (.cells cs t fr)).heap[W.heap.size]?=some (.cells cs t fr):=heap_alloc_new W _;unfold World.cell?;rw [this];rfl
theorem o8.built {W:World} {b n:Nat} {t:TypeId} {fr:Nat×Nat} {cs:Array Value} {V:Nat→Value} (hb:W.heap.size=b) (hcs:∀ i,i<n→cs[i]?=some (V i)) (hm:n≤maxLen):o8 (W.alloc (.cells cs t fr)) (.slice (some ⟨b,0,none⟩) n n) n V:=by subst hb;refine ⟨_,n,rfl,Nat.le_refl _,hm,(fun h=>by cases h),Or.inr ⟨_,_,rfl,fun i hi=>?_⟩⟩;rw [Nat.zero_add,kK,hcs i hi]
theorem dQ.built {α:Type} {f:α→Value} {d:α} {W:World} {b n:Nat} {t:TypeId} {fr:Nat×Nat} {cs:Array Value} {l:List α} (hb:W.heap.size=b) (hn:n=l.length) (hcs:cs.toList=l.map f) (hm:n≤maxLen):dQ f d (W.alloc (.cells cs t fr)) (.slice (some ⟨b,0,none⟩) n n) l:=by subst hn;refine o8.built hb (fun i hi=>?_) hm;rw [←Array.getElem?_toList,hcs];simp [List.getD,hi]
theorem dQ.front {α:Type} {f:α→Value} {d:α} {W:World} {a:Option Addr} {n cap:Nat} {l:List α} (h:dQ f d W (.slice a n cap) l) (k:Nat) (hk:k≤n):dQ f d W (.slice a k cap) (l.take k):=by
 obtain ⟨a',cap',e,h1,h2,h3,r⟩:=h;simp only [Value.slice.injEq] at e;obtain ⟨rfl,rfl,rfl⟩:=e;have hl:(l.take k).length=k:=by rw [List.length_take];omega
 refine ⟨a,cap,by rw [hl],ay,h2,h3,?_⟩;rw [hl];rcases r with h0 | ⟨b,off,ha,hc⟩;{exact Or.inl ay};{refine Or.inr ⟨b,off,ha,fun i hi=>?_⟩;rw [hc i ay];simp [List.getD,hi]}
theorem VZ {P:Program} {src e dst:TypeId} (hs:P.underlying src=some (.slice e)) (he:P.underlying e=some (.int .u8)) (hd:P.underlying dst=some .string) (w:World) (v:Value) (l:List Nat) (hR:VY w v l):(convert src dst v).run P w=.ok (.string (strOf l)) w:=by obtain ⟨a,cap,rfl,_,_,_,hR⟩:=hR;exact VW (P:=P) w src e dst hs he hd a _ cap l rfl hR
theorem dQ.row {α:Type} {f:α→Value} {d:α} {W:World} {a:Option Addr} {n cap:Nat} {l:List α} (h:dQ f d W (.slice a n cap) l):n=l.length∧gM W a n fun i=>f (l.getD i d):=by obtain ⟨a',cap',e,h1,h2,h3,r⟩:=h;simp only [Value.slice.injEq] at e;obtain ⟨rfl,rfl,rfl⟩:=e;exact ⟨rfl,r⟩
section
variable {H:Type} {enc:TypeId×Value→H} {W:World}
def zN (t:TypeId) (d:DataW H):Prop:=∀ n∈d.weights prog t,n≤reachBytes
theorem V3 {P:Program} {e:TypeId} {d:DataW H} {n:Nat} (hn:n∈d.weights P e):∀ {l:List (DataW H)},d∈l→n∈DataW.weightsAll P e l:=by
 intro l;induction l with
 | nil=>intro h;cases h
 | cons a l ih=>intro h;simp only [DataW.weightsAll,List.mem_append];rcases List.mem_cons.1 h with rfl | h;{exact Or.inl hn};{exact Or.inr (ih h)}
theorem V4 {ts:List TypeId} {ds:List (DataW H)} (h:(DataW.weightsEach prog ts ds).all (·≤reachBytes)=true) {j:Nat} {t:TypeId} {d:DataW H} (ht:ts[j]?=some t) (hd:ds[j]?=some d):zN t d:=fun n hn=>by have:=List.all_eq_true.1 h _ (DataW.weights_mem_each ht hd n hn);simpa using this
theorem V5 {α:Type} (d:α) (n:Nat) (p:Nat→α→Prop) (h:∀ i,i<n→∃ a,p i a):∃ l:List α,l.length=n∧∀ i,i<n→p i (l.getD i d):=by
 induction n with
 | zero=>exact ⟨[],rfl,fun i hi=>absurd hi (Nat.not_lt_zero i)⟩
 | succ n ih=>obtain ⟨l,hl,hp⟩:=ih (fun i hi=>h i ay);obtain ⟨a,ha⟩:=h n ay;refine ⟨l++[a],by simp [hl],fun i hi=>?_⟩;rcases Nat.lt_or_ge i n with h1 | h1;{rw [Hg ay];exact hp i h1};{obtain rfl:i=n:=ay;rw [Hl ay,hl];simpa using ha}
theorem V6 {base:Nat} {t e:TypeId} {v:Value} {d:DataW H} {p:List MemPlace} (ht:prog.underlying t=some (.slice e)) (hv:Value.okWide prog W .any base t v) (h:DataW.Trod enc prog W 0 (fun _=>true) true t v d p):∃ fuel,DataW.trod enc prog W 0 (fun _=>true) true fuel t [v]=some (d,p):=by obtain ⟨a0,len,cap,rfl⟩:=okWide_slice ht hv;obtain ⟨fuel,hf⟩:=h;exact ⟨fuel,hf⟩
variable {base:Nat} {t s e:TypeId} {v:Value} {d:DataW H} {p:List MemPlace}
end
theorem tF {w:World} {b:Nat} {v0 v1:Value} {l:List Value} {t:TypeId} (h:aB w b (v0::v1::l) t):w.cell? ⟨b,0,none⟩=some v0∧w.cell? ⟨b,1,none⟩=some v1:=⟨h.cell (i:=0) rfl,h.cell (i:=1) rfl⟩
theorem bO {w:World} {b:Nat} {v0 v1 v2:Value} {l:List Value} {t:TypeId} (h:aB w b (v0::v1::v2::l) t):w.cell? ⟨b,0,none⟩=some v0∧w.cell? ⟨b,1,none⟩=some v1∧w.cell? ⟨b,2,none⟩=some v2:=⟨h.cell (i:=0) rfl,h.cell (i:=1) rfl,h.cell (i:=2) rfl⟩
theorem Uq7 {w:World} {b:Nat} {v0 v1 v2 v3:Value} {l:List Value} {t:TypeId} (h:aB w b (v0::v1::v2::v3::l) t):w.cell? ⟨b,0,none⟩=some v0∧w.cell? ⟨b,1,none⟩=some v1∧w.cell? ⟨b,2,none⟩=some v2∧w.cell? ⟨b,3,none⟩=some v3:=⟨h.cell (i:=0) rfl,h.cell (i:=1) rfl,h.cell (i:=2) rfl,h.cell (i:=3) rfl⟩
theorem V7 {w:World} {b:Nat} {v0 v1 v2 v3 v4:Value} {l:List Value} {t:TypeId} (h:aB w b (v0::v1::v2::v3::v4::l) t):w.cell? ⟨b,0,none⟩=some v0∧w.cell? ⟨b,1,none⟩=some v1∧w.cell? ⟨b,2,none⟩=some v2∧w.cell? ⟨b,3,none⟩=some v3∧w.cell? ⟨b,4,none⟩=some v4:=⟨h.cell (i:=0) rfl,h.cell (i:=1) rfl,h.cell (i:=2) rfl,h.cell (i:=3) rfl,h.cell (i:=4) rfl⟩
theorem ahi {w:World} {b:Nat} {v0 v1 v2 v3 v4 v5:Value} {l:List Value} {t:TypeId} (h:aB w b (v0::v1::v2::v3::v4::v5::l) t):w.cell? ⟨b,0,none⟩=some v0∧w.cell? ⟨b,1,none⟩=some v1∧w.cell? ⟨b,2,none⟩=some v2∧w.cell? ⟨b,3,none⟩=some v3∧w.cell? ⟨b,4,none⟩=some v4∧w.cell? ⟨b,5,none⟩=some v5:=⟨h.cell (i:=0) rfl,h.cell (i:=1) rfl,h.cell (i:=2) rfl,h.cell (i:=3) rfl,h.cell (i:=4) rfl,h.cell (i:=5) rfl⟩
theorem ahj {w:World} {b:Nat} {v0 v1 v2 v3 v4 v5 v6:Value} {l:List Value} {t:TypeId} (h:aB w b (v0::v1::v2::v3::v4::v5::v6::l) t):w.cell? ⟨b,0,none⟩=some v0∧w.cell? ⟨b,1,none⟩=some v1∧w.cell? ⟨b,2,none⟩=some v2∧w.cell? ⟨b,3,none⟩=some v3∧w.cell? ⟨b,4,none⟩=some v4∧w.cell? ⟨b,5,none⟩=some v5∧w.cell? ⟨b,6,none⟩=some v6:=⟨h.cell (i:=0) rfl,h.cell (i:=1) rfl,h.cell (i:=2) rfl,h.cell (i:=3) rfl,h.cell (i:=4) rfl,h.cell (i:=5) rfl,h.cell (i:=6) rfl⟩
theorem ahk {w:World} {b:Nat} {v0 v1 v2 v3 v4 v5 v6 v7:Value} {l:List Value} {t:TypeId} (h:aB w b (v0::v1::v2::v3::v4::v5::v6::v7::l) t):w.cell? ⟨b,0,none⟩=some v0∧w.cell? ⟨b,1,none⟩=some v1∧w.cell? ⟨b,2,none⟩=some v2∧w.cell? ⟨b,3,none⟩=some v3∧w.cell? ⟨b,4,none⟩=some v4∧w.cell? ⟨b,5,none⟩=some v5∧w.cell? ⟨b,6,none⟩=some v6∧w.cell? ⟨b,7,none⟩=some v7:=⟨h.cell (i:=0) rfl,h.cell (i:=1) rfl,h.cell (i:=2) rfl,h.cell (i:=3) rfl,h.cell (i:=4) rfl,h.cell (i:=5) rfl,h.cell (i:=6) rfl,h.cell (i:=7) rfl⟩
theorem fB {w:World} {b:Nat} {v0 v1 v2 v3 v4 v5 v6 v7 v8:Value} {l:List Value} {t:TypeId} (h:aB w b (v0::v1::v2::v3::v4::v5::v6::v7::v8::l) t):w.cell? ⟨b,0,none⟩=some v0∧w.cell? ⟨b,1,none⟩=some v1∧w.cell? ⟨b,2,none⟩=some v2∧w.cell? ⟨b,3,none⟩=some v3∧w.cell? ⟨b,4,none⟩=some v4∧w.cell? ⟨b,5,none⟩=some v5∧w.cell? ⟨b,6,none⟩=some v6∧w.cell? ⟨b,7,none⟩=some v7∧w.cell? ⟨b,8,none⟩=some v8:=⟨h.cell (i:=0) rfl,h.cell (i:=1) rfl,h.cell (i:=2) rfl,h.cell (i:=3) rfl,h.cell (i:=4) rfl,h.cell (i:=5) rfl,h.cell (i:=6) rfl,h.cell (i:=7) rfl,h.cell (i:=8) rfl⟩
theorem jc {w:World} {b:Nat} {l:List Value} {t:TypeId} (h:aB w b l t):w.frozen? ⟨b,0,none⟩=false∧w.frozen? ⟨b,1,none⟩=false∧w.frozen? ⟨b,2,none⟩=false:=⟨h.free 0,h.free 1,h.free 2⟩
theorem ahl {w:World} {b:Nat} {l:List Value} {t:TypeId} (h:aB w b l t):w.frozen? ⟨b,0,none⟩=false∧w.frozen? ⟨b,1,none⟩=false∧w.frozen? ⟨b,2,none⟩=false∧w.frozen? ⟨b,3,none⟩=false∧w.frozen? ⟨b,4,none⟩=false∧w.frozen? ⟨b,5,none⟩=false:=⟨h.free 0,h.free 1,h.free 2,h.free 3,h.free 4,h.free 5⟩
theorem tH {w:World} {b:Nat} {l:List Value} {t:TypeId} (h:aB w b l t):w.frozen? ⟨b,0,none⟩=false∧w.frozen? ⟨b,1,none⟩=false∧w.frozen? ⟨b,2,none⟩=false∧w.frozen? ⟨b,3,none⟩=false∧w.frozen? ⟨b,4,none⟩=false∧w.frozen? ⟨b,5,none⟩=false∧w.frozen? ⟨b,6,none⟩=false∧w.frozen? ⟨b,7,none⟩=false∧w.frozen? ⟨b,8,none⟩=false:=⟨h.free 0,h.free 1,h.free 2,h.free 3,h.free 4,h.free 5,h.free 6,h.free 7,h.free 8⟩
end Go.Proofs.YtockbaekcbeenaaGreatDoor
