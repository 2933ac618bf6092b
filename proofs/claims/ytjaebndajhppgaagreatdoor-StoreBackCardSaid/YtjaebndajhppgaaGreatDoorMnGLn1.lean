/-GLn1-/
import Derived.Test.YtjaebndajhppgaaGreatDoorMnTmRIs
import Derived.Test.YtjaebndajhppgaaGreatDoorMnGTm3
import Derived.Deep.LoopGhost
import Derived.Test.YtjaebndajhppgaaGreatDoorMnGTm2
import Derived.Laws.Cover4
import Derived.Laws.IdiomStrings
set_option linter.unusedVariables false
set_option linter.unusedSimpArgs false
set_option maxRecDepth 100000
set_option maxHeartbeats 2000000
namespace Go.Proofs.YtjaebndajhppgaaGreatDoor
open Go.ChangeShapes Go.WideShapes Go.ChangeAt Go.RowKit
def cZ (k1:Int) (t1 x1:List UInt8) (k2:Int) (t2 x2:List UInt8) (k3:Int) (t3 x3:List UInt8):Bool:=
 decide (k1=1∨k1=2) && decide (k2=1) && (Tm.is k1 t1 x1 && Tm.is k2 t2 x2 && Tm.is k3 t3 x3)
abbrev dQ (k1:Int) (t1 x1:List UInt8) (k2:Int) (t2 x2:List UInt8) (k3:Int) (t3 x3:List UInt8):Value:=
 .agg #[.int .i64 k1,str t1,str x1,.int .i64 k2,str t2,str x2,.int .i64 k3,str t3,str x3]
def aM (w:World) (k1:Int) (t1 x1:List UInt8) (k2:Int) (t2 x2:List UInt8) (k3:Int) (t3 x3:List UInt8):World:=
 w.alloc (.cells #[.int .i64 k1,str t1,str x1,.int .i64 k2,str t2,str x2,.int .i64 k3,str t3,str x3] 67)
theorem fE (w:World) (k1:Int) (t1 x1:List UInt8) (k2:Int) (t2 x2:List UInt8) (k3:Int) (t3 x3:List UInt8):aj (aM w k1 t1 x1 k2 t2 x2 k3 t3 x3) w.heap.size [.int .i64 k1,str t1,str x1,.int .i64 k2,str t2,str x2,.int .i64 k3,str t3,str x3] 67:=aj.new' rfl rfl
theorem Ui (k1:Int) (t1 x1:List UInt8) (k2:Int) (t2 x2:List UInt8) (k3:Int) (t3 x3:List UInt8) (w:World) (ht1:t1.length≤1000000000) (hx1:x1.length≤1000000000) (ht2:t2.length≤1000000000) (hx2:x2.length≤1000000000) (ht3:t3.length≤1000000000) (hx3:x3.length≤1000000000) (hV:Vars w) (hk:k1≠1∧k1≠2) :
  Calls Tryz.prog 126 #[dQ k1 t1 x1 k2 t2 x2 k3 t3 x3] w fun e w'=>e=.returned (.bool (cZ k1 t1 x1 k2 t2 x2 k3 t3 x3))∧Below w.heap.size w w':=by
 have HB:=hid (show Below w.heap.size w (aM w k1 t1 x1 k2 t2 x2 k3 t3 x3) from (Below.refl _ _).alloc (Nat.le_refl _) _);have HV:=hid (hV.keep HB.out);have HU:=hid (fE w k1 t1 x1 k2 t2 x2 k3 t3 x3);have HF:=hid (show cZ k1 t1 x1 k2 t2 x2 k3 t3 x3=false by unfold cZ;rw [decide_eq_false (by omega)];rfl);have e1:(k1==1)=false:=beq_eq_false_iff_ne.2 hk.1;have e2:(k1==2)=false:=beq_eq_false_iff_ne.2 hk.2;have n1:(k1 != 1)=true:=by simp [bne,e1]
 have n2:(k1 != 2)=true:=by simp [bne,e2]
 clear hV hk;go_enter Tryz.func126,Tryz.ntmps126;go_wp2_with (show wpList _ _ _ _ _ (aM w k1 t1 x1 k2 t2 x2 k3 t3 x3);obtain ⟨w1,hw1⟩:∃ w1,w1=aM w k1 t1 x1 k2 t2 x2 k3 t3 x3:=⟨_,rfl⟩;rw [←hw1] at HB HV HU ⊢;clear hw1;have c0:=HU.out.cell (i:=0) rfl;have c3:=HU.out.cell (i:=3) rfl)
 go_ret;exact ⟨by rw [HF.out];rfl,HB.out⟩
theorem Uj (k1:Int) (t1 x1:List UInt8) (k2:Int) (t2 x2:List UInt8) (k3:Int) (t3 x3:List UInt8) (w:World) (ht1:t1.length≤1000000000) (hx1:x1.length≤1000000000) (ht2:t2.length≤1000000000) (hx2:x2.length≤1000000000) (ht3:t3.length≤1000000000) (hx3:x3.length≤1000000000) (hV:Vars w) (hk:k1=1∨k1=2) (hk2:k2≠1) :
  Calls Tryz.prog 126 #[dQ k1 t1 x1 k2 t2 x2 k3 t3 x3] w fun e w'=>e=.returned (.bool (cZ k1 t1 x1 k2 t2 x2 k3 t3 x3))∧Below w.heap.size w w':=by
 have HB:=hid (show Below w.heap.size w (aM w k1 t1 x1 k2 t2 x2 k3 t3 x3) from (Below.refl _ _).alloc (Nat.le_refl _) _);have HV:=hid (hV.keep HB.out);have HU:=hid (fE w k1 t1 x1 k2 t2 x2 k3 t3 x3);have HF:=hid (show cZ k1 t1 x1 k2 t2 x2 k3 t3 x3=false by unfold cZ;rw [decide_eq_false hk2,Bool.and_false];rfl);have e1:(k2==1)=false:=beq_eq_false_iff_ne.2 hk2;have n1:(k2 != 1)=true:=by simp [bne,e1]
 clear hV hk2;rcases hk with rfl | rfl;all_goals
  go_enter Tryz.func126,Tryz.ntmps126
  go_wp2_with (show wpList _ _ _ _ _ (aM w k1 t1 x1 k2 t2 x2 k3 t3 x3);obtain ⟨w1,hw1⟩:∃ w1,w1=aM w k1 t1 x1 k2 t2 x2 k3 t3 x3:=⟨_,rfl⟩;rw [←hw1] at HB HV HU ⊢;clear hw1;have c0:=HU.out.cell (i:=0) rfl;have c3:=HU.out.cell (i:=3) rfl)
  go_ret
  exact ⟨by rw [HF.out];rfl,HB.out⟩
theorem Uk (k1:Int) (t1 x1:List UInt8) (k2:Int) (t2 x2:List UInt8) (k3:Int) (t3 x3:List UInt8) (w:World) (ht1:t1.length≤1000000000) (hx1:x1.length≤1000000000) (ht2:t2.length≤1000000000) (hx2:x2.length≤1000000000) (ht3:t3.length≤1000000000) (hx3:x3.length≤1000000000) (hV:Vars w) (hk:k1=1∨k1=2) (hk2:k2=1) :
  Calls Tryz.prog 126 #[dQ k1 t1 x1 k2 t2 x2 k3 t3 x3] w fun e w'=>e=.returned (.bool (cZ k1 t1 x1 k2 t2 x2 k3 t3 x3))∧Below w.heap.size w w':=by
 have HB:=hid (show Below w.heap.size w (aM w k1 t1 x1 k2 t2 x2 k3 t3 x3) from (Below.refl _ _).alloc (Nat.le_refl _) _);have HV:=hid (hV.keep HB.out);have HU:=hid (fE w k1 t1 x1 k2 t2 x2 k3 t3 x3);have HF:=hid (show cZ k1 t1 x1 k2 t2 x2 k3 t3 x3=(Tm.is k1 t1 x1 && Tm.is k2 t2 x2 && Tm.is k3 t3 x3) by unfold cZ;rw [decide_eq_true hk,decide_eq_true hk2];rfl);have I1:=hid (fun W h=>Df k1 t1 x1 W (by omega) (by omega) h);have I2:=hid (fun W h=>Df k2 t2 x2 W (by omega) (by omega) h);have I3:=hid (fun W h=>Df k3 t3 x3 W (by omega) (by omega) h);obtain ⟨b1,h1⟩:∃ b,b=Tm.is k1 t1 x1:=⟨_,rfl⟩;obtain ⟨b2,h2⟩:∃ b,b=Tm.is k2 t2 x2:=⟨_,rfl⟩;obtain ⟨b3,h3⟩:∃ b,b=Tm.is k3 t3 x3:=⟨_,rfl⟩;rw [←h1,←h2,←h3] at HF;rw [←h1] at I1;rw [←h2] at I2;rw [←h3] at I3;clear h1 h2 h3 hV;subst hk2;rcases hk with rfl | rfl;all_goals
  cases b1
  · go_enter Tryz.func126,Tryz.ntmps126
    go_wp2_with (show wpList _ _ _ _ _ (aM w k1 t1 x1 k2 t2 x2 k3 t3 x3);obtain ⟨w1,hw1⟩:∃ w1,w1=aM w k1 t1 x1 k2 t2 x2 k3 t3 x3:=⟨_,rfl⟩;rw [←hw1] at HB HV HU ⊢;clear hw1;have c0:=HU.out.cell (i:=0) rfl;have c3:=HU.out.cell (i:=3) rfl;have c1:=HU.out.cell (i:=1) rfl;have c2:=HU.out.cell (i:=2) rfl)
    refine (I1.out _ HV.out).mono ?_
    rintro e w2 ⟨rfl,hb2⟩
    have HB2:=hid (aA HB.out hb2)
    go_wp2
    go_ret
    exact ⟨by rw [HF.out];rfl,HB2.out⟩
  · cases b2
    · go_enter Tryz.func126,Tryz.ntmps126
      go_wp2_with (show wpList _ _ _ _ _ (aM w k1 t1 x1 k2 t2 x2 k3 t3 x3);obtain ⟨w1,hw1⟩:∃ w1,w1=aM w k1 t1 x1 k2 t2 x2 k3 t3 x3:=⟨_,rfl⟩;rw [←hw1] at HB HV HU ⊢;clear hw1;have c0:=HU.out.cell (i:=0) rfl;have c3:=HU.out.cell (i:=3) rfl;have c1:=HU.out.cell (i:=1) rfl;have c2:=HU.out.cell (i:=2) rfl)
      refine (I1.out _ HV.out).mono ?_
      rintro e w2 ⟨rfl,hb2⟩
      have HB2:=hid (aA HB.out hb2)
      have dI:=hid (HV.out.keep hb2)
      have aY:=hid (HU.out.keep hb2)
      clear hb2
      have c3:=aY.out.cell (i:=3) rfl;have c4:=aY.out.cell (i:=4) rfl;have c5:=aY.out.cell (i:=5) rfl
      go_wp2_with fail
      refine (I2.out _ dI.out).mono ?_
      rintro e w3 ⟨rfl,hb3⟩
      have HB3:=hid (aA HB2.out hb3)
      go_wp2
      go_ret
      exact ⟨by rw [HF.out];rfl,HB3.out⟩
    · go_enter Tryz.func126,Tryz.ntmps126
      go_wp2_with (show wpList _ _ _ _ _ (aM w k1 t1 x1 k2 t2 x2 k3 t3 x3);obtain ⟨w1,hw1⟩:∃ w1,w1=aM w k1 t1 x1 k2 t2 x2 k3 t3 x3:=⟨_,rfl⟩;rw [←hw1] at HB HV HU ⊢;clear hw1;have c0:=HU.out.cell (i:=0) rfl;have c3:=HU.out.cell (i:=3) rfl;have c1:=HU.out.cell (i:=1) rfl;have c2:=HU.out.cell (i:=2) rfl)
      refine (I1.out _ HV.out).mono ?_
      rintro e w2 ⟨rfl,hb2⟩
      have HB2:=hid (aA HB.out hb2)
      have dI:=hid (HV.out.keep hb2)
      have aY:=hid (HU.out.keep hb2)
      clear hb2
      have c3:=aY.out.cell (i:=3) rfl;have c4:=aY.out.cell (i:=4) rfl;have c5:=aY.out.cell (i:=5) rfl
      go_wp2_with fail
      refine (I2.out _ dI.out).mono ?_
      rintro e w3 ⟨rfl,hb3⟩
      have HB3:=hid (aA HB2.out hb3)
      have jT:=hid (dI.out.keep hb3)
      have bP:=hid (aY.out.keep hb3)
      clear hb3
      have c6:=bP.out.cell (i:=6) rfl;have c7:=bP.out.cell (i:=7) rfl;have c8:=bP.out.cell (i:=8) rfl
      go_wp2_with fail
      refine (I3.out _ jT.out).mono ?_
      rintro e w4 ⟨rfl,hb4⟩
      have aI:=hid (aA HB3.out hb4)
      go_wp2
      go_ret
      exact ⟨by rw [HF.out];rfl,aI.out⟩
theorem J4 (k1:Int) (t1 x1:List UInt8) (k2:Int) (t2 x2:List UInt8) (k3:Int) (t3 x3:List UInt8) (w:World) (ht1:t1.length≤1000000000) (hx1:x1.length≤1000000000) (ht2:t2.length≤1000000000) (hx2:x2.length≤1000000000) (ht3:t3.length≤1000000000) (hx3:x3.length≤1000000000) (hV:Vars w) :
  Calls Tryz.prog 126 #[dQ k1 t1 x1 k2 t2 x2 k3 t3 x3] w fun e w'=>e=.returned (.bool (cZ k1 t1 x1 k2 t2 x2 k3 t3 x3))∧Below w.heap.size w w':=by by_cases hk:k1=1∨k1=2;{by_cases hk2:k2=1;{exact Uk k1 t1 x1 k2 t2 x2 k3 t3 x3 w ht1 hx1 ht2 hx2 ht3 hx3 hV hk hk2};{exact Uj k1 t1 x1 k2 t2 x2 k3 t3 x3 w ht1 hx1 ht2 hx2 ht3 hx3 hV hk hk2}};{exact Ui k1 t1 x1 k2 t2 x2 k3 t3 x3 w ht1 hx1 ht2 hx2 ht3 hx3 hV (by omega)}
end Go.Proofs.YtjaebndajhppgaaGreatDoor
namespace Go.Proofs.YtjaebndajhppgaaGreatDoor
open Go.ChangeShapes Go.WideShapes Go.ChangeAt Go.RowKit
abbrev bg (q:Nat):Value:=.pointer (some ⟨q,0,none⟩)
def But (q:Nat) (w w':World):Prop:=w.grownBy w' (some q)
theorem But.refl (q:Nat) (w:World):But q w w:=⟨rfl,rfl,rfl,Nat.le_refl _,fun _ _ _=>rfl⟩
theorem But.trans {q:Nat} {a b c:World} (h:But q a b) (k:But q b c):But q a c:=
 ⟨k.os.trans h.os,k.tape.trans h.tape,k.output.trans h.output,Nat.le_trans h.size k.size,fun i hi hn=>(k.block i (Nat.lt_of_lt_of_le hi h.size) hn).trans (h.block i hi hn)⟩
theorem But.below {q:Nat} {a b:World} (h:Below a.heap.size a b):But q a b:=⟨h.os,h.tape,h.output,h.size,fun i hi _=>h.block i hi⟩
theorem But.set (q:Nat) (w:World) (i:Nat) (v:Value):But q w (w.setCell ⟨q,i,none⟩ v):=
 ⟨rfl,rfl,rfl,by simp,fun k hk hn=>Below.heap_setCell _ _ _ _ (by simpa using fun e=>hn (by rw [e]))⟩
theorem But.drawn (q:Nat) (w:World) (n:Nat):But q w (w.drewN n):=⟨rfl,rfl,rfl,Nat.le_refl _,fun _ _ _=>rfl⟩
theorem But.into {q:Nat} {a b c:World} (hb:Below a.heap.size a b) (h:But q b c) (hq:a.heap.size≤q):Below a.heap.size a c:=
 hb.grown h hb.size (fun k hk=>by cases hk;exact hq)
theorem But.blk {q k:Nat} {w w':World} {A:List Value} {t:TypeId} (h:aj w k A t) (hb:But q w w') (hk:k≠q):aj w' k A t:=by unfold aj;rw [hb.block k h.lt (by simpa using hk)];exact h
def cK (c:UInt8):Bool:=c==32 || c==9
theorem Ul {c:UInt8} (h:c.toNat=32∨c.toNat=9):cK c=true:=by unfold cK;rcases h with h | h;{rw [UInt8.toNat_inj.1 (show c.toNat=(32:UInt8).toNat from h)];rfl};{rw [UInt8.toNat_inj.1 (show c.toNat=(9:UInt8).toNat from h)];rfl}
theorem Um {c:UInt8} (h:c.toNat≠32∧c.toNat≠9):cK c=false:=by unfold cK;rw [Bool.or_eq_false_iff,beq_eq_false_iff_ne,beq_eq_false_iff_ne];exact ⟨fun e=>h.1 (by rw [e];rfl),fun e=>h.2 (by rw [e];rfl)⟩
theorem Dh (p:UInt8→Bool):∀ (s:List UInt8) (n:Nat),n≤s.length→(s.take n).all p=true→(∀ c,s[n]?=some c→p c=false)→s.takeWhile p=s.take n∧s.dropWhile p=s.drop n
 | [],0,_,_,_=>⟨rfl,rfl⟩
 | [],n+1,h,_,_=>by simp at h
 | c::s,0,_,_,h=>by have:=h c rfl;simp [this]
 | c::s,n+1,hn,ha,h=>by
  rw [List.take_succ_cons,List.all_cons,Bool.and_eq_true] at ha
  have ih:=Dh p s n (by simpa using hn) ha.2 (fun d hd=>h d (by simpa using hd))
  simp [ha.1,ih.1,ih.2]
theorem Uo (i:Nat) (h:i<8):16 ^ i≤268435456:=by rcases (show i=0∨i=1∨i=2∨i=3∨i=4∨i=5∨i=6∨i=7 by omega) with rfl | rfl | rfl | rfl | rfl | rfl | rfl | rfl <;> decide
theorem Uq (k:Nat) (s:List UInt8) (i x:Nat) (c:UInt8) (h:s[i]?=some c):Tm.dW (k+1) (s.drop i) x=match Tm.jc c with
  | none=>none
  | some d=>Tm.dW k (s.drop (i+1)) (x*16+d):=by obtain ⟨hl,e⟩:=List.getElem?_eq_some_iff.1 h;rw [List.drop_eq_getElem_cons hl,e];rfl
theorem Di:∀ (n:Nat) (s:List UInt8) (x:Nat),s.length<n→Tm.dW n s x=none
 | 0,s,x,h=>by omega
 | n+1,[],x,h=>rfl
 | n+1,c::t,x,h=>by
  unfold Tm.dW
  cases Tm.jc c with
  | none=>rfl
  | some d=>exact Di n t _ (by simpa using h)
theorem Ur {c:UInt8} (h:48≤c.toNat∧c.toNat≤57):Tm.jc c=some (c.toNat-48):=by unfold Tm.jc;rw [if_pos h]
theorem Us {c:UInt8} (h:97≤c.toNat∧c.toNat≤102):Tm.jc c=some (c.toNat-87):=by unfold Tm.jc;rw [if_neg (by omega),if_pos h]
theorem Ut {c:UInt8} (h:65≤c.toNat∧c.toNat≤70):Tm.jc c=some (c.toNat-55):=by unfold Tm.jc;rw [if_neg (by omega),if_neg (by omega),if_pos h]
theorem Uu {c:UInt8} (h:c.toNat<48∨(57<c.toNat∧c.toNat<65)∨(70<c.toNat∧c.toNat<97)∨102<c.toNat):Tm.jc c=none:=by unfold Tm.jc;rw [if_neg (by omega),if_neg (by omega),if_neg (by omega)]
namespace Tm
theorem zh (e:UInt8) (lit:Bool):∀ (f g:Nat) (s:T),s.length<f→s.length<g→up f e lit s=up g e lit s
 | 0,g,s,h,_=>by omega
 | f+1,0,s,_,h=>by omega
 | f+1,g+1,[],_,_=>rfl
 | f+1,g+1,c::t,hf,hg=>by
  unfold up
  simp only [List.length_cons] at hf hg
  rw [zh e lit f g t (by omega) (by omega)]
  cases h:jd lit t with
  | none=>rfl
  | some p=>
   obtain ⟨x,n⟩:=p
   simp only
   rw [zh e lit f g (t.drop n) (by rw [List.length_drop];omega) (by rw [List.length_drop];omega)]
def bZ (e:UInt8) (lit:Bool) (s:T):Option (T×T):=up (s.length+1) e lit s
theorem J5 (e:UInt8) (lit:Bool) (c:UInt8) (t:T):bZ e lit (c::t)=if c=e then some ([],t) else if c=92 then (match jd lit t with
  | none=>none
  | some (x,n)=>(bZ e lit (t.drop n)).map (fun r=>(x++r.1,r.2)))
  else if c=10∨c=13 then none else (bZ e lit t).map (fun r=>(c::r.1,r.2)):=by
 show up (t.length+1+1) e lit (c::t)=_;rw [up];unfold bZ;cases h:jd lit t with
 | none=>rfl
 | some p=>obtain ⟨x,n⟩:=p;simp only;rw [zh e lit (t.length+1) ((t.drop n).length+1) (t.drop n) (by rw [List.length_drop];omega) (by omega)]
theorem J6 (x:Nat):(iU x).length≤4:=by have:=encode_size_le (x:Int);unfold iU;simpa using this
theorem J7 {n:Nat} {s:T} {x:Nat} (h:cB n s=some x):n≤s.length:=by rcases Nat.lt_or_ge s.length n with hl | hl;{unfold cB at h;rw [Di n s 0 hl] at h;cases h};{exact hl}
theorem J8 {lit:Bool} {s x:T} {n:Nat} (h:jd lit s=some (x,n)):1≤n∧n≤s.length∧x.length≤4:=by
 cases s with
 | nil=>cases h
 | cons c t=>
  have e0:jd lit (c::t)=if c=117 then (cB 4 t).map (fun x=>(iU x,5)) else if c=85 then (cB 8 t).map (fun x=>(iU x,9)) else if lit then (letter c).map (fun d=>([d],1)) else none:=rfl
  rw [e0] at h;split at h
  · cases hr:cB 4 t with
    | none=>rw [hr] at h;cases h
    | some y=>rw [hr] at h;simp only [Option.map_some,Option.some.injEq,Prod.mk.injEq] at h;have:=J7 hr;have:=J6 y;obtain ⟨rfl,rfl⟩:=h;simp only [List.length_cons];omega
  · split at h
    · cases hr:cB 8 t with
      | none=>rw [hr] at h;cases h
      | some y=>rw [hr] at h;simp only [Option.map_some,Option.some.injEq,Prod.mk.injEq] at h;have:=J7 hr;have:=J6 y;obtain ⟨rfl,rfl⟩:=h;simp only [List.length_cons];omega
    · split at h
      · cases hr:letter c with
        | none=>rw [hr] at h;cases h
        | some y=>rw [hr] at h;simp only [Option.map_some,Option.some.injEq,Prod.mk.injEq] at h;obtain ⟨rfl,rfl⟩:=h;simp
      {cases h}
end Tm
def Uv (r:Option (List UInt8×List UInt8)):List UInt8:=match r with
 | none=>[]
 | some p=>p.1
def Uw (r:Option (List UInt8×List UInt8)):List UInt8:=match r with
 | none=>[]
 | some p=>p.2
open Go.ChangeShapes Go.WideShapes Go.ChangeAt Go.RowKit
namespace Tm
def eB (r:T):Option (Nat×T×T×T):=match bZ 34 true r with
 | none=>none
 | some (t,v)=>if v.headD 0=64 then some (4,t,(v.tail.takeWhile eu).map lower,v.tail.dropWhile eu)
  else if v.take 3=[94,94,60] then (bZ 62 false (v.drop 3)).map (fun q=>(5,t,q.1,q.2))
  else some (3,t,[],v)
theorem nP {e:UInt8} {lit:Bool}:∀ (n:Nat) {s t v:T},s.length≤n→bZ e lit s=some (t,v)→t.length≤4*s.length∧v.length<s.length
 | _,[],t,v,_,h=>by cases h
 | 0,c::s,t,v,hn,_=>by simp at hn
 | n+1,c::s,t,v,hn,h=>by
  rw [J5] at h
  simp only [List.length_cons] at hn ⊢
  split at h
  · simp only [Option.some.injEq,Prod.mk.injEq] at h
    obtain ⟨rfl,rfl⟩:=h
    simp
  · split at h
    · cases he:jd lit s with
      | none=>rw [he] at h;cases h
      | some p=>
       obtain ⟨x,k⟩:=p
       rw [he] at h
       obtain ⟨h1,h2,h3⟩:=J8 he
       simp only at h
       cases hu:bZ e lit (s.drop k) with
       | none=>rw [hu] at h;cases h
       | some z=>
        obtain ⟨t',v'⟩:=z
        rw [hu] at h
        simp only [Option.map_some,Option.some.injEq,Prod.mk.injEq] at h
        obtain ⟨rfl,rfl⟩:=h
        have:=nP n (s:=s.drop k) (by rw [List.length_drop];omega) hu
        rw [List.length_drop] at this
        rw [List.length_append];omega
    · split at h
      · cases h
      · cases hu:bZ e lit s with
        | none=>rw [hu] at h;cases h
        | some z=>
         obtain ⟨t',v'⟩:=z
         rw [hu] at h
         simp only [Option.map_some,Option.some.injEq,Prod.mk.injEq] at h
         obtain ⟨rfl,rfl⟩:=h
         have:=nP n (by omega) hu
         simp only [List.length_cons];omega
end Tm
theorem Dj (p:UInt8→Bool) (l:List UInt8):(l.takeWhile p).length≤l.length:=by have:=congrArg List.length (List.takeWhile_append_dropWhile (p:=p) (l:=l));rw [List.length_append] at this;omega
theorem But.fresh {q b:Nat} {w X:World} (h:But q w X) (hb:w.heap.size≤b) (i:Nat) (v:Value):But q w (X.setCell ⟨b,i,none⟩ v):=
 ⟨h.os,h.tape,h.output,by have:=h.size;simpa using this,fun k hk hn=>by rw [Below.heap_setCell _ _ _ _ (by show k≠b;omega)];exact h.block k hk hn⟩
open Go.ChangeShapes Go.WideShapes Go.ChangeAt Go.RowKit
namespace Tm
theorem zk (r:T):dw (60::r)=(bZ 62 false r).map (fun q:T×T=>((1:Nat),q.1,([]:T),q.2)):=rfl
theorem Dk (r:T):dw (95::58::r)=some (2,r.takeWhile dD,[],r.dropWhile dD):=rfl
theorem sV (r:T):dw (34::r)=eB r:=by
 unfold eB;show (match up (r.length+1) 34 true r with
   | none=>none
   | some (t,v)=>if v.headD 0=64 then some (4,t,(v.tail.takeWhile eu).map lower,v.tail.dropWhile eu)
    else if v.take 3=[94,94,60] then (up (v.length+1) 62 false (v.drop 3)).map (fun q:T×T=>((5:Nat),t,q.1,q.2))
    else some (3,t,[],v))=_
 unfold bZ;cases up (r.length+1) 34 true r with
 | none=>rfl
 | some p=>obtain ⟨t,v⟩:=p;simp only;rw [zh 62 false (v.length+1) ((v.drop 3).length+1) (v.drop 3) (by rw [List.length_drop];omega) (by omega)]
theorem J9 {s:T} (h1:s.take 1≠[60]) (h2:s.take 2≠[95,58]) (h3:s.take 1≠[34]):dw s=none:=by
 cases s with
 | nil=>rfl
 | cons c r=>
  have a1:c≠60:=fun e=>h1 (by rw [e];rfl);have a3:c≠34:=fun e=>h3 (by rw [e];rfl);show (if c=60 then _ else if c=95 then _ else if c=34 then _ else none)=none;rw [if_neg a1];by_cases a2:c=95
  · rw [if_pos a2,if_neg];intro e;cases r with
    | nil=>exact absurd e (by decide)
    | cons d r=>simp only [List.headD_cons] at e;exact h2 (by rw [a2,e];rfl)
  {rw [if_neg a2,if_neg a3]}
theorem Ux {s:T} {k:Nat} {t x v:T} (h:eB s=some (k,t,x,v)):t.length≤4*s.length∧x.length≤4*s.length∧v.length≤s.length:=by
 unfold eB at h;cases hu:bZ 34 true s with
 | none=>rw [hu] at h;cases h
 | some p=>
  obtain ⟨t',v'⟩:=p;rw [hu] at h;have h1:=nP s.length (Nat.le_refl _) hu;simp only at h;split at h;{simp only [Option.some.injEq,Prod.mk.injEq] at h;obtain ⟨rfl,rfl,rfl,rfl⟩:=h;have h2:=Dj eu v'.tail;have h3:=congrArg List.length (List.takeWhile_append_dropWhile (p:=eu) (l:=v'.tail));rw [List.length_append] at h3;rw [List.length_tail] at h2 h3;rw [List.length_map];omega}
  · split at h
    · cases hv:bZ 62 false (v'.drop 3) with
      | none=>rw [hv] at h;cases h
      | some z=>obtain ⟨a,b⟩:=z;rw [hv] at h;simp only [Option.map_some,Option.some.injEq,Prod.mk.injEq] at h;obtain ⟨rfl,rfl,rfl,rfl⟩:=h;have h2:=nP _ (Nat.le_refl _) hv;rw [List.length_drop] at h2;omega
    {simp only [Option.some.injEq,Prod.mk.injEq] at h;obtain ⟨rfl,rfl,rfl,rfl⟩:=h;simp;omega}
end Tm
theorem zm (p:UInt8→Bool) (l:List UInt8):(l.dropWhile p).length≤l.length:=by have:=congrArg List.length (List.takeWhile_append_dropWhile (p:=p) (l:=l));rw [List.length_append] at this;omega
end Go.Proofs.YtjaebndajhppgaaGreatDoor
namespace Go.Proofs.YtjaebndajhppgaaGreatDoor.Tm
open Go Go.RowKit
abbrev T3:=Nat×T×T
def rt (s:T):Option (T3×T):=match dw s with
 | none=>none
 | some (k,t,x,v)=>some ((k,t,x),v.dropWhile cK)
def bX (a:T3):Bool:=is (a.1:Int) a.2.1 a.2.2
def point (s:T):Option T:=match s with
 | []=>none
 | c::r=>if c=46 then some (r.dropWhile cK) else none
def kY (s:T):Option ((T3×T3×T3)×T):=match rt s with
 | none=>none
 | some (a,r)=>match rt r with
  | none=>none
  | some (b,u)=>match rt u with
   | none=>none
   | some (c,v)=>match point v with
    | none=>none
    | some z=>some ((a,b,c),z)
def iH (s:T):Bool:=decide (s=[]∨s.head?=some 35)
def aN (p:T3×T3×T3):Bool:=decide (p.1.1=1∨p.1.1=2) && decide (p.2.1.1=1) && (bX p.1 && bX p.2.1 && bX p.2.2)
def one (s:T):Option (Option (T3×T3×T3)):=
 if Lib.validD s=false then none
 else if iH (s.dropWhile cK)=true then some none
 else match kY (s.dropWhile cK) with
  | none=>none
  | some (p,r)=>if iH r=true∧aN p=true then some (some p) else none
theorem Uy {e:UInt8} {lit:Bool} {s t v:T} (h:bZ e lit s=some (t,v)):t.length≤4*s.length∧v.length<s.length:=nP s.length (Nat.le_refl _) h
theorem Uz {s:T} {k:Nat} {t x v:T} (h:dw s=some (k,t,x,v)):t.length≤4*s.length∧x.length≤4*s.length∧v.length≤s.length∧1≤k∧k≤5:=by
 by_cases h1:s.take 1=[60]
 · obtain ⟨u,rfl⟩:∃ u,s=60::u:=⟨s.drop 1,by have:=List.take_append_drop 1 s;rw [h1] at this;exact this.symm⟩;rw [zk] at h;cases hu:bZ 62 false u with
   | none=>rw [hu] at h;cases h
   | some p=>obtain ⟨a,b⟩:=p;rw [hu] at h;simp only [Option.map_some,Option.some.injEq,Prod.mk.injEq] at h;obtain ⟨rfl,rfl,rfl,rfl⟩:=h;have:=Uy hu;simp only [List.length_cons,List.length_nil];omega
 · by_cases h2:s.take 2=[95,58];{obtain ⟨u,rfl⟩:∃ u,s=95::58::u:=⟨s.drop 2,by have:=List.take_append_drop 2 s;rw [h2] at this;exact this.symm⟩;rw [Dk] at h;simp only [Option.some.injEq,Prod.mk.injEq] at h;obtain ⟨rfl,rfl,rfl,rfl⟩:=h;have a1:=Dj dD u;have a2:=zm dD u;simp only [List.length_cons,List.length_nil];omega}
   · by_cases h3:s.take 1=[34]
     · obtain ⟨u,rfl⟩:∃ u,s=34::u:=⟨s.drop 1,by have:=List.take_append_drop 1 s;rw [h3] at this;exact this.symm⟩;rw [sV] at h;have a1:=Ux h;have a2:1≤k∧k≤5:=by
        unfold eB at h;cases hu:bZ 34 true u with
        | none=>rw [hu] at h;cases h
        | some p=>
         obtain ⟨t',v'⟩:=p;rw [hu] at h;simp only at h;split at h;{simp only [Option.some.injEq,Prod.mk.injEq] at h;omega}
         · split at h
           · cases hv:bZ 62 false (v'.drop 3) with
             | none=>rw [hv] at h;cases h
             | some z=>rw [hv] at h;simp only [Option.map_some,Option.some.injEq,Prod.mk.injEq] at h;omega
           {simp only [Option.some.injEq,Prod.mk.injEq] at h;omega}
       simp only [List.length_cons];omega
     {rw [J9 h1 h2 h3] at h;cases h}
theorem Dl {s:T} {a:T3} {r:T} (h:rt s=some (a,r)):a.2.1.length≤4*s.length∧a.2.2.length≤4*s.length∧r.length≤s.length∧1≤a.1∧a.1≤5:=by
 unfold rt at h;cases hr:dw s with
 | none=>rw [hr] at h;cases h
 | some p=>obtain ⟨k,t,x,v⟩:=p;rw [hr] at h;simp only [Option.some.injEq,Prod.mk.injEq] at h;obtain ⟨rfl,rfl⟩:=h;have h1:=Uz hr;have h2:=zm cK v;simp only;omega
end Go.Proofs.YtjaebndajhppgaaGreatDoor.Tm
