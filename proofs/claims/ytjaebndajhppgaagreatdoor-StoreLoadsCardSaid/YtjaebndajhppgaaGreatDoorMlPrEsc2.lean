/-PrEsc2-/
import Derived.Test.YtjaebndajhppgaaGreatDoorMlHd0
import Derived.Test.YtjaebndajhppgaaGreatDoorMlGHx
set_option linter.unusedVariables false
set_option linter.unusedSimpArgs false
set_option maxRecDepth 100000
set_option maxHeartbeats 1000000
namespace Go.Proofs.YtjaebndajhppgaaGreatDoor
open Go.Proofs.Tryz
open Go.ChangeShapes Go.WideShapes Go.ChangeAt Go.RowKit
theorem NA (q n:Nat) (l:List UInt8) (i:Nat) (w:World) (hE:dz w) (hn:n=4∨n=8) (hr:Pr w q l i) (hl:l.length≤100000000) (hi:i≤l.length) :
  Calls prog 251 #[bB q,.int .i64 (n:Nat)] w fun x w'=>x=.returned (yC (Tm.cO n (l.drop i)))∧(∃ j,j≤l.length∧(Tm.cO n (l.drop i)≠none→j=i+n)∧Pr w' q l j)∧But q w w':=by
 by_cases hs:l.length<i+n;{exact aag q n l i w hE hn hr hl hi hs}
 · cases hx:Tm.eH n (l.drop i) 0 with
   | none=>exact aah q n l i w hE hn hr hl hi hs hx
   | some x=>exact aaj q n l i w hE hn hr hl hi x hs hx
def iN (lit:Bool) (s:List UInt8):Option (Nat×Nat):=match s with
 | []=>none
 | c::t=>if c=117 then (Tm.cO 4 t).map (fun x=>(x,5)) else if c=85 then (Tm.cO 8 t).map (fun x=>(x,9)) else if lit then (Tm.letter c).map (fun d=>(d.toNat,1)) else none
theorem NC {c d:UInt8} (h:Tm.letter c=some d):d.toNat<128:=by unfold Tm.letter at h;repeat (first | (split at h;· (simp only [Option.some.injEq] at h;subst h;decide)) | cases h)
theorem aak:∀ k:Fin 128,Tm.gI k.val=[UInt8.ofNat k.val]:=aH
theorem FB (lit:Bool) (s:List UInt8):Tm.iD lit s=(iN lit s).map fun p=>(Tm.gI p.1,p.2):=by
 cases s with
 | nil=>rfl
 | cons c t=>
  have e0:Tm.iD lit (c::t)=if c=117 then (Tm.cO 4 t).map (fun x=>(Tm.gI x,5)) else if c=85 then (Tm.cO 8 t).map (fun x=>(Tm.gI x,9)) else if lit then (Tm.letter c).map (fun d=>([d],1)) else none:=rfl
  rw [e0];unfold iN;simp only;split;{rw [Option.map_map];rfl}
  · split;{rw [Option.map_map];rfl}
    · split
      · cases h:Tm.letter c with
        | none=>rfl
        | some d=>have h2:=aak ⟨d.toNat,NC h⟩;simp only at h2;simp only [Option.map_some];rw [h2,UInt8.ofNat_toNat]
      {rfl}
theorem nO (q:Nat) (l p:List UInt8) (i:Nat) (w:World) (hr:Pr w q l i) (hl:l.length≤100000000) (hi:i≤l.length) (hp:p.length≤1000) (h:(l.drop i).take p.length=p) :
  Calls prog 174 #[bB q,str p] w fun x w'=>x=.returned (.bool true)∧Pr w' q l (i+p.length)∧But q w w':=by have:=Ns q l p i w hr hl hi hp;rw [decide_eq_true h,if_pos h] at this;exact this
theorem iW (q:Nat) (l p:List UInt8) (i:Nat) (w:World) (hr:Pr w q l i) (hl:l.length≤100000000) (hi:i≤l.length) (hp:p.length≤1000) (h:(l.drop i).take p.length≠p) :
  Calls prog 174 #[bB q,str p] w fun x w'=>x=.returned (.bool false)∧Pr w' q l i∧But q w w':=by have:=Ns q l p i w hr hl hi hp;rw [decide_eq_false h,if_neg h] at this;exact this
theorem take_one {s:List UInt8} {c:UInt8} (h:s.take 1=[c]):∃ t,s=c::t:=by
 cases s with
 | nil=>cases h
 | cons d t=>simp only [List.take_succ_cons,List.take_zero,List.cons.injEq,and_true] at h;exact ⟨t,by rw [h]⟩
def yF (q i:Nat) (l:List UInt8) (w:World) (r:Option (Nat×Nat)) (x:Ending) (w':World):Prop:=
 x=.returned (yC (r.map (·.1)))∧(∃ j,j≤l.length∧(∀ p,r=some p→j=i+p.2)∧Pr w' q l j)∧But q w w'
theorem aal (q:Nat) (lit:Bool) (l t:List UInt8) (i:Nat) (w:World) (hE:dz w) (hq:q≠4) (hr:Pr w q l i) (hl:l.length≤100000000) (hi:i≤l.length) (hd:l.drop i=117::t) :
  Calls prog 234 #[bB q,.bool lit] w (yF q i l w (iN lit (l.drop i))):=by
 obtain ⟨hjl,hget,eU⟩:=mY l i 117 t hd;have SK:=hid (nO q l [117] i w hr hl hi aH (by rw [hd];rfl));have HX:=hid fun w h1 h2=>NA q 4 l (i+1) w h1 (.inl rfl) h2 hl aj;rw [eU] at HX;have HE:=hid hE;have p9:=hid (show iN lit (l.drop i)=(Tm.cO 4 t).map (fun x=>(x,5)) by rw [hd];rfl);clear hd hget eU hr hE;cases hx:Tm.cO 4 t with
 | none=>
  rw [hx] at HX;have fO:Hid (∀ w,dz w→Pr w q l (i+1)→Calls prog 251 #[bB q,.int .i64 4] w fun x w'=>x=.returned (.tuple #[.int .i32 0,.bool false])∧(∃ j,j≤l.length∧((none:Option Nat)≠none→j=i+1+4)∧Pr w' q l j)∧But q w w'):=HX;have HF:=hid (show iN lit (l.drop i)=none by rw [p9.out,hx];rfl);clear HX p9 hx;go_enter func234,ntmps234;go_wp2_with fail
  refine SK.out.mono ?_;rintro x w2 ⟨rfl,hr2,hb2⟩;have HR2:=hid hr2;have HB2:=hid hb2;clear hr2 hb2;go_wp2_with fail
  refine (fO.out _ (HE.out.but HB2.out hq) HR2.out).mono ?_;rintro x w3 ⟨rfl,⟨j,hj,_,hr3⟩,hb3⟩;have HR3:=hid hr3;have HB3:=hid hb3;clear hr3 hb3;go_wp2;go_ret2
  exact ⟨by rw [HF.out];rfl,⟨j,hj,(fun p hp=>by rw [HF.out] at hp;cases hp),HR3.out⟩,HB2.out.trans HB3.out⟩
 | some y=>
  rw [hx] at HX;have fO:Hid (∀ w,dz w→Pr w q l (i+1)→Calls prog 251 #[bB q,.int .i64 4] w fun x w'=>x=.returned (.tuple #[.int .i32 (y:Nat),.bool true])∧(∃ j,j≤l.length∧(some y≠none→j=i+1+4)∧Pr w' q l j)∧But q w w'):=HX;have HF:=hid (show iN lit (l.drop i)=some (y,5) by rw [p9.out,hx];rfl);clear HX p9 hx;go_enter func234,ntmps234;go_wp2_with fail
  refine SK.out.mono ?_;rintro x w2 ⟨rfl,hr2,hb2⟩;have HR2:=hid hr2;have HB2:=hid hb2;clear hr2 hb2;go_wp2_with fail
  refine (fO.out _ (HE.out.but HB2.out hq) HR2.out).mono ?_;rintro x w3 ⟨rfl,⟨j,hj,hjj,hr3⟩,hb3⟩;have HR3:=hid hr3;have HB3:=hid hb3;have HJ:=hid (hjj aC);clear hr3 hb3 hjj;go_wp2;go_ret2
  exact ⟨by rw [HF.out];rfl,⟨j,hj,(fun p hp=>by rw [HF.out] at hp;cases hp;have:=HJ.out;show j=i+5;omega),HR3.out⟩,HB2.out.trans HB3.out⟩
theorem aam (q:Nat) (lit:Bool) (l t:List UInt8) (i:Nat) (w:World) (hE:dz w) (hq:q≠4) (hr:Pr w q l i) (hl:l.length≤100000000) (hi:i≤l.length) (hd:l.drop i=85::t) :
  Calls prog 234 #[bB q,.bool lit] w (yF q i l w (iN lit (l.drop i))):=by
 obtain ⟨hjl,hget,eU⟩:=mY l i 85 t hd;have SN:=hid (iW q l [117] i w hr hl hi aH (by rw [hd];simp));have SK:=hid fun w hr=>nO q l [85] i w hr hl hi aH (by rw [hd];rfl);have HX:=hid fun w h1 h2=>NA q 8 l (i+1) w h1 (.inr rfl) h2 hl aj;rw [eU] at HX;have HE:=hid hE;have p9:=hid (show iN lit (l.drop i)=(Tm.cO 8 t).map (fun x=>(x,9)) by rw [hd];rfl);clear hd hget eU hr hE;cases hx:Tm.cO 8 t with
 | none=>
  rw [hx] at HX;have fO:Hid (∀ w,dz w→Pr w q l (i+1)→Calls prog 251 #[bB q,.int .i64 8] w fun x w'=>x=.returned (.tuple #[.int .i32 0,.bool false])∧(∃ j,j≤l.length∧((none:Option Nat)≠none→j=i+1+8)∧Pr w' q l j)∧But q w w'):=HX;have HF:=hid (show iN lit (l.drop i)=none by rw [p9.out,hx];rfl);clear HX p9 hx;go_enter func234,ntmps234;go_wp2_with fail
  refine SN.out.mono ?_;rintro x w1 ⟨rfl,hr1,hb1⟩;have HR1:=hid hr1;have HB1:=hid hb1;clear hr1 hb1;go_wp2_with fail
  refine (SK.out _ HR1.out).mono ?_;rintro x w2 ⟨rfl,hr2,hb2⟩;have HR2:=hid hr2;have HB2:=hid (HB1.out.trans hb2);clear hr2 hb2;go_wp2_with fail
  refine (fO.out _ (HE.out.but HB2.out hq) HR2.out).mono ?_;rintro x w3 ⟨rfl,⟨j,hj,_,hr3⟩,hb3⟩;have HR3:=hid hr3;have HB3:=hid hb3;clear hr3 hb3;go_wp2;go_ret2
  exact ⟨by rw [HF.out];rfl,⟨j,hj,(fun p hp=>by rw [HF.out] at hp;cases hp),HR3.out⟩,HB2.out.trans HB3.out⟩
 | some y=>
  rw [hx] at HX;have fO:Hid (∀ w,dz w→Pr w q l (i+1)→Calls prog 251 #[bB q,.int .i64 8] w fun x w'=>x=.returned (.tuple #[.int .i32 (y:Nat),.bool true])∧(∃ j,j≤l.length∧(some y≠none→j=i+1+8)∧Pr w' q l j)∧But q w w'):=HX;have HF:=hid (show iN lit (l.drop i)=some (y,9) by rw [p9.out,hx];rfl);clear HX p9 hx;go_enter func234,ntmps234;go_wp2_with fail
  refine SN.out.mono ?_;rintro x w1 ⟨rfl,hr1,hb1⟩;have HR1:=hid hr1;have HB1:=hid hb1;clear hr1 hb1;go_wp2_with fail
  refine (SK.out _ HR1.out).mono ?_;rintro x w2 ⟨rfl,hr2,hb2⟩;have HR2:=hid hr2;have HB2:=hid (HB1.out.trans hb2);clear hr2 hb2;go_wp2_with fail
  refine (fO.out _ (HE.out.but HB2.out hq) HR2.out).mono ?_;rintro x w3 ⟨rfl,⟨j,hj,hjj,hr3⟩,hb3⟩;have HR3:=hid hr3;have HB3:=hid hb3;have HJ:=hid (hjj aC);clear hr3 hb3 hjj;go_wp2;go_ret2
  exact ⟨by rw [HF.out];rfl,⟨j,hj,(fun p hp=>by rw [HF.out] at hp;cases hp;have:=HJ.out;show j=i+9;omega),HR3.out⟩,HB2.out.trans HB3.out⟩
theorem ND (q:Nat) (lit:Bool) (l:List UInt8) (i:Nat) (w:World) (hr:Pr w q l i) (hl:l.length≤100000000) (hi:i≤l.length) (h1:(l.drop i).take 1≠[117]) (h2:(l.drop i).take 1≠[85]) (hno:lit=false∨l.drop i=[]) :
  Calls prog 234 #[bB q,.bool lit] w (yF q i l w (iN lit (l.drop i))):=by
 have SN:=hid (iW q l [117] i w hr hl hi aH h1);have SK:=hid fun w hr=>iW q l [85] i w hr hl hi aH h2;have HF:=hid (show iN lit (l.drop i)=none by
  rcases hno with rfl | hno
  · cases hd:l.drop i with
    | nil=>rfl
    | cons c t=>rw [hd] at h1 h2;have g1:c≠117:=fun e=>h1 (by rw [e];rfl);have g2:c≠85:=fun e=>h2 (by rw [e];rfl);unfold iN;simp only;rw [if_neg g1,if_neg g2];rfl
  · rw [hno];rfl)
 have hE:lit=false∨(lit=true∧i=l.length):=by rcases hno with h | h;{exact .inl h};{have:=BI l i h;cases lit;{exact .inl rfl};{exact .inr ⟨rfl,aj⟩}}
 clear hr h1 h2 hno;rcases hE with rfl | ⟨rfl,rfl⟩;all_goals
  go_enter func234,ntmps234
  go_wp2_with fail
  refine SN.out.mono ?_
  rintro x w1 ⟨rfl,hr1,hb1⟩
  have HR1:=hid hr1
  have HB1:=hid hb1
  clear hr1 hb1
  go_wp2_with fail
  refine (SK.out _ HR1.out).mono ?_
  rintro x w2 ⟨rfl,hr2,hb2⟩
  have HR2:=hid hr2
  have HB2:=hid (HB1.out.trans hb2)
  obtain ⟨c0,c1,f0,f1⟩:=HR2.out.cells
  clear hr2 hb2
  go_wp2
  go_quiet (fail)
  go_wp2
  go_ret2
  exact ⟨by rw [HF.out];rfl,⟨_,hi,(fun p hp=>by rw [HF.out] at hp;cases hp),HR2.out⟩,HB2.out.trans (But.drawn q w2 _)⟩
theorem aan (q:Nat) (l t:List UInt8) (c:UInt8) (i:Nat) (w:World) (hr:Pr w q l i) (hl:l.length≤100000000) (hi:i≤l.length) (hd:l.drop i=c::t) (g1:c≠117) (g2:c≠85) :
  Calls prog 234 #[bB q,.bool true] w (yF q i l w (iN true (l.drop i))):=by
 obtain ⟨hjl,hget,eU⟩:=mY l i c t hd;have SN:=hid (iW q l [117] i w hr hl hi aH (by rw [hd];simpa using g1));have SK:=hid fun w hr=>iW q l [85] i w hr hl hi aH (by rw [hd];simpa using g2);have HF:=hid (show iN true (l.drop i)=(Tm.letter c).map (fun d=>(d.toNat,1)) by rw [hd];unfold iN;simp only;rw [if_neg g1,if_neg g2];simp);have PS:=hid fun w=>Z7 c w;have hcc:=fun q=>eX l i c hget q;have sQ:(i:Int)<(l.length:Int):=aj;have hne:((i:Int)==(l.length:Int))=false:=beq_eq_false_iff_ne.2 aj;clear hr hd g1 g2 hget eU;cases hx:Tm.letter c;all_goals
  rw [hx] at PS HF
  unfold Nv at PS
  simp only at PS
  have HG:=hid HF.out
  clear HF hx
  go_enter func234,ntmps234
  go_wp2_with fail
  refine SN.out.mono ?_
  rintro x w1 ⟨rfl,hr1,hb1⟩
  have HR1:=hid hr1
  have HB1:=hid hb1
  clear hr1 hb1
  go_wp2_with fail
  refine (SK.out _ HR1.out).mono ?_
  rintro x w2 ⟨rfl,hr2,hb2⟩
  have HR2:=hid hr2
  have HB2:=hid (HB1.out.trans hb2)
  obtain ⟨c0,c1,f0,f1⟩:=HR2.out.cells
  clear hr2 hb2
  go_wp2
  go_quiet (fail)
  go_wp2
  go_quiet ((go_at_call 252;exact oU fun W hW=>PS.out W))
  go_wp2
  go_ret2
  refine ⟨by rw [HG.out];rfl,⟨i+1,hjl,(fun p hp=>by rw [HG.out] at hp;cases hp <;> rfl),Pr.to (w:=w2) HR2.out (i+1)⟩,(HB2.out.trans (But.drawn q w2 _)).trans ((But.set q _ 1 _).trans (But.drawn q _ _))⟩
theorem aao (q:Nat) (lit:Bool) (l:List UInt8) (i:Nat) (w:World) (hE:dz w) (hq:q≠4) (hr:Pr w q l i) (hl:l.length≤100000000) (hi:i≤l.length) :
  Calls prog 234 #[bB q,.bool lit] w (yF q i l w (iN lit (l.drop i))):=by
 by_cases h1:(l.drop i).take 1=[117];{obtain ⟨t,hd⟩:=take_one h1;exact aal q lit l t i w hE hq hr hl hi hd}
 · by_cases h2:(l.drop i).take 1=[85];{obtain ⟨t,hd⟩:=take_one h2;exact aam q lit l t i w hE hq hr hl hi hd}
   · cases lit;{exact ND q false l i w hr hl hi h1 h2 (.inl rfl)}
     · cases hd:l.drop i with
       | nil=>rw [←hd];exact ND q true l i w hr hl hi h1 h2 (.inr hd)
       | cons c t=>rw [←hd];exact aan q l t c i w hr hl hi hd (fun e=>h1 (by rw [hd,e];rfl)) (fun e=>h2 (by rw [hd,e];rfl))
end Go.Proofs.YtjaebndajhppgaaGreatDoor
