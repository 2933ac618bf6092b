/-GPr1-/
import Derived.Test.YtockbaekcbeenaaGreatDoorMkHd1
import Derived.Test.YtockbaekcbeenaaGreatDoorMkGLn1
import Derived.Shelf.Abstract
set_option linter.unusedVariables false
set_option linter.unusedSimpArgs false
set_option maxRecDepth 100000
set_option maxHeartbeats 1000000
namespace Go.Proofs.YtockbaekcbeenaaGreatDoor
open Go.Proofs.Tryz
open Go.ChangeShapes Go.WideShapes Go.ChangeAt Go.RowKit
def Pr (w:World) (q:Nat) (l:List UInt8) (i:Nat):Prop:=aB w q [aA l,.int .i64 i] 187
theorem Pr.cells {w:World} {q:Nat} {l:List UInt8} {i:Nat} (h:Pr w q l i):w.cell? ⟨q,0,none⟩=some (aA l)∧w.cell? ⟨q,1,none⟩=some (.int .i64 i)∧w.frozen? ⟨q,0,none⟩=false∧w.frozen? ⟨q,1,none⟩=false:=
 ⟨aB.cell h rfl,aB.cell h rfl,aB.free h 0,aB.free h 1⟩
theorem Pr.keep {w w':World} {q:Nat} {l:List UInt8} {i:Nat} (h:Pr w q l i) (hb:Below w.heap.size w w'):Pr w' q l i:=aB.keep h hb
theorem Pr.to {w:World} {q:Nat} {l:List UInt8} {i:Nat} (h:Pr w q l i) (j:Nat):Pr (w.setCell ⟨q,1,none⟩ (.int .i64 j)) q l j:=aB.set h 1 _
theorem adw (s p:List UInt8) (W:World) (h1:s.length≤9223372036854775807) (h2:p.length≤9223372036854775807):Calls prog 159 #[aA s,aA p] W fun e W'=>e=.returned (.bool (decide (s.take p.length=p)))∧W'=W:=by
 have SH:Hid (∀ w,Calls prog 199 #[aA s,aA p] w fun e W'=>e=.returned (.bool (decide (s.take p.length=p)))∧W'=w):=by intro w;by_cases h:p.length≤s.length;{have hz:(p.length:Int)≤(s.length:Int):=ay;have ht:=V8 s p.length;have hx:((s.take p.length)==p)=decide (s.take p.length=p):=(by rw [Bool.eq_iff_iff];simp);go_enter func199,ntmps199;go_wp2;go_ret;exact ⟨aH,rfl⟩};{have hz:(s.length:Int)<(p.length:Int):=ay;have HN:=aj (show decide (s.take p.length=p)=false by rw [decide_eq_false_iff_not];intro he;have:=congrArg List.length he;rw [List.length_take] at this;omega);go_enter func199,ntmps199;go_wp2;go_ret;exact ⟨by rw [HN.out];rfl,rfl⟩}
 go_enter func159,ntmps159;go_wp2_with (go_at_call 199;refine (SH.out _).mono ?_;rintro e w' ⟨rfl,rfl⟩)
 go_ret;exact ⟨rfl,rfl⟩
theorem oQ (l:List UInt8) (i:Nat) (c:UInt8) (u:List UInt8) (h:l.drop i=c::u):i<l.length∧l[i]?=some c∧l.drop (i+1)=u:=by
 have h1:i<l.length:=by rcases Nat.lt_or_ge i l.length with k | k;{exact k};{rw [List.drop_of_length_le k] at h;cases h}
 have h2:=List.drop_eq_getElem_cons h1;rw [h] at h2;simp only [List.cons.injEq] at h2;exact ⟨h1,by rw [List.getElem?_eq_getElem h1,←h2.1],h2.2.symm⟩
theorem FU (l:List UInt8) (i:Nat) (h:l.drop i=[]):l.length≤i:=by rcases Nat.lt_or_ge i l.length with k | k;{rw [List.drop_eq_getElem_cons k] at h;cases h};{exact k}
theorem yL (q:Nat) (l:List UInt8) (i:Nat) (w:World) (hr:Pr w q l i) (hl:l.length≤100000000) (hi:i≤l.length) :
  Calls prog 98 #[bI q] w fun x w'=>x=.returned (.tuple #[])∧(∃ j,j≤l.length∧l.drop j=(l.drop i).dropWhile dU∧Pr w' q l j)∧aK q w w':=by
 have HR:=aj hr;clear hr;go_enter func98,ntmps98;go_wp2;go_loopg [] l.length (fun gk wr=>∃ j:Nat,j≤l.length∧l.length-j≤gk∧Hid (Pr wr q l j)∧Hid (aK q w wr)∧Hid ((l.drop j).dropWhile dU=(l.drop i).dropWhile dU))
 case atStart=>exact ⟨i,hi,ay,HR,aK.refl _ _,rfl⟩
 case round=>
  obtain ⟨j,hj,hg,HT,HB,HD⟩:=hrel;obtain ⟨c0,c1,f0,f1⟩:=HT.out.cells;match hd:l.drop j with
  | []=>have hjl:j=l.length:=(by have:=FU l j hd;omega);have oI:=aj hd;subst hjl;have hjb:decide ((l.length:Int)<(l.length:Int))=false:=decide_eq_false ay;clear hd;go_wp2;(go_quiet (fail));go_wp2;refine bodyPost_end (v:=.tuple #[]) aF rfl ?_;refine ⟨rfl,⟨l.length,Nat.le_refl _,?_,HT.out⟩,HB.out.trans (aK.drawn q wr _)⟩;rw [←HD.out,oI.out];rfl
  | c::u=>
   obtain ⟨hjl,hget,eZ⟩:=oQ l j c u hd;have hcc:=fun q=>nY l j c hget q;have wE:(j:Int)<(l.length:Int):=ay;have hjb:decide ((j:Int)<(l.length:Int))=true:=decide_eq_true wE;have oI:=aj hd;have wF:=aj eZ;clear hd eZ hget;by_cases h:c.toNat=32∨c.toNat=9
   · have HD2:=aj (show (l.drop (j+1)).dropWhile dU=(l.drop i).dropWhile dU by rw [←HD.out,oI.out,wF.out,List.dropWhile_cons,aaj h];rfl);rcases h with h | h
     · have b1:((c.toNat:Int)==32)=true:=beq_iff_eq.2 ay;clear h;go_wp2;(go_quiet (fail));go_wp2;go_roundg (l.length-(j+1))
       (case measure=>omega);case rel=>exact ⟨j+1,ay,Nat.le_refl _,aj (Pr.to (w:=wr.drewN nq) HT.out (j+1)),aj ((HB.out.trans (aK.drawn q wr nq)).trans (aK.set q _ 1 _)),HD2⟩
     · have b1:((c.toNat:Int)==32)=false:=beq_eq_false_iff_ne.2 ay;have b2:((c.toNat:Int)==9)=true:=beq_iff_eq.2 ay;clear h;go_wp2;(go_quiet (fail));go_wp2;go_roundg (l.length-(j+1))
       (case measure=>omega);case rel=>exact ⟨j+1,ay,Nat.le_refl _,aj (Pr.to (w:=wr.drewN nq) HT.out (j+1)),aj ((HB.out.trans (aK.drawn q wr nq)).trans (aK.set q _ 1 _)),HD2⟩
   {have HD2:=aj (show l.drop j=(l.drop i).dropWhile dU by rw [←HD.out,oI.out,List.dropWhile_cons,aak ay];rfl);have b1:((c.toNat:Int)==32)=false:=beq_eq_false_iff_ne.2 ay;have b2:((c.toNat:Int)==9)=false:=beq_eq_false_iff_ne.2 ay;clear h;go_wp2;(go_quiet (fail));go_wp2;refine bodyPost_end (v:=.tuple #[]) aF rfl ?_;exact ⟨rfl,⟨j,hj,HD2.out,HT.out⟩,HB.out.trans (aK.drawn q wr _)⟩}
theorem RY (q:Nat) (l p:List UInt8) (i:Nat) (w:World) (hr:Pr w q l i) (hl:l.length≤100000000) (hi:i≤l.length) (hp:p.length≤1000) :
  Calls prog 127 #[bI q,aA p] w fun x w'=>x=.returned (.bool (decide ((l.drop i).take p.length=p)))∧Pr w' q l (if (l.drop i).take p.length=p then i+p.length else i)∧aK q w w':=by have HR:=aj hr;obtain ⟨c0,c1,f0,f1⟩:=hr.cells;have hbd:=V9 l i;have HP:=aj fun w=>adw (l.drop i) p w (by rw [List.length_drop];omega) ay;have qP:(i:Int)≤(l.length:Int):=ay;clear hr;by_cases h:(l.drop i).take p.length=p;{rw [decide_eq_true h] at HP ⊢;rw [if_pos h];have hlen:i+p.length≤l.length:=(by have:=congrArg List.length h;rw [List.length_take,List.length_drop] at this;omega);clear h;go_enter func127,ntmps127;go_wp2;(go_quiet ((go_at_call 159;exact nX fun W hW=>HP.out W)));go_wp2;go_ret;exact ⟨rfl,Pr.to (w:=w.drewN nq) HR.out _,(aK.drawn q w nq).trans (aK.set q _ 1 _)⟩};{rw [decide_eq_false h] at HP ⊢;rw [if_neg h];clear h;go_enter func127,ntmps127;go_wp2;(go_quiet ((go_at_call 159;exact nX fun W hW=>HP.out W)));go_wp2;go_ret;exact ⟨rfl,HR.out,aK.drawn q w nq⟩}
theorem RZ (c:UInt8) (w:World) :
  Calls prog 157 #[.int .u8 (c.toNat:Nat)] w fun e w'=>e=.returned (.bool (Tm.eu c))∧w'=w:=by
 unfold Tm.eu Tm.small Tm.digit;go_enter func157,ntmps157;rcases (show c.toNat<48∨(48≤c.toNat∧c.toNat≤57)∨(57<c.toNat∧c.toNat<65)∨(65≤c.toNat∧c.toNat≤90)∨(90<c.toNat∧c.toNat<97)∨(97≤c.toNat∧c.toNat≤122)∨122<c.toNat by omega) with h | ⟨h,h'⟩ | ⟨h,h'⟩ | ⟨h,h'⟩ | ⟨h,h'⟩ | ⟨h,h'⟩ | h;all_goals
  go_wp2
  go_ret
  refine ⟨iN ?_,rfl⟩
  rw [Bool.eq_iff_iff]
  all_goals (simp <;> omega)
theorem adx (c:UInt8) (w:World) :
  Calls prog 198 #[.int .u8 (c.toNat:Nat)] w fun e w'=>e=.returned (.bool (Tm.f_ c))∧w'=w:=by have LB:=aj fun w=>RZ c w;by_cases h:c.toNat=45;{have hc:c=45:=UInt8.toNat_inj.1 h;have HR:=aj (show Tm.f_ c=true by rw [hc];decide);go_enter func198,ntmps198;(go_wp2_with (go_at_call 157;refine (LB.out _).mono ?_;rintro e w' ⟨rfl,rfl⟩));go_ret;exact ⟨by rw [HR.out];rfl,rfl⟩};{have hb:((c.toNat:Int)==45)=false:=beq_eq_false_iff_ne.2 ay;have HR:=aj (show Tm.f_ c=Tm.eu c by unfold Tm.f_;have:(c==45)=false:=beq_eq_false_iff_ne.2 (fun e=>h (by rw [e];rfl));rw [this,Bool.or_false]);go_enter func198,ntmps198;(go_wp2_with (go_at_call 157;refine (LB.out _).mono ?_;rintro e w' ⟨rfl,rfl⟩));go_ret;exact ⟨by rw [HR.out];rfl,rfl⟩}
theorem BQ (q:Nat) (l:List UInt8) (i:Nat) (w:World) (hr:Pr w q l i) (hl:l.length≤100000000) (hi:i≤l.length) :
  Calls prog 99 #[bI q] w fun x w'=>x=.returned (.bool (decide (l.drop i=[]∨(l.drop i).head?=some 35)))∧∃ n,w'=w.drewN n:=by
 obtain ⟨c0,c1,f0,f1⟩:=hr.cells;clear hr;match hd:l.drop i with
 | []=>
  have hil:i=l.length:=by have:=FU l i hd;omega
  subst hil;clear hd;go_enter func99,ntmps99;go_wp2;go_quiet (fail)
  go_wp2;go_ret;exact ⟨rfl,_,rfl⟩
 | c::u=>
  obtain ⟨hjl,hget,eZ⟩:=oQ l i c u hd;have hcc:=fun q=>nY l i c hget q;have wE:(i:Int)<(l.length:Int):=ay;have hne:((i:Int)==(l.length:Int))=false:=beq_eq_false_iff_ne.2 ay;have HR:=aj (show decide (c::u=[]∨(c::u).head?=some 35)=((c.toNat:Int)==35) by
   rw [Bool.eq_iff_iff];simp only [decide_eq_true_eq,List.head?_cons,Option.some.injEq,beq_iff_eq,reduceCtorEq,false_or];constructor;{intro e;rw [e];rfl}
   · intro e;exact UInt8.toNat_inj.1 (by show c.toNat=35;omega))
  clear hd hget eZ;go_enter func99,ntmps99;go_wp2;go_quiet (fail)
  go_wp2;go_ret;exact ⟨by rw [HR.out];rfl,_,rfl⟩
theorem R3 (g q:Nat) (p:UInt8→Bool) (l:List UInt8) (i:Nat) (w:World) (eg:∀ args w,(callFunc g args).run prog w=.ok (.enter g args) w) (hg:∀ (c:UInt8) W,Calls prog g #[.int .u8 (c.toNat:Nat)] W fun e w'=>e=.returned (.bool (p c))∧w'=W)
  (hr:Pr w q l i) (hl:l.length≤100000000) (hi:i≤l.length) :
  Calls prog 156 #[bI q,.func (.func g) #[] #[]] w fun x w'=>x=.returned (aA ((l.drop i).takeWhile p))∧(∃ j,j≤l.length∧l.drop j=(l.drop i).dropWhile p∧Pr w' q l j)∧aK q w w':=by
 have HR:=aj hr;have HG:=aj hg;obtain ⟨k0,k1,h0,h1⟩:=hr.cells;clear hr hg h0 h1;go_enter func156,ntmps156;go_wp2;go_loopg [] l.length (fun gk wr=>∃ j:Nat,i≤j∧j≤l.length∧l.length-j≤gk∧Hid (Pr wr q l j)∧Hid (aK q w wr)∧Hid (((l.drop i).take (j-i)).all p=true))
 case atStart=>exact ⟨i,Nat.le_refl _,hi,ay,HR,aK.refl _ _,aj aH⟩
 case round=>
  obtain ⟨j,hij,hj,vJ,HT,HB,HA⟩:=hrel;obtain ⟨c0,c1,f0,f1⟩:=HT.out.cells;have hex:(⟨l.toArray⟩:ByteArray).extract i j=⟨((l.drop i).take (j-i)).toArray⟩:=u_ l i j;have ahC:(i:Int)≤(j:Int):=ay;have ahD:(j:Int)≤(l.length:Int):=ay;have hdd:(l.drop i).drop (j-i)=l.drop j:=by rw [List.drop_drop];congr 1;omega
  by_cases hlt:j<l.length
  · obtain ⟨c,hc⟩:∃ c,l[j]?=some c:=⟨_,List.getElem?_eq_getElem hlt⟩;have hc2:(l.drop i)[j-i]?=some c:=(by rw [List.getElem?_drop,show i+(j-i)=j by omega];exact hc);have hcc:=fun q=>nY l j c hc q;have wE:(j:Int)<(l.length:Int):=ay;have GC:=aj fun W=>HG.out c W;have hjb:decide ((j:Int)<(l.length:Int))=true:=decide_eq_true wE;cases hp:p c;{have BR:=aj (Ja p (l.drop i) (j-i) (by rw [List.length_drop];omega) HA.out (fun c' hc'=>by rw [hc2] at hc';cases hc';exact hp));rw [hp] at GC;have oI:=aj hdd;clear hp hc hc2 hdd;go_wp2;(go_quiet ((go_at_fn g;exact nX fun W hW=>GC.out W)));go_wp2;(go_quiet (fail));go_wp2;go_ret;refine ⟨by rw [BR.out.1];rfl,⟨j,hj,by rw [BR.out.2,oI.out],HT.out⟩,?_⟩;first | exact HB.out.trans (aK.drawn q wr _) | exact HB.out.trans ((aK.drawn q wr _).trans (aK.drawn q _ _))}
    · have hstep:((l.drop i).take (j+1-i)).all p=true:=(by rw [show j+1-i=(j-i)+1 by omega];exact Dp (f:=p) HA.out hc2 hp);have HST:=aj hstep;rw [hp] at GC;clear hp hc hc2 hdd hstep;go_wp2;(go_quiet ((go_at_fn g;exact nX fun W hW=>GC.out W)));go_wp2;go_roundg (l.length-(j+1))
      (case measure=>omega);case rel=>exact ⟨j+1,ay,ay,Nat.le_refl _,aj (Pr.to (w:=wr.drewN nq) HT.out (j+1)),aj ((HB.out.trans (aK.drawn q wr nq)).trans (aK.set q _ 1 _)),HST⟩
  {obtain rfl:j=l.length:=ay;have BR:=aj (Ja p (l.drop i) (l.length-i) (by rw [List.length_drop];omega) HA.out (fun c' hc'=>by rw [List.getElem?_drop,List.getElem?_eq_none ay] at hc';cases hc'));have oI:=aj hdd;have hjb:decide ((l.length:Int)<(l.length:Int))=false:=decide_eq_false ay;clear hdd;go_wp2;(go_quiet (fail));go_wp2;(go_quiet (fail));go_wp2;go_ret;refine ⟨by rw [BR.out.1];rfl,⟨l.length,Nat.le_refl _,by rw [BR.out.2,oI.out],HT.out⟩,?_⟩;first | exact HB.out.trans (aK.drawn q wr _) | exact HB.out.trans ((aK.drawn q wr _).trans (aK.drawn q _ _))}
def R4 (r:Option UInt8):Value:=match r with
 | some d=>.tuple #[.int .i32 (d.toNat:Nat),.bool true]
 | none=>.tuple #[.int .i32 0,.bool false]
theorem ady {c:UInt8} (h:c≠34∧c≠92∧c≠110∧c≠114∧c≠116∧c≠98∧c≠102∧c≠39):Tm.letter c=none:=by obtain ⟨h1,h2,h3,h4,h5,h6,h7,h8⟩:=h;unfold Tm.letter;simp only [if_neg h1,if_neg h2,if_neg h3,if_neg h4,if_neg h5,if_neg h6,if_neg h7,if_neg h8]
theorem adz (c:UInt8) (w:World):Calls prog 231 #[.int .u8 (c.toNat:Nat)] w fun e w'=>e=.returned (R4 (Tm.letter c))∧w'=w:=by
 by_cases h:c=34∨c=92∨c=110∨c=114∨c=116∨c=98∨c=102∨c=39
 · rcases h with rfl | rfl | rfl | rfl | rfl | rfl | rfl | rfl;all_goals
    go_enter func231,ntmps231
    go_wp2
    go_ret2
    exact ⟨rfl,rfl⟩
 · have hn:c≠34∧c≠92∧c≠110∧c≠114∧c≠116∧c≠98∧c≠102∧c≠39:=(by simp only [not_or] at h;exact h);rw [ady hn];have ne:∀ k:UInt8,c≠k→((c.toNat:Int)==(k.toNat:Int))=false:=fun k hk=>beq_eq_false_iff_ne.2 (fun e=>hk (UInt8.toNat_inj.1 ay));have b1:((c.toNat:Int)==34)=false:=ne 34 hn.1;have b2:((c.toNat:Int)==92)=false:=ne 92 hn.2.1;have b3:((c.toNat:Int)==110)=false:=ne 110 hn.2.2.1;have b4:((c.toNat:Int)==114)=false:=ne 114 hn.2.2.2.1;have b5:((c.toNat:Int)==116)=false:=ne 116 hn.2.2.2.2.1;have b6:((c.toNat:Int)==98)=false:=ne 98 hn.2.2.2.2.2.1;have b7:((c.toNat:Int)==102)=false:=ne 102 hn.2.2.2.2.2.2.1;have b8:((c.toNat:Int)==39)=false:=ne 39 hn.2.2.2.2.2.2.2;clear ne hn h;go_enter func231,ntmps231;go_wp2;go_ret2
   exact ⟨rfl,rfl⟩
end Go.Proofs.YtockbaekcbeenaaGreatDoor
