/-GLn1-/
import Derived.Test.YtjaebndajhppgaaGreatDoorMfHd1
import Derived.Test.YtjaebndajhppgaaGreatDoorMfPrIs
import Derived.Deep.LoopGhost
import Derived.Test.YtjaebndajhppgaaGreatDoorMfGTm2
import Derived.Laws.Cover4
import Derived.Laws.IdiomStrings
import Derived.Deep.DeepCutAuto
set_option linter.unusedVariables false
set_option linter.unusedSimpArgs false
set_option maxRecDepth 100000
set_option maxHeartbeats 8000000
namespace Go.Proofs.YtjaebndajhppgaaGreatDoor
open Go.Proofs.Tryz
open Go.ChangeShapes Go.WideShapes Go.ChangeAt Go.RowKit
def Rd (w:World) (q:Nat) (s:List UInt8) (e:Bool):Prop:=aC w q [aA s,.bool e] 202
abbrev bB (q:Nat):Value:=.pointer (some ⟨q,0,none⟩)
theorem Rd.cells {w:World} {q:Nat} {s:List UInt8} {e:Bool} (h:Rd w q s e):w.cell? ⟨q,0,none⟩=some (aA s)∧w.cell? ⟨q,1,none⟩=some (.bool e)∧w.frozen? ⟨q,0,none⟩=false∧w.frozen? ⟨q,1,none⟩=false:=
 ⟨aC.cell h rfl,aC.cell h rfl,aC.free h 0,aC.free h 1⟩
theorem Rd.keep {w w':World} {q:Nat} {s:List UInt8} {e:Bool} (h:Rd w q s e) (hb:Below w.heap.size w w'):Rd w' q s e:=aC.keep h hb
theorem Rd.set0 {w:World} {q:Nat} {s t:List UInt8} {e:Bool} (h:Rd w q s e):Rd (w.setCell ⟨q,0,none⟩ (aA t)) q t e:=aC.set h 0 _
theorem Rd.set1 {w:World} {q:Nat} {s:List UInt8} {e f:Bool} (h:Rd w q s e):Rd (w.setCell ⟨q,1,none⟩ (.bool f)) q s f:=aC.set h 1 _
def aH (q:Nat) (w w':World):Prop:=w.grownBy w' (some q)
theorem aH.refl (q:Nat) (w:World):aH q w w:=⟨rfl,rfl,rfl,Nat.le_refl _,fun _ _ _=>rfl⟩
theorem aH.trans {q:Nat} {a b c:World} (h:aH q a b) (k:aH q b c):aH q a c:=
 ⟨k.os.trans h.os,k.tape.trans h.tape,k.output.trans h.output,Nat.le_trans h.size k.size,fun i hi hn=>(k.block i (Nat.lt_of_lt_of_le hi h.size) hn).trans (h.block i hi hn)⟩
theorem aH.below {q:Nat} {a b:World} (h:Below a.heap.size a b):aH q a b:=⟨h.os,h.tape,h.output,h.size,fun i hi _=>h.block i hi⟩
theorem aH.set (q:Nat) (w:World) (i:Nat) (v:Value):aH q w (w.setCell ⟨q,i,none⟩ v):=
 ⟨rfl,rfl,rfl,aI,fun k hk hn=>Below.heap_setCell _ _ _ _ (by simpa using fun e=>hn (by rw [e]))⟩
theorem aH.drawn (q:Nat) (w:World) (n:Nat):aH q w (w.drewN n):=⟨rfl,rfl,rfl,Nat.le_refl _,fun _ _ _=>rfl⟩
theorem aH.into {q:Nat} {a b c:World} (hb:Below a.heap.size a b) (h:aH q b c) (hq:a.heap.size≤q):Below a.heap.size a c:=
 hb.grown h hb.size (fun k hk=>by cases hk;exact hq)
theorem aH.blk {q k:Nat} {w w':World} {A:List Value} {t:TypeId} (h:aC w k A t) (hb:aH q w w') (hk:k≠q):aC w' k A t:=by unfold aC;rw [hb.block k h.lt (by simpa using hk)];exact h
theorem Nh (q:Nat) (s:List UInt8) (e:Bool) (w:World) (h:Rd w q s e) :
  Calls prog 186 #[bB q] w fun x w'=>x=.returned (.tuple #[])∧Rd w' q [] true∧aH q w w':=by obtain ⟨c0,c1,f0,f1⟩:=h.cells;go_enter func186,ntmps186;go_wp2;refine bodyPost_end (v:=.tuple #[]) aG rfl ?_;exact ⟨rfl,(h.set0).set1,(aH.set q w 0 _).trans (aH.set q _ 1 _)⟩
theorem qg (q:Nat) (s p:List UInt8) (e:Bool) (w:World) (hr:Rd w q s e) (hl:s.length≤9223372036854775807) (hp:p.length≤9223372036854775807) :
  Calls prog 134 #[bB q,aA p] w fun x w'=>x=.returned (.bool (decide (s.take p.length=p)))∧w=w':=by obtain ⟨c0,c1,f0,f1⟩:=hr.cells;clear c1 f0 f1 hr;by_cases h:p.length≤s.length;{have hz:(p.length:Int)≤(s.length:Int):=ak;have ht:=vS s p.length;have hx:((s.take p.length)==p)=decide (s.take p.length=p):=(by rw [Bool.eq_iff_iff];simp);go_enter func134,ntmps134;go_wp2;go_ret;exact ⟨aI,rfl⟩};{have hz:(s.length:Int)<(p.length:Int):=ak;have HN:=aj (show decide (s.take p.length=p)=false by rw [decide_eq_false_iff_not];intro he;have:=congrArg List.length he;rw [List.length_take] at this;omega);go_enter func134,ntmps134;go_wp2;go_ret;exact ⟨by rw [HN.out];rfl,rfl⟩}
def dh (c:UInt8):Bool:=c==32 || c==9
theorem Ni {c:UInt8} (h:c.toNat=32∨c.toNat=9):dh c=true:=by unfold dh;rcases h with h | h;{rw [UInt8.toNat_inj.1 (show c.toNat=(32:UInt8).toNat from h)];rfl};{rw [UInt8.toNat_inj.1 (show c.toNat=(9:UInt8).toNat from h)];rfl}
theorem Nj {c:UInt8} (h:c.toNat≠32∧c.toNat≠9):dh c=false:=by unfold dh;rw [Bool.or_eq_false_iff,beq_eq_false_iff_ne,beq_eq_false_iff_ne];exact ⟨fun e=>h.1 (by rw [e];rfl),fun e=>h.2 (by rw [e];rfl)⟩
theorem F8 (q:Nat) (s:List UInt8) (e:Bool) (w:World) (hr:Rd w q s e) (hl:s.length≤9223372036854775807) :
  Calls prog 133 #[bB q] w fun x w'=>x=.returned (.tuple #[])∧Rd w' q (s.dropWhile dh) e∧aH q w w':=by
 have HR:=aj hr;clear hr;go_enter func133,ntmps133;go_wp2;go_loopg [] s.length (fun gk wr=>∃ t:List UInt8,t.length≤gk∧t.length≤s.length∧Hid (Rd wr q t e)∧Hid (aH q w wr)∧Hid (t.dropWhile dh=s.dropWhile dh))
 case atStart=>exact ⟨s,ak,ak,HR,aH.refl _ _,rfl⟩
 case round=>
  obtain ⟨t,hg,hts,HT,HB,HD⟩:=hrel;obtain ⟨c0,c1,f0,f1⟩:=HT.out.cells;cases t with
  | nil=>go_wp2;refine bodyPost_end (v:=.tuple #[]) aG rfl ?_;exact ⟨rfl,by rw [←HD.out];exact HT.out,HB.out⟩
  | cons c u=>
   have hcc:=fun q=>fH (c::u) 0 c rfl q;have hem:((c::u:List UInt8) != [])=true:=rfl;have hlu:u.length+1≤gk:=(by simpa using hg);have Nk:u.length+1≤9223372036854775807:=(by simp only [List.length_cons] at hts;omega);have hex:(⟨(c::u).toArray⟩:ByteArray).extract 1 (u.length+1)=⟨u.toArray⟩:=FR c u;by_cases h:c.toNat=32∨c.toNat=9
   · have HD2:=aj (show u.dropWhile dh=s.dropWhile dh by rw [←HD.out,List.dropWhile_cons,Ni h];rfl);have HT2:=aj (HT.out.set0 (t:=u));have HB2:=aj (HB.out.trans (aH.set q wr 0 (aA u)));have Nl:u.length≤s.length:=(by simp only [List.length_cons] at hts;omega);clear hg hts;rcases h with h | h
     · have b1:((c.toNat:Int)==32)=true:=beq_iff_eq.2 ak;clear h;go_wp2;go_roundg u.length
       (case measure=>omega);case rel=>exact ⟨u,ak,Nl,HT2,HB2,HD2⟩
     · have b1:((c.toNat:Int)==32)=false:=beq_eq_false_iff_ne.2 ak;have b2:((c.toNat:Int)==9)=true:=beq_iff_eq.2 ak;clear h;go_wp2;go_roundg u.length
       (case measure=>omega);case rel=>exact ⟨u,ak,Nl,HT2,HB2,HD2⟩
   {have HD2:=aj (show c::u=s.dropWhile dh by rw [←HD.out,List.dropWhile_cons,Nj ak];rfl);have b1:((c.toNat:Int)==32)=false:=beq_eq_false_iff_ne.2 ak;have b2:((c.toNat:Int)==9)=false:=beq_eq_false_iff_ne.2 ak;clear h;go_wp2;refine bodyPost_end (v:=.tuple #[]) aG rfl ?_;exact ⟨rfl,by rw [←HD2.out];exact HT.out,HB.out⟩}
def mW (d:Bool) (c:UInt8):Bool:=Tm.dJ c || (d && c==45)
theorem Yt:mW false=Tm.dJ:=by funext c;simp [mW]
theorem Yu:mW true=Tm.dX:=by funext c;simp [mW,Tm.dX]
theorem yC (p:UInt8→Bool):∀ (s:List UInt8) (n:Nat),n≤s.length→(s.take n).all p=true→(∀ c,s[n]?=some c→p c=false)→s.takeWhile p=s.take n∧s.dropWhile p=s.drop n
 | [],0,_,_,_=>⟨rfl,rfl⟩
 | [],n+1,h,_,_=>by simp at h
 | c::s,0,_,_,h=>by have:=h c rfl;simp [this]
 | c::s,n+1,hn,ha,h=>by
  rw [List.take_succ_cons,List.all_cons,Bool.and_eq_true] at ha
  have ih:=yC p s n (by simpa using hn) ha.2 (fun d hd=>h d (by simpa using hd))
  simp [ha.1,ih.1,ih.2]
theorem Nn (q:Nat) (s:List UInt8) (e d:Bool) (w:World) (hr:Rd w q s e) (hl:s.length≤9223372036854775806) :
  Calls prog 184 #[bB q,.bool d] w fun x w'=>x=.returned (aA (s.takeWhile (mW d)))∧Rd w' q (s.dropWhile (mW d)) e∧aH q w w':=by
 have HR:=aj hr;obtain ⟨c0,c1,f0,f1⟩:=hr.cells;clear hr;go_enter func184,ntmps184;go_wp2;go_loop [5] (fun s5=>∃ n:Nat,n≤s.length∧s5=.int .i64 n∧Hid ((s.take n).all (mW d)=true)) (fun s5=>s.length-(intOf s5).toNat)
 case atStart=>exact ⟨0,ak,rfl,by simp [Hid]⟩
 case round=>
  obtain ⟨n,hn,rfl,HA⟩:=hrel;have Np:(⟨s.toArray⟩:ByteArray).extract 0 n=⟨(s.take n).toArray⟩:=vS s n;have ug:(⟨s.toArray⟩:ByteArray).extract n s.length=⟨(s.drop n).toArray⟩:=nM s n;by_cases hlt:n<s.length
  · obtain ⟨c,hc⟩:∃ c,s[n]?=some c:=⟨_,List.getElem?_eq_getElem hlt⟩;have hcc:=fun q=>fH s n c hc q;have HS:=aj (fun hf=>yu (f:=mW d) HA.out hc hf);have HN:=aj (fun (hf:mW d c=false)=>yC (mW d) s n hn HA.out (fun c' hc'=>by rw [hc] at hc';cases hc';exact hf));have HU:=aj (show mW d c=(Tm.dJ c || (d && c==45)) from rfl);have AL:=aj (fun w=>(MJ c w).mono (R':=fun e w'=>e=.returned (.bool (Tm.dJ c))∧w=w') fun _ _ h=>⟨h.1,h.2.symm⟩);obtain ⟨a,ha⟩:=aB (Tm.dJ c);rw [←ha] at AL HU;have hb:((c.toNat:Int)==45)=(c==45):=(by rw [Bool.eq_iff_iff,beq_iff_eq,beq_iff_eq];constructor;{intro h;exact UInt8.toNat_inj.1 (show c.toNat=(45:UInt8).toNat by show c.toNat=45;omega)};{rintro rfl;rfl});obtain ⟨b,hbb⟩:=aB ((c==45));rw [←hbb] at HU hb;clear hc HA ha hbb;cases a <;> cases d <;> cases b;all_goals
     go_wp2_with (go_at_call 191;refine (AL.out _).mono ?_;rintro x w' ⟨rfl,rfl⟩)
    all_goals first
     | (go_round
        case rel=>exact ⟨n+1,ak,aN,HS.out (by rw [HU.out];rfl)⟩
        case measure=>simp [intOf];omega)
     | (have h2:=HN.out (by rw [HU.out];rfl)
        go_ret
        exact ⟨by rw [h2.1];rfl,by rw [h2.2];exact HR.out.set0,aH.set q w 0 _⟩)
  {obtain rfl:n=s.length:=ak;have HT:=aj (yC (mW d) s s.length hn HA.out (fun c' hc'=>by simp at hc'));clear HA;go_wp2;go_ret;exact ⟨by rw [HT.out.1,List.take_length];rfl,by rw [HT.out.2,List.drop_length];exact HR.out.set0 (t:=[]),aH.set q w 0 _⟩}
theorem Nq (i:Nat) (h:i<8):16 ^ i≤268435456:=by rcases (show i=0∨i=1∨i=2∨i=3∨i=4∨i=5∨i=6∨i=7 by omega) with rfl | rfl | rfl | rfl | rfl | rfl | rfl | rfl <;> decide
theorem Nr (k:Nat) (s:List UInt8) (i x:Nat) (c:UInt8) (h:s[i]?=some c):Tm.dW (k+1) (s.drop i) x=match Tm.jC c with
  | none=>none
  | some d=>Tm.dW k (s.drop (i+1)) (x*16+d):=by obtain ⟨hl,e⟩:=List.getElem?_eq_some_iff.1 h;rw [List.drop_eq_getElem_cons hl,e];rfl
theorem Cn:∀ (n:Nat) (s:List UInt8) (x:Nat),s.length<n→Tm.dW n s x=none
 | 0,s,x,h=>ak
 | n+1,[],x,h=>rfl
 | n+1,c::t,x,h=>by
  unfold Tm.dW
  cases Tm.jC c with
  | none=>rfl
  | some d=>exact Cn n t _ (by simpa using h)
def yD (r:Option Nat):Option Nat:=match r with
 | none=>none
 | some x=>if 1114111<x∨(55296≤x∧x≤57343) then none else some x
def Yv (r:Option Nat):Int:=match r with
 | none=>-1
 | some x=>x
theorem Ns {c:UInt8} (h:48≤c.toNat∧c.toNat≤57):Tm.jC c=some (c.toNat-48):=by unfold Tm.jC;rw [if_pos h]
theorem Nt {c:UInt8} (h:97≤c.toNat∧c.toNat≤102):Tm.jC c=some (c.toNat-87):=by unfold Tm.jC;rw [if_neg ak,if_pos h]
theorem Nu {c:UInt8} (h:65≤c.toNat∧c.toNat≤70):Tm.jC c=some (c.toNat-55):=by unfold Tm.jC;rw [if_neg ak,if_neg ak,if_pos h]
theorem Nv {c:UInt8} (h:c.toNat<48∨(57<c.toNat∧c.toNat<65)∨(70<c.toNat∧c.toNat<97)∨102<c.toNat):Tm.jC c=none:=by unfold Tm.jC;rw [if_neg ak,if_neg ak,if_neg ak]
theorem Yw (s:List UInt8) (n:Nat) (w:World) (hn:n≤8) (hl:s.length≤9223372036854775807) :
  Calls prog 247 #[aA s,.int .i64 (n:Nat)] w fun e w'=>e=.returned (.int .i32 (Yv (Tm.bZ n s)))∧w=w':=by
 by_cases hs:s.length<n;{have HE:=aj (show Tm.bZ n s=none by unfold Tm.bZ;rw [Cn n s 0 hs]);have hz:(s.length:Int)<(n:Int):=ak;go_enter func247,ntmps247;go_wp2;go_ret;exact ⟨by rw [HE.out];rfl,rfl⟩}
 · obtain ⟨ANS,hA⟩:=aB (Tm.dW n s 0);have HR:=aj (show Tm.bZ n s=yD ANS by rw [hA];rfl);have HA:=aj (show ANS=Tm.dW (n-0) (s.drop 0) 0 from hA);have hz:(n:Int)≤(s.length:Int):=ak;clear hA;go_enter func247,ntmps247;go_wp2;go_loop [5,6,7] (fun s5 s6 _=>∃ i x:Nat,i≤n∧s6=.int .i64 i∧s5=.int .i64 x∧Hid (x<16 ^ i)∧Hid (ANS=Tm.dW (n-i) (s.drop i) x)) (fun _ s6 _=>n-(intOf s6).toNat)
   (case atStart=>exact ⟨0,0,ak,rfl,rfl,(by decide:(0:Nat)<16 ^ 0),HA⟩);case round=>
    obtain ⟨i,x,hi,rfl,rfl,HX,HL⟩:=hrel;by_cases hlt:i<n
    · have hx:x<268435456:=Nat.lt_of_lt_of_le HX.out (Nq i ak);obtain ⟨c,hc⟩:∃ c,s[i]?=some c:=⟨_,List.getElem?_eq_getElem ak⟩;have hcc:=fun q=>fH s i c hc q;have HS:=aj (Nr (n-(i+1)) s i x c hc);have uh:=aj (show ANS=Tm.dW (n-(i+1)+1) (s.drop i) x by rw [HL.out];congr 1;omega);have HP:=aj (fun d (hd:d<16)=>show x*16+d<16 ^ (i+1) by have:=HX.out;rw [Nat.pow_succ];omega);have hc256:c.toNat<256:=c.toNat_lt;clear hc HX HL;rcases (show (c.toNat<48∨(57<c.toNat∧c.toNat<65)∨(70<c.toNat∧c.toNat<97)∨102<c.toNat)∨(48≤c.toNat∧c.toNat≤57)∨(97≤c.toNat∧c.toNat≤102)∨(65≤c.toNat∧c.toNat≤70) by omega) with h | ⟨h,h'⟩ | ⟨h,h'⟩ | ⟨h,h'⟩
      · have HF:=aj (show Tm.bZ n s=none by rw [HR.out,uh.out,HS.out,Nv h];rfl);rcases h with h | ⟨h,h'⟩ | ⟨h,h'⟩ | h;all_goals
         go_wp2
         go_ret
         exact ⟨by rw [HF.out];rfl,rfl⟩
      · have HF:=aj (show ANS=Tm.dW (n-(i+1)) (s.drop (i+1)) (x*16+(c.toNat-48)) by rw [uh.out,HS.out,Ns ⟨h,h'⟩]);have lJ:=aj (HP.out (c.toNat-48) ak);clear HS uh HP;go_wp2;go_round
        (case rel=>exact ⟨i+1,x*16+(c.toNat-48),ak,aN,by congr 1;omega,lJ,HF⟩);case measure=>simp [intOf];omega
      · have HF:=aj (show ANS=Tm.dW (n-(i+1)) (s.drop (i+1)) (x*16+(c.toNat-87)) by rw [uh.out,HS.out,Nt ⟨h,h'⟩]);have lJ:=aj (HP.out (c.toNat-87) ak);clear HS uh HP;go_wp2;go_round
        (case rel=>exact ⟨i+1,x*16+(c.toNat-87),ak,aN,by congr 1;omega,lJ,HF⟩);case measure=>simp [intOf];omega
      · have HF:=aj (show ANS=Tm.dW (n-(i+1)) (s.drop (i+1)) (x*16+(c.toNat-55)) by rw [uh.out,HS.out,Nu ⟨h,h'⟩]);have lJ:=aj (HP.out (c.toNat-55) ak);clear HS uh HP;go_wp2;go_round
        (case rel=>exact ⟨i+1,x*16+(c.toNat-55),ak,aN,by congr 1;omega,lJ,HF⟩);case measure=>simp [intOf];omega
    {obtain rfl:i=n:=ak;have HF:=aj (show ANS=some x by rw [HL.out,Nat.sub_self];rfl);have hx:x<4294967296:=Nat.lt_of_lt_of_le HX.out (Nat.le_trans (Nat.pow_le_pow_right ak hn) aL);clear HX HL;rcases (show 1114111<x∨(x≤1114111∧55296≤x∧x≤57343)∨x<55296∨(x≤1114111∧57343<x) by omega) with h | ⟨h,h2,h3⟩ | h | ⟨h,h2⟩;{have HG:=aj (show Tm.bZ i s=none by rw [HR.out,HF.out];unfold yD;simp only;rw [if_pos (.inl h)]);clear HR HF;go_wp2;go_ret;exact ⟨by rw [HG.out];rfl,rfl⟩};{have HG:=aj (show Tm.bZ i s=none by rw [HR.out,HF.out];unfold yD;simp only;rw [if_pos (.inr ⟨h2,h3⟩)]);clear HR HF;go_wp2;go_ret;exact ⟨by rw [HG.out];rfl,rfl⟩};{have HG:=aj (show Tm.bZ i s=some x by rw [HR.out,HF.out];unfold yD;simp only;rw [if_neg ak]);clear HR HF;go_wp2;go_ret;exact ⟨by rw [HG.out];rfl,rfl⟩};{have HG:=aj (show Tm.bZ i s=some x by rw [HR.out,HF.out];unfold yD;simp only;rw [if_neg ak]);clear HR HF;go_wp2;go_ret;exact ⟨by rw [HG.out];rfl,rfl⟩}}
def Co (r:Option (List UInt8×Nat)):List UInt8:=match r with
 | none=>[]
 | some p=>p.1
def Cq (r:Option (List UInt8×Nat)):Nat:=match r with
 | none=>0
 | some p=>p.2
theorem Yx (r:Nat):Value.string (runesBytes [(r:Int)])=aA (Tm.fZ r):=by
 unfold runesBytes Tm.fZ aA;simp only [List.foldl_cons,List.foldl_nil];generalize Utf8.encode (r:Int)=B;have:ByteArray.empty++B=⟨B.data.toList.toArray⟩:=by apply ByteArray.ext;rw [ByteArray.data_append];simp
 rw [this]
theorem Yy (w:World) (r:Nat):(convert 251 9 (.slice (some ⟨w.heap.size,0,none⟩) 1 1)).run prog (w.alloc (.cells #[.int .i32 (r:Int)] 21))=.ok (aA (Tm.fZ r)) (w.alloc (.cells #[.int .i32 (r:Int)] 21)):=by
 rw [←Yx];exact run_convert_runes (P:=prog) _ 251 9 21 ⟨w.heap.size,0,none⟩ 1 1 [(r:Int)] (Nat.le_refl 1) underlying251 underlying21 underlying9 (fun j hj=>by
  rw [gG rfl,Nat.zero_add,fD];match j,hj with
  | 0,_=>rfl
  | j+1,h=>exact absurd h aI)
def mX:List UInt8:=[34,92,110,114,116,98,102,39]
def rJ:List UInt8:=[34,92,10,13,9,8,12,39]
theorem Yz:∀ k:Fin 8,Tm.letter (mX.getD k.val 0)=some (rJ.getD k.val 0):=aL
theorem YA (c:UInt8) (h:∀ j,j<8→mX.getD j 0≠c):Tm.letter c=none:=by have e:∀ j,j<8→c≠mX.getD j 0:=fun j hj he=>h j hj he.symm;have e0:c≠34:=e 0 ak;have e1:c≠92:=e 1 ak;have e2:c≠110:=e 2 ak;have e3:c≠114:=e 3 ak;have e4:c≠116:=e 4 ak;have e5:c≠98:=e 5 ak;have e6:c≠102:=e 6 ak;have e7:c≠39:=e 7 ak;unfold Tm.letter;rw [if_neg e0,if_neg e1,if_neg e2,if_neg e3,if_neg e4,if_neg e5,if_neg e6,if_neg e7]
theorem Nw (c:UInt8) (t:List UInt8) (lit:Bool) (n:Nat) (h:(c=117∧n=4)∨(c=85∧n=8)) (w:World) (hl:(c::t).length≤9223372036854775807) :
  Calls prog 225 #[aA (c::t),.bool lit] w fun e w'=>e=.returned (.tuple #[aA (Co ((Tm.bZ n t).map fun x=>(Tm.fZ x,n+1))),.int .i64 (Cq ((Tm.bZ n t).map fun x=>(Tm.fZ x,n+1)))])∧Below w.heap.size w w':=by
 have HX:=aj (fun w=>Yw t n w ak (by simp only [List.length_cons] at hl;omega));have hcc:=fun q=>fH (c::t) 0 c rfl q;have hem:((c::t:List UInt8)==[])=false:=rfl;have Nk:t.length+1≤9223372036854775807:=by simpa using hl
 have hex:(⟨(c::t).toArray⟩:ByteArray).extract 1 (t.length+1)=⟨t.toArray⟩:=FR c t;clear hl;cases hr:Tm.bZ n t with
 | none=>
  rw [hr] at HX;rcases h with ⟨rfl,rfl⟩ | ⟨rfl,rfl⟩;all_goals
   clear hr
   go_enter func225,ntmps225
   go_wp2_with (go_at_call 247;refine (HX.out _).mono ?_;rintro e w' ⟨rfl,rfl⟩)
   go_ret2
   exact ⟨rfl,Below.refl _ _⟩
 | some x=>
  rw [hr] at HX;have jE:Hid (∀ w,Calls prog 247 #[aA t,.int .i64 (n:Nat)] w fun e w'=>e=.returned (.int .i32 (x:Int))∧w=w'):=HX;have cv:=Yy w x;rw [Option.map_some];obtain ⟨R,hR⟩:=aB (Tm.fZ x);rw [←hR] at cv ⊢;rw [show Co (some (R,n+1))=R from rfl,show Cq (some (R,n+1))=n+1 from rfl];clear hR;have hx0:(0:Int)≤(x:Int):=ak;clear HX;rcases h with ⟨rfl,rfl⟩ | ⟨rfl,rfl⟩;all_goals
   clear hr
   go_enter func225,ntmps225
   go_wp2_with (go_at_call 247;refine (jE.out _).mono ?_;rintro e w' ⟨rfl,rfl⟩)
   go_ret2
   exact ⟨rfl,(Below.refl _ _).alloc aF _⟩
theorem YB (c:UInt8) (t:List UInt8) (lit:Bool) (h:c≠117∧c≠85) (w:World) (hl:(c::t).length≤9223372036854775807) :
  Calls prog 225 #[aA (c::t),.bool lit] w fun e w'=>e=.returned (.tuple #[aA (Co (if lit then (Tm.letter c).map (fun d=>([d],1)) else none)),.int .i64 (Cq (if lit then (Tm.letter c).map (fun d=>([d],1)) else none))])∧Below w.heap.size w w':=by
 have hcc:=fun q=>fH (c::t) 0 c rfl q;have hem:((c::t:List UInt8)==[])=false:=rfl;have n1:c.toNat≠117:=fun e=>h.1 (UInt8.toNat_inj.1 e);have n2:c.toNat≠85:=fun e=>h.2 (UInt8.toNat_inj.1 e);have b1:((c.toNat:Int)==117)=false:=beq_eq_false_iff_ne.2 ak;have b2:((c.toNat:Int)==85)=false:=beq_eq_false_iff_ne.2 ak;have Nk:t.length+1≤9223372036854775807:=by simpa using hl
 clear n1 n2 h hl;cases lit
 · go_enter func225,ntmps225;go_wp2;go_loop [10] (fun s10=>s10=.int .i64 0) (fun _=>0)
   (case atStart=>rfl);case round=>
    subst hrel;go_wp2;go_ret2
    exact ⟨rfl,Below.refl _ _⟩
 · go_enter func225,ntmps225;go_wp2;go_loopw [10] (fun s10 wr=>∃ i:Nat,i≤8∧s10=.int .i64 i∧Hid (∀ j,j<i→mX.getD j 0≠c)∧Hid (∃ q,wr=w.drewN q)) (fun s10 _=>8-(intOf s10).toNat)
   (case atStart=>exact ⟨0,ak,rfl,fun j hj=>ak,0,rfl⟩);case round=>
    obtain ⟨i,hi,rfl,HN,HQ⟩:=hrel;obtain ⟨q,hq⟩:=HQ.out;subst hq;clear HQ;by_cases hlt:i<8
    · have HD:=aj (Yz ⟨i,hlt⟩);have g1:mX[i]?=some (mX.getD i 0):=(by have:i<mX.length:=hlt;simp [List.getD,this]);have g2:rJ[i]?=some (rJ.getD i 0):=(by have:i<rJ.length:=hlt;simp [List.getD,this]);have yE:=fun q=>fH mX i _ g1 q;have ht2:(⟨rJ.toArray⟩:ByteArray).extract i (i+1)=⟨[rJ.getD i 0].toArray⟩:=(by rw [oJ,show i+1-i=1 by omega];obtain ⟨hl2,e2⟩:=List.getElem?_eq_some_iff.1 g2;rw [List.drop_eq_getElem_cons hl2,e2];rfl);have yF:=aj (show mX.getD i 0≠c→∀ j,j<i+1→mX.getD j 0≠c from fun hne j hj=>by
       by_cases he:j=i;{rw [he];exact hne}
       · exact HN.out j ak)
      obtain ⟨d,hd⟩:=aB (mX.getD i 0);obtain ⟨f,hf⟩:=aB (rJ.getD i 0);simp only at HD;rw [←hd] at yE yF HD;rw [←hf] at ht2 HD;unfold mX at yE;unfold rJ at ht2;have hiz:(i:Int)<8:=ak;have hi0:(0:Int)≤(i:Int):=ak;clear hd hf g1 g2 HN;by_cases hcd:d=c
      · subst hcd;have be:((d.toNat:Int)==(d.toNat:Int))=true:=aI;have HL:=aj (show (Tm.letter d).map (fun d=>(([d]:List UInt8),1))=some ([f],1) by rw [HD.out];rfl);go_wp2;(go_quiet (fail));go_wp2;go_ret2
        exact ⟨by rw [HL.out];rfl,bn (Below.refl _ _) _⟩
      · have be:((c.toNat:Int)==(d.toNat:Int))=false:=beq_eq_false_iff_ne.2 (fun e=>hcd (UInt8.toNat_inj.1 ak));have F9:=aj (yF.out hcd);clear hcd;go_wp2;(go_quiet (fail));go_wp2;go_roundw
        (case rel=>exact ⟨i+1,ak,aN,F9,q+nq,by first | rfl | rw [World.drewN_drewN]⟩);case measure=>simp [intOf];omega
    · obtain rfl:i=8:=ak;have HL:=aj (show (Tm.letter c).map (fun d=>(([d]:List UInt8),1))=none by rw [YA c HN.out];rfl);clear HN;go_wp2;go_ret2
      exact ⟨by rw [HL.out];rfl,bn (Below.refl _ _) q⟩
theorem YC (s:List UInt8) (lit:Bool) (w:World) (hl:s.length≤9223372036854775807) :
  Calls prog 225 #[aA s,.bool lit] w fun e w'=>e=.returned (.tuple #[aA (Co (Tm.iy lit s)),.int .i64 (Cq (Tm.iy lit s))])∧Below w.heap.size w w':=by
 cases s with
 | nil=>
  go_enter func225,ntmps225;go_wp2;go_ret2
  exact ⟨rfl,Below.refl _ _⟩
 | cons c t=>
  have e0:Tm.iy lit (c::t)=if c=117 then (Tm.bZ 4 t).map (fun x=>(Tm.fZ x,5)) else if c=85 then (Tm.bZ 8 t).map (fun x=>(Tm.fZ x,9)) else if lit then (Tm.letter c).map (fun d=>([d],1)) else none:=rfl
  rw [e0];by_cases h1:c=117;{rw [if_pos h1];exact Nw c t lit 4 (.inl ⟨h1,rfl⟩) w hl};{rw [if_neg h1];by_cases h2:c=85;{rw [if_pos h2];exact Nw c t lit 8 (.inr ⟨h2,rfl⟩) w hl};{rw [if_neg h2];exact YB c t lit ⟨h1,h2⟩ w hl}}
namespace Tm
theorem Ct (e:UInt8) (lit:Bool):∀ (f g:Nat) (s:T),s.length<f→s.length<g→up f e lit s=up g e lit s
 | 0,g,s,h,_=>ak
 | f+1,0,s,_,h=>ak
 | f+1,g+1,[],_,_=>rfl
 | f+1,g+1,c::t,hf,hg=>by
  unfold up
  simp only [List.length_cons] at hf hg
  rw [Ct e lit f g t ak ak]
  cases h:iy lit t with
  | none=>rfl
  | some p=>
   obtain ⟨x,n⟩:=p
   simp only
   rw [Ct e lit f g (t.drop n) (by rw [List.length_drop];omega) (by rw [List.length_drop];omega)]
def bP (e:UInt8) (lit:Bool) (s:T):Option (T×T):=up (s.length+1) e lit s
theorem Ga (e:UInt8) (lit:Bool) (c:UInt8) (t:T):bP e lit (c::t)=if c=e then some ([],t) else if c=92 then (match iy lit t with
  | none=>none
  | some (x,n)=>(bP e lit (t.drop n)).map (fun r=>(x++r.1,r.2)))
  else if c=10∨c=13 then none else (bP e lit t).map (fun r=>(c::r.1,r.2)):=by
 show up (t.length+1+1) e lit (c::t)=_;rw [up];unfold bP;cases h:iy lit t with
 | none=>rfl
 | some p=>obtain ⟨x,n⟩:=p;simp only;rw [Ct e lit (t.length+1) ((t.drop n).length+1) (t.drop n) (by rw [List.length_drop];omega) ak]
theorem Ny (x:Nat):(fZ x).length≤4:=by have:=encode_size_le (x:Int);unfold fZ;simpa using this
theorem Nz {n:Nat} {s:T} {x:Nat} (h:bZ n s=some x):n≤s.length:=by rcases Nat.lt_or_ge s.length n with hl | hl;{unfold bZ at h;rw [Cn n s 0 hl] at h;cases h};{exact hl}
theorem Gb {lit:Bool} {s x:T} {n:Nat} (h:iy lit s=some (x,n)):1≤n∧n≤s.length∧x.length≤4:=by
 cases s with
 | nil=>cases h
 | cons c t=>
  have e0:iy lit (c::t)=if c=117 then (bZ 4 t).map (fun x=>(fZ x,5)) else if c=85 then (bZ 8 t).map (fun x=>(fZ x,9)) else if lit then (letter c).map (fun d=>([d],1)) else none:=rfl
  rw [e0] at h;split at h
  · cases hr:bZ 4 t with
    | none=>rw [hr] at h;cases h
    | some y=>rw [hr] at h;simp only [Option.map_some,Option.some.injEq,Prod.mk.injEq] at h;have:=Nz hr;have:=Ny y;obtain ⟨rfl,rfl⟩:=h;simp only [List.length_cons];omega
  · split at h
    · cases hr:bZ 8 t with
      | none=>rw [hr] at h;cases h
      | some y=>rw [hr] at h;simp only [Option.map_some,Option.some.injEq,Prod.mk.injEq] at h;have:=Nz hr;have:=Ny y;obtain ⟨rfl,rfl⟩:=h;simp only [List.length_cons];omega
    · split at h
      · cases hr:letter c with
        | none=>rw [hr] at h;cases h
        | some y=>rw [hr] at h;simp only [Option.map_some,Option.some.injEq,Prod.mk.injEq] at h;obtain ⟨rfl,rfl⟩:=h;simp
      {cases h}
end Tm
def Cu (r:Option (List UInt8×List UInt8)):List UInt8:=match r with
 | none=>[]
 | some p=>p.1
def NA (r:Option (List UInt8×List UInt8)):List UInt8:=match r with
 | none=>[]
 | some p=>p.2
def YD (b:Bool) (r:Option (List UInt8×List UInt8)):Bool:=match r with
 | none=>true
 | some _=>b
theorem vU (q:Nat) (s:List UInt8) (b:Bool) (e:UInt8) (lit:Bool) (w:World) (hr:Rd w q s b) (hl:s.length≤1000000000) (he:e≠92) (h10:e≠10∧e≠13) :
  Calls prog 183 #[bB q,.int .u8 (e.toNat:Nat),.bool lit] w fun x w'=>x=.returned (aA (Cu (Tm.bP e lit s)))∧Rd w' q (NA (Tm.bP e lit s)) (YD b (Tm.bP e lit s))∧aH q w w':=by
 have HR:=aj hr;obtain ⟨ANS,hA⟩:=aB (Tm.bP e lit s);rw [←hA];have HA:=aj (show ANS=(Tm.bP e lit (s.drop 0)).map (fun r=>([]++r.1,r.2)) by rw [hA,List.drop_zero];cases Tm.bP e lit s <;> rfl);have FA:=aj (fun w (h:Rd w q s b)=>Nh q s b w h);clear hA hr;go_enter func183,ntmps183;go_wp2;go_loopw [7,8,9,10,11] (fun s7 s8 _ _ _ wr=>∃ (out:List UInt8) (i:Nat),s7=aA out∧s8=.int .i64 i∧i≤s.length∧out.length≤4*i∧Hid (ANS=(Tm.bP e lit (s.drop i)).map (fun r=>(out++r.1,r.2)))∧Hid (Below w.heap.size w wr)) (fun _ s8 _ _ _ _=>s.length-(intOf s8).toNat)
 case atStart=>exact ⟨[],0,rfl,rfl,ak,aI,HA,Below.refl _ _⟩
 case round=>
  obtain ⟨out,i,rfl,rfl,hi,ho,HP,HB⟩:=hrel;obtain ⟨c0,c1,f0,f1⟩:=(HR.out.keep HB.out).cells;have Cv:=aj (HR.out.keep HB.out);by_cases hlt:i<s.length
  · obtain ⟨c,hc⟩:∃ c,s[i]?=some c:=⟨_,List.getElem?_eq_getElem hlt⟩;have hcc:=fun q=>fH s i c hc q;have HC:=aj (show Tm.bP e lit (s.drop i)=_ by obtain ⟨hl2,e2⟩:=List.getElem?_eq_some_iff.1 hc;rw [List.drop_eq_getElem_cons hl2,e2,Tm.Ga]);have Np:(⟨s.toArray⟩:ByteArray).extract (i+1) s.length=⟨(s.drop (i+1)).toArray⟩:=nM s (i+1);have ug:(⟨s.toArray⟩:ByteArray).extract i (i+1)=⟨[c].toArray⟩:=(by rw [oJ,show i+1-i=1 by omega];obtain ⟨hl2,e2⟩:=List.getElem?_eq_some_iff.1 hc;rw [List.drop_eq_getElem_cons hl2,e2];rfl);have qh:=aj (show (s.drop (i+1)).length+(i+1)=s.length by rw [List.length_drop];omega);have hap:=fQ out [c];obtain ⟨r,hrr⟩:=aB (s.drop (i+1));have HRR:=aj hrr;rw [←hrr] at HC Np qh;clear hc hrr;have hce:((c.toNat:Int)==(e.toNat:Int))=decide (c=e):=(by rw [Bool.eq_iff_iff,beq_iff_eq,decide_eq_true_iff];exact ⟨fun h=>UInt8.toNat_inj.1 ak,fun h=>by rw [h]⟩);by_cases h1:c=e;{have HF:=aj (show ANS=some (out,r) by rw [HP.out,HC.out,if_pos h1];simp);rw [decide_eq_true h1] at hce;clear h1 HP HC hap ug;go_wp2;go_ret;exact ⟨by rw [HF.out];rfl,by rw [HF.out];exact Cv.out.set0,(aH.below HB.out).trans (aH.set q wr 0 _)⟩};rw [decide_eq_false h1] at hce;by_cases h2:c=92
    · have hb2:((c.toNat:Int)==92)=true:=beq_iff_eq.2 (by rw [h2];rfl);have ES:=aj (fun w=>YC r lit w (by have:=qh.out;omega));cases hes:Tm.iy lit r with
      | none=>have HF:=aj (show ANS=none by rw [HP.out,HC.out,if_neg h1,if_pos h2,hes];rfl);have nN:Hid (∀ w,Calls prog 225 #[aA r,.bool lit] w fun e w'=>e=.returned (.tuple #[aA [],.int .i64 0])∧Below w.heap.size w w'):=(by rw [hes] at ES;exact ES);clear h1 h2 HP HC hes ES hap ug HRR;(go_wp2_with fail);refine (nN.out _).mono ?_;rintro x w2 ⟨rfl,hb⟩;have HB2:=aj (aJ HB.out hb);have vV:=aj (FA.out w2 (Cv.out.keep hb));clear hb;(go_wp2_with fail);refine vV.out.mono ?_;rintro x w3 ⟨rfl,hr3,hb3⟩;have HR3:=aj hr3;have HB3:=aj hb3;clear hr3 hb3;go_wp2;go_ret;exact ⟨by rw [HF.out];rfl,by rw [HF.out];exact HR3.out,(aH.below HB2.out).trans HB3.out⟩
      | some p=>
       obtain ⟨x,n⟩:=p;obtain ⟨hn1,hn2,rM⟩:=Tm.Gb hes;have hdl:=qh.out;have HF:=aj (show ANS=(Tm.bP e lit (s.drop (i+n+1))).map (fun r=>(out++x++r.1,r.2)) by rw [HP.out,HC.out,if_neg h1,if_pos h2,hes,HRR.out];simp only [Option.map_map];rw [List.drop_drop,show i+1+n=i+n+1 by omega];congr 1;funext z;simp [Function.comp]);have nN:Hid (∀ w,Calls prog 225 #[aA r,.bool lit] w fun e w'=>e=.returned (.tuple #[aA x,.int .i64 (n:Nat)])∧Below w.heap.size w w'):=(by rw [hes] at ES;exact ES);have hn0:((n:Int)==0)=false:=beq_eq_false_iff_ne.2 ak;have aiK:=fQ out x;have hin:i+n+1≤s.length:=ak;have hox:(out++x).length≤4*(i+n+1):=(by rw [List.length_append];omega);have Gc:=aj hox;clear h1 h2 HP HC hes ES hap ug HRR hox hdl;(go_wp2_with fail);refine (nN.out _).mono ?_;rintro z w2 ⟨rfl,hb⟩;have HB2:=aj (aJ HB.out hb);clear hb;go_wp2;go_roundw
       (case rel=>exact ⟨out++x,i+n+1,by rfl,aN,ak,Gc.out,HF,HB2⟩);case measure=>simp [intOf];omega
    · have hb2:((c.toNat:Int)==92)=false:=beq_eq_false_iff_ne.2 (fun h=>h2 (UInt8.toNat_inj.1 (show c.toNat=(92:UInt8).toNat by show c.toNat=92;omega)));by_cases h3:c=10∨c=13;{have HF:=aj (show ANS=none by rw [HP.out,HC.out,if_neg h1,if_neg h2,if_pos h3];rfl);have vV:=aj (FA.out wr Cv.out);rcases h3 with h3 | h3;{have hb3:((c.toNat:Int)==10)=true:=beq_iff_eq.2 (by rw [h3];rfl);clear h1 h2 h3 HP HC hap ug HRR;(go_wp2_with fail);refine vV.out.mono ?_;rintro x w3 ⟨rfl,hr3,hb3⟩;have HR3:=aj hr3;have HB3:=aj hb3;clear hr3 hb3;go_wp2;go_ret;exact ⟨by rw [HF.out];rfl,by rw [HF.out];exact HR3.out,(aH.below HB.out).trans HB3.out⟩};{have hb3:((c.toNat:Int)==10)=false:=(by rw [h3];rfl);have hb4:((c.toNat:Int)==13)=true:=beq_iff_eq.2 (by rw [h3];rfl);clear h1 h2 h3 HP HC hap ug HRR;(go_wp2_with fail);refine vV.out.mono ?_;rintro x w3 ⟨rfl,hr3,hb3⟩;have HR3:=aj hr3;have HB3:=aj hb3;clear hr3 hb3;go_wp2;go_ret;exact ⟨by rw [HF.out];rfl,by rw [HF.out];exact HR3.out,(aH.below HB.out).trans HB3.out⟩}}
      · have HF:=aj (show ANS=(Tm.bP e lit (s.drop (i+1))).map (fun r=>(out++[c]++r.1,r.2)) by rw [HP.out,HC.out,if_neg h1,if_neg h2,if_neg h3,HRR.out];simp only [Option.map_map];congr 1;funext z;simp [Function.comp]);have hb3:((c.toNat:Int)==10)=false:=beq_eq_false_iff_ne.2 (fun h=>h3 (.inl (UInt8.toNat_inj.1 (show c.toNat=(10:UInt8).toNat by show c.toNat=10;omega))));have hb4:((c.toNat:Int)==13)=false:=beq_eq_false_iff_ne.2 (fun h=>h3 (.inr (UInt8.toNat_inj.1 (show c.toNat=(13:UInt8).toNat by show c.toNat=13;omega))));have Gc:=aj (show (out++[c]).length≤4*(i+1) by rw [List.length_append];simp;omega);clear h1 h2 h3 HP HC HRR;go_wp2;go_roundw
        (case rel=>exact ⟨out++[c],i+1,by rfl,aN,ak,Gc.out,HF,HB⟩);case measure=>simp [intOf];omega
  {obtain rfl:i=s.length:=ak;have HF:=aj (show ANS=none by rw [HP.out,List.drop_length];rfl);have vV:=aj (FA.out wr Cv.out);clear HP;(go_wp2_with fail);refine vV.out.mono ?_;rintro x w3 ⟨rfl,hr3,hb3⟩;have HR3:=aj hr3;have HB3:=aj hb3;clear hr3 hb3;go_wp2;go_ret;exact ⟨by rw [HF.out];rfl,by rw [HF.out];exact HR3.out,(aH.below HB.out).trans HB3.out⟩}
open Go.ChangeShapes Go.WideShapes Go.ChangeAt Go.RowKit
def jq (w:World) (b:Nat) (A:List Value) (t:TypeId) (fr:Nat×Nat):Prop:=w.heap[b]?=some (.cells A.toArray t fr)
theorem jq.lt {w:World} {b:Nat} {A:List Value} {t:TypeId} {fr:Nat×Nat} (h:jq w b A t fr):b<w.heap.size:=lt_of_block h
theorem jq.cell {w:World} {b:Nat} {A:List Value} {t:TypeId} {fr:Nat×Nat} (h:jq w b A t fr) {i:Nat} {v:Value} (hv:A[i]?=some v):w.cell? ⟨b,i,none⟩=some v:=by unfold jq at h;simp [World.cell?,h,hv]
theorem jq.free {w:World} {b:Nat} {A:List Value} {t:TypeId} {fr:Nat×Nat} (h:jq w b A t fr) (i:Nat) (hi:i<fr.1):w.frozen? ⟨b,i,none⟩=false:=by unfold jq at h;simp [World.frozen?,h];omega
theorem jq.set {w:World} {b:Nat} {A:List Value} {t:TypeId} {fr:Nat×Nat} (h:jq w b A t fr) (i:Nat) (v:Value):jq (w.setCell ⟨b,i,none⟩ v) b (A.set i v) t fr:=by
 have hlt:=h.lt;unfold jq at *;have h':w.heap[b]=.cells A.toArray t fr:=by simpa [Array.getElem?_eq_getElem hlt] using h
 show (w.heap.modify b _)[b]?=_;rw [Array.getElem?_eq_getElem (by simpa using hlt),Array.getElem_modify_self,h'];simp
theorem YE (l:List UInt8):(⟨l.toArray⟩:ByteArray).size=l.length:=rfl
theorem YF {c:UInt8} (h:c.toNat<65∨90<c.toNat):Tm.lower c=c:=by unfold Tm.lower;rw [if_neg ak]
theorem YG {c:UInt8} (h:65≤c.toNat∧c.toNat≤90):(Tm.lower c).toNat=c.toNat+32:=by unfold Tm.lower;rw [if_pos h];simp;omega
def iW (s:List UInt8) (i:Nat):List UInt8:=(s.take i).map Tm.lower++s.drop i
theorem YH (s:List UInt8) (i:Nat):(iW s i).length=s.length:=by unfold iW;rw [List.length_append,List.length_map,List.length_take,List.length_drop];omega
theorem NC {s:List UInt8} {i:Nat} {c:UInt8} (h:s[i]?=some c):(iW s i)[i]?=some c:=by obtain ⟨hl,e⟩:=List.getElem?_eq_some_iff.1 h;unfold iW;rw [List.getElem?_append_right (by simp;omega)];simp [show min i s.length=i by omega,h]
theorem ND {s:List UInt8} {i:Nat} {c:UInt8} (h:s[i]?=some c):iW s (i+1)=(iW s i).set i (Tm.lower c):=by obtain ⟨hl,e⟩:=List.getElem?_eq_some_iff.1 h;unfold iW;rw [List.set_append_right _ _ (by simp;omega),List.take_add_one,h];simp [show min i s.length=i by omega];rw [List.drop_eq_getElem_cons hl];rfl
theorem YI {s:List UInt8} {i:Nat} {c:UInt8} (h:s[i]?=some c) (hc:Tm.lower c=c):iW s (i+1)=iW s i:=by rw [ND h,hc];obtain ⟨hl,e⟩:=List.getElem?_eq_some_iff.1 (NC h);rw [←e];simp
theorem YJ (s:List UInt8):iW s s.length=s.map Tm.lower:=by unfold iW;simp
theorem YK (A:List UInt8) (pad:List Value) (i:Nat) (c:UInt8) (h:i<A.length):(A.map dI++pad).set i (dI c)=(A.set i c).map dI++pad:=by rw [List.set_append_left _ _ (by simpa using h),List.map_set]
theorem NG {A:List UInt8} {pad:List Value} {i:Nat} {c:UInt8} (h:A[i]?=some c):(A.map dI++pad)[i]?=some (dI c):=by obtain ⟨hl,e⟩:=List.getElem?_eq_some_iff.1 h;rw [List.getElem?_append_left (by simpa using hl)];simp [h]
theorem YL (s:List UInt8) (w:World) (hl:s.length≤1000000000) :
  Calls prog 226 #[aA s] w fun e w'=>e=.returned (aA (s.map Tm.lower))∧Below w.heap.size w w':=by
 have h0:=run_bytes_of_string (P:=prog) w 9 32 5 ⟨s.toArray⟩ underlying9 underlying32 underlying5;obtain ⟨cap,hcap⟩:=aB (grownCap w (⟨s.toArray⟩:ByteArray).size 0 5);have hge:s.length≤cap:=by rw [hcap];exact grownCap_ge _ _ _ _
 rw [←hcap,YE] at h0;obtain ⟨pad,Gd⟩:∃ pad:List Value,(bytesRow ⟨s.toArray⟩ cap).toList=s.map dI++pad:=⟨List.replicate (cap-s.length) (.int .u8 0),by simp [bytesRow,dI,Function.comp_def];rfl⟩;have hsz:s.length≤(bytesRow ⟨s.toArray⟩ cap).size:=by rw [←Array.length_toList,Gd];simp
 obtain ⟨fr,hfr⟩:=aB (((bytesRow ⟨s.toArray⟩ cap).size,(bytesRow ⟨s.toArray⟩ cap).size+1));rw [←hfr] at h0;have aiL:s.length≤fr.1:=by rw [hfr];exact hsz
 obtain ⟨w1,hw1⟩:=aB (w.drew.alloc (.cells (bytesRow ⟨s.toArray⟩ cap) 5 fr));rw [←hw1] at h0;have HB1:=aj (show jq w1 w.heap.size ((iW s 0).map dI++pad) 5 fr by rw [show iW s 0=s by simp [iW],←Gd,hw1];have:=heap_alloc_new w.drew (.cells (bytesRow ⟨s.toArray⟩ cap) 5 fr);unfold jq;rw [Array.toArray_toList];exact this);have HW1:=aj (show Below w.heap.size w w1 by rw [hw1];exact (Below.refl _ _).drew.alloc aF _);clear hcap Gd hsz hfr hw1;go_enter func226,ntmps226;go_wp2;go_loopw [4] (fun s4 wr=>∃ i:Nat,i≤s.length∧s4=.int .i64 i∧Hid (jq wr w.heap.size ((iW s i).map dI++pad) 5 fr)∧Hid (Below w.heap.size w wr)) (fun s4 _=>s.length-(intOf s4).toNat)
 case atStart=>exact ⟨0,ak,rfl,HB1,HW1⟩
 case round=>
  obtain ⟨i,hi,rfl,HK,HB⟩:=hrel;by_cases hlt:i<s.length
  · obtain ⟨c,hc⟩:∃ c,s[i]?=some c:=⟨_,List.getElem?_eq_getElem hlt⟩;have c0:wr.cell? ⟨w.heap.size,i,none⟩=some (.int .u8 (c.toNat:Nat)):=HK.out.cell (NG (NC hc));have f0:=HK.out.free i ak;have hc256:c.toNat<256:=c.toNat_lt;by_cases h:65≤c.toNat∧c.toNat≤90
    · have hlo:=YG h;have HS:=aj (show jq (wr.setCell ⟨w.heap.size,i,none⟩ (.int .u8 ((c.toNat:Int)+32))) w.heap.size ((iW s (i+1)).map dI++pad) 5 fr by have:=HK.out.set i (dI (Tm.lower c));rw [YK _ _ _ _ (by rw [YH];exact hlt),←ND hc] at this;have e:dI (Tm.lower c)=.int .u8 ((c.toNat:Int)+32):=(by unfold dI;rw [hlo];congr 1);rwa [e] at this);have HB2:=aj (show Below w.heap.size w (wr.setCell ⟨w.heap.size,i,none⟩ (.int .u8 ((c.toNat:Int)+32))) from HB.out.setCell aF _);obtain ⟨h1,h2⟩:=h;clear hc hlo;go_wp2;go_roundw
      (case rel=>exact ⟨i+1,ak,aN,HS,HB2⟩);case measure=>simp [intOf];omega
    · have HS:=aj (show jq wr w.heap.size ((iW s (i+1)).map dI++pad) 5 fr by rw [YI hc (YF ak)];exact HK.out);clear hc;rcases (show c.toNat<65∨90<c.toNat by omega) with h3 | h3;all_goals
       clear h
       go_wp2
       go_roundw
       case rel=>exact ⟨i+1,ak,aN,HS,HB⟩
       case measure=>simp [intOf];omega
  {obtain rfl:i=s.length:=ak;have cv:=x9 (P:=prog) wr 32 5 9 underlying32 underlying5 underlying9 (some ⟨w.heap.size,0,none⟩) s.length cap ((s.map Tm.lower).map UInt8.toNat) aI (Or.inr ⟨_,_,rfl,fun j hj=>by rw [Nat.zero_add];have hj':j<(s.map Tm.lower).length:=(by simpa using hj);have:=HK.out.cell (NG (pad:=pad) (A:=iW s s.length) (i:=j) (c:=(s.map Tm.lower)[j]) (by rw [YJ];exact List.getElem?_eq_getElem hj'));rw [this];simp [dI,List.getD,hj]⟩);rw [MR] at cv;go_wp2;go_ret;exact ⟨rfl,HB.out⟩}
namespace Tm
def dM (r:T):Option (Nat×T×T×T):=match bP 34 true r with
 | none=>none
 | some (t,v)=>if v.headD 0=64 then some (4,t,(v.tail.takeWhile dX).map lower,v.tail.dropWhile dX)
  else if v.take 3=[94,94,60] then (bP 62 false (v.drop 3)).map (fun q=>(5,t,q.1,q.2))
  else some (3,t,[],v)
theorem lK {e:UInt8} {lit:Bool}:∀ (n:Nat) {s t v:T},s.length≤n→bP e lit s=some (t,v)→t.length≤4*s.length∧v.length<s.length
 | _,[],t,v,_,h=>by cases h
 | 0,c::s,t,v,hn,_=>by simp at hn
 | n+1,c::s,t,v,hn,h=>by
  rw [Ga] at h
  simp only [List.length_cons] at hn ⊢
  split at h
  · simp only [Option.some.injEq,Prod.mk.injEq] at h
    obtain ⟨rfl,rfl⟩:=h
    simp
  · split at h
    · cases he:iy lit s with
      | none=>rw [he] at h;cases h
      | some p=>
       obtain ⟨x,k⟩:=p
       rw [he] at h
       obtain ⟨h1,h2,h3⟩:=Gb he
       simp only at h
       cases hu:bP e lit (s.drop k) with
       | none=>rw [hu] at h;cases h
       | some z=>
        obtain ⟨t',v'⟩:=z
        rw [hu] at h
        simp only [Option.map_some,Option.some.injEq,Prod.mk.injEq] at h
        obtain ⟨rfl,rfl⟩:=h
        have:=lK n (s:=s.drop k) (by rw [List.length_drop];omega) hu
        rw [List.length_drop] at this
        rw [List.length_append];omega
    · split at h
      · cases h
      · cases hu:bP e lit s with
        | none=>rw [hu] at h;cases h
        | some z=>
         obtain ⟨t',v'⟩:=z
         rw [hu] at h
         simp only [Option.map_some,Option.some.injEq,Prod.mk.injEq] at h
         obtain ⟨rfl,rfl⟩:=h
         have:=lK n ak hu
         simp only [List.length_cons];omega
end Tm
theorem NH {w:World} {b:Nat} {x y z:Value} {t:TypeId} (h:aC w b [x,y,z] t) :
  (∀ o,(w.alloc o).cell? ⟨b,0,none⟩=some x∧(w.alloc o).frozen? ⟨b,0,none⟩=false)∧(∀ o,(w.alloc o).cell? ⟨b,1,none⟩=some y∧(w.alloc o).frozen? ⟨b,1,none⟩=false)∧(∀ o,(w.alloc o).cell? ⟨b,2,none⟩=some z∧(w.alloc o).frozen? ⟨b,2,none⟩=false):=
 ⟨fun o=>⟨(h.alloc o).cell rfl,(h.alloc o).free 0⟩,fun o=>⟨(h.alloc o).cell rfl,(h.alloc o).free 1⟩,fun o=>⟨(h.alloc o).cell rfl,(h.alloc o).free 2⟩⟩
theorem uj {w X:World} {q b:Nat} {x y z v0 v1 v2:Value} {s:List UInt8} {e:Bool} {t:TypeId} (hT:aC X b [x,y,z] t) (hq:Rd X q s e) (hne:b≠q) (hB:aH q w X) (hb:w.heap.size≤b) :
  aC (((X.setCell ⟨b,0,none⟩ v0).setCell ⟨b,1,none⟩ v1).setCell ⟨b,2,none⟩ v2) b [v0,v1,v2] t∧Rd (((X.setCell ⟨b,0,none⟩ v0).setCell ⟨b,1,none⟩ v1).setCell ⟨b,2,none⟩ v2) q s e∧aH q w (((X.setCell ⟨b,0,none⟩ v0).setCell ⟨b,1,none⟩ v1).setCell ⟨b,2,none⟩ v2):=by refine ⟨((hT.set 0 v0).set 1 v1).set 2 v2,aC.other (aC.other (aC.other hq (Ne.symm hne) 0 v0) (Ne.symm hne) 1 v1) (Ne.symm hne) 2 v2,?_⟩;have st:∀ (X:World) (i:Nat) (v:Value),aH q w X→aH q w (X.setCell ⟨b,i,none⟩ v):=fun X i v h=>⟨h.os,h.tape,h.output,by have:=h.size;simpa using this,fun k hk hn=>by rw [Below.heap_setCell _ _ _ _ (by show k≠b;omega)];exact h.block k hk hn⟩;exact st _ _ _ (st _ _ _ (st _ _ _ hB))
theorem vW {fn:Func} {tmps:Array Value} {Z:World} {b:Nat} {v0 v1 v2:Value} (ht:tmps.getD 2 undef=.pointer (some ⟨b,0,none⟩)) (hZ:aC Z b [v0,v1,v2] 61) (hf:fn.results=#[.cell 2 61]) :
  (results fn tmps).run prog Z=.ok (.agg #[v0,v1,v2]) Z:=by
 obtain ⟨h0,h1,h2⟩:=bO hZ;have ht':tmps[2]?.getD undef=.pointer (some ⟨b,0,none⟩):=by simpa using ht
 simp [results,hf,ht',go_sem,h0,h1,h2]
def qj (q:Nat) (w:World) (r:Option (Nat×List UInt8×List UInt8×List UInt8)) (e:Ending) (w':World):Prop:=
 aH q w w'∧match r with
  | none=>(∃ k t x,e=.returned (bG k t x))∧Rd w' q [] true
  | some (k,t,x,v)=>e=.returned (bG (k:Nat) t x)∧Rd w' q v false
theorem YM (q:Nat) (s:List UInt8) (w:World) (hr:Rd w q s false) (hl:s.length≤100000000) (h:Tm.bP 34 true s=none) :
  Calls prog 185 #[bB q] w (qj q w (Tm.dM s)):=by
 have HN:=aj (show Tm.dM s=none by unfold Tm.dM;rw [h]);rw [HN.out];have HR:=aj hr;have UP:=aj (fun w hr=>vU q s false 34 true w hr ak aL aL);rw [h] at UP;have HA:=aj (fun w p (hr:Rd w q [] true) (hp:p.length≤3)=>qg q [] p true w hr aI ak);clear hr h;go_enter func185,ntmps185;go_wp2_with fail
 refine (UP.out _ (HR.out.keep ((Below.refl _ _).alloc aF _))).mono ?_;rintro e w2 ⟨rfl,hr2,hb2⟩;have HR2:=aj (show Rd w2 q [] true from hr2);have hlt:=(HR.out).lt;have HB2:=aj (show aH q w w2 from (aH.below ((Below.refl w.heap.size w).alloc aF _)).trans hb2);have HT2:=aj (aH.blk (aC.new w [.int .i64 0,aA [],aA []] 61) hb2 ak);have hz2:=hb2.size;clear hr2 hb2;have HA1:=aj (fun w (hr:Rd w q [] true)=>HA.out w [64] hr aI);have HA2:=aj (fun w (hr:Rd w q [] true)=>HA.out w [94,94,60] hr aI);obtain ⟨x0,x1,x2⟩:=NH HT2.out;go_wp2_with fail
 refine (HA1.out _ (HR2.out.keep ((Below.refl _ _).alloc aF _))).mono ?_;rintro e w3 ⟨rfl,rfl⟩;go_wp2_with fail
 refine (HA2.out _ (HR2.out.keep ((Below.refl _ _).alloc aF _))).mono ?_;rintro e w3 ⟨rfl,rfl⟩;go_wp2;have HX:=uj (hT:=HT2.out.alloc (.cells #[.int .i64 3,.string ⟨(Cu none).toArray⟩,.string ⟨#[]⟩] 61)) (v0:=.int .i64 3) (v1:=.string ⟨(Cu none).toArray⟩) (v2:=.string ⟨#[]⟩) (hq:=HR2.out.keep ((Below.refl _ _).alloc aF _)) (hne:=ak) (hB:=HB2.out.trans (aH.below ((Below.refl _ _).alloc aF _))) (hb:=Nat.le_refl _);obtain ⟨hx1,hx2,hx3⟩:=HX;exact bodyPost_ret (v:=bG 3 [] []) (vW rfl hx1 results185) rfl ⟨hx3,⟨3,[],[],rfl⟩,hx2⟩
theorem yG (p:UInt8→Bool) (l:List UInt8):(l.takeWhile p).length≤l.length:=by have:=congrArg List.length (List.takeWhile_append_dropWhile (p:=p) (l:=l));rw [List.length_append] at this;omega
theorem aH.fresh {q b:Nat} {w X:World} (h:aH q w X) (hb:w.heap.size≤b) (i:Nat) (v:Value):aH q w (X.setCell ⟨b,i,none⟩ v):=
 ⟨h.os,h.tape,h.output,by have:=h.size;simpa using this,fun k hk hn=>by rw [Below.heap_setCell _ _ _ _ (by show k≠b;omega)];exact h.block k hk hn⟩
theorem take1 (v:List UInt8):decide (v.take ([64]:List UInt8).length=[64])=decide (v.headD 0=64):=by
 cases v with
 | nil=>rfl
 | cons c t=>simp
theorem YN (q:Nat) (s t v:List UInt8) (w:World) (hr:Rd w q s false) (hl:s.length≤100000000) (h:Tm.bP 34 true s=some (t,v)) (h1:v.headD 0≠64) (h3:v.take 3≠[94,94,60]) :
  Calls prog 185 #[bB q] w (qj q w (Tm.dM s)):=by
 have HN:=aj (show Tm.dM s=some (3,t,[],v) by unfold Tm.dM;rw [h];simp only;rw [if_neg h1,if_neg h3]);rw [HN.out];have HR:=aj hr;have hlen:=Tm.lK s.length aF h;have UP:=aj (fun w hr=>vU q s false 34 true w hr ak aL aL);rw [h] at UP;have HA1:=aj (fun w (hr:Rd w q v false)=>qg q v [64] false w hr ak aI);rw [take1,decide_eq_false h1] at HA1;have HA2:=aj (fun w (hr:Rd w q v false)=>qg q v [94,94,60] false w hr ak aI);rw [show decide (v.take ([94,94,60]:List UInt8).length=[94,94,60])=false from decide_eq_false h3] at HA2;clear hr h h1 h3 hlen;go_enter func185,ntmps185;go_wp2_with fail
 refine (UP.out _ (HR.out.keep ((Below.refl _ _).alloc aF _))).mono ?_;rintro e w2 ⟨rfl,hr2,hb2⟩;have HR2:=aj (show Rd w2 q v false from hr2);have hlt:=(HR.out).lt;have HB2:=aj (show aH q w w2 from (aH.below ((Below.refl w.heap.size w).alloc aF _)).trans hb2);have HT2:=aj (aH.blk (aC.new w [.int .i64 0,aA [],aA []] 61) hb2 ak);have hz2:=hb2.size;clear hr2 hb2;obtain ⟨x0,x1,x2⟩:=NH HT2.out;go_wp2_with fail
 refine (HA1.out _ (HR2.out.keep ((Below.refl _ _).alloc aF _))).mono ?_;rintro e w3 ⟨rfl,rfl⟩;go_wp2_with fail
 refine (HA2.out _ (HR2.out.keep ((Below.refl _ _).alloc aF _))).mono ?_;rintro e w3 ⟨rfl,rfl⟩;go_wp2;have HX:=uj (hT:=HT2.out.alloc (.cells #[.int .i64 3,.string ⟨t.toArray⟩,.string ⟨#[]⟩] 61)) (v0:=.int .i64 3) (v1:=.string ⟨t.toArray⟩) (v2:=.string ⟨#[]⟩) (hq:=HR2.out.keep ((Below.refl _ _).alloc aF _)) (hne:=ak) (hB:=HB2.out.trans (aH.below ((Below.refl _ _).alloc aF _))) (hb:=Nat.le_refl _);obtain ⟨hx1,hx2,hx3⟩:=HX;exact bodyPost_ret (v:=bG 3 t []) (vW rfl hx1 results185) rfl ⟨hx3,rfl,hx2⟩
theorem YO (q:Nat) (s t v:List UInt8) (w:World) (hr:Rd w q s false) (hl:s.length≤100000000) (h:Tm.bP 34 true s=some (t,v)) (h1:v.headD 0=64) :
  Calls prog 185 #[bB q] w (qj q w (Tm.dM s)):=by
 have HN:=aj (show Tm.dM s=some (4,t,(v.tail.takeWhile Tm.dX).map Tm.lower,v.tail.dropWhile Tm.dX) by unfold Tm.dM;rw [h];simp only;rw [if_pos h1]);rw [HN.out];have HR:=aj hr;have hlen:=Tm.lK s.length aF h;have UP:=aj (fun w hr=>vU q s false 34 true w hr ak aL aL);rw [h] at UP;have HA1:=aj (fun w (hr:Rd w q v false)=>qg q v [64] false w hr ak aI);rw [take1,decide_eq_true h1] at HA1;obtain ⟨u,rfl⟩:∃ u,v=64::u:=by
  cases v with
  | nil=>exact absurd h1 aL
  | cons c u=>exact ⟨u,by simp only [List.headD_cons] at h1;rw [h1]⟩
 simp only [List.length_cons,List.tail_cons] at hlen ⊢;have RN:=aj (fun w (hr:Rd w q u false)=>Nn q u false true w hr ak);rw [Yu] at RN;have hal:=yG Tm.dX u;have SM:=aj (fun w=>YL (u.takeWhile Tm.dX) w ak);obtain ⟨a,ha⟩:=aB (u.takeWhile Tm.dX);rw [←ha] at RN SM hal ⊢;obtain ⟨d,hd⟩:=aB (u.dropWhile Tm.dX);rw [←hd] at RN ⊢;obtain ⟨m,hm⟩:=aB (a.map Tm.lower);rw [←hm] at SM ⊢;have hex:(⟨(64::u).toArray⟩:ByteArray).extract 1 (u.length+1)=⟨u.toArray⟩:=FR 64 u;have vX:u.length+1≤9223372036854775807:=ak;have hu1:(1:Int)≤(u.length:Int)+1:=ak;clear hr h h1 hlen ha hd hm hal;go_enter func185,ntmps185;go_wp2_with fail
 refine (UP.out _ (HR.out.keep ((Below.refl _ _).alloc aF _))).mono ?_;rintro e w2 ⟨rfl,hr2,hb2⟩;have HR2:=aj (show Rd w2 q (64::u) false from hr2);have hlt:=(HR.out).lt;have HB2:=aj (show aH q w w2 from (aH.below ((Below.refl w.heap.size w).alloc aF _)).trans hb2);have HT2:=aj (aH.blk (aC.new w [.int .i64 0,aA [],aA []] 61) hb2 ak);have hz2:w.heap.size+1≤w2.heap.size:=by have:=hb2.size;simpa using this
 clear hr2 hb2;have lM:=aj (HR2.out.keep ((Below.refl _ _).alloc aF (.cells #[.int .i64 3,.string ⟨t.toArray⟩,.string ⟨#[]⟩] 61)));obtain ⟨c0,c1,f0,f1⟩:=lM.out.cells;go_wp2_with fail
 refine (HA1.out _ lM.out).mono ?_;rintro e w3 ⟨rfl,rfl⟩;go_wp2_with fail
 refine (RN.out _ (lM.out.set0 (t:=u))).mono ?_;rintro e w5 ⟨rfl,fu,hb5⟩;have hq2:q≠w2.heap.size:=by have:=HR2.out.lt;omega
 have dG:=aj (aH.blk (aC.other (HT2.out.alloc (.cells #[.int .i64 3,.string ⟨t.toArray⟩,.string ⟨#[]⟩] 61)) ak 0 (aA u)) hb5 ak);have fE:=aj (aH.blk (aC.other (aC.new w2 [.int .i64 3,.string ⟨t.toArray⟩,.string ⟨#[]⟩] 61) (Ne.symm hq2) 0 (aA u)) hb5 (Ne.symm hq2));have aO:=aj ((HB2.out.trans ((aH.below ((Below.refl _ _).alloc aF _)).trans (aH.set q _ 0 _))).trans hb5);have dz:=aj fu;clear fu hb5 c0 c1 f0 f1;go_wp2_with fail
 refine (SM.out _).mono ?_;rintro e w6 ⟨rfl,hb6⟩;have dP:=aj (dG.out.keep hb6);have cZ:=aj (fE.out.keep hb6);have aU:=aj (aO.out.trans (aH.below hb6));have gD:=aj (dz.out.keep hb6);clear hb6;obtain ⟨d0,d1,d2⟩:=bO cZ.out;obtain ⟨e0,e1,e2⟩:=eX cZ.out;obtain ⟨g0,g1,g2⟩:=bO dP.out;obtain ⟨k0,k1,k2⟩:=eX dP.out;have rO:w.heap.size≠w2.heap.size:=ak;have NI:w2.heap.size≠w.heap.size:=ak;go_wp2;have HX:=uj (hT:=aC.other (aC.other dP.out rO 0 (.int .i64 4)) rO 2 (.string ⟨m.toArray⟩)) (v0:=.int .i64 4) (v1:=.string ⟨t.toArray⟩) (v2:=.string ⟨m.toArray⟩) (hq:=aC.other (aC.other gD.out hq2 0 _) hq2 2 _) (hne:=ak) (hB:=(aU.out.fresh ak 0 _).fresh ak 2 _) (hb:=Nat.le_refl _);obtain ⟨hx1,hx2,hx3⟩:=HX;exact bodyPost_ret (v:=bG 4 t m) (vW rfl hx1 results185) rfl ⟨hx3,rfl,hx2⟩
theorem YP (q:Nat) (s t v:List UInt8) (w:World) (hr:Rd w q s false) (hl:s.length≤100000000) (h:Tm.bP 34 true s=some (t,v)) (h1:v.headD 0≠64) (h3:v.take 3=[94,94,60]) :
  Calls prog 185 #[bB q] w (qj q w (Tm.dM s)):=by
 obtain ⟨u,rfl⟩:∃ u,v=94::94::60::u:=by refine ⟨v.drop 3,?_⟩;have:=List.take_append_drop 3 v;rw [h3] at this;exact this.symm
 have HN:=aj (show Tm.dM s=(Tm.bP 62 false u).map (fun q=>(5,t,q.1,q.2)) by unfold Tm.dM;rw [h];simp only;rw [if_neg h1,if_pos h3];rfl);rw [HN.out];have HR:=aj hr;have hlen:=Tm.lK s.length aF h;simp only [List.length_cons] at hlen;have UP:=aj (fun w hr=>vU q s false 34 true w hr ak aL aL);rw [h] at UP;have HA1:=aj (fun w (hr:Rd w q (94::94::60::u) false)=>qg q _ [64] false w hr (by simp only [List.length_cons];omega) aI);rw [take1,decide_eq_false h1] at HA1;have HA2:=aj (fun w (hr:Rd w q (94::94::60::u) false)=>qg q _ [94,94,60] false w hr (by simp only [List.length_cons];omega) aI);rw [show decide ((94::94::60::u:List UInt8).take ([94,94,60]:List UInt8).length=[94,94,60])=true from decide_eq_true h3] at HA2;have kU:=aj (fun w (hr:Rd w q u false)=>vU q u false 62 false w hr ak aL aL);have hex:(⟨(94::94::60::u).toArray⟩:ByteArray).extract 3 (u.length+1+1+1)=⟨u.toArray⟩:=by have:=nM (94::94::60::u) 3;simpa using this
 have vX:u.length+1+1+1≤9223372036854775807:=ak;have hu1:(3:Int)≤(u.length:Int)+1+1+1:=ak;clear hr h h1 h3 hlen;cases hu:Tm.bP 62 false u with
 | none=>
  rw [hu] at kU;clear hu;go_enter func185,ntmps185;go_wp2_with fail
  refine (UP.out _ (HR.out.keep ((Below.refl _ _).alloc aF _))).mono ?_;rintro e w2 ⟨rfl,hr2,hb2⟩;have HR2:=aj (show Rd w2 q (94::94::60::u) false from hr2);have hlt:=(HR.out).lt;have HB2:=aj (show aH q w w2 from (aH.below ((Below.refl w.heap.size w).alloc aF _)).trans hb2);have HT2:=aj (aH.blk (aC.new w [.int .i64 0,aA [],aA []] 61) hb2 ak);have hz2:w.heap.size+1≤w2.heap.size:=by have:=hb2.size;simpa using this
  clear hr2 hb2;have lM:=aj (HR2.out.keep ((Below.refl _ _).alloc aF (.cells #[.int .i64 3,.string ⟨t.toArray⟩,.string ⟨#[]⟩] 61)));obtain ⟨c0,c1,f0,f1⟩:=lM.out.cells;go_wp2_with fail
  refine (HA1.out _ lM.out).mono ?_;rintro e w3 ⟨rfl,rfl⟩;go_wp2_with fail
  refine (HA2.out _ lM.out).mono ?_;rintro e w3 ⟨rfl,rfl⟩;go_wp2_with fail
  refine (kU.out _ (lM.out.set0 (t:=u))).mono ?_;rintro e w6 ⟨rfl,fu,hb5⟩;have hq2:q≠w2.heap.size:=by have:=HR2.out.lt;omega
  have dP:=aj (aH.blk (aC.other (HT2.out.alloc (.cells #[.int .i64 3,.string ⟨t.toArray⟩,.string ⟨#[]⟩] 61)) ak 0 (aA u)) hb5 ak);have cZ:=aj (aH.blk (aC.other (aC.new w2 [.int .i64 3,.string ⟨t.toArray⟩,.string ⟨#[]⟩] 61) (Ne.symm hq2) 0 (aA u)) hb5 (Ne.symm hq2));have aU:=aj ((HB2.out.trans ((aH.below ((Below.refl _ _).alloc aF _)).trans (aH.set q _ 0 _))).trans hb5);have gD:=aj fu;clear fu hb5 c0 c1 f0 f1;obtain ⟨d0,d1,d2⟩:=bO cZ.out;obtain ⟨e0,e1,e2⟩:=eX cZ.out;obtain ⟨g0,g1,g2⟩:=bO dP.out;obtain ⟨k0,k1,k2⟩:=eX dP.out;have rO:w.heap.size≠w2.heap.size:=ak;have NI:w2.heap.size≠w.heap.size:=ak;go_wp2;have HX:=uj (hT:=aC.other (aC.other dP.out rO 0 (.int .i64 5)) rO 2 (.string ⟨#[]⟩)) (v0:=.int .i64 5) (v1:=.string ⟨t.toArray⟩) (v2:=.string ⟨#[]⟩) (hq:=aC.other (aC.other gD.out hq2 0 _) hq2 2 _) (hne:=ak) (hB:=(aU.out.fresh ak 0 _).fresh ak 2 _) (hb:=Nat.le_refl _);obtain ⟨hx1,hx2,hx3⟩:=HX;exact bodyPost_ret (v:=bG 5 t []) (vW rfl hx1 results185) rfl ⟨hx3,⟨5,t,[],rfl⟩,hx2⟩
 | some p=>
  obtain ⟨x,d⟩:=p;rw [hu] at kU;clear hu;go_enter func185,ntmps185;go_wp2_with fail
  refine (UP.out _ (HR.out.keep ((Below.refl _ _).alloc aF _))).mono ?_;rintro e w2 ⟨rfl,hr2,hb2⟩;have HR2:=aj (show Rd w2 q (94::94::60::u) false from hr2);have hlt:=(HR.out).lt;have HB2:=aj (show aH q w w2 from (aH.below ((Below.refl w.heap.size w).alloc aF _)).trans hb2);have HT2:=aj (aH.blk (aC.new w [.int .i64 0,aA [],aA []] 61) hb2 ak);have hz2:w.heap.size+1≤w2.heap.size:=by have:=hb2.size;simpa using this
  clear hr2 hb2;have lM:=aj (HR2.out.keep ((Below.refl _ _).alloc aF (.cells #[.int .i64 3,.string ⟨t.toArray⟩,.string ⟨#[]⟩] 61)));obtain ⟨c0,c1,f0,f1⟩:=lM.out.cells;go_wp2_with fail
  refine (HA1.out _ lM.out).mono ?_;rintro e w3 ⟨rfl,rfl⟩;go_wp2_with fail
  refine (HA2.out _ lM.out).mono ?_;rintro e w3 ⟨rfl,rfl⟩;go_wp2_with fail
  refine (kU.out _ (lM.out.set0 (t:=u))).mono ?_;rintro e w6 ⟨rfl,fu,hb5⟩;have hq2:q≠w2.heap.size:=by have:=HR2.out.lt;omega
  have dP:=aj (aH.blk (aC.other (HT2.out.alloc (.cells #[.int .i64 3,.string ⟨t.toArray⟩,.string ⟨#[]⟩] 61)) ak 0 (aA u)) hb5 ak);have cZ:=aj (aH.blk (aC.other (aC.new w2 [.int .i64 3,.string ⟨t.toArray⟩,.string ⟨#[]⟩] 61) (Ne.symm hq2) 0 (aA u)) hb5 (Ne.symm hq2));have aU:=aj ((HB2.out.trans ((aH.below ((Below.refl _ _).alloc aF _)).trans (aH.set q _ 0 _))).trans hb5);have gD:=aj fu;clear fu hb5 c0 c1 f0 f1;obtain ⟨d0,d1,d2⟩:=bO cZ.out;obtain ⟨e0,e1,e2⟩:=eX cZ.out;obtain ⟨g0,g1,g2⟩:=bO dP.out;obtain ⟨k0,k1,k2⟩:=eX dP.out;have rO:w.heap.size≠w2.heap.size:=ak;have NI:w2.heap.size≠w.heap.size:=ak;go_wp2;have HX:=uj (hT:=aC.other (aC.other dP.out rO 0 (.int .i64 5)) rO 2 (.string ⟨x.toArray⟩)) (v0:=.int .i64 5) (v1:=.string ⟨t.toArray⟩) (v2:=.string ⟨x.toArray⟩) (hq:=aC.other (aC.other gD.out hq2 0 _) hq2 2 _) (hne:=ak) (hB:=(aU.out.fresh ak 0 _).fresh ak 2 _) (hb:=Nat.le_refl _);obtain ⟨hx1,hx2,hx3⟩:=HX;exact bodyPost_ret (v:=bG 5 t x) (vW rfl hx1 results185) rfl ⟨hx3,rfl,hx2⟩
theorem YQ (q:Nat) (s:List UInt8) (w:World) (hr:Rd w q s false) (hl:s.length≤100000000) :
  Calls prog 185 #[bB q] w (qj q w (Tm.dM s)):=by
 cases h:Tm.bP 34 true s with
 | none=>exact YM q s w hr hl h
 | some p=>obtain ⟨t,v⟩:=p;by_cases h1:v.headD 0=64;{exact YO q s t v w hr hl h h1};{by_cases h3:v.take 3=[94,94,60];{exact YP q s t v w hr hl h h1 h3};{exact YN q s t v w hr hl h h1 h3}}
open Go.ChangeShapes Go.WideShapes Go.ChangeAt Go.RowKit
namespace Tm
def fT (s:T):Option (Nat×T×T×T):=match dO s with
 | none=>none
 | some (k,t,x,v)=>if Tm.is (k:Int) t x=true then some (k,t,x,v.dropWhile dh) else none
theorem yH (r:T):dO (60::r)=(bP 62 false r).map (fun q:T×T=>((1:Nat),q.1,([]:T),q.2)):=rfl
theorem Cw (r:T):dO (95::58::r)=some (2,r.takeWhile dJ,[],r.dropWhile dJ):=rfl
theorem rP (r:T):dO (34::r)=dM r:=by
 unfold dM;show (match up (r.length+1) 34 true r with
   | none=>none
   | some (t,v)=>if v.headD 0=64 then some (4,t,(v.tail.takeWhile dX).map lower,v.tail.dropWhile dX)
    else if v.take 3=[94,94,60] then (up (v.length+1) 62 false (v.drop 3)).map (fun q:T×T=>((5:Nat),t,q.1,q.2))
    else some (3,t,[],v))=_
 unfold bP;cases up (r.length+1) 34 true r with
 | none=>rfl
 | some p=>obtain ⟨t,v⟩:=p;simp only;rw [Ct 62 false (v.length+1) ((v.drop 3).length+1) (v.drop 3) (by rw [List.length_drop];omega) ak]
theorem Gf {s:T} (h1:s.take 1≠[60]) (h2:s.take 2≠[95,58]) (h3:s.take 1≠[34]):dO s=none:=by
 cases s with
 | nil=>rfl
 | cons c r=>
  have a1:c≠60:=fun e=>h1 (by rw [e];rfl);have a3:c≠34:=fun e=>h3 (by rw [e];rfl);show (if c=60 then _ else if c=95 then _ else if c=34 then _ else none)=none;rw [if_neg a1];by_cases a2:c=95
  · rw [if_pos a2,if_neg];intro e;cases r with
    | nil=>exact absurd e aL
    | cons d r=>simp only [List.headD_cons] at e;exact h2 (by rw [a2,e];rfl)
  {rw [if_neg a2,if_neg a3]}
theorem NJ {s:T} {k:Nat} {t x v:T} (h:dM s=some (k,t,x,v)):t.length≤4*s.length∧x.length≤4*s.length∧v.length≤s.length:=by
 unfold dM at h;cases hu:bP 34 true s with
 | none=>rw [hu] at h;cases h
 | some p=>
  obtain ⟨t',v'⟩:=p;rw [hu] at h;have h1:=lK s.length aF hu;simp only at h;split at h;{simp only [Option.some.injEq,Prod.mk.injEq] at h;obtain ⟨rfl,rfl,rfl,rfl⟩:=h;have h2:=yG dX v'.tail;have h3:=congrArg List.length (List.takeWhile_append_dropWhile (p:=dX) (l:=v'.tail));rw [List.length_append] at h3;rw [List.length_tail] at h2 h3;rw [List.length_map];omega}
  · split at h
    · cases hv:bP 62 false (v'.drop 3) with
      | none=>rw [hv] at h;cases h
      | some z=>obtain ⟨a,b⟩:=z;rw [hv] at h;simp only [Option.map_some,Option.some.injEq,Prod.mk.injEq] at h;obtain ⟨rfl,rfl,rfl,rfl⟩:=h;have h2:=lK _ aF hv;rw [List.length_drop] at h2;omega
    {simp only [Option.some.injEq,Prod.mk.injEq] at h;obtain ⟨rfl,rfl,rfl,rfl⟩:=h;simp;omega}
end Tm
structure um (W0 w:World) (q:Nat):Prop where
 vars:dF W0
 below:Below W0.heap.size W0 w
 le:W0.heap.size≤q
theorem um.NK {W0 w w':World} {q:Nat} (h:um W0 w q) (hb:aH q w w'):dF w':=h.vars.keep (hb.into h.below h.le)
theorem um.to {W0 w w':World} {q:Nat} (h:um W0 w q) (hb:aH q w w'):um W0 w' q:=⟨h.vars,hb.into h.below h.le,h.le⟩
theorem yI (p:UInt8→Bool) (l:List UInt8):(l.dropWhile p).length≤l.length:=by have:=congrArg List.length (List.takeWhile_append_dropWhile (p:=p) (l:=l));rw [List.length_append] at this;omega
def NP (q:Nat) (w:World) (s:List UInt8) (wx:World):Prop:=
 ∃ (k:Int) (t x v:List UInt8) (b:Bool),aH q w wx∧aC wx w.heap.size [.int .i64 0,aA [],aA []] 61∧aC wx (w.heap.size+1) [.int .i64 k,aA t,aA x] 61∧Rd wx q v b ∧
  ((b=true∧v=[]∧Tm.fT s=none)∨(b=false∧v.length≤1000000000∧t.length≤1000000000∧x.length≤1000000000∧∃ n:Nat,k=n∧Tm.fT s=if Tm.is k t x=true then some (n,t,x,v.dropWhile dh) else none))
theorem Gg {q b0:Nat} {w X:World} {s v t xx:List UInt8} {k:Int} {b:Bool} {x y z:Value} (hT:aC X b0 [.int .i64 0,aA [],aA []] 61) (hU:aC X (b0+1) [x,y,z] 61) (hR:Rd X q v b) (hB:aH q w X) (hb0:b0=w.heap.size) (hq:q<w.heap.size)
  (ho:(b=true∧v=[]∧Tm.fT s=none)∨(b=false∧v.length≤1000000000∧t.length≤1000000000∧xx.length≤1000000000∧∃ n:Nat,k=n∧Tm.fT s=if Tm.is k t xx=true then some (n,t,xx,v.dropWhile dh) else none)) :
  NP q w s (((X.setCell ⟨b0+1,0,none⟩ (.int .i64 k)).setCell ⟨b0+1,1,none⟩ (aA t)).setCell ⟨b0+1,2,none⟩ (aA xx)):=by obtain ⟨h1,h2,h3⟩:=uj (v0:=.int .i64 k) (v1:=aA t) (v2:=aA xx) hU hR ak hB ak;rw [hb0] at h1 h2 h3 hT ⊢;exact ⟨k,t,xx,v,b,h3,aC.other (aC.other (aC.other hT ak 0 _) ak 1 _) ak 2 _,h1,h2,ho⟩
theorem YR (q:Nat) (s:List UInt8) (w W0:World) (hbase:um W0 w q) (hl:s.length≤10000000) (hr:Rd w q s false) :
  Calls prog 135 #[bB q] w (qj q w (Tm.fT s)):=by
 have HR:=aj hr;have NQ:=aj hbase;have hlt:=hr.lt;clear hr hbase;go_enter func135,ntmps135;go_upto_region 1 with fail
 iterate 14 (first | go_values | go_skip | go_guarded | go_step | go_upon | go_back | go_simp)
 obtain ⟨w2,hw2⟩:=aB ((w.alloc (.cells #[.int .i64 0,.string ⟨#[]⟩,.string ⟨#[]⟩] 61)).alloc (.cells #[.int .i64 0,.string ⟨#[]⟩,.string ⟨#[]⟩] 61));have HB2:=aj (show aH q w w2 by rw [hw2];exact aH.below (((Below.refl w.heap.size w).alloc aF _).alloc aI _));have HT2:=aj (show aC w2 w.heap.size [.int .i64 0,aA [],aA []] 61 by rw [hw2];exact (aC.new w [.int .i64 0,aA [],aA []] 61).alloc (.cells #[.int .i64 0,.string ⟨#[]⟩,.string ⟨#[]⟩] 61));have bC:=aj (show aC w2 (w.heap.size+1) [.int .i64 0,aA [],aA []] 61 by rw [hw2];exact aC.new' aI rfl);have HR2:=aj (show Rd w2 q s false by rw [hw2];exact (HR.out.keep ((Below.refl _ _).alloc aF (.cells #[.int .i64 0,.string ⟨#[]⟩,.string ⟨#[]⟩] 61))).keep ((Below.refl _ _).alloc aF (.cells #[.int .i64 0,.string ⟨#[]⟩,.string ⟨#[]⟩] 61)));rw [←hw2];clear hw2;obtain ⟨b0,hb0⟩:=aB w.heap.size;have hq2:q≠b0+1:=ak;have hq0:q≠b0:=ak;have HB0:=aj hb0;rw [←hb0] at HT2 bC ⊢;clear hb0;go_cut [] (fun wx=>Hid (NP q w s wx))
 case first=>
  have rQ:=aj (fun w h=>qg q s [60] false w h ak aI);have HA1:=aj (fun w h=>qg q s [95,58] false w h ak aI);have HA2:=aj (fun w h=>qg q s [34] false w h ak aI);by_cases h1:s.take 1=[60]
  · rw [show decide (s.take ([60]:List UInt8).length=[60])=true from decide_eq_true h1] at rQ;obtain ⟨u,rfl⟩:∃ u,s=60::u:=⟨s.drop 1,by have:=List.take_append_drop 1 s;rw [h1] at this;exact this.symm⟩;simp only [List.length_cons] at hl;have UP:=aj (fun w (hr:Rd w q u false)=>vU q u false 62 false w hr ak aL aL);have NR:=aj (fun t v h=>Tm.lK (e:=62) (lit:=false) (t:=t) (v:=v) u.length aF h);have uo:=aj (Tm.yH u);obtain ⟨o,ho⟩:=aB (Tm.bP 62 false u);rw [←ho] at UP NR uo;have hex:(⟨(60::u).toArray⟩:ByteArray).extract 1 (u.length+1)=⟨u.toArray⟩:=(by have:=nM (60::u) 1;simpa using this);have vX:u.length+1≤9223372036854775807:=ak;have hu1:(1:Int)≤(u.length:Int)+1:=ak;clear h1 HA1 HA2 ho;(go_wp2_with fail);refine (rQ.out _ HR2.out).mono ?_;rintro e w3 ⟨rfl,rfl⟩;obtain ⟨c0,c1,p2,p3⟩:=HR2.out.cells;(go_wp2_with fail);refine (UP.out _ (HR2.out.set0 (t:=u))).mono ?_;rintro e w5 ⟨rfl,fu,hb5⟩;clear c0 c1 p2 p3;have fE:=aj (aH.blk (aC.other bC.out (Ne.symm hq2) 0 (aA u)) hb5 (Ne.symm hq2));have dG:=aj (aH.blk (aC.other HT2.out ak 0 (aA u)) hb5 ak);have aO:=aj ((HB2.out.trans (aH.set q _ 0 (aA u))).trans hb5);have dz:=aj fu;clear fu hb5;obtain ⟨j0,j1,j2⟩:=bO fE.out;obtain ⟨f0,f1,f2⟩:=eX fE.out;(go_wp2_with fail);go_meet;refine Gg dG.out fE.out dz.out aO.out HB0.out hlt ?_;cases o with
    | none=>exact .inl ⟨rfl,rfl,by unfold Tm.fT;rw [uo.out];rfl⟩
    | some p=>obtain ⟨t,v⟩:=p;have h:=NR.out t v rfl;exact .inr ⟨rfl,show v.length≤_ by omega,show t.length≤_ by omega,aI,1,rfl,by unfold Tm.fT;rw [uo.out];rfl⟩
  · rw [show decide (s.take ([60]:List UInt8).length=[60])=false from decide_eq_false h1] at rQ;by_cases h2:s.take 2=[95,58];{rw [show decide (s.take ([95,58]:List UInt8).length=[95,58])=true from decide_eq_true h2] at HA1;obtain ⟨u,rfl⟩:∃ u,s=95::58::u:=⟨s.drop 2,by have:=List.take_append_drop 2 s;rw [h2] at this;exact this.symm⟩;simp only [List.length_cons] at hl;have hal:=yG Tm.dJ u;have hdl:=yI Tm.dJ u;have RN:=aj (fun w (hr:Rd w q u false)=>Nn q u false false w hr ak);rw [Yt] at RN;have uo:=aj (Tm.Cw u);obtain ⟨a,ha⟩:=aB (u.takeWhile Tm.dJ);obtain ⟨d,hd⟩:=aB (u.dropWhile Tm.dJ);rw [←ha] at RN uo hal;rw [←hd] at RN uo hdl;have hex:(⟨(95::58::u).toArray⟩:ByteArray).extract 2 (u.length+1+1)=⟨u.toArray⟩:=(by have:=nM (95::58::u) 2;simpa using this);have vX:u.length+1+1≤9223372036854775807:=ak;have hu1:(2:Int)≤(u.length:Int)+1+1:=ak;clear h1 h2 HA2 ha hd;(go_wp2_with fail);refine (rQ.out _ HR2.out).mono ?_;rintro e w3 ⟨rfl,rfl⟩;(go_wp2_with fail);refine (HA1.out _ HR2.out).mono ?_;rintro e w3 ⟨rfl,rfl⟩;obtain ⟨c0,c1,p2,p3⟩:=HR2.out.cells;(go_wp2_with fail);refine (RN.out _ (HR2.out.set0 (t:=u))).mono ?_;rintro e w5 ⟨rfl,fu,hb5⟩;clear c0 c1 p2 p3;have fE:=aj (aH.blk (aC.other bC.out (Ne.symm hq2) 0 (aA u)) hb5 (Ne.symm hq2));have dG:=aj (aH.blk (aC.other HT2.out ak 0 (aA u)) hb5 ak);have aO:=aj ((HB2.out.trans (aH.set q _ 0 (aA u))).trans hb5);have dz:=aj fu;clear fu hb5;obtain ⟨j0,j1,j2⟩:=bO fE.out;obtain ⟨f0,f1,f2⟩:=eX fE.out;(go_wp2_with fail);go_meet;exact Gg dG.out fE.out dz.out aO.out HB0.out hlt (.inr ⟨rfl,ak,ak,aI,2,rfl,by unfold Tm.fT;rw [uo.out];rfl⟩)}
    · rw [show decide (s.take ([95,58]:List UInt8).length=[95,58])=false from decide_eq_false h2] at HA1;by_cases h3:s.take 1=[34]
      · rw [show decide (s.take ([34]:List UInt8).length=[34])=true from decide_eq_true h3] at HA2;obtain ⟨u,rfl⟩:∃ u,s=34::u:=⟨s.drop 1,by have:=List.take_append_drop 1 s;rw [h3] at this;exact this.symm⟩;simp only [List.length_cons] at hl;have LI:=aj (show ∀ w,Rd w q u false→Calls prog 185 #[bB q] w fun e w'=>∃ (k:Int) (t x v:List UInt8) (b:Bool),e=.returned (bG k t x)∧aH q w w'∧Rd w' q v b∧Hid ((b=true∧v=[]∧Tm.dM u=none)∨(b=false∧∃ n:Nat,k=n∧Tm.dM u=some (n,t,x,v))) from fun w hr=>by
         refine (YQ q u w hr ak).mono ?_;rintro e w' ⟨yJ,h⟩;cases ho:Tm.dM u with
         | none=>rw [ho] at h;obtain ⟨⟨k,t,x,rfl⟩,hrd⟩:=h;exact ⟨k,t,x,[],true,rfl,yJ,hrd,.inl ⟨rfl,rfl,rfl⟩⟩
         | some a=>obtain ⟨k,t,x,v⟩:=a;rw [ho] at h;obtain ⟨rfl,hrd⟩:=h;exact ⟨_,t,x,v,false,rfl,yJ,hrd,.inr ⟨rfl,k,rfl,rfl⟩⟩)
        have YS:=aj (fun n t x v h=>Tm.NJ (s:=u) (k:=n) (t:=t) (x:=x) (v:=v) h);have hex:(⟨(34::u).toArray⟩:ByteArray).extract 1 (u.length+1)=⟨u.toArray⟩:=(by have:=nM (34::u) 1;simpa using this);have vX:u.length+1≤9223372036854775807:=ak;have hu1:(1:Int)≤(u.length:Int)+1:=ak;clear h1 h2 h3;(go_wp2_with fail);refine (rQ.out _ HR2.out).mono ?_;rintro e w3 ⟨rfl,rfl⟩;(go_wp2_with fail);refine (HA1.out _ HR2.out).mono ?_;rintro e w3 ⟨rfl,rfl⟩;(go_wp2_with fail);refine (HA2.out _ HR2.out).mono ?_;rintro e w3 ⟨rfl,rfl⟩;obtain ⟨c0,c1,p2,p3⟩:=HR2.out.cells;(go_wp2_with fail);refine (LI.out _ (HR2.out.set0 (t:=u))).mono ?_;rintro e w5 ⟨k,t,x,v,b,rfl,hb5,fu,HO⟩;clear c0 c1 p2 p3;have fE:=aj (aH.blk (aC.other bC.out (Ne.symm hq2) 0 (aA u)) hb5 (Ne.symm hq2));have dG:=aj (aH.blk (aC.other HT2.out ak 0 (aA u)) hb5 ak);have aO:=aj ((HB2.out.trans (aH.set q _ 0 (aA u))).trans hb5);have dz:=aj fu;clear fu hb5;obtain ⟨j0,j1,j2⟩:=bO fE.out;obtain ⟨f0,f1,f2⟩:=eX fE.out;(go_wp2_with fail);go_meet;refine Gg dG.out fE.out dz.out aO.out HB0.out hlt ?_;rcases HO.out with ⟨rfl,rfl,ho⟩ | ⟨rfl,n,rfl,ho⟩;{exact .inl ⟨rfl,rfl,by unfold Tm.fT;rw [Tm.rP,ho]⟩};{have h:=YS.out n t x v ho;exact .inr ⟨rfl,ak,ak,ak,n,rfl,by unfold Tm.fT;rw [Tm.rP,ho]⟩}
      {rw [show decide (s.take ([34]:List UInt8).length=[34])=false from decide_eq_false h3] at HA2;have fA:=aj (Tm.Gf h1 h2 h3);clear h1 h2 h3;(go_wp2_with fail);refine (rQ.out _ HR2.out).mono ?_;rintro e w3 ⟨rfl,rfl⟩;(go_wp2_with fail);refine (HA1.out _ HR2.out).mono ?_;rintro e w3 ⟨rfl,rfl⟩;(go_wp2_with fail);refine (HA2.out _ HR2.out).mono ?_;rintro e w3 ⟨rfl,rfl⟩;(go_wp2_with fail);go_meet;have hT:=HT2.out;have hU:=bC.out;rw [HB0.out] at hT hU;exact ⟨0,[],[],s,false,HB2.out,hT,hU,HR2.out,.inr ⟨rfl,ak,aI,aI,0,rfl,by unfold Tm.fT;rw [fA.out];rfl⟩⟩}
 case rest=>
  obtain ⟨k,t,x,v,b,hB,hT,hU,hR,ho⟩:=hcut;have aU:=aj hB;have dP:=aj hT;have cZ:=aj hU;have gD:=aj hR;rw [HB0.out];clear hB hT hU hR HB2 HT2 bC HR2;obtain ⟨d0,d1,d2⟩:=bO cZ.out;obtain ⟨e0,e1,e2⟩:=eX cZ.out;obtain ⟨r0,r1,p0,p1⟩:=gD.out.cells;rcases ho with ⟨rfl,rfl,hn⟩ | ⟨rfl,hv,ht,hx,n,rfl,hn⟩;have BL:=aj (fun w (h:Rd w q [] true)=>F8 q [] true w h aI);have HF:=aj (show ∀ w',aH q w w'→Rd w' q [] true→qj q w (Tm.fT s) (.returned (bG k t x)) w' from fun w' h1 h2=>by rw [hn];exact ⟨h1,⟨k,t,x,rfl⟩,h2⟩);have nO:=dP;have lN:=cZ;have aX:=aU;have gP:=gD;clear hn dP cZ aU gD;rotate_left;have IS:=aj (fun w h=>jD (n:Int) t x w ak ak h);cases hi:Tm.is (n:Int) t x;rw [hi,if_neg aL] at hn;rw [hi] at IS;have HF:=aj (show ∀ w',aH q w w'→Rd w' q [] true→qj q w (Tm.fT s) (.returned (bG n t x)) w' from fun w' h1 h2=>by rw [hn];exact ⟨h1,⟨n,t,x,rfl⟩,h2⟩);have FA:=aj (fun w (h:Rd w q v false)=>Nh q v false w h);have BL:=aj (fun w (h:Rd w q [] true)=>F8 q [] true w h aI);clear hn hi;go_wp2_with fail
  refine (IS.out _ (NQ.out.NK aU.out)).mono ?_;rintro e w7 ⟨rfl,hb⟩;have bS:=aj (aU.out.trans (aH.below hb));have fB:=aj (dP.out.keep hb);have gq:=aj (cZ.out.keep hb);have rR:=aj (gD.out.keep hb);clear hb;go_wp2_with fail
  refine (FA.out _ rR.out).mono ?_;rintro e w8 ⟨rfl,yK,hb⟩;have aX:=aj (bS.out.trans hb);have nO:=aj (aH.blk fB.out hb ak);have lN:=aj (aH.blk gq.out hb ak);have gP:=aj yK;clear hb yK dP cZ aU gD fB gq bS rR;rotate_left;rw [hi,if_pos rfl] at hn;rw [hi] at IS;have HF:=aj (show ∀ w',aH q w w'→Rd w' q (v.dropWhile dh) false→qj q w (Tm.fT s) (.returned (bG n t x)) w' from fun w' h1 h2=>by rw [hn];exact ⟨h1,rfl,h2⟩);have BL:=aj (fun w (h:Rd w q v false)=>F8 q v false w h ak);clear hn hi;go_wp2_with fail
  refine (IS.out _ (NQ.out.NK aU.out)).mono ?_;rintro e w8 ⟨rfl,hb⟩;have aX:=aj (aU.out.trans (aH.below hb));have nO:=aj (dP.out.keep hb);have lN:=aj (cZ.out.keep hb);have gP:=aj (gD.out.keep hb);clear hb dP cZ aU gD;rotate_left;all_goals
   clear d0 d1 d2 e0 e1 e2 r0 r1 p0 p1
   go_wp2_with fail
   refine (BL.out _ gP.out).mono ?_
   rintro e w9 ⟨rfl,NS,hb⟩
   have aK:=aj (aX.out.trans hb)
   have nP:=aj (aH.blk nO.out hb ak)
   have Cx:=aj (aH.blk lN.out hb ak)
   have yL:=aj NS
   clear hb NS
   obtain ⟨d0,d1,d2⟩:=bO Cx.out
   obtain ⟨g0,g1,g2⟩:=bO nP.out
   obtain ⟨k0,k1,k2⟩:=eX nP.out
   go_wp2
   obtain ⟨hx1,hx2,hx3⟩:=uj (hT:=nP.out) (v0:=_) (v1:=aA t) (v2:=aA x) (hq:=yL.out) (hne:=ak) (hB:=aK.out) (hb:=Nat.le_refl _)
   exact bodyPost_ret (v:=bG _ t x) (vW rfl hx1 results135) rfl (HF.out _ hx3 hx2)
end Go.Proofs.YtjaebndajhppgaaGreatDoor
namespace Go.Proofs.YtjaebndajhppgaaGreatDoor.Tm
open Go Go.RowKit
abbrev T3:=Nat×T×T
def rt (s:T):Option (T3×T):=match dO s with
 | none=>none
 | some (k,t,x,v)=>some ((k,t,x),v.dropWhile dh)
def dD (a:T3):Bool:=is (a.1:Int) a.2.1 a.2.2
def point (s:T):Option T:=match s with
 | []=>none
 | c::r=>if c=46 then some (r.dropWhile dh) else none
def mY (s:T):Option ((T3×T3×T3)×T):=match rt s with
 | none=>none
 | some (a,r)=>match rt r with
  | none=>none
  | some (b,u)=>match rt u with
   | none=>none
   | some (c,v)=>match point v with
    | none=>none
    | some z=>some ((a,b,c),z)
def iX (s:T):Bool:=decide (s=[]∨s.head?=some 35)
def aZ (p:T3×T3×T3):Bool:=decide (p.1.1=1∨p.1.1=2) && decide (p.2.1.1=1) && (dD p.1 && dD p.2.1 && dD p.2.2)
def one (s:T):Option (Option (T3×T3×T3)):=
 if Lib.validD s=false then none
 else if iX (s.dropWhile dh)=true then some none
 else match mY (s.dropWhile dh) with
  | none=>none
  | some (p,r)=>if iX r=true∧aZ p=true then some (some p) else none
theorem NT (s:T):fT s=match rt s with
  | none=>none
  | some (a,r)=>if dD a=true then some (a.1,a.2.1,a.2.2,r) else none:=by
 unfold fT rt dD;cases dO s with
 | none=>rfl
 | some p=>obtain ⟨k,t,x,v⟩:=p;rfl
theorem YT {e:UInt8} {lit:Bool} {s t v:T} (h:bP e lit s=some (t,v)):t.length≤4*s.length∧v.length<s.length:=lK s.length aF h
theorem YU {s:T} {k:Nat} {t x v:T} (h:dO s=some (k,t,x,v)):t.length≤4*s.length∧x.length≤4*s.length∧v.length≤s.length∧1≤k∧k≤5:=by
 by_cases h1:s.take 1=[60]
 · obtain ⟨u,rfl⟩:∃ u,s=60::u:=⟨s.drop 1,by have:=List.take_append_drop 1 s;rw [h1] at this;exact this.symm⟩;rw [yH] at h;cases hu:bP 62 false u with
   | none=>rw [hu] at h;cases h
   | some p=>obtain ⟨a,b⟩:=p;rw [hu] at h;simp only [Option.map_some,Option.some.injEq,Prod.mk.injEq] at h;obtain ⟨rfl,rfl,rfl,rfl⟩:=h;have:=YT hu;simp only [List.length_cons,List.length_nil];omega
 · by_cases h2:s.take 2=[95,58];{obtain ⟨u,rfl⟩:∃ u,s=95::58::u:=⟨s.drop 2,by have:=List.take_append_drop 2 s;rw [h2] at this;exact this.symm⟩;rw [Cw] at h;simp only [Option.some.injEq,Prod.mk.injEq] at h;obtain ⟨rfl,rfl,rfl,rfl⟩:=h;have a1:=yG dJ u;have a2:=yI dJ u;simp only [List.length_cons,List.length_nil];omega}
   · by_cases h3:s.take 1=[34]
     · obtain ⟨u,rfl⟩:∃ u,s=34::u:=⟨s.drop 1,by have:=List.take_append_drop 1 s;rw [h3] at this;exact this.symm⟩;rw [rP] at h;have a1:=NJ h;have a2:1≤k∧k≤5:=by
        unfold dM at h;cases hu:bP 34 true u with
        | none=>rw [hu] at h;cases h
        | some p=>
         obtain ⟨t',v'⟩:=p;rw [hu] at h;simp only at h;split at h;{simp only [Option.some.injEq,Prod.mk.injEq] at h;omega}
         · split at h
           · cases hv:bP 62 false (v'.drop 3) with
             | none=>rw [hv] at h;cases h
             | some z=>rw [hv] at h;simp only [Option.map_some,Option.some.injEq,Prod.mk.injEq] at h;omega
           {simp only [Option.some.injEq,Prod.mk.injEq] at h;omega}
       simp only [List.length_cons];omega
     {rw [Gf h1 h2 h3] at h;cases h}
theorem Cy {s:T} {a:T3} {r:T} (h:rt s=some (a,r)):a.2.1.length≤4*s.length∧a.2.2.length≤4*s.length∧r.length≤s.length∧1≤a.1∧a.1≤5:=by
 unfold rt at h;cases hr:dO s with
 | none=>rw [hr] at h;cases h
 | some p=>obtain ⟨k,t,x,v⟩:=p;rw [hr] at h;simp only [Option.some.injEq,Prod.mk.injEq] at h;obtain ⟨rfl,rfl⟩:=h;have h1:=YU hr;have h2:=yI dh v;simp only;omega
end Go.Proofs.YtjaebndajhppgaaGreatDoor.Tm
