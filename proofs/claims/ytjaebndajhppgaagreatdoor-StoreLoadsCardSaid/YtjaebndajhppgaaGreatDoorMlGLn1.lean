/-GLn1-/
import Derived.Test.YtjaebndajhppgaaGreatDoorMlHd1
import Derived.Test.YtjaebndajhppgaaGreatDoorMlTmRIs
import Derived.Deep.LoopGhost
import Derived.Test.YtjaebndajhppgaaGreatDoorMlGTm2
import Derived.Laws.Cover4
import Derived.Laws.IdiomStrings
set_option linter.unusedVariables false
set_option linter.unusedSimpArgs false
set_option maxRecDepth 100000
set_option maxHeartbeats 4000000
namespace Go.Proofs.YtjaebndajhppgaaGreatDoor
open Go.Proofs.Tryz
open Go.ChangeShapes Go.WideShapes Go.ChangeAt Go.RowKit
def Rd (w:World) (q:Nat) (s:List UInt8) (e:Bool):Prop:=ak w q [str s,.bool e] 202
abbrev bB (q:Nat):Value:=.pointer (some ⟨q,0,none⟩)
theorem Rd.cells {w:World} {q:Nat} {s:List UInt8} {e:Bool} (h:Rd w q s e):w.cell? ⟨q,0,none⟩=some (str s)∧w.cell? ⟨q,1,none⟩=some (.bool e)∧w.frozen? ⟨q,0,none⟩=false∧w.frozen? ⟨q,1,none⟩=false:=
 ⟨ak.cell h rfl,ak.cell h rfl,ak.free h 0,ak.free h 1⟩
theorem Rd.keep {w w':World} {q:Nat} {s:List UInt8} {e:Bool} (h:Rd w q s e) (hb:Below w.heap.size w w'):Rd w' q s e:=ak.keep h hb
theorem Rd.set0 {w:World} {q:Nat} {s t:List UInt8} {e:Bool} (h:Rd w q s e):Rd (w.setCell ⟨q,0,none⟩ (str t)) q t e:=ak.set h 0 _
theorem Rd.set1 {w:World} {q:Nat} {s:List UInt8} {e f:Bool} (h:Rd w q s e):Rd (w.setCell ⟨q,1,none⟩ (.bool f)) q s f:=ak.set h 1 _
def But (q:Nat) (w w':World):Prop:=w.grownBy w' (some q)
theorem But.refl (q:Nat) (w:World):But q w w:=⟨rfl,rfl,rfl,Nat.le_refl _,fun _ _ _=>rfl⟩
theorem But.trans {q:Nat} {a b c:World} (h:But q a b) (k:But q b c):But q a c:=
 ⟨k.os.trans h.os,k.tape.trans h.tape,k.output.trans h.output,Nat.le_trans h.size k.size,fun i hi hn=>(k.block i (Nat.lt_of_lt_of_le hi h.size) hn).trans (h.block i hi hn)⟩
theorem But.below {q:Nat} {a b:World} (h:Below a.heap.size a b):But q a b:=⟨h.os,h.tape,h.output,h.size,fun i hi _=>h.block i hi⟩
theorem But.set (q:Nat) (w:World) (i:Nat) (v:Value):But q w (w.setCell ⟨q,i,none⟩ v):=
 ⟨rfl,rfl,rfl,aC,fun k hk hn=>Below.heap_setCell _ _ _ _ (by simpa using fun e=>hn (by rw [e]))⟩
theorem But.drawn (q:Nat) (w:World) (n:Nat):But q w (w.drewN n):=⟨rfl,rfl,rfl,Nat.le_refl _,fun _ _ _=>rfl⟩
theorem But.into {q:Nat} {a b c:World} (hb:Below a.heap.size a b) (h:But q b c) (hq:a.heap.size≤q):Below a.heap.size a c:=
 hb.grown h hb.size (fun k hk=>by cases hk;exact hq)
theorem But.blk {q k:Nat} {w w':World} {A:List Value} {t:TypeId} (h:ak w k A t) (hb:But q w w') (hk:k≠q):ak w' k A t:=by unfold ak;rw [hb.block k h.lt (by simpa using hk)];exact h
theorem wu (q:Nat) (s:List UInt8) (e:Bool) (w:World) (h:Rd w q s e) :
  Calls prog 186 #[bB q] w fun x w'=>x=.returned (.tuple #[])∧Rd w' q [] true∧But q w w':=by obtain ⟨c0,c1,f0,f1⟩:=h.cells;go_enter func186,ntmps186;go_wp2;refine bodyPost_end (v:=.tuple #[]) aD rfl ?_;exact ⟨rfl,(h.set0).set1,(But.set q w 0 _).trans (But.set q _ 1 _)⟩
theorem dU (q:Nat) (s p:List UInt8) (e:Bool) (w:World) (hr:Rd w q s e) (hl:s.length≤9223372036854775807) (hp:p.length≤9223372036854775807) :
  Calls prog 134 #[bB q,str p] w fun x w'=>x=.returned (.bool (decide (s.take p.length=p)))∧w=w':=by obtain ⟨c0,c1,f0,f1⟩:=hr.cells;clear c1 f0 f1 hr;by_cases h:p.length≤s.length;{have hz:(p.length:Int)≤(s.length:Int):=aj;have ht:=tY s p.length;have hx:((s.take p.length)==p)=decide (s.take p.length=p):=(by rw [Bool.eq_iff_iff];simp);go_enter func134,ntmps134;go_wp2;go_ret;exact ⟨aC,rfl⟩};{have hz:(s.length:Int)<(p.length:Int):=aj;have HN:=hid (show decide (s.take p.length=p)=false by rw [decide_eq_false_iff_not];intro he;have:=congrArg List.length he;rw [List.length_take] at this;omega);go_enter func134,ntmps134;go_wp2;go_ret;exact ⟨by rw [HN.out];rfl,rfl⟩}
def bE (c:UInt8):Bool:=c==32 || c==9
theorem Jl {c:UInt8} (h:c.toNat=32∨c.toNat=9):bE c=true:=by unfold bE;rcases h with h | h;{rw [UInt8.toNat_inj.1 (show c.toNat=(32:UInt8).toNat from h)];rfl};{rw [UInt8.toNat_inj.1 (show c.toNat=(9:UInt8).toNat from h)];rfl}
theorem Jm {c:UInt8} (h:c.toNat≠32∧c.toNat≠9):bE c=false:=by unfold bE;rw [Bool.or_eq_false_iff,beq_eq_false_iff_ne,beq_eq_false_iff_ne];exact ⟨fun e=>h.1 (by rw [e];rfl),fun e=>h.2 (by rw [e];rfl)⟩
theorem h_ (q:Nat) (s:List UInt8) (e:Bool) (w:World) (hr:Rd w q s e) (hl:s.length≤9223372036854775807) :
  Calls prog 133 #[bB q] w fun x w'=>x=.returned (.tuple #[])∧Rd w' q (s.dropWhile bE) e∧But q w w':=by
 have HR:=hid hr;clear hr;go_enter func133,ntmps133;go_wp2;go_loopg [] s.length (fun gk wr=>∃ t:List UInt8,t.length≤gk∧t.length≤s.length∧Hid (Rd wr q t e)∧Hid (But q w wr)∧Hid (t.dropWhile bE=s.dropWhile bE))
 case atStart=>exact ⟨s,aj,aj,HR,But.refl _ _,rfl⟩
 case round=>
  obtain ⟨t,hg,hts,HT,HB,HD⟩:=hrel;obtain ⟨c0,c1,f0,f1⟩:=HT.out.cells;cases t with
  | nil=>go_wp2;refine bodyPost_end (v:=.tuple #[]) aD rfl ?_;exact ⟨rfl,by rw [←HD.out];exact HT.out,HB.out⟩
  | cons c u=>
   have hcc:=fun q=>eX (c::u) 0 c rfl q;have hem:((c::u:List UInt8) != [])=true:=rfl;have hlu:u.length+1≤gk:=(by simpa using hg);have Jo:u.length+1≤9223372036854775807:=(by simp only [List.length_cons] at hts;omega);have hex:(⟨(c::u).toArray⟩:ByteArray).extract 1 (u.length+1)=⟨u.toArray⟩:=CQ c u;by_cases h:c.toNat=32∨c.toNat=9
   · have HD2:=hid (show u.dropWhile bE=s.dropWhile bE by rw [←HD.out,List.dropWhile_cons,Jl h];rfl);have HT2:=hid (HT.out.set0 (t:=u));have HB2:=hid (HB.out.trans (But.set q wr 0 (str u)));have Jp:u.length≤s.length:=(by simp only [List.length_cons] at hts;omega);clear hg hts;rcases h with h | h
     · have b1:((c.toNat:Int)==32)=true:=beq_iff_eq.2 aj;clear h;go_wp2;go_roundg u.length
       (case measure=>omega);case rel=>exact ⟨u,aj,Jp,HT2,HB2,HD2⟩
     · have b1:((c.toNat:Int)==32)=false:=beq_eq_false_iff_ne.2 aj;have b2:((c.toNat:Int)==9)=true:=beq_iff_eq.2 aj;clear h;go_wp2;go_roundg u.length
       (case measure=>omega);case rel=>exact ⟨u,aj,Jp,HT2,HB2,HD2⟩
   {have HD2:=hid (show c::u=s.dropWhile bE by rw [←HD.out,List.dropWhile_cons,Jm aj];rfl);have b1:((c.toNat:Int)==32)=false:=beq_eq_false_iff_ne.2 aj;have b2:((c.toNat:Int)==9)=false:=beq_eq_false_iff_ne.2 aj;clear h;go_wp2;refine bodyPost_end (v:=.tuple #[]) aD rfl ?_;exact ⟨rfl,by rw [←HD2.out];exact HT.out,HB.out⟩}
def mI (d:Bool) (c:UInt8):Bool:=Tm.dS c || (d && c==45)
theorem Jq:mI false=Tm.dS:=by funext c;simp [mI]
theorem Sg:mI true=Tm.fq:=by funext c;simp [mI,Tm.fq]
theorem wz (p:UInt8→Bool):∀ (s:List UInt8) (n:Nat),n≤s.length→(s.take n).all p=true→(∀ c,s[n]?=some c→p c=false)→s.takeWhile p=s.take n∧s.dropWhile p=s.drop n
 | [],0,_,_,_=>⟨rfl,rfl⟩
 | [],n+1,h,_,_=>by simp at h
 | c::s,0,_,_,h=>by have:=h c rfl;simp [this]
 | c::s,n+1,hn,ha,h=>by
  rw [List.take_succ_cons,List.all_cons,Bool.and_eq_true] at ha
  have ih:=wz p s n (by simpa using hn) ha.2 (fun d hd=>h d (by simpa using hd))
  simp [ha.1,ih.1,ih.2]
theorem Dk (q:Nat) (s:List UInt8) (e d:Bool) (w:World) (hr:Rd w q s e) (hl:s.length≤9223372036854775806) :
  Calls prog 184 #[bB q,.bool d] w fun x w'=>x=.returned (str (s.takeWhile (mI d)))∧Rd w' q (s.dropWhile (mI d)) e∧But q w w':=by
 have HR:=hid hr;obtain ⟨c0,c1,f0,f1⟩:=hr.cells;clear hr;go_enter func184,ntmps184;go_wp2;go_loop [5] (fun s5=>∃ n:Nat,n≤s.length∧s5=.int .i64 n∧Hid ((s.take n).all (mI d)=true)) (fun s5=>s.length-(intOf s5).toNat)
 case atStart=>exact ⟨0,aj,rfl,by simp [Hid]⟩
 case round=>
  obtain ⟨n,hn,rfl,HA⟩:=hrel;have Jr:(⟨s.toArray⟩:ByteArray).extract 0 n=⟨(s.take n).toArray⟩:=tY s n;have rQ:(⟨s.toArray⟩:ByteArray).extract n s.length=⟨(s.drop n).toArray⟩:=gQ s n;by_cases hlt:n<s.length
  · obtain ⟨c,hc⟩:∃ c,s[n]?=some c:=⟨_,List.getElem?_eq_getElem hlt⟩;have hcc:=fun q=>eX s n c hc q;have HS:=hid (fun hf=>vW (f:=mI d) HA.out hc hf);have HN:=hid (fun (hf:mI d c=false)=>wz (mI d) s n hn HA.out (fun c' hc'=>by rw [hc] at hc';cases hc';exact hf));have HU:=hid (show mI d c=(Tm.dS c || (d && c==45)) from rfl);have AL:=hid (fun w=>(IJ c w).mono (R':=fun e w'=>e=.returned (.bool (Tm.dS c))∧w=w') fun _ _ h=>⟨h.1,h.2.symm⟩);obtain ⟨a,ha⟩:=aA (Tm.dS c);rw [←ha] at AL HU;have hb:((c.toNat:Int)==45)=(c==45):=(by rw [Bool.eq_iff_iff,beq_iff_eq,beq_iff_eq];constructor;{intro h;exact UInt8.toNat_inj.1 (show c.toNat=(45:UInt8).toNat by show c.toNat=45;omega)};{rintro rfl;rfl});obtain ⟨b,hbb⟩:=aA ((c==45));rw [←hbb] at HU hb;clear hc HA ha hbb;cases a <;> cases d <;> cases b;all_goals
     go_wp2_with (go_at_call 191;refine (AL.out _).mono ?_;rintro x w' ⟨rfl,rfl⟩)
    all_goals first
     | (go_round
        case rel=>exact ⟨n+1,aj,aN,HS.out (by rw [HU.out];rfl)⟩
        case measure=>simp [intOf];omega)
     | (have h2:=HN.out (by rw [HU.out];rfl)
        go_ret
        exact ⟨by rw [h2.1];rfl,by rw [h2.2];exact HR.out.set0,But.set q w 0 _⟩)
  {obtain rfl:n=s.length:=aj;have HT:=hid (wz (mI d) s s.length hn HA.out (fun c' hc'=>by simp at hc'));clear HA;go_wp2;go_ret;exact ⟨by rw [HT.out.1,List.take_length];rfl,by rw [HT.out.2,List.drop_length];exact HR.out.set0 (t:=[]),But.set q w 0 _⟩}
theorem Js (i:Nat) (h:i<8):16 ^ i≤268435456:=by rcases (show i=0∨i=1∨i=2∨i=3∨i=4∨i=5∨i=6∨i=7 by omega) with rfl | rfl | rfl | rfl | rfl | rfl | rfl | rfl <;> decide
theorem Jt (k:Nat) (s:List UInt8) (i x:Nat) (c:UInt8) (h:s[i]?=some c):Tm.eH (k+1) (s.drop i) x=match Tm.jO c with
  | none=>none
  | some d=>Tm.eH k (s.drop (i+1)) (x*16+d):=by obtain ⟨hl,e⟩:=List.getElem?_eq_some_iff.1 h;rw [List.drop_eq_getElem_cons hl,e];rfl
theorem zG:∀ (n:Nat) (s:List UInt8) (x:Nat),s.length<n→Tm.eH n s x=none
 | 0,s,x,h=>aj
 | n+1,[],x,h=>rfl
 | n+1,c::t,x,h=>by
  unfold Tm.eH
  cases Tm.jO c with
  | none=>rfl
  | some d=>exact zG n t _ (by simpa using h)
def wB (r:Option Nat):Option Nat:=match r with
 | none=>none
 | some x=>if 1114111<x∨(55296≤x∧x≤57343) then none else some x
def Si (r:Option Nat):Int:=match r with
 | none=>-1
 | some x=>x
theorem Ju {c:UInt8} (h:48≤c.toNat∧c.toNat≤57):Tm.jO c=some (c.toNat-48):=by unfold Tm.jO;rw [if_pos h]
theorem Jv {c:UInt8} (h:97≤c.toNat∧c.toNat≤102):Tm.jO c=some (c.toNat-87):=by unfold Tm.jO;rw [if_neg aj,if_pos h]
theorem Jw {c:UInt8} (h:65≤c.toNat∧c.toNat≤70):Tm.jO c=some (c.toNat-55):=by unfold Tm.jO;rw [if_neg aj,if_neg aj,if_pos h]
theorem Jy {c:UInt8} (h:c.toNat<48∨(57<c.toNat∧c.toNat<65)∨(70<c.toNat∧c.toNat<97)∨102<c.toNat):Tm.jO c=none:=by unfold Tm.jO;rw [if_neg aj,if_neg aj,if_neg aj]
theorem Sj (s:List UInt8) (n:Nat) (w:World) (hn:n≤8) (hl:s.length≤9223372036854775807) :
  Calls prog 247 #[str s,.int .i64 (n:Nat)] w fun e w'=>e=.returned (.int .i32 (Si (Tm.cO n s)))∧w=w':=by
 by_cases hs:s.length<n;{have HE:=hid (show Tm.cO n s=none by unfold Tm.cO;rw [zG n s 0 hs]);have hz:(s.length:Int)<(n:Int):=aj;go_enter func247,ntmps247;go_wp2;go_ret;exact ⟨by rw [HE.out];rfl,rfl⟩}
 · obtain ⟨ANS,hA⟩:=aA (Tm.eH n s 0);have HR:=hid (show Tm.cO n s=wB ANS by rw [hA];rfl);have HA:=hid (show ANS=Tm.eH (n-0) (s.drop 0) 0 from hA);have hz:(n:Int)≤(s.length:Int):=aj;clear hA;go_enter func247,ntmps247;go_wp2;go_loop [5,6,7] (fun s5 s6 _=>∃ i x:Nat,i≤n∧s6=.int .i64 i∧s5=.int .i64 x∧Hid (x<16 ^ i)∧Hid (ANS=Tm.eH (n-i) (s.drop i) x)) (fun _ s6 _=>n-(intOf s6).toNat)
   (case atStart=>exact ⟨0,0,aj,rfl,rfl,(by decide:(0:Nat)<16 ^ 0),HA⟩);case round=>
    obtain ⟨i,x,hi,rfl,rfl,HX,HL⟩:=hrel;by_cases hlt:i<n
    · have hx:x<268435456:=Nat.lt_of_lt_of_le HX.out (Js i aj);obtain ⟨c,hc⟩:∃ c,s[i]?=some c:=⟨_,List.getElem?_eq_getElem aj⟩;have hcc:=fun q=>eX s i c hc q;have HS:=hid (Jt (n-(i+1)) s i x c hc);have rR:=hid (show ANS=Tm.eH (n-(i+1)+1) (s.drop i) x by rw [HL.out];congr 1;omega);have HP:=hid (fun d (hd:d<16)=>show x*16+d<16 ^ (i+1) by have:=HX.out;rw [Nat.pow_succ];omega);have hc256:c.toNat<256:=c.toNat_lt;clear hc HX HL;rcases (show (c.toNat<48∨(57<c.toNat∧c.toNat<65)∨(70<c.toNat∧c.toNat<97)∨102<c.toNat)∨(48≤c.toNat∧c.toNat≤57)∨(97≤c.toNat∧c.toNat≤102)∨(65≤c.toNat∧c.toNat≤70) by omega) with h | ⟨h,h'⟩ | ⟨h,h'⟩ | ⟨h,h'⟩
      · have HF:=hid (show Tm.cO n s=none by rw [HR.out,rR.out,HS.out,Jy h];rfl);rcases h with h | ⟨h,h'⟩ | ⟨h,h'⟩ | h;all_goals
         go_wp2
         go_ret
         exact ⟨by rw [HF.out];rfl,rfl⟩
      · have HF:=hid (show ANS=Tm.eH (n-(i+1)) (s.drop (i+1)) (x*16+(c.toNat-48)) by rw [rR.out,HS.out,Ju ⟨h,h'⟩]);have ku:=hid (HP.out (c.toNat-48) aj);clear HS rR HP;go_wp2;go_round
        (case rel=>exact ⟨i+1,x*16+(c.toNat-48),aj,aN,by congr 1;omega,ku,HF⟩);case measure=>simp [intOf];omega
      · have HF:=hid (show ANS=Tm.eH (n-(i+1)) (s.drop (i+1)) (x*16+(c.toNat-87)) by rw [rR.out,HS.out,Jv ⟨h,h'⟩]);have ku:=hid (HP.out (c.toNat-87) aj);clear HS rR HP;go_wp2;go_round
        (case rel=>exact ⟨i+1,x*16+(c.toNat-87),aj,aN,by congr 1;omega,ku,HF⟩);case measure=>simp [intOf];omega
      · have HF:=hid (show ANS=Tm.eH (n-(i+1)) (s.drop (i+1)) (x*16+(c.toNat-55)) by rw [rR.out,HS.out,Jw ⟨h,h'⟩]);have ku:=hid (HP.out (c.toNat-55) aj);clear HS rR HP;go_wp2;go_round
        (case rel=>exact ⟨i+1,x*16+(c.toNat-55),aj,aN,by congr 1;omega,ku,HF⟩);case measure=>simp [intOf];omega
    {obtain rfl:i=n:=aj;have HF:=hid (show ANS=some x by rw [HL.out,Nat.sub_self];rfl);have hx:x<4294967296:=Nat.lt_of_lt_of_le HX.out (Nat.le_trans (Nat.pow_le_pow_right aj hn) aH);clear HX HL;rcases (show 1114111<x∨(x≤1114111∧55296≤x∧x≤57343)∨x<55296∨(x≤1114111∧57343<x) by omega) with h | ⟨h,h2,h3⟩ | h | ⟨h,h2⟩;{have HG:=hid (show Tm.cO i s=none by rw [HR.out,HF.out];unfold wB;simp only;rw [if_pos (.inl h)]);clear HR HF;go_wp2;go_ret;exact ⟨by rw [HG.out];rfl,rfl⟩};{have HG:=hid (show Tm.cO i s=none by rw [HR.out,HF.out];unfold wB;simp only;rw [if_pos (.inr ⟨h2,h3⟩)]);clear HR HF;go_wp2;go_ret;exact ⟨by rw [HG.out];rfl,rfl⟩};{have HG:=hid (show Tm.cO i s=some x by rw [HR.out,HF.out];unfold wB;simp only;rw [if_neg aj]);clear HR HF;go_wp2;go_ret;exact ⟨by rw [HG.out];rfl,rfl⟩};{have HG:=hid (show Tm.cO i s=some x by rw [HR.out,HF.out];unfold wB;simp only;rw [if_neg aj]);clear HR HF;go_wp2;go_ret;exact ⟨by rw [HG.out];rfl,rfl⟩}}
def zH (r:Option (List UInt8×Nat)):List UInt8:=match r with
 | none=>[]
 | some p=>p.1
def zI (r:Option (List UInt8×Nat)):Nat:=match r with
 | none=>0
 | some p=>p.2
theorem Sk (r:Nat):Value.string (runesBytes [(r:Int)])=str (Tm.gI r):=by
 unfold runesBytes Tm.gI str;simp only [List.foldl_cons,List.foldl_nil];generalize Utf8.encode (r:Int)=B;have:ByteArray.empty++B=⟨B.data.toList.toArray⟩:=by apply ByteArray.ext;rw [ByteArray.data_append];simp
 rw [this]
theorem Sl (w:World) (r:Nat):(convert 251 9 (.slice (some ⟨w.heap.size,0,none⟩) 1 1)).run prog (w.alloc (.cells #[.int .i32 (r:Int)] 21))=.ok (str (Tm.gI r)) (w.alloc (.cells #[.int .i32 (r:Int)] 21)):=by
 rw [←Sk];exact run_convert_runes (P:=prog) _ 251 9 21 ⟨w.heap.size,0,none⟩ 1 1 [(r:Int)] (Nat.le_refl 1) underlying251 underlying21 underlying9 (fun j hj=>by
  rw [ji rfl,Nat.zero_add,gB];match j,hj with
  | 0,_=>rfl
  | j+1,h=>exact absurd h aC)
def mJ:List UInt8:=[34,92,110,114,116,98,102,39]
def qA:List UInt8:=[34,92,10,13,9,8,12,39]
theorem Sm:∀ k:Fin 8,Tm.letter (mJ.getD k.val 0)=some (qA.getD k.val 0):=aH
theorem Sn (c:UInt8) (h:∀ j,j<8→mJ.getD j 0≠c):Tm.letter c=none:=by have e:∀ j,j<8→c≠mJ.getD j 0:=fun j hj he=>h j hj he.symm;have e0:c≠34:=e 0 aj;have e1:c≠92:=e 1 aj;have e2:c≠110:=e 2 aj;have e3:c≠114:=e 3 aj;have e4:c≠116:=e 4 aj;have e5:c≠98:=e 5 aj;have e6:c≠102:=e 6 aj;have e7:c≠39:=e 7 aj;unfold Tm.letter;rw [if_neg e0,if_neg e1,if_neg e2,if_neg e3,if_neg e4,if_neg e5,if_neg e6,if_neg e7]
theorem Jz (c:UInt8) (t:List UInt8) (lit:Bool) (n:Nat) (h:(c=117∧n=4)∨(c=85∧n=8)) (w:World) (hl:(c::t).length≤9223372036854775807) :
  Calls prog 225 #[str (c::t),.bool lit] w fun e w'=>e=.returned (.tuple #[str (zH ((Tm.cO n t).map fun x=>(Tm.gI x,n+1))),.int .i64 (zI ((Tm.cO n t).map fun x=>(Tm.gI x,n+1)))])∧Below w.heap.size w w':=by
 have HX:=hid (fun w=>Sj t n w aj (by simp only [List.length_cons] at hl;omega));have hcc:=fun q=>eX (c::t) 0 c rfl q;have hem:((c::t:List UInt8)==[])=false:=rfl;have Jo:t.length+1≤9223372036854775807:=by simpa using hl
 have hex:(⟨(c::t).toArray⟩:ByteArray).extract 1 (t.length+1)=⟨t.toArray⟩:=CQ c t;clear hl;cases hr:Tm.cO n t with
 | none=>
  rw [hr] at HX;rcases h with ⟨rfl,rfl⟩ | ⟨rfl,rfl⟩;all_goals
   clear hr
   go_enter func225,ntmps225
   go_wp2_with (go_at_call 247;refine (HX.out _).mono ?_;rintro e w' ⟨rfl,rfl⟩)
   go_ret2
   exact ⟨rfl,Below.refl _ _⟩
 | some x=>
  rw [hr] at HX;have fO:Hid (∀ w,Calls prog 247 #[str t,.int .i64 (n:Nat)] w fun e w'=>e=.returned (.int .i32 (x:Int))∧w=w'):=HX;have cv:=Sl w x;rw [Option.map_some];obtain ⟨R,hR⟩:=aA (Tm.gI x);rw [←hR] at cv ⊢;rw [show zH (some (R,n+1))=R from rfl,show zI (some (R,n+1))=n+1 from rfl];clear hR;have hx0:(0:Int)≤(x:Int):=aj;clear HX;rcases h with ⟨rfl,rfl⟩ | ⟨rfl,rfl⟩;all_goals
   clear hr
   go_enter func225,ntmps225
   go_wp2_with (go_at_call 247;refine (fO.out _).mono ?_;rintro e w' ⟨rfl,rfl⟩)
   go_ret2
   exact ⟨rfl,(Below.refl _ _).alloc ay _⟩
theorem Sq (c:UInt8) (t:List UInt8) (lit:Bool) (h:c≠117∧c≠85) (w:World) (hl:(c::t).length≤9223372036854775807) :
  Calls prog 225 #[str (c::t),.bool lit] w fun e w'=>e=.returned (.tuple #[str (zH (if lit then (Tm.letter c).map (fun d=>([d],1)) else none)),.int .i64 (zI (if lit then (Tm.letter c).map (fun d=>([d],1)) else none))])∧Below w.heap.size w w':=by
 have hcc:=fun q=>eX (c::t) 0 c rfl q;have hem:((c::t:List UInt8)==[])=false:=rfl;have n1:c.toNat≠117:=fun e=>h.1 (UInt8.toNat_inj.1 e);have n2:c.toNat≠85:=fun e=>h.2 (UInt8.toNat_inj.1 e);have b1:((c.toNat:Int)==117)=false:=beq_eq_false_iff_ne.2 aj;have b2:((c.toNat:Int)==85)=false:=beq_eq_false_iff_ne.2 aj;have Jo:t.length+1≤9223372036854775807:=by simpa using hl
 clear n1 n2 h hl;cases lit
 · go_enter func225,ntmps225;go_wp2;go_loop [10] (fun s10=>s10=.int .i64 0) (fun _=>0)
   (case atStart=>rfl);case round=>
    subst hrel;go_wp2;go_ret2
    exact ⟨rfl,Below.refl _ _⟩
 · go_enter func225,ntmps225;go_wp2;go_loopw [10] (fun s10 wr=>∃ i:Nat,i≤8∧s10=.int .i64 i∧Hid (∀ j,j<i→mJ.getD j 0≠c)∧Hid (∃ q,wr=w.drewN q)) (fun s10 _=>8-(intOf s10).toNat)
   (case atStart=>exact ⟨0,aj,rfl,fun j hj=>aj,0,rfl⟩);case round=>
    obtain ⟨i,hi,rfl,HN,HQ⟩:=hrel;obtain ⟨q,hq⟩:=HQ.out;subst hq;clear HQ;by_cases hlt:i<8
    · have HD:=hid (Sm ⟨i,hlt⟩);have g1:mJ[i]?=some (mJ.getD i 0):=(by have:i<mJ.length:=hlt;simp [List.getD,this]);have g2:qA[i]?=some (qA.getD i 0):=(by have:i<qA.length:=hlt;simp [List.getD,this]);have wC:=fun q=>eX mJ i _ g1 q;have ht2:(⟨qA.toArray⟩:ByteArray).extract i (i+1)=⟨[qA.getD i 0].toArray⟩:=(by rw [og,show i+1-i=1 by omega];obtain ⟨hl2,e2⟩:=List.getElem?_eq_some_iff.1 g2;rw [List.drop_eq_getElem_cons hl2,e2];rfl);have wD:=hid (show mJ.getD i 0≠c→∀ j,j<i+1→mJ.getD j 0≠c from fun hne j hj=>by
       by_cases he:j=i;{rw [he];exact hne}
       · exact HN.out j aj)
      obtain ⟨d,hd⟩:=aA (mJ.getD i 0);obtain ⟨f,hf⟩:=aA (qA.getD i 0);simp only at HD;rw [←hd] at wC wD HD;rw [←hf] at ht2 HD;unfold mJ at wC;unfold qA at ht2;have hiz:(i:Int)<8:=aj;have hi0:(0:Int)≤(i:Int):=aj;clear hd hf g1 g2 HN;by_cases hcd:d=c
      · subst hcd;have be:((d.toNat:Int)==(d.toNat:Int))=true:=aC;have HL:=hid (show (Tm.letter d).map (fun d=>(([d]:List UInt8),1))=some ([f],1) by rw [HD.out];rfl);go_wp2;(go_quiet (fail));go_wp2;go_ret2
        exact ⟨by rw [HL.out];rfl,cB (Below.refl _ _) _⟩
      · have be:((c.toNat:Int)==(d.toNat:Int))=false:=beq_eq_false_iff_ne.2 (fun e=>hcd (UInt8.toNat_inj.1 aj));have Dl:=hid (wD.out hcd);clear hcd;go_wp2;(go_quiet (fail));go_wp2;go_roundw
        (case rel=>exact ⟨i+1,aj,aN,Dl,q+nq,by first | rfl | rw [World.drewN_drewN]⟩);case measure=>simp [intOf];omega
    · obtain rfl:i=8:=aj;have HL:=hid (show (Tm.letter c).map (fun d=>(([d]:List UInt8),1))=none by rw [Sn c HN.out];rfl);clear HN;go_wp2;go_ret2
      exact ⟨by rw [HL.out];rfl,cB (Below.refl _ _) q⟩
theorem Sr (s:List UInt8) (lit:Bool) (w:World) (hl:s.length≤9223372036854775807) :
  Calls prog 225 #[str s,.bool lit] w fun e w'=>e=.returned (.tuple #[str (zH (Tm.iD lit s)),.int .i64 (zI (Tm.iD lit s))])∧Below w.heap.size w w':=by
 cases s with
 | nil=>
  go_enter func225,ntmps225;go_wp2;go_ret2
  exact ⟨rfl,Below.refl _ _⟩
 | cons c t=>
  have e0:Tm.iD lit (c::t)=if c=117 then (Tm.cO 4 t).map (fun x=>(Tm.gI x,5)) else if c=85 then (Tm.cO 8 t).map (fun x=>(Tm.gI x,9)) else if lit then (Tm.letter c).map (fun d=>([d],1)) else none:=rfl
  rw [e0];by_cases h1:c=117;{rw [if_pos h1];exact Jz c t lit 4 (.inl ⟨h1,rfl⟩) w hl};{rw [if_neg h1];by_cases h2:c=85;{rw [if_pos h2];exact Jz c t lit 8 (.inr ⟨h2,rfl⟩) w hl};{rw [if_neg h2];exact Sq c t lit ⟨h1,h2⟩ w hl}}
namespace Tm
theorem zJ (e:UInt8) (lit:Bool):∀ (f g:Nat) (s:T),s.length<f→s.length<g→up f e lit s=up g e lit s
 | 0,g,s,h,_=>aj
 | f+1,0,s,_,h=>aj
 | f+1,g+1,[],_,_=>rfl
 | f+1,g+1,c::t,hf,hg=>by
  unfold up
  simp only [List.length_cons] at hf hg
  rw [zJ e lit f g t aj aj]
  cases h:iD lit t with
  | none=>rfl
  | some p=>
   obtain ⟨x,n⟩:=p
   simp only
   rw [zJ e lit f g (t.drop n) (by rw [List.length_drop];omega) (by rw [List.length_drop];omega)]
def bS (e:UInt8) (lit:Bool) (s:T):Option (T×T):=up (s.length+1) e lit s
theorem Dm (e:UInt8) (lit:Bool) (c:UInt8) (t:T):bS e lit (c::t)=if c=e then some ([],t) else if c=92 then (match iD lit t with
  | none=>none
  | some (x,n)=>(bS e lit (t.drop n)).map (fun r=>(x++r.1,r.2)))
  else if c=10∨c=13 then none else (bS e lit t).map (fun r=>(c::r.1,r.2)):=by
 show up (t.length+1+1) e lit (c::t)=_;rw [up];unfold bS;cases h:iD lit t with
 | none=>rfl
 | some p=>obtain ⟨x,n⟩:=p;simp only;rw [zJ e lit (t.length+1) ((t.drop n).length+1) (t.drop n) (by rw [List.length_drop];omega) aj]
theorem JA (x:Nat):(gI x).length≤4:=by have:=encode_size_le (x:Int);unfold gI;simpa using this
theorem JB {n:Nat} {s:T} {x:Nat} (h:cO n s=some x):n≤s.length:=by rcases Nat.lt_or_ge s.length n with hl | hl;{unfold cO at h;rw [zG n s 0 hl] at h;cases h};{exact hl}
theorem Dn {lit:Bool} {s x:T} {n:Nat} (h:iD lit s=some (x,n)):1≤n∧n≤s.length∧x.length≤4:=by
 cases s with
 | nil=>cases h
 | cons c t=>
  have e0:iD lit (c::t)=if c=117 then (cO 4 t).map (fun x=>(gI x,5)) else if c=85 then (cO 8 t).map (fun x=>(gI x,9)) else if lit then (letter c).map (fun d=>([d],1)) else none:=rfl
  rw [e0] at h;split at h
  · cases hr:cO 4 t with
    | none=>rw [hr] at h;cases h
    | some y=>rw [hr] at h;simp only [Option.map_some,Option.some.injEq,Prod.mk.injEq] at h;have:=JB hr;have:=JA y;obtain ⟨rfl,rfl⟩:=h;simp only [List.length_cons];omega
  · split at h
    · cases hr:cO 8 t with
      | none=>rw [hr] at h;cases h
      | some y=>rw [hr] at h;simp only [Option.map_some,Option.some.injEq,Prod.mk.injEq] at h;have:=JB hr;have:=JA y;obtain ⟨rfl,rfl⟩:=h;simp only [List.length_cons];omega
    · split at h
      · cases hr:letter c with
        | none=>rw [hr] at h;cases h
        | some y=>rw [hr] at h;simp only [Option.map_some,Option.some.injEq,Prod.mk.injEq] at h;obtain ⟨rfl,rfl⟩:=h;simp
      {cases h}
end Tm
def zK (r:Option (List UInt8×List UInt8)):List UInt8:=match r with
 | none=>[]
 | some p=>p.1
def JC (r:Option (List UInt8×List UInt8)):List UInt8:=match r with
 | none=>[]
 | some p=>p.2
def Sv (b:Bool) (r:Option (List UInt8×List UInt8)):Bool:=match r with
 | none=>true
 | some _=>b
theorem qB (q:Nat) (s:List UInt8) (b:Bool) (e:UInt8) (lit:Bool) (w:World) (hr:Rd w q s b) (hl:s.length≤1000000000) (he:e≠92) (h10:e≠10∧e≠13) :
  Calls prog 183 #[bB q,.int .u8 (e.toNat:Nat),.bool lit] w fun x w'=>x=.returned (str (zK (Tm.bS e lit s)))∧Rd w' q (JC (Tm.bS e lit s)) (Sv b (Tm.bS e lit s))∧But q w w':=by
 have HR:=hid hr;obtain ⟨ANS,hA⟩:=aA (Tm.bS e lit s);rw [←hA];have HA:=hid (show ANS=(Tm.bS e lit (s.drop 0)).map (fun r=>([]++r.1,r.2)) by rw [hA,List.drop_zero];cases Tm.bS e lit s <;> rfl);have FA:=hid (fun w (h:Rd w q s b)=>wu q s b w h);clear hA hr;go_enter func183,ntmps183;go_wp2;go_loopw [7,8,9,10,11] (fun s7 s8 _ _ _ wr=>∃ (out:List UInt8) (i:Nat),s7=str out∧s8=.int .i64 i∧i≤s.length∧out.length≤4*i∧Hid (ANS=(Tm.bS e lit (s.drop i)).map (fun r=>(out++r.1,r.2)))∧Hid (Below w.heap.size w wr)) (fun _ s8 _ _ _ _=>s.length-(intOf s8).toNat)
 case atStart=>exact ⟨[],0,rfl,rfl,aj,aC,HA,Below.refl _ _⟩
 case round=>
  obtain ⟨out,i,rfl,rfl,hi,ho,HP,HB⟩:=hrel;obtain ⟨c0,c1,f0,f1⟩:=(HR.out.keep HB.out).cells;have zL:=hid (HR.out.keep HB.out);by_cases hlt:i<s.length
  · obtain ⟨c,hc⟩:∃ c,s[i]?=some c:=⟨_,List.getElem?_eq_getElem hlt⟩;have hcc:=fun q=>eX s i c hc q;have HC:=hid (show Tm.bS e lit (s.drop i)=_ by obtain ⟨hl2,e2⟩:=List.getElem?_eq_some_iff.1 hc;rw [List.drop_eq_getElem_cons hl2,e2,Tm.Dm]);have Jr:(⟨s.toArray⟩:ByteArray).extract (i+1) s.length=⟨(s.drop (i+1)).toArray⟩:=gQ s (i+1);have rQ:(⟨s.toArray⟩:ByteArray).extract i (i+1)=⟨[c].toArray⟩:=(by rw [og,show i+1-i=1 by omega];obtain ⟨hl2,e2⟩:=List.getElem?_eq_some_iff.1 hc;rw [List.drop_eq_getElem_cons hl2,e2];rfl);have o8:=hid (show (s.drop (i+1)).length+(i+1)=s.length by rw [List.length_drop];omega);have hap:=gD out [c];obtain ⟨r,hrr⟩:=aA (s.drop (i+1));have HRR:=hid hrr;rw [←hrr] at HC Jr o8;clear hc hrr;have hce:((c.toNat:Int)==(e.toNat:Int))=decide (c=e):=(by rw [Bool.eq_iff_iff,beq_iff_eq,decide_eq_true_iff];exact ⟨fun h=>UInt8.toNat_inj.1 aj,fun h=>by rw [h]⟩);by_cases h1:c=e;{have HF:=hid (show ANS=some (out,r) by rw [HP.out,HC.out,if_pos h1];simp);rw [decide_eq_true h1] at hce;clear h1 HP HC hap rQ;go_wp2;go_ret;exact ⟨by rw [HF.out];rfl,by rw [HF.out];exact zL.out.set0,(But.below HB.out).trans (But.set q wr 0 _)⟩};rw [decide_eq_false h1] at hce;by_cases h2:c=92
    · have hb2:((c.toNat:Int)==92)=true:=beq_iff_eq.2 (by rw [h2];rfl);have ES:=hid (fun w=>Sr r lit w (by have:=o8.out;omega));cases hes:Tm.iD lit r with
      | none=>have HF:=hid (show ANS=none by rw [HP.out,HC.out,if_neg h1,if_pos h2,hes];rfl);have ny:Hid (∀ w,Calls prog 225 #[str r,.bool lit] w fun e w'=>e=.returned (.tuple #[str [],.int .i64 0])∧Below w.heap.size w w'):=(by rw [hes] at ES;exact ES);clear h1 h2 HP HC hes ES hap rQ HRR;(go_wp2_with fail);refine (ny.out _).mono ?_;rintro x w2 ⟨rfl,hb⟩;have HB2:=hid (aG HB.out hb);have tZ:=hid (FA.out w2 (zL.out.keep hb));clear hb;(go_wp2_with fail);refine tZ.out.mono ?_;rintro x w3 ⟨rfl,hr3,hb3⟩;have HR3:=hid hr3;have HB3:=hid hb3;clear hr3 hb3;go_wp2;go_ret;exact ⟨by rw [HF.out];rfl,by rw [HF.out];exact HR3.out,(But.below HB2.out).trans HB3.out⟩
      | some p=>
       obtain ⟨x,n⟩:=p;obtain ⟨hn1,hn2,rT⟩:=Tm.Dn hes;have hdl:=o8.out;have HF:=hid (show ANS=(Tm.bS e lit (s.drop (i+n+1))).map (fun r=>(out++x++r.1,r.2)) by rw [HP.out,HC.out,if_neg h1,if_pos h2,hes,HRR.out];simp only [Option.map_map];rw [List.drop_drop,show i+1+n=i+n+1 by omega];congr 1;funext z;simp [Function.comp]);have ny:Hid (∀ w,Calls prog 225 #[str r,.bool lit] w fun e w'=>e=.returned (.tuple #[str x,.int .i64 (n:Nat)])∧Below w.heap.size w w'):=(by rw [hes] at ES;exact ES);have hn0:((n:Int)==0)=false:=beq_eq_false_iff_ne.2 aj;have ad5:=gD out x;have hin:i+n+1≤s.length:=aj;have hox:(out++x).length≤4*(i+n+1):=(by rw [List.length_append];omega);have Dp:=hid hox;clear h1 h2 HP HC hes ES hap rQ HRR hox hdl;(go_wp2_with fail);refine (ny.out _).mono ?_;rintro z w2 ⟨rfl,hb⟩;have HB2:=hid (aG HB.out hb);clear hb;go_wp2;go_roundw
       (case rel=>exact ⟨out++x,i+n+1,by rfl,aN,aj,Dp.out,HF,HB2⟩);case measure=>simp [intOf];omega
    · have hb2:((c.toNat:Int)==92)=false:=beq_eq_false_iff_ne.2 (fun h=>h2 (UInt8.toNat_inj.1 (show c.toNat=(92:UInt8).toNat by show c.toNat=92;omega)));by_cases h3:c=10∨c=13;{have HF:=hid (show ANS=none by rw [HP.out,HC.out,if_neg h1,if_neg h2,if_pos h3];rfl);have tZ:=hid (FA.out wr zL.out);rcases h3 with h3 | h3;{have hb3:((c.toNat:Int)==10)=true:=beq_iff_eq.2 (by rw [h3];rfl);clear h1 h2 h3 HP HC hap rQ HRR;(go_wp2_with fail);refine tZ.out.mono ?_;rintro x w3 ⟨rfl,hr3,hb3⟩;have HR3:=hid hr3;have HB3:=hid hb3;clear hr3 hb3;go_wp2;go_ret;exact ⟨by rw [HF.out];rfl,by rw [HF.out];exact HR3.out,(But.below HB.out).trans HB3.out⟩};{have hb3:((c.toNat:Int)==10)=false:=(by rw [h3];rfl);have hb4:((c.toNat:Int)==13)=true:=beq_iff_eq.2 (by rw [h3];rfl);clear h1 h2 h3 HP HC hap rQ HRR;(go_wp2_with fail);refine tZ.out.mono ?_;rintro x w3 ⟨rfl,hr3,hb3⟩;have HR3:=hid hr3;have HB3:=hid hb3;clear hr3 hb3;go_wp2;go_ret;exact ⟨by rw [HF.out];rfl,by rw [HF.out];exact HR3.out,(But.below HB.out).trans HB3.out⟩}}
      · have HF:=hid (show ANS=(Tm.bS e lit (s.drop (i+1))).map (fun r=>(out++[c]++r.1,r.2)) by rw [HP.out,HC.out,if_neg h1,if_neg h2,if_neg h3,HRR.out];simp only [Option.map_map];congr 1;funext z;simp [Function.comp]);have hb3:((c.toNat:Int)==10)=false:=beq_eq_false_iff_ne.2 (fun h=>h3 (.inl (UInt8.toNat_inj.1 (show c.toNat=(10:UInt8).toNat by show c.toNat=10;omega))));have hb4:((c.toNat:Int)==13)=false:=beq_eq_false_iff_ne.2 (fun h=>h3 (.inr (UInt8.toNat_inj.1 (show c.toNat=(13:UInt8).toNat by show c.toNat=13;omega))));have Dp:=hid (show (out++[c]).length≤4*(i+1) by rw [List.length_append];simp;omega);clear h1 h2 h3 HP HC HRR;go_wp2;go_roundw
        (case rel=>exact ⟨out++[c],i+1,by rfl,aN,aj,Dp.out,HF,HB⟩);case measure=>simp [intOf];omega
  {obtain rfl:i=s.length:=aj;have HF:=hid (show ANS=none by rw [HP.out,List.drop_length];rfl);have tZ:=hid (FA.out wr zL.out);clear HP;(go_wp2_with fail);refine tZ.out.mono ?_;rintro x w3 ⟨rfl,hr3,hb3⟩;have HR3:=hid hr3;have HB3:=hid hb3;clear hr3 hb3;go_wp2;go_ret;exact ⟨by rw [HF.out];rfl,by rw [HF.out];exact HR3.out,(But.below HB.out).trans HB3.out⟩}
open Go.ChangeShapes Go.WideShapes Go.ChangeAt Go.RowKit
def jC (w:World) (b:Nat) (A:List Value) (t:TypeId) (fr:Nat×Nat):Prop:=w.heap[b]?=some (.cells A.toArray t fr)
theorem jC.lt {w:World} {b:Nat} {A:List Value} {t:TypeId} {fr:Nat×Nat} (h:jC w b A t fr):b<w.heap.size:=lt_of_block h
theorem jC.cell {w:World} {b:Nat} {A:List Value} {t:TypeId} {fr:Nat×Nat} (h:jC w b A t fr) {i:Nat} {v:Value} (hv:A[i]?=some v):w.cell? ⟨b,i,none⟩=some v:=by unfold jC at h;simp [World.cell?,h,hv]
theorem jC.free {w:World} {b:Nat} {A:List Value} {t:TypeId} {fr:Nat×Nat} (h:jC w b A t fr) (i:Nat) (hi:i<fr.1):w.frozen? ⟨b,i,none⟩=false:=by unfold jC at h;simp [World.frozen?,h];omega
theorem jC.set {w:World} {b:Nat} {A:List Value} {t:TypeId} {fr:Nat×Nat} (h:jC w b A t fr) (i:Nat) (v:Value):jC (w.setCell ⟨b,i,none⟩ v) b (A.set i v) t fr:=by
 have hlt:=h.lt;unfold jC at *;have h':w.heap[b]=.cells A.toArray t fr:=by simpa [Array.getElem?_eq_getElem hlt] using h
 show (w.heap.modify b _)[b]?=_;rw [Array.getElem?_eq_getElem (by simpa using hlt),Array.getElem_modify_self,h'];simp
theorem Sw (l:List UInt8):(⟨l.toArray⟩:ByteArray).size=l.length:=rfl
theorem Sy {c:UInt8} (h:c.toNat<65∨90<c.toNat):Tm.lower c=c:=by unfold Tm.lower;rw [if_neg aj]
theorem Sz {c:UInt8} (h:65≤c.toNat∧c.toNat≤90):(Tm.lower c).toNat=c.toNat+32:=by unfold Tm.lower;rw [if_pos h];simp;omega
def jm (s:List UInt8) (i:Nat):List UInt8:=(s.take i).map Tm.lower++s.drop i
theorem SB (s:List UInt8) (i:Nat):(jm s i).length=s.length:=by unfold jm;rw [List.length_append,List.length_map,List.length_take,List.length_drop];omega
theorem JD {s:List UInt8} {i:Nat} {c:UInt8} (h:s[i]?=some c):(jm s i)[i]?=some c:=by obtain ⟨hl,e⟩:=List.getElem?_eq_some_iff.1 h;unfold jm;rw [List.getElem?_append_right (by simp;omega)];simp [show min i s.length=i by omega,h]
theorem JE {s:List UInt8} {i:Nat} {c:UInt8} (h:s[i]?=some c):jm s (i+1)=(jm s i).set i (Tm.lower c):=by obtain ⟨hl,e⟩:=List.getElem?_eq_some_iff.1 h;unfold jm;rw [List.set_append_right _ _ (by simp;omega),List.take_add_one,h];simp [show min i s.length=i by omega];rw [List.drop_eq_getElem_cons hl];rfl
theorem SE {s:List UInt8} {i:Nat} {c:UInt8} (h:s[i]?=some c) (hc:Tm.lower c=c):jm s (i+1)=jm s i:=by rw [JE h,hc];obtain ⟨hl,e⟩:=List.getElem?_eq_some_iff.1 (JD h);rw [←e];simp
theorem SF (s:List UInt8):jm s s.length=s.map Tm.lower:=by unfold jm;simp
theorem SG (A:List UInt8) (pad:List Value) (i:Nat) (c:UInt8) (h:i<A.length):(A.map dO++pad).set i (dO c)=(A.set i c).map dO++pad:=by rw [List.set_append_left _ _ (by simpa using h),List.map_set]
theorem JF {A:List UInt8} {pad:List Value} {i:Nat} {c:UInt8} (h:A[i]?=some c):(A.map dO++pad)[i]?=some (dO c):=by obtain ⟨hl,e⟩:=List.getElem?_eq_some_iff.1 h;rw [List.getElem?_append_left (by simpa using hl)];simp [h]
theorem SQ (s:List UInt8) (w:World) (hl:s.length≤1000000000) :
  Calls prog 226 #[str s] w fun e w'=>e=.returned (str (s.map Tm.lower))∧Below w.heap.size w w':=by
 have h0:=run_bytes_of_string (P:=prog) w 9 32 5 ⟨s.toArray⟩ underlying9 underlying32 underlying5;obtain ⟨cap,hcap⟩:=aA (grownCap w (⟨s.toArray⟩:ByteArray).size 0 5);have hge:s.length≤cap:=by rw [hcap];exact grownCap_ge _ _ _ _
 rw [←hcap,Sw] at h0;obtain ⟨pad,Dq⟩:∃ pad:List Value,(bytesRow ⟨s.toArray⟩ cap).toList=s.map dO++pad:=⟨List.replicate (cap-s.length) (.int .u8 0),by simp [bytesRow,dO,Function.comp_def];rfl⟩;have hsz:s.length≤(bytesRow ⟨s.toArray⟩ cap).size:=by rw [←Array.length_toList,Dq];simp
 obtain ⟨fr,hfr⟩:=aA (((bytesRow ⟨s.toArray⟩ cap).size,(bytesRow ⟨s.toArray⟩ cap).size+1));rw [←hfr] at h0;have ad6:s.length≤fr.1:=by rw [hfr];exact hsz
 obtain ⟨w1,hw1⟩:=aA (w.drew.alloc (.cells (bytesRow ⟨s.toArray⟩ cap) 5 fr));rw [←hw1] at h0;have HB1:=hid (show jC w1 w.heap.size ((jm s 0).map dO++pad) 5 fr by rw [show jm s 0=s by simp [jm],←Dq,hw1];have:=heap_alloc_new w.drew (.cells (bytesRow ⟨s.toArray⟩ cap) 5 fr);unfold jC;rw [Array.toArray_toList];exact this);have HW1:=hid (show Below w.heap.size w w1 by rw [hw1];exact (Below.refl _ _).drew.alloc ay _);clear hcap Dq hsz hfr hw1;go_enter func226,ntmps226;go_wp2;go_loopw [4] (fun s4 wr=>∃ i:Nat,i≤s.length∧s4=.int .i64 i∧Hid (jC wr w.heap.size ((jm s i).map dO++pad) 5 fr)∧Hid (Below w.heap.size w wr)) (fun s4 _=>s.length-(intOf s4).toNat)
 case atStart=>exact ⟨0,aj,rfl,HB1,HW1⟩
 case round=>
  obtain ⟨i,hi,rfl,HK,HB⟩:=hrel;by_cases hlt:i<s.length
  · obtain ⟨c,hc⟩:∃ c,s[i]?=some c:=⟨_,List.getElem?_eq_getElem hlt⟩;have c0:wr.cell? ⟨w.heap.size,i,none⟩=some (.int .u8 (c.toNat:Nat)):=HK.out.cell (JF (JD hc));have f0:=HK.out.free i aj;have hc256:c.toNat<256:=c.toNat_lt;by_cases h:65≤c.toNat∧c.toNat≤90
    · have hlo:=Sz h;have HS:=hid (show jC (wr.setCell ⟨w.heap.size,i,none⟩ (.int .u8 ((c.toNat:Int)+32))) w.heap.size ((jm s (i+1)).map dO++pad) 5 fr by have:=HK.out.set i (dO (Tm.lower c));rw [SG _ _ _ _ (by rw [SB];exact hlt),←JE hc] at this;have e:dO (Tm.lower c)=.int .u8 ((c.toNat:Int)+32):=(by unfold dO;rw [hlo];congr 1);rwa [e] at this);have HB2:=hid (show Below w.heap.size w (wr.setCell ⟨w.heap.size,i,none⟩ (.int .u8 ((c.toNat:Int)+32))) from HB.out.setCell ay _);obtain ⟨h1,h2⟩:=h;clear hc hlo;go_wp2;go_roundw
      (case rel=>exact ⟨i+1,aj,aN,HS,HB2⟩);case measure=>simp [intOf];omega
    · have HS:=hid (show jC wr w.heap.size ((jm s (i+1)).map dO++pad) 5 fr by rw [SE hc (Sy aj)];exact HK.out);clear hc;rcases (show c.toNat<65∨90<c.toNat by omega) with h3 | h3;all_goals
       clear h
       go_wp2
       go_roundw
       case rel=>exact ⟨i+1,aj,aN,HS,HB⟩
       case measure=>simp [intOf];omega
  {obtain rfl:i=s.length:=aj;have cv:=Ik (P:=prog) wr 32 5 9 underlying32 underlying5 underlying9 (some ⟨w.heap.size,0,none⟩) s.length cap ((s.map Tm.lower).map UInt8.toNat) aC (Or.inr ⟨_,_,rfl,fun j hj=>by rw [Nat.zero_add];have hj':j<(s.map Tm.lower).length:=(by simpa using hj);have:=HK.out.cell (JF (pad:=pad) (A:=jm s s.length) (i:=j) (c:=(s.map Tm.lower)[j]) (by rw [SF];exact List.getElem?_eq_getElem hj'));rw [this];simp [dO,List.getD,hj]⟩);rw [IW] at cv;go_wp2;go_ret;exact ⟨rfl,HB.out⟩}
namespace Tm
def dW (r:T):Option (Nat×T×T×T):=match bS 34 true r with
 | none=>none
 | some (t,v)=>if v.headD 0=64 then some (4,t,(v.tail.takeWhile fq).map lower,v.tail.dropWhile fq)
  else if v.take 3=[94,94,60] then (bS 62 false (v.drop 3)).map (fun q=>(5,t,q.1,q.2))
  else some (3,t,[],v)
theorem lq {e:UInt8} {lit:Bool}:∀ (n:Nat) {s t v:T},s.length≤n→bS e lit s=some (t,v)→t.length≤4*s.length∧v.length<s.length
 | _,[],t,v,_,h=>by cases h
 | 0,c::s,t,v,hn,_=>by simp at hn
 | n+1,c::s,t,v,hn,h=>by
  rw [Dm] at h
  simp only [List.length_cons] at hn ⊢
  split at h
  · simp only [Option.some.injEq,Prod.mk.injEq] at h
    obtain ⟨rfl,rfl⟩:=h
    simp
  · split at h
    · cases he:iD lit s with
      | none=>rw [he] at h;cases h
      | some p=>
       obtain ⟨x,k⟩:=p
       rw [he] at h
       obtain ⟨h1,h2,h3⟩:=Dn he
       simp only at h
       cases hu:bS e lit (s.drop k) with
       | none=>rw [hu] at h;cases h
       | some z=>
        obtain ⟨t',v'⟩:=z
        rw [hu] at h
        simp only [Option.map_some,Option.some.injEq,Prod.mk.injEq] at h
        obtain ⟨rfl,rfl⟩:=h
        have:=lq n (s:=s.drop k) (by rw [List.length_drop];omega) hu
        rw [List.length_drop] at this
        rw [List.length_append];omega
    · split at h
      · cases h
      · cases hu:bS e lit s with
        | none=>rw [hu] at h;cases h
        | some z=>
         obtain ⟨t',v'⟩:=z
         rw [hu] at h
         simp only [Option.map_some,Option.some.injEq,Prod.mk.injEq] at h
         obtain ⟨rfl,rfl⟩:=h
         have:=lq n aj hu
         simp only [List.length_cons];omega
end Tm
theorem JG {w:World} {b:Nat} {x y z:Value} {t:TypeId} (h:ak w b [x,y,z] t) :
  (∀ o,(w.alloc o).cell? ⟨b,0,none⟩=some x∧(w.alloc o).frozen? ⟨b,0,none⟩=false)∧(∀ o,(w.alloc o).cell? ⟨b,1,none⟩=some y∧(w.alloc o).frozen? ⟨b,1,none⟩=false)∧(∀ o,(w.alloc o).cell? ⟨b,2,none⟩=some z∧(w.alloc o).frozen? ⟨b,2,none⟩=false):=
 ⟨fun o=>⟨(h.alloc o).cell rfl,(h.alloc o).free 0⟩,fun o=>⟨(h.alloc o).cell rfl,(h.alloc o).free 1⟩,fun o=>⟨(h.alloc o).cell rfl,(h.alloc o).free 2⟩⟩
theorem kC {w X:World} {q b:Nat} {x y z v0 v1 v2:Value} {s:List UInt8} {e:Bool} {t:TypeId} (hT:ak X b [x,y,z] t) (hq:Rd X q s e) (hne:b≠q) (hB:But q w X) (hb:w.heap.size≤b) :
  ak (((X.setCell ⟨b,0,none⟩ v0).setCell ⟨b,1,none⟩ v1).setCell ⟨b,2,none⟩ v2) b [v0,v1,v2] t∧Rd (((X.setCell ⟨b,0,none⟩ v0).setCell ⟨b,1,none⟩ v1).setCell ⟨b,2,none⟩ v2) q s e∧But q w (((X.setCell ⟨b,0,none⟩ v0).setCell ⟨b,1,none⟩ v1).setCell ⟨b,2,none⟩ v2):=by refine ⟨((hT.set 0 v0).set 1 v1).set 2 v2,ak.other (ak.other (ak.other hq (Ne.symm hne) 0 v0) (Ne.symm hne) 1 v1) (Ne.symm hne) 2 v2,?_⟩;have st:∀ (X:World) (i:Nat) (v:Value),But q w X→But q w (X.setCell ⟨b,i,none⟩ v):=fun X i v h=>⟨h.os,h.tape,h.output,by have:=h.size;simpa using this,fun k hk hn=>by rw [Below.heap_setCell _ _ _ _ (by show k≠b;omega)];exact h.block k hk hn⟩;exact st _ _ _ (st _ _ _ (st _ _ _ hB))
theorem kD {fn:Func} {tmps:Array Value} {Z:World} {b:Nat} {v0 v1 v2:Value} (ht:tmps.getD 2 undef=.pointer (some ⟨b,0,none⟩)) (hZ:ak Z b [v0,v1,v2] 61) (hf:fn.results=#[.cell 2 61]) :
  (results fn tmps).run prog Z=.ok (.agg #[v0,v1,v2]) Z:=by
 have h0:=hZ.cell (i:=0) rfl;have h1:=hZ.cell (i:=1) rfl;have h2:=hZ.cell (i:=2) rfl;have ht':tmps[2]?.getD undef=.pointer (some ⟨b,0,none⟩):=by simpa using ht
 simp [results,hf,ht',go_sem,h0,h1,h2]
def jD (q:Nat) (w:World) (r:Option (Nat×List UInt8×List UInt8×List UInt8)) (e:Ending) (w':World):Prop:=
 But q w w'∧match r with
  | none=>(∃ k t x,e=.returned (bM k t x))∧Rd w' q [] true
  | some (k,t,x,v)=>e=.returned (bM (k:Nat) t x)∧Rd w' q v false
theorem SV (q:Nat) (s:List UInt8) (w:World) (hr:Rd w q s false) (hl:s.length≤100000000) (h:Tm.bS 34 true s=none) :
  Calls prog 185 #[bB q] w (jD q w (Tm.dW s)):=by
 have HN:=hid (show Tm.dW s=none by unfold Tm.dW;rw [h]);rw [HN.out];have HR:=hid hr;have UP:=hid (fun w hr=>qB q s false 34 true w hr aj aH aH);rw [h] at UP;have HA:=hid (fun w p (hr:Rd w q [] true) (hp:p.length≤3)=>dU q [] p true w hr aC aj);clear hr h;go_enter func185,ntmps185;go_wp2_with fail
 refine (UP.out _ (HR.out.keep ((Below.refl _ _).alloc ay _))).mono ?_;rintro e w2 ⟨rfl,hr2,hb2⟩;have HR2:=hid (show Rd w2 q [] true from hr2);have hlt:=(HR.out).lt;have HB2:=hid (show But q w w2 from (But.below ((Below.refl w.heap.size w).alloc ay _)).trans hb2);have HT2:=hid (But.blk (ak.new w [.int .i64 0,str [],str []] 61) hb2 aj);have hz2:=hb2.size;clear hr2 hb2;have HA1:=hid (fun w (hr:Rd w q [] true)=>HA.out w [64] hr aC);have HA2:=hid (fun w (hr:Rd w q [] true)=>HA.out w [94,94,60] hr aC);obtain ⟨x0,x1,x2⟩:=JG HT2.out;go_wp2_with fail
 refine (HA1.out _ (HR2.out.keep ((Below.refl _ _).alloc ay _))).mono ?_;rintro e w3 ⟨rfl,rfl⟩;go_wp2_with fail
 refine (HA2.out _ (HR2.out.keep ((Below.refl _ _).alloc ay _))).mono ?_;rintro e w3 ⟨rfl,rfl⟩;go_wp2;have HX:=kC (hT:=HT2.out.alloc (.cells #[.int .i64 3,.string ⟨(zK none).toArray⟩,.string ⟨#[]⟩] 61)) (v0:=.int .i64 3) (v1:=.string ⟨(zK none).toArray⟩) (v2:=.string ⟨#[]⟩) (hq:=HR2.out.keep ((Below.refl _ _).alloc ay _)) (hne:=aj) (hB:=HB2.out.trans (But.below ((Below.refl _ _).alloc ay _))) (hb:=Nat.le_refl _);obtain ⟨hx1,hx2,hx3⟩:=HX;exact bodyPost_ret (v:=bM 3 [] []) (kD rfl hx1 results185) rfl ⟨hx3,⟨3,[],[],rfl⟩,hx2⟩
theorem t_ (p:UInt8→Bool) (l:List UInt8):(l.takeWhile p).length≤l.length:=by have:=congrArg List.length (List.takeWhile_append_dropWhile (p:=p) (l:=l));rw [List.length_append] at this;omega
theorem But.fresh {q b:Nat} {w X:World} (h:But q w X) (hb:w.heap.size≤b) (i:Nat) (v:Value):But q w (X.setCell ⟨b,i,none⟩ v):=
 ⟨h.os,h.tape,h.output,by have:=h.size;simpa using this,fun k hk hn=>by rw [Below.heap_setCell _ _ _ _ (by show k≠b;omega)];exact h.block k hk hn⟩
theorem take1 (v:List UInt8):decide (v.take ([64]:List UInt8).length=[64])=decide (v.headD 0=64):=by
 cases v with
 | nil=>rfl
 | cons c t=>simp
theorem SX (q:Nat) (s t v:List UInt8) (w:World) (hr:Rd w q s false) (hl:s.length≤100000000) (h:Tm.bS 34 true s=some (t,v)) (h1:v.headD 0≠64) (h3:v.take 3≠[94,94,60]) :
  Calls prog 185 #[bB q] w (jD q w (Tm.dW s)):=by
 have HN:=hid (show Tm.dW s=some (3,t,[],v) by unfold Tm.dW;rw [h];simp only;rw [if_neg h1,if_neg h3]);rw [HN.out];have HR:=hid hr;have hlen:=Tm.lq s.length ay h;have UP:=hid (fun w hr=>qB q s false 34 true w hr aj aH aH);rw [h] at UP;have HA1:=hid (fun w (hr:Rd w q v false)=>dU q v [64] false w hr aj aC);rw [take1,decide_eq_false h1] at HA1;have HA2:=hid (fun w (hr:Rd w q v false)=>dU q v [94,94,60] false w hr aj aC);rw [show decide (v.take ([94,94,60]:List UInt8).length=[94,94,60])=false from decide_eq_false h3] at HA2;clear hr h h1 h3 hlen;go_enter func185,ntmps185;go_wp2_with fail
 refine (UP.out _ (HR.out.keep ((Below.refl _ _).alloc ay _))).mono ?_;rintro e w2 ⟨rfl,hr2,hb2⟩;have HR2:=hid (show Rd w2 q v false from hr2);have hlt:=(HR.out).lt;have HB2:=hid (show But q w w2 from (But.below ((Below.refl w.heap.size w).alloc ay _)).trans hb2);have HT2:=hid (But.blk (ak.new w [.int .i64 0,str [],str []] 61) hb2 aj);have hz2:=hb2.size;clear hr2 hb2;obtain ⟨x0,x1,x2⟩:=JG HT2.out;go_wp2_with fail
 refine (HA1.out _ (HR2.out.keep ((Below.refl _ _).alloc ay _))).mono ?_;rintro e w3 ⟨rfl,rfl⟩;go_wp2_with fail
 refine (HA2.out _ (HR2.out.keep ((Below.refl _ _).alloc ay _))).mono ?_;rintro e w3 ⟨rfl,rfl⟩;go_wp2;have HX:=kC (hT:=HT2.out.alloc (.cells #[.int .i64 3,.string ⟨t.toArray⟩,.string ⟨#[]⟩] 61)) (v0:=.int .i64 3) (v1:=.string ⟨t.toArray⟩) (v2:=.string ⟨#[]⟩) (hq:=HR2.out.keep ((Below.refl _ _).alloc ay _)) (hne:=aj) (hB:=HB2.out.trans (But.below ((Below.refl _ _).alloc ay _))) (hb:=Nat.le_refl _);obtain ⟨hx1,hx2,hx3⟩:=HX;exact bodyPost_ret (v:=bM 3 t []) (kD rfl hx1 results185) rfl ⟨hx3,rfl,hx2⟩
theorem S9 (q:Nat) (s t v:List UInt8) (w:World) (hr:Rd w q s false) (hl:s.length≤100000000) (h:Tm.bS 34 true s=some (t,v)) (h1:v.headD 0=64) :
  Calls prog 185 #[bB q] w (jD q w (Tm.dW s)):=by
 have HN:=hid (show Tm.dW s=some (4,t,(v.tail.takeWhile Tm.fq).map Tm.lower,v.tail.dropWhile Tm.fq) by unfold Tm.dW;rw [h];simp only;rw [if_pos h1]);rw [HN.out];have HR:=hid hr;have hlen:=Tm.lq s.length ay h;have UP:=hid (fun w hr=>qB q s false 34 true w hr aj aH aH);rw [h] at UP;have HA1:=hid (fun w (hr:Rd w q v false)=>dU q v [64] false w hr aj aC);rw [take1,decide_eq_true h1] at HA1;obtain ⟨u,rfl⟩:∃ u,v=64::u:=by
  cases v with
  | nil=>exact absurd h1 aH
  | cons c u=>exact ⟨u,by simp only [List.headD_cons] at h1;rw [h1]⟩
 simp only [List.length_cons,List.tail_cons] at hlen ⊢;have RN:=hid (fun w (hr:Rd w q u false)=>Dk q u false true w hr aj);rw [Sg] at RN;have hal:=t_ Tm.fq u;have SM:=hid (fun w=>SQ (u.takeWhile Tm.fq) w aj);obtain ⟨a,ha⟩:=aA (u.takeWhile Tm.fq);rw [←ha] at RN SM hal ⊢;obtain ⟨d,hd⟩:=aA (u.dropWhile Tm.fq);rw [←hd] at RN ⊢;obtain ⟨m,hm⟩:=aA (a.map Tm.lower);rw [←hm] at SM ⊢;have hex:(⟨(64::u).toArray⟩:ByteArray).extract 1 (u.length+1)=⟨u.toArray⟩:=CQ 64 u;have iF:u.length+1≤9223372036854775807:=aj;have hu1:(1:Int)≤(u.length:Int)+1:=aj;clear hr h h1 hlen ha hd hm hal;go_enter func185,ntmps185;go_wp2_with fail
 refine (UP.out _ (HR.out.keep ((Below.refl _ _).alloc ay _))).mono ?_;rintro e w2 ⟨rfl,hr2,hb2⟩;have HR2:=hid (show Rd w2 q (64::u) false from hr2);have hlt:=(HR.out).lt;have HB2:=hid (show But q w w2 from (But.below ((Below.refl w.heap.size w).alloc ay _)).trans hb2);have HT2:=hid (But.blk (ak.new w [.int .i64 0,str [],str []] 61) hb2 aj);have hz2:w.heap.size+1≤w2.heap.size:=by have:=hb2.size;simpa using this
 clear hr2 hb2;have lV:=hid (HR2.out.keep ((Below.refl _ _).alloc ay (.cells #[.int .i64 3,.string ⟨t.toArray⟩,.string ⟨#[]⟩] 61)));obtain ⟨c0,c1,f0,f1⟩:=lV.out.cells;go_wp2_with fail
 refine (HA1.out _ lV.out).mono ?_;rintro e w3 ⟨rfl,rfl⟩;go_wp2_with fail
 refine (RN.out _ (lV.out.set0 (t:=u))).mono ?_;rintro e w5 ⟨rfl,dQ,hb5⟩;have hq2:q≠w2.heap.size:=by have:=HR2.out.lt;omega
 have bn:=hid (But.blk (ak.other (HT2.out.alloc (.cells #[.int .i64 3,.string ⟨t.toArray⟩,.string ⟨#[]⟩] 61)) aj 0 (str u)) hb5 aj);have bf:=hid (But.blk (ak.other (ak.new w2 [.int .i64 3,.string ⟨t.toArray⟩,.string ⟨#[]⟩] 61) (Ne.symm hq2) 0 (str u)) hb5 (Ne.symm hq2));have aR:=hid ((HB2.out.trans ((But.below ((Below.refl _ _).alloc ay _)).trans (But.set q _ 0 _))).trans hb5);have bK:=hid dQ;clear dQ hb5 c0 c1 f0 f1;go_wp2_with fail
 refine (SM.out _).mono ?_;rintro e w6 ⟨rfl,hb6⟩;have bC:=hid (bn.out.keep hb6);have aJ:=hid (bf.out.keep hb6);have aO:=hid (aR.out.trans (But.below hb6));have bN:=hid (bK.out.keep hb6);clear hb6;have d0:=aJ.out.cell (i:=0) rfl;have d1:=aJ.out.cell (i:=1) rfl;have d2:=aJ.out.cell (i:=2) rfl;have e0:=aJ.out.free 0;have e1:=aJ.out.free 1;have e2:=aJ.out.free 2;have g0:=bC.out.cell (i:=0) rfl;have g1:=bC.out.cell (i:=1) rfl;have g2:=bC.out.cell (i:=2) rfl;have k0:=bC.out.free 0;have k1:=bC.out.free 1;have k2:=bC.out.free 2;have qC:w.heap.size≠w2.heap.size:=aj;have JH:w2.heap.size≠w.heap.size:=aj;go_wp2;have HX:=kC (hT:=ak.other (ak.other bC.out qC 0 (.int .i64 4)) qC 2 (.string ⟨m.toArray⟩)) (v0:=.int .i64 4) (v1:=.string ⟨t.toArray⟩) (v2:=.string ⟨m.toArray⟩) (hq:=ak.other (ak.other bN.out hq2 0 _) hq2 2 _) (hne:=aj) (hB:=(aO.out.fresh aj 0 _).fresh aj 2 _) (hb:=Nat.le_refl _);obtain ⟨hx1,hx2,hx3⟩:=HX;exact bodyPost_ret (v:=bM 4 t m) (kD rfl hx1 results185) rfl ⟨hx3,rfl,hx2⟩
theorem S_ (q:Nat) (s t v:List UInt8) (w:World) (hr:Rd w q s false) (hl:s.length≤100000000) (h:Tm.bS 34 true s=some (t,v)) (h1:v.headD 0≠64) (h3:v.take 3=[94,94,60]) :
  Calls prog 185 #[bB q] w (jD q w (Tm.dW s)):=by
 obtain ⟨u,rfl⟩:∃ u,v=94::94::60::u:=by refine ⟨v.drop 3,?_⟩;have:=List.take_append_drop 3 v;rw [h3] at this;exact this.symm
 have HN:=hid (show Tm.dW s=(Tm.bS 62 false u).map (fun q=>(5,t,q.1,q.2)) by unfold Tm.dW;rw [h];simp only;rw [if_neg h1,if_pos h3];rfl);rw [HN.out];have HR:=hid hr;have hlen:=Tm.lq s.length ay h;simp only [List.length_cons] at hlen;have UP:=hid (fun w hr=>qB q s false 34 true w hr aj aH aH);rw [h] at UP;have HA1:=hid (fun w (hr:Rd w q (94::94::60::u) false)=>dU q _ [64] false w hr (by simp only [List.length_cons];omega) aC);rw [take1,decide_eq_false h1] at HA1;have HA2:=hid (fun w (hr:Rd w q (94::94::60::u) false)=>dU q _ [94,94,60] false w hr (by simp only [List.length_cons];omega) aC);rw [show decide ((94::94::60::u:List UInt8).take ([94,94,60]:List UInt8).length=[94,94,60])=true from decide_eq_true h3] at HA2;have iG:=hid (fun w (hr:Rd w q u false)=>qB q u false 62 false w hr aj aH aH);have hex:(⟨(94::94::60::u).toArray⟩:ByteArray).extract 3 (u.length+1+1+1)=⟨u.toArray⟩:=by have:=gQ (94::94::60::u) 3;simpa using this
 have iF:u.length+1+1+1≤9223372036854775807:=aj;have hu1:(3:Int)≤(u.length:Int)+1+1+1:=aj;clear hr h h1 h3 hlen;cases hu:Tm.bS 62 false u with
 | none=>
  rw [hu] at iG;clear hu;go_enter func185,ntmps185;go_wp2_with fail
  refine (UP.out _ (HR.out.keep ((Below.refl _ _).alloc ay _))).mono ?_;rintro e w2 ⟨rfl,hr2,hb2⟩;have HR2:=hid (show Rd w2 q (94::94::60::u) false from hr2);have hlt:=(HR.out).lt;have HB2:=hid (show But q w w2 from (But.below ((Below.refl w.heap.size w).alloc ay _)).trans hb2);have HT2:=hid (But.blk (ak.new w [.int .i64 0,str [],str []] 61) hb2 aj);have hz2:w.heap.size+1≤w2.heap.size:=by have:=hb2.size;simpa using this
  clear hr2 hb2;have lV:=hid (HR2.out.keep ((Below.refl _ _).alloc ay (.cells #[.int .i64 3,.string ⟨t.toArray⟩,.string ⟨#[]⟩] 61)));obtain ⟨c0,c1,f0,f1⟩:=lV.out.cells;go_wp2_with fail
  refine (HA1.out _ lV.out).mono ?_;rintro e w3 ⟨rfl,rfl⟩;go_wp2_with fail
  refine (HA2.out _ lV.out).mono ?_;rintro e w3 ⟨rfl,rfl⟩;go_wp2_with fail
  refine (iG.out _ (lV.out.set0 (t:=u))).mono ?_;rintro e w6 ⟨rfl,dQ,hb5⟩;have hq2:q≠w2.heap.size:=by have:=HR2.out.lt;omega
  have bC:=hid (But.blk (ak.other (HT2.out.alloc (.cells #[.int .i64 3,.string ⟨t.toArray⟩,.string ⟨#[]⟩] 61)) aj 0 (str u)) hb5 aj);have aJ:=hid (But.blk (ak.other (ak.new w2 [.int .i64 3,.string ⟨t.toArray⟩,.string ⟨#[]⟩] 61) (Ne.symm hq2) 0 (str u)) hb5 (Ne.symm hq2));have aO:=hid ((HB2.out.trans ((But.below ((Below.refl _ _).alloc ay _)).trans (But.set q _ 0 _))).trans hb5);have bN:=hid dQ;clear dQ hb5 c0 c1 f0 f1;have d0:=aJ.out.cell (i:=0) rfl;have d1:=aJ.out.cell (i:=1) rfl;have d2:=aJ.out.cell (i:=2) rfl;have e0:=aJ.out.free 0;have e1:=aJ.out.free 1;have e2:=aJ.out.free 2;have g0:=bC.out.cell (i:=0) rfl;have g1:=bC.out.cell (i:=1) rfl;have g2:=bC.out.cell (i:=2) rfl;have k0:=bC.out.free 0;have k1:=bC.out.free 1;have k2:=bC.out.free 2;have qC:w.heap.size≠w2.heap.size:=aj;have JH:w2.heap.size≠w.heap.size:=aj;go_wp2;have HX:=kC (hT:=ak.other (ak.other bC.out qC 0 (.int .i64 5)) qC 2 (.string ⟨#[]⟩)) (v0:=.int .i64 5) (v1:=.string ⟨t.toArray⟩) (v2:=.string ⟨#[]⟩) (hq:=ak.other (ak.other bN.out hq2 0 _) hq2 2 _) (hne:=aj) (hB:=(aO.out.fresh aj 0 _).fresh aj 2 _) (hb:=Nat.le_refl _);obtain ⟨hx1,hx2,hx3⟩:=HX;exact bodyPost_ret (v:=bM 5 t []) (kD rfl hx1 results185) rfl ⟨hx3,⟨5,t,[],rfl⟩,hx2⟩
 | some p=>
  obtain ⟨x,d⟩:=p;rw [hu] at iG;clear hu;go_enter func185,ntmps185;go_wp2_with fail
  refine (UP.out _ (HR.out.keep ((Below.refl _ _).alloc ay _))).mono ?_;rintro e w2 ⟨rfl,hr2,hb2⟩;have HR2:=hid (show Rd w2 q (94::94::60::u) false from hr2);have hlt:=(HR.out).lt;have HB2:=hid (show But q w w2 from (But.below ((Below.refl w.heap.size w).alloc ay _)).trans hb2);have HT2:=hid (But.blk (ak.new w [.int .i64 0,str [],str []] 61) hb2 aj);have hz2:w.heap.size+1≤w2.heap.size:=by have:=hb2.size;simpa using this
  clear hr2 hb2;have lV:=hid (HR2.out.keep ((Below.refl _ _).alloc ay (.cells #[.int .i64 3,.string ⟨t.toArray⟩,.string ⟨#[]⟩] 61)));obtain ⟨c0,c1,f0,f1⟩:=lV.out.cells;go_wp2_with fail
  refine (HA1.out _ lV.out).mono ?_;rintro e w3 ⟨rfl,rfl⟩;go_wp2_with fail
  refine (HA2.out _ lV.out).mono ?_;rintro e w3 ⟨rfl,rfl⟩;go_wp2_with fail
  refine (iG.out _ (lV.out.set0 (t:=u))).mono ?_;rintro e w6 ⟨rfl,dQ,hb5⟩;have hq2:q≠w2.heap.size:=by have:=HR2.out.lt;omega
  have bC:=hid (But.blk (ak.other (HT2.out.alloc (.cells #[.int .i64 3,.string ⟨t.toArray⟩,.string ⟨#[]⟩] 61)) aj 0 (str u)) hb5 aj);have aJ:=hid (But.blk (ak.other (ak.new w2 [.int .i64 3,.string ⟨t.toArray⟩,.string ⟨#[]⟩] 61) (Ne.symm hq2) 0 (str u)) hb5 (Ne.symm hq2));have aO:=hid ((HB2.out.trans ((But.below ((Below.refl _ _).alloc ay _)).trans (But.set q _ 0 _))).trans hb5);have bN:=hid dQ;clear dQ hb5 c0 c1 f0 f1;have d0:=aJ.out.cell (i:=0) rfl;have d1:=aJ.out.cell (i:=1) rfl;have d2:=aJ.out.cell (i:=2) rfl;have e0:=aJ.out.free 0;have e1:=aJ.out.free 1;have e2:=aJ.out.free 2;have g0:=bC.out.cell (i:=0) rfl;have g1:=bC.out.cell (i:=1) rfl;have g2:=bC.out.cell (i:=2) rfl;have k0:=bC.out.free 0;have k1:=bC.out.free 1;have k2:=bC.out.free 2;have qC:w.heap.size≠w2.heap.size:=aj;have JH:w2.heap.size≠w.heap.size:=aj;go_wp2;have HX:=kC (hT:=ak.other (ak.other bC.out qC 0 (.int .i64 5)) qC 2 (.string ⟨x.toArray⟩)) (v0:=.int .i64 5) (v1:=.string ⟨t.toArray⟩) (v2:=.string ⟨x.toArray⟩) (hq:=ak.other (ak.other bN.out hq2 0 _) hq2 2 _) (hne:=aj) (hB:=(aO.out.fresh aj 0 _).fresh aj 2 _) (hb:=Nat.le_refl _);obtain ⟨hx1,hx2,hx3⟩:=HX;exact bodyPost_ret (v:=bM 5 t x) (kD rfl hx1 results185) rfl ⟨hx3,rfl,hx2⟩
theorem Dt (q:Nat) (s:List UInt8) (w:World) (hr:Rd w q s false) (hl:s.length≤100000000) :
  Calls prog 185 #[bB q] w (jD q w (Tm.dW s)):=by
 cases h:Tm.bS 34 true s with
 | none=>exact SV q s w hr hl h
 | some p=>obtain ⟨t,v⟩:=p;by_cases h1:v.headD 0=64;{exact S9 q s t v w hr hl h h1};{by_cases h3:v.take 3=[94,94,60];{exact S_ q s t v w hr hl h h1 h3};{exact SX q s t v w hr hl h h1 h3}}
open Go.ChangeShapes Go.WideShapes Go.ChangeAt Go.RowKit
namespace Tm
def dY (s:T):Option (Nat×T×T×T):=match eu s with
 | none=>none
 | some (k,t,x,v)=>if Tm.is (k:Int) t x=true then some (k,t,x,v.dropWhile bE) else none
theorem uf (r:T):eu (60::r)=(bS 62 false r).map (fun q:T×T=>((1:Nat),q.1,([]:T),q.2)):=rfl
theorem zM (r:T):eu (95::58::r)=some (2,r.takeWhile dS,[],r.dropWhile dS):=rfl
theorem ug (r:T):eu (34::r)=dW r:=by
 unfold dW;show (match up (r.length+1) 34 true r with
   | none=>none
   | some (t,v)=>if v.headD 0=64 then some (4,t,(v.tail.takeWhile fq).map lower,v.tail.dropWhile fq)
    else if v.take 3=[94,94,60] then (up (v.length+1) 62 false (v.drop 3)).map (fun q:T×T=>((5:Nat),t,q.1,q.2))
    else some (3,t,[],v))=_
 unfold bS;cases up (r.length+1) 34 true r with
 | none=>rfl
 | some p=>obtain ⟨t,v⟩:=p;simp only;rw [zJ 62 false (v.length+1) ((v.drop 3).length+1) (v.drop 3) (by rw [List.length_drop];omega) aj]
theorem Du {s:T} (h1:s.take 1≠[60]) (h2:s.take 2≠[95,58]) (h3:s.take 1≠[34]):eu s=none:=by
 cases s with
 | nil=>rfl
 | cons c r=>
  have a1:c≠60:=fun e=>h1 (by rw [e];rfl);have a3:c≠34:=fun e=>h3 (by rw [e];rfl);show (if c=60 then _ else if c=95 then _ else if c=34 then _ else none)=none;rw [if_neg a1];by_cases a2:c=95
  · rw [if_pos a2,if_neg];intro e;cases r with
    | nil=>exact absurd e aH
    | cons d r=>simp only [List.headD_cons] at e;exact h2 (by rw [a2,e];rfl)
  {rw [if_neg a2,if_neg a3]}
theorem Dv {s:T} {k:Nat} {t x v:T} (h:dW s=some (k,t,x,v)):t.length≤4*s.length∧x.length≤4*s.length∧v.length≤s.length:=by
 unfold dW at h;cases hu:bS 34 true s with
 | none=>rw [hu] at h;cases h
 | some p=>
  obtain ⟨t',v'⟩:=p;rw [hu] at h;have h1:=lq s.length ay hu;simp only at h;split at h;{simp only [Option.some.injEq,Prod.mk.injEq] at h;obtain ⟨rfl,rfl,rfl,rfl⟩:=h;have h2:=t_ fq v'.tail;have h3:=congrArg List.length (List.takeWhile_append_dropWhile (p:=fq) (l:=v'.tail));rw [List.length_append] at h3;rw [List.length_tail] at h2 h3;rw [List.length_map];omega}
  · split at h
    · cases hv:bS 62 false (v'.drop 3) with
      | none=>rw [hv] at h;cases h
      | some z=>obtain ⟨a,b⟩:=z;rw [hv] at h;simp only [Option.map_some,Option.some.injEq,Prod.mk.injEq] at h;obtain ⟨rfl,rfl,rfl,rfl⟩:=h;have h2:=lq _ ay hv;rw [List.length_drop] at h2;omega
    {simp only [Option.some.injEq,Prod.mk.injEq] at h;obtain ⟨rfl,rfl,rfl,rfl⟩:=h;simp;omega}
end Tm
structure eB (W0 w:World) (q:Nat):Prop where
 vars:Vars W0
 below:Below W0.heap.size W0 w
 le:W0.heap.size≤q
theorem eB.rU {W0 w w':World} {q:Nat} (h:eB W0 w q) (hb:But q w w'):Vars w':=h.vars.keep (hb.into h.below h.le)
theorem eB.to {W0 w w':World} {q:Nat} (h:eB W0 w q) (hb:But q w w'):eB W0 w' q:=⟨h.vars,hb.into h.below h.le,h.le⟩
theorem kE (p:UInt8→Bool) (l:List UInt8):(l.dropWhile p).length≤l.length:=by have:=congrArg List.length (List.takeWhile_append_dropWhile (p:=p) (l:=l));rw [List.length_append] at this;omega
theorem Ta (q:Nat) (s:List UInt8) (w W0:World) (hbase:eB W0 w q) (hl:s.length≤10000000) (hr:Rd w q s false) (h1:s.take 1≠[60]) (h2:s.take 2≠[95,58]) (h3:s.take 1≠[34]) :
  Calls prog 135 #[bB q] w (jD q w (Tm.dY s)):=by
 have HN:=hid (show Tm.dY s=none by unfold Tm.dY;rw [Tm.Du h1 h2 h3]);rw [HN.out];have HR:=hid hr;have fE:=hid (fun w (hr:Rd w q s false)=>dU q s [60] false w hr (by first | omega | (simp only [List.length_cons];omega)) aC);rw [show decide ((s:List UInt8).take ([60]:List UInt8).length=[60])=false from decide_eq_false h1] at fE;have HA1:=hid (fun w (hr:Rd w q s false)=>dU q s [95,58] false w hr (by first | omega | (simp only [List.length_cons];omega)) aC);rw [show decide ((s:List UInt8).take ([95,58]:List UInt8).length=[95,58])=false from decide_eq_false h2] at HA1;have HA2:=hid (fun w (hr:Rd w q s false)=>dU q s [34] false w hr (by first | omega | (simp only [List.length_cons];omega)) aC);rw [show decide ((s:List UInt8).take ([34]:List UInt8).length=[34])=false from decide_eq_false h3] at HA2;have IS:=hid (fun w h=>gX 0 [] [] w aC aC h);rw [show Tm.is 0 [] []=false from rfl] at IS;have FA:=hid (fun w (h:Rd w q s false)=>wu q s false w h);have BL:=hid (fun w (h:Rd w q [] true)=>h_ q [] true w h aC);clear hr h1 h2 h3;go_enter func135,ntmps135;have hlt:=(HR.out).lt;have HB2:=hid (show But q w ((w.alloc (.cells #[.int .i64 0,.string ⟨#[]⟩,.string ⟨#[]⟩] 61)).alloc (.cells #[.int .i64 0,.string ⟨#[]⟩,.string ⟨#[]⟩] 61)) from But.below (((Below.refl w.heap.size w).alloc ay _).alloc aC _));have HT2:=hid ((ak.new w [.int .i64 0,str [],str []] 61).alloc (.cells #[.int .i64 0,.string ⟨#[]⟩,.string ⟨#[]⟩] 61));have bg:=hid (show ak ((w.alloc (.cells #[.int .i64 0,.string ⟨#[]⟩,.string ⟨#[]⟩] 61)).alloc (.cells #[.int .i64 0,.string ⟨#[]⟩,.string ⟨#[]⟩] 61)) (w.heap.size+1) [.int .i64 0,str [],str []] 61 from ak.new' aC rfl);have HR2:=hid ((HR.out.keep ((Below.refl _ _).alloc ay (.cells #[.int .i64 0,.string ⟨#[]⟩,.string ⟨#[]⟩] 61))).keep ((Below.refl _ _).alloc ay (.cells #[.int .i64 0,.string ⟨#[]⟩,.string ⟨#[]⟩] 61)));have hq2:q≠w.heap.size+1:=aj;have hq0:q≠w.heap.size:=aj;go_wp2_with fail
 refine (fE.out _ HR2.out).mono ?_;rintro e w3 ⟨rfl,rfl⟩;go_wp2_with fail
 refine (HA1.out _ HR2.out).mono ?_;rintro e w3 ⟨rfl,rfl⟩;go_wp2_with fail
 refine (HA2.out _ HR2.out).mono ?_;rintro e w3 ⟨rfl,rfl⟩;obtain ⟨w6,bV⟩:=aA ((w.alloc (.cells #[.int .i64 0,.string ⟨#[]⟩,.string ⟨#[]⟩] 61)).alloc (.cells #[.int .i64 0,.string ⟨#[]⟩,.string ⟨#[]⟩] 61));rw [←bV] at HB2 HT2 bg HR2 ⊢;clear bV;have aJ:=bg;have bC:=HT2;have bN:=HR2;have aO:=HB2;have d0:=aJ.out.cell (i:=0) rfl;have d1:=aJ.out.cell (i:=1) rfl;have d2:=aJ.out.cell (i:=2) rfl;have e0:=aJ.out.free 0;have e1:=aJ.out.free 1;have e2:=aJ.out.free 2;obtain ⟨r0,r1,p0,p1⟩:=bN.out.cells;go_wp2_with fail
 refine (IS.out _ (hbase.rU aO.out)).mono ?_;rintro e w7 ⟨rfl,hb⟩;have bF:=hid (aO.out.trans (But.below hb));have bW:=hid (bC.out.keep hb);have aZ:=hid (aJ.out.keep hb);have eP:=hid (bN.out.keep hb);clear hb d0 d1 d2 e0 e1 e2 r0 r1 p0 p1;go_wp2_with fail
 refine (FA.out _ eP.out).mono ?_;rintro e w8 ⟨rfl,nA,hb⟩;have aI:=hid (bF.out.trans hb);have dh:=hid (But.blk bW.out hb aj);have bU:=hid (But.blk aZ.out hb aj);have d9:=hid nA;clear hb nA;go_wp2_with fail
 refine (BL.out _ d9.out).mono ?_;rintro e w9 ⟨rfl,dL,hb⟩;have aF:=hid (aI.out.trans hb);have aQ:=hid (But.blk dh.out hb aj);have aY:=hid (But.blk bU.out hb aj);have eY:=hid dL;clear hb dL;have d0:=aY.out.cell (i:=0) rfl;have d1:=aY.out.cell (i:=1) rfl;have d2:=aY.out.cell (i:=2) rfl;have g0:=aQ.out.cell (i:=0) rfl;have g1:=aQ.out.cell (i:=1) rfl;have g2:=aQ.out.cell (i:=2) rfl;have k0:=aQ.out.free 0;have k1:=aQ.out.free 1;have k2:=aQ.out.free 2;go_wp2;have HX:=kC (hT:=aQ.out) (v0:=.int .i64 0) (v1:=.string ⟨([]:List UInt8).toArray⟩) (v2:=.string ⟨([]:List UInt8).toArray⟩) (hq:=eY.out) (hne:=aj) (hB:=aF.out) (hb:=Nat.le_refl _);obtain ⟨hx1,hx2,hx3⟩:=HX;exact bodyPost_ret (v:=bM 0 [] []) (kD rfl hx1 results135) rfl ⟨hx3,⟨0,[],[],rfl⟩,hx2⟩
theorem Tc (q:Nat) (s:List UInt8) (w W0:World) (hbase:eB W0 w q) (hl:s.length≤10000000) (u t v:List UInt8) (hs:s=60::u) (hr:Rd w q s false) (hu:Tm.bS 62 false u=some (t,v)) (hi:Tm.is 1 t []=true) :
  Calls prog 135 #[bB q] w (jD q w (Tm.dY s)):=by
 subst hs;simp only [List.length_cons] at hl;have HN:=hid (show Tm.dY (60::u)=some (1,t,[],v.dropWhile bE) by unfold Tm.dY;rw [Tm.uf,hu];simp only [Option.map_some];rw [if_pos (show Tm.is ((1:Nat):Int) t []=true from hi)]);rw [HN.out];have HR:=hid hr;have hlen:=Tm.lq u.length ay hu;have UP:=hid (fun w (hr:Rd w q u false)=>qB q u false 62 false w hr aj aH aH);rw [hu] at UP;have fE:=hid (fun w (hr:Rd w q (60::u) false)=>dU q (60::u) [60] false w hr (by first | omega | (simp only [List.length_cons];omega)) aC);rw [show decide (((60::u):List UInt8).take ([60]:List UInt8).length=[60])=true from decide_eq_true rfl] at fE;have iG:Hid (∀ w,Rd w q u false→Calls prog 183 #[bB q,.int .u8 62,.bool false] w fun x w'=>x=.returned (str t)∧Rd w' q v false∧But q w w'):=UP;clear UP;have IS:=hid (fun w h=>gX 1 t [] w aj aC h);rw [hi] at IS;have BL:=hid (fun w (h:Rd w q v false)=>h_ q v false w h aj);have hex:(⟨(60::u).toArray⟩:ByteArray).extract 1 (u.length+1)=⟨u.toArray⟩:=by have:=gQ (60::u) 1;simpa using this
 have iF:u.length+1≤9223372036854775807:=aj;have hu1:(1:Int)≤(u.length:Int)+1:=aj;clear hr hu hlen hi;go_enter func135,ntmps135;have hlt:=(HR.out).lt;have HB2:=hid (show But q w ((w.alloc (.cells #[.int .i64 0,.string ⟨#[]⟩,.string ⟨#[]⟩] 61)).alloc (.cells #[.int .i64 0,.string ⟨#[]⟩,.string ⟨#[]⟩] 61)) from But.below (((Below.refl w.heap.size w).alloc ay _).alloc aC _));have HT2:=hid ((ak.new w [.int .i64 0,str [],str []] 61).alloc (.cells #[.int .i64 0,.string ⟨#[]⟩,.string ⟨#[]⟩] 61));have bg:=hid (show ak ((w.alloc (.cells #[.int .i64 0,.string ⟨#[]⟩,.string ⟨#[]⟩] 61)).alloc (.cells #[.int .i64 0,.string ⟨#[]⟩,.string ⟨#[]⟩] 61)) (w.heap.size+1) [.int .i64 0,str [],str []] 61 from ak.new' aC rfl);have HR2:=hid ((HR.out.keep ((Below.refl _ _).alloc ay (.cells #[.int .i64 0,.string ⟨#[]⟩,.string ⟨#[]⟩] 61))).keep ((Below.refl _ _).alloc ay (.cells #[.int .i64 0,.string ⟨#[]⟩,.string ⟨#[]⟩] 61)));have hq2:q≠w.heap.size+1:=aj;have hq0:q≠w.heap.size:=aj;go_wp2_with fail
 refine (fE.out _ HR2.out).mono ?_;rintro e w3 ⟨rfl,rfl⟩;obtain ⟨w2,hw2⟩:=aA ((w.alloc (.cells #[.int .i64 0,.string ⟨#[]⟩,.string ⟨#[]⟩] 61)).alloc (.cells #[.int .i64 0,.string ⟨#[]⟩,.string ⟨#[]⟩] 61));rw [←hw2] at HB2 HT2 bg HR2 ⊢;clear hw2;obtain ⟨c0,c1,p2,p3⟩:=HR2.out.cells;go_wp2_with fail
 refine (iG.out _ (HR2.out.set0 (t:=u))).mono ?_;rintro e w5 ⟨rfl,dQ,hb5⟩;clear c0 c1 p2 p3;have bf:=hid (But.blk (ak.other bg.out (Ne.symm hq2) 0 (str u)) hb5 (Ne.symm hq2));have bn:=hid (But.blk (ak.other HT2.out aj 0 (str u)) hb5 aj);have aR:=hid ((HB2.out.trans (But.set q _ 0 (str u))).trans hb5);have bK:=hid dQ;clear dQ hb5;have j0:=bf.out.cell (i:=0) rfl;have j1:=bf.out.cell (i:=1) rfl;have j2:=bf.out.cell (i:=2) rfl;have f0:=bf.out.free 0;have f1:=bf.out.free 1;have f2:=bf.out.free 2;obtain ⟨s0,s1,s2,s3⟩:=bK.out.cells;have rV:w.heap.size+1≠q:=Ne.symm hq2;have aJ:=hid (((bf.out.set 0 (.int .i64 1)).set 1 (.string ⟨(t:List UInt8).toArray⟩)).set 2 (.string ⟨([]:List UInt8).toArray⟩));have bC:=hid (ak.other (ak.other (ak.other bn.out (c:=w.heap.size+1) aj 0 (.int .i64 1)) (c:=w.heap.size+1) aj 1 (.string ⟨(t:List UInt8).toArray⟩)) (c:=w.heap.size+1) aj 2 (.string ⟨([]:List UInt8).toArray⟩));have bN:=hid (show Rd _ q _ _ from ak.other (ak.other (ak.other bK.out hq2 0 (.int .i64 1)) hq2 1 (.string ⟨(t:List UInt8).toArray⟩)) hq2 2 (.string ⟨([]:List UInt8).toArray⟩));have aO:=hid (((aR.out.fresh (b:=w.heap.size+1) aj 0 (.int .i64 1)).fresh (b:=w.heap.size+1) aj 1 (.string ⟨(t:List UInt8).toArray⟩)).fresh (b:=w.heap.size+1) aj 2 (.string ⟨([]:List UInt8).toArray⟩));go_wp2_with fail
 obtain ⟨w6,bV⟩:=aA ((((w5.setCell ⟨w.heap.size+1,0,none⟩ (.int .i64 1)).setCell ⟨w.heap.size+1,1,none⟩ (.string ⟨(t:List UInt8).toArray⟩)).setCell ⟨w.heap.size+1,2,none⟩ (.string ⟨([]:List UInt8).toArray⟩)));rw [←bV] at aO bC aJ bN ⊢;clear bV j0 j1 j2 f0 f1 f2 s0 s1 s2 s3;have d0:=aJ.out.cell (i:=0) rfl;have d1:=aJ.out.cell (i:=1) rfl;have d2:=aJ.out.cell (i:=2) rfl;have e0:=aJ.out.free 0;have e1:=aJ.out.free 1;have e2:=aJ.out.free 2;obtain ⟨r0,r1,p0,p1⟩:=bN.out.cells;go_wp2_with fail
 refine (IS.out _ (hbase.rU aO.out)).mono ?_;rintro e w7 ⟨rfl,hb⟩;have bF:=hid (aO.out.trans (But.below hb));have bW:=hid (bC.out.keep hb);have aZ:=hid (aJ.out.keep hb);have eP:=hid (bN.out.keep hb);clear hb d0 d1 d2 e0 e1 e2 r0 r1 p0 p1;have aI:=bF;have dh:=bW;have bU:=aZ;have d9:=eP;go_wp2_with fail
 refine (BL.out _ d9.out).mono ?_;rintro e w9 ⟨rfl,dL,hb⟩;have aF:=hid (aI.out.trans hb);have aQ:=hid (But.blk dh.out hb aj);have aY:=hid (But.blk bU.out hb aj);have eY:=hid dL;clear hb dL;have d0:=aY.out.cell (i:=0) rfl;have d1:=aY.out.cell (i:=1) rfl;have d2:=aY.out.cell (i:=2) rfl;have g0:=aQ.out.cell (i:=0) rfl;have g1:=aQ.out.cell (i:=1) rfl;have g2:=aQ.out.cell (i:=2) rfl;have k0:=aQ.out.free 0;have k1:=aQ.out.free 1;have k2:=aQ.out.free 2;go_wp2;have HX:=kC (hT:=aQ.out) (v0:=.int .i64 1) (v1:=.string ⟨(t:List UInt8).toArray⟩) (v2:=.string ⟨([]:List UInt8).toArray⟩) (hq:=eY.out) (hne:=aj) (hB:=aF.out) (hb:=Nat.le_refl _);obtain ⟨hx1,hx2,hx3⟩:=HX;exact bodyPost_ret (v:=bM 1 t []) (kD rfl hx1 results135) rfl ⟨hx3,rfl,hx2⟩
theorem Td (q:Nat) (s:List UInt8) (w W0:World) (hbase:eB W0 w q) (hl:s.length≤10000000) (u t v:List UInt8) (hs:s=60::u) (hr:Rd w q s false) (hu:Tm.bS 62 false u=some (t,v)) (hi:Tm.is 1 t []=false) :
  Calls prog 135 #[bB q] w (jD q w (Tm.dY s)):=by
 subst hs;simp only [List.length_cons] at hl;have HN:=hid (show Tm.dY (60::u)=none by unfold Tm.dY;rw [Tm.uf,hu];simp only [Option.map_some];rw [if_neg (show ¬ Tm.is ((1:Nat):Int) t []=true by rw [show Tm.is ((1:Nat):Int) t []=false from hi];decide)]);rw [HN.out];have HR:=hid hr;have hlen:=Tm.lq u.length ay hu;have UP:=hid (fun w (hr:Rd w q u false)=>qB q u false 62 false w hr aj aH aH);rw [hu] at UP;have fE:=hid (fun w (hr:Rd w q (60::u) false)=>dU q (60::u) [60] false w hr (by first | omega | (simp only [List.length_cons];omega)) aC);rw [show decide (((60::u):List UInt8).take ([60]:List UInt8).length=[60])=true from decide_eq_true rfl] at fE;have iG:Hid (∀ w,Rd w q u false→Calls prog 183 #[bB q,.int .u8 62,.bool false] w fun x w'=>x=.returned (str t)∧Rd w' q v false∧But q w w'):=UP;clear UP;have IS:=hid (fun w h=>gX 1 t [] w aj aC h);rw [hi] at IS;have FA:=hid (fun w (h:Rd w q v false)=>wu q v false w h);have BL:=hid (fun w (h:Rd w q [] true)=>h_ q [] true w h aC);have hex:(⟨(60::u).toArray⟩:ByteArray).extract 1 (u.length+1)=⟨u.toArray⟩:=by have:=gQ (60::u) 1;simpa using this
 have iF:u.length+1≤9223372036854775807:=aj;have hu1:(1:Int)≤(u.length:Int)+1:=aj;clear hr hu hlen hi;go_enter func135,ntmps135;have hlt:=(HR.out).lt;have HB2:=hid (show But q w ((w.alloc (.cells #[.int .i64 0,.string ⟨#[]⟩,.string ⟨#[]⟩] 61)).alloc (.cells #[.int .i64 0,.string ⟨#[]⟩,.string ⟨#[]⟩] 61)) from But.below (((Below.refl w.heap.size w).alloc ay _).alloc aC _));have HT2:=hid ((ak.new w [.int .i64 0,str [],str []] 61).alloc (.cells #[.int .i64 0,.string ⟨#[]⟩,.string ⟨#[]⟩] 61));have bg:=hid (show ak ((w.alloc (.cells #[.int .i64 0,.string ⟨#[]⟩,.string ⟨#[]⟩] 61)).alloc (.cells #[.int .i64 0,.string ⟨#[]⟩,.string ⟨#[]⟩] 61)) (w.heap.size+1) [.int .i64 0,str [],str []] 61 from ak.new' aC rfl);have HR2:=hid ((HR.out.keep ((Below.refl _ _).alloc ay (.cells #[.int .i64 0,.string ⟨#[]⟩,.string ⟨#[]⟩] 61))).keep ((Below.refl _ _).alloc ay (.cells #[.int .i64 0,.string ⟨#[]⟩,.string ⟨#[]⟩] 61)));have hq2:q≠w.heap.size+1:=aj;have hq0:q≠w.heap.size:=aj;go_wp2_with fail
 refine (fE.out _ HR2.out).mono ?_;rintro e w3 ⟨rfl,rfl⟩;obtain ⟨w2,hw2⟩:=aA ((w.alloc (.cells #[.int .i64 0,.string ⟨#[]⟩,.string ⟨#[]⟩] 61)).alloc (.cells #[.int .i64 0,.string ⟨#[]⟩,.string ⟨#[]⟩] 61));rw [←hw2] at HB2 HT2 bg HR2 ⊢;clear hw2;obtain ⟨c0,c1,p2,p3⟩:=HR2.out.cells;go_wp2_with fail
 refine (iG.out _ (HR2.out.set0 (t:=u))).mono ?_;rintro e w5 ⟨rfl,dQ,hb5⟩;clear c0 c1 p2 p3;have bf:=hid (But.blk (ak.other bg.out (Ne.symm hq2) 0 (str u)) hb5 (Ne.symm hq2));have bn:=hid (But.blk (ak.other HT2.out aj 0 (str u)) hb5 aj);have aR:=hid ((HB2.out.trans (But.set q _ 0 (str u))).trans hb5);have bK:=hid dQ;clear dQ hb5;have j0:=bf.out.cell (i:=0) rfl;have j1:=bf.out.cell (i:=1) rfl;have j2:=bf.out.cell (i:=2) rfl;have f0:=bf.out.free 0;have f1:=bf.out.free 1;have f2:=bf.out.free 2;obtain ⟨s0,s1,s2,s3⟩:=bK.out.cells;have rV:w.heap.size+1≠q:=Ne.symm hq2;have aJ:=hid (((bf.out.set 0 (.int .i64 1)).set 1 (.string ⟨(t:List UInt8).toArray⟩)).set 2 (.string ⟨([]:List UInt8).toArray⟩));have bC:=hid (ak.other (ak.other (ak.other bn.out (c:=w.heap.size+1) aj 0 (.int .i64 1)) (c:=w.heap.size+1) aj 1 (.string ⟨(t:List UInt8).toArray⟩)) (c:=w.heap.size+1) aj 2 (.string ⟨([]:List UInt8).toArray⟩));have bN:=hid (show Rd _ q _ _ from ak.other (ak.other (ak.other bK.out hq2 0 (.int .i64 1)) hq2 1 (.string ⟨(t:List UInt8).toArray⟩)) hq2 2 (.string ⟨([]:List UInt8).toArray⟩));have aO:=hid (((aR.out.fresh (b:=w.heap.size+1) aj 0 (.int .i64 1)).fresh (b:=w.heap.size+1) aj 1 (.string ⟨(t:List UInt8).toArray⟩)).fresh (b:=w.heap.size+1) aj 2 (.string ⟨([]:List UInt8).toArray⟩));go_wp2_with fail
 obtain ⟨w6,bV⟩:=aA ((((w5.setCell ⟨w.heap.size+1,0,none⟩ (.int .i64 1)).setCell ⟨w.heap.size+1,1,none⟩ (.string ⟨(t:List UInt8).toArray⟩)).setCell ⟨w.heap.size+1,2,none⟩ (.string ⟨([]:List UInt8).toArray⟩)));rw [←bV] at aO bC aJ bN ⊢;clear bV j0 j1 j2 f0 f1 f2 s0 s1 s2 s3;have d0:=aJ.out.cell (i:=0) rfl;have d1:=aJ.out.cell (i:=1) rfl;have d2:=aJ.out.cell (i:=2) rfl;have e0:=aJ.out.free 0;have e1:=aJ.out.free 1;have e2:=aJ.out.free 2;obtain ⟨r0,r1,p0,p1⟩:=bN.out.cells;go_wp2_with fail
 refine (IS.out _ (hbase.rU aO.out)).mono ?_;rintro e w7 ⟨rfl,hb⟩;have bF:=hid (aO.out.trans (But.below hb));have bW:=hid (bC.out.keep hb);have aZ:=hid (aJ.out.keep hb);have eP:=hid (bN.out.keep hb);clear hb d0 d1 d2 e0 e1 e2 r0 r1 p0 p1;go_wp2_with fail
 refine (FA.out _ eP.out).mono ?_;rintro e w8 ⟨rfl,nA,hb⟩;have aI:=hid (bF.out.trans hb);have dh:=hid (But.blk bW.out hb aj);have bU:=hid (But.blk aZ.out hb aj);have d9:=hid nA;clear hb nA;go_wp2_with fail
 refine (BL.out _ d9.out).mono ?_;rintro e w9 ⟨rfl,dL,hb⟩;have aF:=hid (aI.out.trans hb);have aQ:=hid (But.blk dh.out hb aj);have aY:=hid (But.blk bU.out hb aj);have eY:=hid dL;clear hb dL;have d0:=aY.out.cell (i:=0) rfl;have d1:=aY.out.cell (i:=1) rfl;have d2:=aY.out.cell (i:=2) rfl;have g0:=aQ.out.cell (i:=0) rfl;have g1:=aQ.out.cell (i:=1) rfl;have g2:=aQ.out.cell (i:=2) rfl;have k0:=aQ.out.free 0;have k1:=aQ.out.free 1;have k2:=aQ.out.free 2;go_wp2;have HX:=kC (hT:=aQ.out) (v0:=.int .i64 1) (v1:=.string ⟨(t:List UInt8).toArray⟩) (v2:=.string ⟨([]:List UInt8).toArray⟩) (hq:=eY.out) (hne:=aj) (hB:=aF.out) (hb:=Nat.le_refl _);obtain ⟨hx1,hx2,hx3⟩:=HX;exact bodyPost_ret (v:=bM 1 t []) (kD rfl hx1 results135) rfl ⟨hx3,⟨1,t,[],rfl⟩,hx2⟩
theorem Te (q:Nat) (s:List UInt8) (w W0:World) (hbase:eB W0 w q) (hl:s.length≤10000000) (u:List UInt8) (hs:s=60::u) (hr:Rd w q s false) (hu:Tm.bS 62 false u=none) :
  Calls prog 135 #[bB q] w (jD q w (Tm.dY s)):=by
 subst hs;simp only [List.length_cons] at hl;have HN:=hid (show Tm.dY (60::u)=none by unfold Tm.dY;rw [Tm.uf,hu];rfl);rw [HN.out];have HR:=hid hr;have UP:=hid (fun w (hr:Rd w q u false)=>qB q u false 62 false w hr aj aH aH);rw [hu] at UP;have fE:=hid (fun w (hr:Rd w q (60::u) false)=>dU q (60::u) [60] false w hr (by first | omega | (simp only [List.length_cons];omega)) aC);rw [show decide (((60::u):List UInt8).take ([60]:List UInt8).length=[60])=true from decide_eq_true rfl] at fE;have iG:Hid (∀ w,Rd w q u false→Calls prog 183 #[bB q,.int .u8 62,.bool false] w fun x w'=>x=.returned (str [])∧Rd w' q [] true∧But q w w'):=UP;clear UP;have BL:=hid (fun w (h:Rd w q [] true)=>h_ q [] true w h aC);have hex:(⟨(60::u).toArray⟩:ByteArray).extract 1 (u.length+1)=⟨u.toArray⟩:=by have:=gQ (60::u) 1;simpa using this
 have iF:u.length+1≤9223372036854775807:=aj;have hu1:(1:Int)≤(u.length:Int)+1:=aj;clear hr hu;go_enter func135,ntmps135;have hlt:=(HR.out).lt;have HB2:=hid (show But q w ((w.alloc (.cells #[.int .i64 0,.string ⟨#[]⟩,.string ⟨#[]⟩] 61)).alloc (.cells #[.int .i64 0,.string ⟨#[]⟩,.string ⟨#[]⟩] 61)) from But.below (((Below.refl w.heap.size w).alloc ay _).alloc aC _));have HT2:=hid ((ak.new w [.int .i64 0,str [],str []] 61).alloc (.cells #[.int .i64 0,.string ⟨#[]⟩,.string ⟨#[]⟩] 61));have bg:=hid (show ak ((w.alloc (.cells #[.int .i64 0,.string ⟨#[]⟩,.string ⟨#[]⟩] 61)).alloc (.cells #[.int .i64 0,.string ⟨#[]⟩,.string ⟨#[]⟩] 61)) (w.heap.size+1) [.int .i64 0,str [],str []] 61 from ak.new' aC rfl);have HR2:=hid ((HR.out.keep ((Below.refl _ _).alloc ay (.cells #[.int .i64 0,.string ⟨#[]⟩,.string ⟨#[]⟩] 61))).keep ((Below.refl _ _).alloc ay (.cells #[.int .i64 0,.string ⟨#[]⟩,.string ⟨#[]⟩] 61)));have hq2:q≠w.heap.size+1:=aj;have hq0:q≠w.heap.size:=aj;go_wp2_with fail
 refine (fE.out _ HR2.out).mono ?_;rintro e w3 ⟨rfl,rfl⟩;obtain ⟨w2,hw2⟩:=aA ((w.alloc (.cells #[.int .i64 0,.string ⟨#[]⟩,.string ⟨#[]⟩] 61)).alloc (.cells #[.int .i64 0,.string ⟨#[]⟩,.string ⟨#[]⟩] 61));rw [←hw2] at HB2 HT2 bg HR2 ⊢;clear hw2;obtain ⟨c0,c1,p2,p3⟩:=HR2.out.cells;go_wp2_with fail
 refine (iG.out _ (HR2.out.set0 (t:=u))).mono ?_;rintro e w5 ⟨rfl,dQ,hb5⟩;clear c0 c1 p2 p3;have bf:=hid (But.blk (ak.other bg.out (Ne.symm hq2) 0 (str u)) hb5 (Ne.symm hq2));have bn:=hid (But.blk (ak.other HT2.out aj 0 (str u)) hb5 aj);have aR:=hid ((HB2.out.trans (But.set q _ 0 (str u))).trans hb5);have bK:=hid dQ;clear dQ hb5;have j0:=bf.out.cell (i:=0) rfl;have j1:=bf.out.cell (i:=1) rfl;have j2:=bf.out.cell (i:=2) rfl;have f0:=bf.out.free 0;have f1:=bf.out.free 1;have f2:=bf.out.free 2;obtain ⟨s0,s1,s2,s3⟩:=bK.out.cells;have rV:w.heap.size+1≠q:=Ne.symm hq2;have aJ:=hid (((bf.out.set 0 (.int .i64 1)).set 1 (.string ⟨([]:List UInt8).toArray⟩)).set 2 (.string ⟨([]:List UInt8).toArray⟩));have bC:=hid (ak.other (ak.other (ak.other bn.out (c:=w.heap.size+1) aj 0 (.int .i64 1)) (c:=w.heap.size+1) aj 1 (.string ⟨([]:List UInt8).toArray⟩)) (c:=w.heap.size+1) aj 2 (.string ⟨([]:List UInt8).toArray⟩));have bN:=hid (show Rd _ q _ _ from ak.other (ak.other (ak.other bK.out hq2 0 (.int .i64 1)) hq2 1 (.string ⟨([]:List UInt8).toArray⟩)) hq2 2 (.string ⟨([]:List UInt8).toArray⟩));have aO:=hid (((aR.out.fresh (b:=w.heap.size+1) aj 0 (.int .i64 1)).fresh (b:=w.heap.size+1) aj 1 (.string ⟨([]:List UInt8).toArray⟩)).fresh (b:=w.heap.size+1) aj 2 (.string ⟨([]:List UInt8).toArray⟩));go_wp2_with fail
 obtain ⟨w6,bV⟩:=aA ((((w5.setCell ⟨w.heap.size+1,0,none⟩ (.int .i64 1)).setCell ⟨w.heap.size+1,1,none⟩ (.string ⟨([]:List UInt8).toArray⟩)).setCell ⟨w.heap.size+1,2,none⟩ (.string ⟨([]:List UInt8).toArray⟩)));rw [←bV] at aO bC aJ bN ⊢;clear bV j0 j1 j2 f0 f1 f2 s0 s1 s2 s3;have d0:=aJ.out.cell (i:=0) rfl;have d1:=aJ.out.cell (i:=1) rfl;have d2:=aJ.out.cell (i:=2) rfl;have e0:=aJ.out.free 0;have e1:=aJ.out.free 1;have e2:=aJ.out.free 2;obtain ⟨r0,r1,p0,p1⟩:=bN.out.cells;have bF:=aO;have bW:=bC;have aZ:=aJ;have eP:=bN;have aI:=bF;have dh:=bW;have bU:=aZ;have d9:=eP;go_wp2_with fail
 refine (BL.out _ d9.out).mono ?_;rintro e w9 ⟨rfl,dL,hb⟩;have aF:=hid (aI.out.trans hb);have aQ:=hid (But.blk dh.out hb aj);have aY:=hid (But.blk bU.out hb aj);have eY:=hid dL;clear hb dL;clear d0 d1 d2 e0 e1 e2 r0 r1 p0 p1;have d0:=aY.out.cell (i:=0) rfl;have d1:=aY.out.cell (i:=1) rfl;have d2:=aY.out.cell (i:=2) rfl;have g0:=aQ.out.cell (i:=0) rfl;have g1:=aQ.out.cell (i:=1) rfl;have g2:=aQ.out.cell (i:=2) rfl;have k0:=aQ.out.free 0;have k1:=aQ.out.free 1;have k2:=aQ.out.free 2;go_wp2;have HX:=kC (hT:=aQ.out) (v0:=.int .i64 1) (v1:=.string ⟨([]:List UInt8).toArray⟩) (v2:=.string ⟨([]:List UInt8).toArray⟩) (hq:=eY.out) (hne:=aj) (hB:=aF.out) (hb:=Nat.le_refl _);obtain ⟨hx1,hx2,hx3⟩:=HX;exact bodyPost_ret (v:=bM 1 [] []) (kD rfl hx1 results135) rfl ⟨hx3,⟨1,[],[],rfl⟩,hx2⟩
theorem Tf (q:Nat) (s:List UInt8) (w W0:World) (hbase:eB W0 w q) (hl:s.length≤10000000) (u a d:List UInt8) (hs:s=95::58::u) (hr:Rd w q s false) (ha:a=u.takeWhile Tm.dS) (hd:d=u.dropWhile Tm.dS) (hi:Tm.is 2 a []=true) :
  Calls prog 135 #[bB q] w (jD q w (Tm.dY s)):=by
 subst hs;simp only [List.length_cons] at hl;have HN:=hid (show Tm.dY (95::58::u)=some (2,a,[],d.dropWhile bE) by unfold Tm.dY;rw [Tm.zM,←ha,←hd];simp only;rw [if_pos (show Tm.is ((2:Nat):Int) a []=true from hi)]);rw [HN.out];have HR:=hid hr;have hal:a.length≤u.length:=by rw [ha];exact t_ _ _
 have hdl:d.length≤u.length:=by rw [hd];exact kE _ _
 have RN:=hid (fun w (hr:Rd w q u false)=>Dk q u false false w hr aj);rw [Jq,←ha,←hd] at RN;have fE:=hid (fun w (hr:Rd w q (95::58::u) false)=>dU q (95::58::u) [60] false w hr (by first | omega | (simp only [List.length_cons];omega)) aC);rw [show decide (((95::58::u):List UInt8).take ([60]:List UInt8).length=[60])=false from decide_eq_false aC] at fE;have HA1:=hid (fun w (hr:Rd w q (95::58::u) false)=>dU q (95::58::u) [95,58] false w hr (by first | omega | (simp only [List.length_cons];omega)) aC);rw [show decide (((95::58::u):List UInt8).take ([95,58]:List UInt8).length=[95,58])=true from decide_eq_true rfl] at HA1;have IS:=hid (fun w h=>gX 2 a [] w aj aC h);rw [hi] at IS;have BL:=hid (fun w (h:Rd w q d false)=>h_ q d false w h aj);have hex:(⟨(95::58::u).toArray⟩:ByteArray).extract 2 (u.length+1+1)=⟨u.toArray⟩:=by have:=gQ (95::58::u) 2;simpa using this
 have iF:u.length+1+1≤9223372036854775807:=aj;have hu1:(2:Int)≤(u.length:Int)+1+1:=aj;clear hr ha hd hi hal hdl;go_enter func135,ntmps135;have hlt:=(HR.out).lt;have HB2:=hid (show But q w ((w.alloc (.cells #[.int .i64 0,.string ⟨#[]⟩,.string ⟨#[]⟩] 61)).alloc (.cells #[.int .i64 0,.string ⟨#[]⟩,.string ⟨#[]⟩] 61)) from But.below (((Below.refl w.heap.size w).alloc ay _).alloc aC _));have HT2:=hid ((ak.new w [.int .i64 0,str [],str []] 61).alloc (.cells #[.int .i64 0,.string ⟨#[]⟩,.string ⟨#[]⟩] 61));have bg:=hid (show ak ((w.alloc (.cells #[.int .i64 0,.string ⟨#[]⟩,.string ⟨#[]⟩] 61)).alloc (.cells #[.int .i64 0,.string ⟨#[]⟩,.string ⟨#[]⟩] 61)) (w.heap.size+1) [.int .i64 0,str [],str []] 61 from ak.new' aC rfl);have HR2:=hid ((HR.out.keep ((Below.refl _ _).alloc ay (.cells #[.int .i64 0,.string ⟨#[]⟩,.string ⟨#[]⟩] 61))).keep ((Below.refl _ _).alloc ay (.cells #[.int .i64 0,.string ⟨#[]⟩,.string ⟨#[]⟩] 61)));have hq2:q≠w.heap.size+1:=aj;have hq0:q≠w.heap.size:=aj;go_wp2_with fail
 refine (fE.out _ HR2.out).mono ?_;rintro e w3 ⟨rfl,rfl⟩;go_wp2_with fail
 refine (HA1.out _ HR2.out).mono ?_;rintro e w3 ⟨rfl,rfl⟩;obtain ⟨w2,hw2⟩:=aA ((w.alloc (.cells #[.int .i64 0,.string ⟨#[]⟩,.string ⟨#[]⟩] 61)).alloc (.cells #[.int .i64 0,.string ⟨#[]⟩,.string ⟨#[]⟩] 61));rw [←hw2] at HB2 HT2 bg HR2 ⊢;clear hw2;obtain ⟨c0,c1,p2,p3⟩:=HR2.out.cells;go_wp2_with fail
 refine (RN.out _ (HR2.out.set0 (t:=u))).mono ?_;rintro e w5 ⟨rfl,dQ,hb5⟩;clear c0 c1 p2 p3;have bf:=hid (But.blk (ak.other bg.out (Ne.symm hq2) 0 (str u)) hb5 (Ne.symm hq2));have bn:=hid (But.blk (ak.other HT2.out aj 0 (str u)) hb5 aj);have aR:=hid ((HB2.out.trans (But.set q _ 0 (str u))).trans hb5);have bK:=hid dQ;clear dQ hb5;have j0:=bf.out.cell (i:=0) rfl;have j1:=bf.out.cell (i:=1) rfl;have j2:=bf.out.cell (i:=2) rfl;have f0:=bf.out.free 0;have f1:=bf.out.free 1;have f2:=bf.out.free 2;obtain ⟨s0,s1,s2,s3⟩:=bK.out.cells;have rV:w.heap.size+1≠q:=Ne.symm hq2;have aJ:=hid (((bf.out.set 0 (.int .i64 2)).set 1 (.string ⟨(a:List UInt8).toArray⟩)).set 2 (.string ⟨([]:List UInt8).toArray⟩));have bC:=hid (ak.other (ak.other (ak.other bn.out (c:=w.heap.size+1) aj 0 (.int .i64 2)) (c:=w.heap.size+1) aj 1 (.string ⟨(a:List UInt8).toArray⟩)) (c:=w.heap.size+1) aj 2 (.string ⟨([]:List UInt8).toArray⟩));have bN:=hid (show Rd _ q _ _ from ak.other (ak.other (ak.other bK.out hq2 0 (.int .i64 2)) hq2 1 (.string ⟨(a:List UInt8).toArray⟩)) hq2 2 (.string ⟨([]:List UInt8).toArray⟩));have aO:=hid (((aR.out.fresh (b:=w.heap.size+1) aj 0 (.int .i64 2)).fresh (b:=w.heap.size+1) aj 1 (.string ⟨(a:List UInt8).toArray⟩)).fresh (b:=w.heap.size+1) aj 2 (.string ⟨([]:List UInt8).toArray⟩));go_wp2_with fail
 obtain ⟨w6,bV⟩:=aA ((((w5.setCell ⟨w.heap.size+1,0,none⟩ (.int .i64 2)).setCell ⟨w.heap.size+1,1,none⟩ (.string ⟨(a:List UInt8).toArray⟩)).setCell ⟨w.heap.size+1,2,none⟩ (.string ⟨([]:List UInt8).toArray⟩)));rw [←bV] at aO bC aJ bN ⊢;clear bV j0 j1 j2 f0 f1 f2 s0 s1 s2 s3;have d0:=aJ.out.cell (i:=0) rfl;have d1:=aJ.out.cell (i:=1) rfl;have d2:=aJ.out.cell (i:=2) rfl;have e0:=aJ.out.free 0;have e1:=aJ.out.free 1;have e2:=aJ.out.free 2;obtain ⟨r0,r1,p0,p1⟩:=bN.out.cells;go_wp2_with fail
 refine (IS.out _ (hbase.rU aO.out)).mono ?_;rintro e w7 ⟨rfl,hb⟩;have bF:=hid (aO.out.trans (But.below hb));have bW:=hid (bC.out.keep hb);have aZ:=hid (aJ.out.keep hb);have eP:=hid (bN.out.keep hb);clear hb d0 d1 d2 e0 e1 e2 r0 r1 p0 p1;have aI:=bF;have dh:=bW;have bU:=aZ;have d9:=eP;go_wp2_with fail
 refine (BL.out _ d9.out).mono ?_;rintro e w9 ⟨rfl,dL,hb⟩;have aF:=hid (aI.out.trans hb);have aQ:=hid (But.blk dh.out hb aj);have aY:=hid (But.blk bU.out hb aj);have eY:=hid dL;clear hb dL;have d0:=aY.out.cell (i:=0) rfl;have d1:=aY.out.cell (i:=1) rfl;have d2:=aY.out.cell (i:=2) rfl;have g0:=aQ.out.cell (i:=0) rfl;have g1:=aQ.out.cell (i:=1) rfl;have g2:=aQ.out.cell (i:=2) rfl;have k0:=aQ.out.free 0;have k1:=aQ.out.free 1;have k2:=aQ.out.free 2;go_wp2;have HX:=kC (hT:=aQ.out) (v0:=.int .i64 2) (v1:=.string ⟨(a:List UInt8).toArray⟩) (v2:=.string ⟨([]:List UInt8).toArray⟩) (hq:=eY.out) (hne:=aj) (hB:=aF.out) (hb:=Nat.le_refl _);obtain ⟨hx1,hx2,hx3⟩:=HX;exact bodyPost_ret (v:=bM 2 a []) (kD rfl hx1 results135) rfl ⟨hx3,rfl,hx2⟩
theorem Tg (q:Nat) (s:List UInt8) (w W0:World) (hbase:eB W0 w q) (hl:s.length≤10000000) (u a d:List UInt8) (hs:s=95::58::u) (hr:Rd w q s false) (ha:a=u.takeWhile Tm.dS) (hd:d=u.dropWhile Tm.dS) (hi:Tm.is 2 a []=false) :
  Calls prog 135 #[bB q] w (jD q w (Tm.dY s)):=by
 subst hs;simp only [List.length_cons] at hl;have HN:=hid (show Tm.dY (95::58::u)=none by unfold Tm.dY;rw [Tm.zM,←ha,←hd];simp only;rw [if_neg (show ¬ Tm.is ((2:Nat):Int) a []=true by rw [show Tm.is ((2:Nat):Int) a []=false from hi];decide)]);rw [HN.out];have HR:=hid hr;have hal:a.length≤u.length:=by rw [ha];exact t_ _ _
 have hdl:d.length≤u.length:=by rw [hd];exact kE _ _
 have RN:=hid (fun w (hr:Rd w q u false)=>Dk q u false false w hr aj);rw [Jq,←ha,←hd] at RN;have fE:=hid (fun w (hr:Rd w q (95::58::u) false)=>dU q (95::58::u) [60] false w hr (by first | omega | (simp only [List.length_cons];omega)) aC);rw [show decide (((95::58::u):List UInt8).take ([60]:List UInt8).length=[60])=false from decide_eq_false aC] at fE;have HA1:=hid (fun w (hr:Rd w q (95::58::u) false)=>dU q (95::58::u) [95,58] false w hr (by first | omega | (simp only [List.length_cons];omega)) aC);rw [show decide (((95::58::u):List UInt8).take ([95,58]:List UInt8).length=[95,58])=true from decide_eq_true rfl] at HA1;have IS:=hid (fun w h=>gX 2 a [] w aj aC h);rw [hi] at IS;have FA:=hid (fun w (h:Rd w q d false)=>wu q d false w h);have BL:=hid (fun w (h:Rd w q [] true)=>h_ q [] true w h aC);have hex:(⟨(95::58::u).toArray⟩:ByteArray).extract 2 (u.length+1+1)=⟨u.toArray⟩:=by have:=gQ (95::58::u) 2;simpa using this
 have iF:u.length+1+1≤9223372036854775807:=aj;have hu1:(2:Int)≤(u.length:Int)+1+1:=aj;clear hr ha hd hi hal hdl;go_enter func135,ntmps135;have hlt:=(HR.out).lt;have HB2:=hid (show But q w ((w.alloc (.cells #[.int .i64 0,.string ⟨#[]⟩,.string ⟨#[]⟩] 61)).alloc (.cells #[.int .i64 0,.string ⟨#[]⟩,.string ⟨#[]⟩] 61)) from But.below (((Below.refl w.heap.size w).alloc ay _).alloc aC _));have HT2:=hid ((ak.new w [.int .i64 0,str [],str []] 61).alloc (.cells #[.int .i64 0,.string ⟨#[]⟩,.string ⟨#[]⟩] 61));have bg:=hid (show ak ((w.alloc (.cells #[.int .i64 0,.string ⟨#[]⟩,.string ⟨#[]⟩] 61)).alloc (.cells #[.int .i64 0,.string ⟨#[]⟩,.string ⟨#[]⟩] 61)) (w.heap.size+1) [.int .i64 0,str [],str []] 61 from ak.new' aC rfl);have HR2:=hid ((HR.out.keep ((Below.refl _ _).alloc ay (.cells #[.int .i64 0,.string ⟨#[]⟩,.string ⟨#[]⟩] 61))).keep ((Below.refl _ _).alloc ay (.cells #[.int .i64 0,.string ⟨#[]⟩,.string ⟨#[]⟩] 61)));have hq2:q≠w.heap.size+1:=aj;have hq0:q≠w.heap.size:=aj;go_wp2_with fail
 refine (fE.out _ HR2.out).mono ?_;rintro e w3 ⟨rfl,rfl⟩;go_wp2_with fail
 refine (HA1.out _ HR2.out).mono ?_;rintro e w3 ⟨rfl,rfl⟩;obtain ⟨w2,hw2⟩:=aA ((w.alloc (.cells #[.int .i64 0,.string ⟨#[]⟩,.string ⟨#[]⟩] 61)).alloc (.cells #[.int .i64 0,.string ⟨#[]⟩,.string ⟨#[]⟩] 61));rw [←hw2] at HB2 HT2 bg HR2 ⊢;clear hw2;obtain ⟨c0,c1,p2,p3⟩:=HR2.out.cells;go_wp2_with fail
 refine (RN.out _ (HR2.out.set0 (t:=u))).mono ?_;rintro e w5 ⟨rfl,dQ,hb5⟩;clear c0 c1 p2 p3;have bf:=hid (But.blk (ak.other bg.out (Ne.symm hq2) 0 (str u)) hb5 (Ne.symm hq2));have bn:=hid (But.blk (ak.other HT2.out aj 0 (str u)) hb5 aj);have aR:=hid ((HB2.out.trans (But.set q _ 0 (str u))).trans hb5);have bK:=hid dQ;clear dQ hb5;have j0:=bf.out.cell (i:=0) rfl;have j1:=bf.out.cell (i:=1) rfl;have j2:=bf.out.cell (i:=2) rfl;have f0:=bf.out.free 0;have f1:=bf.out.free 1;have f2:=bf.out.free 2;obtain ⟨s0,s1,s2,s3⟩:=bK.out.cells;have rV:w.heap.size+1≠q:=Ne.symm hq2;have aJ:=hid (((bf.out.set 0 (.int .i64 2)).set 1 (.string ⟨(a:List UInt8).toArray⟩)).set 2 (.string ⟨([]:List UInt8).toArray⟩));have bC:=hid (ak.other (ak.other (ak.other bn.out (c:=w.heap.size+1) aj 0 (.int .i64 2)) (c:=w.heap.size+1) aj 1 (.string ⟨(a:List UInt8).toArray⟩)) (c:=w.heap.size+1) aj 2 (.string ⟨([]:List UInt8).toArray⟩));have bN:=hid (show Rd _ q _ _ from ak.other (ak.other (ak.other bK.out hq2 0 (.int .i64 2)) hq2 1 (.string ⟨(a:List UInt8).toArray⟩)) hq2 2 (.string ⟨([]:List UInt8).toArray⟩));have aO:=hid (((aR.out.fresh (b:=w.heap.size+1) aj 0 (.int .i64 2)).fresh (b:=w.heap.size+1) aj 1 (.string ⟨(a:List UInt8).toArray⟩)).fresh (b:=w.heap.size+1) aj 2 (.string ⟨([]:List UInt8).toArray⟩));go_wp2_with fail
 obtain ⟨w6,bV⟩:=aA ((((w5.setCell ⟨w.heap.size+1,0,none⟩ (.int .i64 2)).setCell ⟨w.heap.size+1,1,none⟩ (.string ⟨(a:List UInt8).toArray⟩)).setCell ⟨w.heap.size+1,2,none⟩ (.string ⟨([]:List UInt8).toArray⟩)));rw [←bV] at aO bC aJ bN ⊢;clear bV j0 j1 j2 f0 f1 f2 s0 s1 s2 s3;have d0:=aJ.out.cell (i:=0) rfl;have d1:=aJ.out.cell (i:=1) rfl;have d2:=aJ.out.cell (i:=2) rfl;have e0:=aJ.out.free 0;have e1:=aJ.out.free 1;have e2:=aJ.out.free 2;obtain ⟨r0,r1,p0,p1⟩:=bN.out.cells;go_wp2_with fail
 refine (IS.out _ (hbase.rU aO.out)).mono ?_;rintro e w7 ⟨rfl,hb⟩;have bF:=hid (aO.out.trans (But.below hb));have bW:=hid (bC.out.keep hb);have aZ:=hid (aJ.out.keep hb);have eP:=hid (bN.out.keep hb);clear hb d0 d1 d2 e0 e1 e2 r0 r1 p0 p1;go_wp2_with fail
 refine (FA.out _ eP.out).mono ?_;rintro e w8 ⟨rfl,nA,hb⟩;have aI:=hid (bF.out.trans hb);have dh:=hid (But.blk bW.out hb aj);have bU:=hid (But.blk aZ.out hb aj);have d9:=hid nA;clear hb nA;go_wp2_with fail
 refine (BL.out _ d9.out).mono ?_;rintro e w9 ⟨rfl,dL,hb⟩;have aF:=hid (aI.out.trans hb);have aQ:=hid (But.blk dh.out hb aj);have aY:=hid (But.blk bU.out hb aj);have eY:=hid dL;clear hb dL;have d0:=aY.out.cell (i:=0) rfl;have d1:=aY.out.cell (i:=1) rfl;have d2:=aY.out.cell (i:=2) rfl;have g0:=aQ.out.cell (i:=0) rfl;have g1:=aQ.out.cell (i:=1) rfl;have g2:=aQ.out.cell (i:=2) rfl;have k0:=aQ.out.free 0;have k1:=aQ.out.free 1;have k2:=aQ.out.free 2;go_wp2;have HX:=kC (hT:=aQ.out) (v0:=.int .i64 2) (v1:=.string ⟨(a:List UInt8).toArray⟩) (v2:=.string ⟨([]:List UInt8).toArray⟩) (hq:=eY.out) (hne:=aj) (hB:=aF.out) (hb:=Nat.le_refl _);obtain ⟨hx1,hx2,hx3⟩:=HX;exact bodyPost_ret (v:=bM 2 a []) (kD rfl hx1 results135) rfl ⟨hx3,⟨2,a,[],rfl⟩,hx2⟩
theorem Ti (q:Nat) (s:List UInt8) (w W0:World) (hbase:eB W0 w q) (hl:s.length≤10000000) (u t x v:List UInt8) (k:Nat) (hs:s=34::u) (hr:Rd w q s false) (hu:Tm.dW u=some (k,t,x,v)) (hi:Tm.is (k:Int) t x=true) :
  Calls prog 135 #[bB q] w (jD q w (Tm.dY s)):=by
 subst hs;simp only [List.length_cons] at hl;have HN:=hid (show Tm.dY (34::u)=some (k,t,x,v.dropWhile bE) by unfold Tm.dY;rw [Tm.ug,hu];simp only;rw [if_pos hi]);rw [HN.out];have HR:=hid hr;have hlen:=Tm.Dv hu;have LI:=hid (fun w (hr:Rd w q u false)=>Dt q u w hr aj);rw [hu] at LI;have fE:=hid (fun w (hr:Rd w q (34::u) false)=>dU q (34::u) [60] false w hr (by first | omega | (simp only [List.length_cons];omega)) aC);rw [show decide (((34::u):List UInt8).take ([60]:List UInt8).length=[60])=false from decide_eq_false aC] at fE;have HA1:=hid (fun w (hr:Rd w q (34::u) false)=>dU q (34::u) [95,58] false w hr (by first | omega | (simp only [List.length_cons];omega)) aC);rw [show decide (((34::u):List UInt8).take ([95,58]:List UInt8).length=[95,58])=false from decide_eq_false aC] at HA1;have HA2:=hid (fun w (hr:Rd w q (34::u) false)=>dU q (34::u) [34] false w hr (by first | omega | (simp only [List.length_cons];omega)) aC);rw [show decide (((34::u):List UInt8).take ([34]:List UInt8).length=[34])=true from decide_eq_true rfl] at HA2;have IS:=hid (fun w h=>gX (k:Int) t x w aj aj h);rw [hi] at IS;have BL:=hid (fun w (h:Rd w q v false)=>h_ q v false w h aj);have hex:(⟨(34::u).toArray⟩:ByteArray).extract 1 (u.length+1)=⟨u.toArray⟩:=by have:=gQ (34::u) 1;simpa using this
 have iF:u.length+1≤9223372036854775807:=aj;have hu1:(1:Int)≤(u.length:Int)+1:=aj;clear hr hu hlen hi;go_enter func135,ntmps135;have hlt:=(HR.out).lt;have HB2:=hid (show But q w ((w.alloc (.cells #[.int .i64 0,.string ⟨#[]⟩,.string ⟨#[]⟩] 61)).alloc (.cells #[.int .i64 0,.string ⟨#[]⟩,.string ⟨#[]⟩] 61)) from But.below (((Below.refl w.heap.size w).alloc ay _).alloc aC _));have HT2:=hid ((ak.new w [.int .i64 0,str [],str []] 61).alloc (.cells #[.int .i64 0,.string ⟨#[]⟩,.string ⟨#[]⟩] 61));have bg:=hid (show ak ((w.alloc (.cells #[.int .i64 0,.string ⟨#[]⟩,.string ⟨#[]⟩] 61)).alloc (.cells #[.int .i64 0,.string ⟨#[]⟩,.string ⟨#[]⟩] 61)) (w.heap.size+1) [.int .i64 0,str [],str []] 61 from ak.new' aC rfl);have HR2:=hid ((HR.out.keep ((Below.refl _ _).alloc ay (.cells #[.int .i64 0,.string ⟨#[]⟩,.string ⟨#[]⟩] 61))).keep ((Below.refl _ _).alloc ay (.cells #[.int .i64 0,.string ⟨#[]⟩,.string ⟨#[]⟩] 61)));have hq2:q≠w.heap.size+1:=aj;have hq0:q≠w.heap.size:=aj;go_wp2_with fail
 refine (fE.out _ HR2.out).mono ?_;rintro e w3 ⟨rfl,rfl⟩;go_wp2_with fail
 refine (HA1.out _ HR2.out).mono ?_;rintro e w3 ⟨rfl,rfl⟩;go_wp2_with fail
 refine (HA2.out _ HR2.out).mono ?_;rintro e w3 ⟨rfl,rfl⟩;obtain ⟨w2,hw2⟩:=aA ((w.alloc (.cells #[.int .i64 0,.string ⟨#[]⟩,.string ⟨#[]⟩] 61)).alloc (.cells #[.int .i64 0,.string ⟨#[]⟩,.string ⟨#[]⟩] 61));rw [←hw2] at HB2 HT2 bg HR2 ⊢;clear hw2;obtain ⟨c0,c1,p2,p3⟩:=HR2.out.cells;go_wp2_with fail
 refine (LI.out _ (HR2.out.set0 (t:=u))).mono ?_;rintro e w5 ⟨hb5,rfl,dQ⟩;clear c0 c1 p2 p3;have bf:=hid (But.blk (ak.other bg.out (Ne.symm hq2) 0 (str u)) hb5 (Ne.symm hq2));have bn:=hid (But.blk (ak.other HT2.out aj 0 (str u)) hb5 aj);have aR:=hid ((HB2.out.trans (But.set q _ 0 (str u))).trans hb5);have bK:=hid dQ;clear dQ hb5;have j0:=bf.out.cell (i:=0) rfl;have j1:=bf.out.cell (i:=1) rfl;have j2:=bf.out.cell (i:=2) rfl;have f0:=bf.out.free 0;have f1:=bf.out.free 1;have f2:=bf.out.free 2;obtain ⟨s0,s1,s2,s3⟩:=bK.out.cells;have rV:w.heap.size+1≠q:=Ne.symm hq2;have aJ:=hid (((bf.out.set 0 (.int .i64 (k:Int))).set 1 (.string ⟨(t:List UInt8).toArray⟩)).set 2 (.string ⟨(x:List UInt8).toArray⟩));have bC:=hid (ak.other (ak.other (ak.other bn.out (c:=w.heap.size+1) aj 0 (.int .i64 (k:Int))) (c:=w.heap.size+1) aj 1 (.string ⟨(t:List UInt8).toArray⟩)) (c:=w.heap.size+1) aj 2 (.string ⟨(x:List UInt8).toArray⟩));have bN:=hid (show Rd _ q _ _ from ak.other (ak.other (ak.other bK.out hq2 0 (.int .i64 (k:Int))) hq2 1 (.string ⟨(t:List UInt8).toArray⟩)) hq2 2 (.string ⟨(x:List UInt8).toArray⟩));have aO:=hid (((aR.out.fresh (b:=w.heap.size+1) aj 0 (.int .i64 (k:Int))).fresh (b:=w.heap.size+1) aj 1 (.string ⟨(t:List UInt8).toArray⟩)).fresh (b:=w.heap.size+1) aj 2 (.string ⟨(x:List UInt8).toArray⟩));go_wp2_with fail
 obtain ⟨w6,bV⟩:=aA ((((w5.setCell ⟨w.heap.size+1,0,none⟩ (.int .i64 (k:Int))).setCell ⟨w.heap.size+1,1,none⟩ (.string ⟨(t:List UInt8).toArray⟩)).setCell ⟨w.heap.size+1,2,none⟩ (.string ⟨(x:List UInt8).toArray⟩)));rw [←bV] at aO bC aJ bN ⊢;clear bV j0 j1 j2 f0 f1 f2 s0 s1 s2 s3;have d0:=aJ.out.cell (i:=0) rfl;have d1:=aJ.out.cell (i:=1) rfl;have d2:=aJ.out.cell (i:=2) rfl;have e0:=aJ.out.free 0;have e1:=aJ.out.free 1;have e2:=aJ.out.free 2;obtain ⟨r0,r1,p0,p1⟩:=bN.out.cells;go_wp2_with fail
 refine (IS.out _ (hbase.rU aO.out)).mono ?_;rintro e w7 ⟨rfl,hb⟩;have bF:=hid (aO.out.trans (But.below hb));have bW:=hid (bC.out.keep hb);have aZ:=hid (aJ.out.keep hb);have eP:=hid (bN.out.keep hb);clear hb d0 d1 d2 e0 e1 e2 r0 r1 p0 p1;have aI:=bF;have dh:=bW;have bU:=aZ;have d9:=eP;go_wp2_with fail
 refine (BL.out _ d9.out).mono ?_;rintro e w9 ⟨rfl,dL,hb⟩;have aF:=hid (aI.out.trans hb);have aQ:=hid (But.blk dh.out hb aj);have aY:=hid (But.blk bU.out hb aj);have eY:=hid dL;clear hb dL;have d0:=aY.out.cell (i:=0) rfl;have d1:=aY.out.cell (i:=1) rfl;have d2:=aY.out.cell (i:=2) rfl;have g0:=aQ.out.cell (i:=0) rfl;have g1:=aQ.out.cell (i:=1) rfl;have g2:=aQ.out.cell (i:=2) rfl;have k0:=aQ.out.free 0;have k1:=aQ.out.free 1;have k2:=aQ.out.free 2;go_wp2;have HX:=kC (hT:=aQ.out) (v0:=.int .i64 (k:Int)) (v1:=.string ⟨(t:List UInt8).toArray⟩) (v2:=.string ⟨(x:List UInt8).toArray⟩) (hq:=eY.out) (hne:=aj) (hB:=aF.out) (hb:=Nat.le_refl _);obtain ⟨hx1,hx2,hx3⟩:=HX;exact bodyPost_ret (v:=bM (k:Int) t x) (kD rfl hx1 results135) rfl ⟨hx3,rfl,hx2⟩
theorem Tj (q:Nat) (s:List UInt8) (w W0:World) (hbase:eB W0 w q) (hl:s.length≤10000000) (u t x v:List UInt8) (k:Nat) (hs:s=34::u) (hr:Rd w q s false) (hu:Tm.dW u=some (k,t,x,v)) (hi:Tm.is (k:Int) t x=false) :
  Calls prog 135 #[bB q] w (jD q w (Tm.dY s)):=by
 subst hs;simp only [List.length_cons] at hl;have HN:=hid (show Tm.dY (34::u)=none by unfold Tm.dY;rw [Tm.ug,hu];simp only;rw [if_neg (by rw [hi];decide)]);rw [HN.out];have HR:=hid hr;have hlen:=Tm.Dv hu;have LI:=hid (fun w (hr:Rd w q u false)=>Dt q u w hr aj);rw [hu] at LI;have fE:=hid (fun w (hr:Rd w q (34::u) false)=>dU q (34::u) [60] false w hr (by first | omega | (simp only [List.length_cons];omega)) aC);rw [show decide (((34::u):List UInt8).take ([60]:List UInt8).length=[60])=false from decide_eq_false aC] at fE;have HA1:=hid (fun w (hr:Rd w q (34::u) false)=>dU q (34::u) [95,58] false w hr (by first | omega | (simp only [List.length_cons];omega)) aC);rw [show decide (((34::u):List UInt8).take ([95,58]:List UInt8).length=[95,58])=false from decide_eq_false aC] at HA1;have HA2:=hid (fun w (hr:Rd w q (34::u) false)=>dU q (34::u) [34] false w hr (by first | omega | (simp only [List.length_cons];omega)) aC);rw [show decide (((34::u):List UInt8).take ([34]:List UInt8).length=[34])=true from decide_eq_true rfl] at HA2;have IS:=hid (fun w h=>gX (k:Int) t x w aj aj h);rw [hi] at IS;have FA:=hid (fun w (h:Rd w q v false)=>wu q v false w h);have BL:=hid (fun w (h:Rd w q [] true)=>h_ q [] true w h aC);have hex:(⟨(34::u).toArray⟩:ByteArray).extract 1 (u.length+1)=⟨u.toArray⟩:=by have:=gQ (34::u) 1;simpa using this
 have iF:u.length+1≤9223372036854775807:=aj;have hu1:(1:Int)≤(u.length:Int)+1:=aj;clear hr hu hlen hi;go_enter func135,ntmps135;have hlt:=(HR.out).lt;have HB2:=hid (show But q w ((w.alloc (.cells #[.int .i64 0,.string ⟨#[]⟩,.string ⟨#[]⟩] 61)).alloc (.cells #[.int .i64 0,.string ⟨#[]⟩,.string ⟨#[]⟩] 61)) from But.below (((Below.refl w.heap.size w).alloc ay _).alloc aC _));have HT2:=hid ((ak.new w [.int .i64 0,str [],str []] 61).alloc (.cells #[.int .i64 0,.string ⟨#[]⟩,.string ⟨#[]⟩] 61));have bg:=hid (show ak ((w.alloc (.cells #[.int .i64 0,.string ⟨#[]⟩,.string ⟨#[]⟩] 61)).alloc (.cells #[.int .i64 0,.string ⟨#[]⟩,.string ⟨#[]⟩] 61)) (w.heap.size+1) [.int .i64 0,str [],str []] 61 from ak.new' aC rfl);have HR2:=hid ((HR.out.keep ((Below.refl _ _).alloc ay (.cells #[.int .i64 0,.string ⟨#[]⟩,.string ⟨#[]⟩] 61))).keep ((Below.refl _ _).alloc ay (.cells #[.int .i64 0,.string ⟨#[]⟩,.string ⟨#[]⟩] 61)));have hq2:q≠w.heap.size+1:=aj;have hq0:q≠w.heap.size:=aj;go_wp2_with fail
 refine (fE.out _ HR2.out).mono ?_;rintro e w3 ⟨rfl,rfl⟩;go_wp2_with fail
 refine (HA1.out _ HR2.out).mono ?_;rintro e w3 ⟨rfl,rfl⟩;go_wp2_with fail
 refine (HA2.out _ HR2.out).mono ?_;rintro e w3 ⟨rfl,rfl⟩;obtain ⟨w2,hw2⟩:=aA ((w.alloc (.cells #[.int .i64 0,.string ⟨#[]⟩,.string ⟨#[]⟩] 61)).alloc (.cells #[.int .i64 0,.string ⟨#[]⟩,.string ⟨#[]⟩] 61));rw [←hw2] at HB2 HT2 bg HR2 ⊢;clear hw2;obtain ⟨c0,c1,p2,p3⟩:=HR2.out.cells;go_wp2_with fail
 refine (LI.out _ (HR2.out.set0 (t:=u))).mono ?_;rintro e w5 ⟨hb5,rfl,dQ⟩;clear c0 c1 p2 p3;have bf:=hid (But.blk (ak.other bg.out (Ne.symm hq2) 0 (str u)) hb5 (Ne.symm hq2));have bn:=hid (But.blk (ak.other HT2.out aj 0 (str u)) hb5 aj);have aR:=hid ((HB2.out.trans (But.set q _ 0 (str u))).trans hb5);have bK:=hid dQ;clear dQ hb5;have j0:=bf.out.cell (i:=0) rfl;have j1:=bf.out.cell (i:=1) rfl;have j2:=bf.out.cell (i:=2) rfl;have f0:=bf.out.free 0;have f1:=bf.out.free 1;have f2:=bf.out.free 2;obtain ⟨s0,s1,s2,s3⟩:=bK.out.cells;have rV:w.heap.size+1≠q:=Ne.symm hq2;have aJ:=hid (((bf.out.set 0 (.int .i64 (k:Int))).set 1 (.string ⟨(t:List UInt8).toArray⟩)).set 2 (.string ⟨(x:List UInt8).toArray⟩));have bC:=hid (ak.other (ak.other (ak.other bn.out (c:=w.heap.size+1) aj 0 (.int .i64 (k:Int))) (c:=w.heap.size+1) aj 1 (.string ⟨(t:List UInt8).toArray⟩)) (c:=w.heap.size+1) aj 2 (.string ⟨(x:List UInt8).toArray⟩));have bN:=hid (show Rd _ q _ _ from ak.other (ak.other (ak.other bK.out hq2 0 (.int .i64 (k:Int))) hq2 1 (.string ⟨(t:List UInt8).toArray⟩)) hq2 2 (.string ⟨(x:List UInt8).toArray⟩));have aO:=hid (((aR.out.fresh (b:=w.heap.size+1) aj 0 (.int .i64 (k:Int))).fresh (b:=w.heap.size+1) aj 1 (.string ⟨(t:List UInt8).toArray⟩)).fresh (b:=w.heap.size+1) aj 2 (.string ⟨(x:List UInt8).toArray⟩));go_wp2_with fail
 obtain ⟨w6,bV⟩:=aA ((((w5.setCell ⟨w.heap.size+1,0,none⟩ (.int .i64 (k:Int))).setCell ⟨w.heap.size+1,1,none⟩ (.string ⟨(t:List UInt8).toArray⟩)).setCell ⟨w.heap.size+1,2,none⟩ (.string ⟨(x:List UInt8).toArray⟩)));rw [←bV] at aO bC aJ bN ⊢;clear bV j0 j1 j2 f0 f1 f2 s0 s1 s2 s3;have d0:=aJ.out.cell (i:=0) rfl;have d1:=aJ.out.cell (i:=1) rfl;have d2:=aJ.out.cell (i:=2) rfl;have e0:=aJ.out.free 0;have e1:=aJ.out.free 1;have e2:=aJ.out.free 2;obtain ⟨r0,r1,p0,p1⟩:=bN.out.cells;go_wp2_with fail
 refine (IS.out _ (hbase.rU aO.out)).mono ?_;rintro e w7 ⟨rfl,hb⟩;have bF:=hid (aO.out.trans (But.below hb));have bW:=hid (bC.out.keep hb);have aZ:=hid (aJ.out.keep hb);have eP:=hid (bN.out.keep hb);clear hb d0 d1 d2 e0 e1 e2 r0 r1 p0 p1;go_wp2_with fail
 refine (FA.out _ eP.out).mono ?_;rintro e w8 ⟨rfl,nA,hb⟩;have aI:=hid (bF.out.trans hb);have dh:=hid (But.blk bW.out hb aj);have bU:=hid (But.blk aZ.out hb aj);have d9:=hid nA;clear hb nA;go_wp2_with fail
 refine (BL.out _ d9.out).mono ?_;rintro e w9 ⟨rfl,dL,hb⟩;have aF:=hid (aI.out.trans hb);have aQ:=hid (But.blk dh.out hb aj);have aY:=hid (But.blk bU.out hb aj);have eY:=hid dL;clear hb dL;have d0:=aY.out.cell (i:=0) rfl;have d1:=aY.out.cell (i:=1) rfl;have d2:=aY.out.cell (i:=2) rfl;have g0:=aQ.out.cell (i:=0) rfl;have g1:=aQ.out.cell (i:=1) rfl;have g2:=aQ.out.cell (i:=2) rfl;have k0:=aQ.out.free 0;have k1:=aQ.out.free 1;have k2:=aQ.out.free 2;go_wp2;have HX:=kC (hT:=aQ.out) (v0:=.int .i64 (k:Int)) (v1:=.string ⟨(t:List UInt8).toArray⟩) (v2:=.string ⟨(x:List UInt8).toArray⟩) (hq:=eY.out) (hne:=aj) (hB:=aF.out) (hb:=Nat.le_refl _);obtain ⟨hx1,hx2,hx3⟩:=HX;exact bodyPost_ret (v:=bM (k:Int) t x) (kD rfl hx1 results135) rfl ⟨hx3,⟨(k:Int),t,x,rfl⟩,hx2⟩
theorem Tk (q:Nat) (s:List UInt8) (w W0:World) (hbase:eB W0 w q) (hl:s.length≤10000000) (u:List UInt8) (hs:s=34::u) (hr:Rd w q s false) (hu:Tm.dW u=none) :
  Calls prog 135 #[bB q] w (jD q w (Tm.dY s)):=by
 subst hs;simp only [List.length_cons] at hl;have HN:=hid (show Tm.dY (34::u)=none by unfold Tm.dY;rw [Tm.ug,hu]);rw [HN.out];have HR:=hid hr;have LI:=hid (fun w (hr:Rd w q u false)=>Dt q u w hr aj);rw [hu] at LI;have fE:=hid (fun w (hr:Rd w q (34::u) false)=>dU q (34::u) [60] false w hr (by first | omega | (simp only [List.length_cons];omega)) aC);rw [show decide (((34::u):List UInt8).take ([60]:List UInt8).length=[60])=false from decide_eq_false aC] at fE;have HA1:=hid (fun w (hr:Rd w q (34::u) false)=>dU q (34::u) [95,58] false w hr (by first | omega | (simp only [List.length_cons];omega)) aC);rw [show decide (((34::u):List UInt8).take ([95,58]:List UInt8).length=[95,58])=false from decide_eq_false aC] at HA1;have HA2:=hid (fun w (hr:Rd w q (34::u) false)=>dU q (34::u) [34] false w hr (by first | omega | (simp only [List.length_cons];omega)) aC);rw [show decide (((34::u):List UInt8).take ([34]:List UInt8).length=[34])=true from decide_eq_true rfl] at HA2;have BL:=hid (fun w (h:Rd w q [] true)=>h_ q [] true w h aC);have hex:(⟨(34::u).toArray⟩:ByteArray).extract 1 (u.length+1)=⟨u.toArray⟩:=by have:=gQ (34::u) 1;simpa using this
 have iF:u.length+1≤9223372036854775807:=aj;have hu1:(1:Int)≤(u.length:Int)+1:=aj;clear hr hu;go_enter func135,ntmps135;have hlt:=(HR.out).lt;have HB2:=hid (show But q w ((w.alloc (.cells #[.int .i64 0,.string ⟨#[]⟩,.string ⟨#[]⟩] 61)).alloc (.cells #[.int .i64 0,.string ⟨#[]⟩,.string ⟨#[]⟩] 61)) from But.below (((Below.refl w.heap.size w).alloc ay _).alloc aC _));have HT2:=hid ((ak.new w [.int .i64 0,str [],str []] 61).alloc (.cells #[.int .i64 0,.string ⟨#[]⟩,.string ⟨#[]⟩] 61));have bg:=hid (show ak ((w.alloc (.cells #[.int .i64 0,.string ⟨#[]⟩,.string ⟨#[]⟩] 61)).alloc (.cells #[.int .i64 0,.string ⟨#[]⟩,.string ⟨#[]⟩] 61)) (w.heap.size+1) [.int .i64 0,str [],str []] 61 from ak.new' aC rfl);have HR2:=hid ((HR.out.keep ((Below.refl _ _).alloc ay (.cells #[.int .i64 0,.string ⟨#[]⟩,.string ⟨#[]⟩] 61))).keep ((Below.refl _ _).alloc ay (.cells #[.int .i64 0,.string ⟨#[]⟩,.string ⟨#[]⟩] 61)));have hq2:q≠w.heap.size+1:=aj;have hq0:q≠w.heap.size:=aj;go_wp2_with fail
 refine (fE.out _ HR2.out).mono ?_;rintro e w3 ⟨rfl,rfl⟩;go_wp2_with fail
 refine (HA1.out _ HR2.out).mono ?_;rintro e w3 ⟨rfl,rfl⟩;go_wp2_with fail
 refine (HA2.out _ HR2.out).mono ?_;rintro e w3 ⟨rfl,rfl⟩;obtain ⟨w2,hw2⟩:=aA ((w.alloc (.cells #[.int .i64 0,.string ⟨#[]⟩,.string ⟨#[]⟩] 61)).alloc (.cells #[.int .i64 0,.string ⟨#[]⟩,.string ⟨#[]⟩] 61));rw [←hw2] at HB2 HT2 bg HR2 ⊢;clear hw2;obtain ⟨c0,c1,p2,p3⟩:=HR2.out.cells;go_wp2_with fail
 refine (LI.out _ (HR2.out.set0 (t:=u))).mono ?_;rintro e w5 ⟨hb5,⟨kk,tt,xx,rfl⟩,dQ⟩;clear c0 c1 p2 p3;have bf:=hid (But.blk (ak.other bg.out (Ne.symm hq2) 0 (str u)) hb5 (Ne.symm hq2));have bn:=hid (But.blk (ak.other HT2.out aj 0 (str u)) hb5 aj);have aR:=hid ((HB2.out.trans (But.set q _ 0 (str u))).trans hb5);have bK:=hid dQ;clear dQ hb5;have j0:=bf.out.cell (i:=0) rfl;have j1:=bf.out.cell (i:=1) rfl;have j2:=bf.out.cell (i:=2) rfl;have f0:=bf.out.free 0;have f1:=bf.out.free 1;have f2:=bf.out.free 2;obtain ⟨s0,s1,s2,s3⟩:=bK.out.cells;have rV:w.heap.size+1≠q:=Ne.symm hq2;have aJ:=hid (((bf.out.set 0 (.int .i64 kk)).set 1 (.string ⟨(tt:List UInt8).toArray⟩)).set 2 (.string ⟨(xx:List UInt8).toArray⟩));have bC:=hid (ak.other (ak.other (ak.other bn.out (c:=w.heap.size+1) aj 0 (.int .i64 kk)) (c:=w.heap.size+1) aj 1 (.string ⟨(tt:List UInt8).toArray⟩)) (c:=w.heap.size+1) aj 2 (.string ⟨(xx:List UInt8).toArray⟩));have bN:=hid (show Rd _ q _ _ from ak.other (ak.other (ak.other bK.out hq2 0 (.int .i64 kk)) hq2 1 (.string ⟨(tt:List UInt8).toArray⟩)) hq2 2 (.string ⟨(xx:List UInt8).toArray⟩));have aO:=hid (((aR.out.fresh (b:=w.heap.size+1) aj 0 (.int .i64 kk)).fresh (b:=w.heap.size+1) aj 1 (.string ⟨(tt:List UInt8).toArray⟩)).fresh (b:=w.heap.size+1) aj 2 (.string ⟨(xx:List UInt8).toArray⟩));go_wp2_with fail
 obtain ⟨w6,bV⟩:=aA ((((w5.setCell ⟨w.heap.size+1,0,none⟩ (.int .i64 kk)).setCell ⟨w.heap.size+1,1,none⟩ (.string ⟨(tt:List UInt8).toArray⟩)).setCell ⟨w.heap.size+1,2,none⟩ (.string ⟨(xx:List UInt8).toArray⟩)));rw [←bV] at aO bC aJ bN ⊢;clear bV j0 j1 j2 f0 f1 f2 s0 s1 s2 s3;have d0:=aJ.out.cell (i:=0) rfl;have d1:=aJ.out.cell (i:=1) rfl;have d2:=aJ.out.cell (i:=2) rfl;have e0:=aJ.out.free 0;have e1:=aJ.out.free 1;have e2:=aJ.out.free 2;obtain ⟨r0,r1,p0,p1⟩:=bN.out.cells;have bF:=aO;have bW:=bC;have aZ:=aJ;have eP:=bN;have aI:=bF;have dh:=bW;have bU:=aZ;have d9:=eP;go_wp2_with fail
 refine (BL.out _ d9.out).mono ?_;rintro e w9 ⟨rfl,dL,hb⟩;have aF:=hid (aI.out.trans hb);have aQ:=hid (But.blk dh.out hb aj);have aY:=hid (But.blk bU.out hb aj);have eY:=hid dL;clear hb dL;clear d0 d1 d2 e0 e1 e2 r0 r1 p0 p1;have d0:=aY.out.cell (i:=0) rfl;have d1:=aY.out.cell (i:=1) rfl;have d2:=aY.out.cell (i:=2) rfl;have g0:=aQ.out.cell (i:=0) rfl;have g1:=aQ.out.cell (i:=1) rfl;have g2:=aQ.out.cell (i:=2) rfl;have k0:=aQ.out.free 0;have k1:=aQ.out.free 1;have k2:=aQ.out.free 2;go_wp2;have HX:=kC (hT:=aQ.out) (v0:=.int .i64 kk) (v1:=.string ⟨(tt:List UInt8).toArray⟩) (v2:=.string ⟨(xx:List UInt8).toArray⟩) (hq:=eY.out) (hne:=aj) (hB:=aF.out) (hb:=Nat.le_refl _);obtain ⟨hx1,hx2,hx3⟩:=HX;exact bodyPost_ret (v:=bM kk tt xx) (kD rfl hx1 results135) rfl ⟨hx3,⟨kk,tt,xx,rfl⟩,hx2⟩
theorem Tp (q:Nat) (s:List UInt8) (w W0:World) (hbase:eB W0 w q) (hl:s.length≤10000000) (hr:Rd w q s false) :
  Calls prog 135 #[bB q] w (jD q w (Tm.dY s)):=by
 by_cases h1:s.take 1=[60]
 · obtain ⟨u,rfl⟩:∃ u,s=60::u:=⟨s.drop 1,by have:=List.take_append_drop 1 s;rw [h1] at this;exact this.symm⟩;cases hu:Tm.bS 62 false u with
   | none=>exact Te q _ w W0 hbase hl u rfl hr hu
   | some p=>obtain ⟨t,v⟩:=p;cases hi:Tm.is 1 t [];{exact Td q _ w W0 hbase hl u t v rfl hr hu hi};{exact Tc q _ w W0 hbase hl u t v rfl hr hu hi}
 · by_cases h2:s.take 2=[95,58];{obtain ⟨u,rfl⟩:∃ u,s=95::58::u:=⟨s.drop 2,by have:=List.take_append_drop 2 s;rw [h2] at this;exact this.symm⟩;cases hi:Tm.is 2 (u.takeWhile Tm.dS) [];{exact Tg q _ w W0 hbase hl u _ _ rfl hr rfl rfl hi};{exact Tf q _ w W0 hbase hl u _ _ rfl hr rfl rfl hi}}
   · by_cases h3:s.take 1=[34]
     · obtain ⟨u,rfl⟩:∃ u,s=34::u:=⟨s.drop 1,by have:=List.take_append_drop 1 s;rw [h3] at this;exact this.symm⟩;cases hu:Tm.dW u with
       | none=>exact Tk q _ w W0 hbase hl u rfl hr hu
       | some p=>obtain ⟨k,t,x,v⟩:=p;cases hi:Tm.is (k:Int) t x;{exact Tj q _ w W0 hbase hl u t x v k rfl hr hu hi};{exact Ti q _ w W0 hbase hl u t x v k rfl hr hu hi}
     {exact Ta q s w W0 hbase hl hr h1 h2 h3}
end Go.Proofs.YtjaebndajhppgaaGreatDoor
namespace Go.Proofs.YtjaebndajhppgaaGreatDoor.Tm
open Go Go.RowKit
abbrev T3:=Nat×T×T
def rt (s:T):Option (T3×T):=match eu s with
 | none=>none
 | some (k,t,x,v)=>some ((k,t,x),v.dropWhile bE)
def dJ (a:T3):Bool:=is (a.1:Int) a.2.1 a.2.2
def point (s:T):Option T:=match s with
 | []=>none
 | c::r=>if c=46 then some (r.dropWhile bE) else none
def iU (s:T):Option ((T3×T3×T3)×T):=match rt s with
 | none=>none
 | some (a,r)=>match rt r with
  | none=>none
  | some (b,u)=>match rt u with
   | none=>none
   | some (c,v)=>match point v with
    | none=>none
    | some z=>some ((a,b,c),z)
def fF (s:T):Bool:=decide (s=[]∨s.head?=some 35)
def bG (p:T3×T3×T3):Bool:=decide (p.1.1=1∨p.1.1=2) && decide (p.2.1.1=1) && (dJ p.1 && dJ p.2.1 && dJ p.2.2)
def one (s:T):Option (Option (T3×T3×T3)):=
 if Lib.validD s=false then none
 else if fF (s.dropWhile bE)=true then some none
 else match iU (s.dropWhile bE) with
  | none=>none
  | some (p,r)=>if fF r=true∧bG p=true then some (some p) else none
theorem wE (s:T):dY s=match rt s with
  | none=>none
  | some (a,r)=>if dJ a=true then some (a.1,a.2.1,a.2.2,r) else none:=by
 unfold dY rt dJ;cases eu s with
 | none=>rfl
 | some p=>obtain ⟨k,t,x,v⟩:=p;rfl
theorem Tq {e:UInt8} {lit:Bool} {s t v:T} (h:bS e lit s=some (t,v)):t.length≤4*s.length∧v.length<s.length:=lq s.length ay h
theorem Tt {s:T} {k:Nat} {t x v:T} (h:eu s=some (k,t,x,v)):t.length≤4*s.length∧x.length≤4*s.length∧v.length≤s.length∧1≤k∧k≤5:=by
 by_cases h1:s.take 1=[60]
 · obtain ⟨u,rfl⟩:∃ u,s=60::u:=⟨s.drop 1,by have:=List.take_append_drop 1 s;rw [h1] at this;exact this.symm⟩;rw [uf] at h;cases hu:bS 62 false u with
   | none=>rw [hu] at h;cases h
   | some p=>obtain ⟨a,b⟩:=p;rw [hu] at h;simp only [Option.map_some,Option.some.injEq,Prod.mk.injEq] at h;obtain ⟨rfl,rfl,rfl,rfl⟩:=h;have:=Tq hu;simp only [List.length_cons,List.length_nil];omega
 · by_cases h2:s.take 2=[95,58];{obtain ⟨u,rfl⟩:∃ u,s=95::58::u:=⟨s.drop 2,by have:=List.take_append_drop 2 s;rw [h2] at this;exact this.symm⟩;rw [zM] at h;simp only [Option.some.injEq,Prod.mk.injEq] at h;obtain ⟨rfl,rfl,rfl,rfl⟩:=h;have a1:=t_ dS u;have a2:=kE dS u;simp only [List.length_cons,List.length_nil];omega}
   · by_cases h3:s.take 1=[34]
     · obtain ⟨u,rfl⟩:∃ u,s=34::u:=⟨s.drop 1,by have:=List.take_append_drop 1 s;rw [h3] at this;exact this.symm⟩;rw [ug] at h;have a1:=Dv h;have a2:1≤k∧k≤5:=by
        unfold dW at h;cases hu:bS 34 true u with
        | none=>rw [hu] at h;cases h
        | some p=>
         obtain ⟨t',v'⟩:=p;rw [hu] at h;simp only at h;split at h;{simp only [Option.some.injEq,Prod.mk.injEq] at h;omega}
         · split at h
           · cases hv:bS 62 false (v'.drop 3) with
             | none=>rw [hv] at h;cases h
             | some z=>rw [hv] at h;simp only [Option.map_some,Option.some.injEq,Prod.mk.injEq] at h;omega
           {simp only [Option.some.injEq,Prod.mk.injEq] at h;omega}
       simp only [List.length_cons];omega
     {rw [Du h1 h2 h3] at h;cases h}
theorem wF {s:T} {a:T3} {r:T} (h:rt s=some (a,r)):a.2.1.length≤4*s.length∧a.2.2.length≤4*s.length∧r.length≤s.length∧1≤a.1∧a.1≤5:=by
 unfold rt at h;cases hr:eu s with
 | none=>rw [hr] at h;cases h
 | some p=>obtain ⟨k,t,x,v⟩:=p;rw [hr] at h;simp only [Option.some.injEq,Prod.mk.injEq] at h;obtain ⟨rfl,rfl⟩:=h;have h1:=Tt hr;have h2:=kE bE v;simp only;omega
end Go.Proofs.YtjaebndajhppgaaGreatDoor.Tm
