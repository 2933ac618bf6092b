/-GSort-/
import Derived.Test.YtjaebndajhppgaaGreatDoorMlHd1
import Derived.Test.YtjaebndajhppgaaGreatDoorMlGSt
import Derived.Test.YtjaebndajhppgaaGreatDoorMlGTri
set_option linter.unusedVariables false
set_option linter.unusedSimpArgs false
set_option maxRecDepth 100000
set_option maxHeartbeats 8000000
namespace Go.Proofs.YtjaebndajhppgaaGreatDoor
open Go.Proofs.Tryz
open Go.ChangeShapes Go.WideShapes Go.ChangeAt Go.RowKit Go.Sort Go.Lib
section
variable {α:Type} [Inhabited α] {enc:α→List Value} {cf:α→α→Int} {w:World} {blk off:Nat}
theorem MQ (enc:α→List Value) (k:Nat) (w:World) (blk off m n:Nat) (dk d':Array α) (os os':Array Obj) (hb:blk<w.heap.size) (h:d'.size=dk.size) :
  sortWorldK enc k (sortWorldK enc k w blk off m dk os) blk off n d' os'=sortWorldK enc k w blk off (m+n) d' (os++os'):=by unfold sortWorldK;exact grow_step_growK enc k w os os' m n blk off dk d' hb h
theorem YN (hk:∀ x,(enc x).length=10) (h1:∀ x,∀ v∈enc x,v.oneCell'=true) (hS:SWO (ltOf cf)) (d:Array α) (g:Nat) (cb:Array Value) (eg:∀ args w,(callFunc g args).run prog w=.ok (.enter g args) w) (hcmp:CmpLays prog g cb enc 10 cf blk off d.size w) (hH:HoldsK enc 10 w blk off d) (hblk:blk<w.heap.size) (hsz:d.size<4611686018427387904)
  (cap a b m:Nat) (dk:Array α) (os:Array Obj) (hs:dk.size=d.size) (hab:a≤b) (hb:b≤d.size) :
  Calls prog 187 #[.slice (some ⟨blk,off,none⟩) d.size cap,.int .i64 a,.int .i64 b,.func (.func g) #[] cb] (sortWorldK enc 10 w blk off m dk os) fun e w'=>
   e=.returned (.tuple #[])∧∃ m' os',w'=sortWorldK enc 10 w blk off m' (Sort.insertionSort (ltOf cf) dk a b) os':=by have hz:=size_sortWorldK_c enc 10 w blk off m dk os;have h:=AnyQ.insertionSortCmpFunc Tryz.insShown 10 isAgg158 sizeOf158 enc hk h1 cf g cb blk off cap a b dk (sortWorldK enc 10 w blk off m dk os) eg (fun m2 os2 d2 hd2 x y=>by rw [MQ enc 10 w blk off m m2 dk d2 os os2 hblk hd2];exact hcmp _ _ d2 (hd2.trans hs) x y) (holdsK_sortWorldK_c enc 10 w blk off d dk m os hH hblk hs) aj hab aj aj;change Calls prog 187 _ _ _ at h;rw [hs] at h;refine h.mono ?_;rintro e w' ⟨rfl,n,os',rfl⟩;refine ⟨rfl,m+n,os++os',?_⟩;rw [MQ enc 10 w blk off m n dk _ os os' hblk ?_];exact (insertionSort_holds hS dk a b hab aj).1.1
theorem YO (hk:∀ x,(enc x).length=10) (h1:∀ x,∀ v∈enc x,v.oneCell'=true) (hS:SWO (ltOf cf)) (d:Array α) (g:Nat) (cb:Array Value) (eg:∀ args w,(callFunc g args).run prog w=.ok (.enter g args) w) (hcmp:CmpLays prog g cb enc 10 cf blk off d.size w) (hH:HoldsK enc 10 w blk off d) (hblk:blk<w.heap.size) (hsz:d.size≤1000000000) (cap:Nat) :
  Calls prog 144 #[.slice (some ⟨blk,off,none⟩) d.size cap,.int .i64 d.size,.func (.func g) #[] cb] w fun e w'=>
   e=.returned (.tuple #[])∧∃ m' d',(∃ os',w'=sortWorldK enc 10 w blk off m' d' os')∧d'.size=d.size∧PermIn 0 d.size d d'∧SortedIn (ltOf cf) 0 d.size d':=by
 have IN:=hid (fun a b m dk os hs hab hb=>YN hk h1 hS d g cb eg hcmp hH hblk aj cap a b m dk os hs hab hb);have SY:=hid (fun a mid b m dk os hs h2 h3 h4 h5 h6=>MP YB hk h1 hS d g cb eg hcmp hH hblk aj (b-a) a mid b m cap dk os ay hs h2 h3 h4 h5 h6);have SW:=hid hS;have HW0:=hid (show w=sortWorldK enc 10 w blk off 0 d #[] by unfold sortWorldK;rw [grow_empty];exact (putRowK_self enc 10 w blk off d hH).symm);clear hcmp hH hk h1 hS;obtain ⟨n,hn⟩:=aA d.size;rw [←hn] at IN SY hsz ⊢;have HN:=hid hn;clear hn;go_enter func144,ntmps144;go_wp2;go_loopg [7,8] (n+1) (fun gg v7 v8 wr=>∃ (q A m':Nat) (dk:Array α) (os':Array Obj),v7=.int .i64 A∧v8=.int .i64 ((A+20:Nat):Int)∧A≤n∧n+1-A≤gg∧Hid (A=q*20)∧Hid (wr=sortWorldK enc 10 w blk off m' dk os')∧Hid (dk.size=n)∧Hid (PermIn 0 n d dk)∧Hid (St.ak (ltOf cf) 20 A dk))
 case atStart=>exact ⟨0,0,0,d,#[],aN,aN,Nat.zero_le _,Nat.le_refl _,by show _=_;rfl,HW0.out,HN.out.symm,permIn_refl _ _ _,fun q i j h1 h2 h3=>aj⟩
 case round=>
  obtain ⟨q,A,m',dk,os',rfl,rfl,hAn,hg,HA,HW,HZ,HP,HB⟩:=hrel;by_cases hlt:A+20≤n
  · have hltz:(A:Int)+20≤(n:Int):=aj;have w1:IntKind.i64.wrap ((A:Int)+20+20)=(A:Int)+20+20:=(by rw [IntKind.wrap_i64];omega);have xR:=hid (IN.out A (A+20) m' dk os' (HZ.out) aj hlt);rw [←HW.out] at xR;(go_wp2_with fail);refine xR.out.mono ?_;rintro e w3 ⟨rfl,m3,os3,hw3⟩;have HW3:=hid hw3;clear hw3;have HI:=hid (insertionSort_holds SW.out dk A (A+20) aj (by have:=HZ.out;omega));go_wp2;go_roundg (n-A)
    (case measure=>omega);case rel=>refine ⟨q+1,A+20,m3,_,os3,aN,aN,hlt,aj,by show _=_;have:=HA.out;omega,HW3.out,HI.out.1.1.trans HZ.out,permIn_trans _ _ _ _ _ HP.out (permIn_mono _ _ A (A+20) 0 n (Nat.zero_le _) hlt (by have:=HZ.out;omega) HI.out.1),?_⟩;have hA:=HA.out;have hB:=HB.out;have hI:=HI.out;show St.ak _ _ _ _;rw [hA] at hB hI ⊢;exact St.xK hB ay hI.1 hI.2
  · have hltz:¬ (A:Int)+20≤(n:Int):=aj;have xR:=hid (IN.out A n m' dk os' (HZ.out) hAn ay);rw [←HW.out] at xR;(go_wp2_with fail);refine xR.out.mono ?_;rintro e w3 ⟨rfl,m3,os3,hw3⟩;have HW3:=hid hw3;clear hw3;have HI:=hid (insertionSort_holds SW.out dk A n hAn (by have:=HZ.out;omega));have lG:=hid (permIn_trans _ _ _ _ _ HP.out (permIn_mono _ _ A n 0 n (Nat.zero_le _) ay (by have:=HZ.out;omega) HI.out.1));have HZ3:=hid (HI.out.1.1.trans HZ.out);have HB3:=hid (show St.ak (ltOf cf) 20 n (insertionSort (ltOf cf) dk A n) by have hA:=HA.out;have hB:=HB.out;have hI:=HI.out;rw [hA] at hB hI ⊢;exact St.xK hB aj hI.1 hI.2);clear HI HB HP HZ HW HA;obtain ⟨d3,hd3⟩:=aA (insertionSort (ltOf cf) dk A n);rw [←hd3] at HW3 lG HZ3 HB3;clear hd3;go_wp2;go_loopg [6] (n-20+1) (fun gg v6 wr=>∃ (s m':Nat) (dk:Array α) (os':Array Obj),v6=.int .i64 s∧20≤s∧n-s+1≤gg∧s≤2*n+20∧Hid (wr=sortWorldK enc 10 w blk off m' dk os')∧Hid (dk.size=n)∧Hid (PermIn 0 n d dk)∧Hid (St.ak (ltOf cf) s n dk))
    (case atStart=>exact ⟨20,m3,d3,os3,aN,Nat.le_refl _,Nat.le_refl _,aj,HW3.out,HZ3.out,lG.out,HB3.out⟩);case round=>
     obtain ⟨s,m4,d4,pW,rfl,aef,hg4,hs2,pX,xP,jH,aP⟩:=hrel;by_cases hsn:s<n
     · have YP:(s:Int)<(n:Int):=aj;obtain ⟨t,ht⟩:=aA (2*s);have et:2*(s:Int)=(t:Int):=aj;have et2:(s:Int)*2=(t:Int):=aj;have wt:IntKind.i64.wrap (t:Int)=(t:Int):=(by rw [IntKind.wrap_i64];omega);have HT:=hid ht;have ht1:t≤2*n:=aj;clear ht;go_wp2;go_loopg [7,8] (n+1) (fun gg v7 v8 wr=>∃ (q A B m':Nat) (dk:Array α) (os':Array Obj),v7=.int .i64 A∧v8=.int .i64 B∧A≤n∧n+1-A≤gg∧Hid (A=q*(2*s)∧B=A+t)∧Hid (wr=sortWorldK enc 10 w blk off m' dk os')∧Hid (dk.size=n)∧Hid (PermIn 0 n d dk)∧Hid (St.Half (ltOf cf) s q n dk))
       (case atStart=>exact ⟨0,0,t,m4,d4,pW,aN,aN,Nat.zero_le _,Nat.le_refl _,by show _∧_;exact ⟨aj,aj⟩,pX.out,xP.out,jH.out,St.half_start aP.out⟩);case round=>
        obtain ⟨q,A,B,m5,d5,xQ,rfl,rfl,aeg,hg5,lH,EZ,xS,sJ,aR⟩:=hrel;obtain ⟨M,hM⟩:=aA (A+s);have eM:(A:Int)+(s:Int)=(M:Int):=aj;have wM:IntKind.i64.wrap (M:Int)=(M:Int):=(by rw [IntKind.wrap_i64];omega);have HM:=hid hM;clear hM;by_cases E5:B≤n
        · have YQ:(B:Int)≤(n:Int):=aj;obtain ⟨B2,hB2⟩:=aA (B+t);have eB2:(B:Int)+(t:Int)=(B2:Int):=aj;have wB2:IntKind.i64.wrap (B2:Int)=(B2:Int):=(by rw [IntKind.wrap_i64];omega);have HB2:=hid hB2;clear hB2;have xU:=hid (St.Yw aR.out (by have:=lH.out;have:=HT.out;omega));have xV:=hid (SY.out A M B m5 d5 xQ xS.out (by have:=HM.out;omega) (by have:=HM.out;have:=lH.out;have:=HT.out;omega) E5
           (by have h:=xU.out.1;rw [HM.out,lH.out.1];exact h) (by have h:=xU.out.2;rw [HM.out,lH.out.2,lH.out.1,HT.out];exact h))
          rw [←EZ.out] at xV;(go_wp2_with fail);refine xV.out.mono ?_;rintro e w6 ⟨rfl,m6,d6,⟨E8,bV⟩,gP,qP,hs6⟩;have H6:=hid (And.intro bV (And.intro gP (And.intro qP hs6)));clear bV gP qP hs6;go_wp2;go_roundg (n-A)
          (case measure=>omega);case rel=>have xW:=lH.out;have hT:=HT.out;have h6:=H6.out;refine ⟨q+1,B,B2,m6,d6,E8,rfl,rfl,E5,aj,by show _∧_;refine ⟨?_,by have:=HB2.out;omega⟩;rw [Nat.add_mul];omega,h6.1,h6.2.1,permIn_trans _ _ _ _ _ sJ.out (permIn_mono _ _ A B 0 n (Nat.zero_le _) E5 (by have:=xS.out;omega) h6.2.2.1),?_⟩;have hp:=h6.2.2.1;have hs:=h6.2.2.2;rw [xW.2,xW.1,hT] at hp hs;exact St.Yx aR.out hp hs
        · have YQ:¬ (B:Int)≤(n:Int):=aj;by_cases YR:M<n
          · have YS:(M:Int)<(n:Int):=aj;have xU:=hid (St.Yy aR.out (by have:=lH.out;have:=HM.out;omega) (by have:=lH.out;have:=HT.out;omega));have xV:=hid (SY.out A M n m5 d5 xQ xS.out (by have:=HM.out;omega) YR ay
             (by have h:=xU.out.1;rw [HM.out,lH.out.1];exact h) (by have h:=xU.out.2;rw [HM.out,lH.out.1];exact h))
            rw [←EZ.out] at xV;(go_wp2_with fail);refine xV.out.mono ?_;rintro e w6 ⟨rfl,m6,d6,⟨E8,bV⟩,gP,qP,hs6⟩;have H6:=hid (And.intro bV (And.intro gP (And.intro qP hs6)));clear bV gP qP hs6;go_wp2;go_roundg (n-t+1)
            (case measure=>have:=HT.out;omega);case rel=>have xW:=lH.out;have hT:=HT.out;have h6:=H6.out;refine ⟨t,m6,d6,E8,rfl,aj,aj,aj,h6.1,h6.2.1,permIn_trans _ _ _ _ _ sJ.out (permIn_mono _ _ A n 0 n (Nat.zero_le _) ay (by have:=xS.out;omega) h6.2.2.1),?_⟩;have hp:=h6.2.2.1;have hs:=h6.2.2.2;rw [xW.1] at hp hs;show St.ak _ _ _ _;rw [hT];exact St.YA aR.out aj hp hs
          · have YS:¬ (M:Int)<(n:Int):=aj;go_wp2;go_roundg (n-t+1)
            (case measure=>have:=HT.out;omega);case rel=>have xW:=lH.out;have hT:=HT.out;have hM:=HM.out;refine ⟨t,m5,d5,xQ,rfl,aj,aj,aj,EZ.out,xS.out,sJ.out,?_⟩;show St.ak _ _ _ _;rw [hT];exact St.Yz aR.out aj aj
     · have YP:¬ (s:Int)<(n:Int):=aj;go_wp2;go_end0
       exact ⟨rfl,m4,d4,⟨pW,pX.out⟩,xP.out,jH.out,St.Yv aP.out aj⟩
theorem YT (hk:∀ x,(enc x).length=10) (h1:∀ x,∀ v∈enc x,v.oneCell'=true) (hS:SWO (ltOf cf)) (d:Array α) (g:Nat) (cb:Array Value) (eg:∀ args w,(callFunc g args).run prog w=.ok (.enter g args) w) (hcmp:CmpLays prog g cb enc 10 cf blk off d.size w) (hH:HoldsK enc 10 w blk off d) (hblk:blk<w.heap.size) (hsz:d.size≤1000000000) (cap:Nat) :
  Calls prog 95 #[.slice (some ⟨blk,off,none⟩) d.size cap,.func (.func g) #[] cb] w fun e w'=>
   e=.returned (.tuple #[])∧∃ m' d',(∃ os',w'=sortWorldK enc 10 w blk off m' d' os')∧d'.size=d.size∧PermIn 0 d.size d d'∧SortedIn (ltOf cf) 0 d.size d':=by
 have ST:=hid (YO hk h1 hS d g cb eg hcmp hH hblk hsz cap);clear hcmp hH hk h1 hS;go_enter func95,ntmps95;go_wp2_with fail
 refine ST.out.mono ?_;rintro e w6 ⟨rfl,m6,d6,bV,gP,qP,hs6⟩;have H6:=hid (And.intro bV (And.intro gP (And.intro qP hs6)));clear bV gP qP hs6;go_wp2;go_end0
 exact ⟨rfl,m6,d6,H6.out.1,H6.out.2.1,H6.out.2.2.1,H6.out.2.2.2⟩
end
theorem YU (a:Option Addr) (c:Nat) (f:Value) (w:World):Calls prog 187 #[.slice a 0 c,.int .i64 0,.int .i64 0,f] w fun e w'=>e=.returned (.tuple #[])∧w'=w:=by
 go_enter func187,ntmps187;go_wp2;refine wp_loop_rounds 1 ?_;rw [rounds_succ];go_wp2;go_end0
 exact ⟨rfl,rfl⟩
theorem YV (a:Option Addr) (c:Nat) (f:Value) (w:World):Calls prog 144 #[.slice a 0 c,.int .i64 0,f] w fun e w'=>e=.returned (.tuple #[])∧w'=w:=by
 have IN:=hid (fun w=>YU a c f w);go_enter func144,ntmps144;go_wp2;refine wp_loop_rounds 1 ?_;rw [rounds_succ];go_wp2_with fail
 refine (IN.out _).mono ?_;rintro e w1 ⟨rfl,hw⟩;subst hw;go_wp2;refine wp_loop_rounds 1 ?_;rw [rounds_succ];go_wp2;go_end0
 exact ⟨rfl,rfl⟩
theorem MR (a:Option Addr) (c:Nat) (f:Value) (w:World):Calls prog 95 #[.slice a 0 c,f] w fun e w'=>e=.returned (.tuple #[])∧w'=w:=by
 have IN:=hid (fun w=>YV a c f w);go_enter func95,ntmps95;go_wp2_with fail
 refine (IN.out _).mono ?_;rintro e w1 ⟨rfl,hw⟩;subst hw;go_wp2;go_end0
 exact ⟨rfl,rfl⟩
theorem YW (f:Value) (w:World):Calls prog 95 #[.slice none 0 0,f] w fun e w'=>e=.returned (.tuple #[])∧w'=w:=MR none 0 f w
open Go.ChangeShapes Go.WideShapes Go.ChangeAt Go.RowKit
theorem xX (w:World):(zeroValue 142).run prog w=.ok (.agg #[]) w:=aD
theorem Br {w w':World} {b n:Nat} {D:DataW Unit} (h:w.ownsMap prog 67 Go.unitElem b n D) (hb:Below w.heap.size w w'):w'.ownsMap prog 67 Go.unitElem b n D:=
 h.kept (row:=none) ⟨hb.os,hb.tape,hb.output,hb.size,fun k hk _=>hb.block k hk⟩ aC
theorem Bt {w w':World} {B n sz:Nat} {t:TypeId} {v:Value} {xs:List Value} (h:w.ownsRow B t sz v n xs) (hb:Below w.heap.size w w'):w'.ownsRow B t sz v n xs:=
 h.kept (row:=none) ⟨hb.os,hb.tape,hb.output,hb.size,fun k hk _=>hb.block k hk⟩ (by cases v.ownBlock <;> simp)
theorem xY {t:TR} (h:Tm.bG t=true):pq t:=by obtain ⟨_,_,a1,a2,a3⟩:=Tm.pz h;have b1:=Tm.gY a1;have b2:=Tm.gY a2;have b3:=Tm.gY a3;obtain ⟨n1,e1,_,f1⟩:=Tm.iH a1;obtain ⟨n2,e2,_,f2⟩:=Tm.iH a2;obtain ⟨n3,e3,_,f3⟩:=Tm.iH a3;exact ⟨⟨aj,aj,aj⟩,⟨aj,aj,aj⟩,aj,aj,aj⟩
def oH (t:TR):List Value:=[str (Tm.aX t.1.1 t.1.2.1 t.1.2.2),str (Tm.aX t.2.1.1 t.2.1.2.1 t.2.1.2.2),str (Tm.aX t.2.2.1 t.2.2.2.1 t.2.2.2.2)]
def gV (p:TR×Nat):List Value:=(bA p.1).cells++[.slice (some ⟨p.2,0,none⟩) 3 3]
def mX (D:List (TR×Nat)):List Value:=D.flatMap gV
theorem YX (D:List (TR×Nat)) (p:TR×Nat):mX (D++[p])=mX D++gV p:=by simp [mX]
theorem qQ (p:TR×Nat):(gV p).length=10:=rfl
def jw (w:World) (v:Value) (D:List (TR×Nat)):Prop:=∀ p∈D,ak w p.2 (oH p.1) 9∧v.ownBlock≠some p.2
theorem jw.keep {w w':World} {v:Value} {D:List (TR×Nat)} (h:jw w v D) (hb:Below w.heap.size w w'):jw w' v D:=fun p hp=>⟨(h p hp).1.keep hb,(h p hp).2⟩
theorem jw.moved {w w':World} {v v':Value} {D:List (TR×Nat)} (h:jw w v D) (hg:w.grownBy w' v.ownBlock) (hm:Moved w v v'):jw w' v' D:=fun p hp=>by obtain ⟨h1,h2⟩:=h p hp;have hlt:=h1.lt;refine ⟨?_,?_⟩;{unfold ak at h1 ⊢;rw [hg.block p.2 hlt (fun e=>h2 e.symm)];exact h1};{rcases hm with e | ⟨k,e,hk⟩;{rw [e];exact h2};{rw [e];intro h;cases h;omega}}
theorem jw.snoc {w:World} {v:Value} {D:List (TR×Nat)} (h:jw w v D) {p:TR×Nat} (h1:ak w p.2 (oH p.1) 9) (h2:v.ownBlock≠some p.2):jw w v (D++[p]):=fun q hq=>by rcases List.mem_append.1 hq with hq | hq;{exact h q hq};{rw [List.mem_singleton.1 hq];exact ⟨h1,h2⟩}
theorem YZ:∃ i,prog.info? 158=some i∧(∃ z,i.zero=some z∧z.cells.size=10)∧i.size=10∧i.bytes=144:=by have h:(prog.info? 158).map (fun i=>(i.zero.map (fun z=>z.cells.size),i.size,i.bytes))=some (some 10,10,144):=aD;obtain ⟨i,hi,h⟩:=Option.map_eq_some_iff.1 h;simp only [Prod.mk.injEq] at h;obtain ⟨z,hz,hz2⟩:=Option.map_eq_some_iff.1 h.1;exact ⟨i,hi,⟨z,hz,hz2⟩,h.2.1,h.2.2⟩
theorem MS {w:World} {b n:Nat} {D:DataW Unit} (h:w.ownsMap prog 67 Go.unitElem b n D) {p:Nat} {A:List Value} {t:TypeId} (hp:ak w p A t):p≠b:=by obtain ⟨es,clock,hb,_⟩:=h;unfold ak at hp;rintro rfl;rw [hp] at hb;cases hb
theorem jw.map {w w':World} {v:Value} {D:List (TR×Nat)} {b:Nat} (h:jw w v D) (hg:w.grownBy w' (some b)) (hb:∀ p∈D,p.2≠b):jw w' v D:=fun p hp=>by obtain ⟨h1,h2⟩:=h p hp;have hlt:=h1.lt;refine ⟨?_,h2⟩;unfold ak at h1 ⊢;rw [hg.block p.2 hlt (fun e=>hb p hp (Option.some.inj e))];exact h1
theorem ak.map {w w':World} {b q:Nat} {A:List Value} {t:TypeId} (h:ak w q A t) (hg:w.grownBy w' (some b)) (hb:q≠b):ak w' q A t:=by have hlt:=h.lt;unfold ak at h ⊢;rw [hg.block q hlt (fun e=>hb (Option.some.inj e))];exact h
theorem MU {acc:List TR} {t:TR} (h:decide (t∈acc)=false):Tm.jR acc t=acc++[t]:=by unfold Tm.jR;rw [if_neg (of_decide_eq_false h)]
theorem Y0 {acc:List TR} {t:TR} (h:decide (t∈acc)=true):Tm.jR acc t=acc:=by unfold Tm.jR;rw [if_pos (of_decide_eq_true h)]
theorem MV (p:TR×Nat):∀ u∈gV p,u.oneCell'=true:=by intro u hu;simp [gV,eT.cells,bA] at hu;rcases hu with rfl | rfl | rfl | rfl | rfl | rfl | rfl | rfl | rfl | rfl <;> rfl
theorem Y9 (W:World) (p:TR×Nat):∀ ad,some (⟨W.heap.size,0,none⟩:Addr)=some ad→∀ j u,(gV p)[j]?=some u→(W.alloc (.cells (gV p).toArray 158)).cell? (ad.add j)=some u:=by intro ad had j u hu;cases had;rw [ji rfl,Nat.zero_add,gB,←Array.getElem?_toList];exact hu
theorem MW (t:TR) (h:Tm.bG t=true) (W:World):Calls prog 94 #[o_ t] W fun e w'=>∃ b,e=.returned (.slice (some ⟨b,0,none⟩) 3 3)∧W.heap.size≤b∧ak w' b (oH t) 9∧Below W.heap.size W w':=by obtain ⟨_,_,a1,a2,a3⟩:=Tm.pz h;obtain ⟨n1,e1,f1,g1⟩:=Tm.iH a1;obtain ⟨n2,e2,f2,g2⟩:=Tm.iH a2;obtain ⟨n3,e3,f3,g3⟩:=Tm.iH a3;have b1:=Tm.gY a1;have b2:=Tm.gY a2;have b3:=Tm.gY a3;have:=JI (t.1.1:Nat) t.1.2.1 t.1.2.2 (t.2.1.1:Nat) t.2.1.2.1 t.2.1.2.2 (t.2.2.1:Nat) t.2.2.2.1 t.2.2.2.2 W aj aj aj aj aj aj;rw [Tm.zD aj,Tm.zD aj,Tm.zD aj] at this;exact this
theorem E9 {w:World} {b n:Nat} {D:DataW Unit} (h:w.ownsMap prog 67 Go.unitElem b n D):w.ownsMap prog 67 Go.unitElem b (n+1) D:=by obtain ⟨es,clock,hb,F,hs,hD⟩:=h;exact ⟨es,clock,hb,F,aj,hD⟩
theorem Y_ {w w6 w7 w8:World} {u3 v8:Value} {n1:Nat} {M:DataW Unit} {D:List (TR×Nat)} {t:TR} {b7:Nat} {o:Obj} (aO:Below w.heap.size w w6) (sK:w6.ownsMap prog 67 Go.unitElem w.heap.size n1 M) (bC:jw w6 u3 D) (bF:Below w6.heap.size w6 w7) (d_:w6.heap.size≤b7) (aZ:ak w7 b7 (oH t) 9)
  (l8:∀ k,u3.ownBlock=some k→w.heap.size+1≤k) (hol:∀ k,u3.ownBlock=some k→k<w6.heap.size) (G1:w8.ownsRow (w.heap.size+1) 158 10 v8 (D.length+1) (mX D++gV (t,b7))) (G2:(w7.alloc o).grownBy w8 u3.ownBlock) (G3:Moved (w7.alloc o) u3 v8) :
  Below w.heap.size w w8∧w8.ownsMap prog 67 Go.unitElem w.heap.size n1 M∧w8.ownsRow (w.heap.size+1) 158 10 v8 (D++[(t,b7)]).length (mX (D++[(t,b7)]))∧jw w8 v8 (D++[(t,b7)]):=by have E_:=aG aO bF;refine ⟨(E_.alloc E_.size o).grown G2 (by have:=E_.size;simp;omega) (fun k hk=>by have:=l8 k hk;omega),((Br sK bF).alloc o).kept G2 (fun e=>by have:=l8 _ e.symm;omega),?_,?_⟩;{rw [List.length_append,YX];exact G1};{have h1:jw (w7.alloc o) u3 D:=(bC.keep bF).keep ((Below.refl _ _).alloc ay _);exact (h1.snoc (p:=(t,b7)) (aZ.alloc o) (fun e=>by have:=hol _ e;omega)).moved G2 G3}
theorem Za {L:List TR} {i:Nat} (hi:i<L.length):Tm.jS [] (L.take (i+1))=Tm.jR (Tm.jS [] (L.take i)) L[i]:=by rw [List.take_add_one,List.getElem?_eq_getElem hi];unfold Tm.jS;rw [List.foldl_append];rfl
theorem MX (L:List TR) (i:Nat):(Tm.jS [] (L.take i)).length≤i:=by
 have:∀ (l a:List TR),(Tm.jS a l).length≤a.length+l.length:=by
  intro l;induction l with
  | nil=>intro a;simp [Tm.jS]
  | cons t l ih=>intro a;have h1:=ih (Tm.jR a t);have h2:=Tm.Ui a t;show (Tm.jS (Tm.jR a t) l).length≤_;rw [List.length_cons];omega
 have h:=this (L.take i) [];have h2:=List.length_take_le i L;simp only [List.length_nil] at h;omega
open Go.Sort Go.Lib
theorem MZ:∀ (D:List (TR×Nat)) (i c:Nat) (hi:i<D.length),c<10→(mX D)[i*10+c]?=(gV D[i])[c]?
 | [],i,c,hi,_=>by simp at hi
 | p::D,0,c,hi,hc=>by
  show (gV p++mX D)[0*10+c]?=_
  rw [List.getElem?_append_left (by rw [qQ];omega),Nat.zero_mul,Nat.zero_add];rfl
 | p::D,i+1,c,hi,hc=>by
  show (gV p++mX D)[(i+1)*10+c]?=_
  rw [List.getElem?_append_right (by rw [qQ];omega),qQ,show (i+1)*10+c-10=i*10+c by omega]
  exact MZ D i c (by simpa using hi) hc
theorem M4 {α:Type} [Inhabited α] (enc:α→List Value) (k:Nat) {w:World} {blk off n j:Nat} {d:Array α} {os:Array Obj} (hk:j<w.heap.size) (hne:j≠blk):(sortWorldK enc k w blk off n d os).heap[j]?=w.heap[j]?:=by unfold sortWorldK;rw [Go.Sort.heap_grow_old _ _ (by show j<(putRow id (Go.Sort.ahead w n) blk off _).heap.size;simp [putRow,mapBlock,Go.Sort.ahead];exact hk)];show (putRow id (Go.Sort.ahead w n) blk off _).heap[j]?=_;simp only [putRow,mapBlock,Array.getElem?_modify];rw [if_neg (fun e=>hne e.symm)];rfl
theorem Zb {α:Type} [Inhabited α] (enc:α→List Value) (k:Nat) {B:Nat} {w0 w:World} {blk off n:Nat} {d:Array α} {os:Array Obj} (h:Below B w0 w) (hB:B≤blk) (hw:B≤w.heap.size):Below B w0 (sortWorldK enc k w blk off n d os):=by have hz:w.heap.size≤(sortWorldK enc k w blk off n d os).heap.size:=size_sortWorldK_c enc k w blk off n d os;exact ⟨h.os,h.tape,h.output,Nat.le_trans h.size hz,fun j hj=>by rw [M4 enc k aj aj];exact h.block j hj⟩
theorem Zc (p q:TR×Nat) (W:World) (hp:ak W p.2 (oH p.1) 9) (hq:ak W q.2 (oH q.1) 9) :
  Calls prog 96 #[.agg (gV p).toArray,.agg (gV q).toArray] W fun e w'=>e=.returned (.int .i64 (Tm.bO p.1 q.1))∧∃ os',w'=grow W os':=by
 obtain ⟨⟨⟨n1,t1,x1⟩,⟨n2,t2,x2⟩,n3,t3,x3⟩,b⟩:=p;obtain ⟨⟨⟨m1,u1,y1⟩,⟨m2,u2,y2⟩,m3,u3,y3⟩,c⟩:=q;have HW:=hid (show (W.alloc (.cells (gV (((n1,t1,x1),(n2,t2,x2),n3,t3,x3),b)).toArray 158)).alloc (.cells (gV (((m1,u1,y1),(m2,u2,y2),m3,u3,y3),c)).toArray 158)=grow W (#[.cells (gV (((n1,t1,x1),(n2,t2,x2),n3,t3,x3),b)).toArray 158]++#[.cells (gV (((m1,u1,y1),(m2,u2,y2),m3,u3,y3),c)).toArray 158]) by rw [alloc_eq_grow,alloc_eq_grow,grow_grow]);have SC:=hid (fun W h1 h2=>Uo b c (Tm.aX n1 t1 x1) (Tm.aX n2 t2 x2) (Tm.aX n3 t3 x3) (Tm.aX m1 u1 y1) (Tm.aX m2 u2 y2) (Tm.aX m3 u3 y3) W h1 h2);have HP:=hid (show ak W b [str (Tm.aX n1 t1 x1),str (Tm.aX n2 t2 x2),str (Tm.aX n3 t3 x3)] 9 from hp);have HQ:=hid (show ak W c [str (Tm.aX m1 u1 y1),str (Tm.aX m2 u2 y2),str (Tm.aX m3 u3 y3)] 9 from hq);obtain ⟨r,hr⟩:=aA (Tm.jQ (Tm.aX n1 t1 x1) (Tm.aX n2 t2 x2) (Tm.aX n3 t3 x3) (Tm.aX m1 u1 y1) (Tm.aX m2 u2 y2) (Tm.aX m3 u3 y3));have HR:=hid (show Tm.bO ((n1,t1,x1),(n2,t2,x2),n3,t3,x3) ((m1,u1,y1),(m2,u2,y2),m3,u3,y3)=r from hr.symm);rw [←hr] at SC;rw [HR.out];clear hp hq hr;show Calls prog 96 #[.agg #[.int .i64 (n1:Nat),str t1,str x1,.int .i64 (n2:Nat),str t2,str x2,.int .i64 (n3:Nat),str t3,str x3,.slice (some ⟨b,0,none⟩) 3 3],.agg #[.int .i64 (m1:Nat),str u1,str y1,.int .i64 (m2:Nat),str u2,str y2,.int .i64 (m3:Nat),str u3,str y3,.slice (some ⟨c,0,none⟩) 3 3]] W _;go_enter func96,ntmps96;go_wp2_with fail
 refine (SC.out _ ((HP.out.alloc _).alloc _) ((HQ.out.alloc _).alloc _)).mono ?_;rintro e w3 ⟨rfl,hw3⟩;subst hw3;go_wp2;go_ret;exact ⟨rfl,_,HW.out⟩
def ShAt (W:World) (v:Value) (S:List (TR×Nat)):Prop:=∃ (a:Option Addr) (cap:Nat),v=.slice a S.length cap∧(S.length=0∨∃ g,a=some ⟨g,0,none⟩∧∀ i (h:i<S.length) c,c<10→W.cell? ⟨g,i*10+c,none⟩=(gV S[i])[c]?)
section
variable {N:Nat}
def encR (r:Fin (N+1)→TR×Nat) (i:Fin (N+1)):List Value:=gV (r i)
def uQ (r:Fin (N+1)→TR×Nat) (i j:Fin (N+1)):Int:=Tm.bO (r i).1 (r j).1
theorem M5 {r:Fin (N+1)→TR×Nat} {i j:Fin (N+1)} (h:ltOf (uQ r) i j=true):Tm.bO (r i).1 (r j).1<0:=of_decide_eq_true h
theorem Fa {r:Fin (N+1)→TR×Nat} {i j:Fin (N+1)} (h:ltOf (uQ r) i j=false):0≤Tm.bO (r i).1 (r j).1:=by have h1:¬ Tm.bO (r i).1 (r j).1<0:=of_decide_eq_false h;omega
theorem M6 {r:Fin (N+1)→TR×Nat} {i j:Fin (N+1)} (h:0≤Tm.bO (r i).1 (r j).1):ltOf (uQ r) i j=false:=by have h1:¬ Tm.bO (r i).1 (r j).1<0:=aj;exact decide_eq_false h1
theorem Zd (r:Fin (N+1)→TR×Nat):SWO (ltOf (uQ r)) where
 irrefl x:=M6 (by
  have:=Tm.nC (r x).1 (r x).1
  omega)
 trans x y z h1 h2:=decide_eq_true (Tm.DI (M5 h1) (M5 h2))
 ntrans x y z h1 h2:=M6 (by
  have b1:=Fa h1
  have b2:=Fa h2
  have a1:=Tm.nC (r x).1 (r y).1
  have a2:=Tm.nC (r y).1 (r z).1
  have a3:=Tm.nC (r x).1 (r z).1
  have:=Tm.DF (p:=(r z).1) (q:=(r y).1) (r:=(r x).1) aj aj
  omega)
theorem Ze (r:Fin (N+1)→TR×Nat) (g n:Nat) (w:World) (hT:∀ i,ak w (r i).2 (oH (r i).1) 9∧(r i).2≠g):CmpLays prog 96 #[] (encR r) 10 (uQ r) g 0 n w:=by
 intro m os dk hdk x y;have hb:∀ i,ak (sortWorldK (encR r) 10 w g 0 m dk os) (r i).2 (oH (r i).1) 9:=fun i=>by have h:=(hT i).1;have hlt:=h.lt;unfold ak at h ⊢;rw [M4 (encR r) 10 hlt (hT i).2];exact h
 have:=Zc (r x) (r y) _ (hb x) (hb y);simp only [Array.append_empty];refine this.mono ?_;rintro e w' ⟨rfl,os',rfl⟩;exact ⟨rfl,0,os',rfl⟩
end
theorem Zf {a:List TR} {t:TR} (h:a.Nodup):(Tm.jR a t).Nodup:=by unfold Tm.jR;split;{exact h};{rename_i hn;rw [List.nodup_append];refine ⟨h,aC,fun x hx y hy=>?_⟩;rw [List.mem_singleton.1 hy];rintro rfl;exact hn hx}
theorem Zg (L:List TR):(Tm.jS [] L).Nodup:=by
 have:∀ (l a:List TR),a.Nodup→(Tm.jS a l).Nodup:=by
  intro l;induction l with
  | nil=>intro a h;exact h
  | cons t l ih=>intro a h;exact ih _ (Zf h)
 exact this L [] List.nodup_nil
theorem Zh (L:List TR) (hl:∀ t∈L,Tm.bG t=true) (D:List (TR×Nat)) (hD:D.map (·.1)=Tm.jS [] L) (B:Nat) (w:World) (u:Value) (HR:w.ownsRow B 158 10 u D.length (mX D)) (HT:jw w u D) (hlen:D.length≤1000000) :
  Calls prog 95 #[u,.func (.func 96) #[] #[]] w fun e w'=>e=.returned (.tuple #[])∧∃ S:List (TR×Nat),ShAt w' u S∧S.map (·.1)=Tm.eD L∧S.length=D.length∧(∀ B0 w0,Below B0 w0 w→B0≤B→B0≤w.heap.size→Below B0 w0 w'):=by
 have hmem:∀ t,t∈D.map (·.1)↔t∈L:=fun t=>by rw [hD,Tm.Dz];simp
 rcases HR.2 with ⟨hu,hD0⟩ | ⟨g,cp,cur,hu,hg,hcur,hcp,hcm,hcs,htk⟩;{subst hu;refine (YW _ _).mono ?_;rintro e w' ⟨rfl,hw⟩;subst hw;have hDn:D=[]:=List.eq_nil_of_length_eq_zero hD0;subst hDn;refine ⟨rfl,[],⟨none,0,rfl,.inl rfl⟩,?_,rfl,fun B0 w0 h _ _=>h⟩;exact Tm.DJ hl List.Pairwise.nil hmem};{rcases Nat.eq_zero_or_pos D.length with h0 | hpos;{have hDn:D=[]:=List.eq_nil_of_length_eq_zero h0;subst hDn;rw [hu];refine (MR _ _ _ _).mono ?_;rintro e w' ⟨rfl,hw⟩;subst hw;refine ⟨rfl,[],⟨_,_,rfl,.inl rfl⟩,?_,rfl,fun B0 w0 h _ _=>h⟩;exact Tm.DJ hl List.Pairwise.nil hmem};{obtain ⟨N,hN⟩:∃ N,D.length=N+1:=⟨D.length-1,aj⟩;have hgl:g<w.heap.size:=(HR.lt g (by rw [hu];rfl)).2;let r:Fin (N+1)→TR×Nat:=fun i=>D[i.1]'aj;have hrD:∀ i (hi:i<N+1),r ⟨i,hi⟩=D[i]'aj:=fun i hi=>rfl;let d:Array (Fin (N+1)):=Array.ofFn fun i=>i;have hds:d.size=N+1:=(by simp [d]);have hdi:∀ i (hi:i<N+1),d[i]! = ⟨i,hi⟩:=fun i hi=>(by rw [getElem!_pos d i (by rw [hds];exact hi)];simp [d]);have Fb:=HR;rw [hu] at Fb;have hH:HoldsK (encR r) 10 w g 0 d:=(by intro j hj;have hj':j<D.length*10:=(by rw [hN];simpa [hds] using hj);have hq:j / 10<N+1:=aj;rw [Nat.zero_add];refine ⟨?_,Fb.frozenAt j⟩;rw [Fb.cellAt j hj',get_flatK _ _ _ _ (by rw [hds];omega),hdi _ hq];have h2:=MZ D (j / 10) (j % 10) aj (Nat.mod_lt _ aj);rw [show j / 10*10+j % 10=j by omega] at h2;rw [h2];show _=some ((gV D[j / 10])[j % 10]!);rw [getElem!_pos (gV D[j / 10]) (j % 10) (by rw [qQ];omega),List.getElem?_eq_getElem (by rw [qQ];omega)]);have hT:∀ i,ak w (r i).2 (oH (r i).1) 9∧(r i).2≠g:=fun i=>(by obtain ⟨h1,h2⟩:=HT (r i) (List.getElem_mem _);exact ⟨h1,fun e=>h2 (by rw [hu,e];rfl)⟩);have h:=YT (enc:=encR r) (cf:=uQ r) (fun x=>qQ _) (fun x=>MV _) (Zd r) d 96 #[] (fun args w=>by exact enters_of func96 aD rfl args w) (Ze r g d.size w hT) hH hgl aj cp;rw [hds] at h;rw [hu,hN];refine h.mono ?_;rintro e w' ⟨rfl,m',d',⟨os',rfl⟩,hz,hP,hS⟩;have hHd:=holdsK_sortWorldK_c (encR r) 10 w g 0 d d' m' os' hH hgl (by rw [hz,hds]);have hp:d'.toList.Perm d.toList:=(by have h3:=hP.2.2;rwa [Array.extract_eq_self_of_le aj,Array.extract_eq_self_of_le aj] at h3);have hdl:d.toList.map r=D:=(by refine List.ext_getElem (by simp [d,hN]) fun i h1 h2=>?_;have h3:i<d.size:=(by rw [hds];omega);rw [List.getElem_map,Array.getElem_toList];have h4:=hdi i aj;rw [getElem!_pos d i h3] at h4;rw [h4]);have M7:(d'.toList.map r).Perm D:=(by rw [←hdl];exact hp.map r);have xZ:(d'.toList.map r).length=N+1:=(by simp [hz]);refine ⟨rfl,d'.toList.map r,?_,?_,by rw [xZ],fun B0 w0 h1 h2 h3=>Zb (encR r) 10 h1 aj h3⟩;{refine ⟨_,cp,by rw [xZ],.inr ⟨g,rfl,fun i hi c hc=>?_⟩⟩;have hi':i<d'.size:=(by simpa using hi);have h4:=(HoldsK.cell hHd (i:=i) (c:=c) hi' hc).1;rw [Nat.zero_add] at h4;rw [h4];have e3:encR r d'[i]! = gV (d'.toList.map r)[i]:=(by rw [getElem!_pos d' i hi'];simp [encR]);rw [e3,getElem!_pos _ c (by rw [qQ];exact hc),List.getElem?_eq_getElem (by rw [qQ];exact hc)]};{refine Tm.DJ hl ?_ fun t=>(by rw [←hmem t];exact ((M7.map (·.1)).mem_iff));have hne:∀ i j,i<N+1→j<N+1→i<j→Tm.bO (r d'[i]!).1 (r d'[j]!).1<0:=fun i j hi hj hij=>(by have h5:=hS i j (Nat.zero_le _) hij hj;have h5:=Fa h5;have h6:=Tm.nC (r d'[j]!).1 (r d'[i]!).1;have hnd:(D.map (·.1)).Nodup:=(by rw [hD];exact Zg L);have Zi:((d'.toList.map r).map (·.1)).Nodup:=((M7.map (·.1)).nodup_iff).2 hnd;have gi:(r d'[i]!).1=((d'.toList.map r).map (·.1))[i]'(by simp [hz];omega):=(by rw [getElem!_pos d' i aj];simp);have gj:(r d'[j]!).1=((d'.toList.map r).map (·.1))[j]'(by simp [hz];omega):=(by rw [getElem!_pos d' j aj];simp);have hm:∀ x,Tm.bG (r x).1=true:=fun x=>hl _ ((hmem _).1 (List.mem_map.2 ⟨r x,List.getElem_mem _,rfl⟩));by_cases h0:Tm.bO (r d'[i]!).1 (r d'[j]!).1=0;{exfalso;have e4:=(Tm.DC (hm _) (hm _)).1 h0;rw [gi,gj] at e4;have h8:=List.pairwise_iff_getElem.1 Zi i j (by simp [hz];omega) (by simp [hz];omega) hij;exact h8 e4};{omega});unfold Tm.fG;rw [List.pairwise_iff_getElem];intro i j hi hj hij;have hi':i<N+1:=(by simpa [hz] using hi);have hj':j<N+1:=(by simpa [hz] using hj);have h7:=hne i j hi' hj' hij;rw [getElem!_pos d' i aj,getElem!_pos d' j aj] at h7;simpa using h7}}}
def uR:List Value:=[.int .i64 0,str [],str [],.int .i64 0,str [],str [],.int .i64 0,str [],str []]
theorem x9:∃ i,prog.info? 67=some i∧i.zero=some (.agg uR.toArray)∧i.size=9∧i.bytes=120:=by have h:(prog.info? 67).map (fun i=>(i.zero,i.size,i.bytes))=some (some (.agg uR.toArray),9,120):=aD;obtain ⟨i,hi,h⟩:=Option.map_eq_some_iff.1 h;simp only [Prod.mk.injEq] at h;exact ⟨i,hi,h.1,h.2.1,h.2.2⟩
def yc (A:List Value) (o:Nat) (v0 v1 v2 v3 v4 v5 v6 v7 v8:Value):List Value:=
 ((((((((A.set o v0).set (o+1) v1).set (o+2) v2).set (o+3) v3).set (o+4) v4).set (o+5) v5).set (o+6) v6).set (o+7) v7).set (o+8) v8
def yg (w:World) (n1:Nat) (t1 x1:List UInt8) (n2:Nat) (t2 x2:List UInt8) (n3:Nat) (t3 x3:List UInt8) (b:Nat):World:=
 w.alloc (.cells #[.int .i64 (n1:Nat),str t1,str x1,.int .i64 (n2:Nat),str t2,str x2,.int .i64 (n3:Nat),str t3,str x3,.slice (some ⟨b,0,none⟩) 3 3] 158)
def Fe:List Value→Nat→List Value→List Value
 | A,_,[]=>A
 | A,o,v::vs=>Fe (A.set o v) (o+1) vs
theorem M8:∀ (vs A:List Value) (o:Nat),o+vs.length≤A.length→∀ j,(Fe A o vs)[j]?=if o≤j∧j<o+vs.length then vs[j-o]? else A[j]?
 | [],A,o,_,j=>by rw [if_neg (by simp only [List.length_nil];omega)];rfl
 | v::vs,A,o,h,j=>by
  simp only [List.length_cons] at h ⊢
  rw [Fe,M8 vs (A.set o v) (o+1) (by rw [List.length_set];omega) j]
  by_cases h1:o+1≤j∧j<o+1+vs.length
  · rw [if_pos h1,if_pos aj,show j-o=(j-(o+1))+1 by omega,List.getElem?_cons_succ]
  · rw [if_neg h1]
    by_cases h2:j=o
    · subst h2
      rw [if_pos aj,Nat.sub_self,List.getElem?_set_self aj];rfl
    · rw [if_neg aj,List.getElem?_set_ne aj]
theorem Zj (A:List Value) (o:Nat) (v0 v1 v2 v3 v4 v5 v6 v7 v8:Value):(yc A o v0 v1 v2 v3 v4 v5 v6 v7 v8).length=A.length:=by unfold yc;rw [List.length_set,List.length_set,List.length_set,List.length_set,List.length_set,List.length_set,List.length_set,List.length_set,List.length_set]
theorem Zk (A:List Value) (o:Nat) (v0 v1 v2 v3 v4 v5 v6 v7 v8:Value) (h:o+9≤A.length) (j:Nat) :
  (yc A o v0 v1 v2 v3 v4 v5 v6 v7 v8)[j]?=if o≤j∧j<o+9 then [v0,v1,v2,v3,v4,v5,v6,v7,v8][j-o]? else A[j]?:=
 M8 [v0,v1,v2,v3,v4,v5,v6,v7,v8] A o h j
def Bu (A:List Value) (S:List (TR×Nat)) (i:Nat):Prop:=∀ j (h:j<S.length),j<i→∀ c,c<9→A[j*9+c]?=(bA S[j].1).cells[c]?
theorem Zl {A:List Value} {S:List (TR×Nat)} {i:Nat} (h:Bu A S i) (hi:i<S.length) (hA:A.length=S.length*9) {n1 n2 n3:Nat} {t1 x1 t2 x2 t3 x3:List UInt8} {b:Nat} (hS:S[i]=(((n1,t1,x1),(n2,t2,x2),n3,t3,x3),b)) :
  Bu (yc A (i*9) (.int .i64 (n1:Nat)) (str t1) (str x1) (.int .i64 (n2:Nat)) (str t2) (str x2) (.int .i64 (n3:Nat)) (str t3) (str x3)) S (i+1):=by intro j hj hji c hc;rw [Zk _ _ _ _ _ _ _ _ _ _ _ aj];by_cases hjj:j=i;{subst hjj;rw [if_pos aj,hS,show j*9+c-j*9=c by omega];rfl};{rw [if_neg aj];exact h j hj aj c hc}
theorem Zm {W:World} {b N:Nat} {A:List Value} {S:List (TR×Nat)} {L:List TR} (hB:ak W b A 67) (h:Bu A S S.length) (hm:S.map (·.1)=L) (hN:S.length=N) (hm2:N≤maxLen):bX W (.slice (some ⟨b,0,none⟩) N N) (L.map bA):=by
 subst hm;subst hN;refine ⟨_,_,by rw [List.length_map,List.length_map],by rw [List.length_map,List.length_map];exact Nat.le_refl _,hm2,(fun h=>by cases h),.inr ⟨b,0,rfl,fun i hi c hc=>?_⟩⟩;have hi':i<S.length:=by simpa using hi
 have h1:=h i hi' hi' c hc;have h2:c<(bA S[i].1).cells.length:=hc;rw [List.getElem?_eq_getElem h2] at h1;rw [Nat.zero_add,hB.cell h1];simp only [List.getElem_map];rw [List.getElem?_eq_getElem h2]
open Go.ChangeShapes Go.WideShapes Go.ChangeAt Go.RowKit
theorem Zn (L:List TR) (hl:∀ t∈L,Tm.bG t=true) (hn:L.length≤1000000) (w:World) (v:Value) (hv:bX w v (L.map bA)) :
  Calls prog 49 #[v] w fun e w'=>∃ v',e=.returned v'∧bX w' v' ((Tm.eD L).map bA)∧Below w.heap.size w w':=by
 have hmm:=@run_makeMap prog;obtain ⟨a,cap,rfl,hc1,hc2,hc3⟩:=hv.open;have HV:=hid hv;have HL:=hid hl;rw [List.length_map] at HV ⊢;obtain ⟨n,hn0⟩:=aA L.length;rw [←hn0] at HV hn ⊢;have HN:=hid hn0;have HB0:=hid (show Below w.heap.size w (w.alloc (.map #[] 0)) from (Below.refl _ _).alloc ay _);have sM:=hid (show (w.alloc (.map #[] 0)).ownsMap prog 67 Go.unitElem w.heap.size 0 (fZ []) from World.ownsMap_made _ _ _ _);have SH:=hid (fun (k1 k2 k3:Nat) (t1 x1 t2 x2 t3 x3:List UInt8) (W:World) h1 h2 h3 h4 h5 h6=>JI (k1:Int) t1 x1 (k2:Int) t2 x2 (k3:Int) t3 x3 W h1 h2 h3 h4 h5 h6);clear hv hl hc1 hc2 hc3 hn0;go_enter func49,ntmps49;go_wp2;go_loopg [3,15] n (fun gk s3 s15 wr=>∃ (i:Nat) (D:List (TR×Nat)),s15=.int .i64 i∧i≤n∧n-i≤gk∧Hid (Below w.heap.size w wr)∧Hid (wr.ownsMap prog 67 Go.unitElem w.heap.size i (fZ (Tm.jS [] (L.take i))))∧Hid (wr.ownsRow (w.heap.size+1) 158 10 s3 D.length (mX D))∧Hid (jw wr s3 D)∧Hid (D.map (·.1)=Tm.jS [] (L.take i)))
 case atStart=>exact ⟨0,[],rfl,Nat.zero_le _,Nat.le_refl _,HB0,sM,World.ownsRow_nil _ _ _ _,hid (fun p hp=>by cases hp),hid rfl⟩
 case round=>
  obtain ⟨i,D,rfl,hin,hg,HB,HM,HR,HT,HD⟩:=hrel;by_cases hlt:i<n
  · have hltz:(i:Int)<(n:Int):=aj;have cZ:i<L.length:=(by rw [←HN.out];exact hlt);have HT1:=hid (HL.out L[i] (List.getElem_mem cZ));have HK:=hid (show keyOf prog 67 (o_ L[i])=some (jP L[i]) from uj (xY HT1.out));have jJ:=hid (HV.out.keep HB.out);obtain ⟨bl,off,rfl,hrow⟩:=jJ.out.get (i:=i) (by rw [List.length_map];exact cZ);have HRW:=hid (hrow i (by rw [List.length_map];exact cZ));rw [List.getElem_map] at HRW;have HST:=hid (Za cZ);obtain ⟨t,ht⟩:=aA (L[i]);rw [←ht] at HT1 HK HRW HST;have M9:=xY HT1.out;have gJ:=hid M9;obtain ⟨⟨n1,t1,x1⟩,⟨n2,t2,x2⟩,n3,t3,x3⟩:=t;clear ht hrow;have c0:=HRW.out 0 aj;have c1:=HRW.out 1 aj;have c2:=HRW.out 2 aj;have c3:=HRW.out 3 aj;have c4:=HRW.out 4 aj;have c5:=HRW.out 5 aj;have c6:=HRW.out 6 aj;have c7:=HRW.out 7 aj;have c8:=HRW.out 8 aj;simp only [bA,eT.cells,List.getElem?_cons_zero,List.getElem?_cons_succ,Nat.add_zero] at c0 c1 c2 c3 c4 c5 c6 c7 c8;obtain ⟨acc,hacc⟩:=aA (Tm.jS [] (L.take i));rw [←hacc] at HM HD HST;have Fg:=hid (show ∀ s∈acc,pq s by
     intro s hs;rw [hacc,Tm.Dz] at hs;rcases hs with hs | hs;{cases hs}
     · exact xY (HL.out s (List.mem_of_mem_take hs)))
    have Zo:=hid hacc;clear hacc M9;obtain ⟨b,hb⟩:=aA (Maps.has (fZ acc) (jP ((n1,t1,x1),(n2,t2,x2),n3,t3,x3)));have dK:=hid hb;clear hb;have aP:=hid (show Below w.heap.size w (aU wr n1 t1 x1 n2 t2 x2 n3 t3 x3) from HB.out.alloc HB.out.size _);have iJ:=hid (show (aU wr n1 t1 x1 n2 t2 x2 n3 t3 x3).ownsMap prog 67 Go.unitElem w.heap.size i (fZ acc) from HM.out.alloc _);have HR4:=hid (show (aU wr n1 t1 x1 n2 t2 x2 n3 t3 x3).ownsRow (w.heap.size+1) 158 10 u3 D.length (mX D) from HR.out.alloc _);have aT:=hid (show jw (aU wr n1 t1 x1 n2 t2 x2 n3 t3 x3) u3 D from HT.out.keep ((Below.refl _ _).alloc ay _));have aW:=hid (fT wr n1 t1 x1 n2 t2 x2 n3 t3 x3);cases b
    · go_upto_region 8 with (first
       | (show wpList _ _ _ _ _ (aU wr n1 t1 x1 n2 t2 x2 n3 t3 x3);obtain ⟨w4,hw4⟩:=aA (aU wr n1 t1 x1 n2 t2 x2 n3 t3 x3);rw [←hw4] at aP iJ HR4 aT aW ⊢;clear hw4;have c0:=aW.out.cell (i:=0) rfl;have c1:=aW.out.cell (i:=1) rfl;have c2:=aW.out.cell (i:=2) rfl;have c3:=aW.out.cell (i:=3) rfl;have c4:=aW.out.cell (i:=4) rfl;have c5:=aW.out.cell (i:=5) rfl;have c6:=aW.out.cell (i:=6) rfl;have c7:=aW.out.cell (i:=7) rfl;have c8:=aW.out.cell (i:=8) rfl)
       | (at_lookup;refine wpList_lookup_own_unit _ rfl _ _ 137 rfl 67 142 o9 underlying137 (xX _) w.heap.size i (fZ acc) rfl iJ.out _ _ rfl HK.out ?_;rw [←dK.out]))
      have aR:=hid (aP.out.alloc aP.out.size (.cells #[] 142));have jy:=hid (iJ.out.alloc (.cells #[] 142));have bK:=hid (HR4.out.alloc (.cells #[] 142));have bn:=hid (aT.out.keep ((Below.refl _ _).alloc ay (.cells #[] 142)));have bf:=hid (aW.out.alloc (.cells #[] 142));generalize w4.alloc (.cells #[] 142)=w5 at aR jy bK bn bf ⊢;have c0:=bf.out.cell (i:=0) rfl;have c1:=bf.out.cell (i:=1) rfl;have c2:=bf.out.cell (i:=2) rfl;have c3:=bf.out.cell (i:=3) rfl;have c4:=bf.out.cell (i:=4) rfl;have c5:=bf.out.cell (i:=5) rfl;have c6:=bf.out.cell (i:=6) rfl;have c7:=bf.out.cell (i:=7) rfl;have c8:=bf.out.cell (i:=8) rfl;(go_upto_region 9 with (at_mapUpdate;refine wpList_mapUpdate_own _ rfl _ _ _ 137 rfl 67 142 o9 underlying137 _ w.heap.size i (fZ acc) rfl jy.out (by unfold maxLen;omega) _ _ _ rfl rfl HK.out (.agg []) [] Go.unitElem_mk ?_;intro w6 qR lI));have hzm:=HM.out.lt;have aO:=hid (aR.out.grown lI aR.out.size (fun k hk=>by cases hk;omega));have sK:=hid (show w6.ownsMap prog 67 Go.unitElem w.heap.size (i+1) (fZ (acc++[((n1,t1,x1),(n2,t2,x2),n3,t3,x3)])) by rw [JU];exact qR);have bN:=hid (bK.out.kept lI (.inr (fun e=>by have:=bK.out.lt _ e;omega)));have bC:=hid (bn.out.map lI (fun p hp=>MS jy.out (bn.out p hp).1));have aJ:=hid (bf.out.map lI aj);clear qR lI c0 c1 c2 c3 c4 c5 c6 c7 c8;have Zp:=hid (fun W=>MW ((n1,t1,x1),(n2,t2,x2),n3,t3,x3) HT1.out W);have l8:∀ k,u3.ownBlock=some k→w.heap.size+1≤k:=fun k hk=>(bN.out.lt k hk).1;have Zq:=hid l8;clear l8;have gP:=aO.out.size;have hDl:D.length≤1000000:=(by have:=congrArg List.length HD.out;rw [List.length_map] at this;have h2:=MX L i;rw [←Zo.out] at h2;omega);obtain ⟨iS,hi0,⟨zS,bY,Zr⟩,bZ,b_⟩:=YZ;have c0:=aJ.out.cell (i:=0) rfl;have c1:=aJ.out.cell (i:=1) rfl;have c2:=aJ.out.cell (i:=2) rfl;have c3:=aJ.out.cell (i:=3) rfl;have c4:=aJ.out.cell (i:=4) rfl;have c5:=aJ.out.cell (i:=5) rfl;have c6:=aJ.out.cell (i:=6) rfl;have c7:=aJ.out.cell (i:=7) rfl;have c8:=aJ.out.cell (i:=8) rfl;go_region_law (first
       | (go_simp;go_at_call 94;refine (Zp.out _).mono ?_;rintro e w7 ⟨b7,rfl,d_,M_,hlow⟩;have aZ:=hid M_;have bF:=hid (aG (Below.refl w6.heap.size w6).drew hlow);have k0:=aB bF.out c0;have k1:=aB bF.out c1;have k2:=aB bF.out c2;have k3:=aB bF.out c3;have k4:=aB bF.out c4;have k5:=aB bF.out c5;have k6:=aB bF.out c6;have k7:=aB bF.out c7;have k8:=aB bF.out c8;clear M_ hlow)
       | (refine oo (by rfl) (.tmp 29) (.tmp 34) 155 (by rfl) (w.heap.size+1) 158 iS zS 10 144 underlying155 hi0 bY bZ b_ Zr aH u3 D.length (mX D) (by rfl) ((Bt bN.out bF.out).alloc _) ⟨w7.heap.size,0,none⟩ 1 1 (gV (((n1,t1,x1),(n2,t2,x2),n3,t3,x3),b7)) rfl (by rfl) ?c2 ?o2 ?b4 ?b5 ?b6 ?_
          case c2=>exact fun j u hu=>Y9 w7 (((n1,t1,x1),(n2,t2,x2),n3,t3,x3),b7) _ rfl j u hu
          case o2=>exact MV _
          case b4=>(unfold maxLen;omega)
          case b5=>omega
          case b6=>(have:=bF.out.size;simp;omega)
          intro v8 w8 g1 g2 g3
          have G1:=hid g1
          have G2:=hid g2
          have G3:=hid g3
          clear g1 g2 g3)
       | fail)
      all_goals
       have FIN:=hid (Y_ aO.out sK.out bC.out bF.out d_ aZ.out Zq.out (fun k hk=>(bN.out.lt k hk).2) G1.out G2.out G3.out)
       go_wp2
       go_roundg (n-(i+1))
       case measure=>omega
       case rel=>
        refine ⟨i+1,D++[(((n1,t1,x1),(n2,t2,x2),n3,t3,x3),b7)],aN,aj,aj,FIN.out.1,?_,FIN.out.2.2.1,FIN.out.2.2.2,?_⟩
        · rw [HST.out,MU (by rw [←zT Fg.out gJ.out];exact dK.out.symm)];exact FIN.out.2.1
        · show _=_
          rw [HST.out,MU (by rw [←zT Fg.out gJ.out];exact dK.out.symm),List.map_append,HD.out];rfl
    · go_upto_region 10 with (first
       | (show wpList _ _ _ _ _ (aU wr n1 t1 x1 n2 t2 x2 n3 t3 x3);obtain ⟨w4,hw4⟩:=aA (aU wr n1 t1 x1 n2 t2 x2 n3 t3 x3);rw [←hw4] at aP iJ HR4 aT aW ⊢;clear hw4;have c0:=aW.out.cell (i:=0) rfl;have c1:=aW.out.cell (i:=1) rfl;have c2:=aW.out.cell (i:=2) rfl;have c3:=aW.out.cell (i:=3) rfl;have c4:=aW.out.cell (i:=4) rfl;have c5:=aW.out.cell (i:=5) rfl;have c6:=aW.out.cell (i:=6) rfl;have c7:=aW.out.cell (i:=7) rfl;have c8:=aW.out.cell (i:=8) rfl)
       | (at_lookup;refine wpList_lookup_own_unit _ rfl _ _ 137 rfl 67 142 o9 underlying137 (xX _) w.heap.size i (fZ acc) rfl iJ.out _ _ rfl HK.out ?_;rw [←dK.out]))
      have aR:=hid (aP.out.alloc aP.out.size (.cells #[] 142));have jy:=hid (E9 (iJ.out.alloc (.cells #[] 142)));have bK:=hid (HR4.out.alloc (.cells #[] 142));have bn:=hid (aT.out.keep ((Below.refl _ _).alloc ay (.cells #[] 142)));generalize w4.alloc (.cells #[] 142)=w5 at aR jy bK bn ⊢;go_wp2;go_roundg (n-(i+1))
      (case measure=>omega);case rel=>have e:=Y0 (show decide (((n1,t1,x1),(n2,t2,x2),n3,t3,x3)∈acc)=true by rw [←zT Fg.out gJ.out];exact dK.out.symm);refine ⟨i+1,D,aN,aj,aj,aR.out,?_,bK.out,bn.out,?_⟩;{rw [HST.out,e];exact jy.out};{show _=_;rw [HST.out,e];exact HD.out}
  · obtain rfl:i=n:=aj;have hltz:¬ (i:Int)<(i:Int):=aj;have e0:L.take i=L:=List.take_of_length_le (by rw [←HN.out];exact Nat.le_refl _);rw [e0] at HD;clear e0 HM;have hDl:D.length≤1000000:=(by have:=congrArg List.length HD.out;rw [List.length_map] at this;have h2:=MX L L.length;rw [List.take_length] at h2;have:=HN.out;omega);have SO:=hid (Zh L HL.out D HD.out (w.heap.size+1) wr u3 HR.out HT.out hDl);(go_wp2_with fail);refine SO.out.mono ?_;rintro e w5 ⟨rfl,S,hsa,Na,xZ,hbel⟩;have aR:=hid (hbel w.heap.size w HB.out aj HB.out.size);have Zt:=hid Na;obtain ⟨a5,cap5,hu,hsh⟩:=hsa;subst hu;obtain ⟨N,Bv⟩:=aA S.length;have Fh:=hid hsh;have Bw:=hid Bv;rw [←xZ,←Bv] at hDl;rw [←Bv];obtain ⟨i0,hi0,hz0,hz1,hz2⟩:=x9;have mk1:∀ W:World,(Instr.makeSlice 39 (.int .i64 (N:Int)) (.int .i64 (N:Int))).run prog W=_:=fun W=>run_make W 39 67 i0 _ underlying39 hi0 hz0 .i64 .i64 N N aj aj (by rw [hz2];omega) aj;rw [hz1] at mk1;clear hsh Bv xZ Na hbel HR HT HD hi0 hz0 hz1 hz2 HB0 sM;go_wp2;obtain ⟨w6,bV⟩:=aA (w5.alloc (.cells (madeCells uR.toArray (N*9)) 67));rw [←bV];have iK:=hid (show w6.heap.size=w5.heap.size+1 by rw [bV];simp);have Zu:=hid (show Below w5.heap.size w5 w6 by rw [bV];exact (Below.refl _ _).alloc ay _);have Nb:=hid (show ak w6 w5.heap.size (madeCells uR.toArray (N*9)).toList 67 by rw [bV];exact ak.new' rfl rfl);have Fj:=hid (show (madeCells uR.toArray (N*9)).toList.length=N*9 by simp [madeCells]);generalize (madeCells uR.toArray (N*9)).toList=A0 at *;obtain ⟨b5,hb5⟩:=aA w5.heap.size;rw [←hb5] at Nb;rw [show w5.heap.size=b5 from hb5.symm];have Zv:=hid hb5;clear bV mk1 hb5;go_loopg [44] N (fun gk s44 wr=>∃ (i:Nat) (A:List Value),s44=.int .i64 i∧i≤N∧N-i≤gk∧Hid (Below w5.heap.size w5 wr)∧Hid (ak wr b5 A 67)∧Hid (A.length=N*9)∧Hid (Bu A S i))
    (case atStart=>exact ⟨0,A0,rfl,Nat.zero_le _,Nat.le_refl _,Zu.out,Nb.out,Fj.out,fun j _ h=>absurd h (Nat.not_lt_zero _)⟩);case round=>
     obtain ⟨j,A,rfl,hjN,hgj,gK,pY,uI,yh⟩:=hrel;by_cases hj:j<N
     · have hjz:(j:Int)<(N:Int):=aj;have Nc:j<S.length:=(by rw [←Bw.out];exact hj);rcases Fh.out with h0 | ⟨g,rfl,hrow⟩;{omega}
       · have HRW:=hid (hrow j Nc);clear hrow;obtain ⟨p,hp⟩:=aA (S[j]);rw [←hp] at HRW;have iV:=hid hp;clear hp;obtain ⟨⟨⟨n1,t1,x1⟩,⟨n2,t2,x2⟩,n3,t3,x3⟩,bb⟩:=p;have k0:=aB gK.out (v:=.int .i64 (n1:Nat)) (HRW.out 0 aj);have k1:=aB gK.out (v:=str t1) (HRW.out 1 aj);have k2:=aB gK.out (v:=str x1) (HRW.out 2 aj);have k3:=aB gK.out (v:=.int .i64 (n2:Nat)) (HRW.out 3 aj);have k4:=aB gK.out (v:=str t2) (HRW.out 4 aj);have k5:=aB gK.out (v:=str x2) (HRW.out 5 aj);have k6:=aB gK.out (v:=.int .i64 (n3:Nat)) (HRW.out 6 aj);have k7:=aB gK.out (v:=str t3) (HRW.out 7 aj);have k8:=aB gK.out (v:=str x3) (HRW.out 8 aj);have k9:=aB gK.out (v:=.slice (some ⟨bb,0,none⟩) 3 3) (HRW.out 9 aj);have iE:=gK.out.size;have bF:=hid (show Below w5.heap.size w5 (yg wr n1 t1 x1 n2 t2 x2 n3 t3 x3 bb) from gK.out.alloc iE _);have iL:=hid (show ak (yg wr n1 t1 x1 n2 t2 x2 n3 t3 x3 bb) b5 A 67 from pY.out.alloc _);have aZ:=hid (show ak (yg wr n1 t1 x1 n2 t2 x2 n3 t3 x3 bb) wr.heap.size [.int .i64 (n1:Nat),str t1,str x1,.int .i64 (n2:Nat),str t2,str x2,.int .i64 (n3:Nat),str t3,str x3,.slice (some ⟨bb,0,none⟩) 3 3] 158 from ak.new' rfl rfl);have TO:=hid (Zl yh.out Nc (by rw [uI.out,Bw.out]) iV.out.symm);simp only [Nat.add_zero] at k0;(go_upto_region 16 with (show wpList _ _ _ _ _ (yg wr n1 t1 x1 n2 t2 x2 n3 t3 x3 bb);obtain ⟨w7,hw7⟩:=aA (yg wr n1 t1 x1 n2 t2 x2 n3 t3 x3 bb);rw [←hw7] at bF iL aZ ⊢;clear hw7));have Nf:=uI.out;have yj:=hid Nf;have Ng:j*9+9≤A.length:=aj;clear Nf;have m0:=aZ.out.cell (i:=0) rfl;have d0:=iL.out.cell (i:=j*9) (v:=A[j*9]) (List.getElem?_eq_getElem aj);have f0:=iL.out.free (j*9);generalize A[j*9]=z0 at d0;have m1:=aZ.out.cell (i:=1) rfl;have d1:=iL.out.cell (i:=j*9+1) (v:=A[j*9+1]) (List.getElem?_eq_getElem aj);have f1:=iL.out.free (j*9+1);generalize A[j*9+1]=z1 at d1;have m2:=aZ.out.cell (i:=2) rfl;have d2:=iL.out.cell (i:=j*9+2) (v:=A[j*9+2]) (List.getElem?_eq_getElem aj);have f2:=iL.out.free (j*9+2);generalize A[j*9+2]=z2 at d2;have m3:=aZ.out.cell (i:=3) rfl;have d3:=iL.out.cell (i:=j*9+3) (v:=A[j*9+3]) (List.getElem?_eq_getElem aj);have f3:=iL.out.free (j*9+3);generalize A[j*9+3]=z3 at d3;have m4:=aZ.out.cell (i:=4) rfl;have d4:=iL.out.cell (i:=j*9+4) (v:=A[j*9+4]) (List.getElem?_eq_getElem aj);have f4:=iL.out.free (j*9+4);generalize A[j*9+4]=z4 at d4;have m5:=aZ.out.cell (i:=5) rfl;have d5:=iL.out.cell (i:=j*9+5) (v:=A[j*9+5]) (List.getElem?_eq_getElem aj);have f5:=iL.out.free (j*9+5);generalize A[j*9+5]=z5 at d5;have m6:=aZ.out.cell (i:=6) rfl;have d6:=iL.out.cell (i:=j*9+6) (v:=A[j*9+6]) (List.getElem?_eq_getElem aj);have f6:=iL.out.free (j*9+6);generalize A[j*9+6]=z6 at d6;have m7:=aZ.out.cell (i:=7) rfl;have d7:=iL.out.cell (i:=j*9+7) (v:=A[j*9+7]) (List.getElem?_eq_getElem aj);have f7:=iL.out.free (j*9+7);generalize A[j*9+7]=z7 at d7;have m8:=aZ.out.cell (i:=8) rfl;have d8:=iL.out.cell (i:=j*9+8) (v:=A[j*9+8]) (List.getElem?_eq_getElem aj);have f8:=iL.out.free (j*9+8);generalize A[j*9+8]=z8 at d8;clear Ng;have gu:=hid (show w5.heap.size≤b5 by rw [Zv.out];exact Nat.le_refl _);(go_wp2_with fail);obtain ⟨w8,hw8⟩:=aA ((((((((((w7.setCell ⟨b5,j*9,none⟩ (.int .i64 (n1:Nat))).setCell ⟨b5,j*9+1,none⟩ (str t1)).setCell ⟨b5,j*9+2,none⟩ (str x1)).setCell ⟨b5,j*9+3,none⟩ (.int .i64 (n2:Nat))).setCell ⟨b5,j*9+4,none⟩ (str t2)).setCell ⟨b5,j*9+5,none⟩ (str x2)).setCell ⟨b5,j*9+6,none⟩ (.int .i64 (n3:Nat))).setCell ⟨b5,j*9+7,none⟩ (str t3)).setCell ⟨b5,j*9+8,none⟩ (str x3)));have aI:=hid (show Below w5.heap.size w5 w8 by rw [hw8];exact (((((((((bF.out.setCell gu.out _).setCell gu.out _).setCell gu.out _).setCell gu.out _).setCell gu.out _).setCell gu.out _).setCell gu.out _).setCell gu.out _).setCell gu.out _));have Zw:=hid (show ak w8 b5 (yc A (j*9) (.int .i64 (n1:Nat)) (str t1) (str x1) (.int .i64 (n2:Nat)) (str t2) (str x2) (.int .i64 (n3:Nat)) (str t3) (str x3)) 67 by rw [hw8];exact (((((((((iL.out.set (j*9) (.int .i64 (n1:Nat))).set (j*9+1) (str t1)).set (j*9+2) (str x1)).set (j*9+3) (.int .i64 (n2:Nat))).set (j*9+4) (str t2)).set (j*9+5) (str x2)).set (j*9+6) (.int .i64 (n3:Nat))).set (j*9+7) (str t3)).set (j*9+8) (str x3)));rw [←hw8];clear hw8;go_wp2;go_roundg (N-(j+1))
         (case measure=>omega);case rel=>exact ⟨j+1,_,aN,aj,aj,aI.out,Zw.out,by show _=_;rw [Zj];exact yj.out,TO.out⟩
     {have hjz:¬ (j:Int)<(N:Int):=aj;have Zx:j=N:=aj;subst Zx;go_wp2;go_ret;refine ⟨_,rfl,Zm pY.out (by rw [←Bw.out];exact yh.out) Zt.out Bw.out.symm (by unfold maxLen;omega),?_⟩;exact aR.out.trans (gK.out.mono aR.out.size)}
end Go.Proofs.YtjaebndajhppgaaGreatDoor
