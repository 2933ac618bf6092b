/-GSort-/
import Derived.Test.YtjaebndajhppgaaGreatDoorMnGSt
import Derived.Test.YtjaebndajhppgaaGreatDoorMnGTri
set_option linter.unusedVariables false
set_option linter.unusedSimpArgs false
set_option maxRecDepth 100000
set_option maxHeartbeats 8000000
namespace Go.Proofs.YtjaebndajhppgaaGreatDoor
open Go.ChangeShapes Go.WideShapes Go.ChangeAt Go.RowKit Go.Sort Go.Lib
section
variable {α:Type} [Inhabited α] {enc:α→List Value} {cf:α→α→Int} {w:World} {blk off:Nat}
theorem Nl (enc:α→List Value) (k:Nat) (w:World) (blk off m n:Nat) (dk d':Array α) (os os':Array Obj) (hb:blk<w.heap.size) (h:d'.size=dk.size) :
  sortWorldK enc k (sortWorldK enc k w blk off m dk os) blk off n d' os'=sortWorldK enc k w blk off (m+n) d' (os++os'):=by unfold sortWorldK;exact grow_step_growK enc k w os os' m n blk off dk d' hb h
theorem ZV (hk:∀ x,(enc x).length=10) (h1:∀ x,∀ v∈enc x,v.oneCell'=true) (hS:SWO (ltOf cf)) (d:Array α) (g:Nat) (cb:Array Value) (eg:∀ args w,(callFunc g args).run Tryz.prog w=.ok (.enter g args) w) (hcmp:CmpLays Tryz.prog g cb enc 10 cf blk off d.size w) (hH:HoldsK enc 10 w blk off d) (hblk:blk<w.heap.size) (hsz:d.size<4611686018427387904)
  (cap a b m:Nat) (dk:Array α) (os:Array Obj) (hs:dk.size=d.size) (hab:a≤b) (hb:b≤d.size) :
  Calls Tryz.prog 187 #[.slice (some ⟨blk,off,none⟩) d.size cap,.int .i64 a,.int .i64 b,.func (.func g) #[] cb] (sortWorldK enc 10 w blk off m dk os) fun e w'=>
   e=.returned (.tuple #[])∧∃ m' os',w'=sortWorldK enc 10 w blk off m' (Sort.insertionSort (ltOf cf) dk a b) os':=by have hz:=size_sortWorldK_c enc 10 w blk off m dk os;have h:=AnyQ.insertionSortCmpFunc Tryz.insShown 10 Tryz.isAgg158 Tryz.sizeOf158 enc hk h1 cf g cb blk off cap a b dk (sortWorldK enc 10 w blk off m dk os) eg (fun m2 os2 d2 hd2 x y=>by rw [Nl enc 10 w blk off m m2 dk d2 os os2 hblk hd2];exact hcmp _ _ d2 (hd2.trans hs) x y) (holdsK_sortWorldK_c enc 10 w blk off d dk m os hH hblk hs) (by omega) hab (by omega) (by omega);change Calls Tryz.prog 187 _ _ _ at h;rw [hs] at h;refine h.mono ?_;rintro e w' ⟨rfl,n,os',rfl⟩;refine ⟨rfl,m+n,os++os',?_⟩;rw [Nl enc 10 w blk off m n dk _ os os' hblk ?_];exact (insertionSort_holds hS dk a b hab (by omega)).1.1
theorem ZW (hk:∀ x,(enc x).length=10) (h1:∀ x,∀ v∈enc x,v.oneCell'=true) (hS:SWO (ltOf cf)) (d:Array α) (g:Nat) (cb:Array Value) (eg:∀ args w,(callFunc g args).run Tryz.prog w=.ok (.enter g args) w) (hcmp:CmpLays Tryz.prog g cb enc 10 cf blk off d.size w) (hH:HoldsK enc 10 w blk off d) (hblk:blk<w.heap.size) (hsz:d.size≤1000000000) (cap:Nat) :
  Calls Tryz.prog 144 #[.slice (some ⟨blk,off,none⟩) d.size cap,.int .i64 d.size,.func (.func g) #[] cb] w fun e w'=>
   e=.returned (.tuple #[])∧∃ m' d',(∃ os',w'=sortWorldK enc 10 w blk off m' d' os')∧d'.size=d.size∧PermIn 0 d.size d d'∧SortedIn (ltOf cf) 0 d.size d':=by
 have IN:=hid (fun a b m dk os hs hab hb=>ZV hk h1 hS d g cb eg hcmp hH hblk (by omega) cap a b m dk os hs hab hb);have SY:=hid (fun a mid b m dk os hs h2 h3 h4 h5 h6=>Nk ZI hk h1 hS d g cb eg hcmp hH hblk (by omega) (b-a) a mid b m cap dk os (Nat.le_refl _) hs h2 h3 h4 h5 h6);have SW:=hid hS;have HW0:=hid (show w=sortWorldK enc 10 w blk off 0 d #[] by unfold sortWorldK;rw [grow_empty];exact (putRowK_self enc 10 w blk off d hH).symm);clear hcmp hH hk h1 hS;obtain ⟨n,hn⟩:∃ n,n=d.size:=⟨_,rfl⟩;rw [←hn] at IN SY hsz ⊢;have HN:=hid hn;clear hn;go_enter Tryz.func144,Tryz.ntmps144;go_wp2;go_loopg [7,8] (n+1) (fun gg v7 v8 wr=>∃ (q A m':Nat) (dk:Array α) (os':Array Obj),v7=.int .i64 A∧v8=.int .i64 ((A+20:Nat):Int)∧A≤n∧n+1-A≤gg∧Hid (A=q*20)∧Hid (wr=sortWorldK enc 10 w blk off m' dk os')∧Hid (dk.size=n)∧Hid (PermIn 0 n d dk)∧Hid (St.aj (ltOf cf) 20 A dk))
 case atStart=>exact ⟨0,0,0,d,#[],by go_num,by go_num,Nat.zero_le _,Nat.le_refl _,by show _=_;rfl,HW0.out,HN.out.symm,permIn_refl _ _ _,fun q i j h1 h2 h3=>by omega⟩
 case round=>
  obtain ⟨q,A,m',dk,os',rfl,rfl,hAn,hg,HA,HW,HZ,HP,HB⟩:=hrel;by_cases hlt:A+20≤n
  · have hltz:(A:Int)+20≤(n:Int):=(by omega);have w1:IntKind.i64.wrap ((A:Int)+20+20)=(A:Int)+20+20:=(by rw [IntKind.wrap_i64];omega);have xC:=hid (IN.out A (A+20) m' dk os' (HZ.out) (by omega) hlt);rw [←HW.out] at xC;(go_wp2_with fail);refine xC.out.mono ?_;rintro e w3 ⟨rfl,m3,os3,hw3⟩;have HW3:=hid hw3;clear hw3;have HI:=hid (insertionSort_holds SW.out dk A (A+20) (by omega) (by have:=HZ.out;omega));go_wp2;go_roundg (n-A)
    (case measure=>omega);case rel=>refine ⟨q+1,A+20,m3,_,os3,by go_num,by go_num,hlt,by omega,by show _=_;have:=HA.out;omega,HW3.out,HI.out.1.1.trans HZ.out,permIn_trans _ _ _ _ _ HP.out (permIn_mono _ _ A (A+20) 0 n (Nat.zero_le _) hlt (by have:=HZ.out;omega) HI.out.1),?_⟩;have hA:=HA.out;have hB:=HB.out;have hI:=HI.out;show St.aj _ _ _ _;rw [hA] at hB hI ⊢;exact St.xk hB (Nat.le_refl _) hI.1 hI.2
  · have hltz:¬ (A:Int)+20≤(n:Int):=(by omega);have xC:=hid (IN.out A n m' dk os' (HZ.out) hAn (Nat.le_refl _));rw [←HW.out] at xC;(go_wp2_with fail);refine xC.out.mono ?_;rintro e w3 ⟨rfl,m3,os3,hw3⟩;have HW3:=hid hw3;clear hw3;have HI:=hid (insertionSort_holds SW.out dk A n hAn (by have:=HZ.out;omega));have kg:=hid (permIn_trans _ _ _ _ _ HP.out (permIn_mono _ _ A n 0 n (Nat.zero_le _) (Nat.le_refl _) (by have:=HZ.out;omega) HI.out.1));have HZ3:=hid (HI.out.1.1.trans HZ.out);have HB3:=hid (show St.aj (ltOf cf) 20 n (insertionSort (ltOf cf) dk A n) by have hA:=HA.out;have hB:=HB.out;have hI:=HI.out;rw [hA] at hB hI ⊢;exact St.xk hB (by omega) hI.1 hI.2);clear HI HB HP HZ HW HA;obtain ⟨d3,hd3⟩:∃ d3,d3=insertionSort (ltOf cf) dk A n:=⟨_,rfl⟩;rw [←hd3] at HW3 kg HZ3 HB3;clear hd3;go_wp2;go_loopg [6] (n-20+1) (fun gg v6 wr=>∃ (s m':Nat) (dk:Array α) (os':Array Obj),v6=.int .i64 s∧20≤s∧n-s+1≤gg∧s≤2*n+20∧Hid (wr=sortWorldK enc 10 w blk off m' dk os')∧Hid (dk.size=n)∧Hid (PermIn 0 n d dk)∧Hid (St.aj (ltOf cf) s n dk))
    (case atStart=>exact ⟨20,m3,d3,os3,by go_num,Nat.le_refl _,Nat.le_refl _,by omega,HW3.out,HZ3.out,kg.out,HB3.out⟩);case round=>
     obtain ⟨s,m4,d4,om,rfl,agk,hg4,hs2,oo,xA,iX,aI⟩:=hrel;by_cases hsn:s<n
     · have ZX:(s:Int)<(n:Int):=(by omega);obtain ⟨t,ht⟩:∃ t,t=2*s:=⟨_,rfl⟩;have et:2*(s:Int)=(t:Int):=(by omega);have et2:(s:Int)*2=(t:Int):=(by omega);have wt:IntKind.i64.wrap (t:Int)=(t:Int):=(by rw [IntKind.wrap_i64];omega);have HT:=hid ht;have ht1:t≤2*n:=(by omega);clear ht;go_wp2;go_loopg [7,8] (n+1) (fun gg v7 v8 wr=>∃ (q A B m':Nat) (dk:Array α) (os':Array Obj),v7=.int .i64 A∧v8=.int .i64 B∧A≤n∧n+1-A≤gg∧Hid (A=q*(2*s)∧B=A+t)∧Hid (wr=sortWorldK enc 10 w blk off m' dk os')∧Hid (dk.size=n)∧Hid (PermIn 0 n d dk)∧Hid (St.Half (ltOf cf) s q n dk))
       (case atStart=>exact ⟨0,0,t,m4,d4,om,by go_num,by go_num,Nat.zero_le _,Nat.le_refl _,by show _∧_;exact ⟨by omega,by omega⟩,oo.out,xA.out,iX.out,St.half_start aI.out⟩);case round=>
        obtain ⟨q,A,B,m5,d5,xB,rfl,rfl,agl,hg5,ko,Fj,xD,rD,aH⟩:=hrel;obtain ⟨M,hM⟩:∃ M,M=A+s:=⟨_,rfl⟩;have eM:(A:Int)+(s:Int)=(M:Int):=(by omega);have wM:IntKind.i64.wrap (M:Int)=(M:Int):=(by rw [IntKind.wrap_i64];omega);have HM:=hid hM;clear hM;by_cases Fp:B≤n
        · have ZY:(B:Int)≤(n:Int):=(by omega);obtain ⟨B2,hB2⟩:∃ B2,B2=B+t:=⟨_,rfl⟩;have eB2:(B:Int)+(t:Int)=(B2:Int):=(by omega);have wB2:IntKind.i64.wrap (B2:Int)=(B2:Int):=(by rw [IntKind.wrap_i64];omega);have HB2:=hid hB2;clear hB2;have xE:=hid (St.ZC aH.out (by have:=ko.out;have:=HT.out;omega));have xG:=hid (SY.out A M B m5 d5 xB xD.out (by have:=HM.out;omega) (by have:=HM.out;have:=ko.out;have:=HT.out;omega) Fp
           (by have h:=xE.out.1;rw [HM.out,ko.out.1];exact h) (by have h:=xE.out.2;rw [HM.out,ko.out.2,ko.out.1,HT.out];exact h))
          rw [←Fj.out] at xG;(go_wp2_with fail);refine xG.out.mono ?_;rintro e w6 ⟨rfl,m6,d6,⟨Fq,dh⟩,iL,pX,hs6⟩;have H6:=hid (And.intro dh (And.intro iL (And.intro pX hs6)));clear dh iL pX hs6;go_wp2;go_roundg (n-A)
          (case measure=>omega);case rel=>have xH:=ko.out;have hT:=HT.out;have h6:=H6.out;refine ⟨q+1,B,B2,m6,d6,Fq,rfl,rfl,Fp,by omega,by show _∧_;refine ⟨?_,by have:=HB2.out;omega⟩;rw [Nat.add_mul];omega,h6.1,h6.2.1,permIn_trans _ _ _ _ _ rD.out (permIn_mono _ _ A B 0 n (Nat.zero_le _) Fp (by have:=xD.out;omega) h6.2.2.1),?_⟩;have hp:=h6.2.2.1;have hs:=h6.2.2.2;rw [xH.2,xH.1,hT] at hp hs;exact St.ZE aH.out hp hs
        · have ZY:¬ (B:Int)≤(n:Int):=(by omega);by_cases Z0:M<n
          · have Z4:(M:Int)<(n:Int):=(by omega);have xE:=hid (St.ZF aH.out (by have:=ko.out;have:=HM.out;omega) (by have:=ko.out;have:=HT.out;omega));have xG:=hid (SY.out A M n m5 d5 xB xD.out (by have:=HM.out;omega) Z0 (Nat.le_refl _)
             (by have h:=xE.out.1;rw [HM.out,ko.out.1];exact h) (by have h:=xE.out.2;rw [HM.out,ko.out.1];exact h))
            rw [←Fj.out] at xG;(go_wp2_with fail);refine xG.out.mono ?_;rintro e w6 ⟨rfl,m6,d6,⟨Fq,dh⟩,iL,pX,hs6⟩;have H6:=hid (And.intro dh (And.intro iL (And.intro pX hs6)));clear dh iL pX hs6;go_wp2;go_roundg (n-t+1)
            (case measure=>have:=HT.out;omega);case rel=>have xH:=ko.out;have hT:=HT.out;have h6:=H6.out;refine ⟨t,m6,d6,Fq,rfl,by omega,by omega,by omega,h6.1,h6.2.1,permIn_trans _ _ _ _ _ rD.out (permIn_mono _ _ A n 0 n (Nat.zero_le _) (Nat.le_refl _) (by have:=xD.out;omega) h6.2.2.1),?_⟩;have hp:=h6.2.2.1;have hs:=h6.2.2.2;rw [xH.1] at hp hs;show St.aj _ _ _ _;rw [hT];exact St.ZH aH.out (by omega) hp hs
          · have Z4:¬ (M:Int)<(n:Int):=(by omega);go_wp2;go_roundg (n-t+1)
            (case measure=>have:=HT.out;omega);case rel=>have xH:=ko.out;have hT:=HT.out;have hM:=HM.out;refine ⟨t,m5,d5,xB,rfl,by omega,by omega,by omega,Fj.out,xD.out,rD.out,?_⟩;show St.aj _ _ _ _;rw [hT];exact St.ZG aH.out (by omega) (by omega)
     · have ZX:¬ (s:Int)<(n:Int):=(by omega);go_wp2;go_end0
       exact ⟨rfl,m4,d4,⟨om,oo.out⟩,xA.out,iX.out,St.ZB aI.out (by omega)⟩
theorem Z5 (hk:∀ x,(enc x).length=10) (h1:∀ x,∀ v∈enc x,v.oneCell'=true) (hS:SWO (ltOf cf)) (d:Array α) (g:Nat) (cb:Array Value) (eg:∀ args w,(callFunc g args).run Tryz.prog w=.ok (.enter g args) w) (hcmp:CmpLays Tryz.prog g cb enc 10 cf blk off d.size w) (hH:HoldsK enc 10 w blk off d) (hblk:blk<w.heap.size) (hsz:d.size≤1000000000) (cap:Nat) :
  Calls Tryz.prog 95 #[.slice (some ⟨blk,off,none⟩) d.size cap,.func (.func g) #[] cb] w fun e w'=>
   e=.returned (.tuple #[])∧∃ m' d',(∃ os',w'=sortWorldK enc 10 w blk off m' d' os')∧d'.size=d.size∧PermIn 0 d.size d d'∧SortedIn (ltOf cf) 0 d.size d':=by
 have ST:=hid (ZW hk h1 hS d g cb eg hcmp hH hblk hsz cap);clear hcmp hH hk h1 hS;go_enter Tryz.func95,Tryz.ntmps95;go_wp2_with fail
 refine ST.out.mono ?_;rintro e w6 ⟨rfl,m6,d6,dh,iL,pX,hs6⟩;have H6:=hid (And.intro dh (And.intro iL (And.intro pX hs6)));clear dh iL pX hs6;go_wp2;go_end0
 exact ⟨rfl,m6,d6,H6.out.1,H6.out.2.1,H6.out.2.2.1,H6.out.2.2.2⟩
end
theorem Z6 (a:Option Addr) (c:Nat) (f:Value) (w:World):Calls Tryz.prog 187 #[.slice a 0 c,.int .i64 0,.int .i64 0,f] w fun e w'=>e=.returned (.tuple #[])∧w'=w:=by
 go_enter Tryz.func187,Tryz.ntmps187;go_wp2;refine wp_loop_rounds 1 ?_;rw [rounds_succ];go_wp2;go_end0
 exact ⟨rfl,rfl⟩
theorem Z7 (a:Option Addr) (c:Nat) (f:Value) (w:World):Calls Tryz.prog 144 #[.slice a 0 c,.int .i64 0,f] w fun e w'=>e=.returned (.tuple #[])∧w'=w:=by
 have IN:=hid (fun w=>Z6 a c f w);go_enter Tryz.func144,Tryz.ntmps144;go_wp2;refine wp_loop_rounds 1 ?_;rw [rounds_succ];go_wp2_with fail
 refine (IN.out _).mono ?_;rintro e w1 ⟨rfl,hw⟩;subst hw;go_wp2;refine wp_loop_rounds 1 ?_;rw [rounds_succ];go_wp2;go_end0
 exact ⟨rfl,rfl⟩
theorem Nn (a:Option Addr) (c:Nat) (f:Value) (w:World):Calls Tryz.prog 95 #[.slice a 0 c,f] w fun e w'=>e=.returned (.tuple #[])∧w'=w:=by
 have IN:=hid (fun w=>Z7 a c f w);go_enter Tryz.func95,Tryz.ntmps95;go_wp2_with fail
 refine (IN.out _).mono ?_;rintro e w1 ⟨rfl,hw⟩;subst hw;go_wp2;go_end0
 exact ⟨rfl,rfl⟩
theorem Z8 (f:Value) (w:World):Calls Tryz.prog 95 #[.slice none 0 0,f] w fun e w'=>e=.returned (.tuple #[])∧w'=w:=Nn none 0 f w
open Go.ChangeShapes Go.WideShapes Go.ChangeAt Go.RowKit
theorem xI (w:World):(zeroValue 142).run Tryz.prog w=.ok (.agg #[]) w:=by kernel_rfl
theorem AP {w w':World} {b n:Nat} {D:DataW Unit} (h:w.ownsMap Tryz.prog 67 Go.unitElem b n D) (hb:Below w.heap.size w w'):w'.ownsMap Tryz.prog 67 Go.unitElem b n D:=
 h.kept (row:=none) ⟨hb.os,hb.tape,hb.output,hb.size,fun k hk _=>hb.block k hk⟩ (by simp)
theorem AQ {w w':World} {B n sz:Nat} {t:TypeId} {v:Value} {xs:List Value} (h:w.ownsRow B t sz v n xs) (hb:Below w.heap.size w w'):w'.ownsRow B t sz v n xs:=
 h.kept (row:=none) ⟨hb.os,hb.tape,hb.output,hb.size,fun k hk _=>hb.block k hk⟩ (by cases v.ownBlock <;> simp)
theorem xJ {t:TR} (h:Tm.aN t=true):nS t:=by obtain ⟨_,_,a1,a2,a3⟩:=Tm.mR h;have b1:=Tm.fq a1;have b2:=Tm.fq a2;have b3:=Tm.fq a3;obtain ⟨n1,e1,_,f1⟩:=Tm.fF a1;obtain ⟨n2,e2,_,f2⟩:=Tm.fF a2;obtain ⟨n3,e3,_,f3⟩:=Tm.fF a3;exact ⟨⟨by omega,by omega,by omega⟩,⟨by omega,by omega,by omega⟩,by omega,by omega,by omega⟩
def ni (t:TR):List Value:=[str (Tm.aG t.1.1 t.1.2.1 t.1.2.2),str (Tm.aG t.2.1.1 t.2.1.2.1 t.2.1.2.2),str (Tm.aG t.2.2.1 t.2.2.2.1 t.2.2.2.2)]
def fH (p:TR×Nat):List Value:=(aK p.1).cells++[.slice (some ⟨p.2,0,none⟩) 3 3]
def lI (D:List (TR×Nat)):List Value:=D.flatMap fH
theorem Z9 (D:List (TR×Nat)) (p:TR×Nat):lI (D++[p])=lI D++fH p:=by simp [lI]
theorem pY (p:TR×Nat):(fH p).length=10:=rfl
def iN (w:World) (v:Value) (D:List (TR×Nat)):Prop:=∀ p∈D,aj w p.2 (ni p.1) 9∧v.ownBlock≠some p.2
theorem iN.keep {w w':World} {v:Value} {D:List (TR×Nat)} (h:iN w v D) (hb:Below w.heap.size w w'):iN w' v D:=fun p hp=>⟨(h p hp).1.keep hb,(h p hp).2⟩
theorem iN.moved {w w':World} {v v':Value} {D:List (TR×Nat)} (h:iN w v D) (hg:w.grownBy w' v.ownBlock) (hm:Moved w v v'):iN w' v' D:=fun p hp=>by obtain ⟨h1,h2⟩:=h p hp;have hlt:=h1.lt;refine ⟨?_,?_⟩;{unfold aj at h1 ⊢;rw [hg.block p.2 hlt (fun e=>h2 e.symm)];exact h1};{rcases hm with e | ⟨k,e,hk⟩;{rw [e];exact h2};{rw [e];intro h;cases h;omega}}
theorem iN.snoc {w:World} {v:Value} {D:List (TR×Nat)} (h:iN w v D) {p:TR×Nat} (h1:aj w p.2 (ni p.1) 9) (h2:v.ownBlock≠some p.2):iN w v (D++[p]):=fun q hq=>by rcases List.mem_append.1 hq with hq | hq;{exact h q hq};{rw [List.mem_singleton.1 hq];exact ⟨h1,h2⟩}
theorem Z_:∃ i,Tryz.prog.info? 158=some i∧(∃ z,i.zero=some z∧z.cells.size=10)∧i.size=10∧i.bytes=144:=by
 have h:(Tryz.prog.info? 158).map (fun i=>(i.zero.map (fun z=>z.cells.size),i.size,i.bytes))=some (some 10,10,144):=by kernel_rfl
 obtain ⟨i,hi,h⟩:=Option.map_eq_some_iff.1 h;simp only [Prod.mk.injEq] at h;obtain ⟨z,hz,hz2⟩:=Option.map_eq_some_iff.1 h.1;exact ⟨i,hi,⟨z,hz,hz2⟩,h.2.1,h.2.2⟩
theorem Np {w:World} {b n:Nat} {D:DataW Unit} (h:w.ownsMap Tryz.prog 67 Go.unitElem b n D) {p:Nat} {A:List Value} {t:TypeId} (hp:aj w p A t):p≠b:=by obtain ⟨es,clock,hb,_⟩:=h;unfold aj at hp;rintro rfl;rw [hp] at hb;cases hb
theorem iN.map {w w':World} {v:Value} {D:List (TR×Nat)} {b:Nat} (h:iN w v D) (hg:w.grownBy w' (some b)) (hb:∀ p∈D,p.2≠b):iN w' v D:=fun p hp=>by obtain ⟨h1,h2⟩:=h p hp;have hlt:=h1.lt;refine ⟨?_,h2⟩;unfold aj at h1 ⊢;rw [hg.block p.2 hlt (fun e=>hb p hp (Option.some.inj e))];exact h1
theorem aj.map {w w':World} {b q:Nat} {A:List Value} {t:TypeId} (h:aj w q A t) (hg:w.grownBy w' (some b)) (hb:q≠b):aj w' q A t:=by have hlt:=h.lt;unfold aj at h ⊢;rw [hg.block q hlt (fun e=>hb (Option.some.inj e))];exact h
theorem Nq {acc:List TR} {t:TR} (h:decide (t∈acc)=false):Tm.gU acc t=acc++[t]:=by unfold Tm.gU;rw [if_neg (of_decide_eq_false h)]
theorem aac {acc:List TR} {t:TR} (h:decide (t∈acc)=true):Tm.gU acc t=acc:=by unfold Tm.gU;rw [if_pos (of_decide_eq_true h)]
theorem Nr (p:TR×Nat):∀ u∈fH p,u.oneCell'=true:=by intro u hu;simp [fH,bL.cells,aK] at hu;rcases hu with rfl | rfl | rfl | rfl | rfl | rfl | rfl | rfl | rfl | rfl <;> rfl
theorem aad (W:World) (p:TR×Nat):∀ ad,some (⟨W.heap.size,0,none⟩:Addr)=some ad→∀ j u,(fH p)[j]?=some u→(W.alloc (.cells (fH p).toArray 158)).cell? (ad.add j)=some u:=by intro ad had j u hu;cases had;rw [iF rfl,Nat.zero_add,eU,←Array.getElem?_toList];exact hu
theorem Ns (t:TR) (h:Tm.aN t=true) (W:World):Calls Tryz.prog 94 #[nR t] W fun e w'=>∃ b,e=.returned (.slice (some ⟨b,0,none⟩) 3 3)∧W.heap.size≤b∧aj w' b (ni t) 9∧Below W.heap.size W w':=by obtain ⟨_,_,a1,a2,a3⟩:=Tm.mR h;obtain ⟨n1,e1,f1,g1⟩:=Tm.fF a1;obtain ⟨n2,e2,f2,g2⟩:=Tm.fF a2;obtain ⟨n3,e3,f3,g3⟩:=Tm.fF a3;have b1:=Tm.fq a1;have b2:=Tm.fq a2;have b3:=Tm.fq a3;have:=J_ (t.1.1:Nat) t.1.2.1 t.1.2.2 (t.2.1.1:Nat) t.2.1.2.1 t.2.1.2.2 (t.2.2.1:Nat) t.2.2.2.1 t.2.2.2.2 W (by omega) (by omega) (by omega) (by omega) (by omega) (by omega);rw [Tm.ze (by omega),Tm.ze (by omega),Tm.ze (by omega)] at this;exact this
theorem Fu {w:World} {b n:Nat} {D:DataW Unit} (h:w.ownsMap Tryz.prog 67 Go.unitElem b n D):w.ownsMap Tryz.prog 67 Go.unitElem b (n+1) D:=by obtain ⟨es,clock,hb,F,hs,hD⟩:=h;exact ⟨es,clock,hb,F,by omega,hD⟩
theorem aae {w w6 w7 w8:World} {u3 v8:Value} {n1:Nat} {M:DataW Unit} {D:List (TR×Nat)} {t:TR} {b7:Nat} {o:Obj} (aP:Below w.heap.size w w6) (rE:w6.ownsMap Tryz.prog 67 Go.unitElem w.heap.size n1 M) (gK:iN w6 u3 D) (bN:Below w6.heap.size w6 w7) (oq:w6.heap.size≤b7) (dU:aj w7 b7 (ni t) 9)
  (kL:∀ k,u3.ownBlock=some k→w.heap.size+1≤k) (hol:∀ k,u3.ownBlock=some k→k<w6.heap.size) (G1:w8.ownsRow (w.heap.size+1) 158 10 v8 (D.length+1) (lI D++fH (t,b7))) (G2:(w7.alloc o).grownBy w8 u3.ownBlock) (G3:Moved (w7.alloc o) u3 v8) :
  Below w.heap.size w w8∧w8.ownsMap Tryz.prog 67 Go.unitElem w.heap.size n1 M∧w8.ownsRow (w.heap.size+1) 158 10 v8 (D++[(t,b7)]).length (lI (D++[(t,b7)]))∧iN w8 v8 (D++[(t,b7)]):=by have Fv:=aA aP bN;refine ⟨(Fv.alloc Fv.size o).grown G2 (by have:=Fv.size;simp;omega) (fun k hk=>by have:=kL k hk;omega),((AP rE bN).alloc o).kept G2 (fun e=>by have:=kL _ e.symm;omega),?_,?_⟩;{rw [List.length_append,Z9];exact G1};{have h1:iN (w7.alloc o) u3 D:=(gK.keep bN).keep ((Below.refl _ _).alloc (Nat.le_refl _) _);exact (h1.snoc (p:=(t,b7)) (dU.alloc o) (fun e=>by have:=hol _ e;omega)).moved G2 G3}
theorem aaf {L:List TR} {i:Nat} (hi:i<L.length):Tm.fM [] (L.take (i+1))=Tm.gU (Tm.fM [] (L.take i)) L[i]:=by rw [List.take_add_one,List.getElem?_eq_getElem hi];unfold Tm.fM;rw [List.foldl_append];rfl
theorem Fw (L:List TR) (i:Nat):(Tm.fM [] (L.take i)).length≤i:=by
 have:∀ (l a:List TR),(Tm.fM a l).length≤a.length+l.length:=by
  intro l;induction l with
  | nil=>intro a;simp [Tm.fM]
  | cons t l ih=>intro a;have h1:=ih (Tm.gU a t);have h2:=Tm.Kz a t;show (Tm.fM (Tm.gU a t) l).length≤_;rw [List.length_cons];omega
 have h:=this (L.take i) [];have h2:=List.length_take_le i L;simp only [List.length_nil] at h;omega
open Go.Sort Go.Lib
theorem Nt:∀ (D:List (TR×Nat)) (i c:Nat) (hi:i<D.length),c<10→(lI D)[i*10+c]?=(fH D[i])[c]?
 | [],i,c,hi,_=>by simp at hi
 | p::D,0,c,hi,hc=>by
  show (fH p++lI D)[0*10+c]?=_
  rw [List.getElem?_append_left (by rw [pY];omega),Nat.zero_mul,Nat.zero_add];rfl
 | p::D,i+1,c,hi,hc=>by
  show (fH p++lI D)[(i+1)*10+c]?=_
  rw [List.getElem?_append_right (by rw [pY];omega),pY,show (i+1)*10+c-10=i*10+c by omega]
  exact Nt D i c (by simpa using hi) hc
theorem Nu {α:Type} [Inhabited α] (enc:α→List Value) (k:Nat) {w:World} {blk off n j:Nat} {d:Array α} {os:Array Obj} (hk:j<w.heap.size) (hne:j≠blk):(sortWorldK enc k w blk off n d os).heap[j]?=w.heap[j]?:=by unfold sortWorldK;rw [Go.Sort.heap_grow_old _ _ (by show j<(putRow id (Go.Sort.ahead w n) blk off _).heap.size;simp [putRow,mapBlock,Go.Sort.ahead];exact hk)];show (putRow id (Go.Sort.ahead w n) blk off _).heap[j]?=_;simp only [putRow,mapBlock,Array.getElem?_modify];rw [if_neg (fun e=>hne e.symm)];rfl
theorem aag {α:Type} [Inhabited α] (enc:α→List Value) (k:Nat) {B:Nat} {w0 w:World} {blk off n:Nat} {d:Array α} {os:Array Obj} (h:Below B w0 w) (hB:B≤blk) (hw:B≤w.heap.size):Below B w0 (sortWorldK enc k w blk off n d os):=by have hz:w.heap.size≤(sortWorldK enc k w blk off n d os).heap.size:=size_sortWorldK_c enc k w blk off n d os;exact ⟨h.os,h.tape,h.output,Nat.le_trans h.size hz,fun j hj=>by rw [Nu enc k (by omega) (by omega)];exact h.block j hj⟩
theorem aah (p q:TR×Nat) (W:World) (hp:aj W p.2 (ni p.1) 9) (hq:aj W q.2 (ni q.1) 9) :
  Calls Tryz.prog 96 #[.agg (fH p).toArray,.agg (fH q).toArray] W fun e w'=>e=.returned (.int .i64 (Tm.bD p.1 q.1))∧∃ os',w'=grow W os':=by
 obtain ⟨⟨⟨n1,t1,x1⟩,⟨n2,t2,x2⟩,n3,t3,x3⟩,b⟩:=p;obtain ⟨⟨⟨m1,u1,y1⟩,⟨m2,u2,y2⟩,m3,u3,y3⟩,c⟩:=q;have HW:=hid (show (W.alloc (.cells (fH (((n1,t1,x1),(n2,t2,x2),n3,t3,x3),b)).toArray 158)).alloc (.cells (fH (((m1,u1,y1),(m2,u2,y2),m3,u3,y3),c)).toArray 158)=grow W (#[.cells (fH (((n1,t1,x1),(n2,t2,x2),n3,t3,x3),b)).toArray 158]++#[.cells (fH (((m1,u1,y1),(m2,u2,y2),m3,u3,y3),c)).toArray 158]) by rw [alloc_eq_grow,alloc_eq_grow,grow_grow]);have SC:=hid (fun W h1 h2=>Vz b c (Tm.aG n1 t1 x1) (Tm.aG n2 t2 x2) (Tm.aG n3 t3 x3) (Tm.aG m1 u1 y1) (Tm.aG m2 u2 y2) (Tm.aG m3 u3 y3) W h1 h2);have HP:=hid (show aj W b [str (Tm.aG n1 t1 x1),str (Tm.aG n2 t2 x2),str (Tm.aG n3 t3 x3)] 9 from hp);have HQ:=hid (show aj W c [str (Tm.aG m1 u1 y1),str (Tm.aG m2 u2 y2),str (Tm.aG m3 u3 y3)] 9 from hq);obtain ⟨r,hr⟩:∃ r,r=Tm.jg (Tm.aG n1 t1 x1) (Tm.aG n2 t2 x2) (Tm.aG n3 t3 x3) (Tm.aG m1 u1 y1) (Tm.aG m2 u2 y2) (Tm.aG m3 u3 y3):=⟨_,rfl⟩;have HR:=hid (show Tm.bD ((n1,t1,x1),(n2,t2,x2),n3,t3,x3) ((m1,u1,y1),(m2,u2,y2),m3,u3,y3)=r from hr.symm);rw [←hr] at SC;rw [HR.out];clear hp hq hr;show Calls Tryz.prog 96 #[.agg #[.int .i64 (n1:Nat),str t1,str x1,.int .i64 (n2:Nat),str t2,str x2,.int .i64 (n3:Nat),str t3,str x3,.slice (some ⟨b,0,none⟩) 3 3],.agg #[.int .i64 (m1:Nat),str u1,str y1,.int .i64 (m2:Nat),str u2,str y2,.int .i64 (m3:Nat),str u3,str y3,.slice (some ⟨c,0,none⟩) 3 3]] W _;go_enter Tryz.func96,Tryz.ntmps96;go_wp2_with fail
 refine (SC.out _ ((HP.out.alloc _).alloc _) ((HQ.out.alloc _).alloc _)).mono ?_;rintro e w3 ⟨rfl,hw3⟩;subst hw3;go_wp2;go_ret;exact ⟨rfl,_,HW.out⟩
def ShAt (W:World) (v:Value) (S:List (TR×Nat)):Prop:=∃ (a:Option Addr) (cap:Nat),v=.slice a S.length cap∧(S.length=0∨∃ g,a=some ⟨g,0,none⟩∧∀ i (h:i<S.length) c,c<10→W.cell? ⟨g,i*10+c,none⟩=(fH S[i])[c]?)
section
variable {N:Nat}
def encR (r:Fin (N+1)→TR×Nat) (i:Fin (N+1)):List Value:=fH (r i)
def um (r:Fin (N+1)→TR×Nat) (i j:Fin (N+1)):Int:=Tm.bD (r i).1 (r j).1
theorem Nv {r:Fin (N+1)→TR×Nat} {i j:Fin (N+1)} (h:ltOf (um r) i j=true):Tm.bD (r i).1 (r j).1<0:=of_decide_eq_true h
theorem Fx {r:Fin (N+1)→TR×Nat} {i j:Fin (N+1)} (h:ltOf (um r) i j=false):0≤Tm.bD (r i).1 (r j).1:=by have h1:¬ Tm.bD (r i).1 (r j).1<0:=of_decide_eq_false h;omega
theorem Nw {r:Fin (N+1)→TR×Nat} {i j:Fin (N+1)} (h:0≤Tm.bD (r i).1 (r j).1):ltOf (um r) i j=false:=by
 have h1:¬ Tm.bD (r i).1 (r j).1<0:=by omega
 exact decide_eq_false h1
theorem aai (r:Fin (N+1)→TR×Nat):SWO (ltOf (um r)) where
 irrefl x:=Nw (by
  have:=Tm.lW (r x).1 (r x).1
  omega)
 trans x y z h1 h2:=decide_eq_true (Tm.DF (Nv h1) (Nv h2))
 ntrans x y z h1 h2:=Nw (by
  have b1:=Fx h1
  have b2:=Fx h2
  have a1:=Tm.lW (r x).1 (r y).1
  have a2:=Tm.lW (r y).1 (r z).1
  have a3:=Tm.lW (r x).1 (r z).1
  have:=Tm.DC (p:=(r z).1) (q:=(r y).1) (r:=(r x).1) (by omega) (by omega)
  omega)
theorem aaj (r:Fin (N+1)→TR×Nat) (g n:Nat) (w:World) (hT:∀ i,aj w (r i).2 (ni (r i).1) 9∧(r i).2≠g):CmpLays Tryz.prog 96 #[] (encR r) 10 (um r) g 0 n w:=by
 intro m os dk hdk x y;have hb:∀ i,aj (sortWorldK (encR r) 10 w g 0 m dk os) (r i).2 (ni (r i).1) 9:=fun i=>by have h:=(hT i).1;have hlt:=h.lt;unfold aj at h ⊢;rw [Nu (encR r) 10 hlt (hT i).2];exact h
 have:=aah (r x) (r y) _ (hb x) (hb y);simp only [Array.append_empty];refine this.mono ?_;rintro e w' ⟨rfl,os',rfl⟩;exact ⟨rfl,0,os',rfl⟩
end
theorem aak {a:List TR} {t:TR} (h:a.Nodup):(Tm.gU a t).Nodup:=by unfold Tm.gU;split;{exact h};{rename_i hn;rw [List.nodup_append];refine ⟨h,by simp,fun x hx y hy=>?_⟩;rw [List.mem_singleton.1 hy];rintro rfl;exact hn hx}
theorem aal (L:List TR):(Tm.fM [] L).Nodup:=by
 have:∀ (l a:List TR),a.Nodup→(Tm.fM a l).Nodup:=by
  intro l;induction l with
  | nil=>intro a h;exact h
  | cons t l ih=>intro a h;exact ih _ (aak h)
 exact this L [] List.nodup_nil
theorem aam (L:List TR) (hl:∀ t∈L,Tm.aN t=true) (D:List (TR×Nat)) (hD:D.map (·.1)=Tm.fM [] L) (B:Nat) (w:World) (u:Value) (HR:w.ownsRow B 158 10 u D.length (lI D)) (HT:iN w u D) (hlen:D.length≤1000000) :
  Calls Tryz.prog 95 #[u,.func (.func 96) #[] #[]] w fun e w'=>e=.returned (.tuple #[])∧∃ S:List (TR×Nat),ShAt w' u S∧S.map (·.1)=Tm.dJ L∧S.length=D.length∧(∀ B0 w0,Below B0 w0 w→B0≤B→B0≤w.heap.size→Below B0 w0 w'):=by
 have hmem:∀ t,t∈D.map (·.1)↔t∈L:=fun t=>by rw [hD,Tm.vT];simp
 rcases HR.2 with ⟨hu,hD0⟩ | ⟨g,cp,cur,hu,hg,hcur,hcp,hcm,hcs,htk⟩;{subst hu;refine (Z8 _ _).mono ?_;rintro e w' ⟨rfl,hw⟩;subst hw;have hDn:D=[]:=List.eq_nil_of_length_eq_zero hD0;subst hDn;refine ⟨rfl,[],⟨none,0,rfl,.inl rfl⟩,?_,rfl,fun B0 w0 h _ _=>h⟩;exact Tm.vV hl List.Pairwise.nil hmem};{rcases Nat.eq_zero_or_pos D.length with h0 | hpos;{have hDn:D=[]:=List.eq_nil_of_length_eq_zero h0;subst hDn;rw [hu];refine (Nn _ _ _ _).mono ?_;rintro e w' ⟨rfl,hw⟩;subst hw;refine ⟨rfl,[],⟨_,_,rfl,.inl rfl⟩,?_,rfl,fun B0 w0 h _ _=>h⟩;exact Tm.vV hl List.Pairwise.nil hmem};{obtain ⟨N,hN⟩:∃ N,D.length=N+1:=⟨D.length-1,by omega⟩;have hgl:g<w.heap.size:=(HR.lt g (by rw [hu];rfl)).2;let r:Fin (N+1)→TR×Nat:=fun i=>D[i.1]'(by omega);have hrD:∀ i (hi:i<N+1),r ⟨i,hi⟩=D[i]'(by omega):=fun i hi=>rfl;let d:Array (Fin (N+1)):=Array.ofFn fun i=>i;have hds:d.size=N+1:=(by simp [d]);have hdi:∀ i (hi:i<N+1),d[i]! = ⟨i,hi⟩:=fun i hi=>(by rw [getElem!_pos d i (by rw [hds];exact hi)];simp [d]);have Fy:=HR;rw [hu] at Fy;have hH:HoldsK (encR r) 10 w g 0 d:=(by intro j hj;have hj':j<D.length*10:=(by rw [hN];simpa [hds] using hj);have hq:j / 10<N+1:=(by omega);rw [Nat.zero_add];refine ⟨?_,Fy.frozenAt j⟩;rw [Fy.cellAt j hj',get_flatK _ _ _ _ (by rw [hds];omega),hdi _ hq];have h2:=Nt D (j / 10) (j % 10) (by omega) (Nat.mod_lt _ (by omega));rw [show j / 10*10+j % 10=j by omega] at h2;rw [h2];show _=some ((fH D[j / 10])[j % 10]!);rw [getElem!_pos (fH D[j / 10]) (j % 10) (by rw [pY];omega),List.getElem?_eq_getElem (by rw [pY];omega)]);have hT:∀ i,aj w (r i).2 (ni (r i).1) 9∧(r i).2≠g:=fun i=>(by obtain ⟨h1,h2⟩:=HT (r i) (List.getElem_mem _);exact ⟨h1,fun e=>h2 (by rw [hu,e];rfl)⟩);have h:=Z5 (enc:=encR r) (cf:=um r) (fun x=>pY _) (fun x=>Nr _) (aai r) d 96 #[] (fun args w=>by exact enters_of Tryz.func96 (by kernel_rfl) rfl args w) (aaj r g d.size w hT) hH hgl (by omega) cp;rw [hds] at h;rw [hu,hN];refine h.mono ?_;rintro e w' ⟨rfl,m',d',⟨os',rfl⟩,hz,hP,hS⟩;have hHd:=holdsK_sortWorldK_c (encR r) 10 w g 0 d d' m' os' hH hgl (by rw [hz,hds]);have hp:d'.toList.Perm d.toList:=(by have h3:=hP.2.2;rwa [Array.extract_eq_self_of_le (by omega),Array.extract_eq_self_of_le (by omega)] at h3);have hdl:d.toList.map r=D:=(by refine List.ext_getElem (by simp [d,hN]) fun i h1 h2=>?_;have h3:i<d.size:=(by rw [hds];omega);rw [List.getElem_map,Array.getElem_toList];have h4:=hdi i (by omega);rw [getElem!_pos d i h3] at h4;rw [h4]);have Ny:(d'.toList.map r).Perm D:=(by rw [←hdl];exact hp.map r);have xK:(d'.toList.map r).length=N+1:=(by simp [hz]);refine ⟨rfl,d'.toList.map r,?_,?_,by rw [xK],fun B0 w0 h1 h2 h3=>aag (encR r) 10 h1 (by omega) h3⟩;{refine ⟨_,cp,by rw [xK],.inr ⟨g,rfl,fun i hi c hc=>?_⟩⟩;have hi':i<d'.size:=(by simpa using hi);have h4:=(HoldsK.cell hHd (i:=i) (c:=c) hi' hc).1;rw [Nat.zero_add] at h4;rw [h4];have e3:encR r d'[i]! = fH (d'.toList.map r)[i]:=(by rw [getElem!_pos d' i hi'];simp [encR]);rw [e3,getElem!_pos _ c (by rw [pY];exact hc),List.getElem?_eq_getElem (by rw [pY];exact hc)]};{refine Tm.vV hl ?_ fun t=>(by rw [←hmem t];exact ((Ny.map (·.1)).mem_iff));have hne:∀ i j,i<N+1→j<N+1→i<j→Tm.bD (r d'[i]!).1 (r d'[j]!).1<0:=fun i j hi hj hij=>(by have h5:=hS i j (Nat.zero_le _) hij hj;have h5:=Fx h5;have h6:=Tm.lW (r d'[j]!).1 (r d'[i]!).1;have hnd:(D.map (·.1)).Nodup:=(by rw [hD];exact aal L);have aan:((d'.toList.map r).map (·.1)).Nodup:=((Ny.map (·.1)).nodup_iff).2 hnd;have gi:(r d'[i]!).1=((d'.toList.map r).map (·.1))[i]'(by simp [hz];omega):=(by rw [getElem!_pos d' i (by omega)];simp);have gj:(r d'[j]!).1=((d'.toList.map r).map (·.1))[j]'(by simp [hz];omega):=(by rw [getElem!_pos d' j (by omega)];simp);have hm:∀ x,Tm.aN (r x).1=true:=fun x=>hl _ ((hmem _).1 (List.mem_map.2 ⟨r x,List.getElem_mem _,rfl⟩));by_cases h0:Tm.bD (r d'[i]!).1 (r d'[j]!).1=0;{exfalso;have e4:=(Tm.Dz (hm _) (hm _)).1 h0;rw [gi,gj] at e4;have h8:=List.pairwise_iff_getElem.1 aan i j (by simp [hz];omega) (by simp [hz];omega) hij;exact h8 e4};{omega});unfold Tm.dH;rw [List.pairwise_iff_getElem];intro i j hi hj hij;have hi':i<N+1:=(by simpa [hz] using hi);have hj':j<N+1:=(by simpa [hz] using hj);have h7:=hne i j hi' hj' hij;rw [getElem!_pos d' i (by omega),getElem!_pos d' j (by omega)] at h7;simpa using h7}}}
def rF:List Value:=[.int .i64 0,str [],str [],.int .i64 0,str [],str [],.int .i64 0,str [],str []]
theorem uo:∃ i,Tryz.prog.info? 67=some i∧i.zero=some (.agg rF.toArray)∧i.size=9∧i.bytes=120:=by
 have h:(Tryz.prog.info? 67).map (fun i=>(i.zero,i.size,i.bytes))=some (some (.agg rF.toArray),9,120):=by kernel_rfl
 obtain ⟨i,hi,h⟩:=Option.map_eq_some_iff.1 h;simp only [Prod.mk.injEq] at h;exact ⟨i,hi,h.1,h.2.1,h.2.2⟩
def xL (A:List Value) (o:Nat) (v0 v1 v2 v3 v4 v5 v6 v7 v8:Value):List Value:=
 ((((((((A.set o v0).set (o+1) v1).set (o+2) v2).set (o+3) v3).set (o+4) v4).set (o+5) v5).set (o+6) v6).set (o+7) v7).set (o+8) v8
def xM (w:World) (n1:Nat) (t1 x1:List UInt8) (n2:Nat) (t2 x2:List UInt8) (n3:Nat) (t3 x3:List UInt8) (b:Nat):World:=
 w.alloc (.cells #[.int .i64 (n1:Nat),str t1,str x1,.int .i64 (n2:Nat),str t2,str x2,.int .i64 (n3:Nat),str t3,str x3,.slice (some ⟨b,0,none⟩) 3 3] 158)
def Fz:List Value→Nat→List Value→List Value
 | A,_,[]=>A
 | A,o,v::vs=>Fz (A.set o v) (o+1) vs
theorem Nz:∀ (vs A:List Value) (o:Nat),o+vs.length≤A.length→∀ j,(Fz A o vs)[j]?=if o≤j∧j<o+vs.length then vs[j-o]? else A[j]?
 | [],A,o,_,j=>by rw [if_neg (by simp only [List.length_nil];omega)];rfl
 | v::vs,A,o,h,j=>by
  simp only [List.length_cons] at h ⊢
  rw [Fz,Nz vs (A.set o v) (o+1) (by rw [List.length_set];omega) j]
  by_cases h1:o+1≤j∧j<o+1+vs.length
  · rw [if_pos h1,if_pos (by omega),show j-o=(j-(o+1))+1 by omega,List.getElem?_cons_succ]
  · rw [if_neg h1]
    by_cases h2:j=o
    · subst h2
      rw [if_pos (by omega),Nat.sub_self,List.getElem?_set_self (by omega)];rfl
    · rw [if_neg (by omega),List.getElem?_set_ne (by omega)]
theorem aao (A:List Value) (o:Nat) (v0 v1 v2 v3 v4 v5 v6 v7 v8:Value):(xL A o v0 v1 v2 v3 v4 v5 v6 v7 v8).length=A.length:=by unfold xL;rw [List.length_set,List.length_set,List.length_set,List.length_set,List.length_set,List.length_set,List.length_set,List.length_set,List.length_set]
theorem aap (A:List Value) (o:Nat) (v0 v1 v2 v3 v4 v5 v6 v7 v8:Value) (h:o+9≤A.length) (j:Nat) :
  (xL A o v0 v1 v2 v3 v4 v5 v6 v7 v8)[j]?=if o≤j∧j<o+9 then [v0,v1,v2,v3,v4,v5,v6,v7,v8][j-o]? else A[j]?:=
 Nz [v0,v1,v2,v3,v4,v5,v6,v7,v8] A o h j
def AU (A:List Value) (S:List (TR×Nat)) (i:Nat):Prop:=∀ j (h:j<S.length),j<i→∀ c,c<9→A[j*9+c]?=(aK S[j].1).cells[c]?
theorem aaq {A:List Value} {S:List (TR×Nat)} {i:Nat} (h:AU A S i) (hi:i<S.length) (hA:A.length=S.length*9) {n1 n2 n3:Nat} {t1 x1 t2 x2 t3 x3:List UInt8} {b:Nat} (hS:S[i]=(((n1,t1,x1),(n2,t2,x2),n3,t3,x3),b)) :
  AU (xL A (i*9) (.int .i64 (n1:Nat)) (str t1) (str x1) (.int .i64 (n2:Nat)) (str t2) (str x2) (.int .i64 (n3:Nat)) (str t3) (str x3)) S (i+1):=by intro j hj hji c hc;rw [aap _ _ _ _ _ _ _ _ _ _ _ (by omega)];by_cases hjj:j=i;{subst hjj;rw [if_pos (by omega),hS,show j*9+c-j*9=c by omega];rfl};{rw [if_neg (by omega)];exact h j hj (by omega) c hc}
theorem aar {W:World} {b N:Nat} {A:List Value} {S:List (TR×Nat)} {L:List TR} (hB:aj W b A 67) (h:AU A S S.length) (hm:S.map (·.1)=L) (hN:S.length=N) (hm2:N≤maxLen):bB W (.slice (some ⟨b,0,none⟩) N N) (L.map aK):=by
 subst hm;subst hN;refine ⟨_,_,by rw [List.length_map,List.length_map],by rw [List.length_map,List.length_map];exact Nat.le_refl _,hm2,(fun h=>by cases h),.inr ⟨b,0,rfl,fun i hi c hc=>?_⟩⟩;have hi':i<S.length:=by simpa using hi
 have h1:=h i hi' hi' c hc;have h2:c<(aK S[i].1).cells.length:=hc;rw [List.getElem?_eq_getElem h2] at h1;rw [Nat.zero_add,hB.cell h1];simp only [List.getElem_map];rw [List.getElem?_eq_getElem h2]
open Go.ChangeShapes Go.WideShapes Go.ChangeAt Go.RowKit
theorem NA (L:List TR) (hl:∀ t∈L,Tm.aN t=true) (hn:L.length≤1000000) (w:World) (v:Value) (hv:bB w v (L.map aK)) :
  Calls Tryz.prog 49 #[v] w fun e w'=>∃ v',e=.returned v'∧bB w' v' ((Tm.dJ L).map aK)∧Below w.heap.size w w':=by
 have hmm:=@run_makeMap Tryz.prog;obtain ⟨a,cap,rfl,hc1,hc2,hc3⟩:=hv.open;have HV:=hid hv;have HL:=hid hl;rw [List.length_map] at HV ⊢;obtain ⟨n,hn0⟩:∃ n,n=L.length:=⟨_,rfl⟩;rw [←hn0] at HV hn ⊢;have HN:=hid hn0;have HB0:=hid (show Below w.heap.size w (w.alloc (.map #[] 0)) from (Below.refl _ _).alloc (Nat.le_refl _) _);have rG:=hid (show (w.alloc (.map #[] 0)).ownsMap Tryz.prog 67 Go.unitElem w.heap.size 0 (dX []) from World.ownsMap_made _ _ _ _);have SH:=hid (fun (k1 k2 k3:Nat) (t1 x1 t2 x2 t3 x3:List UInt8) (W:World) h1 h2 h3 h4 h5 h6=>J_ (k1:Int) t1 x1 (k2:Int) t2 x2 (k3:Int) t3 x3 W h1 h2 h3 h4 h5 h6);clear hv hl hc1 hc2 hc3 hn0;go_enter Tryz.func49,Tryz.ntmps49;go_wp2;go_loopg [3,15] n (fun gk s3 s15 wr=>∃ (i:Nat) (D:List (TR×Nat)),s15=.int .i64 i∧i≤n∧n-i≤gk∧Hid (Below w.heap.size w wr)∧Hid (wr.ownsMap Tryz.prog 67 Go.unitElem w.heap.size i (dX (Tm.fM [] (L.take i))))∧Hid (wr.ownsRow (w.heap.size+1) 158 10 s3 D.length (lI D))∧Hid (iN wr s3 D)∧Hid (D.map (·.1)=Tm.fM [] (L.take i)))
 case atStart=>exact ⟨0,[],rfl,Nat.zero_le _,Nat.le_refl _,HB0,rG,World.ownsRow_nil _ _ _ _,hid (fun p hp=>by cases hp),hid rfl⟩
 case round=>
  obtain ⟨i,D,rfl,hin,hg,HB,HM,HR,HT,HD⟩:=hrel;by_cases hlt:i<n
  · have hltz:(i:Int)<(n:Int):=(by omega);have aZ:i<L.length:=(by rw [←HN.out];exact hlt);have HT1:=hid (HL.out L[i] (List.getElem_mem aZ));have HK:=hid (show keyOf Tryz.prog 67 (nR L[i])=some (jf L[i]) from tq (xJ HT1.out));have gD:=hid (HV.out.keep HB.out);obtain ⟨bl,off,rfl,hrow⟩:=gD.out.get (i:=i) (by rw [List.length_map];exact aZ);have HRW:=hid (hrow i (by rw [List.length_map];exact aZ));rw [List.getElem_map] at HRW;have HST:=hid (aaf aZ);obtain ⟨t,ht⟩:∃ t,t=L[i]:=⟨_,rfl⟩;rw [←ht] at HT1 HK HRW HST;have NC:=xJ HT1.out;have iM:=hid NC;obtain ⟨⟨n1,t1,x1⟩,⟨n2,t2,x2⟩,n3,t3,x3⟩:=t;clear ht hrow;have c0:=HRW.out 0 (by omega);have c1:=HRW.out 1 (by omega);have c2:=HRW.out 2 (by omega);have c3:=HRW.out 3 (by omega);have c4:=HRW.out 4 (by omega);have c5:=HRW.out 5 (by omega);have c6:=HRW.out 6 (by omega);have c7:=HRW.out 7 (by omega);have c8:=HRW.out 8 (by omega);simp only [aK,bL.cells,List.getElem?_cons_zero,List.getElem?_cons_succ,Nat.add_zero] at c0 c1 c2 c3 c4 c5 c6 c7 c8;obtain ⟨acc,hacc⟩:∃ acc,acc=Tm.fM [] (L.take i):=⟨_,rfl⟩;rw [←hacc] at HM HD HST;have FB:=hid (show ∀ s∈acc,nS s by
     intro s hs;rw [hacc,Tm.vT] at hs;rcases hs with hs | hs;{cases hs}
     · exact xJ (HL.out s (List.mem_of_mem_take hs)))
    have aas:=hid hacc;clear hacc NC;obtain ⟨b,hb⟩:∃ b,b=Maps.has (dX acc) (jf ((n1,t1,x1),(n2,t2,x2),n3,t3,x3)):=⟨_,rfl⟩;have bR:=hid hb;clear hb;have aI:=hid (show Below w.heap.size w (aM wr n1 t1 x1 n2 t2 x2 n3 t3 x3) from HB.out.alloc HB.out.size _);have gL:=hid (show (aM wr n1 t1 x1 n2 t2 x2 n3 t3 x3).ownsMap Tryz.prog 67 Go.unitElem w.heap.size i (dX acc) from HM.out.alloc _);have HR4:=hid (show (aM wr n1 t1 x1 n2 t2 x2 n3 t3 x3).ownsRow (w.heap.size+1) 158 10 u3 D.length (lI D) from HR.out.alloc _);have bE:=hid (show iN (aM wr n1 t1 x1 n2 t2 x2 n3 t3 x3) u3 D from HT.out.keep ((Below.refl _ _).alloc (Nat.le_refl _) _));have aL:=hid (fE wr n1 t1 x1 n2 t2 x2 n3 t3 x3);cases b
    · go_upto_region 8 with (first
       | (show wpList _ _ _ _ _ (aM wr n1 t1 x1 n2 t2 x2 n3 t3 x3);obtain ⟨w4,hw4⟩:∃ w4,w4=aM wr n1 t1 x1 n2 t2 x2 n3 t3 x3:=⟨_,rfl⟩;rw [←hw4] at aI gL HR4 bE aL ⊢;clear hw4;have c0:=aL.out.cell (i:=0) rfl;have c1:=aL.out.cell (i:=1) rfl;have c2:=aL.out.cell (i:=2) rfl;have c3:=aL.out.cell (i:=3) rfl;have c4:=aL.out.cell (i:=4) rfl;have c5:=aL.out.cell (i:=5) rfl;have c6:=aL.out.cell (i:=6) rfl;have c7:=aL.out.cell (i:=7) rfl;have c8:=aL.out.cell (i:=8) rfl)
       | (at_lookup;refine wpList_lookup_own_unit _ rfl _ _ 137 rfl 67 142 nQ Tryz.underlying137 (xI _) w.heap.size i (dX acc) rfl gL.out _ _ rfl HK.out ?_;rw [←bR.out]))
      have aH:=hid (aI.out.alloc aI.out.size (.cells #[] 142));have iO:=hid (gL.out.alloc (.cells #[] 142));have dz:=hid (HR4.out.alloc (.cells #[] 142));have aU:=hid (bE.out.keep ((Below.refl _ _).alloc (Nat.le_refl _) (.cells #[] 142)));have dZ:=hid (aL.out.alloc (.cells #[] 142));generalize w4.alloc (.cells #[] 142)=w5 at aH iO dz aU dZ ⊢;have c0:=dZ.out.cell (i:=0) rfl;have c1:=dZ.out.cell (i:=1) rfl;have c2:=dZ.out.cell (i:=2) rfl;have c3:=dZ.out.cell (i:=3) rfl;have c4:=dZ.out.cell (i:=4) rfl;have c5:=dZ.out.cell (i:=5) rfl;have c6:=dZ.out.cell (i:=6) rfl;have c7:=dZ.out.cell (i:=7) rfl;have c8:=dZ.out.cell (i:=8) rfl;(go_upto_region 9 with (at_mapUpdate;refine wpList_mapUpdate_own _ rfl _ _ _ 137 rfl 67 142 nQ Tryz.underlying137 _ w.heap.size i (dX acc) rfl iO.out (by unfold maxLen;omega) _ _ _ rfl rfl HK.out (.agg []) [] Go.unitElem_mk ?_;intro w6 p8 kr));have hzm:=HM.out.lt;have aP:=hid (aH.out.grown kr aH.out.size (fun k hk=>by cases hk;omega));have rE:=hid (show w6.ownsMap Tryz.prog 67 Go.unitElem w.heap.size (i+1) (dX (acc++[((n1,t1,x1),(n2,t2,x2),n3,t3,x3)])) by rw [Kl];exact p8);have uq:=hid (dz.out.kept kr (.inr (fun e=>by have:=dz.out.lt _ e;omega)));have gK:=hid (aU.out.map kr (fun p hp=>Np iO.out (aU.out p hp).1));have aV:=hid (dZ.out.map kr (by omega));clear p8 kr c0 c1 c2 c3 c4 c5 c6 c7 c8;have SH1:=hid (fun W=>Ns ((n1,t1,x1),(n2,t2,x2),n3,t3,x3) HT1.out W);have kL:∀ k,u3.ownBlock=some k→w.heap.size+1≤k:=fun k hk=>(uq.out.lt k hk).1;have HOB:=hid kL;clear kL;have iL:=aP.out.size;have hDl:D.length≤1000000:=(by have:=congrArg List.length HD.out;rw [List.length_map] at this;have h2:=Fw L i;rw [←aas.out] at h2;omega);obtain ⟨iS,hi0,⟨zS,bH,aat⟩,bI,bJ⟩:=Z_;have c0:=aV.out.cell (i:=0) rfl;have c1:=aV.out.cell (i:=1) rfl;have c2:=aV.out.cell (i:=2) rfl;have c3:=aV.out.cell (i:=3) rfl;have c4:=aV.out.cell (i:=4) rfl;have c5:=aV.out.cell (i:=5) rfl;have c6:=aV.out.cell (i:=6) rfl;have c7:=aV.out.cell (i:=7) rfl;have c8:=aV.out.cell (i:=8) rfl;go_region_law (first
       | (go_simp;go_at_call 94;refine (SH1.out _).mono ?_;rintro e w7 ⟨b7,rfl,oq,ND,hlow⟩;have dU:=hid ND;have bN:=hid (aA (Below.refl w6.heap.size w6).drew hlow);have k0:=ak bN.out c0;have k1:=ak bN.out c1;have k2:=ak bN.out c2;have k3:=ak bN.out c3;have k4:=ak bN.out c4;have k5:=ak bN.out c5;have k6:=ak bN.out c6;have k7:=ak bN.out c7;have k8:=ak bN.out c8;clear ND hlow)
       | (refine mU (by rfl) (.tmp 29) (.tmp 34) 155 (by rfl) (w.heap.size+1) 158 iS zS 10 144 Tryz.underlying155 hi0 bH bI bJ aat (by decide) u3 D.length (lI D) (by rfl) ((AQ uq.out bN.out).alloc _) ⟨w7.heap.size,0,none⟩ 1 1 (fH (((n1,t1,x1),(n2,t2,x2),n3,t3,x3),b7)) rfl (by rfl) ?c2 ?o2 ?b4 ?b5 ?b6 ?_
          case c2=>exact fun j u hu=>aad w7 (((n1,t1,x1),(n2,t2,x2),n3,t3,x3),b7) _ rfl j u hu
          case o2=>exact Nr _
          case b4=>(unfold maxLen;omega)
          case b5=>omega
          case b6=>(have:=bN.out.size;simp;omega)
          intro v8 w8 g1 g2 g3
          have G1:=hid g1
          have G2:=hid g2
          have G3:=hid g3
          clear g1 g2 g3)
       | fail)
      all_goals
       have FIN:=hid (aae aP.out rE.out gK.out bN.out oq dU.out HOB.out (fun k hk=>(uq.out.lt k hk).2) G1.out G2.out G3.out)
       go_wp2
       go_roundg (n-(i+1))
       case measure=>omega
       case rel=>
        refine ⟨i+1,D++[(((n1,t1,x1),(n2,t2,x2),n3,t3,x3),b7)],by go_num,by omega,by omega,FIN.out.1,?_,FIN.out.2.2.1,FIN.out.2.2.2,?_⟩
        · rw [HST.out,Nq (by rw [←zB FB.out iM.out];exact bR.out.symm)];exact FIN.out.2.1
        · show _=_
          rw [HST.out,Nq (by rw [←zB FB.out iM.out];exact bR.out.symm),List.map_append,HD.out];rfl
    · go_upto_region 10 with (first
       | (show wpList _ _ _ _ _ (aM wr n1 t1 x1 n2 t2 x2 n3 t3 x3);obtain ⟨w4,hw4⟩:∃ w4,w4=aM wr n1 t1 x1 n2 t2 x2 n3 t3 x3:=⟨_,rfl⟩;rw [←hw4] at aI gL HR4 bE aL ⊢;clear hw4;have c0:=aL.out.cell (i:=0) rfl;have c1:=aL.out.cell (i:=1) rfl;have c2:=aL.out.cell (i:=2) rfl;have c3:=aL.out.cell (i:=3) rfl;have c4:=aL.out.cell (i:=4) rfl;have c5:=aL.out.cell (i:=5) rfl;have c6:=aL.out.cell (i:=6) rfl;have c7:=aL.out.cell (i:=7) rfl;have c8:=aL.out.cell (i:=8) rfl)
       | (at_lookup;refine wpList_lookup_own_unit _ rfl _ _ 137 rfl 67 142 nQ Tryz.underlying137 (xI _) w.heap.size i (dX acc) rfl gL.out _ _ rfl HK.out ?_;rw [←bR.out]))
      have aH:=hid (aI.out.alloc aI.out.size (.cells #[] 142));have iO:=hid (Fu (gL.out.alloc (.cells #[] 142)));have dz:=hid (HR4.out.alloc (.cells #[] 142));have aU:=hid (bE.out.keep ((Below.refl _ _).alloc (Nat.le_refl _) (.cells #[] 142)));generalize w4.alloc (.cells #[] 142)=w5 at aH iO dz aU ⊢;go_wp2;go_roundg (n-(i+1))
      (case measure=>omega);case rel=>have e:=aac (show decide (((n1,t1,x1),(n2,t2,x2),n3,t3,x3)∈acc)=true by rw [←zB FB.out iM.out];exact bR.out.symm);refine ⟨i+1,D,by go_num,by omega,by omega,aH.out,?_,dz.out,aU.out,?_⟩;{rw [HST.out,e];exact iO.out};{show _=_;rw [HST.out,e];exact HD.out}
  · obtain rfl:i=n:=(by omega);have hltz:¬ (i:Int)<(i:Int):=(by omega);have e0:L.take i=L:=List.take_of_length_le (by rw [←HN.out];exact Nat.le_refl _);rw [e0] at HD;clear e0 HM;have hDl:D.length≤1000000:=(by have:=congrArg List.length HD.out;rw [List.length_map] at this;have h2:=Fw L L.length;rw [List.take_length] at h2;have:=HN.out;omega);have SO:=hid (aam L HL.out D HD.out (w.heap.size+1) wr u3 HR.out HT.out hDl);(go_wp2_with fail);refine SO.out.mono ?_;rintro e w5 ⟨rfl,S,hsa,NG,xK,hbel⟩;have aH:=hid (hbel w.heap.size w HB.out (by omega) HB.out.size);have HSM:=hid NG;obtain ⟨a5,cap5,hu,hsh⟩:=hsa;subst hu;obtain ⟨N,AV⟩:∃ N,N=S.length:=⟨_,rfl⟩;have FC:=hid hsh;have AX:=hid AV;rw [←xK,←AV] at hDl;rw [←AV];obtain ⟨i0,hi0,hz0,hz1,hz2⟩:=uo;have mk1:∀ W:World,(Instr.makeSlice 39 (.int .i64 (N:Int)) (.int .i64 (N:Int))).run Tryz.prog W=_:=fun W=>run_make W 39 67 i0 _ Tryz.underlying39 hi0 hz0 .i64 .i64 N N (by omega) (by omega) (by rw [hz2];omega) (by omega);rw [hz1] at mk1;clear hsh AV xK NG hbel HR HT HD hi0 hz0 hz1 hz2 HB0 rG;go_wp2;obtain ⟨w6,dh⟩:∃ w6,w6=w5.alloc (.cells (madeCells rF.toArray (N*9)) 67):=⟨_,rfl⟩;rw [←dh];have gM:=hid (show w6.heap.size=w5.heap.size+1 by rw [dh];simp);have aau:=hid (show Below w5.heap.size w5 w6 by rw [dh];exact (Below.refl _ _).alloc (Nat.le_refl _) _);have xO:=hid (show aj w6 w5.heap.size (madeCells rF.toArray (N*9)).toList 67 by rw [dh];exact aj.new' rfl rfl);have HL6:=hid (show (madeCells rF.toArray (N*9)).toList.length=N*9 by simp [madeCells]);generalize (madeCells rF.toArray (N*9)).toList=A0 at *;obtain ⟨b5,hb5⟩:∃ b5,b5=w5.heap.size:=⟨_,rfl⟩;rw [←hb5] at xO;rw [show w5.heap.size=b5 from hb5.symm];have aav:=hid hb5;clear dh mk1 hb5;go_loopg [44] N (fun gk s44 wr=>∃ (i:Nat) (A:List Value),s44=.int .i64 i∧i≤N∧N-i≤gk∧Hid (Below w5.heap.size w5 wr)∧Hid (aj wr b5 A 67)∧Hid (A.length=N*9)∧Hid (AU A S i))
    (case atStart=>exact ⟨0,A0,rfl,Nat.zero_le _,Nat.le_refl _,aau.out,xO.out,HL6.out,fun j _ h=>absurd h (Nat.not_lt_zero _)⟩);case round=>
     obtain ⟨j,A,rfl,hjN,hgj,d9,iY,tT,p9⟩:=hrel;by_cases hj:j<N
     · have hjz:(j:Int)<(N:Int):=(by omega);have NH:j<S.length:=(by rw [←AX.out];exact hj);rcases FC.out with h0 | ⟨g,rfl,hrow⟩;{omega}
       · have HRW:=hid (hrow j NH);clear hrow;obtain ⟨p,hp⟩:∃ p,p=S[j]:=⟨_,rfl⟩;rw [←hp] at HRW;have gX:=hid hp;clear hp;obtain ⟨⟨⟨n1,t1,x1⟩,⟨n2,t2,x2⟩,n3,t3,x3⟩,bb⟩:=p;have k0:=ak d9.out (v:=.int .i64 (n1:Nat)) (HRW.out 0 (by omega));have k1:=ak d9.out (v:=str t1) (HRW.out 1 (by omega));have k2:=ak d9.out (v:=str x1) (HRW.out 2 (by omega));have k3:=ak d9.out (v:=.int .i64 (n2:Nat)) (HRW.out 3 (by omega));have k4:=ak d9.out (v:=str t2) (HRW.out 4 (by omega));have k5:=ak d9.out (v:=str x2) (HRW.out 5 (by omega));have k6:=ak d9.out (v:=.int .i64 (n3:Nat)) (HRW.out 6 (by omega));have k7:=ak d9.out (v:=str t3) (HRW.out 7 (by omega));have k8:=ak d9.out (v:=str x3) (HRW.out 8 (by omega));have k9:=ak d9.out (v:=.slice (some ⟨bb,0,none⟩) 3 3) (HRW.out 9 (by omega));have gH:=d9.out.size;have bN:=hid (show Below w5.heap.size w5 (xM wr n1 t1 x1 n2 t2 x2 n3 t3 x3 bb) from d9.out.alloc gH _);have gN:=hid (show aj (xM wr n1 t1 x1 n2 t2 x2 n3 t3 x3 bb) b5 A 67 from iY.out.alloc _);have dU:=hid (show aj (xM wr n1 t1 x1 n2 t2 x2 n3 t3 x3 bb) wr.heap.size [.int .i64 (n1:Nat),str t1,str x1,.int .i64 (n2:Nat),str t2,str x2,.int .i64 (n3:Nat),str t3,str x3,.slice (some ⟨bb,0,none⟩) 3 3] 158 from aj.new' rfl rfl);have TO:=hid (aaq p9.out NH (by rw [tT.out,AX.out]) gX.out.symm);simp only [Nat.add_zero] at k0;(go_upto_region 16 with (show wpList _ _ _ _ _ (xM wr n1 t1 x1 n2 t2 x2 n3 t3 x3 bb);obtain ⟨w7,hw7⟩:∃ w7,w7=xM wr n1 t1 x1 n2 t2 x2 n3 t3 x3 bb:=⟨_,rfl⟩;rw [←hw7] at bN gN dU ⊢;clear hw7));have NI:=tT.out;have ou:=hid NI;have xP:j*9+9≤A.length:=(by omega);clear NI;have m0:=dU.out.cell (i:=0) rfl;have d0:=gN.out.cell (i:=j*9) (v:=A[j*9]) (List.getElem?_eq_getElem (by omega));have f0:=gN.out.free (j*9);generalize A[j*9]=z0 at d0;have m1:=dU.out.cell (i:=1) rfl;have d1:=gN.out.cell (i:=j*9+1) (v:=A[j*9+1]) (List.getElem?_eq_getElem (by omega));have f1:=gN.out.free (j*9+1);generalize A[j*9+1]=z1 at d1;have m2:=dU.out.cell (i:=2) rfl;have d2:=gN.out.cell (i:=j*9+2) (v:=A[j*9+2]) (List.getElem?_eq_getElem (by omega));have f2:=gN.out.free (j*9+2);generalize A[j*9+2]=z2 at d2;have m3:=dU.out.cell (i:=3) rfl;have d3:=gN.out.cell (i:=j*9+3) (v:=A[j*9+3]) (List.getElem?_eq_getElem (by omega));have f3:=gN.out.free (j*9+3);generalize A[j*9+3]=z3 at d3;have m4:=dU.out.cell (i:=4) rfl;have d4:=gN.out.cell (i:=j*9+4) (v:=A[j*9+4]) (List.getElem?_eq_getElem (by omega));have f4:=gN.out.free (j*9+4);generalize A[j*9+4]=z4 at d4;have m5:=dU.out.cell (i:=5) rfl;have d5:=gN.out.cell (i:=j*9+5) (v:=A[j*9+5]) (List.getElem?_eq_getElem (by omega));have f5:=gN.out.free (j*9+5);generalize A[j*9+5]=z5 at d5;have m6:=dU.out.cell (i:=6) rfl;have d6:=gN.out.cell (i:=j*9+6) (v:=A[j*9+6]) (List.getElem?_eq_getElem (by omega));have f6:=gN.out.free (j*9+6);generalize A[j*9+6]=z6 at d6;have m7:=dU.out.cell (i:=7) rfl;have d7:=gN.out.cell (i:=j*9+7) (v:=A[j*9+7]) (List.getElem?_eq_getElem (by omega));have f7:=gN.out.free (j*9+7);generalize A[j*9+7]=z7 at d7;have m8:=dU.out.cell (i:=8) rfl;have d8:=gN.out.cell (i:=j*9+8) (v:=A[j*9+8]) (List.getElem?_eq_getElem (by omega));have f8:=gN.out.free (j*9+8);generalize A[j*9+8]=z8 at d8;clear xP;have eG:=hid (show w5.heap.size≤b5 by rw [aav.out];exact Nat.le_refl _);(go_wp2_with fail);obtain ⟨w8,hw8⟩:∃ w8,w8=(((((((((w7.setCell ⟨b5,j*9,none⟩ (.int .i64 (n1:Nat))).setCell ⟨b5,j*9+1,none⟩ (str t1)).setCell ⟨b5,j*9+2,none⟩ (str x1)).setCell ⟨b5,j*9+3,none⟩ (.int .i64 (n2:Nat))).setCell ⟨b5,j*9+4,none⟩ (str t2)).setCell ⟨b5,j*9+5,none⟩ (str x2)).setCell ⟨b5,j*9+6,none⟩ (.int .i64 (n3:Nat))).setCell ⟨b5,j*9+7,none⟩ (str t3)).setCell ⟨b5,j*9+8,none⟩ (str x3)):=⟨_,rfl⟩;have aD:=hid (show Below w5.heap.size w5 w8 by rw [hw8];exact (((((((((bN.out.setCell eG.out _).setCell eG.out _).setCell eG.out _).setCell eG.out _).setCell eG.out _).setCell eG.out _).setCell eG.out _).setCell eG.out _).setCell eG.out _));have aaw:=hid (show aj w8 b5 (xL A (j*9) (.int .i64 (n1:Nat)) (str t1) (str x1) (.int .i64 (n2:Nat)) (str t2) (str x2) (.int .i64 (n3:Nat)) (str t3) (str x3)) 67 by rw [hw8];exact (((((((((gN.out.set (j*9) (.int .i64 (n1:Nat))).set (j*9+1) (str t1)).set (j*9+2) (str x1)).set (j*9+3) (.int .i64 (n2:Nat))).set (j*9+4) (str t2)).set (j*9+5) (str x2)).set (j*9+6) (.int .i64 (n3:Nat))).set (j*9+7) (str t3)).set (j*9+8) (str x3)));rw [←hw8];clear hw8;go_wp2;go_roundg (N-(j+1))
         (case measure=>omega);case rel=>exact ⟨j+1,_,by go_num,by omega,by omega,aD.out,aaw.out,by show _=_;rw [aao];exact ou.out,TO.out⟩
     {have hjz:¬ (j:Int)<(N:Int):=(by omega);have aax:j=N:=(by omega);subst aax;go_wp2;go_ret;refine ⟨_,rfl,aar iY.out (by rw [←AX.out];exact p9.out) HSM.out AX.out.symm (by unfold maxLen;omega),?_⟩;exact aH.out.trans (d9.out.mono aH.out.size)}
end Go.Proofs.YtjaebndajhppgaaGreatDoor
