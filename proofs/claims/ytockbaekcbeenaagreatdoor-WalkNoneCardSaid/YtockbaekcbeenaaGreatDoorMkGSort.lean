/-GSort-/
import Derived.Test.YtockbaekcbeenaaGreatDoorMkHd1
import Derived.Test.YtockbaekcbeenaaGreatDoorMkGSt
import Derived.Test.YtockbaekcbeenaaGreatDoorMkGTri
set_option linter.unusedVariables false
set_option linter.unusedSimpArgs false
set_option maxRecDepth 100000
set_option maxHeartbeats 8000000
namespace Go.Proofs.YtockbaekcbeenaaGreatDoor
open Go.Proofs.Tryz
open Go.ChangeShapes Go.WideShapes Go.ChangeAt Go.RowKit Go.Sort Go.Lib
section
variable {α:Type} [Inhabited α] {enc:α→List Value} {cf:α→α→Int} {w:World} {blk off:Nat}
theorem Rm (enc:α→List Value) (k:Nat) (w:World) (blk off m n:Nat) (dk d':Array α) (os os':Array Obj) (hb:blk<w.heap.size) (h:d'.size=dk.size) :
  sortWorldK enc k (sortWorldK enc k w blk off m dk os) blk off n d' os'=sortWorldK enc k w blk off (m+n) d' (os++os'):=by unfold sortWorldK;exact grow_step_growK enc k w os os' m n blk off dk d' hb h
theorem acF (hk:∀ x,(enc x).length=10) (h1:∀ x,∀ v∈enc x,v.oneCell'=true) (hS:SWO (ltOf cf)) (d:Array α) (g:Nat) (cb:Array Value) (eg:∀ args w,(callFunc g args).run prog w=.ok (.enter g args) w) (hcmp:CmpLays prog g cb enc 10 cf blk off d.size w) (hH:HoldsK enc 10 w blk off d) (hblk:blk<w.heap.size) (hsz:d.size<4611686018427387904)
  (cap a b m:Nat) (dk:Array α) (os:Array Obj) (hs:dk.size=d.size) (hab:a≤b) (hb:b≤d.size) :
  Calls prog 165 #[.slice (some ⟨blk,off,none⟩) d.size cap,.int .i64 a,.int .i64 b,.func (.func g) #[] cb] (sortWorldK enc 10 w blk off m dk os) fun e w'=>
   e=.returned (.tuple #[])∧∃ m' os',w'=sortWorldK enc 10 w blk off m' (Sort.insertionSort (ltOf cf) dk a b) os':=by have hz:=size_sortWorldK_c enc 10 w blk off m dk os;have h:=AnyQ.insertionSortCmpFunc Tryz.insShown 10 isAgg193 sizeOf193 enc hk h1 cf g cb blk off cap a b dk (sortWorldK enc 10 w blk off m dk os) eg (fun m2 os2 d2 hd2 x y=>by rw [Rm enc 10 w blk off m m2 dk d2 os os2 hblk hd2];exact hcmp _ _ d2 (hd2.trans hs) x y) (holdsK_sortWorldK_c enc 10 w blk off d dk m os hH hblk hs) ay hab ay ay;change Calls prog 165 _ _ _ at h;rw [hs] at h;refine h.mono ?_;rintro e w' ⟨rfl,n,os',rfl⟩;refine ⟨rfl,m+n,os++os',?_⟩;rw [Rm enc 10 w blk off m n dk _ os os' hblk ?_];exact (insertionSort_holds hS dk a b hab ay).1.1
theorem acG (hk:∀ x,(enc x).length=10) (h1:∀ x,∀ v∈enc x,v.oneCell'=true) (hS:SWO (ltOf cf)) (d:Array α) (g:Nat) (cb:Array Value) (eg:∀ args w,(callFunc g args).run prog w=.ok (.enter g args) w) (hcmp:CmpLays prog g cb enc 10 cf blk off d.size w) (hH:HoldsK enc 10 w blk off d) (hblk:blk<w.heap.size) (hsz:d.size≤1000000000) (cap:Nat) :
  Calls prog 130 #[.slice (some ⟨blk,off,none⟩) d.size cap,.int .i64 d.size,.func (.func g) #[] cb] w fun e w'=>
   e=.returned (.tuple #[])∧∃ m' d',(∃ os',w'=sortWorldK enc 10 w blk off m' d' os')∧d'.size=d.size∧PermIn 0 d.size d d'∧SortedIn (ltOf cf) 0 d.size d':=by
 have IN:=aj (fun a b m dk os hs hab hb=>acF hk h1 hS d g cb eg hcmp hH hblk ay cap a b m dk os hs hab hb);have SY:=aj (fun a mid b m dk os hs h2 h3 h4 h5 h6=>Rl acy hk h1 hS d g cb eg hcmp hH hblk ay (b-a) a mid b m cap dk os aG hs h2 h3 h4 h5 h6);have SW:=aj hS;have HW0:=aj (show w=sortWorldK enc 10 w blk off 0 d #[] by unfold sortWorldK;rw [grow_empty];exact (putRowK_self enc 10 w blk off d hH).symm);clear hcmp hH hk h1 hS;obtain ⟨n,hn⟩:=aC d.size;rw [←hn] at IN SY hsz ⊢;have HN:=aj hn;clear hn;go_enter func130,ntmps130;go_wp2;go_loopg [7,8] (n+1) (fun gg v7 v8 wr=>∃ (q A m':Nat) (dk:Array α) (os':Array Obj),v7=.int .i64 A∧v8=.int .i64 ((A+20:Nat):Int)∧A≤n∧n+1-A≤gg∧Hid (A=q*20)∧Hid (wr=sortWorldK enc 10 w blk off m' dk os')∧Hid (dk.size=n)∧Hid (PermIn 0 n d dk)∧Hid (St.aB (ltOf cf) 20 A dk))
 case atStart=>exact ⟨0,0,0,d,#[],aN,aN,Nat.zero_le _,Nat.le_refl _,by show _=_;rfl,HW0.out,HN.out.symm,permIn_refl _ _ _,fun q i j h1 h2 h3=>ay⟩
 case round=>
  obtain ⟨q,A,m',dk,os',rfl,rfl,hAn,hg,HA,HW,HZ,HP,HB⟩:=hrel;by_cases hlt:A+20≤n
  · have hltz:(A:Int)+20≤(n:Int):=ay;have w1:IntKind.i64.wrap ((A:Int)+20+20)=(A:Int)+20+20:=(by rw [IntKind.wrap_i64];omega);have Bq:=aj (IN.out A (A+20) m' dk os' (HZ.out) ay hlt);rw [←HW.out] at Bq;(go_wp2_with fail);refine Bq.out.mono ?_;rintro e w3 ⟨rfl,m3,os3,hw3⟩;have HW3:=aj hw3;clear hw3;have HI:=aj (insertionSort_holds SW.out dk A (A+20) ay (by have:=HZ.out;omega));go_wp2;go_roundg (n-A)
    (case measure=>omega);case rel=>refine ⟨q+1,A+20,m3,_,os3,aN,aN,hlt,ay,by show _=_;have:=HA.out;omega,HW3.out,HI.out.1.1.trans HZ.out,permIn_trans _ _ _ _ _ HP.out (permIn_mono _ _ A (A+20) 0 n (Nat.zero_le _) hlt (by have:=HZ.out;omega) HI.out.1),?_⟩;have hA:=HA.out;have hB:=HB.out;have hI:=HI.out;show St.aB _ _ _ _;rw [hA] at hB hI ⊢;exact St.Bh hB aG hI.1 hI.2
  · have hltz:¬ (A:Int)+20≤(n:Int):=ay;have Bq:=aj (IN.out A n m' dk os' (HZ.out) hAn aG);rw [←HW.out] at Bq;(go_wp2_with fail);refine Bq.out.mono ?_;rintro e w3 ⟨rfl,m3,os3,hw3⟩;have HW3:=aj hw3;clear hw3;have HI:=aj (insertionSort_holds SW.out dk A n hAn (by have:=HZ.out;omega));have oL:=aj (permIn_trans _ _ _ _ _ HP.out (permIn_mono _ _ A n 0 n (Nat.zero_le _) aG (by have:=HZ.out;omega) HI.out.1));have HZ3:=aj (HI.out.1.1.trans HZ.out);have HB3:=aj (show St.aB (ltOf cf) 20 n (insertionSort (ltOf cf) dk A n) by have hA:=HA.out;have hB:=HB.out;have hI:=HI.out;rw [hA] at hB hI ⊢;exact St.Bh hB ay hI.1 hI.2);clear HI HB HP HZ HW HA;obtain ⟨d3,hd3⟩:=aC (insertionSort (ltOf cf) dk A n);rw [←hd3] at HW3 oL HZ3 HB3;clear hd3;go_wp2;go_loopg [6] (n-20+1) (fun gg v6 wr=>∃ (s m':Nat) (dk:Array α) (os':Array Obj),v6=.int .i64 s∧20≤s∧n-s+1≤gg∧s≤2*n+20∧Hid (wr=sortWorldK enc 10 w blk off m' dk os')∧Hid (dk.size=n)∧Hid (PermIn 0 n d dk)∧Hid (St.aB (ltOf cf) s n dk))
    (case atStart=>exact ⟨20,m3,d3,os3,aN,Nat.le_refl _,Nat.le_refl _,ay,HW3.out,HZ3.out,oL.out,HB3.out⟩);case round=>
     obtain ⟨s,m4,d4,rY,rfl,ahA,hg4,hs2,wh,Bo,lK,aP⟩:=hrel;by_cases hsn:s<n
     · have acH:(s:Int)<(n:Int):=ay;obtain ⟨t,ht⟩:=aC (2*s);have et:2*(s:Int)=(t:Int):=ay;have et2:(s:Int)*2=(t:Int):=ay;have wt:IntKind.i64.wrap (t:Int)=(t:Int):=(by rw [IntKind.wrap_i64];omega);have HT:=aj ht;have ht1:t≤2*n:=ay;clear ht;go_wp2;go_loopg [7,8] (n+1) (fun gg v7 v8 wr=>∃ (q A B m':Nat) (dk:Array α) (os':Array Obj),v7=.int .i64 A∧v8=.int .i64 B∧A≤n∧n+1-A≤gg∧Hid (A=q*(2*s)∧B=A+t)∧Hid (wr=sortWorldK enc 10 w blk off m' dk os')∧Hid (dk.size=n)∧Hid (PermIn 0 n d dk)∧Hid (St.Half (ltOf cf) s q n dk))
       (case atStart=>exact ⟨0,0,t,m4,d4,rY,aN,aN,Nat.zero_le _,Nat.le_refl _,by show _∧_;exact ⟨ay,ay⟩,wh.out,Bo.out,lK.out,St.half_start aP.out⟩);case round=>
        obtain ⟨q,A,B,m5,d5,Bp,rfl,rfl,ahB,hg5,mV,J9,Br,nN,aQ⟩:=hrel;obtain ⟨M,hM⟩:=aC (A+s);have eM:(A:Int)+(s:Int)=(M:Int):=ay;have wM:IntKind.i64.wrap (M:Int)=(M:Int):=(by rw [IntKind.wrap_i64];omega);have HM:=aj hM;clear hM;by_cases J_:B≤n
        · have acI:(B:Int)≤(n:Int):=ay;obtain ⟨B2,hB2⟩:=aC (B+t);have eB2:(B:Int)+(t:Int)=(B2:Int):=ay;have wB2:IntKind.i64.wrap (B2:Int)=(B2:Int):=(by rw [IntKind.wrap_i64];omega);have HB2:=aj hB2;clear hB2;have Bt:=aj (St.acr aQ.out (by have:=mV.out;have:=HT.out;omega));have Bu:=aj (SY.out A M B m5 d5 Bp Br.out (by have:=HM.out;omega) (by have:=HM.out;have:=mV.out;have:=HT.out;omega) J_
           (by have h:=Bt.out.1;rw [HM.out,mV.out.1];exact h) (by have h:=Bt.out.2;rw [HM.out,mV.out.2,mV.out.1,HT.out];exact h))
          rw [←J9.out] at Bu;(go_wp2_with fail);refine Bu.out.mono ?_;rintro e w6 ⟨rfl,m6,d6,⟨Ka,eP⟩,je,kW,hs6⟩;have H6:=aj (And.intro eP (And.intro je (And.intro kW hs6)));clear eP je kW hs6;go_wp2;go_roundg (n-A)
          (case measure=>omega);case rel=>have Bv:=mV.out;have hT:=HT.out;have h6:=H6.out;refine ⟨q+1,B,B2,m6,d6,Ka,rfl,rfl,J_,ay,by show _∧_;refine ⟨?_,by have:=HB2.out;omega⟩;rw [Nat.add_mul];omega,h6.1,h6.2.1,permIn_trans _ _ _ _ _ nN.out (permIn_mono _ _ A B 0 n (Nat.zero_le _) J_ (by have:=Br.out;omega) h6.2.2.1),?_⟩;have hp:=h6.2.2.1;have hs:=h6.2.2.2;rw [Bv.2,Bv.1,hT] at hp hs;exact St.acs aQ.out hp hs
        · have acI:¬ (B:Int)≤(n:Int):=ay;by_cases wu:M<n
          · have acJ:(M:Int)<(n:Int):=ay;have Bt:=aj (St.acu aQ.out (by have:=mV.out;have:=HM.out;omega) (by have:=mV.out;have:=HT.out;omega));have Bu:=aj (SY.out A M n m5 d5 Bp Br.out (by have:=HM.out;omega) wu aG
             (by have h:=Bt.out.1;rw [HM.out,mV.out.1];exact h) (by have h:=Bt.out.2;rw [HM.out,mV.out.1];exact h))
            rw [←J9.out] at Bu;(go_wp2_with fail);refine Bu.out.mono ?_;rintro e w6 ⟨rfl,m6,d6,⟨Ka,eP⟩,je,kW,hs6⟩;have H6:=aj (And.intro eP (And.intro je (And.intro kW hs6)));clear eP je kW hs6;go_wp2;go_roundg (n-t+1)
            (case measure=>have:=HT.out;omega);case rel=>have Bv:=mV.out;have hT:=HT.out;have h6:=H6.out;refine ⟨t,m6,d6,Ka,rfl,ay,ay,ay,h6.1,h6.2.1,permIn_trans _ _ _ _ _ nN.out (permIn_mono _ _ A n 0 n (Nat.zero_le _) aG (by have:=Br.out;omega) h6.2.2.1),?_⟩;have hp:=h6.2.2.1;have hs:=h6.2.2.2;rw [Bv.1] at hp hs;show St.aB _ _ _ _;rw [hT];exact St.acw aQ.out ay hp hs
          · have acJ:¬ (M:Int)<(n:Int):=ay;go_wp2;go_roundg (n-t+1)
            (case measure=>have:=HT.out;omega);case rel=>have Bv:=mV.out;have hT:=HT.out;have hM:=HM.out;refine ⟨t,m5,d5,Bp,rfl,ay,ay,ay,J9.out,Br.out,nN.out,?_⟩;show St.aB _ _ _ _;rw [hT];exact St.acv aQ.out ay ay
     · have acH:¬ (s:Int)<(n:Int):=ay;go_wp2;go_end0
       exact ⟨rfl,m4,d4,⟨rY,wh.out⟩,Bo.out,lK.out,St.acp aP.out ay⟩
theorem acK (hk:∀ x,(enc x).length=10) (h1:∀ x,∀ v∈enc x,v.oneCell'=true) (hS:SWO (ltOf cf)) (d:Array α) (g:Nat) (cb:Array Value) (eg:∀ args w,(callFunc g args).run prog w=.ok (.enter g args) w) (hcmp:CmpLays prog g cb enc 10 cf blk off d.size w) (hH:HoldsK enc 10 w blk off d) (hblk:blk<w.heap.size) (hsz:d.size≤1000000000) (cap:Nat) :
  Calls prog 103 #[.slice (some ⟨blk,off,none⟩) d.size cap,.func (.func g) #[] cb] w fun e w'=>
   e=.returned (.tuple #[])∧∃ m' d',(∃ os',w'=sortWorldK enc 10 w blk off m' d' os')∧d'.size=d.size∧PermIn 0 d.size d d'∧SortedIn (ltOf cf) 0 d.size d':=by
 have ST:=aj (acG hk h1 hS d g cb eg hcmp hH hblk hsz cap);clear hcmp hH hk h1 hS;go_enter func103,ntmps103;go_wp2_with fail
 refine ST.out.mono ?_;rintro e w6 ⟨rfl,m6,d6,eP,je,kW,hs6⟩;have H6:=aj (And.intro eP (And.intro je (And.intro kW hs6)));clear eP je kW hs6;go_wp2;go_end0
 exact ⟨rfl,m6,d6,H6.out.1,H6.out.2.1,H6.out.2.2.1,H6.out.2.2.2⟩
end
theorem acL (a:Option Addr) (c:Nat) (f:Value) (w:World):Calls prog 165 #[.slice a 0 c,.int .i64 0,.int .i64 0,f] w fun e w'=>e=.returned (.tuple #[])∧w'=w:=by
 go_enter func165,ntmps165;go_wp2;refine wp_loop_rounds 1 ?_;rw [rounds_succ];go_wp2;go_end0
 exact ⟨rfl,rfl⟩
theorem acM (a:Option Addr) (c:Nat) (f:Value) (w:World):Calls prog 130 #[.slice a 0 c,.int .i64 0,f] w fun e w'=>e=.returned (.tuple #[])∧w'=w:=by
 have IN:=aj (fun w=>acL a c f w);go_enter func130,ntmps130;go_wp2;refine wp_loop_rounds 1 ?_;rw [rounds_succ];go_wp2_with fail
 refine (IN.out _).mono ?_;rintro e w1 ⟨rfl,hw⟩;subst hw;go_wp2;refine wp_loop_rounds 1 ?_;rw [rounds_succ];go_wp2;go_end0
 exact ⟨rfl,rfl⟩
theorem Rn (a:Option Addr) (c:Nat) (f:Value) (w:World):Calls prog 103 #[.slice a 0 c,f] w fun e w'=>e=.returned (.tuple #[])∧w'=w:=by
 have IN:=aj (fun w=>acM a c f w);go_enter func103,ntmps103;go_wp2_with fail
 refine (IN.out _).mono ?_;rintro e w1 ⟨rfl,hw⟩;subst hw;go_wp2;go_end0
 exact ⟨rfl,rfl⟩
theorem acN (f:Value) (w:World):Calls prog 103 #[.slice none 0 0,f] w fun e w'=>e=.returned (.tuple #[])∧w'=w:=Rn none 0 f w
open Go.ChangeShapes Go.WideShapes Go.ChangeAt Go.RowKit
theorem Bw (w:World):(zeroValue 149).run prog w=.ok (.agg #[]) w:=aF
theorem FB {w w':World} {b n:Nat} {D:DataW Unit} (h:w.ownsMap prog 65 Go.unitElem b n D) (hb:Below w.heap.size w w'):w'.ownsMap prog 65 Go.unitElem b n D:=
 h.kept (row:=none) ⟨hb.os,hb.tape,hb.output,hb.size,fun k hk _=>hb.block k hk⟩ aH
theorem FE {w w':World} {B n sz:Nat} {t:TypeId} {v:Value} {xs:List Value} (h:w.ownsRow B t sz v n xs) (hb:Below w.heap.size w w'):w'.ownsRow B t sz v n xs:=
 h.kept (row:=none) ⟨hb.os,hb.tape,hb.output,hb.size,fun k hk _=>hb.block k hk⟩ (by cases v.ownBlock <;> simp)
theorem Bz {t:TR} (h:Tm.bf t=true):rQ t:=by obtain ⟨_,_,a1,a2,a3⟩:=Tm.rR h;have b1:=Tm.iV a1;have b2:=Tm.iV a2;have b3:=Tm.iV a3;obtain ⟨n1,e1,_,f1⟩:=Tm.iD a1;obtain ⟨n2,e2,_,f2⟩:=Tm.iD a2;obtain ⟨n3,e3,_,f3⟩:=Tm.iD a3;exact ⟨⟨ay,ay,ay⟩,⟨ay,ay,ay⟩,ay,ay,ay⟩
def rZ (t:TR):List Value:=[aA (Tm.aO t.1.1 t.1.2.1 t.1.2.2),aA (Tm.aO t.2.1.1 t.2.1.2.1 t.2.1.2.2),aA (Tm.aO t.2.2.1 t.2.2.2.1 t.2.2.2.2)]
def g_ (p:TR×Nat):List Value:=(aY p.1).cells++[.slice (some ⟨p.2,0,none⟩) 3 3]
def oM (D:List (TR×Nat)):List Value:=D.flatMap g_
theorem acO (D:List (TR×Nat)) (p:TR×Nat):oM (D++[p])=oM D++g_ p:=by simp [oM]
theorem uy (p:TR×Nat):(g_ p).length=10:=rfl
def jY (w:World) (v:Value) (D:List (TR×Nat)):Prop:=∀ p∈D,aB w p.2 (rZ p.1) 9∧v.ownBlock≠some p.2
theorem jY.keep {w w':World} {v:Value} {D:List (TR×Nat)} (h:jY w v D) (hb:Below w.heap.size w w'):jY w' v D:=fun p hp=>⟨(h p hp).1.keep hb,(h p hp).2⟩
theorem jY.moved {w w':World} {v v':Value} {D:List (TR×Nat)} (h:jY w v D) (hg:w.grownBy w' v.ownBlock) (hm:Moved w v v'):jY w' v' D:=fun p hp=>by obtain ⟨h1,h2⟩:=h p hp;have hlt:=h1.lt;refine ⟨?_,?_⟩;{unfold aB at h1 ⊢;rw [hg.block p.2 hlt (fun e=>h2 e.symm)];exact h1};{rcases hm with e | ⟨k,e,hk⟩;{rw [e];exact h2};{rw [e];intro h;cases h;omega}}
theorem jY.snoc {w:World} {v:Value} {D:List (TR×Nat)} (h:jY w v D) {p:TR×Nat} (h1:aB w p.2 (rZ p.1) 9) (h2:v.ownBlock≠some p.2):jY w v (D++[p]):=fun q hq=>by rcases List.mem_append.1 hq with hq | hq;{exact h q hq};{rw [List.mem_singleton.1 hq];exact ⟨h1,h2⟩}
theorem acP:∃ i,prog.info? 193=some i∧(∃ z,i.zero=some z∧z.cells.size=10)∧i.size=10∧i.bytes=144:=by have h:(prog.info? 193).map (fun i=>(i.zero.map (fun z=>z.cells.size),i.size,i.bytes))=some (some 10,10,144):=aF;obtain ⟨i,hi,h⟩:=Option.map_eq_some_iff.1 h;simp only [Prod.mk.injEq] at h;obtain ⟨z,hz,hz2⟩:=Option.map_eq_some_iff.1 h.1;exact ⟨i,hi,⟨z,hz,hz2⟩,h.2.1,h.2.2⟩
theorem Ro {w:World} {b n:Nat} {D:DataW Unit} (h:w.ownsMap prog 65 Go.unitElem b n D) {p:Nat} {A:List Value} {t:TypeId} (hp:aB w p A t):p≠b:=by obtain ⟨es,clock,hb,_⟩:=h;unfold aB at hp;rintro rfl;rw [hp] at hb;cases hb
theorem jY.map {w w':World} {v:Value} {D:List (TR×Nat)} {b:Nat} (h:jY w v D) (hg:w.grownBy w' (some b)) (hb:∀ p∈D,p.2≠b):jY w' v D:=fun p hp=>by obtain ⟨h1,h2⟩:=h p hp;have hlt:=h1.lt;refine ⟨?_,h2⟩;unfold aB at h1 ⊢;rw [hg.block p.2 hlt (fun e=>hb p hp (Option.some.inj e))];exact h1
theorem aB.map {w w':World} {b q:Nat} {A:List Value} {t:TypeId} (h:aB w q A t) (hg:w.grownBy w' (some b)) (hb:q≠b):aB w' q A t:=by have hlt:=h.lt;unfold aB at h ⊢;rw [hg.block q hlt (fun e=>hb (Option.some.inj e))];exact h
theorem Rp {acc:List TR} {t:TR} (h:decide (t∈acc)=false):Tm.jw acc t=acc++[t]:=by unfold Tm.jw;rw [if_neg (of_decide_eq_false h)]
theorem acQ {acc:List TR} {t:TR} (h:decide (t∈acc)=true):Tm.jw acc t=acc:=by unfold Tm.jw;rw [if_pos (of_decide_eq_true h)]
theorem Rq (p:TR×Nat):∀ u∈g_ p,u.oneCell'=true:=by intro u hu;simp [g_,dD.cells,aY] at hu;rcases hu with rfl | rfl | rfl | rfl | rfl | rfl | rfl | rfl | rfl | rfl <;> rfl
theorem acR (W:World) (p:TR×Nat):∀ ad,some (⟨W.heap.size,0,none⟩:Addr)=some ad→∀ j u,(g_ p)[j]?=some u→(W.alloc (.cells (g_ p).toArray 193)).cell? (ad.add j)=some u:=by intro ad had j u hu;cases had;rw [lG rfl,Nat.zero_add,kK,←Array.getElem?_toList];exact hu
theorem acS (t:TR) (h:Tm.bf t=true) (W:World):Calls prog 102 #[rP t] W fun e w'=>∃ b,e=.returned (.slice (some ⟨b,0,none⟩) 3 3)∧W.heap.size≤b∧aB w' b (rZ t) 9∧Below W.heap.size W w':=by obtain ⟨_,_,a1,a2,a3⟩:=Tm.rR h;obtain ⟨n1,e1,f1,g1⟩:=Tm.iD a1;obtain ⟨n2,e2,f2,g2⟩:=Tm.iD a2;obtain ⟨n3,e3,f3,g3⟩:=Tm.iD a3;have b1:=Tm.iV a1;have b2:=Tm.iV a2;have b3:=Tm.iV a3;have:=Qc (t.1.1:Nat) t.1.2.1 t.1.2.2 (t.2.1.1:Nat) t.2.1.2.1 t.2.1.2.2 (t.2.2.1:Nat) t.2.2.2.1 t.2.2.2.2 W ay ay ay ay ay ay;rw [Tm.Er ay,Tm.Er ay,Tm.Er ay] at this;exact this
theorem Kc {w:World} {b n:Nat} {D:DataW Unit} (h:w.ownsMap prog 65 Go.unitElem b n D):w.ownsMap prog 65 Go.unitElem b (n+1) D:=by obtain ⟨es,clock,hb,F,hs,hD⟩:=h;exact ⟨es,clock,hb,F,ay,hD⟩
theorem acT {w w6 w7 w8:World} {u3 v8:Value} {n1:Nat} {M:DataW Unit} {D:List (TR×Nat)} {t:TR} {b7:Nat} {o:Obj} (aR:Below w.heap.size w w6) (oN:w6.ownsMap prog 65 Go.unitElem w.heap.size n1 M) (mW:jY w6 u3 D) (aZ:Below w6.heap.size w6 w7) (gD:w6.heap.size≤b7) (iH:aB w7 b7 (rZ t) 9)
  (nO:∀ k,u3.ownBlock=some k→w.heap.size+1≤k) (hol:∀ k,u3.ownBlock=some k→k<w6.heap.size) (G1:w8.ownsRow (w.heap.size+1) 193 10 v8 (D.length+1) (oM D++g_ (t,b7))) (G2:(w7.alloc o).grownBy w8 u3.ownBlock) (G3:Moved (w7.alloc o) u3 v8) :
  Below w.heap.size w w8∧w8.ownsMap prog 65 Go.unitElem w.heap.size n1 M∧w8.ownsRow (w.heap.size+1) 193 10 v8 (D++[(t,b7)]).length (oM (D++[(t,b7)]))∧jY w8 v8 (D++[(t,b7)]):=by have FH:=aI aR aZ;refine ⟨(FH.alloc FH.size o).grown G2 (by have:=FH.size;simp;omega) (fun k hk=>by have:=nO k hk;omega),((FB oN aZ).alloc o).kept G2 (fun e=>by have:=nO _ e.symm;omega),?_,?_⟩;{rw [List.length_append,acO];exact G1};{have h1:jY (w7.alloc o) u3 D:=(mW.keep aZ).keep ((Below.refl _ _).alloc aG _);exact (h1.snoc (p:=(t,b7)) (iH.alloc o) (fun e=>by have:=hol _ e;omega)).moved G2 G3}
theorem acU {L:List TR} {i:Nat} (hi:i<L.length):Tm.iE [] (L.take (i+1))=Tm.jw (Tm.iE [] (L.take i)) L[i]:=by rw [List.take_add_one,List.getElem?_eq_getElem hi];unfold Tm.iE;rw [List.foldl_append];rfl
theorem Ke (L:List TR) (i:Nat):(Tm.iE [] (L.take i)).length≤i:=by
 have:∀ (l a:List TR),(Tm.iE a l).length≤a.length+l.length:=by
  intro l;induction l with
  | nil=>intro a;simp [Tm.iE]
  | cons t l ih=>intro a;have h1:=ih (Tm.jw a t);have h2:=Tm.Qt a t;show (Tm.iE (Tm.jw a t) l).length≤_;rw [List.length_cons];omega
 have h:=this (L.take i) [];have h2:=List.length_take_le i L;simp only [List.length_nil] at h;omega
open Go.Sort Go.Lib
theorem Rs:∀ (D:List (TR×Nat)) (i c:Nat) (hi:i<D.length),c<10→(oM D)[i*10+c]?=(g_ D[i])[c]?
 | [],i,c,hi,_=>by simp at hi
 | p::D,0,c,hi,hc=>by
  show (g_ p++oM D)[0*10+c]?=_
  rw [List.getElem?_append_left (by rw [uy];omega),Nat.zero_mul,Nat.zero_add];rfl
 | p::D,i+1,c,hi,hc=>by
  show (g_ p++oM D)[(i+1)*10+c]?=_
  rw [List.getElem?_append_right (by rw [uy];omega),uy,show (i+1)*10+c-10=i*10+c by omega]
  exact Rs D i c (by simpa using hi) hc
theorem Rt {α:Type} [Inhabited α] (enc:α→List Value) (k:Nat) {w:World} {blk off n j:Nat} {d:Array α} {os:Array Obj} (hk:j<w.heap.size) (hne:j≠blk):(sortWorldK enc k w blk off n d os).heap[j]?=w.heap[j]?:=by unfold sortWorldK;rw [Go.Sort.heap_grow_old _ _ (by show j<(putRow id (Go.Sort.ahead w n) blk off _).heap.size;simp [putRow,mapBlock,Go.Sort.ahead];exact hk)];show (putRow id (Go.Sort.ahead w n) blk off _).heap[j]?=_;simp only [putRow,mapBlock,Array.getElem?_modify];rw [if_neg (fun e=>hne e.symm)];rfl
theorem acV {α:Type} [Inhabited α] (enc:α→List Value) (k:Nat) {B:Nat} {w0 w:World} {blk off n:Nat} {d:Array α} {os:Array Obj} (h:Below B w0 w) (hB:B≤blk) (hw:B≤w.heap.size):Below B w0 (sortWorldK enc k w blk off n d os):=by have hz:w.heap.size≤(sortWorldK enc k w blk off n d os).heap.size:=size_sortWorldK_c enc k w blk off n d os;exact ⟨h.os,h.tape,h.output,Nat.le_trans h.size hz,fun j hj=>by rw [Rt enc k ay ay];exact h.block j hj⟩
theorem acW (p q:TR×Nat) (W:World) (hp:aB W p.2 (rZ p.1) 9) (hq:aB W q.2 (rZ q.1) 9) :
  Calls prog 104 #[.agg (g_ p).toArray,.agg (g_ q).toArray] W fun e w'=>e=.returned (.int .i64 (Tm.bP p.1 q.1))∧∃ os',w'=grow W os':=by
 obtain ⟨⟨⟨n1,t1,x1⟩,⟨n2,t2,x2⟩,n3,t3,x3⟩,b⟩:=p;obtain ⟨⟨⟨m1,u1,y1⟩,⟨m2,u2,y2⟩,m3,u3,y3⟩,c⟩:=q;have HW:=aj (show (W.alloc (.cells (g_ (((n1,t1,x1),(n2,t2,x2),n3,t3,x3),b)).toArray 193)).alloc (.cells (g_ (((m1,u1,y1),(m2,u2,y2),m3,u3,y3),c)).toArray 193)=grow W (#[.cells (g_ (((n1,t1,x1),(n2,t2,x2),n3,t3,x3),b)).toArray 193]++#[.cells (g_ (((m1,u1,y1),(m2,u2,y2),m3,u3,y3),c)).toArray 193]) by rw [alloc_eq_grow,alloc_eq_grow,grow_grow]);have SC:=aj (fun W h1 h2=>abd b c (Tm.aO n1 t1 x1) (Tm.aO n2 t2 x2) (Tm.aO n3 t3 x3) (Tm.aO m1 u1 y1) (Tm.aO m2 u2 y2) (Tm.aO m3 u3 y3) W h1 h2);have HP:=aj (show aB W b [aA (Tm.aO n1 t1 x1),aA (Tm.aO n2 t2 x2),aA (Tm.aO n3 t3 x3)] 9 from hp);have HQ:=aj (show aB W c [aA (Tm.aO m1 u1 y1),aA (Tm.aO m2 u2 y2),aA (Tm.aO m3 u3 y3)] 9 from hq);obtain ⟨r,hr⟩:=aC (Tm.kT (Tm.aO n1 t1 x1) (Tm.aO n2 t2 x2) (Tm.aO n3 t3 x3) (Tm.aO m1 u1 y1) (Tm.aO m2 u2 y2) (Tm.aO m3 u3 y3));have HR:=aj (show Tm.bP ((n1,t1,x1),(n2,t2,x2),n3,t3,x3) ((m1,u1,y1),(m2,u2,y2),m3,u3,y3)=r from hr.symm);rw [←hr] at SC;rw [HR.out];clear hp hq hr;show Calls prog 104 #[.agg #[.int .i64 (n1:Nat),aA t1,aA x1,.int .i64 (n2:Nat),aA t2,aA x2,.int .i64 (n3:Nat),aA t3,aA x3,.slice (some ⟨b,0,none⟩) 3 3],.agg #[.int .i64 (m1:Nat),aA u1,aA y1,.int .i64 (m2:Nat),aA u2,aA y2,.int .i64 (m3:Nat),aA u3,aA y3,.slice (some ⟨c,0,none⟩) 3 3]] W _;go_enter func104,ntmps104;go_wp2_with fail
 refine (SC.out _ ((HP.out.alloc _).alloc _) ((HQ.out.alloc _).alloc _)).mono ?_;rintro e w3 ⟨rfl,hw3⟩;subst hw3;go_wp2;go_ret;exact ⟨rfl,_,HW.out⟩
def ShAt (W:World) (v:Value) (S:List (TR×Nat)):Prop:=∃ (a:Option Addr) (cap:Nat),v=.slice a S.length cap∧(S.length=0∨∃ g,a=some ⟨g,0,none⟩∧∀ i (h:i<S.length) c,c<10→W.cell? ⟨g,i*10+c,none⟩=(g_ S[i])[c]?)
section
variable {N:Nat}
def encR (r:Fin (N+1)→TR×Nat) (i:Fin (N+1)):List Value:=g_ (r i)
def yF (r:Fin (N+1)→TR×Nat) (i j:Fin (N+1)):Int:=Tm.bP (r i).1 (r j).1
theorem Ru {r:Fin (N+1)→TR×Nat} {i j:Fin (N+1)} (h:ltOf (yF r) i j=true):Tm.bP (r i).1 (r j).1<0:=of_decide_eq_true h
theorem Kg {r:Fin (N+1)→TR×Nat} {i j:Fin (N+1)} (h:ltOf (yF r) i j=false):0≤Tm.bP (r i).1 (r j).1:=by have h1:¬ Tm.bP (r i).1 (r j).1<0:=of_decide_eq_false h;omega
theorem Rv {r:Fin (N+1)→TR×Nat} {i j:Fin (N+1)} (h:0≤Tm.bP (r i).1 (r j).1):ltOf (yF r) i j=false:=by have h1:¬ Tm.bP (r i).1 (r j).1<0:=ay;exact decide_eq_false h1
theorem acX (r:Fin (N+1)→TR×Nat):SWO (ltOf (yF r)) where
 irrefl x:=Rv (by
  have:=Tm.pG (r x).1 (r x).1
  omega)
 trans x y z h1 h2:=decide_eq_true (Tm.Js (Ru h1) (Ru h2))
 ntrans x y z h1 h2:=Rv (by
  have b1:=Kg h1
  have b2:=Kg h2
  have a1:=Tm.pG (r x).1 (r y).1
  have a2:=Tm.pG (r y).1 (r z).1
  have a3:=Tm.pG (r x).1 (r z).1
  have:=Tm.Jr (p:=(r z).1) (q:=(r y).1) (r:=(r x).1) ay ay
  omega)
theorem acY (r:Fin (N+1)→TR×Nat) (g n:Nat) (w:World) (hT:∀ i,aB w (r i).2 (rZ (r i).1) 9∧(r i).2≠g):CmpLays prog 104 #[] (encR r) 10 (yF r) g 0 n w:=by
 intro m os dk hdk x y;have hb:∀ i,aB (sortWorldK (encR r) 10 w g 0 m dk os) (r i).2 (rZ (r i).1) 9:=fun i=>by have h:=(hT i).1;have hlt:=h.lt;unfold aB at h ⊢;rw [Rt (encR r) 10 hlt (hT i).2];exact h
 have:=acW (r x) (r y) _ (hb x) (hb y);simp only [Array.append_empty];refine this.mono ?_;rintro e w' ⟨rfl,os',rfl⟩;exact ⟨rfl,0,os',rfl⟩
end
theorem acZ {a:List TR} {t:TR} (h:a.Nodup):(Tm.jw a t).Nodup:=by unfold Tm.jw;split;{exact h};{rename_i hn;rw [List.nodup_append];refine ⟨h,aH,fun x hx y hy=>?_⟩;rw [List.mem_singleton.1 hy];rintro rfl;exact hn hx}
theorem ac0 (L:List TR):(Tm.iE [] L).Nodup:=by
 have:∀ (l a:List TR),a.Nodup→(Tm.iE a l).Nodup:=by
  intro l;induction l with
  | nil=>intro a h;exact h
  | cons t l ih=>intro a h;exact ih _ (acZ h)
 exact this L [] List.nodup_nil
theorem ac1 (L:List TR) (hl:∀ t∈L,Tm.bf t=true) (D:List (TR×Nat)) (hD:D.map (·.1)=Tm.iE [] L) (B:Nat) (w:World) (u:Value) (HR:w.ownsRow B 193 10 u D.length (oM D)) (HT:jY w u D) (hlen:D.length≤1000000) :
  Calls prog 103 #[u,.func (.func 104) #[] #[]] w fun e w'=>e=.returned (.tuple #[])∧∃ S:List (TR×Nat),ShAt w' u S∧S.map (·.1)=Tm.eH L∧S.length=D.length∧(∀ B0 w0,Below B0 w0 w→B0≤B→B0≤w.heap.size→Below B0 w0 w'):=by
 have hmem:∀ t,t∈D.map (·.1)↔t∈L:=fun t=>by rw [hD,Tm.AL];simp
 rcases HR.2 with ⟨hu,hD0⟩ | ⟨g,cp,cur,hu,hg,hcur,hcp,hcm,hcs,htk⟩;{subst hu;refine (acN _ _).mono ?_;rintro e w' ⟨rfl,hw⟩;subst hw;have hDn:D=[]:=List.eq_nil_of_length_eq_zero hD0;subst hDn;refine ⟨rfl,[],⟨none,0,rfl,.inl rfl⟩,?_,rfl,fun B0 w0 h _ _=>h⟩;exact Tm.EJ hl List.Pairwise.nil hmem};{rcases Nat.eq_zero_or_pos D.length with h0 | hpos;{have hDn:D=[]:=List.eq_nil_of_length_eq_zero h0;subst hDn;rw [hu];refine (Rn _ _ _ _).mono ?_;rintro e w' ⟨rfl,hw⟩;subst hw;refine ⟨rfl,[],⟨_,_,rfl,.inl rfl⟩,?_,rfl,fun B0 w0 h _ _=>h⟩;exact Tm.EJ hl List.Pairwise.nil hmem};{obtain ⟨N,hN⟩:∃ N,D.length=N+1:=⟨D.length-1,ay⟩;have hgl:g<w.heap.size:=(HR.lt g (by rw [hu];rfl)).2;let r:Fin (N+1)→TR×Nat:=fun i=>D[i.1]'ay;have hrD:∀ i (hi:i<N+1),r ⟨i,hi⟩=D[i]'ay:=fun i hi=>rfl;let d:Array (Fin (N+1)):=Array.ofFn fun i=>i;have hds:d.size=N+1:=(by simp [d]);have hdi:∀ i (hi:i<N+1),d[i]! = ⟨i,hi⟩:=fun i hi=>(by rw [getElem!_pos d i (by rw [hds];exact hi)];simp [d]);have Kh:=HR;rw [hu] at Kh;have hH:HoldsK (encR r) 10 w g 0 d:=(by intro j hj;have hj':j<D.length*10:=(by rw [hN];simpa [hds] using hj);have hq:j / 10<N+1:=ay;rw [Nat.zero_add];refine ⟨?_,Kh.frozenAt j⟩;rw [Kh.cellAt j hj',get_flatK _ _ _ _ (by rw [hds];omega),hdi _ hq];have h2:=Rs D (j / 10) (j % 10) ay (Nat.mod_lt _ ay);rw [show j / 10*10+j % 10=j by omega] at h2;rw [h2];show _=some ((g_ D[j / 10])[j % 10]!);rw [getElem!_pos (g_ D[j / 10]) (j % 10) (by rw [uy];omega),List.getElem?_eq_getElem (by rw [uy];omega)]);have hT:∀ i,aB w (r i).2 (rZ (r i).1) 9∧(r i).2≠g:=fun i=>(by obtain ⟨h1,h2⟩:=HT (r i) (List.getElem_mem _);exact ⟨h1,fun e=>h2 (by rw [hu,e];rfl)⟩);have h:=acK (enc:=encR r) (cf:=yF r) (fun x=>uy _) (fun x=>Rq _) (acX r) d 104 #[] (fun args w=>by exact enters_of func104 aF rfl args w) (acY r g d.size w hT) hH hgl ay cp;rw [hds] at h;rw [hu,hN];refine h.mono ?_;rintro e w' ⟨rfl,m',d',⟨os',rfl⟩,hz,hP,hS⟩;have hHd:=holdsK_sortWorldK_c (encR r) 10 w g 0 d d' m' os' hH hgl (by rw [hz,hds]);have hp:d'.toList.Perm d.toList:=(by have h3:=hP.2.2;rwa [Array.extract_eq_self_of_le ay,Array.extract_eq_self_of_le ay] at h3);have hdl:d.toList.map r=D:=(by refine List.ext_getElem (by simp [d,hN]) fun i h1 h2=>?_;have h3:i<d.size:=(by rw [hds];omega);rw [List.getElem_map,Array.getElem_toList];have h4:=hdi i ay;rw [getElem!_pos d i h3] at h4;rw [h4]);have Rw:(d'.toList.map r).Perm D:=(by rw [←hdl];exact hp.map r);have BA:(d'.toList.map r).length=N+1:=(by simp [hz]);refine ⟨rfl,d'.toList.map r,?_,?_,by rw [BA],fun B0 w0 h1 h2 h3=>acV (encR r) 10 h1 ay h3⟩;{refine ⟨_,cp,by rw [BA],.inr ⟨g,rfl,fun i hi c hc=>?_⟩⟩;have hi':i<d'.size:=(by simpa using hi);have h4:=(HoldsK.cell hHd (i:=i) (c:=c) hi' hc).1;rw [Nat.zero_add] at h4;rw [h4];have e3:encR r d'[i]! = g_ (d'.toList.map r)[i]:=(by rw [getElem!_pos d' i hi'];simp [encR]);rw [e3,getElem!_pos _ c (by rw [uy];exact hc),List.getElem?_eq_getElem (by rw [uy];exact hc)]};{refine Tm.EJ hl ?_ fun t=>(by rw [←hmem t];exact ((Rw.map (·.1)).mem_iff));have hne:∀ i j,i<N+1→j<N+1→i<j→Tm.bP (r d'[i]!).1 (r d'[j]!).1<0:=fun i j hi hj hij=>(by have h5:=hS i j (Nat.zero_le _) hij hj;have h5:=Kg h5;have h6:=Tm.pG (r d'[j]!).1 (r d'[i]!).1;have hnd:(D.map (·.1)).Nodup:=(by rw [hD];exact ac0 L);have ac2:((d'.toList.map r).map (·.1)).Nodup:=((Rw.map (·.1)).nodup_iff).2 hnd;have gi:(r d'[i]!).1=((d'.toList.map r).map (·.1))[i]'(by simp [hz];omega):=(by rw [getElem!_pos d' i ay];simp);have gj:(r d'[j]!).1=((d'.toList.map r).map (·.1))[j]'(by simp [hz];omega):=(by rw [getElem!_pos d' j ay];simp);have hm:∀ x,Tm.bf (r x).1=true:=fun x=>hl _ ((hmem _).1 (List.mem_map.2 ⟨r x,List.getElem_mem _,rfl⟩));by_cases h0:Tm.bP (r d'[i]!).1 (r d'[j]!).1=0;{exfalso;have e4:=(Tm.Jq (hm _) (hm _)).1 h0;rw [gi,gj] at e4;have h8:=List.pairwise_iff_getElem.1 ac2 i j (by simp [hz];omega) (by simp [hz];omega) hij;exact h8 e4};{omega});unfold Tm.fG;rw [List.pairwise_iff_getElem];intro i j hi hj hij;have hi':i<N+1:=(by simpa [hz] using hi);have hj':j<N+1:=(by simpa [hz] using hj);have h7:=hne i j hi' hj' hij;rw [getElem!_pos d' i ay,getElem!_pos d' j ay] at h7;simpa using h7}}}
def yG:List Value:=[.int .i64 0,aA [],aA [],.int .i64 0,aA [],aA [],.int .i64 0,aA [],aA []]
theorem FI:∃ i,prog.info? 65=some i∧i.zero=some (.agg yG.toArray)∧i.size=9∧i.bytes=120:=by have h:(prog.info? 65).map (fun i=>(i.zero,i.size,i.bytes))=some (some (.agg yG.toArray),9,120):=aF;obtain ⟨i,hi,h⟩:=Option.map_eq_some_iff.1 h;simp only [Prod.mk.injEq] at h;exact ⟨i,hi,h.1,h.2.1,h.2.2⟩
def BF (A:List Value) (o:Nat) (v0 v1 v2 v3 v4 v5 v6 v7 v8:Value):List Value:=
 ((((((((A.set o v0).set (o+1) v1).set (o+2) v2).set (o+3) v3).set (o+4) v4).set (o+5) v5).set (o+6) v6).set (o+7) v7).set (o+8) v8
def BI (w:World) (n1:Nat) (t1 x1:List UInt8) (n2:Nat) (t2 x2:List UInt8) (n3:Nat) (t3 x3:List UInt8) (b:Nat):World:=
 w.alloc (.cells #[.int .i64 (n1:Nat),aA t1,aA x1,.int .i64 (n2:Nat),aA t2,aA x2,.int .i64 (n3:Nat),aA t3,aA x3,.slice (some ⟨b,0,none⟩) 3 3] 193)
def Ki:List Value→Nat→List Value→List Value
 | A,_,[]=>A
 | A,o,v::vs=>Ki (A.set o v) (o+1) vs
theorem Ry:∀ (vs A:List Value) (o:Nat),o+vs.length≤A.length→∀ j,(Ki A o vs)[j]?=if o≤j∧j<o+vs.length then vs[j-o]? else A[j]?
 | [],A,o,_,j=>by rw [if_neg (by simp only [List.length_nil];omega)];rfl
 | v::vs,A,o,h,j=>by
  simp only [List.length_cons] at h ⊢
  rw [Ki,Ry vs (A.set o v) (o+1) (by rw [List.length_set];omega) j]
  by_cases h1:o+1≤j∧j<o+1+vs.length
  · rw [if_pos h1,if_pos ay,show j-o=(j-(o+1))+1 by omega,List.getElem?_cons_succ]
  · rw [if_neg h1]
    by_cases h2:j=o
    · subst h2
      rw [if_pos ay,Nat.sub_self,List.getElem?_set_self ay];rfl
    · rw [if_neg ay,List.getElem?_set_ne ay]
theorem ac3 (A:List Value) (o:Nat) (v0 v1 v2 v3 v4 v5 v6 v7 v8:Value):(BF A o v0 v1 v2 v3 v4 v5 v6 v7 v8).length=A.length:=by unfold BF;rw [List.length_set,List.length_set,List.length_set,List.length_set,List.length_set,List.length_set,List.length_set,List.length_set,List.length_set]
theorem ac4 (A:List Value) (o:Nat) (v0 v1 v2 v3 v4 v5 v6 v7 v8:Value) (h:o+9≤A.length) (j:Nat) :
  (BF A o v0 v1 v2 v3 v4 v5 v6 v7 v8)[j]?=if o≤j∧j<o+9 then [v0,v1,v2,v3,v4,v5,v6,v7,v8][j-o]? else A[j]?:=
 Ry [v0,v1,v2,v3,v4,v5,v6,v7,v8] A o h j
def FJ (A:List Value) (S:List (TR×Nat)) (i:Nat):Prop:=∀ j (h:j<S.length),j<i→∀ c,c<9→A[j*9+c]?=(aY S[j].1).cells[c]?
theorem ac5 {A:List Value} {S:List (TR×Nat)} {i:Nat} (h:FJ A S i) (hi:i<S.length) (hA:A.length=S.length*9) {n1 n2 n3:Nat} {t1 x1 t2 x2 t3 x3:List UInt8} {b:Nat} (hS:S[i]=(((n1,t1,x1),(n2,t2,x2),n3,t3,x3),b)) :
  FJ (BF A (i*9) (.int .i64 (n1:Nat)) (aA t1) (aA x1) (.int .i64 (n2:Nat)) (aA t2) (aA x2) (.int .i64 (n3:Nat)) (aA t3) (aA x3)) S (i+1):=by intro j hj hji c hc;rw [ac4 _ _ _ _ _ _ _ _ _ _ _ ay];by_cases hjj:j=i;{subst hjj;rw [if_pos ay,hS,show j*9+c-j*9=c by omega];rfl};{rw [if_neg ay];exact h j hj ay c hc}
theorem ac6 {W:World} {b N:Nat} {A:List Value} {S:List (TR×Nat)} {L:List TR} (hB:aB W b A 65) (h:FJ A S S.length) (hm:S.map (·.1)=L) (hN:S.length=N) (hm2:N≤maxLen):b_ W (.slice (some ⟨b,0,none⟩) N N) (L.map aY):=by
 subst hm;subst hN;refine ⟨_,_,by rw [List.length_map,List.length_map],by rw [List.length_map,List.length_map];exact Nat.le_refl _,hm2,(fun h=>by cases h),.inr ⟨b,0,rfl,fun i hi c hc=>?_⟩⟩;have hi':i<S.length:=by simpa using hi
 have h1:=h i hi' hi' c hc;have h2:c<(aY S[i].1).cells.length:=hc;rw [List.getElem?_eq_getElem h2] at h1;rw [Nat.zero_add,hB.cell h1];simp only [List.getElem_map];rw [List.getElem?_eq_getElem h2]
open Go.ChangeShapes Go.WideShapes Go.ChangeAt Go.RowKit
theorem ac7 (L:List TR) (hl:∀ t∈L,Tm.bf t=true) (hn:L.length≤1000000) (w:World) (v:Value) (hv:b_ w v (L.map aY)) :
  Calls prog 80 #[v] w fun e w'=>∃ v',e=.returned v'∧b_ w' v' ((Tm.eH L).map aY)∧Below w.heap.size w w':=by
 have hmm:=@run_makeMap prog;obtain ⟨a,cap,rfl,hc1,hc2,hc3⟩:=hv.open;have HV:=aj hv;have HL:=aj hl;rw [List.length_map] at HV ⊢;obtain ⟨n,hn0⟩:=aC L.length;rw [←hn0] at HV hn ⊢;have HN:=aj hn0;have HB0:=aj (show Below w.heap.size w (w.alloc (.map #[] 0)) from (Below.refl _ _).alloc aG _);have wB:=aj (show (w.alloc (.map #[] 0)).ownsMap prog 65 Go.unitElem w.heap.size 0 (fV []) from World.ownsMap_made _ _ _ _);have SH:=aj (fun (k1 k2 k3:Nat) (t1 x1 t2 x2 t3 x3:List UInt8) (W:World) h1 h2 h3 h4 h5 h6=>Qc (k1:Int) t1 x1 (k2:Int) t2 x2 (k3:Int) t3 x3 W h1 h2 h3 h4 h5 h6);clear hv hl hc1 hc2 hc3 hn0;go_enter func80,ntmps80;go_wp2;go_loopg [3,15] n (fun gk s3 s15 wr=>∃ (i:Nat) (D:List (TR×Nat)),s15=.int .i64 i∧i≤n∧n-i≤gk∧Hid (Below w.heap.size w wr)∧Hid (wr.ownsMap prog 65 Go.unitElem w.heap.size i (fV (Tm.iE [] (L.take i))))∧Hid (wr.ownsRow (w.heap.size+1) 193 10 s3 D.length (oM D))∧Hid (jY wr s3 D)∧Hid (D.map (·.1)=Tm.iE [] (L.take i)))
 case atStart=>exact ⟨0,[],rfl,Nat.zero_le _,Nat.le_refl _,HB0,wB,World.ownsRow_nil _ _ _ _,aj (fun p hp=>by cases hp),aj rfl⟩
 case round=>
  obtain ⟨i,D,rfl,hin,hg,HB,HM,HR,HT,HD⟩:=hrel;by_cases hlt:i<n
  · have hltz:(i:Int)<(n:Int):=ay;have dz:i<L.length:=(by rw [←HN.out];exact hlt);have HT1:=aj (HL.out L[i] (List.getElem_mem dz));have HK:=aj (show keyOf prog 65 (rP L[i])=some (kS L[i]) from yu (Bz HT1.out));have jB:=aj (HV.out.keep HB.out);obtain ⟨bl,off,rfl,hrow⟩:=jB.out.get (i:=i) (by rw [List.length_map];exact dz);have HRW:=aj (hrow i (by rw [List.length_map];exact dz));rw [List.getElem_map] at HRW;have HST:=aj (acU dz);obtain ⟨t,ht⟩:=aC (L[i]);rw [←ht] at HT1 HK HRW HST;have Rz:=Bz HT1.out;have jX:=aj Rz;obtain ⟨⟨n1,t1,x1⟩,⟨n2,t2,x2⟩,n3,t3,x3⟩:=t;clear ht hrow;have c0:=HRW.out 0 ay;have c1:=HRW.out 1 ay;have c2:=HRW.out 2 ay;have c3:=HRW.out 3 ay;have c4:=HRW.out 4 ay;have c5:=HRW.out 5 ay;have c6:=HRW.out 6 ay;have c7:=HRW.out 7 ay;have c8:=HRW.out 8 ay;simp only [aY,dD.cells,List.getElem?_cons_zero,List.getElem?_cons_succ,Nat.add_zero] at c0 c1 c2 c3 c4 c5 c6 c7 c8;obtain ⟨acc,hacc⟩:=aC (Tm.iE [] (L.take i));rw [←hacc] at HM HD HST;have Kj:=aj (show ∀ s∈acc,rQ s by
     intro s hs;rw [hacc,Tm.AL] at hs;rcases hs with hs | hs;{cases hs}
     · exact Bz (HL.out s (List.mem_of_mem_take hs)))
    have ac8:=aj hacc;clear hacc Rz;obtain ⟨b,hb⟩:=aC (Maps.has (fV acc) (kS ((n1,t1,x1),(n2,t2,x2),n3,t3,x3)));have eU:=aj hb;clear hb;have aP:=aj (show Below w.heap.size w (aX wr n1 t1 x1 n2 t2 x2 n3 t3 x3) from HB.out.alloc HB.out.size _);have gT:=aj (show (aX wr n1 t1 x1 n2 t2 x2 n3 t3 x3).ownsMap prog 65 Go.unitElem w.heap.size i (fV acc) from HM.out.alloc _);have HR4:=aj (show (aX wr n1 t1 x1 n2 t2 x2 n3 t3 x3).ownsRow (w.heap.size+1) 193 10 u3 D.length (oM D) from HR.out.alloc _);have cB:=aj (show jY (aX wr n1 t1 x1 n2 t2 x2 n3 t3 x3) u3 D from HT.out.keep ((Below.refl _ _).alloc aG _));have bX:=aj (iU wr n1 t1 x1 n2 t2 x2 n3 t3 x3);cases b
    · go_upto_region 8 with (first
       | (show wpList _ _ _ _ _ (aX wr n1 t1 x1 n2 t2 x2 n3 t3 x3);obtain ⟨w4,hw4⟩:=aC (aX wr n1 t1 x1 n2 t2 x2 n3 t3 x3);rw [←hw4] at aP gT HR4 cB bX ⊢;clear hw4;have c0:=bX.out.cell (i:=0) rfl;have c1:=bX.out.cell (i:=1) rfl;have c2:=bX.out.cell (i:=2) rfl;have c3:=bX.out.cell (i:=3) rfl;have c4:=bX.out.cell (i:=4) rfl;have c5:=bX.out.cell (i:=5) rfl;have c6:=bX.out.cell (i:=6) rfl;have c7:=bX.out.cell (i:=7) rfl;have c8:=bX.out.cell (i:=8) rfl)
       | (at_lookup;refine wpList_lookup_own_unit _ rfl _ _ 144 rfl 65 149 rO underlying144 (Bw _) w.heap.size i (fV acc) rfl gT.out _ _ rfl HK.out ?_;rw [←eU.out]))
      have aQ:=aj (aP.out.alloc aP.out.size (.cells #[] 149));have iX:=aj (gT.out.alloc (.cells #[] 149));have bU:=aj (HR4.out.alloc (.cells #[] 149));have dM:=aj (cB.out.keep ((Below.refl _ _).alloc aG (.cells #[] 149)));have lV:=aj (bX.out.alloc (.cells #[] 149));generalize w4.alloc (.cells #[] 149)=w5 at aQ iX bU dM lV ⊢;obtain ⟨c0,c1,c2,c3,c4,c5,c6,c7,c8⟩:=fB lV.out;(go_upto_region 9 with (at_mapUpdate;refine wpList_mapUpdate_own _ rfl _ _ _ 144 rfl 65 149 rO underlying144 _ w.heap.size i (fV acc) rfl iX.out (by unfold maxLen;omega) _ _ _ rfl rfl HK.out (.agg []) [] Go.unitElem_mk ?_;intro w6 uz mX));have hzm:=HM.out.lt;have aR:=aj (aQ.out.grown mX aQ.out.size (fun k hk=>by cases hk;omega));have oN:=aj (show w6.ownsMap prog 65 Go.unitElem w.heap.size (i+1) (fV (acc++[((n1,t1,x1),(n2,t2,x2),n3,t3,x3)])) by rw [Ql];exact uz);have nP:=aj (bU.out.kept mX (.inr (fun e=>by have:=bU.out.lt _ e;omega)));have mW:=aj (dM.out.map mX (fun p hp=>Ro iX.out (dM.out p hp).1));have gF:=aj (lV.out.map mX ay);clear uz mX c0 c1 c2 c3 c4 c5 c6 c7 c8;have SH1:=aj (fun W=>acS ((n1,t1,x1),(n2,t2,x2),n3,t3,x3) HT1.out W);have nO:∀ k,u3.ownBlock=some k→w.heap.size+1≤k:=fun k hk=>(nP.out.lt k hk).1;have HOB:=aj nO;clear nO;have je:=aR.out.size;have hDl:D.length≤1000000:=(by have:=congrArg List.length HD.out;rw [List.length_map] at this;have h2:=Ke L i;rw [←ac8.out] at h2;omega);obtain ⟨iS,hi0,⟨zS,dx,ac9⟩,dN,dO⟩:=acP;obtain ⟨c0,c1,c2,c3,c4,c5,c6,c7,c8⟩:=fB gF.out;go_region_law (first
       | (go_simp;go_at_call 102;refine (SH1.out _).mono ?_;rintro e w7 ⟨b7,rfl,gD,RA,hlow⟩;have iH:=aj RA;have aZ:=aj (aI (Below.refl w6.heap.size w6).drew hlow);have k0:=aD aZ.out c0;have k1:=aD aZ.out c1;have k2:=aD aZ.out c2;have k3:=aD aZ.out c3;have k4:=aD aZ.out c4;have k5:=aD aZ.out c5;have k6:=aD aZ.out c6;have k7:=aD aZ.out c7;have k8:=aD aZ.out c8;clear RA hlow)
       | (refine tZ (by rfl) (.tmp 29) (.tmp 34) 190 (by rfl) (w.heap.size+1) 193 iS zS 10 144 underlying190 hi0 dx dN dO ac9 aL u3 D.length (oM D) (by rfl) ((FE nP.out aZ.out).alloc _) ⟨w7.heap.size,0,none⟩ 1 1 (g_ (((n1,t1,x1),(n2,t2,x2),n3,t3,x3),b7)) rfl (by rfl) ?c2 ?o2 ?b4 ?b5 ?b6 ?_
          case c2=>exact fun j u hu=>acR w7 (((n1,t1,x1),(n2,t2,x2),n3,t3,x3),b7) _ rfl j u hu
          case o2=>exact Rq _
          case b4=>(unfold maxLen;omega)
          case b5=>omega
          case b6=>(have:=aZ.out.size;simp;omega)
          intro v8 w8 g1 g2 g3
          have G1:=aj g1
          have G2:=aj g2
          have G3:=aj g3
          clear g1 g2 g3)
       | fail)
      all_goals
       have FIN:=aj (acT aR.out oN.out mW.out aZ.out gD iH.out HOB.out (fun k hk=>(nP.out.lt k hk).2) G1.out G2.out G3.out)
       go_wp2
       go_roundg (n-(i+1))
       case measure=>omega
       case rel=>
        refine ⟨i+1,D++[(((n1,t1,x1),(n2,t2,x2),n3,t3,x3),b7)],aN,ay,ay,FIN.out.1,?_,FIN.out.2.2.1,FIN.out.2.2.2,?_⟩
        · rw [HST.out,Rp (by rw [←ED Kj.out jX.out];exact eU.out.symm)];exact FIN.out.2.1
        · show _=_
          rw [HST.out,Rp (by rw [←ED Kj.out jX.out];exact eU.out.symm),List.map_append,HD.out];rfl
    · go_upto_region 10 with (first
       | (show wpList _ _ _ _ _ (aX wr n1 t1 x1 n2 t2 x2 n3 t3 x3);obtain ⟨w4,hw4⟩:=aC (aX wr n1 t1 x1 n2 t2 x2 n3 t3 x3);rw [←hw4] at aP gT HR4 cB bX ⊢;clear hw4;have c0:=bX.out.cell (i:=0) rfl;have c1:=bX.out.cell (i:=1) rfl;have c2:=bX.out.cell (i:=2) rfl;have c3:=bX.out.cell (i:=3) rfl;have c4:=bX.out.cell (i:=4) rfl;have c5:=bX.out.cell (i:=5) rfl;have c6:=bX.out.cell (i:=6) rfl;have c7:=bX.out.cell (i:=7) rfl;have c8:=bX.out.cell (i:=8) rfl)
       | (at_lookup;refine wpList_lookup_own_unit _ rfl _ _ 144 rfl 65 149 rO underlying144 (Bw _) w.heap.size i (fV acc) rfl gT.out _ _ rfl HK.out ?_;rw [←eU.out]))
      have aQ:=aj (aP.out.alloc aP.out.size (.cells #[] 149));have iX:=aj (Kc (gT.out.alloc (.cells #[] 149)));have bU:=aj (HR4.out.alloc (.cells #[] 149));have dM:=aj (cB.out.keep ((Below.refl _ _).alloc aG (.cells #[] 149)));generalize w4.alloc (.cells #[] 149)=w5 at aQ iX bU dM ⊢;go_wp2;go_roundg (n-(i+1))
      (case measure=>omega);case rel=>have e:=acQ (show decide (((n1,t1,x1),(n2,t2,x2),n3,t3,x3)∈acc)=true by rw [←ED Kj.out jX.out];exact eU.out.symm);refine ⟨i+1,D,aN,ay,ay,aQ.out,?_,bU.out,dM.out,?_⟩;{rw [HST.out,e];exact iX.out};{show _=_;rw [HST.out,e];exact HD.out}
  · obtain rfl:i=n:=ay;have hltz:¬ (i:Int)<(i:Int):=ay;have e0:L.take i=L:=List.take_of_length_le (by rw [←HN.out];exact Nat.le_refl _);rw [e0] at HD;clear e0 HM;have hDl:D.length≤1000000:=(by have:=congrArg List.length HD.out;rw [List.length_map] at this;have h2:=Ke L L.length;rw [List.take_length] at h2;have:=HN.out;omega);have SO:=aj (ac1 L HL.out D HD.out (w.heap.size+1) wr u3 HR.out HT.out hDl);(go_wp2_with fail);refine SO.out.mono ?_;rintro e w5 ⟨rfl,S,hsa,RB,BA,hbel⟩;have aQ:=aj (hbel w.heap.size w HB.out ay HB.out.size);have HSM:=aj RB;obtain ⟨a5,cap5,hu,hsh⟩:=hsa;subst hu;obtain ⟨N,FK⟩:=aC S.length;have Kk:=aj hsh;have FL:=aj FK;rw [←BA,←FK] at hDl;rw [←FK];obtain ⟨i0,hi0,hz0,hz1,hz2⟩:=FI;have mk1:∀ W:World,(Instr.makeSlice 22 (.int .i64 (N:Int)) (.int .i64 (N:Int))).run prog W=_:=fun W=>run_make W 22 65 i0 _ underlying22 hi0 hz0 .i64 .i64 N N ay ay (by rw [hz2];omega) ay;rw [hz1] at mk1;clear hsh FK BA RB hbel HR HT HD hi0 hz0 hz1 hz2 HB0 wB;go_wp2;obtain ⟨w6,eP⟩:=aC (w5.alloc (.cells (madeCells yG.toArray (N*9)) 65));rw [←eP];have jg:=aj (show w6.heap.size=w5.heap.size+1 by rw [eP];simp);have ac_:=aj (show Below w5.heap.size w5 w6 by rw [eP];exact (Below.refl _ _).alloc aG _);have RD:=aj (show aB w6 w5.heap.size (madeCells yG.toArray (N*9)).toList 65 by rw [eP];exact aB.new' rfl rfl);have HL6:=aj (show (madeCells yG.toArray (N*9)).toList.length=N*9 by simp [madeCells]);generalize (madeCells yG.toArray (N*9)).toList=A0 at *;obtain ⟨b5,hb5⟩:=aC w5.heap.size;rw [←hb5] at RD;rw [show w5.heap.size=b5 from hb5.symm];have ada:=aj hb5;clear eP mk1 hb5;go_loopg [44] N (fun gk s44 wr=>∃ (i:Nat) (A:List Value),s44=.int .i64 i∧i≤N∧N-i≤gk∧Hid (Below w5.heap.size w5 wr)∧Hid (aB wr b5 A 65)∧Hid (A.length=N*9)∧Hid (FJ A S i))
    (case atStart=>exact ⟨0,A0,rfl,Nat.zero_le _,Nat.le_refl _,ac_.out,RD.out,HL6.out,fun j _ h=>absurd h (Nat.not_lt_zero _)⟩);case round=>
     obtain ⟨j,A,rfl,hjN,hgj,bg,RF,uf,BJ⟩:=hrel;by_cases hj:j<N
     · have hjz:(j:Int)<(N:Int):=ay;have RG:j<S.length:=(by rw [←FL.out];exact hj);rcases Kk.out with h0 | ⟨g,rfl,hrow⟩;{omega}
       · have HRW:=aj (hrow j RG);clear hrow;obtain ⟨p,hp⟩:=aC (S[j]);rw [←hp] at HRW;have wC:=aj hp;clear hp;obtain ⟨⟨⟨n1,t1,x1⟩,⟨n2,t2,x2⟩,n3,t3,x3⟩,bb⟩:=p;have k0:=aD bg.out (v:=.int .i64 (n1:Nat)) (HRW.out 0 ay);have k1:=aD bg.out (v:=aA t1) (HRW.out 1 ay);have k2:=aD bg.out (v:=aA x1) (HRW.out 2 ay);have k3:=aD bg.out (v:=.int .i64 (n2:Nat)) (HRW.out 3 ay);have k4:=aD bg.out (v:=aA t2) (HRW.out 4 ay);have k5:=aD bg.out (v:=aA x2) (HRW.out 5 ay);have k6:=aD bg.out (v:=.int .i64 (n3:Nat)) (HRW.out 6 ay);have k7:=aD bg.out (v:=aA t3) (HRW.out 7 ay);have k8:=aD bg.out (v:=aA x3) (HRW.out 8 ay);have k9:=aD bg.out (v:=.slice (some ⟨bb,0,none⟩) 3 3) (HRW.out 9 ay);have ow:=bg.out.size;have aZ:=aj (show Below w5.heap.size w5 (BI wr n1 t1 x1 n2 t2 x2 n3 t3 x3 bb) from bg.out.alloc ow _);have jh:=aj (show aB (BI wr n1 t1 x1 n2 t2 x2 n3 t3 x3 bb) b5 A 65 from RF.out.alloc _);have iH:=aj (show aB (BI wr n1 t1 x1 n2 t2 x2 n3 t3 x3 bb) wr.heap.size [.int .i64 (n1:Nat),aA t1,aA x1,.int .i64 (n2:Nat),aA t2,aA x2,.int .i64 (n3:Nat),aA t3,aA x3,.slice (some ⟨bb,0,none⟩) 3 3] 193 from aB.new' rfl rfl);have TO:=aj (ac5 BJ.out RG (by rw [uf.out,FL.out]) wC.out.symm);simp only [Nat.add_zero] at k0;(go_upto_region 16 with (show wpList _ _ _ _ _ (BI wr n1 t1 x1 n2 t2 x2 n3 t3 x3 bb);obtain ⟨w7,hw7⟩:=aC (BI wr n1 t1 x1 n2 t2 x2 n3 t3 x3 bb);rw [←hw7] at aZ jh iH ⊢;clear hw7));have RH:=uf.out;have BK:=aj RH;have RJ:j*9+9≤A.length:=ay;clear RH;have m0:=iH.out.cell (i:=0) rfl;have d0:=jh.out.cell (i:=j*9) (v:=A[j*9]) (List.getElem?_eq_getElem ay);have f0:=jh.out.free (j*9);generalize A[j*9]=z0 at d0;have m1:=iH.out.cell (i:=1) rfl;have d1:=jh.out.cell (i:=j*9+1) (v:=A[j*9+1]) (List.getElem?_eq_getElem ay);have f1:=jh.out.free (j*9+1);generalize A[j*9+1]=z1 at d1;have m2:=iH.out.cell (i:=2) rfl;have d2:=jh.out.cell (i:=j*9+2) (v:=A[j*9+2]) (List.getElem?_eq_getElem ay);have f2:=jh.out.free (j*9+2);generalize A[j*9+2]=z2 at d2;have m3:=iH.out.cell (i:=3) rfl;have d3:=jh.out.cell (i:=j*9+3) (v:=A[j*9+3]) (List.getElem?_eq_getElem ay);have f3:=jh.out.free (j*9+3);generalize A[j*9+3]=z3 at d3;have m4:=iH.out.cell (i:=4) rfl;have d4:=jh.out.cell (i:=j*9+4) (v:=A[j*9+4]) (List.getElem?_eq_getElem ay);have f4:=jh.out.free (j*9+4);generalize A[j*9+4]=z4 at d4;have m5:=iH.out.cell (i:=5) rfl;have d5:=jh.out.cell (i:=j*9+5) (v:=A[j*9+5]) (List.getElem?_eq_getElem ay);have f5:=jh.out.free (j*9+5);generalize A[j*9+5]=z5 at d5;have m6:=iH.out.cell (i:=6) rfl;have d6:=jh.out.cell (i:=j*9+6) (v:=A[j*9+6]) (List.getElem?_eq_getElem ay);have f6:=jh.out.free (j*9+6);generalize A[j*9+6]=z6 at d6;have m7:=iH.out.cell (i:=7) rfl;have d7:=jh.out.cell (i:=j*9+7) (v:=A[j*9+7]) (List.getElem?_eq_getElem ay);have f7:=jh.out.free (j*9+7);generalize A[j*9+7]=z7 at d7;have m8:=iH.out.cell (i:=8) rfl;have d8:=jh.out.cell (i:=j*9+8) (v:=A[j*9+8]) (List.getElem?_eq_getElem ay);have f8:=jh.out.free (j*9+8);generalize A[j*9+8]=z8 at d8;clear RJ;have jC:=aj (show w5.heap.size≤b5 by rw [ada.out];exact Nat.le_refl _);(go_wp2_with fail);obtain ⟨w8,hw8⟩:=aC ((((((((((w7.setCell ⟨b5,j*9,none⟩ (.int .i64 (n1:Nat))).setCell ⟨b5,j*9+1,none⟩ (aA t1)).setCell ⟨b5,j*9+2,none⟩ (aA x1)).setCell ⟨b5,j*9+3,none⟩ (.int .i64 (n2:Nat))).setCell ⟨b5,j*9+4,none⟩ (aA t2)).setCell ⟨b5,j*9+5,none⟩ (aA x2)).setCell ⟨b5,j*9+6,none⟩ (.int .i64 (n3:Nat))).setCell ⟨b5,j*9+7,none⟩ (aA t3)).setCell ⟨b5,j*9+8,none⟩ (aA x3)));have bC:=aj (show Below w5.heap.size w5 w8 by rw [hw8];exact (((((((((aZ.out.setCell jC.out _).setCell jC.out _).setCell jC.out _).setCell jC.out _).setCell jC.out _).setCell jC.out _).setCell jC.out _).setCell jC.out _).setCell jC.out _));have adb:=aj (show aB w8 b5 (BF A (j*9) (.int .i64 (n1:Nat)) (aA t1) (aA x1) (.int .i64 (n2:Nat)) (aA t2) (aA x2) (.int .i64 (n3:Nat)) (aA t3) (aA x3)) 65 by rw [hw8];exact (((((((((jh.out.set (j*9) (.int .i64 (n1:Nat))).set (j*9+1) (aA t1)).set (j*9+2) (aA x1)).set (j*9+3) (.int .i64 (n2:Nat))).set (j*9+4) (aA t2)).set (j*9+5) (aA x2)).set (j*9+6) (.int .i64 (n3:Nat))).set (j*9+7) (aA t3)).set (j*9+8) (aA x3)));rw [←hw8];clear hw8;go_wp2;go_roundg (N-(j+1))
         (case measure=>omega);case rel=>exact ⟨j+1,_,aN,ay,ay,bC.out,adb.out,by show _=_;rw [ac3];exact BK.out,TO.out⟩
     {have hjz:¬ (j:Int)<(N:Int):=ay;have ade:j=N:=ay;subst ade;go_wp2;go_ret;refine ⟨_,rfl,ac6 RF.out (by rw [←FL.out];exact BJ.out) HSM.out FL.out.symm (by unfold maxLen;omega),?_⟩;exact aQ.out.trans (bg.out.mono aQ.out.size)}
end Go.Proofs.YtockbaekcbeenaaGreatDoor
