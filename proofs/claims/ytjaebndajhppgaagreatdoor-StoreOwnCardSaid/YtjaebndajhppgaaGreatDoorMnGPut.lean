/-GPut-/
import Derived.Test.YtjaebndajhppgaaGreatDoorMnSoClone
import Derived.Test.YtjaebndajhppgaaGreatDoorMnGTri
set_option linter.unusedVariables false
set_option linter.unusedSimpArgs false
set_option maxRecDepth 100000
set_option maxHeartbeats 4000000
namespace Go.Proofs.YtjaebndajhppgaaGreatDoor
open Go.ChangeShapes Go.WideShapes Go.ChangeAt Go.RowKit Go.Sort
def abc:TR:=((1,[97],[]),(1,[98],[]),1,[99],[])
def abcL:List UInt8:=[60,97,62,32,60,98,62,32,60,99,62,32,46]
theorem abc_tri:Tm.isTri abc=true:=by kernel_rfl
theorem abc_parse:Tm.plU abcL 0 []=(0,1,[abc]):=by kernel_rfl
theorem abc_print:Tm.printL [abc]=abcL++[10]:=by kernel_rfl
theorem abc_sort:Tm.rsort [abc]=[abc]:=by kernel_rfl
theorem known_any (w:World) (hV:Vars w) (hE:ErrAt w):Calls Tryz.prog 16 #[] w fun e w'=>e=.returned (.bool true)∧Below w.heap.size w w':=by
 have L0:=hid (fun W hV hE=>load_any [] W hV hE (by simp) (0,0,[]) (Tm.plU_nil _ _) (fun _=>⟨by simp,by simp⟩))
 have L1:=hid (fun W hV hE=>load_any abcL W hV hE (by decide) (0,1,[abc]) abc_parse (fun _=>⟨fun t ht=>by rw [List.mem_singleton.1 ht];exact abc_tri,by simp⟩))
 have HV:=hid hV
 have HE:=hid hE
 have HB0:=hid (Below.refl w.heap.size w)
 clear hV hE
 go_enter Tryz.func16,Tryz.ntmps16
 go_upto_region 2 with (go_at_call 13;refine (L0.out _ HV.out HE.out).mono ?_;rintro e w1 ⟨⟨p,rfl,hS⟩,hB⟩;have HS1:=hid hS;have HB1:=hid hB;clear hS hB)
 go_upto_region 3 with (go_at_call 13;refine (L1.out _ (HV.out.keep HB1.out) (HE.out.keep HB1.out)).mono ?_;rintro e w2 ⟨⟨q,rfl,hS⟩,hB⟩;have HS2:=hid hS;have HB2:=hid hB;clear hS hB)
 have HS3:=hid (show IsStore w2 q [abc] by have h:=HS2.out;rw [show Tm.rsort (0,1,[abc]).2.2=[abc] from abc_sort] at h;exact h)
 have HS4:=hid (show IsStore w2 p [] from HS1.out.keep HB2.out)
 have HBB:=hid (below_then HB1.out HB2.out)
 have EX:=hid (show Calls Tryz.prog 24 #[.pointer (some ⟨q,0,none⟩)] w2 fun e w'=>e=.returned (.string ⟨#[60,97,62,32,60,98,62,32,60,99,62,32,46,10]⟩)∧Below w2.heap.size w2 w' from by
  have h:=sexp_any q [abc] w2 HS3.out (fun t ht=>by rw [List.mem_singleton.1 ht];exact abc_tri) (by simp)
  rw [abc_print] at h;exact h)
 go_wp2_with fail
 refine (slen_any p [] _ HS4.out).mono ?_
 rintro e w' ⟨rfl,rfl⟩
 go_wp2_with fail
 refine (slen_any q [abc] _ HS3.out).mono ?_
 rintro e w' ⟨rfl,rfl⟩
 go_wp2_with (go_at_call 24;refine EX.out.mono ?_;rintro e w3 ⟨rfl,hB⟩;have HB3:=hid (below_then HBB.out hB);clear hB)
 go_ret
 exact ⟨rfl,HB3.out⟩
theorem print_parse (M:List TR) (hM:∀ t∈M,Tm.isTri t=true) (hn:M.length≤100):Tm.plU (Tm.printL M) 0 []=(0,M.length,Tm.addAll [] M):=by
 have h:=Tm.plU_lines M [] 0 [] hM (by omega) (by simp only [List.length_nil];omega)
 rw [List.append_nil,Nat.zero_add] at h
 rw [h];exact Tm.plU_nil _ _
theorem addAll_all (M:List TR) (hM:∀ t∈M,Tm.isTri t=true):∀ t∈Tm.addAll [] M,Tm.isTri t=true:=fun t ht=>by
 rcases (Tm.addAll_mem M [] t).1 ht with h | h
 · cases h
 · exact hM t h
theorem addAll_le (M:List TR):(Tm.addAll [] M).length≤M.length:=by
 have:=addAll_len M M.length
 rwa [List.take_length] at this
theorem load_print (M:List TR) (hM:∀ t∈M,Tm.isTri t=true) (hn:M.length≤100) (hp:(Tm.printL M).length≤20000) (W:World) (hV:Vars W) (hE:ErrAt W) :
  Calls Tryz.prog 13 #[str (Tm.printL M)] W fun e w'=>∃ p,e=.returned (.tuple #[.pointer (some ⟨p,0,none⟩),.int .i64 (M.length:Nat),.int .i64 0])∧IsStore w' p (Tm.rsort M)∧Below W.heap.size W w':=by
 refine (load_any _ W hV hE hp _ (print_parse M hM hn) (fun _=>⟨addAll_all M hM,Nat.le_trans (addAll_le M) hn⟩)).mono ?_
 rintro e w' ⟨⟨p,h1,h2⟩,h3⟩
 have e2:Tm.rsort (Tm.addAll [] M)=Tm.rsort M:=Tm.rsort_addAll hM
 simp only at h2
 rw [e2] at h2
 exact ⟨p,h1,h2,h3⟩
theorem sterms_any (p:Nat) (L:List TR) (hn:L.length≤1000) (w:World) (h:IsStore w p L) :
  Calls Tryz.prog 30 #[.pointer (some ⟨p,0,none⟩)] w fun e w'=>∃ v',e=.returned v'∧TermsAt w' v' (So.terms L)∧(0<(So.terms L).length→w'.ownsRow w.heap.size 61 3 v' (So.terms L).length (rowT (So.terms L)))∧Below w.heap.size w w':=by
 obtain ⟨vt,ve,r,h1,h2,h3,h4⟩:=h
 have hlen:=So.terms_len L
 have CL:=hid (clone_terms ve (So.terms L) w h3 (by omega))
 obtain ⟨a,c,rfl,_,_,_⟩:=h3.open
 have c0:=h1.cell (i:=1) rfl
 clear h1 h2 h3 h4 hlen
 go_enter Tryz.func30,Tryz.ntmps30
 go_wp2_with (go_at_call 72;refine CL.out.mono ?_;rintro e w1 ⟨v',rfl,hT,hO,hB⟩;have HT:=hid (And.intro hT (And.intro hO hB));clear hT hO hB)
 go_ret
 exact ⟨v',rfl,HT.out⟩
theorem stri_any (p:Nat) (L:List TR) (hn:L.length≤1000) (w:World) (h:IsStore w p L) :
  Calls Tryz.prog 35 #[.pointer (some ⟨p,0,none⟩)] w fun e w'=>∃ v',e=.returned v'∧TrisAt w' v' (L.map ofT)∧(0<L.length→w'.ownsRow w.heap.size 67 9 v' L.length (rowCells L))∧Below w.heap.size w w':=by
 obtain ⟨vt,ve,r,h1,h2,h3,h4⟩:=h
 have CL:=hid (clone_tris vt L w h2 (by omega))
 obtain ⟨a,c,rfl,_,_,_⟩:=h2.open
 rw [List.length_map] at h1 CL
 have c0:=h1.cell (i:=0) rfl
 clear h1 h2 h3 h4
 go_enter Tryz.func35,Tryz.ntmps35
 go_wp2_with (go_at_call 76;refine CL.out.mono ?_;rintro e w1 ⟨v',rfl,hT,hO,hB⟩;have HT:=hid (And.intro hT (And.intro hO hB));clear hT hO hB)
 go_ret
 exact ⟨v',rfl,HT.out⟩
theorem wis_1 (k1:Int) (t1 x1:List UInt8) (k2:Int) (t2 x2:List UInt8) (k3:Int) (t3 x3:List UInt8) (w:World) (ht1:t1.length≤1000000000000000) (hx1:x1.length≤1000000000000000) (ht2:t2.length≤1000000000000000) (hx2:x2.length≤1000000000000000) (ht3:t3.length≤1000000000000000) (hx3:x3.length≤1000000000000000) (hV:Vars w) (h1:Tm.is k1 t1 x1=false) :
  Calls Tryz.prog 62 #[triV k1 t1 x1 k2 t2 x2 k3 t3 x3] w fun e w'=>e=.returned (.bool (isTriI k1 t1 x1 k2 t2 x2 k3 t3 x3))∧Below w.heap.size w w':=by
 have HB:=hid (show Below w.heap.size w (new9 w k1 t1 x1 k2 t2 x2 k3 t3 x3) from (Below.refl _ _).alloc (Nat.le_refl _) _)
 have HV:=hid (hV.keep HB.out)
 have HU:=hid (new9_new w k1 t1 x1 k2 t2 x2 k3 t3 x3)
 have HF:=hid (show isTriI k1 t1 x1 k2 t2 x2 k3 t3 x3=false by unfold isTriI;rw [h1];simp)
 have I1:=hid (fun W h=>ris_any k1 t1 x1 W (by omega) (by omega) h)
 rw [h1] at I1
 clear hV h1
 go_enter Tryz.func62,Tryz.ntmps62
 go_wp2_with (show wpList _ _ _ _ _ (new9 w k1 t1 x1 k2 t2 x2 k3 t3 x3);obtain ⟨w1,hw1⟩:∃ w1,w1=new9 w k1 t1 x1 k2 t2 x2 k3 t3 x3:=⟨_,rfl⟩;rw [←hw1] at HB HV HU ⊢;clear hw1;have c0:=HU.out.cell (i:=0) rfl;have c1:=HU.out.cell (i:=1) rfl;have c2:=HU.out.cell (i:=2) rfl)
 refine (I1.out _ HV.out).mono ?_
 rintro e w2 ⟨rfl,hb2⟩
 have HB2:=hid (below_then HB.out hb2)
 have HV2:=hid (HV.out.keep hb2)
 have HU2:=hid (HU.out.keep hb2)
 clear hb2
 go_wp2
 go_ret
 exact ⟨by rw [HF.out];rfl,HB2.out⟩
theorem wis_2 (k1:Int) (t1 x1:List UInt8) (k2:Int) (t2 x2:List UInt8) (k3:Int) (t3 x3:List UInt8) (w:World) (ht1:t1.length≤1000000000000000) (hx1:x1.length≤1000000000000000) (ht2:t2.length≤1000000000000000) (hx2:x2.length≤1000000000000000) (ht3:t3.length≤1000000000000000) (hx3:x3.length≤1000000000000000) (hV:Vars w) (h1:Tm.is k1 t1 x1=true) (h2:Tm.is k2 t2 x2=false) :
  Calls Tryz.prog 62 #[triV k1 t1 x1 k2 t2 x2 k3 t3 x3] w fun e w'=>e=.returned (.bool (isTriI k1 t1 x1 k2 t2 x2 k3 t3 x3))∧Below w.heap.size w w':=by
 have HB:=hid (show Below w.heap.size w (new9 w k1 t1 x1 k2 t2 x2 k3 t3 x3) from (Below.refl _ _).alloc (Nat.le_refl _) _)
 have HV:=hid (hV.keep HB.out)
 have HU:=hid (new9_new w k1 t1 x1 k2 t2 x2 k3 t3 x3)
 have HF:=hid (show isTriI k1 t1 x1 k2 t2 x2 k3 t3 x3=false by unfold isTriI;rw [h2];simp)
 have I1:=hid (fun W h=>ris_any k1 t1 x1 W (by omega) (by omega) h)
 rw [h1] at I1
 have I2:=hid (fun W h=>ris_any k2 t2 x2 W (by omega) (by omega) h)
 rw [h2] at I2
 clear hV h1 h2
 go_enter Tryz.func62,Tryz.ntmps62
 go_wp2_with (show wpList _ _ _ _ _ (new9 w k1 t1 x1 k2 t2 x2 k3 t3 x3);obtain ⟨w1,hw1⟩:∃ w1,w1=new9 w k1 t1 x1 k2 t2 x2 k3 t3 x3:=⟨_,rfl⟩;rw [←hw1] at HB HV HU ⊢;clear hw1;have c0:=HU.out.cell (i:=0) rfl;have c1:=HU.out.cell (i:=1) rfl;have c2:=HU.out.cell (i:=2) rfl)
 refine (I1.out _ HV.out).mono ?_
 rintro e w2 ⟨rfl,hb2⟩
 have HB2:=hid (below_then HB.out hb2)
 have HV2:=hid (HV.out.keep hb2)
 have HU2:=hid (HU.out.keep hb2)
 clear hb2
 have c3:=HU2.out.cell (i:=3) rfl
 have c4:=HU2.out.cell (i:=4) rfl
 have c5:=HU2.out.cell (i:=5) rfl
 go_wp2_with fail
 refine (I2.out _ HV2.out).mono ?_
 rintro e w3 ⟨rfl,hb3⟩
 have HB3:=hid (below_then HB2.out hb3)
 have HV3:=hid (HV2.out.keep hb3)
 have HU3:=hid (HU2.out.keep hb3)
 clear hb3
 go_wp2
 go_ret
 exact ⟨by rw [HF.out];rfl,HB3.out⟩
theorem wis_3 (k1:Int) (t1 x1:List UInt8) (k2:Int) (t2 x2:List UInt8) (k3:Int) (t3 x3:List UInt8) (w:World) (ht1:t1.length≤1000000000000000) (hx1:x1.length≤1000000000000000) (ht2:t2.length≤1000000000000000) (hx2:x2.length≤1000000000000000) (ht3:t3.length≤1000000000000000) (hx3:x3.length≤1000000000000000) (hV:Vars w) (h1:Tm.is k1 t1 x1=true) (h2:Tm.is k2 t2 x2=true) (h3:Tm.is k3 t3 x3=false) :
  Calls Tryz.prog 62 #[triV k1 t1 x1 k2 t2 x2 k3 t3 x3] w fun e w'=>e=.returned (.bool (isTriI k1 t1 x1 k2 t2 x2 k3 t3 x3))∧Below w.heap.size w w':=by
 have HB:=hid (show Below w.heap.size w (new9 w k1 t1 x1 k2 t2 x2 k3 t3 x3) from (Below.refl _ _).alloc (Nat.le_refl _) _)
 have HV:=hid (hV.keep HB.out)
 have HU:=hid (new9_new w k1 t1 x1 k2 t2 x2 k3 t3 x3)
 have HF:=hid (show isTriI k1 t1 x1 k2 t2 x2 k3 t3 x3=false by unfold isTriI;rw [h3];simp)
 have I1:=hid (fun W h=>ris_any k1 t1 x1 W (by omega) (by omega) h)
 rw [h1] at I1
 have I2:=hid (fun W h=>ris_any k2 t2 x2 W (by omega) (by omega) h)
 rw [h2] at I2
 have I3:=hid (fun W h=>ris_any k3 t3 x3 W (by omega) (by omega) h)
 rw [h3] at I3
 clear hV h1 h2 h3
 go_enter Tryz.func62,Tryz.ntmps62
 go_wp2_with (show wpList _ _ _ _ _ (new9 w k1 t1 x1 k2 t2 x2 k3 t3 x3);obtain ⟨w1,hw1⟩:∃ w1,w1=new9 w k1 t1 x1 k2 t2 x2 k3 t3 x3:=⟨_,rfl⟩;rw [←hw1] at HB HV HU ⊢;clear hw1;have c0:=HU.out.cell (i:=0) rfl;have c1:=HU.out.cell (i:=1) rfl;have c2:=HU.out.cell (i:=2) rfl)
 refine (I1.out _ HV.out).mono ?_
 rintro e w2 ⟨rfl,hb2⟩
 have HB2:=hid (below_then HB.out hb2)
 have HV2:=hid (HV.out.keep hb2)
 have HU2:=hid (HU.out.keep hb2)
 clear hb2
 have c3:=HU2.out.cell (i:=3) rfl
 have c4:=HU2.out.cell (i:=4) rfl
 have c5:=HU2.out.cell (i:=5) rfl
 go_wp2_with fail
 refine (I2.out _ HV2.out).mono ?_
 rintro e w3 ⟨rfl,hb3⟩
 have HB3:=hid (below_then HB2.out hb3)
 have HV3:=hid (HV2.out.keep hb3)
 have HU3:=hid (HU2.out.keep hb3)
 clear hb3
 have c6:=HU3.out.cell (i:=6) rfl
 have c7:=HU3.out.cell (i:=7) rfl
 have c8:=HU3.out.cell (i:=8) rfl
 go_wp2_with fail
 refine (I3.out _ HV3.out).mono ?_
 rintro e w4 ⟨rfl,hb4⟩
 have HB4:=hid (below_then HB3.out hb4)
 have HV4:=hid (HV3.out.keep hb4)
 have HU4:=hid (HU3.out.keep hb4)
 clear hb4
 go_wp2
 go_ret
 exact ⟨by rw [HF.out];rfl,HB4.out⟩
theorem wis_k1 (k1:Int) (t1 x1:List UInt8) (k2:Int) (t2 x2:List UInt8) (k3:Int) (t3 x3:List UInt8) (w:World) (ht1:t1.length≤1000000000000000) (hx1:x1.length≤1000000000000000) (ht2:t2.length≤1000000000000000) (hx2:x2.length≤1000000000000000) (ht3:t3.length≤1000000000000000) (hx3:x3.length≤1000000000000000) (hV:Vars w) (h1:Tm.is k1 t1 x1=true) (h2:Tm.is k2 t2 x2=true) (h3:Tm.is k3 t3 x3=true) (hk:2<k1) :
  Calls Tryz.prog 62 #[triV k1 t1 x1 k2 t2 x2 k3 t3 x3] w fun e w'=>e=.returned (.bool (isTriI k1 t1 x1 k2 t2 x2 k3 t3 x3))∧Below w.heap.size w w':=by
 have HB:=hid (show Below w.heap.size w (new9 w k1 t1 x1 k2 t2 x2 k3 t3 x3) from (Below.refl _ _).alloc (Nat.le_refl _) _)
 have HV:=hid (hV.keep HB.out)
 have HU:=hid (new9_new w k1 t1 x1 k2 t2 x2 k3 t3 x3)
 have HF:=hid (show isTriI k1 t1 x1 k2 t2 x2 k3 t3 x3=false by unfold isTriI;rw [decide_eq_false (by omega)];rfl)
 have I1:=hid (fun W h=>ris_any k1 t1 x1 W (by omega) (by omega) h)
 rw [h1] at I1
 have I2:=hid (fun W h=>ris_any k2 t2 x2 W (by omega) (by omega) h)
 rw [h2] at I2
 have I3:=hid (fun W h=>ris_any k3 t3 x3 W (by omega) (by omega) h)
 rw [h3] at I3
 clear hV h1 h2 h3
 go_enter Tryz.func62,Tryz.ntmps62
 go_wp2_with (show wpList _ _ _ _ _ (new9 w k1 t1 x1 k2 t2 x2 k3 t3 x3);obtain ⟨w1,hw1⟩:∃ w1,w1=new9 w k1 t1 x1 k2 t2 x2 k3 t3 x3:=⟨_,rfl⟩;rw [←hw1] at HB HV HU ⊢;clear hw1;have c0:=HU.out.cell (i:=0) rfl;have c1:=HU.out.cell (i:=1) rfl;have c2:=HU.out.cell (i:=2) rfl)
 refine (I1.out _ HV.out).mono ?_
 rintro e w2 ⟨rfl,hb2⟩
 have HB2:=hid (below_then HB.out hb2)
 have HV2:=hid (HV.out.keep hb2)
 have HU2:=hid (HU.out.keep hb2)
 clear hb2
 have c3:=HU2.out.cell (i:=3) rfl
 have c4:=HU2.out.cell (i:=4) rfl
 have c5:=HU2.out.cell (i:=5) rfl
 go_wp2_with fail
 refine (I2.out _ HV2.out).mono ?_
 rintro e w3 ⟨rfl,hb3⟩
 have HB3:=hid (below_then HB2.out hb3)
 have HV3:=hid (HV2.out.keep hb3)
 have HU3:=hid (HU2.out.keep hb3)
 clear hb3
 have c6:=HU3.out.cell (i:=6) rfl
 have c7:=HU3.out.cell (i:=7) rfl
 have c8:=HU3.out.cell (i:=8) rfl
 go_wp2_with fail
 refine (I3.out _ HV3.out).mono ?_
 rintro e w4 ⟨rfl,hb4⟩
 have HB4:=hid (below_then HB3.out hb4)
 have HV4:=hid (HV3.out.keep hb4)
 have HU4:=hid (HU3.out.keep hb4)
 clear hb4
 have c0:=HU4.out.cell (i:=0) rfl
 have c3:=HU4.out.cell (i:=3) rfl
 go_wp2
 go_ret
 exact ⟨by rw [HF.out];rfl,HB4.out⟩
theorem wis_k2 (k1:Int) (t1 x1:List UInt8) (k2:Int) (t2 x2:List UInt8) (k3:Int) (t3 x3:List UInt8) (w:World) (ht1:t1.length≤1000000000000000) (hx1:x1.length≤1000000000000000) (ht2:t2.length≤1000000000000000) (hx2:x2.length≤1000000000000000) (ht3:t3.length≤1000000000000000) (hx3:x3.length≤1000000000000000) (hV:Vars w) (h1:Tm.is k1 t1 x1=true) (h2:Tm.is k2 t2 x2=true) (h3:Tm.is k3 t3 x3=true) (hk:k1≤2) (hk2:k2≠1) :
  Calls Tryz.prog 62 #[triV k1 t1 x1 k2 t2 x2 k3 t3 x3] w fun e w'=>e=.returned (.bool (isTriI k1 t1 x1 k2 t2 x2 k3 t3 x3))∧Below w.heap.size w w':=by
 have HB:=hid (show Below w.heap.size w (new9 w k1 t1 x1 k2 t2 x2 k3 t3 x3) from (Below.refl _ _).alloc (Nat.le_refl _) _)
 have HV:=hid (hV.keep HB.out)
 have HU:=hid (new9_new w k1 t1 x1 k2 t2 x2 k3 t3 x3)
 have HF:=hid (show isTriI k1 t1 x1 k2 t2 x2 k3 t3 x3=false by unfold isTriI;rw [decide_eq_false hk2,Bool.and_false];rfl)
 have I1:=hid (fun W h=>ris_any k1 t1 x1 W (by omega) (by omega) h)
 rw [h1] at I1
 have I2:=hid (fun W h=>ris_any k2 t2 x2 W (by omega) (by omega) h)
 rw [h2] at I2
 have I3:=hid (fun W h=>ris_any k3 t3 x3 W (by omega) (by omega) h)
 rw [h3] at I3
 have e1:(k2==1)=false:=beq_eq_false_iff_ne.2 hk2
 clear hV h1 h2 h3
 go_enter Tryz.func62,Tryz.ntmps62
 go_wp2_with (show wpList _ _ _ _ _ (new9 w k1 t1 x1 k2 t2 x2 k3 t3 x3);obtain ⟨w1,hw1⟩:∃ w1,w1=new9 w k1 t1 x1 k2 t2 x2 k3 t3 x3:=⟨_,rfl⟩;rw [←hw1] at HB HV HU ⊢;clear hw1;have c0:=HU.out.cell (i:=0) rfl;have c1:=HU.out.cell (i:=1) rfl;have c2:=HU.out.cell (i:=2) rfl)
 refine (I1.out _ HV.out).mono ?_
 rintro e w2 ⟨rfl,hb2⟩
 have HB2:=hid (below_then HB.out hb2)
 have HV2:=hid (HV.out.keep hb2)
 have HU2:=hid (HU.out.keep hb2)
 clear hb2
 have c3:=HU2.out.cell (i:=3) rfl
 have c4:=HU2.out.cell (i:=4) rfl
 have c5:=HU2.out.cell (i:=5) rfl
 go_wp2_with fail
 refine (I2.out _ HV2.out).mono ?_
 rintro e w3 ⟨rfl,hb3⟩
 have HB3:=hid (below_then HB2.out hb3)
 have HV3:=hid (HV2.out.keep hb3)
 have HU3:=hid (HU2.out.keep hb3)
 clear hb3
 have c6:=HU3.out.cell (i:=6) rfl
 have c7:=HU3.out.cell (i:=7) rfl
 have c8:=HU3.out.cell (i:=8) rfl
 go_wp2_with fail
 refine (I3.out _ HV3.out).mono ?_
 rintro e w4 ⟨rfl,hb4⟩
 have HB4:=hid (below_then HB3.out hb4)
 have HV4:=hid (HV3.out.keep hb4)
 have HU4:=hid (HU3.out.keep hb4)
 clear hb4
 have c0:=HU4.out.cell (i:=0) rfl
 have c3:=HU4.out.cell (i:=3) rfl
 go_wp2
 go_ret
 exact ⟨by rw [HF.out];rfl,HB4.out⟩
theorem wis_ok (k1:Int) (t1 x1:List UInt8) (k2:Int) (t2 x2:List UInt8) (k3:Int) (t3 x3:List UInt8) (w:World) (ht1:t1.length≤1000000000000000) (hx1:x1.length≤1000000000000000) (ht2:t2.length≤1000000000000000) (hx2:x2.length≤1000000000000000) (ht3:t3.length≤1000000000000000) (hx3:x3.length≤1000000000000000) (hV:Vars w) (h1:Tm.is k1 t1 x1=true) (h2:Tm.is k2 t2 x2=true) (h3:Tm.is k3 t3 x3=true) (hk:k1≤2) (hk2:k2=1) :
  Calls Tryz.prog 62 #[triV k1 t1 x1 k2 t2 x2 k3 t3 x3] w fun e w'=>e=.returned (.bool (isTriI k1 t1 x1 k2 t2 x2 k3 t3 x3))∧Below w.heap.size w w':=by
 have HB:=hid (show Below w.heap.size w (new9 w k1 t1 x1 k2 t2 x2 k3 t3 x3) from (Below.refl _ _).alloc (Nat.le_refl _) _)
 have HV:=hid (hV.keep HB.out)
 have HU:=hid (new9_new w k1 t1 x1 k2 t2 x2 k3 t3 x3)
 have HF:=hid (show isTriI k1 t1 x1 k2 t2 x2 k3 t3 x3=true by have:=is_low h1;unfold isTriI;rw [h1,h2,h3,decide_eq_true (show k1=1∨k1=2 by omega),decide_eq_true hk2];rfl)
 have I1:=hid (fun W h=>ris_any k1 t1 x1 W (by omega) (by omega) h)
 rw [h1] at I1
 have I2:=hid (fun W h=>ris_any k2 t2 x2 W (by omega) (by omega) h)
 rw [h2] at I2
 have I3:=hid (fun W h=>ris_any k3 t3 x3 W (by omega) (by omega) h)
 rw [h3] at I3
 subst hk2
 clear hV h1 h2 h3
 go_enter Tryz.func62,Tryz.ntmps62
 go_wp2_with (show wpList _ _ _ _ _ (new9 w k1 t1 x1 1 t2 x2 k3 t3 x3);obtain ⟨w1,hw1⟩:∃ w1,w1=new9 w k1 t1 x1 1 t2 x2 k3 t3 x3:=⟨_,rfl⟩;rw [←hw1] at HB HV HU ⊢;clear hw1;have c0:=HU.out.cell (i:=0) rfl;have c1:=HU.out.cell (i:=1) rfl;have c2:=HU.out.cell (i:=2) rfl)
 refine (I1.out _ HV.out).mono ?_
 rintro e w2 ⟨rfl,hb2⟩
 have HB2:=hid (below_then HB.out hb2)
 have HV2:=hid (HV.out.keep hb2)
 have HU2:=hid (HU.out.keep hb2)
 clear hb2
 have c3:=HU2.out.cell (i:=3) rfl
 have c4:=HU2.out.cell (i:=4) rfl
 have c5:=HU2.out.cell (i:=5) rfl
 go_wp2_with fail
 refine (I2.out _ HV2.out).mono ?_
 rintro e w3 ⟨rfl,hb3⟩
 have HB3:=hid (below_then HB2.out hb3)
 have HV3:=hid (HV2.out.keep hb3)
 have HU3:=hid (HU2.out.keep hb3)
 clear hb3
 have c6:=HU3.out.cell (i:=6) rfl
 have c7:=HU3.out.cell (i:=7) rfl
 have c8:=HU3.out.cell (i:=8) rfl
 go_wp2_with fail
 refine (I3.out _ HV3.out).mono ?_
 rintro e w4 ⟨rfl,hb4⟩
 have HB4:=hid (below_then HB3.out hb4)
 have HV4:=hid (HV3.out.keep hb4)
 have HU4:=hid (HU3.out.keep hb4)
 clear hb4
 have c0:=HU4.out.cell (i:=0) rfl
 have c3:=HU4.out.cell (i:=3) rfl
 go_wp2
 go_ret
 exact ⟨by rw [HF.out];rfl,HB4.out⟩
theorem wis_any (k1:Int) (t1 x1:List UInt8) (k2:Int) (t2 x2:List UInt8) (k3:Int) (t3 x3:List UInt8) (w:World) (ht1:t1.length≤1000000000000000) (hx1:x1.length≤1000000000000000) (ht2:t2.length≤1000000000000000) (hx2:x2.length≤1000000000000000) (ht3:t3.length≤1000000000000000) (hx3:x3.length≤1000000000000000) (hV:Vars w) :
  Calls Tryz.prog 62 #[triV k1 t1 x1 k2 t2 x2 k3 t3 x3] w fun e w'=>e=.returned (.bool (isTriI k1 t1 x1 k2 t2 x2 k3 t3 x3))∧Below w.heap.size w w':=by
 cases h1:Tm.is k1 t1 x1
 · exact wis_1 k1 t1 x1 k2 t2 x2 k3 t3 x3 w ht1 hx1 ht2 hx2 ht3 hx3 hV h1
 · cases h2:Tm.is k2 t2 x2
   · exact wis_2 k1 t1 x1 k2 t2 x2 k3 t3 x3 w ht1 hx1 ht2 hx2 ht3 hx3 hV h1 h2
   · cases h3:Tm.is k3 t3 x3
     · exact wis_3 k1 t1 x1 k2 t2 x2 k3 t3 x3 w ht1 hx1 ht2 hx2 ht3 hx3 hV h1 h2 h3
     · by_cases hk:k1≤2
       · by_cases hk2:k2=1
         · exact wis_ok k1 t1 x1 k2 t2 x2 k3 t3 x3 w ht1 hx1 ht2 hx2 ht3 hx3 hV h1 h2 h3 hk hk2
         · exact wis_k2 k1 t1 x1 k2 t2 x2 k3 t3 x3 w ht1 hx1 ht2 hx2 ht3 hx3 hV h1 h2 h3 hk hk2
       · exact wis_k1 k1 t1 x1 k2 t2 x2 k3 t3 x3 w ht1 hx1 ht2 hx2 ht3 hx3 hV h1 h2 h3 (by omega)
theorem tri_is_eq (t:Tri):t.is=isTriI t.k1 t.t1 t.x1 t.k2 t.t2 t.x2 t.k3 t.t3 t.x3:=rfl
def LongPost (L:List Tri) (w:World) (e:Ending) (w':World):Prop:=∃ B:Bool,e=.returned (.bool B)∧(B=false→longB L=false∧mayB L=true)∧Below w.heap.size w w'
theorem long11_any (L:List Tri) (w:World) (v:Value) (hv:TrisAt w v L) (hlow:∀ t∈L,t.low 1000000000000000) (hn:L.length≤140737488351232) (hV:Vars w) :
  Calls Tryz.prog 20 #[v] w (LongPost L w):=by
 have LI:=hid (fun (a:Tri) (W:World) l1 l2 l3 l4 l5 l6 hV=>wis_any a.k1 a.t1 a.x1 a.k2 a.t2 a.x2 a.k3 a.t3 a.x3 W l1 l2 l3 l4 l5 l6 hV)
 obtain ⟨a,cap,rfl,hc1,hc2,hc3⟩:=hv.open
 have HV:=hid hv
 have HVV:=hid hV
 have HL:=hid hlow
 obtain ⟨n,hn0⟩:∃ n,n=L.length:=⟨_,rfl⟩
 rw [←hn0] at HV hn ⊢
 have HN:=hid hn0
 clear hv hlow hc1 hc2 hc3 hn0 hV
 go_enter Tryz.func20,Tryz.ntmps20
 go_wp2
 go_loopg [3,4] n (fun gk s3 s4 wr=>∃ (z:Int) (i:Nat),s3=.int .i64 z∧s4=.int .i64 i∧i≤n∧n-i≤gk∧0≤z∧Hid (Below w.heap.size w wr)∧z≤7000000000000000∧Hid (z=bigSum (L.take i))∧Hid (mayB (L.take i)=true))
 case atStart=>exact ⟨0,0,rfl,rfl,Nat.zero_le _,Nat.le_refl _,by omega,Below.refl _ _,by omega,hid rfl,hid rfl⟩
 case round=>
  obtain ⟨z,i,rfl,rfl,hin,hg,hz0,HB,hz7,HZ,HMY⟩:=hrel
  by_cases hlt:i<n
  · have hltz:(i:Int)<(n:Int):=by omega
    by_cases h9:z≤9000
    · have hiL:i<L.length:=by rw [←HN.out];exact hlt
      have HVr:=hid (HV.out.keep HB.out)
      obtain ⟨bl,off,rfl,hrow⟩:=HVr.out.get (i:=i) hiL
      have HRW:=hid (hrow i hiL)
      have HT:=hid (show bigSum (L.take (i+1))=bigSum (L.take i)+L[i].big by
       rw [List.take_add_one,List.getElem?_eq_getElem hiL];exact bigSum_snoc _ _)
      have HM2:=hid (show L[i].is=true→mayB (L.take (i+1))=true from fun h=>by
       have h2:=HMY.out
       unfold mayB at h2 ⊢
       rw [List.take_succ_eq_append_getElem hiL,List.all_append,h2]
       simp [h])
      have hlo:=HL.out L[i] (List.getElem_mem hiL)
      generalize L[i]=t at HRW HT hlo HM2
      have HLO:=hid hlo
      obtain ⟨k1,t1,x1,k2,t2,x2,k3,t3,x3⟩:=t
      obtain ⟨l1,l2,l3,l4,l5,l6⟩:=hlo
      simp only at l1 l2 l3 l4 l5 l6
      have LIr:=hid (LI.out ⟨k1,t1,x1,k2,t2,x2,k3,t3,x3⟩)
      clear hrow
      have c0:=HRW.out 0 (by omega)
      have c1:=HRW.out 1 (by omega)
      have c2:=HRW.out 2 (by omega)
      have c3:=HRW.out 3 (by omega)
      have c4:=HRW.out 4 (by omega)
      have c5:=HRW.out 5 (by omega)
      have c6:=HRW.out 6 (by omega)
      have c7:=HRW.out 7 (by omega)
      have c8:=HRW.out 8 (by omega)
      simp only [Tri.cells,List.getElem?_cons_zero,List.getElem?_cons_succ,Nat.add_zero] at c0 c1 c2 c3 c4 c5 c6 c7 c8
      obtain ⟨z2,hz2⟩:∃ z2,z2=z+3+t1.length+x1.length+t2.length+x2.length+t3.length+x3.length:=⟨_,rfl⟩
      have w1:IntKind.i64.wrap (z+3)=z+3:=by rw [IntKind.wrap_i64];omega
      have w2:IntKind.i64.wrap (z+3+(t1.length:Int))=z+3+t1.length:=by rw [IntKind.wrap_i64];omega
      have w3:IntKind.i64.wrap (z+3+(t1.length:Int)+x1.length)=z+3+t1.length+x1.length:=by rw [IntKind.wrap_i64];omega
      have w4:IntKind.i64.wrap (z+3+(t1.length:Int)+x1.length+t2.length)=z+3+t1.length+x1.length+t2.length:=by rw [IntKind.wrap_i64];omega
      have w5:IntKind.i64.wrap (z+3+(t1.length:Int)+x1.length+t2.length+x2.length)=z+3+t1.length+x1.length+t2.length+x2.length:=by rw [IntKind.wrap_i64];omega
      have w6:IntKind.i64.wrap (z+3+(t1.length:Int)+x1.length+t2.length+x2.length+t3.length)=z+3+t1.length+x1.length+t2.length+x2.length+t3.length:=by rw [IntKind.wrap_i64];omega
      have w7:IntKind.i64.wrap (z+3+(t1.length:Int)+x1.length+t2.length+x2.length+t3.length+x3.length)=z2:=by rw [IntKind.wrap_i64];omega
      have hz20:0≤z2:=by omega
      have hz27:z2≤7000000000000000:=by omega
      have HZ2:=hid hz2
      clear hz2 l1 l2 l3 l4 l5 l6
      obtain ⟨b,hb⟩:∃ b,b=isTriI k1 t1 x1 k2 t2 x2 k3 t3 x3:=⟨_,rfl⟩
      have HBI:=hid hb
      have LIs:=hid (fun (W:World) (hB:Below w.heap.size w W)=>LIr.out W HLO.out.1 HLO.out.2.1 HLO.out.2.2.1 HLO.out.2.2.2.1 HLO.out.2.2.2.2.1 HLO.out.2.2.2.2.2 (HVV.out.keep hB))
      simp only at LIs
      rw [←hb] at LIs
      clear hb LIr
      cases b
      · go_wp2
        go_quiet (fail)
        go_wp2_with (go_at_call 62;refine (LIs.out _ (below_drawn HB.out _)).mono ?_;rintro e w9 ⟨rfl,hb9⟩;have HB9:=hid (below_then (below_drawn HB.out _) hb9);clear hb9)
        go_ret
        exact ⟨true,rfl,(fun h=>by cases h),HB9.out⟩
      · go_wp2
        go_quiet (fail)
        go_wp2_with (go_at_call 62;refine (LIs.out _ (below_drawn HB.out _)).mono ?_;rintro e w9 ⟨rfl,hb9⟩;have HB9:=hid (below_then (below_drawn HB.out _) hb9);clear hb9)
        go_roundg (n-(i+1))
        case measure=>omega
        case rel=>exact ⟨z2,i+1,rfl,by go_num,by omega,by omega,hz20,HB9,hz27,by
         show _=_
         rw [HT.out,HZ2.out,←HZ.out];unfold Tri.big;simp only;omega,HM2.out (by rw [tri_is_eq];exact HBI.out.symm)⟩
    · have hz9:(9000:Int)<z:=by omega
      go_wp2
      go_ret
      exact ⟨true,rfl,(fun h=>by cases h),HB.out⟩
  · obtain rfl:i=n:=by omega
    have hltz:¬ (i:Int)<(i:Int):=by omega
    have HE:=hid (show z=bigSum L by rw [HZ.out,HN.out,List.take_length])
    by_cases h9:z≤9000
    · have HF:=hid (show longB L=false from decide_eq_false (by have:=HE.out;omega))
      have HD:=hid (show decide (9000<z)=false from decide_eq_false (by omega))
      go_wp2
      go_ret
      exact ⟨false,by show Ending.returned (.bool (decide (9000<z)))=_;rw [HD.out],fun _=>⟨HF.out,by have:=HMY.out;rwa [HN.out,List.take_length] at this⟩,HB.out⟩
    · have hz9:(9000:Int)<z:=by omega
      go_wp2
      go_ret
      exact ⟨true,rfl,(fun h=>by cases h),HB.out⟩
end Go.Proofs.YtjaebndajhppgaaGreatDoor
namespace Go.Proofs.YtjaebndajhppgaaGreatDoor
open Go.ChangeShapes Go.WideShapes Go.ChangeAt Go.RowKit
theorem rcmp_any (k k2:Nat) (t x t2 x2:List UInt8) (W:World) (hk:1≤k∧k≤5) (hk2:1≤k2∧k2≤5) (ht:t.length≤1000000000) (hx:x.length≤1000000000) (ht2:t2.length≤1000000000) (hx2:x2.length≤1000000000) :
  Calls Tryz.prog 31 #[tmV (k:Nat) t x,tmV (k2:Nat) t2 x2] W fun e W'=>e=.returned (.int .i64 (Tm.cmp (Tm.showT k t x) (Tm.showT k2 t2 x2)))∧Below W.heap.size W W':=by
 have S1:=hid (fun W=>rshow_any k t x W hk ht hx)
 have S2:=hid (fun W=>rshow_any k2 t2 x2 W hk2 ht2 hx2)
 obtain ⟨a,ha⟩:∃ a,a=Tm.showT k t x:=⟨_,rfl⟩
 obtain ⟨b,hb⟩:∃ b,b=Tm.showT k2 t2 x2:=⟨_,rfl⟩
 rw [←ha] at S1 ⊢
 rw [←hb] at S2 ⊢
 clear ha hb
 go_enter Tryz.func31,Tryz.ntmps31
 go_wp2
 obtain ⟨w2,hw2⟩:∃ w2,w2=((W.alloc (.cells #[.int .i64 (k:Nat),str t,str x] 61)).alloc (.cells #[.int .i64 (k2:Nat),str t2,str x2] 61)):=⟨_,rfl⟩
 have HB:=hid (show Below W.heap.size W w2 by rw [hw2];exact ((Below.refl W.heap.size W).alloc (Nat.le_refl _) _).alloc (by simp) _)
 have hb1:=((Below.refl (W.alloc (.cells #[.int .i64 (k:Nat),str t,str x] 61)).heap.size (W.alloc (.cells #[.int .i64 (k:Nat),str t,str x] 61))).alloc (Nat.le_refl _) (.cells #[.int .i64 (k2:Nat),str t2,str x2] 61))
 rw [←hw2] at hb1 ⊢
 obtain ⟨c0,c1,c2,_⟩:=tm_cells hb1
 have d0:w2.cell? ⟨W.heap.size+1,0,none⟩=some (.int .i64 (k2:Nat)):=by
  have:=cell_new (W.alloc (.cells #[.int .i64 (k:Nat),str t,str x] 61)) #[.int .i64 (k2:Nat),str t2,str x2] 61 (0,0) 0
  rw [←hw2] at this;simpa using this
 have d1:w2.cell? ⟨W.heap.size+1,1,none⟩=some (str t2):=by
  have:=cell_new (W.alloc (.cells #[.int .i64 (k:Nat),str t,str x] 61)) #[.int .i64 (k2:Nat),str t2,str x2] 61 (0,0) 1
  rw [←hw2] at this;simpa using this
 have d2:w2.cell? ⟨W.heap.size+1,2,none⟩=some (str x2):=by
  have:=cell_new (W.alloc (.cells #[.int .i64 (k:Nat),str t,str x] 61)) #[.int .i64 (k2:Nat),str t2,str x2] 61 (0,0) 2
  rw [←hw2] at this;simpa using this
 clear hw2 hb1
 have kc0:=fun p:Later w2.heap.size w2=>p.keep c0
 have kc1:=fun p:Later w2.heap.size w2=>p.keep c1
 have kc2:=fun p:Later w2.heap.size w2=>p.keep c2
 have kd0:=fun p:Later w2.heap.size w2=>p.keep d0
 have kd1:=fun p:Later w2.heap.size w2=>p.keep d1
 have kd2:=fun p:Later w2.heap.size w2=>p.keep d2
 clear c0 c1 c2 d0 d1 d2
 refine wp_region_later w2.heap.size (by kernel_rfl) (by kernel_rfl) ?_
 repeat (go_big_quiet_step (first
  | (go_at_call 63;with_reducible exact Later.call (Nat.le_refl _) (S1.out _))
  | (go_at_call 63;with_reducible exact Later.call (Nat.le_refl _) (S2.out _))))
 refine wpQuiet_nil ?_
 rintro _ ⟨p,rfl⟩
 have HP:=hid (below_then HB.out p.low)
 clear kc0 kc1 kc2 kd0 kd1 kd2
 rcases (show (Tm.lt a b=true)∨(Tm.lt a b=false∧Tm.lt b a=true)∨(Tm.lt a b=false∧Tm.lt b a=false) by cases Tm.lt a b <;> cases Tm.lt b a <;> simp) with h | ⟨h,h'⟩ | ⟨h,h'⟩
 · have HC:=hid (show Tm.cmp a b = -1 by unfold Tm.cmp;rw [h];rfl)
   go_wp2
   go_ret
   exact ⟨by rw [HC.out];rfl,HP.out⟩
 · have HC:=hid (show Tm.cmp a b=1 by unfold Tm.cmp;rw [h,h'];rfl)
   have he:(a==b)=false:=beq_eq_false_iff_ne.2 (fun e=>by rw [e,Tm.lt_irrefl] at h';cases h')
   go_wp2
   go_ret
   exact ⟨by rw [HC.out];rfl,HP.out⟩
 · have HC:=hid (show Tm.cmp a b=0 by unfold Tm.cmp;rw [h,h'];rfl)
   have he:(a==b)=true:=beq_iff_eq.2 (Tm.lt_tri h h')
   go_wp2
   go_ret
   exact ⟨by rw [HC.out];rfl,HP.out⟩
theorem lcmp_any (k1:Nat) (t1 x1:List UInt8) (k2:Nat) (t2 x2:List UInt8) (k3:Nat) (t3 x3:List UInt8) (l1:Nat) (u1 y1:List UInt8) (l2:Nat) (u2 y2:List UInt8) (l3:Nat) (u3 y3:List UInt8) (w:World) (hk1:1≤k1∧k1≤5) (ht1:t1.length≤1000000000) (hx1:x1.length≤1000000000) (hk2:1≤k2∧k2≤5) (ht2:t2.length≤1000000000) (hx2:x2.length≤1000000000) (hk3:1≤k3∧k3≤5) (ht3:t3.length≤1000000000) (hx3:x3.length≤1000000000) (hl1:1≤l1∧l1≤5) (hu1:u1.length≤1000000000) (hy1:y1.length≤1000000000) (hl2:1≤l2∧l2≤5) (hu2:u2.length≤1000000000) (hy2:y2.length≤1000000000) (hl3:1≤l3∧l3≤5) (hu3:u3.length≤1000000000) (hy3:y3.length≤1000000000) :
  Calls Tryz.prog 108 #[triV (k1:Nat) t1 x1 (k2:Nat) t2 x2 (k3:Nat) t3 x3,triV (l1:Nat) u1 y1 (l2:Nat) u2 y2 (l3:Nat) u3 y3] w fun e w'=>e=.returned (.int .i64 (Tm.cmp3 (Tm.showT k1 t1 x1) (Tm.showT k2 t2 x2) (Tm.showT k3 t3 x3) (Tm.showT l1 u1 y1) (Tm.showT l2 u2 y2) (Tm.showT l3 u3 y3)))∧Below w.heap.size w w':=by
 have C1:=hid (fun W=>rcmp_any k1 l1 t1 x1 u1 y1 W hk1 hl1 ht1 hx1 hu1 hy1)
 have C2:=hid (fun W=>rcmp_any k2 l2 t2 x2 u2 y2 W hk2 hl2 ht2 hx2 hu2 hy2)
 have C3:=hid (fun W=>rcmp_any k3 l3 t3 x3 u3 y3 W hk3 hl3 ht3 hx3 hu3 hy3)
 obtain ⟨R,hR⟩:∃ R,R=Tm.cmp3 (Tm.showT k1 t1 x1) (Tm.showT k2 t2 x2) (Tm.showT k3 t3 x3) (Tm.showT l1 u1 y1) (Tm.showT l2 u2 y2) (Tm.showT l3 u3 y3):=⟨_,rfl⟩
 rw [←hR]
 unfold Tm.cmp3 at hR
 obtain ⟨c1,e1⟩:∃ c,c=Tm.cmp (Tm.showT k1 t1 x1) (Tm.showT l1 u1 y1):=⟨_,rfl⟩
 rw [←e1] at hR C1
 obtain ⟨c2,e2⟩:∃ c,c=Tm.cmp (Tm.showT k2 t2 x2) (Tm.showT l2 u2 y2):=⟨_,rfl⟩
 rw [←e2] at hR C2
 obtain ⟨c3,e3⟩:∃ c,c=Tm.cmp (Tm.showT k3 t3 x3) (Tm.showT l3 u3 y3):=⟨_,rfl⟩
 rw [←e3] at hR C3
 have HR:=hid hR
 clear hR e1 e2 e3
 obtain ⟨w1,hw1,HA,HC,HB⟩:=two_new w (k1:Nat) t1 x1 (k2:Nat) t2 x2 (k3:Nat) t3 x3 (l1:Nat) u1 y1 (l2:Nat) u2 y2 (l3:Nat) u3 y3
 have HA:=hid HA
 have HC:=hid HC
 have HB:=hid HB
 by_cases h1:c1=0
 · have hb1:(c1==0)=true:=beq_iff_eq.2 h1
   by_cases h2:c2=0
   · have hb2:(c2==0)=true:=beq_iff_eq.2 h2
     have HF:=hid (show R=c3 by rw [HR.out,if_pos h1,if_pos h2])
     go_enter Tryz.func108,Tryz.ntmps108
     go_wp2_with (show wpList _ _ _ _ _ (new9 (new9 w (k1:Nat) t1 x1 (k2:Nat) t2 x2 (k3:Nat) t3 x3) (l1:Nat) u1 y1 (l2:Nat) u2 y2 (l3:Nat) u3 y3);rw [←hw1];clear hw1;have g0:=HA.out.cell (i:=0) rfl;have j0:=HC.out.cell (i:=0) rfl;have g1:=HA.out.cell (i:=1) rfl;have j1:=HC.out.cell (i:=1) rfl;have g2:=HA.out.cell (i:=2) rfl;have j2:=HC.out.cell (i:=2) rfl)
     refine (C1.out _).mono ?_
     rintro e w2 ⟨rfl,hlow⟩
     have HB2:=hid (below_then HB.out hlow)
     have HA2:=hid (HA.out.keep hlow)
     have HC2:=hid (HC.out.keep hlow)
     clear hlow
     have g3:=HA2.out.cell (i:=3) rfl
     have g4:=HA2.out.cell (i:=4) rfl
     have g5:=HA2.out.cell (i:=5) rfl
     have j3:=HC2.out.cell (i:=3) rfl
     have j4:=HC2.out.cell (i:=4) rfl
     have j5:=HC2.out.cell (i:=5) rfl
     go_wp2_with fail
     refine (C2.out _).mono ?_
     rintro e w3 ⟨rfl,hlow⟩
     have HB3:=hid (below_then HB2.out hlow)
     have HA3:=hid (HA2.out.keep hlow)
     have HC3:=hid (HC2.out.keep hlow)
     clear hlow
     have g6:=HA3.out.cell (i:=6) rfl
     have g7:=HA3.out.cell (i:=7) rfl
     have g8:=HA3.out.cell (i:=8) rfl
     have j6:=HC3.out.cell (i:=6) rfl
     have j7:=HC3.out.cell (i:=7) rfl
     have j8:=HC3.out.cell (i:=8) rfl
     go_wp2_with fail
     refine (C3.out _).mono ?_
     rintro e w4 ⟨rfl,hlow⟩
     have HB4:=hid (below_then HB3.out hlow)
     go_wp2
     go_ret
     exact ⟨by rw [HF.out];rfl,HB4.out⟩
   · have hb2:(c2==0)=false:=beq_eq_false_iff_ne.2 h2
     have HF:=hid (show R=c2 by rw [HR.out,if_pos h1,if_neg h2])
     go_enter Tryz.func108,Tryz.ntmps108
     go_wp2_with (show wpList _ _ _ _ _ (new9 (new9 w (k1:Nat) t1 x1 (k2:Nat) t2 x2 (k3:Nat) t3 x3) (l1:Nat) u1 y1 (l2:Nat) u2 y2 (l3:Nat) u3 y3);rw [←hw1];clear hw1;have g0:=HA.out.cell (i:=0) rfl;have j0:=HC.out.cell (i:=0) rfl;have g1:=HA.out.cell (i:=1) rfl;have j1:=HC.out.cell (i:=1) rfl;have g2:=HA.out.cell (i:=2) rfl;have j2:=HC.out.cell (i:=2) rfl)
     refine (C1.out _).mono ?_
     rintro e w2 ⟨rfl,hlow⟩
     have HB2:=hid (below_then HB.out hlow)
     have HA2:=hid (HA.out.keep hlow)
     have HC2:=hid (HC.out.keep hlow)
     clear hlow
     have g3:=HA2.out.cell (i:=3) rfl
     have g4:=HA2.out.cell (i:=4) rfl
     have g5:=HA2.out.cell (i:=5) rfl
     have j3:=HC2.out.cell (i:=3) rfl
     have j4:=HC2.out.cell (i:=4) rfl
     have j5:=HC2.out.cell (i:=5) rfl
     go_wp2_with fail
     refine (C2.out _).mono ?_
     rintro e w3 ⟨rfl,hlow⟩
     have HB3:=hid (below_then HB2.out hlow)
     go_wp2
     go_ret
     exact ⟨by rw [HF.out];rfl,HB3.out⟩
 · have hb1:(c1==0)=false:=beq_eq_false_iff_ne.2 h1
   have HF:=hid (show R=c1 by rw [HR.out,if_neg h1])
   go_enter Tryz.func108,Tryz.ntmps108
   go_wp2_with (show wpList _ _ _ _ _ (new9 (new9 w (k1:Nat) t1 x1 (k2:Nat) t2 x2 (k3:Nat) t3 x3) (l1:Nat) u1 y1 (l2:Nat) u2 y2 (l3:Nat) u3 y3);rw [←hw1];clear hw1;have g0:=HA.out.cell (i:=0) rfl;have j0:=HC.out.cell (i:=0) rfl;have g1:=HA.out.cell (i:=1) rfl;have j1:=HC.out.cell (i:=1) rfl;have g2:=HA.out.cell (i:=2) rfl;have j2:=HC.out.cell (i:=2) rfl)
   refine (C1.out _).mono ?_
   rintro e w2 ⟨rfl,hlow⟩
   have HB2:=hid (below_then HB.out hlow)
   go_wp2
   go_ret
   exact ⟨by rw [HF.out];rfl,HB2.out⟩
theorem step_append_opt {w:World} {P:Program} {ops:Array Oper} {o:Oper} {a:Act} {K:Act→World→Prop} {Q:Exit→Act→World→Prop} {E:Prop} (hgd:o.guard=none) (s x:Operand) (t:TypeId)
  (ho:o.op=.call { callee:=.builtin .append,args:=#[s,x],argTypes:=#[t,t] })
  (base:Nat) (e:TypeId) (i:TypeInfo) (z:Value) (size bytes:Nat) (ht:P.underlying t=some (.slice e)) (hi:P.info? e=some i) (hz:i.zero=some z)
  (hsize:i.size=size) (hby:i.bytes=bytes) (hzs:z.cells.size=size) (hsz:0<size)
  (v:Value) (n:Nat) (xs:List Value) (hs:a.eval s=v) (hown:w.ownsRow base e size v n xs)
  (sa:Option Addr) (m c:Nat) (us:List Value) (hx:a.eval x=.slice sa m c) (hnil:sa=none→m=0∧c=0) (hm:us.length=m*size) (hc:∀ ad,sa=some ad→∀ j u,us[j]?=some u→w.cell? (ad.add j)=some u) (h1:∀ u∈us,u.oneCell'=true)
  (h63:n+m≤maxLen) (hbytes:(n+m)*bytes≤140737488355328) (hbase:base≤w.heap.size)
  (h:∀ v' w',w'.ownsRow base e size v' (n+m) (xs++us)→w.grownBy w' v.ownBlock→Moved w v v'→K (a.put o.dst v') w') :
  if Region.wanted o (yielded ops a.tmps)=true then Oper.wp P o a w K Q else E:=by
 cases sa with
 | some ad=>exact step_append_seg hgd s x t ho base e i z size bytes ht hi hz hsize hby hzs hsz v n xs hs hown ad m c us hm hx (hc ad rfl) h1 h63 hbytes hbase h
 | none=>
  obtain ⟨rfl,rfl⟩:=hnil rfl
  obtain rfl:us=[]:=List.eq_nil_of_length_eq_zero (by simpa using hm)
  have hwd:Region.wanted o (yielded ops a.tmps)=true:=by simp [Region.wanted,hgd]
  rw [if_pos hwd]
  have hrun:=run_append_owned_none (P:=P) (w:=w) base t o.type e i size ht hi v n xs hown
  have hk:=h v w (by simpa using hown) ⟨rfl,rfl,rfl,Nat.le_refl _,fun _ _ _=>rfl⟩ (Or.inl rfl)
  unfold Oper.wp execOp
  simp only [ho,resolve,invoke,builtin,Sem.run_bind,Sem.run_pure,Result.andThen_ok,List.map_toArray,List.map_cons,List.map_nil,hs,hx,hrun]
  exact hk
theorem lcmp_tri (p q:TR) (hp:Tm.isTri p=true) (hq:Tm.isTri q=true) (W:World):Calls Tryz.prog 108 #[trV p,trV q] W fun e w'=>e=.returned (.int .i64 (Tm.cmpT p q))∧Below W.heap.size W w':=by
 obtain ⟨_,_,a1,a2,a3⟩:=Tm.isTri_parts hp
 obtain ⟨_,_,b1,b2,b3⟩:=Tm.isTri_parts hq
 have c1:=Tm.show_len a1
 have c2:=Tm.show_len a2
 have c3:=Tm.show_len a3
 have d1:=Tm.show_len b1
 have d2:=Tm.show_len b2
 have d3:=Tm.show_len b3
 obtain ⟨n1,e1,_,_⟩:=Tm.is_kind a1
 obtain ⟨n2,e2,_,_⟩:=Tm.is_kind a2
 obtain ⟨n3,e3,_,_⟩:=Tm.is_kind a3
 obtain ⟨m1,f1,_,_⟩:=Tm.is_kind b1
 obtain ⟨m2,f2,_,_⟩:=Tm.is_kind b2
 obtain ⟨m3,f3,_,_⟩:=Tm.is_kind b3
 exact lcmp_any _ _ _ _ _ _ _ _ _ _ _ _ _ _ _ _ _ _ W (by omega) (by omega) (by omega) (by omega) (by omega) (by omega) (by omega) (by omega) (by omega) (by omega) (by omega) (by omega) (by omega) (by omega) (by omega) (by omega) (by omega) (by omega)
theorem takeWhile_gen {β:Type} {p:β→Bool}:∀ {l:List β} (c:β) (r:List β),(∀ d∈l,p d=true)→p c=false→(l++c::r).takeWhile p=l∧(l++c::r).dropWhile p=c::r
 | [],c,r,_,hc=>by simp [hc]
 | d::l,c,r,h,hc=>by
  have hd:=h d (by simp)
  have ih:=takeWhile_gen (p:=p) (l:=l) c r (fun e he=>h e (by simp [he])) hc
  simp [hd,ih.1,ih.2]
theorem takeWhile_whole {β:Type} {p:β→Bool}:∀ {l:List β},(∀ d∈l,p d=true)→l.takeWhile p=l∧l.dropWhile p=[]
 | [],_=>⟨rfl,rfl⟩
 | d::l,h=>by
  have hd:=h d (by simp)
  have ih:=takeWhile_whole (p:=p) (l:=l) (fun e he=>h e (by simp [he]))
  simp [hd,ih.1,ih.2]
theorem put_split {L:List TR} {t:TR} {i:Nat} (hi:i≤L.length) (hlo:∀ j (h:j<L.length),j<i→Tm.cmpT L[j] t<0) (hhi:∀ h:i<L.length,¬ Tm.cmpT L[i] t<0) :
  (L.takeWhile fun a=>decide (Tm.cmpT a t<0))=L.take i∧(L.dropWhile fun a=>decide (Tm.cmpT a t<0))=L.drop i:=by
 have h1:∀ d∈L.take i,decide (Tm.cmpT d t<0)=true:=fun d hd=>by
  obtain ⟨j,hj,rfl⟩:=List.getElem_of_mem hd
  rw [List.length_take] at hj
  rw [List.getElem_take]
  exact decide_eq_true (hlo j (by omega) (by omega))
 have e:=List.take_append_drop i L
 rcases Nat.lt_or_ge i L.length with h | h
 · have hd:L.drop i=L[i]::L.drop (i+1):=List.drop_eq_getElem_cons h
   have h2:=takeWhile_gen (p:=fun a=>decide (Tm.cmpT a t<0)) (l:=L.take i) L[i] (L.drop (i+1)) h1 (decide_eq_false (hhi h))
   rw [←hd,e] at h2
   exact h2
 · have hd:L.drop i=[]:=List.drop_eq_nil_of_le h
   have ht:L.take i=L:=List.take_of_length_le h
   rw [ht] at h1
   rw [hd,ht]
   exact takeWhile_whole (p:=fun a=>decide (Tm.cmpT a t<0)) h1
theorem put_there {L:List TR} {t:TR} {i:Nat} (hi:i<L.length) (hlo:∀ j (h:j<L.length),j<i→Tm.cmpT L[j] t<0) (h0:Tm.cmpT L[i] t=0) (hv:∀ a∈L,Tm.isTri a=true) (ht:Tm.isTri t=true):Tm.put L t=L:=by
 obtain ⟨_,h2⟩:=put_split (Nat.le_of_lt hi) hlo (fun _=>by omega)
 have e:=(Tm.cmpT_zero (hv _ (List.getElem_mem hi)) ht).1 h0
 unfold Tm.put
 rw [h2,List.drop_eq_getElem_cons hi,if_pos (by rw [e];exact beq_self_eq_true _)]
theorem put_new {L:List TR} {t:TR} {i:Nat} (hi:i≤L.length) (hlo:∀ j (h:j<L.length),j<i→Tm.cmpT L[j] t<0) (hhi:∀ h:i<L.length,0<Tm.cmpT L[i] t):Tm.put L t=L.take i++t::L.drop i:=by
 obtain ⟨h1,h2⟩:=put_split hi hlo (fun h=>by have:=hhi h;omega)
 unfold Tm.put
 rw [h1,h2,if_neg]
 intro h
 rcases Nat.lt_or_ge i L.length with h3 | h3
 · rw [List.drop_eq_getElem_cons h3,List.head?_cons] at h
   have e:L[i]=t:=Option.some.inj (eq_of_beq h)
   have h4:=hhi h3
   have:=Tm.cmpT_neg L[i] t
   rw [e] at h4
   have h5:=Tm.cmpT_neg t t
   omega
 · rw [List.drop_eq_nil_of_le h3] at h
   exact absurd (eq_of_beq h) (by simp)
theorem rowCells_len:∀ (l:List TR),(rowCells l).length=l.length*9
 | []=>rfl
 | t::l=>by
  have h:rowCells (t::l)=(ofT t).cells++rowCells l:=rfl
  rw [h,List.length_append,rowCells_len l,List.length_cons]
  show 9+_=_
  omega
theorem rowCells_one (l:List TR):∀ u∈rowCells l,u.oneCell'=true:=by
 intro u hu
 unfold rowCells at hu
 obtain ⟨t,_,ht⟩:=List.mem_flatMap.1 hu
 exact tri_one t u ht
theorem rowCells_app (a b:List TR):rowCells (a++b)=rowCells a++rowCells b:=by simp [rowCells]
theorem tris_src {W:World} {a:Option Addr} {m c:Nat} {l:List TR} (h:TrisAt W (.slice a m c) (l.map ofT)):m=l.length∧(a=none→m=0∧c=0)∧∀ ad,a=some ad→∀ j u,(rowCells l)[j]?=some u→W.cell? (ad.add j)=some u:=by
 obtain ⟨a',c',e,h1,h2,h3,h4⟩:=h
 simp only [Value.slice.injEq] at e
 obtain ⟨rfl,rfl,rfl⟩:=e
 simp only [List.length_map] at h1 h4 ⊢
 refine ⟨trivial,fun h=>⟨by have:=h3 h;omega,h3 h⟩,fun ad had j u hu=>?_⟩
 have hj:j<l.length*9:=by
  have:=(List.getElem?_eq_some_iff.1 hu).1
  rwa [rowCells_len] at this
 rcases h4 with h4 | ⟨b,off,hb,hc⟩
 · omega
 · rw [hb] at had
   cases had
   have h5:=hc (j / 9) (by omega) (j % 9) (Nat.mod_lt _ (by omega))
   rw [List.getElem_map,←rowCells_get l (j / 9) (j % 9) (by omega) (Nat.mod_lt _ (by omega)),show j / 9*9+j % 9=j by omega,hu] at h5
   rw [show off+j / 9*9+j % 9=off+j by omega] at h5
   rw [add_cell rfl]
   exact h5
end Go.Proofs.YtjaebndajhppgaaGreatDoor
