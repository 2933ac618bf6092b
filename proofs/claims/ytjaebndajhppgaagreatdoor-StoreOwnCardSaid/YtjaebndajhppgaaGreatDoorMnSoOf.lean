/-SoOf-/
import Derived.Test.YtjaebndajhppgaaGreatDoorMnSoPut
import Derived.Test.YtjaebndajhppgaaGreatDoorMnGPr1
import Derived.Test.YtjaebndajhppgaaGreatDoorMnGTri
import Derived.Test.YtjaebndajhppgaaGreatDoorMnGRg6
import Derived.Deep.RegionHeld3
import Derived.Deep.AppendLies
set_option linter.unusedVariables false
set_option linter.unusedSimpArgs false
set_option maxRecDepth 100000
set_option maxHeartbeats 8000000
namespace Go.Proofs.YtjaebndajhppgaaGreatDoor
open Go.ChangeShapes Go.WideShapes Go.ChangeAt Go.RowKit
def allN (L:List TR) (i:Nat):List T3:=So.all So.cT (So.flat (L.take i))
theorem sa1 {α:Type} (l:List α) (i:Nat) (a:α):l.toArray.setIfInBounds i a=(l.set i a).toArray:=List.setIfInBounds_toArray ..
theorem sa2 {α:Type} (x a:α) (l:List α):(x::l).set 0 a=a::l:=rfl
theorem sa3 {α:Type} (x a:α) (l:List α) (n:Nat):(x::l).set (n+1) a=x::l.set n a:=rfl
theorem allN_succ {L:List TR} {i:Nat} (hi:i<L.length):allN L (i+1)=So.put So.cT (So.put So.cT (So.put So.cT (allN L i) L[i].1) L[i].2.1) L[i].2.2:=by
 unfold allN So.all
 rw [flat_step hi,List.foldl_append];rfl
theorem allN_all (L:List TR):allN L L.length=So.terms L:=by unfold allN So.terms;rw [List.take_length]
theorem allN_is {L:List TR} (hl:∀ t∈L,Tm.isTri t=true) (i:Nat):∀ a∈allN L i,So.isT a:=by
 have h:=So.flat_is (l:=L.take i) (fun p hp=>hl p (List.mem_of_mem_take hp))
 intro a ha
 exact h a ((So.all_mem So.ordT h a).1 ha)
theorem allN_len (L:List TR) (i:Nat) (hn:L.length≤1000):(allN L i).length≤3000:=by
 have h1:=So.all_len (cf:=So.cT) (So.flat (L.take i))
 have h2:=So.flat_len (L.take i)
 rw [List.length_take] at h2
 unfold allN;omega
theorem put_is {E:List T3} (hE:∀ a∈E,So.isT a) {t:T3} (ht:So.isT t):∀ a∈So.put So.cT E t,So.isT a:=fun a ha=>by
 rcases (So.put_mem E t a).1 ha with h | rfl
 · exact hE a h
 · exact ht
theorem so_infoStr:(Tryz.prog.info? 9).map (fun i=>(i.zero,i.size,i.bytes))=some (some (.string ByteArray.empty),1,16):=by kernel_rfl
theorem own_keep {W W':World} {B n size:Nat} {e:TypeId} {v:Value} {xs:List Value} (h:W.ownsRow B e size v n xs) (hb:Below W.heap.size W W'):W'.ownsRow B e size v n xs:=
 h.kept (row:=none) ⟨hb.os,hb.tape,hb.output,hb.size,fun k hk _=>hb.block k hk⟩ (Classical.em _)
theorem own_set {W:World} {B n size p i:Nat} {e:TypeId} {v u:Value} {xs:List Value} (h:W.ownsRow B e size v n xs) (hp:p<B):(W.setCell ⟨p,i,none⟩ u).ownsRow B e size v n xs:=by
 obtain ⟨h1,h2⟩:=h
 refine ⟨h1,?_⟩
 rcases h2 with h2 | ⟨g,cap,cur,e,hg,hh,r⟩
 · exact .inl h2
 · exact .inr ⟨g,cap,cur,e,hg,by rw [Below.heap_setCell _ _ _ _ (by show g≠p;omega)];exact hh,r⟩
theorem grown_low {W W':World} {B:Nat} {row:Option Nat} (h:W.grownBy W' row) (hB:B≤W.heap.size) (hr:∀ k,row=some k→B≤k):Below B W W':=(Below.refl B W).grown h hB hr
theorem isT_kind {t:T3} (h:So.isT t):(1≤t.1∧t.1≤5)∧t.2.1.length≤1000000000∧t.2.2.length≤1000000000:=by
 obtain ⟨n,e,h1,h2⟩:=Tm.is_kind h
 have:=Tm.show_len h
 omega
theorem fresh_ne {W:World} {p b off n cap:Nat} {E:List T3} (h:Fresh (p+1) W (fun W=>TermsAt W (.slice (some ⟨b,off,none⟩) n cap) E)) {i:Nat} (hi:i<E.length):p≠b:=by
 intro e
 subst e
 have h1:=h.setOld p (off+i*3) (.bool true) (Nat.lt_succ_self p)
 have c1:=(TermsAt.at h1.it hi).1
 rw [World.cell?_setCell_same _ _ _ (h.it.at hi).1] at c1
 cases c1
theorem texts_fresh {w:World} {B n:Nat} {v:Value} {L:List (List UInt8)} (h:w.ownsRow B 9 1 v n (L.map str)) (hn:n=L.length):Fresh B w (fun W=>TextsAt W v L):=by
 intro w'' hw
 refine SlAt.own (base:=B) (t:=9) (n:=n) ?_ hn
 obtain ⟨h1,h2⟩:=h
 refine ⟨h1,?_⟩
 rcases h2 with h2 | ⟨g,cap,cur,e,hg,hh,r⟩
 · exact .inl h2
 · exact .inr ⟨g,cap,cur,e,hg,by rw [hw g hg (lt_of_block hh)];exact hh,r⟩
def IsRef (W:World) (p:Nat) (L:List TR):Prop:=∃ (vt ve vs vi:Value),Blk W p [vt,ve,vs,vi] 83∧TrisAt W vt (L.map ofT)∧TermsAt W ve (So.terms L)∧TextsAt W vs ((So.terms L).map So.sh)∧IdsAt W vi (So.ids L)
theorem rof_any (L:List TR) (hl:∀ t∈L,Tm.isTri t=true) (hn:L.length≤1000) (w:World) (v:Value) (hv:TrisAt w v (L.map ofT)) :
  Calls Tryz.prog 22 #[v] w fun e w'=>∃ p,e=.returned (.pointer (some ⟨p,0,none⟩))∧IsRef w' p L∧Below w.heap.size w w':=by
 obtain ⟨a,cap,rfl,hc1,hc2,hc3⟩:=hv.open
 have HV:=hid hv
 have HL:=hid hl
 rw [List.length_map] at HV ⊢
 obtain ⟨n,hn0⟩:∃ n,n=L.length:=⟨_,rfl⟩
 rw [←hn0] at HV hn ⊢
 have HN:=hid hn0
 have HI:=hid (fun i=>allN_is hl i)
 have HLN:=hid (fun i=>allN_len L i (by omega))
 clear hv hl hc1 hc2 hc3 hn0
 go_enter Tryz.func22,Tryz.ntmps22
 go_upto_region 2 with fail
 obtain ⟨w0,hw0⟩:∃ w0,w0=w.alloc (.cells #[.slice a n cap,.slice none 0 0,.slice none 0 0,.slice none 0 0] 83):=⟨_,rfl⟩
 have HB0:=hid (show Below w.heap.size w w0 by rw [hw0];exact (Below.refl _ _).alloc (Nat.le_refl _) _)
 have HP0:=hid (show Blk w0 w.heap.size [.slice a n cap,.slice none 0 0,.slice none 0 0,.slice none 0 0] 83 by rw [hw0];exact Blk.new' rfl rfl)
 have hs0:w0.heap.size=w.heap.size+1:=by rw [hw0];simp
 have HS0:=hid hs0
 rw [←hw0]
 clear hw0 hs0
 obtain ⟨p,hp⟩:∃ p,p=w.heap.size:=⟨_,rfl⟩
 rw [←hp] at HP0 HS0 ⊢
 have HPP:=hid hp
 clear hp
 have HF0:=hid (show Fresh (p+1) w0 (fun W=>TermsAt W (.slice none 0 0) (allN L 0)) from fun W _=>TermsAt.nil W)
 have HB0':=hid (show Below p w w0 by rw [HPP.out];exact HB0.out)
 go_wp2
 go_loopg [4] n (fun gk s4 wr=>∃ (i:Nat) (ae:Option Addr) (ne ce:Nat),s4=.int .i64 i∧i≤n∧n-i≤gk∧Hid (Below p w wr)∧Hid (Blk wr p [.slice a n cap,.slice ae ne ce,.slice none 0 0,.slice none 0 0] 83)∧Hid (Fresh (p+1) wr (fun W=>TermsAt W (.slice ae ne ce) (allN L i)))∧p+1≤wr.heap.size)
 case atStart=>exact ⟨0,none,0,0,by go_num,Nat.zero_le _,Nat.le_refl _,HB0',HP0,HF0,by have:=HS0.out;omega⟩
 case round=>
  obtain ⟨i,ae,ne,ce,rfl,hin,hg,HB,HP,HF,hpz⟩:=hrel
  by_cases hlt:i<n
  · have hltz:(i:Int)<(n:Int):=by omega
    have hiL:i<L.length:=by rw [←HN.out];exact hlt
    have HVr:=hid (HV.out.keep (by rw [←HPP.out];exact HB.out))
    obtain ⟨bl,off,hab,hrow⟩:=HVr.out.get (i:=i) (by rw [List.length_map];exact hiL)
    have HRW:=hid (hrow i (by rw [List.length_map];exact hiL))
    rw [List.getElem_map] at HRW
    have HST:=hid (allN_succ hiL)
    have HTI:=hid (So.tri_is (HL.out L[i] (List.getElem_mem hiL)))
    obtain ⟨t,ht⟩:∃ t,t=L[i]:=⟨_,rfl⟩
    rw [←ht] at HRW HST HTI
    obtain ⟨⟨n1,t1,x1⟩,⟨n2,t2,x2⟩,n3,t3,x3⟩:=t
    subst hab
    have hbl:(⟨p,1,none⟩:Addr).block≠(⟨bl,0,none⟩:Addr).block:=by
     obtain ⟨b',off',e',hr'⟩:=HV.out.get (i:=i) (by rw [List.length_map];exact hiL)
     cases e'
     have h0:=hr' i (by rw [List.length_map];exact hiL) 0 (by omega)
     have:=World.block_lt_of_cell? w _ h0
     have:=HPP.out
     show p≠bl
     simp only at *
     omega
    clear ht hrow
    have c0:=HRW.out 0 (by omega)
    have c1:=HRW.out 1 (by omega)
    have c2:=HRW.out 2 (by omega)
    have c3:=HRW.out 3 (by omega)
    have c4:=HRW.out 4 (by omega)
    have c5:=HRW.out 5 (by omega)
    have c6:=HRW.out 6 (by omega)
    have c7:=HRW.out 7 (by omega)
    have c8:=HRW.out 8 (by omega)
    simp only [ofT,Tri.cells,List.getElem?_cons_zero,List.getElem?_cons_succ,Nat.add_zero] at c0 c1 c2 c3 c4 c5 c6 c7 c8
    obtain ⟨E0,hE0⟩:∃ E0,E0=allN L i:=⟨_,rfl⟩
    have hE0i:∀ a∈E0,So.isT a:=by rw [hE0];exact HI.out i
    have hE0l:E0.length≤3000:=by rw [hE0];exact HLN.out i
    rw [←hE0] at HF HST
    clear hE0
    obtain ⟨E1,hE1⟩:∃ E1,E1=So.put So.cT E0 (n1,t1,x1):=⟨_,rfl⟩
    have hE1i:∀ a∈E1,So.isT a:=by rw [hE1];exact put_is hE0i HTI.out.1
    have hE1l:E1.length≤3001:=by rw [hE1];have:=So.put_len (cf:=So.cT) E0 (n1,t1,x1);omega
    obtain ⟨E2,hE2⟩:∃ E2,E2=So.put So.cT E1 (n2,t2,x2):=⟨_,rfl⟩
    have hE2i:∀ a∈E2,So.isT a:=by rw [hE2];exact put_is hE1i HTI.out.2.1
    have hE2l:E2.length≤3002:=by rw [hE2];have:=So.put_len (cf:=So.cT) E1 (n2,t2,x2);omega
    have P1:=hid (fun W (h:TermsAt W (.slice ae ne ce) E0)=>rput_anyT E0 hE0i (by omega) (n1,t1,x1) HTI.out.1 W _ h)
    have P2:=hid (fun W v1 (h:TermsAt W v1 E1)=>rput_anyT E1 hE1i (by omega) (n2,t2,x2) HTI.out.2.1 W v1 h)
    have P3:=hid (fun W v2 (h:TermsAt W v2 E2)=>rput_anyT E2 hE2i (by omega) (n3,t3,x3) HTI.out.2.2 W v2 h)
    have HST2:=hid (show So.put So.cT E2 (n3,t3,x3)=allN L (i+1) by rw [hE2,hE1];exact HST.out.symm)
    rw [←hE1] at P1
    rw [←hE2] at P2
    rw [HST2.out] at P3
    have HTE:=hid (show TermsAt wr.drew (.slice ae ne ce) E0 from HF.out.it)
    have HFD:=hid (show Fresh (p+1) wr.drew (fun W=>TermsAt W (.slice ae ne ce) E0) from HF.out)
    have HPD:=hid (show Blk wr.drew p [.slice (some ⟨bl,off,none⟩) n cap,.slice ae ne ce,.slice none 0 0,.slice none 0 0] 83 from HP.out)
    have p1:=HPD.out.cell (i:=1) rfl
    have hwd:p+1≤wr.drew.heap.size:=hpz
    clear hE0i hE0l hE1i hE1l hE2i hE2l hE1 hE2
    go_upto_region 5 with fail
    refine wp_region_held_drew (S:=fun w'=>w'.cell? ⟨bl,off+i*9,none⟩=some (.int .i64 (n1:Nat))∧w'.cell? ⟨bl,off+i*9+1,none⟩=some (str t1)∧w'.cell? ⟨bl,off+i*9+2,none⟩=some (str x1)∧w'.cell? ⟨bl,off+i*9+3,none⟩=some (.int .i64 (n2:Nat))∧w'.cell? ⟨bl,off+i*9+4,none⟩=some (str t2)∧w'.cell? ⟨bl,off+i*9+5,none⟩=some (str x2)∧w'.cell? ⟨bl,off+i*9+6,none⟩=some (.int .i64 (n3:Nat))∧w'.cell? ⟨bl,off+i*9+7,none⟩=some (str t3)∧w'.cell? ⟨bl,off+i*9+8,none⟩=some (str x3)) (by kernel_rfl) ⟨c0,c1,c2,c3,c4,c5,c6,c7,c8⟩ (fun hHeld=>?_)
    refine wpAnyH_take (i:=0) (v:=?_) rfl (by kernel_rfl) (by kernel_rfl) (by kernel_rfl) (fun _ _ _ h=>h) (Or.inl ⟨by rfl,?_⟩) hHeld ?_
    rotate_left 1
    · intro w9 hw9;go_simp;try with_reducible rfl
    simp only [Act.put,sa1,sa2,sa3]
    refine wpAnyH_take (i:=1) (v:=?_) rfl (by kernel_rfl) (by kernel_rfl) (by kernel_rfl) (fun _ _ _ h=>h) (Or.inl ⟨by rfl,?_⟩) hHeld ?_
    rotate_left 1
    · intro w9 hw9;go_simp;try with_reducible rfl
    simp only [Act.put,sa1,sa2,sa3]
    refine wpAnyH_take (i:=2) (v:=?_) rfl (by kernel_rfl) (by kernel_rfl) (by kernel_rfl) (fun _ _ _ h=>h) (Or.inl ⟨by rfl,?_⟩) hHeld ?_
    rotate_left 1
    · intro w9 hw9;go_simp;try with_reducible rfl
    simp only [Act.put,sa1,sa2,sa3]
    refine wpAnyH_take (i:=3) (v:=?_) rfl (by kernel_rfl) (by kernel_rfl) (by kernel_rfl) (fun _ _ _ h=>h) (Or.inl ⟨by rfl,?_⟩) hHeld ?_
    rotate_left 1
    · intro w9 hw9;go_simp;try with_reducible rfl
    simp only [Act.put,sa1,sa2,sa3]
    refine wpAnyH_take (i:=5) (v:=?_) rfl (by kernel_rfl) (by kernel_rfl) (by kernel_rfl) (fun _ _ _ h=>h) (Or.inl ⟨by rfl,?_⟩) hHeld ?_
    rotate_left 1
    · intro w9 hw9;go_simp;try with_reducible rfl
    simp only [Act.put,sa1,sa2,sa3]
    refine wpAnyH_take (i:=6) (v:=?_) rfl (by kernel_rfl) (by kernel_rfl) (by kernel_rfl) (fun _ _ _ h=>h) (Or.inl ⟨by rfl,?_⟩) hHeld ?_
    rotate_left 1
    · intro w9 hw9;go_simp;try with_reducible rfl
    simp only [Act.put,sa1,sa2,sa3]
    refine wpAnyH_take (i:=7) (v:=?_) rfl (by kernel_rfl) (by kernel_rfl) (by kernel_rfl) (fun _ _ _ h=>h) (Or.inl ⟨by rfl,?_⟩) hHeld ?_
    rotate_left 1
    · intro w9 hw9;go_simp;try with_reducible rfl
    simp only [Act.put,sa1,sa2,sa3]
    refine wpAnyH_take (i:=8) (v:=?_) rfl (by kernel_rfl) (by kernel_rfl) (by kernel_rfl) (fun _ _ _ h=>h) (Or.inl ⟨by rfl,?_⟩) hHeld ?_
    rotate_left 1
    · intro w9 hw9;go_simp;try with_reducible rfl
    simp only [Act.put,sa1,sa2,sa3]
    refine wpAnyH_take (i:=9) (v:=?_) rfl (by kernel_rfl) (by kernel_rfl) (by kernel_rfl) (fun _ _ _ h=>h) (Or.inl ⟨by rfl,?_⟩) hHeld ?_
    rotate_left 1
    · intro w9 hw9;go_simp;try with_reducible rfl
    simp only [Act.put,sa1,sa2,sa3]
    refine wpAnyH_take (i:=11) (v:=?_) rfl (by kernel_rfl) (by kernel_rfl) (by kernel_rfl) (fun _ _ _ h=>h) (Or.inl ⟨by rfl,?_⟩) hHeld ?_
    rotate_left 1
    · intro w9 hw9;go_simp;try with_reducible rfl
    simp only [Act.put,sa1,sa2,sa3]
    refine wpAnyH_take (i:=12) (v:=?_) rfl (by kernel_rfl) (by kernel_rfl) (by kernel_rfl) (fun _ _ _ h=>h) (Or.inl ⟨by rfl,?_⟩) hHeld ?_
    rotate_left 1
    · intro w9 hw9;go_simp;try with_reducible rfl
    simp only [Act.put,sa1,sa2,sa3]
    refine wpAnyH_take (i:=13) (v:=?_) rfl (by kernel_rfl) (by kernel_rfl) (by kernel_rfl) (fun _ _ _ h=>h) (Or.inl ⟨by rfl,?_⟩) hHeld ?_
    rotate_left 1
    · intro w9 hw9;go_simp;try with_reducible rfl
    simp only [Act.put,sa1,sa2,sa3]
    refine wpAnyH_take (i:=14) (v:=?_) rfl (by kernel_rfl) (by kernel_rfl) (by kernel_rfl) (fun _ _ _ h=>h) (Or.inl ⟨by rfl,?_⟩) hHeld ?_
    rotate_left 1
    · intro w9 hw9;go_simp;try with_reducible rfl
    simp only [Act.put,sa1,sa2,sa3]
    refine wpAnyH_take (i:=15) (v:=?_) rfl (by kernel_rfl) (by kernel_rfl) (by kernel_rfl) (fun _ _ _ h=>h) (Or.inl ⟨by rfl,?_⟩) hHeld ?_
    rotate_left 1
    · intro w9 hw9;go_simp;try with_reducible rfl
    simp only [Act.put,sa1,sa2,sa3]
    refine wpAnyH_take (i:=17) (v:=?_) rfl (by kernel_rfl) (by kernel_rfl) (by kernel_rfl) (fun _ _ _ h=>h) (Or.inl ⟨by rfl,?_⟩) hHeld ?_
    rotate_left 1
    · intro w9 hw9;go_simp;try with_reducible rfl
    simp only [Act.put,sa1,sa2,sa3]
    refine wpAnyH_take (i:=18) (v:=?_) rfl (by kernel_rfl) (by kernel_rfl) (by kernel_rfl) (fun _ _ _ h=>h) (Or.inl ⟨by rfl,?_⟩) hHeld ?_
    rotate_left 1
    · intro w9 hw9;go_simp;try with_reducible rfl
    simp only [Act.put,sa1,sa2,sa3]
    refine wpAnyH_take (i:=19) (v:=?_) rfl (by kernel_rfl) (by kernel_rfl) (by kernel_rfl) (fun _ _ _ h=>h) (Or.inl ⟨by rfl,?_⟩) hHeld ?_
    rotate_left 1
    · intro w9 hw9;go_simp;try with_reducible rfl
    simp only [Act.put,sa1,sa2,sa3]
    refine wpAnyH_take (i:=20) (v:=?_) rfl (by kernel_rfl) (by kernel_rfl) (by kernel_rfl) (fun _ _ _ h=>h) (Or.inl ⟨by rfl,?_⟩) hHeld ?_
    rotate_left 1
    · intro w9 hw9;go_simp;try with_reducible rfl
    simp only [Act.put,sa1,sa2,sa3]
    refine wpAnyH_take (i:=21) (v:=?_) rfl (by kernel_rfl) (by kernel_rfl) (by kernel_rfl) (fun _ _ _ h=>h) (Or.inl ⟨by rfl,?_⟩) hHeld ?_
    rotate_left 1
    · intro w9 hw9;go_simp;try with_reducible rfl
    simp only [Act.put,sa1,sa2,sa3]
    refine wpAnyH_ready (rs:=[4]) (by kernel_rfl) (by simp) ?_
    refine AllReadyH.cons rfl (fun K hK=>?_) AllReadyH.nil
    go_simp
    refine hK.out _ _ (hHeld) (fun hHeld=>?_)
    clear hK K
    (try simp only [Act.put,sa1,sa2,sa3])
    refine wpAnyH_ready (rs:=[10]) (by kernel_rfl) (by simp) ?_
    refine AllReadyH.cons rfl (fun K hK=>?_) AllReadyH.nil
    go_simp
    go_at_call 64
    refine (P1.out _ HTE.out).mono ?_
    rintro e w1 ⟨v1,rfl,hT1,hF1,hb9⟩
    have HT1:=hid hT1;have HF1:=hid (hF1 (p+1) hwd HFD.out);have HB1:=hid (below_then (Below.refl wr.heap.size wr).drew hb9);have HP1:=hid (HPD.out.keep hb9);have hz1:=Nat.le_trans hwd hb9.size
    clear hT1 hF1
    refine hK.out _ _ (⟨below_keep HB1.out c0,below_keep HB1.out c1,below_keep HB1.out c2,below_keep HB1.out c3,below_keep HB1.out c4,below_keep HB1.out c5,below_keep HB1.out c6,below_keep HB1.out c7,below_keep HB1.out c8⟩) (fun hHeld=>?_)
    clear hK K
    (try simp only [Act.put,sa1,sa2,sa3])
    refine wpAnyH_ready (rs:=[16]) (by kernel_rfl) (by simp) ?_
    refine AllReadyH.cons rfl (fun K hK=>?_) AllReadyH.nil
    go_simp
    go_at_call 64
    refine (P2.out _ _ HT1.out).mono ?_
    rintro e w2 ⟨v2,rfl,hT2,hF2,hb9⟩
    have HT2:=hid hT2;have HF2:=hid (hF2 (p+1) hz1 HF1.out);have HB2:=hid (below_then HB1.out hb9);have HP2:=hid (HP1.out.keep hb9);have hz2:=Nat.le_trans hz1 hb9.size
    clear hT2 hF2
    refine hK.out _ _ (⟨below_keep HB2.out c0,below_keep HB2.out c1,below_keep HB2.out c2,below_keep HB2.out c3,below_keep HB2.out c4,below_keep HB2.out c5,below_keep HB2.out c6,below_keep HB2.out c7,below_keep HB2.out c8⟩) (fun hHeld=>?_)
    clear hK K
    (try simp only [Act.put,sa1,sa2,sa3])
    refine wpAnyH_ready (rs:=[22]) (by kernel_rfl) (by simp) ?_
    refine AllReadyH.cons rfl (fun K hK=>?_) AllReadyH.nil
    go_simp
    go_at_call 64
    refine (P3.out _ _ HT2.out).mono ?_
    rintro e w3 ⟨v3,rfl,hT3,hF3,hb9⟩
    obtain ⟨a3,k3,rfl,_,_,_⟩:=hT3.open
    have HF3:=hid (hF3 (p+1) hz2 HF2.out);have HB3:=hid (below_then HB2.out hb9);have HP3:=hid (HP2.out.keep hb9);have hz3:=Nat.le_trans hz2 hb9.size;have q1:=HP3.out.cell (i:=1) rfl;have f1:=HP3.out.free 1
    clear hT3 hF3
    refine hK.out _ _ (⟨below_keep HB3.out c0,below_keep HB3.out c1,below_keep HB3.out c2,below_keep HB3.out c3,below_keep HB3.out c4,below_keep HB3.out c5,below_keep HB3.out c6,below_keep HB3.out c7,below_keep HB3.out c8⟩) (fun hHeld=>?_)
    clear hK K
    (try simp only [Act.put,sa1,sa2,sa3])
    refine wpAnyH_take (i:=23) (v:=?_) rfl (by kernel_rfl) (by kernel_rfl) (by kernel_rfl) (fun _ _ _ h=>h) (Or.inl ⟨by rfl,?_⟩) hHeld ?_
    rotate_left 1
    · intro w9 hw9;go_simp;try with_reducible rfl
    simp only [Act.put,sa1,sa2,sa3]
    refine wpAnyH_take (i:=24) (v:=?_) rfl (by kernel_rfl) (by kernel_rfl) (by kernel_rfl) (fun _ _ _ h=>h) (Or.inl ⟨by rfl,?_⟩) hHeld ?_
    rotate_left 1
    · intro w9 hw9;go_simp;try with_reducible rfl
    simp only [Act.put,sa1,sa2,sa3]
    refine wpAnyH_ready (rs:=[25]) (by kernel_rfl) (by simp) ?_
    refine AllReadyH.cons rfl (fun K hK=>?_) AllReadyH.nil
    go_simp
    refine hK.out _ _ (⟨(World.cell?_setCell_far _ _ _ _ (by exact hbl)).trans (below_keep HB3.out c0),(World.cell?_setCell_far _ _ _ _ (by exact hbl)).trans (below_keep HB3.out c1),(World.cell?_setCell_far _ _ _ _ (by exact hbl)).trans (below_keep HB3.out c2),(World.cell?_setCell_far _ _ _ _ (by exact hbl)).trans (below_keep HB3.out c3),(World.cell?_setCell_far _ _ _ _ (by exact hbl)).trans (below_keep HB3.out c4),(World.cell?_setCell_far _ _ _ _ (by exact hbl)).trans (below_keep HB3.out c5),(World.cell?_setCell_far _ _ _ _ (by exact hbl)).trans (below_keep HB3.out c6),(World.cell?_setCell_far _ _ _ _ (by exact hbl)).trans (below_keep HB3.out c7),(World.cell?_setCell_far _ _ _ _ (by exact hbl)).trans (below_keep HB3.out c8)⟩) (fun hHeld=>?_)
    clear hK K
    (try simp only [Act.put,sa1,sa2,sa3])
    refine wpAnyH_done (by kernel_rfl) ?_ _
    have HBE:=hid (show Below p w ((w3).setCell ⟨p,1,none⟩ (.slice a3 (allN L (i+1)).length k3)) from (HB.out.trans (HB3.out.mono (by omega))).setCell (Nat.le_refl _) _)
    have HPE:=hid (HP3.out.set 1 (.slice a3 (allN L (i+1)).length k3))
    have HFE:=hid (HF3.out.setOld p 1 (.slice a3 (allN L (i+1)).length k3) (by omega))
    go_wp2
    go_roundg (n-(i+1))
    case measure=>omega
    case rel=>exact ⟨i+1,a3,_,k3,by go_num,by omega,by omega,HBE,HPE,HFE,by simp only [World.size_setCell];exact hz3⟩
  · obtain rfl:i=n:=by omega
    have hltz:¬ (i:Int)<(i:Int):=by omega
    rename World=>wa
    rw [HN.out,allN_all] at HF
    have HEI:=hid (fun a ha=>HI.out L.length a (by rw [allN_all];exact ha))
    have hEl:=HLN.out L.length
    rw [allN_all] at hEl
    obtain ⟨E,hE⟩:∃ E,E=So.terms L:=⟨_,rfl⟩
    rw [←hE] at HF HEI hEl
    have HEE:=hid hE
    clear hE
    obtain ⟨a1,c1,he1,hc1,hc2,hc3⟩:=HF.out.it.open
    simp only [Value.slice.injEq] at he1
    obtain ⟨rfl,rfl,rfl⟩:=he1
    obtain ⟨m,hm0⟩:∃ m,m=E.length:=⟨_,rfl⟩
    rw [←hm0] at HF HP hEl
    have HM:=hid hm0
    have HBw:=hid HB.out
    have HPw:=hid HP.out
    clear hc1 hc2 hc3 hm0 HB HP
    go_wp2
    obtain ⟨B2,hB2⟩:∃ B2,B2=wa.heap.size:=⟨_,rfl⟩
    have hpz2:p+1≤B2:=by omega
    have HB2:=hid hB2
    clear hB2
    go_loopg [5] m (fun gk s5 wq=>∃ (j:Nat) (av:Option Addr) (cv:Nat),s5=.int .i64 j∧j≤m∧m-j≤gk∧Hid (Below p w wq)∧Hid (Blk wq p [.slice a i cap,.slice ae m ce,.slice av j cv,.slice none 0 0] 83)∧Hid (wq.ownsRow B2 9 1 (.slice av j cv) j ((E.take j).map (fun t=>str (So.sh t))))∧Hid (∀ k,p+1≤k→k<B2→wq.heap[k]?=wa.heap[k]?)∧B2≤wq.heap.size)
    case atStart=>exact ⟨0,none,0,by go_num,Nat.zero_le _,Nat.le_refl _,HBw,HPw,hid (World.ownsRow_nil _ _ _ _),hid (fun _ _ _=>rfl),by rw [HB2.out];exact Nat.le_refl _⟩
    case round=>
     obtain ⟨j,av,cv,rfl,hjm,hg2,HB,HP,HO,HK,hz2⟩:=hrel
     have p1:=HP.out.cell (i:=1) rfl
     have p2:=HP.out.cell (i:=2) rfl
     by_cases hlt2:j<m
     · have hltz2:(j:Int)<(m:Int):=by omega
       have hjE:j<E.length:=by rw [←HM.out];exact hlt2
       obtain ⟨ab,off,hab,_⟩:=HF.out.it.get hjE
       subst hab
       have hne:=fresh_ne HF.out hjE
       have habB:ab<B2:=by rw [HB2.out];exact World.block_lt_of_cell? wa _ (HF.out.it.at hjE).1
       obtain ⟨c0,c1,c2⟩:=TermsAt.at (HF.out wr (by rw [←HB2.out];exact HK.out)) hjE
       have HTK:=hid (show (E.take (j+1)).map (fun t=>str (So.sh t))=(E.take j).map (fun t=>str (So.sh t))++[str (So.sh E[j])] by rw [List.take_succ_eq_append_getElem hjE,List.map_append];rfl)
       obtain ⟨hk1,hk2,hk3⟩:=isT_kind (HEI.out E[j] (List.getElem_mem hjE))
       obtain ⟨t,ht⟩:∃ t,t=E[j]:=⟨_,rfl⟩
       rw [←ht] at c0 c1 c2 HTK hk1 hk2 hk3
       clear ht
       obtain ⟨n1,t1,x1⟩:=t
       simp only at c0 c1 c2 hk1 hk2 hk3
       have RS:=hid (fun W=>rshow_any n1 t1 x1 W hk1 hk2 hk3)
       obtain ⟨u,hu⟩:∃ u,u=Tm.showT n1 t1 x1:=⟨_,rfl⟩
       rw [show So.sh (n1,t1,x1)=Tm.showT n1 t1 x1 from rfl,←hu] at HTK
       rw [←hu] at RS
       clear hu hk1 hk2 hk3
       have HB9:=hid (show Below wr.heap.size wr wr.drew from (Below.refl _ _).drew)
       obtain ⟨iS,hi0,hzS,hszS,hbyS⟩:=info_parts so_infoStr
       go_upto_region 9 with fail
       refine wp_region_held_drew (S:=fun w'=>w'.cell? ⟨p,1,none⟩=some (.slice (some ⟨ab,off,none⟩) m ce)∧w'.cell? ⟨ab,off+j*3,none⟩=some (.int .i64 (n1:Nat))∧w'.cell? ⟨ab,off+j*3+1,none⟩=some (str t1)∧w'.cell? ⟨ab,off+j*3+2,none⟩=some (str x1)) (by kernel_rfl) ⟨p1,c0,c1,c2⟩ (fun hHeld=>?_)
       refine wpAnyH_take (i:=0) (v:=?_) rfl (by kernel_rfl) (by kernel_rfl) (by kernel_rfl) (fun _ _ _ h=>h) (Or.inl ⟨by rfl,?_⟩) hHeld ?_
       rotate_left 1
       · intro w9 hw9;go_simp;try with_reducible rfl
       simp only [Act.put,sa1,sa2,sa3]
       refine wpAnyH_take (i:=1) (v:=?_) rfl (by kernel_rfl) (by kernel_rfl) (by kernel_rfl) (fun _ _ _ h=>h) (Or.inl ⟨by rfl,?_⟩) hHeld ?_
       rotate_left 1
       · intro w9 hw9;go_simp;try with_reducible rfl
       simp only [Act.put,sa1,sa2,sa3]
       refine wpAnyH_take (i:=2) (v:=?_) rfl (by kernel_rfl) (by kernel_rfl) (by kernel_rfl) (fun _ _ _ h=>h) (Or.inl ⟨by rfl,?_⟩) hHeld ?_
       rotate_left 1
       · intro w9 hw9;go_simp;try with_reducible rfl
       simp only [Act.put,sa1,sa2,sa3]
       refine wpAnyH_take (i:=3) (v:=?_) rfl (by kernel_rfl) (by kernel_rfl) (by kernel_rfl) (fun _ _ _ h=>h) (Or.inl ⟨by rfl,?_⟩) hHeld ?_
       rotate_left 1
       · intro w9 hw9;go_simp;try with_reducible rfl
       simp only [Act.put,sa1,sa2,sa3]
       refine wpAnyH_take (i:=5) (v:=?_) rfl (by kernel_rfl) (by kernel_rfl) (by kernel_rfl) (fun _ _ _ h=>h) (Or.inl ⟨by rfl,?_⟩) hHeld ?_
       rotate_left 1
       · intro w9 hw9;go_simp;try with_reducible rfl
       simp only [Act.put,sa1,sa2,sa3]
       refine wpAnyH_take (i:=6) (v:=?_) rfl (by kernel_rfl) (by kernel_rfl) (by kernel_rfl) (fun _ _ _ h=>h) (Or.inl ⟨by rfl,?_⟩) hHeld ?_
       rotate_left 1
       · intro w9 hw9;go_simp;try with_reducible rfl
       simp only [Act.put,sa1,sa2,sa3]
       refine wpAnyH_take (i:=7) (v:=?_) rfl (by kernel_rfl) (by kernel_rfl) (by kernel_rfl) (fun _ _ _ h=>h) (Or.inl ⟨by rfl,?_⟩) hHeld ?_
       rotate_left 1
       · intro w9 hw9;go_simp;try with_reducible rfl
       simp only [Act.put,sa1,sa2,sa3]
       refine wpAnyH_take (i:=8) (v:=?_) rfl (by kernel_rfl) (by kernel_rfl) (by kernel_rfl) (fun _ _ _ h=>h) (Or.inl ⟨by rfl,?_⟩) hHeld ?_
       rotate_left 1
       · intro w9 hw9;go_simp;try with_reducible rfl
       simp only [Act.put,sa1,sa2,sa3]
       refine wpAnyH_take (i:=9) (v:=?_) rfl (by kernel_rfl) (by kernel_rfl) (by kernel_rfl) (fun _ _ _ h=>h) (Or.inl ⟨by rfl,?_⟩) hHeld ?_
       rotate_left 1
       · intro w9 hw9;go_simp;try with_reducible rfl
       simp only [Act.put,sa1,sa2,sa3]
       refine wpAnyH_take (i:=10) (v:=?_) rfl (by kernel_rfl) (by kernel_rfl) (by kernel_rfl) (fun _ _ _ h=>h) (Or.inl ⟨by rfl,?_⟩) hHeld ?_
       rotate_left 1
       · intro w9 hw9;go_simp;try with_reducible rfl
       simp only [Act.put,sa1,sa2,sa3]
       refine wpAnyH_take (i:=11) (v:=?_) rfl (by kernel_rfl) (by kernel_rfl) (by kernel_rfl) (fun _ _ _ h=>h) (Or.inl ⟨by rfl,?_⟩) hHeld ?_
       rotate_left 1
       · intro w9 hw9;go_simp;try with_reducible rfl
       simp only [Act.put,sa1,sa2,sa3]
       refine wpAnyH_ready (rs:=[4,12]) (by kernel_rfl) (by simp) ?_
       refine AllReadyH.cons rfl (fun K hK=>?_) ?_
       · have q2:=below_keep HB9.out p2
         go_simp
         refine hK.out _ _ (hHeld) (fun hHeld=>?_)
         clear hK K
         (try simp only [Act.put,sa1,sa2,sa3])
         refine wpAnyH_ready (rs:=[12]) (by kernel_rfl) (by simp) ?_
         refine AllReadyH.cons rfl (fun K hK=>?_) ?_
         · go_simp
           go_at_call 63
           refine (RS.out _).mono ?_
           rintro e w5 ⟨rfl,hb9⟩
           have HB9:=hid (below_then HB9.out hb9)
           clear hb9
           refine hK.out _ _ (⟨below_keep HB9.out p1,below_keep HB9.out c0,below_keep HB9.out c1,below_keep HB9.out c2⟩) (fun hHeld=>?_)
           clear hK K
           (try simp only [Act.put,sa1,sa2,sa3])
           refine wpAnyH_ready (rs:=[13]) (by kernel_rfl) (by simp) ?_
           refine AllReadyH.cons rfl (fun K hK=>?_) ?_
           · obtain ⟨q,hq⟩:∃ q,q=(w5).heap.size:=⟨_,rfl⟩
             go_simp
             have HQ:=hid (Blk.new w5 [str u] 9)
             have HB9:=hid (HB9.out.alloc HB9.out.size (.cells #[str u] 9))
             rw [←hq] at HQ ⊢
             clear hq
             refine hK.out _ _ (⟨below_keep HB9.out p1,below_keep HB9.out c0,below_keep HB9.out c1,below_keep HB9.out c2⟩) (fun hHeld=>?_)
             clear hK K
             (try simp only [Act.put,sa1,sa2,sa3])
             refine wpAnyH_ready (rs:=[14]) (by kernel_rfl) (by simp) ?_
             refine AllReadyH.cons rfl (fun K hK=>?_) ?_
             · refine step_append_seg (by rfl) (.tmp 54) (.tmp 63) 47 (by rfl) B2 9 iS _ 1 16 Tryz.underlying47 hi0 hzS hszS hbyS rfl (by decide) (.slice av j cv) j _ (by rfl) (own_keep HO.out HB9.out) ⟨q,0,none⟩ 1 1 [str u] rfl (by rfl) ?c1 (by simp [Value.oneCell',str]) (by unfold maxLen;omega) (by omega) (Nat.le_trans hz2 HB9.out.size) ?_
               case c1=>
                intro jj uu hu
                rcases jj with _ | jj
                · cases hu;exact HQ.out.cell (i:=0) rfl
                · cases hu
               intro v8 w8 g1 g2 g3
               have HB8:=hid ((HB9.out.mono hz2).trans (grown_low g2 (Nat.le_trans hz2 HB9.out.size) (fun k hk=>((own_keep HO.out HB9.out).lt k hk).1)))
               have HO8:=hid (show w8.ownsRow B2 9 1 v8 (j+1) ((E.take (j+1)).map (fun t=>str (So.sh t))) by rw [HTK.out];exact g1)
               have HP8:=hid (HP.out.below HB8.out (by omega))
               have q2:=HP8.out.cell (i:=2) rfl
               have f2:=HP8.out.free 2
               obtain ⟨q1,qc0,qc1,qc2⟩:=(show _∧_∧_∧_ from ⟨(HB8.out.cell (p:=⟨p,1,none⟩) (by show p<B2;omega)).trans p1,(HB8.out.cell (p:=⟨ab,off+j*3,none⟩) (by show ab<B2;exact habB)).trans c0,(HB8.out.cell (p:=⟨ab,off+j*3+1,none⟩) (by show ab<B2;exact habB)).trans c1,(HB8.out.cell (p:=⟨ab,off+j*3+2,none⟩) (by show ab<B2;exact habB)).trans c2⟩)
               obtain ⟨gb,cp,hv8,_⟩:=HO8.out.form (Nat.succ_pos j)
               subst hv8
               clear g1 g2 g3
               refine hK.out _ _ (⟨q1,qc0,qc1,qc2⟩) (fun hHeld=>?_)
               clear hK K
               (try simp only [Act.put,sa1,sa2,sa3])
               refine wpAnyH_take (i:=15) (v:=?_) rfl (by kernel_rfl) (by kernel_rfl) (by kernel_rfl) (fun _ _ _ h=>h) (Or.inl ⟨by rfl,?_⟩) hHeld ?_
               rotate_left 1
               · intro w9 hw9;go_simp;try with_reducible rfl
               simp only [Act.put,sa1,sa2,sa3]
               refine wpAnyH_take (i:=16) (v:=?_) rfl (by kernel_rfl) (by kernel_rfl) (by kernel_rfl) (fun _ _ _ h=>h) (Or.inl ⟨by rfl,?_⟩) hHeld ?_
               rotate_left 1
               · intro w9 hw9;go_simp;try with_reducible rfl
               simp only [Act.put,sa1,sa2,sa3]
               refine wpAnyH_ready (rs:=[17]) (by kernel_rfl) (by simp) ?_
               refine AllReadyH.cons rfl (fun K hK=>?_) ?_
               · go_simp
                 refine hK.out _ _ (⟨(World.cell?_setCell_other _ ⟨p,2,none⟩ ⟨p,1,none⟩ _ (by simp)).trans q1,(World.cell?_setCell_far _ ⟨p,2,none⟩ ⟨ab,_,none⟩ _ (by exact hne)).trans qc0,(World.cell?_setCell_far _ ⟨p,2,none⟩ ⟨ab,_,none⟩ _ (by exact hne)).trans qc1,(World.cell?_setCell_far _ ⟨p,2,none⟩ ⟨ab,_,none⟩ _ (by exact hne)).trans qc2⟩) (fun hHeld=>?_)
                 clear hK K
                 (try simp only [Act.put,sa1,sa2,sa3])
                 refine wpAnyH_done (by kernel_rfl) ?_ _
                 have HBE:=hid (show Below p w (w8.setCell ⟨p,2,none⟩ (.slice (some ⟨gb,0,none⟩) (j+1) cp)) from (HB.out.trans (HB8.out.mono (by omega))).setCell (Nat.le_refl _) _)
                 have HPE:=hid (HP8.out.set 2 (.slice (some ⟨gb,0,none⟩) (j+1) cp))
                 have HOE:=hid (own_set (i:=2) (u:=.slice (some ⟨gb,0,none⟩) (j+1) cp) HO8.out (show p<B2 by omega))
                 have HKE:=hid (show ∀ k,p+1≤k→k<B2→(w8.setCell ⟨p,2,none⟩ (.slice (some ⟨gb,0,none⟩) (j+1) cp)).heap[k]?=wa.heap[k]? from fun k h1 h2=>(Below.heap_setCell _ _ _ _ (by show k≠p;omega)).trans ((HB8.out.block k h2).trans (HK.out k h1 h2)))
                 have hzE:B2≤(w8.setCell ⟨p,2,none⟩ (.slice (some ⟨gb,0,none⟩) (j+1) cp)).heap.size:=by rw [World.size_setCell];exact Nat.le_trans hz2 HB8.out.size
                 clear HB9 HQ HB8 HO8 HP8 q1 q2 qc0 qc1 qc2 f2
                 go_wp2
                 go_roundg (m-(j+1))
                 case measure=>omega
                 case rel=>exact ⟨j+1,_,_,by go_num,by omega,by omega,HBE,HPE,HOE,HKE,hzE⟩
               exact AllReadyH.nil
             exact AllReadyH.nil
           exact AllReadyH.nil
         exact AllReadyH.nil
       refine AllReadyH.cons rfl (fun K hK=>?_) ?_
       · go_simp
         go_at_call 63
         refine (RS.out _).mono ?_
         rintro e w5 ⟨rfl,hb9⟩
         have HB9:=hid (below_then HB9.out hb9)
         clear hb9
         refine hK.out _ _ (⟨below_keep HB9.out p1,below_keep HB9.out c0,below_keep HB9.out c1,below_keep HB9.out c2⟩) (fun hHeld=>?_)
         clear hK K
         (try simp only [Act.put,sa1,sa2,sa3])
         refine wpAnyH_ready (rs:=[4,13]) (by kernel_rfl) (by simp) ?_
         refine AllReadyH.cons rfl (fun K hK=>?_) ?_
         · have q2:=below_keep HB9.out p2
           go_simp
           refine hK.out _ _ (hHeld) (fun hHeld=>?_)
           clear hK K
           (try simp only [Act.put,sa1,sa2,sa3])
           refine wpAnyH_ready (rs:=[13]) (by kernel_rfl) (by simp) ?_
           refine AllReadyH.cons rfl (fun K hK=>?_) ?_
           · obtain ⟨q,hq⟩:∃ q,q=(w5).heap.size:=⟨_,rfl⟩
             go_simp
             have HQ:=hid (Blk.new w5 [str u] 9)
             have HB9:=hid (HB9.out.alloc HB9.out.size (.cells #[str u] 9))
             rw [←hq] at HQ ⊢
             clear hq
             refine hK.out _ _ (⟨below_keep HB9.out p1,below_keep HB9.out c0,below_keep HB9.out c1,below_keep HB9.out c2⟩) (fun hHeld=>?_)
             clear hK K
             (try simp only [Act.put,sa1,sa2,sa3])
             refine wpAnyH_ready (rs:=[14]) (by kernel_rfl) (by simp) ?_
             refine AllReadyH.cons rfl (fun K hK=>?_) ?_
             · refine step_append_seg (by rfl) (.tmp 54) (.tmp 63) 47 (by rfl) B2 9 iS _ 1 16 Tryz.underlying47 hi0 hzS hszS hbyS rfl (by decide) (.slice av j cv) j _ (by rfl) (own_keep HO.out HB9.out) ⟨q,0,none⟩ 1 1 [str u] rfl (by rfl) ?c1 (by simp [Value.oneCell',str]) (by unfold maxLen;omega) (by omega) (Nat.le_trans hz2 HB9.out.size) ?_
               case c1=>
                intro jj uu hu
                rcases jj with _ | jj
                · cases hu;exact HQ.out.cell (i:=0) rfl
                · cases hu
               intro v8 w8 g1 g2 g3
               have HB8:=hid ((HB9.out.mono hz2).trans (grown_low g2 (Nat.le_trans hz2 HB9.out.size) (fun k hk=>((own_keep HO.out HB9.out).lt k hk).1)))
               have HO8:=hid (show w8.ownsRow B2 9 1 v8 (j+1) ((E.take (j+1)).map (fun t=>str (So.sh t))) by rw [HTK.out];exact g1)
               have HP8:=hid (HP.out.below HB8.out (by omega))
               have q2:=HP8.out.cell (i:=2) rfl
               have f2:=HP8.out.free 2
               obtain ⟨q1,qc0,qc1,qc2⟩:=(show _∧_∧_∧_ from ⟨(HB8.out.cell (p:=⟨p,1,none⟩) (by show p<B2;omega)).trans p1,(HB8.out.cell (p:=⟨ab,off+j*3,none⟩) (by show ab<B2;exact habB)).trans c0,(HB8.out.cell (p:=⟨ab,off+j*3+1,none⟩) (by show ab<B2;exact habB)).trans c1,(HB8.out.cell (p:=⟨ab,off+j*3+2,none⟩) (by show ab<B2;exact habB)).trans c2⟩)
               obtain ⟨gb,cp,hv8,_⟩:=HO8.out.form (Nat.succ_pos j)
               subst hv8
               clear g1 g2 g3
               refine hK.out _ _ (⟨q1,qc0,qc1,qc2⟩) (fun hHeld=>?_)
               clear hK K
               (try simp only [Act.put,sa1,sa2,sa3])
               refine wpAnyH_take (i:=15) (v:=?_) rfl (by kernel_rfl) (by kernel_rfl) (by kernel_rfl) (fun _ _ _ h=>h) (Or.inl ⟨by rfl,?_⟩) hHeld ?_
               rotate_left 1
               · intro w9 hw9;go_simp;try with_reducible rfl
               simp only [Act.put,sa1,sa2,sa3]
               refine wpAnyH_take (i:=16) (v:=?_) rfl (by kernel_rfl) (by kernel_rfl) (by kernel_rfl) (fun _ _ _ h=>h) (Or.inl ⟨by rfl,?_⟩) hHeld ?_
               rotate_left 1
               · intro w9 hw9;go_simp;try with_reducible rfl
               simp only [Act.put,sa1,sa2,sa3]
               refine wpAnyH_ready (rs:=[17]) (by kernel_rfl) (by simp) ?_
               refine AllReadyH.cons rfl (fun K hK=>?_) ?_
               · go_simp
                 refine hK.out _ _ (⟨(World.cell?_setCell_other _ ⟨p,2,none⟩ ⟨p,1,none⟩ _ (by simp)).trans q1,(World.cell?_setCell_far _ ⟨p,2,none⟩ ⟨ab,_,none⟩ _ (by exact hne)).trans qc0,(World.cell?_setCell_far _ ⟨p,2,none⟩ ⟨ab,_,none⟩ _ (by exact hne)).trans qc1,(World.cell?_setCell_far _ ⟨p,2,none⟩ ⟨ab,_,none⟩ _ (by exact hne)).trans qc2⟩) (fun hHeld=>?_)
                 clear hK K
                 (try simp only [Act.put,sa1,sa2,sa3])
                 refine wpAnyH_done (by kernel_rfl) ?_ _
                 have HBE:=hid (show Below p w (w8.setCell ⟨p,2,none⟩ (.slice (some ⟨gb,0,none⟩) (j+1) cp)) from (HB.out.trans (HB8.out.mono (by omega))).setCell (Nat.le_refl _) _)
                 have HPE:=hid (HP8.out.set 2 (.slice (some ⟨gb,0,none⟩) (j+1) cp))
                 have HOE:=hid (own_set (i:=2) (u:=.slice (some ⟨gb,0,none⟩) (j+1) cp) HO8.out (show p<B2 by omega))
                 have HKE:=hid (show ∀ k,p+1≤k→k<B2→(w8.setCell ⟨p,2,none⟩ (.slice (some ⟨gb,0,none⟩) (j+1) cp)).heap[k]?=wa.heap[k]? from fun k h1 h2=>(Below.heap_setCell _ _ _ _ (by show k≠p;omega)).trans ((HB8.out.block k h2).trans (HK.out k h1 h2)))
                 have hzE:B2≤(w8.setCell ⟨p,2,none⟩ (.slice (some ⟨gb,0,none⟩) (j+1) cp)).heap.size:=by rw [World.size_setCell];exact Nat.le_trans hz2 HB8.out.size
                 clear HB9 HQ HB8 HO8 HP8 q1 q2 qc0 qc1 qc2 f2
                 go_wp2
                 go_roundg (m-(j+1))
                 case measure=>omega
                 case rel=>exact ⟨j+1,_,_,by go_num,by omega,by omega,HBE,HPE,HOE,HKE,hzE⟩
               exact AllReadyH.nil
             exact AllReadyH.nil
           exact AllReadyH.nil
         refine AllReadyH.cons rfl (fun K hK=>?_) ?_
         · obtain ⟨q,hq⟩:∃ q,q=(w5).heap.size:=⟨_,rfl⟩
           go_simp
           have HQ:=hid (Blk.new w5 [str u] 9)
           have HB9:=hid (HB9.out.alloc HB9.out.size (.cells #[str u] 9))
           rw [←hq] at HQ ⊢
           clear hq
           refine hK.out _ _ (⟨below_keep HB9.out p1,below_keep HB9.out c0,below_keep HB9.out c1,below_keep HB9.out c2⟩) (fun hHeld=>?_)
           clear hK K
           (try simp only [Act.put,sa1,sa2,sa3])
           refine wpAnyH_ready (rs:=[4]) (by kernel_rfl) (by simp) ?_
           refine AllReadyH.cons rfl (fun K hK=>?_) ?_
           · have q2:=below_keep HB9.out p2
             go_simp
             refine hK.out _ _ (hHeld) (fun hHeld=>?_)
             clear hK K
             (try simp only [Act.put,sa1,sa2,sa3])
             refine wpAnyH_ready (rs:=[14]) (by kernel_rfl) (by simp) ?_
             refine AllReadyH.cons rfl (fun K hK=>?_) ?_
             · refine step_append_seg (by rfl) (.tmp 54) (.tmp 63) 47 (by rfl) B2 9 iS _ 1 16 Tryz.underlying47 hi0 hzS hszS hbyS rfl (by decide) (.slice av j cv) j _ (by rfl) (own_keep HO.out HB9.out) ⟨q,0,none⟩ 1 1 [str u] rfl (by rfl) ?c1 (by simp [Value.oneCell',str]) (by unfold maxLen;omega) (by omega) (Nat.le_trans hz2 HB9.out.size) ?_
               case c1=>
                intro jj uu hu
                rcases jj with _ | jj
                · cases hu;exact HQ.out.cell (i:=0) rfl
                · cases hu
               intro v8 w8 g1 g2 g3
               have HB8:=hid ((HB9.out.mono hz2).trans (grown_low g2 (Nat.le_trans hz2 HB9.out.size) (fun k hk=>((own_keep HO.out HB9.out).lt k hk).1)))
               have HO8:=hid (show w8.ownsRow B2 9 1 v8 (j+1) ((E.take (j+1)).map (fun t=>str (So.sh t))) by rw [HTK.out];exact g1)
               have HP8:=hid (HP.out.below HB8.out (by omega))
               have q2:=HP8.out.cell (i:=2) rfl
               have f2:=HP8.out.free 2
               obtain ⟨q1,qc0,qc1,qc2⟩:=(show _∧_∧_∧_ from ⟨(HB8.out.cell (p:=⟨p,1,none⟩) (by show p<B2;omega)).trans p1,(HB8.out.cell (p:=⟨ab,off+j*3,none⟩) (by show ab<B2;exact habB)).trans c0,(HB8.out.cell (p:=⟨ab,off+j*3+1,none⟩) (by show ab<B2;exact habB)).trans c1,(HB8.out.cell (p:=⟨ab,off+j*3+2,none⟩) (by show ab<B2;exact habB)).trans c2⟩)
               obtain ⟨gb,cp,hv8,_⟩:=HO8.out.form (Nat.succ_pos j)
               subst hv8
               clear g1 g2 g3
               refine hK.out _ _ (⟨q1,qc0,qc1,qc2⟩) (fun hHeld=>?_)
               clear hK K
               (try simp only [Act.put,sa1,sa2,sa3])
               refine wpAnyH_take (i:=15) (v:=?_) rfl (by kernel_rfl) (by kernel_rfl) (by kernel_rfl) (fun _ _ _ h=>h) (Or.inl ⟨by rfl,?_⟩) hHeld ?_
               rotate_left 1
               · intro w9 hw9;go_simp;try with_reducible rfl
               simp only [Act.put,sa1,sa2,sa3]
               refine wpAnyH_take (i:=16) (v:=?_) rfl (by kernel_rfl) (by kernel_rfl) (by kernel_rfl) (fun _ _ _ h=>h) (Or.inl ⟨by rfl,?_⟩) hHeld ?_
               rotate_left 1
               · intro w9 hw9;go_simp;try with_reducible rfl
               simp only [Act.put,sa1,sa2,sa3]
               refine wpAnyH_ready (rs:=[17]) (by kernel_rfl) (by simp) ?_
               refine AllReadyH.cons rfl (fun K hK=>?_) ?_
               · go_simp
                 refine hK.out _ _ (⟨(World.cell?_setCell_other _ ⟨p,2,none⟩ ⟨p,1,none⟩ _ (by simp)).trans q1,(World.cell?_setCell_far _ ⟨p,2,none⟩ ⟨ab,_,none⟩ _ (by exact hne)).trans qc0,(World.cell?_setCell_far _ ⟨p,2,none⟩ ⟨ab,_,none⟩ _ (by exact hne)).trans qc1,(World.cell?_setCell_far _ ⟨p,2,none⟩ ⟨ab,_,none⟩ _ (by exact hne)).trans qc2⟩) (fun hHeld=>?_)
                 clear hK K
                 (try simp only [Act.put,sa1,sa2,sa3])
                 refine wpAnyH_done (by kernel_rfl) ?_ _
                 have HBE:=hid (show Below p w (w8.setCell ⟨p,2,none⟩ (.slice (some ⟨gb,0,none⟩) (j+1) cp)) from (HB.out.trans (HB8.out.mono (by omega))).setCell (Nat.le_refl _) _)
                 have HPE:=hid (HP8.out.set 2 (.slice (some ⟨gb,0,none⟩) (j+1) cp))
                 have HOE:=hid (own_set (i:=2) (u:=.slice (some ⟨gb,0,none⟩) (j+1) cp) HO8.out (show p<B2 by omega))
                 have HKE:=hid (show ∀ k,p+1≤k→k<B2→(w8.setCell ⟨p,2,none⟩ (.slice (some ⟨gb,0,none⟩) (j+1) cp)).heap[k]?=wa.heap[k]? from fun k h1 h2=>(Below.heap_setCell _ _ _ _ (by show k≠p;omega)).trans ((HB8.out.block k h2).trans (HK.out k h1 h2)))
                 have hzE:B2≤(w8.setCell ⟨p,2,none⟩ (.slice (some ⟨gb,0,none⟩) (j+1) cp)).heap.size:=by rw [World.size_setCell];exact Nat.le_trans hz2 HB8.out.size
                 clear HB9 HQ HB8 HO8 HP8 q1 q2 qc0 qc1 qc2 f2
                 go_wp2
                 go_roundg (m-(j+1))
                 case measure=>omega
                 case rel=>exact ⟨j+1,_,_,by go_num,by omega,by omega,HBE,HPE,HOE,HKE,hzE⟩
               exact AllReadyH.nil
             exact AllReadyH.nil
           exact AllReadyH.nil
         exact AllReadyH.nil
       exact AllReadyH.nil
     · obtain rfl:j=m:=by omega
       have hltz2:¬ (j:Int)<(j:Int):=by omega
       have HTX:=hid (texts_fresh (L:=E.map So.sh) (B:=B2) (v:=.slice av j cv) (n:=j) (w:=wr) (by
        have h:=HO.out
        rw [HM.out,List.take_length] at h
        rw [List.map_map,HM.out];exact h) (by rw [List.length_map];exact HM.out))
       have HFb:=hid (show Fresh (p+1) wr (fun W=>TermsAt W (.slice ae j ce) E) from fun w'' hw=>HF.out w'' (fun k h1 h2=>(hw k h1 (by have:=HB2.out;omega)).trans (HK.out k h1 (by rw [HB2.out];exact h2))))
       have HBw2:=hid HB.out
       have HPw2:=hid HP.out
       have hz2w:=hz2
       clear HB HP HK HO hz2
       go_wp2
       rename World=>wb
       obtain ⟨B3,hB3⟩:∃ B3,B3=wb.heap.size:=⟨_,rfl⟩
       have hpz3:p+1≤B3:=by omega
       have HB3:=hid hB3
       have HND:=hid (show E.Nodup by rw [HEE.out];exact So.srt_nodup So.ordT (So.terms_srt HL.out))
       clear hB3 p1 p2
       go_loopg [6] i (fun gk s6 wq=>∃ (l:Nat) (bv:Option Addr) (dv:Nat),s6=.int .i64 l∧l≤i∧i-l≤gk∧Hid (Below p w wq)∧Hid (Blk wq p [.slice a i cap,.slice ae j ce,.slice av j cv,.slice bv l dv] 83)∧Hid (wq.ownsRow B3 77 3 (.slice bv l dv) l (fl ((So.ids L).take l)))∧Hid (∀ k,p+1≤k→k<B3→wq.heap[k]?=wb.heap[k]?)∧B3≤wq.heap.size)
       case atStart=>exact ⟨0,none,0,by go_num,Nat.zero_le _,Nat.le_refl _,HBw2,HPw2,hid (by rw [List.take_zero,fl_nil];exact World.ownsRow_nil _ _ _ _),hid (fun _ _ _=>rfl),by rw [HB3.out];exact Nat.le_refl _⟩
       case round=>
        obtain ⟨l,bv,dv,rfl,hli,hg3,HB,HP,HO,HK,hz3⟩:=hrel
        have p1:=HP.out.cell (i:=1) rfl
        have p3:=HP.out.cell (i:=3) rfl
        by_cases hlt3:l<i
        · have hltz3:(l:Int)<(i:Int):=by omega
          have hlL:l<L.length:=by rw [←HN.out];exact hlt3
          have hlI:l<(So.ids L).length:=by rw [So.ids_len];exact hlL
          have HVr:=hid (HV.out.keep (by rw [←HPP.out];exact HB.out))
          obtain ⟨bl,off,hab,hrow⟩:=HVr.out.get (i:=l) (by rw [List.length_map];exact hlL)
          have HRW:=hid (hrow l (by rw [List.length_map];exact hlL))
          rw [List.getElem_map] at HRW
          have HTK:=hid (show fl ((So.ids L).take (l+1))=fl ((So.ids L).take l)++tl (So.nums E L[l]) by
           have h9:(So.ids L)[l]=So.nums (So.terms L) L[l]:=by simp only [So.ids,List.getElem_map]
           rw [List.take_succ_eq_append_getElem hlI,fl_snoc,h9,HEE.out])
          obtain ⟨t,ht⟩:∃ t,t=L[l]:=⟨_,rfl⟩
          rw [←ht] at HRW HTK
          obtain ⟨⟨n1,t1,x1⟩,⟨n2,t2,x2⟩,n3,t3,x3⟩:=t
          subst hab
          have hbl:p≠bl:=by
           obtain ⟨b',off',e',hr'⟩:=HV.out.get (i:=l) (by rw [List.length_map];exact hlL)
           cases e'
           have h0:=hr' l (by rw [List.length_map];exact hlL) 0 (by omega)
           have:=World.block_lt_of_cell? w _ h0
           have:=HPP.out
           simp only at *
           omega
          have hblB:bl<B3:=by
           obtain ⟨b',off',e',hr'⟩:=HV.out.get (i:=l) (by rw [List.length_map];exact hlL)
           cases e'
           have h0:=hr' l (by rw [List.length_map];exact hlL) 0 (by omega)
           have:=World.block_lt_of_cell? w _ h0
           have:=HPP.out
           simp only at *
           omega
          clear ht hrow
          have c0:=HRW.out 0 (by omega)
          have c1:=HRW.out 1 (by omega)
          have c2:=HRW.out 2 (by omega)
          have c3:=HRW.out 3 (by omega)
          have c4:=HRW.out 4 (by omega)
          have c5:=HRW.out 5 (by omega)
          have c6:=HRW.out 6 (by omega)
          have c7:=HRW.out 7 (by omega)
          have c8:=HRW.out 8 (by omega)
          simp only [ofT,Tri.cells,List.getElem?_cons_zero,List.getElem?_cons_succ,Nat.add_zero] at c0 c1 c2 c3 c4 c5 c6 c7 c8
          have HTE:=hid (HFb.out wr (by rw [←HB3.out];exact HK.out))
          have hE3:E.length≤100000:=by have:=HM.out;omega
          have RI1:=hid (fun W h1 hE=>rid_any p E HND.out hE3 (n1,t1,x1) W (.slice ae j ce) h1 hE)
          have RI2:=hid (fun W h1 hE=>rid_any p E HND.out hE3 (n2,t2,x2) W (.slice ae j ce) h1 hE)
          have RI3:=hid (fun W h1 hE=>rid_any p E HND.out hE3 (n3,t3,x3) W (.slice ae j ce) h1 hE)
          have HTK2:=hid (show fl ((So.ids L).take (l+1))=fl ((So.ids L).take l)++[.int .i64 (So.num E (n1,t1,x1):Nat),.int .i64 (So.num E (n2,t2,x2):Nat),.int .i64 (So.num E (n3,t3,x3):Nat)] from HTK.out)
          obtain ⟨z1,hz1⟩:∃ z1,z1=So.num E (n1,t1,x1):=⟨_,rfl⟩
          obtain ⟨z2,hz2⟩:∃ z2,z2=So.num E (n2,t2,x2):=⟨_,rfl⟩
          obtain ⟨z3,hz3'⟩:∃ z3,z3=So.num E (n3,t3,x3):=⟨_,rfl⟩
          rw [←hz1] at RI1 HTK2
          rw [←hz2] at RI2 HTK2
          rw [←hz3'] at RI3 HTK2
          clear hz1 hz2 hz3' HTK
          have HB9:=hid (show Below wr.heap.size wr wr.drew from (Below.refl _ _).drew)
          obtain ⟨iS,hi0,hzS,hszS,hbyS⟩:=info_parts Tryz.rainfo77
          go_upto_region 13 with fail
          refine wp_region_held_drew (S:=fun w'=>w'.cell? ⟨p,1,none⟩=some (.slice ae j ce)∧w'.cell? ⟨bl,off+l*9,none⟩=some (.int .i64 (n1:Nat))∧w'.cell? ⟨bl,off+l*9+1,none⟩=some (str t1)∧w'.cell? ⟨bl,off+l*9+2,none⟩=some (str x1)∧w'.cell? ⟨bl,off+l*9+3,none⟩=some (.int .i64 (n2:Nat))∧w'.cell? ⟨bl,off+l*9+4,none⟩=some (str t2)∧w'.cell? ⟨bl,off+l*9+5,none⟩=some (str x2)∧w'.cell? ⟨bl,off+l*9+6,none⟩=some (.int .i64 (n3:Nat))∧w'.cell? ⟨bl,off+l*9+7,none⟩=some (str t3)∧w'.cell? ⟨bl,off+l*9+8,none⟩=some (str x3)) (by kernel_rfl) ⟨p1,c0,c1,c2,c3,c4,c5,c6,c7,c8⟩ (fun hHeld=>?_)
          refine wpAnyH_take (i:=0) (v:=?_) rfl (by kernel_rfl) (by kernel_rfl) (by kernel_rfl) (fun _ _ _ h=>h) (Or.inl ⟨by rfl,?_⟩) hHeld ?_
          rotate_left 1
          · intro w9 hw9;go_simp;try with_reducible rfl
          simp only [Act.put,sa1,sa2,sa3]
          refine wpAnyH_take (i:=1) (v:=?_) rfl (by kernel_rfl) (by kernel_rfl) (by kernel_rfl) (fun _ _ _ h=>h) (Or.inl ⟨by rfl,?_⟩) hHeld ?_
          rotate_left 1
          · intro w9 hw9;go_simp;try with_reducible rfl
          simp only [Act.put,sa1,sa2,sa3]
          refine wpAnyH_take (i:=2) (v:=?_) rfl (by kernel_rfl) (by kernel_rfl) (by kernel_rfl) (fun _ _ _ h=>h) (Or.inl ⟨by rfl,?_⟩) hHeld ?_
          rotate_left 1
          · intro w9 hw9;go_simp;try with_reducible rfl
          simp only [Act.put,sa1,sa2,sa3]
          refine wpAnyH_take (i:=3) (v:=?_) rfl (by kernel_rfl) (by kernel_rfl) (by kernel_rfl) (fun _ _ _ h=>h) (Or.inl ⟨by rfl,?_⟩) hHeld ?_
          rotate_left 1
          · intro w9 hw9;go_simp;try with_reducible rfl
          simp only [Act.put,sa1,sa2,sa3]
          refine wpAnyH_take (i:=5) (v:=?_) rfl (by kernel_rfl) (by kernel_rfl) (by kernel_rfl) (fun _ _ _ h=>h) (Or.inl ⟨by rfl,?_⟩) hHeld ?_
          rotate_left 1
          · intro w9 hw9;go_simp;try with_reducible rfl
          simp only [Act.put,sa1,sa2,sa3]
          refine wpAnyH_take (i:=6) (v:=?_) rfl (by kernel_rfl) (by kernel_rfl) (by kernel_rfl) (fun _ _ _ h=>h) (Or.inl ⟨by rfl,?_⟩) hHeld ?_
          rotate_left 1
          · intro w9 hw9;go_simp;try with_reducible rfl
          simp only [Act.put,sa1,sa2,sa3]
          refine wpAnyH_take (i:=7) (v:=?_) rfl (by kernel_rfl) (by kernel_rfl) (by kernel_rfl) (fun _ _ _ h=>h) (Or.inl ⟨by rfl,?_⟩) hHeld ?_
          rotate_left 1
          · intro w9 hw9;go_simp;try with_reducible rfl
          simp only [Act.put,sa1,sa2,sa3]
          refine wpAnyH_take (i:=8) (v:=?_) rfl (by kernel_rfl) (by kernel_rfl) (by kernel_rfl) (fun _ _ _ h=>h) (Or.inl ⟨by rfl,?_⟩) hHeld ?_
          rotate_left 1
          · intro w9 hw9;go_simp;try with_reducible rfl
          simp only [Act.put,sa1,sa2,sa3]
          refine wpAnyH_take (i:=9) (v:=?_) rfl (by kernel_rfl) (by kernel_rfl) (by kernel_rfl) (fun _ _ _ h=>h) (Or.inl ⟨by rfl,?_⟩) hHeld ?_
          rotate_left 1
          · intro w9 hw9;go_simp;try with_reducible rfl
          simp only [Act.put,sa1,sa2,sa3]
          refine wpAnyH_take (i:=10) (v:=?_) rfl (by kernel_rfl) (by kernel_rfl) (by kernel_rfl) (fun _ _ _ h=>h) (Or.inl ⟨by rfl,?_⟩) hHeld ?_
          rotate_left 1
          · intro w9 hw9;go_simp;try with_reducible rfl
          simp only [Act.put,sa1,sa2,sa3]
          refine wpAnyH_take (i:=12) (v:=?_) rfl (by kernel_rfl) (by kernel_rfl) (by kernel_rfl) (fun _ _ _ h=>h) (Or.inl ⟨by rfl,?_⟩) hHeld ?_
          rotate_left 1
          · intro w9 hw9;go_simp;try with_reducible rfl
          simp only [Act.put,sa1,sa2,sa3]
          refine wpAnyH_take (i:=13) (v:=?_) rfl (by kernel_rfl) (by kernel_rfl) (by kernel_rfl) (fun _ _ _ h=>h) (Or.inl ⟨by rfl,?_⟩) hHeld ?_
          rotate_left 1
          · intro w9 hw9;go_simp;try with_reducible rfl
          simp only [Act.put,sa1,sa2,sa3]
          refine wpAnyH_take (i:=14) (v:=?_) rfl (by kernel_rfl) (by kernel_rfl) (by kernel_rfl) (fun _ _ _ h=>h) (Or.inl ⟨by rfl,?_⟩) hHeld ?_
          rotate_left 1
          · intro w9 hw9;go_simp;try with_reducible rfl
          simp only [Act.put,sa1,sa2,sa3]
          refine wpAnyH_take (i:=15) (v:=?_) rfl (by kernel_rfl) (by kernel_rfl) (by kernel_rfl) (fun _ _ _ h=>h) (Or.inl ⟨by rfl,?_⟩) hHeld ?_
          rotate_left 1
          · intro w9 hw9;go_simp;try with_reducible rfl
          simp only [Act.put,sa1,sa2,sa3]
          refine wpAnyH_take (i:=16) (v:=?_) rfl (by kernel_rfl) (by kernel_rfl) (by kernel_rfl) (fun _ _ _ h=>h) (Or.inl ⟨by rfl,?_⟩) hHeld ?_
          rotate_left 1
          · intro w9 hw9;go_simp;try with_reducible rfl
          simp only [Act.put,sa1,sa2,sa3]
          refine wpAnyH_take (i:=17) (v:=?_) rfl (by kernel_rfl) (by kernel_rfl) (by kernel_rfl) (fun _ _ _ h=>h) (Or.inl ⟨by rfl,?_⟩) hHeld ?_
          rotate_left 1
          · intro w9 hw9;go_simp;try with_reducible rfl
          simp only [Act.put,sa1,sa2,sa3]
          refine wpAnyH_take (i:=19) (v:=?_) rfl (by kernel_rfl) (by kernel_rfl) (by kernel_rfl) (fun _ _ _ h=>h) (Or.inl ⟨by rfl,?_⟩) hHeld ?_
          rotate_left 1
          · intro w9 hw9;go_simp;try with_reducible rfl
          simp only [Act.put,sa1,sa2,sa3]
          refine wpAnyH_take (i:=20) (v:=?_) rfl (by kernel_rfl) (by kernel_rfl) (by kernel_rfl) (fun _ _ _ h=>h) (Or.inl ⟨by rfl,?_⟩) hHeld ?_
          rotate_left 1
          · intro w9 hw9;go_simp;try with_reducible rfl
          simp only [Act.put,sa1,sa2,sa3]
          refine wpAnyH_take (i:=21) (v:=?_) rfl (by kernel_rfl) (by kernel_rfl) (by kernel_rfl) (fun _ _ _ h=>h) (Or.inl ⟨by rfl,?_⟩) hHeld ?_
          rotate_left 1
          · intro w9 hw9;go_simp;try with_reducible rfl
          simp only [Act.put,sa1,sa2,sa3]
          refine wpAnyH_take (i:=22) (v:=?_) rfl (by kernel_rfl) (by kernel_rfl) (by kernel_rfl) (fun _ _ _ h=>h) (Or.inl ⟨by rfl,?_⟩) hHeld ?_
          rotate_left 1
          · intro w9 hw9;go_simp;try with_reducible rfl
          simp only [Act.put,sa1,sa2,sa3]
          refine wpAnyH_take (i:=23) (v:=?_) rfl (by kernel_rfl) (by kernel_rfl) (by kernel_rfl) (fun _ _ _ h=>h) (Or.inl ⟨by rfl,?_⟩) hHeld ?_
          rotate_left 1
          · intro w9 hw9;go_simp;try with_reducible rfl
          simp only [Act.put,sa1,sa2,sa3]
          refine wpAnyH_take (i:=24) (v:=?_) rfl (by kernel_rfl) (by kernel_rfl) (by kernel_rfl) (fun _ _ _ h=>h) (Or.inl ⟨by rfl,?_⟩) hHeld ?_
          rotate_left 1
          · intro w9 hw9;go_simp;try with_reducible rfl
          simp only [Act.put,sa1,sa2,sa3]
          refine wpAnyH_ready (rs:=[4,11]) (by kernel_rfl) (by simp) ?_
          refine AllReadyH.cons rfl (fun K hK=>?_) ?_
          · have q3:=below_keep HB9.out p3
            go_simp
            refine hK.out _ _ (hHeld) (fun hHeld=>?_)
            clear hK K
            (try simp only [Act.put,sa1,sa2,sa3])
            refine wpAnyH_ready (rs:=[11]) (by kernel_rfl) (by simp) ?_
            refine AllReadyH.cons rfl (fun K hK=>?_) ?_
            · go_simp
              go_at_call 65
              refine (RI1.out _ (below_keep HB9.out p1) (HTE.out.keep HB9.out)).mono ?_
              rintro e w5 ⟨rfl,hb9⟩
              have HB9:=hid (below_then HB9.out hb9)
              clear hb9
              refine hK.out _ _ (⟨below_keep HB9.out p1,below_keep HB9.out c0,below_keep HB9.out c1,below_keep HB9.out c2,below_keep HB9.out c3,below_keep HB9.out c4,below_keep HB9.out c5,below_keep HB9.out c6,below_keep HB9.out c7,below_keep HB9.out c8⟩) (fun hHeld=>?_)
              clear hK K
              (try simp only [Act.put,sa1,sa2,sa3])
              refine wpAnyH_ready (rs:=[18]) (by kernel_rfl) (by simp) ?_
              refine AllReadyH.cons rfl (fun K hK=>?_) ?_
              · go_simp
                go_at_call 65
                refine (RI2.out _ (below_keep HB9.out p1) (HTE.out.keep HB9.out)).mono ?_
                rintro e w6 ⟨rfl,hb9⟩
                have HB9:=hid (below_then HB9.out hb9)
                clear hb9
                refine hK.out _ _ (⟨below_keep HB9.out p1,below_keep HB9.out c0,below_keep HB9.out c1,below_keep HB9.out c2,below_keep HB9.out c3,below_keep HB9.out c4,below_keep HB9.out c5,below_keep HB9.out c6,below_keep HB9.out c7,below_keep HB9.out c8⟩) (fun hHeld=>?_)
                clear hK K
                (try simp only [Act.put,sa1,sa2,sa3])
                refine wpAnyH_ready (rs:=[25]) (by kernel_rfl) (by simp) ?_
                refine AllReadyH.cons rfl (fun K hK=>?_) ?_
                · go_simp
                  go_at_call 65
                  refine (RI3.out _ (below_keep HB9.out p1) (HTE.out.keep HB9.out)).mono ?_
                  rintro e w7 ⟨rfl,hb9⟩
                  have HB9:=hid (below_then HB9.out hb9)
                  clear hb9
                  refine hK.out _ _ (⟨below_keep HB9.out p1,below_keep HB9.out c0,below_keep HB9.out c1,below_keep HB9.out c2,below_keep HB9.out c3,below_keep HB9.out c4,below_keep HB9.out c5,below_keep HB9.out c6,below_keep HB9.out c7,below_keep HB9.out c8⟩) (fun hHeld=>?_)
                  clear hK K
                  (try simp only [Act.put,sa1,sa2,sa3])
                  refine wpAnyH_take (i:=26) (v:=?_) rfl (by kernel_rfl) (by kernel_rfl) (by kernel_rfl) (fun _ _ _ h=>h) (Or.inl ⟨by rfl,?_⟩) hHeld ?_
                  rotate_left 1
                  · intro w9 hw9;go_simp;try with_reducible rfl
                  simp only [Act.put,sa1,sa2,sa3]
                  refine wpAnyH_ready (rs:=[27]) (by kernel_rfl) (by simp) ?_
                  refine AllReadyH.cons rfl (fun K hK=>?_) ?_
                  · obtain ⟨q,hq⟩:∃ q,q=(w7).heap.size:=⟨_,rfl⟩
                    go_simp
                    have HQ:=hid (Blk.new w7 [.int .i64 (z1:Nat),.int .i64 (z2:Nat),.int .i64 (z3:Nat)] 77)
                    have HB9:=hid (HB9.out.alloc HB9.out.size (.cells ([.int .i64 (z1:Nat),.int .i64 (z2:Nat),.int .i64 (z3:Nat)]).toArray 77))
                    rw [←hq] at HQ ⊢
                    clear hq
                    refine hK.out _ _ (⟨below_keep HB9.out p1,below_keep HB9.out c0,below_keep HB9.out c1,below_keep HB9.out c2,below_keep HB9.out c3,below_keep HB9.out c4,below_keep HB9.out c5,below_keep HB9.out c6,below_keep HB9.out c7,below_keep HB9.out c8⟩) (fun hHeld=>?_)
                    clear hK K
                    (try simp only [Act.put,sa1,sa2,sa3])
                    refine wpAnyH_ready (rs:=[28]) (by kernel_rfl) (by simp) ?_
                    refine AllReadyH.cons rfl (fun K hK=>?_) ?_
                    · refine step_append_seg (by rfl) (.tmp 77) (.tmp 100) 79 (by rfl) B3 77 iS _ 3 24 Tryz.underlying79 hi0 hzS hszS hbyS rfl (by decide) (.slice bv l dv) l _ (by rfl) (own_keep HO.out HB9.out) ⟨q,0,none⟩ 1 1 [.int .i64 (z1:Nat),.int .i64 (z2:Nat),.int .i64 (z3:Nat)] rfl (by rfl) ?c1 (by simp [Value.oneCell']) (by unfold maxLen;omega) (by omega) (Nat.le_trans hz3 HB9.out.size) ?_
                      case c1=>
                       intro jj uu hu
                       rcases jj with _ | _ | _ | jj
                       · cases hu;exact HQ.out.cell (i:=0) rfl
                       · cases hu;exact HQ.out.cell (i:=1) rfl
                       · cases hu;exact HQ.out.cell (i:=2) rfl
                       · cases hu
                      intro v8 w8 g1 g2 g3
                      have HB8:=hid ((HB9.out.mono hz3).trans (grown_low g2 (Nat.le_trans hz3 HB9.out.size) (fun k hk=>((own_keep HO.out HB9.out).lt k hk).1)))
                      have HO8:=hid (show w8.ownsRow B3 77 3 v8 (l+1) (fl ((So.ids L).take (l+1))) by rw [HTK2.out];exact g1)
                      have HP8:=hid (HP.out.below HB8.out (by omega))
                      have q3:=HP8.out.cell (i:=3) rfl
                      have f3:=HP8.out.free 3
                      obtain ⟨q1,qc0,qc1,qc2,qc3,qc4,qc5,qc6,qc7,qc8⟩:=(show _∧_∧_∧_∧_∧_∧_∧_∧_∧_ from ⟨(HB8.out.cell (p:=⟨p,1,none⟩) (by show p<B3;omega)).trans p1,(HB8.out.cell (p:=⟨bl,off+l*9,none⟩) (by show bl<B3;exact hblB)).trans c0,(HB8.out.cell (p:=⟨bl,off+l*9+1,none⟩) (by show bl<B3;exact hblB)).trans c1,(HB8.out.cell (p:=⟨bl,off+l*9+2,none⟩) (by show bl<B3;exact hblB)).trans c2,(HB8.out.cell (p:=⟨bl,off+l*9+3,none⟩) (by show bl<B3;exact hblB)).trans c3,(HB8.out.cell (p:=⟨bl,off+l*9+4,none⟩) (by show bl<B3;exact hblB)).trans c4,(HB8.out.cell (p:=⟨bl,off+l*9+5,none⟩) (by show bl<B3;exact hblB)).trans c5,(HB8.out.cell (p:=⟨bl,off+l*9+6,none⟩) (by show bl<B3;exact hblB)).trans c6,(HB8.out.cell (p:=⟨bl,off+l*9+7,none⟩) (by show bl<B3;exact hblB)).trans c7,(HB8.out.cell (p:=⟨bl,off+l*9+8,none⟩) (by show bl<B3;exact hblB)).trans c8⟩)
                      obtain ⟨gb,cp,hv8,_⟩:=HO8.out.form (Nat.succ_pos l)
                      subst hv8
                      clear g1 g2 g3
                      refine hK.out _ _ (⟨q1,qc0,qc1,qc2,qc3,qc4,qc5,qc6,qc7,qc8⟩) (fun hHeld=>?_)
                      clear hK K
                      (try simp only [Act.put,sa1,sa2,sa3])
                      refine wpAnyH_take (i:=29) (v:=?_) rfl (by kernel_rfl) (by kernel_rfl) (by kernel_rfl) (fun _ _ _ h=>h) (Or.inl ⟨by rfl,?_⟩) hHeld ?_
                      rotate_left 1
                      · intro w9 hw9;go_simp;try with_reducible rfl
                      simp only [Act.put,sa1,sa2,sa3]
                      refine wpAnyH_take (i:=30) (v:=?_) rfl (by kernel_rfl) (by kernel_rfl) (by kernel_rfl) (fun _ _ _ h=>h) (Or.inl ⟨by rfl,?_⟩) hHeld ?_
                      rotate_left 1
                      · intro w9 hw9;go_simp;try with_reducible rfl
                      simp only [Act.put,sa1,sa2,sa3]
                      refine wpAnyH_ready (rs:=[31]) (by kernel_rfl) (by simp) ?_
                      refine AllReadyH.cons rfl (fun K hK=>?_) ?_
                      · go_simp
                        refine hK.out _ _ (⟨(World.cell?_setCell_other _ ⟨p,3,none⟩ ⟨p,1,none⟩ _ (by simp)).trans q1,(World.cell?_setCell_far _ ⟨p,3,none⟩ ⟨bl,_,none⟩ _ (by exact hbl)).trans qc0,(World.cell?_setCell_far _ ⟨p,3,none⟩ ⟨bl,_,none⟩ _ (by exact hbl)).trans qc1,(World.cell?_setCell_far _ ⟨p,3,none⟩ ⟨bl,_,none⟩ _ (by exact hbl)).trans qc2,(World.cell?_setCell_far _ ⟨p,3,none⟩ ⟨bl,_,none⟩ _ (by exact hbl)).trans qc3,(World.cell?_setCell_far _ ⟨p,3,none⟩ ⟨bl,_,none⟩ _ (by exact hbl)).trans qc4,(World.cell?_setCell_far _ ⟨p,3,none⟩ ⟨bl,_,none⟩ _ (by exact hbl)).trans qc5,(World.cell?_setCell_far _ ⟨p,3,none⟩ ⟨bl,_,none⟩ _ (by exact hbl)).trans qc6,(World.cell?_setCell_far _ ⟨p,3,none⟩ ⟨bl,_,none⟩ _ (by exact hbl)).trans qc7,(World.cell?_setCell_far _ ⟨p,3,none⟩ ⟨bl,_,none⟩ _ (by exact hbl)).trans qc8⟩) (fun hHeld=>?_)
                        clear hK K
                        (try simp only [Act.put,sa1,sa2,sa3])
                        refine wpAnyH_done (by kernel_rfl) ?_ _
                        have HBE:=hid (show Below p w (w8.setCell ⟨p,3,none⟩ (.slice (some ⟨gb,0,none⟩) (l+1) cp)) from (HB.out.trans (HB8.out.mono (by omega))).setCell (Nat.le_refl _) _)
                        have HPE:=hid (HP8.out.set 3 (.slice (some ⟨gb,0,none⟩) (l+1) cp))
                        have HOE:=hid (own_set (i:=3) (u:=(.slice (some ⟨gb,0,none⟩) (l+1) cp)) HO8.out (show p<B3 by omega))
                        have HKE:=hid (show ∀ k,p+1≤k→k<B3→(w8.setCell ⟨p,3,none⟩ (.slice (some ⟨gb,0,none⟩) (l+1) cp)).heap[k]?=wb.heap[k]? from fun k h1 h2=>(Below.heap_setCell _ _ _ _ (by show k≠p;omega)).trans ((HB8.out.block k h2).trans (HK.out k h1 h2)))
                        have hzE:B3≤(w8.setCell ⟨p,3,none⟩ (.slice (some ⟨gb,0,none⟩) (l+1) cp)).heap.size:=by rw [World.size_setCell];exact Nat.le_trans hz3 HB8.out.size
                        clear HB9 HQ HB8 HO8 HP8 q1 q3 qc0 qc1 qc2 qc3 qc4 qc5 qc6 qc7 qc8 f3
                        go_wp2
                        go_roundg (i-(l+1))
                        case measure=>omega
                        case rel=>exact ⟨l+1,_,_,by go_num,by omega,by omega,HBE,HPE,HOE,HKE,hzE⟩
                      exact AllReadyH.nil
                    exact AllReadyH.nil
                  exact AllReadyH.nil
                exact AllReadyH.nil
              exact AllReadyH.nil
            exact AllReadyH.nil
          refine AllReadyH.cons rfl (fun K hK=>?_) ?_
          · go_simp
            go_at_call 65
            refine (RI1.out _ (below_keep HB9.out p1) (HTE.out.keep HB9.out)).mono ?_
            rintro e w5 ⟨rfl,hb9⟩
            have HB9:=hid (below_then HB9.out hb9)
            clear hb9
            refine hK.out _ _ (⟨below_keep HB9.out p1,below_keep HB9.out c0,below_keep HB9.out c1,below_keep HB9.out c2,below_keep HB9.out c3,below_keep HB9.out c4,below_keep HB9.out c5,below_keep HB9.out c6,below_keep HB9.out c7,below_keep HB9.out c8⟩) (fun hHeld=>?_)
            clear hK K
            (try simp only [Act.put,sa1,sa2,sa3])
            refine wpAnyH_ready (rs:=[4,18]) (by kernel_rfl) (by simp) ?_
            refine AllReadyH.cons rfl (fun K hK=>?_) ?_
            · have q3:=below_keep HB9.out p3
              go_simp
              refine hK.out _ _ (hHeld) (fun hHeld=>?_)
              clear hK K
              (try simp only [Act.put,sa1,sa2,sa3])
              refine wpAnyH_ready (rs:=[18]) (by kernel_rfl) (by simp) ?_
              refine AllReadyH.cons rfl (fun K hK=>?_) ?_
              · go_simp
                go_at_call 65
                refine (RI2.out _ (below_keep HB9.out p1) (HTE.out.keep HB9.out)).mono ?_
                rintro e w6 ⟨rfl,hb9⟩
                have HB9:=hid (below_then HB9.out hb9)
                clear hb9
                refine hK.out _ _ (⟨below_keep HB9.out p1,below_keep HB9.out c0,below_keep HB9.out c1,below_keep HB9.out c2,below_keep HB9.out c3,below_keep HB9.out c4,below_keep HB9.out c5,below_keep HB9.out c6,below_keep HB9.out c7,below_keep HB9.out c8⟩) (fun hHeld=>?_)
                clear hK K
                (try simp only [Act.put,sa1,sa2,sa3])
                refine wpAnyH_ready (rs:=[25]) (by kernel_rfl) (by simp) ?_
                refine AllReadyH.cons rfl (fun K hK=>?_) ?_
                · go_simp
                  go_at_call 65
                  refine (RI3.out _ (below_keep HB9.out p1) (HTE.out.keep HB9.out)).mono ?_
                  rintro e w7 ⟨rfl,hb9⟩
                  have HB9:=hid (below_then HB9.out hb9)
                  clear hb9
                  refine hK.out _ _ (⟨below_keep HB9.out p1,below_keep HB9.out c0,below_keep HB9.out c1,below_keep HB9.out c2,below_keep HB9.out c3,below_keep HB9.out c4,below_keep HB9.out c5,below_keep HB9.out c6,below_keep HB9.out c7,below_keep HB9.out c8⟩) (fun hHeld=>?_)
                  clear hK K
                  (try simp only [Act.put,sa1,sa2,sa3])
                  refine wpAnyH_take (i:=26) (v:=?_) rfl (by kernel_rfl) (by kernel_rfl) (by kernel_rfl) (fun _ _ _ h=>h) (Or.inl ⟨by rfl,?_⟩) hHeld ?_
                  rotate_left 1
                  · intro w9 hw9;go_simp;try with_reducible rfl
                  simp only [Act.put,sa1,sa2,sa3]
                  refine wpAnyH_ready (rs:=[27]) (by kernel_rfl) (by simp) ?_
                  refine AllReadyH.cons rfl (fun K hK=>?_) ?_
                  · obtain ⟨q,hq⟩:∃ q,q=(w7).heap.size:=⟨_,rfl⟩
                    go_simp
                    have HQ:=hid (Blk.new w7 [.int .i64 (z1:Nat),.int .i64 (z2:Nat),.int .i64 (z3:Nat)] 77)
                    have HB9:=hid (HB9.out.alloc HB9.out.size (.cells ([.int .i64 (z1:Nat),.int .i64 (z2:Nat),.int .i64 (z3:Nat)]).toArray 77))
                    rw [←hq] at HQ ⊢
                    clear hq
                    refine hK.out _ _ (⟨below_keep HB9.out p1,below_keep HB9.out c0,below_keep HB9.out c1,below_keep HB9.out c2,below_keep HB9.out c3,below_keep HB9.out c4,below_keep HB9.out c5,below_keep HB9.out c6,below_keep HB9.out c7,below_keep HB9.out c8⟩) (fun hHeld=>?_)
                    clear hK K
                    (try simp only [Act.put,sa1,sa2,sa3])
                    refine wpAnyH_ready (rs:=[28]) (by kernel_rfl) (by simp) ?_
                    refine AllReadyH.cons rfl (fun K hK=>?_) ?_
                    · refine step_append_seg (by rfl) (.tmp 77) (.tmp 100) 79 (by rfl) B3 77 iS _ 3 24 Tryz.underlying79 hi0 hzS hszS hbyS rfl (by decide) (.slice bv l dv) l _ (by rfl) (own_keep HO.out HB9.out) ⟨q,0,none⟩ 1 1 [.int .i64 (z1:Nat),.int .i64 (z2:Nat),.int .i64 (z3:Nat)] rfl (by rfl) ?c1 (by simp [Value.oneCell']) (by unfold maxLen;omega) (by omega) (Nat.le_trans hz3 HB9.out.size) ?_
                      case c1=>
                       intro jj uu hu
                       rcases jj with _ | _ | _ | jj
                       · cases hu;exact HQ.out.cell (i:=0) rfl
                       · cases hu;exact HQ.out.cell (i:=1) rfl
                       · cases hu;exact HQ.out.cell (i:=2) rfl
                       · cases hu
                      intro v8 w8 g1 g2 g3
                      have HB8:=hid ((HB9.out.mono hz3).trans (grown_low g2 (Nat.le_trans hz3 HB9.out.size) (fun k hk=>((own_keep HO.out HB9.out).lt k hk).1)))
                      have HO8:=hid (show w8.ownsRow B3 77 3 v8 (l+1) (fl ((So.ids L).take (l+1))) by rw [HTK2.out];exact g1)
                      have HP8:=hid (HP.out.below HB8.out (by omega))
                      have q3:=HP8.out.cell (i:=3) rfl
                      have f3:=HP8.out.free 3
                      obtain ⟨q1,qc0,qc1,qc2,qc3,qc4,qc5,qc6,qc7,qc8⟩:=(show _∧_∧_∧_∧_∧_∧_∧_∧_∧_ from ⟨(HB8.out.cell (p:=⟨p,1,none⟩) (by show p<B3;omega)).trans p1,(HB8.out.cell (p:=⟨bl,off+l*9,none⟩) (by show bl<B3;exact hblB)).trans c0,(HB8.out.cell (p:=⟨bl,off+l*9+1,none⟩) (by show bl<B3;exact hblB)).trans c1,(HB8.out.cell (p:=⟨bl,off+l*9+2,none⟩) (by show bl<B3;exact hblB)).trans c2,(HB8.out.cell (p:=⟨bl,off+l*9+3,none⟩) (by show bl<B3;exact hblB)).trans c3,(HB8.out.cell (p:=⟨bl,off+l*9+4,none⟩) (by show bl<B3;exact hblB)).trans c4,(HB8.out.cell (p:=⟨bl,off+l*9+5,none⟩) (by show bl<B3;exact hblB)).trans c5,(HB8.out.cell (p:=⟨bl,off+l*9+6,none⟩) (by show bl<B3;exact hblB)).trans c6,(HB8.out.cell (p:=⟨bl,off+l*9+7,none⟩) (by show bl<B3;exact hblB)).trans c7,(HB8.out.cell (p:=⟨bl,off+l*9+8,none⟩) (by show bl<B3;exact hblB)).trans c8⟩)
                      obtain ⟨gb,cp,hv8,_⟩:=HO8.out.form (Nat.succ_pos l)
                      subst hv8
                      clear g1 g2 g3
                      refine hK.out _ _ (⟨q1,qc0,qc1,qc2,qc3,qc4,qc5,qc6,qc7,qc8⟩) (fun hHeld=>?_)
                      clear hK K
                      (try simp only [Act.put,sa1,sa2,sa3])
                      refine wpAnyH_take (i:=29) (v:=?_) rfl (by kernel_rfl) (by kernel_rfl) (by kernel_rfl) (fun _ _ _ h=>h) (Or.inl ⟨by rfl,?_⟩) hHeld ?_
                      rotate_left 1
                      · intro w9 hw9;go_simp;try with_reducible rfl
                      simp only [Act.put,sa1,sa2,sa3]
                      refine wpAnyH_take (i:=30) (v:=?_) rfl (by kernel_rfl) (by kernel_rfl) (by kernel_rfl) (fun _ _ _ h=>h) (Or.inl ⟨by rfl,?_⟩) hHeld ?_
                      rotate_left 1
                      · intro w9 hw9;go_simp;try with_reducible rfl
                      simp only [Act.put,sa1,sa2,sa3]
                      refine wpAnyH_ready (rs:=[31]) (by kernel_rfl) (by simp) ?_
                      refine AllReadyH.cons rfl (fun K hK=>?_) ?_
                      · go_simp
                        refine hK.out _ _ (⟨(World.cell?_setCell_other _ ⟨p,3,none⟩ ⟨p,1,none⟩ _ (by simp)).trans q1,(World.cell?_setCell_far _ ⟨p,3,none⟩ ⟨bl,_,none⟩ _ (by exact hbl)).trans qc0,(World.cell?_setCell_far _ ⟨p,3,none⟩ ⟨bl,_,none⟩ _ (by exact hbl)).trans qc1,(World.cell?_setCell_far _ ⟨p,3,none⟩ ⟨bl,_,none⟩ _ (by exact hbl)).trans qc2,(World.cell?_setCell_far _ ⟨p,3,none⟩ ⟨bl,_,none⟩ _ (by exact hbl)).trans qc3,(World.cell?_setCell_far _ ⟨p,3,none⟩ ⟨bl,_,none⟩ _ (by exact hbl)).trans qc4,(World.cell?_setCell_far _ ⟨p,3,none⟩ ⟨bl,_,none⟩ _ (by exact hbl)).trans qc5,(World.cell?_setCell_far _ ⟨p,3,none⟩ ⟨bl,_,none⟩ _ (by exact hbl)).trans qc6,(World.cell?_setCell_far _ ⟨p,3,none⟩ ⟨bl,_,none⟩ _ (by exact hbl)).trans qc7,(World.cell?_setCell_far _ ⟨p,3,none⟩ ⟨bl,_,none⟩ _ (by exact hbl)).trans qc8⟩) (fun hHeld=>?_)
                        clear hK K
                        (try simp only [Act.put,sa1,sa2,sa3])
                        refine wpAnyH_done (by kernel_rfl) ?_ _
                        have HBE:=hid (show Below p w (w8.setCell ⟨p,3,none⟩ (.slice (some ⟨gb,0,none⟩) (l+1) cp)) from (HB.out.trans (HB8.out.mono (by omega))).setCell (Nat.le_refl _) _)
                        have HPE:=hid (HP8.out.set 3 (.slice (some ⟨gb,0,none⟩) (l+1) cp))
                        have HOE:=hid (own_set (i:=3) (u:=(.slice (some ⟨gb,0,none⟩) (l+1) cp)) HO8.out (show p<B3 by omega))
                        have HKE:=hid (show ∀ k,p+1≤k→k<B3→(w8.setCell ⟨p,3,none⟩ (.slice (some ⟨gb,0,none⟩) (l+1) cp)).heap[k]?=wb.heap[k]? from fun k h1 h2=>(Below.heap_setCell _ _ _ _ (by show k≠p;omega)).trans ((HB8.out.block k h2).trans (HK.out k h1 h2)))
                        have hzE:B3≤(w8.setCell ⟨p,3,none⟩ (.slice (some ⟨gb,0,none⟩) (l+1) cp)).heap.size:=by rw [World.size_setCell];exact Nat.le_trans hz3 HB8.out.size
                        clear HB9 HQ HB8 HO8 HP8 q1 q3 qc0 qc1 qc2 qc3 qc4 qc5 qc6 qc7 qc8 f3
                        go_wp2
                        go_roundg (i-(l+1))
                        case measure=>omega
                        case rel=>exact ⟨l+1,_,_,by go_num,by omega,by omega,HBE,HPE,HOE,HKE,hzE⟩
                      exact AllReadyH.nil
                    exact AllReadyH.nil
                  exact AllReadyH.nil
                exact AllReadyH.nil
              exact AllReadyH.nil
            refine AllReadyH.cons rfl (fun K hK=>?_) ?_
            · go_simp
              go_at_call 65
              refine (RI2.out _ (below_keep HB9.out p1) (HTE.out.keep HB9.out)).mono ?_
              rintro e w6 ⟨rfl,hb9⟩
              have HB9:=hid (below_then HB9.out hb9)
              clear hb9
              refine hK.out _ _ (⟨below_keep HB9.out p1,below_keep HB9.out c0,below_keep HB9.out c1,below_keep HB9.out c2,below_keep HB9.out c3,below_keep HB9.out c4,below_keep HB9.out c5,below_keep HB9.out c6,below_keep HB9.out c7,below_keep HB9.out c8⟩) (fun hHeld=>?_)
              clear hK K
              (try simp only [Act.put,sa1,sa2,sa3])
              refine wpAnyH_ready (rs:=[4,25]) (by kernel_rfl) (by simp) ?_
              refine AllReadyH.cons rfl (fun K hK=>?_) ?_
              · have q3:=below_keep HB9.out p3
                go_simp
                refine hK.out _ _ (hHeld) (fun hHeld=>?_)
                clear hK K
                (try simp only [Act.put,sa1,sa2,sa3])
                refine wpAnyH_ready (rs:=[25]) (by kernel_rfl) (by simp) ?_
                refine AllReadyH.cons rfl (fun K hK=>?_) ?_
                · go_simp
                  go_at_call 65
                  refine (RI3.out _ (below_keep HB9.out p1) (HTE.out.keep HB9.out)).mono ?_
                  rintro e w7 ⟨rfl,hb9⟩
                  have HB9:=hid (below_then HB9.out hb9)
                  clear hb9
                  refine hK.out _ _ (⟨below_keep HB9.out p1,below_keep HB9.out c0,below_keep HB9.out c1,below_keep HB9.out c2,below_keep HB9.out c3,below_keep HB9.out c4,below_keep HB9.out c5,below_keep HB9.out c6,below_keep HB9.out c7,below_keep HB9.out c8⟩) (fun hHeld=>?_)
                  clear hK K
                  (try simp only [Act.put,sa1,sa2,sa3])
                  refine wpAnyH_take (i:=26) (v:=?_) rfl (by kernel_rfl) (by kernel_rfl) (by kernel_rfl) (fun _ _ _ h=>h) (Or.inl ⟨by rfl,?_⟩) hHeld ?_
                  rotate_left 1
                  · intro w9 hw9;go_simp;try with_reducible rfl
                  simp only [Act.put,sa1,sa2,sa3]
                  refine wpAnyH_ready (rs:=[27]) (by kernel_rfl) (by simp) ?_
                  refine AllReadyH.cons rfl (fun K hK=>?_) ?_
                  · obtain ⟨q,hq⟩:∃ q,q=(w7).heap.size:=⟨_,rfl⟩
                    go_simp
                    have HQ:=hid (Blk.new w7 [.int .i64 (z1:Nat),.int .i64 (z2:Nat),.int .i64 (z3:Nat)] 77)
                    have HB9:=hid (HB9.out.alloc HB9.out.size (.cells ([.int .i64 (z1:Nat),.int .i64 (z2:Nat),.int .i64 (z3:Nat)]).toArray 77))
                    rw [←hq] at HQ ⊢
                    clear hq
                    refine hK.out _ _ (⟨below_keep HB9.out p1,below_keep HB9.out c0,below_keep HB9.out c1,below_keep HB9.out c2,below_keep HB9.out c3,below_keep HB9.out c4,below_keep HB9.out c5,below_keep HB9.out c6,below_keep HB9.out c7,below_keep HB9.out c8⟩) (fun hHeld=>?_)
                    clear hK K
                    (try simp only [Act.put,sa1,sa2,sa3])
                    refine wpAnyH_ready (rs:=[28]) (by kernel_rfl) (by simp) ?_
                    refine AllReadyH.cons rfl (fun K hK=>?_) ?_
                    · refine step_append_seg (by rfl) (.tmp 77) (.tmp 100) 79 (by rfl) B3 77 iS _ 3 24 Tryz.underlying79 hi0 hzS hszS hbyS rfl (by decide) (.slice bv l dv) l _ (by rfl) (own_keep HO.out HB9.out) ⟨q,0,none⟩ 1 1 [.int .i64 (z1:Nat),.int .i64 (z2:Nat),.int .i64 (z3:Nat)] rfl (by rfl) ?c1 (by simp [Value.oneCell']) (by unfold maxLen;omega) (by omega) (Nat.le_trans hz3 HB9.out.size) ?_
                      case c1=>
                       intro jj uu hu
                       rcases jj with _ | _ | _ | jj
                       · cases hu;exact HQ.out.cell (i:=0) rfl
                       · cases hu;exact HQ.out.cell (i:=1) rfl
                       · cases hu;exact HQ.out.cell (i:=2) rfl
                       · cases hu
                      intro v8 w8 g1 g2 g3
                      have HB8:=hid ((HB9.out.mono hz3).trans (grown_low g2 (Nat.le_trans hz3 HB9.out.size) (fun k hk=>((own_keep HO.out HB9.out).lt k hk).1)))
                      have HO8:=hid (show w8.ownsRow B3 77 3 v8 (l+1) (fl ((So.ids L).take (l+1))) by rw [HTK2.out];exact g1)
                      have HP8:=hid (HP.out.below HB8.out (by omega))
                      have q3:=HP8.out.cell (i:=3) rfl
                      have f3:=HP8.out.free 3
                      obtain ⟨q1,qc0,qc1,qc2,qc3,qc4,qc5,qc6,qc7,qc8⟩:=(show _∧_∧_∧_∧_∧_∧_∧_∧_∧_ from ⟨(HB8.out.cell (p:=⟨p,1,none⟩) (by show p<B3;omega)).trans p1,(HB8.out.cell (p:=⟨bl,off+l*9,none⟩) (by show bl<B3;exact hblB)).trans c0,(HB8.out.cell (p:=⟨bl,off+l*9+1,none⟩) (by show bl<B3;exact hblB)).trans c1,(HB8.out.cell (p:=⟨bl,off+l*9+2,none⟩) (by show bl<B3;exact hblB)).trans c2,(HB8.out.cell (p:=⟨bl,off+l*9+3,none⟩) (by show bl<B3;exact hblB)).trans c3,(HB8.out.cell (p:=⟨bl,off+l*9+4,none⟩) (by show bl<B3;exact hblB)).trans c4,(HB8.out.cell (p:=⟨bl,off+l*9+5,none⟩) (by show bl<B3;exact hblB)).trans c5,(HB8.out.cell (p:=⟨bl,off+l*9+6,none⟩) (by show bl<B3;exact hblB)).trans c6,(HB8.out.cell (p:=⟨bl,off+l*9+7,none⟩) (by show bl<B3;exact hblB)).trans c7,(HB8.out.cell (p:=⟨bl,off+l*9+8,none⟩) (by show bl<B3;exact hblB)).trans c8⟩)
                      obtain ⟨gb,cp,hv8,_⟩:=HO8.out.form (Nat.succ_pos l)
                      subst hv8
                      clear g1 g2 g3
                      refine hK.out _ _ (⟨q1,qc0,qc1,qc2,qc3,qc4,qc5,qc6,qc7,qc8⟩) (fun hHeld=>?_)
                      clear hK K
                      (try simp only [Act.put,sa1,sa2,sa3])
                      refine wpAnyH_take (i:=29) (v:=?_) rfl (by kernel_rfl) (by kernel_rfl) (by kernel_rfl) (fun _ _ _ h=>h) (Or.inl ⟨by rfl,?_⟩) hHeld ?_
                      rotate_left 1
                      · intro w9 hw9;go_simp;try with_reducible rfl
                      simp only [Act.put,sa1,sa2,sa3]
                      refine wpAnyH_take (i:=30) (v:=?_) rfl (by kernel_rfl) (by kernel_rfl) (by kernel_rfl) (fun _ _ _ h=>h) (Or.inl ⟨by rfl,?_⟩) hHeld ?_
                      rotate_left 1
                      · intro w9 hw9;go_simp;try with_reducible rfl
                      simp only [Act.put,sa1,sa2,sa3]
                      refine wpAnyH_ready (rs:=[31]) (by kernel_rfl) (by simp) ?_
                      refine AllReadyH.cons rfl (fun K hK=>?_) ?_
                      · go_simp
                        refine hK.out _ _ (⟨(World.cell?_setCell_other _ ⟨p,3,none⟩ ⟨p,1,none⟩ _ (by simp)).trans q1,(World.cell?_setCell_far _ ⟨p,3,none⟩ ⟨bl,_,none⟩ _ (by exact hbl)).trans qc0,(World.cell?_setCell_far _ ⟨p,3,none⟩ ⟨bl,_,none⟩ _ (by exact hbl)).trans qc1,(World.cell?_setCell_far _ ⟨p,3,none⟩ ⟨bl,_,none⟩ _ (by exact hbl)).trans qc2,(World.cell?_setCell_far _ ⟨p,3,none⟩ ⟨bl,_,none⟩ _ (by exact hbl)).trans qc3,(World.cell?_setCell_far _ ⟨p,3,none⟩ ⟨bl,_,none⟩ _ (by exact hbl)).trans qc4,(World.cell?_setCell_far _ ⟨p,3,none⟩ ⟨bl,_,none⟩ _ (by exact hbl)).trans qc5,(World.cell?_setCell_far _ ⟨p,3,none⟩ ⟨bl,_,none⟩ _ (by exact hbl)).trans qc6,(World.cell?_setCell_far _ ⟨p,3,none⟩ ⟨bl,_,none⟩ _ (by exact hbl)).trans qc7,(World.cell?_setCell_far _ ⟨p,3,none⟩ ⟨bl,_,none⟩ _ (by exact hbl)).trans qc8⟩) (fun hHeld=>?_)
                        clear hK K
                        (try simp only [Act.put,sa1,sa2,sa3])
                        refine wpAnyH_done (by kernel_rfl) ?_ _
                        have HBE:=hid (show Below p w (w8.setCell ⟨p,3,none⟩ (.slice (some ⟨gb,0,none⟩) (l+1) cp)) from (HB.out.trans (HB8.out.mono (by omega))).setCell (Nat.le_refl _) _)
                        have HPE:=hid (HP8.out.set 3 (.slice (some ⟨gb,0,none⟩) (l+1) cp))
                        have HOE:=hid (own_set (i:=3) (u:=(.slice (some ⟨gb,0,none⟩) (l+1) cp)) HO8.out (show p<B3 by omega))
                        have HKE:=hid (show ∀ k,p+1≤k→k<B3→(w8.setCell ⟨p,3,none⟩ (.slice (some ⟨gb,0,none⟩) (l+1) cp)).heap[k]?=wb.heap[k]? from fun k h1 h2=>(Below.heap_setCell _ _ _ _ (by show k≠p;omega)).trans ((HB8.out.block k h2).trans (HK.out k h1 h2)))
                        have hzE:B3≤(w8.setCell ⟨p,3,none⟩ (.slice (some ⟨gb,0,none⟩) (l+1) cp)).heap.size:=by rw [World.size_setCell];exact Nat.le_trans hz3 HB8.out.size
                        clear HB9 HQ HB8 HO8 HP8 q1 q3 qc0 qc1 qc2 qc3 qc4 qc5 qc6 qc7 qc8 f3
                        go_wp2
                        go_roundg (i-(l+1))
                        case measure=>omega
                        case rel=>exact ⟨l+1,_,_,by go_num,by omega,by omega,HBE,HPE,HOE,HKE,hzE⟩
                      exact AllReadyH.nil
                    exact AllReadyH.nil
                  exact AllReadyH.nil
                exact AllReadyH.nil
              refine AllReadyH.cons rfl (fun K hK=>?_) ?_
              · go_simp
                go_at_call 65
                refine (RI3.out _ (below_keep HB9.out p1) (HTE.out.keep HB9.out)).mono ?_
                rintro e w7 ⟨rfl,hb9⟩
                have HB9:=hid (below_then HB9.out hb9)
                clear hb9
                refine hK.out _ _ (⟨below_keep HB9.out p1,below_keep HB9.out c0,below_keep HB9.out c1,below_keep HB9.out c2,below_keep HB9.out c3,below_keep HB9.out c4,below_keep HB9.out c5,below_keep HB9.out c6,below_keep HB9.out c7,below_keep HB9.out c8⟩) (fun hHeld=>?_)
                clear hK K
                (try simp only [Act.put,sa1,sa2,sa3])
                refine wpAnyH_take (i:=26) (v:=?_) rfl (by kernel_rfl) (by kernel_rfl) (by kernel_rfl) (fun _ _ _ h=>h) (Or.inl ⟨by rfl,?_⟩) hHeld ?_
                rotate_left 1
                · intro w9 hw9;go_simp;try with_reducible rfl
                simp only [Act.put,sa1,sa2,sa3]
                refine wpAnyH_ready (rs:=[4,27]) (by kernel_rfl) (by simp) ?_
                refine AllReadyH.cons rfl (fun K hK=>?_) ?_
                · have q3:=below_keep HB9.out p3
                  go_simp
                  refine hK.out _ _ (hHeld) (fun hHeld=>?_)
                  clear hK K
                  (try simp only [Act.put,sa1,sa2,sa3])
                  refine wpAnyH_ready (rs:=[27]) (by kernel_rfl) (by simp) ?_
                  refine AllReadyH.cons rfl (fun K hK=>?_) ?_
                  · obtain ⟨q,hq⟩:∃ q,q=(w7).heap.size:=⟨_,rfl⟩
                    go_simp
                    have HQ:=hid (Blk.new w7 [.int .i64 (z1:Nat),.int .i64 (z2:Nat),.int .i64 (z3:Nat)] 77)
                    have HB9:=hid (HB9.out.alloc HB9.out.size (.cells ([.int .i64 (z1:Nat),.int .i64 (z2:Nat),.int .i64 (z3:Nat)]).toArray 77))
                    rw [←hq] at HQ ⊢
                    clear hq
                    refine hK.out _ _ (⟨below_keep HB9.out p1,below_keep HB9.out c0,below_keep HB9.out c1,below_keep HB9.out c2,below_keep HB9.out c3,below_keep HB9.out c4,below_keep HB9.out c5,below_keep HB9.out c6,below_keep HB9.out c7,below_keep HB9.out c8⟩) (fun hHeld=>?_)
                    clear hK K
                    (try simp only [Act.put,sa1,sa2,sa3])
                    refine wpAnyH_ready (rs:=[28]) (by kernel_rfl) (by simp) ?_
                    refine AllReadyH.cons rfl (fun K hK=>?_) ?_
                    · refine step_append_seg (by rfl) (.tmp 77) (.tmp 100) 79 (by rfl) B3 77 iS _ 3 24 Tryz.underlying79 hi0 hzS hszS hbyS rfl (by decide) (.slice bv l dv) l _ (by rfl) (own_keep HO.out HB9.out) ⟨q,0,none⟩ 1 1 [.int .i64 (z1:Nat),.int .i64 (z2:Nat),.int .i64 (z3:Nat)] rfl (by rfl) ?c1 (by simp [Value.oneCell']) (by unfold maxLen;omega) (by omega) (Nat.le_trans hz3 HB9.out.size) ?_
                      case c1=>
                       intro jj uu hu
                       rcases jj with _ | _ | _ | jj
                       · cases hu;exact HQ.out.cell (i:=0) rfl
                       · cases hu;exact HQ.out.cell (i:=1) rfl
                       · cases hu;exact HQ.out.cell (i:=2) rfl
                       · cases hu
                      intro v8 w8 g1 g2 g3
                      have HB8:=hid ((HB9.out.mono hz3).trans (grown_low g2 (Nat.le_trans hz3 HB9.out.size) (fun k hk=>((own_keep HO.out HB9.out).lt k hk).1)))
                      have HO8:=hid (show w8.ownsRow B3 77 3 v8 (l+1) (fl ((So.ids L).take (l+1))) by rw [HTK2.out];exact g1)
                      have HP8:=hid (HP.out.below HB8.out (by omega))
                      have q3:=HP8.out.cell (i:=3) rfl
                      have f3:=HP8.out.free 3
                      obtain ⟨q1,qc0,qc1,qc2,qc3,qc4,qc5,qc6,qc7,qc8⟩:=(show _∧_∧_∧_∧_∧_∧_∧_∧_∧_ from ⟨(HB8.out.cell (p:=⟨p,1,none⟩) (by show p<B3;omega)).trans p1,(HB8.out.cell (p:=⟨bl,off+l*9,none⟩) (by show bl<B3;exact hblB)).trans c0,(HB8.out.cell (p:=⟨bl,off+l*9+1,none⟩) (by show bl<B3;exact hblB)).trans c1,(HB8.out.cell (p:=⟨bl,off+l*9+2,none⟩) (by show bl<B3;exact hblB)).trans c2,(HB8.out.cell (p:=⟨bl,off+l*9+3,none⟩) (by show bl<B3;exact hblB)).trans c3,(HB8.out.cell (p:=⟨bl,off+l*9+4,none⟩) (by show bl<B3;exact hblB)).trans c4,(HB8.out.cell (p:=⟨bl,off+l*9+5,none⟩) (by show bl<B3;exact hblB)).trans c5,(HB8.out.cell (p:=⟨bl,off+l*9+6,none⟩) (by show bl<B3;exact hblB)).trans c6,(HB8.out.cell (p:=⟨bl,off+l*9+7,none⟩) (by show bl<B3;exact hblB)).trans c7,(HB8.out.cell (p:=⟨bl,off+l*9+8,none⟩) (by show bl<B3;exact hblB)).trans c8⟩)
                      obtain ⟨gb,cp,hv8,_⟩:=HO8.out.form (Nat.succ_pos l)
                      subst hv8
                      clear g1 g2 g3
                      refine hK.out _ _ (⟨q1,qc0,qc1,qc2,qc3,qc4,qc5,qc6,qc7,qc8⟩) (fun hHeld=>?_)
                      clear hK K
                      (try simp only [Act.put,sa1,sa2,sa3])
                      refine wpAnyH_take (i:=29) (v:=?_) rfl (by kernel_rfl) (by kernel_rfl) (by kernel_rfl) (fun _ _ _ h=>h) (Or.inl ⟨by rfl,?_⟩) hHeld ?_
                      rotate_left 1
                      · intro w9 hw9;go_simp;try with_reducible rfl
                      simp only [Act.put,sa1,sa2,sa3]
                      refine wpAnyH_take (i:=30) (v:=?_) rfl (by kernel_rfl) (by kernel_rfl) (by kernel_rfl) (fun _ _ _ h=>h) (Or.inl ⟨by rfl,?_⟩) hHeld ?_
                      rotate_left 1
                      · intro w9 hw9;go_simp;try with_reducible rfl
                      simp only [Act.put,sa1,sa2,sa3]
                      refine wpAnyH_ready (rs:=[31]) (by kernel_rfl) (by simp) ?_
                      refine AllReadyH.cons rfl (fun K hK=>?_) ?_
                      · go_simp
                        refine hK.out _ _ (⟨(World.cell?_setCell_other _ ⟨p,3,none⟩ ⟨p,1,none⟩ _ (by simp)).trans q1,(World.cell?_setCell_far _ ⟨p,3,none⟩ ⟨bl,_,none⟩ _ (by exact hbl)).trans qc0,(World.cell?_setCell_far _ ⟨p,3,none⟩ ⟨bl,_,none⟩ _ (by exact hbl)).trans qc1,(World.cell?_setCell_far _ ⟨p,3,none⟩ ⟨bl,_,none⟩ _ (by exact hbl)).trans qc2,(World.cell?_setCell_far _ ⟨p,3,none⟩ ⟨bl,_,none⟩ _ (by exact hbl)).trans qc3,(World.cell?_setCell_far _ ⟨p,3,none⟩ ⟨bl,_,none⟩ _ (by exact hbl)).trans qc4,(World.cell?_setCell_far _ ⟨p,3,none⟩ ⟨bl,_,none⟩ _ (by exact hbl)).trans qc5,(World.cell?_setCell_far _ ⟨p,3,none⟩ ⟨bl,_,none⟩ _ (by exact hbl)).trans qc6,(World.cell?_setCell_far _ ⟨p,3,none⟩ ⟨bl,_,none⟩ _ (by exact hbl)).trans qc7,(World.cell?_setCell_far _ ⟨p,3,none⟩ ⟨bl,_,none⟩ _ (by exact hbl)).trans qc8⟩) (fun hHeld=>?_)
                        clear hK K
                        (try simp only [Act.put,sa1,sa2,sa3])
                        refine wpAnyH_done (by kernel_rfl) ?_ _
                        have HBE:=hid (show Below p w (w8.setCell ⟨p,3,none⟩ (.slice (some ⟨gb,0,none⟩) (l+1) cp)) from (HB.out.trans (HB8.out.mono (by omega))).setCell (Nat.le_refl _) _)
                        have HPE:=hid (HP8.out.set 3 (.slice (some ⟨gb,0,none⟩) (l+1) cp))
                        have HOE:=hid (own_set (i:=3) (u:=(.slice (some ⟨gb,0,none⟩) (l+1) cp)) HO8.out (show p<B3 by omega))
                        have HKE:=hid (show ∀ k,p+1≤k→k<B3→(w8.setCell ⟨p,3,none⟩ (.slice (some ⟨gb,0,none⟩) (l+1) cp)).heap[k]?=wb.heap[k]? from fun k h1 h2=>(Below.heap_setCell _ _ _ _ (by show k≠p;omega)).trans ((HB8.out.block k h2).trans (HK.out k h1 h2)))
                        have hzE:B3≤(w8.setCell ⟨p,3,none⟩ (.slice (some ⟨gb,0,none⟩) (l+1) cp)).heap.size:=by rw [World.size_setCell];exact Nat.le_trans hz3 HB8.out.size
                        clear HB9 HQ HB8 HO8 HP8 q1 q3 qc0 qc1 qc2 qc3 qc4 qc5 qc6 qc7 qc8 f3
                        go_wp2
                        go_roundg (i-(l+1))
                        case measure=>omega
                        case rel=>exact ⟨l+1,_,_,by go_num,by omega,by omega,HBE,HPE,HOE,HKE,hzE⟩
                      exact AllReadyH.nil
                    exact AllReadyH.nil
                  exact AllReadyH.nil
                refine AllReadyH.cons rfl (fun K hK=>?_) ?_
                · obtain ⟨q,hq⟩:∃ q,q=(w7).heap.size:=⟨_,rfl⟩
                  go_simp
                  have HQ:=hid (Blk.new w7 [.int .i64 (z1:Nat),.int .i64 (z2:Nat),.int .i64 (z3:Nat)] 77)
                  have HB9:=hid (HB9.out.alloc HB9.out.size (.cells ([.int .i64 (z1:Nat),.int .i64 (z2:Nat),.int .i64 (z3:Nat)]).toArray 77))
                  rw [←hq] at HQ ⊢
                  clear hq
                  refine hK.out _ _ (⟨below_keep HB9.out p1,below_keep HB9.out c0,below_keep HB9.out c1,below_keep HB9.out c2,below_keep HB9.out c3,below_keep HB9.out c4,below_keep HB9.out c5,below_keep HB9.out c6,below_keep HB9.out c7,below_keep HB9.out c8⟩) (fun hHeld=>?_)
                  clear hK K
                  (try simp only [Act.put,sa1,sa2,sa3])
                  refine wpAnyH_ready (rs:=[4]) (by kernel_rfl) (by simp) ?_
                  refine AllReadyH.cons rfl (fun K hK=>?_) ?_
                  · have q3:=below_keep HB9.out p3
                    go_simp
                    refine hK.out _ _ (hHeld) (fun hHeld=>?_)
                    clear hK K
                    (try simp only [Act.put,sa1,sa2,sa3])
                    refine wpAnyH_ready (rs:=[28]) (by kernel_rfl) (by simp) ?_
                    refine AllReadyH.cons rfl (fun K hK=>?_) ?_
                    · refine step_append_seg (by rfl) (.tmp 77) (.tmp 100) 79 (by rfl) B3 77 iS _ 3 24 Tryz.underlying79 hi0 hzS hszS hbyS rfl (by decide) (.slice bv l dv) l _ (by rfl) (own_keep HO.out HB9.out) ⟨q,0,none⟩ 1 1 [.int .i64 (z1:Nat),.int .i64 (z2:Nat),.int .i64 (z3:Nat)] rfl (by rfl) ?c1 (by simp [Value.oneCell']) (by unfold maxLen;omega) (by omega) (Nat.le_trans hz3 HB9.out.size) ?_
                      case c1=>
                       intro jj uu hu
                       rcases jj with _ | _ | _ | jj
                       · cases hu;exact HQ.out.cell (i:=0) rfl
                       · cases hu;exact HQ.out.cell (i:=1) rfl
                       · cases hu;exact HQ.out.cell (i:=2) rfl
                       · cases hu
                      intro v8 w8 g1 g2 g3
                      have HB8:=hid ((HB9.out.mono hz3).trans (grown_low g2 (Nat.le_trans hz3 HB9.out.size) (fun k hk=>((own_keep HO.out HB9.out).lt k hk).1)))
                      have HO8:=hid (show w8.ownsRow B3 77 3 v8 (l+1) (fl ((So.ids L).take (l+1))) by rw [HTK2.out];exact g1)
                      have HP8:=hid (HP.out.below HB8.out (by omega))
                      have q3:=HP8.out.cell (i:=3) rfl
                      have f3:=HP8.out.free 3
                      obtain ⟨q1,qc0,qc1,qc2,qc3,qc4,qc5,qc6,qc7,qc8⟩:=(show _∧_∧_∧_∧_∧_∧_∧_∧_∧_ from ⟨(HB8.out.cell (p:=⟨p,1,none⟩) (by show p<B3;omega)).trans p1,(HB8.out.cell (p:=⟨bl,off+l*9,none⟩) (by show bl<B3;exact hblB)).trans c0,(HB8.out.cell (p:=⟨bl,off+l*9+1,none⟩) (by show bl<B3;exact hblB)).trans c1,(HB8.out.cell (p:=⟨bl,off+l*9+2,none⟩) (by show bl<B3;exact hblB)).trans c2,(HB8.out.cell (p:=⟨bl,off+l*9+3,none⟩) (by show bl<B3;exact hblB)).trans c3,(HB8.out.cell (p:=⟨bl,off+l*9+4,none⟩) (by show bl<B3;exact hblB)).trans c4,(HB8.out.cell (p:=⟨bl,off+l*9+5,none⟩) (by show bl<B3;exact hblB)).trans c5,(HB8.out.cell (p:=⟨bl,off+l*9+6,none⟩) (by show bl<B3;exact hblB)).trans c6,(HB8.out.cell (p:=⟨bl,off+l*9+7,none⟩) (by show bl<B3;exact hblB)).trans c7,(HB8.out.cell (p:=⟨bl,off+l*9+8,none⟩) (by show bl<B3;exact hblB)).trans c8⟩)
                      obtain ⟨gb,cp,hv8,_⟩:=HO8.out.form (Nat.succ_pos l)
                      subst hv8
                      clear g1 g2 g3
                      refine hK.out _ _ (⟨q1,qc0,qc1,qc2,qc3,qc4,qc5,qc6,qc7,qc8⟩) (fun hHeld=>?_)
                      clear hK K
                      (try simp only [Act.put,sa1,sa2,sa3])
                      refine wpAnyH_take (i:=29) (v:=?_) rfl (by kernel_rfl) (by kernel_rfl) (by kernel_rfl) (fun _ _ _ h=>h) (Or.inl ⟨by rfl,?_⟩) hHeld ?_
                      rotate_left 1
                      · intro w9 hw9;go_simp;try with_reducible rfl
                      simp only [Act.put,sa1,sa2,sa3]
                      refine wpAnyH_take (i:=30) (v:=?_) rfl (by kernel_rfl) (by kernel_rfl) (by kernel_rfl) (fun _ _ _ h=>h) (Or.inl ⟨by rfl,?_⟩) hHeld ?_
                      rotate_left 1
                      · intro w9 hw9;go_simp;try with_reducible rfl
                      simp only [Act.put,sa1,sa2,sa3]
                      refine wpAnyH_ready (rs:=[31]) (by kernel_rfl) (by simp) ?_
                      refine AllReadyH.cons rfl (fun K hK=>?_) ?_
                      · go_simp
                        refine hK.out _ _ (⟨(World.cell?_setCell_other _ ⟨p,3,none⟩ ⟨p,1,none⟩ _ (by simp)).trans q1,(World.cell?_setCell_far _ ⟨p,3,none⟩ ⟨bl,_,none⟩ _ (by exact hbl)).trans qc0,(World.cell?_setCell_far _ ⟨p,3,none⟩ ⟨bl,_,none⟩ _ (by exact hbl)).trans qc1,(World.cell?_setCell_far _ ⟨p,3,none⟩ ⟨bl,_,none⟩ _ (by exact hbl)).trans qc2,(World.cell?_setCell_far _ ⟨p,3,none⟩ ⟨bl,_,none⟩ _ (by exact hbl)).trans qc3,(World.cell?_setCell_far _ ⟨p,3,none⟩ ⟨bl,_,none⟩ _ (by exact hbl)).trans qc4,(World.cell?_setCell_far _ ⟨p,3,none⟩ ⟨bl,_,none⟩ _ (by exact hbl)).trans qc5,(World.cell?_setCell_far _ ⟨p,3,none⟩ ⟨bl,_,none⟩ _ (by exact hbl)).trans qc6,(World.cell?_setCell_far _ ⟨p,3,none⟩ ⟨bl,_,none⟩ _ (by exact hbl)).trans qc7,(World.cell?_setCell_far _ ⟨p,3,none⟩ ⟨bl,_,none⟩ _ (by exact hbl)).trans qc8⟩) (fun hHeld=>?_)
                        clear hK K
                        (try simp only [Act.put,sa1,sa2,sa3])
                        refine wpAnyH_done (by kernel_rfl) ?_ _
                        have HBE:=hid (show Below p w (w8.setCell ⟨p,3,none⟩ (.slice (some ⟨gb,0,none⟩) (l+1) cp)) from (HB.out.trans (HB8.out.mono (by omega))).setCell (Nat.le_refl _) _)
                        have HPE:=hid (HP8.out.set 3 (.slice (some ⟨gb,0,none⟩) (l+1) cp))
                        have HOE:=hid (own_set (i:=3) (u:=(.slice (some ⟨gb,0,none⟩) (l+1) cp)) HO8.out (show p<B3 by omega))
                        have HKE:=hid (show ∀ k,p+1≤k→k<B3→(w8.setCell ⟨p,3,none⟩ (.slice (some ⟨gb,0,none⟩) (l+1) cp)).heap[k]?=wb.heap[k]? from fun k h1 h2=>(Below.heap_setCell _ _ _ _ (by show k≠p;omega)).trans ((HB8.out.block k h2).trans (HK.out k h1 h2)))
                        have hzE:B3≤(w8.setCell ⟨p,3,none⟩ (.slice (some ⟨gb,0,none⟩) (l+1) cp)).heap.size:=by rw [World.size_setCell];exact Nat.le_trans hz3 HB8.out.size
                        clear HB9 HQ HB8 HO8 HP8 q1 q3 qc0 qc1 qc2 qc3 qc4 qc5 qc6 qc7 qc8 f3
                        go_wp2
                        go_roundg (i-(l+1))
                        case measure=>omega
                        case rel=>exact ⟨l+1,_,_,by go_num,by omega,by omega,HBE,HPE,HOE,HKE,hzE⟩
                      exact AllReadyH.nil
                    exact AllReadyH.nil
                  exact AllReadyH.nil
                exact AllReadyH.nil
              exact AllReadyH.nil
            exact AllReadyH.nil
          exact AllReadyH.nil
        · obtain rfl:l=i:=by omega
          have hltz3:¬ (l:Int)<(l:Int):=by omega
          have HIDS:=hid (newIds_own (W:=wr) (base:=B3) (v:=.slice bv l dv) (n:=l) (L:=So.ids L) (by
           have h:=HO.out
           rw [show (So.ids L).take l=So.ids L from List.take_of_length_le (by rw [So.ids_len,←HN.out];exact Nat.le_refl _)] at h
           exact h) (by rw [So.ids_len];exact HN.out)).at
          go_wp2
          go_ret
          refine ⟨p,rfl,⟨_,_,_,_,HP.out,?_,?_,?_,HIDS.out⟩,by rw [←HPP.out];exact HB.out⟩
          · exact HV.out.keep (by rw [←HPP.out];exact HB.out)
          · rw [←HEE.out];exact HFb.out _ (by rw [←HB3.out];exact HK.out)
          · rw [←HEE.out];exact HTX.out _ (fun k h1 h2=>HK.out k (by omega) (by rw [HB3.out];exact h2))
end Go.Proofs.YtjaebndajhppgaaGreatDoor
