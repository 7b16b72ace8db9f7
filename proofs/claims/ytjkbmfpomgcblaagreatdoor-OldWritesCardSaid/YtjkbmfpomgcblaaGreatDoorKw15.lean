import Derived.Test.YtjkbmfpomgcblaaGreatDoorKw14
namespace Go.Proofs.YtjkbmfpomgcblaaGreatDoor
open Go.RowKit Go.Maps
def FT (p m:Nat) (S P3 P4 t:ByteArray) (N X K:Int) (L:Array Bool) (x:Nat→Value) (b:Nat) (W:World):Nat→Prop
 | 0=>x 18=.map (some b)∧JT b W∧m≤b
 | 1=>x 19=.string S
 | 2=>L.getD 0 false=true∧RT b W 1 S
 | 3=>L.getD 0 false=true∧RT b W 2 ⟨#[]⟩
 | 4=>x 20=.pointer (some ⟨p,5,none⟩)
 | 5=>x 21=.int .i64 N
 | 6=>x 22=.int .u64 (zigN N)
 | 7=>x 23=.string P3
 | 8=>L.getD 0 false=true∧RT b W 3 P3
 | 9=>x 24=.pointer (some ⟨p,5,none⟩)
 | 10=>x 25=.int .i64 N
 | 11=>x 26=.int .i64 X
 | 12=>x 27=.int .u64 X
 | 13=>x 28=.string P4
 | 14=>x 29=.string S
 | 15=>x 30=.string (P4 ++ S)
 | 16=>L.getD 0 false=true∧RT b W 4 (P4 ++ S)
 | 17=>x 31=.map (some b)∧∀ j,j < 17→L.getD j false=true
 | 18=>x 32=.pointer (some ⟨p,2,none⟩)
 | 19=>x 33=.int .i64 K
 | 20=>x 34=.string t
 | 21=>x 2=.string t
 | 22=>x 3=.int .i64 0
 | _=>True
def slotF:Nat→Nat
 | 0=>18
 | 1=>19
 | 4=>20
 | 5=>21
 | 6=>22
 | 7=>23
 | 9=>24
 | 10=>25
 | 11=>26
 | 12=>27
 | 13=>28
 | 14=>29
 | 15=>30
 | 17=>31
 | 18=>32
 | 19=>33
 | 20=>34
 | 21=>2
 | 22=>3
 | _=>0
def keyF:Nat→Int
 | 2=>1
 | 3=>2
 | 8=>3
 | 16=>4
 | _=>0
def FR (x:Nat→Value):Act:=⟨#[x 0,x 1,x 2,x 3,x 4,x 5,x 6,x 7,x 8,x 9,x 10,x 11,x 12,x 13,x 14,x 15,x 16,x 17,x 18,x 19,x 20,x 21,x 22,x 23,x 24,x 25,x 26,x 27,x 28,x 29,x 30,x 31,x 32,x 33,x 34],[]⟩
def upd (x:Nat→Value) (d:Nat) (v:Value):Nat→Value:=fun k=>if k=d then v else x k
def JR (w2:World) (p:Nat) (S P3 P4 t:ByteArray) (N X K:Int) (L:Array Bool) (a:Act) (W:World):Prop :=
 ∃ (x:Nat→Value) (b:Nat),a=FR x∧x 1=.pointer (some ⟨p,0,none⟩)∧x 5=.string S∧Below w2.heap.size w2 W∧∀ j,L.getD j false=true→FT p w2.heap.size S P3 P4 t N X K L x b W j
section
variable {p m:Nat} {S P3 P4 t:ByteArray} {N X K:Int} {L L':Array Bool} {x x':Nat→Value} {b b':Nat} {W W':World} {w2:World}
theorem FT.move {j:Nat} (h:FT p m S P3 P4 t N X K L x b W j) (hx:x' (slotF j)=x (slotF j)) (hJ:JT b W→JT b W') (hW:∀ s,RT b W (keyF j) s→RT b W' (keyF j) s)
   (hL:∀ j,L.getD j false=true→L'.getD j false=true):FT p m S P3 P4 t N X K L' x' b W' j:=by
 unfold FT at h ⊢
 split at h
 · exact ⟨hx.trans h.1,hJ h.2.1,h.2.2⟩
 · exact hx.trans h
 · exact ⟨hL 0 h.1,hW _ h.2⟩
 · exact ⟨hL 0 h.1,hW _ h.2⟩
 · exact hx.trans h
 · exact hx.trans h
 · exact hx.trans h
 · exact hx.trans h
 · exact ⟨hL 0 h.1,hW _ h.2⟩
 · exact hx.trans h
 · exact hx.trans h
 · exact hx.trans h
 · exact hx.trans h
 · exact hx.trans h
 · exact hx.trans h
 · exact hx.trans h
 · exact ⟨hL 0 h.1,hW _ h.2⟩
 · exact ⟨hx.trans h.1,fun j hj=>hL j (h.2 j hj)⟩
 · exact hx.trans h
 · exact hx.trans h
 · exact hx.trans h
 · exact hx.trans h
 · exact hx.trans h
 · trivial
theorem FT.made {j:Nat} (h:FT p m S P3 P4 t N X K L x b W j) (h0:L.getD 0 false=false) (hj:j≠0) (hx:x' (slotF j)=x (slotF j)):FT p m S P3 P4 t N X K L' x' b' W' j:=by
 unfold FT at h ⊢
 split at h
 · exact absurd rfl hj
 · exact hx.trans h
 · rw [h0] at h;exact absurd h.1 (by decide)
 · rw [h0] at h;exact absurd h.1 (by decide)
 · exact hx.trans h
 · exact hx.trans h
 · exact hx.trans h
 · exact hx.trans h
 · rw [h0] at h;exact absurd h.1 (by decide)
 · exact hx.trans h
 · exact hx.trans h
 · exact hx.trans h
 · exact hx.trans h
 · exact hx.trans h
 · exact hx.trans h
 · exact hx.trans h
 · rw [h0] at h;exact absurd h.1 (by decide)
 · have:=h.2 0 (by decide);rw [h0] at this;exact absurd this (by decide)
 · exact hx.trans h
 · exact hx.trans h
 · exact hx.trans h
 · exact hx.trans h
 · exact hx.trans h
 · trivial
theorem JR.next {i:Nat} {a':Act} (ha:a'=FR x') (hF:∀ j,L.getD j false=true→FT p w2.heap.size S P3 P4 t N X K L x b W j) (hB:Below w2.heap.size w2 W') (h1:x' 1=.pointer (some ⟨p,0,none⟩)) (h5:x' 5=.string S)
   (hi:FT p w2.heap.size S P3 P4 t N X K (L.setIfInBounds i true) x' b' W' i) (hm:∀ j,j≠i→FT p w2.heap.size S P3 P4 t N X K L x b W j→FT p w2.heap.size S P3 P4 t N X K (L.setIfInBounds i true) x' b' W' j) :
   JR w2 p S P3 P4 t N X K (L.setIfInBounds i true) a' W' :=
 ⟨x',b',ha,h1,h5,hB,fun j hj=>by
   by_cases e:j=i
   · subst e;exact hi
   · exact hm j e (hF j ((getD_put hj).resolve_left e))⟩
theorem JR.slot {i:Nat} {a':Act} (d:Nat) (v:Value) (ha:a'=FR (upd x d v)) (hF:∀ j,L.getD j false=true→FT p w2.heap.size S P3 P4 t N X K L x b W j) (hB:Below w2.heap.size w2 W') (h1:x 1=.pointer (some ⟨p,0,none⟩)) (h5:x 5=.string S)
   (hJ:JT b W→JT b W') (hW:∀ k s,RT b W k s→RT b W' k s) (hd:d≠1∧d≠5) (hds:∀ j,j≠i→slotF j≠d)
   (hi:FT p w2.heap.size S P3 P4 t N X K (L.setIfInBounds i true) (upd x d v) b W' i):JR w2 p S P3 P4 t N X K (L.setIfInBounds i true) a' W' :=
 JR.next ha hF hB (by unfold upd;rw [if_neg (Ne.symm hd.1)];exact h1) (by unfold upd;rw [if_neg (Ne.symm hd.2)];exact h5) hi
   (fun j hj h=>h.move (by unfold upd;rw [if_neg (hds j hj)]) hJ (fun s=>hW _ s) (fun _ h=>getD_keep h))
theorem JR.entry {i:Nat} {a':Act} {k:Int} (ha:a'=FR x) (hF:∀ j,L.getD j false=true→FT p w2.heap.size S P3 P4 t N X K L x b W j) (hB:Below w2.heap.size w2 W') (h1:x 1=.pointer (some ⟨p,0,none⟩)) (h5:x 5=.string S)
   (hJ:JT b W→JT b W') (hW:∀ j s,j≠k→RT b W j s→RT b W' j s) (hk:∀ j,j≠i→keyF j≠k)
   (hi:FT p w2.heap.size S P3 P4 t N X K (L.setIfInBounds i true) x b W' i):JR w2 p S P3 P4 t N X K (L.setIfInBounds i true) a' W' :=
 JR.next ha hF hB h1 h5 hi (fun j hj h=>h.move rfl hJ (fun s=>hW _ s (hk j hj)) (fun _ h=>getD_keep h))
theorem getD_no {i:Nat} (h:L.getD i true=false):L.getD i false=false:=by
 have hi:=(count_down h).2
 simp [hi] at h ⊢
 exact h
theorem upd_at (x:Nat→Value) (d:Nat) (v:Value):upd x d v d=v:=by simp [upd]
end
end Go.Proofs.YtjkbmfpomgcblaaGreatDoor
namespace Go.Proofs.YtjkbmfpomgcblaaGreatDoor
open Go.RowKit Go.Maps
set_option maxRecDepth 100000 in
set_option maxHeartbeats 8000000 in
theorem rtail_any (T R K:Int) (key val:ByteArray) (N:Int) (w:World) (hk:key.size≤140737488351232) (hv:val.size≤140737488351232) (hN0 : -9223372036854775808≤N) (hN1:N≤9223372036854775807) :
   Calls Tryz.prog 65 #[.agg #[.int .i64 T,.int .i64 R,.int .i64 K,.string key,.string val,.int .i64 N]] w fun e w'=>e=.returned (textR (tailF T R K key val N))∧Below w.heap.size w w':=by
 have HN0:=Lib.hid (wrAt_new w T R K key val N 59)
 obtain ⟨E,hE⟩:∃ E,wriE T R K key val N=E:=⟨_,rfl⟩
 have HE:=Lib.hid hE
 clear hE
 go_enter Tryz.func65,Tryz.ntmps65
 go_wp2_with fail
 refine (rwright_any T R K key val N _ hk hv).mono ?_
 rintro r w1 ⟨rfl,hb1⟩
 rw [HE.out]
 have HA1:=Lib.hid (HN0.out.below hb1 (by simp))
 have HB1:=Lib.hid (((Below.refl _ _).alloc (Nat.le_refl _) _).trans (hb1.mono (by simp)))
 have HL1:Hid (w.heap.size < w1.heap.size):=Lib.hid (by have:=hb1.size;simp at this;exact this)
 clear hb1
 by_cases h0:E=0
 · subst h0
   have HT:=Lib.hid (tailF_ok HE.out)
   obtain ⟨c0,c1,c2,c3,c4,c5⟩:=HA1.out
   have hvl:=(wriE_good HE.out).2.2.2.1
   rw [show ((0:Nat):Int)=0 from rfl]
   go_wp2_with fail
   refine (rspan_ok val w1 (Nat.le_trans hvl (by decide))).mono ?_
   rintro r w2 ⟨rfl,hb2⟩
   have HA2:=Lib.hid (HA1.out.below hb2 HL1.out)
   have HB2:=Lib.hid (HB1.out.trans (hb2.mono HB1.out.size))
   have HL2:Hid (w.heap.size < w2.heap.size):=Lib.hid (Nat.lt_of_lt_of_le HL1.out hb2.size)
   clear hb2 c0 c1 c2 c3 c4 c5
   go_wp2
   have HKB:Hid (-9223372036854775808≤K∧K≤9223372036854775807):=Lib.hid (by show _∧_;have:=(wriE_good HE.out).1;omega)
   have hSs:(spanB val).size≤310:=spanB_le hvl
   have hz:0≤zigN N∧zigN N≤18446744073709551615:=by unfold zigN;split <;> omega
   have hp3:(⟨(putL (zigN N).toNat).toArray⟩:ByteArray).size≤10:=by rw [bs_size];exact putL_le10 (by omega)
   have hp4:(⟨(putL (max 0 N).toNat).toArray⟩:ByteArray).size≤10:=by rw [bs_size];exact putL_le10 (by omega)
   have hmx:0≤max 0 N∧max 0 N≤9223372036854775807:=by omega
   have hta:=tail_at HE.out
   obtain ⟨S,hS⟩:∃ S,spanB val=S:=⟨_,rfl⟩
   obtain ⟨P3,hP3⟩:∃ P,(⟨(putL (zigN N).toNat).toArray⟩:ByteArray)=P:=⟨_,rfl⟩
   obtain ⟨P4,hP4⟩:∃ P,(⟨(putL (max 0 N).toNat).toArray⟩:ByteArray)=P:=⟨_,rfl⟩
   rw [hS,hP3,hP4] at hta
   have HAT:=Lib.hid hta
   rw [hS] at hSs ⊢
   rw [hP3] at hp3
   rw [hP4] at hp4
   have HP3:=Lib.hid hP3
   have HP4:=Lib.hid hP4
   obtain ⟨X,hX⟩:∃ X,max 0 N=X:=⟨_,rfl⟩
   rw [hX] at hmx HP4
   have hwX:IntKind.u64.wrap X=X:=IntWalk.u64_in X ⟨by omega,by omega⟩
   have hsum:P4.size + S.size≤1000:=by omega
   have hadd:¬ (9223372036854775807 < P4.size + S.size):=by omega
   have hm1:S.size≤maxLen:=by unfold maxLen;omega
   have hm3:P3.size≤maxLen:=by unfold maxLen;omega
   have hm4:(P4 ++ S).size≤maxLen:=by rw [app_size];unfold maxLen;omega
   have hmm:=@run_makeMap Tryz.prog
   clear hS hP3 hP4 hta
   obtain ⟨_,_,c2,_,_,c5⟩:=HA2.out
   have hMA:w.heap.size < w2.heap.size:=HL2.out
   have H5:Hid (∀ W,Below w2.heap.size w2 W→W.cell? ⟨w.heap.size,5,none⟩=some (.int .i64 N)):=Lib.hid fun W h=>(h.cell hMA).trans c5
   have H2:Hid (∀ W,Below w2.heap.size w2 W→W.cell? ⟨w.heap.size,2,none⟩=some (.int .i64 K)):=Lib.hid fun W h=>(h.cell hMA).trans c2
   have HX:=Lib.hid hX
   clear c2 c5 hMA hX
   refine wp_region_any (by kernel_rfl) ?_
   refine wpAny_law (JR w2 w.heap.size S P3 P4 (tailB K val N) N X K) ?hb ?hst ?hen _ _ _ _ (by kernel_rfl) (of_decide_eq_true (by kernel_rfl)) ?hin
   case hb=>exact of_backB (by kernel_rfl)
   case hin=>exact ⟨fun k=>(#[.agg #[.int .i64 T,.int .i64 R,.int .i64 K,.string key,.string val,.int .i64 N],.pointer (some ⟨w.heap.size,0,none⟩),.string ⟨#[]⟩,.int .i64 0,.int .i64 0,.string S,.int .i64 0,.agg #[.int .i64 T,.int .i64 R,.int .i64 K,.string key,.string val,.int .i64 N],.int .i64 0,.int .i64 0,.bool false,undef,.tuple #[.string S,.int .i64 0],.pointer (some ⟨w.heap.size,4,none⟩),.string val,.tuple #[.string S,.int .i64 0],.string S,.int .i64 0]:Array Value).getD k undef,0,rfl,rfl,rfl,(Below.refl _ _).drew,fun j hj=>by rw [none_yet] at hj;cases hj⟩
   case hen =>
     intro L a W hall hJ
     obtain ⟨x,b,rfl,x1,x5,hB,hF⟩:=hJ
     have e21:x 2=.string (tailB K val N):=hF 21 (hall 21 (by decide))
     have e22:x 3=.int .i64 0:=hF 22 (hall 22 (by decide))
     clear hF hall
     unfold FR
     rw [e21,e22]
     go_wp2
     go_ret2
     rw [HT.out]
     exact ⟨rfl,HB2.out.trans (hB.mono (Nat.le_of_lt HL2.out))⟩
   case hst =>
     intro i o hi L a W hs haf hun hJ
     obtain ⟨x,b,rfl,x1,x5,hB,hF⟩:=hJ
     have hlt:i < 23:=(Array.getElem?_eq_some_iff.1 hi).1
     rcases (show i=0∨i=1∨i=2∨i=3∨i=4∨i=5∨i=6∨i=7∨i=8∨i=9∨i=10∨i=11∨i=12∨i=13∨i=14∨i=15∨i=16∨i=17∨i=18∨i=19∨i=20∨i=21∨i=22 by omega) with rfl | rfl | rfl | rfl | rfl | rfl | rfl | rfl | rfl | rfl | rfl | rfl | rfl | rfl | rfl | rfl | rfl | rfl | rfl | rfl | rfl | rfl | rfl
     · obtain rfl:=Option.some.inj hi
       have HF:=Lib.hid hF
       have HBW:=Lib.hid hB
       have hn0:=Lib.hid (getD_no hun)
       clear hi hF hB haf hun hs hlt
       refine wpOp_step rfl ?_
       intro K' hK'
       unfold FR
       go_simp
       refine hK' _ _ ?_
       exact JR.next (x':=upd x 18 (.map (some W.heap.size))) (by simp [FR,upd,x1,x5]) HF.out (HBW.out.alloc HBW.out.size _) (by simp [upd,x1]) (by simp [upd,x5]) ⟨upd_at _ _ _,JT.made W,HBW.out.size⟩ (fun j hj h=>h.made hn0.out hj (by unfold upd;rw [if_neg (by revert hj;unfold slotF;split <;> first | (intro _;decide) | (intro hj;exact absurd rfl hj))]))
     · obtain rfl:=Option.some.inj hi
       have HF:=Lib.hid hF
       have HBW:=Lib.hid hB
       clear hi hF hB haf hun hs hlt
       refine wpOp_step rfl ?_
       intro K' hK'
       unfold FR
       go_simp
       refine hK' _ _ ?_
       exact JR.slot 19 (.string S) (by simp [FR,upd,x1,x5]) HF.out HBW.out x1 x5 id (fun _ _ h=>h) (by decide) (by intro j hj;unfold slotF;split <;> first | decide | exact absurd rfl hj) (upd_at _ _ _)
     · obtain rfl:=Option.some.inj hi
       have q0:L.getD 0 false=true:=haf ⟨0,.data⟩ (by simp) rfl
       obtain ⟨e18,eJ,eb⟩:x 18=.map (some b)∧JT b W∧w2.heap.size≤b:=hF 0 q0
       have q1:L.getD 1 false=true:=haf ⟨1,.data⟩ (by simp) rfl
       have e19:x 19=.string S:=hF 1 q1
       obtain ⟨W',hrun,rJ,rR,rO,rG⟩:=put_all eJ (k:=1) (.inl rfl) hm1
       have HF:=Lib.hid hF
       have HBW:=Lib.hid hB
       clear hi hF hB haf hun hs hlt
       refine wpOp_step rfl ?_
       intro K' hK'
       unfold FR
       go_simp
       refine hK' _ _ ?_
       exact JR.entry (k:=1) (by simp [FR,x1,x5,e18,e19]) HF.out (HBW.out.grown rG HBW.out.size (fun g hg=>by cases hg;exact eb)) x1 x5 (fun _=>rJ) rO (by intro j hj;unfold keyF;split <;> first | decide | exact absurd rfl hj) ⟨getD_keep q0,rR⟩
     · obtain rfl:=Option.some.inj hi
       have q0:L.getD 0 false=true:=haf ⟨0,.data⟩ (by simp) rfl
       obtain ⟨e18,eJ,eb⟩:x 18=.map (some b)∧JT b W∧w2.heap.size≤b:=hF 0 q0
       obtain ⟨W',hrun,rJ,rR,rO,rG⟩:=put_all eJ (k:=2) (.inr (.inl rfl)) (s:=⟨#[]⟩) (Nat.zero_le _)
       have HF:=Lib.hid hF
       have HBW:=Lib.hid hB
       clear hi hF hB haf hun hs hlt
       refine wpOp_step rfl ?_
       intro K' hK'
       unfold FR
       go_simp
       refine hK' _ _ ?_
       exact JR.entry (k:=2) (by simp [FR,x1,x5,e18]) HF.out (HBW.out.grown rG HBW.out.size (fun g hg=>by cases hg;exact eb)) x1 x5 (fun _=>rJ) rO (by intro j hj;unfold keyF;split <;> first | decide | exact absurd rfl hj) ⟨getD_keep q0,rR⟩
     · obtain rfl:=Option.some.inj hi
       have HF:=Lib.hid hF
       have HBW:=Lib.hid hB
       clear hi hF hB haf hun hs hlt
       refine wpOp_step rfl ?_
       intro K' hK'
       unfold FR
       go_simp
       refine hK' _ _ ?_
       exact JR.slot 20 (.pointer (some ⟨w.heap.size,5,none⟩)) (by simp [FR,upd,x1,x5]) HF.out HBW.out x1 x5 id (fun _ _ h=>h) (by decide) (by intro j hj;unfold slotF;split <;> first | decide | exact absurd rfl hj) (upd_at _ _ _)
     · obtain rfl:=Option.some.inj hi
       have q4:L.getD 4 false=true:=haf ⟨4,.data⟩ (by simp) rfl
       have e20:x 20=.pointer (some ⟨w.heap.size,5,none⟩):=hF 4 q4
       have hc:=H5.out W hB
       have HF:=Lib.hid hF
       have HBW:=Lib.hid hB
       clear hi hF hB haf hun hs hlt
       refine wpOp_step rfl ?_
       intro K' hK'
       unfold FR
       go_simp
       refine hK' _ _ ?_
       exact JR.slot 21 (.int .i64 N) (by simp [FR,upd,x1,x5,e20]) HF.out HBW.out x1 x5 id (fun _ _ h=>h) (by decide) (by intro j hj;unfold slotF;split <;> first | decide | exact absurd rfl hj) (upd_at _ _ _)
     · obtain rfl:=Option.some.inj hi
       have q5:L.getD 5 false=true:=haf ⟨5,.data⟩ (by simp) rfl
       have e21:x 21=.int .i64 N:=hF 5 q5
       have HF:=Lib.hid hF
       have HBW:=Lib.hid hB
       clear hi hF hB haf hun hs hlt
       refine wpOp_step rfl ?_
       intro K' hK'
       unfold FR
       go_simp
       refine (zigr_any N _ hN0 hN1).mono ?_
       rintro r W' ⟨rfl,rfl⟩
       refine hK' _ _ ?_
       exact JR.slot 22 (.int .u64 (zigN N)) (by simp [FR,upd,x1,x5,e21]) HF.out HBW.out x1 x5 id (fun _ _ h=>h) (by decide) (by intro j hj;unfold slotF;split <;> first | decide | exact absurd rfl hj) (upd_at _ _ _)
     · obtain rfl:=Option.some.inj hi
       have q6:L.getD 6 false=true:=haf ⟨6,.data⟩ (by simp) rfl
       have e22:x 22=.int .u64 (zigN N):=hF 6 q6
       have HF:=Lib.hid hF
       have HBW:=Lib.hid hB
       clear hi hF hB haf hun hs hlt
       refine wpOp_step rfl ?_
       intro K' hK'
       unfold FR
       go_simp
       refine (rvary_int (zigN N) _ hz.1 hz.2).mono ?_
       rintro r W' ⟨rfl,hb⟩
       rw [HP3.out]
       refine hK' _ _ ?_
       exact JR.slot 23 (.string P3) (by simp [FR,upd,x1,x5,e22]) HF.out (HBW.out.trans (hb.mono HBW.out.size)) x1 x5 (fun h=>h.below hb) (fun _ _ h=>h.below hb) (by decide) (by intro j hj;unfold slotF;split <;> first | decide | exact absurd rfl hj) (upd_at _ _ _)
     · obtain rfl:=Option.some.inj hi
       have q0:L.getD 0 false=true:=haf ⟨0,.data⟩ (by simp) rfl
       obtain ⟨e18,eJ,eb⟩:x 18=.map (some b)∧JT b W∧w2.heap.size≤b:=hF 0 q0
       have q7:L.getD 7 false=true:=haf ⟨7,.data⟩ (by simp) rfl
       have e23:x 23=.string P3:=hF 7 q7
       obtain ⟨W',hrun,rJ,rR,rO,rG⟩:=put_all eJ (k:=3) (.inr (.inr (.inl rfl))) hm3
       have HF:=Lib.hid hF
       have HBW:=Lib.hid hB
       clear hi hF hB haf hun hs hlt
       refine wpOp_step rfl ?_
       intro K' hK'
       unfold FR
       go_simp
       refine hK' _ _ ?_
       exact JR.entry (k:=3) (by simp [FR,x1,x5,e18,e23]) HF.out (HBW.out.grown rG HBW.out.size (fun g hg=>by cases hg;exact eb)) x1 x5 (fun _=>rJ) rO (by intro j hj;unfold keyF;split <;> first | decide | exact absurd rfl hj) ⟨getD_keep q0,rR⟩
     · obtain rfl:=Option.some.inj hi
       have HF:=Lib.hid hF
       have HBW:=Lib.hid hB
       clear hi hF hB haf hun hs hlt
       refine wpOp_step rfl ?_
       intro K' hK'
       unfold FR
       go_simp
       refine hK' _ _ ?_
       exact JR.slot 24 (.pointer (some ⟨w.heap.size,5,none⟩)) (by simp [FR,upd,x1,x5]) HF.out HBW.out x1 x5 id (fun _ _ h=>h) (by decide) (by intro j hj;unfold slotF;split <;> first | decide | exact absurd rfl hj) (upd_at _ _ _)
     · obtain rfl:=Option.some.inj hi
       have q9:L.getD 9 false=true:=haf ⟨9,.data⟩ (by simp) rfl
       have e24:x 24=.pointer (some ⟨w.heap.size,5,none⟩):=hF 9 q9
       have hc:=H5.out W hB
       have HF:=Lib.hid hF
       have HBW:=Lib.hid hB
       clear hi hF hB haf hun hs hlt
       refine wpOp_step rfl ?_
       intro K' hK'
       unfold FR
       go_simp
       refine hK' _ _ ?_
       exact JR.slot 25 (.int .i64 N) (by simp [FR,upd,x1,x5,e24]) HF.out HBW.out x1 x5 id (fun _ _ h=>h) (by decide) (by intro j hj;unfold slotF;split <;> first | decide | exact absurd rfl hj) (upd_at _ _ _)
     · obtain rfl:=Option.some.inj hi
       have q10:L.getD 10 false=true:=haf ⟨10,.data⟩ (by simp) rfl
       have e25:x 25=.int .i64 N:=hF 10 q10
       have HF:=Lib.hid hF
       have HBW:=Lib.hid hB
       clear hi hF hB haf hun hs hlt
       refine wpOp_step rfl ?_
       intro K' hK'
       unfold FR
       go_simp
       rw [HX.out]
       refine hK' _ _ ?_
       exact JR.slot 26 (.int .i64 X) (by simp [FR,upd,x1,x5,e25]) HF.out HBW.out x1 x5 id (fun _ _ h=>h) (by decide) (by intro j hj;unfold slotF;split <;> first | decide | exact absurd rfl hj) (upd_at _ _ _)
     · obtain rfl:=Option.some.inj hi
       have q11:L.getD 11 false=true:=haf ⟨11,.data⟩ (by simp) rfl
       have e26:x 26=.int .i64 X:=hF 11 q11
       have HF:=Lib.hid hF
       have HBW:=Lib.hid hB
       clear hi hF hB haf hun hs hlt
       refine wpOp_step rfl ?_
       intro K' hK'
       unfold FR
       go_simp
       refine hK' _ _ ?_
       exact JR.slot 27 (.int .u64 X) (by simp [FR,upd,x1,x5,e26]) HF.out HBW.out x1 x5 id (fun _ _ h=>h) (by decide) (by intro j hj;unfold slotF;split <;> first | decide | exact absurd rfl hj) (upd_at _ _ _)
     · obtain rfl:=Option.some.inj hi
       have q12:L.getD 12 false=true:=haf ⟨12,.data⟩ (by simp) rfl
       have e27:x 27=.int .u64 X:=hF 12 q12
       have HF:=Lib.hid hF
       have HBW:=Lib.hid hB
       clear hi hF hB haf hun hs hlt
       refine wpOp_step rfl ?_
       intro K' hK'
       unfold FR
       go_simp
       refine (rvary_int X _ hmx.1 (Int.le_trans hmx.2 (by decide))).mono ?_
       rintro r W' ⟨rfl,hb⟩
       rw [HP4.out]
       refine hK' _ _ ?_
       exact JR.slot 28 (.string P4) (by simp [FR,upd,x1,x5,e27]) HF.out (HBW.out.trans (hb.mono HBW.out.size)) x1 x5 (fun h=>h.below hb) (fun _ _ h=>h.below hb) (by decide) (by intro j hj;unfold slotF;split <;> first | decide | exact absurd rfl hj) (upd_at _ _ _)
     · obtain rfl:=Option.some.inj hi
       have HF:=Lib.hid hF
       have HBW:=Lib.hid hB
       clear hi hF hB haf hun hs hlt
       refine wpOp_step rfl ?_
       intro K' hK'
       unfold FR
       go_simp
       refine hK' _ _ ?_
       exact JR.slot 29 (.string S) (by simp [FR,upd,x1,x5]) HF.out HBW.out x1 x5 id (fun _ _ h=>h) (by decide) (by intro j hj;unfold slotF;split <;> first | decide | exact absurd rfl hj) (upd_at _ _ _)
     · obtain rfl:=Option.some.inj hi
       have q13:L.getD 13 false=true:=haf ⟨13,.data⟩ (by simp) rfl
       have e28:x 28=.string P4:=hF 13 q13
       have q14:L.getD 14 false=true:=haf ⟨14,.data⟩ (by simp) rfl
       have e29:x 29=.string S:=hF 14 q14
       have HF:=Lib.hid hF
       have HBW:=Lib.hid hB
       clear hi hF hB haf hun hs hlt
       refine wpOp_step rfl ?_
       intro K' hK'
       unfold FR
       go_simp
       refine hK' _ _ ?_
       exact JR.slot 30 (.string (P4 ++ S)) (by simp [FR,upd,x1,x5,e28,e29]) HF.out HBW.out x1 x5 id (fun _ _ h=>h) (by decide) (by intro j hj;unfold slotF;split <;> first | decide | exact absurd rfl hj) (upd_at _ _ _)
     · obtain rfl:=Option.some.inj hi
       have q0:L.getD 0 false=true:=haf ⟨0,.data⟩ (by simp) rfl
       obtain ⟨e18,eJ,eb⟩:x 18=.map (some b)∧JT b W∧w2.heap.size≤b:=hF 0 q0
       have q15:L.getD 15 false=true:=haf ⟨15,.data⟩ (by simp) rfl
       have e30:x 30=.string (P4 ++ S):=hF 15 q15
       obtain ⟨W',hrun,rJ,rR,rO,rG⟩:=put_all eJ (k:=4) (.inr (.inr (.inr rfl))) hm4
       have HF:=Lib.hid hF
       have HBW:=Lib.hid hB
       clear hi hF hB haf hun hs hlt
       refine wpOp_step rfl ?_
       intro K' hK'
       unfold FR
       go_simp
       refine hK' _ _ ?_
       exact JR.entry (k:=4) (by simp [FR,x1,x5,e18,e30]) HF.out (HBW.out.grown rG HBW.out.size (fun g hg=>by cases hg;exact eb)) x1 x5 (fun _=>rJ) rO (by intro j hj;unfold keyF;split <;> first | decide | exact absurd rfl hj) ⟨getD_keep q0,rR⟩
     · obtain rfl:=Option.some.inj hi
       have hall:∀ j,j < 17→L.getD j false=true:=fun j hj=>haf ⟨j,.data⟩ (by rcases (show j=0∨j=1∨j=2∨j=3∨j=4∨j=5∨j=6∨j=7∨j=8∨j=9∨j=10∨j=11∨j=12∨j=13∨j=14∨j=15∨j=16 by omega) with rfl | rfl | rfl | rfl | rfl | rfl | rfl | rfl | rfl | rfl | rfl | rfl | rfl | rfl | rfl | rfl | rfl <;> simp) rfl
       have q0:L.getD 0 false=true:=haf ⟨0,.data⟩ (by simp) rfl
       obtain ⟨e18,eJ,eb⟩:x 18=.map (some b)∧JT b W∧w2.heap.size≤b:=hF 0 q0
       have HF:=Lib.hid hF
       have HBW:=Lib.hid hB
       clear hi hF hB haf hun hs hlt
       refine wpOp_step rfl ?_
       intro K' hK'
       unfold FR
       go_simp
       refine hK' _ _ ?_
       exact JR.slot 31 (.map (some b)) (by simp [FR,upd,x1,x5,e18]) HF.out HBW.out x1 x5 id (fun _ _ h=>h) (by decide) (by intro j hj;unfold slotF;split <;> first | decide | exact absurd rfl hj) ⟨upd_at _ _ _,fun j hj=>getD_keep (hall j hj)⟩
     · obtain rfl:=Option.some.inj hi
       have HF:=Lib.hid hF
       have HBW:=Lib.hid hB
       clear hi hF hB haf hun hs hlt
       refine wpOp_step rfl ?_
       intro K' hK'
       unfold FR
       go_simp
       refine hK' _ _ ?_
       exact JR.slot 32 (.pointer (some ⟨w.heap.size,2,none⟩)) (by simp [FR,upd,x1,x5]) HF.out HBW.out x1 x5 id (fun _ _ h=>h) (by decide) (by intro j hj;unfold slotF;split <;> first | decide | exact absurd rfl hj) (upd_at _ _ _)
     · obtain rfl:=Option.some.inj hi
       have q18:L.getD 18 false=true:=haf ⟨18,.data⟩ (by simp) rfl
       have e32:x 32=.pointer (some ⟨w.heap.size,2,none⟩):=hF 18 q18
       have hc:=H2.out W hB
       have HF:=Lib.hid hF
       have HBW:=Lib.hid hB
       clear hi hF hB haf hun hs hlt
       refine wpOp_step rfl ?_
       intro K' hK'
       unfold FR
       go_simp
       refine hK' _ _ ?_
       exact JR.slot 33 (.int .i64 K) (by simp [FR,upd,x1,x5,e32]) HF.out HBW.out x1 x5 id (fun _ _ h=>h) (by decide) (by intro j hj;unfold slotF;split <;> first | decide | exact absurd rfl hj) (upd_at _ _ _)
     · obtain rfl:=Option.some.inj hi
       have q17:L.getD 17 false=true:=haf ⟨17,.data⟩ (by simp) rfl
       obtain ⟨e31,hall⟩:x 31=.map (some b)∧∀ j,j < 17→L.getD j false=true:=hF 17 q17
       have q19:L.getD 19 false=true:=haf ⟨19,.data⟩ (by simp) rfl
       have e33:x 33=.int .i64 K:=hF 19 q19
       have r1:L.getD 0 false=true∧RT b W 1 S:=hF 2 (hall 2 (by decide))
       have r2:L.getD 0 false=true∧RT b W 2 ⟨#[]⟩:=hF 3 (hall 3 (by decide))
       have r3:L.getD 0 false=true∧RT b W 3 P3:=hF 8 (hall 8 (by decide))
       have r4:L.getD 0 false=true∧RT b W 4 (P4 ++ S):=hF 16 (hall 16 (by decide))
       have hrun:=look_all (tail_one r1.2 r2.2 r3.2 r4.2 HAT.out) HKB.out
       have HF:=Lib.hid hF
       have HBW:=Lib.hid hB
       clear hi hF hB haf hun hs hlt
       refine wpOp_step rfl ?_
       intro K' hK'
       unfold FR
       go_simp
       refine hK' _ _ ?_
       exact JR.slot 34 (.string (tailB K val N)) (by simp [FR,upd,x1,x5,e31,e33]) HF.out HBW.out x1 x5 id (fun _ _ h=>h) (by decide) (by intro j hj;unfold slotF;split <;> first | decide | exact absurd rfl hj) (upd_at _ _ _)
     · obtain rfl:=Option.some.inj hi
       have q20:L.getD 20 false=true:=haf ⟨20,.data⟩ (by simp) rfl
       have e34:x 34=.string (tailB K val N):=hF 20 q20
       have HF:=Lib.hid hF
       have HBW:=Lib.hid hB
       clear hi hF hB haf hun hs hlt
       refine wpOp_step rfl ?_
       intro K' hK'
       unfold FR
       go_simp
       refine hK' _ _ ?_
       exact JR.slot 2 (.string (tailB K val N)) (by simp [FR,upd,x1,x5,e34]) HF.out HBW.out x1 x5 id (fun _ _ h=>h) (by decide) (by intro j hj;unfold slotF;split <;> first | decide | exact absurd rfl hj) (upd_at _ _ _)
     · obtain rfl:=Option.some.inj hi
       have HF:=Lib.hid hF
       have HBW:=Lib.hid hB
       clear hi hF hB haf hun hs hlt
       refine wpOp_step rfl ?_
       intro K' hK'
       unfold FR
       go_simp
       refine hK' _ _ ?_
       exact JR.slot 3 (.int .i64 0) (by simp [FR,upd,x1,x5]) HF.out HBW.out x1 x5 id (fun _ _ h=>h) (by decide) (by intro j hj;unfold slotF;split <;> first | decide | exact absurd rfl hj) (upd_at _ _ _)
 · have hne:((E:Int) != 0)=true:=by simp;omega
   have HT:=Lib.hid (tailF_bad (by rw [HE.out];exact h0))
   go_wp2
   go_ret2
   rw [HT.out,HE.out]
   exact ⟨rfl,HB1.out⟩
end Go.Proofs.YtjkbmfpomgcblaaGreatDoor
