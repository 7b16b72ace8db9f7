import Derived.Test.YtjkbmfpomgcblaaGreatDoorKw16
namespace Go.Proofs.YtjkbmfpomgcblaaGreatDoor
open Go.RowKit
theorem place_hit {h:List Ent} {r:Int} {k:Nat} {e:Ent} (hk:h[k]? = some e) (hle:k≤placeF h r) (he:e.rep=r):placeF h r=k:=by
 obtain ⟨hl,hx⟩:=List.getElem?_eq_some_iff.1 hk
 refine Nat.le_antisymm (Nat.not_lt.1 fun hlt=>?_) hle
 have h2 : ¬ (decide ((h[k]'hl).rep = r) = true) := by simpa using List.not_of_lt_findIdx hlt
 exact h2 (by rw [hx];simpa using he)
theorem place_miss {h:List Ent} {r:Int} {k:Nat} {e:Ent} (hk:h[k]? = some e) (hle:k≤placeF h r) (he:e.rep≠r):k + 1≤placeF h r:=by
 obtain ⟨hl,hx⟩:=List.getElem?_eq_some_iff.1 hk
 refine Nat.lt_of_le_of_ne hle fun heq=>he ?_
 have hlt:h.findIdx (fun e=>decide (e.rep=r)) < h.length:=by show placeF h r < _;omega
 have h2:=List.findIdx_getElem (w:=hlt)
 have h3 : h[h.findIdx (fun e => decide (e.rep = r))]'hlt = h[k]'hl := by congr 1; exact heq.symm
 rw [h3,hx] at h2
 simpa using h2
theorem place_has {h:List Ent} {r:Int} (hlt:placeF h r < h.length):∃ e,h[placeF h r]? = some e∧e.rep=r:=by
 have h2:=List.findIdx_getElem (p:=fun e:Ent=>decide (e.rep=r)) (w:=hlt)
 exact ⟨_, List.getElem?_eq_getElem hlt, by show (h[h.findIdx (fun e => decide (e.rep = r))]'hlt).rep = r; simpa using h2⟩
set_option maxRecDepth 100000 in
theorem place1_any (x t r:Int) (B:Nat) (w:World) (c:Bool) (hB:B < w.heap.size) (h0:w.cell? ⟨B,0,none⟩=some (.int .i64 r)) (hc:decide (x=r)=c) :
   Calls Tryz.prog 167 #[.agg #[.int .i64 x,.int .i64 t],.pointer (some ⟨B,0,none⟩)] w fun e w'=>e=.returned (.bool c)∧Below w.heap.size w w':=by
 have hcc:(x == r)=c:=by rw [←hc];rfl
 have h1:(w.alloc (.cells #[.int .i64 x,.int .i64 t] 74)).cell? ⟨B,0,none⟩=some (.int .i64 r):=(World.cell?_alloc_lt _ _ _ hB).trans h0
 go_enter Tryz.func167,Tryz.ntmps167
 go_wp2
 go_ret
 exact ⟨by first | rfl | (rw [hcc]),(Below.refl _ _).alloc (Nat.le_refl _) _⟩
set_option maxRecDepth 100000 in
set_option maxHeartbeats 2000000 in
theorem idxe_any (v:Value) (h:List Ent) (r:Int) (p B:Nat) (w:World) (hv:IsEnts w v h) (hl:h.length≤1000000) (hB:B < w.heap.size) (h0:w.cell? ⟨B,0,none⟩=some (.int .i64 r)) (hp:placeF h r=p) (hpl:p < h.length) :
   Calls Tryz.prog 166 #[v,.func (.func 167) #[] #[.pointer (some ⟨B,0,none⟩)]] w fun e w'=>e=.returned (.int .i64 (p:Int))∧Below w.heap.size w w':=by
 obtain ⟨a1,c1,rfl,f1⟩:=hv.form
 have F1:=Lib.hid f1
 obtain ⟨n,hn⟩:∃ n,n=h.length:=⟨_,rfl⟩
 rw [←hn] at hl hpl ⊢
 have HN:=Lib.hid hn
 have HP:=Lib.hid hp
 clear f1 hn hv hp
 go_enter Tryz.func166,Tryz.ntmps166
 go_wp2
 go_loopw [8] (fun i wr=>∃ k:Nat,k≤p∧i=.int .i64 k∧Below w.heap.size w wr) (fun i _=>n - (intOf i).toNat)
 case atStart=>exact ⟨0,Nat.zero_le _,rfl,Below.refl _ _⟩
 case round =>
   obtain ⟨k,hk,rfl,hbel⟩:=hrel
   have HB:=Lib.hid hbel
   clear hbel
   obtain ⟨x, hx⟩ : ∃ x, h[k]? = some x := ⟨h[k]'(by have := HN.out; omega), List.getElem?_eq_getElem _⟩
   obtain ⟨b1,o1,rfl,hb1,p0,p1⟩:=F1.out k x hx
   have hlt:k < n:=by omega
   have q0:=(HB.out.cell (p:=⟨b1,o1 + k * 2,none⟩) hb1).trans p0
   have q1:=(HB.out.cell (p:=⟨b1,o1 + k * 2 + 1,none⟩) hb1).trans p1
   have HC:Hid (wr.cell? ⟨B,0,none⟩=some (.int .i64 r)):=Lib.hid ((HB.out.cell (p:=⟨B,0,none⟩) hB).trans h0)
   have HBW:Hid (B < wr.heap.size):=Lib.hid (Nat.lt_of_lt_of_le hB HB.out.size)
   obtain ⟨c,hc⟩:∃ c,decide (x.rep=r)=c:=⟨_,rfl⟩
   have HCC:=Lib.hid hc
   have HX:=Lib.hid hx
   obtain ⟨X,T⟩:=x
   dsimp only at q0 q1 HCC
   clear p0 p1 hx hc
   go_wp2_with fail
   refine (place1_any X T r B wr c HBW.out HC.out HCC.out).mono ?_
   rintro rr w1 ⟨rfl,hb1⟩
   have HB1:Hid (Below w.heap.size w w1):=HB.out.trans (hb1.mono HB.out.size)
   clear hb1 q0 q1
   cases c with
   | true =>
     have hpk:=place_hit HX.out (by rw [HP.out];exact hk) (of_decide_eq_true HCC.out)
     rw [HP.out] at hpk
     have HPK:=Lib.hid hpk
     clear hpk
     go_wp2
     go_ret
     exact ⟨by rw [HPK.out];rfl,HB1.out⟩
   | false =>
     have hpk:=place_miss HX.out (by rw [HP.out];exact hk) (of_decide_eq_false HCC.out)
     rw [HP.out] at hpk
     go_wp2
     go_roundw
     case rel=>exact ⟨k + 1,hpk,by go_num,HB1.out⟩
     case measure=>simp [intOf];omega
set_option maxRecDepth 100000 in
theorem bplace_any (v:Value) (h:List Ent) (r:Int) (p:Nat) (w:World) (hv:IsEnts w v h) (hl:h.length≤1000000) (hp:placeF h r=p) (hpl:p < h.length) :
   Calls Tryz.prog 110 #[v,.int .i64 r] w fun e w'=>e=.returned (.int .i64 (p:Int))∧Below w.heap.size w w':=by
 have hmf:∀ (fn:Fn) (first cap:Array Value) (w:World),(Instr.makeFunc fn first cap).run Tryz.prog w=.ok (.func fn first cap) w:=fun _ _ _ _=>rfl
 have HV:=Lib.hid (hv.below ((Below.refl _ _).alloc (Nat.le_refl _) (.cells #[.int .i64 r] 3)))
 clear hv
 go_enter Tryz.func110,Tryz.ntmps110
 go_wp2_with fail
 refine (idxe_any v h r p w.heap.size _ HV.out hl (by simp) (by simp) hp hpl).mono ?_
 rintro rr w1 ⟨rfl,hb1⟩
 have HB1:Hid (Below w.heap.size w w1):=Lib.hid (((Below.refl _ _).alloc (Nat.le_refl _) _).trans (hb1.mono (by simp)))
 clear hb1
 go_wp2
 go_ret
 exact ⟨rfl,HB1.out⟩
end Go.Proofs.YtjkbmfpomgcblaaGreatDoor
