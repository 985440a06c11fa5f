package tests

import (
	"math"
	"testing"

	"loop.example/exopager/impl"
)

// P6
func TestPartsOfAnAddress(t *testing.T) {
	done := 0
	for _, address := range allNumbers() {
		top, low, at, ok := impl.AddressCut(address)
		if !ok {
			continue
		}
		done++
		for _, part := range []int{top, low, at} {
			if part < 0 || part > 3 {
				t.Errorf("AddressCut(%d) has the part %d", address, part)
			}
		}
		if 16*top+4*low+at != address {
			t.Errorf("AddressCut(%d) is %d, %d, %d", address, top, low, at)
		}
	}
	if done != 64 {
		t.Errorf("AddressCut succeeded %d times, not 64", done)
	}
}

// P6, P7: the addresses counted up part by part.
func TestAddressCutOfAllAddresses(t *testing.T) {
	address := 0
	for top := range 4 {
		for low := range 4 {
			for at := range 4 {
				a, b, c, ok := impl.AddressCut(address)
				if a != top || b != low || c != at || !ok {
					t.Errorf("AddressCut(%d) is %d, %d, %d, %t", address, a, b, c, ok)
				}
				address++
			}
		}
	}
}

// P7
func TestAddressCutOfNoAddress(t *testing.T) {
	for _, address := range allNumbers() {
		if address >= 0 && address <= 63 {
			continue
		}
		if top, low, at, ok := impl.AddressCut(address); top != 0 || low != 0 || at != 0 || ok {
			t.Errorf("AddressCut(%d) is %d, %d, %d, %t", address, top, low, at, ok)
		}
	}
}

// P8
func TestAddressOfThenCut(t *testing.T) {
	for page := range 16 {
		for place := range 4 {
			address, ok := impl.AddressOf(page, place)
			top, low, at, fine := impl.AddressCut(address)
			if !ok || !fine || top != page/4 || low != page%4 || at != place {
				t.Errorf("AddressOf(%d, %d) is %d, %t, and AddressCut of it %d, %d, %d, %t", page, place, address, ok, top, low, at, fine)
			}
		}
	}
}

// P8: the addresses counted up page by page.
func TestAddressOfAllPages(t *testing.T) {
	want := 0
	for page := range 16 {
		for at := range 4 {
			if address, ok := impl.AddressOf(page, at); address != want || !ok {
				t.Errorf("AddressOf(%d, %d) is %d, %t, not %d", page, at, address, ok, want)
			}
			want++
		}
	}
}

func checkNoAddressOf(t *testing.T, page int, at int) {
	t.Helper()
	if address, ok := impl.AddressOf(page, at); address != 0 || ok {
		t.Errorf("AddressOf(%d, %d) is %d, %t", page, at, address, ok)
	}
}

// P8: one of both does not exist, or neither does, though the sum may be that of an address.
func TestAddressOfNoPageOrPlace(t *testing.T) {
	for page := -300; page <= 300; page++ {
		for at := -300; at <= 300; at++ {
			if page < 0 || page > 15 || at < 0 || at > 3 {
				checkNoAddressOf(t, page, at)
			}
		}
	}
}

// P8: pages and places so far away that their product or sum may not fit into a number.
func TestAddressOfFarPagesAndPlaces(t *testing.T) {
	for _, far := range farNumbers() {
		for near := -4; near <= 17; near++ {
			if far < 0 || far > 15 {
				checkNoAddressOf(t, far, near)
			}
			if far < 0 || far > 3 {
				checkNoAddressOf(t, near, far)
			}
		}
	}
	edges := []int{math.MinInt, math.MinInt / 4, -1 << 32, 1 << 32, math.MaxInt / 4, math.MaxInt}
	for _, page := range edges {
		for _, at := range edges {
			checkNoAddressOf(t, page, at)
		}
	}
}
